/- Contract of the program's function on strata. -/
import Derived.Test.YtojjoblnpldniaaGreatSq
import Derived.Test.YtojjoblnpldniaaGreatJ6
import Derived.Test.YtojjoblnpldniaaGreatJ10
import Derived.Test.YtojjoblnpldniaaGreatJ11
open Go.Proofs.Tryz
set_option maxHeartbeats 80000000
namespace Go.Proofs.YtojjoblnpldniaaGreat
open ChangeShapes WideShapes ChangeAt RowKit Maps
open Pl
def Jo(ts:Q0b)(w:World)(e:Ending)(w':World):Prop :=
 ((∃(b n:Nat) (σ:Ky->Option Int),e=.returned (.tuple #[.map (some b),.bool true])/\bZ ts/\aN dE prog 146 w' b n (jD σ)/\Least ts (fun k=>(σ k).getD 0)/\∀k,(∃x,σ k=some x)↔k∈ay ts)\/(e=.returned (.tuple #[.map none,.bool false])/\¬bZ ts))/\ag w w'
set_option maxRecDepth 100000 in
theorem xH(ad:Q02)(cap:Nat)(rs:Q06)(w:af)(hlen:rs.length<=1048576)(hs:jX w ad rs)(hl:∀r∈rs,r.light)(hf:∀r∈rs,r.fits)(hcp:∀r∈rs,r.caps):
  Calls prog 112 #[.slice ad rs.length cap] w (Jo (ae rs) w):=by
 have HS:=aB hs;have HL:=aB hl;have Yc:=aB hf;have HCT:=aB hcp;clear hs hl hf hcp;go_enter func112,ntmps112;go_wp2_with fail;refine(IX ad cap rs _ hlen HS.out HL.out Yc.out HCT.out).mono ?_;rintro e w1 ⟨rfl,hb1⟩;have HB1:=aB hb1;clear hb1;cases hsh:bB (ae rs);case false=>
  have HP:Hid (Jo (ae rs) w (.returned (.tuple #[.map none,.bool false])) w1):=⟨.inr ⟨rfl,fun h=>by rw[h.1]at hsh;cases hsh⟩,HB1.out⟩;go_wp2;refine bodyPost_ret (v:=.tuple #[.map none,.bool false]) ?_ rfl HP.out;simp[results,Tryz.results112,go_sem]
 have HSH:Hid (bB (ae rs)=true):=hsh;obtain⟨h6,YN,hex⟩:=aW hsh;have Za:Hid (∀r∈rs,r.rows.length<=6):=YN;have ZH:Hid (∀r∈rs,∀q∈r.rows,aK (ai q.rows)=true/\q.rows.length<=15/\∀e∈q.rows,fF q.rows.length e.e.kids):=hex;have HT:Hid (Tab rs (lN rs)):=rM hsh;clear hsh YN hex;go_wp2_with fail;refine(lq ad cap rs _ h6 (HS.out.below HB1.out) Za.out Yc.out).mono ?_;rintro e w2 ⟨rfl,hV2,hb2⟩;have HB2:=iD HB1 hb2;obtain⟨bT,hbT⟩:=eQx w1.heap.size;rw[<-hbT]at hV2 ⊢;have HV2:Hid (aN dE prog 146 w2 bT 36 (lN rs)):=hV2;clear hV2 hb2 hbT HB1;go_wp2_with fail;go_loopw[16] (fun i wr=>∃k:Nat,k<=rs.length/\i=.int .i64 k/\Hid (((ae rs).take k).all (rz (ae rs))=true)/\Hid (ag w wr)/\Hid (aN dE prog 146 wr bT 36 (lN rs))) (fun i _=>rs.length-(intOf i).toNat);case atStart=>exact⟨0,WO _,rfl,(by show _=_;simp),HB2,HV2⟩
 clear HB2 HV2;obtain⟨k,hk,rfl,HP,HB,HV⟩:=hrel;by_cases hlt:k<rs.length
 ·rcases HS.out.below HB.out with rfl|⟨b,off,rfl,hb,hr,-⟩
  ·simp at hlt
  obtain⟨t0,t1⟩:=hr k hlt;have hk1:=bY k;have hk2:(k:Int)<(rs.length:Int):=by omega
  have h66:=Za.out _ (WH hlt);have z0:rs[k].name.size<=maxLen:=(Yc.out _ (WH hlt)).1;obtain⟨W1,hW1⟩:=eQx (wr.alloc (.cells #[.string rs[k].name,.slice rs[k].ad rs[k].rows.length rs[k].cap] 36));have hal:ag wr W1:=by rw[hW1];exact(WL _ _).alloc (WK _) _
  obtain⟨g6,hg6⟩:=eQx wr.heap.size;have YH:Hid (W1.cell? ⟨g6,0,none⟩=some (.string rs[k].name)/\g6<W1.heap.size):=⟨by rw[hW1,hg6];simp,by rw[hW1,hg6];simp⟩;have HB1:=iD HB hal;have HV1:=aB (HV.out.below hal);clear hr hal HB HV;go_wp2_with fail;rw[<-hW1,<-hg6];clear hW1 t0 t1 hg6;go_loopw[23] (fun i w3=>∃j:Nat,j<=rs[k].rows.length/\i=.int .i64 j/\Hid (((df rs[k].rows).take j).all (fun r=>aT (ae rs) rs[k].name r.expr)=true)/\Hid (ag w w3)/\Hid (aN dE prog 146 w3 bT 36 (lN rs))/\Hid (w3.cell? ⟨g6,0,none⟩=some (.string rs[k].name)/\g6<w3.heap.size)) (fun i _=>rs[k].rows.length-(intOf i).toNat);case atStart=>exact⟨0,WO _,rfl,(by show _=_;simp),HB1,HV1,YH⟩
  clear HB1 HV1 YH;obtain⟨j,hj,rfl,HR,HB,HV,HC⟩:=hrel;by_cases hjl:j<rs[k].rows.length
  ·rcases HS.out.below HB.out with hnil|⟨b',off',he,hb2,hr,hok⟩
   ·rw[hnil]at hlt;simp at hlt
   injection he with he;injection he with he1 he2;subst he1;subst he2;have ok:=hok rs[k] (WH hlt);rcases ok with hnil|⟨b2,X7,had,hbb,hr2,hok2⟩
   ·rw[hnil]at hjl;simp at hjl
   obtain⟨q0,q1⟩:=hr2 j hjl;have HSE:Hid (iw wr rs[k].rows[j].ad rs[k].rows[j].rows):=hok2 _ (WH hjl);have Z6:Hid (rs[k].rows[j].light):=(HL.out _ (WH hlt)).2 _ (WH hjl);have ZN:Hid (rs[k].rows[j].fits):=(Yc.out _ (WH hlt)).2.2 _ (WH hjl);have HNB:Hid (∀q∈rs[k].rows[j].rows,ax q.e=true):=fun q hq=>dR (ZH.out _ (WH hlt) _ (WH hjl)).1 q.e (by unfold ai;exact Xk hq);have hj1:=bY j;have hj2:(j:Int)<(rs[k].rows.length:Int):=by omega
   obtain⟨x0,x1⟩:=HC.out;obtain⟨W3,hW3⟩:=eQx (wr.alloc (.cells #[.string rs[k].rows[j].name,.slice rs[k].rows[j].ad rs[k].rows[j].rows.length rs[k].rows[j].cap] 39));have hal:ag wr W3:=by rw[hW3];exact(WL _ _).alloc (WK _) _
   have HB3:=iD HB hal;have HV3:=aB (HV.out.below hal);have Yq:=aB hal;have HC3:Hid (W3.cell? ⟨g6,0,none⟩=some (.string rs[k].name)/\g6<W3.heap.size):=⟨aD hal x1 x0,WJ x1 hal.size⟩;have HTS:Hid ((df rs[k].rows).take (j+1)=(df rs[k].rows).take j++[rs[k].rows[j].p]):=IB rs[k].rows j hjl;rw[had];clear hr hok hr2 hok2 hal HB HV HC;go_wp2_with fail;rw[<-hW3];clear hW3 q0 q1 x0 x1;refine(Br (some ⟨b,off,none⟩) rs[k].rows[j].ad cap rs[k].rows[j].cap rs bT 36 (lN rs) rs[k].name rs[k].rows[j].rows _ hlen (HS.out.below HB3.out) HL.out Yc.out HV3.out HT.out z0 Z6.out.1 (HSE.out.below Yq.out) Z6.out.2 ZN.out.2.2 HNB.out).mono ?_;rintro e w5 ⟨rfl,hb5⟩;have Yo:=iD HB3 hb5;have HV5:=aB (HV3.out.below hb5);have HC5:Hid (w5.cell? ⟨g6,0,none⟩=some (.string rs[k].name)/\g6<w5.heap.size):=⟨aD hb5 HC3.out.2 HC3.out.1,WJ HC3.out.2 hb5.size⟩;clear hb5;cases hrf:aT (ae rs) rs[k].name (ai rs[k].rows[j].rows);case false=>
    have HPO:Hid (Jo (ae rs) w (.returned (.tuple #[.map none,.bool false])) w5):=by
     refine⟨.inr ⟨rfl,fun hs=>?_⟩,Yo.out⟩;have h1:=hs.2.1;unfold iG at h1;rw[WT]at h1;have h2:=h1 rs[k].p (by unfold ae;exact Xk (WH hlt));unfold rz at h2;rw[WT]at h2;have h3:=h2 rs[k].rows[j].p (by show _∈df rs[k].rows;unfold df;exact Xk (WH hjl));have h4:aT (ae rs) rs[k].name (ai rs[k].rows[j].rows)=true:=h3;rw[hrf]at h4;cases h4
    go_wp2;refine bodyPost_ret (v:=.tuple #[.map none,.bool false]) ?_ rfl HPO.out;simp[results,Tryz.results112,go_sem]
   have ZB:Hid (((df rs[k].rows).take (j+1)).all (fun r=>aT (ae rs) rs[k].name r.expr)=true):=by
    show _=_;rw[HTS.out,XU,HR.out];have:aT (ae rs) rs[k].name rs[k].rows[j].p.expr=true:=hrf;simp[this]
   go_wp2;go_roundw;case rel=>exact⟨j+1,by omega,by go_num,ZB,Yo,HV5,HC5⟩
   simp[intOf]<;>omega
  obtain rfl:j=rs[k].rows.length:=by omega
  have HPN:Hid (((ae rs).take (k+1)).all (rz (ae rs))=true):=by
   show _=_;rw[IA rs k hlt,XU,HP.out];have h1:=HR.out;rw[<-dP,Xa]at h1;have:rz (ae rs) rs[k].p=true:=h1;simp[this]
  go_wp2;go_roundw;case rel=>exact⟨k+1,by omega,by go_num,HPN,HB,HV⟩
  simp[intOf]<;>omega
 obtain rfl:k=rs.length:=by omega
 have HRA:Hid (iG (ae rs)=true):=by
  have h1:=HP.out;rw[<-bz,Xa]at h1;exact h1
 go_wp2_with fail;refine(Dt ad cap rs bT 36 (lN rs) _ h6 (HS.out.below HB.out) HL.out Yc.out Za.out (fun r hr q hq=>(ZH.out r hr q hq).2) (Q6 HSH.out) HV.out HT.out).mono ?_;rintro e w5 ⟨rfl,⟨nL,ML,hG5⟩,hb5⟩;have Yo:=iD HB hb5;have ZF:Hid (Grp w5 wr.heap.size nL ML (jR (ae rs) rs)):=hG5;clear hG5 hb5;go_wp2_with fail;refine(zS ad cap rs wr.heap.size nL ML (jR (ae rs) rs) _ h6 (HS.out.below Yo.out) Yc.out Za.out ZF.out (TF HSH.out HRA.out) (mU HRA.out) (Om rs Za.out ZH.out (Q6 HSH.out))).mono ?_;rintro e w6 ⟨hL,hb6⟩;have HB6:=iD Yo hb6;clear hb6;rcases hL with⟨bS,nS,σ,rfl,hM,hLe,hk⟩|⟨rfl,hno⟩
 ·have HPO:Hid (Jo (ae rs) w (.returned (.tuple #[.map (some bS),.bool true])) w6):=⟨.inl ⟨bS,nS,σ,rfl,⟨HSH.out,HRA.out,_,hLe.sol⟩,hM,hLe,hk⟩,HB6.out⟩;clear hM hLe hk;go_wp2;refine bodyPost_ret (v:=.tuple #[.map (some bS),.bool true]) ?_ rfl HPO.out;simp[results,Tryz.results112,go_sem]
 have HPO:Hid (Jo (ae rs) w (.returned (.tuple #[.map none,.bool false])) w6):=⟨.inr ⟨rfl,fun h=>hno h.2.2⟩,HB6.out⟩;clear hno;go_wp2;refine bodyPost_ret (v:=.tuple #[.map none,.bool false]) ?_ rfl HPO.out;simp[results,Tryz.results112,go_sem]
theorem dz(ad:Q02)(cap:Nat)(rs:Q06)(w:af)(hlen:rs.length<=1048576)(hs:jX w ad rs)(hl:∀r∈rs,r.light)(hf:∀r∈rs,r.fits)(hcp:∀r∈rs,r.caps):
  Calls prog 43 #[.slice ad rs.length cap] w fun e w'=>e=.returned (.bool (aG (ae rs)))/\ag w w':=by
 have HC:=xH ad cap rs w hlen hs hl hf hcp;clear hs hl hf hcp;go_enter func43,ntmps43;go_wp2_with fail;refine HC.mono ?_;rintro e w6 ⟨hL,hb6⟩;rcases hL with⟨bS,nS,σ,rfl,hS,-⟩|⟨rfl,hno⟩
 ·have HY:=zl hS;have HY2:Hid (aG (ae rs)=true):=HY;clear HY hS HC;go_wp2;go_ret;exact⟨ah HY2.out.symm,hb6⟩
 have HY2:Hid (aG (ae rs)=false):=ed hno;clear hno HC;go_wp2;go_ret;exact⟨ah HY2.out.symm,hb6⟩
set_option linter.unusedVariables false
set_option maxRecDepth 100000
theorem kV.keepB{w w2:af}{ad:Q02}{xs:Q0a}(h:kV w ad xs)(hs:w.heap.size<=w2.heap.size)(hb:∀g,g<w.heap.size->w2.heap[g]?=w.heap[g]?):kV w2 ad xs:=by
 rcases h with h|⟨b,off,e,hb',hr⟩
 ·exact .inl h
 exact .inr ⟨b,off,e,WJ hb' hs,fun i hi=>(hr i hi).same fun o=>WX (a:=⟨b,o,none⟩) (hb b hb')⟩
theorem sK.keepB{w w2:af}{ad:Q02}{xs:List Int}(h:sK w ad xs)(hs:w.heap.size<=w2.heap.size)(hb:∀g,g<w.heap.size->w2.heap[g]?=w.heap[g]?):sK w2 ad xs:=by
 rcases h with h|⟨b,off,e,hb',hr⟩
 ·exact .inl h
 exact .inr ⟨b,off,e,WJ hb' hs,fun i hi=>(WX (a:=⟨b,off+i,none⟩) (hb b hb')).trans (hr i hi)⟩
theorem M7{w1 w2:af}{r:ER}{b:Nat}(hb:w1.heap[b]?=some (.cells #[.int .i64 r.e.kind,.slice r.adA r.e.allow.length r.capA,.string r.e.over,.string r.e.name,.slice r.adK r.e.kids.length r.capK] 43 (0,0)))(hlt:b<w1.heap.size)(hs:w1.heap.size<=w2.heap.size)(h2:w2.heap[b]?=w1.heap[b]?)(hok:r.ok w2):iw w2 (some ⟨b,0,none⟩) [r]:=by
 refine .inr ⟨b,0,rfl,WJ hlt hs,fun i hi=>?_,fun q hq=>by rw[WZ]at hq;subst hq;exact hok⟩;have e:i=0:=by simpa using hi
 subst e;have hc:∀o,w2.cell? ⟨b,o,none⟩=w1.cell? ⟨b,o,none⟩:=fun o=>WX (a:=⟨b,o,none⟩) h2;refine⟨?_,?_,?_,?_,?_⟩
 all_goals
  rw[hc];simp[World.cell?,hb]
def Vu(w0:World)(D:Option (List Ty))(e:Ending)(w':World):Prop:=∃(v:Value) (qs:Q06),e=.returned (.tuple #[v,.bool D.isSome])/\ae qs=D.getD []/\dA w' w0.heap.size v qs/\ag w0 w'
theorem jh{w0 w':af}{D:Option (List Ty)}(h:D=none)(hb:ag w0 w'):Vu w0 D (.returned (.tuple #[.slice none 0 0,.bool false])) w':=⟨.slice none 0 0,[],by rw[h];rfl,by rw[h];rfl,mY _ _,hb⟩
structure PI(w2:World)(SLV:Value)(typ rel:ByteArray)(M:ByteArray×ByteArray->Option Value)(l:Nat->Bool)(f:Nat->Value)(w:World):Prop where
 v0:l 0=true->f 0=SLV
 v2:l 2=true->f 2=.string typ
 v3:l 3=true->f 3=.string rel
 v4:l 4=true->f 4=.agg #[.string typ,.string rel]
 bel:ag w2 w
 c1:l 1=true->∃b,f 1=.map (some b)/\w2.heap.size<=b/\aN dE prog 146 w b 36 M
 a5:l 5=true->∃g,f 5=.pointer (some ⟨g,0,none⟩)/\w2.heap.size<=g/\w.heap[g]?=some (.cells #[if l 7=true then f 1 else .map none] 102 (0,0))
 a6:l 6=true->∃g,f 6=.pointer (some ⟨g,0,none⟩)/\w2.heap.size<=g/\w.heap[g]?=some (.cells #[.string ⟨#[]⟩,.string ⟨#[]⟩] 146 (0,0))
 o7:l 7=true->l 1=true/\l 5=true
theorem lt_of_some{w:af}{g:Nat}{o:Obj}(h:w.heap[g]?=some o):g<w.heap.size:=(WQ.1 h).1
theorem PI.add{w2 w:af}{SLV:Value}{typ rel:ByteArray}{M:ByteArray×ByteArray->Option Value}{l:Nat->Bool}{f:Nat->Value}(h:PI w2 SLV typ rel M l f w)(i:Nat)(v:Value)(hl:l i=false)(h7:i≠7)
  (n0:i=0->v=SLV) (n2:i=2->v=.string typ) (n3:i=3->v=.string rel) (n4:i=4->v=.agg #[.string typ,.string rel]) (n1:i=1->∃b,v=.map (some b)/\w2.heap.size<=b/\aN dE prog 146 w b 36 M)
  (n5:i=5->∃g,v=.pointer (some ⟨g,0,none⟩)/\w2.heap.size<=g/\w.heap[g]?=some (.cells #[.map none] 102 (0,0))) (n6:i=6->∃g,v=.pointer (some ⟨g,0,none⟩)/\w2.heap.size<=g/\w.heap[g]?=some (.cells #[.string ⟨#[]⟩,.string ⟨#[]⟩] 146 (0,0))) :
  PI w2 SLV typ rel M (fun k=>if k=i then true else l k) (upd f i v) w:=by
 have key:∀{k:Nat} {P:Value->Prop},(l k=true->P (f k))->(i=k->P v)->(if k=i then true else l k)=true->P (upd f i v k):=fun {k P} h1 h2 h3=>by
  by_cases e:k=i
  ·subst e;simp only[upd,if_true];exact h2 rfl
  rw[if_neg e]at h3;simp only[upd,if_neg e];exact h1 h3
 have e7:(if (7:Nat)=i then true else l 7)=l 7:=if_neg (Ne.symm h7);refine⟨key (P:=fun x=>x=SLV) h.v0 n0,key (P:=fun x=>x=.string typ) h.v2 n2,key (P:=fun x=>x=.string rel) h.v3 n3,key (P:=fun x=>x=.agg #[.string typ,.string rel]) h.v4 n4,h.bel,key (P:=fun x=>∃b,x=.map (some b)/\w2.heap.size<=b/\aN dE prog 146 w b 36 M) h.c1 n1,fun h5=>?_,key (P:=fun x=>∃g,x=.pointer (some ⟨g,0,none⟩)/\w2.heap.size<=g/\w.heap[g]?=some (.cells #[.string ⟨#[]⟩,.string ⟨#[]⟩] 146 (0,0))) h.a6 n6,fun h8=>?_⟩
 ·show ∃g:Nat,upd f i v 5=.pointer (some ⟨g,0,none⟩)/\w2.heap.size<=g/\w.heap[g]?=some (Obj.cells #[if (if (7:Nat)=i then true else l 7)=true then upd f i v 1 else .map none] 102 (0,0));rw[e7];by_cases e:(5:Nat)=i
  ·have hf:l 7=false:=by
    cases h9:l 7;case false=>rfl
    have:=(h.o7 h9).2;rw[<-e]at hl;rw[hl]at this;cases this
   rw[hf];subst e;simpa[upd] using n5 rfl
  rw[if_neg e]at h5;obtain⟨g,e1,e2,e3⟩:=h.a5 h5;refine⟨g,by simp only[upd,if_neg e];exact e1,e2,?_⟩;cases h9:l 7;case false=>rw[h9]at e3;simpa using e3
  have h1:(1:Nat)≠i:=fun e4=>by have:=(h.o7 h9).1;rw[<-e4]at hl;rw[hl]at this;cases this
  rw[h9]at e3;simp only[upd,if_neg h1];exact e3
 have h8:(if (7:Nat)=i then true else l 7)=true:=h8;rw[e7]at h8;have:=h.o7 h8;exact⟨by show(if (1:Nat)=i then true else l 1)=true;rw[this.1];split<;>rfl,by show(if (5:Nat)=i then true else l 5)=true;rw[this.2];split<;>rfl⟩
theorem Pb{w:af}{g:Nat}{T:TypeId}{x y:Value}(h:w.heap[g]?=some (.cells #[x] T (0,0))):(w.setCell ⟨g,0,none⟩ y).heap[g]?=some (.cells #[y] T (0,0)):=by
 unfold World.setCell;simp[Array.getElem?_modify,h]
theorem L9{w:af}{b n:Nat}{M:ByteArray×ByteArray->Option Value}{cs:Array Value}{T:TypeId}(h:aN dE prog 146 w b n M)(hc:w.heap[b]?=some (.cells cs T (0,0))):False:=by
 obtain⟨D,⟨entries,ix,hb,-⟩,-⟩:=h;rw[hb]at hc;cases hc
theorem dA.mono{w:af}{base base':Nat}{v:Value}{rs:Q06}(h:dA w base v rs)(hb:base'<=base):dA w base' v rs:=X8.mono h hb fun q hq=>jJ.mono hq hb
def Wq(b:Bool)(v:Value):Value:=if b=true then .tuple #[v,.bool true] else .tuple #[.slice none 0 0,.bool false]
theorem Jp(ad:Q02)(cap:Nat)(rs:Q06)(w:af)(hlen:rs.length<=1048576)(hs:jX w ad rs)(hl:∀r∈rs,r.light)(hf:∀r∈rs,r.fits)(hcp:∀r∈rs,r.caps):
  Calls prog 96 #[.slice ad rs.length cap] w fun e w'=>e=.returned (Wq (aG (ae rs)) (.slice ad rs.length cap))/\ag w w':=by
 have HS:=aF hs;have HL:=aF hl;have HF:=aF hf;have HC:=aF hcp;clear hs hl hf hcp;go_enter func96,ntmps96;go_wp2_with fail;refine(dz ad cap rs _ hlen HS.out HL.out HF.out HC.out).mono ?_;rintro e w2 ⟨rfl,hb2⟩;have HB2:=aF hb2;clear hb2;cases hd:aG (ae rs);case false=>
  go_wp2;refine bodyPost_ret (v:=.tuple #[.slice none 0 0,.bool false]) ?_ rfl ⟨by first|rfl|(rw[hd];rfl)|simp[Wq,hd],HB2.out⟩;simp[results,Tryz.results96,go_sem]
 go_wp2;refine bodyPost_ret (v:=.tuple #[.slice ad rs.length cap,.bool true]) ?_ rfl ⟨by first|rfl|(rw[hd];rfl)|simp[Wq,hd],HB2.out⟩;simp[results,Tryz.results96,go_sem]
theorem Jq{a b:ByteArray}(h:a.toList=b.toList):a=b:=by
 rw[Go.ByteArray.toList_eq,Go.ByteArray.toList_eq]at h;exact ByteArray.ext (Array.toList_inj.1 h)
theorem Jr{a b:ByteArray}(h:(a.toList==b.toList)=true):a=b:=Jq (by simpa using h)
theorem jX.row{w:af}{b off:Nat}{rs:Q06}(h:jX w (some ⟨b,off,none⟩) rs){k:Nat}(hk:k<rs.length):PS w b (off+k*2) rs[k]/\b<w.heap.size:=by
 rcases h with h|⟨b',off',e,hb,hr,-⟩
 ·rw[h]at hk;simp at hk
 injection e with e;injection e with e1 e2;subst e1;subst e2;exact⟨hr k hk,hb⟩
theorem Df.row{w:af}{ad:Q02}{rs:Q07}(h:Df w ad rs){k:Nat}(hk:k<rs.length):∃b off,ad=some ⟨b,off,none⟩/\AtR w b (off+k*2) rs[k]/\b<w.heap.size:=by
 rcases h with h|⟨b',off',e,hb,hr,-⟩
 ·rw[h]at hk;simp at hk
 exact⟨b',off',e,hr k hk,hb⟩
theorem iw.row{w:af}{ad:Q02}{rs:Q08}(h:iw w ad rs){k:Nat}(hk:k<rs.length):∃b off,ad=some ⟨b,off,none⟩/\vP w b (off+k*5) rs[k]/\b<w.heap.size:=by
 rcases h with h|⟨b',off',e,hb,hr,-⟩
 ·rw[h]at hk;simp at hk
 exact⟨b',off',e,hr k hk,hb⟩
theorem PS.kept{w w':af}{b off:Nat}{t:TR}(h:PS w b off t)(hb:b<w.heap.size)(hB:ag w w'):PS w' b off t:=h.later hb hB
structure RFc(N b o b2 o2:Nat)(v2:Value)(tn rn:ByteArray)(rl ex:Value)(w:World):Prop where
 n0:w.cell? ⟨N,0,none⟩=some (.string tn)
 n1:w.cell? ⟨N,1,none⟩=some v2
 fz:w.frozen? ⟨N,1,none⟩=false
 t1:w.cell? ⟨b,o+1,none⟩=some rl
 r0:w.cell? ⟨b2,o2,none⟩=some (.string rn)
 r1:w.cell? ⟨b2,o2+1,none⟩=some ex
 lt:N<w.heap.size/\b2<w.heap.size/\b<w.heap.size
theorem RFc.heap{N b o b2 o2:Nat}{v2:Value}{tn rn:ByteArray}{rl ex:Value}{w w':af}(h:RFc N b o b2 o2 v2 tn rn rl ex w)(hs:w.heap.size<=w'.heap.size)(hb:∀g,g=N\/g=b2\/g=b->w'.heap[g]?=w.heap[g]?):RFc N b o b2 o2 v2 tn rn rl ex w' :=
 ⟨(WX (a:=⟨N,0,none⟩) (hb N (.inl rfl))).trans h.n0,(WX (a:=⟨N,1,none⟩) (hb N (.inl rfl))).trans h.n1,(World.frozen?_of_block (a:=⟨N,1,none⟩) (hb N (.inl rfl))).trans h.fz,(WX (a:=⟨b,o+1,none⟩) (hb b (.inr (.inr rfl)))).trans h.t1,(WX (a:=⟨b2,o2,none⟩) (hb b2 (.inr (.inl rfl)))).trans h.r0,(WX (a:=⟨b2,o2+1,none⟩) (hb b2 (.inr (.inl rfl)))).trans h.r1,by have:=h.lt;omega⟩
theorem RFc.below{N b o b2 o2:Nat}{v2:Value}{tn rn:ByteArray}{rl ex:Value}{w w':af}(h:RFc N b o b2 o2 v2 tn rn rl ex w)(hb:ag w w'):RFc N b o b2 o2 v2 tn rn rl ex w' :=
 h.heap hb.size fun g hg=>hb.block g (by have:=h.lt;rcases hg with rfl|rfl|rfl<;>omega)
theorem R7(ad:Q02)(cap:Nat)(rs:Q06)(w:af)(h6:rs.length<=6)(YN:∀t∈rs,t.rows.length<=6)(he15:∀t∈rs,∀q∈t.rows,q.rows.length<=15)(hs:jX w ad rs)(hl:∀r∈rs,r.light):
  Calls prog 120 #[.slice ad rs.length cap] w fun e w'=>∃(v:Value) (qs:Q06),e=.returned v/\dA w' w.heap.size v qs/\ae qs=ae rs/\ag w w':=by
 obtain⟨iR,hiR,zR0,zR1,zR2⟩:=info_parts (P:=prog) (e:=39) (z:=.agg #[.string ⟨#[]⟩,.slice none 0 0]) (size:=2) (bytes:=40) (by kernel_rfl);obtain⟨iT,hiT,zT0,zT1,zT2⟩:=info_parts (P:=prog) (e:=36) (z:=.agg #[.string ⟨#[]⟩,.slice none 0 0]) (size:=2) (bytes:=40) (by kernel_rfl);have HIR:Hid (prog.info? 39=some iR/\iR.zero=some (.agg #[.string ⟨#[]⟩,.slice none 0 0])/\iR.size=2/\iR.bytes=40):=⟨hiR,zR0,zR1,zR2⟩;have HIT:Hid (prog.info? 36=some iT/\iT.zero=some (.agg #[.string ⟨#[]⟩,.slice none 0 0])/\iT.size=2/\iT.bytes=40):=⟨hiT,zT0,zT1,zT2⟩;have HS:=aF hs;have HL:=aF hl;have Za:=aF YN;have HE15:=aF he15;clear hs hl YN he15 hiR zR0 zR1 zR2 hiT zT0 zT1 zT2;obtain⟨W0,hW0⟩:=eQx (w.alloc (.cells #[] 36));have HX0:Hid (dA W0 w.heap.size (.slice (some ⟨w.heap.size,0,none⟩) 0 0) []):=by
  show X8 _ _ _ _ _ _ _ _ _;rw[hW0];exact⟨World.ownsRow_lit w #[] 0 (WK _) (by unfold maxLen;omega) (by simp),fun q hq=>(by cases hq),fun q hq=>(by cases hq),fun x y hx=>absurd hx (by simp)⟩
 have HB0:=tZ hW0;go_enter func120,ntmps120;go_wp2_with fail;rw[<-hW0];clear hW0;go_loopw[3,4] (fun v i wr=>∃(k:Nat) (qs:Q06),k<=rs.length/\i=.int .i64 k/\Hid (dA wr w.heap.size v qs)/\Hid (ae qs=(ae rs).take k)/\Hid (ag w wr)) (fun _ i _=>rs.length-(intOf i).toNat);case atStart=>exact⟨0,[],WO _,rfl,HX0,by show _=_;simp[ae],HB0⟩
 clear HX0 HB0;obtain⟨k,qs,hk,rfl,HX,HQ,HB⟩:=hrel;obtain⟨wo,hwo⟩:=eQx wr;subst hwo;have HQL:Hid (qs.length=k):=by
  show _=_;rw[<-bz,HQ.out,XC,bz];omega
 have hql6:qs.length<=6:=by rw[HQL.out];omega
 by_cases hlt:k<rs.length
 ·rcases HS.out with hnil|⟨b,off,Yb,hb0,-,-⟩
  ·rw[hnil]at hlt;simp at hlt
  subst Yb;have HTM:Hid (rs[k]∈rs):=WH hlt;have YN:rs[k].rows.length<=6:=Za.out _ (WH hlt);have hk1:=bY k;have hk2:(k:Int)<(rs.length:Int):=by omega
  have HTR:=aF (HS.out.row hlt);obtain⟨t0,t1⟩:=HTR.out.1.kept HTR.out.2 HB.out;have Yn:Hid (rs[k].ok w):=jX.mem HS.out (WH hlt);obtain⟨W2,hW2⟩:=eQx (wo.alloc (.cells #[.string rs[k].name,.slice none 0 0] 36));have HB2:=tZ hW2;have Ye:Hid (W2.cell? ⟨wo.heap.size,0,none⟩=some (.string rs[k].name)/\W2.cell? ⟨wo.heap.size,1,none⟩=some (.slice none 0 0)/\W2.frozen? ⟨wo.heap.size,1,none⟩=false/\W2.heap.size=wo.heap.size+1):=by
   show _/\_;rw[hW2];exact⟨by simp,by simp,by simp,by simp⟩
  clear hb0;go_wp2_with fail;rw[<-hW2];clear hW2 t0 t1;go_loopw[6] (fun i wr=>∃(j:Nat) (v2:Value) (rows:Q07),j<=rs[k].rows.length/\i=.int .i64 j/\Hid (wr.cell? ⟨wo.heap.size,0,none⟩=some (.string rs[k].name)/\wr.cell? ⟨wo.heap.size,1,none⟩=some v2/\wr.frozen? ⟨wo.heap.size,1,none⟩=false)/\Hid (jJ wr (wo.heap.size+1) v2 rows)/\Hid (df rows=(df rs[k].rows).take j)/\Hid (Below wo.heap.size W2 wr)) (fun i _=>rs[k].rows.length-(intOf i).toNat);case atStart=>exact⟨0,.slice none 0 0,[],WO _,rfl,⟨Ye.out.1,Ye.out.2.1,Ye.out.2.2.1⟩,mY _ _,by show _=_;simp[df],WL _ _⟩
  obtain⟨j,v2,rows,hj,rfl,HN,HR,HRQ,HB3⟩:=hrel;obtain⟨wi,hwi⟩:=eQx wr;subst hwi;have HZ2:Hid (W2.heap.size=wo.heap.size+1):=Ye.out.2.2.2;have Zm:Hid (ag wo wi):=HB2.out.trans HB3.out;have HBI:Hid (ag w wi):=HB.out.trans (Zm.out.mono HB.out.size);have HRL:Hid (rows.length=j):=by
   show _=_;rw[<-dP,HRQ.out,XC,dP];omega
  have hrl6:rows.length<=6:=by rw[HRL.out];omega
  obtain⟨t0,t1⟩:=HTR.out.1.kept HTR.out.2 HBI.out;have hTw:wo.heap.size+1<=wi.heap.size:=by have:=HB3.out.size;have:=HZ2.out;omega
  by_cases hjt:j<rs[k].rows.length
  ·obtain⟨b2,X7,Y5,hrow2,Zz⟩:=Df.row Yn.out hjt;have HQM:Hid (rs[k].rows[j]∈rs[k].rows):=WH hjt;have HOE:Hid (iw w rs[k].rows[j].ad rs[k].rows[j].rows):=Df.mem Yn.out (WH hjt);have hej:rs[k].rows[j].rows.length<=15:=HE15.out _ HTM.out _ HQM.out;obtain⟨s0,s1⟩:=hrow2.later Zz HBI.out;rw[Y5]at t1;have yb:b<wi.heap.size:=WJ HTR.out.2 HBI.out.size;have yb2:b2<wi.heap.size:=WJ Zz HBI.out.size;have zb:b<wo.heap.size:=WJ HTR.out.2 HB.out.size;have zb2:b2<wo.heap.size:=WJ Zz HB.out.size;have hj1:=bY j;have hj2:(j:Int)<(rs[k].rows.length:Int):=by omega
   have HRF:Hid (RFc wo.heap.size b (off+k*2) b2 (X7+j*2) v2 rs[k].name rs[k].rows[j].name (.slice (some ⟨b2,X7,none⟩) rs[k].rows.length rs[k].cap) (.slice rs[k].rows[j].ad rs[k].rows[j].rows.length rs[k].rows[j].cap) wi):=⟨HN.out.1,HN.out.2.1,HN.out.2.2,t1,s0,s1,by omega⟩;have HRM:Hid (jJ wi (wo.heap.size+1) v2 rows):=HR.out;go_wp2_with fail;clear t0 t1 s0 s1;have HNW3:Hid (wo.heap.size+1<=wi.heap.size):=hTw;have HRO:Hid (jJ wi (wo.heap.size+1) v2 rows):=HR.out;obtain⟨CV,hCV⟩:∃C:Nat->Value,C=fun n=>((Value.pointer (some ⟨wo.heap.size,1,none⟩))::(v2)::(Value.slice (some ⟨b,off,none⟩) rs.length cap)::(Value.int .i64 k)::(Value.pointer (some ⟨b,off+k*2,none⟩))::(Value.pointer (some ⟨b,off+k*2+1,none⟩))::(Value.slice (some ⟨b2,X7,none⟩) rs[k].rows.length rs[k].cap)::(Value.int .i64 j)::(Value.pointer (some ⟨b2,X7+j*2,none⟩))::(Value.pointer (some ⟨b2,X7+j*2,none⟩))::(Value.string rs[k].rows[j].name)::(Value.slice (some ⟨b,off,none⟩) rs.length cap)::(Value.int .i64 k)::(Value.pointer (some ⟨b,off+k*2,none⟩))::(Value.pointer (some ⟨b,off+k*2+1,none⟩))::(Value.slice (some ⟨b2,X7,none⟩) rs[k].rows.length rs[k].cap)::(Value.int .i64 j)::(Value.pointer (some ⟨b2,X7+j*2,none⟩))::(Value.pointer (some ⟨b2,X7+j*2+1,none⟩))::(Value.slice rs[k].rows[j].ad rs[k].rows[j].rows.length rs[k].rows[j].cap)::(undef)::(undef)::(undef)::(undef)::(Value.pointer (some ⟨wo.heap.size,1,none⟩))::[]).getD n undef:=⟨_,rfl⟩;have Ya:Hid (CV 0=Value.pointer (some ⟨wo.heap.size,1,none⟩)/\CV 1=v2/\CV 2=Value.slice (some ⟨b,off,none⟩) rs.length cap/\CV 3=Value.int .i64 k/\CV 4=Value.pointer (some ⟨b,off+k*2,none⟩)/\CV 5=Value.pointer (some ⟨b,off+k*2+1,none⟩)/\CV 6=Value.slice (some ⟨b2,X7,none⟩) rs[k].rows.length rs[k].cap/\CV 7=Value.int .i64 j/\CV 8=Value.pointer (some ⟨b2,X7+j*2,none⟩)/\CV 9=Value.pointer (some ⟨b2,X7+j*2,none⟩)/\CV 10=Value.string rs[k].rows[j].name/\CV 11=Value.slice (some ⟨b,off,none⟩) rs.length cap/\CV 12=Value.int .i64 k/\CV 13=Value.pointer (some ⟨b,off+k*2,none⟩)/\CV 14=Value.pointer (some ⟨b,off+k*2+1,none⟩)/\CV 15=Value.slice (some ⟨b2,X7,none⟩) rs[k].rows.length rs[k].cap/\CV 16=Value.int .i64 j/\CV 17=Value.pointer (some ⟨b2,X7+j*2,none⟩)/\CV 18=Value.pointer (some ⟨b2,X7+j*2+1,none⟩)/\CV 19=Value.slice rs[k].rows[j].ad rs[k].rows[j].rows.length rs[k].rows[j].cap/\CV 20=undef/\CV 21=undef/\CV 22=undef/\CV 23=undef/\CV 24=Value.pointer (some ⟨wo.heap.size,1,none⟩)):=by show _/\_;rw[hCV];exact⟨rfl,rfl,rfl,rfl,rfl,rfl,rfl,rfl,rfl,rfl,rfl,rfl,rfl,rfl,rfl,rfl,rfl,rfl,rfl,rfl,rfl,rfl,rfl,rfl,rfl⟩
   clear hCV;refine dK 25 (fun|0=>u30|1=>u31|2=>u32|3=>u33|4=>u34|5=>u35|6=>u36|7=>u37|8=>u38|9=>u39|10=>u40|11=>u41|12=>u42|13=>u43|14=>u44|15=>u45|16=>u46|17=>u47|18=>u48|19=>u49|20=>u50|21=>u51|22=>u52|23=>u53|24=>u54|_=>undef) (fun fq=>{ tmps:=List.toArray (Value.slice (some ⟨b,off,none⟩) rs.length cap::undef::.slice none 0 0::u3::.int .i64 k::.pointer (some ⟨wo.heap.size,0,none⟩)::.int .i64 j::.slice (some ⟨w.heap.size,0,none⟩) 0 0::.int .i64 k::.slice (some ⟨b,off,none⟩) rs.length cap::.int .i64 rs.length::.bool true::u12::u13::.slice (some ⟨b,off,none⟩) rs.length cap::.int .i64 k::.pointer (some ⟨b,off+k*2,none⟩)::.pointer (some ⟨b,off+k*2,none⟩)::.string rs[k].name::.agg #[.string rs[k].name,.slice none 0 0]::.int .i64 j::.slice (some ⟨b,off,none⟩) rs.length cap::.int .i64 k::.pointer (some ⟨b,off+k*2,none⟩)::.pointer (some ⟨b,off+k*2+1,none⟩)::.slice (some ⟨b2,X7,none⟩) rs[k].rows.length rs[k].cap::.int .i64 rs[k].rows.length::.bool true::u28::u29::(fq 0)::(fq 1)::(fq 2)::(fq 3)::(fq 4)::(fq 5)::(fq 6)::(fq 7)::(fq 8)::(fq 9)::(fq 10)::(fq 11)::(fq 12)::(fq 13)::(fq 14)::(fq 15)::(fq 16)::(fq 17)::(fq 18)::(fq 19)::(fq 20)::(fq 21)::(fq 22)::(fq 23)::(fq 24)::u55::u56::u57::u58::undef::[]),defers:=[] }) (G.CH 20 (fun _=>[]) CV (RFc wo.heap.size b (off+k*2) b2 (X7+j*2) v2 rs[k].name rs[k].rows[j].name (Value.slice (some ⟨b2,X7,none⟩) rs[k].rows.length rs[k].cap) (Value.slice rs[k].rows[j].ad rs[k].rows[j].rows.length rs[k].rows[j].cap)) (Below wi.heap.size wi) (C1 wi (ai rs[k].rows[j].rows)) (fun x=>.agg #[.string rs[k].rows[j].name,x]) (C3 wi rs[k].rows[j].name (ai rs[k].rows[j].rows)) (C4 wi wo.heap.size rows rs[k].rows[j].name (ai rs[k].rows[j].rows))) (by kernel_rfl) rfl (by kernel_rfl) (fun o ho l fq w' hI hp=>?IQ) rfl (G.ch_start (HRF.out.below (WL _ _).drew) (WL _ _).drew) ?stepR ?finR;case IQ =>
    cases ho;intro k hk;have hc:=UH (i:=k) (by omega)
    repeat' rcases hc with rfl|hc
    ·exact hp ⟨0,.phase⟩ (by simp) rfl
    ·exact hp ⟨1,.phase⟩ (by simp) rfl
    ·exact hp ⟨2,.phase⟩ (by simp) rfl
    ·exact hp ⟨3,.phase⟩ (by simp) rfl
    ·exact hp ⟨4,.phase⟩ (by simp) rfl
    ·exact hp ⟨5,.phase⟩ (by simp) rfl
    ·exact hp ⟨6,.phase⟩ (by simp) rfl
    ·exact hp ⟨7,.phase⟩ (by simp) rfl
    ·exact hp ⟨8,.phase⟩ (by simp) rfl
    ·exact hp ⟨9,.phase⟩ (by simp) rfl
    ·exact hp ⟨10,.phase⟩ (by simp) rfl
    ·exact hp ⟨11,.phase⟩ (by simp) rfl
    ·exact hp ⟨12,.phase⟩ (by simp) rfl
    ·exact hp ⟨13,.phase⟩ (by simp) rfl
    ·exact hp ⟨14,.phase⟩ (by simp) rfl
    ·exact hp ⟨15,.phase⟩ (by simp) rfl
    ·exact hp ⟨16,.phase⟩ (by simp) rfl
    ·exact hp ⟨17,.phase⟩ (by simp) rfl
    ·exact hp ⟨18,.phase⟩ (by simp) rfl
    ·exact hp ⟨19,.phase⟩ (by simp) rfl
    ·exact hp ⟨20,.phase⟩ (by simp) rfl
    ·exact hp ⟨21,.phase⟩ (by simp) rfl
    ·exact hp ⟨22,.phase⟩ (by simp) rfl
    ·exact hp ⟨23,.phase⟩ (by simp) rfl
    exact hp ⟨24,.data⟩ (by simp) rfl
   case stepR =>
    rintro i hi o ho l fq w' Yx hI hpre;have HI:Hid (G.CH 20 (fun _=>[]) CV (RFc wo.heap.size b (off+k*2) b2 (X7+j*2) v2 rs[k].name rs[k].rows[j].name (Value.slice (some ⟨b2,X7,none⟩) rs[k].rows.length rs[k].cap) (Value.slice rs[k].rows[j].ad rs[k].rows[j].rows.length rs[k].rows[j].cap)) (Below wi.heap.size wi) (C1 wi (ai rs[k].rows[j].rows)) (fun x=>.agg #[.string rs[k].rows[j].name,x]) (C3 wi rs[k].rows[j].name (ai rs[k].rows[j].rows)) (C4 wi wo.heap.size rows rs[k].rows[j].name (ai rs[k].rows[j].rows)) l fq w'):=hI;have XZ:Hid (∀e∈o.after,Region.binds .any e=true->l e.on=true):=hpre;have HRW:Hid (RFc wo.heap.size b (off+k*2) b2 (X7+j*2) v2 rs[k].name rs[k].rows[j].name (Value.slice (some ⟨b2,X7,none⟩) rs[k].rows.length rs[k].cap) (Value.slice rs[k].rows[j].ad rs[k].rows[j].rows.length rs[k].rows[j].cap) w'):=hI.rf;clear hI hpre;have hc:=UH (i:=i) (by omega);clear hi
    repeat' rcases hc with rfl|hc
    ·cases ho;have HP:=aF (HI.out.put (i:=0) (by omega) (fun j hj=>by cases hj) Ya.out.1.symm);refine aa rfl fun K HK=>?_;clear XZ HI;dsimp only;go_simp;exact HK.out _ _ ⟨_,by simp[upd],HP.out⟩
    ·cases ho;have e0:fq 0=.pointer (some ⟨wo.heap.size,1,none⟩):=(HI.out.val 0 (by omega) (XZ.out ⟨0,.data⟩ (by simp) rfl)).trans Ya.out.1;have x1:=HRW.out.n1;have HP:=aF (HI.out.put (i:=1) (by omega) (fun j hj=>by cases hj) Ya.out.2.1.symm);refine aa rfl fun K HK=>?_;clear XZ HI;simp only[e0];go_simp;exact HK.out _ _ ⟨_,by simp[upd,e0],HP.out⟩
    ·cases ho;have HP:=aF (HI.out.put (i:=2) (by omega) (fun j hj=>by cases hj) Ya.out.2.2.1.symm);refine aa rfl fun K HK=>?_;clear XZ HI;dsimp only;go_simp;exact HK.out _ _ ⟨_,by simp[upd],HP.out⟩
    ·cases ho;have HP:=aF (HI.out.put (i:=3) (by omega) (fun j hj=>by cases hj) Ya.out.2.2.2.1.symm);refine aa rfl fun K HK=>?_;clear XZ HI;dsimp only;go_simp;exact HK.out _ _ ⟨_,by simp[upd],HP.out⟩
    ·cases ho;have e2:fq 2=.slice (some ⟨b,off,none⟩) rs.length cap:=(HI.out.val 2 (by omega) (XZ.out ⟨2,.data⟩ (by simp) rfl)).trans Ya.out.2.2.1;have e3:fq 3=.int .i64 k:=(HI.out.val 3 (by omega) (XZ.out ⟨3,.data⟩ (by simp) rfl)).trans Ya.out.2.2.2.1;have HP:=aF (HI.out.put (i:=4) (by omega) (fun j hj=>by cases hj) Ya.out.2.2.2.2.1.symm);refine aa rfl fun K HK=>?_;clear XZ HI;simp only[e2,e3];go_simp;exact HK.out _ _ ⟨_,by simp[upd,e2,e3],HP.out⟩
    ·cases ho;have e4:fq 4=.pointer (some ⟨b,off+k*2,none⟩):=(HI.out.val 4 (by omega) (XZ.out ⟨4,.data⟩ (by simp) rfl)).trans Ya.out.2.2.2.2.1;have HP:=aF (HI.out.put (i:=5) (by omega) (fun j hj=>by cases hj) Ya.out.2.2.2.2.2.1.symm);refine aa rfl fun K HK=>?_;clear XZ HI;simp only[e4];go_simp;exact HK.out _ _ ⟨_,by simp[upd,e4],HP.out⟩
    ·cases ho;have e5:fq 5=.pointer (some ⟨b,off+k*2+1,none⟩):=(HI.out.val 5 (by omega) (XZ.out ⟨5,.data⟩ (by simp) rfl)).trans Ya.out.2.2.2.2.2.1;have x1:=HRW.out.t1;have HP:=aF (HI.out.put (i:=6) (by omega) (fun j hj=>by cases hj) Ya.out.2.2.2.2.2.2.1.symm);refine aa rfl fun K HK=>?_;clear XZ HI;simp only[e5];go_simp;exact HK.out _ _ ⟨_,by simp[upd,e5],HP.out⟩
    ·cases ho;have HP:=aF (HI.out.put (i:=7) (by omega) (fun j hj=>by cases hj) Ya.out.2.2.2.2.2.2.2.1.symm);refine aa rfl fun K HK=>?_;clear XZ HI;dsimp only;go_simp;exact HK.out _ _ ⟨_,by simp[upd],HP.out⟩
    ·cases ho;have e6:fq 6=.slice (some ⟨b2,X7,none⟩) rs[k].rows.length rs[k].cap:=(HI.out.val 6 (by omega) (XZ.out ⟨6,.data⟩ (by simp) rfl)).trans Ya.out.2.2.2.2.2.2.1;have e7:fq 7=.int .i64 j:=(HI.out.val 7 (by omega) (XZ.out ⟨7,.data⟩ (by simp) rfl)).trans Ya.out.2.2.2.2.2.2.2.1;have HP:=aF (HI.out.put (i:=8) (by omega) (fun j hj=>by cases hj) Ya.out.2.2.2.2.2.2.2.2.1.symm);refine aa rfl fun K HK=>?_;clear XZ HI;simp only[e6,e7];go_simp;exact HK.out _ _ ⟨_,by simp[upd,e6,e7],HP.out⟩
    ·cases ho;have e8:fq 8=.pointer (some ⟨b2,X7+j*2,none⟩):=(HI.out.val 8 (by omega) (XZ.out ⟨8,.data⟩ (by simp) rfl)).trans Ya.out.2.2.2.2.2.2.2.2.1;have HP:=aF (HI.out.put (i:=9) (by omega) (fun j hj=>by cases hj) Ya.out.2.2.2.2.2.2.2.2.2.1.symm);refine aa rfl fun K HK=>?_;clear XZ HI;simp only[e8];go_simp;exact HK.out _ _ ⟨_,by simp[upd,e8],HP.out⟩
    ·cases ho;have e9:fq 9=.pointer (some ⟨b2,X7+j*2,none⟩):=(HI.out.val 9 (by omega) (XZ.out ⟨9,.data⟩ (by simp) rfl)).trans Ya.out.2.2.2.2.2.2.2.2.2.1;have x1:=HRW.out.r0;have HP:=aF (HI.out.put (i:=10) (by omega) (fun j hj=>by cases hj) Ya.out.2.2.2.2.2.2.2.2.2.2.1.symm);refine aa rfl fun K HK=>?_;clear XZ HI;simp only[e9];go_simp;exact HK.out _ _ ⟨_,by simp[upd,e9],HP.out⟩
    ·cases ho;have HP:=aF (HI.out.put (i:=11) (by omega) (fun j hj=>by cases hj) Ya.out.2.2.2.2.2.2.2.2.2.2.2.1.symm);refine aa rfl fun K HK=>?_;clear XZ HI;dsimp only;go_simp;exact HK.out _ _ ⟨_,by simp[upd],HP.out⟩
    ·cases ho;have HP:=aF (HI.out.put (i:=12) (by omega) (fun j hj=>by cases hj) Ya.out.2.2.2.2.2.2.2.2.2.2.2.2.1.symm);refine aa rfl fun K HK=>?_;clear XZ HI;dsimp only;go_simp;exact HK.out _ _ ⟨_,by simp[upd],HP.out⟩
    ·cases ho;have e11:fq 11=.slice (some ⟨b,off,none⟩) rs.length cap:=(HI.out.val 11 (by omega) (XZ.out ⟨11,.data⟩ (by simp) rfl)).trans Ya.out.2.2.2.2.2.2.2.2.2.2.2.1;have e12:fq 12=.int .i64 k:=(HI.out.val 12 (by omega) (XZ.out ⟨12,.data⟩ (by simp) rfl)).trans Ya.out.2.2.2.2.2.2.2.2.2.2.2.2.1;have HP:=aF (HI.out.put (i:=13) (by omega) (fun j hj=>by cases hj) Ya.out.2.2.2.2.2.2.2.2.2.2.2.2.2.1.symm);refine aa rfl fun K HK=>?_;clear XZ HI;simp only[e11,e12];go_simp;exact HK.out _ _ ⟨_,by simp[upd,e11,e12],HP.out⟩
    ·cases ho;have e13:fq 13=.pointer (some ⟨b,off+k*2,none⟩):=(HI.out.val 13 (by omega) (XZ.out ⟨13,.data⟩ (by simp) rfl)).trans Ya.out.2.2.2.2.2.2.2.2.2.2.2.2.2.1;have HP:=aF (HI.out.put (i:=14) (by omega) (fun j hj=>by cases hj) Ya.out.2.2.2.2.2.2.2.2.2.2.2.2.2.2.1.symm);refine aa rfl fun K HK=>?_;clear XZ HI;simp only[e13];go_simp;exact HK.out _ _ ⟨_,by simp[upd,e13],HP.out⟩
    ·cases ho;have e14:fq 14=.pointer (some ⟨b,off+k*2+1,none⟩):=(HI.out.val 14 (by omega) (XZ.out ⟨14,.data⟩ (by simp) rfl)).trans Ya.out.2.2.2.2.2.2.2.2.2.2.2.2.2.2.1;have x1:=HRW.out.t1;have HP:=aF (HI.out.put (i:=15) (by omega) (fun j hj=>by cases hj) Ya.out.2.2.2.2.2.2.2.2.2.2.2.2.2.2.2.1.symm);refine aa rfl fun K HK=>?_;clear XZ HI;simp only[e14];go_simp;exact HK.out _ _ ⟨_,by simp[upd,e14],HP.out⟩
    ·cases ho;have HP:=aF (HI.out.put (i:=16) (by omega) (fun j hj=>by cases hj) Ya.out.2.2.2.2.2.2.2.2.2.2.2.2.2.2.2.2.1.symm);refine aa rfl fun K HK=>?_;clear XZ HI;dsimp only;go_simp;exact HK.out _ _ ⟨_,by simp[upd],HP.out⟩
    ·cases ho;have e15:fq 15=.slice (some ⟨b2,X7,none⟩) rs[k].rows.length rs[k].cap:=(HI.out.val 15 (by omega) (XZ.out ⟨15,.data⟩ (by simp) rfl)).trans Ya.out.2.2.2.2.2.2.2.2.2.2.2.2.2.2.2.1;have e16:fq 16=.int .i64 j:=(HI.out.val 16 (by omega) (XZ.out ⟨16,.data⟩ (by simp) rfl)).trans Ya.out.2.2.2.2.2.2.2.2.2.2.2.2.2.2.2.2.1;have HP:=aF (HI.out.put (i:=17) (by omega) (fun j hj=>by cases hj) Ya.out.2.2.2.2.2.2.2.2.2.2.2.2.2.2.2.2.2.1.symm);refine aa rfl fun K HK=>?_;clear XZ HI;simp only[e15,e16];go_simp;exact HK.out _ _ ⟨_,by simp[upd,e15,e16],HP.out⟩
    ·cases ho;have e17:fq 17=.pointer (some ⟨b2,X7+j*2,none⟩):=(HI.out.val 17 (by omega) (XZ.out ⟨17,.data⟩ (by simp) rfl)).trans Ya.out.2.2.2.2.2.2.2.2.2.2.2.2.2.2.2.2.2.1;have HP:=aF (HI.out.put (i:=18) (by omega) (fun j hj=>by cases hj) Ya.out.2.2.2.2.2.2.2.2.2.2.2.2.2.2.2.2.2.2.1.symm);refine aa rfl fun K HK=>?_;clear XZ HI;simp only[e17];go_simp;exact HK.out _ _ ⟨_,by simp[upd,e17],HP.out⟩
    ·cases ho;have e18:fq 18=.pointer (some ⟨b2,X7+j*2+1,none⟩):=(HI.out.val 18 (by omega) (XZ.out ⟨18,.data⟩ (by simp) rfl)).trans Ya.out.2.2.2.2.2.2.2.2.2.2.2.2.2.2.2.2.2.2.1;have x1:=HRW.out.r1;have HP:=aF (HI.out.put (i:=19) (by omega) (fun j hj=>by cases hj) Ya.out.2.2.2.2.2.2.2.2.2.2.2.2.2.2.2.2.2.2.2.1.symm);refine aa rfl fun K HK=>?_;clear XZ HI;simp only[e18];go_simp;exact HK.out _ _ ⟨_,by simp[upd,e18],HP.out⟩
    ·cases ho;have e19:fq 19=.slice rs[k].rows[j].ad rs[k].rows[j].rows.length rs[k].rows[j].cap:=(HI.out.val 19 (by omega) (XZ.out ⟨19,.data⟩ (by simp) rfl)).trans Ya.out.2.2.2.2.2.2.2.2.2.2.2.2.2.2.2.2.2.2.2.1;have HM0:=aF (HI.out.m0 Yx).1;refine aa rfl fun K HK=>?_;clear XZ;simp only[e19];go_simp;refine(Gm _ _ rs[k].rows[j].rows w' hej (HOE.out.below (HBI.out.trans (HM0.out.mono HBI.out.size))) (((HL.out _ HTM.out).2 _ HQM.out).2)).mono ?_;rintro e w9 ⟨v9,qs9,rfl,hn9,he9,Y6⟩;obtain⟨ad9,YP,rfl⟩:=jT hn9.own;have HP:=aF (HI.out.call Yx (fun j hj=>by cases hj) (HRW.out.below Y6) (show C1 wi (ai rs[k].rows[j].rows) (.slice ad9 qs9.length YP) w9 from ⟨ad9,YP,qs9,rfl,NodM.mono hn9 HM0.out.size,he9,HM0.out.trans (Y6.mono HM0.out.size)⟩));clear hn9 he9 Y6 HI HRW HM0;go_wp2_with fail;exact HK.out _ _ ⟨_,by simp[upd,e19],HP.out⟩
    ·cases ho;have e10:fq 10=.string rs[k].rows[j].name:=(HI.out.val 10 (by omega) (XZ.out ⟨10,.data⟩ (by simp) rfl)).trans Ya.out.2.2.2.2.2.2.2.2.2.2.1;have hc0:=XZ.out ⟨20,.data⟩ (by simp) rfl;obtain⟨ad9,YP,qs9,e20,-⟩:=(HI.out.m1 hc0 Yx).1;have HP:=aF (HI.out.build hc0 Yx (fun j hj=>by cases hj) (v:=.agg #[.string rs[k].rows[j].name,.slice ad9 qs9.length YP]) (by rw[e20]));refine aa rfl fun K HK=>?_;clear XZ HI;simp only[e10,e20];go_simp;exact HK.out _ _ ⟨_,by simp[upd,e10,e20],HP.out⟩
    ·cases ho;have hc1:=XZ.out ⟨21,.data⟩ (by simp) rfl;obtain⟨eB,hM1,-,-⟩:=HI.out.m2 hc1 Yx;have YH:=aF hM1;obtain⟨ad9,YP,qs9,e20,-⟩:=hM1;replace eB:fq 21=.agg #[.string rs[k].rows[j].name,.slice ad9 qs9.length YP]:=by rw[eB,e20]
     rw[e20]at YH;have HP:=aF (HI.out.lay hc1 Yx (fun j hj=>by cases hj) (HRW.out.below ((WL _ _).alloc (WK _) _)) (C1.lay (rn:=rs[k].rows[j].name) YH.out));refine aa rfl fun K HK=>?_;clear XZ HI YH;simp only[eB];go_simp;exact HK.out _ _ ⟨_,by simp[upd,eB,e20],HP.out⟩
    ·cases ho;have e1:fq 1=v2:=(HI.out.val 1 (by omega) (XZ.out ⟨1,.data⟩ (by simp) rfl)).trans Ya.out.2.1;have hc2:=XZ.out ⟨22,.data⟩ (by simp) rfl;obtain⟨b9,q9,e22,hnew9,hk9,hp9,Y6⟩:=(HI.out.m3 hc2 Yx).1;have hown:w'.ownsRow (wo.heap.size+1) 39 2 (v2) rows.length (rows.flatMap RR.cells):=dJ HRM.out.own fun g hg=>Y6.block g (HRM.out.own.lt g hg).2;refine ib w' rfl rfl _ _ 34 rfl (wo.heap.size+1) 39 iR _ 2 40 underlying34 HIR.out.1 HIR.out.2.1 HIR.out.2.2.1 HIR.out.2.2.2 rfl (by decide) (v2) rows.length (rows.flatMap RR.cells) (by simp[Act.eval,e1]) hown ⟨b9,0,none⟩ 1 1 (RR.cells q9) (by simp[Act.eval,e22]) rfl hnew9 (by simp[RR.cells,RR.vs,Value.oneCell']) (by unfold maxLen;omega) (by omega) (by have:=Y6.size;have:=HNW3.out;omega) ?_;intro v' w2 hown2 Yl Z8;exact⟨v',by simp[upd,Act.put],HI.out.app hc2 Yx (fun j hj=>by cases hj) (HRW.out.heap Yl.size fun g hg=>Yl.block g (by have:=HRW.out.lt;rcases hg with rfl|rfl|rfl<;>omega) (fun e=>by have h1:=(HRM.out.own.lt g e.symm).1;have h2:=(HRO.out.own.lt g e.symm).2;rcases hg with rfl|rfl|rfl<;>omega)) (C3.app (W0:=wi) HRM.out HNW3.out hk9 hp9 Y6 hown2 Yl Z8)⟩
    cases ho;have HP:=aF (HI.out.put (i:=24) (by omega) (fun j hj=>by cases hj) Ya.out.2.2.2.2.2.2.2.2.2.2.2.2.2.2.2.2.2.2.2.2.2.2.2.2.symm);refine aa rfl fun K HK=>?_;clear XZ HI;dsimp only;go_simp;exact HK.out _ _ ⟨_,by simp[upd],HP.out⟩
   case finR =>
    rintro o ho l fq w' hall hI;obtain rfl:=Option.some.inj ho;obtain⟨ad4,cap4,q4,e23,hRM4,hqp4,hb4⟩:=(hI.m4 (hall 23 (by omega))).1;have e24:fq 24=.pointer (some ⟨wo.heap.size,1,none⟩):=(hI.val 24 (.inr rfl) (hall 24 (by omega))).trans Ya.out.2.2.2.2.2.2.2.2.2.2.2.2.2.2.2.2.2.2.2.2.2.2.2.2;have n1:=hI.rf.n1;have fz:=hI.rf.fz;have HRW:=aF hI.rf;rw[e23]at hRM4;have HRM4:=aF hRM4;have HQP4:=aF hqp4;have YF:=aF hb4;clear hRM4 hqp4 hb4 hall;refine aa rfl fun K HK=>?_;simp only[e23,e24];go_simp;refine HK.out _ _ ?_;clear ho HK K hI Ya e23 e24;obtain⟨y0,hy0⟩:∃y,y=fq 0:=⟨_,rfl⟩;rw[<-hy0];obtain⟨y1,hy1⟩:∃y,y=fq 1:=⟨_,rfl⟩;rw[<-hy1];obtain⟨y2,hy2⟩:∃y,y=fq 2:=⟨_,rfl⟩;rw[<-hy2];obtain⟨y3,hy3⟩:∃y,y=fq 3:=⟨_,rfl⟩;rw[<-hy3];obtain⟨y4,hy4⟩:∃y,y=fq 4:=⟨_,rfl⟩;rw[<-hy4];obtain⟨y5,hy5⟩:∃y,y=fq 5:=⟨_,rfl⟩;rw[<-hy5];obtain⟨y6,hy6⟩:∃y,y=fq 6:=⟨_,rfl⟩;rw[<-hy6];obtain⟨y7,hy7⟩:∃y,y=fq 7:=⟨_,rfl⟩;rw[<-hy7];obtain⟨y8,hy8⟩:∃y,y=fq 8:=⟨_,rfl⟩;rw[<-hy8];obtain⟨y9,hy9⟩:∃y,y=fq 9:=⟨_,rfl⟩;rw[<-hy9];obtain⟨y10,hy10⟩:∃y,y=fq 10:=⟨_,rfl⟩;rw[<-hy10];obtain⟨y11,hy11⟩:∃y,y=fq 11:=⟨_,rfl⟩;rw[<-hy11];obtain⟨y12,hy12⟩:∃y,y=fq 12:=⟨_,rfl⟩;rw[<-hy12];obtain⟨y13,hy13⟩:∃y,y=fq 13:=⟨_,rfl⟩;rw[<-hy13];obtain⟨y14,hy14⟩:∃y,y=fq 14:=⟨_,rfl⟩;rw[<-hy14];obtain⟨y15,hy15⟩:∃y,y=fq 15:=⟨_,rfl⟩;rw[<-hy15];obtain⟨y16,hy16⟩:∃y,y=fq 16:=⟨_,rfl⟩;rw[<-hy16];obtain⟨y17,hy17⟩:∃y,y=fq 17:=⟨_,rfl⟩;rw[<-hy17];obtain⟨y18,hy18⟩:∃y,y=fq 18:=⟨_,rfl⟩;rw[<-hy18];obtain⟨y19,hy19⟩:∃y,y=fq 19:=⟨_,rfl⟩;rw[<-hy19];obtain⟨y20,hy20⟩:∃y,y=fq 20:=⟨_,rfl⟩;rw[<-hy20];obtain⟨y21,hy21⟩:∃y,y=fq 21:=⟨_,rfl⟩;rw[<-hy21];obtain⟨y22,hy22⟩:∃y,y=fq 22:=⟨_,rfl⟩;rw[<-hy22];clear hy0 hy1 hy2 hy3 hy4 hy5 hy6 hy7 hy8 hy9 hy10 hy11 hy12 hy13 hy14 hy15 hy16 hy17 hy18 hy19 hy20 hy21 hy22 fq l CV;have HNX:Hid ((w'.setCell ⟨wo.heap.size,1,none⟩ (.slice ad4 (rows.length+1) cap4)).cell? ⟨wo.heap.size,0,none⟩=some (.string rs[k].name)/\(w'.setCell ⟨wo.heap.size,1,none⟩ (.slice ad4 (rows.length+1) cap4)).cell? ⟨wo.heap.size,1,none⟩=some (.slice ad4 (rows.length+1) cap4)/\(w'.setCell ⟨wo.heap.size,1,none⟩ (.slice ad4 (rows.length+1) cap4)).frozen? ⟨wo.heap.size,1,none⟩=false):=⟨by rw[iL (by omega)];exact HRW.out.n0,oL n1,by simpa using fz⟩;have HRX:Hid (jJ (w'.setCell ⟨wo.heap.size,1,none⟩ (.slice ad4 (rows.length+1) cap4)) (wo.heap.size+1) (.slice ad4 (rows.length+1) cap4) (rows++[q4])):=X8.heap oG HRM4.out (by simp) fun g hg=>Below.heap_setCell _ _ _ g (by have:=(X8.lt oG HRM4.out hg).1;show g≠wo.heap.size;omega);have HQX:Hid (df (rows++[q4])=(df rs[k].rows).take (j+1)):=by
     show _=_;rw[IY,HRQ.out,HQP4.out,WN (by rw[dP];exact hjt)];simp[df,RR.p]
    have YY:Hid (Below wo.heap.size W2 (w'.setCell ⟨wo.heap.size,1,none⟩ (.slice ad4 (rows.length+1) cap4))):=(HB3.out.trans (YF.out.mono (by omega))).setCell (by show _<=wo.heap.size;omega) _;clear n1 fz HRW HRM4 YF HRF HRM HRO HN HR;go_wp2_with fail;go_roundw;case rel=>exact⟨j+1,.slice ad4 (rows.length+1) cap4,rows++[q4],by omega,by go_num,HNX,HRX,HQX,YY⟩
    simp[intOf]<;>omega
  obtain rfl:j=rs[k].rows.length:=by omega
  have hown2:=HR.out.own;obtain⟨ad2,cap2,rfl⟩:=jT hown2;obtain⟨q,hq⟩:∃q:TR,q=⟨rs[k].name,rows,ad2,cap2⟩:=⟨_,rfl⟩;have HQP:Hid (q.p=rs[k].p):=by
   show _=_;rw[hq];have e:=HRQ.out;rw[Xn (by rw[dP];exact WK _)]at e;simp[TR.p,e]
  obtain⟨W4,YR⟩:=eQx (wi.alloc (.cells #[.string rs[k].name,.slice ad2 rows.length cap2] 36));have HA4:=tZ YR;have Z9:Hid (ag wo W4):=Zm.out.trans (HA4.out.mono Zm.out.size);have YX:Hid (∀j u,(TR.cells q)[j]?=some u->W4.cell? ((⟨wi.heap.size,0,none⟩:Addr).add j)=some u):=by rw[YR,hq];exact vw wi _ _ _
  have HKQ:Hid (kT W4 (wo.heap.size+1) q):=by rw[hq];exact X8.below oG HR.out HA4.out
  have HOW4:Hid (W4.ownsRow w.heap.size 36 2 u3 qs.length (qs.flatMap TR.cells)):=dJ HX.out.own fun g hg=>Z9.out.block g (HX.out.own.lt g hg).2;have HWW:Hid (w.heap.size<=wo.heap.size):=HB.out.size;obtain⟨n0,n1,-⟩:=HN.out;clear hq hown2;go_wp2_with(at_builtin;go_must (rw[<-YR];clear YR;refine wpList_append_own_at _ rfl _ _ 24 rfl w.heap.size 36 iT (.agg #[.string ⟨#[]⟩,.slice none 0 0]) 2 40 underlying24 HIT.out.1 HIT.out.2.1 HIT.out.2.2.1 HIT.out.2.2.2 rfl (by decide) u3 qs.length (qs.flatMap TR.cells) rfl HOW4.out ⟨wi.heap.size,0,none⟩ 1 1 (TR.cells q) rfl rfl YX.out (by simp[TR.cells,TR.vs,Value.oneCell']) (by unfold maxLen;omega) (by omega) (WR HWW.out Z9.out.size) ?_));intro v5 w5 hown5 hgr5 _ hv5;have HX5:Hid (dA w5 w.heap.size v5 (qs++[q])):=X8.snocN jW HX.out Z9.out hown5 hgr5 (hv5.imp id fun e=>⟨_,e,WK _⟩) (jJ.mono HKQ.out (by have:=HWW.out;omega)) (fun g hg=>by have:=(jW.lt W4 _ q HKQ.out g hg).1;omega);have HQ5:Hid (ae (qs++[q])=(ae rs).take (k+1)):=by
   show _=_;rw[IZ,HQ.out,HQP.out,WN (by rw[bz];exact hlt)];simp[ae]
  have Yo:Hid (ag w w5):=(HB.out.trans (Z9.out.mono HB.out.size)).grown hgr5 (WR HWW.out Z9.out.size) (fun g hg=>(HX.out.own.lt g hg).1);clear hown5 hgr5 hv5 n0 n1 t0 t1 HOW4 YX HKQ HN HR;go_wp2;go_roundw;case rel=>exact⟨k+1,qs++[q],by omega,by go_num,HX5,HQ5,Yo⟩
  simp[intOf]<;>omega
 obtain rfl:k=rs.length:=by omega
 have HF:Hid (ae qs=ae rs):=by
  show _=_;rw[HQ.out,Xn (by rw[bz];exact WK _)]
 go_wp2;go_ret;exact⟨_,qs,rfl,HX.out,HF.out,HB.out⟩
end Go.Proofs.YtojjoblnpldniaaGreat
