/- Contract of the program's function on strata. -/
import Derived.Test.YtojjoblnpldniaaGreatSq
import Derived.Test.YtojjoblnpldniaaGreatJ6
import Derived.Test.YtojjoblnpldniaaGreatJ10
import Derived.Test.YtojjoblnpldniaaGreatJ11
open Go.Proofs.Tryz
set_option maxHeartbeats 80000000
set_option linter.defProp false
namespace Go.Proofs.YtojjoblnpldniaaGreat
open ChangeShapes WideShapes ChangeAt RowKit Maps
open Pl
def Jo(ts:Q0b)(w:World)(e:Ending)(w':World):Prop :=
 ((∃(b n:Nat) (σ:Ky->Option Int),e=.returned (.tuple #[.map (some b),.bool true])/\bZ ts/\aN dE prog 146 w' b n (jD σ)/\Least ts (fun k=>(σ k).getD 0)/\∀k,(∃x,σ k=some x)↔k∈ay ts)\/(e=.returned (.tuple #[.map none,.bool false])/\¬bZ ts))/\ag w w'
set_option maxRecDepth 100000 in
def xH(ad:Q02)(cap:Nat)(rs:Q06)(w:af)(hlen:rs.length<=1048576)(hs:jX w ad rs)(hl:∀r∈rs,r.light)(hf:∀r∈rs,r.fits)(hcp:∀r∈rs,r.caps):
  Calls prog 112 #[.slice ad rs.length cap] w (Jo (ae rs) w):=by
 have HS:=aB hs;have HL:=aB hl;have Yc:=aB hf;have HCT:=aB hcp;clear hs hl hf hcp;go_enter func112,ntmps112;go_wp2_with fail;refine(IX ad cap rs _ hlen HS HL Yc HCT).mono ?_;rintro e w1 ⟨rfl,hb1⟩;have HB1:=aB hb1;clear hb1;cases hsh:bB (ae rs);case false=>
  have HP:O (Jo (ae rs) w (.returned<|.tuple #[.map none,.bool false]) w1):=⟨.inr ⟨rfl,fun h=>by rw[h.1]at hsh;cases hsh⟩,HB1⟩;go_wp2;refine bodyPost_ret (v:=.tuple #[.map none,.bool false]) ?_ rfl HP;simp[results,Tryz.results112,go_sem]
 have HSH:O (bB (ae rs)=true):=hsh;obtain⟨h6,YN,hex⟩:=aW hsh;have Za:O (∀r∈rs,r.rows.length<=6):=YN;have ZH:O (∀r∈rs,∀q∈r.rows,aK (ai q.rows)=true/\q.rows.length<=15/\∀e∈q.rows,fF q.rows.length e.e.kids):=hex;have HT:O (Tab rs<|lN rs):=rM hsh;clear hsh YN hex;go_wp2_with fail;refine(lq ad cap rs _ h6 (HS.below HB1) Za Yc).mono ?_;rintro e w2 ⟨rfl,hV2,hb2⟩;have HB2:=iD HB1 hb2;obtain⟨bT,hbT⟩:=eQx w1.heap.size;rw[<-hbT]at hV2 ⊢;have HV2:O (aN dE prog 146 w2 bT 36<|lN rs):=hV2;clear hV2 hb2 hbT HB1;go_wp2_with fail;go_loopw[16] (fun i wr=>∃k:Nat,k<=rs.length/\i=.int .i64 k/\O (((ae rs).take k).all (rz<|ae rs)=true)/\O (ag w wr)/\O (aN dE prog 146 wr bT 36<|lN rs)) (fun i _=>rs.length-(intOf i).toNat);case atStart=>exact⟨0,WO _,rfl,(by show _=_;simp),HB2,HV2⟩
 clear HB2 HV2;obtain⟨k,hk,rfl,HP,HB,HV⟩:=hrel;by_cases hlt:k<rs.length
 ·rcases HS.out.below HB.out with rfl|⟨b,off,rfl,hb,hr,-⟩
  ·simp at hlt
  obtain⟨t0,t1⟩:=hr k hlt;have hk1:=bY k;have hk2:(k:Int)<(rs.length:Int):=cq;have h66:=Za _<|WH hlt;have z0:rs[k].name.size<=maxLen:=(Yc _<|WH hlt).1;obtain⟨W1,hW1⟩:=eQx<|wr.alloc<|.cells #[.string rs[k].name,.slice rs[k].ad rs[k].rows.length rs[k].cap] 36;have hal:ag wr W1:=by rw[hW1];exact(WL _ _).alloc (WK _) _
  obtain⟨g6,hg6⟩:=eQx wr.heap.size;have YH:O (W1.cell? ⟨g6,0,none⟩=some (.string rs[k].name)/\g6<W1.heap.size):=⟨by rw[hW1,hg6];simp,by rw[hW1,hg6];simp⟩;have HB1:=iD HB hal;have HV1:=aB<|HV.below hal;clear hr hal HB HV;go_wp2_with fail;rw[<-hW1,<-hg6];clear hW1 t0 t1 hg6;go_loopw[23] (fun i w3=>∃j:Nat,j<=rs[k].rows.length/\i=.int .i64 j/\O (((df rs[k].rows).take j).all (fun r=>aT (ae rs) rs[k].name r.expr)=true)/\O (ag w w3)/\O (aN dE prog 146 w3 bT 36<|lN rs)/\O (w3.cell? ⟨g6,0,none⟩=some (.string rs[k].name)/\g6<w3.heap.size)) (fun i _=>rs[k].rows.length-(intOf i).toNat);case atStart=>exact⟨0,WO _,rfl,(by show _=_;simp),HB1,HV1,YH⟩
  clear HB1 HV1 YH;obtain⟨j,hj,rfl,HR,HB,HV,HC⟩:=hrel;by_cases hjl:j<rs[k].rows.length
  ·rcases HS.out.below HB.out with hnil|⟨b',off',he,hb2,hr,hok⟩
   ·rw[hnil]at hlt;simp at hlt
   injection he with he;injection he with he1 he2;subst he1;subst he2;have ok:=hok rs[k]<|WH hlt;rcases ok with hnil|⟨b2,X7,had,hbb,hr2,hok2⟩
   ·rw[hnil]at hjl;simp at hjl
   obtain⟨q0,q1⟩:=hr2 j hjl;have HSE:O (iw wr rs[k].rows[j].ad rs[k].rows[j].rows):=hok2 _<|WH hjl;have Z6:O (rs[k].rows[j].light):=(HL _<|WH hlt).2 _<|WH hjl;have ZN:O (rs[k].rows[j].fits):=(Yc _<|WH hlt).2.2 _<|WH hjl;have HNB:O (∀q∈rs[k].rows[j].rows,ax q.e=true):=fun q hq=>dR (ZH _ (WH hlt) _<|WH hjl).1 q.e (by unfold ai;exact Xk hq);have hj1:=bY j;have hj2:(j:Int)<(rs[k].rows.length:Int):=cq
   obtain⟨x0,x1⟩:=HC.out;obtain⟨W3,hW3⟩:=eQx<|wr.alloc<|.cells #[.string rs[k].rows[j].name,.slice rs[k].rows[j].ad rs[k].rows[j].rows.length rs[k].rows[j].cap] 39;have hal:ag wr W3:=by rw[hW3];exact(WL _ _).alloc (WK _) _
   have HB3:=iD HB hal;have HV3:=aB<|HV.below hal;have Yq:=aB hal;have HC3:O (W3.cell? ⟨g6,0,none⟩=some (.string rs[k].name)/\g6<W3.heap.size):=⟨aD hal x1 x0,WJ x1 hal.size⟩;have HTS:O ((df rs[k].rows).take (j+1)=(df rs[k].rows).take j++[rs[k].rows[j].p]):=IB rs[k].rows j hjl;rw[had];clear hr hok hr2 hok2 hal HB HV HC;go_wp2_with fail;rw[<-hW3];clear hW3 q0 q1 x0 x1;refine(Br (some ⟨b,off,none⟩) rs[k].rows[j].ad cap rs[k].rows[j].cap rs bT 36 (lN rs) rs[k].name rs[k].rows[j].rows _ hlen (HS.below HB3) HL Yc HV3 HT z0 Z6.1 (HSE.below Yq) Z6.2 ZN.2.2 HNB).mono ?_;rintro e w5 ⟨rfl,hb5⟩;have Yo:=iD HB3 hb5;have HV5:=aB<|HV3.below hb5;have HC5:O (w5.cell? ⟨g6,0,none⟩=some (.string rs[k].name)/\g6<w5.heap.size):=⟨aD hb5 HC3.2 HC3.1,WJ HC3.2 hb5.size⟩;clear hb5;cases hrf:aT (ae rs) rs[k].name (ai rs[k].rows[j].rows);case false=>
    have HPO:O (Jo (ae rs) w (.returned<|.tuple #[.map none,.bool false]) w5):=by
     refine⟨.inr ⟨rfl,fun hs=>?_⟩,Yo⟩;have h1:=hs.2.1;unfold iG at h1;rw[WT]at h1;have h2:=h1 rs[k].p (by unfold ae;exact Xk<|WH hlt);unfold rz at h2;rw[WT]at h2;have h3:=h2 rs[k].rows[j].p (by show _∈df rs[k].rows;unfold df;exact Xk<|WH hjl);have h4:aT (ae rs) rs[k].name (ai rs[k].rows[j].rows)=true:=h3;rw[hrf]at h4;cases h4
    go_wp2;refine bodyPost_ret (v:=.tuple #[.map none,.bool false]) ?_ rfl HPO;simp[results,Tryz.results112,go_sem]
   have ZB:O (((df rs[k].rows).take<|j+1).all (fun r=>aT (ae rs) rs[k].name r.expr)=true):=by
    show _=_;rw[HTS,XU,HR];have:aT (ae rs) rs[k].name rs[k].rows[j].p.expr=true:=hrf;simp[this]
   go_wp2;go_roundw;case rel=>exact⟨j+1,cq,cx,ZB,Yo,HV5,HC5⟩
   simp[intOf]<;>omega
  obtain rfl:j=rs[k].rows.length:=cq;have HPN:O (((ae rs).take<|k+1).all (rz<|ae rs)=true):=by
   show _=_;rw[IA rs k hlt,XU,HP];have h1:=HR.out;rw[<-dP,Xa]at h1;have:rz (ae rs) rs[k].p=true:=h1;simp[this]
  go_wp2;go_roundw;case rel=>exact⟨k+1,cq,cx,HPN,HB,HV⟩
  simp[intOf]<;>omega
 obtain rfl:k=rs.length:=cq;have HRA:O (iG (ae rs)=true):=by
  have h1:=HP.out;rw[<-bz,Xa]at h1;exact h1
 go_wp2_with fail;refine(Dt ad cap rs bT 36 (lN rs) _ h6 (HS.below HB) HL Yc Za (fun r hr q hq=>(ZH r hr q hq).2) (Q6 HSH) HV HT).mono ?_;rintro e w5 ⟨rfl,⟨nL,ML,hG5⟩,hb5⟩;have Yo:=iD HB hb5;have ZF:O (Grp w5 wr.heap.size nL ML<|jR (ae rs) rs):=hG5;clear hG5 hb5;go_wp2_with fail;refine(zS ad cap rs wr.heap.size nL ML (jR (ae rs) rs) _ h6 (HS.below Yo) Yc Za ZF (TF HSH HRA) (mU HRA)<|Om rs Za ZH<|Q6 HSH).mono ?_;rintro e w6 ⟨hL,hb6⟩;have HB6:=iD Yo hb6;clear hb6;rcases hL with⟨bS,nS,σ,rfl,hM,hLe,hk⟩|⟨rfl,hno⟩
 ·have HPO:O (Jo (ae rs) w (.returned<|.tuple #[.map (some bS),.bool true]) w6):=⟨.inl ⟨bS,nS,σ,rfl,⟨HSH,HRA,_,hLe.sol⟩,hM,hLe,hk⟩,HB6⟩;clear hM hLe hk;go_wp2;refine bodyPost_ret (v:=.tuple #[.map (some bS),.bool true]) ?_ rfl HPO;simp[results,Tryz.results112,go_sem]
 have HPO:O (Jo (ae rs) w (.returned<|.tuple #[.map none,.bool false]) w6):=⟨.inr ⟨rfl,fun h=>hno h.2.2⟩,HB6⟩;clear hno;go_wp2;refine bodyPost_ret (v:=.tuple #[.map none,.bool false]) ?_ rfl HPO;simp[results,Tryz.results112,go_sem]
def dz(ad:Q02)(cap:Nat)(rs:Q06)(w:af)(hlen:bh rs)(hs:jX w ad rs)(hl:∀r∈rs,r.light)(hf:∀r∈rs,r.fits)(hcp:∀r∈rs,r.caps):
  Calls prog 43 #[.slice ad rs.length cap] w (bj w<|.bool<|aG<|ae rs):=by
 have HC:=xH ad cap rs w hlen hs hl hf hcp;clear hs hl hf hcp;go_enter func43,ntmps43;go_wp2_with fail;refine HC.mono ?_;rintro e w6 ⟨hL,hb6⟩;rcases hL with⟨bS,nS,σ,rfl,hS,-⟩|⟨rfl,hno⟩
 ·have HY:=zl hS;have HY2:O (aG (ae rs)=true):=HY;clear HY hS HC;go_wp2;go_ret;exact⟨ah HY2.symm,hb6⟩
 have HY2:O (aG (ae rs)=false):=ed hno;clear hno HC;go_wp2;go_ret;exact⟨ah HY2.symm,hb6⟩
set_option linter.unusedVariables false
set_option maxRecDepth 100000
def kV.keepB{w w2:af}{ad:Q02}{xs:Q0a}(h:kV w ad xs)(hs:cV w w2)(hb:∀g,g<w.heap.size->w2.heap[g]?=w.heap[g]?):kV w2 ad xs:=by
 rcases h with h|⟨b,off,e,hb',hr⟩
 ·exact .inl h
 exact .inr ⟨b,off,e,WJ hb' hs,fun i hi=>(hr i hi).same fun o=>WX (a:=⟨b,o,none⟩)<|hb b hb'⟩
def sK.keepB{w w2:af}{ad:Q02}{xs:List Int}(h:sK w ad xs)(hs:cV w w2)(hb:∀g,g<w.heap.size->w2.heap[g]?=w.heap[g]?):sK w2 ad xs:=by
 rcases h with h|⟨b,off,e,hb',hr⟩
 ·exact .inl h
 exact .inr ⟨b,off,e,WJ hb' hs,fun i hi=>(WX (a:=⟨b,off+i,none⟩)<|hb b hb').trans<|hr i hi⟩
def M7{w1 w2:af}{r:ER}{b:Nat}(hb:w1.heap[b]?=some (.cells (ce r) 43 (0,0)))(hlt:cU b w1)(hs:cV w1 w2)(h2:w2.heap[b]?=w1.heap[b]?)(hok:r.ok w2):iw w2 (some<|am b) [r]:=by
 refine .inr ⟨b,0,rfl,WJ hlt hs,fun i hi=>?_,fun q hq=>by rw[WZ]at hq;subst hq;exact hok⟩;have e:i=0:=by simpa using hi
 subst e;have hc:∀o,w2.cell? (aq b o)=w1.cell? (aq b o):=fun o=>WX (a:=⟨b,o,none⟩) h2;refine⟨?_,?_,?_,?_,?_⟩
 all_goals
  rw[hc];simp[World.cell?,hb]
def Vu(w0:World)(D:Option<|List Ty)(e:Ending)(w':World):Prop:=∃(v:Value) (qs:Q06),e=.returned (.tuple #[v,.bool D.isSome])/\ae qs=D.getD []/\dA w' w0.heap.size v qs/\ag w0 w'
def jh{w0 w':af}{D:Option<|List Ty}(h:D=none)(hb:ag w0 w'):Vu w0 D (.returned<|.tuple #[.slice none 0 0,.bool false]) w':=⟨.slice none 0 0,[],by rw[h];rfl,by rw[h];rfl,mY _ _,hb⟩
structure PI(w2:World)(SLV:Value)(typ rel:ByteArray)(M:ByteArray×ByteArray->Option Value)(l:Nat->Bool)(f:Nat->Value)(w:World):Prop where
 v0:l 0=true->f 0=SLV
 v2:l 2=true->f 2=.string typ
 v3:l 3=true->f 3=.string rel
 v4:l 4=true->f 4=.agg #[.string typ,.string rel]
 bel:ag w2 w
 c1:l 1=true->∃b,f 1=.map (some b)/\w2.heap.size<=b/\aN dE prog 146 w b 36 M
 a5:l 5=true->∃g,f 5=.pointer (some ⟨g,0,none⟩)/\w2.heap.size<=g/\w.heap[g]?=some (.cells #[if l 7=true then f 1 else .map none] 102 (0,0))
 a6:l 6=true->∃g,f 6=.pointer (some ⟨g,0,none⟩)/\w2.heap.size<=g/\w.heap[g]?=some (.cells #[.string ⟨#[]⟩,.string ⟨#[]⟩] 146 (0,0))
 o7:l 7=true->l 1=true/\l 5=true
def lt_of_some{w:af}{g:Nat}{o:Obj}(h:w.heap[g]?=some o):g<w.heap.size:=(WQ.1 h).1
def PI.add{w2 w:af}{SLV:Value}{typ rel:ByteArray}{M:ByteArray×ByteArray->Option Value}{l:Nat->Bool}{f:Nat->Value}(h:PI w2 SLV typ rel M l f w)(i:Nat)(v:Value)(hl:l i=false)(h7:i≠7)
  (n0:i=0->v=SLV) (n2:i=2->v=.string typ) (n3:i=3->v=.string rel) (n4:i=4->v=.agg #[.string typ,.string rel]) (n1:i=1->∃b,v=.map (some b)/\w2.heap.size<=b/\aN dE prog 146 w b 36 M)
  (n5:i=5->∃g,v=.pointer (some<|am g)/\w2.heap.size<=g/\w.heap[g]?=some (.cells #[.map none] 102 (0,0))) (n6:i=6->∃g,v=.pointer (some<|am g)/\w2.heap.size<=g/\w.heap[g]?=some (.cells aE 146 (0,0))) :
  PI w2 SLV typ rel M (fun k=>if k=i then true else l k) (upd f i v) w:=by
 have key:∀{k:Nat} {P:Value->Prop},(l k=true->P (f k))->(i=k->P v)->(if k=i then true else l k)=true->P (upd f i v k):=fun {k P} h1 h2 h3=>by
  by_cases e:k=i
  ·subst e;simp only[upd,if_true];exact h2 rfl
  rw[if_neg e]at h3;simp only[upd,if_neg e];exact h1 h3
 have e7:(if (7:Nat)=i then true else l 7)=l 7:=if_neg<|Ne.symm h7;refine⟨key (P:=fun x=>x=SLV) h.v0 n0,key (P:=fun x=>x=.string typ) h.v2 n2,key (P:=fun x=>x=.string rel) h.v3 n3,key (P:=fun x=>x=.agg #[.string typ,.string rel]) h.v4 n4,h.bel,key (P:=fun x=>∃b,x=.map (some b)/\w2.heap.size<=b/\aN dE prog 146 w b 36 M) h.c1 n1,fun h5=>?_,key (P:=fun x=>∃g,x=.pointer (some<|am g)/\w2.heap.size<=g/\w.heap[g]?=some (.cells aE 146 (0,0))) h.a6 n6,fun h8=>?_⟩
 ·show ∃g:Nat,upd f i v 5=.pointer (some<|am g)/\w2.heap.size<=g/\w.heap[g]?=some (Obj.cells #[if (if (7:Nat)=i then true else l 7)=true then upd f i v 1 else .map none] 102 (0,0));rw[e7];by_cases e:(5:Nat)=i
  ·have hf:l 7=false:=by
    cases h9:l 7;case false=>rfl
    have:=(h.o7 h9).2;rw[<-e]at hl;rw[hl]at this;cases this
   rw[hf];subst e;simpa[upd] using n5 rfl
  rw[if_neg e]at h5;obtain⟨g,e1,e2,e3⟩:=h.a5 h5;refine⟨g,by simp only[upd,if_neg e];exact e1,e2,?_⟩;cases h9:l 7;case false=>rw[h9]at e3;simpa using e3
  have h1:(1:Nat)≠i:=fun e4=>by have:=(h.o7 h9).1;rw[<-e4]at hl;rw[hl]at this;cases this
  rw[h9]at e3;simp only[upd,if_neg h1];exact e3
 have h8:(if (7:Nat)=i then true else l 7)=true:=h8;rw[e7]at h8;have:=h.o7 h8;exact⟨by show(if (1:Nat)=i then true else l 1)=true;rw[this.1];split<;>rfl,by show(if (5:Nat)=i then true else l 5)=true;rw[this.2];split<;>rfl⟩
def Pb{w:af}{g:Nat}{T:TypeId}{x y:Value}(h:w.heap[g]?=some (.cells #[x] T (0,0))):(w.setCell (am g) y).heap[g]?=some (.cells #[y] T (0,0)):=by
 unfold World.setCell;simp[Array.getElem?_modify,h]
def L9{w:af}{b n:Nat}{M:ByteArray×ByteArray->Option Value}{cs:Array Value}{T:TypeId}(h:aN dE prog 146 w b n M)(hc:w.heap[b]?=some (.cells cs T (0,0))):False:=by
 obtain⟨D,⟨entries,ix,hb,-⟩,-⟩:=h;rw[hb]at hc;cases hc
def dA.mono{w:af}{base base':Nat}{v:Value}{rs:Q06}(h:dA w base v rs)(hb:base'<=base):dA w base' v rs:=X8.mono h hb fun q hq=>jJ.mono hq hb
def Wq(b:Bool)(v:Value):Value:=if b=true then .tuple #[v,.bool true] else .tuple #[.slice none 0 0,.bool false]
def Jp(ad:Q02)(cap:Nat)(rs:Q06)(w:af)(hlen:bh rs)(hs:jX w ad rs)(hl:∀r∈rs,r.light)(hf:∀r∈rs,r.fits)(hcp:∀r∈rs,r.caps):
  Calls prog 96 #[.slice ad rs.length cap] w (bj w<|Wq (aG<|ae rs)<|.slice ad rs.length cap):=by
 have HS:=aF hs;have HL:=aF hl;have HF:=aF hf;have HC:=aF hcp;clear hs hl hf hcp;go_enter func96,ntmps96;go_wp2_with fail;refine(dz ad cap rs _ hlen HS HL HF HC).mono ?_;rintro e w2 ⟨rfl,hb2⟩;have HB2:=aF hb2;clear hb2;cases hd:aG (ae rs);case false=>
  go_wp2;refine bodyPost_ret (v:=.tuple #[.slice none 0 0,.bool false]) ?_ rfl ⟨by first|rfl|(rw[hd];rfl)|simp[Wq,hd],HB2⟩;simp[results,Tryz.results96,go_sem]
 go_wp2;refine bodyPost_ret (v:=.tuple #[.slice ad rs.length cap,.bool true]) ?_ rfl ⟨by first|rfl|(rw[hd];rfl)|simp[Wq,hd],HB2⟩;simp[results,Tryz.results96,go_sem]
def Jq{a b:ByteArray}(h:a.toList=b.toList):a=b:=by
 rw[Go.ByteArray.toList_eq,Go.ByteArray.toList_eq]at h;exact ByteArray.ext<|Array.toList_inj.1 h
def Jr{a b:ByteArray}(h:(a.toList==b.toList)=true):a=b:=Jq (by simpa using h)
def jX.row{w:af}{b off:Nat}{rs:Q06}(h:jX w (some<|aq b off) rs){k:Nat}(hk:k<rs.length):PS w b (off+k*2) rs[k]/\b<w.heap.size:=by
 rcases h with h|⟨b',off',e,hb,hr,-⟩
 ·rw[h]at hk;simp at hk
 injection e with e;injection e with e1 e2;subst e1;subst e2;exact⟨hr k hk,hb⟩
def Df.row{w:af}{ad:Q02}{rs:Q07}(h:Df w ad rs){k:Nat}(hk:k<rs.length):∃b off,ad=some (aq b off)/\AtR w b (off+k*2) rs[k]/\b<w.heap.size:=by
 rcases h with h|⟨b',off',e,hb,hr,-⟩
 ·rw[h]at hk;simp at hk
 exact⟨b',off',e,hr k hk,hb⟩
def iw.row{w:af}{ad:Q02}{rs:Q08}(h:iw w ad rs){k:Nat}(hk:k<rs.length):∃b off,ad=some (aq b off)/\vP w b (off+k*5) rs[k]/\b<w.heap.size:=by
 rcases h with h|⟨b',off',e,hb,hr,-⟩
 ·rw[h]at hk;simp at hk
 exact⟨b',off',e,hr k hk,hb⟩
def PS.kept{w w':af}{b off:Nat}{t:TR}(h:PS w b off t)(hb:cU b w)(hB:ag w w'):PS w' b off t:=h.later hb hB
structure RFc(N b o b2 o2:Nat)(v2:Value)(tn rn:ByteArray)(rl ex:Value)(w:World):Prop where
 n0:w.cell? ⟨N,0,none⟩=some (.string tn)
 n1:w.cell? ⟨N,1,none⟩=some v2
 fz:w.frozen? ⟨N,1,none⟩=false
 t1:w.cell? ⟨b,o+1,none⟩=some rl
 r0:w.cell? ⟨b2,o2,none⟩=some (.string rn)
 r1:w.cell? ⟨b2,o2+1,none⟩=some ex
 lt:N<w.heap.size/\b2<w.heap.size/\b<w.heap.size
def RFc.heap{N b o b2 o2:Nat}{v2:Value}{tn rn:ByteArray}{rl ex:Value}{w w':af}(h:RFc N b o b2 o2 v2 tn rn rl ex w)(hs:cV w w')(hb:∀g,g=N\/g=b2\/g=b->w'.heap[g]?=w.heap[g]?):RFc N b o b2 o2 v2 tn rn rl ex w' :=
 ⟨(WX (a:=⟨N,0,none⟩)<|hb N<|.inl rfl).trans h.n0,(WX (a:=⟨N,1,none⟩)<|hb N<|.inl rfl).trans h.n1,(World.frozen?_of_block (a:=⟨N,1,none⟩)<|hb N<|.inl rfl).trans h.fz,(WX (a:=⟨b,o+1,none⟩)<|hb b<|.inr<|.inr rfl).trans h.t1,(WX (a:=⟨b2,o2,none⟩)<|hb b2<|.inr<|.inl rfl).trans h.r0,(WX (a:=⟨b2,o2+1,none⟩)<|hb b2<|.inr<|.inl rfl).trans h.r1,by have:=h.lt;omega⟩
def RFc.below{N b o b2 o2:Nat}{v2:Value}{tn rn:ByteArray}{rl ex:Value}{w w':af}(h:RFc N b o b2 o2 v2 tn rn rl ex w)(hb:ag w w'):RFc N b o b2 o2 v2 tn rn rl ex w' :=
 h.heap hb.size fun g hg=>hb.block g (by have:=h.lt;rcases hg with rfl|rfl|rfl<;>omega)
def R7(ad:Q02)(cap:Nat)(rs:Q06)(w:af)(h6:rs.length<=6)(YN:∀t∈rs,t.rows.length<=6)(he15:∀t∈rs,∀q∈t.rows,q.rows.length<=15)(hs:jX w ad rs)(hl:∀r∈rs,r.light):
  Calls prog 120 #[.slice ad rs.length cap] w fun e w'=>∃(v:Value) (qs:Q06),e=.returned v/\dA w' w.heap.size v qs/\ae qs=ae rs/\ag w w':=by
 obtain⟨iR,hiR,zR0,zR1,zR2⟩:=info_parts (P:=prog) (e:=39) (z:=.agg #[.string ⟨#[]⟩,.slice none 0 0]) (size:=2) (bytes:=40) cw;obtain⟨iT,hiT,zT0,zT1,zT2⟩:=info_parts (P:=prog) (e:=36) (z:=.agg #[.string ⟨#[]⟩,.slice none 0 0]) (size:=2) (bytes:=40) cw;have HIR:O (prog.info? 39=some iR/\iR.zero=some (.agg #[.string ⟨#[]⟩,.slice none 0 0])/\iR.size=2/\iR.bytes=40):=⟨hiR,zR0,zR1,zR2⟩;have HIT:O (prog.info? 36=some iT/\iT.zero=some (.agg #[.string ⟨#[]⟩,.slice none 0 0])/\iT.size=2/\iT.bytes=40):=⟨hiT,zT0,zT1,zT2⟩;have HS:=aF hs;have HL:=aF hl;have Za:=aF YN;have HE15:=aF he15;clear hs hl YN he15 hiR zR0 zR1 zR2 hiT zT0 zT1 zT2;obtain⟨W0,hW0⟩:=eQx<|w.alloc<|.cells #[] 36;have HX0:O (dA W0 w.heap.size (.slice (some ⟨w.heap.size,0,none⟩) 0 0) []):=by
  show X8 _ _ _ _ _ _ _ _ _;rw[hW0];exact⟨World.ownsRow_lit w #[] 0 (WK _) cy ct,fun q hq=>(by cases hq),fun q hq=>(by cases hq),fun x y hx=>absurd hx ct⟩
 have HB0:=tZ hW0;go_enter func120,ntmps120;go_wp2_with fail;rw[<-hW0];clear hW0;go_loopw[3,4] (fun v i wr=>∃(k:Nat) (qs:Q06),k<=rs.length/\i=.int .i64 k/\O (dA wr w.heap.size v qs)/\O (ae qs=(ae rs).take k)/\O (ag w wr)) (fun _ i _=>rs.length-(intOf i).toNat);case atStart=>exact⟨0,[],WO _,rfl,HX0,by show _=_;simp[ae],HB0⟩
 clear HX0 HB0;obtain⟨k,qs,hk,rfl,HX,HQ,HB⟩:=hrel;obtain⟨wo,hwo⟩:=eQx wr;subst hwo;have HQL:O (qs.length=k):=by
  show _=_;rw[<-bz,HQ,XC,bz];omega
 have hql6:qs.length<=6:=by rw[HQL];omega
 by_cases hlt:k<rs.length
 ·rcases HS.out with hnil|⟨b,off,Yb,hb0,-,-⟩
  ·rw[hnil]at hlt;simp at hlt
  subst Yb;have HTM:O (rs[k]∈rs):=WH hlt;have YN:rs[k].rows.length<=6:=Za _<|WH hlt;have hk1:=bY k;have hk2:(k:Int)<(rs.length:Int):=cq;have HTR:=aF<|HS.row hlt;obtain⟨t0,t1⟩:=HTR.1.kept HTR.2 HB;have Yn:O (rs[k].ok w):=jX.mem HS<|WH hlt;obtain⟨W2,hW2⟩:=eQx<|wo.alloc<|.cells #[.string rs[k].name,.slice none 0 0] 36;have HB2:=tZ hW2;have Ye:O (W2.cell? ⟨wo.heap.size,0,none⟩=some (.string rs[k].name)/\W2.cell? ⟨wo.heap.size,1,none⟩=some (.slice none 0 0)/\W2.frozen? ⟨wo.heap.size,1,none⟩=false/\W2.heap.size=wo.heap.size+1):=by
   show _/\_;rw[hW2];exact⟨ct,ct,ct,ct⟩
  clear hb0;go_wp2_with fail;rw[<-hW2];clear hW2 t0 t1;go_loopw[6] (fun i wr=>∃(j:Nat) (v2:Value) (rows:Q07),j<=rs[k].rows.length/\i=.int .i64 j/\O (wr.cell? ⟨wo.heap.size,0,none⟩=some (.string rs[k].name)/\wr.cell? ⟨wo.heap.size,1,none⟩=some v2/\wr.frozen? ⟨wo.heap.size,1,none⟩=false)/\O (jJ wr (wo.heap.size+1) v2 rows)/\O (df rows=(df rs[k].rows).take j)/\O (Below wo.heap.size W2 wr)) (fun i _=>rs[k].rows.length-(intOf i).toNat);case atStart=>exact⟨0,.slice none 0 0,[],WO _,rfl,⟨Ye.1,Ye.2.1,Ye.2.2.1⟩,mY _ _,by show _=_;simp[df],WL _ _⟩
  obtain⟨j,v2,rows,hj,rfl,HN,HR,HRQ,HB3⟩:=hrel;obtain⟨wi,hwi⟩:=eQx wr;subst hwi;have HZ2:O (W2.heap.size=wo.heap.size+1):=Ye.2.2.2;have Zm:O (ag wo wi):=HB2.trans HB3;have HBI:O (ag w wi):=HB.trans<|Zm.mono HB.size;have HRL:O (rows.length=j):=by
   show _=_;rw[<-dP,HRQ,XC,dP];omega
  have hrl6:rows.length<=6:=by rw[HRL];omega
  obtain⟨t0,t1⟩:=HTR.1.kept HTR.2 HBI;have hTw:wo.heap.size+1<=wi.heap.size:=by have:=HB3.size;have:=HZ2.out;omega
  by_cases hjt:j<rs[k].rows.length
  ·obtain⟨b2,X7,Y5,hrow2,Zz⟩:=Df.row Yn hjt;have HQM:O (rs[k].rows[j]∈rs[k].rows):=WH hjt;have HOE:O (iw w rs[k].rows[j].ad rs[k].rows[j].rows):=Df.mem Yn<|WH hjt;have hej:rs[k].rows[j].rows.length<=15:=HE15 _ HTM _ HQM;obtain⟨s0,s1⟩:=hrow2.later Zz HBI;rw[Y5]at t1;have yb:b<wi.heap.size:=WJ HTR.2 HBI.size;have yb2:b2<wi.heap.size:=WJ Zz HBI.size;have zb:b<wo.heap.size:=WJ HTR.2 HB.size;have zb2:b2<wo.heap.size:=WJ Zz HB.size;have hj1:=bY j;have hj2:(j:Int)<(rs[k].rows.length:Int):=cq;have HRF:O (RFc wo.heap.size b (off+k*2) b2 (X7+j*2) v2 rs[k].name rs[k].rows[j].name (.slice (some ⟨b2,X7,none⟩) rs[k].rows.length rs[k].cap) (.slice rs[k].rows[j].ad rs[k].rows[j].rows.length rs[k].rows[j].cap) wi):=⟨HN.1,HN.2.1,HN.2.2,t1,s0,s1,cq⟩;have HRM:O (jJ wi (wo.heap.size+1) v2 rows):=HR;go_wp2_with fail;clear t0 t1 s0 s1;have HNW3:O (wo.heap.size+1<=wi.heap.size):=hTw;have HRO:O (jJ wi (wo.heap.size+1) v2 rows):=HR;obtain⟨CV,hCV⟩:∃C:Nat->Value,C=fun n=>((Value.pointer<|some ⟨wo.heap.size,1,none⟩)::(v2)::(Value.slice (some ⟨b,off,none⟩) rs.length cap)::(Value.int .i64 k)::(Value.pointer<|some ⟨b,off+k*2,none⟩)::(Value.pointer<|some ⟨b,off+k*2+1,none⟩)::(Value.slice (some ⟨b2,X7,none⟩) rs[k].rows.length rs[k].cap)::(Value.int .i64 j)::(Value.pointer<|some ⟨b2,X7+j*2,none⟩)::(Value.pointer<|some ⟨b2,X7+j*2,none⟩)::(Value.string rs[k].rows[j].name)::(Value.slice (some ⟨b,off,none⟩) rs.length cap)::(Value.int .i64 k)::(Value.pointer<|some ⟨b,off+k*2,none⟩)::(Value.pointer<|some ⟨b,off+k*2+1,none⟩)::(Value.slice (some ⟨b2,X7,none⟩) rs[k].rows.length rs[k].cap)::(Value.int .i64 j)::(Value.pointer<|some ⟨b2,X7+j*2,none⟩)::(Value.pointer<|some ⟨b2,X7+j*2+1,none⟩)::(Value.slice rs[k].rows[j].ad rs[k].rows[j].rows.length rs[k].rows[j].cap)::(undef)::(undef)::(undef)::(undef)::(Value.pointer<|some ⟨wo.heap.size,1,none⟩)::[]).getD n undef:=⟨_,rfl⟩;have Ya:O (CV 0=Value.pointer (some ⟨wo.heap.size,1,none⟩)/\CV 1=v2/\CV 2=Value.slice (some ⟨b,off,none⟩) rs.length cap/\CV 3=Value.int .i64 k/\CV 4=Value.pointer (some ⟨b,off+k*2,none⟩)/\CV 5=Value.pointer (some ⟨b,off+k*2+1,none⟩)/\CV 6=Value.slice (some ⟨b2,X7,none⟩) rs[k].rows.length rs[k].cap/\CV 7=Value.int .i64 j/\CV 8=Value.pointer (some ⟨b2,X7+j*2,none⟩)/\CV 9=Value.pointer (some ⟨b2,X7+j*2,none⟩)/\CV 10=Value.string rs[k].rows[j].name/\CV 11=Value.slice (some ⟨b,off,none⟩) rs.length cap/\CV 12=Value.int .i64 k/\CV 13=Value.pointer (some ⟨b,off+k*2,none⟩)/\CV 14=Value.pointer (some ⟨b,off+k*2+1,none⟩)/\CV 15=Value.slice (some ⟨b2,X7,none⟩) rs[k].rows.length rs[k].cap/\CV 16=Value.int .i64 j/\CV 17=Value.pointer (some ⟨b2,X7+j*2,none⟩)/\CV 18=Value.pointer (some ⟨b2,X7+j*2+1,none⟩)/\CV 19=Value.slice rs[k].rows[j].ad rs[k].rows[j].rows.length rs[k].rows[j].cap/\CV 20=undef/\CV 21=undef/\CV 22=undef/\CV 23=undef/\CV 24=Value.pointer (some ⟨wo.heap.size,1,none⟩)):=by show _/\_;rw[hCV];exact⟨rfl,rfl,rfl,rfl,rfl,rfl,rfl,rfl,rfl,rfl,rfl,rfl,rfl,rfl,rfl,rfl,rfl,rfl,rfl,rfl,rfl,rfl,rfl,rfl,rfl⟩
   clear hCV;refine dK 25 (fun|0=>u30|1=>u31|2=>u32|3=>u33|4=>u34|5=>u35|6=>u36|7=>u37|8=>u38|9=>u39|10=>u40|11=>u41|12=>u42|13=>u43|14=>u44|15=>u45|16=>u46|17=>u47|18=>u48|19=>u49|20=>u50|21=>u51|22=>u52|23=>u53|24=>u54|_=>undef) (fun fq=>{ tmps:=List.toArray (Value.slice (some ⟨b,off,none⟩) rs.length cap::undef::.slice none 0 0::u3::.int .i64 k::.pointer (some ⟨wo.heap.size,0,none⟩)::.int .i64 j::.slice (some ⟨w.heap.size,0,none⟩) 0 0::.int .i64 k::.slice (some ⟨b,off,none⟩) rs.length cap::.int .i64 rs.length::.bool true::u12::u13::.slice (some ⟨b,off,none⟩) rs.length cap::.int .i64 k::.pointer (some ⟨b,off+k*2,none⟩)::.pointer (some ⟨b,off+k*2,none⟩)::.string rs[k].name::.agg #[.string rs[k].name,.slice none 0 0]::.int .i64 j::.slice (some ⟨b,off,none⟩) rs.length cap::.int .i64 k::.pointer (some ⟨b,off+k*2,none⟩)::.pointer (some ⟨b,off+k*2+1,none⟩)::.slice (some ⟨b2,X7,none⟩) rs[k].rows.length rs[k].cap::.int .i64 rs[k].rows.length::.bool true::u28::u29::(fq 0)::(fq 1)::(fq 2)::(fq 3)::(fq 4)::(fq 5)::(fq 6)::(fq 7)::(fq 8)::(fq 9)::(fq 10)::(fq 11)::(fq 12)::(fq 13)::(fq 14)::(fq 15)::(fq 16)::(fq 17)::(fq 18)::(fq 19)::(fq 20)::(fq 21)::(fq 22)::(fq 23)::(fq 24)::u55::u56::u57::u58::undef::[]),defers:=[] }) (G.CH 20 (fun _=>[]) CV (RFc wo.heap.size b (off+k*2) b2 (X7+j*2) v2 rs[k].name rs[k].rows[j].name (Value.slice (some ⟨b2,X7,none⟩) rs[k].rows.length rs[k].cap)<|Value.slice rs[k].rows[j].ad rs[k].rows[j].rows.length rs[k].rows[j].cap) (Below wi.heap.size wi) (C1 wi<|ai rs[k].rows[j].rows) (fun x=>.agg #[.string rs[k].rows[j].name,x]) (C3 wi rs[k].rows[j].name<|ai rs[k].rows[j].rows) (C4 wi wo.heap.size rows rs[k].rows[j].name<|ai rs[k].rows[j].rows)) cw rfl cw (fun o ho l fq w' hI hp=>?IQ) rfl (G.ch_start (HRF.below (WL _ _).drew) (WL _ _).drew) ?stepR ?finR;case IQ =>
    cases ho;intro k hk;have hc:=UH (i:=k) cq
    repeat' rcases hc with rfl|hc
    ·exact hp ⟨0,.phase⟩ ct rfl
    ·exact hp ⟨1,.phase⟩ ct rfl
    ·exact hp ⟨2,.phase⟩ ct rfl
    ·exact hp ⟨3,.phase⟩ ct rfl
    ·exact hp ⟨4,.phase⟩ ct rfl
    ·exact hp ⟨5,.phase⟩ ct rfl
    ·exact hp ⟨6,.phase⟩ ct rfl
    ·exact hp ⟨7,.phase⟩ ct rfl
    ·exact hp ⟨8,.phase⟩ ct rfl
    ·exact hp ⟨9,.phase⟩ ct rfl
    ·exact hp ⟨10,.phase⟩ ct rfl
    ·exact hp ⟨11,.phase⟩ ct rfl
    ·exact hp ⟨12,.phase⟩ ct rfl
    ·exact hp ⟨13,.phase⟩ ct rfl
    ·exact hp ⟨14,.phase⟩ ct rfl
    ·exact hp ⟨15,.phase⟩ ct rfl
    ·exact hp ⟨16,.phase⟩ ct rfl
    ·exact hp ⟨17,.phase⟩ ct rfl
    ·exact hp ⟨18,.phase⟩ ct rfl
    ·exact hp ⟨19,.phase⟩ ct rfl
    ·exact hp ⟨20,.phase⟩ ct rfl
    ·exact hp ⟨21,.phase⟩ ct rfl
    ·exact hp ⟨22,.phase⟩ ct rfl
    ·exact hp ⟨23,.phase⟩ ct rfl
    exact hp ⟨24,.data⟩ ct rfl
   case stepR =>
    rintro i hi o ho l fq w' Yx hI hpre;have HI:O (G.CH 20 (fun _=>[]) CV (RFc wo.heap.size b (off+k*2) b2 (X7+j*2) v2 rs[k].name rs[k].rows[j].name (Value.slice (some ⟨b2,X7,none⟩) rs[k].rows.length rs[k].cap)<|Value.slice rs[k].rows[j].ad rs[k].rows[j].rows.length rs[k].rows[j].cap) (Below wi.heap.size wi) (C1 wi<|ai rs[k].rows[j].rows) (fun x=>.agg #[.string rs[k].rows[j].name,x]) (C3 wi rs[k].rows[j].name<|ai rs[k].rows[j].rows) (C4 wi wo.heap.size rows rs[k].rows[j].name<|ai rs[k].rows[j].rows) l fq w'):=hI;have XZ:O (∀e∈o.after,Region.binds .any e=true->l e.on=true):=hpre;have HRW:O (RFc wo.heap.size b (off+k*2) b2 (X7+j*2) v2 rs[k].name rs[k].rows[j].name (Value.slice (some ⟨b2,X7,none⟩) rs[k].rows.length rs[k].cap) (Value.slice rs[k].rows[j].ad rs[k].rows[j].rows.length rs[k].rows[j].cap) w'):=hI.rf;clear hI hpre;have hc:=UH (i:=i) cq;clear hi
    repeat' rcases hc with rfl|hc
    ·cases ho;have HP:=aF (HI.put (i:=0) cq (fun j hj=>by cases hj) Ya.1.symm);refine aa rfl fun K HK=>?_;clear XZ HI;dsimp only;go_simp;exact HK _ _ ⟨_,by simp[upd],HP⟩
    ·cases ho;have e0:fq 0=.pointer (some ⟨wo.heap.size,1,none⟩):=(HI.val 0 cq<|XZ ⟨0,.data⟩ ct rfl).trans Ya.1;have x1:=HRW.n1;have HP:=aF (HI.put (i:=1) cq (fun j hj=>by cases hj) Ya.2.1.symm);refine aa rfl fun K HK=>?_;clear XZ HI;simp only[e0];go_simp;exact HK _ _ ⟨_,by simp[upd,e0],HP⟩
    ·cases ho;have HP:=aF (HI.put (i:=2) cq (fun j hj=>by cases hj) Ya.2.2.1.symm);refine aa rfl fun K HK=>?_;clear XZ HI;dsimp only;go_simp;exact HK _ _ ⟨_,by simp[upd],HP⟩
    ·cases ho;have HP:=aF (HI.put (i:=3) cq (fun j hj=>by cases hj) Ya.2.2.2.1.symm);refine aa rfl fun K HK=>?_;clear XZ HI;dsimp only;go_simp;exact HK _ _ ⟨_,by simp[upd],HP⟩
    ·cases ho;have e2:fq 2=.slice (some ⟨b,off,none⟩) rs.length cap:=(HI.val 2 cq<|XZ ⟨2,.data⟩ ct rfl).trans Ya.2.2.1;have e3:fq 3=.int .i64 k:=(HI.val 3 cq<|XZ ⟨3,.data⟩ ct rfl).trans Ya.2.2.2.1;have HP:=aF (HI.put (i:=4) cq (fun j hj=>by cases hj) Ya.2.2.2.2.1.symm);refine aa rfl fun K HK=>?_;clear XZ HI;simp only[e2,e3];go_simp;exact HK _ _ ⟨_,by simp[upd,e2,e3],HP⟩
    ·cases ho;have e4:fq 4=.pointer (some ⟨b,off+k*2,none⟩):=(HI.val 4 cq<|XZ ⟨4,.data⟩ ct rfl).trans Ya.2.2.2.2.1;have HP:=aF (HI.put (i:=5) cq (fun j hj=>by cases hj) Ya.2.2.2.2.2.1.symm);refine aa rfl fun K HK=>?_;clear XZ HI;simp only[e4];go_simp;exact HK _ _ ⟨_,by simp[upd,e4],HP⟩
    ·cases ho;have e5:fq 5=.pointer (some ⟨b,off+k*2+1,none⟩):=(HI.val 5 cq<|XZ ⟨5,.data⟩ ct rfl).trans Ya.2.2.2.2.2.1;have x1:=HRW.t1;have HP:=aF (HI.put (i:=6) cq (fun j hj=>by cases hj) Ya.2.2.2.2.2.2.1.symm);refine aa rfl fun K HK=>?_;clear XZ HI;simp only[e5];go_simp;exact HK _ _ ⟨_,by simp[upd,e5],HP⟩
    ·cases ho;have HP:=aF (HI.put (i:=7) cq (fun j hj=>by cases hj) Ya.2.2.2.2.2.2.2.1.symm);refine aa rfl fun K HK=>?_;clear XZ HI;dsimp only;go_simp;exact HK _ _ ⟨_,by simp[upd],HP⟩
    ·cases ho;have e6:fq 6=.slice (some ⟨b2,X7,none⟩) rs[k].rows.length rs[k].cap:=(HI.val 6 cq<|XZ ⟨6,.data⟩ ct rfl).trans Ya.2.2.2.2.2.2.1;have e7:fq 7=.int .i64 j:=(HI.val 7 cq<|XZ ⟨7,.data⟩ ct rfl).trans Ya.2.2.2.2.2.2.2.1;have HP:=aF (HI.put (i:=8) cq (fun j hj=>by cases hj) Ya.2.2.2.2.2.2.2.2.1.symm);refine aa rfl fun K HK=>?_;clear XZ HI;simp only[e6,e7];go_simp;exact HK _ _ ⟨_,by simp[upd,e6,e7],HP⟩
    ·cases ho;have e8:fq 8=.pointer (some ⟨b2,X7+j*2,none⟩):=(HI.val 8 cq<|XZ ⟨8,.data⟩ ct rfl).trans Ya.2.2.2.2.2.2.2.2.1;have HP:=aF (HI.put (i:=9) cq (fun j hj=>by cases hj) Ya.2.2.2.2.2.2.2.2.2.1.symm);refine aa rfl fun K HK=>?_;clear XZ HI;simp only[e8];go_simp;exact HK _ _ ⟨_,by simp[upd,e8],HP⟩
    ·cases ho;have e9:fq 9=.pointer (some ⟨b2,X7+j*2,none⟩):=(HI.val 9 cq<|XZ ⟨9,.data⟩ ct rfl).trans Ya.2.2.2.2.2.2.2.2.2.1;have x1:=HRW.r0;have HP:=aF (HI.put (i:=10) cq (fun j hj=>by cases hj) Ya.2.2.2.2.2.2.2.2.2.2.1.symm);refine aa rfl fun K HK=>?_;clear XZ HI;simp only[e9];go_simp;exact HK _ _ ⟨_,by simp[upd,e9],HP⟩
    ·cases ho;have HP:=aF (HI.put (i:=11) cq (fun j hj=>by cases hj) Ya.2.2.2.2.2.2.2.2.2.2.2.1.symm);refine aa rfl fun K HK=>?_;clear XZ HI;dsimp only;go_simp;exact HK _ _ ⟨_,by simp[upd],HP⟩
    ·cases ho;have HP:=aF (HI.put (i:=12) cq (fun j hj=>by cases hj) Ya.2.2.2.2.2.2.2.2.2.2.2.2.1.symm);refine aa rfl fun K HK=>?_;clear XZ HI;dsimp only;go_simp;exact HK _ _ ⟨_,by simp[upd],HP⟩
    ·cases ho;have e11:fq 11=.slice (some ⟨b,off,none⟩) rs.length cap:=(HI.val 11 cq<|XZ ⟨11,.data⟩ ct rfl).trans Ya.2.2.2.2.2.2.2.2.2.2.2.1;have e12:fq 12=.int .i64 k:=(HI.val 12 cq<|XZ ⟨12,.data⟩ ct rfl).trans Ya.2.2.2.2.2.2.2.2.2.2.2.2.1;have HP:=aF (HI.put (i:=13) cq (fun j hj=>by cases hj) Ya.2.2.2.2.2.2.2.2.2.2.2.2.2.1.symm);refine aa rfl fun K HK=>?_;clear XZ HI;simp only[e11,e12];go_simp;exact HK _ _ ⟨_,by simp[upd,e11,e12],HP⟩
    ·cases ho;have e13:fq 13=.pointer (some ⟨b,off+k*2,none⟩):=(HI.val 13 cq<|XZ ⟨13,.data⟩ ct rfl).trans Ya.2.2.2.2.2.2.2.2.2.2.2.2.2.1;have HP:=aF (HI.put (i:=14) cq (fun j hj=>by cases hj) Ya.2.2.2.2.2.2.2.2.2.2.2.2.2.2.1.symm);refine aa rfl fun K HK=>?_;clear XZ HI;simp only[e13];go_simp;exact HK _ _ ⟨_,by simp[upd,e13],HP⟩
    ·cases ho;have e14:fq 14=.pointer (some ⟨b,off+k*2+1,none⟩):=(HI.val 14 cq<|XZ ⟨14,.data⟩ ct rfl).trans Ya.2.2.2.2.2.2.2.2.2.2.2.2.2.2.1;have x1:=HRW.t1;have HP:=aF (HI.put (i:=15) cq (fun j hj=>by cases hj) Ya.2.2.2.2.2.2.2.2.2.2.2.2.2.2.2.1.symm);refine aa rfl fun K HK=>?_;clear XZ HI;simp only[e14];go_simp;exact HK _ _ ⟨_,by simp[upd,e14],HP⟩
    ·cases ho;have HP:=aF (HI.put (i:=16) cq (fun j hj=>by cases hj) Ya.2.2.2.2.2.2.2.2.2.2.2.2.2.2.2.2.1.symm);refine aa rfl fun K HK=>?_;clear XZ HI;dsimp only;go_simp;exact HK _ _ ⟨_,by simp[upd],HP⟩
    ·cases ho;have e15:fq 15=.slice (some ⟨b2,X7,none⟩) rs[k].rows.length rs[k].cap:=(HI.val 15 cq<|XZ ⟨15,.data⟩ ct rfl).trans Ya.2.2.2.2.2.2.2.2.2.2.2.2.2.2.2.1;have e16:fq 16=.int .i64 j:=(HI.val 16 cq<|XZ ⟨16,.data⟩ ct rfl).trans Ya.2.2.2.2.2.2.2.2.2.2.2.2.2.2.2.2.1;have HP:=aF (HI.put (i:=17) cq (fun j hj=>by cases hj) Ya.2.2.2.2.2.2.2.2.2.2.2.2.2.2.2.2.2.1.symm);refine aa rfl fun K HK=>?_;clear XZ HI;simp only[e15,e16];go_simp;exact HK _ _ ⟨_,by simp[upd,e15,e16],HP⟩
    ·cases ho;have e17:fq 17=.pointer (some ⟨b2,X7+j*2,none⟩):=(HI.val 17 cq<|XZ ⟨17,.data⟩ ct rfl).trans Ya.2.2.2.2.2.2.2.2.2.2.2.2.2.2.2.2.2.1;have HP:=aF (HI.put (i:=18) cq (fun j hj=>by cases hj) Ya.2.2.2.2.2.2.2.2.2.2.2.2.2.2.2.2.2.2.1.symm);refine aa rfl fun K HK=>?_;clear XZ HI;simp only[e17];go_simp;exact HK _ _ ⟨_,by simp[upd,e17],HP⟩
    ·cases ho;have e18:fq 18=.pointer (some ⟨b2,X7+j*2+1,none⟩):=(HI.val 18 cq<|XZ ⟨18,.data⟩ ct rfl).trans Ya.2.2.2.2.2.2.2.2.2.2.2.2.2.2.2.2.2.2.1;have x1:=HRW.r1;have HP:=aF (HI.put (i:=19) cq (fun j hj=>by cases hj) Ya.2.2.2.2.2.2.2.2.2.2.2.2.2.2.2.2.2.2.2.1.symm);refine aa rfl fun K HK=>?_;clear XZ HI;simp only[e18];go_simp;exact HK _ _ ⟨_,by simp[upd,e18],HP⟩
    ·cases ho;have e19:fq 19=.slice rs[k].rows[j].ad rs[k].rows[j].rows.length rs[k].rows[j].cap:=(HI.val 19 cq<|XZ ⟨19,.data⟩ ct rfl).trans Ya.2.2.2.2.2.2.2.2.2.2.2.2.2.2.2.2.2.2.2.1;have HM0:=aF (HI.m0 Yx).1;refine aa rfl fun K HK=>?_;clear XZ;simp only[e19];go_simp;refine(Gm _ _ rs[k].rows[j].rows w' hej (HOE.below<|HBI.trans<|HM0.mono HBI.size)<|((HL _ HTM).2 _ HQM).2).mono ?_;rintro e w9 ⟨v9,qs9,rfl,hn9,he9,Y6⟩;obtain⟨ad9,YP,rfl⟩:=jT hn9.own;have HP:=aF (HI.call Yx (fun j hj=>by cases hj) (HRW.below Y6) (show C1 wi (ai rs[k].rows[j].rows) (.slice ad9 qs9.length YP) w9 from ⟨ad9,YP,qs9,rfl,NodM.mono hn9 HM0.size,he9,HM0.trans<|Y6.mono HM0.size⟩));clear hn9 he9 Y6 HI HRW HM0;go_wp2_with fail;exact HK _ _ ⟨_,by simp[upd,e19],HP⟩
    ·cases ho;have e10:fq 10=.string rs[k].rows[j].name:=(HI.val 10 cq<|XZ ⟨10,.data⟩ ct rfl).trans Ya.2.2.2.2.2.2.2.2.2.2.1;have hc0:=XZ ⟨20,.data⟩ ct rfl;obtain⟨ad9,YP,qs9,e20,-⟩:=(HI.m1 hc0 Yx).1;have HP:=aF (HI.build hc0 Yx (fun j hj=>by cases hj) (v:=.agg #[.string rs[k].rows[j].name,.slice ad9 qs9.length YP]) (by rw[e20]));refine aa rfl fun K HK=>?_;clear XZ HI;simp only[e10,e20];go_simp;exact HK _ _ ⟨_,by simp[upd,e10,e20],HP⟩
    ·cases ho;have hc1:=XZ ⟨21,.data⟩ ct rfl;obtain⟨eB,hM1,-,-⟩:=HI.m2 hc1 Yx;have YH:=aF hM1;obtain⟨ad9,YP,qs9,e20,-⟩:=hM1;replace eB:fq 21=.agg #[.string rs[k].rows[j].name,.slice ad9 qs9.length YP]:=by rw[eB,e20]
     rw[e20]at YH;have HP:=aF (HI.lay hc1 Yx (fun j hj=>by cases hj) (HRW.below<|(WL _ _).alloc (WK _) _) (C1.lay (rn:=rs[k].rows[j].name) YH));refine aa rfl fun K HK=>?_;clear XZ HI YH;simp only[eB];go_simp;exact HK _ _ ⟨_,by simp[upd,eB,e20],HP⟩
    ·cases ho;have e1:fq 1=v2:=(HI.val 1 cq<|XZ ⟨1,.data⟩ ct rfl).trans Ya.2.1;have hc2:=XZ ⟨22,.data⟩ ct rfl;obtain⟨b9,q9,e22,hnew9,hk9,hp9,Y6⟩:=(HI.m3 hc2 Yx).1;have hown:w'.ownsRow (wo.heap.size+1) 39 2 (v2) rows.length (rows.flatMap RR.cells):=dJ HRM.own fun g hg=>Y6.block g (HRM.own.lt g hg).2;refine ib w' rfl rfl _ _ 34 rfl (wo.heap.size+1) 39 iR _ 2 40 underlying34 HIR.1 HIR.2.1 HIR.2.2.1 HIR.2.2.2 rfl cv (v2) rows.length (rows.flatMap RR.cells) (by simp[Act.eval,e1]) hown ⟨b9,0,none⟩ 1 1 (RR.cells q9) (by simp[Act.eval,e22]) rfl hnew9 (by simp[RR.cells,RR.vs,Value.oneCell']) cy cq (by have:=Y6.size;have:=HNW3.out;omega) ?_;intro v' w2 hown2 Yl Z8;exact⟨v',by simp[upd,Act.put],HI.app hc2 Yx (fun j hj=>by cases hj) (HRW.heap Yl.size fun g hg=>Yl.block g (by have:=HRW.lt;rcases hg with rfl|rfl|rfl<;>omega) (fun e=>by have h1:=(HRM.own.lt g e.symm).1;have h2:=(HRO.own.lt g e.symm).2;rcases hg with rfl|rfl|rfl<;>omega)) (C3.app (W0:=wi) HRM HNW3 hk9 hp9 Y6 hown2 Yl Z8)⟩
    cases ho;have HP:=aF (HI.put (i:=24) cq (fun j hj=>by cases hj) Ya.2.2.2.2.2.2.2.2.2.2.2.2.2.2.2.2.2.2.2.2.2.2.2.2.symm);refine aa rfl fun K HK=>?_;clear XZ HI;dsimp only;go_simp;exact HK _ _ ⟨_,by simp[upd],HP⟩
   case finR =>
    rintro o ho l fq w' hall hI;obtain rfl:=Option.some.inj ho;obtain⟨ad4,cap4,q4,e23,hRM4,hqp4,hb4⟩:=(hI.m4<|hall 23 cq).1;have e24:fq 24=.pointer (some ⟨wo.heap.size,1,none⟩):=(hI.val 24 (.inr rfl) (hall 24 cq)).trans Ya.2.2.2.2.2.2.2.2.2.2.2.2.2.2.2.2.2.2.2.2.2.2.2.2;have n1:=hI.rf.n1;have fz:=hI.rf.fz;have HRW:=aF hI.rf;rw[e23]at hRM4;have HRM4:=aF hRM4;have HQP4:=aF hqp4;have YF:=aF hb4;clear hRM4 hqp4 hb4 hall;refine aa rfl fun K HK=>?_;simp only[e23,e24];go_simp;refine HK _ _ ?_;clear ho HK K hI Ya e23 e24;obtain⟨y0,hy0⟩:∃y,y=fq 0:=⟨_,rfl⟩;rw[<-hy0];obtain⟨y1,hy1⟩:∃y,y=fq 1:=⟨_,rfl⟩;rw[<-hy1];obtain⟨y2,hy2⟩:∃y,y=fq 2:=⟨_,rfl⟩;rw[<-hy2];obtain⟨y3,hy3⟩:∃y,y=fq 3:=⟨_,rfl⟩;rw[<-hy3];obtain⟨y4,hy4⟩:∃y,y=fq 4:=⟨_,rfl⟩;rw[<-hy4];obtain⟨y5,hy5⟩:∃y,y=fq 5:=⟨_,rfl⟩;rw[<-hy5];obtain⟨y6,hy6⟩:∃y,y=fq 6:=⟨_,rfl⟩;rw[<-hy6];obtain⟨y7,hy7⟩:∃y,y=fq 7:=⟨_,rfl⟩;rw[<-hy7];obtain⟨y8,hy8⟩:∃y,y=fq 8:=⟨_,rfl⟩;rw[<-hy8];obtain⟨y9,hy9⟩:∃y,y=fq 9:=⟨_,rfl⟩;rw[<-hy9];obtain⟨y10,hy10⟩:∃y,y=fq 10:=⟨_,rfl⟩;rw[<-hy10];obtain⟨y11,hy11⟩:∃y,y=fq 11:=⟨_,rfl⟩;rw[<-hy11];obtain⟨y12,hy12⟩:∃y,y=fq 12:=⟨_,rfl⟩;rw[<-hy12];obtain⟨y13,hy13⟩:∃y,y=fq 13:=⟨_,rfl⟩;rw[<-hy13];obtain⟨y14,hy14⟩:∃y,y=fq 14:=⟨_,rfl⟩;rw[<-hy14];obtain⟨y15,hy15⟩:∃y,y=fq 15:=⟨_,rfl⟩;rw[<-hy15];obtain⟨y16,hy16⟩:∃y,y=fq 16:=⟨_,rfl⟩;rw[<-hy16];obtain⟨y17,hy17⟩:∃y,y=fq 17:=⟨_,rfl⟩;rw[<-hy17];obtain⟨y18,hy18⟩:∃y,y=fq 18:=⟨_,rfl⟩;rw[<-hy18];obtain⟨y19,hy19⟩:∃y,y=fq 19:=⟨_,rfl⟩;rw[<-hy19];obtain⟨y20,hy20⟩:∃y,y=fq 20:=⟨_,rfl⟩;rw[<-hy20];obtain⟨y21,hy21⟩:∃y,y=fq 21:=⟨_,rfl⟩;rw[<-hy21];obtain⟨y22,hy22⟩:∃y,y=fq 22:=⟨_,rfl⟩;rw[<-hy22];clear hy0 hy1 hy2 hy3 hy4 hy5 hy6 hy7 hy8 hy9 hy10 hy11 hy12 hy13 hy14 hy15 hy16 hy17 hy18 hy19 hy20 hy21 hy22 fq l CV;have HNX:O ((w'.setCell ⟨wo.heap.size,1,none⟩<|.slice ad4 (rows.length+1) cap4).cell? ⟨wo.heap.size,0,none⟩=some (.string rs[k].name)/\(w'.setCell ⟨wo.heap.size,1,none⟩<|.slice ad4 (rows.length+1) cap4).cell? ⟨wo.heap.size,1,none⟩=some (.slice ad4 (rows.length+1) cap4)/\(w'.setCell ⟨wo.heap.size,1,none⟩<|.slice ad4 (rows.length+1) cap4).frozen? ⟨wo.heap.size,1,none⟩=false):=⟨by rw[iL cq];exact HRW.n0,oL n1,by simpa using fz⟩;have HRX:O (jJ (w'.setCell ⟨wo.heap.size,1,none⟩<|.slice ad4 (rows.length+1) cap4) (wo.heap.size+1) (.slice ad4 (rows.length+1) cap4)<|rows++[q4]):=X8.heap oG HRM4 ct fun g hg=>Below.heap_setCell _ _ _ g (by have:=(X8.lt oG HRM4 hg).1;show g≠wo.heap.size;omega);have HQX:O (df (rows++[q4])=(df rs[k].rows).take (j+1)):=by
     show _=_;rw[IY,HRQ,HQP4,WN<|by rw[dP];exact hjt];simp[df,RR.p]
    have YY:O (Below wo.heap.size W2<|w'.setCell ⟨wo.heap.size,1,none⟩<|.slice ad4 (rows.length+1) cap4):=(HB3.trans<|YF.mono cq).setCell (by show _<=wo.heap.size;omega) _;clear n1 fz HRW HRM4 YF HRF HRM HRO HN HR;go_wp2_with fail;go_roundw;case rel=>exact⟨j+1,.slice ad4 (rows.length+1) cap4,rows++[q4],cq,cx,HNX,HRX,HQX,YY⟩
    simp[intOf]<;>omega
  obtain rfl:j=rs[k].rows.length:=cq;have hown2:=HR.own;obtain⟨ad2,cap2,rfl⟩:=jT hown2;obtain⟨q,hq⟩:∃q:TR,q=⟨rs[k].name,rows,ad2,cap2⟩:=⟨_,rfl⟩;have HQP:O (q.p=rs[k].p):=by
   show _=_;rw[hq];have e:=HRQ.out;rw[Xn (by rw[dP];exact WK _)]at e;simp[TR.p,e]
  obtain⟨W4,YR⟩:=eQx<|wi.alloc<|.cells #[.string rs[k].name,.slice ad2 rows.length cap2] 36;have HA4:=tZ YR;have Z9:O (ag wo W4):=Zm.trans<|HA4.mono Zm.size;have YX:O (∀j u,(TR.cells q)[j]?=some u->W4.cell? ((⟨wi.heap.size,0,none⟩:Addr).add j)=some u):=by rw[YR,hq];exact vw wi _ _ _
  have HKQ:O (kT W4 (wo.heap.size+1) q):=by rw[hq];exact X8.below oG HR HA4
  have HOW4:O (W4.ownsRow w.heap.size 36 2 u3 qs.length<|qs.flatMap TR.cells):=dJ HX.own fun g hg=>Z9.block g (HX.own.lt g hg).2;have HWW:O (w.heap.size<=wo.heap.size):=HB.size;obtain⟨n0,n1,-⟩:=HN.out;clear hq hown2;go_wp2_with(at_builtin;go_must (rw[<-YR];clear YR;refine wpList_append_own_at _ rfl _ _ 24 rfl w.heap.size 36 iT (.agg #[.string ⟨#[]⟩,.slice none 0 0]) 2 40 underlying24 HIT.1 HIT.2.1 HIT.2.2.1 HIT.2.2.2 rfl cv u3 qs.length (qs.flatMap TR.cells) rfl HOW4 ⟨wi.heap.size,0,none⟩ 1 1 (TR.cells q) rfl rfl YX (by simp[TR.cells,TR.vs,Value.oneCell']) cy cq (WR HWW Z9.size) ?_));intro v5 w5 hown5 hgr5 _ hv5;have HX5:O (dA w5 w.heap.size v5<|qs++[q]):=X8.snocN jW HX Z9 hown5 hgr5 (hv5.imp id fun e=>⟨_,e,WK _⟩) (jJ.mono HKQ (by have:=HWW.out;omega)) (fun g hg=>by have:=(jW.lt W4 _ q HKQ g hg).1;omega);have HQ5:O (ae (qs++[q])=(ae rs).take (k+1)):=by
   show _=_;rw[IZ,HQ,HQP,WN<|by rw[bz];exact hlt];simp[ae]
  have Yo:O (ag w w5):=(HB.trans<|Z9.mono HB.size).grown hgr5 (WR HWW Z9.size) fun g hg=>(HX.own.lt g hg).1;clear hown5 hgr5 hv5 n0 n1 t0 t1 HOW4 YX HKQ HN HR;go_wp2;go_roundw;case rel=>exact⟨k+1,qs++[q],cq,cx,HX5,HQ5,Yo⟩
  simp[intOf]<;>omega
 obtain rfl:k=rs.length:=cq;have HF:O (ae qs=ae rs):=by
  show _=_;rw[HQ,Xn<|by rw[bz];exact WK _]
 go_wp2;go_ret;exact⟨_,qs,rfl,HX,HF,HB⟩
end Go.Proofs.YtojjoblnpldniaaGreat
