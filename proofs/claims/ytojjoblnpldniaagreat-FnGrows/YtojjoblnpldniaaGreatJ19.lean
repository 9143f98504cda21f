/- Contracts of the program's functions on goals and on what a schema names. -/
import Derived.Test.YtojjoblnpldniaaGreatSq
import Derived.Test.YtojjoblnpldniaaGreatJ11
import Derived.Test.YtojjoblnpldniaaGreatJ13
open Go.Proofs.Tryz
set_option maxHeartbeats 80000000
namespace Go.Proofs.YtojjoblnpldniaaGreat
open ChangeShapes WideShapes ChangeAt RowKit Maps
open Pl
def gm(ts:Q0b)(ty over rel:ByteArray):List ByteArray:=if bi (az ts ty over) then gW ts ty over rel else []
theorem Ny:(prog.info? 9).map (fun i=>(i.zero,i.size,i.bytes))=some (some (.string ⟨#[]⟩),1,16):=by kernel_rfl
theorem J8(r:ER)(h:bi (aj [r])=true):aQ (aj [r])=r.e.allow/\r.e.kind=1:=by
 simp only[aj,WF,List.map_nil,bi,Vt,VF]at h;exact⟨by simp[aj,aQ,h.1],h.1⟩
theorem J9{rows:Q08}(h:bi (aj rows)=true):∃r,rows=[r]:=by
 rcases rows with _|⟨r,_|⟨r2,rs⟩⟩
 ·simp[aj,bi]at h
 ·exact⟨r,rfl⟩
 simp[aj,bi]at h
set_option maxRecDepth 100000 in
theorem yt(b n:Nat)(rs:Q06)(ad:Q02)(M:ByteArray×ByteArray->Option Value)(typ:bQ)(x:ER)(w:ae)(hV:aJ dU prog 146 w b n M)(hT:Tab rs M)(hs:mP w ad rs)(hl:∀r∈rs,r.light)(hf:∀r∈rs,r.fits)(ht:typ.size<=maxLen)(ho:x.e.over.size<=maxLen)(hn:x.e.name.size<=maxLen):
  Calls prog 93 #[.map (some b),.string typ,x.val] w fun e w'=>(∃(WS:Q02) (cap':Nat),e=.returned (.slice WS (gm (af rs) typ x.e.over x.e.name).length cap')/\TT w' WS (gm (af rs) typ x.e.over x.e.name)/\∀p,WS=some p->w.heap.size<=p.block)/\ag w w':=by
 have HV:Hid (aJ dU prog 146 w b n M):=hV;have HT:=aC hT;have HS:=aC hs;have HL:=aC hl;have WR:=aC hf;obtain⟨kl,hkl⟩:=kv (typ,x.e.over) ht ho;have Xw:Hid (keyOf prog 146 (dU (typ,x.e.over))=some kl):=hkl;clear hkl hV hT hs hl hf;obtain⟨i0,hi,hz0,hz1,hz2⟩:=info_parts Ny;obtain⟨W0,hW0⟩:∃W0,W0=w.alloc (.cells #[.int .i64 x.e.kind,.slice x.adA x.e.allow.length x.capA,.string x.e.over,.string x.e.name,.slice x.adK x.e.kids.length x.capK] 43):=⟨_,rfl⟩;have hal:ag w W0:=by rw[hW0];exact(Vs _ _).alloc (Vr _) _
 have HB0:=aC hal;have HV0:=aC (HV.out.below hal);have c3:W0.cell? ⟨w.heap.size,3,none⟩=some (.string x.e.name):=by rw[hW0];simp
 have hg0:w.heap.size<W0.heap.size:=by rw[hW0];simp
 -- what lies in the table
 obtain⟨rows,WM,capE,HM,HE,HF,HFL⟩:∃(rows:Q08) (WM:Q02) (capE:Nat),Hid ((M (typ,x.e.over)).getD (.slice none 0 0)=.slice WM rows.length capE)/\Hid (aj rows=az (af rs) typ x.e.over)/\Hid (pV rs WM rows)/\Hid (∀q∈rows,q.e.fits):=by
  cases e:M (typ,x.e.over) with
  | none=>exact⟨[],none,0,rfl,by show _=_;unfold az;rw[HT.out.no _ e];rfl,.inl rfl,by show ∀_,_;simp⟩
  | some v =>
   obtain⟨t,htm,q,hq,-,rfl,e1,-⟩:=HT.out.yes _ v e;exact⟨q.rows,q.ad,q.cap,rfl,by show _=_;unfold az;rw[e1];rfl,.inr ⟨t,htm,q,hq,rfl,rfl⟩,((WR.out t htm).2.2 q hq).2.2⟩
 have Y5:Hid (jw W0 WM rows):=HF.out.sl (HS.out.below hal);have XA:=HF.out.light HL.out;have HLE1:rows.length<=1048576:=XA.1;have HLE2:Hid (∀q∈rows,q.e.light):=XA.2;clear XA hal;go_enter func93,ntmps93;unfold ER.val;go_wp2_with(at_lookup;rw[<-hW0];refine jA _ rfl _ _ 102 rfl 146 37 iY underlying102 (rT _) b n M rfl HV0.out (typ,x.e.over) kl rfl Xw.out ?_;rw[HM.out];clear hW0);refine(vw WM capE rows _ HLE1 Y5.out HLE2.out).mono ?_;rintro e w1 ⟨rfl,hb1⟩;have HB1:=iJ HB0 hb1;have HNM:Hid (w1.cell? ⟨w.heap.size,3,none⟩=some (.string x.e.name)/\w.heap.size<w1.heap.size):=⟨aA hb1 hg0 c3,Vq hg0 hb1.size⟩;clear hb1 c3 hg0;cases hd:bi (aj rows);case false=>
  have HG:Hid (gm (af rs) typ x.e.over x.e.name=[]):=by show _=_;unfold gm;rw[<-HE.out,hd];rfl
  go_wp2;go_ret;refine⟨⟨none,0,by rw[HG.out];rfl,by rw[HG.out];exact .inl rfl,fun p hp=>by cases hp⟩,HB1.out⟩
 obtain⟨r,rfl⟩:=J9 hd;have HG:Hid (gm (af rs) typ x.e.over x.e.name=gl (af rs) x.e.name r.e.allow):=by
  show _=_;unfold gm gW;rw[<-HE.out,hd,if_pos rfl,(J8 r hd).1]
 rcases Y5.out with h|⟨bE,offE,rfl,hbE,hrE,hokE⟩
 ·cases h
 have HSW:Hid (jw w1 (some ⟨bE,offE,none⟩) [r]):=HF.out.sl (HS.out.below HB1.out);rcases HSW.out with h|⟨bE',offE',heE,hbE1,hrE1,hokE1⟩
 ·cases h
 injection heE with heE;injection heE with heE1 heE2;subst heE1;subst heE2;obtain⟨s0,s1,s2,s3,s4⟩:=hrE1 0 (by simp);simp only[Nat.zero_mul,Nat.add_zero,List.getElem_cons_zero]at s0 s1 s2 s3 s4;have HOKR:Hid (r.ok w):=by
  have h1:=HF.out.sl HS.out;exact h1.mem (by simp)
 have lgA:r.e.allow.length<=1048576:=(HLE2.out r (by simp)).1;have HFA:Hid (∀a∈r.e.allow,a.fits):=(HFL.out r (by simp)).1;have hone:([r]:Q08).length=1:=rfl;rw[hone];clear hrE hokE hrE1 hokE1 HE HM hd hbE;go_wp2_with fail;go_loopw[8,25] (fun v i wr=>∃k:Nat,k<=r.e.allow.length/\i=.int .i64 k/\Hid (wr.ownsRow w.heap.size 9 1 v (gl (af rs) x.e.name (r.e.allow.take k)).length (qA (gl (af rs) x.e.name (r.e.allow.take k))))/\Hid (ag w wr)/\Hid (wr.cell? ⟨w.heap.size,3,none⟩=some (.string x.e.name)/\w.heap.size<wr.heap.size/\v.ownBlock≠some w.heap.size)) (fun _ i _=>r.e.allow.length-(intOf i).toNat);case atStart=>exact⟨0,Vv _,rfl,World.ownsRow_nil _ _ _ _,HB1,HNM.out.1,HNM.out.2,by simp[Value.ownBlock]⟩
 clear HB1 HNM s0 s1 s2 s3 s4;obtain⟨k,hk,rfl,HOW,HB,HC⟩:=hrel;by_cases hlt:k<r.e.allow.length
 ·rcases (HOKR.out.1).below HB.out with hnil|⟨ba,Yx,had,ZT,hra⟩
  ·rw[hnil]at hlt;simp at hlt
  obtain⟨t0,t1⟩:=hra k hlt;have hk1:=bC k;have hk2:(k:Int)<(r.e.allow.length:Int):=by omega
  have zA:=HFA.out _ (Vp hlt);have z1:r.e.allow[k].t.size<=maxLen:=zA.1;obtain⟨hc3,hcl,hco⟩:=HC.out;obtain⟨W1,hW1⟩:∃W1,W1=wr.alloc (.cells #[.string r.e.allow[k].t,.string r.e.allow[k].s] 216):=⟨_,rfl⟩;have hal:ag wr W1:=by rw[hW1];exact(Vs _ _).alloc (Vr _) _
  have WP:=iJ HB hal;have HVW:=aC (HV.out.below WP.out);have YI:Hid (W1.ownsRow w.heap.size 9 1 u8 (gl (af rs) x.e.name (r.e.allow.take k)).length (qA (gl (af rs) x.e.name (r.e.allow.take k)))):=own_below HOW.out hal;have g0:W1.cell? ⟨wr.heap.size,0,none⟩=some (.string r.e.allow[k].t):=by rw[hW1];simp
  have g3:=aA hal hcl hc3;have hgl1:wr.heap.size<W1.heap.size:=by rw[hW1];simp
  have hgl:=Jb (af rs) x.e.name (r.e.allow.take k);rw[Wi]at hgl;have HI:=HT.out.some_iff (r.e.allow[k].t,x.e.name);have hwsz:w.heap.size<=W1.heap.size:=WP.out.size;rw[had];clear hra hal HC HOW;go_wp2_with fail;rw[<-hW1];refine(yV b n M r.e.allow[k].t x.e.name _ z1 hn HVW.out).mono ?_;rintro e w' ⟨rfl,hw'⟩;rw[hw'];clear hw' w' hW1 t0 t1 hc3;cases hz:(M (r.e.allow[k].t,x.e.name)).isSome;case false=>
   have HE:Hid (gl (af rs) x.e.name (r.e.allow.take (k+1))=gl (af rs) x.e.name (r.e.allow.take k)):=by
    refine Tj _ _ _ _ hlt ?_;rw[hz]at HI;simpa using HI.symm
   clear HI;go_wp2;go_roundw;case rel=>exact⟨k+1,by omega,by go_num,by rw[HE.out];exact YI,WP,g3,by omega,hco⟩
   simp[intOf]<;>omega
  have HX:Hid (gl (af rs) x.e.name (r.e.allow.take (k+1))=gl (af rs) x.e.name (r.e.allow.take k)++[r.e.allow[k].t]):=by
   refine O6 _ _ _ _ hlt ?_;rw[hz]at HI;simpa using HI.symm
  clear HI;go_wp2_with(at_builtin;refine wpList_append_own_at _ rfl _ _ 143 rfl w.heap.size 9 i0 (.string ⟨#[]⟩) 1 16 underlying143 hi hz0 hz1 hz2 rfl (by decide) _ _ _ rfl (YI.out.alloc _) ⟨W1.heap.size,0,none⟩ 1 1 [.string r.e.allow[k].t] rfl rfl (cell_one_new _ _ _) (by intro u hu;simp at hu;subst hu;rfl) (by unfold maxLen;omega) (by omega) (by simp;omega) ?_);intro v' w3 hown3 hgrow _ hloc;have hb3:Hid (ag w w3):=(WP.out.alloc WP.out.size _).grown hgrow (by simp;omega) (fun i hi=>(YI.out.lt i hi).1);have Xc:Hid (w3.ownsRow w.heap.size 9 1 v' (gl (af rs) x.e.name (r.e.allow.take (k+1))).length (qA (gl (af rs) x.e.name (r.e.allow.take (k+1))))):=by
   show World.ownsRow _ _ _ _ _ _ _;rw[HX.out];simpa[qA] using hown3
  have ZF:Hid (w3.cell? ⟨w.heap.size,3,none⟩=some (.string x.e.name)/\w.heap.size<w3.heap.size/\v'.ownBlock≠some w.heap.size):=by
   refine⟨?_,?_,?_⟩
   ·rw[hgrow.cell_far _ (by simp;omega) (Ne.symm hco)];exact aA ((Vs _ _).alloc (Vr _) _) (by omega) g3
   ·have:=hgrow.size;simp at this;omega
   rcases hloc with e|e
   ·rw[e];exact hco
   rw[e];simp;omega
  clear hown3 hgrow hloc YI g0 g3;go_wp2;go_roundw;case rel=>exact⟨k+1,by omega,by go_num,Xc,hb3,ZF⟩
  simp[intOf]<;>omega
 obtain rfl:k=r.e.allow.length:=by omega
 have hown:=HOW.out;rw[VI]at hown;obtain⟨WS,cp,rfl,hS',hN'⟩:=O7 hown;have HS2:=aC hS';have Yn:Hid (∀p,WS=some p->w.heap.size<=p.block):=hN';clear hown HOW hS' hN' HC;go_wp2;go_ret;refine⟨⟨WS,cp,by rw[HG.out];rfl,by rw[HG.out];exact HS2.out,Yn.out⟩,HB.out⟩
theorem Bt(t:TR)(g:Nat)(nm:bQ)(w:ae)(hg:g<w.heap.size)(hc:w.cell? ⟨g,0,none⟩=some (.string nm)):
  Calls prog 296 #[.agg #[.string t.name,.slice t.ad t.rows.length t.cap],.pointer (some ⟨g,0,none⟩)] w fun e w'=>e=.returned (.bool (t.name.toList==nm.toList))/\ag w w':=by
 go_enter func296,ntmps296;go_wp2;go_ret;exact⟨rfl,(Vs _ _).alloc (Vr _) _⟩
theorem DT(rs:Q06)(k:Nat)(h:k<rs.length)(nm:bQ):lF (af (rs.drop k)) nm=((rs[k].name.toList==nm.toList) || lF (af (rs.drop (k+1))) nm):=by
 rw[nP _ _ h];rfl
theorem Bu(ad:Q02)(cap:Nat)(rs:Q06)(g:Nat)(nm:bQ)(w:ae)(hlen:rs.length<=1048576)(hs:mP w ad rs)(hg:g<w.heap.size)(hc:w.cell? ⟨g,0,none⟩=some (.string nm)):
  Calls prog 323 #[.slice ad rs.length cap,.func (Fn.func 296) #[] #[.pointer (some ⟨g,0,none⟩)]] w fun e w'=>(∃r:Int,e=.returned (.int .i64 r)/\decide (0<=r)=lF (af rs) nm)/\ag w w':=by
 have HS:=aC hs;have HC:Hid (w.cell? ⟨g,0,none⟩=some (.string nm)):=hc;clear hs hc;go_enter func323,ntmps323;go_wp2_with fail;go_loopw[8] (fun i wr=>∃k:Nat,k<=rs.length/\i=.int .i64 k/\Hid (lF (af (rs.drop k)) nm=lF (af rs) nm)/\Hid (ag w wr)) (fun i _=>rs.length-(intOf i).toNat);case atStart=>exact⟨0,Vv _,rfl,rfl,Vs _ _⟩
 obtain⟨k,hk,rfl,HP,HB⟩:=hrel;by_cases hlt:k<rs.length
 ·rcases HS.out.below HB.out with rfl|⟨b,off,rfl,hb,hr,-⟩
  ·simp at hlt
  obtain⟨t0,t1⟩:=hr k hlt;have hk1:=bC k;have hk2:(k:Int)<(rs.length:Int):=by omega
  have HCW:Hid (wr.cell? ⟨g,0,none⟩=some (.string nm)):=aA HB.out hg HC.out;have HGW:Hid (g<wr.heap.size):=Vq hg HB.out.size;clear hr;cases he:(rs[k].name.toList==nm.toList);case true=>
   have HN:Hid (lF (af rs) nm=true):=by show _=_;rw[<-HP.out,DT _ _ hlt,he];rfl
   go_wp2_with(go_at_call 296;refine(Bt rs[k] g nm _ HGW.out HCW.out).mono ?_;rintro e w' ⟨he2,hbx⟩;rw[he]at he2;subst he2);go_ret;exact⟨⟨k,rfl,by rw[HN.out];simp⟩,HB.out.trans (hbx.mono HB.out.size)⟩
  have WQ:Hid (lF (af (rs.drop (k+1))) nm=lF (af rs) nm):=by show _=_;rw[<-HP.out,DT _ _ hlt,he];rfl
  go_wp2_with(go_at_call 296;refine(Bt rs[k] g nm _ HGW.out HCW.out).mono ?_;rintro e w' ⟨he2,hbx⟩;rw[he]at he2;subst he2);go_roundw;case rel=>exact⟨k+1,by omega,by go_num,WQ,HB.out.trans (hbx.mono HB.out.size)⟩
  simp[intOf]<;>omega
 have HN:Hid (lF (af rs) nm=false):=by show _=_;rw[<-HP.out,VN (by omega)];rfl
 go_wp2;go_ret;exact⟨⟨-1,rfl,by rw[HN.out];simp⟩,HB.out⟩
theorem wh(ad:Q02)(cap:Nat)(rs:Q06)(g:Nat)(nm:bQ)(w:ae)(hlen:rs.length<=1048576)(hs:mP w ad rs)(hg:g<w.heap.size)(hc:w.cell? ⟨g,0,none⟩=some (.string nm)):
  Calls prog 295 #[.slice ad rs.length cap,.func (Fn.func 296) #[] #[.pointer (some ⟨g,0,none⟩)]] w fun e w'=>e=.returned (.bool (lF (af rs) nm))/\ag w w':=by
 go_enter func295,ntmps295;go_wp2_with fail;refine(Bu ad cap rs g nm _ hlen hs hg hc).mono ?_;rintro e w' ⟨⟨r,rfl,hr⟩,hbx⟩;have HR:Hid (decide (0<=r)=lF (af rs) nm):=hr;clear hr hs hc;go_wp2;go_ret;exact⟨by rw[<-HR.out];rfl,hbx⟩
set_option maxRecDepth 100000 in
theorem Bv(ad adA:Q02)(cap capA:Nat)(rs:Q06)(b n:Nat)(M:ByteArray×ByteArray->Option Value)(xs:Q0a)(w:ae)(hlen:rs.length<=1048576)(hs:mP w ad rs)(hV:aJ dU prog 146 w b n M)(hT:Tab rs M)(hla:xs.length<=1048576)(hsa:lu w adA xs)(hfa:∀a∈xs,a.fits):
  Calls prog 258 #[.slice ad rs.length cap,.map (some b),.slice adA xs.length capA] w fun e w'=>e=.returned (.bool (oP (af rs) xs))/\ag w w':=by
 have HS:=aC hs;have HV:Hid (aJ dU prog 146 w b n M):=hV;have HT:=aC hT;have HA:=aC hsa;have HFA:=aC hfa;clear hs hV hT hsa hfa;go_enter func258,ntmps258;go_wp2_with fail;go_loopw[11] (fun i wr=>∃k:Nat,k<=xs.length/\i=.int .i64 k/\Hid (nQ (af rs) xs k=true)/\Hid (ag w wr)) (fun i _=>xs.length-(intOf i).toNat);case atStart=>exact⟨0,Vv _,rfl,zB _ _,Vs _ _⟩
 obtain⟨k,hk,rfl,HP,HB⟩:=hrel;by_cases hlt:k<xs.length
 ·rcases HA.out.below HB.out with rfl|⟨ba,Yx,rfl,ZT,hra⟩
  ·simp at hlt
  obtain⟨t0,t1⟩:=hra k hlt;have hk1:=bC k;have hk2:(k:Int)<(xs.length:Int):=by omega
  have zA:=HFA.out _ (Vp hlt);have z1:xs[k].t.size<=maxLen:=zA.1;have z2:xs[k].s.size<=maxLen:=zA.2;have HI:Hid ((M (xs[k].t,xs[k].s)).isSome=!(az (af rs) xs[k].t xs[k].s).isEmpty):=HT.out.some_iff (xs[k].t,xs[k].s);obtain⟨W1,hW1⟩:∃W1,W1=wr.alloc (.cells #[.string xs[k].t,.string xs[k].s] 216):=⟨_,rfl⟩;have hal:ag wr W1:=by rw[hW1];exact(Vs _ _).alloc (Vr _) _
  have WP:=iJ HB hal;have g0:W1.cell? ⟨wr.heap.size,0,none⟩=some (.string xs[k].t):=by rw[hW1];simp
  have g1:W1.cell? ⟨wr.heap.size,1,none⟩=some (.string xs[k].s):=by rw[hW1];simp
  have hgl:wr.heap.size<W1.heap.size:=by rw[hW1];simp
  clear hra hal zA;go_wp2_with fail;rw[<-hW1];clear hW1 t0 t1;refine(wh ad cap rs wr.heap.size xs[k].t _ hlen (HS.out.below WP.out) hgl g0).mono ?_;rintro e w2 ⟨rfl,hb2⟩;have HB2:=iJ WP hb2;replace g0:=aA hb2 hgl g0;replace g1:=aA hb2 hgl g1;have HV2:=aC (HV.out.below HB2.out);clear hb2 hgl;cases ht:lF (af rs) xs[k].t;case false=>
   have HN:Hid (oP (af rs) xs=false):=uQ _ _ k hlt (by simp[pW,ht]);go_wp2;go_ret;exact⟨by rw[HN.out];rfl,HB2.out⟩
  cases he:xs[k].s.toList.isEmpty;case true=>
   have WQ:Hid (nQ (af rs) xs (k+1)=true):=by show _=_;rw[oQ _ _ _ hlt,HP.out];simp[pW,ht,he]
   go_wp2;go_roundw;case rel=>exact⟨k+1,by omega,by go_num,WQ,HB2⟩
   simp[intOf]<;>omega
  cases hz:(M (xs[k].t,xs[k].s)).isSome;case false=>
   have HN:Hid (oP (af rs) xs=false):=uQ _ _ k hlt (by have:=HI.out;rw[hz]at this;simp[pW,ht,he];simpa using this.symm);go_wp2_with(go_at_call 94;refine(yV b n M xs[k].t xs[k].s _ z1 z2 HV2.out).mono ?_;rintro e w' ⟨he2,rfl⟩;rw[hz]at he2;subst he2);go_ret;exact⟨by rw[HN.out];rfl,HB2.out⟩
  have WQ:Hid (nQ (af rs) xs (k+1)=true):=by show _=_;rw[oQ _ _ _ hlt,HP.out];have:=HI.out;rw[hz]at this;simp[pW,ht,he];simpa using this.symm
  go_wp2_with(go_at_call 94;refine(yV b n M xs[k].t xs[k].s _ z1 z2 HV2.out).mono ?_;rintro e w' ⟨he2,rfl⟩;rw[hz]at he2;subst he2);go_roundw;case rel=>exact⟨k+1,by omega,by go_num,WQ,HB2⟩
  simp[intOf]<;>omega
 have HN:Hid (oP (af rs) xs=true):=by
  have:=HP.out;obtain rfl:k=xs.length:=by omega
  unfold nQ at this;rw[VI]at this;exact this
 go_wp2;go_ret;exact⟨by rw[HN.out];rfl,HB.out⟩
theorem uC{e:Ex}(h:av e=true)(h1:e.kind≠1):e.allow=[]:=by
 unfold av at h;rw[if_neg h1]at h;split at h
 ·simp only[Vt,VF]at h;exact VM.1 h.1.1.2
 split at h
 ·simp only[Vt,VF]at h;exact VM.1 h.1.2
 split at h
 ·simp only[Vt,VF]at h;exact VM.1 h.1.1.2
 split at h
 ·simp only[Vt,VF]at h;exact VM.1 h.1.1.2
 cases h
theorem Ka(ts:Q0b)(typ:bQ)(rows:Q08)(k:Nat)(h:k<rows.length):aR ts typ (aj (rows.drop k))=if oP ts rows[k].e.allow&&lG ts typ rows[k].e then aR ts typ (aj (rows.drop (k+1))) else false:=by
 rw[gu _ _ h];rfl
theorem Hm(ts:Q0b)(typ:bQ)(e:Ex)(h:e.kind=3):lG ts typ e=!(gm ts typ e.over e.name).isEmpty:=by
 unfold lG gm;rw[if_neg (by omega),if_pos h];cases bi (az ts typ e.over)<;>simp
set_option maxRecDepth 100000 in
theorem Bw(ad WM:Q02)(cap capE:Nat)(rs:Q06)(b n:Nat)(M:ByteArray×ByteArray->Option Value)(typ:bQ)(rows:Q08)(w:ae)(hlen:rs.length<=1048576)(hs:mP w ad rs)(hl:∀r∈rs,r.light)(hf:∀r∈rs,r.fits)(hV:aJ dU prog 146 w b n M)(hT:Tab rs M)(ht:typ.size<=maxLen)(hle:rows.length<=1048576)(hse:jw w WM rows)(hlE:∀q∈rows,q.e.light)(hfE:∀q∈rows,q.e.fits)(hnb:∀q∈rows,av q.e=true):
  Calls prog 185 #[.slice ad rs.length cap,.map (some b),.string typ,.slice WM rows.length capE] w fun e w'=>e=.returned (.bool (aR (af rs) typ (aj rows)))/\ag w w':=by
 have HS:=aC hs;have HL:=aC hl;have WR:=aC hf;have HV:Hid (aJ dU prog 146 w b n M):=hV;have HT:=aC hT;have HE:=aC hse;have XA:=aC hlE;have YO:=aC hfE;have HNB:Hid (∀q∈rows,av q.e=true):=hnb;clear hs hl hf hV hT hse hlE hfE hnb;go_enter func185,ntmps185;go_wp2_with fail;go_loopw[13] (fun i wr=>∃k:Nat,k<=rows.length/\i=.int .i64 k/\Hid (aR (af rs) typ (aj (rows.drop k))=aR (af rs) typ (aj rows))/\Hid (ag w wr)) (fun i _=>rows.length-(intOf i).toNat);case atStart=>exact⟨0,Vv _,rfl,rfl,Vs _ _⟩
 obtain⟨k,hk,rfl,HP,HB⟩:=hrel;by_cases hlt:k<rows.length
 ·rcases HE.out.below HB.out with rfl|⟨bE,offE,rfl,hbE,hrE,hokE⟩
  ·simp at hlt
  obtain⟨t0,t1,t2,t3,t4⟩:=hrE k hlt;have HOKW:Hid (rows[k].ok w):=HE.out.mem (Vp hlt);have hk1:=bC k;have hk2:(k:Int)<(rows.length:Int):=by omega
  have lgA:rows[k].e.allow.length<=1048576:=(XA.out _ (Vp hlt)).1;have HFK:Hid (rows[k].e.fits):=YO.out _ (Vp hlt);have HNK:Hid (av rows[k].e=true):=HNB.out _ (Vp hlt);have HDR:=Ka (af rs) typ rows k hlt;have HD:Hid (aR (af rs) typ (aj rows)=if oP (af rs) rows[k].e.allow&&lG (af rs) typ rows[k].e then aR (af rs) typ (aj (rows.drop (k+1))) else false):=by show _=_;rw[<-HP.out];exact HDR
  obtain⟨W1,hW1⟩:∃W1,W1=wr.alloc (.cells #[.int .i64 rows[k].e.kind,.slice rows[k].adA rows[k].e.allow.length rows[k].capA,.string rows[k].e.over,.string rows[k].e.name,.slice rows[k].adK rows[k].e.kids.length rows[k].capK] 43):=⟨_,rfl⟩;have hal:ag wr W1:=by rw[hW1];exact(Vs _ _).alloc (Vr _) _
  have WP:=iJ HB hal;have HVW:=aC (HV.out.below WP.out);have zO:rows[k].e.over.size<=maxLen:=HFK.out.2.1;have zN:rows[k].e.name.size<=maxLen:=HFK.out.2.2.1;clear hrE hokE hal HDR;by_cases h1:rows[k].e.kind=1
  ·have Yk:Hid (lG (af rs) typ rows[k].e=true):=by show _=_;unfold lG;rw[if_neg (by omega),if_neg (by omega)]
   have hq1:(rows[k].e.kind==1)=true:=by simpa using h1
   replace h1:Hid (rows[k].e.kind=1):=h1;go_wp2_with fail;rw[<-hW1];refine(Bv ad rows[k].adA cap rows[k].capA rs b n M rows[k].e.allow _ hlen (HS.out.below WP.out) HVW.out HT.out lgA (HOKW.out.1.below WP.out) HFK.out.1).mono ?_;rintro e w2 ⟨rfl,hb2⟩;have HB2:=iJ WP hb2;clear hb2 hW1 t0 t1 t2 t3 t4;cases hz:oP (af rs) rows[k].e.allow;case false=>
    have HN:Hid (aR (af rs) typ (aj rows)=false):=by show _=_;rw[HD.out,hz];rfl
    go_wp2;go_ret;exact⟨by rw[HN.out];rfl,HB2.out⟩
   have WQ:Hid (aR (af rs) typ (aj (rows.drop (k+1)))=aR (af rs) typ (aj rows)):=by show _=_;rw[HD.out,hz,Yk.out];rfl
   go_wp2;go_roundw;case rel=>exact⟨k+1,by omega,by go_num,WQ,HB2⟩
   simp[intOf]<;>omega
  have hq1:(rows[k].e.kind==1)=false:=by simpa using h1
  have Zd:Hid (oP (af rs) rows[k].e.allow=true):=by show _=_;rw[uC HNK.out h1];rfl
  by_cases h2:rows[k].e.kind=2
  ·have hq2:(rows[k].e.kind==2)=true:=by simpa using h2
   have HI:=HT.out.some_iff (typ,rows[k].e.name);have Yk:Hid (lG (af rs) typ rows[k].e=(M (typ,rows[k].e.name)).isSome):=by show _=_;unfold lG;rw[if_pos h2,HI]
   clear HI;replace h2:Hid (rows[k].e.kind=2):=h2;go_wp2_with fail;rw[<-hW1];refine(yV b n M typ rows[k].e.name _ ht zN HVW.out).mono ?_;rintro e w2 ⟨rfl,hw2⟩;rw[hw2];clear hw2 w2 hW1 t0 t1 t2 t3 t4;cases hz:(M (typ,rows[k].e.name)).isSome;case false=>
    have HN:Hid (aR (af rs) typ (aj rows)=false):=by show _=_;rw[HD.out,Yk.out,hz,Zd.out];rfl
    go_wp2;go_ret;exact⟨by rw[HN.out];rfl,WP.out⟩
   have WQ:Hid (aR (af rs) typ (aj (rows.drop (k+1)))=aR (af rs) typ (aj rows)):=by show _=_;rw[HD.out,Yk.out,hz,Zd.out];rfl
   go_wp2;go_roundw;case rel=>exact⟨k+1,by omega,by go_num,WQ,WP⟩
   simp[intOf]<;>omega
  have hq2:(rows[k].e.kind==2)=false:=by simpa using h2
  by_cases h3:rows[k].e.kind=3
  ·have hq3:(rows[k].e.kind==3)=true:=by simpa using h3
   have Yk:Hid (lG (af rs) typ rows[k].e=!(gm (af rs) typ rows[k].e.over rows[k].e.name).isEmpty):=Hm _ _ _ h3;replace h3:Hid (rows[k].e.kind=3):=h3;go_wp2_with fail;rw[<-hW1];refine(yt b n rs ad M typ rows[k] _ HVW.out HT.out (HS.out.below WP.out) HL.out WR.out ht zO zN).mono ?_;rintro e w2 ⟨⟨WS,cap',rfl,-,-⟩,hb2⟩;have HB2:=iJ WP hb2;clear hb2 hW1 t0 t1 t2 t3 t4;generalize gm (af rs) typ rows[k].e.over rows[k].e.name=gs at Yk⊢;cases gs with
   | nil =>
    have HN:Hid (aR (af rs) typ (aj rows)=false):=by show _=_;rw[HD.out,Yk.out,Zd.out];rfl
    go_wp2;go_ret;exact⟨by rw[HN.out];rfl,HB2.out⟩
   | cons g gs =>
    have WQ:Hid (aR (af rs) typ (aj (rows.drop (k+1)))=aR (af rs) typ (aj rows)):=by show _=_;rw[HD.out,Yk.out,Zd.out];rfl
    have hlz:(((g::gs).length:Int)==0)=false:=by
     have:¬(((g::gs).length:Int)=0):=by simp;omega
     simpa using this
    obtain⟨ln,hln⟩:∃ln,ln=(g::gs).length:=⟨_,rfl⟩;rw[<-hln]at hlz ⊢;clear hln;go_wp2;go_roundw;case rel=>exact⟨k+1,by omega,by go_num,WQ,HB2⟩
    simp[intOf]<;>omega
  have hq3:(rows[k].e.kind==3)=false:=by simpa using h3
  have Yk:Hid (lG (af rs) typ rows[k].e=true):=by show _=_;unfold lG;rw[if_neg h2,if_neg h3]
  have WQ:Hid (aR (af rs) typ (aj (rows.drop (k+1)))=aR (af rs) typ (aj rows)):=by show _=_;rw[HD.out,Yk.out,Zd.out];rfl
  have Xh:Hid (ag w (wr.alloc (.cells #[.int .i64 rows[k].e.kind,.slice rows[k].adA rows[k].e.allow.length rows[k].capA,.string rows[k].e.over,.string rows[k].e.name,.slice rows[k].adK rows[k].e.kids.length rows[k].capK] 43))):=by rw[<-hW1];exact WP
  clear hW1;go_wp2;go_roundw;case rel=>exact⟨k+1,by omega,by go_num,WQ,Xh⟩
  simp[intOf]<;>omega
 have HN:Hid (aR (af rs) typ (aj rows)=true):=by show _=_;rw[<-HP.out,VN (by omega)];rfl
 go_wp2;go_ret;exact⟨by rw[HN.out];rfl,HB.out⟩
def Al.cells(a:Al):List Value:=[.string a.t,.string a.s]
def ic:List Al->List Value
 | []=>[]
 | a::xs=>a.cells++ic xs
theorem Fu(xs ys:Q0a):ic (xs++ys)=ic xs++ic ys:=by
 induction xs with
 | nil=>rfl
 | cons d ds ih=>simp[ic,ih]
theorem Bz(xs:Q0a)(d:Al):ic (xs++[d])=ic xs++d.cells:=by rw[Fu];simp[ic]
theorem DU(xs:Q0a)(i:Nat)(h:i<xs.length)(o:Nat)(ho:o<2):(ic xs)[i*2+o]?=(xs[i].cells)[o]?:=by
 induction xs generalizing i with
 | nil=>simp at h
 | cons s xs ih =>
  cases i with
  | zero =>
   simp only[ic,Nat.zero_mul,VQ,List.getElem_cons_zero];rw[Wt (by simp[Al.cells];omega)]
  | succ i =>
   simp only[ic,List.getElem_cons_succ];rw[Wq (by simp[Al.cells];omega)];have e:(i+1)*2+o-s.cells.length=i*2+o:=by simp[Al.cells];omega
   rw[e];exact ih i (by simpa using h)
theorem Qz{w:ae}{base:Nat}{v:Value}{xs:Q0a}(h:w.ownsRow base 146 2 v xs.length (ic xs)):∃ad cp,v=.slice ad xs.length cp/\lu w ad xs/\∀p,ad=some p->base<=p.block:=by
 have h2:=h;rcases h.2 with⟨rfl,h0⟩|⟨g,cp,cur,rfl,hbg,hg,hnc,-⟩
 ·exact⟨none,0,by rw[h0],.inl (VM.1 h0),fun p hp=>by cases hp⟩
 have hlt:=h2.lt g rfl;refine⟨_,cp,rfl,.inr ⟨g,0,rfl,hlt.2,fun i hi=>?_⟩,fun p hp=>by injection hp with hp;rw[<-hp];exact hlt.1⟩;have h3:∀(o:Nat) (u:Value),(ic xs)[i*2+o]?=some u->w.cell? ⟨g,0+i*2+o,none⟩=some u:=fun o u hu=>by
  have:=h2.cells (g:=g) rfl (i*2+o) u hu;rw[Gw]at this;rw[VQ];exact this
 exact⟨h3 0 _ (by have:=DU xs i hi 0 (by omega);simpa[Al.cells] using this),h3 1 _ (by have:=DU xs i hi 1 (by omega);simpa[Al.cells] using this)⟩
def dL:List Al->List Al
 | []=>[]
 | a::xs=>if a.s.toList.isEmpty then dL xs else a::dL xs
theorem wm(xs ys:Q0a):dL (xs++ys)=dL xs++dL ys:=by
 induction xs with
 | nil=>rfl
 | cons a xs ih=>simp only[V9,dL,ih];split<;>simp
theorem QA(xs:Q0a)(k:Nat)(h:k<xs.length)(he:xs[k].s.toList.isEmpty=true):dL (xs.take (k+1))=dL (xs.take k):=by
 rw[Vu h,wm];simp[dL]at he ⊢;simp[he]
theorem Nz(xs:Q0a)(k:Nat)(h:k<xs.length)(he:xs[k].s.toList.isEmpty=false):dL (xs.take (k+1))=dL (xs.take k)++[xs[k]]:=by
 rw[Vu h,wm];simp[dL,he]
theorem DV(xs:Q0a):(dL xs).length<=xs.length:=by
 induction xs with
 | nil=>simp[dL]
 | cons a xs ih=>simp only[dL];split<;>simp<;>omega
def jl(ts:Q0b)(typ:ByteArray)(e:Ex):List Al :=
 if e.kind=1 then dL e.allow else if e.kind=2 then [⟨typ,e.name⟩] else if e.kind=3 then (gm ts typ e.over e.name).map fun g=>⟨g,e.name⟩ else []
theorem QB:(prog.info? 146).map (fun i=>(i.zero,i.size,i.bytes))=some (some (.agg #[.string ⟨#[]⟩,.string ⟨#[]⟩]),2,32):=by kernel_rfl
theorem Fv(rs:Q06)(hl:∀r∈rs,r.light)(typ over rel:bQ):(gm (af rs) typ over rel).length<=1048576:=by
 unfold gm;split
 ·exact xW rs hl typ over rel
 simp
theorem xA(w:ae)(o o':Obj):((w.alloc o).alloc o').heap[w.heap.size+1]?=some o':=by
 have:=heap_alloc_new (w.alloc o) o';simpa using this
set_option maxRecDepth 100000 in
theorem Ho(b n:Nat)(rs:Q06)(ad:Q02)(M:ByteArray×ByteArray->Option Value)(typ:bQ)(x:ER)(w:ae)(hV:aJ dU prog 146 w b n M)(hT:Tab rs M)(hs:mP w ad rs)(hl:∀r∈rs,r.light)(hf:∀r∈rs,r.fits)(ht:typ.size<=maxLen)(hxf:x.e.fits)(hxl:x.e.light)(hxo:x.ok w):
  Calls prog 261 #[.map (some b),.string typ,x.val] w fun e w'=>(∃(WS:Q02) (cap':Nat),e=.returned (.slice WS (jl (af rs) typ x.e).length cap')/\lu w' WS (jl (af rs) typ x.e)/\∀p,WS=some p->w.heap.size<=p.block)/\ag w w':=by
 have HV:Hid (aJ dU prog 146 w b n M):=hV;have HT:=aC hT;have HS:=aC hs;have HL:=aC hl;have WR:=aC hf;have Zh:=aC hxf;have HXO:=aC hxo;have lgA:x.e.allow.length<=1048576:=hxl.1;clear hV hT hs hl hf hxf hxo hxl;obtain⟨i0,hi,hz0,hz1,hz2⟩:=info_parts QB;obtain⟨W0,hW0⟩:∃W0,W0=w.alloc (.cells #[.int .i64 x.e.kind,.slice x.adA x.e.allow.length x.capA,.string x.e.over,.string x.e.name,.slice x.adK x.e.kids.length x.capK] 43):=⟨_,rfl⟩;have hal:ag w W0:=by rw[hW0];exact(Vs _ _).alloc (Vr _) _
 have HB0:=aC hal;have hg0:w.heap.size<W0.heap.size:=by rw[hW0];simp
 have c0:W0.cell? ⟨w.heap.size,0,none⟩=some (.int .i64 x.e.kind):=by rw[hW0];simp
 have c1:W0.cell? ⟨w.heap.size,1,none⟩=some (.slice x.adA x.e.allow.length x.capA):=by rw[hW0];simp
 have c2:W0.cell? ⟨w.heap.size,2,none⟩=some (.string x.e.over):=by rw[hW0];simp
 have c3:W0.cell? ⟨w.heap.size,3,none⟩=some (.string x.e.name):=by rw[hW0];simp
 have c4:W0.cell? ⟨w.heap.size,4,none⟩=some (.slice x.adK x.e.kids.length x.capK):=by rw[hW0];simp
 clear hal;unfold ER.val;by_cases h1:x.e.kind=1
 ·have HLI:Hid (jl (af rs) typ x.e=dL x.e.allow):=by show _=_;unfold jl;rw[if_pos h1]
  have hq1:(x.e.kind==1)=true:=by simpa using h1
  replace h1:Hid (x.e.kind=1):=h1;go_enter func261,ntmps261;go_wp2_with fail;rw[<-hW0];clear hW0;go_loopw[7,19] (fun v i wr=>∃k:Nat,k<=x.e.allow.length/\i=.int .i64 k/\Hid (wr.ownsRow w.heap.size 146 2 v (dL (x.e.allow.take k)).length (ic (dL (x.e.allow.take k))))/\Hid (ag w wr)) (fun _ i _=>x.e.allow.length-(intOf i).toNat);case atStart=>exact⟨0,Vv _,rfl,World.ownsRow_nil _ _ _ _,HB0⟩
  clear HB0 c0 c1 c2 c3 c4 hg0;obtain⟨k,hk,rfl,HOW,HB⟩:=hrel;by_cases hlt:k<x.e.allow.length
  ·rcases (HXO.out.1).below HB.out with hnil|⟨ba,Yx,had,ZT,hra⟩
   ·rw[hnil]at hlt;simp at hlt
   obtain⟨t0,t1⟩:=hra k hlt;have hk1:=bC k;have hk2:(k:Int)<(x.e.allow.length:Int):=by omega
   obtain⟨W1,hW1⟩:∃W1,W1=wr.alloc (.cells #[.string x.e.allow[k].t,.string x.e.allow[k].s] 216):=⟨_,rfl⟩;have hal:ag wr W1:=by rw[hW1];exact(Vs _ _).alloc (Vr _) _
   have WP:=iJ HB hal;have YI:Hid (W1.ownsRow w.heap.size 146 2 u7 (dL (x.e.allow.take k)).length (ic (dL (x.e.allow.take k)))):=own_below HOW.out hal;have g0:W1.cell? ⟨wr.heap.size,0,none⟩=some (.string x.e.allow[k].t):=by rw[hW1];simp
   have g1:W1.cell? ⟨wr.heap.size,1,none⟩=some (.string x.e.allow[k].s):=by rw[hW1];simp
   have hgl1:wr.heap.size<W1.heap.size:=by rw[hW1];simp
   have hgl:=DV (x.e.allow.take k);rw[Wi]at hgl;have hwsz:w.heap.size<=W1.heap.size:=WP.out.size;rw[had];clear hra hal HOW;cases he:x.e.allow[k].s.toList.isEmpty;case true=>
    have HE:Hid (dL (x.e.allow.take (k+1))=dL (x.e.allow.take k)):=QA _ _ hlt he;have Xh:Hid (ag w (wr.alloc (.cells #[.string x.e.allow[k].t,.string x.e.allow[k].s] 216))):=by rw[<-hW1];exact WP
    have HOX:Hid ((wr.alloc (.cells #[.string x.e.allow[k].t,.string x.e.allow[k].s] 216)).ownsRow w.heap.size 146 2 u7 (dL (x.e.allow.take (k+1))).length (ic (dL (x.e.allow.take (k+1))))):=by rw[<-hW1,HE.out];exact YI
    clear hW1 g0 g1;go_wp2;go_roundw;case rel=>exact⟨k+1,by omega,by go_num,HOX,Xh⟩
    simp[intOf]<;>omega
   have HX:Hid (dL (x.e.allow.take (k+1))=dL (x.e.allow.take k)++[x.e.allow[k]]):=Nz _ _ hlt he;have HOX:Hid ((wr.alloc (.cells #[.string x.e.allow[k].t,.string x.e.allow[k].s] 216)).ownsRow w.heap.size 146 2 u7 (dL (x.e.allow.take k)).length (ic (dL (x.e.allow.take k)))):=by rw[<-hW1];exact YI
   have Xh:Hid (ag w (wr.alloc (.cells #[.string x.e.allow[k].t,.string x.e.allow[k].s] 216))):=by rw[<-hW1];exact WP
   have hws:w.heap.size<=wr.heap.size:=HB.out.size;clear hW1 YI WP g0 g1 hgl1 hwsz W1;go_wp2_with(at_builtin;refine wpList_append_own_at _ rfl _ _ 340 rfl w.heap.size 146 i0 _ 2 32 underlying340 hi hz0 hz1 hz2 rfl (by decide) _ _ _ rfl (HOX.out.alloc _) ⟨wr.heap.size+1,0,none⟩ 1 1 [.string x.e.allow[k].t,.string x.e.allow[k].s] rfl rfl (World.news_of_block (cs:=#[.string x.e.allow[k].t,.string x.e.allow[k].s]) (t:=146) (fr:=(0,0)) (xA wr _ _)) (by simp[Value.oneCell']) (by unfold maxLen;omega) (by omega) (by simp;omega) ?_);intro v' w3 hown3 hgrow _ hloc;have HB3:Hid (ag w w3):=(Xh.out.alloc Xh.out.size _).grown hgrow (by simp;omega) (fun i hi=>(HOX.out.lt i hi).1);have Xc:Hid (w3.ownsRow w.heap.size 146 2 v' (dL (x.e.allow.take (k+1))).length (ic (dL (x.e.allow.take (k+1))))):=by
    show World.ownsRow _ _ _ _ _ _ _;rw[HX.out,Bz,Vx];exact hown3
   clear hown3 hgrow hloc HOX Xh;go_wp2;go_roundw;case rel=>exact⟨k+1,by omega,by go_num,Xc,HB3⟩
   simp[intOf]<;>omega
  obtain rfl:k=x.e.allow.length:=by omega
  have hown:=HOW.out;rw[VI]at hown;obtain⟨WS,cp,rfl,hS',hN'⟩:=Qz hown;have HS2:=aC hS';have Yn:Hid (∀p,WS=some p->w.heap.size<=p.block):=hN';clear hown HOW hS' hN';go_wp2;go_ret;exact⟨⟨WS,cp,by rw[HLI.out];rfl,by rw[HLI.out];exact HS2.out,Yn.out⟩,HB.out⟩
 have hq1:(x.e.kind==1)=false:=by simpa using h1
 by_cases h2:x.e.kind=2
 ·have HLI:Hid (jl (af rs) typ x.e=[⟨typ,x.e.name⟩]):=by show _=_;unfold jl;rw[if_neg h1,if_pos h2]
  have hq2:(x.e.kind==2)=true:=by simpa using h2
  replace h2:Hid (x.e.kind=2):=h2;have HOX:Hid ((w.alloc (.cells #[.int .i64 x.e.kind,.slice x.adA x.e.allow.length x.capA,.string x.e.over,.string x.e.name,.slice x.adK x.e.kids.length x.capK] 43)).ownsRow w.heap.size 146 2 (.slice none 0 0) 0 []):=World.ownsRow_nil _ _ _ _;have Xh:Hid (ag w (w.alloc (.cells #[.int .i64 x.e.kind,.slice x.adA x.e.allow.length x.capA,.string x.e.over,.string x.e.name,.slice x.adK x.e.kids.length x.capK] 43))):=by rw[<-hW0];exact HB0
  clear hW0 HB0 c0 c1 c2 c3 c4 hg0 W0;go_enter func261,ntmps261;go_wp2_with(at_builtin;refine wpList_append_own_at _ rfl _ _ 340 rfl w.heap.size 146 i0 _ 2 32 underlying340 hi hz0 hz1 hz2 rfl (by decide) _ _ _ rfl (HOX.out.alloc _) ⟨w.heap.size+1,0,none⟩ 1 1 [.string typ,.string x.e.name] rfl rfl (World.news_of_block (cs:=#[.string typ,.string x.e.name]) (t:=146) (fr:=(0,0)) (xA w _ _)) (by simp[Value.oneCell']) (by unfold maxLen;omega) (by omega) (by simp;omega) ?_);intro v' w3 hown3 hgrow _ hloc;have HB3:Hid (ag w w3):=(Xh.out.alloc Xh.out.size _).grown hgrow (by simp;omega) (fun i hi=>(HOX.out.lt i hi).1);have Xp:w3.ownsRow w.heap.size 146 2 v' ([⟨typ,x.e.name⟩]:Q0a).length (ic [⟨typ,x.e.name⟩]):=hown3;obtain⟨WS,cp,rfl,hS',hN'⟩:=Qz Xp;have HS2:=aC hS';have Yn:Hid (∀p,WS=some p->w.heap.size<=p.block):=hN';clear hown3 Xp hgrow hloc HOX Xh hS' hN';go_wp2;go_ret;exact⟨⟨WS,cp,by rw[HLI.out];rfl,by rw[HLI.out];exact HS2.out,Yn.out⟩,HB3.out⟩
 have hq2:(x.e.kind==2)=false:=by simpa using h2
 by_cases h3:x.e.kind=3
 ·have HLI:Hid (jl (af rs) typ x.e=(gm (af rs) typ x.e.over x.e.name).map fun g=>(⟨g,x.e.name⟩:Al)):=by show _=_;unfold jl;rw[if_neg h1,if_neg h2,if_pos h3]
  have hq3:(x.e.kind==3)=true:=by simpa using h3
  replace h3:Hid (x.e.kind=3):=h3;have HGL:(gm (af rs) typ x.e.over x.e.name).length<=1048576:=Fv rs HL.out _ _ _;have HV0:=aC (HV.out.below HB0.out);go_enter func261,ntmps261;go_wp2_with fail;rw[<-hW0];refine(yt b n rs ad M typ x _ HV0.out HT.out (HS.out.below HB0.out) HL.out WR.out ht Zh.out.2.1 Zh.out.2.2.1).mono ?_;rintro e w1 ⟨⟨adG,cpG,rfl,hSG,hNG⟩,hb1⟩;generalize gm (af rs) typ x.e.over x.e.name=gs at *
  have HB1:=iJ HB0 hb1;have HSG:=aC hSG;have HNG:Hid (∀p,adG=some p->W0.heap.size<=p.block):=hNG;have XC:Hid (w1.cell? ⟨w.heap.size,3,none⟩=some (.string x.e.name)/\w.heap.size<w1.heap.size):=⟨aA hb1 hg0 c3,Vq hg0 hb1.size⟩;clear hW0 hSG hNG hb1 c0 c1 c2 c3 c4 HB0 HV0 hg0 HNG;go_wp2_with fail;go_loopw[7,51] (fun v i wr=>∃m:Nat,m<=gs.length/\i=.int .i64 m/\Hid (wr.ownsRow w.heap.size 146 2 v m (ic ((gs.take m).map fun g=>(⟨g,x.e.name⟩:Al))))/\Hid (ag w wr)/\Hid (Aside w1 (.slice none 0 0) wr v)) (fun _ i _=>gs.length-(intOf i).toNat);case atStart=>exact⟨0,Vv _,rfl,World.ownsRow_nil _ _ _ _,HB1,Aside.refl _ _⟩
  clear HB1;obtain⟨m,hm,rfl,HO,HB,HA⟩:=hrel;have x3:=qC HA.out XC.out.2 (by simp[Value.ownBlock]) XC.out.1;by_cases Xa:m<gs.length
  ·rcases HSG.out with rfl|⟨bg,offg,rfl,hbg,hrg⟩
   ·simp at Xa
   have q0:=qC HA.out hbg (by simp[Value.ownBlock]) (hrg m Xa);have hm1:=bC m;have hm2:(m:Int)<(gs.length:Int):=by omega
   have hws:w.heap.size<=wr.heap.size:=HB.out.size;have HFX:Hid (ic ((gs.take (m+1)).map fun g=>(⟨g,x.e.name⟩:Al))=ic ((gs.take m).map fun g=>(⟨g,x.e.name⟩:Al))++[.string gs[m],.string x.e.name]):=by
    show _=_;rw[Vu Xa,Wu,List.map_singleton,Bz];rfl
   clear hrg;go_wp2_with(at_builtin;refine wpList_append_own_at _ rfl _ _ 340 rfl w.heap.size 146 i0 _ 2 32 underlying340 hi hz0 hz1 hz2 rfl (by decide) _ _ _ rfl (HO.out.alloc _) ⟨wr.heap.size,0,none⟩ 1 1 [.string gs[m],.string x.e.name] rfl rfl (World.news_of_block (cs:=#[.string gs[m],.string x.e.name]) (t:=146) (fr:=(0,0)) (heap_alloc_new wr _)) (by simp[Value.oneCell']) (by unfold maxLen;omega) (by omega) (by simp;omega) ?_);intro v' w3 hown3 hgrow _ hloc;have HB3:Hid (ag w w3):=(HB.out.alloc HB.out.size _).grown hgrow (by simp;omega) (fun i hi=>(HO.out.lt i hi).1);have Xc:Hid (w3.ownsRow w.heap.size 146 2 v' (m+1) (ic ((gs.take (m+1)).map fun g=>(⟨g,x.e.name⟩:Al)))):=by
    show World.ownsRow _ _ _ _ _ _ _;rw[HFX.out];simpa[List.map_take] using hown3
   have HA3:Hid (Aside w1 (.slice none 0 0) w3 v'):=HA.out.trans ((Aside.below ((Vs _ _).alloc (Vr _) _)).trans (Aside.app hgrow (by simpa using hloc)));clear hown3 hgrow hloc HO HA;go_wp2;go_roundw;case rel=>exact⟨m+1,by omega,by go_num,Xc,HB3,HA3⟩
   simp[intOf]<;>omega
  obtain rfl:m=gs.length:=by omega
  have hown:=HO.out;rw[VI]at hown;have e:gs.length=(gs.map fun g=>(⟨g,x.e.name⟩:Al)).length:=by simp
  rw[e]at hown;obtain⟨WS,cp,rfl,hS',hN'⟩:=Qz hown;have HS2:Hid (lu wr WS (gs.map fun g=>(⟨g,x.e.name⟩:Al))):=hS';have Yn:Hid (∀p,WS=some p->w.heap.size<=p.block):=hN';obtain⟨ln,hln⟩:∃ln,ln=(gs.map fun g=>(⟨g,x.e.name⟩:Al)).length:=⟨_,rfl⟩;rw[<-hln];have HLN:Hid (ln=(gs.map fun g=>(⟨g,x.e.name⟩:Al)).length):=hln;clear hown HO hS' hN' e HA x3 hln;go_wp2;go_ret;exact⟨⟨WS,cp,by rw[HLI.out,<-HLN.out];rfl,by rw[HLI.out];exact HS2.out,Yn.out⟩,HB.out⟩
 have HLI:Hid (jl (af rs) typ x.e=[]):=by show _=_;unfold jl;rw[if_neg h1,if_neg h2,if_neg h3]
 have hq3:(x.e.kind==3)=false:=by simpa using h3
 have Xh:Hid (ag w (w.alloc (.cells #[.int .i64 x.e.kind,.slice x.adA x.e.allow.length x.capA,.string x.e.over,.string x.e.name,.slice x.adK x.e.kids.length x.capK] 43))):=by rw[<-hW0];exact HB0
 clear hW0 HB0 c0 c1 c2 c3 c4 hg0;go_enter func261,ntmps261;go_wp2;go_ret;exact⟨⟨none,0,by rw[HLI.out];rfl,by rw[HLI.out];exact .inl rfl,fun p hp=>by cases hp⟩,Xh.out⟩
abbrev Ky:=ByteArray×ByteArray
def lookL(E:List (Ky×St))(k:Ky):List St:=E.filterMap fun p=>if p.1=k then some p.2 else none
theorem lookL_append(E F:List (Ky×St))(k:Ky):lookL (E++F) k=lookL E k++lookL F k:=by unfold lookL;rw[List.filterMap_append]
theorem tY(E:List (Ky×St))(k:Ky)(s:St):lookL (E++[(k,s)]) k=lookL E k++[s]:=by rw[lookL_append];simp[lookL]
theorem qx(E:List (Ky×St)){k y:Ky}(s:St)(h:k≠y):lookL (E++[(y,s)]) k=lookL E k:=by rw[lookL_append];simp[lookL,Ne.symm h]
theorem mem_lookL{E:List (Ky×St)}{k:Ky}{s:St}:s∈lookL E k↔(k,s)∈E:=by
 unfold lookL;rw[List.mem_filterMap];constructor
 ·rintro⟨⟨a,b⟩,h1,h2⟩;simp only at h2;split at h2
  ·rename_i e;injection h2 with h2;rw[<-e,<-h2];exact h1
  cases h2
 intro h;exact⟨(k,s),h,by simp⟩
def FreeB(M:Ky->Option Value)(g:Nat):Prop:=∀k v,M k=some v->v.ownBlock≠some g
structure Grp(w:World)(bL n:Nat)(M:Ky->Option Value)(E:List (Ky×St)):Prop where
 map:aJ dU prog 146 w bL n M
 row:∀k,(M k=none/\lookL E k=[]) \/ ∃v,M k=some v/\w.ownsRow (bL+1) 337 3 v (lookL E k).length (iB (lookL E k))
 apart:∀k k' v v',k≠k'->M k=some v->M k'=some v'->∀g,v.ownBlock=some g->v'.ownBlock≠some g
theorem Grp.lt{w:ae}{bL n:Nat}{M:Ky->Option Value}{E:List (Ky×St)}(h:Grp w bL n M E){k:Ky}{v:Value}(hk:M k=some v){g:Nat}(hg:v.ownBlock=some g):bL<g/\g<w.heap.size:=by
 rcases h.row k with⟨e,-⟩|⟨v',e,ho⟩
 ·rw[e]at hk;cases hk
 rw[e]at hk;injection hk with hk;subst hk;have:=ho.lt g hg;exact⟨by omega,this.2⟩
theorem Grp.fresh{w:ae}{bL n:Nat}{M:Ky->Option Value}{E:List (Ky×St)}(h:Grp w bL n M E){g:Nat}(hg:w.heap.size<=g):FreeB M g:=fun k v hk e=>by
 have:=(h.lt hk e).2;omega
theorem Grp.mono{w:ae}{bL n n':Nat}{M:Ky->Option Value}{E:List (Ky×St)}(h:Grp w bL n M E)(hn:n<=n'):Grp w bL n' M E:=⟨h.map.mono hn,h.row,h.apart⟩
theorem Grp.below{w w':ae}{bL n:Nat}{M:Ky->Option Value}{E:List (Ky×St)}(h:Grp w bL n M E)(hB:ag w w'):Grp w' bL n M E where
 map:=h.map.below hB
 row k:=by
  rcases h.row k with e|⟨v,e,ho⟩
  ·exact .inl e
  exact .inr ⟨v,e,own_below ho hB⟩
 apart:=h.apart
theorem grp_made(w:ae):Grp (w.alloc (.map #[] 0)) w.heap.size 0 (fun _=>none) [] where
 map:=lI _ _ _ w
 row k:=.inl ⟨rfl,rfl⟩
 apart k k' v v' _ h:=by cases h
structure Stl(W:World)(M:Ky->Option Value)(w2:World)(M2:Ky->Option Value)(bL:Nat):Prop where
 size:W.heap.size<=w2.heap.size
 block:∀g,g<W.heap.size->g≠bL->FreeB M g->w2.heap[g]?=W.heap[g]?
 free:∀g,g<W.heap.size->FreeB M g->FreeB M2 g
theorem Stl.refl(W:ae)(M:Ky->Option Value)(bL:Nat):Stl W M W M bL:=⟨Vr _,fun _ _ _ _=>rfl,fun _ _ h=>h⟩
theorem Stl.trans{W w2 w3:ae}{M M2 M3:Ky->Option Value}{bL:Nat}(h:Stl W M w2 M2 bL)(h2:Stl w2 M2 w3 M3 bL):Stl W M w3 M3 bL where
 size:=Vz h.size h2.size
 block g hg hb hf:=(h2.block g (Vq hg h.size) hb (h.free g hg hf)).trans (h.block g hg hb hf)
 free g hg hf:=h2.free g (Vq hg h.size) (h.free g hg hf)
theorem Stl.below{W w2:ae}{M:Ky->Option Value}{bL:Nat}(hB:ag W w2):Stl W M w2 M bL:=⟨hB.size,fun g hg _ _=>hB.block g hg,fun _ _ h=>h⟩
structure Cel(w:World)(M:Ky->Option Value)(bL g o:Nat)(u:Value):Prop where
 cell:w.cell? ⟨g,o,none⟩=some u
 lt:g<w.heap.size
 free:FreeB M g
 ne:g≠bL
theorem Cel.stl{w w2:ae}{M M2:Ky->Option Value}{bL g o:Nat}{u:Value}(h:Cel w M bL g o u)(hS:Stl w M w2 M2 bL):Cel w2 M2 bL g o u where
 cell:=(VR (w:=w) (hS.block g h.lt h.ne h.free)).trans h.cell
 lt:=Vq h.lt hS.size
 free:=hS.free g h.lt h.free
 ne:=h.ne
theorem Grp.step{W0 w1 w2 w3:ae}{bL n:Nat}{M:Ky->Option Value}{E:List (Ky×St)}{y:Ky}{v':Value}{s:St}(h:Grp W0 bL n M E)(hg1:W0.grownBy w1 (some bL))(hown:w2.ownsRow (bL+1) 337 3 v' ((lookL E y).length+1) (iB (lookL E y)++s.cells))
  (hg2:w1.grownBy w2 ((M y).getD (.slice none 0 0)).ownBlock) (hloc:v'.ownBlock=((M y).getD (.slice none 0 0)).ownBlock\/v'.ownBlock=some w1.heap.size) (hg3:w2.grownBy w3 (some bL)) (hM:aJ dU prog 146 w3 bL (n+1) (jO M y (some v'))) :
  Grp w3 bL (n+1) (jO M y (some v')) (E++[(y,s)])/\Stl W0 M w3 (jO M y (some v')) bL:=by
 have hrow0:∀k v,M k=some v->∃xs m,W0.ownsRow (bL+1) 337 3 v m xs:=fun k v hk=>by
  rcases h.row k with⟨e,-⟩|⟨v1,e,ho⟩
  ·rw[e]at hk;cases hk
  rw[e]at hk;injection hk with hk;subst hk;exact⟨_,_,ho⟩
 have hne2:∀k v,k≠y->M k=some v->v.ownBlock=none\/v.ownBlock≠((M y).getD (.slice none 0 0)).ownBlock:=fun k v hky hk=>by
  cases e:v.ownBlock with
  | none=>exact .inl rfl
  | some g =>
   right;cases ey:M y with
   | none=>simp[Value.ownBlock]
   | some vy=>intro e2;exact h.apart k y v vy hky hk ey g e (by simpa using e2.symm)
 have hnb:∀v,(∃k,M k=some v)->v.ownBlock=none\/v.ownBlock≠some bL:=fun v ⟨k,hk⟩=>by
  cases e:v.ownBlock with
  | none=>exact .inl rfl
  | some g=>right;have:=(h.lt hk e).1;intro e2;injection e2 with e2;omega
 have hnew:∀g,v'.ownBlock=some g->bL<g:=fun g e=>by have:=(hown.lt g e).1;omega
 have hv'b:v'.ownBlock=none\/v'.ownBlock≠some bL:=by
  cases e:v'.ownBlock with
  | none=>exact .inl rfl
  | some g=>right;have:=hnew g e;intro e2;injection e2 with e2;omega
 constructor
 ·refine⟨hM,fun k=>?_,fun k k' v u hkk hk hk' g e=>?_⟩
  ·by_cases ek:k=y
   ·subst ek;rw[dM,tY];refine .inr ⟨v',rfl,?_⟩;rw[Af,Vx];exact hown.kept hg3 hv'b
   rw[bG ek,qx _ _ ek];rcases h.row k with e|⟨v,e,ho⟩
   ·exact .inl e
   exact .inr ⟨v,e,((ho.kept hg1 (hnb v ⟨k,e⟩)).kept hg2 (hne2 k v ek e)).kept hg3 (hnb v ⟨k,e⟩)⟩
  by_cases ek:k=y
  ·subst ek;rw[dM]at hk;injection hk with hk;subst hk;rw[bG (Ne.symm hkk)]at hk';intro e2;rcases hloc with el|el
   ·rw[e]at el;cases ey:M k with
    | none=>rw[ey]at el;simp[Value.ownBlock]at el
    | some vy=>rw[ey]at el;exact h.apart k k' vy u hkk ey hk' g (by simpa using el.symm) e2
   rw[e]at el;injection el with el;have:=(h.lt hk' e2).2;have:=hg1.size;omega
  rw[bG ek]at hk;by_cases ek':k'=y
  ·subst ek';rw[dM]at hk';injection hk' with hk';subst hk';intro e2;rcases hloc with el|el
   ·rw[e2]at el;cases ey:M k' with
    | none=>rw[ey]at el;simp[Value.ownBlock]at el
    | some vy=>rw[ey]at el;exact h.apart k k' v vy hkk hk ey g e (by simpa using el.symm)
   rw[e2]at el;injection el with el;have:=(h.lt hk e).2;have:=hg1.size;omega
  rw[bG ek']at hk';exact h.apart k k' v u hkk hk hk' g e
 refine⟨Vz hg1.size (Vz hg2.size hg3.size),fun g hg hb hf=>?_,fun g hg hf k v hk=>?_⟩
 ·have h1:=hg1.block g hg (fun e=>hb (by injection e));have h2:=hg2.block g (Vq hg hg1.size) (fun e=>by
   cases ey:M y with
   | none=>rw[ey]at e;simp[Value.ownBlock]at e
   | some vy=>rw[ey]at e;exact hf y vy ey (by simpa using e.symm))
  have h3:=hg3.block g (Vq hg (Vz hg1.size hg2.size)) (fun e=>hb (by injection e));rw[h3,h2,h1]
 by_cases ek:k=y
 ·subst ek;rw[dM]at hk;injection hk with hk;subst hk;intro e2;rcases hloc with el|el
  ·rw[e2]at el;cases ey:M k with
   | none=>rw[ey]at el;simp[Value.ownBlock]at el
   | some vy=>rw[ey]at el;exact hf k vy ey (by simpa using el.symm)
  rw[e2]at el;injection el with el;have:=hg1.size;omega
 rw[bG ek]at hk;exact hf k v hk
end Go.Proofs.YtojjoblnpldniaaGreat
