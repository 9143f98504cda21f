/- Contract of the program's table of relations. -/
import Derived.Test.YtojjoblnpldniaaGreatSq
import Derived.Test.YtojjoblnpldniaaGreatJ5
import Derived.Test.YtojjoblnpldniaaGreatJ8
open Go.Proofs.Tryz
set_option maxHeartbeats 80000000
namespace Go.Proofs.YtojjoblnpldniaaGreat
open ChangeShapes WideShapes ChangeAt RowKit Maps
open Pl
def RR.sl(q:RR):Value:=.slice q.ad q.rows.length q.cap
def lw(t:ByteArray)(M:ByteArray×ByteArray->Option Value):List RR->ByteArray×ByteArray->Option Value
 | []=>M
 | q::qs=>lw t (lI M (t,q.name) (some q.sl)) qs
def fu(M:ByteArray×ByteArray->Option Value):List TR->ByteArray×ByteArray->Option Value
 | []=>M
 | t::ts=>fu (lw t.name M t.rows) ts
def jY(rs:Q06):ByteArray×ByteArray->Option Value:=fu (fun _=>none) rs
theorem Fp(t:bi)(M:ByteArray×ByteArray->Option Value)(xs ys:Q07):lw t M (xs++ys)=lw t (lw t M xs) ys:=by
 induction xs generalizing M with
 | nil=>rfl
 | cons q qs ih=>simp only[Wq,lw];exact ih _
theorem Bb(M:ByteArray×ByteArray->Option Value)(xs ys:Q06):fu M (xs++ys)=fu (fu M xs) ys:=by
 induction xs generalizing M with
 | nil=>rfl
 | cons q qs ih=>simp only[Wq,fu];exact ih _
theorem J8(t:bi)(M:ByteArray×ByteArray->Option Value)(qs:Q07)(j:Nat)(h:j<qs.length):lw t M (qs.take (j+1))=lI (lw t M (qs.take j)) (t,qs[j].name) (some qs[j].sl):=by
 rw[Vx h,Fp];rfl
theorem Fq(M:ByteArray×ByteArray->Option Value)(rs:Q06)(k:Nat)(h:k<rs.length):fu M (rs.take (k+1))=lw rs[k].name (fu M (rs.take k)) rs[k].rows:=by
 rw[Vx h,Bb];rfl
set_option maxRecDepth 100000 in
theorem kS(ad:Q02)(cap:Nat)(rs:Q06)(w:af)(hlen:rs.length<=6)(hs:jK w ad rs)(hrl:∀r∈rs,r.rows.length<=6)(hf:∀r∈rs,r.fits):
  Calls prog 63 #[.slice ad rs.length cap] w fun e w'=>e=.returned (.map (some w.heap.size))/\aJ dw prog 146 w' w.heap.size 36 (jY rs)/\ag w w':=by
 have HS:=az hs;have Zo:Hid (∀r∈rs,r.rows.length<=6):=hrl;have WT:=az hf;have Y6:Hid (aJ dw prog 146 (w.alloc (.map #[] 0)) w.heap.size 0 (fun _=>none)):=oq _ _ _ w;have HB0:Hid (ag w (w.alloc (.map #[] 0))):=(Vv _ _).alloc (Vu _) _;clear hs hrl hf;have hmm:=@run_makeMap prog;go_enter func63,ntmps63;go_wp2_with fail;go_loopw[11] (fun i wr=>∃k:Nat,k<=rs.length/\i=.int .i64 k/\Hid (aJ dw prog 146 wr w.heap.size (k*6) (fu (fun _=>none) (rs.take k)))/\Hid (ag w wr)) (fun i _=>rs.length-(intOf i).toNat);case atStart=>exact⟨0,Vy _,rfl,Y6,HB0⟩
 clear Y6 HB0 hmm;obtain⟨k,hk,rfl,HM,HB⟩:=hrel;by_cases hlt:k<rs.length
 ·rcases HS.out.below HB.out with rfl|⟨b,off,rfl,hb,hr,hok⟩
  ·simp at hlt
  obtain⟨t0,t1⟩:=hr k hlt;have hk1:=bI k;have hk2:(k:Int)<(rs.length:Int):=by omega
  have h6:rs[k].rows.length<=6:=Zo.out _ (Vs hlt);have z0:rs[k].name.size<=maxLen:=(WT.out _ (Vs hlt)).1;have ZK:Hid (∀q∈rs[k].rows,q.fits):=(WT.out _ (Vs hlt)).2.2;clear hr hok;obtain⟨W1,hW1⟩:=eQx (wr.alloc (.cells #[.string rs[k].name,.slice rs[k].ad rs[k].rows.length rs[k].cap] 36));have hal:ag wr W1:=by rw[hW1];exact(Vv _ _).alloc (Vu _) _
  have HM1:Hid (aJ dw prog 146 W1 w.heap.size (k*6) (fu (fun _=>none) (rs.take k))):=HM.out.below hal;have HB1:=iX HB hal;have Xu:Hid (wr.heap.size<W1.heap.size/\W1.cell? ⟨wr.heap.size,0,none⟩=some (.string rs[k].name)):=⟨by rw[hW1];simp,by rw[hW1];simp⟩;have hgw:w.heap.size<wr.heap.size:=HM.out.lt;clear HM hal;go_wp2_with fail;rw[<-hW1];clear hW1 t0 t1 HB;obtain⟨wo,hwo⟩:=eQx wr;subst hwo;go_loopw[18] (fun i w2=>∃j:Nat,j<=rs[k].rows.length/\i=.int .i64 j/\Hid (aJ dw prog 146 w2 w.heap.size (k*6+j) (lw rs[k].name (fu (fun _=>none) (rs.take k)) (rs[k].rows.take j)))/\Hid (ag w w2)/\Hid (wo.heap.size<w2.heap.size/\w2.cell? ⟨wo.heap.size,0,none⟩=some (.string rs[k].name))) (fun i _=>rs[k].rows.length-(intOf i).toNat);case atStart=>exact⟨0,Vy _,rfl,HM1,HB1,Xu⟩
  clear HM1 HB1 Xu;obtain⟨j,hj,rfl,HM,HB,HC⟩:=hrel;by_cases hjl:j<rs[k].rows.length
  ·rcases HS.out.below HB.out with hnil|⟨b',off',he,hb2,hr,hok⟩
   ·rw[hnil]at hlt;simp at hlt
   injection he with he;injection he with he1 he2;subst he1;subst he2;have ok:=hok rs[k] (Vs hlt);rcases ok with hnil|⟨b2,WV,had,hbb,hr2,-⟩
   ·rw[hnil]at hjl;simp at hjl
   obtain⟨q0,q1⟩:=hr2 j hjl;have z1:rs[k].rows[j].name.size<=maxLen:=(ZK.out _ (Vs hjl)).1;have hj1:=bI j;have hj2:(j:Int)<(rs[k].rows.length:Int):=by omega
   obtain⟨kl,hkl⟩:=jN (rs[k].name,rs[k].rows[j].name) z0 z1;have XP:Hid (keyOf prog 146 (dw (rs[k].name,rs[k].rows[j].name))=some kl):=hkl;obtain⟨W2,hW2⟩:=eQx (wr.alloc (.cells #[.string rs[k].rows[j].name,.slice rs[k].rows[j].ad rs[k].rows[j].rows.length rs[k].rows[j].cap] 39));have hal:ag wr W2:=by rw[hW2];exact(Vv _ _).alloc (Vu _) _
   have Xl:Hid (aJ dw prog 146 W2 w.heap.size (k*6+j) (lw rs[k].name (fu (fun _=>none) (rs.take k)) (rs[k].rows.take j))):=HM.out.below hal;have HB2:=iX HB hal;have hc1:=aC hal HC.out.1 HC.out.2;have Xk:Hid (wo.heap.size<W2.heap.size/\W2.cell? ⟨wo.heap.size,0,none⟩=some (.string rs[k].name)):=⟨Vt HC.out.1 hal.size,hc1⟩;have g0:W2.cell? ⟨wr.heap.size,0,none⟩=some (.string rs[k].rows[j].name):=by rw[hW2];simp
   have g1:W2.cell? ⟨wr.heap.size,1,none⟩=some (.slice rs[k].rows[j].ad rs[k].rows[j].rows.length rs[k].rows[j].cap):=by rw[hW2];simp
   have hsz:wo.heap.size<wr.heap.size:=HC.out.1;have hc0:=HC.out.2;rw[had];clear hr hok hr2 hkl HM hal HC;go_wp2_with(first|(at_mapUpdate;rw[<-hW2];refine og _ rfl _ _ _ 102 rfl 146 37 iZ uV underlying102 w.heap.size (k*6+j) _ rfl Xl.out (by unfold maxLen;omega) (rs[k].name,rs[k].rows[j].name) kl rfl XP.out _ rfl ?_;intro w3 hV3 hg3)|go_in);have HM4:Hid (aJ dw prog 146 w3 w.heap.size (k*6+(j+1)) (lw rs[k].name (fu (fun _=>none) (rs.take k)) (rs[k].rows.take (j+1)))):=by
    show aJ _ _ _ _ _ _ _;rw[J8 _ _ _ _ hjl];exact hV3
   have XJ:Hid (ag w w3):=HB2.out.grown hg3 HB2.out.size (fun i hi=>by injection hi with hi;omega);have HC4:Hid (wo.heap.size<w3.heap.size/\w3.cell? ⟨wo.heap.size,0,none⟩=some (.string rs[k].name)):=⟨Vt Xk.out.1 hg3.size,by rw[hg3.cell_far _ Xk.out.1 (by simp;omega)];exact Xk.out.2⟩;clear hV3 hg3 hW2 Xl HB2 Xk g0 g1 q0 q1 hc0 hc1;go_wp2;go_roundw;case rel=>exact⟨j+1,by omega,by go_num,HM4,XJ,HC4⟩
   simp[intOf]<;>omega
  obtain rfl:j=rs[k].rows.length:=by omega
  have HM4:Hid (aJ dw prog 146 wr w.heap.size ((k+1)*6) (fu (fun _=>none) (rs.take (k+1)))):=by
   show aJ _ _ _ _ _ _ _;have:=HM.out;rw[VI]at this;rw[Fq _ _ _ hlt];exact this.mono (by omega)
  clear HM;go_wp2;go_roundw;case rel=>exact⟨k+1,by omega,by go_num,HM4,HB⟩
  simp[intOf]<;>omega
 obtain rfl:k=rs.length:=by omega
 have HM4:Hid (aJ dw prog 146 wr w.heap.size 36 (jY rs)):=by
  show aJ _ _ _ _ _ _ _;have:=HM.out;rw[VI]at this;exact this.mono (by omega)
 go_wp2;go_ret;exact⟨rfl,HM4.out,HB.out⟩
theorem TB:∀x:List UInt8,Op.bytesLess x x=false
 | []=>rfl
 | a::x=>by simp[Op.bytesLess,TB x]
theorem TC:∀x y z:List UInt8,Op.bytesLess x y=true->Op.bytesLess y z=true->Op.bytesLess x z=true
 | [],_,[],h,k=>by cases ‹List UInt8› <;> simp [Op.bytesLess] at h k
 | [],_,_::_,_,_=>rfl
 | _::_,[],_,h,_=>by simp[Op.bytesLess]at h
 | _::_,_::_,[],_,k=>by simp[Op.bytesLess]at k
 | a::x,b::y,c::z,h,k=>by
  simp only[Op.bytesLess,Bool.or_eq_true,Vw,VH,beq_iff_eq]at h k ⊢;rcases h with h|⟨h,h'⟩
  ·rcases k with k|⟨k,k'⟩
   ·exact .inl (UInt8.lt_trans h k)
   exact .inl (k ▸ h)
  rcases k with k|⟨k,k'⟩
  ·exact .inl (h ▸ k)
  exact .inr ⟨h.trans k,TC x y z h' k'⟩
theorem DK{f:Nat->ByteArray}{n:Nat}(h:∀i,i+1<n->jB (f i) (f (i+1))=true):∀i j,i<j->j<n->f i≠f j:=by
 have h2:∀d i,i+d+1<n->jB (f i) (f (i+d+1))=true:=by
  intro d
  induction d with
  | zero=>intro i hi;exact h i (by omega)
  | succ d ih =>
   intro i hi;have h3:=ih i (by omega);have h4:=h (i+d+1) (by omega);exact TC _ _ _ h3 h4
 intro i j hij hj e;have h5:=h2 (j-i-1) i (by omega);have e2:i+(j-i-1)+1=j:=by omega
 rw[e2,e]at h5;unfold jB at h5;rw[TB]at h5;cases h5
theorem l7{rs:Q06}(h:aZ (ae rs)=true)(k:Nat)(hk:k<rs.length):aP rs[k].name=true/\(∀i (hi:i<rs.length),k=i+1->jB rs[i].name rs[k].name=true)/\dE (bQ rs[k].rows) rs[k].rows.length=true:=by
 simp only[aZ,Vw,VH]at h;rw[df]at h;have h1:=pJ h.2 k hk;unfold kI at h1;have e:(ae rs)[k]?=some rs[k].p:=by simp[ae,hk]
 rw[e]at h1;simp only[Vw,VH]at h1;have e2:rs[k].p.rels.length=rs[k].rows.length:=by simp[TR.p,bQ]
 rw[e2]at h1;refine⟨h1.1.1.1,fun i hi hki=>?_,h1.2⟩;subst hki;have h2:=h1.1.1.2;have e3:(ae rs)[i]?=some rs[i].p:=by simp[ae,hi]
 simp only[e3,Option.map_some,Wn]at h2;exact h2
theorem DL{rs:Q07}{n:Nat}(h:dE (bQ rs) n=true)(k:Nat)(hk:k<rs.length)(hn:k<n):aP rs[k].name=true/\(∀i (hi:i<rs.length),k=i+1->jB rs[i].name rs[k].name=true)/\aI (ai rs[k].rows)=true:=by
 have h1:=pI h k hn;unfold mG at h1;have e:(bQ rs)[k]?=some rs[k].p:=by simp[bQ,hk]
 rw[e]at h1;simp only[Vw]at h1;refine⟨h1.1.1,fun i hi hki=>?_,h1.2⟩;subst hki;have h2:=h1.1.2;have e3:(bQ rs)[i]?=some rs[i].p:=by simp[bQ,hi]
 simp only[e3,Option.map_some,Wn]at h2;exact h2
theorem He{rs:Q06}(h:aZ (ae rs)=true){t t':TR}(ht:t∈rs)(ht':t'∈rs)(e:t.name=t'.name):t=t':=by
 obtain ⟨i,hi,rfl⟩:=Wj.1 ht;obtain ⟨j,hj,rfl⟩:=Wj.1 ht';have hne:=DK (f:=fun k=>(rs[k]?.map TR.name).getD ByteArray.empty) (n:=rs.length) (fun k hk=>by
  have h0:k<rs.length:=by omega
  simp only[VG hk,VG h0,Option.map_some,Wn];exact(l7 h (k+1) hk).2.1 k h0 rfl)
 by_cases hij:i=j
 ·subst hij;rfl
 exfalso;rcases Nat.lt_or_gt_of_ne hij with hl|hl
 ·have:=hne i j hl hj;simp[hi,hj]at this;exact this e
 have:=hne j i hl hi;simp[hi,hj]at this;exact this e.symm
theorem Hf{rs:Q07}(h:dE (bQ rs) rs.length=true){t t':RR}(ht:t∈rs)(ht':t'∈rs)(e:t.name=t'.name):t=t':=by
 obtain ⟨i,hi,rfl⟩:=Wj.1 ht;obtain ⟨j,hj,rfl⟩:=Wj.1 ht';have hne:=DK (f:=fun k=>(rs[k]?.map RR.name).getD ByteArray.empty) (n:=rs.length) (fun k hk=>by
  have h0:k<rs.length:=by omega
  simp only[VG hk,VG h0,Option.map_some,Wn];exact(DL h (k+1) hk hk).2.1 k h0 rfl)
 by_cases hij:i=j
 ·subst hij;rfl
 exfalso;rcases Nat.lt_or_gt_of_ne hij with hl|hl
 ·have:=hne i j hl hj;simp[hi,hj]at this;exact this e
 have:=hne j i hl hi;simp[hi,hj]at this;exact this e.symm
theorem J9{t:ByteArray}{M:ByteArray×ByteArray->Option Value}{qs:Q07}{k:Q01}{v:Value}(h:lw t M qs k=some v):M k=some v \/ ∃q∈qs,k=(t,q.name)/\v=q.sl:=by
 induction qs generalizing M with
 | nil=>exact .inl h
 | cons q qs ih =>
  simp only[lw]at h;rcases ih h with h|⟨q',hq,e⟩
  ·by_cases e:k=(t,q.name)
   ·rw[e,eQ]at h;injection h with h;exact .inr ⟨q,by simp,e,h.symm⟩
   rw[bZ e]at h;exact .inl h
  exact .inr ⟨q',by simp[hq],e⟩
theorem yL{t:ByteArray}{M:ByteArray×ByteArray->Option Value}{qs:Q07}{k:Q01}(h:(M k).isSome=true \/ ∃q∈qs,k=(t,q.name)):(lw t M qs k).isSome=true:=by
 induction qs generalizing M with
 | nil=>rcases h with h|⟨q,hq,-⟩;exact h;cases hq
 | cons q qs ih =>
  simp only[lw];refine ih ?_;by_cases e:k=(t,q.name)
  ·left;rw[e,eQ];rfl
  rcases h with h|⟨q',hq,e'⟩
  ·left;rw[bZ e];exact h
  rcases VL.1 hq with rfl|hq
  ·exact absurd e' e
  exact .inr ⟨q',hq,e'⟩
theorem Fs{M:ByteArray×ByteArray->Option Value}{rs:Q06}{k:Q01}{v:Value}(h:fu M rs k=some v):M k=some v \/ ∃t∈rs,∃q∈t.rows,k=(t.name,q.name)/\v=q.sl:=by
 induction rs generalizing M with
 | nil=>exact .inl h
 | cons t rs ih =>
  simp only[fu]at h;rcases ih h with h|⟨t',ht,e⟩
  ·rcases J9 h with h|⟨q,hq,e⟩
   ·exact .inl h
   exact .inr ⟨t,by simp,q,hq,e⟩
  exact .inr ⟨t',by simp[ht],e⟩
theorem tJ{M:ByteArray×ByteArray->Option Value}{rs:Q06}{k:Q01}(h:(M k).isSome=true \/ ∃t∈rs,∃q∈t.rows,k=(t.name,q.name)):(fu M rs k).isSome=true:=by
 induction rs generalizing M with
 | nil=>rcases h with h|⟨q,hq,-⟩;exact h;cases hq
 | cons t rs ih =>
  simp only[fu];refine ih ?_;rcases h with h|⟨t',ht,q,hq,e⟩
  ·exact .inl (yL (.inl h))
  rcases VL.1 ht with rfl|ht
  ·exact .inl (yL (.inr ⟨q,hq,e⟩))
  exact .inr ⟨t',ht,q,hq,e⟩
theorem Ka{rs:List Rl}{n:ByteArray}(h:iy rs n=none):∀r∈rs,r.name≠n:=by
 induction rs with
 | nil=>intro r hr;cases hr
 | cons r rs ih =>
  simp only[iy]at h;split at h
  ·cases h
  rename_i hn;intro q hq;rcases VL.1 hq with rfl|hq
  ·exact fun e=>hn (fP.2 e)
  exact ih h q hq
theorem Nr{ts:Q0b}{ty n:ByteArray}(h:dZ ts ty n=none):∀t∈ts,t.name=ty->∀r∈t.rels,r.name≠n:=by
 induction ts with
 | nil=>intro t ht;cases ht
 | cons t ts ih =>
  simp only[dZ]at h;intro q hq e;split at h
  ·rw[Option.or_eq_none_iff]at h;rcases VL.1 hq with rfl|hq
   ·exact Ka h.1
   exact ih h.2 q hq e
  rename_i hn;rcases VL.1 hq with rfl|hq
  ·exact absurd (fP.2 e) hn
  exact ih h q hq e
theorem mZ{rs:Q06}{ty n:ByteArray}{es:Q09}(h:dZ (ae rs) ty n=some es):∃t∈rs,∃q∈t.rows,t.name=ty/\q.name=n/\ai q.rows=es:=by
 obtain⟨t,ht,r,hr,e1,e2,e3⟩:=oI h;obtain⟨t',ht',rfl⟩:=VE.1 ht;obtain⟨q,hq,rfl⟩:=VE.1 hr;exact⟨t',ht',q,hq,e1,e2,e3⟩
structure Tab(rs:Q06)(M:ByteArray×ByteArray->Option Value):Prop where
 no:∀k,M k=none->dZ (ae rs) k.1 k.2=none
 yes:∀k v,M k=some v->∃t∈rs,∃q∈t.rows,k=(t.name,q.name)/\v=q.sl/\dZ (ae rs) k.1 k.2=some (ai q.rows)/\aI (ai q.rows)=true
theorem ry{rs:Q06}(h:aZ (ae rs)=true):Tab rs (jY rs) where
 no k hk:=by
  cases e:dZ (ae rs) k.1 k.2 with
  | none=>rfl
  | some es =>
   obtain⟨t,ht,q,hq,e1,e2,-⟩:=mZ e;have:=tJ (M:=fun _=>none) (rs:=rs) (k:=k) (.inr ⟨t,ht,q,hq,by rw[e1,e2]⟩);unfold jY at hk;rw[hk]at this;cases this
 yes k v hk:=by
  rcases Fs hk with h0|⟨t,ht,q,hq,e,ev⟩
  ·cases h0
  have hSF:=aW h;refine⟨t,ht,q,hq,e,ev,?_,(hSF.2.2 t ht q hq).1⟩;cases e2:dZ (ae rs) k.1 k.2 with
  | none=>exact(Nr e2 t.p (VS ht) (by rw[e];rfl) q.p (VS hq) (by rw[e];rfl)).elim
  | some es =>
   obtain⟨t',ht',q',hq',e3,e4,e5⟩:=mZ e2;have h1:t'=t:=He h ht' ht (by rw[e3,e]);subst h1;obtain⟨i,hi,rfl⟩:=Wj.1 ht;have h2:q'=q:=Hf (l7 h i hi).2.2 hq' hq (by rw[e4,e]);subst h2;rw[e5]
theorem Tab.some_iff{rs:Q06}{M:ByteArray×ByteArray->Option Value}(h:Tab rs M)(k:Q01):(M k).isSome=!(ak (ae rs) k.1 k.2).isEmpty:=by
 unfold ak;cases e:M k with
 | none=>rw[h.no k e];rfl
 | some v =>
  obtain⟨t,ht,q,hq,-,-,e1,e2⟩:=h.yes k v e;rw[e1];have:=lY e2;cases e3:ai q.rows with
  | nil=>rw[e3]at this;simp at this
  | cons x xs=>rfl
theorem oO(w:af):(zeroValue 37).run prog w=.ok (.slice none 0 0) w:=by kernel_rfl
theorem vY(b n:Nat)(M:ByteArray×ByteArray->Option Value)(t r:bi)(w:af)(ht:t.size<=maxLen)(hr:r.size<=maxLen)(hV:aJ dw prog 146 w b n M):
  Calls prog 94 #[.map (some b),.string t,.string r] w fun e w'=>e=.returned (.bool (M (t,r)).isSome)/\w'=w:=by
 obtain⟨kl,hkl⟩:=jN (t,r) ht hr;have HV:Hid (aJ dw prog 146 w b n M):=hV;have XP:Hid (keyOf prog 146 (dw (t,r))=some kl):=hkl;clear hkl hV;go_enter func94,ntmps94;go_wp2_with(first|(at_lookup;refine dm _ rfl _ _ 102 rfl 146 37 iZ underlying102 (oO _) b n M rfl HV.out (t,r) kl rfl XP.out ?_)|go_in);go_ret;exact⟨rfl,rfl⟩
theorem DN(a:Al)(w:af):
  Calls prog 240 #[.agg #[.string a.t,.string a.s]] w fun e w'=>e=.returned (.bool (!a.s.toList.isEmpty))/\ag w w':=by
 cases h:a.s.toList.isEmpty;case true=>
  go_enter func240,ntmps240;go_wp2;go_ret;exact⟨rfl,(Vv _ _).alloc (Vu _) _⟩
 go_enter func240,ntmps240;go_wp2;go_ret;exact⟨rfl,(Vv _ _).alloc (Vu _) _⟩
theorem yM(xs:Q0a)(k:Nat)(h:k<xs.length):(xs.drop k).any (fun a=>!a.s.toList.isEmpty)=((!xs[k].s.toList.isEmpty) || (xs.drop (k+1)).any (fun a=>!a.s.toList.isEmpty)):=by
 rw[Wi h];rfl
theorem Cx(ad:Q02)(cap:Nat)(xs:Q0a)(w:af)(hlen:xs.length<=1048576)(hs:kD w ad xs):
  Calls prog 264 #[.slice ad xs.length cap,.func (Fn.func 240) #[] #[]] w fun e w'=>(∃r:Int,e=.returned (.int .i64 r)/\decide (0<=r)=xs.any (fun a=>!a.s.toList.isEmpty))/\ag w w':=by
 have HS:=az hs;clear hs;go_enter func264,ntmps264;go_wp2_with fail;go_loopw[8] (fun i wr=>∃k:Nat,k<=xs.length/\i=.int .i64 k/\Hid ((xs.drop k).any (fun a=>!a.s.toList.isEmpty)=xs.any (fun a=>!a.s.toList.isEmpty))/\Hid (ag w wr)) (fun i _=>xs.length-(intOf i).toNat);case atStart=>exact⟨0,Vy _,rfl,rfl,Vv _ _⟩
 obtain⟨k,hk,rfl,HP,HB⟩:=hrel;by_cases hlt:k<xs.length
 ·rcases HS.out.below HB.out with rfl|⟨b,off,rfl,hb,hr⟩
  ·simp at hlt
  obtain⟨t0,t1⟩:=hr k hlt;have hk1:=bI k;have hk2:(k:Int)<(xs.length:Int):=by omega
  clear hr;cases he:xs[k].s.toList.isEmpty;case false=>
   have HN:Hid (xs.any (fun a=>!a.s.toList.isEmpty)=true):=by show _=_;rw[<-HP.out,yM _ _ hlt,he];rfl
   go_wp2_with(go_at_call 240;refine(DN xs[k] _).mono ?_;rintro e w' ⟨he2,hbx⟩;rw[he]at he2;subst he2);go_ret;exact⟨⟨k,rfl,by rw[HN.out];simp⟩,HB.out.trans (hbx.mono HB.out.size)⟩
  have WQ:Hid ((xs.drop (k+1)).any (fun a=>!a.s.toList.isEmpty)=xs.any (fun a=>!a.s.toList.isEmpty)):=by show _=_;rw[<-HP.out,yM _ _ hlt,he];rfl
  go_wp2_with(go_at_call 240;refine(DN xs[k] _).mono ?_;rintro e w' ⟨he2,hbx⟩;rw[he]at he2;subst he2);go_roundw;case rel=>exact⟨k+1,by omega,by go_num,WQ,HB.out.trans (hbx.mono HB.out.size)⟩
  simp[intOf]<;>omega
 have HN:Hid (xs.any (fun a=>!a.s.toList.isEmpty)=false):=by show _=_;rw[<-HP.out,VU (by omega)];rfl
 go_wp2;go_ret;exact⟨⟨-1,rfl,by rw[HN.out];simp⟩,HB.out⟩
theorem xS(ad:Q02)(cap:Nat)(xs:Q0a)(w:af)(hlen:xs.length<=1048576)(hs:kD w ad xs):
  Calls prog 193 #[.slice ad xs.length cap,.func (Fn.func 240) #[] #[]] w fun e w'=>e=.returned (.bool (xs.any (fun a=>!a.s.toList.isEmpty)))/\ag w w':=by
 go_enter func193,ntmps193;go_wp2_with fail;refine(Cx ad cap xs _ hlen hs).mono ?_;rintro e w' ⟨⟨r,rfl,hr⟩,hbx⟩;have HR:Hid (decide (0<=r)=xs.any (fun a=>!a.s.toList.isEmpty)):=hr;clear hr hs;go_wp2;go_ret;exact⟨by rw[<-HR.out];rfl,hbx⟩
theorem Qi(xs:Q0a):(!xs.any fun a=>!a.s.toList.isEmpty)=xs.all fun a=>a.s.toList.isEmpty:=by
 induction xs with
 | nil=>rfl
 | cons a xs ih=>simp only[List.any_cons,List.all_cons,Bool.not_or,Bool.not_not,ih]
set_option maxRecDepth 100000 in
theorem vZ(ad:Q02)(cap:Nat)(rs:Q08)(w:af)(hlen:rs.length<=1048576)(hs:jo w ad rs)(hl:∀r∈rs,r.e.light):
  Calls prog 172 #[.slice ad rs.length cap] w fun e w'=>e=.returned (.bool (bn (ai rs)))/\ag w w':=by
 by_cases h1:rs.length=1
 ·obtain⟨r,rfl⟩:∃r,rs=[r]:=List.length_eq_one_iff.1 h1;rcases hs with h|⟨b,off,rfl,hb,hr,hok⟩
  ·cases h
  obtain⟨t0,t1,t2,t3,t4⟩:=hr 0 (by simp);simp only[Nat.zero_mul,Nat.add_zero,List.getElem_cons_zero]at t0 t1 t2 t3 t4;have Xc:Hid (r.ok w):=hok r (by simp);obtain⟨lg,-⟩:=hl r (by simp);clear hr hok h1;simp only[V8,WE,VW];by_cases hq:r.e.kind=1
  ·have HD:Hid (bn (ai [r])=!r.e.allow.any fun a=>!a.s.toList.isEmpty):=by show _=_;rw[Qi];simp[bn,ai,hq]
   have hqb:(r.e.kind==1)=true:=by simpa using hq
   go_enter func172,ntmps172;go_wp2_with(go_at_call 193;refine(xS _ _ r.e.allow _ lg (Xc.out.1.below ((Vv _ _)))).mono ?_;rintro e w' ⟨rfl,hbx⟩);go_ret;exact⟨by rw[HD.out];rfl,hbx⟩
  have HD:Hid (bn (ai [r])=false):=by show _=_;simp[bn,ai,hq]
  have hqb:(r.e.kind==1)=false:=by simpa using hq
  go_enter func172,ntmps172;go_wp2;go_ret;exact⟨by rw[HD.out];rfl,Vv _ _⟩
 have HD:Hid (bn (ai rs)=false):=by
  show _=_;rcases rs with _|⟨r,_|⟨r2,rs⟩⟩
  ·rfl
  ·simp at h1
  rfl
 have h2:((rs.length:Int)==1)=false:=by
  have:¬((rs.length:Int)=1):=by omega
  simpa using this
 clear hs;go_enter func172,ntmps172;go_wp2;go_ret;exact⟨by rw[HD.out];rfl,Vv _ _⟩
def dU(ts:Q0b)(ty over rel:ByteArray):List ByteArray:=if bn (ak ts ty over) then d9 ts ty over rel else []
theorem Ns:(prog.info? 9).map (fun i=>(i.zero,i.size,i.bytes))=some (some (.string ⟨#[]⟩),1,16):=by kernel_rfl
theorem Kb(r:ER)(h:bn (ai [r])=true):aN (ai [r])=r.e.allow/\r.e.kind=1:=by
 simp only[ai,WC,List.map_nil,bn,Vw,VH]at h;exact⟨by simp[ai,aN,h.1],h.1⟩
theorem Kc{rows:Q08}(h:bn (ai rows)=true):∃r,rows=[r]:=by
 rcases rows with _|⟨r,_|⟨r2,rs⟩⟩
 ·simp[ai,bn]at h
 ·exact⟨r,rfl⟩
 simp[ai,bn]at h
set_option maxRecDepth 100000 in
theorem nO(b n:Nat)(rs:Q06)(ad:Q02)(M:ByteArray×ByteArray->Option Value)(typ:bi)(x:ER)(w:af)(hV:aJ dw prog 146 w b n M)(hT:Tab rs M)(hs:jK w ad rs)(hl:∀r∈rs,r.light)(hf:∀r∈rs,r.fits)(ht:typ.size<=maxLen)(ho:x.e.over.size<=maxLen)(hn:x.e.name.size<=maxLen):
  Calls prog 93 #[.map (some b),.string typ,x.val] w fun e w'=>(∃(Xe:Q02) (cap':Nat),e=.returned (.slice Xe (dU (ae rs) typ x.e.over x.e.name).length cap')/\Rn w' Xe (dU (ae rs) typ x.e.over x.e.name)/\∀p,Xe=some p->w.heap.size<=p.block)/\ag w w':=by
 have HV:Hid (aJ dw prog 146 w b n M):=hV;have HT:=az hT;have HS:=az hs;have HL:=az hl;have WT:=az hf;obtain⟨kl,hkl⟩:=jN (typ,x.e.over) ht ho;have XP:Hid (keyOf prog 146 (dw (typ,x.e.over))=some kl):=hkl;clear hkl hV hT hs hl hf;obtain⟨i0,hi,hz0,hz1,hz2⟩:=info_parts Ns;obtain⟨W0,hW0⟩:=eQx (w.alloc (.cells #[.int .i64 x.e.kind,.slice x.adA x.e.allow.length x.capA,.string x.e.over,.string x.e.name,.slice x.adK x.e.kids.length x.capK] 43));have hal:ag w W0:=by rw[hW0];exact(Vv _ _).alloc (Vu _) _
 have HB0:=az hal;have HV0:=az (HV.out.below hal);have c3:W0.cell? ⟨w.heap.size,3,none⟩=some (.string x.e.name):=by rw[hW0];simp
 have hg0:w.heap.size<W0.heap.size:=by rw[hW0];simp
 -- what lies in the table
 obtain⟨rows,WW,capE,HM,HE,HF,HFL⟩:∃(rows:Q08) (WW:Q02) (capE:Nat),Hid ((M (typ,x.e.over)).getD (.slice none 0 0)=.slice WW rows.length capE)/\Hid (ai rows=ak (ae rs) typ x.e.over)/\Hid (qN rs WW rows)/\Hid (∀q∈rows,q.e.fits):=by
  cases e:M (typ,x.e.over) with
  | none=>exact⟨[],none,0,rfl,by show _=_;unfold ak;rw[HT.out.no _ e];rfl,.inl rfl,by show ∀_,_;simp⟩
  | some v =>
   obtain⟨t,ZL,q,hq,-,rfl,e1,-⟩:=HT.out.yes _ v e;exact⟨q.rows,q.ad,q.cap,rfl,by show _=_;unfold ak;rw[e1];rfl,.inr ⟨t,ZL,q,hq,rfl,rfl⟩,((WT.out t ZL).2.2 q hq).2.2⟩
 have HSE:Hid (jo W0 WW rows):=HF.out.sl (HS.out.below hal);have Yf:=HF.out.light HL.out;have HLE1:rows.length<=1048576:=Yf.1;have HLE2:Hid (∀q∈rows,q.e.light):=Yf.2;clear Yf hal;go_enter func93,ntmps93;unfold ER.val;go_wp2_with(at_lookup;rw[<-hW0];refine jM _ rfl _ _ 102 rfl 146 37 iZ underlying102 (oO _) b n M rfl HV0.out (typ,x.e.over) kl rfl XP.out ?_;rw[HM.out];clear hW0);refine(vZ WW capE rows _ HLE1 HSE.out HLE2.out).mono ?_;rintro e w1 ⟨rfl,hb1⟩;have HB1:=iX HB0 hb1;have HNM:Hid (w1.cell? ⟨w.heap.size,3,none⟩=some (.string x.e.name)/\w.heap.size<w1.heap.size):=⟨aC hb1 hg0 c3,Vt hg0 hb1.size⟩;clear hb1 c3 hg0;cases hd:bn (ai rows);case false=>
  have HG:Hid (dU (ae rs) typ x.e.over x.e.name=[]):=by show _=_;unfold dU;rw[<-HE.out,hd];rfl
  go_wp2;go_ret;refine⟨⟨none,0,by rw[HG.out];rfl,by rw[HG.out];exact .inl rfl,fun p hp=>by cases hp⟩,HB1.out⟩
 obtain⟨r,rfl⟩:=Kc hd;have HG:Hid (dU (ae rs) typ x.e.over x.e.name=gl (ae rs) x.e.name r.e.allow):=by
  show _=_;unfold dU d9;rw[<-HE.out,hd,if_pos rfl,(Kb r hd).1]
 rcases HSE.out with h|⟨bE,offE,rfl,hbE,hrE,hokE⟩
 ·cases h
 have HSW:Hid (jo w1 (some ⟨bE,offE,none⟩) [r]):=HF.out.sl (HS.out.below HB1.out);rcases HSW.out with h|⟨bE',offE',heE,hbE1,hrE1,hokE1⟩
 ·cases h
 injection heE with heE;injection heE with heE1 heE2;subst heE1;subst heE2;obtain⟨s0,s1,s2,s3,s4⟩:=hrE1 0 (by simp);simp only[Nat.zero_mul,Nat.add_zero,List.getElem_cons_zero]at s0 s1 s2 s3 s4;have HOKR:Hid (r.ok w):=by
  have h1:=HF.out.sl HS.out;exact h1.mem (by simp)
 have lgA:r.e.allow.length<=1048576:=(HLE2.out r (by simp)).1;have HFA:Hid (∀a∈r.e.allow,a.fits):=(HFL.out r (by simp)).1;have hone:([r]:Q08).length=1:=rfl;rw[hone];clear hrE hokE hrE1 hokE1 HE HM hd hbE;go_wp2_with fail;go_loopw[8,25] (fun v i wr=>∃k:Nat,k<=r.e.allow.length/\i=.int .i64 k/\Hid (wr.ownsRow w.heap.size 9 1 v (gl (ae rs) x.e.name (r.e.allow.take k)).length (qO (gl (ae rs) x.e.name (r.e.allow.take k))))/\Hid (ag w wr)/\Hid (wr.cell? ⟨w.heap.size,3,none⟩=some (.string x.e.name)/\w.heap.size<wr.heap.size/\v.ownBlock≠some w.heap.size)) (fun _ i _=>r.e.allow.length-(intOf i).toNat);case atStart=>exact⟨0,Vy _,rfl,World.ownsRow_nil _ _ _ _,HB1,HNM.out.1,HNM.out.2,by simp[Value.ownBlock]⟩
 clear HB1 HNM s0 s1 s2 s3 s4;obtain⟨k,hk,rfl,HOW,HB,HC⟩:=hrel;by_cases hlt:k<r.e.allow.length
 ·rcases (HOKR.out.1).below HB.out with hnil|⟨ba,YI,had,hba,hra⟩
  ·rw[hnil]at hlt;simp at hlt
  obtain⟨t0,t1⟩:=hra k hlt;have hk1:=bI k;have hk2:(k:Int)<(r.e.allow.length:Int):=by omega
  have zA:=HFA.out _ (Vs hlt);have z1:r.e.allow[k].t.size<=maxLen:=zA.1;obtain⟨hc3,hcl,hco⟩:=HC.out;obtain⟨W1,hW1⟩:=eQx (wr.alloc (.cells #[.string r.e.allow[k].t,.string r.e.allow[k].s] 216));have hal:ag wr W1:=by rw[hW1];exact(Vv _ _).alloc (Vu _) _
  have WS:=iX HB hal;have HVW:=az (HV.out.below WS.out);have Y5:Hid (W1.ownsRow w.heap.size 9 1 u8 (gl (ae rs) x.e.name (r.e.allow.take k)).length (qO (gl (ae rs) x.e.name (r.e.allow.take k)))):=own_below HOW.out hal;have g0:W1.cell? ⟨wr.heap.size,0,none⟩=some (.string r.e.allow[k].t):=by rw[hW1];simp
  have g3:=aC hal hcl hc3;have hgl1:wr.heap.size<W1.heap.size:=by rw[hW1];simp
  have hgl:=zS (ae rs) x.e.name (r.e.allow.take k);rw[V9]at hgl;have HI:=HT.out.some_iff (r.e.allow[k].t,x.e.name);have hwsz:w.heap.size<=W1.heap.size:=WS.out.size;rw[had];clear hra hal HC HOW;go_wp2_with fail;rw[<-hW1];refine(vY b n M r.e.allow[k].t x.e.name _ z1 hn HVW.out).mono ?_;rintro e w' ⟨rfl,hw'⟩;rw[hw'];clear hw' w' hW1 t0 t1 hc3;cases hz:(M (r.e.allow[k].t,x.e.name)).isSome;case false=>
   have HE:Hid (gl (ae rs) x.e.name (r.e.allow.take (k+1))=gl (ae rs) x.e.name (r.e.allow.take k)):=by
    refine Tm _ _ _ _ hlt ?_;rw[hz]at HI;simpa using HI.symm
   clear HI;go_wp2;go_roundw;case rel=>exact⟨k+1,by omega,by go_num,by rw[HE.out];exact Y5,WS,g3,by omega,hco⟩
   simp[intOf]<;>omega
  have HX:Hid (gl (ae rs) x.e.name (r.e.allow.take (k+1))=gl (ae rs) x.e.name (r.e.allow.take k)++[r.e.allow[k].t]):=by
   refine Pg _ _ _ _ hlt ?_;rw[hz]at HI;simpa using HI.symm
  clear HI;go_wp2_with(at_builtin;refine wpList_append_own_at _ rfl _ _ 143 rfl w.heap.size 9 i0 (.string ⟨#[]⟩) 1 16 underlying143 hi hz0 hz1 hz2 rfl (by decide) _ _ _ rfl (Y5.out.alloc _) ⟨W1.heap.size,0,none⟩ 1 1 [.string r.e.allow[k].t] rfl rfl (cell_one_new _ _ _) (by intro u hu;simp at hu;subst hu;rfl) (by unfold maxLen;omega) (by omega) (by simp;omega) ?_);intro v' w3 hown3 hgrow _ hloc;have hb3:Hid (ag w w3):=(WS.out.alloc WS.out.size _).grown hgrow (by simp;omega) (fun i hi=>(Y5.out.lt i hi).1);have Xv:Hid (w3.ownsRow w.heap.size 9 1 v' (gl (ae rs) x.e.name (r.e.allow.take (k+1))).length (qO (gl (ae rs) x.e.name (r.e.allow.take (k+1))))):=by
   show World.ownsRow _ _ _ _ _ _ _;rw[HX.out];simpa[qO] using hown3
  have Zr:Hid (w3.cell? ⟨w.heap.size,3,none⟩=some (.string x.e.name)/\w.heap.size<w3.heap.size/\v'.ownBlock≠some w.heap.size):=by
   refine⟨?_,?_,?_⟩
   ·rw[hgrow.cell_far _ (by simp;omega) (Ne.symm hco)];exact aC ((Vv _ _).alloc (Vu _) _) (by omega) g3
   ·have:=hgrow.size;simp at this;omega
   rcases hloc with e|e
   ·rw[e];exact hco
   rw[e];simp;omega
  clear hown3 hgrow hloc Y5 g0 g3;go_wp2;go_roundw;case rel=>exact⟨k+1,by omega,by go_num,Xv,hb3,Zr⟩
  simp[intOf]<;>omega
 obtain rfl:k=r.e.allow.length:=by omega
 have hown:=HOW.out;rw[VI]at hown;obtain⟨Xe,cp,rfl,hS',hN'⟩:=Ph hown;have HS2:=az hS';have HN2:Hid (∀p,Xe=some p->w.heap.size<=p.block):=hN';clear hown HOW hS' hN' HC;go_wp2;go_ret;refine⟨⟨Xe,cp,by rw[HG.out];rfl,by rw[HG.out];exact HS2.out,HN2.out⟩,HB.out⟩
theorem Bc(t:TR)(g:Nat)(nm:bi)(w:af)(hg:g<w.heap.size)(hc:w.cell? ⟨g,0,none⟩=some (.string nm)):
  Calls prog 296 #[.agg #[.string t.name,.slice t.ad t.rows.length t.cap],.pointer (some ⟨g,0,none⟩)] w fun e w'=>e=.returned (.bool (t.name.toList==nm.toList))/\ag w w':=by
 go_enter func296,ntmps296;go_wp2;go_ret;exact⟨rfl,(Vv _ _).alloc (Vu _) _⟩
theorem DR(rs:Q06)(k:Nat)(h:k<rs.length)(nm:bi):lN (ae (rs.drop k)) nm=((rs[k].name.toList==nm.toList) || lN (ae (rs.drop (k+1))) nm):=by
 rw[oD _ _ h];rfl
theorem Bd(ad:Q02)(cap:Nat)(rs:Q06)(g:Nat)(nm:bi)(w:af)(hlen:rs.length<=1048576)(hs:jK w ad rs)(hg:g<w.heap.size)(hc:w.cell? ⟨g,0,none⟩=some (.string nm)):
  Calls prog 323 #[.slice ad rs.length cap,.func (Fn.func 296) #[] #[.pointer (some ⟨g,0,none⟩)]] w fun e w'=>(∃r:Int,e=.returned (.int .i64 r)/\decide (0<=r)=lN (ae rs) nm)/\ag w w':=by
 have HS:=az hs;have HC:Hid (w.cell? ⟨g,0,none⟩=some (.string nm)):=hc;clear hs hc;go_enter func323,ntmps323;go_wp2_with fail;go_loopw[8] (fun i wr=>∃k:Nat,k<=rs.length/\i=.int .i64 k/\Hid (lN (ae (rs.drop k)) nm=lN (ae rs) nm)/\Hid (ag w wr)) (fun i _=>rs.length-(intOf i).toNat);case atStart=>exact⟨0,Vy _,rfl,rfl,Vv _ _⟩
 obtain⟨k,hk,rfl,HP,HB⟩:=hrel;by_cases hlt:k<rs.length
 ·rcases HS.out.below HB.out with rfl|⟨b,off,rfl,hb,hr,-⟩
  ·simp at hlt
  obtain⟨t0,t1⟩:=hr k hlt;have hk1:=bI k;have hk2:(k:Int)<(rs.length:Int):=by omega
  have HCW:Hid (wr.cell? ⟨g,0,none⟩=some (.string nm)):=aC HB.out hg HC.out;have HGW:Hid (g<wr.heap.size):=Vt hg HB.out.size;clear hr;cases he:(rs[k].name.toList==nm.toList);case true=>
   have HN:Hid (lN (ae rs) nm=true):=by show _=_;rw[<-HP.out,DR _ _ hlt,he];rfl
   go_wp2_with(go_at_call 296;refine(Bc rs[k] g nm _ HGW.out HCW.out).mono ?_;rintro e w' ⟨he2,hbx⟩;rw[he]at he2;subst he2);go_ret;exact⟨⟨k,rfl,by rw[HN.out];simp⟩,HB.out.trans (hbx.mono HB.out.size)⟩
  have WQ:Hid (lN (ae (rs.drop (k+1))) nm=lN (ae rs) nm):=by show _=_;rw[<-HP.out,DR _ _ hlt,he];rfl
  go_wp2_with(go_at_call 296;refine(Bc rs[k] g nm _ HGW.out HCW.out).mono ?_;rintro e w' ⟨he2,hbx⟩;rw[he]at he2;subst he2);go_roundw;case rel=>exact⟨k+1,by omega,by go_num,WQ,HB.out.trans (hbx.mono HB.out.size)⟩
  simp[intOf]<;>omega
 have HN:Hid (lN (ae rs) nm=false):=by show _=_;rw[<-HP.out,VU (by omega)];rfl
 go_wp2;go_ret;exact⟨⟨-1,rfl,by rw[HN.out];simp⟩,HB.out⟩
theorem wh(ad:Q02)(cap:Nat)(rs:Q06)(g:Nat)(nm:bi)(w:af)(hlen:rs.length<=1048576)(hs:jK w ad rs)(hg:g<w.heap.size)(hc:w.cell? ⟨g,0,none⟩=some (.string nm)):
  Calls prog 295 #[.slice ad rs.length cap,.func (Fn.func 296) #[] #[.pointer (some ⟨g,0,none⟩)]] w fun e w'=>e=.returned (.bool (lN (ae rs) nm))/\ag w w':=by
 go_enter func295,ntmps295;go_wp2_with fail;refine(Bd ad cap rs g nm _ hlen hs hg hc).mono ?_;rintro e w' ⟨⟨r,rfl,hr⟩,hbx⟩;have HR:Hid (decide (0<=r)=lN (ae rs) nm):=hr;clear hr hs hc;go_wp2;go_ret;exact⟨by rw[<-HR.out];rfl,hbx⟩
set_option maxRecDepth 100000 in
theorem Be(ad adA:Q02)(cap capA:Nat)(rs:Q06)(b n:Nat)(M:ByteArray×ByteArray->Option Value)(xs:Q0a)(w:af)(hlen:rs.length<=1048576)(hs:jK w ad rs)(hV:aJ dw prog 146 w b n M)(hT:Tab rs M)(hla:xs.length<=1048576)(hsa:kD w adA xs)(hfa:∀a∈xs,a.fits):
  Calls prog 258 #[.slice ad rs.length cap,.map (some b),.slice adA xs.length capA] w fun e w'=>e=.returned (.bool (pz (ae rs) xs))/\ag w w':=by
 have HS:=az hs;have HV:Hid (aJ dw prog 146 w b n M):=hV;have HT:=az hT;have HA:=az hsa;have HFA:=az hfa;clear hs hV hT hsa hfa;go_enter func258,ntmps258;go_wp2_with fail;go_loopw[11] (fun i wr=>∃k:Nat,k<=xs.length/\i=.int .i64 k/\Hid (oF (ae rs) xs k=true)/\Hid (ag w wr)) (fun i _=>xs.length-(intOf i).toNat);case atStart=>exact⟨0,Vy _,rfl,zT _ _,Vv _ _⟩
 obtain⟨k,hk,rfl,HP,HB⟩:=hrel;by_cases hlt:k<xs.length
 ·rcases HA.out.below HB.out with rfl|⟨ba,YI,rfl,hba,hra⟩
  ·simp at hlt
  obtain⟨t0,t1⟩:=hra k hlt;have hk1:=bI k;have hk2:(k:Int)<(xs.length:Int):=by omega
  have zA:=HFA.out _ (Vs hlt);have z1:xs[k].t.size<=maxLen:=zA.1;have z2:xs[k].s.size<=maxLen:=zA.2;have HI:Hid ((M (xs[k].t,xs[k].s)).isSome=!(ak (ae rs) xs[k].t xs[k].s).isEmpty):=HT.out.some_iff (xs[k].t,xs[k].s);obtain⟨W1,hW1⟩:=eQx (wr.alloc (.cells #[.string xs[k].t,.string xs[k].s] 216));have hal:ag wr W1:=by rw[hW1];exact(Vv _ _).alloc (Vu _) _
  have WS:=iX HB hal;have g0:W1.cell? ⟨wr.heap.size,0,none⟩=some (.string xs[k].t):=by rw[hW1];simp
  have g1:W1.cell? ⟨wr.heap.size,1,none⟩=some (.string xs[k].s):=by rw[hW1];simp
  have hgl:wr.heap.size<W1.heap.size:=by rw[hW1];simp
  clear hra hal zA;go_wp2_with fail;rw[<-hW1];clear hW1 t0 t1;refine(wh ad cap rs wr.heap.size xs[k].t _ hlen (HS.out.below WS.out) hgl g0).mono ?_;rintro e w2 ⟨rfl,hb2⟩;have HB2:=iX WS hb2;replace g0:=aC hb2 hgl g0;replace g1:=aC hb2 hgl g1;have HV2:=az (HV.out.below HB2.out);clear hb2 hgl;cases ht:lN (ae rs) xs[k].t;case false=>
   have HN:Hid (pz (ae rs) xs=false):=vk _ _ k hlt (by simp[qz,ht]);go_wp2;go_ret;exact⟨by rw[HN.out];rfl,HB2.out⟩
  cases he:xs[k].s.toList.isEmpty;case true=>
   have WQ:Hid (oF (ae rs) xs (k+1)=true):=by show _=_;rw[pE _ _ _ hlt,HP.out];simp[qz,ht,he]
   go_wp2;go_roundw;case rel=>exact⟨k+1,by omega,by go_num,WQ,HB2⟩
   simp[intOf]<;>omega
  cases hz:(M (xs[k].t,xs[k].s)).isSome;case false=>
   have HN:Hid (pz (ae rs) xs=false):=vk _ _ k hlt (by have:=HI.out;rw[hz]at this;simp[qz,ht,he];simpa using this.symm);go_wp2_with(go_at_call 94;refine(vY b n M xs[k].t xs[k].s _ z1 z2 HV2.out).mono ?_;rintro e w' ⟨he2,rfl⟩;rw[hz]at he2;subst he2);go_ret;exact⟨by rw[HN.out];rfl,HB2.out⟩
  have WQ:Hid (oF (ae rs) xs (k+1)=true):=by show _=_;rw[pE _ _ _ hlt,HP.out];have:=HI.out;rw[hz]at this;simp[qz,ht,he];simpa using this.symm
  go_wp2_with(go_at_call 94;refine(vY b n M xs[k].t xs[k].s _ z1 z2 HV2.out).mono ?_;rintro e w' ⟨he2,rfl⟩;rw[hz]at he2;subst he2);go_roundw;case rel=>exact⟨k+1,by omega,by go_num,WQ,HB2⟩
  simp[intOf]<;>omega
 have HN:Hid (pz (ae rs) xs=true):=by
  have:=HP.out;obtain rfl:k=xs.length:=by omega
  unfold oF at this;rw[VI]at this;exact this
 go_wp2;go_ret;exact⟨by rw[HN.out];rfl,HB.out⟩
theorem uK{e:Ex}(h:av e=true)(h1:e.kind≠1):e.allow=[]:=by
 unfold av at h;rw[if_neg h1]at h;split at h
 ·simp only[Vw,VH]at h;exact VM.1 h.1.1.2
 split at h
 ·simp only[Vw,VH]at h;exact VM.1 h.1.2
 split at h
 ·simp only[Vw,VH]at h;exact VM.1 h.1.1.2
 split at h
 ·simp only[Vw,VH]at h;exact VM.1 h.1.1.2
 cases h
theorem Ke(ts:Q0b)(typ:bi)(rows:Q08)(k:Nat)(h:k<rows.length):aQ ts typ (ai (rows.drop k))=if pz ts rows[k].e.allow&&kZ ts typ rows[k].e then aQ ts typ (ai (rows.drop (k+1))) else false:=by
 rw[gW _ _ h];rfl
theorem Hg(ts:Q0b)(typ:bi)(e:Ex)(h:e.kind=3):kZ ts typ e=!(dU ts typ e.over e.name).isEmpty:=by
 unfold kZ dU;rw[if_neg (by omega),if_pos h];cases bn (ak ts typ e.over)<;>simp
set_option maxRecDepth 100000 in
theorem Bf(ad WW:Q02)(cap capE:Nat)(rs:Q06)(b n:Nat)(M:ByteArray×ByteArray->Option Value)(typ:bi)(rows:Q08)(w:af)(hlen:rs.length<=1048576)(hs:jK w ad rs)(hl:∀r∈rs,r.light)(hf:∀r∈rs,r.fits)(hV:aJ dw prog 146 w b n M)(hT:Tab rs M)(ht:typ.size<=maxLen)(hle:rows.length<=1048576)(hse:jo w WW rows)(hlE:∀q∈rows,q.e.light)(hfE:∀q∈rows,q.e.fits)(hnb:∀q∈rows,av q.e=true):
  Calls prog 185 #[.slice ad rs.length cap,.map (some b),.string typ,.slice WW rows.length capE] w fun e w'=>e=.returned (.bool (aQ (ae rs) typ (ai rows)))/\ag w w':=by
 have HS:=az hs;have HL:=az hl;have WT:=az hf;have HV:Hid (aJ dw prog 146 w b n M):=hV;have HT:=az hT;have HE:=az hse;have Yf:=az hlE;have YB:=az hfE;have HNB:Hid (∀q∈rows,av q.e=true):=hnb;clear hs hl hf hV hT hse hlE hfE hnb;go_enter func185,ntmps185;go_wp2_with fail;go_loopw[13] (fun i wr=>∃k:Nat,k<=rows.length/\i=.int .i64 k/\Hid (aQ (ae rs) typ (ai (rows.drop k))=aQ (ae rs) typ (ai rows))/\Hid (ag w wr)) (fun i _=>rows.length-(intOf i).toNat);case atStart=>exact⟨0,Vy _,rfl,rfl,Vv _ _⟩
 obtain⟨k,hk,rfl,HP,HB⟩:=hrel;by_cases hlt:k<rows.length
 ·rcases HE.out.below HB.out with rfl|⟨bE,offE,rfl,hbE,hrE,hokE⟩
  ·simp at hlt
  obtain⟨t0,t1,t2,t3,t4⟩:=hrE k hlt;have HOKW:Hid (rows[k].ok w):=HE.out.mem (Vs hlt);have hk1:=bI k;have hk2:(k:Int)<(rows.length:Int):=by omega
  have lgA:rows[k].e.allow.length<=1048576:=(Yf.out _ (Vs hlt)).1;have HFK:Hid (rows[k].e.fits):=YB.out _ (Vs hlt);have HNK:Hid (av rows[k].e=true):=HNB.out _ (Vs hlt);have HDR:=Ke (ae rs) typ rows k hlt;have HD:Hid (aQ (ae rs) typ (ai rows)=if pz (ae rs) rows[k].e.allow&&kZ (ae rs) typ rows[k].e then aQ (ae rs) typ (ai (rows.drop (k+1))) else false):=by show _=_;rw[<-HP.out];exact HDR
  obtain⟨W1,hW1⟩:=eQx (wr.alloc (.cells #[.int .i64 rows[k].e.kind,.slice rows[k].adA rows[k].e.allow.length rows[k].capA,.string rows[k].e.over,.string rows[k].e.name,.slice rows[k].adK rows[k].e.kids.length rows[k].capK] 43));have hal:ag wr W1:=by rw[hW1];exact(Vv _ _).alloc (Vu _) _
  have WS:=iX HB hal;have HVW:=az (HV.out.below WS.out);have zO:rows[k].e.over.size<=maxLen:=HFK.out.2.1;have zN:rows[k].e.name.size<=maxLen:=HFK.out.2.2.1;clear hrE hokE hal HDR;by_cases h1:rows[k].e.kind=1
  ·have Yu:Hid (kZ (ae rs) typ rows[k].e=true):=by show _=_;unfold kZ;rw[if_neg (by omega),if_neg (by omega)]
   have hq1:(rows[k].e.kind==1)=true:=by simpa using h1
   replace h1:Hid (rows[k].e.kind=1):=h1;go_wp2_with fail;rw[<-hW1];refine(Be ad rows[k].adA cap rows[k].capA rs b n M rows[k].e.allow _ hlen (HS.out.below WS.out) HVW.out HT.out lgA (HOKW.out.1.below WS.out) HFK.out.1).mono ?_;rintro e w2 ⟨rfl,hb2⟩;have HB2:=iX WS hb2;clear hb2 hW1 t0 t1 t2 t3 t4;cases hz:pz (ae rs) rows[k].e.allow;case false=>
    have HN:Hid (aQ (ae rs) typ (ai rows)=false):=by show _=_;rw[HD.out,hz];rfl
    go_wp2;go_ret;exact⟨by rw[HN.out];rfl,HB2.out⟩
   have WQ:Hid (aQ (ae rs) typ (ai (rows.drop (k+1)))=aQ (ae rs) typ (ai rows)):=by show _=_;rw[HD.out,hz,Yu.out];rfl
   go_wp2;go_roundw;case rel=>exact⟨k+1,by omega,by go_num,WQ,HB2⟩
   simp[intOf]<;>omega
  have hq1:(rows[k].e.kind==1)=false:=by simpa using h1
  have ZF:Hid (pz (ae rs) rows[k].e.allow=true):=by show _=_;rw[uK HNK.out h1];rfl
  by_cases h2:rows[k].e.kind=2
  ·have hq2:(rows[k].e.kind==2)=true:=by simpa using h2
   have HI:=HT.out.some_iff (typ,rows[k].e.name);have Yu:Hid (kZ (ae rs) typ rows[k].e=(M (typ,rows[k].e.name)).isSome):=by show _=_;unfold kZ;rw[if_pos h2,HI]
   clear HI;replace h2:Hid (rows[k].e.kind=2):=h2;go_wp2_with fail;rw[<-hW1];refine(vY b n M typ rows[k].e.name _ ht zN HVW.out).mono ?_;rintro e w2 ⟨rfl,hw2⟩;rw[hw2];clear hw2 w2 hW1 t0 t1 t2 t3 t4;cases hz:(M (typ,rows[k].e.name)).isSome;case false=>
    have HN:Hid (aQ (ae rs) typ (ai rows)=false):=by show _=_;rw[HD.out,Yu.out,hz,ZF.out];rfl
    go_wp2;go_ret;exact⟨by rw[HN.out];rfl,WS.out⟩
   have WQ:Hid (aQ (ae rs) typ (ai (rows.drop (k+1)))=aQ (ae rs) typ (ai rows)):=by show _=_;rw[HD.out,Yu.out,hz,ZF.out];rfl
   go_wp2;go_roundw;case rel=>exact⟨k+1,by omega,by go_num,WQ,WS⟩
   simp[intOf]<;>omega
  have hq2:(rows[k].e.kind==2)=false:=by simpa using h2
  by_cases h3:rows[k].e.kind=3
  ·have hq3:(rows[k].e.kind==3)=true:=by simpa using h3
   have Yu:Hid (kZ (ae rs) typ rows[k].e=!(dU (ae rs) typ rows[k].e.over rows[k].e.name).isEmpty):=Hg _ _ _ h3;replace h3:Hid (rows[k].e.kind=3):=h3;go_wp2_with fail;rw[<-hW1];refine(nO b n rs ad M typ rows[k] _ HVW.out HT.out (HS.out.below WS.out) HL.out WT.out ht zO zN).mono ?_;rintro e w2 ⟨⟨Xe,cap',rfl,-,-⟩,hb2⟩;have HB2:=iX WS hb2;clear hb2 hW1 t0 t1 t2 t3 t4;generalize dU (ae rs) typ rows[k].e.over rows[k].e.name=gs at Yu⊢;cases gs with
   | nil =>
    have HN:Hid (aQ (ae rs) typ (ai rows)=false):=by show _=_;rw[HD.out,Yu.out,ZF.out];rfl
    go_wp2;go_ret;exact⟨by rw[HN.out];rfl,HB2.out⟩
   | cons g gs =>
    have WQ:Hid (aQ (ae rs) typ (ai (rows.drop (k+1)))=aQ (ae rs) typ (ai rows)):=by show _=_;rw[HD.out,Yu.out,ZF.out];rfl
    have hlz:(((g::gs).length:Int)==0)=false:=by
     have:¬(((g::gs).length:Int)=0):=by simp;omega
     simpa using this
    obtain⟨ln,hln⟩:=eQx ((g::gs).length);rw[<-hln]at hlz ⊢;clear hln;go_wp2;go_roundw;case rel=>exact⟨k+1,by omega,by go_num,WQ,HB2⟩
    simp[intOf]<;>omega
  have hq3:(rows[k].e.kind==3)=false:=by simpa using h3
  have Yu:Hid (kZ (ae rs) typ rows[k].e=true):=by show _=_;unfold kZ;rw[if_neg h2,if_neg h3]
  have WQ:Hid (aQ (ae rs) typ (ai (rows.drop (k+1)))=aQ (ae rs) typ (ai rows)):=by show _=_;rw[HD.out,Yu.out,ZF.out];rfl
  have XL:Hid (ag w (wr.alloc (.cells #[.int .i64 rows[k].e.kind,.slice rows[k].adA rows[k].e.allow.length rows[k].capA,.string rows[k].e.over,.string rows[k].e.name,.slice rows[k].adK rows[k].e.kids.length rows[k].capK] 43))):=by rw[<-hW1];exact WS
  clear hW1;go_wp2;go_roundw;case rel=>exact⟨k+1,by omega,by go_num,WQ,XL⟩
  simp[intOf]<;>omega
 have HN:Hid (aQ (ae rs) typ (ai rows)=true):=by show _=_;rw[<-HP.out,VU (by omega)];rfl
 go_wp2;go_ret;exact⟨by rw[HN.out];rfl,HB.out⟩
def Al.cells(a:Al):List Value:=[.string a.t,.string a.s]
def iK:List Al->List Value
 | []=>[]
 | a::xs=>a.cells++iK xs
theorem Fu(xs ys:Q0a):iK (xs++ys)=iK xs++iK ys:=by
 induction xs with
 | nil=>rfl
 | cons d ds ih=>simp[iK,ih]
theorem Bg(xs:Q0a)(d:Al):iK (xs++[d])=iK xs++d.cells:=by rw[Fu];simp[iK]
theorem DT(xs:Q0a)(i:Nat)(h:i<xs.length)(o:Nat)(ho:o<2):(iK xs)[i*2+o]?=(xs[i].cells)[o]?:=by
 induction xs generalizing i with
 | nil=>simp at h
 | cons s xs ih =>
  cases i with
  | zero =>
   simp only[iK,Nat.zero_mul,VW,List.getElem_cons_zero];rw[Wy (by simp[Al.cells];omega)]
  | succ i =>
   simp only[iK,List.getElem_cons_succ];rw[Wx (by simp[Al.cells];omega)];have e:(i+1)*2+o-s.cells.length=i*2+o:=by simp[Al.cells];omega
   rw[e];exact ih i (by simpa using h)
theorem Qj{w:af}{base:Nat}{v:Value}{xs:Q0a}(h:w.ownsRow base 146 2 v xs.length (iK xs)):∃ad cp,v=.slice ad xs.length cp/\kD w ad xs/\∀p,ad=some p->base<=p.block:=by
 have h2:=h;rcases h.2 with⟨rfl,h0⟩|⟨g,cp,cur,rfl,hbg,hg,hnc,-⟩
 ·exact⟨none,0,by rw[h0],.inl (VM.1 h0),fun p hp=>by cases hp⟩
 have hlt:=h2.lt g rfl;refine⟨_,cp,rfl,.inr ⟨g,0,rfl,hlt.2,fun i hi=>?_⟩,fun p hp=>by injection hp with hp;rw[<-hp];exact hlt.1⟩;have h3:∀(o:Nat) (u:Value),(iK xs)[i*2+o]?=some u->w.cell? ⟨g,0+i*2+o,none⟩=some u:=fun o u hu=>by
  have:=h2.cells (g:=g) rfl (i*2+o) u hu;rw[Gq]at this;rw[VW];exact this
 exact⟨h3 0 _ (by have:=DT xs i hi 0 (by omega);simpa[Al.cells] using this),h3 1 _ (by have:=DT xs i hi 1 (by omega);simpa[Al.cells] using this)⟩
def dL:List Al->List Al
 | []=>[]
 | a::xs=>if a.s.toList.isEmpty then dL xs else a::dL xs
theorem wm(xs ys:Q0a):dL (xs++ys)=dL xs++dL ys:=by
 induction xs with
 | nil=>rfl
 | cons a xs ih=>simp only[Wq,dL,ih];split<;>simp
theorem Qk(xs:Q0a)(k:Nat)(h:k<xs.length)(he:xs[k].s.toList.isEmpty=true):dL (xs.take (k+1))=dL (xs.take k):=by
 rw[Vx h,wm];simp[dL]at he ⊢;simp[he]
theorem Nt(xs:Q0a)(k:Nat)(h:k<xs.length)(he:xs[k].s.toList.isEmpty=false):dL (xs.take (k+1))=dL (xs.take k)++[xs[k]]:=by
 rw[Vx h,wm];simp[dL,he]
theorem DU(xs:Q0a):(dL xs).length<=xs.length:=by
 induction xs with
 | nil=>simp[dL]
 | cons a xs ih=>simp only[dL];split<;>simp<;>omega
def jE(ts:Q0b)(typ:ByteArray)(e:Ex):List Al :=
 if e.kind=1 then dL e.allow else if e.kind=2 then [⟨typ,e.name⟩] else if e.kind=3 then (dU ts typ e.over e.name).map fun g=>⟨g,e.name⟩ else []
theorem Ql:(prog.info? 146).map (fun i=>(i.zero,i.size,i.bytes))=some (some (.agg #[.string ⟨#[]⟩,.string ⟨#[]⟩]),2,32):=by kernel_rfl
theorem Fv(rs:Q06)(hl:∀r∈rs,r.light)(typ over rel:bi):(dU (ae rs) typ over rel).length<=1048576:=by
 unfold dU;split
 ·exact yG rs hl typ over rel
 simp
theorem xU(w:af)(o o':Obj):((w.alloc o).alloc o').heap[w.heap.size+1]?=some o':=by
 have:=heap_alloc_new (w.alloc o) o';simpa using this
set_option maxRecDepth 100000 in
theorem Hl(b n:Nat)(rs:Q06)(ad:Q02)(M:ByteArray×ByteArray->Option Value)(typ:bi)(x:ER)(w:af)(hV:aJ dw prog 146 w b n M)(hT:Tab rs M)(hs:jK w ad rs)(hl:∀r∈rs,r.light)(hf:∀r∈rs,r.fits)(ht:typ.size<=maxLen)(hxf:x.e.fits)(hxl:x.e.light)(hxo:x.ok w):
  Calls prog 261 #[.map (some b),.string typ,x.val] w fun e w'=>(∃(Xe:Q02) (cap':Nat),e=.returned (.slice Xe (jE (ae rs) typ x.e).length cap')/\kD w' Xe (jE (ae rs) typ x.e)/\∀p,Xe=some p->w.heap.size<=p.block)/\ag w w':=by
 have HV:Hid (aJ dw prog 146 w b n M):=hV;have HT:=az hT;have HS:=az hs;have HL:=az hl;have WT:=az hf;have HXF:=az hxf;have HXO:=az hxo;have lgA:x.e.allow.length<=1048576:=hxl.1;clear hV hT hs hl hf hxf hxo hxl;obtain⟨i0,hi,hz0,hz1,hz2⟩:=info_parts Ql;obtain⟨W0,hW0⟩:=eQx (w.alloc (.cells #[.int .i64 x.e.kind,.slice x.adA x.e.allow.length x.capA,.string x.e.over,.string x.e.name,.slice x.adK x.e.kids.length x.capK] 43));have hal:ag w W0:=by rw[hW0];exact(Vv _ _).alloc (Vu _) _
 have HB0:=az hal;have hg0:w.heap.size<W0.heap.size:=by rw[hW0];simp
 have c0:W0.cell? ⟨w.heap.size,0,none⟩=some (.int .i64 x.e.kind):=by rw[hW0];simp
 have c1:W0.cell? ⟨w.heap.size,1,none⟩=some (.slice x.adA x.e.allow.length x.capA):=by rw[hW0];simp
 have c2:W0.cell? ⟨w.heap.size,2,none⟩=some (.string x.e.over):=by rw[hW0];simp
 have c3:W0.cell? ⟨w.heap.size,3,none⟩=some (.string x.e.name):=by rw[hW0];simp
 have c4:W0.cell? ⟨w.heap.size,4,none⟩=some (.slice x.adK x.e.kids.length x.capK):=by rw[hW0];simp
 clear hal;unfold ER.val;by_cases h1:x.e.kind=1
 ·have ZM:Hid (jE (ae rs) typ x.e=dL x.e.allow):=by show _=_;unfold jE;rw[if_pos h1]
  have hq1:(x.e.kind==1)=true:=by simpa using h1
  replace h1:Hid (x.e.kind=1):=h1;go_enter func261,ntmps261;go_wp2_with fail;rw[<-hW0];clear hW0;go_loopw[7,19] (fun v i wr=>∃k:Nat,k<=x.e.allow.length/\i=.int .i64 k/\Hid (wr.ownsRow w.heap.size 146 2 v (dL (x.e.allow.take k)).length (iK (dL (x.e.allow.take k))))/\Hid (ag w wr)) (fun _ i _=>x.e.allow.length-(intOf i).toNat);case atStart=>exact⟨0,Vy _,rfl,World.ownsRow_nil _ _ _ _,HB0⟩
  clear HB0 c0 c1 c2 c3 c4 hg0;obtain⟨k,hk,rfl,HOW,HB⟩:=hrel;by_cases hlt:k<x.e.allow.length
  ·rcases (HXO.out.1).below HB.out with hnil|⟨ba,YI,had,hba,hra⟩
   ·rw[hnil]at hlt;simp at hlt
   obtain⟨t0,t1⟩:=hra k hlt;have hk1:=bI k;have hk2:(k:Int)<(x.e.allow.length:Int):=by omega
   obtain⟨W1,hW1⟩:=eQx (wr.alloc (.cells #[.string x.e.allow[k].t,.string x.e.allow[k].s] 216));have hal:ag wr W1:=by rw[hW1];exact(Vv _ _).alloc (Vu _) _
   have WS:=iX HB hal;have Y5:Hid (W1.ownsRow w.heap.size 146 2 u7 (dL (x.e.allow.take k)).length (iK (dL (x.e.allow.take k)))):=own_below HOW.out hal;have g0:W1.cell? ⟨wr.heap.size,0,none⟩=some (.string x.e.allow[k].t):=by rw[hW1];simp
   have g1:W1.cell? ⟨wr.heap.size,1,none⟩=some (.string x.e.allow[k].s):=by rw[hW1];simp
   have hgl1:wr.heap.size<W1.heap.size:=by rw[hW1];simp
   have hgl:=DU (x.e.allow.take k);rw[V9]at hgl;have hwsz:w.heap.size<=W1.heap.size:=WS.out.size;rw[had];clear hra hal HOW;cases he:x.e.allow[k].s.toList.isEmpty;case true=>
    have HE:Hid (dL (x.e.allow.take (k+1))=dL (x.e.allow.take k)):=Qk _ _ hlt he;have XL:Hid (ag w (wr.alloc (.cells #[.string x.e.allow[k].t,.string x.e.allow[k].s] 216))):=by rw[<-hW1];exact WS
    have HOX:Hid ((wr.alloc (.cells #[.string x.e.allow[k].t,.string x.e.allow[k].s] 216)).ownsRow w.heap.size 146 2 u7 (dL (x.e.allow.take (k+1))).length (iK (dL (x.e.allow.take (k+1))))):=by rw[<-hW1,HE.out];exact Y5
    clear hW1 g0 g1;go_wp2;go_roundw;case rel=>exact⟨k+1,by omega,by go_num,HOX,XL⟩
    simp[intOf]<;>omega
   have HX:Hid (dL (x.e.allow.take (k+1))=dL (x.e.allow.take k)++[x.e.allow[k]]):=Nt _ _ hlt he;have HOX:Hid ((wr.alloc (.cells #[.string x.e.allow[k].t,.string x.e.allow[k].s] 216)).ownsRow w.heap.size 146 2 u7 (dL (x.e.allow.take k)).length (iK (dL (x.e.allow.take k)))):=by rw[<-hW1];exact Y5
   have XL:Hid (ag w (wr.alloc (.cells #[.string x.e.allow[k].t,.string x.e.allow[k].s] 216))):=by rw[<-hW1];exact WS
   have hws:w.heap.size<=wr.heap.size:=HB.out.size;clear hW1 Y5 WS g0 g1 hgl1 hwsz W1;go_wp2_with(at_builtin;refine wpList_append_own_at _ rfl _ _ 340 rfl w.heap.size 146 i0 _ 2 32 underlying340 hi hz0 hz1 hz2 rfl (by decide) _ _ _ rfl (HOX.out.alloc _) ⟨wr.heap.size+1,0,none⟩ 1 1 [.string x.e.allow[k].t,.string x.e.allow[k].s] rfl rfl (World.news_of_block (cs:=#[.string x.e.allow[k].t,.string x.e.allow[k].s]) (t:=146) (fr:=(0,0)) (xU wr _ _)) (by simp[Value.oneCell']) (by unfold maxLen;omega) (by omega) (by simp;omega) ?_);intro v' w3 hown3 hgrow _ hloc;have HB3:Hid (ag w w3):=(XL.out.alloc XL.out.size _).grown hgrow (by simp;omega) (fun i hi=>(HOX.out.lt i hi).1);have Xv:Hid (w3.ownsRow w.heap.size 146 2 v' (dL (x.e.allow.take (k+1))).length (iK (dL (x.e.allow.take (k+1))))):=by
    show World.ownsRow _ _ _ _ _ _ _;rw[HX.out,Bg,VD];exact hown3
   clear hown3 hgrow hloc HOX XL;go_wp2;go_roundw;case rel=>exact⟨k+1,by omega,by go_num,Xv,HB3⟩
   simp[intOf]<;>omega
  obtain rfl:k=x.e.allow.length:=by omega
  have hown:=HOW.out;rw[VI]at hown;obtain⟨Xe,cp,rfl,hS',hN'⟩:=Qj hown;have HS2:=az hS';have HN2:Hid (∀p,Xe=some p->w.heap.size<=p.block):=hN';clear hown HOW hS' hN';go_wp2;go_ret;exact⟨⟨Xe,cp,by rw[ZM.out];rfl,by rw[ZM.out];exact HS2.out,HN2.out⟩,HB.out⟩
 have hq1:(x.e.kind==1)=false:=by simpa using h1
 by_cases h2:x.e.kind=2
 ·have ZM:Hid (jE (ae rs) typ x.e=[⟨typ,x.e.name⟩]):=by show _=_;unfold jE;rw[if_neg h1,if_pos h2]
  have hq2:(x.e.kind==2)=true:=by simpa using h2
  replace h2:Hid (x.e.kind=2):=h2;have HOX:Hid ((w.alloc (.cells #[.int .i64 x.e.kind,.slice x.adA x.e.allow.length x.capA,.string x.e.over,.string x.e.name,.slice x.adK x.e.kids.length x.capK] 43)).ownsRow w.heap.size 146 2 (.slice none 0 0) 0 []):=World.ownsRow_nil _ _ _ _;have XL:Hid (ag w (w.alloc (.cells #[.int .i64 x.e.kind,.slice x.adA x.e.allow.length x.capA,.string x.e.over,.string x.e.name,.slice x.adK x.e.kids.length x.capK] 43))):=by rw[<-hW0];exact HB0
  clear hW0 HB0 c0 c1 c2 c3 c4 hg0 W0;go_enter func261,ntmps261;go_wp2_with(at_builtin;refine wpList_append_own_at _ rfl _ _ 340 rfl w.heap.size 146 i0 _ 2 32 underlying340 hi hz0 hz1 hz2 rfl (by decide) _ _ _ rfl (HOX.out.alloc _) ⟨w.heap.size+1,0,none⟩ 1 1 [.string typ,.string x.e.name] rfl rfl (World.news_of_block (cs:=#[.string typ,.string x.e.name]) (t:=146) (fr:=(0,0)) (xU w _ _)) (by simp[Value.oneCell']) (by unfold maxLen;omega) (by omega) (by simp;omega) ?_);intro v' w3 hown3 hgrow _ hloc;have HB3:Hid (ag w w3):=(XL.out.alloc XL.out.size _).grown hgrow (by simp;omega) (fun i hi=>(HOX.out.lt i hi).1);have Xj:w3.ownsRow w.heap.size 146 2 v' ([⟨typ,x.e.name⟩]:Q0a).length (iK [⟨typ,x.e.name⟩]):=hown3;obtain⟨Xe,cp,rfl,hS',hN'⟩:=Qj Xj;have HS2:=az hS';have HN2:Hid (∀p,Xe=some p->w.heap.size<=p.block):=hN';clear hown3 Xj hgrow hloc HOX XL hS' hN';go_wp2;go_ret;exact⟨⟨Xe,cp,by rw[ZM.out];rfl,by rw[ZM.out];exact HS2.out,HN2.out⟩,HB3.out⟩
 have hq2:(x.e.kind==2)=false:=by simpa using h2
 by_cases h3:x.e.kind=3
 ·have ZM:Hid (jE (ae rs) typ x.e=(dU (ae rs) typ x.e.over x.e.name).map fun g=>(⟨g,x.e.name⟩:Al)):=by show _=_;unfold jE;rw[if_neg h1,if_neg h2,if_pos h3]
  have hq3:(x.e.kind==3)=true:=by simpa using h3
  replace h3:Hid (x.e.kind=3):=h3;have HGL:(dU (ae rs) typ x.e.over x.e.name).length<=1048576:=Fv rs HL.out _ _ _;have HV0:=az (HV.out.below HB0.out);go_enter func261,ntmps261;go_wp2_with fail;rw[<-hW0];refine(nO b n rs ad M typ x _ HV0.out HT.out (HS.out.below HB0.out) HL.out WT.out ht HXF.out.2.1 HXF.out.2.2.1).mono ?_;rintro e w1 ⟨⟨adG,cpG,rfl,hSG,hNG⟩,hb1⟩;generalize dU (ae rs) typ x.e.over x.e.name=gs at *
  have HB1:=iX HB0 hb1;have HSG:=az hSG;have HNG:Hid (∀p,adG=some p->W0.heap.size<=p.block):=hNG;have Xu:Hid (w1.cell? ⟨w.heap.size,3,none⟩=some (.string x.e.name)/\w.heap.size<w1.heap.size):=⟨aC hb1 hg0 c3,Vt hg0 hb1.size⟩;clear hW0 hSG hNG hb1 c0 c1 c2 c3 c4 HB0 HV0 hg0 HNG;go_wp2_with fail;go_loopw[7,51] (fun v i wr=>∃m:Nat,m<=gs.length/\i=.int .i64 m/\Hid (wr.ownsRow w.heap.size 146 2 v m (iK ((gs.take m).map fun g=>(⟨g,x.e.name⟩:Al))))/\Hid (ag w wr)/\Hid (Aside w1 (.slice none 0 0) wr v)) (fun _ i _=>gs.length-(intOf i).toNat);case atStart=>exact⟨0,Vy _,rfl,World.ownsRow_nil _ _ _ _,HB1,Aside.refl _ _⟩
  clear HB1;obtain⟨m,hm,rfl,HO,HB,HA⟩:=hrel;have x3:=qR HA.out Xu.out.2 (by simp[Value.ownBlock]) Xu.out.1;by_cases Xh:m<gs.length
  ·rcases HSG.out with rfl|⟨bg,offg,rfl,hbg,hrg⟩
   ·simp at Xh
   have q0:=qR HA.out hbg (by simp[Value.ownBlock]) (hrg m Xh);have hm1:=bI m;have hm2:(m:Int)<(gs.length:Int):=by omega
   have hws:w.heap.size<=wr.heap.size:=HB.out.size;have HFX:Hid (iK ((gs.take (m+1)).map fun g=>(⟨g,x.e.name⟩:Al))=iK ((gs.take m).map fun g=>(⟨g,x.e.name⟩:Al))++[.string gs[m],.string x.e.name]):=by
    show _=_;rw[Vx Xh,Wl,List.map_singleton,Bg];rfl
   clear hrg;go_wp2_with(at_builtin;refine wpList_append_own_at _ rfl _ _ 340 rfl w.heap.size 146 i0 _ 2 32 underlying340 hi hz0 hz1 hz2 rfl (by decide) _ _ _ rfl (HO.out.alloc _) ⟨wr.heap.size,0,none⟩ 1 1 [.string gs[m],.string x.e.name] rfl rfl (World.news_of_block (cs:=#[.string gs[m],.string x.e.name]) (t:=146) (fr:=(0,0)) (heap_alloc_new wr _)) (by simp[Value.oneCell']) (by unfold maxLen;omega) (by omega) (by simp;omega) ?_);intro v' w3 hown3 hgrow _ hloc;have HB3:Hid (ag w w3):=(HB.out.alloc HB.out.size _).grown hgrow (by simp;omega) (fun i hi=>(HO.out.lt i hi).1);have Xv:Hid (w3.ownsRow w.heap.size 146 2 v' (m+1) (iK ((gs.take (m+1)).map fun g=>(⟨g,x.e.name⟩:Al)))):=by
    show World.ownsRow _ _ _ _ _ _ _;rw[HFX.out];simpa[List.map_take] using hown3
   have Xi:Hid (Aside w1 (.slice none 0 0) w3 v'):=HA.out.trans ((Aside.below ((Vv _ _).alloc (Vu _) _)).trans (Aside.app hgrow (by simpa using hloc)));clear hown3 hgrow hloc HO HA;go_wp2;go_roundw;case rel=>exact⟨m+1,by omega,by go_num,Xv,HB3,Xi⟩
   simp[intOf]<;>omega
  obtain rfl:m=gs.length:=by omega
  have hown:=HO.out;rw[VI]at hown;have e:gs.length=(gs.map fun g=>(⟨g,x.e.name⟩:Al)).length:=by simp
  rw[e]at hown;obtain⟨Xe,cp,rfl,hS',hN'⟩:=Qj hown;have HS2:Hid (kD wr Xe (gs.map fun g=>(⟨g,x.e.name⟩:Al))):=hS';have HN2:Hid (∀p,Xe=some p->w.heap.size<=p.block):=hN';obtain⟨ln,hln⟩:=eQx ((gs.map fun g=>(⟨g,x.e.name⟩:Al)).length);rw[<-hln];have HLN:Hid (ln=(gs.map fun g=>(⟨g,x.e.name⟩:Al)).length):=hln;clear hown HO hS' hN' e HA x3 hln;go_wp2;go_ret;exact⟨⟨Xe,cp,by rw[ZM.out,<-HLN.out];rfl,by rw[ZM.out];exact HS2.out,HN2.out⟩,HB.out⟩
 have ZM:Hid (jE (ae rs) typ x.e=[]):=by show _=_;unfold jE;rw[if_neg h1,if_neg h2,if_neg h3]
 have hq3:(x.e.kind==3)=false:=by simpa using h3
 have XL:Hid (ag w (w.alloc (.cells #[.int .i64 x.e.kind,.slice x.adA x.e.allow.length x.capA,.string x.e.over,.string x.e.name,.slice x.adK x.e.kids.length x.capK] 43))):=by rw[<-hW0];exact HB0
 clear hW0 HB0 c0 c1 c2 c3 c4 hg0;go_enter func261,ntmps261;go_wp2;go_ret;exact⟨⟨none,0,by rw[ZM.out];rfl,by rw[ZM.out];exact .inl rfl,fun p hp=>by cases hp⟩,XL.out⟩
abbrev Ky:=ByteArray×ByteArray
def lookL(E:List (Ky×St))(k:Ky):List St:=E.filterMap fun p=>if p.1=k then some p.2 else none
theorem lookL_append(E F:List (Ky×St))(k:Ky):lookL (E++F) k=lookL E k++lookL F k:=by unfold lookL;rw[List.filterMap_append]
theorem uj(E:List (Ky×St))(k:Ky)(s:St):lookL (E++[(k,s)]) k=lookL E k++[s]:=by rw[lookL_append];simp[lookL]
theorem qJ(E:List (Ky×St)){k y:Ky}(s:St)(h:k≠y):lookL (E++[(y,s)]) k=lookL E k:=by rw[lookL_append];simp[lookL,Ne.symm h]
theorem mem_lookL{E:List (Ky×St)}{k:Ky}{s:St}:s∈lookL E k↔(k,s)∈E:=by
 unfold lookL;rw[List.mem_filterMap];constructor
 ·rintro⟨⟨a,b⟩,h1,h2⟩;simp only at h2;split at h2
  ·rename_i e;injection h2 with h2;rw[<-e,<-h2];exact h1
  cases h2
 intro h;exact⟨(k,s),h,by simp⟩
def FreeB(M:Ky->Option Value)(g:Nat):Prop:=∀k v,M k=some v->v.ownBlock≠some g
structure Grp(w:World)(bL n:Nat)(M:Ky->Option Value)(E:List (Ky×St)):Prop where
 map:aJ dw prog 146 w bL n M
 row:∀k,(M k=none/\lookL E k=[]) \/ ∃v,M k=some v/\w.ownsRow (bL+1) 337 3 v (lookL E k).length (iY (lookL E k))
 apart:∀k k' v v',k≠k'->M k=some v->M k'=some v'->∀g,v.ownBlock=some g->v'.ownBlock≠some g
theorem Grp.lt{w:af}{bL n:Nat}{M:Ky->Option Value}{E:List (Ky×St)}(h:Grp w bL n M E){k:Ky}{v:Value}(hk:M k=some v){g:Nat}(hg:v.ownBlock=some g):bL<g/\g<w.heap.size:=by
 rcases h.row k with⟨e,-⟩|⟨v',e,ho⟩
 ·rw[e]at hk;cases hk
 rw[e]at hk;injection hk with hk;subst hk;have:=ho.lt g hg;exact⟨by omega,this.2⟩
theorem Grp.fresh{w:af}{bL n:Nat}{M:Ky->Option Value}{E:List (Ky×St)}(h:Grp w bL n M E){g:Nat}(hg:w.heap.size<=g):FreeB M g:=fun k v hk e=>by
 have:=(h.lt hk e).2;omega
theorem Grp.mono{w:af}{bL n n':Nat}{M:Ky->Option Value}{E:List (Ky×St)}(h:Grp w bL n M E)(hn:n<=n'):Grp w bL n' M E:=⟨h.map.mono hn,h.row,h.apart⟩
theorem Grp.below{w w':af}{bL n:Nat}{M:Ky->Option Value}{E:List (Ky×St)}(h:Grp w bL n M E)(hB:ag w w'):Grp w' bL n M E where
 map:=h.map.below hB
 row k:=by
  rcases h.row k with e|⟨v,e,ho⟩
  ·exact .inl e
  exact .inr ⟨v,e,own_below ho hB⟩
 apart:=h.apart
theorem grp_made(w:af):Grp (w.alloc (.map #[] 0)) w.heap.size 0 (fun _=>none) [] where
 map:=oq _ _ _ w
 row k:=.inl ⟨rfl,rfl⟩
 apart k k' v v' _ h:=by cases h
structure Stl(W:World)(M:Ky->Option Value)(w2:World)(M2:Ky->Option Value)(bL:Nat):Prop where
 size:W.heap.size<=w2.heap.size
 block:∀g,g<W.heap.size->g≠bL->FreeB M g->w2.heap[g]?=W.heap[g]?
 free:∀g,g<W.heap.size->FreeB M g->FreeB M2 g
theorem Stl.refl(W:af)(M:Ky->Option Value)(bL:Nat):Stl W M W M bL:=⟨Vu _,fun _ _ _ _=>rfl,fun _ _ h=>h⟩
theorem Stl.trans{W w2 w3:af}{M M2 M3:Ky->Option Value}{bL:Nat}(h:Stl W M w2 M2 bL)(h2:Stl w2 M2 w3 M3 bL):Stl W M w3 M3 bL where
 size:=Vz h.size h2.size
 block g hg hb hf:=(h2.block g (Vt hg h.size) hb (h.free g hg hf)).trans (h.block g hg hb hf)
 free g hg hf:=h2.free g (Vt hg h.size) (h.free g hg hf)
theorem Stl.below{W w2:af}{M:Ky->Option Value}{bL:Nat}(hB:ag W w2):Stl W M w2 M bL:=⟨hB.size,fun g hg _ _=>hB.block g hg,fun _ _ h=>h⟩
structure Cel(w:World)(M:Ky->Option Value)(bL g o:Nat)(u:Value):Prop where
 cell:w.cell? ⟨g,o,none⟩=some u
 lt:g<w.heap.size
 free:FreeB M g
 ne:g≠bL
theorem Cel.stl{w w2:af}{M M2:Ky->Option Value}{bL g o:Nat}{u:Value}(h:Cel w M bL g o u)(hS:Stl w M w2 M2 bL):Cel w2 M2 bL g o u where
 cell:=(VN (w:=w) (hS.block g h.lt h.ne h.free)).trans h.cell
 lt:=Vt h.lt hS.size
 free:=hS.free g h.lt h.free
 ne:=h.ne
theorem Grp.step{W0 w1 w2 w3:af}{bL n:Nat}{M:Ky->Option Value}{E:List (Ky×St)}{y:Ky}{v':Value}{s:St}(h:Grp W0 bL n M E)(hg1:W0.grownBy w1 (some bL))(hown:w2.ownsRow (bL+1) 337 3 v' ((lookL E y).length+1) (iY (lookL E y)++s.cells))
  (hg2:w1.grownBy w2 ((M y).getD (.slice none 0 0)).ownBlock) (hloc:v'.ownBlock=((M y).getD (.slice none 0 0)).ownBlock\/v'.ownBlock=some w1.heap.size) (hg3:w2.grownBy w3 (some bL)) (hM:aJ dw prog 146 w3 bL (n+1) (lI M y (some v'))) :
  Grp w3 bL (n+1) (lI M y (some v')) (E++[(y,s)])/\Stl W0 M w3 (lI M y (some v')) bL:=by
 have hrow0:∀k v,M k=some v->∃xs m,W0.ownsRow (bL+1) 337 3 v m xs:=fun k v hk=>by
  rcases h.row k with⟨e,-⟩|⟨v1,e,ho⟩
  ·rw[e]at hk;cases hk
  rw[e]at hk;injection hk with hk;subst hk;exact⟨_,_,ho⟩
 have hne2:∀k v,k≠y->M k=some v->v.ownBlock=none\/v.ownBlock≠((M y).getD (.slice none 0 0)).ownBlock:=fun k v hky hk=>by
  cases e:v.ownBlock with
  | none=>exact .inl rfl
  | some g =>
   right;cases ey:M y with
   | none=>simp[Value.ownBlock]
   | some vy=>intro e2;exact h.apart k y v vy hky hk ey g e (by simpa using e2.symm)
 have hnb:∀v,(∃k,M k=some v)->v.ownBlock=none\/v.ownBlock≠some bL:=fun v ⟨k,hk⟩=>by
  cases e:v.ownBlock with
  | none=>exact .inl rfl
  | some g=>right;have:=(h.lt hk e).1;intro e2;injection e2 with e2;omega
 have hnew:∀g,v'.ownBlock=some g->bL<g:=fun g e=>by have:=(hown.lt g e).1;omega
 have hv'b:v'.ownBlock=none\/v'.ownBlock≠some bL:=by
  cases e:v'.ownBlock with
  | none=>exact .inl rfl
  | some g=>right;have:=hnew g e;intro e2;injection e2 with e2;omega
 constructor
 ·refine⟨hM,fun k=>?_,fun k k' v u hkk hk hk' g e=>?_⟩
  ·by_cases ek:k=y
   ·subst ek;rw[eQ,uj];refine .inr ⟨v',rfl,?_⟩;rw[Aa,VD];exact hown.kept hg3 hv'b
   rw[bZ ek,qJ _ _ ek];rcases h.row k with e|⟨v,e,ho⟩
   ·exact .inl e
   exact .inr ⟨v,e,((ho.kept hg1 (hnb v ⟨k,e⟩)).kept hg2 (hne2 k v ek e)).kept hg3 (hnb v ⟨k,e⟩)⟩
  by_cases ek:k=y
  ·subst ek;rw[eQ]at hk;injection hk with hk;subst hk;rw[bZ (Ne.symm hkk)]at hk';intro e2;rcases hloc with el|el
   ·rw[e]at el;cases ey:M k with
    | none=>rw[ey]at el;simp[Value.ownBlock]at el
    | some vy=>rw[ey]at el;exact h.apart k k' vy u hkk ey hk' g (by simpa using el.symm) e2
   rw[e]at el;injection el with el;have:=(h.lt hk' e2).2;have:=hg1.size;omega
  rw[bZ ek]at hk;by_cases ek':k'=y
  ·subst ek';rw[eQ]at hk';injection hk' with hk';subst hk';intro e2;rcases hloc with el|el
   ·rw[e2]at el;cases ey:M k' with
    | none=>rw[ey]at el;simp[Value.ownBlock]at el
    | some vy=>rw[ey]at el;exact h.apart k k' v vy hkk hk ey g e (by simpa using el.symm)
   rw[e2]at el;injection el with el;have:=(h.lt hk e).2;have:=hg1.size;omega
  rw[bZ ek']at hk';exact h.apart k k' v u hkk hk hk' g e
 refine⟨Vz hg1.size (Vz hg2.size hg3.size),fun g hg hb hf=>?_,fun g hg hf k v hk=>?_⟩
 ·have h1:=hg1.block g hg (fun e=>hb (by injection e));have h2:=hg2.block g (Vt hg hg1.size) (fun e=>by
   cases ey:M y with
   | none=>rw[ey]at e;simp[Value.ownBlock]at e
   | some vy=>rw[ey]at e;exact hf y vy ey (by simpa using e.symm))
  have h3:=hg3.block g (Vt hg (Vz hg1.size hg2.size)) (fun e=>hb (by injection e));rw[h3,h2,h1]
 by_cases ek:k=y
 ·subst ek;rw[eQ]at hk;injection hk with hk;subst hk;intro e2;rcases hloc with el|el
  ·rw[e2]at el;cases ey:M k with
   | none=>rw[ey]at el;simp[Value.ownBlock]at el
   | some vy=>rw[ey]at el;exact hf k vy ey (by simpa using el.symm)
  rw[e2]at el;injection el with el;have:=hg1.size;omega
 rw[bZ ek]at hk;exact hf k v hk
def yN(b:Bool):Int:=if b then 1 else 0
def Bh(ts:Q0b)(t r:ByteArray)(ng:Bool)(e:Ex):List (Ky×St):=(jE ts t e).map fun a=>((a.t,a.s),⟨t,r,yN ng⟩)
def relE(ts:Q0b)(t r:ByteArray)(es:Q09):Nat->List (Ky×St)
 | 0=>[]
 | i+1=>relE ts t r es i++(match es[i]? with|none=>[]|some e=>Bh ts t r ((dB es).getD i false) e)
def jF(ts:Q0b)(t:ByteArray)(qs:Q07):List (Ky×St):=qs.flatMap fun q=>relE ts t q.name (ai q.rows) q.rows.length
def jG(ts:Q0b)(rs:Q06):List (Ky×St):=rs.flatMap fun t=>jF ts t.name t.rows
theorem Kg(ts:Q0b)(t:bi)(qs:Q07)(j:Nat)(h:j<qs.length):jF ts t (qs.take (j+1))=jF ts t (qs.take j)++relE ts t qs[j].name (ai qs[j].rows) qs[j].rows.length:=by
 unfold jF;rw[Vx h,WA,List.flatMap_singleton]
theorem Kh(ts:Q0b)(rs:Q06)(k:Nat)(h:k<rs.length):jG ts (rs.take (k+1))=jG ts (rs.take k)++jF ts rs[k].name rs[k].rows:=by
 unfold jG;rw[Vx h,WA,List.flatMap_singleton]
theorem DV(ts:Q0b)(t r:bi)(rows:Q08)(i:Nat)(h:i<rows.length)(ng:Bool)(hn:ng=(dB (ai rows)).getD i false):relE ts t r (ai rows) (i+1)=relE ts t r (ai rows) i++Bh ts t r ng rows[i].e:=by
 have e:(ai rows)[i]?=some rows[i].e:=by simp[ai,h]
 simp only[relE,e,hn]
theorem DW(rs:Q06)(hl:∀r∈rs,∀q∈r.rows,∀e∈q.rows,e.e.allow.length<=6)(typ:bi)(e:Ex)(he:e.allow.length<=6):(jE (ae rs) typ e).length<=6:=by
 unfold jE;split
 ·exact Vz (DU _) he
 split
 ·simp
 split
 ·rw[Wp];unfold dU;split
  ·refine Vz (Ac _ _ _ _) ?_;unfold ak;cases h:dZ (ae rs) typ e.over with
   | none=>simp[aN]
   | some es =>
    obtain⟨t,ht,q,hq,-,-,rfl⟩:=mZ h;have h1:=hl t ht q hq;have:∀(xs:Q08),(∀q∈xs,q.e.allow.length<=6)->(aN (ai xs)).length<=6:=by
     intro xs
     induction xs with
     | nil=>intro _;simp[ai,aN]
     | cons x xs ih =>
      intro h;have e4:ai (x::xs)=x.e::ai xs:=rfl;rw[e4];simp only[aN];split
      ·exact h x (by simp)
      exact ih (fun q hq=>h q (by simp[hq]))
    exact this q.rows h1
  simp
 simp
theorem Ki(rs:Q06)(hf:∀r∈rs,r.fits)(typ:bi)(ht:typ.size<=maxLen)(e:Ex)(he:e.fits):∀a∈jE (ae rs) typ e,a.t.size<=maxLen/\a.s.size<=maxLen:=by
 have hA:∀(xs:Q0a),(∀a∈xs,a.fits)->∀a∈dL xs,a.t.size<=maxLen/\a.s.size<=maxLen:=by
  intro xs
  induction xs with
  | nil=>intro _ a ha;cases ha
  | cons b xs ih =>
   intro h a ha;simp only[dL]at ha;split at ha
   ·exact ih (fun q hq=>h q (by simp[hq])) a ha
   rcases VL.1 ha with rfl|ha
   ·exact h a (by simp)
   exact ih (fun q hq=>h q (by simp[hq])) a ha
 have hG:∀(xs:Q0a) (rel:ByteArray),(∀a∈xs,a.fits)->∀g∈gl (ae rs) rel xs,g.size<=maxLen:=by
  intro xs rel
  induction xs with
  | nil=>intro _ a ha;cases ha
  | cons b xs ih =>
   intro h a ha;simp only[gl]at ha;split at ha
   ·exact ih (fun q hq=>h q (by simp[hq])) a ha
   rcases VL.1 ha with rfl|ha
   ·exact(h b (by simp)).1
   exact ih (fun q hq=>h q (by simp[hq])) a ha
 unfold jE;split
 ·exact hA _ he.1
 split
 ·intro a ha;simp at ha;subst ha;exact⟨ht,he.2.2.1⟩
 split
 ·intro a ha;obtain⟨g,hg,rfl⟩:=VE.1 ha;refine⟨?_,he.2.2.1⟩;unfold dU at hg;split at hg
  ·unfold d9 at hg;refine hG _ _ ?_ g hg;unfold ak;cases e3:dZ (ae rs) typ e.over with
   | none=>intro a ha;simp[aN]at ha
   | some es =>
    obtain⟨t,ht',q,hq,-,-,rfl⟩:=mZ e3;have hq2:=((hf t ht').2.2 q hq).2.2;intro a ha;have:∀(xs:Q08),(∀q∈xs,q.e.fits)->∀a∈aN (ai xs),a.fits:=by
     intro xs
     induction xs with
     | nil=>intro _ a ha;simp[ai,aN]at ha
     | cons x xs ih =>
      intro h a ha;have e4:ai (x::xs)=x.e::ai xs:=rfl;rw[e4]at ha;simp only[aN]at ha;split at ha
      ·exact(h x (by simp)).1 a ha
      exact ih (fun q hq=>h q (by simp[hq])) a ha
    exact this q.rows hq2 a ha
  cases hg
 intro a ha;cases ha
theorem Sa:(prog.info? 337).map (fun i=>(i.zero,i.size,i.bytes))=some (some (.agg #[.string ⟨#[]⟩,.string ⟨#[]⟩,.int .i64 0]),3,40):=by kernel_rfl
theorem Kj(u:af):(zeroValue 335).run prog u=.ok (.slice none 0 0) u:=by kernel_rfl
theorem wu{w:af}{bL n:Nat}{M:Ky->Option Value}{E:List (Ky×St)}(h:Grp w bL n M E)(y:Ky):w.ownsRow (bL+1) 337 3 ((M y).getD (.slice none 0 0)) (lookL E y).length (iY (lookL E y)):=by
 rcases h.row y with⟨e,e2⟩|⟨v,e,ho⟩
 ·rw[e,e2];exact World.ownsRow_nil _ _ _ _
 rw[e];exact ho
theorem Qm{w:af}{bL n:Nat}{M:Ky->Option Value}{E:List (Ky×St)}(h:Grp w bL n M E)(y:Ky):some bL≠((M y).getD (.slice none 0 0)).ownBlock:=by
 cases e:M y with
 | none=>simp[Value.ownBlock]
 | some v=>intro e2;have:=(h.lt e (g:=bL) (by simpa using e2.symm)).1;omega
theorem DX(E:List (Ky×St))(y:Ky):(lookL E y).length<=E.length:=WJ _ _
set_option maxRecDepth 100000 in
theorem Cy(ad:Q02)(cap:Nat)(rs:Q06)(bT nT:Nat)(T:Ky->Option Value)(w:af)(hlen:rs.length<=6)(hs:jK w ad rs)(hl:∀r∈rs,r.light)(hf:∀r∈rs,r.fits)(hrl:∀r∈rs,r.rows.length<=6)(hel:∀r∈rs,∀q∈r.rows,q.rows.length<=15/\∀e∈q.rows,fo q.rows.length e.e.kids)(hal6:∀r∈rs,∀q∈r.rows,∀e∈q.rows,e.e.allow.length<=6)(hV:aJ dw prog 146 w bT nT T)(hT:Tab rs T):
  Calls prog 187 #[.slice ad rs.length cap,.map (some bT)] w fun e w'=>e=.returned (.map (some w.heap.size))/\(∃n M,Grp w' w.heap.size n M (jG (ae rs) rs))/\ag w w':=by
 have HS:=az hs;have HL:=az hl;have WT:=az hf;have Zo:Hid (∀r∈rs,r.rows.length<=6):=hrl;have Yt:Hid (∀r∈rs,∀q∈r.rows,q.rows.length<=15/\∀e∈q.rows,fo q.rows.length e.e.kids):=hel;have HV:Hid (aJ dw prog 146 w bT nT T):=hV;have HT:=az hT;have HA6:Hid (∀r∈rs,∀q∈r.rows,∀e∈q.rows,e.e.allow.length<=6):=hal6;clear hs hl hf hrl hel hV hT hal6;obtain⟨i0,hi,hz0,hz1,hz2⟩:=info_parts Sa;have HG0:Hid (Grp (w.alloc (.map #[] 0)) w.heap.size 0 (fun _=>none) []):=grp_made w;have HB0:Hid (ag w (w.alloc (.map #[] 0))):=(Vv _ _).alloc (Vu _) _;have hmm:=@run_makeMap prog;go_enter func187,ntmps187;go_wp2_with fail;go_loopw[19] (fun i wr=>∃k:Nat,k<=rs.length/\i=.int .i64 k/\Hid (∃n M,Grp wr w.heap.size n M (jG (ae rs) (rs.take k))/\n<=k*540/\(jG (ae rs) (rs.take k)).length<=k*540)/\Hid (ag w wr)) (fun i _=>rs.length-(intOf i).toNat);case atStart=>exact⟨0,Vy _,rfl,⟨0,_,HG0.out,by omega,by simp[jG]⟩,HB0⟩
 clear HG0 HB0 hmm;obtain⟨k,hk,rfl,HG,HB⟩:=hrel;by_cases hlt:k<rs.length
 ·rcases HS.out.below HB.out with rfl|⟨b,off,rfl,hb,hr,-⟩
  ·simp at hlt
  obtain⟨t0,t1⟩:=hr k hlt;have hk1:=bI k;have hk2:(k:Int)<(rs.length:Int):=by omega
  have h6:rs[k].rows.length<=6:=Zo.out _ (Vs hlt);have z0:rs[k].name.size<=maxLen:=(WT.out _ (Vs hlt)).1;have ZK:Hid (∀q∈rs[k].rows,q.fits):=(WT.out _ (Vs hlt)).2.2;have HLR:Hid (∀q∈rs[k].rows,q.light):=(HL.out _ (Vs hlt)).2;have HER:Hid (∀q∈rs[k].rows,q.rows.length<=15/\∀e∈q.rows,fo q.rows.length e.e.kids):=Yt.out _ (Vs hlt);obtain⟨n1,M1,hG1,hn1,hE1⟩:=HG.out;obtain⟨E1,hE1d⟩:=eQx (jG (ae rs) (rs.take k));rw[<-hE1d]at hG1 hE1;have HE1D:Hid (E1=jG (ae rs) (rs.take k)):=hE1d;obtain⟨W1,hW1⟩:=eQx (wr.alloc (.cells #[.string rs[k].name,.slice rs[k].ad rs[k].rows.length rs[k].cap] 36));have hal:ag wr W1:=by rw[hW1];exact(Vv _ _).alloc (Vu _) _
  have hbn:w.heap.size<wr.heap.size:=hG1.map.lt;have HC7:Hid (Cel W1 M1 w.heap.size wr.heap.size 0 (.string rs[k].name)):=⟨by rw[hW1];simp,by rw[hW1];simp,hG1.fresh (Vu _),by omega⟩;have HG1:=az (hG1.below hal);have HB1:=iX HB hal;clear hr hal hG1 HG hE1d;go_wp2_with fail;rw[<-hW1];clear hW1 t0 t1 HB;obtain⟨g7,Zk⟩:=eQx wr.heap.size;rw[<-Zk]at HC7 hbn ⊢;clear Zk;go_loopw[26] (fun i w2=>∃j:Nat,j<=rs[k].rows.length/\i=.int .i64 j/\Hid (∃n M,Grp w2 w.heap.size n M (E1++jF (ae rs) rs[k].name (rs[k].rows.take j))/\n<=k*540+j*90/\(E1++jF (ae rs) rs[k].name (rs[k].rows.take j)).length<=k*540+j*90/\Cel w2 M w.heap.size g7 0 (.string rs[k].name))/\Hid (ag w w2)) (fun i _=>rs[k].rows.length-(intOf i).toNat);case atStart=>exact⟨0,Vy _,rfl,⟨n1,M1,by simpa[jF] using HG1.out,by omega,by have e:jF (ae rs) rs[k].name (rs[k].rows.take 0)=[]:=rfl;rw[e,Wt];omega,HC7.out⟩,HB1⟩
  clear HG1 HB1 HC7;obtain⟨j,hj,rfl,HG,HB⟩:=hrel;by_cases hjl:j<rs[k].rows.length
  ·rcases HS.out.below HB.out with hnil|⟨b',off',he,hb2,hr,hok⟩
   ·rw[hnil]at hlt;simp at hlt
   injection he with he;injection he with he1 he2;subst he1;subst he2;have ok:=hok rs[k] (Vs hlt);rcases ok with hnil|⟨b2,WV,had,hbb,hr2,-⟩
   ·rw[hnil]at hjl;simp at hjl
   obtain⟨q0,q1⟩:=hr2 j hjl;have z1:rs[k].rows[j].name.size<=maxLen:=(ZK.out _ (Vs hjl)).1;have YB:Hid (∀q∈rs[k].rows[j].rows,q.e.fits):=(ZK.out _ (Vs hjl)).2.2;have Yf:Hid (∀q∈rs[k].rows[j].rows,q.e.light):=(HLR.out _ (Vs hjl)).2;have h15:rs[k].rows[j].rows.length<=15:=(HER.out _ (Vs hjl)).1;have HKR:Hid (∀e∈rs[k].rows[j].rows,fo rs[k].rows[j].rows.length e.e.kids):=(HER.out _ (Vs hjl)).2;have HOE:Hid (jo w rs[k].rows[j].ad rs[k].rows[j].rows):=F5.mem (HS.out.mem (Vs hlt)) (Vs hjl);have hj1:=bI j;have hj2:(j:Int)<(rs[k].rows.length:Int):=by omega
   obtain⟨n2,M2,hG2,hn2,hE2,hC7⟩:=HG.out;obtain⟨E2,hE2d⟩:=eQx (E1++jF (ae rs) rs[k].name (rs[k].rows.take j));rw[<-hE2d]at hG2 hE2;have HE2D:Hid (E2=E1++jF (ae rs) rs[k].name (rs[k].rows.take j)):=hE2d;obtain⟨W2,hW2⟩:=eQx (wr.alloc (.cells #[.string rs[k].rows[j].name,.slice rs[k].rows[j].ad rs[k].rows[j].rows.length rs[k].rows[j].cap] 39));have hal:ag wr W2:=by rw[hW2];exact(Vv _ _).alloc (Vu _) _
   have hbn2:w.heap.size<wr.heap.size:=hG2.map.lt;have hC9:Cel W2 M2 w.heap.size wr.heap.size 0 (.string rs[k].rows[j].name):=⟨by rw[hW2];simp,by rw[hW2];simp,hG2.fresh (Vu _),by omega⟩;have hC9b:Cel W2 M2 w.heap.size wr.heap.size 1 (.slice rs[k].rows[j].ad rs[k].rows[j].rows.length rs[k].rows[j].cap):=⟨by rw[hW2];simp,by rw[hW2];simp,hG2.fresh (Vu _),by omega⟩;have HC7:Hid (Cel W2 M2 w.heap.size g7 0 (.string rs[k].name)):=hC7.stl (Stl.below hal);have HC9:Hid (Cel W2 M2 w.heap.size wr.heap.size 0 (.string rs[k].rows[j].name)):=hC9;have HC9b:=az hC9b;have HG2:=az (hG2.below hal);have HB2:=iX HB hal;rw[had];clear hr hok hr2 hG2 hC7 hC9 hC9b hal HG HB hE2d;go_wp2_with fail;rw[<-hW2];clear hW2 q0 q1;refine(Cv rs[k].rows[j].ad rs[k].rows[j].cap rs[k].rows[j].rows _ (by omega) (HOE.out.below HB2.out) Yf.out HKR.out).mono ?_;rintro e w3 ⟨rfl,Yn⟩;obtain⟨g9,hg9⟩:=eQx wr.heap.size;rw[<-hg9]at HC9 HC9b hbn2 ⊢;have HB3:Hid (ag w w3):=HB2.out.trans (Yn.below.mono HB2.out.size);have Zt:=az (HG2.out.below Yn.below);have HCC:Hid (Cel w3 M2 w.heap.size g7 0 (.string rs[k].name)/\Cel w3 M2 w.heap.size g9 0 (.string rs[k].rows[j].name)/\∀(i:Nat) (h:i<rs[k].rows[j].rows.length),Cel w3 M2 w.heap.size W2.heap.size i (.bool ((dB (ai rs[k].rows[j].rows)).getD i false))):=by
    refine⟨HC7.out.stl (Stl.below Yn.below),HC9.out.stl (Stl.below Yn.below),fun i hi=>⟨?_,Yn.lt,HG2.out.fresh (Vu _),?_⟩⟩
    ·have hn:i<(dB (ai rs[k].rows[j].rows)).length:=by rw[Gn,ay];exact hi
     rw[Yn.done i (by simpa[bools] using hn)];simp[bools,hn]
    have:=HG2.out.map.lt;omega
   have c9:=(HC9b.out.stl (Stl.below (bL:=w.heap.size) (M:=M2) Yn.below)).cell;obtain⟨gA,hgA⟩:=eQx W2.heap.size;rw[<-hgA]at HCC ⊢;clear Yn HC7 HC9 HC9b HG2 HB2 hg9 hgA;go_wp2_with fail;clear c9;go_loopw[36] (fun i w4=>∃m:Nat,m<=rs[k].rows[j].rows.length/\i=.int .i64 m/\Hid (∃n M,Grp w4 w.heap.size n M (E2++relE (ae rs) rs[k].name rs[k].rows[j].name (ai rs[k].rows[j].rows) m)/\n<=k*540+j*90+m*6/\(E2++relE (ae rs) rs[k].name rs[k].rows[j].name (ai rs[k].rows[j].rows) m).length<=k*540+j*90+m*6/\(Cel w4 M w.heap.size g7 0 (.string rs[k].name)/\Cel w4 M w.heap.size g9 0 (.string rs[k].rows[j].name)/\∀(i:Nat) (h:i<rs[k].rows[j].rows.length),Cel w4 M w.heap.size gA i (.bool ((dB (ai rs[k].rows[j].rows)).getD i false))))/\Hid (ag w w4)) (fun i _=>rs[k].rows[j].rows.length-(intOf i).toNat);case atStart=>exact⟨0,Vy _,rfl,⟨n2,M2,by simpa[relE] using Zt.out,by omega,by have e:relE (ae rs) rs[k].name rs[k].rows[j].name (ai rs[k].rows[j].rows) 0=[]:=rfl;rw[e,Wt];omega,HCC.out⟩,HB3⟩
   clear Zt HB3 HCC;obtain⟨m,hm,rfl,HG,HB⟩:=hrel;by_cases Xh:m<rs[k].rows[j].rows.length
   ·rcases HOE.out.below HB.out with hnil|⟨bE,offE,hadE,hbE,hrE,hok⟩
    ·rw[hnil]at Xh;simp at Xh
    obtain⟨t0,t1,t2,t3,t4⟩:=hrE m Xh;have hm1:=bI m;have hm2:(m:Int)<(rs[k].rows[j].rows.length:Int):=by omega
    have HXF:Hid (rs[k].rows[j].rows[m].e.fits):=YB.out _ (Vs Xh);have HXL:Hid (rs[k].rows[j].rows[m].e.light):=Yf.out _ (Vs Xh);obtain⟨n3,M3,hG3,hn3,hE3,hC7,hC9,hCA⟩:=HG.out;obtain⟨E3,hE3d⟩:=eQx (E2++relE (ae rs) rs[k].name rs[k].rows[j].name (ai rs[k].rows[j].rows) m);rw[<-hE3d]at hG3 hE3;have HE3D:Hid (E3=E2++relE (ae rs) rs[k].name rs[k].rows[j].name (ai rs[k].rows[j].rows) m):=hE3d;have hbn3:w.heap.size<wr.heap.size:=hG3.map.lt;obtain⟨ng,hng⟩:=eQx ((dB (ai rs[k].rows[j].rows)).getD m false);have HNG:Hid (ng=(dB (ai rs[k].rows[j].rows)).getD m false):=hng;rw[hadE];clear hng hE3d hrE;cases ng
    case' true =>
     obtain⟨W3,hW3⟩:=eQx (((wr.alloc (.cells #[.int .i64 rs[k].rows[j].rows[m].e.kind,.slice rs[k].rows[j].rows[m].adA rs[k].rows[j].rows[m].e.allow.length rs[k].rows[j].rows[m].capA,.string rs[k].rows[j].rows[m].e.over,.string rs[k].rows[j].rows[m].e.name,.slice rs[k].rows[j].rows[m].adK rs[k].rows[j].rows[m].e.kids.length rs[k].rows[j].rows[m].capK] 43)).alloc (.cells #[.string rs[k].name,.string rs[k].rows[j].name,.int .i64 1] 337)));have hal:ag wr W3:=by
      rw[hW3]
      repeat(first|exact Vv _ _|refine Below.setCell ?_ (by first|(simp;done)|(simp;omega)) _|refine Below.alloc ?_ (by first|(simp;done)|(simp;omega)) _)
     have hsz3:W3.heap.size=wr.heap.size+2:=by rw[hW3];simp
     have HB3:=iX HB hal;have Zt:=az (hG3.below hal);have HC13:Hid (Cel W3 M3 w.heap.size (wr.heap.size+1) 0 (.string rs[k].name)/\Cel W3 M3 w.heap.size (wr.heap.size+1) 1 (.string rs[k].rows[j].name)/\Cel W3 M3 w.heap.size (wr.heap.size+1) 2 (.int .i64 1)):=by
      have hfr:FreeB M3 (wr.heap.size+1):=hG3.fresh (by omega);refine⟨⟨?_,by omega,hfr,by omega⟩,⟨?_,by omega,hfr,by omega⟩,⟨?_,by omega,hfr,by omega⟩⟩
      all_goals(rw[hW3];simp)
     obtain⟨dv,hdv⟩:∃dv:Int,dv=1:=⟨_,rfl⟩;rw[<-hdv]at HC13;have HDE:Hid (dv=1):=hdv;clear hdv;have HCC:Hid (Cel W3 M3 w.heap.size g7 0 (.string rs[k].name)/\Cel W3 M3 w.heap.size g9 0 (.string rs[k].rows[j].name)/\∀(i:Nat) (h:i<rs[k].rows[j].rows.length),Cel W3 M3 w.heap.size gA i (.bool ((dB (ai rs[k].rows[j].rows)).getD i false))):=⟨hC7.stl (Stl.below hal),hC9.stl (Stl.below hal),fun i h=>(hCA i h).stl (Stl.below hal)⟩;have HXO:Hid (rs[k].rows[j].rows[m].ok W3):=(hok rs[k].rows[j].rows[m] (Vs Xh)).below hal;have hc7:=hC7.cell;have hc9:=hC9.cell;have hl7:=hC7.lt;have hl9:=hC9.lt;have hcA:=(hCA m Xh).cell;have hlA:=(hCA m Xh).lt;rw[<-HNG.out]at hcA;clear hG3 hal hC7 hC9 hCA hok HG;go_wp2_with fail;rw[<-hW3];clear hW3 t0 t1 t2 t3 t4 hc7 hc9 hl7 hl9 hcA hlA
    case' false =>
     obtain⟨W3,hW3⟩:=eQx (((wr.alloc (.cells #[.int .i64 rs[k].rows[j].rows[m].e.kind,.slice rs[k].rows[j].rows[m].adA rs[k].rows[j].rows[m].e.allow.length rs[k].rows[j].rows[m].capA,.string rs[k].rows[j].rows[m].e.over,.string rs[k].rows[j].rows[m].e.name,.slice rs[k].rows[j].rows[m].adK rs[k].rows[j].rows[m].e.kids.length rs[k].rows[j].rows[m].capK] 43)).alloc (.cells #[.string rs[k].name,.string rs[k].rows[j].name,.int .i64 0] 337)));have hal:ag wr W3:=by
      rw[hW3]
      repeat(first|exact Vv _ _|refine Below.setCell ?_ (by first|(simp;done)|(simp;omega)) _|refine Below.alloc ?_ (by first|(simp;done)|(simp;omega)) _)
     have hsz3:W3.heap.size=wr.heap.size+2:=by rw[hW3];simp
     have HB3:=iX HB hal;have Zt:=az (hG3.below hal);have HC13:Hid (Cel W3 M3 w.heap.size (wr.heap.size+1) 0 (.string rs[k].name)/\Cel W3 M3 w.heap.size (wr.heap.size+1) 1 (.string rs[k].rows[j].name)/\Cel W3 M3 w.heap.size (wr.heap.size+1) 2 (.int .i64 0)):=by
      have hfr:FreeB M3 (wr.heap.size+1):=hG3.fresh (by omega);refine⟨⟨?_,by omega,hfr,by omega⟩,⟨?_,by omega,hfr,by omega⟩,⟨?_,by omega,hfr,by omega⟩⟩
      all_goals(rw[hW3];simp)
     obtain⟨dv,hdv⟩:∃dv:Int,dv=0:=⟨_,rfl⟩;rw[<-hdv]at HC13;have HDE:Hid (dv=0):=hdv;clear hdv;have HCC:Hid (Cel W3 M3 w.heap.size g7 0 (.string rs[k].name)/\Cel W3 M3 w.heap.size g9 0 (.string rs[k].rows[j].name)/\∀(i:Nat) (h:i<rs[k].rows[j].rows.length),Cel W3 M3 w.heap.size gA i (.bool ((dB (ai rs[k].rows[j].rows)).getD i false))):=⟨hC7.stl (Stl.below hal),hC9.stl (Stl.below hal),fun i h=>(hCA i h).stl (Stl.below hal)⟩;have HXO:Hid (rs[k].rows[j].rows[m].ok W3):=(hok rs[k].rows[j].rows[m] (Vs Xh)).below hal;have hc7:=hC7.cell;have hc9:=hC9.cell;have hl7:=hC7.lt;have hl9:=hC9.lt;have hcA:=(hCA m Xh).cell;have hlA:=(hCA m Xh).lt;rw[<-HNG.out]at hcA;clear hG3 hal hC7 hC9 hCA hok HG;go_wp2_with fail;rw[<-hW3];clear hW3 t0 t1 t2 t3 t4 hc7 hc9 hl7 hl9 hcA hlA
    all_goals
     refine(Hl bT nT rs (some ⟨b,off,none⟩) T rs[k].name rs[k].rows[j].rows[m] _ (HV.out.below HB3.out) HT.out (HS.out.below HB3.out) HL.out WT.out z0 HXF.out HXL.out HXO.out).mono ?_;rintro e w5 ⟨⟨Yg,cpO,rfl,hSO,hNO⟩,hb5⟩;obtain⟨ks,hks⟩:=eQx (jE (ae rs) rs[k].name rs[k].rows[j].rows[m].e);rw[<-hks]at hSO ⊢;have HKS:Hid (ks=jE (ae rs) rs[k].name rs[k].rows[j].rows[m].e):=hks;have hkl6:ks.length<=6:=by rw[hks];exact DW rs HA6.out _ _ (HA6.out _ (Vs hlt) _ (Vs hjl) _ (Vs Xh))
     have HKF:Hid (∀a∈ks,a.t.size<=maxLen/\a.s.size<=maxLen):=by show ∀_,_;rw[hks];exact Ki rs WT.out _ z0 _ HXF.out
     obtain⟨g13,Z7⟩:=eQx (wr.heap.size+1);have Xg:=iX HB3 hb5;have Yv:=az (Zt.out.below hb5);have hS5:Stl W3 M3 w5 M3 w.heap.size:=Stl.below hb5;have HC5:Hid (Cel w5 M3 w.heap.size g7 0 (.string rs[k].name)/\Cel w5 M3 w.heap.size g9 0 (.string rs[k].rows[j].name)/\∀(i:Nat) (h:i<rs[k].rows[j].rows.length),Cel w5 M3 w.heap.size gA i (.bool ((dB (ai rs[k].rows[j].rows)).getD i false))):=⟨HCC.out.1.stl hS5,HCC.out.2.1.stl hS5,fun i h=>(HCC.out.2.2 i h).stl hS5⟩;have HD5:Hid (Cel w5 M3 w.heap.size g13 0 (.string rs[k].name)/\Cel w5 M3 w.heap.size g13 1 (.string rs[k].rows[j].name)/\Cel w5 M3 w.heap.size g13 2 (.int .i64 dv)):=by rw[Z7];exact⟨HC13.out.1.stl hS5,HC13.out.2.1.stl hS5,HC13.out.2.2.stl hS5⟩
     have Xa:Hid (ks=[] \/ ∃gO XD,Yg=some ⟨gO,XD,none⟩/\∀(i:Nat) (h:i<ks.length),Cel w5 M3 w.heap.size gO (XD+i*2) (.string ks[i].t)/\Cel w5 M3 w.heap.size gO (XD+i*2+1) (.string ks[i].s)):=by
      rcases hSO with e|⟨gO,XD,e,hgO,hcO⟩
      ·exact .inl e
      have hN:=hNO _ e;have Zy:=Zt.out.map.lt;have hfr:FreeB M3 gO:=Zt.out.fresh hN;refine .inr ⟨gO,XD,e,fun i hi=>⟨⟨(hcO i hi).1,hgO,hfr,?_⟩,⟨(hcO i hi).2,hgO,hfr,?_⟩⟩⟩
      all_goals(simp only at hN;omega)
     rw[<-Z7];clear hb5 hSO hNO hks hS5 HC13 HCC Zt HB3 HXO Z7;go_wp2_with fail;go_loopw[58] (fun i w6=>∃q:Nat,q<=ks.length/\i=.int .i64 q/\Hid (∃n M,Grp w6 w.heap.size n M (E3++(ks.take q).map (fun a:Al=>(((a.t,a.s),⟨rs[k].name,rs[k].rows[j].name,dv⟩):Ky×St)))/\n<=k*540+j*90+m*6+q/\(E3++(ks.take q).map (fun a:Al=>(((a.t,a.s),⟨rs[k].name,rs[k].rows[j].name,dv⟩):Ky×St))).length<=k*540+j*90+m*6+q/\(Cel w6 M w.heap.size g7 0 (.string rs[k].name)/\Cel w6 M w.heap.size g9 0 (.string rs[k].rows[j].name)/\∀(i:Nat) (h:i<rs[k].rows[j].rows.length),Cel w6 M w.heap.size gA i (.bool ((dB (ai rs[k].rows[j].rows)).getD i false)))/\(Cel w6 M w.heap.size g13 0 (.string rs[k].name)/\Cel w6 M w.heap.size g13 1 (.string rs[k].rows[j].name)/\Cel w6 M w.heap.size g13 2 (.int .i64 dv))/\(ks=[] \/ ∃gO XD,Yg=some ⟨gO,XD,none⟩/\∀(i:Nat) (h:i<ks.length),Cel w6 M w.heap.size gO (XD+i*2) (.string ks[i].t)/\Cel w6 M w.heap.size gO (XD+i*2+1) (.string ks[i].s)))/\Hid (ag w w6)) (fun i _=>ks.length-(intOf i).toNat);case atStart=>exact⟨0,Vy _,rfl,⟨n3,M3,by simpa using Yv.out,by omega,by simpa using hE3,HC5.out,HD5.out,Xa.out⟩,Xg⟩
     clear Yv Xg HC5 HD5 Xa HB;obtain⟨q,hq,rfl,HG,HB⟩:=hrel;by_cases hql:q<ks.length
     ·obtain⟨n6,M6,hG6,hn6,hE6,hC6,hD6,hO6⟩:=HG.out;rcases hO6 with hnil|⟨gO,XD,hadO,hcO⟩
      ·rw[hnil]at hql;simp at hql
      have x0:=(hcO q hql).1.cell;have x1:=(hcO q hql).2.cell;have y0:=hD6.1.cell;have y1:=hD6.2.1.cell;have y2:=hD6.2.2.cell;have yl:=hD6.1.lt;have hq1:=bI q;have hq2:(q:Int)<(ks.length:Int):=by omega
      obtain⟨E6,hE6d⟩:=eQx (E3++(ks.take q).map (fun a:Al=>(((a.t,a.s),⟨rs[k].name,rs[k].rows[j].name,dv⟩):Ky×St)));rw[<-hE6d]at hG6 hE6;have HE6D:Hid (E6=E3++(ks.take q).map (fun a:Al=>(((a.t,a.s),⟨rs[k].name,rs[k].rows[j].name,dv⟩):Ky×St))):=hE6d;obtain⟨W6,YH⟩:=eQx (((wr.alloc (.cells #[.string ks[q].t,.string ks[q].s] 146)).alloc (.cells #[.string rs[k].name,.string rs[k].rows[j].name,.int .i64 dv] 337)));have hal:ag wr W6:=by
       rw[YH]
       repeat(first|exact Vv _ _|refine Below.alloc ?_ (by first|(simp;done)|(simp;omega)) _)
      have hsz6:W6.heap.size=wr.heap.size+2:=by rw[YH];simp
      have ZR:=iX HB hal;have HG6:=az (hG6.below hal);have HNB:Hid (W6.heap[wr.heap.size+1]?=some (.cells #[.string rs[k].name,.string rs[k].rows[j].name,.int .i64 dv] 337)):=by show _=_;rw[YH];exact xU wr _ _
      have hbn6:w.heap.size<wr.heap.size:=hG6.map.lt;have HS6:Hid (Stl wr M6 W6 M6 w.heap.size):=Stl.below hal;have HCK:Hid ((Cel wr M6 w.heap.size g7 0 (.string rs[k].name)/\Cel wr M6 w.heap.size g9 0 (.string rs[k].rows[j].name)/\∀(i:Nat) (h:i<rs[k].rows[j].rows.length),Cel wr M6 w.heap.size gA i (.bool ((dB (ai rs[k].rows[j].rows)).getD i false)))/\(Cel wr M6 w.heap.size g13 0 (.string rs[k].name)/\Cel wr M6 w.heap.size g13 1 (.string rs[k].rows[j].name)/\Cel wr M6 w.heap.size g13 2 (.int .i64 dv))/\(ks=[] \/ ∃gO XD,Yg=some ⟨gO,XD,none⟩/\∀(i:Nat) (h:i<ks.length),Cel wr M6 w.heap.size gO (XD+i*2) (.string ks[i].t)/\Cel wr M6 w.heap.size gO (XD+i*2+1) (.string ks[i].s))):=⟨hC6,hD6,.inr ⟨gO,XD,hadO,hcO⟩⟩;have hzz:=HKF.out _ (Vs hql);obtain⟨kl,hkl⟩:=jN (ks[q].t,ks[q].s) hzz.1 hzz.2;have XP:Hid (keyOf prog 146 (dw (ks[q].t,ks[q].s))=some kl):=hkl;have hLL:=DX E6 (ks[q].t,ks[q].s);have hn6b:n6<100000:=by omega
      have hLb:(lookL E6 (ks[q].t,ks[q].s)).length<100000:=by omega
      have Z4:Hid (W6.heap.size=wr.heap.size+2):=hsz6;rw[hadO];clear hal hG6 hC6 hD6 hcO hkl HG hE6d hzz hLL hsz6
      go_wp2_with (first
       | (at_builtin;refine wpList_append_own_at _ rfl _ _ 335 rfl (w.heap.size+1) 337 i0 _ 3 40 underlying335 hi hz0 hz1 hz2 rfl (by decide) _ _ _ rfl ((wu HG6.out (ks[q].t,ks[q].s)).kept Zk (.inr (Ne.symm (Qm HG6.out (ks[q].t,ks[q].s))))) ⟨wr.heap.size+1,0,none⟩ 1 1 [.string rs[k].name,.string rs[k].rows[j].name,.int .i64 dv] rfl rfl (World.news_of_block (cs:=#[.string rs[k].name,.string rs[k].rows[j].name,.int .i64 dv]) (t:=337) (fr:=(0,0)) ((Zk.block (wr.heap.size+1) (by rw[Z4.out];omega) (by simp;omega)).trans HNB.out)) (by simp[Value.oneCell']) (by unfold maxLen;omega) (by omega) (by have h1:=Zk.size;rw[Z4.out]at h1;omega) ?_;intro v' w8 Z9 Zz hnil8 hloc8)
       | (rw[<-YH];refine Cn _ rfl _ _ 261 rfl 146 335 Lj uV underlying261 Kj w.heap.size n6 M6 rfl HG6.out.map (by unfold maxLen;omega) (ks[q].t,ks[q].s) kl rfl XP.out ?_;intro st7 w7 Zk hback;clear YH x0 x1 y0 y1 y2)
       | (refine ui _ rfl _ _ _ 261 rfl w.heap.size st7 rfl rfl v' rfl 146 (n6+1) (lI M6 (ks[q].t,ks[q].s) (some v')) (hback w8 v' (Zz.block w.heap.size (by have h1:=Zk.size;rw[Z4.out]at h1;omega) (Qm HG6.out (ks[q].t,ks[q].s)))) ?_;intro w9 hM9 hg9))
      have hst:=HG6.out.step (s:=(⟨rs[k].name,rs[k].rows[j].name,dv⟩:St)) Zk Z9 Zz hloc8 hg9 hM9;have HBN:Hid (ag w w9):=by
       have hs1:=ZR.out.size;have b7:ag w w7:=ZR.out.grown Zk hs1 (fun i hi=>by injection hi with hi;omega);have b8:ag w w8:=b7.grown Zz b7.size (fun i hi=>by have:=((wu HG6.out (ks[q].t,ks[q].s)).lt i hi).1;omega);exact b8.grown hg9 b8.size (fun i hi=>by injection hi with hi;omega)
      have HGN:Hid (∃n M,Grp w9 w.heap.size n M (E3++(ks.take (q+1)).map (fun a:Al=>(((a.t,a.s),⟨rs[k].name,rs[k].rows[j].name,dv⟩):Ky×St)))/\n<=k*540+j*90+m*6+(q+1)/\(E3++(ks.take (q+1)).map (fun a:Al=>(((a.t,a.s),⟨rs[k].name,rs[k].rows[j].name,dv⟩):Ky×St))).length<=k*540+j*90+m*6+(q+1)/\(Cel w9 M w.heap.size g7 0 (.string rs[k].name)/\Cel w9 M w.heap.size g9 0 (.string rs[k].rows[j].name)/\∀(i:Nat) (h:i<rs[k].rows[j].rows.length),Cel w9 M w.heap.size gA i (.bool ((dB (ai rs[k].rows[j].rows)).getD i false)))/\(Cel w9 M w.heap.size g13 0 (.string rs[k].name)/\Cel w9 M w.heap.size g13 1 (.string rs[k].rows[j].name)/\Cel w9 M w.heap.size g13 2 (.int .i64 dv))/\(ks=[] \/ ∃gO XD,Yg=some ⟨gO,XD,none⟩/\∀(i:Nat) (h:i<ks.length),Cel w9 M w.heap.size gO (XD+i*2) (.string ks[i].t)/\Cel w9 M w.heap.size gO (XD+i*2+1) (.string ks[i].s))):=by
       have hS9:=HS6.out.trans hst.2;have e:E3++(ks.take (q+1)).map (fun a:Al=>(((a.t,a.s),⟨rs[k].name,rs[k].rows[j].name,dv⟩):Ky×St))=E6++[((ks[q].t,ks[q].s),(⟨rs[k].name,rs[k].rows[j].name,dv⟩:St))]:=by
        rw[Vx hql,Wl,<-VY,<-HE6D.out];rfl
       obtain⟨k1,k2,k3⟩:=HCK.out;refine⟨n6+1,_,by rw[e];exact hst.1,by omega,by rw[e,VD];simp;omega,⟨k1.1.stl hS9,k1.2.1.stl hS9,fun i h=>(k1.2.2 i h).stl hS9⟩,⟨k2.1.stl hS9,k2.2.1.stl hS9,k2.2.2.stl hS9⟩,?_⟩;rcases k3 with hnil|⟨gO',offO',e1,hc⟩
       ·exact .inl hnil
       exact .inr ⟨gO',offO',e1,fun i h=>⟨(hc i h).1.stl hS9,(hc i h).2.stl hS9⟩⟩
      clear hst Zk hback Z9 Zz hnil8 hloc8 hg9 hM9;go_wp2;go_roundw;case rel=>exact⟨q+1,by omega,by go_num,(by rw[hadO]at HGN;exact HGN),HBN⟩
      simp[intOf]<;>omega
     obtain rfl:q=ks.length:=by omega
     have HGN:Hid (∃n M,Grp wr w.heap.size n M (E2++relE (ae rs) rs[k].name rs[k].rows[j].name (ai rs[k].rows[j].rows) (m+1))/\n<=k*540+j*90+(m+1)*6/\(E2++relE (ae rs) rs[k].name rs[k].rows[j].name (ai rs[k].rows[j].rows) (m+1)).length<=k*540+j*90+(m+1)*6/\(Cel wr M w.heap.size g7 0 (.string rs[k].name)/\Cel wr M w.heap.size g9 0 (.string rs[k].rows[j].name)/\∀(i:Nat) (h:i<rs[k].rows[j].rows.length),Cel wr M w.heap.size gA i (.bool ((dB (ai rs[k].rows[j].rows)).getD i false)))):=by
      obtain⟨n,M,h1,hn,h2,h3,-,-⟩:=HG.out;rw[VI]at h1 h2;have e:E2++relE (ae rs) rs[k].name rs[k].rows[j].name (ai rs[k].rows[j].rows) (m+1)=E3++ks.map (fun a:Al=>(((a.t,a.s),⟨rs[k].name,rs[k].rows[j].name,dv⟩):Ky×St)):=by
       rw[DV _ _ _ _ _ Xh _ HNG.out,<-VY,<-HE3D.out,HKS.out,HDE.out];rfl
      refine⟨n,M,by rw[e];exact h1,by omega,by rw[e];omega,h3⟩
     clear HG;go_wp2;go_roundw;case rel=>exact⟨m+1,by omega,by go_num,HGN,HB⟩
     simp[intOf]<;>omega
   obtain rfl:m=rs[k].rows[j].rows.length:=by omega
   have HGN:Hid (∃n M,Grp wr w.heap.size n M (E1++jF (ae rs) rs[k].name (rs[k].rows.take (j+1)))/\n<=k*540+(j+1)*90/\(E1++jF (ae rs) rs[k].name (rs[k].rows.take (j+1))).length<=k*540+(j+1)*90/\Cel wr M w.heap.size g7 0 (.string rs[k].name)):=by
    obtain⟨n,M,h1,hn,h2,h3⟩:=HG.out;have e:E1++jF (ae rs) rs[k].name (rs[k].rows.take (j+1))=E2++relE (ae rs) rs[k].name rs[k].rows[j].name (ai rs[k].rows[j].rows) rs[k].rows[j].rows.length:=by
     rw[Kg _ _ _ _ hjl,<-VY,<-HE2D.out]
    refine⟨n,M,?_,by omega,?_,h3.1⟩
    ·rw[e];exact h1
    rw[e];omega
   go_wp2;go_roundw;case rel=>exact⟨j+1,by omega,by go_num,HGN,HB⟩
   simp[intOf]<;>omega
  obtain rfl:j=rs[k].rows.length:=by omega
  have HGN:Hid (∃n M,Grp wr w.heap.size n M (jG (ae rs) (rs.take (k+1)))/\n<=(k+1)*540/\(jG (ae rs) (rs.take (k+1))).length<=(k+1)*540):=by
   obtain⟨n,M,h1,hn,h2,h3⟩:=HG.out;rw[VI]at h1 h2;have e:jG (ae rs) (rs.take (k+1))=E1++jF (ae rs) rs[k].name rs[k].rows:=by rw[Kh _ _ _ hlt,<-HE1D.out]
   refine⟨n,M,?_,by omega,?_⟩
   ·rw[e];exact h1
   rw[e];omega
  go_wp2;go_roundw;case rel=>exact⟨k+1,by omega,by go_num,HGN,HB⟩
  simp[intOf]<;>omega
 obtain rfl:k=rs.length:=by omega
 have HGN:Hid (∃n M,Grp wr w.heap.size n M (jG (ae rs) rs)):=by
  obtain⟨n,M,h1,-⟩:=HG.out;rw[VI]at h1;exact⟨n,M,h1⟩
 go_wp2;go_ret;exact⟨rfl,HGN.out,HB.out⟩
def Edge(ts:Q0b)(E:List (Ky×St)):Prop:=∀on t r s,(on,⟨t,r,s⟩)∈E↔(t,r)∈au ts/\∃d∈fZ ts (t,r),(d.typ,d.rel)=on/\stepOf d=s
def xV:Option Int->Int
 | none=>0
 | some x=>x+1
def oP(N:Nat)(σ:Ky->Option Int):List Ky->Int
 | []=>0
 | k::ks=>((N:Int)-xV (σ k))+oP N σ ks
structure Rz(ts:Q0b)(N:Nat)(σ:Ky->Option Int):Prop where
 there:∀k x,σ k=some x->k∈au ts/\0<=x/\x<N/\qQ ts k x
def Jd(σ:Ky->Option Int)(k:Ky)(x:Int):Ky->Option Int:=fun y=>if y=k then some x else σ y
theorem oQ(σ:Ky->Option Int)(k:Ky)(x:Int):Jd σ k x k=some x:=by simp[Jd]
theorem sF{σ:Ky->Option Int}{k y:Ky}{x:Int}(h:y≠k):Jd σ k x y=σ y:=by simp[Jd,h]
theorem Rz.val{ts:Q0b}{N:Nat}{σ:Ky->Option Int}(h:Rz ts N σ)(k:Ky):0<=xV (σ k)/\xV (σ k)<=N:=by
 cases e:σ k with
 | none=>simp[xV]
 | some x=>have:=h.there k x e;simp only[xV];omega
theorem Rz.mu_pos{ts:Q0b}{N:Nat}{σ:Ky->Option Int}(h:Rz ts N σ)(ks:List Ky):0<=oP N σ ks:=by
 induction ks with
 | nil=>simp[oP]
 | cons k ks ih=>have:=h.val k;simp only[oP];omega
theorem Rz.set{ts:Q0b}{N:Nat}{σ:Ky->Option Int}(h:Rz ts N σ){k:Ky}{x:Int}(hk:k∈au ts)(h0:0<=x)(hN:x<N)(hl:qQ ts k x):Rz ts N (Jd σ k x):=⟨fun y z hz=>by
 by_cases e:y=k
 ·subst e;rw[oQ]at hz;injection hz with hz;subst hz;exact⟨hk,h0,hN,hl⟩
 rw[sF e]at hz;exact h.there y z hz⟩
def ww(σ σ':Ky->Option Int):Prop:=∀k x,σ k=some x->∃y,σ' k=some y/\x<=y
theorem ww.refl(σ:Ky->Option Int):ww σ σ:=fun _ x h=>⟨x,h,Int.le_refl _⟩
theorem ww.trans{a b c:Ky->Option Int}(h:ww a b)(h2:ww b c):ww a c:=fun k x hx=>by
 obtain⟨y,hy,h3⟩:=h k x hx;obtain⟨z,hz,h4⟩:=h2 k y hy;exact⟨z,hz,by omega⟩
theorem ww.val{σ σ':Ky->Option Int}{ts:Q0b}{N:Nat}(h:ww σ σ')(hR:Rz ts N σ')(k:Ky):xV (σ k)<=xV (σ' k):=by
 cases e:σ k with
 | none=>exact(hR.val k).1
 | some x=>obtain⟨y,hy,h2⟩:=h k x e;rw[hy];simp only[xV];omega
theorem ww.mu{σ σ':Ky->Option Int}{ts:Q0b}{N:Nat}(h:ww σ σ')(hR:Rz ts N σ')(ks:List Ky):oP N σ' ks<=oP N σ ks:=by
 induction ks with
 | nil=>exact Int.le_refl _
 | cons k ks ih=>have:=h.val hR k;simp only[oP];omega
theorem zy{σ:Ky->Option Int}{k:Ky}{x:Int}(h:∀y,σ k=some y->y<x):ww σ (Jd σ k x):=fun y z hz=>by
 by_cases e:y=k
 ·subst e;exact⟨x,oQ _ _ _,by have:=h z hz;omega⟩
 exact⟨z,by rw[sF e];exact hz,Int.le_refl _⟩
theorem UZ{σ:Ky->Option Int}{ts:Q0b}{N:Nat}{k:Ky}{x:Int}(hR:Rz ts N (Jd σ k x))(h:∀y,σ k=some y->y<x)(h0:0<=x)(ks:List Ky)(hk:k∈ks):oP N (Jd σ k x) ks+1<=oP N σ ks:=by
 induction ks with
 | nil=>cases hk
 | cons y ks ih =>
  simp only[oP];have hm:=(zy h).mu hR ks;have hv:=(zy h).val hR y;rcases VL.1 hk with rfl|hk
  ·have:xV (σ k)+1<=xV (Jd σ k x k):=by
    rw[oQ];cases e:σ k with
    | none=>simp only[xV];omega
    | some z=>have:=h z e;simp only[xV];omega
   omega
  have:=ih hk;omega
def sG(E:List (Ky×St))(σ:Ky->Option Int)(k:Ky):Prop:=∀x,σ k=some x->∀s∈lookL E k,∃y,σ s.key=some y/\x+s.n<=y
structure Raised(E:List (Ky×St))(σ σ':Ky->Option Int):Prop where
 mono:ww σ σ'
 done:∀k,(sG E σ k\/σ' k≠σ k)->sG E σ' k
theorem Raised.refl(E:List (Ky×St))(σ:Ky->Option Int):Raised E σ σ:=⟨ww.refl _,fun _ h=>h.elim id (fun e=>absurd rfl e)⟩
theorem Raised.trans{E:List (Ky×St)}{a b c:Ky->Option Int}(h:Raised E a b)(h2:Raised E b c):Raised E a c:=⟨h.mono.trans h2.mono,fun k hk=>by
 by_cases e:c k=b k
 ·by_cases e2:b k=a k
  ·rcases hk with hk|hk
   ·exact h2.done k (.inl (h.done k (.inl hk)))
   exact absurd (e.trans e2) hk
  exact h2.done k (.inl (h.done k (.inr e2)))
 exact h2.done k (.inr e)⟩
structure Half(E:List (Ky×St))(σ:Ky->Option Int)(key:Ky)(x:Int)(j:Nat)(σ':Ky->Option Int):Prop where
 mono:ww σ σ'
 done:∀k,k≠key->(sG E σ k\/σ' k≠σ k)->sG E σ' k
 own:sG E σ' key\/(σ' key=some x/\∀s∈(lookL E key).take j,∃y,σ' s.key=some y/\x+s.n<=y)
 at':∃y,σ' key=some y/\x<=y
theorem Half.start{E:List (Ky×St)}{σ:Ky->Option Int}{key:Ky}{x:Int}(h:∀y,σ key=some y->y<x):Half E σ key x 0 (Jd σ key x) where
 mono:=zy h
 done k hk hs:=by
  have e:Jd σ key x k=σ k:=sF hk;rcases hs with hs|hs
  ·intro z hz s hm;rw[e]at hz;obtain⟨y,hy,hle⟩:=hs z hz s hm;obtain⟨y',hy',h2⟩:=zy h _ y hy;exact⟨y',hy',by omega⟩
  exact absurd e hs
 own:=.inr ⟨oQ _ _ _,fun s hs=>by simp at hs⟩
 at':=⟨x,oQ _ _ _,Int.le_refl _⟩
theorem Half.step{E:List (Ky×St)}{σ σ1 σ2:Ky->Option Int}{key:Ky}{x:Int}{j:Nat}(h:Half E σ key x j σ1)(hj:j<(lookL E key).length)(hR:Raised E σ1 σ2)(hy:∃y,σ2 (lookL E key)[j].key=some y/\x+(lookL E key)[j].n<=y):Half E σ key x (j+1) σ2 where
 mono:=h.mono.trans hR.mono
 done k hk hs:=by
  by_cases e:σ2 k=σ1 k
  ·by_cases e2:σ1 k=σ k
   ·rcases hs with hs|hs
    ·exact hR.done k (.inl (h.done k hk (.inl hs)))
    exact absurd (e.trans e2) hs
   exact hR.done k (.inl (h.done k hk (.inr e2)))
  exact hR.done k (.inr e)
 own:=by
  rcases h.own with ho|⟨h1,h2⟩
  ·exact .inl (hR.done key (.inl ho))
  by_cases e:σ2 key=σ1 key
  ·refine .inr ⟨e.trans h1,fun s hs=>?_⟩;rw[Vx hj]at hs;rcases VJ.1 hs with hs|hs
   ·obtain⟨y,hy1,hy2⟩:=h2 s hs;obtain⟨z,hz,h3⟩:=hR.mono _ y hy1;exact⟨z,hz,by omega⟩
   simp at hs;subst hs;exact hy
  exact .inl (hR.done key (.inr e))
 at':=by
  obtain⟨y,hy,h1⟩:=h.at';obtain⟨z,hz,h2⟩:=hR.mono key y hy;exact⟨z,hz,by omega⟩
theorem Half.full{E:List (Ky×St)}{σ σ':Ky->Option Int}{key:Ky}{x:Int}{j:Nat}(h:Half E σ key x j σ')(hj:(lookL E key).length<=j):Raised E σ σ' where
 mono:=h.mono
 done k hk:=by
  by_cases e:k=key
  ·subst e;rcases h.own with ho|⟨h1,h2⟩
   ·exact ho
   intro z hz s hs;rw[h1]at hz;injection hz with hz;subst hz;exact h2 s (by rw[VZ hj];exact hs)
  exact h.done k e hk
theorem Fw{ts:Q0b}{N:Nat}{E:List (Ky×St)}{σ:Ky->Option Int}(hE:Edge ts E)(hF:Found ts)(hR:Rz ts N σ)(hall:∀k∈au ts,∃x,σ k=some x)(hs:∀k,sG E σ k):Least ts (fun k=>(σ k).getD 0) where
 sol:=⟨fun k=>by
   cases e:σ k with
   | none=>exact Int.le_refl _
   | some x=>exact(hR.there k x e).2.1,fun k hk d hd=>by
   obtain⟨x,hx⟩:=hall _ (hF k hk d hd);have hm:(⟨k.1,k.2,stepOf d⟩:St)∈lookL E (d.typ,d.rel):=mem_lookL.2 ((hE _ _ _ _).2 ⟨hk,d,hd,rfl,rfl⟩);obtain⟨y,hy,h2⟩:=hs _ x hx _ hm;have hy':σ k=some y:=hy;simp only[hx,hy',Wn];exact h2⟩
 low k hk:=by
  obtain⟨x,hx⟩:=hall k hk;simp only[hx,Wn];exact(hR.there k x hx).2.2.2
theorem Edge.low{ts:Q0b}{E:List (Ky×St)}(hE:Edge ts E){k:Ky}{x:Int}(hl:qQ ts k x){s:St}(hs:s∈lookL E k):s.key∈au ts/\qQ ts s.key (x+s.n)/\0<=s.n/\s.n<=1:=by
 obtain⟨h1,d,hd,e1,e2⟩:=(hE k s.typ s.rel s.n).1 (mem_lookL.1 hs);have:=Ab d;refine⟨h1,?_,by omega,by omega⟩;rw[<-e2];exact qQ.step h1 hd (by rw[e1];exact hl)
def jl(σ:Ky->Option Int):Ky->Option Value:=fun k=>(σ k).map fun x=>Value.int .i64 x
theorem Sb(σ:Ky->Option Int)(k:Ky)(x:Int):lI (jl σ) k (some (.int .i64 x))=jl (Jd σ k x):=by
 funext y
 unfold jl;by_cases e:y=k
 ·subst e;rw[eQ,oQ];rfl
 rw[bZ e,sF e]
theorem wy(u:af):(zeroValue 2).run prog u=.ok (.int .i64 0) u:=by kernel_rfl
def Fx(gS gC gL gR:Nat):Value:=.func (Fn.func 259) #[] #[.pointer (some ⟨gS,0,none⟩),.pointer (some ⟨gC,0,none⟩),.pointer (some ⟨gL,0,none⟩),.pointer (some ⟨gR,0,none⟩)]
structure Rw(w:World)(gS gC gL gR bS bL N n nL:Nat)(ML:Ky->Option Value)(E:List (Ky×St))(σ:Ky->Option Int):Prop where
 cS:w.cell? ⟨gS,0,none⟩=some (.map (some bS))
 cC:w.cell? ⟨gC,0,none⟩=some (.int .i64 N)
 cL:w.cell? ⟨gL,0,none⟩=some (.map (some bL))
 cR:w.cell? ⟨gR,0,none⟩=some (Fx gS gC gL gR)
 lS:gS<w.heap.size/\gS≠bS
 lC:gC<w.heap.size/\gC≠bS
 lL:gL<w.heap.size/\gL≠bS
 lR:gR<w.heap.size/\gR≠bS
 map:aJ dw prog 146 w bS n (jl σ)
 lean:Grp w bL nL ML E
 bne:bL≠bS
 free:FreeB ML bS
theorem kU{w w':af}{b g:Nat}(hg:w.grownBy w' (some b))(hl:g<w.heap.size/\g≠b)(o:Nat):w'.cell? ⟨g,o,none⟩=w.cell? ⟨g,o,none⟩:=VN (w:=w) (hg.block g hl.1 (fun e=>hl.2 (by injection e)))
theorem Grp.kept{w w':af}{bL n b:Nat}{M:Ky->Option Value}{E:List (Ky×St)}(h:Grp w bL n M E)(hg:w.grownBy w' (some b))(hb:bL≠b)(hf:FreeB M b):Grp w' bL n M E where
 map:=h.map.kept hg (by intro e;injection e with e;exact hb e)
 row k:=by
  rcases h.row k with e|⟨v,e,ho⟩
  ·exact .inl e
  exact .inr ⟨v,e,ho.kept hg (.inr (hf k v e))⟩
 apart:=h.apart
theorem Rw.kept{w w':af}{gS gC gL gR bS bL N n n' nL:Nat}{ML:Ky->Option Value}{E:List (Ky×St)}{σ σ':Ky->Option Int}(h:Rw w gS gC gL gR bS bL N n nL ML E σ)(hg:w.grownBy w' (some bS))(hM:aJ dw prog 146 w' bS n' (jl σ')):Rw w' gS gC gL gR bS bL N n' nL ML E σ' where
 cS:=(kU hg h.lS 0).trans h.cS
 cC:=(kU hg h.lC 0).trans h.cC
 cL:=(kU hg h.lL 0).trans h.cL
 cR:=(kU hg h.lR 0).trans h.cR
 lS:=⟨Vt h.lS.1 hg.size,h.lS.2⟩
 lC:=⟨Vt h.lC.1 hg.size,h.lC.2⟩
 lL:=⟨Vt h.lL.1 hg.size,h.lL.2⟩
 lR:=⟨Vt h.lR.1 hg.size,h.lR.2⟩
 map:=hM
 lean:=h.lean.kept hg h.bne h.free
 bne:=h.bne
 free:=h.free
theorem jH{w w':af}{b:Nat}(h:ag w w'):w.grownBy w' (some b):=⟨h.os,h.tape,h.output,h.size,fun k hk _=>h.block k hk⟩
theorem Rw.below{w w':af}{gS gC gL gR bS bL N n nL:Nat}{ML:Ky->Option Value}{E:List (Ky×St)}{σ:Ky->Option Int}(h:Rw w gS gC gL gR bS bL N n nL ML E σ)(hB:ag w w'):Rw w' gS gC gL gR bS bL N n nL ML E σ:=h.kept (jH hB) (h.map.below hB)
theorem nP{a b c:af}{r:Option Nat}(h:a.grownBy b r)(h2:b.grownBy c r):a.grownBy c r:=⟨h2.os.trans h.os,h2.tape.trans h.tape,h2.output.trans h.output,Vz h.size h2.size,fun k hk hr=>(h2.block k (Vt hk h.size) hr).trans (h.block k hk hr)⟩
def Kk(ts:Q0b)(w:World)(gS gC gL gR bS bL N n nL:Nat)(ML:Ky->Option Value)(E:List (Ky×St))(σ:Ky->Option Int)(key:Ky)(lv:Int)(e:Ending)(w':World):Prop :=
 ∃(ok:Bool) (σ':Ky->Option Int) (n':Nat),e=.returned (.bool ok)/\w.grownBy w' (some bS)/\Rw w' gS gC gL gR bS bL N n' nL ML E σ'/\Rz ts N σ'/\(n':Int)+oP N σ' (au ts)<=n+oP N σ (au ts)/\oP N σ' (au ts)<=oP N σ (au ts) /\
  (ok=false->¬ ∃f,Sol ts f)/\(ok=true->Raised E σ σ'/\∃x,σ' key=some x/\lv<=x)
set_option maxRecDepth 100000 in
theorem Nu(ts:Q0b)(gS gC gL gR bS bL N nL:Nat)(ML:Ky->Option Value)(E:List (Ky×St))(hE:Edge ts E)(hF:Found ts)(hN:N=(au ts).length)(hN36:N<=36)(hsz:∀k∈au ts,k.1.size<=maxLen/\k.2.size<=maxLen)(hEl:E.length<=100000)(f:Nat):
  ∀(w:World) (σ:Ky->Option Int) (n:Nat) (key:Ky) (lv:Int),Rw w gS gC gL gR bS bL N n nL ML E σ->Rz ts N σ->oP N σ (au ts)<=f->(n:Int)+oP N σ (au ts)<=100000->key∈au ts->0<=lv->lv<=100->qQ ts key lv ->
  Calls prog 259 #[.agg #[.string key.1,.string key.2],.int .i64 lv,.pointer (some ⟨gS,0,none⟩),.pointer (some ⟨gC,0,none⟩),.pointer (some ⟨gL,0,none⟩),.pointer (some ⟨gR,0,none⟩)] w (Kk ts w gS gC gL gR bS bL N n nL ML E σ key lv):=by
 have HE:=az hE;have HF:=az hF;have Z4:Hid (∀k∈au ts,k.1.size<=maxLen/\k.2.size<=maxLen):=hsz;have Ze:Hid (N=(au ts).length):=hN;clear hE hF hsz hN
 induction f using Nat.strongRecOn with
 | _ f ih =>
 intro w σ n key lv hR hZ hmu hnm hk h0 h1 hl;have HIH:Hid (∀m<f,_):=ih;clear ih;obtain⟨hz1,hz2⟩:=Z4.out key hk;obtain⟨kl,hkl⟩:=jN key hz1 hz2;have XP:Hid (keyOf prog 146 (dw key)=some kl):=hkl;have HR:=az hR;have HZ:=az hZ;have HLK:=az hl;have HKM:=az hk;have hmp:=hZ.mu_pos (au ts);have cS:=hR.cS;have cC:=hR.cC;have cL:=hR.cL;have lS:=hR.lS.1;have lC:=hR.lC.1;have lL:=hR.lL.1;have hbS:=hR.map.lt;have hal:ag w (w.alloc (.cells #[.string key.1,.string key.2] 146)):=(Vv _ _).alloc (Vu _) _;have Xd:=az hal;have HM1:Hid (aJ dw prog 146 (w.alloc (.cells #[.string key.1,.string key.2] 146)) bS n (jl σ)):=hR.map.below hal;have HR1:=az (hR.below hal);clear hR hZ hl hkl hal hk;by_cases hd:∃x,σ key=some x/\lv<=x
 ·obtain⟨x,hx,hle⟩:=hd;obtain⟨-,hx0,hxN,-⟩:=HZ.out.there key x hx;have hlk:jl σ key=some (.int .i64 x):=by unfold jl;rw[hx];rfl
  have HX:Hid (σ key=some x):=hx;clear hx;go_enter func259,ntmps259;go_wp2_with(at_lookup;refine dm _ rfl _ _ 169 rfl 146 2 iZ underlying169 (wy _) bS n (jl σ) rfl HM1.out key kl rfl XP.out ?_;simp only[hlk,Wn,Option.isSome_some]);go_ret;exact⟨true,σ,n,rfl,jH Xd.out,HR1.out,HZ.out,Int.le_refl _,Int.le_refl _,by simp,fun _=>⟨Raised.refl _ _,x,HX.out,hle⟩⟩
 have HLT:Hid (∀y,σ key=some y->y<lv):=fun y hy=>by
  by_cases h:lv<=y
  ·exact absurd ⟨y,hy,h⟩ hd
  omega
 clear hd;by_cases hNt:(N:Int)<=lv
 ·have Yp:Hid (¬ ∃f,Sol ts f):=Jr HF.out HKM.out HLK.out (by have:=Ze.out;omega);cases hs:σ key with
  | none =>
   have hlk:jl σ key=none:=by unfold jl;rw[hs];rfl
   clear hs;go_enter func259,ntmps259;go_wp2_with(at_lookup;refine dm _ rfl _ _ 169 rfl 146 2 iZ underlying169 (wy _) bS n (jl σ) rfl HM1.out key kl rfl XP.out ?_;simp only[hlk,Option.getD_none,Option.isSome_none]);go_ret;exact⟨false,σ,n,rfl,jH Xd.out,HR1.out,HZ.out,Int.le_refl _,Int.le_refl _,fun _=>Yp.out,by simp⟩
  | some x =>
   have hxt:x<lv:=HLT.out x hs;obtain⟨-,hx0,hxN,-⟩:=HZ.out.there key x hs;have hlk:jl σ key=some (.int .i64 x):=by unfold jl;rw[hs];rfl
   clear hs;go_enter func259,ntmps259;go_wp2_with(at_lookup;refine dm _ rfl _ _ 169 rfl 146 2 iZ underlying169 (wy _) bS n (jl σ) rfl HM1.out key kl rfl XP.out ?_;simp only[hlk,Wn,Option.isSome_some]);go_ret;exact⟨false,σ,n,rfl,jH Xd.out,HR1.out,HZ.out,Int.le_refl _,Int.le_refl _,fun _=>Yp.out,by simp⟩
 have hNt':lv<(N:Int):=by omega
 have HZ2:Hid (Rz ts N (Jd σ key lv)):=HZ.out.set HKM.out h0 hNt' HLK.out;have HMU:Hid (oP N (Jd σ key lv) (au ts)+1<=oP N σ (au ts)):=UZ HZ2.out HLT.out h0 _ HKM.out;obtain⟨adL,cpL,hvl,hrow⟩:=RH (wu HR.out.lean key);have HVL:Hid ((ML key).getD (.slice none 0 0)=.slice adL (lookL E key).length cpL):=hvl;have hll:(lookL E key).length<=100000:=Vz (DX _ _) hEl;clear hvl hrow;cases hs:σ key
 case' none =>
  have hlk:jl σ key=none:=by unfold jl;rw[hs];rfl
  clear hs;go_enter func259,ntmps259
  go_wp2_with (first
   | (at_lookup;refine dm _ rfl _ _ 169 rfl 146 2 iZ underlying169 (wy _) bS n (jl σ) rfl HM1.out key kl rfl XP.out ?_;simp only[hlk,Option.getD_none,Option.isSome_none])
   | (at_mapUpdate;refine og _ rfl _ _ _ 169 rfl 146 2 iZ uV underlying169 bS n (jl σ) rfl HM1.out (by unfold maxLen;omega) key kl rfl XP.out (.int .i64 lv) rfl ?_;intro w2 hV2 hg2;have cL2:w2.cell? ⟨gL,0,none⟩=some (.map (some bL)):=(kU hg2 HR1.out.lL 0).trans HR1.out.cL;have k0:w2.cell? ⟨w.heap.size,0,none⟩=some (.string key.1):=(kU hg2 ⟨by simp,by omega⟩ 0).trans (by simp);have k1:w2.cell? ⟨w.heap.size,1,none⟩=some (.string key.2):=(kU hg2 ⟨by simp,by omega⟩ 1).trans (by simp))
   | (at_lookup;refine jM _ rfl _ _ 261 rfl 146 335 iZ underlying261 (Kj _) bL nL ML rfl ((HR1.out.lean.kept hg2 HR1.out.bne HR1.out.free).map) key kl rfl XP.out ?_;rw[HVL.out]))
 case' some x =>
  have hxt:x<lv:=HLT.out x hs;obtain⟨-,hx0,hxN,-⟩:=HZ.out.there key x hs;have hlk:jl σ key=some (.int .i64 x):=by unfold jl;rw[hs];rfl
  clear hs;go_enter func259,ntmps259
  go_wp2_with (first
   | (at_lookup;refine dm _ rfl _ _ 169 rfl 146 2 iZ underlying169 (wy _) bS n (jl σ) rfl HM1.out key kl rfl XP.out ?_;simp only[hlk,Wn,Option.isSome_some])
   | (at_mapUpdate;refine og _ rfl _ _ _ 169 rfl 146 2 iZ uV underlying169 bS n (jl σ) rfl HM1.out (by unfold maxLen;omega) key kl rfl XP.out (.int .i64 lv) rfl ?_;intro w2 hV2 hg2;have cL2:w2.cell? ⟨gL,0,none⟩=some (.map (some bL)):=(kU hg2 HR1.out.lL 0).trans HR1.out.cL;have k0:w2.cell? ⟨w.heap.size,0,none⟩=some (.string key.1):=(kU hg2 ⟨by simp,by omega⟩ 0).trans (by simp);have k1:w2.cell? ⟨w.heap.size,1,none⟩=some (.string key.2):=(kU hg2 ⟨by simp,by omega⟩ 1).trans (by simp))
   | (at_lookup;refine jM _ rfl _ _ 261 rfl 146 335 iZ underlying261 (Kj _) bL nL ML rfl ((HR1.out.lean.kept hg2 HR1.out.bne HR1.out.free).map) key kl rfl XP.out ?_;rw[HVL.out]))
 all_goals
  have HR2:Hid (Rw w2 gS gC gL gR bS bL N (n+1) nL ML E (Jd σ key lv)):=HR1.out.kept hg2 (by rw[<-Sb];exact hV2);have HG2:Hid (w.grownBy w2 (some bS)):=nP (jH Xd.out) hg2;clear hV2 hg2 cL2 k0 k1;go_loopw[35] (fun i w3=>∃j:Nat,j<=(lookL E key).length/\i=.int .i64 j/\Hid (∃(σ3:Ky->Option Int) (n3:Nat),Half E σ key lv j σ3/\Rw w3 gS gC gL gR bS bL N n3 nL ML E σ3/\Rz ts N σ3/\(n3:Int)+oP N σ3 (au ts)<=n+oP N σ (au ts)/\oP N σ3 (au ts)+1<=oP N σ (au ts)/\w.grownBy w3 (some bS))) (fun i _=>(lookL E key).length-(intOf i).toNat);case atStart=>exact⟨0,Vy _,rfl,⟨Jd σ key lv,n+1,Half.start HLT.out,HR2.out,HZ2.out,by have:=HMU.out;push_cast;omega,HMU.out,HG2.out⟩⟩
  clear HR2 HG2 HZ2 HMU;obtain⟨j,hj,rfl,HI⟩:=hrel;by_cases hjl:j<(lookL E key).length
  ·obtain⟨σ3,n3,hH3,YZ,hZ3,hn3,hm3,hg3⟩:=HI.out;obtain⟨Xe,cp',hv',hrow'⟩:=RH (wu YZ.lean key);rw[HVL.out]at hv';injection hv' with e1 e2 e3;subst e1;rcases hrow' with h|⟨gr,WR,hgr1,WZ,hcr⟩
   ·omega
   obtain⟨st,hst⟩:=eQx ((lookL E key)[j]);have r0:wr.cell? ⟨gr,j*3,none⟩=some (.string st.typ):=hcr _ _ (by have:=lZ (lookL E key) j hjl 0 (by omega);rw[hst];simpa[St.cells] using this);have r1:wr.cell? ⟨gr,j*3+1,none⟩=some (.string st.rel):=hcr _ _ (by have:=lZ (lookL E key) j hjl 1 (by omega);rw[hst];simpa[St.cells] using this);have r2:wr.cell? ⟨gr,j*3+2,none⟩=some (.int .i64 st.n):=hcr _ _ (by have:=lZ (lookL E key) j hjl 2 (by omega);rw[hst];simpa[St.cells] using this);have HST:Hid (st=(lookL E key)[j]):=hst;obtain⟨hsk,hsl,hsn0,hsn1⟩:=HE.out.low HLK.out (s:=st) (by rw[hst];exact Vs hjl);have HSK:=az hsk;have Y4:=az hsl;have hj1:=bI j;have hj2:(j:Int)<((lookL E key).length:Int):=by omega
   have cR3:=YZ.cR;unfold Fx at cR3;have lR3:=YZ.lR.1;obtain⟨W3,hW3⟩:=eQx (wr.alloc (.cells #[.string st.typ,.string st.rel,.int .i64 st.n] 337));have hal3:ag wr W3:=by rw[hW3];exact(Vv _ _).alloc (Vu _) _
   have HR3:=az (YZ.below hal3);have Zt:Hid (w.grownBy W3 (some bS)):=nP hg3 (jH hal3);have HH3:=az hH3;have HZ3:=az hZ3;have hm3p:=hZ3.mu_pos (au ts);have HNM:Hid ((n3:Int)+oP N σ3 (au ts)<=n+oP N σ (au ts)/\oP N σ3 (au ts)+1<=oP N σ (au ts)):=⟨hn3,hm3⟩;rw[WR];clear hcr hgr1 WZ hsk hsl hst YZ hal3 hH3 hZ3 hg3 HI e2 e3;go_wp2_with fail;rw[<-hW3];clear hW3 r0 r1 r2 cR3;refine(HIH.out (oP N σ3 (au ts)).toNat (by omega) _ σ3 n3 st.key (lv+st.n) HR3.out HZ3.out (by omega) (by omega) HSK.out (by omega) (by omega) Y4.out).mono ?_;rintro e w5 ⟨ok,σ5,n5,rfl,hg5,Xz,hZ5,hn5,ZA,hf5,ht5⟩;cases ok;case false=>
    have HP:Hid (Kk ts w gS gC gL gR bS bL N n nL ML E σ key lv (.returned (.bool false)) w5):=by
     have h:=HNM.out;exact⟨false,σ5,n5,rfl,nP Zt.out hg5,Xz,hZ5,by omega,by omega,fun _=>hf5 rfl,by simp⟩
    clear hg5 Xz hZ5 hn5 ZA hf5 ht5;go_wp2;go_ret;exact HP.out
   have HI2:Hid (∃(σ3:Ky->Option Int) (n3:Nat),Half E σ key lv (j+1) σ3/\Rw w5 gS gC gL gR bS bL N n3 nL ML E σ3/\Rz ts N σ3/\(n3:Int)+oP N σ3 (au ts)<=n+oP N σ (au ts)/\oP N σ3 (au ts)+1<=oP N σ (au ts)/\w.grownBy w5 (some bS)):=by
    have h:=HNM.out;obtain⟨hRa,y,hy,hle⟩:=ht5 rfl;refine⟨σ5,n5,HH3.out.step hjl hRa ⟨y,?_,?_⟩,Xz,hZ5,by omega,by omega,nP Zt.out hg5⟩
    ·rw[<-HST.out];exact hy
    rw[<-HST.out];exact hle
   clear hg5 Xz hZ5 hn5 ZA hf5 ht5;go_wp2;go_roundw;case rel=>exact⟨j+1,by omega,by go_num,HI2⟩
   simp[intOf]<;>omega
  obtain rfl:j=(lookL E key).length:=by omega
  have HP:Hid (Kk ts w gS gC gL gR bS bL N n nL ML E σ key lv (.returned (.bool true)) wr):=by
   obtain⟨σ3,n3,hH3,YZ,hZ3,hn3,hm3,hg3⟩:=HI.out;exact⟨true,σ3,n3,rfl,hg3,YZ,hZ3,hn3,by omega,by simp,fun _=>⟨hH3.full (Vu _),hH3.at'⟩⟩
  clear HI;go_wp2;go_ret;exact HP.out
set_option linter.unusedVariables false
set_option maxRecDepth 100000
open Go.Sort
end Go.Proofs.YtojjoblnpldniaaGreat
