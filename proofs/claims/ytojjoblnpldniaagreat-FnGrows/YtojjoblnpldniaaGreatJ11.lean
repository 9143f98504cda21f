/- Contract of the program's table of relations. -/
import Derived.Test.YtojjoblnpldniaaGreatSq
import Derived.Test.YtojjoblnpldniaaGreatJ10
open Go.Proofs.Tryz
set_option maxHeartbeats 80000000
namespace Go.Proofs.YtojjoblnpldniaaGreat
open ChangeShapes WideShapes ChangeAt RowKit Maps
open Pl
def RR.sl(q:RR):Value:=.slice q.ad q.rows.length q.cap
def kZ(t:ByteArray)(M:ByteArray×ByteArray->Option Value):List RR->ByteArray×ByteArray->Option Value
 | []=>M
 | q::qs=>kZ t (jO M (t,q.name) (some q.sl)) qs
def eX(M:ByteArray×ByteArray->Option Value):List TR->ByteArray×ByteArray->Option Value
 | []=>M
 | t::ts=>eX (kZ t.name M t.rows) ts
def qd(rs:Q06):ByteArray×ByteArray->Option Value:=eX (fun _=>none) rs
theorem ES(t:bQ)(M:ByteArray×ByteArray->Option Value)(xs ys:Q07):kZ t M (xs++ys)=kZ t (kZ t M xs) ys:=by
 induction xs generalizing M with
 | nil=>rfl
 | cons q qs ih=>simp only[V9,kZ];exact ih _
theorem Aj(M:ByteArray×ByteArray->Option Value)(xs ys:Q06):eX M (xs++ys)=eX (eX M xs) ys:=by
 induction xs generalizing M with
 | nil=>rfl
 | cons q qs ih=>simp only[V9,eX];exact ih _
theorem Jy(t:bQ)(M:ByteArray×ByteArray->Option Value)(qs:Q07)(j:Nat)(h:j<qs.length):kZ t M (qs.take (j+1))=jO (kZ t M (qs.take j)) (t,qs[j].name) (some qs[j].sl):=by
 rw[Vu h,ES];rfl
theorem ET(M:ByteArray×ByteArray->Option Value)(rs:Q06)(k:Nat)(h:k<rs.length):eX M (rs.take (k+1))=kZ rs[k].name (eX M (rs.take k)) rs[k].rows:=by
 rw[Vu h,Aj];rfl
set_option maxRecDepth 100000 in
theorem qN(ad:Q02)(cap:Nat)(rs:Q06)(w:ae)(hlen:rs.length<=6)(hs:mP w ad rs)(hrl:∀r∈rs,r.rows.length<=6)(hf:∀r∈rs,r.fits):
  Calls prog 63 #[.slice ad rs.length cap] w fun e w'=>e=.returned (.map (some w.heap.size))/\aJ dU prog 146 w' w.heap.size 36 (qd rs)/\ag w w':=by
 have HS:=aC hs;have HRL:Hid (∀r∈rs,r.rows.length<=6):=hrl;have WR:=aC hf;have HM0:Hid (aJ dU prog 146 (w.alloc (.map #[] 0)) w.heap.size 0 (fun _=>none)):=lI _ _ _ w;have HB0:Hid (ag w (w.alloc (.map #[] 0))):=(Vs _ _).alloc (Vr _) _;clear hs hrl hf;have hmm:=@run_makeMap prog;go_enter func63,ntmps63;go_wp2_with fail;go_loopw[11] (fun i wr=>∃k:Nat,k<=rs.length/\i=.int .i64 k/\Hid (aJ dU prog 146 wr w.heap.size (k*6) (eX (fun _=>none) (rs.take k)))/\Hid (ag w wr)) (fun i _=>rs.length-(intOf i).toNat);case atStart=>exact⟨0,Vv _,rfl,HM0,HB0⟩
 clear HM0 HB0 hmm;obtain⟨k,hk,rfl,HM,HB⟩:=hrel;by_cases hlt:k<rs.length
 ·rcases HS.out.below HB.out with rfl|⟨b,off,rfl,hb,hr,hok⟩
  ·simp at hlt
  obtain⟨t0,t1⟩:=hr k hlt;have hk1:=bC k;have hk2:(k:Int)<(rs.length:Int):=by omega
  have h6:rs[k].rows.length<=6:=HRL.out _ (Vp hlt);have z0:rs[k].name.size<=maxLen:=(WR.out _ (Vp hlt)).1;have YQ:Hid (∀q∈rs[k].rows,q.fits):=(WR.out _ (Vp hlt)).2.2;clear hr hok;obtain⟨W1,hW1⟩:∃W1,W1=wr.alloc (.cells #[.string rs[k].name,.slice rs[k].ad rs[k].rows.length rs[k].cap] 36):=⟨_,rfl⟩;have hal:ag wr W1:=by rw[hW1];exact(Vs _ _).alloc (Vr _) _
  have YR:Hid (aJ dU prog 146 W1 w.heap.size (k*6) (eX (fun _=>none) (rs.take k))):=HM.out.below hal;have HB1:=iJ HB hal;have XC:Hid (wr.heap.size<W1.heap.size/\W1.cell? ⟨wr.heap.size,0,none⟩=some (.string rs[k].name)):=⟨by rw[hW1];simp,by rw[hW1];simp⟩;have hgw:w.heap.size<wr.heap.size:=HM.out.lt;clear HM hal;go_wp2_with fail;rw[<-hW1];clear hW1 t0 t1 HB;obtain⟨wo,hwo⟩:∃wo,wo=wr:=⟨_,rfl⟩;subst hwo;go_loopw[18] (fun i w2=>∃j:Nat,j<=rs[k].rows.length/\i=.int .i64 j/\Hid (aJ dU prog 146 w2 w.heap.size (k*6+j) (kZ rs[k].name (eX (fun _=>none) (rs.take k)) (rs[k].rows.take j)))/\Hid (ag w w2)/\Hid (wo.heap.size<w2.heap.size/\w2.cell? ⟨wo.heap.size,0,none⟩=some (.string rs[k].name))) (fun i _=>rs[k].rows.length-(intOf i).toNat);case atStart=>exact⟨0,Vv _,rfl,YR,HB1,XC⟩
  clear YR HB1 XC;obtain⟨j,hj,rfl,HM,HB,HC⟩:=hrel;by_cases hjl:j<rs[k].rows.length
  ·rcases HS.out.below HB.out with hnil|⟨b',off',he,hb2,hr,hok⟩
   ·rw[hnil]at hlt;simp at hlt
   injection he with he;injection he with he1 he2;subst he1;subst he2;have ok:=hok rs[k] (Vp hlt);rcases ok with hnil|⟨b2,Xd,had,hbb,hr2,-⟩
   ·rw[hnil]at hjl;simp at hjl
   obtain⟨q0,q1⟩:=hr2 j hjl;have z1:rs[k].rows[j].name.size<=maxLen:=(YQ.out _ (Vp hjl)).1;have hj1:=bC j;have hj2:(j:Int)<(rs[k].rows.length:Int):=by omega
   obtain⟨kl,hkl⟩:=kv (rs[k].name,rs[k].rows[j].name) z0 z1;have Xw:Hid (keyOf prog 146 (dU (rs[k].name,rs[k].rows[j].name))=some kl):=hkl;obtain⟨W2,hW2⟩:∃W2,W2=wr.alloc (.cells #[.string rs[k].rows[j].name,.slice rs[k].rows[j].ad rs[k].rows[j].rows.length rs[k].rows[j].cap] 39):=⟨_,rfl⟩;have hal:ag wr W2:=by rw[hW2];exact(Vs _ _).alloc (Vr _) _
   have Xr:Hid (aJ dU prog 146 W2 w.heap.size (k*6+j) (kZ rs[k].name (eX (fun _=>none) (rs.take k)) (rs[k].rows.take j))):=HM.out.below hal;have HB2:=iJ HB hal;have hc1:=aA hal HC.out.1 HC.out.2;have Xg:Hid (wo.heap.size<W2.heap.size/\W2.cell? ⟨wo.heap.size,0,none⟩=some (.string rs[k].name)):=⟨Vq HC.out.1 hal.size,hc1⟩;have g0:W2.cell? ⟨wr.heap.size,0,none⟩=some (.string rs[k].rows[j].name):=by rw[hW2];simp
   have g1:W2.cell? ⟨wr.heap.size,1,none⟩=some (.slice rs[k].rows[j].ad rs[k].rows[j].rows.length rs[k].rows[j].cap):=by rw[hW2];simp
   have hsz:wo.heap.size<wr.heap.size:=HC.out.1;have hc0:=HC.out.2;rw[had];clear hr hok hr2 hkl HM hal HC;go_wp2_with(first|(at_mapUpdate;rw[<-hW2];refine iK _ rfl _ _ _ 102 rfl 146 37 iY uK underlying102 w.heap.size (k*6+j) _ rfl Xr.out (by unfold maxLen;omega) (rs[k].name,rs[k].rows[j].name) kl rfl Xw.out _ rfl ?_;intro w3 hV3 hg3)|go_in);have HM4:Hid (aJ dU prog 146 w3 w.heap.size (k*6+(j+1)) (kZ rs[k].name (eX (fun _=>none) (rs.take k)) (rs[k].rows.take (j+1)))):=by
    show aJ _ _ _ _ _ _ _;rw[Jy _ _ _ _ hjl];exact hV3
   have Xt:Hid (ag w w3):=HB2.out.grown hg3 HB2.out.size (fun i hi=>by injection hi with hi;omega);have HC4:Hid (wo.heap.size<w3.heap.size/\w3.cell? ⟨wo.heap.size,0,none⟩=some (.string rs[k].name)):=⟨Vq Xg.out.1 hg3.size,by rw[hg3.cell_far _ Xg.out.1 (by simp;omega)];exact Xg.out.2⟩;clear hV3 hg3 hW2 Xr HB2 Xg g0 g1 q0 q1 hc0 hc1;go_wp2;go_roundw;case rel=>exact⟨j+1,by omega,by go_num,HM4,Xt,HC4⟩
   simp[intOf]<;>omega
  obtain rfl:j=rs[k].rows.length:=by omega
  have HM4:Hid (aJ dU prog 146 wr w.heap.size ((k+1)*6) (eX (fun _=>none) (rs.take (k+1)))):=by
   show aJ _ _ _ _ _ _ _;have:=HM.out;rw[VI]at this;rw[ET _ _ _ hlt];exact this.mono (by omega)
  clear HM;go_wp2;go_roundw;case rel=>exact⟨k+1,by omega,by go_num,HM4,HB⟩
  simp[intOf]<;>omega
 obtain rfl:k=rs.length:=by omega
 have HM4:Hid (aJ dU prog 146 wr w.heap.size 36 (qd rs)):=by
  show aJ _ _ _ _ _ _ _;have:=HM.out;rw[VI]at this;exact this.mono (by omega)
 go_wp2;go_ret;exact⟨rfl,HM4.out,HB.out⟩
theorem Tx:∀x:List UInt8,Op.bytesLess x x=false
 | []=>rfl
 | a::x=>by simp[Op.bytesLess,Tx x]
theorem Tz:∀x y z:List UInt8,Op.bytesLess x y=true->Op.bytesLess y z=true->Op.bytesLess x z=true
 | [],_,[],h,k=>by cases ‹List UInt8› <;> simp [Op.bytesLess] at h k
 | [],_,_::_,_,_=>rfl
 | _::_,[],_,h,_=>by simp[Op.bytesLess]at h
 | _::_,_::_,[],_,k=>by simp[Op.bytesLess]at k
 | a::x,b::y,c::z,h,k=>by
  simp only[Op.bytesLess,Bool.or_eq_true,Vt,VF,beq_iff_eq]at h k ⊢;rcases h with h|⟨h,h'⟩
  ·rcases k with k|⟨k,k'⟩
   ·exact .inl (UInt8.lt_trans h k)
   exact .inl (k ▸ h)
  rcases k with k|⟨k,k'⟩
  ·exact .inl (h ▸ k)
  exact .inr ⟨h.trans k,Tz x y z h' k'⟩
theorem rR{f:Nat->ByteArray}{n:Nat}(h:∀i,i+1<n->ji (f i) (f (i+1))=true):∀i j,i<j->j<n->f i≠f j:=by
 have h2:∀d i,i+d+1<n->ji (f i) (f (i+d+1))=true:=by
  intro d
  induction d with
  | zero=>intro i hi;exact h i (by omega)
  | succ d ih =>
   intro i hi;have h3:=ih i (by omega);have h4:=h (i+d+1) (by omega);exact Tz _ _ _ h3 h4
 intro i j hij hj e;have h5:=h2 (j-i-1) i (by omega);have e2:i+(j-i-1)+1=j:=by omega
 rw[e2,e]at h5;unfold ji at h5;rw[Tx]at h5;cases h5
theorem lK{rs:Q06}(h:aY (af rs)=true)(k:Nat)(hk:k<rs.length):aP rs[k].name=true/\(∀i (hi:i<rs.length),k=i+1->ji rs[i].name rs[k].name=true)/\dJ (eQ rs[k].rows) rs[k].rows.length=true:=by
 simp only[aY,Vt,VF]at h;rw[lw]at h;have h1:=o9 h.2 k hk;unfold kF at h1;have e:(af rs)[k]?=some rs[k].p:=by simp[af,hk]
 rw[e]at h1;simp only[Vt,VF]at h1;have e2:rs[k].p.rels.length=rs[k].rows.length:=by simp[TR.p,eQ]
 rw[e2]at h1;refine⟨h1.1.1.1,fun i hi hki=>?_,h1.2⟩;subst hki;have h2:=h1.1.1.2;have e3:(af rs)[i]?=some rs[i].p:=by simp[af,hi]
 simp only[e3,Option.map_some,Wd]at h2;exact h2
theorem Dl{rs:Q07}{n:Nat}(h:dJ (eQ rs) n=true)(k:Nat)(hk:k<rs.length)(hn:k<n):aP rs[k].name=true/\(∀i (hi:i<rs.length),k=i+1->ji rs[i].name rs[k].name=true)/\aK (aj rs[k].rows)=true:=by
 have h1:=o8 h k hn;unfold mg at h1;have e:(eQ rs)[k]?=some rs[k].p:=by simp[eQ,hk]
 rw[e]at h1;simp only[Vt]at h1;refine⟨h1.1.1,fun i hi hki=>?_,h1.2⟩;subst hki;have h2:=h1.1.2;have e3:(eQ rs)[i]?=some rs[i].p:=by simp[eQ,hi]
 simp only[e3,Option.map_some,Wd]at h2;exact h2
theorem GD{rs:Q06}(h:aY (af rs)=true){t t':TR}(ht:t∈rs)(ht':t'∈rs)(e:t.name=t'.name):t=t':=by
 obtain ⟨i,hi,rfl⟩:=V7.1 ht;obtain ⟨j,hj,rfl⟩:=V7.1 ht';have hne:=rR (f:=fun k=>(rs[k]?.map TR.name).getD ByteArray.empty) (n:=rs.length) (fun k hk=>by
  have h0:k<rs.length:=by omega
  simp only[Vy hk,Vy h0,Option.map_some,Wd];exact(lK h (k+1) hk).2.1 k h0 rfl)
 by_cases hij:i=j
 ·subst hij;rfl
 exfalso;rcases Nat.lt_or_gt_of_ne hij with hl|hl
 ·have:=hne i j hl hj;simp[hi,hj]at this;exact this e
 have:=hne j i hl hi;simp[hi,hj]at this;exact this e.symm
theorem GG{rs:Q07}(h:dJ (eQ rs) rs.length=true){t t':RR}(ht:t∈rs)(ht':t'∈rs)(e:t.name=t'.name):t=t':=by
 obtain ⟨i,hi,rfl⟩:=V7.1 ht;obtain ⟨j,hj,rfl⟩:=V7.1 ht';have hne:=rR (f:=fun k=>(rs[k]?.map RR.name).getD ByteArray.empty) (n:=rs.length) (fun k hk=>by
  have h0:k<rs.length:=by omega
  simp only[Vy hk,Vy h0,Option.map_some,Wd];exact(Dl h (k+1) hk hk).2.1 k h0 rfl)
 by_cases hij:i=j
 ·subst hij;rfl
 exfalso;rcases Nat.lt_or_gt_of_ne hij with hl|hl
 ·have:=hne i j hl hj;simp[hi,hj]at this;exact this e
 have:=hne j i hl hi;simp[hi,hj]at this;exact this e.symm
theorem Jz{t:ByteArray}{M:ByteArray×ByteArray->Option Value}{qs:Q07}{k:Q01}{v:Value}(h:kZ t M qs k=some v):M k=some v \/ ∃q∈qs,k=(t,q.name)/\v=q.sl:=by
 induction qs generalizing M with
 | nil=>exact .inl h
 | cons q qs ih =>
  simp only[kZ]at h;rcases ih h with h|⟨q',hq,e⟩
  ·by_cases e:k=(t,q.name)
   ·rw[e,dM]at h;injection h with h;exact .inr ⟨q,by simp,e,h.symm⟩
   rw[bG e]at h;exact .inl h
  exact .inr ⟨q',by simp[hq],e⟩
theorem xX{t:ByteArray}{M:ByteArray×ByteArray->Option Value}{qs:Q07}{k:Q01}(h:(M k).isSome=true \/ ∃q∈qs,k=(t,q.name)):(kZ t M qs k).isSome=true:=by
 induction qs generalizing M with
 | nil=>rcases h with h|⟨q,hq,-⟩;exact h;cases hq
 | cons q qs ih =>
  simp only[kZ];refine ih ?_;by_cases e:k=(t,q.name)
  ·left;rw[e,dM];rfl
  rcases h with h|⟨q',hq,e'⟩
  ·left;rw[bG e];exact h
  rcases VH.1 hq with rfl|hq
  ·exact absurd e' e
  exact .inr ⟨q',hq,e'⟩
theorem EU{M:ByteArray×ByteArray->Option Value}{rs:Q06}{k:Q01}{v:Value}(h:eX M rs k=some v):M k=some v \/ ∃t∈rs,∃q∈t.rows,k=(t.name,q.name)/\v=q.sl:=by
 induction rs generalizing M with
 | nil=>exact .inl h
 | cons t rs ih =>
  simp only[eX]at h;rcases ih h with h|⟨t',ht,e⟩
  ·rcases Jz h with h|⟨q,hq,e⟩
   ·exact .inl h
   exact .inr ⟨t,by simp,q,hq,e⟩
  exact .inr ⟨t',by simp[ht],e⟩
theorem sS{M:ByteArray×ByteArray->Option Value}{rs:Q06}{k:Q01}(h:(M k).isSome=true \/ ∃t∈rs,∃q∈t.rows,k=(t.name,q.name)):(eX M rs k).isSome=true:=by
 induction rs generalizing M with
 | nil=>rcases h with h|⟨q,hq,-⟩;exact h;cases hq
 | cons t rs ih =>
  simp only[eX];refine ih ?_;rcases h with h|⟨t',ht,q,hq,e⟩
  ·exact .inl (xX (.inl h))
  rcases VH.1 ht with rfl|ht
  ·exact .inl (xX (.inr ⟨q,hq,e⟩))
  exact .inr ⟨t',ht,q,hq,e⟩
theorem JA{rs:List Rl}{n:ByteArray}(h:jR rs n=none):∀r∈rs,r.name≠n:=by
 induction rs with
 | nil=>intro r hr;cases hr
 | cons r rs ih =>
  simp only[jR]at h;split at h
  ·cases h
  rename_i hn;intro q hq;rcases VH.1 hq with rfl|hq
  ·exact fun e=>hn (fC.2 e)
  exact ih h q hq
theorem MJ{ts:Q0b}{ty n:ByteArray}(h:fF ts ty n=none):∀t∈ts,t.name=ty->∀r∈t.rels,r.name≠n:=by
 induction ts with
 | nil=>intro t ht;cases ht
 | cons t ts ih =>
  simp only[fF]at h;intro q hq e;split at h
  ·rw[Option.or_eq_none_iff]at h;rcases VH.1 hq with rfl|hq
   ·exact JA h.1
   exact ih h.2 q hq e
  rename_i hn;rcases VH.1 hq with rfl|hq
  ·exact absurd (fC.2 e) hn
  exact ih h q hq e
theorem qO{rs:Q06}{ty n:ByteArray}{es:Q09}(h:fF (af rs) ty n=some es):∃t∈rs,∃q∈t.rows,t.name=ty/\q.name=n/\aj q.rows=es:=by
 obtain⟨t,ht,r,hr,e1,e2,e3⟩:=nY h;obtain⟨t',ht',rfl⟩:=VG.1 ht;obtain⟨q,hq,rfl⟩:=VG.1 hr;exact⟨t',ht',q,hq,e1,e2,e3⟩
structure Tab(rs:Q06)(M:ByteArray×ByteArray->Option Value):Prop where
 no:∀k,M k=none->fF (af rs) k.1 k.2=none
 yes:∀k v,M k=some v->∃t∈rs,∃q∈t.rows,k=(t.name,q.name)/\v=q.sl/\fF (af rs) k.1 k.2=some (aj q.rows)/\aK (aj q.rows)=true
theorem wX{rs:Q06}(h:aY (af rs)=true):Tab rs (qd rs) where
 no k hk:=by
  cases e:fF (af rs) k.1 k.2 with
  | none=>rfl
  | some es =>
   obtain⟨t,ht,q,hq,e1,e2,-⟩:=qO e;have:=sS (M:=fun _=>none) (rs:=rs) (k:=k) (.inr ⟨t,ht,q,hq,by rw[e1,e2]⟩);unfold qd at hk;rw[hk]at this;cases this
 yes k v hk:=by
  rcases EU hk with h0|⟨t,ht,q,hq,e,ev⟩
  ·cases h0
  have hSF:=bq h;refine⟨t,ht,q,hq,e,ev,?_,(hSF.2.2 t ht q hq).1⟩;cases e2:fF (af rs) k.1 k.2 with
  | none=>exact(MJ e2 t.p (VY ht) (by rw[e];rfl) q.p (VY hq) (by rw[e];rfl)).elim
  | some es =>
   obtain⟨t',ht',q',hq',e3,e4,e5⟩:=qO e2;have h1:t'=t:=GD h ht' ht (by rw[e3,e]);subst h1;obtain⟨i,hi,rfl⟩:=V7.1 ht;have h2:q'=q:=GG (lK h i hi).2.2 hq' hq (by rw[e4,e]);subst h2;rw[e5]
theorem Tab.some_iff{rs:Q06}{M:ByteArray×ByteArray->Option Value}(h:Tab rs M)(k:Q01):(M k).isSome=!(az (af rs) k.1 k.2).isEmpty:=by
 unfold az;cases e:M k with
 | none=>rw[h.no k e];rfl
 | some v =>
  obtain⟨t,ht,q,hq,-,-,e1,e2⟩:=h.yes k v e;rw[e1];have:=nZ e2;cases e3:aj q.rows with
  | nil=>rw[e3]at this;simp at this
  | cons x xs=>rfl
theorem rT(w:ae):(zeroValue 37).run prog w=.ok (.slice none 0 0) w:=by kernel_rfl
theorem yV(b n:Nat)(M:ByteArray×ByteArray->Option Value)(t r:bQ)(w:ae)(ht:t.size<=maxLen)(hr:r.size<=maxLen)(hV:aJ dU prog 146 w b n M):
  Calls prog 94 #[.map (some b),.string t,.string r] w fun e w'=>e=.returned (.bool (M (t,r)).isSome)/\w'=w:=by
 obtain⟨kl,hkl⟩:=kv (t,r) ht hr;have HV:Hid (aJ dU prog 146 w b n M):=hV;have Xw:Hid (keyOf prog 146 (dU (t,r))=some kl):=hkl;clear hkl hV;go_enter func94,ntmps94;go_wp2_with(first|(at_lookup;refine bZ _ rfl _ _ 102 rfl 146 37 iY underlying102 (rT _) b n M rfl HV.out (t,r) kl rfl Xw.out ?_)|go_in);go_ret;exact⟨rfl,rfl⟩
theorem Dm(a:Al)(w:ae):
  Calls prog 240 #[.agg #[.string a.t,.string a.s]] w fun e w'=>e=.returned (.bool (!a.s.toList.isEmpty))/\ag w w':=by
 cases h:a.s.toList.isEmpty;case true=>
  go_enter func240,ntmps240;go_wp2;go_ret;exact⟨rfl,(Vs _ _).alloc (Vr _) _⟩
 go_enter func240,ntmps240;go_wp2;go_ret;exact⟨rfl,(Vs _ _).alloc (Vr _) _⟩
theorem xY(xs:Q0a)(k:Nat)(h:k<xs.length):(xs.drop k).any (fun a=>!a.s.toList.isEmpty)=((!xs[k].s.toList.isEmpty) || (xs.drop (k+1)).any (fun a=>!a.s.toList.isEmpty)):=by
 rw[VZ h];rfl
theorem Co(ad:Q02)(cap:Nat)(xs:Q0a)(w:ae)(hlen:xs.length<=1048576)(hs:lu w ad xs):
  Calls prog 264 #[.slice ad xs.length cap,.func (Fn.func 240) #[] #[]] w fun e w'=>(∃r:Int,e=.returned (.int .i64 r)/\decide (0<=r)=xs.any (fun a=>!a.s.toList.isEmpty))/\ag w w':=by
 have HS:=aC hs;clear hs;go_enter func264,ntmps264;go_wp2_with fail;go_loopw[8] (fun i wr=>∃k:Nat,k<=xs.length/\i=.int .i64 k/\Hid ((xs.drop k).any (fun a=>!a.s.toList.isEmpty)=xs.any (fun a=>!a.s.toList.isEmpty))/\Hid (ag w wr)) (fun i _=>xs.length-(intOf i).toNat);case atStart=>exact⟨0,Vv _,rfl,rfl,Vs _ _⟩
 obtain⟨k,hk,rfl,HP,HB⟩:=hrel;by_cases hlt:k<xs.length
 ·rcases HS.out.below HB.out with rfl|⟨b,off,rfl,hb,hr⟩
  ·simp at hlt
  obtain⟨t0,t1⟩:=hr k hlt;have hk1:=bC k;have hk2:(k:Int)<(xs.length:Int):=by omega
  clear hr;cases he:xs[k].s.toList.isEmpty;case false=>
   have HN:Hid (xs.any (fun a=>!a.s.toList.isEmpty)=true):=by show _=_;rw[<-HP.out,xY _ _ hlt,he];rfl
   go_wp2_with(go_at_call 240;refine(Dm xs[k] _).mono ?_;rintro e w' ⟨he2,hbx⟩;rw[he]at he2;subst he2);go_ret;exact⟨⟨k,rfl,by rw[HN.out];simp⟩,HB.out.trans (hbx.mono HB.out.size)⟩
  have WQ:Hid ((xs.drop (k+1)).any (fun a=>!a.s.toList.isEmpty)=xs.any (fun a=>!a.s.toList.isEmpty)):=by show _=_;rw[<-HP.out,xY _ _ hlt,he];rfl
  go_wp2_with(go_at_call 240;refine(Dm xs[k] _).mono ?_;rintro e w' ⟨he2,hbx⟩;rw[he]at he2;subst he2);go_roundw;case rel=>exact⟨k+1,by omega,by go_num,WQ,HB.out.trans (hbx.mono HB.out.size)⟩
  simp[intOf]<;>omega
 have HN:Hid (xs.any (fun a=>!a.s.toList.isEmpty)=false):=by show _=_;rw[<-HP.out,VN (by omega)];rfl
 go_wp2;go_ret;exact⟨⟨-1,rfl,by rw[HN.out];simp⟩,HB.out⟩
theorem wY(ad:Q02)(cap:Nat)(xs:Q0a)(w:ae)(hlen:xs.length<=1048576)(hs:lu w ad xs):
  Calls prog 193 #[.slice ad xs.length cap,.func (Fn.func 240) #[] #[]] w fun e w'=>e=.returned (.bool (xs.any (fun a=>!a.s.toList.isEmpty)))/\ag w w':=by
 go_enter func193,ntmps193;go_wp2_with fail;refine(Co ad cap xs _ hlen hs).mono ?_;rintro e w' ⟨⟨r,rfl,hr⟩,hbx⟩;have HR:Hid (decide (0<=r)=xs.any (fun a=>!a.s.toList.isEmpty)):=hr;clear hr hs;go_wp2;go_ret;exact⟨by rw[<-HR.out];rfl,hbx⟩
theorem PK(xs:Q0a):(!xs.any fun a=>!a.s.toList.isEmpty)=xs.all fun a=>a.s.toList.isEmpty:=by
 induction xs with
 | nil=>rfl
 | cons a xs ih=>simp only[List.any_cons,List.all_cons,Bool.not_or,Bool.not_not,ih]
set_option maxRecDepth 100000 in
theorem vw(ad:Q02)(cap:Nat)(rs:Q08)(w:ae)(hlen:rs.length<=1048576)(hs:jw w ad rs)(hl:∀r∈rs,r.e.light):
  Calls prog 172 #[.slice ad rs.length cap] w fun e w'=>e=.returned (.bool (bi (aj rs)))/\ag w w':=by
 by_cases h1:rs.length=1
 ·obtain⟨r,rfl⟩:∃r,rs=[r]:=List.length_eq_one_iff.1 h1;rcases hs with h|⟨b,off,rfl,hb,hr,hok⟩
  ·cases h
  obtain⟨t0,t1,t2,t3,t4⟩:=hr 0 (by simp);simp only[Nat.zero_mul,Nat.add_zero,List.getElem_cons_zero]at t0 t1 t2 t3 t4;have XN:Hid (r.ok w):=hok r (by simp);obtain⟨lg,-⟩:=hl r (by simp);clear hr hok h1;simp only[VS,Wv,VQ];by_cases hq:r.e.kind=1
  ·have HD:Hid (bi (aj [r])=!r.e.allow.any fun a=>!a.s.toList.isEmpty):=by show _=_;rw[PK];simp[bi,aj,hq]
   have hqb:(r.e.kind==1)=true:=by simpa using hq
   go_enter func172,ntmps172;go_wp2_with(go_at_call 193;refine(wY _ _ r.e.allow _ lg (XN.out.1.below ((Vs _ _)))).mono ?_;rintro e w' ⟨rfl,hbx⟩);go_ret;exact⟨by rw[HD.out];rfl,hbx⟩
  have HD:Hid (bi (aj [r])=false):=by show _=_;simp[bi,aj,hq]
  have hqb:(r.e.kind==1)=false:=by simpa using hq
  go_enter func172,ntmps172;go_wp2;go_ret;exact⟨by rw[HD.out];rfl,Vs _ _⟩
 have HD:Hid (bi (aj rs)=false):=by
  show _=_;rcases rs with _|⟨r,_|⟨r2,rs⟩⟩
  ·rfl
  ·simp at h1
  rfl
 have h2:((rs.length:Int)==1)=false:=by
  have:¬((rs.length:Int)=1):=by omega
  simpa using this
 clear hs;go_enter func172,ntmps172;go_wp2;go_ret;exact⟨by rw[HD.out];rfl,Vs _ _⟩
end Go.Proofs.YtojjoblnpldniaaGreat
