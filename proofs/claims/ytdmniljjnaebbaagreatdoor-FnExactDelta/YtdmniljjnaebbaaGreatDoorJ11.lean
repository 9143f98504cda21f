/- A right schema's table: what lies in it is what the document's look finds. -/
import Derived.Test.YtdmniljjnaebbaaGreatDoorSq
import Derived.Test.YtdmniljjnaebbaaGreatDoorJ10
open Go.Proofs.Tryz
namespace Go.Proofs.YtdmniljjnaebbaaGreatDoor
open Pl
theorem P9:∀ x:List UInt8,Op.bytesLess x x=false
 | []=>rfl
 | a::x=>by simp [Op.bytesLess,P9 x]
theorem Qa:∀ x y z:List UInt8,Op.bytesLess x y=true→Op.bytesLess y z=true→Op.bytesLess x z=true
 | [],_,[],h,k=>by cases ‹List UInt8› <;> simp [Op.bytesLess] at h k
 | [],_,_::_,_,_=>rfl
 | _::_,[],_,h,_=>by simp [Op.bytesLess] at h
 | _::_,_::_,[],_,k=>by simp [Op.bytesLess] at k
 | a::x,b::y,c::z,h,k=>by
  simp only [Op.bytesLess,Bool.or_eq_true,Sn,SE,beq_iff_eq] at h k ⊢;rcases h with h | ⟨h,h'⟩
  ·rcases k with k | ⟨k,k'⟩
   ·exact .inl (UInt8.lt_trans h k)
   exact .inl (k ▸ h)
  rcases k with k | ⟨k,k'⟩
  ·exact .inl (h ▸ k)
  exact .inr ⟨h.trans k,Qa x y z h' k'⟩
theorem pX {f:Nat→ByteArray} {n:Nat} (h:∀ i,i + 1 < n→iw (f i) (f (i + 1))=true):∀ i j,i < j→j < n→f i ≠ f j:=by
 have h2:∀ d i,i + d + 1 < n→iw (f i) (f (i + d + 1))=true:=by
  intro d
  induction d with
  | zero=>intro i hi; exact h i (by omega)
  | succ d ih =>
   intro i hi;have h3:=ih i (by omega);have h4:=h (i + d + 1) (by omega);exact Qa _ _ _ h3 h4
 intro i j hij hj e;have h5:=h2 (j - i - 1) i (by omega);have e2:i + (j - i - 1) + 1=j:=by omega
 rw [e2,e] at h5;unfold iw at h5;rw [P9] at h5;cases h5
theorem mg {rs:List TR} (h:bq (ag rs)=true) (k:Nat) (hk:k < rs.length):aR rs[k].name=true∧(∀ i (hi:i < rs.length),k=i + 1→iw rs[i].name rs[k].name=true)∧df (bZ rs[k].rows) rs[k].rows.length=true:=by
 simp only [bq,Sn,SE] at h;rw [eH] at h;have h1:=nM h.2 k hk;unfold jF at h1;have e:(ag rs)[k]?=some rs[k].p:=by simp [ag,hk]
 rw [e] at h1;simp only [Sn,SE] at h1;have e2:rs[k].p.rels.length=rs[k].rows.length:=by simp [TR.p,bZ]
 rw [e2] at h1;refine ⟨h1.1.1.1,fun i hi hki=>?_,h1.2⟩;subst hki;have h2:=h1.1.1.2;have e3:(ag rs)[i]?=some rs[i].p:=by simp [ag,hi]
 simp only [e3,Option.map_some,Option.getD_some] at h2;exact h2
theorem Bi {rs:List RR} {n:Nat} (h:df (bZ rs) n=true) (k:Nat) (hk:k < rs.length) (hn:k < n):aR rs[k].name=true∧(∀ i (hi:i < rs.length),k=i + 1→iw rs[i].name rs[k].name=true)∧aY (ai rs[k].rows)=true:=by
 have h1:=nJ h k hn;unfold kG at h1;have e:(bZ rs)[k]?=some rs[k].p:=by simp [bZ,hk]
 rw [e] at h1;simp only [Sn] at h1;refine ⟨h1.1.1,fun i hi hki=>?_,h1.2⟩;subst hki;have h2:=h1.1.2;have e3:(bZ rs)[i]?=some rs[i].p:=by simp [bZ,hi]
 simp only [e3,Option.map_some,Option.getD_some] at h2;exact h2
theorem Eo {rs:List TR} (h:bq (ag rs)=true) {t t':TR} (ht:t ∈ rs) (ht':t' ∈ rs) (e:t.name=t'.name):t=t':=by
 obtain ⟨i,hi,rfl⟩:=List.mem_iff_getElem.1 ht;obtain ⟨j,hj,rfl⟩:=List.mem_iff_getElem.1 ht';have hne:=pX (f:=fun k=>(rs[k]?.map TR.name).getD ByteArray.empty) (n:=rs.length) (fun k hk=>by
  have h0:k < rs.length:=by omega
  simp only [Sw hk,Sw h0,Option.map_some,Option.getD_some];exact (mg h (k + 1) hk).2.1 k h0 rfl)
 by_cases hij:i=j
 ·subst hij; rfl
 exfalso;rcases Nat.lt_or_gt_of_ne hij with hl | hl
 ·have:=hne i j hl hj; simp [hi,hj] at this; exact this e
 have:=hne j i hl hi; simp [hi,hj] at this; exact this e.symm
theorem Ep {rs:List RR} (h:df (bZ rs) rs.length=true) {t t':RR} (ht:t ∈ rs) (ht':t' ∈ rs) (e:t.name=t'.name):t=t':=by
 obtain ⟨i,hi,rfl⟩:=List.mem_iff_getElem.1 ht;obtain ⟨j,hj,rfl⟩:=List.mem_iff_getElem.1 ht';have hne:=pX (f:=fun k=>(rs[k]?.map RR.name).getD ByteArray.empty) (n:=rs.length) (fun k hk=>by
  have h0:k < rs.length:=by omega
  simp only [Sw hk,Sw h0,Option.map_some,Option.getD_some];exact (Bi h (k + 1) hk hk).2.1 k h0 rfl)
 by_cases hij:i=j
 ·subst hij; rfl
 exfalso;rcases Nat.lt_or_gt_of_ne hij with hl | hl
 ·have:=hne i j hl hj; simp [hi,hj] at this; exact this e
 have:=hne j i hl hi; simp [hi,hj] at this; exact this e.symm
theorem GK {t:ByteArray} {M:ByteArray × ByteArray→Option Value} {qs:List RR} {k:ByteArray × ByteArray} {v:Value} (h:jS t M qs k=some v):M k=some v ∨ ∃ q ∈ qs,k=(t,q.name)∧v=q.sl:=by
 induction qs generalizing M with
 | nil=>exact .inl h
 | cons q qs ih =>
  simp only [jS] at h;rcases ih h with h | ⟨q',hq,e⟩
  ·by_cases e:k=(t,q.name)
   ·rw [e,dJ] at h; injection h with h; exact .inr ⟨q,by simp,e,h.symm⟩
   rw [bQ e] at h; exact .inl h
  exact .inr ⟨q',by simp [hq],e⟩
theorem vJ {t:ByteArray} {M:ByteArray × ByteArray→Option Value} {qs:List RR} {k:ByteArray × ByteArray} (h:(M k).isSome=true ∨ ∃ q ∈ qs,k=(t,q.name)):(jS t M qs k).isSome=true:=by
 induction qs generalizing M with
 | nil=>rcases h with h | ⟨q,hq,-⟩; exact h; cases hq
 | cons q qs ih =>
  simp only [jS];refine ih ?_;by_cases e:k=(t,q.name)
  ·left; rw [e,dJ]; rfl
  rcases h with h | ⟨q',hq,e'⟩
  ·left; rw [bQ e]; exact h
  rcases List.mem_cons.1 hq with rfl | hq
  ·exact absurd e' e
  exact .inr ⟨q',hq,e'⟩
theorem CP {M:ByteArray × ByteArray→Option Value} {rs:List TR} {k:ByteArray × ByteArray} {v:Value} (h:dR M rs k=some v):M k=some v ∨ ∃ t ∈ rs,∃ q ∈ t.rows,k=(t.name,q.name)∧v=q.sl:=by
 induction rs generalizing M with
 | nil=>exact .inl h
 | cons t rs ih =>
  simp only [dR] at h;rcases ih h with h | ⟨t',ht,e⟩
  ·rcases GK h with h | ⟨q,hq,e⟩
   ·exact .inl h
   exact .inr ⟨t,by simp,q,hq,e⟩
  exact .inr ⟨t',by simp [ht],e⟩
theorem qA {M:ByteArray × ByteArray→Option Value} {rs:List TR} {k:ByteArray × ByteArray} (h:(M k).isSome=true ∨ ∃ t ∈ rs,∃ q ∈ t.rows,k=(t.name,q.name)):(dR M rs k).isSome=true:=by
 induction rs generalizing M with
 | nil=>rcases h with h | ⟨q,hq,-⟩; exact h; cases hq
 | cons t rs ih =>
  simp only [dR];refine ih ?_;rcases h with h | ⟨t',ht,q,hq,e⟩
  ·exact .inl (vJ (.inl h))
  rcases List.mem_cons.1 ht with rfl | ht
  ·exact .inl (vJ (.inr ⟨q,hq,e⟩))
  exact .inr ⟨t',ht,q,hq,e⟩
theorem GL {rs:List Rl} {n:ByteArray} (h:jc rs n=none):∀ r ∈ rs,r.name ≠ n:=by
 induction rs with
 | nil=>intro r hr; cases hr
 | cons r rs ih =>
  simp only [jc] at h;split at h
  ·cases h
  rename_i hn;intro q hq;rcases List.mem_cons.1 hq with rfl | hq
  ·exact fun e=>hn (dY.2 e)
  exact ih h q hq
theorem Kb {ts:List Ty} {ty n:ByteArray} (h:fC ts ty n=none):∀ t ∈ ts,t.name=ty→∀ r ∈ t.rels,r.name ≠ n:=by
 induction ts with
 | nil=>intro t ht; cases ht
 | cons t ts ih =>
  simp only [fC] at h;intro q hq e;split at h
  ·rw [Option.or_eq_none_iff] at h;rcases List.mem_cons.1 hq with rfl | hq
   ·exact GL h.1
   exact ih h.2 q hq e
  rename_i hn;rcases List.mem_cons.1 hq with rfl | hq
  ·exact absurd (dY.2 e) hn
  exact ih h q hq e
theorem pg {rs:List TR} {ty n:ByteArray} {es:List Ex} (h:fC (ag rs) ty n=some es):∃ t ∈ rs,∃ q ∈ t.rows,t.name=ty∧q.name=n∧ai q.rows=es:=by
 obtain ⟨t,ht,r,hr,e1,e2,e3⟩:=yB h;obtain ⟨t',ht',rfl⟩:=Sy.1 ht;obtain ⟨q,hq,rfl⟩:=Sy.1 hr;exact ⟨t',ht',q,hq,e1,e2,e3⟩
structure Tab (rs:List TR) (M:ByteArray × ByteArray→Option Value):Prop where
 no:∀ k,M k=none→fC (ag rs) k.1 k.2=none
 yes:∀ k v,M k=some v→∃ t ∈ rs,∃ q ∈ t.rows,k=(t.name,q.name)∧v=q.sl∧fC (ag rs) k.1 k.2=some (ai q.rows)∧aY (ai q.rows)=true
theorem ut {rs:List TR} (h:bq (ag rs)=true):Tab rs (qo rs) where
 no k hk:=by
  cases e:fC (ag rs) k.1 k.2 with
  | none=>rfl
  | some es =>
   obtain ⟨t,ht,q,hq,e1,e2,-⟩:=pg e;have:=qA (M:=fun _=>none) (rs:=rs) (k:=k) (.inr ⟨t,ht,q,hq,by rw [e1,e2]⟩);unfold qo at hk;rw [hk] at this; cases this
 yes k v hk:=by
  rcases CP hk with h0 | ⟨t,ht,q,hq,e,ev⟩
  ·cases h0
  have hSF:=bR h;refine ⟨t,ht,q,hq,e,ev,?_,(hSF.2.2 t ht q hq).1⟩;cases e2:fC (ag rs) k.1 k.2 with
  | none=>exact (Kb e2 t.p (List.mem_map_of_mem ht) (by rw [e]; rfl) q.p (List.mem_map_of_mem hq) (by rw [e]; rfl)).elim
  | some es =>
   obtain ⟨t',ht',q',hq',e3,e4,e5⟩:=pg e2;have h1:t'=t:=Eo h ht' ht (by rw [e3,e]);subst h1;obtain ⟨i,hi,rfl⟩:=List.mem_iff_getElem.1 ht;have h2:q'=q:=Ep (mg h i hi).2.2 hq' hq (by rw [e4,e]);subst h2;rw [e5]
theorem Tab.some_iff {rs:List TR} {M:ByteArray × ByteArray→Option Value} (h:Tab rs M) (k:ByteArray × ByteArray):(M k).isSome=!(aH (ag rs) k.1 k.2).isEmpty:=by
 unfold aH;cases e:M k with
 | none=>rw [h.no k e]; rfl
 | some v =>
  obtain ⟨t,ht,q,hq,-,-,e1,e2⟩:=h.yes k v e;rw [e1];have:=Bf e2;cases e3:ai q.rows with
  | nil=>rw [e3] at this; simp at this
  | cons x xs=>rfl
open Go.ChangeAt Go.ChangeShapes Go.RowKit Go.WideShapes
theorem yF (d:Dp):0≤stepOf d∧stepOf d≤1:=by unfold stepOf; split <;> omega
structure Mid (ts:List Ty) (n:Nat) (oS:List St) (k j:Nat) (mb:Bool) (out:List St):Prop where
 len:out.length=n
 nn:n=(ak ts).length
 round:Round ts out
 le:∀ i (h:i < out.length),i ≠ k→out[i].n≤n
 lek:∀ h:k < out.length,out[k].n≤n + 1 + j
 same:mb=false→out=oS∧(∀ i (h:i < out.length),i < k→OO ts out out[i] (gu ts out[i].key).length)∧∀ h:k < out.length,OO ts out out[k] j
 grow:kP oS≤kP out∧(mb=true→kP oS < kP out)
theorem Mid.start {ts:List Ty} {n:Nat} {out:List St} (hl:out.length=n) (hn:n=(ak ts).length) (hr:Round ts out) (hle:∀ s ∈ out,s.n≤n):Mid ts n out 0 0 false out where
 len:=hl
 nn:=hn
 round:=hr
 le i h _:=hle _ (Sd h)
 lek h:=by have:=hle _ (Sd h); omega
 same _:=⟨rfl,fun i _ hi=>by omega,fun _ d hd=>by simp at hd⟩
 grow:=⟨Int.le_refl _,by simp⟩
theorem Mid.key {ts:List Ty} {n k j:Nat} {oS out:List St} {mb:Bool} (h:Mid ts n oS k j mb out) (hk:k < out.length) (hk2:k < (ak ts).length):out[k].key=(ak ts)[k]:=by
 have e:=h.round.keys;have:(gy out)[k]'(by simp [gy,hk])=(ak ts)[k]:=by simp only [e]
 rw [← this]; simp [gy]
def nO (out:List St) (d:Dp):Int:=eG out (d.typ,d.rel) + stepOf d
theorem Mid.at {ts:List Ty} {n k j:Nat} {oS out:List St} {mb:Bool} (h:Mid ts n oS k j mb out) (key:ByteArray × ByteArray) (hk:key ∈ ak ts):∃ i:Nat,∃ hi:i < out.length,fM key.1 key.2 out 0=(i:Int)∧out[i].n=eG out key∧0≤eG out key∧eG out key≤n + 1 + j:=by
 obtain ⟨i,hi,h1,h2,h3⟩:=nI out 0 (k:=key) (by rw [h.round.keys]; exact hk);refine ⟨i,hi,by rw [h1]; congr 1; omega,h3,?_,?_⟩
 ·exact (h.round.at hk).1
 rw [← h3];by_cases e:i=k
 ·subst e; exact h.lek hi
 have:=h.le i hi e; omega
theorem Mid.no {ts:List Ty} {n k j:Nat} {oS out:List St} {mb:Bool} (h:Mid ts n oS k j mb out) (hk:k < out.length) (d:Dp) (hd:(gu ts out[k].key)[j]?=some d) (hw:nO out d≤out[k].n):Mid ts n oS k (j + 1) mb out where
 len:=h.len
 nn:=h.nn
 round:=h.round
 le:=h.le
 lek hh:=by have:=h.lek hh; omega
 same hm:=by
  obtain ⟨e,s1,s2⟩:=h.same hm;refine ⟨e,s1,fun hh d' hd'=>?_⟩;obtain ⟨hj,hd2⟩:=List.getElem?_eq_some_iff.1 hd;rw [Sk hj] at hd';rcases Sz.1 hd' with hd' | hd'
  ·exact s2 hh d' hd'
  rw [hd2] at hd'; simp at hd'; subst hd'; exact hw
 grow:=h.grow
theorem Mid.yes {ts:List Ty} {n k j:Nat} {oS out:List St} {mb:Bool} (h:Mid ts n oS k j mb out) (hF:Found ts) (hk:k < out.length) (d:Dp) (hd:(gu ts out[k].key)[j]?=some d) (hw:out[k].n < nO out d):Mid ts n oS k (j + 1) true (out.set k ⟨out[k].typ,out[k].rel,nO out d⟩) where
 len:=by rw [List.length_set]; exact h.len
 nn:=h.nn
 round:=h.round.set hF hk (List.mem_of_getElem? hd)
 le i hi hne:=by
  rw [List.getElem_set_ne (Ne.symm hne)];exact h.le i (by simpa using hi) hne
 lek hh:=by
  rw [List.getElem_set_self];show nO out d≤_;obtain ⟨i,hi,-,-,-,h4⟩:=h.at (d.typ,d.rel) (hF _ (h.round.mem (Sd hk)) d (List.mem_of_getElem? hd));have:=yF d;unfold nO; push_cast; omega
 same hm:=by cases hm
 grow:=by
  have:=h.grow.1;rw [MK _ _ hk];exact ⟨by omega,fun _=>by omega⟩
theorem Mid.next {ts:List Ty} {n k j:Nat} {oS out:List St} {mb:Bool} (h:Mid ts n oS k j mb out) (hk:k < out.length) (hj:j=(gu ts out[k].key).length) (hle:out[k].n≤n):Mid ts n oS (k + 1) 0 mb out where
 len:=h.len
 nn:=h.nn
 round:=h.round
 le i hi _:=by
  by_cases e:i=k
  ·subst e; exact hle
  exact h.le i hi e
 lek hh:=by have:=h.le (k + 1) hh (by omega); omega
 same hm:=by
  obtain ⟨e,s1,s2⟩:=h.same hm;refine ⟨e,fun i hi hik=>?_,fun _ d hd=>by simp at hd⟩;by_cases e2:i=k
  ·subst e2; have:=s2 hi; rw [hj] at this; exact this
  exact s1 i hi (by omega)
 grow:=h.grow
theorem Mid.over {ts:List Ty} {n k j:Nat} {oS out:List St} {mb:Bool} (h:Mid ts n oS k j mb out) (hF:Found ts) (hk:k < out.length) (hn:(n:Int) < out[k].n):¬ ∃ f,Sol ts f :=
 MI hF (h.round.mem (Sd hk)) (h.round.low _ (Sd hk)) (by have:=h.nn; omega)
structure Pass (ts:List Ty) (n:Nat) (mb:Bool) (out:List St):Prop where
 len:out.length=n
 nn:n=(ak ts).length
 round:Round ts out
 le:∀ s ∈ out,s.n≤n
 sat:mb=false→∀ s ∈ out,OO ts out s (gu ts s.key).length
theorem Mid.done {ts:List Ty} {n k j:Nat} {oS out:List St} {mb:Bool} (h:Mid ts n oS k j mb out) (hk:k=n):Pass ts n mb out where
 len:=h.len
 nn:=h.nn
 round:=h.round
 le s hs:=by
  obtain ⟨i,hi,rfl⟩:=List.mem_iff_getElem.1 hs;exact h.le i hi (by have:=h.len; omega)
 sat hm s hs:=by
  obtain ⟨e,s1,s2⟩:=h.same hm;obtain ⟨i,hi,rfl⟩:=List.mem_iff_getElem.1 hs;exact s1 i hi (by have:=h.len; omega)
theorem Pass.least {ts:List Ty} {n:Nat} {out:List St} (h:Pass ts n false out):Least ts (eG out):=h.round.done (h.sat rfl)
theorem Pass.zero {ts:List Ty} {n:Nat} (hn:n=(ak ts).length):Pass ts n true (En (ak ts)) where
 len:=by rw [CK,hn]
 nn:=hn
 round:=⟨by unfold gy En; rw [List.map_map]; exact List.map_id _,fun s hs=>by simp [En] at hs; obtain ⟨a,b,-,rfl⟩:=hs; exact Int.le_refl _,fun s hs=>by simp [En] at hs; obtain ⟨a,b,-,rfl⟩:=hs; exact o6.zero _ _⟩
 le s hs:=by simp [En] at hs; obtain ⟨a,b,-,rfl⟩:=hs; simp
 sat h:=by cases h
theorem OT (n:Int) (out:List St) (h:∀ s ∈ out,s.n≤n):kP out≤n * out.length:=by
 induction out with
 | nil=>simp [kP]
 | cons s xs ih =>
  have h1:=h s (by simp);have h2:=ih fun q hq=>h q (by simp [hq]);simp only [kP,List.length_cons];have:n * ((xs.length + 1:Nat):Int)=n * xs.length + n:=by push_cast; rw [Int.mul_add]; simp
  omega
structure RowS (w wr:World) (ad:Option Addr) (g:Nat) (out:List St):Prop where
 below:aa w wr
 at':out=[] ∨ (ad=some ⟨g,0,none⟩∧w.heap.size≤g∧g < wr.heap.size∧RX wr g out∧∀ j,wr.frozen? ⟨g,j,none⟩=false)
theorem Ri.kept {w w':af} {b off:Nat} {s:St} (h:Ri w b off s) (hb:b < w.heap.size) (hB:aa w w'):Ri w' b off s:=⟨aK hB hb h.1,aK hB hb h.2.1,aK hB hb h.2.2⟩
theorem RowS.kept {w wr w2:af} {ad:Option Addr} {g:Nat} {out:List St} (h:RowS w wr ad g out) (hb:aa wr w2):RowS w w2 ad g out where
 below:=h.below.trans (hb.mono h.below.size)
 at':=by
  rcases h.at' with e | ⟨e,h1,h2,h3,h4⟩
  ·exact .inl e
  exact .inr ⟨e,h1,Sg h2 hb.size,fun i hi=>(h3 i hi).kept h2 hb,fun j=>by rw [hb.frozen (p:=⟨g,j,none⟩) h2]; exact h4 j⟩
theorem RowS.slN {w wr:af} {ad:Option Addr} {g:Nat} {out:List St} (h:RowS w wr ad g out):Gy wr ad out:=by
 rcases h.at' with e | ⟨e,h1,h2,h3,h4⟩
 ·exact .inl e
 exact .inr ⟨g,0,e,h2,fun i hi=>by rw [SG]; exact h3 i hi⟩
theorem RowS.set {w wr:af} {ad:Option Addr} {g:Nat} {out:List St} (h:RowS w wr ad g out) {k:Nat} (hk:k < out.length) (n:Int):RowS w (wr.setCell ⟨g,k * 3 + 2,none⟩ (.int .i64 n)) ad g (out.set k ⟨out[k].typ,out[k].rel,n⟩):=by
 rcases h.at' with e | ⟨e,h1,h2,h3,h4⟩
 ·rw [e] at hk; simp at hk
 refine ⟨h.below.setCell (p:=⟨g,k * 3 + 2,none⟩) h1 _,.inr ⟨e,h1,by simpa using h2,fun i hi=>?_,fun j=>by simpa using h4 j⟩⟩;have hi':i < out.length:=by simpa using hi
 obtain ⟨c0,c1,c2⟩:=h3 i hi';by_cases ei:i=k
 ·subst ei;rw [List.getElem_set_self];exact ⟨by rw [bu (by omega)]; exact c0,by rw [bu (by omega)]; exact c1,iM c2⟩
 rw [List.getElem_set_ne (Ne.symm ei)];exact ⟨by rw [bu (by omega)]; exact c0,by rw [bu (by omega)]; exact c1,by rw [bu (by omega)]; exact c2⟩
def MP (w:World) (g i:Nat):Int:=match w.cell? ⟨g,i * 3 + 2,none⟩ with | some (.int _ x)=>x | _=>0
def GM (w:World) (g:Nat):Nat→Int
 | 0=>0
 | n + 1=>GM w g n + MP w g n
theorem Es (xs ys:List St):kP (xs ++ ys)=kP xs + kP ys:=by
 induction xs with
 | nil=>simp [kP]
 | cons s xs ih=>simp only [List.cons_append,kP,ih]; omega
theorem RX.sum {w:af} {g:Nat} {out:List St} (h:RX w g out):∀ k,k≤out.length→GM w g k=kP (out.take k)
 | 0,_=>by simp [GM,kP]
 | k + 1,hk=>by
  have hlt:k < out.length:=by omega
  rw [Sk hlt,Es];simp only [GM,h.sum k (by omega),kP];have:MP w g k=out[k].n:=by unfold MP; rw [(h k hlt).2.2]
  omega
theorem RowS.sum {w wr:af} {ad:Option Addr} {g:Nat} {out:List St} (h:RowS w wr ad g out):GM wr g out.length=kP out:=by
 rcases h.at' with e | ⟨e,h1,h2,h3,h4⟩
 ·rw [e]; simp [GM,kP]
 rw [h3.sum _ (Sj _),Su]
def MQ:Value→Int
 | .bool true=>1
 | _=>0
def Bj (w:World) (g n:Nat) (m:Value):Nat:=(2 * ((n:Int) * n - GM w g n) + MQ m).toNat
theorem GN {ts:List Ty} {w wr w2:af} {ad:Option Addr} {g n:Nat} {oS out:List St} {mb:Bool} (hS:RowS w wr ad g oS) (hO:RowS w w2 ad g out) (h:Mid ts n oS n 0 mb out) (hl:oS.length=n):Bj w2 g n (.bool mb) < Bj wr g n (.bool true):=by
 have e1:=hS.sum;have e2:=hO.sum;have h3:=OT n out fun s hs=>(h.done rfl).le s hs;have h2:=h.len;have h4:=h.grow;rw [hl] at e1;rw [h2] at e2 h3;unfold Bj;rw [e1,e2];cases mb;case false=>simp only [MQ]; omega
 have:=h4.2 rfl; simp only [MQ]; omega
theorem OU {w wr:af} {v:Value} {out:List St} (hB:aa w wr) (h:wr.ownsRow w.heap.size 145 3 v out.length (gF out)):∃ ad cp g,v=.slice ad out.length cp∧RowS w wr ad g out:=by
 rcases h.2 with ⟨rfl,h0⟩ | ⟨g,cp,cur,rfl,hbg,hg,hnc,-⟩
 ·exact ⟨none,0,0,by rw [h0],hB,.inl (SA.1 h0)⟩
 obtain ⟨ad,cp',e,h0⟩:=Rt h;injection e with e1 e2 e3;refine ⟨some ⟨g,0,none⟩,cp,g,rfl,hB,?_⟩;rcases h0 with h0 | ⟨g',e4,h1,h2,h3⟩
 ·exact .inl (SA.1 h0)
 rw [← e1] at e4; injection e4 with e4; injection e4 with e4;subst e4;exact .inr ⟨rfl,h1,h2,h3,fun j=>by simp [World.frozen?,hg]⟩
theorem QD (ad:Option Addr) (cap n:Nat) (xs:List St) (key:ByteArray × ByteArray) (w:af) (hn:xs.length=n) (hlen:n≤1048576) (hs:Gy w ad xs) (i:Nat) (hat:fM key.1 key.2 xs 0=(i:Int)) :
  Calls prog 118 #[.slice ad n cap,.string key.1,.string key.2] w fun e w'=>e=.returned (.int .i64 (i:Int))∧w'=w:=by
 subst hn;rw [← hat];exact MB ad cap xs key.1 key.2 w hlen hs
theorem AtD.set {w:af} {b off g o:Nat} {d:Dp} {v:Value} (h:AtD w b off d) (hn:g ≠ b):AtD (w.setCell ⟨g,o,none⟩ v) b off d:=⟨by rw [bz hn]; exact h.1,by rw [bz hn]; exact h.2.1,by rw [bz hn]; exact h.2.2⟩
theorem P8.set {w:af} {lo g o:Nat} {ad:Option Addr} {xs:List Dp} {v:Value} (h:P8 w lo ad xs) (hg:g < lo):P8 (w.setCell ⟨g,o,none⟩ v) lo ad xs:=by
 rcases h with h | ⟨b,e,h1,h2,h3⟩
 ·exact .inl h
 exact .inr ⟨b,e,h1,by simpa using h2,fun i hi=>(h3 i hi).set (by omega)⟩
theorem keepD {wr W w':af} {g o1 o2:Nat} {x y:Value} (h:W.cell? ⟨g,o1,none⟩=some x∧W.cell? ⟨g,o2,none⟩=some y∧g < W.heap.size∧aa wr W) (hb:aa W w') :
  w'.cell? ⟨g,o1,none⟩=some x∧w'.cell? ⟨g,o2,none⟩=some y∧g < w'.heap.size∧aa wr w' :=
 ⟨aK hb h.2.2.1 h.1,aK hb h.2.2.1 h.2.1,Sg h.2.2.1 hb.size,h.2.2.2.trans (hb.mono h.2.2.2.size)⟩
theorem oo.small {rs:List TR} {ad:Option Addr} {rows:List ER} (h:oo rs ad rows) (hl:∀ r ∈ rs,∀ q ∈ r.rows,q.rows.length≤15∧∀ e ∈ q.rows,dQ q.rows.length e.e.kids):rows.length≤15∧∀ e ∈ rows,dQ rows.length e.e.kids:=by
 rcases h with rfl | ⟨t,ht,q,hq,rfl,-⟩
 ·exact ⟨by simp,by simp⟩
 exact hl t ht q hq
theorem yG (ts:List Ty) (ty over rel:dB):(fT ts ty over rel).length≤(aQ (aH ts ty over)).length:=Gw _ _ _
theorem GQ (ts:List Ty) (typ:dB) (es:List Ex) (A G:Nat) (hA:∀ e ∈ es,e.allow.length≤A) (hG:∀ over rel,(fT ts typ over rel).length≤G) (k:Nat):(aM ts typ es k).length≤k * (A + G + 1):=by
 induction k with
 | zero=>simp [aM]
 | succ k ih =>
  simp only [aM,Sr];have:(jO ts typ es k).length≤A + G + 1:=by
   unfold jO;split
   ·simp
   rename_i e he;have h1:=hA e (List.mem_of_getElem? he);have h2:=A8 ((ed es).getD k false) e.allow;have h3:(mf ts typ ((ed es).getD k false) e).length≤G + 1:=by
    unfold mf;split
    ·simp
    split
    ·have:=hG e.over e.name; simp; omega
    simp
   rw [Sr]; omega
  have e:(k + 1) * (A + G + 1)=k * (A + G + 1) + (A + G + 1):=Nat.succ_mul _ _;omega
theorem zX (ts:List Ty) (typ:dB) (es:List Ex) (k:Nat) (h:es.length≤k):jO ts typ es k=[]:=by
 unfold jO;rw [List.getElem?_eq_none h]
theorem GR (ts:List Ty) (typ:dB) (es:List Ex) (B:Nat) (hB:∀ k,k≤es.length→(aM ts typ es k).length≤B) (k:Nat):(aM ts typ es k).length≤B:=by
 induction k with
 | zero=>exact hB 0 (Sm _)
 | succ k ih =>
  by_cases h:k + 1≤es.length
  ·exact hB _ h
  simp only [aM];rw [zX _ _ _ _ (by omega),List.append_nil];exact ih
theorem Et (rs:List RR) (n:dB) (es:List Ex) (h:jc (bZ rs) n=some es):∃ q ∈ rs,es=ai q.rows:=by
 induction rs with
 | nil=>simp [bZ,jc] at h
 | cons r rs ih =>
  simp only [bZ,List.map_cons,jc] at h;split at h
  ·injection h with h; exact ⟨r,by simp,h.symm⟩
  obtain ⟨q,hq,e⟩:=ih h; exact ⟨q,by simp [hq],e⟩
theorem GU (ts:List TR) (ty n:dB) (es:List Ex) (h:fC (ag ts) ty n=some es):∃ t ∈ ts,∃ q ∈ t.rows,es=ai q.rows:=by
 induction ts with
 | nil=>simp [ag,fC] at h
 | cons t ts ih =>
  simp only [ag,List.map_cons,fC] at h;split at h
  ·rcases Option.or_eq_some_iff.1 h with h | ⟨-,h⟩
   ·obtain ⟨q,hq,e⟩:=Et _ _ _ h; exact ⟨t,by simp,q,hq,e⟩
   obtain ⟨t',ht,q,hq,e⟩:=ih h; exact ⟨t',by simp [ht],q,hq,e⟩
  obtain ⟨t',ht,q,hq,e⟩:=ih h; exact ⟨t',by simp [ht],q,hq,e⟩
theorem vL (rs:List TR) (hl:∀ r ∈ rs,r.light) (typ over rel:dB):(fT (ag rs) typ over rel).length≤1048576:=by
 refine Sq (yG _ _ _ _) ?_;unfold aH;cases h:fC (ag rs) typ over with
 | none=>simp [aQ]
 | some es =>
  obtain ⟨t,ht,q,hq,rfl⟩:=GU _ _ _ _ h;exact yh q.rows ((hl t ht).2 q hq).2
theorem yH (rs:List TR) (hl:∀ r ∈ rs,r.light) (typ:dB) (rows:List ER) (hle:rows.length≤15) (Ze:∀ q ∈ rows,q.e.light) (k:Nat):(aM (ag rs) typ (ai rows) k).length≤100000000:=by
 refine GR _ _ _ _ (fun k hk=>?_) k;refine Sq (GQ _ _ _ 1048576 1048576 (fun e he=>?_) (vL rs hl typ) k) ?_
 ·obtain ⟨q,hq,rfl⟩:=Sy.1 he; exact (Ze q hq).1
 rw [aS] at hk; omega
end Go.Proofs.YtdmniljjnaebbaaGreatDoor
