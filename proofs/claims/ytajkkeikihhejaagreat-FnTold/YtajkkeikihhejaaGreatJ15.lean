/- A right schema's table: what lies in it is what the document's look finds. -/
import Derived.Test.YtajkkeikihhejaaGreatSq
import Derived.Test.YtajkkeikihhejaaGreatJ14
open Go.Proofs.Tryz
set_option maxHeartbeats 80000000
namespace Go.Proofs.YtajkkeikihhejaaGreat
open Pl
theorem RD:∀ x:List UInt8,Op.bytesLess x x=false
 | []=>rfl
 | a::x=>by simp [Op.bytesLess,RD x]
theorem RF:∀ x y z:List UInt8,Op.bytesLess x y=true→Op.bytesLess y z=true→Op.bytesLess x z=true
 | [],_,[],h,k=>by cases ‹List UInt8› <;> simp [Op.bytesLess] at h k
 | [],_,_::_,_,_=>rfl
 | _::_,[],_,h,_=>by simp [Op.bytesLess] at h
 | _::_,_::_,[],_,k=>by simp [Op.bytesLess] at k
 | a::x,b::y,c::z,h,k=>by
  simp only [Op.bytesLess,Bool.or_eq_true,TU,Ud,beq_iff_eq] at h k ⊢;rcases h with h | ⟨h,h'⟩
  ·rcases k with k | ⟨k,k'⟩
   ·exact .inl (UInt8.lt_trans h k)
   exact .inl (k ▸ h)
  rcases k with k | ⟨k,k'⟩
  ·exact .inl (h ▸ k)
  exact .inr ⟨h.trans k,RF x y z h' k'⟩
theorem rD {f:Nat→ByteArray} {n:Nat} (h:∀ i,i + 1 < n→jf (f i) (f (i + 1))=true):∀ i j,i < j→j < n→f i ≠ f j:=by
 have h2:∀ d i,i + d + 1 < n→jf (f i) (f (i + d + 1))=true:=by
  intro d
  induction d with
  | zero=>intro i hi; exact h i (by omega)
  | succ d ih =>
   intro i hi;have h3:=ih i (by omega);have h4:=h (i + d + 1) (by omega);exact RF _ _ _ h3 h4
 intro i j hij hj e;have h5:=h2 (j - i - 1) i (by omega);have e2:i + (j - i - 1) + 1=j:=by omega
 rw [e2,e] at h5;unfold jf at h5;rw [RD] at h5;cases h5
theorem lw {rs:List TR} (h:bi (ae rs)=true) (k:Nat) (hk:k < rs.length):aP rs[k].name=true∧(∀ i (hi:i < rs.length),k=i + 1→jf rs[i].name rs[k].name=true)∧dG (eD rs[k].rows) rs[k].rows.length=true:=by
 simp only [bi,TU,Ud] at h;rw [kX] at h;have h1:=oZ h.2 k hk;unfold kv at h1;have e:(ae rs)[k]?=some rs[k].p:=by simp [ae,hk]
 rw [e] at h1;simp only [TU,Ud] at h1;have e2:rs[k].p.rels.length=rs[k].rows.length:=by simp [TR.p,eD]
 rw [e2] at h1;refine ⟨h1.1.1.1,fun i hi hki=>?_,h1.2⟩;subst hki;have h2:=h1.1.1.2;have e3:(ae rs)[i]?=some rs[i].p:=by simp [ae,hi]
 simp only [e3,Option.map_some,Option.getD_some] at h2;exact h2
theorem CO {rs:List RR} {n:Nat} (h:dG (eD rs) n=true) (k:Nat) (hk:k < rs.length) (hn:k < n):aP rs[k].name=true∧(∀ i (hi:i < rs.length),k=i + 1→jf rs[i].name rs[k].name=true)∧aK (aj rs[k].rows)=true:=by
 have h1:=oW h k hn;unfold l8 at h1;have e:(eD rs)[k]?=some rs[k].p:=by simp [eD,hk]
 rw [e] at h1;simp only [TU] at h1;refine ⟨h1.1.1,fun i hi hki=>?_,h1.2⟩;subst hki;have h2:=h1.1.2;have e3:(eD rs)[i]?=some rs[i].p:=by simp [eD,hi]
 simp only [e3,Option.map_some,Option.getD_some] at h2;exact h2
theorem FZ {rs:List TR} (h:bi (ae rs)=true) {t t':TR} (ht:t ∈ rs) (ht':t' ∈ rs) (e:t.name=t'.name):t=t':=by
 obtain ⟨i,hi,rfl⟩:=List.mem_iff_getElem.1 ht;obtain ⟨j,hj,rfl⟩:=List.mem_iff_getElem.1 ht';have hne:=rD (f:=fun k=>(rs[k]?.map TR.name).getD ByteArray.empty) (n:=rs.length) (fun k hk=>by
  have h0:k < rs.length:=by omega
  simp only [TY hk,TY h0,Option.map_some,Option.getD_some];exact (lw h (k + 1) hk).2.1 k h0 rfl)
 by_cases hij:i=j
 ·subst hij; rfl
 exfalso;rcases Nat.lt_or_gt_of_ne hij with hl | hl
 ·have:=hne i j hl hj; simp [hi,hj] at this; exact this e
 have:=hne j i hl hi; simp [hi,hj] at this; exact this e.symm
theorem F3 {rs:List RR} (h:dG (eD rs) rs.length=true) {t t':RR} (ht:t ∈ rs) (ht':t' ∈ rs) (e:t.name=t'.name):t=t':=by
 obtain ⟨i,hi,rfl⟩:=List.mem_iff_getElem.1 ht;obtain ⟨j,hj,rfl⟩:=List.mem_iff_getElem.1 ht';have hne:=rD (f:=fun k=>(rs[k]?.map RR.name).getD ByteArray.empty) (n:=rs.length) (fun k hk=>by
  have h0:k < rs.length:=by omega
  simp only [TY hk,TY h0,Option.map_some,Option.getD_some];exact (CO h (k + 1) hk hk).2.1 k h0 rfl)
 by_cases hij:i=j
 ·subst hij; rfl
 exfalso;rcases Nat.lt_or_gt_of_ne hij with hl | hl
 ·have:=hne i j hl hj; simp [hi,hj] at this; exact this e
 have:=hne j i hl hi; simp [hi,hj] at this; exact this e.symm
theorem IG {t:ByteArray} {M:ByteArray × ByteArray→Option Value} {qs:List RR} {k:ByteArray × ByteArray} {v:Value} (h:kN t M qs k=some v):M k=some v ∨ ∃ q ∈ qs,k=(t,q.name)∧v=q.sl:=by
 induction qs generalizing M with
 | nil=>exact .inl h
 | cons q qs ih =>
  simp only [kN] at h;rcases ih h with h | ⟨q',hq,e⟩
  ·by_cases e:k=(t,q.name)
   ·rw [e,dZ] at h; injection h with h; exact .inr ⟨q,by simp,e,h.symm⟩
   rw [cz e] at h; exact .inl h
  exact .inr ⟨q',by simp [hq],e⟩
theorem xH {t:ByteArray} {M:ByteArray × ByteArray→Option Value} {qs:List RR} {k:ByteArray × ByteArray} (h:(M k).isSome=true ∨ ∃ q ∈ qs,k=(t,q.name)):(kN t M qs k).isSome=true:=by
 induction qs generalizing M with
 | nil=>rcases h with h | ⟨q,hq,-⟩; exact h; cases hq
 | cons q qs ih =>
  simp only [kN];refine ih ?_;by_cases e:k=(t,q.name)
  ·left; rw [e,dZ]; rfl
  rcases h with h | ⟨q',hq,e'⟩
  ·left; rw [cz e]; exact h
  rcases List.mem_cons.1 hq with rfl | hq
  ·exact absurd e' e
  exact .inr ⟨q',hq,e'⟩
theorem El {M:ByteArray × ByteArray→Option Value} {rs:List TR} {k:ByteArray × ByteArray} {v:Value} (h:eF M rs k=some v):M k=some v ∨ ∃ t ∈ rs,∃ q ∈ t.rows,k=(t.name,q.name)∧v=q.sl:=by
 induction rs generalizing M with
 | nil=>exact .inl h
 | cons t rs ih =>
  simp only [eF] at h;rcases ih h with h | ⟨t',ht,e⟩
  ·rcases IG h with h | ⟨q,hq,e⟩
   ·exact .inl h
   exact .inr ⟨t,by simp,q,hq,e⟩
  exact .inr ⟨t',by simp [ht],e⟩
theorem si {M:ByteArray × ByteArray→Option Value} {rs:List TR} {k:ByteArray × ByteArray} (h:(M k).isSome=true ∨ ∃ t ∈ rs,∃ q ∈ t.rows,k=(t.name,q.name)):(eF M rs k).isSome=true:=by
 induction rs generalizing M with
 | nil=>rcases h with h | ⟨q,hq,-⟩; exact h; cases hq
 | cons t rs ih =>
  simp only [eF];refine ih ?_;rcases h with h | ⟨t',ht,q,hq,e⟩
  ·exact .inl (xH (.inl h))
  rcases List.mem_cons.1 ht with rfl | ht
  ·exact .inl (xH (.inr ⟨q,hq,e⟩))
  exact .inr ⟨t',ht,q,hq,e⟩
theorem II {rs:List Rl} {n:ByteArray} (h:jO rs n=none):∀ r ∈ rs,r.name ≠ n:=by
 induction rs with
 | nil=>intro r hr; cases hr
 | cons r rs ih =>
  simp only [jO] at h;split at h
  ·cases h
  rename_i hn;intro q hq;rcases List.mem_cons.1 hq with rfl | hq
  ·exact fun e=>hn (fo.2 e)
  exact ih h q hq
theorem Lt {ts:List Ty} {ty n:ByteArray} (h:fI ts ty n=none):∀ t ∈ ts,t.name=ty→∀ r ∈ t.rels,r.name ≠ n:=by
 induction ts with
 | nil=>intro t ht; cases ht
 | cons t ts ih =>
  simp only [fI] at h;intro q hq e;split at h
  ·rw [Option.or_eq_none_iff] at h;rcases List.mem_cons.1 hq with rfl | hq
   ·exact II h.1
   exact ih h.2 q hq e
  rename_i hn;rcases List.mem_cons.1 hq with rfl | hq
  ·exact absurd (fo.2 e) hn
  exact ih h q hq e
theorem nY {rs:List TR} {ty n:ByteArray} {es:List Ex} (h:fI (ae rs) ty n=some es):∃ t ∈ rs,∃ q ∈ t.rows,t.name=ty∧q.name=n∧aj q.rows=es:=by
 obtain ⟨t,ht,r,hr,e1,e2,e3⟩:=qE h;obtain ⟨t',ht',rfl⟩:=Ue.1 ht;obtain ⟨q,hq,rfl⟩:=Ue.1 hr;exact ⟨t',ht',q,hq,e1,e2,e3⟩
structure Tab (rs:List TR) (M:ByteArray × ByteArray→Option Value):Prop where
 no:∀ k,M k=none→fI (ae rs) k.1 k.2=none
 yes:∀ k v,M k=some v→∃ t ∈ rs,∃ q ∈ t.rows,k=(t.name,q.name)∧v=q.sl∧fI (ae rs) k.1 k.2=some (aj q.rows)∧aK (aj q.rows)=true
theorem wG {rs:List TR} (h:bi (ae rs)=true):Tab rs (nX rs) where
 no k hk:=by
  cases e:fI (ae rs) k.1 k.2 with
  | none=>rfl
  | some es =>
   obtain ⟨t,ht,q,hq,e1,e2,-⟩:=nY e;have:=si (M:=fun _=>none) (rs:=rs) (k:=k) (.inr ⟨t,ht,q,hq,by rw [e1,e2]⟩);unfold nX at hk;rw [hk] at this; cases this
 yes k v hk:=by
  rcases El hk with h0 | ⟨t,ht,q,hq,e,ev⟩
  ·cases h0
  have hSF:=bq h;refine ⟨t,ht,q,hq,e,ev,?_,(hSF.2.2 t ht q hq).1⟩;cases e2:fI (ae rs) k.1 k.2 with
  | none=>exact (Lt e2 t.p (List.mem_map_of_mem ht) (by rw [e]; rfl) q.p (List.mem_map_of_mem hq) (by rw [e]; rfl)).elim
  | some es =>
   obtain ⟨t',ht',q',hq',e3,e4,e5⟩:=nY e2;have h1:t'=t:=FZ h ht' ht (by rw [e3,e]);subst h1;obtain ⟨i,hi,rfl⟩:=List.mem_iff_getElem.1 ht;have h2:q'=q:=F3 (lw h i hi).2.2 hq' hq (by rw [e4,e]);subst h2;rw [e5]
theorem Tab.some_iff {rs:List TR} {M:ByteArray × ByteArray→Option Value} (h:Tab rs M) (k:ByteArray × ByteArray):(M k).isSome=!(aA (ae rs) k.1 k.2).isEmpty:=by
 unfold aA;cases e:M k with
 | none=>rw [h.no k e]; rfl
 | some v =>
  obtain ⟨t,ht,q,hq,-,-,e1,e2⟩:=h.yes k v e;rw [e1];have:=lm e2;cases e3:aj q.rows with
  | nil=>rw [e3] at this; simp at this
  | cons x xs=>rfl
open Go.ChangeAt Go.ChangeShapes Go.RowKit Go.WideShapes
theorem zW (d:Dp):0≤stepOf d∧stepOf d≤1:=by unfold stepOf; split <;> omega
structure Mid (ts:List Ty) (n:Nat) (oS:List St) (k j:Nat) (mb:Bool) (out:List St):Prop where
 len:out.length=n
 nn:n=(ak ts).length
 round:Round ts out
 le:∀ i (h:i < out.length),i ≠ k→out[i].n≤n
 lek:∀ h:k < out.length,out[k].n≤n + 1 + j
 same:mb=false→out=oS∧(∀ i (h:i < out.length),i < k→Qr ts out out[i] (il ts out[i].key).length)∧∀ h:k < out.length,Qr ts out out[k] j
 grow:mG oS≤mG out∧(mb=true→mG oS < mG out)
theorem Mid.start {ts:List Ty} {n:Nat} {out:List St} (hl:out.length=n) (hn:n=(ak ts).length) (hr:Round ts out) (hle:∀ s ∈ out,s.n≤n):Mid ts n out 0 0 false out where
 len:=hl
 nn:=hn
 round:=hr
 le i h _:=hle _ (TQ h)
 lek h:=by have:=hle _ (TQ h); omega
 same _:=⟨rfl,fun i _ hi=>by omega,fun _ d hd=>by simp at hd⟩
 grow:=⟨Int.le_refl _,by simp⟩
theorem Mid.key {ts:List Ty} {n k j:Nat} {oS out:List St} {mb:Bool} (h:Mid ts n oS k j mb out) (hk:k < out.length) (hk2:k < (ak ts).length):out[k].key=(ak ts)[k]:=by
 have e:=h.round.keys;have:(iE out)[k]'(by simp [iE,hk])=(ak ts)[k]:=by simp only [e]
 rw [← this]; simp [iE]
def o8 (out:List St) (d:Dp):Int:=fO out (d.typ,d.rel) + stepOf d
theorem Mid.at {ts:List Ty} {n k j:Nat} {oS out:List St} {mb:Bool} (h:Mid ts n oS k j mb out) (key:ByteArray × ByteArray) (hk:key ∈ ak ts):∃ i:Nat,∃ hi:i < out.length,gP key.1 key.2 out 0=(i:Int)∧out[i].n=fO out key∧0≤fO out key∧fO out key≤n + 1 + j:=by
 obtain ⟨i,hi,h1,h2,h3⟩:=oV out 0 (k:=key) (by rw [h.round.keys]; exact hk);refine ⟨i,hi,by rw [h1]; congr 1; omega,h3,?_,?_⟩
 ·exact (h.round.at hk).1
 rw [← h3];by_cases e:i=k
 ·subst e; exact h.lek hi
 have:=h.le i hi e; omega
theorem Mid.no {ts:List Ty} {n k j:Nat} {oS out:List St} {mb:Bool} (h:Mid ts n oS k j mb out) (hk:k < out.length) (d:Dp) (hd:(il ts out[k].key)[j]?=some d) (hw:o8 out d≤out[k].n):Mid ts n oS k (j + 1) mb out where
 len:=h.len
 nn:=h.nn
 round:=h.round
 le:=h.le
 lek hh:=by have:=h.lek hh; omega
 same hm:=by
  obtain ⟨e,s1,s2⟩:=h.same hm;refine ⟨e,s1,fun hh d' hd'=>?_⟩;obtain ⟨hj,hd2⟩:=List.getElem?_eq_some_iff.1 hd;rw [TV hj] at hd';rcases Uc.1 hd' with hd' | hd'
  ·exact s2 hh d' hd'
  rw [hd2] at hd'; simp at hd'; subst hd'; exact hw
 grow:=h.grow
theorem Mid.yes {ts:List Ty} {n k j:Nat} {oS out:List St} {mb:Bool} (h:Mid ts n oS k j mb out) (hF:Found ts) (hk:k < out.length) (d:Dp) (hd:(il ts out[k].key)[j]?=some d) (hw:out[k].n < o8 out d):Mid ts n oS k (j + 1) true (out.set k ⟨out[k].typ,out[k].rel,o8 out d⟩) where
 len:=by rw [List.length_set]; exact h.len
 nn:=h.nn
 round:=h.round.set hF hk (List.mem_of_getElem? hd)
 le i hi hne:=by
  rw [List.getElem_set_ne (Ne.symm hne)];exact h.le i (by simpa using hi) hne
 lek hh:=by
  rw [List.getElem_set_self];show o8 out d≤_;obtain ⟨i,hi,-,-,-,h4⟩:=h.at (d.typ,d.rel) (hF _ (h.round.mem (TQ hk)) d (List.mem_of_getElem? hd));have:=zW d;unfold o8; push_cast; omega
 same hm:=by cases hm
 grow:=by
  have:=h.grow.1;rw [Oi _ _ hk];exact ⟨by omega,fun _=>by omega⟩
theorem Mid.next {ts:List Ty} {n k j:Nat} {oS out:List St} {mb:Bool} (h:Mid ts n oS k j mb out) (hk:k < out.length) (hj:j=(il ts out[k].key).length) (hle:out[k].n≤n):Mid ts n oS (k + 1) 0 mb out where
 len:=h.len
 nn:=h.nn
 round:=h.round
 le i hi _:=by
  by_cases e:i=k
  ·subst e; exact hle
  exact h.le i hi e
 lek hh:=by have:=h.le (k + 1) hh (by omega); omega
 same hm:=by
  obtain ⟨e,s1,s2⟩:=h.same hm;refine ⟨e,fun i hi hik=>?_,fun _ d hd=>by simp at hd⟩;by_cases e2:i=k
  ·subst e2; have:=s2 hi; rw [hj] at this; exact this
  exact s1 i hi (by omega)
 grow:=h.grow
theorem Mid.over {ts:List Ty} {n k j:Nat} {oS out:List St} {mb:Bool} (h:Mid ts n oS k j mb out) (hF:Found ts) (hk:k < out.length) (hn:(n:Int) < out[k].n):¬ ∃ f,Sol ts f :=
 IC hF (h.round.mem (TQ hk)) (h.round.low _ (TQ hk)) (by have:=h.nn; omega)
structure Pass (ts:List Ty) (n:Nat) (mb:Bool) (out:List St):Prop where
 len:out.length=n
 nn:n=(ak ts).length
 round:Round ts out
 le:∀ s ∈ out,s.n≤n
 sat:mb=false→∀ s ∈ out,Qr ts out s (il ts s.key).length
theorem Mid.done {ts:List Ty} {n k j:Nat} {oS out:List St} {mb:Bool} (h:Mid ts n oS k j mb out) (hk:k=n):Pass ts n mb out where
 len:=h.len
 nn:=h.nn
 round:=h.round
 le s hs:=by
  obtain ⟨i,hi,rfl⟩:=List.mem_iff_getElem.1 hs;exact h.le i hi (by have:=h.len; omega)
 sat hm s hs:=by
  obtain ⟨e,s1,s2⟩:=h.same hm;obtain ⟨i,hi,rfl⟩:=List.mem_iff_getElem.1 hs;exact s1 i hi (by have:=h.len; omega)
theorem Pass.least {ts:List Ty} {n:Nat} {out:List St} (h:Pass ts n false out):Least ts (fO out):=h.round.done (h.sat rfl)
theorem Pass.zero {ts:List Ty} {n:Nat} (hn:n=(ak ts).length):Pass ts n true (FY (ak ts)) where
 len:=by rw [Eh,hn]
 nn:=hn
 round:=⟨by unfold iE FY; rw [List.map_map]; exact List.map_id _,fun s hs=>by simp [FY] at hs; obtain ⟨a,b,-,rfl⟩:=hs; exact Int.le_refl _,fun s hs=>by simp [FY] at hs; obtain ⟨a,b,-,rfl⟩:=hs; exact qB.zero _ _⟩
 le s hs:=by simp [FY] at hs; obtain ⟨a,b,-,rfl⟩:=hs; simp
 sat h:=by cases h
theorem Qu (n:Int) (out:List St) (h:∀ s ∈ out,s.n≤n):mG out≤n * out.length:=by
 induction out with
 | nil=>simp [mG]
 | cons s xs ih =>
  have h1:=h s (by simp);have h2:=ih fun q hq=>h q (by simp [hq]);simp only [mG,List.length_cons];have:n * ((xs.length + 1:Nat):Int)=n * xs.length + n:=by push_cast; rw [Int.mul_add]; simp
  omega
structure RowS (w wr:World) (ad:Option Addr) (g:Nat) (out:List St):Prop where
 below:ag w wr
 at':out=[] ∨ (ad=some ⟨g,0,none⟩∧w.heap.size≤g∧g < wr.heap.size∧TF wr g out∧∀ j,wr.frozen? ⟨g,j,none⟩=false)
theorem S9.kept {w w':af} {b off:Nat} {s:St} (h:S9 w b off s) (hb:b < w.heap.size) (hB:ag w w'):S9 w' b off s:=⟨aG hB hb h.1,aG hB hb h.2.1,aG hB hb h.2.2⟩
theorem RowS.kept {w wr w2:af} {ad:Option Addr} {g:Nat} {out:List St} (h:RowS w wr ad g out) (hb:ag wr w2):RowS w w2 ad g out where
 below:=h.below.trans (hb.mono h.below.size)
 at':=by
  rcases h.at' with e | ⟨e,h1,h2,h3,h4⟩
  ·exact .inl e
  exact .inr ⟨e,h1,TP h2 hb.size,fun i hi=>(h3 i hi).kept h2 hb,fun j=>by rw [hb.frozen (p:=⟨g,j,none⟩) h2]; exact h4 j⟩
theorem RowS.slN {w wr:af} {ad:Option Addr} {g:Nat} {out:List St} (h:RowS w wr ad g out):Iq wr ad out:=by
 rcases h.at' with e | ⟨e,h1,h2,h3,h4⟩
 ·exact .inl e
 exact .inr ⟨g,0,e,h2,fun i hi=>by rw [Um]; exact h3 i hi⟩
theorem RowS.set {w wr:af} {ad:Option Addr} {g:Nat} {out:List St} (h:RowS w wr ad g out) {k:Nat} (hk:k < out.length) (n:Int):RowS w (wr.setCell ⟨g,k * 3 + 2,none⟩ (.int .i64 n)) ad g (out.set k ⟨out[k].typ,out[k].rel,n⟩):=by
 rcases h.at' with e | ⟨e,h1,h2,h3,h4⟩
 ·rw [e] at hk; simp at hk
 refine ⟨h.below.setCell (p:=⟨g,k * 3 + 2,none⟩) h1 _,.inr ⟨e,h1,by simpa using h2,fun i hi=>?_,fun j=>by simpa using h4 j⟩⟩;have hi':i < out.length:=by simpa using hi
 obtain ⟨c0,c1,c2⟩:=h3 i hi';by_cases ei:i=k
 ·subst ei;rw [List.getElem_set_self];exact ⟨by rw [lN (by omega)]; exact c0,by rw [lN (by omega)]; exact c1,xm c2⟩
 rw [List.getElem_set_ne (Ne.symm ei)];exact ⟨by rw [lN (by omega)]; exact c0,by rw [lN (by omega)]; exact c1,by rw [lN (by omega)]; exact c2⟩
def Ot (w:World) (g i:Nat):Int:=match w.cell? ⟨g,i * 3 + 2,none⟩ with | some (.int _ x)=>x | _=>0
def IJ (w:World) (g:Nat):Nat→Int
 | 0=>0
 | n + 1=>IJ w g n + Ot w g n
theorem F5 (xs ys:List St):mG (xs ++ ys)=mG xs + mG ys:=by
 induction xs with
 | nil=>simp [mG]
 | cons s xs ih=>simp only [List.cons_append,mG,ih]; omega
theorem TF.sum {w:af} {g:Nat} {out:List St} (h:TF w g out):∀ k,k≤out.length→IJ w g k=mG (out.take k)
 | 0,_=>by simp [IJ,mG]
 | k + 1,hk=>by
  have hlt:k < out.length:=by omega
  rw [TV hlt,F5];simp only [IJ,h.sum k (by omega),mG];have:Ot w g k=out[k].n:=by unfold Ot; rw [(h k hlt).2.2]
  omega
theorem RowS.sum {w wr:af} {ad:Option Addr} {g:Nat} {out:List St} (h:RowS w wr ad g out):IJ wr g out.length=mG out:=by
 rcases h.at' with e | ⟨e,h1,h2,h3,h4⟩
 ·rw [e]; simp [IJ,mG]
 rw [h3.sum _ (TS _),Ug]
def Ou:Value→Int
 | .bool true=>1
 | _=>0
def CP (w:World) (g n:Nat) (m:Value):Nat:=(2 * ((n:Int) * n - IJ w g n) + Ou m).toNat
theorem IK {ts:List Ty} {w wr w2:af} {ad:Option Addr} {g n:Nat} {oS out:List St} {mb:Bool} (hS:RowS w wr ad g oS) (hO:RowS w w2 ad g out) (h:Mid ts n oS n 0 mb out) (hl:oS.length=n):CP w2 g n (.bool mb) < CP wr g n (.bool true):=by
 have e1:=hS.sum;have e2:=hO.sum;have h3:=Qu n out fun s hs=>(h.done rfl).le s hs;have h2:=h.len;have h4:=h.grow;rw [hl] at e1;rw [h2] at e2 h3;unfold CP;rw [e1,e2];cases mb;case false=>simp only [Ou]; omega
 have:=h4.2 rfl; simp only [Ou]; omega
theorem Qv {w wr:af} {v:Value} {out:List St} (hB:ag w wr) (h:wr.ownsRow w.heap.size 162 3 v out.length (iG out)):∃ ad cp g,v=.slice ad out.length cp∧RowS w wr ad g out:=by
 rcases h.2 with ⟨rfl,h0⟩ | ⟨g,cp,cur,rfl,hbg,hg,hnc,-⟩
 ·exact ⟨none,0,0,by rw [h0],hB,.inl (Ui.1 h0)⟩
 obtain ⟨ad,cp',e,h0⟩:=Tq h;injection e with e1 e2 e3;refine ⟨some ⟨g,0,none⟩,cp,g,rfl,hB,?_⟩;rcases h0 with h0 | ⟨g',e4,h1,h2,h3⟩
 ·exact .inl (Ui.1 h0)
 rw [← e1] at e4; injection e4 with e4; injection e4 with e4;subst e4;exact .inr ⟨rfl,h1,h2,h3,fun j=>by simp [World.frozen?,hg]⟩
theorem Sm (ad:Option Addr) (cap n:Nat) (xs:List St) (key:ByteArray × ByteArray) (w:af) (hn:xs.length=n) (hlen:n≤1048576) (hs:Iq w ad xs) (i:Nat) (hat:gP key.1 key.2 xs 0=(i:Int)) :
  Calls prog 140 #[.slice ad n cap,.string key.1,.string key.2] w fun e w'=>e=.returned (.int .i64 (i:Int))∧w'=w:=by
 subst hn;rw [← hat];exact Oa ad cap xs key.1 key.2 w hlen hs
theorem AtD.set {w:af} {b off g o:Nat} {d:Dp} {v:Value} (h:AtD w b off d) (hn:g ≠ b):AtD (w.setCell ⟨g,o,none⟩ v) b off d:=⟨by rw [xq hn]; exact h.1,by rw [xq hn]; exact h.2.1,by rw [xq hn]; exact h.2.2⟩
theorem RB.set {w:af} {lo g o:Nat} {ad:Option Addr} {xs:List Dp} {v:Value} (h:RB w lo ad xs) (hg:g < lo):RB (w.setCell ⟨g,o,none⟩ v) lo ad xs:=by
 rcases h with h | ⟨b,e,h1,h2,h3⟩
 ·exact .inl h
 exact .inr ⟨b,e,h1,by simpa using h2,fun i hi=>(h3 i hi).set (by omega)⟩
theorem keepD {wr W w':af} {g o1 o2:Nat} {x y:Value} (h:W.cell? ⟨g,o1,none⟩=some x∧W.cell? ⟨g,o2,none⟩=some y∧g < W.heap.size∧ag wr W) (hb:ag W w') :
  w'.cell? ⟨g,o1,none⟩=some x∧w'.cell? ⟨g,o2,none⟩=some y∧g < w'.heap.size∧ag wr w' :=
 ⟨aG hb h.2.2.1 h.1,aG hb h.2.2.1 h.2.1,TP h.2.2.1 hb.size,h.2.2.2.trans (hb.mono h.2.2.2.size)⟩
theorem pO.small {rs:List TR} {ad:Option Addr} {rows:List ER} (h:pO rs ad rows) (hl:∀ r ∈ rs,∀ q ∈ r.rows,q.rows.length≤15∧∀ e ∈ q.rows,dV q.rows.length e.e.kids):rows.length≤15∧∀ e ∈ rows,dV rows.length e.e.kids:=by
 rcases h with rfl | ⟨t,ht,q,hq,rfl,-⟩
 ·exact ⟨by simp,by simp⟩
 exact hl t ht q hq
theorem zX (ts:List Ty) (ty over rel:bH):(ig ts ty over rel).length≤(aU (aA ts ty over)).length:=Io _ _ _
theorem IL (ts:List Ty) (typ:bH) (es:List Ex) (A G:Nat) (hA:∀ e ∈ es,e.allow.length≤A) (hG:∀ over rel,(ig ts typ over rel).length≤G) (k:Nat):(aN ts typ es k).length≤k * (A + G + 1):=by
 induction k with
 | zero=>simp [aN]
 | succ k ih =>
  simp only [aN,T9];have:(ik ts typ es k).length≤A + G + 1:=by
   unfold ik;split
   ·simp
   rename_i e he;have h1:=hA e (List.mem_of_getElem? he);have h2:=Cy ((dz es).getD k false) e.allow;have h3:(kM ts typ ((dz es).getD k false) e).length≤G + 1:=by
    unfold kM;split
    ·simp
    split
    ·have:=hG e.over e.name; simp; omega
    simp
   rw [T9]; omega
  have e:(k + 1) * (A + G + 1)=k * (A + G + 1) + (A + G + 1):=Nat.succ_mul _ _;omega
theorem BF (ts:List Ty) (typ:bH) (es:List Ex) (k:Nat) (h:es.length≤k):ik ts typ es k=[]:=by
 unfold ik;rw [List.getElem?_eq_none h]
theorem IM (ts:List Ty) (typ:bH) (es:List Ex) (B:Nat) (hB:∀ k,k≤es.length→(aN ts typ es k).length≤B) (k:Nat):(aN ts typ es k).length≤B:=by
 induction k with
 | zero=>exact hB 0 (TW _)
 | succ k ih =>
  by_cases h:k + 1≤es.length
  ·exact hB _ h
  simp only [aN];rw [BF _ _ _ _ (by omega),List.append_nil];exact ih
theorem F6 (rs:List RR) (n:bH) (es:List Ex) (h:jO (eD rs) n=some es):∃ q ∈ rs,es=aj q.rows:=by
 induction rs with
 | nil=>simp [eD,jO] at h
 | cons r rs ih =>
  simp only [eD,List.map_cons,jO] at h;split at h
  ·injection h with h; exact ⟨r,by simp,h.symm⟩
  obtain ⟨q,hq,e⟩:=ih h; exact ⟨q,by simp [hq],e⟩
theorem IP (ts:List TR) (ty n:bH) (es:List Ex) (h:fI (ae ts) ty n=some es):∃ t ∈ ts,∃ q ∈ t.rows,es=aj q.rows:=by
 induction ts with
 | nil=>simp [ae,fI] at h
 | cons t ts ih =>
  simp only [ae,List.map_cons,fI] at h;split at h
  ·rcases Option.or_eq_some_iff.1 h with h | ⟨-,h⟩
   ·obtain ⟨q,hq,e⟩:=F6 _ _ _ h; exact ⟨t,by simp,q,hq,e⟩
   obtain ⟨t',ht,q,hq,e⟩:=ih h; exact ⟨t',by simp [ht],q,hq,e⟩
  obtain ⟨t',ht,q,hq,e⟩:=ih h; exact ⟨t',by simp [ht],q,hq,e⟩
theorem xI (rs:List TR) (hl:∀ r ∈ rs,r.light) (typ over rel:bH):(ig (ae rs) typ over rel).length≤1048576:=by
 refine TZ (zX _ _ _ _) ?_;unfold aA;cases h:fI (ae rs) typ over with
 | none=>simp [aU]
 | some es =>
  obtain ⟨t,ht,q,hq,rfl⟩:=IP _ _ _ _ h;exact zB q.rows ((hl t ht).2 q hq).2
theorem zY (rs:List TR) (hl:∀ r ∈ rs,r.light) (typ:bH) (rows:List ER) (hle:rows.length≤15) (ZH:∀ q ∈ rows,q.e.light) (k:Nat):(aN (ae rs) typ (aj rows) k).length≤100000000:=by
 refine IM _ _ _ _ (fun k hk=>?_) k;refine TZ (IL _ _ _ 1048576 1048576 (fun e he=>?_) (xI rs hl typ) k) ?_
 ·obtain ⟨q,hq,rfl⟩:=Ue.1 he; exact (ZH q hq).1
 rw [aT] at hk; omega
open Go.Maps
def gy (ts:List Ty) (ty over rel:ByteArray):List ByteArray:=if bu (aA ts ty over) then ig ts ty over rel else []
theorem Lu:(prog.info? 9).map (fun i=>(i.zero,i.size,i.bytes))=some (some (.string ⟨#[]⟩),1,16):=by kernel_rfl
theorem IQ (r:ER) (h:bu (aj [r])=true):aU (aj [r])=r.e.allow∧r.e.kind=1:=by
 simp only [aj,List.map_cons,List.map_nil,bu,TU,Ud] at h;exact ⟨by simp [aj,aU,h.1],h.1⟩
theorem IR {rows:List ER} (h:bu (aj rows)=true):∃ r,rows=[r]:=by
 rcases rows with _ | ⟨r,_ | ⟨r2,rs⟩⟩
 ·simp [aj,bu] at h
 ·exact ⟨r,rfl⟩
 simp [aj,bu] at h
set_option maxRecDepth 100000 in
theorem xJ (b n:Nat) (rs:List TR) (ad:Option Addr) (M:ByteArray × ByteArray→Option Value) (typ:bH) (x:ER) (w:af) (hV:aM dQ prog 94 w b n M) (hT:Tab rs M) (hs:kW w ad rs) (hl:∀ r ∈ rs,r.light) (hf:∀ r ∈ rs,r.fits) (ht:typ.size≤maxLen) (ho:x.e.over.size≤maxLen) (hn:x.e.name.size≤maxLen) :
  Calls prog 185 #[.map (some b),.string typ,x.val] w fun e w'=>(∃ (UJ:Option Addr) (cap':Nat),e=.returned (.slice UJ (gy (ae rs) typ x.e.over x.e.name).length cap')∧Sg w' UJ (gy (ae rs) typ x.e.over x.e.name)∧∀ p,UJ=some p→w.heap.size≤p.block)∧ag w w':=by
 have HV:Hid (aM dQ prog 94 w b n M):=hV;have HT:=az hT;have HS:=az hs;have HL:=az hl;have UL:=az hf;obtain ⟨kl,hkl⟩:=jB (typ,x.e.over) ht ho;have Vm:Hid (keyOf prog 94 (dQ (typ,x.e.over))=some kl):=hkl;clear hkl hV hT hs hl hf;obtain ⟨i0,hi,hz0,hz1,hz2⟩:=info_parts Lu;obtain ⟨W0,hW0⟩:∃ W0,W0=w.alloc (.cells #[.int .i64 x.e.kind,.slice x.adA x.e.allow.length x.capA,.string x.e.over,.string x.e.name,.slice x.adK x.e.kids.length x.capK] 39):=⟨_,rfl⟩;have hal:ag w W0:=by rw [hW0]; exact (TT _ _).alloc (TS _) _
 have HB0:=az hal;have ZK:=az (HV.out.below hal);have c3:W0.cell? ⟨w.heap.size,3,none⟩=some (.string x.e.name):=by rw [hW0]; simp
 have hg0:w.heap.size < W0.heap.size:=by rw [hW0]; simp
 -- what lies in the table
 obtain ⟨rows,UC,capE,HM,HE,HF,HFL⟩:∃ (rows:List ER) (UC:Option Addr) (capE:Nat),Hid ((M (typ,x.e.over)).getD (.slice none 0 0)=.slice UC rows.length capE)∧Hid (aj rows=aA (ae rs) typ x.e.over)∧Hid (pO rs UC rows)∧Hid (∀ q ∈ rows,q.e.fits):=by
  cases e:M (typ,x.e.over) with
  | none=>exact ⟨[],none,0,rfl,by show _=_; unfold aA; rw [HT.out.no _ e]; rfl,.inl rfl,by show ∀ _,_; simp⟩
  | some v =>
   obtain ⟨t,ZL,q,hq,-,rfl,e1,-⟩:=HT.out.yes _ v e;exact ⟨q.rows,q.ad,q.cap,rfl,by show _=_; unfold aA; rw [e1]; rfl,.inr ⟨t,ZL,q,hq,rfl,rfl⟩,((UL.out t ZL).2.2 q hq).2.2⟩
 have WA:Hid (iH W0 UC rows):=HF.out.sl (HS.out.below hal);have Vj:=HF.out.light HL.out;have HLE1:rows.length≤1048576:=Vj.1;have Z5:Hid (∀ q ∈ rows,q.e.light):=Vj.2;clear Vj hal;go_enter func185,ntmps185;unfold ER.val;go_wp2_with (at_lookup; rw [← hW0]; refine jA _ rfl _ _ 91 rfl 94 33 ic underlying91 (lu _) b n M rfl ZK.out (typ,x.e.over) kl rfl Vm.out ?_; rw [HM.out]; clear hW0);refine (uR UC capE rows _ HLE1 WA.out Z5.out).mono ?_;rintro e w1 ⟨rfl,hb1⟩;have HB1:=jP HB0 hb1;have HNM:Hid (w1.cell? ⟨w.heap.size,3,none⟩=some (.string x.e.name)∧w.heap.size < w1.heap.size):=⟨aG hb1 hg0 c3,TP hg0 hb1.size⟩;clear hb1 c3 hg0;cases hd:bu (aj rows);case false=>
  have HG:Hid (gy (ae rs) typ x.e.over x.e.name=[]):=by show _=_; unfold gy; rw [← HE.out,hd]; rfl
  go_wp2;go_ret;refine ⟨⟨none,0,by rw [HG.out]; rfl,by rw [HG.out]; exact .inl rfl,fun p hp=>by cases hp⟩,HB1.out⟩
 obtain ⟨r,rfl⟩:=IR hd;have HG:Hid (gy (ae rs) typ x.e.over x.e.name=gl (ae rs) x.e.name r.e.allow):=by
  show _=_;unfold gy ig;rw [← HE.out,hd,if_pos rfl,(IQ r hd).1]
 rcases WA.out with h | ⟨bE,Z6,rfl,Z7,ZM,hokE⟩
 ·cases h
 have HSW:Hid (iH w1 (some ⟨bE,Z6,none⟩) [r]):=HF.out.sl (HS.out.below HB1.out);rcases HSW.out with h | ⟨bE',offE',heE,hbE1,hrE1,hokE1⟩
 ·cases h
 injection heE with heE; injection heE with heE1 heE2; subst heE1; subst heE2;obtain ⟨s0,s1,s2,s3,s4⟩:=hrE1 0 (by simp);simp only [Nat.zero_mul,Nat.add_zero,List.getElem_cons_zero] at s0 s1 s2 s3 s4;have HOKR:Hid (r.ok w):=by
  have h1:=HF.out.sl HS.out;exact h1.mem (by simp)
 have lgA:r.e.allow.length≤1048576:=(Z5.out r (by simp)).1;have HFA:Hid (∀ a ∈ r.e.allow,a.fits):=(HFL.out r (by simp)).1;have hone:([r]:List ER).length=1:=rfl;rw [hone];clear ZM hokE hrE1 hokE1 HE HM hd Z7;go_wp2_with fail;go_loopw [8,25] (fun v i wr=>∃ k:Nat,k≤r.e.allow.length∧i=.int .i64 k∧Hid (wr.ownsRow w.heap.size 9 1 v (gl (ae rs) x.e.name (r.e.allow.take k)).length (qy (gl (ae rs) x.e.name (r.e.allow.take k))))∧Hid (ag w wr)∧Hid (wr.cell? ⟨w.heap.size,3,none⟩=some (.string x.e.name)∧w.heap.size < wr.heap.size∧v.ownBlock ≠ some w.heap.size)) (fun _ i _=>r.e.allow.length - (intOf i).toNat);case atStart=>exact ⟨0,TW _,rfl,World.ownsRow_nil _ _ _ _,HB1,HNM.out.1,HNM.out.2,by simp [Value.ownBlock]⟩
 clear HB1 HNM s0 s1 s2 s3 s4;obtain ⟨k,hk,rfl,HOW,HB,HC⟩:=hrel;by_cases hlt:k < r.e.allow.length
 ·rcases (HOKR.out.1).below HB.out with hnil | ⟨ba,Wp,had,Yl,hra⟩
  ·rw [hnil] at hlt; simp at hlt
  obtain ⟨t0,t1⟩:=hra k hlt;have hk1:=bB k;have hk2:(k:Int) < (r.e.allow.length:Int):=by omega
  have zA:=HFA.out _ (TQ hlt);have z1:r.e.allow[k].t.size≤maxLen:=zA.1;obtain ⟨hc3,hcl,hco⟩:=HC.out;obtain ⟨W1,hW1⟩:∃ W1,W1=wr.alloc (.cells #[.string r.e.allow[k].t,.string r.e.allow[k].s] 43):=⟨_,rfl⟩;have hal:ag wr W1:=by rw [hW1]; exact (TT _ _).alloc (TS _) _
  have UG:=jP HB hal;have HVW:=az (HV.out.below UG.out);have Wz:Hid (W1.ownsRow w.heap.size 9 1 u8 (gl (ae rs) x.e.name (r.e.allow.take k)).length (qy (gl (ae rs) x.e.name (r.e.allow.take k)))):=own_below HOW.out hal;have g0:W1.cell? ⟨wr.heap.size,0,none⟩=some (.string r.e.allow[k].t):=by rw [hW1]; simp
  have g3:=aG hal hcl hc3;have hgl1:wr.heap.size < W1.heap.size:=by rw [hW1]; simp
  have hgl:=Io (ae rs) x.e.name (r.e.allow.take k);rw [Ut] at hgl;have HI:=HT.out.some_iff (r.e.allow[k].t,x.e.name);have hwsz:w.heap.size≤W1.heap.size:=UG.out.size;rw [had];clear hra hal HC HOW;go_wp2_with fail;rw [← hW1];refine (yH b n M r.e.allow[k].t x.e.name _ z1 hn HVW.out).mono ?_;rintro e w' ⟨rfl,hw'⟩;rw [hw'];clear hw' w' hW1 t0 t1 hc3;cases hz:(M (r.e.allow[k].t,x.e.name)).isSome;case false=>
   have HE:Hid (gl (ae rs) x.e.name (r.e.allow.take (k + 1))=gl (ae rs) x.e.name (r.e.allow.take k)):=by
    refine Ru _ _ _ _ hlt ?_;rw [hz] at HI;simpa using HI.symm
   clear HI;go_wp2;go_roundw;case rel=>exact ⟨k + 1,by omega,by go_num,by rw [HE.out]; exact Wz,UG,g3,by omega,hco⟩
   simp [intOf] <;> omega
  have HX:Hid (gl (ae rs) x.e.name (r.e.allow.take (k + 1))=gl (ae rs) x.e.name (r.e.allow.take k) ++ [r.e.allow[k].t]):=by
   refine N8 _ _ _ _ hlt ?_;rw [hz] at HI;simpa using HI.symm
  clear HI;go_wp2_with (at_builtin; refine wpList_append_own_at _ rfl _ _ 142 rfl w.heap.size 9 i0 (.string ⟨#[]⟩) 1 16 underlying142 hi hz0 hz1 hz2 rfl (by decide) _ _ _ rfl (Wz.out.alloc _) ⟨W1.heap.size,0,none⟩ 1 1 [.string r.e.allow[k].t] rfl rfl (cell_one_new _ _ _) (by intro u hu; simp at hu; subst hu; rfl) (by unfold maxLen; omega) (by omega) (by simp; omega) ?_);intro v' w3 hown3 hgrow _ hloc;have hb3:Hid (ag w w3):=(UG.out.alloc UG.out.size _).grown hgrow (by simp; omega) (fun i hi=>(Wz.out.lt i hi).1);have UX:Hid (w3.ownsRow w.heap.size 9 1 v' (gl (ae rs) x.e.name (r.e.allow.take (k + 1))).length (qy (gl (ae rs) x.e.name (r.e.allow.take (k + 1))))):=by
   show World.ownsRow _ _ _ _ _ _ _;rw [HX.out];simpa [qy] using hown3
  have Xu:Hid (w3.cell? ⟨w.heap.size,3,none⟩=some (.string x.e.name)∧w.heap.size < w3.heap.size∧v'.ownBlock ≠ some w.heap.size):=by
   refine ⟨?_,?_,?_⟩
   ·rw [hgrow.cell_far _ (by simp; omega) (Ne.symm hco)]; exact aG ((TT _ _).alloc (TS _) _) (by omega) g3
   ·have:=hgrow.size; simp at this; omega
   rcases hloc with e | e
   ·rw [e]; exact hco
   rw [e]; simp; omega
  clear hown3 hgrow hloc Wz g0 g3;go_wp2;go_roundw;case rel=>exact ⟨k + 1,by omega,by go_num,UX,hb3,Xu⟩
  simp [intOf] <;> omega
 obtain rfl:k=r.e.allow.length:=by omega
 have hown:=HOW.out;rw [Ug] at hown;obtain ⟨UJ,cp,rfl,hS',hN'⟩:=N9 hown;have HS2:=az hS';have VY:Hid (∀ p,UJ=some p→w.heap.size≤p.block):=hN';clear hown HOW hS' hN' HC;go_wp2;go_ret;refine ⟨⟨UJ,cp,by rw [HG.out]; rfl,by rw [HG.out]; exact HS2.out,VY.out⟩,HB.out⟩
end Go.Proofs.YtajkkeikihhejaaGreat
