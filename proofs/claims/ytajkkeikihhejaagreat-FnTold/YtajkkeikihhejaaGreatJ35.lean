/- What is there is just what holds by all that is there. -/
import Derived.Test.YtajkkeikihhejaaGreatSq
import Derived.Test.YtajkkeikihhejaaGreatFactsQ
namespace Go.Proofs.YtajkkeikihhejaaGreat
set_option linter.unusedVariables false
set_option linter.unusedSectionVars false
open Pl
theorem xh {xs:List Al} {o x:Al}:x ∈ aZ xs o ↔ x ∈ xs ∨ x=o:=by
 unfold aZ;split
 ·rename_i h;exact ⟨.inl,fun h'=>h'.elim id fun e=>e ▸ OA.1 h⟩
 simp
theorem E9:∀ (ts:List Tp) (xs:List Al) (o:Al),(o ∈ xs ∨ ∃ t ∈ ts,o=⟨t.a,t.b⟩ ∨ o=⟨t.c,t.d⟩)→o ∈ ts.foldl fP xs
 | [],xs,o,h=>h.elim id fun ⟨t,ht,_⟩=>by cases ht
 | t::ts,xs,o,h=>by
  refine E9 ts (fP xs t) o ?_;unfold fP;simp only [xh];rcases h with h | ⟨u,hu,h⟩
  ·exact .inl (.inl (.inl h))
  rcases List.mem_cons.1 hu with rfl | hu
  ·rcases h with h | h
   ·exact .inl (.inl (.inr h))
   exact .inl (.inr h)
  exact .inr ⟨u,hu,h⟩
theorem KN:∀ (ts:List Tp) (xs:List Al) (o:Al),(o ∈ xs ∨ ∃ t ∈ ts,t.s.toList.isEmpty=true∧o=⟨t.c,t.d⟩)→o ∈ ts.foldl cu xs
 | [],xs,o,h=>h.elim id fun ⟨t,ht,_⟩=>by cases ht
 | t::ts,xs,o,h=>by
  refine KN ts (cu xs t) o ?_;rcases h with h | ⟨u,hu,hs,h⟩
  ·refine .inl ?_;unfold cu;split
   ·exact xh.2 (.inl h)
   exact h
  rcases List.mem_cons.1 hu with rfl | hu
  ·refine .inl ?_;unfold cu;rw [if_pos (by simpa using hs)];exact xh.2 (.inr h)
  exact .inr ⟨u,hu,hs,h⟩
theorem pJ {l:List Tp} {es:List Ex} {truth known:List Fc} {f:Fc} (h5:∀ e ∈ es,e.kind=5→e.kids ≠ []) (hkn:∀ g ∈ known,(⟨g.a,g.b⟩:Al) ∈ eB l∧(⟨g.c,g.d⟩:Al) ∈ cZ l):∀ (k n:Nat),dS l es truth f k known n=true→(⟨f.a,f.b⟩:Al) ∈ eB l∧(⟨f.c,f.d⟩:Al) ∈ cZ l
 | 0,n,h=>by cases h
 | k + 1,n,h=>by
  unfold dS at h;cases e:es[n]? with
  | none=>rw [e] at h; cases h
  | some x =>
   rw [e] at h;simp only at h;by_cases k1:x.kind=1
   ·rw [if_pos k1] at h;unfold dY at h;obtain ⟨t,ht,h⟩:=Uo.1 h;simp only [TU,beq_iff_eq] at h;obtain ⟨⟨⟨h1,h2⟩,h3⟩,h4⟩:=h;refine ⟨E9 _ _ _ (.inr ⟨t,ht,.inl (by rw [fJ h1,fJ h2])⟩),?_⟩;split at h4
    ·rename_i hs;simp only [TU,beq_iff_eq] at h4;exact KN _ _ _ (.inr ⟨t,ht,hs,by rw [fJ h4.1,fJ h4.2]⟩)
    exact (hkn _ (dB.1 h4)).2
   rw [if_neg k1] at h;by_cases k2:x.kind=2
   ·rw [if_pos k2] at h;have h2:=hkn _ (dB.1 h);exact h2
   rw [if_neg k2] at h;by_cases k3:x.kind=3
   ·rw [if_pos k3] at h;unfold gp at h;obtain ⟨t,ht,h⟩:=Uo.1 h;simp only [TU,beq_iff_eq] at h;obtain ⟨⟨⟨h1,h2⟩,h3⟩,h4⟩:=h;exact ⟨E9 _ _ _ (.inr ⟨t,ht,.inl (by rw [fJ h1,fJ h2])⟩),(hkn _ (dB.1 h4)).2⟩
   rw [if_neg k3] at h;by_cases k4:x.kind=4
   ·rw [if_pos k4] at h;obtain ⟨i,-,h⟩:=Uo.1 h;exact pJ h5 hkn k _ h
   rw [if_neg k4] at h;by_cases k5:x.kind=5
   ·rw [if_pos k5] at h;obtain ⟨i,hi⟩:=List.exists_mem_of_ne_nil _ (h5 x (List.mem_of_getElem? e) k5);exact pJ h5 hkn k _ (Ub.1 h i hi)
   rw [if_neg k5] at h;by_cases k6:x.kind=6
   ·rw [if_pos k6] at h;exact pJ h5 hkn k _ (Bool.and_eq_true_iff.1 h).1
   rw [if_neg k6] at h; cases h
theorem Hm {ts:List Tp} (h:dJ ts=true):∀ t ∈ ts,t.ok=true:=fun t ht=>by
 unfold dJ at h;simp only [TU] at h;obtain ⟨i,hi,rfl⟩:=Uu ht;have h1:=h.2;unfold tH at h1;have h2:=Ub.1 h1 i (by simpa using hi);unfold uO at h2;rw [TY hi] at h2;exact (Bool.and_eq_true_iff.1 h2).1
section
variable [DecidableEq Fc]
theorem Ho (ts:List Ty) (l:List Tp) (st:ByteArray × ByteArray→Int) (xo xu:List Al):∀ N,ma ts l st xo xu N=uG (fC ts l) (fun n=>bY ts st xo xu (n:Int)) N
 | 0=>rfl
 | N + 1=>by rw [jl,Ho ts l st xo xu N]; rfl
theorem M7 {rs:List TR} (hsh:bi (ae rs)=true) (a r:bH):∀ e ∈ aA (ae rs) a r,e.kind=5→e.kids ≠ []:=by
 intro e he k5;cases hp:fI (ae rs) a r with
 | none=>unfold aA at he; rw [hp] at he; cases he
 | some es =>
  unfold aA at he; rw [hp] at he;obtain ⟨t0,ht0,r0,hr0,en,er,ee⟩:=qE hp;have hspec:=(tO hsh ht0 hr0).2;rw [ee] at hspec;have h4:es.all av=true:=by simp only [aK,TU] at hspec; exact hspec.1.1.1.2
  have:=Ub.1 h4 e he;unfold av at this;rw [if_neg (by omega),if_neg (by omega),if_neg (by omega),if_pos (.inr k5)] at this;simp only [TU,Ud] at this;intro h0;rw [h0] at this;simp at this
theorem Fa {st:ByteArray × ByteArray→Int} {rs:List TR} {ts:List Tp} (hle:aJ (ae rs)=true→Least (ae rs) st) (hr:aQ (gV rs) rs ts=true) (f:Fc):bP (bC st rs ts) f=fC (ae rs) ts (bC st rs ts) f:=by
 have hr2:=hr;unfold aQ at hr2;simp only [TU] at hr2;have hSP:=aY.1 hr2.1.1;have Wl:=hle hr2.1.1;have hfit:∀ t ∈ ts,Ju (ae rs) t=true:=fun t ht=>by
  have h1:=Ub.1 hr2.2 t ht;rw [← wY hr2.1.1 (Hm hr2.1.2 t ht)] at h1;exact h1
 have hL:=EG Wl.sol hSP.1 hSP.2.1 hfit;have hen:∀ k ∈ ak (ae rs),hasB (ae rs) k.1 k.2=true:=fun k hk=>by
  obtain ⟨es,h1,h2⟩:=Hf hSP.1 hk;rw [Gs];unfold aA;rw [h1];intro e;have e2:es=[]:=e;rw [e2] at h2;simp [aK] at h2
 have hq:∀ n:Nat,∀ g ∈ bY (ae rs) st (eB ts) (cZ ts) (n:Int),P9 (ae rs) st g=(n:Int):=fun n g hg=>Jv hen hg;have hsub:∀ g ∈ bC st rs ts,(⟨g.a,g.b⟩:Al) ∈ eB ts∧(⟨g.c,g.d⟩:Al) ∈ cZ ts:=fun g hg=>by
  rw [iw hr] at hg;have h1:=(kF st rs ts (eB ts) (cZ ts) _).sub g hg;unfold BI at h1;obtain ⟨o,ho,h1⟩:=Uf.1 h1;obtain ⟨k,hk,h1⟩:=Uf.1 h1;unfold ja at h1;obtain ⟨u,hu,rfl⟩:=Ue.1 h1;exact ⟨ho,hu⟩
 rw [Bool.eq_iff_iff,dB];have e:bC st rs ts=uG (fC (ae rs) ts) (fun n=>bY (ae rs) st (eB ts) (cZ ts) (n:Int)) ((ak (ae rs)).length + 1):=by
  rw [iw hr]; exact Ho _ _ _ _ _ _
 constructor
 ·intro h;rw [e] at h ⊢;exact KY hL hq h
 intro h;obtain ⟨ho,hu⟩:=pJ (M7 hSP.1 f.a f.r) hsub _ _ h;have hne:aA (ae rs) f.a f.r ≠ []:=fun h0=>by
  unfold fC at h; rw [h0] at h; cases h
 have hk:(f.a,f.r) ∈ ak (ae rs):=ry (by simpa using hne);have hp:=Wl.sol.pos (f.a,f.r);have hlt:st (f.a,f.r) < ((ak (ae rs)).length:Int):=by
  refine Classical.byContradiction fun hc=>?_;exact absurd ⟨st,Wl.sol⟩ (IC (kw hSP.2.1) hk (Wl.low _ hk) (by omega))
 rw [e] at h ⊢;refine NU hL hq (n:=(st (f.a,f.r)).toNat) (by omega) ?_ h;unfold bY uZ Af ja;refine Uf.2 ⟨_,ho,Uf.2 ⟨(f.a,f.r),Ux.2 ⟨hk,?_⟩,Ue.2 ⟨_,hu,rfl⟩⟩⟩;simp only [BEq.rfl,Bool.true_and,Ud];omega
end
section
variable [DecidableEq Fc]
theorem Rm {rs:List TR} {ts:List Tp} (hr:aQ (gV rs) rs ts=true):∀ t ∈ ts,Ju (ae rs) t=true:=fun t ht=>by
 unfold aQ at hr;simp only [TU] at hr;have h1:=Ub.1 hr.2 t ht;rw [← wY hr.1.1 (Hm hr.1.2 t ht)] at h1;exact h1
theorem told_plain {st:ByteArray × ByteArray→Int} {rs:List TR} {ts:List Tp} (hle:aJ (ae rs)=true→Least (ae rs) st) (hr:aQ (gV rs) rs ts=true) (f:Fc) {x:Ex} (hx:aA (ae rs) f.a f.r=[x]) (hk:x.kind=1) (ha:∀ a ∈ x.allow,a.s.toList.isEmpty=true):bP (bC st rs ts) f=l7 ts ⟨f.a,f.b,f.r,f.c,f.d,⟨#[]⟩⟩:=by
 rw [Fa hle hr];unfold fC;rw [hx];show dS ts [x] _ f 1 _ 0=_;unfold dS;show (if x.kind=1 then dY ts _ f else _)=_;rw [if_pos hk];have he:(⟨#[]⟩:ByteArray).toList=[]:=by rw [Go.ByteArray.toList_eq]
 unfold dY l7;refine yJ fun t ht=>?_;unfold Ee;simp only [he];by_cases h:(t.a.toList == f.a.toList && t.b.toList == f.b.toList && t.r.toList == f.r.toList)=true
 ·have hf:=Rm hr t ht;unfold Ju at hf;simp only [TU,beq_iff_eq] at h;obtain ⟨⟨h1,h2⟩,h3⟩:=h;rw [fJ h1,fJ h3,hx] at hf;simp only [List.any_cons,List.any_nil,Bool.or_false,TU] at hf;have hs:=ha _ (wR hf.2);have hs':t.s.toList=[]:=by simpa using hs
  simp only [h1,h2,h3,hs',BEq.rfl,Bool.true_and,List.isEmpty_nil,if_true,Bool.and_true]
 have h0:(t.a.toList == f.a.toList && t.b.toList == f.b.toList && t.r.toList == f.r.toList)=false:=by simpa using h
 rw [h0]; rfl
end
end Go.Proofs.YtajkkeikihhejaaGreat
