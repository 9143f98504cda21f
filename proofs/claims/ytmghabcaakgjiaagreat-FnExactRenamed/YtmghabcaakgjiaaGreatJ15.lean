/- Regions whose operations may stand late behind one another: only what binds in every order counts. -/
import Derived.Test.YtmghabcaakgjiaaGreatJ4
import Derived.Test.YtmghabcaakgjiaaGreatJ5
namespace Go.Proofs.YtmghabcaakgjiaaGreat
open Go.RowKit
variable {P : Program} {ops : Array Oper} {Q : Exit → Act → World → Prop}
def ordOkB (ops : Array Oper) : Bool := (List.range ops.size).all (fun i => (ops[i]?.map (fun o => o.after.all (fun e => !Region.binds .any e || decide (e.on < i)))).getD true)
theorem ordOkB_of {ops : Array Oper} (h : ordOkB ops = true) : ∀ (i : Nat) (o : Oper), ops[i]? = some o → ∀ e ∈ o.after, Region.binds .any e = true → e.on < i := by
 intro i o ho e he hb
 rw [ordOkB, List.all_eq_true] at h
 have h1 := h i (by simpa using (Array.getElem?_eq_some_iff.1 ho).1)
 rw [ho] at h1
 simp only [Option.map_some, Option.getD_some, Array.all_eq_true_iff_forall_mem] at h1
 have h2 := h1 e he
 rw [hb] at h2
 simpa using h2
theorem all_listedB {listed : Array Bool} {n : Nat} (hr : Region.ready .any ops listed = []) (hs : ops.size = n) (hord : ∀ (i : Nat) (o : Oper), ops[i]? = some o → ∀ e ∈ o.after, Region.binds .any e = true → e.on < i) (hsz : listed.size = n) : ∀ i, i < n → listed.getD i true = true := by
 intro i
 induction i using Nat.strongRecOn with
 | ind i ih =>
  intro hi
  cases hl : listed.getD i true with
  | true => rfl
  | false =>
   exfalso
   have hmem : i ∈ Region.ready .any ops listed := by
    refine mem_ready.2 ⟨hl, ops[i]'(by omega), Array.getElem?_eq_getElem (by omega), fun e he hb => ?_⟩
    have hlt := hord i _ (Array.getElem?_eq_getElem (by omega)) e he hb
    have := ih e.on hlt (by omega)
    rw [Array.getD_eq_getD_getElem?, Array.getElem?_eq_getElem (by omega)] at this ⊢
    simpa using this
   rw [hr] at hmem
   cases hmem
end Go.Proofs.YtmghabcaakgjiaaGreat
namespace Go.Proofs.YtmghabcaakgjiaaGreat
open Go.RowKit
section
variable {P : Program} {ops : Array Oper} {Q : Exit → Act → World → Prop}
theorem wp_region_frame2 {id : Nat} {a : Act} {w : World} (L : Nat) (f0 : Nat → Value) (F : (Nat → Value) → Act) (I : (Nat → Bool) → (Nat → Value) → World → Prop)
  (hm : P.follows .mixedOrders = true) (hsz : ops.size = L + 1) (hord : ordOkB ops = true)
  (hcl : ∀ o, ops[L]? = some o → ∀ (l : Nat → Bool) f w', I l f w' → (∀ e ∈ o.after, Region.binds .any e = true → l e.on = true) → ∀ k, k < L → l k = true)
  (h0 : a = F f0) (hI0 : I (fun _ => false) f0 w.drew)
  (hstep : ∀ i, i < L → ∀ o, ops[i]? = some o → ∀ (l : Nat → Bool) f w', l i = false → I l f w' → (∀ e ∈ o.after, Region.binds .any e = true → l e.on = true) →
   wpOp P ops Q i (fun a' w'' => ∃ v, a' = F (upd f i v) ∧ I (fun k => if k = i then true else l k) (upd f i v) w'') (F f) w')
  (hfin : ∀ o, ops[L]? = some o → ∀ (l : Nat → Bool) f w', (∀ k, k < L → l k = true) → I l f w' → wpOp P ops Q L (fun a' w'' => Q .normal a' w'') (F f) w') :
  (Code.region id ops true).wp P Q a w := by
 refine wp_region_inv (fun listed a' w' => listed.size = L + 1 ∧ ((listed.getD L false = false ∧ ∃ f, a' = F f ∧ I (fun k => listed.getD k false) f w') ∨ ((∀ j, j ≤ L → listed.getD j true = true) ∧ Q .normal a' w'))) hm ?_ ?_ ?_
 ·refine ⟨by simpa using hsz, Or.inl ⟨?_, _, h0, ?_⟩⟩
  ·rw [Array.getD_eq_getD_getElem?, Array.getElem?_replicate]; split <;> rfl
  ·have : (fun k => (Array.replicate ops.size false).getD k false) = fun _ => false := funext fun k => by rw [Array.getD_eq_getD_getElem?, Array.getElem?_replicate]; split <;> rfl
   rw [this]; exact hI0
 ·rintro listed a' w' ⟨hs, h⟩ i hi
  obtain ⟨hl, o, ho, hpre⟩ := mem_ready.1 hi
  have hiL : i < L + 1 := by have := (Array.getElem?_eq_some_iff.1 ho).1; omega
  rcases h with ⟨hn, f, rfl, hI⟩ | ⟨hall, -⟩
  ·by_cases e : i = L
   ·subst e
    have hall : ∀ k, k < i → listed.getD k false = true := hcl o ho _ f w' hI (fun e he hb => hpre e he hb)
    refine wpOp_mono (fun a'' w'' hq => ⟨by simpa using hs, Or.inr ⟨fun j hj => ?_, hq⟩⟩) (hfin o ho _ f w' hall hI)
    rw [getTF (by simp; omega), getF_set' _ _ _ (by omega)]
    by_cases e : j = i
    ·simp [e]
    ·rw [if_neg e]; exact hall j (by omega)
   ·refine wpOp_mono ?_ (hstep i (by omega) o ho _ f w' (by rw [← getTF (by omega)]; exact hl) hI (fun e he hb => hpre e he hb))
    rintro a'' w'' ⟨v, rfl, hI'⟩
    refine ⟨by simpa using hs, Or.inl ⟨?_, _, rfl, ?_⟩⟩
    ·rw [getF_set' _ _ _ (by omega), if_neg (Ne.symm e)]; exact hn
    ·have : (fun k => (listed.setIfInBounds i true).getD k false) = fun k => if k = i then true else listed.getD k false := funext fun k => getF_set' _ _ _ (by omega)
     rw [this]; exact hI'
  ·rw [hall i (by omega)] at hl; cases hl
 ·rintro listed a' w' ⟨hs, h⟩ hr
  rcases h with ⟨hn, -⟩ | ⟨-, hq⟩
  ·have := all_listedB hr hsz (ordOkB_of hord) hs L (by omega)
   rw [getTF (by omega)] at this
   rw [this] at hn; cases hn
  ·exact hq
end
end Go.Proofs.YtmghabcaakgjiaaGreat
namespace Go.Proofs.YtmghabcaakgjiaaGreat.G
set_option linter.unusedVariables false
open Go.RowKit
structure CH (c : Nat) (D : Nat → List Nat) (C : Nat → Value) (RF M0 : World → Prop) (M1 : Value → World → Prop) (bld : Value → Value) (M3 M4 : Value → World → Prop) (l : Nat → Bool) (f : Nat → Value) (w : World) : Prop where
 val : ∀ k, (k < c ∨ k = c + 4) → l k = true → f k = C k
 dep : ∀ i, l i = true → ∀ j ∈ D i, l j = true
 rf : RF w
 mid : (l c = false ∧ l (c + 1) = false ∧ l (c + 2) = false ∧ l (c + 3) = false ∧ M0 w) ∨ (l c = true ∧ l (c + 1) = false ∧ l (c + 2) = false ∧ l (c + 3) = false ∧ M1 (f c) w) ∨
  (l c = true ∧ l (c + 1) = true ∧ l (c + 2) = false ∧ l (c + 3) = false ∧ f (c + 1) = bld (f c) ∧ M1 (f c) w) ∨ (l c = true ∧ l (c + 1) = true ∧ l (c + 2) = true ∧ l (c + 3) = false ∧ M3 (f (c + 2)) w) ∨ (l c = true ∧ l (c + 1) = true ∧ l (c + 2) = true ∧ l (c + 3) = true ∧ M4 (f (c + 3)) w)
section
variable {c : Nat} {D : Nat → List Nat} {C : Nat → Value} {RF M0 : World → Prop} {M1 : Value → World → Prop} {bld : Value → Value} {M3 M4 : Value → World → Prop} {l : Nat → Bool} {f : Nat → Value} {w : World}
theorem ch_start {W : World} (h : RF W) (h0 : M0 W) : CH c D C RF M0 M1 bld M3 M4 (fun _ => false) f W :=
 ⟨fun _ _ h => (by cases h), fun _ h => (by cases h), h, .inl ⟨rfl, rfl, rfl, rfl, h0⟩⟩
theorem dep_put {i : Nat} (h : ∀ i, l i = true → ∀ j ∈ D i, l j = true) (hi : ∀ j ∈ D i, l j = true) : ∀ k, (if k = i then true else l k) = true → ∀ j ∈ D k, (if j = i then true else l j) = true := by
 intro k hk j hj
 have : l j = true := by
  by_cases e : k = i
  ·subst e; exact hi j hj
  ·rw [if_neg e] at hk; exact h k hk j hj
 rw [this]; split <;> rfl
theorem CH.put (h : CH c D C RF M0 M1 bld M3 M4 l f w) {i : Nat} (hi : i < c ∨ i = c + 4) (hd : ∀ j ∈ D i, l j = true) {v : Value} (hv : v = C i) : CH c D C RF M0 M1 bld M3 M4 (fun k => if k = i then true else l k) (upd f i v) w := by
 have e : ∀ d, d < 4 → (if c + d = i then true else l (c + d)) = l (c + d) := fun d hd => if_neg (by omega)
 have g : ∀ d, d < 4 → upd f i v (c + d) = f (c + d) := fun d hd => by simp only [upd]; rw [if_neg (by omega)]
 have e0 := e 0 (by omega); have e1 := e 1 (by omega); have e2 := e 2 (by omega); have e3 := e 3 (by omega)
 have g0 := g 0 (by omega); have g1 := g 1 (by omega); have g2 := g 2 (by omega); have g3 := g 3 (by omega)
 simp only [Nat.add_zero] at e0 g0
 refine ⟨fun k hk hl => ?_, dep_put h.dep hd, h.rf, ?_⟩
 ·by_cases e : k = i
  ·subst e; simp [upd, hv]
  ·simp only [if_neg e] at hl
   simp only [upd, if_neg e]; exact h.val k hk hl
 ·simp only [e0, e1, e2, e3, g0, g1, g2, g3]; exact h.mid
theorem CH.m0 (h : CH c D C RF M0 M1 bld M3 M4 l f w) (hl : l c = false) : M0 w ∧ l (c + 1) = false ∧ l (c + 2) = false ∧ l (c + 3) = false := by
 rcases h.mid with ⟨_, h1, h2, h3, h4⟩ | ⟨h0, _⟩ | ⟨h0, _⟩ | ⟨h0, _⟩ | ⟨h0, _⟩
 ·exact ⟨h4, h1, h2, h3⟩
 all_goals rw [h0] at hl; cases hl
theorem CH.call (h : CH c D C RF M0 M1 bld M3 M4 l f w) (hl : l c = false) (hd : ∀ j ∈ D c, l j = true) {v : Value} {w' : World} (hr : RF w') (h1 : M1 v w') : CH c D C RF M0 M1 bld M3 M4 (fun k => if k = c then true else l k) (upd f c v) w' := by
 obtain ⟨-, a1, a2, a3⟩ := h.m0 hl
 refine ⟨fun k hk hl2 => ?_, dep_put h.dep hd, hr, .inr (.inl ⟨by simp, by simpa using a1, by simpa using a2, by simpa using a3, by simpa [upd] using h1⟩)⟩
 have e : k ≠ c := by omega
 simp only [if_neg e] at hl2
 simp only [upd, if_neg e]; exact h.val k hk hl2
theorem CH.m1 (h : CH c D C RF M0 M1 bld M3 M4 l f w) (h0 : l c = true) (hl : l (c + 1) = false) : M1 (f c) w ∧ l (c + 2) = false ∧ l (c + 3) = false := by
 rcases h.mid with ⟨a, _⟩ | ⟨_, _, h2, h3, h4⟩ | ⟨_, a, _⟩ | ⟨_, a, _⟩ | ⟨_, a, _⟩
 ·rw [a] at h0; cases h0
 ·exact ⟨h4, h2, h3⟩
 all_goals rw [a] at hl; cases hl
theorem CH.build (h : CH c D C RF M0 M1 bld M3 M4 l f w) (h0 : l c = true) (hl : l (c + 1) = false) (hd : ∀ j ∈ D (c + 1), l j = true) {v : Value} (hv : v = bld (f c)) : CH c D C RF M0 M1 bld M3 M4 (fun k => if k = c + 1 then true else l k) (upd f (c + 1) v) w := by
 obtain ⟨a1, a2, a3⟩ := h.m1 h0 hl
 refine ⟨fun k hk hl2 => ?_, dep_put h.dep hd, h.rf, .inr (.inr (.inl ⟨by simpa using h0, by simp, by simpa using a2, by simpa using a3, by simpa [upd] using hv, by simpa [upd] using a1⟩))⟩
 have e : k ≠ c + 1 := by omega
 simp only [if_neg e] at hl2
 simp only [upd, if_neg e]; exact h.val k hk hl2
theorem CH.m2 (h : CH c D C RF M0 M1 bld M3 M4 l f w) (h1 : l (c + 1) = true) (hl : l (c + 2) = false) : f (c + 1) = bld (f c) ∧ M1 (f c) w ∧ l c = true ∧ l (c + 3) = false := by
 rcases h.mid with ⟨_, a, _⟩ | ⟨_, a, _⟩ | ⟨h0, _, _, h3, h4, h5⟩ | ⟨_, _, a, _⟩ | ⟨_, _, a, _⟩
 ·rw [a] at h1; cases h1
 ·rw [a] at h1; cases h1
 ·exact ⟨h4, h5, h0, h3⟩
 all_goals rw [a] at hl; cases hl
theorem CH.lay (h : CH c D C RF M0 M1 bld M3 M4 l f w) (h1 : l (c + 1) = true) (hl : l (c + 2) = false) (hd : ∀ j ∈ D (c + 2), l j = true) {v : Value} {w' : World} (hr : RF w') (h3 : M3 v w') : CH c D C RF M0 M1 bld M3 M4 (fun k => if k = c + 2 then true else l k) (upd f (c + 2) v) w' := by
 obtain ⟨-, -, a0, a3⟩ := h.m2 h1 hl
 refine ⟨fun k hk hl2 => ?_, dep_put h.dep hd, hr, .inr (.inr (.inr (.inl ⟨by simpa using a0, by simpa using h1, by simp, by simpa using a3, by simpa [upd] using h3⟩)))⟩
 have e : k ≠ c + 2 := by omega
 simp only [if_neg e] at hl2
 simp only [upd, if_neg e]; exact h.val k hk hl2
theorem CH.m3 (h : CH c D C RF M0 M1 bld M3 M4 l f w) (h2 : l (c + 2) = true) (hl : l (c + 3) = false) : M3 (f (c + 2)) w ∧ l c = true ∧ l (c + 1) = true := by
 rcases h.mid with ⟨_, _, a, _⟩ | ⟨_, _, a, _⟩ | ⟨_, _, a, _⟩ | ⟨h0, h1, _, _, h4⟩ | ⟨_, _, _, a, _⟩
 ·rw [a] at h2; cases h2
 ·rw [a] at h2; cases h2
 ·rw [a] at h2; cases h2
 ·exact ⟨h4, h0, h1⟩
 ·rw [a] at hl; cases hl
theorem CH.app (h : CH c D C RF M0 M1 bld M3 M4 l f w) (h2 : l (c + 2) = true) (hl : l (c + 3) = false) (hd : ∀ j ∈ D (c + 3), l j = true) {v : Value} {w' : World} (hr : RF w') (h4 : M4 v w') : CH c D C RF M0 M1 bld M3 M4 (fun k => if k = c + 3 then true else l k) (upd f (c + 3) v) w' := by
 obtain ⟨-, a0, a1⟩ := h.m3 h2 hl
 refine ⟨fun k hk hl2 => ?_, dep_put h.dep hd, hr, .inr (.inr (.inr (.inr ⟨by simpa using a0, by simpa using a1, by simpa using h2, by simp, by simpa [upd] using h4⟩)))⟩
 have e : k ≠ c + 3 := by omega
 simp only [if_neg e] at hl2
 simp only [upd, if_neg e]; exact h.val k hk hl2
theorem CH.m4 (h : CH c D C RF M0 M1 bld M3 M4 l f w) (h3 : l (c + 3) = true) : M4 (f (c + 3)) w ∧ l c = true ∧ l (c + 1) = true ∧ l (c + 2) = true := by
 rcases h.mid with ⟨_, _, _, a, _⟩ | ⟨_, _, _, a, _⟩ | ⟨_, _, _, a, _⟩ | ⟨_, _, _, a, _⟩ | ⟨h0, h1, h2, _, h4⟩
 ·rw [a] at h3; cases h3
 ·rw [a] at h3; cases h3
 ·rw [a] at h3; cases h3
 ·rw [a] at h3; cases h3
 ·exact ⟨h4, h0, h1, h2⟩
end
end Go.Proofs.YtmghabcaakgjiaaGreat.G
