/- A region that draws its order, by what holds of what has come up, of the values and of the world together. -/
import Derived.Test.YtbfimfmfdllejaaRegionGenB
namespace Go.Proofs.Ytbfimfmfdllejaa
open Go.RowKit
section
variable {P : Program} {ops : Array Oper} {Q : Exit → Act → World → Prop}
/-- I: what holds of the operations that have come up (listed), of the values that they have left (f) and of the world -/
theorem wp_region_frame {id : Nat} {a : Act} {w : World} (L : Nat) (f0 : Nat → Value) (F : (Nat → Value) → Act) (I : (Nat → Bool) → (Nat → Value) → World → Prop)
    (hm : P.follows .mixedOrders = true) (hsz : ops.size = L + 1) (hord : ordOkB ops = true) (hlo : lastOk ops L = true)
    (h0 : a = F f0) (hI0 : I (fun _ => false) f0 w.drew)
    (hstep : ∀ i, i < L → ∀ o, ops[i]? = some o → ∀ (l : Nat → Bool) f w', l i = false → I l f w' → (∀ e ∈ o.after, Region.binds .any e = true → l e.on = true) →
      wpOp P ops Q i (fun a' w'' => ∃ v, a' = F (upd f i v) ∧ I (fun k => if k = i then true else l k) (upd f i v) w'') (F f) w')
    (hfin : ∀ o, ops[L]? = some o → ∀ (l : Nat → Bool) f w', (∀ k, k < L → l k = true) → I l f w' → wpOp P ops Q L (fun a' w'' => Q .normal a' w'') (F f) w') :
    (Code.region id ops true).wp P Q a w := by
  refine wp_region_inv (fun listed a' w' => listed.size = L + 1 ∧ ((listed.getD L false = false ∧ ∃ f, a' = F f ∧ I (fun k => listed.getD k false) f w') ∨ ((∀ j, j ≤ L → listed.getD j true = true) ∧ Q .normal a' w'))) hm ?_ ?_ ?_
  · refine ⟨by simpa using hsz, Or.inl ⟨?_, _, h0, ?_⟩⟩
    · rw [Array.getD_eq_getD_getElem?, Array.getElem?_replicate]; split <;> rfl
    · have : (fun k => (Array.replicate ops.size false).getD k false) = fun _ => false := funext fun k => by rw [Array.getD_eq_getD_getElem?, Array.getElem?_replicate]; split <;> rfl
      rw [this]; exact hI0
  · rintro listed a' w' ⟨hs, h⟩ i hi
    obtain ⟨hl, o, ho, hpre⟩ := mem_ready.1 hi
    have hiL : i < L + 1 := by have := (Array.getElem?_eq_some_iff.1 ho).1; omega
    rcases h with ⟨hn, f, rfl, hI⟩ | ⟨hall, -⟩
    · by_cases e : i = L
      · subst e
        have hall : ∀ k, k < i → listed.getD k false = true := fun k hk => by
          obtain ⟨e, he, rfl, hb⟩ := lastOk_of hlo o ho k hk
          exact hpre e he hb
        refine wpOp_mono (fun a'' w'' hq => ⟨by simpa using hs, Or.inr ⟨fun j hj => ?_, hq⟩⟩) (hfin o ho _ f w' hall hI)
        rw [getTF (by simp; omega), getF_set' _ _ _ (by omega)]
        by_cases e : j = i
        · simp [e]
        · rw [if_neg e]; exact hall j (by omega)
      · refine wpOp_mono ?_ (hstep i (by omega) o ho _ f w' (by rw [← getTF (by omega)]; exact hl) hI (fun e he hb => hpre e he hb))
        rintro a'' w'' ⟨v, rfl, hI'⟩
        refine ⟨by simpa using hs, Or.inl ⟨?_, _, rfl, ?_⟩⟩
        · rw [getF_set' _ _ _ (by omega), if_neg (Ne.symm e)]; exact hn
        · have : (fun k => (listed.setIfInBounds i true).getD k false) = fun k => if k = i then true else listed.getD k false := funext fun k => getF_set' _ _ _ (by omega)
          rw [this]; exact hI'
    · rw [hall i (by omega)] at hl; cases hl
  · rintro listed a' w' ⟨hs, h⟩ hr
    rcases h with ⟨hn, -⟩ | ⟨-, hq⟩
    · have := all_listedB hr hsz (ordOkB_of hord) hs L (by omega)
      rw [getTF (by omega)] at this
      rw [this] at hn; cases hn
    · exact hq
end
end Go.Proofs.Ytbfimfmfdllejaa
