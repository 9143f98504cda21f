/- A region that draws its order and makes rows: no two rows share a block. -/
import Derived.Test.YtbfimfmfdllejaaRegionGen
namespace Go.Proofs.Ytbfimfmfdllejaa
open Go.RowKit
section
variable {P : Program} {ops : Array Oper} {Q : Exit → Act → World → Prop}
theorem wp_region_midR {id : Nat} {a : Act} {w : World} (L : Nat) (f0 : Nat → Value) (F : (Nat → Value) → Act) (V : Nat → Value → World → Prop) (G : World → Prop) (ne : Nat → Prop)
    (hm : P.follows .mixedOrders = true) (hsz : ops.size = L + 1) (hord : ordOk ops = true) (hlo : lastOk ops L = true)
    (h0 : a = F f0) (hG0 : G w.drew)
    (hstep : ∀ i, i < L → ∀ o, ops[i]? = some o → ∀ f w', G w' → (∀ e ∈ o.after, Region.binds .any e = true → V e.on (f e.on) w') → (∀ e ∈ o.after, Region.binds .any e = true → ∀ e' ∈ o.after, Region.binds .any e' = true → e.on ≠ e'.on → ne e.on → ne e'.on → (f e.on).ownBlock ≠ (f e'.on).ownBlock) →
      wpOp P ops Q i (fun a' w'' => ∃ v, a' = F (upd f i v) ∧ G w'' ∧ V i v w'' ∧ (∀ k u, V k u w' → V k u w'') ∧ (ne i → ∀ k u, ne k → V k u w' → v.ownBlock ≠ u.ownBlock)) (F f) w')
    (hfin : ∀ o, ops[L]? = some o → ∀ f w', G w' → (∀ k, k < L → V k (f k) w') → (∀ j k, j < L → k < L → j ≠ k → ne j → ne k → (f j).ownBlock ≠ (f k).ownBlock) → wpOp P ops Q L (fun a' w'' => Q .normal a' w'') (F f) w') :
    (Code.region id ops true).wp P Q a w := by
  refine wp_region_inv (fun listed a' w' => listed.size = L + 1 ∧ ((listed.getD L false = false ∧ ∃ f, a' = F f ∧ G w' ∧ (∀ k, k < L → listed.getD k false = true → V k (f k) w') ∧ ∀ j k, j < L → k < L → j ≠ k → listed.getD j false = true → listed.getD k false = true → ne j → ne k → (f j).ownBlock ≠ (f k).ownBlock) ∨ ((∀ j, j ≤ L → listed.getD j true = true) ∧ Q .normal a' w'))) hm ?_ ?_ ?_
  · refine ⟨by simpa using hsz, Or.inl ⟨?_, _, h0, hG0, fun k _ h => ?_, fun j k _ _ _ h => ?_⟩⟩
    · rw [Array.getD_eq_getD_getElem?, Array.getElem?_replicate]; split <;> rfl
    · rw [Array.getD_eq_getD_getElem?, Array.getElem?_replicate] at h; split at h <;> cases h
    · rw [Array.getD_eq_getD_getElem?, Array.getElem?_replicate] at h; split at h <;> cases h
  · rintro listed a' w' ⟨hs, h⟩ i hi
    obtain ⟨hl, o, ho, hpre⟩ := mem_ready.1 hi
    have hiL : i < L + 1 := by have := (Array.getElem?_eq_some_iff.1 ho).1; omega
    rcases h with ⟨hn, f, rfl, hG, hV, hR⟩ | ⟨hall, -⟩
    · by_cases e : i = L
      · subst e
        have hall : ∀ k, k < i → listed.getD k false = true := fun k hk => by
          obtain ⟨e, he, rfl, hb⟩ := lastOk_of hlo o ho k hk
          exact hpre e he hb
        refine wpOp_mono (fun a'' w'' hq => ⟨by simpa using hs, Or.inr ⟨fun j hj => ?_, hq⟩⟩) (hfin o ho f w' hG (fun k hk => hV k hk (hall k hk)) (fun j k hj hk hjk => hR j k hj hk hjk (hall j hj) (hall k hk)))
        rw [getTF (by simp; omega), getF_set' _ _ _ (by omega)]
        by_cases e : j = i
        · simp [e]
        · rw [if_neg e]; exact hall j (by omega)
      · refine wpOp_mono ?_ (hstep i (by omega) o ho f w' hG (fun e he hb => hV e.on (by have := ordOk_of hord i o ho e he; omega) (hpre e he hb)) (fun e he hb e' he' hb' hne => hR e.on e'.on (by have := ordOk_of hord i o ho e he; omega) (by have := ordOk_of hord i o ho e' he'; omega) hne (hpre e he hb) (hpre e' he' hb')))
        rintro a'' w'' ⟨v, rfl, hG', hv, hmono, hnew⟩
        refine ⟨by simpa using hs, Or.inl ⟨?_, _, rfl, hG', fun k hk hkl => ?_, fun j k hj hk hjk hjl hkl nj nk => ?_⟩⟩
        · rw [getF_set' _ _ _ (by omega), if_neg (Ne.symm e)]; exact hn
        · rw [getF_set' _ _ _ (by omega)] at hkl
          by_cases ek : k = i
          · subst ek; simpa [upd] using hv
          · rw [if_neg ek] at hkl
            simp only [upd, if_neg ek]
            exact hmono _ _ (hV k hk hkl)
        · rw [getF_set' _ _ _ (by omega)] at hjl hkl
          by_cases ej : j = i
          · subst ej
            have ek : k ≠ j := Ne.symm hjk
            rw [if_neg ek] at hkl
            simp only [upd, if_neg ek, if_pos]
            exact hnew nj k _ nk (hV k hk hkl)
          · rw [if_neg ej] at hjl
            by_cases ek : k = i
            · subst ek
              simp only [upd, if_neg ej, if_pos]
              exact (hnew nk j _ nj (hV j hj hjl)).symm
            · rw [if_neg ek] at hkl
              simp only [upd, if_neg ej, if_neg ek]
              exact hR j k hj hk hjk hjl hkl nj nk
    · rw [hall i (by omega)] at hl; cases hl
  · rintro listed a' w' ⟨hs, h⟩ hr
    rcases h with ⟨hn, -⟩ | ⟨-, hq⟩
    · have := all_listed hr hsz (ordOk_of hord) hs L (by omega)
      rw [getTF (by omega)] at this
      rw [this] at hn; cases hn
    · exact hq
end
end Go.Proofs.Ytbfimfmfdllejaa
