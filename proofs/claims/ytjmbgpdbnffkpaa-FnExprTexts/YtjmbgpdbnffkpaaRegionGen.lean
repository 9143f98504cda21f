/- A region that draws its order, whose last operation waits for all others: each operation leaves a value of its own kind in its own place, whatever has come up. -/
import Derived.Test.YtjmbgpdbnffkpaaJ6
namespace Go.Proofs.Ytjmbgpdbnffkpaa
open Go.RowKit

/-- the values of the operations, with another one at place i -/
def upd (f : Nat → Value) (i : Nat) (v : Value) : Nat → Value := fun k => if k = i then v else f k

section
variable {P : Program} {ops : Array Oper} {Q : Exit → Act → World → Prop}

theorem getF_set' (listed : Array Bool) (i j : Nat) (hi : i < listed.size) : (listed.setIfInBounds i true).getD j false = if j = i then true else listed.getD j false := by
  rw [Array.getD_eq_getD_getElem?, Array.getD_eq_getD_getElem?, Array.getElem?_setIfInBounds]
  by_cases e : i = j
  · subst e; simp [hi]
  · simp [e, Ne.symm e]
theorem getTF {listed : Array Bool} {i : Nat} (hi : i < listed.size) : listed.getD i true = listed.getD i false := by
  rw [Array.getD_eq_getD_getElem?, Array.getD_eq_getD_getElem?, Array.getElem?_eq_getElem hi]; rfl

/-- every operation waits for earlier ones alone -/
def ordOk (ops : Array Oper) : Bool := (List.range ops.size).all (fun i => (ops[i]?.map (fun o => o.after.all (fun e => decide (e.on < i)))).getD true)
/-- the last one waits for all -/
def lastOk (ops : Array Oper) (L : Nat) : Bool := (List.range L).all (fun j => (ops[L]?.map (fun o => o.after.any (fun e => e.on == j && Region.binds .any e))).getD false)

theorem ordOk_of {ops : Array Oper} (h : ordOk ops = true) : ∀ (i : Nat) (o : Oper), ops[i]? = some o → ∀ e ∈ o.after, e.on < i := by
  intro i o ho e he
  rw [ordOk, List.all_eq_true] at h
  have h1 := h i (by simpa using (Array.getElem?_eq_some_iff.1 ho).1)
  rw [ho] at h1
  simp only [Option.map_some, Option.getD_some, Array.all_eq_true_iff_forall_mem] at h1
  simpa using h1 e he
theorem lastOk_of {ops : Array Oper} {L : Nat} (h : lastOk ops L = true) : ∀ (o : Oper), ops[L]? = some o → ∀ j, j < L → ∃ e ∈ o.after, e.on = j ∧ Region.binds .any e = true := by
  intro o ho j hj
  rw [lastOk, List.all_eq_true] at h
  have h1 := h j (by simpa using hj)
  rw [ho] at h1
  simp only [Option.map_some, Option.getD_some] at h1
  rw [Array.any_eq_true'] at h1
  obtain ⟨e, he, h2⟩ := h1
  simp only [Bool.and_eq_true, beq_iff_eq] at h2
  exact ⟨e, he, h2.1, h2.2⟩

theorem wp_region_mid0 {id : Nat} {a : Act} {w : World} (L : Nat) (f0 : Nat → Value) (F : (Nat → Value) → Act) (V : Nat → Value → World → Prop) (G : World → Prop)
    (hm : P.follows .mixedOrders = true) (hsz : ops.size = L + 1) (hord : ordOk ops = true) (hlo : lastOk ops L = true)
    (h0 : a = F f0) (hG0 : G w.drew)
    (hstep : ∀ i, i < L → ∀ o, ops[i]? = some o → ∀ f w', G w' → (∀ e ∈ o.after, Region.binds .any e = true → V e.on (f e.on) w') →
      wpOp P ops Q i (fun a' w'' => ∃ v, a' = F (upd f i v) ∧ G w'' ∧ V i v w'' ∧ ∀ k u, V k u w' → V k u w'') (F f) w')
    (hfin : ∀ o, ops[L]? = some o → ∀ f w', G w' → (∀ k, k < L → V k (f k) w') → wpOp P ops Q L (fun a' w'' => Q .normal a' w'') (F f) w') :
    (Code.region id ops true).wp P Q a w := by
  refine wp_region_inv (fun listed a' w' => listed.size = L + 1 ∧ ((listed.getD L false = false ∧ ∃ f, a' = F f ∧ G w' ∧ ∀ k, k < L → listed.getD k false = true → V k (f k) w') ∨ ((∀ j, j ≤ L → listed.getD j true = true) ∧ Q .normal a' w'))) hm ?_ ?_ ?_
  · refine ⟨by simpa using hsz, Or.inl ⟨?_, _, h0, hG0, fun k _ h => ?_⟩⟩
    · rw [Array.getD_eq_getD_getElem?, Array.getElem?_replicate]; split <;> rfl
    · rw [Array.getD_eq_getD_getElem?, Array.getElem?_replicate] at h; split at h <;> cases h
  · rintro listed a' w' ⟨hs, h⟩ i hi
    obtain ⟨hl, o, ho, hpre⟩ := mem_ready.1 hi
    have hiL : i < L + 1 := by have := (Array.getElem?_eq_some_iff.1 ho).1; omega
    rcases h with ⟨hn, f, rfl, hG, hV⟩ | ⟨hall, -⟩
    · by_cases e : i = L
      · subst e
        have hall : ∀ k, k < i → listed.getD k false = true := fun k hk => by
          obtain ⟨e, he, rfl, hb⟩ := lastOk_of hlo o ho k hk
          exact hpre e he hb
        refine wpOp_mono (fun a'' w'' hq => ⟨by simpa using hs, Or.inr ⟨fun j hj => ?_, hq⟩⟩) (hfin o ho f w' hG (fun k hk => hV k hk (hall k hk)))
        rw [getTF (by simp; omega), getF_set' _ _ _ (by omega)]
        by_cases e : j = i
        · simp [e]
        · rw [if_neg e]; exact hall j (by omega)
      · refine wpOp_mono ?_ (hstep i (by omega) o ho f w' hG (fun e he hb => hV e.on (by have := ordOk_of hord i o ho e he; omega) (hpre e he hb)))
        rintro a'' w'' ⟨v, rfl, hG', hv, hmono⟩
        refine ⟨by simpa using hs, Or.inl ⟨?_, _, rfl, hG', fun k hk hkl => ?_⟩⟩
        · rw [getF_set' _ _ _ (by omega), if_neg (Ne.symm e)]; exact hn
        · rw [getF_set' _ _ _ (by omega)] at hkl
          by_cases ek : k = i
          · subst ek; simpa [upd] using hv
          · rw [if_neg ek] at hkl
            simp only [upd, if_neg ek]
            exact hmono _ _ (hV k hk hkl)
    · rw [hall i (by omega)] at hl; cases hl
  · rintro listed a' w' ⟨hs, h⟩ hr
    rcases h with ⟨hn, -⟩ | ⟨-, hq⟩
    · have := all_listed hr hsz (ordOk_of hord) hs L (by omega)
      rw [getTF (by omega)] at this
      rw [this] at hn; cases hn
    · exact hq

theorem wp_region_mid {id : Nat} {a : Act} {w : World} (L : Nat) (F : (Nat → Value) → Act) (V : Nat → Value → World → Prop) (G : World → Prop)
    (hm : P.follows .mixedOrders = true) (hsz : ops.size = L + 1) (hord : ordOk ops = true) (hlo : lastOk ops L = true)
    (h0 : a = F (fun _ => undef)) (hG0 : G w.drew)
    (hstep : ∀ i, i < L → ∀ o, ops[i]? = some o → ∀ f w', G w' → (∀ e ∈ o.after, Region.binds .any e = true → V e.on (f e.on) w') →
      wpOp P ops Q i (fun a' w'' => ∃ v, a' = F (upd f i v) ∧ G w'' ∧ V i v w'' ∧ ∀ k u, V k u w' → V k u w'') (F f) w')
    (hfin : ∀ o, ops[L]? = some o → ∀ f w', G w' → (∀ k, k < L → V k (f k) w') → wpOp P ops Q L (fun a' w'' => Q .normal a' w'') (F f) w') :
    (Code.region id ops true).wp P Q a w :=
  wp_region_mid0 L (fun _ => undef) F V G hm hsz hord hlo h0 hG0 hstep hfin

/-- the same where the world's invariant knows what has come up -/
theorem wp_region_midL {id : Nat} {a : Act} {w : World} (L : Nat) (f0 : Nat → Value) (F : (Nat → Value) → Act) (V : Nat → Value → World → Prop) (G : Array Bool → World → Prop)
    (hm : P.follows .mixedOrders = true) (hsz : ops.size = L + 1) (hord : ordOk ops = true) (hlo : lastOk ops L = true)
    (h0 : a = F f0) (hG0 : G (Array.replicate ops.size false) w.drew)
    (hstep : ∀ i, i < L → ∀ o, ops[i]? = some o → ∀ (listed : Array Bool) f w', listed.size = L + 1 → listed.getD i true = false → G listed w' → (∀ e ∈ o.after, Region.binds .any e = true → V e.on (f e.on) w') →
      wpOp P ops Q i (fun a' w'' => ∃ v, a' = F (upd f i v) ∧ G (listed.setIfInBounds i true) w'' ∧ V i v w'' ∧ ∀ k u, V k u w' → V k u w'') (F f) w')
    (hfin : ∀ o, ops[L]? = some o → ∀ (listed : Array Bool) f w', G listed w' → (∀ k, k < L → V k (f k) w') → wpOp P ops Q L (fun a' w'' => Q .normal a' w'') (F f) w') :
    (Code.region id ops true).wp P Q a w := by
  refine wp_region_inv (fun listed a' w' => listed.size = L + 1 ∧ ((listed.getD L false = false ∧ ∃ f, a' = F f ∧ G listed w' ∧ ∀ k, k < L → listed.getD k false = true → V k (f k) w') ∨ ((∀ j, j ≤ L → listed.getD j true = true) ∧ Q .normal a' w'))) hm ?_ ?_ ?_
  · refine ⟨by simpa using hsz, Or.inl ⟨?_, _, h0, hG0, fun k _ h => ?_⟩⟩
    · rw [Array.getD_eq_getD_getElem?, Array.getElem?_replicate]; split <;> rfl
    · rw [Array.getD_eq_getD_getElem?, Array.getElem?_replicate] at h; split at h <;> cases h
  · rintro listed a' w' ⟨hs, h⟩ i hi
    obtain ⟨hl, o, ho, hpre⟩ := mem_ready.1 hi
    have hiL : i < L + 1 := by have := (Array.getElem?_eq_some_iff.1 ho).1; omega
    rcases h with ⟨hn, f, rfl, hG, hV⟩ | ⟨hall, -⟩
    · by_cases e : i = L
      · subst e
        have hall : ∀ k, k < i → listed.getD k false = true := fun k hk => by
          obtain ⟨e, he, rfl, hb⟩ := lastOk_of hlo o ho k hk
          exact hpre e he hb
        refine wpOp_mono (fun a'' w'' hq => ⟨by simpa using hs, Or.inr ⟨fun j hj => ?_, hq⟩⟩) (hfin o ho listed f w' hG (fun k hk => hV k hk (hall k hk)))
        rw [getTF (by simp; omega), getF_set' _ _ _ (by omega)]
        by_cases e : j = i
        · simp [e]
        · rw [if_neg e]; exact hall j (by omega)
      · refine wpOp_mono ?_ (hstep i (by omega) o ho listed f w' hs hl hG (fun e he hb => hV e.on (by have := ordOk_of hord i o ho e he; omega) (hpre e he hb)))
        rintro a'' w'' ⟨v, rfl, hG', hv, hmono⟩
        refine ⟨by simpa using hs, Or.inl ⟨?_, _, rfl, hG', fun k hk hkl => ?_⟩⟩
        · rw [getF_set' _ _ _ (by omega), if_neg (Ne.symm e)]; exact hn
        · rw [getF_set' _ _ _ (by omega)] at hkl
          by_cases ek : k = i
          · subst ek; simpa [upd] using hv
          · rw [if_neg ek] at hkl
            simp only [upd, if_neg ek]
            exact hmono _ _ (hV k hk hkl)
    · rw [hall i (by omega)] at hl; cases hl
  · rintro listed a' w' ⟨hs, h⟩ hr
    rcases h with ⟨hn, -⟩ | ⟨-, hq⟩
    · have := all_listed hr hsz (ordOk_of hord) hs L (by omega)
      rw [getTF (by omega)] at this
      rw [this] at hn; cases hn
    · exact hq

/-- the same where no operation waits for all others: what follows stands behind all values -/
theorem wp_region_all {id : Nat} {a : Act} {w : World} (N : Nat) (f0 : Nat → Value) (F : (Nat → Value) → Act) (V : Nat → Value → World → Prop) (G : World → Prop)
    (hm : P.follows .mixedOrders = true) (hsz : ops.size = N) (hord : ordOk ops = true)
    (h0 : a = F f0) (hG0 : G w.drew)
    (hstep : ∀ i, i < N → ∀ o, ops[i]? = some o → ∀ f w', G w' → (∀ e ∈ o.after, Region.binds .any e = true → V e.on (f e.on) w') →
      wpOp P ops Q i (fun a' w'' => ∃ v, a' = F (upd f i v) ∧ G w'' ∧ V i v w'' ∧ ∀ k u, V k u w' → V k u w'') (F f) w')
    (hend : ∀ f w', G w' → (∀ k, k < N → V k (f k) w') → Q .normal (F f) w') :
    (Code.region id ops true).wp P Q a w := by
  refine wp_region_inv (fun listed a' w' => listed.size = N ∧ ∃ f, a' = F f ∧ G w' ∧ ∀ k, k < N → listed.getD k false = true → V k (f k) w') hm ?_ ?_ ?_
  · refine ⟨by simpa using hsz, _, h0, hG0, fun k _ h => ?_⟩
    rw [Array.getD_eq_getD_getElem?, Array.getElem?_replicate] at h; split at h <;> cases h
  · rintro listed a' w' ⟨hs, f, rfl, hG, hV⟩ i hi
    obtain ⟨hl, o, ho, hpre⟩ := mem_ready.1 hi
    have hiN : i < N := by have := (Array.getElem?_eq_some_iff.1 ho).1; omega
    refine wpOp_mono ?_ (hstep i hiN o ho f w' hG (fun e he hb => hV e.on (by have := ordOk_of hord i o ho e he; omega) (hpre e he hb)))
    rintro a'' w'' ⟨v, rfl, hG', hv, hmono⟩
    refine ⟨by simpa using hs, _, rfl, hG', fun k hk hkl => ?_⟩
    rw [getF_set' _ _ _ (by omega)] at hkl
    by_cases ek : k = i
    · subst ek; simpa [upd] using hv
    · rw [if_neg ek] at hkl
      simp only [upd, if_neg ek]
      exact hmono _ _ (hV k hk hkl)
  · rintro listed a' w' ⟨hs, f, rfl, hG, hV⟩ hr
    refine hend f w' hG fun k hk => hV k hk ?_
    have := all_listed hr hsz (ordOk_of hord) hs k hk
    rwa [getTF (by omega)] at this
end
end Go.Proofs.Ytjmbgpdbnffkpaa
