/- A region that draws its order, by what holds whichever operations have come up: each operation is run once, from what those that it waits for have left. -/
import Derived.Test.YtmghabcaakgjiaaGreatRows
import Derived.WalkKit
import Derived.Deep.RegionWith
namespace Go.Proofs.YtmghabcaakgjiaaGreat
open Go.RowKit

theorem count_lt {α : Type} (p q : α → Bool) (l : List α) (h : ∀ x ∈ l, q x = true → p x = true) (y : α) (hy : y ∈ l) (hp : p y = true) (hq : q y = false) : l.countP q < l.countP p := by
  induction l with
  | nil => cases hy
  | cons a l ih =>
    rw [List.countP_cons, List.countP_cons]
    rcases List.mem_cons.1 hy with rfl | hy
    · have := List.countP_mono_left (p := q) (q := p) (l := l) (fun x hx => h x (List.mem_cons_of_mem _ hx))
      simp [hp, hq]; omega
    · have h1 := ih (fun x hx => h x (List.mem_cons_of_mem _ hx)) hy
      have h2 := h a (List.mem_cons_self ..)
      cases hqa : q a with
      | true => simp [h2 hqa]; omega
      | false => simp; omega

section
variable {P : Program} {ops : Array Oper} {Q : Exit → Act → World → Prop} {md : Region.Mode}

/-- an operation's step, what follows it kept from the walk -/
theorem wpOp_hid {i : Nat} {o : Oper} {K : Act → World → Prop} {a : Act} {w : World} (ho : ops[i]? = some o)
    (h : ∀ K' : Act → World → Prop, Hid (∀ a w, K a w → K' a w) → if Region.wanted o (yielded ops a.tmps) = true then Oper.wp P o a w K' Q else K' (a.put o.dst undef) w) : wpOp P ops Q i K a w := wpOp_step ho h
/-- how many have not come up -/
def left (ops : Array Oper) (listed : Array Bool) : Nat := (List.range ops.size).countP (fun i => !(listed.getD i true))

theorem getD_set (listed : Array Bool) (i j : Nat) : (listed.setIfInBounds i true).getD j true = if j = i then true else listed.getD j true := by
  rw [Array.getD_eq_getD_getElem?, Array.getD_eq_getD_getElem?, Array.getElem?_setIfInBounds]
  by_cases e : i = j
  · subst e
    by_cases h : i < listed.size <;> simp [h]
  · simp [e, Ne.symm e]

theorem left_set {listed : Array Bool} {i : Nat} (hi : i < ops.size) (hl : listed.getD i true = false) : left ops (listed.setIfInBounds i true) < left ops listed := by
  refine count_lt _ _ _ ?_ i (by simpa using hi) (by simp [hl]) (by rw [getD_set]; simp)
  intro x _ hx
  simp only [getD_set, Bool.not_eq_true'] at hx ⊢
  by_cases e : x = i
  · simp [e] at hx
  · simpa [e] using hx

theorem wpAny_inv (Inv : Array Bool → Act → World → Prop)
    (hstep : ∀ listed a w, Inv listed a w → ∀ i ∈ Region.ready md ops listed, wpOp P ops Q i (Inv (listed.setIfInBounds i true)) a w)
    (hend : ∀ listed a w, Inv listed a w → Region.ready md ops listed = [] → Q .normal a w) :
    ∀ (fuel : Nat) (listed : Array Bool) (a : Act) (w : World), left ops listed ≤ fuel → Inv listed a w → wpAny P md ops Q fuel listed a w := by
  intro fuel
  induction fuel with
  | zero =>
    intro listed a w hc hI
    have hr : Region.ready md ops listed = [] := by
      rw [List.eq_nil_iff_forall_not_mem]
      intro i hi
      obtain ⟨h1, o, h2, -⟩ := mem_ready.1 hi
      have := left_set (ops := ops) (Array.getElem?_eq_some_iff.1 h2).1 h1
      omega
    exact ⟨hr, hend _ _ _ hI hr⟩
  | succ n ih =>
    intro listed a w hc hI
    refine ⟨fun hr => hend _ _ _ hI hr, fun i hi => wpOp_mono (fun a' w' h => ih _ _ _ ?_ h) (hstep _ _ _ hI i hi)⟩
    obtain ⟨h1, o, h2, -⟩ := mem_ready.1 hi
    have := left_set (ops := ops) (Array.getElem?_eq_some_iff.1 h2).1 h1
    omega

theorem left_le (ops : Array Oper) (listed : Array Bool) : left ops listed ≤ ops.size := by
  unfold left
  exact Nat.le_trans List.countP_le_length (by simp)

/-- a region that draws, by an invariant -/
theorem wp_region_inv {id : Nat} {a : Act} {w : World} (Inv : Array Bool → Act → World → Prop) (hm : P.follows .mixedOrders = true)
    (h0 : Inv (Array.replicate ops.size false) a w.drew)
    (hstep : ∀ listed a w, Inv listed a w → ∀ i ∈ Region.ready .any ops listed, wpOp P ops Q i (Inv (listed.setIfInBounds i true)) a w)
    (hend : ∀ listed a w, Inv listed a w → Region.ready .any ops listed = [] → Q .normal a w) : (Code.region id ops true).wp P Q a w :=
  wp_region_any hm (wpAny_inv Inv hstep hend _ _ _ _ (left_le _ _) h0)

/-- at the end all have come up -/
theorem all_listed {listed : Array Bool} {n : Nat} (hr : Region.ready md ops listed = []) (hs : ops.size = n) (hord : ∀ (i : Nat) (o : Oper), ops[i]? = some o → ∀ e ∈ o.after, e.on < i) (hsz : listed.size = n) : ∀ i, i < n → listed.getD i true = true := by
  intro i
  induction i using Nat.strongRecOn with
  | ind i ih =>
    intro hi
    cases hl : listed.getD i true with
    | true => rfl
    | false =>
      exfalso
      have hmem : i ∈ Region.ready md ops listed := by
        refine mem_ready.2 ⟨hl, ops[i]'(by omega), Array.getElem?_eq_getElem (by omega), fun e he _ => ?_⟩
        have hlt := hord i _ (Array.getElem?_eq_getElem (by omega)) e he
        have := ih e.on hlt (by omega)
        rw [Array.getD_eq_getD_getElem?, Array.getElem?_eq_getElem (by omega)] at this ⊢
        simpa using this
      rw [hr] at hmem
      cases hmem

end
end Go.Proofs.YtmghabcaakgjiaaGreat

/- A region that draws its order, whose last operation waits for all others: each operation leaves a value of its own kind in its own place, whatever has come up. -/
namespace Go.Proofs.YtmghabcaakgjiaaGreat
open Go.RowKit

/-- the values of the operations, with another one at place i -/
def upd (f : Nat → Value) (i : Nat) (v : Value) : Nat → Value := fun k => if k = i then v else f k

section
variable {P : Program} {ops : Array Oper} {Q : Exit → Act → World → Prop}

theorem getF_set' (listed : Array Bool) (i j : Nat) (hi : i < listed.size) : (listed.setIfInBounds i true).getD j false = if j = i then true else listed.getD j false := by
  rw [Array.getD_eq_getD_getElem?, Array.getD_eq_getD_getElem?, Array.getElem?_setIfInBounds]
  by_cases e : i = j
  · subst e; simp [hi]
  · simp [e, Ne.symm e]
theorem getTF {listed : Array Bool} {i : Nat} (hi : i < listed.size) : listed.getD i true = listed.getD i false := by
  rw [Array.getD_eq_getD_getElem?, Array.getD_eq_getD_getElem?, Array.getElem?_eq_getElem hi]; rfl

/-- every operation waits for earlier ones alone -/
def ordOk (ops : Array Oper) : Bool := (List.range ops.size).all (fun i => (ops[i]?.map (fun o => o.after.all (fun e => decide (e.on < i)))).getD true)
/-- the last one waits for all -/
def lastOk (ops : Array Oper) (L : Nat) : Bool := (List.range L).all (fun j => (ops[L]?.map (fun o => o.after.any (fun e => e.on == j && Region.binds .any e))).getD false)

theorem ordOk_of {ops : Array Oper} (h : ordOk ops = true) : ∀ (i : Nat) (o : Oper), ops[i]? = some o → ∀ e ∈ o.after, e.on < i := by
  intro i o ho e he
  rw [ordOk, List.all_eq_true] at h
  have h1 := h i (by simpa using (Array.getElem?_eq_some_iff.1 ho).1)
  rw [ho] at h1
  simp only [Option.map_some, Option.getD_some, Array.all_eq_true_iff_forall_mem] at h1
  simpa using h1 e he
theorem lastOk_of {ops : Array Oper} {L : Nat} (h : lastOk ops L = true) : ∀ (o : Oper), ops[L]? = some o → ∀ j, j < L → ∃ e ∈ o.after, e.on = j ∧ Region.binds .any e = true := by
  intro o ho j hj
  rw [lastOk, List.all_eq_true] at h
  have h1 := h j (by simpa using hj)
  rw [ho] at h1
  simp only [Option.map_some, Option.getD_some] at h1
  rw [Array.any_eq_true'] at h1
  obtain ⟨e, he, h2⟩ := h1
  simp only [Bool.and_eq_true, beq_iff_eq] at h2
  exact ⟨e, he, h2.1, h2.2⟩

theorem wp_region_mid0 {id : Nat} {a : Act} {w : World} (L : Nat) (f0 : Nat → Value) (F : (Nat → Value) → Act) (V : Nat → Value → World → Prop) (G : World → Prop)
    (hm : P.follows .mixedOrders = true) (hsz : ops.size = L + 1) (hord : ordOk ops = true) (hlo : lastOk ops L = true)
    (h0 : a = F f0) (hG0 : G w.drew)
    (hstep : ∀ i, i < L → ∀ o, ops[i]? = some o → ∀ f w', G w' → (∀ e ∈ o.after, Region.binds .any e = true → V e.on (f e.on) w') →
      wpOp P ops Q i (fun a' w'' => ∃ v, a' = F (upd f i v) ∧ G w'' ∧ V i v w'' ∧ ∀ k u, V k u w' → V k u w'') (F f) w')
    (hfin : ∀ o, ops[L]? = some o → ∀ f w', G w' → (∀ k, k < L → V k (f k) w') → wpOp P ops Q L (fun a' w'' => Q .normal a' w'') (F f) w') :
    (Code.region id ops true).wp P Q a w := by
  refine wp_region_inv (fun listed a' w' => listed.size = L + 1 ∧ ((listed.getD L false = false ∧ ∃ f, a' = F f ∧ G w' ∧ ∀ k, k < L → listed.getD k false = true → V k (f k) w') ∨ ((∀ j, j ≤ L → listed.getD j true = true) ∧ Q .normal a' w'))) hm ?_ ?_ ?_
  · refine ⟨by simpa using hsz, Or.inl ⟨?_, _, h0, hG0, fun k _ h => ?_⟩⟩
    · rw [Array.getD_eq_getD_getElem?, Array.getElem?_replicate]; split <;> rfl
    · rw [Array.getD_eq_getD_getElem?, Array.getElem?_replicate] at h; split at h <;> cases h
  · rintro listed a' w' ⟨hs, h⟩ i hi
    obtain ⟨hl, o, ho, hpre⟩ := mem_ready.1 hi
    have hiL : i < L + 1 := by have := (Array.getElem?_eq_some_iff.1 ho).1; omega
    rcases h with ⟨hn, f, rfl, hG, hV⟩ | ⟨hall, -⟩
    · by_cases e : i = L
      · subst e
        have hall : ∀ k, k < i → listed.getD k false = true := fun k hk => by
          obtain ⟨e, he, rfl, hb⟩ := lastOk_of hlo o ho k hk
          exact hpre e he hb
        refine wpOp_mono (fun a'' w'' hq => ⟨by simpa using hs, Or.inr ⟨fun j hj => ?_, hq⟩⟩) (hfin o ho f w' hG (fun k hk => hV k hk (hall k hk)))
        rw [getTF (by simp; omega), getF_set' _ _ _ (by omega)]
        by_cases e : j = i
        · simp [e]
        · rw [if_neg e]; exact hall j (by omega)
      · refine wpOp_mono ?_ (hstep i (by omega) o ho f w' hG (fun e he hb => hV e.on (by have := ordOk_of hord i o ho e he; omega) (hpre e he hb)))
        rintro a'' w'' ⟨v, rfl, hG', hv, hmono⟩
        refine ⟨by simpa using hs, Or.inl ⟨?_, _, rfl, hG', fun k hk hkl => ?_⟩⟩
        · rw [getF_set' _ _ _ (by omega), if_neg (Ne.symm e)]; exact hn
        · rw [getF_set' _ _ _ (by omega)] at hkl
          by_cases ek : k = i
          · subst ek; simpa [upd] using hv
          · rw [if_neg ek] at hkl
            simp only [upd, if_neg ek]
            exact hmono _ _ (hV k hk hkl)
    · rw [hall i (by omega)] at hl; cases hl
  · rintro listed a' w' ⟨hs, h⟩ hr
    rcases h with ⟨hn, -⟩ | ⟨-, hq⟩
    · have := all_listed hr hsz (ordOk_of hord) hs L (by omega)
      rw [getTF (by omega)] at this
      rw [this] at hn; cases hn
    · exact hq

/-- the same where no operation waits for all others: what follows stands behind all values -/
theorem wp_region_all {id : Nat} {a : Act} {w : World} (N : Nat) (f0 : Nat → Value) (F : (Nat → Value) → Act) (V : Nat → Value → World → Prop) (G : World → Prop)
    (hm : P.follows .mixedOrders = true) (hsz : ops.size = N) (hord : ordOk ops = true)
    (h0 : a = F f0) (hG0 : G w.drew)
    (hstep : ∀ i, i < N → ∀ o, ops[i]? = some o → ∀ f w', G w' → (∀ e ∈ o.after, Region.binds .any e = true → V e.on (f e.on) w') →
      wpOp P ops Q i (fun a' w'' => ∃ v, a' = F (upd f i v) ∧ G w'' ∧ V i v w'' ∧ ∀ k u, V k u w' → V k u w'') (F f) w')
    (hend : ∀ f w', G w' → (∀ k, k < N → V k (f k) w') → Q .normal (F f) w') :
    (Code.region id ops true).wp P Q a w := by
  refine wp_region_inv (fun listed a' w' => listed.size = N ∧ ∃ f, a' = F f ∧ G w' ∧ ∀ k, k < N → listed.getD k false = true → V k (f k) w') hm ?_ ?_ ?_
  · refine ⟨by simpa using hsz, _, h0, hG0, fun k _ h => ?_⟩
    rw [Array.getD_eq_getD_getElem?, Array.getElem?_replicate] at h; split at h <;> cases h
  · rintro listed a' w' ⟨hs, f, rfl, hG, hV⟩ i hi
    obtain ⟨hl, o, ho, hpre⟩ := mem_ready.1 hi
    have hiN : i < N := by have := (Array.getElem?_eq_some_iff.1 ho).1; omega
    refine wpOp_mono ?_ (hstep i hiN o ho f w' hG (fun e he hb => hV e.on (by have := ordOk_of hord i o ho e he; omega) (hpre e he hb)))
    rintro a'' w'' ⟨v, rfl, hG', hv, hmono⟩
    refine ⟨by simpa using hs, _, rfl, hG', fun k hk hkl => ?_⟩
    rw [getF_set' _ _ _ (by omega)] at hkl
    by_cases ek : k = i
    · subst ek; simpa [upd] using hv
    · rw [if_neg ek] at hkl
      simp only [upd, if_neg ek]
      exact hmono _ _ (hV k hk hkl)
  · rintro listed a' w' ⟨hs, f, rfl, hG, hV⟩ hr
    refine hend f w' hG fun k hk => hV k hk ?_
    have := all_listed hr hsz (ordOk_of hord) hs k hk
    rwa [getTF (by omega)] at this
end
end Go.Proofs.YtmghabcaakgjiaaGreat
