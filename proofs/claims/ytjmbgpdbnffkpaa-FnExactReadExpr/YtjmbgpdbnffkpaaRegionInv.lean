/- A region that draws its order, by what holds whichever operations have come up: each operation is run once, from what those that it waits for have left. -/
import Derived.Test.YtjmbgpdbnffkpaaRows
import Derived.WalkKit
import Derived.Deep.RegionWith
namespace Go.Proofs.Ytjmbgpdbnffkpaa
open Go.RowKit

theorem count_lt {α : Type} (p q : α → Bool) (l : List α) (h : ∀ x ∈ l, q x = true → p x = true) (y : α) (hy : y ∈ l) (hp : p y = true) (hq : q y = false) : l.countP q < l.countP p := by
  induction l with
  | nil => cases hy
  | cons a l ih =>
    rw [List.countP_cons, List.countP_cons]
    rcases List.mem_cons.1 hy with rfl | hy
    · have := List.countP_mono_left (p := q) (q := p) (l := l) (fun x hx => h x (List.mem_cons_of_mem _ hx))
      simp [hp, hq]; omega
    · have h1 := ih (fun x hx => h x (List.mem_cons_of_mem _ hx)) hy
      have h2 := h a (List.mem_cons_self ..)
      cases hqa : q a with
      | true => simp [h2 hqa]; omega
      | false => simp; omega

section
variable {P : Program} {ops : Array Oper} {Q : Exit → Act → World → Prop} {md : Region.Mode}

/-- an operation's step, what follows it kept from the walk -/
theorem wpOp_hid {i : Nat} {o : Oper} {K : Act → World → Prop} {a : Act} {w : World} (ho : ops[i]? = some o)
    (h : ∀ K' : Act → World → Prop, Hid (∀ a w, K a w → K' a w) → if Region.wanted o (yielded ops a.tmps) = true then Oper.wp P o a w K' Q else K' (a.put o.dst undef) w) : wpOp P ops Q i K a w := wpOp_step ho h
/-- how many have not come up -/
def left (ops : Array Oper) (listed : Array Bool) : Nat := (List.range ops.size).countP (fun i => !(listed.getD i true))

theorem getD_set (listed : Array Bool) (i j : Nat) : (listed.setIfInBounds i true).getD j true = if j = i then true else listed.getD j true := by
  rw [Array.getD_eq_getD_getElem?, Array.getD_eq_getD_getElem?, Array.getElem?_setIfInBounds]
  by_cases e : i = j
  · subst e
    by_cases h : i < listed.size <;> simp [h]
  · simp [e, Ne.symm e]

theorem left_set {listed : Array Bool} {i : Nat} (hi : i < ops.size) (hl : listed.getD i true = false) : left ops (listed.setIfInBounds i true) < left ops listed := by
  refine count_lt _ _ _ ?_ i (by simpa using hi) (by simp [hl]) (by rw [getD_set]; simp)
  intro x _ hx
  simp only [getD_set, Bool.not_eq_true'] at hx ⊢
  by_cases e : x = i
  · simp [e] at hx
  · simpa [e] using hx

theorem wpAny_inv (Inv : Array Bool → Act → World → Prop)
    (hstep : ∀ listed a w, Inv listed a w → ∀ i ∈ Region.ready md ops listed, wpOp P ops Q i (Inv (listed.setIfInBounds i true)) a w)
    (hend : ∀ listed a w, Inv listed a w → Region.ready md ops listed = [] → Q .normal a w) :
    ∀ (fuel : Nat) (listed : Array Bool) (a : Act) (w : World), left ops listed ≤ fuel → Inv listed a w → wpAny P md ops Q fuel listed a w := by
  intro fuel
  induction fuel with
  | zero =>
    intro listed a w hc hI
    have hr : Region.ready md ops listed = [] := by
      rw [List.eq_nil_iff_forall_not_mem]
      intro i hi
      obtain ⟨h1, o, h2, -⟩ := mem_ready.1 hi
      have := left_set (ops := ops) (Array.getElem?_eq_some_iff.1 h2).1 h1
      omega
    exact ⟨hr, hend _ _ _ hI hr⟩
  | succ n ih =>
    intro listed a w hc hI
    refine ⟨fun hr => hend _ _ _ hI hr, fun i hi => wpOp_mono (fun a' w' h => ih _ _ _ ?_ h) (hstep _ _ _ hI i hi)⟩
    obtain ⟨h1, o, h2, -⟩ := mem_ready.1 hi
    have := left_set (ops := ops) (Array.getElem?_eq_some_iff.1 h2).1 h1
    omega

theorem left_le (ops : Array Oper) (listed : Array Bool) : left ops listed ≤ ops.size := by
  unfold left
  exact Nat.le_trans List.countP_le_length (by simp)

/-- a region that draws, by an invariant -/
theorem wp_region_inv {id : Nat} {a : Act} {w : World} (Inv : Array Bool → Act → World → Prop) (hm : P.follows .mixedOrders = true)
    (h0 : Inv (Array.replicate ops.size false) a w.drew)
    (hstep : ∀ listed a w, Inv listed a w → ∀ i ∈ Region.ready .any ops listed, wpOp P ops Q i (Inv (listed.setIfInBounds i true)) a w)
    (hend : ∀ listed a w, Inv listed a w → Region.ready .any ops listed = [] → Q .normal a w) : (Code.region id ops true).wp P Q a w :=
  wp_region_any hm (wpAny_inv Inv hstep hend _ _ _ _ (left_le _ _) h0)

/-- at the end all have come up -/
theorem all_listed {listed : Array Bool} {n : Nat} (hr : Region.ready md ops listed = []) (hs : ops.size = n) (hord : ∀ (i : Nat) (o : Oper), ops[i]? = some o → ∀ e ∈ o.after, e.on < i) (hsz : listed.size = n) : ∀ i, i < n → listed.getD i true = true := by
  intro i
  induction i using Nat.strongRecOn with
  | ind i ih =>
    intro hi
    cases hl : listed.getD i true with
    | true => rfl
    | false =>
      exfalso
      have hmem : i ∈ Region.ready md ops listed := by
        refine mem_ready.2 ⟨hl, ops[i]'(by omega), Array.getElem?_eq_getElem (by omega), fun e he _ => ?_⟩
        have hlt := hord i _ (Array.getElem?_eq_getElem (by omega)) e he
        have := ih e.on hlt (by omega)
        rw [Array.getD_eq_getD_getElem?, Array.getElem?_eq_getElem (by omega)] at this ⊢
        simpa using this
      rw [hr] at hmem
      cases hmem

end
end Go.Proofs.Ytjmbgpdbnffkpaa
