/- Rows of nodes that grow. -/
import Derived.Test.YtjmbgpdbnffkpaaCopyI0
import Derived.Test.YtjmbgpdbnffkpaaRows
import Derived.WalkKit
import Derived.Deep.RegionWith
namespace Go.Proofs.Ytjmbgpdbnffkpaa
open Go.ChangeShapes Go.WideShapes Go.ChangeAt Go.RowKit Go.Maps
open Pl

theorem SlA.grown {w w' : World} {row : Option Nat} {ad : Option Addr} {xs : List Al} (h : SlA w ad xs) (hg : w.grownBy w' row) (hn : ∀ g o, xs ≠ [] → ad = some ⟨g, o, none⟩ → some g ≠ row) : SlA w' ad xs := by
  rcases h with h | ⟨b, off, e, hb, hr⟩
  · exact .inl h
  · by_cases hx : xs = []
    · exact .inl hx
    · exact .inr ⟨b, off, e, Nat.lt_of_lt_of_le hb hg.size, fun i hi => ⟨hg.cell (hr i hi).1 (hn b off hx e), hg.cell (hr i hi).2 (hn b off hx e)⟩⟩
theorem SlI.grown {w w' : World} {row : Option Nat} {ad : Option Addr} {zs : List Int} (h : SlI w ad zs) (hg : w.grownBy w' row) (hn : ∀ g o, zs ≠ [] → ad = some ⟨g, o, none⟩ → some g ≠ row) : SlI w' ad zs := by
  rcases h with h | ⟨b, off, e, hb, hr⟩
  · exact .inl h
  · by_cases hx : zs = []
    · exact .inl hx
    · exact .inr ⟨b, off, e, Nat.lt_of_lt_of_le hb hg.size, fun i hi => hg.cell (hr i hi) (hn b off hx e)⟩
/-- a copied node beside the row v: its lists lie elsewhere -/
structure Beside (w : World) (v : Value) (q : ER) : Prop where
  ok : q.ok w
  zA : q.e.allow ≠ [] → ∃ g, q.adA = some ⟨g, 0, none⟩
  zK : q.e.kids ≠ [] → ∃ g, q.adK = some ⟨g, 0, none⟩
  lt : ∀ g, inR q g → g < w.heap.size ∧ v.ownBlock ≠ some g
theorem Beside.below {w w' : World} {v : Value} {q : ER} (h : Beside w v q) (hb : Below w.heap.size w w') : Beside w' v q :=
  ⟨h.ok.below hb, h.zA, h.zK, fun g hg => ⟨Nat.lt_of_lt_of_le (h.lt g hg).1 hb.size, (h.lt g hg).2⟩⟩
theorem Beside.grown {w w' : World} {v v' : Value} {q : ER} (h : Beside w v q) (hg : w.grownBy w' v.ownBlock) (hv : v'.ownBlock = v.ownBlock ∨ v'.ownBlock = some w.heap.size) : Beside w' v' q := by
  refine ⟨⟨h.ok.1.grown hg fun g o hne e => ?_, h.ok.2.grown hg fun g o hne e => ?_⟩, h.zA, h.zK, fun g hi => ⟨Nat.lt_of_lt_of_le (h.lt g hi).1 hg.size, ?_⟩⟩
  · obtain ⟨g0, e0⟩ := h.zA hne
    rw [e0] at e; injection e with e; injection e with e1 e2
    subst e1
    exact fun e => (h.lt g0 (.inl ⟨hne, e0⟩)).2 e.symm
  · obtain ⟨g0, e0⟩ := h.zK hne
    rw [e0] at e; injection e with e; injection e with e1 e2
    subst e1
    exact fun e => (h.lt g0 (.inr ⟨hne, e0⟩)).2 e.symm
  · rcases hv with e | e
    · rw [e]; exact (h.lt g hi).2
    · rw [e]; intro e2; injection e2 with e2; have := (h.lt g hi).1; omega
theorem ownsE {w : World} {base n : Nat} {v : Value} {qs : List ER} (h : w.ownsRow base 56 5 v n (rows5 qs)) (hn : n = qs.length) (hok : ∀ q ∈ qs, q.ok w) : ∃ ad cap, v = .slice ad qs.length cap ∧ SlE w ad qs := by
  subst hn
  have h2 := h
  rcases h.2 with ⟨rfl, h0⟩ | ⟨g, cap, cur, rfl, hbg, hg, hnc, -⟩
  · exact ⟨none, 0, by rw [h0], .inl (List.length_eq_zero_iff.1 h0)⟩
  · have hlt := h2.lt g rfl
    refine ⟨some ⟨g, 0, none⟩, cap, rfl, .inr ⟨g, 0, rfl, hlt.2, fun i hi => ?_, hok⟩⟩
    have hl := rows5_len qs
    have key : ∀ j, j < 5 → w.cell? ⟨g, 0 + i * 5 + j, none⟩ = (qs[i]).row[j]? := fun j hj => by
      rw [h2.cellAt (0 + i * 5 + j) (by omega), ← rows5_at qs i hi j hj, Nat.zero_add]
    exact ⟨key 0 (by omega), key 1 (by omega), key 2 (by omega), key 3 (by omega), key 4 (by omega)⟩
theorem row5_news (w : World) (q : ER) : ∀ j u, q.row[j]? = some u → (w.alloc (.cells #[.int .i64 q.e.kind, .slice q.adA q.e.allow.length q.capA, .string q.e.over, .string q.e.name, .slice q.adK q.e.kids.length q.capK] 56)).cell? ((⟨w.heap.size, 0, none⟩ : Addr).add j) = some u := by
  intro j u hu
  rw [show (⟨w.heap.size, 0, none⟩ : Addr).add j = ⟨w.heap.size, 0 + j, none⟩ by simp [Addr.add]; omega, Nat.zero_add]
  have := World.cell?_alloc_mark w #[.int .i64 q.e.kind, .slice q.adA q.e.allow.length q.capA, .string q.e.over, .string q.e.name, .slice q.adK q.e.kids.length q.capK] 56 (0, 0) j
  rw [this]
  simpa [ER.row] using hu
theorem row5_one (q : ER) : ∀ u ∈ q.row, u.oneCell' = true := by
  intro u hu
  simp [ER.row] at hu
  rcases hu with rfl | rfl | rfl | rfl | rfl <;> rfl
end Go.Proofs.Ytjmbgpdbnffkpaa

/- A region that draws its order, by what holds whichever operations have come up: each operation is run once, from what those that it waits for have left. -/
namespace Go.Proofs.Ytjmbgpdbnffkpaa
open Go.RowKit

theorem count_lt {α : Type} (p q : α → Bool) (l : List α) (h : ∀ x ∈ l, q x = true → p x = true) (y : α) (hy : y ∈ l) (hp : p y = true) (hq : q y = false) : l.countP q < l.countP p := by
  induction l with
  | nil => cases hy
  | cons a l ih =>
    rw [List.countP_cons, List.countP_cons]
    rcases List.mem_cons.1 hy with rfl | hy
    · have := List.countP_mono_left (p := q) (q := p) (l := l) (fun x hx => h x (List.mem_cons_of_mem _ hx))
      simp [hp, hq]; omega
    · have h1 := ih (fun x hx => h x (List.mem_cons_of_mem _ hx)) hy
      have h2 := h a (List.mem_cons_self ..)
      cases hqa : q a with
      | true => simp [h2 hqa]; omega
      | false => simp; omega

section
variable {P : Program} {ops : Array Oper} {Q : Exit → Act → World → Prop} {md : Region.Mode}

/-- an operation's step, what follows it kept from the walk -/
theorem wpOp_hid {i : Nat} {o : Oper} {K : Act → World → Prop} {a : Act} {w : World} (ho : ops[i]? = some o)
    (h : ∀ K' : Act → World → Prop, Hid (∀ a w, K a w → K' a w) → if Region.wanted o (yielded ops a.tmps) = true then Oper.wp P o a w K' Q else K' (a.put o.dst undef) w) : wpOp P ops Q i K a w := wpOp_step ho h
/-- how many have not come up -/
def left (ops : Array Oper) (listed : Array Bool) : Nat := (List.range ops.size).countP (fun i => !(listed.getD i true))

theorem getD_set (listed : Array Bool) (i j : Nat) : (listed.setIfInBounds i true).getD j true = if j = i then true else listed.getD j true := by
  rw [Array.getD_eq_getD_getElem?, Array.getD_eq_getD_getElem?, Array.getElem?_setIfInBounds]
  by_cases e : i = j
  · subst e
    by_cases h : i < listed.size <;> simp [h]
  · simp [e, Ne.symm e]

theorem left_set {listed : Array Bool} {i : Nat} (hi : i < ops.size) (hl : listed.getD i true = false) : left ops (listed.setIfInBounds i true) < left ops listed := by
  refine count_lt _ _ _ ?_ i (by simpa using hi) (by simp [hl]) (by rw [getD_set]; simp)
  intro x _ hx
  simp only [getD_set, Bool.not_eq_true'] at hx ⊢
  by_cases e : x = i
  · simp [e] at hx
  · simpa [e] using hx

theorem wpAny_inv (Inv : Array Bool → Act → World → Prop)
    (hstep : ∀ listed a w, Inv listed a w → ∀ i ∈ Region.ready md ops listed, wpOp P ops Q i (Inv (listed.setIfInBounds i true)) a w)
    (hend : ∀ listed a w, Inv listed a w → Region.ready md ops listed = [] → Q .normal a w) :
    ∀ (fuel : Nat) (listed : Array Bool) (a : Act) (w : World), left ops listed ≤ fuel → Inv listed a w → wpAny P md ops Q fuel listed a w := by
  intro fuel
  induction fuel with
  | zero =>
    intro listed a w hc hI
    have hr : Region.ready md ops listed = [] := by
      rw [List.eq_nil_iff_forall_not_mem]
      intro i hi
      obtain ⟨h1, o, h2, -⟩ := mem_ready.1 hi
      have := left_set (ops := ops) (Array.getElem?_eq_some_iff.1 h2).1 h1
      omega
    exact ⟨hr, hend _ _ _ hI hr⟩
  | succ n ih =>
    intro listed a w hc hI
    refine ⟨fun hr => hend _ _ _ hI hr, fun i hi => wpOp_mono (fun a' w' h => ih _ _ _ ?_ h) (hstep _ _ _ hI i hi)⟩
    obtain ⟨h1, o, h2, -⟩ := mem_ready.1 hi
    have := left_set (ops := ops) (Array.getElem?_eq_some_iff.1 h2).1 h1
    omega

theorem left_le (ops : Array Oper) (listed : Array Bool) : left ops listed ≤ ops.size := by
  unfold left
  exact Nat.le_trans List.countP_le_length (by simp)

/-- a region that draws, by an invariant -/
theorem wp_region_inv {id : Nat} {a : Act} {w : World} (Inv : Array Bool → Act → World → Prop) (hm : P.follows .mixedOrders = true)
    (h0 : Inv (Array.replicate ops.size false) a w.drew)
    (hstep : ∀ listed a w, Inv listed a w → ∀ i ∈ Region.ready .any ops listed, wpOp P ops Q i (Inv (listed.setIfInBounds i true)) a w)
    (hend : ∀ listed a w, Inv listed a w → Region.ready .any ops listed = [] → Q .normal a w) : (Code.region id ops true).wp P Q a w :=
  wp_region_any hm (wpAny_inv Inv hstep hend _ _ _ _ (left_le _ _) h0)

/-- at the end all have come up -/
theorem all_listed {listed : Array Bool} {n : Nat} (hr : Region.ready md ops listed = []) (hs : ops.size = n) (hord : ∀ (i : Nat) (o : Oper), ops[i]? = some o → ∀ e ∈ o.after, e.on < i) (hsz : listed.size = n) : ∀ i, i < n → listed.getD i true = true := by
  intro i
  induction i using Nat.strongRecOn with
  | ind i ih =>
    intro hi
    cases hl : listed.getD i true with
    | true => rfl
    | false =>
      exfalso
      have hmem : i ∈ Region.ready md ops listed := by
        refine mem_ready.2 ⟨hl, ops[i]'(by omega), Array.getElem?_eq_getElem (by omega), fun e he _ => ?_⟩
        have hlt := hord i _ (Array.getElem?_eq_getElem (by omega)) e he
        have := ih e.on hlt (by omega)
        rw [Array.getD_eq_getD_getElem?, Array.getElem?_eq_getElem (by omega)] at this ⊢
        simpa using this
      rw [hr] at hmem
      cases hmem

end
end Go.Proofs.Ytjmbgpdbnffkpaa
