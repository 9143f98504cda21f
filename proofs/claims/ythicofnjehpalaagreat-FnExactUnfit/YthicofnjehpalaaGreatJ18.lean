/- The order of texts, and of right tuples by their texts: of two unlike ones just one is ahead; what is ahead of one that is ahead is ahead. -/
import Derived.Test.YthicofnjehpalaaGreatJ17
import Derived.Test.YthicofnjehpalaaGreatAhead
import Derived.Test.YthicofnjehpalaaGreatJ14
import Derived.Test.YthicofnjehpalaaGreatJ16
import Derived.OwnWalk
import Derived.Maps.AppendAt
import Derived.Deep.RegionHeld3
import Derived.Deep.DrawnRows
import Derived.Test.YthicofnjehpalaaGreatTuplesOk
import Derived.Sort.Statements
namespace Go.Proofs.YthicofnjehpalaaGreat
open Pl

theorem less_trans : ∀ x y z : List UInt8, Op.bytesLess x y = true → Op.bytesLess y z = true → Op.bytesLess x z = true
  | [], _, [], h, k => by cases ‹List UInt8› <;> simp [Op.bytesLess] at h k
  | [], _, _ :: _, _, _ => rfl
  | _ :: _, [], _, h, _ => by simp [Op.bytesLess] at h
  | _ :: _, _ :: _, [], _, k => by simp [Op.bytesLess] at k
  | a :: x, b :: y, c :: z, h, k => by
    simp only [Op.bytesLess, Bool.or_eq_true, Bool.and_eq_true, decide_eq_true_eq, beq_iff_eq] at h k ⊢
    rcases h with h | ⟨h, h'⟩
    · rcases k with k | ⟨k, k'⟩
      · exact .inl (UInt8.lt_trans h k)
      · exact .inl (k ▸ h)
    · rcases k with k | ⟨k, k'⟩
      · exact .inl (h ▸ k)
      · exact .inr ⟨h.trans k, less_trans x y z h' k'⟩

end Go.Proofs.YthicofnjehpalaaGreat

/- Contracts of the document's functions that look for a tuple in a list, and that leave one out. -/
namespace Go.Proofs.YthicofnjehpalaaGreat
open Go.ChangeShapes Go.WideShapes Go.ChangeAt Go.RowKit Go.Maps
open Pl

def Tp.row (t : Tp) : List Value := [.string t.a, .string t.b, .string t.r, .string t.c, .string t.d, .string t.s]
def rows6 (ts : List Tp) : List Value := ts.flatMap Tp.row
theorem rows6_len : ∀ ts : List Tp, (rows6 ts).length = ts.length * 6
  | [] => rfl
  | r :: rs => by have := rows6_len rs; simp only [rows6, Tp.row, List.flatMap_cons, List.length_append, List.length_cons, List.length_nil] at this ⊢; omega
theorem rows6_at : ∀ (rs : List Tp) (i : Nat) (h : i < rs.length) (j : Nat), j < 6 → (rows6 rs)[i * 6 + j]? = (rs[i]).row[j]?
  | [], i, h, _, _ => by simp at h
  | r :: rs, 0, _, j, hj => by
    simp only [rows6, List.flatMap_cons, Nat.zero_mul, Nat.zero_add, List.getElem_cons_zero]
    rw [List.getElem?_append_left (by simpa [Tp.row] using hj)]
  | r :: rs, i + 1, h, j, hj => by
    have := rows6_at rs i (by simpa using h) j hj
    simp only [rows6, List.flatMap_cons, List.getElem_cons_succ] at this ⊢
    rw [List.getElem?_append_right (by simp [Tp.row]; omega), ← this]
    congr 1
    simp [Tp.row]; omega
theorem rows6_snoc (ts : List Tp) (t : Tp) : rows6 (ts ++ [t]) = rows6 ts ++ t.row := by simp [rows6]
theorem row6_one (t : Tp) : ∀ u ∈ t.row, u.oneCell' = true := by
  intro u hu
  simp [Tp.row] at hu
  rcases hu with rfl | rfl | rfl | rfl | rfl | rfl <;> rfl
theorem row6_news (w : World) (t : Tp) : ∀ j u, t.row[j]? = some u → (w.alloc (.cells #[.string t.a, .string t.b, .string t.r, .string t.c, .string t.d, .string t.s] 50)).cell? ((⟨w.heap.size, 0, none⟩ : Addr).add j) = some u := by
  intro j u hu
  rw [show (⟨w.heap.size, 0, none⟩ : Addr).add j = ⟨w.heap.size, 0 + j, none⟩ by simp [Addr.add]; omega, Nat.zero_add]
  have := World.cell?_alloc_mark w #[.string t.a, .string t.b, .string t.r, .string t.c, .string t.d, .string t.s] 50 (0, 0) j
  rw [this]
  simpa [Tp.row] using hu
theorem ownsT {w : World} {base n : Nat} {v : Value} {ts : List Tp} (h : w.ownsRow base 50 6 v n (rows6 ts)) (hn : n = ts.length) : ∃ ad cap, v = .slice ad ts.length cap ∧ Sl w ad ts ∧ ∀ g, ad = some ⟨g, 0, none⟩ → base ≤ g ∧ g < w.heap.size ∧ Free w g := by
  subst hn
  have h2 := h
  rcases h.2 with ⟨rfl, h0⟩ | ⟨g, cap, cur, rfl, hbg, hg, hnc, -⟩
  · exact ⟨none, 0, by rw [h0], .inl (List.length_eq_zero_iff.1 h0), fun g e => by cases e⟩
  · have hlt := h2.lt g rfl
    refine ⟨some ⟨g, 0, none⟩, cap, rfl, .inr ⟨g, 0, rfl, hlt.2, fun i hi => ?_⟩, fun g' e => ?_⟩
    · have hl := rows6_len ts
      have key : ∀ j, j < 6 → w.cell? ⟨g, 0 + i * 6 + j, none⟩ = (ts[i]).row[j]? := fun j hj => by
        rw [h2.cellAt (0 + i * 6 + j) (by omega), ← rows6_at ts i hi j hj, Nat.zero_add]
      exact ⟨key 0 (by omega), key 1 (by omega), key 2 (by omega), key 3 (by omega), key 4 (by omega), key 5 (by omega)⟩
    · injection e with e; injection e with e1 e2
      subst e1
      exact ⟨hlt.1, hlt.2, fun y => h2.frozenAt y⟩

end Go.Proofs.YthicofnjehpalaaGreat

/- Lists of right tuples in order: what is added, what is left out; a list in order is told by its members. -/
namespace Go.Proofs.YthicofnjehpalaaGreat
open Pl

def Tp.text (t : Tp) : List UInt8 := (tupText t.a t.b t.r t.c t.d t.s).toList
theorem ahead_less {x y : Tp} (hx : x.ok = true) (hy : y.ok = true) : x.ahead y = Op.bytesLess x.text y.text := aheadB_yes hx hy
theorem ahead_ok {x y : Tp} (h : x.ahead y = true) : x.ok = true ∧ y.ok = true := by
  unfold Tp.ahead aheadB at h
  simp only [Bool.and_eq_true] at h
  exact ⟨h.1.1, h.1.2⟩
theorem ahead_trans {x y z : Tp} (h : x.ahead y = true) (k : y.ahead z = true) : x.ahead z = true := by
  obtain ⟨hx, hy⟩ := ahead_ok h
  obtain ⟨-, hz⟩ := ahead_ok k
  rw [ahead_less hx hy] at h
  rw [ahead_less hy hz] at k
  rw [ahead_less hx hz]
  exact less_trans _ _ _ h k

/-- each stands ahead of all behind it -/
def Up (l : List Tp) : Prop := l.Pairwise fun x y => x.ahead y = true
theorem up_of {ts : List Tp} (h : tupsB ts = true) : Up ts ∧ (∀ t ∈ ts, t.ok = true) ∧ ts.length ≤ 40 := by
  unfold tupsB at h
  simp only [Bool.and_eq_true, decide_eq_true_eq] at h
  obtain ⟨hl, hu⟩ := h
  have hat : ∀ i, i < ts.length → okAt ts i = true := fun i hi => by
    unfold upOk at hu
    exact List.all_eq_true.1 hu i (List.mem_range.2 hi)
  have hok : ∀ i (hi : i < ts.length), ts[i].ok = true := fun i hi => by
    have := hat i hi
    cases i with
    | zero => rw [okAt_zero hi] at this; exact this
    | succ j => rw [okAt_succ hi] at this; simp only [Bool.and_eq_true] at this; exact this.1
  have hnx : ∀ i (hi : i + 1 < ts.length), ts[i].ahead ts[i + 1] = true := fun i hi => by
    have := hat (i + 1) hi
    rw [okAt_succ hi] at this; simp only [Bool.and_eq_true] at this; exact this.2
  refine ⟨List.pairwise_iff_getElem.2 fun i j hi hj hij => ?_, fun t ht => ?_, hl⟩
  · obtain ⟨d, rfl⟩ : ∃ d, j = i + 1 + d := ⟨j - (i + 1), by omega⟩
    induction d with
    | zero => exact hnx i hj
    | succ d ih => exact ahead_trans (ih (by omega) (by omega)) (hnx (i + 1 + d) (by omega))
  · obtain ⟨i, hi, rfl⟩ := List.mem_iff_getElem.1 ht
    exact hok i hi

end Go.Proofs.YthicofnjehpalaaGreat
