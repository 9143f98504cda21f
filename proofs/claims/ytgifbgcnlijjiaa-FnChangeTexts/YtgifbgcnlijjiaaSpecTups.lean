/- Contracts of the document's functions that look for a tuple in a list, and that leave one out. -/
import Derived.Test.YtgifbgcnlijjiaaSlices
import Derived.Test.YtgifbgcnlijjiaaMark0
import Derived.OwnWalk
import Derived.Maps.AppendAt
import Derived.Deep.RegionHeld3
import Derived.Deep.DrawnRows
namespace Go.Proofs.Ytgifbgcnlijjiaa
open Go.ChangeShapes Go.WideShapes Go.ChangeAt Go.RowKit Go.Maps
open Pl

def tpEq (x y : Tp) : Bool := x.a.toList == y.a.toList && x.b.toList == y.b.toList && x.r.toList == y.r.toList && x.c.toList == y.c.toList && x.d.toList == y.d.toList && x.s.toList == y.s.toList
theorem byte_inj {x y : ByteArray} (k : x.toList = y.toList) : x = y := by
  rw [Go.ByteArray.toList_eq, Go.ByteArray.toList_eq] at k
  obtain ⟨x⟩ := x
  obtain ⟨y⟩ := y
  exact congrArg ByteArray.mk (Array.toList_inj.1 k)
theorem tpEq_iff {x y : Tp} : tpEq x y = true ↔ x = y := by
  unfold tpEq
  simp only [Bool.and_eq_true, beq_iff_eq]
  constructor
  · rintro ⟨⟨⟨⟨⟨h0, h1⟩, h2⟩, h3⟩, h4⟩, h5⟩
    obtain ⟨xa, xb, xr, xc, xd, xs⟩ := x
    obtain ⟨ya, yb, yr, yc, yd, ys⟩ := y
    simp only at h0 h1 h2 h3 h4 h5
    rw [byte_inj h0, byte_inj h1, byte_inj h2, byte_inj h3, byte_inj h4, byte_inj h5]
  · rintro rfl; simp
theorem tp_eql (x y : Tp) {v : Bool} (h : tpEq x y = v) (w : World) :
    (binOp .eql 27 (.agg #[.string x.a, .string x.b, .string x.r, .string x.c, .string x.d, .string x.s]) (.agg #[.string y.a, .string y.b, .string y.r, .string y.c, .string y.d, .string y.s])).run Try.prog w = .ok (.bool v) w := by
  subst h
  go_simp
  unfold tpEq
  (repeat' split) <;> simp_all
theorem tp_neq (x y : Tp) {v : Bool} (h : (!tpEq x y) = v) (w : World) :
    (binOp .neq 27 (.agg #[.string x.a, .string x.b, .string x.r, .string x.c, .string x.d, .string x.s]) (.agg #[.string y.a, .string y.b, .string y.r, .string y.c, .string y.d, .string y.s])).run Try.prog w = .ok (.bool v) w := by
  subst h
  go_simp
  unfold tpEq
  (repeat' split) <;> simp_all
def hasT (ts : List Tp) (t : Tp) : Bool := ts.any fun x => tpEq x t
theorem hasT_drop {ts : List Tp} {t : Tp} {k : Nat} (h : k < ts.length) : hasT (ts.drop k) t = (tpEq ts[k] t || hasT (ts.drop (k + 1)) t) := by
  rw [List.drop_eq_getElem_cons h]; rfl

def Tp.row (t : Tp) : List Value := [.string t.a, .string t.b, .string t.r, .string t.c, .string t.d, .string t.s]
def rows6 (ts : List Tp) : List Value := ts.flatMap Tp.row
theorem rows6_len : ∀ ts : List Tp, (rows6 ts).length = ts.length * 6
  | [] => rfl
  | r :: rs => by have := rows6_len rs; simp only [rows6, Tp.row, List.flatMap_cons, List.length_append, List.length_cons, List.length_nil] at this ⊢; omega
theorem rows6_at : ∀ (rs : List Tp) (i : Nat) (h : i < rs.length) (j : Nat), j < 6 → (rows6 rs)[i * 6 + j]? = (rs[i]).row[j]?
  | [], i, h, _, _ => by simp at h
  | r :: rs, 0, _, j, hj => by
    simp only [rows6, List.flatMap_cons, Nat.zero_mul, Nat.zero_add, List.getElem_cons_zero]
    rw [List.getElem?_append_left (by simpa [Tp.row] using hj)]
  | r :: rs, i + 1, h, j, hj => by
    have := rows6_at rs i (by simpa using h) j hj
    simp only [rows6, List.flatMap_cons, List.getElem_cons_succ] at this ⊢
    rw [List.getElem?_append_right (by simp [Tp.row]; omega), ← this]
    congr 1
    simp [Tp.row]; omega
theorem rows6_snoc (ts : List Tp) (t : Tp) : rows6 (ts ++ [t]) = rows6 ts ++ t.row := by simp [rows6]
theorem row6_one (t : Tp) : ∀ u ∈ t.row, u.oneCell' = true := by
  intro u hu
  simp [Tp.row] at hu
  rcases hu with rfl | rfl | rfl | rfl | rfl | rfl <;> rfl
theorem row6_news (w : World) (t : Tp) : ∀ j u, t.row[j]? = some u → (w.alloc (.cells #[.string t.a, .string t.b, .string t.r, .string t.c, .string t.d, .string t.s] 27)).cell? ((⟨w.heap.size, 0, none⟩ : Addr).add j) = some u := by
  intro j u hu
  rw [show (⟨w.heap.size, 0, none⟩ : Addr).add j = ⟨w.heap.size, 0 + j, none⟩ by simp [Addr.add]; omega, Nat.zero_add]
  have := World.cell?_alloc_mark w #[.string t.a, .string t.b, .string t.r, .string t.c, .string t.d, .string t.s] 27 (0, 0) j
  rw [this]
  simpa [Tp.row] using hu
theorem ownsT {w : World} {base n : Nat} {v : Value} {ts : List Tp} (h : w.ownsRow base 27 6 v n (rows6 ts)) (hn : n = ts.length) : ∃ ad cap, v = .slice ad ts.length cap ∧ Sl w ad ts ∧ ∀ g, ad = some ⟨g, 0, none⟩ → base ≤ g ∧ g < w.heap.size ∧ Free w g := by
  subst hn
  have h2 := h
  rcases h.2 with ⟨rfl, h0⟩ | ⟨g, cap, cur, rfl, hbg, hg, hnc, -⟩
  · exact ⟨none, 0, by rw [h0], .inl (List.length_eq_zero_iff.1 h0), fun g e => by cases e⟩
  · have hlt := h2.lt g rfl
    refine ⟨some ⟨g, 0, none⟩, cap, rfl, .inr ⟨g, 0, rfl, hlt.2, fun i hi => ?_⟩, fun g' e => ?_⟩
    · have hl := rows6_len ts
      have key : ∀ j, j < 6 → w.cell? ⟨g, 0 + i * 6 + j, none⟩ = (ts[i]).row[j]? := fun j hj => by
        rw [h2.cellAt (0 + i * 6 + j) (by omega), ← rows6_at ts i hi j hj, Nat.zero_add]
      exact ⟨key 0 (by omega), key 1 (by omega), key 2 (by omega), key 3 (by omega), key 4 (by omega), key 5 (by omega)⟩
    · injection e with e; injection e with e1 e2
      subst e1
      exact ⟨hlt.1, hlt.2, fun y => h2.frozenAt y⟩
def dropT (ts : List Tp) (t : Tp) : List Tp := ts.filter fun x => !tpEq x t
theorem dropT_take {ts : List Tp} {t : Tp} {k : Nat} (h : k < ts.length) : dropT (ts.take (k + 1)) t = dropT (ts.take k) t ++ (if tpEq ts[k] t then [] else [ts[k]]) := by
  rw [List.take_succ_eq_append_getElem h]
  unfold dropT
  rw [List.filter_append]
  cases e : tpEq ts[k] t <;> simp [e]
theorem dropT_len (ts : List Tp) (t : Tp) (k : Nat) : (dropT (ts.take k) t).length ≤ k := by
  unfold dropT
  exact Nat.le_trans (List.length_filter_le _ _) (by simp; omega)

end Go.Proofs.Ytgifbgcnlijjiaa
