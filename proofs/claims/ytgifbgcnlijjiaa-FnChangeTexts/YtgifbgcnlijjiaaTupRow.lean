/- Rows of tuples in memory, and a tuple in six cells. -/
import Derived.Test.YtgifbgcnlijjiaaPlainSet
import Derived.Deep.QuietTactic
import Derived.BigQuiet
namespace Go.Proofs.Ytgifbgcnlijjiaa
open Go.ChangeShapes Go.WideShapes Go.ChangeAt Go.RowKit Go.Maps
open Pl

theorem row6_cells {w : World} {b off : Nat} {ts : List Tp} (h : Row6 w b off ts) : ∀ j u, (rows6 ts)[j]? = some u → w.cell? ((⟨b, off, none⟩ : Addr).add j) = some u := by
  intro j u hu
  have hl := rows6_len ts
  have hj : j < ts.length * 6 := by
    rcases Nat.lt_or_ge j (rows6 ts).length with h | h
    · omega
    · rw [List.getElem?_eq_none h] at hu; cases hu
  have hi : j / 6 < ts.length := by omega
  have hr : j % 6 < 6 := Nat.mod_lt _ (by omega)
  have e : j = j / 6 * 6 + j % 6 := by omega
  rw [e, rows6_at ts _ hi _ hr] at hu
  rw [show ((⟨b, off, none⟩ : Addr).add j) = ⟨b, off + j / 6 * 6 + j % 6, none⟩ by rw [show (⟨b, off, none⟩ : Addr).add j = ⟨b, off + j, none⟩ by simp [Addr.add]]; congr 1; omega]
  obtain ⟨c0, c1, c2, c3, c4, c5⟩ := h (j / 6) hi
  have h6 : j % 6 = 0 ∨ j % 6 = 1 ∨ j % 6 = 2 ∨ j % 6 = 3 ∨ j % 6 = 4 ∨ j % 6 = 5 := by omega
  rcases h6 with e6 | e6 | e6 | e6 | e6 | e6 <;> rw [e6] at hu ⊢ <;> simp only [Tp.row, List.getElem?_cons_zero, List.getElem?_cons_succ] at hu <;> rw [← hu] <;> assumption
theorem row6_take {w : World} {b off : Nat} {ts : List Tp} (h : Row6 w b off ts) (k : Nat) : Row6 w b off (ts.take k) := fun i hi => by
  have := h i (by simp at hi; omega)
  simpa using this
theorem row6_drop {w : World} {b off : Nat} {ts : List Tp} (h : Row6 w b off ts) (k : Nat) : Row6 w b (off + k * 6) (ts.drop k) := fun i hi => by
  have := h (k + i) (by simp at hi; omega)
  simp only [List.getElem_drop]
  rw [show off + k * 6 + i * 6 = off + (k + i) * 6 by omega]
  exact this
theorem rows6_one (ts : List Tp) : ∀ u ∈ rows6 ts, u.oneCell' = true := by
  intro u hu
  unfold rows6 at hu
  obtain ⟨t, -, h⟩ := List.mem_flatMap.1 hu
  exact row6_one t u h
theorem rows6_append (xs ys : List Tp) : rows6 (xs ++ ys) = rows6 xs ++ rows6 ys := by simp [rows6]
/-- six cells of a tuple's own block -/
def Six (w : World) (g : Nat) (t : Tp) : Prop := w.cell? ⟨g, 0, none⟩ = some (.string t.a) ∧ w.cell? ⟨g, 1, none⟩ = some (.string t.b) ∧ w.cell? ⟨g, 2, none⟩ = some (.string t.r) ∧ w.cell? ⟨g, 3, none⟩ = some (.string t.c) ∧ w.cell? ⟨g, 4, none⟩ = some (.string t.d) ∧ w.cell? ⟨g, 5, none⟩ = some (.string t.s) ∧ g < w.heap.size
theorem Six.below {w w' : World} {g : Nat} {t : Tp} (h : Six w g t) (hb : Below w.heap.size w w') : Six w' g t :=
  ⟨mK hb h.2.2.2.2.2.2 h.1, mK hb h.2.2.2.2.2.2 h.2.1, mK hb h.2.2.2.2.2.2 h.2.2.1, mK hb h.2.2.2.2.2.2 h.2.2.2.1, mK hb h.2.2.2.2.2.2 h.2.2.2.2.1, mK hb h.2.2.2.2.2.2 h.2.2.2.2.2.1, Nat.lt_of_lt_of_le h.2.2.2.2.2.2 hb.size⟩
theorem six_new (w : World) (t : Tp) (T : TypeId) : Six (w.alloc (.cells #[.string t.a, .string t.b, .string t.r, .string t.c, .string t.d, .string t.s] T)) w.heap.size t := by
  refine ⟨?_, ?_, ?_, ?_, ?_, ?_, ?_⟩ <;> simp

theorem Six.grown {w w' : World} {g : Nat} {t : Tp} {row : Option Nat} (h : Six w g t) (hg : w.grownBy w' row) (hne : some g ≠ row) : Six w' g t :=
  ⟨hg.cell h.1 hne, hg.cell h.2.1 hne, hg.cell h.2.2.1 hne, hg.cell h.2.2.2.1 hne, hg.cell h.2.2.2.2.1 hne, hg.cell h.2.2.2.2.2.1 hne, Nat.lt_of_lt_of_le h.2.2.2.2.2.2 hg.size⟩
theorem row6_grown {w w' : World} {b off : Nat} {ts : List Tp} {row : Option Nat} (h : Row6 w b off ts) (hg : w.grownBy w' row) (_hb : b < w.heap.size) (hne : some b ≠ row) : Row6 w' b off ts := fun i hi => by
  obtain ⟨c0, c1, c2, c3, c4, c5⟩ := h i hi
  exact ⟨hg.cell c0 hne, hg.cell c1 hne, hg.cell c2 hne, hg.cell c3 hne, hg.cell c4 hne, hg.cell c5 hne⟩
theorem news_none {ts : List Tp} {k : Nat} (h : ts.length ≤ k) (w : World) (ad : Addr) : ∀ j u, (rows6 (ts.drop k))[j]? = some u → w.cell? (ad.add j) = some u := fun j u hu => by
  rw [List.drop_of_length_le h] at hu
  simp [rows6] at hu
theorem ownsRow_base {W : World} {base base' : Nat} {e : TypeId} {size : Nat} {v : Value} {k : Nat} {xs : List Value} (h : W.ownsRow base e size v k xs) (hb : base' ≤ base) : W.ownsRow base' e size v k xs := by
  refine ⟨h.1, ?_⟩
  rcases h.2 with hn | ⟨g, cap, cur, hv, hbg, rest⟩
  · exact .inl hn
  · exact .inr ⟨g, cap, cur, hv, Nat.le_trans hb hbg, rest⟩
theorem HID {p : Prop} (h : p) : Hid p := h
theorem six_of {w : World} {g : Nat} {t : Tp} (h0 : w.cell? ⟨g, 0, none⟩ = some (.string t.a)) (h1 : w.cell? ⟨g, 1, none⟩ = some (.string t.b)) (h2 : w.cell? ⟨g, 2, none⟩ = some (.string t.r)) (h3 : w.cell? ⟨g, 3, none⟩ = some (.string t.c)) (h4 : w.cell? ⟨g, 4, none⟩ = some (.string t.d)) (h5 : w.cell? ⟨g, 5, none⟩ = some (.string t.s)) (hl : g < w.heap.size) : Six w g t := ⟨h0, h1, h2, h3, h4, h5, hl⟩
theorem keepPut {w W w' : World} {b n o : Nat} {x0 x1 x2 x3 x4 x5 y0 y1 y2 y3 y4 y5 : Value} (h : W.cell? ⟨b, o, none⟩ = some x0 ∧ W.cell? ⟨b, o + 1, none⟩ = some x1 ∧ W.cell? ⟨b, o + 2, none⟩ = some x2 ∧ W.cell? ⟨b, o + 3, none⟩ = some x3 ∧ W.cell? ⟨b, o + 4, none⟩ = some x4 ∧ W.cell? ⟨b, o + 5, none⟩ = some x5 ∧ W.cell? ⟨n, 0, none⟩ = some y0 ∧ W.cell? ⟨n, 1, none⟩ = some y1 ∧ W.cell? ⟨n, 2, none⟩ = some y2 ∧ W.cell? ⟨n, 3, none⟩ = some y3 ∧ W.cell? ⟨n, 4, none⟩ = some y4 ∧ W.cell? ⟨n, 5, none⟩ = some y5 ∧ b < W.heap.size ∧ n < W.heap.size ∧ Below n w W) (hb : Below W.heap.size W w') :
    w'.cell? ⟨b, o, none⟩ = some x0 ∧ w'.cell? ⟨b, o + 1, none⟩ = some x1 ∧ w'.cell? ⟨b, o + 2, none⟩ = some x2 ∧ w'.cell? ⟨b, o + 3, none⟩ = some x3 ∧ w'.cell? ⟨b, o + 4, none⟩ = some x4 ∧ w'.cell? ⟨b, o + 5, none⟩ = some x5 ∧ w'.cell? ⟨n, 0, none⟩ = some y0 ∧ w'.cell? ⟨n, 1, none⟩ = some y1 ∧ w'.cell? ⟨n, 2, none⟩ = some y2 ∧ w'.cell? ⟨n, 3, none⟩ = some y3 ∧ w'.cell? ⟨n, 4, none⟩ = some y4 ∧ w'.cell? ⟨n, 5, none⟩ = some y5 ∧ b < w'.heap.size ∧ n < w'.heap.size ∧ Below n w w' := by
  obtain ⟨h0, h1, h2, h3, h4, h5, g0, g1, g2, g3, g4, g5, hB, hN, hw⟩ := h
  exact ⟨mK hb hB h0, mK hb hB h1, mK hb hB h2, mK hb hB h3, mK hb hB h4, mK hb hB h5, mK hb hN g0, mK hb hN g1, mK hb hN g2, mK hb hN g3, mK hb hN g4, mK hb hN g5, Nat.lt_of_lt_of_le hB hb.size, Nat.lt_of_lt_of_le hN hb.size, hw.trans (hb.mono (Nat.le_of_lt hN))⟩

end Go.Proofs.Ytgifbgcnlijjiaa
