/- Lists of files and of ops in memory. -/
import Derived.Test.YtbfimfmfdllejaaRows
import Derived.Below
import Derived.WalkKit
import Derived.WalkLawsBesides
import Derived.ProofKit
import Derived.OwnWalk
import Derived.Maps.AppendAt
namespace Go.Proofs.Ytbfimfmfdllejaa
open Go.ChangeShapes Go.WideShapes Go.ChangeAt Go.RowKit

/-- a file: its name and its data -/
structure Fl where
  n : ByteArray
  d : ByteArray
/-- an op: its kind, its name, the other name, its data -/
structure Dop where
  k : Int
  n : ByteArray
  t : ByteArray
  d : ByteArray
def Fl.fits (a : Fl) : Prop := a.n.size ≤ maxLen ∧ a.d.size ≤ maxLen
def Dop.fits (a : Dop) : Prop := a.n.size ≤ maxLen ∧ a.t.size ≤ maxLen ∧ a.d.size ≤ maxLen
def Fl.small (a : Fl) : Prop := a.n.size ≤ 1048576 ∧ a.d.size ≤ 1048576
def Dop.small (a : Dop) : Prop := a.n.size ≤ 2097152 ∧ a.t.size ≤ 2097152 ∧ a.d.size ≤ 2097152
def Fl.row (a : Fl) : List Value := [.string a.n, .string a.d]
def Dop.row (a : Dop) : List Value := [.int .i64 a.k, .string a.n, .string a.t, .string a.d]
def AtF (w : World) (b off : Nat) (a : Fl) : Prop := w.cell? ⟨b, off, none⟩ = some (.string a.n) ∧ w.cell? ⟨b, off + 1, none⟩ = some (.string a.d)
def AtO (w : World) (b off : Nat) (a : Dop) : Prop := w.cell? ⟨b, off, none⟩ = some (.int .i64 a.k) ∧ w.cell? ⟨b, off + 1, none⟩ = some (.string a.n) ∧ w.cell? ⟨b, off + 2, none⟩ = some (.string a.t) ∧ w.cell? ⟨b, off + 3, none⟩ = some (.string a.d)
def SlF (w : World) (ad : Option Addr) (xs : List Fl) : Prop := xs = [] ∨ ∃ b off, ad = some ⟨b, off, none⟩ ∧ b < w.heap.size ∧ ∀ (i : Nat) (h : i < xs.length), AtF w b (off + i * 2) xs[i]
def SlO (w : World) (ad : Option Addr) (xs : List Dop) : Prop := xs = [] ∨ ∃ b off, ad = some ⟨b, off, none⟩ ∧ b < w.heap.size ∧ ∀ (i : Nat) (h : i < xs.length), AtO w b (off + i * 4) xs[i]
theorem AtF.same {w w' : World} {b off : Nat} {a : Fl} (h : AtF w b off a) (hc : ∀ o, w'.cell? ⟨b, o, none⟩ = w.cell? ⟨b, o, none⟩) : AtF w' b off a := ⟨(hc _).trans h.1, (hc _).trans h.2⟩
theorem AtO.same {w w' : World} {b off : Nat} {a : Dop} (h : AtO w b off a) (hc : ∀ o, w'.cell? ⟨b, o, none⟩ = w.cell? ⟨b, o, none⟩) : AtO w' b off a := ⟨(hc _).trans h.1, (hc _).trans h.2.1, (hc _).trans h.2.2.1, (hc _).trans h.2.2.2⟩
theorem SlF.below {w w' : World} {ad : Option Addr} {xs : List Fl} (h : SlF w ad xs) (hB : Below w.heap.size w w') : SlF w' ad xs := by
  rcases h with h | ⟨b, off, e, hb, hr⟩
  · exact .inl h
  · exact .inr ⟨b, off, e, Nat.lt_of_lt_of_le hb hB.size, fun i hi => (hr i hi).same fun o => hB.cell (p := ⟨b, o, none⟩) hb⟩
theorem SlO.below {w w' : World} {ad : Option Addr} {xs : List Dop} (h : SlO w ad xs) (hB : Below w.heap.size w w') : SlO w' ad xs := by
  rcases h with h | ⟨b, off, e, hb, hr⟩
  · exact .inl h
  · exact .inr ⟨b, off, e, Nat.lt_of_lt_of_le hb hB.size, fun i hi => (hr i hi).same fun o => hB.cell (p := ⟨b, o, none⟩) hb⟩
def rowsF (xs : List Fl) : List Value := xs.flatMap Fl.row
def rowsO (xs : List Dop) : List Value := xs.flatMap Dop.row
theorem rowsF_snoc (xs : List Fl) (a : Fl) : rowsF (xs ++ [a]) = rowsF xs ++ a.row := by simp [rowsF]
theorem rowsO_snoc (xs : List Dop) (a : Dop) : rowsO (xs ++ [a]) = rowsO xs ++ a.row := by simp [rowsO]
theorem rowsF_next (xs : List Fl) (k : Nat) (h : k < xs.length) : rowsF (xs.take (k + 1)) = (rowsF (xs.take k) ++ [.string xs[k].n]) ++ [.string xs[k].d] := by
  rw [List.take_succ_eq_append_getElem h, rowsF_snoc]; simp [Fl.row]
theorem rowsO_next (xs : List Dop) (k : Nat) (h : k < xs.length) : rowsO (xs.take (k + 1)) = (((rowsO (xs.take k) ++ [.int .i64 xs[k].k]) ++ [.string xs[k].n]) ++ [.string xs[k].t]) ++ [.string xs[k].d] := by
  rw [List.take_succ_eq_append_getElem h, rowsO_snoc]; simp [Dop.row]
theorem rowsF_len : ∀ xs : List Fl, (rowsF xs).length = xs.length * 2
  | [] => rfl
  | a :: xs => by have := rowsF_len xs; simp only [rowsF, List.flatMap_cons, List.length_append, List.length_cons, Fl.row, List.length_nil] at this ⊢; omega
theorem rowsO_len : ∀ xs : List Dop, (rowsO xs).length = xs.length * 4
  | [] => rfl
  | a :: xs => by have := rowsO_len xs; simp only [rowsO, List.flatMap_cons, List.length_append, List.length_cons, Dop.row, List.length_nil] at this ⊢; omega
theorem rowsF_at : ∀ (xs : List Fl) (i : Nat) (h : i < xs.length) (j : Nat), j < 2 → (rowsF xs)[i * 2 + j]? = (xs[i]).row[j]?
  | [], i, h, _, _ => by simp at h
  | a :: xs, 0, _, j, hj => by
    show (a.row ++ rowsF xs)[0 * 2 + j]? = _
    rw [Nat.zero_mul, Nat.zero_add, List.getElem?_append_left (by simpa [Fl.row] using hj)]; rfl
  | a :: xs, i + 1, h, j, hj => by
    have := rowsF_at xs i (by simpa using h) j hj
    show (a.row ++ rowsF xs)[(i + 1) * 2 + j]? = _
    rw [List.getElem?_append_right (by simp [Fl.row]; omega)]
    simp only [List.getElem_cons_succ]
    rw [← this]; congr 1; simp [Fl.row]; omega
theorem rowsO_at : ∀ (xs : List Dop) (i : Nat) (h : i < xs.length) (j : Nat), j < 4 → (rowsO xs)[i * 4 + j]? = (xs[i]).row[j]?
  | [], i, h, _, _ => by simp at h
  | a :: xs, 0, _, j, hj => by
    show (a.row ++ rowsO xs)[0 * 4 + j]? = _
    rw [Nat.zero_mul, Nat.zero_add, List.getElem?_append_left (by simpa [Dop.row] using hj)]; rfl
  | a :: xs, i + 1, h, j, hj => by
    have := rowsO_at xs i (by simpa using h) j hj
    show (a.row ++ rowsO xs)[(i + 1) * 4 + j]? = _
    rw [List.getElem?_append_right (by simp [Dop.row]; omega)]
    simp only [List.getElem_cons_succ]
    rw [← this]; congr 1; simp [Dop.row]; omega
/-- a row that the call owns, as a list in memory -/
theorem own_files {w : World} {base n : Nat} {e : TypeId} {v : Value} {xs : List Fl} (h : w.ownsRow base e 2 v n (rowsF xs)) (hn : n = xs.length) : ∃ ad cap, v = .slice ad xs.length cap ∧ SlF w ad xs ∧ ∀ g, ad = some ⟨g, 0, none⟩ → base ≤ g := by
  subst hn
  have h2 := h
  rcases h.2 with ⟨rfl, h0⟩ | ⟨g, cp, cur, rfl, hbg, hg, hnc, -⟩
  · have : xs = [] := List.length_eq_zero_iff.1 h0
    subst this
    exact ⟨none, 0, rfl, .inl rfl, fun g e => by cases e⟩
  · have hlt := h2.lt g rfl
    have key : ∀ i (hi : i < xs.length) j, j < 2 → w.cell? ⟨g, 0 + i * 2 + j, none⟩ = (xs[i]).row[j]? := fun i hi j hj => by
      rw [h2.cellAt (0 + i * 2 + j) (by have := rowsF_len xs; omega), ← rowsF_at xs i hi j hj, Nat.zero_add]
    exact ⟨some ⟨g, 0, none⟩, cp, rfl, .inr ⟨g, 0, rfl, hlt.2, fun i hi => ⟨key i hi 0 (by omega), key i hi 1 (by omega)⟩⟩, fun g' e => by injection e with e; injection e with e1 e2; omega⟩
theorem own_later {w w' : World} {base n size : Nat} {e : TypeId} {v : Value} {xs : List Value} (h : w.ownsRow base e size v n xs) (hb : Below w.heap.size w w') : w'.ownsRow base e size v n xs :=
  h.kept (row := none) ⟨hb.os, hb.tape, hb.output, hb.size, fun k hk _ => hb.block k hk⟩ (Classical.em _)
theorem kept {W w1 : World} {n o : Nat} {v : Value} (hb : Below W.heap.size W w1) (hn : n < W.heap.size) (h : W.cell? ⟨n, o, none⟩ = some v) : w1.cell? ⟨n, o, none⟩ = some v := by
  rw [hb.cell (p := ⟨n, o, none⟩) hn]; exact h
theorem keptF {W w1 : World} {n o : Nat} (hb : Below W.heap.size W w1) (hn : n < W.heap.size) (h : W.frozen? ⟨n, o, none⟩ = false) : w1.frozen? ⟨n, o, none⟩ = false := by
  rw [hb.frozen (p := ⟨n, o, none⟩) hn]; exact h

/-- a new row of n cells, the first of which are filled in -/
structure Fil (w wr : World) (g n : Nat) (xs : List Value) : Prop where
  below : Below w.heap.size w wr
  ge : w.heap.size ≤ g
  lt : g < wr.heap.size
  done : ∀ (j : Nat) (h : j < xs.length), wr.cell? ⟨g, j, none⟩ = some xs[j]
  there : ∀ j, j < n → (wr.cell? ⟨g, j, none⟩).isSome = true
  free : ∀ j, wr.frozen? ⟨g, j, none⟩ = false

theorem setO' {w : World} {g i j : Nat} {v : Value} (h : i ≠ j) : (w.setCell ⟨g, i, none⟩ v).cell? ⟨g, j, none⟩ = w.cell? ⟨g, j, none⟩ := by
  apply World.cell?_setCell_other
  intro e
  exact h (congrArg Addr.off e)
theorem setS' {w : World} {a : Addr} {v u : Value} (h : w.cell? a = some u) : (w.setCell a v).cell? a = some v := by
  apply World.cell?_setCell_same; exact h
theorem setB2 {w : World} {g h i j : Nat} {v : Value} (hn : g ≠ h) : (w.setCell ⟨g, i, none⟩ v).cell? ⟨h, j, none⟩ = w.cell? ⟨h, j, none⟩ := by
  apply World.cell?_setCell_other
  intro e
  exact hn (congrArg Addr.block e)

theorem Fil.later {w wr w1 : World} {g n : Nat} {xs : List Value} (h : Fil w wr g n xs) (hb : Below wr.heap.size wr w1) : Fil w w1 g n xs where
  below := h.below.trans (hb.mono h.below.size)
  ge := h.ge
  lt := Nat.lt_of_lt_of_le h.lt hb.size
  done j hj := by rw [hb.cell (p := ⟨g, j, none⟩) h.lt]; exact h.done j hj
  there j hj := by rw [hb.cell (p := ⟨g, j, none⟩) h.lt]; exact h.there j hj
  free j := by rw [hb.frozen (p := ⟨g, j, none⟩) h.lt]; exact h.free j

theorem Fil.put {w wr : World} {g n o : Nat} {xs : List Value} (h : Fil w wr g n xs) (v : Value) (ho : o = xs.length) (hn : o < n) : Fil w (wr.setCell ⟨g, o, none⟩ v) g n (xs ++ [v]) where
  below := h.below.setCell (p := ⟨g, o, none⟩) h.ge v
  ge := h.ge
  lt := by simpa using h.lt
  done j hj := by
    by_cases e : j = o
    · subst e
      obtain ⟨u, hu⟩ := Option.isSome_iff_exists.mp (h.there j hn)
      rw [setS' hu]
      simp [ho]
    · have hj' : j < xs.length := by simp at hj; omega
      rw [setO' (Ne.symm e), h.done j hj', List.getElem_append_left hj']
  there j hj := by
    by_cases e : j = o
    · subst e
      obtain ⟨u, hu⟩ := Option.isSome_iff_exists.mp (h.there j hn)
      rw [setS' hu]; rfl
    · rw [setO' (Ne.symm e)]
      exact h.there j hj
  free j := by simpa using h.free j

theorem fil_made {w w0 : World} {n k : Nat} {base : Nat} {e : TypeId} {xs : List Value} (h : w0.ownsRow base e k (.slice (some ⟨w.heap.size, 0, none⟩) n n) n xs) (hg : w.grownBy w0 none) : Fil w w0 w.heap.size (n * k) [] where
  below := (Below.refl _ _).grown hg (Nat.le_refl _) (fun k hk => by cases hk)
  ge := Nat.le_refl _
  lt := (h.lt w.heap.size rfl).2
  done j hj := absurd hj (Nat.not_lt_zero _)
  there j hj := by
    rw [h.cellAt j hj, List.getElem?_eq_getElem (by rw [h.1]; exact hj)]; rfl
  free j := h.frozenAt j

theorem infoOf {t : TypeId} {n b : Nat} (h : (Try.prog.info? t).map (fun i => (i.zero.isSome, i.size, i.bytes)) = some (true, n, b)) : ∃ i z, Try.prog.info? t = some i ∧ i.zero = some z ∧ i.size = n ∧ i.bytes = b := by
  cases hi : Try.prog.info? t with
  | none => rw [hi] at h; cases h
  | some i =>
    rw [hi] at h
    simp at h
    obtain ⟨z, hz⟩ := Option.isSome_iff_exists.mp h.1
    exact ⟨i, z, rfl, hz, h.2.1, h.2.2⟩

theorem Fil.files {w w' : World} {g : Nat} {xs : List Fl} (h : Fil w w' g (xs.length * 2) (rowsF xs)) : SlF w' (some ⟨g, 0, none⟩) xs := by
  have hl := rowsF_len xs
  have key : ∀ i (hi : i < xs.length) j, j < 2 → w'.cell? ⟨g, 0 + i * 2 + j, none⟩ = (xs[i]).row[j]? := fun i hi j hj => by
    rw [Nat.zero_add, h.done (i * 2 + j) (by omega), ← rowsF_at xs i hi j hj, List.getElem?_eq_getElem (by omega)]
  exact .inr ⟨g, 0, rfl, h.lt, fun i hi => ⟨key i hi 0 (by omega), key i hi 1 (by omega)⟩⟩
theorem Fil.ops {w w' : World} {g : Nat} {xs : List Dop} (h : Fil w w' g (xs.length * 4) (rowsO xs)) : SlO w' (some ⟨g, 0, none⟩) xs := by
  have hl := rowsO_len xs
  have key : ∀ i (hi : i < xs.length) j, j < 4 → w'.cell? ⟨g, 0 + i * 4 + j, none⟩ = (xs[i]).row[j]? := fun i hi j hj => by
    rw [Nat.zero_add, h.done (i * 4 + j) (by omega), ← rowsO_at xs i hi j hj, List.getElem?_eq_getElem (by omega)]
  exact .inr ⟨g, 0, rfl, h.lt, fun i hi => ⟨key i hi 0 (by omega), key i hi 1 (by omega), key i hi 2 (by omega), key i hi 3 (by omega)⟩⟩
end Go.Proofs.Ytbfimfmfdllejaa
