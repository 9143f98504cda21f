/- Rows of tuples in memory, and the contracts of the laws' helpers on them. -/
import Derived.Test.YtgifbgcnlijjiaaLawTup
namespace Go.Proofs.Ytgifbgcnlijjiaa
open Go.ChangeShapes Go.WideShapes Go.ChangeAt Go.RowKit
open Pl

/-- a tuple: its object's type and id, its relation, its subject's type and id, its set -/
structure Tp where
  a : ByteArray
  b : ByteArray
  r : ByteArray
  c : ByteArray
  d : ByteArray
  s : ByteArray
def Tp.fits (t : Tp) : Prop := t.a.size ≤ maxLen ∧ t.b.size ≤ maxLen ∧ t.r.size ≤ maxLen ∧ t.c.size ≤ maxLen ∧ t.d.size ≤ maxLen ∧ t.s.size ≤ maxLen
/-- six cells hold a tuple -/
def At6 (w : World) (b off : Nat) (t : Tp) : Prop :=
  w.cell? ⟨b, off, none⟩ = some (.string t.a) ∧ w.cell? ⟨b, off + 1, none⟩ = some (.string t.b) ∧ w.cell? ⟨b, off + 2, none⟩ = some (.string t.r) ∧
  w.cell? ⟨b, off + 3, none⟩ = some (.string t.c) ∧ w.cell? ⟨b, off + 4, none⟩ = some (.string t.d) ∧ w.cell? ⟨b, off + 5, none⟩ = some (.string t.s)
/-- a row of tuples lies from a place on -/
def Row6 (w : World) (b off : Nat) (ts : List Tp) : Prop := ∀ (i : Nat) (h : i < ts.length), At6 w b (off + i * 6) ts[i]
/-- what a slice of tuples leads to -/
def Sl (w : World) (ad : Option Addr) (ts : List Tp) : Prop := ts = [] ∨ ∃ b off, ad = some ⟨b, off, none⟩ ∧ b < w.heap.size ∧ Row6 w b off ts

theorem At6.same {w w' : World} {b off : Nat} {t : Tp} (h : At6 w b off t) (hc : ∀ o, w'.cell? ⟨b, o, none⟩ = w.cell? ⟨b, o, none⟩) : At6 w' b off t := by
  obtain ⟨h0, h1, h2, h3, h4, h5⟩ := h
  exact ⟨(hc _).trans h0, (hc _).trans h1, (hc _).trans h2, (hc _).trans h3, (hc _).trans h4, (hc _).trans h5⟩
theorem Row6.below {w w' : World} {b off B : Nat} {ts : List Tp} (h : Row6 w b off ts) (hB : Below B w w') (hb : b < B) : Row6 w' b off ts :=
  fun i hi => (h i hi).same fun o => hB.cell (p := ⟨b, o, none⟩) hb
theorem Sl.below {w w' : World} {ad : Option Addr} {ts : List Tp} (h : Sl w ad ts) (hB : Below w.heap.size w w') : Sl w' ad ts := by
  rcases h with h | ⟨b, off, e, hb, hr⟩
  · exact .inl h
  · exact .inr ⟨b, off, e, Nat.lt_of_lt_of_le hb hB.size, hr.below hB hb⟩

set_option maxHeartbeats 400000 in
theorem szTupleS_row (b off cap : Nat) (ts : List Tp) (left : Int) (w : World) (hlen : ts.length ≤ maxLen) (hr : Row6 w b off ts) (hb : b < w.heap.size) (hf : ∀ t ∈ ts, t.fits) (h0 : 0 ≤ left) (h1 : left ≤ 1048576) :
    Calls Try.prog 23 #[.slice (some ⟨b, off, none⟩) ts.length cap, .int .i64 left] w fun e w' => (∃ n : Int, e = .returned (.int .i64 n) ∧ (n = -1 ∨ 0 ≤ n ∧ n ≤ left ∧ ts.length ≤ left)) ∧ Below w.heap.size w w' := by
  unfold maxLen at hlen
  by_cases hneg : left - ts.length < 0
  · go_enter Try.func23, Try.ntmps23
    go_wp2
    go_ret
    exact ⟨⟨-1, rfl, .inl rfl⟩, Below.refl _ _⟩
  · go_enter Try.func23, Try.ntmps23
    go_wp2
    go_loopw [1, 5] (fun l i wr => ∃ (k : Nat) (x : Int), k ≤ ts.length ∧ i = .int .i64 k ∧ l = .int .i64 x ∧ 0 ≤ x ∧ x ≤ left ∧ Below w.heap.size w wr) (fun _ i _ => ts.length - (intOf i).toNat)
    case atStart => exact ⟨0, _, Nat.zero_le _, rfl, rfl, by omega, by omega, Below.refl _ _⟩
    case round =>
      obtain ⟨k, x, hk, rfl, rfl, hx0, hx1, hB⟩ := hrel
      by_cases hlt : k < ts.length
      · obtain ⟨t0, t1, t2, t3, t4, t5⟩ := (hr.below hB hb) k hlt
        obtain ⟨f0, f1, f2, f3, f4, f5⟩ := hf ts[k] (List.getElem_mem hlt)
        have hle := szTup_le ts[k].a ts[k].b ts[k].r ts[k].c ts[k].d ts[k].s x
        go_wp2_with fail
        refine (szTuple_any _ _ _ _ _ _ _ _ f0 f1 f2 f3 f4 f5 hx0 (by omega)).mono ?_
        rintro e w1 ⟨rfl, hb1⟩
        by_cases hn : szTup ts[k].a ts[k].b ts[k].r ts[k].c ts[k].d ts[k].s x < 0
        · go_wp2
          go_ret
          exact ⟨⟨-1, rfl, .inl rfl⟩, hB.trans (hb1.mono hB.size)⟩
        · go_wp2
          go_roundw
          case rel => exact ⟨k + 1, _, by omega, by go_num, rfl, by omega, by omega, hB.trans (hb1.mono hB.size)⟩
          case measure => simp [intOf]; omega
      · go_wp2
        go_ret
        exact ⟨⟨x, rfl, .inr ⟨hx0, hx1, by omega⟩⟩, hB⟩

theorem szTupleS_nil (ad : Option Addr) (cap : Nat) (left : Int) (w : World) (h0 : 0 ≤ left) (h1 : left ≤ 1048576) :
    Calls Try.prog 23 #[.slice ad 0 cap, .int .i64 left] w fun e w' => (∃ n : Int, e = .returned (.int .i64 n) ∧ (n = -1 ∨ 0 ≤ n ∧ n ≤ left ∧ (0 : Nat) ≤ left)) ∧ Below w.heap.size w w' := by
  go_enter Try.func23, Try.ntmps23
  go_wp2
  go_loopw [1, 5] (fun l i wr => ∃ x : Int, l = .int .i64 x ∧ i = .int .i64 0 ∧ 0 ≤ x ∧ x ≤ left ∧ Below w.heap.size w wr) (fun _ i _ => (intOf i).toNat)
  case atStart => exact ⟨_, rfl, rfl, by omega, by omega, Below.refl _ _⟩
  case round =>
    obtain ⟨x, rfl, rfl, hx0, hx1, hB⟩ := hrel
    go_wp2
    go_ret
    exact ⟨⟨x, rfl, .inr ⟨hx0, hx1, by omega⟩⟩, hB⟩

theorem szTupleS_any (ad : Option Addr) (cap : Nat) (ts : List Tp) (left : Int) (w : World) (hlen : ts.length ≤ maxLen) (hs : Sl w ad ts) (hf : ∀ t ∈ ts, t.fits) (h0 : 0 ≤ left) (h1 : left ≤ 1048576) :
    Calls Try.prog 23 #[.slice ad ts.length cap, .int .i64 left] w fun e w' => (∃ n : Int, e = .returned (.int .i64 n) ∧ (n = -1 ∨ 0 ≤ n ∧ n ≤ left ∧ ts.length ≤ left)) ∧ Below w.heap.size w w' := by
  rcases hs with rfl | ⟨b, off, rfl, hb, hr⟩
  · exact szTupleS_nil ad cap left w h0 h1
  · exact szTupleS_row b off cap ts left w hlen hr hb hf h0 h1

/-- six cells written -/
def put6 (w : World) (g o : Nat) (t : Tp) : World :=
  (((((w.setCell ⟨g, o, none⟩ (.string t.a)).setCell ⟨g, o + 1, none⟩ (.string t.b)).setCell ⟨g, o + 2, none⟩ (.string t.r)).setCell ⟨g, o + 3, none⟩ (.string t.c)).setCell ⟨g, o + 4, none⟩ (.string t.d)).setCell ⟨g, o + 5, none⟩ (.string t.s)

theorem setO {w : World} {g i j : Nat} {v : Value} (h : i ≠ j) : (w.setCell ⟨g, i, none⟩ v).cell? ⟨g, j, none⟩ = w.cell? ⟨g, j, none⟩ := by
  apply World.cell?_setCell_other
  intro e
  exact h (congrArg Addr.off e)
theorem setS {w : World} {a : Addr} {v u : Value} (h : w.cell? a = some u) : (w.setCell a v).cell? a = some v := by
  apply World.cell?_setCell_same; exact h

theorem put6_far (w : World) (g o : Nat) (t : Tp) (j : Nat) (h : j < o ∨ o + 6 ≤ j) : (put6 w g o t).cell? ⟨g, j, none⟩ = w.cell? ⟨g, j, none⟩ := by
  unfold put6
  rw [setO (by omega), setO (by omega), setO (by omega), setO (by omega), setO (by omega), setO (by omega)]
theorem put6_at {w : World} {g o : Nat} (t : Tp) (h : ∀ j, j < 6 → (w.cell? ⟨g, o + j, none⟩).isSome = true) : At6 (put6 w g o t) g o t := by
  have e : ∀ (W : World) (i j : Nat) (v : Value), (W.cell? ⟨g, o + j, none⟩).isSome = true → ((W.setCell ⟨g, o + i, none⟩ v).cell? ⟨g, o + j, none⟩).isSome = true := by
    intro W i j v hW
    by_cases hij : i = j
    · subst hij
      obtain ⟨u, hu⟩ := Option.isSome_iff_exists.mp hW
      rw [setS hu]; rfl
    · rw [setO (by omega)]; exact hW
  have same : ∀ (W : World) (j : Nat) (v : Value), (W.cell? ⟨g, o + j, none⟩).isSome = true → (W.setCell ⟨g, o + j, none⟩ v).cell? ⟨g, o + j, none⟩ = some v := by
    intro W j v hW
    obtain ⟨u, hu⟩ := Option.isSome_iff_exists.mp hW
    exact setS hu
  have h0 := h 0 (by omega)
  have h1 := h 1 (by omega)
  have h2 := h 2 (by omega)
  have h3 := h 3 (by omega)
  have h4 := h 4 (by omega)
  have h5 := h 5 (by omega)
  unfold put6 At6
  refine ⟨?_, ?_, ?_, ?_, ?_, ?_⟩
  · rw [setO (by omega), setO (by omega), setO (by omega), setO (by omega), setO (by omega)]
    exact same _ 0 _ h0
  · rw [setO (by omega), setO (by omega), setO (by omega), setO (by omega)]
    exact same _ 1 _ (e _ 0 1 _ h1)
  · rw [setO (by omega), setO (by omega), setO (by omega)]
    exact same _ 2 _ (e _ 1 2 _ (e _ 0 2 _ h2))
  · rw [setO (by omega), setO (by omega)]
    exact same _ 3 _ (e _ 2 3 _ (e _ 1 3 _ (e _ 0 3 _ h3)))
  · rw [setO (by omega)]
    exact same _ 4 _ (e _ 3 4 _ (e _ 2 4 _ (e _ 1 4 _ (e _ 0 4 _ h4))))
  · exact same _ 5 _ (e _ 4 5 _ (e _ 3 5 _ (e _ 2 5 _ (e _ 1 5 _ (e _ 0 5 _ h5)))))
theorem put6_frozen (w : World) (g o : Nat) (t : Tp) (x : Addr) : (put6 w g o t).frozen? x = w.frozen? x := by simp [put6]
theorem put6_below {B : Nat} {w0 w : World} {g o : Nat} {t : Tp} (h : Below B w0 w) (hg : B ≤ g) : Below B w0 (put6 w g o t) := by
  unfold put6
  exact (((((h.setCell (by exact hg) _).setCell (by exact hg) _).setCell (by exact hg) _).setCell (by exact hg) _).setCell (by exact hg) _).setCell (by exact hg) _
theorem put6_size (w : World) (g o : Nat) (t : Tp) : (put6 w g o t).heap.size = w.heap.size := by simp [put6]

end Go.Proofs.Ytgifbgcnlijjiaa
