/- The contract of the law's helper that copies a slice of tuples into the program's type: a new row. -/
import Derived.Test.YtgifbgcnlijjiaaSlices
namespace Go.Proofs.Ytgifbgcnlijjiaa
open Go.ChangeShapes Go.WideShapes Go.ChangeAt Go.RowKit
open Pl

theorem infoTup : ∃ i z, Try.prog.info? 27 = some i ∧ i.zero = some z ∧ i.size = 6 ∧ i.bytes = 96 := by
  have h : (Try.prog.info? 27).map (fun i => (i.zero.isSome, i.size, i.bytes)) = some (true, 6, 96) := by kernel_rfl
  cases hi : Try.prog.info? 27 with
  | none => rw [hi] at h; cases h
  | some i =>
    rw [hi] at h
    simp at h
    obtain ⟨z, hz⟩ := Option.isSome_iff_exists.mp h.1
    exact ⟨i, z, rfl, hz, h.2.1, h.2.2⟩

/-- a new row of tuples, the first k of which are filled in -/
structure Filling (w wr : World) (g : Nat) (ts : List Tp) (k : Nat) : Prop where
  below : Below w.heap.size w wr
  ge : w.heap.size ≤ g
  lt : g < wr.heap.size
  done : ∀ (i : Nat) (h : i < ts.length), i < k → At6 wr g (0 + i * 6) ts[i]
  there : ∀ j, j < ts.length * 6 → (wr.cell? ⟨g, j, none⟩).isSome = true
  free : ∀ j, wr.frozen? ⟨g, j, none⟩ = false

theorem Filling.later {w wr w1 : World} {g : Nat} {ts : List Tp} {k : Nat} (h : Filling w wr g ts k) (hb : Below wr.heap.size wr w1) : Filling w w1 g ts k where
  below := h.below.trans (hb.mono h.below.size)
  ge := h.ge
  lt := Nat.lt_of_lt_of_le h.lt hb.size
  done i hi hk := (h.done i hi hk).same fun o => hb.cell (p := ⟨g, o, none⟩) h.lt
  there j hj := by rw [hb.cell (p := ⟨g, j, none⟩) h.lt]; exact h.there j hj
  free j := by rw [hb.frozen (p := ⟨g, j, none⟩) h.lt]; exact h.free j

theorem Filling.put {w wr : World} {g : Nat} {ts : List Tp} {k : Nat} (h : Filling w wr g ts k) (hk : k < ts.length) : Filling w (put6 wr g (k * 6) ts[k]) g ts (k + 1) where
  below := put6_below h.below h.ge
  ge := h.ge
  lt := by rw [put6_size]; exact h.lt
  done i hi hik := by
    by_cases e : i = k
    · subst e
      rw [Nat.zero_add]
      exact put6_at _ (fun j hj => h.there _ (by omega))
    · obtain ⟨a0, a1, a2, a3, a4, a5⟩ := h.done i hi (by omega)
      refine ⟨?_, ?_, ?_, ?_, ?_, ?_⟩ <;> (rw [put6_far _ _ _ _ _ (by omega)]; assumption)
  there j hj := by
    by_cases hin : j < k * 6 ∨ k * 6 + 6 ≤ j
    · rw [put6_far _ _ _ _ _ hin]; exact h.there j hj
    · obtain ⟨a0, a1, a2, a3, a4, a5⟩ := put6_at (w := wr) (g := g) (o := k * 6) ts[k] (fun j hj => h.there _ (by omega))
      have hj6 : j = k * 6 ∨ j = k * 6 + 1 ∨ j = k * 6 + 2 ∨ j = k * 6 + 3 ∨ j = k * 6 + 4 ∨ j = k * 6 + 5 := by omega
      rcases hj6 with e | e | e | e | e | e
      · rw [e, a0]; rfl
      · rw [e, a1]; rfl
      · rw [e, a2]; rfl
      · rw [e, a3]; rfl
      · rw [e, a4]; rfl
      · rw [e, a5]; rfl
  free j := by rw [put6_frozen]; exact h.free j

theorem filling_made {w w0 : World} {ts : List Tp} {base : Nat} {e : TypeId} {xs : List Value} (h : w0.ownsRow base e 6 (.slice (some ⟨w.heap.size, 0, none⟩) ts.length ts.length) ts.length xs) (hg : w.grownBy w0 none) : Filling w w0 w.heap.size ts 0 where
  below := (Below.refl _ _).grown hg (Nat.le_refl _) (fun k hk => by cases hk)
  ge := Nat.le_refl _
  lt := (h.lt w.heap.size rfl).2
  done i hi hk := absurd hk (Nat.not_lt_zero _)
  there j hj := by
    rw [h.cellAt j hj, List.getElem?_eq_getElem (by rw [h.1]; exact hj)]; rfl
  free j := h.frozenAt j

set_option maxHeartbeats 1000000 in
theorem toTupleS_row (b off cap : Nat) (ts : List Tp) (w : World) (hlen : ts.length ≤ 1048576) (hr : Row6 w b off ts) (hb : b < w.heap.size) :
    Calls Try.prog 25 #[.slice (some ⟨b, off, none⟩) ts.length cap] w fun e w' => e = .returned (.slice (some ⟨w.heap.size, 0, none⟩) ts.length ts.length) ∧ Filling w w' w.heap.size ts ts.length := by
  obtain ⟨inf, z, hi, hz0, hz1, hz2⟩ := infoTup
  go_enter Try.func25, Try.ntmps25
  go_wp2_with (at_make; refine wpList_make_full _ rfl _ _ 35 rfl w.heap.size 27 inf z 6 Try.underlying35 hi hz0 hz1 .i64 .i64 _ _ ts.length rfl rfl rfl rfl (by rw [hz2]; omega) (by unfold maxLen; omega) (Nat.le_refl _) ?_; intro w0 hown0 hgrow0)
  have F0 : Filling w w0 w.heap.size ts 0 := filling_made hown0 hgrow0
  clear hown0 hgrow0 hi hz0 hz1 hz2
  go_loopw [4] (fun i wr => ∃ k : Nat, k ≤ ts.length ∧ i = .int .i64 k ∧ Filling w wr w.heap.size ts k) (fun i _ => ts.length - (intOf i).toNat)
  case atStart => exact ⟨0, Nat.zero_le _, rfl, F0⟩
  case round =>
    obtain ⟨k, hk, rfl, F⟩ := hrel
    by_cases hlt : k < ts.length
    · obtain ⟨t0, t1, t2, t3, t4, t5⟩ := (hr.below F.below hb) k hlt
      go_wp2_with fail
      refine (toTuple_any _ _ _ _ _ _ _).mono ?_
      rintro e w1 ⟨rfl, hb1⟩
      have F1 := F.later hb1
      have fz := F1.free
      obtain ⟨v0, u0⟩ := Option.isSome_iff_exists.mp (F1.there (k * 6) (by omega))
      obtain ⟨v1, u1⟩ := Option.isSome_iff_exists.mp (F1.there (k * 6 + 1) (by omega))
      obtain ⟨v2, u2⟩ := Option.isSome_iff_exists.mp (F1.there (k * 6 + 2) (by omega))
      obtain ⟨v3, u3⟩ := Option.isSome_iff_exists.mp (F1.there (k * 6 + 3) (by omega))
      obtain ⟨v4, u4⟩ := Option.isSome_iff_exists.mp (F1.there (k * 6 + 4) (by omega))
      obtain ⟨v5, u5⟩ := Option.isSome_iff_exists.mp (F1.there (k * 6 + 5) (by omega))
      have F2 := F1.put hlt
      clear F F0 t0 t1 t2 t3 t4 t5 hb1
      go_wp2
      go_roundw
      case rel => exact ⟨k + 1, by omega, by go_num, F2⟩
      case measure => simp [intOf]; omega
    · obtain rfl : k = ts.length := by omega
      go_wp2
      go_ret
      exact ⟨rfl, F⟩

theorem toTupleS_nil (ad : Option Addr) (cap : Nat) (w : World) :
    Calls Try.prog 25 #[.slice ad 0 cap] w fun e w' => e = .returned (.slice (some ⟨w.heap.size, 0, none⟩) 0 0) ∧ Filling w w' w.heap.size [] 0 := by
  obtain ⟨inf, z, hi, hz0, hz1, hz2⟩ := infoTup
  go_enter Try.func25, Try.ntmps25
  go_wp2_with (at_make; refine wpList_make_full _ rfl _ _ 35 rfl w.heap.size 27 inf z 6 Try.underlying35 hi hz0 hz1 .i64 .i64 _ _ 0 rfl rfl rfl rfl (by omega) (by unfold maxLen; omega) (Nat.le_refl _) ?_; intro w0 hown0 hgrow0)
  have F0 : Filling w w0 w.heap.size [] 0 := filling_made (ts := []) hown0 hgrow0
  clear hown0 hgrow0 hi hz0 hz1 hz2
  go_loopw [4] (fun i wr => ∃ k : Nat, k = 0 ∧ i = .int .i64 k ∧ Filling w wr w.heap.size [] 0) (fun i _ => (intOf i).toNat)
  case atStart => exact ⟨0, rfl, rfl, F0⟩
  case round =>
    obtain ⟨k, rfl, rfl, F⟩ := hrel
    go_wp2
    go_ret
    exact ⟨rfl, F⟩

theorem toTupleS_any (ad : Option Addr) (cap : Nat) (ts : List Tp) (w : World) (hlen : ts.length ≤ 1048576) (hs : Sl w ad ts) :
    Calls Try.prog 25 #[.slice ad ts.length cap] w fun e w' => e = .returned (.slice (some ⟨w.heap.size, 0, none⟩) ts.length ts.length) ∧ Filling w w' w.heap.size ts ts.length := by
  rcases hs with rfl | ⟨b, off, rfl, hb, hr⟩
  · exact toTupleS_nil ad cap w
  · exact toTupleS_row b off cap ts w hlen hr hb

theorem Filling.row {w w' : World} {g : Nat} {ts : List Tp} (h : Filling w w' g ts ts.length) : Row6 w' g 0 ts := fun i hi => h.done i hi hi
theorem Filling.sl {w w' : World} {g : Nat} {ts : List Tp} (h : Filling w w' g ts ts.length) : Sl w' (some ⟨g, 0, none⟩) ts := .inr ⟨g, 0, rfl, h.lt, h.row⟩

end Go.Proofs.Ytgifbgcnlijjiaa
