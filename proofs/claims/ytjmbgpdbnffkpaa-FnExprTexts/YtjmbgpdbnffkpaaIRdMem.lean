/- The program's reader of expressions in memory: what is left of the text, and its nodes. -/
import Derived.Test.YtjmbgpdbnffkpaaJ8
import Derived.Test.YtjmbgpdbnffkpaaPlainIRd3
namespace Go.Proofs.Ytjmbgpdbnffkpaa
set_option maxRecDepth 100000
set_option linter.unusedVariables false
open Go.ChangeShapes Go.WideShapes Go.ChangeAt Go.RowKit
open Pl

structure RdI (w : World) (R : Nat) (s : ByteArray) (p : Nat) (v : Value) : Prop where
  lt : R < w.heap.size
  c0 : w.cell? ⟨R, 0, none⟩ = some (.string (s.extract p s.size))
  c1 : w.cell? ⟨R, 1, none⟩ = some v
  fr : Free w R
  le : p ≤ s.size
theorem RdI.grown {w w' : World} {R : Nat} {s : ByteArray} {p : Nat} {v : Value} {row : Option Nat} (h : RdI w R s p v) (hg : w.grownBy w' row) (hR : some R ≠ row) : RdI w' R s p v :=
  ⟨Nat.lt_of_lt_of_le h.lt hg.size, hg.cell h.c0 hR, hg.cell h.c1 hR, fun j => (World.frozen?_of_block (w := w) (a := ⟨R, j, none⟩) (hg.block R h.lt hR)).trans (h.fr j), h.le⟩
theorem RdI.drewN {w : World} {R : Nat} {s : ByteArray} {p : Nat} {v : Value} (h : RdI w R s p v) (n : Nat) : RdI (w.drewN n) R s p v := ⟨h.lt, h.c0, h.c1, h.fr, h.le⟩
theorem RdI.on {w : World} {R : Nat} {s : ByteArray} {p q : Nat} {v : Value} (h : RdI w R s p v) (hq : q ≤ s.size) : RdI (w.setCell ⟨R, 0, none⟩ (.string (s.extract q s.size))) R s q v :=
  ⟨by simpa using h.lt, mS h.c0, by rw [mO (by omega)]; exact h.c1, fun j => by simpa using h.fr j, hq⟩
theorem RdI.put {w : World} {R : Nat} {s : ByteArray} {p : Nat} {v : Value} (h : RdI w R s p v) (u : Value) : RdI (w.setCell ⟨R, 1, none⟩ u) R s p u :=
  ⟨by simpa using h.lt, by rw [mO (by omega)]; exact h.c0, mS h.c1, fun j => by simpa using h.fr j, h.le⟩
theorem RdI.heap {w w' : World} {R : Nat} {s : ByteArray} {p : Nat} {v : Value} (h : RdI w R s p v) (hs : w.heap.size ≤ w'.heap.size) (hh : w'.heap[R]? = w.heap[R]?) : RdI w' R s p v :=
  ⟨Nat.lt_of_lt_of_le h.lt hs, (World.cell?_of_block (w := w) (a := ⟨R, 0, none⟩) hh).trans h.c0, (World.cell?_of_block (w := w) (a := ⟨R, 1, none⟩) hh).trans h.c1, free_heap h.fr hh, h.le⟩
theorem rest_size (s : ByteArray) {p : Nat} (hp : p ≤ s.size) : (s.extract p s.size).size = s.size - p := ex_size s hp (Nat.le_refl _)
theorem rest_cut (s : ByteArray) {p k : Nat} (hk : p + k ≤ s.size) : (s.extract p s.size).extract 0 k = s.extract p (p + k) := by
  apply ext_data'
  rw [ex_data, ex_data, ex_data]
  have e1 : s.data.toList.take s.size = s.data.toList := List.take_of_length_le (by simp)
  rw [e1, List.drop_zero, List.drop_take]
  congr 1; omega
theorem rest_on (s : ByteArray) {p k : Nat} (hk : p + k ≤ s.size) : (s.extract p s.size).extract k (s.size - p) = s.extract (p + k) s.size := by
  apply ext_data'
  rw [ex_data, ex_data, ex_data]
  have e1 : s.data.toList.take s.size = s.data.toList := List.take_of_length_le (by simp)
  have e2 : ((s.data.toList.drop p).take (s.size - p)) = s.data.toList.drop p := List.take_of_length_le (by simp)
  rw [e1, e2, List.drop_drop]
theorem lit_rest {s t : ByteArray} {p : Nat} (hp : p ≤ s.size) : litAt s t p = (decide (t.size ≤ s.size - p) && ((s.extract p s.size).extract 0 t.size).toList == t.toList) := by
  unfold litAt
  by_cases h : p + t.size ≤ s.size
  · rw [decide_eq_true h, decide_eq_true (by omega : t.size ≤ s.size - p), rest_cut s h]
  · rw [decide_eq_false h, decide_eq_false (by omega : ¬ t.size ≤ s.size - p)]; rfl
/-- the panic that says that a text is another one -/
def Pans (e : Ending) : Prop := e = .panicked [{ v := .iface 9 (.string ⟨#[97, 110, 111, 116, 104, 101, 114, 32, 116, 101, 120, 116]⟩), recovered := false }]
theorem must_yes (w : World) : Calls Try.prog 66 #[.bool true] w fun e w' => e = .returned (.tuple #[]) ∧ w' = w := by
  go_enter Try.func66, Try.ntmps66
  go_wp2
  first | go_end0 | go_ret
  all_goals exact ⟨rfl, rfl⟩
theorem must_no (w : World) : Calls Try.prog 66 #[.bool false] w fun e w' => Pans e ∧ w' = w := by
  unfold Pans
  go_enter Try.func66, Try.ntmps66
  go_wp2
  exact ⟨rfl, rfl, rfl⟩
set_option maxHeartbeats 1000000 in
theorem hasPrefix_any (a b : ByteArray) (w : World) (ha : a.size ≤ 1000) (hb : b.size ≤ 1000) : Calls Try.prog 137 #[.string a, .string b] w fun e w' => e = .returned (.bool (decide (b.size ≤ a.size) && (a.extract 0 b.size).toList == b.toList)) ∧ w' = w := by
  by_cases h : b.size ≤ a.size
  · have d : decide ((b.size : Int) ≤ (a.size : Int)) = true := by simp; omega
    have d2 : (b.size : Int) ≤ (a.size : Int) := by omega
    rw [decide_eq_true h, Bool.true_and]
    go_enter Try.func137, Try.ntmps137
    go_wp2
    go_ret
    exact ⟨rfl, rfl⟩
  · have d : decide ((b.size : Int) ≤ (a.size : Int)) = false := by simp; omega
    rw [decide_eq_false h, Bool.false_and]
    go_enter Try.func137, Try.ntmps137
    go_wp2
    go_ret
    exact ⟨rfl, rfl⟩
theorem cut_yes (a t : ByteArray) (w : World) (ha : a.size ≤ 1000) (h : t.size ≤ a.size) (he : ((a.extract 0 t.size).toList == t.toList) = true) : Calls Try.prog 138 #[.string a, .string t] w fun e w' => e = .returned (.tuple #[.string (a.extract t.size a.size), .bool true]) ∧ w' = w := by
  have e1 : (decide (t.size ≤ a.size) && (a.extract 0 t.size).toList == t.toList) = true := by rw [he, decide_eq_true h]; rfl
  have d0 : (0 : Int) ≤ (t.size : Int) := by omega
  have d1 : (t.size : Int) ≤ (a.size : Int) := by omega
  go_enter Try.func138, Try.ntmps138
  go_wp2_with fail
  refine (hasPrefix_any a t w ha (by omega)).mono ?_
  rintro e w' ⟨rfl, rfl⟩
  rw [e1]
  clear e1 he
  go_wp2
  refine bodyPost_ret (v := .tuple #[.string (a.extract t.size a.size), .bool true]) (by simp [results, Try.results138, go_sem]) rfl ⟨rfl, rfl⟩
theorem cut_no (a t : ByteArray) (w : World) (ha : a.size ≤ 1000) (ht : t.size ≤ 1000) (he : (decide (t.size ≤ a.size) && (a.extract 0 t.size).toList == t.toList) = false) : Calls Try.prog 138 #[.string a, .string t] w fun e w' => e = .returned (.tuple #[.string a, .bool false]) ∧ w' = w := by
  go_enter Try.func138, Try.ntmps138
  go_wp2_with fail
  refine (hasPrefix_any a t w ha ht).mono ?_
  rintro e w' ⟨rfl, rfl⟩
  rw [he]
  clear he
  go_wp2
  refine bodyPost_ret (v := .tuple #[.string a, .bool false]) (by simp [results, Try.results138, go_sem]) rfl ⟨rfl, rfl⟩
theorem cut_any (a t b : ByteArray) (f : Bool) (w : World) (h : Calls Try.prog 138 #[.string a, .string t] w fun e w' => e = .returned (.tuple #[.string b, .bool f]) ∧ w' = w) : Calls Try.prog 123 #[.string a, .string t] w fun e w' => e = .returned (.tuple #[.string b, .bool f]) ∧ w' = w := by
  have H := toHid h
  clear h
  go_enter Try.func123, Try.ntmps123
  go_wp2_with fail
  refine H.out.mono ?_
  rintro e w' ⟨rfl, rfl⟩
  go_wp2
  refine bodyPost_ret (v := .tuple #[.string b, .bool f]) (by simp [results, Try.results123, go_sem]) rfl ⟨rfl, rfl⟩
set_option maxHeartbeats 1000000 in
theorem skip_go (R : Nat) (a t b : ByteArray) (f : Bool) (w : World) (c0 : w.cell? ⟨R, 0, none⟩ = some (.string a)) (f0 : w.frozen? ⟨R, 0, none⟩ = false) (hlt : R < w.heap.size) (h : Calls Try.prog 123 #[.string a, .string t] w fun e w' => e = .returned (.tuple #[.string b, .bool f]) ∧ w' = w) :
    Calls Try.prog 95 #[.pointer (some ⟨R, 0, none⟩), .string t] w fun e w' => e = .returned (.bool f) ∧ w' = w.setCell ⟨R, 0, none⟩ (.string b) := by
  have H := toHid h
  clear h
  go_enter Try.func95, Try.ntmps95
  go_wp2_with fail
  refine H.out.mono ?_
  rintro e w' ⟨rfl, rfl⟩
  go_wp2
  go_ret
  exact ⟨rfl, rfl⟩
theorem grown_set (w : World) (R j : Nat) (u : Value) : w.grownBy (w.setCell ⟨R, j, none⟩ u) (some R) := ⟨rfl, rfl, rfl, by simp, fun k hk hn => Below.heap_setCell w _ _ k (fun e => hn (by rw [e]))⟩
theorem skip_any (R : Nat) (s t : ByteArray) (p : Nat) (v : Value) (w : World) (h : RdI w R s p v) (hs : s.size ≤ 1000) (ht : t.size ≤ 100) :
    Calls Try.prog 95 #[.pointer (some ⟨R, 0, none⟩), .string t] w fun e w' => e = .returned (.bool (litAt s t p)) ∧ RdI w' R s (if litAt s t p then p + t.size else p) v ∧ w.grownBy w' (some R) := by
  have hr := rest_size s h.le
  cases hl : litAt s t p with
  | true =>
    have h1 := litAt_le hl
    have hl2 := hl
    rw [lit_rest h.le, Bool.and_eq_true] at hl2
    refine (skip_go R _ t _ true w h.c0 (h.fr 0) h.lt (cut_any _ _ _ _ _ (cut_yes _ _ _ (by omega) (by omega) hl2.2))).mono ?_
    rintro e w' ⟨rfl, rfl⟩
    refine ⟨rfl, ?_, grown_set _ _ _ _⟩
    rw [hr, rest_on s h1]
    exact h.on h1
  | false =>
    have hl2 := hl
    rw [lit_rest h.le, ← hr] at hl2
    refine (skip_go R _ t _ false w h.c0 (h.fr 0) h.lt (cut_any _ _ _ _ _ (cut_no _ _ _ (by omega) (by omega) hl2))).mono ?_
    rintro e w' ⟨rfl, rfl⟩
    exact ⟨rfl, h.on h.le, grown_set _ _ _ _⟩
end Go.Proofs.Ytjmbgpdbnffkpaa
