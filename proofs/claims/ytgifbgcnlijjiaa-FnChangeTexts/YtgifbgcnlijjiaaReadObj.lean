/- Contracts of the functions that cut a text and read an object out of one. -/
import Derived.Test.YtgifbgcnlijjiaaObjects
import Derived.Test.YtgifbgcnlijjiaaSpecCut
import Derived.Test.YtgifbgcnlijjiaaShelf
import Derived.Deep.QuietTactic
import Derived.BigQuiet
import Derived.WalkSmall
import Derived.WalkSpells
namespace Go.Proofs.Ytgifbgcnlijjiaa
open Go.ChangeShapes Go.WideShapes Go.ChangeAt Go.RowKit
open Pl

theorem cell_alloc_old {w : World} {a : Addr} {v : Value} (h : w.cell? a = some v) (o : Obj) : (w.alloc o).cell? a = some v :=
  cell_later ((Below.refl _ _).alloc (Nat.le_refl _) _) h

theorem cell_drawn (w : World) (xs : Array Value) (t : TypeId) (n : Nat) (o : Obj) (i : Nat) (v : Value) (h : (w.alloc (.cells xs t)).cell? ⟨w.heap.size, i, none⟩ = some v) : (((w.alloc (.cells xs t)).drewN n).alloc o).cell? ⟨w.heap.size, i, none⟩ = some v :=
  cell_alloc_old (w := (w.alloc (.cells xs t)).drewN n) h o


theorem ret_obj {a b a' b' : ByteArray} {f f' : Bool} (ha : a = a') (hb : b = b') (hf : f = f') : Ending.returned (.tuple #[.agg #[.string a, .string b], .bool f]) = .returned (.tuple #[.agg #[.string a', .string b'], .bool f']) := by rw [ha, hb, hf]

set_option maxHeartbeats 1000000 in
theorem specReadObj_any (s : ByteArray) (w : World) (hs : s.size ≤ maxLen) :
    Calls Try.prog 67 #[.string s] w fun e w' => e = .returned (.tuple #[.agg #[.string (rdT s), .string (rdI s)], .bool (rdB s)]) ∧ Below w.heap.size w w' := by
  have hA := Nat.le_trans (cutA_le 58 s) hs
  have hZ := Nat.le_trans (cutZ_le 58 s) hs
  by_cases hf : cutF 58 s = true
  case neg =>
    have hf' : cutF 58 s = false := by simpa using hf
    have hB := rdB_miss hf'
    have HB : Hid (rdB s = false) := hB
    have HT : Hid (rdT s = ⟨#[]⟩) := (rd_no hB).1
    have HI : Hid (rdI s = ⟨#[]⟩) := (rd_no hB).2
    clear hf hB
    go_enter Try.func67, Try.ntmps67
    go_wp2_with fail
    refine (l1Cut_any s 58 _ hs).mono ?_
    rintro e w1 ⟨rfl, n, rfl⟩
    go_wp2
    exact bodyPost_ret (v := .tuple #[.agg #[.string ⟨#[]⟩, .string ⟨#[]⟩], .bool false]) (by simp [results, Try.results67, go_sem]) rfl ⟨ret_obj HT.out.symm HI.out.symm HB.out.symm, by
      repeat (first | refine Below.setCell ?_ (by first | (simp; done) | (simp; omega)) _ | refine Below.alloc ?_ (by first | (simp; done) | (simp; omega)) _ | refine below_drewN ?_ _ | with_reducible exact Below.refl _ _)⟩
  by_cases ho : objB (cutA 58 s) (cutZ 58 s) = true
  · have HB : Hid (rdB s = true) := ho
    have HT : Hid (rdT s = cutA 58 s) := (rd_yes ho).1
    have HI : Hid (rdI s = cutZ 58 s) := (rd_yes ho).2
    go_enter Try.func67, Try.ntmps67
    go_wp2_with fail
    refine (l1Cut_any s 58 _ hs).mono ?_
    rintro e w1 ⟨rfl, n, rfl⟩
    go_wp2_with fail
    refine (specObj_any _ _ _ hA hZ).mono ?_
    rintro e w2 ⟨rfl, hb2⟩
    obtain ⟨hc2, hf2⟩ := bcell hb2
    have hz2 : w.heap.size + 1 < w2.heap.size := by have := hb2.size; simp at this; omega
    have hy2 : w.heap.size < w2.heap.size := by omega
    have c0 : w2.cell? ⟨w.heap.size, 0, none⟩ = some (.string ⟨#[]⟩) := by rw [hc2 _ _ (by simp; omega)]; exact cell_drawn _ _ _ _ _ _ _ (by simp)
    have c1 : w2.cell? ⟨w.heap.size, 1, none⟩ = some (.string ⟨#[]⟩) := by rw [hc2 _ _ (by simp; omega)]; exact cell_drawn _ _ _ _ _ _ _ (by simp)
    have HB2 : Below w.heap.size w w2 := ((below_drewN ((Below.refl _ _).alloc (Nat.le_refl _) _) n).alloc (by simp) _).trans (hb2.mono (by simp; omega))
    clear hb2
    go_wp2
    exact bodyPost_ret (v := .tuple #[.agg #[.string (cutA 58 s), .string (cutZ 58 s)], .bool true]) (by simp [results, Try.results67, go_sem, *]) rfl ⟨ret_obj HT.out.symm HI.out.symm HB.out.symm, by
      repeat (first | refine Below.setCell ?_ (by first | (simp; done) | (simp; omega)) _ | with_reducible exact HB2)⟩
  · have ho' : objB (cutA 58 s) (cutZ 58 s) = false := by simpa using ho
    have HB : Hid (rdB s = false) := ho'
    have HT : Hid (rdT s = ⟨#[]⟩) := (rd_no ho').1
    have HI : Hid (rdI s = ⟨#[]⟩) := (rd_no ho').2
    clear ho
    go_enter Try.func67, Try.ntmps67
    go_wp2_with fail
    refine (l1Cut_any s 58 _ hs).mono ?_
    rintro e w1 ⟨rfl, n, rfl⟩
    go_wp2_with fail
    refine (specObj_any _ _ _ hA hZ).mono ?_
    rintro e w2 ⟨rfl, hb2⟩
    obtain ⟨hc2, hf2⟩ := bcell hb2
    have hz2 : w.heap.size + 1 < w2.heap.size := by have := hb2.size; simp at this; omega
    have hy2 : w.heap.size < w2.heap.size := by omega
    have c0 : w2.cell? ⟨w.heap.size, 0, none⟩ = some (.string ⟨#[]⟩) := by rw [hc2 _ _ (by simp; omega)]; exact cell_drawn _ _ _ _ _ _ _ (by simp)
    have c1 : w2.cell? ⟨w.heap.size, 1, none⟩ = some (.string ⟨#[]⟩) := by rw [hc2 _ _ (by simp; omega)]; exact cell_drawn _ _ _ _ _ _ _ (by simp)
    have HB2 : Below w.heap.size w w2 := ((below_drewN ((Below.refl _ _).alloc (Nat.le_refl _) _) n).alloc (by simp) _).trans (hb2.mono (by simp; omega))
    clear hb2
    go_wp2
    exact bodyPost_ret (v := .tuple #[.agg #[.string ⟨#[]⟩, .string ⟨#[]⟩], .bool false]) (by simp [results, Try.results67, go_sem, *]) rfl ⟨ret_obj HT.out.symm HI.out.symm HB.out.symm, by
      repeat (first | refine Below.setCell ?_ (by first | (simp; done) | (simp; omega)) _ | with_reducible exact HB2)⟩

theorem implCut (s : ByteArray) (c : UInt8) (m : Int) (w : World) (hs : s.size ≤ 1048576) (hm : w.cell? ⟨0, 0, none⟩ = some (.int .i64 m)) :
    Calls Try.prog 39 #[.string s, .string ⟨#[c]⟩] w fun e w' => e = .returned (.tuple #[.string (cutA c s), .string (cutZ c s), .bool (cutF c s)]) ∧ ∃ n, w' = w.drewN n := by
  have h := Try.strings_Cut s ⟨#[c]⟩ m w (by omega) hm
  have e1 : (ByteArray.mk #[c]).data.toList = [c] := rfl
  rw [e1, cut_one] at h
  exact h

set_option maxHeartbeats 1000000 in
theorem implReadObj_any (s : ByteArray) (m : Int) (w : World) (hs : s.size ≤ maxLen) (hs2 : s.size ≤ 1048576) (hm : w.cell? ⟨0, 0, none⟩ = some (.int .i64 m)) :
    Calls Try.prog 64 #[.string s] w fun e w' => e = .returned (.tuple #[.agg #[.string (rdT s), .string (rdI s)], .bool (rdB s)]) ∧ Below w.heap.size w w' := by
  have hA := Nat.le_trans (cutA_le 58 s) hs
  have hZ := Nat.le_trans (cutZ_le 58 s) hs
  by_cases ho : objB (cutA 58 s) (cutZ 58 s) = true
  · have HB : Hid (rdB s = true) := ho
    have HT : Hid (rdT s = cutA 58 s) := (rd_yes ho).1
    have HI : Hid (rdI s = cutZ 58 s) := (rd_yes ho).2
    go_enter Try.func64, Try.ntmps64
    go_wp2_with fail
    refine (implCut s 58 m _ hs2 (cell_alloc_old hm _)).mono ?_
    rintro e w1 ⟨rfl, n, rfl⟩
    go_wp2_with fail
    refine (implObj_any _ _ _ hA hZ).mono ?_
    rintro e w2 ⟨rfl, hb2⟩
    obtain ⟨hc2, hf2⟩ := bcell hb2
    have hz2 : w.heap.size + 1 < w2.heap.size := by have := hb2.size; simp at this; omega
    have hy2 : w.heap.size < w2.heap.size := by omega
    have c0 : w2.cell? ⟨w.heap.size, 0, none⟩ = some (.string ⟨#[]⟩) := by rw [hc2 _ _ (by simp; omega)]; exact cell_drawn _ _ _ _ _ _ _ (by simp)
    have c1 : w2.cell? ⟨w.heap.size, 1, none⟩ = some (.string ⟨#[]⟩) := by rw [hc2 _ _ (by simp; omega)]; exact cell_drawn _ _ _ _ _ _ _ (by simp)
    have HB2 : Below w.heap.size w w2 := ((below_drewN ((Below.refl _ _).alloc (Nat.le_refl _) _) n).alloc (by simp) _).trans (hb2.mono (by simp; omega))
    clear hb2
    go_wp2
    exact bodyPost_ret (v := .tuple #[.agg #[.string (cutA 58 s), .string (cutZ 58 s)], .bool true]) (by simp [results, Try.results64, go_sem, *]) rfl ⟨ret_obj HT.out.symm HI.out.symm HB.out.symm, by
      repeat (first | refine Below.setCell ?_ (by first | (simp; done) | (simp; omega)) _ | with_reducible exact HB2)⟩
  · have ho' : objB (cutA 58 s) (cutZ 58 s) = false := by simpa using ho
    have HB : Hid (rdB s = false) := ho'
    have HT : Hid (rdT s = ⟨#[]⟩) := (rd_no ho').1
    have HI : Hid (rdI s = ⟨#[]⟩) := (rd_no ho').2
    clear ho
    go_enter Try.func64, Try.ntmps64
    go_wp2_with fail
    refine (implCut s 58 m _ hs2 (cell_alloc_old hm _)).mono ?_
    rintro e w1 ⟨rfl, n, rfl⟩
    go_wp2_with fail
    refine (implObj_any _ _ _ hA hZ).mono ?_
    rintro e w2 ⟨rfl, hb2⟩
    obtain ⟨hc2, hf2⟩ := bcell hb2
    have hz2 : w.heap.size + 1 < w2.heap.size := by have := hb2.size; simp at this; omega
    have hy2 : w.heap.size < w2.heap.size := by omega
    have c0 : w2.cell? ⟨w.heap.size, 0, none⟩ = some (.string ⟨#[]⟩) := by rw [hc2 _ _ (by simp; omega)]; exact cell_drawn _ _ _ _ _ _ _ (by simp)
    have c1 : w2.cell? ⟨w.heap.size, 1, none⟩ = some (.string ⟨#[]⟩) := by rw [hc2 _ _ (by simp; omega)]; exact cell_drawn _ _ _ _ _ _ _ (by simp)
    have HB2 : Below w.heap.size w w2 := ((below_drewN ((Below.refl _ _).alloc (Nat.le_refl _) _) n).alloc (by simp) _).trans (hb2.mono (by simp; omega))
    clear hb2
    go_wp2
    exact bodyPost_ret (v := .tuple #[.agg #[.string ⟨#[]⟩, .string ⟨#[]⟩], .bool false]) (by simp [results, Try.results64, go_sem, *]) rfl ⟨ret_obj HT.out.symm HI.out.symm HB.out.symm, by
      repeat (first | refine Below.setCell ?_ (by first | (simp; done) | (simp; omega)) _ | with_reducible exact HB2)⟩

end Go.Proofs.Ytgifbgcnlijjiaa
