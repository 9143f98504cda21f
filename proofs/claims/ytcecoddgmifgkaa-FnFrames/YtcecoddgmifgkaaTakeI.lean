/- The contract of the program's function that takes the frames of a text. -/
import Derived.Test.YtcecoddgmifgkaaFirstF
import Derived.OwnWalk
import Derived.Maps.AppendAt
namespace Go.Proofs.Ytcecoddgmifgkaa
open Go.ChangeShapes Go.WideShapes Go.ChangeAt Go.RowKit
open Pl

theorem info_str : (Try.prog.info? 9).map (fun i => (i.zero, i.size, i.bytes)) = some (some (.string ⟨#[]⟩), 1, 16) := by kernel_rfl
def strs (xs : List ByteArray) : List Value := xs.map Value.string
theorem strs_app (xs : List ByteArray) (x : ByteArray) : strs (xs ++ [x]) = strs xs ++ [.string x] := by simp [strs]
theorem strs_size (xs : List ByteArray) : (strs xs).length = xs.length := by simp [strs]
theorem own_below {w w' : World} {base n size : Nat} {e : TypeId} {v : Value} {xs : List Value} (h : w.ownsRow base e size v n xs) (hb : Below w.heap.size w w') : w'.ownsRow base e size v n xs :=
  h.kept (row := none) ⟨hb.os, hb.tape, hb.output, hb.size, fun k hk _ => hb.block k hk⟩ (Classical.em _)
/-- what TakeFrames answers: a row of its own, and the place -/
def TFPost (s : ByteArray) (w : World) (e : Ending) (w' : World) : Prop := ∃ (v : Value) (l : List ByteArray) (a : Nat), e = .returned (.tuple #[v, .int .i64 (a : Int)]) ∧ w'.ownsRow w.heap.size 9 1 v l.length (strs l) ∧ FrEnd s l a ∧ Below w.heap.size w w'
theorem tf_mk {s : ByteArray} {v : Value} {l : List ByteArray} {a : Nat} {w w' : World} (h1 : w'.ownsRow w.heap.size 9 1 v l.length (strs l)) (h2 : FrEnd s l a) (hB : Below w.heap.size w w') : TFPost s w (.returned (.tuple #[v, .int .i64 (a : Int)])) w' := ⟨v, l, a, rfl, h1, h2, hB⟩

set_option maxRecDepth 100000 in
set_option maxHeartbeats 2000000 in
theorem implTake_any (s : ByteArray) (w : World) (hs : s.size ≤ 1048576) :
    Calls Try.prog 22 #[.string s] w fun e w' => TFPost s w e w' := by
  obtain ⟨i0, hi, hz0, hz1, hz2⟩ := info_parts info_str
  go_enter Try.func22, Try.ntmps22
  go_wp2_with fail
  go_loopw [4, 5] (fun v i wr => ∃ (k a : Nat) (l : List ByteArray), i = .int .i64 (a : Int) ∧ Hid (itF s k = some (l, a)) ∧ wr.ownsRow w.heap.size 9 1 v l.length (strs l) ∧ Below w.heap.size w wr) (fun _ i _ => s.size - (intOf i).toNat)
  case atStart => exact ⟨0, 0, [], rfl, rfl, by simpa [strs] using World.ownsRow_nil _ _ _ _, Below.refl _ _⟩
  case round =>
    obtain ⟨k, a, l, rfl, HI, hown, hB⟩ := hrel
    obtain ⟨ha, hl, -⟩ := itF_ok k HI.out
    have ha0 : (0 : Int) ≤ (a : Int) := by omega
    have ha1 : (a : Int) ≤ (s.size : Int) := by omega
    have hsz : (s.extract a s.size).size ≤ 1048576 := by rw [ByteArray.size_extract]; omega
    have HOK := okF_from s a ha
    have HDA := datA_from s a
    go_wp2_with fail
    refine (firstFrame_any _ _ hsz).mono ?_
    rintro e w1 ⟨x, f, rfl, ⟨hf, hx⟩, hb1⟩
    rw [HOK] at hf
    rw [HDA] at hx
    have hb1' : Below w.heap.size w w1 := hB.trans (hb1.mono hB.size)
    have hown1 := own_below hown hb1
    clear HOK HDA hb1 hown
    cases f with
    | false =>
      have HE : Hid (FrEnd s l a) := ⟨⟨k, HI.out⟩, hf.symm⟩
      clear hf hx
      go_wp2
      go_ret2
      exact tf_mk hown1 HE.out hb1'
    | true =>
      obtain rfl := hx rfl
      obtain ⟨q1, q2, q3, -⟩ := okF_parts hf.symm
      have HN : Hid (itF s (k + 1) = some (l ++ [datA s a], a + 8 + hor s a 4)) := itF_succ HI.out hf.symm
      have hds := datA_size q3
      clear hf hx
      have hb1s := hb1'.size
      obtain ⟨dd, hdd⟩ : ∃ dd, dd = datA s a := ⟨_, rfl⟩
      obtain ⟨n, hn⟩ : ∃ n, n = hor s a 4 := ⟨_, rfl⟩
      rw [← hdd, ← hn] at HN
      rw [← hdd, ← hn] at hds
      rw [← hn] at q2 q3
      rw [← hdd]
      clear hdd hn
      go_wp2_with (at_builtin; refine wpList_append_own _ rfl _ _ 46 rfl w.heap.size 9 i0 (.string ⟨#[]⟩) 1 16 Try.underlying46 hi hz0 hz1 hz2 rfl (by decide) _ _ _ rfl (hown1.alloc _) ⟨w1.heap.size, 0, none⟩ 1 1 [.string dd] rfl rfl (cell_one_new _ _ _) (by intro u hu; simp at hu; subst hu; rfl) (by unfold maxLen; omega) (by omega) (by simp; omega) ?_)
      intro v' w3 hown3 hgrow _
      have hb3 : Below w.heap.size w w3 := (hb1'.alloc hb1'.size _).grown hgrow (by simp; omega) (fun i hi => (hown1.lt i hi).1)
      have HO3 : Hid (w3.ownsRow w.heap.size 9 1 v' (l ++ [dd]).length (strs (l ++ [dd]))) := by
        rw [strs_app, List.length_append]; exact hown3
      clear hown3 hgrow hown1
      go_wp2
      go_roundw
      case rel => exact ⟨k + 1, a + 8 + n, l ++ [dd], by go_num, HN, HO3.out, hb3⟩
      case measure => simp [intOf]; omega
end Go.Proofs.Ytcecoddgmifgkaa
