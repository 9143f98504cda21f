/- The contract of the document's function that takes the frames of a text. -/
import Derived.Test.YtcecoddgmifgkaaTakeI
namespace Go.Proofs.Ytcecoddgmifgkaa
open Go.ChangeShapes Go.WideShapes Go.ChangeAt Go.RowKit
open Pl

theorem keepO {w W w' : World} {v : Value} {n : Nat} {xs : List Value} (h : W.ownsRow w.heap.size 9 1 v n xs ∧ Below w.heap.size w W) (hb : Below W.heap.size W w') : w'.ownsRow w.heap.size 9 1 v n xs ∧ Below w.heap.size w w' :=
  ⟨own_below h.1 hb, h.2.trans (hb.mono h.2.size)⟩

set_option maxRecDepth 100000 in
set_option maxHeartbeats 2000000 in
theorem specTake_any (s : ByteArray) (w : World) (hs : s.size ≤ 1048576) :
    Calls Try.prog 21 #[.string s] w fun e w' => TFPost s w e w' := by
  obtain ⟨i0, hi, hz0, hz1, hz2⟩ := info_parts info_str
  go_enter Try.func21, Try.ntmps21
  go_wp2_with fail
  go_loopw [4, 5] (fun v i wr => ∃ (k a : Nat) (l : List ByteArray), i = .int .i64 (a : Int) ∧ Hid (itF s k = some (l, a)) ∧ wr.ownsRow w.heap.size 9 1 v l.length (strs l) ∧ Below w.heap.size w wr) (fun _ i _ => s.size - (intOf i).toNat)
  case atStart => exact ⟨0, 0, [], rfl, rfl, World.ownsRow_lit w #[] 0 (Nat.le_refl _) (by unfold maxLen; omega) (by simp), (Below.refl _ _).alloc (Nat.le_refl _) _⟩
  case round =>
    obtain ⟨k, a, l, rfl, HI, hown, hB⟩ := hrel
    obtain ⟨ha, hl, -⟩ := itF_ok k HI.out
    have ha0 : (0 : Int) ≤ (a : Int) := by omega
    have ha1 : (a : Int) ≤ (s.size : Int) := by omega
    by_cases h8 : a + 8 ≤ s.size
    · have hd8 : decide ((a : Int) + 8 ≤ (s.size : Int)) = true := by simp; omega
      go_wp2_with fail
      go_loop [6, 7] (fun n i => ∃ j m : Nat, j ≤ 4 ∧ i = .int .i64 (j : Int) ∧ n = .int .i64 (m : Int) ∧ Hid (m = hor s a j)) (fun _ i => 4 - (intOf i).toNat)
      case atStart => exact ⟨0, 0, by omega, rfl, rfl, rfl⟩
      case round =>
        obtain ⟨j, m, hj, rfl, rfl, HM⟩ := hrel
        have hm : m < 4294967296 := by rw [HM.out]; exact hor_le s a j hj
        by_cases hj4 : j < 4
        · have hlt : a + j < s.size := by omega
          have hbb := byte_lt s[a + j]
          have HM2 : Hid (256 * m + s[a + j].toNat = hor s a (j + 1)) := by show _ = _; rw [hor, byA_get s (a + j) hlt, HM.out]
          go_wp2
          go_round
          case rel => exact ⟨j + 1, 256 * m + s[a + j].toNat, by omega, by go_num, by go_num, HM2⟩
          case measure => simp [intOf]; omega
        · obtain rfl : j = 4 := by omega
          have hmm := HM.out
          by_cases hb1 : 100000 < m
          · have HE : Hid (FrEnd s l a) := ⟨⟨k, HI.out⟩, okF_no2 (by omega)⟩
            have hd : decide ((100000 : Int) < (m : Int)) = true := by simp; omega
            clear hmm
            go_wp2_with fail
            go_quiet (fail)
            go_wp2
            go_ret2
            exact tf_mk (own_below hown (below_drewN (Below.refl _ _) _)) HE.out (below_drewN hB _)
          have hd1 : decide ((100000 : Int) < (m : Int)) = false := by simp; omega
          by_cases hb2 : s.size < a + 8 + m
          · have HE : Hid (FrEnd s l a) := ⟨⟨k, HI.out⟩, okF_no3 (by omega)⟩
            have hd2 : decide ((s.size : Int) < (a : Int) + 8 + (m : Int)) = true := by simp; omega
            clear hmm
            go_wp2_with fail
            go_quiet (fail)
            go_wp2
            go_ret2
            exact tf_mk (own_below hown (below_drewN (Below.refl _ _) _)) HE.out (below_drewN hB _)
          have hd2 : decide ((s.size : Int) < (a : Int) + 8 + (m : Int)) = false := by simp; omega
          have HD : Hid (s.extract (a + 8) (a + 8 + m) = datA s a) := by show _ = _; rw [hmm, datA]
          have HOK : Hid (okF s a = ((sumT (crcP (s.extract (a + 8) (a + 8 + m)))).toList == (s.extract (a + 4) (a + 8)).toList)) := by show _ = _; rw [HD.out]; exact okF_sum h8 (by omega) (by omega)
          have hsz : (s.extract (a + 8) (a + 8 + m)).size ≤ maxLen := by rw [ByteArray.size_extract]; unfold maxLen; omega
          have k1 : (0 : Int) ≤ (a : Int) + 8 := by omega
          have k2 : (a : Int) + 8 ≤ (a : Int) + 8 + (m : Int) := by omega
          have k3 : (a : Int) + 8 + (m : Int) ≤ (s.size : Int) := by omega
          have k4 : (0 : Int) ≤ (a : Int) + 4 := by omega
          have k5 : (a : Int) + 4 ≤ (a : Int) + 8 := by omega
          have k6 : (a : Int) + 8 ≤ (s.size : Int) := by omega
          have t8 : ((a : Int) + 8).toNat = a + 8 := by omega
          have t4 : ((a : Int) + 4).toNat = a + 4 := by omega
          have tm : ((a : Int) + 8 + (m : Int)).toNat = a + 8 + m := by omega
          have q8 : IntKind.i64.wrap ((a : Int) + 8) = (a : Int) + 8 := by rw [IntKind.wrap_i64]; omega
          have q4 : IntKind.i64.wrap ((a : Int) + 4) = (a : Int) + 4 := by rw [IntKind.wrap_i64]; omega
          have qm : IntKind.i64.wrap ((a : Int) + 8 + (m : Int)) = (a : Int) + 8 + (m : Int) := by rw [IntKind.wrap_i64]; omega
          clear hmm
          go_wp2_with fail
          go_region_held3 (fun w' => w'.ownsRow w.heap.size 9 1 u4 l.length (strs l) ∧ Below w.heap.size w w')
            (first | assumption | exact keepO (by assumption) hbx | exact ⟨own_below hown (Below.refl _ _).drew, hB.drew⟩)
            (first | (go_at_call 43; refine (l9Sum_any _ _ hsz).mono ?_; rintro e w' ⟨rfl, hbx⟩))
          rename_i hH
          obtain ⟨hown1, hb1'⟩ := hH
          have HOW : Hid (w'.ownsRow w.heap.size 9 1 u4 l.length (strs l)) := hown1
          have HBW : Hid (Below w.heap.size w w') := hb1'
          have hb1s := hb1'.size
          have HOK2 := HOK.out
          generalize ((sumT (crcP (s.extract (a + 8) (a + 8 + m)))).toList == (s.extract (a + 4) (a + 8)).toList) = bq at HOK2 ⊢
          clear hown1 hb1' hd1 hd2 t8 t4 tm q8 q4 qm k4 k5 hown hB HOK hd8 ha0 ha1
          cases bq with
          | false =>
            have HE : Hid (FrEnd s l a) := ⟨⟨k, HI.out⟩, HOK2⟩
            clear HOK2
            go_wp2
            go_ret2
            exact tf_mk HOW.out HE.out HBW.out
          | true =>
            have HN : Hid (itF s (k + 1) = some (l ++ [s.extract (a + 8) (a + 8 + m)], a + 8 + m)) := by show _ = _; rw [HD.out, HM.out]; exact itF_succ HI.out HOK2
            clear HOK2
            generalize hdd : s.extract (a + 8) (a + 8 + m) = dd at *
            have hown1 := HOW.out
            go_wp2_with (at_builtin; refine wpList_append_own _ rfl _ _ 46 rfl w.heap.size 9 i0 (.string ⟨#[]⟩) 1 16 Try.underlying46 hi hz0 hz1 hz2 rfl (by decide) _ _ _ rfl (hown1.alloc _) ⟨w'.heap.size, 0, none⟩ 1 1 [.string dd] rfl rfl (cell_one_new _ _ _) (by intro u hu; simp at hu; subst hu; rfl) (by unfold maxLen; omega) (by omega) (by simp; omega) ?_)
            intro v' w3 hown3 hgrow _
            have hb3 : Below w.heap.size w w3 := (HBW.out.alloc HBW.out.size _).grown hgrow (by simp; omega) (fun i hi => (hown1.lt i hi).1)
            have HO3 : Hid (w3.ownsRow w.heap.size 9 1 v' (l ++ [dd]).length (strs (l ++ [dd]))) := by
              rw [strs_app, List.length_append]; exact hown3
            clear hown3 hgrow hown1
            go_wp2
            go_roundw
            case rel => exact ⟨k + 1, a + 8 + m, l ++ [dd], by go_num, HN, HO3.out, hb3⟩
            case measure => simp [intOf]; omega
    · have HE : Hid (FrEnd s l a) := ⟨⟨k, HI.out⟩, okF_no1 (by omega)⟩
      go_wp2
      go_ret2
      exact tf_mk hown HE.out hB
end Go.Proofs.Ytcecoddgmifgkaa
