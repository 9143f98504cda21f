/- Contracts of the program's reader: a name; the sign that comes next. -/
import Derived.Test.YtjmbgpdbnffkpaaJ13
import Derived.Test.YtjmbgpdbnffkpaaImplText2
namespace Go.Proofs.Ytjmbgpdbnffkpaa
set_option maxRecDepth 100000
set_option linter.unusedVariables false
open Go.ChangeShapes Go.WideShapes Go.ChangeAt Go.RowKit
open Pl

theorem grown_same (w : World) (r : Option Nat) : w.grownBy w r := ⟨rfl, rfl, rfl, Nat.le_refl _, fun _ _ _ => rfl⟩
theorem wordN_rest (s : ByteArray) (p : Nat) : wordN (s.extract p s.size) 0 = wordN s p := by
  unfold wordN
  rw [ex_data]
  have e1 : s.data.toList.take s.size = s.data.toList := List.take_of_length_le (by simp)
  rw [e1, List.drop_zero]
set_option maxHeartbeats 2000000 in
theorem takeName_any (R : Nat) (s : ByteArray) (p : Nat) (v : Value) (w : World) (h : RdI w R s p v) (hs : s.size ≤ 1000) :
    Calls Try.prog 121 #[.pointer (some ⟨R, 0, none⟩)] w fun e w' => (nameB (wordP s p) = true ∧ e = .returned (.string (wordP s p)) ∧ RdI w' R s (p + wordN s p) v ∧ w.grownBy w' (some R)) ∨ (nameB (wordP s p) = false ∧ Pans e ∧ w.grownBy w' (some R)) := by
  have H := toHid h
  have c0 := h.c0
  have f0 := h.fr 0
  have hlt := h.lt
  have hp := h.le
  have hr := rest_size s hp
  obtain ⟨a, hA⟩ : ∃ a, a = s.extract p s.size := ⟨_, rfl⟩
  rw [← hA] at c0 hr
  have HA := toHid hA
  have HRS := toHid hr
  clear h hA hr
  go_enter Try.func121, Try.ntmps121
  go_wp2_with fail
  go_loop [3] (fun i => ∃ k : Nat, k ≤ a.size ∧ i = .int .i64 k ∧ Hid (∀ i (h : i < a.size), i < k → letB a[i] = true)) (fun i => a.size - (intOf i).toNat)
  case atStart => exact ⟨0, Nat.zero_le _, rfl, fun i h hi => by omega⟩
  case round =>
    obtain ⟨k, hk, rfl, HL⟩ := hrel
    by_cases hlt2 : k < a.size
    · have hd : decide ((k : Int) < (a.size : Int)) = true := by simp; omega
      have hk0 : (0 : Int) ≤ (k : Int) := by omega
      have hk1 : (k : Int) < (a.size : Int) := by omega
      have HLT := toHid hlt2
      have hwk : IntKind.i64.wrap ((k : Int) + 1) = (k : Int) + 1 := by have := HRS.out; rw [IntKind.wrap_i64]; omega
      cases hc : letB a[k] with
      | true =>
        have HL2 : Hid (∀ i (h : i < a.size), i < k + 1 → letB a[i] = true) := fun i h hi => by
          by_cases e : i = k
          · subst e; exact hc
          · exact HL.out i h (by omega)
        go_wp2_with fail
        refine (isLetter_any a[k] _).mono ?_
        rintro e w' ⟨rfl, rfl⟩
        rw [hc]
        go_wp2
        go_round
        case rel => exact ⟨k + 1, HLT.out, by go_num, HL2⟩
        case measure => have := HLT.out; simp [intOf]; omega
      | false =>
        have HN : Hid (∀ h : k < a.size, letB a[k] = false) := fun _ => hc
        have EK : Hid (wordN s p = k) := by
          have e := wordN_is a 0 k (Nat.zero_le _) hk (fun i h _ hi => HL.out i h hi) HN.out
          show _ = _
          rw [← wordN_rest s p, ← HA.out, e]; rfl
        have EW : Hid (a.extract 0 k = wordP s p) := by
          have h1 := wordN_le s p hp
          have e := EK.out
          show _ = _
          unfold wordP
          rw [e, HA.out]
          exact rest_cut s (by omega)
        have ER : Hid (a.extract k a.size = s.extract (p + k) s.size) := by
          have h1 := wordN_le s p hp
          have e := EK.out
          show _ = _
          rw [HRS.out, HA.out]
          exact rest_on s (by omega)
        have d0 : (0 : Int) ≤ (k : Int) := by omega
        have d1 : (k : Int) ≤ (a.size : Int) := by omega
        clear HL HN
        go_wp2_with fail
        refine (isLetter_any a[k] _).mono ?_
        rintro e w' ⟨rfl, rfl⟩
        rw [hc]
        go_wp2_with fail
        rw [EW.out]
        refine (implName_any (wordP s p) _ (by have := wordP_size s p hp; have := wordN_le s p hp; unfold maxLen; omega)).mono ?_
        rintro e w4 ⟨rfl, rfl⟩
        cases hnb : nameB (wordP s p) with
        | false =>
          go_wp2_with fail
          refine (must_no w4).mono ?_
          rintro e w2 ⟨he, rfl⟩
          unfold Pans at he
          subst he
          go_wp2
          exact ⟨rfl, .inr ⟨hnb, rfl, grown_same _ _⟩⟩
        | true =>
          go_wp2_with fail
          refine (must_yes w4).mono ?_
          rintro e w2 ⟨rfl, rfl⟩
          have HFIN : Hid (RdI (w2.setCell ⟨R, 0, none⟩ (.string (s.extract (p + k) s.size))) R s (p + wordN s p) v ∧ w2.grownBy (w2.setCell ⟨R, 0, none⟩ (.string (s.extract (p + k) s.size))) (some R)) := by
            have h1 := wordN_le s p hp
            have e := EK.out
            refine ⟨?_, grown_set _ _ _ _⟩
            rw [e]
            exact H.out.on (by omega)
          rw [← ER.out] at HFIN
          go_wp2
          go_ret
          exact .inl ⟨hnb, rfl, HFIN.out⟩
    · have HN : Hid (∀ h : k < a.size, letB a[k] = false) := fun h => absurd h hlt2
      have hd : decide ((k : Int) < (a.size : Int)) = false := by simp; omega
      have EK : Hid (wordN s p = k) := by
        have e := wordN_is a 0 k (Nat.zero_le _) hk (fun i h _ hi => HL.out i h hi) HN.out
        show _ = _
        rw [← wordN_rest s p, ← HA.out, e]; rfl
      have EW : Hid (a.extract 0 k = wordP s p) := by
        have h1 := wordN_le s p hp
        have e := EK.out
        show _ = _
        unfold wordP
        rw [e, HA.out]
        exact rest_cut s (by omega)
      have ER : Hid (a.extract k a.size = s.extract (p + k) s.size) := by
        have h1 := wordN_le s p hp
        have e := EK.out
        show _ = _
        rw [HRS.out, HA.out]
        exact rest_on s (by omega)
      have d0 : (0 : Int) ≤ (k : Int) := by omega
      have d1 : (k : Int) ≤ (a.size : Int) := by omega
      clear HL HN
      go_wp2_with fail
      rw [EW.out]
      refine (implName_any (wordP s p) w (by have := wordP_size s p hp; have := wordN_le s p hp; unfold maxLen; omega)).mono ?_
      rintro e w4 ⟨rfl, rfl⟩
      cases hnb : nameB (wordP s p) with
      | false =>
        go_wp2_with fail
        refine (must_no w4).mono ?_
        rintro e w2 ⟨he, rfl⟩
        unfold Pans at he
        subst he
        go_wp2
        exact ⟨rfl, .inr ⟨hnb, rfl, grown_same _ _⟩⟩
      | true =>
        go_wp2_with fail
        refine (must_yes w4).mono ?_
        rintro e w2 ⟨rfl, rfl⟩
        have HFIN : Hid (RdI (w2.setCell ⟨R, 0, none⟩ (.string (s.extract (p + k) s.size))) R s (p + wordN s p) v ∧ w2.grownBy (w2.setCell ⟨R, 0, none⟩ (.string (s.extract (p + k) s.size))) (some R)) := by
          have h1 := wordN_le s p hp
          have e := EK.out
          refine ⟨?_, grown_set _ _ _ _⟩
          rw [e]
          exact H.out.on (by omega)
        rw [← ER.out] at HFIN
        go_wp2
        go_ret
        exact .inl ⟨hnb, rfl, HFIN.out⟩
theorem hasPrefix2 (a b : ByteArray) (w : World) (ha : a.size ≤ 1000) (hb : b.size ≤ 1000) : Calls Try.prog 122 #[.string a, .string b] w fun e w' => e = .returned (.bool (decide (b.size ≤ a.size) && (a.extract 0 b.size).toList == b.toList)) ∧ w' = w := by
  go_enter Try.func122, Try.ntmps122
  go_wp2_with fail
  refine (hasPrefix_any a b w ha hb).mono ?_
  rintro e w' ⟨rfl, rfl⟩
  obtain ⟨q, hq⟩ : ∃ q, q = (decide (b.size ≤ a.size) && (a.extract 0 b.size).toList == b.toList) := ⟨_, rfl⟩
  rw [← hq]
  have HQ := toHid hq
  clear hq
  go_wp2
  go_ret
  exact ⟨by rw [← HQ.out]; rfl, rfl⟩
theorem sign_at {s : ByteArray} {p j : Nat} (h4 : 4 ≤ j) (h7 : j < 7) (hn : ∀ i : Nat, 4 ≤ i → i < j → litAt s (tSign (i : Int)) p = false) (hl : litAt s (tSign (j : Int)) p = true) : signAt s p = (j : Int) := by
  unfold signAt
  rcases (show j = 4 ∨ j = 5 ∨ j = 6 by omega) with rfl | rfl | rfl
  · rw [if_pos (by exact hl)]; rfl
  · rw [if_neg (by have := hn 4 (by omega) (by omega); rw [show ((4 : Nat) : Int) = 4 from rfl] at this; rw [this]; decide), if_pos (by exact hl)]; rfl
  · rw [if_neg (by have := hn 4 (by omega) (by omega); rw [show ((4 : Nat) : Int) = 4 from rfl] at this; rw [this]; decide), if_neg (by have := hn 5 (by omega) (by omega); rw [show ((5 : Nat) : Int) = 5 from rfl] at this; rw [this]; decide), if_pos (by exact hl)]; rfl
theorem sign_none {s : ByteArray} {p : Nat} (hn : ∀ i : Nat, 4 ≤ i → i < 7 → litAt s (tSign (i : Int)) p = false) : signAt s p = 0 := by
  unfold signAt
  rw [if_neg (by have := hn 4 (by omega) (by omega); rw [show ((4 : Nat) : Int) = 4 from rfl] at this; rw [this]; decide), if_neg (by have := hn 5 (by omega) (by omega); rw [show ((5 : Nat) : Int) = 5 from rfl] at this; rw [this]; decide), if_neg (by have := hn 6 (by omega) (by omega); rw [show ((6 : Nat) : Int) = 6 from rfl] at this; rw [this]; decide)]
set_option maxHeartbeats 2000000 in
theorem nextKind_any (R : Nat) (s : ByteArray) (p : Nat) (v : Value) (w : World) (h : RdI w R s p v) (hs : s.size ≤ 1000) :
    Calls Try.prog 94 #[.pointer (some ⟨R, 0, none⟩)] w fun e w' => e = .returned (.int .i64 (signAt s p)) ∧ ∃ n, w' = w.drewN n := by
  have H := toHid h
  have hp := h.le
  have hr := rest_size s hp
  obtain ⟨a, hA⟩ : ∃ a, a = s.extract p s.size := ⟨_, rfl⟩
  have HA := toHid hA
  rw [← hA] at hr
  have HRS := toHid hr
  have HPF : Hid (∀ (j : Int) (q : Bool) w, litAt s (tSign j) p = q → Calls Try.prog 122 #[.string a, .string (signB j)] w fun e w' => e = .returned (.bool q) ∧ w' = w) := fun j q w hq => by
    have e1 : (decide ((signB j).size ≤ a.size) && (a.extract 0 (signB j).size).toList == (signB j).toList) = q := by
      rw [← hq, lit_rest hp, hr, hA]; rfl
    have h1 := hasPrefix2 a (signB j) w (by omega) (by rw [signB_size]; omega)
    rw [e1] at h1
    exact h1
  clear h hA hr
  go_enter Try.func94, Try.ntmps94
  go_wp2_with fail
  go_loopw [3] (fun k wr => ∃ (j nn : Nat), 4 ≤ j ∧ j ≤ 7 ∧ k = .int .i64 (j : Int) ∧ Hid (∀ i : Nat, 4 ≤ i → i < j → litAt s (tSign (i : Int)) p = false) ∧ Hid (wr = w.drewN nn)) (fun k _ => 7 - (intOf k).toNat)
  case atStart => exact ⟨4, 0, by omega, by omega, rfl, fun i h1 h2 => by omega, rfl⟩
  case round =>
    obtain ⟨j, nn, hj4, hj7, rfl, HN, HWR⟩ := hrel
    have hrd : RdI wr R s p v := by rw [HWR.out]; exact H.out.drewN nn
    have c0 : wr.cell? ⟨R, 0, none⟩ = some (.string a) := by rw [HA.out]; exact hrd.c0
    clear hrd
    by_cases hlt : j < 7
    · have hle : decide ((j : Int) ≤ 6) = true := by simp; omega
      have hle2 : (j : Int) ≤ 6 := by omega
      cases hl : litAt s (tSign (j : Int)) p with
      | true =>
        have EQ := toHid (sign_at hj4 hlt HN.out hl)
        have HP1 : Hid (∀ w, Calls Try.prog 122 #[.string a, .string (signB j)] w fun e w' => e = .returned (.bool true) ∧ w' = w) := fun w => HPF.out j true w hl
        clear hl
        go_wp2_with fail
        go_quiet ((first | (go_at_call 74; exact Calls.quiet_of_same (signOf_any _ _)) | (go_at_call 122; exact Calls.quiet_of_same (HP1.out _))))
        go_wp2
        go_ret
        exact ⟨by rw [EQ.out]; rfl, nn + nq, by rw [HWR.out, World.drewN_drewN]⟩
      | false =>
        have HN2 : Hid (∀ i : Nat, 4 ≤ i → i < j + 1 → litAt s (tSign (i : Int)) p = false) := fun i h1 h2 => by
          by_cases e : i = j
          · subst e; exact hl
          · exact HN.out i h1 (by omega)
        have HP1 : Hid (∀ w, Calls Try.prog 122 #[.string a, .string (signB j)] w fun e w' => e = .returned (.bool false) ∧ w' = w) := fun w => HPF.out j false w hl
        clear hl
        go_wp2_with fail
        go_quiet ((first | (go_at_call 74; exact Calls.quiet_of_same (signOf_any _ _)) | (go_at_call 122; exact Calls.quiet_of_same (HP1.out _))))
        go_wp2
        go_roundw
        case rel => exact ⟨j + 1, nn + nq, by omega, by omega, by go_num, HN2, by show _ = _; rw [HWR.out, World.drewN_drewN]⟩
        case measure => simp [intOf]; omega
    · obtain rfl : j = 7 := by omega
      have EQ := toHid (sign_none HN.out)
      go_wp2
      go_ret
      exact ⟨by rw [EQ.out]; rfl, nn, HWR.out⟩
end Go.Proofs.Ytjmbgpdbnffkpaa
