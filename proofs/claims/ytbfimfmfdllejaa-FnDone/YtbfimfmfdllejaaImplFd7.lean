/- Contracts of the program's looks at lists of files: whether they are right, whether two are the same. -/
import Derived.Test.YtbfimfmfdllejaaImplFd6
namespace Go.Proofs.Ytbfimfmfdllejaa
open Go.ChangeShapes Go.WideShapes Go.ChangeAt Go.RowKit Go.Maps

set_option maxRecDepth 8000 in
set_option maxHeartbeats 2000000 in
theorem equal_any (ad ad' : Option Addr) (cap cap' : Nat) (xs ys : List Fl) (w : World) (hlen : xs.length ≤ 1048576) (hlen' : ys.length ≤ 1048576) (hs : SlF w ad xs) (hs' : SlF w ad' ys) :
    Calls Try.prog 59 #[.slice ad xs.length cap, .slice ad' ys.length cap'] w fun e w' => e = .returned (.bool (sameB xs ys)) ∧ Below w.heap.size w w' := by
  by_cases hl : xs.length = ys.length
  · have hb : ((xs.length : Int) == (ys.length : Int)) = true := by simp; omega
    go_enter Try.func59, Try.ntmps59
    go_wp2_with fail
    go_loopw [13] (fun i wr => ∃ k : Nat, k ≤ xs.length ∧ i = .int .i64 (k : Int) ∧ Hid (sameUp xs ys k = true) ∧ Hid (Below w.heap.size w wr)) (fun i _ => xs.length - (intOf i).toNat)
    case atStart => exact ⟨0, Nat.zero_le _, rfl, rfl, Below.refl _ _⟩
    case round =>
      obtain ⟨k, hk, rfl, HU, HBW⟩ := hrel
      by_cases hlt : k < xs.length
      · have hlt' : k < ys.length := by omega
        rcases hs.below HBW.out with rfl | ⟨b, off, rfl, hb1, hr⟩
        · simp at hlt
        rcases hs'.below HBW.out with rfl | ⟨b', off', rfl, hb2, hr'⟩
        · simp at hlt'
        obtain ⟨t0, t1⟩ := hr k hlt
        obtain ⟨r0, r1⟩ := hr' k hlt'
        have k0 : (0 : Int) ≤ (k : Int) := by omega
        have k1 : (k : Int) < (xs.length : Int) := by omega
        have k2 : (k : Int) < (ys.length : Int) := by omega
        have hst := sameAt_get hlt hlt'
        clear hr hr' hs hs'
        cases he : (xs[k].n.toList == ys[k].n.toList) with
        | false =>
          have HF : Hid (sameB xs ys = false) := same_bad hlt (by rw [hst, he]; rfl)
          clear hst
          go_wp2_with fail
          go_quiet (fail)
          go_wp2
          go_ret
          exact ⟨retB HF.out.symm, below_drewN HBW.out _⟩
        | true =>
          cases hd : (xs[k].d.toList == ys[k].d.toList) with
          | false =>
            have HF : Hid (sameB xs ys = false) := same_bad hlt (by rw [hst, he, hd]; rfl)
            clear hst
            go_wp2_with fail
            go_quiet (fail)
            go_wp2
            go_ret
            exact ⟨retB HF.out.symm, below_drewN HBW.out _⟩
          | true =>
            have HU2 : Hid (sameUp xs ys (k + 1) = true) := by show _ = _; rw [sameUp_succ, HU.out, hst, he, hd]; rfl
            clear hst
            go_wp2_with fail
            go_quiet (fail)
            go_wp2
            go_roundw
            case rel => exact ⟨k + 1, by omega, by go_num, HU2, below_drewN HBW.out _⟩
            case measure => simp [intOf]; omega
      · obtain rfl : k = xs.length := by omega
        have HT : Hid (sameB xs ys = true) := by show _ = _; rw [sameB_eq, HU.out, decide_eq_true hl]; rfl
        go_wp2
        go_ret
        exact ⟨retB HT.out.symm, HBW.out⟩
  · have HF : Hid (sameB xs ys = false) := by show _ = _; rw [sameB_eq, decide_eq_false hl]; rfl
    have hb : ((xs.length : Int) == (ys.length : Int)) = false := by simp; omega
    go_enter Try.func59, Try.ntmps59
    go_wp2
    go_ret
    exact ⟨retB HF.out.symm, Below.refl _ _⟩

set_option maxHeartbeats 2000000 in
theorem filesOk_any (ad : Option Addr) (cap : Nat) (fs : List Fl) (w : World) (hlen : fs.length ≤ 1048576) (hs : SlF w ad fs) (hf : ∀ f ∈ fs, f.n.size ≤ maxLen ∧ f.d.size ≤ 4194304) :
    Calls Try.prog 58 #[.slice ad fs.length cap] w fun e w' => e = .returned (.bool (filesB fs)) ∧ Below w.heap.size w w' := by
  by_cases hl : 60 < fs.length
  · have HF : Hid (filesB fs = false) := filesB_long hl
    go_enter Try.func58, Try.ntmps58
    go_wp2
    go_ret
    exact ⟨retB HF.out.symm, Below.refl _ _⟩
  · go_enter Try.func58, Try.ntmps58
    go_wp2
    go_loopw [3, 11] (fun n i wr => ∃ k m : Nat, k ≤ fs.length ∧ i = .int .i64 (k : Int) ∧ n = .int .i64 (m : Int) ∧ Hid (m = sumUp fs k) ∧ Hid (upF fs k = true) ∧ Hid (Below w.heap.size w wr)) (fun _ i _ => fs.length - (intOf i).toNat)
    case atStart => exact ⟨0, 0, Nat.zero_le _, rfl, rfl, rfl, rfl, Below.refl _ _⟩
    case round =>
      obtain ⟨k, m, hk, rfl, rfl, HM, HU, HQ⟩ := hrel
      have hm : m ≤ 4194304 * 60 := by
        have := sumUp_le (fun f hf' => (hf f hf').2) k hk
        rw [← HM.out] at this
        have h2 : k * 4194304 ≤ 60 * 4194304 := Nat.mul_le_mul_right _ (by omega)
        omega
      by_cases hlt : k < fs.length
      · rcases hs with rfl | ⟨b, off, rfl, hb, hr⟩
        · simp at hlt
        have cc : ∀ o, wr.cell? ⟨b, o, none⟩ = w.cell? ⟨b, o, none⟩ := fun o => HQ.out.cell (p := ⟨b, o, none⟩) hb
        obtain ⟨t0, t1⟩ := hr k hlt
        rw [← cc] at t0 t1
        obtain ⟨f0, f1⟩ := hf fs[k] (List.getElem_mem hlt)
        have k0 : (0 : Int) ≤ (k : Int) := by omega
        have k1 : (k : Int) < (fs.length : Int) := by omega
        cases hn : nmB fs[k].n with
        | false =>
          have HF : Hid (filesB fs = false) := upF_bad hlt (okAt_nm hlt hn)
          clear hr cc
          go_wp2_with fail
          go_quiet ((go_at_call 82; exact Calls.quiet_of_same (fileNameOk_any _ _ f0)))
          go_wp2
          go_ret
          exact ⟨retB HF.out.symm, below_drewN (HQ.out.alloc HQ.out.size _) _⟩
        | true =>
          by_cases hk0 : k = 0
          · have hg0 : decide ((0 : Int) < (k : Int)) = false := by simp; omega
            have hg1 : decide (0 < k) = false := by simp; omega
            have HM2 : Hid (m + fs[k].d.size = sumUp fs (k + 1)) := by show _ = _; rw [sumUp_succ fs k hlt, HM.out]
            have HU2 : Hid (upF fs (k + 1) = true) := by show _ = _; rw [upF_succ, HU.out, okAt_first hlt hk0 hn]; rfl
            clear hr cc hk0
            go_wp2_with fail
            go_quiet ((go_at_call 82; exact Calls.quiet_of_same (fileNameOk_any _ _ f0)))
            go_wp2
            go_roundw
            case rel => exact ⟨k + 1, m + fs[k].d.size, by omega, by go_num, by go_num, HM2, HU2, below_drewN (HQ.out.alloc HQ.out.size _) _⟩
            case measure => simp [intOf]; omega
          · have hkp : 0 < k := by omega
            have hg0 : decide ((0 : Int) < (k : Int)) = true := by simp; omega
            have hk1 : k - 1 < fs.length := by omega
            obtain ⟨p0, -⟩ := hr (k - 1) hk1
            rw [← cc] at p0
            have hbw : b < wr.heap.size := Nat.lt_of_lt_of_le hb HQ.out.size
            have q0 := (((Below.refl wr.heap.size wr).alloc (Nat.le_refl _) (.cells #[.string fs[k].n, .string fs[k].d] 93)).cell (p := ⟨b, off + (k - 1) * 2, none⟩) hbw).trans p0
            have j0 : (0 : Int) ≤ (k : Int) - 1 := by omega
            have j1 : (k : Int) - 1 < (fs.length : Int) := by omega
            have j2 : ((k : Int) - 1).toNat = k - 1 := by omega
            clear hr cc
            have hoa := okAt_next hlt hkp hn
            have hlq := hoa.symm
            cases hle : okAt fs k with
            | false =>
              have HF : Hid (filesB fs = false) := upF_bad hlt hle
              rw [hle] at hlq
              clear hoa hle
              go_wp2_with fail
              go_quiet ((go_at_call 82; exact Calls.quiet_of_same (fileNameOk_any _ _ f0)))
              go_wp2
              go_ret
              exact ⟨retB HF.out.symm, below_drewN (HQ.out.alloc HQ.out.size _) _⟩
            | true =>
              have HM2 : Hid (m + fs[k].d.size = sumUp fs (k + 1)) := by show _ = _; rw [sumUp_succ fs k hlt, HM.out]
              have HU2 : Hid (upF fs (k + 1) = true) := by show _ = _; rw [upF_succ, HU.out, hle]; rfl
              rw [hle] at hlq
              clear hoa hle
              go_wp2_with fail
              go_quiet ((go_at_call 82; exact Calls.quiet_of_same (fileNameOk_any _ _ f0)))
              go_wp2
              go_roundw
              case rel => exact ⟨k + 1, m + fs[k].d.size, by omega, by go_num, by go_num, HM2, HU2, below_drewN (HQ.out.alloc HQ.out.size _) _⟩
              case measure => simp [intOf]; omega
      · obtain rfl : k = fs.length := by omega
        have HF : Hid (filesB fs = decide (m ≤ 200000)) := by
          show _ = _
          have h6 : decide (fs.length ≤ 60) = true := by simp; omega
          rw [filesB, HU.out, HM.out, h6]; rfl
        go_wp2
        go_ret
        exact ⟨retB (by rw [HF.out]; simp; omega), HQ.out⟩
end Go.Proofs.Ytbfimfmfdllejaa
