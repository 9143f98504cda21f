/- The contract of the document's function that tells which files are right. -/
import Derived.Test.YtbfimfmfdllejaaSpecDk1
import Derived.Test.YtbfimfmfdllejaaPlainLess
namespace Go.Proofs.Ytbfimfmfdllejaa
open Go.ChangeShapes Go.WideShapes Go.ChangeAt Go.RowKit

theorem filesB_long {fs : List Fl} (h : 60 < fs.length) : filesB fs = false := by
  have : decide (fs.length ≤ 60) = false := by simp; omega
  simp [filesB, this]
theorem okAt_nm {fs : List Fl} {k : Nat} (h : k < fs.length) (hn : nmB fs[k].n = false) : okAt fs k = false := by
  rw [okAt, nameAt_get fs k h, hn]; rfl
theorem okAt_first {fs : List Fl} {k : Nat} (h : k < fs.length) (hk : k = 0) (hn : nmB fs[k].n = true) : okAt fs k = true := by
  have hd : decide (k = 0) = true := by simpa using hk
  rw [okAt, nameAt_get fs k h, hn, hd]; rfl
/-- no greater: not ahead the other way -/
theorem leqS_not (x y : List UInt8) : (Op.bytesLess x y || x == y) = !Op.bytesLess y x := by
  by_cases e : x = y
  · subst e; simp [Ls.lt_irrefl]
  · rcases Ls.lt_total x y e with h | h
    · rw [h, Ls.lt_asymm x y h]; simp
    · rw [h, Ls.lt_asymm y x h]; simp [e]
theorem okAt_next {fs : List Fl} {k : Nat} (h : k < fs.length) (hk : 0 < k) (hn : nmB fs[k].n = true) : okAt fs k = Op.bytesLess (fs[k - 1]'(by omega)).n.toList fs[k].n.toList := by
  have hd : decide (k = 0) = false := by simp; omega
  rw [okAt, nameAt_get fs k h, nameAt_get fs (k - 1) (by omega), hn, hd]; rfl

set_option maxHeartbeats 2000000 in
theorem l8Files_wide (ad : Option Addr) (cap : Nat) (fs : List Fl) (w : World) (hlen : fs.length ≤ 1048576) (hs : SlF w ad fs) (hf : ∀ f ∈ fs, f.n.size ≤ maxLen ∧ f.d.size ≤ 1073741824) :
    Calls Try.prog 51 #[.slice ad fs.length cap] w fun e w' => e = .returned (.bool (filesB fs)) ∧ Below w.heap.size w w' := by
  by_cases hl : 60 < fs.length
  · have HF : Hid (filesB fs = false) := filesB_long hl
    go_enter Try.func51, Try.ntmps51
    go_wp2
    go_ret
    exact ⟨retB HF.out.symm, Below.refl _ _⟩
  · go_enter Try.func51, Try.ntmps51
    go_wp2
    go_loopw [3, 4] (fun n i wr => ∃ k m : Nat, k ≤ fs.length ∧ i = .int .i64 (k : Int) ∧ n = .int .i64 (m : Int) ∧ Hid (m = sumUp fs k) ∧ Hid (upF fs k = true) ∧ Hid (Below w.heap.size w wr)) (fun _ i _ => fs.length - (intOf i).toNat)
    case atStart => exact ⟨0, 0, Nat.zero_le _, rfl, rfl, rfl, rfl, Below.refl _ _⟩
    case round =>
      obtain ⟨k, m, hk, rfl, rfl, HM, HU, HQ⟩ := hrel
      have hm : m ≤ 1073741824 * 60 := by
        have := sumUp_le (fun f hf' => (hf f hf').2) k hk
        rw [← HM.out] at this
        have h2 : k * 1073741824 ≤ 60 * 1073741824 := Nat.mul_le_mul_right _ (by omega)
        omega
      by_cases hlt : k < fs.length
      · rcases hs with rfl | ⟨b, off, rfl, hb, hr⟩
        · simp at hlt
        have cc : ∀ o, wr.cell? ⟨b, o, none⟩ = w.cell? ⟨b, o, none⟩ := fun o => HQ.out.cell (p := ⟨b, o, none⟩) hb
        obtain ⟨t0, t1⟩ := hr k hlt
        rw [← cc] at t0 t1
        obtain ⟨f0, f1⟩ := hf fs[k] (List.getElem_mem hlt)
        have k0 : (0 : Int) ≤ (k : Int) := by omega
        have k1 : (k : Int) < (fs.length : Int) := by omega
        cases hn : nmB fs[k].n with
        | false =>
          have HF : Hid (filesB fs = false) := upF_bad hlt (okAt_nm hlt hn)
          clear hr cc
          go_wp2_with fail
          go_quiet ((go_at_call 81; exact Calls.quiet_of_same (l8Name_any _ _ f0)))
          go_wp2
          go_ret
          exact ⟨retB HF.out.symm, below_drewN HQ.out _⟩
        | true =>
          by_cases hk0 : k = 0
          · have hg0 : decide ((0 : Int) < (k : Int)) = false := by simp; omega
            have hg1 : decide (0 < k) = false := by simp; omega
            have HM2 : Hid (m + fs[k].d.size = sumUp fs (k + 1)) := by show _ = _; rw [sumUp_succ fs k hlt, HM.out]
            have HU2 : Hid (upF fs (k + 1) = true) := by show _ = _; rw [upF_succ, HU.out, okAt_first hlt hk0 hn]; rfl
            clear hr cc hk0
            go_wp2_with fail
            go_quiet ((go_at_call 81; exact Calls.quiet_of_same (l8Name_any _ _ f0)))
            go_wp2
            go_roundw
            case rel => exact ⟨k + 1, m + fs[k].d.size, by omega, by go_num, by go_num, HM2, HU2, below_drewN HQ.out _⟩
            case measure => simp [intOf]; omega
          · have hkp : 0 < k := by omega
            have hg0 : decide ((0 : Int) < (k : Int)) = true := by simp; omega
            have hk1 : k - 1 < fs.length := by omega
            obtain ⟨p0, -⟩ := hr (k - 1) hk1
            rw [← cc] at p0
            have j0 : (0 : Int) ≤ (k : Int) - 1 := by omega
            have j1 : (k : Int) - 1 < (fs.length : Int) := by omega
            have j2 : ((k : Int) - 1).toNat = k - 1 := by omega
            clear hr cc
            have hoa := okAt_next hlt hkp hn
            have hlq := leqS_not fs[k].n.toList (fs[k - 1]).n.toList
            rw [← hoa] at hlq
            cases hle : okAt fs k with
            | false =>
              have HF : Hid (filesB fs = false) := upF_bad hlt hle
              rw [hle] at hlq
              clear hoa hle
              go_wp2_with fail
              go_quiet ((go_at_call 81; exact Calls.quiet_of_same (l8Name_any _ _ f0)))
              go_wp2
              go_ret
              exact ⟨retB HF.out.symm, below_drewN HQ.out _⟩
            | true =>
              have HM2 : Hid (m + fs[k].d.size = sumUp fs (k + 1)) := by show _ = _; rw [sumUp_succ fs k hlt, HM.out]
              have HU2 : Hid (upF fs (k + 1) = true) := by show _ = _; rw [upF_succ, HU.out, hle]; rfl
              rw [hle] at hlq
              clear hoa hle
              go_wp2_with fail
              go_quiet ((go_at_call 81; exact Calls.quiet_of_same (l8Name_any _ _ f0)))
              go_wp2
              go_roundw
              case rel => exact ⟨k + 1, m + fs[k].d.size, by omega, by go_num, by go_num, HM2, HU2, below_drewN HQ.out _⟩
              case measure => simp [intOf]; omega
      · obtain rfl : k = fs.length := by omega
        have HF : Hid (filesB fs = decide (m ≤ 200000)) := by
          show _ = _
          have h6 : decide (fs.length ≤ 60) = true := by simp; omega
          rw [filesB, HU.out, HM.out, h6]; rfl
        go_wp2
        go_ret
        exact ⟨retB (by rw [HF.out]; simp; omega), HQ.out⟩
theorem l8Files_any (ad : Option Addr) (cap : Nat) (fs : List Fl) (w : World) (hlen : fs.length ≤ 1048576) (hs : SlF w ad fs) (hf : ∀ f ∈ fs, f.n.size ≤ maxLen ∧ f.d.size ≤ 4194304) :
    Calls Try.prog 51 #[.slice ad fs.length cap] w fun e w' => e = .returned (.bool (filesB fs)) ∧ Below w.heap.size w w' :=
  l8Files_wide ad cap fs w hlen hs fun f h => ⟨(hf f h).1, Nat.le_trans (hf f h).2 (by decide)⟩
end Go.Proofs.Ytbfimfmfdllejaa
