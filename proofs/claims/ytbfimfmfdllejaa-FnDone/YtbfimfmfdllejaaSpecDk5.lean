/- Contract of the function of the document that holds two lists of files against each other. -/
import Derived.Test.YtbfimfmfdllejaaSpecDk4
namespace Go.Proofs.Ytbfimfmfdllejaa
open Go.ChangeShapes Go.WideShapes Go.ChangeAt Go.RowKit Go.Maps

def sameAt (a b : List Fl) (i : Nat) : Bool := eqS (nameAt a i) (nameAt b i) && eqS (a.getD i noF).d (b.getD i noF).d
def sameUp (a b : List Fl) (k : Nat) : Bool := (List.range k).all (sameAt a b)
theorem sameB_eq (a b : List Fl) : sameB a b = (decide (a.length = b.length) && sameUp a b a.length) := rfl
theorem sameUp_succ (a b : List Fl) (k : Nat) : sameUp a b (k + 1) = (sameUp a b k && sameAt a b k) := by simp [sameUp, List.range_succ]
theorem same_bad {a b : List Fl} {k : Nat} (h : k < a.length) (hb : sameAt a b k = false) : sameB a b = false := by
  have : sameUp a b a.length = false := by
    rw [Bool.eq_false_iff]
    intro hu
    rw [sameUp, List.all_eq_true] at hu
    rw [hu k (by simpa using h)] at hb; cases hb
  rw [sameB_eq, this, Bool.and_false]
theorem sameAt_get {a b : List Fl} {k : Nat} (h : k < a.length) (h' : k < b.length) : sameAt a b k = ((a[k].n.toList == b[k].n.toList) && (a[k].d.toList == b[k].d.toList)) := by
  have e1 : a.getD k noF = a[k] := by rw [List.getD_eq_getElem?_getD, List.getElem?_eq_getElem h]; rfl
  have e2 : b.getD k noF = b[k] := by rw [List.getD_eq_getElem?_getD, List.getElem?_eq_getElem h']; rfl
  rw [sameAt, nameAt_get a k h, nameAt_get b k h', e1, e2]; rfl

set_option maxRecDepth 8000 in
set_option maxHeartbeats 2000000 in
theorem l8Same_any (ad ad' : Option Addr) (cap cap' : Nat) (xs ys : List Fl) (w : World) (hlen : xs.length ≤ 1048576) (hlen' : ys.length ≤ 1048576) (hs : SlF w ad xs) (hs' : SlF w ad' ys) :
    Calls Try.prog 61 #[.slice ad xs.length cap, .slice ad' ys.length cap'] w fun e w' => e = .returned (.bool (sameB xs ys)) ∧ Below w.heap.size w w' := by
  by_cases hl : xs.length = ys.length
  · have hb : ((xs.length : Int) == (ys.length : Int)) = true := by simp; omega
    go_enter Try.func61, Try.ntmps61
    go_wp2_with fail
    go_loopw [5] (fun i wr => ∃ k : Nat, k ≤ xs.length ∧ i = .int .i64 (k : Int) ∧ Hid (sameUp xs ys k = true) ∧ Hid (Below w.heap.size w wr)) (fun i _ => xs.length - (intOf i).toNat)
    case atStart => exact ⟨0, Nat.zero_le _, rfl, rfl, Below.refl _ _⟩
    case round =>
      obtain ⟨k, hk, rfl, HU, HBW⟩ := hrel
      by_cases hlt : k < xs.length
      · have hlt' : k < ys.length := by omega
        rcases hs.below HBW.out with rfl | ⟨b, off, rfl, hb1, hr⟩
        · simp at hlt
        rcases hs'.below HBW.out with rfl | ⟨b', off', rfl, hb2, hr'⟩
        · simp at hlt'
        obtain ⟨t0, t1⟩ := hr k hlt
        obtain ⟨r0, r1⟩ := hr' k hlt'
        have k0 : (0 : Int) ≤ (k : Int) := by omega
        have k1 : (k : Int) < (xs.length : Int) := by omega
        have k2 : (k : Int) < (ys.length : Int) := by omega
        have hst := sameAt_get hlt hlt'
        clear hr hr' hs hs'
        cases he : (xs[k].n.toList == ys[k].n.toList) with
        | false =>
          have HF : Hid (sameB xs ys = false) := same_bad hlt (by rw [hst, he]; rfl)
          clear hst
          go_wp2_with fail
          go_quiet (fail)
          go_wp2
          go_ret
          exact ⟨retB HF.out.symm, below_drewN HBW.out _⟩
        | true =>
          cases hd : (xs[k].d.toList == ys[k].d.toList) with
          | false =>
            have HF : Hid (sameB xs ys = false) := same_bad hlt (by rw [hst, he, hd]; rfl)
            clear hst
            go_wp2_with fail
            go_quiet (fail)
            go_wp2
            go_ret
            exact ⟨retB HF.out.symm, below_drewN HBW.out _⟩
          | true =>
            have HU2 : Hid (sameUp xs ys (k + 1) = true) := by show _ = _; rw [sameUp_succ, HU.out, hst, he, hd]; rfl
            clear hst
            go_wp2_with fail
            go_quiet (fail)
            go_wp2
            go_roundw
            case rel => exact ⟨k + 1, by omega, by go_num, HU2, below_drewN HBW.out _⟩
            case measure => simp [intOf]; omega
      · obtain rfl : k = xs.length := by omega
        have HT : Hid (sameB xs ys = true) := by show _ = _; rw [sameB_eq, HU.out, decide_eq_true hl]; rfl
        go_wp2
        go_ret
        exact ⟨retB HT.out.symm, HBW.out⟩
  · have HF : Hid (sameB xs ys = false) := by show _ = _; rw [sameB_eq, decide_eq_false hl]; rfl
    have hb : ((xs.length : Int) == (ys.length : Int)) = false := by simp; omega
    go_enter Try.func61, Try.ntmps61
    go_wp2
    go_ret
    exact ⟨retB HF.out.symm, Below.refl _ _⟩
end Go.Proofs.Ytbfimfmfdllejaa
