/- Marks of lists of numbers; the program's look at which ops are kept. -/
import Derived.Test.YtbfimfmfdllejaaDkInts
namespace Go.Proofs.Ytbfimfmfdllejaa
open Go.ChangeShapes Go.WideShapes Go.ChangeAt Go.RowKit Go.Maps

set_option maxHeartbeats 1000000 in
theorem markInt64S_any (ad : Option Addr) (cap : Nat) (xs : List Int) (k : Nat) (w : World) (hs : SlK w ad xs) (hg : xs ≠ [] → ∃ g, ad = some ⟨g, 0, none⟩ ∧ Free w g) (h0 : 0 < k) (h1 : k + xs.length ≤ 1000000000) :
    Calls Try.prog 22 #[.slice ad xs.length cap, .int .i64 (k : Int)] w fun e w' => e = .returned (.int .i64 ((k + xs.length : Nat) : Int)) ∧ Chg (fun g => xs ≠ [] ∧ ad = some ⟨g, 0, none⟩) w w' := by
  by_cases hz : xs = []
  · subst hz
    go_enter Try.func22, Try.ntmps22
    go_wp2
    go_loopw [1, 5] (fun kv i wr => kv = .int .i64 (k : Int) ∧ i = .int .i64 0 ∧ wr = w) (fun _ _ _ => 0)
    case atStart => exact ⟨rfl, rfl, rfl⟩
    case round =>
      obtain ⟨rfl, rfl, rfl⟩ := hrel
      go_wp2
      go_ret
      exact ⟨rfl, Chg.refl _ _⟩
  obtain ⟨g, rfl, hfree⟩ := hg hz
  have HSM : Hid (∀ i, i < xs.length → (w.cell? ⟨g, i, none⟩).isSome = true) := by
    rcases hs with h | ⟨b, off, e, hb, hr⟩
    · exact absurd h hz
    · injection e with e; injection e with e1 e2
      subst e1; subst e2
      intro i hi
      have := hr i hi
      rw [Nat.zero_add] at this
      rw [this]; rfl
  have HLT : Hid (g < w.heap.size) := by
    rcases hs with h | ⟨b, off, e, hb, -⟩
    · exact absurd h hz
    · injection e with e; injection e with e1 e2; rw [e1]; exact hb
  have HZ := HIDk hz
  have HF := HIDk hfree
  clear hs hg hz hfree
  go_enter Try.func22, Try.ntmps22
  go_wp2
  go_loopw [1, 5] (fun kv i wr => ∃ j : Nat, j ≤ xs.length ∧ kv = .int .i64 ((k + j : Nat) : Int) ∧ i = .int .i64 (j : Int) ∧ Hid (∀ i, i < xs.length → (wr.cell? ⟨g, i, none⟩).isSome = true) ∧ Hid (Chg (fun y => xs ≠ [] ∧ (some ⟨g, 0, none⟩ : Option Addr) = some ⟨y, 0, none⟩) w wr)) (fun _ i _ => xs.length - (intOf i).toNat)
  case atStart => exact ⟨0, Nat.zero_le _, rfl, rfl, HSM, Chg.refl _ _⟩
  case round =>
    obtain ⟨j, hj, rfl, rfl, HS, HC⟩ := hrel
    by_cases hlt : j < xs.length
    · obtain ⟨u, hu⟩ := Option.isSome_iff_exists.mp (HS.out j hlt)
      have fz : ∀ y, wr.frozen? ⟨g, y, none⟩ = false := HC.out.free g HLT.out HF.out
      have k0 : (0 : Int) ≤ (j : Int) := by omega
      have k1 : (j : Int) < (xs.length : Int) := by omega
      obtain ⟨X, hX⟩ : ∃ X, X = wr.setCell ⟨g, j, none⟩ (.int .i64 ((k : Int) + (j : Int))) := ⟨_, rfl⟩
      have HS2 : Hid (∀ i, i < xs.length → (X.cell? ⟨g, i, none⟩).isSome = true) := fun i hi => by
        rw [hX]
        by_cases e : j = i
        · subst e; rw [setS' hu]; rfl
        · rw [setO' e]; exact HS.out i hi
      have HC2 : Hid (Chg (fun y => xs ≠ [] ∧ (some ⟨g, 0, none⟩ : Option Addr) = some ⟨y, 0, none⟩) w X) := HC.out.trans (by rw [hX]; exact Chg.set _ ⟨HZ.out, rfl⟩)
      clear HS HC
      go_wp2
      rw [← hX]
      go_roundw
      case rel => exact ⟨j + 1, by omega, by go_num, by go_num, HS2, HC2⟩
      case measure => simp [intOf]; omega
    · obtain rfl : j = xs.length := by omega
      go_wp2
      go_ret
      exact ⟨by go_num, HC.out⟩

def numAt (xs : List Int) (i : Nat) : Int := xs.getD i 0
theorem numAt_get {xs : List Int} {i : Nat} (h : i < xs.length) : numAt xs i = xs[i] := by rw [numAt, List.getD_eq_getElem?_getD, List.getElem?_eq_getElem h]; rfl
def keptAt (xs : List Int) (n : Nat) (i : Nat) : Bool := decide (0 ≤ numAt xs i) && decide (numAt xs i < n) && (decide (i = 0) || decide (numAt xs (i - 1) < numAt xs i))
def keepB (xs : List Int) (n : Nat) : Bool := (List.range xs.length).all (keptAt xs n)
def keepUp (xs : List Int) (n k : Nat) : Bool := (List.range k).all (keptAt xs n)
theorem keepUp_succ (xs : List Int) (n k : Nat) : keepUp xs n (k + 1) = (keepUp xs n k && keptAt xs n k) := by simp [keepUp, List.range_succ]
theorem keep_bad {xs : List Int} {n k : Nat} (h : k < xs.length) (hb : keptAt xs n k = false) : keepB xs n = false := by
  rw [Bool.eq_false_iff]
  intro hu
  rw [keepB, List.all_eq_true] at hu
  rw [hu k (by simpa using h)] at hb; cases hb

set_option maxHeartbeats 2000000 in
theorem keepOk_any (ad : Option Addr) (cap : Nat) (xs : List Int) (n : Nat) (w : World) (hlen : xs.length ≤ 1048576) (hs : SlK w ad xs) :
    Calls Try.prog 52 #[.slice ad xs.length cap, .int .i64 (n : Int)] w fun e w' => e = .returned (.bool (keepB xs n)) ∧ Below w.heap.size w w' := by
  have HS := HIDk hs
  clear hs
  go_enter Try.func52, Try.ntmps52
  go_wp2_with fail
  go_loopw [9] (fun i wr => ∃ k : Nat, k ≤ xs.length ∧ i = .int .i64 (k : Int) ∧ Hid (keepUp xs n k = true) ∧ Hid (Below w.heap.size w wr)) (fun i _ => xs.length - (intOf i).toNat)
  case atStart => exact ⟨0, Nat.zero_le _, rfl, rfl, Below.refl _ _⟩
  case round =>
    obtain ⟨k, hk, rfl, HU, HB⟩ := hrel
    by_cases hlt : k < xs.length
    · obtain ⟨b, off, rfl, hr⟩ : ∃ b off, ad = some ⟨b, off, none⟩ ∧ ∀ (i : Nat) (h : i < xs.length), wr.cell? ⟨b, off + i, none⟩ = some (.int .i64 xs[i]) := by
        rcases HS.out with rfl | ⟨b, off, e, hb, hr⟩
        · simp at hlt
        · exact ⟨b, off, e, fun i h => (HB.out.cell (p := ⟨b, off + i, none⟩) hb).trans (hr i h)⟩
      have t0 := hr k hlt
      have k0 : (0 : Int) ≤ (k : Int) := by omega
      have k1 : (k : Int) < (xs.length : Int) := by omega
      have hat : keptAt xs n k = (decide (0 ≤ xs[k]) && decide (xs[k] < n) && (decide (k = 0) || decide (numAt xs (k - 1) < xs[k]))) := by rw [keptAt, numAt_get hlt]
      by_cases h1 : xs[k] < 0
      · have HF : Hid (keepB xs n = false) := keep_bad hlt (by rw [hat, decide_eq_false (by omega)]; rfl)
        have d1 : decide (xs[k] < 0) = true := by simpa using h1
        clear hat h1 hr
        go_wp2
        go_ret
        exact ⟨retB HF.out.symm, by first | exact HB.out | exact below_drewN HB.out _⟩
      have d1 : decide (xs[k] < 0) = false := by simpa using h1
      by_cases h2 : (n : Int) ≤ xs[k]
      · have HF : Hid (keepB xs n = false) := keep_bad hlt (by rw [hat, decide_eq_false (p := xs[k] < n) (by omega)]; simp)
        have d2 : decide ((n : Int) ≤ xs[k]) = true := by simpa using h2
        clear hat h1 h2 hr
        go_wp2
        go_ret
        exact ⟨retB HF.out.symm, by first | exact HB.out | exact below_drewN HB.out _⟩
      have d2 : decide ((n : Int) ≤ xs[k]) = false := by simp; omega
      by_cases hk0 : k = 0
      · have HU2 : Hid (keepUp xs n (k + 1) = true) := by show _ = _; rw [keepUp_succ, HU.out, hat, decide_eq_true (p := 0 ≤ xs[k]) (by omega), decide_eq_true (p := xs[k] < n) (by omega), decide_eq_true hk0]; rfl
        have g0 : decide ((0 : Int) < (k : Int)) = false := by simp; omega
        have g1 : decide (0 < k) = false := by simp; omega
        clear hat h1 h2 hr hk0
        go_wp2
        go_roundw
        case rel => exact ⟨k + 1, by omega, by go_num, HU2, by first | exact HB | exact below_drewN HB.out _⟩
        case measure => simp [intOf]; omega
      · have g0 : decide ((0 : Int) < (k : Int)) = true := by simp; omega
        have hp := hr (k - 1) (by omega)
        have j0 : (0 : Int) ≤ (k : Int) - 1 := by omega
        have j1 : (k : Int) - 1 < (xs.length : Int) := by omega
        have j2 : ((k : Int) - 1).toNat = k - 1 := by omega
        have hnm : numAt xs (k - 1) = xs[k - 1]'(by omega) := numAt_get (by omega)
        by_cases h3 : xs[k] ≤ xs[k - 1]'(by omega)
        · have HF : Hid (keepB xs n = false) := keep_bad hlt (by rw [hat, hnm, decide_eq_false hk0, decide_eq_false (p := xs[k - 1]'(by omega) < xs[k]) (by omega)]; simp)
          have d3 : decide (xs[k] ≤ xs[k - 1]'(by omega)) = true := by simpa using h3
          clear hat h1 h2 hr hk0 h3 hnm
          go_wp2
          go_ret
          exact ⟨retB HF.out.symm, by first | exact HB.out | exact below_drewN HB.out _⟩
        · have HU2 : Hid (keepUp xs n (k + 1) = true) := by show _ = _; rw [keepUp_succ, HU.out, hat, hnm, decide_eq_true (p := 0 ≤ xs[k]) (by omega), decide_eq_true (p := xs[k] < n) (by omega), decide_eq_true (p := xs[k - 1]'(by omega) < xs[k]) (by omega)]; simp
          have d3 : decide (xs[k] ≤ xs[k - 1]'(by omega)) = false := by simpa using h3
          clear hat h1 h2 hr hk0 h3 hnm
          go_wp2
          go_roundw
          case rel => exact ⟨k + 1, by omega, by go_num, HU2, by first | exact HB | exact below_drewN HB.out _⟩
          case measure => simp [intOf]; omega
    · obtain rfl : k = xs.length := by omega
      have HT : Hid (keepB xs n = true) := HU.out
      go_wp2
      go_ret
      exact ⟨retB HT.out.symm, by first | exact HB.out | exact below_drewN HB.out _⟩
end Go.Proofs.Ytbfimfmfdllejaa
