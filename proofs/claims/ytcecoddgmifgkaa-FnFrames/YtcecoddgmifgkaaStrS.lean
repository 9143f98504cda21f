/- Contracts of the law's helpers on lists of texts: held against one another, marked, and looked at again. -/
import Derived.Test.YtcecoddgmifgkaaTakeI
import Derived.Test.YtcecoddgmifgkaaMark0
namespace Go.Proofs.Ytcecoddgmifgkaa
open Go.ChangeShapes Go.WideShapes Go.ChangeAt Go.RowKit
open Pl

/-- a list of texts in memory: empty, or at an address with these cells -/
def SlT1 (w : World) (ad : Option Addr) (xs : List ByteArray) : Prop := xs = [] ∨ ∃ g, ad = some ⟨g, 0, none⟩ ∧ g < w.heap.size ∧ ∀ (i : Nat) (h : i < xs.length), w.cell? ⟨g, i, none⟩ = some (.string xs[i])
theorem SlT1.below {w w' : World} {ad : Option Addr} {xs : List ByteArray} (h : SlT1 w ad xs) (hb : Below w.heap.size w w') : SlT1 w' ad xs := by
  rcases h with h | ⟨g, e, hg, hr⟩
  · exact .inl h
  · exact .inr ⟨g, e, Nat.lt_of_lt_of_le hg hb.size, fun i hi => by rw [hb.cell (p := ⟨g, i, none⟩) hg]; exact hr i hi⟩
theorem SlT1.chg {S : Nat → Prop} {w w' : World} {ad : Option Addr} {xs : List ByteArray} (h : SlT1 w ad xs) (hc : Chg S w w') (hn : ∀ g, ad = some ⟨g, 0, none⟩ → ¬ S g) : SlT1 w' ad xs := by
  rcases h with h | ⟨g, e, hg, hr⟩
  · exact .inl h
  · exact .inr ⟨g, e, Nat.lt_of_lt_of_le hg hc.size, fun i hi => by rw [hc.cell hg (hn g e)]; exact hr i hi⟩

/-- a row that the call owns: as a list in memory, where it lies, and that it may be written -/
theorem own_list {w : World} {base : Nat} {v : Value} {xs : List ByteArray} (h : w.ownsRow base 9 1 v xs.length (strs xs)) : ∃ ad cap, v = .slice ad xs.length cap ∧ SlT1 w ad xs ∧ (xs ≠ [] → ∃ g, ad = some ⟨g, 0, none⟩ ∧ base ≤ g ∧ g < w.heap.size ∧ Free w g) := by
  have h2 := h
  rcases h.2 with ⟨rfl, h0⟩ | ⟨g, cp, cur, rfl, hbg, hg, hnc, hrest⟩
  · have : xs = [] := List.length_eq_zero_iff.1 h0
    subst this
    exact ⟨none, 0, rfl, .inl rfl, fun h => absurd rfl h⟩
  · have hlt := h2.lt g rfl
    refine ⟨some ⟨g, 0, none⟩, cp, rfl, .inr ⟨g, rfl, hlt.2, fun i hi => ?_⟩, fun _ => ⟨g, rfl, hbg, hlt.2, fun j => ?_⟩⟩
    · have := h2.cells (g := g) rfl i (.string xs[i]) (by simp [strs, hi])
      have e : (⟨g, 0, none⟩ : Addr).add i = ⟨g, i, none⟩ := by
        unfold Addr.add
        by_cases hj : i = 0
        · subst hj; simp
        · simp [hj]
      rwa [e] at this
    · simp [World.frozen?, hg]

set_option maxHeartbeats 1000000 in
theorem eqStringS_any (ad ad' : Option Addr) (cap cap' : Nat) (xs : List ByteArray) (w : World) (hl : xs.length ≤ 1048576) (h : SlT1 w ad xs) (h' : SlT1 w ad' xs) :
    Calls Try.prog 23 #[.slice ad xs.length cap, .slice ad' xs.length cap'] w fun e w' => e = .returned (.bool true) ∧ Below w.heap.size w w' := by
  go_enter Try.func23, Try.ntmps23
  go_wp2_with fail
  go_loopw [5] (fun i wr => ∃ k : Nat, k ≤ xs.length ∧ i = .int .i64 (k : Int) ∧ Below w.heap.size w wr) (fun i _ => xs.length - (intOf i).toNat)
  case atStart => exact ⟨0, Nat.zero_le _, rfl, Below.refl _ _⟩
  case round =>
    obtain ⟨k, hk, rfl, hB⟩ := hrel
    by_cases hlt : k < xs.length
    · rcases h.below hB with rfl | ⟨g, rfl, hg, hr⟩
      · simp at hlt
      rcases h'.below hB with rfl | ⟨g', rfl, hg', hr'⟩
      · simp at hlt
      have c0 := hr k hlt
      have c1 := hr' k hlt
      clear hr hr' h h'
      have k0 : (0 : Int) ≤ (k : Int) := by omega
      have k1 : (k : Int) < (xs.length : Int) := by omega
      go_wp2_with fail
      go_quiet (fail)
      go_wp2
      go_roundw
      case rel => exact ⟨k + 1, by omega, by go_num, below_drewN hB _⟩
      case measure => simp [intOf]; omega
    · go_wp2
      go_ret
      exact ⟨rfl, hB⟩

/-- the marks of a list of texts -/
def mkT (k : Nat) (xs : List ByteArray) : List ByteArray := (List.range xs.length).map fun i => mtx (k + i)
theorem mkT_len (k : Nat) (xs : List ByteArray) : (mkT k xs).length = xs.length := by simp [mkT]
theorem mkT_at (k : Nat) (xs : List ByteArray) (i : Nat) (h : i < (mkT k xs).length) : (mkT k xs)[i] = mtx (k + i) := by simp [mkT]

set_option maxHeartbeats 1000000 in
theorem markStringS_any (ad : Option Addr) (cap : Nat) (xs : List ByteArray) (k : Nat) (w : World) (hs : SlT1 w ad xs) (hg : xs ≠ [] → ∃ g, ad = some ⟨g, 0, none⟩ ∧ Free w g) (h0 : 0 < k) (h1 : k + xs.length ≤ 1000000000) :
    Calls Try.prog 24 #[.slice ad xs.length cap, .int .i64 (k : Int)] w fun e w' => e = .returned (.int .i64 ((k + xs.length : Nat) : Int)) ∧ SlT1 w' ad (mkT k xs) ∧ Chg (fun g => xs ≠ [] ∧ ad = some ⟨g, 0, none⟩) w w' := by
  by_cases hz : xs = []
  · subst hz
    go_enter Try.func24, Try.ntmps24
    go_wp2
    go_loopw [1, 5] (fun kv i wr => kv = .int .i64 (k : Int) ∧ i = .int .i64 0 ∧ wr = w) (fun _ _ _ => 0)
    case atStart => exact ⟨rfl, rfl, rfl⟩
    case round =>
      obtain ⟨rfl, rfl, rfl⟩ := hrel
      go_wp2
      go_ret
      exact ⟨rfl, .inl rfl, Chg.refl _ _⟩
  obtain ⟨g, rfl, hfree⟩ := hg hz
  rcases hs with h | ⟨b, hbo, hb, hr⟩
  · exact absurd h hz
  obtain rfl : g = b := by injection hbo with e; injection e with e1 e2
  have HZ : Hid (xs ≠ []) := hz
  clear hz hbo hg
  go_enter Try.func24, Try.ntmps24
  go_wp2
  go_loopw [1, 5] (fun kv i wr => ∃ j : Nat, j ≤ xs.length ∧ kv = .int .i64 ((k + j : Nat) : Int) ∧ i = .int .i64 (j : Int) ∧ Hid (∀ (x : Nat) (hx : x < xs.length), wr.cell? ⟨g, x, none⟩ = some (.string (if x < j then mtx (k + x) else xs[x]))) ∧ Hid (Free wr g) ∧ Hid (Chg (fun y => xs ≠ [] ∧ (some ⟨g, 0, none⟩ : Option Addr) = some ⟨y, 0, none⟩) w wr)) (fun _ i _ => xs.length - (intOf i).toNat)
  case atStart => exact ⟨0, Nat.zero_le _, rfl, rfl, fun x hx => by have := hr x hx; simpa using this, hfree, Chg.refl _ _⟩
  case round =>
    obtain ⟨j, hj, rfl, rfl, HC, HFR, HCH⟩ := hrel
    by_cases hlt : j < xs.length
    · have c0 := HC.out j hlt
      rw [if_neg (by omega)] at c0
      have hgl : g < wr.heap.size := Nat.lt_of_lt_of_le hb HCH.out.size
      have hj1 : (0 : Int) ≤ (j : Int) := by omega
      have hj2 : (j : Int) < (xs.length : Int) := by omega
      go_wp2_with fail
      refine (markText_at _ (k + j) _ (by omega) (by omega) (by omega)).mono ?_
      rintro e w1 ⟨rfl, hb1⟩
      have HB1 : Hid (Below wr.heap.size wr w1) := hb1
      replace c0 := mK hb1 hgl c0
      have fz : ∀ y, w1.frozen? ⟨g, y, none⟩ = false := fun y => mF hb1 hgl (HFR.out y)
      clear hb1
      have HC2 : Hid (∀ (x : Nat) (hx : x < xs.length), (w1.setCell ⟨g, j, none⟩ (.string (mtx (k + j)))).cell? ⟨g, x, none⟩ = some (.string (if x < j + 1 then mtx (k + x) else xs[x]))) := by
        intro x hx
        by_cases e : x = j
        · subst e
          rw [mS c0, if_pos (by omega)]
        · rw [mO (Ne.symm e), HB1.out.cell (p := ⟨g, x, none⟩) hgl, HC.out x hx]
          by_cases h2 : x < j
          · rw [if_pos h2, if_pos (by omega)]
          · rw [if_neg h2, if_neg (by omega)]
      have HCH2 : Hid (Chg (fun y => xs ≠ [] ∧ (some ⟨g, 0, none⟩ : Option Addr) = some ⟨y, 0, none⟩) w (w1.setCell ⟨g, j, none⟩ (.string (mtx (k + j))))) := (HCH.out.trans (Chg.of HB1.out)).trans (Chg.set _ ⟨HZ.out, rfl⟩)
      have HF2 : Hid (Free (w1.setCell ⟨g, j, none⟩ (.string (mtx (k + j)))) g) := fun y => by simpa using fz y
      go_wp2
      go_roundw
      case rel => exact ⟨j + 1, by omega, by go_num, by go_num, HC2, HF2, HCH2⟩
      case measure => first | (simp [intOf]; done) | (simp [intOf]; omega)
    · obtain rfl : j = xs.length := by omega
      have HS3 : Hid (SlT1 wr (some ⟨g, 0, none⟩) (mkT k xs)) := .inr ⟨g, rfl, Nat.lt_of_lt_of_le hb HCH.out.size, fun i hi => by
        have h2 : i < xs.length := by rw [mkT_len] at hi; exact hi
        rw [HC.out i h2, if_pos h2, mkT_at]⟩
      go_wp2
      go_ret
      exact ⟨by go_num, HS3.out, HCH.out⟩

theorem keepT {w w1 w2 : World} {b o : Nat} {u : Value} (h : w1.cell? ⟨b, o, none⟩ = some u ∧ b < w1.heap.size ∧ Below w.heap.size w w1) (hb : Below w1.heap.size w1 w2) : w2.cell? ⟨b, o, none⟩ = some u ∧ b < w2.heap.size ∧ Below w.heap.size w w2 :=
  ⟨mK hb h.2.1 h.1, Nat.lt_of_lt_of_le h.2.1 hb.size, h.2.2.trans (hb.mono h.2.2.size)⟩

set_option maxHeartbeats 1000000 in
theorem heldStringS_any (ad : Option Addr) (cap : Nat) (xs : List ByteArray) (k : Nat) (w : World) (hs : SlT1 w ad (mkT k xs)) (h0 : 0 < k) (h1 : k + xs.length ≤ 1000000000) :
    Calls Try.prog 25 #[.slice ad xs.length cap, .int .i64 (k : Int)] w fun e w' => e = .returned (.int .i64 ((k + xs.length : Nat) : Int)) ∧ Below w.heap.size w w' := by
  go_enter Try.func25, Try.ntmps25
  go_wp2
  go_loopw [1, 5] (fun kv i wr => ∃ j : Nat, j ≤ xs.length ∧ kv = .int .i64 ((k + j : Nat) : Int) ∧ i = .int .i64 (j : Int) ∧ Below w.heap.size w wr) (fun _ i _ => xs.length - (intOf i).toNat)
  case atStart => exact ⟨0, Nat.zero_le _, rfl, rfl, Below.refl _ _⟩
  case round =>
    obtain ⟨j, hj, rfl, rfl, hB⟩ := hrel
    by_cases hlt : j < xs.length
    · have hl2 : j < (mkT k xs).length := by rw [mkT_len]; exact hlt
      rcases hs.below hB with h | ⟨g, rfl, hg, hr⟩
      · rw [h] at hl2; simp at hl2
      have c0 := hr j hl2
      rw [mkT_at] at c0
      clear hr hs hl2
      have k0 : (0 : Int) ≤ (j : Int) := by omega
      have k1 : (j : Int) < (xs.length : Int) := by omega
      have hk0 : 0 < k + j := by omega
      have hk1 : k + j ≤ 1000000000 := by omega
      have hk2 : (k : Int) + (j : Int) = ((k + j : Nat) : Int) := by omega
      have HK2 : Hid ((k : Int) + (j : Int) = ((k + j : Nat) : Int)) := hk2
      clear hk2
      go_wp2_with fail
      go_region_held3 (fun w' => w'.cell? ⟨g, j, none⟩ = some (.string (mtx (k + j))) ∧ g < w'.heap.size ∧ Below w.heap.size w w')
        (first | assumption | exact keepT (by assumption) hbx | exact ⟨c0, hg, hB.drew⟩)
        (first | (go_at_call 46; refine (markText_at _ (k + j) _ HK2.out hk0 hk1).mono ?_; rintro e w' ⟨rfl, hbx⟩))
      rename_i hH
      obtain ⟨-, -, hB2⟩ := hH
      go_wp2
      go_roundw
      case rel => exact ⟨j + 1, by omega, by go_num, by go_num, hB2⟩
      case measure => simp [intOf]; omega
    · obtain rfl : j = xs.length := by omega
      go_wp2
      go_ret
      exact ⟨by go_num, hB⟩
end Go.Proofs.Ytcecoddgmifgkaa
