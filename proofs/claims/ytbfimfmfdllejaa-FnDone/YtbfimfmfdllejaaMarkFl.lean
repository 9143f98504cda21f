/- Contracts of the law's helpers that mark files, and that look whether the marks are held. -/
import Derived.Test.YtbfimfmfdllejaaMarkD0
import Derived.Deep.RegionHeld3
import Derived.Deep.DrawnRows
namespace Go.Proofs.Ytbfimfmfdllejaa
open Go.ChangeShapes Go.WideShapes Go.ChangeAt Go.RowKit

def mkF (k : Nat) (xs : List Fl) : List Fl := (List.range xs.length).map fun i => ⟨mtx (k + 2 * i), mtx (k + 2 * i + 1)⟩
theorem mkF_len (k : Nat) (xs : List Fl) : (mkF k xs).length = xs.length := by simp [mkF]
theorem mkF_at (k : Nat) (xs : List Fl) (i : Nat) (h : i < (mkF k xs).length) : (mkF k xs)[i] = ⟨mtx (k + 2 * i), mtx (k + 2 * i + 1)⟩ := by simp [mkF]
theorem mkF_nil {k : Nat} {xs : List Fl} : mkF k xs = [] ↔ xs = [] := by
  constructor
  · intro h; have := congrArg List.length h; rw [mkF_len] at this; exact List.length_eq_zero_iff.1 this
  · rintro rfl; rfl
theorem SlF.chg {S : Nat → Prop} {w w' : World} {ad : Option Addr} {xs : List Fl} (h : SlF w ad xs) (hc : Chg S w w') (hn : ∀ g o, xs ≠ [] → ad = some ⟨g, o, none⟩ → ¬ S g) : SlF w' ad xs := by
  rcases h with h | ⟨b, off, e, hb, hr⟩
  · exact .inl h
  · by_cases hx : xs = []
    · exact .inl hx
    · exact .inr ⟨b, off, e, Nat.lt_of_lt_of_le hb hc.size, fun i hi => (hr i hi).same fun o => hc.cell hb (hn b off hx e)⟩

set_option maxRecDepth 8000 in
set_option maxHeartbeats 4000000 in
theorem markFileS_any (ad : Option Addr) (cap : Nat) (xs : List Fl) (k : Nat) (w : World) (hs : SlF w ad xs) (hg : xs ≠ [] → ∃ g, ad = some ⟨g, 0, none⟩ ∧ Free w g) (h0 : 0 < k) (h1 : k + 2 * xs.length ≤ 1000000000) :
    Calls Try.prog 45 #[.slice ad xs.length cap, .int .i64 (k : Int)] w fun e w' => e = .returned (.int .i64 ((k + 2 * xs.length : Nat) : Int)) ∧ SlF w' ad (mkF k xs) ∧ Chg (fun g => xs ≠ [] ∧ ad = some ⟨g, 0, none⟩) w w' := by
  by_cases hz : xs = []
  · subst hz
    go_enter Try.func45, Try.ntmps45
    go_wp2
    go_loopw [1, 5] (fun kv i wr => kv = .int .i64 (k : Int) ∧ i = .int .i64 0 ∧ wr = w) (fun _ _ _ => 0)
    case atStart => exact ⟨rfl, rfl, rfl⟩
    case round =>
      obtain ⟨rfl, rfl, rfl⟩ := hrel
      go_wp2
      go_ret
      exact ⟨rfl, .inl rfl, Chg.refl _ _⟩
  obtain ⟨g, rfl, hfree⟩ := hg hz
  rcases hs with h | ⟨b, off, hbo, hb, hr⟩
  · exact absurd h hz
  obtain ⟨rfl, rfl⟩ : g = b ∧ 0 = off := by injection hbo with e; injection e with e1 e2; exact ⟨e1, e2⟩
  have HZ : Hid (xs ≠ []) := hz
  clear hz hbo hg
  go_enter Try.func45, Try.ntmps45
  go_wp2
  go_loopw [1, 5] (fun kv i wr => ∃ j : Nat, j ≤ xs.length ∧ kv = .int .i64 ((k + 2 * j : Nat) : Int) ∧ i = .int .i64 (j : Int) ∧ Hid (∀ (x : Nat) (hx : x < xs.length), AtF wr g (x * 2) (if x < j then ⟨mtx (k + 2 * x), mtx (k + 2 * x + 1)⟩ else xs[x])) ∧ Hid (Free wr g) ∧ Hid (Chg (fun y => xs ≠ [] ∧ (some ⟨g, 0, none⟩ : Option Addr) = some ⟨y, 0, none⟩) w wr)) (fun _ i _ => xs.length - (intOf i).toNat)
  case atStart => exact ⟨0, Nat.zero_le _, rfl, rfl, fun x hx => by have := hr x hx; simpa using this, hfree, Chg.refl _ _⟩
  case round =>
    clear hr
    obtain ⟨j, hj, rfl, rfl, HC, HFR, HCH⟩ := hrel
    by_cases hlt : j < xs.length
    · obtain ⟨c0, c1⟩ := HC.out j hlt
      rw [if_neg (by omega)] at c0 c1
      have hgl : g < wr.heap.size := Nat.lt_of_lt_of_le hb HCH.out.size
      have hj1 : (0 : Int) ≤ (j : Int) := by omega
      have hj2 : (j : Int) < (xs.length : Int) := by omega
      have hjb : k + 2 * j + 2 ≤ 1000000000 := by omega
      have HV0 : Hid (Chg (fun y => y = g) wr wr) := Chg.refl _ _
      have HO0 : Hid (∀ o, (∀ c, c < 0 → o ≠ j * 2 + c) → wr.cell? ⟨g, o, none⟩ = wr.cell? ⟨g, o, none⟩) := fun o _ => rfl
      go_wp2_with fail
      refine (markText_at _ (k + 2 * j) _ (by omega) (by omega) (by omega)).mono ?_
      rintro e u0 ⟨rfl, hb0⟩
      have HB0 : Hid (Below wr.heap.size wr u0) := hb0
      have e0_0 : u0.cell? ⟨g, j * 2, none⟩ = some (.string xs[j].n) := mK hb0 hgl c0
      have e0_1 : u0.cell? ⟨g, j * 2 + 1, none⟩ = some (.string xs[j].d) := mK hb0 hgl c1
      have fz0 : ∀ y, u0.frozen? ⟨g, y, none⟩ = false := fun y => mF hb0 hgl (HV0.out.free g hgl HFR.out y)
      obtain ⟨v1, hV1⟩ : ∃ v, v = u0.setCell ⟨g, j * 2, none⟩ (.string (mtx (k + 2 * j))) := ⟨_, rfl⟩
      have HV1 : Hid (Chg (fun y => y = g) wr v1) := HV0.out.trans ((Chg.of HB0.out).trans (by rw [hV1]; exact Chg.set _ rfl))
      have hg1 : g < v1.heap.size := Nat.lt_of_lt_of_le hgl HV1.out.size
      have HO1 : Hid (∀ o, (∀ c, c < 1 → o ≠ j * 2 + c) → v1.cell? ⟨g, o, none⟩ = wr.cell? ⟨g, o, none⟩) := fun o ho => by rw [hV1, mO (by have := ho 0 (by omega); omega), HB0.out.cell (p := ⟨g, o, none⟩) hgl]
      have HW1_0 : Hid (v1.cell? ⟨g, j * 2, none⟩ = some (.string (mtx (k + 2 * j)))) := by show _ = _; rw [hV1]; exact mS e0_0
      replace c1 : v1.cell? ⟨g, j * 2 + 1, none⟩ = some (.string xs[j].d) := by rw [hV1, mO (by omega)]; exact e0_1
      clear hb0 c0
      go_wp2_with fail
      rw [← hV1]
      refine (markText_at _ (k + 2 * j + 1) _ (by omega) (by omega) (by omega)).mono ?_
      rintro e u1 ⟨rfl, hb1⟩
      have HB1 : Hid (Below v1.heap.size v1 u1) := hb1
      have e1_1 : u1.cell? ⟨g, j * 2 + 1, none⟩ = some (.string xs[j].d) := mK hb1 hg1 c1
      have fz1 : ∀ y, u1.frozen? ⟨g, y, none⟩ = false := fun y => mF hb1 hg1 (HV1.out.free g hgl HFR.out y)
      obtain ⟨v2, hV2⟩ : ∃ v, v = u1.setCell ⟨g, j * 2 + 1, none⟩ (.string (mtx (k + 2 * j + 1))) := ⟨_, rfl⟩
      have HV2 : Hid (Chg (fun y => y = g) wr v2) := HV1.out.trans ((Chg.of HB1.out).trans (by rw [hV2]; exact Chg.set _ rfl))
      have hg2 : g < v2.heap.size := Nat.lt_of_lt_of_le hgl HV2.out.size
      have HO2 : Hid (∀ o, (∀ c, c < 2 → o ≠ j * 2 + c) → v2.cell? ⟨g, o, none⟩ = wr.cell? ⟨g, o, none⟩) := fun o ho => by rw [hV2, mO (by have := ho 1 (by omega); omega), HB1.out.cell (p := ⟨g, o, none⟩) hg1]; exact HO1.out o fun c hc => ho c (by omega)
      have HW2_1 : Hid (v2.cell? ⟨g, j * 2 + 1, none⟩ = some (.string (mtx (k + 2 * j + 1)))) := by show _ = _; rw [hV2]; exact mS e1_1
      have HW2_0 : Hid (v2.cell? ⟨g, j * 2, none⟩ = some (.string (mtx (k + 2 * j)))) := by show _ = _; rw [hV2, mO (by omega), HB1.out.cell (p := ⟨g, j * 2, none⟩) hg1]; exact HW1_0.out
      clear hb1 hV1 fz0 e0_0 e0_1 c1
      have HCN : Hid (∀ (x : Nat) (hx : x < xs.length), AtF v2 g (x * 2) (if x < j + 1 then ⟨mtx (k + 2 * x), mtx (k + 2 * x + 1)⟩ else xs[x])) := by
        intro x hx
        by_cases e : x = j
        · subst e
          rw [if_pos (by omega)]
          exact ⟨HW2_0.out, HW2_1.out⟩
        · have hx2 := HC.out x hx
          have e2 : (if x < j + 1 then (⟨mtx (k + 2 * x), mtx (k + 2 * x + 1)⟩ : Fl) else xs[x]) = (if x < j then ⟨mtx (k + 2 * x), mtx (k + 2 * x + 1)⟩ else xs[x]) := by
            by_cases h2 : x < j
            · rw [if_pos h2, if_pos (by omega)]
            · rw [if_neg h2, if_neg (by omega)]
          rw [e2]
          obtain ⟨p0, p1⟩ := hx2
          exact ⟨by rw [HO2.out _ (fun c hc => by omega)]; exact p0, by rw [HO2.out _ (fun c hc => by omega)]; exact p1⟩
      have HCHN : Hid (Chg (fun y => xs ≠ [] ∧ (some ⟨g, 0, none⟩ : Option Addr) = some ⟨y, 0, none⟩) w v2) := HCH.out.trans (HV2.out.mono fun y hy => ⟨HZ.out, by rw [hy]⟩)
      have HFN : Hid (Free v2 g) := HV2.out.free g hgl HFR.out
      have HVE : Hid (v2 = _) := hV2
      clear hV2
      go_wp2
      rw [← HVE.out]
      go_roundw
      case rel => exact ⟨j + 1, by omega, by go_num, by go_num, HCN, HFN, HCHN⟩
      case measure => first | (simp [intOf]; done) | (simp [intOf]; omega)
    · obtain rfl : j = xs.length := by omega
      have HS3 : Hid (SlF wr (some ⟨g, 0, none⟩) (mkF k xs)) := .inr ⟨g, 0, rfl, Nat.lt_of_lt_of_le hb HCH.out.size, fun i hi => by
        have h2 : i < xs.length := by rw [mkF_len] at hi; exact hi
        have := HC.out i h2
        rw [if_pos h2] at this
        rw [Nat.zero_add, mkF_at]; exact this⟩
      go_wp2
      go_ret
      exact ⟨by go_num, HS3.out, HCH.out⟩

theorem keepFileS {w w1 w2 : World} {b o : Nat} {z0 z1 : Value} (h : w1.cell? ⟨b, o, none⟩ = some z0 ∧ w1.cell? ⟨b, o + 1, none⟩ = some z1 ∧ b < w1.heap.size ∧ Below w.heap.size w w1) (hb : Below w1.heap.size w1 w2) : w2.cell? ⟨b, o, none⟩ = some z0 ∧ w2.cell? ⟨b, o + 1, none⟩ = some z1 ∧ b < w2.heap.size ∧ Below w.heap.size w w2 := by
  obtain ⟨a0, a1, h1, h2⟩ := h
  exact ⟨mK hb h1 a0, mK hb h1 a1, Nat.lt_of_lt_of_le h1 hb.size, h2.trans (hb.mono h2.size)⟩

set_option maxRecDepth 8000 in
set_option maxHeartbeats 4000000 in
theorem heldFileS_any (ad : Option Addr) (cap : Nat) (xs : List Fl) (k : Nat) (w : World) (hs : SlF w ad (mkF k xs)) (h0 : 0 < k) (h1 : k + 2 * xs.length ≤ 1000000000) :
    Calls Try.prog 47 #[.slice ad xs.length cap, .int .i64 (k : Int)] w fun e w' => e = .returned (.int .i64 ((k + 2 * xs.length : Nat) : Int)) ∧ Below w.heap.size w w' := by
  have HS : Hid (SlF w ad (mkF k xs)) := hs
  clear hs
  go_enter Try.func47, Try.ntmps47
  go_wp2
  go_loopw [1, 5] (fun kv i wr => ∃ j : Nat, j ≤ xs.length ∧ kv = .int .i64 ((k + 2 * j : Nat) : Int) ∧ i = .int .i64 (j : Int) ∧ Hid (Below w.heap.size w wr)) (fun _ i _ => xs.length - (intOf i).toNat)
  case atStart => exact ⟨0, Nat.zero_le _, rfl, rfl, Below.refl _ _⟩
  case round =>
    obtain ⟨j, hj, rfl, rfl, HB⟩ := hrel
    by_cases hlt : j < xs.length
    · rcases HS.out.below HB.out with h | ⟨b, off, rfl, hb, hr⟩
      · rw [mkF_nil] at h; rw [h] at hlt; simp at hlt
      obtain ⟨c0, c1⟩ := hr j (by rw [mkF_len]; exact hlt)
      rw [mkF_at] at c0 c1
      have hj1 : (0 : Int) ≤ (j : Int) := by omega
      have hj2 : (j : Int) < (xs.length : Int) := by omega
      have hjb : k + 2 * j + 2 ≤ 1000000000 := by omega
      clear hr
      go_wp2_with fail
      go_region_held3 (fun w' => w'.cell? ⟨b, off + j * 2, none⟩ = some (.string (mtx (k + 2 * j))) ∧ w'.cell? ⟨b, off + j * 2 + 1, none⟩ = some (.string (mtx (k + 2 * j + 1))) ∧ b < w'.heap.size ∧ Below w.heap.size w w')
        (first | assumption | exact keepFileS (by assumption) hbx | exact ⟨c0, c1, hb, HB.out.drew⟩)
        (first | (go_at_call 78; refine (markText_at _ (k + 2 * j) _ (by omega) (by omega) (by omega)).mono ?_; rintro e w' ⟨rfl, hbx⟩))
      rename_i hH
      clear c0 c1 hb HB
      obtain ⟨c0, c1, hb, hB⟩ := hH
      have HB : Hid (Below w.heap.size w _) := hB
      clear hB
      go_wp2_with fail
      go_region_held3 (fun w' => w'.cell? ⟨b, off + j * 2, none⟩ = some (.string (mtx (k + 2 * j))) ∧ w'.cell? ⟨b, off + j * 2 + 1, none⟩ = some (.string (mtx (k + 2 * j + 1))) ∧ b < w'.heap.size ∧ Below w.heap.size w w')
        (first | assumption | exact keepFileS (by assumption) hbx | exact ⟨c0, c1, hb, HB.out.drew⟩)
        (first | (go_at_call 78; refine (markText_at _ (k + 2 * j + 1) _ (by omega) (by omega) (by omega)).mono ?_; rintro e w' ⟨rfl, hbx⟩))
      rename_i hH
      clear c0 c1 hb HB
      obtain ⟨c0, c1, hb, hB⟩ := hH
      have HB : Hid (Below w.heap.size w _) := hB
      clear hB
      clear c0 c1 hb
      go_wp2
      go_roundw
      case rel => exact ⟨j + 1, by omega, by go_num, by go_num, HB⟩
      case measure => first | (simp [intOf]; done) | (simp [intOf]; omega)
    · obtain rfl : j = xs.length := by omega
      go_wp2
      go_ret
      exact ⟨by go_num, HB.out⟩
end Go.Proofs.Ytbfimfmfdllejaa
