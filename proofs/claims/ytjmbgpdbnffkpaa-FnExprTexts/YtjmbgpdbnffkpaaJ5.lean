/- What a change of some blocks leaves of lists of pairs and of numbers. -/
import Derived.Test.YtjmbgpdbnffkpaaJ2
import Derived.Test.YtjmbgpdbnffkpaaToExpr2
import Derived.Deep.RegionHeld3
import Derived.Deep.DrawnRows
namespace Go.Proofs.Ytjmbgpdbnffkpaa
open Go.ChangeShapes Go.WideShapes Go.ChangeAt Go.RowKit
open Pl

theorem SlA.chg {S : Nat → Prop} {w w' : World} {ad : Option Addr} {xs : List Al} (h : SlA w ad xs) (hc : Chg S w w') (hn : ∀ g o, xs ≠ [] → ad = some ⟨g, o, none⟩ → ¬ S g) : SlA w' ad xs := by
  rcases h with h | ⟨b, off, e, hb, hr⟩
  · exact .inl h
  · by_cases hx : xs = []
    · exact .inl hx
    · exact .inr ⟨b, off, e, Nat.lt_of_lt_of_le hb hc.size, fun i hi => (hr i hi).same fun o => hc.cell hb (hn b off hx e)⟩
theorem SlI.chg {S : Nat → Prop} {w w' : World} {ad : Option Addr} {zs : List Int} (h : SlI w ad zs) (hc : Chg S w w') (hn : ∀ g o, zs ≠ [] → ad = some ⟨g, o, none⟩ → ¬ S g) : SlI w' ad zs := by
  rcases h with h | ⟨b, off, e, hb, hr⟩
  · exact .inl h
  · by_cases hx : zs = []
    · exact .inl hx
    · exact .inr ⟨b, off, e, Nat.lt_of_lt_of_le hb hc.size, fun i hi => by rw [hc.cell hb (hn b off hx e)]; exact hr i hi⟩

end Go.Proofs.Ytjmbgpdbnffkpaa

/- Contracts of the law's helpers that mark lists of numbers and of allowed pairs, and that look whether the marks are held. -/
namespace Go.Proofs.Ytjmbgpdbnffkpaa
open Go.ChangeShapes Go.WideShapes Go.ChangeAt Go.RowKit
open Pl

def mkI (k : Nat) (zs : List Int) : List Int := (List.range zs.length).map fun i => ((k + i : Nat) : Int)
def mkA (k : Nat) (xs : List Al) : List Al := (List.range xs.length).map fun i => ⟨mtx (k + 2 * i), mtx (k + 2 * i + 1)⟩
theorem mkI_len (k : Nat) (zs : List Int) : (mkI k zs).length = zs.length := by simp [mkI]
theorem mkA_len (k : Nat) (xs : List Al) : (mkA k xs).length = xs.length := by simp [mkA]
theorem mkI_at (k : Nat) (zs : List Int) (i : Nat) (h : i < (mkI k zs).length) : (mkI k zs)[i] = ((k + i : Nat) : Int) := by simp [mkI]
theorem mkA_at (k : Nat) (xs : List Al) (i : Nat) (h : i < (mkA k xs).length) : (mkA k xs)[i] = ⟨mtx (k + 2 * i), mtx (k + 2 * i + 1)⟩ := by simp [mkA]
theorem mkI_nil {k : Nat} {zs : List Int} : mkI k zs = [] ↔ zs = [] := by
  constructor
  · intro h; have := congrArg List.length h; rw [mkI_len] at this; exact List.length_eq_zero_iff.1 this
  · rintro rfl; rfl
theorem mkA_nil {k : Nat} {xs : List Al} : mkA k xs = [] ↔ xs = [] := by
  constructor
  · intro h; have := congrArg List.length h; rw [mkA_len] at this; exact List.length_eq_zero_iff.1 this
  · rintro rfl; rfl

set_option maxHeartbeats 1000000 in
theorem markInt64S_any (ad : Option Addr) (cap : Nat) (zs : List Int) (k : Nat) (w : World) (hs : SlI w ad zs) (hg : zs ≠ [] → ∃ g, ad = some ⟨g, 0, none⟩ ∧ Free w g) (h1 : k + zs.length ≤ 1000000000) :
    Calls Try.prog 34 #[.slice ad zs.length cap, .int .i64 (k : Int)] w fun e w' => e = .returned (.int .i64 ((k + zs.length : Nat) : Int)) ∧ SlI w' ad (mkI k zs) ∧ Chg (fun g => zs ≠ [] ∧ ad = some ⟨g, 0, none⟩) w w' := by
  by_cases hz : zs = []
  · subst hz
    go_enter Try.func34, Try.ntmps34
    go_wp2
    go_loopw [1, 5] (fun kv i wr => kv = .int .i64 (k : Int) ∧ i = .int .i64 0 ∧ wr = w) (fun _ _ _ => 0)
    case atStart => exact ⟨rfl, rfl, rfl⟩
    case round =>
      obtain ⟨rfl, rfl, rfl⟩ := hrel
      go_wp2
      go_ret
      exact ⟨rfl, .inl rfl, Chg.refl _ _⟩
  obtain ⟨g, rfl, hfree⟩ := hg hz
  rcases hs with h | ⟨b, off, hbo, hb, hr⟩
  · exact absurd h hz
  obtain ⟨rfl, rfl⟩ : g = b ∧ 0 = off := by injection hbo with e; injection e with e1 e2; exact ⟨e1, e2⟩
  have HZ : Hid (zs ≠ []) := hz
  clear hz hbo hg
  go_enter Try.func34, Try.ntmps34
  go_wp2
  go_loopw [1, 5] (fun kv i wr => ∃ j : Nat, j ≤ zs.length ∧ kv = .int .i64 ((k + j : Nat) : Int) ∧ i = .int .i64 (j : Int) ∧ Hid (∀ (x : Nat) (hx : x < zs.length), wr.cell? ⟨g, x, none⟩ = some (.int .i64 (if x < j then ((k + x : Nat) : Int) else zs[x]))) ∧ Hid (Free wr g) ∧ Hid (Chg (fun y => zs ≠ [] ∧ (some ⟨g, 0, none⟩ : Option Addr) = some ⟨y, 0, none⟩) w wr)) (fun _ i _ => zs.length - (intOf i).toNat)
  case atStart => exact ⟨0, Nat.zero_le _, rfl, rfl, fun x hx => by have := hr x hx; simpa using this, hfree, Chg.refl _ _⟩
  case round =>
    obtain ⟨j, hj, rfl, rfl, HC, HFR, HCH⟩ := hrel
    by_cases hlt : j < zs.length
    · have c0 := HC.out j hlt
      rw [if_neg (by omega)] at c0
      have fz := HFR.out
      unfold Free at fz
      have hj1 : (0 : Int) ≤ (j : Int) := by omega
      have hj2 : (j : Int) < (zs.length : Int) := by omega
      have HC2 : Hid (∀ (x : Nat) (hx : x < zs.length), (wr.setCell ⟨g, j, none⟩ (.int .i64 ((k : Int) + (j : Int)))).cell? ⟨g, x, none⟩ = some (.int .i64 (if x < j + 1 then ((k + x : Nat) : Int) else zs[x]))) := by
        intro x hx
        by_cases e : x = j
        · subst e
          rw [setS' c0, if_pos (by omega)]; simp
        · rw [setO' (Ne.symm e), HC.out x hx]
          by_cases h2 : x < j
          · rw [if_pos h2, if_pos (by omega)]
          · rw [if_neg h2, if_neg (by omega)]
      have HCH2 : Hid (Chg (fun y => zs ≠ [] ∧ (some ⟨g, 0, none⟩ : Option Addr) = some ⟨y, 0, none⟩) w (wr.setCell ⟨g, j, none⟩ (.int .i64 ((k : Int) + (j : Int))))) := HCH.out.trans (Chg.set _ ⟨HZ.out, rfl⟩)
      have HF2 : Hid (Free (wr.setCell ⟨g, j, none⟩ (.int .i64 ((k : Int) + (j : Int)))) g) := fun y => by simpa using HFR.out y
      go_wp2
      go_roundw
      case rel => exact ⟨j + 1, by omega, by go_num, by go_num, HC2, HF2, HCH2⟩
      case measure => first | (simp [intOf]; done) | (simp [intOf]; omega)
    · obtain rfl : j = zs.length := by omega
      have HS3 : Hid (SlI wr (some ⟨g, 0, none⟩) (mkI k zs)) := .inr ⟨g, 0, rfl, Nat.lt_of_lt_of_le hb HCH.out.size, fun i hi => by
        have h2 : i < zs.length := by rw [mkI_len] at hi; exact hi
        rw [Nat.zero_add, HC.out i h2, if_pos h2, mkI_at]⟩
      go_wp2
      go_ret
      exact ⟨by go_num, HS3.out, HCH.out⟩

set_option maxHeartbeats 2000000 in
theorem markAllowedS_any (ad : Option Addr) (cap : Nat) (xs : List Al) (k : Nat) (w : World) (hs : SlA w ad xs) (hg : xs ≠ [] → ∃ g, ad = some ⟨g, 0, none⟩ ∧ Free w g) (h0 : 0 < k) (h1 : k + 2 * xs.length ≤ 1000000000) :
    Calls Try.prog 32 #[.slice ad xs.length cap, .int .i64 (k : Int)] w fun e w' => e = .returned (.int .i64 ((k + 2 * xs.length : Nat) : Int)) ∧ SlA w' ad (mkA k xs) ∧ Chg (fun g => xs ≠ [] ∧ ad = some ⟨g, 0, none⟩) w w' := by
  by_cases hz : xs = []
  · subst hz
    go_enter Try.func32, Try.ntmps32
    go_wp2
    go_loopw [1, 5] (fun kv i wr => kv = .int .i64 (k : Int) ∧ i = .int .i64 0 ∧ wr = w) (fun _ _ _ => 0)
    case atStart => exact ⟨rfl, rfl, rfl⟩
    case round =>
      obtain ⟨rfl, rfl, rfl⟩ := hrel
      go_wp2
      go_ret
      exact ⟨rfl, .inl rfl, Chg.refl _ _⟩
  obtain ⟨g, rfl, hfree⟩ := hg hz
  rcases hs with h | ⟨b, off, hbo, hb, hr⟩
  · exact absurd h hz
  obtain ⟨rfl, rfl⟩ : g = b ∧ 0 = off := by injection hbo with e; injection e with e1 e2; exact ⟨e1, e2⟩
  have HZ : Hid (xs ≠ []) := hz
  clear hz hbo hg
  go_enter Try.func32, Try.ntmps32
  go_wp2
  go_loopw [1, 5] (fun kv i wr => ∃ j : Nat, j ≤ xs.length ∧ kv = .int .i64 ((k + 2 * j : Nat) : Int) ∧ i = .int .i64 (j : Int) ∧ Hid (∀ (x : Nat) (hx : x < xs.length), At2 wr g (x * 2) (if x < j then ⟨mtx (k + 2 * x), mtx (k + 2 * x + 1)⟩ else xs[x])) ∧ Hid (Free wr g) ∧ Hid (Chg (fun y => xs ≠ [] ∧ (some ⟨g, 0, none⟩ : Option Addr) = some ⟨y, 0, none⟩) w wr)) (fun _ i _ => xs.length - (intOf i).toNat)
  case atStart => exact ⟨0, Nat.zero_le _, rfl, rfl, fun x hx => by have := hr x hx; simpa using this, hfree, Chg.refl _ _⟩
  case round =>
    obtain ⟨j, hj, rfl, rfl, HC, HFR, HCH⟩ := hrel
    by_cases hlt : j < xs.length
    · obtain ⟨c0, c1⟩ := HC.out j hlt
      rw [if_neg (by omega)] at c0 c1
      have hgl : g < wr.heap.size := Nat.lt_of_lt_of_le hb HCH.out.size
      have hj1 : (0 : Int) ≤ (j : Int) := by omega
      have hj2 : (j : Int) < (xs.length : Int) := by omega
      go_wp2_with fail
      refine (markText_at _ (k + 2 * j) _ (by omega) (by omega) (by omega)).mono ?_
      rintro e w1 ⟨rfl, hb1⟩
      have HB1 : Hid (Below wr.heap.size wr w1) := hb1
      replace c0 := kept hb1 hgl c0
      replace c1 := kept hb1 hgl c1
      have fz : ∀ y, w1.frozen? ⟨g, y, none⟩ = false := fun y => keptF hb1 hgl (HFR.out y)
      clear hb1
      obtain ⟨w2, hw2⟩ : ∃ w2, w2 = w1.setCell ⟨g, j * 2, none⟩ (.string (mtx (k + 2 * j))) := ⟨_, rfl⟩
      go_wp2_with fail
      rw [← hw2]
      refine (markText_at _ (k + 2 * j + 1) _ (by omega) (by omega) (by omega)).mono ?_
      rintro e w3 ⟨rfl, hb3⟩
      have hgl2 : g < w2.heap.size := by rw [hw2]; simp only [World.size_setCell]; exact Nat.lt_of_lt_of_le hgl HB1.out.size
      have d0 : w3.cell? ⟨g, j * 2, none⟩ = some (.string (mtx (k + 2 * j))) := kept hb3 hgl2 (by rw [hw2]; exact setS' c0)
      have d1 : w3.cell? ⟨g, j * 2 + 1, none⟩ = some (.string xs[j].s) := kept hb3 hgl2 (by rw [hw2, setO' (by omega)]; exact c1)
      have fz3 : ∀ y, w3.frozen? ⟨g, y, none⟩ = false := fun y => keptF hb3 hgl2 (by rw [hw2]; simpa using fz y)
      have HC3 : Hid (∀ (x : Nat) (hx : x < xs.length), At2 (w3.setCell ⟨g, j * 2 + 1, none⟩ (.string (mtx (k + 2 * j + 1)))) g (x * 2) (if x < j + 1 then ⟨mtx (k + 2 * x), mtx (k + 2 * x + 1)⟩ else xs[x])) := by
        intro x hx
        by_cases e : x = j
        · subst e
          rw [if_pos (by omega)]
          exact ⟨by rw [setO' (by omega)]; exact d0, setS' d1⟩
        · have hx2 := HC.out x hx
          have he : ∀ y, y ≠ j * 2 → y ≠ j * 2 + 1 → (w3.setCell ⟨g, j * 2 + 1, none⟩ (.string (mtx (k + 2 * j + 1)))).cell? ⟨g, y, none⟩ = wr.cell? ⟨g, y, none⟩ := by
            intro y h1 h2
            rw [setO' (Ne.symm h2), hb3.cell (p := ⟨g, y, none⟩) hgl2, hw2, setO' (Ne.symm h1), HB1.out.cell (p := ⟨g, y, none⟩) hgl]
          have e2 : (if x < j + 1 then (⟨mtx (k + 2 * x), mtx (k + 2 * x + 1)⟩ : Al) else xs[x]) = (if x < j then ⟨mtx (k + 2 * x), mtx (k + 2 * x + 1)⟩ else xs[x]) := by
            by_cases h2 : x < j
            · rw [if_pos h2, if_pos (by omega)]
            · rw [if_neg h2, if_neg (by omega)]
          rw [e2]
          exact ⟨by rw [he _ (by omega) (by omega)]; exact hx2.1, by rw [he _ (by omega) (by omega)]; exact hx2.2⟩
      have HCH3 : Hid (Chg (fun y => xs ≠ [] ∧ (some ⟨g, 0, none⟩ : Option Addr) = some ⟨y, 0, none⟩) w (w3.setCell ⟨g, j * 2 + 1, none⟩ (.string (mtx (k + 2 * j + 1))))) := by
        refine (HCH.out.trans ((Chg.of HB1.out).trans ?_)).trans ((Chg.of hb3).trans (Chg.set _ ⟨HZ.out, rfl⟩))
        rw [hw2]
        exact Chg.set _ ⟨HZ.out, rfl⟩
      have HF3 : Hid (Free (w3.setCell ⟨g, j * 2 + 1, none⟩ (.string (mtx (k + 2 * j + 1)))) g) := fun y => by simpa using fz3 y
      clear hb3 hw2 c0 c1 fz
      go_wp2
      go_roundw
      case rel => exact ⟨j + 1, by omega, by go_num, by go_num, HC3, HF3, HCH3⟩
      case measure => first | (simp [intOf]; done) | (simp [intOf]; omega)
    · obtain rfl : j = xs.length := by omega
      have HS3 : Hid (SlA wr (some ⟨g, 0, none⟩) (mkA k xs)) := .inr ⟨g, 0, rfl, Nat.lt_of_lt_of_le hb HCH.out.size, fun i hi => by
        have h2 : i < xs.length := by rw [mkA_len] at hi; exact hi
        have := HC.out i h2
        rw [if_pos h2] at this
        rw [Nat.zero_add, mkA_at]; exact this⟩
      go_wp2
      go_ret
      exact ⟨by go_num, HS3.out, HCH.out⟩

theorem keepA {w w1 w2 : World} {b o : Nat} {u v : Value} (h : w1.cell? ⟨b, o, none⟩ = some u ∧ w1.cell? ⟨b, o + 1, none⟩ = some v ∧ b < w1.heap.size ∧ Below w.heap.size w w1) (hb : Below w1.heap.size w1 w2) : w2.cell? ⟨b, o, none⟩ = some u ∧ w2.cell? ⟨b, o + 1, none⟩ = some v ∧ b < w2.heap.size ∧ Below w.heap.size w w2 :=
  ⟨kept hb h.2.2.1 h.1, kept hb h.2.2.1 h.2.1, Nat.lt_of_lt_of_le h.2.2.1 hb.size, h.2.2.2.trans (hb.mono h.2.2.2.size)⟩

end Go.Proofs.Ytjmbgpdbnffkpaa
