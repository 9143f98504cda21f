/- Proved here: FnOrder answers true for every slice of bytes and leaves it as it was, with no condition on it. -/
import Derived.Test.YtacboillcpollaaPlainOrder
import Derived.Test.YtacboillcpollaaDrawLaw
import Derived.OpenShut
import Derived.ShutString
namespace Go.Proofs.Ytacboillcpollaa.fnOrder
open Go.ChangeShapes Go.WideShapes Go.ChangeAt Go.RowKit
open Pl
set_option linter.unusedVariables false

/-- six cells that hold a tuple -/
def Six (w : World) (n : Nat) (a b r c d s : ByteArray) : Prop := n < w.heap.size ∧ w.cell? ⟨n, 0, none⟩ = some (.string a) ∧ w.cell? ⟨n, 1, none⟩ = some (.string b) ∧ w.cell? ⟨n, 2, none⟩ = some (.string r) ∧ w.cell? ⟨n, 3, none⟩ = some (.string c) ∧ w.cell? ⟨n, 4, none⟩ = some (.string d) ∧ w.cell? ⟨n, 5, none⟩ = some (.string s)
theorem Six.below {w w' : World} {n : Nat} {a b r c d s : ByteArray} (h : Six w n a b r c d s) (hb : Below w.heap.size w w') : Six w' n a b r c d s := by
  obtain ⟨h, h0, h1, h2, h3, h4, h5⟩ := h
  exact ⟨Nat.lt_of_lt_of_le h hb.size, by rw [hb.cell (p := ⟨n, 0, none⟩) h]; exact h0, by rw [hb.cell (p := ⟨n, 1, none⟩) h]; exact h1, by rw [hb.cell (p := ⟨n, 2, none⟩) h]; exact h2, by rw [hb.cell (p := ⟨n, 3, none⟩) h]; exact h3, by rw [hb.cell (p := ⟨n, 4, none⟩) h]; exact h4, by rw [hb.cell (p := ⟨n, 5, none⟩) h]; exact h5⟩
theorem six_new (w : World) (t : TypeId) (a b r c d s : ByteArray) : Six (w.alloc (.cells #[.string a, .string b, .string r, .string c, .string d, .string s] t)) w.heap.size a b r c d s := by
  refine ⟨by simp, ?_, ?_, ?_, ?_, ?_, ?_⟩ <;> simp
theorem le20 {a : ByteArray} (h : a.size ≤ 20) : a.size ≤ maxLen := by unfold maxLen; omega

/-- what the law asks of three tuples -/
structure Ord (a b r c d s a' b' r' c' d' s' a'' b'' r'' c'' d'' s'' : ByteArray) : Prop where
  self : aheadB a b r c d s a b r c d s = false
  both : aheadB a b r c d s a' b' r' c' d' s' = true → aheadB a' b' r' c' d' s' a b r c d s = false
  one : tupB a b r c d s = true → tupB a' b' r' c' d' s' = true → (a = a' ∧ b = b' ∧ r = r' ∧ c = c' ∧ d = d' ∧ s = s') ∨ aheadB a b r c d s a' b' r' c' d' s' = true ∨ aheadB a' b' r' c' d' s' a b r c d s = true
  next : aheadB a b r c d s a' b' r' c' d' s' = true → aheadB a' b' r' c' d' s' a'' b'' r'' c'' d'' s'' = true → aheadB a b r c d s a'' b'' r'' c'' d'' s'' = true

theorem ord (a b r c d s a' b' r' c' d' s' a'' b'' r'' c'' d'' s'' : ByteArray) : Ord a b r c d s a' b' r' c' d' s' a'' b'' r'' c'' d'' s'' where
  self := by simp [aheadB, less_irrefl]
  both h := by
    simp only [aheadB, Bool.and_eq_true] at h
    simp [aheadB, less_asymm _ _ h.2]
  one h h' := by
    by_cases e : tupText a b r c d s = tupText a' b' r' c' d' s'
    · exact .inl (tupText_inj h h' e)
    · refine .inr ?_
      have hne : (tupText a b r c d s).toList ≠ (tupText a' b' r' c' d' s').toList := fun k => e (by
        apply ext_data; rw [Go.ByteArray.toList_eq, Go.ByteArray.toList_eq] at k; exact k)
      rcases less_total _ _ hne with k | k
      · exact .inl (by simp [aheadB, h, h', k])
      · exact .inr (by simp [aheadB, h, h', k])
  next h k := by
    simp only [aheadB, Bool.and_eq_true] at h k ⊢
    exact ⟨⟨h.1.1, k.1.2⟩, less_trans _ _ _ h.2 k.2⟩

theorem text_some {a b r c d s : ByteArray} (h : tupB a b r c d s = true) : (tupText a b r c d s).toList.isEmpty = false := by
  have : 0 < (tupText a b r c d s).size := by
    cases hs : s.toList.isEmpty with
    | true => rw [tupText_one h hs]; simp only [ByteArray.size_append]; have : (⟨#[35]⟩ : ByteArray).size = 1 := rfl; omega
    | false => rw [tupText_two h hs]; simp only [ByteArray.size_append]; have : (⟨#[35]⟩ : ByteArray).size = 1 := rfl; omega
  cases k : (tupText a b r c d s).toList.isEmpty with
  | false => rfl
  | true => have := toList_isEmpty k; omega

theorem ahead_right {a b r c d s a' b' r' c' d' s' : ByteArray} (h : aheadB a b r c d s a' b' r' c' d' s' = true) : tupB a b r c d s = true ∧ tupB a' b' r' c' d' s' = true := by
  simp only [aheadB, Bool.and_eq_true] at h
  exact h.1
theorem ahead_unlike {a b r c d s a' b' r' c' d' s' a'' b'' r'' c'' d'' s'' : ByteArray} (O : Ord a b r c d s a' b' r' c' d' s' a'' b'' r'' c'' d'' s'') (h : aheadB a b r c d s a' b' r' c' d' s' = true) : ¬ (a = a' ∧ b = b' ∧ r = r' ∧ c = c' ∧ d = d' ∧ s = s') := by
  rintro ⟨rfl, rfl, rfl, rfl, rfl, rfl⟩
  rw [O.self] at h; cases h
theorem ahead_unlike' {a b r c d s a' b' r' c' d' s' a'' b'' r'' c'' d'' s'' : ByteArray} (O : Ord a b r c d s a' b' r' c' d' s' a'' b'' r'' c'' d'' s'') (h : aheadB a' b' r' c' d' s' a b r c d s = true) : ¬ (a = a' ∧ b = b' ∧ r = r' ∧ c = c' ∧ d = d' ∧ s = s') := by
  rintro ⟨rfl, rfl, rfl, rfl, rfl, rfl⟩
  rw [O.self] at h; cases h
theorem ahead_same {a b r c d s a' b' r' c' d' s' a'' b'' r'' c'' d'' s'' : ByteArray} (O : Ord a b r c d s a' b' r' c' d' s' a'' b'' r'' c'' d'' s'') (h : tupB a b r c d s = true) (h' : tupB a' b' r' c' d' s' = true) (hx : aheadB a b r c d s a' b' r' c' d' s' = false) (hy : aheadB a' b' r' c' d' s' a b r c d s = false) : a = a' ∧ b = b' ∧ r = r' ∧ c = c' ∧ d = d' ∧ s = s' := by
  rcases O.one h h' with e | e | e
  · exact e
  · rw [hx] at e; cases e
  · rw [hy] at e; cases e

theorem unlike_neq {a b r c d s a' b' r' c' d' s' : ByteArray} (h : ¬ (a = a' ∧ b = b' ∧ r = r' ∧ c = c' ∧ d = d' ∧ s = s')) (w : World) :
    (binOp .neq 27 (.agg #[.string a, .string b, .string r, .string c, .string d, .string s]) (.agg #[.string a', .string b', .string r', .string c', .string d', .string s'])).run Try.prog w = .ok (.bool true) w := by
  have inj : ∀ x y : ByteArray, x.toList = y.toList → x = y := fun x y k => by
    apply ext_data; rw [Go.ByteArray.toList_eq, Go.ByteArray.toList_eq] at k; exact k
  go_simp
  exact fun h1 h2 h3 h4 h5 h6 => h ⟨inj _ _ h1, inj _ _ h2, inj _ _ h3, inj _ _ h4, inj _ _ h5, inj _ _ h6⟩

set_option maxHeartbeats 4000000 in
theorem walk (ad : Option Addr) (len cap : Nat) (w : World) (h : Bytes w ad len) :
    Calls Try.prog 3 #[.slice ad len cap] w fun e w' => e = .returned (.bool true) ∧ Below w.heap.size w w' := by
  have H : Hid (Bytes w ad len) := h
  clear h
  by_cases hb : (1048576 : Int) < (len : Int)
  · go_enter Try.func3, Try.ntmps3
    go_wp2_with (go_at_call 5; refine (big_any _ _ _ _).mono ?_; rintro e w ⟨rfl, rfl⟩)
    go_ret
    exact ⟨rfl, Below.refl _ _⟩
  go_enter Try.func3, Try.ntmps3
  go_wp2_with (first | (go_at_call 5; refine (big_any _ _ _ _).mono ?_; rintro e w ⟨rfl, rfl⟩) | fail)
  refine (drawAhead_any ad len cap _ H.out).mono ?_
  rintro e w1 ⟨⟨a, b, r, c, d, s, a', b', r', c', d', s', rfl, ⟨ha, hb, hr, hc, hd, hs⟩, ⟨ha', hb', hr', hc', hd', hs'⟩⟩, hb1⟩
  have HA1 : Hid (Six (w1.alloc (.cells #[.string a, .string b, .string r, .string c, .string d, .string s] 27)) w1.heap.size a b r c d s) := six_new _ _ _ _ _ _ _ _
  have HB1 : Hid (Six ((w1.alloc (.cells #[.string a, .string b, .string r, .string c, .string d, .string s] 27)).alloc (.cells #[.string a', .string b', .string r', .string c', .string d', .string s'] 27)) (w1.heap.size + 1) a' b' r' c' d' s') := by
    have := six_new (w1.alloc (.cells #[.string a, .string b, .string r, .string c, .string d, .string s] 27)) 27 a' b' r' c' d' s'
    rw [World.size_alloc] at this
    exact this
  have HW1 : Hid (Below w.heap.size w ((w1.alloc (.cells #[.string a, .string b, .string r, .string c, .string d, .string s] 27)).alloc (.cells #[.string a', .string b', .string r', .string c', .string d', .string s'] 27))) := (hb1.alloc hb1.size _).alloc (by have := hb1.size; simp; omega) _
  clear hb1
  go_wp2_with fail
  refine (drawTuple_any ad len cap _ (H.out.below HW1.out)).mono ?_
  rintro e w2 ⟨⟨a'', b'', r'', c'', d'', s'', rfl, ha'', hb'', hr'', hc'', hd'', hs''⟩, hb2⟩
  have HA2 : Hid (Six w2 w1.heap.size a b r c d s) := (HA1.out.below ((Below.refl _ _).alloc (Nat.le_refl _) _)).below hb2
  have HB2 : Hid (Six w2 (w1.heap.size + 1) a' b' r' c' d' s') := HB1.out.below hb2
  have HW2 : Hid (Below w.heap.size w w2) := HW1.out.trans (hb2.mono HW1.out.size)
  clear hb2 HA1 HB1 HW1
  have HA3 : Hid (Six (w2.alloc (.cells #[.string a'', .string b'', .string r'', .string c'', .string d'', .string s''] 27)) w1.heap.size a b r c d s) := HA2.out.below ((Below.refl _ _).alloc (Nat.le_refl _) _)
  have HB3 : Hid (Six (w2.alloc (.cells #[.string a'', .string b'', .string r'', .string c'', .string d'', .string s''] 27)) (w1.heap.size + 1) a' b' r' c' d' s') := HB2.out.below ((Below.refl _ _).alloc (Nat.le_refl _) _)
  have HC3 : Hid (Six (w2.alloc (.cells #[.string a'', .string b'', .string r'', .string c'', .string d'', .string s''] 27)) w2.heap.size a'' b'' r'' c'' d'' s'') := six_new _ _ _ _ _ _ _ _
  have HW3 : Hid (Below w.heap.size w (w2.alloc (.cells #[.string a'', .string b'', .string r'', .string c'', .string d'', .string s''] 27))) := HW2.out.alloc HW2.out.size _
  obtain ⟨-, cA0, cA1, cA2, cA3, cA4, cA5⟩ := HA3.out
  obtain ⟨-, cB0, cB1, cB2, cB3, cB4, cB5⟩ := HB3.out
  obtain ⟨-, cC0, cC1, cC2, cC3, cC4, cC5⟩ := HC3.out
  clear HA2 HB2 HW2
  have O := ord a b r c d s a' b' r' c' d' s' a'' b'' r'' c'' d'' s''
  cases hx : aheadB a b r c d s a' b' r' c' d' s' with
  | true =>
    have hy := O.both hx
    obtain ⟨ta, tb⟩ := ahead_right hx
    have na := text_some ta
    have nb := text_some tb
    have ne := ahead_unlike O hx
    have HE := unlike_neq ne
    cases hz : aheadB a' b' r' c' d' s' a'' b'' r'' c'' d'' s'' with
    | true =>
      have hu := O.next hx hz
      go_wp2_with fail
      refine (implAhead_any a b r c d s a' b' r' c' d' s' _ (le20 ha) (le20 hb) (le20 hr) (le20 hc) (le20 hd) (le20 hs) (le20 ha') (le20 hb') (le20 hr') (le20 hc') (le20 hd') (le20 hs')).mono ?_
      rintro e w4 ⟨he, hb4⟩
      rw [hx] at he
      subst he
      clear cA0 cA1 cA2 cA3 cA4 cA5 cB0 cB1 cB2 cB3 cB4 cB5 cC0 cC1 cC2 cC3 cC4 cC5
      have HA4 : Hid (Six w4 (w1.heap.size) a b r c d s) := HA3.out.below hb4
      have HB4 : Hid (Six w4 (w1.heap.size + 1) a' b' r' c' d' s') := HB3.out.below hb4
      have HC4 : Hid (Six w4 (w2.heap.size) a'' b'' r'' c'' d'' s'') := HC3.out.below hb4
      have HW4 : Hid (Below w.heap.size w w4) := HW3.out.trans (hb4.mono HW3.out.size)
      clear hb4 HA3 HB3 HC3 HW3
      obtain ⟨-, cA0, cA1, cA2, cA3, cA4, cA5⟩ := HA4.out
      obtain ⟨-, cB0, cB1, cB2, cB3, cB4, cB5⟩ := HB4.out
      obtain ⟨-, cC0, cC1, cC2, cC3, cC4, cC5⟩ := HC4.out
      go_wp2_with fail
      refine (implAhead_any a' b' r' c' d' s' a b r c d s _ (le20 ha') (le20 hb') (le20 hr') (le20 hc') (le20 hd') (le20 hs') (le20 ha) (le20 hb) (le20 hr) (le20 hc) (le20 hd) (le20 hs)).mono ?_
      rintro e w5 ⟨he, hb5⟩
      rw [hy] at he
      subst he
      clear cA0 cA1 cA2 cA3 cA4 cA5 cB0 cB1 cB2 cB3 cB4 cB5 cC0 cC1 cC2 cC3 cC4 cC5
      have HA5 : Hid (Six w5 (w1.heap.size) a b r c d s) := HA4.out.below hb5
      have HB5 : Hid (Six w5 (w1.heap.size + 1) a' b' r' c' d' s') := HB4.out.below hb5
      have HC5 : Hid (Six w5 (w2.heap.size) a'' b'' r'' c'' d'' s'') := HC4.out.below hb5
      have HW5 : Hid (Below w.heap.size w w5) := HW4.out.trans (hb5.mono HW4.out.size)
      clear hb5 HA4 HB4 HC4 HW4
      obtain ⟨-, cA0, cA1, cA2, cA3, cA4, cA5⟩ := HA5.out
      obtain ⟨-, cB0, cB1, cB2, cB3, cB4, cB5⟩ := HB5.out
      obtain ⟨-, cC0, cC1, cC2, cC3, cC4, cC5⟩ := HC5.out
      go_wp2_with fail
      refine (specAhead_any a b r c d s a' b' r' c' d' s' _ (le20 ha) (le20 hb) (le20 hr) (le20 hc) (le20 hd) (le20 hs) (le20 ha') (le20 hb') (le20 hr') (le20 hc') (le20 hd') (le20 hs')).mono ?_
      rintro e w6 ⟨he, hb6⟩
      rw [hx] at he
      subst he
      clear cA0 cA1 cA2 cA3 cA4 cA5 cB0 cB1 cB2 cB3 cB4 cB5 cC0 cC1 cC2 cC3 cC4 cC5
      have HA6 : Hid (Six w6 (w1.heap.size) a b r c d s) := HA5.out.below hb6
      have HB6 : Hid (Six w6 (w1.heap.size + 1) a' b' r' c' d' s') := HB5.out.below hb6
      have HC6 : Hid (Six w6 (w2.heap.size) a'' b'' r'' c'' d'' s'') := HC5.out.below hb6
      have HW6 : Hid (Below w.heap.size w w6) := HW5.out.trans (hb6.mono HW5.out.size)
      clear hb6 HA5 HB5 HC5 HW5
      obtain ⟨-, cA0, cA1, cA2, cA3, cA4, cA5⟩ := HA6.out
      obtain ⟨-, cB0, cB1, cB2, cB3, cB4, cB5⟩ := HB6.out
      obtain ⟨-, cC0, cC1, cC2, cC3, cC4, cC5⟩ := HC6.out
      go_wp2_with fail
      refine (implAhead_any a b r c d s a b r c d s _ (le20 ha) (le20 hb) (le20 hr) (le20 hc) (le20 hd) (le20 hs) (le20 ha) (le20 hb) (le20 hr) (le20 hc) (le20 hd) (le20 hs)).mono ?_
      rintro e w7 ⟨he, hb7⟩
      rw [O.self] at he
      subst he
      clear cA0 cA1 cA2 cA3 cA4 cA5 cB0 cB1 cB2 cB3 cB4 cB5 cC0 cC1 cC2 cC3 cC4 cC5
      have HA7 : Hid (Six w7 (w1.heap.size) a b r c d s) := HA6.out.below hb7
      have HB7 : Hid (Six w7 (w1.heap.size + 1) a' b' r' c' d' s') := HB6.out.below hb7
      have HC7 : Hid (Six w7 (w2.heap.size) a'' b'' r'' c'' d'' s'') := HC6.out.below hb7
      have HW7 : Hid (Below w.heap.size w w7) := HW6.out.trans (hb7.mono HW6.out.size)
      clear hb7 HA6 HB6 HC6 HW6
      obtain ⟨-, cA0, cA1, cA2, cA3, cA4, cA5⟩ := HA7.out
      obtain ⟨-, cB0, cB1, cB2, cB3, cB4, cB5⟩ := HB7.out
      obtain ⟨-, cC0, cC1, cC2, cC3, cC4, cC5⟩ := HC7.out
      go_wp2_with fail
      refine (implTupText_any a b r c d s _ (le20 ha) (le20 hb) (le20 hr) (le20 hc) (le20 hd) (le20 hs)).mono ?_
      rintro e w8 ⟨he, hb8⟩
      subst he
      clear cA0 cA1 cA2 cA3 cA4 cA5 cB0 cB1 cB2 cB3 cB4 cB5 cC0 cC1 cC2 cC3 cC4 cC5
      have HA8 : Hid (Six w8 (w1.heap.size) a b r c d s) := HA7.out.below hb8
      have HB8 : Hid (Six w8 (w1.heap.size + 1) a' b' r' c' d' s') := HB7.out.below hb8
      have HC8 : Hid (Six w8 (w2.heap.size) a'' b'' r'' c'' d'' s'') := HC7.out.below hb8
      have HW8 : Hid (Below w.heap.size w w8) := HW7.out.trans (hb8.mono HW7.out.size)
      clear hb8 HA7 HB7 HC7 HW7
      obtain ⟨-, cA0, cA1, cA2, cA3, cA4, cA5⟩ := HA8.out
      obtain ⟨-, cB0, cB1, cB2, cB3, cB4, cB5⟩ := HB8.out
      obtain ⟨-, cC0, cC1, cC2, cC3, cC4, cC5⟩ := HC8.out
      go_wp2_with fail
      refine (implTupText_any a' b' r' c' d' s' _ (le20 ha') (le20 hb') (le20 hr') (le20 hc') (le20 hd') (le20 hs')).mono ?_
      rintro e w9 ⟨he, hb9⟩
      subst he
      clear cA0 cA1 cA2 cA3 cA4 cA5 cB0 cB1 cB2 cB3 cB4 cB5 cC0 cC1 cC2 cC3 cC4 cC5
      have HA9 : Hid (Six w9 (w1.heap.size) a b r c d s) := HA8.out.below hb9
      have HB9 : Hid (Six w9 (w1.heap.size + 1) a' b' r' c' d' s') := HB8.out.below hb9
      have HC9 : Hid (Six w9 (w2.heap.size) a'' b'' r'' c'' d'' s'') := HC8.out.below hb9
      have HW9 : Hid (Below w.heap.size w w9) := HW8.out.trans (hb9.mono HW8.out.size)
      clear hb9 HA8 HB8 HC8 HW8
      obtain ⟨-, cA0, cA1, cA2, cA3, cA4, cA5⟩ := HA9.out
      obtain ⟨-, cB0, cB1, cB2, cB3, cB4, cB5⟩ := HB9.out
      obtain ⟨-, cC0, cC1, cC2, cC3, cC4, cC5⟩ := HC9.out
      go_wp2_with fail
      refine (implAhead_any a' b' r' c' d' s' a'' b'' r'' c'' d'' s'' _ (le20 ha') (le20 hb') (le20 hr') (le20 hc') (le20 hd') (le20 hs') (le20 ha'') (le20 hb'') (le20 hr'') (le20 hc'') (le20 hd'') (le20 hs'')).mono ?_
      rintro e w10 ⟨he, hb10⟩
      rw [hz] at he
      subst he
      clear cA0 cA1 cA2 cA3 cA4 cA5 cB0 cB1 cB2 cB3 cB4 cB5 cC0 cC1 cC2 cC3 cC4 cC5
      have HA10 : Hid (Six w10 (w1.heap.size) a b r c d s) := HA9.out.below hb10
      have HB10 : Hid (Six w10 (w1.heap.size + 1) a' b' r' c' d' s') := HB9.out.below hb10
      have HC10 : Hid (Six w10 (w2.heap.size) a'' b'' r'' c'' d'' s'') := HC9.out.below hb10
      have HW10 : Hid (Below w.heap.size w w10) := HW9.out.trans (hb10.mono HW9.out.size)
      clear hb10 HA9 HB9 HC9 HW9
      obtain ⟨-, cA0, cA1, cA2, cA3, cA4, cA5⟩ := HA10.out
      obtain ⟨-, cB0, cB1, cB2, cB3, cB4, cB5⟩ := HB10.out
      obtain ⟨-, cC0, cC1, cC2, cC3, cC4, cC5⟩ := HC10.out
      go_wp2_with fail
      refine (implAhead_any a b r c d s a'' b'' r'' c'' d'' s'' _ (le20 ha) (le20 hb) (le20 hr) (le20 hc) (le20 hd) (le20 hs) (le20 ha'') (le20 hb'') (le20 hr'') (le20 hc'') (le20 hd'') (le20 hs'')).mono ?_
      rintro e w11 ⟨he, hb11⟩
      rw [hu] at he
      subst he
      clear cA0 cA1 cA2 cA3 cA4 cA5 cB0 cB1 cB2 cB3 cB4 cB5 cC0 cC1 cC2 cC3 cC4 cC5
      have HA11 : Hid (Six w11 (w1.heap.size) a b r c d s) := HA10.out.below hb11
      have HB11 : Hid (Six w11 (w1.heap.size + 1) a' b' r' c' d' s') := HB10.out.below hb11
      have HC11 : Hid (Six w11 (w2.heap.size) a'' b'' r'' c'' d'' s'') := HC10.out.below hb11
      have HW11 : Hid (Below w.heap.size w w11) := HW10.out.trans (hb11.mono HW10.out.size)
      clear hb11 HA10 HB10 HC10 HW10
      obtain ⟨-, cA0, cA1, cA2, cA3, cA4, cA5⟩ := HA11.out
      obtain ⟨-, cB0, cB1, cB2, cB3, cB4, cB5⟩ := HB11.out
      obtain ⟨-, cC0, cC1, cC2, cC3, cC4, cC5⟩ := HC11.out
      go_wp2
      go_ret
      exact ⟨rfl, HW11.out⟩
    | false =>
      go_wp2_with fail
      refine (implAhead_any a b r c d s a' b' r' c' d' s' _ (le20 ha) (le20 hb) (le20 hr) (le20 hc) (le20 hd) (le20 hs) (le20 ha') (le20 hb') (le20 hr') (le20 hc') (le20 hd') (le20 hs')).mono ?_
      rintro e w4 ⟨he, hb4⟩
      rw [hx] at he
      subst he
      clear cA0 cA1 cA2 cA3 cA4 cA5 cB0 cB1 cB2 cB3 cB4 cB5 cC0 cC1 cC2 cC3 cC4 cC5
      have HA4 : Hid (Six w4 (w1.heap.size) a b r c d s) := HA3.out.below hb4
      have HB4 : Hid (Six w4 (w1.heap.size + 1) a' b' r' c' d' s') := HB3.out.below hb4
      have HC4 : Hid (Six w4 (w2.heap.size) a'' b'' r'' c'' d'' s'') := HC3.out.below hb4
      have HW4 : Hid (Below w.heap.size w w4) := HW3.out.trans (hb4.mono HW3.out.size)
      clear hb4 HA3 HB3 HC3 HW3
      obtain ⟨-, cA0, cA1, cA2, cA3, cA4, cA5⟩ := HA4.out
      obtain ⟨-, cB0, cB1, cB2, cB3, cB4, cB5⟩ := HB4.out
      obtain ⟨-, cC0, cC1, cC2, cC3, cC4, cC5⟩ := HC4.out
      go_wp2_with fail
      refine (implAhead_any a' b' r' c' d' s' a b r c d s _ (le20 ha') (le20 hb') (le20 hr') (le20 hc') (le20 hd') (le20 hs') (le20 ha) (le20 hb) (le20 hr) (le20 hc) (le20 hd) (le20 hs)).mono ?_
      rintro e w5 ⟨he, hb5⟩
      rw [hy] at he
      subst he
      clear cA0 cA1 cA2 cA3 cA4 cA5 cB0 cB1 cB2 cB3 cB4 cB5 cC0 cC1 cC2 cC3 cC4 cC5
      have HA5 : Hid (Six w5 (w1.heap.size) a b r c d s) := HA4.out.below hb5
      have HB5 : Hid (Six w5 (w1.heap.size + 1) a' b' r' c' d' s') := HB4.out.below hb5
      have HC5 : Hid (Six w5 (w2.heap.size) a'' b'' r'' c'' d'' s'') := HC4.out.below hb5
      have HW5 : Hid (Below w.heap.size w w5) := HW4.out.trans (hb5.mono HW4.out.size)
      clear hb5 HA4 HB4 HC4 HW4
      obtain ⟨-, cA0, cA1, cA2, cA3, cA4, cA5⟩ := HA5.out
      obtain ⟨-, cB0, cB1, cB2, cB3, cB4, cB5⟩ := HB5.out
      obtain ⟨-, cC0, cC1, cC2, cC3, cC4, cC5⟩ := HC5.out
      go_wp2_with fail
      refine (specAhead_any a b r c d s a' b' r' c' d' s' _ (le20 ha) (le20 hb) (le20 hr) (le20 hc) (le20 hd) (le20 hs) (le20 ha') (le20 hb') (le20 hr') (le20 hc') (le20 hd') (le20 hs')).mono ?_
      rintro e w6 ⟨he, hb6⟩
      rw [hx] at he
      subst he
      clear cA0 cA1 cA2 cA3 cA4 cA5 cB0 cB1 cB2 cB3 cB4 cB5 cC0 cC1 cC2 cC3 cC4 cC5
      have HA6 : Hid (Six w6 (w1.heap.size) a b r c d s) := HA5.out.below hb6
      have HB6 : Hid (Six w6 (w1.heap.size + 1) a' b' r' c' d' s') := HB5.out.below hb6
      have HC6 : Hid (Six w6 (w2.heap.size) a'' b'' r'' c'' d'' s'') := HC5.out.below hb6
      have HW6 : Hid (Below w.heap.size w w6) := HW5.out.trans (hb6.mono HW5.out.size)
      clear hb6 HA5 HB5 HC5 HW5
      obtain ⟨-, cA0, cA1, cA2, cA3, cA4, cA5⟩ := HA6.out
      obtain ⟨-, cB0, cB1, cB2, cB3, cB4, cB5⟩ := HB6.out
      obtain ⟨-, cC0, cC1, cC2, cC3, cC4, cC5⟩ := HC6.out
      go_wp2_with fail
      refine (implAhead_any a b r c d s a b r c d s _ (le20 ha) (le20 hb) (le20 hr) (le20 hc) (le20 hd) (le20 hs) (le20 ha) (le20 hb) (le20 hr) (le20 hc) (le20 hd) (le20 hs)).mono ?_
      rintro e w7 ⟨he, hb7⟩
      rw [O.self] at he
      subst he
      clear cA0 cA1 cA2 cA3 cA4 cA5 cB0 cB1 cB2 cB3 cB4 cB5 cC0 cC1 cC2 cC3 cC4 cC5
      have HA7 : Hid (Six w7 (w1.heap.size) a b r c d s) := HA6.out.below hb7
      have HB7 : Hid (Six w7 (w1.heap.size + 1) a' b' r' c' d' s') := HB6.out.below hb7
      have HC7 : Hid (Six w7 (w2.heap.size) a'' b'' r'' c'' d'' s'') := HC6.out.below hb7
      have HW7 : Hid (Below w.heap.size w w7) := HW6.out.trans (hb7.mono HW6.out.size)
      clear hb7 HA6 HB6 HC6 HW6
      obtain ⟨-, cA0, cA1, cA2, cA3, cA4, cA5⟩ := HA7.out
      obtain ⟨-, cB0, cB1, cB2, cB3, cB4, cB5⟩ := HB7.out
      obtain ⟨-, cC0, cC1, cC2, cC3, cC4, cC5⟩ := HC7.out
      go_wp2_with fail
      refine (implTupText_any a b r c d s _ (le20 ha) (le20 hb) (le20 hr) (le20 hc) (le20 hd) (le20 hs)).mono ?_
      rintro e w8 ⟨he, hb8⟩
      subst he
      clear cA0 cA1 cA2 cA3 cA4 cA5 cB0 cB1 cB2 cB3 cB4 cB5 cC0 cC1 cC2 cC3 cC4 cC5
      have HA8 : Hid (Six w8 (w1.heap.size) a b r c d s) := HA7.out.below hb8
      have HB8 : Hid (Six w8 (w1.heap.size + 1) a' b' r' c' d' s') := HB7.out.below hb8
      have HC8 : Hid (Six w8 (w2.heap.size) a'' b'' r'' c'' d'' s'') := HC7.out.below hb8
      have HW8 : Hid (Below w.heap.size w w8) := HW7.out.trans (hb8.mono HW7.out.size)
      clear hb8 HA7 HB7 HC7 HW7
      obtain ⟨-, cA0, cA1, cA2, cA3, cA4, cA5⟩ := HA8.out
      obtain ⟨-, cB0, cB1, cB2, cB3, cB4, cB5⟩ := HB8.out
      obtain ⟨-, cC0, cC1, cC2, cC3, cC4, cC5⟩ := HC8.out
      go_wp2_with fail
      refine (implTupText_any a' b' r' c' d' s' _ (le20 ha') (le20 hb') (le20 hr') (le20 hc') (le20 hd') (le20 hs')).mono ?_
      rintro e w9 ⟨he, hb9⟩
      subst he
      clear cA0 cA1 cA2 cA3 cA4 cA5 cB0 cB1 cB2 cB3 cB4 cB5 cC0 cC1 cC2 cC3 cC4 cC5
      have HA9 : Hid (Six w9 (w1.heap.size) a b r c d s) := HA8.out.below hb9
      have HB9 : Hid (Six w9 (w1.heap.size + 1) a' b' r' c' d' s') := HB8.out.below hb9
      have HC9 : Hid (Six w9 (w2.heap.size) a'' b'' r'' c'' d'' s'') := HC8.out.below hb9
      have HW9 : Hid (Below w.heap.size w w9) := HW8.out.trans (hb9.mono HW8.out.size)
      clear hb9 HA8 HB8 HC8 HW8
      obtain ⟨-, cA0, cA1, cA2, cA3, cA4, cA5⟩ := HA9.out
      obtain ⟨-, cB0, cB1, cB2, cB3, cB4, cB5⟩ := HB9.out
      obtain ⟨-, cC0, cC1, cC2, cC3, cC4, cC5⟩ := HC9.out
      go_wp2_with fail
      refine (implAhead_any a' b' r' c' d' s' a'' b'' r'' c'' d'' s'' _ (le20 ha') (le20 hb') (le20 hr') (le20 hc') (le20 hd') (le20 hs') (le20 ha'') (le20 hb'') (le20 hr'') (le20 hc'') (le20 hd'') (le20 hs'')).mono ?_
      rintro e w10 ⟨he, hb10⟩
      rw [hz] at he
      subst he
      clear cA0 cA1 cA2 cA3 cA4 cA5 cB0 cB1 cB2 cB3 cB4 cB5 cC0 cC1 cC2 cC3 cC4 cC5
      have HA10 : Hid (Six w10 (w1.heap.size) a b r c d s) := HA9.out.below hb10
      have HB10 : Hid (Six w10 (w1.heap.size + 1) a' b' r' c' d' s') := HB9.out.below hb10
      have HC10 : Hid (Six w10 (w2.heap.size) a'' b'' r'' c'' d'' s'') := HC9.out.below hb10
      have HW10 : Hid (Below w.heap.size w w10) := HW9.out.trans (hb10.mono HW9.out.size)
      clear hb10 HA9 HB9 HC9 HW9
      obtain ⟨-, cA0, cA1, cA2, cA3, cA4, cA5⟩ := HA10.out
      obtain ⟨-, cB0, cB1, cB2, cB3, cB4, cB5⟩ := HB10.out
      obtain ⟨-, cC0, cC1, cC2, cC3, cC4, cC5⟩ := HC10.out
      go_wp2
      go_ret
      exact ⟨rfl, HW10.out⟩
  | false =>
    cases hy : aheadB a' b' r' c' d' s' a b r c d s with
    | true =>
      obtain ⟨tb, ta⟩ := ahead_right hy
      have na := text_some ta
      have nb := text_some tb
      have ne := ahead_unlike' O hy
      have HE := unlike_neq ne
      go_wp2_with fail
      refine (implAhead_any a b r c d s a' b' r' c' d' s' _ (le20 ha) (le20 hb) (le20 hr) (le20 hc) (le20 hd) (le20 hs) (le20 ha') (le20 hb') (le20 hr') (le20 hc') (le20 hd') (le20 hs')).mono ?_
      rintro e w4 ⟨he, hb4⟩
      rw [hx] at he
      subst he
      clear cA0 cA1 cA2 cA3 cA4 cA5 cB0 cB1 cB2 cB3 cB4 cB5 cC0 cC1 cC2 cC3 cC4 cC5
      have HA4 : Hid (Six w4 (w1.heap.size) a b r c d s) := HA3.out.below hb4
      have HB4 : Hid (Six w4 (w1.heap.size + 1) a' b' r' c' d' s') := HB3.out.below hb4
      have HC4 : Hid (Six w4 (w2.heap.size) a'' b'' r'' c'' d'' s'') := HC3.out.below hb4
      have HW4 : Hid (Below w.heap.size w w4) := HW3.out.trans (hb4.mono HW3.out.size)
      clear hb4 HA3 HB3 HC3 HW3
      obtain ⟨-, cA0, cA1, cA2, cA3, cA4, cA5⟩ := HA4.out
      obtain ⟨-, cB0, cB1, cB2, cB3, cB4, cB5⟩ := HB4.out
      obtain ⟨-, cC0, cC1, cC2, cC3, cC4, cC5⟩ := HC4.out
      go_wp2_with fail
      refine (implAhead_any a' b' r' c' d' s' a b r c d s _ (le20 ha') (le20 hb') (le20 hr') (le20 hc') (le20 hd') (le20 hs') (le20 ha) (le20 hb) (le20 hr) (le20 hc) (le20 hd) (le20 hs)).mono ?_
      rintro e w5 ⟨he, hb5⟩
      rw [hy] at he
      subst he
      clear cA0 cA1 cA2 cA3 cA4 cA5 cB0 cB1 cB2 cB3 cB4 cB5 cC0 cC1 cC2 cC3 cC4 cC5
      have HA5 : Hid (Six w5 (w1.heap.size) a b r c d s) := HA4.out.below hb5
      have HB5 : Hid (Six w5 (w1.heap.size + 1) a' b' r' c' d' s') := HB4.out.below hb5
      have HC5 : Hid (Six w5 (w2.heap.size) a'' b'' r'' c'' d'' s'') := HC4.out.below hb5
      have HW5 : Hid (Below w.heap.size w w5) := HW4.out.trans (hb5.mono HW4.out.size)
      clear hb5 HA4 HB4 HC4 HW4
      obtain ⟨-, cA0, cA1, cA2, cA3, cA4, cA5⟩ := HA5.out
      obtain ⟨-, cB0, cB1, cB2, cB3, cB4, cB5⟩ := HB5.out
      obtain ⟨-, cC0, cC1, cC2, cC3, cC4, cC5⟩ := HC5.out
      go_wp2_with fail
      refine (specAhead_any a b r c d s a' b' r' c' d' s' _ (le20 ha) (le20 hb) (le20 hr) (le20 hc) (le20 hd) (le20 hs) (le20 ha') (le20 hb') (le20 hr') (le20 hc') (le20 hd') (le20 hs')).mono ?_
      rintro e w6 ⟨he, hb6⟩
      rw [hx] at he
      subst he
      clear cA0 cA1 cA2 cA3 cA4 cA5 cB0 cB1 cB2 cB3 cB4 cB5 cC0 cC1 cC2 cC3 cC4 cC5
      have HA6 : Hid (Six w6 (w1.heap.size) a b r c d s) := HA5.out.below hb6
      have HB6 : Hid (Six w6 (w1.heap.size + 1) a' b' r' c' d' s') := HB5.out.below hb6
      have HC6 : Hid (Six w6 (w2.heap.size) a'' b'' r'' c'' d'' s'') := HC5.out.below hb6
      have HW6 : Hid (Below w.heap.size w w6) := HW5.out.trans (hb6.mono HW5.out.size)
      clear hb6 HA5 HB5 HC5 HW5
      obtain ⟨-, cA0, cA1, cA2, cA3, cA4, cA5⟩ := HA6.out
      obtain ⟨-, cB0, cB1, cB2, cB3, cB4, cB5⟩ := HB6.out
      obtain ⟨-, cC0, cC1, cC2, cC3, cC4, cC5⟩ := HC6.out
      go_wp2_with fail
      refine (implAhead_any a b r c d s a b r c d s _ (le20 ha) (le20 hb) (le20 hr) (le20 hc) (le20 hd) (le20 hs) (le20 ha) (le20 hb) (le20 hr) (le20 hc) (le20 hd) (le20 hs)).mono ?_
      rintro e w7 ⟨he, hb7⟩
      rw [O.self] at he
      subst he
      clear cA0 cA1 cA2 cA3 cA4 cA5 cB0 cB1 cB2 cB3 cB4 cB5 cC0 cC1 cC2 cC3 cC4 cC5
      have HA7 : Hid (Six w7 (w1.heap.size) a b r c d s) := HA6.out.below hb7
      have HB7 : Hid (Six w7 (w1.heap.size + 1) a' b' r' c' d' s') := HB6.out.below hb7
      have HC7 : Hid (Six w7 (w2.heap.size) a'' b'' r'' c'' d'' s'') := HC6.out.below hb7
      have HW7 : Hid (Below w.heap.size w w7) := HW6.out.trans (hb7.mono HW6.out.size)
      clear hb7 HA6 HB6 HC6 HW6
      obtain ⟨-, cA0, cA1, cA2, cA3, cA4, cA5⟩ := HA7.out
      obtain ⟨-, cB0, cB1, cB2, cB3, cB4, cB5⟩ := HB7.out
      obtain ⟨-, cC0, cC1, cC2, cC3, cC4, cC5⟩ := HC7.out
      go_wp2_with fail
      refine (implTupText_any a b r c d s _ (le20 ha) (le20 hb) (le20 hr) (le20 hc) (le20 hd) (le20 hs)).mono ?_
      rintro e w8 ⟨he, hb8⟩
      subst he
      clear cA0 cA1 cA2 cA3 cA4 cA5 cB0 cB1 cB2 cB3 cB4 cB5 cC0 cC1 cC2 cC3 cC4 cC5
      have HA8 : Hid (Six w8 (w1.heap.size) a b r c d s) := HA7.out.below hb8
      have HB8 : Hid (Six w8 (w1.heap.size + 1) a' b' r' c' d' s') := HB7.out.below hb8
      have HC8 : Hid (Six w8 (w2.heap.size) a'' b'' r'' c'' d'' s'') := HC7.out.below hb8
      have HW8 : Hid (Below w.heap.size w w8) := HW7.out.trans (hb8.mono HW7.out.size)
      clear hb8 HA7 HB7 HC7 HW7
      obtain ⟨-, cA0, cA1, cA2, cA3, cA4, cA5⟩ := HA8.out
      obtain ⟨-, cB0, cB1, cB2, cB3, cB4, cB5⟩ := HB8.out
      obtain ⟨-, cC0, cC1, cC2, cC3, cC4, cC5⟩ := HC8.out
      go_wp2_with fail
      refine (implTupText_any a' b' r' c' d' s' _ (le20 ha') (le20 hb') (le20 hr') (le20 hc') (le20 hd') (le20 hs')).mono ?_
      rintro e w9 ⟨he, hb9⟩
      subst he
      clear cA0 cA1 cA2 cA3 cA4 cA5 cB0 cB1 cB2 cB3 cB4 cB5 cC0 cC1 cC2 cC3 cC4 cC5
      have HA9 : Hid (Six w9 (w1.heap.size) a b r c d s) := HA8.out.below hb9
      have HB9 : Hid (Six w9 (w1.heap.size + 1) a' b' r' c' d' s') := HB8.out.below hb9
      have HC9 : Hid (Six w9 (w2.heap.size) a'' b'' r'' c'' d'' s'') := HC8.out.below hb9
      have HW9 : Hid (Below w.heap.size w w9) := HW8.out.trans (hb9.mono HW8.out.size)
      clear hb9 HA8 HB8 HC8 HW8
      obtain ⟨-, cA0, cA1, cA2, cA3, cA4, cA5⟩ := HA9.out
      obtain ⟨-, cB0, cB1, cB2, cB3, cB4, cB5⟩ := HB9.out
      obtain ⟨-, cC0, cC1, cC2, cC3, cC4, cC5⟩ := HC9.out
      go_wp2
      go_ret
      exact ⟨rfl, HW9.out⟩
    | false =>
      cases ta : tupB a b r c d s with
      | false =>
        have na := tupText_no ta
        go_wp2_with fail
        refine (implAhead_any a b r c d s a' b' r' c' d' s' _ (le20 ha) (le20 hb) (le20 hr) (le20 hc) (le20 hd) (le20 hs) (le20 ha') (le20 hb') (le20 hr') (le20 hc') (le20 hd') (le20 hs')).mono ?_
        rintro e w4 ⟨he, hb4⟩
        rw [hx] at he
        subst he
        clear cA0 cA1 cA2 cA3 cA4 cA5 cB0 cB1 cB2 cB3 cB4 cB5 cC0 cC1 cC2 cC3 cC4 cC5
        have HA4 : Hid (Six w4 (w1.heap.size) a b r c d s) := HA3.out.below hb4
        have HB4 : Hid (Six w4 (w1.heap.size + 1) a' b' r' c' d' s') := HB3.out.below hb4
        have HC4 : Hid (Six w4 (w2.heap.size) a'' b'' r'' c'' d'' s'') := HC3.out.below hb4
        have HW4 : Hid (Below w.heap.size w w4) := HW3.out.trans (hb4.mono HW3.out.size)
        clear hb4 HA3 HB3 HC3 HW3
        obtain ⟨-, cA0, cA1, cA2, cA3, cA4, cA5⟩ := HA4.out
        obtain ⟨-, cB0, cB1, cB2, cB3, cB4, cB5⟩ := HB4.out
        obtain ⟨-, cC0, cC1, cC2, cC3, cC4, cC5⟩ := HC4.out
        go_wp2_with fail
        refine (implAhead_any a' b' r' c' d' s' a b r c d s _ (le20 ha') (le20 hb') (le20 hr') (le20 hc') (le20 hd') (le20 hs') (le20 ha) (le20 hb) (le20 hr) (le20 hc) (le20 hd) (le20 hs)).mono ?_
        rintro e w5 ⟨he, hb5⟩
        rw [hy] at he
        subst he
        clear cA0 cA1 cA2 cA3 cA4 cA5 cB0 cB1 cB2 cB3 cB4 cB5 cC0 cC1 cC2 cC3 cC4 cC5
        have HA5 : Hid (Six w5 (w1.heap.size) a b r c d s) := HA4.out.below hb5
        have HB5 : Hid (Six w5 (w1.heap.size + 1) a' b' r' c' d' s') := HB4.out.below hb5
        have HC5 : Hid (Six w5 (w2.heap.size) a'' b'' r'' c'' d'' s'') := HC4.out.below hb5
        have HW5 : Hid (Below w.heap.size w w5) := HW4.out.trans (hb5.mono HW4.out.size)
        clear hb5 HA4 HB4 HC4 HW4
        obtain ⟨-, cA0, cA1, cA2, cA3, cA4, cA5⟩ := HA5.out
        obtain ⟨-, cB0, cB1, cB2, cB3, cB4, cB5⟩ := HB5.out
        obtain ⟨-, cC0, cC1, cC2, cC3, cC4, cC5⟩ := HC5.out
        go_wp2_with fail
        refine (specAhead_any a b r c d s a' b' r' c' d' s' _ (le20 ha) (le20 hb) (le20 hr) (le20 hc) (le20 hd) (le20 hs) (le20 ha') (le20 hb') (le20 hr') (le20 hc') (le20 hd') (le20 hs')).mono ?_
        rintro e w6 ⟨he, hb6⟩
        rw [hx] at he
        subst he
        clear cA0 cA1 cA2 cA3 cA4 cA5 cB0 cB1 cB2 cB3 cB4 cB5 cC0 cC1 cC2 cC3 cC4 cC5
        have HA6 : Hid (Six w6 (w1.heap.size) a b r c d s) := HA5.out.below hb6
        have HB6 : Hid (Six w6 (w1.heap.size + 1) a' b' r' c' d' s') := HB5.out.below hb6
        have HC6 : Hid (Six w6 (w2.heap.size) a'' b'' r'' c'' d'' s'') := HC5.out.below hb6
        have HW6 : Hid (Below w.heap.size w w6) := HW5.out.trans (hb6.mono HW5.out.size)
        clear hb6 HA5 HB5 HC5 HW5
        obtain ⟨-, cA0, cA1, cA2, cA3, cA4, cA5⟩ := HA6.out
        obtain ⟨-, cB0, cB1, cB2, cB3, cB4, cB5⟩ := HB6.out
        obtain ⟨-, cC0, cC1, cC2, cC3, cC4, cC5⟩ := HC6.out
        go_wp2_with fail
        refine (implAhead_any a b r c d s a b r c d s _ (le20 ha) (le20 hb) (le20 hr) (le20 hc) (le20 hd) (le20 hs) (le20 ha) (le20 hb) (le20 hr) (le20 hc) (le20 hd) (le20 hs)).mono ?_
        rintro e w7 ⟨he, hb7⟩
        rw [O.self] at he
        subst he
        clear cA0 cA1 cA2 cA3 cA4 cA5 cB0 cB1 cB2 cB3 cB4 cB5 cC0 cC1 cC2 cC3 cC4 cC5
        have HA7 : Hid (Six w7 (w1.heap.size) a b r c d s) := HA6.out.below hb7
        have HB7 : Hid (Six w7 (w1.heap.size + 1) a' b' r' c' d' s') := HB6.out.below hb7
        have HC7 : Hid (Six w7 (w2.heap.size) a'' b'' r'' c'' d'' s'') := HC6.out.below hb7
        have HW7 : Hid (Below w.heap.size w w7) := HW6.out.trans (hb7.mono HW6.out.size)
        clear hb7 HA6 HB6 HC6 HW6
        obtain ⟨-, cA0, cA1, cA2, cA3, cA4, cA5⟩ := HA7.out
        obtain ⟨-, cB0, cB1, cB2, cB3, cB4, cB5⟩ := HB7.out
        obtain ⟨-, cC0, cC1, cC2, cC3, cC4, cC5⟩ := HC7.out
        go_wp2_with fail
        refine (implTupText_any a b r c d s _ (le20 ha) (le20 hb) (le20 hr) (le20 hc) (le20 hd) (le20 hs)).mono ?_
        rintro e w8 ⟨he, hb8⟩
        rw [na] at he
        subst he
        clear cA0 cA1 cA2 cA3 cA4 cA5 cB0 cB1 cB2 cB3 cB4 cB5 cC0 cC1 cC2 cC3 cC4 cC5
        have HA8 : Hid (Six w8 (w1.heap.size) a b r c d s) := HA7.out.below hb8
        have HB8 : Hid (Six w8 (w1.heap.size + 1) a' b' r' c' d' s') := HB7.out.below hb8
        have HC8 : Hid (Six w8 (w2.heap.size) a'' b'' r'' c'' d'' s'') := HC7.out.below hb8
        have HW8 : Hid (Below w.heap.size w w8) := HW7.out.trans (hb8.mono HW7.out.size)
        clear hb8 HA7 HB7 HC7 HW7
        obtain ⟨-, cA0, cA1, cA2, cA3, cA4, cA5⟩ := HA8.out
        obtain ⟨-, cB0, cB1, cB2, cB3, cB4, cB5⟩ := HB8.out
        obtain ⟨-, cC0, cC1, cC2, cC3, cC4, cC5⟩ := HC8.out
        go_wp2
        go_ret
        exact ⟨rfl, HW8.out⟩
      | true =>
        have na := text_some ta
        cases tb : tupB a' b' r' c' d' s' with
        | false =>
          have nb := tupText_no tb
          go_wp2_with fail
          refine (implAhead_any a b r c d s a' b' r' c' d' s' _ (le20 ha) (le20 hb) (le20 hr) (le20 hc) (le20 hd) (le20 hs) (le20 ha') (le20 hb') (le20 hr') (le20 hc') (le20 hd') (le20 hs')).mono ?_
          rintro e w4 ⟨he, hb4⟩
          rw [hx] at he
          subst he
          clear cA0 cA1 cA2 cA3 cA4 cA5 cB0 cB1 cB2 cB3 cB4 cB5 cC0 cC1 cC2 cC3 cC4 cC5
          have HA4 : Hid (Six w4 (w1.heap.size) a b r c d s) := HA3.out.below hb4
          have HB4 : Hid (Six w4 (w1.heap.size + 1) a' b' r' c' d' s') := HB3.out.below hb4
          have HC4 : Hid (Six w4 (w2.heap.size) a'' b'' r'' c'' d'' s'') := HC3.out.below hb4
          have HW4 : Hid (Below w.heap.size w w4) := HW3.out.trans (hb4.mono HW3.out.size)
          clear hb4 HA3 HB3 HC3 HW3
          obtain ⟨-, cA0, cA1, cA2, cA3, cA4, cA5⟩ := HA4.out
          obtain ⟨-, cB0, cB1, cB2, cB3, cB4, cB5⟩ := HB4.out
          obtain ⟨-, cC0, cC1, cC2, cC3, cC4, cC5⟩ := HC4.out
          go_wp2_with fail
          refine (implAhead_any a' b' r' c' d' s' a b r c d s _ (le20 ha') (le20 hb') (le20 hr') (le20 hc') (le20 hd') (le20 hs') (le20 ha) (le20 hb) (le20 hr) (le20 hc) (le20 hd) (le20 hs)).mono ?_
          rintro e w5 ⟨he, hb5⟩
          rw [hy] at he
          subst he
          clear cA0 cA1 cA2 cA3 cA4 cA5 cB0 cB1 cB2 cB3 cB4 cB5 cC0 cC1 cC2 cC3 cC4 cC5
          have HA5 : Hid (Six w5 (w1.heap.size) a b r c d s) := HA4.out.below hb5
          have HB5 : Hid (Six w5 (w1.heap.size + 1) a' b' r' c' d' s') := HB4.out.below hb5
          have HC5 : Hid (Six w5 (w2.heap.size) a'' b'' r'' c'' d'' s'') := HC4.out.below hb5
          have HW5 : Hid (Below w.heap.size w w5) := HW4.out.trans (hb5.mono HW4.out.size)
          clear hb5 HA4 HB4 HC4 HW4
          obtain ⟨-, cA0, cA1, cA2, cA3, cA4, cA5⟩ := HA5.out
          obtain ⟨-, cB0, cB1, cB2, cB3, cB4, cB5⟩ := HB5.out
          obtain ⟨-, cC0, cC1, cC2, cC3, cC4, cC5⟩ := HC5.out
          go_wp2_with fail
          refine (specAhead_any a b r c d s a' b' r' c' d' s' _ (le20 ha) (le20 hb) (le20 hr) (le20 hc) (le20 hd) (le20 hs) (le20 ha') (le20 hb') (le20 hr') (le20 hc') (le20 hd') (le20 hs')).mono ?_
          rintro e w6 ⟨he, hb6⟩
          rw [hx] at he
          subst he
          clear cA0 cA1 cA2 cA3 cA4 cA5 cB0 cB1 cB2 cB3 cB4 cB5 cC0 cC1 cC2 cC3 cC4 cC5
          have HA6 : Hid (Six w6 (w1.heap.size) a b r c d s) := HA5.out.below hb6
          have HB6 : Hid (Six w6 (w1.heap.size + 1) a' b' r' c' d' s') := HB5.out.below hb6
          have HC6 : Hid (Six w6 (w2.heap.size) a'' b'' r'' c'' d'' s'') := HC5.out.below hb6
          have HW6 : Hid (Below w.heap.size w w6) := HW5.out.trans (hb6.mono HW5.out.size)
          clear hb6 HA5 HB5 HC5 HW5
          obtain ⟨-, cA0, cA1, cA2, cA3, cA4, cA5⟩ := HA6.out
          obtain ⟨-, cB0, cB1, cB2, cB3, cB4, cB5⟩ := HB6.out
          obtain ⟨-, cC0, cC1, cC2, cC3, cC4, cC5⟩ := HC6.out
          go_wp2_with fail
          refine (implAhead_any a b r c d s a b r c d s _ (le20 ha) (le20 hb) (le20 hr) (le20 hc) (le20 hd) (le20 hs) (le20 ha) (le20 hb) (le20 hr) (le20 hc) (le20 hd) (le20 hs)).mono ?_
          rintro e w7 ⟨he, hb7⟩
          rw [O.self] at he
          subst he
          clear cA0 cA1 cA2 cA3 cA4 cA5 cB0 cB1 cB2 cB3 cB4 cB5 cC0 cC1 cC2 cC3 cC4 cC5
          have HA7 : Hid (Six w7 (w1.heap.size) a b r c d s) := HA6.out.below hb7
          have HB7 : Hid (Six w7 (w1.heap.size + 1) a' b' r' c' d' s') := HB6.out.below hb7
          have HC7 : Hid (Six w7 (w2.heap.size) a'' b'' r'' c'' d'' s'') := HC6.out.below hb7
          have HW7 : Hid (Below w.heap.size w w7) := HW6.out.trans (hb7.mono HW6.out.size)
          clear hb7 HA6 HB6 HC6 HW6
          obtain ⟨-, cA0, cA1, cA2, cA3, cA4, cA5⟩ := HA7.out
          obtain ⟨-, cB0, cB1, cB2, cB3, cB4, cB5⟩ := HB7.out
          obtain ⟨-, cC0, cC1, cC2, cC3, cC4, cC5⟩ := HC7.out
          go_wp2_with fail
          refine (implTupText_any a b r c d s _ (le20 ha) (le20 hb) (le20 hr) (le20 hc) (le20 hd) (le20 hs)).mono ?_
          rintro e w8 ⟨he, hb8⟩
          subst he
          clear cA0 cA1 cA2 cA3 cA4 cA5 cB0 cB1 cB2 cB3 cB4 cB5 cC0 cC1 cC2 cC3 cC4 cC5
          have HA8 : Hid (Six w8 (w1.heap.size) a b r c d s) := HA7.out.below hb8
          have HB8 : Hid (Six w8 (w1.heap.size + 1) a' b' r' c' d' s') := HB7.out.below hb8
          have HC8 : Hid (Six w8 (w2.heap.size) a'' b'' r'' c'' d'' s'') := HC7.out.below hb8
          have HW8 : Hid (Below w.heap.size w w8) := HW7.out.trans (hb8.mono HW7.out.size)
          clear hb8 HA7 HB7 HC7 HW7
          obtain ⟨-, cA0, cA1, cA2, cA3, cA4, cA5⟩ := HA8.out
          obtain ⟨-, cB0, cB1, cB2, cB3, cB4, cB5⟩ := HB8.out
          obtain ⟨-, cC0, cC1, cC2, cC3, cC4, cC5⟩ := HC8.out
          go_wp2_with fail
          refine (implTupText_any a' b' r' c' d' s' _ (le20 ha') (le20 hb') (le20 hr') (le20 hc') (le20 hd') (le20 hs')).mono ?_
          rintro e w9 ⟨he, hb9⟩
          rw [nb] at he
          subst he
          clear cA0 cA1 cA2 cA3 cA4 cA5 cB0 cB1 cB2 cB3 cB4 cB5 cC0 cC1 cC2 cC3 cC4 cC5
          have HA9 : Hid (Six w9 (w1.heap.size) a b r c d s) := HA8.out.below hb9
          have HB9 : Hid (Six w9 (w1.heap.size + 1) a' b' r' c' d' s') := HB8.out.below hb9
          have HC9 : Hid (Six w9 (w2.heap.size) a'' b'' r'' c'' d'' s'') := HC8.out.below hb9
          have HW9 : Hid (Below w.heap.size w w9) := HW8.out.trans (hb9.mono HW8.out.size)
          clear hb9 HA8 HB8 HC8 HW8
          obtain ⟨-, cA0, cA1, cA2, cA3, cA4, cA5⟩ := HA9.out
          obtain ⟨-, cB0, cB1, cB2, cB3, cB4, cB5⟩ := HB9.out
          obtain ⟨-, cC0, cC1, cC2, cC3, cC4, cC5⟩ := HC9.out
          go_wp2
          go_ret
          exact ⟨rfl, HW9.out⟩
        | true =>
          have nb := text_some tb
          obtain ⟨rfl, rfl, rfl, rfl, rfl, rfl⟩ := ahead_same O ta tb hx hy
          go_wp2_with fail
          refine (implAhead_any a b r c d s a b r c d s _ (le20 ha) (le20 hb) (le20 hr) (le20 hc) (le20 hd) (le20 hs) (le20 ha) (le20 hb) (le20 hr) (le20 hc) (le20 hd) (le20 hs)).mono ?_
          rintro e w4 ⟨he, hb4⟩
          rw [hx] at he
          subst he
          clear cA0 cA1 cA2 cA3 cA4 cA5 cB0 cB1 cB2 cB3 cB4 cB5 cC0 cC1 cC2 cC3 cC4 cC5
          have HA4 : Hid (Six w4 (w1.heap.size) a b r c d s) := HA3.out.below hb4
          have HB4 : Hid (Six w4 (w1.heap.size + 1) a b r c d s) := HB3.out.below hb4
          have HC4 : Hid (Six w4 (w2.heap.size) a'' b'' r'' c'' d'' s'') := HC3.out.below hb4
          have HW4 : Hid (Below w.heap.size w w4) := HW3.out.trans (hb4.mono HW3.out.size)
          clear hb4 HA3 HB3 HC3 HW3
          obtain ⟨-, cA0, cA1, cA2, cA3, cA4, cA5⟩ := HA4.out
          obtain ⟨-, cB0, cB1, cB2, cB3, cB4, cB5⟩ := HB4.out
          obtain ⟨-, cC0, cC1, cC2, cC3, cC4, cC5⟩ := HC4.out
          go_wp2_with fail
          refine (implAhead_any a b r c d s a b r c d s _ (le20 ha) (le20 hb) (le20 hr) (le20 hc) (le20 hd) (le20 hs) (le20 ha) (le20 hb) (le20 hr) (le20 hc) (le20 hd) (le20 hs)).mono ?_
          rintro e w5 ⟨he, hb5⟩
          rw [hy] at he
          subst he
          clear cA0 cA1 cA2 cA3 cA4 cA5 cB0 cB1 cB2 cB3 cB4 cB5 cC0 cC1 cC2 cC3 cC4 cC5
          have HA5 : Hid (Six w5 (w1.heap.size) a b r c d s) := HA4.out.below hb5
          have HB5 : Hid (Six w5 (w1.heap.size + 1) a b r c d s) := HB4.out.below hb5
          have HC5 : Hid (Six w5 (w2.heap.size) a'' b'' r'' c'' d'' s'') := HC4.out.below hb5
          have HW5 : Hid (Below w.heap.size w w5) := HW4.out.trans (hb5.mono HW4.out.size)
          clear hb5 HA4 HB4 HC4 HW4
          obtain ⟨-, cA0, cA1, cA2, cA3, cA4, cA5⟩ := HA5.out
          obtain ⟨-, cB0, cB1, cB2, cB3, cB4, cB5⟩ := HB5.out
          obtain ⟨-, cC0, cC1, cC2, cC3, cC4, cC5⟩ := HC5.out
          go_wp2_with fail
          refine (specAhead_any a b r c d s a b r c d s _ (le20 ha) (le20 hb) (le20 hr) (le20 hc) (le20 hd) (le20 hs) (le20 ha) (le20 hb) (le20 hr) (le20 hc) (le20 hd) (le20 hs)).mono ?_
          rintro e w6 ⟨he, hb6⟩
          rw [hx] at he
          subst he
          clear cA0 cA1 cA2 cA3 cA4 cA5 cB0 cB1 cB2 cB3 cB4 cB5 cC0 cC1 cC2 cC3 cC4 cC5
          have HA6 : Hid (Six w6 (w1.heap.size) a b r c d s) := HA5.out.below hb6
          have HB6 : Hid (Six w6 (w1.heap.size + 1) a b r c d s) := HB5.out.below hb6
          have HC6 : Hid (Six w6 (w2.heap.size) a'' b'' r'' c'' d'' s'') := HC5.out.below hb6
          have HW6 : Hid (Below w.heap.size w w6) := HW5.out.trans (hb6.mono HW5.out.size)
          clear hb6 HA5 HB5 HC5 HW5
          obtain ⟨-, cA0, cA1, cA2, cA3, cA4, cA5⟩ := HA6.out
          obtain ⟨-, cB0, cB1, cB2, cB3, cB4, cB5⟩ := HB6.out
          obtain ⟨-, cC0, cC1, cC2, cC3, cC4, cC5⟩ := HC6.out
          go_wp2_with fail
          refine (implAhead_any a b r c d s a b r c d s _ (le20 ha) (le20 hb) (le20 hr) (le20 hc) (le20 hd) (le20 hs) (le20 ha) (le20 hb) (le20 hr) (le20 hc) (le20 hd) (le20 hs)).mono ?_
          rintro e w7 ⟨he, hb7⟩
          rw [O.self] at he
          subst he
          clear cA0 cA1 cA2 cA3 cA4 cA5 cB0 cB1 cB2 cB3 cB4 cB5 cC0 cC1 cC2 cC3 cC4 cC5
          have HA7 : Hid (Six w7 (w1.heap.size) a b r c d s) := HA6.out.below hb7
          have HB7 : Hid (Six w7 (w1.heap.size + 1) a b r c d s) := HB6.out.below hb7
          have HC7 : Hid (Six w7 (w2.heap.size) a'' b'' r'' c'' d'' s'') := HC6.out.below hb7
          have HW7 : Hid (Below w.heap.size w w7) := HW6.out.trans (hb7.mono HW6.out.size)
          clear hb7 HA6 HB6 HC6 HW6
          obtain ⟨-, cA0, cA1, cA2, cA3, cA4, cA5⟩ := HA7.out
          obtain ⟨-, cB0, cB1, cB2, cB3, cB4, cB5⟩ := HB7.out
          obtain ⟨-, cC0, cC1, cC2, cC3, cC4, cC5⟩ := HC7.out
          go_wp2_with fail
          refine (implTupText_any a b r c d s _ (le20 ha) (le20 hb) (le20 hr) (le20 hc) (le20 hd) (le20 hs)).mono ?_
          rintro e w8 ⟨he, hb8⟩
          subst he
          clear cA0 cA1 cA2 cA3 cA4 cA5 cB0 cB1 cB2 cB3 cB4 cB5 cC0 cC1 cC2 cC3 cC4 cC5
          have HA8 : Hid (Six w8 (w1.heap.size) a b r c d s) := HA7.out.below hb8
          have HB8 : Hid (Six w8 (w1.heap.size + 1) a b r c d s) := HB7.out.below hb8
          have HC8 : Hid (Six w8 (w2.heap.size) a'' b'' r'' c'' d'' s'') := HC7.out.below hb8
          have HW8 : Hid (Below w.heap.size w w8) := HW7.out.trans (hb8.mono HW7.out.size)
          clear hb8 HA7 HB7 HC7 HW7
          obtain ⟨-, cA0, cA1, cA2, cA3, cA4, cA5⟩ := HA8.out
          obtain ⟨-, cB0, cB1, cB2, cB3, cB4, cB5⟩ := HB8.out
          obtain ⟨-, cC0, cC1, cC2, cC3, cC4, cC5⟩ := HC8.out
          go_wp2_with fail
          refine (implTupText_any a b r c d s _ (le20 ha) (le20 hb) (le20 hr) (le20 hc) (le20 hd) (le20 hs)).mono ?_
          rintro e w9 ⟨he, hb9⟩
          subst he
          clear cA0 cA1 cA2 cA3 cA4 cA5 cB0 cB1 cB2 cB3 cB4 cB5 cC0 cC1 cC2 cC3 cC4 cC5
          have HA9 : Hid (Six w9 (w1.heap.size) a b r c d s) := HA8.out.below hb9
          have HB9 : Hid (Six w9 (w1.heap.size + 1) a b r c d s) := HB8.out.below hb9
          have HC9 : Hid (Six w9 (w2.heap.size) a'' b'' r'' c'' d'' s'') := HC8.out.below hb9
          have HW9 : Hid (Below w.heap.size w w9) := HW8.out.trans (hb9.mono HW8.out.size)
          clear hb9 HA8 HB8 HC8 HW8
          obtain ⟨-, cA0, cA1, cA2, cA3, cA4, cA5⟩ := HA9.out
          obtain ⟨-, cB0, cB1, cB2, cB3, cB4, cB5⟩ := HB9.out
          obtain ⟨-, cC0, cC1, cC2, cC3, cC4, cC5⟩ := HC9.out
          go_wp2
          go_ret
          exact ⟨rfl, HW9.out⟩
theorem own : ownKnob Try.prog.godebug = none := by kernel_rfl
theorem laidOut : laidOutB Try.prog = true := by kernel_rfl

set_option maxRecDepth 100000 in
theorem lifted (os : Os) (started : os.Started) (H : Type) (enc : TypeId × Value → H) :
    ReturnsInHanded {} Try.checked os 3 .any (Rows.fnOrderSpec.pre6 enc Try.prog Try.f3 Rows.fnOrderRow.domain false) (Rows.fnOrderSpec.post enc Try.prog Try.f3 false true false false) := by
  refine returnsInHanded_of_change (C := Try.checked) own started (by kernel_rfl) Try.func3
    (ChangeSpec.witness6 (enc := enc) (C := Try.checked) false ⟨#[], #[.slice none 0 0], []⟩ 8 (by kernel_rfl) (by kernel_rfl) (by kernel_rfl) (by kernel_rfl)) ?_
  intro W base args ds gs before hval0 hW hcnd _
  have hval : ∀ (j : Nat) t v, Try.f3.params[j]? = some t → args[j]? = some v → Value.okWide Try.prog W .any base t v := hval0
  have hW' := hW
  obtain ⟨p, q, hA0, hV, rfl, hfz, hnd⟩ := hW
  have hA : DataW.TrodAll enc Try.prog W 0 (fun _ => true) true Try.f3.params.toList args.toList ds p := hA0
  rw [Try.params3] at hA hval
  obtain ⟨v0, vs0, d0, ds0, p0, q0, hargs, rfl, rfl, h0, r0⟩ := trodAll_cons hA
  obtain ⟨rfl, rfl, rfl⟩ := trodAll_nil r0
  obtain rfl : args = #[v0] := by cases args; simp_all
  obtain ⟨rfl, rfl⟩ := trodVars_none hV
  have k0 := h0
  have lt0 : ∀ x ∈ p0, x.block < W.heap.size := by obtain ⟨m, hm⟩ := k0; exact DataW.trod_lt m _ _ _ hm
  obtain ⟨ad0, len0, cap0, hv0⟩ := okWide_slice Try.underlying22 (hval 0 22 v0 rfl rfl)
  subst hv0
  obtain ⟨fuel0, hf0⟩ := h0
  have hby0 := open_bytes (by simpa [Value.cells] using hf0)
  clear hA0 hval0
  refine (walk ad0 len0 cap0 W hby0).mono fun e W' ⟨he, bel⟩ => ?_
  subst he
  exact ⟨_, rfl, _, _, _, [], _, [], hW', trodAll_mk1 (shut_bool Try.underlying4 _), (trodAll_cons_mk (Below.trod laidOut (by kernel_rfl) (of_decide_eq_true (by kernel_rfl)) k0 bel lt0) trodAll_mk0), rfl, bel.frame _, fun h => by cases h⟩

theorem over : Rows.fnOrderRow.holds Try.pinned (OpenSpec.ofChange Rows.fnOrderSpec) :=
  OpenClaim.holds_of_wide 3 Try.f3 rfl rfl rfl rfl rfl rfl rfl ⟨rfl, rfl, rfl, rfl, rfl⟩ rfl rfl rfl rfl rfl (by kernel_rfl) Try.func3 (by kernel_rfl)
    (of_decide_eq_true (by kernel_rfl)) (by unfold Func.isWrapper; first | (rw [if_pos (by decide +kernel)]; kernel_rfl) | (rw [if_neg (by decide +kernel)]; exact ⟨rfl, rfl⟩))
    (fun os started H enc _ => lifted os started H enc)

end Go.Proofs.Ytacboillcpollaa.fnOrder
namespace Go.Proofs.Ytacboillcpollaa
theorem FnOrder_holds : Rows.FnOrderSaid := fnOrder.over
end Go.Proofs.Ytacboillcpollaa
