/- What the drawings of texts of expressions answer: some short text. -/
import Derived.Test.YtjmbgpdbnffkpaaJ10
namespace Go.Proofs.Ytjmbgpdbnffkpaa
set_option maxRecDepth 100000
open Go.ChangeShapes Go.WideShapes Go.ChangeAt Go.RowKit
open Pl

theorem toH {p : Prop} (h : p) : Hid p := h
theorem below_unit (R : Nat) (w : World) (n : Int) (h : n ≤ 1) :
    Calls Try.prog 44 #[.pointer (some ⟨R, 0, none⟩), .int .i64 n] w fun e w' => e = .returned (.int .i64 0) ∧ w' = w := by
  go_enter Try.func44, Try.ntmps44
  go_wp2
  go_ret
  exact ⟨rfl, rfl⟩
theorem below_nat (R : Nat) (ad : Option Addr) (len cap : Nat) (n : Nat) (w : World) (h : Rd w R ad len cap) (h1 : 1 ≤ n) (h2 : n ≤ 256) :
    Calls Try.prog 44 #[.pointer (some ⟨R, 0, none⟩), .int .i64 (n : Int)] w fun e w' => (∃ x : Nat, e = .returned (.int .i64 (x : Int)) ∧ x < n) ∧ Rd w' R ad len cap ∧ Only R w w' := by
  by_cases hn : n = 1
  · subst hn
    exact (below_unit R w 1 (by omega)).mono fun e w' ⟨he, hw⟩ => ⟨⟨0, by rw [he]; rfl, by omega⟩, by rw [hw]; exact h, by rw [hw]; exact Only.refl _ _⟩
  · exact (below_any R ad len cap n w h (by omega) (by omega)).mono fun e w' ⟨⟨x, he, h0, h3⟩, hR, hO⟩ => ⟨⟨x.toNat, by rw [he, Int.toNat_of_nonneg h0], by omega⟩, hR, hO⟩
/-- a row of strings, none longer than m -/
def StrB (w : World) (R g n m : Nat) : Prop := g ≠ R ∧ g < w.heap.size ∧ ∀ o, o < n → ∃ s : ByteArray, w.cell? ⟨g, o, none⟩ = some (.string s) ∧ s.size ≤ m
theorem StrB.only {w w' : World} {R g n m : Nat} (h : StrB w R g n m) (k : Only R w w') : StrB w' R g n m :=
  ⟨h.1, Nat.lt_of_lt_of_le h.2.1 k.size, fun o ho => by obtain ⟨s, e, hs⟩ := h.2.2 o ho; exact ⟨s, by rw [k.cell h.2.1 h.1]; exact e, hs⟩⟩
theorem strB_new (w : World) (R m : Nat) (hR : R < w.heap.size) {t : TypeId} {xs : List ByteArray} (h : xs.all (fun x => decide (x.size ≤ m)) = true) : StrB (w.alloc (.cells (xs.map Value.string).toArray t)) R w.heap.size xs.length m := by
  refine ⟨by omega, by simp, fun o ho => ⟨xs[o], ?_, ?_⟩⟩
  · have := World.cell?_alloc_mark w (xs.map Value.string).toArray t (0, 0) o
    rw [this]; simp [ho]
  · have := List.all_eq_true.1 h _ (List.getElem_mem ho)
    simpa using this
def tB : Nat → Nat
  | 0 => 14
  | d + 1 => 3 * tB d + 8

set_option maxHeartbeats 4000000 in
theorem exprText_this (R : Nat) (ad : Option Addr) (len cap : Nat) (d : Int) (w : World) (h : Rd w R ad len cap) :
    Calls Try.prog 78 #[.pointer (some ⟨R, 0, none⟩), .int .i64 d, .bool true] w fun e w' => (∃ t : ByteArray, e = .returned (.string t) ∧ t.size ≤ 24) ∧ Rd w' R ad len cap ∧ Only R w w' := by
  have hRw := h.lt
  have HRD := toH h
  obtain ⟨xs, hxs⟩ : ∃ xs : List ByteArray, xs = [⟨#[116, 104, 105, 115, 40, 117, 115, 101, 114, 41]⟩, ⟨#[116, 104, 105, 115, 40, 117, 115, 101, 114, 44, 103, 114, 111, 117, 112, 35, 109, 101, 109, 98, 101, 114, 41]⟩, ⟨#[116, 104, 105, 115, 40, 117, 115, 101, 114, 44, 100, 111, 99, 35, 101, 100, 105, 116, 111, 114, 41]⟩] := ⟨_, rfl⟩
  obtain ⟨W0, hW0⟩ : ∃ W0, W0 = w.alloc (.cells (xs.map Value.string).toArray 9) := ⟨_, rfl⟩
  have HS0 : Hid (StrB W0 R w.heap.size 3 24) := by
    show StrB _ _ _ _ _
    rw [hW0]
    have := strB_new w R 24 hRw (t := 9) (xs := xs) (by rw [hxs]; decide)
    rwa [show xs.length = 3 by rw [hxs]; rfl] at this
  have HR0 : Hid (Rd W0 R ad len cap) := by show Rd _ _ _ _ _; rw [hW0]; exact h.alloc _
  have HO0 : Hid (Only R w W0) := by show Only _ _ _; rw [hW0]; exact (Only.refl _ _).alloc _
  have hW1 : W0 = w.alloc (.cells #[.string ⟨#[116, 104, 105, 115, 40, 117, 115, 101, 114, 41]⟩, .string ⟨#[116, 104, 105, 115, 40, 117, 115, 101, 114, 44, 103, 114, 111, 117, 112, 35, 109, 101, 109, 98, 101, 114, 41]⟩, .string ⟨#[116, 104, 105, 115, 40, 117, 115, 101, 114, 44, 100, 111, 99, 35, 101, 100, 105, 116, 111, 114, 41]⟩] 9) := by rw [hW0, hxs]; rfl
  clear h hW0 hxs
  go_enter Try.func78, Try.ntmps78
  go_wp2_with fail
  rw [← hW1]; clear hW1
  refine (below_nat R ad len cap 3 _ HR0.out (by omega) (by omega)).mono ?_
  rintro e w1 ⟨⟨x, rfl, hx⟩, hR1, hO1⟩
  obtain ⟨-, hlt, hcells⟩ := HS0.out.only hO1
  obtain ⟨t, ht, hts⟩ := hcells x hx
  have HR1 := toH hR1
  have HO1 : Hid (Only R w w1) := HO0.out.trans hO1
  have hx0 : (0 : Int) ≤ (x : Int) := by omega
  have hx1 : (x : Int) < 3 := by omega
  clear hR1 hO1 hcells HS0 HR0 HO0
  go_wp2
  go_ret
  exact ⟨⟨t, rfl, hts⟩, HR1.out, HO1.out⟩
set_option maxHeartbeats 8000000 in
theorem exprText_any (R : Nat) (ad : Option Addr) (len cap : Nat) : ∀ (d : Nat) (w : World), d ≤ 2 → Rd w R ad len cap →
    Calls Try.prog 78 #[.pointer (some ⟨R, 0, none⟩), .int .i64 (d : Int), .bool false] w fun e w' => (∃ t : ByteArray, e = .returned (.string t) ∧ t.size ≤ tB d) ∧ Rd w' R ad len cap ∧ Only R w w' := by
  intro d
  induction d with
  | zero =>
    intro w _ h
    have hRw := h.lt
    have hz : (0 : Nat) ≤ 256 := by omega
    obtain ⟨xs, hxs⟩ : ∃ xs : List ByteArray, xs = [⟨#[101, 100, 105, 116, 111, 114]⟩, ⟨#[118, 105, 101, 119, 101, 114]⟩, ⟨#[98, 97, 110, 110, 101, 100]⟩, ⟨#[112, 97, 114, 101, 110, 116, 45, 62, 118, 105, 101, 119, 101, 114]⟩, ⟨#[112, 97, 114, 101, 110, 116, 45, 62, 101, 100, 105, 116, 111, 114]⟩, ⟨#[111, 119, 110, 101, 114]⟩, ⟨#[112, 97, 114, 101, 110, 116, 45, 62, 111, 119, 110, 101, 114]⟩] := ⟨_, rfl⟩
    obtain ⟨W0, hW0⟩ : ∃ W0, W0 = w.alloc (.cells (xs.map Value.string).toArray 9) := ⟨_, rfl⟩
    have HS0 : Hid (StrB W0 R w.heap.size 7 14) := by
      show StrB _ _ _ _ _
      rw [hW0]
      have := strB_new w R 14 hRw (t := 9) (xs := xs) (by rw [hxs]; decide)
      rwa [show xs.length = 7 by rw [hxs]; rfl] at this
    have HR0 : Hid (Rd W0 R ad len cap) := by show Rd _ _ _ _ _; rw [hW0]; exact h.alloc _
    have HO0 : Hid (Only R w W0) := by show Only _ _ _; rw [hW0]; exact (Only.refl _ _).alloc _
    have hW1 : W0 = w.alloc (.cells #[.string ⟨#[101, 100, 105, 116, 111, 114]⟩, .string ⟨#[118, 105, 101, 119, 101, 114]⟩, .string ⟨#[98, 97, 110, 110, 101, 100]⟩, .string ⟨#[112, 97, 114, 101, 110, 116, 45, 62, 118, 105, 101, 119, 101, 114]⟩, .string ⟨#[112, 97, 114, 101, 110, 116, 45, 62, 101, 100, 105, 116, 111, 114]⟩, .string ⟨#[111, 119, 110, 101, 114]⟩, .string ⟨#[112, 97, 114, 101, 110, 116, 45, 62, 111, 119, 110, 101, 114]⟩] 9) := by rw [hW0, hxs]; rfl
    clear h hW0 hxs
    go_enter Try.func78, Try.ntmps78
    go_wp2_with fail
    rw [← hW1]; clear hW1
    refine (below_nat R ad len cap 7 _ HR0.out (by omega) (by omega)).mono ?_
    rintro e w1 ⟨⟨x, rfl, hx⟩, hR1, hO1⟩
    obtain ⟨-, hlt, hcells⟩ := HS0.out.only hO1
    obtain ⟨t, ht, hts⟩ := hcells x hx
    have HR1 := toH hR1
    have HO1 : Hid (Only R w w1) := HO0.out.trans hO1
    have hx0 : (0 : Int) ≤ (x : Int) := by omega
    have hx1 : (x : Int) < 7 := by omega
    clear hR1 hO1 hcells HS0 HR0 HO0
    go_wp2
    go_ret
    exact ⟨⟨t, rfl, hts⟩, HR1.out, HO1.out⟩
  | succ d ih =>
    intro w hd h
    have hRw := h.lt
    have IH := toH ih
    have hd0 : (((d + 1 : Nat) : Int) == 0) = false := by simp; omega
    have hdm : ((d + 1 : Nat) : Int) - 1 = (d : Int) := by omega
    have HTB : Hid (tB (d + 1) = 3 * tB d + 8) := rfl
    have hb0 : tB d ≤ 82 := by
      have : d = 0 ∨ d = 1 := by omega
      rcases this with rfl | rfl <;> decide
    obtain ⟨bd, hbd⟩ : ∃ bd, bd = tB d := ⟨_, rfl⟩
    rw [← hbd] at hb0 HTB
    have HBD := toH hbd
    clear ih hbd
    go_enter Try.func78, Try.ntmps78
    go_wp2_with fail
    refine (once_any R ad len cap 2 _ h (by omega) (by omega)).mono ?_
    rintro e w1 ⟨⟨q, rfl⟩, hR1, hO1⟩
    have HR1 := toH hR1
    have HO1 := toH hO1
    have hRw1 : R < w1.heap.size := hR1.lt
    clear hR1 hO1 h
    cases q with
    | true =>
      obtain ⟨xs, hxs⟩ : ∃ xs : List ByteArray, xs = [⟨#[101, 100, 105, 116, 111, 114]⟩, ⟨#[118, 105, 101, 119, 101, 114]⟩, ⟨#[98, 97, 110, 110, 101, 100]⟩, ⟨#[112, 97, 114, 101, 110, 116, 45, 62, 118, 105, 101, 119, 101, 114]⟩, ⟨#[112, 97, 114, 101, 110, 116, 45, 62, 101, 100, 105, 116, 111, 114]⟩, ⟨#[111, 119, 110, 101, 114]⟩, ⟨#[112, 97, 114, 101, 110, 116, 45, 62, 111, 119, 110, 101, 114]⟩] := ⟨_, rfl⟩
      obtain ⟨W0, hW0⟩ : ∃ W0, W0 = w1.alloc (.cells (xs.map Value.string).toArray 9) := ⟨_, rfl⟩
      have HS0 : Hid (StrB W0 R w1.heap.size 7 14) := by
        show StrB _ _ _ _ _
        rw [hW0]
        have := strB_new w1 R 14 hRw1 (t := 9) (xs := xs) (by rw [hxs]; decide)
        rwa [show xs.length = 7 by rw [hxs]; rfl] at this
      have HR0 : Hid (Rd W0 R ad len cap) := by show Rd _ _ _ _ _; rw [hW0]; exact HR1.out.alloc _
      have HO0 : Hid (Only R w W0) := by show Only _ _ _; rw [hW0]; exact HO1.out.alloc _
      have hW1 : W0 = w1.alloc (.cells #[.string ⟨#[101, 100, 105, 116, 111, 114]⟩, .string ⟨#[118, 105, 101, 119, 101, 114]⟩, .string ⟨#[98, 97, 110, 110, 101, 100]⟩, .string ⟨#[112, 97, 114, 101, 110, 116, 45, 62, 118, 105, 101, 119, 101, 114]⟩, .string ⟨#[112, 97, 114, 101, 110, 116, 45, 62, 101, 100, 105, 116, 111, 114]⟩, .string ⟨#[111, 119, 110, 101, 114]⟩, .string ⟨#[112, 97, 114, 101, 110, 116, 45, 62, 111, 119, 110, 101, 114]⟩] 9) := by rw [hW0, hxs]; rfl
      clear hW0 hxs HR1 HO1
      go_wp2_with fail
      rw [← hW1]; clear hW1
      refine (below_nat R ad len cap 7 _ HR0.out (by omega) (by omega)).mono ?_
      rintro e w2 ⟨⟨x, rfl, hx⟩, hR2, hO2⟩
      obtain ⟨-, hlt, hcells⟩ := HS0.out.only hO2
      obtain ⟨t, ht, hts⟩ := hcells x hx
      have HR2 := toH hR2
      have HO2 : Hid (Only R w w2) := HO0.out.trans hO2
      have hx0 : (0 : Int) ≤ (x : Int) := by omega
      have hx1 : (x : Int) < 7 := by omega
      have hfin : t.size ≤ tB (d + 1) := by rw [HTB.out, HBD.out]; cases d <;> simp [tB] <;> omega
      have HFIN := toH hfin
      clear hR2 hO2 hcells HS0 HR0 HO0 hfin
      go_wp2
      go_ret
      exact ⟨⟨t, rfl, HFIN.out⟩, HR2.out, HO2.out⟩
    | false =>
      obtain ⟨xs, hxs⟩ : ∃ xs : List ByteArray, xs = [⟨#[32, 124, 32]⟩, ⟨#[32, 38, 32]⟩, ⟨#[32, 45, 32]⟩, ⟨#[32, 124, 32]⟩] := ⟨_, rfl⟩
      obtain ⟨W0, hW0⟩ : ∃ W0, W0 = w1.alloc (.cells (xs.map Value.string).toArray 9) := ⟨_, rfl⟩
      have HS0 : Hid (StrB W0 R w1.heap.size 4 3) := by
        show StrB _ _ _ _ _
        rw [hW0]
        have := strB_new w1 R 3 hRw1 (t := 9) (xs := xs) (by rw [hxs]; decide)
        rwa [show xs.length = 4 by rw [hxs]; rfl] at this
      have HR0 : Hid (Rd W0 R ad len cap) := by show Rd _ _ _ _ _; rw [hW0]; exact HR1.out.alloc _
      have HO0 : Hid (Only R w W0) := by show Only _ _ _; rw [hW0]; exact HO1.out.alloc _
      have hW1 : W0 = w1.alloc (.cells #[.string ⟨#[32, 124, 32]⟩, .string ⟨#[32, 38, 32]⟩, .string ⟨#[32, 45, 32]⟩, .string ⟨#[32, 124, 32]⟩] 9) := by rw [hW0, hxs]; rfl
      clear hW0 hxs HR1 HO1
      go_wp2_with fail
      rw [← hW1]; clear hW1
      refine (below_nat R ad len cap 4 _ HR0.out (by omega) (by omega)).mono ?_
      rintro e w2 ⟨⟨x, rfl, hx⟩, hR2, hO2⟩
      obtain ⟨-, hlt, hcells⟩ := HS0.out.only hO2
      obtain ⟨op, hop, hops⟩ := hcells x hx
      have HR2 := toH hR2
      have HO2 : Hid (Only R w w2) := HO0.out.trans hO2
      have hx0 : (0 : Int) ≤ (x : Int) := by omega
      have hx1 : (x : Int) < 4 := by omega
      clear hR2 hO2 hcells HS0 HR0 HO0
      go_wp2_with fail
      refine (IH.out w2 (by omega) HR2.out).mono ?_
      rintro e w3 ⟨⟨t1, rfl, ht1⟩, hR3, hO3⟩
      rw [← HBD.out] at ht1
      have HR3 := toH hR3
      have HO3 : Hid (Only R w w3) := HO2.out.trans hO3
      clear hR3 hO3 HR2 HO2 hop hlt
      go_wp2_with fail
      refine (IH.out w3 (by omega) HR3.out).mono ?_
      rintro e w4 ⟨⟨t2, rfl, ht2⟩, hR4, hO4⟩
      rw [← HBD.out] at ht2
      have HR4 := toH hR4
      have HO4 : Hid (Only R w w4) := HO3.out.trans hO4
      clear hR4 hO4 HR3 HO3
      have e1 : (⟨#[40]⟩ : ByteArray).size = 1 := rfl
      have e2 : (⟨#[41]⟩ : ByteArray).size = 1 := rfl
      cases hm : op.toList == [32, 45, 32] with
      | true =>
        have hm2 : (!op.toList == [32, 45, 32]) = false := by rw [hm]; rfl
        have HFIN : Hid ((((((⟨#[40]⟩ : ByteArray) ++ t1) ++ op) ++ t2) ++ ⟨#[41]⟩).size ≤ tB (d + 1)) := by show _ ≤ _; rw [HTB.out]; simp only [ByteArray.size_append, e1, e2]; omega
        go_wp2_with fail
        go_ret
        exact ⟨⟨_, rfl, HFIN.out⟩, HR4.out, HO4.out⟩
      | false =>
        have hm2 : (!op.toList == [32, 45, 32]) = true := by rw [hm]; rfl
        go_wp2_with fail
        refine (once_any R ad len cap 3 _ HR4.out (by omega) (by omega)).mono ?_
        rintro e w5 ⟨⟨q, rfl⟩, hR5, hO5⟩
        have HR5 := toH hR5
        have HO5 : Hid (Only R w w5) := HO4.out.trans hO5
        clear hR5 hO5 HR4 HO4
        cases q with
        | false =>
          have HFIN : Hid ((((((⟨#[40]⟩ : ByteArray) ++ t1) ++ op) ++ t2) ++ ⟨#[41]⟩).size ≤ tB (d + 1)) := by show _ ≤ _; rw [HTB.out]; simp only [ByteArray.size_append, e1, e2]; omega
          go_wp2_with fail
          go_ret
          exact ⟨⟨_, rfl, HFIN.out⟩, HR5.out, HO5.out⟩
        | true =>
          go_wp2_with fail
          refine (IH.out w5 (by omega) HR5.out).mono ?_
          rintro e w6 ⟨⟨t3, rfl, ht3⟩, hR6, hO6⟩
          rw [← HBD.out] at ht3
          have HR6 := toH hR6
          have HO6 : Hid (Only R w w6) := HO5.out.trans hO6
          clear hR6 hO6 HR5 HO5
          have HFIN : Hid ((((((((⟨#[40]⟩ : ByteArray) ++ t1) ++ op) ++ t2) ++ op) ++ t3) ++ ⟨#[41]⟩).size ≤ tB (d + 1)) := by show _ ≤ _; rw [HTB.out]; simp only [ByteArray.size_append, e1, e2]; omega
          go_wp2_with fail
          go_ret
          exact ⟨⟨_, rfl, HFIN.out⟩, HR6.out, HO6.out⟩
set_option maxHeartbeats 8000000 in
theorem relText_190 (R : Nat) (ad : Option Addr) (len cap d : Nat) (w : World) (hd : d ≤ 2) (h : Rd w R ad len cap) :
    Calls Try.prog 43 #[.pointer (some ⟨R, 0, none⟩), .int .i64 (d : Int)] w fun e w' => (∃ t : ByteArray, e = .returned (.string t) ∧ t.size ≤ 190) ∧ Rd w' R ad len cap ∧ Only R w w' := by
  have hRw := h.lt
  have hb0 : tB d ≤ 158 := by
    have : d = 0 ∨ d = 1 ∨ d = 2 := by omega
    rcases this with rfl | rfl | rfl <;> decide
  obtain ⟨xs, hxs⟩ : ∃ xs : List ByteArray, xs = [⟨#[32, 124, 32]⟩, ⟨#[32, 38, 32]⟩, ⟨#[32, 45, 32]⟩, ⟨#[32, 124, 32]⟩] := ⟨_, rfl⟩
  obtain ⟨W0, hW0⟩ : ∃ W0, W0 = w.alloc (.cells (xs.map Value.string).toArray 9) := ⟨_, rfl⟩
  have HS0 : Hid (StrB W0 R w.heap.size 4 3) := by
    show StrB _ _ _ _ _
    rw [hW0]
    have := strB_new w R 3 hRw (t := 9) (xs := xs) (by rw [hxs]; decide)
    rwa [show xs.length = 4 by rw [hxs]; rfl] at this
  have HR0 : Hid (Rd W0 R ad len cap) := by show Rd _ _ _ _ _; rw [hW0]; exact h.alloc _
  have HO0 : Hid (Only R w W0) := by show Only _ _ _; rw [hW0]; exact (Only.refl _ _).alloc _
  have hW1 : W0 = w.alloc (.cells #[.string ⟨#[32, 124, 32]⟩, .string ⟨#[32, 38, 32]⟩, .string ⟨#[32, 45, 32]⟩, .string ⟨#[32, 124, 32]⟩] 9) := by rw [hW0, hxs]; rfl
  clear h hW0 hxs
  go_enter Try.func43, Try.ntmps43
  go_wp2_with fail
  rw [← hW1]; clear hW1
  refine (below_nat R ad len cap 4 _ HR0.out (by omega) (by omega)).mono ?_
  rintro e w2 ⟨⟨x, rfl, hx⟩, hR2, hO2⟩
  obtain ⟨-, hlt, hcells⟩ := HS0.out.only hO2
  obtain ⟨op, hop, hops⟩ := hcells x hx
  have HR2 := toH hR2
  have HO2 : Hid (Only R w w2) := HO0.out.trans hO2
  have hx0 : (0 : Int) ≤ (x : Int) := by omega
  have hx1 : (x : Int) < 4 := by omega
  clear hR2 hO2 hcells HS0 HR0 HO0
  go_wp2_with fail
  refine (once_any R ad len cap 3 _ HR2.out (by omega) (by omega)).mono ?_
  rintro e w3 ⟨⟨q, rfl⟩, hR3, hO3⟩
  have HR3 := toH hR3
  have HO3 : Hid (Only R w w3) := HO2.out.trans hO3
  clear hR3 hO3 HR2 HO2 hop hlt
  cases q with
  | true =>
    go_wp2_with fail
    refine (exprText_this R ad len cap 0 _ HR3.out).mono ?_
    rintro e w4 ⟨⟨t1, rfl, ht1⟩, hR4, hO4⟩
    have HR4 := toH hR4
    have HO4 : Hid (Only R w w4) := HO3.out.trans hO4
    clear hR4 hO4
    go_wp2
    go_ret
    exact ⟨⟨t1, rfl, by omega⟩, HR4.out, HO4.out⟩
  | false =>
    go_wp2_with fail
    refine (exprText_this R ad len cap 0 _ HR3.out).mono ?_
    rintro e w4 ⟨⟨t1, rfl, ht1⟩, hR4, hO4⟩
    have HR4 := toH hR4
    have HO4 : Hid (Only R w w4) := HO3.out.trans hO4
    clear hR4 hO4
    go_wp2_with fail
    refine (exprText_any R ad len cap d _ hd HR4.out).mono ?_
    rintro e w5 ⟨⟨t2, rfl, ht2⟩, hR5, hO5⟩
    have HR5 := toH hR5
    have HO5 : Hid (Only R w w5) := HO4.out.trans hO5
    have hf : t2.size ≤ 158 := by omega
    have HFIN : Hid (((t1 ++ op) ++ t2).size ≤ 190) := by show _ ≤ _; simp only [ByteArray.size_append]; omega
    clear hR5 hO5 ht2 hb0
    go_wp2
    go_ret
    exact ⟨⟨_, rfl, HFIN.out⟩, HR5.out, HO5.out⟩
theorem relText_any (R : Nat) (ad : Option Addr) (len cap d : Nat) (w : World) (hd : d ≤ 2) (h : Rd w R ad len cap) :
    Calls Try.prog 43 #[.pointer (some ⟨R, 0, none⟩), .int .i64 (d : Int)] w fun e w' => (∃ t : ByteArray, e = .returned (.string t) ∧ t.size ≤ 300) ∧ Rd w' R ad len cap ∧ Only R w w' :=
  (relText_190 R ad len cap d w hd h).mono fun e w' ⟨⟨t, h1, h2⟩, h3⟩ => ⟨⟨t, h1, by omega⟩, h3⟩
end Go.Proofs.Ytjmbgpdbnffkpaa
