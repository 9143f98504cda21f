/- What the drawings of texts of expressions answer: some short text. -/
import Derived.Test.YtkpefjefodkddaaGreatDrawTuple
import Derived.Test.YtkpefjefodkddaaGreatJ1
namespace Go.Proofs.YtkpefjefodkddaaGreat
set_option maxRecDepth 100000
open Go.ChangeShapes Go.WideShapes Go.ChangeAt Go.RowKit
open Pl
theorem toH {p : Prop} (h : p) : Hid p := h
theorem below_unit (R : Nat) (w : World) (n : Int) (h : n ≤ 1) :
  Calls Tryz.prog 45 #[.pointer (some ⟨R, 0, none⟩), .int .i64 n] w fun e w' => e = .returned (.int .i64 0) ∧ w' = w := by
 go_enter Tryz.func45, Tryz.ntmps45
 go_wp2
 go_ret
 exact ⟨rfl, rfl⟩
theorem below_nat (R : Nat) (ad : Option Addr) (len cap : Nat) (n : Nat) (w : World) (h : Rd w R ad len cap) (h1 : 1 ≤ n) (h2 : n ≤ 256) :
  Calls Tryz.prog 45 #[.pointer (some ⟨R, 0, none⟩), .int .i64 (n : Int)] w fun e w' => (∃ x : Nat, e = .returned (.int .i64 (x : Int)) ∧ x < n) ∧ Rd w' R ad len cap ∧ Only R w w' := by
 by_cases hn : n = 1
 ·subst hn
  exact (below_unit R w 1 (by omega)).mono fun e w' ⟨he, hw⟩ => ⟨⟨0, by rw [he]; rfl, by omega⟩, by rw [hw]; exact h, by rw [hw]; exact Only.refl _ _⟩
 ·exact (below_any R ad len cap n w h (by omega) (by omega)).mono fun e w' ⟨⟨x, he, h0, h3⟩, hR, hO⟩ => ⟨⟨x.toNat, by rw [he, Int.toNat_of_nonneg h0], by omega⟩, hR, hO⟩
def StrB (w : World) (R g n m : Nat) : Prop := g ≠ R ∧ g < w.heap.size ∧ ∀ o, o < n → ∃ s : ByteArray, w.cell? ⟨g, o, none⟩ = some (.string s) ∧ s.size ≤ m
theorem StrB.only {w w' : World} {R g n m : Nat} (h : StrB w R g n m) (k : Only R w w') : StrB w' R g n m :=
 ⟨h.1, Nat.lt_of_lt_of_le h.2.1 k.size, fun o ho => by obtain ⟨s, e, hs⟩ := h.2.2 o ho; exact ⟨s, by rw [k.cell h.2.1 h.1]; exact e, hs⟩⟩
theorem strB_new (w : World) (R m : Nat) (hR : R < w.heap.size) {t : TypeId} {xs : List ByteArray} (h : xs.all (fun x => decide (x.size ≤ m)) = true) : StrB (w.alloc (.cells (xs.map Value.string).toArray t)) R w.heap.size xs.length m := by
 refine ⟨by omega, by simp, fun o ho => ⟨xs[o], ?_, ?_⟩⟩
 ·have := World.cell?_alloc_mark w (xs.map Value.string).toArray t (0, 0) o
  rw [this]; simp [ho]
 ·have := List.all_eq_true.1 h _ (List.getElem_mem ho)
  simpa using this
def tB : Nat → Nat
 | 0 => 24
 | d + 1 => 3 * tB d + 10
set_option maxHeartbeats 4000000 in
theorem exprText_this (R : Nat) (ad : Option Addr) (len cap : Nat) (d : Int) (w : World) (h : Rd w R ad len cap) :
  Calls Tryz.prog 78 #[.pointer (some ⟨R, 0, none⟩), .int .i64 d, .bool true] w fun e w' => (∃ t : ByteArray, e = .returned (.string t) ∧ t.size ≤ 24) ∧ Rd w' R ad len cap ∧ Only R w w' := by
 have hRw := h.lt
 have HRD := toH h
 obtain ⟨xs, hxs⟩ : ∃ xs : List ByteArray, xs = [⟨#[116, 104, 105, 115, 40, 117, 115, 101, 114, 41]⟩, ⟨#[116, 104, 105, 115, 40, 117, 115, 101, 114, 44, 103, 114, 111, 117, 112, 35, 109, 101, 109, 98, 101, 114, 41]⟩, ⟨#[116, 104, 105, 115, 40, 117, 115, 101, 114, 44, 100, 111, 99, 35, 101, 100, 105, 116, 111, 114, 41]⟩] := ⟨_, rfl⟩
 obtain ⟨W0, hW0⟩ : ∃ W0, W0 = w.alloc (.cells (xs.map Value.string).toArray 9) := ⟨_, rfl⟩
 have HS0 : Hid (StrB W0 R w.heap.size 3 24) := by
  show StrB _ _ _ _ _
  rw [hW0]
  have := strB_new w R 24 hRw (t := 9) (xs := xs) (by rw [hxs]; decide)
  rwa [show xs.length = 3 by rw [hxs]; rfl] at this
 have HR0 : Hid (Rd W0 R ad len cap) := by show Rd _ _ _ _ _; rw [hW0]; exact h.alloc _
 have HO0 : Hid (Only R w W0) := by show Only _ _ _; rw [hW0]; exact (Only.refl _ _).alloc _
 have hW1 : W0 = w.alloc (.cells #[.string ⟨#[116, 104, 105, 115, 40, 117, 115, 101, 114, 41]⟩, .string ⟨#[116, 104, 105, 115, 40, 117, 115, 101, 114, 44, 103, 114, 111, 117, 112, 35, 109, 101, 109, 98, 101, 114, 41]⟩, .string ⟨#[116, 104, 105, 115, 40, 117, 115, 101, 114, 44, 100, 111, 99, 35, 101, 100, 105, 116, 111, 114, 41]⟩] 9) := by rw [hW0, hxs]; rfl
 clear h hW0 hxs
 go_enter Tryz.func78, Tryz.ntmps78
 go_wp2_with fail
 rw [← hW1]; clear hW1
 refine (below_nat R ad len cap 3 _ HR0.out (by omega) (by omega)).mono ?_
 rintro e w1 ⟨⟨x, rfl, hx⟩, hR1, hO1⟩
 obtain ⟨-, hlt, hcells⟩ := HS0.out.only hO1
 obtain ⟨t, ht, hts⟩ := hcells x hx
 have HR1 := toH hR1
 have HO1 : Hid (Only R w w1) := HO0.out.trans hO1
 have hx0 : (0 : Int) ≤ (x : Int) := by omega
 have hx1 : (x : Int) < 3 := by omega
 clear hR1 hO1 hcells HS0 HR0 HO0
 go_wp2
 go_ret
 exact ⟨⟨t, rfl, hts⟩, HR1.out, HO1.out⟩
set_option maxHeartbeats 8000000 in
theorem exprText_any (R : Nat) (ad : Option Addr) (len cap : Nat) : ∀ (d : Nat) (w : World), d ≤ 2 → Rd w R ad len cap →
  Calls Tryz.prog 78 #[.pointer (some ⟨R, 0, none⟩), .int .i64 (d : Int), .bool false] w fun e w' => (∃ t : ByteArray, e = .returned (.string t) ∧ t.size ≤ tB d) ∧ Rd w' R ad len cap ∧ Only R w w' := by
 intro d
 induction d with
 | zero =>
  intro w _ h
  have hRw := h.lt
  have hz : (0 : Nat) ≤ 256 := by omega
  obtain ⟨xs, hxs⟩ : ∃ xs : List ByteArray, xs = [⟨#[101, 100, 105, 116, 111, 114]⟩, ⟨#[118, 105, 101, 119, 101, 114]⟩, ⟨#[98, 97, 110, 110, 101, 100]⟩, ⟨#[112, 97, 114, 101, 110, 116, 45, 62, 118, 105, 101, 119, 101, 114]⟩, ⟨#[112, 97, 114, 101, 110, 116, 45, 62, 101, 100, 105, 116, 111, 114]⟩, ⟨#[111, 119, 110, 101, 114]⟩, ⟨#[112, 97, 114, 101, 110, 116, 45, 62, 111, 119, 110, 101, 114]⟩] := ⟨_, rfl⟩
  obtain ⟨W0, hW0⟩ : ∃ W0, W0 = w.alloc (.cells (xs.map Value.string).toArray 9) := ⟨_, rfl⟩
  have HS0 : Hid (StrB W0 R w.heap.size 7 24) := by
   show StrB _ _ _ _ _
   rw [hW0]
   have := strB_new w R 24 hRw (t := 9) (xs := xs) (by rw [hxs]; decide)
   rwa [show xs.length = 7 by rw [hxs]; rfl] at this
  have HR0 : Hid (Rd W0 R ad len cap) := by show Rd _ _ _ _ _; rw [hW0]; exact h.alloc _
  have HO0 : Hid (Only R w W0) := by show Only _ _ _; rw [hW0]; exact (Only.refl _ _).alloc _
  have hW1 : W0 = w.alloc (.cells #[.string ⟨#[101, 100, 105, 116, 111, 114]⟩, .string ⟨#[118, 105, 101, 119, 101, 114]⟩, .string ⟨#[98, 97, 110, 110, 101, 100]⟩, .string ⟨#[112, 97, 114, 101, 110, 116, 45, 62, 118, 105, 101, 119, 101, 114]⟩, .string ⟨#[112, 97, 114, 101, 110, 116, 45, 62, 101, 100, 105, 116, 111, 114]⟩, .string ⟨#[111, 119, 110, 101, 114]⟩, .string ⟨#[112, 97, 114, 101, 110, 116, 45, 62, 111, 119, 110, 101, 114]⟩] 9) := by rw [hW0, hxs]; rfl
  clear h hW0 hxs
  go_enter Tryz.func78, Tryz.ntmps78
  go_wp2_with fail
  rw [← hW1]; clear hW1
  refine (below_nat R ad len cap 7 _ HR0.out (by omega) (by omega)).mono ?_
  rintro e w1 ⟨⟨x, rfl, hx⟩, hR1, hO1⟩
  obtain ⟨-, hlt, hcells⟩ := HS0.out.only hO1
  obtain ⟨t, ht, hts⟩ := hcells x hx
  have HR1 := toH hR1
  have HO1 : Hid (Only R w w1) := HO0.out.trans hO1
  have hx0 : (0 : Int) ≤ (x : Int) := by omega
  have hx1 : (x : Int) < 7 := by omega
  clear hR1 hO1 hcells HS0 HR0 HO0
  go_wp2
  go_ret
  exact ⟨⟨t, rfl, hts⟩, HR1.out, HO1.out⟩
 | succ d ih =>
  intro w hd h
  have hRw := h.lt
  have IH := toH ih
  have hd0 : (((d + 1 : Nat) : Int) == 0) = false := by simp; omega
  have hdm : ((d + 1 : Nat) : Int) - 1 = (d : Int) := by omega
  have HTB : Hid (tB (d + 1) = 3 * tB d + 10) := rfl
  have hb0 : tB d ≤ 82 := by
   have : d = 0 ∨ d = 1 := by omega
   rcases this with rfl | rfl <;> decide
  obtain ⟨bd, hbd⟩ : ∃ bd, bd = tB d := ⟨_, rfl⟩
  rw [← hbd] at hb0 HTB
  have HBD := toH hbd
  clear ih hbd
  go_enter Tryz.func78, Tryz.ntmps78
  go_wp2_with fail
  refine (once_any R ad len cap 2 _ h (by omega) (by omega)).mono ?_
  rintro e w1 ⟨⟨q, rfl⟩, hR1, hO1⟩
  have HR1 := toH hR1
  have HO1 := toH hO1
  have hRw1 : R < w1.heap.size := hR1.lt
  clear hR1 hO1 h
  cases q with
  | true =>
   obtain ⟨xs, hxs⟩ : ∃ xs : List ByteArray, xs = [⟨#[101, 100, 105, 116, 111, 114]⟩, ⟨#[118, 105, 101, 119, 101, 114]⟩, ⟨#[98, 97, 110, 110, 101, 100]⟩, ⟨#[112, 97, 114, 101, 110, 116, 45, 62, 118, 105, 101, 119, 101, 114]⟩, ⟨#[112, 97, 114, 101, 110, 116, 45, 62, 101, 100, 105, 116, 111, 114]⟩, ⟨#[111, 119, 110, 101, 114]⟩, ⟨#[112, 97, 114, 101, 110, 116, 45, 62, 111, 119, 110, 101, 114]⟩] := ⟨_, rfl⟩
   obtain ⟨W0, hW0⟩ : ∃ W0, W0 = w1.alloc (.cells (xs.map Value.string).toArray 9) := ⟨_, rfl⟩
   have HS0 : Hid (StrB W0 R w1.heap.size 7 24) := by
    show StrB _ _ _ _ _
    rw [hW0]
    have := strB_new w1 R 24 hRw1 (t := 9) (xs := xs) (by rw [hxs]; decide)
    rwa [show xs.length = 7 by rw [hxs]; rfl] at this
   have HR0 : Hid (Rd W0 R ad len cap) := by show Rd _ _ _ _ _; rw [hW0]; exact HR1.out.alloc _
   have HO0 : Hid (Only R w W0) := by show Only _ _ _; rw [hW0]; exact HO1.out.alloc _
   have hW1 : W0 = w1.alloc (.cells #[.string ⟨#[101, 100, 105, 116, 111, 114]⟩, .string ⟨#[118, 105, 101, 119, 101, 114]⟩, .string ⟨#[98, 97, 110, 110, 101, 100]⟩, .string ⟨#[112, 97, 114, 101, 110, 116, 45, 62, 118, 105, 101, 119, 101, 114]⟩, .string ⟨#[112, 97, 114, 101, 110, 116, 45, 62, 101, 100, 105, 116, 111, 114]⟩, .string ⟨#[111, 119, 110, 101, 114]⟩, .string ⟨#[112, 97, 114, 101, 110, 116, 45, 62, 111, 119, 110, 101, 114]⟩] 9) := by rw [hW0, hxs]; rfl
   clear hW0 hxs HR1 HO1
   go_wp2_with fail
   rw [← hW1]; clear hW1
   refine (below_nat R ad len cap 7 _ HR0.out (by omega) (by omega)).mono ?_
   rintro e w2 ⟨⟨x, rfl, hx⟩, hR2, hO2⟩
   obtain ⟨-, hlt, hcells⟩ := HS0.out.only hO2
   obtain ⟨t, ht, hts⟩ := hcells x hx
   have HR2 := toH hR2
   have HO2 : Hid (Only R w w2) := HO0.out.trans hO2
   have hx0 : (0 : Int) ≤ (x : Int) := by omega
   have hx1 : (x : Int) < 7 := by omega
   have hfin : t.size ≤ tB (d + 1) := by rw [HTB.out, HBD.out]; cases d <;> simp [tB] <;> omega
   have HFIN := toH hfin
   clear hR2 hO2 hcells HS0 HR0 HO0 hfin
   go_wp2
   go_ret
   exact ⟨⟨t, rfl, HFIN.out⟩, HR2.out, HO2.out⟩
  | false =>
   obtain ⟨xs, hxs⟩ : ∃ xs : List ByteArray, xs = [⟨#[32, 124, 32]⟩, ⟨#[32, 38, 32]⟩, ⟨#[32, 45, 32]⟩, ⟨#[32, 124, 32]⟩] := ⟨_, rfl⟩
   obtain ⟨W0, hW0⟩ : ∃ W0, W0 = w1.alloc (.cells (xs.map Value.string).toArray 9) := ⟨_, rfl⟩
   have HS0 : Hid (StrB W0 R w1.heap.size 4 3) := by
    show StrB _ _ _ _ _
    rw [hW0]
    have := strB_new w1 R 3 hRw1 (t := 9) (xs := xs) (by rw [hxs]; decide)
    rwa [show xs.length = 4 by rw [hxs]; rfl] at this
   have HR0 : Hid (Rd W0 R ad len cap) := by show Rd _ _ _ _ _; rw [hW0]; exact HR1.out.alloc _
   have HO0 : Hid (Only R w W0) := by show Only _ _ _; rw [hW0]; exact HO1.out.alloc _
   have hW1 : W0 = w1.alloc (.cells #[.string ⟨#[32, 124, 32]⟩, .string ⟨#[32, 38, 32]⟩, .string ⟨#[32, 45, 32]⟩, .string ⟨#[32, 124, 32]⟩] 9) := by rw [hW0, hxs]; rfl
   clear hW0 hxs HR1 HO1
   go_wp2_with fail
   rw [← hW1]; clear hW1
   refine (below_nat R ad len cap 4 _ HR0.out (by omega) (by omega)).mono ?_
   rintro e w2 ⟨⟨x, rfl, hx⟩, hR2, hO2⟩
   obtain ⟨-, hlt, hcells⟩ := HS0.out.only hO2
   obtain ⟨op, hop, hops⟩ := hcells x hx
   have HR2 := toH hR2
   have HO2 : Hid (Only R w w2) := HO0.out.trans hO2
   have hx0 : (0 : Int) ≤ (x : Int) := by omega
   have hx1 : (x : Int) < 4 := by omega
   clear hR2 hO2 hcells HS0 HR0 HO0
   go_wp2_with fail
   refine (IH.out w2 (by omega) HR2.out).mono ?_
   rintro e w3 ⟨⟨t1, rfl, ht1⟩, hR3, hO3⟩
   rw [← HBD.out] at ht1
   have HR3 := toH hR3
   have HO3 : Hid (Only R w w3) := HO2.out.trans hO3
   clear hR3 hO3 HR2 HO2 hop hlt
   go_wp2_with fail
   refine (IH.out w3 (by omega) HR3.out).mono ?_
   rintro e w4 ⟨⟨t2, rfl, ht2⟩, hR4, hO4⟩
   rw [← HBD.out] at ht2
   have HR4 := toH hR4
   have HO4 : Hid (Only R w w4) := HO3.out.trans hO4
   clear hR4 hO4 HR3 HO3
   have e1 : (⟨#[40]⟩ : ByteArray).size = 1 := rfl
   have e2 : (⟨#[41]⟩ : ByteArray).size = 1 := rfl
   cases hm : op.toList == [32, 45, 32] with
   | true =>
    have hm2 : (!op.toList == [32, 45, 32]) = false := by rw [hm]; rfl
    have HFIN : Hid ((((((⟨#[40]⟩ : ByteArray) ++ t1) ++ op) ++ t2) ++ ⟨#[41]⟩).size ≤ tB (d + 1)) := by show _ ≤ _; rw [HTB.out]; simp only [ByteArray.size_append, e1, e2]; omega
    go_wp2_with fail
    go_ret
    exact ⟨⟨_, rfl, HFIN.out⟩, HR4.out, HO4.out⟩
   | false =>
    have hm2 : (!op.toList == [32, 45, 32]) = true := by rw [hm]; rfl
    go_wp2_with fail
    refine (once_any R ad len cap 3 _ HR4.out (by omega) (by omega)).mono ?_
    rintro e w5 ⟨⟨q, rfl⟩, hR5, hO5⟩
    have HR5 := toH hR5
    have HO5 : Hid (Only R w w5) := HO4.out.trans hO5
    clear hR5 hO5 HR4 HO4
    cases q with
    | false =>
     have HFIN : Hid ((((((⟨#[40]⟩ : ByteArray) ++ t1) ++ op) ++ t2) ++ ⟨#[41]⟩).size ≤ tB (d + 1)) := by show _ ≤ _; rw [HTB.out]; simp only [ByteArray.size_append, e1, e2]; omega
     go_wp2_with fail
     go_ret
     exact ⟨⟨_, rfl, HFIN.out⟩, HR5.out, HO5.out⟩
    | true =>
     go_wp2_with fail
     refine (IH.out w5 (by omega) HR5.out).mono ?_
     rintro e w6 ⟨⟨t3, rfl, ht3⟩, hR6, hO6⟩
     rw [← HBD.out] at ht3
     have HR6 := toH hR6
     have HO6 : Hid (Only R w w6) := HO5.out.trans hO6
     clear hR6 hO6 HR5 HO5
     have HFIN : Hid ((((((((⟨#[40]⟩ : ByteArray) ++ t1) ++ op) ++ t2) ++ op) ++ t3) ++ ⟨#[41]⟩).size ≤ tB (d + 1)) := by show _ ≤ _; rw [HTB.out]; simp only [ByteArray.size_append, e1, e2]; omega
     go_wp2_with fail
     go_ret
     exact ⟨⟨_, rfl, HFIN.out⟩, HR6.out, HO6.out⟩
set_option maxHeartbeats 8000000 in
theorem relText_any (R : Nat) (ad : Option Addr) (len cap d : Nat) (w : World) (hd : d ≤ 2) (h : Rd w R ad len cap) :
  Calls Tryz.prog 47 #[.pointer (some ⟨R, 0, none⟩), .int .i64 (d : Int)] w fun e w' => (∃ t : ByteArray, e = .returned (.string t) ∧ t.size ≤ 300) ∧ Rd w' R ad len cap ∧ Only R w w' := by
 have hRw := h.lt
 have hb0 : tB d ≤ 256 := by
  have : d = 0 ∨ d = 1 ∨ d = 2 := by omega
  rcases this with rfl | rfl | rfl <;> decide
 obtain ⟨xs, hxs⟩ : ∃ xs : List ByteArray, xs = [⟨#[32, 124, 32]⟩, ⟨#[32, 38, 32]⟩, ⟨#[32, 45, 32]⟩, ⟨#[32, 124, 32]⟩] := ⟨_, rfl⟩
 obtain ⟨W0, hW0⟩ : ∃ W0, W0 = w.alloc (.cells (xs.map Value.string).toArray 9) := ⟨_, rfl⟩
 have HS0 : Hid (StrB W0 R w.heap.size 4 3) := by
  show StrB _ _ _ _ _
  rw [hW0]
  have := strB_new w R 3 hRw (t := 9) (xs := xs) (by rw [hxs]; decide)
  rwa [show xs.length = 4 by rw [hxs]; rfl] at this
 have HR0 : Hid (Rd W0 R ad len cap) := by show Rd _ _ _ _ _; rw [hW0]; exact h.alloc _
 have HO0 : Hid (Only R w W0) := by show Only _ _ _; rw [hW0]; exact (Only.refl _ _).alloc _
 have hW1 : W0 = w.alloc (.cells #[.string ⟨#[32, 124, 32]⟩, .string ⟨#[32, 38, 32]⟩, .string ⟨#[32, 45, 32]⟩, .string ⟨#[32, 124, 32]⟩] 9) := by rw [hW0, hxs]; rfl
 clear h hW0 hxs
 go_enter Tryz.func47, Tryz.ntmps47
 go_wp2_with fail
 rw [← hW1]; clear hW1
 refine (below_nat R ad len cap 4 _ HR0.out (by omega) (by omega)).mono ?_
 rintro e w2 ⟨⟨x, rfl, hx⟩, hR2, hO2⟩
 obtain ⟨-, hlt, hcells⟩ := HS0.out.only hO2
 obtain ⟨op, hop, hops⟩ := hcells x hx
 have HR2 := toH hR2
 have HO2 : Hid (Only R w w2) := HO0.out.trans hO2
 have hx0 : (0 : Int) ≤ (x : Int) := by omega
 have hx1 : (x : Int) < 4 := by omega
 clear hR2 hO2 hcells HS0 HR0 HO0
 go_wp2_with fail
 refine (once_any R ad len cap 3 _ HR2.out (by omega) (by omega)).mono ?_
 rintro e w3 ⟨⟨q, rfl⟩, hR3, hO3⟩
 have HR3 := toH hR3
 have HO3 : Hid (Only R w w3) := HO2.out.trans hO3
 clear hR3 hO3 HR2 HO2 hop hlt
 cases q with
 | true =>
  go_wp2_with fail
  refine (exprText_this R ad len cap 0 _ HR3.out).mono ?_
  rintro e w4 ⟨⟨t1, rfl, ht1⟩, hR4, hO4⟩
  have HR4 := toH hR4
  have HO4 : Hid (Only R w w4) := HO3.out.trans hO4
  clear hR4 hO4
  go_wp2
  go_ret
  exact ⟨⟨t1, rfl, by omega⟩, HR4.out, HO4.out⟩
 | false =>
  go_wp2_with fail
  refine (exprText_this R ad len cap 0 _ HR3.out).mono ?_
  rintro e w4 ⟨⟨t1, rfl, ht1⟩, hR4, hO4⟩
  have HR4 := toH hR4
  have HO4 : Hid (Only R w w4) := HO3.out.trans hO4
  clear hR4 hO4
  go_wp2_with fail
  refine (exprText_any R ad len cap d _ hd HR4.out).mono ?_
  rintro e w5 ⟨⟨t2, rfl, ht2⟩, hR5, hO5⟩
  have HR5 := toH hR5
  have HO5 : Hid (Only R w w5) := HO4.out.trans hO5
  have hf : t2.size ≤ 256 := by omega
  have HFIN : Hid (((t1 ++ op) ++ t2).size ≤ 300) := by show _ ≤ _; simp only [ByteArray.size_append]; omega
  clear hR5 hO5 ht2 hb0
  go_wp2
  go_ret
  exact ⟨⟨_, rfl, HFIN.out⟩, HR5.out, HO5.out⟩
end Go.Proofs.YtkpefjefodkddaaGreat
namespace Go.Proofs.YtkpefjefodkddaaGreat
set_option maxRecDepth 100000
open Go.ChangeShapes Go.WideShapes Go.ChangeAt Go.RowKit
open Pl
set_option maxHeartbeats 4000000 in
theorem drawWord_any (R : Nat) (ad : Option Addr) (len cap : Nat) (w : World) (h : Rd w R ad len cap) :
  Calls Tryz.prog 104 #[.pointer (some ⟨R, 0, none⟩)] w fun e w' => (∃ x : Int, e = .returned (.int .u64 x)) ∧ Rd w' R ad len cap ∧ Only R w w' := by
 have H := toH h
 clear h
 go_enter Tryz.func104, Tryz.ntmps104
 go_wp2
 go_loopw [3, 4] (fun v i wr => ∃ (x : Int) (k : Nat), v = .int .u64 x ∧ i = .int .i64 (k : Int) ∧ k ≤ 8 ∧ Hid (Rd wr R ad len cap) ∧ Hid (Only R w wr)) (fun _ i _ => 8 - (intOf i).toNat)
 case atStart => exact ⟨0, 0, rfl, rfl, by omega, H, Only.refl _ _⟩
 case round =>
  obtain ⟨x, k, rfl, rfl, hk, HR, HO⟩ := hrel
  by_cases hlt : k < 8
  ·have hk1 : (k : Int) < 8 := by omega
   go_wp2_with fail
   refine (next_any R ad len cap _ HR.out).mono ?_
   rintro e w1 ⟨⟨y, rfl, hy0, hy1⟩, hR1, hO1⟩
   have HR1 := toH hR1
   have HO1 : Hid (Only R w w1) := HO.out.trans hO1
   clear hR1 hO1
   go_wp2
   go_roundw
   case rel => exact ⟨_, k + 1, rfl, by go_num, by omega, HR1, HO1⟩
   case measure => first | (simp [intOf]; done) | (simp [intOf]; omega)
  ·have hk1 : ¬ (k : Int) < 8 := by omega
   go_wp2
   go_ret
   exact ⟨⟨x, rfl⟩, HR.out, HO.out⟩
set_option maxHeartbeats 4000000 in
theorem near_any (R : Nat) (ad : Option Addr) (len cap : Nat) (w : World) (h : Rd w R ad len cap) :
  Calls Tryz.prog 80 #[.pointer (some ⟨R, 0, none⟩), .int .i64 1, .int .i64 6] w fun e w' => (∃ x : Int, e = .returned (.int .i64 x)) ∧ Rd w' R ad len cap ∧ Only R w w' := by
 have H := toH h
 clear h
 go_enter Tryz.func80, Tryz.ntmps80
 go_wp2_with fail
 refine (below_nat R ad len cap 8 _ H.out (by omega) (by omega)).mono ?_
 rintro e w1 ⟨⟨x, rfl, hx⟩, hR1, hO1⟩
 have HR1 := toH hR1
 have HO1 := toH hO1
 clear hR1 hO1
 by_cases h0 : x = 0
 ·subst h0
  go_wp2
  go_ret
  exact ⟨⟨_, rfl⟩, HR1.out, HO1.out⟩
 ·have h00 : ((x : Int) == 0) = false := by simp; omega
  by_cases h1 : x = 1
  ·subst h1
   go_wp2
   go_ret
   exact ⟨⟨_, rfl⟩, HR1.out, HO1.out⟩
  ·have h11 : ((x : Int) == 1) = false := by simp; omega
   go_wp2_with fail
   refine (drawWord_any R ad len cap _ HR1.out).mono ?_
   rintro e w2 ⟨⟨y, rfl⟩, hR2, hO2⟩
   have HR2 := toH hR2
   have HO2 : Hid (Only R w w2) := HO1.out.trans hO2
   clear hR2 hO2
   go_wp2
   go_ret
   exact ⟨⟨_, rfl⟩, HR2.out, HO2.out⟩
set_option maxHeartbeats 4000000 in
theorem off_any (R : Nat) (ad : Option Addr) (len cap : Nat) (w : World) (h : Rd w R ad len cap) :
  Calls Tryz.prog 49 #[.pointer (some ⟨R, 0, none⟩), .int .i64 1, .int .i64 6] w fun e w' => (∃ x : Int, e = .returned (.int .i64 x)) ∧ Rd w' R ad len cap ∧ Only R w w' := by
 have H := toH h
 clear h
 go_enter Tryz.func49, Tryz.ntmps49
 go_wp2_with fail
 refine (once_any R ad len cap 24 _ H.out (by omega) (by omega)).mono ?_
 rintro e w1 ⟨⟨q, rfl⟩, hR1, hO1⟩
 have HR1 := toH hR1
 have HO1 := toH hO1
 have hRw := hR1.lt
 clear hR1 hO1
 cases q with
 | false =>
  go_wp2_with fail
  refine (near_any R ad len cap _ HR1.out).mono ?_
  rintro e w2 ⟨⟨y, rfl⟩, hR2, hO2⟩
  have HR2 := toH hR2
  have HO2 : Hid (Only R w w2) := HO1.out.trans hO2
  clear hR2 hO2
  go_wp2
  go_ret
  exact ⟨⟨_, rfl⟩, HR2.out, HO2.out⟩
 | true =>
  obtain ⟨W0, hW0⟩ : ∃ W0, W0 = w1.alloc (.cells #[.int .i64 0, .int .i64 7, .int .i64 (-9223372036854775808), .int .i64 9223372036854775807] 2) := ⟨_, rfl⟩
  have HR0 : Hid (Rd W0 R ad len cap) := by show Rd _ _ _ _ _; rw [hW0]; exact HR1.out.alloc _
  have HO0 : Hid (Only R w W0) := by show Only _ _ _; rw [hW0]; exact HO1.out.alloc _
  have HC0 : Hid (w1.heap.size < W0.heap.size ∧ ∀ o, o < 4 → ∃ z : Int, W0.cell? ⟨w1.heap.size, o, none⟩ = some (.int .i64 z)) := by
   show _ ∧ _
   rw [hW0]
   refine ⟨by simp, fun o ho => ?_⟩
   have : o = 0 ∨ o = 1 ∨ o = 2 ∨ o = 3 := by omega
   rcases this with rfl | rfl | rfl | rfl <;> exact ⟨_, by simp; rfl⟩
  go_wp2_with fail
  rw [← hW0]; clear hW0
  refine (below_nat R ad len cap 4 _ HR0.out (by omega) (by omega)).mono ?_
  rintro e w2 ⟨⟨x, rfl, hx⟩, hR2, hO2⟩
  obtain ⟨z, hz⟩ := HC0.out.2 x hx
  have hz2 : w2.cell? ⟨w1.heap.size, x, none⟩ = some (.int .i64 z) := by rw [hO2.cell HC0.out.1 (by omega)]; exact hz
  have HR2 := toH hR2
  have HO2 : Hid (Only R w w2) := HO0.out.trans hO2
  have hx0 : (0 : Int) ≤ (x : Int) := by omega
  have hx1 : (x : Int) < 4 := by omega
  clear hR2 hO2 hz HC0 HR0 HO0
  go_wp2
  go_ret
  exact ⟨⟨z, rfl⟩, HR2.out, HO2.out⟩
end Go.Proofs.YtkpefjefodkddaaGreat
namespace Go.Proofs.YtkpefjefodkddaaGreat
open Go.ChangeShapes Go.WideShapes Go.ChangeAt Go.RowKit
open Pl
structure Al where
 t : ByteArray
 s : ByteArray
def Al.fits (a : Al) : Prop := a.t.size ≤ maxLen ∧ a.s.size ≤ maxLen
def At2 (w : World) (b off : Nat) (a : Al) : Prop := w.cell? ⟨b, off, none⟩ = some (.string a.t) ∧ w.cell? ⟨b, off + 1, none⟩ = some (.string a.s)
def SlA (w : World) (ad : Option Addr) (xs : List Al) : Prop := xs = [] ∨ ∃ b off, ad = some ⟨b, off, none⟩ ∧ b < w.heap.size ∧ ∀ (i : Nat) (h : i < xs.length), At2 w b (off + i * 2) xs[i]
def SlI (w : World) (ad : Option Addr) (zs : List Int) : Prop := zs = [] ∨ ∃ b off, ad = some ⟨b, off, none⟩ ∧ b < w.heap.size ∧ ∀ (i : Nat) (h : i < zs.length), w.cell? ⟨b, off + i, none⟩ = some (.int .i64 zs[i])
theorem At2.same {w w' : World} {b off : Nat} {a : Al} (h : At2 w b off a) (hc : ∀ o, w'.cell? ⟨b, o, none⟩ = w.cell? ⟨b, o, none⟩) : At2 w' b off a := ⟨(hc _).trans h.1, (hc _).trans h.2⟩
theorem SlA.below {w w' : World} {ad : Option Addr} {xs : List Al} (h : SlA w ad xs) (hB : Below w.heap.size w w') : SlA w' ad xs := by
 rcases h with h | ⟨b, off, e, hb, hr⟩
 ·exact .inl h
 ·exact .inr ⟨b, off, e, Nat.lt_of_lt_of_le hb hB.size, fun i hi => (hr i hi).same fun o => hB.cell (p := ⟨b, o, none⟩) hb⟩
theorem SlI.below {w w' : World} {ad : Option Addr} {zs : List Int} (h : SlI w ad zs) (hB : Below w.heap.size w w') : SlI w' ad zs := by
 rcases h with h | ⟨b, off, e, hb, hr⟩
 ·exact .inl h
 ·exact .inr ⟨b, off, e, Nat.lt_of_lt_of_le hb hB.size, fun i hi => (hB.cell (p := ⟨b, off + i, none⟩) hb).trans (hr i hi)⟩
structure Ex where
 kind : Int
 allow : List Al
 over : ByteArray
 name : ByteArray
 kids : List Int
structure ER where
 e : Ex
 adA : Option Addr
 capA : Nat
 adK : Option Addr
 capK : Nat
def ER.val (r : ER) : Value := .agg #[.int .i64 r.e.kind, .slice r.adA r.e.allow.length r.capA, .string r.e.over, .string r.e.name, .slice r.adK r.e.kids.length r.capK]
def ER.ok (w : World) (r : ER) : Prop := SlA w r.adA r.e.allow ∧ SlI w r.adK r.e.kids
def Ex.fits (e : Ex) : Prop := (∀ a ∈ e.allow, a.fits) ∧ e.over.size ≤ maxLen ∧ e.name.size ≤ maxLen ∧ e.allow.length ≤ maxLen ∧ e.kids.length ≤ maxLen
theorem ER.ok.below {w w' : World} {r : ER} (h : r.ok w) (hB : Below w.heap.size w w') : r.ok w' := ⟨h.1.below hB, h.2.below hB⟩
def At5 (w : World) (b off : Nat) (r : ER) : Prop :=
 w.cell? ⟨b, off, none⟩ = some (.int .i64 r.e.kind) ∧ w.cell? ⟨b, off + 1, none⟩ = some (.slice r.adA r.e.allow.length r.capA) ∧ w.cell? ⟨b, off + 2, none⟩ = some (.string r.e.over) ∧
 w.cell? ⟨b, off + 3, none⟩ = some (.string r.e.name) ∧ w.cell? ⟨b, off + 4, none⟩ = some (.slice r.adK r.e.kids.length r.capK)
theorem At5.same {w w' : World} {b off : Nat} {r : ER} (h : At5 w b off r) (hc : ∀ o, w'.cell? ⟨b, o, none⟩ = w.cell? ⟨b, o, none⟩) : At5 w' b off r := by
 obtain ⟨h0, h1, h2, h3, h4⟩ := h
 exact ⟨(hc _).trans h0, (hc _).trans h1, (hc _).trans h2, (hc _).trans h3, (hc _).trans h4⟩
def SlE (w : World) (ad : Option Addr) (rs : List ER) : Prop := rs = [] ∨ ∃ b off, ad = some ⟨b, off, none⟩ ∧ b < w.heap.size ∧ (∀ (i : Nat) (h : i < rs.length), At5 w b (off + i * 5) rs[i]) ∧ ∀ r ∈ rs, r.ok w
theorem SlE.below {w w' : World} {ad : Option Addr} {rs : List ER} (h : SlE w ad rs) (hB : Below w.heap.size w w') : SlE w' ad rs := by
 rcases h with h | ⟨b, off, e, hb, hr, hk⟩
 ·exact .inl h
 ·exact .inr ⟨b, off, e, Nat.lt_of_lt_of_le hb hB.size, fun i hi => (hr i hi).same fun o => hB.cell (p := ⟨b, o, none⟩) hb, fun r hr => (hk r hr).below hB⟩
def exs (rs : List ER) : List Ex := rs.map ER.e
theorem exs_len (rs : List ER) : (exs rs).length = rs.length := by simp [exs]
def setB' (s : ByteArray) : Bool := s.toList.isEmpty || nameB s
theorem setOk_any' (s : ByteArray) (w : World) (hs : s.size ≤ maxLen) :
  Calls Tryz.prog 69 #[.string s] w fun e w' => e = .returned (.bool (setB' s)) ∧ w' = w := by
 go_enter Tryz.func69, Tryz.ntmps69
 go_wp2_with (go_at_call 68; refine (implName_any _ _ hs).mono ?_; rintro e w' ⟨rfl, rfl⟩)
 all_goals go_ret
 all_goals exact ⟨ret_bool (by simp [setB', *]), rfl⟩
end Go.Proofs.YtkpefjefodkddaaGreat
namespace Go.Proofs.YtkpefjefodkddaaGreat
open Pl
def alEq (x y : Al) : Bool := x.t.toList == y.t.toList && x.s.toList == y.s.toList
def alB (a : Al) : Bool := nameB a.t && setB' a.s
def inPre (xs : List Al) (k : Nat) (a : Al) : Bool := (xs.take k).any fun x => alEq x a
theorem inPre_succ (xs : List Al) (k : Nat) (a : Al) (h : k < xs.length) : inPre xs (k + 1) a = (inPre xs k a || alEq xs[k] a) := by
 unfold inPre; rw [List.take_succ_eq_append_getElem h, List.any_append]; simp
theorem inPre_zero (xs : List Al) (a : Al) : inPre xs 0 a = false := by simp [inPre]
def upA (xs : List Al) : Nat → Bool
 | 0 => true
 | k + 1 => upA xs k && (xs[k]?.map fun a => alB a && !inPre xs k a).getD true
theorem upA_succ (xs : List Al) (k : Nat) (h : k < xs.length) : upA xs (k + 1) = (upA xs k && (alB xs[k] && !inPre xs k xs[k])) := by
 simp [upA, h]
theorem upA_bad (xs : List Al) (k : Nat) (h : k < xs.length) (hb : (alB xs[k] && !inPre xs k xs[k]) = false) : ∀ n, k < n → upA xs n = false
 | 0, hn => by omega
 | n + 1, hn => by
  by_cases e : n = k
  ·subst e; rw [upA_succ _ _ h, hb]; simp
  ·simp [upA, upA_bad xs k h hb n (by omega)]
def allowB (xs : List Al) : Bool := decide (1 ≤ xs.length) && decide (xs.length ≤ 6) && upA xs xs.length
def nodeB (e : Ex) : Bool :=
 if e.kind = 1 then allowB e.allow && e.over.toList.isEmpty && e.name.toList.isEmpty && decide (e.kids.length = 0)
 else if e.kind = 2 then nameB e.name && decide (e.allow.length = 0) && e.over.toList.isEmpty && decide (e.kids.length = 0)
 else if e.kind = 3 then nameB e.over && nameB e.name && decide (e.allow.length = 0) && decide (e.kids.length = 0)
 else if e.kind = 4 ∨ e.kind = 5 then decide (2 ≤ e.kids.length) && decide (e.kids.length ≤ 5) && decide (e.allow.length = 0) && e.over.toList.isEmpty && e.name.toList.isEmpty
 else if e.kind = 6 then decide (e.kids.length = 2) && decide (e.allow.length = 0) && e.over.toList.isEmpty && e.name.toList.isEmpty
 else false
def treeGo (f : Int → Int) : List Int → Int → Int
 | [], at' => at' + 1
 | k :: ks, at' => if at' < 0 ∨ k ≠ at' then -1 else if f at' < 0 then -1 else treeGo f ks (f at' - 1)
def kidsAt (es : List Ex) (n : Nat) : List Int := (es[n]?.map Ex.kids).getD []
def treeAt (es : List Ex) (n : Nat) : Int := treeGo (fun x => if _h : 0 ≤ x ∧ x.toNat < n then treeAt es x.toNat else -1) (kidsAt es n).reverse ((n : Int) - 1)
def treeF (es : List Ex) (n : Nat) (x : Int) : Int := if 0 ≤ x ∧ x.toNat < n then treeAt es x.toNat else -1
theorem treeAt_eq (es : List Ex) (n : Nat) : treeAt es n = treeGo (treeF es n) (kidsAt es n).reverse ((n : Int) - 1) := by
 rw [treeAt]
 rfl
theorem treeGo_le {f : Int → Int} (hf : ∀ x, 0 ≤ x → f x ≤ x) : ∀ (ks : List Int) (a : Int), -1 ≤ a → treeGo f ks a ≤ a + 1
 | [], a, _ => by simp [treeGo]
 | k :: ks, a, ha => by
  unfold treeGo
  split
  ·omega
  ·rename_i h
   split
   ·omega
   ·rename_i h2
    have h0 : 0 ≤ a := by omega
    have := treeGo_le hf ks (f a - 1) (by omega)
    have := hf a h0
    omega
theorem treeAt_le (es : List Ex) (n : Nat) : treeAt es n ≤ n := by
 induction n using Nat.strongRecOn with
 | ind n ih =>
  rw [treeAt_eq]
  have := treeGo_le (f := treeF es n) (fun x hx => by
   unfold treeF
   split
   ·rename_i h; have := ih x.toNat h.2; omega
   ·omega) (kidsAt es n).reverse ((n : Int) - 1) (by omega)
  omega
theorem treeF_le (es : List Ex) (n : Nat) (x : Int) (hx : 0 ≤ x) : treeF es n x ≤ x := by
 unfold treeF
 split
 ·have := treeAt_le es x.toNat; omega
 ·omega
theorem treeGo_covers {es : List Ex} {n : Nat} (ih : ∀ m, m < n → 0 ≤ treeAt es m → ∀ j : Nat, treeAt es m ≤ j → j ≤ m → 0 ≤ treeAt es j) :
  ∀ (ks : List Int) (a : Int), a < n → 0 ≤ treeGo (treeF es n) ks a → ∀ j : Nat, treeGo (treeF es n) ks a ≤ j → (j : Int) ≤ a → 0 ≤ treeAt es j
 | [], a, ha, h, j, h1, h2 => by simp [treeGo] at h1; omega
 | k :: ks, a, ha, h, j, h1, h2 => by
  unfold treeGo at h h1
  split at h
  ·omega
  ·rename_i c
   rw [if_neg c] at h1
   split at h
   ·omega
   ·rename_i c2
    rw [if_neg c2] at h1
    have h0 : 0 ≤ a := by omega
    have hF : treeF es n a = treeAt es a.toNat := by unfold treeF; rw [if_pos ⟨h0, by omega⟩]
    rw [hF] at h h1 c2
    by_cases hj : treeAt es a.toNat ≤ j
    ·exact ih a.toNat (by omega) (by omega) j hj (by omega)
    ·exact treeGo_covers ih ks (treeAt es a.toNat - 1) (by have := treeAt_le es a.toNat; omega) h j h1 (by omega)
theorem treeAt_covers (es : List Ex) (n : Nat) : 0 ≤ treeAt es n → ∀ j : Nat, treeAt es n ≤ j → j ≤ n → 0 ≤ treeAt es j := by
 induction n using Nat.strongRecOn with
 | ind n ih =>
  intro h j h1 h2
  by_cases e : j = n
  ·subst e; exact h
  ·rw [treeAt_eq] at h h1
   exact treeGo_covers ih _ _ (by omega) h j h1 (by omega)
def kidsIn (es : List Ex) (i : Nat) : Bool := (kidsAt es i).all fun k => decide (0 ≤ k) && decide (k ≤ (i : Int) - 1)
theorem treeGo_kids {es : List Ex} {n : Nat} : ∀ (ks : List Int) (a : Int), a < n → 0 ≤ treeGo (treeF es n) ks a → ∀ k ∈ ks, 0 ≤ k ∧ k ≤ a
 | [], _, _, _, k, hk => by cases hk
 | x :: ks, a, ha, h, k, hk => by
  unfold treeGo at h
  split at h
  ·omega
  ·rename_i c
   split at h
   ·omega
   ·rename_i c2
    have h0 : 0 ≤ a := by omega
    rcases List.mem_cons.1 hk with rfl | hk
    ·omega
    ·have hl := treeF_le es n a h0
     have := treeGo_kids ks (treeF es n a - 1) (by omega) h k hk
     omega
theorem kidsIn_of (es : List Ex) (i : Nat) (h : 0 ≤ treeAt es i) : kidsIn es i = true := by
 unfold kidsIn
 rw [List.all_eq_true]
 intro k hk
 rw [treeAt_eq] at h
 have := treeGo_kids _ _ (by omega) h k (by simpa using hk)
 simp; omega
def goodUp (es : List Ex) (n : Nat) : Prop := ∀ j, j < n → 0 ≤ treeAt es j
def own (es : List Ex) : Nat := (es.filter fun e => decide (e.kind = 1)).length
def ownUp (es : List Ex) (k : Nat) : Nat := own (es.take k)
theorem ownUp_succ (es : List Ex) (k : Nat) (h : k < es.length) : ownUp es (k + 1) = ownUp es k + (if es[k].kind = 1 then 1 else 0) := by
 unfold ownUp own
 rw [List.take_succ_eq_append_getElem h, List.filter_append, List.length_append]
 by_cases e : es[k].kind = 1 <;> simp [e]
theorem ownUp_le (es : List Ex) (k : Nat) : ownUp es k ≤ k := by
 unfold ownUp own
 exact Nat.le_trans (List.length_filter_le ..) (by simp; omega)
def nodesUp (es : List Ex) (k : Nat) : Bool := (es.take k).all nodeB
theorem nodesUp_succ (es : List Ex) (k : Nat) (h : k < es.length) : nodesUp es (k + 1) = (nodesUp es k && nodeB es[k]) := by
 unfold nodesUp; rw [List.take_succ_eq_append_getElem h, List.all_append]; simp
theorem nodes_bad (es : List Ex) (k : Nat) (h : k < es.length) (hb : nodeB es[k] = false) : es.all nodeB = false := by
 rw [Bool.eq_false_iff]; intro h2; rw [List.all_eq_true] at h2; have := h2 es[k] (List.getElem_mem h); rw [hb] at this; cases this
def kidsUp (es : List Ex) (k : Nat) : Bool := (List.range k).all (kidsIn es)
theorem kidsUp_succ (es : List Ex) (k : Nat) : kidsUp es (k + 1) = (kidsUp es k && kidsIn es k) := by simp [kidsUp, List.range_succ]
theorem kids_bad (es : List Ex) (k : Nat) (h : k < es.length) (hb : kidsIn es k = false) : kidsUp es es.length = false := by
 rw [Bool.eq_false_iff]; intro h2; unfold kidsUp at h2; rw [List.all_eq_true] at h2; have := h2 k (by simpa using h); rw [hb] at this; cases this
def specE (es : List Ex) : Bool := decide (1 ≤ es.length) && decide (es.length ≤ 15) && es.all nodeB && kidsUp es es.length && decide (own es ≤ 1) && decide (treeAt es (es.length - 1) = 0)
def allTrees (es : List Ex) : Bool := (List.range es.length).all fun j => decide (0 ≤ treeAt es j)
def implE (es : List Ex) : Bool := decide (1 ≤ es.length) && decide (es.length ≤ 15) && es.all nodeB && decide (own es ≤ 1) && (allTrees es && decide (treeAt es (es.length - 1) = 0))
theorem spec_impl (es : List Ex) : specE es = implE es := by
 by_cases h1 : 1 ≤ es.length
 ·by_cases ht : treeAt es (es.length - 1) = 0
  ·have ha : allTrees es = true := by
    unfold allTrees
    rw [List.all_eq_true]
    intro j hj
    have hj' : j < es.length := by simpa using hj
    simpa using treeAt_covers es (es.length - 1) (by omega) j (by omega) (by omega)
   have hk : kidsUp es es.length = true := by
    unfold kidsUp
    rw [List.all_eq_true]
    intro j hj
    have hj' : j < es.length := by simpa using hj
    exact kidsIn_of es j (treeAt_covers es (es.length - 1) (by omega) j (by omega) (by omega))
   simp [specE, implE, ht, ha, hk, h1]
  ·simp [specE, implE, ht]
 ·simp [specE, implE, h1]
end Go.Proofs.YtkpefjefodkddaaGreat
