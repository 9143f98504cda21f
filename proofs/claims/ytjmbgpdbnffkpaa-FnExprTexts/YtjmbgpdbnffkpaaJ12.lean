/- The drawing of an expression's text: some short text. A number about the nodes' numbers. -/
import Derived.Test.YtjmbgpdbnffkpaaJ11
import Derived.Test.YtjmbgpdbnffkpaaHurt
import Derived.Test.YtjmbgpdbnffkpaaJ9
namespace Go.Proofs.Ytjmbgpdbnffkpaa
set_option maxRecDepth 100000
set_option linter.unusedVariables false
open Go.ChangeShapes Go.WideShapes Go.ChangeAt Go.RowKit
open Pl

set_option maxHeartbeats 4000000 in
theorem drawReadExpr_any (ad : Option Addr) (len cap : Nat) (w : World) (h : Bytes w ad len) :
    Calls Try.prog 17 #[.slice ad len cap] w fun e w' => (∃ t : ByteArray, e = .returned (.string t) ∧ t.size ≤ 400) ∧ Below w.heap.size w w' := by
  have H := toH h
  clear h
  go_enter Try.func17, Try.ntmps17
  go_wp2_with fail
  refine (open_any ad len cap _ H.out).mono ?_
  rintro e w1 ⟨rfl, hR1, hb1⟩
  have HR1 := toH hR1
  have HB1 := toH hb1
  clear hR1 hb1
  go_wp2_with fail
  refine (relText_190 w.heap.size ad len cap 2 _ (by omega) HR1.out).mono ?_
  rintro e w2 ⟨⟨s, rfl, hs⟩, hR2, hO2⟩
  have HR2 := toH hR2
  have HB2 : Hid (Below w.heap.size w w2) := Only.toBelow HB1.out hO2 HB1.out.size (Nat.le_refl _)
  clear hR2 hO2 HR1 HB1
  go_wp2_with fail
  refine (below_nat w.heap.size ad len cap 5 _ HR2.out (by omega) (by omega)).mono ?_
  rintro e w3 ⟨⟨x, rfl, hx⟩, hR3, hO3⟩
  have HR3 := toH hR3
  have HB3 : Hid (Below w.heap.size w w3) := Only.toBelow HB2.out hO3 HB2.out.size (Nat.le_refl _)
  have hRw := hR3.lt
  clear hR3 hO3 HR2 HB2
  by_cases h0 : x = 0
  · subst h0
    go_wp2_with fail
    refine (hurt_190 w.heap.size ad len cap s _ HR3.out hs).mono ?_
    rintro e w4 ⟨⟨t, rfl, ht⟩, hR4, hO4⟩
    have HB4 : Hid (Below w.heap.size w w4) := Only.toBelow HB3.out hO4 HB3.out.size (Nat.le_refl _)
    clear hR4 hO4 HR3 HB3
    go_wp2
    go_ret
    exact ⟨⟨t, rfl, ht⟩, HB4.out⟩
  have h00 : ((x : Int) == 0) = false := by simp; omega
  by_cases h1 : x = 1
  · subst h1
    obtain ⟨xs, hxs⟩ : ∃ xs : List ByteArray, xs = [⟨#[]⟩, ⟨#[97]⟩, ⟨#[97, 32, 124, 32, 98, 32, 38, 32, 99]⟩, ⟨#[40, 97, 41]⟩, ⟨#[97, 32, 45, 32, 98, 32, 45, 32, 99]⟩, ⟨#[116, 104, 105, 115, 40, 41]⟩, ⟨#[116, 104, 105, 115, 40, 117, 115, 101, 114, 35, 41]⟩, ⟨#[97, 45, 62]⟩, ⟨#[45, 62, 97]⟩, ⟨#[97, 32, 124, 98]⟩, ⟨#[116, 104, 105, 115, 40, 97, 41, 32, 124, 32, 116, 104, 105, 115, 40, 98, 41]⟩, ⟨#[40, 97, 32, 124, 32, 98, 41, 32, 38, 32, 40, 99, 32, 45, 32, 100, 41]⟩] := ⟨_, rfl⟩
    obtain ⟨W0, hW0⟩ : ∃ W0, W0 = w3.alloc (.cells (xs.map Value.string).toArray 9) := ⟨_, rfl⟩
    have HS0 : Hid (StrB W0 w.heap.size w3.heap.size 12 24) := by
      show StrB _ _ _ _ _
      rw [hW0]
      have := strB_new w3 w.heap.size 24 hRw (t := 9) (xs := xs) (by rw [hxs]; decide)
      rwa [show xs.length = 12 by rw [hxs]; rfl] at this
    have HR0 : Hid (Rd W0 w.heap.size ad len cap) := by show Rd _ _ _ _ _; rw [hW0]; exact HR3.out.alloc _
    have HB0 : Hid (Below w.heap.size w W0) := by show Below _ _ _; rw [hW0]; exact HB3.out.alloc HB3.out.size _
    have hW1 : W0 = w3.alloc (.cells #[.string ⟨#[]⟩, .string ⟨#[97]⟩, .string ⟨#[97, 32, 124, 32, 98, 32, 38, 32, 99]⟩, .string ⟨#[40, 97, 41]⟩, .string ⟨#[97, 32, 45, 32, 98, 32, 45, 32, 99]⟩, .string ⟨#[116, 104, 105, 115, 40, 41]⟩, .string ⟨#[116, 104, 105, 115, 40, 117, 115, 101, 114, 35, 41]⟩, .string ⟨#[97, 45, 62]⟩, .string ⟨#[45, 62, 97]⟩, .string ⟨#[97, 32, 124, 98]⟩, .string ⟨#[116, 104, 105, 115, 40, 97, 41, 32, 124, 32, 116, 104, 105, 115, 40, 98, 41]⟩, .string ⟨#[40, 97, 32, 124, 32, 98, 41, 32, 38, 32, 40, 99, 32, 45, 32, 100, 41]⟩] 9) := by rw [hW0, hxs]; rfl
    clear hW0 hxs HR3 HB3
    go_wp2_with fail
    rw [← hW1]; clear hW1
    refine (below_nat w.heap.size ad len cap 12 _ HR0.out (by omega) (by omega)).mono ?_
    rintro e w4 ⟨⟨y, rfl, hy⟩, hR4, hO4⟩
    obtain ⟨-, hlt, hcells⟩ := HS0.out.only hO4
    obtain ⟨t, ht, hts⟩ := hcells y hy
    have HB4 : Hid (Below w.heap.size w w4) := Only.toBelow HB0.out hO4 HB0.out.size (Nat.le_refl _)
    have hy0 : (0 : Int) ≤ (y : Int) := by omega
    have hy1 : (y : Int) < 12 := by omega
    clear hR4 hO4 hcells HS0 HR0 HB0
    go_wp2
    go_ret
    exact ⟨⟨t, rfl, by omega⟩, HB4.out⟩
  have h11 : ((x : Int) == 1) = false := by simp; omega
  go_wp2
  go_ret
  exact ⟨⟨s, rfl, by omega⟩, HB3.out⟩

set_option maxHeartbeats 4000000 in
theorem near0_any (n : Int) (hn : n = 0 ∨ n = 1 ∨ n = 2 ∨ n = 3 ∨ n = 4 ∨ n = 5 ∨ n = 6 ∨ n = 7 ∨ n = 8 ∨ n = 9 ∨ n = 10 ∨ n = 11 ∨ n = 12 ∨ n = 13 ∨ n = 14) (R : Nat) (ad : Option Addr) (len cap : Nat) (w : World) (h : Rd w R ad len cap) :
    Calls Try.prog 98 #[.pointer (some ⟨R, 0, none⟩), .int .i64 0, .int .i64 n] w fun e w' => (∃ x : Int, e = .returned (.int .i64 x)) ∧ Rd w' R ad len cap ∧ Only R w w' := by
  have H := toH h
  clear h
  rcases hn with rfl | rfl | rfl | rfl | rfl | rfl | rfl | rfl | rfl | rfl | rfl | rfl | rfl | rfl | rfl
  all_goals (
    go_enter Try.func98, Try.ntmps98
    go_wp2_with fail
    refine (below_nat R ad len cap 8 _ H.out (by omega) (by omega)).mono ?_
    rintro e w1 ⟨⟨x, rfl, hx⟩, hR1, hO1⟩
    have HR1 := toH hR1
    have HO1 := toH hO1
    clear hR1 hO1
    by_cases h0 : x = 0
    · subst h0
      go_wp2
      go_ret
      exact ⟨⟨_, rfl⟩, HR1.out, HO1.out⟩
    · have h00 : ((x : Int) == 0) = false := by simp; omega
      by_cases h1 : x = 1
      · subst h1
        go_wp2
        go_ret
        exact ⟨⟨_, rfl⟩, HR1.out, HO1.out⟩
      · have h11 : ((x : Int) == 1) = false := by simp; omega
        go_wp2_with fail
        refine (drawWord_any R ad len cap _ HR1.out).mono ?_
        rintro e w2 ⟨⟨y, rfl⟩, hR2, hO2⟩
        have HR2 := toH hR2
        have HO2 : Hid (Only R w w2) := HO1.out.trans hO2
        clear hR2 hO2
        go_wp2
        go_ret
        exact ⟨⟨_, rfl⟩, HR2.out, HO2.out⟩)
set_option maxHeartbeats 4000000 in
theorem off0_any (n : Nat) (hn : n ≤ 14) (R : Nat) (ad : Option Addr) (len cap : Nat) (w : World) (h : Rd w R ad len cap) :
    Calls Try.prog 71 #[.pointer (some ⟨R, 0, none⟩), .int .i64 0, .int .i64 (n : Int)] w fun e w' => (∃ x : Int, e = .returned (.int .i64 x)) ∧ Rd w' R ad len cap ∧ Only R w w' := by
  have H := toH h
  clear h
  go_enter Try.func71, Try.ntmps71
  go_wp2_with fail
  refine (once_any R ad len cap 24 _ H.out (by omega) (by omega)).mono ?_
  rintro e w1 ⟨⟨q, rfl⟩, hR1, hO1⟩
  have HR1 := toH hR1
  have HO1 := toH hO1
  have hRw := hR1.lt
  clear hR1 hO1
  cases q with
  | false =>
    go_wp2_with fail
    refine (near0_any (n : Int) (by omega) R ad len cap _ HR1.out).mono ?_
    rintro e w2 ⟨⟨y, rfl⟩, hR2, hO2⟩
    have HR2 := toH hR2
    have HO2 : Hid (Only R w w2) := HO1.out.trans hO2
    clear hR2 hO2
    go_wp2
    go_ret
    exact ⟨⟨_, rfl⟩, HR2.out, HO2.out⟩
  | true =>
    obtain ⟨W0, hW0⟩ : ∃ W0, W0 = w1.alloc (.cells #[.int .i64 (-1), .int .i64 ((n : Int) + 1), .int .i64 (-9223372036854775808), .int .i64 9223372036854775807] 2) := ⟨_, rfl⟩
    have HR0 : Hid (Rd W0 R ad len cap) := by show Rd _ _ _ _ _; rw [hW0]; exact HR1.out.alloc _
    have HO0 : Hid (Only R w W0) := by show Only _ _ _; rw [hW0]; exact HO1.out.alloc _
    have HC0 : Hid (w1.heap.size < W0.heap.size ∧ ∀ o, o < 4 → ∃ z : Int, W0.cell? ⟨w1.heap.size, o, none⟩ = some (.int .i64 z)) := by
      show _ ∧ _
      rw [hW0]
      refine ⟨by simp, fun o ho => ?_⟩
      have : o = 0 ∨ o = 1 ∨ o = 2 ∨ o = 3 := by omega
      rcases this with rfl | rfl | rfl | rfl <;> exact ⟨_, by simp; rfl⟩
    go_wp2_with fail
    rw [← hW0]; clear hW0
    refine (below_nat R ad len cap 4 _ HR0.out (by omega) (by omega)).mono ?_
    rintro e w2 ⟨⟨x, rfl, hx⟩, hR2, hO2⟩
    obtain ⟨z, hz⟩ := HC0.out.2 x hx
    have hz2 : w2.cell? ⟨w1.heap.size, x, none⟩ = some (.int .i64 z) := by rw [hO2.cell HC0.out.1 (by omega)]; exact hz
    have HR2 := toH hR2
    have HO2 : Hid (Only R w w2) := HO0.out.trans hO2
    have hx0 : (0 : Int) ≤ (x : Int) := by omega
    have hx1 : (x : Int) < 4 := by omega
    clear hR2 hO2 hz HC0 HR0 HO0
    go_wp2
    go_ret
    exact ⟨⟨z, rfl⟩, HR2.out, HO2.out⟩
end Go.Proofs.Ytjmbgpdbnffkpaa

/- A drawn expression in memory: the row of its nodes, each with lists of its own; a node that is changed. -/
namespace Go.Proofs.Ytjmbgpdbnffkpaa
set_option maxRecDepth 100000
set_option linter.unusedVariables false
open Go.ChangeShapes Go.WideShapes Go.ChangeAt Go.RowKit
open Pl

structure EQm (w : World) (base g : Nat) (qs : List ER) : Prop where
  lt : base ≤ g ∧ g < w.heap.size
  free : Free w g
  row : ∀ (x : Nat) (h : x < qs.length), At5 w g (x * 5) qs[x]
  zA : ∀ q ∈ qs, q.e.allow ≠ [] → ∃ k, q.adA = some ⟨k, 0, none⟩
  zK : ∀ q ∈ qs, q.e.kids ≠ [] → ∃ k, q.adK = some ⟨k, 0, none⟩
  ok : ∀ q ∈ qs, q.ok w
  lie : ∀ q ∈ qs, ∀ k, inR q k → base ≤ k ∧ k < w.heap.size ∧ k ≠ g
  one : ∀ q ∈ qs, ∀ k, bA q k → ¬ bK q k
  two : ∀ (x y : Nat) (hx : x < qs.length) (hy : y < qs.length), x ≠ y → ∀ k, inR qs[x] k → ¬ inR qs[y] k
  cK : ∀ q ∈ qs, KidO w base q
theorem RdF.eqm {w : World} {R : Nat} {s : ByteArray} {st : RS} {base : Nat} {v : Value} {qs : List ER} (h : RdF w R s st base v qs) (hne : qs ≠ []) : ∃ g cp, v = .slice (some ⟨g, 0, none⟩) qs.length cp ∧ EQm w base g qs := by
  obtain ⟨ad, cap, hv, hsl⟩ := h.slE
  rcases h.own.2 with ⟨-, h0⟩ | ⟨g, cp, cur, hvg, hbg, hg, hnc, -⟩
  · exact absurd (List.length_eq_zero_iff.1 h0) hne
  have hlt := h.own.lt g (by rw [hvg]; rfl)
  have hown := h.own
  rw [hvg] at hown
  refine ⟨g, cp, hvg, ⟨hlt, fun y => hown.frozenAt y, fun x hx => ?_, h.zA, h.zK, h.ok, fun q hq k hk => ?_, h.one, h.two, h.cK⟩⟩
  · rw [hv] at hvg
    injection hvg with e1 e2 e3
    rcases hsl with e | ⟨b, off, e, hb, hr, hk⟩
    · exact absurd e hne
    · rw [e1] at e; injection e with e; injection e with a1 a2
      subst a1; subst a2
      have := hr x hx
      rwa [Nat.zero_add] at this
  · obtain ⟨a1, a2, a3, a4⟩ := h.lie q hq k hk
    exact ⟨a1, a2, fun e => a4 (by rw [hvg, e]; rfl)⟩
theorem EQm.heap {w w' : World} {base g : Nat} {qs : List ER} (h : EQm w base g qs) (hs : w.heap.size ≤ w'.heap.size) (hh : ∀ k, base ≤ k → k < w.heap.size → w'.heap[k]? = w.heap[k]?) : EQm w' base g qs where
  lt := ⟨h.lt.1, Nat.lt_of_lt_of_le h.lt.2 hs⟩
  free := free_heap h.free (hh g h.lt.1 h.lt.2)
  row x hx := (h.row x hx).same fun o => World.cell?_of_block (w := w) (a := ⟨g, o, none⟩) (hh g h.lt.1 h.lt.2)
  zA := h.zA
  zK := h.zK
  ok q hq := ok_heap (h.ok q hq) hs (h.zA q hq) (h.zK q hq) fun k hk => hh k (h.lie q hq k hk).1 (h.lie q hq k hk).2.1
  lie q hq k hk := ⟨(h.lie q hq k hk).1, Nat.lt_of_lt_of_le (h.lie q hq k hk).2.1 hs, (h.lie q hq k hk).2.2⟩
  one := h.one
  two := h.two
  cK q hq := (h.cK q hq).heap (h.zK q hq) fun k hk => hh k (h.lie q hq k hk).1 (h.lie q hq k hk).2.1
theorem EQm.only {w w' : World} {base g R : Nat} {qs : List ER} (h : EQm w base g qs) (hR : R < base) (ho : Only R w w') : EQm w' base g qs :=
  h.heap ho.size fun k h1 h2 => ho.block k h2 (fun e => by injection e with e; omega)
/-- the row where one node has become another -/
theorem put_sl {w' : World} {g : Nat} {qs : List ER} {i : Nat} (hi : i < qs.length) {q' : ER} (hb : g < w'.heap.size) (row : ∀ (x : Nat) (h : x < qs.length), x ≠ i → At5 w' g (x * 5) qs[x]) (ok : ∀ (x : Nat) (h : x < qs.length), x ≠ i → qs[x].ok w') (h5 : At5 w' g (i * 5) q') (hok : q'.ok w') : SlE w' (some ⟨g, 0, none⟩) (qs.set i q') := by
  refine .inr ⟨g, 0, rfl, hb, fun x hx => ?_, fun r hr => ?_⟩
  · rw [List.length_set] at hx
    rw [Nat.zero_add, List.getElem_set]
    by_cases e : i = x
    · subst e; rw [if_pos rfl]; exact h5
    · rw [if_neg e]; exact row x hx (Ne.symm e)
  · obtain ⟨x, hx, rfl⟩ := List.getElem_of_mem hr
    rw [List.length_set] at hx
    rw [List.getElem_set]
    by_cases e : i = x
    · subst e; rw [if_pos rfl]; exact hok
    · rw [if_neg e]; exact ok x hx (Ne.symm e)
theorem cell_put {w : World} {g o p : Nat} {v : Value} (h : p ≠ o) : (w.setCell ⟨g, o, none⟩ v).cell? ⟨g, p, none⟩ = w.cell? ⟨g, p, none⟩ := World.cell?_setCell_other w _ _ _ (by intro e; injection e with _ e; omega)
/-- one cell of node i is written -/
theorem EQm.put {w : World} {base g : Nat} {qs : List ER} (h : EQm w base g qs) {i j : Nat} (hi : i < qs.length) (hj : j < 5) {v : Value} {q' : ER} (h5 : At5 (w.setCell ⟨g, i * 5 + j, none⟩ v) g (i * 5) q') (hok : q'.ok (w.setCell ⟨g, i * 5 + j, none⟩ v)) : SlE (w.setCell ⟨g, i * 5 + j, none⟩ v) (some ⟨g, 0, none⟩) (qs.set i q') := by
  refine put_sl hi (by simpa using h.lt.2) (fun x hx hne => ?_) (fun x hx hne => ?_) h5 hok
  · obtain ⟨h0, h1, h2, h3, h4⟩ := h.row x hx
    refine ⟨?_, ?_, ?_, ?_, ?_⟩
    · rw [cell_put (by omega)]; exact h0
    · rw [cell_put (by omega)]; exact h1
    · rw [cell_put (by omega)]; exact h2
    · rw [cell_put (by omega)]; exact h3
    · rw [cell_put (by omega)]; exact h4
  · have hm := List.getElem_mem hx
    exact ok_heap (h.ok _ hm) (by simp) (h.zA _ hm) (h.zK _ hm) fun k hk => Below.heap_setCell w ⟨g, _, none⟩ v k (h.lie _ hm k hk).2.2
def GoodQ (qs : List ER) : Prop := qs.length ≤ 15 ∧ ∀ r ∈ qs, r.e.light ∧ r.e.fits ∧ r.e.allow.length ≤ r.capA
theorem good_set {qs : List ER} {i : Nat} {q' : ER} (h : GoodQ qs) (hq : q'.e.light ∧ q'.e.fits ∧ q'.e.allow.length ≤ q'.capA) : GoodQ (qs.set i q') := by
  refine ⟨by rw [List.length_set]; exact h.1, fun r hr => ?_⟩
  rcases List.mem_or_eq_of_mem_set hr with h1 | h1
  · exact h.2 r h1
  · subst h1; exact hq
end Go.Proofs.Ytjmbgpdbnffkpaa
