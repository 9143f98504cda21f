/- Contract of the document's reader: an item that is a name, or a name over another one. -/
import Derived.Test.YtjmbgpdbnffkpaaJ8
import Derived.Test.YtjmbgpdbnffkpaaSpecExpr
namespace Go.Proofs.Ytjmbgpdbnffkpaa
set_option maxRecDepth 100000
open Go.ChangeShapes Go.WideShapes Go.ChangeAt Go.RowKit
open Pl

theorem Onl.at_new {R : Nat} {v : Value} {w w' : World} (h : Onl R v w w') {X : Nat} (hX : w.heap.size ≤ X) (o : Nat) (u : Value) : Onl R v w (w'.setCell ⟨X, o, none⟩ u) :=
  ⟨h.os, h.tape, h.output, by simpa using h.size, fun k hk h1 h2 => (Below.heap_setCell w' _ _ k (by show k ≠ X; omega)).trans (h.block k hk h1 h2)⟩
theorem RdC.other {w : World} {R : Nat} {s : ByteArray} {p : Nat} {bad : Bool} {v : Value} (h : RdC w R s p bad v) {X : Nat} (hX : X ≠ R) (o : Nat) (u : Value) : RdC (w.setCell ⟨X, o, none⟩ u) R s p bad v :=
  ⟨by simpa using h.lt, by rw [World.cell?_of_block (w := w) (Below.heap_setCell w _ _ R (Ne.symm hX))]; exact h.c0, by rw [World.cell?_of_block (w := w) (Below.heap_setCell w _ _ R (Ne.symm hX))]; exact h.c1, by rw [World.cell?_of_block (w := w) (Below.heap_setCell w _ _ R (Ne.symm hX))]; exact h.c2, by rw [World.cell?_of_block (w := w) (Below.heap_setCell w _ _ R (Ne.symm hX))]; exact h.c3, fun j => by simpa using h.fr j⟩
theorem RdC.below {w w' : World} {R : Nat} {s : ByteArray} {p : Nat} {bad : Bool} {v : Value} (h : RdC w R s p bad v) (hb : Below w.heap.size w w') : RdC w' R s p bad v :=
  h.grown (row := none) ⟨hb.os, hb.tape, hb.output, hb.size, fun k hk _ => hb.block k hk⟩ (by simp)
theorem Five.below {w w' : World} {g : Nat} {q : ER} (h : Five w g q) (hb : Below w.heap.size w w') : Five w' g q :=
  h.grown (row := none) ⟨hb.os, hb.tape, hb.output, hb.size, fun k hk _ => hb.block k hk⟩ (by simp)
/-- a node without lists -/
def bare (k : Int) (o n : ByteArray) : ER := ⟨⟨k, [], o, n, []⟩, none, 0, none, 0⟩
theorem bare_in (k : Int) (o n : ByteArray) (g : Nat) : ¬ inR (bare k o n) g := by
  rintro (⟨h, -⟩ | ⟨h, -⟩) <;> exact h rfl
theorem bare_new (k : Int) (o n : ByteArray) (X : Nat) (w : World) : NewQ X w (bare k o n) :=
  ⟨fun h => absurd rfl h, fun h => absurd rfl h, ⟨.inl rfl, .inl rfl⟩, fun g h => absurd h (bare_in k o n g), fun g h => absurd (Or.inl h) (bare_in k o n g), Nat.le_refl _⟩
theorem five_new (w : World) (k : Int) (o n : ByteArray) : Five (w.alloc (.cells #[.int .i64 k, .slice none 0 0, .string o, .string n, .slice none 0 0] 56)) w.heap.size (bare k o n) := by
  refine ⟨?_, ?_, ?_, ?_, ?_, ?_⟩ <;> simp [bare]
theorem five_set {w : World} {X : Nat} {a0 a1 a2 a3 a4 : Value} (h0 : w.cell? ⟨X, 0, none⟩ = some a0) (h1 : w.cell? ⟨X, 1, none⟩ = some a1) (h2 : w.cell? ⟨X, 2, none⟩ = some a2) (h3 : w.cell? ⟨X, 3, none⟩ = some a3) (h4 : w.cell? ⟨X, 4, none⟩ = some a4) (hl : X < w.heap.size) (k : Int) (o n : ByteArray) :
    Five (((((w.setCell ⟨X, 0, none⟩ (.int .i64 k)).setCell ⟨X, 1, none⟩ (.slice none 0 0)).setCell ⟨X, 2, none⟩ (.string o)).setCell ⟨X, 3, none⟩ (.string n)).setCell ⟨X, 4, none⟩ (.slice none 0 0)) X (bare k o n) := by
  refine ⟨?_, ?_, ?_, ?_, ?_, by simpa using hl⟩
  · rw [mO (by omega), mO (by omega), mO (by omega), mO (by omega)]; exact mS h0
  · rw [mO (by omega), mO (by omega), mO (by omega)]; exact mS (by rw [mO (by omega)]; exact h1)
  · rw [mO (by omega), mO (by omega)]; exact mS (by rw [mO (by omega), mO (by omega)]; exact h2)
  · rw [mO (by omega)]; exact mS (by rw [mO (by omega), mO (by omega), mO (by omega)]; exact h3)
  · exact mS (by rw [mO (by omega), mO (by omega), mO (by omega), mO (by omega)]; exact h4)
def VB (l : List Value) (R : Nat) (s : ByteArray) (p : Nat) (bad : Bool) (v : Value) (k : Nat) (u : Value) (w' : World) : Prop := u = l.getD k undef ∧ (k = 3 → RdC w' R s p bad v)
structure GB (R : Nat) (s : ByteArray) (p : Nat) (bad : Bool) (v : Value) (X : Nat) (q : ER) (w : World) (listed : Array Bool) (w' : World) : Prop where
  rd : listed.getD 3 false = false → RdC w' R s p bad v
  box : Five w' X q
  onl : Onl R nilV w w'
  fr : Free w' X
theorem GB.step {R : Nat} {s : ByteArray} {p : Nat} {bad : Bool} {v : Value} {X : Nat} {q : ER} {w w' : World} {listed : Array Bool} (h : GB R s p bad v X q w listed w') {i : Nat} (hls : listed.size = 6) (h3 : i ≠ 3) : GB R s p bad v X q w (listed.setIfInBounds i true) w' :=
  ⟨fun k => h.rd (by
    by_cases hi : i < 6
    · rw [getF_set' _ _ _ (by omega), if_neg (Ne.symm h3)] at k; exact k
    · rw [show listed.setIfInBounds i true = listed by rw [Array.setIfInBounds_eq_of_size_le (by omega)]] at k; exact k), h.box, h.onl, h.fr⟩
theorem GB.called {R : Nat} {s : ByteArray} {p : Nat} {bad : Bool} {v : Value} {X : Nat} {q : ER} {w w' w'' : World} {listed : Array Bool} (h : GB R s p bad v X q w listed w') (hls : listed.size = 6) (hg : w'.grownBy w'' (some R)) (hX : X ≠ R) : GB R s p bad v X q w (listed.setIfInBounds 3 true) w'' :=
  ⟨fun k => (by rw [getF_set' _ _ _ (by omega), if_pos rfl] at k; cases k), h.box.grown hg (by intro e; injection e with e; exact hX e), h.onl.trans0 (Onl.of_grown hg), free_heap h.fr (hg.block X h.box.2.2.2.2.2 (by intro e; injection e with e; exact hX e))⟩
theorem nameP_no {s : ByteArray} {st : RS} (h : isB s tArrow (st.p + wordN s st.p) st.bad = false) : nameP s st = ⟨2, [], ⟨#[]⟩, wordP s st.p, []⟩ ∧ behindName s st = ⟨st.p + wordN s st.p, st.bad, st.out⟩ := by
  have e : isP s tArrow (pairAt s st) = false := h
  exact ⟨by unfold nameP; rw [e]; rfl, by unfold behindName; rw [e]; rfl⟩
theorem nameP_yes {s : ByteArray} {st : RS} (h : isB s tArrow (st.p + wordN s st.p) st.bad = true) : nameP s st = ⟨3, [], wordP s st.p, wordP s (st.p + wordN s st.p + 2), []⟩ ∧ behindName s st = ⟨st.p + wordN s st.p + 2 + wordN s (st.p + wordN s st.p + 2), st.bad, st.out⟩ := by
  have e : isP s tArrow (pairAt s st) = true := h
  exact ⟨by unfold nameP; rw [e]; rfl, by unfold behindName; rw [e]; rfl⟩

set_option maxHeartbeats 4000000 in
theorem item_name (R : Nat) (s : ByteArray) (st : RS) (base : Nat) (v : Value) (qs : List ER) (w : World) (h : RdF w R s st base v qs) (hR : R < base) (hB : base ≤ w.heap.size) (hs : s.size ≤ 1000) (hp : st.p ≤ s.size) (hn : qs.length ≤ 100000)
    (h0 : isB s tThis st.p st.bad = false) (h1 : isB s tOpen st.p st.bad = false) :
    Calls Try.prog 58 #[.pointer (some ⟨R, 0, none⟩)] w (RPost R s base v qs w ((st.out.length : Int), addP (nameP s st) (judged (nameP s st) (behindName s st)))) := by
  have H := toHid h
  have HP := toHid hp
  clear h hp
  go_enter Try.func58, Try.ntmps58
  go_wp2_with fail
  refine (is_any R s tThis st.p st.bad v w H.out.rd hs HP.out (by decide)).mono ?_
  rintro e w1 ⟨rfl, hr1, hg1⟩
  have HF1 := toHid (H.out.is_no hR h0 hr1 hg1)
  have HO1 := toHid (Onl.of_grown hg1)
  rw [h0]
  clear hr1 hg1 h0
  go_wp2_with fail
  refine (is_any R s tOpen st.p st.bad v w1 HF1.out.rd hs HP.out (by decide)).mono ?_
  rintro e w2 ⟨rfl, hr2, hg2⟩
  have HF2 := toHid (HF1.out.is_no hR h1 hr2 hg2)
  have HO2 := toHid (HO1.out.trans0 (Onl.of_grown hg2))
  rw [h1]
  clear hr2 hg2 h1 HF1 HO1
  go_wp2_with fail
  refine (word_any R s st.p st.bad v w2 HF2.out.rd hs HP.out).mono ?_
  rintro e w3 ⟨rfl, hr3, hg3⟩
  have HF3 := toHid (HF2.out.over hR (Onl.of_grown hg3) hr3)
  have HO3 := toHid (HO2.out.trans0 (Onl.of_grown hg3))
  have HP3 := toHid (wordN_le s st.p HP.out)
  have HSZ := toHid (wordP_size s st.p HP.out)
  clear hr3 hg3 HF2 HO2
  obtain ⟨W4, hW4⟩ : ∃ W4, W4 = w3.alloc (.cells #[.int .i64 2, .slice none 0 0, .string ⟨#[]⟩, .string (wordP s st.p), .slice none 0 0] 56) := ⟨_, rfl⟩
  have HV4 : Hid (Five W4 w3.heap.size (bare 2 ⟨#[]⟩ (wordP s st.p))) := by rw [hW4]; exact five_new w3 2 ⟨#[]⟩ (wordP s st.p)
  have HO4a : Hid (Onl R nilV w3 W4) := by rw [hW4]; exact Onl.of_below ((Below.refl _ _).alloc (Nat.le_refl _) _)
  have HF4 : Hid (RdF W4 R s ⟨st.p + wordN s st.p, st.bad, st.out⟩ base v qs) := HF3.out.over hR HO4a.out (by rw [hW4]; exact HF3.out.rd.below ((Below.refl _ _).alloc (Nat.le_refl _) _))
  have HO4 := toHid (HO3.out.trans0 HO4a.out)
  have HFR4 : Hid (Free W4 w3.heap.size) := fun y => by rw [hW4]; simp
  have HXR : Hid (w3.heap.size ≠ R) := by have := HF3.out.rd.lt; show _ ≠ _; omega
  have HX0 : Hid (w.heap.size ≤ w3.heap.size) := HO3.out.size
  have HX3 : Hid (w3.heap.size ≤ w3.heap.size) := Nat.le_refl _
  go_wp2_with fail
  rw [← hW4]
  clear hW4
  obtain ⟨X, hX⟩ : ∃ X, X = w3.heap.size := ⟨_, rfl⟩
  rw [← hX] at HV4 HFR4 HXR HX0
  replace HX3 : Hid (w3.heap.size ≤ X) := Nat.le_of_eq hX.symm
  rw [← hX]
  clear hX
  refine (is_any R s tArrow (st.p + wordN s st.p) st.bad v W4 HF4.out.rd hs HP3.out (by decide)).mono ?_
  rintro e w5 ⟨rfl, hr5, hg5⟩
  have HV5 := toHid (HV4.out.grown hg5 (by intro e; injection e with e; exact HXR.out e))
  have HFR5 := toHid (free_heap HFR4.out (hg5.block X HV4.out.2.2.2.2.2 (by intro e; injection e with e; exact HXR.out e)))
  have HO5 := toHid (HO4.out.trans0 (Onl.of_grown hg5))
  have HO35 := toHid (HO4a.out.trans0 (Onl.of_grown hg5))
  cases hc : isB s tArrow (st.p + wordN s st.p) st.bad with
  | false =>
    have HF5 := toHid (HF4.out.is_no hR hc hr5 hg5)
    have EQ := toHid (nameP_no hc)
    clear hr5 hg5 hc HF4 HO4 HV4 HFR4
    obtain ⟨x0, x1, x2, x3, x4, xl⟩ := HV5.out
    replace x0 : w5.cell? ⟨X, 0, none⟩ = some (.int .i64 2) := x0
    replace x1 : w5.cell? ⟨X, 1, none⟩ = some (.slice none 0 0) := x1
    replace x2 : w5.cell? ⟨X, 2, none⟩ = some (.string ⟨#[]⟩) := x2
    replace x3 : w5.cell? ⟨X, 3, none⟩ = some (.string (wordP s st.p)) := x3
    replace x4 : w5.cell? ⟨X, 4, none⟩ = some (.slice none 0 0) := x4
    go_wp2_with fail
    refine (l2NodeOk_plain (bare 2 ⟨#[]⟩ (wordP s st.p)) w5 ⟨fun a ha => (by cases ha), Nat.zero_le _, by show (wordP s st.p).size ≤ maxLen; rw [HSZ.out]; have := HP3.out; unfold maxLen; omega, Nat.zero_le _, Nat.zero_le _⟩ (by show (2 : Int) ≠ 1; decide)).mono ?_
    rintro e w6 ⟨rfl, hB6⟩
    have HO6 := toHid (HO5.out.trans0 (Onl.of_below hB6))
    have HF6 := toHid (HF5.out.over hR (Onl.of_below hB6) (HF5.out.rd.below hB6))
    obtain ⟨y0, y1, y2, y3, y4, yl⟩ := HV5.out.below hB6
    replace y0 : w6.cell? ⟨X, 0, none⟩ = some (.int .i64 2) := y0
    replace y1 : w6.cell? ⟨X, 1, none⟩ = some (.slice none 0 0) := y1
    replace y2 : w6.cell? ⟨X, 2, none⟩ = some (.string ⟨#[]⟩) := y2
    replace y3 : w6.cell? ⟨X, 3, none⟩ = some (.string (wordP s st.p)) := y3
    replace y4 : w6.cell? ⟨X, 4, none⟩ = some (.slice none 0 0) := y4
    clear x0 x1 x2 x3 x4 xl hB6 HV5 HF5 HO5
    cases hb : nodeB (bare 2 ⟨#[]⟩ (wordP s st.p)).e with
    | true =>
      have HE : Hid (nameP s st = (bare 2 ⟨#[]⟩ (wordP s st.p)).e ∧ judged (nameP s st) (behindName s st) = (⟨st.p + wordN s st.p, st.bad, st.out⟩ : RS)) := by
        refine ⟨EQ.out.1, ?_⟩
        rw [EQ.out.1, EQ.out.2]
        exact if_pos hb
      clear hb
      go_wp2_with fail
      refine (addF R s ((⟨st.p + wordN s st.p, st.bad, st.out⟩ : RS)) base v qs (bare 2 ⟨#[]⟩ (wordP s st.p)) w6 HF6.out hR (Nat.le_trans hB HO6.out.size) hn (bare_new _ _ _ _ _) (.inl ⟨rfl, rfl, rfl⟩) (fun g hg => absurd hg (bare_in _ _ _ g))).mono ?_
      rintro e w7 ⟨v7, rfl, hF7, hW7⟩
      have HF7 := toHid hF7
      have HW7 := toHid ((HO6.out.any v).trans hW7)
      clear hF7 hW7
      go_wp2
      exact bodyPost_ret (v := .int .i64 (st.out.length : Int)) (by simp [results, Try.results58, go_sem]) rfl (by rw [HE.out.1, ← HE.out.1, HE.out.2, HE.out.1]; exact ⟨v7, [bare 2 ⟨#[]⟩ (wordP s st.p)], rfl, HF7.out, HW7.out, fun q hq g hg => by rw [List.mem_singleton] at hq; subst hq; exact absurd hg (bare_in _ _ _ g)⟩)
    | false =>
      have HE : Hid (nameP s st = (bare 2 ⟨#[]⟩ (wordP s st.p)).e ∧ judged (nameP s st) (behindName s st) = endP ((⟨st.p + wordN s st.p, st.bad, st.out⟩ : RS))) := by
        refine ⟨EQ.out.1, ?_⟩
        rw [EQ.out.1, EQ.out.2]
        exact if_neg (fun e => by have := e.symm.trans hb; cases this)
      clear hb
      have c2 := HF6.out.rd.c2
      have f2 := HF6.out.rd.fr 2
      have hl := HF6.out.rd.lt
      have hxr := HXR.out
      have hrx := Ne.symm HXR.out
      have HO7 : Hid (Onl R nilV w (w6.setCell ⟨R, 2, none⟩ (.bool true))) := HO6.out.at_own _ _
      have HF7 : Hid (RdF (w6.setCell ⟨R, 2, none⟩ (.bool true)) R s (endP ((⟨st.p + wordN s st.p, st.bad, st.out⟩ : RS))) base v qs) := HF6.out.over hR ((Onl.refl R nilV w6).at_own _ _) HF6.out.rd.hurt
      go_wp2_with fail
      refine (addF R s (endP ((⟨st.p + wordN s st.p, st.bad, st.out⟩ : RS))) base v qs (bare 2 ⟨#[]⟩ (wordP s st.p)) _ HF7.out hR (Nat.le_trans hB HO7.out.size) hn (bare_new _ _ _ _ _) (.inl ⟨rfl, rfl, rfl⟩) (fun g hg => absurd hg (bare_in _ _ _ g))).mono ?_
      rintro e w8 ⟨v8, rfl, hF8, hW8⟩
      have HF8 := toHid hF8
      have HW8 := toHid ((HO7.out.any v).trans hW8)
      clear hF8 hW8
      go_wp2
      exact bodyPost_ret (v := .int .i64 (st.out.length : Int)) (by simp [results, Try.results58, go_sem, endP]) rfl (by rw [HE.out.1, ← HE.out.1, HE.out.2, HE.out.1]; exact ⟨v8, [bare 2 ⟨#[]⟩ (wordP s st.p)], rfl, HF8.out, HW8.out, fun q hq g hg => by rw [List.mem_singleton] at hq; subst hq; exact absurd hg (bare_in _ _ _ g)⟩)
  | true =>
    have HF5 := toHid (HF4.out.is_yes hR hc hr5 hg5)
    have EQ := toHid (nameP_yes hc)
    have HP5 : Hid (st.p + wordN s st.p + 2 ≤ s.size) := isB_le hc
    clear hr5 hg5 hc HF4 HO4 HV4 HFR4
    go_wp2_with fail
    refine wp_region_midT 5 (fun _ => undef) (fun f => { tmps := List.toArray (Value.pointer (some ⟨R, 0, none⟩) :: undef :: Value.int .i64 0 :: undef :: undef :: undef :: Value.pointer (some ⟨X, 0, none⟩) :: Value.pointer (some ⟨R, 0, none⟩) :: Value.bool false :: undef :: undef :: undef :: undef :: undef :: undef :: undef :: undef :: undef :: undef :: undef :: undef :: undef :: undef :: undef :: undef :: undef :: undef :: undef :: undef :: undef :: undef :: undef :: undef :: undef :: undef :: undef :: undef :: undef :: undef :: undef :: Value.pointer (some ⟨R, 0, none⟩) :: Value.bool false :: undef :: undef :: undef :: undef :: undef :: undef :: undef :: undef :: undef :: Value.pointer (some ⟨R, 0, none⟩) :: Value.string (wordP s st.p) :: Value.agg #[.int .i64 2, .slice none 0 0, .string ⟨#[]⟩, .string (wordP s st.p), .slice none 0 0] :: Value.pointer (some ⟨R, 0, none⟩) :: Value.bool true :: f 0 :: f 1 :: f 2 :: f 3 :: f 4 :: undef :: undef :: undef :: undef :: undef :: undef :: undef :: undef :: undef :: []), defers := [] }) (VB (Value.pointer (some ⟨X, 3, none⟩) :: Value.string (wordP s st.p) :: Value.pointer (some ⟨R, 0, none⟩) :: Value.string (wordP s (st.p + wordN s st.p + 2)) :: Value.agg #[.int .i64 3, .slice none 0 0, .string (wordP s st.p), .string (wordP s (st.p + wordN s st.p + 2)), .slice none 0 0] :: []) R s ((st.p + wordN s st.p + 2) + wordN s (st.p + wordN s st.p + 2)) st.bad v) (GB R s (st.p + wordN s st.p + 2) st.bad v X (bare 2 ⟨#[]⟩ (wordP s st.p)) w3) (by kernel_rfl) rfl (by decide +kernel) (by decide +kernel) rfl ⟨fun _ => HF5.out.rd.drewN 1, HV5.out, ⟨HO35.out.os, HO35.out.tape, HO35.out.output, HO35.out.size, HO35.out.block⟩, HFR5.out⟩ ?stepB ?finB
    case stepB =>
      rintro i hi o ho listed f w' hls hli hG hpre
      have HG := toHid hG
      have HM : Hid (∀ e ∈ o.after, Region.binds .any e = true → _) := hpre
      clear hG hpre
      have hc : i = 0 ∨ i = 1 ∨ i = 2 ∨ i = 3 ∨ i = 4 := by omega
      clear hi
      rcases hc with rfl | rfl | rfl | rfl | rfl
      · obtain rfl := Option.some.inj ho
        have HS := toHid (HG.out.step (i := 0) hls (by decide))
        refine wpOp_hid rfl fun K HK => ?_
        clear ho HM
        dsimp only
        go_simp
        exact HK.out _ _ ⟨Value.pointer (some ⟨X, 3, none⟩), by simp [upd], HS.out, ⟨rfl, fun e => absurd e (by decide)⟩, fun k u _ hu => hu⟩
      · obtain rfl := Option.some.inj ho
        have e0 : f 0 = Value.pointer (some ⟨X, 3, none⟩) := (HM.out ⟨0, .data⟩ (by simp) rfl).1
        have x3 : w'.cell? ⟨X, 3, none⟩ = some (.string (wordP s st.p)) := HG.out.box.2.2.2.1
        have HS := toHid (HG.out.step (i := 1) hls (by decide))
        refine wpOp_hid rfl fun K HK => ?_
        clear ho HM
        simp only [e0]
        go_simp
        exact HK.out _ _ ⟨Value.string (wordP s st.p), by simp [upd, e0], HS.out, ⟨rfl, fun e => absurd e (by decide)⟩, fun k u _ hu => hu⟩
      · obtain rfl := Option.some.inj ho
        have HS := toHid (HG.out.step (i := 2) hls (by decide))
        refine wpOp_hid rfl fun K HK => ?_
        clear ho HM
        dsimp only
        go_simp
        exact HK.out _ _ ⟨Value.pointer (some ⟨R, 0, none⟩), by simp [upd], HS.out, ⟨rfl, fun e => absurd e (by decide)⟩, fun k u _ hu => hu⟩
      · obtain rfl := Option.some.inj ho
        have e2 : f 2 = Value.pointer (some ⟨R, 0, none⟩) := (HM.out ⟨2, .data⟩ (by simp) rfl).1
        have hrd := toHid (HG.out.rd (getTF' hli hls (by omega)))
        refine wpOp_hid rfl fun K HK => ?_
        clear ho HM
        simp only [e2]
        go_simp
        refine (word_any R s (st.p + wordN s st.p + 2) st.bad v w' hrd.out hs HP5.out).mono ?_
        rintro e w7 ⟨rfl, hr7, hg7⟩
        have HS := toHid (HG.out.called hls hg7 HXR.out)
        have HR7 := toHid hr7
        clear hr7 hg7
        go_wp2_with fail
        exact HK.out _ _ ⟨Value.string (wordP s (st.p + wordN s st.p + 2)), by simp [upd, e2], HS.out, ⟨rfl, fun _ => HR7.out⟩, fun k u hk hu => ⟨hu.1, fun e => absurd e hk⟩⟩
      · obtain rfl := Option.some.inj ho
        have e1 : f 1 = Value.string (wordP s st.p) := (HM.out ⟨1, .data⟩ (by simp) rfl).1
        have e3 : f 3 = Value.string (wordP s (st.p + wordN s st.p + 2)) := (HM.out ⟨3, .data⟩ (by simp) rfl).1
        have HS := toHid (HG.out.step (i := 4) hls (by decide))
        refine wpOp_hid rfl fun K HK => ?_
        clear ho HM
        simp only [e1, e3]
        go_simp
        exact HK.out _ _ ⟨Value.agg #[.int .i64 3, .slice none 0 0, .string (wordP s st.p), .string (wordP s (st.p + wordN s st.p + 2)), .slice none 0 0], by simp [upd, e1, e3], HS.out, ⟨rfl, fun e => absurd e (by decide)⟩, fun k u _ hu => hu⟩
    case finB =>
      rintro o ho listed f w' hG hall
      obtain rfl := Option.some.inj ho
      have e4 : f 4 = Value.agg #[.int .i64 3, .slice none 0 0, .string (wordP s st.p), .string (wordP s (st.p + wordN s st.p + 2)), .slice none 0 0] := (hall 4 (by omega)).1
      have HRD := toHid ((hall 3 (by omega)).2 rfl)
      have HG := toHid hG
      obtain ⟨x0, x1, x2, x3, x4, xl⟩ := hG.box
      have f0 := hG.fr 0
      have f1 := hG.fr 1
      have f2 := hG.fr 2
      have f3 := hG.fr 3
      have f4 := hG.fr 4
      clear ho hall hG
      refine wpOp_step rfl (fun K hK => ?_)
      have HK : Hid (∀ a w, _ → K a w) := hK
      clear hK
      simp only [e4]
      go_simp
      refine HK.out _ _ ?_
      clear HK
      obtain ⟨wz, hwz⟩ : ∃ wz, wz = (((((w'.setCell ⟨X, 0, none⟩ (.int .i64 3)).setCell ⟨X, 1, none⟩ (.slice none 0 0)).setCell ⟨X, 2, none⟩ (.string (wordP s st.p))).setCell ⟨X, 3, none⟩ (.string (wordP s (st.p + wordN s st.p + 2)))).setCell ⟨X, 4, none⟩ (.slice none 0 0)) := ⟨_, rfl⟩
      have HO3z : Hid (Onl R nilV w3 wz) := by rw [hwz]; exact ((((HG.out.onl.at_new HX3.out _ _).at_new HX3.out _ _).at_new HX3.out _ _).at_new HX3.out _ _).at_new HX3.out _ _
      have HRz : Hid (RdC wz R s (st.p + wordN s st.p + 2 + wordN s (st.p + wordN s st.p + 2)) st.bad v) := by rw [hwz]; exact ((((HRD.out.other HXR.out _ _).other HXR.out _ _).other HXR.out _ _).other HXR.out _ _).other HXR.out _ _
      have HVz : Hid (Five wz X (bare 3 (wordP s st.p) (wordP s (st.p + wordN s st.p + 2)))) := by rw [hwz]; exact five_set x0 x1 x2 x3 x4 xl _ _ _
      clear HV5 HF5 HO5 HO35 HFR5
      have HF5 := toHid (HF3.out.over hR HO3z.out HRz.out)
      have HO5 := toHid (HO3.out.trans0 HO3z.out)
      rw [← hwz]
      clear hwz x0 x1 x2 x3 x4 xl f0 f1 f2 f3 f4 e4 HRz HO3z HG HRD
      obtain ⟨x0, x1, x2, x3, x4, xl⟩ := HVz.out
      replace x0 : wz.cell? ⟨X, 0, none⟩ = some (.int .i64 3) := x0
      replace x1 : wz.cell? ⟨X, 1, none⟩ = some (.slice none 0 0) := x1
      replace x2 : wz.cell? ⟨X, 2, none⟩ = some (.string (wordP s st.p)) := x2
      replace x3 : wz.cell? ⟨X, 3, none⟩ = some (.string (wordP s (st.p + wordN s st.p + 2))) := x3
      replace x4 : wz.cell? ⟨X, 4, none⟩ = some (.slice none 0 0) := x4
      go_wp2_with fail
      refine (l2NodeOk_plain (bare 3 (wordP s st.p) (wordP s (st.p + wordN s st.p + 2))) wz ⟨fun a ha => (by cases ha), by show (wordP s st.p).size ≤ maxLen; rw [HSZ.out]; have := HP3.out; unfold maxLen; omega, by show (wordP s (st.p + wordN s st.p + 2)).size ≤ maxLen; rw [wordP_size s _ HP5.out]; have := wordN_le s _ HP5.out; unfold maxLen; omega, Nat.zero_le _, Nat.zero_le _⟩ (by show (3 : Int) ≠ 1; decide)).mono ?_
      rintro e w6 ⟨rfl, hB6⟩
      have HO6 := toHid (HO5.out.trans0 (Onl.of_below hB6))
      have HF6 := toHid (HF5.out.over hR (Onl.of_below hB6) (HF5.out.rd.below hB6))
      obtain ⟨y0, y1, y2, y3, y4, yl⟩ := HVz.out.below hB6
      replace y0 : w6.cell? ⟨X, 0, none⟩ = some (.int .i64 3) := y0
      replace y1 : w6.cell? ⟨X, 1, none⟩ = some (.slice none 0 0) := y1
      replace y2 : w6.cell? ⟨X, 2, none⟩ = some (.string (wordP s st.p)) := y2
      replace y3 : w6.cell? ⟨X, 3, none⟩ = some (.string (wordP s (st.p + wordN s st.p + 2))) := y3
      replace y4 : w6.cell? ⟨X, 4, none⟩ = some (.slice none 0 0) := y4
      clear x0 x1 x2 x3 x4 xl hB6 HVz HF5 HO5
      cases hb : nodeB (bare 3 (wordP s st.p) (wordP s (st.p + wordN s st.p + 2))).e with
      | true =>
        have HE : Hid (nameP s st = (bare 3 (wordP s st.p) (wordP s (st.p + wordN s st.p + 2))).e ∧ judged (nameP s st) (behindName s st) = (⟨st.p + wordN s st.p + 2 + wordN s (st.p + wordN s st.p + 2), st.bad, st.out⟩ : RS)) := by
          refine ⟨EQ.out.1, ?_⟩
          rw [EQ.out.1, EQ.out.2]
          exact if_pos hb
        clear hb
        go_wp2_with fail
        refine (addF R s ((⟨st.p + wordN s st.p + 2 + wordN s (st.p + wordN s st.p + 2), st.bad, st.out⟩ : RS)) base v qs (bare 3 (wordP s st.p) (wordP s (st.p + wordN s st.p + 2))) w6 HF6.out hR (Nat.le_trans hB HO6.out.size) hn (bare_new _ _ _ _ _) (.inl ⟨rfl, rfl, rfl⟩) (fun g hg => absurd hg (bare_in _ _ _ g))).mono ?_
        rintro e w7 ⟨v7, rfl, hF7, hW7⟩
        have HF7 := toHid hF7
        have HW7 := toHid ((HO6.out.any v).trans hW7)
        clear hF7 hW7
        go_wp2
        exact bodyPost_ret (v := .int .i64 (st.out.length : Int)) (by simp [results, Try.results58, go_sem]) rfl (by rw [HE.out.1, ← HE.out.1, HE.out.2, HE.out.1]; exact ⟨v7, [bare 3 (wordP s st.p) (wordP s (st.p + wordN s st.p + 2))], rfl, HF7.out, HW7.out, fun q hq g hg => by rw [List.mem_singleton] at hq; subst hq; exact absurd hg (bare_in _ _ _ g)⟩)
      | false =>
        have HE : Hid (nameP s st = (bare 3 (wordP s st.p) (wordP s (st.p + wordN s st.p + 2))).e ∧ judged (nameP s st) (behindName s st) = endP ((⟨st.p + wordN s st.p + 2 + wordN s (st.p + wordN s st.p + 2), st.bad, st.out⟩ : RS))) := by
          refine ⟨EQ.out.1, ?_⟩
          rw [EQ.out.1, EQ.out.2]
          exact if_neg (fun e => by have := e.symm.trans hb; cases this)
        clear hb
        have c2 := HF6.out.rd.c2
        have f2 := HF6.out.rd.fr 2
        have hl := HF6.out.rd.lt
        have hxr := HXR.out
        have hrx := Ne.symm HXR.out
        have HO7 : Hid (Onl R nilV w (w6.setCell ⟨R, 2, none⟩ (.bool true))) := HO6.out.at_own _ _
        have HF7 : Hid (RdF (w6.setCell ⟨R, 2, none⟩ (.bool true)) R s (endP ((⟨st.p + wordN s st.p + 2 + wordN s (st.p + wordN s st.p + 2), st.bad, st.out⟩ : RS))) base v qs) := HF6.out.over hR ((Onl.refl R nilV w6).at_own _ _) HF6.out.rd.hurt
        go_wp2_with fail
        refine (addF R s (endP ((⟨st.p + wordN s st.p + 2 + wordN s (st.p + wordN s st.p + 2), st.bad, st.out⟩ : RS))) base v qs (bare 3 (wordP s st.p) (wordP s (st.p + wordN s st.p + 2))) _ HF7.out hR (Nat.le_trans hB HO7.out.size) hn (bare_new _ _ _ _ _) (.inl ⟨rfl, rfl, rfl⟩) (fun g hg => absurd hg (bare_in _ _ _ g))).mono ?_
        rintro e w8 ⟨v8, rfl, hF8, hW8⟩
        have HF8 := toHid hF8
        have HW8 := toHid ((HO7.out.any v).trans hW8)
        clear hF8 hW8
        go_wp2
        exact bodyPost_ret (v := .int .i64 (st.out.length : Int)) (by simp [results, Try.results58, go_sem, endP]) rfl (by rw [HE.out.1, ← HE.out.1, HE.out.2, HE.out.1]; exact ⟨v8, [bare 3 (wordP s st.p) (wordP s (st.p + wordN s st.p + 2))], rfl, HF8.out, HW8.out, fun q hq g hg => by rw [List.mem_singleton] at hq; subst hq; exact absurd hg (bare_in _ _ _ g)⟩)
end Go.Proofs.Ytjmbgpdbnffkpaa
