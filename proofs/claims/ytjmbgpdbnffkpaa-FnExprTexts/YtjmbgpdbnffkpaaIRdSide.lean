/- Contracts of the program's reader: a side. -/
import Derived.Test.YtjmbgpdbnffkpaaIRdAllow
import Derived.Test.YtjmbgpdbnffkpaaPlainIRd4
namespace Go.Proofs.Ytjmbgpdbnffkpaa
set_option maxRecDepth 100000
set_option linter.unusedVariables false
open Go.ChangeShapes Go.WideShapes Go.ChangeAt Go.RowKit
open Pl

/-- what a call of the program's reader leaves -/
def IPost (R : Nat) (s : ByteArray) (base : Nat) (v : Value) (qs : List ER) (w : World) (r : Option (Int × IS)) (e : Ending) (w' : World) : Prop :=
  (∃ x st v' ns, r = some (x, st) ∧ e = .returned (.int .i64 x) ∧ RdG w' R s st base v' (qs ++ ns) ∧ Went R v w v' w' ∧ ∀ q ∈ ns, ∀ g, inR q g → w.heap.size ≤ g) ∨ (r = none ∧ Pans e ∧ Below R w w')
theorem went_below {R base : Nat} {s : ByteArray} {st : IS} {v v' : Value} {qs : List ER} {w w' : World} (hF : RdG w R s st base v qs) (h : Went R v w v' w') (hR : R < base) : Below R w w' :=
  ⟨h.onl.os, h.onl.tape, h.onl.output, h.onl.size, fun k hk => h.onl.block k (by have := hF.rd.lt; omega) (by omega) (fun e => by have := (hF.own.lt k e).1; omega)⟩
theorem grown_below {R : Nat} {w w' : World} (h : w.grownBy w' (some R)) (hR : R < w.heap.size) : Below R w w' := onl_below (Onl.of_grown h) (by omega)
theorem RdG.len {w : World} {R : Nat} {s : ByteArray} {st : IS} {base : Nat} {v : Value} {qs : List ER} (h : RdG w R s st base v qs) : qs.length = st.out.length := by rw [← h.out]; simp [exs]
theorem RdG.slE {w : World} {R : Nat} {s : ByteArray} {st : IS} {base : Nat} {v : Value} {qs : List ER} (h : RdG w R s st base v qs) : ∃ ad cap, v = .slice ad qs.length cap ∧ SlE w ad qs := ownsE h.own rfl h.ok
theorem RdG.skip {w w' : World} {R : Nat} {s : ByteArray} {st : IS} {base : Nat} {v : Value} {qs : List ER} {q : Nat} (h : RdG w R s st base v qs) (hR : R < base) (hr : RdI w' R s q v) (hg : w.grownBy w' (some R)) : RdG w' R s ⟨q, st.out⟩ base v qs := h.over hR (Onl.of_grown hg) hr
/-- a side in brackets -/
def openI (s : ByteArray) : Option (Int × IS) → Option (Int × IS)
  | none => none
  | some (c, st') => if 1 < c then (if litAt s tClose st'.p then some ((st'.out.length : Int) - 1, ⟨st'.p + 1, st'.out⟩) else none) else none
def thisI (s : ByteArray) (st : IS) : Option (Int × IS) :=
  match pairsI s (s.size + 1) [] (st.p + 5) with
  | none => none
  | some (xs, p') => some ((st.out.length : Int), ⟨p', st.out ++ [⟨1, xs, ⟨#[]⟩, ⟨#[]⟩, []⟩]⟩)
def nameS (s : ByteArray) (st : IS) : Option (Int × IS) :=
  match nameI s st.p with
  | none => none
  | some (x, p') => some ((st.out.length : Int), ⟨p', st.out ++ [x]⟩)
set_option maxHeartbeats 2000000 in
theorem side_open (R : Nat) (s : ByteArray) (st : IS) (base : Nat) (v : Value) (qs : List ER) (w : World) (h : RdG w R s st base v qs) (hR : R < base) (hs : s.size ≤ 1000) (h1 : litAt s tOpen st.p = true) (r : Option (Int × IS)) (hrl : ∀ x st', r = some (x, st') → st'.out.length ≤ 100000)
    (hsd : ∀ w1, RdG w1 R s ⟨st.p + 1, st.out⟩ base v qs → w.heap.size ≤ w1.heap.size → Calls Try.prog 67 #[.pointer (some ⟨R, 0, none⟩)] w1 (IPost R s base v qs w1 r)) :
    Calls Try.prog 93 #[.pointer (some ⟨R, 0, none⟩)] w (IPost R s base v qs w (openI s r)) := by
  have H := toHid h
  have HSD := toHid hsd
  have HRL := toHid hrl
  clear h hsd hrl
  go_enter Try.func93, Try.ntmps93
  go_wp2_with fail
  refine (skip_any R s tOpen st.p v w H.out.rd hs (by decide)).mono ?_
  rintro e w1 ⟨rfl, hr1, hg1⟩
  rw [h1] at hr1 ⊢
  have HF1 : Hid (RdG w1 R s ⟨st.p + 1, st.out⟩ base v qs) := H.out.skip hR hr1 hg1
  have HO1 := toHid (Onl.of_grown hg1)
  have HB1 := toHid (grown_below hg1 H.out.rd.lt)
  clear hr1 hg1 h1
  go_wp2_with fail
  refine (HSD.out w1 HF1.out HO1.out.size).mono ?_
  rintro e w2 (⟨c, st2, v2, ns, rfl, rfl, hF2, hW2, hns⟩ | ⟨rfl, he, hb2⟩)
  · have HF2 := toHid hF2
    have HW2 := toHid ((HO1.out.any v).trans hW2)
    have HNS : Hid (∀ q ∈ ns, ∀ g, inR q g → w.heap.size ≤ g) := fun q hq g hg => Nat.le_trans HO1.out.size (hns q hq g hg)
    have HBW := toHid (went_below H.out ((HO1.out.any v).trans hW2) hR)
    have HRL2 : Hid (st2.out.length ≤ 100000) := HRL.out c st2 rfl
    clear hF2 hW2 hns HF1 HO1 HSD HB1 HRL
    by_cases hc : 1 < c
    · have hd : decide (1 < c) = true := by simpa using hc
      have HC := toHid hc
      clear hc
      go_wp2_with fail
      refine (must_yes w2).mono ?_
      rintro e w3 ⟨rfl, rfl⟩
      go_wp2_with fail
      refine (skip_any R s tClose st2.p v2 w3 HF2.out.rd hs (by decide)).mono ?_
      rintro e w4 ⟨rfl, hr4, hg4⟩
      cases hcl : litAt s tClose st2.p with
      | true =>
        rw [hcl] at hr4
        have HF4 : Hid (RdG w4 R s ⟨st2.p + 1, st2.out⟩ base v2 (qs ++ ns)) := HF2.out.skip hR hr4 hg4
        have HW4 := toHid (HW2.out.trans ((Onl.of_grown hg4).any v2))
        have EQ : Hid (openI s (some (c, st2)) = some ((st2.out.length : Int) - 1, ⟨st2.p + 1, st2.out⟩)) := by show _ = _; rw [openI, if_pos HC.out, if_pos hcl]
        clear hr4 hg4 hcl
        go_wp2_with fail
        refine (must_yes w4).mono ?_
        rintro e w5 ⟨rfl, rfl⟩
        obtain ⟨ad, cap, rfl, -⟩ := HF4.out.slE
        have c1 := HF4.out.rd.c1
        rw [HF4.out.len] at c1
        simp only at c1
        have hwr : IntKind.i64.wrap ((st2.out.length : Int) - 1) = (st2.out.length : Int) - 1 := by have := HRL2.out; rw [IntKind.wrap_i64]; omega
        go_wp2
        go_ret
        exact .inl ⟨_, _, _, ns, EQ.out, rfl, HF4.out, HW4.out, HNS.out⟩
      | false =>
        have EQ : Hid (openI s (some (c, st2)) = none) := by show _ = _; rw [openI, if_pos HC.out, if_neg (by rw [hcl]; decide)]
        have HBe := toHid (HBW.out.trans (grown_below hg4 HF2.out.rd.lt))
        clear hr4 hg4 hcl
        go_wp2_with fail
        refine (must_no w4).mono ?_
        rintro e w5 ⟨he, rfl⟩
        unfold Pans at he
        subst he
        go_wp2
        exact ⟨rfl, .inr ⟨EQ.out, rfl, HBe.out⟩⟩
    · have hd : decide (1 < c) = false := by simpa using hc
      have EQ : Hid (openI s (some (c, st2)) = none) := by show _ = _; rw [openI, if_neg hc]
      clear hc
      go_wp2_with fail
      refine (must_no w2).mono ?_
      rintro e w5 ⟨he, rfl⟩
      unfold Pans at he
      subst he
      go_wp2
      exact ⟨rfl, .inr ⟨EQ.out, rfl, HBW.out⟩⟩
  · unfold Pans at he
    subst he
    have HBe := toHid (HB1.out.trans hb2)
    clear hb2
    go_wp2
    exact ⟨rfl, .inr ⟨rfl, rfl, HBe.out⟩⟩
/-- a node of pairs -/
theorem AL.node {w wr : World} {R : Nat} {s : ByteArray} {q : Nat} {v vA : Value} {xs : List Al} (h : AL w wr R s q v xs vA) {base : Nat} (hb : base ≤ w.heap.size) : ∃ ad cap, vA = .slice ad xs.length cap ∧ NewQ base wr ⟨⟨1, xs, ⟨#[]⟩, ⟨#[]⟩, []⟩, ad, cap, none, 0⟩ ∧ ∀ g, inR ⟨⟨1, xs, ⟨#[]⟩, ⟨#[]⟩, []⟩, ad, cap, none, 0⟩ g → w.heap.size ≤ g := by
  obtain ⟨ad, cap, e, h2, h3, h4⟩ := ownsA h.own rfl
  have hK : ∀ g, ¬ bK ⟨⟨1, xs, ⟨#[]⟩, ⟨#[]⟩, []⟩, ad, cap, none, 0⟩ g := fun g hg => hg.1 rfl
  have hA : ∀ g, inR ⟨⟨1, xs, ⟨#[]⟩, ⟨#[]⟩, []⟩, ad, cap, none, 0⟩ g → w.heap.size ≤ g ∧ g < wr.heap.size ∧ Free wr g := by
    rintro g (hg | hg)
    · exact h4 g hg.1 hg.2
    · exact absurd hg (hK g)
  refine ⟨ad, cap, e, ⟨h3, fun h => absurd rfl h, ⟨h2, .inl rfl⟩, fun g hg => ⟨?_, (hA g hg).2⟩, fun g _ hg => hK g hg, capOf (e ▸ h.own)⟩, fun g hg => (hA g hg).1⟩
  have := (hA g hg).1
  omega
set_option maxHeartbeats 2000000 in
theorem side_this (R : Nat) (s : ByteArray) (st : IS) (base : Nat) (v : Value) (qs : List ER) (w : World) (h : RdG w R s st base v qs) (hR : R < base) (hB : base ≤ w.heap.size) (hs : s.size ≤ 1000) (hn : qs.length ≤ 100000) (h0 : litAt s tOpen st.p = false) (h1 : litAt s tThis st.p = true) :
    Calls Try.prog 93 #[.pointer (some ⟨R, 0, none⟩)] w (IPost R s base v qs w (thisI s st)) := by
  have H := toHid h
  clear h
  go_enter Try.func93, Try.ntmps93
  go_wp2_with fail
  refine (skip_any R s tOpen st.p v w H.out.rd hs (by decide)).mono ?_
  rintro e w1 ⟨rfl, hr1, hg1⟩
  rw [h0] at hr1 ⊢
  have HF1 : Hid (RdG w1 R s st base v qs) := H.out.skip hR hr1 hg1
  have HO1 := toHid (Onl.of_grown hg1)
  clear hr1 hg1 h0
  go_wp2_with fail
  refine (skip_any R s tThis st.p v w1 HF1.out.rd hs (by decide)).mono ?_
  rintro e w2 ⟨rfl, hr2, hg2⟩
  rw [h1] at hr2 ⊢
  have HF2 : Hid (RdG w2 R s ⟨st.p + 5, st.out⟩ base v qs) := HF1.out.skip hR hr2 hg2
  have HO2 := toHid (HO1.out.trans0 (Onl.of_grown hg2))
  clear hr2 hg2 h1 HF1 HO1
  go_wp2_with fail
  refine (takeAllow_any R s (st.p + 5) v w2 HF2.out.rd hs).mono ?_
  rintro e w3 (⟨xs, q, vA, hP, rfl, hL⟩ | ⟨hP, he, hb3⟩)
  · have HF3 : Hid (RdG w3 R s ⟨q, st.out⟩ base v qs) := HF2.out.over hR hL.onl hL.rd
    have HO3 := toHid (HO2.out.trans0 hL.onl)
    have hB2 : base ≤ w2.heap.size := Nat.le_trans hB HO2.out.size
    obtain ⟨ad, cap, rfl, hnq, hin⟩ := hL.node hB2
    have HNQ := toHid hnq
    have HIN := toHid hin
    have EQ : Hid (thisI s st = some ((st.out.length : Int), ⟨q, st.out ++ [⟨1, xs, ⟨#[]⟩, ⟨#[]⟩, []⟩]⟩)) := by show _ = _; rw [thisI, hP]
    have HADD := toHid (putF R s ⟨q, st.out⟩ base v qs ⟨⟨1, xs, ⟨#[]⟩, ⟨#[]⟩, []⟩, ad, cap, none, 0⟩ w3 HF3.out hR (Nat.le_trans hB HO3.out.size) hn HNQ.out (fun g hg => ⟨fun e => by have := HIN.out g hg; have := (HF2.out.own.lt g e).2; omega, fun q' hq' hi => by have := HIN.out g hg; have := (HF2.out.lie q' hq' g hi).2.1; omega⟩))
    have HS2 := toHid HO2.out.size
    clear hL hnq hin hP HF2 HO2 HNQ
    go_wp2_with fail
    refine HADD.out.mono ?_
    rintro e w4 ⟨v4, rfl, hF4, hW4⟩
    have HF4 := toHid hF4
    have HW4 := toHid ((HO3.out.any v).trans hW4)
    clear hF4 hW4 HADD
    go_wp2
    go_ret
    exact .inl ⟨_, _, v4, _, EQ.out, rfl, HF4.out, HW4.out, fun q hq g hg => by rw [List.mem_singleton] at hq; subst hq; have := HIN.out g hg; have := HS2.out; omega⟩
  · have EQ : Hid (thisI s st = none) := by show _ = _; rw [thisI, hP]
    have HBe := toHid ((onl_below HO2.out (by have := H.out.rd.lt; omega)).trans hb3)
    unfold Pans at he
    subst he
    clear hP hb3
    go_wp2
    exact ⟨rfl, .inr ⟨EQ.out, rfl, HBe.out⟩⟩
/-- a node without lists -/
theorem bare_newI (base : Nat) (w : World) (k : Int) (a b : ByteArray) : NewQ base w ⟨⟨k, [], a, b, []⟩, none, 0, none, 0⟩ ∧ ∀ g, ¬ inR ⟨⟨k, [], a, b, []⟩, none, 0, none, 0⟩ g := by
  have hA : ∀ g, ¬ bA ⟨⟨k, [], a, b, []⟩, none, 0, none, 0⟩ g := fun g hg => hg.1 rfl
  have hK : ∀ g, ¬ bK ⟨⟨k, [], a, b, []⟩, none, 0, none, 0⟩ g := fun g hg => hg.1 rfl
  have hI : ∀ g, ¬ inR ⟨⟨k, [], a, b, []⟩, none, 0, none, 0⟩ g := fun g hg => hg.elim (hA g) (hK g)
  exact ⟨⟨fun h => absurd rfl h, fun h => absurd rfl h, ⟨.inl rfl, .inl rfl⟩, fun g hg => absurd hg (hI g), fun g hg => absurd hg (hA g), Nat.le_refl _⟩, hI⟩
set_option maxHeartbeats 2000000 in
theorem side_name (R : Nat) (s : ByteArray) (st : IS) (base : Nat) (v : Value) (qs : List ER) (w : World) (h : RdG w R s st base v qs) (hR : R < base) (hB : base ≤ w.heap.size) (hs : s.size ≤ 1000) (hn : qs.length ≤ 100000) (h0 : litAt s tOpen st.p = false) (h1 : litAt s tThis st.p = false) :
    Calls Try.prog 93 #[.pointer (some ⟨R, 0, none⟩)] w (IPost R s base v qs w (nameS s st)) := by
  have H := toHid h
  clear h
  go_enter Try.func93, Try.ntmps93
  go_wp2_with fail
  refine (skip_any R s tOpen st.p v w H.out.rd hs (by decide)).mono ?_
  rintro e w1 ⟨rfl, hr1, hg1⟩
  rw [h0] at hr1 ⊢
  have HF1 : Hid (RdG w1 R s st base v qs) := H.out.skip hR hr1 hg1
  have HO1 := toHid (Onl.of_grown hg1)
  clear hr1 hg1 h0
  go_wp2_with fail
  refine (skip_any R s tThis st.p v w1 HF1.out.rd hs (by decide)).mono ?_
  rintro e w2 ⟨rfl, hr2, hg2⟩
  rw [h1] at hr2 ⊢
  have HF2 : Hid (RdG w2 R s st base v qs) := HF1.out.skip hR hr2 hg2
  have HO2 := toHid (HO1.out.trans0 (Onl.of_grown hg2))
  clear hr2 hg2 h1 HF1 HO1
  go_wp2_with fail
  refine (takeName_any R s st.p v w2 HF2.out.rd hs).mono ?_
  rintro e w3 (⟨hnb, rfl, hr3, hg3⟩ | ⟨hnb, he, hg3⟩)
  · have HF3 : Hid (RdG w3 R s ⟨st.p + wordN s st.p, st.out⟩ base v qs) := HF2.out.skip hR hr3 hg3
    have HO3 := toHid (HO2.out.trans0 (Onl.of_grown hg3))
    have HNB := toHid hnb
    clear hr3 hg3 hnb HF2 HO2
    go_wp2_with fail
    refine (skip_any R s tArrow (st.p + wordN s st.p) v w3 HF3.out.rd hs (by decide)).mono ?_
    rintro e w4 ⟨rfl, hr4, hg4⟩
    cases hl : litAt s tArrow (st.p + wordN s st.p) with
    | true =>
      rw [hl] at hr4
      have HF4 : Hid (RdG w4 R s ⟨st.p + wordN s st.p + 2, st.out⟩ base v qs) := HF3.out.skip hR hr4 hg4
      have HO4 := toHid (HO3.out.trans0 (Onl.of_grown hg4))
      have HL := toHid hl
      clear hr4 hg4 hl HF3 HO3
      go_wp2_with fail
      refine (takeName_any R s (st.p + wordN s st.p + 2) v w4 HF4.out.rd hs).mono ?_
      rintro e w5 (⟨hnb, rfl, hr5, hg5⟩ | ⟨hnb, he, hg5⟩)
      · have HF5 : Hid (RdG w5 R s ⟨st.p + wordN s st.p + 2 + wordN s (st.p + wordN s st.p + 2), st.out⟩ base v qs) := HF4.out.skip hR hr5 hg5
        have HO5 := toHid (HO4.out.trans0 (Onl.of_grown hg5))
        have EQ : Hid (nameS s st = some ((st.out.length : Int), ⟨st.p + wordN s st.p + 2 + wordN s (st.p + wordN s st.p + 2), st.out ++ [⟨3, [], wordP s st.p, wordP s (st.p + wordN s st.p + 2), []⟩]⟩)) := by show _ = _; rw [nameS, nameI, if_pos HNB.out, if_pos HL.out, if_pos hnb]
        obtain ⟨nq1, nq2⟩ := bare_newI base w5 3 (wordP s st.p) (wordP s (st.p + wordN s st.p + 2))
        have HADD := toHid (putF R s ⟨st.p + wordN s st.p + 2 + wordN s (st.p + wordN s st.p + 2), st.out⟩ base v qs ⟨⟨3, [], wordP s st.p, wordP s (st.p + wordN s st.p + 2), []⟩, none, 0, none, 0⟩ w5 HF5.out hR (Nat.le_trans hB HO5.out.size) hn nq1 (fun g hg => absurd hg (nq2 g)))
        have HNQ := toHid nq2
        clear hr5 hg5 hnb HF4 HO4 nq1 nq2
        go_wp2_with fail
        refine HADD.out.mono ?_
        rintro e w6 ⟨v6, rfl, hF6, hW6⟩
        have HF6 := toHid hF6
        have HW6 := toHid ((HO5.out.any v).trans hW6)
        clear hF6 hW6 HADD
        go_wp2
        go_ret
        exact .inl ⟨_, _, v6, _, EQ.out, rfl, HF6.out, HW6.out, fun q hq g hg => by rw [List.mem_singleton] at hq; subst hq; exact absurd hg (HNQ.out g)⟩
      · have EQ : Hid (nameS s st = none) := by show _ = _; rw [nameS, nameI, if_pos HNB.out, if_pos HL.out, if_neg (by rw [hnb]; decide)]
        have HBe := toHid (onl_below (HO4.out.trans0 (Onl.of_grown hg5)) (by have := H.out.rd.lt; omega))
        unfold Pans at he
        subst he
        clear hnb hg5
        go_wp2
        exact ⟨rfl, .inr ⟨EQ.out, rfl, HBe.out⟩⟩
    | false =>
      rw [hl] at hr4
      have HF4 : Hid (RdG w4 R s ⟨st.p + wordN s st.p, st.out⟩ base v qs) := HF3.out.skip hR hr4 hg4
      have HO4 := toHid (HO3.out.trans0 (Onl.of_grown hg4))
      have EQ : Hid (nameS s st = some ((st.out.length : Int), ⟨st.p + wordN s st.p, st.out ++ [⟨2, [], ⟨#[]⟩, wordP s st.p, []⟩]⟩)) := by show _ = _; rw [nameS, nameI, if_pos HNB.out, if_neg (by rw [hl]; decide)]
      obtain ⟨nq1, nq2⟩ := bare_newI base w4 2 ⟨#[]⟩ (wordP s st.p)
      have HADD := toHid (putF R s ⟨st.p + wordN s st.p, st.out⟩ base v qs ⟨⟨2, [], ⟨#[]⟩, wordP s st.p, []⟩, none, 0, none, 0⟩ w4 HF4.out hR (Nat.le_trans hB HO4.out.size) hn nq1 (fun g hg => absurd hg (nq2 g)))
      have HNQ := toHid nq2
      clear hr4 hg4 hl HF3 HO3 nq1 nq2
      go_wp2_with fail
      refine HADD.out.mono ?_
      rintro e w6 ⟨v6, rfl, hF6, hW6⟩
      have HF6 := toHid hF6
      have HW6 := toHid ((HO4.out.any v).trans hW6)
      clear hF6 hW6 HADD
      go_wp2
      go_ret
      exact .inl ⟨_, _, v6, _, EQ.out, rfl, HF6.out, HW6.out, fun q hq g hg => by rw [List.mem_singleton] at hq; subst hq; exact absurd hg (HNQ.out g)⟩
  · have EQ : Hid (nameS s st = none) := by show _ = _; rw [nameS, nameI, if_neg (by rw [hnb]; decide)]
    have HBe := toHid (onl_below (HO2.out.trans0 (Onl.of_grown hg3)) (by have := H.out.rd.lt; omega))
    unfold Pans at he
    subst he
    clear hnb hg3
    go_wp2
    exact ⟨rfl, .inr ⟨EQ.out, rfl, HBe.out⟩⟩
end Go.Proofs.Ytjmbgpdbnffkpaa
