/- Contract of the program's function that reads an expression or panics. -/
import Derived.Test.YtjmbgpdbnffkpaaIRdSides
import Derived.Test.YtjmbgpdbnffkpaaJ9
import Derived.Test.YtjmbgpdbnffkpaaImplExpr
namespace Go.Proofs.Ytjmbgpdbnffkpaa
set_option maxRecDepth 100000
set_option linter.unusedVariables false
open Go.ChangeShapes Go.WideShapes Go.ChangeAt Go.RowKit
open Pl

theorem smI_kids {s : ByteArray} {it : IS → Option (Int × IS)} {k : Int} (hit : ∀ st x st', st.p ≤ s.size → (∀ e ∈ st.out, SmE s e) → it st = some (x, st') → st'.p ≤ s.size ∧ ∀ e ∈ st'.out, SmE s e) : ∀ (n : Nat) (zs zs' : List Int) (st st' : IS), st.p ≤ s.size → (∀ e ∈ st.out, SmE s e) → kidsI s it k n zs st = some (zs', st') → zs'.length ≤ zs.length + n ∧ ∀ e ∈ st'.out, SmE s e
  | 0, zs, zs', st, st', _, h, e => by
    rw [kidsI] at e
    injection e with e; injection e with e1 e2
    subst e1 e2
    exact ⟨Nat.le_refl _, h⟩
  | n + 1, zs, zs', st, st', hp, h, e => by
    rw [kidsI] at e
    by_cases hl : litAt s (tSign k) st.p = true
    · rw [if_pos hl] at e
      have hle := litAt_le hl
      rw [tSign_size] at hle
      cases e1 : it ⟨st.p + 3, st.out⟩ with
      | none => rw [e1] at e; cases e
      | some xs =>
        obtain ⟨x, st1⟩ := xs
        rw [e1] at e
        simp only at e
        obtain ⟨a1, a2⟩ := hit ⟨st.p + 3, st.out⟩ x st1 hle h e1
        obtain ⟨b1, b2⟩ := smI_kids hit n _ _ st1 st' a1 a2 e
        rw [List.length_append, List.length_singleton] at b1
        exact ⟨by omega, b2⟩
    · rw [if_neg hl] at e
      injection e with e; injection e with e1 e2
      subst e1 e2
      exact ⟨by omega, h⟩
theorem smI_add {s : ByteArray} {x : Ex} {out : List Ex} (h : ∀ e ∈ out, SmE s e) (hx : SmE s x) : ∀ e ∈ out ++ [x], SmE s e := by
  intro e he
  rcases List.mem_append.1 he with h1 | h1
  · exact h e h1
  · rw [List.mem_singleton] at h1; subst h1; exact hx
theorem smI_rd (s : ByteArray) : ∀ (n : Nat) (b : Bool) (st : IS) (x : Int) (st' : IS), st.p ≤ s.size → (∀ e ∈ st.out, SmE s e) → rdI s n b st = some (x, st') → ∀ e ∈ st'.out, SmE s e
  | 0, _, _, _, _, _, _, e => by simp [rdI] at e
  | n + 1, false, st, x, st', hp, h, e => by
    cases h0 : litAt s tOpen st.p with
    | true =>
      rw [rdI_open h0] at e
      have hle := litAt_le h0
      have e1 : tOpen.size = 1 := rfl
      cases e2 : rdI s n true ⟨st.p + 1, st.out⟩ with
      | none => rw [e2] at e; cases e
      | some cs =>
        obtain ⟨c, st1⟩ := cs
        rw [e2, openI] at e
        split at e
        · split at e
          · injection e with e; injection e with _ e
            subst e
            exact smI_rd s n true ⟨st.p + 1, st.out⟩ c st1 (by show st.p + 1 ≤ _; omega) h e2
          · cases e
        · cases e
    | false =>
      cases h1 : litAt s tThis st.p with
      | true =>
        rw [rdI_this h0 h1, thisI] at e
        have hle := litAt_le h1
        have e5 : tThis.size = 5 := rfl
        cases e2 : pairsI s (s.size + 1) [] (st.p + 5) with
        | none => rw [e2] at e; cases e
        | some cs =>
          obtain ⟨xs, q⟩ := cs
          rw [e2] at e
          simp only at e
          injection e with e; injection e with _ e
          subst e
          obtain ⟨k1, -, -⟩ := pairs_one s (s.size + 1) [] xs (st.p + 5) q [] (by omega) e2
          obtain ⟨a, b⟩ := pairsP_sm (s := s) (s.size + 1) [] ⟨st.p + 5, false, []⟩ xs (fun a ha => by cases ha) (by rw [k1])
          exact smI_add h ⟨by simpa using a, b, Nat.zero_le _, Nat.zero_le _, Nat.zero_le _⟩
      | false =>
        rw [rdI_name h0 h1, nameS] at e
        cases e2 : nameI s st.p with
        | none => rw [e2] at e; cases e
        | some cs =>
          obtain ⟨y, q⟩ := cs
          rw [e2] at e
          simp only at e
          injection e with e; injection e with _ e
          subst e
          obtain ⟨rfl, -, -⟩ := nameI_is e2
          refine smI_add h ?_
          unfold nmX
          split
          · exact ⟨Nat.zero_le _, fun a ha => (by cases ha), wordP_sm s _, wordP_sm s _, Nat.zero_le _⟩
          · exact ⟨Nat.zero_le _, fun a ha => (by cases ha), Nat.zero_le _, wordP_sm s _, Nat.zero_le _⟩
  | n + 1, true, st, x, st', hp, h, e => by
    rw [rdI_sides] at e
    cases e2 : rdI s n false st with
    | none => rw [e2] at e; cases e
    | some cs =>
      obtain ⟨i, st1⟩ := cs
      rw [e2, sidesI] at e
      have hx := smI_rd s n false st i st1 hp h e2
      obtain ⟨-, hxp, -⟩ := few_rd s n false st i st1 hp e2
      split at e
      · injection e with e; injection e with _ e
        subst e
        exact hx
      · cases e3 : kidsI s (rdI s n false) (signAt s st1.p) (s.size + 1) [i] st1 with
        | none => rw [e3] at e; cases e
        | some ds =>
          obtain ⟨zs, st2⟩ := ds
          rw [e3] at e
          simp only at e
          injection e with e; injection e with _ e
          subst e
          obtain ⟨b1, b2⟩ := smI_kids (fun st x st' a b c => ⟨(few_rd s n false st x st' a c).2.1, smI_rd s n false st x st' a b c⟩) _ _ _ _ _ hxp hx e3
          refine smI_add b2 ⟨Nat.zero_le _, fun a ha => (by cases ha), Nat.zero_le _, Nat.zero_le _, ?_⟩
          show zs.length ≤ _
          simp only [List.length_singleton] at b1
          omega
/-- what the program's function answers -/
def implOk (s : ByteArray) : Option (List Ex) := if s.size ≤ 1000 then implR s else none
def MPost (s : ByteArray) (w : World) (e : Ending) (w' : World) : Prop :=
  (∃ es v R qs st, implOk s = some es ∧ e = .returned v ∧ RdG w' R s st (w.heap.size + 1) v qs ∧ exs qs = es ∧ Below w.heap.size w w' ∧ w.heap.size ≤ R) ∨ (implOk s = none ∧ Pans e ∧ Below w.heap.size w w')
theorem empty_rdI (w : World) (s : ByteArray) : RdG (w.alloc (.cells #[.string s, .slice none 0 0] 97)) w.heap.size s ⟨0, []⟩ (w.heap.size + 1) (.slice none 0 0) [] := by
  have hall : s.extract 0 s.size = s := by
    apply ext_data'
    rw [ex_data, List.drop_zero]
    exact List.take_of_length_le (by simp)
  refine ⟨⟨by simp, by rw [hall]; simp, by simp, fun j => by simp, Nat.zero_le _⟩, World.ownsRow_nil _ _ _ _, rfl, ?_, ?_, ?_, ?_, ?_, ?_, ?_⟩
  · intro q hq; cases hq
  · intro q hq; cases hq
  · intro q hq; cases hq
  · intro q hq; cases hq
  · intro q hq; cases hq
  · intro x y hx; exact absurd hx (by simp)
  · intro q hq; cases hq
theorem RdG.later {w w' : World} {R : Nat} {s : ByteArray} {st : IS} {base : Nat} {v : Value} {qs : List ER} (h : RdG w R s st base v qs) (hb : Below w.heap.size w w') : RdG w' R s st base v qs :=
  h.heap hb.size (hb.block R h.rd.lt) (fun g hg => hb.block g (h.own.lt g hg).2) (fun q hq g hi => hb.block g (h.lie q hq g hi).2.1)
theorem rest_none {s : ByteArray} {p : Nat} (hp : p ≤ s.size) (h : p = s.size) : (s.extract p s.size).toList.isEmpty = true := by
  have : s.extract p s.size = ⟨#[]⟩ := by apply ext_data'; rw [ex_data, h]; simp
  rw [this, Go.ByteArray.toList_eq]; rfl
theorem rest_all {s : ByteArray} {p : Nat} (hp : p ≤ s.size) (h : (s.extract p s.size).toList.isEmpty = true) : p = s.size := by
  have h1 := rest_size s hp
  rw [Go.ByteArray.toList_eq, List.isEmpty_iff] at h
  have h2 : (s.extract p s.size).size = (s.extract p s.size).data.toList.length := rfl
  rw [h] at h2
  simp at h2
  omega
set_option maxHeartbeats 4000000 in
theorem mustRead_any (s : ByteArray) (w : World) : Calls Try.prog 30 #[.string s] w (MPost s w) := by
  by_cases hs : s.size ≤ 1000
  · have hd : decide ((s.size : Int) ≤ 1000) = true := by simp; omega
    obtain ⟨X, hX⟩ : ∃ X, X = w.alloc (.cells #[.string s, .slice none 0 0] 97) := ⟨_, rfl⟩
    have HRD : Hid (RdG X w.heap.size s ⟨0, []⟩ (w.heap.size + 1) (.slice none 0 0) []) := by rw [hX]; exact empty_rdI w s
    have HXS : Hid (X.heap.size = w.heap.size + 1 ∧ Below w.heap.size w X) := by rw [hX]; exact ⟨by simp, (Below.refl _ _).alloc (Nat.le_refl _) _⟩
    have HCALL := toHid ((readI_any w.heap.size s (w.heap.size + 1) (by omega) hs (2 * s.size + 2)).2 ⟨0, []⟩ (.slice none 0 0) [] X HRD.out (by rw [HXS.out.1]; exact Nat.le_refl _) (Nat.zero_le _) (Nat.zero_le _) (by show 2 * (s.size - 0) + 1 < _; omega))
    go_enter Try.func30, Try.ntmps30
    go_wp2_with fail
    refine (must_yes w).mono ?_
    rintro e w0 ⟨rfl, rfl⟩
    go_wp2_with fail
    rw [← hX]
    clear hX
    refine HCALL.out.mono ?_
    rintro e w1 (⟨c, st, v1, qs, hI, rfl, hF1, hW1, -⟩ | ⟨hI, he, hb1⟩)
    · have HI := toHid hI
      obtain ⟨f1, hle, f3⟩ := few_rd s _ true ⟨0, []⟩ c st (Nat.zero_le _) hI
      have hSM := smI_rd s _ true ⟨0, []⟩ c st (Nat.zero_le _) (fun e he => by cases he) hI
      replace hF1 : RdG w1 w0.heap.size s st (w0.heap.size + 1) v1 qs := hF1
      have HF1 := toHid hF1
      have HB1 : Hid (Below w0.heap.size w0 w1) := HXS.out.2.trans (went_below HRD.out hW1 (by omega))
      obtain ⟨ad, cap, rfl, hsl⟩ := hF1.slE
      have HSL := toHid hsl
      have hlen := hF1.len
      have hol : st.out.length ≤ 1000 := by have h3 : st.out.length + 0 ≤ 0 + st.p := f3; omega
      have hql : qs.length ≤ 1048576 := by omega
      have HLI : Hid (∀ r ∈ qs, r.e.light) := fun r hr => ((hSM r.e (by rw [← hF1.out]; exact List.mem_map.2 ⟨r, hr, rfl⟩)).light hs).1
      have HFI : Hid (∀ r ∈ qs, r.e.fits) := fun r hr => ((hSM r.e (by rw [← hF1.out]; exact List.mem_map.2 ⟨r, hr, rfl⟩)).light hs).2
      have HLN := toHid hlen
      have c0 := hF1.rd.c0
      have c1 := hF1.rd.c1
      clear hI hF1 hW1 hsl hSM f1 f3 hlen HCALL HRD HXS
      by_cases hc : 1 < c
      · have hd1 : decide (1 < c) = true := by simpa using hc
        have HC : Hid (1 < c ∨ st.out.length = 1) := .inl hc
        clear hc
        go_wp2_with fail
        refine (must_yes w1).mono ?_
        rintro e w2 ⟨rfl, rfl⟩
        cases hem : (s.extract st.p s.size).toList.isEmpty with
        | false =>
          have EQ : Hid (implOk s = none) := by
            show _ = _
            rw [implOk, if_pos hs, implR, HI.out]
            simp only
            rw [if_neg (fun h => by rw [rest_none hle h.2.1] at hem; cases hem)]
          have hem2 : ((s.extract st.p s.size).toList = []) = False := by rw [eq_iff_iff, iff_false]; intro h; rw [h] at hem; cases hem
          go_wp2_with fail
          refine (must_no w2).mono ?_
          rintro e w3 ⟨he, rfl⟩
          unfold Pans at he
          subst he
          go_wp2
          exact ⟨rfl, .inr ⟨EQ.out, rfl, HB1.out⟩⟩
        | true =>
          have HPE : Hid (st.p = s.size) := rest_all hle hem
          have hem2 : (s.extract st.p s.size).toList = [] := List.isEmpty_iff.1 hem
          go_wp2_with fail
          refine (implExprOk_any ad cap qs w2 hql HLI.out HFI.out HF1.out.cA HSL.out).mono ?_
          rintro e w3 ⟨rfl, hb3⟩
          rw [← spec_impl, HF1.out.out]
          have HF3 := toHid (HF1.out.later hb3)
          have HB3 := toHid (HB1.out.trans (hb3.mono HB1.out.size))
          have k1 := HF3.out.rd.c1
          clear hb3
          cases hsp : specE st.out with
          | false =>
            have EQ : Hid (implOk s = none) := by
              show _ = _
              rw [implOk, if_pos hs, implR, HI.out]
              simp only
              rw [if_neg (fun h => by rw [h.2.2] at hsp; cases hsp)]
            clear hsp
            go_wp2_with fail
            refine (must_no w3).mono ?_
            rintro e w4 ⟨he, rfl⟩
            unfold Pans at he
            subst he
            go_wp2
            exact ⟨rfl, .inr ⟨EQ.out, rfl, HB3.out⟩⟩
          | true =>
            have EQ : Hid (implOk s = some st.out) := by
              show _ = _
              rw [implOk, if_pos hs, implR, HI.out]
              simp only
              rw [if_pos ⟨HC.out, HPE.out, hsp⟩]
            clear hsp
            go_wp2_with fail
            refine (must_yes w3).mono ?_
            rintro e w4 ⟨rfl, rfl⟩
            go_wp2
            go_ret
            exact .inl ⟨st.out, _, _, qs, st, EQ.out, rfl, HF3.out, HF3.out.out, HB3.out, Nat.le_refl _⟩
      · have hd1 : decide (1 < c) = false := by simpa using hc
        by_cases h1 : qs.length = 1
        · have hd2 : ((qs.length : Int) == 1) = true := by simp; omega
          have HC : Hid (1 < c ∨ st.out.length = 1) := .inr (by have := HLN.out; omega)
          have H1 := toHid h1
          clear hc h1
          go_wp2_with fail
          refine (must_yes w1).mono ?_
          rintro e w2 ⟨rfl, rfl⟩
          cases hem : (s.extract st.p s.size).toList.isEmpty with
          | false =>
            have EQ : Hid (implOk s = none) := by
              show _ = _
              rw [implOk, if_pos hs, implR, HI.out]
              simp only
              rw [if_neg (fun h => by rw [rest_none hle h.2.1] at hem; cases hem)]
            have hem2 : ((s.extract st.p s.size).toList = []) = False := by rw [eq_iff_iff, iff_false]; intro h; rw [h] at hem; cases hem
            go_wp2_with fail
            refine (must_no w2).mono ?_
            rintro e w3 ⟨he, rfl⟩
            unfold Pans at he
            subst he
            go_wp2
            exact ⟨rfl, .inr ⟨EQ.out, rfl, HB1.out⟩⟩
          | true =>
            have HPE : Hid (st.p = s.size) := rest_all hle hem
            have hem2 : (s.extract st.p s.size).toList = [] := List.isEmpty_iff.1 hem
            go_wp2_with fail
            refine (implExprOk_any ad cap qs w2 hql HLI.out HFI.out HF1.out.cA HSL.out).mono ?_
            rintro e w3 ⟨rfl, hb3⟩
            rw [← spec_impl, HF1.out.out]
            have HF3 := toHid (HF1.out.later hb3)
            have HB3 := toHid (HB1.out.trans (hb3.mono HB1.out.size))
            have k1 := HF3.out.rd.c1
            clear hb3
            cases hsp : specE st.out with
            | false =>
              have EQ : Hid (implOk s = none) := by
                show _ = _
                rw [implOk, if_pos hs, implR, HI.out]
                simp only
                rw [if_neg (fun h => by rw [h.2.2] at hsp; cases hsp)]
              clear hsp
              go_wp2_with fail
              refine (must_no w3).mono ?_
              rintro e w4 ⟨he, rfl⟩
              unfold Pans at he
              subst he
              go_wp2
              exact ⟨rfl, .inr ⟨EQ.out, rfl, HB3.out⟩⟩
            | true =>
              have EQ : Hid (implOk s = some st.out) := by
                show _ = _
                rw [implOk, if_pos hs, implR, HI.out]
                simp only
                rw [if_pos ⟨HC.out, HPE.out, hsp⟩]
              clear hsp
              go_wp2_with fail
              refine (must_yes w3).mono ?_
              rintro e w4 ⟨rfl, rfl⟩
              go_wp2
              go_ret
              exact .inl ⟨st.out, _, _, qs, st, EQ.out, rfl, HF3.out, HF3.out.out, HB3.out, Nat.le_refl _⟩
        · have hd2 : ((qs.length : Int) == 1) = false := by simp; omega
          have EQ : Hid (implOk s = none) := by
            show _ = _
            rw [implOk, if_pos hs, implR, HI.out]
            simp only
            rw [if_neg (fun h => by
              rcases h.1 with h | h
              · exact hc h
              · have := HLN.out; omega)]
          clear hc h1
          go_wp2_with fail
          refine (must_no w1).mono ?_
          rintro e w3 ⟨he, rfl⟩
          unfold Pans at he
          subst he
          go_wp2
          exact ⟨rfl, .inr ⟨EQ.out, rfl, HB1.out⟩⟩
    · have EQ : Hid (implOk s = none) := by show _ = _; rw [implOk, if_pos hs, implR, hI]
      have HBe := toHid (HXS.out.2.trans hb1)
      unfold Pans at he
      subst he
      clear hb1 hI HCALL
      go_wp2
      exact ⟨rfl, .inr ⟨EQ.out, rfl, HBe.out⟩⟩
  · have hd : decide ((s.size : Int) ≤ 1000) = false := by simp; omega
    have EQ : Hid (implOk s = none) := by show _ = _; rw [implOk, if_neg hs]
    go_enter Try.func30, Try.ntmps30
    go_wp2_with fail
    refine (must_no w).mono ?_
    rintro e w0 ⟨he, rfl⟩
    unfold Pans at he
    subst he
    go_wp2
    exact ⟨rfl, .inr ⟨EQ.out, rfl, Below.refl _ _⟩⟩
end Go.Proofs.Ytjmbgpdbnffkpaa
