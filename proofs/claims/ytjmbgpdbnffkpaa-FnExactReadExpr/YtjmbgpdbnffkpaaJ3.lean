/- Contract of the program's function that reads an expression or panics. -/
import Derived.Test.YtjmbgpdbnffkpaaIRdSides
import Derived.Test.YtjmbgpdbnffkpaaJ2
import Derived.Test.YtjmbgpdbnffkpaaImplExpr
import Derived.Defers
import Derived.Recover
import Derived.Laws.Pointers
import Derived.Test.YtjmbgpdbnffkpaaMark4
import Derived.Test.YtjmbgpdbnffkpaaEqExpr
namespace Go.Proofs.Ytjmbgpdbnffkpaa
set_option maxRecDepth 100000
set_option linter.unusedVariables false
open Go.ChangeShapes Go.WideShapes Go.ChangeAt Go.RowKit
open Pl

theorem smI_kids {s : ByteArray} {it : IS → Option (Int × IS)} {k : Int} (hit : ∀ st x st', st.p ≤ s.size → (∀ e ∈ st.out, SmE s e) → it st = some (x, st') → st'.p ≤ s.size ∧ ∀ e ∈ st'.out, SmE s e) : ∀ (n : Nat) (zs zs' : List Int) (st st' : IS), st.p ≤ s.size → (∀ e ∈ st.out, SmE s e) → kidsI s it k n zs st = some (zs', st') → zs'.length ≤ zs.length + n ∧ ∀ e ∈ st'.out, SmE s e
  | 0, zs, zs', st, st', _, h, e => by
    rw [kidsI] at e
    injection e with e; injection e with e1 e2
    subst e1 e2
    exact ⟨Nat.le_refl _, h⟩
  | n + 1, zs, zs', st, st', hp, h, e => by
    rw [kidsI] at e
    by_cases hl : litAt s (tSign k) st.p = true
    · rw [if_pos hl] at e
      have hle := litAt_le hl
      rw [tSign_size] at hle
      cases e1 : it ⟨st.p + 3, st.out⟩ with
      | none => rw [e1] at e; cases e
      | some xs =>
        obtain ⟨x, st1⟩ := xs
        rw [e1] at e
        simp only at e
        obtain ⟨a1, a2⟩ := hit ⟨st.p + 3, st.out⟩ x st1 hle h e1
        obtain ⟨b1, b2⟩ := smI_kids hit n _ _ st1 st' a1 a2 e
        rw [List.length_append, List.length_singleton] at b1
        exact ⟨by omega, b2⟩
    · rw [if_neg hl] at e
      injection e with e; injection e with e1 e2
      subst e1 e2
      exact ⟨by omega, h⟩
theorem smI_add {s : ByteArray} {x : Ex} {out : List Ex} (h : ∀ e ∈ out, SmE s e) (hx : SmE s x) : ∀ e ∈ out ++ [x], SmE s e := by
  intro e he
  rcases List.mem_append.1 he with h1 | h1
  · exact h e h1
  · rw [List.mem_singleton] at h1; subst h1; exact hx
theorem smI_rd (s : ByteArray) : ∀ (n : Nat) (b : Bool) (st : IS) (x : Int) (st' : IS), st.p ≤ s.size → (∀ e ∈ st.out, SmE s e) → rdI s n b st = some (x, st') → ∀ e ∈ st'.out, SmE s e
  | 0, _, _, _, _, _, _, e => by simp [rdI] at e
  | n + 1, false, st, x, st', hp, h, e => by
    cases h0 : litAt s tOpen st.p with
    | true =>
      rw [rdI_open h0] at e
      have hle := litAt_le h0
      have e1 : tOpen.size = 1 := rfl
      cases e2 : rdI s n true ⟨st.p + 1, st.out⟩ with
      | none => rw [e2] at e; cases e
      | some cs =>
        obtain ⟨c, st1⟩ := cs
        rw [e2, openI] at e
        split at e
        · split at e
          · injection e with e; injection e with _ e
            subst e
            exact smI_rd s n true ⟨st.p + 1, st.out⟩ c st1 (by show st.p + 1 ≤ _; omega) h e2
          · cases e
        · cases e
    | false =>
      cases h1 : litAt s tThis st.p with
      | true =>
        rw [rdI_this h0 h1, thisI] at e
        have hle := litAt_le h1
        have e5 : tThis.size = 5 := rfl
        cases e2 : pairsI s (s.size + 1) [] (st.p + 5) with
        | none => rw [e2] at e; cases e
        | some cs =>
          obtain ⟨xs, q⟩ := cs
          rw [e2] at e
          simp only at e
          injection e with e; injection e with _ e
          subst e
          obtain ⟨k1, -, -⟩ := pairs_one s (s.size + 1) [] xs (st.p + 5) q [] (by omega) e2
          obtain ⟨a, b⟩ := pairsP_sm (s := s) (s.size + 1) [] ⟨st.p + 5, false, []⟩ xs (fun a ha => by cases ha) (by rw [k1])
          exact smI_add h ⟨by simpa using a, b, Nat.zero_le _, Nat.zero_le _, Nat.zero_le _⟩
      | false =>
        rw [rdI_name h0 h1, nameS] at e
        cases e2 : nameI s st.p with
        | none => rw [e2] at e; cases e
        | some cs =>
          obtain ⟨y, q⟩ := cs
          rw [e2] at e
          simp only at e
          injection e with e; injection e with _ e
          subst e
          obtain ⟨rfl, -, -⟩ := nameI_is e2
          refine smI_add h ?_
          unfold nmX
          split
          · exact ⟨Nat.zero_le _, fun a ha => (by cases ha), wordP_sm s _, wordP_sm s _, Nat.zero_le _⟩
          · exact ⟨Nat.zero_le _, fun a ha => (by cases ha), Nat.zero_le _, wordP_sm s _, Nat.zero_le _⟩
  | n + 1, true, st, x, st', hp, h, e => by
    rw [rdI_sides] at e
    cases e2 : rdI s n false st with
    | none => rw [e2] at e; cases e
    | some cs =>
      obtain ⟨i, st1⟩ := cs
      rw [e2, sidesI] at e
      have hx := smI_rd s n false st i st1 hp h e2
      obtain ⟨-, hxp, -⟩ := few_rd s n false st i st1 hp e2
      split at e
      · injection e with e; injection e with _ e
        subst e
        exact hx
      · cases e3 : kidsI s (rdI s n false) (signAt s st1.p) (s.size + 1) [i] st1 with
        | none => rw [e3] at e; cases e
        | some ds =>
          obtain ⟨zs, st2⟩ := ds
          rw [e3] at e
          simp only at e
          injection e with e; injection e with _ e
          subst e
          obtain ⟨b1, b2⟩ := smI_kids (fun st x st' a b c => ⟨(few_rd s n false st x st' a c).2.1, smI_rd s n false st x st' a b c⟩) _ _ _ _ _ hxp hx e3
          refine smI_add b2 ⟨Nat.zero_le _, fun a ha => (by cases ha), Nat.zero_le _, Nat.zero_le _, ?_⟩
          show zs.length ≤ _
          simp only [List.length_singleton] at b1
          omega
/-- what the program's function answers -/
def implOk (s : ByteArray) : Option (List Ex) := if s.size ≤ 1000 then implR s else none
def MPost (s : ByteArray) (w : World) (e : Ending) (w' : World) : Prop :=
  (∃ es v R qs st, implOk s = some es ∧ e = .returned v ∧ RdG w' R s st (w.heap.size + 1) v qs ∧ exs qs = es ∧ Below w.heap.size w w' ∧ w.heap.size ≤ R) ∨ (implOk s = none ∧ Pans e ∧ Below w.heap.size w w')
theorem empty_rdI (w : World) (s : ByteArray) : RdG (w.alloc (.cells #[.string s, .slice none 0 0] 97)) w.heap.size s ⟨0, []⟩ (w.heap.size + 1) (.slice none 0 0) [] := by
  have hall : s.extract 0 s.size = s := by
    apply ext_data'
    rw [ex_data, List.drop_zero]
    exact List.take_of_length_le (by simp)
  refine ⟨⟨by simp, by rw [hall]; simp, by simp, fun j => by simp, Nat.zero_le _⟩, World.ownsRow_nil _ _ _ _, rfl, ?_, ?_, ?_, ?_, ?_, ?_, ?_⟩
  · intro q hq; cases hq
  · intro q hq; cases hq
  · intro q hq; cases hq
  · intro q hq; cases hq
  · intro q hq; cases hq
  · intro x y hx; exact absurd hx (by simp)
  · intro q hq; cases hq
theorem RdG.later {w w' : World} {R : Nat} {s : ByteArray} {st : IS} {base : Nat} {v : Value} {qs : List ER} (h : RdG w R s st base v qs) (hb : Below w.heap.size w w') : RdG w' R s st base v qs :=
  h.heap hb.size (hb.block R h.rd.lt) (fun g hg => hb.block g (h.own.lt g hg).2) (fun q hq g hi => hb.block g (h.lie q hq g hi).2.1)
theorem rest_none {s : ByteArray} {p : Nat} (hp : p ≤ s.size) (h : p = s.size) : (s.extract p s.size).toList.isEmpty = true := by
  have : s.extract p s.size = ⟨#[]⟩ := by apply ext_data'; rw [ex_data, h]; simp
  rw [this, Go.ByteArray.toList_eq]; rfl
theorem rest_all {s : ByteArray} {p : Nat} (hp : p ≤ s.size) (h : (s.extract p s.size).toList.isEmpty = true) : p = s.size := by
  have h1 := rest_size s hp
  rw [Go.ByteArray.toList_eq, List.isEmpty_iff] at h
  have h2 : (s.extract p s.size).size = (s.extract p s.size).data.toList.length := rfl
  rw [h] at h2
  simp at h2
  omega
set_option maxHeartbeats 4000000 in
theorem mustRead_any (s : ByteArray) (w : World) : Calls Try.prog 30 #[.string s] w (MPost s w) := by
  by_cases hs : s.size ≤ 1000
  · have hd : decide ((s.size : Int) ≤ 1000) = true := by simp; omega
    obtain ⟨X, hX⟩ : ∃ X, X = w.alloc (.cells #[.string s, .slice none 0 0] 97) := ⟨_, rfl⟩
    have HRD : Hid (RdG X w.heap.size s ⟨0, []⟩ (w.heap.size + 1) (.slice none 0 0) []) := by rw [hX]; exact empty_rdI w s
    have HXS : Hid (X.heap.size = w.heap.size + 1 ∧ Below w.heap.size w X) := by rw [hX]; exact ⟨by simp, (Below.refl _ _).alloc (Nat.le_refl _) _⟩
    have HCALL := toHid ((readI_any w.heap.size s (w.heap.size + 1) (by omega) hs (2 * s.size + 2)).2 ⟨0, []⟩ (.slice none 0 0) [] X HRD.out (by rw [HXS.out.1]; exact Nat.le_refl _) (Nat.zero_le _) (Nat.zero_le _) (by show 2 * (s.size - 0) + 1 < _; omega))
    go_enter Try.func30, Try.ntmps30
    go_wp2_with fail
    refine (must_yes w).mono ?_
    rintro e w0 ⟨rfl, rfl⟩
    go_wp2_with fail
    rw [← hX]
    clear hX
    refine HCALL.out.mono ?_
    rintro e w1 (⟨c, st, v1, qs, hI, rfl, hF1, hW1, -⟩ | ⟨hI, he, hb1⟩)
    · have HI := toHid hI
      obtain ⟨f1, hle, f3⟩ := few_rd s _ true ⟨0, []⟩ c st (Nat.zero_le _) hI
      have hSM := smI_rd s _ true ⟨0, []⟩ c st (Nat.zero_le _) (fun e he => by cases he) hI
      replace hF1 : RdG w1 w0.heap.size s st (w0.heap.size + 1) v1 qs := hF1
      have HF1 := toHid hF1
      have HB1 : Hid (Below w0.heap.size w0 w1) := HXS.out.2.trans (went_below HRD.out hW1 (by omega))
      obtain ⟨ad, cap, rfl, hsl⟩ := hF1.slE
      have HSL := toHid hsl
      have hlen := hF1.len
      have hol : st.out.length ≤ 1000 := by have h3 : st.out.length + 0 ≤ 0 + st.p := f3; omega
      have hql : qs.length ≤ 1048576 := by omega
      have HLI : Hid (∀ r ∈ qs, r.e.light) := fun r hr => ((hSM r.e (by rw [← hF1.out]; exact List.mem_map.2 ⟨r, hr, rfl⟩)).light hs).1
      have HFI : Hid (∀ r ∈ qs, r.e.fits) := fun r hr => ((hSM r.e (by rw [← hF1.out]; exact List.mem_map.2 ⟨r, hr, rfl⟩)).light hs).2
      have HLN := toHid hlen
      have c0 := hF1.rd.c0
      have c1 := hF1.rd.c1
      clear hI hF1 hW1 hsl hSM f1 f3 hlen HCALL HRD HXS
      by_cases hc : 1 < c
      · have hd1 : decide (1 < c) = true := by simpa using hc
        have HC : Hid (1 < c ∨ st.out.length = 1) := .inl hc
        clear hc
        go_wp2_with fail
        refine (must_yes w1).mono ?_
        rintro e w2 ⟨rfl, rfl⟩
        cases hem : (s.extract st.p s.size).toList.isEmpty with
        | false =>
          have EQ : Hid (implOk s = none) := by
            show _ = _
            rw [implOk, if_pos hs, implR, HI.out]
            simp only
            rw [if_neg (fun h => by rw [rest_none hle h.2.1] at hem; cases hem)]
          have hem2 : ((s.extract st.p s.size).toList = []) = False := by rw [eq_iff_iff, iff_false]; intro h; rw [h] at hem; cases hem
          go_wp2_with fail
          refine (must_no w2).mono ?_
          rintro e w3 ⟨he, rfl⟩
          unfold Pans at he
          subst he
          go_wp2
          exact ⟨rfl, .inr ⟨EQ.out, rfl, HB1.out⟩⟩
        | true =>
          have HPE : Hid (st.p = s.size) := rest_all hle hem
          have hem2 : (s.extract st.p s.size).toList = [] := List.isEmpty_iff.1 hem
          go_wp2_with fail
          refine (implExprOk_any ad cap qs w2 hql HLI.out HFI.out HF1.out.cA HSL.out).mono ?_
          rintro e w3 ⟨rfl, hb3⟩
          rw [← spec_impl, HF1.out.out]
          have HF3 := toHid (HF1.out.later hb3)
          have HB3 := toHid (HB1.out.trans (hb3.mono HB1.out.size))
          have k1 := HF3.out.rd.c1
          clear hb3
          cases hsp : specE st.out with
          | false =>
            have EQ : Hid (implOk s = none) := by
              show _ = _
              rw [implOk, if_pos hs, implR, HI.out]
              simp only
              rw [if_neg (fun h => by rw [h.2.2] at hsp; cases hsp)]
            clear hsp
            go_wp2_with fail
            refine (must_no w3).mono ?_
            rintro e w4 ⟨he, rfl⟩
            unfold Pans at he
            subst he
            go_wp2
            exact ⟨rfl, .inr ⟨EQ.out, rfl, HB3.out⟩⟩
          | true =>
            have EQ : Hid (implOk s = some st.out) := by
              show _ = _
              rw [implOk, if_pos hs, implR, HI.out]
              simp only
              rw [if_pos ⟨HC.out, HPE.out, hsp⟩]
            clear hsp
            go_wp2_with fail
            refine (must_yes w3).mono ?_
            rintro e w4 ⟨rfl, rfl⟩
            go_wp2
            go_ret
            exact .inl ⟨st.out, _, _, qs, st, EQ.out, rfl, HF3.out, HF3.out.out, HB3.out, Nat.le_refl _⟩
      · have hd1 : decide (1 < c) = false := by simpa using hc
        by_cases h1 : qs.length = 1
        · have hd2 : ((qs.length : Int) == 1) = true := by simp; omega
          have HC : Hid (1 < c ∨ st.out.length = 1) := .inr (by have := HLN.out; omega)
          have H1 := toHid h1
          clear hc h1
          go_wp2_with fail
          refine (must_yes w1).mono ?_
          rintro e w2 ⟨rfl, rfl⟩
          cases hem : (s.extract st.p s.size).toList.isEmpty with
          | false =>
            have EQ : Hid (implOk s = none) := by
              show _ = _
              rw [implOk, if_pos hs, implR, HI.out]
              simp only
              rw [if_neg (fun h => by rw [rest_none hle h.2.1] at hem; cases hem)]
            have hem2 : ((s.extract st.p s.size).toList = []) = False := by rw [eq_iff_iff, iff_false]; intro h; rw [h] at hem; cases hem
            go_wp2_with fail
            refine (must_no w2).mono ?_
            rintro e w3 ⟨he, rfl⟩
            unfold Pans at he
            subst he
            go_wp2
            exact ⟨rfl, .inr ⟨EQ.out, rfl, HB1.out⟩⟩
          | true =>
            have HPE : Hid (st.p = s.size) := rest_all hle hem
            have hem2 : (s.extract st.p s.size).toList = [] := List.isEmpty_iff.1 hem
            go_wp2_with fail
            refine (implExprOk_any ad cap qs w2 hql HLI.out HFI.out HF1.out.cA HSL.out).mono ?_
            rintro e w3 ⟨rfl, hb3⟩
            rw [← spec_impl, HF1.out.out]
            have HF3 := toHid (HF1.out.later hb3)
            have HB3 := toHid (HB1.out.trans (hb3.mono HB1.out.size))
            have k1 := HF3.out.rd.c1
            clear hb3
            cases hsp : specE st.out with
            | false =>
              have EQ : Hid (implOk s = none) := by
                show _ = _
                rw [implOk, if_pos hs, implR, HI.out]
                simp only
                rw [if_neg (fun h => by rw [h.2.2] at hsp; cases hsp)]
              clear hsp
              go_wp2_with fail
              refine (must_no w3).mono ?_
              rintro e w4 ⟨he, rfl⟩
              unfold Pans at he
              subst he
              go_wp2
              exact ⟨rfl, .inr ⟨EQ.out, rfl, HB3.out⟩⟩
            | true =>
              have EQ : Hid (implOk s = some st.out) := by
                show _ = _
                rw [implOk, if_pos hs, implR, HI.out]
                simp only
                rw [if_pos ⟨HC.out, HPE.out, hsp⟩]
              clear hsp
              go_wp2_with fail
              refine (must_yes w3).mono ?_
              rintro e w4 ⟨rfl, rfl⟩
              go_wp2
              go_ret
              exact .inl ⟨st.out, _, _, qs, st, EQ.out, rfl, HF3.out, HF3.out.out, HB3.out, Nat.le_refl _⟩
        · have hd2 : ((qs.length : Int) == 1) = false := by simp; omega
          have EQ : Hid (implOk s = none) := by
            show _ = _
            rw [implOk, if_pos hs, implR, HI.out]
            simp only
            rw [if_neg (fun h => by
              rcases h.1 with h | h
              · exact hc h
              · have := HLN.out; omega)]
          clear hc h1
          go_wp2_with fail
          refine (must_no w1).mono ?_
          rintro e w3 ⟨he, rfl⟩
          unfold Pans at he
          subst he
          go_wp2
          exact ⟨rfl, .inr ⟨EQ.out, rfl, HB1.out⟩⟩
    · have EQ : Hid (implOk s = none) := by show _ = _; rw [implOk, if_pos hs, implR, hI]
      have HBe := toHid (HXS.out.2.trans hb1)
      unfold Pans at he
      subst he
      clear hb1 hI HCALL
      go_wp2
      exact ⟨rfl, .inr ⟨EQ.out, rfl, HBe.out⟩⟩
  · have hd : decide ((s.size : Int) ≤ 1000) = false := by simp; omega
    have EQ : Hid (implOk s = none) := by show _ = _; rw [implOk, if_neg hs]
    go_enter Try.func30, Try.ntmps30
    go_wp2_with fail
    refine (must_no w).mono ?_
    rintro e w0 ⟨he, rfl⟩
    unfold Pans at he
    subst he
    go_wp2
    exact ⟨rfl, .inr ⟨EQ.out, rfl, Below.refl _ _⟩⟩
end Go.Proofs.Ytjmbgpdbnffkpaa

/- Contract of the program's function that reads an expression: a panic that a deferred call takes. -/
namespace Go.Proofs.Ytjmbgpdbnffkpaa
set_option maxRecDepth 100000
set_option linter.unusedVariables false
open Go.ChangeShapes Go.WideShapes Go.ChangeAt Go.RowKit
open Pl

theorem catch_panicking (p : Addr) (x : Bool) (u : TypeId) (pv : Value) (older : List PanicEntry) (w : World) (hc : w.cell? p = some (.bool x)) (hz : w.frozen? p = false) :
    CallsD Try.prog 65 #[.pointer (some p)] (.panicking ({ v := .iface u pv, recovered := false } :: older)) w fun e u' w' =>
      e = .returned (.tuple #[]) ∧ u' = .panicking ({ v := .iface u pv, recovered := true } :: older) ∧ w' = w.setCell p (.bool false) := by
  refine callsD_of_wpS Try.func65 rfl fun c₀ cs hu => ?_
  apply wpS_seq
  apply wpS_region
  simp [wpOpsS, go_sem, recoverD, hu, Try.ntmps65, Exit.thenS]
  refine wpS_cond (t := true) (by simp [Act.eval, Array.replicate]) ?_
  simp only [if_true]
  apply wpS_region
  simp [wpOpsS, go_sem, hc, hz, bodyPostS, results, Try.results65]
theorem catch_idle (p : Addr) (w : World) :
    CallsD Try.prog 65 #[.pointer (some p)] .returning w fun e u' w' => e = .returned (.tuple #[]) ∧ u' = .returning ∧ w' = w := by
  refine callsD_of_wpS Try.func65 rfl fun c₀ cs hu => ?_
  apply wpS_seq
  apply wpS_region
  simp [wpOpsS, go_sem, recoverD, hu, Try.ntmps65, Exit.thenS]
  refine wpS_cond (t := false) (by simp [Act.eval, Array.replicate]) ?_
  simp only [Bool.false_eq_true, if_false]
  refine wpS_of_wp (wp_skip ?_)
  cases c₀
  simp_all [bodyPostS, results, Try.results65]
/-- what the closure leaves: what was read, in the caller's variable; or the panic -/
def CPost (s : ByteArray) (E : Nat) (w : World) (e : Ending) (w' : World) : Prop :=
  (∃ es v R qs st, implOk s = some es ∧ e = .returned (.tuple #[]) ∧ RdG w' R s st (w.heap.size + 1) v qs ∧ exs qs = es ∧ w'.cell? ⟨E, 0, none⟩ = some v ∧ Below E w w' ∧ w.heap.size ≤ w'.heap.size ∧ (∀ g, E < g → g < w.heap.size → w'.heap[g]? = w.heap[g]?) ∧ w.heap.size ≤ R) ∨ (implOk s = none ∧ Pans e ∧ Below w.heap.size w w')
set_option maxHeartbeats 1000000 in
theorem closure_any (s : ByteArray) (B E : Nat) (u : Value) (w : World) (hb : w.cell? ⟨B, 0, none⟩ = some (.string s)) (he : w.cell? ⟨E, 0, none⟩ = some u) (hf : w.frozen? ⟨E, 0, none⟩ = false) (hE : E < w.heap.size) (hB : B < w.heap.size) :
    Calls Try.prog 29 #[.pointer (some ⟨B, 0, none⟩), .pointer (some ⟨E, 0, none⟩)] w (CPost s E w) := by
  go_enter Try.func29, Try.ntmps29
  go_wp2_with fail
  refine (mustRead_any s w).mono ?_
  rintro e w1 (⟨es, v, R, qs, st, hI, rfl, hF, hx, hb1, hRw⟩ | ⟨hI, hp, hb1⟩)
  · have e1 := kept hb1 hE he
    have f1 : w1.frozen? ⟨E, 0, none⟩ = false := by rw [hb1.frozen (p := ⟨E, 0, none⟩) hE]; exact hf
    have hE1 : E < w1.heap.size := Nat.lt_of_lt_of_le hE hb1.size
    obtain ⟨ad, cap, rfl, -⟩ := hF.slE
    obtain ⟨W2, hW2⟩ : ∃ W2, W2 = w1.setCell ⟨E, 0, none⟩ (.slice ad qs.length cap) := ⟨_, rfl⟩
    have hne : ∀ k, k ≠ E → W2.heap[k]? = w1.heap[k]? := fun k hk => by rw [hW2]; exact Below.heap_setCell w1 _ _ k hk
    have hs2 : W2.heap.size = w1.heap.size := by rw [hW2]; simp
    have HFIN : Hid (CPost s E w (.returned (.tuple #[])) W2) := by
      refine .inl ⟨es, .slice ad qs.length cap, R, qs, st, hI, rfl, ?_, hx, by rw [hW2]; exact mS e1, ?_, by rw [hs2]; exact hb1.size, fun g h1 h2 => (hne g (by omega)).trans (hb1.block g h2), hRw⟩
      · exact hF.heap (by omega) (hne R (by omega)) (fun g hg => hne g (by have := (hF.own.lt g hg).1; omega)) (fun q hq g hi => hne g (by have := (hF.lie q hq g hi).1; omega))
      · rw [hW2]; exact (hb1.mono (Nat.le_of_lt hE)).setCell (p := ⟨E, 0, none⟩) (Nat.le_refl _) _
    have HW := toHid hW2
    clear hF hx hb1 hI hne hs2 hW2 hRw
    go_wp2
    rw [← HW.out]
    first | go_end0 | go_ret
    all_goals exact HFIN.out
  · have HFIN : Hid (CPost s E w (.panicked [{ v := .iface 9 (.string ⟨#[97, 110, 111, 116, 104, 101, 114, 32, 116, 101, 120, 116]⟩), recovered := false }]) w1) := .inr ⟨hI, rfl, hb1⟩
    unfold Pans at hp
    subst hp
    clear hb1 hI
    go_wp2
    exact ⟨rfl, HFIN.out⟩
def TPost (s : ByteArray) (E : Nat) (w : World) (e : Ending) (w' : World) : Prop :=
  (∃ es v R qs st, implOk s = some es ∧ e = .returned (.bool true) ∧ RdG w' R s st (w.heap.size + 2) v qs ∧ exs qs = es ∧ w'.cell? ⟨E, 0, none⟩ = some v ∧ Below E w w') ∨ (implOk s = none ∧ e = .returned (.bool false) ∧ Below w.heap.size w w')
set_option maxHeartbeats 1000000 in
theorem through_any (s : ByteArray) (B E : Nat) (u : Value) (w : World) (hb : w.cell? ⟨B, 0, none⟩ = some (.string s)) (he : w.cell? ⟨E, 0, none⟩ = some u) (hf : w.frozen? ⟨E, 0, none⟩ = false) (hE : E < w.heap.size) (hB : B < w.heap.size) :
    Calls Try.prog 28 #[.func (Fn.func 29) #[] #[.pointer (some ⟨B, 0, none⟩), .pointer (some ⟨E, 0, none⟩)]] w (TPost s E w) := by
  have hmf : ∀ (fn : Fn) (first cap : Array Value) (w : World), (Instr.makeFunc fn first cap).run Try.prog w = .ok (.func fn first cap) w := fun _ _ _ _ => rfl
  obtain ⟨X, hX⟩ : ∃ X, X = w.alloc (.cells #[.bool false] 4) := ⟨_, rfl⟩
  have hbX : Below w.heap.size w X := by rw [hX]; exact (Below.refl _ _).alloc (Nat.le_refl _) _
  have hsX : X.heap.size = w.heap.size + 1 := by rw [hX]; simp
  have hcX : X.cell? ⟨w.heap.size, 0, none⟩ = some (.bool false) := by rw [hX]; simp
  have hfX : ∀ j, X.frozen? ⟨w.heap.size, j, none⟩ = false := by rw [hX]; intro j; simp
  have HCL := toHid (closure_any s B E u X (kept hbX hB hb) (kept hbX hE he) (by rw [hbX.frozen (p := ⟨E, 0, none⟩) hE]; exact hf) (by omega) (by omega))
  go_enter_defers Try.func28, Try.ntmps28
  go_wp2_with fail
  rw [← hX]
  refine HCL.out.mono ?_
  rintro e w2 (⟨es, v, R, qs, st, hI, rfl, hF, hx, hv, hbE, hsz, hkp, hRX⟩ | ⟨hI, hp, hb2⟩)
  · have hN := hkp w.heap.size hE (by omega)
    have c2 : w2.cell? ⟨w.heap.size, 0, none⟩ = some (.bool false) := (World.cell?_of_block (w := X) (a := ⟨w.heap.size, 0, none⟩) hN).trans hcX
    have f2 : w2.frozen? ⟨w.heap.size, 0, none⟩ = false := (World.frozen?_of_block (w := X) (a := ⟨w.heap.size, 0, none⟩) hN).trans (hfX 0)
    have l2 : w.heap.size < w2.heap.size := by omega
    obtain ⟨W3, hW3⟩ : ∃ W3, W3 = w2.setCell ⟨w.heap.size, 0, none⟩ (.bool true) := ⟨_, rfl⟩
    have hne : ∀ k, k ≠ w.heap.size → W3.heap[k]? = w2.heap[k]? := fun k hk => by rw [hW3]; exact Below.heap_setCell w2 _ _ k hk
    have HFIN : Hid (TPost s E w (.returned (.bool true)) W3) := by
      rw [hsX] at hF
      have hs3 : W3.heap.size = w2.heap.size := by rw [hW3]; simp
      have hbW : Below E w W3 := by rw [hW3]; exact ((hbX.mono (Nat.le_of_lt hE)).trans hbE).setCell (p := ⟨w.heap.size, 0, none⟩) (Nat.le_of_lt hE) _
      refine .inl ⟨es, v, R, qs, st, hI, rfl, ?_, hx, ?_, hbW⟩
      · exact hF.heap (by omega) (hne R (by omega)) (fun g hg => hne g (by have := (hF.own.lt g hg).1; omega)) (fun q hq g hi => hne g (by have := (hF.lie q hq g hi).1; omega))
      · exact (World.cell?_of_block (w := w2) (a := ⟨E, 0, none⟩) (hne E (by omega))).trans hv
    have HW := toHid hW3
    clear hF hx hv hbE hsz hkp hRX hN hne hI hW3 hbX hsX hcX hfX hX
    go_wp2
    refine leaves_cons (f := 65) (args := #[.pointer (some ⟨w.heap.size, 0, none⟩)]) (by simp) (by simp [go_sem]) ?_
    refine (catch_idle ⟨w.heap.size, 0, none⟩ _).mono ?_
    rintro e u' w'' ⟨rfl, rfl, rfl⟩
    rw [← HW.out]
    have c3 : W3.cell? ⟨w.heap.size, 0, none⟩ = some (.bool true) := by rw [HW.out]; exact mS c2
    have hl3 : w.heap.size < W3.heap.size := by rw [HW.out]; simpa using l2
    exact ⟨.bool true, by simp [results, Try.results28, go_sem, c3], HFIN.out⟩
  · have hN := hb2.block w.heap.size (by omega)
    have c2 : w2.cell? ⟨w.heap.size, 0, none⟩ = some (.bool false) := (World.cell?_of_block (w := X) (a := ⟨w.heap.size, 0, none⟩) hN).trans hcX
    have f2 : w2.frozen? ⟨w.heap.size, 0, none⟩ = false := (World.frozen?_of_block (w := X) (a := ⟨w.heap.size, 0, none⟩) hN).trans (hfX 0)
    have hbW : Below w.heap.size w (w2.setCell ⟨w.heap.size, 0, none⟩ (.bool false)) := (hbX.trans (hb2.mono hbX.size)).setCell (p := ⟨w.heap.size, 0, none⟩) (Nat.le_refl _) _
    have HFIN : Hid (TPost s E w (.returned (.bool false)) (w2.setCell ⟨w.heap.size, 0, none⟩ (.bool false))) := .inr ⟨hI, rfl, hbW⟩
    unfold Pans at hp
    subst hp
    clear hN hb2 hbW hI hbX hsX hcX hfX hX
    go_wp2
    refine leaves_cons (f := 65) (args := #[.pointer (some ⟨w.heap.size, 0, none⟩)]) (by simp) (by simp [go_sem]) ?_
    refine (catch_panicking ⟨w.heap.size, 0, none⟩ false 9 _ [] _ c2 f2).mono ?_
    rintro e u' w'' ⟨rfl, rfl, rfl⟩
    have c3 : (w2.setCell ⟨w.heap.size, 0, none⟩ (.bool false)).cell? ⟨w.heap.size, 0, none⟩ = some (.bool false) := mS c2
    exact ⟨.bool false, by simp [results, Try.results28, go_sem, c3], HFIN.out⟩
/-- what comes back -/
def XIPost (s : ByteArray) (w : World) (e : Ending) (w' : World) : Prop :=
  Below w.heap.size w w' ∧ ((implOk s = none ∧ e = .returned (.tuple #[.slice none 0 0, .bool false])) ∨ (∃ es v R qs st, implOk s = some es ∧ e = .returned (.tuple #[v, .bool true]) ∧ RdG w' R s st (w.heap.size + 4) v qs ∧ exs qs = es))
set_option maxHeartbeats 1000000 in
theorem implReadExpr_any (s : ByteArray) (w : World) : Calls Try.prog 8 #[.string s] w (XIPost s w) := by
  have hmf : ∀ (fn : Fn) (first cap : Array Value) (w : World), (Instr.makeFunc fn first cap).run Try.prog w = .ok (.func fn first cap) w := fun _ _ _ _ => rfl
  obtain ⟨X, hX⟩ : ∃ X, X = (w.alloc (.cells #[.string s] 9)).alloc (.cells #[.slice none 0 0] 22) := ⟨_, rfl⟩
  have hbX : Below w.heap.size w X := by rw [hX]; exact ((Below.refl _ _).alloc (Nat.le_refl _) _).alloc (by simp) _
  have hsX : X.heap.size = w.heap.size + 2 := by rw [hX]; simp
  have hcB : X.cell? ⟨w.heap.size, 0, none⟩ = some (.string s) := by
    rw [hX]
    have hh : Below (w.alloc (.cells #[.string s] 9)).heap.size (w.alloc (.cells #[.string s] 9)) ((w.alloc (.cells #[.string s] 9)).alloc (.cells #[.slice none 0 0] 22)) := (Below.refl _ _).alloc (Nat.le_refl _) _
    exact kept hh (by simp) (by simp)
  have hcE : X.cell? ⟨w.heap.size + 1, 0, none⟩ = some (.slice none 0 0) := by rw [hX]; simp
  have hfE : X.frozen? ⟨w.heap.size + 1, 0, none⟩ = false := by rw [hX]; simp
  have HCL := toHid (through_any s w.heap.size (w.heap.size + 1) (.slice none 0 0) X hcB hcE hfE (by omega) (by omega))
  have HX : Hid (Below w.heap.size w X ∧ X.heap.size = w.heap.size + 2) := ⟨hbX, hsX⟩
  have HE := toHid hcE
  clear hbX hsX hcB hcE hfE
  go_enter Try.func8, Try.ntmps8
  go_wp2_with fail
  rw [← hX]
  clear hX
  refine HCL.out.mono ?_
  rintro e w2 (⟨es, v, R, qs, st, hI, rfl, hF, hx, hv, hb2⟩ | ⟨hI, rfl, hb2⟩)
  · have HB2 : Hid (Below w.heap.size w w2) := HX.out.1.trans (hb2.mono (by omega))
    rw [HX.out.2] at hF
    obtain ⟨ad, cap, rfl, -⟩ := hF.slE
    have HF := toHid hF
    have HI := toHid hI
    have HXX := toHid hx
    clear hF hI hx hb2
    go_wp2
    exact bodyPost_ret (v := .tuple #[.slice ad qs.length cap, .bool true]) (by simp [results, Try.results8, go_sem]) rfl ⟨HB2.out, .inr ⟨es, _, R, qs, st, HI.out, rfl, HF.out, HXX.out⟩⟩
  · have HB2 : Hid (Below w.heap.size w w2) := HX.out.1.trans (hb2.mono HX.out.1.size)
    have hv : w2.cell? ⟨w.heap.size + 1, 0, none⟩ = some (.slice none 0 0) := kept hb2 (by have := HX.out.2; omega) HE.out
    have HI := toHid hI
    clear hI hb2
    go_wp2
    exact bodyPost_ret (v := .tuple #[.slice none 0 0, .bool false]) (by simp [results, Try.results8, go_sem]) rfl ⟨HB2.out, .inl ⟨HI.out, rfl⟩⟩
end Go.Proofs.Ytjmbgpdbnffkpaa

/- What both readers of expressions answer, in one form. -/
namespace Go.Proofs.Ytjmbgpdbnffkpaa
set_option maxRecDepth 100000
set_option linter.unusedVariables false
open Go.ChangeShapes Go.WideShapes Go.ChangeAt Go.RowKit
open Pl

def ansL (s : ByteArray) : List Ex := if readB s then (endR s).out else []
theorem ok_spec (s : ByteArray) : implOk s = if readB s = true then some (endR s).out else none := by
  unfold implOk
  by_cases hs : s.size ≤ 1000
  · rw [if_pos hs]
    obtain ⟨x, hx⟩ : ∃ x, rdP s (2 * s.size + 2) true ⟨0, false, []⟩ = (x, endR s) := ⟨_, rfl⟩
    rw [impl_spec s hx]
    have e : readB s = (!(endR s).bad && !decide ((endR s).p < s.size) && specE (endR s).out && ((exText (endR s).out).toList == s.toList)) := by unfold readB; simp [hs]
    rw [e]
  · rw [if_neg hs]
    have e : readB s = false := by unfold readB; rw [decide_eq_false hs]; rfl
    rw [e]; rfl
theorem ans_small (s : ByteArray) : (ansL s).length ≤ 15 ∧ ∀ e ∈ ansL s, SmE s e ∧ e.light ∧ e.fits := by
  unfold ansL
  cases h : readB s with
  | false => simp
  | true =>
    simp only [if_true]
    unfold readB at h
    simp only [Bool.and_eq_true, decide_eq_true_eq] at h
    have h15 : (endR s).out.length ≤ 15 := by
      have := h.1.2
      simp only [specE, Bool.and_eq_true, decide_eq_true_eq] at this
      exact this.1.1.1.1.2
    refine ⟨h15, fun e he => ?_⟩
    have hsm := rdP_sm (s := s) (2 * s.size + 2) true ⟨0, false, []⟩ (Nat.zero_le _) (fun e he => by cases he) e he
    exact ⟨hsm, hsm.light h.1.1.1.1⟩
theorem wE_bound (b : Nat) : ∀ (qs : List ER), (∀ r ∈ qs, wX r.e ≤ b) → wE qs ≤ b * qs.length
  | [], _ => by simp [wE]
  | r :: qs, h => by
    have h1 := h r (by simp)
    have h2 := wE_bound b qs (fun x hx => h x (by simp [hx]))
    simp only [wE, List.length_cons, Nat.mul_succ]
    omega
theorem ans_facts {s : ByteArray} {qs : List ER} (h : exs qs = ansL s) : qs.length ≤ 15 ∧ (∀ r ∈ qs, r.e.light) ∧ 1 + wE qs ≤ 1000000000 := by
  obtain ⟨h1, h2⟩ := ans_small s
  have hl : qs.length ≤ 15 := by rw [← exs_len, h]; exact h1
  have hm : ∀ r ∈ qs, r.e ∈ ansL s := fun r hr => by rw [← h]; exact List.mem_map.2 ⟨r, hr, rfl⟩
  refine ⟨hl, fun r hr => (h2 r.e (hm r hr)).2.1, ?_⟩
  have hb := wE_bound 5000000 qs (fun r hr => by
    have hlt := (h2 r.e (hm r hr)).2.1
    obtain ⟨a1, a2⟩ := hlt
    unfold wX
    omega)
  have : 5000000 * qs.length ≤ 5000000 * 15 := Nat.mul_le_mul_left _ hl
  omega
/-- an answer whose blocks are its own, none older than m -/
def OwnG (m : Nat) (w : World) (ad : Option Addr) (qs : List ER) : Prop := qs ≠ [] → ∃ b, ad = some ⟨b, 0, none⟩ ∧ b < w.heap.size ∧ SepE b qs ∧ FreeE w b qs ∧ ∀ g, inE b qs g → m ≤ g
theorem RdG.ans {w : World} {R : Nat} {s : ByteArray} {st : IS} {base : Nat} {v : Value} {qs : List ER} (h : RdG w R s st base v qs) : ∃ ad cap, v = .slice ad qs.length cap ∧ SlE w ad qs ∧ OwnG base w ad qs := by
  obtain ⟨ad, cap, hv, hsl⟩ := h.slE
  refine ⟨ad, cap, hv, hsl, fun hne => ?_⟩
  rcases h.own.2 with ⟨-, h0⟩ | ⟨g, cp, cur, hvg, hbg, hg, hnc, -⟩
  · exact absurd (List.length_eq_zero_iff.1 h0) hne
  · have hlt := h.own.lt g (by rw [hvg]; rfl)
    have hown := h.own
    rw [hvg] at hown
    rw [hv] at hvg
    injection hvg with e1 e2 e3
    refine ⟨g, e1, hlt.2, ⟨h.zA, h.zK, fun r hr hg2 => ?_, h.one, h.two⟩, ⟨⟨hlt.2, fun y => hown.frozenAt y⟩, fun r hr g2 hg2 => ⟨(h.lie r hr g2 hg2).2.1, (h.lie r hr g2 hg2).2.2.1⟩⟩, ?_⟩
    · have := (h.lie r hr g hg2).2.2.2
      rw [hv, e1] at this
      exact this rfl
    · rintro g2 (rfl | ⟨r, hr, hg2⟩)
      · exact hlt.1
      · exact (h.lie r hr g2 hg2).1
theorem specAns (s : ByteArray) (w : World) : Calls Try.prog 7 #[.string s] w fun e w' => ∃ ad cap qs, e = .returned (.tuple #[.slice ad qs.length cap, .bool (readB s)]) ∧ exs qs = ansL s ∧ SlE w' ad qs ∧ Below w.heap.size w w' := by
  refine (specReadExpr_any s w).mono ?_
  rintro e w' ⟨hb, ⟨h1, rfl⟩ | ⟨h1, v, R, qs, rfl, hF⟩⟩
  · exact ⟨none, 0, [], by rw [h1]; rfl, by rw [ansL, h1]; rfl, .inl rfl, hb⟩
  · obtain ⟨ad, cap, rfl, hsl⟩ := hF.slE
    exact ⟨ad, cap, qs, by rw [h1], by rw [ansL, h1]; exact hF.out, hsl, hb⟩
theorem implAns (s : ByteArray) (w : World) : Calls Try.prog 8 #[.string s] w fun e w' => ∃ ad cap qs, e = .returned (.tuple #[.slice ad qs.length cap, .bool (readB s)]) ∧ exs qs = ansL s ∧ SlE w' ad qs ∧ OwnG w.heap.size w' ad qs ∧ Below w.heap.size w w' := by
  refine (implReadExpr_any s w).mono ?_
  rintro e w' ⟨hb, ⟨h1, rfl⟩ | ⟨es, v, R, qs, st, h1, rfl, hF, hx⟩⟩
  · rw [ok_spec] at h1
    have hr : readB s = false := by
      cases e : readB s with
      | false => rfl
      | true => rw [e, if_pos rfl] at h1; cases h1
    exact ⟨none, 0, [], by rw [hr]; rfl, by rw [ansL, hr]; rfl, .inl rfl, fun h => absurd rfl h, hb⟩
  · rw [ok_spec] at h1
    have hr : readB s = true := by
      cases e : readB s with
      | true => rfl
      | false => rw [e, if_neg (by decide)] at h1; cases h1
    rw [hr, if_pos rfl] at h1
    injection h1 with h1
    obtain ⟨ad, cap, rfl, hsl, ho⟩ := hF.ans
    refine ⟨ad, cap, qs, by rw [hr], by rw [ansL, hr, hx, ← h1]; rfl, hsl, fun hne => ?_, hb⟩
    obtain ⟨b, e1, e2, e3, e4, e5⟩ := ho hne
    exact ⟨b, e1, e2, e3, e4, fun g hg => by have := e5 g hg; omega⟩
theorem OwnG.below {m : Nat} {w w' : World} {ad : Option Addr} {qs : List ER} (h : OwnG m w ad qs) (hb : Below w.heap.size w w') : OwnG m w' ad qs := fun hne => by
  obtain ⟨b, e1, e2, e3, e4, e5⟩ := h hne
  exact ⟨b, e1, Nat.lt_of_lt_of_le e2 hb.size, e3, e4.chg (Chg.of (S := fun _ => False) hb), e5⟩
theorem markG {m : Nat} (ad : Option Addr) (cap : Nat) (qs : List ER) (w : World) (hs : SlE w ad qs) (ho : OwnG m w ad qs) (hm : m ≤ w.heap.size) (hl : ∀ r ∈ qs, r.e.light) (hlen : qs.length ≤ 1048576) (h1 : 1 + wE qs ≤ 1000000000) :
    Calls Try.prog 10 #[.slice ad qs.length cap, .int .i64 1] w fun e w' => e = .returned (.int .i64 ((1 + wE qs : Nat) : Int)) ∧ SlE w' ad (mkE 1 qs) ∧ Below m w w' := by
  by_cases hz : qs = []
  · subst hz
    refine (markExprS_nil 1 ad cap w).mono ?_
    rintro e w' ⟨rfl, rfl⟩
    exact ⟨rfl, .inl rfl, Below.refl _ _⟩
  obtain ⟨b, e, g2, g3, g4, g5⟩ := ho hz
  rcases hs with h | ⟨b', off, e', hb, hr, hk⟩
  · exact absurd h hz
  rw [e] at e'; injection e' with e'; injection e' with e1 e2
  subst e1; subst e2
  rw [e]
  refine (markExprS_any b cap qs 1 w hb (fun x hx => ⟨by have := hr x hx; rwa [Nat.zero_add] at this, hk _ (List.getElem_mem hx)⟩) g3 g4 hl hlen (by omega) h1).mono ?_
  rintro e2 w' ⟨rfl, hm2, hc⟩
  exact ⟨rfl, mkE_sl (Nat.lt_of_lt_of_le hb hc.size) hm2, hc.below (fun g hg => g5 g hg) hm⟩
end Go.Proofs.Ytjmbgpdbnffkpaa
