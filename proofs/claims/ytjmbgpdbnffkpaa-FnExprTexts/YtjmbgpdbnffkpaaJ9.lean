/- What the document's reader leaves is small. -/
import Derived.Test.YtjmbgpdbnffkpaaRdxRead
namespace Go.Proofs.Ytjmbgpdbnffkpaa
set_option maxRecDepth 100000
open Go.ChangeShapes Go.WideShapes Go.ChangeAt Go.RowKit
open Pl

def SmA (s : ByteArray) (a : Al) : Prop := a.t.size ≤ s.size ∧ a.s.size ≤ s.size
def SmE (s : ByteArray) (e : Ex) : Prop := e.allow.length ≤ s.size + 1 ∧ (∀ a ∈ e.allow, SmA s a) ∧ e.over.size ≤ s.size ∧ e.name.size ≤ s.size ∧ e.kids.length ≤ s.size + 2
theorem wordP_sm (s : ByteArray) (p : Nat) : (wordP s p).size ≤ s.size := by
  unfold wordP
  rw [ByteArray.size_extract]
  omega
theorem setP_sm (s : ByteArray) (st : RS) : (setP s st).size ≤ s.size := by
  unfold setP
  split
  · exact wordP_sm s _
  · exact Nat.zero_le _
theorem pairsP_sm {s : ByteArray} : ∀ (n : Nat) (xs : List Al) (st : RS) (ys : List Al), (∀ a ∈ xs, SmA s a) → (pairsP s n xs st).1 = some ys → ys.length ≤ xs.length + n ∧ ∀ a ∈ ys, SmA s a := by
  intro n
  induction n with
  | zero => intro xs st ys _ h; cases h
  | succ n ih =>
    intro xs st ys hx h
    have hx2 : ∀ a ∈ xs ++ [(⟨wordP s st.p, setP s (pairAt s st)⟩ : Al)], SmA s a := by
      intro a ha
      rcases List.mem_append.1 ha with h1 | h1
      · exact hx a h1
      · rw [List.mem_singleton] at h1; subst h1; exact ⟨wordP_sm s _, setP_sm s _⟩
    unfold pairsP at h
    by_cases hb : st.bad = true
    · rw [if_pos hb] at h; cases h
    · rw [if_neg hb] at h
      by_cases hc : isP s tClose (behindSet s (pairAt s st)) = true
      · rw [if_pos hc] at h
        injection h with h
        subst h
        exact ⟨by rw [List.length_append, List.length_singleton]; omega, hx2⟩
      · rw [if_neg hc] at h
        have fin : ∀ st', (pairsP s n (xs ++ [⟨wordP s st.p, setP s (pairAt s st)⟩]) st').1 = some ys → ys.length ≤ xs.length + (n + 1) ∧ ∀ a ∈ ys, SmA s a := fun st' h' => by
          obtain ⟨a, b⟩ := ih _ st' ys hx2 h'
          rw [List.length_append, List.length_singleton] at a
          exact ⟨by omega, b⟩
        by_cases hm : isP s tComma (behindSet s (pairAt s st)) = true
        · rw [if_pos hm] at h; exact fin _ h
        · rw [if_neg hm] at h; exact fin _ h
theorem addP_sm {s : ByteArray} {x : Ex} {st : RS} (h : ∀ e ∈ st.out, SmE s e) (hx : SmE s x) : ∀ e ∈ (addP x st).out, SmE s e := by
  intro e he
  rcases List.mem_append.1 he with h1 | h1
  · exact h e h1
  · rw [List.mem_singleton] at h1; subst h1; exact hx
theorem thisP_sm {s : ByteArray} {st : RS} (hp : st.p + 5 ≤ s.size) (h : ∀ e ∈ st.out, SmE s e) : ∀ e ∈ (thisP s st).2.out, SmE s e := by
  have hc := (pairsP_le (s := s) (s.size + 1) [] (onP tThis st) hp).2.2
  have hs := pairsP_sm (s := s) (s.size + 1) [] (onP tThis st)
  unfold thisP
  cases e : pairsP s (s.size + 1) [] (onP tThis st) with
  | mk o st' =>
    rw [e] at hc hs
    have hc' : st'.out = st.out := hc
    cases o with
    | none => show ∀ e ∈ st'.out, SmE s e; rw [hc']; exact h
    | some xs =>
      obtain ⟨a, b⟩ := hs xs (fun a ha => by cases ha) rfl
      exact addP_sm (by rw [hc']; exact h) ⟨by simpa using a, b, Nat.zero_le _, Nat.zero_le _, Nat.zero_le _⟩
theorem name_sm {s : ByteArray} {st : RS} (h : ∀ e ∈ st.out, SmE s e) : ∀ e ∈ (addP (nameP s st) (judged (nameP s st) (behindName s st))).out, SmE s e := by
  have h1 : (judged (nameP s st) (behindName s st)).out = st.out := by
    have h2 : (behindName s st).out = st.out := by unfold behindName; split <;> rfl
    unfold judged; split <;> exact h2
  refine addP_sm (by rw [h1]; exact h) ?_
  unfold nameP
  split
  · exact ⟨Nat.zero_le _, fun a ha => (by cases ha), wordP_sm s _, wordP_sm s _, Nat.zero_le _⟩
  · exact ⟨Nat.zero_le _, fun a ha => (by cases ha), Nat.zero_le _, wordP_sm s _, Nat.zero_le _⟩
theorem kidsP_sm {s : ByteArray} {it : RS → Int × RS} {k : Int} (hit : ∀ st, (∀ e ∈ st.out, SmE s e) → st.p ≤ s.size → (∀ e ∈ (it st).2.out, SmE s e) ∧ (it st).2.p ≤ s.size) : ∀ (n : Nat) (zs : List Int) (st : RS), (∀ e ∈ st.out, SmE s e) → st.p ≤ s.size → (∀ e ∈ (kidsP s it k n zs st).2.out, SmE s e) ∧ (kidsP s it k n zs st).1.length ≤ zs.length + n := by
  intro n
  induction n with
  | zero => intro zs st h _; exact ⟨h, Nat.le_refl _⟩
  | succ n ih =>
    intro zs st h hp
    unfold kidsP
    cases e : isP s (tSign k) st with
    | false => exact ⟨h, Nat.le_add_right _ _⟩
    | true =>
      have h1 : (onP (tSign k) st).p ≤ s.size := isP_le e
      obtain ⟨a, b⟩ := hit (onP (tSign k) st) h h1
      obtain ⟨a2, b2⟩ := ih (zs ++ [(it (onP (tSign k) st)).1]) _ a b
      rw [List.length_append, List.length_singleton] at b2
      exact ⟨a2, by simp only [if_true]; omega⟩
theorem rdP_sm {s : ByteArray} : ∀ (n : Nat) (b : Bool) (st : RS), st.p ≤ s.size → (∀ e ∈ st.out, SmE s e) → ∀ e ∈ (rdP s n b st).2.out, SmE s e := by
  intro n
  induction n with
  | zero => intro b st _ h; cases b <;> exact h
  | succ n ih =>
    intro b st hp h
    cases b with
    | true =>
      rw [rdP_row]
      unfold rowP
      have hx := ih false st hp h
      have hxp := (rdP_few (s := s) n false st hp).2.1
      split
      · exact hx
      · obtain ⟨a, b⟩ := kidsP_sm (s := s) (it := rdP s n false) (k := signAt s (rdP s n false st).2.p) (fun st' h1 h2 => ⟨ih false st' h2 h1, (rdP_few (s := s) n false st' h2).2.1⟩) (s.size + 1) [(rdP s n false st).1] (rdP s n false st).2 hx hxp
        exact addP_sm a ⟨Nat.zero_le _, fun a ha => (by cases ha), Nat.zero_le _, Nat.zero_le _, Nat.le_trans b (by simp only [List.length_singleton]; omega)⟩
    | false =>
      cases h1 : isP s tThis st with
      | true => rw [rdP_this h1]; exact thisP_sm (isP_le h1) h
      | false =>
        cases h2 : isP s tOpen st with
        | true =>
          rw [rdP_open h1 h2]
          have hx := ih true (onP tOpen st) (isP_le h2) h
          unfold closeP
          split
          · exact hx
          · exact hx
        | false => rw [rdP_name h1 h2]; exact name_sm h
theorem SmE.light {s : ByteArray} {e : Ex} (h : SmE s e) (hs : s.size ≤ 1000) : e.light ∧ e.fits := by
  obtain ⟨h1, h2, h3, h4, h5⟩ := h
  refine ⟨⟨by omega, by omega⟩, ⟨fun a ha => ⟨?_, ?_⟩, ?_, ?_, ?_, ?_⟩⟩ <;> unfold maxLen
  · have := (h2 a ha).1; omega
  · have := (h2 a ha).2; omega
  all_goals omega
end Go.Proofs.Ytjmbgpdbnffkpaa

/- Contract of the document's reader of expressions: spec.ReadExpr. -/
namespace Go.Proofs.Ytjmbgpdbnffkpaa
set_option maxRecDepth 100000
open Go.ChangeShapes Go.WideShapes Go.ChangeAt Go.RowKit
open Pl

/-- where the reader ends -/
def endR (s : ByteArray) : RS := (rdP s (2 * s.size + 2) true ⟨0, false, []⟩).2
/-- it has read all, and what it has read is right and has this text -/
def readB (s : ByteArray) : Bool := decide (s.size ≤ 1000) && !(endR s).bad && !decide ((endR s).p < s.size) && specE (endR s).out && ((exText (endR s).out).toList == s.toList)
/-- what comes back -/
def XPost (s : ByteArray) (w : World) (e : Ending) (w' : World) : Prop :=
  Below w.heap.size w w' ∧ ((readB s = false ∧ e = .returned (.tuple #[.slice none 0 0, .bool false])) ∨ (readB s = true ∧ ∃ (v : Value) (R : Nat) (qs : List ER), e = .returned (.tuple #[v, .bool true]) ∧ RdF w' R s (endR s) (w.heap.size + 1) v qs))
theorem empty_rd (w : World) (s : ByteArray) : RdF (w.alloc (.cells #[.string s, .int .i64 0, .bool false, .slice none 0 0] 48)) w.heap.size s ⟨0, false, []⟩ (w.heap.size + 1) (.slice none 0 0) [] := by
  refine ⟨⟨by simp, by simp, by simp, by simp, by simp, fun j => by simp⟩, World.ownsRow_nil _ _ _ _, rfl, ?_, ?_, ?_, ?_, ?_, ?_, ?_, ?_⟩
  · intro q hq; cases hq
  · intro q hq; cases hq
  · intro q hq; cases hq
  · intro q hq; cases hq
  · intro q hq; cases hq
  · intro x y hx; exact absurd hx (by simp)
  · intro q hq; cases hq
  · intro q hq; cases hq
theorem RdF.slE {w : World} {R : Nat} {s : ByteArray} {st : RS} {base : Nat} {v : Value} {qs : List ER} (h : RdF w R s st base v qs) : ∃ ad cap, v = .slice ad qs.length cap ∧ SlE w ad qs := ownsE h.own rfl h.ok
theorem RdF.later {w w' : World} {R : Nat} {s : ByteArray} {st : RS} {base : Nat} {v : Value} {qs : List ER} (h : RdF w R s st base v qs) (hb : Below w.heap.size w w') : RdF w' R s st base v qs :=
  h.heap hb.size (hb.block R h.rd.lt) (fun g hg => hb.block g (h.own.lt g hg).2) (fun q hq g hi => hb.block g (h.lie q hq g hi).2.1)

set_option maxHeartbeats 4000000 in
theorem specReadExpr_any (s : ByteArray) (w : World) : Calls Try.prog 7 #[.string s] w (XPost s w) := by
  by_cases hs : s.size ≤ 1000
  · have hd0 : decide ((1000 : Int) < (s.size : Int)) = false := by simp; omega
    have HRD := toHid (empty_rd w s)
    have HCALL := toHid ((read_any w.heap.size s (w.heap.size + 1) (by omega) hs (2 * s.size + 2)).2 ⟨0, false, []⟩ (.slice none 0 0) [] _ HRD.out (by simp) (Nat.zero_le _) (by simp; omega) (by simp))
    have HSM : Hid (∀ e ∈ (endR s).out, e.light ∧ e.fits) := fun e he => (rdP_sm (s := s) _ true ⟨0, false, []⟩ (Nat.zero_le _) (fun e he => by cases he) e he).light hs
    have HFEW := toHid (rdP_few (s := s) (2 * s.size + 2) true ⟨0, false, []⟩ (Nat.zero_le _))
    go_enter Try.func7, Try.ntmps7
    go_wp2_with fail
    refine HCALL.out.mono ?_
    rintro e w1 ⟨v1, qs, rfl, hF1, hW1, -⟩
    replace hF1 : RdF w1 w.heap.size s (endR s) (w.heap.size + 1) v1 qs := hF1
    have HF1 := toHid hF1
    have HB1 : Hid (Below w.heap.size w w1) := ⟨hW1.onl.os, hW1.onl.tape, hW1.onl.output, by have := hW1.onl.size; simp at this; omega, fun k hk => (hW1.onl.block k (by simp; omega) (by omega) (by simp [Value.ownBlock])).trans ((World.grownBy_alloc w _ none).block k hk (by simp))⟩
    obtain ⟨ad, cap, rfl, hsl⟩ := hF1.slE
    have HSL := toHid hsl
    have HOUT := toHid hF1.out
    have hql : qs.length ≤ 1048576 := by
      have h2 := congrArg List.length hF1.out
      simp only [exs, List.length_map] at h2
      have h3 : (endR s).out.length + 0 ≤ 0 + 1 + (endR s).p := HFEW.out.2.2
      have h4 : (endR s).p ≤ s.size := HFEW.out.2.1
      omega
    have HL : Hid (∀ r ∈ qs, r.e.light) := fun r hr => (HSM.out r.e (by rw [← HOUT.out]; exact List.mem_map.2 ⟨r, hr, rfl⟩)).1
    have HF : Hid (∀ r ∈ qs, r.e.fits) := fun r hr => (HSM.out r.e (by rw [← HOUT.out]; exact List.mem_map.2 ⟨r, hr, rfl⟩)).2
    have HRB : Hid (readB s = (!(endR s).bad && !decide ((endR s).p < s.size) && specE (endR s).out && ((exText (endR s).out).toList == s.toList))) := by show _ = _; unfold readB; simp [hs]
    have c1 := hF1.rd.c1
    have c2 := hF1.rd.c2
    have c3 := hF1.rd.c3
    clear hF1 hW1 hsl HCALL HRD HSM HFEW
    cases hb : (endR s).bad with
    | true =>
      rw [hb] at c2
      have EQ : Hid (readB s = false) := by show _ = _; rw [HRB.out, hb]; rfl
      go_wp2
      exact bodyPost_ret (v := .tuple #[.slice none 0 0, .bool false]) (by simp [results, Try.results7, go_sem]) rfl ⟨HB1.out, .inl ⟨EQ.out, rfl⟩⟩
    | false =>
      rw [hb] at c2
      by_cases hlt : (endR s).p < s.size
      · have hd1 : decide (((endR s).p : Int) < (s.size : Int)) = true := by simp; omega
        have EQ : Hid (readB s = false) := by show _ = _; rw [HRB.out, hb, decide_eq_true hlt]; rfl
        go_wp2
        exact bodyPost_ret (v := .tuple #[.slice none 0 0, .bool false]) (by simp [results, Try.results7, go_sem]) rfl ⟨HB1.out, .inl ⟨EQ.out, rfl⟩⟩
      · have hd1 : decide (((endR s).p : Int) < (s.size : Int)) = false := by simp; omega
        go_wp2_with fail
        refine (specExprOk_any ad cap qs w1 hql HL.out HF.out HSL.out).mono ?_
        rintro e w2 ⟨rfl, hB2⟩
        have HF2 := toHid (HF1.out.later hB2)
        have HB2 := toHid (HB1.out.trans (hB2.mono HB1.out.size))
        have HSL2 := toHid (HSL.out.below hB2)
        have k3 := HF2.out.rd.c3
        rw [HOUT.out]
        clear hB2
        cases he : specE (endR s).out with
        | false =>
          have EQ : Hid (readB s = false) := by show _ = _; rw [HRB.out, hb, decide_eq_false hlt, he]; rfl
          go_wp2
          exact bodyPost_ret (v := .tuple #[.slice none 0 0, .bool false]) (by simp [results, Try.results7, go_sem]) rfl ⟨HB2.out, .inl ⟨EQ.out, rfl⟩⟩
        | true =>
          go_wp2_with fail
          refine (specExprText_any ad cap qs w2 hql HL.out HF.out HSL2.out).mono ?_
          rintro e w3 ⟨rfl, hB3⟩
          have HF3 := toHid (HF2.out.later hB3)
          have HB3 := toHid (HB2.out.trans (hB3.mono HB2.out.size))
          have q3 := HF3.out.rd.c3
          rw [HOUT.out]
          clear hB3
          cases ht : (exText (endR s).out).toList == s.toList with
          | false =>
            have ht2 : (!(exText (endR s).out).toList == s.toList) = true := by rw [ht]; rfl
            have EQ : Hid (readB s = false) := by show _ = _; rw [HRB.out, ht, Bool.and_false]
            go_wp2
            exact bodyPost_ret (v := .tuple #[.slice none 0 0, .bool false]) (by simp [results, Try.results7, go_sem]) rfl ⟨HB3.out, .inl ⟨EQ.out, rfl⟩⟩
          | true =>
            have ht2 : (!(exText (endR s).out).toList == s.toList) = false := by rw [ht]; rfl
            have EQ : Hid (readB s = true) := by show _ = _; rw [HRB.out, hb, decide_eq_false hlt, he, ht]; rfl
            go_wp2
            exact bodyPost_ret (v := .tuple #[.slice ad qs.length cap, .bool true]) (by simp [results, Try.results7, go_sem]) rfl ⟨HB3.out, .inr ⟨EQ.out, _, _, qs, rfl, HF3.out⟩⟩
  · have hd0 : decide ((1000 : Int) < (s.size : Int)) = true := by simp; omega
    have EQ : Hid (readB s = false) := by show _ = _; unfold readB; rw [decide_eq_false hs]; rfl
    go_enter Try.func7, Try.ntmps7
    go_wp2
    exact bodyPost_ret (v := .tuple #[.slice none 0 0, .bool false]) (by simp [results, Try.results7, go_sem]) rfl ⟨Below.refl _ _, .inl ⟨EQ.out, rfl⟩⟩
end Go.Proofs.Ytjmbgpdbnffkpaa
