/- The program's reader goes on, and makes no more nodes than it reads bytes; both readers take the same texts. -/
import Derived.Test.YtjmbgpdbnffkpaaPlainIRd3
import Derived.Test.YtjmbgpdbnffkpaaSpecText
namespace Go.Proofs.Ytjmbgpdbnffkpaa
open Pl

theorem nameB_one {t : ByteArray} (h : nameB t = true) : 1 ≤ t.size := by
  simp only [nameB, signsB, lenB, Bool.and_eq_true, decide_eq_true_eq] at h
  exact h.1.1.1
theorem few_pairs (s : ByteArray) : ∀ (n : Nat) (xs ys : List Al) (p q : Nat), p ≤ s.size → pairsI s n xs p = some (ys, q) → p ≤ q ∧ q ≤ s.size := fun n xs ys p q hp h => by
  obtain ⟨-, h1, h2⟩ := pairs_one s n xs ys p q [] hp h
  exact ⟨h2, h1⟩
theorem few_name {s : ByteArray} {p : Nat} {x : Ex} {q : Nat} (hp : p ≤ s.size) (h : nameI s p = some (x, q)) : p + 1 ≤ q ∧ q ≤ s.size := by
  obtain ⟨-, rfl, -⟩ := nameI_is h
  obtain ⟨h1, h2⟩ := nmQ_le s p hp
  have hw := wordP_size s p hp
  have hn : nameB (wordP s p) = true := by
    unfold nameI at h
    split at h
    · assumption
    · cases h
  have := nameB_one hn
  refine ⟨?_, h2⟩
  unfold nmQ
  split <;> omega
theorem few_kids {s : ByteArray} {it : IS → Option (Int × IS)} {k : Int} (hit : ∀ st x st', st.p ≤ s.size → it st = some (x, st') → st.p ≤ st'.p ∧ st'.p ≤ s.size ∧ st'.out.length + st.p ≤ st.out.length + st'.p) : ∀ (n : Nat) (zs zs' : List Int) (st st' : IS), st.p ≤ s.size → kidsI s it k n zs st = some (zs', st') → st.p ≤ st'.p ∧ st'.p ≤ s.size ∧ st'.out.length + st.p ≤ st.out.length + st'.p ∧ (0 < n → litAt s (tSign k) st.p = true → st.p + 3 ≤ st'.p ∧ st'.out.length + st.p + 3 ≤ st.out.length + st'.p)
  | 0, zs, zs', st, st', hp, h => by
    rw [kidsI] at h
    injection h with h; injection h with _ h
    subst h
    exact ⟨Nat.le_refl _, hp, Nat.le_refl _, fun h => absurd h (by omega)⟩
  | n + 1, zs, zs', st, st', hp, h => by
    rw [kidsI] at h
    by_cases hl : litAt s (tSign k) st.p = true
    · rw [if_pos hl] at h
      have hle := litAt_le hl
      have h3 := tSign_size k
      cases e : it ⟨st.p + 3, st.out⟩ with
      | none => rw [e] at h; cases h
      | some xs =>
        obtain ⟨x, st1⟩ := xs
        rw [e] at h
        simp only at h
        obtain ⟨a1, a2, a3⟩ := hit ⟨st.p + 3, st.out⟩ x st1 (by show st.p + 3 ≤ _; omega) e
        simp only at a1 a3
        obtain ⟨b1, b2, b3, -⟩ := few_kids hit n _ _ st1 st' a2 h
        exact ⟨by omega, b2, by omega, fun _ _ => ⟨by omega, by omega⟩⟩
    · rw [if_neg hl] at h
      injection h with h; injection h with _ h
      subst h
      exact ⟨Nat.le_refl _, hp, Nat.le_refl _, fun _ h => absurd h hl⟩
theorem few_rd (s : ByteArray) : ∀ (n : Nat) (b : Bool) (st : IS) (x : Int) (st' : IS), st.p ≤ s.size → rdI s n b st = some (x, st') → st.p ≤ st'.p ∧ st'.p ≤ s.size ∧ st'.out.length + st.p ≤ st.out.length + st'.p
  | 0, _, _, _, _, _, h => by simp [rdI] at h
  | n + 1, false, st, x, st', hp, h => by
    rw [rdI] at h
    by_cases hO : litAt s tOpen st.p = true
    · rw [if_pos hO] at h
      have hle := litAt_le hO
      have e1 : tOpen.size = 1 := rfl
      cases e : rdI s n true ⟨st.p + 1, st.out⟩ with
      | none => rw [e] at h; cases h
      | some cs =>
        obtain ⟨c, st1⟩ := cs
        rw [e] at h
        simp only at h
        obtain ⟨a1, a2, a3⟩ := few_rd s n true ⟨st.p + 1, st.out⟩ c st1 (by show st.p + 1 ≤ _; omega) e
        simp only at a1 a3
        split at h
        · split at h
          · rename_i hc
            have hle2 := litAt_le hc
            have e2 : tClose.size = 1 := rfl
            injection h with h; injection h with _ h
            subst h
            exact ⟨by show st.p ≤ st1.p + 1; omega, by show st1.p + 1 ≤ _; omega, by show st1.out.length + st.p ≤ st.out.length + (st1.p + 1); omega⟩
          · cases h
        · cases h
    · rw [if_neg hO] at h
      by_cases hT : litAt s tThis st.p = true
      · rw [if_pos hT] at h
        have hle := litAt_le hT
        have e5 : tThis.size = 5 := rfl
        cases e : pairsI s (s.size + 1) [] (st.p + 5) with
        | none => rw [e] at h; cases h
        | some cs =>
          obtain ⟨xs, q⟩ := cs
          rw [e] at h
          simp only at h
          obtain ⟨a1, a2⟩ := few_pairs s _ _ _ _ _ (by omega) e
          injection h with h; injection h with _ h
          subst h
          exact ⟨by show st.p ≤ q; omega, a2, by show (st.out ++ [_]).length + st.p ≤ st.out.length + q; rw [List.length_append, List.length_singleton]; omega⟩
      · rw [if_neg hT] at h
        cases e : nameI s st.p with
        | none => rw [e] at h; cases h
        | some cs =>
          obtain ⟨y, q⟩ := cs
          rw [e] at h
          simp only at h
          obtain ⟨a1, a2⟩ := few_name hp e
          injection h with h; injection h with _ h
          subst h
          exact ⟨by show st.p ≤ q; omega, a2, by show (st.out ++ [_]).length + st.p ≤ st.out.length + q; rw [List.length_append, List.length_singleton]; omega⟩
  | n + 1, true, st, x, st', hp, h => by
    rw [rdI] at h
    cases e : rdI s n false st with
    | none => rw [e] at h; cases h
    | some cs =>
      obtain ⟨i, st1⟩ := cs
      rw [e] at h
      simp only at h
      obtain ⟨a1, a2, a3⟩ := few_rd s n false st i st1 hp e
      split at h
      · injection h with h; injection h with _ h
        subst h
        exact ⟨a1, a2, a3⟩
      · rename_i hs
        cases e2 : kidsI s (rdI s n false) (signAt s st1.p) (s.size + 1) [i] st1 with
        | none => rw [e2] at h; cases h
        | some ds =>
          obtain ⟨zs, st2⟩ := ds
          rw [e2] at h
          simp only at h
          obtain ⟨b1, b2, b3, b4⟩ := few_kids (fun st x st' h1 h2 => few_rd s n false st x st' h1 h2) _ _ _ _ _ a2 e2
          obtain ⟨c1, c2⟩ := b4 (by omega) (sign_kind hs).2.2
          injection h with h; injection h with _ h
          subst h
          exact ⟨by show st.p ≤ st2.p; omega, b2, by show (st2.out ++ [_]).length + st.p ≤ st.out.length + st2.p; rw [List.length_append, List.length_singleton]; omega⟩
/-- what the program's reader has read, the document's has, too -/
theorem kids_one {s : ByteArray} {n : Nat} {k : Int} (hS : ∀ (p : Nat) (out : List Ex) (x : Int) (st' : IS), p ≤ s.size → rdI s n false ⟨p, out⟩ = some (x, st') → st'.out.length ≤ 15 → out.length ≤ st'.out.length ∧ rdP s n false ⟨p, false, out⟩ = (x, ⟨st'.p, false, st'.out⟩)) :
    ∀ (m : Nat) (zs zs' : List Int) (p : Nat) (out : List Ex) (st' : IS), p ≤ s.size → kidsI s (rdI s n false) k m zs ⟨p, out⟩ = some (zs', st') → st'.out.length ≤ 15 → out.length ≤ st'.out.length ∧ kidsP s (rdP s n false) k m zs ⟨p, false, out⟩ = (zs', ⟨st'.p, false, st'.out⟩)
  | 0, zs, zs', p, out, st', _, h, _ => by
    rw [kidsI] at h
    injection h with h; injection h with h1 h2
    subst h1 h2
    exact ⟨Nat.le_refl _, rfl⟩
  | m + 1, zs, zs', p, out, st', hp, h, h15 => by
    rw [kidsI] at h
    simp only at h
    rw [kidsP, isP_ok]
    by_cases hl : litAt s (tSign k) p = true
    · rw [if_pos hl] at h ⊢
      have hle := litAt_le hl
      have h3 := tSign_size k
      have eo : onP (tSign k) ⟨p, false, out⟩ = ⟨p + 3, false, out⟩ := by unfold onP; rw [h3]
      rw [eo]
      cases e : rdI s n false ⟨p + 3, out⟩ with
      | none => rw [e] at h; cases h
      | some xs =>
        obtain ⟨x, st1⟩ := xs
        rw [e] at h
        simp only at h
        obtain ⟨a1, a2, -⟩ := few_rd s n false ⟨p + 3, out⟩ x st1 (by show p + 3 ≤ _; omega) e
        obtain ⟨b1, b2⟩ := kids_one hS m _ _ st1.p st1.out st' a2 h h15
        obtain ⟨c1, c2⟩ := hS (p + 3) out x st1 (by omega) e (by omega)
        rw [c2]
        exact ⟨by omega, b2⟩
    · rw [if_neg hl] at h ⊢
      injection h with h; injection h with h1 h2
      subst h1 h2
      exact ⟨Nat.le_refl _, rfl⟩
theorem rd_one (s : ByteArray) : ∀ (n : Nat), (∀ (p : Nat) (out : List Ex) (x : Int) (st' : IS), p ≤ s.size → rdI s n false ⟨p, out⟩ = some (x, st') → st'.out.length ≤ 15 → out.length ≤ st'.out.length ∧ rdP s n false ⟨p, false, out⟩ = (x, ⟨st'.p, false, st'.out⟩)) ∧
    (∀ (p : Nat) (out : List Ex) (x : Int) (st' : IS), p ≤ s.size → rdI s n true ⟨p, out⟩ = some (x, st') → st'.out.length ≤ 15 → out.length ≤ st'.out.length ∧ ∃ y, rdP s n true ⟨p, false, out⟩ = (y, ⟨st'.p, false, st'.out⟩) ∧ y = (st'.out.length : Int) - 1) ∧ (∀ (p : Nat) (out : List Ex) (x : Int) (st' : IS), p ≤ s.size → rdI s n false ⟨p, out⟩ = some (x, st') → x = (st'.out.length : Int) - 1)
  | 0 => ⟨fun p out x st' _ h _ => by simp [rdI] at h, fun p out x st' _ h _ => by simp [rdI] at h, fun p out x st' _ h => by simp [rdI] at h⟩
  | n + 1 => by
    obtain ⟨ih1, ih2, ih3⟩ := rd_one s n
    refine ⟨fun p out x st' hp h h15 => ?_, fun p out x st' hp h h15 => ?_, fun p out x st' hp h => ?_⟩
    · rw [rdI] at h
      simp only at h
      rw [rdP, isP_ok, isP_ok]
      by_cases hO : litAt s tOpen p = true
      · rw [if_pos hO] at h
        rw [if_neg (by rw [open_no_this hO]; decide), if_pos hO]
        have hle := litAt_le hO
        have e1 : tOpen.size = 1 := rfl
        have eo : onP tOpen ⟨p, false, out⟩ = ⟨p + 1, false, out⟩ := rfl
        rw [eo]
        cases e : rdI s n true ⟨p + 1, out⟩ with
        | none => rw [e] at h; cases h
        | some cs =>
          obtain ⟨c, st1⟩ := cs
          rw [e] at h
          simp only at h
          split at h
          · split at h
            · rename_i hc
              injection h with h; injection h with h1 h2
              subst h1 h2
              obtain ⟨a1, y, a2, a3⟩ := ih2 (p + 1) out c st1 (by omega) e h15
              rw [a2]
              simp only [isP_ok]
              rw [if_pos hc, a3]
              exact ⟨a1, rfl⟩
            · cases h
          · cases h
      · rw [if_neg hO] at h
        by_cases hT : litAt s tThis p = true
        · rw [if_pos hT] at h
          rw [if_pos hT]
          have hle := litAt_le hT
          have e5 : tThis.size = 5 := rfl
          have eo : onP tThis ⟨p, false, out⟩ = ⟨p + 5, false, out⟩ := rfl
          rw [eo]
          cases e : pairsI s (s.size + 1) [] (p + 5) with
          | none => rw [e] at h; cases h
          | some cs =>
            obtain ⟨xs, q⟩ := cs
            rw [e] at h
            simp only at h
            injection h with h; injection h with h1 h2
            subst h1 h2
            obtain ⟨k1, -, -⟩ := pairs_one s (s.size + 1) [] xs (p + 5) q out (by omega) e
            rw [k1]
            simp only [List.length_append, List.length_singleton] at h15
            refine ⟨by simp, ?_⟩
            simp only [addP, Bool.false_or]
            rw [decide_eq_false (by omega)]
        · rw [if_neg hT] at h
          rw [if_neg hT, if_neg hO]
          cases e : nameI s p with
          | none => rw [e] at h; cases h
          | some cs =>
            obtain ⟨y, q⟩ := cs
            rw [e] at h
            simp only at h
            obtain ⟨rfl, rfl, hnb⟩ := nameI_is e
            obtain ⟨e1, e2⟩ := nm_spec s p out
            injection h with h; injection h with h1 h2
            subst h1 h2
            simp only [List.length_append, List.length_singleton] at h15
            rw [e1, e2, judged, hnb]
            refine ⟨by simp, ?_⟩
            simp only [if_true, addP, Bool.false_or]
            rw [decide_eq_false (by omega)]
    · rw [rdI] at h
      rw [rdP]
      cases e : rdI s n false ⟨p, out⟩ with
      | none => rw [e] at h; cases h
      | some cs =>
        obtain ⟨i, st1⟩ := cs
        rw [e] at h
        simp only at h
        obtain ⟨f1, f2, -⟩ := few_rd s n false ⟨p, out⟩ i st1 hp e
        by_cases hs : signAt s st1.p = 0
        · rw [if_pos hs] at h
          injection h with h; injection h with h1 h2
          subst h2
          obtain ⟨a1, a2⟩ := ih1 p out i st1 hp e h15
          rw [a2]
          simp only
          rw [if_pos (.inl hs)]
          exact ⟨a1, i, rfl, ih3 p out i st1 hp e⟩
        · rw [if_neg hs] at h
          cases e2 : kidsI s (rdI s n false) (signAt s st1.p) (s.size + 1) [i] st1 with
          | none => rw [e2] at h; cases h
          | some ds =>
            obtain ⟨zs, st2⟩ := ds
            rw [e2] at h
            simp only at h
            injection h with h; injection h with h1 h2
            subst h2
            simp only [List.length_append, List.length_singleton] at h15
            obtain ⟨b1, b2⟩ := kids_one (fun p out x st' a b c => ih1 p out x st' a b c) _ _ _ st1.p st1.out st2 f2 e2 (by omega)
            obtain ⟨a1, a2⟩ := ih1 p out i st1 hp e (by omega)
            rw [a2]
            simp only
            rw [if_neg (by simp [hs]), b2]
            refine ⟨by simp; omega, (st2.out.length : Int), ?_, by simp⟩
            simp only [addP, Bool.false_or]
            rw [decide_eq_false (by omega)]
    · rw [rdI] at h
      simp only at h
      split at h
      · cases e : rdI s n true ⟨p + 1, out⟩ with
        | none => rw [e] at h; cases h
        | some cs =>
          obtain ⟨c, st1⟩ := cs
          rw [e] at h
          simp only at h
          split at h
          · split at h
            · injection h with h; injection h with h1 h2
              subst h1 h2
              rfl
            · cases h
          · cases h
      · split at h
        · cases e : pairsI s (s.size + 1) [] (p + 5) with
          | none => rw [e] at h; cases h
          | some cs =>
            obtain ⟨xs, q⟩ := cs
            rw [e] at h
            simp only at h
            injection h with h; injection h with h1 h2
            subst h1 h2
            simp
        · cases e : nameI s p with
          | none => rw [e] at h; cases h
          | some cs =>
            obtain ⟨y, q⟩ := cs
            rw [e] at h
            simp only at h
            injection h with h; injection h with h1 h2
            subst h1 h2
            simp
theorem txt_ge (es : List Ex) (n : Nat) : (txtAt es n false).size ≤ (txt es n).size := by
  rw [txt_eq]
  unfold txtAt
  rw [inT_out]
  unfold inT
  split
  · rw [ByteArray.size_append, ByteArray.size_append]; omega
  · exact Nat.le_refl _
/-- what the program's reader answers -/
def implR (s : ByteArray) : Option (List Ex) :=
  match rdI s (2 * s.size + 2) true ⟨0, []⟩ with
  | none => none
  | some (c, st) => if (1 < c ∨ st.out.length = 1) ∧ st.p = s.size ∧ specE st.out = true then some st.out else none
theorem impl_spec (s : ByteArray) {x : Int} {st : RS} (h : rdP s (2 * s.size + 2) true ⟨0, false, []⟩ = (x, st)) :
    implR s = if (!st.bad && !decide (st.p < s.size) && specE st.out && ((exText st.out).toList == s.toList)) = true then some st.out else none := by
  have u := up_rd (s := s) (2 * s.size + 2) true ⟨0, false, []⟩ (Nat.zero_le _)
  rw [h] at u
  have hall : s.extract 0 s.size = s := by
    apply ext_data'
    rw [ex_data, List.drop_zero]
    exact List.take_of_length_le (by simp)
  have hvalid : specE st.out = true → ∀ e ∈ st.out, nodeB e = true := fun he => by
    simp only [specE, Bool.and_eq_true] at he
    exact List.all_eq_true.1 he.1.1.1.2
  by_cases hc : (!st.bad && !decide (st.p < s.size) && specE st.out && ((exText st.out).toList == s.toList)) = true
  · rw [if_pos hc]
    simp only [Bool.and_eq_true] at hc
    obtain ⟨⟨⟨hb0, hp0⟩, he⟩, ht⟩ := hc
    have hb : st.bad = false := by simpa using hb0
    have hp : ¬ st.p < s.size := by simpa using hp0
    have hpe : st.p = s.size := by have h2 : st.p ≤ s.size := u.2.1; omega
    have htx : txtAt st.out (st.out.length - 1) false = s := by rw [← exText_yes he]; exact byteEq ht
    have g := (two_all s (2 * s.size + 2)).2 0 [] x st (Nat.zero_le _) (by omega) h hb (hvalid he)
    have hsz : (txtAt st.out (st.out.length - 1) false).size = s.size := by rw [htx]
    have hge := txt_ge st.out (st.out.length - 1)
    unfold implR
    rcases g.two with ⟨c, c1, c2⟩ | ⟨c1, c2⟩
    · rw [c1]
      simp only
      rw [if_pos]
      refine ⟨?_, hpe, he⟩
      rcases c2 with ⟨-, t2, t3⟩ | ⟨t1, -⟩
      · rcases t3 with ⟨-, t3⟩ | ⟨t3, -⟩
        · exact .inr t3
        · have e1 := congrArg ByteArray.size (txt_op t3)
          rw [ByteArray.size_append, ByteArray.size_append, t2, hpe, hall] at e1
          have a1 : (⟨#[40]⟩ : ByteArray).size = 1 := rfl
          omega
      · exact .inl t1
    · rcases c2 with c2 | ⟨-, c2⟩
      · omega
      · omega
  · rw [if_neg hc]
    unfold implR
    cases e : rdI s (2 * s.size + 2) true ⟨0, []⟩ with
    | none => rfl
    | some cs =>
      obtain ⟨c, ist⟩ := cs
      simp only
      rw [if_neg]
      rintro ⟨h1, h2, h3⟩
      have h15 : ist.out.length ≤ 15 := by
        simp only [specE, Bool.and_eq_true, decide_eq_true_eq] at h3
        exact h3.1.1.1.1.2
      obtain ⟨-, y, hy, -⟩ := (rd_one s (2 * s.size + 2)).2.1 0 [] c ist (Nat.zero_le _) e h15
      rw [h] at hy
      injection hy with _ hy
      subst hy
      apply hc
      simp only [Bool.and_eq_true]
      refine ⟨⟨⟨by simp, by simp; omega⟩, h3⟩, ?_⟩
      have g := (two_all s (2 * s.size + 2)).2 0 [] x _ (Nat.zero_le _) (by omega) h rfl (hvalid h3)
      have hfin : txtAt ist.out (ist.out.length - 1) false = s := by
        rcases g.two with ⟨c', c1, c2⟩ | ⟨c1, -⟩
        · rw [e] at c1
          injection c1 with c1; injection c1 with c1 _
          subst c1
          rcases c2 with ⟨rfl, t2, t3⟩ | ⟨-, -, -, t4⟩
          · rcases t3 with ⟨k1, -⟩ | ⟨-, k2⟩
            · have e1 : txt ist.out (ist.out.length - 1) = txtAt ist.out (ist.out.length - 1) false := by
                rw [txt_eq]; unfold txtAt; rw [inT_leaf k1, inT_leaf k1]
              rw [← e1, t2]
              show s.extract 0 ist.p = s
              rw [h2, hall]
            · rcases h1 with h1 | h1
              · omega
              · have : ([] : List Ex).length = 0 := rfl
                simp only at k2
                omega
          · rw [t4]
            show s.extract 0 ist.p = s
            rw [h2, hall]
        · rw [e] at c1; cases c1
      rw [exText_yes h3, hfin]
      simp
end Go.Proofs.Ytjmbgpdbnffkpaa
