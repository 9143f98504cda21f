/- The program's reader of expressions, as a plain function; where it takes a text the document's reader takes it, too, and for the same nodes. -/
import Derived.Test.YtjmbgpdbnffkpaaJ2
namespace Go.Proofs.Ytjmbgpdbnffkpaa
open Pl

/-- how far the program's reader has come -/
structure IS where
  p : Nat
  out : List Ex
/-- a pair: a type, and its set where a sign stands behind it -/
def pairI (s : ByteArray) (p : Nat) : Option (Al × Nat) :=
  if nameB (wordP s p) then
    if litAt s tHash (p + wordN s p) then
      if nameB (wordP s (p + wordN s p + 1)) then some (⟨wordP s p, wordP s (p + wordN s p + 1)⟩, p + wordN s p + 1 + wordN s (p + wordN s p + 1)) else none
    else some (⟨wordP s p, ⟨#[]⟩⟩, p + wordN s p)
  else none
def pairsI (s : ByteArray) : Nat → List Al → Nat → Option (List Al × Nat)
  | 0, _, _ => none
  | n + 1, xs, p =>
    match pairI s p with
    | none => none
    | some (y, q) => if litAt s tComma q then pairsI s n (xs ++ [y]) (q + 1) else if litAt s tClose q then some (xs ++ [y], q + 1) else none
def nameI (s : ByteArray) (p : Nat) : Option (Ex × Nat) :=
  if nameB (wordP s p) then
    if litAt s tArrow (p + wordN s p) then
      if nameB (wordP s (p + wordN s p + 2)) then some (⟨3, [], wordP s p, wordP s (p + wordN s p + 2), []⟩, p + wordN s p + 2 + wordN s (p + wordN s p + 2)) else none
    else some (⟨2, [], ⟨#[]⟩, wordP s p, []⟩, p + wordN s p)
  else none
def kidsI (s : ByteArray) (it : IS → Option (Int × IS)) (k : Int) : Nat → List Int → IS → Option (List Int × IS)
  | 0, zs, st => some (zs, st)
  | n + 1, zs, st =>
    if litAt s (tSign k) st.p then
      match it ⟨st.p + 3, st.out⟩ with
      | none => none
      | some (i, st') => kidsI s it k n (zs ++ [i]) st'
    else some (zs, st)
/-- a side (false): its place; sides (true): how many -/
def rdI (s : ByteArray) : Nat → Bool → IS → Option (Int × IS)
  | 0, _, _ => none
  | n + 1, false, st =>
    if litAt s tOpen st.p then
      match rdI s n true ⟨st.p + 1, st.out⟩ with
      | none => none
      | some (c, st') => if 1 < c then (if litAt s tClose st'.p then some ((st'.out.length : Int) - 1, ⟨st'.p + 1, st'.out⟩) else none) else none
    else if litAt s tThis st.p then
      match pairsI s (s.size + 1) [] (st.p + 5) with
      | none => none
      | some (xs, p') => some ((st.out.length : Int), ⟨p', st.out ++ [⟨1, xs, ⟨#[]⟩, ⟨#[]⟩, []⟩]⟩)
    else
      match nameI s st.p with
      | none => none
      | some (x, p') => some ((st.out.length : Int), ⟨p', st.out ++ [x]⟩)
  | n + 1, true, st =>
    match rdI s n false st with
    | none => none
    | some (i, st1) =>
      if signAt s st1.p = 0 then some (1, st1)
      else
        match kidsI s (rdI s n false) (signAt s st1.p) (s.size + 1) [i] st1 with
        | none => none
        | some (zs, st2) => some ((zs.length : Int), ⟨st2.p, st2.out ++ [⟨signAt s st1.p, [], ⟨#[]⟩, ⟨#[]⟩, zs⟩]⟩)

theorem isP_ok (s w : ByteArray) (p : Nat) (out : List Ex) : isP s w ⟨p, false, out⟩ = litAt s w p := by simp [isP]
theorem isP_bad (s w : ByteArray) (p : Nat) (out : List Ex) : isP s w ⟨p, true, out⟩ = false := by simp [isP]
theorem byteEq {a b : ByteArray} (h : (a.toList == b.toList) = true) : a = b := by
  rw [beq_iff_eq, Go.ByteArray.toList_eq, Go.ByteArray.toList_eq] at h
  exact ext_data' h
theorem lit_is {s w : ByteArray} {p : Nat} (h : litAt s w p = true) : s.extract p (p + w.size) = w := by
  unfold litAt at h
  rw [Bool.and_eq_true] at h
  exact byteEq h.2
theorem ex_data (s : ByteArray) (p q : Nat) : (s.extract p q).data.toList = (s.data.toList.take q).drop p := by
  rw [ByteArray.data_extract, Array.toList_extract]; simp [List.extract_eq_take_drop, List.drop_take]
theorem ex_app (s : ByteArray) {p q r : Nat} (h1 : p ≤ q) (h2 : q ≤ r) : s.extract p q ++ s.extract q r = s.extract p r := by
  apply ext_data'
  rw [ByteArray.data_append, Array.toList_append, ex_data, ex_data, ex_data]
  have e1 : (s.data.toList.take q).drop p = (s.data.toList.drop p).take (q - p) := List.drop_take
  have e2 : (s.data.toList.take r).drop q = ((s.data.toList.drop p).drop (q - p)).take (r - q) := by rw [List.drop_take, List.drop_drop]; congr 2; omega
  have e3 : (s.data.toList.take r).drop p = (s.data.toList.drop p).take (r - p) := List.drop_take
  rw [e1, e2, e3]
  have e4 : r - p = (q - p) + (r - q) := by omega
  rw [e4, List.take_add]
theorem ex_size (s : ByteArray) {p q : Nat} (h1 : p ≤ q) (h2 : q ≤ s.size) : (s.extract p q).size = q - p := by
  rw [ByteArray.size_extract]; omega
/-- two literals that begin unlike do not both stand at a place -/
theorem lit_head {s w : ByteArray} {p : Nat} {c : UInt8} (h : litAt s w p = true) (hw : w.data.toList.head? = some c) : s.data.toList[p]? = some c := by
  have h1 := lit_is h
  have h2 := litAt_le h
  have h3 : (s.extract p (p + w.size)).data.toList.head? = some c := by rw [h1]; exact hw
  rw [ex_data, List.head?_drop, List.getElem?_take] at h3
  split at h3
  · exact h3
  · cases h3
theorem lit_no {s w u : ByteArray} {p : Nat} {c d : UInt8} (h : litAt s w p = true) (hw : w.data.toList.head? = some c) (hu : u.data.toList.head? = some d) (hn : c ≠ d) : litAt s u p = false := by
  cases e : litAt s u p with
  | false => rfl
  | true =>
    have h1 := lit_head h hw
    rw [lit_head e hu] at h1
    injection h1 with h1
    exact absurd h1.symm hn
theorem this_no_open {s : ByteArray} {p : Nat} (h : litAt s tThis p = true) : litAt s tOpen p = false := lit_no h (c := 116) (d := 40) rfl rfl (by decide)
theorem open_no_this {s : ByteArray} {p : Nat} (h : litAt s tOpen p = true) : litAt s tThis p = false := lit_no h (c := 40) (d := 116) rfl rfl (by decide)
theorem comma_no_close {s : ByteArray} {p : Nat} (h : litAt s tComma p = true) : litAt s tClose p = false := lit_no h (c := 44) (d := 41) rfl rfl (by decide)
theorem close_no_comma {s : ByteArray} {p : Nat} (h : litAt s tClose p = true) : litAt s tComma p = false := lit_no h (c := 41) (d := 44) rfl rfl (by decide)
theorem tSign_size (k : Int) : (tSign k).size = 3 := signB_size k
theorem name_empty : nameB ⟨#[]⟩ = false := by decide

/-- the pair that stands at a place, by the document's reader -/
def prY (s : ByteArray) (p : Nat) : Al := ⟨wordP s p, if litAt s tHash (p + wordN s p) then wordP s (p + wordN s p + 1) else ⟨#[]⟩⟩
def prQ (s : ByteArray) (p : Nat) : Nat := if litAt s tHash (p + wordN s p) then p + wordN s p + 1 + wordN s (p + wordN s p + 1) else p + wordN s p
theorem pr_spec (s : ByteArray) (p : Nat) (out : List Ex) : (⟨wordP s p, setP s (pairAt s ⟨p, false, out⟩)⟩ : Al) = prY s p ∧ behindSet s (pairAt s ⟨p, false, out⟩) = ⟨prQ s p, false, out⟩ := by
  unfold prY prQ setP behindSet pairAt
  simp only [isP_ok]
  by_cases h : litAt s tHash (p + wordN s p) = true
  · simp [h]
  · simp [h]
theorem pairI_is {s : ByteArray} {p : Nat} {y : Al} {q : Nat} (h : pairI s p = some (y, q)) : y = prY s p ∧ q = prQ s p ∧ nameB (wordP s p) = true ∧ setB' (prY s p).s = true := by
  unfold pairI at h
  unfold prY prQ
  split at h
  · rename_i h1
    split at h
    · rename_i h2
      rw [if_pos h2, if_pos h2]
      split at h
      · rename_i h3
        injection h with h; injection h with e1 e2
        exact ⟨e1.symm, e2.symm, h1, by show setB' _ = true; unfold setB'; rw [h3, Bool.or_true]⟩
      · cases h
    · rename_i h2
      rw [if_neg h2, if_neg h2]
      injection h with h; injection h with e1 e2
      exact ⟨e1.symm, e2.symm, h1, by show setB' ⟨#[]⟩ = true; unfold setB'; rw [Go.ByteArray.toList_eq]; rfl⟩
  · cases h
theorem prQ_le (s : ByteArray) (p : Nat) (hp : p ≤ s.size) : p ≤ prQ s p ∧ prQ s p ≤ s.size := by
  have h1 := wordN_le s p hp
  unfold prQ
  split
  · rename_i h
    have h2 := litAt_le h
    have e : tHash.size = 1 := rfl
    have h3 := wordN_le s (p + wordN s p + 1) (by omega)
    omega
  · omega
/-- of a right pair: its text, against what was read -/
theorem pair_two {s : ByteArray} {p : Nat} (hp : p ≤ s.size) (hy : alB (prY s p) = true) : (alText (prY s p)).size + p ≤ prQ s p ∧
    ((pairI s p = some (prY s p, prQ s p) ∧ alText (prY s p) = s.extract p (prQ s p)) ∨ (pairI s p = none ∧ (alText (prY s p)).size + p < prQ s p)) := by
  have h1 := wordN_le s p hp
  have hw := wordP_size s p hp
  unfold alB at hy
  rw [Bool.and_eq_true] at hy
  have hn : nameB (wordP s p) = true := hy.1
  have hset := hy.2
  unfold pairI
  rw [if_pos hn]
  unfold prY prQ at *
  by_cases h : litAt s tHash (p + wordN s p) = true
  · simp only [if_pos h] at hset ⊢
    have h2 := litAt_le h
    have e : tHash.size = 1 := rfl
    have h3 := wordN_le s (p + wordN s p + 1) (by omega)
    have hw2 := wordP_size s (p + wordN s p + 1) (by omega)
    have hl := lit_is h
    rw [e] at hl
    unfold alText
    cases hem : (wordP s (p + wordN s p + 1)).toList.isEmpty with
    | true =>
      have e0 : (wordP s (p + wordN s p + 1)) = ⟨#[]⟩ := by
        apply ext_data'
        rw [Go.ByteArray.toList_eq] at hem
        simpa using hem
      rw [e0, name_empty]
      simp only [if_true, Bool.false_eq_true, if_false]
      exact ⟨by omega, .inr ⟨by first | rfl | trivial | simp, by omega⟩⟩
    | false =>
      have hn2 : nameB (wordP s (p + wordN s p + 1)) = true := by
        unfold setB' at hset
        rw [hem, Bool.false_or] at hset
        exact hset
      rw [hn2]
      simp only [if_true, Bool.false_eq_true, if_false]
      have hT : wordP s p ++ ⟨#[35]⟩ ++ wordP s (p + wordN s p + 1) = s.extract p (p + wordN s p + 1 + wordN s (p + wordN s p + 1)) := by
        have : (⟨#[35]⟩ : ByteArray) = s.extract (p + wordN s p) (p + wordN s p + 1) := hl.symm
        rw [this]
        unfold wordP
        rw [ex_app s (by omega) (by omega), ex_app s (by omega) (by omega)]
      refine ⟨?_, .inl ⟨by first | rfl | trivial | simp, hT⟩⟩
      rw [hT, ex_size s (by omega) (by omega)]; omega
  · simp only [if_neg h] at hset ⊢
    unfold alText
    have : (⟨#[]⟩ : ByteArray).toList.isEmpty = true := by rw [Go.ByteArray.toList_eq]; rfl
    rw [this]
    simp only [if_true]
    refine ⟨by omega, .inl ⟨by first | rfl | trivial | simp, by first | rfl | trivial | simp⟩⟩
def JA (xs : List Al) : ByteArray := joinB tComma (xs.map alText)
def preA (xs : List Al) : ByteArray := if xs = [] then ⟨#[]⟩ else JA xs ++ tComma
theorem JA_snoc (xs : List Al) (y : Al) : JA (xs ++ [y]) = preA xs ++ alText y := by
  unfold JA preA
  rw [List.map_append, List.map_cons, List.map_nil, joinB_snoc]
  by_cases h : xs = []
  · subst h
    apply ext_data'; simp [ByteArray.data_append]
  · rw [if_neg h, if_neg (by simpa using h)]
    rfl
theorem preA_snoc (xs : List Al) (y : Al) : preA (xs ++ [y]) = preA xs ++ alText y ++ tComma := by
  rw [preA, if_neg (by simp), JA_snoc]
theorem pairsP_bd (s : ByteArray) (n : Nat) (xs : List Al) (p : Nat) (out : List Ex) : pairsP s n xs ⟨p, true, out⟩ = (none, ⟨p, true, out⟩) := by
  cases n <;> simp [pairsP]
theorem pairsP_step (s : ByteArray) (n : Nat) (xs : List Al) (p : Nat) (out : List Ex) : pairsP s (n + 1) xs ⟨p, false, out⟩ =
    if litAt s tClose (prQ s p) then (some (xs ++ [prY s p]), ⟨prQ s p + 1, false, out⟩) else if litAt s tComma (prQ s p) then pairsP s n (xs ++ [prY s p]) ⟨prQ s p + 1, false, out⟩ else (none, ⟨prQ s p, true, out⟩) := by
  obtain ⟨e1, e2⟩ := pr_spec s p out
  rw [pairsP]
  simp only [Bool.false_eq_true, if_false]
  rw [e1, e2, isP_ok, isP_ok]
  split
  · rfl
  split
  · rfl
  · exact pairsP_bd s n _ _ _
/-- where the document's reader has read pairs: what the program's reader has -/
theorem pairs_two (s : ByteArray) : ∀ (n : Nat) (xs ys : List Al) (p : Nat) (out : List Ex) (st : RS), p ≤ s.size → pairsP s n xs ⟨p, false, out⟩ = (some ys, st) → (∀ a ∈ ys, alB a = true) →
    st.bad = false ∧ st.out = out ∧ p ≤ st.p ∧ st.p ≤ s.size ∧ (∀ a ∈ xs, a ∈ ys) ∧ (JA ys).size + 1 + p ≤ (preA xs).size + st.p ∧
      ((pairsI s n xs p = some (ys, st.p) ∧ JA ys ++ tClose = preA xs ++ s.extract p st.p) ∨ (pairsI s n xs p = none ∧ (JA ys).size + 1 + p < (preA xs).size + st.p))
  | 0, xs, ys, p, out, st, _, h, _ => by simp [pairsP] at h
  | n + 1, xs, ys, p, out, st, hp, h, hy => by
    rw [pairsP_step] at h
    obtain ⟨q1, q2⟩ := prQ_le s p hp
    have ec : tComma.size = 1 := rfl
    have el : tClose.size = 1 := rfl
    by_cases hc : litAt s tClose (prQ s p) = true
    · rw [if_pos hc] at h
      injection h with h1 h2
      injection h1 with h1
      subst h1; subst h2
      have hle := litAt_le hc
      obtain ⟨t1, t2⟩ := pair_two hp (hy (prY s p) (by simp))
      refine ⟨rfl, rfl, by show p ≤ prQ s p + 1; omega, by show prQ s p + 1 ≤ _; omega, fun a ha => by simp [ha], ?_, ?_⟩
      · rw [JA_snoc, ByteArray.size_append]; show _ ≤ _ + (prQ s p + 1); omega
      · unfold pairsI
        rcases t2 with ⟨e1, e2⟩ | ⟨e1, e2⟩
        · rw [e1]
          simp only
          rw [if_neg (by rw [close_no_comma hc]; decide), if_pos hc]
          refine .inl ⟨rfl, ?_⟩
          have hl := lit_is hc
          rw [el] at hl
          rw [JA_snoc, e2, ByteArray.append_assoc, ← hl]
          show _ ++ (s.extract p (prQ s p) ++ s.extract (prQ s p) (prQ s p + 1)) = _ ++ s.extract p (prQ s p + 1)
          rw [ex_app s q1 (by omega)]
        · rw [e1]
          refine .inr ⟨rfl, ?_⟩
          rw [JA_snoc, ByteArray.size_append]; show _ < _ + (prQ s p + 1); omega
    · rw [if_neg hc] at h
      by_cases hm : litAt s tComma (prQ s p) = true
      · rw [if_pos hm] at h
        have hle := litAt_le hm
        obtain ⟨i1, i2, i3, i4, i5, i6, i7⟩ := pairs_two s n (xs ++ [prY s p]) ys (prQ s p + 1) out st (by omega) h hy
        obtain ⟨t1, t2⟩ := pair_two hp (hy (prY s p) (i5 _ (by simp)))
        have hsz : (preA (xs ++ [prY s p])).size = (preA xs).size + (alText (prY s p)).size + 1 := by rw [preA_snoc, ByteArray.size_append, ByteArray.size_append, ec]
        refine ⟨i1, i2, by omega, i4, fun a ha => i5 a (by simp [ha]), by omega, ?_⟩
        unfold pairsI
        rcases t2 with ⟨e1, e2⟩ | ⟨e1, e2⟩
        · rw [e1]
          simp only
          rw [if_pos hm]
          rcases i7 with ⟨k1, k2⟩ | ⟨k1, k2⟩
          · rw [k1]
            refine .inl ⟨rfl, ?_⟩
            have hl := lit_is hm
            rw [ec] at hl
            rw [k2, preA_snoc, e2, ← hl, ByteArray.append_assoc, ByteArray.append_assoc, ex_app s (by omega) (by omega), ex_app s (by omega) (by omega)]
          · rw [k1]
            exact .inr ⟨rfl, by omega⟩
        · rw [e1]
          exact .inr ⟨rfl, by omega⟩
      · rw [if_neg hm] at h
        injection h with h1 _
        cases h1
/-- with steps enough the document's reader gives no pairs only where it has given up -/
theorem pairs_none (s : ByteArray) : ∀ (n : Nat) (xs : List Al) (p : Nat) (out : List Ex) (st : RS), p ≤ s.size → s.size - p < n → pairsP s n xs ⟨p, false, out⟩ = (none, st) → st.bad = true
  | 0, _, _, _, _, _, h, _ => by omega
  | n + 1, xs, p, out, st, hp, hn, h => by
    rw [pairsP_step] at h
    obtain ⟨q1, q2⟩ := prQ_le s p hp
    split at h
    · injection h with h1 _; cases h1
    split at h
    · rename_i hm
      have hle := litAt_le hm
      have ec : tComma.size = 1 := rfl
      exact pairs_none s n _ _ _ _ (by omega) (by omega) h
    · injection h with _ h2; rw [← h2]
/-- what the program's reader has read as pairs, the document's has, too -/
theorem pairs_one (s : ByteArray) : ∀ (n : Nat) (xs ys : List Al) (p q : Nat) (out : List Ex), p ≤ s.size → pairsI s n xs p = some (ys, q) → pairsP s n xs ⟨p, false, out⟩ = (some ys, ⟨q, false, out⟩) ∧ q ≤ s.size ∧ p ≤ q
  | 0, _, _, _, _, _, _, h => by simp [pairsI] at h
  | n + 1, xs, ys, p, q, out, hp, h => by
    unfold pairsI at h
    rw [pairsP_step]
    obtain ⟨q1, q2⟩ := prQ_le s p hp
    cases e : pairI s p with
    | none => rw [e] at h; cases h
    | some yq =>
      obtain ⟨y, r⟩ := yq
      rw [e] at h
      obtain ⟨rfl, rfl, -⟩ := pairI_is e
      simp only at h
      by_cases hm : litAt s tComma (prQ s p) = true
      · rw [if_pos hm] at h
        have hle := litAt_le hm
        have ec : tComma.size = 1 := rfl
        rw [if_neg (by rw [comma_no_close hm]; decide), if_pos hm]
        obtain ⟨k1, k2, k3⟩ := pairs_one s n _ _ _ _ out (by omega) h
        exact ⟨k1, k2, by omega⟩
      · rw [if_neg hm] at h
        by_cases hc : litAt s tClose (prQ s p) = true
        · rw [if_pos hc] at h
          injection h with h; injection h with h1 h2
          subst h1 h2
          have hle := litAt_le hc
          have ec : tClose.size = 1 := rfl
          rw [if_pos hc]
          exact ⟨rfl, by omega, by omega⟩
        · rw [if_neg hc] at h; cases h
end Go.Proofs.Ytjmbgpdbnffkpaa
