/- The program's reader of expressions, as a plain function; where it takes a text the document's reader takes it, too, and for the same nodes. -/
import Derived.Test.YtjmbgpdbnffkpaaPlainReader
import Derived.Test.YtjmbgpdbnffkpaaSpecText
namespace Go.Proofs.Ytjmbgpdbnffkpaa
open Pl

/-- how far the program's reader has come -/
structure IS where
  p : Nat
  out : List Ex
/-- a pair: a type, and its set where a sign stands behind it -/
def pairI (s : ByteArray) (p : Nat) : Option (Al × Nat) :=
  if nameB (wordP s p) then
    if litAt s tHash (p + wordN s p) then
      if nameB (wordP s (p + wordN s p + 1)) then some (⟨wordP s p, wordP s (p + wordN s p + 1)⟩, p + wordN s p + 1 + wordN s (p + wordN s p + 1)) else none
    else some (⟨wordP s p, ⟨#[]⟩⟩, p + wordN s p)
  else none
def pairsI (s : ByteArray) : Nat → List Al → Nat → Option (List Al × Nat)
  | 0, _, _ => none
  | n + 1, xs, p =>
    match pairI s p with
    | none => none
    | some (y, q) => if litAt s tComma q then pairsI s n (xs ++ [y]) (q + 1) else if litAt s tClose q then some (xs ++ [y], q + 1) else none
def nameI (s : ByteArray) (p : Nat) : Option (Ex × Nat) :=
  if nameB (wordP s p) then
    if litAt s tArrow (p + wordN s p) then
      if nameB (wordP s (p + wordN s p + 2)) then some (⟨3, [], wordP s p, wordP s (p + wordN s p + 2), []⟩, p + wordN s p + 2 + wordN s (p + wordN s p + 2)) else none
    else some (⟨2, [], ⟨#[]⟩, wordP s p, []⟩, p + wordN s p)
  else none
def kidsI (s : ByteArray) (it : IS → Option (Int × IS)) (k : Int) : Nat → List Int → IS → Option (List Int × IS)
  | 0, zs, st => some (zs, st)
  | n + 1, zs, st =>
    if litAt s (tSign k) st.p then
      match it ⟨st.p + 3, st.out⟩ with
      | none => none
      | some (i, st') => kidsI s it k n (zs ++ [i]) st'
    else some (zs, st)
/-- a side (false): its place; sides (true): how many -/
def rdI (s : ByteArray) : Nat → Bool → IS → Option (Int × IS)
  | 0, _, _ => none
  | n + 1, false, st =>
    if litAt s tOpen st.p then
      match rdI s n true ⟨st.p + 1, st.out⟩ with
      | none => none
      | some (c, st') => if 1 < c then (if litAt s tClose st'.p then some ((st'.out.length : Int) - 1, ⟨st'.p + 1, st'.out⟩) else none) else none
    else if litAt s tThis st.p then
      match pairsI s (s.size + 1) [] (st.p + 5) with
      | none => none
      | some (xs, p') => some ((st.out.length : Int), ⟨p', st.out ++ [⟨1, xs, ⟨#[]⟩, ⟨#[]⟩, []⟩]⟩)
    else
      match nameI s st.p with
      | none => none
      | some (x, p') => some ((st.out.length : Int), ⟨p', st.out ++ [x]⟩)
  | n + 1, true, st =>
    match rdI s n false st with
    | none => none
    | some (i, st1) =>
      if signAt s st1.p = 0 then some (1, st1)
      else
        match kidsI s (rdI s n false) (signAt s st1.p) (s.size + 1) [i] st1 with
        | none => none
        | some (zs, st2) => some ((zs.length : Int), ⟨st2.p, st2.out ++ [⟨signAt s st1.p, [], ⟨#[]⟩, ⟨#[]⟩, zs⟩]⟩)

theorem isP_ok (s w : ByteArray) (p : Nat) (out : List Ex) : isP s w ⟨p, false, out⟩ = litAt s w p := by simp [isP]
theorem isP_bad (s w : ByteArray) (p : Nat) (out : List Ex) : isP s w ⟨p, true, out⟩ = false := by simp [isP]
theorem byteEq {a b : ByteArray} (h : (a.toList == b.toList) = true) : a = b := by
  rw [beq_iff_eq, Go.ByteArray.toList_eq, Go.ByteArray.toList_eq] at h
  exact ext_data' h
theorem lit_is {s w : ByteArray} {p : Nat} (h : litAt s w p = true) : s.extract p (p + w.size) = w := by
  unfold litAt at h
  rw [Bool.and_eq_true] at h
  exact byteEq h.2
theorem ex_data (s : ByteArray) (p q : Nat) : (s.extract p q).data.toList = (s.data.toList.take q).drop p := by
  rw [ByteArray.data_extract, Array.toList_extract]; simp [List.extract_eq_take_drop, List.drop_take]
theorem ex_app (s : ByteArray) {p q r : Nat} (h1 : p ≤ q) (h2 : q ≤ r) : s.extract p q ++ s.extract q r = s.extract p r := by
  apply ext_data'
  rw [ByteArray.data_append, Array.toList_append, ex_data, ex_data, ex_data]
  have e1 : (s.data.toList.take q).drop p = (s.data.toList.drop p).take (q - p) := List.drop_take
  have e2 : (s.data.toList.take r).drop q = ((s.data.toList.drop p).drop (q - p)).take (r - q) := by rw [List.drop_take, List.drop_drop]; congr 2; omega
  have e3 : (s.data.toList.take r).drop p = (s.data.toList.drop p).take (r - p) := List.drop_take
  rw [e1, e2, e3]
  have e4 : r - p = (q - p) + (r - q) := by omega
  rw [e4, List.take_add]
theorem ex_size (s : ByteArray) {p q : Nat} (h1 : p ≤ q) (h2 : q ≤ s.size) : (s.extract p q).size = q - p := by
  rw [ByteArray.size_extract]; omega
/-- two literals that begin unlike do not both stand at a place -/
theorem lit_head {s w : ByteArray} {p : Nat} {c : UInt8} (h : litAt s w p = true) (hw : w.data.toList.head? = some c) : s.data.toList[p]? = some c := by
  have h1 := lit_is h
  have h2 := litAt_le h
  have h3 : (s.extract p (p + w.size)).data.toList.head? = some c := by rw [h1]; exact hw
  rw [ex_data, List.head?_drop, List.getElem?_take] at h3
  split at h3
  · exact h3
  · cases h3
theorem lit_no {s w u : ByteArray} {p : Nat} {c d : UInt8} (h : litAt s w p = true) (hw : w.data.toList.head? = some c) (hu : u.data.toList.head? = some d) (hn : c ≠ d) : litAt s u p = false := by
  cases e : litAt s u p with
  | false => rfl
  | true =>
    have h1 := lit_head h hw
    rw [lit_head e hu] at h1
    injection h1 with h1
    exact absurd h1.symm hn
theorem this_no_open {s : ByteArray} {p : Nat} (h : litAt s tThis p = true) : litAt s tOpen p = false := lit_no h (c := 116) (d := 40) rfl rfl (by decide)
theorem open_no_this {s : ByteArray} {p : Nat} (h : litAt s tOpen p = true) : litAt s tThis p = false := lit_no h (c := 40) (d := 116) rfl rfl (by decide)
theorem comma_no_close {s : ByteArray} {p : Nat} (h : litAt s tComma p = true) : litAt s tClose p = false := lit_no h (c := 44) (d := 41) rfl rfl (by decide)
theorem close_no_comma {s : ByteArray} {p : Nat} (h : litAt s tClose p = true) : litAt s tComma p = false := lit_no h (c := 41) (d := 44) rfl rfl (by decide)
theorem tSign_size (k : Int) : (tSign k).size = 3 := signB_size k
theorem name_empty : nameB ⟨#[]⟩ = false := by decide

/-- the pair that stands at a place, by the document's reader -/
def prY (s : ByteArray) (p : Nat) : Al := ⟨wordP s p, if litAt s tHash (p + wordN s p) then wordP s (p + wordN s p + 1) else ⟨#[]⟩⟩
def prQ (s : ByteArray) (p : Nat) : Nat := if litAt s tHash (p + wordN s p) then p + wordN s p + 1 + wordN s (p + wordN s p + 1) else p + wordN s p
theorem pr_spec (s : ByteArray) (p : Nat) (out : List Ex) : (⟨wordP s p, setP s (pairAt s ⟨p, false, out⟩)⟩ : Al) = prY s p ∧ behindSet s (pairAt s ⟨p, false, out⟩) = ⟨prQ s p, false, out⟩ := by
  unfold prY prQ setP behindSet pairAt
  simp only [isP_ok]
  by_cases h : litAt s tHash (p + wordN s p) = true
  · simp [h]
  · simp [h]
theorem pairI_is {s : ByteArray} {p : Nat} {y : Al} {q : Nat} (h : pairI s p = some (y, q)) : y = prY s p ∧ q = prQ s p ∧ nameB (wordP s p) = true ∧ setB' (prY s p).s = true := by
  unfold pairI at h
  unfold prY prQ
  split at h
  · rename_i h1
    split at h
    · rename_i h2
      rw [if_pos h2, if_pos h2]
      split at h
      · rename_i h3
        injection h with h; injection h with e1 e2
        exact ⟨e1.symm, e2.symm, h1, by show setB' _ = true; unfold setB'; rw [h3, Bool.or_true]⟩
      · cases h
    · rename_i h2
      rw [if_neg h2, if_neg h2]
      injection h with h; injection h with e1 e2
      exact ⟨e1.symm, e2.symm, h1, by show setB' ⟨#[]⟩ = true; unfold setB'; rw [Go.ByteArray.toList_eq]; rfl⟩
  · cases h
theorem prQ_le (s : ByteArray) (p : Nat) (hp : p ≤ s.size) : p ≤ prQ s p ∧ prQ s p ≤ s.size := by
  have h1 := wordN_le s p hp
  unfold prQ
  split
  · rename_i h
    have h2 := litAt_le h
    have e : tHash.size = 1 := rfl
    have h3 := wordN_le s (p + wordN s p + 1) (by omega)
    omega
  · omega
/-- of a right pair: its text, against what was read -/
theorem pair_two {s : ByteArray} {p : Nat} (hp : p ≤ s.size) (hy : alB (prY s p) = true) : (alText (prY s p)).size + p ≤ prQ s p ∧
    ((pairI s p = some (prY s p, prQ s p) ∧ alText (prY s p) = s.extract p (prQ s p)) ∨ (pairI s p = none ∧ (alText (prY s p)).size + p < prQ s p)) := by
  have h1 := wordN_le s p hp
  have hw := wordP_size s p hp
  unfold alB at hy
  rw [Bool.and_eq_true] at hy
  have hn : nameB (wordP s p) = true := hy.1
  have hset := hy.2
  unfold pairI
  rw [if_pos hn]
  unfold prY prQ at *
  by_cases h : litAt s tHash (p + wordN s p) = true
  · simp only [if_pos h] at hset ⊢
    have h2 := litAt_le h
    have e : tHash.size = 1 := rfl
    have h3 := wordN_le s (p + wordN s p + 1) (by omega)
    have hw2 := wordP_size s (p + wordN s p + 1) (by omega)
    have hl := lit_is h
    rw [e] at hl
    unfold alText
    cases hem : (wordP s (p + wordN s p + 1)).toList.isEmpty with
    | true =>
      have e0 : (wordP s (p + wordN s p + 1)) = ⟨#[]⟩ := by
        apply ext_data'
        rw [Go.ByteArray.toList_eq] at hem
        simpa using hem
      rw [e0, name_empty]
      simp only [if_true, Bool.false_eq_true, if_false]
      exact ⟨by omega, .inr ⟨by first | rfl | trivial | simp, by omega⟩⟩
    | false =>
      have hn2 : nameB (wordP s (p + wordN s p + 1)) = true := by
        unfold setB' at hset
        rw [hem, Bool.false_or] at hset
        exact hset
      rw [hn2]
      simp only [if_true, Bool.false_eq_true, if_false]
      have hT : wordP s p ++ ⟨#[35]⟩ ++ wordP s (p + wordN s p + 1) = s.extract p (p + wordN s p + 1 + wordN s (p + wordN s p + 1)) := by
        have : (⟨#[35]⟩ : ByteArray) = s.extract (p + wordN s p) (p + wordN s p + 1) := hl.symm
        rw [this]
        unfold wordP
        rw [ex_app s (by omega) (by omega), ex_app s (by omega) (by omega)]
      refine ⟨?_, .inl ⟨by first | rfl | trivial | simp, hT⟩⟩
      rw [hT, ex_size s (by omega) (by omega)]; omega
  · simp only [if_neg h] at hset ⊢
    unfold alText
    have : (⟨#[]⟩ : ByteArray).toList.isEmpty = true := by rw [Go.ByteArray.toList_eq]; rfl
    rw [this]
    simp only [if_true]
    refine ⟨by omega, .inl ⟨by first | rfl | trivial | simp, by first | rfl | trivial | simp⟩⟩
def JA (xs : List Al) : ByteArray := joinB tComma (xs.map alText)
def preA (xs : List Al) : ByteArray := if xs = [] then ⟨#[]⟩ else JA xs ++ tComma
theorem JA_snoc (xs : List Al) (y : Al) : JA (xs ++ [y]) = preA xs ++ alText y := by
  unfold JA preA
  rw [List.map_append, List.map_cons, List.map_nil, joinB_snoc]
  by_cases h : xs = []
  · subst h
    apply ext_data'; simp [ByteArray.data_append]
  · rw [if_neg h, if_neg (by simpa using h)]
    rfl
theorem preA_snoc (xs : List Al) (y : Al) : preA (xs ++ [y]) = preA xs ++ alText y ++ tComma := by
  rw [preA, if_neg (by simp), JA_snoc]
theorem pairsP_bd (s : ByteArray) (n : Nat) (xs : List Al) (p : Nat) (out : List Ex) : pairsP s n xs ⟨p, true, out⟩ = (none, ⟨p, true, out⟩) := by
  cases n <;> simp [pairsP]
theorem pairsP_step (s : ByteArray) (n : Nat) (xs : List Al) (p : Nat) (out : List Ex) : pairsP s (n + 1) xs ⟨p, false, out⟩ =
    if litAt s tClose (prQ s p) then (some (xs ++ [prY s p]), ⟨prQ s p + 1, false, out⟩) else if litAt s tComma (prQ s p) then pairsP s n (xs ++ [prY s p]) ⟨prQ s p + 1, false, out⟩ else (none, ⟨prQ s p, true, out⟩) := by
  obtain ⟨e1, e2⟩ := pr_spec s p out
  rw [pairsP]
  simp only [Bool.false_eq_true, if_false]
  rw [e1, e2, isP_ok, isP_ok]
  split
  · rfl
  split
  · rfl
  · exact pairsP_bd s n _ _ _
/-- where the document's reader has read pairs: what the program's reader has -/
theorem pairs_two (s : ByteArray) : ∀ (n : Nat) (xs ys : List Al) (p : Nat) (out : List Ex) (st : RS), p ≤ s.size → pairsP s n xs ⟨p, false, out⟩ = (some ys, st) → (∀ a ∈ ys, alB a = true) →
    st.bad = false ∧ st.out = out ∧ p ≤ st.p ∧ st.p ≤ s.size ∧ (∀ a ∈ xs, a ∈ ys) ∧ (JA ys).size + 1 + p ≤ (preA xs).size + st.p ∧
      ((pairsI s n xs p = some (ys, st.p) ∧ JA ys ++ tClose = preA xs ++ s.extract p st.p) ∨ (pairsI s n xs p = none ∧ (JA ys).size + 1 + p < (preA xs).size + st.p))
  | 0, xs, ys, p, out, st, _, h, _ => by simp [pairsP] at h
  | n + 1, xs, ys, p, out, st, hp, h, hy => by
    rw [pairsP_step] at h
    obtain ⟨q1, q2⟩ := prQ_le s p hp
    have ec : tComma.size = 1 := rfl
    have el : tClose.size = 1 := rfl
    by_cases hc : litAt s tClose (prQ s p) = true
    · rw [if_pos hc] at h
      injection h with h1 h2
      injection h1 with h1
      subst h1; subst h2
      have hle := litAt_le hc
      obtain ⟨t1, t2⟩ := pair_two hp (hy (prY s p) (by simp))
      refine ⟨rfl, rfl, by show p ≤ prQ s p + 1; omega, by show prQ s p + 1 ≤ _; omega, fun a ha => by simp [ha], ?_, ?_⟩
      · rw [JA_snoc, ByteArray.size_append]; show _ ≤ _ + (prQ s p + 1); omega
      · unfold pairsI
        rcases t2 with ⟨e1, e2⟩ | ⟨e1, e2⟩
        · rw [e1]
          simp only
          rw [if_neg (by rw [close_no_comma hc]; decide), if_pos hc]
          refine .inl ⟨rfl, ?_⟩
          have hl := lit_is hc
          rw [el] at hl
          rw [JA_snoc, e2, ByteArray.append_assoc, ← hl]
          show _ ++ (s.extract p (prQ s p) ++ s.extract (prQ s p) (prQ s p + 1)) = _ ++ s.extract p (prQ s p + 1)
          rw [ex_app s q1 (by omega)]
        · rw [e1]
          refine .inr ⟨rfl, ?_⟩
          rw [JA_snoc, ByteArray.size_append]; show _ < _ + (prQ s p + 1); omega
    · rw [if_neg hc] at h
      by_cases hm : litAt s tComma (prQ s p) = true
      · rw [if_pos hm] at h
        have hle := litAt_le hm
        obtain ⟨i1, i2, i3, i4, i5, i6, i7⟩ := pairs_two s n (xs ++ [prY s p]) ys (prQ s p + 1) out st (by omega) h hy
        obtain ⟨t1, t2⟩ := pair_two hp (hy (prY s p) (i5 _ (by simp)))
        have hsz : (preA (xs ++ [prY s p])).size = (preA xs).size + (alText (prY s p)).size + 1 := by rw [preA_snoc, ByteArray.size_append, ByteArray.size_append, ec]
        refine ⟨i1, i2, by omega, i4, fun a ha => i5 a (by simp [ha]), by omega, ?_⟩
        unfold pairsI
        rcases t2 with ⟨e1, e2⟩ | ⟨e1, e2⟩
        · rw [e1]
          simp only
          rw [if_pos hm]
          rcases i7 with ⟨k1, k2⟩ | ⟨k1, k2⟩
          · rw [k1]
            refine .inl ⟨rfl, ?_⟩
            have hl := lit_is hm
            rw [ec] at hl
            rw [k2, preA_snoc, e2, ← hl, ByteArray.append_assoc, ByteArray.append_assoc, ex_app s (by omega) (by omega), ex_app s (by omega) (by omega)]
          · rw [k1]
            exact .inr ⟨rfl, by omega⟩
        · rw [e1]
          exact .inr ⟨rfl, by omega⟩
      · rw [if_neg hm] at h
        injection h with h1 _
        cases h1
/-- with steps enough the document's reader gives no pairs only where it has given up -/
theorem pairs_none (s : ByteArray) : ∀ (n : Nat) (xs : List Al) (p : Nat) (out : List Ex) (st : RS), p ≤ s.size → s.size - p < n → pairsP s n xs ⟨p, false, out⟩ = (none, st) → st.bad = true
  | 0, _, _, _, _, _, h, _ => by omega
  | n + 1, xs, p, out, st, hp, hn, h => by
    rw [pairsP_step] at h
    obtain ⟨q1, q2⟩ := prQ_le s p hp
    split at h
    · injection h with h1 _; cases h1
    split at h
    · rename_i hm
      have hle := litAt_le hm
      have ec : tComma.size = 1 := rfl
      exact pairs_none s n _ _ _ _ (by omega) (by omega) h
    · injection h with _ h2; rw [← h2]
/-- what the program's reader has read as pairs, the document's has, too -/
theorem pairs_one (s : ByteArray) : ∀ (n : Nat) (xs ys : List Al) (p q : Nat) (out : List Ex), p ≤ s.size → pairsI s n xs p = some (ys, q) → pairsP s n xs ⟨p, false, out⟩ = (some ys, ⟨q, false, out⟩) ∧ q ≤ s.size ∧ p ≤ q
  | 0, _, _, _, _, _, _, h => by simp [pairsI] at h
  | n + 1, xs, ys, p, q, out, hp, h => by
    unfold pairsI at h
    rw [pairsP_step]
    obtain ⟨q1, q2⟩ := prQ_le s p hp
    cases e : pairI s p with
    | none => rw [e] at h; cases h
    | some yq =>
      obtain ⟨y, r⟩ := yq
      rw [e] at h
      obtain ⟨rfl, rfl, -⟩ := pairI_is e
      simp only at h
      by_cases hm : litAt s tComma (prQ s p) = true
      · rw [if_pos hm] at h
        have hle := litAt_le hm
        have ec : tComma.size = 1 := rfl
        rw [if_neg (by rw [comma_no_close hm]; decide), if_pos hm]
        obtain ⟨k1, k2, k3⟩ := pairs_one s n _ _ _ _ out (by omega) h
        exact ⟨k1, k2, by omega⟩
      · rw [if_neg hm] at h
        by_cases hc : litAt s tClose (prQ s p) = true
        · rw [if_pos hc] at h
          injection h with h; injection h with h1 h2
          subst h1 h2
          have hle := litAt_le hc
          have ec : tClose.size = 1 := rfl
          rw [if_pos hc]
          exact ⟨rfl, by omega, by omega⟩
        · rw [if_neg hc] at h; cases h
end Go.Proofs.Ytjmbgpdbnffkpaa

/- Both readers of expressions: where the document's reader has read right nodes, the program's has read the same, and their text is what was read; or it has given up, and their text is shorter. -/
namespace Go.Proofs.Ytjmbgpdbnffkpaa
open Pl

theorem exAt_app {es new : List Ex} {n : Nat} (h : n < es.length) : exAt (es ++ new) n = exAt es n := by
  unfold exAt; rw [List.getElem?_append_left h]
theorem txt_app (es new : List Ex) : ∀ (n : Nat), n < es.length → txt (es ++ new) n = txt es n := by
  intro n
  induction n using Nat.strongRecOn with
  | ind n ih =>
    intro h
    rw [txt, txt, exAt_app h]
    congr 2
    funext x
    by_cases hx : x.toNat < n
    · rw [dif_pos hx, dif_pos hx, ih _ hx (by omega)]
    · rw [dif_neg hx, dif_neg hx]
theorem exAt_last (es : List Ex) (x : Ex) : exAt (es ++ [x]) es.length = x := by simp [exAt]
theorem inT_leaf {e : Ex} (h : e.kind = 1 ∨ e.kind = 2 ∨ e.kind = 3) (b : Bool) (t : ByteArray) : inT e b t = t := by
  unfold inT
  rcases h with h | h | h <;> simp [h]
theorem inT_op {e : Ex} (h : 4 ≤ e.kind) (t : ByteArray) : inT e true t = ⟨#[40]⟩ ++ t ++ ⟨#[41]⟩ := by
  unfold inT
  have h1 : e.kind ≠ 1 := by omega
  have h2 : e.kind ≠ 2 := by omega
  have h3 : e.kind ≠ 3 := by omega
  simp [h1, h2, h3]
theorem inT_out (e : Ex) (t : ByteArray) : inT e false t = t := by simp [inT]
theorem txt_op {es : List Ex} {n : Nat} (h : 4 ≤ (exAt es n).kind) : txt es n = ⟨#[40]⟩ ++ txtAt es n false ++ ⟨#[41]⟩ := by
  rw [txt_eq, txtAt, txtAt, inT_op h, inT_out]
theorem txt_leaf {es : List Ex} {x : Ex} (h : x.kind = 1 ∨ x.kind = 2 ∨ x.kind = 3) (b : Bool) : txtAt (es ++ [x]) es.length b = nodeT (fun _ => ⟨#[]⟩) x := by
  rw [txtAt, exAt_last, inT_leaf h]
  unfold nodeT
  rcases h with h | h | h <;> simp [h]

/-- the name that stands at a place, by the document's reader -/
def nmX (s : ByteArray) (p : Nat) : Ex := if litAt s tArrow (p + wordN s p) then ⟨3, [], wordP s p, wordP s (p + wordN s p + 2), []⟩ else ⟨2, [], ⟨#[]⟩, wordP s p, []⟩
def nmQ (s : ByteArray) (p : Nat) : Nat := if litAt s tArrow (p + wordN s p) then p + wordN s p + 2 + wordN s (p + wordN s p + 2) else p + wordN s p
theorem nm_spec (s : ByteArray) (p : Nat) (out : List Ex) : nameP s ⟨p, false, out⟩ = nmX s p ∧ behindName s ⟨p, false, out⟩ = ⟨nmQ s p, false, out⟩ := by
  unfold nameP behindName pairAt nmX nmQ
  simp only [isP_ok]
  by_cases h : litAt s tArrow (p + wordN s p) = true
  · simp [h]
  · simp [h]
theorem nmQ_le (s : ByteArray) (p : Nat) (hp : p ≤ s.size) : p ≤ nmQ s p ∧ nmQ s p ≤ s.size := by
  have h1 := wordN_le s p hp
  unfold nmQ
  split
  · rename_i h
    have h2 := litAt_le h
    have e : tArrow.size = 2 := rfl
    have h3 := wordN_le s (p + wordN s p + 2) (by omega)
    omega
  · omega
theorem name_two {s : ByteArray} {p : Nat} (hp : p ≤ s.size) (hx : nodeB (nmX s p) = true) : nameI s p = some (nmX s p, nmQ s p) ∧ nodeT (fun _ => ⟨#[]⟩) (nmX s p) = s.extract p (nmQ s p) ∧ ((nmX s p).kind = 1 ∨ (nmX s p).kind = 2 ∨ (nmX s p).kind = 3) := by
  have h1 := wordN_le s p hp
  unfold nameI
  unfold nmX nmQ at *
  by_cases h : litAt s tArrow (p + wordN s p) = true
  · simp only [if_pos h] at hx ⊢
    have h2 := litAt_le h
    have e : tArrow.size = 2 := rfl
    have h3 := wordN_le s (p + wordN s p + 2) (by omega)
    have hl := lit_is h
    rw [e] at hl
    have hn : nameB (wordP s p) = true ∧ nameB (wordP s (p + wordN s p + 2)) = true := by
      simp [nodeB] at hx
      exact hx
    rw [if_pos hn.1, if_pos hn.2]
    refine ⟨rfl, ?_, by simp⟩
    have : nodeT (fun _ => ⟨#[]⟩) ⟨3, [], wordP s p, wordP s (p + wordN s p + 2), []⟩ = wordP s p ++ ⟨#[45, 62]⟩ ++ wordP s (p + wordN s p + 2) := by simp [nodeT]
    rw [this]
    have e2 : (⟨#[45, 62]⟩ : ByteArray) = s.extract (p + wordN s p) (p + wordN s p + 2) := hl.symm
    rw [e2]
    unfold wordP
    rw [ex_app s (by omega) (by omega), ex_app s (by omega) (by omega)]
  · simp only [if_neg h] at hx ⊢
    have hn : nameB (wordP s p) = true := by
      simp [nodeB] at hx
      exact hx
    rw [if_pos hn]
    refine ⟨rfl, ?_, by simp⟩
    simp [nodeT]
    rfl
theorem nameI_is {s : ByteArray} {p : Nat} {x : Ex} {q : Nat} (h : nameI s p = some (x, q)) : x = nmX s p ∧ q = nmQ s p ∧ nodeB (nmX s p) = true := by
  unfold nameI at h
  unfold nmX nmQ
  split at h
  · rename_i h1
    split at h
    · rename_i h2
      rw [if_pos h2, if_pos h2]
      split at h
      · rename_i h3
        injection h with h; injection h with e1 e2
        exact ⟨e1.symm, e2.symm, by simp [nodeB, h1, h3]⟩
      · cases h
    · rename_i h2
      rw [if_neg h2, if_neg h2]
      injection h with h; injection h with e1 e2
      exact ⟨e1.symm, e2.symm, by simp [nodeB, h1]⟩
  · cases h

/-- the document's reader goes on, and keeps what it has -/
def Up (s : ByteArray) (st st' : RS) : Prop := st.p ≤ st'.p ∧ st'.p ≤ s.size ∧ (∃ new, st'.out = st.out ++ new) ∧ (st.bad = true → st'.bad = true)
theorem Up.refl {s : ByteArray} {st : RS} (h : st.p ≤ s.size) : Up s st st := ⟨Nat.le_refl _, h, ⟨[], by simp⟩, fun h => h⟩
theorem Up.trans {s : ByteArray} {a b c : RS} (h : Up s a b) (k : Up s b c) : Up s a c := by
  obtain ⟨n1, e1⟩ := h.2.2.1
  obtain ⟨n2, e2⟩ := k.2.2.1
  exact ⟨Nat.le_trans h.1 k.1, k.2.1, ⟨n1 ++ n2, by rw [e2, e1, List.append_assoc]⟩, fun hb => k.2.2.2 (h.2.2.2 hb)⟩
theorem up_on {s w : ByteArray} {st : RS} (h : isP s w st = true) : Up s st (onP w st) := ⟨by show st.p ≤ st.p + _; omega, isP_le h, ⟨[], by simp [onP]⟩, fun h => h⟩
theorem up_end {s : ByteArray} {st : RS} (h : st.p ≤ s.size) : Up s st (endP st) := ⟨Nat.le_refl _, h, ⟨[], by simp [endP]⟩, fun _ => rfl⟩
theorem up_add {s : ByteArray} {st : RS} (h : st.p ≤ s.size) (x : Ex) : Up s st (addP x st) := ⟨Nat.le_refl _, h, ⟨[x], rfl⟩, fun hb => by simp [addP, hb]⟩
theorem up_pair {s : ByteArray} {st : RS} (h : st.p ≤ s.size) : Up s st (behindSet s (pairAt s st)) := by
  have h1 := wordN_le s st.p h
  unfold behindSet
  split
  · rename_i h2
    have h3 := isP_le h2
    have e : tHash.size = 1 := rfl
    have h4 : (pairAt s st).p = st.p + wordN s st.p := rfl
    have h5 := wordN_le s ((pairAt s st).p + 1) (by omega)
    exact ⟨by show st.p ≤ (pairAt s st).p + 1 + _; omega, h5, ⟨[], by simp [pairAt]⟩, fun h => h⟩
  · exact ⟨by show st.p ≤ st.p + _; omega, h1, ⟨[], by simp [pairAt]⟩, fun h => h⟩
theorem up_pairs {s : ByteArray} : ∀ (n : Nat) (xs : List Al) (st : RS), st.p ≤ s.size → Up s st (pairsP s n xs st).2
  | 0, _, st, h => Up.refl h
  | n + 1, xs, st, h => by
    have u := up_pair (s := s) h
    rw [pairsP]
    split
    · exact Up.refl h
    split
    · rename_i h2; exact u.trans (up_on h2)
    split
    · rename_i h2; exact (u.trans (up_on h2)).trans (up_pairs n _ _ (up_on h2).2.1)
    · exact (u.trans (up_end u.2.1)).trans (up_pairs n _ _ (up_end u.2.1).2.1)
theorem up_name {s : ByteArray} {st : RS} (h : st.p ≤ s.size) : Up s st (behindName s st) := by
  have h1 := wordN_le s st.p h
  unfold behindName
  split
  · rename_i h2
    have h3 := isP_le h2
    have e : tArrow.size = 2 := rfl
    have h4 : (pairAt s st).p = st.p + wordN s st.p := rfl
    have h5 := wordN_le s (st.p + wordN s st.p + 2) (by omega)
    exact ⟨by show st.p ≤ st.p + wordN s st.p + 2 + _; omega, h5, ⟨[], by simp⟩, fun h => h⟩
  · exact ⟨by show st.p ≤ st.p + _; omega, h1, ⟨[], by simp [pairAt]⟩, fun h => h⟩
theorem up_kids {s : ByteArray} {it : RS → Int × RS} {k : Int} (hit : ∀ st, st.p ≤ s.size → Up s st (it st).2) : ∀ (n : Nat) (zs : List Int) (st : RS), st.p ≤ s.size → Up s st (kidsP s it k n zs st).2
  | 0, _, st, h => Up.refl h
  | n + 1, zs, st, h => by
    rw [kidsP]
    split
    · rename_i h2
      have u := (up_on h2).trans (hit _ (up_on h2).2.1)
      exact u.trans (up_kids hit n _ _ u.2.1)
    · exact Up.refl h
theorem up_rd {s : ByteArray} : ∀ (n : Nat) (b : Bool) (st : RS), st.p ≤ s.size → Up s st (rdP s n b st).2
  | 0, _, st, h => Up.refl h
  | n + 1, false, st, h => by
    rw [rdP]
    split
    · rename_i h2
      have u := (up_on h2).trans (up_pairs (s.size + 1) [] _ (up_on h2).2.1)
      split
      · rename_i xs st' e
        rw [e] at u
        exact u.trans (up_add u.2.1 _)
      · rename_i st' e
        rw [e] at u
        exact u
    split
    · rename_i h2
      have u := (up_on h2).trans (up_rd n true _ (up_on h2).2.1)
      dsimp only
      split
      · rename_i h3; exact u.trans (up_on h3)
      · exact u.trans (up_end u.2.1)
    · have u := up_name (s := s) h
      have u2 : Up s st (judged (nameP s st) (behindName s st)) := by
        unfold judged
        split
        · exact u
        · exact u.trans (up_end u.2.1)
      exact u2.trans (up_add u2.2.1 _)
  | n + 1, true, st, h => by
    have u := up_rd n false st h
    rw [rdP]
    dsimp only
    split
    · exact u
    · have u2 := u.trans (up_kids (k := signAt s (rdP s n false st).2.p) (fun st h => up_rd n false st h) (s.size + 1) [(rdP s n false st).1] _ u.2.1)
      exact u2.trans (up_add u2.2.1 _)
end Go.Proofs.Ytjmbgpdbnffkpaa

/- Both readers of expressions take the same texts for the same expressions. -/
namespace Go.Proofs.Ytjmbgpdbnffkpaa
open Pl

def TK (k : Int) (zs : List Int) (out : List Ex) : ByteArray := joinB (tSign k) (zs.map fun z => txt out z.toNat)
theorem TK_app {k : Int} {zs : List Int} {out new : List Ex} (h : ∀ z ∈ zs, z.toNat < out.length) : TK k zs (out ++ new) = TK k zs out := by
  unfold TK
  congr 1
  apply List.map_congr_left
  intro z hz
  exact txt_app _ _ _ (h z hz)
theorem TK_snoc {k : Int} {zs : List Int} {z : Int} {out : List Ex} (h : zs ≠ []) : TK k (zs ++ [z]) out = TK k zs out ++ tSign k ++ txt out z.toNat := by
  unfold TK
  rw [List.map_append, List.map_cons, List.map_nil, joinB_snoc, if_neg (by simpa using h)]
theorem TK_one (k z : Int) (out : List Ex) : TK k [z] out = txt out z.toNat := by
  have := joinB_snoc (tSign k) [] (txt out z.toNat)
  rw [if_pos rfl] at this
  exact this
theorem kidsP_bd (s : ByteArray) (it : RS → Int × RS) (k : Int) (n : Nat) (zs : List Int) (p : Nat) (out : List Ex) : kidsP s it k n zs ⟨p, true, out⟩ = (zs, ⟨p, true, out⟩) := by
  cases n with
  | zero => rfl
  | succ n => rw [kidsP, isP_bad]; rfl
/-- what reading one side has come to -/
structure SideG (s : ByteArray) (n p : Nat) (out : List Ex) (x : Int) (st : RS) : Prop where
  le1 : p ≤ st.p
  le2 : st.p ≤ s.size
  grow : ∃ new, st.out = out ++ new ∧ new ≠ []
  place : x = (st.out.length : Int) - 1
  size : (txt st.out (st.out.length - 1)).size + p ≤ st.p
  two : (rdI s n false ⟨p, out⟩ = some (x, ⟨st.p, st.out⟩) ∧ txt st.out (st.out.length - 1) = s.extract p st.p ∧ ((((exAt st.out (st.out.length - 1)).kind = 1 ∨ (exAt st.out (st.out.length - 1)).kind = 2 ∨ (exAt st.out (st.out.length - 1)).kind = 3) ∧ st.out.length = out.length + 1) ∨ (4 ≤ (exAt st.out (st.out.length - 1)).kind ∧ out.length + 2 ≤ st.out.length))) ∨ (rdI s n false ⟨p, out⟩ = none ∧ (txt st.out (st.out.length - 1)).size + p < st.p)
def SideOk (s : ByteArray) (n : Nat) : Prop := ∀ (p : Nat) (out : List Ex) (x : Int) (st : RS), p ≤ s.size → 2 * (s.size - p) < n → rdP s n false ⟨p, false, out⟩ = (x, st) → st.bad = false → (∀ e ∈ st.out, nodeB e = true) → SideG s n p out x st
/-- what reading sides has come to -/
structure SidesG (s : ByteArray) (n p : Nat) (out : List Ex) (x : Int) (st : RS) : Prop where
  le1 : p ≤ st.p
  le2 : st.p ≤ s.size
  grow : ∃ new, st.out = out ++ new ∧ new ≠ []
  place : x = (st.out.length : Int) - 1
  size : (txt st.out (st.out.length - 1)).size + p ≤ st.p ∨ (4 ≤ (exAt st.out (st.out.length - 1)).kind ∧ (txtAt st.out (st.out.length - 1) false).size + p ≤ st.p)
  two : (∃ c, rdI s n true ⟨p, out⟩ = some (c, ⟨st.p, st.out⟩) ∧ ((c = 1 ∧ txt st.out (st.out.length - 1) = s.extract p st.p ∧ ((((exAt st.out (st.out.length - 1)).kind = 1 ∨ (exAt st.out (st.out.length - 1)).kind = 2 ∨ (exAt st.out (st.out.length - 1)).kind = 3) ∧ st.out.length = out.length + 1) ∨ (4 ≤ (exAt st.out (st.out.length - 1)).kind ∧ out.length + 2 ≤ st.out.length))) ∨ (1 < c ∧ 4 ≤ (exAt st.out (st.out.length - 1)).kind ∧ out.length + 2 ≤ st.out.length ∧ txtAt st.out (st.out.length - 1) false = s.extract p st.p))) ∨ (rdI s n true ⟨p, out⟩ = none ∧ ((txt st.out (st.out.length - 1)).size + p < st.p ∨ (4 ≤ (exAt st.out (st.out.length - 1)).kind ∧ (txtAt st.out (st.out.length - 1) false).size + p < st.p)))
def SidesOk (s : ByteArray) (n : Nat) : Prop := ∀ (p : Nat) (out : List Ex) (x : Int) (st : RS), p ≤ s.size → 2 * (s.size - p) + 1 < n → rdP s n true ⟨p, false, out⟩ = (x, st) → st.bad = false → (∀ e ∈ st.out, nodeB e = true) → SidesG s n p out x st
theorem kids_two {s : ByteArray} {n : Nat} {k : Int} (hS : SideOk s n) : ∀ (m : Nat) (zs zs' : List Int) (p : Nat) (out : List Ex) (st : RS), p ≤ s.size → 2 * (s.size - p) < n → zs ≠ [] → (∀ z ∈ zs, z.toNat < out.length) → kidsP s (rdP s n false) k m zs ⟨p, false, out⟩ = (zs', st) → st.bad = false → (∀ e ∈ st.out, nodeB e = true) →
    p ≤ st.p ∧ st.p ≤ s.size ∧ (∃ new, st.out = out ++ new) ∧ (∀ z ∈ zs', z.toNat < st.out.length) ∧ (TK k zs' st.out).size + p ≤ (TK k zs out).size + st.p ∧
      ((kidsI s (rdI s n false) k m zs ⟨p, out⟩ = some (zs', ⟨st.p, st.out⟩) ∧ TK k zs' st.out = TK k zs out ++ s.extract p st.p) ∨ (kidsI s (rdI s n false) k m zs ⟨p, out⟩ = none ∧ (TK k zs' st.out).size + p < (TK k zs out).size + st.p))
  | 0, zs, zs', p, out, st, hp, _, _, hz, h, _, _ => by
    rw [kidsP] at h
    injection h with h1 h2
    subst h1 h2
    have e0 : s.extract p p = ⟨#[]⟩ := by apply ext_data'; rw [ex_data]; simp
    refine ⟨Nat.le_refl _, hp, ⟨[], by simp⟩, hz, Nat.le_refl _, .inl ⟨rfl, ?_⟩⟩
    show _ = _ ++ s.extract p p
    rw [e0]; apply ext_data'; simp [ByteArray.data_append]
  | m + 1, zs, zs', p, out, st, hp, hn, hne, hz, h, hb, hv => by
    rw [kidsP, isP_ok] at h
    have hs3 := tSign_size k
    by_cases hl : litAt s (tSign k) p = true
    · have hle := litAt_le hl
      rw [if_pos hl] at h
      have eo : onP (tSign k) ⟨p, false, out⟩ = ⟨p + 3, false, out⟩ := by unfold onP; rw [hs3]
      rw [eo] at h
      obtain ⟨x, st1, hr⟩ : ∃ x st1, rdP s n false ⟨p + 3, false, out⟩ = (x, st1) := ⟨_, _, rfl⟩
      rw [hr] at h
      have u1 : Up s ⟨p + 3, false, out⟩ st1 := by have := up_rd (s := s) n false ⟨p + 3, false, out⟩ (by show p + 3 ≤ _; omega); rw [hr] at this; exact this
      obtain ⟨p1, b1, o1⟩ := st1
      cases b1 with
      | true =>
        simp only at h
        rw [kidsP_bd] at h
        injection h with _ h2
        rw [← h2] at hb; cases hb
      | false =>
        simp only at h
        have u2 : Up s ⟨p1, false, o1⟩ st := by have := up_kids (k := k) (fun st h => up_rd (s := s) n false st h) m (zs ++ [x]) ⟨p1, false, o1⟩ u1.2.1; rw [h] at this; exact this
        obtain ⟨n2, e2⟩ := u2.2.2.1
        have hv1 : ∀ e ∈ o1, nodeB e = true := fun e he => hv e (by rw [e2]; exact List.mem_append_left _ he)
        have g := hS (p + 3) out x ⟨p1, false, o1⟩ (by omega) (by omega) hr rfl hv1
        obtain ⟨n1, e1, hn1⟩ := g.grow
        have gl := g.le1
        have gl2 := g.le2
        have gs := g.size
        have gp := g.place
        simp only at e1 gl gl2 gs gp
        have hlen : out.length + 1 ≤ o1.length := by
          rw [e1, List.length_append]
          have : n1.length ≠ 0 := fun h => hn1 (List.length_eq_zero_iff.1 h)
          omega
        have hx : x.toNat = o1.length - 1 := by omega
        have hz1 : ∀ z ∈ zs ++ [x], z.toNat < o1.length := by
          intro z hz'
          rcases List.mem_append.1 hz' with h1 | h1
          · have := hz z h1; omega
          · rw [List.mem_singleton.1 h1]; omega
        obtain ⟨i1, i2, ⟨n3, i3⟩, i4, i5, i6⟩ := kids_two hS m (zs ++ [x]) zs' p1 o1 st gl2 (by omega) (by simp) hz1 h hb hv
        have hT : TK k (zs ++ [x]) o1 = TK k zs out ++ tSign k ++ txt o1 (o1.length - 1) := by
          rw [TK_snoc hne, hx, e1, TK_app hz]
        have hTs : (TK k (zs ++ [x]) o1).size = (TK k zs out).size + 3 + (txt o1 (o1.length - 1)).size := by rw [hT, ByteArray.size_append, ByteArray.size_append, hs3]
        refine ⟨by omega, i2, ⟨n1 ++ n3, by rw [i3, e1, List.append_assoc]⟩, i4, by omega, ?_⟩
        rw [kidsI]
        simp only
        rw [if_pos hl]
        rcases g.two with ⟨t1, t2, -⟩ | ⟨t1, t2⟩
        · rw [t1]
          simp only
          rcases i6 with ⟨j1, j2⟩ | ⟨j1, j2⟩
          · refine .inl ⟨j1, ?_⟩
            have hli := lit_is hl
            rw [hs3] at hli
            simp only at t2
            rw [j2, hT, t2, ← hli, ByteArray.append_assoc, ByteArray.append_assoc, ex_app s (by omega) (by omega), ex_app s (by omega) (by omega)]
          · exact .inr ⟨j1, by omega⟩
        · rw [t1]
          simp only at t2
          exact .inr ⟨rfl, by omega⟩
    · rw [if_neg hl] at h
      injection h with h1 h2
      subst h1 h2
      have e0 : s.extract p p = ⟨#[]⟩ := by apply ext_data'; rw [ex_data]; simp
      refine ⟨Nat.le_refl _, hp, ⟨[], by simp⟩, hz, Nat.le_refl _, .inl ⟨?_, ?_⟩⟩
      · rw [kidsI]; simp only; rw [if_neg hl]
      · show _ = _ ++ s.extract p p
        rw [e0]; apply ext_data'; simp [ByteArray.data_append]
theorem sign_kind {s : ByteArray} {p : Nat} (h : signAt s p ≠ 0) : 4 ≤ signAt s p ∧ signAt s p ≤ 6 ∧ litAt s (tSign (signAt s p)) p = true := by
  unfold signAt at *
  split
  · rename_i h1; exact ⟨by decide, by decide, h1⟩
  · split
    · rename_i h1; exact ⟨by decide, by decide, h1⟩
    · split
      · rename_i h1; exact ⟨by decide, by decide, h1⟩
      · rename_i a b c
        simp [a, b, c] at h
theorem txt_this (es : List Ex) (xs : List Al) : txt (es ++ [⟨1, xs, ⟨#[]⟩, ⟨#[]⟩, []⟩]) es.length = thisText xs := by
  rw [txt_eq, txt_leaf (.inl rfl)]
  rfl
theorem two_all (s : ByteArray) : ∀ n : Nat, SideOk s n ∧ SidesOk s n
  | 0 => ⟨fun p _ _ _ _ h => by omega, fun p _ _ _ _ h => by omega⟩
  | n + 1 => by
    obtain ⟨ih1, ih2⟩ := two_all s n
    refine ⟨fun p out x st hp hn h hb hv => ?_, fun p out x st hp hn h hb hv => ?_⟩
    · -- one side
      rw [rdP, isP_ok, isP_ok] at h
      by_cases hT : litAt s tThis p = true
      · rw [if_pos hT] at h
        have hle := litAt_le hT
        have e5 : tThis.size = 5 := rfl
        have eo : onP tThis ⟨p, false, out⟩ = ⟨p + 5, false, out⟩ := rfl
        rw [eo] at h
        obtain ⟨o, st1, hr⟩ : ∃ o st1, pairsP s (s.size + 1) [] ⟨p + 5, false, out⟩ = (o, st1) := ⟨_, _, rfl⟩
        rw [hr] at h
        cases o with
        | none =>
          have := pairs_none s (s.size + 1) [] (p + 5) out st1 (by omega) (by omega) hr
          simp only at h
          injection h with _ h2
          rw [h2, hb] at this; cases this
        | some ys =>
          simp only at h
          injection h with h1 h2
          have ho : st.out = st1.out ++ [⟨1, ys, ⟨#[]⟩, ⟨#[]⟩, []⟩] := by rw [← h2]; rfl
          have hp' : st.p = st1.p := by rw [← h2]; rfl
          have hnd := hv ⟨1, ys, ⟨#[]⟩, ⟨#[]⟩, []⟩ (by rw [ho]; simp)
          have hal : ∀ a ∈ ys, alB a = true := by
            have h3 : allowB ys = true := by simp [nodeB] at hnd; exact hnd
            unfold allowB at h3
            simp only [Bool.and_eq_true, decide_eq_true_eq] at h3
            intro a ha
            obtain ⟨i, hi, rfl⟩ := List.getElem_of_mem ha
            exact upA_all h3.2 i hi hi
          obtain ⟨-, q2, q3, q4, -, q6, q7⟩ := pairs_two s (s.size + 1) [] ys (p + 5) out st1 (by omega) hr hal
          rw [q2] at ho h1
          have e0 : (preA []).size = 0 := rfl
          have hlast : st.out.length - 1 = out.length := by rw [ho]; simp
          have htx : txt st.out (st.out.length - 1) = thisText ys := by rw [hlast, ho, txt_this]
          have hsz : (thisText ys).size = (JA ys).size + 6 := by
            have : thisText ys = tThis ++ JA ys ++ tClose := rfl
            rw [this, ByteArray.size_append, ByteArray.size_append, e5]
            have : tClose.size = 1 := rfl
            omega
          have hk : (exAt st.out (st.out.length - 1)).kind = 1 := by rw [hlast, ho, exAt_last]
          refine ⟨by omega, by omega, ⟨_, ho, by simp⟩, by rw [← h1, ho]; simp, by rw [htx, hsz]; omega, ?_⟩
          rw [rdI]
          simp only
          rw [if_neg (by rw [this_no_open hT]; decide), if_pos hT]
          rcases q7 with ⟨k1, k2⟩ | ⟨k1, k2⟩
          · rw [k1]
            refine .inl ⟨by rw [← h1, ho, hp'], ?_, .inl ⟨.inl hk, by rw [ho]; simp⟩⟩
            have hli := lit_is hT
            rw [e5] at hli
            have e1 : thisText ys = tThis ++ (JA ys ++ tClose) := by rw [← ByteArray.append_assoc]; rfl
            have e2 : preA [] ++ s.extract (p + 5) st1.p = s.extract (p + 5) st1.p := by apply ext_data'; simp [preA, ByteArray.data_append]
            rw [htx, e1, k2, e2, ← hli, hp', ex_app s (by omega) (by omega)]
          · rw [k1]
            exact .inr ⟨rfl, by rw [htx, hsz]; omega⟩
      · rw [if_neg hT] at h
        by_cases hO : litAt s tOpen p = true
        · rw [if_pos hO] at h
          have hle := litAt_le hO
          have e1 : tOpen.size = 1 := rfl
          have e1c : tClose.size = 1 := rfl
          have eo : onP tOpen ⟨p, false, out⟩ = ⟨p + 1, false, out⟩ := rfl
          rw [eo] at h
          obtain ⟨x1, st1, hr⟩ : ∃ x1 st1, rdP s n true ⟨p + 1, false, out⟩ = (x1, st1) := ⟨_, _, rfl⟩
          rw [hr] at h
          obtain ⟨p1, b1, o1⟩ := st1
          cases b1 with
          | true =>
            simp only [isP_bad, Bool.false_eq_true, if_false] at h
            injection h with _ h2
            rw [← h2] at hb; cases hb
          | false =>
            simp only [isP_ok] at h
            by_cases hC : litAt s tClose p1 = true
            · rw [if_pos hC] at h
              injection h with h1 h2
              have ho : st.out = o1 := by rw [← h2]; rfl
              have hp' : st.p = p1 + 1 := by rw [← h2]; rfl
              have g := ih2 (p + 1) out x1 ⟨p1, false, o1⟩ (by omega) (by omega) hr rfl (fun e he => hv e (by rw [ho]; exact he))
              have hcl := litAt_le hC
              obtain ⟨g1, g2, g3, g4, g5, g6⟩ := g
              simp only at g1 g2 g3 g4 g5 g6
              have hop : ∀ (hk : 4 ≤ (exAt o1 (o1.length - 1)).kind), (txt o1 (o1.length - 1)).size = (txtAt o1 (o1.length - 1) false).size + 2 := fun hk => by
                rw [txt_op hk, ByteArray.size_append, ByteArray.size_append]
                have a1 : (⟨#[40]⟩ : ByteArray).size = 1 := rfl
                have a2 : (⟨#[41]⟩ : ByteArray).size = 1 := rfl
                omega
              rw [← h1]
              refine ⟨by omega, by omega, by rw [ho]; exact g3, by rw [ho]; exact g4, ?_, ?_⟩
              · rw [ho, hp']
                rcases g5 with h5 | ⟨k5, h5⟩
                · omega
                · have := hop k5; omega
              · rw [rdI]
                simp only
                rw [if_pos hO, ho, hp']
                rcases g6 with ⟨c, c1, c2⟩ | ⟨c1, c2⟩
                · rw [c1]
                  simp only
                  rcases c2 with ⟨rfl, t2, -⟩ | ⟨t1, t2, t3, t4⟩
                  · right
                    rw [if_neg (by decide)]
                    refine ⟨rfl, ?_⟩
                    rw [t2, ex_size s (by omega) (by omega)]; omega
                  · left
                    rw [if_pos t1, if_pos hC]
                    refine ⟨by rw [g4], ?_, .inr ⟨t2, t3⟩⟩
                    have hl1 := lit_is hO
                    have hl2 := lit_is hC
                    rw [e1] at hl1
                    rw [e1c] at hl2
                    have a1 : (⟨#[40]⟩ : ByteArray) = s.extract p (p + 1) := hl1.symm
                    have a2 : (⟨#[41]⟩ : ByteArray) = s.extract p1 (p1 + 1) := hl2.symm
                    rw [txt_op t2, t4, a1, a2, ex_app s (by omega) (by omega), ex_app s (by omega) (by omega)]
                · rw [c1]
                  right
                  refine ⟨rfl, ?_⟩
                  rcases c2 with c2 | ⟨k2, c2⟩
                  · omega
                  · have := hop k2; omega
            · rw [if_neg hC] at h
              injection h with _ h2
              rw [← h2] at hb; cases hb
        · rw [if_neg hO] at h
          injection h with h1 h2
          obtain ⟨e1, e2⟩ := nm_spec s p out
          rw [e1, e2] at h2
          obtain ⟨q1, q2⟩ := nmQ_le s p hp
          cases hnb : nodeB (nmX s p) with
          | false =>
            rw [judged, hnb] at h2
            rw [← h2] at hb
            simp [addP, endP] at hb
          | true =>
            rw [judged, hnb] at h2
            simp only [if_true] at h2
            have ho : st.out = out ++ [nmX s p] := by rw [← h2]; rfl
            have hp' : st.p = nmQ s p := by rw [← h2]; rfl
            obtain ⟨t1, t2, t3⟩ := name_two hp hnb
            have hlast : st.out.length - 1 = out.length := by rw [ho]; simp
            have htx : txt st.out (st.out.length - 1) = s.extract p st.p := by rw [hlast, ho, txt_eq, txt_leaf t3, t2, hp']
            have hk : exAt st.out (st.out.length - 1) = nmX s p := by rw [hlast, ho, exAt_last]
            refine ⟨by omega, by omega, ⟨_, ho, by simp⟩, by rw [← h1, ho]; simp, by rw [htx, ex_size s (by omega) (by omega)]; omega, .inl ⟨?_, htx, .inl ⟨by rw [hk]; exact t3, by rw [ho]; simp⟩⟩⟩
            rw [rdI]
            simp only
            rw [if_neg hO, if_neg hT, t1]
            simp only
            rw [← h1, ho, hp']
    · -- sides
      rw [rdP] at h
      obtain ⟨x1, st1, hr⟩ : ∃ x1 st1, rdP s n false ⟨p, false, out⟩ = (x1, st1) := ⟨_, _, rfl⟩
      rw [hr] at h
      simp only at h
      have u1 : Up s ⟨p, false, out⟩ st1 := by have := up_rd (s := s) n false ⟨p, false, out⟩ hp; rw [hr] at this; exact this
      by_cases hs : signAt s st1.p = 0 ∨ st1.bad = true
      · rw [if_pos hs] at h
        injection h with h1 h2
        subst h1 h2
        obtain ⟨g1, g2, g3, g4, g5, g6⟩ := ih1 p out x1 st1 hp (by omega) hr hb hv
        have hs0 : signAt s st1.p = 0 := by
          rcases hs with h | h
          · exact h
          · rw [hb] at h; cases h
        refine ⟨g1, g2, g3, g4, .inl g5, ?_⟩
        rw [rdI]
        rcases g6 with ⟨t1, t2, t3⟩ | ⟨t1, t2⟩
        · rw [t1]
          simp only
          rw [if_pos hs0]
          exact .inl ⟨1, rfl, .inl ⟨rfl, t2, t3⟩⟩
        · rw [t1]
          exact .inr ⟨rfl, .inl t2⟩
      · rw [if_neg hs] at h
        have hs0 : signAt s st1.p ≠ 0 := fun e => hs (.inl e)
        have hb1 : st1.bad = false := by
          cases e : st1.bad with
          | false => rfl
          | true => exact absurd (.inr e) hs
        obtain ⟨k4, k6, hlit⟩ := sign_kind hs0
        obtain ⟨p1, b1, o1⟩ := st1
        simp only at hb1
        subst hb1
        simp only at h k4 k6 hlit hs0
        obtain ⟨zs, st2, hr2⟩ : ∃ zs st2, kidsP s (rdP s n false) (signAt s p1) (s.size + 1) [x1] ⟨p1, false, o1⟩ = (zs, st2) := ⟨_, _, rfl⟩
        rw [hr2] at h
        simp only at h
        injection h with h1 h2
        have ho : st.out = st2.out ++ [⟨signAt s p1, [], ⟨#[]⟩, ⟨#[]⟩, zs⟩] := by rw [← h2]; rfl
        have hp' : st.p = st2.p := by rw [← h2]; rfl
        have hb2 : st2.bad = false := by
          cases e : st2.bad with
          | false => rfl
          | true => rw [← h2] at hb; simp [addP, e] at hb
        have u2 : Up s ⟨p1, false, o1⟩ st2 := by have := up_kids (k := signAt s p1) (fun st h => up_rd (s := s) n false st h) (s.size + 1) [x1] ⟨p1, false, o1⟩ u1.2.1; rw [hr2] at this; exact this
        obtain ⟨n2, e2⟩ := u2.2.2.1
        simp only at e2
        have hv2 : ∀ e ∈ st2.out, nodeB e = true := fun e he => hv e (by rw [ho]; exact List.mem_append_left _ he)
        have hv1 : ∀ e ∈ o1, nodeB e = true := fun e he => hv2 e (by rw [e2]; exact List.mem_append_left _ he)
        have hnd := hv ⟨signAt s p1, [], ⟨#[]⟩, ⟨#[]⟩, zs⟩ (by rw [ho]; simp)
        have hzl : 2 ≤ zs.length := by
          unfold nodeB at hnd
          simp only at hnd
          rw [if_neg (by omega), if_neg (by omega), if_neg (by omega)] at hnd
          split at hnd
          · simp only [Bool.and_eq_true, decide_eq_true_eq] at hnd; exact hnd.1.1.1.1
          split at hnd
          · simp only [Bool.and_eq_true, decide_eq_true_eq] at hnd; omega
          · cases hnd
        obtain ⟨g1, g2, ⟨n1, g3, gn⟩, g4, g5, g6⟩ := ih1 p out x1 ⟨p1, false, o1⟩ hp (by omega) hr rfl hv1
        simp only at g1 g2 g3 g4 g5 g6
        have hlen : out.length + 1 ≤ o1.length := by
          rw [g3, List.length_append]
          have : n1.length ≠ 0 := fun h => gn (List.length_eq_zero_iff.1 h)
          omega
        have hx : x1.toNat = o1.length - 1 := by omega
        obtain ⟨i1, i2, ⟨n3, i3⟩, i4, i5, i6⟩ := kids_two (k := signAt s p1) ih1 (s.size + 1) [x1] zs p1 o1 st2 g2 (by omega) (by simp) (fun z hz => by rw [List.mem_singleton.1 hz]; omega) hr2 hb2 hv2
        rw [TK_one, hx] at i5 i6
        have hlast : st.out.length - 1 = st2.out.length := by rw [ho]; simp
        have hk : exAt st.out (st.out.length - 1) = ⟨signAt s p1, [], ⟨#[]⟩, ⟨#[]⟩, zs⟩ := by rw [hlast, ho, exAt_last]
        have hk4 : 4 ≤ (exAt st.out (st.out.length - 1)).kind := by rw [hk]; exact k4
        have htx : txtAt st.out (st.out.length - 1) false = TK (signAt s p1) zs st2.out := by
          rw [txtAt, hk, inT_out]
          unfold nodeT
          simp only
          rw [if_neg (by omega), if_neg (by omega), if_neg (by omega)]
          unfold TK
          show joinB (signB _) _ = joinB (tSign _) _
          have : tSign (signAt s p1) = signB (signAt s p1) := rfl
          rw [this]
          congr 1
          apply List.map_congr_left
          intro z hz
          have := i4 z hz
          unfold txtF
          rw [hlast, if_pos this, ho, txt_app _ _ _ this]
        have hol : out.length + 2 ≤ st.out.length := by
          rw [ho, List.length_append, List.length_singleton, i3, List.length_append]; omega
        have hg : ∃ new, st.out = out ++ new ∧ new ≠ [] := ⟨n1 ++ n3 ++ [⟨signAt s p1, [], ⟨#[]⟩, ⟨#[]⟩, zs⟩], by rw [ho, i3, g3]; simp, by simp⟩
        refine ⟨by omega, by omega, hg, by rw [← h1, ho]; simp, .inr ⟨hk4, by rw [htx, hp']; omega⟩, ?_⟩
        rw [rdI]
        rcases g6 with ⟨t1, t2, -⟩ | ⟨t1, t2⟩
        · rw [t1]
          simp only
          rw [if_neg hs0]
          rcases i6 with ⟨j1, j2⟩ | ⟨j1, j2⟩
          · rw [j1]
            simp only
            refine .inl ⟨(zs.length : Int), by rw [ho, hp'], .inr ⟨by omega, hk4, hol, ?_⟩⟩
            rw [htx, j2, t2, hp', ex_app s (by omega) (by omega)]
          · rw [j1]
            exact .inr ⟨rfl, .inr ⟨hk4, by rw [htx, hp']; omega⟩⟩
        · rw [t1]
          exact .inr ⟨rfl, .inr ⟨hk4, by rw [htx, hp']; omega⟩⟩
end Go.Proofs.Ytjmbgpdbnffkpaa

/- The program's reader goes on, and makes no more nodes than it reads bytes; both readers take the same texts. -/
namespace Go.Proofs.Ytjmbgpdbnffkpaa
open Pl

theorem nameB_one {t : ByteArray} (h : nameB t = true) : 1 ≤ t.size := by
  simp only [nameB, signsB, lenB, Bool.and_eq_true, decide_eq_true_eq] at h
  exact h.1.1.1
theorem few_pairs (s : ByteArray) : ∀ (n : Nat) (xs ys : List Al) (p q : Nat), p ≤ s.size → pairsI s n xs p = some (ys, q) → p ≤ q ∧ q ≤ s.size := fun n xs ys p q hp h => by
  obtain ⟨-, h1, h2⟩ := pairs_one s n xs ys p q [] hp h
  exact ⟨h2, h1⟩
theorem few_name {s : ByteArray} {p : Nat} {x : Ex} {q : Nat} (hp : p ≤ s.size) (h : nameI s p = some (x, q)) : p + 1 ≤ q ∧ q ≤ s.size := by
  obtain ⟨-, rfl, -⟩ := nameI_is h
  obtain ⟨h1, h2⟩ := nmQ_le s p hp
  have hw := wordP_size s p hp
  have hn : nameB (wordP s p) = true := by
    unfold nameI at h
    split at h
    · assumption
    · cases h
  have := nameB_one hn
  refine ⟨?_, h2⟩
  unfold nmQ
  split <;> omega
theorem few_kids {s : ByteArray} {it : IS → Option (Int × IS)} {k : Int} (hit : ∀ st x st', st.p ≤ s.size → it st = some (x, st') → st.p ≤ st'.p ∧ st'.p ≤ s.size ∧ st'.out.length + st.p ≤ st.out.length + st'.p) : ∀ (n : Nat) (zs zs' : List Int) (st st' : IS), st.p ≤ s.size → kidsI s it k n zs st = some (zs', st') → st.p ≤ st'.p ∧ st'.p ≤ s.size ∧ st'.out.length + st.p ≤ st.out.length + st'.p ∧ (0 < n → litAt s (tSign k) st.p = true → st.p + 3 ≤ st'.p ∧ st'.out.length + st.p + 3 ≤ st.out.length + st'.p)
  | 0, zs, zs', st, st', hp, h => by
    rw [kidsI] at h
    injection h with h; injection h with _ h
    subst h
    exact ⟨Nat.le_refl _, hp, Nat.le_refl _, fun h => absurd h (by omega)⟩
  | n + 1, zs, zs', st, st', hp, h => by
    rw [kidsI] at h
    by_cases hl : litAt s (tSign k) st.p = true
    · rw [if_pos hl] at h
      have hle := litAt_le hl
      have h3 := tSign_size k
      cases e : it ⟨st.p + 3, st.out⟩ with
      | none => rw [e] at h; cases h
      | some xs =>
        obtain ⟨x, st1⟩ := xs
        rw [e] at h
        simp only at h
        obtain ⟨a1, a2, a3⟩ := hit ⟨st.p + 3, st.out⟩ x st1 (by show st.p + 3 ≤ _; omega) e
        simp only at a1 a3
        obtain ⟨b1, b2, b3, -⟩ := few_kids hit n _ _ st1 st' a2 h
        exact ⟨by omega, b2, by omega, fun _ _ => ⟨by omega, by omega⟩⟩
    · rw [if_neg hl] at h
      injection h with h; injection h with _ h
      subst h
      exact ⟨Nat.le_refl _, hp, Nat.le_refl _, fun _ h => absurd h hl⟩
theorem few_rd (s : ByteArray) : ∀ (n : Nat) (b : Bool) (st : IS) (x : Int) (st' : IS), st.p ≤ s.size → rdI s n b st = some (x, st') → st.p ≤ st'.p ∧ st'.p ≤ s.size ∧ st'.out.length + st.p ≤ st.out.length + st'.p
  | 0, _, _, _, _, _, h => by simp [rdI] at h
  | n + 1, false, st, x, st', hp, h => by
    rw [rdI] at h
    by_cases hO : litAt s tOpen st.p = true
    · rw [if_pos hO] at h
      have hle := litAt_le hO
      have e1 : tOpen.size = 1 := rfl
      cases e : rdI s n true ⟨st.p + 1, st.out⟩ with
      | none => rw [e] at h; cases h
      | some cs =>
        obtain ⟨c, st1⟩ := cs
        rw [e] at h
        simp only at h
        obtain ⟨a1, a2, a3⟩ := few_rd s n true ⟨st.p + 1, st.out⟩ c st1 (by show st.p + 1 ≤ _; omega) e
        simp only at a1 a3
        split at h
        · split at h
          · rename_i hc
            have hle2 := litAt_le hc
            have e2 : tClose.size = 1 := rfl
            injection h with h; injection h with _ h
            subst h
            exact ⟨by show st.p ≤ st1.p + 1; omega, by show st1.p + 1 ≤ _; omega, by show st1.out.length + st.p ≤ st.out.length + (st1.p + 1); omega⟩
          · cases h
        · cases h
    · rw [if_neg hO] at h
      by_cases hT : litAt s tThis st.p = true
      · rw [if_pos hT] at h
        have hle := litAt_le hT
        have e5 : tThis.size = 5 := rfl
        cases e : pairsI s (s.size + 1) [] (st.p + 5) with
        | none => rw [e] at h; cases h
        | some cs =>
          obtain ⟨xs, q⟩ := cs
          rw [e] at h
          simp only at h
          obtain ⟨a1, a2⟩ := few_pairs s _ _ _ _ _ (by omega) e
          injection h with h; injection h with _ h
          subst h
          exact ⟨by show st.p ≤ q; omega, a2, by show (st.out ++ [_]).length + st.p ≤ st.out.length + q; rw [List.length_append, List.length_singleton]; omega⟩
      · rw [if_neg hT] at h
        cases e : nameI s st.p with
        | none => rw [e] at h; cases h
        | some cs =>
          obtain ⟨y, q⟩ := cs
          rw [e] at h
          simp only at h
          obtain ⟨a1, a2⟩ := few_name hp e
          injection h with h; injection h with _ h
          subst h
          exact ⟨by show st.p ≤ q; omega, a2, by show (st.out ++ [_]).length + st.p ≤ st.out.length + q; rw [List.length_append, List.length_singleton]; omega⟩
  | n + 1, true, st, x, st', hp, h => by
    rw [rdI] at h
    cases e : rdI s n false st with
    | none => rw [e] at h; cases h
    | some cs =>
      obtain ⟨i, st1⟩ := cs
      rw [e] at h
      simp only at h
      obtain ⟨a1, a2, a3⟩ := few_rd s n false st i st1 hp e
      split at h
      · injection h with h; injection h with _ h
        subst h
        exact ⟨a1, a2, a3⟩
      · rename_i hs
        cases e2 : kidsI s (rdI s n false) (signAt s st1.p) (s.size + 1) [i] st1 with
        | none => rw [e2] at h; cases h
        | some ds =>
          obtain ⟨zs, st2⟩ := ds
          rw [e2] at h
          simp only at h
          obtain ⟨b1, b2, b3, b4⟩ := few_kids (fun st x st' h1 h2 => few_rd s n false st x st' h1 h2) _ _ _ _ _ a2 e2
          obtain ⟨c1, c2⟩ := b4 (by omega) (sign_kind hs).2.2
          injection h with h; injection h with _ h
          subst h
          exact ⟨by show st.p ≤ st2.p; omega, b2, by show (st2.out ++ [_]).length + st.p ≤ st.out.length + st2.p; rw [List.length_append, List.length_singleton]; omega⟩
/-- what the program's reader has read, the document's has, too -/
theorem kids_one {s : ByteArray} {n : Nat} {k : Int} (hS : ∀ (p : Nat) (out : List Ex) (x : Int) (st' : IS), p ≤ s.size → rdI s n false ⟨p, out⟩ = some (x, st') → st'.out.length ≤ 15 → out.length ≤ st'.out.length ∧ rdP s n false ⟨p, false, out⟩ = (x, ⟨st'.p, false, st'.out⟩)) :
    ∀ (m : Nat) (zs zs' : List Int) (p : Nat) (out : List Ex) (st' : IS), p ≤ s.size → kidsI s (rdI s n false) k m zs ⟨p, out⟩ = some (zs', st') → st'.out.length ≤ 15 → out.length ≤ st'.out.length ∧ kidsP s (rdP s n false) k m zs ⟨p, false, out⟩ = (zs', ⟨st'.p, false, st'.out⟩)
  | 0, zs, zs', p, out, st', _, h, _ => by
    rw [kidsI] at h
    injection h with h; injection h with h1 h2
    subst h1 h2
    exact ⟨Nat.le_refl _, rfl⟩
  | m + 1, zs, zs', p, out, st', hp, h, h15 => by
    rw [kidsI] at h
    simp only at h
    rw [kidsP, isP_ok]
    by_cases hl : litAt s (tSign k) p = true
    · rw [if_pos hl] at h ⊢
      have hle := litAt_le hl
      have h3 := tSign_size k
      have eo : onP (tSign k) ⟨p, false, out⟩ = ⟨p + 3, false, out⟩ := by unfold onP; rw [h3]
      rw [eo]
      cases e : rdI s n false ⟨p + 3, out⟩ with
      | none => rw [e] at h; cases h
      | some xs =>
        obtain ⟨x, st1⟩ := xs
        rw [e] at h
        simp only at h
        obtain ⟨a1, a2, -⟩ := few_rd s n false ⟨p + 3, out⟩ x st1 (by show p + 3 ≤ _; omega) e
        obtain ⟨b1, b2⟩ := kids_one hS m _ _ st1.p st1.out st' a2 h h15
        obtain ⟨c1, c2⟩ := hS (p + 3) out x st1 (by omega) e (by omega)
        rw [c2]
        exact ⟨by omega, b2⟩
    · rw [if_neg hl] at h ⊢
      injection h with h; injection h with h1 h2
      subst h1 h2
      exact ⟨Nat.le_refl _, rfl⟩
theorem rd_one (s : ByteArray) : ∀ (n : Nat), (∀ (p : Nat) (out : List Ex) (x : Int) (st' : IS), p ≤ s.size → rdI s n false ⟨p, out⟩ = some (x, st') → st'.out.length ≤ 15 → out.length ≤ st'.out.length ∧ rdP s n false ⟨p, false, out⟩ = (x, ⟨st'.p, false, st'.out⟩)) ∧
    (∀ (p : Nat) (out : List Ex) (x : Int) (st' : IS), p ≤ s.size → rdI s n true ⟨p, out⟩ = some (x, st') → st'.out.length ≤ 15 → out.length ≤ st'.out.length ∧ ∃ y, rdP s n true ⟨p, false, out⟩ = (y, ⟨st'.p, false, st'.out⟩) ∧ y = (st'.out.length : Int) - 1) ∧ (∀ (p : Nat) (out : List Ex) (x : Int) (st' : IS), p ≤ s.size → rdI s n false ⟨p, out⟩ = some (x, st') → x = (st'.out.length : Int) - 1)
  | 0 => ⟨fun p out x st' _ h _ => by simp [rdI] at h, fun p out x st' _ h _ => by simp [rdI] at h, fun p out x st' _ h => by simp [rdI] at h⟩
  | n + 1 => by
    obtain ⟨ih1, ih2, ih3⟩ := rd_one s n
    refine ⟨fun p out x st' hp h h15 => ?_, fun p out x st' hp h h15 => ?_, fun p out x st' hp h => ?_⟩
    · rw [rdI] at h
      simp only at h
      rw [rdP, isP_ok, isP_ok]
      by_cases hO : litAt s tOpen p = true
      · rw [if_pos hO] at h
        rw [if_neg (by rw [open_no_this hO]; decide), if_pos hO]
        have hle := litAt_le hO
        have e1 : tOpen.size = 1 := rfl
        have eo : onP tOpen ⟨p, false, out⟩ = ⟨p + 1, false, out⟩ := rfl
        rw [eo]
        cases e : rdI s n true ⟨p + 1, out⟩ with
        | none => rw [e] at h; cases h
        | some cs =>
          obtain ⟨c, st1⟩ := cs
          rw [e] at h
          simp only at h
          split at h
          · split at h
            · rename_i hc
              injection h with h; injection h with h1 h2
              subst h1 h2
              obtain ⟨a1, y, a2, a3⟩ := ih2 (p + 1) out c st1 (by omega) e h15
              rw [a2]
              simp only [isP_ok]
              rw [if_pos hc, a3]
              exact ⟨a1, rfl⟩
            · cases h
          · cases h
      · rw [if_neg hO] at h
        by_cases hT : litAt s tThis p = true
        · rw [if_pos hT] at h
          rw [if_pos hT]
          have hle := litAt_le hT
          have e5 : tThis.size = 5 := rfl
          have eo : onP tThis ⟨p, false, out⟩ = ⟨p + 5, false, out⟩ := rfl
          rw [eo]
          cases e : pairsI s (s.size + 1) [] (p + 5) with
          | none => rw [e] at h; cases h
          | some cs =>
            obtain ⟨xs, q⟩ := cs
            rw [e] at h
            simp only at h
            injection h with h; injection h with h1 h2
            subst h1 h2
            obtain ⟨k1, -, -⟩ := pairs_one s (s.size + 1) [] xs (p + 5) q out (by omega) e
            rw [k1]
            simp only [List.length_append, List.length_singleton] at h15
            refine ⟨by simp, ?_⟩
            simp only [addP, Bool.false_or]
            rw [decide_eq_false (by omega)]
        · rw [if_neg hT] at h
          rw [if_neg hT, if_neg hO]
          cases e : nameI s p with
          | none => rw [e] at h; cases h
          | some cs =>
            obtain ⟨y, q⟩ := cs
            rw [e] at h
            simp only at h
            obtain ⟨rfl, rfl, hnb⟩ := nameI_is e
            obtain ⟨e1, e2⟩ := nm_spec s p out
            injection h with h; injection h with h1 h2
            subst h1 h2
            simp only [List.length_append, List.length_singleton] at h15
            rw [e1, e2, judged, hnb]
            refine ⟨by simp, ?_⟩
            simp only [if_true, addP, Bool.false_or]
            rw [decide_eq_false (by omega)]
    · rw [rdI] at h
      rw [rdP]
      cases e : rdI s n false ⟨p, out⟩ with
      | none => rw [e] at h; cases h
      | some cs =>
        obtain ⟨i, st1⟩ := cs
        rw [e] at h
        simp only at h
        obtain ⟨f1, f2, -⟩ := few_rd s n false ⟨p, out⟩ i st1 hp e
        by_cases hs : signAt s st1.p = 0
        · rw [if_pos hs] at h
          injection h with h; injection h with h1 h2
          subst h2
          obtain ⟨a1, a2⟩ := ih1 p out i st1 hp e h15
          rw [a2]
          simp only
          rw [if_pos (.inl hs)]
          exact ⟨a1, i, rfl, ih3 p out i st1 hp e⟩
        · rw [if_neg hs] at h
          cases e2 : kidsI s (rdI s n false) (signAt s st1.p) (s.size + 1) [i] st1 with
          | none => rw [e2] at h; cases h
          | some ds =>
            obtain ⟨zs, st2⟩ := ds
            rw [e2] at h
            simp only at h
            injection h with h; injection h with h1 h2
            subst h2
            simp only [List.length_append, List.length_singleton] at h15
            obtain ⟨b1, b2⟩ := kids_one (fun p out x st' a b c => ih1 p out x st' a b c) _ _ _ st1.p st1.out st2 f2 e2 (by omega)
            obtain ⟨a1, a2⟩ := ih1 p out i st1 hp e (by omega)
            rw [a2]
            simp only
            rw [if_neg (by simp [hs]), b2]
            refine ⟨by simp; omega, (st2.out.length : Int), ?_, by simp⟩
            simp only [addP, Bool.false_or]
            rw [decide_eq_false (by omega)]
    · rw [rdI] at h
      simp only at h
      split at h
      · cases e : rdI s n true ⟨p + 1, out⟩ with
        | none => rw [e] at h; cases h
        | some cs =>
          obtain ⟨c, st1⟩ := cs
          rw [e] at h
          simp only at h
          split at h
          · split at h
            · injection h with h; injection h with h1 h2
              subst h1 h2
              rfl
            · cases h
          · cases h
      · split at h
        · cases e : pairsI s (s.size + 1) [] (p + 5) with
          | none => rw [e] at h; cases h
          | some cs =>
            obtain ⟨xs, q⟩ := cs
            rw [e] at h
            simp only at h
            injection h with h; injection h with h1 h2
            subst h1 h2
            simp
        · cases e : nameI s p with
          | none => rw [e] at h; cases h
          | some cs =>
            obtain ⟨y, q⟩ := cs
            rw [e] at h
            simp only at h
            injection h with h; injection h with h1 h2
            subst h1 h2
            simp
theorem txt_ge (es : List Ex) (n : Nat) : (txtAt es n false).size ≤ (txt es n).size := by
  rw [txt_eq]
  unfold txtAt
  rw [inT_out]
  unfold inT
  split
  · rw [ByteArray.size_append, ByteArray.size_append]; omega
  · exact Nat.le_refl _
/-- what the program's reader answers -/
def implR (s : ByteArray) : Option (List Ex) :=
  match rdI s (2 * s.size + 2) true ⟨0, []⟩ with
  | none => none
  | some (c, st) => if (1 < c ∨ st.out.length = 1) ∧ st.p = s.size ∧ specE st.out = true then some st.out else none
theorem impl_spec (s : ByteArray) {x : Int} {st : RS} (h : rdP s (2 * s.size + 2) true ⟨0, false, []⟩ = (x, st)) :
    implR s = if (!st.bad && !decide (st.p < s.size) && specE st.out && ((exText st.out).toList == s.toList)) = true then some st.out else none := by
  have u := up_rd (s := s) (2 * s.size + 2) true ⟨0, false, []⟩ (Nat.zero_le _)
  rw [h] at u
  have hall : s.extract 0 s.size = s := by
    apply ext_data'
    rw [ex_data, List.drop_zero]
    exact List.take_of_length_le (by simp)
  have hvalid : specE st.out = true → ∀ e ∈ st.out, nodeB e = true := fun he => by
    simp only [specE, Bool.and_eq_true] at he
    exact List.all_eq_true.1 he.1.1.1.2
  by_cases hc : (!st.bad && !decide (st.p < s.size) && specE st.out && ((exText st.out).toList == s.toList)) = true
  · rw [if_pos hc]
    simp only [Bool.and_eq_true] at hc
    obtain ⟨⟨⟨hb0, hp0⟩, he⟩, ht⟩ := hc
    have hb : st.bad = false := by simpa using hb0
    have hp : ¬ st.p < s.size := by simpa using hp0
    have hpe : st.p = s.size := by have h2 : st.p ≤ s.size := u.2.1; omega
    have htx : txtAt st.out (st.out.length - 1) false = s := by rw [← exText_yes he]; exact byteEq ht
    have g := (two_all s (2 * s.size + 2)).2 0 [] x st (Nat.zero_le _) (by omega) h hb (hvalid he)
    have hsz : (txtAt st.out (st.out.length - 1) false).size = s.size := by rw [htx]
    have hge := txt_ge st.out (st.out.length - 1)
    unfold implR
    rcases g.two with ⟨c, c1, c2⟩ | ⟨c1, c2⟩
    · rw [c1]
      simp only
      rw [if_pos]
      refine ⟨?_, hpe, he⟩
      rcases c2 with ⟨-, t2, t3⟩ | ⟨t1, -⟩
      · rcases t3 with ⟨-, t3⟩ | ⟨t3, -⟩
        · exact .inr t3
        · have e1 := congrArg ByteArray.size (txt_op t3)
          rw [ByteArray.size_append, ByteArray.size_append, t2, hpe, hall] at e1
          have a1 : (⟨#[40]⟩ : ByteArray).size = 1 := rfl
          omega
      · exact .inl t1
    · rcases c2 with c2 | ⟨-, c2⟩
      · omega
      · omega
  · rw [if_neg hc]
    unfold implR
    cases e : rdI s (2 * s.size + 2) true ⟨0, []⟩ with
    | none => rfl
    | some cs =>
      obtain ⟨c, ist⟩ := cs
      simp only
      rw [if_neg]
      rintro ⟨h1, h2, h3⟩
      have h15 : ist.out.length ≤ 15 := by
        simp only [specE, Bool.and_eq_true, decide_eq_true_eq] at h3
        exact h3.1.1.1.1.2
      obtain ⟨-, y, hy, -⟩ := (rd_one s (2 * s.size + 2)).2.1 0 [] c ist (Nat.zero_le _) e h15
      rw [h] at hy
      injection hy with _ hy
      subst hy
      apply hc
      simp only [Bool.and_eq_true]
      refine ⟨⟨⟨by simp, by simp; omega⟩, h3⟩, ?_⟩
      have g := (two_all s (2 * s.size + 2)).2 0 [] x _ (Nat.zero_le _) (by omega) h rfl (hvalid h3)
      have hfin : txtAt ist.out (ist.out.length - 1) false = s := by
        rcases g.two with ⟨c', c1, c2⟩ | ⟨c1, -⟩
        · rw [e] at c1
          injection c1 with c1; injection c1 with c1 _
          subst c1
          rcases c2 with ⟨rfl, t2, t3⟩ | ⟨-, -, -, t4⟩
          · rcases t3 with ⟨k1, -⟩ | ⟨-, k2⟩
            · have e1 : txt ist.out (ist.out.length - 1) = txtAt ist.out (ist.out.length - 1) false := by
                rw [txt_eq]; unfold txtAt; rw [inT_leaf k1, inT_leaf k1]
              rw [← e1, t2]
              show s.extract 0 ist.p = s
              rw [h2, hall]
            · rcases h1 with h1 | h1
              · omega
              · have : ([] : List Ex).length = 0 := rfl
                simp only at k2
                omega
          · rw [t4]
            show s.extract 0 ist.p = s
            rw [h2, hall]
        · rw [e] at c1; cases c1
      rw [exText_yes h3, hfin]
      simp
end Go.Proofs.Ytjmbgpdbnffkpaa
