/- A right expression comes back from its text, whole; its text has at most 1000 bytes. -/
import Derived.Test.YtjmbgpdbnffkpaaPlainBack
namespace Go.Proofs.Ytjmbgpdbnffkpaa
open Pl

theorem tailB_len (sep : ByteArray) (hs : 1 ≤ sep.size) : ∀ xs : List ByteArray, xs.length ≤ (tailB sep xs).size
  | [] => Nat.zero_le _
  | y :: ys => by
    have := tailB_len sep hs ys
    rw [tailB, ByteArray.size_append, ByteArray.size_append, List.length_cons]
    omega
/-- nothing but a closing bracket follows -/
def EndS (s : ByteArray) (q : Nat) : Prop := ∀ c, s.data.toList[q]? = some c → c = 41
theorem EndS.fol {s : ByteArray} {q : Nat} (h : EndS s q) : Fol s q := fun c hc => .inr (h c hc)
theorem sign_first (k : Int) : (tSign k).data.toList.head? = some 32 := by
  unfold tSign
  split
  · rfl
  · split <;> rfl
theorem EndS.nosign {s : ByteArray} {q : Nat} (h : EndS s q) (k : Int) : litAt s (tSign k) q = false := by
  cases e : s.data.toList[q]? with
  | none => exact lit_end e (by rw [tSign_size]; omega)
  | some c =>
    have := h c e
    subst this
    exact lit_off e (sign_first k) (by decide)
theorem sign_two {s : ByteArray} {p : Nat} {a b : Int} (h : litAt s (tSign a) p = true) (hn : tSign a ≠ tSign b) : litAt s (tSign b) p = false := by
  cases e : litAt s (tSign b) p with
  | false => rfl
  | true =>
    have h1 := lit_is h
    have h2 := lit_is e
    rw [tSign_size] at h1 h2
    exact absurd (h1.symm.trans h2) hn
theorem sign_is {s : ByteArray} {p : Nat} {k : Int} (h4 : 4 ≤ k) (h6 : k ≤ 6) (h : litAt s (tSign k) p = true) : signAt s p = k := by
  have d45 : tSign 4 ≠ tSign 5 := fun e => by have := congrArg (fun x => x.data.toList) e; revert this; decide
  have d46 : tSign 4 ≠ tSign 6 := fun e => by have := congrArg (fun x => x.data.toList) e; revert this; decide
  have d56 : tSign 5 ≠ tSign 6 := fun e => by have := congrArg (fun x => x.data.toList) e; revert this; decide
  unfold signAt
  rcases (show k = 4 ∨ k = 5 ∨ k = 6 by omega) with rfl | rfl | rfl
  · rw [if_pos h]
  · rw [if_neg (by rw [sign_two h d45.symm]; decide), if_pos h]
  · rw [if_neg (by rw [sign_two h d46.symm]; decide), if_neg (by rw [sign_two h d56.symm]; decide), if_pos h]
theorem empty_is {t : ByteArray} (h : t.toList.isEmpty = true) : t = ⟨#[]⟩ := by
  apply ext_data'
  rw [Go.ByteArray.toList_eq] at h
  simpa using h
/-- a node of each kind -/
theorem node_this {e : Ex} (h : nodeB e = true) (hk : e.kind = 1) : e = ⟨1, e.allow, ⟨#[]⟩, ⟨#[]⟩, []⟩ ∧ allowB e.allow = true := by
  obtain ⟨k, al, ov, nm, ks⟩ := e
  simp only at hk
  subst hk
  simp [nodeB] at h
  obtain ⟨⟨⟨h1, h2⟩, h3⟩, h4⟩ := h
  have h2' := empty_is (t := ov) (by rw [List.isEmpty_iff]; exact h2)
  have h3' := empty_is (t := nm) (by rw [List.isEmpty_iff]; exact h3)
  subst h2' h3' h4
  exact ⟨rfl, h1⟩
theorem node_name {e : Ex} (h : nodeB e = true) (hk : e.kind = 2) : e = ⟨2, [], ⟨#[]⟩, e.name, []⟩ ∧ nameB e.name = true := by
  obtain ⟨k, al, ov, nm, ks⟩ := e
  simp only at hk
  subst hk
  simp [nodeB] at h
  obtain ⟨⟨⟨h1, h2⟩, h3⟩, h4⟩ := h
  have h3' := empty_is (t := ov) (by rw [List.isEmpty_iff]; exact h3)
  subst h2 h3' h4
  exact ⟨rfl, h1⟩
theorem node_over {e : Ex} (h : nodeB e = true) (hk : e.kind = 3) : e = ⟨3, [], e.over, e.name, []⟩ ∧ nameB e.over = true ∧ nameB e.name = true := by
  obtain ⟨k, al, ov, nm, ks⟩ := e
  simp only at hk
  subst hk
  simp [nodeB] at h
  obtain ⟨⟨⟨h1, h2⟩, h3⟩, h4⟩ := h
  subst h3 h4
  exact ⟨rfl, h1, h2⟩
theorem node_op {e : Ex} (h : nodeB e = true) (hk : 4 ≤ e.kind) : e = ⟨e.kind, [], ⟨#[]⟩, ⟨#[]⟩, e.kids⟩ ∧ e.kind ≤ 6 ∧ 2 ≤ e.kids.length ∧ e.kids.length ≤ 5 := by
  obtain ⟨k, al, ov, nm, ks⟩ := e
  simp only at hk
  unfold nodeB at h
  simp only at h
  rw [if_neg (by omega), if_neg (by omega), if_neg (by omega)] at h
  split at h
  · rename_i h45
    simp only [Bool.and_eq_true, decide_eq_true_eq] at h
    obtain ⟨⟨⟨⟨h1, h2⟩, h3⟩, h4⟩, h5⟩ := h
    have h4' := empty_is h4
    have h5' := empty_is h5
    have h3' := List.length_eq_zero_iff.1 h3
    subst h3' h4' h5'
    exact ⟨rfl, by simp only; omega, h1, h2⟩
  · split at h
    · rename_i h6
      simp only [Bool.and_eq_true, decide_eq_true_eq] at h
      obtain ⟨⟨⟨h1, h3⟩, h4⟩, h5⟩ := h
      have h4' := empty_is h4
      have h5' := empty_is h5
      have h3' := List.length_eq_zero_iff.1 h3
      subst h3' h4' h5'
      exact ⟨rfl, by simp only; omega, by simp only; omega, by simp only; omega⟩
    · cases h
theorem tree_leaf {es : List Ex} {i : Nat} (h : i < es.length) (hk : es[i].kids = []) : treeAt es i = (i : Int) := by
  rw [treeAt_eq, kidsAt_get h, hk]
  simp [treeGo]
/-- the text of a node over kids, without brackets -/
theorem op_text {es : List Ex} {i : Nat} (h : i < es.length) (hk : 4 ≤ es[i].kind) (hin : ∀ k ∈ es[i].kids, 0 ≤ k ∧ k.toNat < i) : txtAt es i false = joinB (tSign es[i].kind) (es[i].kids.map fun k => txt es k.toNat) := by
  rw [txtAt, exAt_get h, inT_out]
  unfold nodeT
  rw [if_neg (by omega), if_neg (by omega), if_neg (by omega)]
  show joinB (signB _) _ = joinB (tSign _) _
  have : tSign es[i].kind = signB es[i].kind := rfl
  rw [this]
  congr 1
  apply List.map_congr_left
  intro k hk
  unfold txtF
  rw [if_pos (hin k hk).2]
theorem ops_back {es : List Ex} {s : ByteArray} (hG : Good es) {i : Nat} (hi : i < es.length) (hk : 4 ≤ es[i].kind) (hB : ∀ k, k < i → Back es s k) (p f : Nat) (h : SegAt s p (txtAt es i false)) (hE : EndS s (p + (txtAt es i false).size)) (hf : 2 * (s.size - p) + 1 < f) :
    rdI s f true ⟨p, es.take (treeAt es i).toNat⟩ = some ((es[i].kids.length : Int), ⟨p + (txtAt es i false).size, es.take (i + 1)⟩) := by
  obtain ⟨f, rfl⟩ : ∃ x, f = x + 1 := ⟨f - 1, by omega⟩
  obtain ⟨hnd, h6, hl2, hl5⟩ := node_op (hG.nodes _ (List.getElem_mem hi)) hk
  have hch := chain_of (hG.trees i hi)
  rw [kidsAt_get hi] at hch
  have hin := (chain_le _ _ _ hch).2
  have htx := op_text hi hk hin
  obtain ⟨kd, hkd⟩ : ∃ kd, kd = es[i].kind := ⟨_, rfl⟩
  rw [← hkd] at htx hk h6 hnd
  obtain ⟨ks, hks⟩ : ∃ ks, ks = es[i].kids := ⟨_, rfl⟩
  rw [← hks] at htx hch hin hl2 hl5 hnd ⊢
  cases ks with
  | nil => simp at hl2
  | cons k1 ks =>
    rw [htx] at h hE ⊢
    rw [List.map_cons, joinB_cons] at h hE ⊢
    obtain ⟨a1, a2⟩ := seg_app h
    rw [ByteArray.size_append] at hE ⊢
    have hne : ks ≠ [] := fun e => by rw [e] at hl2; simp at hl2
    obtain ⟨k2, ks2, hks2⟩ : ∃ k2 ks2, ks = k2 :: ks2 := by
      cases ks with
      | nil => exact absurd rfl hne
      | cons a b => exact ⟨a, b, rfl⟩
    have hsg : SegAt s (p + (txt es k1.toNat).size) (tSign kd) := by
      have h2 := a2
      rw [hks2, List.map_cons, tailB] at h2
      exact (seg_app (seg_app h2).1).1
    have hfol : Fol s (p + (txt es k1.toNat).size) := fun c hc => by
      rw [seg_head hsg (sign_first kd)] at hc
      injection hc with hc
      exact .inl hc.symm
    have hfirst := hB k1.toNat (hin k1 (by simp)).2 p f a1 hfol (by omega)
    have hk0 : ((k1.toNat : Nat) : Int) = k1 := by have := (hin k1 (by simp)).1; omega
    rw [hch.2.1, hk0] at hfirst
    have et : ((((treeAt es i).toNat : Nat) : Int)).toNat = (treeAt es i).toNat := by omega
    rw [et] at hfirst
    have hsa : signAt s (p + (txt es k1.toNat).size) = kd := sign_is hk h6 (seg_lit hsg)
    have hln := tailB_len (tSign kd) (by rw [tSign_size]; omega) (ks.map fun k => txt es k.toNat)
    rw [List.length_map] at hln
    have hkids := kids_back (f := f) (kd := kd) ks (k1.toNat + 1) i (s.size + 1) (p + (txt es k1.toNat).size) [k1] hch.2.2 (fun k hk => hB k.toNat (hin k (by simp [hk])).2) (by have := a2.1; omega) a2 (by rw [show p + (txt es k1.toNat).size + (tailB (tSign kd) (ks.map fun k => txt es k.toNat)).size = p + ((txt es k1.toNat).size + (tailB (tSign kd) (ks.map fun k => txt es k.toNat)).size) by omega]; exact hE.fol) (by rw [show p + (txt es k1.toNat).size + (tailB (tSign kd) (ks.map fun k => txt es k.toNat)).size = p + ((txt es k1.toNat).size + (tailB (tSign kd) (ks.map fun k => txt es k.toNat)).size) by omega]; exact hE.nosign kd) (by omega)
    rw [rdI, hfirst]
    simp only
    rw [hsa, if_neg (by omega), hkids]
    simp only
    rw [show [k1] ++ ks = k1 :: ks from rfl, take_next hi, hnd, show p + (txt es k1.toNat).size + (tailB (tSign kd) (ks.map fun k => txt es k.toNat)).size = p + ((txt es k1.toNat).size + (tailB (tSign kd) (ks.map fun k => txt es k.toNat)).size) by omega]
theorem back_all {es : List Ex} (s : ByteArray) (hG : Good es) : ∀ i, i < es.length → Back es s i := by
  intro i
  induction i using Nat.strongRecOn with
  | ind i ih =>
    intro hi p f h hF hf
    obtain ⟨f, rfl⟩ : ∃ x, f = x + 1 := ⟨f - 1, by omega⟩
    have hnb := hG.nodes _ (List.getElem_mem hi)
    by_cases h1 : es[i].kind = 1
    · obtain ⟨hnd, hal⟩ := node_this hnb h1
      have htr := tree_leaf hi (by rw [hnd])
      have htx : txt es i = thisText es[i].allow := by rw [txt_eq, txtAt, exAt_get hi, inT_leaf (.inl h1)]; unfold nodeT; rw [if_pos h1]
      have hal2 : 1 ≤ es[i].allow.length ∧ es[i].allow.length ≤ 6 ∧ ∀ a ∈ es[i].allow, alB a = true := by
        unfold allowB at hal
        simp only [Bool.and_eq_true, decide_eq_true_eq] at hal
        refine ⟨hal.1.1, hal.1.2, fun a ha => ?_⟩
        obtain ⟨j, hj, rfl⟩ := List.getElem_of_mem ha
        exact upA_all hal.2 j hj hj
      have e1 : thisText es[i].allow = tThis ++ (JA es[i].allow ++ tClose) := by rw [← ByteArray.append_assoc]; rfl
      have hsz : (txt es i).size = 5 + (JA es[i].allow).size + 1 := by rw [htx, e1, ByteArray.size_append, ByteArray.size_append, ← Nat.add_assoc]; rfl
      rw [htx, e1] at h
      obtain ⟨a1, a2⟩ := seg_app h
      have e5 : tThis.size = 5 := rfl
      rw [e5] at a2
      have hp5 := a1.1
      rw [rdI, htr]
      simp only
      rw [if_neg (by rw [this_no_open (seg_lit a1)]; decide), if_pos (seg_lit a1)]
      cases hall : es[i].allow with
      | nil => rw [hall] at hal2; simp at hal2
      | cons y ys =>
        rw [hall] at a2 hal2 hsz
        rw [pairs_back ys y (s.size + 1) (p + 5) [] hal2.2.2 (by have := hal2.2.1; simp at this; omega) a2]
        simp only
        rw [hsz, take_next hi, hnd, hall]
        have et : ((i : Int)).toNat = i := by omega
        have el : (es.take i).length = i := by rw [List.length_take]; omega
        rw [et, el, List.nil_append, show p + 5 + (JA (y :: ys)).size + 1 = p + (5 + (JA (y :: ys)).size + 1) by omega]
    by_cases h2 : es[i].kind = 2
    · obtain ⟨hnd, hnm⟩ := node_name hnb h2
      have htr := tree_leaf hi (by rw [hnd])
      have htx : txt es i = es[i].name := by rw [txt_eq, txtAt, exAt_get hi, inT_leaf (.inr (.inl h2))]; unfold nodeT; rw [if_neg h1, if_pos h2]
      rw [htx] at h hF ⊢
      obtain ⟨w1, w2⟩ := word_back h (name_all hnm) hF.nolet
      rw [rdI, htr]
      simp only
      rw [if_neg (by rw [no_open h hnm]; decide), if_neg (by rw [no_this (by rw [w2]; exact hnm)]; decide), nameI, w2, w1, if_pos hnm, if_neg (by rw [hF.noarrow]; decide)]
      simp only
      have et : ((i : Int)).toNat = i := by omega
      have el : (es.take i).length = i := by rw [List.length_take]; omega
      rw [et, el, take_next hi, hnd]
    by_cases h3 : es[i].kind = 3
    · obtain ⟨hnd, hov, hnm⟩ := node_over hnb h3
      have htr := tree_leaf hi (by rw [hnd])
      have htx : txt es i = es[i].over ++ ⟨#[45, 62]⟩ ++ es[i].name := by rw [txt_eq, txtAt, exAt_get hi, inT_leaf (.inr (.inr h3))]; unfold nodeT; rw [if_neg h1, if_neg h2, if_pos h3]
      have hsz : (txt es i).size = es[i].over.size + 2 + es[i].name.size := by rw [htx, ByteArray.size_append, ByteArray.size_append]; rfl
      rw [htx] at h
      obtain ⟨a1, a2⟩ := seg_app h
      obtain ⟨b1, b2⟩ := seg_app a1
      have e1 : (es[i].over ++ (⟨#[45, 62]⟩ : ByteArray)).size = es[i].over.size + 2 := by rw [ByteArray.size_append]; rfl
      rw [e1] at a2
      have hc := seg_head b2 (c := 45) rfl
      obtain ⟨w1, w2⟩ := word_back b1 (name_all hov) (fun c hc2 => by rw [hc] at hc2; injection hc2 with hc2; rw [← hc2]; decide)
      rw [hsz] at hF ⊢
      obtain ⟨v1, v2⟩ := word_back a2 (name_all hnm) (by rw [show p + (es[i].over.size + 2) + es[i].name.size = p + (es[i].over.size + 2 + es[i].name.size) by omega]; exact hF.nolet)
      rw [show p + (es[i].over.size + 2) = p + es[i].over.size + 2 by omega] at v1 v2
      have hl : litAt s tArrow (p + es[i].over.size) = true := seg_lit b2
      rw [rdI, htr]
      simp only
      rw [if_neg (by rw [no_open b1 hov]; decide), if_neg (by rw [no_this (by rw [w2]; exact hov)]; decide), nameI, w2, w1, if_pos hov, if_pos hl, v2, v1, if_pos hnm]
      simp only
      have et : ((i : Int)).toNat = i := by omega
      have el : (es.take i).length = i := by rw [List.length_take]; omega
      rw [et, el, take_next hi, hnd, show p + es[i].over.size + 2 + es[i].name.size = p + (es[i].over.size + 2 + es[i].name.size) by omega]
    have hk : 4 ≤ es[i].kind := by
      have := (nodeB_kids hnb).2
      omega
    have hk4 : 4 ≤ (exAt es i).kind := by rw [exAt_get hi]; exact hk
    have hop := txt_op hk4
    have hsz : (txt es i).size = 1 + (txtAt es i false).size + 1 := by rw [hop, ByteArray.size_append, ByteArray.size_append]; rfl
    rw [hop, ByteArray.append_assoc] at h
    obtain ⟨a1, a2⟩ := seg_app h
    obtain ⟨b1, b2⟩ := seg_app a2
    have e1 : (⟨#[40]⟩ : ByteArray).size = 1 := rfl
    rw [e1] at b1 b2
    have hlo : litAt s tOpen p = true := seg_lit a1
    have hlc : litAt s tClose (p + 1 + (txtAt es i false).size) = true := seg_lit b2
    have hE : EndS s (p + 1 + (txtAt es i false).size) := fun c hc => by
      rw [seg_head b2 (c := 41) rfl] at hc
      injection hc with hc
      exact hc.symm
    have hle := litAt_le hlo
    have e1o : tOpen.size = 1 := rfl
    have hop2 := ops_back hG hi hk (fun k hk => ih k hk (by omega)) (p + 1) f b1 hE (by omega)
    have hkl := (node_op hnb hk).2.2.1
    rw [rdI]
    simp only
    rw [if_pos hlo, hop2]
    simp only
    have el : (es.take (i + 1)).length = i + 1 := by rw [List.length_take]; omega
    rw [if_pos (by omega), if_pos hlc, el, hsz, show p + 1 + (txtAt es i false).size + 1 = p + (1 + (txtAt es i false).size + 1) by omega]
    congr 2
    simp
/-- how long a text can be -/
def wN (e : Ex) : Nat := if e.kind = 1 then 230 else 40
def wU (es : List Ex) (k : Nat) : Nat := ((es.take k).map wN).sum
theorem wU_succ {es : List Ex} {k : Nat} (h : k < es.length) : wU es (k + 1) = wU es k + wN es[k] := by
  unfold wU; rw [take_next h, List.map_append, List.sum_append]; simp
theorem chain_size {es : List Ex} (sep : ByteArray) (h3 : sep.size = 3) : ∀ (ks : List Int) (a b : Nat), Chain es ks a b → (∀ k ∈ ks, (txt es k.toNat).size + wU es (treeAt es k.toNat).toNat ≤ wU es (k.toNat + 1)) → (tailB sep (ks.map fun k => txt es k.toNat)).size + wU es a ≤ wU es b + 3 * ks.length
  | [], a, b, h, _ => by
    have : a = b := h
    subst this
    show 0 + _ ≤ _
    omega
  | k :: ks, a, b, h, hk => by
    have ih := chain_size sep h3 ks _ b h.2.2 (fun x hx => hk x (by simp [hx]))
    have h1 := hk k (by simp)
    rw [h.2.1] at h1
    have ea : ((a : Int)).toNat = a := by omega
    rw [ea] at h1
    rw [List.map_cons, tailB, ByteArray.size_append, ByteArray.size_append, h3, List.length_cons]
    omega
theorem text_size {es : List Ex} (hG : Good es) : ∀ i, i < es.length → (txt es i).size + wU es (treeAt es i).toNat ≤ wU es (i + 1) := by
  intro i
  induction i using Nat.strongRecOn with
  | ind i ih =>
    intro hi
    have hnb := hG.nodes _ (List.getElem_mem hi)
    have hle := treeAt_le es i
    rw [wU_succ hi]
    by_cases h1 : es[i].kind = 1
    · obtain ⟨hnd, hal⟩ := node_this hnb h1
      have htr := tree_leaf hi (by rw [hnd])
      have htx : txt es i = thisText es[i].allow := by rw [txt_eq, txtAt, exAt_get hi, inT_leaf (.inl h1)]; unfold nodeT; rw [if_pos h1]
      have := thisText_size hal
      rw [htx, htr, wN, if_pos h1]
      have et : ((i : Int)).toNat = i := by omega
      rw [et]; omega
    by_cases h2 : es[i].kind = 2
    · obtain ⟨hnd, hnm⟩ := node_name hnb h2
      have htr := tree_leaf hi (by rw [hnd])
      have htx : txt es i = es[i].name := by rw [txt_eq, txtAt, exAt_get hi, inT_leaf (.inr (.inl h2))]; unfold nodeT; rw [if_neg h1, if_pos h2]
      have := nameB_small hnm
      rw [htx, htr, wN, if_neg h1]
      have et : ((i : Int)).toNat = i := by omega
      rw [et]; omega
    by_cases h3 : es[i].kind = 3
    · obtain ⟨hnd, hov, hnm⟩ := node_over hnb h3
      have htr := tree_leaf hi (by rw [hnd])
      have htx : txt es i = es[i].over ++ ⟨#[45, 62]⟩ ++ es[i].name := by rw [txt_eq, txtAt, exAt_get hi, inT_leaf (.inr (.inr h3))]; unfold nodeT; rw [if_neg h1, if_neg h2, if_pos h3]
      have hsz : (txt es i).size = es[i].over.size + 2 + es[i].name.size := by rw [htx, ByteArray.size_append, ByteArray.size_append]; rfl
      have := nameB_small hnm
      have := nameB_small hov
      rw [hsz, htr, wN, if_neg h1]
      have et : ((i : Int)).toNat = i := by omega
      rw [et]; omega
    have hk : 4 ≤ es[i].kind := by have := (nodeB_kids hnb).2; omega
    have hk4 : 4 ≤ (exAt es i).kind := by rw [exAt_get hi]; exact hk
    obtain ⟨-, -, hl2, hl5⟩ := node_op hnb hk
    have hch := chain_of (hG.trees i hi)
    rw [kidsAt_get hi] at hch
    have hin := (chain_le _ _ _ hch).2
    have hsz : (txt es i).size = 1 + (txtAt es i false).size + 1 := by rw [txt_op hk4, ByteArray.size_append, ByteArray.size_append]; rfl
    rw [hsz, op_text hi hk hin, wN, if_neg h1]
    obtain ⟨ks, hks⟩ : ∃ ks, ks = es[i].kids := ⟨_, rfl⟩
    rw [← hks] at hch hin hl2 hl5 ⊢
    have hcs := chain_size (tSign es[i].kind) (tSign_size _) ks _ _ hch (fun k hk => ih k.toNat (hin k hk).2 (by have := (hin k hk).2; omega))
    cases ks with
    | nil => simp at hl2
    | cons k1 ks =>
      rw [List.map_cons, tailB, ByteArray.size_append, ByteArray.size_append] at hcs
      rw [List.map_cons, joinB_cons, ByteArray.size_append]
      simp only [List.length_cons] at hcs hl5
      omega
theorem own_sum : ∀ es : List Ex, (es.map wN).sum = 40 * es.length + 190 * own es
  | [] => rfl
  | e :: es => by
    have ih := own_sum es
    unfold own at ih ⊢
    rw [List.map_cons, List.sum_cons, ih, List.filter_cons, List.length_cons]
    unfold wN
    by_cases h : e.kind = 1
    · simp [h]; omega
    · simp [h]; omega
theorem exText_1000 {es : List Ex} (h : specE es = true) : (exText es).size ≤ 1000 := by
  have hG := good_of h
  have h2 := h
  simp only [specE, Bool.and_eq_true, decide_eq_true_eq] at h2
  rw [exText_yes h]
  have h1 := text_size hG (es.length - 1) (by omega)
  have hge := txt_ge es (es.length - 1)
  have hw : wU es (es.length - 1 + 1) = (es.map wN).sum := by unfold wU; rw [List.take_of_length_le (by omega)]
  rw [hw, own_sum] at h1
  omega
/-- a right expression comes back from its text -/
theorem back_text {es : List Ex} (h : specE es = true) : implR (exText es) = some es := by
  have hG := good_of h
  have h2 := h
  simp only [specE, Bool.and_eq_true, decide_eq_true_eq] at h2
  have hl : 1 ≤ es.length := h2.1.1.1.1.1
  have hi : es.length - 1 < es.length := by omega
  obtain ⟨s, hs⟩ : ∃ s, s = exText es := ⟨_, rfl⟩
  rw [← hs]
  rw [exText_yes h] at hs
  have hall : s.extract 0 s.size = s := by
    apply ext_data'
    rw [ex_data, List.drop_zero]
    exact List.take_of_length_le (by simp)
  have hseg : SegAt s 0 (txtAt es (es.length - 1) false) := by
    rw [← hs]
    exact ⟨by omega, by rw [Nat.zero_add]; exact hall⟩
  have hsz : (txtAt es (es.length - 1) false).size = s.size := by rw [hs]
  have hend : s.data.toList[s.size]? = none := by rw [List.getElem?_eq_none_iff]; simp
  have hE : EndS s (0 + (txtAt es (es.length - 1) false).size) := fun c hc => by rw [hsz, Nat.zero_add, hend] at hc; cases hc
  have htk : es.take (es.length - 1 + 1) = es := List.take_of_length_le (by omega)
  unfold implR
  by_cases hk : 4 ≤ es[es.length - 1].kind
  · have hop := ops_back hG hi hk (fun k hk => back_all s hG k (by omega)) 0 (2 * s.size + 2) hseg hE (by omega)
    rw [h2.2] at hop
    have e0 : es.take ((0 : Int)).toNat = [] := rfl
    rw [e0, hsz, Nat.zero_add, htk] at hop
    rw [hop]
    simp only
    have hkl := (node_op (hG.nodes _ (List.getElem_mem hi)) hk).2.2.1
    rw [if_pos ⟨.inl (by omega), by first | rfl | trivial, h⟩]
  · have hnb := hG.nodes _ (List.getElem_mem hi)
    have hleaf : es[es.length - 1].kind = 1 ∨ es[es.length - 1].kind = 2 ∨ es[es.length - 1].kind = 3 := by
      have := (nodeB_kids hnb).2
      omega
    have hkids : es[es.length - 1].kids = [] := by
      rcases hleaf with h1 | h1 | h1
      · rw [(node_this hnb h1).1]
      · rw [(node_name hnb h1).1]
      · rw [(node_over hnb h1).1]
    have htr := tree_leaf hi hkids
    rw [h2.2] at htr
    have hone : es.length = 1 := by omega
    have htx : txt es (es.length - 1) = txtAt es (es.length - 1) false := by
      rw [txt_eq, txtAt, txtAt, exAt_get hi, inT_leaf hleaf, inT_leaf hleaf]
    have hb := back_all s hG (es.length - 1) hi 0 (2 * s.size + 1) (by rw [htx]; exact hseg) (by rw [htx]; exact hE.fol) (by omega)
    rw [h2.2, htx, hsz, Nat.zero_add, htk] at hb
    have e0 : es.take ((0 : Int)).toNat = [] := rfl
    rw [e0] at hb
    have hs0 : signAt s s.size = 0 := by
      have hE2 : EndS s s.size := fun c hc => by rw [hend] at hc; cases hc
      unfold signAt
      rw [if_neg (by rw [hE2.nosign]; decide), if_neg (by rw [hE2.nosign]; decide), if_neg (by rw [hE2.nosign]; decide)]
    rw [rdI, hb]
    simp only
    rw [hs0, if_pos rfl]
    simp only
    rw [if_pos ⟨.inr hone, by first | rfl | trivial, h⟩]
end Go.Proofs.Ytjmbgpdbnffkpaa
