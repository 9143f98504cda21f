/- Plain facts on texts: a right tuple is read out of its text, by either way of cutting; what is read out of a text has that text. Nothing of the program is read here. -/
import Derived.Test.YtgifbgcnlijjiaaPlainCut
namespace Go.Proofs.Ytgifbgcnlijjiaa.Pl

theorem cutL_mid {c : UInt8} {l m : List UInt8} (h : ∀ x ∈ l, x ≠ c) : cutL c (l ++ c :: m) = (l, m, true) := by
  induction l with
  | nil => simp [cutL]
  | cons b l ih =>
    have hb : b ≠ c := h b (by simp)
    have := ih (fun x hx => h x (by simp [hx]))
    simp [cutL, hb, this]
theorem cutL_found {c : UInt8} {l : List UInt8} (h : (cutL c l).2.2 = true) : l = (cutL c l).1 ++ c :: (cutL c l).2.1 := by
  induction l with
  | nil => simp [cutL] at h
  | cons b l ih =>
    by_cases hb : b = c
    · simp [cutL, hb]
    · simp [cutL, hb] at h ⊢; exact ih h

theorem cutA_list (c : UInt8) (s : ByteArray) : (cutA c s).data.toList = (cutL c s.data.toList).1 := by simp [cutA]
theorem cutZ_list (c : UInt8) (s : ByteArray) : (cutZ c s).data.toList = (cutL c s.data.toList).2.1 := by simp [cutZ]
theorem app_list (a b : ByteArray) : (a ++ b).data.toList = a.data.toList ++ b.data.toList := by simp [ByteArray.data_append]

theorem cut_mid {c : UInt8} {s : ByteArray} {l m : List UInt8} (hs : s.data.toList = l ++ c :: m) (h : ∀ x ∈ l, x ≠ c) : (cutA c s).data.toList = l ∧ (cutZ c s).data.toList = m ∧ cutF c s = true := by
  rw [cutA_list, cutZ_list, cutF, hs, cutL_mid h]; exact ⟨rfl, rfl, rfl⟩
theorem cut_not {c : UInt8} {s : ByteArray} (h : ∀ x ∈ s.data.toList, x ≠ c) : cutA c s = s ∧ cutZ c s = ⟨#[]⟩ ∧ cutF c s = false := by
  refine ⟨ext_data ?_, ext_data ?_, ?_⟩
  · rw [cutA_list, cutL_none h]
  · rw [cutZ_list, cutL_none h]
  · rw [cutF, cutL_none h]
theorem cut_found {c : UInt8} {s : ByteArray} (h : cutF c s = true) : s.data.toList = (cutA c s).data.toList ++ c :: (cutZ c s).data.toList := by
  rw [cutA_list, cutZ_list]; exact cutL_found h

/-- neither # nor : nor @ stands in it -/
def plainB (l : List UInt8) : Prop := ∀ x ∈ l, x ≠ 35 ∧ x ≠ 58 ∧ x ≠ 64
theorem idB_plain {x : UInt8} (h : idB x = true) : x ≠ 35 ∧ x ≠ 58 ∧ x ≠ 64 := by
  refine ⟨?_, ?_, ?_⟩ <;> (rintro rfl; revert h; decide)
theorem letB_plain {x : UInt8} (h : letB x = true) : x ≠ 35 ∧ x ≠ 58 ∧ x ≠ 64 := idB_plain (by simp [idB, h])
theorem nameB_plain {s : ByteArray} (h : nameB s = true) : plainB s.data.toList := by
  simp only [nameB, signsB, allB, Bool.and_eq_true, List.all_eq_true] at h
  exact fun x hx => letB_plain (h.1.2 x hx)
theorem isIdB_plain {s : ByteArray} (h : isIdB s = true) : plainB s.data.toList := by
  simp only [isIdB, signsB, allB, Bool.and_eq_true, List.all_eq_true] at h
  exact fun x hx => idB_plain (h.2 x hx)

theorem objB_parts {a b : ByteArray} (h : objB a b = true) : nameB a = true ∧ isIdB b = true := by simpa [objB] using h
theorem objText_list {a b : ByteArray} (h : objB a b = true) : (objText a b).data.toList = a.data.toList ++ 58 :: b.data.toList := by
  rw [objText_yes h, app_list, app_list]; simp
theorem objText_plain {a b : ByteArray} (h : objB a b = true) : ∀ x ∈ (objText a b).data.toList, x ≠ 35 ∧ x ≠ 64 := by
  intro x hx
  rw [objText_list h] at hx
  have h1 := nameB_plain (objB_parts h).1
  have h2 := isIdB_plain (objB_parts h).2
  simp only [List.mem_append, List.mem_cons] at hx
  rcases hx with hx | hx | hx
  · exact ⟨(h1 x hx).1, (h1 x hx).2.2⟩
  · subst hx; decide
  · exact ⟨(h2 x hx).1, (h2 x hx).2.2⟩

/-- an object is read out of its text -/
theorem rd_objText {a b : ByteArray} (h : objB a b = true) : rdB (objText a b) = true ∧ rdT (objText a b) = a ∧ rdI (objText a b) = b := by
  obtain ⟨h1, h2, -⟩ := cut_mid (c := 58) (objText_list h) (fun x hx => (nameB_plain (objB_parts h).1 x hx).2.1)
  have e1 : cutA 58 (objText a b) = a := ext_data h1
  have e2 : cutZ 58 (objText a b) = b := ext_data h2
  have hb : rdB (objText a b) = true := by rw [rdB, e1, e2]; exact h
  exact ⟨hb, by rw [(rd_yes hb).1, e1], by rw [(rd_yes hb).2, e2]⟩
/-- what is read as an object has its text -/
theorem rdB_text {s : ByteArray} (h : rdB s = true) : objB (rdT s) (rdI s) = true ∧ objText (rdT s) (rdI s) = s := by
  have hf : cutF 58 s = true := by
    cases hc : cutF 58 s with
    | true => rfl
    | false => rw [rdB_miss hc] at h; exact h
  have ho : objB (rdT s) (rdI s) = true := by rw [(rd_yes h).1, (rd_yes h).2]; exact h
  refine ⟨ho, ext_data ?_⟩
  rw [objText_list ho, (rd_yes h).1, (rd_yes h).2]
  exact (cut_found hf).symm

/-- what stands behind the subject -/
def tailT (s : ByteArray) : List UInt8 := if s.toList.isEmpty then [] else 35 :: s.data.toList
theorem tupText_list {a b r c d s : ByteArray} (h : tupB a b r c d s = true) :
    (tupText a b r c d s).data.toList = (objText a b).data.toList ++ 35 :: (r.data.toList ++ 64 :: ((objText c d).data.toList ++ tailT s)) := by
  by_cases hs : s.toList.isEmpty = true
  · rw [tupText_one h hs, tailT, if_pos hs]; simp
  · have hs' : s.toList.isEmpty = false := by simpa using hs
    rw [tupText_two h hs', tailT, if_neg hs]; simp
theorem empty_of {s : ByteArray} (h : s.toList.isEmpty = true) : s = ⟨#[]⟩ := by
  refine ext_data ?_
  rw [Go.ByteArray.toList_eq] at h
  simpa using h

/-- the text behind the subject, cut -/
theorem cut_tail {o s x : ByteArray} (ho : ∀ y ∈ o.data.toList, y ≠ 35) (hx : x.data.toList = o.data.toList ++ tailT s) :
    cutA 35 x = o ∧ cutZ 35 x = s ∧ cutF 35 x = !s.toList.isEmpty := by
  by_cases hs : s.toList.isEmpty = true
  · have e : x = o := ext_data (by rw [hx, tailT, if_pos hs]; simp)
    subst e
    obtain ⟨h1, h2, h3⟩ := cut_not (c := 35) (s := x) ho
    exact ⟨h1, by rw [h2, empty_of hs], by rw [h3, hs]; rfl⟩
  · rw [tailT, if_neg hs] at hx
    obtain ⟨h1, h2, h3⟩ := cut_mid hx ho
    have hs' : s.toList.isEmpty = false := by simpa using hs
    exact ⟨ext_data h1, ext_data h2, by rw [h3, hs']; rfl⟩

/-- the document's way: at the first @, then each side at its first # -/
def sL (s : ByteArray) := cutA 64 s
def sR (s : ByteArray) := cutZ 64 s
def sAcc (s : ByteArray) : Bool :=
  cutF 64 s && rdB (cutA 35 (sL s)) && rdB (cutA 35 (sR s)) &&
  tupB (rdT (cutA 35 (sL s))) (rdI (cutA 35 (sL s))) (cutZ 35 (sL s)) (rdT (cutA 35 (sR s))) (rdI (cutA 35 (sR s))) (cutZ 35 (sR s)) &&
  !(cutF 35 (sR s) && (cutZ 35 (sR s)).toList.isEmpty)

/-- the program's way: at the first #, then the first @ behind it, then the first # behind that -/
def i1 (s : ByteArray) := cutZ 35 s
def i2 (s : ByteArray) := cutZ 64 (i1 s)

theorem spec_reads {a b r c d t s : ByteArray} (h : tupB a b r c d t = true) (hs : tupText a b r c d t = s) :
    cutF 64 s = true ∧ cutA 35 (sL s) = objText a b ∧ cutZ 35 (sL s) = r ∧ cutA 35 (sR s) = objText c d ∧ cutZ 35 (sR s) = t ∧ cutF 35 (sR s) = !t.toList.isEmpty := by
  obtain ⟨h1, h2, h3, h4⟩ := tupB_parts h
  have hl := tupText_list h
  rw [hs] at hl
  have hl2 : s.data.toList = ((objText a b).data.toList ++ 35 :: r.data.toList) ++ 64 :: ((objText c d).data.toList ++ tailT t) := by rw [hl]; simp
  obtain ⟨c1, c2, c3⟩ := cut_mid hl2 (fun x hx => by
    simp only [List.mem_append, List.mem_cons] at hx
    rcases hx with hx | hx | hx
    · exact (objText_plain h1 x hx).2
    · subst hx; decide
    · exact (nameB_plain h2 x hx).2.2)
  obtain ⟨d1, d2, -⟩ := cut_mid (s := sL s) c1 (fun x hx => (objText_plain h1 x hx).1)
  obtain ⟨e1, e2, e3⟩ := cut_tail (o := objText c d) (s := t) (x := sR s) (fun x hx => (objText_plain h3 x hx).1) c2
  exact ⟨c3, ext_data d1, ext_data d2, e1, e2, e3⟩

theorem impl_reads {a b r c d t s : ByteArray} (h : tupB a b r c d t = true) (hs : tupText a b r c d t = s) :
    cutA 35 s = objText a b ∧ cutA 64 (i1 s) = r ∧ cutA 35 (i2 s) = objText c d ∧ cutZ 35 (i2 s) = t := by
  obtain ⟨h1, h2, h3, h4⟩ := tupB_parts h
  have hl := tupText_list h
  rw [hs] at hl
  obtain ⟨c1, c2, -⟩ := cut_mid hl (fun x hx => (objText_plain h1 x hx).1)
  obtain ⟨d1, d2, -⟩ := cut_mid (s := i1 s) c2 (fun x hx => (nameB_plain h2 x hx).2.2)
  obtain ⟨e1, e2, -⟩ := cut_tail (o := objText c d) (s := t) (x := i2 s) (fun x hx => (objText_plain h3 x hx).1) d2
  exact ⟨ext_data c1, ext_data d1, e1, e2⟩

/-- what a text is read as: a right tuple with that text; or nothing, and there is none -/
def ReadAs (s a b r c d t : ByteArray) (f : Bool) : Prop :=
  (f = true ∧ tupB a b r c d t = true ∧ tupText a b r c d t = s) ∨
  (f = false ∧ (a = ⟨#[]⟩ ∧ b = ⟨#[]⟩ ∧ r = ⟨#[]⟩ ∧ c = ⟨#[]⟩ ∧ d = ⟨#[]⟩ ∧ t = ⟨#[]⟩) ∧ ∀ a b r c d t, tupB a b r c d t = true → tupText a b r c d t ≠ s)

theorem tupText_inj {a b r c d t a' b' r' c' d' t' : ByteArray} (h : tupB a b r c d t = true) (h' : tupB a' b' r' c' d' t' = true) (e : tupText a b r c d t = tupText a' b' r' c' d' t') :
    a = a' ∧ b = b' ∧ r = r' ∧ c = c' ∧ d = d' ∧ t = t' := by
  obtain ⟨x1, x2, x3, x4⟩ := impl_reads h e
  obtain ⟨y1, y2, y3, y4⟩ := impl_reads h' rfl
  obtain ⟨p1, p2, p3, p4⟩ := tupB_parts h
  obtain ⟨q1, q2, q3, q4⟩ := tupB_parts h'
  have o1 : objText a b = objText a' b' := x1.symm.trans y1
  have o2 : objText c d = objText c' d' := x3.symm.trans y3
  obtain ⟨-, u1, u2⟩ := rd_objText p1
  obtain ⟨-, v1, v2⟩ := rd_objText q1
  obtain ⟨-, u3, u4⟩ := rd_objText p3
  obtain ⟨-, v3, v4⟩ := rd_objText q3
  rw [o1] at u1 u2
  rw [o2] at u3 u4
  exact ⟨u1.symm.trans v1, u2.symm.trans v2, x2.symm.trans y2, u3.symm.trans v3, u4.symm.trans v4, x4.symm.trans y4⟩

theorem ReadAs.one {s a b r c d t a' b' r' c' d' t' : ByteArray} {f f' : Bool} (h : ReadAs s a b r c d t f) (h' : ReadAs s a' b' r' c' d' t' f') :
    (a = a' ∧ b = b' ∧ r = r' ∧ c = c' ∧ d = d' ∧ t = t') ∧ f = f' := by
  rcases h with ⟨rfl, h1, h2⟩ | ⟨rfl, h1, h2⟩
  · rcases h' with ⟨rfl, k1, k2⟩ | ⟨rfl, k1, k2⟩
    · exact ⟨tupText_inj h1 k1 (h2.trans k2.symm), rfl⟩
    · exact absurd h2 (k2 _ _ _ _ _ _ h1)
  · rcases h' with ⟨rfl, k1, k2⟩ | ⟨rfl, k1, k2⟩
    · exact absurd k2 (h2 _ _ _ _ _ _ k1)
    · obtain ⟨rfl, rfl, rfl, rfl, rfl, rfl⟩ := h1
      obtain ⟨rfl, rfl, rfl, rfl, rfl, rfl⟩ := k1
      exact ⟨⟨rfl, rfl, rfl, rfl, rfl, rfl⟩, rfl⟩

/-- the document's way is right -/
theorem spec_yes {s : ByteArray} (h : sAcc s = true) :
    ReadAs s (rdT (cutA 35 (sL s))) (rdI (cutA 35 (sL s))) (cutZ 35 (sL s)) (rdT (cutA 35 (sR s))) (rdI (cutA 35 (sR s))) (cutZ 35 (sR s)) true := by
  simp only [sAcc, Bool.and_eq_true, Bool.not_eq_true'] at h
  obtain ⟨⟨⟨⟨h1, h2⟩, h3⟩, h4⟩, h5⟩ := h
  refine .inl ⟨rfl, h4, ext_data ?_⟩
  obtain ⟨p1, p2, p3, p4⟩ := tupB_parts h4
  have fL : cutF 35 (sL s) = true := by
    cases hc : cutF 35 (sL s) with
    | true => rfl
    | false =>
      have := cut_miss hc
      rw [this] at p2
      exact absurd p2 (by decide)
  rw [tupText_list h4, (rdB_text h2).2, (rdB_text h3).2]
  have e1 := cut_found h1
  have e2 := cut_found fL
  have e3 : (sR s).data.toList = (cutA 35 (sR s)).data.toList ++ tailT (cutZ 35 (sR s)) := by
    cases hm : cutF 35 (sR s) with
    | true =>
      have hne : (cutZ 35 (sR s)).toList.isEmpty = false := by simpa [hm] using h5
      rw [tailT, if_neg (by simp [hne])]; exact cut_found hm
    | false =>
      have hz := cut_miss hm
      have he : (cutZ 35 (sR s)).toList.isEmpty = true := by rw [hz, Go.ByteArray.toList_eq]; rfl
      rw [tailT, if_pos he]
      have hn : ∀ x ∈ (sR s).data.toList, x ≠ 35 := by
        intro x hx hx35
        subst hx35
        obtain ⟨l, m, hlm, hl⟩ := List.eq_append_cons_of_mem hx
        have := (cut_mid (s := sR s) hlm (fun y hy => by intro e; subst e; exact hl hy)).2.2
        rw [this] at hm; cases hm
      rw [(cut_not hn).1]; simp
  have e1' : s.data.toList = (sL s).data.toList ++ 64 :: (sR s).data.toList := e1
  rw [e1', e3, e2]; simp

theorem spec_no {s : ByteArray} (h : sAcc s = false) : ReadAs s ⟨#[]⟩ ⟨#[]⟩ ⟨#[]⟩ ⟨#[]⟩ ⟨#[]⟩ ⟨#[]⟩ false := by
  refine .inr ⟨rfl, ⟨rfl, rfl, rfl, rfl, rfl, rfl⟩, ?_⟩
  intro a b r c d t ht hs
  obtain ⟨x0, x1, x2, x3, x4, x5⟩ := spec_reads ht hs
  obtain ⟨p1, p2, p3, p4⟩ := tupB_parts ht
  obtain ⟨u0, u1, u2⟩ := rd_objText p1
  obtain ⟨v0, v1, v2⟩ := rd_objText p3
  have : sAcc s = true := by
    simp only [sAcc, x0, x1, x2, x3, x4, x5, u0, u1, u2, v0, v1, v2, ht]
    cases t.toList.isEmpty <;> rfl
  rw [this] at h; cases h

/-- the program's way is right -/
def iAcc (s : ByteArray) : Bool :=
  tupB (rdT (cutA 35 s)) (rdI (cutA 35 s)) (cutA 64 (i1 s)) (rdT (cutA 35 (i2 s))) (rdI (cutA 35 (i2 s))) (cutZ 35 (i2 s)) &&
  ((tupText (rdT (cutA 35 s)) (rdI (cutA 35 s)) (cutA 64 (i1 s)) (rdT (cutA 35 (i2 s))) (rdI (cutA 35 (i2 s))) (cutZ 35 (i2 s))).toList == s.toList)
theorem impl_yes {s : ByteArray} (h : iAcc s = true) :
    ReadAs s (rdT (cutA 35 s)) (rdI (cutA 35 s)) (cutA 64 (i1 s)) (rdT (cutA 35 (i2 s))) (rdI (cutA 35 (i2 s))) (cutZ 35 (i2 s)) true := by
  simp only [iAcc, Bool.and_eq_true, beq_iff_eq] at h
  refine .inl ⟨rfl, h.1, ext_data ?_⟩
  have := h.2
  rw [Go.ByteArray.toList_eq, Go.ByteArray.toList_eq] at this
  exact this
theorem impl_no {s : ByteArray} (h : iAcc s = false) : ReadAs s ⟨#[]⟩ ⟨#[]⟩ ⟨#[]⟩ ⟨#[]⟩ ⟨#[]⟩ ⟨#[]⟩ false := by
  refine .inr ⟨rfl, ⟨rfl, rfl, rfl, rfl, rfl, rfl⟩, ?_⟩
  intro a b r c d t ht hs
  obtain ⟨x1, x2, x3, x4⟩ := impl_reads ht hs
  obtain ⟨p1, p2, p3, p4⟩ := tupB_parts ht
  obtain ⟨u0, u1, u2⟩ := rd_objText p1
  obtain ⟨v0, v1, v2⟩ := rd_objText p3
  have : iAcc s = true := by simp [iAcc, x1, x2, x3, x4, u1, u2, v1, v2, ht, hs]
  rw [this] at h; cases h

end Go.Proofs.Ytgifbgcnlijjiaa.Pl
