/- What a crash leaves, told by plain lists. -/
import Derived.Test.YtbfimfmfdllejaaDkInts2
namespace Go.Proofs.Ytbfimfmfdllejaa
open Go.RowKit

/-- an op of which no more than so many bytes are left -/
def tearO (o : Dop) (t : Nat) : Dop := { o with d := o.d.extract 0 (min o.d.size t) }
def noO : Dop := ⟨0, ⟨#[]⟩, ⟨#[]⟩, ⟨#[]⟩⟩
/-- the i-th op that is kept, the last one torn -/
def keptO (os : List Dop) (ks : List Int) (t i : Nat) : Dop :=
  if i + 1 = ks.length then tearO (os.getD (numAt ks i).toNat noO) t else os.getD (numAt ks i).toNat noO
/-- the files behind the first k ops that are kept -/
def crUp (ss : List Fl) (os : List Dop) (ks : List Int) (t : Nat) : Nat → List Fl
  | 0 => ss
  | k + 1 => (doF (crUp ss os ks t k) (keptO os ks t k)).1
theorem keep_at {ks : List Int} {n i : Nat} (h : keepB ks n = true) (hi : i < ks.length) : 0 ≤ numAt ks i ∧ numAt ks i < n ∧ (i = 0 ∨ numAt ks (i - 1) < numAt ks i) := by
  rw [keepB, List.all_eq_true] at h
  have := h i (by simpa using hi)
  simp only [keptAt, Bool.and_eq_true, Bool.or_eq_true, decide_eq_true_eq] at this
  exact ⟨this.1.1, this.1.2, this.2⟩
theorem keep_ge {ks : List Int} {n : Nat} (h : keepB ks n = true) : ∀ i, i < ks.length → (i : Int) ≤ numAt ks i
  | 0, hi => (keep_at h hi).1
  | i + 1, hi => by
    have h1 := keep_ge h i (by omega)
    have h2 := (keep_at h hi).2.2
    simp only [Nat.add_sub_cancel, Nat.add_eq_zero_iff, Nat.one_ne_zero, and_false, false_or] at h2
    omega
/-- no more are kept than there are -/
theorem keep_len {ks : List Int} {n : Nat} (h : keepB ks n = true) : ks.length ≤ n := by
  by_cases hz : ks.length = 0
  · omega
  · have h1 := keep_ge h (ks.length - 1) (by omega)
    have h2 := (keep_at h (i := ks.length - 1) (by omega)).2.1
    omega
theorem run_form {ss : List Fl} {os : List Dop} (h : (runUp ss os os.length).isSome = true) (k : Nat) (hk : k < os.length) : formB os[k] = true := by
  cases hf : formB os[k] with
  | true => rfl
  | false =>
    have h1 : runUp ss os (k + 1) = none := by
      rw [runUp_succ ss os k hk]
      cases runUp ss os k with
      | none => rfl
      | some fs => simp [hf]
    rw [runUp_none h1 os.length (by omega) (Nat.le_refl _)] at h
    cases h
theorem disk_form {ls ss : List Fl} {os : List Dop} (h : diskB ls ss os = true) : (∀ o ∈ os, formB o = true) ∧ os.length ≤ 200 := by
  simp only [diskB, Bool.and_eq_true, decide_eq_true_eq] at h
  refine ⟨fun o ho => ?_, h.1.2⟩
  obtain ⟨k, hk, rfl⟩ := List.getElem_of_mem ho
  refine run_form (ss := ss) ?_ k hk
  cases hr : runUp ss os os.length with
  | none => rw [hr] at h; cases h.2
  | some fs => rfl
theorem tear_none {o : Dop} (t : Nat) (h : o.d.toList.isEmpty = true) : tearO o t = o := by
  have hz : o.d.data.toList = [] := by rw [← ByteArray.toList_eq]; simpa using h
  have hs : o.d.size = 0 := by show o.d.data.size = 0; rw [← Array.length_toList, hz]; rfl
  obtain ⟨k, n, t', d⟩ := o
  simp only [tearO, Dop.mk.injEq, true_and]
  apply ByteArray.ext
  apply Array.ext'
  simp only at hz hs
  rw [hz, hs]
  simp
/-- the document tears appends alone: the others hold nothing -/
theorem tear_not {o : Dop} (t : Nat) (h : formB o = true) (k1 : o.k ≠ 1) : tearO o t = o := by
  refine tear_none t ?_
  unfold formB at h
  rw [decide_eq_false (p := o.k = 1) k1, Bool.false_or] at h
  split at h
  all_goals
    simp only [Bool.and_eq_true] at h
    exact h.2.2
/-- an op of its form, torn, is of its form -/
theorem form_tear {o : Dop} (t : Nat) (h : formB o = true) : formB (tearO o t) = true := by
  by_cases k1 : o.k = 1
  · unfold formB at h ⊢
    have e : (tearO o t).k = o.k := rfl
    have e2 : (tearO o t).n = o.n := rfl
    have e3 : (tearO o t).t = o.t := rfl
    rw [e, e2, e3]
    rw [if_neg (by omega)] at h ⊢
    rw [decide_eq_true k1] at h ⊢
    simpa using h
  · rw [tear_not t h k1]; exact h
theorem tear_small {o : Dop} (t : Nat) (h : o.small) : (tearO o t).small := by
  refine ⟨h.1, h.2.1, ?_⟩
  have := h.2.2
  simp only [tearO, ByteArray.size_extract]
  omega
theorem kept_right {os : List Dop} {ks : List Int} {t i : Nat} (hk : keepB ks os.length = true) (hi : i < ks.length) (hf : ∀ o ∈ os, formB o = true) (hs : ∀ o ∈ os, o.small) : formB (keptO os ks t i) = true ∧ (keptO os ks t i).small := by
  obtain ⟨h0, h1, -⟩ := keep_at hk hi
  have hlt : (numAt ks i).toNat < os.length := by omega
  have hm : os.getD (numAt ks i).toNat noO ∈ os := by rw [List.getD_eq_getElem?_getD, List.getElem?_eq_getElem hlt]; exact List.getElem_mem hlt
  unfold keptO
  split
  · exact ⟨form_tear t (hf _ hm), tear_small t (hs _ hm)⟩
  · exact ⟨hf _ hm, hs _ hm⟩
theorem insF_len (x dt : ByteArray) : ∀ fs : List Fl, (insF x dt fs).length ≤ fs.length + 1
  | [] => by simp [insF]
  | f :: l => by
    have := insF_len x dt l
    have h2 := List.length_filter_le (fun g : Fl => !eqS g.n x) (f :: l)
    rw [insF]
    by_cases hc : lessS f.n x = true
    · rw [if_pos hc, List.length_cons, List.length_cons]; omega
    · rw [if_neg hc, List.length_cons]; omega
/-- one op adds no more than one file and its own bytes -/
theorem doF_grow {fs : List Fl} {o : Dop} {A B : Nat} (hf : ∀ f ∈ fs, f.d.size ≤ A) (hl : fs.length ≤ B) (ho : o.small) : (∀ f ∈ (doF fs o).1, f.d.size ≤ A + 2097152) ∧ (doF fs o).1.length ≤ B + 1 := by
  have hd := dataF_le hf o.n
  have ho3 := ho.2.2
  by_cases k1 : o.k = 1
  · rw [doF_add fs k1]
    refine ⟨fun f h => ?_, Nat.le_trans (insF_len _ _ _) (by omega)⟩
    rcases (insF_mem _ _ _ f).1 h with rfl | h
    · show (dataF fs o.n ++ o.d).size ≤ _
      rw [ByteArray.size_append]; omega
    · exact Nat.le_trans (hf f h.1) (by omega)
  · cases hh : hasF fs o.n with
    | false => rw [doF_none fs k1 hh]; exact ⟨fun f h => Nat.le_trans (hf f h) (by omega), by simp only; omega⟩
    | true =>
      have hc := cutF_len fs o.n
      by_cases k2 : o.k = 2
      · rw [doF_ren fs k2 hh]
        refine ⟨fun f h => ?_, Nat.le_trans (insF_len _ _ _) (by omega)⟩
        rcases (insF_mem _ _ _ f).1 h with rfl | h
        · exact Nat.le_trans hd (by omega)
        · exact Nat.le_trans (hf f ((cutF_mem_iff _ _ f).1 h.1).1) (by omega)
      · rw [doF_rem fs k1 k2 hh]
        exact ⟨fun f h => Nat.le_trans (hf f ((cutF_mem_iff _ _ f).1 h).1) (by omega), by simp only; omega⟩
/-- what holds of the files all the way -/
theorem crUp_right {ss : List Fl} {os : List Dop} {ks : List Int} {t : Nat} (hk : keepB ks os.length = true) (hf : ∀ o ∈ os, formB o = true) (hs : ∀ o ∈ os, o.small) (hu : UpL ss) (hn : NamesL ss) (hd : ∀ f ∈ ss, f.d.size ≤ 200000) (hl : ss.length ≤ 60) :
    ∀ k, k ≤ ks.length → UpL (crUp ss os ks t k) ∧ NamesL (crUp ss os ks t k) ∧ (∀ f ∈ crUp ss os ks t k, f.d.size ≤ 200000 + k * 2097152) ∧ (crUp ss os ks t k).length ≤ 60 + k
  | 0, _ => ⟨hu, hn, fun f h => Nat.le_trans (hd f h) (by omega), hl⟩
  | k + 1, hk1 => by
    obtain ⟨h1, h2, h3, h4⟩ := crUp_right (t := t) hk hf hs hu hn hd hl k (by omega)
    obtain ⟨o1, o2⟩ := kept_right (t := t) hk (show k < ks.length by omega) hf hs
    obtain ⟨r1, r2⟩ := doF_right h1 h2 o1
    obtain ⟨g1, g2⟩ := doF_grow h3 h4 o2
    exact ⟨r1, r2, fun f h => Nat.le_trans (g1 f h) (by omega), g2⟩
end Go.Proofs.Ytbfimfmfdllejaa
