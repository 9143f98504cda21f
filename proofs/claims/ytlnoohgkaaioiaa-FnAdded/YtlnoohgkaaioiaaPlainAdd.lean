/- What is added and taken away again, and the other way round. -/
import Derived.Test.YtlnoohgkaaioiaaSpecAddRem
import Derived.Test.YtlnoohgkaaioiaaImplAddRem
namespace Go.Proofs.Ytlnoohgkaaioiaa
open Pl

theorem tupsB_of {ts : List Tp} (hu : Up ts) (hok : ∀ t ∈ ts, t.ok = true) (hl : ts.length ≤ 40) : tupsB ts = true := by
  unfold tupsB upOk
  simp only [Bool.and_eq_true, decide_eq_true_eq]
  refine ⟨hl, List.all_eq_true.2 fun i hi => ?_⟩
  have hi' : i < ts.length := List.mem_range.1 hi
  cases i with
  | zero => rw [okAt_zero hi']; exact hok _ (List.getElem_mem _)
  | succ j =>
    rw [okAt_succ hi']
    simp only [Bool.and_eq_true]
    exact ⟨hok _ (List.getElem_mem _), List.pairwise_iff_getElem.1 hu j (j + 1) (by omega) hi' (by omega)⟩
theorem dropT_less {ts : List Tp} {t : Tp} (h : t ∈ ts) : (dropT ts t).length < ts.length := by
  unfold dropT
  refine List.length_filter_lt_length_iff_exists.2 ⟨t, h, ?_⟩
  rw [tpEq_iff.2 rfl]; simp
theorem hasT_no {ts : List Tp} {t : Tp} (h : t ∉ ts) : hasT ts t = false := by
  cases e : hasT ts t with
  | false => rfl
  | true => exact absurd (hasT_iff.1 e) h
theorem back_add {ts : List Tp} {t : Tp} (h : remB ts t = true) : addB (remL ts t) t = true ∧ addL (remL ts t) t = ts ∧ hasT (remL ts t) t = false ∧ remL ts t = dropT ts t := by
  have hL := remL_yes h
  rw [hL]
  unfold remB at h
  simp only [Bool.and_eq_true] at h
  obtain ⟨h1, h2⟩ := h
  obtain ⟨hu, hok, hl⟩ := up_of h1
  have hm := hasT_iff.1 h2
  have hnm : t ∉ dropT ts t := fun k => ((dropT_mem ts t t).1 k).2 rfl
  have hok2 : ∀ x ∈ dropT ts t, x.ok = true := fun x hx => hok x ((dropT_mem ts t x).1 hx).1
  have hlt := dropT_less hm
  have hB : addB (dropT ts t) t = true := by
    unfold addB
    rw [tupsB_of (dropT_up t hu) hok2 (by omega), hok t hm, hasT_no hnm]
    simp; omega
  refine ⟨hB, ?_, hasT_no hnm, rfl⟩
  rw [addL_yes hB]
  refine up_ext (putT_up (dropT_up t hu) hok2 (hok t hm) hnm) hu fun x => ?_
  rw [putT_mem, dropT_mem]
  by_cases e : x = t
  · subst e; simp [hm]
  · simp [e]
theorem back_rem {ts : List Tp} {t : Tp} (h : addB ts t = true) : remB (addL ts t) t = true ∧ remL (addL ts t) t = ts ∧ tupsB (addL ts t) = true ∧ hasT (addL ts t) t = true ∧ addL ts t = putT ts t := by
  have hL := addL_yes h
  rw [hL]
  unfold addB at h
  simp only [Bool.and_eq_true, Bool.not_eq_true', beq_eq_false_iff_ne] at h
  obtain ⟨⟨⟨h1, h2⟩, h3⟩, h4⟩ := h
  obtain ⟨hu, hok, hl⟩ := up_of h1
  have hnm : t ∉ ts := fun k => by rw [hasT_iff.2 k] at h3; cases h3
  have hU := putT_up hu hok h2 hnm
  have hok2 : ∀ x ∈ putT ts t, x.ok = true := fun x hx => by
    rcases (putT_mem ts t x).1 hx with rfl | k
    · exact h2
    · exact hok x k
  have hT : tupsB (putT ts t) = true := tupsB_of hU hok2 (by rw [putT_len]; omega)
  have hH : hasT (putT ts t) t = true := hasT_iff.2 ((putT_mem ts t t).2 (.inl rfl))
  have hB : remB (putT ts t) t = true := by unfold remB; rw [hT, hH]; rfl
  refine ⟨hB, ?_, hT, hH, rfl⟩
  rw [remL_yes hB]
  refine up_ext (dropT_up t hU) hu fun x => ?_
  rw [dropT_mem, putT_mem]
  by_cases e : x = t
  · subst e; simp [hnm]
  · simp [e]
theorem not_both {ts : List Tp} {t : Tp} (h : addB ts t = true) : remB ts t = false := by
  unfold addB at h
  simp only [Bool.and_eq_true, Bool.not_eq_true', beq_eq_false_iff_ne] at h
  unfold remB
  rw [h.1.2]; simp
end Go.Proofs.Ytlnoohgkaaioiaa
