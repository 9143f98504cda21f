/- The program's raising of strata in plain words. -/
import Derived.Test.YtmghabcaakgjiaaGreatImplLeaners
namespace Go.Proofs.YtmghabcaakgjiaaGreat
open Pl

/-- the edges of a schema, as the program lists them -/
def Edge (ts : List Ty) (E : List (Ky × St)) : Prop := ∀ on t r s, (on, ⟨t, r, s⟩) ∈ E ↔ (t, r) ∈ ents ts ∧ ∃ d ∈ depsK ts (t, r), (d.typ, d.rel) = on ∧ stepOf d = s

def valO : Option Int → Int
  | none => 0
  | some x => x + 1
/-- how much may still be raised -/
def muL (N : Nat) (σ : Ky → Option Int) : List Ky → Int
  | [] => 0
  | k :: ks => ((N : Int) - valO (σ k)) + muL N σ ks
structure Rz (ts : List Ty) (N : Nat) (σ : Ky → Option Int) : Prop where
  there : ∀ k x, σ k = some x → k ∈ ents ts ∧ 0 ≤ x ∧ x < N ∧ LowK ts k x
def upS (σ : Ky → Option Int) (k : Ky) (x : Int) : Ky → Option Int := fun y => if y = k then some x else σ y
theorem upS_same (σ : Ky → Option Int) (k : Ky) (x : Int) : upS σ k x k = some x := by simp [upS]
theorem upS_other {σ : Ky → Option Int} {k y : Ky} {x : Int} (h : y ≠ k) : upS σ k x y = σ y := by simp [upS, h]
theorem Rz.val {ts : List Ty} {N : Nat} {σ : Ky → Option Int} (h : Rz ts N σ) (k : Ky) : 0 ≤ valO (σ k) ∧ valO (σ k) ≤ N := by
  cases e : σ k with
  | none => simp [valO]
  | some x => have := h.there k x e; simp only [valO]; omega
theorem Rz.mu_pos {ts : List Ty} {N : Nat} {σ : Ky → Option Int} (h : Rz ts N σ) (ks : List Ky) : 0 ≤ muL N σ ks := by
  induction ks with
  | nil => simp [muL]
  | cons k ks ih => have := h.val k; simp only [muL]; omega
theorem Rz.set {ts : List Ty} {N : Nat} {σ : Ky → Option Int} (h : Rz ts N σ) {k : Ky} {x : Int} (hk : k ∈ ents ts) (h0 : 0 ≤ x) (hN : x < N) (hl : LowK ts k x) : Rz ts N (upS σ k x) := ⟨fun y z hz => by
  by_cases e : y = k
  · subst e; rw [upS_same] at hz; injection hz with hz; subst hz; exact ⟨hk, h0, hN, hl⟩
  · rw [upS_other e] at hz; exact h.there y z hz⟩
/-- σ has grown to σ' -/
def Mono (σ σ' : Ky → Option Int) : Prop := ∀ k x, σ k = some x → ∃ y, σ' k = some y ∧ x ≤ y
theorem Mono.refl (σ : Ky → Option Int) : Mono σ σ := fun _ x h => ⟨x, h, Int.le_refl _⟩
theorem Mono.trans {a b c : Ky → Option Int} (h : Mono a b) (h2 : Mono b c) : Mono a c := fun k x hx => by
  obtain ⟨y, hy, h3⟩ := h k x hx
  obtain ⟨z, hz, h4⟩ := h2 k y hy
  exact ⟨z, hz, by omega⟩
theorem Mono.val {σ σ' : Ky → Option Int} {ts : List Ty} {N : Nat} (h : Mono σ σ') (hR : Rz ts N σ') (k : Ky) : valO (σ k) ≤ valO (σ' k) := by
  cases e : σ k with
  | none => exact (hR.val k).1
  | some x => obtain ⟨y, hy, h2⟩ := h k x e; rw [hy]; simp only [valO]; omega
theorem Mono.mu {σ σ' : Ky → Option Int} {ts : List Ty} {N : Nat} (h : Mono σ σ') (hR : Rz ts N σ') (ks : List Ky) : muL N σ' ks ≤ muL N σ ks := by
  induction ks with
  | nil => exact Int.le_refl _
  | cons k ks ih => have := h.val hR k; simp only [muL]; omega
theorem up_mono {σ : Ky → Option Int} {k : Ky} {x : Int} (h : ∀ y, σ k = some y → y < x) : Mono σ (upS σ k x) := fun y z hz => by
  by_cases e : y = k
  · subst e; exact ⟨x, upS_same _ _ _, by have := h z hz; omega⟩
  · exact ⟨z, by rw [upS_other e]; exact hz, Int.le_refl _⟩
theorem up_mu {σ : Ky → Option Int} {ts : List Ty} {N : Nat} {k : Ky} {x : Int} (hR : Rz ts N (upS σ k x)) (h : ∀ y, σ k = some y → y < x) (h0 : 0 ≤ x) (ks : List Ky) (hk : k ∈ ks) : muL N (upS σ k x) ks + 1 ≤ muL N σ ks := by
  induction ks with
  | nil => cases hk
  | cons y ks ih =>
    simp only [muL]
    have hm := (up_mono h).mu hR ks
    have hv := (up_mono h).val hR y
    rcases List.mem_cons.1 hk with rfl | hk
    · have : valO (σ k) + 1 ≤ valO (upS σ k x k) := by
        rw [upS_same]
        cases e : σ k with
        | none => simp only [valO]; omega
        | some z => have := h z e; simp only [valO]; omega
      omega
    · have := ih hk; omega

/-- all that leans on k stands as far above it as it must -/
def Settled (E : List (Ky × St)) (σ : Ky → Option Int) (k : Ky) : Prop := ∀ x, σ k = some x → ∀ s ∈ lookL E k, ∃ y, σ s.key = some y ∧ x + s.n ≤ y
/-- what a raising leaves behind -/
structure Raised (E : List (Ky × St)) (σ σ' : Ky → Option Int) : Prop where
  mono : Mono σ σ'
  done : ∀ k, (Settled E σ k ∨ σ' k ≠ σ k) → Settled E σ' k
theorem Raised.refl (E : List (Ky × St)) (σ : Ky → Option Int) : Raised E σ σ := ⟨Mono.refl _, fun _ h => h.elim id (fun e => absurd rfl e)⟩
theorem Raised.trans {E : List (Ky × St)} {a b c : Ky → Option Int} (h : Raised E a b) (h2 : Raised E b c) : Raised E a c := ⟨h.mono.trans h2.mono, fun k hk => by
  by_cases e : c k = b k
  · by_cases e2 : b k = a k
    · rcases hk with hk | hk
      · exact h2.done k (.inl (h.done k (.inl hk)))
      · exact absurd (e.trans e2) hk
    · exact h2.done k (.inl (h.done k (.inr e2)))
  · exact h2.done k (.inr e)⟩
/-- half way: the key is set to x, and the first j that lean on it have been raised -/
structure Half (E : List (Ky × St)) (σ : Ky → Option Int) (key : Ky) (x : Int) (j : Nat) (σ' : Ky → Option Int) : Prop where
  mono : Mono σ σ'
  done : ∀ k, k ≠ key → (Settled E σ k ∨ σ' k ≠ σ k) → Settled E σ' k
  own : Settled E σ' key ∨ (σ' key = some x ∧ ∀ s ∈ (lookL E key).take j, ∃ y, σ' s.key = some y ∧ x + s.n ≤ y)
  at' : ∃ y, σ' key = some y ∧ x ≤ y
theorem Half.start {E : List (Ky × St)} {σ : Ky → Option Int} {key : Ky} {x : Int} (h : ∀ y, σ key = some y → y < x) : Half E σ key x 0 (upS σ key x) where
  mono := up_mono h
  done k hk hs := by
    have e : upS σ key x k = σ k := upS_other hk
    rcases hs with hs | hs
    · intro z hz s hm
      rw [e] at hz
      obtain ⟨y, hy, hle⟩ := hs z hz s hm
      obtain ⟨y', hy', h2⟩ := up_mono h _ y hy
      exact ⟨y', hy', by omega⟩
    · exact absurd e hs
  own := .inr ⟨upS_same _ _ _, fun s hs => by simp at hs⟩
  at' := ⟨x, upS_same _ _ _, Int.le_refl _⟩
theorem Half.step {E : List (Ky × St)} {σ σ1 σ2 : Ky → Option Int} {key : Ky} {x : Int} {j : Nat} (h : Half E σ key x j σ1) (hj : j < (lookL E key).length) (hR : Raised E σ1 σ2) (hy : ∃ y, σ2 (lookL E key)[j].key = some y ∧ x + (lookL E key)[j].n ≤ y) : Half E σ key x (j + 1) σ2 where
  mono := h.mono.trans hR.mono
  done k hk hs := by
    by_cases e : σ2 k = σ1 k
    · by_cases e2 : σ1 k = σ k
      · rcases hs with hs | hs
        · exact hR.done k (.inl (h.done k hk (.inl hs)))
        · exact absurd (e.trans e2) hs
      · exact hR.done k (.inl (h.done k hk (.inr e2)))
    · exact hR.done k (.inr e)
  own := by
    rcases h.own with ho | ⟨h1, h2⟩
    · exact .inl (hR.done key (.inl ho))
    · by_cases e : σ2 key = σ1 key
      · refine .inr ⟨e.trans h1, fun s hs => ?_⟩
        rw [List.take_succ_eq_append_getElem hj] at hs
        rcases List.mem_append.1 hs with hs | hs
        · obtain ⟨y, hy1, hy2⟩ := h2 s hs
          obtain ⟨z, hz, h3⟩ := hR.mono _ y hy1
          exact ⟨z, hz, by omega⟩
        · simp at hs; subst hs; exact hy
      · exact .inl (hR.done key (.inr e))
  at' := by
    obtain ⟨y, hy, h1⟩ := h.at'
    obtain ⟨z, hz, h2⟩ := hR.mono key y hy
    exact ⟨z, hz, by omega⟩
theorem Half.full {E : List (Ky × St)} {σ σ' : Ky → Option Int} {key : Ky} {x : Int} {j : Nat} (h : Half E σ key x j σ') (hj : (lookL E key).length ≤ j) : Raised E σ σ' where
  mono := h.mono
  done k hk := by
    by_cases e : k = key
    · subst e
      rcases h.own with ho | ⟨h1, h2⟩
      · exact ho
      · intro z hz s hs
        rw [h1] at hz; injection hz with hz; subst hz
        exact h2 s (by rw [List.take_of_length_le hj]; exact hs)
    · exact h.done k e hk
/-- all are there and settled: the least strata -/
theorem raised_least {ts : List Ty} {N : Nat} {E : List (Ky × St)} {σ : Ky → Option Int} (hE : Edge ts E) (hF : Found ts) (hR : Rz ts N σ) (hall : ∀ k ∈ ents ts, ∃ x, σ k = some x) (hs : ∀ k, Settled E σ k) : Least ts (fun k => (σ k).getD 0) where
  sol := ⟨fun k => by
      cases e : σ k with
      | none => exact Int.le_refl _
      | some x => exact (hR.there k x e).2.1, fun k hk d hd => by
      obtain ⟨x, hx⟩ := hall _ (hF k hk d hd)
      have hm : (⟨k.1, k.2, stepOf d⟩ : St) ∈ lookL E (d.typ, d.rel) := mem_lookL.2 ((hE _ _ _ _).2 ⟨hk, d, hd, rfl, rfl⟩)
      obtain ⟨y, hy, h2⟩ := hs _ x hx _ hm
      have hy' : σ k = some y := hy
      simp only [hx, hy', Option.getD_some]
      exact h2⟩
  low k hk := by
    obtain ⟨x, hx⟩ := hall k hk
    simp only [hx, Option.getD_some]
    exact (hR.there k x hx).2.2.2
theorem Edge.low {ts : List Ty} {E : List (Ky × St)} (hE : Edge ts E) {k : Ky} {x : Int} (hl : LowK ts k x) {s : St} (hs : s ∈ lookL E k) : s.key ∈ ents ts ∧ LowK ts s.key (x + s.n) ∧ 0 ≤ s.n ∧ s.n ≤ 1 := by
  obtain ⟨h1, d, hd, e1, e2⟩ := (hE k s.typ s.rel s.n).1 (mem_lookL.1 hs)
  have := stepOf_pos d
  refine ⟨h1, ?_, by omega, by omega⟩
  rw [← e2]
  exact LowK.step h1 hd (by rw [e1]; exact hl)
end Go.Proofs.YtmghabcaakgjiaaGreat
