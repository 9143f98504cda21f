/- Strata in plain words: what they must keep, the least ones, and that they are few. Nothing of the program is read here. -/
import Derived.Test.YtpmgkkbkficgpaaSpecSchema7
namespace Go.Proofs.Ytpmgkkbkficgpaa
open Pl

theorem ba_ext {a b : ByteArray} (h : a.toList = b.toList) : a = b := by
  rw [Go.ByteArray.toList_eq, Go.ByteArray.toList_eq] at h
  cases a with | mk x => cases b with | mk y =>
  congr
  exact Array.ext' h
theorem ba_beq {a b : ByteArray} : (a.toList == b.toList) = true ↔ a = b := ⟨fun h => ba_ext (by simpa using h), fun h => by simp [h]⟩

/-- all relations, type by type -/
def entsT (t : Ty) : List (ByteArray × ByteArray) := t.rels.map fun r => (t.name, r.name)
def ents (ts : List Ty) : List (ByteArray × ByteArray) := ts.flatMap entsT
def stepOf (d : Dp) : Int := if d.neg then 1 else 0
def depsK (ts : List Ty) (k : ByteArray × ByteArray) : List Dp := depsP ts k.1 (relOr ts k.1 k.2)
/-- numbers that keep what is asked of strata -/
structure Sol (ts : List Ty) (f : ByteArray × ByteArray → Int) : Prop where
  pos : ∀ k, 0 ≤ f k
  up : ∀ k ∈ ents ts, ∀ d ∈ depsK ts k, f (d.typ, d.rel) + stepOf d ≤ f k
/-- whatever a relation leans on is there -/
def Found (ts : List Ty) : Prop := ∀ k ∈ ents ts, ∀ d ∈ depsK ts k, (d.typ, d.rel) ∈ ents ts

theorem countP_mono (vs : List Int) (x y : Int) (h : x ≤ y) : vs.countP (fun v => decide (v < x)) ≤ vs.countP (fun v => decide (v < y)) :=
  List.countP_mono_left fun v _ hv => by simp at hv ⊢; omega
theorem countP_up (vs : List Int) (x y : Int) (h : x + 1 ≤ y) (hx : x ∈ vs) : vs.countP (fun v => decide (v < x)) + 1 ≤ vs.countP (fun v => decide (v < y)) := by
  induction vs with
  | nil => cases hx
  | cons v vs ih =>
    simp only [List.countP_cons]
    rcases List.mem_cons.1 hx with rfl | hm
    · have := countP_mono vs x y (by omega)
      have h1 : decide (x < x) = false := by simp
      have h2 : decide (x < y) = true := by simp; omega
      simp only [h1, h2]; simp; omega
    · have := ih hm
      by_cases h1 : v < x
      · have h2 : v < y := by omega
        simp [h1, h2]; omega
      · simp only [h1]; simp; omega
theorem countP_few (vs : List Int) (x : Int) (hx : x ∈ vs) : vs.countP (fun v => decide (v < x)) + 1 ≤ vs.length := by
  induction vs with
  | nil => cases hx
  | cons v vs ih =>
    simp only [List.countP_cons, List.length_cons]
    rcases List.mem_cons.1 hx with rfl | hm
    · have := List.countP_le_length (p := fun v => decide (v < x)) (l := vs)
      have h1 : decide (x < x) = false := by simp
      simp only [h1]; simp; omega
    · have := ih hm
      split <;> omega

/-- where there are strata there are few of them -/
theorem Sol.few {ts : List Ty} {f : ByteArray × ByteArray → Int} (h : Sol ts f) (hF : Found ts) : ∃ g, Sol ts g ∧ ∀ k ∈ ents ts, g k + 1 ≤ (ents ts).length := by
  refine ⟨fun k => ((((ents ts).map f).countP (fun v => decide (v < f k)) : Nat) : Int), ⟨fun k => by omega, fun k hk d hd => ?_⟩, fun k hk => ?_⟩
  · have h1 := h.up k hk d hd
    have h2 : f (d.typ, d.rel) ∈ (ents ts).map f := List.mem_map_of_mem (hF k hk d hd)
    unfold stepOf at h1 ⊢
    split at h1
    · rename_i hn
      have := countP_up ((ents ts).map f) _ _ h1 h2
      simp only [hn, if_true]; omega
    · rename_i hn
      have := countP_mono ((ents ts).map f) _ _ (show f (d.typ, d.rel) ≤ f k by omega)
      have e0 : (if d.neg = true then (1 : Int) else 0) = 0 := if_neg hn
      rw [e0]; omega
  · have := countP_few ((ents ts).map f) (f k) (List.mem_map_of_mem hk)
    simp at this ⊢; omega

/-- numbers that are no more than any strata -/
def LowK (ts : List Ty) (k : ByteArray × ByteArray) (n : Int) : Prop := ∀ f, Sol ts f → n ≤ f k
theorem no_sol {ts : List Ty} (hF : Found ts) {k : ByteArray × ByteArray} (hk : k ∈ ents ts) {n : Int} (hl : LowK ts k n) (hn : ((ents ts).length : Int) ≤ n) : ¬ ∃ f, Sol ts f := by
  rintro ⟨f, hf⟩
  obtain ⟨g, hg, hb⟩ := hf.few hF
  have := hl g hg
  have := hb k hk
  omega
theorem LowK.step {ts : List Ty} {k : ByteArray × ByteArray} (hk : k ∈ ents ts) {d : Dp} (hd : d ∈ depsK ts k) {n : Int} (hl : LowK ts (d.typ, d.rel) n) : LowK ts k (n + stepOf d) := fun f hf => by
  have h1 := hl f hf
  have h2 := hf.up k hk d hd
  omega
theorem LowK.zero (ts : List Ty) (k : ByteArray × ByteArray) : LowK ts k 0 := fun _ hf => hf.pos k

/-- the least strata -/
structure Least (ts : List Ty) (f : ByteArray × ByteArray → Int) : Prop where
  sol : Sol ts f
  low : ∀ k ∈ ents ts, LowK ts k (f k)
theorem Least.same {ts : List Ty} {f g : ByteArray × ByteArray → Int} (hf : Least ts f) (hg : Least ts g) (k : ByteArray × ByteArray) (hk : k ∈ ents ts) : f k = g k := by
  have h1 := hf.low k hk g hg.sol
  have h2 := hg.low k hk f hf.sol
  omega

/-! ### the document's rounds -/
def St.key (s : St) : ByteArray × ByteArray := (s.typ, s.rel)
def keysS (out : List St) : List (ByteArray × ByteArray) := out.map St.key
theorem isSt_iff {s : St} {k : ByteArray × ByteArray} : isSt s k.1 k.2 = true ↔ s.key = k := by
  unfold isSt St.key
  rw [Bool.and_eq_true, ba_beq, ba_beq]
  constructor
  · rintro ⟨h1, h2⟩; rw [h1, h2]
  · rintro rfl; exact ⟨rfl, rfl⟩
def strAt (out : List St) (k : ByteArray × ByteArray) : Int :=
  match out with
  | [] => 0
  | s :: xs => if isSt s k.1 k.2 then s.n else strAt xs k
theorem atFrom_found {k : ByteArray × ByteArray} : ∀ (out : List St) (j : Nat), k ∈ keysS out → ∃ i : Nat, ∃ h : i < out.length, atFrom k.1 k.2 out j = ((j + i : Nat) : Int) ∧ out[i].key = k ∧ out[i].n = strAt out k
  | [], _, h => by cases h
  | s :: xs, j, h => by
    by_cases hs : isSt s k.1 k.2 = true
    · exact ⟨0, by simp, by simp [atFrom, hs], isSt_iff.1 hs, by simp [strAt, hs]⟩
    · have hm : k ∈ keysS xs := by
        rcases List.mem_cons.1 h with e | hm
        · exact absurd (isSt_iff.2 e.symm) hs
        · exact hm
      obtain ⟨i, hi, h1, h2, h3⟩ := atFrom_found xs (j + 1) hm
      refine ⟨i + 1, by simp; omega, ?_, by simpa using h2, by simpa [strAt, hs] using h3⟩
      simp only [atFrom, hs]
      simp only [Bool.false_eq_true, if_false]
      rw [h1]; congr 1; omega
theorem strAt_mem {k : ByteArray × ByteArray} (out : List St) (h : k ∈ keysS out) : ∃ s ∈ out, s.key = k ∧ s.n = strAt out k := by
  obtain ⟨i, hi, -, h2, h3⟩ := atFrom_found out 0 h
  exact ⟨out[i], List.getElem_mem hi, h2, h3⟩
theorem strAt_no {k : ByteArray × ByteArray} (out : List St) (h : k ∉ keysS out) : strAt out k = 0 := by
  induction out with
  | nil => rfl
  | cons s xs ih =>
    have h1 : ¬ isSt s k.1 k.2 = true := fun e => h (by rw [isSt_iff] at e; simp [keysS, e])
    simp only [strAt, h1]
    simp only [Bool.false_eq_true, if_false]
    exact ih fun hm => h (by simp only [keysS, List.map_cons, List.mem_cons]; exact .inr hm)

def sumN : List St → Int
  | [] => 0
  | s :: xs => s.n + sumN xs
theorem sumN_set (out : List St) (i : Nat) (h : i < out.length) (n : Int) : sumN (out.set i ⟨out[i].typ, out[i].rel, n⟩) = sumN out - out[i].n + n := by
  induction out generalizing i with
  | nil => simp at h
  | cons s xs ih =>
    cases i with
    | zero => simp [sumN]; omega
    | succ i => simp only [List.set_cons_succ, sumN, List.getElem_cons_succ]; rw [ih i (by simpa using h)]; omega
theorem keysS_set (out : List St) (i : Nat) (h : i < out.length) (n : Int) : keysS (out.set i ⟨out[i].typ, out[i].rel, n⟩) = keysS out := by
  unfold keysS
  rw [List.map_set]
  show (List.map St.key out).set i (out[i].key) = _
  have : out[i].key = (List.map St.key out)[i]'(by simpa using h) := by simp
  rw [this, List.set_getElem_self]

/-- what the rounds keep -/
structure Round (ts : List Ty) (out : List St) : Prop where
  keys : keysS out = ents ts
  pos : ∀ s ∈ out, 0 ≤ s.n
  low : ∀ s ∈ out, LowK ts s.key s.n
def satK (ts : List Ty) (out : List St) (s : St) (k : Nat) : Prop := ∀ d ∈ (depsK ts s.key).take k, strAt out (d.typ, d.rel) + stepOf d ≤ s.n
theorem Round.mem {ts : List Ty} {out : List St} (h : Round ts out) {s : St} (hs : s ∈ out) : s.key ∈ ents ts := by rw [← h.keys]; exact List.mem_map_of_mem hs
theorem Round.at {ts : List Ty} {out : List St} (h : Round ts out) {k : ByteArray × ByteArray} (hk : k ∈ ents ts) : 0 ≤ strAt out k ∧ LowK ts k (strAt out k) := by
  obtain ⟨s, hs, e, en⟩ := strAt_mem out (by rw [h.keys]; exact hk)
  rw [← en, ← e]
  exact ⟨h.pos s hs, h.low s hs⟩
theorem Round.set {ts : List Ty} {out : List St} (h : Round ts out) (hF : Found ts) {i : Nat} (hi : i < out.length) {d : Dp} (hd : d ∈ depsK ts out[i].key) : Round ts (out.set i ⟨out[i].typ, out[i].rel, strAt out (d.typ, d.rel) + stepOf d⟩) := by
  have hk : out[i].key ∈ ents ts := h.mem (List.getElem_mem hi)
  have hdk := hF _ hk d hd
  obtain ⟨h0, hl⟩ := h.at hdk
  have hs0 : 0 ≤ stepOf d := by unfold stepOf; split <;> omega
  refine ⟨(keysS_set out i hi _).trans h.keys, fun s hs => ?_, fun s hs => ?_⟩
  · rcases List.mem_or_eq_of_mem_set hs with hs | rfl
    · exact h.pos s hs
    · show 0 ≤ strAt out (d.typ, d.rel) + stepOf d; omega
  · rcases List.mem_or_eq_of_mem_set hs with hs | rfl
    · exact h.low s hs
    · exact hl.step hk hd
/-- the rounds' end -/
theorem Round.done {ts : List Ty} {out : List St} (h : Round ts out) (hs : ∀ s ∈ out, satK ts out s (depsK ts s.key).length) : Least ts (strAt out) where
  sol := ⟨fun k => by
      by_cases hk : k ∈ ents ts
      · exact (h.at hk).1
      · rw [strAt_no out (by rw [h.keys]; exact hk)]; exact Int.le_refl _, fun k hk d hd => by
      obtain ⟨s, hm, e, en⟩ := strAt_mem out (by rw [h.keys]; exact hk)
      have := hs s hm d (by rw [List.take_length, e]; exact hd)
      rw [← en]; exact this⟩
  low k hk := (h.at hk).2

end Go.Proofs.Ytpmgkkbkficgpaa
