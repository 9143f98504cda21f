/- Contract of the document's function on strata. -/
import Derived.Test.YtpmgkkbkficgpaaSpecSchema8
import Derived.Test.YtpmgkkbkficgpaaStrata
namespace Go.Proofs.Ytpmgkkbkficgpaa
open Go.ChangeShapes Go.WideShapes Go.ChangeAt Go.RowKit
open Pl

def St.cells (s : St) : List Value := [.string s.typ, .string s.rel, .int .i64 s.n]
def flatS : List St → List Value
  | [] => []
  | s :: xs => s.cells ++ flatS xs
theorem flatS_append (xs ys : List St) : flatS (xs ++ ys) = flatS xs ++ flatS ys := by
  induction xs with
  | nil => rfl
  | cons d ds ih => simp [flatS, ih]
theorem flatS_snoc (xs : List St) (d : St) : flatS (xs ++ [d]) = flatS xs ++ d.cells := by rw [flatS_append]; simp [flatS]
theorem flatS_get (xs : List St) (i : Nat) (h : i < xs.length) (o : Nat) (ho : o < 3) : (flatS xs)[i * 3 + o]? = (xs[i].cells)[o]? := by
  induction xs generalizing i with
  | nil => simp at h
  | cons s xs ih =>
    cases i with
    | zero =>
      simp only [flatS, Nat.zero_mul, Nat.zero_add, List.getElem_cons_zero]
      rw [List.getElem?_append_left (by simp [St.cells]; omega)]
    | succ i =>
      simp only [flatS, List.getElem_cons_succ]
      rw [List.getElem?_append_right (by simp [St.cells]; omega)]
      have e : (i + 1) * 3 + o - s.cells.length = i * 3 + o := by simp [St.cells]; omega
      rw [e]
      exact ih i (by simpa using h)
theorem flatD_get (xs : List Dp) (i : Nat) (h : i < xs.length) (o : Nat) (ho : o < 3) : (flatD xs)[i * 3 + o]? = (xs[i].cells)[o]? := by
  induction xs generalizing i with
  | nil => simp at h
  | cons s xs ih =>
    cases i with
    | zero =>
      simp only [flatD, Nat.zero_mul, Nat.zero_add, List.getElem_cons_zero]
      rw [List.getElem?_append_left (by simp [Dp.cells]; omega)]
    | succ i =>
      simp only [flatD, List.getElem_cons_succ]
      rw [List.getElem?_append_right (by simp [Dp.cells]; omega)]
      have e : (i + 1) * 3 + o - s.cells.length = i * 3 + o := by simp [Dp.cells]; omega
      rw [e]
      exact ih i (by simpa using h)
theorem add_none (g j : Nat) : (⟨g, 0, none⟩ : Addr).add j = ⟨g, j, none⟩ := by
  unfold Addr.add
  by_cases hj : j = 0
  · subst hj; simp
  · simp [hj]

/-- a row of records of three cells that the call owns: where it lies -/
theorem own3 {w : World} {base : Nat} {t : TypeId} {v : Value} {n : Nat} {xs : List Value} (h : w.ownsRow base t 3 v n xs) : ∃ ad cp, v = .slice ad n cp ∧ (n = 0 ∨ ∃ g, ad = some ⟨g, 0, none⟩ ∧ base ≤ g ∧ g < w.heap.size ∧ ∀ (j : Nat) (u : Value), xs[j]? = some u → w.cell? ⟨g, j, none⟩ = some u) := by
  have h2 := h
  rcases h.2 with ⟨rfl, h0⟩ | ⟨g, cp, cur, rfl, hbg, hg, hnc, -⟩
  · exact ⟨none, 0, by rw [h0], .inl h0⟩
  · have hlt := h2.lt g rfl
    refine ⟨_, cp, rfl, .inr ⟨g, rfl, hlt.1, hlt.2, fun j u hu => ?_⟩⟩
    have := h2.cells (g := g) rfl j u hu
    rwa [add_none] at this

/-- dependencies in memory -/
def AtD (w : World) (b off : Nat) (d : Dp) : Prop := w.cell? ⟨b, off, none⟩ = some (.string d.typ) ∧ w.cell? ⟨b, off + 1, none⟩ = some (.string d.rel) ∧ w.cell? ⟨b, off + 2, none⟩ = some (.bool d.neg)
def SlD (w : World) (lo : Nat) (ad : Option Addr) (xs : List Dp) : Prop := xs = [] ∨ ∃ b, ad = some ⟨b, 0, none⟩ ∧ lo ≤ b ∧ b < w.heap.size ∧ ∀ (i : Nat) (h : i < xs.length), AtD w b (i * 3) xs[i]
theorem own_D {w : World} {base : Nat} {v : Value} {xs : List Dp} (h : w.ownsRow base 120 3 v xs.length (flatD xs)) : ∃ ad cp, v = .slice ad xs.length cp ∧ SlD w base ad xs := by
  obtain ⟨ad, cp, e, h0⟩ := own3 h
  refine ⟨ad, cp, e, ?_⟩
  rcases h0 with h0 | ⟨g, e1, hb, hg, hc⟩
  · exact .inl (List.length_eq_zero_iff.1 h0)
  · refine .inr ⟨g, e1, hb, hg, fun i hi => ⟨?_, ?_, ?_⟩⟩
    · exact hc _ _ (by have := flatD_get xs i hi 0 (by omega); simpa [Dp.cells] using this)
    · exact hc _ _ (by have := flatD_get xs i hi 1 (by omega); simpa [Dp.cells] using this)
    · exact hc _ _ (by have := flatD_get xs i hi 2 (by omega); simpa [Dp.cells] using this)
/-- strata in a row of the call's own, at one block -/
def SlO (w : World) (g : Nat) (xs : List St) : Prop := ∀ (i : Nat) (h : i < xs.length), At3 w g (i * 3) xs[i]
theorem own_O {w : World} {base : Nat} {v : Value} {xs : List St} (h : w.ownsRow base 115 3 v xs.length (flatS xs)) : ∃ ad cp, v = .slice ad xs.length cp ∧ (xs.length = 0 ∨ ∃ g, ad = some ⟨g, 0, none⟩ ∧ base ≤ g ∧ g < w.heap.size ∧ SlO w g xs) := by
  obtain ⟨ad, cp, e, h0⟩ := own3 h
  refine ⟨ad, cp, e, ?_⟩
  rcases h0 with h0 | ⟨g, e1, hb, hg, hc⟩
  · exact .inl h0
  · refine .inr ⟨g, e1, hb, hg, fun i hi => ⟨?_, ?_, ?_⟩⟩
    · exact hc _ _ (by have := flatS_get xs i hi 0 (by omega); simpa [St.cells] using this)
    · exact hc _ _ (by have := flatS_get xs i hi 1 (by omega); simpa [St.cells] using this)
    · exact hc _ _ (by have := flatS_get xs i hi 2 (by omega); simpa [St.cells] using this)

theorem info_st : (Try.prog.info? 115).map (fun i => (i.zero, i.size, i.bytes)) = some (some (.agg #[.string ⟨#[]⟩, .string ⟨#[]⟩, .int .i64 0]), 3, 40) := by kernel_rfl

def zst (ks : List (ByteArray × ByteArray)) : List St := ks.map fun k => ⟨k.1, k.2, 0⟩
theorem zst_len (ks : List (ByteArray × ByteArray)) : (zst ks).length = ks.length := by simp [zst]
theorem zst_snoc (ks : List (ByteArray × ByteArray)) (k : ByteArray × ByteArray) : zst (ks ++ [k]) = zst ks ++ [⟨k.1, k.2, 0⟩] := by simp [zst]
def entUp (rs : List TR) (k : Nat) : List (ByteArray × ByteArray) := ents (tys (rs.take k))
def entIn (t : TR) (j : Nat) : List (ByteArray × ByteArray) := (t.rows.take j).map fun q => (t.name, q.name)
theorem entUp_succ (rs : List TR) (k : Nat) (h : k < rs.length) : entUp rs (k + 1) = entUp rs k ++ entIn rs[k] rs[k].rows.length := by
  unfold entUp entIn
  rw [List.take_succ_eq_append_getElem h, List.take_length]
  unfold tys ents
  rw [List.map_append, List.flatMap_append, List.map_singleton, List.flatMap_singleton]
  congr 1
  simp [entsT, TR.p, rls, RR.p]
theorem entIn_succ (t : TR) (j : Nat) (h : j < t.rows.length) : entIn t (j + 1) = entIn t j ++ [(t.name, t.rows[j].name)] := by
  unfold entIn
  rw [List.take_succ_eq_append_getElem h, List.map_append]; rfl
theorem entIn_len (t : TR) (j : Nat) : (entIn t j).length ≤ t.rows.length := by unfold entIn; simp; omega
theorem entUp_len (rs : List TR) (hr : ∀ r ∈ rs, r.rows.length ≤ 6) (k : Nat) : (entUp rs k).length ≤ k * 6 := by
  induction k with
  | zero => simp [entUp, tys, ents]
  | succ k ih =>
    by_cases h : k < rs.length
    · rw [entUp_succ _ _ h, List.length_append]
      have h1 := entIn_len rs[k] rs[k].rows.length
      have h2 := hr rs[k] (List.getElem_mem h)
      omega
    · have e : rs.take (k + 1) = rs.take k := by rw [List.take_of_length_le (by omega), List.take_of_length_le (by omega)]
      unfold entUp at ih ⊢
      rw [e]; omega

end Go.Proofs.Ytpmgkkbkficgpaa
