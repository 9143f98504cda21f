/- What replacing a file does, told by plain lists. -/
import Derived.Test.YtbfimfmfdllejaaActDk2
namespace Go.Proofs.Ytbfimfmfdllejaa
open Go.RowKit

def dotNew : ByteArray := ⟨#[46, 110, 101, 119]⟩
def opRem (x : ByteArray) : Dop := ⟨3, x ++ dotNew, ⟨#[]⟩, ⟨#[]⟩⟩
def opAdd (x d : ByteArray) : Dop := ⟨1, x ++ dotNew, ⟨#[]⟩, d⟩
def opRen (x : ByteArray) : Dop := ⟨2, x ++ dotNew, x, ⟨#[]⟩⟩
def repOps (ls : List Fl) (x d : ByteArray) : List Dop := if hasF ls (x ++ dotNew) then [opRem x, opAdd x d, opRen x] else [opAdd x d, opRen x]
/-- ops one by one, as long as they are done -/
def actRun : List Dop → List Fl → List Dop → List Fl × List Dop × Int
  | [], L, O => (L, O, 0)
  | o :: t, L, O => if actC L O o = 0 then actRun t (doF L o).1 (O ++ [o]) else (L, O, actC L O o)
theorem run_go {o : Dop} {t : List Dop} {L : List Fl} {O : List Dop} (h : actC L O o = 0) : actRun (o :: t) L O = actRun t (doF L o).1 (O ++ [o]) := by rw [actRun, if_pos h]
theorem run_stop {o : Dop} {t : List Dop} {L : List Fl} {O : List Dop} (h : actC L O o ≠ 0) : actRun (o :: t) L O = (L, O, actC L O o) := by rw [actRun, if_neg h]
def repR (ls : List Fl) (os : List Dop) (x d : ByteArray) : List Fl × List Dop × Int := actRun (repOps ls x d) ls os
def rC (ls ss : List Fl) (os : List Dop) (x d : ByteArray) : Int := if diskB ls ss os then (repR ls os x d).2.2 else 1
def rL (ls ss : List Fl) (os : List Dop) (x d : ByteArray) : List Fl := if diskB ls ss os then (if (repR ls os x d).2.2 = 0 then (repR ls os x d).1 else ls) else []
def rO (ls ss : List Fl) (os : List Dop) (x d : ByteArray) : List Dop := if diskB ls ss os then (if (repR ls os x d).2.2 = 0 then (repR ls os x d).2.1 else os) else []
/-- what an act that is done leaves -/
theorem act_good {L : List Fl} {O : List Dop} {o : Dop} (h : actC L O o = 0) : filesB (doF L o).1 = true ∧ formB o = true ∧ (doF L o).2 = true ∧ O.length ≠ 200 := by
  cases hf : formB o with
  | false => simp [actC, hf] at h
  | true =>
    cases hd : (doF L o).2 with
    | false => simp [actC, hf, hd] at h
    | true =>
      cases hg : filesB (doF L o).1 with
      | false => simp [actC, hf, hd, hg] at h
      | true =>
        refine ⟨rfl, rfl, rfl, fun h2 => ?_⟩
        simp [actC, hf, hd, hg, h2] at h
theorem sameB_iff {a b : List Fl} (h : sameB a b = true) : a = b := by
  rw [sameB_eq, Bool.and_eq_true, decide_eq_true_eq, sameUp, List.all_eq_true] at h
  obtain ⟨hl, ha⟩ := h
  refine List.ext_getElem hl fun i h1 h2 => ?_
  have := ha i (by simpa using h1)
  rw [sameAt_get h1 h2, Bool.and_eq_true, beq_iff_eq, beq_iff_eq] at this
  have e1 := byte_ext this.1
  have e2 := byte_ext this.2
  cases ha : a[i]; cases hb : b[i]
  rw [ha, hb] at e1 e2
  simp only at e1 e2
  rw [e1, e2]
theorem same_refl (a : List Fl) : sameB a a = true := by
  rw [sameB_eq, Bool.and_eq_true, decide_eq_true_eq, sameUp, List.all_eq_true]
  refine ⟨rfl, fun i hi => ?_⟩
  have hi : i < a.length := by simpa using hi
  rw [sameAt_get hi hi]; simp
theorem run_snoc (ss : List Fl) (os : List Dop) (o : Dop) : runUp ss (os ++ [o]) (os ++ [o]).length = (runUp ss os os.length).bind fun fs => if (doF fs o).2 && formB o && filesB (doF fs o).1 then some (doF fs o).1 else none := by
  unfold runUp
  rw [List.take_length, List.take_length, List.foldl_append]; rfl
/-- an act that is done leaves a right disk -/
theorem diskB_act {L ss : List Fl} {O : List Dop} {o : Dop} (hd : diskB L ss O = true) (h : actC L O o = 0) : diskB (doF L o).1 ss (O ++ [o]) = true := by
  obtain ⟨h1, h2, h3, h4⟩ := act_good h
  obtain ⟨g1, g2, g3⟩ := diskB_facts hd
  have hr : runUp ss O O.length = some L := by
    simp only [diskB, Bool.and_eq_true] at hd
    have := hd.2
    cases e : runUp ss O O.length with
    | none => rw [e] at this; cases this
    | some fs => rw [e] at this; rw [sameB_iff this]
  have hlen : (O ++ [o]).length ≤ 200 := by rw [List.length_append]; simp; omega
  rw [diskB, h1, g2, run_snoc, hr]
  simp only [Option.bind_some, h1, h2, h3, Bool.and_self, if_true]
  rw [decide_eq_true hlen, same_refl]; rfl
theorem dotNew_size : dotNew.size = 4 := rfl
theorem op_small {x d : ByteArray} (hx : x.size ≤ 1048576) (hd : d.size ≤ 1048576) : (opRem x).small ∧ (opAdd x d).small ∧ (opRen x).small := by
  have e : (x ++ dotNew).size = x.size + 4 := by rw [ByteArray.size_append, dotNew_size]
  have z : (⟨#[]⟩ : ByteArray).size = 0 := rfl
  refine ⟨⟨?_, ?_, ?_⟩, ⟨?_, ?_, ?_⟩, ⟨?_, ?_, ?_⟩⟩ <;> simp only [opRem, opAdd, opRen, e, z] <;> omega
end Go.Proofs.Ytbfimfmfdllejaa
