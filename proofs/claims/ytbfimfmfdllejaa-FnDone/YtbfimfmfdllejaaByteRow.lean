/- A row of bytes that the call owns, whatever mark stands behind its last cell ('[]byte(s)' leaves one there). -/
import Derived.Test.YtbfimfmfdllejaaDkMem
import Derived.Lib.AppendStr
import Derived.Laws.IdiomStrings
namespace Go.Proofs.Ytbfimfmfdllejaa
open Go.ChangeShapes Go.WideShapes Go.ChangeAt Go.RowKit

def OpenMark (fr : Nat × Nat) (n : Nat) : Prop := ∀ j, j < n → (decide (fr.1 ≤ j) && decide (j < fr.2)) = false
theorem openMark_none (n : Nat) : OpenMark (0, 0) n := fun j _ => by simp
theorem openMark_end (n : Nat) : OpenMark (n, n + 1) n := fun j h => by simp; omega
def OwnB (w : World) (base : Nat) (v : Value) (s : ByteArray) : Prop :=
  (v = .slice none 0 0 ∧ s.size = 0) ∨
   ∃ g cap cur fr, v = .slice (some ⟨g, 0, none⟩) s.size cap ∧ base ≤ g ∧ w.heap[g]? = some (.cells cur 5 fr) ∧ OpenMark fr cur.size ∧ s.size ≤ cap ∧ cap ≤ maxLen ∧ cur.size = cap ∧ cur.toList.take s.size = Lib.strCells s
theorem OwnB.lt {w : World} {base : Nat} {v : Value} {s : ByteArray} (h : OwnB w base v s) : ∀ k, v.ownBlock = some k → base ≤ k ∧ k < w.heap.size := by
  intro k hk
  rcases h with ⟨rfl, -⟩ | ⟨g, cap, cur, fr, rfl, hb, hg, -⟩
  · cases hk
  · simp only [Value.ownBlock, Option.some.injEq] at hk
    subst hk
    exact ⟨hb, (Array.getElem?_eq_some_iff.1 hg).1⟩
theorem OwnB.kept {w w' : World} {base : Nat} {v : Value} {s : ByteArray} {row : Option Nat} (h : OwnB w base v s) (hg : w.grownBy w' row) (hne : v.ownBlock = none ∨ v.ownBlock ≠ row) : OwnB w' base v s := by
  rcases h with h | ⟨g, cap, cur, fr, rfl, hb, hgg, hr⟩
  · exact .inl h
  · refine .inr ⟨g, cap, cur, fr, rfl, hb, ?_, hr⟩
    rw [hg.block g (Array.getElem?_eq_some_iff.1 hgg).1 (fun e => by rcases hne with h1 | h1 <;> simp [Value.ownBlock] at h1; exact h1 e)]
    exact hgg
theorem below_grown {w w' : World} (hB : Below w.heap.size w w') : w.grownBy w' none := ⟨hB.os, hB.tape, hB.output, hB.size, fun k hk _ => hB.block k hk⟩
theorem OwnB.below {w w' : World} {base : Nat} {v : Value} {s : ByteArray} (h : OwnB w base v s) (hB : Below w.heap.size w w') : OwnB w' base v s :=
  h.kept (below_grown hB) (Classical.em _)
theorem OwnB.len {w : World} {base : Nat} {v : Value} {s : ByteArray} (h : OwnB w base v s) : ∃ ad cap, v = .slice ad s.size cap := by
  rcases h with ⟨rfl, h0⟩ | ⟨g, cap, cur, fr, rfl, -⟩
  · exact ⟨none, 0, by rw [h0]⟩
  · exact ⟨_, _, rfl⟩
/-- '[]byte(s)' -/
theorem ownB_new (w : World) (base : Nat) (s : ByteArray) (hb : base ≤ w.heap.size) (hs : s.size ≤ maxLen) :
    OwnB (w.drew.alloc (.cells (bytesRow s (grownCap w s.size 0 5)) 5 ((bytesRow s (grownCap w s.size 0 5)).size, (bytesRow s (grownCap w s.size 0 5)).size + 1))) base (.slice (some ⟨w.heap.size, 0, none⟩) s.size (grownCap w s.size 0 5)) s := by
  have hge := grownCap_ge w s.size 0 5
  have hle := grownCap_le_maxLen w s.size 0 5 hs
  refine .inr ⟨w.heap.size, _, _, _, rfl, hb, heap_alloc_new w.drew _, openMark_end _, hge, hle, ?_, ?_⟩
  · rw [bytesRow, Array.size_append, Array.size_map, Array.size_replicate]
    show s.size + _ = _
    omega
  · rw [bytesRow, Array.toList_append, Lib.strCells, List.take_append_of_le_length (by rw [Array.toList_map, List.length_map]; exact Nat.le_refl _), Array.toList_map]
    exact List.take_of_length_le (by rw [List.length_map]; exact Nat.le_refl _)
theorem strCells_get (s : ByteArray) (j : Nat) (hj : j < s.data.toList.length) : (Lib.strCells s)[j]? = some (.int .u8 (s.data.toList[j].toNat : Int)) := by
  rw [Lib.strCells, List.getElem?_map, List.getElem?_eq_getElem hj]; rfl
theorem len_data (s : ByteArray) : s.data.toList.length = s.size := by rw [Array.length_toList]; rfl
theorem OwnB.cell {w : World} {base : Nat} {s : ByteArray} {g cap : Nat} (h : OwnB w base (.slice (some ⟨g, 0, none⟩) s.size cap) s) (j : Nat) (hj : j < s.data.toList.length) : w.cell? ((⟨g, 0, none⟩ : Addr).add j) = some (.int .u8 (s.data.toList[j].toNat : Int)) := by
  rcases h with ⟨h, -⟩ | ⟨g', cap', cur, fr, e, -, hg, -, -, -, -, ht⟩
  · injection h with h; cases h
  · injection e with e1 e2 e3
    injection e1 with e1
    injection e1 with e1
    subst e1
    have hadd : (⟨g, 0, none⟩ : Addr).add j = ⟨g, 0 + j, none⟩ := by unfold Addr.add; split <;> simp_all
    have h1 := strCells_get s j hj
    rw [← ht, List.getElem?_take] at h1
    rw [if_pos (by rw [← len_data]; exact hj)] at h1
    rw [hadd, Nat.zero_add]
    simpa [World.cell?, hg] using h1
/-- 'string(b)' -/
theorem OwnB.text {w : World} {base : Nat} {v : Value} {s : ByteArray} (h : OwnB w base v s) : (convert 49 9 v).run Try.prog w = .ok (.string s) w := by
  have h2 := h
  rcases h with ⟨rfl, h0⟩ | ⟨g, cap, cur, fr, rfl, -⟩
  · have : s = ⟨#[]⟩ := by
      have : s.data = #[] := Array.eq_empty_of_size_eq_zero h0
      cases s; simp at this; rw [this]
    subst this
    rw [run_convert_bytes_string w 49 9 5 none 0 0 Try.underlying49 Try.underlying5 Try.underlying9]
    rfl
  · have := run_convert_bytes_back w 49 9 5 ⟨g, 0, none⟩ cap s.data.toList Try.underlying49 Try.underlying5 Try.underlying9 (fun j hj => h2.cell j hj)
    rw [len_data, Array.toArray_toList] at this
    exact this

theorem storeCells_mk (P : Program) (g o : Nat) (t : TypeId) (fr : Nat × Nat) : ∀ (vs : List Value) (i : Nat) (cur : Array Value) (w : World), w.heap[g]? = some (.cells cur t fr) → OpenMark fr cur.size → o + i + vs.length ≤ cur.size → (∀ v ∈ vs, v.oneCell' = true) →
    (storeCells ⟨g, o, none⟩ vs i).run P w = .ok () (w.setRow g (cur.toList.take (o + i) ++ vs ++ cur.toList.drop (o + i + vs.length)).toArray)
  | [], i, cur, w, hg, _, _, _ => by
    simp only [storeCells, List.append_nil, List.length_nil, Nat.add_zero, List.take_append_drop, Array.toArray_toList]
    rw [setRow_self w g cur t fr hg]
    rfl
  | v :: rest, i, cur, w, hg, hm, hl, h1 => by
    have hi : o + i < cur.size := by simp at hl; omega
    have hadd : (⟨g, o, none⟩ : Addr).add i = ⟨g, o + i, none⟩ := by unfold Addr.add; split <;> simp_all
    have hcell : w.cell? ⟨g, o + i, none⟩ = some cur[o + i] := by simp [World.cell?, hg, hi]
    have hfro : w.frozen? ⟨g, o + i, none⟩ = false := by
      have := hm (o + i) hi
      simpa [World.frozen?, hg] using this
    have hst : (store ((⟨g, o, none⟩ : Addr).add i) v).run P w = .ok () (w.setRow g (cur.setIfInBounds (o + i) v)) := by
      rw [hadd, run_store P w _ v _ (h1 v (by simp)), hcell]
      simp [hfro, setCell_eq_setRow w g (o + i) cur t fr v hg]
    have ih := storeCells_mk P g o t fr rest (i + 1) (cur.setIfInBounds (o + i) v) (w.setRow g (cur.setIfInBounds (o + i) v)) (setRow_heap w g cur _ t _ hg) (by simpa using hm) (by simp at hl ⊢; omega) (fun x hx => h1 x (by simp [hx]))
    simp only [storeCells, Sem.run_bind, hst, Result.andThen_ok, ih, setRow_setRow]
    congr 3
    have e := list_seg_step cur.toList (o + i) v rest (by simp at hl ⊢; omega)
    simpa [Array.toList_setIfInBounds, Nat.add_assoc] using e
theorem append_room_mk {P : Program} (w : World) (t u ty e : TypeId) (i : TypeInfo) (ht : P.underlying t = some (.slice e)) (hu : P.underlying u = some .string) (hi : P.info? e = some i) (hs1 : i.size = 1)
    (g sLen sCap : Nat) (cur : Array Value) (fr : Nat × Nat) (hg : w.heap[g]? = some (.cells cur e fr)) (hm : OpenMark fr cur.size) (s : ByteArray) (hroom : sLen + s.size ≤ sCap) (hfit : sLen + s.size ≤ cur.size) :
    (Builtin.append_ #[t, u] ty #[.slice (some ⟨g, 0, none⟩) sLen sCap, .string s]).run P w =
      .ok (.slice (some ⟨g, 0, none⟩) (sLen + s.size) sCap) (w.setRow g (cur.toList.take sLen ++ Lib.strCells s ++ cur.toList.drop (sLen + s.size)).toArray) := by
  have hf := Lib.run_firstCells_string (P := P) w 1 s
  have hst := storeCells_mk P g sLen e fr (Lib.strCells s) 0 cur w hg hm (by simpa [Lib.strCells_length] using hfit) (Lib.strCells_oneCell s)
  simp only [Nat.add_zero, Lib.strCells_length] at hst
  simp [Builtin.append_, run_underlying ht, run_underlying hu, sizeOf, typeInfo, hi, hs1, Builtin.lenOf, hroom, hf, Addr.add_lit, hst]
theorem strCells_append (s t : ByteArray) : Lib.strCells (s ++ t) = Lib.strCells s ++ Lib.strCells t := by
  simp [Lib.strCells, ByteArray.data_append]
theorem info_u8B : (Try.prog.info? 5).map (fun i => (i.zero, i.size, i.bytes)) = some (some (.int .u8 0), 1, 1) := by kernel_rfl
/-- 'append(b, t...)', t a string -/
theorem OwnB.append {w : World} {base : Nat} {v : Value} {s : ByteArray} (h : OwnB w base v s) (t : ByteArray) (ty : TypeId) (h63 : s.size + t.size ≤ 140737488355328) (hbase : base ≤ w.heap.size) :
    ∃ v' w', (Builtin.append_ #[49, 9] ty #[v, .string t]).run Try.prog w = .ok v' w' ∧ OwnB w' base v' (s ++ t) ∧ w.grownBy w' v.ownBlock ∧ (v'.ownBlock = v.ownBlock ∨ v'.ownBlock = some w.heap.size) := by
  obtain ⟨i, hi, hz, hsize, hby⟩ := info_parts info_u8B
  have h62 : s.size + t.size ≤ maxLen := by unfold maxLen; omega
  have grown : ∀ (old : Nat), old < s.size + t.size → ∀ (row : Option Nat),
      OwnB (w.drew.alloc (.cells ((Lib.strCells s).toArray ++ (Lib.strCells t).toArray ++ Builtin.zeroCells (Value.int .u8 0).cells (grownCap w (s.size + t.size) old 5 - (s.size + t.size))) 5)) base
        (.slice (some ⟨w.heap.size, 0, none⟩) (s.size + t.size) (grownCap w (s.size + t.size) old 5)) (s ++ t) ∧
      w.grownBy (w.drew.alloc (.cells ((Lib.strCells s).toArray ++ (Lib.strCells t).toArray ++ Builtin.zeroCells (Value.int .u8 0).cells (grownCap w (s.size + t.size) old 5 - (s.size + t.size))) 5)) row := by
    intro old ho row
    have hge := grownCap_ge w (s.size + t.size) old 5
    have hcm : grownCap w (s.size + t.size) old 5 ≤ maxLen := grownCap_le_maxLen w (s.size + t.size) old 5 h62
    have e1 : (s ++ t).size = s.size + t.size := ByteArray.size_append
    refine ⟨.inr ⟨w.heap.size, _, _, _, by rw [e1], hbase, heap_alloc_new w.drew _, openMark_none _, by rw [e1]; exact hge, hcm, ?_, ?_⟩, ⟨rfl, rfl, rfl, by simp, fun k hk _ => heap_alloc_old w.drew _ hk⟩⟩
    · have hz1 : (Value.int IntKind.u8 0).cells.size = 1 := rfl
      simp only [Array.size_append, List.size_toArray, size_zeroCells, hz1, Lib.strCells_length]
      omega
    · rw [e1, strCells_append]
      simp only [Array.toList_append, List.append_assoc]
      rw [← List.append_assoc]
      have : (Lib.strCells s ++ Lib.strCells t).length = s.size + t.size := by rw [List.length_append, Lib.strCells_length, Lib.strCells_length]
      rw [← this]
      exact List.take_left
  have h2 := h
  rcases h with ⟨rfl, h0⟩ | ⟨g, cap, cur, fr, rfl, hb, hg, hm, hnc, hcm, hcs, htake⟩
  · have e0 : Lib.strCells s = [] := List.eq_nil_of_length_eq_zero (by rw [Lib.strCells_length]; exact h0)
    by_cases hm : t.size = 0
    · refine ⟨.slice none 0 0, w, ?_, .inl ⟨rfl, by rw [ByteArray.size_append]; omega⟩, ⟨rfl, rfl, rfl, Nat.le_refl _, fun _ _ _ => rfl⟩, .inl rfl⟩
      have hf := Lib.run_firstCells_string (P := Try.prog) w 1 t
      rw [hm] at hf
      simp [Builtin.append_, run_underlying Try.underlying49, run_underlying Try.underlying9, sizeOf, typeInfo, hi, hsize, Builtin.lenOf, hm, hf]
    · have hr := run_append_nil_string (P := Try.prog) w 49 9 ty 5 i (.int .u8 0) Try.underlying49 Try.underlying9 hi hz t (by omega) (by omega) (by rw [hby]; omega)
      have hgr := grown 0 (by omega) (Value.ownBlock (.slice none 0 0))
      rw [e0] at hgr
      simp only [h0, Nat.zero_add, Array.empty_append] at hgr
      have e1 : (t.data.map fun b => Value.int .u8 b.toNat) = (Lib.strCells t).toArray := by
        apply Array.ext'
        simp [Lib.strCells]
      rw [e1] at hr
      exact ⟨_, _, hr, by simpa using hgr.1, by simpa using hgr.2, .inr rfl⟩
  · by_cases hroom : s.size + t.size ≤ cap
    · have hr := append_room_mk (P := Try.prog) w 49 9 ty 5 i Try.underlying49 Try.underlying9 hi hsize g s.size cap cur fr hg hm t hroom (by omega)
      have e1 : (s ++ t).size = s.size + t.size := ByteArray.size_append
      refine ⟨_, _, hr, .inr ⟨g, cap, _, fr, by rw [e1], hb, setRow_heap w g cur _ _ _ hg, ?_, by omega, hcm, ?_, ?_⟩, ⟨rfl, rfl, rfl, by simp, fun k _ hk => setRow_other w g k _ (fun e => hk (by simp [Value.ownBlock, e]))⟩, .inl rfl⟩
      · have : (cur.toList.take s.size ++ Lib.strCells t ++ cur.toList.drop (s.size + t.size)).toArray.size = cur.size := by
          simp only [List.size_toArray, List.length_append, List.length_take, List.length_drop, Array.length_toList, Lib.strCells_length]; omega
        rw [this]; exact hm
      · simp only [List.size_toArray, List.length_append, List.length_take, List.length_drop, Array.length_toList, Lib.strCells_length]; omega
      · rw [e1, strCells_append, htake]
        have : (Lib.strCells s ++ Lib.strCells t).length = s.size + t.size := by rw [List.length_append, Lib.strCells_length, Lib.strCells_length]
        rw [← this]
        exact List.take_left
    · have hr := Lib.run_append_grow_string (P := Try.prog) w 49 9 ty 5 i (.int .u8 0) Try.underlying49 Try.underlying9 hi hz ⟨g, 0, none⟩ s.size cap (Lib.strCells s) (by rw [hsize, Lib.strCells_length]; omega) (fun j u hu => by
        have hj : j < s.data.toList.length := by
          have := (List.getElem?_eq_some_iff.1 hu).1
          rw [Lib.strCells_length] at this
          rw [len_data]; exact this
        rw [strCells_get s j hj] at hu
        rw [h2.cell j hj]; exact hu) t (by omega) (by unfold maxLen at h62; omega) (by rw [hby]; exact growslice_fits (by omega) (by omega))
      have hgr := grown cap (by omega) (Value.ownBlock (.slice (some ⟨g, 0, none⟩) s.size cap))
      exact ⟨_, _, hr, hgr.1, hgr.2, .inr rfl⟩
end Go.Proofs.Ytbfimfmfdllejaa
