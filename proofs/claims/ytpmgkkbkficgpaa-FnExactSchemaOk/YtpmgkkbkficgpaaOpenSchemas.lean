/- What a slice of types that can be read leads to: a schema whose strings and lists fit. -/
import Derived.Test.YtpmgkkbkficgpaaSchemas
import Derived.Test.YtpmgkkbkficgpaaOpenExprs
namespace Go.Proofs.Ytpmgkkbkficgpaa
open Go.ChangeShapes Go.WideShapes Go.ChangeAt Go.RowKit Go.Joins Go.Deep

section
variable {H : Type} {enc : TypeId × Value → H} {W : World} {base : Nat} {sp : Nat → Bool} {held : Bool}

theorem cellsRR : Try.prog.cellsOf 138 = 2 := by kernel_rfl
theorem cellsInRR : Try.prog.cellsOf 22 = 1 := by kernel_rfl
set_option maxRecDepth 100000 in
theorem readRR {fuel : Nat} {cs : List Value} {x : DataW H × List MemPlace} (h : DataW.trod enc Try.prog W base sp held fuel 138 cs = some x) :
    ∃ r : RR, cs = [.string r.name, .slice r.ad r.rows.length r.cap] ∧ r.ok W ∧ r.fits := by
  obtain ⟨y0, y1, n, -, hl, h0, h1⟩ := trod_struct2 Try.underlying138 h
  rw [cellsRR] at hl
  match cs, hl with
  | [c0, c1], _ =>
    simp only [cellsStr', cellsInRR, List.drop_zero, List.drop_succ_cons, List.take_succ_cons, List.take_zero] at h0 h1
    obtain ⟨a, e0, -, wa⟩ := DataW.trod_string Try.underlying9 h0
    obtain ⟨ad, len, cap, e1⟩ : ∃ ad len cap, c1 = .slice ad len cap := by
      rcases open_slice Try.underlying22 h1 with ⟨hcs, -⟩ | ⟨a, l, c, m, n, D, Pl, hcs, -⟩
      · simp at hcs; exact ⟨_, _, _, hcs⟩
      · simp at hcs; exact ⟨_, _, _, hcs⟩
    simp at e0
    subst e0 e1
    obtain ⟨rs, rfl, hs, hf, hm⟩ := open_exprs h1
    exact ⟨⟨a, rs, ad, cap⟩, rfl, hs, wa, hm, hf⟩

theorem open_rels {fuel : Nat} {ad : Option Addr} {len cap : Nat} {x : DataW H × List MemPlace} (h : DataW.trod enc Try.prog W base sp held fuel 60 [.slice ad len cap] = some x) :
    ∃ rs : List RR, rs.length = len ∧ SlR W ad rs ∧ (∀ r ∈ rs, r.fits) ∧ len ≤ maxLen := by
  rcases open_slice Try.underlying60 h with ⟨hcs, -⟩ | ⟨a, l, c, m, n, D, Pl, hcs, -, hlc, hcm, hm, -, hel⟩
  · simp at hcs
    obtain ⟨rfl, rfl, rfl⟩ := hcs
    exact ⟨[], rfl, .inl rfl, (fun t ht => by cases ht), by unfold maxLen; omega⟩
  · simp at hcs
    obtain ⟨rfl, rfl, rfl⟩ := hcs
    have hle : len ≤ m := by rw [hm]; split <;> omega
    by_cases h0 : len = 0
    · subst h0
      exact ⟨[], rfl, .inl rfl, (fun t ht => by cases ht), by omega⟩
    have key : ∀ i, i < len → ∃ r : RR, (∀ j, j < 2 → W.cell? ((a.add (i * 2)).add j) = [Value.string r.name, .slice r.ad r.rows.length r.cap][j]?) ∧ r.ok W ∧ r.fits := by
      intro i hi
      obtain ⟨cs', hc, hd⟩ := hel i (by omega)
      rw [cellsRR] at hc
      obtain ⟨r, rfl, hh⟩ := readRR hd
      exact ⟨r, fun j hj => (World.cells?_some hc).2.2 j hj, hh⟩
    have hspot : a.spot = none := by
      obtain ⟨t, ht, -⟩ := key 0 (by omega)
      have := ht 0 (by omega)
      have e : (a.add (0 * 2)).add 0 = a := by simp [Addr.add]
      rw [e] at this
      exact World.cell?_spot this
    obtain ⟨b, off, spot⟩ := a
    simp only at hspot
    subst hspot
    obtain ⟨f, hf⟩ := @choose_lt RR ⟨⟨⟨#[]⟩, [], none, 0⟩⟩ len _ key
    have at2 : ∀ i, i < len → AtR W b (off + i * 2) (f i) := by
      intro i hi
      obtain ⟨hc, -⟩ := hf i hi
      simp only [add_none'] at hc
      exact ⟨hc 0 (by omega), hc 1 (by omega)⟩
    refine ⟨(List.range len).map f, by simp, .inr ⟨b, off, rfl, ?_, ?_, ?_⟩, ?_, by omega⟩
    · exact World.block_lt_of_cell? W ⟨b, off + 0 * 2, none⟩ (at2 0 (by omega)).1
    · intro i hi
      have hi' : i < len := by simpa using hi
      simpa using at2 i hi'
    · intro t ht
      simp only [List.mem_map, List.mem_range] at ht
      obtain ⟨i, hi, rfl⟩ := ht
      exact (hf i hi).2.1
    · intro t ht
      simp only [List.mem_map, List.mem_range] at ht
      obtain ⟨i, hi, rfl⟩ := ht
      exact (hf i hi).2.2

theorem cellsTR : Try.prog.cellsOf 62 = 2 := by kernel_rfl
theorem cellsInTR : Try.prog.cellsOf 60 = 1 := by kernel_rfl
set_option maxRecDepth 100000 in
theorem readTR {fuel : Nat} {cs : List Value} {x : DataW H × List MemPlace} (h : DataW.trod enc Try.prog W base sp held fuel 62 cs = some x) :
    ∃ r : TR, cs = [.string r.name, .slice r.ad r.rows.length r.cap] ∧ r.ok W ∧ r.fits := by
  obtain ⟨y0, y1, n, -, hl, h0, h1⟩ := trod_struct2 Try.underlying62 h
  rw [cellsTR] at hl
  match cs, hl with
  | [c0, c1], _ =>
    simp only [cellsStr', cellsInTR, List.drop_zero, List.drop_succ_cons, List.take_succ_cons, List.take_zero] at h0 h1
    obtain ⟨a, e0, -, wa⟩ := DataW.trod_string Try.underlying9 h0
    obtain ⟨ad, len, cap, e1⟩ : ∃ ad len cap, c1 = .slice ad len cap := by
      rcases open_slice Try.underlying60 h1 with ⟨hcs, -⟩ | ⟨a, l, c, m, n, D, Pl, hcs, -⟩
      · simp at hcs; exact ⟨_, _, _, hcs⟩
      · simp at hcs; exact ⟨_, _, _, hcs⟩
    simp at e0
    subst e0 e1
    obtain ⟨rs, rfl, hs, hf, hm⟩ := open_rels h1
    exact ⟨⟨a, rs, ad, cap⟩, rfl, hs, wa, hm, hf⟩

theorem open_types {fuel : Nat} {ad : Option Addr} {len cap : Nat} {x : DataW H × List MemPlace} (h : DataW.trod enc Try.prog W base sp held fuel 30 [.slice ad len cap] = some x) :
    ∃ rs : List TR, rs.length = len ∧ SlT W ad rs ∧ (∀ r ∈ rs, r.fits) ∧ len ≤ maxLen := by
  rcases open_slice Try.underlying30 h with ⟨hcs, -⟩ | ⟨a, l, c, m, n, D, Pl, hcs, -, hlc, hcm, hm, -, hel⟩
  · simp at hcs
    obtain ⟨rfl, rfl, rfl⟩ := hcs
    exact ⟨[], rfl, .inl rfl, (fun t ht => by cases ht), by unfold maxLen; omega⟩
  · simp at hcs
    obtain ⟨rfl, rfl, rfl⟩ := hcs
    have hle : len ≤ m := by rw [hm]; split <;> omega
    by_cases h0 : len = 0
    · subst h0
      exact ⟨[], rfl, .inl rfl, (fun t ht => by cases ht), by omega⟩
    have key : ∀ i, i < len → ∃ r : TR, (∀ j, j < 2 → W.cell? ((a.add (i * 2)).add j) = [Value.string r.name, .slice r.ad r.rows.length r.cap][j]?) ∧ r.ok W ∧ r.fits := by
      intro i hi
      obtain ⟨cs', hc, hd⟩ := hel i (by omega)
      rw [cellsTR] at hc
      obtain ⟨r, rfl, hh⟩ := readTR hd
      exact ⟨r, fun j hj => (World.cells?_some hc).2.2 j hj, hh⟩
    have hspot : a.spot = none := by
      obtain ⟨t, ht, -⟩ := key 0 (by omega)
      have := ht 0 (by omega)
      have e : (a.add (0 * 2)).add 0 = a := by simp [Addr.add]
      rw [e] at this
      exact World.cell?_spot this
    obtain ⟨b, off, spot⟩ := a
    simp only at hspot
    subst hspot
    obtain ⟨f, hf⟩ := @choose_lt TR ⟨⟨⟨#[]⟩, [], none, 0⟩⟩ len _ key
    have at2 : ∀ i, i < len → AtT W b (off + i * 2) (f i) := by
      intro i hi
      obtain ⟨hc, -⟩ := hf i hi
      simp only [add_none'] at hc
      exact ⟨hc 0 (by omega), hc 1 (by omega)⟩
    refine ⟨(List.range len).map f, by simp, .inr ⟨b, off, rfl, ?_, ?_, ?_⟩, ?_, by omega⟩
    · exact World.block_lt_of_cell? W ⟨b, off + 0 * 2, none⟩ (at2 0 (by omega)).1
    · intro i hi
      have hi' : i < len := by simpa using hi
      simpa using at2 i hi'
    · intro t ht
      simp only [List.mem_map, List.mem_range] at ht
      obtain ⟨i, hi, rfl⟩ := ht
      exact (hf i hi).2.1
    · intro t ht
      simp only [List.mem_map, List.mem_range] at ht
      obtain ⟨i, hi, rfl⟩ := ht
      exact (hf i hi).2.2

end
end Go.Proofs.Ytpmgkkbkficgpaa
