/- What a slice of nodes that can be read leads to: nodes whose strings and lists fit. -/
import Derived.Test.YtpmgkkbkficgpaaExprs
import Derived.OpenShut
import Derived.ShutString
import Derived.ChangeOld
import Derived.Lib.SmallJoins
import Derived.ChangeSlices
import Derived.Deep.Slices
import Derived.Test.YtpmgkkbkficgpaaSchemas
namespace Go.Proofs.Ytpmgkkbkficgpaa
open Go.ChangeShapes Go.WideShapes Go.ChangeAt Go.RowKit Go.Joins Go.Deep

theorem add_none' (b off x : Nat) : (⟨b, off, none⟩ : Addr).add x = ⟨b, off + x, none⟩ := by
  unfold Addr.add
  by_cases h : x = 0
  · subst h; simp
  · simp [h]
theorem cellsStr' : Try.prog.cellsOf 9 = 1 := by kernel_rfl
theorem cellsI64 : Try.prog.cellsOf 2 = 1 := by kernel_rfl
theorem cellsAl : Try.prog.cellsOf 129 = 2 := by kernel_rfl
theorem cellsSlA : Try.prog.cellsOf 44 = 1 := by kernel_rfl
theorem cellsSlI : Try.prog.cellsOf 45 = 1 := by kernel_rfl
theorem cellsEx : Try.prog.cellsOf 47 = 5 := by kernel_rfl

section
variable {H : Type} {enc : TypeId × Value → H} {W : World} {base : Nat} {sp : Nat → Bool} {held : Bool}

theorem trod_struct5 {P : Program} {w : World} {t : TypeId} {f0 f1 f2 f3 f4 : Field} {fuel : Nat} {cs : List Value} {x : DataW H × List MemPlace} (ht : P.underlying t = some (.struct #[f0, f1, f2, f3, f4])) (h : DataW.trod enc P w base sp held fuel t cs = some x) :
    ∃ (y0 y1 y2 y3 y4 : DataW H × List MemPlace) (n : Nat), cs.length = P.cellsOf t ∧
      DataW.trod enc P w base sp held n f0.type ((cs.drop f0.offset).take (P.cellsOf f0.type)) = some y0 ∧
      DataW.trod enc P w base sp held n f1.type ((cs.drop f1.offset).take (P.cellsOf f1.type)) = some y1 ∧
      DataW.trod enc P w base sp held n f2.type ((cs.drop f2.offset).take (P.cellsOf f2.type)) = some y2 ∧
      DataW.trod enc P w base sp held n f3.type ((cs.drop f3.offset).take (P.cellsOf f3.type)) = some y3 ∧
      DataW.trod enc P w base sp held n f4.type ((cs.drop f4.offset).take (P.cellsOf f4.type)) = some y4 := by
  obtain ⟨xs, n, _, rfl, hl, hlen, hf⟩ := DataW.trod_struct ht h
  match xs, hlen with
  | [y0, y1, y2, y3, y4], _ => exact ⟨y0, y1, y2, y3, y4, n, hl, by simpa using hf 0 f0 rfl, by simpa using hf 1 f1 rfl, by simpa using hf 2 f2 rfl, by simpa using hf 3 f3 rfl, by simpa using hf 4 f4 rfl⟩

set_option maxRecDepth 100000 in
theorem read_al {fuel : Nat} {cs : List Value} {x : DataW H × List MemPlace} (h : DataW.trod enc Try.prog W base sp held fuel 129 cs = some x) : ∃ a : Al, cs = [.string a.t, .string a.s] ∧ a.fits := by
  obtain ⟨y0, y1, n, -, hl, h0, h1⟩ := trod_struct2 Try.underlying129 h
  rw [cellsAl] at hl
  match cs, hl with
  | [c0, c1], _ =>
    simp only [cellsStr', List.drop_zero, List.drop_succ_cons, List.take_succ_cons, List.take_zero] at h0 h1
    obtain ⟨a, e0, -, wa⟩ := DataW.trod_string Try.underlying9 h0
    obtain ⟨b, e1, -, wb⟩ := DataW.trod_string Try.underlying9 h1
    simp at e0 e1
    subst e0 e1
    exact ⟨⟨a, b⟩, rfl, wa, wb⟩

theorem read_als {fuel : Nat} {cs : List Value} {x : DataW H × List MemPlace} (h : DataW.trod enc Try.prog W base sp held fuel 44 cs = some x) :
    ∃ (ad : Option Addr) (cap : Nat) (xs : List Al), cs = [.slice ad xs.length cap] ∧ SlA W ad xs ∧ (∀ a ∈ xs, a.fits) ∧ xs.length ≤ maxLen := by
  rcases open_slice Try.underlying44 h with ⟨hcs, -⟩ | ⟨a, len, cap, m, n, D, Pl, hcs, -, hlc, hcm, hm, -, hel⟩
  · exact ⟨none, 0, [], hcs, .inl rfl, (fun a ha => by cases ha), by unfold maxLen; simp⟩
  · have hle : len ≤ m := by rw [hm]; split <;> omega
    by_cases h0 : len = 0
    · subst h0
      exact ⟨some a, cap, [], hcs, .inl rfl, (fun a ha => by cases ha), by unfold maxLen; simp⟩
    have key : ∀ i, i < len → ∃ t : Al, (∀ j, j < 2 → W.cell? ((a.add (i * 2)).add j) = [Value.string t.t, .string t.s][j]?) ∧ t.fits := by
      intro i hi
      obtain ⟨cs', hc, hd⟩ := hel i (by omega)
      rw [cellsAl] at hc
      obtain ⟨t, rfl, hh⟩ := read_al hd
      exact ⟨t, fun j hj => (World.cells?_some hc).2.2 j hj, hh⟩
    have hspot : a.spot = none := by
      obtain ⟨t, ht, -⟩ := key 0 (by omega)
      have := ht 0 (by omega)
      have e : (a.add (0 * 2)).add 0 = a := by simp [Addr.add]
      rw [e] at this
      exact World.cell?_spot this
    obtain ⟨b, off, spot⟩ := a
    simp only at hspot
    subst hspot
    obtain ⟨f, hf⟩ := @choose_lt Al ⟨⟨⟨#[]⟩, ⟨#[]⟩⟩⟩ len _ key
    have at2 : ∀ i, i < len → At2 W b (off + i * 2) (f i) := by
      intro i hi
      obtain ⟨hc, -⟩ := hf i hi
      simp only [add_none'] at hc
      exact ⟨hc 0 (by omega), hc 1 (by omega)⟩
    refine ⟨some ⟨b, off, none⟩, cap, (List.range len).map f, by simpa using hcs, .inr ⟨b, off, rfl, ?_, ?_⟩, ?_, by simp; omega⟩
    · exact World.block_lt_of_cell? W ⟨b, off + 0 * 2, none⟩ (at2 0 (by omega)).1
    · intro i hi
      have hi' : i < len := by simpa using hi
      simpa using at2 i hi'
    · intro t ht
      simp only [List.mem_map, List.mem_range] at ht
      obtain ⟨i, hi, rfl⟩ := ht
      exact (hf i hi).2

theorem read_ints {fuel : Nat} {cs : List Value} {x : DataW H × List MemPlace} (h : DataW.trod enc Try.prog W base sp held fuel 45 cs = some x) :
    ∃ (ad : Option Addr) (cap : Nat) (zs : List Int), cs = [.slice ad zs.length cap] ∧ SlI W ad zs ∧ zs.length ≤ maxLen := by
  rcases open_ints Try.underlying45 Try.underlying2 cellsI64 h with ⟨hcs, -⟩ | ⟨a, len, cap, zs, hcs, -, hlc, hcm, hm, -, hel, -⟩
  · exact ⟨none, 0, [], hcs, .inl rfl, by unfold maxLen; simp⟩
  · have hle : len ≤ zs.length := by rw [hm]; split <;> omega
    by_cases h0 : len = 0
    · subst h0
      exact ⟨some a, cap, [], hcs, .inl rfl, by unfold maxLen; simp⟩
    have hspot : a.spot = none := by
      have := hel 0 (by omega)
      have e : a.add 0 = a := by simp [Addr.add]
      rw [e] at this
      exact World.cell?_spot this
    obtain ⟨b, off, spot⟩ := a
    simp only at hspot
    subst hspot
    simp only [add_none'] at hel
    have hl : (zs.take len).length = len := by simp; omega
    refine ⟨some ⟨b, off, none⟩, cap, zs.take len, by rw [hl]; exact hcs, .inr ⟨b, off, rfl, ?_, ?_⟩, by omega⟩
    · exact World.block_lt_of_cell? W ⟨b, off + 0, none⟩ (hel 0 (by omega))
    · intro i hi
      have hi' : i < zs.length := by omega
      rw [hel i hi', List.getElem_take]
      simp [hi']

set_option maxRecDepth 100000 in
theorem read_ex {fuel : Nat} {cs : List Value} {x : DataW H × List MemPlace} (h : DataW.trod enc Try.prog W base sp held fuel 47 cs = some x) :
    ∃ r : ER, cs = [.int .i64 r.e.kind, .slice r.adA r.e.allow.length r.capA, .string r.e.over, .string r.e.name, .slice r.adK r.e.kids.length r.capK] ∧ r.ok W ∧ r.e.fits := by
  obtain ⟨y0, y1, y2, y3, y4, n, hl, h0, h1, h2, h3, h4⟩ := trod_struct5 Try.underlying47 h
  rw [cellsEx] at hl
  match cs, hl with
  | [c0, c1, c2, c3, c4], _ =>
    simp only [cellsStr', cellsI64, cellsSlA, cellsSlI, List.drop_zero, List.drop_succ_cons, List.take_succ_cons, List.take_zero] at h0 h1 h2 h3 h4
    obtain ⟨k, e0, -, -⟩ := DataW.trod_int Try.underlying2 h0
    obtain ⟨adA, capA, xs, e1, hA, fA, lA⟩ := read_als h1
    obtain ⟨o, e2, -, wo⟩ := DataW.trod_string Try.underlying9 h2
    obtain ⟨nm, e3, -, wn⟩ := DataW.trod_string Try.underlying9 h3
    obtain ⟨adK, capK, zs, e4, hK, lK⟩ := read_ints h4
    simp at e0 e1 e2 e3 e4
    subst e0 e1 e2 e3 e4
    exact ⟨⟨⟨k, xs, o, nm, zs⟩, adA, capA, adK, capK⟩, rfl, ⟨hA, hK⟩, fA, wo, wn, lA, lK⟩

theorem open_exprs {fuel : Nat} {ad : Option Addr} {len cap : Nat} {x : DataW H × List MemPlace} (h : DataW.trod enc Try.prog W base sp held fuel 22 [.slice ad len cap] = some x) :
    ∃ rs : List ER, rs.length = len ∧ SlE W ad rs ∧ (∀ r ∈ rs, r.e.fits) ∧ len ≤ maxLen := by
  rcases open_slice Try.underlying22 h with ⟨hcs, -⟩ | ⟨a, l, c, m, n, D, Pl, hcs, -, hlc, hcm, hm, -, hel⟩
  · simp at hcs
    obtain ⟨rfl, rfl, rfl⟩ := hcs
    exact ⟨[], rfl, .inl rfl, (fun t ht => by cases ht), by unfold maxLen; omega⟩
  · simp at hcs
    obtain ⟨rfl, rfl, rfl⟩ := hcs
    have hle : len ≤ m := by rw [hm]; split <;> omega
    by_cases h0 : len = 0
    · subst h0
      exact ⟨[], rfl, .inl rfl, (fun t ht => by cases ht), by omega⟩
    have key : ∀ i, i < len → ∃ r : ER, (∀ j, j < 5 → W.cell? ((a.add (i * 5)).add j) = [Value.int .i64 r.e.kind, .slice r.adA r.e.allow.length r.capA, .string r.e.over, .string r.e.name, .slice r.adK r.e.kids.length r.capK][j]?) ∧ r.ok W ∧ r.e.fits := by
      intro i hi
      obtain ⟨cs', hc, hd⟩ := hel i (by omega)
      rw [cellsEx] at hc
      obtain ⟨r, rfl, hh⟩ := read_ex hd
      exact ⟨r, fun j hj => (World.cells?_some hc).2.2 j hj, hh⟩
    have hspot : a.spot = none := by
      obtain ⟨t, ht, -⟩ := key 0 (by omega)
      have := ht 0 (by omega)
      have e : (a.add (0 * 5)).add 0 = a := by simp [Addr.add]
      rw [e] at this
      exact World.cell?_spot this
    obtain ⟨b, off, spot⟩ := a
    simp only at hspot
    subst hspot
    obtain ⟨f, hf⟩ := @choose_lt ER ⟨⟨⟨0, [], ⟨#[]⟩, ⟨#[]⟩, []⟩, none, 0, none, 0⟩⟩ len _ key
    have at5 : ∀ i, i < len → At5 W b (off + i * 5) (f i) := by
      intro i hi
      obtain ⟨hc, -⟩ := hf i hi
      simp only [add_none'] at hc
      exact ⟨hc 0 (by omega), hc 1 (by omega), hc 2 (by omega), hc 3 (by omega), hc 4 (by omega)⟩
    refine ⟨(List.range len).map f, by simp, .inr ⟨b, off, rfl, ?_, ?_, ?_⟩, ?_, by omega⟩
    · exact World.block_lt_of_cell? W ⟨b, off + 0 * 5, none⟩ (at5 0 (by omega)).1
    · intro i hi
      have hi' : i < len := by simpa using hi
      simpa using at5 i hi'
    · intro t ht
      simp only [List.mem_map, List.mem_range] at ht
      obtain ⟨i, hi, rfl⟩ := ht
      exact (hf i hi).2.1
    · intro t ht
      simp only [List.mem_map, List.mem_range] at ht
      obtain ⟨i, hi, rfl⟩ := ht
      exact (hf i hi).2.2
end
end Go.Proofs.Ytpmgkkbkficgpaa

/- What a slice of types that can be read leads to: a schema whose strings and lists fit. -/
namespace Go.Proofs.Ytpmgkkbkficgpaa
open Go.ChangeShapes Go.WideShapes Go.ChangeAt Go.RowKit Go.Joins Go.Deep

section
variable {H : Type} {enc : TypeId × Value → H} {W : World} {base : Nat} {sp : Nat → Bool} {held : Bool}

theorem cellsRR : Try.prog.cellsOf 138 = 2 := by kernel_rfl
theorem cellsInRR : Try.prog.cellsOf 22 = 1 := by kernel_rfl
set_option maxRecDepth 100000 in
theorem readRR {fuel : Nat} {cs : List Value} {x : DataW H × List MemPlace} (h : DataW.trod enc Try.prog W base sp held fuel 138 cs = some x) :
    ∃ r : RR, cs = [.string r.name, .slice r.ad r.rows.length r.cap] ∧ r.ok W ∧ r.fits := by
  obtain ⟨y0, y1, n, -, hl, h0, h1⟩ := trod_struct2 Try.underlying138 h
  rw [cellsRR] at hl
  match cs, hl with
  | [c0, c1], _ =>
    simp only [cellsStr', cellsInRR, List.drop_zero, List.drop_succ_cons, List.take_succ_cons, List.take_zero] at h0 h1
    obtain ⟨a, e0, -, wa⟩ := DataW.trod_string Try.underlying9 h0
    obtain ⟨ad, len, cap, e1⟩ : ∃ ad len cap, c1 = .slice ad len cap := by
      rcases open_slice Try.underlying22 h1 with ⟨hcs, -⟩ | ⟨a, l, c, m, n, D, Pl, hcs, -⟩
      · simp at hcs; exact ⟨_, _, _, hcs⟩
      · simp at hcs; exact ⟨_, _, _, hcs⟩
    simp at e0
    subst e0 e1
    obtain ⟨rs, rfl, hs, hf, hm⟩ := open_exprs h1
    exact ⟨⟨a, rs, ad, cap⟩, rfl, hs, wa, hm, hf⟩

theorem open_rels {fuel : Nat} {ad : Option Addr} {len cap : Nat} {x : DataW H × List MemPlace} (h : DataW.trod enc Try.prog W base sp held fuel 60 [.slice ad len cap] = some x) :
    ∃ rs : List RR, rs.length = len ∧ SlR W ad rs ∧ (∀ r ∈ rs, r.fits) ∧ len ≤ maxLen := by
  rcases open_slice Try.underlying60 h with ⟨hcs, -⟩ | ⟨a, l, c, m, n, D, Pl, hcs, -, hlc, hcm, hm, -, hel⟩
  · simp at hcs
    obtain ⟨rfl, rfl, rfl⟩ := hcs
    exact ⟨[], rfl, .inl rfl, (fun t ht => by cases ht), by unfold maxLen; omega⟩
  · simp at hcs
    obtain ⟨rfl, rfl, rfl⟩ := hcs
    have hle : len ≤ m := by rw [hm]; split <;> omega
    by_cases h0 : len = 0
    · subst h0
      exact ⟨[], rfl, .inl rfl, (fun t ht => by cases ht), by omega⟩
    have key : ∀ i, i < len → ∃ r : RR, (∀ j, j < 2 → W.cell? ((a.add (i * 2)).add j) = [Value.string r.name, .slice r.ad r.rows.length r.cap][j]?) ∧ r.ok W ∧ r.fits := by
      intro i hi
      obtain ⟨cs', hc, hd⟩ := hel i (by omega)
      rw [cellsRR] at hc
      obtain ⟨r, rfl, hh⟩ := readRR hd
      exact ⟨r, fun j hj => (World.cells?_some hc).2.2 j hj, hh⟩
    have hspot : a.spot = none := by
      obtain ⟨t, ht, -⟩ := key 0 (by omega)
      have := ht 0 (by omega)
      have e : (a.add (0 * 2)).add 0 = a := by simp [Addr.add]
      rw [e] at this
      exact World.cell?_spot this
    obtain ⟨b, off, spot⟩ := a
    simp only at hspot
    subst hspot
    obtain ⟨f, hf⟩ := @choose_lt RR ⟨⟨⟨#[]⟩, [], none, 0⟩⟩ len _ key
    have at2 : ∀ i, i < len → AtR W b (off + i * 2) (f i) := by
      intro i hi
      obtain ⟨hc, -⟩ := hf i hi
      simp only [add_none'] at hc
      exact ⟨hc 0 (by omega), hc 1 (by omega)⟩
    refine ⟨(List.range len).map f, by simp, .inr ⟨b, off, rfl, ?_, ?_, ?_⟩, ?_, by omega⟩
    · exact World.block_lt_of_cell? W ⟨b, off + 0 * 2, none⟩ (at2 0 (by omega)).1
    · intro i hi
      have hi' : i < len := by simpa using hi
      simpa using at2 i hi'
    · intro t ht
      simp only [List.mem_map, List.mem_range] at ht
      obtain ⟨i, hi, rfl⟩ := ht
      exact (hf i hi).2.1
    · intro t ht
      simp only [List.mem_map, List.mem_range] at ht
      obtain ⟨i, hi, rfl⟩ := ht
      exact (hf i hi).2.2

theorem cellsTR : Try.prog.cellsOf 62 = 2 := by kernel_rfl
theorem cellsInTR : Try.prog.cellsOf 60 = 1 := by kernel_rfl
set_option maxRecDepth 100000 in
theorem readTR {fuel : Nat} {cs : List Value} {x : DataW H × List MemPlace} (h : DataW.trod enc Try.prog W base sp held fuel 62 cs = some x) :
    ∃ r : TR, cs = [.string r.name, .slice r.ad r.rows.length r.cap] ∧ r.ok W ∧ r.fits := by
  obtain ⟨y0, y1, n, -, hl, h0, h1⟩ := trod_struct2 Try.underlying62 h
  rw [cellsTR] at hl
  match cs, hl with
  | [c0, c1], _ =>
    simp only [cellsStr', cellsInTR, List.drop_zero, List.drop_succ_cons, List.take_succ_cons, List.take_zero] at h0 h1
    obtain ⟨a, e0, -, wa⟩ := DataW.trod_string Try.underlying9 h0
    obtain ⟨ad, len, cap, e1⟩ : ∃ ad len cap, c1 = .slice ad len cap := by
      rcases open_slice Try.underlying60 h1 with ⟨hcs, -⟩ | ⟨a, l, c, m, n, D, Pl, hcs, -⟩
      · simp at hcs; exact ⟨_, _, _, hcs⟩
      · simp at hcs; exact ⟨_, _, _, hcs⟩
    simp at e0
    subst e0 e1
    obtain ⟨rs, rfl, hs, hf, hm⟩ := open_rels h1
    exact ⟨⟨a, rs, ad, cap⟩, rfl, hs, wa, hm, hf⟩

theorem open_types {fuel : Nat} {ad : Option Addr} {len cap : Nat} {x : DataW H × List MemPlace} (h : DataW.trod enc Try.prog W base sp held fuel 30 [.slice ad len cap] = some x) :
    ∃ rs : List TR, rs.length = len ∧ SlT W ad rs ∧ (∀ r ∈ rs, r.fits) ∧ len ≤ maxLen := by
  rcases open_slice Try.underlying30 h with ⟨hcs, -⟩ | ⟨a, l, c, m, n, D, Pl, hcs, -, hlc, hcm, hm, -, hel⟩
  · simp at hcs
    obtain ⟨rfl, rfl, rfl⟩ := hcs
    exact ⟨[], rfl, .inl rfl, (fun t ht => by cases ht), by unfold maxLen; omega⟩
  · simp at hcs
    obtain ⟨rfl, rfl, rfl⟩ := hcs
    have hle : len ≤ m := by rw [hm]; split <;> omega
    by_cases h0 : len = 0
    · subst h0
      exact ⟨[], rfl, .inl rfl, (fun t ht => by cases ht), by omega⟩
    have key : ∀ i, i < len → ∃ r : TR, (∀ j, j < 2 → W.cell? ((a.add (i * 2)).add j) = [Value.string r.name, .slice r.ad r.rows.length r.cap][j]?) ∧ r.ok W ∧ r.fits := by
      intro i hi
      obtain ⟨cs', hc, hd⟩ := hel i (by omega)
      rw [cellsTR] at hc
      obtain ⟨r, rfl, hh⟩ := readTR hd
      exact ⟨r, fun j hj => (World.cells?_some hc).2.2 j hj, hh⟩
    have hspot : a.spot = none := by
      obtain ⟨t, ht, -⟩ := key 0 (by omega)
      have := ht 0 (by omega)
      have e : (a.add (0 * 2)).add 0 = a := by simp [Addr.add]
      rw [e] at this
      exact World.cell?_spot this
    obtain ⟨b, off, spot⟩ := a
    simp only at hspot
    subst hspot
    obtain ⟨f, hf⟩ := @choose_lt TR ⟨⟨⟨#[]⟩, [], none, 0⟩⟩ len _ key
    have at2 : ∀ i, i < len → AtT W b (off + i * 2) (f i) := by
      intro i hi
      obtain ⟨hc, -⟩ := hf i hi
      simp only [add_none'] at hc
      exact ⟨hc 0 (by omega), hc 1 (by omega)⟩
    refine ⟨(List.range len).map f, by simp, .inr ⟨b, off, rfl, ?_, ?_, ?_⟩, ?_, by omega⟩
    · exact World.block_lt_of_cell? W ⟨b, off + 0 * 2, none⟩ (at2 0 (by omega)).1
    · intro i hi
      have hi' : i < len := by simpa using hi
      simpa using at2 i hi'
    · intro t ht
      simp only [List.mem_map, List.mem_range] at ht
      obtain ⟨i, hi, rfl⟩ := ht
      exact (hf i hi).2.1
    · intro t ht
      simp only [List.mem_map, List.mem_range] at ht
      obtain ⟨i, hi, rfl⟩ := ht
      exact (hf i hi).2.2

end
end Go.Proofs.Ytpmgkkbkficgpaa
