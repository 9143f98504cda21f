/- What a slice of nodes that can be read leads to: nodes whose strings and lists fit. -/
import Derived.Test.YtpmgkkbkficgpaaExprs
import Derived.OpenShut
import Derived.ShutString
import Derived.ChangeOld
import Derived.Lib.SmallJoins
import Derived.ChangeSlices
import Derived.Deep.Slices
import Derived.Test.YtpmgkkbkficgpaaSchemas
namespace Go.Proofs.Ytpmgkkbkficgpaa
open Go.ChangeShapes Go.WideShapes Go.ChangeAt Go.RowKit Go.Joins Go.Deep

theorem add_none' (b off x : Nat) : (⟨b, off, none⟩ : Addr).add x = ⟨b, off + x, none⟩ := by
  unfold Addr.add
  by_cases h : x = 0
  · subst h; simp
  · simp [h]
theorem cellsStr' : Try.prog.cellsOf 9 = 1 := by kernel_rfl
theorem cellsI64 : Try.prog.cellsOf 2 = 1 := by kernel_rfl
theorem cellsAl : Try.prog.cellsOf 129 = 2 := by kernel_rfl
theorem cellsSlA : Try.prog.cellsOf 44 = 1 := by kernel_rfl
theorem cellsSlI : Try.prog.cellsOf 45 = 1 := by kernel_rfl
theorem cellsEx : Try.prog.cellsOf 47 = 5 := by kernel_rfl

section
variable {H : Type} {enc : TypeId × Value → H} {W : World} {base : Nat} {sp : Nat → Bool} {held : Bool}

theorem trod_struct5 {P : Program} {w : World} {t : TypeId} {f0 f1 f2 f3 f4 : Field} {fuel : Nat} {cs : List Value} {x : DataW H × List MemPlace} (ht : P.underlying t = some (.struct #[f0, f1, f2, f3, f4])) (h : DataW.trod enc P w base sp held fuel t cs = some x) :
    ∃ (y0 y1 y2 y3 y4 : DataW H × List MemPlace) (n : Nat), cs.length = P.cellsOf t ∧
      DataW.trod enc P w base sp held n f0.type ((cs.drop f0.offset).take (P.cellsOf f0.type)) = some y0 ∧
      DataW.trod enc P w base sp held n f1.type ((cs.drop f1.offset).take (P.cellsOf f1.type)) = some y1 ∧
      DataW.trod enc P w base sp held n f2.type ((cs.drop f2.offset).take (P.cellsOf f2.type)) = some y2 ∧
      DataW.trod enc P w base sp held n f3.type ((cs.drop f3.offset).take (P.cellsOf f3.type)) = some y3 ∧
      DataW.trod enc P w base sp held n f4.type ((cs.drop f4.offset).take (P.cellsOf f4.type)) = some y4 := by
  obtain ⟨xs, n, _, rfl, hl, hlen, hf⟩ := DataW.trod_struct ht h
  match xs, hlen with
  | [y0, y1, y2, y3, y4], _ => exact ⟨y0, y1, y2, y3, y4, n, hl, by simpa using hf 0 f0 rfl, by simpa using hf 1 f1 rfl, by simpa using hf 2 f2 rfl, by simpa using hf 3 f3 rfl, by simpa using hf 4 f4 rfl⟩

set_option maxRecDepth 100000 in
theorem read_al {fuel : Nat} {cs : List Value} {x : DataW H × List MemPlace} (h : DataW.trod enc Try.prog W base sp held fuel 129 cs = some x) : ∃ a : Al, cs = [.string a.t, .string a.s] ∧ a.fits := by
  obtain ⟨y0, y1, n, -, hl, h0, h1⟩ := trod_struct2 Try.underlying129 h
  rw [cellsAl] at hl
  match cs, hl with
  | [c0, c1], _ =>
    simp only [cellsStr', List.drop_zero, List.drop_succ_cons, List.take_succ_cons, List.take_zero] at h0 h1
    obtain ⟨a, e0, -, wa⟩ := DataW.trod_string Try.underlying9 h0
    obtain ⟨b, e1, -, wb⟩ := DataW.trod_string Try.underlying9 h1
    simp at e0 e1
    subst e0 e1
    exact ⟨⟨a, b⟩, rfl, wa, wb⟩

theorem read_als {fuel : Nat} {cs : List Value} {x : DataW H × List MemPlace} (h : DataW.trod enc Try.prog W base sp held fuel 44 cs = some x) :
    ∃ (ad : Option Addr) (cap : Nat) (xs : List Al), cs = [.slice ad xs.length cap] ∧ SlA W ad xs ∧ (∀ a ∈ xs, a.fits) ∧ xs.length ≤ maxLen := by
  rcases open_slice Try.underlying44 h with ⟨hcs, -⟩ | ⟨a, len, cap, m, n, D, Pl, hcs, -, hlc, hcm, hm, -, hel⟩
  · exact ⟨none, 0, [], hcs, .inl rfl, (fun a ha => by cases ha), by unfold maxLen; simp⟩
  · have hle : len ≤ m := by rw [hm]; split <;> omega
    by_cases h0 : len = 0
    · subst h0
      exact ⟨some a, cap, [], hcs, .inl rfl, (fun a ha => by cases ha), by unfold maxLen; simp⟩
    have key : ∀ i, i < len → ∃ t : Al, (∀ j, j < 2 → W.cell? ((a.add (i * 2)).add j) = [Value.string t.t, .string t.s][j]?) ∧ t.fits := by
      intro i hi
      obtain ⟨cs', hc, hd⟩ := hel i (by omega)
      rw [cellsAl] at hc
      obtain ⟨t, rfl, hh⟩ := read_al hd
      exact ⟨t, fun j hj => (World.cells?_some hc).2.2 j hj, hh⟩
    have hspot : a.spot = none := by
      obtain ⟨t, ht, -⟩ := key 0 (by omega)
      have := ht 0 (by omega)
      have e : (a.add (0 * 2)).add 0 = a := by simp [Addr.add]
      rw [e] at this
      exact World.cell?_spot this
    obtain ⟨b, off, spot⟩ := a
    simp only at hspot
    subst hspot
    obtain ⟨f, hf⟩ := @choose_lt Al ⟨⟨⟨#[]⟩, ⟨#[]⟩⟩⟩ len _ key
    have at2 : ∀ i, i < len → At2 W b (off + i * 2) (f i) := by
      intro i hi
      obtain ⟨hc, -⟩ := hf i hi
      simp only [add_none'] at hc
      exact ⟨hc 0 (by omega), hc 1 (by omega)⟩
    refine ⟨some ⟨b, off, none⟩, cap, (List.range len).map f, by simpa using hcs, .inr ⟨b, off, rfl, ?_, ?_⟩, ?_, by simp; omega⟩
    · exact World.block_lt_of_cell? W ⟨b, off + 0 * 2, none⟩ (at2 0 (by omega)).1
    · intro i hi
      have hi' : i < len := by simpa using hi
      simpa using at2 i hi'
    · intro t ht
      simp only [List.mem_map, List.mem_range] at ht
      obtain ⟨i, hi, rfl⟩ := ht
      exact (hf i hi).2

theorem read_ints {fuel : Nat} {cs : List Value} {x : DataW H × List MemPlace} (h : DataW.trod enc Try.prog W base sp held fuel 45 cs = some x) :
    ∃ (ad : Option Addr) (cap : Nat) (zs : List Int), cs = [.slice ad zs.length cap] ∧ SlI W ad zs ∧ zs.length ≤ maxLen := by
  rcases open_ints Try.underlying45 Try.underlying2 cellsI64 h with ⟨hcs, -⟩ | ⟨a, len, cap, zs, hcs, -, hlc, hcm, hm, -, hel, -⟩
  · exact ⟨none, 0, [], hcs, .inl rfl, by unfold maxLen; simp⟩
  · have hle : len ≤ zs.length := by rw [hm]; split <;> omega
    by_cases h0 : len = 0
    · subst h0
      exact ⟨some a, cap, [], hcs, .inl rfl, by unfold maxLen; simp⟩
    have hspot : a.spot = none := by
      have := hel 0 (by omega)
      have e : a.add 0 = a := by simp [Addr.add]
      rw [e] at this
      exact World.cell?_spot this
    obtain ⟨b, off, spot⟩ := a
    simp only at hspot
    subst hspot
    simp only [add_none'] at hel
    have hl : (zs.take len).length = len := by simp; omega
    refine ⟨some ⟨b, off, none⟩, cap, zs.take len, by rw [hl]; exact hcs, .inr ⟨b, off, rfl, ?_, ?_⟩, by omega⟩
    · exact World.block_lt_of_cell? W ⟨b, off + 0, none⟩ (hel 0 (by omega))
    · intro i hi
      have hi' : i < zs.length := by omega
      rw [hel i hi', List.getElem_take]
      simp [hi']

set_option maxRecDepth 100000 in
theorem read_ex {fuel : Nat} {cs : List Value} {x : DataW H × List MemPlace} (h : DataW.trod enc Try.prog W base sp held fuel 47 cs = some x) :
    ∃ r : ER, cs = [.int .i64 r.e.kind, .slice r.adA r.e.allow.length r.capA, .string r.e.over, .string r.e.name, .slice r.adK r.e.kids.length r.capK] ∧ r.ok W ∧ r.e.fits := by
  obtain ⟨y0, y1, y2, y3, y4, n, hl, h0, h1, h2, h3, h4⟩ := trod_struct5 Try.underlying47 h
  rw [cellsEx] at hl
  match cs, hl with
  | [c0, c1, c2, c3, c4], _ =>
    simp only [cellsStr', cellsI64, cellsSlA, cellsSlI, List.drop_zero, List.drop_succ_cons, List.take_succ_cons, List.take_zero] at h0 h1 h2 h3 h4
    obtain ⟨k, e0, -, -⟩ := DataW.trod_int Try.underlying2 h0
    obtain ⟨adA, capA, xs, e1, hA, fA, lA⟩ := read_als h1
    obtain ⟨o, e2, -, wo⟩ := DataW.trod_string Try.underlying9 h2
    obtain ⟨nm, e3, -, wn⟩ := DataW.trod_string Try.underlying9 h3
    obtain ⟨adK, capK, zs, e4, hK, lK⟩ := read_ints h4
    simp at e0 e1 e2 e3 e4
    subst e0 e1 e2 e3 e4
    exact ⟨⟨⟨k, xs, o, nm, zs⟩, adA, capA, adK, capK⟩, rfl, ⟨hA, hK⟩, fA, wo, wn, lA, lK⟩

theorem open_exprs {fuel : Nat} {ad : Option Addr} {len cap : Nat} {x : DataW H × List MemPlace} (h : DataW.trod enc Try.prog W base sp held fuel 22 [.slice ad len cap] = some x) :
    ∃ rs : List ER, rs.length = len ∧ SlE W ad rs ∧ (∀ r ∈ rs, r.e.fits) ∧ len ≤ maxLen := by
  rcases open_slice Try.underlying22 h with ⟨hcs, -⟩ | ⟨a, l, c, m, n, D, Pl, hcs, -, hlc, hcm, hm, -, hel⟩
  · simp at hcs
    obtain ⟨rfl, rfl, rfl⟩ := hcs
    exact ⟨[], rfl, .inl rfl, (fun t ht => by cases ht), by unfold maxLen; omega⟩
  · simp at hcs
    obtain ⟨rfl, rfl, rfl⟩ := hcs
    have hle : len ≤ m := by rw [hm]; split <;> omega
    by_cases h0 : len = 0
    · subst h0
      exact ⟨[], rfl, .inl rfl, (fun t ht => by cases ht), by omega⟩
    have key : ∀ i, i < len → ∃ r : ER, (∀ j, j < 5 → W.cell? ((a.add (i * 5)).add j) = [Value.int .i64 r.e.kind, .slice r.adA r.e.allow.length r.capA, .string r.e.over, .string r.e.name, .slice r.adK r.e.kids.length r.capK][j]?) ∧ r.ok W ∧ r.e.fits := by
      intro i hi
      obtain ⟨cs', hc, hd⟩ := hel i (by omega)
      rw [cellsEx] at hc
      obtain ⟨r, rfl, hh⟩ := read_ex hd
      exact ⟨r, fun j hj => (World.cells?_some hc).2.2 j hj, hh⟩
    have hspot : a.spot = none := by
      obtain ⟨t, ht, -⟩ := key 0 (by omega)
      have := ht 0 (by omega)
      have e : (a.add (0 * 5)).add 0 = a := by simp [Addr.add]
      rw [e] at this
      exact World.cell?_spot this
    obtain ⟨b, off, spot⟩ := a
    simp only at hspot
    subst hspot
    obtain ⟨f, hf⟩ := @choose_lt ER ⟨⟨⟨0, [], ⟨#[]⟩, ⟨#[]⟩, []⟩, none, 0, none, 0⟩⟩ len _ key
    have at5 : ∀ i, i < len → At5 W b (off + i * 5) (f i) := by
      intro i hi
      obtain ⟨hc, -⟩ := hf i hi
      simp only [add_none'] at hc
      exact ⟨hc 0 (by omega), hc 1 (by omega), hc 2 (by omega), hc 3 (by omega), hc 4 (by omega)⟩
    refine ⟨(List.range len).map f, by simp, .inr ⟨b, off, rfl, ?_, ?_, ?_⟩, ?_, by omega⟩
    · exact World.block_lt_of_cell? W ⟨b, off + 0 * 5, none⟩ (at5 0 (by omega)).1
    · intro i hi
      have hi' : i < len := by simpa using hi
      simpa using at5 i hi'
    · intro t ht
      simp only [List.mem_map, List.mem_range] at ht
      obtain ⟨i, hi, rfl⟩ := ht
      exact (hf i hi).2.1
    · intro t ht
      simp only [List.mem_map, List.mem_range] at ht
      obtain ⟨i, hi, rfl⟩ := ht
      exact (hf i hi).2.2
end
end Go.Proofs.Ytpmgkkbkficgpaa

/- What a slice of types that can be read leads to: a schema whose strings and lists fit. -/
namespace Go.Proofs.Ytpmgkkbkficgpaa
open Go.ChangeShapes Go.WideShapes Go.ChangeAt Go.RowKit Go.Joins Go.Deep

section
variable {H : Type} {enc : TypeId × Value → H} {W : World} {base : Nat} {sp : Nat → Bool} {held : Bool}

theorem cellsRR : Try.prog.cellsOf 138 = 2 := by kernel_rfl
theorem cellsInRR : Try.prog.cellsOf 22 = 1 := by kernel_rfl
set_option maxRecDepth 100000 in
theorem readRR {fuel : Nat} {cs : List Value} {x : DataW H × List MemPlace} (h : DataW.trod enc Try.prog W base sp held fuel 138 cs = some x) :
    ∃ r : RR, cs = [.string r.name, .slice r.ad r.rows.length r.cap] ∧ r.ok W ∧ r.fits := by
  obtain ⟨y0, y1, n, -, hl, h0, h1⟩ := trod_struct2 Try.underlying138 h
  rw [cellsRR] at hl
  match cs, hl with
  | [c0, c1], _ =>
    simp only [cellsStr', cellsInRR, List.drop_zero, List.drop_succ_cons, List.take_succ_cons, List.take_zero] at h0 h1
    obtain ⟨a, e0, -, wa⟩ := DataW.trod_string Try.underlying9 h0
    obtain ⟨ad, len, cap, e1⟩ : ∃ ad len cap, c1 = .slice ad len cap := by
      rcases open_slice Try.underlying22 h1 with ⟨hcs, -⟩ | ⟨a, l, c, m, n, D, Pl, hcs, -⟩
      · simp at hcs; exact ⟨_, _, _, hcs⟩
      · simp at hcs; exact ⟨_, _, _, hcs⟩
    simp at e0
    subst e0 e1
    obtain ⟨rs, rfl, hs, hf, hm⟩ := open_exprs h1
    exact ⟨⟨a, rs, ad, cap⟩, rfl, hs, wa, hm, hf⟩

theorem open_rels {fuel : Nat} {ad : Option Addr} {len cap : Nat} {x : DataW H × List MemPlace} (h : DataW.trod enc Try.prog W base sp held fuel 60 [.slice ad len cap] = some x) :
    ∃ rs : List RR, rs.length = len ∧ SlR W ad rs ∧ (∀ r ∈ rs, r.fits) ∧ len ≤ maxLen := by
  rcases open_slice Try.underlying60 h with ⟨hcs, -⟩ | ⟨a, l, c, m, n, D, Pl, hcs, -, hlc, hcm, hm, -, hel⟩
  · simp at hcs
    obtain ⟨rfl, rfl, rfl⟩ := hcs
    exact ⟨[], rfl, .inl rfl, (fun t ht => by cases ht), by unfold maxLen; omega⟩
  · simp at hcs
    obtain ⟨rfl, rfl, rfl⟩ := hcs
    have hle : len ≤ m := by rw [hm]; split <;> omega
    by_cases h0 : len = 0
    · subst h0
      exact ⟨[], rfl, .inl rfl, (fun t ht => by cases ht), by omega⟩
    have key : ∀ i, i < len → ∃ r : RR, (∀ j, j < 2 → W.cell? ((a.add (i * 2)).add j) = [Value.string r.name, .slice r.ad r.rows.length r.cap][j]?) ∧ r.ok W ∧ r.fits := by
      intro i hi
      obtain ⟨cs', hc, hd⟩ := hel i (by omega)
      rw [cellsRR] at hc
      obtain ⟨r, rfl, hh⟩ := readRR hd
      exact ⟨r, fun j hj => (World.cells?_some hc).2.2 j hj, hh⟩
    have hspot : a.spot = none := by
      obtain ⟨t, ht, -⟩ := key 0 (by omega)
      have := ht 0 (by omega)
      have e : (a.add (0 * 2)).add 0 = a := by simp [Addr.add]
      rw [e] at this
      exact World.cell?_spot this
    obtain ⟨b, off, spot⟩ := a
    simp only at hspot
    subst hspot
    obtain ⟨f, hf⟩ := @choose_lt RR ⟨⟨⟨#[]⟩, [], none, 0⟩⟩ len _ key
    have at2 : ∀ i, i < len → AtR W b (off + i * 2) (f i) := by
      intro i hi
      obtain ⟨hc, -⟩ := hf i hi
      simp only [add_none'] at hc
      exact ⟨hc 0 (by omega), hc 1 (by omega)⟩
    refine ⟨(List.range len).map f, by simp, .inr ⟨b, off, rfl, ?_, ?_, ?_⟩, ?_, by omega⟩
    · exact World.block_lt_of_cell? W ⟨b, off + 0 * 2, none⟩ (at2 0 (by omega)).1
    · intro i hi
      have hi' : i < len := by simpa using hi
      simpa using at2 i hi'
    · intro t ht
      simp only [List.mem_map, List.mem_range] at ht
      obtain ⟨i, hi, rfl⟩ := ht
      exact (hf i hi).2.1
    · intro t ht
      simp only [List.mem_map, List.mem_range] at ht
      obtain ⟨i, hi, rfl⟩ := ht
      exact (hf i hi).2.2

theorem cellsTR : Try.prog.cellsOf 62 = 2 := by kernel_rfl
theorem cellsInTR : Try.prog.cellsOf 60 = 1 := by kernel_rfl
set_option maxRecDepth 100000 in
theorem readTR {fuel : Nat} {cs : List Value} {x : DataW H × List MemPlace} (h : DataW.trod enc Try.prog W base sp held fuel 62 cs = some x) :
    ∃ r : TR, cs = [.string r.name, .slice r.ad r.rows.length r.cap] ∧ r.ok W ∧ r.fits := by
  obtain ⟨y0, y1, n, -, hl, h0, h1⟩ := trod_struct2 Try.underlying62 h
  rw [cellsTR] at hl
  match cs, hl with
  | [c0, c1], _ =>
    simp only [cellsStr', cellsInTR, List.drop_zero, List.drop_succ_cons, List.take_succ_cons, List.take_zero] at h0 h1
    obtain ⟨a, e0, -, wa⟩ := DataW.trod_string Try.underlying9 h0
    obtain ⟨ad, len, cap, e1⟩ : ∃ ad len cap, c1 = .slice ad len cap := by
      rcases open_slice Try.underlying60 h1 with ⟨hcs, -⟩ | ⟨a, l, c, m, n, D, Pl, hcs, -⟩
      · simp at hcs; exact ⟨_, _, _, hcs⟩
      · simp at hcs; exact ⟨_, _, _, hcs⟩
    simp at e0
    subst e0 e1
    obtain ⟨rs, rfl, hs, hf, hm⟩ := open_rels h1
    exact ⟨⟨a, rs, ad, cap⟩, rfl, hs, wa, hm, hf⟩

theorem open_types {fuel : Nat} {ad : Option Addr} {len cap : Nat} {x : DataW H × List MemPlace} (h : DataW.trod enc Try.prog W base sp held fuel 30 [.slice ad len cap] = some x) :
    ∃ rs : List TR, rs.length = len ∧ SlT W ad rs ∧ (∀ r ∈ rs, r.fits) ∧ len ≤ maxLen := by
  rcases open_slice Try.underlying30 h with ⟨hcs, -⟩ | ⟨a, l, c, m, n, D, Pl, hcs, -, hlc, hcm, hm, -, hel⟩
  · simp at hcs
    obtain ⟨rfl, rfl, rfl⟩ := hcs
    exact ⟨[], rfl, .inl rfl, (fun t ht => by cases ht), by unfold maxLen; omega⟩
  · simp at hcs
    obtain ⟨rfl, rfl, rfl⟩ := hcs
    have hle : len ≤ m := by rw [hm]; split <;> omega
    by_cases h0 : len = 0
    · subst h0
      exact ⟨[], rfl, .inl rfl, (fun t ht => by cases ht), by omega⟩
    have key : ∀ i, i < len → ∃ r : TR, (∀ j, j < 2 → W.cell? ((a.add (i * 2)).add j) = [Value.string r.name, .slice r.ad r.rows.length r.cap][j]?) ∧ r.ok W ∧ r.fits := by
      intro i hi
      obtain ⟨cs', hc, hd⟩ := hel i (by omega)
      rw [cellsTR] at hc
      obtain ⟨r, rfl, hh⟩ := readTR hd
      exact ⟨r, fun j hj => (World.cells?_some hc).2.2 j hj, hh⟩
    have hspot : a.spot = none := by
      obtain ⟨t, ht, -⟩ := key 0 (by omega)
      have := ht 0 (by omega)
      have e : (a.add (0 * 2)).add 0 = a := by simp [Addr.add]
      rw [e] at this
      exact World.cell?_spot this
    obtain ⟨b, off, spot⟩ := a
    simp only at hspot
    subst hspot
    obtain ⟨f, hf⟩ := @choose_lt TR ⟨⟨⟨#[]⟩, [], none, 0⟩⟩ len _ key
    have at2 : ∀ i, i < len → AtT W b (off + i * 2) (f i) := by
      intro i hi
      obtain ⟨hc, -⟩ := hf i hi
      simp only [add_none'] at hc
      exact ⟨hc 0 (by omega), hc 1 (by omega)⟩
    refine ⟨(List.range len).map f, by simp, .inr ⟨b, off, rfl, ?_, ?_, ?_⟩, ?_, by omega⟩
    · exact World.block_lt_of_cell? W ⟨b, off + 0 * 2, none⟩ (at2 0 (by omega)).1
    · intro i hi
      have hi' : i < len := by simpa using hi
      simpa using at2 i hi'
    · intro t ht
      simp only [List.mem_map, List.mem_range] at ht
      obtain ⟨i, hi, rfl⟩ := ht
      exact (hf i hi).2.1
    · intro t ht
      simp only [List.mem_map, List.mem_range] at ht
      obtain ⟨i, hi, rfl⟩ := ht
      exact (hf i hi).2.2

end
end Go.Proofs.Ytpmgkkbkficgpaa

/- Contracts of the law's helpers that weigh a schema. -/
namespace Go.Proofs.Ytpmgkkbkficgpaa
open Go.ChangeShapes Go.WideShapes Go.ChangeAt Go.RowKit
open Pl

set_option maxHeartbeats 800000 in
theorem szRelation_any (r : RR) (left : Int) (w : World) (hr : r.ok w) (hf : r.fits) (h0 : 0 ≤ left) (h1 : left ≤ 1048576) :
    Calls Try.prog 91 #[r.val, .int .i64 left] w fun e w' => (∃ n : Int, e = .returned (.int .i64 n) ∧ (n = -1 ∨ 0 ≤ n ∧ n ≤ left ∧ r.light)) ∧ Below w.heap.size w w' := by
  obtain ⟨name, rows, ad, cap⟩ := r
  obtain ⟨f1, f2, f3⟩ := hf
  have HO : Hid (SlE w ad rows) := hr
  have HF : Hid (∀ q ∈ rows, q.e.fits) := f3
  simp only at f1 f2
  have g1 := f1
  unfold maxLen at g1
  simp only [RR.val, RR.light]
  clear hr f3
  have HB : Hid (Below w.heap.size w (w.alloc (.cells #[.string name, .slice ad rows.length cap] 138))) := (Below.refl w.heap.size w).alloc (Nat.le_refl _) _
  by_cases h3 : left - name.size < 0
  · go_enter Try.func91, Try.ntmps91
    go_wp2
    go_ret
    exact ⟨⟨-1, rfl, .inl rfl⟩, HB.out⟩
  go_enter Try.func91, Try.ntmps91
  go_wp2_with fail
  refine (szExprS_any ad cap rows _ _ f2 (SlE.below HO.out HB.out) HF.out (by omega) (by omega)).mono ?_
  rintro e w1 ⟨⟨n, rfl, hn⟩, hb1⟩
  have HB1 : Hid (Below w.heap.size w w1) := HB.out.trans (hb1.mono HB.out.size)
  clear hb1 HB
  rcases hn with rfl | ⟨hn0, hn1, hn2, hn3⟩
  · go_wp2
    go_ret
    exact ⟨⟨-1, rfl, .inl rfl⟩, HB1.out⟩
  · have HL : Hid (∀ q ∈ rows, q.e.light) := hn3
    clear hn3
    go_wp2
    go_ret
    exact ⟨⟨n, rfl, .inr ⟨hn0, by omega, by omega, HL.out⟩⟩, HB1.out⟩

set_option maxHeartbeats 800000 in
theorem szRelationS_any (ad : Option Addr) (cap : Nat) (rs : List RR) (left : Int) (w : World) (hlen : rs.length ≤ maxLen) (hs : SlR w ad rs) (hf : ∀ r ∈ rs, r.fits) (h0 : 0 ≤ left) (h1 : left ≤ 1048576) :
    Calls Try.prog 70 #[.slice ad rs.length cap, .int .i64 left] w fun e w' => (∃ n : Int, e = .returned (.int .i64 n) ∧ (n = -1 ∨ 0 ≤ n ∧ n ≤ left ∧ (rs.length : Int) ≤ left ∧ ∀ r ∈ rs, r.light)) ∧ Below w.heap.size w w' := by
  unfold maxLen at hlen
  by_cases hneg : left - rs.length < 0
  · go_enter Try.func70, Try.ntmps70
    go_wp2
    go_ret
    exact ⟨⟨-1, rfl, .inl rfl⟩, Below.refl _ _⟩
  · go_enter Try.func70, Try.ntmps70
    go_wp2
    go_loopw [1, 5] (fun l i wr => ∃ (k : Nat) (x : Int), k ≤ rs.length ∧ i = .int .i64 k ∧ l = .int .i64 x ∧ 0 ≤ x ∧ x ≤ left ∧ Hid (∀ r ∈ rs.take k, r.light) ∧ Below w.heap.size w wr) (fun _ i _ => rs.length - (intOf i).toNat)
    case atStart => exact ⟨0, _, Nat.zero_le _, rfl, rfl, by omega, by omega, (by intro r hr; simp at hr), Below.refl _ _⟩
    case round =>
      obtain ⟨k, x, hk, rfl, rfl, hx0, hx1, HL, hB⟩ := hrel
      by_cases hlt : k < rs.length
      · rcases hs.below hB with rfl | ⟨b, off, rfl, hb, hr, hok⟩
        · simp at hlt
        obtain ⟨t0, t1⟩ := hr k hlt
        have ok := hok rs[k] (List.getElem_mem hlt)
        have ft := hf rs[k] (List.getElem_mem hlt)
        clear hr hs hok
        go_wp2_with fail
        refine (szRelation_any rs[k] x _ ok ft hx0 (by omega)).mono ?_
        rintro e w1 ⟨⟨n, rfl, hn⟩, hb1⟩
        rcases hn with rfl | ⟨hn0, hn1, hn2⟩
        · go_wp2
          go_ret
          exact ⟨⟨-1, rfl, .inl rfl⟩, hB.trans (hb1.mono hB.size)⟩
        · have HL2 : Hid (∀ r ∈ rs.take (k + 1), r.light) := by
            intro r hr
            rw [List.take_succ_eq_append_getElem hlt, List.mem_append, List.mem_singleton] at hr
            rcases hr with hr | rfl
            · exact HL.out r hr
            · exact hn2
          clear hn2 ok ft
          go_wp2
          go_roundw
          case rel => exact ⟨k + 1, _, by omega, by go_num, rfl, by omega, by omega, HL2, hB.trans (hb1.mono hB.size)⟩
          case measure => simp [intOf]; omega
      · have HL2 : Hid (∀ r ∈ rs, r.light) := fun r hr => HL.out r (by rw [List.take_of_length_le (by omega)]; exact hr)
        go_wp2
        go_ret
        exact ⟨⟨x, rfl, .inr ⟨hx0, hx1, by omega, HL2.out⟩⟩, hB⟩

set_option maxHeartbeats 800000 in
theorem szType_any (r : TR) (left : Int) (w : World) (hr : r.ok w) (hf : r.fits) (h0 : 0 ≤ left) (h1 : left ≤ 1048576) :
    Calls Try.prog 37 #[r.val, .int .i64 left] w fun e w' => (∃ n : Int, e = .returned (.int .i64 n) ∧ (n = -1 ∨ 0 ≤ n ∧ n ≤ left ∧ r.light)) ∧ Below w.heap.size w w' := by
  obtain ⟨name, rows, ad, cap⟩ := r
  obtain ⟨f1, f2, f3⟩ := hf
  have HO : Hid (SlR w ad rows) := hr
  have HF : Hid (∀ q ∈ rows, q.fits) := f3
  simp only at f1 f2
  have g1 := f1
  unfold maxLen at g1
  simp only [TR.val, TR.light]
  clear hr f3
  have HB : Hid (Below w.heap.size w (w.alloc (.cells #[.string name, .slice ad rows.length cap] 62))) := (Below.refl w.heap.size w).alloc (Nat.le_refl _) _
  by_cases h3 : left - name.size < 0
  · go_enter Try.func37, Try.ntmps37
    go_wp2
    go_ret
    exact ⟨⟨-1, rfl, .inl rfl⟩, HB.out⟩
  go_enter Try.func37, Try.ntmps37
  go_wp2_with fail
  refine (szRelationS_any ad cap rows _ _ f2 (SlR.below HO.out HB.out) HF.out (by omega) (by omega)).mono ?_
  rintro e w1 ⟨⟨n, rfl, hn⟩, hb1⟩
  have HB1 : Hid (Below w.heap.size w w1) := HB.out.trans (hb1.mono HB.out.size)
  clear hb1 HB
  rcases hn with rfl | ⟨hn0, hn1, hn2, hn3⟩
  · go_wp2
    go_ret
    exact ⟨⟨-1, rfl, .inl rfl⟩, HB1.out⟩
  · have HL : Hid (∀ q ∈ rows, q.light) := hn3
    clear hn3
    go_wp2
    go_ret
    exact ⟨⟨n, rfl, .inr ⟨hn0, by omega, by omega, HL.out⟩⟩, HB1.out⟩

set_option maxHeartbeats 800000 in
theorem szTypeS_any (ad : Option Addr) (cap : Nat) (rs : List TR) (left : Int) (w : World) (hlen : rs.length ≤ maxLen) (hs : SlT w ad rs) (hf : ∀ r ∈ rs, r.fits) (h0 : 0 ≤ left) (h1 : left ≤ 1048576) :
    Calls Try.prog 15 #[.slice ad rs.length cap, .int .i64 left] w fun e w' => (∃ n : Int, e = .returned (.int .i64 n) ∧ (n = -1 ∨ 0 ≤ n ∧ n ≤ left ∧ (rs.length : Int) ≤ left ∧ ∀ r ∈ rs, r.light)) ∧ Below w.heap.size w w' := by
  unfold maxLen at hlen
  by_cases hneg : left - rs.length < 0
  · go_enter Try.func15, Try.ntmps15
    go_wp2
    go_ret
    exact ⟨⟨-1, rfl, .inl rfl⟩, Below.refl _ _⟩
  · go_enter Try.func15, Try.ntmps15
    go_wp2
    go_loopw [1, 5] (fun l i wr => ∃ (k : Nat) (x : Int), k ≤ rs.length ∧ i = .int .i64 k ∧ l = .int .i64 x ∧ 0 ≤ x ∧ x ≤ left ∧ Hid (∀ r ∈ rs.take k, r.light) ∧ Below w.heap.size w wr) (fun _ i _ => rs.length - (intOf i).toNat)
    case atStart => exact ⟨0, _, Nat.zero_le _, rfl, rfl, by omega, by omega, (by intro r hr; simp at hr), Below.refl _ _⟩
    case round =>
      obtain ⟨k, x, hk, rfl, rfl, hx0, hx1, HL, hB⟩ := hrel
      by_cases hlt : k < rs.length
      · rcases hs.below hB with rfl | ⟨b, off, rfl, hb, hr, hok⟩
        · simp at hlt
        obtain ⟨t0, t1⟩ := hr k hlt
        have ok := hok rs[k] (List.getElem_mem hlt)
        have ft := hf rs[k] (List.getElem_mem hlt)
        clear hr hs hok
        go_wp2_with fail
        refine (szType_any rs[k] x _ ok ft hx0 (by omega)).mono ?_
        rintro e w1 ⟨⟨n, rfl, hn⟩, hb1⟩
        rcases hn with rfl | ⟨hn0, hn1, hn2⟩
        · go_wp2
          go_ret
          exact ⟨⟨-1, rfl, .inl rfl⟩, hB.trans (hb1.mono hB.size)⟩
        · have HL2 : Hid (∀ r ∈ rs.take (k + 1), r.light) := by
            intro r hr
            rw [List.take_succ_eq_append_getElem hlt, List.mem_append, List.mem_singleton] at hr
            rcases hr with hr | rfl
            · exact HL.out r hr
            · exact hn2
          clear hn2 ok ft
          go_wp2
          go_roundw
          case rel => exact ⟨k + 1, _, by omega, by go_num, rfl, by omega, by omega, HL2, hB.trans (hb1.mono hB.size)⟩
          case measure => simp [intOf]; omega
      · have HL2 : Hid (∀ r ∈ rs, r.light) := fun r hr => HL.out r (by rw [List.take_of_length_le (by omega)]; exact hr)
        go_wp2
        go_ret
        exact ⟨⟨x, rfl, .inr ⟨hx0, hx1, by omega, HL2.out⟩⟩, hB⟩

end Go.Proofs.Ytpmgkkbkficgpaa

/- Contracts of the law's helpers that copy a schema: new memory that holds the same. -/
namespace Go.Proofs.Ytpmgkkbkficgpaa
open Go.ChangeShapes Go.WideShapes Go.ChangeAt Go.RowKit
open Pl

set_option maxHeartbeats 2000000 in
theorem toRelation_any (r : RR) (w : World) (hr : r.ok w) (hl : r.light) :
    Calls Try.prog 94 #[r.val] w fun e w' => ∃ r' : RR, e = .returned r'.val ∧ r'.p = r.p ∧ r'.new w.heap.size ∧ r'.ok w' ∧ r'.caps ∧ Below w.heap.size w w' := by
  obtain ⟨name, rows, ad, cap⟩ := r
  obtain ⟨l1, l2⟩ := hl
  have HO : Hid (SlE w ad rows) := hr
  have HL : Hid (∀ q ∈ rows, q.e.light) := l2
  simp only at l1
  simp only [RR.val]
  clear hr l2
  go_enter Try.func94, Try.ntmps94
  go_wp2_with fail
  obtain ⟨W1, hW1⟩ : ∃ W1, W1 = ((w.alloc (.cells #[.string name, .slice ad rows.length cap] 138)).alloc (.cells #[.string ⟨#[]⟩, .slice none 0 0] 68)).alloc (.cells #[.string name, .slice none 0 0] 68) := ⟨_, rfl⟩
  rw [← hW1]
  have hz1 : w.heap.size + 3 ≤ W1.heap.size := by rw [hW1]; simp only [World.size_alloc]; omega
  have hb0 : Below w.heap.size w W1 := by rw [hW1]; exact (((Below.refl w.heap.size w).alloc (Nat.le_refl _) _).alloc (by simp) _).alloc (by simp; omega) _
  have bC : Below ((w.alloc (.cells #[.string name, .slice ad rows.length cap] 138)).alloc (.cells #[.string ⟨#[]⟩, .slice none 0 0] 68)).heap.size ((w.alloc (.cells #[.string name, .slice ad rows.length cap] 138)).alloc (.cells #[.string ⟨#[]⟩, .slice none 0 0] 68)) W1 := by rw [hW1]; exact (Below.refl _ _).alloc (Nat.le_refl _) _
  have f1 : ∀ i, W1.frozen? ⟨w.heap.size + 1, i, none⟩ = false := fun i => keptF bC (by simp) (fz_new1 _ _ _ _)
  have f2 : ∀ i, W1.frozen? ⟨w.heap.size + 1 + 1, i, none⟩ = false := fun i => by rw [hW1]; exact fz_new2 _ _ _ _ _
  have z0 : W1.cell? ⟨w.heap.size + 1, 0, none⟩ = some (.string ⟨#[]⟩) := kept bC (by simp) (c_new1 _ _ _ _ _ rfl)
  have z1 : W1.cell? ⟨w.heap.size + 1, 1, none⟩ = some (.slice none 0 0) := kept bC (by simp) (c_new1 _ _ _ _ _ rfl)
  have o0 : W1.cell? ⟨w.heap.size + 1 + 1, 0, none⟩ = some (.string name) := by rw [hW1]; exact c_new2 _ _ _ _ _ _ rfl
  have o1 : W1.cell? ⟨w.heap.size + 1 + 1, 1, none⟩ = some (.slice none 0 0) := by rw [hW1]; exact c_new2 _ _ _ _ _ _ rfl
  clear hW1 bC
  refine (toExprS_any ad cap rows W1 l1 (SlE.below HO.out hb0) HL.out).mono ?_
  rintro e w1 ⟨qs, rfl, hqe, hqs, hqc, hqn, hb1⟩
  replace z0 := kept hb1 (by omega) z0
  replace z1 := kept hb1 (by omega) z1
  replace o0 := kept hb1 (by omega) o0
  replace o1 := kept hb1 (by omega) o1
  have k1 : ∀ i, w1.frozen? ⟨w.heap.size + 1, i, none⟩ = false := fun i => keptF hb1 (by omega) (f1 i)
  have k2 : ∀ i, w1.frozen? ⟨w.heap.size + 1 + 1, i, none⟩ = false := fun i => keptF hb1 (by omega) (f2 i)
  have HB1 : Hid (Below w.heap.size w w1) := hb0.trans (hb1.mono (by omega))
  have hs1 : w.heap.size + 3 ≤ w1.heap.size := by have := hb1.size; omega
  have hnew : ∀ B, B ≤ W1.heap.size → (⟨name, qs, some ⟨W1.heap.size, 0, none⟩, qs.length⟩ : RR).new w.heap.size ∧ (B < W1.heap.size → (⟨name, qs, some ⟨W1.heap.size, 0, none⟩, qs.length⟩ : RR).new B) := fun B hB =>
    ⟨⟨⟨_, rfl, by omega⟩, fun q hq => (hqn q hq).mono (by omega)⟩, fun hlt => ⟨⟨_, rfl, hlt⟩, fun q hq => (hqn q hq).mono (by omega)⟩⟩
  have HN0 : Hid ((⟨name, qs, some ⟨W1.heap.size, 0, none⟩, qs.length⟩ : RR).new w.heap.size) := (hnew 0 (Nat.zero_le _)).1
  have HN1 : Hid ((⟨name, qs, some ⟨W1.heap.size, 0, none⟩, qs.length⟩ : RR).new (w.heap.size + 1)) := (hnew _ (by omega)).2 (by omega)
  have HN2 : Hid ((⟨name, qs, some ⟨W1.heap.size, 0, none⟩, qs.length⟩ : RR).new (w.heap.size + 1 + 1)) := (hnew _ (by omega)).2 (by omega)
  have HK : Hid ((⟨name, qs, some ⟨W1.heap.size, 0, none⟩, qs.length⟩ : RR).ok w1) := hqs
  have HC : Hid ((⟨name, qs, some ⟨W1.heap.size, 0, none⟩, qs.length⟩ : RR).caps) := ⟨rfl, hqc⟩
  have HE : Hid ((⟨name, qs, some ⟨W1.heap.size, 0, none⟩, qs.length⟩ : RR).p = ⟨name, exs rows⟩) := by show _ = _; simp only [RR.p, hqe]
  clear hqe hqs hqc hqn hb1 hb0 f1 f2 hnew
  go_wp2
  refine bodyPost_ret (v := .agg #[.string name, .slice (some ⟨W1.heap.size, 0, none⟩) qs.length qs.length]) (by simp [results, Try.results94, go_sem, *]) rfl ⟨⟨name, qs, some ⟨W1.heap.size, 0, none⟩, qs.length⟩, rfl, HE.out, HN0.out, ?_, HC.out, ?_⟩
  · exact ((HK.out.set HN2.out).set HN1.out).set HN1.out
  · exact ((HB1.out.setCell (p := ⟨w.heap.size + 1 + 1, 1, none⟩) (by simp; omega) _).setCell (p := ⟨w.heap.size + 1, 0, none⟩) (by simp) _).setCell (p := ⟨w.heap.size + 1, 1, none⟩) (by simp) _

def RR.row (r : RR) : List Value := [.string r.name, .slice r.ad r.rows.length r.cap]
def rowRR (rs : List RR) : List Value := rs.flatMap RR.row
theorem rowRR_len : ∀ rs : List RR, (rowRR rs).length = rs.length * 2
  | [] => rfl
  | r :: rs => by have := rowRR_len rs; simp only [rowRR, RR.row, List.flatMap_cons, List.length_append, List.length_cons, List.length_nil] at this ⊢; omega
theorem rowRR_at : ∀ (rs : List RR) (i : Nat) (h : i < rs.length) (j : Nat), j < 2 → (rowRR rs)[i * 2 + j]? = (rs[i]).row[j]?
  | [], i, h, _, _ => by simp at h
  | r :: rs, 0, _, j, hj => by
    simp only [rowRR, List.flatMap_cons, Nat.zero_mul, Nat.zero_add, List.getElem_cons_zero]
    rw [List.getElem?_append_left (by simpa [RR.row] using hj)]
  | r :: rs, i + 1, h, j, hj => by
    have := rowRR_at rs i (by simpa using h) j hj
    simp only [rowRR, List.flatMap_cons, List.getElem_cons_succ] at this ⊢
    rw [List.getElem?_append_right (by simp [RR.row]; omega), ← this]
    congr 1
    simp [RR.row]; omega
theorem Fil.rowRR {w w' : World} {g : Nat} {rs : List RR} (h : Fil w w' g (rs.length * 2) (rowRR rs)) (hok : ∀ r ∈ rs, r.ok w') : SlR w' (some ⟨g, 0, none⟩) rs := by
  refine .inr ⟨g, 0, rfl, h.lt, fun i hi => ?_, hok⟩
  have hl := rowRR_len rs
  have key : ∀ j, j < 2 → w'.cell? ⟨g, 0 + i * 2 + j, none⟩ = (rs[i]).row[j]? := fun j hj => by
    rw [Nat.zero_add, h.done (i * 2 + j) (by omega), ← rowRR_at rs i hi j hj, List.getElem?_eq_getElem (by omega)]
  exact ⟨key 0 (by omega), key 1 (by omega)⟩

set_option maxHeartbeats 2000000 in
theorem toRelationS_any (ad : Option Addr) (cap : Nat) (rs : List RR) (w : World) (hlen : rs.length ≤ 1048576) (hs : SlR w ad rs) (hl : ∀ r ∈ rs, r.light) :
    Calls Try.prog 76 #[.slice ad rs.length cap] w fun e w' => ∃ rs' : List RR, e = .returned (.slice (some ⟨w.heap.size, 0, none⟩) rs'.length rs'.length) ∧ rls rs' = rls rs ∧ SlR w' (some ⟨w.heap.size, 0, none⟩) rs' ∧ (∀ r ∈ rs', r.caps) ∧ (∀ r ∈ rs', r.new w.heap.size) ∧ Below w.heap.size w w' := by
  obtain ⟨inf, z, hi, hz0, hz1, hz2⟩ := infoOf (t := 68) (n := 2) (b := 40) (by kernel_rfl)
  have HSL : Hid (SlR w ad rs) := hs
  have HLI : Hid (∀ r ∈ rs, r.light) := hl
  clear hs hl
  go_enter Try.func76, Try.ntmps76
  go_wp2_with (at_make; refine wpList_make_full _ rfl _ _ 64 rfl w.heap.size 68 inf z 2 Try.underlying64 hi hz0 hz1 .i64 .i64 _ _ rs.length rfl rfl rfl rfl (by rw [hz2]; omega) (by unfold maxLen; omega) (Nat.le_refl _) ?_; intro w0 hown0 hgrow0)
  have F0 : Fil w w0 w.heap.size (rs.length * 2) [] := fil_made hown0 hgrow0
  clear hown0 hgrow0 hi hz0 hz1 hz2
  go_loopw [4] (fun i wr => ∃ (k : Nat) (qs : List RR), k ≤ rs.length ∧ i = .int .i64 k ∧ Hid (qs.length = k ∧ rls qs = (rls rs).take k ∧ (∀ q ∈ qs, q.ok wr ∧ q.new w.heap.size ∧ q.caps)) ∧ Fil w wr w.heap.size (rs.length * 2) (rowRR qs)) (fun i _ => rs.length - (intOf i).toNat)
  case atStart => exact ⟨0, [], Nat.zero_le _, rfl, ⟨rfl, by simp [rls], (fun q hq => by cases hq)⟩, F0⟩
  case round =>
    obtain ⟨k, qs, hk, rfl, HQ, F⟩ := hrel
    by_cases hlt : k < rs.length
    · rcases HSL.out.below F.below with rfl | ⟨b, off, rfl, hb, hr, hok⟩
      · simp at hlt
      obtain ⟨t0, t1⟩ := hr k hlt
      have ok := hok rs[k] (List.getElem_mem hlt)
      have lg := HLI.out rs[k] (List.getElem_mem hlt)
      clear hr hok
      go_wp2_with fail
      refine (toRelation_any rs[k] _ ok lg).mono ?_
      rintro e w1 ⟨q, rfl, hqe, hqn, hqok, hqc, hb1⟩
      have F1 := F.later hb1
      have fz := F1.free
      obtain ⟨v0, u0⟩ := Option.isSome_iff_exists.mp (F1.there (k * 2) (by omega))
      obtain ⟨v1, u1⟩ := Option.isSome_iff_exists.mp (F1.there (k * 2 + 1) (by omega))
      have hpl : (rowRR qs).length = k * 2 := by rw [rowRR_len, HQ.out.1]
      have F2 := (F1.put (.string q.name) (o := k * 2) hpl.symm (by omega)).put (.slice q.ad q.rows.length q.cap) (o := k * 2 + 1) (by simp [hpl]) (by omega)
      have e5 : (rowRR qs ++ [.string q.name]) ++ [.slice q.ad q.rows.length q.cap] = rowRR (qs ++ [q]) := by simp [rowRR, RR.row]
      rw [e5] at F2
      obtain ⟨wn, hwn⟩ : ∃ wn, wn = (w1.setCell ⟨w.heap.size, k * 2, none⟩ (.string q.name)).setCell ⟨w.heap.size, k * 2 + 1, none⟩ (.slice q.ad q.rows.length q.cap) := ⟨_, rfl⟩
      have hnew : q.new w.heap.size := hqn.mono (Nat.le_of_lt F.lt)
      have HQ2 : Hid ((qs ++ [q]).length = k + 1 ∧ rls (qs ++ [q]) = (rls rs).take (k + 1) ∧ ∀ p ∈ qs ++ [q], p.ok wn ∧ p.new w.heap.size ∧ p.caps) := by
        obtain ⟨h1, h2, h3⟩ := HQ.out
        refine ⟨by simp [h1], ?_, ?_⟩
        · rw [List.take_succ_eq_append_getElem (by rw [rls_len]; exact hlt), ← h2]
          simp [rls, hqe]
        · intro p hp
          rw [List.mem_append, List.mem_singleton] at hp
          have st : ∀ p : RR, p.ok w1 → p.new w.heap.size → p.ok wn := fun p h n => by rw [hwn]; exact (h.set n).set n
          rcases hp with hp | rfl
          · exact ⟨st p ((h3 p hp).1.below hb1) (h3 p hp).2.1, (h3 p hp).2⟩
          · exact ⟨st p hqok hnew, hnew, hqc⟩
      rw [← hwn] at F2
      have HF : Hid (Fil w wn w.heap.size (rs.length * 2) (rowRR (qs ++ [q]))) := F2
      clear F F0 F1 F2 t0 t1 hb1 hpl e5 ok lg HQ hqe hqn hqok hqc hnew
      simp only [RR.val]
      go_wp2
      rw [← hwn]
      go_roundw
      case rel => exact ⟨k + 1, qs ++ [q], by omega, by go_num, HQ2, HF.out⟩
      case measure => simp [intOf]; omega
    · obtain rfl : k = rs.length := by omega
      obtain ⟨h1, h2, h3⟩ := HQ.out
      have HQ3 : Hid (qs.length = rs.length) := h1
      have HE3 : Hid (rls qs = rls rs) := by rw [← rls_len rs, List.take_length] at h2; exact h2
      have HS3 : Hid (SlR wr (some ⟨w.heap.size, 0, none⟩) qs) := by
        rw [← h1] at F
        exact F.rowRR fun r hr => (h3 r hr).1
      have HB3 : Hid (Below w.heap.size w wr) := F.below
      have HN3 : Hid (∀ r ∈ qs, r.new w.heap.size) := fun r hr => (h3 r hr).2.1
      have HC3 : Hid (∀ r ∈ qs, r.caps) := fun r hr => (h3 r hr).2.2
      clear h1 h2 h3 F F0 HQ
      go_wp2
      go_ret
      exact ⟨qs, by rw [HQ3.out]; rfl, HE3.out, HS3.out, HC3.out, HN3.out, HB3.out⟩

set_option maxHeartbeats 2000000 in
theorem toType_any (r : TR) (w : World) (hr : r.ok w) (hl : r.light) :
    Calls Try.prog 41 #[r.val] w fun e w' => ∃ r' : TR, e = .returned r'.val ∧ r'.p = r.p ∧ r'.new w.heap.size ∧ r'.ok w' ∧ r'.caps ∧ Below w.heap.size w w' := by
  obtain ⟨name, rows, ad, cap⟩ := r
  obtain ⟨l1, l2⟩ := hl
  have HO : Hid (SlR w ad rows) := hr
  have HL : Hid (∀ q ∈ rows, q.light) := l2
  simp only at l1
  simp only [TR.val]
  clear hr l2
  go_enter Try.func41, Try.ntmps41
  go_wp2_with fail
  obtain ⟨W1, hW1⟩ : ∃ W1, W1 = ((w.alloc (.cells #[.string name, .slice ad rows.length cap] 62)).alloc (.cells #[.string ⟨#[]⟩, .slice none 0 0] 66)).alloc (.cells #[.string name, .slice none 0 0] 66) := ⟨_, rfl⟩
  rw [← hW1]
  have hz1 : w.heap.size + 3 ≤ W1.heap.size := by rw [hW1]; simp only [World.size_alloc]; omega
  have hb0 : Below w.heap.size w W1 := by rw [hW1]; exact (((Below.refl w.heap.size w).alloc (Nat.le_refl _) _).alloc (by simp) _).alloc (by simp; omega) _
  have bC : Below ((w.alloc (.cells #[.string name, .slice ad rows.length cap] 62)).alloc (.cells #[.string ⟨#[]⟩, .slice none 0 0] 66)).heap.size ((w.alloc (.cells #[.string name, .slice ad rows.length cap] 62)).alloc (.cells #[.string ⟨#[]⟩, .slice none 0 0] 66)) W1 := by rw [hW1]; exact (Below.refl _ _).alloc (Nat.le_refl _) _
  have f1 : ∀ i, W1.frozen? ⟨w.heap.size + 1, i, none⟩ = false := fun i => keptF bC (by simp) (fz_new1 _ _ _ _)
  have f2 : ∀ i, W1.frozen? ⟨w.heap.size + 1 + 1, i, none⟩ = false := fun i => by rw [hW1]; exact fz_new2 _ _ _ _ _
  have z0 : W1.cell? ⟨w.heap.size + 1, 0, none⟩ = some (.string ⟨#[]⟩) := kept bC (by simp) (c_new1 _ _ _ _ _ rfl)
  have z1 : W1.cell? ⟨w.heap.size + 1, 1, none⟩ = some (.slice none 0 0) := kept bC (by simp) (c_new1 _ _ _ _ _ rfl)
  have o0 : W1.cell? ⟨w.heap.size + 1 + 1, 0, none⟩ = some (.string name) := by rw [hW1]; exact c_new2 _ _ _ _ _ _ rfl
  have o1 : W1.cell? ⟨w.heap.size + 1 + 1, 1, none⟩ = some (.slice none 0 0) := by rw [hW1]; exact c_new2 _ _ _ _ _ _ rfl
  clear hW1 bC
  refine (toRelationS_any ad cap rows W1 l1 (SlR.below HO.out hb0) HL.out).mono ?_
  rintro e w1 ⟨qs, rfl, hqe, hqs, hqc, hqn, hb1⟩
  replace z0 := kept hb1 (by omega) z0
  replace z1 := kept hb1 (by omega) z1
  replace o0 := kept hb1 (by omega) o0
  replace o1 := kept hb1 (by omega) o1
  have k1 : ∀ i, w1.frozen? ⟨w.heap.size + 1, i, none⟩ = false := fun i => keptF hb1 (by omega) (f1 i)
  have k2 : ∀ i, w1.frozen? ⟨w.heap.size + 1 + 1, i, none⟩ = false := fun i => keptF hb1 (by omega) (f2 i)
  have HB1 : Hid (Below w.heap.size w w1) := hb0.trans (hb1.mono (by omega))
  have hs1 : w.heap.size + 3 ≤ w1.heap.size := by have := hb1.size; omega
  have hnew : ∀ B, B ≤ W1.heap.size → (⟨name, qs, some ⟨W1.heap.size, 0, none⟩, qs.length⟩ : TR).new w.heap.size ∧ (B < W1.heap.size → (⟨name, qs, some ⟨W1.heap.size, 0, none⟩, qs.length⟩ : TR).new B) := fun B hB =>
    ⟨⟨⟨_, rfl, by omega⟩, fun q hq => (hqn q hq).mono (by omega)⟩, fun hlt => ⟨⟨_, rfl, hlt⟩, fun q hq => (hqn q hq).mono (by omega)⟩⟩
  have HN0 : Hid ((⟨name, qs, some ⟨W1.heap.size, 0, none⟩, qs.length⟩ : TR).new w.heap.size) := (hnew 0 (Nat.zero_le _)).1
  have HN1 : Hid ((⟨name, qs, some ⟨W1.heap.size, 0, none⟩, qs.length⟩ : TR).new (w.heap.size + 1)) := (hnew _ (by omega)).2 (by omega)
  have HN2 : Hid ((⟨name, qs, some ⟨W1.heap.size, 0, none⟩, qs.length⟩ : TR).new (w.heap.size + 1 + 1)) := (hnew _ (by omega)).2 (by omega)
  have HK : Hid ((⟨name, qs, some ⟨W1.heap.size, 0, none⟩, qs.length⟩ : TR).ok w1) := hqs
  have HC : Hid ((⟨name, qs, some ⟨W1.heap.size, 0, none⟩, qs.length⟩ : TR).caps) := ⟨rfl, hqc⟩
  have HE : Hid ((⟨name, qs, some ⟨W1.heap.size, 0, none⟩, qs.length⟩ : TR).p = ⟨name, rls rows⟩) := by show _ = _; simp only [TR.p, hqe]
  clear hqe hqs hqc hqn hb1 hb0 f1 f2 hnew
  go_wp2
  refine bodyPost_ret (v := .agg #[.string name, .slice (some ⟨W1.heap.size, 0, none⟩) qs.length qs.length]) (by simp [results, Try.results41, go_sem, *]) rfl ⟨⟨name, qs, some ⟨W1.heap.size, 0, none⟩, qs.length⟩, rfl, HE.out, HN0.out, ?_, HC.out, ?_⟩
  · exact ((HK.out.set HN2.out).set HN1.out).set HN1.out
  · exact ((HB1.out.setCell (p := ⟨w.heap.size + 1 + 1, 1, none⟩) (by simp; omega) _).setCell (p := ⟨w.heap.size + 1, 0, none⟩) (by simp) _).setCell (p := ⟨w.heap.size + 1, 1, none⟩) (by simp) _

def TR.row (r : TR) : List Value := [.string r.name, .slice r.ad r.rows.length r.cap]
def rowTR (rs : List TR) : List Value := rs.flatMap TR.row
theorem rowTR_len : ∀ rs : List TR, (rowTR rs).length = rs.length * 2
  | [] => rfl
  | r :: rs => by have := rowTR_len rs; simp only [rowTR, TR.row, List.flatMap_cons, List.length_append, List.length_cons, List.length_nil] at this ⊢; omega
theorem rowTR_at : ∀ (rs : List TR) (i : Nat) (h : i < rs.length) (j : Nat), j < 2 → (rowTR rs)[i * 2 + j]? = (rs[i]).row[j]?
  | [], i, h, _, _ => by simp at h
  | r :: rs, 0, _, j, hj => by
    simp only [rowTR, List.flatMap_cons, Nat.zero_mul, Nat.zero_add, List.getElem_cons_zero]
    rw [List.getElem?_append_left (by simpa [TR.row] using hj)]
  | r :: rs, i + 1, h, j, hj => by
    have := rowTR_at rs i (by simpa using h) j hj
    simp only [rowTR, List.flatMap_cons, List.getElem_cons_succ] at this ⊢
    rw [List.getElem?_append_right (by simp [TR.row]; omega), ← this]
    congr 1
    simp [TR.row]; omega
theorem Fil.rowTR {w w' : World} {g : Nat} {rs : List TR} (h : Fil w w' g (rs.length * 2) (rowTR rs)) (hok : ∀ r ∈ rs, r.ok w') : SlT w' (some ⟨g, 0, none⟩) rs := by
  refine .inr ⟨g, 0, rfl, h.lt, fun i hi => ?_, hok⟩
  have hl := rowTR_len rs
  have key : ∀ j, j < 2 → w'.cell? ⟨g, 0 + i * 2 + j, none⟩ = (rs[i]).row[j]? := fun j hj => by
    rw [Nat.zero_add, h.done (i * 2 + j) (by omega), ← rowTR_at rs i hi j hj, List.getElem?_eq_getElem (by omega)]
  exact ⟨key 0 (by omega), key 1 (by omega)⟩

set_option maxHeartbeats 2000000 in
theorem toTypeS_any (ad : Option Addr) (cap : Nat) (rs : List TR) (w : World) (hlen : rs.length ≤ 1048576) (hs : SlT w ad rs) (hl : ∀ r ∈ rs, r.light) :
    Calls Try.prog 17 #[.slice ad rs.length cap] w fun e w' => ∃ rs' : List TR, e = .returned (.slice (some ⟨w.heap.size, 0, none⟩) rs'.length rs'.length) ∧ tys rs' = tys rs ∧ SlT w' (some ⟨w.heap.size, 0, none⟩) rs' ∧ (∀ r ∈ rs', r.caps) ∧ (∀ r ∈ rs', r.new w.heap.size) ∧ Below w.heap.size w w' := by
  obtain ⟨inf, z, hi, hz0, hz1, hz2⟩ := infoOf (t := 66) (n := 2) (b := 40) (by kernel_rfl)
  have HSL : Hid (SlT w ad rs) := hs
  have HLI : Hid (∀ r ∈ rs, r.light) := hl
  clear hs hl
  go_enter Try.func17, Try.ntmps17
  go_wp2_with (at_make; refine wpList_make_full _ rfl _ _ 33 rfl w.heap.size 66 inf z 2 Try.underlying33 hi hz0 hz1 .i64 .i64 _ _ rs.length rfl rfl rfl rfl (by rw [hz2]; omega) (by unfold maxLen; omega) (Nat.le_refl _) ?_; intro w0 hown0 hgrow0)
  have F0 : Fil w w0 w.heap.size (rs.length * 2) [] := fil_made hown0 hgrow0
  clear hown0 hgrow0 hi hz0 hz1 hz2
  go_loopw [4] (fun i wr => ∃ (k : Nat) (qs : List TR), k ≤ rs.length ∧ i = .int .i64 k ∧ Hid (qs.length = k ∧ tys qs = (tys rs).take k ∧ (∀ q ∈ qs, q.ok wr ∧ q.new w.heap.size ∧ q.caps)) ∧ Fil w wr w.heap.size (rs.length * 2) (rowTR qs)) (fun i _ => rs.length - (intOf i).toNat)
  case atStart => exact ⟨0, [], Nat.zero_le _, rfl, ⟨rfl, by simp [tys], (fun q hq => by cases hq)⟩, F0⟩
  case round =>
    obtain ⟨k, qs, hk, rfl, HQ, F⟩ := hrel
    by_cases hlt : k < rs.length
    · rcases HSL.out.below F.below with rfl | ⟨b, off, rfl, hb, hr, hok⟩
      · simp at hlt
      obtain ⟨t0, t1⟩ := hr k hlt
      have ok := hok rs[k] (List.getElem_mem hlt)
      have lg := HLI.out rs[k] (List.getElem_mem hlt)
      clear hr hok
      go_wp2_with fail
      refine (toType_any rs[k] _ ok lg).mono ?_
      rintro e w1 ⟨q, rfl, hqe, hqn, hqok, hqc, hb1⟩
      have F1 := F.later hb1
      have fz := F1.free
      obtain ⟨v0, u0⟩ := Option.isSome_iff_exists.mp (F1.there (k * 2) (by omega))
      obtain ⟨v1, u1⟩ := Option.isSome_iff_exists.mp (F1.there (k * 2 + 1) (by omega))
      have hpl : (rowTR qs).length = k * 2 := by rw [rowTR_len, HQ.out.1]
      have F2 := (F1.put (.string q.name) (o := k * 2) hpl.symm (by omega)).put (.slice q.ad q.rows.length q.cap) (o := k * 2 + 1) (by simp [hpl]) (by omega)
      have e5 : (rowTR qs ++ [.string q.name]) ++ [.slice q.ad q.rows.length q.cap] = rowTR (qs ++ [q]) := by simp [rowTR, TR.row]
      rw [e5] at F2
      obtain ⟨wn, hwn⟩ : ∃ wn, wn = (w1.setCell ⟨w.heap.size, k * 2, none⟩ (.string q.name)).setCell ⟨w.heap.size, k * 2 + 1, none⟩ (.slice q.ad q.rows.length q.cap) := ⟨_, rfl⟩
      have hnew : q.new w.heap.size := hqn.mono (Nat.le_of_lt F.lt)
      have HQ2 : Hid ((qs ++ [q]).length = k + 1 ∧ tys (qs ++ [q]) = (tys rs).take (k + 1) ∧ ∀ p ∈ qs ++ [q], p.ok wn ∧ p.new w.heap.size ∧ p.caps) := by
        obtain ⟨h1, h2, h3⟩ := HQ.out
        refine ⟨by simp [h1], ?_, ?_⟩
        · rw [List.take_succ_eq_append_getElem (by rw [tys_len]; exact hlt), ← h2]
          simp [tys, hqe]
        · intro p hp
          rw [List.mem_append, List.mem_singleton] at hp
          have st : ∀ p : TR, p.ok w1 → p.new w.heap.size → p.ok wn := fun p h n => by rw [hwn]; exact (h.set n).set n
          rcases hp with hp | rfl
          · exact ⟨st p ((h3 p hp).1.below hb1) (h3 p hp).2.1, (h3 p hp).2⟩
          · exact ⟨st p hqok hnew, hnew, hqc⟩
      rw [← hwn] at F2
      have HF : Hid (Fil w wn w.heap.size (rs.length * 2) (rowTR (qs ++ [q]))) := F2
      clear F F0 F1 F2 t0 t1 hb1 hpl e5 ok lg HQ hqe hqn hqok hqc hnew
      simp only [TR.val]
      go_wp2
      rw [← hwn]
      go_roundw
      case rel => exact ⟨k + 1, qs ++ [q], by omega, by go_num, HQ2, HF.out⟩
      case measure => simp [intOf]; omega
    · obtain rfl : k = rs.length := by omega
      obtain ⟨h1, h2, h3⟩ := HQ.out
      have HQ3 : Hid (qs.length = rs.length) := h1
      have HE3 : Hid (tys qs = tys rs) := by rw [← tys_len rs, List.take_length] at h2; exact h2
      have HS3 : Hid (SlT wr (some ⟨w.heap.size, 0, none⟩) qs) := by
        rw [← h1] at F
        exact F.rowTR fun r hr => (h3 r hr).1
      have HB3 : Hid (Below w.heap.size w wr) := F.below
      have HN3 : Hid (∀ r ∈ qs, r.new w.heap.size) := fun r hr => (h3 r hr).2.1
      have HC3 : Hid (∀ r ∈ qs, r.caps) := fun r hr => (h3 r hr).2.2
      clear h1 h2 h3 F F0 HQ
      go_wp2
      go_ret
      exact ⟨qs, by rw [HQ3.out]; rfl, HE3.out, HS3.out, HC3.out, HN3.out, HB3.out⟩

end Go.Proofs.Ytpmgkkbkficgpaa

/- Contracts of the law's helpers that hold two schemas against one another: true where both hold the same. -/
namespace Go.Proofs.Ytpmgkkbkficgpaa
open Go.ChangeShapes Go.WideShapes Go.ChangeAt Go.RowKit
open Pl

set_option maxHeartbeats 1000000 in
theorem eqRelation_same (r r' : RR) (w : World) (he : r'.p = r.p) (hr : r.ok w) (hr' : r'.ok w) (hl : r.light) :
    Calls Try.prog 102 #[r.val, r'.val] w fun e w' => e = .returned (.bool true) ∧ Below w.heap.size w w' := by
  obtain ⟨name, rows, ad, cap⟩ := r
  obtain ⟨name', rows', ad', cap'⟩ := r'
  simp only [RR.p, Rl.mk.injEq] at he
  obtain ⟨rfl, he⟩ := he
  obtain ⟨l1, l2⟩ := hl
  have HO : Hid (SlE w ad rows) := hr
  have HO' : Hid (SlE w ad' rows') := hr'
  have HL : Hid (∀ q ∈ rows, q.e.light) := l2
  have HE : Hid (exs rows' = exs rows) := he
  simp only at l1
  simp only [RR.val]
  clear hr hr' l2 he
  have HB : Hid (Below w.heap.size w ((w.alloc (.cells #[.string name', .slice ad rows.length cap] 68)).alloc (.cells #[.string name', .slice ad' rows'.length cap'] 68))) := ((Below.refl w.heap.size w).alloc (Nat.le_refl _) _).alloc (by simp) _
  go_enter Try.func102, Try.ntmps102
  go_wp2_with fail
  refine (eqExprS_same ad ad' cap cap' rows rows' _ l1 HE.out (SlE.below HO.out HB.out) (SlE.below HO'.out HB.out) HL.out).mono ?_
  rintro e w1 ⟨rfl, hb1⟩
  have HB1 : Hid (Below w.heap.size w w1) := HB.out.trans (hb1.mono HB.out.size)
  clear hb1 HB
  go_wp2
  go_ret
  exact ⟨rfl, HB1.out⟩

theorem keepRR {wr W w' : World} {b b' o o' : Nat} {x0 x1 y0 y1 : Value} (h : W.cell? ⟨b, o, none⟩ = some x0 ∧ W.cell? ⟨b, o + 1, none⟩ = some x1 ∧ W.cell? ⟨b', o', none⟩ = some y0 ∧ W.cell? ⟨b', o' + 1, none⟩ = some y1 ∧ b < W.heap.size ∧ b' < W.heap.size ∧ Below wr.heap.size wr W) (hb : Below W.heap.size W w') :
    w'.cell? ⟨b, o, none⟩ = some x0 ∧ w'.cell? ⟨b, o + 1, none⟩ = some x1 ∧ w'.cell? ⟨b', o', none⟩ = some y0 ∧ w'.cell? ⟨b', o' + 1, none⟩ = some y1 ∧ b < w'.heap.size ∧ b' < w'.heap.size ∧ Below wr.heap.size wr w' := keep4 h hb
theorem keepBRR {wr W : World} {b b' o o' : Nat} {x0 x1 y0 y1 : Value} (h : W.cell? ⟨b, o, none⟩ = some x0 ∧ W.cell? ⟨b, o + 1, none⟩ = some x1 ∧ W.cell? ⟨b', o', none⟩ = some y0 ∧ W.cell? ⟨b', o' + 1, none⟩ = some y1 ∧ b < W.heap.size ∧ b' < W.heap.size ∧ Below wr.heap.size wr W) : Below wr.heap.size wr W := h.2.2.2.2.2.2

set_option maxHeartbeats 2000000 in
theorem eqRelationS_same (ad ad' : Option Addr) (cap cap' : Nat) (rs rs' : List RR) (w : World) (hlen : rs.length ≤ 1048576) (he : rls rs' = rls rs) (hs : SlR w ad rs) (hs' : SlR w ad' rs') (hl : ∀ r ∈ rs, r.light) :
    Calls Try.prog 81 #[.slice ad rs.length cap, .slice ad' rs'.length cap'] w fun e w' => e = .returned (.bool true) ∧ Below w.heap.size w w' := by
  have hll : rs'.length = rs.length := by rw [← rls_len, he, rls_len]
  have HSL : Hid (SlR w ad rs) := hs
  have HSM : Hid (SlR w ad' rs') := hs'
  have HLI : Hid (∀ r ∈ rs, r.light) := hl
  have HEE : Hid (rls rs' = rls rs) := he
  have HLL : Hid (rs'.length = rs.length) := hll
  rw [hll]
  clear hs hs' hl he hll
  go_enter Try.func81, Try.ntmps81
  go_wp2
  go_loopw [5] (fun i wr => ∃ k : Nat, k ≤ rs.length ∧ i = .int .i64 k ∧ Below w.heap.size w wr) (fun i _ => rs.length - (intOf i).toNat)
  case atStart => exact ⟨0, Nat.zero_le _, rfl, Below.refl _ _⟩
  case round =>
    obtain ⟨k, hk, rfl, hB⟩ := hrel
    by_cases hlt : k < rs.length
    · have hlt' : k < rs'.length := by rw [HLL.out]; exact hlt
      rcases HSL.out.below hB with rfl | ⟨b, off, rfl, hb, hr, hok⟩
      · simp at hlt
      rcases HSM.out.below hB with rfl | ⟨b', off', rfl, hb', hr', hok'⟩
      · simp at hlt'
      obtain ⟨t0, t1⟩ := hr k hlt
      obtain ⟨q0, q1⟩ := hr' k hlt'
      have HK1 : Hid (rs[k].ok wr) := hok rs[k] (List.getElem_mem hlt)
      have HK2 : Hid (rs'[k].ok wr) := hok' rs'[k] (List.getElem_mem hlt')
      have HK3 : Hid (rs'[k].p = rs[k].p) := by
        have h1 : (rls rs')[k]? = (rls rs)[k]? := by rw [HEE.out]
        show _ = _
        simpa [rls, hlt, hlt'] using h1
      have HK4 : Hid (rs[k].light) := HLI.out rs[k] (List.getElem_mem hlt)
      have hk1 : (0 : Int) ≤ (k : Int) := by omega
      have hk2 : (k : Int) < (rs.length : Int) := by omega
      clear hr hr' hok hok'
      go_wp2_with fail
      go_region_held3 (fun w' => w'.cell? ⟨b, off + k * 2, none⟩ = some (.string rs[k].name) ∧ w'.cell? ⟨b, off + k * 2 + 1, none⟩ = some (.slice rs[k].ad rs[k].rows.length rs[k].cap) ∧ w'.cell? ⟨b', off' + k * 2, none⟩ = some (.string rs'[k].name) ∧ w'.cell? ⟨b', off' + k * 2 + 1, none⟩ = some (.slice rs'[k].ad rs'[k].rows.length rs'[k].cap) ∧ b < w'.heap.size ∧ b' < w'.heap.size ∧ Below wr.heap.size wr w')
        (first | assumption | exact keepRR (by assumption) hbx | exact ⟨t0, t1, q0, q1, hb, hb', (Below.refl _ _).drew⟩)
        (first | (go_at_call 102; refine (eqRelation_same rs[k] rs'[k] _ HK3.out (HK1.out.below (keepBRR (by assumption))) (HK2.out.below (keepBRR (by assumption))) HK4.out).mono ?_; rintro e w' ⟨rfl, hbx⟩))
      rename_i hH
      obtain ⟨-, -, -, -, -, -, gB⟩ := hH
      clear t0 t1 q0 q1 hb hb'
      go_wp2
      go_roundw
      case rel => exact ⟨k + 1, by omega, by go_num, hB.trans (gB.mono hB.size)⟩
      case measure => simp [intOf]; omega
    · go_wp2
      go_ret
      exact ⟨rfl, hB⟩

set_option maxHeartbeats 1000000 in
theorem eqType_same (r r' : TR) (w : World) (he : r'.p = r.p) (hr : r.ok w) (hr' : r'.ok w) (hl : r.light) :
    Calls Try.prog 43 #[r.val, r'.val] w fun e w' => e = .returned (.bool true) ∧ Below w.heap.size w w' := by
  obtain ⟨name, rows, ad, cap⟩ := r
  obtain ⟨name', rows', ad', cap'⟩ := r'
  simp only [TR.p, Ty.mk.injEq] at he
  obtain ⟨rfl, he⟩ := he
  obtain ⟨l1, l2⟩ := hl
  have HO : Hid (SlR w ad rows) := hr
  have HO' : Hid (SlR w ad' rows') := hr'
  have HL : Hid (∀ q ∈ rows, q.light) := l2
  have HE : Hid (rls rows' = rls rows) := he
  simp only at l1
  simp only [TR.val]
  clear hr hr' l2 he
  have HB : Hid (Below w.heap.size w ((w.alloc (.cells #[.string name', .slice ad rows.length cap] 66)).alloc (.cells #[.string name', .slice ad' rows'.length cap'] 66))) := ((Below.refl w.heap.size w).alloc (Nat.le_refl _) _).alloc (by simp) _
  go_enter Try.func43, Try.ntmps43
  go_wp2_with fail
  refine (eqRelationS_same ad ad' cap cap' rows rows' _ l1 HE.out (SlR.below HO.out HB.out) (SlR.below HO'.out HB.out) HL.out).mono ?_
  rintro e w1 ⟨rfl, hb1⟩
  have HB1 : Hid (Below w.heap.size w w1) := HB.out.trans (hb1.mono HB.out.size)
  clear hb1 HB
  go_wp2
  go_ret
  exact ⟨rfl, HB1.out⟩

theorem keepTR {wr W w' : World} {b b' o o' : Nat} {x0 x1 y0 y1 : Value} (h : W.cell? ⟨b, o, none⟩ = some x0 ∧ W.cell? ⟨b, o + 1, none⟩ = some x1 ∧ W.cell? ⟨b', o', none⟩ = some y0 ∧ W.cell? ⟨b', o' + 1, none⟩ = some y1 ∧ b < W.heap.size ∧ b' < W.heap.size ∧ Below wr.heap.size wr W) (hb : Below W.heap.size W w') :
    w'.cell? ⟨b, o, none⟩ = some x0 ∧ w'.cell? ⟨b, o + 1, none⟩ = some x1 ∧ w'.cell? ⟨b', o', none⟩ = some y0 ∧ w'.cell? ⟨b', o' + 1, none⟩ = some y1 ∧ b < w'.heap.size ∧ b' < w'.heap.size ∧ Below wr.heap.size wr w' := keep4 h hb
theorem keepBTR {wr W : World} {b b' o o' : Nat} {x0 x1 y0 y1 : Value} (h : W.cell? ⟨b, o, none⟩ = some x0 ∧ W.cell? ⟨b, o + 1, none⟩ = some x1 ∧ W.cell? ⟨b', o', none⟩ = some y0 ∧ W.cell? ⟨b', o' + 1, none⟩ = some y1 ∧ b < W.heap.size ∧ b' < W.heap.size ∧ Below wr.heap.size wr W) : Below wr.heap.size wr W := h.2.2.2.2.2.2

set_option maxHeartbeats 2000000 in
theorem eqTypeS_same (ad ad' : Option Addr) (cap cap' : Nat) (rs rs' : List TR) (w : World) (hlen : rs.length ≤ 1048576) (he : tys rs' = tys rs) (hs : SlT w ad rs) (hs' : SlT w ad' rs') (hl : ∀ r ∈ rs, r.light) :
    Calls Try.prog 19 #[.slice ad rs.length cap, .slice ad' rs'.length cap'] w fun e w' => e = .returned (.bool true) ∧ Below w.heap.size w w' := by
  have hll : rs'.length = rs.length := by rw [← tys_len, he, tys_len]
  have HSL : Hid (SlT w ad rs) := hs
  have HSM : Hid (SlT w ad' rs') := hs'
  have HLI : Hid (∀ r ∈ rs, r.light) := hl
  have HEE : Hid (tys rs' = tys rs) := he
  have HLL : Hid (rs'.length = rs.length) := hll
  rw [hll]
  clear hs hs' hl he hll
  go_enter Try.func19, Try.ntmps19
  go_wp2
  go_loopw [5] (fun i wr => ∃ k : Nat, k ≤ rs.length ∧ i = .int .i64 k ∧ Below w.heap.size w wr) (fun i _ => rs.length - (intOf i).toNat)
  case atStart => exact ⟨0, Nat.zero_le _, rfl, Below.refl _ _⟩
  case round =>
    obtain ⟨k, hk, rfl, hB⟩ := hrel
    by_cases hlt : k < rs.length
    · have hlt' : k < rs'.length := by rw [HLL.out]; exact hlt
      rcases HSL.out.below hB with rfl | ⟨b, off, rfl, hb, hr, hok⟩
      · simp at hlt
      rcases HSM.out.below hB with rfl | ⟨b', off', rfl, hb', hr', hok'⟩
      · simp at hlt'
      obtain ⟨t0, t1⟩ := hr k hlt
      obtain ⟨q0, q1⟩ := hr' k hlt'
      have HK1 : Hid (rs[k].ok wr) := hok rs[k] (List.getElem_mem hlt)
      have HK2 : Hid (rs'[k].ok wr) := hok' rs'[k] (List.getElem_mem hlt')
      have HK3 : Hid (rs'[k].p = rs[k].p) := by
        have h1 : (tys rs')[k]? = (tys rs)[k]? := by rw [HEE.out]
        show _ = _
        simpa [tys, hlt, hlt'] using h1
      have HK4 : Hid (rs[k].light) := HLI.out rs[k] (List.getElem_mem hlt)
      have hk1 : (0 : Int) ≤ (k : Int) := by omega
      have hk2 : (k : Int) < (rs.length : Int) := by omega
      clear hr hr' hok hok'
      go_wp2_with fail
      go_region_held3 (fun w' => w'.cell? ⟨b, off + k * 2, none⟩ = some (.string rs[k].name) ∧ w'.cell? ⟨b, off + k * 2 + 1, none⟩ = some (.slice rs[k].ad rs[k].rows.length rs[k].cap) ∧ w'.cell? ⟨b', off' + k * 2, none⟩ = some (.string rs'[k].name) ∧ w'.cell? ⟨b', off' + k * 2 + 1, none⟩ = some (.slice rs'[k].ad rs'[k].rows.length rs'[k].cap) ∧ b < w'.heap.size ∧ b' < w'.heap.size ∧ Below wr.heap.size wr w')
        (first | assumption | exact keepTR (by assumption) hbx | exact ⟨t0, t1, q0, q1, hb, hb', (Below.refl _ _).drew⟩)
        (first | (go_at_call 43; refine (eqType_same rs[k] rs'[k] _ HK3.out (HK1.out.below (keepBTR (by assumption))) (HK2.out.below (keepBTR (by assumption))) HK4.out).mono ?_; rintro e w' ⟨rfl, hbx⟩))
      rename_i hH
      obtain ⟨-, -, -, -, -, -, gB⟩ := hH
      clear t0 t1 q0 q1 hb hb'
      go_wp2
      go_roundw
      case rel => exact ⟨k + 1, by omega, by go_num, hB.trans (gB.mono hB.size)⟩
      case measure => simp [intOf]; omega
    · go_wp2
      go_ret
      exact ⟨rfl, hB⟩

end Go.Proofs.Ytpmgkkbkficgpaa
