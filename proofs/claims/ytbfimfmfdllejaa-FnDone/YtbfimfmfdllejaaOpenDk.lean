/- What a disk that can be read leads to: two lists of files and one of ops, that fit. -/
import Derived.Test.YtbfimfmfdllejaaDkDisk
import Derived.OpenShut
import Derived.ShutString
import Derived.ChangeOld
import Derived.Lib.SmallJoins
import Derived.Deep.Slices
import Derived.Deep.Strs
namespace Go.Proofs.Ytbfimfmfdllejaa
open Go.ChangeShapes Go.WideShapes Go.ChangeAt Go.RowKit Go.Joins Go.Deep

theorem add_noneD (b off x : Nat) : (⟨b, off, none⟩ : Addr).add x = ⟨b, off + x, none⟩ := by
  unfold Addr.add
  by_cases h : x = 0
  · subst h; simp
  · simp [h]
theorem cellsFile : Try.prog.cellsOf 105 = 2 := by kernel_rfl
theorem cellsDOp : Try.prog.cellsOf 27 = 4 := by kernel_rfl
theorem cellsDisk : Try.prog.cellsOf 25 = 3 := by kernel_rfl
theorem cellsStrD : Try.prog.cellsOf 9 = 1 := by kernel_rfl
theorem cellsI64D : Try.prog.cellsOf 2 = 1 := by kernel_rfl
theorem cellsFilesD : Try.prog.cellsOf 22 = 1 := by kernel_rfl
theorem cellsDOpsD : Try.prog.cellsOf 23 = 1 := by kernel_rfl
section
variable {H : Type} {enc : TypeId × Value → H} {W : World} {base : Nat} {sp : Nat → Bool} {held : Bool}
set_option maxRecDepth 100000 in
theorem read_File {fuel : Nat} {cs : List Value} {x : DataW H × List MemPlace} (h : DataW.trod enc Try.prog W base sp held fuel 105 cs = some x) : ∃ t : Fl, cs = t.row ∧ t.fits := by
  obtain ⟨y0, y1, n, -, hl, h0, h1⟩ := trod_struct2 Try.underlying105 h
  rw [cellsFile] at hl
  match cs, hl with
  | [c0, c1], _ =>
    simp only [cellsStrD, List.drop_zero, List.drop_succ_cons, List.take_succ_cons, List.take_zero] at h0 h1
    obtain ⟨a, e0, -, wa⟩ := DataW.trod_string Try.underlying9 h0
    obtain ⟨b, e1, -, wb⟩ := DataW.trod_string Try.underlying9 h1
    simp at e0 e1
    subst e0 e1
    exact ⟨⟨a, b⟩, rfl, wa, wb⟩
set_option maxRecDepth 100000 in
theorem read_DOp {fuel : Nat} {cs : List Value} {x : DataW H × List MemPlace} (h : DataW.trod enc Try.prog W base sp held fuel 27 cs = some x) : ∃ t : Dop, cs = t.row ∧ t.fits := by
  obtain ⟨y0, y1, y2, y3, n, -, hl, h0, h1, h2, h3⟩ := trod_struct4 Try.underlying27 h
  rw [cellsDOp] at hl
  match cs, hl with
  | [c0, c1, c2, c3], _ =>
    simp only [cellsStrD, cellsI64D, List.drop_zero, List.drop_succ_cons, List.take_succ_cons, List.take_zero] at h0 h1 h2 h3
    obtain ⟨k, e0, -, -⟩ := DataW.trod_int Try.underlying2 h0
    obtain ⟨a, e1, -, wa⟩ := DataW.trod_string Try.underlying9 h1
    obtain ⟨b, e2, -, wb⟩ := DataW.trod_string Try.underlying9 h2
    obtain ⟨c, e3, -, wc⟩ := DataW.trod_string Try.underlying9 h3
    simp at e0 e1 e2 e3
    subst e0 e1 e2 e3
    exact ⟨⟨k, a, b, c⟩, rfl, wa, wb, wc⟩
theorem open_files {fuel : Nat} {ad : Option Addr} {len cap : Nat} {x : DataW H × List MemPlace} (h : DataW.trod enc Try.prog W base sp held fuel 22 [.slice ad len cap] = some x) :
    ∃ ts : List Fl, ts.length = len ∧ SlF W ad ts ∧ (∀ t ∈ ts, t.fits) ∧ len ≤ maxLen := by
  rcases open_slice Try.underlying22 h with ⟨hcs, -⟩ | ⟨a, l, c, m, n, D, Pl, hcs, -, hlc, hcm, hm, -, hel⟩
  · simp at hcs
    obtain ⟨rfl, rfl, rfl⟩ := hcs
    exact ⟨[], rfl, .inl rfl, (fun t ht => by cases ht), by unfold maxLen; omega⟩
  · simp at hcs
    obtain ⟨rfl, rfl, rfl⟩ := hcs
    have hle : len ≤ m := by rw [hm]; split <;> omega
    by_cases h0 : len = 0
    · subst h0
      exact ⟨[], rfl, .inl rfl, (fun t ht => by cases ht), by omega⟩
    have key : ∀ i, i < len → ∃ t : Fl, (∀ j, j < 2 → W.cell? ((a.add (i * 2)).add j) = t.row[j]?) ∧ t.fits := by
      intro i hi
      obtain ⟨cs', hc, hd⟩ := hel i (by omega)
      rw [cellsFile] at hc
      obtain ⟨t, rfl, hh⟩ := read_File hd
      exact ⟨t, fun j hj => (World.cells?_some hc).2.2 j hj, hh⟩
    have hspot : a.spot = none := by
      obtain ⟨t, ht, -⟩ := key 0 (by omega)
      have := ht 0 (by omega)
      have e : (a.add (0 * 2)).add 0 = a := by simp [Addr.add]
      rw [e] at this
      exact World.cell?_spot this
    obtain ⟨b, off, spot⟩ := a
    simp only at hspot
    subst hspot
    obtain ⟨f, hf⟩ := @choose_lt Fl ⟨noF⟩ len _ key
    have at6 : ∀ i, i < len → AtF W b (off + i * 2) (f i) := by
      intro i hi
      obtain ⟨hc, -⟩ := hf i hi
      simp only [add_noneD] at hc
      exact ⟨hc 0 (by omega), hc 1 (by omega)⟩
    refine ⟨(List.range len).map f, by simp, .inr ⟨b, off, rfl, ?_, ?_⟩, ?_, by omega⟩
    · exact World.block_lt_of_cell? W ⟨b, off + 0 * 2, none⟩ (at6 0 (by omega)).1
    · intro i hi
      have hi' : i < len := by simpa using hi
      simpa using at6 i hi'
    · intro t ht
      simp only [List.mem_map, List.mem_range] at ht
      obtain ⟨i, hi, rfl⟩ := ht
      exact (hf i hi).2
theorem open_dops {fuel : Nat} {ad : Option Addr} {len cap : Nat} {x : DataW H × List MemPlace} (h : DataW.trod enc Try.prog W base sp held fuel 23 [.slice ad len cap] = some x) :
    ∃ ts : List Dop, ts.length = len ∧ SlO W ad ts ∧ (∀ t ∈ ts, t.fits) ∧ len ≤ maxLen := by
  rcases open_slice Try.underlying23 h with ⟨hcs, -⟩ | ⟨a, l, c, m, n, D, Pl, hcs, -, hlc, hcm, hm, -, hel⟩
  · simp at hcs
    obtain ⟨rfl, rfl, rfl⟩ := hcs
    exact ⟨[], rfl, .inl rfl, (fun t ht => by cases ht), by unfold maxLen; omega⟩
  · simp at hcs
    obtain ⟨rfl, rfl, rfl⟩ := hcs
    have hle : len ≤ m := by rw [hm]; split <;> omega
    by_cases h0 : len = 0
    · subst h0
      exact ⟨[], rfl, .inl rfl, (fun t ht => by cases ht), by omega⟩
    have key : ∀ i, i < len → ∃ t : Dop, (∀ j, j < 4 → W.cell? ((a.add (i * 4)).add j) = t.row[j]?) ∧ t.fits := by
      intro i hi
      obtain ⟨cs', hc, hd⟩ := hel i (by omega)
      rw [cellsDOp] at hc
      obtain ⟨t, rfl, hh⟩ := read_DOp hd
      exact ⟨t, fun j hj => (World.cells?_some hc).2.2 j hj, hh⟩
    have hspot : a.spot = none := by
      obtain ⟨t, ht, -⟩ := key 0 (by omega)
      have := ht 0 (by omega)
      have e : (a.add (0 * 4)).add 0 = a := by simp [Addr.add]
      rw [e] at this
      exact World.cell?_spot this
    obtain ⟨b, off, spot⟩ := a
    simp only at hspot
    subst hspot
    obtain ⟨f, hf⟩ := @choose_lt Dop ⟨⟨0, ⟨#[]⟩, ⟨#[]⟩, ⟨#[]⟩⟩⟩ len _ key
    have at6 : ∀ i, i < len → AtO W b (off + i * 4) (f i) := by
      intro i hi
      obtain ⟨hc, -⟩ := hf i hi
      simp only [add_noneD] at hc
      exact ⟨hc 0 (by omega), hc 1 (by omega), hc 2 (by omega), hc 3 (by omega)⟩
    refine ⟨(List.range len).map f, by simp, .inr ⟨b, off, rfl, ?_, ?_⟩, ?_, by omega⟩
    · exact World.block_lt_of_cell? W ⟨b, off + 0 * 4, none⟩ (at6 0 (by omega)).1
    · intro i hi
      have hi' : i < len := by simpa using hi
      simpa using at6 i hi'
    · intro t ht
      simp only [List.mem_map, List.mem_range] at ht
      obtain ⟨i, hi, rfl⟩ := ht
      exact (hf i hi).2

theorem is_slice {t e : TypeId} {fuel : Nat} {c : Value} {x : DataW H × List MemPlace} (ht : Try.prog.underlying t = some (.slice e)) (h : DataW.trod enc Try.prog W base sp held fuel t [c] = some x) : ∃ ad len cap, c = .slice ad len cap := by
  rcases open_slice ht h with ⟨hcs, -⟩ | ⟨a, l, cc, m, n, D, Pl, hcs, -⟩
  · simp at hcs; exact ⟨_, _, _, hcs⟩
  · simp at hcs; exact ⟨_, _, _, hcs⟩
end
set_option maxRecDepth 100000 in
/-- a disk by value: the value written out -/
theorem open_disk {H : Type} {enc : TypeId × Value → H} {W : World} {r0 : Reach} {b0 base : Nat} {sp : Nat → Bool} {held : Bool} {v : Value} {d0 : DataW H} {p : List MemPlace}
    (hv : Value.okWide Try.prog W r0 b0 25 v) (h : DataW.Trod enc Try.prog W base sp held 25 v d0 p) : ∃ (adL adS adO : Option Addr) (capL capS capO : Nat) (ls ss : List Fl) (os : List Dop),
      v = .agg #[.slice adL ls.length capL, .slice adS ss.length capS, .slice adO os.length capO] ∧ Dk W adL adS adO ls ss os W ∧ (∀ f ∈ ls, f.fits) ∧ (∀ f ∈ ss, f.fits) ∧ (∀ f ∈ os, f.fits) ∧ ls.length ≤ maxLen ∧ ss.length ≤ maxLen ∧ os.length ≤ maxLen := by
  obtain ⟨cs, rfl, hsz⟩ := okWide_struct Try.underlying25 hv
  obtain ⟨fuel, hf⟩ := h
  obtain ⟨y0, y1, y2, n, -, hl, h0, h1, h2⟩ := trod_struct3 Try.underlying25 hf
  rw [cellsDisk] at hl
  simp only [Value.cells] at hl h0 h1 h2
  obtain ⟨cs⟩ := cs
  match cs, hl with
  | [c0, c1, c2], _ =>
    simp only [cellsFilesD, cellsDOpsD, List.drop_zero, List.drop_succ_cons, List.take_succ_cons, List.take_zero] at h0 h1 h2
    obtain ⟨adL, lL, capL, rfl⟩ := is_slice Try.underlying22 h0
    obtain ⟨adS, lS, capS, rfl⟩ := is_slice Try.underlying22 h1
    obtain ⟨adO, lO, capO, rfl⟩ := is_slice Try.underlying23 h2
    obtain ⟨ls, rfl, sL, fL, mL⟩ := open_files h0
    obtain ⟨ss, rfl, sS, fS, mS⟩ := open_files h1
    obtain ⟨os, rfl, sO, fO, mO⟩ := open_dops h2
    exact ⟨adL, adS, adO, capL, capS, capO, ls, ss, os, rfl, ⟨Below.refl _ _, sL, sS, sO⟩, fL, fS, fO, mL, mS, mO⟩
set_option maxRecDepth 100000 in
/-- an op by value -/
theorem open_dop {H : Type} {enc : TypeId × Value → H} {W : World} {r0 : Reach} {b0 base : Nat} {sp : Nat → Bool} {held : Bool} {v : Value} {d0 : DataW H} {p : List MemPlace}
    (hv : Value.okWide Try.prog W r0 b0 27 v) (h : DataW.Trod enc Try.prog W base sp held 27 v d0 p) : ∃ o : Dop, v = .agg #[.int .i64 o.k, .string o.n, .string o.t, .string o.d] ∧ o.fits := by
  obtain ⟨cs, rfl, hsz⟩ := okWide_struct Try.underlying27 hv
  obtain ⟨fuel, hf⟩ := h
  obtain ⟨o, e, hh⟩ := read_DOp hf
  refine ⟨o, ?_, hh⟩
  simp only [Value.cells] at e
  rw [← Array.toArray_toList (xs := cs), e]; rfl
end Go.Proofs.Ytbfimfmfdllejaa
