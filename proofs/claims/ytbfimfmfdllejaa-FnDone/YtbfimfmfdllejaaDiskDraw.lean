/- A drawn disk: right, or bent in one of three ways; in any case its files and ops are small. -/
import Derived.Test.YtbfimfmfdllejaaDiskMem
import Derived.Laws.BytesArg
import Derived.Laws.OwnMore
namespace Go.Proofs.Ytbfimfmfdllejaa
open Go.ChangeShapes Go.WideShapes Go.ChangeAt Go.RowKit Go.Maps
set_option linter.unusedVariables false

def DiskP (R : Nat) (ad : Option Addr) (len cap : Nat) (w : World) (e : Ending) (w' : World) : Prop :=
  ∃ (a1 a2 a3 : Option Addr) (p1 p2 p3 : Nat) (ls ss : List Fl) (os : List Dop), e = .returned (.agg #[.slice a1 ls.length p1, .slice a2 ss.length p2, .slice a3 os.length p3]) ∧ Dk w' a1 a2 a3 ls ss os w' ∧ Nils a1 a2 p1 p2 ∧ (ls.length ≤ 61 ∧ ss.length ≤ 61 ∧ os.length ≤ 200) ∧ (∀ f ∈ ls, f.n.size ≤ maxLen ∧ f.d.size ≤ 4194304) ∧ (∀ f ∈ ss, f.n.size ≤ maxLen ∧ f.d.size ≤ 4194304) ∧ (∀ o ∈ os, o.small) ∧ Rd w' R ad len cap ∧ Only R w w' ∧ ((ls ≠ [] → ∀ g o, a1 = some ⟨g, o, none⟩ → w.heap.size < g) ∧ (ss ≠ [] → ∀ g o, a2 = some ⟨g, o, none⟩ → w.heap.size < g) ∧ (os ≠ [] → ∀ g o, a3 = some ⟨g, o, none⟩ → w.heap.size < g))
theorem below_res {w W : World} {a b c : Value} : Below w.heap.size W (((W.setCell ⟨w.heap.size, 0, none⟩ a).setCell ⟨w.heap.size, 1, none⟩ b).setCell ⟨w.heap.size, 2, none⟩ c) := below_set3 (Nat.le_refl _) a b c
/-- the answer is laid into its box: nothing else changes -/
theorem diskP_mk {R : Nat} {ad : Option Addr} {len cap : Nat} {w W : World} {a1 a2 a3 : Option Addr} {p1 p2 p3 : Nat} {ls ss : List Fl} {os : List Dop} {x y z : Value} (hD : Dk W a1 a2 a3 ls ss os W) (hN : Nils a1 a2 p1 p2) (hl : ls.length ≤ 61 ∧ ss.length ≤ 61 ∧ os.length ≤ 200) (fl : ∀ f ∈ ls, f.n.size ≤ maxLen ∧ f.d.size ≤ 4194304) (fs : ∀ f ∈ ss, f.n.size ≤ maxLen ∧ f.d.size ≤ 4194304) (fo : ∀ o ∈ os, o.small) (hR : Rd W R ad len cap) (hO : Only R w W) (hRw : R < w.heap.size) (hby : 0 < len → ∀ b off, ad = some ⟨b, off, none⟩ → b < w.heap.size)
    (far : (ls ≠ [] → ∀ g o, a1 = some ⟨g, o, none⟩ → w.heap.size < g) ∧ (ss ≠ [] → ∀ g o, a2 = some ⟨g, o, none⟩ → w.heap.size < g) ∧ (os ≠ [] → ∀ g o, a3 = some ⟨g, o, none⟩ → w.heap.size < g)) :
    DiskP R ad len cap w (.returned (.agg #[.slice a1 ls.length p1, .slice a2 ss.length p2, .slice a3 os.length p3])) (((W.setCell ⟨w.heap.size, 0, none⟩ x).setCell ⟨w.heap.size, 1, none⟩ y).setCell ⟨w.heap.size, 2, none⟩ z) := by
  have hc : Chg (fun y => y = w.heap.size) W (((W.setCell ⟨w.heap.size, 0, none⟩ x).setCell ⟨w.heap.size, 1, none⟩ y).setCell ⟨w.heap.size, 2, none⟩ z) := ((Chg.set (S := fun y => y = w.heap.size) _ rfl).trans (Chg.set (S := fun y => y = w.heap.size) _ rfl)).trans (Chg.set (S := fun y => y = w.heap.size) _ rfl)
  have kF : ∀ {xs : List Fl} {a : Option Addr}, SlF W a xs → (xs ≠ [] → ∀ g o, a = some ⟨g, o, none⟩ → g ≠ w.heap.size) → SlF (((W.setCell ⟨w.heap.size, 0, none⟩ x).setCell ⟨w.heap.size, 1, none⟩ y).setCell ⟨w.heap.size, 2, none⟩ z) a xs := fun {xs a} h hn => by
    by_cases hx : xs = []
    · exact .inl hx
    rcases h with h | ⟨b, off, e, hb, hr⟩
    · exact .inl h
    · exact .inr ⟨b, off, e, Nat.lt_of_lt_of_le hb hc.size, fun i hi => (hr i hi).same fun o => hc.cell hb (hn hx b off e)⟩
  have kO : SlO (((W.setCell ⟨w.heap.size, 0, none⟩ x).setCell ⟨w.heap.size, 1, none⟩ y).setCell ⟨w.heap.size, 2, none⟩ z) a3 os := by
    by_cases hx : os = []
    · exact .inl hx
    rcases hD.ops with h | ⟨b, off, e, hb, hr⟩
    · exact .inl h
    · exact .inr ⟨b, off, e, Nat.lt_of_lt_of_le hb hc.size, fun i hi => (hr i hi).same fun o => hc.cell hb (Nat.ne_of_gt (far.2.2 hx b off e))⟩
  refine ⟨a1, a2, a3, p1, p2, p3, ls, ss, os, rfl, ⟨Below.refl _ _, kF hD.live (fun hx g o e => Nat.ne_of_gt (far.1 hx g o e)), kF hD.safe (fun hx g o e => Nat.ne_of_gt (far.2.1 hx g o e)), kO⟩, hN, hl, fl, fs, fo, ?_, hO.far below_res, far⟩
  refine ⟨Nat.lt_of_lt_of_le hR.lt hc.size, (hc.cell hR.lt (by omega)).trans hR.code, ?_, ?_, fun h0 => ?_, hR.small⟩
  · obtain ⟨p, hp, hl⟩ := hR.place; exact ⟨p, (hc.cell hR.lt (by omega)).trans hp, hl⟩
  · have hb : Below w.heap.size W _ := below_res (w := w) (W := W) (a := x) (b := y) (c := z)
    rw [hb.frozen (p := ⟨R, 1, none⟩) hRw]; exact hR.free
  · obtain ⟨b, off, e, hne, hbl, hcc⟩ := hR.bytes h0
    have hb1 : b ≠ w.heap.size := by have := hby h0 b off e; omega
    exact ⟨b, off, e, hne, Nat.lt_of_lt_of_le hbl hc.size, fun i hi => by obtain ⟨c, x0, x1, hx⟩ := hcc i hi; exact ⟨c, x0, x1, (hc.cell hbl hb1).trans hx⟩⟩
theorem far_own {W : World} {base n : Nat} {ad : Option Addr} {ne : Prop} (h : FrF W base ad ne) (hn : n < base) : ne → ∀ g o, ad = some ⟨g, o, none⟩ → g ≠ n := fun hne g o e => by
  obtain ⟨g', e', hg, -⟩ := h hne
  rw [e] at e'; injection e' with e'; injection e' with e'; omega
theorem far_lt {W : World} {base n : Nat} {ad : Option Addr} {ne : Prop} (h : FrF W base ad ne) (hn : n < base) : ne → ∀ g o, ad = some ⟨g, o, none⟩ → n < g := fun hne g o e => by
  obtain ⟨g', e', hg, -⟩ := h hne
  rw [e] at e'; injection e' with e'; injection e' with e'; omega
theorem sync_la {W : World} {base : Nat} {a b c : Option Addr} {p q r : Nat} {xs : List Fl} (h : OwnD W base a b c xs xs []) : LA (.slice a xs.length p) (.slice b xs.length q) (.slice c ([] : List Dop).length r) xs [] := fun k hk => ⟨fun hn e => by
  obtain ⟨g, e1, -⟩ := h.fl hn
  obtain ⟨g', e2, -⟩ := h.fs hn
  rw [e1] at hk
  rw [e2] at e
  simp only [Value.ownBlock, Option.some.injEq] at hk e
  exact h.nLS hn hn (by rw [e1, e2, hk, e]), fun hn => absurd rfl hn⟩
theorem do_ok {ls ss : List Fl} {os : List Dop} {o : Dop} (h : diskB ls ss os = true) (hc : dC ls ss os o = 0) : diskB (dL ls ss os o) (dS ls ss os) (dO ls ss os o) = true ∧ ∀ q ∈ dO ls ss os o, q ∈ os ∨ q = o := by
  have hc' : actC ls os o = 0 := by rw [dC, h] at hc; exact hc
  obtain ⟨e1, e2⟩ := act_yes hc'
  rw [dL, dS, dO, h]
  simp only [if_true]
  rw [e1, e2]
  exact ⟨diskB_act h hc', fun q hq => by simpa using hq⟩
theorem SlF.chgd {S : Nat → Prop} {W W' : World} {a : Option Addr} {xs : List Fl} (h : SlF W a xs) (hc : Chg S W W') (hn : xs ≠ [] → ∀ g o, a = some ⟨g, o, none⟩ → ¬ S g) : SlF W' a xs := by
  by_cases hx : xs = []
  · exact .inl hx
  rcases h with h | ⟨b, off, e, hb, hr⟩
  · exact .inl h
  · exact .inr ⟨b, off, e, Nat.lt_of_lt_of_le hb hc.size, fun i hi => (hr i hi).same fun o => hc.cell hb (hn hx b off e)⟩
theorem SlO.chgd {S : Nat → Prop} {W W' : World} {a : Option Addr} {xs : List Dop} (h : SlO W a xs) (hc : Chg S W W') (hn : xs ≠ [] → ∀ g o, a = some ⟨g, o, none⟩ → ¬ S g) : SlO W' a xs := by
  by_cases hx : xs = []
  · exact .inl hx
  rcases h with h | ⟨b, off, e, hb, hr⟩
  · exact .inl h
  · exact .inr ⟨b, off, e, Nat.lt_of_lt_of_le hb hc.size, fun i hi => (hr i hi).same fun o => hc.cell hb (hn hx b off e)⟩
/-- what a cell set in the disk's own box leaves -/
theorem DS.one {w : World} {R : Nat} {ad : Option Addr} {len cap : Nat} {a1 a2 a3 : Option Addr} {p1 p2 p3 : Nat} {ls ss : List Fl} {os : List Dop} {W : World} (h : DS w R ad len cap a1 a2 a3 p1 p2 p3 ls ss os W) (hR : R < w.heap.size) (i : Nat) (v : Value) :
    Rd (W.setCell ⟨w.heap.size + 1, i, none⟩ v) R ad len cap ∧ Only R w (W.setCell ⟨w.heap.size + 1, i, none⟩ v) ∧ Chg (fun y => y = w.heap.size + 1) W (W.setCell ⟨w.heap.size + 1, i, none⟩ v) := by
  have hb : Below w.heap.size W (W.setCell ⟨w.heap.size + 1, i, none⟩ v) := (Below.refl _ W).setCell (p := ⟨w.heap.size + 1, i, none⟩) (by simp) _
  refine ⟨?_, h.on.far hb, Chg.set _ rfl⟩
  have hc : Chg (fun y => y = w.heap.size + 1) W (W.setCell ⟨w.heap.size + 1, i, none⟩ v) := Chg.set _ rfl
  have hRd := h.rd
  refine ⟨Nat.lt_of_lt_of_le hRd.lt hc.size, (hc.cell hRd.lt (by omega)).trans hRd.code, ?_, ?_, fun h0 => ?_, hRd.small⟩
  · obtain ⟨p, hp, hl⟩ := hRd.place; exact ⟨p, (hc.cell hRd.lt (by omega)).trans hp, hl⟩
  · rw [hb.frozen (p := ⟨R, 1, none⟩) hR]; exact hRd.free
  · obtain ⟨b, off, e, hne, hbl, hcc⟩ := hRd.bytes h0
    have hb1 : b ≠ w.heap.size + 1 := by have := h.by0 h0 b off e; omega
    exact ⟨b, off, e, hne, Nat.lt_of_lt_of_le hbl hc.size, fun i hi => by obtain ⟨c, x0, x1, hx⟩ := hcc i hi; exact ⟨c, x0, x1, (hc.cell hbl hb1).trans hx⟩⟩
def zz : ByteArray := ⟨#[122, 122]⟩
theorem info_u8 : (Try.prog.info? 5).map (fun i => (i.zero, i.size, i.bytes)) = some (some (.int .u8 0), 1, 1) := by kernel_rfl
/-- the text of a new row of bytes -/
theorem cv_made {w0 : World} {n b base : Nat} (h : w0.ownsRow base 5 1 (.slice (some ⟨b, 0, none⟩) n n) n (madeCells #[.int .u8 0] (n * 1)).toList) : (convert 49 9 (.slice (some ⟨b, 0, none⟩) n n)).run Try.prog w0 = .ok (.string (strOfNums (List.replicate n 0))) w0 :=
  run_convert_bytes_arg w0 49 5 Try.underlying49 Try.underlying5 b 0 n n (List.replicate n 0) (by simp) (fun i hi => by rw [Nat.zero_add, h.cellAt i (by omega), toList_madeCells_one]; simp [hi]) 9 Try.underlying9
theorem made_below {w w0 : World} (hg : w.grownBy w0 none) : Below w.heap.size w w0 := (Below.refl _ _).grown hg (Nat.le_refl _) (fun k hk => by cases hk)
theorem big_cells {w4 : World} {d : Nat} {v n x0 x1 x2 : Value} {ob : Obj} (h0 : w4.cell? ⟨d, 0, none⟩ = some x0) (h1 : w4.cell? ⟨d, 1, none⟩ = some x1) (h2 : w4.cell? ⟨d, 2, none⟩ = some x2) :
    (((((w4.setCell ⟨d, 0, none⟩ v).setCell ⟨d, 1, none⟩ n).setCell ⟨d, 2, none⟩ n).setCell ⟨d, 1, none⟩ v).alloc ob).cell? ⟨d, 1, none⟩ = some v ∧ (((((w4.setCell ⟨d, 0, none⟩ v).setCell ⟨d, 1, none⟩ n).setCell ⟨d, 2, none⟩ n).setCell ⟨d, 1, none⟩ v).alloc ob).cell? ⟨d, 2, none⟩ = some n := by
  have a1 : ((w4.setCell ⟨d, 0, none⟩ v).setCell ⟨d, 1, none⟩ n).cell? ⟨d, 1, none⟩ = some n := setS' (by rw [setO' (by omega)]; exact h1)
  have a2 : (((w4.setCell ⟨d, 0, none⟩ v).setCell ⟨d, 1, none⟩ n).setCell ⟨d, 2, none⟩ n).cell? ⟨d, 1, none⟩ = some n := by rw [setO' (by omega)]; exact a1
  have a3 : ((((w4.setCell ⟨d, 0, none⟩ v).setCell ⟨d, 1, none⟩ n).setCell ⟨d, 2, none⟩ n).setCell ⟨d, 1, none⟩ v).cell? ⟨d, 1, none⟩ = some v := setS' a2
  have b1 : ((w4.setCell ⟨d, 0, none⟩ v).setCell ⟨d, 1, none⟩ n).cell? ⟨d, 2, none⟩ = some x2 := by rw [setO' (by omega), setO' (by omega)]; exact h2
  have b2 : (((w4.setCell ⟨d, 0, none⟩ v).setCell ⟨d, 1, none⟩ n).setCell ⟨d, 2, none⟩ n).cell? ⟨d, 2, none⟩ = some n := setS' b1
  have b3 : ((((w4.setCell ⟨d, 0, none⟩ v).setCell ⟨d, 1, none⟩ n).setCell ⟨d, 2, none⟩ n).setCell ⟨d, 1, none⟩ v).cell? ⟨d, 2, none⟩ = some n := by rw [setO' (by omega)]; exact b2
  exact ⟨cell_al a3 _, cell_al b3 _⟩
/-- a row of one file, laid over a world of that size -/
theorem slF_one {Y : World} {g : Nat} {f : Fl} {t : TypeId} (hg : Y.heap.size = g) : SlF (Y.alloc (.cells #[.string f.n, .string f.d] t)) (some ⟨g, 0, none⟩) [f] := by
  subst hg
  refine .inr ⟨Y.heap.size, 0, rfl, by simp, fun i hi => ?_⟩
  have : i = 0 := by simp at hi; omega
  subst this
  refine ⟨?_, ?_⟩ <;> simp
/-- the great disk: one file, its row shared -/
theorem diskP_big {R : Nat} {ad : Option Addr} {len cap : Nat} {w Y : World} {g : Nat} {f : Fl} {t : TypeId} (hg : Y.heap.size = g) (hn : f.n.size ≤ 20) (hd : f.d.size ≤ 4194304) (hR : Rd Y R ad len cap) (hO : Only R w Y) (hwg : w.heap.size < g) :
    DiskP R ad len cap w (.returned (.agg #[.slice (some ⟨g, 0, none⟩) 1 1, .slice (some ⟨g, 0, none⟩) 1 1, .slice none 0 0])) (Y.alloc (.cells #[.string f.n, .string f.d] t)) :=
  ⟨some ⟨g, 0, none⟩, some ⟨g, 0, none⟩, none, 1, 1, 0, [f], [f], [], rfl, ⟨Below.refl _ _, slF_one hg, slF_one hg, .inl rfl⟩, ⟨fun h => (by cases h), fun h => (by cases h)⟩, ⟨by simp, by simp, by simp⟩, fun q hq => (by simp at hq; subst hq; exact ⟨by unfold maxLen; omega, hd⟩), fun q hq => (by simp at hq; subst hq; exact ⟨by unfold maxLen; omega, hd⟩), fun o ho => (by cases ho), hR.alloc _, hO.alloc _, ⟨fun _ b o e => (by injection e with e; injection e with e1 e2; omega), fun _ b o e => (by injection e with e; injection e with e1 e2; omega), fun h => absurd rfl h⟩⟩
def fz : Fl := ⟨zz, ⟨#[]⟩⟩
theorem Rd.setd {W : World} {R : Nat} {ad : Option Addr} {len cap n : Nat} (h : Rd W R ad len cap) (i : Nat) (v : Value) (hn : n ≠ R) (hby : 0 < len → ∀ b off, ad = some ⟨b, off, none⟩ → b ≠ n) : Rd (W.setCell ⟨n, i, none⟩ v) R ad len cap := by
  refine ⟨by simpa using h.lt, (setB2 hn).trans h.code, ?_, by simpa using h.free, fun h0 => ?_, h.small⟩
  · obtain ⟨p, hp, hl⟩ := h.place; exact ⟨p, (setB2 hn).trans hp, hl⟩
  · obtain ⟨b, off, e, hne, hbl, hcc⟩ := h.bytes h0
    exact ⟨b, off, e, hne, by simpa using hbl, fun i hi => by obtain ⟨c, x0, x1, hx⟩ := hcc i hi; exact ⟨c, x0, x1, (setB2 (fun e2 => hby h0 b off e e2.symm)).trans hx⟩⟩
/-- one more file behind the live ones -/
theorem appF1 (W : World) (base : Nat) (adL : Option Addr) (capL : Nat) (ls : List Fl) (f : Fl) (x : Nat) (ty : TypeId) (hL : LiveR W base (.slice adL ls.length capL) ls) (hb : base ≤ W.heap.size)
    (hx : ∀ j u, f.row[j]? = some u → W.cell? ((⟨x, 0, none⟩ : Addr).add j) = some u) (hl : ls.length ≤ 1048576) :
    ∃ ad' cap' w', (Builtin.append_ #[30, 30] ty #[.slice adL ls.length capL, .slice (some ⟨x, 0, none⟩) 1 1]).run Try.prog W = .ok (.slice ad' (ls ++ [f]).length cap') w' ∧ (ad' = none → cap' = 0) ∧ SlF w' ad' (ls ++ [f]) ∧ FrF w' base ad' (ls ++ [f] ≠ []) ∧ W.grownBy w' (Value.ownBlock (.slice adL ls.length capL)) := by
  obtain ⟨iF, hiF, z0, z1, z2⟩ := info_parts info_file
  have hone : ∀ u ∈ f.row, u.oneCell' = true := fun u hu => rowF_one f u hu
  rcases hL with h | ⟨h1, h2⟩
  · obtain ⟨v', w', hr, h2, h3, -, -⟩ := run_append_own_at (P := Try.prog) W base 30 ty 93 iF (.agg #[.string ⟨#[]⟩, .string ⟨#[]⟩]) 2 32 Try.underlying30 hiF z0 z1 z2 rfl (by decide) _ _ _ h ⟨x, 0, none⟩ 1 1 f.row rfl hx hone (by unfold maxLen; omega) (by omega) hb
    rw [← rowsF_snoc] at h2
    obtain ⟨ad', cap', rfl, hc, hs, hf⟩ := own_filesF h2 (by simp)
    exact ⟨ad', cap', w', hr, hc, hs, hf, h3⟩
  · subst h1
    obtain ⟨v', w', hr, hB, -, h2'⟩ := run_append_new W 30 ty 93 iF (.agg #[.string ⟨#[]⟩, .string ⟨#[]⟩]) 2 32 Try.underlying30 hiF z0 z1 z2 rfl (by decide) base hb _ h2 (some ⟨x, 0, none⟩) 1 1 f.row rfl (fun h => by cases h) (fun A hA => by injection hA with hA; subst hA; exact hx) hone (by unfold maxLen; omega) (by omega)
    have h3 : w'.ownsRow base 93 2 v' ([] ++ [f]).length (rowsF ([] ++ [f])) := by simpa [rowsF] using h2'
    obtain ⟨ad', cap', rfl, hc, hs, hf⟩ := own_filesF h3 rfl
    exact ⟨ad', cap', w', hr, hc, hs, hf, ⟨hB.os, hB.tape, hB.output, hB.size, fun k hk _ => hB.block k hk⟩⟩
set_option maxRecDepth 8000 in
set_option maxHeartbeats 4000000 in
theorem disk_any (R : Nat) (ad : Option Addr) (len cap : Nat) (w : World) (h : Rd w R ad len cap) :
    Calls Try.prog 57 #[.pointer (some ⟨R, 0, none⟩)] w (DiskP R ad len cap w) := by
  have hR : R < w.heap.size := h.lt
  obtain ⟨W2, hW2⟩ : ∃ W2, W2 = (w.alloc (.cells #[.slice none 0 0, .slice none 0 0, .slice none 0 0] 33)).alloc (.cells #[.slice none 0 0, .slice none 0 0, .slice none 0 0] 33) := ⟨_, rfl⟩
  have b1 : Below (w.alloc (.cells #[.slice none 0 0, .slice none 0 0, .slice none 0 0] 33)).heap.size (w.alloc (.cells #[.slice none 0 0, .slice none 0 0, .slice none 0 0] 33)) W2 := by rw [hW2]; exact (Below.refl _ _).alloc (Nat.le_refl _) _
  have b0 : Below w.heap.size w W2 := by rw [hW2]; exact ((Below.refl _ _).alloc (Nat.le_refl _) _).alloc (by simp) _
  have D0 : Hid (DS w R ad len cap none none none 0 0 0 [] [] [] W2) := by
    refine ⟨h.below b0, Only.of_below b0, (cn_new w _ _ _ _).later b1, fun j => keptF b1 (by simp) (fz0 _ _ _ j), ?_, fun j => ?_, ownD_nil _ _, ⟨fun _ => rfl, fun _ => rfl⟩, .inr ⟨rfl, .inl rfl⟩, by decide, fun o ho => (by cases ho), fun k hk => (by cases hk), fun ad n p e => (by injection e with e1 e2 e3; simp at e2; omega), fun h0 b off e => ?_⟩
    · have := cn_new (w.alloc (.cells #[.slice none 0 0, .slice none 0 0, .slice none 0 0] 33)) (.slice none 0 0) (.slice none 0 0) (.slice none 0 0) 33
      rw [World.size_alloc] at this
      rw [hW2]; exact this
    · have := fz0 (w.alloc (.cells #[.slice none 0 0, .slice none 0 0, .slice none 0 0] 33)) #[.slice none 0 0, .slice none 0 0, .slice none 0 0] 33 j
      rw [World.size_alloc] at this
      rw [hW2]; exact this
    · obtain ⟨b', off', e', -, hb, -⟩ := h.bytes h0
      rw [e] at e'; injection e' with e'; injection e' with e'; omega
  clear b0 b1 h
  go_enter Try.func57, Try.ntmps57
  go_wp2_with fail
  rw [← hW2]
  clear hW2
  refine (size_any R ad len cap W2 D0.out.rd).mono ?_
  rintro e w1 ⟨⟨n, rfl, hn⟩, hR1, hO1⟩
  have D1 := HIDk (D0.out.only hR hR1 hO1)
  clear hR1 hO1 D0
  go_wp2_with fail
  go_loopw [4] (fun v wr => ∃ (k : Nat) (a1 a2 a3 : Option Addr) (p1 p2 p3 : Nat) (ls ss : List Fl) (os : List Dop), k ≤ 10 ∧ v = .int .i64 (k : Int) ∧ Hid (DS w R ad len cap a1 a2 a3 p1 p2 p3 ls ss os wr)) (fun v _ => (intOf v).toNat)
  case atStart => exact ⟨n, _, _, _, _, _, _, _, _, _, hn, rfl, D1⟩
  case round =>
    clear D1 hn
    obtain ⟨k, a1, a2, a3, p1, p2, p3, ls, ss, os, hk, rfl, D⟩ := hrel
    by_cases hk0 : 0 < k
    · have g0 : decide ((0 : Int) < (k : Int)) = true := by simp; omega
      have g1 : decide (0 < k) = true := by simpa using hk0
      go_wp2_with fail
      refine (once_any R ad len cap 5 wr D.out.rd (by decide) (by decide)).mono ?_
      rintro e w2 ⟨⟨x, rfl⟩, hR2, hO2⟩
      have D2 := HIDk (D.out.only hR hR2 hO2)
      clear hR2 hO2 D
      obtain ⟨ltd, z0, z1, z2⟩ := D2.out.db
      have zf : ∀ i, w2.frozen? ⟨w.heap.size + 1, i, none⟩ = false := D2.out.df
      obtain ⟨l60, hlf⟩ := D2.out.fl
      obtain ⟨s60, hsf⟩ := D2.out.fs
      have o200 := D2.out.fo
      have HLF := HIDk hlf
      have HSF := HIDk hsf
      have pl1 : ls.length ≤ 1048576 := by omega
      have ps1 : ss.length ≤ 1048576 := by omega
      have po1 : os.length ≤ 1048576 := by omega
      clear hlf hsf
      cases x with
      | true =>
        go_wp2_with fail
        refine (specSyncL_any a1 a2 a3 p1 p2 p3 ls ss os w2 pl1 ps1 po1 D2.out.dk D2.out.nil.1 HLF.out HSF.out D2.out.sm).mono ?_
        rintro e w3 ⟨⟨v3, rfl, ⟨c1, c2, c3, s1, s2, s3, rfl, hS, hN⟩, hb3⟩, hlv⟩
        have HE : syL ls ss os = ls := by rw [syL, D2.out.ok]; rfl
        rw [HE] at hS hlv ⊢
        have D3 := HIDk (D2.out.later hb3)
        have hge : w.heap.size + 2 ≤ w2.heap.size := by omega
        have HOC3 : OC (.slice c3 ([] : List Dop).length s3) := fun ad n p e => by injection e with e1 e2 e3; simp at e2; omega
        have D4 := HIDk (D3.out.put (q3 := s3) hR (hS.mono hge) hN ((hlv _ _ _ rfl).mono hge) (sync_ok D2.out.ok) (fun o ho => by cases ho) (sync_la hS) HOC3)
        clear hb3 hS hlv HE z0 z1 z2 zf ltd D2
        obtain ⟨ltd, z0, z1, z2⟩ := D3.out.db
        have zf : ∀ i, w3.frozen? ⟨w.heap.size + 1, i, none⟩ = false := D3.out.df
        clear D3
        go_wp2
        go_roundw
        case rel => exact ⟨k - 1, _, _, _, _, _, _, _, _, _, by omega, by go_num, D4⟩
        case measure => simp [intOf]; omega
      | false =>
        have HCL := HIDk D2.out.nil.2
        have HCS := HIDk D2.out.nil.1
        go_wp2_with fail
        refine wp_region_frame 9 (fun | 0 => u19 | 1 => u20 | 2 => u21 | 3 => u22 | 4 => u18 | 5 => u23 | 6 => u24 | 7 => u5 | _ => undef) (fun fq => { tmps := List.toArray (Value.pointer (some { block := R, off := 0 }) :: undef :: Value.pointer (some { block := w.heap.size, off := 0 }) :: Value.pointer (some { block := w.heap.size + 1, off := 0 }) :: Value.int IntKind.i64 (k : Int) :: fq 7 :: u6 :: Value.agg #[Value.slice none 0 0, Value.slice none 0 0, Value.slice none 0 0] :: Value.pointer (some { block := R, off := 0 }) :: Value.int IntKind.i64 (n : Int) :: Value.int IntKind.i64 (k : Int) :: Value.bool true :: u12 :: u13 :: Value.pointer (some { block := R, off := 0 }) :: Value.bool false :: u16 :: u17 :: fq 4 :: fq 0 :: fq 1 :: fq 2 :: fq 3 :: fq 5 :: fq 6 :: u25 :: u26 :: u27 :: undef :: undef :: undef :: undef :: undef :: undef :: undef :: undef :: undef :: undef :: undef :: undef :: undef :: undef :: undef :: undef :: undef :: undef :: undef :: undef :: undef :: undef :: undef :: undef :: undef :: undef :: undef :: undef :: undef :: undef :: undef :: undef :: undef :: undef :: []), defers := [] }) (fun l fq W' => ∃ o : Dop, o.brief ∧ IL (fun u W' => u = (Value.agg #[.slice a1 ls.length p1, .slice a2 ss.length p2, .slice a3 os.length p3]) ∧ OwnD W' (w.heap.size + 2) a1 a2 a3 ls ss os) (Value.pointer (some ⟨R, 0, none⟩)) (Value.agg #[.int .i64 o.k, .string o.n, .string o.t, .string o.d]) (fun W' => Rd W' R ad len cap ∧ Only R w2 W') w2.heap.size (dC ls ss os o) (dL ls ss os o) (dS ls ss os) (dO ls ss os o) (l 1) (l 0) false (l 2) (l 3) (l 4) (l 5) (l 6) (l 7) (l 8) (fq 1) (fq 0) undef (fq 2) (fq 3) (fq 4) (fq 5) (fq 6) (fq 7) W') (by kernel_rfl) rfl (by kernel_rfl) (by kernel_rfl) rfl ⟨⟨0, ⟨#[]⟩, ⟨#[]⟩, ⟨#[]⟩⟩, ⟨by decide, by decide, by decide⟩, IL.start (fun h => by cases h) ⟨D2.out.rd.below (Below.refl _ _).drew, (Only.refl R w2).below (Below.refl _ _).drew⟩ (Nat.le_refl _)⟩ ?_ ?_
        · rintro i hi op ho l fq w' hli hI hpre
          have HP : Hid (∀ e ∈ op.after, Region.binds .any e = true → l e.on = true) := hpre
          obtain ⟨o, hbr, hI⟩ := hI
          have HBR := HIDk hbr
          have HI := HIDk hI
          have HG := HIDk HI.out.bel.1
          have HSZ := HIDk HI.out.bel.2
          clear hI hpre hbr
          have hc : i = 0 ∨ i = 1 ∨ i = 2 ∨ i = 3 ∨ i = 4 ∨ i = 5 ∨ i = 6 ∨ i = 7 ∨ i = 8 := by omega
          clear hi
          rcases hc with rfl | rfl | rfl | rfl | rfl | rfl | rfl | rfl | rfl
          · obtain rfl := Option.some.inj ho
            have x0 : w'.cell? ⟨w.heap.size + 1, 0, none⟩ = some (.slice a1 ls.length p1) := (HG.out.2.cell ltd (by omega)).trans z0
            have x1 : w'.cell? ⟨w.heap.size + 1, 1, none⟩ = some (.slice a2 ss.length p2) := (HG.out.2.cell ltd (by omega)).trans z1
            have x2 : w'.cell? ⟨w.heap.size + 1, 2, none⟩ = some (.slice a3 os.length p3) := (HG.out.2.cell ltd (by omega)).trans z2
            clear ho HP
            refine wpOp_step rfl (fun K hK => ?_)
            have HQ : Hid (∀ a w, _ → K a w) := hK
            clear hK
            dsimp only
            go_simp
            exact HQ.out _ _ ⟨(Value.agg #[.slice a1 ls.length p1, .slice a2 ss.length p2, .slice a3 os.length p3]), by simp [upd], o, HBR.out, HI.out.sD ⟨rfl, (D2.out.own.only (by omega) HG.out.2)⟩⟩
          · obtain rfl := Option.some.inj ho
            clear ho HP
            refine wpOp_step rfl (fun K hK => ?_)
            have HQ : Hid (∀ a w, _ → K a w) := hK
            clear hK
            dsimp only
            go_simp
            exact HQ.out _ _ ⟨(Value.pointer (some ⟨R, 0, none⟩)), by simp [upd], o, HBR.out, HI.out.sL⟩
          · obtain rfl := Option.some.inj ho
            have HNR : Hid (l 3 = false) := by
              cases e : l 3 with
              | false => rfl
              | true => exact absurd (HI.out.pr e) (by rw [hli]; decide)
            have pL : l 1 = true := HP.out { on := 1, ground := .data } (by simp) rfl
            have e1 : fq 1 = (Value.pointer (some ⟨R, 0, none⟩)) := HI.out.fL pL
            clear ho HP
            refine wpOp_step rfl (fun K hK => ?_)
            have HQ : Hid (∀ a w, _ → K a w) := hK
            clear hK
            simp only [e1]
            go_simp
            refine (dop_any R ad len cap w' HG.out.1).mono ?_
            rintro e w3 ⟨⟨o', rfl, hbr'⟩, hR3, hO3⟩
            have HBR' := HIDk hbr'
            have HR3 := HIDk hR3
            have HO3 := HIDk hO3
            clear hbr' hR3 hO3
            go_wp2_with fail
            exact HQ.out _ _ ⟨_, by simp [upd, e1], o', HBR'.out, IL.sPo HNR.out HI.out (fun g hx => hx.only (by omega) HO3.out) (fun u h => ⟨h.1, h.2.only (by omega) HO3.out⟩) (Nat.le_trans HSZ.out HO3.out.size) ⟨HR3.out, HG.out.2.trans HO3.out⟩⟩
          · obtain rfl := Option.some.inj ho
            have pD : l 0 = true := HP.out { on := 0, ground := .data } (by simp) rfl
            have pP : l 2 = true := HP.out { on := 2, ground := .data } (by simp) rfl
            obtain ⟨e0, hD⟩ := HI.out.fD pD hli
            have HD := HIDk hD
            clear hD
            have e2 : fq 2 = (Value.agg #[.int .i64 o.k, .string o.n, .string o.t, .string o.d]) := HI.out.fP pP
            clear ho HP
            refine wpOp_step rfl (fun K hK => ?_)
            have HQ : Hid (∀ a w, _ → K a w) := hK
            clear hK
            simp only [e0, e2]
            go_simp
            refine (specDoL_any a1 a2 a3 p1 p2 p3 ls ss os o w' pl1 ps1 po1 (own_dk HD.out) HCL.out HCS.out HLF.out HSF.out D2.out.sm HBR.out.small).mono ?_
            rintro e w3 ⟨⟨v3, rfl, ⟨c1, c2, c3, s1, s2, s3, rfl, hS, hN⟩, hb3⟩, hlv⟩
            have HA := HIDk (hS.mono HSZ.out)
            have HLV := HIDk hlv
            clear hS hlv
            go_wp2_with fail
            exact HQ.out _ _ ⟨_, by simp [upd, e0, e2], o, HBR.out, IL.sR hli HI.out hb3 pP ⟨HG.out.1.below hb3, HG.out.2.below hb3⟩ ⟨c1, c2, c3, s1, s2, s3, rfl, HA.out, hN, fun h0 => ⟨(HLV.out h0 _ _ rfl _ _ _ rfl).1.mono HSZ.out, (HLV.out h0 _ _ rfl _ _ _ rfl).2⟩⟩ (fun a b d y k e h0 hk => by injection e with e; simp only [Array.mk.injEq, List.cons.injEq, and_true] at e; obtain ⟨e, -⟩ := e; injection e with e; simp only [Array.mk.injEq, List.cons.injEq, and_true] at e; obtain ⟨e, -⟩ := e; rw [← e] at hk; exact ((HLV.out h0 _ _ rfl _ _ _ rfl).1.blk hk).1)⟩
          · obtain rfl := Option.some.inj ho
            have pR : l 3 = true := HP.out { on := 3, ground := .data } (by simp) rfl
            clear ho HP
            refine wpOp_step rfl (fun K hK => ?_)
            have HQ : Hid (∀ a w, _ → K a w) := hK
            clear hK
            dsimp only
            go_simp
            exact HQ.out _ _ ⟨fq 3, by simp [upd], o, HBR.out, IL.sM pR HI.out⟩
          · obtain rfl := Option.some.inj ho
            have pM : l 4 = true := HP.out { on := 4, ground := .data } (by simp) rfl
            obtain ⟨hR', e5'⟩ := HI.out.fM pM
            obtain ⟨c1, c2, c3, s1, s2, s3, e4, hO, hN, hL⟩ := HI.out.ans hR'
            have e5 : fq 4 = .tuple #[.agg #[.slice c1 (dL ls ss os o).length s1, .slice c2 (dS ls ss os).length s2, .slice c3 (dO ls ss os o).length s3], .int .i64 (dC ls ss os o)] := e5'.trans e4
            have E4 := HIDk e4
            clear e5' hO hN e4 hL
            clear ho HP
            refine wpOp_step rfl (fun K hK => ?_)
            have HQ : Hid (∀ a w, _ → K a w) := hK
            clear hK
            simp only [e5]
            go_simp
            exact HQ.out _ _ ⟨.agg #[.slice c1 (dL ls ss os o).length s1, .slice c2 (dS ls ss os).length s2, .slice c3 (dO ls ss os o).length s3], by simp [upd, e5], o, HBR.out, IL.sE hR' HI.out E4.out⟩
          · obtain rfl := Option.some.inj ho
            have pM : l 4 = true := HP.out { on := 4, ground := .data } (by simp) rfl
            obtain ⟨hR', e5'⟩ := HI.out.fM pM
            obtain ⟨c1, c2, c3, s1, s2, s3, e4, hO, hN, hL⟩ := HI.out.ans hR'
            have e5 : fq 4 = .tuple #[.agg #[.slice c1 (dL ls ss os o).length s1, .slice c2 (dS ls ss os).length s2, .slice c3 (dO ls ss os o).length s3], .int .i64 (dC ls ss os o)] := e5'.trans e4
            have E4 := HIDk e4
            clear e5' hO hN e4 hL
            clear ho HP
            refine wpOp_step rfl (fun K hK => ?_)
            have HQ : Hid (∀ a w, _ → K a w) := hK
            clear hK
            simp only [e5]
            go_simp
            exact HQ.out _ _ ⟨.int .i64 (dC ls ss os o), by simp [upd, e5], o, HBR.out, IL.sC hR' HI.out⟩
          · obtain rfl := Option.some.inj ho
            clear ho HP
            refine wpOp_step rfl (fun K hK => ?_)
            have HQ : Hid (∀ a w, _ → K a w) := hK
            clear hK
            dsimp only
            go_simp
            exact HQ.out _ _ ⟨_, by simp [upd], o, HBR.out, IL.sA hli (fun hR' h0 a b d y k e hk => by obtain ⟨c1, c2, c3, s1, s2, s3, e4, hO, hN, hL⟩ := HI.out.ans hR'; replace e := e4.symm.trans e; injection e with e; simp only [Array.mk.injEq, List.cons.injEq, and_true] at e; obtain ⟨e, -⟩ := e; injection e with e; simp only [Array.mk.injEq, List.cons.injEq, and_true] at e; obtain ⟨e, -⟩ := e; rw [← e] at hk; exact ((hL h0).1.blk hk).2) HI.out (fun u h => ⟨h.1, h.2.below ((Below.refl _ _).alloc (Nat.le_refl _) _)⟩) ⟨HG.out.1.below ((Below.refl _ _).alloc (Nat.le_refl _) _), HG.out.2.below ((Below.refl _ _).alloc (Nat.le_refl _) _)⟩⟩
          · obtain rfl := Option.some.inj ho
            have pA : l 7 = true := HP.out { on := 7, ground := .data } (by simp) rfl
            have pE : l 5 = true := HP.out { on := 5, ground := .data } (by simp) rfl
            obtain ⟨g, e8, hx⟩ := HI.out.box pA
            obtain ⟨hR', y, eE⟩ := HI.out.fE pE
            obtain ⟨c1, c2, c3, s1, s2, s3, e4, hO, hN, hL⟩ := HI.out.ans hR'
            have e6 : fq 5 = .agg #[.slice c1 (dL ls ss os o).length s1, .slice c2 (dS ls ss os).length s2, .slice c3 (dO ls ss os o).length s3] := by have h := eE.symm.trans e4; simpa using (by simpa using h : _ ∧ _).1
            have HX := HIDk hx
            have HO := HIDk hO
            have E4 := HIDk e4
            have HNl := HIDk hN
            have HLl := HIDk hL
            have fr : ∀ j, w'.frozen? ⟨g, j, none⟩ = false := hx.fr
            have hlt := hx.lt
            have hge := hx.ge
            obtain ⟨_, _, _, h0⟩ := hx.c0
            obtain ⟨_, _, _, h1⟩ := hx.c1
            obtain ⟨_, _, _, h2⟩ := hx.c2
            have E8 := HIDk e8
            clear hx hO e4 eE hN hL
            clear ho HP
            refine wpOp_step rfl (fun K hK => ?_)
            have HQ : Hid (∀ a w, _ → K a w) := hK
            clear hK
            simp only [e8, e6]
            go_simp
            exact HQ.out _ _ ⟨undef, by simp [upd, e8, e6], o, HBR.out, IL.sS hR' pA E4.out E8.out HI.out HO.out HNl.out HLl.out HX.out ⟨HG.out.1.far D2.out.rd (below_set3 HX.out.ge _ _ _), HG.out.2.far (below_set3 HX.out.ge _ _ _)⟩⟩
        rintro op ho l fq w3 hall hI
        obtain rfl := Option.some.inj ho
        obtain ⟨o, hbr, hI⟩ := hI
        have e7 : fq 6 = .int .i64 (dC ls ss os o) := (hI.fC (hall 6 (by omega))).2
        obtain ⟨-, -, c1, c2, c3, s1, s2, s3, g, eR, hO, ⟨hN, hL⟩, eA, hx, k0, k1, k2⟩ := hI.don (hall 8 (by omega))
        obtain ⟨hR3, hO3⟩ := hI.bel.1
        clear ho hall hI eR
        refine wpOp_step rfl (fun K hK => ?_)
        have HQ : Hid (∀ a w, _ → K a w) := hK
        clear hK
        simp only [e7, eA]
        go_simp
        refine HQ.out _ _ ?_
        clear HQ e7 eA
        have D3 := HIDk (D2.out.only hR hR3 hO3)
        have hge : w.heap.size + 2 ≤ w2.heap.size := by omega
        have HBR := HIDk hbr
        have HO := HIDk (hO.mono hge)
        have HNl := HIDk hN
        have HLl := HIDk hL
        have hgl := hx.lt
        have hgg := hx.ge
        clear hR3 hO3 hbr hO hN hL hx z0 z1 z2 zf ltd
        obtain ⟨ltd, z0, z1, z2⟩ := D3.out.db
        have zf : ∀ i, w3.frozen? ⟨w.heap.size + 1, i, none⟩ = false := D3.out.df
        by_cases hc0 : dC ls ss os o = 0
        · have HOK := HIDk (do_ok D2.out.ok hc0)
          have HSM : Hid (∀ q ∈ dO ls ss os o, q.small) := fun q hq => by
            rcases HOK.out.2 q hq with h | h
            · exact D2.out.sm q h
            · rw [h]; exact HBR.out.small
          have D4 := HIDk (D3.out.put (q3 := s3) hR HO.out HNl.out ((HLl.out hc0).1.mono hge) HOK.out.1 HSM.out (HLl.out hc0).2.1 (HLl.out hc0).2.2)
          have c0 : (dC ls ss os o == 0) = true := by simpa using hc0
          have c0' : decide (dC ls ss os o = 0) = true := by simpa using hc0
          clear hc0 D3 D2 HO HNl HLl HOK HSM
          go_wp2
          go_roundw
          case rel => exact ⟨k - 1, _, _, _, _, _, _, _, _, _, by omega, by go_num, D4⟩
          case measure => simp [intOf]; omega
        · have c0 : (dC ls ss os o == 0) = false := by simpa using hc0
          have c0' : decide (dC ls ss os o = 0) = false := by simpa using hc0
          clear hc0 D2 HO HNl HLl
          go_wp2
          go_roundw
          case rel => exact ⟨k - 1, _, _, _, _, _, _, _, _, _, by omega, by go_num, D3⟩
          case measure => simp [intOf]; omega
    · have g0 : decide ((0 : Int) < (k : Int)) = false := by simp; omega
      have g1 : decide (0 < k) = false := by simp; omega
      go_wp2_with fail
      refine (below_any R ad len cap 40 wr D.out.rd (by decide) (by decide)).mono ?_
      rintro e w2 ⟨⟨x, rfl, hx0, hx1⟩, hR2, hO2⟩
      have D2 := HIDk (D.out.only hR hR2 hO2)
      clear hR2 hO2 D
      obtain ⟨ltd, z0, z1, z2⟩ := D2.out.db
      have zf : ∀ i, w2.frozen? ⟨w.heap.size + 1, i, none⟩ = false := D2.out.df
      obtain ⟨ltr, r0, r1, r2⟩ := D2.out.rs
      have rf : ∀ i, w2.frozen? ⟨w.heap.size, i, none⟩ = false := D2.out.rf
      by_cases h39 : x = 39
      · have e1 : (x == 39) = true := by simpa using h39
        have f1 : decide (x = 39) = true := by simpa using h39
        obtain ⟨X, hX⟩ : ∃ X, X = w2.alloc (.cells #[.string ⟨#[122, 122]⟩, .string ⟨#[]⟩] 93) := ⟨_, rfl⟩
        have hbX : Below w2.heap.size w2 X := by rw [hX]; exact (Below.refl _ _).alloc (Nat.le_refl _) _
        have DX := HIDk (D2.out.later hbX)
        have hcell : ∀ j u, fz.row[j]? = some u → X.cell? ((⟨w2.heap.size, 0, none⟩ : Addr).add j) = some u := fun j u hu => by
          rw [add_noneD, Nat.zero_add]
          have := World.cell?_alloc_mark w2 #[.string ⟨#[122, 122]⟩, .string ⟨#[]⟩] 93 (0, 0) j
          rw [hX]
          rw [show (w2.alloc (.cells #[.string ⟨#[122, 122]⟩, .string ⟨#[]⟩] 93)).cell? ⟨w2.heap.size, j, none⟩ = _ from this]
          simpa [Fl.row, fz, zz] using hu
        have hXs : w2.heap.size ≤ X.heap.size := hbX.size
        obtain ⟨ad', cap', w7, hr7, hc7, hs7, hf7, hg7⟩ := appF1 X (w.heap.size + 2) a1 p1 ls fz w2.heap.size 30 DX.out.lv (by omega) hcell (by have := DX.out.fl.1; omega)
        have hblk : ∀ k, Value.ownBlock (.slice a1 ls.length p1) = some k → w.heap.size + 2 ≤ k := fun k hk => (DX.out.lv.blk hk).1
        have hcl : ∀ g i, g < w.heap.size + 2 → w7.cell? ⟨g, i, none⟩ = X.cell? ⟨g, i, none⟩ := fun g i hg => World.cell?_of_block (w := X) (a := ⟨g, i, none⟩) (hg7.block g (by omega) (fun e => by have := hblk g e.symm; omega))
        have hfr : ∀ g i, g < w.heap.size + 2 → w7.frozen? ⟨g, i, none⟩ = X.frozen? ⟨g, i, none⟩ := fun g i hg => World.frozen?_of_block (w := X) (a := ⟨g, i, none⟩) (hg7.block g (by omega) (fun e => by have := hblk g e.symm; omega))
        have R7 : Rd w7 R ad len cap := DX.out.rd.grown hg7 (fun e => by have := hblk R e.symm; omega) (fun h0 b off e e2 => by have := hblk b e2.symm; have := DX.out.by0 h0 b off e; omega)
        have O7 : Only R w w7 := DX.out.on.grownNew hg7 (fun g e => by have := hblk g e; omega)
        obtain ⟨s7, s7f⟩ := DX.out.own.safe.grown DX.out.own.fs hg7 (fun hn g e e2 => by
          subst e
          exact (DX.out.la g e2).1 hn rfl)
        obtain ⟨o7, o7f⟩ := DX.out.own.ops.grown DX.out.own.fo hg7 (fun hn g e e2 => by
          subst e
          exact (DX.out.la g e2).2 hn rfl)
        have HFIN : Hid (∀ v, DiskP R ad len cap w (.returned (.agg #[.slice ad' (ls ++ [fz]).length cap', .slice a2 ss.length p2, .slice a3 os.length p3])) ((((w7.setCell ⟨w.heap.size + 1, 0, none⟩ v).setCell ⟨w.heap.size, 0, none⟩ (.slice ad' (ls ++ [fz]).length cap')).setCell ⟨w.heap.size, 1, none⟩ (.slice a2 ss.length p2)).setCell ⟨w.heap.size, 2, none⟩ (.slice a3 os.length p3))) := fun v => by
          have hc : Chg (fun y => y = w.heap.size + 1) w7 (w7.setCell ⟨w.heap.size + 1, 0, none⟩ v) := Chg.set _ rfl
          refine diskP_mk ⟨Below.refl _ _, hs7.chgd hc (fun hn g o e => far_own hf7 (n := w.heap.size + 1) (by omega) hn g o e), s7.chgd hc (fun hn g o e => far_own s7f (n := w.heap.size + 1) (by omega) hn g o e), o7.chgd hc (fun hn g o e => far_own o7f (n := w.heap.size + 1) (by omega) hn g o e)⟩ ⟨D2.out.nil.1, hc7⟩ ⟨by have := D2.out.fl.1; simp; omega, by have := D2.out.fs.1; omega, D2.out.fo⟩ (fun f hf => ?_) D2.out.fs.2 D2.out.sm (R7.setd _ _ (by omega) (fun h0 b off e => by have := D2.out.by0 h0 b off e; omega)) (O7.far ((Below.refl _ _).setCell (p := ⟨w.heap.size + 1, 0, none⟩) (by simp) _)) hR D2.out.by0 ⟨far_lt hf7 (by omega), far_lt s7f (by omega), far_lt o7f (by omega)⟩
          rcases List.mem_append.1 hf with h | h
          · exact D2.out.fl.2 f h
          · simp at h
            subst h
            exact ⟨by unfold maxLen; decide, by decide⟩
        have y0 : ∃ u, w7.cell? ⟨w.heap.size + 1, 0, none⟩ = some u := ⟨_, (hcl _ 0 (by omega)).trans DX.out.db.c0⟩
        have y1 := (hcl (w.heap.size + 1) 1 (by omega)).trans DX.out.db.c1
        have y2 := (hcl (w.heap.size + 1) 2 (by omega)).trans DX.out.db.c2
        have yf : ∀ i, w7.frozen? ⟨w.heap.size + 1, i, none⟩ = false := fun i => (hfr _ i (by omega)).trans (DX.out.df i)
        have t0 := (hcl w.heap.size 0 (by omega)).trans DX.out.rs.c0
        have t1 := (hcl w.heap.size 1 (by omega)).trans DX.out.rs.c1
        have t2 := (hcl w.heap.size 2 (by omega)).trans DX.out.rs.c2
        have tf : ∀ i, w7.frozen? ⟨w.heap.size, i, none⟩ = false := fun i => (hfr _ i (by omega)).trans (DX.out.rf i)
        obtain ⟨u0, y0⟩ := y0
        have HR7 := HIDk hr7
        clear h39 hcell hr7 hc7 hs7 hf7 hg7 hblk hcl hfr R7 O7 s7 s7f o7 o7f hbX DX r0 r1 r2 rf zf
        go_wp2_with (at_builtin; rw [← hX]; clear hX; refine wpList_append_run rfl _ _ 30 30 rfl (.slice a1 ls.length p1) (.slice (some ⟨w2.heap.size, 0, none⟩) 1 1) (.slice ad' (ls ++ [fz]).length cap') w7 rfl rfl HR7.out ?_)
        go_wp2
        refine bodyPost_ret (v := .agg #[.slice ad' (ls.length + 1) cap', .slice a2 ss.length p2, .slice a3 os.length p3]) (by simp [results, Try.results57, go_sem, *]) rfl ?_
        have hfin := HFIN.out (.slice ad' (ls.length + 1) cap')
        rw [show (ls ++ [fz]).length = ls.length + 1 by simp] at hfin
        exact hfin
      by_cases h38 : x = 38
      · have e1 : (x == 39) = false := by simpa using h39
        have e2 : (x == 38) = true := by simpa using h38
        have f1 : decide (x = 39) = false := by simpa using h39
        have f2 : decide (x = 38) = true := by simpa using h38
        by_cases ho : os = []
        · have q0 : decide ((0 : Int) < (os.length : Int)) = false := by rw [ho]; rfl
          have q1 : decide (0 < os.length) = false := by rw [ho]; rfl
          clear h39 h38 ho
          go_wp2
          refine bodyPost_ret (v := .agg #[.slice a1 ls.length p1, .slice a2 ss.length p2, .slice a3 os.length p3]) (by simp [results, Try.results57, go_sem, *]) rfl ?_
          exact diskP_mk (D2.out.dk) D2.out.nil ⟨by have := D2.out.fl.1; omega, by have := D2.out.fs.1; omega, D2.out.fo⟩ D2.out.fl.2 D2.out.fs.2 D2.out.sm D2.out.rd D2.out.on hR D2.out.by0 ⟨far_lt D2.out.own.fl (by omega), far_lt D2.out.own.fs (by omega), far_lt D2.out.own.fo (by omega)⟩
        · have hpos : 0 < os.length := List.length_pos_iff.2 ho
          have q0 : decide ((0 : Int) < (os.length : Int)) = true := by simp; omega
          have q1 : decide (0 < os.length) = true := by simpa using hpos
          obtain ⟨g, rfl, hg1, hg2, hg3⟩ := D2.out.own.fo ho
          have hcap : os.length ≤ p3 := D2.out.oc _ _ _ rfl
          have HT : Hid (∀ off, off = (if p3 = 1 then 0 else 4) → SlO w2 (some ⟨g, off, none⟩) os.tail) := fun off ho' => by
            by_cases hp : p3 = 1
            · left
              have : os.length = 1 := by omega
              exact List.eq_nil_of_length_eq_zero (by rw [List.length_tail]; omega)
            · rw [if_neg hp] at ho'
              subst ho'
              rcases D2.out.own.ops with h | ⟨b, off, e, hb, hr⟩
              · exact absurd h ho
              · injection e with e; injection e with e1 e2
                subst e1; subst e2
                refine .inr ⟨g, 4, rfl, hb, fun i hi => ?_⟩
                have := hr (i + 1) (by rw [List.length_tail] at hi; omega)
                rw [show 0 + (i + 1) * 4 = 4 + i * 4 by omega] at this
                rw [List.getElem_tail]; exact this
          have HTF : Hid (∀ (v : Value) (off p : Nat), off = (if p3 = 1 then 0 else 4) → DiskP R ad len cap w (.returned (.agg #[.slice a1 ls.length p1, .slice a2 ss.length p2, .slice (some ⟨g, off, none⟩) (os.length - 1) p])) ((((w2.setCell ⟨w.heap.size + 1, 2, none⟩ v).setCell ⟨w.heap.size, 0, none⟩ (.slice a1 ls.length p1)).setCell ⟨w.heap.size, 1, none⟩ (.slice a2 ss.length p2)).setCell ⟨w.heap.size, 2, none⟩ (.slice (some ⟨g, off, none⟩) (os.length - 1) p))) := fun v off p ho' => by
            obtain ⟨n1, n2, n3⟩ := D2.out.one hR 2 v
            rw [show os.length - 1 = os.tail.length by simp]
            refine diskP_mk ⟨Below.refl _ _, D2.out.own.live.chgd n3 (fun hn g o e => by have := far_own D2.out.own.fl (n := w.heap.size + 1) (by omega) hn g o e; exact this), D2.out.own.safe.chgd n3 (fun hn g o e => far_own D2.out.own.fs (n := w.heap.size + 1) (by omega) hn g o e), (HT.out off ho').chgd n3 (fun hn g' o e => by injection e with e; injection e with e1 e2; omega)⟩ D2.out.nil ⟨by have := D2.out.fl.1; omega, by have := D2.out.fs.1; omega, by have := D2.out.fo; rw [List.length_tail]; omega⟩ D2.out.fl.2 D2.out.fs.2 (fun o ho => D2.out.sm o (List.mem_of_mem_tail ho)) n1 n2 hR D2.out.by0 ⟨far_lt D2.out.own.fl (by omega), far_lt D2.out.own.fs (by omega), fun hn g' o e => by injection e with e; injection e with e1 e2; omega⟩
          clear h39 h38
          by_cases hp : p3 = 1
          · subst hp
            have ho1 : os.length = 1 := by omega
            rw [ho1] at HTF
            have hT := HTF.out (.slice (some ⟨g, 0, none⟩) 0 0) 0 0 rfl
            rw [ho1] at *
            clear HTF HT ho1
            have HTT := HIDk hT
            clear hT
            go_wp2
            refine bodyPost_ret (v := .agg #[.slice a1 ls.length p1, .slice a2 ss.length p2, .slice (some ⟨g, 0, none⟩) 0 0]) (by simp [results, Try.results57, go_sem, *]) rfl HTT.out
          · have hT := HTF.out (.slice (some ⟨g, 4, none⟩) (os.length - 1) (p3 - 1)) 4 (p3 - 1) (by rw [if_neg hp])
            have HTT := HIDk hT
            clear HTF HT hT
            go_wp2
            refine bodyPost_ret (v := .agg #[.slice a1 ls.length p1, .slice a2 ss.length p2, .slice (some ⟨g, 4, none⟩) (os.length - 1) (p3 - 1)]) (by simp [results, Try.results57, go_sem, *]) rfl HTT.out
      by_cases h37 : x = 37
      · have e1 : (x == 39) = false := by simpa using h39
        have e2 : (x == 38) = false := by simpa using h38
        have e3 : (x == 37) = true := by simpa using h37
        have f1 : decide (x = 39) = false := by simpa using h39
        have f2 : decide (x = 38) = false := by simpa using h38
        have f3 : decide (x = 37) = true := by simpa using h37
        obtain ⟨inf, hi, hz0, hz1, hz2⟩ := info_parts info_u8
        clear h39 h38 h37
        go_wp2_with fail
        refine (below_any R ad len cap 9 w2 D2.out.rd (by decide) (by decide)).mono ?_
        rintro e w3 ⟨⟨y, rfl, hy0, hy1⟩, hR3, hO3⟩
        obtain ⟨y, rfl⟩ : ∃ q : Nat, y = (q : Int) := ⟨y.toNat, by omega⟩
        have D3 := HIDk (D2.out.only hR hR3 hO3)
        clear hR3 hO3 D2 z0 z1 z2 zf r0 r1 r2 rf ltd ltr
        obtain ⟨ltd, z0, z1, z2⟩ := D3.out.db
        have zf : ∀ i, w3.frozen? ⟨w.heap.size + 1, i, none⟩ = false := D3.out.df
        obtain ⟨ltr, r0, r1, r2⟩ := D3.out.rs
        have rf : ∀ i, w3.frozen? ⟨w.heap.size, i, none⟩ = false := D3.out.rf
        go_wp2_with (at_make; refine wpList_make_full _ rfl _ _ 49 rfl w3.heap.size 5 inf (.int .u8 0) 1 Try.underlying49 hi hz0 hz1 .i64 .i64 _ _ (200000 - y) rfl rfl (by omega) (by omega) (by rw [hz2]; omega) (by unfold maxLen; omega) (Nat.le_refl _) ?_; intro w4 hown4 hgrow4; have HCV := cv_made hown4; have hm4 := made_below hgrow4; replace z0 := kept hm4 ltd z0; replace z1 := kept hm4 ltd z1; replace z2 := kept hm4 ltd z2; replace r0 := kept hm4 ltr r0; replace r1 := kept hm4 ltr r1; replace r2 := kept hm4 ltr r2; have zf4 := fun i => keptF hm4 ltd (zf i); have rf4 := fun i => keptF hm4 ltr (rf i); have ltd4 := Nat.lt_of_lt_of_le ltd hm4.size; have ltr4 := Nat.lt_of_lt_of_le ltr hm4.size; have HZ1 := (big_cells (v := .slice (some ⟨w4.heap.size, 0, none⟩) 1 1) (n := .slice none 0 0) (ob := .cells #[.string ⟨#[98, 105, 103]⟩, .string (strOfNums (List.replicate (200000 - y) 0))] 93) z0 z1 z2).1; have HZ2 := (big_cells (v := .slice (some ⟨w4.heap.size, 0, none⟩) 1 1) (n := .slice none 0 0) (ob := .cells #[.string ⟨#[98, 105, 103]⟩, .string (strOfNums (List.replicate (200000 - y) 0))] 93) z0 z1 z2).2)
        have HR4 := HIDk (D3.out.rd.below hm4)
        have HO4 := HIDk (D3.out.on.below hm4)
        have hby := D3.out.by0
        have nd : w.heap.size + 1 ≠ R := by omega
        have nr : w.heap.size ≠ R := by omega
        have bd : 0 < len → ∀ b off, ad = some ⟨b, off, none⟩ → b ≠ w.heap.size + 1 := fun h0 b off e => by have := hby h0 b off e; omega
        have br : 0 < len → ∀ b off, ad = some ⟨b, off, none⟩ → b ≠ w.heap.size := fun h0 b off e => by have := hby h0 b off e; omega
        refine bodyPost_ret (v := .agg #[.slice (some ⟨w4.heap.size, 0, none⟩) 1 1, .slice (some ⟨w4.heap.size, 0, none⟩) 1 1, .slice none 0 0]) (by simp [results, Try.results57, go_sem, *]) rfl ?_
        refine diskP_big (f := ⟨⟨#[98, 105, 103]⟩, strOfNums (List.replicate (200000 - y) 0)⟩) (by simp) (show (⟨#[98, 105, 103]⟩ : ByteArray).size ≤ 20 by decide) (by rw [strOfNums_size]; simp; omega) ?_ ?_ (by omega)
        · exact ((((((HR4.out.setd _ _ nd bd).setd _ _ nd bd).setd _ _ nd bd).setd _ _ nd bd).setd _ _ nr br).setd _ _ nr br).setd _ _ nr br
        · exact HO4.out.far (((((((Below.refl w.heap.size w4).setCell (p := ⟨w.heap.size + 1, 0, none⟩) (by simp) _).setCell (p := ⟨w.heap.size + 1, 1, none⟩) (by simp) _).setCell (p := ⟨w.heap.size + 1, 2, none⟩) (by simp) _).setCell (p := ⟨w.heap.size + 1, 1, none⟩) (by simp) _).setCell (p := ⟨w.heap.size, 0, none⟩) (by simp) _).setCell (p := ⟨w.heap.size, 1, none⟩) (by simp) _ |>.setCell (p := ⟨w.heap.size, 2, none⟩) (by simp) _)
      have e1 : (x == 39) = false := by simpa using h39
      have e2 : (x == 38) = false := by simpa using h38
      have e3 : (x == 37) = false := by simpa using h37
      have f1 : decide (x = 39) = false := by simpa using h39
      have f2 : decide (x = 38) = false := by simpa using h38
      have f3 : decide (x = 37) = false := by simpa using h37
      clear h39 h38 h37
      go_wp2
      refine bodyPost_ret (v := .agg #[.slice a1 ls.length p1, .slice a2 ss.length p2, .slice a3 os.length p3]) (by simp [results, Try.results57, go_sem, *]) rfl ?_
      exact diskP_mk (D2.out.dk) D2.out.nil ⟨by have := D2.out.fl.1; omega, by have := D2.out.fs.1; omega, D2.out.fo⟩ D2.out.fl.2 D2.out.fs.2 D2.out.sm D2.out.rd D2.out.on hR D2.out.by0 ⟨far_lt D2.out.own.fl (by omega), far_lt D2.out.own.fs (by omega), far_lt D2.out.own.fo (by omega)⟩
end Go.Proofs.Ytbfimfmfdllejaa
