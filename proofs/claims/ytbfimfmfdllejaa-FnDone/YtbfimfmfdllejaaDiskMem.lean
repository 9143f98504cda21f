/- A disk that is drawn: what lies in memory while it is. -/
import Derived.Test.YtbfimfmfdllejaaDoBoxL
import Derived.Test.YtbfimfmfdllejaaLawDo
import Derived.Test.YtbfimfmfdllejaaRdDk
import Derived.Test.YtbfimfmfdllejaaPlainRep
namespace Go.Proofs.Ytbfimfmfdllejaa
open Go.ChangeShapes Go.WideShapes Go.ChangeAt Go.RowKit Go.Maps
set_option linter.unusedVariables false

theorem SlO.grown {W w' : World} {ad : Option Addr} {xs : List Dop} {b : Nat} {row : Option Nat} (h : SlO W ad xs) (hf : FrF W b ad (xs ≠ [])) (hg : W.grownBy w' row) (hn : xs ≠ [] → ∀ g, ad = some ⟨g, 0, none⟩ → row ≠ some g) : SlO w' ad xs ∧ FrF w' b ad (xs ≠ []) := by
  by_cases hx : xs = []
  · exact ⟨.inl hx, fun h => absurd hx h⟩
  · obtain ⟨g, rfl, h1, h2, h3⟩ := hf hx
    have hblk : w'.heap[g]? = W.heap[g]? := hg.block g h2 (fun e => hn hx g rfl e.symm)
    refine ⟨?_, fun _ => ⟨g, rfl, h1, Nat.lt_of_lt_of_le h2 hg.size, fun j => by rw [World.frozen?_of_block (w := W) (a := ⟨g, j, none⟩) hblk]; exact h3 j⟩⟩
    rcases h with h | ⟨b', off, e, hb, hr⟩
    · exact absurd h hx
    · injection e with e; injection e with e1 e2
      subst e1; subst e2
      exact .inr ⟨g, 0, rfl, Nat.lt_of_lt_of_le h2 hg.size, fun i hi => (hr i hi).same fun o => World.cell?_of_block (w := W) (a := ⟨g, o, none⟩) hblk⟩
theorem OwnD.only {R base : Nat} {W W' : World} {a1 a2 a3 : Option Addr} {ls ss : List Fl} {os : List Dop} (h : OwnD W base a1 a2 a3 ls ss os) (hR : R < base) (hO : Only R W W') : OwnD W' base a1 a2 a3 ls ss os := by
  have key : ∀ {g : Nat}, base ≤ g → (some R : Option Nat) ≠ some g := fun hg e => by injection e with e; omega
  obtain ⟨l1, f1⟩ := h.live.grown h.fl hO (fun hn g e => by obtain ⟨g', e', hg, -⟩ := h.fl hn; rw [e] at e'; injection e' with e'; injection e' with e'; exact key (by omega))
  obtain ⟨l2, f2⟩ := h.safe.grown h.fs hO (fun hn g e => by obtain ⟨g', e', hg, -⟩ := h.fs hn; rw [e] at e'; injection e' with e'; injection e' with e'; exact key (by omega))
  obtain ⟨l3, f3⟩ := h.ops.grown h.fo hO (fun hn g e => by obtain ⟨g', e', hg, -⟩ := h.fo hn; rw [e] at e'; injection e' with e'; injection e' with e'; exact key (by omega))
  exact ⟨l1, l2, l3, f1, f2, f3, h.nLS, h.nLO, h.nSO⟩
theorem LiveR.only {R base : Nat} {W W' : World} {u : Value} {xs : List Fl} (h : LiveR W base u xs) (hR : R < base) (hO : Only R W W') : LiveR W' base u xs := by
  rcases h with h | ⟨h1, h2 | ⟨g, e, h3, h4⟩⟩
  · refine .inl (h.kept hO ?_)
    cases e3 : u.ownBlock with
    | none => exact .inl rfl
    | some k => right; have := (h.lt k e3).1; intro e4; injection e4 with e4; omega
  · exact .inr ⟨h1, .inl h2⟩
  · exact .inr ⟨h1, .inr ⟨g, e, by rw [hO.block g (Array.getElem?_eq_some_iff.1 h3).1 (fun e => by injection e with e; omega)]; exact h3, h4⟩⟩
theorem LiveR.blk {base : Nat} {W : World} {u : Value} {xs : List Fl} (h : LiveR W base u xs) {k : Nat} (hk : u.ownBlock = some k) : base ≤ k ∧ k < W.heap.size := by
  rcases h with h | ⟨h1, rfl | ⟨g, rfl, h3, h4⟩⟩
  · exact h.lt k hk
  · cases hk
  · simp only [Value.ownBlock, Option.some.injEq] at hk
    subst hk
    exact ⟨h4, (Array.getElem?_eq_some_iff.1 h3).1⟩
theorem Cn.only {R g : Nat} {a b c : Value} {W W' : World} (h : Cn g a b c W) (hg : g ≠ R) (hO : Only R W W') : Cn g a b c W' :=
  ⟨Nat.lt_of_lt_of_le h.lt hO.size, (hO.cell h.lt hg).trans h.c0, (hO.cell h.lt hg).trans h.c1, (hO.cell h.lt hg).trans h.c2⟩
theorem Bx.only {R base g : Nat} {W W' : World} (h : Bx base g W) (hR : R < base) (hO : Only R W W') : Bx base g W' := by
  obtain ⟨ge, lt, fr, ⟨a, n, c, h0⟩, ⟨b, n1, c1, h1⟩, ⟨d, n2, c2, h2⟩⟩ := h
  have hne : g ≠ R := by omega
  exact ⟨ge, Nat.lt_of_lt_of_le lt hO.size, fun j => (hO.frozen lt hne).trans (fr j), ⟨a, n, c, (hO.cell lt hne).trans h0⟩, ⟨b, n1, c1, (hO.cell lt hne).trans h1⟩, ⟨d, n2, c2, (hO.cell lt hne).trans h2⟩⟩
theorem below_set3 {B : Nat} {w : World} {n : Nat} (hn : B ≤ n) (v0 v1 v2 : Value) : Below B w (((w.setCell ⟨n, 0, none⟩ v0).setCell ⟨n, 1, none⟩ v1).setCell ⟨n, 2, none⟩ v2) :=
  (((Below.refl B w).setCell (p := ⟨n, 0, none⟩) hn _).setCell (p := ⟨n, 1, none⟩) hn _).setCell (p := ⟨n, 2, none⟩) hn _
/-- what is synced is right -/
theorem sync_ok {ls ss : List Fl} {os : List Dop} (h : diskB ls ss os = true) : diskB ls ls [] = true := by
  have h1 := (diskB_facts h).1
  simp only [diskB, h1, Bool.true_and, List.length_nil]
  show (decide (0 ≤ 200) && sameB ls ls) = true
  rw [same_refl]; rfl
/-- the answer's box, the disk's own box, the disk's rows, the reader -/
structure DS (w : World) (R : Nat) (ad : Option Addr) (len cap : Nat) (a1 a2 a3 : Option Addr) (p1 p2 p3 : Nat) (ls ss : List Fl) (os : List Dop) (W : World) : Prop where
  rd : Rd W R ad len cap
  on : Only R w W
  rs : Cn w.heap.size (.slice none 0 0) (.slice none 0 0) (.slice none 0 0) W
  rf : Free W w.heap.size
  db : Cn (w.heap.size + 1) (.slice a1 ls.length p1) (.slice a2 ss.length p2) (.slice a3 os.length p3) W
  df : Free W (w.heap.size + 1)
  own : OwnD W (w.heap.size + 2) a1 a2 a3 ls ss os
  nil : Nils a1 a2 p1 p2
  lv : LiveR W (w.heap.size + 2) (.slice a1 ls.length p1) ls
  ok : diskB ls ss os = true
  sm : ∀ o ∈ os, o.small
  la : LA (.slice a1 ls.length p1) (.slice a2 ss.length p2) (.slice a3 os.length p3) ss os
  oc : OC (.slice a3 os.length p3)
  by0 : 0 < len → ∀ b off, ad = some ⟨b, off, none⟩ → b < w.heap.size
section
variable {w : World} {R : Nat} {ad : Option Addr} {len cap : Nat} {a1 a2 a3 b1 b2 b3 : Option Addr} {p1 p2 p3 q1 q2 q3 : Nat} {ls ss ys zs : List Fl} {os us : List Dop} {W W' : World}
theorem DS.only (h : DS w R ad len cap a1 a2 a3 p1 p2 p3 ls ss os W) (hR : R < w.heap.size) (hRd : Rd W' R ad len cap) (hO : Only R W W') : DS w R ad len cap a1 a2 a3 p1 p2 p3 ls ss os W' :=
  ⟨hRd, h.on.trans hO, h.rs.only (by omega) hO, fun j => (hO.frozen h.rs.lt (by omega)).trans (h.rf j), h.db.only (by omega) hO, fun j => (hO.frozen h.db.lt (by omega)).trans (h.df j), h.own.only (by omega) hO, h.nil, h.lv.only (by omega) hO, h.ok, h.sm, h.la, h.oc, h.by0⟩
theorem DS.later (h : DS w R ad len cap a1 a2 a3 p1 p2 p3 ls ss os W) (hB : Below W.heap.size W W') : DS w R ad len cap a1 a2 a3 p1 p2 p3 ls ss os W' :=
  ⟨h.rd.below hB, h.on.below hB, h.rs.later hB, fun j => keptF hB h.rs.lt (h.rf j), h.db.later hB, fun j => keptF hB h.db.lt (h.df j), h.own.below hB, h.nil, h.lv.below hB, h.ok, h.sm, h.la, h.oc, h.by0⟩
theorem DS.dk (h : DS w R ad len cap a1 a2 a3 p1 p2 p3 ls ss os W) : Dk W a1 a2 a3 ls ss os W := own_dk h.own
theorem DS.fl (h : DS w R ad len cap a1 a2 a3 p1 p2 p3 ls ss os W) : ls.length ≤ 60 ∧ ∀ f ∈ ls, f.n.size ≤ maxLen ∧ f.d.size ≤ 4194304 := by
  obtain ⟨h1, h2⟩ := filesB_facts (diskB_facts h.ok).1
  exact ⟨h1, fun f hf => ⟨(h2 f hf).1, by have := (h2 f hf).2; omega⟩⟩
theorem DS.fs (h : DS w R ad len cap a1 a2 a3 p1 p2 p3 ls ss os W) : ss.length ≤ 60 ∧ ∀ f ∈ ss, f.n.size ≤ maxLen ∧ f.d.size ≤ 4194304 := by
  obtain ⟨h1, h2⟩ := filesB_facts (diskB_facts h.ok).2.1
  exact ⟨h1, fun f hf => ⟨(h2 f hf).1, by have := (h2 f hf).2; omega⟩⟩
theorem DS.fo (h : DS w R ad len cap a1 a2 a3 p1 p2 p3 ls ss os W) : os.length ≤ 200 := (diskB_facts h.ok).2.2
/-- another disk is put into the disk's box -/
theorem DS.put (h : DS w R ad len cap a1 a2 a3 p1 p2 p3 ls ss os W) (hR : R < w.heap.size) (hO : OwnD W (w.heap.size + 2) b1 b2 b3 ys zs us) (hN : Nils b1 b2 q1 q2) (hL : LiveR W (w.heap.size + 2) (.slice b1 ys.length q1) ys) (hok : diskB ys zs us = true) (hsm : ∀ o ∈ us, o.small) (hla : LA (.slice b1 ys.length q1) (.slice b2 zs.length q2) (.slice b3 us.length q3) zs us) (hoc : OC (.slice b3 us.length q3)) :
    DS w R ad len cap b1 b2 b3 q1 q2 q3 ys zs us (((W.setCell ⟨w.heap.size + 1, 0, none⟩ (.slice b1 ys.length q1)).setCell ⟨w.heap.size + 1, 1, none⟩ (.slice b2 zs.length q2)).setCell ⟨w.heap.size + 1, 2, none⟩ (.slice b3 us.length q3)) := by
  have hc : Chg (fun y => y = w.heap.size + 1) W (((W.setCell ⟨w.heap.size + 1, 0, none⟩ (.slice b1 ys.length q1)).setCell ⟨w.heap.size + 1, 1, none⟩ (.slice b2 zs.length q2)).setCell ⟨w.heap.size + 1, 2, none⟩ (.slice b3 us.length q3)) := ((Chg.set (S := fun y => y = w.heap.size + 1) _ rfl).trans (Chg.set (S := fun y => y = w.heap.size + 1) _ rfl)).trans (Chg.set (S := fun y => y = w.heap.size + 1) _ rfl)
  have hb : Below w.heap.size W (((W.setCell ⟨w.heap.size + 1, 0, none⟩ (.slice b1 ys.length q1)).setCell ⟨w.heap.size + 1, 1, none⟩ (.slice b2 zs.length q2)).setCell ⟨w.heap.size + 1, 2, none⟩ (.slice b3 us.length q3)) := (((Below.refl _ W).setCell (p := ⟨w.heap.size + 1, 0, none⟩) (by simp) _).setCell (p := ⟨w.heap.size + 1, 1, none⟩) (by simp) _).setCell (p := ⟨w.heap.size + 1, 2, none⟩) (by simp) _
  obtain ⟨lt, h0, h1, h2⟩ := h.db
  refine ⟨?_, h.on.far hb, h.rs.chg hc (by omega), hc.free _ h.rs.lt h.rf, ⟨Nat.lt_of_lt_of_le lt hc.size, ?_, ?_, ?_⟩, hc.free _ lt h.df, hO.chg hc (fun g hg e => by have := (hO.inD hg).1; omega), hN, ((hL.set (by omega) 0 _).set (by omega) 1 _).set (by omega) 2 _, hok, hsm, hla, hoc, h.by0⟩
  · have hRd := h.rd
    refine ⟨Nat.lt_of_lt_of_le hRd.lt hc.size, (hc.cell hRd.lt (by omega)).trans hRd.code, ?_, ?_, fun h0 => ?_, hRd.small⟩
    · obtain ⟨p, hp, hl⟩ := hRd.place; exact ⟨p, (hc.cell hRd.lt (by omega)).trans hp, hl⟩
    · rw [hb.frozen (p := ⟨R, 1, none⟩) hR]; exact hRd.free
    · obtain ⟨b, off, e, hne, hbl, hcc⟩ := hRd.bytes h0
      have hb1 : b ≠ w.heap.size + 1 := by have := h.by0 h0 b off e; omega
      exact ⟨b, off, e, hne, Nat.lt_of_lt_of_le hbl hc.size, fun i hi => by obtain ⟨c, x0, x1, hx⟩ := hcc i hi; exact ⟨c, x0, x1, (hc.cell hbl hb1).trans hx⟩⟩
  · rw [setO' (by omega), setO' (by omega)]; exact setS' h0
  · rw [setO' (by omega)]; exact setS' (by rw [setO' (by omega)]; exact h1)
  · exact setS' (by rw [setO' (by omega), setO' (by omega)]; exact h2)
end
end Go.Proofs.Ytbfimfmfdllejaa
