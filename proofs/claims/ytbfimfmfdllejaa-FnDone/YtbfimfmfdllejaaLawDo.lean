/- What the law of Do carries along: boxes at known places. -/
import Derived.Test.YtbfimfmfdllejaaDoBox
namespace Go.Proofs.Ytbfimfmfdllejaa
open Go.ChangeShapes Go.WideShapes Go.ChangeAt Go.RowKit Go.Maps

/-- three lists in a box -/
structure Cn (g : Nat) (a b c : Value) (W : World) : Prop where
  lt : g < W.heap.size
  c0 : W.cell? ⟨g, 0, none⟩ = some a
  c1 : W.cell? ⟨g, 1, none⟩ = some b
  c2 : W.cell? ⟨g, 2, none⟩ = some c
theorem Cn.later {g : Nat} {a b c : Value} {W W' : World} (h : Cn g a b c W) (hB : Below W.heap.size W W') : Cn g a b c W' :=
  ⟨Nat.lt_of_lt_of_le h.lt hB.size, kept hB h.lt h.c0, kept hB h.lt h.c1, kept hB h.lt h.c2⟩
theorem Cn.chg {S : Nat → Prop} {g : Nat} {a b c : Value} {W W' : World} (h : Cn g a b c W) (hC : Chg S W W') (hn : ¬ S g) : Cn g a b c W' :=
  ⟨Nat.lt_of_lt_of_le h.lt hC.size, (hC.cell h.lt hn).trans h.c0, (hC.cell h.lt hn).trans h.c1, (hC.cell h.lt hn).trans h.c2⟩
theorem cn_new (w : World) (a b c : Value) (t : TypeId) : Cn w.heap.size a b c (w.alloc (.cells #[a, b, c] t)) := by
  refine ⟨?_, ?_, ?_, ?_⟩ <;> simp
structure LN (w : World) (g4 g5 g6 : Nat) (x0 x1 x2 : Value) (o : Dop) (y0 y1 y2 u0 u1 u2 v0 v1 v2 : Value) (a1 a2 a3 : Option Addr) (ys zs : List Fl) (us : List Dop) (W : World) : Prop where
  c1 : BxO w x0 x1 x2 o W
  c4 : Cn g4 y0 y1 y2 W
  c5 : Cn g5 u0 u1 u2 W
  c6 : Cn g6 v0 v1 v2 W
  bel : Below w.heap.size w W
  own : OwnD W 0 a1 a2 a3 ys zs us
section
variable {w W W' : World} {g4 g5 g6 : Nat} {o : Dop} {x0 x1 x2 y0 y1 y2 u0 u1 u2 v0 v1 v2 : Value} {a1 a2 a3 : Option Addr} {ys zs : List Fl} {us : List Dop}
theorem LN.later (h : LN w g4 g5 g6 x0 x1 x2 o y0 y1 y2 u0 u1 u2 v0 v1 v2 a1 a2 a3 ys zs us W) (hB : Below W.heap.size W W') : LN w g4 g5 g6 x0 x1 x2 o y0 y1 y2 u0 u1 u2 v0 v1 v2 a1 a2 a3 ys zs us W' :=
  ⟨h.c1.later hB, h.c4.later hB, h.c5.later hB, h.c6.later hB, h.bel.trans (hB.mono h.bel.size), h.own.below hB⟩
theorem LN.chg {S : Nat → Prop} (h : LN w g4 g5 g6 x0 x1 x2 o y0 y1 y2 u0 u1 u2 v0 v1 v2 a1 a2 a3 ys zs us W) (hC : Chg S W W') (hs : ∀ g, S g → w.heap.size + 1 < g ∧ g ≠ g4 ∧ g ≠ g5 ∧ g ≠ g6 ∧ ¬ InD a1 a2 a3 ys zs us g) :
    LN w g4 g5 g6 x0 x1 x2 o y0 y1 y2 u0 u1 u2 v0 v1 v2 a1 a2 a3 ys zs us W' :=
  ⟨h.c1.chg hC (fun g hg => (hs g hg).1), h.c4.chg hC (fun e => (hs _ e).2.1 rfl), h.c5.chg hC (fun e => (hs _ e).2.2.1 rfl), h.c6.chg hC (fun e => (hs _ e).2.2.2.1 rfl),
    h.bel.trans (hC.below (fun g hg => by have := (hs g hg).1; omega) h.bel.size), h.own.chg hC (fun g hg e => (hs g e).2.2.2.2 hg)⟩
end
/-- the two calls of Do, their answers under names -/
def DoC (f : Nat) (o : Dop) (ls ss : List Fl) (os : List Dop) (ys zs : List Fl) (us : List Dop) (cc : Int) : Prop :=
  ∀ (adL adS adO : Option Addr) (capL capS capO : Nat) (w : World), Dk w adL adS adO ls ss os w → (adL = none → capL = 0) → (adS = none → capS = 0) →
    Calls Try.prog f #[.agg #[.slice adL ls.length capL, .slice adS ss.length capS, .slice adO os.length capO], .agg #[.int .i64 o.k, .string o.n, .string o.t, .string o.d]] w (ActTo w ys zs us cc)
theorem dL_len {ls ss : List Fl} {os : List Dop} {o : Dop} (h : ls.length ≤ 1048576) : (dL ls ss os o).length ≤ 1048576 := by
  unfold dL
  split
  · unfold actL
    split
    · rename_i h1 h2
      have h3 : filesB (doF ls o).1 = true := by
        unfold actC at h2
        split at h2
        · cases h2
        · split at h2
          · cases h2
          · split at h2
            · cases h2
            · rename_i h4
              cases hf : filesB (doF ls o).1 with
              | true => rfl
              | false => exact absurd (.inr hf) h4
      have := (filesB_facts h3).1
      omega
    · exact h
  · exact Nat.zero_le _
theorem dS_len' {ls ss : List Fl} {os : List Dop} (h : ss.length ≤ 1048576) : (dS ls ss os).length ≤ 1048576 := by
  unfold dS
  split
  · exact h
  · exact Nat.zero_le _
theorem dO_len {ls ss : List Fl} {os : List Dop} {o : Dop} : (dO ls ss os o).length ≤ 1048576 := by
  unfold dO
  split
  · rename_i h
    have := (diskB_facts h).2.2
    unfold actO
    split
    · simp; omega
    · omega
  · exact Nat.zero_le _
end Go.Proofs.Ytbfimfmfdllejaa
