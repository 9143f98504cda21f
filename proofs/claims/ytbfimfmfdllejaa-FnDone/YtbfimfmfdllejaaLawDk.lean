/- What the laws over answered disks carry along: the boxes of the argument, of the specification's answer, of the copy and of the program's answer. -/
import Derived.Test.YtbfimfmfdllejaaOwnDk
namespace Go.Proofs.Ytbfimfmfdllejaa
open Go.ChangeShapes Go.WideShapes Go.ChangeAt Go.RowKit Go.Maps

structure LS (w w3 w5 w6 : World) (x0 x1 x2 y0 y1 y2 u0 u1 u2 v0 v1 v2 : Value) (a1 a2 a3 : Option Addr) (ys zs : List Fl) (us : List Dop) (W : World) : Prop where
  c1 : Cl w x0 x1 x2 W
  c4 : Cl w3 y0 y1 y2 W
  c5 : Cl w5 u0 u1 u2 W
  c6 : Cl w6 v0 v1 v2 W
  bel : Below w.heap.size w W
  own : OwnD W 0 a1 a2 a3 ys zs us
section
variable {w w3 w5 w6 W W' : World} {x0 x1 x2 y0 y1 y2 u0 u1 u2 v0 v1 v2 : Value} {a1 a2 a3 : Option Addr} {ys zs : List Fl} {us : List Dop}
theorem LS.later (h : LS w w3 w5 w6 x0 x1 x2 y0 y1 y2 u0 u1 u2 v0 v1 v2 a1 a2 a3 ys zs us W) (hB : Below W.heap.size W W') : LS w w3 w5 w6 x0 x1 x2 y0 y1 y2 u0 u1 u2 v0 v1 v2 a1 a2 a3 ys zs us W' :=
  ⟨h.c1.later hB, h.c4.later hB, h.c5.later hB, h.c6.later hB, h.bel.trans (hB.mono h.bel.size), h.own.below hB⟩
theorem LS.chg {S : Nat → Prop} (h : LS w w3 w5 w6 x0 x1 x2 y0 y1 y2 u0 u1 u2 v0 v1 v2 a1 a2 a3 ys zs us W) (hC : Chg S W W') (hs : ∀ g, S g → w.heap.size < g ∧ g ≠ w3.heap.size ∧ g ≠ w5.heap.size ∧ g ≠ w6.heap.size ∧ ¬ InD a1 a2 a3 ys zs us g) :
    LS w w3 w5 w6 x0 x1 x2 y0 y1 y2 u0 u1 u2 v0 v1 v2 a1 a2 a3 ys zs us W' :=
  ⟨cl_chg h.c1 hC (fun e => by have := (hs _ e).1; omega), cl_chg h.c4 hC (fun e => (hs _ e).2.1 rfl), cl_chg h.c5 hC (fun e => (hs _ e).2.2.1 rfl), cl_chg h.c6 hC (fun e => (hs _ e).2.2.2.1 rfl),
    h.bel.trans (hC.below (fun g hg => Nat.le_of_lt (hs g hg).1) h.bel.size), h.own.chg hC (fun g hg e => (hs g e).2.2.2.2 hg)⟩
end
theorem keepD {w w5 w' w'' : World} {a b c d e f : Value}
    (h : w'.cell? ⟨w.heap.size, 0, none⟩ = some a ∧ w'.cell? ⟨w.heap.size, 1, none⟩ = some b ∧ w'.cell? ⟨w.heap.size, 2, none⟩ = some c ∧ w'.cell? ⟨w5.heap.size, 0, none⟩ = some d ∧ w'.cell? ⟨w5.heap.size, 1, none⟩ = some e ∧ w'.cell? ⟨w5.heap.size, 2, none⟩ = some f ∧ w.heap.size < w'.heap.size ∧ w5.heap.size < w'.heap.size) (hB : Below w'.heap.size w' w'') :
    w''.cell? ⟨w.heap.size, 0, none⟩ = some a ∧ w''.cell? ⟨w.heap.size, 1, none⟩ = some b ∧ w''.cell? ⟨w.heap.size, 2, none⟩ = some c ∧ w''.cell? ⟨w5.heap.size, 0, none⟩ = some d ∧ w''.cell? ⟨w5.heap.size, 1, none⟩ = some e ∧ w''.cell? ⟨w5.heap.size, 2, none⟩ = some f ∧ w.heap.size < w''.heap.size ∧ w5.heap.size < w''.heap.size := by
  obtain ⟨h0, h1, h2, h3, h4, h5, l1, l2⟩ := h
  exact ⟨kept hB l1 h0, kept hB l1 h1, kept hB l1 h2, kept hB l2 h3, kept hB l2 h4, kept hB l2 h5, Nat.lt_of_lt_of_le l1 hB.size, Nat.lt_of_lt_of_le l2 hB.size⟩
theorem own_dk {W : World} {base : Nat} {adL adS adO : Option Addr} {ls ss : List Fl} {os : List Dop} (h : OwnD W base adL adS adO ls ss os) : Dk W adL adS adO ls ss os W := ⟨Below.refl _ _, h.live, h.safe, h.ops⟩
/-- the boxes of a disk and of an op -/
structure BxO (w : World) (a b c : Value) (o : Dop) (W : World) : Prop where
  z0 : W.cell? ⟨w.heap.size, 0, none⟩ = some a
  z1 : W.cell? ⟨w.heap.size, 1, none⟩ = some b
  z2 : W.cell? ⟨w.heap.size, 2, none⟩ = some c
  o0 : W.cell? ⟨w.heap.size + 1, 0, none⟩ = some (.int .i64 o.k)
  o1 : W.cell? ⟨w.heap.size + 1, 1, none⟩ = some (.string o.n)
  o2 : W.cell? ⟨w.heap.size + 1, 2, none⟩ = some (.string o.t)
  o3 : W.cell? ⟨w.heap.size + 1, 3, none⟩ = some (.string o.d)
  sz : w.heap.size + 2 ≤ W.heap.size
theorem BxO.later {w W W' : World} {a b c : Value} {o : Dop} (h : BxO w a b c o W) (hB : Below W.heap.size W W') : BxO w a b c o W' := by
  obtain ⟨z0, z1, z2, o0, o1, o2, o3, sz⟩ := h
  exact ⟨kept hB (by omega) z0, kept hB (by omega) z1, kept hB (by omega) z2, kept hB (by omega) o0, kept hB (by omega) o1, kept hB (by omega) o2, kept hB (by omega) o3, Nat.le_trans sz hB.size⟩
theorem BxO.chg {S : Nat → Prop} {w W W' : World} {a b c : Value} {o : Dop} (h : BxO w a b c o W) (hC : Chg S W W') (hs : ∀ g, S g → w.heap.size + 1 < g) : BxO w a b c o W' := by
  obtain ⟨z0, z1, z2, o0, o1, o2, o3, sz⟩ := h
  have n0 : ¬ S w.heap.size := fun h => by have := hs _ h; omega
  have n1 : ¬ S (w.heap.size + 1) := fun h => by have := hs _ h; omega
  exact ⟨(hC.cell (by omega) n0).trans z0, (hC.cell (by omega) n0).trans z1, (hC.cell (by omega) n0).trans z2, (hC.cell (by omega) n1).trans o0, (hC.cell (by omega) n1).trans o1, (hC.cell (by omega) n1).trans o2, (hC.cell (by omega) n1).trans o3, Nat.le_trans sz hC.size⟩
theorem bxO_new (w : World) (a b c : Value) (o : Dop) (t t' : TypeId) : BxO w a b c o ((w.alloc (.cells #[a, b, c] t)).alloc (.cells #[.int .i64 o.k, .string o.n, .string o.t, .string o.d] t')) := by
  have b1 : Below (w.alloc (.cells #[a, b, c] t)).heap.size (w.alloc (.cells #[a, b, c] t)) ((w.alloc (.cells #[a, b, c] t)).alloc (.cells #[.int .i64 o.k, .string o.n, .string o.t, .string o.d] t')) := (Below.refl _ _).alloc (Nat.le_refl _) _
  have h0 : ∀ i v, #[a, b, c][i]? = some v → (w.alloc (.cells #[a, b, c] t)).cell? ⟨w.heap.size, i, none⟩ = some v := fun i v h => by
    have := World.cell?_alloc_mark w #[a, b, c] t (0, 0) i
    rw [h] at this; exact this
  have h1 : ∀ i v, #[Value.int .i64 o.k, .string o.n, .string o.t, .string o.d][i]? = some v → ((w.alloc (.cells #[a, b, c] t)).alloc (.cells #[.int .i64 o.k, .string o.n, .string o.t, .string o.d] t')).cell? ⟨w.heap.size + 1, i, none⟩ = some v := fun i v h => by
    have := World.cell?_alloc_mark (w.alloc (.cells #[a, b, c] t)) #[Value.int .i64 o.k, .string o.n, .string o.t, .string o.d] t' (0, 0) i
    rw [World.size_alloc, h] at this; exact this
  have l1 : w.heap.size < (w.alloc (.cells #[a, b, c] t)).heap.size := by simp only [World.size_alloc]; omega
  exact ⟨kept b1 l1 (h0 0 _ rfl), kept b1 l1 (h0 1 _ rfl), kept b1 l1 (h0 2 _ rfl), h1 0 _ rfl, h1 1 _ rfl, h1 2 _ rfl, h1 3 _ rfl, by simp only [World.size_alloc]; omega⟩
end Go.Proofs.Ytbfimfmfdllejaa
