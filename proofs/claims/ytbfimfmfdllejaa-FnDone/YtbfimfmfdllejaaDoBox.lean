/- A statement 'next, code := Do(disk, op)' whose order is drawn: the box of the new disk may be laid at any time. -/
import Derived.Test.YtbfimfmfdllejaaActDk2
import Derived.Test.YtbfimfmfdllejaaLawDk
import Derived.Test.YtbfimfmfdllejaaRegionFrame
namespace Go.Proofs.Ytbfimfmfdllejaa
open Go.ChangeShapes Go.WideShapes Go.ChangeAt Go.RowKit Go.Maps
set_option linter.unusedVariables false

/-- a box of three lists -/
structure Bx (base g : Nat) (W : World) : Prop where
  ge : base ≤ g
  lt : g < W.heap.size
  fr : Free W g
  c0 : ∃ a n c, W.cell? ⟨g, 0, none⟩ = some (.slice a n c)
  c1 : ∃ a n c, W.cell? ⟨g, 1, none⟩ = some (.slice a n c)
  c2 : ∃ a n c, W.cell? ⟨g, 2, none⟩ = some (.slice a n c)
theorem Bx.later {base g : Nat} {W W' : World} (h : Bx base g W) (hB : Below W.heap.size W W') : Bx base g W' := by
  obtain ⟨ge, lt, fr, ⟨a, n, c, h0⟩, ⟨a1, n1, c1, h1⟩, ⟨a2, n2, c2, h2⟩⟩ := h
  exact ⟨ge, Nat.lt_of_lt_of_le lt hB.size, fun j => keptF hB lt (fr j), ⟨_, _, _, kept hB lt h0⟩, ⟨_, _, _, kept hB lt h1⟩, ⟨_, _, _, kept hB lt h2⟩⟩
/-- a box is none of the rows of a disk: it holds lists -/
theorem Bx.not {base b' g : Nat} {W : World} {a1 a2 a3 : Option Addr} {ys zs : List Fl} {us : List Dop} (h : Bx base g W) (hO : OwnD W b' a1 a2 a3 ys zs us) : ¬ InD a1 a2 a3 ys zs us g := by
  obtain ⟨a, n, c, h0⟩ := h.c0
  have key : ∀ {xs : List Fl} {ad : Option Addr}, SlF W ad xs → xs ≠ [] → ad ≠ some ⟨g, 0, none⟩ := fun hs hn e => by
    subst e
    rcases hs with hs | ⟨b, off, e, hb, hr⟩
    · exact hn hs
    · injection e with e; injection e with e1 e2
      subst e1; subst e2
      have := (hr 0 (List.length_pos_iff.2 hn)).1
      rw [Nat.zero_mul, Nat.zero_add, h0] at this
      cases this
  rintro (⟨hn, e⟩ | ⟨hn, e⟩ | ⟨hn, e⟩)
  · exact key hO.live hn e
  · exact key hO.safe hn e
  · subst e
    rcases hO.ops with hs | ⟨b, off, e, hb, hr⟩
    · exact hn hs
    · injection e with e; injection e with e1 e2
      subst e1; subst e2
      have := (hr 0 (List.length_pos_iff.2 hn)).1
      rw [Nat.zero_mul, Nat.zero_add, h0] at this
      cases this
def AnsD (base : Nat) (c : Int) (ys zs : List Fl) (us : List Dop) (v : Value) (W : World) : Prop := ∃ (a1 a2 a3 : Option Addr) (p1 p2 p3 : Nat), v = .tuple #[.agg #[.slice a1 ys.length p1, .slice a2 zs.length p2, .slice a3 us.length p3], .int .i64 c] ∧ OwnD W base a1 a2 a3 ys zs us ∧ Nils a1 a2 p1 p2
theorem AnsD.later {base : Nat} {c : Int} {ys zs : List Fl} {us : List Dop} {v : Value} {W W' : World} (h : AnsD base c ys zs us v W) (hB : Below W.heap.size W W') : AnsD base c ys zs us v W' := by
  obtain ⟨a1, a2, a3, p1, p2, p3, e, hO, hN⟩ := h
  exact ⟨a1, a2, a3, p1, p2, p3, e, hO.below hB, hN⟩
/-- the box holds the answer -/
def DonD (base : Nat) (c : Int) (ys zs : List Fl) (us : List Dop) (v u : Value) (W : World) : Prop := ∃ (a1 a2 a3 : Option Addr) (p1 p2 p3 g : Nat), v = .tuple #[.agg #[.slice a1 ys.length p1, .slice a2 zs.length p2, .slice a3 us.length p3], .int .i64 c] ∧ OwnD W base a1 a2 a3 ys zs us ∧ Nils a1 a2 p1 p2 ∧ u = .pointer (some ⟨g, 0, none⟩) ∧ Bx base g W ∧ W.cell? ⟨g, 0, none⟩ = some (.slice a1 ys.length p1) ∧ W.cell? ⟨g, 1, none⟩ = some (.slice a2 zs.length p2) ∧ W.cell? ⟨g, 2, none⟩ = some (.slice a3 us.length p3)
theorem DonD.later {base : Nat} {c : Int} {ys zs : List Fl} {us : List Dop} {v u : Value} {W W' : World} (h : DonD base c ys zs us v u W) (hB : Below W.heap.size W W') : DonD base c ys zs us v u W' := by
  obtain ⟨a1, a2, a3, p1, p2, p3, g, e, hO, hN, e2, hx, h0, h1, h2⟩ := h
  exact ⟨a1, a2, a3, p1, p2, p3, g, e, hO.below hB, hN, e2, hx.later hB, kept hB hx.lt h0, kept hB hx.lt h1, kept hB hx.lt h2⟩

/-- what holds of what has come up: L the argument's load, D its copy, O the op's load, P its copy, R the call, M, E, C its parts, A the box, S the store -/
structure II (DOK : Value → World → Prop) (AD OV : Value) (G : World → Prop) (base : Nat) (c : Int) (ys zs : List Fl) (us : List Dop) (lL lD lO lP lR lM lE lC lA lS : Bool) (xL xD xO xP xR xM xE xC xA : Value) (W : World) : Prop where
  bel : G W ∧ base ≤ W.heap.size
  fL : lL = true → xL = AD
  fD : lD = true → lR = false → DOK xD W
  fO : lO = true → xO = OV
  fP : lP = true → xP = OV
  ans : lR = true → AnsD base c ys zs us xR W
  fM : lM = true → lR = true ∧ xM = xR
  fE : lE = true → lR = true ∧ ∃ y, xR = .tuple #[xE, y]
  fC : lC = true → xC = .int .i64 c
  box : lA = true → ∃ g, xA = .pointer (some ⟨g, 0, none⟩) ∧ Bx base g W
  don : lS = true → lR = true ∧ lA = true ∧ DonD base c ys zs us xR xA W
section
variable {DOK : Value → World → Prop} {AD OV : Value} {G : World → Prop} {base : Nat} {c : Int} {ys zs : List Fl} {us : List Dop} {lL lD lO lP lR lM lE lC lA lS : Bool} {xL xD xO xP xR xM xE xC xA v : Value} {W W' : World}
theorem II.later (h : II DOK AD OV G base c ys zs us lL lD lO lP lR lM lE lC lA lS xL xD xO xP xR xM xE xC xA W) (hst : ∀ u, DOK u W → DOK u W') (hB : Below W.heap.size W W') (hG : G W') : II DOK AD OV G base c ys zs us lL lD lO lP lR lM lE lC lA lS xL xD xO xP xR xM xE xC xA W' :=
  ⟨⟨hG, Nat.le_trans h.bel.2 hB.size⟩, h.fL, fun a b => hst _ (h.fD a b), h.fO, h.fP, fun a => (h.ans a).later hB, h.fM, h.fE, h.fC, fun a => by obtain ⟨g, e, hx⟩ := h.box a; exact ⟨g, e, hx.later hB⟩, fun a => ⟨(h.don a).1, (h.don a).2.1, (h.don a).2.2.later hB⟩⟩
theorem II.sL (h : II DOK AD OV G base c ys zs us lL lD lO lP lR lM lE lC lA lS xL xD xO xP xR xM xE xC xA W) : II DOK AD OV G base c ys zs us true lD lO lP lR lM lE lC lA lS AD xD xO xP xR xM xE xC xA W :=
  ⟨h.bel, fun _ => rfl, h.fD, h.fO, h.fP, h.ans, h.fM, h.fE, h.fC, h.box, h.don⟩
theorem II.sD (h : II DOK AD OV G base c ys zs us lL lD lO lP lR lM lE lC lA lS xL xD xO xP xR xM xE xC xA W) (hv : DOK v W) : II DOK AD OV G base c ys zs us lL true lO lP lR lM lE lC lA lS xL v xO xP xR xM xE xC xA W :=
  ⟨h.bel, h.fL, fun _ _ => hv, h.fO, h.fP, h.ans, h.fM, h.fE, h.fC, h.box, h.don⟩
theorem II.sO (h : II DOK AD OV G base c ys zs us lL lD lO lP lR lM lE lC lA lS xL xD xO xP xR xM xE xC xA W) : II DOK AD OV G base c ys zs us lL lD true lP lR lM lE lC lA lS xL xD OV xP xR xM xE xC xA W :=
  ⟨h.bel, h.fL, h.fD, fun _ => rfl, h.fP, h.ans, h.fM, h.fE, h.fC, h.box, h.don⟩
theorem II.sP (h : II DOK AD OV G base c ys zs us lL lD lO lP lR lM lE lC lA lS xL xD xO xP xR xM xE xC xA W) : II DOK AD OV G base c ys zs us lL lD lO true lR lM lE lC lA lS xL xD xO OV xR xM xE xC xA W :=
  ⟨h.bel, h.fL, h.fD, h.fO, fun _ => rfl, h.ans, h.fM, h.fE, h.fC, h.box, h.don⟩
theorem II.sR (hR : lR = false) (h : II DOK AD OV G base c ys zs us lL lD lO lP lR lM lE lC lA lS xL xD xO xP xR xM xE xC xA W) (hB : Below W.heap.size W W') (hG : G W') (hv : AnsD base c ys zs us v W') : II DOK AD OV G base c ys zs us lL lD lO lP true lM lE lC lA lS xL xD xO xP v xM xE xC xA W' :=
  by
  subst hR
  exact ⟨⟨hG, Nat.le_trans h.bel.2 hB.size⟩, h.fL, fun _ e => (by cases e), h.fO, h.fP, fun _ => hv, fun a => (by cases (h.fM a).1), fun a => (by cases (h.fE a).1), h.fC, fun a => by obtain ⟨g, e, hx⟩ := h.box a; exact ⟨g, e, hx.later hB⟩, fun a => (by cases (h.don a).1)⟩
theorem II.sM (hR : lR = true) (h : II DOK AD OV G base c ys zs us lL lD lO lP lR lM lE lC lA lS xL xD xO xP xR xM xE xC xA W) : II DOK AD OV G base c ys zs us lL lD lO lP lR true lE lC lA lS xL xD xO xP xR xR xE xC xA W :=
  ⟨h.bel, h.fL, h.fD, h.fO, h.fP, h.ans, fun _ => ⟨hR, rfl⟩, h.fE, h.fC, h.box, h.don⟩
theorem II.sE {y : Value} (hR : lR = true) (h : II DOK AD OV G base c ys zs us lL lD lO lP lR lM lE lC lA lS xL xD xO xP xR xM xE xC xA W) (hv : xR = .tuple #[v, y]) : II DOK AD OV G base c ys zs us lL lD lO lP lR lM true lC lA lS xL xD xO xP xR xM v xC xA W :=
  ⟨h.bel, h.fL, h.fD, h.fO, h.fP, h.ans, h.fM, fun _ => ⟨hR, _, hv⟩, h.fC, h.box, h.don⟩
theorem II.sC (h : II DOK AD OV G base c ys zs us lL lD lO lP lR lM lE lC lA lS xL xD xO xP xR xM xE xC xA W) : II DOK AD OV G base c ys zs us lL lD lO lP lR lM lE true lA lS xL xD xO xP xR xM xE (.int .i64 c) xA W :=
  ⟨h.bel, h.fL, h.fD, h.fO, h.fP, h.ans, h.fM, h.fE, fun _ => rfl, h.box, h.don⟩
theorem II.sA {t : TypeId} (hA : lA = false) (h : II DOK AD OV G base c ys zs us lL lD lO lP lR lM lE lC lA lS xL xD xO xP xR xM xE xC xA W) (hst : ∀ u, DOK u W → DOK u (W.alloc (.cells #[.slice none 0 0, .slice none 0 0, .slice none 0 0] t))) (hG : G (W.alloc (.cells #[.slice none 0 0, .slice none 0 0, .slice none 0 0] t))) :
    II DOK AD OV G base c ys zs us lL lD lO lP lR lM lE lC true lS xL xD xO xP xR xM xE xC (.pointer (some ⟨W.heap.size, 0, none⟩)) (W.alloc (.cells #[.slice none 0 0, .slice none 0 0, .slice none 0 0] t)) := by
  subst hA
  have hB : Below W.heap.size W (W.alloc (.cells #[.slice none 0 0, .slice none 0 0, .slice none 0 0] t)) := (Below.refl _ _).alloc (Nat.le_refl _) _
  refine ⟨⟨hG, Nat.le_trans h.bel.2 hB.size⟩, h.fL, fun a b => hst _ (h.fD a b), h.fO, h.fP, fun a => (h.ans a).later hB, h.fM, h.fE, h.fC, fun _ => ⟨_, rfl, ⟨h.bel.2, by simp, fun k => fz0 _ _ _ k, ⟨none, 0, 0, by simp⟩, ⟨none, 0, 0, by simp⟩, ⟨none, 0, 0, by simp⟩⟩⟩, fun a => (by cases (h.don a).2.1)⟩
/-- the store of the answer into its box -/
theorem II.sS {g : Nat} {a1 a2 a3 : Option Addr} {p1 p2 p3 : Nat} (hR : lR = true) (hA : lA = true) (eR : xR = .tuple #[.agg #[.slice a1 ys.length p1, .slice a2 zs.length p2, .slice a3 us.length p3], .int .i64 c]) (eA : xA = .pointer (some ⟨g, 0, none⟩)) (h : II DOK AD OV G base c ys zs us lL lD lO lP lR lM lE lC lA lS xL xD xO xP xR xM xE xC xA W) (hO : OwnD W base a1 a2 a3 ys zs us) (hN : Nils a1 a2 p1 p2) (hx : Bx base g W)
    (hG : G (((W.setCell ⟨g, 0, none⟩ (.slice a1 ys.length p1)).setCell ⟨g, 1, none⟩ (.slice a2 zs.length p2)).setCell ⟨g, 2, none⟩ (.slice a3 us.length p3))) :
    II DOK AD OV G base c ys zs us lL lD lO lP lR lM lE lC lA true xL xD xO xP xR xM xE xC xA (((W.setCell ⟨g, 0, none⟩ (.slice a1 ys.length p1)).setCell ⟨g, 1, none⟩ (.slice a2 zs.length p2)).setCell ⟨g, 2, none⟩ (.slice a3 us.length p3)) := by
  subst hR hA eR eA
  have hn := hx.not hO
  have hc : Chg (fun y => y = g) W (((W.setCell ⟨g, 0, none⟩ (.slice a1 ys.length p1)).setCell ⟨g, 1, none⟩ (.slice a2 zs.length p2)).setCell ⟨g, 2, none⟩ (.slice a3 us.length p3)) := ((Chg.set (S := fun y => y = g) _ rfl).trans (Chg.set (S := fun y => y = g) _ rfl)).trans (Chg.set (S := fun y => y = g) _ rfl)
  have hO' := hO.chg hc (fun y hy e => hn (by rw [← e]; exact hy))
  obtain ⟨ge, lt, fr, ⟨_, _, _, h0⟩, ⟨_, _, _, h1⟩, ⟨_, _, _, h2⟩⟩ := hx
  have k0 : (((W.setCell ⟨g, 0, none⟩ (.slice a1 ys.length p1)).setCell ⟨g, 1, none⟩ (.slice a2 zs.length p2)).setCell ⟨g, 2, none⟩ (.slice a3 us.length p3)).cell? ⟨g, 0, none⟩ = some (.slice a1 ys.length p1) := by rw [setO' (by omega), setO' (by omega)]; exact setS' h0
  have k1 : (((W.setCell ⟨g, 0, none⟩ (.slice a1 ys.length p1)).setCell ⟨g, 1, none⟩ (.slice a2 zs.length p2)).setCell ⟨g, 2, none⟩ (.slice a3 us.length p3)).cell? ⟨g, 1, none⟩ = some (.slice a2 zs.length p2) := by
    rw [setO' (by omega)]; exact setS' (by rw [setO' (by omega)]; exact h1)
  have k2 : (((W.setCell ⟨g, 0, none⟩ (.slice a1 ys.length p1)).setCell ⟨g, 1, none⟩ (.slice a2 zs.length p2)).setCell ⟨g, 2, none⟩ (.slice a3 us.length p3)).cell? ⟨g, 2, none⟩ = some (.slice a3 us.length p3) :=
    setS' (by rw [setO' (by omega), setO' (by omega)]; exact h2)
  have hx' : Bx base g (((W.setCell ⟨g, 0, none⟩ (.slice a1 ys.length p1)).setCell ⟨g, 1, none⟩ (.slice a2 zs.length p2)).setCell ⟨g, 2, none⟩ (.slice a3 us.length p3)) := ⟨ge, Nat.lt_of_lt_of_le lt hc.size, hc.free g lt fr, ⟨_, _, _, k0⟩, ⟨_, _, _, k1⟩, ⟨_, _, _, k2⟩⟩
  exact ⟨⟨hG, Nat.le_trans h.bel.2 hc.size⟩, h.fL, fun _ e => (by cases e), h.fO, h.fP, fun _ => ⟨_, _, _, _, _, _, rfl, hO', hN⟩, h.fM, h.fE, h.fC, fun _ => ⟨_, rfl, hx'⟩, fun _ => ⟨rfl, rfl, _, _, _, _, _, _, _, rfl, hO', hN, rfl, hx', k0, k1, k2⟩⟩
theorem II.start (hL : lL = true → xL = AD) (hG : G W) (hb : base ≤ W.heap.size) : II DOK AD OV G base c ys zs us lL false false false false false false false false false xL xD xO xP xR xM xE xC xA W :=
  ⟨⟨hG, hb⟩, hL, fun h => (by cases h), fun h => (by cases h), fun h => (by cases h), fun h => (by cases h), fun h => (by cases h), fun h => (by cases h), fun h => (by cases h), fun h => (by cases h), fun h => (by cases h)⟩
end
end Go.Proofs.Ytbfimfmfdllejaa
