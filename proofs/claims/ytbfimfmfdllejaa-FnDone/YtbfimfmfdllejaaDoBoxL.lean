/- A statement 'next, code := Do(disk, op())' whose order is drawn, the op drawn by the reader; the live files of the answer in a row of the call's own. -/
import Derived.Test.YtbfimfmfdllejaaDoBox
import Derived.Test.YtbfimfmfdllejaaSyncDkL
namespace Go.Proofs.Ytbfimfmfdllejaa
open Go.ChangeShapes Go.WideShapes Go.ChangeAt Go.RowKit Go.Maps
set_option linter.unusedVariables false

/-- what more is known of the answer where all is done -/
def LX (W : World) (base : Nat) (a b c : Value) (ys zs : List Fl) (us : List Dop) : Prop := LiveR W base a ys ∧ LA a b c zs us ∧ OC c
theorem LX.below {W W' : World} {base : Nat} {a b c : Value} {ys zs : List Fl} {us : List Dop} (h : LX W base a b c ys zs us) (hB : Below W.heap.size W W') : LX W' base a b c ys zs us := ⟨h.1.below hB, h.2⟩
def AnsL (base : Nat) (c : Int) (ys zs : List Fl) (us : List Dop) (v : Value) (W : World) : Prop := ∃ (a1 a2 a3 : Option Addr) (p1 p2 p3 : Nat), v = .tuple #[.agg #[.slice a1 ys.length p1, .slice a2 zs.length p2, .slice a3 us.length p3], .int .i64 c] ∧ OwnD W base a1 a2 a3 ys zs us ∧ Nils a1 a2 p1 p2 ∧ (c = 0 → LX W base (.slice a1 ys.length p1) (.slice a2 zs.length p2) (.slice a3 us.length p3) ys zs us)
theorem AnsL.later {base : Nat} {c : Int} {ys zs : List Fl} {us : List Dop} {v : Value} {W W' : World} (h : AnsL base c ys zs us v W) (hB : Below W.heap.size W W') : AnsL base c ys zs us v W' := by
  obtain ⟨a1, a2, a3, p1, p2, p3, e, hO, hN, hL⟩ := h
  exact ⟨a1, a2, a3, p1, p2, p3, e, hO.below hB, hN, fun h => (hL h).below hB⟩
/-- the box holds the answer -/
def DonL (base : Nat) (c : Int) (ys zs : List Fl) (us : List Dop) (v u : Value) (W : World) : Prop := ∃ (a1 a2 a3 : Option Addr) (p1 p2 p3 g : Nat), v = .tuple #[.agg #[.slice a1 ys.length p1, .slice a2 zs.length p2, .slice a3 us.length p3], .int .i64 c] ∧ OwnD W base a1 a2 a3 ys zs us ∧ (Nils a1 a2 p1 p2 ∧ (c = 0 → LX W base (.slice a1 ys.length p1) (.slice a2 zs.length p2) (.slice a3 us.length p3) ys zs us)) ∧ u = .pointer (some ⟨g, 0, none⟩) ∧ Bx base g W ∧ W.cell? ⟨g, 0, none⟩ = some (.slice a1 ys.length p1) ∧ W.cell? ⟨g, 1, none⟩ = some (.slice a2 zs.length p2) ∧ W.cell? ⟨g, 2, none⟩ = some (.slice a3 us.length p3)
theorem DonL.later {base : Nat} {c : Int} {ys zs : List Fl} {us : List Dop} {v u : Value} {W W' : World} (h : DonL base c ys zs us v u W) (hB : Below W.heap.size W W') : DonL base c ys zs us v u W' := by
  obtain ⟨a1, a2, a3, p1, p2, p3, g, e, hO, ⟨hN, hL⟩, e2, hx, h0, h1, h2⟩ := h
  exact ⟨a1, a2, a3, p1, p2, p3, g, e, hO.below hB, ⟨hN, fun h => (hL h).below hB⟩, e2, hx.later hB, kept hB hx.lt h0, kept hB hx.lt h1, kept hB hx.lt h2⟩

/-- what holds of what has come up: L the argument's load, D its copy, O the op's load, P its copy, R the call, M, E, C its parts, A the box, S the store -/
structure IL (DOK : Value → World → Prop) (AD OV : Value) (G : World → Prop) (base : Nat) (c : Int) (ys zs : List Fl) (us : List Dop) (lL lD lO lP lR lM lE lC lA lS : Bool) (xL xD xO xP xR xM xE xC xA : Value) (W : World) : Prop where
  bel : G W ∧ base ≤ W.heap.size
  fL : lL = true → xL = AD
  fD : lD = true → lR = false → DOK xD W
  fO : lO = true → xO = OV
  fP : lP = true → xP = OV
  ans : lR = true → AnsL base c ys zs us xR W
  fM : lM = true → lR = true ∧ xM = xR
  fE : lE = true → lR = true ∧ ∃ y, xR = .tuple #[xE, y]
  fC : lC = true → lR = true ∧ xC = .int .i64 c
  box : lA = true → ∃ g, xA = .pointer (some ⟨g, 0, none⟩) ∧ Bx base g W
  pr : lR = true → lP = true
  ap : lR = true → lA = true → ∀ a b d y g, xR = .tuple #[.agg #[a, b, d], y] → xA = .pointer (some ⟨g, 0, none⟩) → c = 0 → a.ownBlock ≠ some g
  don : lS = true → lR = true ∧ lA = true ∧ DonL base c ys zs us xR xA W
section
variable {DOK : Value → World → Prop} {AD OV : Value} {G : World → Prop} {base : Nat} {c : Int} {ys zs : List Fl} {us : List Dop} {lL lD lO lP lR lM lE lC lA lS : Bool} {xL xD xO xP xR xM xE xC xA v : Value} {W W' : World}
theorem IL.later (h : IL DOK AD OV G base c ys zs us lL lD lO lP lR lM lE lC lA lS xL xD xO xP xR xM xE xC xA W) (hst : ∀ u, DOK u W → DOK u W') (hB : Below W.heap.size W W') (hG : G W') : IL DOK AD OV G base c ys zs us lL lD lO lP lR lM lE lC lA lS xL xD xO xP xR xM xE xC xA W' :=
  ⟨⟨hG, Nat.le_trans h.bel.2 hB.size⟩, h.fL, fun a b => hst _ (h.fD a b), h.fO, h.fP, fun a => (h.ans a).later hB, h.fM, h.fE, h.fC, fun a => by obtain ⟨g, e, hx⟩ := h.box a; exact ⟨g, e, hx.later hB⟩, h.pr, h.ap, fun a => ⟨(h.don a).1, (h.don a).2.1, (h.don a).2.2.later hB⟩⟩
theorem IL.sL (h : IL DOK AD OV G base c ys zs us lL lD lO lP lR lM lE lC lA lS xL xD xO xP xR xM xE xC xA W) : IL DOK AD OV G base c ys zs us true lD lO lP lR lM lE lC lA lS AD xD xO xP xR xM xE xC xA W :=
  ⟨h.bel, fun _ => rfl, h.fD, h.fO, h.fP, h.ans, h.fM, h.fE, h.fC, h.box, h.pr, h.ap, h.don⟩
theorem IL.sD (h : IL DOK AD OV G base c ys zs us lL lD lO lP lR lM lE lC lA lS xL xD xO xP xR xM xE xC xA W) (hv : DOK v W) : IL DOK AD OV G base c ys zs us lL true lO lP lR lM lE lC lA lS xL v xO xP xR xM xE xC xA W :=
  ⟨h.bel, h.fL, fun _ _ => hv, h.fO, h.fP, h.ans, h.fM, h.fE, h.fC, h.box, h.pr, h.ap, h.don⟩
theorem IL.sO (h : IL DOK AD OV G base c ys zs us lL lD lO lP lR lM lE lC lA lS xL xD xO xP xR xM xE xC xA W) : IL DOK AD OV G base c ys zs us lL lD true lP lR lM lE lC lA lS xL xD OV xP xR xM xE xC xA W :=
  ⟨h.bel, h.fL, h.fD, fun _ => rfl, h.fP, h.ans, h.fM, h.fE, h.fC, h.box, h.pr, h.ap, h.don⟩
theorem IL.sP (h : IL DOK AD OV G base c ys zs us lL lD lO lP lR lM lE lC lA lS xL xD xO xP xR xM xE xC xA W) : IL DOK AD OV G base c ys zs us lL lD lO true lR lM lE lC lA lS xL xD xO OV xR xM xE xC xA W :=
  ⟨h.bel, h.fL, h.fD, h.fO, fun _ => rfl, h.ans, h.fM, h.fE, h.fC, h.box, fun _ => rfl, h.ap, h.don⟩
theorem IL.sR (hR : lR = false) (h : IL DOK AD OV G base c ys zs us lL lD lO lP lR lM lE lC lA lS xL xD xO xP xR xM xE xC xA W) (hB : Below W.heap.size W W') (hP : lP = true) (hG : G W') (hv : AnsL base c ys zs us v W') (hap : ∀ a b d y k, v = .tuple #[.agg #[a, b, d], y] → c = 0 → a.ownBlock = some k → W.heap.size ≤ k) : IL DOK AD OV G base c ys zs us lL lD lO lP true lM lE lC lA lS xL xD xO xP v xM xE xC xA W' :=
  by
  subst hR
  exact ⟨⟨hG, Nat.le_trans h.bel.2 hB.size⟩, h.fL, fun _ e => (by cases e), h.fO, h.fP, fun _ => hv, fun a => (by cases (h.fM a).1), fun a => (by cases (h.fE a).1), fun a => (by cases (h.fC a).1), fun a => by obtain ⟨g, e, hx⟩ := h.box a; exact ⟨g, e, hx.later hB⟩, fun _ => hP, fun _ hA a b d y g e1 e2 hc e3 => by
    obtain ⟨g', e, hx⟩ := h.box hA
    rw [e2] at e
    injection e with e; injection e with e; injection e with e
    have h1 := hap a b d y g e1 hc e3
    have h2 := hx.lt
    omega, fun a => (by cases (h.don a).1)⟩
theorem IL.sM (hR : lR = true) (h : IL DOK AD OV G base c ys zs us lL lD lO lP lR lM lE lC lA lS xL xD xO xP xR xM xE xC xA W) : IL DOK AD OV G base c ys zs us lL lD lO lP lR true lE lC lA lS xL xD xO xP xR xR xE xC xA W :=
  ⟨h.bel, h.fL, h.fD, h.fO, h.fP, h.ans, fun _ => ⟨hR, rfl⟩, h.fE, h.fC, h.box, h.pr, h.ap, h.don⟩
theorem IL.sE {y : Value} (hR : lR = true) (h : IL DOK AD OV G base c ys zs us lL lD lO lP lR lM lE lC lA lS xL xD xO xP xR xM xE xC xA W) (hv : xR = .tuple #[v, y]) : IL DOK AD OV G base c ys zs us lL lD lO lP lR lM true lC lA lS xL xD xO xP xR xM v xC xA W :=
  ⟨h.bel, h.fL, h.fD, h.fO, h.fP, h.ans, h.fM, fun _ => ⟨hR, _, hv⟩, h.fC, h.box, h.pr, h.ap, h.don⟩
theorem IL.sC (hR : lR = true) (h : IL DOK AD OV G base c ys zs us lL lD lO lP lR lM lE lC lA lS xL xD xO xP xR xM xE xC xA W) : IL DOK AD OV G base c ys zs us lL lD lO lP lR lM lE true lA lS xL xD xO xP xR xM xE (.int .i64 c) xA W :=
  ⟨h.bel, h.fL, h.fD, h.fO, h.fP, h.ans, h.fM, h.fE, fun _ => ⟨hR, rfl⟩, h.box, h.pr, h.ap, h.don⟩
theorem IL.sA {t : TypeId} (hA : lA = false) (hlt : lR = true → c = 0 → ∀ a b d y k, xR = .tuple #[.agg #[a, b, d], y] → a.ownBlock = some k → k < W.heap.size) (h : IL DOK AD OV G base c ys zs us lL lD lO lP lR lM lE lC lA lS xL xD xO xP xR xM xE xC xA W) (hst : ∀ u, DOK u W → DOK u (W.alloc (.cells #[.slice none 0 0, .slice none 0 0, .slice none 0 0] t))) (hG : G (W.alloc (.cells #[.slice none 0 0, .slice none 0 0, .slice none 0 0] t))) :
    IL DOK AD OV G base c ys zs us lL lD lO lP lR lM lE lC true lS xL xD xO xP xR xM xE xC (.pointer (some ⟨W.heap.size, 0, none⟩)) (W.alloc (.cells #[.slice none 0 0, .slice none 0 0, .slice none 0 0] t)) := by
  subst hA
  have hB : Below W.heap.size W (W.alloc (.cells #[.slice none 0 0, .slice none 0 0, .slice none 0 0] t)) := (Below.refl _ _).alloc (Nat.le_refl _) _
  refine ⟨⟨hG, Nat.le_trans h.bel.2 hB.size⟩, h.fL, fun a b => hst _ (h.fD a b), h.fO, h.fP, fun a => (h.ans a).later hB, h.fM, h.fE, h.fC, fun _ => ⟨_, rfl, ⟨h.bel.2, by simp, fun k => fz0 _ _ _ k, ⟨none, 0, 0, by simp⟩, ⟨none, 0, 0, by simp⟩, ⟨none, 0, 0, by simp⟩⟩⟩, h.pr, fun hR _ a b d y g e1 e2 hc e3 => by
    injection e2 with e2; injection e2 with e2; injection e2 with e2
    have := hlt hR hc a b d y g e1 e3
    omega, fun a => (by cases (h.don a).2.1)⟩
/-- the store of the answer into its box -/
theorem IL.sS {g : Nat} {a1 a2 a3 : Option Addr} {p1 p2 p3 : Nat} (hR : lR = true) (hA : lA = true) (eR : xR = .tuple #[.agg #[.slice a1 ys.length p1, .slice a2 zs.length p2, .slice a3 us.length p3], .int .i64 c]) (eA : xA = .pointer (some ⟨g, 0, none⟩)) (h : IL DOK AD OV G base c ys zs us lL lD lO lP lR lM lE lC lA lS xL xD xO xP xR xM xE xC xA W) (hO : OwnD W base a1 a2 a3 ys zs us) (hN : Nils a1 a2 p1 p2) (hL : c = 0 → LX W base (.slice a1 ys.length p1) (.slice a2 zs.length p2) (.slice a3 us.length p3) ys zs us) (hx : Bx base g W)
    (hG : G (((W.setCell ⟨g, 0, none⟩ (.slice a1 ys.length p1)).setCell ⟨g, 1, none⟩ (.slice a2 zs.length p2)).setCell ⟨g, 2, none⟩ (.slice a3 us.length p3))) :
    IL DOK AD OV G base c ys zs us lL lD lO lP lR lM lE lC lA true xL xD xO xP xR xM xE xC xA (((W.setCell ⟨g, 0, none⟩ (.slice a1 ys.length p1)).setCell ⟨g, 1, none⟩ (.slice a2 zs.length p2)).setCell ⟨g, 2, none⟩ (.slice a3 us.length p3)) := by
  subst hR hA eR eA
  have hn := hx.not hO
  have hc : Chg (fun y => y = g) W (((W.setCell ⟨g, 0, none⟩ (.slice a1 ys.length p1)).setCell ⟨g, 1, none⟩ (.slice a2 zs.length p2)).setCell ⟨g, 2, none⟩ (.slice a3 us.length p3)) := ((Chg.set (S := fun y => y = g) _ rfl).trans (Chg.set (S := fun y => y = g) _ rfl)).trans (Chg.set (S := fun y => y = g) _ rfl)
  have hL' : c = 0 → LX (((W.setCell ⟨g, 0, none⟩ (.slice a1 ys.length p1)).setCell ⟨g, 1, none⟩ (.slice a2 zs.length p2)).setCell ⟨g, 2, none⟩ (.slice a3 us.length p3)) base (.slice a1 ys.length p1) (.slice a2 zs.length p2) (.slice a3 us.length p3) ys zs us := fun h0 => by
    have hne := h.ap rfl rfl _ _ _ _ _ rfl rfl h0
    have st : ∀ {X : World} (o : Nat) (v : Value), LiveR X base (.slice a1 ys.length p1) ys → LiveR (X.setCell ⟨g, o, none⟩ v) base (.slice a1 ys.length p1) ys := fun o v hl => by
      rcases hl with hl | ⟨h1, h2 | ⟨b, e, h3, h4⟩⟩
      · exact .inl (own_set2 hl (fun k hk e => hne (by rw [hk, e])) o v)
      · exact .inr ⟨h1, .inl h2⟩
      · refine .inr ⟨h1, .inr ⟨b, e, ?_, h4⟩⟩
        rw [Below.heap_setCell _ ⟨g, o, none⟩ v b (fun e2 => hne (by rw [e]; show some b = some g; exact congrArg some (by first | exact e2 | exact e2.symm)))]; exact h3
    exact ⟨st 2 _ (st 1 _ (st 0 _ (hL h0).1)), (hL h0).2⟩
  have hO' := hO.chg hc (fun y hy e => hn (by rw [← e]; exact hy))
  obtain ⟨ge, lt, fr, ⟨_, _, _, h0⟩, ⟨_, _, _, h1⟩, ⟨_, _, _, h2⟩⟩ := hx
  have k0 : (((W.setCell ⟨g, 0, none⟩ (.slice a1 ys.length p1)).setCell ⟨g, 1, none⟩ (.slice a2 zs.length p2)).setCell ⟨g, 2, none⟩ (.slice a3 us.length p3)).cell? ⟨g, 0, none⟩ = some (.slice a1 ys.length p1) := by rw [setO' (by omega), setO' (by omega)]; exact setS' h0
  have k1 : (((W.setCell ⟨g, 0, none⟩ (.slice a1 ys.length p1)).setCell ⟨g, 1, none⟩ (.slice a2 zs.length p2)).setCell ⟨g, 2, none⟩ (.slice a3 us.length p3)).cell? ⟨g, 1, none⟩ = some (.slice a2 zs.length p2) := by
    rw [setO' (by omega)]; exact setS' (by rw [setO' (by omega)]; exact h1)
  have k2 : (((W.setCell ⟨g, 0, none⟩ (.slice a1 ys.length p1)).setCell ⟨g, 1, none⟩ (.slice a2 zs.length p2)).setCell ⟨g, 2, none⟩ (.slice a3 us.length p3)).cell? ⟨g, 2, none⟩ = some (.slice a3 us.length p3) :=
    setS' (by rw [setO' (by omega), setO' (by omega)]; exact h2)
  have hx' : Bx base g (((W.setCell ⟨g, 0, none⟩ (.slice a1 ys.length p1)).setCell ⟨g, 1, none⟩ (.slice a2 zs.length p2)).setCell ⟨g, 2, none⟩ (.slice a3 us.length p3)) := ⟨ge, Nat.lt_of_lt_of_le lt hc.size, hc.free g lt fr, ⟨_, _, _, k0⟩, ⟨_, _, _, k1⟩, ⟨_, _, _, k2⟩⟩
  exact ⟨⟨hG, Nat.le_trans h.bel.2 hc.size⟩, h.fL, fun _ e => (by cases e), h.fO, h.fP, fun _ => ⟨_, _, _, _, _, _, rfl, hO', hN, hL'⟩, h.fM, h.fE, h.fC, fun _ => ⟨_, rfl, hx'⟩, h.pr, h.ap, fun _ => ⟨rfl, rfl, _, _, _, _, _, _, _, rfl, hO', ⟨hN, hL'⟩, rfl, hx', k0, k1, k2⟩⟩
/-- the op has come up: until then none was known -/
theorem IL.sPo {OV' : Value} {c' : Int} {ys' zs' : List Fl} {us' : List Dop} (hR : lR = false) (h : IL DOK AD OV G base c ys zs us lL lD false lP lR lM lE lC lA lS xL xD xO xP xR xM xE xC xA W) (hbx : ∀ g, Bx base g W → Bx base g W') (hst : ∀ u, DOK u W → DOK u W') (hs : base ≤ W'.heap.size) (hG : G W') :
    IL DOK AD OV' G base c' ys' zs' us' lL lD false true lR lM lE lC lA lS xL xD xO OV' xR xM xE xC xA W' := by
  subst hR
  exact ⟨⟨hG, hs⟩, h.fL, fun a b => hst _ (h.fD a b), fun e => (by cases e), fun _ => rfl, fun e => (by cases e), fun a => (by cases (h.fM a).1), fun a => (by cases (h.fE a).1), fun a => (by cases (h.fC a).1), fun a => by obtain ⟨g, e, hx⟩ := h.box a; exact ⟨g, e, hbx g hx⟩, fun e => (by cases e), fun e => (by cases e), fun a => (by cases (h.don a).1)⟩
theorem IL.start (hL : lL = true → xL = AD) (hG : G W) (hb : base ≤ W.heap.size) : IL DOK AD OV G base c ys zs us lL false false false false false false false false false xL xD xO xP xR xM xE xC xA W :=
  ⟨⟨hG, hb⟩, hL, fun h => (by cases h), fun h => (by cases h), fun h => (by cases h), fun h => (by cases h), fun h => (by cases h), fun h => (by cases h), fun h => (by cases h), fun h => (by cases h), fun h => (by cases h), fun h => (by cases h), fun h => (by cases h)⟩
end
end Go.Proofs.Ytbfimfmfdllejaa
