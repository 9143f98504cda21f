/- Contracts of the law's helpers that mark relations and types: they change the blocks of these alone. -/
import Derived.Test.YtmfgehfbipnngaaMark3
import Derived.Test.YtmfgehfbipnngaaJ5
namespace Go.Proofs.Ytmfgehfbipnngaa
open Go.ChangeShapes Go.WideShapes Go.ChangeAt Go.RowKit
open Pl
def FreeP (w : World) (P : Nat → Prop) : Prop := ∀ g, P g → g < w.heap.size ∧ Free w g
theorem FreeP.chg {S P : Nat → Prop} {w w' : World} (h : FreeP w P) (hc : Chg S w w') : FreeP w' P := fun g hg => ⟨Nat.lt_of_lt_of_le (h g hg).1 hc.size, hc.free g (h g hg).1 (h g hg).2⟩
theorem FreeP.mono {P Q : Nat → Prop} {w : World} (h : FreeP w P) (hq : ∀ g, Q g → P g) : FreeP w Q := fun g hg => h g (hq g hg)
def blkR (r : RR) (g : Nat) : Prop := (r.rows ≠ [] ∧ r.ad = some ⟨g, 0, none⟩) ∨ ∃ q ∈ r.rows, inR q g
def GoodR (r : RR) : Prop := r.rows ≠ [] → ∃ b, r.ad = some ⟨b, 0, none⟩ ∧ SepE b r.rows
structure SepR (b : Nat) (rs : List RR) : Prop where
 good : ∀ r ∈ rs, GoodR r
 head : ∀ r ∈ rs, ¬ blkR r b
 two : ∀ (x y : Nat) (hx : x < rs.length) (hy : y < rs.length), x ≠ y → ∀ g, blkR rs[x] g → ¬ blkR rs[y] g
theorem RR.ok.chg {S : Nat → Prop} {w w' : World} {r : RR} (h : r.ok w) (hc : Chg S w w') (hg : GoodR r) (hn : ∀ g, blkR r g → ¬ S g) : r.ok w' := by
 by_cases hz : r.rows = []
 ·exact .inl hz
 obtain ⟨b, e, hsep⟩ := hg hz
 rcases h with h | ⟨b', off, e', hb, hr, hk⟩
 ·exact .inl h
 ·rw [e] at e'; injection e' with e'; injection e' with e1 e2
  subst e1; subst e2
  refine .inr ⟨b, 0, e, Nat.lt_of_lt_of_le hb hc.size, fun i hi => (hr i hi).same fun o => hc.cell hb (hn b (.inl ⟨hz, e⟩)), fun q hq => ?_⟩
  refine (hk q hq).chg hc (fun g o hne e2 => ?_) (fun g o hne e2 => ?_)
  ·obtain ⟨g0, e0⟩ := hsep.zeroA q hq hne
   rw [e0] at e2; injection e2 with e2; injection e2 with e3 e4
   subst e3
   exact hn g0 (.inr ⟨q, hq, .inl ⟨hne, e0⟩⟩)
  ·obtain ⟨g0, e0⟩ := hsep.zeroK q hq hne
   rw [e0] at e2; injection e2 with e2; injection e2 with e3 e4
   subst e3
   exact hn g0 (.inr ⟨q, hq, .inr ⟨hne, e0⟩⟩)
def blkT (r : TR) (g : Nat) : Prop := (r.rows ≠ [] ∧ r.ad = some ⟨g, 0, none⟩) ∨ ∃ q ∈ r.rows, blkR q g
def GoodT (r : TR) : Prop := r.rows ≠ [] → ∃ b, r.ad = some ⟨b, 0, none⟩ ∧ SepR b r.rows
structure SepT (b : Nat) (rs : List TR) : Prop where
 good : ∀ r ∈ rs, GoodT r
 head : ∀ r ∈ rs, ¬ blkT r b
 two : ∀ (x y : Nat) (hx : x < rs.length) (hy : y < rs.length), x ≠ y → ∀ g, blkT rs[x] g → ¬ blkT rs[y] g
theorem TR.ok.chg {S : Nat → Prop} {w w' : World} {r : TR} (h : r.ok w) (hc : Chg S w w') (hg : GoodT r) (hn : ∀ g, blkT r g → ¬ S g) : r.ok w' := by
 by_cases hz : r.rows = []
 ·exact .inl hz
 obtain ⟨b, e, hsep⟩ := hg hz
 rcases h with h | ⟨b', off, e', hb, hr, hk⟩
 ·exact .inl h
 ·rw [e] at e'; injection e' with e'; injection e' with e1 e2
  subst e1; subst e2
  refine .inr ⟨b, 0, e, Nat.lt_of_lt_of_le hb hc.size, fun i hi => (hr i hi).same fun o => hc.cell hb (hn b (.inl ⟨hz, e⟩)), fun q hq => ?_⟩
  exact (hk q hq).chg hc (hsep.good q hq) fun g hg => hn g (.inr ⟨q, hq, hg⟩)
end Go.Proofs.Ytmfgehfbipnngaa
