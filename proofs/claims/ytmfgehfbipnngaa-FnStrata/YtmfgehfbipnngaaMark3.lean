/- Contracts of the law's helpers that mark expressions, and that look whether the marks are held. -/
import Derived.Test.YtmfgehfbipnngaaJ6
namespace Go.Proofs.Ytmfgehfbipnngaa
open Go.ChangeShapes Go.WideShapes Go.ChangeAt Go.RowKit
open Pl
def wX (e : Ex) : Nat := 3 + 2 * e.allow.length + e.kids.length
def wE : List ER → Nat
 | [] => 0
 | r :: rs => wX r.e + wE rs
def bA (r : ER) (g : Nat) : Prop := r.e.allow ≠ [] ∧ r.adA = some ⟨g, 0, none⟩
def bK (r : ER) (g : Nat) : Prop := r.e.kids ≠ [] ∧ r.adK = some ⟨g, 0, none⟩
def inR (r : ER) (g : Nat) : Prop := bA r g ∨ bK r g
structure SepE (b : Nat) (rs : List ER) : Prop where
 zeroA : ∀ r ∈ rs, r.e.allow ≠ [] → ∃ g, r.adA = some ⟨g, 0, none⟩
 zeroK : ∀ r ∈ rs, r.e.kids ≠ [] → ∃ g, r.adK = some ⟨g, 0, none⟩
 head : ∀ r ∈ rs, ¬ inR r b
 one : ∀ r ∈ rs, ∀ g, bA r g → ¬ bK r g
 two : ∀ (x y : Nat) (hx : x < rs.length) (hy : y < rs.length), x ≠ y → ∀ g, inR rs[x] g → ¬ inR rs[y] g
def FreeE (w : World) (b : Nat) (rs : List ER) : Prop := (b < w.heap.size ∧ Free w b) ∧ ∀ r ∈ rs, ∀ g, inR r g → g < w.heap.size ∧ Free w g
theorem FreeE.chg {S : Nat → Prop} {w w' : World} {b : Nat} {rs : List ER} (h : FreeE w b rs) (hc : Chg S w w') : FreeE w' b rs :=
 ⟨⟨Nat.lt_of_lt_of_le h.1.1 hc.size, hc.free b h.1.1 h.1.2⟩, fun r hr g hg => ⟨Nat.lt_of_lt_of_le (h.2 r hr g hg).1 hc.size, hc.free g (h.2 r hr g hg).1 (h.2 r hr g hg).2⟩⟩
theorem ER.ok.chg {S : Nat → Prop} {w w' : World} {r : ER} (h : r.ok w) (hc : Chg S w w') (hA : ∀ g o, r.e.allow ≠ [] → r.adA = some ⟨g, o, none⟩ → ¬ S g) (hK : ∀ g o, r.e.kids ≠ [] → r.adK = some ⟨g, o, none⟩ → ¬ S g) : r.ok w' :=
 ⟨h.1.chg hc hA, h.2.chg hc hK⟩
end Go.Proofs.Ytmfgehfbipnngaa
