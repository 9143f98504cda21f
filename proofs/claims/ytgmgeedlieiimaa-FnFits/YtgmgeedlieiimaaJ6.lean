import Derived.Test.YtgmgeedlieiimaaJ3
import Derived.Test.YtgmgeedlieiimaaToExpr2
import Derived.Deep.RegionHeld3
import Derived.Deep.DrawnRows
namespace Go.Proofs.Ytgmgeedlieiimaa
open Go.ChangeShapes Go.WideShapes Go.ChangeAt Go.RowKit
open Pl
theorem SlA.chg {S : Nat → Prop} {w w' : World} {ad : Option Addr} {xs : List Al} (h : SlA w ad xs) (hc : Chg S w w') (hn : ∀ g o, xs ≠ [] → ad = some ⟨g, o, none⟩ → ¬ S g) : SlA w' ad xs := by
 rcases h with h | ⟨b, off, e, hb, hr⟩
 ·exact .inl h
 ·by_cases hx : xs = []
  ·exact .inl hx
  ·exact .inr ⟨b, off, e, Nat.lt_of_lt_of_le hb hc.size, fun i hi => (hr i hi).same fun o => hc.cell hb (hn b off hx e)⟩
theorem SlI.chg {S : Nat → Prop} {w w' : World} {ad : Option Addr} {zs : List Int} (h : SlI w ad zs) (hc : Chg S w w') (hn : ∀ g o, zs ≠ [] → ad = some ⟨g, o, none⟩ → ¬ S g) : SlI w' ad zs := by
 rcases h with h | ⟨b, off, e, hb, hr⟩
 ·exact .inl h
 ·by_cases hx : zs = []
  ·exact .inl hx
  ·exact .inr ⟨b, off, e, Nat.lt_of_lt_of_le hb hc.size, fun i hi => by rw [hc.cell hb (hn b off hx e)]; exact hr i hi⟩
end Go.Proofs.Ytgmgeedlieiimaa
namespace Go.Proofs.Ytgmgeedlieiimaa
open Go.ChangeShapes Go.WideShapes Go.ChangeAt Go.RowKit
open Pl
end Go.Proofs.Ytgmgeedlieiimaa
namespace Go.Proofs.Ytgmgeedlieiimaa
open Go.ChangeShapes Go.WideShapes Go.ChangeAt Go.RowKit
open Pl
def bA (r : ER) (g : Nat) : Prop := r.e.allow ≠ [] ∧ r.adA = some ⟨g, 0, none⟩
def bK (r : ER) (g : Nat) : Prop := r.e.kids ≠ [] ∧ r.adK = some ⟨g, 0, none⟩
def inR (r : ER) (g : Nat) : Prop := bA r g ∨ bK r g
structure SepE (b : Nat) (rs : List ER) : Prop where
 zeroA : ∀ r ∈ rs, r.e.allow ≠ [] → ∃ g, r.adA = some ⟨g, 0, none⟩
 zeroK : ∀ r ∈ rs, r.e.kids ≠ [] → ∃ g, r.adK = some ⟨g, 0, none⟩
 head : ∀ r ∈ rs, ¬ inR r b
 one : ∀ r ∈ rs, ∀ g, bA r g → ¬ bK r g
 two : ∀ (x y : Nat) (hx : x < rs.length) (hy : y < rs.length), x ≠ y → ∀ g, inR rs[x] g → ¬ inR rs[y] g
def FreeE (w : World) (b : Nat) (rs : List ER) : Prop := (b < w.heap.size ∧ Free w b) ∧ ∀ r ∈ rs, ∀ g, inR r g → g < w.heap.size ∧ Free w g
theorem FreeE.chg {S : Nat → Prop} {w w' : World} {b : Nat} {rs : List ER} (h : FreeE w b rs) (hc : Chg S w w') : FreeE w' b rs :=
 ⟨⟨Nat.lt_of_lt_of_le h.1.1 hc.size, hc.free b h.1.1 h.1.2⟩, fun r hr g hg => ⟨Nat.lt_of_lt_of_le (h.2 r hr g hg).1 hc.size, hc.free g (h.2 r hr g hg).1 (h.2 r hr g hg).2⟩⟩
theorem ER.ok.chg {S : Nat → Prop} {w w' : World} {r : ER} (h : r.ok w) (hc : Chg S w w') (hA : ∀ g o, r.e.allow ≠ [] → r.adA = some ⟨g, o, none⟩ → ¬ S g) (hK : ∀ g o, r.e.kids ≠ [] → r.adK = some ⟨g, o, none⟩ → ¬ S g) : r.ok w' :=
 ⟨h.1.chg hc hA, h.2.chg hc hK⟩
end Go.Proofs.Ytgmgeedlieiimaa
