/- What a change of some blocks leaves of lists of pairs and of numbers. -/
import Derived.Test.YtjmbgpdbnffkpaaMark0
import Derived.Test.YtjmbgpdbnffkpaaToExpr2
namespace Go.Proofs.Ytjmbgpdbnffkpaa
open Go.ChangeShapes Go.WideShapes Go.ChangeAt Go.RowKit
open Pl

theorem SlA.chg {S : Nat → Prop} {w w' : World} {ad : Option Addr} {xs : List Al} (h : SlA w ad xs) (hc : Chg S w w') (hn : ∀ g o, xs ≠ [] → ad = some ⟨g, o, none⟩ → ¬ S g) : SlA w' ad xs := by
  rcases h with h | ⟨b, off, e, hb, hr⟩
  · exact .inl h
  · by_cases hx : xs = []
    · exact .inl hx
    · exact .inr ⟨b, off, e, Nat.lt_of_lt_of_le hb hc.size, fun i hi => (hr i hi).same fun o => hc.cell hb (hn b off hx e)⟩
theorem SlI.chg {S : Nat → Prop} {w w' : World} {ad : Option Addr} {zs : List Int} (h : SlI w ad zs) (hc : Chg S w w') (hn : ∀ g o, zs ≠ [] → ad = some ⟨g, o, none⟩ → ¬ S g) : SlI w' ad zs := by
  rcases h with h | ⟨b, off, e, hb, hr⟩
  · exact .inl h
  · by_cases hx : zs = []
    · exact .inl hx
    · exact .inr ⟨b, off, e, Nat.lt_of_lt_of_le hb hc.size, fun i hi => by rw [hc.cell hb (hn b off hx e)]; exact hr i hi⟩

end Go.Proofs.Ytjmbgpdbnffkpaa
