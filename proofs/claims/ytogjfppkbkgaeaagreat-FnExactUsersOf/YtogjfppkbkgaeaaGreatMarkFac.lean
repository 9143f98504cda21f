/- Contracts of the law's helpers that mark facts, and that look whether the marks are there still. -/
import Derived.Test.YtogjfppkbkgaeaaGreatJ7
import Derived.Deep.RegionHeld3
import Derived.Deep.DrawnRows
namespace Go.Proofs.YtogjfppkbkgaeaaGreat
open Go.ChangeShapes Go.WideShapes Go.ChangeAt Go.RowKit
open Pl
theorem qZ.chg {S:Nat→Prop} {w w':World} {ad:Option Addr} {xs:List Fc} (h:qZ w ad xs) (hc:Chg S w w') (hn:∀ g o,xs ≠ []→ad=some ⟨g,o,none⟩→¬ S g):qZ w' ad xs:=by
 rcases h with h | ⟨b,off,e,hb,hr⟩
 ·exact .inl h
 ·by_cases hx:xs=[]
  ·exact .inl hx
  ·exact .inr ⟨b,off,e,Nat.lt_of_lt_of_le hb hc.size,fun i hi=>(hr i hi).same fun o=>hc.cell hb (hn b off hx e)⟩
end Go.Proofs.YtogjfppkbkgaeaaGreat
