/- Expressions in memory: slices of allowed pairs, of whole numbers, of nodes; what a later world keeps of them. -/
import Derived.Test.YtjmbgpdbnffkpaaNamesL
namespace Go.Proofs.Ytjmbgpdbnffkpaa
open Go.ChangeShapes Go.WideShapes Go.ChangeAt Go.RowKit
open Pl

/-- an allowed type with its set -/
structure Al where
  t : ByteArray
  s : ByteArray
def Al.fits (a : Al) : Prop := a.t.size ≤ maxLen ∧ a.s.size ≤ maxLen
/-- two cells hold an allowed pair -/
def At2 (w : World) (b off : Nat) (a : Al) : Prop := w.cell? ⟨b, off, none⟩ = some (.string a.t) ∧ w.cell? ⟨b, off + 1, none⟩ = some (.string a.s)
/-- what a slice of allowed pairs leads to -/
def SlA (w : World) (ad : Option Addr) (xs : List Al) : Prop := xs = [] ∨ ∃ b off, ad = some ⟨b, off, none⟩ ∧ b < w.heap.size ∧ ∀ (i : Nat) (h : i < xs.length), At2 w b (off + i * 2) xs[i]
/-- what a slice of whole numbers leads to -/
def SlI (w : World) (ad : Option Addr) (zs : List Int) : Prop := zs = [] ∨ ∃ b off, ad = some ⟨b, off, none⟩ ∧ b < w.heap.size ∧ ∀ (i : Nat) (h : i < zs.length), w.cell? ⟨b, off + i, none⟩ = some (.int .i64 zs[i])

theorem At2.same {w w' : World} {b off : Nat} {a : Al} (h : At2 w b off a) (hc : ∀ o, w'.cell? ⟨b, o, none⟩ = w.cell? ⟨b, o, none⟩) : At2 w' b off a := ⟨(hc _).trans h.1, (hc _).trans h.2⟩
theorem SlA.below {w w' : World} {ad : Option Addr} {xs : List Al} (h : SlA w ad xs) (hB : Below w.heap.size w w') : SlA w' ad xs := by
  rcases h with h | ⟨b, off, e, hb, hr⟩
  · exact .inl h
  · exact .inr ⟨b, off, e, Nat.lt_of_lt_of_le hb hB.size, fun i hi => (hr i hi).same fun o => hB.cell (p := ⟨b, o, none⟩) hb⟩
theorem SlI.below {w w' : World} {ad : Option Addr} {zs : List Int} (h : SlI w ad zs) (hB : Below w.heap.size w w') : SlI w' ad zs := by
  rcases h with h | ⟨b, off, e, hb, hr⟩
  · exact .inl h
  · exact .inr ⟨b, off, e, Nat.lt_of_lt_of_le hb hB.size, fun i hi => (hB.cell (p := ⟨b, off + i, none⟩) hb).trans (hr i hi)⟩

/-- a node -/
structure Ex where
  kind : Int
  allow : List Al
  over : ByteArray
  name : ByteArray
  kids : List Int
/-- a node in memory: where its lists lie -/
structure ER where
  e : Ex
  adA : Option Addr
  capA : Nat
  adK : Option Addr
  capK : Nat
def ER.val (r : ER) : Value := .agg #[.int .i64 r.e.kind, .slice r.adA r.e.allow.length r.capA, .string r.e.over, .string r.e.name, .slice r.adK r.e.kids.length r.capK]
def ER.ok (w : World) (r : ER) : Prop := SlA w r.adA r.e.allow ∧ SlI w r.adK r.e.kids
def Ex.fits (e : Ex) : Prop := (∀ a ∈ e.allow, a.fits) ∧ e.over.size ≤ maxLen ∧ e.name.size ≤ maxLen ∧ e.allow.length ≤ maxLen ∧ e.kids.length ≤ maxLen
theorem ER.ok.below {w w' : World} {r : ER} (h : r.ok w) (hB : Below w.heap.size w w') : r.ok w' := ⟨h.1.below hB, h.2.below hB⟩
/-- five cells hold a node -/
def At5 (w : World) (b off : Nat) (r : ER) : Prop :=
  w.cell? ⟨b, off, none⟩ = some (.int .i64 r.e.kind) ∧ w.cell? ⟨b, off + 1, none⟩ = some (.slice r.adA r.e.allow.length r.capA) ∧ w.cell? ⟨b, off + 2, none⟩ = some (.string r.e.over) ∧
  w.cell? ⟨b, off + 3, none⟩ = some (.string r.e.name) ∧ w.cell? ⟨b, off + 4, none⟩ = some (.slice r.adK r.e.kids.length r.capK)
theorem At5.same {w w' : World} {b off : Nat} {r : ER} (h : At5 w b off r) (hc : ∀ o, w'.cell? ⟨b, o, none⟩ = w.cell? ⟨b, o, none⟩) : At5 w' b off r := by
  obtain ⟨h0, h1, h2, h3, h4⟩ := h
  exact ⟨(hc _).trans h0, (hc _).trans h1, (hc _).trans h2, (hc _).trans h3, (hc _).trans h4⟩
/-- what a slice of nodes leads to -/
def SlE (w : World) (ad : Option Addr) (rs : List ER) : Prop := rs = [] ∨ ∃ b off, ad = some ⟨b, off, none⟩ ∧ b < w.heap.size ∧ (∀ (i : Nat) (h : i < rs.length), At5 w b (off + i * 5) rs[i]) ∧ ∀ r ∈ rs, r.ok w
theorem SlE.below {w w' : World} {ad : Option Addr} {rs : List ER} (h : SlE w ad rs) (hB : Below w.heap.size w w') : SlE w' ad rs := by
  rcases h with h | ⟨b, off, e, hb, hr, hk⟩
  · exact .inl h
  · exact .inr ⟨b, off, e, Nat.lt_of_lt_of_le hb hB.size, fun i hi => (hr i hi).same fun o => hB.cell (p := ⟨b, o, none⟩) hb, fun r hr => (hk r hr).below hB⟩
def exs (rs : List ER) : List Ex := rs.map ER.e
theorem exs_len (rs : List ER) : (exs rs).length = rs.length := by simp [exs]

/-- a set is empty or a name -/
def setB' (s : ByteArray) : Bool := s.toList.isEmpty || nameB s
theorem setOk_any' (s : ByteArray) (w : World) (hs : s.size ≤ maxLen) :
    Calls Try.prog 102 #[.string s] w fun e w' => e = .returned (.bool (setB' s)) ∧ w' = w := by
  go_enter Try.func102, Try.ntmps102
  go_wp2_with (go_at_call 77; refine (implName_any _ _ hs).mono ?_; rintro e w' ⟨rfl, rfl⟩)
  all_goals go_ret
  all_goals exact ⟨ret_bool (by simp [setB', *]), rfl⟩

end Go.Proofs.Ytjmbgpdbnffkpaa
