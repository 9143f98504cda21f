/- Schemas in memory: relations and types, each a name and a slice of what stands below it. -/
import Derived.Test.YtjmbgpdbnffkpaaEqExpr
namespace Go.Proofs.Ytjmbgpdbnffkpaa
open Go.ChangeShapes Go.WideShapes Go.ChangeAt Go.RowKit
open Pl

theorem ER.new.mono {B B' : Nat} {r : ER} (h : r.new B) (hB : B' ≤ B) : r.new B' := by
  obtain ⟨gA, gK, e1, e2, h1, h2, h3⟩ := h
  exact ⟨gA, gK, e1, e2, by omega, by omega, h3⟩

/-- Relation: its name and what stands below it -/
structure Rl where
  name : ByteArray
  expr : List Ex
structure RR where
  name : ByteArray
  rows : List ER
  ad : Option Addr
  cap : Nat
def RR.p (r : RR) : Rl := ⟨r.name, exs r.rows⟩
def RR.val (r : RR) : Value := .agg #[.string r.name, .slice r.ad r.rows.length r.cap]
def RR.ok (w : World) (r : RR) : Prop := SlE w r.ad r.rows
def RR.fits (r : RR) : Prop := r.name.size ≤ maxLen ∧ r.rows.length ≤ maxLen ∧ ∀ q ∈ r.rows, q.e.fits
def RR.light (r : RR) : Prop := r.rows.length ≤ 1048576 ∧ ∀ q ∈ r.rows, q.e.light
def RR.caps (r : RR) : Prop := r.rows.length ≤ r.cap ∧ ∀ q ∈ r.rows, q.e.allow.length ≤ q.capA
def RR.new (B : Nat) (r : RR) : Prop := (∃ g : Nat, r.ad = some ⟨g, 0, none⟩ ∧ B < g) ∧ ∀ q ∈ r.rows, q.new B
theorem RR.ok.below {w w' : World} {r : RR} (h : r.ok w) (hB : Below w.heap.size w w') : r.ok w' := SlE.below h hB
def AtR (w : World) (b off : Nat) (r : RR) : Prop := w.cell? ⟨b, off, none⟩ = some (.string r.name) ∧ w.cell? ⟨b, off + 1, none⟩ = some (.slice r.ad r.rows.length r.cap)
theorem AtR.same {w w' : World} {b off : Nat} {r : RR} (h : AtR w b off r) (hc : ∀ o, w'.cell? ⟨b, o, none⟩ = w.cell? ⟨b, o, none⟩) : AtR w' b off r := ⟨(hc _).trans h.1, (hc _).trans h.2⟩
theorem AtR.later {w w' : World} {b off : Nat} {r : RR} (h : AtR w b off r) (hb : b < w.heap.size) (hB : Below w.heap.size w w') : AtR w' b off r := h.same fun o => hB.cell (p := ⟨b, o, none⟩) hb
def SlR (w : World) (ad : Option Addr) (rs : List RR) : Prop := rs = [] ∨ ∃ b off, ad = some ⟨b, off, none⟩ ∧ b < w.heap.size ∧ (∀ (i : Nat) (h : i < rs.length), AtR w b (off + i * 2) rs[i]) ∧ ∀ r ∈ rs, r.ok w
theorem SlR.below {w w' : World} {ad : Option Addr} {rs : List RR} (h : SlR w ad rs) (hB : Below w.heap.size w w') : SlR w' ad rs := by
  rcases h with h | ⟨b, off, e, hb, hr, hk⟩
  · exact .inl h
  · exact .inr ⟨b, off, e, Nat.lt_of_lt_of_le hb hB.size, fun i hi => (hr i hi).same fun o => hB.cell (p := ⟨b, o, none⟩) hb, fun r hr => (hk r hr).below hB⟩
def rls (rs : List RR) : List Rl := rs.map RR.p
theorem rls_len (rs : List RR) : (rls rs).length = rs.length := by simp [rls]
theorem RR.ok.set {w : World} {r : RR} {g o : Nat} {v : Value} (h : r.ok w) (hn : r.new g) : r.ok (w.setCell ⟨g, o, none⟩ v) := by
  obtain ⟨⟨gE, e1, h1⟩, h2⟩ := hn
  rcases h with h | ⟨b, off, e, hb, hr, hk⟩
  · exact .inl h
  · refine .inr ⟨b, off, e, by simpa using hb, fun i hi => (hr i hi).same fun o => setB2 ?_, fun q hq => (hk q hq).set (h2 q hq)⟩
    rw [e1] at e; injection e with e; injection e with e3 e4; omega
theorem RR.new.mono {B B' : Nat} {r : RR} (h : r.new B) (hB : B' ≤ B) : r.new B' := by
  obtain ⟨⟨g, e, hg⟩, h2⟩ := h
  exact ⟨⟨g, e, by omega⟩, fun q hq => (h2 q hq).mono hB⟩

/-- Type: its name and what stands below it -/
structure Ty where
  name : ByteArray
  rels : List Rl
structure TR where
  name : ByteArray
  rows : List RR
  ad : Option Addr
  cap : Nat
def TR.p (r : TR) : Ty := ⟨r.name, rls r.rows⟩
def TR.val (r : TR) : Value := .agg #[.string r.name, .slice r.ad r.rows.length r.cap]
def TR.ok (w : World) (r : TR) : Prop := SlR w r.ad r.rows
def TR.fits (r : TR) : Prop := r.name.size ≤ maxLen ∧ r.rows.length ≤ maxLen ∧ ∀ q ∈ r.rows, q.fits
def TR.light (r : TR) : Prop := r.rows.length ≤ 1048576 ∧ ∀ q ∈ r.rows, q.light
def TR.caps (r : TR) : Prop := r.rows.length ≤ r.cap ∧ ∀ q ∈ r.rows, q.caps
def TR.new (B : Nat) (r : TR) : Prop := (∃ g : Nat, r.ad = some ⟨g, 0, none⟩ ∧ B < g) ∧ ∀ q ∈ r.rows, q.new B
theorem TR.ok.below {w w' : World} {r : TR} (h : r.ok w) (hB : Below w.heap.size w w') : r.ok w' := SlR.below h hB
def AtT (w : World) (b off : Nat) (r : TR) : Prop := w.cell? ⟨b, off, none⟩ = some (.string r.name) ∧ w.cell? ⟨b, off + 1, none⟩ = some (.slice r.ad r.rows.length r.cap)
theorem AtT.same {w w' : World} {b off : Nat} {r : TR} (h : AtT w b off r) (hc : ∀ o, w'.cell? ⟨b, o, none⟩ = w.cell? ⟨b, o, none⟩) : AtT w' b off r := ⟨(hc _).trans h.1, (hc _).trans h.2⟩
theorem AtT.later {w w' : World} {b off : Nat} {r : TR} (h : AtT w b off r) (hb : b < w.heap.size) (hB : Below w.heap.size w w') : AtT w' b off r := h.same fun o => hB.cell (p := ⟨b, o, none⟩) hb
def SlT (w : World) (ad : Option Addr) (rs : List TR) : Prop := rs = [] ∨ ∃ b off, ad = some ⟨b, off, none⟩ ∧ b < w.heap.size ∧ (∀ (i : Nat) (h : i < rs.length), AtT w b (off + i * 2) rs[i]) ∧ ∀ r ∈ rs, r.ok w
theorem SlT.below {w w' : World} {ad : Option Addr} {rs : List TR} (h : SlT w ad rs) (hB : Below w.heap.size w w') : SlT w' ad rs := by
  rcases h with h | ⟨b, off, e, hb, hr, hk⟩
  · exact .inl h
  · exact .inr ⟨b, off, e, Nat.lt_of_lt_of_le hb hB.size, fun i hi => (hr i hi).same fun o => hB.cell (p := ⟨b, o, none⟩) hb, fun r hr => (hk r hr).below hB⟩
def tys (rs : List TR) : List Ty := rs.map TR.p
theorem tys_len (rs : List TR) : (tys rs).length = rs.length := by simp [tys]
theorem TR.ok.set {w : World} {r : TR} {g o : Nat} {v : Value} (h : r.ok w) (hn : r.new g) : r.ok (w.setCell ⟨g, o, none⟩ v) := by
  obtain ⟨⟨gE, e1, h1⟩, h2⟩ := hn
  rcases h with h | ⟨b, off, e, hb, hr, hk⟩
  · exact .inl h
  · refine .inr ⟨b, off, e, by simpa using hb, fun i hi => (hr i hi).same fun o => setB2 ?_, fun q hq => (hk q hq).set (h2 q hq)⟩
    rw [e1] at e; injection e with e; injection e with e3 e4; omega
theorem TR.new.mono {B B' : Nat} {r : TR} (h : r.new B) (hB : B' ≤ B) : r.new B' := by
  obtain ⟨⟨g, e, hg⟩, h2⟩ := h
  exact ⟨⟨g, e, by omega⟩, fun q hq => (h2 q hq).mono hB⟩

end Go.Proofs.Ytjmbgpdbnffkpaa
