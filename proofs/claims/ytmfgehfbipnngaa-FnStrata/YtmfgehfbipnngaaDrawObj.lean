/- The contract of the drawing of an object: two short strings; nothing but the reader's place has changed. -/
import Derived.Test.YtmfgehfbipnngaaJ1
namespace Go.Proofs.Ytmfgehfbipnngaa
open Go.ChangeShapes Go.WideShapes Go.ChangeAt Go.RowKit
open Pl
def Strs (w : World) (R g n : Nat) : Prop := g ≠ R ∧ g < w.heap.size ∧ ∀ i, i < n → ∃ s : ByteArray, s.size ≤ 20 ∧ w.cell? ⟨g, i, none⟩ = some (.string s)
theorem Strs.only {w w' : World} {R g n : Nat} (h : Strs w R g n) (k : Only R w w') : Strs w' R g n :=
 ⟨h.1, Nat.lt_of_lt_of_le h.2.1 k.size, fun i hi => by obtain ⟨s, hs, hc⟩ := h.2.2 i hi; exact ⟨s, hs, by rw [k.cell h.2.1 h.1]; exact hc⟩⟩
def ObjAt (w : World) (R B g : Nat) : Prop := g ≠ R ∧ B ≤ g ∧ g < w.heap.size ∧ (∀ o, w.frozen? ⟨g, o, none⟩ = false) ∧ ∃ a b : ByteArray, a.size ≤ 20 ∧ b.size ≤ 20 ∧ w.cell? ⟨g, 0, none⟩ = some (.string a) ∧ w.cell? ⟨g, 1, none⟩ = some (.string b)
theorem ObjAt.only {w w' : World} {R B g : Nat} (h : ObjAt w R B g) (k : Only R w w') : ObjAt w' R B g := by
 obtain ⟨h1, h2, h3, h4, a, b, ha, hb, ca, cb⟩ := h
 exact ⟨h1, h2, Nat.lt_of_lt_of_le h3 k.size, fun o => by rw [k.frozen h3 h1]; exact h4 o, a, b, ha, hb, by rw [k.cell h3 h1]; exact ca, by rw [k.cell h3 h1]; exact cb⟩
theorem Rd.setFar {w : World} {R g o : Nat} {ad : Option Addr} {len cap : Nat} {v : Value} (h : Rd w R ad len cap) (hg : g ≠ R) (hb : 0 < len → ∀ b off, ad = some ⟨b, off, none⟩ → b ≠ g) : Rd (w.setCell ⟨g, o, none⟩ v) R ad len cap where
 lt := by simpa using h.lt
 code := by
  rw [show (w.setCell ⟨g, o, none⟩ v).cell? ⟨R, 0, none⟩ = w.cell? ⟨R, 0, none⟩ from by apply World.cell?_setCell_other; intro e; exact hg (congrArg Addr.block e)]; exact h.code
 place := by
  obtain ⟨p, hp, hl⟩ := h.place
  exact ⟨p, by rw [show (w.setCell ⟨g, o, none⟩ v).cell? ⟨R, 1, none⟩ = w.cell? ⟨R, 1, none⟩ from by apply World.cell?_setCell_other; intro e; exact hg (congrArg Addr.block e)]; exact hp, hl⟩
 free := by simpa using h.free
 bytes h0 := by
  obtain ⟨b, off, e, hne, hbl, hc⟩ := h.bytes h0
  refine ⟨b, off, e, hne, by simpa using hbl, fun i hi => ?_⟩
  obtain ⟨c, c0, c1, hcc⟩ := hc i hi
  exact ⟨c, c0, c1, by rw [show (w.setCell ⟨g, o, none⟩ v).cell? ⟨b, off + i, none⟩ = w.cell? ⟨b, off + i, none⟩ from by apply World.cell?_setCell_other; intro e2; exact hb h0 b off e (congrArg Addr.block e2).symm]; exact hcc⟩
 small := h.small
theorem Only.setNew {R g o : Nat} {a b : World} {v : Value} (h : Only R a b) (hg : a.heap.size ≤ g) : Only R a (b.setCell ⟨g, o, none⟩ v) :=
 ⟨h.os, h.tape, h.output, by simpa using h.size, fun i hi hr => (Below.heap_setCell b ⟨g, o, none⟩ v i (by simp; omega)).trans (h.block i hi hr)⟩
structure ObjCore (R B : Nat) (listed : Array Bool) (s3 s4 s5 s6 s7 s8 s9 s10 s11 s12 s13 s14 : Value) (w : World) : Prop where
 size : listed.size = 13
 last : listed.getD 12 false = true → ∀ j, j < 12 → listed.getD j false = true
 p0 : listed.getD 12 false = false → listed.getD 0 false = true → ∃ g, s4 = .slice (some ⟨g, 0, none⟩) 5 5 ∧ Strs w R g 5
 p1 : listed.getD 12 false = false → listed.getD 1 false = true → s5 = .pointer (some ⟨R, 0, none⟩)
 p2 : listed.getD 12 false = false → listed.getD 2 false = true → ∃ x : Nat, s6 = .int .i64 (x : Int) ∧ x < 5
 p3 : listed.getD 12 false = false → listed.getD 3 false = true → ∃ g x, s7 = .pointer (some ⟨g, x, none⟩) ∧ x < 5 ∧ Strs w R g 5
 p4 : listed.getD 12 false = false → listed.getD 4 false = true → ∃ s : ByteArray, s8 = .string s ∧ s.size ≤ 20
 p5 : listed.getD 12 false = false → listed.getD 5 false = true → ∃ g, s9 = .slice (some ⟨g, 0, none⟩) 3 3 ∧ Strs w R g 3
 p6 : listed.getD 12 false = false → listed.getD 6 false = true → s10 = .pointer (some ⟨R, 0, none⟩)
 p7 : listed.getD 12 false = false → listed.getD 7 false = true → ∃ x : Nat, s11 = .int .i64 (x : Int) ∧ x < 3
 p8 : listed.getD 12 false = false → listed.getD 8 false = true → ∃ g x, s12 = .pointer (some ⟨g, x, none⟩) ∧ x < 3 ∧ Strs w R g 3
 p9 : listed.getD 12 false = false → listed.getD 9 false = true → ∃ s : ByteArray, s13 = .string s ∧ s.size ≤ 20
 p10 : listed.getD 12 false = false → listed.getD 10 false = true → ∃ a b : ByteArray, s14 = .agg #[.string a, .string b] ∧ a.size ≤ 20 ∧ b.size ≤ 20
 p11 : listed.getD 11 false = true → ∃ g, s3 = .pointer (some ⟨g, 0, none⟩) ∧ ObjAt w R B g
theorem ObjCore.only {R B : Nat} {listed : Array Bool} {s3 s4 s5 s6 s7 s8 s9 s10 s11 s12 s13 s14 : Value} {w w' : World} (h : ObjCore R B listed s3 s4 s5 s6 s7 s8 s9 s10 s11 s12 s13 s14 w) (k : Only R w w') : ObjCore R B listed s3 s4 s5 s6 s7 s8 s9 s10 s11 s12 s13 s14 w' where
 size := h.size
 last := h.last
 p0 a b := by obtain ⟨g, e, hs⟩ := h.p0 a b; exact ⟨g, e, hs.only k⟩
 p1 a b := by exact h.p1 a b
 p2 a b := by exact h.p2 a b
 p3 a b := by obtain ⟨g, x, e, hx, hs⟩ := h.p3 a b; exact ⟨g, x, e, hx, hs.only k⟩
 p4 a b := by exact h.p4 a b
 p5 a b := by obtain ⟨g, e, hs⟩ := h.p5 a b; exact ⟨g, e, hs.only k⟩
 p6 a b := by exact h.p6 a b
 p7 a b := by exact h.p7 a b
 p8 a b := by obtain ⟨g, x, e, hx, hs⟩ := h.p8 a b; exact ⟨g, x, e, hx, hs.only k⟩
 p9 a b := by exact h.p9 a b
 p10 a b := by exact h.p10 a b
 p11 a := by obtain ⟨g, e, hs⟩ := h.p11 a; exact ⟨g, e, hs.only k⟩
end Go.Proofs.Ytmfgehfbipnngaa
