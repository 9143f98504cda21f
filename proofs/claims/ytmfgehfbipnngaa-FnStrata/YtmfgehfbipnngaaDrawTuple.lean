/- The contract of the drawing of a tuple: six short strings; nothing but the reader's place has changed. -/
import Derived.Test.YtmfgehfbipnngaaDrawObj
import Derived.Test.YtmfgehfbipnngaaRegionGen
namespace Go.Proofs.Ytmfgehfbipnngaa
open Go.ChangeShapes Go.WideShapes Go.ChangeAt Go.RowKit
open Pl
theorem Only.alloc {R : Nat} {a b : World} (h : Only R a b) (o : Obj) : Only R a (b.alloc o) := h.below ((Below.refl _ _).alloc (Nat.le_refl _) _)
theorem Rd.alloc {w : World} {R : Nat} {ad : Option Addr} {len cap : Nat} (h : Rd w R ad len cap) (o : Obj) : Rd (w.alloc o) R ad len cap := h.below ((Below.refl _ _).alloc (Nat.le_refl _) _)
theorem cell_al {w : World} {a : Addr} {v : Value} (h : w.cell? a = some v) (o : Obj) : (w.alloc o).cell? a = some v := cell_later ((Below.refl _ _).alloc (Nat.le_refl _) _) h
def Ob (w : World) (R g : Nat) (a b : ByteArray) : Prop := g ≠ R ∧ g < w.heap.size ∧ w.cell? ⟨g, 0, none⟩ = some (.string a) ∧ w.cell? ⟨g, 1, none⟩ = some (.string b)
theorem Ob.only {w w' : World} {R g : Nat} {a b : ByteArray} (h : Ob w R g a b) (k : Only R w w') : Ob w' R g a b :=
 ⟨h.1, Nat.lt_of_lt_of_le h.2.1 k.size, by rw [k.cell h.2.1 h.1]; exact h.2.2.1, by rw [k.cell h.2.1 h.1]; exact h.2.2.2⟩
theorem Ob.alloc {w : World} {R g : Nat} {a b : ByteArray} (h : Ob w R g a b) (o : Obj) : Ob (w.alloc o) R g a b := h.only ((Only.refl R w).alloc o)
def Res (w : World) (R n : Nat) : Prop := n ≠ R ∧ n < w.heap.size ∧ (∀ o, w.frozen? ⟨n, o, none⟩ = false) ∧ ∀ o, o < 6 → w.cell? ⟨n, o, none⟩ = some (.string ⟨#[]⟩)
theorem Res.only {w w' : World} {R n : Nat} (h : Res w R n) (k : Only R w w') : Res w' R n :=
 ⟨h.1, Nat.lt_of_lt_of_le h.2.1 k.size, fun o => by rw [k.frozen h.2.1 h.1]; exact h.2.2.1 o, fun o ho => by rw [k.cell h.2.1 h.1]; exact h.2.2.2 o ho⟩
structure Kd where
 s : Value ⊕ Nat ⊕ Nat ⊕ Nat ⊕ Unit ⊕ Unit ⊕ Unit
def Kd.ok (R : Nat) (w : World) (v : Value) : Kd → Prop
 | ⟨.inl u⟩ => v = u
 | ⟨.inr (.inl n)⟩ => ∃ g, v = .slice (some ⟨g, 0, none⟩) n n ∧ Strs w R g n
 | ⟨.inr (.inr (.inl n))⟩ => ∃ x : Nat, v = .int .i64 (x : Int) ∧ x < n
 | ⟨.inr (.inr (.inr (.inl n)))⟩ => ∃ g x, v = .pointer (some ⟨g, x, none⟩) ∧ x < n ∧ Strs w R g n
 | ⟨.inr (.inr (.inr (.inr (.inl _))))⟩ => ∃ t : ByteArray, v = .string t ∧ t.size ≤ 20
 | ⟨.inr (.inr (.inr (.inr (.inr (.inl _)))))⟩ => ∃ a b : ByteArray, v = .agg #[.string a, .string b] ∧ a.size ≤ 20 ∧ b.size ≤ 20
 | ⟨.inr (.inr (.inr (.inr (.inr (.inr _)))))⟩ => ∃ a b r c d s : ByteArray, v = .agg #[.string a, .string b, .string r, .string c, .string d, .string s] ∧ a.size ≤ 20 ∧ b.size ≤ 20 ∧ r.size ≤ 20 ∧ c.size ≤ 20 ∧ d.size ≤ 20 ∧ s.size ≤ 20
theorem Kd.only {R : Nat} {w w' : World} {v : Value} (h : Only R w w') (k : Kd) (hk : k.ok R w v) : k.ok R w' v := by
 match k, hk with
 | ⟨.inl _⟩, hk => exact hk
 | ⟨.inr (.inl _)⟩, hk => obtain ⟨g, e, hs⟩ := hk; exact ⟨g, e, hs.only h⟩
 | ⟨.inr (.inr (.inl _))⟩, hk => exact hk
 | ⟨.inr (.inr (.inr (.inl _)))⟩, hk => obtain ⟨g, x, e, hx, hs⟩ := hk; exact ⟨g, x, e, hx, hs.only h⟩
 | ⟨.inr (.inr (.inr (.inr (.inl _))))⟩, hk => exact hk
 | ⟨.inr (.inr (.inr (.inr (.inr (.inl _)))))⟩, hk => exact hk
 | ⟨.inr (.inr (.inr (.inr (.inr (.inr _)))))⟩, hk => exact hk
end Go.Proofs.Ytmfgehfbipnngaa
