/- Rows of tuples in memory, and a tuple in six cells. -/
import Derived.Test.YthicofnjehpalaaGreatJ18
import Derived.Deep.QuietTactic
import Derived.BigQuiet
import Derived.Test.YthicofnjehpalaaGreatJ16
import Derived.Test.YthicofnjehpalaaGreatMarkTup
namespace Go.Proofs.YthicofnjehpalaaGreat
open Go.ChangeShapes Go.WideShapes Go.ChangeAt Go.RowKit Go.Maps
open Pl

/-- six cells of a tuple's own block -/
def Six (w : World) (g : Nat) (t : Tp) : Prop := w.cell? ⟨g, 0, none⟩ = some (.string t.a) ∧ w.cell? ⟨g, 1, none⟩ = some (.string t.b) ∧ w.cell? ⟨g, 2, none⟩ = some (.string t.r) ∧ w.cell? ⟨g, 3, none⟩ = some (.string t.c) ∧ w.cell? ⟨g, 4, none⟩ = some (.string t.d) ∧ w.cell? ⟨g, 5, none⟩ = some (.string t.s) ∧ g < w.heap.size
theorem Six.below {w w' : World} {g : Nat} {t : Tp} (h : Six w g t) (hb : Below w.heap.size w w') : Six w' g t :=
  ⟨mK hb h.2.2.2.2.2.2 h.1, mK hb h.2.2.2.2.2.2 h.2.1, mK hb h.2.2.2.2.2.2 h.2.2.1, mK hb h.2.2.2.2.2.2 h.2.2.2.1, mK hb h.2.2.2.2.2.2 h.2.2.2.2.1, mK hb h.2.2.2.2.2.2 h.2.2.2.2.2.1, Nat.lt_of_lt_of_le h.2.2.2.2.2.2 hb.size⟩
theorem six_new (w : World) (t : Tp) (T : TypeId) : Six (w.alloc (.cells #[.string t.a, .string t.b, .string t.r, .string t.c, .string t.d, .string t.s] T)) w.heap.size t := by
  refine ⟨?_, ?_, ?_, ?_, ?_, ?_, ?_⟩ <;> simp

theorem Six.grown {w w' : World} {g : Nat} {t : Tp} {row : Option Nat} (h : Six w g t) (hg : w.grownBy w' row) (hne : some g ≠ row) : Six w' g t :=
  ⟨hg.cell h.1 hne, hg.cell h.2.1 hne, hg.cell h.2.2.1 hne, hg.cell h.2.2.2.1 hne, hg.cell h.2.2.2.2.1 hne, hg.cell h.2.2.2.2.2.1 hne, Nat.lt_of_lt_of_le h.2.2.2.2.2.2 hg.size⟩
theorem HID {p : Prop} (h : p) : Hid p := h

end Go.Proofs.YthicofnjehpalaaGreat

/- Lists of tuples in memory of their own; two lists of tuples that are the same are told so. -/
namespace Go.Proofs.YthicofnjehpalaaGreat
set_option maxRecDepth 100000
open Go.ChangeShapes Go.WideShapes Go.ChangeAt Go.RowKit
open Pl
/-- a list in memory of its own -/
def OwnL (B : Nat) (w : World) (ad : Option Addr) (L : List Tp) : Prop := Sl w ad L ∧ (L ≠ [] → ∃ g, ad = some ⟨g, 0, none⟩ ∧ B ≤ g ∧ Free w g)
theorem ownL_nil {B : Nat} {w : World} {ad : Option Addr} {L : List Tp} (h : L = []) : OwnL B w ad L := ⟨.inl h, fun k => absurd h k⟩
theorem OwnL.mono {B B' : Nat} {w : World} {ad : Option Addr} {L : List Tp} (h : OwnL B w ad L) (hB : B' ≤ B) : OwnL B' w ad L := ⟨h.1, fun k => by obtain ⟨g, e, h1, h2⟩ := h.2 k; exact ⟨g, e, Nat.le_trans hB h1, h2⟩⟩
theorem eqTupleS_none (ad ad' : Option Addr) (cap cap' : Nat) (w : World) :
    Calls Tryz.prog 10 #[.slice ad 0 cap, .slice ad' 0 cap'] w fun e w' => e = .returned (.bool true) ∧ Below w.heap.size w w' := by
  go_enter Tryz.func10, Tryz.ntmps10
  go_wp2
  refine wp_loop_rounds 1 ?_
  rw [rounds_succ]
  go_wp2
  go_ret
  exact ⟨rfl, Below.refl _ _⟩
theorem eqTupleS_any (ad ad' : Option Addr) (cap cap' : Nat) (ts : List Tp) (w : World) (hlen : ts.length ≤ maxLen) (hs : Sl w ad ts) (hs' : Sl w ad' ts) :
    Calls Tryz.prog 10 #[.slice ad ts.length cap, .slice ad' ts.length cap'] w fun e w' => e = .returned (.bool true) ∧ Below w.heap.size w w' := by
  by_cases h : ts = []
  · subst h; exact eqTupleS_none ad ad' cap cap' w
  · rcases hs with h1 | ⟨b, off, rfl, hb, hr⟩
    · exact absurd h1 h
    rcases hs' with h1 | ⟨b', off', rfl, hb', hr'⟩
    · exact absurd h1 h
    exact eqTupleS_same b b' off off' cap cap' ts w hlen hr hb hr' hb'
theorem sl_lt {w : World} {ad : Option Addr} {L : List Tp} (h : Sl w ad L) (hne : L ≠ []) {g o : Nat} (e : ad = some ⟨g, o, none⟩) : g < w.heap.size := by
  rcases h with h | ⟨b, off, e2, hb, -⟩
  · exact absurd h hne
  · rw [e] at e2; injection e2 with e2; injection e2 with e2 e3; omega
theorem OwnL.later {B : Nat} {w w' : World} {ad : Option Addr} {L : List Tp} (h : OwnL B w ad L) (hb : Below w.heap.size w w') : OwnL B w' ad L := ⟨h.1.below hb, fun hne => by
  obtain ⟨g, e, h1, h2⟩ := h.2 hne
  exact ⟨g, e, h1, fun j => mF hb (sl_lt h.1 hne e) (h2 j)⟩⟩
theorem OwnL.chg {B : Nat} {S : Nat → Prop} {w w' : World} {ad : Option Addr} {L : List Tp} (h : OwnL B w ad L) (hc : Chg S w w') (hn : ∀ g, B ≤ g → ¬ S g) : OwnL B w' ad L := ⟨h.1.chg hc (fun g o hne e => by
    obtain ⟨g', e', h1, -⟩ := h.2 hne
    rw [e] at e'; injection e' with e'; injection e' with e' e3
    exact hn g (by omega)), fun hne => by
  obtain ⟨g, e, h1, h2⟩ := h.2 hne
  exact ⟨g, e, h1, hc.free g (sl_lt h.1 hne e) h2⟩⟩
theorem Six.chg {S : Nat → Prop} {w w' : World} {g : Nat} {t : Tp} (h : Six w g t) (hc : Chg S w w') (hn : ¬ S g) : Six w' g t := by
  obtain ⟨h0, h1, h2, h3, h4, h5, hl⟩ := h
  exact ⟨by rw [hc.cell hl hn]; exact h0, by rw [hc.cell hl hn]; exact h1, by rw [hc.cell hl hn]; exact h2, by rw [hc.cell hl hn]; exact h3, by rw [hc.cell hl hn]; exact h4, by rw [hc.cell hl hn]; exact h5, Nat.lt_of_lt_of_le hl hc.size⟩
end Go.Proofs.YthicofnjehpalaaGreat
