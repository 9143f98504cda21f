/- Contracts of the drawing's reader: its next byte, a number below another one. What it answers is left open but for its bounds. -/
import Derived.Test.YtgifbgcnlijjiaaObjects
import Derived.Deep.QuietTactic
import Derived.BigQuiet
import Derived.WalkSmall
import Derived.WalkSpells
namespace Go.Proofs.Ytgifbgcnlijjiaa
open Go.ChangeShapes Go.WideShapes Go.ChangeAt Go.RowKit
open Pl

/-- a reader lies in block R: its bytes are those of a slice that came in, its place is within them -/
structure Rd (w : World) (R : Nat) (ad : Option Addr) (len cap : Nat) : Prop where
  lt : R < w.heap.size
  code : w.cell? ⟨R, 0, none⟩ = some (.slice ad len cap)
  place : ∃ p : Nat, w.cell? ⟨R, 1, none⟩ = some (.int .i64 p) ∧ p ≤ len
  free : w.frozen? ⟨R, 1, none⟩ = false
  bytes : 0 < len → ∃ b off, ad = some ⟨b, off, none⟩ ∧ b ≠ R ∧ b < w.heap.size ∧ ∀ i, i < len → ∃ c : Int, 0 ≤ c ∧ c ≤ 255 ∧ w.cell? ⟨b, off + i, none⟩ = some (.int .u8 c)
  small : len ≤ maxLen

theorem Rd.below {w w' : World} {R : Nat} {ad : Option Addr} {len cap : Nat} (h : Rd w R ad len cap) (hb : Below w.heap.size w w') : Rd w' R ad len cap where
  lt := Nat.lt_of_lt_of_le h.lt hb.size
  code := by rw [hb.cell (p := ⟨R, 0, none⟩) h.lt]; exact h.code
  place := by obtain ⟨p, hp, hl⟩ := h.place; exact ⟨p, by rw [hb.cell (p := ⟨R, 1, none⟩) h.lt]; exact hp, hl⟩
  free := by rw [hb.frozen (p := ⟨R, 1, none⟩) h.lt]; exact h.free
  bytes h0 := by
    obtain ⟨b, off, e, hne, hbl, hc⟩ := h.bytes h0
    refine ⟨b, off, e, hne, Nat.lt_of_lt_of_le hbl hb.size, fun i hi => ?_⟩
    obtain ⟨c, c0, c1, hcc⟩ := hc i hi
    exact ⟨c, c0, c1, by rw [hb.cell (p := ⟨b, off + i, none⟩) hbl]; exact hcc⟩
  small := h.small

/-- the reader goes on by one byte -/
theorem Rd.step {w : World} {R p : Nat} {ad : Option Addr} {len cap : Nat} (h : Rd w R ad len cap) (hp : p + 1 ≤ len) : Rd (w.setCell ⟨R, 1, none⟩ (.int .i64 ((p : Int) + 1))) R ad len cap where
  lt := by simpa using h.lt
  code := by
    rw [show (w.setCell ⟨R, 1, none⟩ (.int .i64 ((p : Int) + 1))).cell? ⟨R, 0, none⟩ = w.cell? ⟨R, 0, none⟩ from by apply World.cell?_setCell_other; intro e; cases e]
    exact h.code
  place := by
    obtain ⟨q, hq, -⟩ := h.place
    exact ⟨p + 1, by rw [show (w.setCell ⟨R, 1, none⟩ (.int .i64 ((p : Int) + 1))).cell? ⟨R, 1, none⟩ = some (.int .i64 ((p : Int) + 1)) from by apply World.cell?_setCell_same; exact hq]; simp, hp⟩
  free := by simpa using h.free
  bytes h0 := by
    obtain ⟨b, off, e, hne, hbl, hc⟩ := h.bytes h0
    refine ⟨b, off, e, hne, by simpa using hbl, fun i hi => ?_⟩
    obtain ⟨c, c0, c1, hcc⟩ := hc i hi
    refine ⟨c, c0, c1, ?_⟩
    rw [show (w.setCell ⟨R, 1, none⟩ (.int .i64 ((p : Int) + 1))).cell? ⟨b, off + i, none⟩ = w.cell? ⟨b, off + i, none⟩ from by apply World.cell?_setCell_other; intro e; exact hne (congrArg Addr.block e).symm]
    exact hcc
  small := h.small

/-- all but the reader's own block is as it was; new blocks may have come -/
def Only (R : Nat) (w w' : World) : Prop := w.grownBy w' (some R)
theorem Only.refl (R : Nat) (w : World) : Only R w w := ⟨rfl, rfl, rfl, Nat.le_refl _, fun _ _ _ => rfl⟩
theorem Only.trans {R : Nat} {a b c : World} (h : Only R a b) (k : Only R b c) : Only R a c :=
  ⟨k.os.trans h.os, k.tape.trans h.tape, k.output.trans h.output, Nat.le_trans h.size k.size, fun i hi hr => (k.block i (Nat.lt_of_lt_of_le hi h.size) hr).trans (h.block i hi hr)⟩
theorem Only.drewN {R : Nat} {a b : World} (h : Only R a b) (n : Nat) : Only R a (b.drewN n) := ⟨h.os, h.tape, h.output, h.size, h.block⟩
theorem Only.set {R : Nat} {a b : World} (h : Only R a b) (o : Nat) (v : Value) : Only R a (b.setCell ⟨R, o, none⟩ v) :=
  ⟨h.os, h.tape, h.output, by simpa using h.size, fun i hi hr => (Below.heap_setCell b ⟨R, o, none⟩ v i (fun e => hr (by rw [e]))).trans (h.block i hi hr)⟩
theorem Only.below {R : Nat} {a b c : World} (h : Only R a b) (k : Below b.heap.size b c) : Only R a c :=
  ⟨k.os.trans h.os, k.tape.trans h.tape, k.output.trans h.output, Nat.le_trans h.size k.size, fun i hi hr => (k.block i (Nat.lt_of_lt_of_le hi h.size)).trans (h.block i hi hr)⟩
theorem Only.of_below {R : Nat} {b c : World} (k : Below b.heap.size b c) : Only R b c := (Only.refl R b).below k
theorem Only.cell {R : Nat} {w w' : World} (h : Only R w w') {b o : Nat} (hb : b < w.heap.size) (hne : b ≠ R) : w'.cell? ⟨b, o, none⟩ = w.cell? ⟨b, o, none⟩ :=
  World.cell?_of_block (w := w) (h.block b hb (fun e => hne (by injection e)))
theorem Only.frozen {R : Nat} {w w' : World} (h : Only R w w') {b o : Nat} (hb : b < w.heap.size) (hne : b ≠ R) : w'.frozen? ⟨b, o, none⟩ = w.frozen? ⟨b, o, none⟩ :=
  World.frozen?_of_block (w := w) (h.block b hb (fun e => hne (by injection e)))
theorem Only.toBelow {R B : Nat} {a w w' : World} (h : Below B a w) (k : Only R w w') (hB : B ≤ w.heap.size) (hR : B ≤ R) : Below B a w' :=
  h.grown k hB (fun i hi => by injection hi with e; omega)

set_option maxHeartbeats 1000000 in
theorem next_any (R : Nat) (ad : Option Addr) (len cap : Nat) (w : World) (h : Rd w R ad len cap) :
    Calls Try.prog 68 #[.pointer (some ⟨R, 0, none⟩)] w fun e w' => (∃ x : Int, e = .returned (.int .i64 x) ∧ 0 ≤ x ∧ x ≤ 255) ∧ Rd w' R ad len cap ∧ Only R w w' := by
  obtain ⟨p, hp, hpl⟩ := h.place
  have hc := h.code
  have hsm := h.small
  unfold maxLen at hsm
  have H : Hid (Rd w R ad len cap) := h
  by_cases hlt : p < len
  · obtain ⟨b, off, rfl, hne, hbl, hbytes⟩ := h.bytes (by omega)
    obtain ⟨c, c0, c1, hcc⟩ := hbytes p hlt
    have hfz := h.free
    have hnl : decide ((len : Int) ≤ (p : Int)) = false := by simp; omega
    have HS : Hid (Rd (w.setCell ⟨R, 1, none⟩ (.int .i64 ((p : Int) + 1))) R (some ⟨b, off, none⟩) len cap) := h.step (by omega)
    clear hbytes h
    go_enter Try.func68, Try.ntmps68
    go_wp2
    go_quiet (fail)
    go_wp2
    have e1 : (p : Int) + 1 - 1 = (p : Int) := by omega
    have e2 : (0 : Int) ≤ (p : Int) := by omega
    have e3 : (p : Int) < (len : Int) := by omega
    have hw : IntKind.i64.wrap (p : Int) = (p : Int) := by rw [IntKind.wrap_i64]; omega
    have hcw : IntKind.i64.wrap c = c := by rw [IntKind.wrap_i64]; omega
    have x1 : (w.setCell ⟨R, 1, none⟩ (.int .i64 ((p : Int) + 1))).cell? ⟨b, off + p, none⟩ = some (.int .u8 c) := by
      rw [show (w.setCell ⟨R, 1, none⟩ (.int .i64 ((p : Int) + 1))).cell? ⟨b, off + p, none⟩ = w.cell? ⟨b, off + p, none⟩ from by apply World.cell?_setCell_other; intro e; exact hne (congrArg Addr.block e).symm]
      exact hcc
    go_quiet (fail)
    go_wp2
    go_ret
    exact ⟨⟨c, rfl, c0, c1⟩, HS.out.below ⟨rfl, rfl, rfl, Nat.le_refl _, fun _ _ => rfl⟩, (((Only.refl _ _).drewN _).set _ _).drewN _⟩
  · have hge : decide ((len : Int) ≤ (p : Int)) = true := by simp; omega
    clear h
    go_enter Try.func68, Try.ntmps68
    go_wp2
    go_quiet (fail)
    go_wp2
    go_ret
    exact ⟨⟨0, rfl, by omega, by omega⟩, H.out.below ((below_drewN (Below.refl _ _) _)), (Only.refl _ _).drewN _⟩

theorem below_any (R : Nat) (ad : Option Addr) (len cap : Nat) (n : Int) (w : World) (h : Rd w R ad len cap) (h1 : 2 ≤ n) (h2 : n ≤ 256) :
    Calls Try.prog 46 #[.pointer (some ⟨R, 0, none⟩), .int .i64 n] w fun e w' => (∃ x : Int, e = .returned (.int .i64 x) ∧ 0 ≤ x ∧ x < n) ∧ Rd w' R ad len cap ∧ Only R w w' := by
  have H : Hid (Rd w R ad len cap) := h
  clear h
  have hne : (n == 0) = false := by simp; omega
  go_enter Try.func46, Try.ntmps46
  go_wp2_with fail
  refine (next_any R ad len cap _ H.out).mono ?_
  rintro e w1 ⟨⟨x, rfl, hx0, hx1⟩, hR1, hO1⟩
  have HR : Hid (Rd w1 R ad len cap) := hR1
  have HO : Hid (Only R w w1) := hO1
  clear hR1 hO1
  go_wp2
  go_ret
  exact ⟨⟨_, rfl, Int.emod_nonneg _ (by omega), Int.emod_lt_of_pos _ (by omega)⟩, HR.out, HO.out⟩

theorem once_any (R : Nat) (ad : Option Addr) (len cap : Nat) (n : Int) (w : World) (h : Rd w R ad len cap) (h1 : 2 ≤ n) (h2 : n ≤ 256) :
    Calls Try.prog 45 #[.pointer (some ⟨R, 0, none⟩), .int .i64 n] w fun e w' => (∃ x : Bool, e = .returned (.bool x)) ∧ Rd w' R ad len cap ∧ Only R w w' := by
  have H : Hid (Rd w R ad len cap) := h
  clear h
  go_enter Try.func45, Try.ntmps45
  go_wp2_with fail
  refine (below_any R ad len cap n _ H.out h1 h2).mono ?_
  rintro e w1 ⟨⟨x, rfl, hx0, hx1⟩, hR1, hO1⟩
  have HR : Hid (Rd w1 R ad len cap) := hR1
  have HO : Hid (Only R w w1) := hO1
  clear hR1 hO1
  go_wp2
  go_ret
  exact ⟨⟨_, rfl⟩, HR.out, HO.out⟩

end Go.Proofs.Ytgifbgcnlijjiaa
