/- Contracts of the drawing's reader: its next byte, a number below another one. What it answers is left open but for its bounds. -/
import Derived.Test.YtjmbgpdbnffkpaaJ1
import Derived.Below
import Derived.Deep.QuietTactic
import Derived.BigQuiet
import Derived.WalkSmall
import Derived.WalkSpells
import Derived.Test.YtjmbgpdbnffkpaaJ6
import Derived.Test.YtjmbgpdbnffkpaaRegionGen
namespace Go.Proofs.Ytjmbgpdbnffkpaa
open Go.ChangeShapes Go.WideShapes Go.ChangeAt Go.RowKit
open Pl

/-- a reader lies in block R: its bytes are those of a slice that came in, its place is within them -/
structure Rd (w : World) (R : Nat) (ad : Option Addr) (len cap : Nat) : Prop where
  lt : R < w.heap.size
  code : w.cell? ⟨R, 0, none⟩ = some (.slice ad len cap)
  place : ∃ p : Nat, w.cell? ⟨R, 1, none⟩ = some (.int .i64 p) ∧ p ≤ len
  free : w.frozen? ⟨R, 1, none⟩ = false
  bytes : 0 < len → ∃ b off, ad = some ⟨b, off, none⟩ ∧ b ≠ R ∧ b < w.heap.size ∧ ∀ i, i < len → ∃ c : Int, 0 ≤ c ∧ c ≤ 255 ∧ w.cell? ⟨b, off + i, none⟩ = some (.int .u8 c)
  small : len ≤ maxLen

theorem Rd.below {w w' : World} {R : Nat} {ad : Option Addr} {len cap : Nat} (h : Rd w R ad len cap) (hb : Below w.heap.size w w') : Rd w' R ad len cap where
  lt := Nat.lt_of_lt_of_le h.lt hb.size
  code := by rw [hb.cell (p := ⟨R, 0, none⟩) h.lt]; exact h.code
  place := by obtain ⟨p, hp, hl⟩ := h.place; exact ⟨p, by rw [hb.cell (p := ⟨R, 1, none⟩) h.lt]; exact hp, hl⟩
  free := by rw [hb.frozen (p := ⟨R, 1, none⟩) h.lt]; exact h.free
  bytes h0 := by
    obtain ⟨b, off, e, hne, hbl, hc⟩ := h.bytes h0
    refine ⟨b, off, e, hne, Nat.lt_of_lt_of_le hbl hb.size, fun i hi => ?_⟩
    obtain ⟨c, c0, c1, hcc⟩ := hc i hi
    exact ⟨c, c0, c1, by rw [hb.cell (p := ⟨b, off + i, none⟩) hbl]; exact hcc⟩
  small := h.small

/-- the reader goes on by one byte -/
theorem Rd.step {w : World} {R p : Nat} {ad : Option Addr} {len cap : Nat} (h : Rd w R ad len cap) (hp : p + 1 ≤ len) : Rd (w.setCell ⟨R, 1, none⟩ (.int .i64 ((p : Int) + 1))) R ad len cap where
  lt := by simpa using h.lt
  code := by
    rw [show (w.setCell ⟨R, 1, none⟩ (.int .i64 ((p : Int) + 1))).cell? ⟨R, 0, none⟩ = w.cell? ⟨R, 0, none⟩ from by apply World.cell?_setCell_other; intro e; cases e]
    exact h.code
  place := by
    obtain ⟨q, hq, -⟩ := h.place
    exact ⟨p + 1, by rw [show (w.setCell ⟨R, 1, none⟩ (.int .i64 ((p : Int) + 1))).cell? ⟨R, 1, none⟩ = some (.int .i64 ((p : Int) + 1)) from by apply World.cell?_setCell_same; exact hq]; simp, hp⟩
  free := by simpa using h.free
  bytes h0 := by
    obtain ⟨b, off, e, hne, hbl, hc⟩ := h.bytes h0
    refine ⟨b, off, e, hne, by simpa using hbl, fun i hi => ?_⟩
    obtain ⟨c, c0, c1, hcc⟩ := hc i hi
    refine ⟨c, c0, c1, ?_⟩
    rw [show (w.setCell ⟨R, 1, none⟩ (.int .i64 ((p : Int) + 1))).cell? ⟨b, off + i, none⟩ = w.cell? ⟨b, off + i, none⟩ from by apply World.cell?_setCell_other; intro e; exact hne (congrArg Addr.block e).symm]
    exact hcc
  small := h.small

/-- all but the reader's own block is as it was; new blocks may have come -/
def Only (R : Nat) (w w' : World) : Prop := w.grownBy w' (some R)
theorem Only.refl (R : Nat) (w : World) : Only R w w := ⟨rfl, rfl, rfl, Nat.le_refl _, fun _ _ _ => rfl⟩
theorem Only.trans {R : Nat} {a b c : World} (h : Only R a b) (k : Only R b c) : Only R a c :=
  ⟨k.os.trans h.os, k.tape.trans h.tape, k.output.trans h.output, Nat.le_trans h.size k.size, fun i hi hr => (k.block i (Nat.lt_of_lt_of_le hi h.size) hr).trans (h.block i hi hr)⟩
theorem Only.drewN {R : Nat} {a b : World} (h : Only R a b) (n : Nat) : Only R a (b.drewN n) := ⟨h.os, h.tape, h.output, h.size, h.block⟩
theorem Only.set {R : Nat} {a b : World} (h : Only R a b) (o : Nat) (v : Value) : Only R a (b.setCell ⟨R, o, none⟩ v) :=
  ⟨h.os, h.tape, h.output, by simpa using h.size, fun i hi hr => (Below.heap_setCell b ⟨R, o, none⟩ v i (fun e => hr (by rw [e]))).trans (h.block i hi hr)⟩
theorem Only.below {R : Nat} {a b c : World} (h : Only R a b) (k : Below b.heap.size b c) : Only R a c :=
  ⟨k.os.trans h.os, k.tape.trans h.tape, k.output.trans h.output, Nat.le_trans h.size k.size, fun i hi hr => (k.block i (Nat.lt_of_lt_of_le hi h.size)).trans (h.block i hi hr)⟩
theorem Only.of_below {R : Nat} {b c : World} (k : Below b.heap.size b c) : Only R b c := (Only.refl R b).below k
theorem Only.cell {R : Nat} {w w' : World} (h : Only R w w') {b o : Nat} (hb : b < w.heap.size) (hne : b ≠ R) : w'.cell? ⟨b, o, none⟩ = w.cell? ⟨b, o, none⟩ :=
  World.cell?_of_block (w := w) (h.block b hb (fun e => hne (by injection e)))
theorem Only.frozen {R : Nat} {w w' : World} (h : Only R w w') {b o : Nat} (hb : b < w.heap.size) (hne : b ≠ R) : w'.frozen? ⟨b, o, none⟩ = w.frozen? ⟨b, o, none⟩ :=
  World.frozen?_of_block (w := w) (h.block b hb (fun e => hne (by injection e)))
theorem Only.toBelow {R B : Nat} {a w w' : World} (h : Below B a w) (k : Only R w w') (hB : B ≤ w.heap.size) (hR : B ≤ R) : Below B a w' :=
  h.grown k hB (fun i hi => by injection hi with e; omega)

set_option maxHeartbeats 1000000 in
theorem next_any (R : Nat) (ad : Option Addr) (len cap : Nat) (w : World) (h : Rd w R ad len cap) :
    Calls Try.prog 79 #[.pointer (some ⟨R, 0, none⟩)] w fun e w' => (∃ x : Int, e = .returned (.int .i64 x) ∧ 0 ≤ x ∧ x ≤ 255) ∧ Rd w' R ad len cap ∧ Only R w w' := by
  obtain ⟨p, hp, hpl⟩ := h.place
  have hc := h.code
  have hsm := h.small
  unfold maxLen at hsm
  have H : Hid (Rd w R ad len cap) := h
  by_cases hlt : p < len
  · obtain ⟨b, off, rfl, hne, hbl, hbytes⟩ := h.bytes (by omega)
    obtain ⟨c, c0, c1, hcc⟩ := hbytes p hlt
    have hfz := h.free
    have hnl : decide ((len : Int) ≤ (p : Int)) = false := by simp; omega
    have HS : Hid (Rd (w.setCell ⟨R, 1, none⟩ (.int .i64 ((p : Int) + 1))) R (some ⟨b, off, none⟩) len cap) := h.step (by omega)
    clear hbytes h
    go_enter Try.func79, Try.ntmps79
    go_wp2
    go_quiet (fail)
    go_wp2
    have e1 : (p : Int) + 1 - 1 = (p : Int) := by omega
    have e2 : (0 : Int) ≤ (p : Int) := by omega
    have e3 : (p : Int) < (len : Int) := by omega
    have hw : IntKind.i64.wrap (p : Int) = (p : Int) := by rw [IntKind.wrap_i64]; omega
    have hcw : IntKind.i64.wrap c = c := by rw [IntKind.wrap_i64]; omega
    have x1 : (w.setCell ⟨R, 1, none⟩ (.int .i64 ((p : Int) + 1))).cell? ⟨b, off + p, none⟩ = some (.int .u8 c) := by
      rw [show (w.setCell ⟨R, 1, none⟩ (.int .i64 ((p : Int) + 1))).cell? ⟨b, off + p, none⟩ = w.cell? ⟨b, off + p, none⟩ from by apply World.cell?_setCell_other; intro e; exact hne (congrArg Addr.block e).symm]
      exact hcc
    go_quiet (fail)
    go_wp2
    go_ret
    exact ⟨⟨c, rfl, c0, c1⟩, HS.out.below ⟨rfl, rfl, rfl, Nat.le_refl _, fun _ _ => rfl⟩, (((Only.refl _ _).drewN _).set _ _).drewN _⟩
  · have hge : decide ((len : Int) ≤ (p : Int)) = true := by simp; omega
    clear h
    go_enter Try.func79, Try.ntmps79
    go_wp2
    go_quiet (fail)
    go_wp2
    go_ret
    exact ⟨⟨0, rfl, by omega, by omega⟩, H.out.below ((below_drewN (Below.refl _ _) _)), (Only.refl _ _).drewN _⟩

theorem below_any (R : Nat) (ad : Option Addr) (len cap : Nat) (n : Int) (w : World) (h : Rd w R ad len cap) (h1 : 2 ≤ n) (h2 : n ≤ 256) :
    Calls Try.prog 44 #[.pointer (some ⟨R, 0, none⟩), .int .i64 n] w fun e w' => (∃ x : Int, e = .returned (.int .i64 x) ∧ 0 ≤ x ∧ x < n) ∧ Rd w' R ad len cap ∧ Only R w w' := by
  have H : Hid (Rd w R ad len cap) := h
  clear h
  have hne : (n == 0) = false := by simp; omega
  go_enter Try.func44, Try.ntmps44
  go_wp2_with fail
  refine (next_any R ad len cap _ H.out).mono ?_
  rintro e w1 ⟨⟨x, rfl, hx0, hx1⟩, hR1, hO1⟩
  have HR : Hid (Rd w1 R ad len cap) := hR1
  have HO : Hid (Only R w w1) := hO1
  clear hR1 hO1
  go_wp2
  go_ret
  exact ⟨⟨_, rfl, Int.emod_nonneg _ (by omega), Int.emod_lt_of_pos _ (by omega)⟩, HR.out, HO.out⟩

theorem once_any (R : Nat) (ad : Option Addr) (len cap : Nat) (n : Int) (w : World) (h : Rd w R ad len cap) (h1 : 2 ≤ n) (h2 : n ≤ 256) :
    Calls Try.prog 70 #[.pointer (some ⟨R, 0, none⟩), .int .i64 n] w fun e w' => (∃ x : Bool, e = .returned (.bool x)) ∧ Rd w' R ad len cap ∧ Only R w w' := by
  have H : Hid (Rd w R ad len cap) := h
  clear h
  go_enter Try.func70, Try.ntmps70
  go_wp2_with fail
  refine (below_any R ad len cap n _ H.out h1 h2).mono ?_
  rintro e w1 ⟨⟨x, rfl, hx0, hx1⟩, hR1, hO1⟩
  have HR : Hid (Rd w1 R ad len cap) := hR1
  have HO : Hid (Only R w w1) := hO1
  clear hR1 hO1
  go_wp2
  go_ret
  exact ⟨⟨_, rfl⟩, HR.out, HO.out⟩

end Go.Proofs.Ytjmbgpdbnffkpaa

/- Rows of short strings, kinds of values: what the drawings share. -/
namespace Go.Proofs.Ytjmbgpdbnffkpaa
open Go.ChangeShapes Go.WideShapes Go.ChangeAt Go.RowKit
open Pl

/-- a new row of n short strings -/
def Strs (w : World) (R g n : Nat) : Prop := g ≠ R ∧ g < w.heap.size ∧ ∀ i, i < n → ∃ s : ByteArray, s.size ≤ 20 ∧ w.cell? ⟨g, i, none⟩ = some (.string s)
theorem Strs.only {w w' : World} {R g n : Nat} (h : Strs w R g n) (k : Only R w w') : Strs w' R g n :=
  ⟨h.1, Nat.lt_of_lt_of_le h.2.1 k.size, fun i hi => by obtain ⟨s, hs, hc⟩ := h.2.2 i hi; exact ⟨s, hs, by rw [k.cell h.2.1 h.1]; exact hc⟩⟩
/-- a new object: two cells with short strings -/
def ObjAt (w : World) (R B g : Nat) : Prop := g ≠ R ∧ B ≤ g ∧ g < w.heap.size ∧ (∀ o, w.frozen? ⟨g, o, none⟩ = false) ∧ ∃ a b : ByteArray, a.size ≤ 20 ∧ b.size ≤ 20 ∧ w.cell? ⟨g, 0, none⟩ = some (.string a) ∧ w.cell? ⟨g, 1, none⟩ = some (.string b)
theorem ObjAt.only {w w' : World} {R B g : Nat} (h : ObjAt w R B g) (k : Only R w w') : ObjAt w' R B g := by
  obtain ⟨h1, h2, h3, h4, a, b, ha, hb, ca, cb⟩ := h
  exact ⟨h1, h2, Nat.lt_of_lt_of_le h3 k.size, fun o => by rw [k.frozen h3 h1]; exact h4 o, a, b, ha, hb, by rw [k.cell h3 h1]; exact ca, by rw [k.cell h3 h1]; exact cb⟩

theorem strs_new (w : World) (R : Nat) (hR : R < w.heap.size) {t : TypeId} {xs : List ByteArray} (h : xs.all (fun x => decide (x.size ≤ 20)) = true) : Strs (w.alloc (.cells (xs.map Value.string).toArray t)) R w.heap.size xs.length := by
  refine ⟨by omega, by simp, fun i hi => ⟨xs[i], ?_, ?_⟩⟩
  · rw [List.all_eq_true] at h
    simpa using h xs[i] (List.getElem_mem hi)
  · simp [hi]
theorem objAt_new {w : World} {R B : Nat} {t : TypeId} (hR : R < w.heap.size) (hB : B ≤ w.heap.size) : ObjAt (w.alloc (.cells #[.string ⟨#[]⟩, .string ⟨#[]⟩] t)) R B w.heap.size :=
  ⟨by omega, hB, by simp, fun o => by simp, ⟨#[]⟩, ⟨#[]⟩, by decide, by decide, by simp, by simp⟩

theorem objAt_set {w : World} {R B g : Nat} {x y : Value} {a b : ByteArray} (h1 : g ≠ R) (h2 : B ≤ g) (h3 : g < w.heap.size) (h4 : ∀ o, w.frozen? ⟨g, o, none⟩ = false) (hx : w.cell? ⟨g, 0, none⟩ = some x) (hy : w.cell? ⟨g, 1, none⟩ = some y) (ha : a.size ≤ 20) (hb : b.size ≤ 20) :
    ObjAt ((w.setCell ⟨g, 0, none⟩ (.string a)).setCell ⟨g, 1, none⟩ (.string b)) R B g := by
  have n01 : (⟨g, 0, none⟩ : Addr) ≠ ⟨g, 1, none⟩ := by intro e; cases e
  have e1 : (w.setCell ⟨g, 0, none⟩ (.string a)).cell? ⟨g, 1, none⟩ = some y := by
    rw [show (w.setCell ⟨g, 0, none⟩ (.string a)).cell? ⟨g, 1, none⟩ = w.cell? ⟨g, 1, none⟩ from by apply World.cell?_setCell_other; exact n01]; exact hy
  refine ⟨h1, h2, by simpa using h3, fun o => by simpa using h4 o, a, b, ha, hb, ?_, ?_⟩
  · rw [show ((w.setCell ⟨g, 0, none⟩ (.string a)).setCell ⟨g, 1, none⟩ (.string b)).cell? ⟨g, 0, none⟩ = (w.setCell ⟨g, 0, none⟩ (.string a)).cell? ⟨g, 0, none⟩ from by apply World.cell?_setCell_other; exact n01.symm]
    apply World.cell?_setCell_same; exact hx
  · apply World.cell?_setCell_same; exact e1
theorem Rd.setFar {w : World} {R g o : Nat} {ad : Option Addr} {len cap : Nat} {v : Value} (h : Rd w R ad len cap) (hg : g ≠ R) (hb : 0 < len → ∀ b off, ad = some ⟨b, off, none⟩ → b ≠ g) : Rd (w.setCell ⟨g, o, none⟩ v) R ad len cap where
  lt := by simpa using h.lt
  code := by
    rw [show (w.setCell ⟨g, o, none⟩ v).cell? ⟨R, 0, none⟩ = w.cell? ⟨R, 0, none⟩ from by apply World.cell?_setCell_other; intro e; exact hg (congrArg Addr.block e)]; exact h.code
  place := by
    obtain ⟨p, hp, hl⟩ := h.place
    exact ⟨p, by rw [show (w.setCell ⟨g, o, none⟩ v).cell? ⟨R, 1, none⟩ = w.cell? ⟨R, 1, none⟩ from by apply World.cell?_setCell_other; intro e; exact hg (congrArg Addr.block e)]; exact hp, hl⟩
  free := by simpa using h.free
  bytes h0 := by
    obtain ⟨b, off, e, hne, hbl, hc⟩ := h.bytes h0
    refine ⟨b, off, e, hne, by simpa using hbl, fun i hi => ?_⟩
    obtain ⟨c, c0, c1, hcc⟩ := hc i hi
    exact ⟨c, c0, c1, by rw [show (w.setCell ⟨g, o, none⟩ v).cell? ⟨b, off + i, none⟩ = w.cell? ⟨b, off + i, none⟩ from by apply World.cell?_setCell_other; intro e2; exact hb h0 b off e (congrArg Addr.block e2).symm]; exact hcc⟩
  small := h.small
theorem Only.setNew {R g o : Nat} {a b : World} {v : Value} (h : Only R a b) (hg : a.heap.size ≤ g) : Only R a (b.setCell ⟨g, o, none⟩ v) :=
  ⟨h.os, h.tape, h.output, by simpa using h.size, fun i hi hr => (Below.heap_setCell b ⟨g, o, none⟩ v i (by simp; omega)).trans (h.block i hi hr)⟩

theorem getF_set (listed : Array Bool) (i j : Nat) (hi : i < listed.size) : (listed.setIfInBounds i true).getD j false = if j = i then true else listed.getD j false := by
  rw [Array.getD_eq_getD_getElem?, Array.getD_eq_getD_getElem?, Array.getElem?_setIfInBounds]
  by_cases e : i = j
  · subst e; simp [hi]
  · simp [e, Ne.symm e]
theorem getF_old {listed : Array Bool} {i j : Nat} (hi : i < listed.size) (hne : j ≠ i) (h : (listed.setIfInBounds i true).getD j false = true) : listed.getD j false = true := by
  rw [getF_set listed i j hi, if_neg hne] at h; exact h
theorem getF_oldF {listed : Array Bool} {i j : Nat} (hi : i < listed.size) (hne : j ≠ i) (h : (listed.setIfInBounds i true).getD j false = false) : listed.getD j false = false := by
  rw [getF_set listed i j hi, if_neg hne] at h; exact h

theorem Only.alloc {R : Nat} {a b : World} (h : Only R a b) (o : Obj) : Only R a (b.alloc o) := h.below ((Below.refl _ _).alloc (Nat.le_refl _) _)
theorem Rd.alloc {w : World} {R : Nat} {ad : Option Addr} {len cap : Nat} (h : Rd w R ad len cap) (o : Obj) : Rd (w.alloc o) R ad len cap := h.below ((Below.refl _ _).alloc (Nat.le_refl _) _)
theorem cell_al {w : World} {a : Addr} {v : Value} (h : w.cell? a = some v) (o : Obj) : (w.alloc o).cell? a = some v := cell_later ((Below.refl _ _).alloc (Nat.le_refl _) _) h
/-- an object that is only read -/
def Ob (w : World) (R g : Nat) (a b : ByteArray) : Prop := g ≠ R ∧ g < w.heap.size ∧ w.cell? ⟨g, 0, none⟩ = some (.string a) ∧ w.cell? ⟨g, 1, none⟩ = some (.string b)
theorem Ob.only {w w' : World} {R g : Nat} {a b : ByteArray} (h : Ob w R g a b) (k : Only R w w') : Ob w' R g a b :=
  ⟨h.1, Nat.lt_of_lt_of_le h.2.1 k.size, by rw [k.cell h.2.1 h.1]; exact h.2.2.1, by rw [k.cell h.2.1 h.1]; exact h.2.2.2⟩
theorem Ob.alloc {w : World} {R g : Nat} {a b : ByteArray} (h : Ob w R g a b) (o : Obj) : Ob (w.alloc o) R g a b := h.only ((Only.refl R w).alloc o)
theorem ob_new {w : World} {R : Nat} (hR : R < w.heap.size) (t : TypeId) (a b : ByteArray) : Ob (w.alloc (.cells #[.string a, .string b] t)) R w.heap.size a b :=
  ⟨by omega, by simp, by simp, by simp⟩
/-- the six cells of a result that is not told yet -/
def Res (w : World) (R n : Nat) : Prop := n ≠ R ∧ n < w.heap.size ∧ (∀ o, w.frozen? ⟨n, o, none⟩ = false) ∧ ∀ o, o < 6 → w.cell? ⟨n, o, none⟩ = some (.string ⟨#[]⟩)
theorem Res.only {w w' : World} {R n : Nat} (h : Res w R n) (k : Only R w w') : Res w' R n :=
  ⟨h.1, Nat.lt_of_lt_of_le h.2.1 k.size, fun o => by rw [k.frozen h.2.1 h.1]; exact h.2.2.1 o, fun o ho => by rw [k.cell h.2.1 h.1]; exact h.2.2.2 o ho⟩
theorem res_new {w : World} {R : Nat} (hR : R < w.heap.size) (t : TypeId) : Res (w.alloc (.cells #[.string ⟨#[]⟩, .string ⟨#[]⟩, .string ⟨#[]⟩, .string ⟨#[]⟩, .string ⟨#[]⟩, .string ⟨#[]⟩] t)) R w.heap.size := by
  refine ⟨by omega, by simp, fun o => by simp, fun o ho => ?_⟩
  have h6 : o = 0 ∨ o = 1 ∨ o = 2 ∨ o = 3 ∨ o = 4 ∨ o = 5 := by omega
  rcases h6 with rfl | rfl | rfl | rfl | rfl | rfl <;> simp

/-- what kind of value an operation leaves -/
structure Kd where
  s : Value ⊕ Nat ⊕ Nat ⊕ Nat ⊕ Unit ⊕ Unit ⊕ Unit
abbrev Kd.eq (v : Value) : Kd := ⟨.inl v⟩
abbrev Kd.strs (n : Nat) : Kd := ⟨.inr (.inl n)⟩
abbrev Kd.idx (n : Nat) : Kd := ⟨.inr (.inr (.inl n))⟩
abbrev Kd.elt (n : Nat) : Kd := ⟨.inr (.inr (.inr (.inl n)))⟩
abbrev Kd.str : Kd := ⟨.inr (.inr (.inr (.inr (.inl ()))))⟩
abbrev Kd.obj : Kd := ⟨.inr (.inr (.inr (.inr (.inr (.inl ())))))⟩
abbrev Kd.tup : Kd := ⟨.inr (.inr (.inr (.inr (.inr (.inr ())))))⟩

def Kd.ok (R : Nat) (w : World) (v : Value) : Kd → Prop
  | ⟨.inl u⟩ => v = u
  | ⟨.inr (.inl n)⟩ => ∃ g, v = .slice (some ⟨g, 0, none⟩) n n ∧ Strs w R g n
  | ⟨.inr (.inr (.inl n))⟩ => ∃ x : Nat, v = .int .i64 (x : Int) ∧ x < n
  | ⟨.inr (.inr (.inr (.inl n)))⟩ => ∃ g x, v = .pointer (some ⟨g, x, none⟩) ∧ x < n ∧ Strs w R g n
  | ⟨.inr (.inr (.inr (.inr (.inl _))))⟩ => ∃ t : ByteArray, v = .string t ∧ t.size ≤ 20
  | ⟨.inr (.inr (.inr (.inr (.inr (.inl _)))))⟩ => ∃ a b : ByteArray, v = .agg #[.string a, .string b] ∧ a.size ≤ 20 ∧ b.size ≤ 20
  | ⟨.inr (.inr (.inr (.inr (.inr (.inr _)))))⟩ => ∃ a b r c d s : ByteArray, v = .agg #[.string a, .string b, .string r, .string c, .string d, .string s] ∧ a.size ≤ 20 ∧ b.size ≤ 20 ∧ r.size ≤ 20 ∧ c.size ≤ 20 ∧ d.size ≤ 20 ∧ s.size ≤ 20

theorem Kd.only {R : Nat} {w w' : World} {v : Value} (h : Only R w w') (k : Kd) (hk : k.ok R w v) : k.ok R w' v := by
  match k, hk with
  | ⟨.inl _⟩, hk => exact hk
  | ⟨.inr (.inl _)⟩, hk => obtain ⟨g, e, hs⟩ := hk; exact ⟨g, e, hs.only h⟩
  | ⟨.inr (.inr (.inl _))⟩, hk => exact hk
  | ⟨.inr (.inr (.inr (.inl _)))⟩, hk => obtain ⟨g, x, e, hx, hs⟩ := hk; exact ⟨g, x, e, hx, hs.only h⟩
  | ⟨.inr (.inr (.inr (.inr (.inl _))))⟩, hk => exact hk
  | ⟨.inr (.inr (.inr (.inr (.inr (.inl _)))))⟩, hk => exact hk
  | ⟨.inr (.inr (.inr (.inr (.inr (.inr _)))))⟩, hk => exact hk
def kdAt (ks : List Kd) (k : Nat) : Kd := ks.getD k .tup

end Go.Proofs.Ytjmbgpdbnffkpaa
