/- The drawing's reader, for laws over disks: what it answers is left open but for its bounds; drawn ops. -/
import Derived.Test.YtbfimfmfdllejaaOpenDk
import Derived.Test.YtbfimfmfdllejaaDkEnd
import Derived.Deep.QuietTactic
import Derived.BigQuiet
import Derived.WalkSmall
import Derived.WalkSpells
import Derived.ChangeSlices
import Derived.Deep.Slices
namespace Go.Proofs.Ytbfimfmfdllejaa
open Go.ChangeShapes Go.WideShapes Go.ChangeAt Go.RowKit
set_option linter.unusedVariables false

/-- a reader lies in block R: its bytes are those of a slice that came in, its place is within them -/
structure Rd (w : World) (R : Nat) (ad : Option Addr) (len cap : Nat) : Prop where
  lt : R < w.heap.size
  code : w.cell? ⟨R, 0, none⟩ = some (.slice ad len cap)
  place : ∃ p : Nat, w.cell? ⟨R, 1, none⟩ = some (.int .i64 p) ∧ p ≤ len
  free : w.frozen? ⟨R, 1, none⟩ = false
  bytes : 0 < len → ∃ b off, ad = some ⟨b, off, none⟩ ∧ b ≠ R ∧ b < w.heap.size ∧ ∀ i, i < len → ∃ c : Int, 0 ≤ c ∧ c ≤ 255 ∧ w.cell? ⟨b, off + i, none⟩ = some (.int .u8 c)
  small : len ≤ maxLen

theorem Rd.below {w w' : World} {R : Nat} {ad : Option Addr} {len cap : Nat} (h : Rd w R ad len cap) (hb : Below w.heap.size w w') : Rd w' R ad len cap where
  lt := Nat.lt_of_lt_of_le h.lt hb.size
  code := by rw [hb.cell (p := ⟨R, 0, none⟩) h.lt]; exact h.code
  place := by obtain ⟨p, hp, hl⟩ := h.place; exact ⟨p, by rw [hb.cell (p := ⟨R, 1, none⟩) h.lt]; exact hp, hl⟩
  free := by rw [hb.frozen (p := ⟨R, 1, none⟩) h.lt]; exact h.free
  bytes h0 := by
    obtain ⟨b, off, e, hne, hbl, hc⟩ := h.bytes h0
    refine ⟨b, off, e, hne, Nat.lt_of_lt_of_le hbl hb.size, fun i hi => ?_⟩
    obtain ⟨c, c0, c1, hcc⟩ := hc i hi
    exact ⟨c, c0, c1, by rw [hb.cell (p := ⟨b, off + i, none⟩) hbl]; exact hcc⟩
  small := h.small

/-- the reader goes on by one byte -/
theorem Rd.step {w : World} {R p : Nat} {ad : Option Addr} {len cap : Nat} (h : Rd w R ad len cap) (hp : p + 1 ≤ len) : Rd (w.setCell ⟨R, 1, none⟩ (.int .i64 ((p : Int) + 1))) R ad len cap where
  lt := by simpa using h.lt
  code := by
    rw [show (w.setCell ⟨R, 1, none⟩ (.int .i64 ((p : Int) + 1))).cell? ⟨R, 0, none⟩ = w.cell? ⟨R, 0, none⟩ from by apply World.cell?_setCell_other; intro e; cases e]
    exact h.code
  place := by
    obtain ⟨q, hq, -⟩ := h.place
    exact ⟨p + 1, by rw [show (w.setCell ⟨R, 1, none⟩ (.int .i64 ((p : Int) + 1))).cell? ⟨R, 1, none⟩ = some (.int .i64 ((p : Int) + 1)) from by apply World.cell?_setCell_same; exact hq]; simp, hp⟩
  free := by simpa using h.free
  bytes h0 := by
    obtain ⟨b, off, e, hne, hbl, hc⟩ := h.bytes h0
    refine ⟨b, off, e, hne, by simpa using hbl, fun i hi => ?_⟩
    obtain ⟨c, c0, c1, hcc⟩ := hc i hi
    refine ⟨c, c0, c1, ?_⟩
    rw [show (w.setCell ⟨R, 1, none⟩ (.int .i64 ((p : Int) + 1))).cell? ⟨b, off + i, none⟩ = w.cell? ⟨b, off + i, none⟩ from by apply World.cell?_setCell_other; intro e; exact hne (congrArg Addr.block e).symm]
    exact hcc
  small := h.small

/-- all but the reader's own block is as it was; new blocks may have come -/
def Only (R : Nat) (w w' : World) : Prop := w.grownBy w' (some R)
theorem Only.refl (R : Nat) (w : World) : Only R w w := ⟨rfl, rfl, rfl, Nat.le_refl _, fun _ _ _ => rfl⟩
theorem Only.trans {R : Nat} {a b c : World} (h : Only R a b) (k : Only R b c) : Only R a c :=
  ⟨k.os.trans h.os, k.tape.trans h.tape, k.output.trans h.output, Nat.le_trans h.size k.size, fun i hi hr => (k.block i (Nat.lt_of_lt_of_le hi h.size) hr).trans (h.block i hi hr)⟩
theorem Only.drewN {R : Nat} {a b : World} (h : Only R a b) (n : Nat) : Only R a (b.drewN n) := ⟨h.os, h.tape, h.output, h.size, h.block⟩
theorem Only.set {R : Nat} {a b : World} (h : Only R a b) (o : Nat) (v : Value) : Only R a (b.setCell ⟨R, o, none⟩ v) :=
  ⟨h.os, h.tape, h.output, by simpa using h.size, fun i hi hr => (Below.heap_setCell b ⟨R, o, none⟩ v i (fun e => hr (by rw [e]))).trans (h.block i hi hr)⟩
theorem Only.below {R : Nat} {a b c : World} (h : Only R a b) (k : Below b.heap.size b c) : Only R a c :=
  ⟨k.os.trans h.os, k.tape.trans h.tape, k.output.trans h.output, Nat.le_trans h.size k.size, fun i hi hr => (k.block i (Nat.lt_of_lt_of_le hi h.size)).trans (h.block i hi hr)⟩
theorem Only.of_below {R : Nat} {b c : World} (k : Below b.heap.size b c) : Only R b c := (Only.refl R b).below k
theorem Only.cell {R : Nat} {w w' : World} (h : Only R w w') {b o : Nat} (hb : b < w.heap.size) (hne : b ≠ R) : w'.cell? ⟨b, o, none⟩ = w.cell? ⟨b, o, none⟩ :=
  World.cell?_of_block (w := w) (h.block b hb (fun e => hne (by injection e)))
theorem Only.frozen {R : Nat} {w w' : World} (h : Only R w w') {b o : Nat} (hb : b < w.heap.size) (hne : b ≠ R) : w'.frozen? ⟨b, o, none⟩ = w.frozen? ⟨b, o, none⟩ :=
  World.frozen?_of_block (w := w) (h.block b hb (fun e => hne (by injection e)))
theorem Only.toBelow {R B : Nat} {a w w' : World} (h : Below B a w) (k : Only R w w') (hB : B ≤ w.heap.size) (hR : B ≤ R) : Below B a w' :=
  h.grown k hB (fun i hi => by injection hi with e; omega)

set_option maxHeartbeats 1000000 in
theorem next_any (R : Nat) (ad : Option Addr) (len cap : Nat) (w : World) (h : Rd w R ad len cap) :
    Calls Try.prog 85 #[.pointer (some ⟨R, 0, none⟩)] w fun e w' => (∃ x : Int, e = .returned (.int .i64 x) ∧ 0 ≤ x ∧ x ≤ 255) ∧ Rd w' R ad len cap ∧ Only R w w' := by
  obtain ⟨p, hp, hpl⟩ := h.place
  have hc := h.code
  have hsm := h.small
  unfold maxLen at hsm
  have H : Hid (Rd w R ad len cap) := h
  by_cases hlt : p < len
  · obtain ⟨b, off, rfl, hne, hbl, hbytes⟩ := h.bytes (by omega)
    obtain ⟨c, c0, c1, hcc⟩ := hbytes p hlt
    have hfz := h.free
    have hnl : decide ((len : Int) ≤ (p : Int)) = false := by simp; omega
    have HS : Hid (Rd (w.setCell ⟨R, 1, none⟩ (.int .i64 ((p : Int) + 1))) R (some ⟨b, off, none⟩) len cap) := h.step (by omega)
    clear hbytes h
    go_enter Try.func85, Try.ntmps85
    go_wp2
    go_quiet (fail)
    go_wp2
    have e1 : (p : Int) + 1 - 1 = (p : Int) := by omega
    have e2 : (0 : Int) ≤ (p : Int) := by omega
    have e3 : (p : Int) < (len : Int) := by omega
    have hw : IntKind.i64.wrap (p : Int) = (p : Int) := by rw [IntKind.wrap_i64]; omega
    have hcw : IntKind.i64.wrap c = c := by rw [IntKind.wrap_i64]; omega
    have x1 : (w.setCell ⟨R, 1, none⟩ (.int .i64 ((p : Int) + 1))).cell? ⟨b, off + p, none⟩ = some (.int .u8 c) := by
      rw [show (w.setCell ⟨R, 1, none⟩ (.int .i64 ((p : Int) + 1))).cell? ⟨b, off + p, none⟩ = w.cell? ⟨b, off + p, none⟩ from by apply World.cell?_setCell_other; intro e; exact hne (congrArg Addr.block e).symm]
      exact hcc
    go_quiet (fail)
    go_wp2
    go_ret
    exact ⟨⟨c, rfl, c0, c1⟩, HS.out.below ⟨rfl, rfl, rfl, Nat.le_refl _, fun _ _ => rfl⟩, (((Only.refl _ _).drewN _).set _ _).drewN _⟩
  · have hge : decide ((len : Int) ≤ (p : Int)) = true := by simp; omega
    clear h
    go_enter Try.func85, Try.ntmps85
    go_wp2
    go_quiet (fail)
    go_wp2
    go_ret
    exact ⟨⟨0, rfl, by omega, by omega⟩, H.out.below ((below_drewN (Below.refl _ _) _)), (Only.refl _ _).drewN _⟩

theorem below_any (R : Nat) (ad : Option Addr) (len cap : Nat) (n : Int) (w : World) (h : Rd w R ad len cap) (h1 : 2 ≤ n) (h2 : n ≤ 256) :
    Calls Try.prog 63 #[.pointer (some ⟨R, 0, none⟩), .int .i64 n] w fun e w' => (∃ x : Int, e = .returned (.int .i64 x) ∧ 0 ≤ x ∧ x < n) ∧ Rd w' R ad len cap ∧ Only R w w' := by
  have H : Hid (Rd w R ad len cap) := h
  clear h
  have hne : (n == 0) = false := by simp; omega
  go_enter Try.func63, Try.ntmps63
  go_wp2_with fail
  refine (next_any R ad len cap _ H.out).mono ?_
  rintro e w1 ⟨⟨x, rfl, hx0, hx1⟩, hR1, hO1⟩
  have HR : Hid (Rd w1 R ad len cap) := hR1
  have HO : Hid (Only R w w1) := hO1
  clear hR1 hO1
  go_wp2
  go_ret
  exact ⟨⟨_, rfl, Int.emod_nonneg _ (by omega), Int.emod_lt_of_pos _ (by omega)⟩, HR.out, HO.out⟩

theorem once_any (R : Nat) (ad : Option Addr) (len cap : Nat) (n : Int) (w : World) (h : Rd w R ad len cap) (h1 : 2 ≤ n) (h2 : n ≤ 256) :
    Calls Try.prog 66 #[.pointer (some ⟨R, 0, none⟩), .int .i64 n] w fun e w' => (∃ x : Bool, e = .returned (.bool x)) ∧ Rd w' R ad len cap ∧ Only R w w' := by
  have H : Hid (Rd w R ad len cap) := h
  clear h
  go_enter Try.func66, Try.ntmps66
  go_wp2_with fail
  refine (below_any R ad len cap n _ H.out h1 h2).mono ?_
  rintro e w1 ⟨⟨x, rfl, hx0, hx1⟩, hR1, hO1⟩
  have HR : Hid (Rd w1 R ad len cap) := hR1
  have HO : Hid (Only R w w1) := hO1
  clear hR1 hO1
  go_wp2
  go_ret
  exact ⟨⟨_, rfl⟩, HR.out, HO.out⟩

theorem Only.alloc {R : Nat} {a b : World} (h : Only R a b) (o : Obj) : Only R a (b.alloc o) := h.below ((Below.refl _ _).alloc (Nat.le_refl _) _)
theorem Rd.alloc {w : World} {R : Nat} {ad : Option Addr} {len cap : Nat} (h : Rd w R ad len cap) (o : Obj) : Rd (w.alloc o) R ad len cap := h.below ((Below.refl _ _).alloc (Nat.le_refl _) _)

theorem cell_al {w : World} {a : Addr} {v : Value} (h : w.cell? a = some v) (o : Obj) : (w.alloc o).cell? a = some v := by
  have hb : Below w.heap.size w (w.alloc o) := (Below.refl _ _).alloc (Nat.le_refl _) _
  rw [hb.cell (World.block_lt_of_cell? w a h)]; exact h

def Strs (w : World) (R g n : Nat) : Prop := g ≠ R ∧ g < w.heap.size ∧ ∀ i, i < n → ∃ s : ByteArray, s.size ≤ 20 ∧ w.cell? ⟨g, i, none⟩ = some (.string s)
theorem Strs.only {w w' : World} {R g n : Nat} (h : Strs w R g n) (k : Only R w w') : Strs w' R g n :=
  ⟨h.1, Nat.lt_of_lt_of_le h.2.1 k.size, fun i hi => by obtain ⟨s, hs, hc⟩ := h.2.2 i hi; exact ⟨s, hs, by rw [k.cell h.2.1 h.1]; exact hc⟩⟩

theorem strs_new (w : World) (R : Nat) (hR : R < w.heap.size) {t : TypeId} {xs : List ByteArray} (h : xs.all (fun x => decide (x.size ≤ 20)) = true) : Strs (w.alloc (.cells (xs.map Value.string).toArray t)) R w.heap.size xs.length := by
  refine ⟨by omega, by simp, fun i hi => ⟨xs[i], ?_, ?_⟩⟩
  · rw [List.all_eq_true] at h
    simpa using h xs[i] (List.getElem_mem hi)
  · simp [hi]

/-- a slice of bytes that came in -/
def Bytes (w : World) (ad : Option Addr) (len : Nat) : Prop := len ≤ maxLen ∧ (0 < len → ∃ b off, ad = some ⟨b, off, none⟩ ∧ b < w.heap.size ∧ ∀ i, i < len → ∃ c : Int, 0 ≤ c ∧ c ≤ 255 ∧ w.cell? ⟨b, off + i, none⟩ = some (.int .u8 c))
theorem Bytes.below {w w' : World} {ad : Option Addr} {len : Nat} (h : Bytes w ad len) (hb : Below w.heap.size w w') : Bytes w' ad len := by
  refine ⟨h.1, fun h0 => ?_⟩
  obtain ⟨b, off, e, hbl, hc⟩ := h.2 h0
  refine ⟨b, off, e, Nat.lt_of_lt_of_le hbl hb.size, fun i hi => ?_⟩
  obtain ⟨c, c0, c1, hcc⟩ := hc i hi
  exact ⟨c, c0, c1, by rw [hb.cell (p := ⟨b, off + i, none⟩) hbl]; exact hcc⟩

theorem open_bytes {H : Type} {enc : TypeId × Value → H} {W : World} {base : Nat} {sp : Nat → Bool} {held : Bool} {fuel : Nat} {ad : Option Addr} {len cap : Nat} {x : DataW H × List MemPlace}
    (h : DataW.trod enc Try.prog W base sp held fuel 49 [.slice ad len cap] = some x) : Bytes W ad len := by
  rcases open_ints Try.underlying49 Try.underlying5 (by kernel_rfl) h with ⟨hcs, -⟩ | ⟨a, l, c, zs, hcs, -, hlc, hcm, hm, -, hel, hwf⟩
  · simp at hcs
    obtain ⟨rfl, rfl, rfl⟩ := hcs
    exact ⟨by unfold maxLen; omega, fun h0 => by omega⟩
  · simp at hcs
    obtain ⟨rfl, rfl, rfl⟩ := hcs
    have hle : len ≤ zs.length := by rw [hm]; split <;> omega
    refine ⟨by omega, fun h0 => ?_⟩
    have hspot : a.spot = none := by
      have := hel 0 (by omega)
      have e : a.add 0 = a := by simp [Addr.add]
      rw [e] at this
      exact World.cell?_spot this
    obtain ⟨b, off, spot⟩ := a
    simp only at hspot
    subst hspot
    have add0 : ∀ x : Nat, (⟨b, off, none⟩ : Addr).add x = ⟨b, off + x, none⟩ := fun x => by
      unfold Addr.add
      by_cases h : x = 0
      · subst h; simp
      · simp [h]
    refine ⟨b, off, rfl, ?_, fun i hi => ?_⟩
    · have := hel 0 (by omega)
      rw [add0] at this
      exact World.block_lt_of_cell? W ⟨b, off + 0, none⟩ this
    · have h1 := hel i (by omega)
      rw [add0] at h1
      have h2 := hwf (zs.getD i 0) (by rw [List.getD_eq_getElem?_getD, List.getElem?_eq_getElem (by omega)]; simp)
      have h3 : IntKind.u8.min ≤ zs.getD i 0 ∧ zs.getD i 0 ≤ IntKind.u8.max := by simpa only [Lit.wf, Bool.and_eq_true, decide_eq_true_eq] using h2
      have e1 : IntKind.u8.min = 0 := by decide
      have e2 : IntKind.u8.max = 255 := by decide
      rw [e1, e2] at h3
      exact ⟨_, h3.1, h3.2, h1⟩

theorem rd_new {w : World} {ad : Option Addr} {len cap : Nat} {t : TypeId} (h : Bytes w ad len) : Rd (w.alloc (.cells #[.slice ad len cap, .int .i64 0] t)) w.heap.size ad len cap where
  lt := by simp
  code := by simp
  place := ⟨0, by simp, by omega⟩
  free := by simp
  bytes h0 := by
    obtain ⟨b, off, e, hbl, hc⟩ := h.2 h0
    refine ⟨b, off, e, by omega, by simp; omega, fun i hi => ?_⟩
    obtain ⟨c, c0, c1, hcc⟩ := hc i hi
    exact ⟨c, c0, c1, cell_al hcc _⟩
  small := h.1

theorem open_any (ad : Option Addr) (len cap : Nat) (w : World) (h : Bytes w ad len) :
    Calls Try.prog 56 #[.slice ad len cap] w fun e w' => e = .returned (.pointer (some ⟨w.heap.size, 0, none⟩)) ∧ Rd w' w.heap.size ad len cap ∧ Below w.heap.size w w' := by
  have H : Hid (Bytes w ad len) := h
  clear h
  go_enter Try.func56, Try.ntmps56
  go_wp2
  go_ret
  exact ⟨rfl, rd_new H.out, (Below.refl _ _).alloc (Nat.le_refl _) _⟩

theorem big_any (ad : Option Addr) (len cap : Nat) (w : World) :
    Calls Try.prog 23 #[.slice ad len cap] w fun e w' => e = .returned (.bool (decide ((1048576 : Int) < (len : Int)))) ∧ w' = w := by
  go_enter Try.func23, Try.ntmps23
  go_wp2
  go_ret
  exact ⟨rfl, rfl⟩

theorem below1_any (R : Nat) (ad : Option Addr) (len cap : Nat) (n : Int) (w : World) (h : Rd w R ad len cap) (h1 : 1 ≤ n) (h2 : n ≤ 256) :
    Calls Try.prog 63 #[.pointer (some ⟨R, 0, none⟩), .int .i64 n] w fun e w' => (∃ x : Int, e = .returned (.int .i64 x) ∧ 0 ≤ x ∧ x < n) ∧ Rd w' R ad len cap ∧ Only R w w' := by
  by_cases h3 : 2 ≤ n
  · exact below_any R ad len cap n w h h3 h2
  · obtain rfl : n = 1 := by omega
    have H : Hid (Rd w R ad len cap) := h
    clear h
    go_enter Try.func63, Try.ntmps63
    go_wp2
    go_ret
    exact ⟨⟨0, rfl, by omega, by omega⟩, H.out, Only.refl _ _⟩

/-- what is done to new blocks alone leaves the reader -/
theorem Rd.far {w a b : World} {R : Nat} {ad : Option Addr} {len cap : Nat} (h : Rd a R ad len cap) (H : Rd w R ad len cap) (hb : Below w.heap.size a b) : Rd b R ad len cap where
  lt := Nat.lt_of_lt_of_le h.lt hb.size
  code := by rw [hb.cell (p := ⟨R, 0, none⟩) H.lt]; exact h.code
  place := by obtain ⟨p, hp, hl⟩ := h.place; exact ⟨p, by rw [hb.cell (p := ⟨R, 1, none⟩) H.lt]; exact hp, hl⟩
  free := by rw [hb.frozen (p := ⟨R, 1, none⟩) H.lt]; exact h.free
  bytes h0 := by
    obtain ⟨g, off, e, hne, hgl, hc⟩ := h.bytes h0
    obtain ⟨g', off', e', -, hgl', -⟩ := H.bytes h0
    rw [e] at e'; injection e' with e'; injection e' with e1 e2
    subst e1
    refine ⟨g, off, e, hne, Nat.lt_of_lt_of_le hgl hb.size, fun i hi => ?_⟩
    obtain ⟨c, c0, c1, hcc⟩ := hc i hi
    exact ⟨c, c0, c1, by rw [hb.cell (p := ⟨g, off + i, none⟩) hgl']; exact hcc⟩
  small := h.small
theorem Only.far {R : Nat} {w a b : World} (h : Only R w a) (hb : Below w.heap.size a b) : Only R w b :=
  ⟨hb.os.trans h.os, hb.tape.trans h.tape, hb.output.trans h.output, Nat.le_trans h.size hb.size, fun i hi hr => (hb.block i hi).trans (h.block i hi hr)⟩

theorem Rd.grown {w w' : World} {R : Nat} {ad : Option Addr} {len cap : Nat} {row : Option Nat} (h : Rd w R ad len cap) (hg : w.grownBy w' row) (hR : some R ≠ row) (hb : 0 < len → ∀ b off, ad = some ⟨b, off, none⟩ → some b ≠ row) : Rd w' R ad len cap where
  lt := Nat.lt_of_lt_of_le h.lt hg.size
  code := hg.cell h.code hR
  place := by obtain ⟨p, hp, hl⟩ := h.place; exact ⟨p, hg.cell hp hR, hl⟩
  free := (World.frozen?_of_block (w := w) (a := ⟨R, 1, none⟩) (hg.block R h.lt hR)).trans h.free
  bytes h0 := by
    obtain ⟨b, off, e, hne, hbl, hc⟩ := h.bytes h0
    refine ⟨b, off, e, hne, Nat.lt_of_lt_of_le hbl hg.size, fun i hi => ?_⟩
    obtain ⟨c, c0, c1, hcc⟩ := hc i hi
    exact ⟨c, c0, c1, hg.cell hcc (hb h0 b off e)⟩
  small := h.small
theorem Only.grownNew {R : Nat} {w a b : World} {row : Option Nat} (h : Only R w a) (hg : a.grownBy b row) (hr : ∀ g, row = some g → w.heap.size ≤ g) : Only R w b :=
  ⟨hg.os.trans h.os, hg.tape.trans h.tape, hg.output.trans h.output, Nat.le_trans h.size hg.size, fun i hi hne => (hg.block i (Nat.lt_of_lt_of_le hi h.size) (fun e => by have := hr i e.symm; omega)).trans (h.block i hi hne)⟩
theorem below_one (R : Nat) (w : World) (n : Int) (h : n ≤ 1) :
    Calls Try.prog 63 #[.pointer (some ⟨R, 0, none⟩), .int .i64 n] w fun e w' => e = .returned (.int .i64 0) ∧ w' = w := by
  go_enter Try.func63, Try.ntmps63
  go_wp2
  go_ret
  exact ⟨rfl, rfl⟩
theorem below_all (R : Nat) (ad : Option Addr) (len cap : Nat) (n : Nat) (w : World) (h : Rd w R ad len cap) (h1 : 1 ≤ n) (h2 : n ≤ 256) :
    Calls Try.prog 63 #[.pointer (some ⟨R, 0, none⟩), .int .i64 (n : Int)] w fun e w' => (∃ x : Nat, e = .returned (.int .i64 (x : Int)) ∧ x < n) ∧ Rd w' R ad len cap ∧ Only R w w' := by
  by_cases hn : n = 1
  · subst hn
    exact (below_one R w 1 (by omega)).mono fun e w' ⟨he, hw⟩ => ⟨⟨0, by rw [he]; rfl, by omega⟩, by rw [hw]; exact h, by rw [hw]; exact Only.refl _ _⟩
  · exact (below_any R ad len cap n w h (by omega) (by omega)).mono fun e w' ⟨⟨x, he, h0, h3⟩, hR, hO⟩ => ⟨⟨x.toNat, by rw [he, Int.toNat_of_nonneg h0], by omega⟩, hR, hO⟩

theorem text_any (R : Nat) (ad : Option Addr) (len cap : Nat) (w : World) (h : Rd w R ad len cap) :
    Calls Try.prog 67 #[.pointer (some ⟨R, 0, none⟩)] w fun e w' => (∃ s : ByteArray, e = .returned (.string s) ∧ s.size ≤ 20) ∧ Rd w' R ad len cap ∧ Only R w w' := by
  have H : Hid (Rd w R ad len cap) := h
  have hRw := h.lt
  clear h
  go_enter Try.func67, Try.ntmps67
  go_wp2_with fail
  refine (below_any R ad len cap 6 _ (H.out.alloc _) (by omega) (by omega)).mono ?_
  rintro e w1 ⟨⟨x, rfl, hx0, hx1⟩, hR1, hO1⟩
  obtain ⟨x, rfl⟩ : ∃ y : Nat, x = (y : Int) := ⟨x.toNat, by omega⟩
  have HR1 : Hid (Rd w1 R ad len cap) := hR1
  have HO1 : Hid (Only R w w1) := ((Only.refl R w).alloc _).trans hO1
  have hS := (strs_new w R hRw (t := 9) (xs := [⟨#[]⟩, ⟨#[97]⟩, ⟨#[98]⟩, ⟨#[97, 98]⟩, ⟨#[97, 98, 99]⟩, ⟨#[120, 32, 121]⟩]) (by decide)).only hO1
  obtain ⟨t, ht, hcell⟩ := hS.2.2 x (by show x < 6; omega)
  clear hS hR1 hO1
  go_wp2
  go_ret
  exact ⟨⟨_, rfl, ht⟩, HR1.out, HO1.out⟩

set_option maxHeartbeats 1000000 in
theorem size_any (R : Nat) (ad : Option Addr) (len cap : Nat) (w : World) (h : Rd w R ad len cap) :
    Calls Try.prog 83 #[.pointer (some ⟨R, 0, none⟩), .int .i64 3, .int .i64 10] w fun e w' => (∃ x : Nat, e = .returned (.int .i64 (x : Int)) ∧ x ≤ 10) ∧ Rd w' R ad len cap ∧ Only R w w' := by
  have H := HIDk h
  have hc := h.code
  have hsm := h.small
  unfold maxLen at hsm
  clear h
  by_cases hb : 10 < 1 + len / 3
  · have d : decide ((10 : Int) < 1 + (len : Int) / 3) = true := by simp; omega
    clear hb
    go_enter Try.func83, Try.ntmps83
    go_wp2_with fail
    refine (below1_any R ad len cap 10 w H.out (by decide) (by decide)).mono ?_
    rintro e w1 ⟨⟨x, rfl, hx0, hx1⟩, hR, hO⟩
    obtain ⟨x, rfl⟩ : ∃ y : Nat, x = (y : Int) := ⟨x.toNat, by omega⟩
    have HR := HIDk hR
    have HO := HIDk hO
    clear hR hO H hc
    go_wp2
    go_ret
    exact ⟨⟨1 + x, by go_num, by omega⟩, HR.out, HO.out⟩
  · have d : decide ((10 : Int) < 1 + (len : Int) / 3) = false := by simp; omega
    go_enter Try.func83, Try.ntmps83
    go_wp2_with fail
    refine (below1_any R ad len cap (1 + (len : Int) / 3) w H.out (by omega) (by omega)).mono ?_
    rintro e w1 ⟨⟨x, rfl, hx0, hx1⟩, hR, hO⟩
    obtain ⟨x, rfl⟩ : ∃ y : Nat, x = (y : Int) := ⟨x.toNat, by omega⟩
    have HR := HIDk hR
    have HO := HIDk hO
    clear hR hO H hc
    go_wp2
    go_ret
    exact ⟨⟨1 + x, by go_num, by omega⟩, HR.out, HO.out⟩
/-- an op of short strings -/
def Dop.brief (o : Dop) : Prop := o.n.size ≤ 20 ∧ o.t.size ≤ 20 ∧ o.d.size ≤ 20
theorem Dop.brief.small {o : Dop} (h : o.brief) : o.small := ⟨by have := h.1; omega, by have := h.2.1; omega, by have := h.2.2; omega⟩
def OpTo (R : Nat) (ad : Option Addr) (len cap : Nat) (w : World) (e : Ending) (w' : World) : Prop := (∃ o : Dop, e = .returned (.agg #[.int .i64 o.k, .string o.n, .string o.t, .string o.d]) ∧ o.brief) ∧ Rd w' R ad len cap ∧ Only R w w'
theorem opTo_mk {R : Nat} {ad : Option Addr} {len cap : Nat} {w w' : World} {k : Int} {n t d : ByteArray} (hn : n.size ≤ 20) (ht : t.size ≤ 20) (hd : d.size ≤ 20) (hR : Rd w' R ad len cap) (hO : Only R w w') : OpTo R ad len cap w (.returned (.agg #[.int .i64 k, .string n, .string t, .string d])) w' := ⟨⟨⟨k, n, t, d⟩, rfl, hn, ht, hd⟩, hR, hO⟩
/-- the box of an op that is answered -/
structure OB (w : World) (R g : Nat) (W : World) : Prop where
  lt : g < W.heap.size
  ne : g ≠ R
  c0 : ∃ v, W.cell? ⟨g, 0, none⟩ = some v
  c1 : ∃ v, W.cell? ⟨g, 1, none⟩ = some v
  c2 : ∃ v, W.cell? ⟨g, 2, none⟩ = some v
  c3 : ∃ v, W.cell? ⟨g, 3, none⟩ = some v
  fr : ∀ i, W.frozen? ⟨g, i, none⟩ = false
theorem OB.only {w W W' : World} {R g : Nat} (h : OB w R g W) (hO : Only R W W') : OB w R g W' := by
  obtain ⟨lt, ne, ⟨a, h0⟩, ⟨b, h1⟩, ⟨c, h2⟩, ⟨d, h3⟩, fr⟩ := h
  exact ⟨Nat.lt_of_lt_of_le lt hO.size, ne, ⟨a, (hO.cell lt ne).trans h0⟩, ⟨b, (hO.cell lt ne).trans h1⟩, ⟨c, (hO.cell lt ne).trans h2⟩, ⟨d, (hO.cell lt ne).trans h3⟩, fun i => (hO.frozen lt ne).trans (fr i)⟩
theorem ob4_new (w : World) (R : Nat) (hR : R < w.heap.size) (a b c d : Value) (t : TypeId) : OB w R w.heap.size (w.alloc (.cells #[a, b, c, d] t)) := ⟨by simp, by omega, ⟨a, by simp⟩, ⟨b, by simp⟩, ⟨c, by simp⟩, ⟨d, by simp⟩, fun i => fz0 _ _ _ i⟩
theorem below_set4 {B : Nat} {w : World} {n : Nat} (hn : B ≤ n) (v0 v1 v2 v3 : Value) : Below B w ((((w.setCell ⟨n, 0, none⟩ v0).setCell ⟨n, 1, none⟩ v1).setCell ⟨n, 2, none⟩ v2).setCell ⟨n, 3, none⟩ v3) :=
  ((((Below.refl B w).setCell (p := ⟨n, 0, none⟩) hn _).setCell (p := ⟨n, 1, none⟩) hn _).setCell (p := ⟨n, 2, none⟩) hn _).setCell (p := ⟨n, 3, none⟩) hn _
set_option maxRecDepth 8000 in
set_option maxHeartbeats 2000000 in
theorem dop_any (R : Nat) (ad : Option Addr) (len cap : Nat) (w : World) (h : Rd w R ad len cap) :
    Calls Try.prog 62 #[.pointer (some ⟨R, 0, none⟩)] w (OpTo R ad len cap w) := by
  obtain ⟨W, hW⟩ : ∃ W, W = w.alloc (.cells #[.int .i64 0, .string ⟨#[]⟩, .string ⟨#[]⟩, .string ⟨#[]⟩] 37) := ⟨_, rfl⟩
  have H0 := HIDk h
  have hRw := h.lt
  have hRW : R < W.heap.size := by rw [hW]; simp; omega
  have HWS : Hid (W.heap.size = w.heap.size + 1) := by show _ = _; rw [hW]; simp
  have H := HIDk (h.alloc (.cells #[.int .i64 0, .string ⟨#[]⟩, .string ⟨#[]⟩, .string ⟨#[]⟩] 37))
  rw [← hW] at H
  have O0 : Hid (Only R w W) := by rw [hW]; exact (Only.refl R w).alloc _
  have B0 : Hid (OB w R w.heap.size W) := by rw [hW]; exact ob4_new _ _ hRw _ _ _ _ _
  clear h
  go_enter Try.func62, Try.ntmps62
  go_wp2_with fail
  rw [← hW]
  clear hW
  refine (below_any R ad len cap 4 _ (H.out.alloc _) (by omega) (by omega)).mono ?_
  rintro e w1 ⟨⟨x, rfl, hx0, hx1⟩, hR1, hO1⟩
  obtain ⟨x, rfl⟩ : ∃ y : Nat, x = (y : Int) := ⟨x.toNat, by omega⟩
  have hO1' : Only R W w1 := ((Only.refl R W).alloc _).trans hO1
  have O1 := HIDk (O0.out.trans hO1')
  have R1 := HIDk hR1
  have B1 := HIDk (B0.out.only hO1')
  have hS := (strs_new W R hRW (t := 9) (xs := [⟨#[108, 111, 103]⟩, ⟨#[98, 97, 115, 101]⟩, ⟨#[98, 97, 115, 101, 46, 110, 101, 119]⟩, ⟨#[98]⟩]) (by decide)).only hO1
  obtain ⟨t, ht, hcell⟩ := hS.2.2 x (by show x < 4; omega)
  rw [HWS.out] at hcell
  clear hS hR1 hO1 hO1' O0 B0 H
  go_wp2_with fail
  refine (below_any R ad len cap 5 w1 R1.out (by omega) (by omega)).mono ?_
  rintro e w2 ⟨⟨y, rfl, hy0, hy1⟩, hR2, hO2⟩
  have O2 := HIDk (O1.out.trans hO2)
  have R2 := HIDk hR2
  have B2 := HIDk (B1.out.only hO2)
  clear hR2 hO2 O1 R1 B1 hcell
  have hRw2 : R < w2.heap.size := R2.out.lt
  by_cases h0 : y = 0
  · have b0 : (y == 0) = true := by simpa using h0
    have b1 : decide (y = 0) = true := by simpa using h0
    clear h0
    go_wp2_with fail
    refine (below_any R ad len cap 3 _ (R2.out.alloc _) (by omega) (by omega)).mono ?_
    rintro e w3 ⟨⟨z, rfl, hz0, hz1⟩, hR3, hO3⟩
    obtain ⟨z, rfl⟩ : ∃ y : Nat, z = (y : Int) := ⟨z.toNat, by omega⟩
    have hO3' : Only R w2 w3 := ((Only.refl R w2).alloc _).trans hO3
    have O3 := HIDk (O2.out.trans hO3')
    have R3 := HIDk hR3
    have B3 := HIDk (B2.out.only hO3')
    have hS := (strs_new w2 R hRw2 (t := 9) (xs := [⟨#[108, 111, 103]⟩, ⟨#[98, 97, 115, 101]⟩, ⟨#[99]⟩]) (by decide)).only hO3
    obtain ⟨u, hu, hcell⟩ := hS.2.2 z (by show z < 3; omega)
    clear hS hR3 hO3 hO3' O2 R2 B2
    obtain ⟨hlt, hne, ⟨_, c0⟩, ⟨_, c1⟩, ⟨_, c2⟩, ⟨_, c3⟩, fr⟩ := B3.out
    go_wp2
    refine bodyPost_ret (v := .agg #[.int .i64 2, .string t, .string u, .string ⟨#[]⟩]) (by simp [results, Try.results62, go_sem, *]) rfl (opTo_mk ht hu (by decide) (R3.out.far H0.out (below_set4 (Nat.le_refl _) _ _ _ _)) (O3.out.far (below_set4 (Nat.le_refl _) _ _ _ _)))
  have b0 : (y == 0) = false := by simpa using h0
  have b1 : decide (y = 0) = false := by simpa using h0
  by_cases h1 : y = 1
  · have b2 : (y == 1) = true := by simpa using h1
    have b3 : decide (y = 1) = true := by simpa using h1
    clear h0 h1
    obtain ⟨hlt, hne, ⟨_, c0⟩, ⟨_, c1⟩, ⟨_, c2⟩, ⟨_, c3⟩, fr⟩ := B2.out
    go_wp2
    refine bodyPost_ret (v := .agg #[.int .i64 3, .string t, .string ⟨#[]⟩, .string ⟨#[]⟩]) (by simp [results, Try.results62, go_sem, *]) rfl (opTo_mk ht (by decide) (by decide) (R2.out.far H0.out (below_set4 (Nat.le_refl _) _ _ _ _)) (O2.out.far (below_set4 (Nat.le_refl _) _ _ _ _)))
  have b2 : (y == 1) = false := by simpa using h1
  have b3 : decide (y = 1) = false := by simpa using h1
  clear h0 h1
  go_wp2_with fail
  refine (text_any R ad len cap w2 R2.out).mono ?_
  rintro e w3 ⟨⟨u, rfl, hu⟩, hR3, hO3⟩
  have O3 := HIDk (O2.out.trans hO3)
  have R3 := HIDk hR3
  have B3 := HIDk (B2.out.only hO3)
  clear hR3 hO3 O2 R2 B2
  obtain ⟨hlt, hne, ⟨_, c0⟩, ⟨_, c1⟩, ⟨_, c2⟩, ⟨_, c3⟩, fr⟩ := B3.out
  go_wp2
  refine bodyPost_ret (v := .agg #[.int .i64 1, .string t, .string ⟨#[]⟩, .string u]) (by simp [results, Try.results62, go_sem, *]) rfl (opTo_mk ht (by decide) hu (R3.out.far H0.out (below_set4 (Nat.le_refl _) _ _ _ _)) (O3.out.far (below_set4 (Nat.le_refl _) _ _ _ _)))

end Go.Proofs.Ytbfimfmfdllejaa
