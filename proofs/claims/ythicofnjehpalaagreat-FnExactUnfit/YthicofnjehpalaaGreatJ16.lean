/- Contracts: lists of tuples looked at, whatever slice leads to them; two rows of the same tuples held against one another. -/
import Derived.Test.YthicofnjehpalaaGreatTuplesOkI
import Derived.Test.YthicofnjehpalaaGreatRows
import Derived.Below
import Derived.WalkKit
import Derived.WalkLawsBesides
import Derived.ProofKit
import Derived.Laws.IdiomStrings
namespace Go.Proofs.YthicofnjehpalaaGreat
open Go.ChangeShapes Go.WideShapes Go.ChangeAt Go.RowKit
open Pl
attribute [local go_sem ↓] Go.wp_at_zero Go.wp_at_succ

theorem specTuplesOk_nil (ad : Option Addr) (cap : Nat) (w : World) :
    Calls Tryz.prog 18 #[.slice ad 0 cap] w fun e w' => e = .returned (.bool (tupsB [])) ∧ Below w.heap.size w w' := by
  go_enter Tryz.func18, Tryz.ntmps18
  go_wp2
  go_loopw [3] (fun i wr => ∃ k : Nat, k = 0 ∧ i = .int .i64 k ∧ Below w.heap.size w wr) (fun i _ => (intOf i).toNat)
  case atStart => exact ⟨0, rfl, rfl, Below.refl _ _⟩
  case round =>
    obtain ⟨k, rfl, rfl, hB⟩ := hrel
    go_wp2
    go_ret
    exact ⟨rfl, hB⟩
theorem implTuplesOk_nil (ad : Option Addr) (cap : Nat) (w : World) :
    Calls Tryz.prog 23 #[.slice ad 0 cap] w fun e w' => e = .returned (.bool (tupsB [])) ∧ Below w.heap.size w w' := by
  go_enter Tryz.func23, Tryz.ntmps23
  go_wp2
  go_loopw [10] (fun i wr => ∃ k : Nat, k = 0 ∧ i = .int .i64 k ∧ Below w.heap.size w wr) (fun i _ => (intOf i).toNat)
  case atStart => exact ⟨0, rfl, rfl, Below.refl _ _⟩
  case round =>
    obtain ⟨k, rfl, rfl, hB⟩ := hrel
    go_wp2
    go_ret
    exact ⟨rfl, hB⟩
theorem specTuplesOk_any (ad : Option Addr) (cap : Nat) (ts : List Tp) (w : World) (hlen : ts.length ≤ maxLen) (hs : Sl w ad ts) (hf : ∀ t ∈ ts, t.fits) :
    Calls Tryz.prog 18 #[.slice ad ts.length cap] w fun e w' => e = .returned (.bool (tupsB ts)) ∧ Below w.heap.size w w' := by
  rcases hs with rfl | ⟨b, off, rfl, hb, hr⟩
  · exact specTuplesOk_nil ad cap w
  · exact specTuplesOk_row b off cap ts w hlen hr hb hf
theorem implTuplesOk_any (ad : Option Addr) (cap : Nat) (ts : List Tp) (w : World) (hlen : ts.length ≤ maxLen) (hs : Sl w ad ts) (hf : ∀ t ∈ ts, t.fits) :
    Calls Tryz.prog 23 #[.slice ad ts.length cap] w fun e w' => e = .returned (.bool (tupsB ts)) ∧ Below w.heap.size w w' := by
  rcases hs with rfl | ⟨b, off, rfl, hb, hr⟩
  · exact implTuplesOk_nil ad cap w
  · exact implTuplesOk_row b off cap ts w hlen hr hb hf

theorem eqObject_same3 (a b : ByteArray) (w : World) :
    Calls Tryz.prog 46 #[.agg #[.string a, .string b], .agg #[.string a, .string b]] w fun e w' => e = .returned (.bool true) ∧ Below w.heap.size w w' := by
  go_enter Tryz.func46, Tryz.ntmps46
  go_wp2
  go_ret
  exact ⟨rfl, ((Below.refl _ _).alloc (Nat.le_refl _) _).alloc (by simp) _⟩
theorem eqTuple_same3 (a b r c d s : ByteArray) (w : World) :
    Calls Tryz.prog 26 #[.agg #[.string a, .string b, .string r, .string c, .string d, .string s], .agg #[.string a, .string b, .string r, .string c, .string d, .string s]] w fun e w' => e = .returned (.bool true) ∧ Below w.heap.size w w' := by
  go_enter Tryz.func26, Tryz.ntmps26
  go_wp2_with fail
  refine (eqObject_same3 _ _ _).mono ?_
  rintro e w1 ⟨rfl, hb1⟩
  obtain ⟨hc1, hf1⟩ := bcell hb1
  have hz1 : w.heap.size + 1 < w1.heap.size := by have := hb1.size; simp at this; omega
  have hy1 : w.heap.size < w1.heap.size := by omega
  have HB1 : Below w.heap.size w w1 := (((Below.refl _ _).alloc (Nat.le_refl _) _).alloc (by simp) _).trans (hb1.mono (by simp; omega))
  go_wp2_with fail
  refine (eqObject_same3 _ _ _).mono ?_
  rintro e w2 ⟨rfl, hb2⟩
  obtain ⟨hc2, hf2⟩ := bcell hb2
  have hz2 : w.heap.size + 1 < w2.heap.size := by have := hb2.size; omega
  have hy2 : w.heap.size < w2.heap.size := by omega
  go_wp2
  go_ret
  exact ⟨rfl, HB1.trans (hb2.mono (by omega))⟩

set_option maxHeartbeats 1000000 in
/-- two rows of the same tuples -/
theorem eqTupleS_same (b b' off off' cap cap' : Nat) (ts : List Tp) (w : World) (hlen : ts.length ≤ maxLen) (hr : Row6 w b off ts) (hb : b < w.heap.size) (hr' : Row6 w b' off' ts) (hb' : b' < w.heap.size) :
    Calls Tryz.prog 10 #[.slice (some ⟨b, off, none⟩) ts.length cap, .slice (some ⟨b', off', none⟩) ts.length cap'] w fun e w' => e = .returned (.bool true) ∧ Below w.heap.size w w' := by
  unfold maxLen at hlen
  go_enter Tryz.func10, Tryz.ntmps10
  go_wp2
  go_loopw [5] (fun i wr => ∃ k : Nat, k ≤ ts.length ∧ i = .int .i64 k ∧ Below w.heap.size w wr) (fun i _ => ts.length - (intOf i).toNat)
  case atStart => exact ⟨0, Nat.zero_le _, rfl, Below.refl _ _⟩
  case round =>
    obtain ⟨k, hk, rfl, hB⟩ := hrel
    by_cases hlt : k < ts.length
    · obtain ⟨t0, t1, t2, t3, t4, t5⟩ := (hr.below hB hb) k hlt
      obtain ⟨q0, q1, q2, q3, q4, q5⟩ := (hr'.below hB hb') k hlt
      have hk1 : (0 : Int) ≤ (k : Int) := by omega
      have hk2 : (k : Int) < (ts.length : Int) := by omega
      clear hr hr'
      go_wp2_with fail
      refine wp_region_held_drew (S := fun w' => w'.cell? ⟨b, off + k * 6, none⟩ = some (.string ts[k].a) ∧ w'.cell? ⟨b, off + k * 6 + 1, none⟩ = some (.string ts[k].b) ∧ w'.cell? ⟨b, off + k * 6 + 2, none⟩ = some (.string ts[k].r) ∧ w'.cell? ⟨b, off + k * 6 + 3, none⟩ = some (.string ts[k].c) ∧ w'.cell? ⟨b, off + k * 6 + 4, none⟩ = some (.string ts[k].d) ∧ w'.cell? ⟨b, off + k * 6 + 5, none⟩ = some (.string ts[k].s) ∧ w'.cell? ⟨b', off' + k * 6, none⟩ = some (.string ts[k].a) ∧ w'.cell? ⟨b', off' + k * 6 + 1, none⟩ = some (.string ts[k].b) ∧ w'.cell? ⟨b', off' + k * 6 + 2, none⟩ = some (.string ts[k].r) ∧ w'.cell? ⟨b', off' + k * 6 + 3, none⟩ = some (.string ts[k].c) ∧ w'.cell? ⟨b', off' + k * 6 + 4, none⟩ = some (.string ts[k].d) ∧ w'.cell? ⟨b', off' + k * 6 + 5, none⟩ = some (.string ts[k].s) ∧ b' < w'.heap.size ∧ w.heap.size ≤ w'.heap.size ∧ Below w.heap.size w w') (by kernel_rfl) ⟨t0, t1, t2, t3, t4, t5, q0, q1, q2, q3, q4, q5, Nat.lt_of_lt_of_le hb' hB.size, hB.size, hB.drew⟩ (fun hHeld => ?_)
      refine takeTo (i := 0) (v := ?_) 17 rfl rfl (by kernel_rfl) (by kernel_rfl) (by kernel_rfl) (fun _ _ _ h => h) (Or.inl ⟨by rfl, ?_⟩) (by assumption) ?_
      rotate_left
      · first | (intro w hSw; (try dsimp only at hSw); go_simp; done) | (intro w hSw; (try dsimp only at hSw); go_simp; with_reducible rfl)
      simp only [Act.put, List.setIfInBounds_toArray, List.set_cons_zero, List.set_cons_succ]
      refine takeTo (i := 1) (v := ?_) 18 rfl rfl (by kernel_rfl) (by kernel_rfl) (by kernel_rfl) (fun _ _ _ h => h) (Or.inl ⟨by rfl, ?_⟩) (by assumption) ?_
      rotate_left
      · first | (intro w hSw; (try dsimp only at hSw); go_simp; done) | (intro w hSw; (try dsimp only at hSw); go_simp; with_reducible rfl)
      simp only [Act.put, List.setIfInBounds_toArray, List.set_cons_zero, List.set_cons_succ]
      refine takeTo (i := 2) (v := ?_) 19 rfl rfl (by kernel_rfl) (by kernel_rfl) (by kernel_rfl) (fun _ _ _ h => h) (Or.inl ⟨by rfl, ?_⟩) (by assumption) ?_
      rotate_left
      · first | (intro w hSw; (try dsimp only at hSw); go_simp; done) | (intro w hSw; (try dsimp only at hSw); go_simp; with_reducible rfl)
      simp only [Act.put, List.setIfInBounds_toArray, List.set_cons_zero, List.set_cons_succ]
      refine takeTo (i := 3) (v := ?_) 20 rfl rfl (by kernel_rfl) (by kernel_rfl) (by kernel_rfl) (fun _ _ _ h => h) (Or.inl ⟨by rfl, ?_⟩) (by assumption) ?_
      rotate_left
      · first | (intro w hSw; (try dsimp only at hSw); go_simp; done) | (intro w hSw; (try dsimp only at hSw); go_simp; with_reducible rfl)
      simp only [Act.put, List.setIfInBounds_toArray, List.set_cons_zero, List.set_cons_succ]
      refine takeTo (i := 4) (v := ?_) 21 rfl rfl (by kernel_rfl) (by kernel_rfl) (by kernel_rfl) (fun _ _ _ h => h) (Or.inl ⟨by rfl, ?_⟩) (by assumption) ?_
      rotate_left
      · first | (intro w hSw; (try dsimp only at hSw); go_simp; done) | (intro w hSw; (try dsimp only at hSw); go_simp; with_reducible rfl)
      simp only [Act.put, List.setIfInBounds_toArray, List.set_cons_zero, List.set_cons_succ]
      refine takeTo (i := 5) (v := ?_) 22 rfl rfl (by kernel_rfl) (by kernel_rfl) (by kernel_rfl) (fun _ _ _ h => h) (Or.inl ⟨by rfl, ?_⟩) (by assumption) ?_
      rotate_left
      · first | (intro w hSw; (try dsimp only at hSw); go_simp; done) | (intro w hSw; (try dsimp only at hSw); go_simp; with_reducible rfl)
      simp only [Act.put, List.setIfInBounds_toArray, List.set_cons_zero, List.set_cons_succ]
      refine takeTo (i := 6) (v := ?_) 23 rfl rfl (by kernel_rfl) (by kernel_rfl) (by kernel_rfl) (fun _ _ _ h => h) (Or.inl ⟨by rfl, ?_⟩) (by assumption) ?_
      rotate_left
      · first | (intro w hSw; (try dsimp only at hSw); go_simp; done) | (intro w hSw; (try dsimp only at hSw); go_simp; with_reducible rfl)
      simp only [Act.put, List.setIfInBounds_toArray, List.set_cons_zero, List.set_cons_succ]
      refine takeTo (i := 7) (v := ?_) 24 rfl rfl (by kernel_rfl) (by kernel_rfl) (by kernel_rfl) (fun _ _ _ h => h) (Or.inl ⟨by rfl, ?_⟩) (by assumption) ?_
      rotate_left
      · first | (intro w hSw; (try dsimp only at hSw); go_simp; done) | (intro w hSw; (try dsimp only at hSw); go_simp; with_reducible rfl)
      simp only [Act.put, List.setIfInBounds_toArray, List.set_cons_zero, List.set_cons_succ]
      refine wpAnyH_ready (rs := [8]) (by kernel_rfl) (by simp) ?_
      refine AllReadyH.cons rfl (fun K hK => ?_) AllReadyH.nil
      go_simp
      refine (eqTuple_same3 _ _ _ _ _ _ _).mono ?_
      rintro e w1 ⟨rfl, hb1⟩
      go_wp2_with fail
      refine hK.out _ _ (keepKK hb hHeld hb1) (fun hHeld => ?_)
      clear hK K
      refine takeTo (i := 9) (v := ?_) 26 rfl rfl (by kernel_rfl) (by kernel_rfl) (by kernel_rfl) (fun _ _ _ h => h) (Or.inl ⟨by rfl, ?_⟩) (by assumption) ?_
      rotate_left
      · first | (intro w hSw; (try dsimp only at hSw); go_simp; done) | (intro w hSw; (try dsimp only at hSw); go_simp; with_reducible rfl)
      simp only [Act.put, List.setIfInBounds_toArray, List.set_cons_zero, List.set_cons_succ]
      refine wpAnyH_done (by kernel_rfl) ?_ _
      have HB := hHeld.2.2.2.2.2.2.2.2.2.2.2.2.2.2
      clear hHeld
      go_wp2
      go_roundw
      case rel => exact ⟨k + 1, by omega, by go_num, HB⟩
      case measure => simp [intOf]; omega
    · go_wp2
      go_ret
      exact ⟨rfl, hB⟩

end Go.Proofs.YthicofnjehpalaaGreat

/- What a change of some blocks leaves as it was; the text of a mark. -/
namespace Go.Proofs.YthicofnjehpalaaGreat
open Go.ChangeShapes Go.WideShapes Go.ChangeAt Go.RowKit

theorem mO {w : World} {g i j : Nat} {v : Value} (h : i ≠ j) : (w.setCell ⟨g, i, none⟩ v).cell? ⟨g, j, none⟩ = w.cell? ⟨g, j, none⟩ := by
  apply World.cell?_setCell_other
  intro e
  exact h (congrArg Addr.off e)
theorem mS {w : World} {a : Addr} {v u : Value} (h : w.cell? a = some u) : (w.setCell a v).cell? a = some v := by
  apply World.cell?_setCell_same; exact h
theorem mK {W w1 : World} {n o : Nat} {v : Value} (hb : Below W.heap.size W w1) (hn : n < W.heap.size) (h : W.cell? ⟨n, o, none⟩ = some v) : w1.cell? ⟨n, o, none⟩ = some v := by
  rw [hb.cell (p := ⟨n, o, none⟩) hn]; exact h
theorem mF {W w1 : World} {n o : Nat} (hb : Below W.heap.size W w1) (hn : n < W.heap.size) (h : W.frozen? ⟨n, o, none⟩ = false) : w1.frozen? ⟨n, o, none⟩ = false := by
  rw [hb.frozen (p := ⟨n, o, none⟩) hn]; exact h

def Free (w : World) (g : Nat) : Prop := ∀ j, w.frozen? ⟨g, j, none⟩ = false
/-- at most these blocks have changed; none has become frozen -/
structure Chg (S : Nat → Prop) (w w' : World) : Prop where
  base : Below 0 w w'
  block : ∀ k, k < w.heap.size → ¬ S k → w'.heap[k]? = w.heap[k]?
  free : ∀ g, g < w.heap.size → Free w g → Free w' g
theorem Chg.refl (S : Nat → Prop) (w : World) : Chg S w w := ⟨Below.refl _ _, fun _ _ _ => rfl, fun _ _ h => h⟩
theorem Chg.size {S : Nat → Prop} {w w' : World} (h : Chg S w w') : w.heap.size ≤ w'.heap.size := h.base.size
theorem Chg.trans {S : Nat → Prop} {a b c : World} (h : Chg S a b) (k : Chg S b c) : Chg S a c :=
  ⟨h.base.trans k.base, fun i hi hs => (k.block i (Nat.lt_of_lt_of_le hi h.size) hs).trans (h.block i hi hs), fun g hg hf => k.free g (Nat.lt_of_lt_of_le hg h.size) (h.free g hg hf)⟩
theorem Chg.mono {S T : Nat → Prop} {a b : World} (h : Chg S a b) (hs : ∀ g, S g → T g) : Chg T a b :=
  ⟨h.base, fun i hi hn => h.block i hi fun e => hn (hs i e), h.free⟩
theorem Chg.of {S : Nat → Prop} {w w' : World} (h : Below w.heap.size w w') : Chg S w w' :=
  ⟨h.mono (Nat.zero_le _), fun k hk _ => h.block k hk, fun g hg hf j => by rw [h.frozen (p := ⟨g, j, none⟩) hg]; exact hf j⟩
theorem Chg.set {S : Nat → Prop} {w : World} {g j : Nat} (v : Value) (hs : S g) : Chg S w (w.setCell ⟨g, j, none⟩ v) :=
  ⟨(Below.refl 0 w).setCell (Nat.zero_le _) v, fun k _ hk => Below.heap_setCell _ _ _ _ (fun e => hk (by rw [e]; exact hs)), fun g' _ hf j' => by simpa using hf j'⟩
theorem Chg.below {S : Nat → Prop} {w w' : World} {m : Nat} (h : Chg S w w') (hm : ∀ g, S g → m ≤ g) (hw : m ≤ w.heap.size) : Below m w w' :=
  ⟨h.base.os, h.base.tape, h.base.output, h.base.size, fun k hk => h.block k (Nat.lt_of_lt_of_le hk hw) fun e => by have := hm k e; omega⟩
theorem Chg.cell {S : Nat → Prop} {w w' : World} (h : Chg S w w') {g o : Nat} (hg : g < w.heap.size) (hs : ¬ S g) : w'.cell? ⟨g, o, none⟩ = w.cell? ⟨g, o, none⟩ := by
  have := h.block g hg hs
  unfold World.cell?
  simp only [this]
/-- the digits of k ahead of o -/
def dgs (k : Nat) (o : ByteArray) : ByteArray := if _h : k = 0 then o else dgs (k / 10) (⟨#[UInt8.ofNat (48 + k % 10)]⟩ ++ o)
/-- the text of the mark k -/
def mtx (k : Nat) : ByteArray := ⟨#[109]⟩ ++ dgs k ⟨#[]⟩
theorem dgs_zero (o : ByteArray) : dgs 0 o = o := by rw [dgs, dif_pos rfl]
theorem dgs_step {k : Nat} (h : 0 < k) (o : ByteArray) : dgs k o = dgs (k / 10) (⟨#[UInt8.ofNat (48 + k % 10)]⟩ ++ o) := by
  rw [dgs, dif_neg (Nat.ne_of_gt h)]

set_option maxRecDepth 8000 in
set_option maxHeartbeats 1000000 in
theorem markText_any (k : Nat) (w : World) (h0 : 0 < k) (h1 : k ≤ 1000000000) :
    Calls Tryz.prog 28 #[.int .i64 (k : Int)] w fun e w' => e = .returned (.string (mtx k)) ∧ Below w.heap.size w w' := by
  have hk0 : ¬ (k : Int) ≤ 0 := by omega
  go_enter Tryz.func28, Tryz.ntmps28
  go_wp2
  go_loopw [0, 3] (fun kv ov wr => ∃ (x : Nat) (o : ByteArray), kv = .int .i64 (x : Int) ∧ ov = .string o ∧ Hid (dgs x o = dgs k ⟨#[]⟩) ∧ x * 10 ^ o.size ≤ k ∧ x ≤ k ∧ (x = 0 → o.size ≤ 12) ∧ Hid (Below w.heap.size w wr)) (fun kv _ _ => (intOf kv).toNat)
  case atStart => exact ⟨k, ⟨#[]⟩, rfl, rfl, rfl, (Nat.le_of_eq (Nat.mul_one k) : k * 10 ^ 0 ≤ k), Nat.le_refl _, fun _ => Nat.zero_le _, Below.refl _ _⟩
  case round =>
    obtain ⟨x, o, rfl, rfl, HD, hx, hxk, hz, HB⟩ := hrel
    by_cases hpos : 0 < x
    · have hsz : o.size ≤ 9 := by
        rcases Nat.lt_or_ge 9 o.size with h | h
        · have : 10 ^ 10 ≤ 10 ^ o.size := Nat.pow_le_pow_right (by omega) h
          have h2 : 1 * 10 ^ o.size ≤ x * 10 ^ o.size := Nat.mul_le_mul_right _ hpos
          omega
        · exact h
      have hx0 : (0 : Int) < (x : Int) := by omega
      obtain ⟨dd, hdd⟩ : ∃ dd : UInt8, dd = UInt8.ofNat (48 + x % 10) := ⟨_, rfl⟩
      have hbt : (48 + (x : Int) % 10) = ((dd).toNat : Int) := by
        rw [hdd, UInt8.toNat_ofNat']; omega
      have HCV : (convert 93 9 (.slice (some ⟨wr.heap.size, 0, none⟩) 1 1)).run Tryz.prog (wr.alloc (.cells #[.int .u8 (48 + (x : Int) % 10)] 5)) = .ok (.string ⟨#[dd]⟩) (wr.alloc (.cells #[.int .u8 (48 + (x : Int) % 10)] 5)) :=
        run_convert_bytes_back _ 93 9 5 ⟨wr.heap.size, 0, none⟩ 1 [dd] Tryz.underlying93 Tryz.underlying5 Tryz.underlying9 (fun j hj => by
          have : j = 0 := by simpa using hj
          subst this
          rw [hbt]
          exact World.cell?_alloc_mark wr #[.int .u8 ((dd).toNat : Int)] 5 (0, 0) 0)
      have HBT : Hid ((48 + (x : Int) % 10) = ((dd).toNat : Int)) := hbt
      have hone : (⟨#[dd]⟩ : ByteArray).size = 1 := rfl
      have HD2 : Hid (dgs (x / 10) (⟨#[dd]⟩ ++ o) = dgs k ⟨#[]⟩) := by show _ = _; rw [← HD.out]; rw [hdd]; exact (dgs_step hpos o).symm
      have HX2 : Hid (x / 10 * 10 ^ ((⟨#[dd]⟩ ++ o : ByteArray)).size ≤ k) := by
        show _ ≤ _
        rw [ByteArray.size_append, hone, Nat.add_comm, Nat.pow_succ]
        have : x / 10 * (10 ^ o.size * 10) = (x / 10 * 10) * 10 ^ o.size := by rw [Nat.mul_comm (10 ^ o.size), Nat.mul_assoc]
        rw [this]
        exact Nat.le_trans (Nat.mul_le_mul_right _ (by omega)) hx
      have HZ2 : Hid ((⟨#[dd]⟩ ++ o : ByteArray).size ≤ 12) := by show _ ≤ _; rw [ByteArray.size_append, hone]; omega
      have HB2 : Hid (Below w.heap.size w (wr.alloc (.cells #[.int .u8 (48 + (x : Int) % 10)] 5))) := HB.out.alloc HB.out.size _
      have HQ : Hid ((x : Int) / 10 = ((x / 10 : Nat) : Int)) := by show _ = _; omega
      clear hbt hone hdd
      go_wp2
      go_roundw
      case rel => exact ⟨x / 10, _, congrArg (Value.int .i64) HQ.out, rfl, HD2, HX2.out, by omega, fun _ => HZ2.out, HB2⟩
      case measure => simp [intOf]; omega
    · obtain rfl : x = 0 := by omega
      have hz2 := hz rfl
      have HN : Hid (mtx k = ⟨#[109]⟩ ++ o) := by show _ = _; unfold mtx; rw [← HD.out, dgs_zero]
      have hx0 : ¬ (0 : Int) < ((0 : Nat) : Int) := by omega
      go_wp2
      go_ret
      exact ⟨by rw [HN.out]; rfl, HB.out⟩
theorem markText_at (x : Int) (k : Nat) (w : World) (hx : x = (k : Int)) (h0 : 0 < k) (h1 : k ≤ 1000000000) :
    Calls Tryz.prog 28 #[.int .i64 x] w fun e w' => e = .returned (.string (mtx k)) ∧ Below w.heap.size w w' := by
  rw [hx]; exact markText_any k w h0 h1
end Go.Proofs.YthicofnjehpalaaGreat
