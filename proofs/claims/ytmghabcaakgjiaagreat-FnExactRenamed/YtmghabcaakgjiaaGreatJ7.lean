/- What a change of some blocks leaves as it was; the text of a mark. -/
import Derived.Test.YtmghabcaakgjiaaGreatRows
import Derived.Below
import Derived.WalkKit
import Derived.WalkLawsBesides
import Derived.ProofKit
import Derived.Laws.IdiomStrings
import Derived.Test.YtmghabcaakgjiaaGreatToExpr2
import Derived.Deep.RegionHeld3
import Derived.Deep.DrawnRows
namespace Go.Proofs.YtmghabcaakgjiaaGreat
open Go.ChangeShapes Go.WideShapes Go.ChangeAt Go.RowKit
def Free (w : World) (g : Nat) : Prop := ∀ j, w.frozen? ⟨g, j, none⟩ = false
structure Chg (S : Nat → Prop) (w w' : World) : Prop where
 base : Below 0 w w'
 block : ∀ k, k < w.heap.size → ¬ S k → w'.heap[k]? = w.heap[k]?
 free : ∀ g, g < w.heap.size → Free w g → Free w' g
theorem Chg.refl (S : Nat → Prop) (w : World) : Chg S w w := ⟨Below.refl _ _, fun _ _ _ => rfl, fun _ _ h => h⟩
theorem Chg.size {S : Nat → Prop} {w w' : World} (h : Chg S w w') : w.heap.size ≤ w'.heap.size := h.base.size
theorem Chg.trans {S : Nat → Prop} {a b c : World} (h : Chg S a b) (k : Chg S b c) : Chg S a c :=
 ⟨h.base.trans k.base, fun i hi hs => (k.block i (Nat.lt_of_lt_of_le hi h.size) hs).trans (h.block i hi hs), fun g hg hf => k.free g (Nat.lt_of_lt_of_le hg h.size) (h.free g hg hf)⟩
theorem Chg.mono {S T : Nat → Prop} {a b : World} (h : Chg S a b) (hs : ∀ g, S g → T g) : Chg T a b :=
 ⟨h.base, fun i hi hn => h.block i hi fun e => hn (hs i e), h.free⟩
theorem Chg.of {S : Nat → Prop} {w w' : World} (h : Below w.heap.size w w') : Chg S w w' :=
 ⟨h.mono (Nat.zero_le _), fun k hk _ => h.block k hk, fun g hg hf j => by rw [h.frozen (p := ⟨g, j, none⟩) hg]; exact hf j⟩
theorem Chg.set {S : Nat → Prop} {w : World} {g j : Nat} (v : Value) (hs : S g) : Chg S w (w.setCell ⟨g, j, none⟩ v) :=
 ⟨(Below.refl 0 w).setCell (Nat.zero_le _) v, fun k _ hk => Below.heap_setCell _ _ _ _ (fun e => hk (by rw [e]; exact hs)), fun g' _ hf j' => by simpa using hf j'⟩
theorem Chg.below {S : Nat → Prop} {w w' : World} {m : Nat} (h : Chg S w w') (hm : ∀ g, S g → m ≤ g) (hw : m ≤ w.heap.size) : Below m w w' :=
 ⟨h.base.os, h.base.tape, h.base.output, h.base.size, fun k hk => h.block k (Nat.lt_of_lt_of_le hk hw) fun e => by have := hm k e; omega⟩
theorem Chg.cell {S : Nat → Prop} {w w' : World} (h : Chg S w w') {g o : Nat} (hg : g < w.heap.size) (hs : ¬ S g) : w'.cell? ⟨g, o, none⟩ = w.cell? ⟨g, o, none⟩ := by
 have := h.block g hg hs
 unfold World.cell?
 simp only [this]
def dgs (k : Nat) (o : ByteArray) : ByteArray := if _h : k = 0 then o else dgs (k / 10) (⟨#[UInt8.ofNat (48 + k % 10)]⟩ ++ o)
def mtx (k : Nat) : ByteArray := ⟨#[109]⟩ ++ dgs k ⟨#[]⟩
theorem dgs_zero (o : ByteArray) : dgs 0 o = o := by rw [dgs, dif_pos rfl]
theorem dgs_step {k : Nat} (h : 0 < k) (o : ByteArray) : dgs k o = dgs (k / 10) (⟨#[UInt8.ofNat (48 + k % 10)]⟩ ++ o) := by
 rw [dgs, dif_neg (Nat.ne_of_gt h)]
set_option maxRecDepth 8000 in
set_option maxHeartbeats 1000000 in
theorem markText_any (k : Nat) (w : World) (h0 : 0 < k) (h1 : k ≤ 1000000000) :
  Calls Tryz.prog 35 #[.int .i64 (k : Int)] w fun e w' => e = .returned (.string (mtx k)) ∧ Below w.heap.size w w' := by
 have hk0 : ¬ (k : Int) ≤ 0 := by omega
 go_enter Tryz.func35, Tryz.ntmps35
 go_wp2
 go_loopw [0, 3] (fun kv ov wr => ∃ (x : Nat) (o : ByteArray), kv = .int .i64 (x : Int) ∧ ov = .string o ∧ Hid (dgs x o = dgs k ⟨#[]⟩) ∧ x * 10 ^ o.size ≤ k ∧ x ≤ k ∧ (x = 0 → o.size ≤ 12) ∧ Hid (Below w.heap.size w wr)) (fun kv _ _ => (intOf kv).toNat)
 case atStart => exact ⟨k, ⟨#[]⟩, rfl, rfl, rfl, (Nat.le_of_eq (Nat.mul_one k) : k * 10 ^ 0 ≤ k), Nat.le_refl _, fun _ => Nat.zero_le _, Below.refl _ _⟩
 case round =>
  obtain ⟨x, o, rfl, rfl, HD, hx, hxk, hz, HB⟩ := hrel
  by_cases hpos : 0 < x
  ·have hsz : o.size ≤ 9 := by
    rcases Nat.lt_or_ge 9 o.size with h | h
    ·have : 10 ^ 10 ≤ 10 ^ o.size := Nat.pow_le_pow_right (by omega) h
     have h2 : 1 * 10 ^ o.size ≤ x * 10 ^ o.size := Nat.mul_le_mul_right _ hpos
     omega
    ·exact h
   have hx0 : (0 : Int) < (x : Int) := by omega
   obtain ⟨dd, hdd⟩ : ∃ dd : UInt8, dd = UInt8.ofNat (48 + x % 10) := ⟨_, rfl⟩
   have hbt : (48 + (x : Int) % 10) = ((dd).toNat : Int) := by
    rw [hdd, UInt8.toNat_ofNat']; omega
   have HCV : (convert 109 9 (.slice (some ⟨wr.heap.size, 0, none⟩) 1 1)).run Tryz.prog (wr.alloc (.cells #[.int .u8 (48 + (x : Int) % 10)] 5)) = .ok (.string ⟨#[dd]⟩) (wr.alloc (.cells #[.int .u8 (48 + (x : Int) % 10)] 5)) :=
    run_convert_bytes_back _ 109 9 5 ⟨wr.heap.size, 0, none⟩ 1 [dd] Tryz.underlying109 Tryz.underlying5 Tryz.underlying9 (fun j hj => by
     have : j = 0 := by simpa using hj
     subst this
     rw [hbt]
     exact World.cell?_alloc_mark wr #[.int .u8 ((dd).toNat : Int)] 5 (0, 0) 0)
   have HBT : Hid ((48 + (x : Int) % 10) = ((dd).toNat : Int)) := hbt
   have hone : (⟨#[dd]⟩ : ByteArray).size = 1 := rfl
   have HD2 : Hid (dgs (x / 10) (⟨#[dd]⟩ ++ o) = dgs k ⟨#[]⟩) := by show _ = _; rw [← HD.out]; rw [hdd]; exact (dgs_step hpos o).symm
   have HX2 : Hid (x / 10 * 10 ^ ((⟨#[dd]⟩ ++ o : ByteArray)).size ≤ k) := by
    show _ ≤ _
    rw [ByteArray.size_append, hone, Nat.add_comm, Nat.pow_succ]
    have : x / 10 * (10 ^ o.size * 10) = (x / 10 * 10) * 10 ^ o.size := by rw [Nat.mul_comm (10 ^ o.size), Nat.mul_assoc]
    rw [this]
    exact Nat.le_trans (Nat.mul_le_mul_right _ (by omega)) hx
   have HZ2 : Hid ((⟨#[dd]⟩ ++ o : ByteArray).size ≤ 12) := by show _ ≤ _; rw [ByteArray.size_append, hone]; omega
   have HB2 : Hid (Below w.heap.size w (wr.alloc (.cells #[.int .u8 (48 + (x : Int) % 10)] 5))) := HB.out.alloc HB.out.size _
   have HQ : Hid ((x : Int) / 10 = ((x / 10 : Nat) : Int)) := by show _ = _; omega
   clear hbt hone hdd
   go_wp2
   go_roundw
   case rel => exact ⟨x / 10, _, congrArg (Value.int .i64) HQ.out, rfl, HD2, HX2.out, by omega, fun _ => HZ2.out, HB2⟩
   case measure => simp [intOf]; omega
  ·obtain rfl : x = 0 := by omega
   have hz2 := hz rfl
   have HN : Hid (mtx k = ⟨#[109]⟩ ++ o) := by show _ = _; unfold mtx; rw [← HD.out, dgs_zero]
   have hx0 : ¬ (0 : Int) < ((0 : Nat) : Int) := by omega
   go_wp2
   go_ret
   exact ⟨by rw [HN.out]; rfl, HB.out⟩
theorem markText_at (x : Int) (k : Nat) (w : World) (hx : x = (k : Int)) (h0 : 0 < k) (h1 : k ≤ 1000000000) :
  Calls Tryz.prog 35 #[.int .i64 x] w fun e w' => e = .returned (.string (mtx k)) ∧ Below w.heap.size w w' := by
 rw [hx]; exact markText_any k w h0 h1
end Go.Proofs.YtmghabcaakgjiaaGreat
namespace Go.Proofs.YtmghabcaakgjiaaGreat
open Go.ChangeShapes Go.WideShapes Go.ChangeAt Go.RowKit
open Pl
theorem SlA.chg {S : Nat → Prop} {w w' : World} {ad : Option Addr} {xs : List Al} (h : SlA w ad xs) (hc : Chg S w w') (hn : ∀ g o, xs ≠ [] → ad = some ⟨g, o, none⟩ → ¬ S g) : SlA w' ad xs := by
 rcases h with h | ⟨b, off, e, hb, hr⟩
 ·exact .inl h
 ·by_cases hx : xs = []
  ·exact .inl hx
  ·exact .inr ⟨b, off, e, Nat.lt_of_lt_of_le hb hc.size, fun i hi => (hr i hi).same fun o => hc.cell hb (hn b off hx e)⟩
theorem SlI.chg {S : Nat → Prop} {w w' : World} {ad : Option Addr} {zs : List Int} (h : SlI w ad zs) (hc : Chg S w w') (hn : ∀ g o, zs ≠ [] → ad = some ⟨g, o, none⟩ → ¬ S g) : SlI w' ad zs := by
 rcases h with h | ⟨b, off, e, hb, hr⟩
 ·exact .inl h
 ·by_cases hx : zs = []
  ·exact .inl hx
  ·exact .inr ⟨b, off, e, Nat.lt_of_lt_of_le hb hc.size, fun i hi => by rw [hc.cell hb (hn b off hx e)]; exact hr i hi⟩
end Go.Proofs.YtmghabcaakgjiaaGreat
namespace Go.Proofs.YtmghabcaakgjiaaGreat
open Go.ChangeShapes Go.WideShapes Go.ChangeAt Go.RowKit
open Pl
def mkI (k : Nat) (zs : List Int) : List Int := (List.range zs.length).map fun i => ((k + i : Nat) : Int)
def mkA (k : Nat) (xs : List Al) : List Al := (List.range xs.length).map fun i => ⟨mtx (k + 2 * i), mtx (k + 2 * i + 1)⟩
theorem mkI_len (k : Nat) (zs : List Int) : (mkI k zs).length = zs.length := by simp [mkI]
theorem mkA_len (k : Nat) (xs : List Al) : (mkA k xs).length = xs.length := by simp [mkA]
theorem mkI_at (k : Nat) (zs : List Int) (i : Nat) (h : i < (mkI k zs).length) : (mkI k zs)[i] = ((k + i : Nat) : Int) := by simp [mkI]
theorem mkA_at (k : Nat) (xs : List Al) (i : Nat) (h : i < (mkA k xs).length) : (mkA k xs)[i] = ⟨mtx (k + 2 * i), mtx (k + 2 * i + 1)⟩ := by simp [mkA]
theorem mkI_nil {k : Nat} {zs : List Int} : mkI k zs = [] ↔ zs = [] := by
 constructor
 ·intro h; have := congrArg List.length h; rw [mkI_len] at this; exact List.length_eq_zero_iff.1 this
 ·rintro rfl; rfl
theorem mkA_nil {k : Nat} {xs : List Al} : mkA k xs = [] ↔ xs = [] := by
 constructor
 ·intro h; have := congrArg List.length h; rw [mkA_len] at this; exact List.length_eq_zero_iff.1 this
 ·rintro rfl; rfl
set_option maxHeartbeats 1000000 in
theorem markInt64S_any (ad : Option Addr) (cap : Nat) (zs : List Int) (k : Nat) (w : World) (hs : SlI w ad zs) (hg : zs ≠ [] → ∃ g, ad = some ⟨g, 0, none⟩ ∧ Free w g) (h1 : k + zs.length ≤ 1000000000) :
  Calls Tryz.prog 100 #[.slice ad zs.length cap, .int .i64 (k : Int)] w fun e w' => e = .returned (.int .i64 ((k + zs.length : Nat) : Int)) ∧ SlI w' ad (mkI k zs) ∧ Chg (fun g => zs ≠ [] ∧ ad = some ⟨g, 0, none⟩) w w' := by
 by_cases hz : zs = []
 ·subst hz
  go_enter Tryz.func100, Tryz.ntmps100
  go_wp2
  go_loopw [1, 5] (fun kv i wr => kv = .int .i64 (k : Int) ∧ i = .int .i64 0 ∧ wr = w) (fun _ _ _ => 0)
  case atStart => exact ⟨rfl, rfl, rfl⟩
  case round =>
   obtain ⟨rfl, rfl, rfl⟩ := hrel
   go_wp2
   go_ret
   exact ⟨rfl, .inl rfl, Chg.refl _ _⟩
 obtain ⟨g, rfl, hfree⟩ := hg hz
 rcases hs with h | ⟨b, off, hbo, hb, hr⟩
 ·exact absurd h hz
 obtain ⟨rfl, rfl⟩ : g = b ∧ 0 = off := by injection hbo with e; injection e with e1 e2; exact ⟨e1, e2⟩
 have HZ : Hid (zs ≠ []) := hz
 clear hz hbo hg
 go_enter Tryz.func100, Tryz.ntmps100
 go_wp2
 go_loopw [1, 5] (fun kv i wr => ∃ j : Nat, j ≤ zs.length ∧ kv = .int .i64 ((k + j : Nat) : Int) ∧ i = .int .i64 (j : Int) ∧ Hid (∀ (x : Nat) (hx : x < zs.length), wr.cell? ⟨g, x, none⟩ = some (.int .i64 (if x < j then ((k + x : Nat) : Int) else zs[x]))) ∧ Hid (Free wr g) ∧ Hid (Chg (fun y => zs ≠ [] ∧ (some ⟨g, 0, none⟩ : Option Addr) = some ⟨y, 0, none⟩) w wr)) (fun _ i _ => zs.length - (intOf i).toNat)
 case atStart => exact ⟨0, Nat.zero_le _, rfl, rfl, fun x hx => by have := hr x hx; simpa using this, hfree, Chg.refl _ _⟩
 case round =>
  obtain ⟨j, hj, rfl, rfl, HC, HFR, HCH⟩ := hrel
  by_cases hlt : j < zs.length
  ·have c0 := HC.out j hlt
   rw [if_neg (by omega)] at c0
   have fz := HFR.out
   unfold Free at fz
   have hj1 : (0 : Int) ≤ (j : Int) := by omega
   have hj2 : (j : Int) < (zs.length : Int) := by omega
   have HC2 : Hid (∀ (x : Nat) (hx : x < zs.length), (wr.setCell ⟨g, j, none⟩ (.int .i64 ((k : Int) + (j : Int)))).cell? ⟨g, x, none⟩ = some (.int .i64 (if x < j + 1 then ((k + x : Nat) : Int) else zs[x]))) := by
    intro x hx
    by_cases e : x = j
    ·subst e
     rw [setS' c0, if_pos (by omega)]; simp
    ·rw [setO' (Ne.symm e), HC.out x hx]
     by_cases h2 : x < j
     ·rw [if_pos h2, if_pos (by omega)]
     ·rw [if_neg h2, if_neg (by omega)]
   have HCH2 : Hid (Chg (fun y => zs ≠ [] ∧ (some ⟨g, 0, none⟩ : Option Addr) = some ⟨y, 0, none⟩) w (wr.setCell ⟨g, j, none⟩ (.int .i64 ((k : Int) + (j : Int))))) := HCH.out.trans (Chg.set _ ⟨HZ.out, rfl⟩)
   have HF2 : Hid (Free (wr.setCell ⟨g, j, none⟩ (.int .i64 ((k : Int) + (j : Int)))) g) := fun y => by simpa using HFR.out y
   go_wp2
   go_roundw
   case rel => exact ⟨j + 1, by omega, by go_num, by go_num, HC2, HF2, HCH2⟩
   case measure => first | (simp [intOf]; done) | (simp [intOf]; omega)
  ·obtain rfl : j = zs.length := by omega
   have HS3 : Hid (SlI wr (some ⟨g, 0, none⟩) (mkI k zs)) := .inr ⟨g, 0, rfl, Nat.lt_of_lt_of_le hb HCH.out.size, fun i hi => by
    have h2 : i < zs.length := by rw [mkI_len] at hi; exact hi
    rw [Nat.zero_add, HC.out i h2, if_pos h2, mkI_at]⟩
   go_wp2
   go_ret
   exact ⟨by go_num, HS3.out, HCH.out⟩
set_option maxHeartbeats 2000000 in
theorem markAllowedS_any (ad : Option Addr) (cap : Nat) (xs : List Al) (k : Nat) (w : World) (hs : SlA w ad xs) (hg : xs ≠ [] → ∃ g, ad = some ⟨g, 0, none⟩ ∧ Free w g) (h0 : 0 < k) (h1 : k + 2 * xs.length ≤ 1000000000) :
  Calls Tryz.prog 99 #[.slice ad xs.length cap, .int .i64 (k : Int)] w fun e w' => e = .returned (.int .i64 ((k + 2 * xs.length : Nat) : Int)) ∧ SlA w' ad (mkA k xs) ∧ Chg (fun g => xs ≠ [] ∧ ad = some ⟨g, 0, none⟩) w w' := by
 by_cases hz : xs = []
 ·subst hz
  go_enter Tryz.func99, Tryz.ntmps99
  go_wp2
  go_loopw [1, 5] (fun kv i wr => kv = .int .i64 (k : Int) ∧ i = .int .i64 0 ∧ wr = w) (fun _ _ _ => 0)
  case atStart => exact ⟨rfl, rfl, rfl⟩
  case round =>
   obtain ⟨rfl, rfl, rfl⟩ := hrel
   go_wp2
   go_ret
   exact ⟨rfl, .inl rfl, Chg.refl _ _⟩
 obtain ⟨g, rfl, hfree⟩ := hg hz
 rcases hs with h | ⟨b, off, hbo, hb, hr⟩
 ·exact absurd h hz
 obtain ⟨rfl, rfl⟩ : g = b ∧ 0 = off := by injection hbo with e; injection e with e1 e2; exact ⟨e1, e2⟩
 have HZ : Hid (xs ≠ []) := hz
 clear hz hbo hg
 go_enter Tryz.func99, Tryz.ntmps99
 go_wp2
 go_loopw [1, 5] (fun kv i wr => ∃ j : Nat, j ≤ xs.length ∧ kv = .int .i64 ((k + 2 * j : Nat) : Int) ∧ i = .int .i64 (j : Int) ∧ Hid (∀ (x : Nat) (hx : x < xs.length), At2 wr g (x * 2) (if x < j then ⟨mtx (k + 2 * x), mtx (k + 2 * x + 1)⟩ else xs[x])) ∧ Hid (Free wr g) ∧ Hid (Chg (fun y => xs ≠ [] ∧ (some ⟨g, 0, none⟩ : Option Addr) = some ⟨y, 0, none⟩) w wr)) (fun _ i _ => xs.length - (intOf i).toNat)
 case atStart => exact ⟨0, Nat.zero_le _, rfl, rfl, fun x hx => by have := hr x hx; simpa using this, hfree, Chg.refl _ _⟩
 case round =>
  obtain ⟨j, hj, rfl, rfl, HC, HFR, HCH⟩ := hrel
  by_cases hlt : j < xs.length
  ·obtain ⟨c0, c1⟩ := HC.out j hlt
   rw [if_neg (by omega)] at c0 c1
   have hgl : g < wr.heap.size := Nat.lt_of_lt_of_le hb HCH.out.size
   have hj1 : (0 : Int) ≤ (j : Int) := by omega
   have hj2 : (j : Int) < (xs.length : Int) := by omega
   go_wp2_with fail
   refine (markText_at _ (k + 2 * j) _ (by omega) (by omega) (by omega)).mono ?_
   rintro e w1 ⟨rfl, hb1⟩
   have HB1 : Hid (Below wr.heap.size wr w1) := hb1
   replace c0 := kept hb1 hgl c0
   replace c1 := kept hb1 hgl c1
   have fz : ∀ y, w1.frozen? ⟨g, y, none⟩ = false := fun y => keptF hb1 hgl (HFR.out y)
   clear hb1
   obtain ⟨w2, hw2⟩ : ∃ w2, w2 = w1.setCell ⟨g, j * 2, none⟩ (.string (mtx (k + 2 * j))) := ⟨_, rfl⟩
   go_wp2_with fail
   rw [← hw2]
   refine (markText_at _ (k + 2 * j + 1) _ (by omega) (by omega) (by omega)).mono ?_
   rintro e w3 ⟨rfl, hb3⟩
   have hgl2 : g < w2.heap.size := by rw [hw2]; simp only [World.size_setCell]; exact Nat.lt_of_lt_of_le hgl HB1.out.size
   have d0 : w3.cell? ⟨g, j * 2, none⟩ = some (.string (mtx (k + 2 * j))) := kept hb3 hgl2 (by rw [hw2]; exact setS' c0)
   have d1 : w3.cell? ⟨g, j * 2 + 1, none⟩ = some (.string xs[j].s) := kept hb3 hgl2 (by rw [hw2, setO' (by omega)]; exact c1)
   have fz3 : ∀ y, w3.frozen? ⟨g, y, none⟩ = false := fun y => keptF hb3 hgl2 (by rw [hw2]; simpa using fz y)
   have HC3 : Hid (∀ (x : Nat) (hx : x < xs.length), At2 (w3.setCell ⟨g, j * 2 + 1, none⟩ (.string (mtx (k + 2 * j + 1)))) g (x * 2) (if x < j + 1 then ⟨mtx (k + 2 * x), mtx (k + 2 * x + 1)⟩ else xs[x])) := by
    intro x hx
    by_cases e : x = j
    ·subst e
     rw [if_pos (by omega)]
     exact ⟨by rw [setO' (by omega)]; exact d0, setS' d1⟩
    ·have hx2 := HC.out x hx
     have he : ∀ y, y ≠ j * 2 → y ≠ j * 2 + 1 → (w3.setCell ⟨g, j * 2 + 1, none⟩ (.string (mtx (k + 2 * j + 1)))).cell? ⟨g, y, none⟩ = wr.cell? ⟨g, y, none⟩ := by
      intro y h1 h2
      rw [setO' (Ne.symm h2), hb3.cell (p := ⟨g, y, none⟩) hgl2, hw2, setO' (Ne.symm h1), HB1.out.cell (p := ⟨g, y, none⟩) hgl]
     have e2 : (if x < j + 1 then (⟨mtx (k + 2 * x), mtx (k + 2 * x + 1)⟩ : Al) else xs[x]) = (if x < j then ⟨mtx (k + 2 * x), mtx (k + 2 * x + 1)⟩ else xs[x]) := by
      by_cases h2 : x < j
      ·rw [if_pos h2, if_pos (by omega)]
      ·rw [if_neg h2, if_neg (by omega)]
     rw [e2]
     exact ⟨by rw [he _ (by omega) (by omega)]; exact hx2.1, by rw [he _ (by omega) (by omega)]; exact hx2.2⟩
   have HCH3 : Hid (Chg (fun y => xs ≠ [] ∧ (some ⟨g, 0, none⟩ : Option Addr) = some ⟨y, 0, none⟩) w (w3.setCell ⟨g, j * 2 + 1, none⟩ (.string (mtx (k + 2 * j + 1))))) := by
    refine (HCH.out.trans ((Chg.of HB1.out).trans ?_)).trans ((Chg.of hb3).trans (Chg.set _ ⟨HZ.out, rfl⟩))
    rw [hw2]
    exact Chg.set _ ⟨HZ.out, rfl⟩
   have HF3 : Hid (Free (w3.setCell ⟨g, j * 2 + 1, none⟩ (.string (mtx (k + 2 * j + 1)))) g) := fun y => by simpa using fz3 y
   clear hb3 hw2 c0 c1 fz
   go_wp2
   go_roundw
   case rel => exact ⟨j + 1, by omega, by go_num, by go_num, HC3, HF3, HCH3⟩
   case measure => first | (simp [intOf]; done) | (simp [intOf]; omega)
  ·obtain rfl : j = xs.length := by omega
   have HS3 : Hid (SlA wr (some ⟨g, 0, none⟩) (mkA k xs)) := .inr ⟨g, 0, rfl, Nat.lt_of_lt_of_le hb HCH.out.size, fun i hi => by
    have h2 : i < xs.length := by rw [mkA_len] at hi; exact hi
    have := HC.out i h2
    rw [if_pos h2] at this
    rw [Nat.zero_add, mkA_at]; exact this⟩
   go_wp2
   go_ret
   exact ⟨by go_num, HS3.out, HCH.out⟩
theorem keepA {w w1 w2 : World} {b o : Nat} {u v : Value} (h : w1.cell? ⟨b, o, none⟩ = some u ∧ w1.cell? ⟨b, o + 1, none⟩ = some v ∧ b < w1.heap.size ∧ Below w.heap.size w w1) (hb : Below w1.heap.size w1 w2) : w2.cell? ⟨b, o, none⟩ = some u ∧ w2.cell? ⟨b, o + 1, none⟩ = some v ∧ b < w2.heap.size ∧ Below w.heap.size w w2 :=
 ⟨kept hb h.2.2.1 h.1, kept hb h.2.2.1 h.2.1, Nat.lt_of_lt_of_le h.2.2.1 hb.size, h.2.2.2.trans (hb.mono h.2.2.2.size)⟩
end Go.Proofs.YtmghabcaakgjiaaGreat
