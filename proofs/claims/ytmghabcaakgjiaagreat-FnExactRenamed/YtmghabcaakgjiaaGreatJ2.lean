/- Contracts of the law's helpers that hold two expressions against one another: true where both hold the same. -/
import Derived.Test.YtmghabcaakgjiaaGreatToExpr2
import Derived.Deep.RegionHeld3
import Derived.Deep.QuietTactic
import Derived.BigQuiet
import Derived.WalkSmall
import Derived.WalkSpells
namespace Go.Proofs.YtmghabcaakgjiaaGreat
open Go.ChangeShapes Go.WideShapes Go.ChangeAt Go.RowKit
open Pl
set_option maxHeartbeats 800000 in
theorem eqInt64S_same (ad ad' : Option Addr) (cap cap' : Nat) (zs : List Int) (w : World) (hlen : zs.length ≤ maxLen) (hs : SlI w ad zs) (hs' : SlI w ad' zs) :
  Calls Tryz.prog 144 #[.slice ad zs.length cap, .slice ad' zs.length cap'] w fun e w' => e = .returned (.bool true) ∧ Below w.heap.size w w' := by
 unfold maxLen at hlen
 go_enter Tryz.func144, Tryz.ntmps144
 go_wp2
 go_loopw [5] (fun i wr => ∃ k : Nat, k ≤ zs.length ∧ i = .int .i64 k ∧ Below w.heap.size w wr) (fun i _ => zs.length - (intOf i).toNat)
 case atStart => exact ⟨0, Nat.zero_le _, rfl, Below.refl _ _⟩
 case round =>
  obtain ⟨k, hk, rfl, hB⟩ := hrel
  by_cases hlt : k < zs.length
  ·rcases hs.below hB with rfl | ⟨b, off, rfl, hb, hr⟩
   ·simp at hlt
   rcases hs'.below hB with rfl | ⟨b', off', rfl, hb', hr'⟩
   ·simp at hlt
   have t0 := hr k hlt
   have q0 := hr' k hlt
   have hk1 : (0 : Int) ≤ (k : Int) := by omega
   have hk2 : (k : Int) < (zs.length : Int) := by omega
   clear hr hr' hs hs'
   go_wp2_with fail
   go_quiet (fail)
   go_wp2
   go_roundw
   case rel => exact ⟨k + 1, by omega, by go_num, below_drewN hB _⟩
   case measure => simp [intOf]; omega
  ·go_wp2
   go_ret
   exact ⟨rfl, hB⟩
theorem eqAllowed_same (t s : ByteArray) (w : World) :
  Calls Tryz.prog 148 #[.agg #[.string t, .string s], .agg #[.string t, .string s]] w fun e w' => e = .returned (.bool true) ∧ Below w.heap.size w w' := by
 go_enter Tryz.func148, Tryz.ntmps148
 go_wp2
 go_ret
 exact ⟨rfl, ((Below.refl w.heap.size w).alloc (Nat.le_refl _) _).alloc (by simp) _⟩
theorem keep4 {w W w' : World} {b b' o o' : Nat} {x0 x1 y0 y1 : Value} (h : W.cell? ⟨b, o, none⟩ = some x0 ∧ W.cell? ⟨b, o + 1, none⟩ = some x1 ∧ W.cell? ⟨b', o', none⟩ = some y0 ∧ W.cell? ⟨b', o' + 1, none⟩ = some y1 ∧ b < W.heap.size ∧ b' < W.heap.size ∧ Below w.heap.size w W) (hb : Below W.heap.size W w') :
  w'.cell? ⟨b, o, none⟩ = some x0 ∧ w'.cell? ⟨b, o + 1, none⟩ = some x1 ∧ w'.cell? ⟨b', o', none⟩ = some y0 ∧ w'.cell? ⟨b', o' + 1, none⟩ = some y1 ∧ b < w'.heap.size ∧ b' < w'.heap.size ∧ Below w.heap.size w w' := by
 obtain ⟨h0, h1, h2, h3, l, l', hB⟩ := h
 exact ⟨kept hb l h0, kept hb l h1, kept hb l' h2, kept hb l' h3, Nat.lt_of_lt_of_le l hb.size, Nat.lt_of_lt_of_le l' hb.size, hB.trans (hb.mono hB.size)⟩
set_option maxHeartbeats 1000000 in
theorem eqAllowedS_same (ad ad' : Option Addr) (cap cap' : Nat) (xs : List Al) (w : World) (hlen : xs.length ≤ maxLen) (hs : SlA w ad xs) (hs' : SlA w ad' xs) :
  Calls Tryz.prog 143 #[.slice ad xs.length cap, .slice ad' xs.length cap'] w fun e w' => e = .returned (.bool true) ∧ Below w.heap.size w w' := by
 unfold maxLen at hlen
 go_enter Tryz.func143, Tryz.ntmps143
 go_wp2
 go_loopw [5] (fun i wr => ∃ k : Nat, k ≤ xs.length ∧ i = .int .i64 k ∧ Below w.heap.size w wr) (fun i _ => xs.length - (intOf i).toNat)
 case atStart => exact ⟨0, Nat.zero_le _, rfl, Below.refl _ _⟩
 case round =>
  obtain ⟨k, hk, rfl, hB⟩ := hrel
  by_cases hlt : k < xs.length
  ·rcases hs.below hB with rfl | ⟨b, off, rfl, hb, hr⟩
   ·simp at hlt
   rcases hs'.below hB with rfl | ⟨b', off', rfl, hb', hr'⟩
   ·simp at hlt
   obtain ⟨t0, t1⟩ := hr k hlt
   obtain ⟨q0, q1⟩ := hr' k hlt
   have hk1 : (0 : Int) ≤ (k : Int) := by omega
   have hk2 : (k : Int) < (xs.length : Int) := by omega
   clear hr hr' hs hs'
   go_wp2_with fail
   go_region_held3 (fun w' => w'.cell? ⟨b, off + k * 2, none⟩ = some (.string xs[k].t) ∧ w'.cell? ⟨b, off + k * 2 + 1, none⟩ = some (.string xs[k].s) ∧ w'.cell? ⟨b', off' + k * 2, none⟩ = some (.string xs[k].t) ∧ w'.cell? ⟨b', off' + k * 2 + 1, none⟩ = some (.string xs[k].s) ∧ b < w'.heap.size ∧ b' < w'.heap.size ∧ Below w.heap.size w w')
    (first | assumption | exact keep4 (by assumption) hbx | exact ⟨t0, t1, q0, q1, hb, hb', hB.drew⟩)
    (first | (go_at_call 148; refine (eqAllowed_same _ _ _).mono ?_; rintro e w' ⟨rfl, hbx⟩))
   rename_i hH
   obtain ⟨-, -, -, -, -, -, gB⟩ := hH
   clear t0 t1 q0 q1 hB hb hb'
   go_wp2
   go_roundw
   case rel => exact ⟨k + 1, by omega, by go_num, gB⟩
   case measure => simp [intOf]; omega
  ·go_wp2
   go_ret
   exact ⟨rfl, hB⟩
set_option maxHeartbeats 1000000 in
theorem eqExpr_same (r r' : ER) (w : World) (he : r'.e = r.e) (hr : r.ok w) (hr' : r'.ok w) (hf : r.e.allow.length ≤ maxLen) (hg : r.e.kids.length ≤ maxLen) :
  Calls Tryz.prog 134 #[r.val, r'.val] w fun e w' => e = .returned (.bool true) ∧ Below w.heap.size w w' := by
 obtain ⟨⟨kind, allow, over, name, kids⟩, adA, capA, adK, capK⟩ := r
 obtain ⟨e', adA', capA', adK', capK'⟩ := r'
 simp only at he
 subst he
 obtain ⟨hA, hK⟩ := hr
 obtain ⟨hA', hK'⟩ := hr'
 simp only at hA hK hA' hK' hf hg
 simp only [ER.val]
 obtain ⟨W1, hW1⟩ : ∃ W1, W1 = (w.alloc (.cells #[.int .i64 kind, .slice adA allow.length capA, .string over, .string name, .slice adK kids.length capK] 50)).alloc (.cells #[.int .i64 kind, .slice adA' allow.length capA', .string over, .string name, .slice adK' kids.length capK'] 50) := ⟨_, rfl⟩
 have hb0 : Below w.heap.size w W1 := by rw [hW1]; exact ((Below.refl w.heap.size w).alloc (Nat.le_refl _) _).alloc (by simp) _
 have bA : Below (w.alloc (.cells #[.int .i64 kind, .slice adA allow.length capA, .string over, .string name, .slice adK kids.length capK] 50)).heap.size (w.alloc (.cells #[.int .i64 kind, .slice adA allow.length capA, .string over, .string name, .slice adK kids.length capK] 50)) W1 := by rw [hW1]; exact (Below.refl _ _).alloc (Nat.le_refl _) _
 have hz1 : w.heap.size + 2 ≤ W1.heap.size := by rw [hW1]; simp only [World.size_alloc]; omega
 have s2 : W1.cell? ⟨w.heap.size, 2, none⟩ = some (.string over) := kept bA (by simp) (by simp)
 have s3 : W1.cell? ⟨w.heap.size, 3, none⟩ = some (.string name) := kept bA (by simp) (by simp)
 have s4 : W1.cell? ⟨w.heap.size, 4, none⟩ = some (.slice adK kids.length capK) := kept bA (by simp) (by simp)
 have o2 : W1.cell? ⟨w.heap.size + 1, 2, none⟩ = some (.string over) := by rw [hW1]; exact c_new1 _ _ _ _ _ rfl
 have o3 : W1.cell? ⟨w.heap.size + 1, 3, none⟩ = some (.string name) := by rw [hW1]; exact c_new1 _ _ _ _ _ rfl
 have o4 : W1.cell? ⟨w.heap.size + 1, 4, none⟩ = some (.slice adK' kids.length capK') := by rw [hW1]; exact c_new1 _ _ _ _ _ rfl
 go_enter Tryz.func134, Tryz.ntmps134
 go_wp2_with fail
 rw [← hW1]
 refine (eqAllowedS_same adA adA' capA capA' allow W1 hf (hA.below hb0) (hA'.below hb0)).mono ?_
 rintro e w1 ⟨rfl, hb1⟩
 replace s2 := kept hb1 (by omega) s2
 replace o2 := kept hb1 (by omega) o2
 replace s3 := kept hb1 (by omega) s3
 replace o3 := kept hb1 (by omega) o3
 replace s4 := kept hb1 (by omega) s4
 replace o4 := kept hb1 (by omega) o4
 have HB1 : Hid (Below w.heap.size w w1) := hb0.trans (hb1.mono (by omega))
 clear hb1 hb0 bA hW1 hA hA'
 go_wp2_with fail
 refine (eqInt64S_same adK adK' capK capK' kids w1 hg (hK.below HB1.out) (hK'.below HB1.out)).mono ?_
 rintro e w2 ⟨rfl, hb2⟩
 have HB2 : Hid (Below w.heap.size w w2) := HB1.out.trans (hb2.mono HB1.out.size)
 clear hb2
 go_wp2
 go_ret
 exact ⟨rfl, HB2.out⟩
theorem keep10 {wr W w' : World} {b b' o o' : Nat} {x0 x1 x2 x3 x4 y0 y1 y2 y3 y4 : Value} (h : W.cell? ⟨b, o, none⟩ = some x0 ∧ W.cell? ⟨b, o + 1, none⟩ = some x1 ∧ W.cell? ⟨b, o + 2, none⟩ = some x2 ∧ W.cell? ⟨b, o + 3, none⟩ = some x3 ∧ W.cell? ⟨b, o + 4, none⟩ = some x4 ∧ W.cell? ⟨b', o', none⟩ = some y0 ∧ W.cell? ⟨b', o' + 1, none⟩ = some y1 ∧ W.cell? ⟨b', o' + 2, none⟩ = some y2 ∧ W.cell? ⟨b', o' + 3, none⟩ = some y3 ∧ W.cell? ⟨b', o' + 4, none⟩ = some y4 ∧ b < W.heap.size ∧ b' < W.heap.size ∧ Below wr.heap.size wr W) (hb : Below W.heap.size W w') : w'.cell? ⟨b, o, none⟩ = some x0 ∧ w'.cell? ⟨b, o + 1, none⟩ = some x1 ∧ w'.cell? ⟨b, o + 2, none⟩ = some x2 ∧ w'.cell? ⟨b, o + 3, none⟩ = some x3 ∧ w'.cell? ⟨b, o + 4, none⟩ = some x4 ∧ w'.cell? ⟨b', o', none⟩ = some y0 ∧ w'.cell? ⟨b', o' + 1, none⟩ = some y1 ∧ w'.cell? ⟨b', o' + 2, none⟩ = some y2 ∧ w'.cell? ⟨b', o' + 3, none⟩ = some y3 ∧ w'.cell? ⟨b', o' + 4, none⟩ = some y4 ∧ b < w'.heap.size ∧ b' < w'.heap.size ∧ Below wr.heap.size wr w' := by
 obtain ⟨h0, h1, h2, h3, h4, k0, k1, k2, k3, k4, l, l', hB⟩ := h
 exact ⟨kept hb l h0, kept hb l h1, kept hb l h2, kept hb l h3, kept hb l h4, kept hb l' k0, kept hb l' k1, kept hb l' k2, kept hb l' k3, kept hb l' k4, Nat.lt_of_lt_of_le l hb.size, Nat.lt_of_lt_of_le l' hb.size, hB.trans (hb.mono hB.size)⟩
theorem keepB {wr W : World} {b b' o o' : Nat} {x0 x1 x2 x3 x4 y0 y1 y2 y3 y4 : Value} (h : W.cell? ⟨b, o, none⟩ = some x0 ∧ W.cell? ⟨b, o + 1, none⟩ = some x1 ∧ W.cell? ⟨b, o + 2, none⟩ = some x2 ∧ W.cell? ⟨b, o + 3, none⟩ = some x3 ∧ W.cell? ⟨b, o + 4, none⟩ = some x4 ∧ W.cell? ⟨b', o', none⟩ = some y0 ∧ W.cell? ⟨b', o' + 1, none⟩ = some y1 ∧ W.cell? ⟨b', o' + 2, none⟩ = some y2 ∧ W.cell? ⟨b', o' + 3, none⟩ = some y3 ∧ W.cell? ⟨b', o' + 4, none⟩ = some y4 ∧ b < W.heap.size ∧ b' < W.heap.size ∧ Below wr.heap.size wr W) : Below wr.heap.size wr W := h.2.2.2.2.2.2.2.2.2.2.2.2
set_option maxHeartbeats 2000000 in
theorem eqExprS_same (ad ad' : Option Addr) (cap cap' : Nat) (rs rs' : List ER) (w : World) (hlen : rs.length ≤ 1048576) (he : exs rs' = exs rs) (hs : SlE w ad rs) (hs' : SlE w ad' rs') (hl : ∀ r ∈ rs, r.e.light) :
  Calls Tryz.prog 123 #[.slice ad rs.length cap, .slice ad' rs'.length cap'] w fun e w' => e = .returned (.bool true) ∧ Below w.heap.size w w' := by
 have hll : rs'.length = rs.length := by rw [← exs_len, he, exs_len]
 have HSL : Hid (SlE w ad rs) := hs
 have HSM : Hid (SlE w ad' rs') := hs'
 have HLI : Hid (∀ r ∈ rs, r.e.light) := hl
 have HEE : Hid (exs rs' = exs rs) := he
 have HLL : Hid (rs'.length = rs.length) := hll
 rw [hll]
 clear hs hs' hl he hll
 go_enter Tryz.func123, Tryz.ntmps123
 go_wp2
 go_loopw [5] (fun i wr => ∃ k : Nat, k ≤ rs.length ∧ i = .int .i64 k ∧ Below w.heap.size w wr) (fun i _ => rs.length - (intOf i).toNat)
 case atStart => exact ⟨0, Nat.zero_le _, rfl, Below.refl _ _⟩
 case round =>
  obtain ⟨k, hk, rfl, hB⟩ := hrel
  by_cases hlt : k < rs.length
  ·have hlt' : k < rs'.length := by rw [HLL.out]; exact hlt
   rcases HSL.out.below hB with rfl | ⟨b, off, rfl, hb, hr, hok⟩
   ·simp at hlt
   rcases HSM.out.below hB with rfl | ⟨b', off', rfl, hb', hr', hok'⟩
   ·simp at hlt'
   obtain ⟨t0, t1, t2, t3, t4⟩ := hr k hlt
   obtain ⟨q0, q1, q2, q3, q4⟩ := hr' k hlt'
   have HK1 : Hid (rs[k].ok wr) := hok rs[k] (List.getElem_mem hlt)
   have HK2 : Hid (rs'[k].ok wr) := hok' rs'[k] (List.getElem_mem hlt')
   have HK3 : Hid (rs'[k].e = rs[k].e) := by
    have h1 : (exs rs')[k]? = (exs rs)[k]? := by rw [HEE.out]
    show _ = _
    simpa [exs, hlt, hlt'] using h1
   obtain ⟨g1, g2⟩ := HLI.out rs[k] (List.getElem_mem hlt)
   have hk1 : (0 : Int) ≤ (k : Int) := by omega
   have hk2 : (k : Int) < (rs.length : Int) := by omega
   have HK4 : Hid (rs[k].e.allow.length ≤ maxLen) := Nat.le_trans g1 (by decide)
   have HK5 : Hid (rs[k].e.kids.length ≤ maxLen) := Nat.le_trans g2 (by decide)
   clear hr hr' hok hok' g1 g2
   go_wp2_with fail
   go_region_held3 (fun w' => w'.cell? ⟨b, off + k * 5, none⟩ = some (.int .i64 rs[k].e.kind) ∧ w'.cell? ⟨b, off + k * 5 + 1, none⟩ = some (.slice rs[k].adA rs[k].e.allow.length rs[k].capA) ∧ w'.cell? ⟨b, off + k * 5 + 2, none⟩ = some (.string rs[k].e.over) ∧ w'.cell? ⟨b, off + k * 5 + 3, none⟩ = some (.string rs[k].e.name) ∧ w'.cell? ⟨b, off + k * 5 + 4, none⟩ = some (.slice rs[k].adK rs[k].e.kids.length rs[k].capK) ∧ w'.cell? ⟨b', off' + k * 5, none⟩ = some (.int .i64 rs'[k].e.kind) ∧ w'.cell? ⟨b', off' + k * 5 + 1, none⟩ = some (.slice rs'[k].adA rs'[k].e.allow.length rs'[k].capA) ∧ w'.cell? ⟨b', off' + k * 5 + 2, none⟩ = some (.string rs'[k].e.over) ∧ w'.cell? ⟨b', off' + k * 5 + 3, none⟩ = some (.string rs'[k].e.name) ∧ w'.cell? ⟨b', off' + k * 5 + 4, none⟩ = some (.slice rs'[k].adK rs'[k].e.kids.length rs'[k].capK) ∧ b < w'.heap.size ∧ b' < w'.heap.size ∧ Below wr.heap.size wr w')
    (first | assumption | exact keep10 (by assumption) hbx | exact ⟨t0, t1, t2, t3, t4, q0, q1, q2, q3, q4, hb, hb', (Below.refl _ _).drew⟩)
    (first | (go_at_call 134; refine (eqExpr_same rs[k] rs'[k] _ HK3.out (HK1.out.below (keepB (by assumption))) (HK2.out.below (keepB (by assumption))) HK4.out HK5.out).mono ?_; rintro e w' ⟨rfl, hbx⟩))
   rename_i hH
   obtain ⟨-, -, -, -, -, -, -, -, -, -, -, -, gB⟩ := hH
   clear t0 t1 t2 t3 t4 q0 q1 q2 q3 q4 hb hb'
   go_wp2
   go_roundw
   case rel => exact ⟨k + 1, by omega, by go_num, hB.trans (gB.mono hB.size)⟩
   case measure => simp [intOf]; omega
  ·go_wp2
   go_ret
   exact ⟨rfl, hB⟩
end Go.Proofs.YtmghabcaakgjiaaGreat
namespace Go.Proofs.YtmghabcaakgjiaaGreat
open Go.ChangeShapes Go.WideShapes Go.ChangeAt Go.RowKit
open Pl
theorem ER.new.mono {B B' : Nat} {r : ER} (h : r.new B) (hB : B' ≤ B) : r.new B' := by
 obtain ⟨gA, gK, e1, e2, h1, h2, h3⟩ := h
 exact ⟨gA, gK, e1, e2, by omega, by omega, h3⟩
structure Rl where
 name : ByteArray
 expr : List Ex
structure RR where
 name : ByteArray
 rows : List ER
 ad : Option Addr
 cap : Nat
def RR.p (r : RR) : Rl := ⟨r.name, exs r.rows⟩
def RR.val (r : RR) : Value := .agg #[.string r.name, .slice r.ad r.rows.length r.cap]
def RR.ok (w : World) (r : RR) : Prop := SlE w r.ad r.rows
def RR.fits (r : RR) : Prop := r.name.size ≤ maxLen ∧ r.rows.length ≤ maxLen ∧ ∀ q ∈ r.rows, q.e.fits
def RR.light (r : RR) : Prop := r.rows.length ≤ 1048576 ∧ ∀ q ∈ r.rows, q.e.light
def RR.caps (r : RR) : Prop := r.rows.length ≤ r.cap ∧ ∀ q ∈ r.rows, q.e.allow.length ≤ q.capA
def RR.new (B : Nat) (r : RR) : Prop := (∃ g : Nat, r.ad = some ⟨g, 0, none⟩ ∧ B < g) ∧ ∀ q ∈ r.rows, q.new B
theorem RR.ok.below {w w' : World} {r : RR} (h : r.ok w) (hB : Below w.heap.size w w') : r.ok w' := SlE.below h hB
def AtR (w : World) (b off : Nat) (r : RR) : Prop := w.cell? ⟨b, off, none⟩ = some (.string r.name) ∧ w.cell? ⟨b, off + 1, none⟩ = some (.slice r.ad r.rows.length r.cap)
theorem AtR.same {w w' : World} {b off : Nat} {r : RR} (h : AtR w b off r) (hc : ∀ o, w'.cell? ⟨b, o, none⟩ = w.cell? ⟨b, o, none⟩) : AtR w' b off r := ⟨(hc _).trans h.1, (hc _).trans h.2⟩
theorem AtR.later {w w' : World} {b off : Nat} {r : RR} (h : AtR w b off r) (hb : b < w.heap.size) (hB : Below w.heap.size w w') : AtR w' b off r := h.same fun o => hB.cell (p := ⟨b, o, none⟩) hb
def SlR (w : World) (ad : Option Addr) (rs : List RR) : Prop := rs = [] ∨ ∃ b off, ad = some ⟨b, off, none⟩ ∧ b < w.heap.size ∧ (∀ (i : Nat) (h : i < rs.length), AtR w b (off + i * 2) rs[i]) ∧ ∀ r ∈ rs, r.ok w
theorem SlR.below {w w' : World} {ad : Option Addr} {rs : List RR} (h : SlR w ad rs) (hB : Below w.heap.size w w') : SlR w' ad rs := by
 rcases h with h | ⟨b, off, e, hb, hr, hk⟩
 ·exact .inl h
 ·exact .inr ⟨b, off, e, Nat.lt_of_lt_of_le hb hB.size, fun i hi => (hr i hi).same fun o => hB.cell (p := ⟨b, o, none⟩) hb, fun r hr => (hk r hr).below hB⟩
def rls (rs : List RR) : List Rl := rs.map RR.p
theorem rls_len (rs : List RR) : (rls rs).length = rs.length := by simp [rls]
theorem RR.ok.set {w : World} {r : RR} {g o : Nat} {v : Value} (h : r.ok w) (hn : r.new g) : r.ok (w.setCell ⟨g, o, none⟩ v) := by
 obtain ⟨⟨gE, e1, h1⟩, h2⟩ := hn
 rcases h with h | ⟨b, off, e, hb, hr, hk⟩
 ·exact .inl h
 ·refine .inr ⟨b, off, e, by simpa using hb, fun i hi => (hr i hi).same fun o => setB2 ?_, fun q hq => (hk q hq).set (h2 q hq)⟩
  rw [e1] at e; injection e with e; injection e with e3 e4; omega
theorem RR.new.mono {B B' : Nat} {r : RR} (h : r.new B) (hB : B' ≤ B) : r.new B' := by
 obtain ⟨⟨g, e, hg⟩, h2⟩ := h
 exact ⟨⟨g, e, by omega⟩, fun q hq => (h2 q hq).mono hB⟩
structure Ty where
 name : ByteArray
 rels : List Rl
structure TR where
 name : ByteArray
 rows : List RR
 ad : Option Addr
 cap : Nat
def TR.p (r : TR) : Ty := ⟨r.name, rls r.rows⟩
def TR.val (r : TR) : Value := .agg #[.string r.name, .slice r.ad r.rows.length r.cap]
def TR.ok (w : World) (r : TR) : Prop := SlR w r.ad r.rows
def TR.fits (r : TR) : Prop := r.name.size ≤ maxLen ∧ r.rows.length ≤ maxLen ∧ ∀ q ∈ r.rows, q.fits
def TR.light (r : TR) : Prop := r.rows.length ≤ 1048576 ∧ ∀ q ∈ r.rows, q.light
def TR.caps (r : TR) : Prop := r.rows.length ≤ r.cap ∧ ∀ q ∈ r.rows, q.caps
def TR.new (B : Nat) (r : TR) : Prop := (∃ g : Nat, r.ad = some ⟨g, 0, none⟩ ∧ B < g) ∧ ∀ q ∈ r.rows, q.new B
theorem TR.ok.below {w w' : World} {r : TR} (h : r.ok w) (hB : Below w.heap.size w w') : r.ok w' := SlR.below h hB
def AtT (w : World) (b off : Nat) (r : TR) : Prop := w.cell? ⟨b, off, none⟩ = some (.string r.name) ∧ w.cell? ⟨b, off + 1, none⟩ = some (.slice r.ad r.rows.length r.cap)
theorem AtT.same {w w' : World} {b off : Nat} {r : TR} (h : AtT w b off r) (hc : ∀ o, w'.cell? ⟨b, o, none⟩ = w.cell? ⟨b, o, none⟩) : AtT w' b off r := ⟨(hc _).trans h.1, (hc _).trans h.2⟩
theorem AtT.later {w w' : World} {b off : Nat} {r : TR} (h : AtT w b off r) (hb : b < w.heap.size) (hB : Below w.heap.size w w') : AtT w' b off r := h.same fun o => hB.cell (p := ⟨b, o, none⟩) hb
def SlT (w : World) (ad : Option Addr) (rs : List TR) : Prop := rs = [] ∨ ∃ b off, ad = some ⟨b, off, none⟩ ∧ b < w.heap.size ∧ (∀ (i : Nat) (h : i < rs.length), AtT w b (off + i * 2) rs[i]) ∧ ∀ r ∈ rs, r.ok w
theorem SlT.below {w w' : World} {ad : Option Addr} {rs : List TR} (h : SlT w ad rs) (hB : Below w.heap.size w w') : SlT w' ad rs := by
 rcases h with h | ⟨b, off, e, hb, hr, hk⟩
 ·exact .inl h
 ·exact .inr ⟨b, off, e, Nat.lt_of_lt_of_le hb hB.size, fun i hi => (hr i hi).same fun o => hB.cell (p := ⟨b, o, none⟩) hb, fun r hr => (hk r hr).below hB⟩
def tys (rs : List TR) : List Ty := rs.map TR.p
theorem tys_len (rs : List TR) : (tys rs).length = rs.length := by simp [tys]
theorem TR.ok.set {w : World} {r : TR} {g o : Nat} {v : Value} (h : r.ok w) (hn : r.new g) : r.ok (w.setCell ⟨g, o, none⟩ v) := by
 obtain ⟨⟨gE, e1, h1⟩, h2⟩ := hn
 rcases h with h | ⟨b, off, e, hb, hr, hk⟩
 ·exact .inl h
 ·refine .inr ⟨b, off, e, by simpa using hb, fun i hi => (hr i hi).same fun o => setB2 ?_, fun q hq => (hk q hq).set (h2 q hq)⟩
  rw [e1] at e; injection e with e; injection e with e3 e4; omega
theorem TR.new.mono {B B' : Nat} {r : TR} (h : r.new B) (hB : B' ≤ B) : r.new B' := by
 obtain ⟨⟨g, e, hg⟩, h2⟩ := h
 exact ⟨⟨g, e, by omega⟩, fun q hq => (h2 q hq).mono hB⟩
end Go.Proofs.YtmghabcaakgjiaaGreat
namespace Go.Proofs.YtmghabcaakgjiaaGreat
open Go.ChangeShapes Go.WideShapes Go.ChangeAt Go.RowKit
open Pl
def relIn : List Rl → ByteArray → Option (List Ex)
 | [], _ => none
 | r :: rs, n => if r.name.toList == n.toList then some r.expr else relIn rs n
def relP : List Ty → ByteArray → ByteArray → Option (List Ex)
 | [], _, _ => none
 | t :: ts, ty, n => if t.name.toList == ty.toList then (relIn t.rels n).or (relP ts ty n) else relP ts ty n
def typP : List Ty → ByteArray → Bool
 | [], _ => false
 | t :: ts, ty => (t.name.toList == ty.toList) || typP ts ty
theorem tys_drop (rs : List TR) (k : Nat) (h : k < rs.length) : tys (rs.drop k) = ⟨rs[k].name, rls rs[k].rows⟩ :: tys (rs.drop (k + 1)) := by
 rw [List.drop_eq_getElem_cons h]; rfl
theorem rls_drop (rs : List RR) (k : Nat) (h : k < rs.length) : rls (rs.drop k) = ⟨rs[k].name, exs rs[k].rows⟩ :: rls (rs.drop (k + 1)) := by
 rw [List.drop_eq_getElem_cons h]; rfl
set_option maxHeartbeats 1000000 in
theorem l2Type_any (ad : Option Addr) (cap : Nat) (rs : List TR) (typ : ByteArray) (w : World) (hlen : rs.length ≤ 1048576) (hs : SlT w ad rs) :
  Calls Tryz.prog 81 #[.slice ad rs.length cap, .string typ] w fun e w' => e = .returned (.bool (typP (tys rs) typ)) ∧ w' = w := by
 go_enter Tryz.func81, Tryz.ntmps81
 go_wp2
 go_loopw [5] (fun i wr => ∃ k : Nat, k ≤ rs.length ∧ i = .int .i64 k ∧ Hid (typP (tys (rs.drop k)) typ = typP (tys rs) typ) ∧ wr = w) (fun i _ => rs.length - (intOf i).toNat)
 case atStart => exact ⟨0, Nat.zero_le _, rfl, rfl, rfl⟩
 case round =>
  obtain ⟨k, hk, rfl, HP, rfl⟩ := hrel
  by_cases hlt : k < rs.length
  ·rcases hs with rfl | ⟨b, off, rfl, hb, hr, hok⟩
   ·simp at hlt
   obtain ⟨t0, t1⟩ := hr k hlt
   have hk1 : (0 : Int) ≤ (k : Int) := by omega
   have hk2 : (k : Int) < (rs.length : Int) := by omega
   clear hr hok
   cases hq : (rs[k].name.toList == typ.toList) with
   | true =>
    have HN : Hid (typP (tys rs) typ = true) := by show _ = _; rw [← HP.out, tys_drop _ _ hlt]; simp [typP, hq]
    go_wp2
    go_ret
    exact ⟨by rw [HN.out]; rfl, rfl⟩
   | false =>
    have HP2 : Hid (typP (tys (rs.drop (k + 1))) typ = typP (tys rs) typ) := by show _ = _; rw [← HP.out, tys_drop _ _ hlt]; simp [typP, hq]
    go_wp2
    go_roundw
    case rel => exact ⟨k + 1, by omega, by go_num, HP2, by first | rfl | trivial⟩
    case measure => first | (simp [intOf]; done) | (simp [intOf]; omega)
  ·have HN : Hid (typP (tys rs) typ = false) := by show _ = _; rw [← HP.out, List.drop_of_length_le (by omega)]; rfl
   go_wp2
   go_ret
   exact ⟨by rw [HN.out]; rfl, rfl⟩
def FromS (rs : List TR) (ad : Option Addr) (rows : List ER) : Prop := rows = [] ∨ ∃ t ∈ rs, ∃ q ∈ t.rows, rows = q.rows ∧ ad = q.ad
theorem SlR.mem {w : World} {ad : Option Addr} {rs : List RR} (h : SlR w ad rs) {q : RR} (hq : q ∈ rs) : q.ok w := by
 rcases h with rfl | ⟨b, off, e, hb, hr, hk⟩
 ·cases hq
 ·exact hk q hq
theorem SlT.mem {w : World} {ad : Option Addr} {rs : List TR} (h : SlT w ad rs) {q : TR} (hq : q ∈ rs) : q.ok w := by
 rcases h with rfl | ⟨b, off, e, hb, hr, hk⟩
 ·cases hq
 ·exact hk q hq
theorem FromS.sl {rs : List TR} {ad ad0 : Option Addr} {rows : List ER} {w : World} (h : FromS rs ad rows) (hs : SlT w ad0 rs) : SlE w ad rows := by
 rcases h with rfl | ⟨t, ht, q, hq, rfl, rfl⟩
 ·exact .inl rfl
 ·exact SlR.mem (hs.mem ht) hq
set_option maxHeartbeats 2000000 in
theorem l2Rel_any (ad : Option Addr) (cap : Nat) (rs : List TR) (typ rel : ByteArray) (w : World) (hlen : rs.length ≤ 1048576) (hs : SlT w ad rs) (hl : ∀ r ∈ rs, r.light) :
  Calls Tryz.prog 19 #[.slice ad rs.length cap, .string typ, .string rel] w fun e w' => (∃ (rows : List ER) (ad' : Option Addr) (cap' : Nat), e = .returned (.slice ad' rows.length cap') ∧ exs rows = (relP (tys rs) typ rel).getD [] ∧ SlE w ad' rows ∧ FromS rs ad' rows) ∧ w' = w := by
 have HS : Hid (SlT w ad rs) := hs
 have HL : Hid (∀ r ∈ rs, r.light) := hl
 clear hs hl
 go_enter Tryz.func19, Tryz.ntmps19
 go_wp2
 go_loopw [7] (fun i wr => ∃ k : Nat, k ≤ rs.length ∧ i = .int .i64 k ∧ Hid (relP (tys (rs.drop k)) typ rel = relP (tys rs) typ rel) ∧ wr = w) (fun i _ => rs.length - (intOf i).toNat)
 case atStart => exact ⟨0, Nat.zero_le _, rfl, rfl, rfl⟩
 case round =>
  obtain ⟨k, hk, rfl, HP, rfl⟩ := hrel
  by_cases hlt : k < rs.length
  ·rcases HS.out with rfl | ⟨b, off, rfl, hb, hr, hok⟩
   ·simp at hlt
   obtain ⟨t0, t1⟩ := hr k hlt
   have ok := hok rs[k] (List.getElem_mem hlt)
   have lg := (HL.out rs[k] (List.getElem_mem hlt)).1
   have HOK : Hid (rs[k].ok wr) := ok
   have hk1 : (0 : Int) ≤ (k : Int) := by omega
   have hk2 : (k : Int) < (rs.length : Int) := by omega
   clear hr hok ok
   cases hq : (rs[k].name.toList == typ.toList) with
   | false =>
    have HP2 : Hid (relP (tys (rs.drop (k + 1))) typ rel = relP (tys rs) typ rel) := by show _ = _; rw [← HP.out, tys_drop _ _ hlt]; simp [relP, hq]
    go_wp2_with fail
    go_loopw [8] (fun i w2 => i = .int .i64 0 ∧ w2 = wr) (fun i _ => (intOf i).toNat)
    case atStart => exact ⟨rfl, rfl⟩
    case round =>
     obtain ⟨rfl, rfl⟩ := hrel
     go_wp2
     go_roundw
     case rel => exact ⟨k + 1, by omega, by go_num, HP2, by first | rfl | trivial⟩
     case measure => first | (simp [intOf]; done) | (simp [intOf]; omega)
   | true =>
    go_wp2_with fail
    go_loopw [8] (fun i w2 => ∃ j : Nat, j ≤ rs[k].rows.length ∧ i = .int .i64 j ∧ Hid (relIn (rls (rs[k].rows.drop j)) rel = relIn (rls rs[k].rows) rel) ∧ w2 = wr) (fun i _ => rs[k].rows.length - (intOf i).toNat)
    case atStart => exact ⟨0, Nat.zero_le _, rfl, rfl, rfl⟩
    case round =>
     obtain ⟨j, hj, rfl, HI, rfl⟩ := hrel
     by_cases hjl : j < rs[k].rows.length
     ·rcases HOK.out with hnil | ⟨b2, off2, had, hb2, hr2, hok2⟩
      ·rw [hnil] at hjl; simp at hjl
      have t1' := t1
      rw [had] at t1'
      obtain ⟨q0, q1⟩ := hr2 j hjl
      have HOQ : Hid (rs[k].rows[j].ok _) := hok2 rs[k].rows[j] (List.getElem_mem hjl)
      have hj1 : (0 : Int) ≤ (j : Int) := by omega
      have hj2 : (j : Int) < (rs[k].rows.length : Int) := by omega
      clear hr2 hok2 had t1
      cases hn : (rs[k].rows[j].name.toList == rel.toList) with
      | true =>
       have HN : Hid (exs rs[k].rows[j].rows = (relP (tys rs) typ rel).getD []) := by
        have h1 : relIn (rls rs[k].rows) rel = some (exs rs[k].rows[j].rows) := by rw [← HI.out, rls_drop _ _ hjl]; simp [relIn, hn]
        show _ = _
        rw [← HP.out, tys_drop _ _ hlt]
        simp [relP, hq, h1]
       have HFS : Hid (FromS rs rs[k].rows[j].ad rs[k].rows[j].rows) := .inr ⟨rs[k], List.getElem_mem hlt, rs[k].rows[j], List.getElem_mem hjl, rfl, rfl⟩
       go_wp2
       go_ret
       exact ⟨⟨rs[k].rows[j].rows, _, _, rfl, HN.out, HOQ.out, HFS.out⟩, rfl⟩
      | false =>
       have HI2 : Hid (relIn (rls (rs[k].rows.drop (j + 1))) rel = relIn (rls rs[k].rows) rel) := by show _ = _; rw [← HI.out, rls_drop _ _ hjl]; simp [relIn, hn]
       go_wp2
       go_roundw
       case rel => exact ⟨j + 1, by omega, by go_num, HI2, by first | rfl | trivial⟩
       case measure => first | (simp [intOf]; done) | (simp [intOf]; omega)
     ·have HP2 : Hid (relP (tys (rs.drop (k + 1))) typ rel = relP (tys rs) typ rel) := by
       have h1 : relIn (rls rs[k].rows) rel = none := by rw [← HI.out, List.drop_of_length_le (by omega)]; rfl
       show _ = _
       rw [← HP.out, tys_drop _ _ hlt]
       simp [relP, hq, h1]
      go_wp2
      go_roundw
      case rel => exact ⟨k + 1, by omega, by go_num, HP2, by first | rfl | trivial⟩
      case measure => first | (simp [intOf]; done) | (simp [intOf]; omega)
  ·have HN : Hid (exs [] = (relP (tys rs) typ rel).getD []) := by show _ = _; rw [← HP.out, List.drop_of_length_le (by omega)]; rfl
   go_wp2
   go_ret
   exact ⟨⟨[], none, 0, rfl, HN.out, .inl rfl, .inl rfl⟩, rfl⟩
end Go.Proofs.YtmghabcaakgjiaaGreat
