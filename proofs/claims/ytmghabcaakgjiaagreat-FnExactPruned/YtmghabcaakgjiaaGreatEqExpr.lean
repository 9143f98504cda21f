/- Contracts of the law's helpers that hold two expressions against one another: true where both hold the same. -/
import Derived.Test.YtmghabcaakgjiaaGreatToExpr2
import Derived.Deep.RegionHeld3
import Derived.Deep.QuietTactic
import Derived.BigQuiet
import Derived.WalkSmall
import Derived.WalkSpells
namespace Go.Proofs.YtmghabcaakgjiaaGreat
open Go.ChangeShapes Go.WideShapes Go.ChangeAt Go.RowKit
open Pl

set_option maxHeartbeats 800000 in
theorem eqInt64S_same (ad ad' : Option Addr) (cap cap' : Nat) (zs : List Int) (w : World) (hlen : zs.length ≤ maxLen) (hs : SlI w ad zs) (hs' : SlI w ad' zs) :
    Calls Tryz.prog 144 #[.slice ad zs.length cap, .slice ad' zs.length cap'] w fun e w' => e = .returned (.bool true) ∧ Below w.heap.size w w' := by
  unfold maxLen at hlen
  go_enter Tryz.func144, Tryz.ntmps144
  go_wp2
  go_loopw [5] (fun i wr => ∃ k : Nat, k ≤ zs.length ∧ i = .int .i64 k ∧ Below w.heap.size w wr) (fun i _ => zs.length - (intOf i).toNat)
  case atStart => exact ⟨0, Nat.zero_le _, rfl, Below.refl _ _⟩
  case round =>
    obtain ⟨k, hk, rfl, hB⟩ := hrel
    by_cases hlt : k < zs.length
    · rcases hs.below hB with rfl | ⟨b, off, rfl, hb, hr⟩
      · simp at hlt
      rcases hs'.below hB with rfl | ⟨b', off', rfl, hb', hr'⟩
      · simp at hlt
      have t0 := hr k hlt
      have q0 := hr' k hlt
      have hk1 : (0 : Int) ≤ (k : Int) := by omega
      have hk2 : (k : Int) < (zs.length : Int) := by omega
      clear hr hr' hs hs'
      go_wp2_with fail
      go_quiet (fail)
      go_wp2
      go_roundw
      case rel => exact ⟨k + 1, by omega, by go_num, below_drewN hB _⟩
      case measure => simp [intOf]; omega
    · go_wp2
      go_ret
      exact ⟨rfl, hB⟩

theorem eqAllowed_same (t s : ByteArray) (w : World) :
    Calls Tryz.prog 148 #[.agg #[.string t, .string s], .agg #[.string t, .string s]] w fun e w' => e = .returned (.bool true) ∧ Below w.heap.size w w' := by
  go_enter Tryz.func148, Tryz.ntmps148
  go_wp2
  go_ret
  exact ⟨rfl, ((Below.refl w.heap.size w).alloc (Nat.le_refl _) _).alloc (by simp) _⟩

theorem keep4 {w W w' : World} {b b' o o' : Nat} {x0 x1 y0 y1 : Value} (h : W.cell? ⟨b, o, none⟩ = some x0 ∧ W.cell? ⟨b, o + 1, none⟩ = some x1 ∧ W.cell? ⟨b', o', none⟩ = some y0 ∧ W.cell? ⟨b', o' + 1, none⟩ = some y1 ∧ b < W.heap.size ∧ b' < W.heap.size ∧ Below w.heap.size w W) (hb : Below W.heap.size W w') :
    w'.cell? ⟨b, o, none⟩ = some x0 ∧ w'.cell? ⟨b, o + 1, none⟩ = some x1 ∧ w'.cell? ⟨b', o', none⟩ = some y0 ∧ w'.cell? ⟨b', o' + 1, none⟩ = some y1 ∧ b < w'.heap.size ∧ b' < w'.heap.size ∧ Below w.heap.size w w' := by
  obtain ⟨h0, h1, h2, h3, l, l', hB⟩ := h
  exact ⟨kept hb l h0, kept hb l h1, kept hb l' h2, kept hb l' h3, Nat.lt_of_lt_of_le l hb.size, Nat.lt_of_lt_of_le l' hb.size, hB.trans (hb.mono hB.size)⟩

set_option maxHeartbeats 1000000 in
theorem eqAllowedS_same (ad ad' : Option Addr) (cap cap' : Nat) (xs : List Al) (w : World) (hlen : xs.length ≤ maxLen) (hs : SlA w ad xs) (hs' : SlA w ad' xs) :
    Calls Tryz.prog 143 #[.slice ad xs.length cap, .slice ad' xs.length cap'] w fun e w' => e = .returned (.bool true) ∧ Below w.heap.size w w' := by
  unfold maxLen at hlen
  go_enter Tryz.func143, Tryz.ntmps143
  go_wp2
  go_loopw [5] (fun i wr => ∃ k : Nat, k ≤ xs.length ∧ i = .int .i64 k ∧ Below w.heap.size w wr) (fun i _ => xs.length - (intOf i).toNat)
  case atStart => exact ⟨0, Nat.zero_le _, rfl, Below.refl _ _⟩
  case round =>
    obtain ⟨k, hk, rfl, hB⟩ := hrel
    by_cases hlt : k < xs.length
    · rcases hs.below hB with rfl | ⟨b, off, rfl, hb, hr⟩
      · simp at hlt
      rcases hs'.below hB with rfl | ⟨b', off', rfl, hb', hr'⟩
      · simp at hlt
      obtain ⟨t0, t1⟩ := hr k hlt
      obtain ⟨q0, q1⟩ := hr' k hlt
      have hk1 : (0 : Int) ≤ (k : Int) := by omega
      have hk2 : (k : Int) < (xs.length : Int) := by omega
      clear hr hr' hs hs'
      go_wp2_with fail
      go_region_held3 (fun w' => w'.cell? ⟨b, off + k * 2, none⟩ = some (.string xs[k].t) ∧ w'.cell? ⟨b, off + k * 2 + 1, none⟩ = some (.string xs[k].s) ∧ w'.cell? ⟨b', off' + k * 2, none⟩ = some (.string xs[k].t) ∧ w'.cell? ⟨b', off' + k * 2 + 1, none⟩ = some (.string xs[k].s) ∧ b < w'.heap.size ∧ b' < w'.heap.size ∧ Below w.heap.size w w')
        (first | assumption | exact keep4 (by assumption) hbx | exact ⟨t0, t1, q0, q1, hb, hb', hB.drew⟩)
        (first | (go_at_call 148; refine (eqAllowed_same _ _ _).mono ?_; rintro e w' ⟨rfl, hbx⟩))
      rename_i hH
      obtain ⟨-, -, -, -, -, -, gB⟩ := hH
      clear t0 t1 q0 q1 hB hb hb'
      go_wp2
      go_roundw
      case rel => exact ⟨k + 1, by omega, by go_num, gB⟩
      case measure => simp [intOf]; omega
    · go_wp2
      go_ret
      exact ⟨rfl, hB⟩

set_option maxHeartbeats 1000000 in
theorem eqExpr_same (r r' : ER) (w : World) (he : r'.e = r.e) (hr : r.ok w) (hr' : r'.ok w) (hf : r.e.allow.length ≤ maxLen) (hg : r.e.kids.length ≤ maxLen) :
    Calls Tryz.prog 134 #[r.val, r'.val] w fun e w' => e = .returned (.bool true) ∧ Below w.heap.size w w' := by
  obtain ⟨⟨kind, allow, over, name, kids⟩, adA, capA, adK, capK⟩ := r
  obtain ⟨e', adA', capA', adK', capK'⟩ := r'
  simp only at he
  subst he
  obtain ⟨hA, hK⟩ := hr
  obtain ⟨hA', hK'⟩ := hr'
  simp only at hA hK hA' hK' hf hg
  simp only [ER.val]
  obtain ⟨W1, hW1⟩ : ∃ W1, W1 = (w.alloc (.cells #[.int .i64 kind, .slice adA allow.length capA, .string over, .string name, .slice adK kids.length capK] 50)).alloc (.cells #[.int .i64 kind, .slice adA' allow.length capA', .string over, .string name, .slice adK' kids.length capK'] 50) := ⟨_, rfl⟩
  have hb0 : Below w.heap.size w W1 := by rw [hW1]; exact ((Below.refl w.heap.size w).alloc (Nat.le_refl _) _).alloc (by simp) _
  have bA : Below (w.alloc (.cells #[.int .i64 kind, .slice adA allow.length capA, .string over, .string name, .slice adK kids.length capK] 50)).heap.size (w.alloc (.cells #[.int .i64 kind, .slice adA allow.length capA, .string over, .string name, .slice adK kids.length capK] 50)) W1 := by rw [hW1]; exact (Below.refl _ _).alloc (Nat.le_refl _) _
  have hz1 : w.heap.size + 2 ≤ W1.heap.size := by rw [hW1]; simp only [World.size_alloc]; omega
  have s2 : W1.cell? ⟨w.heap.size, 2, none⟩ = some (.string over) := kept bA (by simp) (by simp)
  have s3 : W1.cell? ⟨w.heap.size, 3, none⟩ = some (.string name) := kept bA (by simp) (by simp)
  have s4 : W1.cell? ⟨w.heap.size, 4, none⟩ = some (.slice adK kids.length capK) := kept bA (by simp) (by simp)
  have o2 : W1.cell? ⟨w.heap.size + 1, 2, none⟩ = some (.string over) := by rw [hW1]; exact c_new1 _ _ _ _ _ rfl
  have o3 : W1.cell? ⟨w.heap.size + 1, 3, none⟩ = some (.string name) := by rw [hW1]; exact c_new1 _ _ _ _ _ rfl
  have o4 : W1.cell? ⟨w.heap.size + 1, 4, none⟩ = some (.slice adK' kids.length capK') := by rw [hW1]; exact c_new1 _ _ _ _ _ rfl
  go_enter Tryz.func134, Tryz.ntmps134
  go_wp2_with fail
  rw [← hW1]
  refine (eqAllowedS_same adA adA' capA capA' allow W1 hf (hA.below hb0) (hA'.below hb0)).mono ?_
  rintro e w1 ⟨rfl, hb1⟩
  replace s2 := kept hb1 (by omega) s2
  replace o2 := kept hb1 (by omega) o2
  replace s3 := kept hb1 (by omega) s3
  replace o3 := kept hb1 (by omega) o3
  replace s4 := kept hb1 (by omega) s4
  replace o4 := kept hb1 (by omega) o4
  have HB1 : Hid (Below w.heap.size w w1) := hb0.trans (hb1.mono (by omega))
  clear hb1 hb0 bA hW1 hA hA'
  go_wp2_with fail
  refine (eqInt64S_same adK adK' capK capK' kids w1 hg (hK.below HB1.out) (hK'.below HB1.out)).mono ?_
  rintro e w2 ⟨rfl, hb2⟩
  have HB2 : Hid (Below w.heap.size w w2) := HB1.out.trans (hb2.mono HB1.out.size)
  clear hb2
  go_wp2
  go_ret
  exact ⟨rfl, HB2.out⟩

theorem keep10 {wr W w' : World} {b b' o o' : Nat} {x0 x1 x2 x3 x4 y0 y1 y2 y3 y4 : Value} (h : W.cell? ⟨b, o, none⟩ = some x0 ∧ W.cell? ⟨b, o + 1, none⟩ = some x1 ∧ W.cell? ⟨b, o + 2, none⟩ = some x2 ∧ W.cell? ⟨b, o + 3, none⟩ = some x3 ∧ W.cell? ⟨b, o + 4, none⟩ = some x4 ∧ W.cell? ⟨b', o', none⟩ = some y0 ∧ W.cell? ⟨b', o' + 1, none⟩ = some y1 ∧ W.cell? ⟨b', o' + 2, none⟩ = some y2 ∧ W.cell? ⟨b', o' + 3, none⟩ = some y3 ∧ W.cell? ⟨b', o' + 4, none⟩ = some y4 ∧ b < W.heap.size ∧ b' < W.heap.size ∧ Below wr.heap.size wr W) (hb : Below W.heap.size W w') : w'.cell? ⟨b, o, none⟩ = some x0 ∧ w'.cell? ⟨b, o + 1, none⟩ = some x1 ∧ w'.cell? ⟨b, o + 2, none⟩ = some x2 ∧ w'.cell? ⟨b, o + 3, none⟩ = some x3 ∧ w'.cell? ⟨b, o + 4, none⟩ = some x4 ∧ w'.cell? ⟨b', o', none⟩ = some y0 ∧ w'.cell? ⟨b', o' + 1, none⟩ = some y1 ∧ w'.cell? ⟨b', o' + 2, none⟩ = some y2 ∧ w'.cell? ⟨b', o' + 3, none⟩ = some y3 ∧ w'.cell? ⟨b', o' + 4, none⟩ = some y4 ∧ b < w'.heap.size ∧ b' < w'.heap.size ∧ Below wr.heap.size wr w' := by
  obtain ⟨h0, h1, h2, h3, h4, k0, k1, k2, k3, k4, l, l', hB⟩ := h
  exact ⟨kept hb l h0, kept hb l h1, kept hb l h2, kept hb l h3, kept hb l h4, kept hb l' k0, kept hb l' k1, kept hb l' k2, kept hb l' k3, kept hb l' k4, Nat.lt_of_lt_of_le l hb.size, Nat.lt_of_lt_of_le l' hb.size, hB.trans (hb.mono hB.size)⟩

theorem keepB {wr W : World} {b b' o o' : Nat} {x0 x1 x2 x3 x4 y0 y1 y2 y3 y4 : Value} (h : W.cell? ⟨b, o, none⟩ = some x0 ∧ W.cell? ⟨b, o + 1, none⟩ = some x1 ∧ W.cell? ⟨b, o + 2, none⟩ = some x2 ∧ W.cell? ⟨b, o + 3, none⟩ = some x3 ∧ W.cell? ⟨b, o + 4, none⟩ = some x4 ∧ W.cell? ⟨b', o', none⟩ = some y0 ∧ W.cell? ⟨b', o' + 1, none⟩ = some y1 ∧ W.cell? ⟨b', o' + 2, none⟩ = some y2 ∧ W.cell? ⟨b', o' + 3, none⟩ = some y3 ∧ W.cell? ⟨b', o' + 4, none⟩ = some y4 ∧ b < W.heap.size ∧ b' < W.heap.size ∧ Below wr.heap.size wr W) : Below wr.heap.size wr W := h.2.2.2.2.2.2.2.2.2.2.2.2

set_option maxHeartbeats 2000000 in
theorem eqExprS_same (ad ad' : Option Addr) (cap cap' : Nat) (rs rs' : List ER) (w : World) (hlen : rs.length ≤ 1048576) (he : exs rs' = exs rs) (hs : SlE w ad rs) (hs' : SlE w ad' rs') (hl : ∀ r ∈ rs, r.e.light) :
    Calls Tryz.prog 123 #[.slice ad rs.length cap, .slice ad' rs'.length cap'] w fun e w' => e = .returned (.bool true) ∧ Below w.heap.size w w' := by
  have hll : rs'.length = rs.length := by rw [← exs_len, he, exs_len]
  have HSL : Hid (SlE w ad rs) := hs
  have HSM : Hid (SlE w ad' rs') := hs'
  have HLI : Hid (∀ r ∈ rs, r.e.light) := hl
  have HEE : Hid (exs rs' = exs rs) := he
  have HLL : Hid (rs'.length = rs.length) := hll
  rw [hll]
  clear hs hs' hl he hll
  go_enter Tryz.func123, Tryz.ntmps123
  go_wp2
  go_loopw [5] (fun i wr => ∃ k : Nat, k ≤ rs.length ∧ i = .int .i64 k ∧ Below w.heap.size w wr) (fun i _ => rs.length - (intOf i).toNat)
  case atStart => exact ⟨0, Nat.zero_le _, rfl, Below.refl _ _⟩
  case round =>
    obtain ⟨k, hk, rfl, hB⟩ := hrel
    by_cases hlt : k < rs.length
    · have hlt' : k < rs'.length := by rw [HLL.out]; exact hlt
      rcases HSL.out.below hB with rfl | ⟨b, off, rfl, hb, hr, hok⟩
      · simp at hlt
      rcases HSM.out.below hB with rfl | ⟨b', off', rfl, hb', hr', hok'⟩
      · simp at hlt'
      obtain ⟨t0, t1, t2, t3, t4⟩ := hr k hlt
      obtain ⟨q0, q1, q2, q3, q4⟩ := hr' k hlt'
      have HK1 : Hid (rs[k].ok wr) := hok rs[k] (List.getElem_mem hlt)
      have HK2 : Hid (rs'[k].ok wr) := hok' rs'[k] (List.getElem_mem hlt')
      have HK3 : Hid (rs'[k].e = rs[k].e) := by
        have h1 : (exs rs')[k]? = (exs rs)[k]? := by rw [HEE.out]
        show _ = _
        simpa [exs, hlt, hlt'] using h1
      obtain ⟨g1, g2⟩ := HLI.out rs[k] (List.getElem_mem hlt)
      have hk1 : (0 : Int) ≤ (k : Int) := by omega
      have hk2 : (k : Int) < (rs.length : Int) := by omega
      have HK4 : Hid (rs[k].e.allow.length ≤ maxLen) := Nat.le_trans g1 (by decide)
      have HK5 : Hid (rs[k].e.kids.length ≤ maxLen) := Nat.le_trans g2 (by decide)
      clear hr hr' hok hok' g1 g2
      go_wp2_with fail
      go_region_held3 (fun w' => w'.cell? ⟨b, off + k * 5, none⟩ = some (.int .i64 rs[k].e.kind) ∧ w'.cell? ⟨b, off + k * 5 + 1, none⟩ = some (.slice rs[k].adA rs[k].e.allow.length rs[k].capA) ∧ w'.cell? ⟨b, off + k * 5 + 2, none⟩ = some (.string rs[k].e.over) ∧ w'.cell? ⟨b, off + k * 5 + 3, none⟩ = some (.string rs[k].e.name) ∧ w'.cell? ⟨b, off + k * 5 + 4, none⟩ = some (.slice rs[k].adK rs[k].e.kids.length rs[k].capK) ∧ w'.cell? ⟨b', off' + k * 5, none⟩ = some (.int .i64 rs'[k].e.kind) ∧ w'.cell? ⟨b', off' + k * 5 + 1, none⟩ = some (.slice rs'[k].adA rs'[k].e.allow.length rs'[k].capA) ∧ w'.cell? ⟨b', off' + k * 5 + 2, none⟩ = some (.string rs'[k].e.over) ∧ w'.cell? ⟨b', off' + k * 5 + 3, none⟩ = some (.string rs'[k].e.name) ∧ w'.cell? ⟨b', off' + k * 5 + 4, none⟩ = some (.slice rs'[k].adK rs'[k].e.kids.length rs'[k].capK) ∧ b < w'.heap.size ∧ b' < w'.heap.size ∧ Below wr.heap.size wr w')
        (first | assumption | exact keep10 (by assumption) hbx | exact ⟨t0, t1, t2, t3, t4, q0, q1, q2, q3, q4, hb, hb', (Below.refl _ _).drew⟩)
        (first | (go_at_call 134; refine (eqExpr_same rs[k] rs'[k] _ HK3.out (HK1.out.below (keepB (by assumption))) (HK2.out.below (keepB (by assumption))) HK4.out HK5.out).mono ?_; rintro e w' ⟨rfl, hbx⟩))
      rename_i hH
      obtain ⟨-, -, -, -, -, -, -, -, -, -, -, -, gB⟩ := hH
      clear t0 t1 t2 t3 t4 q0 q1 q2 q3 q4 hb hb'
      go_wp2
      go_roundw
      case rel => exact ⟨k + 1, by omega, by go_num, hB.trans (gB.mono hB.size)⟩
      case measure => simp [intOf]; omega
    · go_wp2
      go_ret
      exact ⟨rfl, hB⟩

end Go.Proofs.YtmghabcaakgjiaaGreat
