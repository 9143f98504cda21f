/- Contracts of the library's search in a slice of allowed pairs, as the program calls it. -/
import Derived.Test.YtmghabcaakgjiaaGreatJ21
import Derived.Test.YtmghabcaakgjiaaGreatJ4
namespace Go.Proofs.YtmghabcaakgjiaaGreat
open Go.ChangeShapes Go.WideShapes Go.ChangeAt Go.RowKit
open Pl
theorem alEq_comm (x y : Al) : alEq x y = alEq y x := by
 unfold alEq
 rw [Bool.eq_iff_iff]
 simp only [Bool.and_eq_true, beq_iff_eq]
 exact ⟨fun h => ⟨h.1.symm, h.2.symm⟩, fun h => ⟨h.1.symm, h.2.symm⟩⟩
set_option maxHeartbeats 1000000 in
theorem index_any (ad : Option Addr) (n cap : Nat) (xs : List Al) (v : Al) (w : World) (hn : n ≤ xs.length) (hlen : xs.length ≤ 1048576) (hs : SlA w ad xs) :
  Calls Tryz.prog 90 #[.slice ad n cap, .agg #[.string v.t, .string v.s]] w fun e w' => (∃ r : Int, e = .returned (.int .i64 r) ∧ decide (0 ≤ r) = inPre xs n v) ∧ Below w.heap.size w w' := by
 obtain ⟨W, hW⟩ : ∃ W, W = w.alloc (.cells #[.string v.t, .string v.s] 90) := ⟨_, rfl⟩
 have HB0 : Hid (Below w.heap.size w W) := by show Below _ _ _; rw [hW]; exact (Below.refl w.heap.size w).alloc (Nat.le_refl _) _
 have hz : w.heap.size < W.heap.size := by rw [hW]; simp
 have b0 : W.cell? ⟨w.heap.size, 0, none⟩ = some (.string v.t) := by rw [hW]; simp
 have b1 : W.cell? ⟨w.heap.size, 1, none⟩ = some (.string v.s) := by rw [hW]; simp
 have HS : Hid (SlA W ad xs) := hs.below HB0.out
 clear hs
 go_enter Tryz.func90, Tryz.ntmps90
 go_wp2_with fail
 rw [← hW]
 clear hW
 go_loopw [8] (fun i wr => ∃ k : Nat, k ≤ n ∧ i = .int .i64 k ∧ Hid (inPre xs k v = false) ∧ Below W.heap.size W wr) (fun i _ => n - (intOf i).toNat)
 case atStart => exact ⟨0, Nat.zero_le _, rfl, inPre_zero _ _, Below.refl _ _⟩
 case round =>
  obtain ⟨k, hk, rfl, HP, hB⟩ := hrel
  have a0 := kept hB hz b0
  have a1 := kept hB hz b1
  by_cases hlt : k < n
  ·have hltx : k < xs.length := by omega
   rcases HS.out.below hB with rfl | ⟨b, off, rfl, hb, hr⟩
   ·simp at hltx
   obtain ⟨t0, t1⟩ := hr k hltx
   have hk1 : (0 : Int) ≤ (k : Int) := by omega
   have hk2 : (k : Int) < (n : Int) := by omega
   clear hr
   cases hq : alEq v xs[k] with
   | true =>
    have HE := al_eql v xs[k] hq
    have HN : Hid (inPre xs n v = true) := inPre_hit hlt hltx (by rw [alEq_comm]; exact hq)
    go_wp2_with fail
    go_quiet (fail)
    go_wp2
    go_ret
    exact ⟨⟨_, rfl, by rw [HN.out]; simp⟩, HB0.out.trans (below_drewN (hB.mono HB0.out.size) _)⟩
   | false =>
    have HE := al_eql v xs[k] hq
    have HP2 : Hid (inPre xs (k + 1) v = false) := by show _ = _; rw [inPre_succ _ _ _ hltx, HP.out, alEq_comm, hq]; rfl
    go_wp2_with fail
    go_quiet (fail)
    go_wp2
    go_roundw
    case rel => exact ⟨k + 1, by omega, by go_num, HP2, below_drewN hB _⟩
    case measure => first | (simp [intOf]; done) | (simp [intOf]; omega)
  ·obtain rfl : k = n := by omega
   go_wp2
   go_ret
   exact ⟨⟨-1, rfl, by rw [HP.out]; rfl⟩, HB0.out.trans (hB.mono HB0.out.size)⟩
theorem contains_any (ad : Option Addr) (n cap : Nat) (xs : List Al) (v : Al) (w : World) (hn : n ≤ xs.length) (hlen : xs.length ≤ 1048576) (hs : SlA w ad xs) :
  Calls Tryz.prog 62 #[.slice ad n cap, .agg #[.string v.t, .string v.s]] w fun e w' => e = .returned (.bool (inPre xs n v)) ∧ Below w.heap.size w w' := by
 have HB0 : Hid (Below w.heap.size w (w.alloc (.cells #[.string v.t, .string v.s] 90))) := (Below.refl w.heap.size w).alloc (Nat.le_refl _) _
 have HS : Hid (SlA w ad xs) := hs
 clear hs
 go_enter Tryz.func62, Tryz.ntmps62
 go_wp2_with fail
 refine (index_any ad n cap xs v _ hn hlen (HS.out.below HB0.out)).mono ?_
 rintro e w1 ⟨⟨r, rfl, hr⟩, hb1⟩
 have HR : Hid (decide (0 ≤ r) = inPre xs n v) := hr
 have HB1 : Hid (Below w.heap.size w w1) := HB0.out.trans (hb1.mono HB0.out.size)
 clear hr hb1
 go_wp2
 go_ret
 exact ⟨ret_bool HR.out, HB1.out⟩
set_option maxRecDepth 8000 in
set_option maxHeartbeats 4000000 in
theorem nodeOk_plain (r : ER) (w : World) (hf : r.e.fits) (h1 : r.e.kind ≠ 1) :
  Calls Tryz.prog 139 #[r.val] w fun e w' => e = .returned (.bool (nodeB r.e)) ∧ Below w.heap.size w w' := by
 obtain ⟨⟨kind, allow, over, name, kids⟩, adA, capA, adK, capK⟩ := r
 obtain ⟨f1, f2, f3, f4, f5⟩ := hf
 simp only at f1 f2 f3 f4 f5 h1
 simp only [ER.val]
 unfold maxLen at f4 f5
 by_cases h2 : kind = 2
 ·subst h2
  clear h1
  go_enter Tryz.func139, Tryz.ntmps139
  go_wp2_with fail
  go_quiet (fail)
  go_wp2_with (go_at_call 28; refine (implName_any _ _ (by assumption)).mono ?_; rintro e w' ⟨rfl, rfl⟩)
  all_goals go_ret
  all_goals exact ⟨ret_bool (by first | (simp [nodeB, *]; done) | (simp [nodeB, *]; omega) | (simp [nodeB, *]; rw [Bool.eq_iff_iff]; simp; done) | (simp [nodeB, *]; rw [Bool.eq_iff_iff]; simp; omega)), below_drewN ((Below.refl w.heap.size w).alloc (Nat.le_refl _) _) _⟩
 by_cases h3 : kind = 3
 ·subst h3
  clear h1
  go_enter Tryz.func139, Tryz.ntmps139
  go_wp2_with fail
  go_quiet (fail)
  go_wp2_with (go_at_call 28; refine (implName_any _ _ (by assumption)).mono ?_; rintro e w' ⟨rfl, rfl⟩)
  all_goals go_ret
  all_goals exact ⟨ret_bool (by first | (simp [nodeB, *]; done) | (simp [nodeB, *]; omega) | (simp [nodeB, *]; rw [Bool.eq_iff_iff]; simp; done) | (simp [nodeB, *]; rw [Bool.eq_iff_iff]; simp; omega)), below_drewN ((Below.refl w.heap.size w).alloc (Nat.le_refl _) _) _⟩
 by_cases h4 : kind = 4
 ·subst h4
  clear h1
  go_enter Tryz.func139, Tryz.ntmps139
  go_wp2_with fail
  go_quiet (fail)
  go_wp2_with (go_at_call 28; refine (implName_any _ _ (by assumption)).mono ?_; rintro e w' ⟨rfl, rfl⟩)
  all_goals go_ret
  all_goals exact ⟨ret_bool (by first | (simp [nodeB, *]; done) | (simp [nodeB, *]; omega) | (simp [nodeB, *]; rw [Bool.eq_iff_iff]; simp; done) | (simp [nodeB, *]; rw [Bool.eq_iff_iff]; simp; omega)), below_drewN ((Below.refl w.heap.size w).alloc (Nat.le_refl _) _) _⟩
 by_cases h5 : kind = 5
 ·subst h5
  clear h1
  go_enter Tryz.func139, Tryz.ntmps139
  go_wp2_with fail
  go_quiet (fail)
  go_wp2_with (go_at_call 28; refine (implName_any _ _ (by assumption)).mono ?_; rintro e w' ⟨rfl, rfl⟩)
  all_goals go_ret
  all_goals exact ⟨ret_bool (by first | (simp [nodeB, *]; done) | (simp [nodeB, *]; omega) | (simp [nodeB, *]; rw [Bool.eq_iff_iff]; simp; done) | (simp [nodeB, *]; rw [Bool.eq_iff_iff]; simp; omega)), below_drewN ((Below.refl w.heap.size w).alloc (Nat.le_refl _) _) _⟩
 by_cases h6 : kind = 6
 ·subst h6
  clear h1
  go_enter Tryz.func139, Tryz.ntmps139
  go_wp2_with fail
  go_quiet (fail)
  go_wp2_with (go_at_call 28; refine (implName_any _ _ (by assumption)).mono ?_; rintro e w' ⟨rfl, rfl⟩)
  all_goals go_ret
  all_goals exact ⟨ret_bool (by first | (simp [nodeB, *]; done) | (simp [nodeB, *]; omega) | (simp [nodeB, *]; rw [Bool.eq_iff_iff]; simp; done) | (simp [nodeB, *]; rw [Bool.eq_iff_iff]; simp; omega)), below_drewN ((Below.refl w.heap.size w).alloc (Nat.le_refl _) _) _⟩
 ·go_enter Tryz.func139, Tryz.ntmps139
  go_wp2_with fail
  go_quiet (fail)
  go_wp2_with (go_at_call 28; refine (implName_any _ _ (by assumption)).mono ?_; rintro e w' ⟨rfl, rfl⟩)
  all_goals go_ret
  all_goals exact ⟨ret_bool (by first | (simp [nodeB, *]; done) | (simp [nodeB, *]; omega) | (simp [nodeB, *]; rw [Bool.eq_iff_iff]; simp; done) | (simp [nodeB, *]; rw [Bool.eq_iff_iff]; simp; omega)), below_drewN ((Below.refl w.heap.size w).alloc (Nat.le_refl _) _) _⟩
end Go.Proofs.YtmghabcaakgjiaaGreat
namespace Go.Proofs.YtmghabcaakgjiaaGreat
open Go.ChangeShapes Go.WideShapes Go.ChangeAt Go.RowKit
open Pl
set_option maxHeartbeats 8000000 in
theorem allowOk_any (ad : Option Addr) (cap : Nat) (xs : List Al) (w : World) (hlen : xs.length ≤ 1048576) (hcap : xs.length ≤ cap) (hf : ∀ a ∈ xs, a.fits) (hs : SlA w ad xs) :
  Calls Tryz.prog 147 #[.slice ad xs.length cap] w fun e w' => e = .returned (.bool (allowB xs)) ∧ Below w.heap.size w w' := by
 have HS : Hid (SlA w ad xs) := hs
 have HF : Hid (∀ a ∈ xs, a.fits) := hf
 clear hs hf
 by_cases hl : 1 ≤ xs.length ∧ xs.length ≤ 6
 ·obtain ⟨hl1, hl2⟩ := hl
  go_enter Tryz.func147, Tryz.ntmps147
  go_wp2_with fail
  go_loopw [15] (fun i wr => ∃ k : Nat, k ≤ xs.length ∧ i = .int .i64 k ∧ Hid (upA xs k = true) ∧ Below w.heap.size w wr) (fun i _ => xs.length - (intOf i).toNat)
  case atStart => exact ⟨0, Nat.zero_le _, rfl, rfl, Below.refl _ _⟩
  case round =>
   obtain ⟨k, hk, rfl, HU, hB⟩ := hrel
   by_cases hlt : k < xs.length
   ·rcases HS.out.below hB with rfl | ⟨b, off, rfl, hb, hr⟩
    ·simp at hlt
    obtain ⟨t0, t1⟩ := hr k hlt
    obtain ⟨z0, z1⟩ := HF.out xs[k] (List.getElem_mem hlt)
    have hk1 : (0 : Int) ≤ (k : Int) := by omega
    have hk2 : (k : Int) ≤ (cap : Int) := by omega
    obtain ⟨W1, hW1⟩ : ∃ W1, W1 = wr.alloc (.cells #[.string xs[k].t, .string xs[k].s] 90) := ⟨_, rfl⟩
    have hal : Below wr.heap.size wr W1 := by rw [hW1]; exact (Below.refl _ _).alloc (Nat.le_refl _) _
    have hBW1 : Below w.heap.size wr W1 := hal.mono hB.size
    have hWs : w.heap.size ≤ W1.heap.size := Nat.le_trans hB.size hal.size
    have hgl : wr.heap.size < W1.heap.size := by rw [hW1]; simp
    have g0 : W1.cell? ⟨wr.heap.size, 0, none⟩ = some (.string xs[k].t) := by rw [hW1]; simp
    have g1 : W1.cell? ⟨wr.heap.size, 1, none⟩ = some (.string xs[k].s) := by rw [hW1]; simp
    have HS1 : Hid (SlA W1 (some ⟨b, off, none⟩) xs) := (HS.out.below hB).below hal
    clear hr
    go_wp2_with fail
    rw [← hW1]
    clear hW1 t0 t1 hal
    cases hn : nameB xs[k].t with
    | false =>
     have HN : Hid (upA xs xs.length = false) := upA_bad xs k hlt (by simp [alB, hn]) _ hlt
     refine wp_region_all 17 (fun n => [u20, u21, u22, u23, u24, u25, u26, u27, u28, u29, u30, u31, u32, u33, u34, u35, u36].getD n undef) (fun f => { tmps := #[Value.slice (some ⟨b, off, none⟩) xs.length cap, undef, u2, Value.int .i64 (k : Int), Value.pointer (some ⟨wr.heap.size, 0, none⟩), Value.slice (some ⟨b, off, none⟩) xs.length cap, Value.int .i64 (xs.length : Int), Value.bool (decide ((xs.length : Int) < 1)), Value.bool (decide ((xs.length : Int) < 1)), Value.slice (some ⟨b, off, none⟩) xs.length cap, Value.int .i64 (xs.length : Int), Value.bool (decide (6 < (xs.length : Int))), Value.bool (decide ((xs.length : Int) < 1) || decide (6 < (xs.length : Int))), Value.slice (some ⟨b, off, none⟩) xs.length cap, Value.int .i64 (xs.length : Int), Value.int .i64 (k : Int), Value.bool true, Value.int .i64 (k : Int), Value.pointer (some ⟨b, off + k * 2, none⟩), Value.agg #[.string xs[k].t, .string xs[k].s], f 0, f 1, f 2, f 3, f 4, f 5, f 6, f 7, f 8, f 9, f 10, f 11, f 12, f 13, f 14, f 15, f 16, u37], defers := [] }) (fun n v _ => v = [Value.pointer (some ⟨wr.heap.size, 0, none⟩), Value.string xs[k].t, Value.bool false, Value.bool true, Value.bool true, undef, undef, undef, undef, Value.bool true, Value.bool true, undef, undef, undef, undef, undef, Value.bool true].getD n undef) (fun w' => Below W1.heap.size W1 w') (by kernel_rfl) rfl (by kernel_rfl) rfl (Below.refl _ _).drew ?step1 ?fin1
     case step1 =>
      rintro i hi o ho f w' hG hpre
      have HG : Hid (Below W1.heap.size W1 w') := hG
      have p0 := kept hG hgl g0
      have p1 := kept hG hgl g1
      have HM : Hid (∀ e ∈ o.after, Region.binds .any e = true → _) := hpre
      clear hG hpre
      have hc : i = 0 ∨ i = 1 ∨ i = 2 ∨ i = 3 ∨ i = 4 ∨ i = 5 ∨ i = 6 ∨ i = 7 ∨ i = 8 ∨ i = 9 ∨ i = 10 ∨ i = 11 ∨ i = 12 ∨ i = 13 ∨ i = 14 ∨ i = 15 ∨ i = 16 := by omega
      clear hi
      rcases hc with rfl | rfl | rfl | rfl | rfl | rfl | rfl | rfl | rfl | rfl | rfl | rfl | rfl | rfl | rfl | rfl | rfl
      iterate 2
       ·obtain rfl := Option.some.inj ho
        have hm := HM.out
        try simp [Region.binds] at hm
        refine wpOp_hid rfl fun K HK => ?_
        clear ho HM
        try simp only [hm]
        go_simp
        exact HK.out _ _ ⟨_, by simp [upd, *], HG.out, rfl, fun k u hu => hu⟩
      ·obtain rfl := Option.some.inj ho
       have e1 : f 1 = Value.string xs[k].t := HM.out ⟨1, .data⟩ (by simp) rfl
       refine wpOp_hid rfl fun K HK => ?_
       clear ho HM
       simp only [e1]
       go_simp
       refine (implName_any _ _ z0).mono ?_
       rintro e w5 ⟨rfl, rfl⟩
       rw [hn]
       go_wp2_with fail
       exact HK.out _ _ ⟨Value.bool false, by simp [upd, e1], HG.out, rfl, fun k u hu => hu⟩
      iterate 14
       ·obtain rfl := Option.some.inj ho
        have hm := HM.out
        try simp [Region.binds] at hm
        refine wpOp_hid rfl fun K HK => ?_
        clear ho HM
        try simp only [hm]
        go_simp
        exact HK.out _ _ ⟨_, by simp [upd, *], HG.out, rfl, fun k u hu => hu⟩
     case fin1 =>
      rintro f w' hG hall
      have e16 : f 16 = Value.bool true := hall 16 (by omega)
      have HG : Hid (Below W1.heap.size W1 w') := hG
      clear hG hall
      dsimp only
      rw [e16]
      go_wp2
      go_ret
      exact ⟨ret_bool (by simp [allowB, HN.out]), hB.trans (hBW1.trans (HG.out.mono hWs))⟩
    | true =>
     cases hsb : setB' xs[k].s with
     | false =>
      have HN : Hid (upA xs xs.length = false) := upA_bad xs k hlt (by simp [alB, hn, hsb]) _ hlt
      refine wp_region_all 17 (fun n => [u20, u21, u22, u23, u24, u25, u26, u27, u28, u29, u30, u31, u32, u33, u34, u35, u36].getD n undef) (fun f => { tmps := #[Value.slice (some ⟨b, off, none⟩) xs.length cap, undef, u2, Value.int .i64 (k : Int), Value.pointer (some ⟨wr.heap.size, 0, none⟩), Value.slice (some ⟨b, off, none⟩) xs.length cap, Value.int .i64 (xs.length : Int), Value.bool (decide ((xs.length : Int) < 1)), Value.bool (decide ((xs.length : Int) < 1)), Value.slice (some ⟨b, off, none⟩) xs.length cap, Value.int .i64 (xs.length : Int), Value.bool (decide (6 < (xs.length : Int))), Value.bool (decide ((xs.length : Int) < 1) || decide (6 < (xs.length : Int))), Value.slice (some ⟨b, off, none⟩) xs.length cap, Value.int .i64 (xs.length : Int), Value.int .i64 (k : Int), Value.bool true, Value.int .i64 (k : Int), Value.pointer (some ⟨b, off + k * 2, none⟩), Value.agg #[.string xs[k].t, .string xs[k].s], f 0, f 1, f 2, f 3, f 4, f 5, f 6, f 7, f 8, f 9, f 10, f 11, f 12, f 13, f 14, f 15, f 16, u37], defers := [] }) (fun n v _ => v = [Value.pointer (some ⟨wr.heap.size, 0, none⟩), Value.string xs[k].t, Value.bool true, Value.bool false, Value.bool false, Value.pointer (some ⟨wr.heap.size, 1, none⟩), Value.string xs[k].s, Value.bool false, Value.bool true, Value.bool true, Value.bool true, undef, undef, undef, undef, undef, Value.bool true].getD n undef) (fun w' => Below W1.heap.size W1 w') (by kernel_rfl) rfl (by kernel_rfl) rfl (Below.refl _ _).drew ?step2 ?fin2
      case step2 =>
       rintro i hi o ho f w' hG hpre
       have HG : Hid (Below W1.heap.size W1 w') := hG
       have p0 := kept hG hgl g0
       have p1 := kept hG hgl g1
       have HM : Hid (∀ e ∈ o.after, Region.binds .any e = true → _) := hpre
       clear hG hpre
       have hc : i = 0 ∨ i = 1 ∨ i = 2 ∨ i = 3 ∨ i = 4 ∨ i = 5 ∨ i = 6 ∨ i = 7 ∨ i = 8 ∨ i = 9 ∨ i = 10 ∨ i = 11 ∨ i = 12 ∨ i = 13 ∨ i = 14 ∨ i = 15 ∨ i = 16 := by omega
       clear hi
       rcases hc with rfl | rfl | rfl | rfl | rfl | rfl | rfl | rfl | rfl | rfl | rfl | rfl | rfl | rfl | rfl | rfl | rfl
       iterate 2
        ·obtain rfl := Option.some.inj ho
         have hm := HM.out
         try simp [Region.binds] at hm
         refine wpOp_hid rfl fun K HK => ?_
         clear ho HM
         try simp only [hm]
         go_simp
         exact HK.out _ _ ⟨_, by simp [upd, *], HG.out, rfl, fun k u hu => hu⟩
       ·obtain rfl := Option.some.inj ho
        have e1 : f 1 = Value.string xs[k].t := HM.out ⟨1, .data⟩ (by simp) rfl
        refine wpOp_hid rfl fun K HK => ?_
        clear ho HM
        simp only [e1]
        go_simp
        refine (implName_any _ _ z0).mono ?_
        rintro e w5 ⟨rfl, rfl⟩
        rw [hn]
        go_wp2_with fail
        exact HK.out _ _ ⟨Value.bool true, by simp [upd, e1], HG.out, rfl, fun k u hu => hu⟩
       iterate 4
        ·obtain rfl := Option.some.inj ho
         have hm := HM.out
         try simp [Region.binds] at hm
         refine wpOp_hid rfl fun K HK => ?_
         clear ho HM
         try simp only [hm]
         go_simp
         exact HK.out _ _ ⟨_, by simp [upd, *], HG.out, rfl, fun k u hu => hu⟩
       ·obtain rfl := Option.some.inj ho
        have e6 : f 6 = Value.string xs[k].s := HM.out ⟨6, .data⟩ (by simp) rfl
        have e4 : f 4 = Value.bool false := HM.out ⟨4, .guard⟩ (by simp) rfl
        refine wpOp_hid rfl fun K HK => ?_
        clear ho HM
        simp only [e6, e4]
        go_simp
        refine (setOk_any' _ _ z1).mono ?_
        rintro e w5 ⟨rfl, rfl⟩
        rw [hsb]
        go_wp2_with fail
        exact HK.out _ _ ⟨Value.bool false, by simp [upd, e6, e4], HG.out, rfl, fun k u hu => hu⟩
       iterate 9
        ·obtain rfl := Option.some.inj ho
         have hm := HM.out
         try simp [Region.binds] at hm
         refine wpOp_hid rfl fun K HK => ?_
         clear ho HM
         try simp only [hm]
         go_simp
         exact HK.out _ _ ⟨_, by simp [upd, *], HG.out, rfl, fun k u hu => hu⟩
      case fin2 =>
       rintro f w' hG hall
       have e16 : f 16 = Value.bool true := hall 16 (by omega)
       have HG : Hid (Below W1.heap.size W1 w') := hG
       clear hG hall
       dsimp only
       rw [e16]
       go_wp2
       go_ret
       exact ⟨ret_bool (by simp [allowB, HN.out]), hB.trans (hBW1.trans (HG.out.mono hWs))⟩
     | true =>
      obtain ⟨p, hp⟩ : ∃ p, inPre xs k xs[k] = p := ⟨_, rfl⟩
      refine wp_region_all 17 (fun n => [u20, u21, u22, u23, u24, u25, u26, u27, u28, u29, u30, u31, u32, u33, u34, u35, u36].getD n undef) (fun f => { tmps := #[Value.slice (some ⟨b, off, none⟩) xs.length cap, undef, u2, Value.int .i64 (k : Int), Value.pointer (some ⟨wr.heap.size, 0, none⟩), Value.slice (some ⟨b, off, none⟩) xs.length cap, Value.int .i64 (xs.length : Int), Value.bool (decide ((xs.length : Int) < 1)), Value.bool (decide ((xs.length : Int) < 1)), Value.slice (some ⟨b, off, none⟩) xs.length cap, Value.int .i64 (xs.length : Int), Value.bool (decide (6 < (xs.length : Int))), Value.bool (decide ((xs.length : Int) < 1) || decide (6 < (xs.length : Int))), Value.slice (some ⟨b, off, none⟩) xs.length cap, Value.int .i64 (xs.length : Int), Value.int .i64 (k : Int), Value.bool true, Value.int .i64 (k : Int), Value.pointer (some ⟨b, off + k * 2, none⟩), Value.agg #[.string xs[k].t, .string xs[k].s], f 0, f 1, f 2, f 3, f 4, f 5, f 6, f 7, f 8, f 9, f 10, f 11, f 12, f 13, f 14, f 15, f 16, u37], defers := [] }) (fun n v _ => v = [Value.pointer (some ⟨wr.heap.size, 0, none⟩), Value.string xs[k].t, Value.bool true, Value.bool false, Value.bool false, Value.pointer (some ⟨wr.heap.size, 1, none⟩), Value.string xs[k].s, Value.bool true, Value.bool false, Value.bool false, Value.bool false, Value.slice (some ⟨b, off, none⟩) xs.length cap, Value.int .i64 (k : Int), Value.slice (some ⟨b, off, none⟩) k cap, Value.agg #[.string xs[k].t, .string xs[k].s], Value.bool p, Value.bool p].getD n undef) (fun w' => Below W1.heap.size W1 w') (by kernel_rfl) rfl (by kernel_rfl) rfl (Below.refl _ _).drew ?step3 ?fin3
      case step3 =>
       rintro i hi o ho f w' hG hpre
       have HG : Hid (Below W1.heap.size W1 w') := hG
       have p0 := kept hG hgl g0
       have p1 := kept hG hgl g1
       have HM : Hid (∀ e ∈ o.after, Region.binds .any e = true → _) := hpre
       clear hG hpre
       have hc : i = 0 ∨ i = 1 ∨ i = 2 ∨ i = 3 ∨ i = 4 ∨ i = 5 ∨ i = 6 ∨ i = 7 ∨ i = 8 ∨ i = 9 ∨ i = 10 ∨ i = 11 ∨ i = 12 ∨ i = 13 ∨ i = 14 ∨ i = 15 ∨ i = 16 := by omega
       clear hi
       rcases hc with rfl | rfl | rfl | rfl | rfl | rfl | rfl | rfl | rfl | rfl | rfl | rfl | rfl | rfl | rfl | rfl | rfl
       iterate 2
        ·obtain rfl := Option.some.inj ho
         have hm := HM.out
         try simp [Region.binds] at hm
         refine wpOp_hid rfl fun K HK => ?_
         clear ho HM
         try simp only [hm]
         go_simp
         exact HK.out _ _ ⟨_, by simp [upd, *], HG.out, rfl, fun k u hu => hu⟩
       ·obtain rfl := Option.some.inj ho
        have e1 : f 1 = Value.string xs[k].t := HM.out ⟨1, .data⟩ (by simp) rfl
        refine wpOp_hid rfl fun K HK => ?_
        clear ho HM
        simp only [e1]
        go_simp
        refine (implName_any _ _ z0).mono ?_
        rintro e w5 ⟨rfl, rfl⟩
        rw [hn]
        go_wp2_with fail
        exact HK.out _ _ ⟨Value.bool true, by simp [upd, e1], HG.out, rfl, fun k u hu => hu⟩
       iterate 4
        ·obtain rfl := Option.some.inj ho
         have hm := HM.out
         try simp [Region.binds] at hm
         refine wpOp_hid rfl fun K HK => ?_
         clear ho HM
         try simp only [hm]
         go_simp
         exact HK.out _ _ ⟨_, by simp [upd, *], HG.out, rfl, fun k u hu => hu⟩
       ·obtain rfl := Option.some.inj ho
        have e6 : f 6 = Value.string xs[k].s := HM.out ⟨6, .data⟩ (by simp) rfl
        have e4 : f 4 = Value.bool false := HM.out ⟨4, .guard⟩ (by simp) rfl
        refine wpOp_hid rfl fun K HK => ?_
        clear ho HM
        simp only [e6, e4]
        go_simp
        refine (setOk_any' _ _ z1).mono ?_
        rintro e w5 ⟨rfl, rfl⟩
        rw [hsb]
        go_wp2_with fail
        exact HK.out _ _ ⟨Value.bool true, by simp [upd, e6, e4], HG.out, rfl, fun k u hu => hu⟩
       iterate 5
        ·obtain rfl := Option.some.inj ho
         have hm := HM.out
         try simp [Region.binds] at hm
         refine wpOp_hid rfl fun K HK => ?_
         clear ho HM
         try simp only [hm]
         go_simp
         exact HK.out _ _ ⟨_, by simp [upd, *], HG.out, rfl, fun k u hu => hu⟩
       ·obtain rfl := Option.some.inj ho
        have e11 : f 11 = Value.slice (some ⟨b, off, none⟩) xs.length cap := HM.out ⟨11, .data⟩ (by simp) rfl
        have e12 : f 12 = Value.int .i64 (k : Int) := HM.out ⟨12, .data⟩ (by simp) rfl
        have e10 : f 10 = Value.bool false := HM.out ⟨10, .guard⟩ (by simp) rfl
        refine wpOp_hid rfl fun K HK => ?_
        clear ho HM
        simp only [e11, e12, e10]
        go_simp
        go_wp2_with fail
        exact HK.out _ _ ⟨Value.slice (some ⟨b, off, none⟩) k cap, by simp [upd, e11, e12, e10], HG.out, rfl, fun k u hu => hu⟩
       ·obtain rfl := Option.some.inj ho
        have e10 : f 10 = Value.bool false := HM.out ⟨10, .guard⟩ (by simp) rfl
        refine wpOp_hid rfl fun K HK => ?_
        clear ho HM
        simp only [e10]
        go_simp
        exact HK.out _ _ ⟨Value.agg #[.string xs[k].t, .string xs[k].s], by simp [upd, e10], HG.out, rfl, fun k u hu => hu⟩
       ·obtain rfl := Option.some.inj ho
        have e13 : f 13 = Value.slice (some ⟨b, off, none⟩) k cap := HM.out ⟨13, .data⟩ (by simp) rfl
        have e14 : f 14 = Value.agg #[.string xs[k].t, .string xs[k].s] := HM.out ⟨14, .data⟩ (by simp) rfl
        have e10 : f 10 = Value.bool false := HM.out ⟨10, .guard⟩ (by simp) rfl
        refine wpOp_hid rfl fun K HK => ?_
        clear ho HM
        simp only [e13, e14, e10]
        go_simp
        refine (contains_any (some ⟨b, off, none⟩) k cap xs xs[k] _ hk hlen (HS1.out.below HG.out)).mono ?_
        rintro e w5 ⟨he, hb5⟩
        rw [hp] at he
        subst he
        have HG5 : Hid (Below W1.heap.size W1 w5) := HG.out.trans (hb5.mono HG.out.size)
        clear hb5
        go_wp2_with fail
        exact HK.out _ _ ⟨Value.bool p, by simp [upd, e13, e14, e10], HG5.out, rfl, fun k u hu => hu⟩
       ·obtain rfl := Option.some.inj ho
        have e10 : f 10 = Value.bool false := HM.out ⟨10, .data⟩ (by simp) rfl
        have e15 : f 15 = Value.bool p := HM.out ⟨15, .data⟩ (by simp) rfl
        refine wpOp_hid rfl fun K HK => ?_
        clear ho HM
        simp only [e10, e15]
        go_simp
        exact HK.out _ _ ⟨Value.bool p, by simp [upd, e10, e15], HG.out, rfl, fun k u hu => hu⟩
      case fin3 =>
       rintro f w' hG hall
       have e16 : f 16 = Value.bool p := hall 16 (by omega)
       have HG : Hid (Below W1.heap.size W1 w') := hG
       clear hG hall
       dsimp only
       rw [e16]
       cases p with
       | true =>
        have HN : Hid (upA xs xs.length = false) := upA_bad xs k hlt (by simp [hp]) _ hlt
        go_wp2
        go_ret
        exact ⟨ret_bool (by simp [allowB, HN.out]), hB.trans (hBW1.trans (HG.out.mono hWs))⟩
       | false =>
        have HU2 : Hid (upA xs (k + 1) = true) := by show _ = _; rw [upA_succ _ _ hlt, HU.out]; simp [alB, hn, hsb, hp]
        go_wp2
        go_roundw
        case rel => exact ⟨k + 1, by omega, by go_num, HU2, hB.trans (hBW1.trans (HG.out.mono hWs))⟩
        case measure => first | (simp [intOf]; done) | (simp [intOf]; omega)
   ·obtain rfl : k = xs.length := by omega
    have HAW : Hid (allowB xs = true) := by show _ = _; simp [allowB, hl1, hl2, HU.out]
    go_wp2
    go_ret
    exact ⟨by rw [HAW.out]; rfl, hB⟩
 ·have HAW : Hid (allowB xs = false) := by
   show _ = _
   unfold allowB
   by_cases h1 : 1 ≤ xs.length
   ·have h2 : ¬ xs.length ≤ 6 := fun h2 => hl ⟨h1, h2⟩
    simp [h2]
   ·simp [h1]
  go_enter Tryz.func147, Tryz.ntmps147
  go_wp2_with fail
  all_goals go_ret
  all_goals exact ⟨by rw [HAW.out]; rfl, Below.refl _ _⟩
end Go.Proofs.YtmghabcaakgjiaaGreat
