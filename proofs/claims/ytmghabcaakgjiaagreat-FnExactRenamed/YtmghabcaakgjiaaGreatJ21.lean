/- Contracts of the document's functions that look at an expression. -/
import Derived.Test.YtmghabcaakgjiaaGreatJ5
import Derived.Test.YtmghabcaakgjiaaGreatJ2
namespace Go.Proofs.YtmghabcaakgjiaaGreat
open Go.ChangeShapes Go.WideShapes Go.ChangeAt Go.RowKit
open Pl
theorem l1In_any (n lo hi : Int) (w : World) :
  Calls Tryz.prog 79 #[.int .i64 n, .int .i64 lo, .int .i64 hi] w fun e w' => e = .returned (.bool (decide (lo ≤ n) && decide (n ≤ hi))) ∧ w' = w := by
 go_enter Tryz.func79, Tryz.ntmps79
 go_wp2
 all_goals go_ret
 all_goals exact ⟨ret_bool (by simp [*] <;> omega), rfl⟩
set_option maxRecDepth 8000 in
set_option maxHeartbeats 2000000 in
theorem l2NodeOk_plain (r : ER) (w : World) (hf : r.e.fits) (h1 : r.e.kind ≠ 1) :
  Calls Tryz.prog 78 #[r.val] w fun e w' => e = .returned (.bool (nodeB r.e)) ∧ Below w.heap.size w w' := by
 obtain ⟨⟨kind, allow, over, name, kids⟩, adA, capA, adK, capK⟩ := r
 obtain ⟨f1, f2, f3, f4, f5⟩ := hf
 simp only at f1 f2 f3 f4 f5 h1
 simp only [ER.val]
 unfold maxLen at f4 f5
 by_cases h2 : kind = 2
 ·subst h2
  clear h1
  go_enter Tryz.func78, Tryz.ntmps78
  go_wp2_with (go_at_call 20; refine (specName_any _ _ (by assumption)).mono ?_; rintro e w' ⟨rfl, rfl⟩)
  all_goals go_ret
  all_goals exact ⟨ret_bool (by first | (simp [nodeB, *]; done) | (simp [nodeB, *]; omega) | (simp [nodeB, *]; rw [Bool.eq_iff_iff]; simp; done) | (simp [nodeB, *]; rw [Bool.eq_iff_iff]; simp; omega)), (Below.refl w.heap.size w).alloc (Nat.le_refl _) _⟩
 by_cases h3 : kind = 3
 ·subst h3
  clear h1
  go_enter Tryz.func78, Tryz.ntmps78
  go_wp2_with (go_at_call 20; refine (specName_any _ _ (by assumption)).mono ?_; rintro e w' ⟨rfl, rfl⟩)
  all_goals go_ret
  all_goals exact ⟨ret_bool (by first | (simp [nodeB, *]; done) | (simp [nodeB, *]; omega) | (simp [nodeB, *]; rw [Bool.eq_iff_iff]; simp; done) | (simp [nodeB, *]; rw [Bool.eq_iff_iff]; simp; omega)), (Below.refl w.heap.size w).alloc (Nat.le_refl _) _⟩
 by_cases h4 : kind = 4
 ·subst h4
  clear h1
  go_enter Tryz.func78, Tryz.ntmps78
  go_wp2_with (go_at_call 20; refine (specName_any _ _ (by assumption)).mono ?_; rintro e w' ⟨rfl, rfl⟩)
  all_goals go_ret
  all_goals exact ⟨ret_bool (by first | (simp [nodeB, *]; done) | (simp [nodeB, *]; omega) | (simp [nodeB, *]; rw [Bool.eq_iff_iff]; simp; done) | (simp [nodeB, *]; rw [Bool.eq_iff_iff]; simp; omega)), (Below.refl w.heap.size w).alloc (Nat.le_refl _) _⟩
 by_cases h5 : kind = 5
 ·subst h5
  clear h1
  go_enter Tryz.func78, Tryz.ntmps78
  go_wp2_with (go_at_call 20; refine (specName_any _ _ (by assumption)).mono ?_; rintro e w' ⟨rfl, rfl⟩)
  all_goals go_ret
  all_goals exact ⟨ret_bool (by first | (simp [nodeB, *]; done) | (simp [nodeB, *]; omega) | (simp [nodeB, *]; rw [Bool.eq_iff_iff]; simp; done) | (simp [nodeB, *]; rw [Bool.eq_iff_iff]; simp; omega)), (Below.refl w.heap.size w).alloc (Nat.le_refl _) _⟩
 by_cases h6 : kind = 6
 ·subst h6
  clear h1
  go_enter Tryz.func78, Tryz.ntmps78
  go_wp2_with (go_at_call 20; refine (specName_any _ _ (by assumption)).mono ?_; rintro e w' ⟨rfl, rfl⟩)
  all_goals go_ret
  all_goals exact ⟨ret_bool (by first | (simp [nodeB, *]; done) | (simp [nodeB, *]; omega) | (simp [nodeB, *]; rw [Bool.eq_iff_iff]; simp; done) | (simp [nodeB, *]; rw [Bool.eq_iff_iff]; simp; omega)), (Below.refl w.heap.size w).alloc (Nat.le_refl _) _⟩
 ·go_enter Tryz.func78, Tryz.ntmps78
  go_wp2_with (go_at_call 20; refine (specName_any _ _ (by assumption)).mono ?_; rintro e w' ⟨rfl, rfl⟩)
  all_goals go_ret
  all_goals exact ⟨ret_bool (by first | (simp [nodeB, *]; done) | (simp [nodeB, *]; omega) | (simp [nodeB, *]; rw [Bool.eq_iff_iff]; simp; done) | (simp [nodeB, *]; rw [Bool.eq_iff_iff]; simp; omega)), (Below.refl w.heap.size w).alloc (Nat.le_refl _) _⟩
theorem al_eql (x y : Al) {v : Bool} (h : alEq x y = v) (w : World) :
  (binOp .eql 90 (.agg #[.string x.t, .string x.s]) (.agg #[.string y.t, .string y.s])).run Tryz.prog w = .ok (.bool v) w := by
 subst h
 go_simp
 unfold alEq
 by_cases h1 : x.t.toList = y.t.toList <;> by_cases h2 : x.s.toList = y.s.toList <;> simp [h1, h2]
theorem inPre_hit {xs : List Al} {j k : Nat} {a : Al} (hjk : j < k) (hj : j < xs.length) (h : alEq xs[j] a = true) : inPre xs k a = true := by
 unfold inPre
 rw [List.any_eq_true]
 refine ⟨xs[j], ?_, h⟩
 rw [List.mem_take_iff_getElem]
 exact ⟨j, by omega, rfl⟩
set_option maxRecDepth 8000 in
set_option maxHeartbeats 4000000 in
theorem l2NodeOk_this (r : ER) (w : World) (hf : r.e.fits) (hok : r.ok w) (h1 : r.e.kind = 1) :
  Calls Tryz.prog 78 #[r.val] w fun e w' => e = .returned (.bool (nodeB r.e)) ∧ Below w.heap.size w w' := by
 obtain ⟨⟨kind, allow, over, name, kids⟩, adA, capA, adK, capK⟩ := r
 obtain ⟨f1, f2, f3, f4, f5⟩ := hf
 obtain ⟨hA, hK⟩ := hok
 simp only at f1 f2 f3 f4 f5 h1 hA hK
 subst h1
 simp only [ER.val]
 unfold maxLen at f4 f5
 by_cases hl : 1 ≤ allow.length ∧ allow.length ≤ 6
 ·obtain ⟨hl1, hl2⟩ := hl
  obtain ⟨W, hW⟩ : ∃ W, W = w.alloc (.cells #[.int .i64 1, .slice adA allow.length capA, .string over, .string name, .slice adK kids.length capK] 50) := ⟨_, rfl⟩
  have HB0 : Hid (Below w.heap.size w W) := by show Below _ _ _; rw [hW]; exact (Below.refl w.heap.size w).alloc (Nat.le_refl _) _
  have hz : w.heap.size < W.heap.size := by rw [hW]; simp
  have b1 : W.cell? ⟨w.heap.size, 1, none⟩ = some (.slice adA allow.length capA) := by rw [hW]; simp
  have b2 : W.cell? ⟨w.heap.size, 2, none⟩ = some (.string over) := by rw [hW]; simp
  have b3 : W.cell? ⟨w.heap.size, 3, none⟩ = some (.string name) := by rw [hW]; simp
  have HA : Hid (SlA W adA allow) := hA.below HB0.out
  have HF1 : Hid (∀ a ∈ allow, a.fits) := f1
  clear hA hK f1
  go_enter Tryz.func78, Tryz.ntmps78
  go_wp2_with fail
  rw [← hW]
  clear hW
  go_loopw [4] (fun i wr => ∃ k : Nat, k ≤ allow.length ∧ i = .int .i64 k ∧ Hid (upA allow k = true) ∧ Below W.heap.size W wr) (fun i _ => allow.length - (intOf i).toNat)
  case atStart => exact ⟨0, Nat.zero_le _, rfl, rfl, Below.refl _ _⟩
  case round =>
   obtain ⟨k, hk, rfl, HU, hB⟩ := hrel
   have a1 := kept hB hz b1
   have a2 := kept hB hz b2
   have a3 := kept hB hz b3
   by_cases hlt : k < allow.length
   ·rcases HA.out.below hB with rfl | ⟨b, off, rfl, hb, hr⟩
    ·simp at hlt
    obtain ⟨t0, t1⟩ := hr k hlt
    obtain ⟨z0, z1⟩ := HF1.out allow[k] (List.getElem_mem hlt)
    have HR : Hid (∀ (i : Nat) (h : i < allow.length), At2 wr b (off + i * 2) allow[i]) := hr
    clear hr
    obtain ⟨W1, hW1⟩ : ∃ W1, W1 = wr.alloc (.cells #[.string allow[k].t, .string allow[k].s] 90) := ⟨_, rfl⟩
    have hal : Below wr.heap.size wr W1 := by rw [hW1]; exact (Below.refl _ _).alloc (Nat.le_refl _) _
    have hBW1 : Below W.heap.size wr W1 := hal.mono hB.size
    have hsz : w.heap.size < wr.heap.size := Nat.lt_of_lt_of_le hz hB.size
    have hWs : W.heap.size ≤ W1.heap.size := Nat.le_trans hB.size hal.size
    have c1 := kept hal hsz a1
    have c2 := kept hal hsz a2
    have c3 := kept hal hsz a3
    have hbl : b < W1.heap.size := Nat.lt_of_lt_of_le hb hal.size
    have hgl : wr.heap.size < W1.heap.size := by rw [hW1]; simp
    have g0 : W1.cell? ⟨wr.heap.size, 0, none⟩ = some (.string allow[k].t) := by rw [hW1]; simp
    have g1 : W1.cell? ⟨wr.heap.size, 1, none⟩ = some (.string allow[k].s) := by rw [hW1]; simp
    have HR1 : Hid (∀ (i : Nat) (h : i < allow.length), At2 W1 b (off + i * 2) allow[i]) := fun i hi => (HR.out i hi).same fun o => hal.cell (p := ⟨b, o, none⟩) hb
    cases hn : nameB allow[k].t with
    | false =>
     have HN : Hid (upA allow allow.length = false) := upA_bad allow k hlt (by simp [alB, hn]) _ hlt
     go_wp2_with (go_at_call 20; refine (specName_any _ _ (by assumption)).mono ?_; rintro e w' ⟨rfl, rfl⟩)
     go_ret
     exact ⟨ret_bool (by simp [nodeB, allowB, HN.out]), HB0.out.trans ((hB.trans ((Below.refl _ _).alloc hB.size _)).mono HB0.out.size)⟩
    | true =>
     cases he : allow[k].s.toList.isEmpty with
     | true =>
      have HAl : Hid (alB allow[k] = true) := by show _ = _; simp [alB, setB', hn, he]
      go_wp2_with (go_at_call 20; refine (specName_any _ _ (by assumption)).mono ?_; rintro e w' ⟨rfl, rfl⟩)
      rw [← hW1]
      go_loopw [6] (fun i w2 => ∃ j : Nat, j ≤ k ∧ i = .int .i64 j ∧ Hid (inPre allow j allow[k] = false) ∧ Below W1.heap.size W1 w2) (fun i _ => k - (intOf i).toNat)
      case atStart => exact ⟨0, Nat.zero_le _, rfl, inPre_zero _ _, Below.refl _ _⟩
      case round =>
       obtain ⟨j, hj, rfl, HP, hB2⟩ := hrel
       rename_i w2 _
       have d1 := kept hB2 (by omega) c1
       have d2 := kept hB2 (by omega) c2
       have d3 := kept hB2 (by omega) c3
       have p0 := kept hB2 hgl g0
       have p1 := kept hB2 hgl g1
       by_cases hjk : j < k
       ·obtain ⟨q0, q1⟩ := (HR1.out j (by omega)).same fun o => hB2.cell (p := ⟨b, o, none⟩) hbl
        have hj1 : (0 : Int) ≤ (j : Int) := by omega
        have hj2 : (j : Int) < (allow.length : Int) := by omega
        cases hq : alEq allow[j] allow[k] with
        | true =>
         have HE := al_eql allow[j] allow[k] hq
         have HN : Hid (upA allow allow.length = false) := upA_bad allow k hlt (by rw [(inPre_hit hjk (by omega) hq)]; simp) _ hlt
         go_wp2_with fail
         go_quiet (fail)
         go_wp2
         go_ret
         exact ⟨ret_bool (by simp [nodeB, allowB, HN.out]), HB0.out.trans ((hB.trans (hBW1.trans (hB2.mono (by omega)))).mono HB0.out.size |> fun h => below_drewN h _)⟩
        | false =>
         have HE := al_eql allow[j] allow[k] hq
         have HP2 : Hid (inPre allow (j + 1) allow[k] = false) := by show _ = _; rw [inPre_succ _ _ _ (by omega), HP.out, hq]; rfl
         go_wp2_with fail
         go_quiet (fail)
         go_wp2
         go_roundw
         case rel => exact ⟨j + 1, by omega, by go_num, HP2, below_drewN hB2 _⟩
         case measure => simp [intOf]; omega
       ·obtain rfl : j = k := by omega
        have HU2 : Hid (upA allow (j + 1) = true) := by show _ = _; rw [upA_succ _ _ hlt, HU.out, HAl.out, HP.out]; rfl
        go_wp2
        go_roundw
        case rel => exact ⟨j + 1, by omega, by go_num, HU2, hB.trans (hBW1.trans (hB2.mono (by omega)))⟩
        case measure => simp [intOf]; omega
     | false =>
      cases hm : nameB allow[k].s with
      | false =>
       have HN : Hid (upA allow allow.length = false) := upA_bad allow k hlt (by simp [alB, hn, setB', he, hm]) _ hlt
       go_wp2_with (go_at_call 20; refine (specName_any _ _ (by assumption)).mono ?_; rintro e w' ⟨rfl, rfl⟩)
       go_ret
       exact ⟨ret_bool (by simp [nodeB, allowB, HN.out]), HB0.out.trans ((hB.trans ((Below.refl _ _).alloc hB.size _)).mono HB0.out.size)⟩
      | true =>
       have HAl : Hid (alB allow[k] = true) := by show _ = _; simp [alB, setB', hn, he, hm]
       go_wp2_with (go_at_call 20; refine (specName_any _ _ (by assumption)).mono ?_; rintro e w' ⟨rfl, rfl⟩)
       rw [← hW1]
       go_loopw [6] (fun i w2 => ∃ j : Nat, j ≤ k ∧ i = .int .i64 j ∧ Hid (inPre allow j allow[k] = false) ∧ Below W1.heap.size W1 w2) (fun i _ => k - (intOf i).toNat)
       case atStart => exact ⟨0, Nat.zero_le _, rfl, inPre_zero _ _, Below.refl _ _⟩
       case round =>
        obtain ⟨j, hj, rfl, HP, hB2⟩ := hrel
        rename_i w2 _
        have d1 := kept hB2 (by omega) c1
        have d2 := kept hB2 (by omega) c2
        have d3 := kept hB2 (by omega) c3
        have p0 := kept hB2 hgl g0
        have p1 := kept hB2 hgl g1
        by_cases hjk : j < k
        ·obtain ⟨q0, q1⟩ := (HR1.out j (by omega)).same fun o => hB2.cell (p := ⟨b, o, none⟩) hbl
         have hj1 : (0 : Int) ≤ (j : Int) := by omega
         have hj2 : (j : Int) < (allow.length : Int) := by omega
         cases hq : alEq allow[j] allow[k] with
         | true =>
          have HE := al_eql allow[j] allow[k] hq
          have HN : Hid (upA allow allow.length = false) := upA_bad allow k hlt (by rw [(inPre_hit hjk (by omega) hq)]; simp) _ hlt
          go_wp2_with fail
          go_quiet (fail)
          go_wp2
          go_ret
          exact ⟨ret_bool (by simp [nodeB, allowB, HN.out]), HB0.out.trans ((hB.trans (hBW1.trans (hB2.mono (by omega)))).mono HB0.out.size |> fun h => below_drewN h _)⟩
         | false =>
          have HE := al_eql allow[j] allow[k] hq
          have HP2 : Hid (inPre allow (j + 1) allow[k] = false) := by show _ = _; rw [inPre_succ _ _ _ (by omega), HP.out, hq]; rfl
          go_wp2_with fail
          go_quiet (fail)
          go_wp2
          go_roundw
          case rel => exact ⟨j + 1, by omega, by go_num, HP2, below_drewN hB2 _⟩
          case measure => simp [intOf]; omega
        ·obtain rfl : j = k := by omega
         have HU2 : Hid (upA allow (j + 1) = true) := by show _ = _; rw [upA_succ _ _ hlt, HU.out, HAl.out, HP.out]; rfl
         go_wp2
         go_roundw
         case rel => exact ⟨j + 1, by omega, by go_num, HU2, hB.trans (hBW1.trans (hB2.mono (by omega)))⟩
         case measure => simp [intOf]; omega
   ·obtain rfl : k = allow.length := by omega
    have HAW : Hid (allowB allow = true) := by show _ = _; simp [allowB, hl1, hl2, HU.out]
    go_wp2
    all_goals go_ret
    all_goals exact ⟨ret_bool (by first | (simp [nodeB, HAW.out, *]; done) | (simp [nodeB, HAW.out, *]; rw [Bool.eq_iff_iff]; simp; done)), HB0.out.trans (hB.mono HB0.out.size)⟩
 ·go_enter Tryz.func78, Tryz.ntmps78
  go_wp2_with fail
  all_goals go_ret
  all_goals exact ⟨ret_bool (by simp [nodeB, allowB]; omega), (Below.refl w.heap.size w).alloc (Nat.le_refl _) _⟩
theorem l2NodeOk_any (r : ER) (w : World) (hf : r.e.fits) (hok : r.ok w) :
  Calls Tryz.prog 78 #[r.val] w fun e w' => e = .returned (.bool (nodeB r.e)) ∧ Below w.heap.size w w' := by
 by_cases h : r.e.kind = 1
 ·exact l2NodeOk_this r w hf hok h
 ·exact l2NodeOk_plain r w hf h
end Go.Proofs.YtmghabcaakgjiaaGreat
namespace Go.Proofs.YtmghabcaakgjiaaGreat
open Go.ChangeShapes Go.WideShapes Go.ChangeAt Go.RowKit
open Pl
theorem kidsAt_exs (rs : List ER) (n : Nat) (h : n < rs.length) : kidsAt (exs rs) n = rs[n].e.kids := by simp [kidsAt, exs, h]
set_option maxHeartbeats 2000000 in
theorem l2Tree_any (b off cap : Nat) (rs : List ER) (hlen : rs.length ≤ 1048576) (hl : ∀ r ∈ rs, r.e.light) (n : Nat) : ∀ (w : World), n < rs.length → b < w.heap.size → (∀ (i : Nat) (h : i < rs.length), At5 w b (off + i * 5) rs[i]) → (∀ r ∈ rs, r.ok w) →
  Calls Tryz.prog 80 #[.slice (some ⟨b, off, none⟩) rs.length cap, .int .i64 (n : Int)] w fun e w' => e = .returned (.int .i64 (treeAt (exs rs) n)) ∧ Below w.heap.size w w' := by
 induction n using Nat.strongRecOn with
 | ind n ih =>
  intro w hn hb hr hok
  have IH : Hid (∀ m, m < n → ∀ (w : World), m < rs.length → b < w.heap.size → (∀ (i : Nat) (h : i < rs.length), At5 w b (off + i * 5) rs[i]) → (∀ r ∈ rs, r.ok w) →
   Calls Tryz.prog 80 #[.slice (some ⟨b, off, none⟩) rs.length cap, .int .i64 (m : Int)] w fun e w' => e = .returned (.int .i64 (treeAt (exs rs) m)) ∧ Below w.heap.size w w') := ih
  have HR : Hid (∀ (i : Nat) (h : i < rs.length), At5 w b (off + i * 5) rs[i]) := hr
  have HO : Hid (∀ r ∈ rs, r.ok w) := hok
  obtain ⟨t0, t1, t2, t3, t4⟩ := hr n hn
  obtain ⟨l1, l2⟩ := hl rs[n] (List.getElem_mem hn)
  have hn1 : (0 : Int) ≤ (n : Int) := by omega
  have hn2 : (n : Int) < (rs.length : Int) := by omega
  have HT : Hid (treeAt (exs rs) n = treeGo (treeF (exs rs) n) rs[n].e.kids.reverse ((n : Int) - 1)) := by show _ = _; rw [treeAt_eq, kidsAt_exs rs n hn]
  have HL : Hid (∀ r ∈ rs, r.e.light) := hl
  clear ih hr hok hl l1
  go_enter Tryz.func80, Tryz.ntmps80
  go_wp2_with fail
  go_loopw [5, 6] (fun a i wr => ∃ (j : Nat) (x : Int), j ≤ rs[n].e.kids.length ∧ i = .int .i64 ((j : Int) - 1) ∧ a = .int .i64 x ∧ -1 ≤ x ∧ x < n ∧ Hid (treeGo (treeF (exs rs) n) (rs[n].e.kids.take j).reverse x = treeAt (exs rs) n) ∧ Below w.heap.size w wr) (fun _ i _ => (intOf i + 1).toNat)
  case atStart => exact ⟨rs[n].e.kids.length, (n : Int) - 1, Nat.le_refl _, rfl, rfl, by omega, by omega, (by show _ = _; rw [List.take_length]; exact HT.out.symm), Below.refl _ _⟩
  case round =>
   obtain ⟨j, x, hj, rfl, rfl, hx0, hx1, HG, hB⟩ := hrel
   have s4 := kept hB hb t4
   by_cases hj0 : 0 < j
   ·obtain ⟨j, rfl⟩ : ∃ i, j = i + 1 := ⟨j - 1, by omega⟩
    have hjl : j < rs[n].e.kids.length := by omega
    rcases (HO.out rs[n] (List.getElem_mem hn)).2.below hB with hnil | ⟨bk, offk, hadk, hbk, hrk⟩
    ·rw [hnil] at hjl; simp at hjl
    rw [hadk] at s4
    have k0 := hrk j hjl
    clear hrk
    have hji : ((j + 1 : Nat) : Int) - 1 = (j : Int) := by omega
    have hj1 : (0 : Int) ≤ (j : Int) := by omega
    have hj2 : (j : Int) < (rs[n].e.kids.length : Int) := by omega
    have HG2 : Hid ((if x < 0 ∨ rs[n].e.kids[j] ≠ x then -1 else if treeF (exs rs) n x < 0 then -1 else treeGo (treeF (exs rs) n) (rs[n].e.kids.take j).reverse (treeF (exs rs) n x - 1)) = treeAt (exs rs) n) := by
     have := HG.out
     rw [List.take_succ_eq_append_getElem hjl, List.reverse_append] at this
     exact this
    rw [hji]
    clear HG hadk t0 t1 t2 t3 t4
    by_cases hxn : x < 0
    ·have HT1 : Hid (treeAt (exs rs) n = -1) := by show _ = _; rw [← HG2.out, if_pos (Or.inl hxn)]
     go_wp2
     go_ret
     exact ⟨by rw [HT1.out]; rfl, hB⟩
    by_cases hkx : rs[n].e.kids[j] = x
    ·obtain ⟨m, rfl⟩ : ∃ m : Nat, x = (m : Int) := ⟨x.toNat, by omega⟩
     have hF : treeF (exs rs) n (m : Int) = treeAt (exs rs) m := by unfold treeF; rw [if_pos ⟨by omega, by simp; omega⟩]; simp
     have HF : Hid (treeF (exs rs) n (m : Int) = treeAt (exs rs) m) := hF
     have hle := treeAt_le (exs rs) m
     clear hF
     go_wp2_with fail
     refine (IH.out m (by omega) _ (by omega) (Nat.lt_of_lt_of_le hb hB.size) (fun i hi => (HR.out i hi).same fun o => hB.cell (p := ⟨b, o, none⟩) hb) (fun r hr => (HO.out r hr).below hB)).mono ?_
     rintro e w1 ⟨rfl, hb1⟩
     have hB1 : Below w.heap.size w w1 := hB.trans (hb1.mono hB.size)
     clear hb1
     by_cases hneg : treeAt (exs rs) m < 0
     ·have HT1 : Hid (treeAt (exs rs) n = -1) := by show _ = _; rw [← HG2.out, if_neg (by omega), HF.out, if_pos hneg]
      go_wp2
      go_ret
      exact ⟨by rw [HT1.out]; rfl, hB1⟩
     ·have HG3 : Hid (treeGo (treeF (exs rs) n) (rs[n].e.kids.take j).reverse (treeAt (exs rs) m - 1) = treeAt (exs rs) n) := by
       show _ = _
       rw [← HG2.out, if_neg (by omega), HF.out, if_neg hneg]
      go_wp2
      go_roundw
      case rel => exact ⟨j, treeAt (exs rs) m - 1, by omega, by go_num, rfl, by omega, by omega, HG3, hB1⟩
      case measure => first | (simp [intOf]; done) | (simp [intOf]; omega)
    ·have HT1 : Hid (treeAt (exs rs) n = -1) := by show _ = _; rw [← HG2.out, if_pos (Or.inr hkx)]
     go_wp2
     go_ret
     exact ⟨by rw [HT1.out]; rfl, hB⟩
   ·obtain rfl : j = 0 := by omega
    have HT1 : Hid (treeAt (exs rs) n = x + 1) := by show _ = _; have := HG.out; simp [treeGo] at this; exact this.symm
    clear HG t0 t1 t2 t3 t4
    go_wp2
    go_ret
    exact ⟨by rw [HT1.out]; rfl, hB⟩
theorem At5.later {w w' : World} {b off : Nat} {r : ER} (h : At5 w b off r) (hb : b < w.heap.size) (hB : Below w.heap.size w w') : At5 w' b off r := h.same fun o => hB.cell (p := ⟨b, o, none⟩) hb
theorem specE_no1 {es : List Ex} (h : ¬ (1 ≤ es.length ∧ es.length ≤ 15)) : specE es = false := by
 unfold specE
 by_cases h1 : 1 ≤ es.length
 ·have h2 : ¬ es.length ≤ 15 := fun h2 => h ⟨h1, h2⟩
  simp [h2]
 ·simp [h1]
theorem specE_node {es : List Ex} (k : Nat) (h : k < es.length) (hb : nodeB es[k] = false) : specE es = false := by simp [specE, nodes_bad es k h hb]
theorem specE_kids {es : List Ex} (k : Nat) (h : k < es.length) (hb : kidsIn es k = false) : specE es = false := by simp [specE, kids_bad es k h hb]
def kidsPre (zs : List Int) (i j : Nat) : Bool := (zs.take j).all fun k => decide (0 ≤ k) && decide (k ≤ (i : Int) - 1)
theorem kidsPre_succ (zs : List Int) (i j : Nat) (h : j < zs.length) : kidsPre zs i (j + 1) = (kidsPre zs i j && (decide (0 ≤ zs[j]) && decide (zs[j] ≤ (i : Int) - 1))) := by
 unfold kidsPre; rw [List.take_succ_eq_append_getElem h, List.all_append]; simp
theorem kidsPre_bad (zs : List Int) (i j : Nat) (h : j < zs.length) (hb : (decide (0 ≤ zs[j]) && decide (zs[j] ≤ (i : Int) - 1)) = false) : (zs.all fun k => decide (0 ≤ k) && decide (k ≤ (i : Int) - 1)) = false := by
 rw [Bool.eq_false_iff]; intro h2; rw [List.all_eq_true] at h2; have := h2 zs[j] (List.getElem_mem h); rw [hb] at this; cases this
set_option maxRecDepth 4000 in
set_option maxHeartbeats 4000000 in
theorem specExprOk_row (b off cap : Nat) (rs : List ER) (w : World) (hlen : rs.length ≤ 1048576) (hl : ∀ r ∈ rs, r.e.light) (hf : ∀ r ∈ rs, r.e.fits) (hb : b < w.heap.size) (hr : ∀ (i : Nat) (h : i < rs.length), At5 w b (off + i * 5) rs[i]) (hok : ∀ r ∈ rs, r.ok w) :
  Calls Tryz.prog 54 #[.slice (some ⟨b, off, none⟩) rs.length cap] w fun e w' => e = .returned (.bool (specE (exs rs))) ∧ Below w.heap.size w w' := by
 have hel := exs_len rs
 have HEL : Hid ((exs rs).length = rs.length) := hel
 have HL : Hid (∀ r ∈ rs, r.e.light) := hl
 have HF : Hid (∀ r ∈ rs, r.e.fits) := hf
 have HR : Hid (∀ (i : Nat) (h : i < rs.length), At5 w b (off + i * 5) rs[i]) := hr
 have HO : Hid (∀ r ∈ rs, r.ok w) := hok
 clear hel hl hf hr hok
 by_cases hn : 1 ≤ rs.length ∧ rs.length ≤ 15
 ·obtain ⟨hn1, hn2⟩ := hn
  go_enter Tryz.func54, Tryz.ntmps54
  go_wp2_with fail
  go_loopw [3, 4] (fun o i wr => ∃ k : Nat, k ≤ rs.length ∧ i = .int .i64 k ∧ o = .int .i64 (ownUp (exs rs) k : Nat) ∧ Hid (nodesUp (exs rs) k = true ∧ kidsUp (exs rs) k = true) ∧ Below w.heap.size w wr) (fun _ i _ => rs.length - (intOf i).toNat)
  case atStart => exact ⟨0, Nat.zero_le _, rfl, rfl, ⟨by simp [nodesUp], by simp [kidsUp]⟩, Below.refl _ _⟩
  case round =>
   obtain ⟨k, hk, rfl, rfl, HU, hB⟩ := hrel
   by_cases hlt : k < rs.length
   ·have hltE : k < (exs rs).length := by rw [HEL.out]; exact hlt
    have hek : (exs rs)[k] = rs[k].e := by simp [exs]
    have HEK : Hid ((exs rs)[k] = rs[k].e) := hek
    obtain ⟨t0, t1, t2, t3, t4⟩ := (HR.out k hlt).later hb hB
    clear hek
    have hk1 : (0 : Int) ≤ (k : Int) := by omega
    have hk2 : (k : Int) < (rs.length : Int) := by omega
    have hol := ownUp_le (exs rs) k
    go_wp2_with fail
    refine (l2NodeOk_any rs[k] _ (HF.out _ (List.getElem_mem hlt)) ((HO.out _ (List.getElem_mem hlt)).below hB)).mono ?_
    rintro e w1 ⟨rfl, hb1⟩
    cases hnode : nodeB rs[k].e with
    | false =>
     have HN : Hid (specE (exs rs) = false) := specE_node k hltE (by rw [HEK.out]; exact hnode)
     go_wp2
     go_ret
     exact ⟨by rw [HN.out]; rfl, hB.trans (hb1.mono hB.size)⟩
    | true =>
     have hB1 : Below w.heap.size w w1 := hB.trans (hb1.mono hB.size)
     have hbw : b < wr.heap.size := Nat.lt_of_lt_of_le hb hB.size
     replace t0 := kept hb1 hbw t0
     replace t4 := kept hb1 hbw t4
     have hbw1 : b < w1.heap.size := Nat.lt_of_lt_of_le hbw hb1.size
     clear t1 t2 t3 hb1 hB hbw
     go_wp2_with fail
     go_loopw [5] (fun i w2 => ∃ j : Nat, j ≤ rs[k].e.kids.length ∧ i = .int .i64 j ∧ Hid (kidsPre rs[k].e.kids k j = true) ∧ w2 = w1) (fun i _ => rs[k].e.kids.length - (intOf i).toNat)
     case atStart => exact ⟨0, Nat.zero_le _, rfl, (by show _ = _; simp [kidsPre]), rfl⟩
     case round =>
      obtain ⟨j, hj, rfl, HP, rfl⟩ := hrel
      by_cases hjl : j < rs[k].e.kids.length
      ·rcases (HO.out rs[k] (List.getElem_mem hlt)).2.below hB1 with hnil | ⟨bk, offk, hadk, hbk, hrk⟩
       ·rw [hnil] at hjl; simp at hjl
       have t4' := t4
       rw [hadk] at t4'
       have k0 := hrk j hjl
       have hj1 : (0 : Int) ≤ (j : Int) := by omega
       have hj2 : (j : Int) < (rs[k].e.kids.length : Int) := by omega
       obtain ⟨-, lk⟩ := HL.out rs[k] (List.getElem_mem hlt)
       clear hrk hadk t4
       go_wp2_with fail
       refine (l1In_any _ _ _ _).mono ?_
       rintro e w' ⟨rfl, rfl⟩
       cases hin : (decide (0 ≤ rs[k].e.kids[j]) && decide (rs[k].e.kids[j] ≤ (k : Int) - 1)) with
       | false =>
        have HN : Hid (specE (exs rs) = false) := specE_kids k hltE (by unfold kidsIn; rw [kidsAt_exs rs k hlt]; exact kidsPre_bad _ k j hjl hin)
        go_wp2
        go_ret
        exact ⟨by rw [HN.out]; rfl, hB1⟩
       | true =>
        have HP2 : Hid (kidsPre rs[k].e.kids k (j + 1) = true) := by show _ = _; rw [kidsPre_succ _ _ _ hjl, HP.out, hin]; rfl
        go_wp2
        go_roundw
        case rel => exact ⟨j + 1, by omega, by go_num, HP2, by first | rfl | trivial⟩
        case measure => first | (simp [intOf]; done) | (simp [intOf]; omega)
      ·obtain rfl : j = rs[k].e.kids.length := by omega
       have HU2 : Hid (nodesUp (exs rs) (k + 1) = true ∧ kidsUp (exs rs) (k + 1) = true) := by
        refine ⟨?_, ?_⟩
        ·rw [nodesUp_succ _ _ hltE, HU.out.1, HEK.out, hnode]; rfl
        ·rw [kidsUp_succ, HU.out.2]
         unfold kidsIn
         rw [kidsAt_exs rs k hlt]
         have := HP.out
         unfold kidsPre at this
         rw [List.take_length] at this
         rw [this]; rfl
       have HOW : Hid (ownUp (exs rs) (k + 1) = ownUp (exs rs) k + (if rs[k].e.kind = 1 then 1 else 0)) := by show _ = _; rw [ownUp_succ _ _ hltE, HEK.out]
       by_cases hk1' : rs[k].e.kind = 1
       ·have HOW2 : Hid (ownUp (exs rs) (k + 1) = ownUp (exs rs) k + 1) := by show _ = _; rw [HOW.out, if_pos hk1']
        clear HOW
        go_wp2
        go_roundw
        case rel => exact ⟨k + 1, by omega, by go_num, by rw [HOW2.out]; go_num, HU2, hB1⟩
        case measure => first | (simp [intOf]; done) | (simp [intOf]; omega)
       ·have HOW2 : Hid (ownUp (exs rs) (k + 1) = ownUp (exs rs) k) := by show _ = _; rw [HOW.out, if_neg hk1']; rfl
        clear HOW
        go_wp2
        go_roundw
        case rel => exact ⟨k + 1, by omega, by go_num, by rw [HOW2.out], HU2, hB1⟩
        case measure => first | (simp [intOf]; done) | (simp [intOf]; omega)
   ·obtain rfl : k = rs.length := by omega
    have HN : Hid ((exs rs).all nodeB = true) := by
     have := HU.out.1
     unfold nodesUp at this
     rwa [← HEL.out, List.take_length] at this
    have HKU : Hid (kidsUp (exs rs) rs.length = true) := HU.out.2
    have HOW : Hid (ownUp (exs rs) rs.length = own (exs rs)) := by show _ = _; unfold ownUp; rw [← HEL.out, List.take_length]
    have hol := ownUp_le (exs rs) rs.length
    by_cases ho : ownUp (exs rs) rs.length ≤ 1
    ·have HS : Hid (specE (exs rs) = decide (treeAt (exs rs) (rs.length - 1) = 0)) := by
      show _ = _
      have h1 : own (exs rs) ≤ 1 := by rw [← HOW.out]; exact ho
      have e1 := HEL.out
      unfold specE
      rw [e1, HN.out, HKU.out]
      simp [h1, hn1, hn2]
     have hcast : ((rs.length : Int) - 1) = ((rs.length - 1 : Nat) : Int) := by omega
     have HCA : Hid (((rs.length : Int) - 1) = ((rs.length - 1 : Nat) : Int)) := hcast
     clear hcast
     go_wp2_with fail
     rw [HCA.out]
     refine (l2Tree_any b off cap rs hlen HL.out (rs.length - 1) _ (by omega) (Nat.lt_of_lt_of_le hb hB.size) (fun i hi => (HR.out i hi).later hb hB) (fun r hr => (HO.out r hr).below hB)).mono ?_
     rintro e w1 ⟨rfl, hb1⟩
     go_wp2
     go_ret
     exact ⟨by rw [HS.out]; exact ret_bool (by rw [Bool.eq_iff_iff]; simp), hB.trans (hb1.mono hB.size)⟩
    ·have HS : Hid (specE (exs rs) = false) := by
      show _ = _
      have h1 : ¬ own (exs rs) ≤ 1 := by rw [← HOW.out]; exact ho
      simp [specE, h1]
     go_wp2
     go_ret
     exact ⟨by rw [HS.out]; rfl, hB⟩
 ·have HN : Hid (specE (exs rs) = false) := specE_no1 (by rw [HEL.out]; exact hn)
  go_enter Tryz.func54, Tryz.ntmps54
  go_wp2_with fail
  all_goals go_ret
  all_goals exact ⟨by rw [HN.out]; rfl, Below.refl _ _⟩
theorem specExprOk_any (ad : Option Addr) (cap : Nat) (rs : List ER) (w : World) (hlen : rs.length ≤ 1048576) (hl : ∀ r ∈ rs, r.e.light) (hf : ∀ r ∈ rs, r.e.fits) (hs : SlE w ad rs) :
  Calls Tryz.prog 54 #[.slice ad rs.length cap] w fun e w' => e = .returned (.bool (specE (exs rs))) ∧ Below w.heap.size w w' := by
 rcases hs with rfl | ⟨b, off, rfl, hb, hr, hok⟩
 ·go_enter Tryz.func54, Tryz.ntmps54
  go_wp2_with fail
  go_ret
  exact ⟨rfl, Below.refl _ _⟩
 ·exact specExprOk_row b off cap rs w hlen hl hf hb hr hok
end Go.Proofs.YtmghabcaakgjiaaGreat
