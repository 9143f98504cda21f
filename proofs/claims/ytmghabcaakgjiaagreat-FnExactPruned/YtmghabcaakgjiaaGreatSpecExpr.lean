/- Contracts of the document's functions that look at an expression. -/
import Derived.Test.YtmghabcaakgjiaaGreatJ7
import Derived.Test.YtmghabcaakgjiaaGreatEqExpr
namespace Go.Proofs.YtmghabcaakgjiaaGreat
open Go.ChangeShapes Go.WideShapes Go.ChangeAt Go.RowKit
open Pl

theorem l1In_any (n lo hi : Int) (w : World) :
    Calls Tryz.prog 79 #[.int .i64 n, .int .i64 lo, .int .i64 hi] w fun e w' => e = .returned (.bool (decide (lo ≤ n) && decide (n ≤ hi))) ∧ w' = w := by
  go_enter Tryz.func79, Tryz.ntmps79
  go_wp2
  all_goals go_ret
  all_goals exact ⟨ret_bool (by simp [*] <;> omega), rfl⟩

set_option maxRecDepth 8000 in
set_option maxHeartbeats 2000000 in
theorem l2NodeOk_plain (r : ER) (w : World) (hf : r.e.fits) (h1 : r.e.kind ≠ 1) :
    Calls Tryz.prog 78 #[r.val] w fun e w' => e = .returned (.bool (nodeB r.e)) ∧ Below w.heap.size w w' := by
  obtain ⟨⟨kind, allow, over, name, kids⟩, adA, capA, adK, capK⟩ := r
  obtain ⟨f1, f2, f3, f4, f5⟩ := hf
  simp only at f1 f2 f3 f4 f5 h1
  simp only [ER.val]
  unfold maxLen at f4 f5
  by_cases h2 : kind = 2
  · subst h2
    clear h1
    go_enter Tryz.func78, Tryz.ntmps78
    go_wp2_with (go_at_call 20; refine (specName_any _ _ (by assumption)).mono ?_; rintro e w' ⟨rfl, rfl⟩)
    all_goals go_ret
    all_goals exact ⟨ret_bool (by first | (simp [nodeB, *]; done) | (simp [nodeB, *]; omega) | (simp [nodeB, *]; rw [Bool.eq_iff_iff]; simp; done) | (simp [nodeB, *]; rw [Bool.eq_iff_iff]; simp; omega)), (Below.refl w.heap.size w).alloc (Nat.le_refl _) _⟩
  by_cases h3 : kind = 3
  · subst h3
    clear h1
    go_enter Tryz.func78, Tryz.ntmps78
    go_wp2_with (go_at_call 20; refine (specName_any _ _ (by assumption)).mono ?_; rintro e w' ⟨rfl, rfl⟩)
    all_goals go_ret
    all_goals exact ⟨ret_bool (by first | (simp [nodeB, *]; done) | (simp [nodeB, *]; omega) | (simp [nodeB, *]; rw [Bool.eq_iff_iff]; simp; done) | (simp [nodeB, *]; rw [Bool.eq_iff_iff]; simp; omega)), (Below.refl w.heap.size w).alloc (Nat.le_refl _) _⟩
  by_cases h4 : kind = 4
  · subst h4
    clear h1
    go_enter Tryz.func78, Tryz.ntmps78
    go_wp2_with (go_at_call 20; refine (specName_any _ _ (by assumption)).mono ?_; rintro e w' ⟨rfl, rfl⟩)
    all_goals go_ret
    all_goals exact ⟨ret_bool (by first | (simp [nodeB, *]; done) | (simp [nodeB, *]; omega) | (simp [nodeB, *]; rw [Bool.eq_iff_iff]; simp; done) | (simp [nodeB, *]; rw [Bool.eq_iff_iff]; simp; omega)), (Below.refl w.heap.size w).alloc (Nat.le_refl _) _⟩
  by_cases h5 : kind = 5
  · subst h5
    clear h1
    go_enter Tryz.func78, Tryz.ntmps78
    go_wp2_with (go_at_call 20; refine (specName_any _ _ (by assumption)).mono ?_; rintro e w' ⟨rfl, rfl⟩)
    all_goals go_ret
    all_goals exact ⟨ret_bool (by first | (simp [nodeB, *]; done) | (simp [nodeB, *]; omega) | (simp [nodeB, *]; rw [Bool.eq_iff_iff]; simp; done) | (simp [nodeB, *]; rw [Bool.eq_iff_iff]; simp; omega)), (Below.refl w.heap.size w).alloc (Nat.le_refl _) _⟩
  by_cases h6 : kind = 6
  · subst h6
    clear h1
    go_enter Tryz.func78, Tryz.ntmps78
    go_wp2_with (go_at_call 20; refine (specName_any _ _ (by assumption)).mono ?_; rintro e w' ⟨rfl, rfl⟩)
    all_goals go_ret
    all_goals exact ⟨ret_bool (by first | (simp [nodeB, *]; done) | (simp [nodeB, *]; omega) | (simp [nodeB, *]; rw [Bool.eq_iff_iff]; simp; done) | (simp [nodeB, *]; rw [Bool.eq_iff_iff]; simp; omega)), (Below.refl w.heap.size w).alloc (Nat.le_refl _) _⟩
  · go_enter Tryz.func78, Tryz.ntmps78
    go_wp2_with (go_at_call 20; refine (specName_any _ _ (by assumption)).mono ?_; rintro e w' ⟨rfl, rfl⟩)
    all_goals go_ret
    all_goals exact ⟨ret_bool (by first | (simp [nodeB, *]; done) | (simp [nodeB, *]; omega) | (simp [nodeB, *]; rw [Bool.eq_iff_iff]; simp; done) | (simp [nodeB, *]; rw [Bool.eq_iff_iff]; simp; omega)), (Below.refl w.heap.size w).alloc (Nat.le_refl _) _⟩

theorem al_eql (x y : Al) {v : Bool} (h : alEq x y = v) (w : World) :
    (binOp .eql 90 (.agg #[.string x.t, .string x.s]) (.agg #[.string y.t, .string y.s])).run Tryz.prog w = .ok (.bool v) w := by
  subst h
  go_simp
  unfold alEq
  by_cases h1 : x.t.toList = y.t.toList <;> by_cases h2 : x.s.toList = y.s.toList <;> simp [h1, h2]
theorem inPre_hit {xs : List Al} {j k : Nat} {a : Al} (hjk : j < k) (hj : j < xs.length) (h : alEq xs[j] a = true) : inPre xs k a = true := by
  unfold inPre
  rw [List.any_eq_true]
  refine ⟨xs[j], ?_, h⟩
  rw [List.mem_take_iff_getElem]
  exact ⟨j, by omega, rfl⟩

set_option maxRecDepth 8000 in
set_option maxHeartbeats 4000000 in
theorem l2NodeOk_this (r : ER) (w : World) (hf : r.e.fits) (hok : r.ok w) (h1 : r.e.kind = 1) :
    Calls Tryz.prog 78 #[r.val] w fun e w' => e = .returned (.bool (nodeB r.e)) ∧ Below w.heap.size w w' := by
  obtain ⟨⟨kind, allow, over, name, kids⟩, adA, capA, adK, capK⟩ := r
  obtain ⟨f1, f2, f3, f4, f5⟩ := hf
  obtain ⟨hA, hK⟩ := hok
  simp only at f1 f2 f3 f4 f5 h1 hA hK
  subst h1
  simp only [ER.val]
  unfold maxLen at f4 f5
  by_cases hl : 1 ≤ allow.length ∧ allow.length ≤ 6
  · obtain ⟨hl1, hl2⟩ := hl
    obtain ⟨W, hW⟩ : ∃ W, W = w.alloc (.cells #[.int .i64 1, .slice adA allow.length capA, .string over, .string name, .slice adK kids.length capK] 50) := ⟨_, rfl⟩
    have HB0 : Hid (Below w.heap.size w W) := by show Below _ _ _; rw [hW]; exact (Below.refl w.heap.size w).alloc (Nat.le_refl _) _
    have hz : w.heap.size < W.heap.size := by rw [hW]; simp
    have b1 : W.cell? ⟨w.heap.size, 1, none⟩ = some (.slice adA allow.length capA) := by rw [hW]; simp
    have b2 : W.cell? ⟨w.heap.size, 2, none⟩ = some (.string over) := by rw [hW]; simp
    have b3 : W.cell? ⟨w.heap.size, 3, none⟩ = some (.string name) := by rw [hW]; simp
    have HA : Hid (SlA W adA allow) := hA.below HB0.out
    have HF1 : Hid (∀ a ∈ allow, a.fits) := f1
    clear hA hK f1
    go_enter Tryz.func78, Tryz.ntmps78
    go_wp2_with fail
    rw [← hW]
    clear hW
    go_loopw [4] (fun i wr => ∃ k : Nat, k ≤ allow.length ∧ i = .int .i64 k ∧ Hid (upA allow k = true) ∧ Below W.heap.size W wr) (fun i _ => allow.length - (intOf i).toNat)
    case atStart => exact ⟨0, Nat.zero_le _, rfl, rfl, Below.refl _ _⟩
    case round =>
      obtain ⟨k, hk, rfl, HU, hB⟩ := hrel
      have a1 := kept hB hz b1
      have a2 := kept hB hz b2
      have a3 := kept hB hz b3
      by_cases hlt : k < allow.length
      · rcases HA.out.below hB with rfl | ⟨b, off, rfl, hb, hr⟩
        · simp at hlt
        obtain ⟨t0, t1⟩ := hr k hlt
        obtain ⟨z0, z1⟩ := HF1.out allow[k] (List.getElem_mem hlt)
        have HR : Hid (∀ (i : Nat) (h : i < allow.length), At2 wr b (off + i * 2) allow[i]) := hr
        clear hr
        obtain ⟨W1, hW1⟩ : ∃ W1, W1 = wr.alloc (.cells #[.string allow[k].t, .string allow[k].s] 90) := ⟨_, rfl⟩
        have hal : Below wr.heap.size wr W1 := by rw [hW1]; exact (Below.refl _ _).alloc (Nat.le_refl _) _
        have hBW1 : Below W.heap.size wr W1 := hal.mono hB.size
        have hsz : w.heap.size < wr.heap.size := Nat.lt_of_lt_of_le hz hB.size
        have hWs : W.heap.size ≤ W1.heap.size := Nat.le_trans hB.size hal.size
        have c1 := kept hal hsz a1
        have c2 := kept hal hsz a2
        have c3 := kept hal hsz a3
        have hbl : b < W1.heap.size := Nat.lt_of_lt_of_le hb hal.size
        have hgl : wr.heap.size < W1.heap.size := by rw [hW1]; simp
        have g0 : W1.cell? ⟨wr.heap.size, 0, none⟩ = some (.string allow[k].t) := by rw [hW1]; simp
        have g1 : W1.cell? ⟨wr.heap.size, 1, none⟩ = some (.string allow[k].s) := by rw [hW1]; simp
        have HR1 : Hid (∀ (i : Nat) (h : i < allow.length), At2 W1 b (off + i * 2) allow[i]) := fun i hi => (HR.out i hi).same fun o => hal.cell (p := ⟨b, o, none⟩) hb
        cases hn : nameB allow[k].t with
        | false =>
          have HN : Hid (upA allow allow.length = false) := upA_bad allow k hlt (by simp [alB, hn]) _ hlt
          go_wp2_with (go_at_call 20; refine (specName_any _ _ (by assumption)).mono ?_; rintro e w' ⟨rfl, rfl⟩)
          go_ret
          exact ⟨ret_bool (by simp [nodeB, allowB, HN.out]), HB0.out.trans ((hB.trans ((Below.refl _ _).alloc hB.size _)).mono HB0.out.size)⟩
        | true =>
          cases he : allow[k].s.toList.isEmpty with
          | true =>
            have HAl : Hid (alB allow[k] = true) := by show _ = _; simp [alB, setB', hn, he]
            go_wp2_with (go_at_call 20; refine (specName_any _ _ (by assumption)).mono ?_; rintro e w' ⟨rfl, rfl⟩)
            rw [← hW1]
            go_loopw [6] (fun i w2 => ∃ j : Nat, j ≤ k ∧ i = .int .i64 j ∧ Hid (inPre allow j allow[k] = false) ∧ Below W1.heap.size W1 w2) (fun i _ => k - (intOf i).toNat)
            case atStart => exact ⟨0, Nat.zero_le _, rfl, inPre_zero _ _, Below.refl _ _⟩
            case round =>
              obtain ⟨j, hj, rfl, HP, hB2⟩ := hrel
              rename_i w2 _
              have d1 := kept hB2 (by omega) c1
              have d2 := kept hB2 (by omega) c2
              have d3 := kept hB2 (by omega) c3
              have p0 := kept hB2 hgl g0
              have p1 := kept hB2 hgl g1
              by_cases hjk : j < k
              · obtain ⟨q0, q1⟩ := (HR1.out j (by omega)).same fun o => hB2.cell (p := ⟨b, o, none⟩) hbl
                have hj1 : (0 : Int) ≤ (j : Int) := by omega
                have hj2 : (j : Int) < (allow.length : Int) := by omega
                cases hq : alEq allow[j] allow[k] with
                | true =>
                  have HE := al_eql allow[j] allow[k] hq
                  have HN : Hid (upA allow allow.length = false) := upA_bad allow k hlt (by rw [(inPre_hit hjk (by omega) hq)]; simp) _ hlt
                  go_wp2_with fail
                  go_quiet (fail)
                  go_wp2
                  go_ret
                  exact ⟨ret_bool (by simp [nodeB, allowB, HN.out]), HB0.out.trans ((hB.trans (hBW1.trans (hB2.mono (by omega)))).mono HB0.out.size |> fun h => below_drewN h _)⟩
                | false =>
                  have HE := al_eql allow[j] allow[k] hq
                  have HP2 : Hid (inPre allow (j + 1) allow[k] = false) := by show _ = _; rw [inPre_succ _ _ _ (by omega), HP.out, hq]; rfl
                  go_wp2_with fail
                  go_quiet (fail)
                  go_wp2
                  go_roundw
                  case rel => exact ⟨j + 1, by omega, by go_num, HP2, below_drewN hB2 _⟩
                  case measure => simp [intOf]; omega
              · obtain rfl : j = k := by omega
                have HU2 : Hid (upA allow (j + 1) = true) := by show _ = _; rw [upA_succ _ _ hlt, HU.out, HAl.out, HP.out]; rfl
                go_wp2
                go_roundw
                case rel => exact ⟨j + 1, by omega, by go_num, HU2, hB.trans (hBW1.trans (hB2.mono (by omega)))⟩
                case measure => simp [intOf]; omega
          | false =>
            cases hm : nameB allow[k].s with
            | false =>
              have HN : Hid (upA allow allow.length = false) := upA_bad allow k hlt (by simp [alB, hn, setB', he, hm]) _ hlt
              go_wp2_with (go_at_call 20; refine (specName_any _ _ (by assumption)).mono ?_; rintro e w' ⟨rfl, rfl⟩)
              go_ret
              exact ⟨ret_bool (by simp [nodeB, allowB, HN.out]), HB0.out.trans ((hB.trans ((Below.refl _ _).alloc hB.size _)).mono HB0.out.size)⟩
            | true =>
              have HAl : Hid (alB allow[k] = true) := by show _ = _; simp [alB, setB', hn, he, hm]
              go_wp2_with (go_at_call 20; refine (specName_any _ _ (by assumption)).mono ?_; rintro e w' ⟨rfl, rfl⟩)
              rw [← hW1]
              go_loopw [6] (fun i w2 => ∃ j : Nat, j ≤ k ∧ i = .int .i64 j ∧ Hid (inPre allow j allow[k] = false) ∧ Below W1.heap.size W1 w2) (fun i _ => k - (intOf i).toNat)
              case atStart => exact ⟨0, Nat.zero_le _, rfl, inPre_zero _ _, Below.refl _ _⟩
              case round =>
                obtain ⟨j, hj, rfl, HP, hB2⟩ := hrel
                rename_i w2 _
                have d1 := kept hB2 (by omega) c1
                have d2 := kept hB2 (by omega) c2
                have d3 := kept hB2 (by omega) c3
                have p0 := kept hB2 hgl g0
                have p1 := kept hB2 hgl g1
                by_cases hjk : j < k
                · obtain ⟨q0, q1⟩ := (HR1.out j (by omega)).same fun o => hB2.cell (p := ⟨b, o, none⟩) hbl
                  have hj1 : (0 : Int) ≤ (j : Int) := by omega
                  have hj2 : (j : Int) < (allow.length : Int) := by omega
                  cases hq : alEq allow[j] allow[k] with
                  | true =>
                    have HE := al_eql allow[j] allow[k] hq
                    have HN : Hid (upA allow allow.length = false) := upA_bad allow k hlt (by rw [(inPre_hit hjk (by omega) hq)]; simp) _ hlt
                    go_wp2_with fail
                    go_quiet (fail)
                    go_wp2
                    go_ret
                    exact ⟨ret_bool (by simp [nodeB, allowB, HN.out]), HB0.out.trans ((hB.trans (hBW1.trans (hB2.mono (by omega)))).mono HB0.out.size |> fun h => below_drewN h _)⟩
                  | false =>
                    have HE := al_eql allow[j] allow[k] hq
                    have HP2 : Hid (inPre allow (j + 1) allow[k] = false) := by show _ = _; rw [inPre_succ _ _ _ (by omega), HP.out, hq]; rfl
                    go_wp2_with fail
                    go_quiet (fail)
                    go_wp2
                    go_roundw
                    case rel => exact ⟨j + 1, by omega, by go_num, HP2, below_drewN hB2 _⟩
                    case measure => simp [intOf]; omega
                · obtain rfl : j = k := by omega
                  have HU2 : Hid (upA allow (j + 1) = true) := by show _ = _; rw [upA_succ _ _ hlt, HU.out, HAl.out, HP.out]; rfl
                  go_wp2
                  go_roundw
                  case rel => exact ⟨j + 1, by omega, by go_num, HU2, hB.trans (hBW1.trans (hB2.mono (by omega)))⟩
                  case measure => simp [intOf]; omega
      · obtain rfl : k = allow.length := by omega
        have HAW : Hid (allowB allow = true) := by show _ = _; simp [allowB, hl1, hl2, HU.out]
        go_wp2
        all_goals go_ret
        all_goals exact ⟨ret_bool (by first | (simp [nodeB, HAW.out, *]; done) | (simp [nodeB, HAW.out, *]; rw [Bool.eq_iff_iff]; simp; done)), HB0.out.trans (hB.mono HB0.out.size)⟩
  · go_enter Tryz.func78, Tryz.ntmps78
    go_wp2_with fail
    all_goals go_ret
    all_goals exact ⟨ret_bool (by simp [nodeB, allowB]; omega), (Below.refl w.heap.size w).alloc (Nat.le_refl _) _⟩

theorem l2NodeOk_any (r : ER) (w : World) (hf : r.e.fits) (hok : r.ok w) :
    Calls Tryz.prog 78 #[r.val] w fun e w' => e = .returned (.bool (nodeB r.e)) ∧ Below w.heap.size w w' := by
  by_cases h : r.e.kind = 1
  · exact l2NodeOk_this r w hf hok h
  · exact l2NodeOk_plain r w hf h

end Go.Proofs.YtmghabcaakgjiaaGreat
