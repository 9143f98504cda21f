/- The contract of the document's walk over a tree, and of its look at a whole expression. -/
import Derived.Test.YtmghabcaakgjiaaGreatSpecExpr
namespace Go.Proofs.YtmghabcaakgjiaaGreat
open Go.ChangeShapes Go.WideShapes Go.ChangeAt Go.RowKit
open Pl

theorem kidsAt_exs (rs : List ER) (n : Nat) (h : n < rs.length) : kidsAt (exs rs) n = rs[n].e.kids := by simp [kidsAt, exs, h]

set_option maxHeartbeats 2000000 in
theorem l2Tree_any (b off cap : Nat) (rs : List ER) (hlen : rs.length ≤ 1048576) (hl : ∀ r ∈ rs, r.e.light) (n : Nat) : ∀ (w : World), n < rs.length → b < w.heap.size → (∀ (i : Nat) (h : i < rs.length), At5 w b (off + i * 5) rs[i]) → (∀ r ∈ rs, r.ok w) →
    Calls Tryz.prog 80 #[.slice (some ⟨b, off, none⟩) rs.length cap, .int .i64 (n : Int)] w fun e w' => e = .returned (.int .i64 (treeAt (exs rs) n)) ∧ Below w.heap.size w w' := by
  induction n using Nat.strongRecOn with
  | ind n ih =>
    intro w hn hb hr hok
    have IH : Hid (∀ m, m < n → ∀ (w : World), m < rs.length → b < w.heap.size → (∀ (i : Nat) (h : i < rs.length), At5 w b (off + i * 5) rs[i]) → (∀ r ∈ rs, r.ok w) →
      Calls Tryz.prog 80 #[.slice (some ⟨b, off, none⟩) rs.length cap, .int .i64 (m : Int)] w fun e w' => e = .returned (.int .i64 (treeAt (exs rs) m)) ∧ Below w.heap.size w w') := ih
    have HR : Hid (∀ (i : Nat) (h : i < rs.length), At5 w b (off + i * 5) rs[i]) := hr
    have HO : Hid (∀ r ∈ rs, r.ok w) := hok
    obtain ⟨t0, t1, t2, t3, t4⟩ := hr n hn
    obtain ⟨l1, l2⟩ := hl rs[n] (List.getElem_mem hn)
    have hn1 : (0 : Int) ≤ (n : Int) := by omega
    have hn2 : (n : Int) < (rs.length : Int) := by omega
    have HT : Hid (treeAt (exs rs) n = treeGo (treeF (exs rs) n) rs[n].e.kids.reverse ((n : Int) - 1)) := by show _ = _; rw [treeAt_eq, kidsAt_exs rs n hn]
    have HL : Hid (∀ r ∈ rs, r.e.light) := hl
    clear ih hr hok hl l1
    go_enter Tryz.func80, Tryz.ntmps80
    go_wp2_with fail
    go_loopw [5, 6] (fun a i wr => ∃ (j : Nat) (x : Int), j ≤ rs[n].e.kids.length ∧ i = .int .i64 ((j : Int) - 1) ∧ a = .int .i64 x ∧ -1 ≤ x ∧ x < n ∧ Hid (treeGo (treeF (exs rs) n) (rs[n].e.kids.take j).reverse x = treeAt (exs rs) n) ∧ Below w.heap.size w wr) (fun _ i _ => (intOf i + 1).toNat)
    case atStart => exact ⟨rs[n].e.kids.length, (n : Int) - 1, Nat.le_refl _, rfl, rfl, by omega, by omega, (by show _ = _; rw [List.take_length]; exact HT.out.symm), Below.refl _ _⟩
    case round =>
      obtain ⟨j, x, hj, rfl, rfl, hx0, hx1, HG, hB⟩ := hrel
      have s4 := kept hB hb t4
      by_cases hj0 : 0 < j
      · obtain ⟨j, rfl⟩ : ∃ i, j = i + 1 := ⟨j - 1, by omega⟩
        have hjl : j < rs[n].e.kids.length := by omega
        rcases (HO.out rs[n] (List.getElem_mem hn)).2.below hB with hnil | ⟨bk, offk, hadk, hbk, hrk⟩
        · rw [hnil] at hjl; simp at hjl
        rw [hadk] at s4
        have k0 := hrk j hjl
        clear hrk
        have hji : ((j + 1 : Nat) : Int) - 1 = (j : Int) := by omega
        have hj1 : (0 : Int) ≤ (j : Int) := by omega
        have hj2 : (j : Int) < (rs[n].e.kids.length : Int) := by omega
        have HG2 : Hid ((if x < 0 ∨ rs[n].e.kids[j] ≠ x then -1 else if treeF (exs rs) n x < 0 then -1 else treeGo (treeF (exs rs) n) (rs[n].e.kids.take j).reverse (treeF (exs rs) n x - 1)) = treeAt (exs rs) n) := by
          have := HG.out
          rw [List.take_succ_eq_append_getElem hjl, List.reverse_append] at this
          exact this
        rw [hji]
        clear HG hadk t0 t1 t2 t3 t4
        by_cases hxn : x < 0
        · have HT1 : Hid (treeAt (exs rs) n = -1) := by show _ = _; rw [← HG2.out, if_pos (Or.inl hxn)]
          go_wp2
          go_ret
          exact ⟨by rw [HT1.out]; rfl, hB⟩
        by_cases hkx : rs[n].e.kids[j] = x
        · obtain ⟨m, rfl⟩ : ∃ m : Nat, x = (m : Int) := ⟨x.toNat, by omega⟩
          have hF : treeF (exs rs) n (m : Int) = treeAt (exs rs) m := by unfold treeF; rw [if_pos ⟨by omega, by simp; omega⟩]; simp
          have HF : Hid (treeF (exs rs) n (m : Int) = treeAt (exs rs) m) := hF
          have hle := treeAt_le (exs rs) m
          clear hF
          go_wp2_with fail
          refine (IH.out m (by omega) _ (by omega) (Nat.lt_of_lt_of_le hb hB.size) (fun i hi => (HR.out i hi).same fun o => hB.cell (p := ⟨b, o, none⟩) hb) (fun r hr => (HO.out r hr).below hB)).mono ?_
          rintro e w1 ⟨rfl, hb1⟩
          have hB1 : Below w.heap.size w w1 := hB.trans (hb1.mono hB.size)
          clear hb1
          by_cases hneg : treeAt (exs rs) m < 0
          · have HT1 : Hid (treeAt (exs rs) n = -1) := by show _ = _; rw [← HG2.out, if_neg (by omega), HF.out, if_pos hneg]
            go_wp2
            go_ret
            exact ⟨by rw [HT1.out]; rfl, hB1⟩
          · have HG3 : Hid (treeGo (treeF (exs rs) n) (rs[n].e.kids.take j).reverse (treeAt (exs rs) m - 1) = treeAt (exs rs) n) := by
              show _ = _
              rw [← HG2.out, if_neg (by omega), HF.out, if_neg hneg]
            go_wp2
            go_roundw
            case rel => exact ⟨j, treeAt (exs rs) m - 1, by omega, by go_num, rfl, by omega, by omega, HG3, hB1⟩
            case measure => first | (simp [intOf]; done) | (simp [intOf]; omega)
        · have HT1 : Hid (treeAt (exs rs) n = -1) := by show _ = _; rw [← HG2.out, if_pos (Or.inr hkx)]
          go_wp2
          go_ret
          exact ⟨by rw [HT1.out]; rfl, hB⟩
      · obtain rfl : j = 0 := by omega
        have HT1 : Hid (treeAt (exs rs) n = x + 1) := by show _ = _; have := HG.out; simp [treeGo] at this; exact this.symm
        clear HG t0 t1 t2 t3 t4
        go_wp2
        go_ret
        exact ⟨by rw [HT1.out]; rfl, hB⟩

theorem At5.later {w w' : World} {b off : Nat} {r : ER} (h : At5 w b off r) (hb : b < w.heap.size) (hB : Below w.heap.size w w') : At5 w' b off r := h.same fun o => hB.cell (p := ⟨b, o, none⟩) hb

theorem specE_no1 {es : List Ex} (h : ¬ (1 ≤ es.length ∧ es.length ≤ 15)) : specE es = false := by
  unfold specE
  by_cases h1 : 1 ≤ es.length
  · have h2 : ¬ es.length ≤ 15 := fun h2 => h ⟨h1, h2⟩
    simp [h2]
  · simp [h1]
theorem specE_node {es : List Ex} (k : Nat) (h : k < es.length) (hb : nodeB es[k] = false) : specE es = false := by simp [specE, nodes_bad es k h hb]
theorem specE_kids {es : List Ex} (k : Nat) (h : k < es.length) (hb : kidsIn es k = false) : specE es = false := by simp [specE, kids_bad es k h hb]

/-- a node's first j kids lie ahead of it -/
def kidsPre (zs : List Int) (i j : Nat) : Bool := (zs.take j).all fun k => decide (0 ≤ k) && decide (k ≤ (i : Int) - 1)
theorem kidsPre_succ (zs : List Int) (i j : Nat) (h : j < zs.length) : kidsPre zs i (j + 1) = (kidsPre zs i j && (decide (0 ≤ zs[j]) && decide (zs[j] ≤ (i : Int) - 1))) := by
  unfold kidsPre; rw [List.take_succ_eq_append_getElem h, List.all_append]; simp
theorem kidsPre_bad (zs : List Int) (i j : Nat) (h : j < zs.length) (hb : (decide (0 ≤ zs[j]) && decide (zs[j] ≤ (i : Int) - 1)) = false) : (zs.all fun k => decide (0 ≤ k) && decide (k ≤ (i : Int) - 1)) = false := by
  rw [Bool.eq_false_iff]; intro h2; rw [List.all_eq_true] at h2; have := h2 zs[j] (List.getElem_mem h); rw [hb] at this; cases this

set_option maxRecDepth 4000 in
set_option maxHeartbeats 4000000 in
theorem specExprOk_row (b off cap : Nat) (rs : List ER) (w : World) (hlen : rs.length ≤ 1048576) (hl : ∀ r ∈ rs, r.e.light) (hf : ∀ r ∈ rs, r.e.fits) (hb : b < w.heap.size) (hr : ∀ (i : Nat) (h : i < rs.length), At5 w b (off + i * 5) rs[i]) (hok : ∀ r ∈ rs, r.ok w) :
    Calls Tryz.prog 54 #[.slice (some ⟨b, off, none⟩) rs.length cap] w fun e w' => e = .returned (.bool (specE (exs rs))) ∧ Below w.heap.size w w' := by
  have hel := exs_len rs
  have HEL : Hid ((exs rs).length = rs.length) := hel
  have HL : Hid (∀ r ∈ rs, r.e.light) := hl
  have HF : Hid (∀ r ∈ rs, r.e.fits) := hf
  have HR : Hid (∀ (i : Nat) (h : i < rs.length), At5 w b (off + i * 5) rs[i]) := hr
  have HO : Hid (∀ r ∈ rs, r.ok w) := hok
  clear hel hl hf hr hok
  by_cases hn : 1 ≤ rs.length ∧ rs.length ≤ 15
  · obtain ⟨hn1, hn2⟩ := hn
    go_enter Tryz.func54, Tryz.ntmps54
    go_wp2_with fail
    go_loopw [3, 4] (fun o i wr => ∃ k : Nat, k ≤ rs.length ∧ i = .int .i64 k ∧ o = .int .i64 (ownUp (exs rs) k : Nat) ∧ Hid (nodesUp (exs rs) k = true ∧ kidsUp (exs rs) k = true) ∧ Below w.heap.size w wr) (fun _ i _ => rs.length - (intOf i).toNat)
    case atStart => exact ⟨0, Nat.zero_le _, rfl, rfl, ⟨by simp [nodesUp], by simp [kidsUp]⟩, Below.refl _ _⟩
    case round =>
      obtain ⟨k, hk, rfl, rfl, HU, hB⟩ := hrel
      by_cases hlt : k < rs.length
      · have hltE : k < (exs rs).length := by rw [HEL.out]; exact hlt
        have hek : (exs rs)[k] = rs[k].e := by simp [exs]
        have HEK : Hid ((exs rs)[k] = rs[k].e) := hek
        obtain ⟨t0, t1, t2, t3, t4⟩ := (HR.out k hlt).later hb hB
        clear hek
        have hk1 : (0 : Int) ≤ (k : Int) := by omega
        have hk2 : (k : Int) < (rs.length : Int) := by omega
        have hol := ownUp_le (exs rs) k
        go_wp2_with fail
        refine (l2NodeOk_any rs[k] _ (HF.out _ (List.getElem_mem hlt)) ((HO.out _ (List.getElem_mem hlt)).below hB)).mono ?_
        rintro e w1 ⟨rfl, hb1⟩
        cases hnode : nodeB rs[k].e with
        | false =>
          have HN : Hid (specE (exs rs) = false) := specE_node k hltE (by rw [HEK.out]; exact hnode)
          go_wp2
          go_ret
          exact ⟨by rw [HN.out]; rfl, hB.trans (hb1.mono hB.size)⟩
        | true =>
          have hB1 : Below w.heap.size w w1 := hB.trans (hb1.mono hB.size)
          have hbw : b < wr.heap.size := Nat.lt_of_lt_of_le hb hB.size
          replace t0 := kept hb1 hbw t0
          replace t4 := kept hb1 hbw t4
          have hbw1 : b < w1.heap.size := Nat.lt_of_lt_of_le hbw hb1.size
          clear t1 t2 t3 hb1 hB hbw
          go_wp2_with fail
          go_loopw [5] (fun i w2 => ∃ j : Nat, j ≤ rs[k].e.kids.length ∧ i = .int .i64 j ∧ Hid (kidsPre rs[k].e.kids k j = true) ∧ w2 = w1) (fun i _ => rs[k].e.kids.length - (intOf i).toNat)
          case atStart => exact ⟨0, Nat.zero_le _, rfl, (by show _ = _; simp [kidsPre]), rfl⟩
          case round =>
            obtain ⟨j, hj, rfl, HP, rfl⟩ := hrel
            by_cases hjl : j < rs[k].e.kids.length
            · rcases (HO.out rs[k] (List.getElem_mem hlt)).2.below hB1 with hnil | ⟨bk, offk, hadk, hbk, hrk⟩
              · rw [hnil] at hjl; simp at hjl
              have t4' := t4
              rw [hadk] at t4'
              have k0 := hrk j hjl
              have hj1 : (0 : Int) ≤ (j : Int) := by omega
              have hj2 : (j : Int) < (rs[k].e.kids.length : Int) := by omega
              obtain ⟨-, lk⟩ := HL.out rs[k] (List.getElem_mem hlt)
              clear hrk hadk t4
              go_wp2_with fail
              refine (l1In_any _ _ _ _).mono ?_
              rintro e w' ⟨rfl, rfl⟩
              cases hin : (decide (0 ≤ rs[k].e.kids[j]) && decide (rs[k].e.kids[j] ≤ (k : Int) - 1)) with
              | false =>
                have HN : Hid (specE (exs rs) = false) := specE_kids k hltE (by unfold kidsIn; rw [kidsAt_exs rs k hlt]; exact kidsPre_bad _ k j hjl hin)
                go_wp2
                go_ret
                exact ⟨by rw [HN.out]; rfl, hB1⟩
              | true =>
                have HP2 : Hid (kidsPre rs[k].e.kids k (j + 1) = true) := by show _ = _; rw [kidsPre_succ _ _ _ hjl, HP.out, hin]; rfl
                go_wp2
                go_roundw
                case rel => exact ⟨j + 1, by omega, by go_num, HP2, by first | rfl | trivial⟩
                case measure => first | (simp [intOf]; done) | (simp [intOf]; omega)
            · obtain rfl : j = rs[k].e.kids.length := by omega
              have HU2 : Hid (nodesUp (exs rs) (k + 1) = true ∧ kidsUp (exs rs) (k + 1) = true) := by
                refine ⟨?_, ?_⟩
                · rw [nodesUp_succ _ _ hltE, HU.out.1, HEK.out, hnode]; rfl
                · rw [kidsUp_succ, HU.out.2]
                  unfold kidsIn
                  rw [kidsAt_exs rs k hlt]
                  have := HP.out
                  unfold kidsPre at this
                  rw [List.take_length] at this
                  rw [this]; rfl
              have HOW : Hid (ownUp (exs rs) (k + 1) = ownUp (exs rs) k + (if rs[k].e.kind = 1 then 1 else 0)) := by show _ = _; rw [ownUp_succ _ _ hltE, HEK.out]
              by_cases hk1' : rs[k].e.kind = 1
              · have HOW2 : Hid (ownUp (exs rs) (k + 1) = ownUp (exs rs) k + 1) := by show _ = _; rw [HOW.out, if_pos hk1']
                clear HOW
                go_wp2
                go_roundw
                case rel => exact ⟨k + 1, by omega, by go_num, by rw [HOW2.out]; go_num, HU2, hB1⟩
                case measure => first | (simp [intOf]; done) | (simp [intOf]; omega)
              · have HOW2 : Hid (ownUp (exs rs) (k + 1) = ownUp (exs rs) k) := by show _ = _; rw [HOW.out, if_neg hk1']; rfl
                clear HOW
                go_wp2
                go_roundw
                case rel => exact ⟨k + 1, by omega, by go_num, by rw [HOW2.out], HU2, hB1⟩
                case measure => first | (simp [intOf]; done) | (simp [intOf]; omega)
      · obtain rfl : k = rs.length := by omega
        have HN : Hid ((exs rs).all nodeB = true) := by
          have := HU.out.1
          unfold nodesUp at this
          rwa [← HEL.out, List.take_length] at this
        have HKU : Hid (kidsUp (exs rs) rs.length = true) := HU.out.2
        have HOW : Hid (ownUp (exs rs) rs.length = own (exs rs)) := by show _ = _; unfold ownUp; rw [← HEL.out, List.take_length]
        have hol := ownUp_le (exs rs) rs.length
        by_cases ho : ownUp (exs rs) rs.length ≤ 1
        · have HS : Hid (specE (exs rs) = decide (treeAt (exs rs) (rs.length - 1) = 0)) := by
            show _ = _
            have h1 : own (exs rs) ≤ 1 := by rw [← HOW.out]; exact ho
            have e1 := HEL.out
            unfold specE
            rw [e1, HN.out, HKU.out]
            simp [h1, hn1, hn2]
          have hcast : ((rs.length : Int) - 1) = ((rs.length - 1 : Nat) : Int) := by omega
          have HCA : Hid (((rs.length : Int) - 1) = ((rs.length - 1 : Nat) : Int)) := hcast
          clear hcast
          go_wp2_with fail
          rw [HCA.out]
          refine (l2Tree_any b off cap rs hlen HL.out (rs.length - 1) _ (by omega) (Nat.lt_of_lt_of_le hb hB.size) (fun i hi => (HR.out i hi).later hb hB) (fun r hr => (HO.out r hr).below hB)).mono ?_
          rintro e w1 ⟨rfl, hb1⟩
          go_wp2
          go_ret
          exact ⟨by rw [HS.out]; exact ret_bool (by rw [Bool.eq_iff_iff]; simp), hB.trans (hb1.mono hB.size)⟩
        · have HS : Hid (specE (exs rs) = false) := by
            show _ = _
            have h1 : ¬ own (exs rs) ≤ 1 := by rw [← HOW.out]; exact ho
            simp [specE, h1]
          go_wp2
          go_ret
          exact ⟨by rw [HS.out]; rfl, hB⟩
  · have HN : Hid (specE (exs rs) = false) := specE_no1 (by rw [HEL.out]; exact hn)
    go_enter Tryz.func54, Tryz.ntmps54
    go_wp2_with fail
    all_goals go_ret
    all_goals exact ⟨by rw [HN.out]; rfl, Below.refl _ _⟩

theorem specExprOk_any (ad : Option Addr) (cap : Nat) (rs : List ER) (w : World) (hlen : rs.length ≤ 1048576) (hl : ∀ r ∈ rs, r.e.light) (hf : ∀ r ∈ rs, r.e.fits) (hs : SlE w ad rs) :
    Calls Tryz.prog 54 #[.slice ad rs.length cap] w fun e w' => e = .returned (.bool (specE (exs rs))) ∧ Below w.heap.size w w' := by
  rcases hs with rfl | ⟨b, off, rfl, hb, hr, hok⟩
  · go_enter Tryz.func54, Tryz.ntmps54
    go_wp2_with fail
    go_ret
    exact ⟨rfl, Below.refl _ _⟩
  · exact specExprOk_row b off cap rs w hlen hl hf hb hr hok

end Go.Proofs.YtmghabcaakgjiaaGreat
