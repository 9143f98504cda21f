/- Contract of the program's reader: one more node. -/
import Derived.Test.YtjmbgpdbnffkpaaIRdMem
namespace Go.Proofs.Ytjmbgpdbnffkpaa
set_option maxRecDepth 100000
set_option linter.unusedVariables false
open Go.ChangeShapes Go.WideShapes Go.ChangeAt Go.RowKit
open Pl

/-- what the world says while a node is added -/
structure GI (R : Nat) (s : ByteArray) (p : Nat) (v : Value) (base n : Nat) (xs : List Value) (q : ER) (w : World) (listed : Array Bool) (w' : World) : Prop where
  rd : RdI w' R s p v
  box : Five w' w.heap.size q
  onl : Onl R v w w'
  own : listed.getD 7 false = false → w'.ownsRow base 56 5 v n xs
  small : listed.getD 6 false = false → w'.heap.size = w.heap.size + 1
theorem GI.step {R : Nat} {s : ByteArray} {p : Nat} {v : Value} {base n : Nat} {xs : List Value} {q : ER} {w w' : World} {listed : Array Bool} (h : GI R s p v base n xs q w listed w') {i : Nat} (hls : listed.size = 11) (h6 : i ≠ 6) (h7 : i ≠ 7) : GI R s p v base n xs q w (listed.setIfInBounds i true) w' :=
  ⟨h.rd, h.box, h.onl, fun k => h.own (by
    by_cases hi : i < 11
    · rw [getF_set' _ _ _ (by omega), if_neg (Ne.symm h7)] at k; exact k
    · rw [show listed.setIfInBounds i true = listed by rw [Array.setIfInBounds_eq_of_size_le (by omega)]] at k; exact k), fun k => h.small (by
    by_cases hi : i < 11
    · rw [getF_set' _ _ _ (by omega), if_neg (Ne.symm h6)] at k; exact k
    · rw [show listed.setIfInBounds i true = listed by rw [Array.setIfInBounds_eq_of_size_le (by omega)]] at k; exact k)⟩
theorem GI.made {R : Nat} {s : ByteArray} {p : Nat} {v : Value} {base n : Nat} {xs : List Value} {q : ER} {w w' : World} {listed : Array Bool} (h : GI R s p v base n xs q w listed w') {i : Nat} (hls : listed.size = 11) {o : Obj} (hi : i = 6 := by rfl) : GI R s p v base n xs q w (listed.setIfInBounds i true) (w'.alloc o) := by
  subst hi
  have hg := World.grownBy_alloc w' o none
  refine ⟨h.rd.grown hg (by simp), h.box.grown hg (by simp), h.onl.grown hg (by simp), fun k => (h.own ?_).alloc _, fun k => ?_⟩
  · rw [getF_set' _ _ _ (by omega), if_neg (by omega)] at k; exact k
  · rw [getF_set' _ _ _ (by omega), if_pos rfl] at k; cases k
theorem GI.appended {R : Nat} {s : ByteArray} {p : Nat} {v : Value} {base n : Nat} {xs : List Value} {q : ER} {w w' w'' : World} {listed : Array Bool} (h : GI R s p v base n xs q w listed w') (hls : listed.size = 11) (hg : w'.grownBy w'' v.ownBlock) (hR : v.ownBlock ≠ some R) (hX : v.ownBlock ≠ some w.heap.size) (hb6 : w.heap.size + 1 < w'.heap.size) : GI R s p v base n xs q w (listed.setIfInBounds 7 true) w'' := by
  refine ⟨h.rd.grown hg (Ne.symm hR), h.box.grown hg (Ne.symm hX), h.onl.grown hg (fun k _ _ h2 => Ne.symm h2), fun k => ?_, fun k => ?_⟩
  · rw [getF_set' _ _ _ (by omega), if_pos rfl] at k; cases k
  · rw [getF_set' _ _ _ (by omega), if_neg (by omega)] at k; have := h.small k; omega
set_option maxHeartbeats 4000000 in
theorem put_any (R : Nat) (s : ByteArray) (p : Nat) (v : Value) (base n : Nat) (xs : List Value) (q : ER) (w : World) (h : RdI w R s p v) (hown : w.ownsRow base 56 5 v n xs) (hR : R < base) (hB : base ≤ w.heap.size) (hn : n ≤ 100000) :
    Calls Try.prog 96 #[.pointer (some ⟨R, 0, none⟩), q.val] w fun e w' => ∃ (g cap : Nat), e = .returned (.int .i64 (n : Int)) ∧ RdI w' R s p (.slice (some ⟨g, 0, none⟩) (n + 1) cap) ∧ w'.ownsRow base 56 5 (.slice (some ⟨g, 0, none⟩) (n + 1) cap) (n + 1) (xs ++ q.row) ∧ Onl R v w w' ∧ (v.ownBlock = some g ∨ w.heap.size ≤ g) := by
  obtain ⟨iT, hiT, zT0, zT1, zT2⟩ := info_parts (P := Try.prog) (e := 56) (z := .agg #[.int .i64 0, .slice none 0 0, .string ⟨#[]⟩, .string ⟨#[]⟩, .slice none 0 0]) (size := 5) (bytes := 88) (by kernel_rfl)
  have HIT := toHid (And.intro hiT (And.intro zT0 (And.intro zT1 zT2)))
  have H := toHid h
  have HO := toHid hown
  have hlt := h.lt
  clear h hown hiT zT0 zT1 zT2
  have hne : v.ownBlock ≠ some R := fun e => by have := (HO.out.lt R e).1; omega
  have HNE := toHid hne
  have HNX : Hid (v.ownBlock ≠ some w.heap.size) := fun e => by have := (HO.out.lt _ e).2; omega
  have HNX1 : Hid (v.ownBlock ≠ some (w.heap.size + 1)) := fun e => by have := (HO.out.lt _ e).2; omega
  clear hne
  unfold ER.val
  obtain ⟨W0, hW0⟩ : ∃ W0, W0 = w.alloc (.cells #[.int .i64 q.e.kind, .slice q.adA q.e.allow.length q.capA, .string q.e.over, .string q.e.name, .slice q.adK q.e.kids.length q.capK] 56) := ⟨_, rfl⟩
  have HG0 : Hid (GI R s p v base n xs q w (Array.replicate 11 false) W0.drew) := by
    have hg := World.grownBy_alloc w (.cells #[.int .i64 q.e.kind, .slice q.adA q.e.allow.length q.capA, .string q.e.over, .string q.e.name, .slice q.adK q.e.kids.length q.capK] 56) none
    show GI _ _ _ _ _ _ _ _ _ _ _
    rw [hW0]
    refine ⟨(H.out.grown hg (by simp)).drewN 1, ⟨?_, ?_, ?_, ?_, ?_, ?_⟩, ⟨rfl, rfl, rfl, by simp [World.drew], fun k hk _ _ => hg.block k hk (by simp)⟩, fun _ => (HO.out.alloc _).drew, fun _ => by simp [World.drew]⟩ <;> simp
  go_enter Try.func96, Try.ntmps96
  go_wp2_with fail
  rw [← hW0]
  clear hW0
  refine wp_region_midT 10 (fun _ => undef) (fun f => { tmps := List.toArray (Value.pointer (some ⟨R, 0, none⟩) :: Value.agg #[.int .i64 q.e.kind, .slice q.adA q.e.allow.length q.capA, .string q.e.over, .string q.e.name, .slice q.adK q.e.kids.length q.capK] :: undef :: Value.pointer (some ⟨w.heap.size, 0, none⟩) :: Value.int .i64 0 :: f 0 :: f 1 :: f 2 :: f 3 :: f 4 :: f 5 :: f 6 :: f 7 :: f 8 :: f 9 :: undef :: undef :: undef :: undef :: undef :: undef :: []), defers := [] }) (VA (Value.pointer (some ⟨R, 0, none⟩) :: Value.pointer (some ⟨R, 0, none⟩) :: Value.pointer (some ⟨R, 0, none⟩) :: Value.pointer (some ⟨R, 1, none⟩) :: v :: Value.agg #[.int .i64 q.e.kind, .slice q.adA q.e.allow.length q.capA, .string q.e.over, .string q.e.name, .slice q.adK q.e.kids.length q.capK] :: Value.slice (some ⟨w.heap.size + 1, 0, none⟩) 1 1 :: undef :: Value.pointer (some ⟨R, 0, none⟩) :: Value.pointer (some ⟨R, 1, none⟩) :: []) base n v q xs w) (GI R s p v base n xs q w) (by kernel_rfl) rfl (by decide +kernel) (by decide +kernel) rfl HG0.out ?stepA ?finA
  case stepA =>
    rintro i hi o ho listed f w' hls hli hG hpre
    have HG := toHid hG
    have HM : Hid (∀ e ∈ o.after, Region.binds .any e = true → _) := hpre
    clear hG hpre
    have hc : i = 0 ∨ i = 1 ∨ i = 2 ∨ i = 3 ∨ i = 4 ∨ i = 5 ∨ i = 6 ∨ i = 7 ∨ i = 8 ∨ i = 9 := by omega
    clear hi
    rcases hc with rfl | rfl | rfl | rfl | rfl | rfl | rfl | rfl | rfl | rfl
    · obtain rfl := Option.some.inj ho
      have HS := toHid (HG.out.step (i := 0) hls (by decide) (by decide))
      refine wpOp_hid rfl fun K HK => ?_
      clear ho HM
      dsimp only
      go_simp
      exact HK.out _ _ ⟨Value.pointer (some ⟨R, 0, none⟩), by simp [upd], HS.out, VA.at (by decide) rfl, fun k u _ hu => hu⟩
    · obtain rfl := Option.some.inj ho
      have HS := toHid (HG.out.step (i := 1) hls (by decide) (by decide))
      refine wpOp_hid rfl fun K HK => ?_
      clear ho HM
      dsimp only
      go_simp
      exact HK.out _ _ ⟨Value.pointer (some ⟨R, 0, none⟩), by simp [upd], HS.out, VA.at (by decide) rfl, fun k u _ hu => hu⟩
    · obtain rfl := Option.some.inj ho
      have e1 : f 1 = Value.pointer (some ⟨R, 0, none⟩) := (HM.out ⟨1, .data⟩ (by simp) rfl).1 (by decide)
      have HS := toHid (HG.out.step (i := 2) hls (by decide) (by decide))
      refine wpOp_hid rfl fun K HK => ?_
      clear ho HM
      simp only [e1]
      go_simp
      exact HK.out _ _ ⟨Value.pointer (some ⟨R, 0, none⟩), by simp [upd, e1], HS.out, VA.at (by decide) rfl, fun k u _ hu => hu⟩
    · obtain rfl := Option.some.inj ho
      have e2 : f 2 = Value.pointer (some ⟨R, 0, none⟩) := (HM.out ⟨2, .data⟩ (by simp) rfl).1 (by decide)
      have HS := toHid (HG.out.step (i := 3) hls (by decide) (by decide))
      refine wpOp_hid rfl fun K HK => ?_
      clear ho HM
      simp only [e2]
      go_simp
      exact HK.out _ _ ⟨Value.pointer (some ⟨R, 1, none⟩), by simp [upd, e2], HS.out, VA.at (by decide) rfl, fun k u _ hu => hu⟩
    · obtain rfl := Option.some.inj ho
      have e3 : f 3 = Value.pointer (some ⟨R, 1, none⟩) := (HM.out ⟨3, .data⟩ (by simp) rfl).1 (by decide)
      have c3 := HG.out.rd.c1
      have HS := toHid (HG.out.step (i := 4) hls (by decide) (by decide))
      refine wpOp_hid rfl fun K HK => ?_
      clear ho HM
      simp only [e3]
      go_simp
      exact HK.out _ _ ⟨v, by simp [upd, e3], HS.out, VA.at (by decide) rfl, fun k u _ hu => hu⟩
    · obtain rfl := Option.some.inj ho
      obtain ⟨x0, x1, x2, x3, x4, xl⟩ := HG.out.box
      have HS := toHid (HG.out.step (i := 5) hls (by decide) (by decide))
      refine wpOp_hid rfl fun K HK => ?_
      clear ho HM
      dsimp only
      go_simp
      exact HK.out _ _ ⟨Value.agg #[.int .i64 q.e.kind, .slice q.adA q.e.allow.length q.capA, .string q.e.over, .string q.e.name, .slice q.adK q.e.kids.length q.capK], by simp [upd], HS.out, VA.at (by decide) rfl, fun k u _ hu => hu⟩
    · obtain rfl := Option.some.inj ho
      have e5 : f 5 = Value.agg #[.int .i64 q.e.kind, .slice q.adA q.e.allow.length q.capA, .string q.e.over, .string q.e.name, .slice q.adK q.e.kids.length q.capK] := (HM.out ⟨5, .data⟩ (by simp) rfl).1 (by decide)
      have hz := HG.out.small (getTF' hli hls (by omega))
      have HS : Hid (∀ o, GI R s p v base n xs q w (listed.setIfInBounds 6 true) (w'.alloc o)) := fun o => HG.out.made (i := 6) hls
      refine wpOp_hid rfl fun K HK => ?_
      clear ho HM
      simp only [e5]
      go_simp
      exact HK.out _ _ ⟨.slice (some ⟨w'.heap.size, 0, none⟩) 1 1, by simp [upd, e5], HS.out _, ⟨fun h => absurd rfl h.1, fun _ => ⟨by rw [hz], fun j u hj => by have := row5_news w' q j u hj; rw [hz] at this; exact this, by simp; omega⟩, fun h => absurd h (by decide)⟩, VA.alloc⟩
    · obtain rfl := Option.some.inj ho
      have e4 : f 4 = v := (HM.out ⟨4, .data⟩ (by simp) rfl).1 (by decide)
      obtain ⟨e6, hnews, hb6⟩ := (HM.out ⟨6, .data⟩ (by simp) rfl).2.1 rfl
      replace e6 : f 6 = Value.slice (some ⟨w.heap.size + 1, 0, none⟩) 1 1 := e6
      have hown := HG.out.own (getTF' hli hls (by omega))
      clear ho HM
      refine wpOp_append_own _ rfl rfl _ _ 22 rfl base 56 iT (.agg #[.int .i64 0, .slice none 0 0, .string ⟨#[]⟩, .string ⟨#[]⟩, .slice none 0 0]) 5 88 Try.underlying22 HIT.out.1 HIT.out.2.1 HIT.out.2.2.1 HIT.out.2.2.2 rfl (by decide) v n xs e4 hown ⟨w.heap.size + 1, 0, none⟩ 1 1 q.row e6 rfl hnews (row5_one q) (by unfold maxLen; omega) (by omega) (by have := HG.out.onl.size; omega) ?_
      intro v7 w7 hown7 hgr7 hat7
      obtain ⟨g7, c7, rfl⟩ := ownsRow_succE hown7
      refine ⟨.slice (some ⟨g7, 0, none⟩) (n + 1) c7, by simp [upd, e4, e6, Act.put], HG.out.appended hls hgr7 HNE.out HNX.out hb6, ⟨fun h => absurd rfl h.2, fun h => absurd h (by decide), fun _ => ⟨g7, c7, rfl, hown7, ?_⟩⟩, VA.app hgr7 HNX1.out⟩
      rcases hat7 with e | e
      · exact .inl e.symm
      · simp [Value.ownBlock] at e; exact .inr (by have := HG.out.onl.size; omega)
    · obtain rfl := Option.some.inj ho
      have e0 : f 0 = Value.pointer (some ⟨R, 0, none⟩) := (HM.out ⟨0, .data⟩ (by simp) rfl).1 (by decide)
      have HS := toHid (HG.out.step (i := 8) hls (by decide) (by decide))
      refine wpOp_hid rfl fun K HK => ?_
      clear ho HM
      simp only [e0]
      go_simp
      exact HK.out _ _ ⟨Value.pointer (some ⟨R, 0, none⟩), by simp [upd, e0], HS.out, VA.at (by decide) rfl, fun k u _ hu => hu⟩
    · obtain rfl := Option.some.inj ho
      have e8 : f 8 = Value.pointer (some ⟨R, 0, none⟩) := (HM.out ⟨8, .data⟩ (by simp) rfl).1 (by decide)
      have HS := toHid (HG.out.step (i := 9) hls (by decide) (by decide))
      refine wpOp_hid rfl fun K HK => ?_
      clear ho HM
      simp only [e8]
      go_simp
      exact HK.out _ _ ⟨Value.pointer (some ⟨R, 1, none⟩), by simp [upd, e8], HS.out, VA.at (by decide) rfl, fun k u _ hu => hu⟩
  case finA =>
    rintro o ho listed f w' hG hall
    obtain rfl := Option.some.inj ho
    obtain ⟨g, cap, e7, hown7, hat⟩ := (hall 7 (by omega)).2.2 rfl
    have e9 : f 9 = Value.pointer (some ⟨R, 1, none⟩) := (hall 9 (by omega)).1 (by decide)
    have HR := toHid hG.rd
    have HN := toHid hG.onl
    have HW := toHid hown7
    have HA := toHid hat
    have c3 := hG.rd.c1
    have f3 := hG.rd.fr 1
    have hl3 := hG.rd.lt
    clear ho hall hG hown7 hat
    refine wpOp_step rfl (fun K hK => ?_)
    have HK : Hid (∀ a w, _ → K a w) := hK
    clear hK
    simp only [e7, e9]
    go_simp
    refine HK.out _ _ ?_
    clear HK
    obtain ⟨W8, hW8⟩ : ∃ W8, W8 = w'.setCell ⟨R, 1, none⟩ (.slice (some ⟨g, 0, none⟩) (n + 1) cap) := ⟨_, rfl⟩
    have HR8 : Hid (RdI W8 R s p (.slice (some ⟨g, 0, none⟩) (n + 1) cap)) := by rw [hW8]; exact HR.out.put _
    have HN8 : Hid (Onl R v w W8) := by rw [hW8]; exact HN.out.at_own _ _
    have HW8 : Hid (W8.ownsRow base 56 5 (.slice (some ⟨g, 0, none⟩) (n + 1) cap) (n + 1) (xs ++ q.row)) := by rw [hW8]; exact ownsRow_setCell_below HW.out hR _
    rw [← hW8]
    clear hW8 HR HN HW c3 f3 hl3 e7 e9
    have c3 := HR8.out.c1
    have f2 := HR8.out.fr 1
    have hl8 := HR8.out.lt
    have hwr : IntKind.i64.wrap (((n : Int) + 1) - 1) = (n : Int) := by simp [IntKind.wrap, IntKind.bits, IntKind.signed]; omega
    go_wp2
    exact bodyPost_ret (v := .int .i64 (n : Int)) (by simp [results, Try.results96, go_sem]) rfl ⟨g, cap, rfl, HR8.out, HW8.out, HN8.out, HA.out⟩
end Go.Proofs.Ytjmbgpdbnffkpaa
