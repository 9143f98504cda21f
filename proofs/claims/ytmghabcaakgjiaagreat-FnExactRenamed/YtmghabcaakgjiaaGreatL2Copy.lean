/- Contract of the document's copy of a schema: a new one that holds the same, in blocks of its own. -/
import Derived.Test.YtmghabcaakgjiaaGreatSpecPruned
namespace Go.Proofs.YtmghabcaakgjiaaGreat
set_option maxRecDepth 100000
set_option linter.unusedVariables false
open Go.ChangeShapes Go.WideShapes Go.ChangeAt Go.RowKit Go.Maps
open Pl
structure RFc (N b o b2 o2 : Nat) (v2 : Value) (tn rn : ByteArray) (rl ex : Value) (w : World) : Prop where
 n0 : w.cell? ⟨N, 0, none⟩ = some (.string tn)
 n1 : w.cell? ⟨N, 1, none⟩ = some v2
 fz : w.frozen? ⟨N, 1, none⟩ = false
 t1 : w.cell? ⟨b, o + 1, none⟩ = some rl
 r0 : w.cell? ⟨b2, o2, none⟩ = some (.string rn)
 r1 : w.cell? ⟨b2, o2 + 1, none⟩ = some ex
 lt : N < w.heap.size ∧ b2 < w.heap.size ∧ b < w.heap.size
theorem RFc.heap {N b o b2 o2 : Nat} {v2 : Value} {tn rn : ByteArray} {rl ex : Value} {w w' : World} (h : RFc N b o b2 o2 v2 tn rn rl ex w) (hs : w.heap.size ≤ w'.heap.size) (hb : ∀ g, g = N ∨ g = b2 ∨ g = b → w'.heap[g]? = w.heap[g]?) : RFc N b o b2 o2 v2 tn rn rl ex w' :=
 ⟨(World.cell?_of_block (a := ⟨N, 0, none⟩) (hb N (.inl rfl))).trans h.n0, (World.cell?_of_block (a := ⟨N, 1, none⟩) (hb N (.inl rfl))).trans h.n1, (World.frozen?_of_block (a := ⟨N, 1, none⟩) (hb N (.inl rfl))).trans h.fz, (World.cell?_of_block (a := ⟨b, o + 1, none⟩) (hb b (.inr (.inr rfl)))).trans h.t1, (World.cell?_of_block (a := ⟨b2, o2, none⟩) (hb b2 (.inr (.inl rfl)))).trans h.r0, (World.cell?_of_block (a := ⟨b2, o2 + 1, none⟩) (hb b2 (.inr (.inl rfl)))).trans h.r1, by have := h.lt; omega⟩
theorem RFc.below {N b o b2 o2 : Nat} {v2 : Value} {tn rn : ByteArray} {rl ex : Value} {w w' : World} (h : RFc N b o b2 o2 v2 tn rn rl ex w) (hb : Below w.heap.size w w') : RFc N b o b2 o2 v2 tn rn rl ex w' :=
 h.heap hb.size fun g hg => hb.block g (by have := h.lt; rcases hg with rfl | rfl | rfl <;> omega)
set_option maxHeartbeats 16000000 in
theorem l2Copy_n (ad : Option Addr) (cap : Nat) (rs : List TR) (w : World) (h6 : rs.length ≤ 6) (hr6 : ∀ t ∈ rs, t.rows.length ≤ 6) (he15 : ∀ t ∈ rs, ∀ q ∈ t.rows, q.rows.length ≤ 15) (hs : SlT w ad rs) (hl : ∀ r ∈ rs, r.light) (hz : ∀ t ∈ rs, ∀ q ∈ t.rows, ∀ r ∈ q.rows, r.atZero) :
  Calls Tryz.prog 21 #[.slice ad rs.length cap] w fun e w' => ∃ (v : Value) (qs : List TR), e = .returned v ∧ TypM w' w.heap.size v qs ∧ tys qs = tys rs ∧ Below w.heap.size w w' := by
 obtain ⟨iR, hiR, zR0, zR1, zR2⟩ := info_parts (P := Tryz.prog) (e := 46) (z := .agg #[.string ⟨#[]⟩, .slice none 0 0]) (size := 2) (bytes := 40) (by kernel_rfl)
 obtain ⟨iT, hiT, zT0, zT1, zT2⟩ := info_parts (P := Tryz.prog) (e := 44) (z := .agg #[.string ⟨#[]⟩, .slice none 0 0]) (size := 2) (bytes := 40) (by kernel_rfl)
 have HIR : Hid (Tryz.prog.info? 46 = some iR ∧ iR.zero = some (.agg #[.string ⟨#[]⟩, .slice none 0 0]) ∧ iR.size = 2 ∧ iR.bytes = 40) := ⟨hiR, zR0, zR1, zR2⟩
 have HIT : Hid (Tryz.prog.info? 44 = some iT ∧ iT.zero = some (.agg #[.string ⟨#[]⟩, .slice none 0 0]) ∧ iT.size = 2 ∧ iT.bytes = 40) := ⟨hiT, zT0, zT1, zT2⟩
 have HS := toHX hs
 have HL := toHX hl
 have HZ := toHX hz
 have HR6 := toHX hr6
 have HE15 := toHX he15
 clear hs hl hz hr6 he15 hiR zR0 zR1 zR2 hiT zT0 zT1 zT2
 obtain ⟨W0, hW0⟩ : ∃ W0, W0 = w.alloc (.cells #[] 44) := ⟨_, rfl⟩
 have HX0 : Hid (TypM W0 w.heap.size (.slice (some ⟨w.heap.size, 0, none⟩) 0 0) []) := by
  show LotM _ _ _ _ _ _ _ _ _
  rw [hW0]
  exact ⟨World.ownsRow_lit w #[] 0 (Nat.le_refl _) (by unfold maxLen; omega) (by simp), fun q hq => (by cases hq), fun q hq => (by cases hq), fun x y hx => absurd hx (by simp)⟩
 have HB0 : Hid (Below w.heap.size w W0) := by show Below _ _ _; rw [hW0]; exact (Below.refl _ _).alloc (Nat.le_refl _) _
 go_enter Tryz.func21, Tryz.ntmps21
 go_wp2_with fail
 rw [← hW0]
 clear hW0
 go_loopw [3, 4] (fun v i wr => ∃ (k : Nat) (qs : List TR), k ≤ rs.length ∧ i = .int .i64 k ∧ Hid (TypM wr w.heap.size v qs) ∧ Hid (tys qs = (tys rs).take k) ∧ Hid (Below w.heap.size w wr)) (fun _ i _ => rs.length - (intOf i).toNat)
 case atStart => exact ⟨0, [], Nat.zero_le _, rfl, HX0, by show _ = _; simp [tys], HB0⟩
 case round =>
  clear HX0 HB0
  obtain ⟨k, qs, hk, rfl, HX, HQ, HB⟩ := hrel
  obtain ⟨wo, hwo⟩ : ∃ wo, wo = wr := ⟨_, rfl⟩
  subst hwo
  have HQL : Hid (qs.length = k) := by
   show _ = _
   rw [← tys_len, HQ.out, List.length_take, tys_len]; omega
  have hql6 : qs.length ≤ 6 := by rw [HQL.out]; omega
  by_cases hlt : k < rs.length
  ·rcases HS.out with hnil | ⟨b, off, hadr, hb0, -, -⟩
   ·rw [hnil] at hlt; simp at hlt
   subst hadr
   have HTM : Hid (rs[k] ∈ rs) := List.getElem_mem hlt
   have hr6 : rs[k].rows.length ≤ 6 := HR6.out _ (List.getElem_mem hlt)
   have hk1 : (0 : Int) ≤ (k : Int) := by omega
   have hk2 : (k : Int) < (rs.length : Int) := by omega
   have HTR := toHX (HS.out.row hlt)
   obtain ⟨t0, t1⟩ := HTR.out.1.kept HTR.out.2 HB.out
   have HOK : Hid (rs[k].ok w) := SlT.mem HS.out (List.getElem_mem hlt)
   obtain ⟨W2, hW2⟩ : ∃ W2, W2 = wo.alloc (.cells #[.string rs[k].name, .slice none 0 0] 44) := ⟨_, rfl⟩
   have HB2 : Hid (Below wo.heap.size wo W2) := by show Below _ _ _; rw [hW2]; exact (Below.refl _ _).alloc (Nat.le_refl _) _
   have HP2 : Hid (W2.cell? ⟨wo.heap.size, 0, none⟩ = some (.string rs[k].name) ∧ W2.cell? ⟨wo.heap.size, 1, none⟩ = some (.slice none 0 0) ∧ W2.frozen? ⟨wo.heap.size, 1, none⟩ = false ∧ W2.heap.size = wo.heap.size + 1) := by
    show _ ∧ _
    rw [hW2]
    exact ⟨by simp, by simp, by simp, by simp⟩
   clear hb0
   go_wp2_with fail
   rw [← hW2]
   clear hW2 t0 t1
   go_loopw [6] (fun i wr => ∃ (j : Nat) (v2 : Value) (rows : List RR), j ≤ rs[k].rows.length ∧ i = .int .i64 j ∧ Hid (wr.cell? ⟨wo.heap.size, 0, none⟩ = some (.string rs[k].name) ∧ wr.cell? ⟨wo.heap.size, 1, none⟩ = some v2 ∧ wr.frozen? ⟨wo.heap.size, 1, none⟩ = false) ∧ Hid (RelM wr (wo.heap.size + 1) v2 rows) ∧ Hid (rls rows = (rls rs[k].rows).take j) ∧ Hid (Below wo.heap.size W2 wr)) (fun i _ => rs[k].rows.length - (intOf i).toNat)
   case atStart => exact ⟨0, .slice none 0 0, [], Nat.zero_le _, rfl, ⟨HP2.out.1, HP2.out.2.1, HP2.out.2.2.1⟩, lotM_nil _ _, by show _ = _; simp [rls], Below.refl _ _⟩
   case round =>
    obtain ⟨j, v2, rows, hj, rfl, HN, HR, HRQ, HB3⟩ := hrel
    obtain ⟨wi, hwi⟩ : ∃ wi, wi = wr := ⟨_, rfl⟩
    subst hwi
    have HZ2 : Hid (W2.heap.size = wo.heap.size + 1) := HP2.out.2.2.2
    have HBO : Hid (Below wo.heap.size wo wi) := HB2.out.trans HB3.out
    have HBI : Hid (Below w.heap.size w wi) := HB.out.trans (HBO.out.mono HB.out.size)
    have HRL : Hid (rows.length = j) := by
     show _ = _
     rw [← rls_len, HRQ.out, List.length_take, rls_len]; omega
    have hrl6 : rows.length ≤ 6 := by rw [HRL.out]; omega
    obtain ⟨t0, t1⟩ := HTR.out.1.kept HTR.out.2 HBI.out
    have hTw : wo.heap.size + 1 ≤ wi.heap.size := by have := HB3.out.size; have := HZ2.out; omega
    by_cases hjt : j < rs[k].rows.length
    ·obtain ⟨b2, off2, hadr2, hrow2, hbl2⟩ := SlR.row HOK.out hjt
     have HQM : Hid (rs[k].rows[j] ∈ rs[k].rows) := List.getElem_mem hjt
     have HOE : Hid (SlE w rs[k].rows[j].ad rs[k].rows[j].rows) := SlR.mem HOK.out (List.getElem_mem hjt)
     have hej : rs[k].rows[j].rows.length ≤ 15 := HE15.out _ HTM.out _ HQM.out
     obtain ⟨s0, s1⟩ := hrow2.later hbl2 HBI.out
     rw [hadr2] at t1
     have yb : b < wi.heap.size := Nat.lt_of_lt_of_le HTR.out.2 HBI.out.size
     have yb2 : b2 < wi.heap.size := Nat.lt_of_lt_of_le hbl2 HBI.out.size
     have zb : b < wo.heap.size := Nat.lt_of_lt_of_le HTR.out.2 HB.out.size
     have zb2 : b2 < wo.heap.size := Nat.lt_of_lt_of_le hbl2 HB.out.size
     have hj1 : (0 : Int) ≤ (j : Int) := by omega
     have hj2 : (j : Int) < (rs[k].rows.length : Int) := by omega
     have HRF : Hid (RFc wo.heap.size b (off + k * 2) b2 (off2 + j * 2) v2 rs[k].name rs[k].rows[j].name (.slice (some { block := b2, off := off2 }) rs[k].rows.length rs[k].cap) (.slice rs[k].rows[j].ad rs[k].rows[j].rows.length rs[k].rows[j].cap) wi) := ⟨HN.out.1, HN.out.2.1, HN.out.2.2, t1, s0, s1, by omega⟩
     have HRM : Hid (RelM wi (wo.heap.size + 1) v2 rows) := HR.out
     go_wp2_with fail
     clear t0 t1 s0 s1
     have HNW3 : Hid (wo.heap.size + 1 ≤ wi.heap.size) := hTw
     have HRO : Hid (RelM wi (wo.heap.size + 1) v2 rows) := HR.out
     obtain ⟨CV, hCV⟩ : ∃ C : Nat → Value, C = fun n => ((Value.pointer (some { block := wo.heap.size, off := 1 })) :: (v2) :: (Value.slice (some { block := b, off := off }) rs.length cap) :: (Value.int IntKind.i64 (k : Int)) :: (Value.pointer (some { block := b, off := off + k * 2 })) :: (Value.pointer (some { block := b, off := off + k * 2 + 1 })) :: (Value.slice (some { block := b2, off := off2 }) rs[k].rows.length rs[k].cap) :: (Value.int IntKind.i64 (j : Int)) :: (Value.pointer (some { block := b2, off := off2 + j * 2 })) :: (Value.pointer (some { block := b2, off := off2 + j * 2 })) :: (Value.string rs[k].rows[j].name) :: (Value.slice (some { block := b, off := off }) rs.length cap) :: (Value.int IntKind.i64 (k : Int)) :: (Value.pointer (some { block := b, off := off + k * 2 })) :: (Value.pointer (some { block := b, off := off + k * 2 + 1 })) :: (Value.slice (some { block := b2, off := off2 }) rs[k].rows.length rs[k].cap) :: (Value.int IntKind.i64 (j : Int)) :: (Value.pointer (some { block := b2, off := off2 + j * 2 })) :: (Value.pointer (some { block := b2, off := off2 + j * 2 + 1 })) :: (Value.slice rs[k].rows[j].ad rs[k].rows[j].rows.length rs[k].rows[j].cap) :: (undef) :: (undef) :: (undef) :: (undef) :: (Value.pointer (some { block := wo.heap.size, off := 1 })) :: []).getD n undef := ⟨_, rfl⟩
     have HCV : Hid (CV 0 = Value.pointer (some { block := wo.heap.size, off := 1 }) ∧ CV 1 = v2 ∧ CV 2 = Value.slice (some { block := b, off := off }) rs.length cap ∧ CV 3 = Value.int IntKind.i64 (k : Int) ∧ CV 4 = Value.pointer (some { block := b, off := off + k * 2 }) ∧ CV 5 = Value.pointer (some { block := b, off := off + k * 2 + 1 }) ∧ CV 6 = Value.slice (some { block := b2, off := off2 }) rs[k].rows.length rs[k].cap ∧ CV 7 = Value.int IntKind.i64 (j : Int) ∧ CV 8 = Value.pointer (some { block := b2, off := off2 + j * 2 }) ∧ CV 9 = Value.pointer (some { block := b2, off := off2 + j * 2 }) ∧ CV 10 = Value.string rs[k].rows[j].name ∧ CV 11 = Value.slice (some { block := b, off := off }) rs.length cap ∧ CV 12 = Value.int IntKind.i64 (k : Int) ∧ CV 13 = Value.pointer (some { block := b, off := off + k * 2 }) ∧ CV 14 = Value.pointer (some { block := b, off := off + k * 2 + 1 }) ∧ CV 15 = Value.slice (some { block := b2, off := off2 }) rs[k].rows.length rs[k].cap ∧ CV 16 = Value.int IntKind.i64 (j : Int) ∧ CV 17 = Value.pointer (some { block := b2, off := off2 + j * 2 }) ∧ CV 18 = Value.pointer (some { block := b2, off := off2 + j * 2 + 1 }) ∧ CV 19 = Value.slice rs[k].rows[j].ad rs[k].rows[j].rows.length rs[k].rows[j].cap ∧ CV 20 = undef ∧ CV 21 = undef ∧ CV 22 = undef ∧ CV 23 = undef ∧ CV 24 = Value.pointer (some { block := wo.heap.size, off := 1 })) := by show _ ∧ _; rw [hCV]; exact ⟨rfl, rfl, rfl, rfl, rfl, rfl, rfl, rfl, rfl, rfl, rfl, rfl, rfl, rfl, rfl, rfl, rfl, rfl, rfl, rfl, rfl, rfl, rfl, rfl, rfl⟩
     clear hCV
     refine wp_region_frame2 25 (fun | 0 => u30 | 1 => u31 | 2 => u32 | 3 => u33 | 4 => u34 | 5 => u35 | 6 => u36 | 7 => u37 | 8 => u38 | 9 => u39 | 10 => u40 | 11 => u41 | 12 => u42 | 13 => u43 | 14 => u44 | 15 => u45 | 16 => u46 | 17 => u47 | 18 => u48 | 19 => u49 | 20 => u50 | 21 => u51 | 22 => u52 | 23 => u53 | 24 => u54 | _ => undef) (fun fq => { tmps := List.toArray (Value.slice (some { block := b, off := off }) rs.length cap :: undef :: Value.slice none 0 0 :: u3 :: Value.int IntKind.i64 (k : Int) :: Value.pointer (some { block := wo.heap.size, off := 0 }) :: Value.int IntKind.i64 (j : Int) :: Value.slice (some { block := w.heap.size, off := 0 }) 0 0 :: Value.int IntKind.i64 (k : Int) :: Value.slice (some { block := b, off := off }) rs.length cap :: Value.int IntKind.i64 (rs.length : Int) :: Value.bool true :: u12 :: u13 :: Value.slice (some { block := b, off := off }) rs.length cap :: Value.int IntKind.i64 (k : Int) :: Value.pointer (some { block := b, off := off + k * 2 }) :: Value.pointer (some { block := b, off := off + k * 2 }) :: Value.string rs[k].name :: Value.agg #[Value.string rs[k].name, Value.slice none 0 0] :: Value.int IntKind.i64 (j : Int) :: Value.slice (some { block := b, off := off }) rs.length cap :: Value.int IntKind.i64 (k : Int) :: Value.pointer (some { block := b, off := off + k * 2 }) :: Value.pointer (some { block := b, off := off + k * 2 + 1 }) :: Value.slice (some { block := b2, off := off2 }) rs[k].rows.length rs[k].cap :: Value.int IntKind.i64 (rs[k].rows.length : Int) :: Value.bool true :: u28 :: u29 :: (fq 0) :: (fq 1) :: (fq 2) :: (fq 3) :: (fq 4) :: (fq 5) :: (fq 6) :: (fq 7) :: (fq 8) :: (fq 9) :: (fq 10) :: (fq 11) :: (fq 12) :: (fq 13) :: (fq 14) :: (fq 15) :: (fq 16) :: (fq 17) :: (fq 18) :: (fq 19) :: (fq 20) :: (fq 21) :: (fq 22) :: (fq 23) :: (fq 24) :: u55 :: u56 :: u57 :: u58 :: undef :: []), defers := [] }) (G.CH 20 (fun _ => []) CV (RFc wo.heap.size b (off + k * 2) b2 (off2 + j * 2) v2 rs[k].name rs[k].rows[j].name (Value.slice (some { block := b2, off := off2 }) rs[k].rows.length rs[k].cap) (Value.slice rs[k].rows[j].ad rs[k].rows[j].rows.length rs[k].rows[j].cap)) (Below wi.heap.size wi) (C1 wi (exs rs[k].rows[j].rows)) (fun x => .agg #[.string rs[k].rows[j].name, x]) (C3 wi rs[k].rows[j].name (exs rs[k].rows[j].rows)) (C4 wi wo.heap.size rows rs[k].rows[j].name (exs rs[k].rows[j].rows))) (by kernel_rfl) rfl (by kernel_rfl) (fun o ho l fq w' hI hp => ?clR) rfl (G.ch_start (HRF.out.below (Below.refl _ _).drew) (Below.refl _ _).drew) ?stepR ?finR
     case clR =>
      obtain rfl := Option.some.inj ho
      intro k hk
      have hc : k = 0 ∨ k = 1 ∨ k = 2 ∨ k = 3 ∨ k = 4 ∨ k = 5 ∨ k = 6 ∨ k = 7 ∨ k = 8 ∨ k = 9 ∨ k = 10 ∨ k = 11 ∨ k = 12 ∨ k = 13 ∨ k = 14 ∨ k = 15 ∨ k = 16 ∨ k = 17 ∨ k = 18 ∨ k = 19 ∨ k = 20 ∨ k = 21 ∨ k = 22 ∨ k = 23 ∨ k = 24 := by omega
      rcases hc with rfl | rfl | rfl | rfl | rfl | rfl | rfl | rfl | rfl | rfl | rfl | rfl | rfl | rfl | rfl | rfl | rfl | rfl | rfl | rfl | rfl | rfl | rfl | rfl | rfl
      ·exact hp { on := 0, ground := .phase } (by simp) rfl
      ·exact hp { on := 1, ground := .phase } (by simp) rfl
      ·exact hp { on := 2, ground := .phase } (by simp) rfl
      ·exact hp { on := 3, ground := .phase } (by simp) rfl
      ·exact hp { on := 4, ground := .phase } (by simp) rfl
      ·exact hp { on := 5, ground := .phase } (by simp) rfl
      ·exact hp { on := 6, ground := .phase } (by simp) rfl
      ·exact hp { on := 7, ground := .phase } (by simp) rfl
      ·exact hp { on := 8, ground := .phase } (by simp) rfl
      ·exact hp { on := 9, ground := .phase } (by simp) rfl
      ·exact hp { on := 10, ground := .phase } (by simp) rfl
      ·exact hp { on := 11, ground := .phase } (by simp) rfl
      ·exact hp { on := 12, ground := .phase } (by simp) rfl
      ·exact hp { on := 13, ground := .phase } (by simp) rfl
      ·exact hp { on := 14, ground := .phase } (by simp) rfl
      ·exact hp { on := 15, ground := .phase } (by simp) rfl
      ·exact hp { on := 16, ground := .phase } (by simp) rfl
      ·exact hp { on := 17, ground := .phase } (by simp) rfl
      ·exact hp { on := 18, ground := .phase } (by simp) rfl
      ·exact hp { on := 19, ground := .phase } (by simp) rfl
      ·exact hp { on := 20, ground := .phase } (by simp) rfl
      ·exact hp { on := 21, ground := .phase } (by simp) rfl
      ·exact hp { on := 22, ground := .phase } (by simp) rfl
      ·exact hp { on := 23, ground := .phase } (by simp) rfl
      ·exact hp { on := 24, ground := .data } (by simp) rfl
     case stepR =>
      rintro i hi o ho l fq w' hli hI hpre
      have HI : Hid (G.CH 20 (fun _ => []) CV (RFc wo.heap.size b (off + k * 2) b2 (off2 + j * 2) v2 rs[k].name rs[k].rows[j].name (Value.slice (some { block := b2, off := off2 }) rs[k].rows.length rs[k].cap) (Value.slice rs[k].rows[j].ad rs[k].rows[j].rows.length rs[k].rows[j].cap)) (Below wi.heap.size wi) (C1 wi (exs rs[k].rows[j].rows)) (fun x => .agg #[.string rs[k].rows[j].name, x]) (C3 wi rs[k].rows[j].name (exs rs[k].rows[j].rows)) (C4 wi wo.heap.size rows rs[k].rows[j].name (exs rs[k].rows[j].rows)) l fq w') := hI
      have HPR : Hid (∀ e ∈ o.after, Region.binds .any e = true → l e.on = true) := hpre
      have HRW : Hid (RFc wo.heap.size b (off + k * 2) b2 (off2 + j * 2) v2 rs[k].name rs[k].rows[j].name (Value.slice (some { block := b2, off := off2 }) rs[k].rows.length rs[k].cap) (Value.slice rs[k].rows[j].ad rs[k].rows[j].rows.length rs[k].rows[j].cap) w') := hI.rf
      clear hI hpre
      have hc : i = 0 ∨ i = 1 ∨ i = 2 ∨ i = 3 ∨ i = 4 ∨ i = 5 ∨ i = 6 ∨ i = 7 ∨ i = 8 ∨ i = 9 ∨ i = 10 ∨ i = 11 ∨ i = 12 ∨ i = 13 ∨ i = 14 ∨ i = 15 ∨ i = 16 ∨ i = 17 ∨ i = 18 ∨ i = 19 ∨ i = 20 ∨ i = 21 ∨ i = 22 ∨ i = 23 ∨ i = 24 := by omega
      clear hi
      rcases hc with rfl | rfl | rfl | rfl | rfl | rfl | rfl | rfl | rfl | rfl | rfl | rfl | rfl | rfl | rfl | rfl | rfl | rfl | rfl | rfl | rfl | rfl | rfl | rfl | rfl
      ·obtain rfl := Option.some.inj ho
       have HP := toHX (HI.out.put (i := 0) (by omega) (fun j hj => by cases hj) HCV.out.1.symm)
       refine wpOp_hid rfl fun K HK => ?_
       clear ho HPR HI
       dsimp only
       go_simp
       exact HK.out _ _ ⟨_, by simp [upd], HP.out⟩
      ·obtain rfl := Option.some.inj ho
       have e0 : fq 0 = Value.pointer (some { block := wo.heap.size, off := 1 }) := (HI.out.val 0 (by omega) (HPR.out { on := 0, ground := .data } (by simp) rfl)).trans HCV.out.1
       have x1 := HRW.out.n1
       have HP := toHX (HI.out.put (i := 1) (by omega) (fun j hj => by cases hj) HCV.out.2.1.symm)
       refine wpOp_hid rfl fun K HK => ?_
       clear ho HPR HI
       simp only [e0]
       go_simp
       exact HK.out _ _ ⟨_, by simp [upd, e0], HP.out⟩
      ·obtain rfl := Option.some.inj ho
       have HP := toHX (HI.out.put (i := 2) (by omega) (fun j hj => by cases hj) HCV.out.2.2.1.symm)
       refine wpOp_hid rfl fun K HK => ?_
       clear ho HPR HI
       dsimp only
       go_simp
       exact HK.out _ _ ⟨_, by simp [upd], HP.out⟩
      ·obtain rfl := Option.some.inj ho
       have HP := toHX (HI.out.put (i := 3) (by omega) (fun j hj => by cases hj) HCV.out.2.2.2.1.symm)
       refine wpOp_hid rfl fun K HK => ?_
       clear ho HPR HI
       dsimp only
       go_simp
       exact HK.out _ _ ⟨_, by simp [upd], HP.out⟩
      ·obtain rfl := Option.some.inj ho
       have e2 : fq 2 = Value.slice (some { block := b, off := off }) rs.length cap := (HI.out.val 2 (by omega) (HPR.out { on := 2, ground := .data } (by simp) rfl)).trans HCV.out.2.2.1
       have e3 : fq 3 = Value.int IntKind.i64 (k : Int) := (HI.out.val 3 (by omega) (HPR.out { on := 3, ground := .data } (by simp) rfl)).trans HCV.out.2.2.2.1
       have HP := toHX (HI.out.put (i := 4) (by omega) (fun j hj => by cases hj) HCV.out.2.2.2.2.1.symm)
       refine wpOp_hid rfl fun K HK => ?_
       clear ho HPR HI
       simp only [e2, e3]
       go_simp
       exact HK.out _ _ ⟨_, by simp [upd, e2, e3], HP.out⟩
      ·obtain rfl := Option.some.inj ho
       have e4 : fq 4 = Value.pointer (some { block := b, off := off + k * 2 }) := (HI.out.val 4 (by omega) (HPR.out { on := 4, ground := .data } (by simp) rfl)).trans HCV.out.2.2.2.2.1
       have HP := toHX (HI.out.put (i := 5) (by omega) (fun j hj => by cases hj) HCV.out.2.2.2.2.2.1.symm)
       refine wpOp_hid rfl fun K HK => ?_
       clear ho HPR HI
       simp only [e4]
       go_simp
       exact HK.out _ _ ⟨_, by simp [upd, e4], HP.out⟩
      ·obtain rfl := Option.some.inj ho
       have e5 : fq 5 = Value.pointer (some { block := b, off := off + k * 2 + 1 }) := (HI.out.val 5 (by omega) (HPR.out { on := 5, ground := .data } (by simp) rfl)).trans HCV.out.2.2.2.2.2.1
       have x1 := HRW.out.t1
       have HP := toHX (HI.out.put (i := 6) (by omega) (fun j hj => by cases hj) HCV.out.2.2.2.2.2.2.1.symm)
       refine wpOp_hid rfl fun K HK => ?_
       clear ho HPR HI
       simp only [e5]
       go_simp
       exact HK.out _ _ ⟨_, by simp [upd, e5], HP.out⟩
      ·obtain rfl := Option.some.inj ho
       have HP := toHX (HI.out.put (i := 7) (by omega) (fun j hj => by cases hj) HCV.out.2.2.2.2.2.2.2.1.symm)
       refine wpOp_hid rfl fun K HK => ?_
       clear ho HPR HI
       dsimp only
       go_simp
       exact HK.out _ _ ⟨_, by simp [upd], HP.out⟩
      ·obtain rfl := Option.some.inj ho
       have e6 : fq 6 = Value.slice (some { block := b2, off := off2 }) rs[k].rows.length rs[k].cap := (HI.out.val 6 (by omega) (HPR.out { on := 6, ground := .data } (by simp) rfl)).trans HCV.out.2.2.2.2.2.2.1
       have e7 : fq 7 = Value.int IntKind.i64 (j : Int) := (HI.out.val 7 (by omega) (HPR.out { on := 7, ground := .data } (by simp) rfl)).trans HCV.out.2.2.2.2.2.2.2.1
       have HP := toHX (HI.out.put (i := 8) (by omega) (fun j hj => by cases hj) HCV.out.2.2.2.2.2.2.2.2.1.symm)
       refine wpOp_hid rfl fun K HK => ?_
       clear ho HPR HI
       simp only [e6, e7]
       go_simp
       exact HK.out _ _ ⟨_, by simp [upd, e6, e7], HP.out⟩
      ·obtain rfl := Option.some.inj ho
       have e8 : fq 8 = Value.pointer (some { block := b2, off := off2 + j * 2 }) := (HI.out.val 8 (by omega) (HPR.out { on := 8, ground := .data } (by simp) rfl)).trans HCV.out.2.2.2.2.2.2.2.2.1
       have HP := toHX (HI.out.put (i := 9) (by omega) (fun j hj => by cases hj) HCV.out.2.2.2.2.2.2.2.2.2.1.symm)
       refine wpOp_hid rfl fun K HK => ?_
       clear ho HPR HI
       simp only [e8]
       go_simp
       exact HK.out _ _ ⟨_, by simp [upd, e8], HP.out⟩
      ·obtain rfl := Option.some.inj ho
       have e9 : fq 9 = Value.pointer (some { block := b2, off := off2 + j * 2 }) := (HI.out.val 9 (by omega) (HPR.out { on := 9, ground := .data } (by simp) rfl)).trans HCV.out.2.2.2.2.2.2.2.2.2.1
       have x1 := HRW.out.r0
       have HP := toHX (HI.out.put (i := 10) (by omega) (fun j hj => by cases hj) HCV.out.2.2.2.2.2.2.2.2.2.2.1.symm)
       refine wpOp_hid rfl fun K HK => ?_
       clear ho HPR HI
       simp only [e9]
       go_simp
       exact HK.out _ _ ⟨_, by simp [upd, e9], HP.out⟩
      ·obtain rfl := Option.some.inj ho
       have HP := toHX (HI.out.put (i := 11) (by omega) (fun j hj => by cases hj) HCV.out.2.2.2.2.2.2.2.2.2.2.2.1.symm)
       refine wpOp_hid rfl fun K HK => ?_
       clear ho HPR HI
       dsimp only
       go_simp
       exact HK.out _ _ ⟨_, by simp [upd], HP.out⟩
      ·obtain rfl := Option.some.inj ho
       have HP := toHX (HI.out.put (i := 12) (by omega) (fun j hj => by cases hj) HCV.out.2.2.2.2.2.2.2.2.2.2.2.2.1.symm)
       refine wpOp_hid rfl fun K HK => ?_
       clear ho HPR HI
       dsimp only
       go_simp
       exact HK.out _ _ ⟨_, by simp [upd], HP.out⟩
      ·obtain rfl := Option.some.inj ho
       have e11 : fq 11 = Value.slice (some { block := b, off := off }) rs.length cap := (HI.out.val 11 (by omega) (HPR.out { on := 11, ground := .data } (by simp) rfl)).trans HCV.out.2.2.2.2.2.2.2.2.2.2.2.1
       have e12 : fq 12 = Value.int IntKind.i64 (k : Int) := (HI.out.val 12 (by omega) (HPR.out { on := 12, ground := .data } (by simp) rfl)).trans HCV.out.2.2.2.2.2.2.2.2.2.2.2.2.1
       have HP := toHX (HI.out.put (i := 13) (by omega) (fun j hj => by cases hj) HCV.out.2.2.2.2.2.2.2.2.2.2.2.2.2.1.symm)
       refine wpOp_hid rfl fun K HK => ?_
       clear ho HPR HI
       simp only [e11, e12]
       go_simp
       exact HK.out _ _ ⟨_, by simp [upd, e11, e12], HP.out⟩
      ·obtain rfl := Option.some.inj ho
       have e13 : fq 13 = Value.pointer (some { block := b, off := off + k * 2 }) := (HI.out.val 13 (by omega) (HPR.out { on := 13, ground := .data } (by simp) rfl)).trans HCV.out.2.2.2.2.2.2.2.2.2.2.2.2.2.1
       have HP := toHX (HI.out.put (i := 14) (by omega) (fun j hj => by cases hj) HCV.out.2.2.2.2.2.2.2.2.2.2.2.2.2.2.1.symm)
       refine wpOp_hid rfl fun K HK => ?_
       clear ho HPR HI
       simp only [e13]
       go_simp
       exact HK.out _ _ ⟨_, by simp [upd, e13], HP.out⟩
      ·obtain rfl := Option.some.inj ho
       have e14 : fq 14 = Value.pointer (some { block := b, off := off + k * 2 + 1 }) := (HI.out.val 14 (by omega) (HPR.out { on := 14, ground := .data } (by simp) rfl)).trans HCV.out.2.2.2.2.2.2.2.2.2.2.2.2.2.2.1
       have x1 := HRW.out.t1
       have HP := toHX (HI.out.put (i := 15) (by omega) (fun j hj => by cases hj) HCV.out.2.2.2.2.2.2.2.2.2.2.2.2.2.2.2.1.symm)
       refine wpOp_hid rfl fun K HK => ?_
       clear ho HPR HI
       simp only [e14]
       go_simp
       exact HK.out _ _ ⟨_, by simp [upd, e14], HP.out⟩
      ·obtain rfl := Option.some.inj ho
       have HP := toHX (HI.out.put (i := 16) (by omega) (fun j hj => by cases hj) HCV.out.2.2.2.2.2.2.2.2.2.2.2.2.2.2.2.2.1.symm)
       refine wpOp_hid rfl fun K HK => ?_
       clear ho HPR HI
       dsimp only
       go_simp
       exact HK.out _ _ ⟨_, by simp [upd], HP.out⟩
      ·obtain rfl := Option.some.inj ho
       have e15 : fq 15 = Value.slice (some { block := b2, off := off2 }) rs[k].rows.length rs[k].cap := (HI.out.val 15 (by omega) (HPR.out { on := 15, ground := .data } (by simp) rfl)).trans HCV.out.2.2.2.2.2.2.2.2.2.2.2.2.2.2.2.1
       have e16 : fq 16 = Value.int IntKind.i64 (j : Int) := (HI.out.val 16 (by omega) (HPR.out { on := 16, ground := .data } (by simp) rfl)).trans HCV.out.2.2.2.2.2.2.2.2.2.2.2.2.2.2.2.2.1
       have HP := toHX (HI.out.put (i := 17) (by omega) (fun j hj => by cases hj) HCV.out.2.2.2.2.2.2.2.2.2.2.2.2.2.2.2.2.2.1.symm)
       refine wpOp_hid rfl fun K HK => ?_
       clear ho HPR HI
       simp only [e15, e16]
       go_simp
       exact HK.out _ _ ⟨_, by simp [upd, e15, e16], HP.out⟩
      ·obtain rfl := Option.some.inj ho
       have e17 : fq 17 = Value.pointer (some { block := b2, off := off2 + j * 2 }) := (HI.out.val 17 (by omega) (HPR.out { on := 17, ground := .data } (by simp) rfl)).trans HCV.out.2.2.2.2.2.2.2.2.2.2.2.2.2.2.2.2.2.1
       have HP := toHX (HI.out.put (i := 18) (by omega) (fun j hj => by cases hj) HCV.out.2.2.2.2.2.2.2.2.2.2.2.2.2.2.2.2.2.2.1.symm)
       refine wpOp_hid rfl fun K HK => ?_
       clear ho HPR HI
       simp only [e17]
       go_simp
       exact HK.out _ _ ⟨_, by simp [upd, e17], HP.out⟩
      ·obtain rfl := Option.some.inj ho
       have e18 : fq 18 = Value.pointer (some { block := b2, off := off2 + j * 2 + 1 }) := (HI.out.val 18 (by omega) (HPR.out { on := 18, ground := .data } (by simp) rfl)).trans HCV.out.2.2.2.2.2.2.2.2.2.2.2.2.2.2.2.2.2.2.1
       have x1 := HRW.out.r1
       have HP := toHX (HI.out.put (i := 19) (by omega) (fun j hj => by cases hj) HCV.out.2.2.2.2.2.2.2.2.2.2.2.2.2.2.2.2.2.2.2.1.symm)
       refine wpOp_hid rfl fun K HK => ?_
       clear ho HPR HI
       simp only [e18]
       go_simp
       exact HK.out _ _ ⟨_, by simp [upd, e18], HP.out⟩
      ·obtain rfl := Option.some.inj ho
       have e19 : fq 19 = Value.slice rs[k].rows[j].ad rs[k].rows[j].rows.length rs[k].rows[j].cap := (HI.out.val 19 (by omega) (HPR.out { on := 19, ground := .data } (by simp) rfl)).trans HCV.out.2.2.2.2.2.2.2.2.2.2.2.2.2.2.2.2.2.2.2.1
       have HM0 := toHX (HI.out.m0 hli).1
       refine wpOp_hid rfl fun K HK => ?_
       clear ho HPR
       simp only [e19]
       go_simp
       refine (l2CopyExpr_n _ _ rs[k].rows[j].rows w' hej (HOE.out.below (HBI.out.trans (HM0.out.mono HBI.out.size))) (((HL.out _ HTM.out).2 _ HQM.out).2) (HZ.out _ HTM.out _ HQM.out)).mono ?_
       rintro e w9 ⟨v9, qs9, rfl, hn9, he9, hb9⟩
       obtain ⟨ad9, cap9, rfl⟩ := own_slice hn9.own
       have HP := toHX (HI.out.call hli (fun j hj => by cases hj) (HRW.out.below hb9) (show C1 wi (exs rs[k].rows[j].rows) (.slice ad9 qs9.length cap9) w9 from ⟨ad9, cap9, qs9, rfl, NodM.mono hn9 HM0.out.size, he9, HM0.out.trans (hb9.mono HM0.out.size)⟩))
       clear hn9 he9 hb9 HI HRW HM0
       go_wp2_with fail
       exact HK.out _ _ ⟨_, by simp [upd, e19], HP.out⟩
      ·obtain rfl := Option.some.inj ho
       have e10 : fq 10 = Value.string rs[k].rows[j].name := (HI.out.val 10 (by omega) (HPR.out { on := 10, ground := .data } (by simp) rfl)).trans HCV.out.2.2.2.2.2.2.2.2.2.2.1
       have hc0 := HPR.out { on := 20, ground := .data } (by simp) rfl
       obtain ⟨ad9, cap9, qs9, e20, -⟩ := (HI.out.m1 hc0 hli).1
       have HP := toHX (HI.out.build hc0 hli (fun j hj => by cases hj) (v := .agg #[.string rs[k].rows[j].name, .slice ad9 qs9.length cap9]) (by rw [e20]))
       refine wpOp_hid rfl fun K HK => ?_
       clear ho HPR HI
       simp only [e10, e20]
       go_simp
       exact HK.out _ _ ⟨_, by simp [upd, e10, e20], HP.out⟩
      ·obtain rfl := Option.some.inj ho
       have hc1 := HPR.out { on := 21, ground := .data } (by simp) rfl
       obtain ⟨eB, hM1, -, -⟩ := HI.out.m2 hc1 hli
       have HC1 := toHX hM1
       obtain ⟨ad9, cap9, qs9, e20, -⟩ := hM1
       replace eB : fq 21 = .agg #[.string rs[k].rows[j].name, .slice ad9 qs9.length cap9] := by rw [eB, e20]
       rw [e20] at HC1
       have HP := toHX (HI.out.lay hc1 hli (fun j hj => by cases hj) (HRW.out.below ((Below.refl _ _).alloc (Nat.le_refl _) _)) (C1.lay (rn := rs[k].rows[j].name) HC1.out))
       refine wpOp_hid rfl fun K HK => ?_
       clear ho HPR HI HC1
       simp only [eB]
       go_simp
       exact HK.out _ _ ⟨_, by simp [upd, eB, e20], HP.out⟩
      ·obtain rfl := Option.some.inj ho
       have e1 : fq 1 = v2 := (HI.out.val 1 (by omega) (HPR.out { on := 1, ground := .data } (by simp) rfl)).trans HCV.out.2.1
       have hc2 := HPR.out { on := 22, ground := .data } (by simp) rfl
       obtain ⟨b9, q9, e22, hnew9, hk9, hp9, hb9⟩ := (HI.out.m3 hc2 hli).1
       have hown : w'.ownsRow (wo.heap.size + 1) 46 2 (v2) rows.length (rows.flatMap RR.cells) := own_heap HRM.out.own fun g hg => hb9.block g (HRM.out.own.lt g hg).2
       refine wpOp_append_own w' rfl rfl _ _ 42 rfl (wo.heap.size + 1) 46 iR _ 2 40 Tryz.underlying42 HIR.out.1 HIR.out.2.1 HIR.out.2.2.1 HIR.out.2.2.2 rfl (by decide) (v2) rows.length (rows.flatMap RR.cells) (by simp [Act.eval, e1]) hown ⟨b9, 0, none⟩ 1 1 (RR.cells q9) (by simp [Act.eval, e22]) rfl hnew9 (by simp [RR.cells, RR.vs, Value.oneCell']) (by unfold maxLen; omega) (by omega) (by have := hb9.size; have := HNW3.out; omega) ?_
       intro v' w2 hown2 hgr2 hloc2
       exact ⟨v', by simp [upd, Act.put], HI.out.app hc2 hli (fun j hj => by cases hj) (HRW.out.heap hgr2.size fun g hg => hgr2.block g (by have := HRW.out.lt; rcases hg with rfl | rfl | rfl <;> omega) (fun e => by have h1 := (HRM.out.own.lt g e.symm).1; have h2 := (HRO.out.own.lt g e.symm).2; rcases hg with rfl | rfl | rfl <;> omega)) (C3.app (W0 := wi) HRM.out HNW3.out hk9 hp9 hb9 hown2 hgr2 hloc2)⟩
      ·obtain rfl := Option.some.inj ho
       have HP := toHX (HI.out.put (i := 24) (by omega) (fun j hj => by cases hj) HCV.out.2.2.2.2.2.2.2.2.2.2.2.2.2.2.2.2.2.2.2.2.2.2.2.2.symm)
       refine wpOp_hid rfl fun K HK => ?_
       clear ho HPR HI
       dsimp only
       go_simp
       exact HK.out _ _ ⟨_, by simp [upd], HP.out⟩
     case finR =>
      rintro o ho l fq w' hall hI
      obtain rfl := Option.some.inj ho
      obtain ⟨ad4, cap4, q4, e23, hRM4, hqp4, hb4⟩ := (hI.m4 (hall 23 (by omega))).1
      have e24 : fq 24 = Value.pointer (some { block := wo.heap.size, off := 1 }) := (hI.val 24 (.inr rfl) (hall 24 (by omega))).trans HCV.out.2.2.2.2.2.2.2.2.2.2.2.2.2.2.2.2.2.2.2.2.2.2.2.2
      have n1 := hI.rf.n1
      have fz := hI.rf.fz
      have HRW := toHX hI.rf
      rw [e23] at hRM4
      have HRM4 := toHX hRM4
      have HQP4 := toHX hqp4
      have HB4 := toHX hb4
      clear hRM4 hqp4 hb4 hall
      refine wpOp_hid rfl fun K HK => ?_
      simp only [e23, e24]
      go_simp
      refine HK.out _ _ ?_
      clear ho HK K hI HCV e23 e24
      obtain ⟨y0, hy0⟩ : ∃ y, y = fq 0 := ⟨_, rfl⟩
      rw [← hy0]
      obtain ⟨y1, hy1⟩ : ∃ y, y = fq 1 := ⟨_, rfl⟩
      rw [← hy1]
      obtain ⟨y2, hy2⟩ : ∃ y, y = fq 2 := ⟨_, rfl⟩
      rw [← hy2]
      obtain ⟨y3, hy3⟩ : ∃ y, y = fq 3 := ⟨_, rfl⟩
      rw [← hy3]
      obtain ⟨y4, hy4⟩ : ∃ y, y = fq 4 := ⟨_, rfl⟩
      rw [← hy4]
      obtain ⟨y5, hy5⟩ : ∃ y, y = fq 5 := ⟨_, rfl⟩
      rw [← hy5]
      obtain ⟨y6, hy6⟩ : ∃ y, y = fq 6 := ⟨_, rfl⟩
      rw [← hy6]
      obtain ⟨y7, hy7⟩ : ∃ y, y = fq 7 := ⟨_, rfl⟩
      rw [← hy7]
      obtain ⟨y8, hy8⟩ : ∃ y, y = fq 8 := ⟨_, rfl⟩
      rw [← hy8]
      obtain ⟨y9, hy9⟩ : ∃ y, y = fq 9 := ⟨_, rfl⟩
      rw [← hy9]
      obtain ⟨y10, hy10⟩ : ∃ y, y = fq 10 := ⟨_, rfl⟩
      rw [← hy10]
      obtain ⟨y11, hy11⟩ : ∃ y, y = fq 11 := ⟨_, rfl⟩
      rw [← hy11]
      obtain ⟨y12, hy12⟩ : ∃ y, y = fq 12 := ⟨_, rfl⟩
      rw [← hy12]
      obtain ⟨y13, hy13⟩ : ∃ y, y = fq 13 := ⟨_, rfl⟩
      rw [← hy13]
      obtain ⟨y14, hy14⟩ : ∃ y, y = fq 14 := ⟨_, rfl⟩
      rw [← hy14]
      obtain ⟨y15, hy15⟩ : ∃ y, y = fq 15 := ⟨_, rfl⟩
      rw [← hy15]
      obtain ⟨y16, hy16⟩ : ∃ y, y = fq 16 := ⟨_, rfl⟩
      rw [← hy16]
      obtain ⟨y17, hy17⟩ : ∃ y, y = fq 17 := ⟨_, rfl⟩
      rw [← hy17]
      obtain ⟨y18, hy18⟩ : ∃ y, y = fq 18 := ⟨_, rfl⟩
      rw [← hy18]
      obtain ⟨y19, hy19⟩ : ∃ y, y = fq 19 := ⟨_, rfl⟩
      rw [← hy19]
      obtain ⟨y20, hy20⟩ : ∃ y, y = fq 20 := ⟨_, rfl⟩
      rw [← hy20]
      obtain ⟨y21, hy21⟩ : ∃ y, y = fq 21 := ⟨_, rfl⟩
      rw [← hy21]
      obtain ⟨y22, hy22⟩ : ∃ y, y = fq 22 := ⟨_, rfl⟩
      rw [← hy22]
      clear hy0 hy1 hy2 hy3 hy4 hy5 hy6 hy7 hy8 hy9 hy10 hy11 hy12 hy13 hy14 hy15 hy16 hy17 hy18 hy19 hy20 hy21 hy22 fq l CV
      have HNX : Hid ((w'.setCell ⟨wo.heap.size, 1, none⟩ (.slice ad4 (rows.length + 1) cap4)).cell? ⟨wo.heap.size, 0, none⟩ = some (.string rs[k].name) ∧ (w'.setCell ⟨wo.heap.size, 1, none⟩ (.slice ad4 (rows.length + 1) cap4)).cell? ⟨wo.heap.size, 1, none⟩ = some (.slice ad4 (rows.length + 1) cap4) ∧ (w'.setCell ⟨wo.heap.size, 1, none⟩ (.slice ad4 (rows.length + 1) cap4)).frozen? ⟨wo.heap.size, 1, none⟩ = false) := ⟨by rw [setO' (by omega)]; exact HRW.out.n0, setS' n1, by simpa using fz⟩
      have HRX : Hid (RelM (w'.setCell ⟨wo.heap.size, 1, none⟩ (.slice ad4 (rows.length + 1) cap4)) (wo.heap.size + 1) (.slice ad4 (rows.length + 1) cap4) (rows ++ [q4])) := LotM.heap kidR HRM4.out (by simp) fun g hg => Below.heap_setCell _ _ _ g (by have := (LotM.lt kidR HRM4.out hg).1; show g ≠ wo.heap.size; omega)
      have HQX : Hid (rls (rows ++ [q4]) = (rls rs[k].rows).take (j + 1)) := by
       show _ = _
       rw [rls_snoc, HRQ.out, HQP4.out, List.take_succ_eq_append_getElem (by rw [rls_len]; exact hjt)]
       simp [rls, RR.p]
      have HBX : Hid (Below wo.heap.size W2 (w'.setCell ⟨wo.heap.size, 1, none⟩ (.slice ad4 (rows.length + 1) cap4))) := (HB3.out.trans (HB4.out.mono (by omega))).setCell (by show _ ≤ wo.heap.size; omega) _
      clear n1 fz HRW HRM4 HB4 HRF HRM HRO HN HR
      go_wp2_with fail
      go_roundw
      case rel => exact ⟨j + 1, .slice ad4 (rows.length + 1) cap4, rows ++ [q4], by omega, by go_num, HNX, HRX, HQX, HBX⟩
      case measure => first | (simp [intOf]; done) | (simp [intOf]; omega)
    ·obtain rfl : j = rs[k].rows.length := by omega
     have hown2 := HR.out.own
     obtain ⟨ad2, cap2, rfl⟩ := own_slice hown2
     obtain ⟨q, hq⟩ : ∃ q : TR, q = ⟨rs[k].name, rows, ad2, cap2⟩ := ⟨_, rfl⟩
     have HQP : Hid (q.p = rs[k].p) := by
      show _ = _
      rw [hq]
      have e := HRQ.out
      rw [List.take_of_length_le (by rw [rls_len]; exact Nat.le_refl _)] at e
      simp [TR.p, e]
     obtain ⟨W4, hW4⟩ : ∃ W4, W4 = wi.alloc (.cells #[.string rs[k].name, .slice ad2 rows.length cap2] 44) := ⟨_, rfl⟩
     have HA4 : Hid (Below wi.heap.size wi W4) := by show Below _ _ _; rw [hW4]; exact (Below.refl _ _).alloc (Nat.le_refl _) _
     have HBO4 : Hid (Below wo.heap.size wo W4) := HBO.out.trans (HA4.out.mono HBO.out.size)
     have HNW : Hid (∀ j u, (TR.cells q)[j]? = some u → W4.cell? ((⟨wi.heap.size, 0, none⟩ : Addr).add j) = some u) := by rw [hW4, hq]; exact cells2_new wi _ _ _
     have HKQ : Hid (kT W4 (wo.heap.size + 1) q) := by rw [hq]; exact LotM.below kidR HR.out HA4.out
     have HOW4 : Hid (W4.ownsRow w.heap.size 44 2 u3 qs.length (qs.flatMap TR.cells)) := own_heap HX.out.own fun g hg => HBO4.out.block g (HX.out.own.lt g hg).2
     have HWW : Hid (w.heap.size ≤ wo.heap.size) := HB.out.size
     obtain ⟨n0, n1, -⟩ := HN.out
     clear hq hown2
     go_wp2_with (at_builtin; go_must (rw [← hW4]; clear hW4; refine wpList_append_own_at _ rfl _ _ 24 rfl w.heap.size 44 iT (.agg #[.string ⟨#[]⟩, .slice none 0 0]) 2 40 Tryz.underlying24 HIT.out.1 HIT.out.2.1 HIT.out.2.2.1 HIT.out.2.2.2 rfl (by decide) u3 qs.length (qs.flatMap TR.cells) rfl HOW4.out ⟨wi.heap.size, 0, none⟩ 1 1 (TR.cells q) rfl rfl HNW.out (by simp [TR.cells, TR.vs, Value.oneCell']) (by unfold maxLen; omega) (by omega) (Nat.le_trans HWW.out HBO4.out.size) ?_))
     intro v5 w5 hown5 hgr5 _ hv5
     have HX5 : Hid (TypM w5 w.heap.size v5 (qs ++ [q])) := LotM.snocN kidT HX.out HBO4.out hown5 hgr5 (hv5.imp id fun e => ⟨_, e, Nat.le_refl _⟩) (RelM.mono HKQ.out (by have := HWW.out; omega)) (fun g hg => by have := (kidT.lt W4 _ q HKQ.out g hg).1; omega)
     have HQ5 : Hid (tys (qs ++ [q]) = (tys rs).take (k + 1)) := by
      show _ = _
      rw [tys_snoc, HQ.out, HQP.out, List.take_succ_eq_append_getElem (by rw [tys_len]; exact hlt)]
      simp [tys]
     have HB5 : Hid (Below w.heap.size w w5) := (HB.out.trans (HBO4.out.mono HB.out.size)).grown hgr5 (Nat.le_trans HWW.out HBO4.out.size) (fun g hg => (HX.out.own.lt g hg).1)
     clear hown5 hgr5 hv5 n0 n1 t0 t1 HOW4 HNW HKQ HN HR
     go_wp2
     go_roundw
     case rel => exact ⟨k + 1, qs ++ [q], by omega, by go_num, HX5, HQ5, HB5⟩
     case measure => first | (simp [intOf]; done) | (simp [intOf]; omega)
  ·obtain rfl : k = rs.length := by omega
   have HF : Hid (tys qs = tys rs) := by
    show _ = _
    rw [HQ.out, List.take_of_length_le (by rw [tys_len]; exact Nat.le_refl _)]
   go_wp2
   go_ret
   exact ⟨_, qs, rfl, HX.out, HF.out, HB.out⟩
end Go.Proofs.YtmghabcaakgjiaaGreat
