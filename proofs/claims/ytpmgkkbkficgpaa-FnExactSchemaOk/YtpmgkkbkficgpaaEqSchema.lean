/- Contracts of the law's helpers that hold two schemas against one another: true where both hold the same. -/
import Derived.Test.YtpmgkkbkficgpaaToSchema
namespace Go.Proofs.Ytpmgkkbkficgpaa
open Go.ChangeShapes Go.WideShapes Go.ChangeAt Go.RowKit
open Pl

set_option maxHeartbeats 1000000 in
theorem eqRelation_same (r r' : RR) (w : World) (he : r'.p = r.p) (hr : r.ok w) (hr' : r'.ok w) (hl : r.light) :
    Calls Try.prog 102 #[r.val, r'.val] w fun e w' => e = .returned (.bool true) ∧ Below w.heap.size w w' := by
  obtain ⟨name, rows, ad, cap⟩ := r
  obtain ⟨name', rows', ad', cap'⟩ := r'
  simp only [RR.p, Rl.mk.injEq] at he
  obtain ⟨rfl, he⟩ := he
  obtain ⟨l1, l2⟩ := hl
  have HO : Hid (SlE w ad rows) := hr
  have HO' : Hid (SlE w ad' rows') := hr'
  have HL : Hid (∀ q ∈ rows, q.e.light) := l2
  have HE : Hid (exs rows' = exs rows) := he
  simp only at l1
  simp only [RR.val]
  clear hr hr' l2 he
  have HB : Hid (Below w.heap.size w ((w.alloc (.cells #[.string name', .slice ad rows.length cap] 68)).alloc (.cells #[.string name', .slice ad' rows'.length cap'] 68))) := ((Below.refl w.heap.size w).alloc (Nat.le_refl _) _).alloc (by simp) _
  go_enter Try.func102, Try.ntmps102
  go_wp2_with fail
  refine (eqExprS_same ad ad' cap cap' rows rows' _ l1 HE.out (SlE.below HO.out HB.out) (SlE.below HO'.out HB.out) HL.out).mono ?_
  rintro e w1 ⟨rfl, hb1⟩
  have HB1 : Hid (Below w.heap.size w w1) := HB.out.trans (hb1.mono HB.out.size)
  clear hb1 HB
  go_wp2
  go_ret
  exact ⟨rfl, HB1.out⟩

theorem keepRR {wr W w' : World} {b b' o o' : Nat} {x0 x1 y0 y1 : Value} (h : W.cell? ⟨b, o, none⟩ = some x0 ∧ W.cell? ⟨b, o + 1, none⟩ = some x1 ∧ W.cell? ⟨b', o', none⟩ = some y0 ∧ W.cell? ⟨b', o' + 1, none⟩ = some y1 ∧ b < W.heap.size ∧ b' < W.heap.size ∧ Below wr.heap.size wr W) (hb : Below W.heap.size W w') :
    w'.cell? ⟨b, o, none⟩ = some x0 ∧ w'.cell? ⟨b, o + 1, none⟩ = some x1 ∧ w'.cell? ⟨b', o', none⟩ = some y0 ∧ w'.cell? ⟨b', o' + 1, none⟩ = some y1 ∧ b < w'.heap.size ∧ b' < w'.heap.size ∧ Below wr.heap.size wr w' := keep4 h hb
theorem keepBRR {wr W : World} {b b' o o' : Nat} {x0 x1 y0 y1 : Value} (h : W.cell? ⟨b, o, none⟩ = some x0 ∧ W.cell? ⟨b, o + 1, none⟩ = some x1 ∧ W.cell? ⟨b', o', none⟩ = some y0 ∧ W.cell? ⟨b', o' + 1, none⟩ = some y1 ∧ b < W.heap.size ∧ b' < W.heap.size ∧ Below wr.heap.size wr W) : Below wr.heap.size wr W := h.2.2.2.2.2.2

set_option maxHeartbeats 2000000 in
theorem eqRelationS_same (ad ad' : Option Addr) (cap cap' : Nat) (rs rs' : List RR) (w : World) (hlen : rs.length ≤ 1048576) (he : rls rs' = rls rs) (hs : SlR w ad rs) (hs' : SlR w ad' rs') (hl : ∀ r ∈ rs, r.light) :
    Calls Try.prog 81 #[.slice ad rs.length cap, .slice ad' rs'.length cap'] w fun e w' => e = .returned (.bool true) ∧ Below w.heap.size w w' := by
  have hll : rs'.length = rs.length := by rw [← rls_len, he, rls_len]
  have HSL : Hid (SlR w ad rs) := hs
  have HSM : Hid (SlR w ad' rs') := hs'
  have HLI : Hid (∀ r ∈ rs, r.light) := hl
  have HEE : Hid (rls rs' = rls rs) := he
  have HLL : Hid (rs'.length = rs.length) := hll
  rw [hll]
  clear hs hs' hl he hll
  go_enter Try.func81, Try.ntmps81
  go_wp2
  go_loopw [5] (fun i wr => ∃ k : Nat, k ≤ rs.length ∧ i = .int .i64 k ∧ Below w.heap.size w wr) (fun i _ => rs.length - (intOf i).toNat)
  case atStart => exact ⟨0, Nat.zero_le _, rfl, Below.refl _ _⟩
  case round =>
    obtain ⟨k, hk, rfl, hB⟩ := hrel
    by_cases hlt : k < rs.length
    · have hlt' : k < rs'.length := by rw [HLL.out]; exact hlt
      rcases HSL.out.below hB with rfl | ⟨b, off, rfl, hb, hr, hok⟩
      · simp at hlt
      rcases HSM.out.below hB with rfl | ⟨b', off', rfl, hb', hr', hok'⟩
      · simp at hlt'
      obtain ⟨t0, t1⟩ := hr k hlt
      obtain ⟨q0, q1⟩ := hr' k hlt'
      have HK1 : Hid (rs[k].ok wr) := hok rs[k] (List.getElem_mem hlt)
      have HK2 : Hid (rs'[k].ok wr) := hok' rs'[k] (List.getElem_mem hlt')
      have HK3 : Hid (rs'[k].p = rs[k].p) := by
        have h1 : (rls rs')[k]? = (rls rs)[k]? := by rw [HEE.out]
        show _ = _
        simpa [rls, hlt, hlt'] using h1
      have HK4 : Hid (rs[k].light) := HLI.out rs[k] (List.getElem_mem hlt)
      have hk1 : (0 : Int) ≤ (k : Int) := by omega
      have hk2 : (k : Int) < (rs.length : Int) := by omega
      clear hr hr' hok hok'
      go_wp2_with fail
      go_region_held3 (fun w' => w'.cell? ⟨b, off + k * 2, none⟩ = some (.string rs[k].name) ∧ w'.cell? ⟨b, off + k * 2 + 1, none⟩ = some (.slice rs[k].ad rs[k].rows.length rs[k].cap) ∧ w'.cell? ⟨b', off' + k * 2, none⟩ = some (.string rs'[k].name) ∧ w'.cell? ⟨b', off' + k * 2 + 1, none⟩ = some (.slice rs'[k].ad rs'[k].rows.length rs'[k].cap) ∧ b < w'.heap.size ∧ b' < w'.heap.size ∧ Below wr.heap.size wr w')
        (first | assumption | exact keepRR (by assumption) hbx | exact ⟨t0, t1, q0, q1, hb, hb', (Below.refl _ _).drew⟩)
        (first | (go_at_call 102; refine (eqRelation_same rs[k] rs'[k] _ HK3.out (HK1.out.below (keepBRR (by assumption))) (HK2.out.below (keepBRR (by assumption))) HK4.out).mono ?_; rintro e w' ⟨rfl, hbx⟩))
      rename_i hH
      obtain ⟨-, -, -, -, -, -, gB⟩ := hH
      clear t0 t1 q0 q1 hb hb'
      go_wp2
      go_roundw
      case rel => exact ⟨k + 1, by omega, by go_num, hB.trans (gB.mono hB.size)⟩
      case measure => simp [intOf]; omega
    · go_wp2
      go_ret
      exact ⟨rfl, hB⟩

set_option maxHeartbeats 1000000 in
theorem eqType_same (r r' : TR) (w : World) (he : r'.p = r.p) (hr : r.ok w) (hr' : r'.ok w) (hl : r.light) :
    Calls Try.prog 43 #[r.val, r'.val] w fun e w' => e = .returned (.bool true) ∧ Below w.heap.size w w' := by
  obtain ⟨name, rows, ad, cap⟩ := r
  obtain ⟨name', rows', ad', cap'⟩ := r'
  simp only [TR.p, Ty.mk.injEq] at he
  obtain ⟨rfl, he⟩ := he
  obtain ⟨l1, l2⟩ := hl
  have HO : Hid (SlR w ad rows) := hr
  have HO' : Hid (SlR w ad' rows') := hr'
  have HL : Hid (∀ q ∈ rows, q.light) := l2
  have HE : Hid (rls rows' = rls rows) := he
  simp only at l1
  simp only [TR.val]
  clear hr hr' l2 he
  have HB : Hid (Below w.heap.size w ((w.alloc (.cells #[.string name', .slice ad rows.length cap] 66)).alloc (.cells #[.string name', .slice ad' rows'.length cap'] 66))) := ((Below.refl w.heap.size w).alloc (Nat.le_refl _) _).alloc (by simp) _
  go_enter Try.func43, Try.ntmps43
  go_wp2_with fail
  refine (eqRelationS_same ad ad' cap cap' rows rows' _ l1 HE.out (SlR.below HO.out HB.out) (SlR.below HO'.out HB.out) HL.out).mono ?_
  rintro e w1 ⟨rfl, hb1⟩
  have HB1 : Hid (Below w.heap.size w w1) := HB.out.trans (hb1.mono HB.out.size)
  clear hb1 HB
  go_wp2
  go_ret
  exact ⟨rfl, HB1.out⟩

theorem keepTR {wr W w' : World} {b b' o o' : Nat} {x0 x1 y0 y1 : Value} (h : W.cell? ⟨b, o, none⟩ = some x0 ∧ W.cell? ⟨b, o + 1, none⟩ = some x1 ∧ W.cell? ⟨b', o', none⟩ = some y0 ∧ W.cell? ⟨b', o' + 1, none⟩ = some y1 ∧ b < W.heap.size ∧ b' < W.heap.size ∧ Below wr.heap.size wr W) (hb : Below W.heap.size W w') :
    w'.cell? ⟨b, o, none⟩ = some x0 ∧ w'.cell? ⟨b, o + 1, none⟩ = some x1 ∧ w'.cell? ⟨b', o', none⟩ = some y0 ∧ w'.cell? ⟨b', o' + 1, none⟩ = some y1 ∧ b < w'.heap.size ∧ b' < w'.heap.size ∧ Below wr.heap.size wr w' := keep4 h hb
theorem keepBTR {wr W : World} {b b' o o' : Nat} {x0 x1 y0 y1 : Value} (h : W.cell? ⟨b, o, none⟩ = some x0 ∧ W.cell? ⟨b, o + 1, none⟩ = some x1 ∧ W.cell? ⟨b', o', none⟩ = some y0 ∧ W.cell? ⟨b', o' + 1, none⟩ = some y1 ∧ b < W.heap.size ∧ b' < W.heap.size ∧ Below wr.heap.size wr W) : Below wr.heap.size wr W := h.2.2.2.2.2.2

set_option maxHeartbeats 2000000 in
theorem eqTypeS_same (ad ad' : Option Addr) (cap cap' : Nat) (rs rs' : List TR) (w : World) (hlen : rs.length ≤ 1048576) (he : tys rs' = tys rs) (hs : SlT w ad rs) (hs' : SlT w ad' rs') (hl : ∀ r ∈ rs, r.light) :
    Calls Try.prog 19 #[.slice ad rs.length cap, .slice ad' rs'.length cap'] w fun e w' => e = .returned (.bool true) ∧ Below w.heap.size w w' := by
  have hll : rs'.length = rs.length := by rw [← tys_len, he, tys_len]
  have HSL : Hid (SlT w ad rs) := hs
  have HSM : Hid (SlT w ad' rs') := hs'
  have HLI : Hid (∀ r ∈ rs, r.light) := hl
  have HEE : Hid (tys rs' = tys rs) := he
  have HLL : Hid (rs'.length = rs.length) := hll
  rw [hll]
  clear hs hs' hl he hll
  go_enter Try.func19, Try.ntmps19
  go_wp2
  go_loopw [5] (fun i wr => ∃ k : Nat, k ≤ rs.length ∧ i = .int .i64 k ∧ Below w.heap.size w wr) (fun i _ => rs.length - (intOf i).toNat)
  case atStart => exact ⟨0, Nat.zero_le _, rfl, Below.refl _ _⟩
  case round =>
    obtain ⟨k, hk, rfl, hB⟩ := hrel
    by_cases hlt : k < rs.length
    · have hlt' : k < rs'.length := by rw [HLL.out]; exact hlt
      rcases HSL.out.below hB with rfl | ⟨b, off, rfl, hb, hr, hok⟩
      · simp at hlt
      rcases HSM.out.below hB with rfl | ⟨b', off', rfl, hb', hr', hok'⟩
      · simp at hlt'
      obtain ⟨t0, t1⟩ := hr k hlt
      obtain ⟨q0, q1⟩ := hr' k hlt'
      have HK1 : Hid (rs[k].ok wr) := hok rs[k] (List.getElem_mem hlt)
      have HK2 : Hid (rs'[k].ok wr) := hok' rs'[k] (List.getElem_mem hlt')
      have HK3 : Hid (rs'[k].p = rs[k].p) := by
        have h1 : (tys rs')[k]? = (tys rs)[k]? := by rw [HEE.out]
        show _ = _
        simpa [tys, hlt, hlt'] using h1
      have HK4 : Hid (rs[k].light) := HLI.out rs[k] (List.getElem_mem hlt)
      have hk1 : (0 : Int) ≤ (k : Int) := by omega
      have hk2 : (k : Int) < (rs.length : Int) := by omega
      clear hr hr' hok hok'
      go_wp2_with fail
      go_region_held3 (fun w' => w'.cell? ⟨b, off + k * 2, none⟩ = some (.string rs[k].name) ∧ w'.cell? ⟨b, off + k * 2 + 1, none⟩ = some (.slice rs[k].ad rs[k].rows.length rs[k].cap) ∧ w'.cell? ⟨b', off' + k * 2, none⟩ = some (.string rs'[k].name) ∧ w'.cell? ⟨b', off' + k * 2 + 1, none⟩ = some (.slice rs'[k].ad rs'[k].rows.length rs'[k].cap) ∧ b < w'.heap.size ∧ b' < w'.heap.size ∧ Below wr.heap.size wr w')
        (first | assumption | exact keepTR (by assumption) hbx | exact ⟨t0, t1, q0, q1, hb, hb', (Below.refl _ _).drew⟩)
        (first | (go_at_call 43; refine (eqType_same rs[k] rs'[k] _ HK3.out (HK1.out.below (keepBTR (by assumption))) (HK2.out.below (keepBTR (by assumption))) HK4.out).mono ?_; rintro e w' ⟨rfl, hbx⟩))
      rename_i hH
      obtain ⟨-, -, -, -, -, -, gB⟩ := hH
      clear t0 t1 q0 q1 hb hb'
      go_wp2
      go_roundw
      case rel => exact ⟨k + 1, by omega, by go_num, hB.trans (gB.mono hB.size)⟩
      case measure => simp [intOf]; omega
    · go_wp2
      go_ret
      exact ⟨rfl, hB⟩

end Go.Proofs.Ytpmgkkbkficgpaa
