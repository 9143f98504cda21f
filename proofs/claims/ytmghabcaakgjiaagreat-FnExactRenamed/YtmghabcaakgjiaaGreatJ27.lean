/- Contracts of the law's helpers that look whether the marks of numbers and of pairs are held. -/
import Derived.Test.YtmghabcaakgjiaaGreatJ8
import Derived.Test.YtmghabcaakgjiaaGreatMark6
import Derived.Test.YtmghabcaakgjiaaGreatJ6
namespace Go.Proofs.YtmghabcaakgjiaaGreat
open Go.ChangeShapes Go.WideShapes Go.ChangeAt Go.RowKit
open Pl
set_option maxHeartbeats 1000000 in
theorem heldInt64S_any (ad : Option Addr) (cap : Nat) (zs : List Int) (k : Nat) (w : World) (hs : SlI w ad (mkI k zs)) (h1 : k + zs.length ≤ 1000000000) :
  Calls Tryz.prog 102 #[.slice ad zs.length cap, .int .i64 (k : Int)] w fun e w' => e = .returned (.int .i64 ((k + zs.length : Nat) : Int)) ∧ w' = w := by
 have HS : Hid (SlI w ad (mkI k zs)) := hs
 clear hs
 go_enter Tryz.func102, Tryz.ntmps102
 go_wp2
 go_loopw [1, 5] (fun kv i wr => ∃ j : Nat, j ≤ zs.length ∧ kv = .int .i64 ((k + j : Nat) : Int) ∧ i = .int .i64 (j : Int) ∧ wr = w) (fun _ i _ => zs.length - (intOf i).toNat)
 case atStart => exact ⟨0, Nat.zero_le _, rfl, rfl, rfl⟩
 case round =>
  obtain ⟨j, hj, rfl, rfl, rfl⟩ := hrel
  by_cases hlt : j < zs.length
  ·rcases HS.out with h | ⟨b, off, rfl, hb, hr⟩
   ·rw [mkI_nil] at h; rw [h] at hlt; simp at hlt
   have c0 := hr j (by rw [mkI_len]; exact hlt)
   rw [mkI_at] at c0
   have hj1 : (0 : Int) ≤ (j : Int) := by omega
   have hj2 : (j : Int) < (zs.length : Int) := by omega
   clear hr
   go_wp2
   go_roundw
   case rel => exact ⟨j + 1, by omega, by go_num, by go_num, by first | rfl | trivial⟩
   case measure => first | (simp [intOf]; done) | (simp [intOf]; omega)
  ·obtain rfl : j = zs.length := by omega
   go_wp2
   go_ret
   exact ⟨by go_num, rfl⟩
set_option maxHeartbeats 2000000 in
theorem heldAllowedS_any (ad : Option Addr) (cap : Nat) (xs : List Al) (k : Nat) (w : World) (hs : SlA w ad (mkA k xs)) (h0 : 0 < k) (h1 : k + 2 * xs.length ≤ 1000000000) :
  Calls Tryz.prog 101 #[.slice ad xs.length cap, .int .i64 (k : Int)] w fun e w' => e = .returned (.int .i64 ((k + 2 * xs.length : Nat) : Int)) ∧ Below w.heap.size w w' := by
 have HS : Hid (SlA w ad (mkA k xs)) := hs
 clear hs
 go_enter Tryz.func101, Tryz.ntmps101
 go_wp2
 go_loopw [1, 5] (fun kv i wr => ∃ j : Nat, j ≤ xs.length ∧ kv = .int .i64 ((k + 2 * j : Nat) : Int) ∧ i = .int .i64 (j : Int) ∧ Hid (Below w.heap.size w wr)) (fun _ i _ => xs.length - (intOf i).toNat)
 case atStart => exact ⟨0, Nat.zero_le _, rfl, rfl, Below.refl _ _⟩
 case round =>
  obtain ⟨j, hj, rfl, rfl, HB⟩ := hrel
  by_cases hlt : j < xs.length
  ·rcases HS.out.below HB.out with h | ⟨b, off, rfl, hb, hr⟩
   ·rw [mkA_nil] at h; rw [h] at hlt; simp at hlt
   obtain ⟨c0, c1⟩ := hr j (by rw [mkA_len]; exact hlt)
   rw [mkA_at] at c0 c1
   have hj1 : (0 : Int) ≤ (j : Int) := by omega
   have hj2 : (j : Int) < (xs.length : Int) := by omega
   clear hr
   go_wp2_with fail
   go_region_held3 (fun w' => w'.cell? ⟨b, off + j * 2, none⟩ = some (.string (mtx (k + 2 * j))) ∧ w'.cell? ⟨b, off + j * 2 + 1, none⟩ = some (.string (mtx (k + 2 * j + 1))) ∧ b < w'.heap.size ∧ Below w.heap.size w w')
    (first | assumption | exact keepA (by assumption) hbx | exact ⟨c0, c1, hb, HB.out.drew⟩)
    (first | (go_at_call 35; refine (markText_at _ (k + 2 * j) _ (by omega) (by omega) (by omega)).mono ?_; rintro e w' ⟨rfl, hbx⟩))
   rename_i hH
   obtain ⟨d0, d1, db, dB⟩ := hH
   clear c0 c1 hb
   have HD : Hid (Below w.heap.size w _) := dB
   clear dB
   go_wp2_with fail
   go_region_held3 (fun w' => w'.cell? ⟨b, off + j * 2, none⟩ = some (.string (mtx (k + 2 * j))) ∧ w'.cell? ⟨b, off + j * 2 + 1, none⟩ = some (.string (mtx (k + 2 * j + 1))) ∧ b < w'.heap.size ∧ Below w.heap.size w w')
    (first | assumption | exact keepA (by assumption) hbx | exact ⟨d0, d1, db, HD.out.drew⟩)
    (first | (go_at_call 35; refine (markText_at _ (k + 2 * j + 1) _ (by omega) (by omega) (by omega)).mono ?_; rintro e w' ⟨rfl, hbx⟩))
   rename_i hH
   obtain ⟨-, -, -, dB⟩ := hH
   have HB3 : Hid (Below w.heap.size w _) := dB
   clear dB d0 d1 db HD
   go_wp2
   go_roundw
   case rel => exact ⟨j + 1, by omega, by go_num, by go_num, HB3⟩
   case measure => first | (simp [intOf]; done) | (simp [intOf]; omega)
  ·obtain rfl : j = xs.length := by omega
   go_wp2
   go_ret
   exact ⟨by go_num, HB.out⟩
theorem heldAllowedS_at (x : Int) (ad : Option Addr) (cap : Nat) (xs : List Al) (k : Nat) (w : World) (hx : x = (k : Int)) (hs : SlA w ad (mkA k xs)) (h0 : 0 < k) (h1 : k + 2 * xs.length ≤ 1000000000) :
  Calls Tryz.prog 101 #[.slice ad xs.length cap, .int .i64 x] w fun e w' => e = .returned (.int .i64 ((k + 2 * xs.length : Nat) : Int)) ∧ Below w.heap.size w w' := by
 rw [hx]; exact heldAllowedS_any ad cap xs k w hs h0 h1
theorem heldInt64S_at (x : Int) (ad : Option Addr) (cap : Nat) (zs : List Int) (k : Nat) (w : World) (hx : x = (k : Int)) (hs : SlI w ad (mkI k zs)) (h1 : k + zs.length ≤ 1000000000) :
  Calls Tryz.prog 102 #[.slice ad zs.length cap, .int .i64 x] w fun e w' => e = .returned (.int .i64 ((k + zs.length : Nat) : Int)) ∧ w' = w := by
 rw [hx]; exact heldInt64S_any ad cap zs k w hs h1
end Go.Proofs.YtmghabcaakgjiaaGreat
namespace Go.Proofs.YtmghabcaakgjiaaGreat
open Go.ChangeShapes Go.WideShapes Go.ChangeAt Go.RowKit
open Pl
theorem keepH {w w1 w2 : World} {b o p q : Nat} {u v x : Value} (h : w1.cell? ⟨b, o, none⟩ = some u ∧ w1.cell? ⟨b, p, none⟩ = some v ∧ w1.cell? ⟨b, q, none⟩ = some x ∧ b < w1.heap.size ∧ Below w.heap.size w w1) (hb : Below w1.heap.size w1 w2) : w2.cell? ⟨b, o, none⟩ = some u ∧ w2.cell? ⟨b, p, none⟩ = some v ∧ w2.cell? ⟨b, q, none⟩ = some x ∧ b < w2.heap.size ∧ Below w.heap.size w w2 :=
 ⟨kept hb h.2.2.2.1 h.1, kept hb h.2.2.2.1 h.2.1, kept hb h.2.2.2.1 h.2.2.1, Nat.lt_of_lt_of_le h.2.2.2.1 hb.size, h.2.2.2.2.trans (hb.mono h.2.2.2.2.size)⟩
set_option maxRecDepth 8000 in
set_option maxHeartbeats 4000000 in
theorem heldExprS_any (ad : Option Addr) (cap : Nat) (rs : List ER) (k : Nat) (w : World) (hs : SlE w ad (mkE k rs)) (hl : ∀ r ∈ rs, r.e.light) (hlen : rs.length ≤ 1048576) (h0 : 0 < k) (h1 : k + wE rs ≤ 1000000000) :
  Calls Tryz.prog 73 #[.slice ad rs.length cap, .int .i64 (k : Int)] w fun e w' => e = .returned (.int .i64 ((k + wE rs : Nat) : Int)) ∧ Below w.heap.size w w' := by
 have HS : Hid (SlE w ad (mkE k rs)) := hs
 have HL : Hid (∀ r ∈ rs, r.e.light) := hl
 clear hs hl
 go_enter Tryz.func73, Tryz.ntmps73
 go_wp2
 go_loopw [1, 5] (fun kv i wr => ∃ j K : Nat, j ≤ rs.length ∧ Hid (K = k + wE (rs.take j)) ∧ kv = .int .i64 (K : Int) ∧ i = .int .i64 (j : Int) ∧ Hid (Below w.heap.size w wr)) (fun _ i _ => rs.length - (intOf i).toNat)
 case atStart => exact ⟨0, k, Nat.zero_le _, by show _ = _; simp [wE], rfl, rfl, Below.refl _ _⟩
 case round =>
  obtain ⟨j, K, hj, HK, rfl, rfl, HB⟩ := hrel
  by_cases hlt : j < rs.length
  ·have hjm : j < (mkE k rs).length := by rw [mkE_len]; exact hlt
   rcases HS.out.below HB.out with h | ⟨b, off, rfl, hb, hr, hok⟩
   ·rw [h] at hjm; simp at hjm
   have hrow : (mkE k rs)[j] = rs[j].mkd K := by rw [mkE_at k rs j hjm hlt, HK.out]
   obtain ⟨c0, c1, c2, c3, c4⟩ := hr j hjm
   have ho := hok _ (List.getElem_mem hjm)
   rw [hrow] at c0 c1 c2 c3 c4 ho
   have HOK : Hid ((rs[j].mkd K).ok wr) := ho
   replace c0 : wr.cell? ⟨b, off + j * 5, none⟩ = some (.int .i64 (K : Int)) := c0
   replace c1 : wr.cell? ⟨b, off + j * 5 + 1, none⟩ = some (.slice rs[j].adA rs[j].e.allow.length rs[j].capA) := by
    rw [c1]
    show some (Value.slice rs[j].adA (mkA _ _).length rs[j].capA) = _
    rw [mkA_len]
   replace c2 : wr.cell? ⟨b, off + j * 5 + 2, none⟩ = some (.string (mtx (K + 1 + 2 * rs[j].e.allow.length))) := c2
   replace c3 : wr.cell? ⟨b, off + j * 5 + 3, none⟩ = some (.string (mtx (K + 2 + 2 * rs[j].e.allow.length))) := c3
   replace c4 : wr.cell? ⟨b, off + j * 5 + 4, none⟩ = some (.slice rs[j].adK rs[j].e.kids.length rs[j].capK) := by
    rw [c4]
    show some (Value.slice rs[j].adK (mkI _ _).length rs[j].capK) = _
    rw [mkI_len]
   have hlg := HL.out rs[j] (List.getElem_mem hlt)
   have lA : rs[j].e.allow.length ≤ 1048576 := hlg.1
   have lK : rs[j].e.kids.length ≤ 1048576 := hlg.2
   have hKb : 0 < K ∧ K + wX rs[j].e ≤ 1000000000 := by
    have h2 := wE_le rs (j + 1)
    rw [wE_take _ _ hlt] at h2
    have := HK.out
    omega
   have hK0 := hKb.1
   have hK1 := hKb.2
   unfold wX at hK1
   have hj1 : (0 : Int) ≤ (j : Int) := by omega
   have hj2 : (j : Int) < (rs.length : Int) := by omega
   clear hKb hlg ho hr hok hrow hjm
   go_wp2_with fail
   refine (heldAllowedS_at _ _ _ rs[j].e.allow (K + 1) _ (by omega) HOK.out.1 (by omega) (by omega)).mono ?_
   rintro e w1 ⟨rfl, hb1⟩
   have HB1 : Hid (Below w.heap.size w w1) := HB.out.trans (hb1.mono HB.out.size)
   have HOK1 : Hid ((rs[j].mkd K).ok w1) := HOK.out.below hb1
   replace c2 := kept hb1 hb c2
   replace c3 := kept hb1 hb c3
   replace c4 := kept hb1 hb c4
   have hbw : b < w1.heap.size := Nat.lt_of_lt_of_le hb hb1.size
   clear hb1 c0 c1 hb HOK
   go_wp2_with fail
   go_region_held3 (fun w' => w'.cell? ⟨b, off + j * 5 + 2, none⟩ = some (.string (mtx (K + 1 + 2 * rs[j].e.allow.length))) ∧ w'.cell? ⟨b, off + j * 5 + 3, none⟩ = some (.string (mtx (K + 2 + 2 * rs[j].e.allow.length))) ∧ w'.cell? ⟨b, off + j * 5 + 4, none⟩ = some (.slice rs[j].adK rs[j].e.kids.length rs[j].capK) ∧ b < w'.heap.size ∧ Below w1.heap.size w1 w')
    (first | assumption | exact keepH (by assumption) hbx | exact ⟨c2, c3, c4, hbw, (Below.refl _ _).drew⟩)
    (first | (go_at_call 35; refine (markText_at _ (K + 1 + 2 * rs[j].e.allow.length) _ (by omega) (by omega) (by omega)).mono ?_; rintro e w' ⟨rfl, hbx⟩))
   rename_i hH
   obtain ⟨d2, d3, d4, db, dB⟩ := hH
   clear c2 c3 c4 hbw
   have HD : Hid (Below w1.heap.size w1 _) := dB
   clear dB
   go_wp2_with fail
   go_region_held3 (fun w' => w'.cell? ⟨b, off + j * 5 + 2, none⟩ = some (.string (mtx (K + 1 + 2 * rs[j].e.allow.length))) ∧ w'.cell? ⟨b, off + j * 5 + 3, none⟩ = some (.string (mtx (K + 2 + 2 * rs[j].e.allow.length))) ∧ w'.cell? ⟨b, off + j * 5 + 4, none⟩ = some (.slice rs[j].adK rs[j].e.kids.length rs[j].capK) ∧ b < w'.heap.size ∧ Below w1.heap.size w1 w')
    (first | assumption | exact keepH (by assumption) hbx | exact ⟨d2, d3, d4, db, HD.out.drew⟩)
    (first | (go_at_call 35; refine (markText_at _ (K + 2 + 2 * rs[j].e.allow.length) _ (by omega) (by omega) (by omega)).mono ?_; rintro e w' ⟨rfl, hbx⟩))
   rename_i hH
   obtain ⟨-, -, f4, fb, fB⟩ := hH
   have HF : Hid (Below w1.heap.size w1 _) := fB
   clear fB d2 d3 d4 db HD
   have HKN : Hid (K + 3 + 2 * rs[j].e.allow.length + rs[j].e.kids.length = k + wE (rs.take (j + 1))) := by
    show _ = _
    rw [wE_take _ _ hlt, HK.out]; unfold wX; omega
   go_wp2_with fail
   refine (heldInt64S_at _ _ _ rs[j].e.kids (K + 3 + 2 * rs[j].e.allow.length) _ (by omega) (HOK1.out.below HF.out).2 (by omega)).mono ?_
   rintro e w7 ⟨rfl, hw7⟩
   replace hw7 := hw7.symm
   subst hw7
   have HB7 : Hid (Below w.heap.size w _) := HB1.out.trans (HF.out.mono HB1.out.size)
   go_wp2
   go_roundw
   case rel => exact ⟨j + 1, K + 3 + 2 * rs[j].e.allow.length + rs[j].e.kids.length, by omega, HKN, by go_num, by go_num, HB7⟩
   case measure => first | (simp [intOf]; done) | (simp [intOf]; omega)
  ·obtain rfl : j = rs.length := by omega
   have HKE : Hid (K = k + wE rs) := by have := HK.out; rw [List.take_length] at this; exact this
   go_wp2
   go_ret
   exact ⟨by rw [← HKE.out]; rfl, HB.out⟩
end Go.Proofs.YtmghabcaakgjiaaGreat
namespace Go.Proofs.YtmghabcaakgjiaaGreat
open Go.ChangeShapes Go.WideShapes Go.ChangeAt Go.RowKit
open Pl
theorem keepH2 {w w1 w2 : World} {b o p : Nat} {u v : Value} (h : w1.cell? ⟨b, o, none⟩ = some u ∧ w1.cell? ⟨b, p, none⟩ = some v ∧ b < w1.heap.size ∧ Below w.heap.size w w1) (hb : Below w1.heap.size w1 w2) : w2.cell? ⟨b, o, none⟩ = some u ∧ w2.cell? ⟨b, p, none⟩ = some v ∧ b < w2.heap.size ∧ Below w.heap.size w w2 :=
 ⟨kept hb h.2.2.1 h.1, kept hb h.2.2.1 h.2.1, Nat.lt_of_lt_of_le h.2.2.1 hb.size, h.2.2.2.trans (hb.mono h.2.2.2.size)⟩
theorem heldExprS_in (x : Int) (ad : Option Addr) (cap : Nat) (rs : List ER) (k : Nat) (w : World) (hx : x = (k : Int)) (hs : SlE w ad (mkE k rs)) (hl : ∀ r ∈ rs, r.e.light) (hlen : rs.length ≤ 1048576) (h0 : 0 < k) (h1 : k + wE rs ≤ 1000000000) :
  Calls Tryz.prog 73 #[.slice ad rs.length cap, .int .i64 x] w fun e w' => e = .returned (.int .i64 ((k + wE rs : Nat) : Int)) ∧ Below w.heap.size w w' := by
 rw [hx]; exact heldExprS_any ad cap rs k w hs hl hlen h0 h1
set_option maxRecDepth 8000 in
set_option maxHeartbeats 4000000 in
theorem heldRelationS_any (ad : Option Addr) (cap : Nat) (rs : List RR) (k : Nat) (w : World) (hs : SlR w ad (mkR k rs)) (hl : ∀ r ∈ rs, r.light) (hlen : rs.length ≤ 1048576) (h0 : 0 < k) (h1 : k + wR rs ≤ 1000000000) :
  Calls Tryz.prog 37 #[.slice ad rs.length cap, .int .i64 (k : Int)] w fun e w' => e = .returned (.int .i64 ((k + wR rs : Nat) : Int)) ∧ Below w.heap.size w w' := by
 have HS : Hid (SlR w ad (mkR k rs)) := hs
 have HL : Hid (∀ r ∈ rs, r.light) := hl
 clear hs hl
 go_enter Tryz.func37, Tryz.ntmps37
 go_wp2
 go_loopw [1, 5] (fun kv i wr => ∃ j K : Nat, j ≤ rs.length ∧ Hid (K = k + wR (rs.take j)) ∧ kv = .int .i64 (K : Int) ∧ i = .int .i64 (j : Int) ∧ Hid (Below w.heap.size w wr)) (fun _ i _ => rs.length - (intOf i).toNat)
 case atStart => exact ⟨0, k, Nat.zero_le _, by show _ = _; simp [wR], rfl, rfl, Below.refl _ _⟩
 case round =>
  obtain ⟨j, K, hj, HK, rfl, rfl, HB⟩ := hrel
  by_cases hlt : j < rs.length
  ·have hjm : j < (mkR k rs).length := by rw [mkR_len]; exact hlt
   rcases HS.out.below HB.out with h | ⟨b, off, rfl, hb, hr, hok⟩
   ·rw [h] at hjm; simp at hjm
   have hrow : (mkR k rs)[j] = rs[j].mkd K := by rw [mkR_at k rs j hjm hlt, HK.out]
   obtain ⟨c0, c1⟩ := hr j hjm
   have ho := hok _ (List.getElem_mem hjm)
   rw [hrow] at c0 c1 ho
   have HOK : Hid (SlE wr rs[j].ad (mkE (K + 1) rs[j].rows)) := ho
   replace c0 : wr.cell? ⟨b, off + j * 2, none⟩ = some (.string (mtx K)) := c0
   replace c1 : wr.cell? ⟨b, off + j * 2 + 1, none⟩ = some (.slice rs[j].ad rs[j].rows.length rs[j].cap) := by
    rw [c1]
    show some (Value.slice rs[j].ad (mkE _ _).length rs[j].cap) = _
    rw [mkE_len]
   have HLG : Hid (rs[j].light) := HL.out rs[j] (List.getElem_mem hlt)
   have hKb : 0 < K ∧ K + (1 + wE rs[j].rows) ≤ 1000000000 := by
    have h2 := wR_le rs (j + 1)
    rw [wR_take _ _ hlt] at h2
    have := HK.out
    omega
   have hK0 := hKb.1
   have hK1 := hKb.2
   have hj1 : (0 : Int) ≤ (j : Int) := by omega
   have hj2 : (j : Int) < (rs.length : Int) := by omega
   clear hKb ho hr hok hrow hjm
   go_wp2_with fail
   go_region_held3 (fun w' => w'.cell? ⟨b, off + j * 2, none⟩ = some (.string (mtx K)) ∧ w'.cell? ⟨b, off + j * 2 + 1, none⟩ = some (.slice rs[j].ad rs[j].rows.length rs[j].cap) ∧ b < w'.heap.size ∧ Below wr.heap.size wr w')
    (first | assumption | exact keepH2 (by assumption) hbx | exact ⟨c0, c1, hb, (Below.refl _ _).drew⟩)
    (first | (go_at_call 35; refine (markText_at _ K _ (by omega) (by omega) (by omega)).mono ?_; rintro e w' ⟨rfl, hbx⟩))
   rename_i hH
   obtain ⟨d0, d1, db, dB⟩ := hH
   clear c0 c1 hb
   have HD : Hid (Below wr.heap.size wr _) := dB
   clear dB
   have HKN : Hid (K + 1 + wE rs[j].rows = k + wR (rs.take (j + 1))) := by
    show _ = _
    rw [wR_take _ _ hlt, HK.out]; omega
   go_wp2_with fail
   refine (heldExprS_in _ rs[j].ad rs[j].cap rs[j].rows (K + 1) _ (by omega) (HOK.out.below HD.out) HLG.out.2 HLG.out.1 (by omega) (by omega)).mono ?_
   rintro e w7 ⟨rfl, hb7⟩
   have HB7 : Hid (Below w.heap.size w w7) := HB.out.trans ((HD.out.trans (hb7.mono HD.out.size)).mono HB.out.size)
   clear hb7 d0 d1 db
   go_wp2
   go_roundw
   case rel => exact ⟨j + 1, K + 1 + wE rs[j].rows, by omega, HKN, by go_num, by go_num, HB7⟩
   case measure => first | (simp [intOf]; done) | (simp [intOf]; omega)
  ·obtain rfl : j = rs.length := by omega
   have HKE : Hid (K = k + wR rs) := by have := HK.out; rw [List.take_length] at this; exact this
   go_wp2
   go_ret
   exact ⟨by rw [← HKE.out]; rfl, HB.out⟩
theorem heldRelationS_in (x : Int) (ad : Option Addr) (cap : Nat) (rs : List RR) (k : Nat) (w : World) (hx : x = (k : Int)) (hs : SlR w ad (mkR k rs)) (hl : ∀ r ∈ rs, r.light) (hlen : rs.length ≤ 1048576) (h0 : 0 < k) (h1 : k + wR rs ≤ 1000000000) :
  Calls Tryz.prog 37 #[.slice ad rs.length cap, .int .i64 x] w fun e w' => e = .returned (.int .i64 ((k + wR rs : Nat) : Int)) ∧ Below w.heap.size w w' := by
 rw [hx]; exact heldRelationS_any ad cap rs k w hs hl hlen h0 h1
set_option maxRecDepth 8000 in
set_option maxHeartbeats 4000000 in
theorem heldTypeS_any (ad : Option Addr) (cap : Nat) (rs : List TR) (k : Nat) (w : World) (hs : SlT w ad (mkT k rs)) (hl : ∀ r ∈ rs, r.light) (hlen : rs.length ≤ 1048576) (h0 : 0 < k) (h1 : k + wT rs ≤ 1000000000) :
  Calls Tryz.prog 12 #[.slice ad rs.length cap, .int .i64 (k : Int)] w fun e w' => e = .returned (.int .i64 ((k + wT rs : Nat) : Int)) ∧ Below w.heap.size w w' := by
 have HS : Hid (SlT w ad (mkT k rs)) := hs
 have HL : Hid (∀ r ∈ rs, r.light) := hl
 clear hs hl
 go_enter Tryz.func12, Tryz.ntmps12
 go_wp2
 go_loopw [1, 5] (fun kv i wr => ∃ j K : Nat, j ≤ rs.length ∧ Hid (K = k + wT (rs.take j)) ∧ kv = .int .i64 (K : Int) ∧ i = .int .i64 (j : Int) ∧ Hid (Below w.heap.size w wr)) (fun _ i _ => rs.length - (intOf i).toNat)
 case atStart => exact ⟨0, k, Nat.zero_le _, by show _ = _; simp [wT], rfl, rfl, Below.refl _ _⟩
 case round =>
  obtain ⟨j, K, hj, HK, rfl, rfl, HB⟩ := hrel
  by_cases hlt : j < rs.length
  ·have hjm : j < (mkT k rs).length := by rw [mkT_len]; exact hlt
   rcases HS.out.below HB.out with h | ⟨b, off, rfl, hb, hr, hok⟩
   ·rw [h] at hjm; simp at hjm
   have hrow : (mkT k rs)[j] = rs[j].mkd K := by rw [mkT_at k rs j hjm hlt, HK.out]
   obtain ⟨c0, c1⟩ := hr j hjm
   have ho := hok _ (List.getElem_mem hjm)
   rw [hrow] at c0 c1 ho
   have HOK : Hid (SlR wr rs[j].ad (mkR (K + 1) rs[j].rows)) := ho
   replace c0 : wr.cell? ⟨b, off + j * 2, none⟩ = some (.string (mtx K)) := c0
   replace c1 : wr.cell? ⟨b, off + j * 2 + 1, none⟩ = some (.slice rs[j].ad rs[j].rows.length rs[j].cap) := by
    rw [c1]
    show some (Value.slice rs[j].ad (mkR _ _).length rs[j].cap) = _
    rw [mkR_len]
   have HLG : Hid (rs[j].light) := HL.out rs[j] (List.getElem_mem hlt)
   have hKb : 0 < K ∧ K + (1 + wR rs[j].rows) ≤ 1000000000 := by
    have h2 := wT_le rs (j + 1)
    rw [wT_take _ _ hlt] at h2
    have := HK.out
    omega
   have hK0 := hKb.1
   have hK1 := hKb.2
   have hj1 : (0 : Int) ≤ (j : Int) := by omega
   have hj2 : (j : Int) < (rs.length : Int) := by omega
   clear hKb ho hr hok hrow hjm
   go_wp2_with fail
   go_region_held3 (fun w' => w'.cell? ⟨b, off + j * 2, none⟩ = some (.string (mtx K)) ∧ w'.cell? ⟨b, off + j * 2 + 1, none⟩ = some (.slice rs[j].ad rs[j].rows.length rs[j].cap) ∧ b < w'.heap.size ∧ Below wr.heap.size wr w')
    (first | assumption | exact keepH2 (by assumption) hbx | exact ⟨c0, c1, hb, (Below.refl _ _).drew⟩)
    (first | (go_at_call 35; refine (markText_at _ K _ (by omega) (by omega) (by omega)).mono ?_; rintro e w' ⟨rfl, hbx⟩))
   rename_i hH
   obtain ⟨d0, d1, db, dB⟩ := hH
   clear c0 c1 hb
   have HD : Hid (Below wr.heap.size wr _) := dB
   clear dB
   have HKN : Hid (K + 1 + wR rs[j].rows = k + wT (rs.take (j + 1))) := by
    show _ = _
    rw [wT_take _ _ hlt, HK.out]; omega
   go_wp2_with fail
   refine (heldRelationS_in _ rs[j].ad rs[j].cap rs[j].rows (K + 1) _ (by omega) (HOK.out.below HD.out) HLG.out.2 HLG.out.1 (by omega) (by omega)).mono ?_
   rintro e w7 ⟨rfl, hb7⟩
   have HB7 : Hid (Below w.heap.size w w7) := HB.out.trans ((HD.out.trans (hb7.mono HD.out.size)).mono HB.out.size)
   clear hb7 d0 d1 db
   go_wp2
   go_roundw
   case rel => exact ⟨j + 1, K + 1 + wR rs[j].rows, by omega, HKN, by go_num, by go_num, HB7⟩
   case measure => first | (simp [intOf]; done) | (simp [intOf]; omega)
  ·obtain rfl : j = rs.length := by omega
   have HKE : Hid (K = k + wT rs) := by have := HK.out; rw [List.take_length] at this; exact this
   go_wp2
   go_ret
   exact ⟨by rw [← HKE.out]; rfl, HB.out⟩
end Go.Proofs.YtmghabcaakgjiaaGreat
namespace Go.Proofs.YtmghabcaakgjiaaGreat
open Go.ChangeShapes Go.WideShapes Go.ChangeAt Go.RowKit
open Pl
def cX (e : Ex) : Nat := e.allow.length + e.kids.length
def sX : List ER → Nat
 | [] => 0
 | r :: rs => cX r.e + sX rs
def sR : List RR → Nat
 | [] => 0
 | r :: rs => (r.rows.length + sX r.rows) + sR rs
def sT : List TR → Nat
 | [] => 0
 | r :: rs => (r.rows.length + sR r.rows) + sT rs
theorem sX_append : ∀ xs ys : List ER, sX (xs ++ ys) = sX xs + sX ys
 | [], ys => by simp [sX]
 | x :: xs, ys => by rw [List.cons_append]; simp only [sX]; rw [sX_append xs ys]; omega
theorem sX_take (rs : List ER) (j : Nat) (h : j < rs.length) : sX (rs.take (j + 1)) = sX (rs.take j) + cX rs[j].e := by
 rw [List.take_succ_eq_append_getElem h, sX_append]; simp [sX]
theorem sR_append : ∀ xs ys : List RR, sR (xs ++ ys) = sR xs + sR ys
 | [], ys => by simp [sR]
 | x :: xs, ys => by rw [List.cons_append]; simp only [sR]; rw [sR_append xs ys]; omega
theorem sR_take (rs : List RR) (j : Nat) (h : j < rs.length) : sR (rs.take (j + 1)) = sR (rs.take j) + (rs[j].rows.length + sX rs[j].rows) := by
 rw [List.take_succ_eq_append_getElem h, sR_append]; simp [sR]
theorem sT_append : ∀ xs ys : List TR, sT (xs ++ ys) = sT xs + sT ys
 | [], ys => by simp [sT]
 | x :: xs, ys => by rw [List.cons_append]; simp only [sT]; rw [sT_append xs ys]; omega
theorem sT_take (rs : List TR) (j : Nat) (h : j < rs.length) : sT (rs.take (j + 1)) = sT (rs.take j) + (rs[j].rows.length + sR rs[j].rows) := by
 rw [List.take_succ_eq_append_getElem h, sT_append]; simp [sT]
theorem wE_sX : ∀ rs : List ER, wE rs ≤ 3 * (rs.length + sX rs)
 | [] => by simp [wE]
 | r :: rs => by
  have := wE_sX rs
  simp only [wE, sX, wX, cX, List.length_cons]; omega
theorem wR_sR : ∀ rs : List RR, wR rs ≤ rs.length + 3 * sR rs
 | [] => by simp [wR]
 | r :: rs => by
  have h1 := wR_sR rs
  have h2 := wE_sX r.rows
  simp only [wR, sR, List.length_cons]; omega
theorem wT_sT : ∀ rs : List TR, wT rs ≤ rs.length + 3 * (sT rs)
 | [] => by simp [wT]
 | r :: rs => by
  have h1 := wT_sT rs
  have h2 := wR_sR r.rows
  simp only [wT, sT, List.length_cons]; omega
theorem szInt64S_w (ad : Option Addr) (len cap : Nat) (left : Int) (w : World) (hl : len ≤ maxLen) (h0 : 0 ≤ left) (h1 : left ≤ 1048576) :
  Calls Tryz.prog 136 #[.slice ad len cap, .int .i64 left] w fun e w' => (∃ n : Int, e = .returned (.int .i64 n) ∧ (n = -1 ∨ 0 ≤ n ∧ n + len ≤ left ∧ (len : Int) ≤ left)) ∧ w' = w := by
 unfold maxLen at hl
 by_cases hneg : left - len < 0
 ·go_enter Tryz.func136, Tryz.ntmps136
  go_wp2
  go_ret
  exact ⟨⟨-1, rfl, .inl rfl⟩, rfl⟩
 ·go_enter Tryz.func136, Tryz.ntmps136
  go_wp2
  go_ret
  exact ⟨⟨_, rfl, .inr ⟨by omega, by omega, by omega⟩⟩, rfl⟩
set_option maxHeartbeats 400000 in
theorem szAllowedS_w (ad : Option Addr) (cap : Nat) (xs : List Al) (left : Int) (w : World) (hlen : xs.length ≤ maxLen) (hs : SlA w ad xs) (hf : ∀ a ∈ xs, a.fits) (h0 : 0 ≤ left) (h1 : left ≤ 1048576) :
  Calls Tryz.prog 135 #[.slice ad xs.length cap, .int .i64 left] w fun e w' => (∃ n : Int, e = .returned (.int .i64 n) ∧ (n = -1 ∨ 0 ≤ n ∧ n + xs.length ≤ left ∧ (xs.length : Int) ≤ left)) ∧ Below w.heap.size w w' := by
 unfold maxLen at hlen
 by_cases hneg : left - xs.length < 0
 ·go_enter Tryz.func135, Tryz.ntmps135
  go_wp2
  go_ret
  exact ⟨⟨-1, rfl, .inl rfl⟩, Below.refl _ _⟩
 ·go_enter Tryz.func135, Tryz.ntmps135
  go_wp2
  go_loopw [1, 5] (fun l i wr => ∃ (k : Nat) (x : Int), k ≤ xs.length ∧ i = .int .i64 k ∧ l = .int .i64 x ∧ 0 ≤ x ∧ x + xs.length ≤ left ∧ Below w.heap.size w wr) (fun _ i _ => xs.length - (intOf i).toNat)
  case atStart => exact ⟨0, _, Nat.zero_le _, rfl, rfl, by omega, by omega, Below.refl _ _⟩
  case round =>
   obtain ⟨k, x, hk, rfl, rfl, hx0, hx1, hB⟩ := hrel
   by_cases hlt : k < xs.length
   ·rcases hs.below hB with rfl | ⟨b, off, rfl, hb, hr⟩
    ·simp at hlt
    obtain ⟨t0, t1⟩ := hr k hlt
    obtain ⟨f0, f1⟩ := hf xs[k] (List.getElem_mem hlt)
    clear hr hs
    go_wp2_with fail
    refine (szAllowed_any _ _ _ _ f0 f1 hx0 (by omega)).mono ?_
    rintro e w1 ⟨⟨n, rfl, hn⟩, hb1⟩
    rcases hn with rfl | ⟨hn0, hn1⟩
    ·go_wp2
     go_ret
     exact ⟨⟨-1, rfl, .inl rfl⟩, hB.trans (hb1.mono hB.size)⟩
    ·go_wp2
     go_roundw
     case rel => exact ⟨k + 1, _, by omega, by go_num, rfl, by omega, by omega, hB.trans (hb1.mono hB.size)⟩
     case measure => simp [intOf]; omega
   ·go_wp2
    go_ret
    exact ⟨⟨x, rfl, .inr ⟨hx0, hx1, by omega⟩⟩, hB⟩
set_option maxHeartbeats 800000 in
theorem szExpr_w (r : ER) (left : Int) (w : World) (hr : r.ok w) (hf : r.e.fits) (h0 : 0 ≤ left) (h1 : left ≤ 1048576) :
  Calls Tryz.prog 124 #[r.val, .int .i64 left] w fun e w' => (∃ n : Int, e = .returned (.int .i64 n) ∧ (n = -1 ∨ 0 ≤ n ∧ n + (cX r.e : Nat) ≤ left ∧ r.e.light)) ∧ Below w.heap.size w w' := by
 obtain ⟨⟨kind, allow, over, name, kids⟩, adA, capA, adK, capK⟩ := r
 obtain ⟨hA, hK⟩ := hr
 obtain ⟨f1, f2, f3, f4, f5⟩ := hf
 simp only at hA hK f1 f2 f3 f4 f5
 have g2 := f2
 have g3 := f3
 unfold maxLen at g2 g3
 simp only [ER.val, Ex.light, cX]
 have HB : Hid (Below w.heap.size w (w.alloc (.cells #[.int .i64 kind, .slice adA allow.length capA, .string over, .string name, .slice adK kids.length capK] 171))) := (Below.refl w.heap.size w).alloc (Nat.le_refl _) _
 go_enter Tryz.func124, Tryz.ntmps124
 go_wp2_with fail
 refine (szAllowedS_w adA capA allow left _ f4 (hA.below HB.out) f1 h0 h1).mono ?_
 rintro e w1 ⟨⟨n, rfl, hn⟩, hb1⟩
 have HB1 : Hid (Below w.heap.size w w1) := HB.out.trans (hb1.mono HB.out.size)
 have c2 : w1.cell? ⟨w.heap.size, 2, none⟩ = some (.string over) := by rw [hb1.cell (p := ⟨w.heap.size, 2, none⟩) (by simp)]; simp
 have c3 : w1.cell? ⟨w.heap.size, 3, none⟩ = some (.string name) := by rw [hb1.cell (p := ⟨w.heap.size, 3, none⟩) (by simp)]; simp
 have c4 : w1.cell? ⟨w.heap.size, 4, none⟩ = some (.slice adK kids.length capK) := by rw [hb1.cell (p := ⟨w.heap.size, 4, none⟩) (by simp)]; simp
 clear hb1 HB
 rcases hn with rfl | ⟨hn0, hn1, hn2⟩
 ·go_wp2
  go_ret
  exact ⟨⟨-1, rfl, .inl rfl⟩, HB1.out⟩
 by_cases h3 : n - over.size < 0
 ·go_wp2
  go_ret
  exact ⟨⟨-1, rfl, .inl rfl⟩, HB1.out⟩
 by_cases h4 : n - over.size - name.size < 0
 ·go_wp2
  go_ret
  exact ⟨⟨-1, rfl, .inl rfl⟩, HB1.out⟩
 go_wp2_with fail
 refine (szInt64S_w adK kids.length capK _ _ f5 (by omega) (by omega)).mono ?_
 rintro e w2 ⟨⟨n2, rfl, hm⟩, rfl⟩
 rcases hm with rfl | ⟨hm0, hm1, hm2⟩
 ·go_wp2
  go_ret
  exact ⟨⟨-1, rfl, .inl rfl⟩, HB1.out⟩
 ·go_wp2
  go_ret
  exact ⟨⟨n2, rfl, .inr ⟨hm0, by omega, by omega, by omega⟩⟩, HB1.out⟩
set_option maxHeartbeats 800000 in
theorem szExprS_w (ad : Option Addr) (cap : Nat) (rs : List ER) (left : Int) (w : World) (hlen : rs.length ≤ maxLen) (hs : SlE w ad rs) (hf : ∀ r ∈ rs, r.e.fits) (h0 : 0 ≤ left) (h1 : left ≤ 1048576) :
  Calls Tryz.prog 104 #[.slice ad rs.length cap, .int .i64 left] w fun e w' => (∃ n : Int, e = .returned (.int .i64 n) ∧ (n = -1 ∨ 0 ≤ n ∧ n + (rs.length + sX rs : Nat) ≤ left ∧ (rs.length : Int) ≤ left ∧ ∀ r ∈ rs, r.e.light)) ∧ Below w.heap.size w w' := by
 unfold maxLen at hlen
 by_cases hneg : left - rs.length < 0
 ·go_enter Tryz.func104, Tryz.ntmps104
  go_wp2
  go_ret
  exact ⟨⟨-1, rfl, .inl rfl⟩, Below.refl _ _⟩
 ·go_enter Tryz.func104, Tryz.ntmps104
  go_wp2
  go_loopw [1, 5] (fun l i wr => ∃ (k : Nat) (x : Int), k ≤ rs.length ∧ i = .int .i64 k ∧ l = .int .i64 x ∧ 0 ≤ x ∧ x + (rs.length + sX (rs.take k) : Nat) ≤ left ∧ Hid (∀ r ∈ rs.take k, r.e.light) ∧ Below w.heap.size w wr) (fun _ i _ => rs.length - (intOf i).toNat)
  case atStart => exact ⟨0, _, Nat.zero_le _, rfl, rfl, by omega, by simp only [List.take_zero, sX]; omega, (by intro r hr; simp at hr), Below.refl _ _⟩
  case round =>
   obtain ⟨k, x, hk, rfl, rfl, hx0, hx1, HL, hB⟩ := hrel
   by_cases hlt : k < rs.length
   ·rcases hs.below hB with rfl | ⟨b, off, rfl, hb, hr, hok⟩
    ·simp at hlt
    obtain ⟨t0, t1, t2, t3, t4⟩ := hr k hlt
    have ok := hok rs[k] (List.getElem_mem hlt)
    have ft := hf rs[k] (List.getElem_mem hlt)
    clear hr hs hok
    go_wp2_with fail
    refine (szExpr_w rs[k] x _ ok ft hx0 (by omega)).mono ?_
    rintro e w1 ⟨⟨n, rfl, hn⟩, hb1⟩
    have HST : Hid (sX (rs.take (k + 1)) = _) := sX_take rs k hlt
    rcases hn with rfl | ⟨hn0, hn1, hn2⟩
    ·go_wp2
     go_ret
     exact ⟨⟨-1, rfl, .inl rfl⟩, hB.trans (hb1.mono hB.size)⟩
    ·have HL2 : Hid (∀ r ∈ rs.take (k + 1), r.e.light) := by
      intro r hr
      rw [List.take_succ_eq_append_getElem hlt, List.mem_append, List.mem_singleton] at hr
      rcases hr with hr | rfl
      ·exact HL.out r hr
      ·exact hn2
     clear hn2 ok ft
     go_wp2
     go_roundw
     case rel => exact ⟨k + 1, _, by omega, by go_num, rfl, by omega, by rw [HST.out]; omega, HL2, hB.trans (hb1.mono hB.size)⟩
     case measure => simp [intOf]; omega
   ·have HX1 : Hid (x + (rs.length + sX rs : Nat) ≤ left) := by have := hx1; rw [List.take_of_length_le (by omega)] at this; exact this
    have HL2 : Hid (∀ r ∈ rs, r.e.light) := fun r hr => HL.out r (by rw [List.take_of_length_le (by omega)]; exact hr)
    go_wp2
    go_ret
    exact ⟨⟨x, rfl, .inr ⟨hx0, HX1.out, by omega, HL2.out⟩⟩, hB⟩
set_option maxHeartbeats 800000 in
theorem szRelation_w (r : RR) (left : Int) (w : World) (hr : r.ok w) (hf : r.fits) (h0 : 0 ≤ left) (h1 : left ≤ 1048576) :
  Calls Tryz.prog 77 #[r.val, .int .i64 left] w fun e w' => (∃ n : Int, e = .returned (.int .i64 n) ∧ (n = -1 ∨ 0 ≤ n ∧ n + (r.rows.length + sX r.rows : Nat) ≤ left ∧ r.light)) ∧ Below w.heap.size w w' := by
 obtain ⟨name, rows, ad, cap⟩ := r
 obtain ⟨f1, f2, f3⟩ := hf
 have HO : Hid (SlE w ad rows) := hr
 have HF : Hid (∀ q ∈ rows, q.e.fits) := f3
 simp only at f1 f2
 have g1 := f1
 unfold maxLen at g1
 simp only [RR.val, RR.light]
 clear hr f3
 have HB : Hid (Below w.heap.size w (w.alloc (.cells #[.string name, .slice ad rows.length cap] 116))) := (Below.refl w.heap.size w).alloc (Nat.le_refl _) _
 by_cases h3 : left - name.size < 0
 ·go_enter Tryz.func77, Tryz.ntmps77
  go_wp2
  go_ret
  exact ⟨⟨-1, rfl, .inl rfl⟩, HB.out⟩
 go_enter Tryz.func77, Tryz.ntmps77
 go_wp2_with fail
 refine (szExprS_w ad cap rows _ _ f2 (SlE.below HO.out HB.out) HF.out (by omega) (by omega)).mono ?_
 rintro e w1 ⟨⟨n, rfl, hn⟩, hb1⟩
 have HB1 : Hid (Below w.heap.size w w1) := HB.out.trans (hb1.mono HB.out.size)
 clear hb1 HB
 rcases hn with rfl | ⟨hn0, hn1, hn2, hn3⟩
 ·go_wp2
  go_ret
  exact ⟨⟨-1, rfl, .inl rfl⟩, HB1.out⟩
 ·have HL : Hid (∀ q ∈ rows, q.e.light) := hn3
  clear hn3
  go_wp2
  go_ret
  exact ⟨⟨n, rfl, .inr ⟨hn0, by omega, by omega, HL.out⟩⟩, HB1.out⟩
set_option maxHeartbeats 800000 in
theorem szRelationS_w (ad : Option Addr) (cap : Nat) (rs : List RR) (left : Int) (w : World) (hlen : rs.length ≤ maxLen) (hs : SlR w ad rs) (hf : ∀ r ∈ rs, r.fits) (h0 : 0 ≤ left) (h1 : left ≤ 1048576) :
  Calls Tryz.prog 53 #[.slice ad rs.length cap, .int .i64 left] w fun e w' => (∃ n : Int, e = .returned (.int .i64 n) ∧ (n = -1 ∨ 0 ≤ n ∧ n + (rs.length + sR rs : Nat) ≤ left ∧ (rs.length : Int) ≤ left ∧ ∀ r ∈ rs, r.light)) ∧ Below w.heap.size w w' := by
 unfold maxLen at hlen
 by_cases hneg : left - rs.length < 0
 ·go_enter Tryz.func53, Tryz.ntmps53
  go_wp2
  go_ret
  exact ⟨⟨-1, rfl, .inl rfl⟩, Below.refl _ _⟩
 ·go_enter Tryz.func53, Tryz.ntmps53
  go_wp2
  go_loopw [1, 5] (fun l i wr => ∃ (k : Nat) (x : Int), k ≤ rs.length ∧ i = .int .i64 k ∧ l = .int .i64 x ∧ 0 ≤ x ∧ x + (rs.length + sR (rs.take k) : Nat) ≤ left ∧ Hid (∀ r ∈ rs.take k, r.light) ∧ Below w.heap.size w wr) (fun _ i _ => rs.length - (intOf i).toNat)
  case atStart => exact ⟨0, _, Nat.zero_le _, rfl, rfl, by omega, by simp only [List.take_zero, sR]; omega, (by intro r hr; simp at hr), Below.refl _ _⟩
  case round =>
   obtain ⟨k, x, hk, rfl, rfl, hx0, hx1, HL, hB⟩ := hrel
   by_cases hlt : k < rs.length
   ·rcases hs.below hB with rfl | ⟨b, off, rfl, hb, hr, hok⟩
    ·simp at hlt
    obtain ⟨t0, t1⟩ := hr k hlt
    have ok := hok rs[k] (List.getElem_mem hlt)
    have ft := hf rs[k] (List.getElem_mem hlt)
    clear hr hs hok
    go_wp2_with fail
    refine (szRelation_w rs[k] x _ ok ft hx0 (by omega)).mono ?_
    rintro e w1 ⟨⟨n, rfl, hn⟩, hb1⟩
    have HST : Hid (sR (rs.take (k + 1)) = _) := sR_take rs k hlt
    rcases hn with rfl | ⟨hn0, hn1, hn2⟩
    ·go_wp2
     go_ret
     exact ⟨⟨-1, rfl, .inl rfl⟩, hB.trans (hb1.mono hB.size)⟩
    ·have HL2 : Hid (∀ r ∈ rs.take (k + 1), r.light) := by
      intro r hr
      rw [List.take_succ_eq_append_getElem hlt, List.mem_append, List.mem_singleton] at hr
      rcases hr with hr | rfl
      ·exact HL.out r hr
      ·exact hn2
     clear hn2 ok ft
     go_wp2
     go_roundw
     case rel => exact ⟨k + 1, _, by omega, by go_num, rfl, by omega, by rw [HST.out]; omega, HL2, hB.trans (hb1.mono hB.size)⟩
     case measure => simp [intOf]; omega
   ·have HX1 : Hid (x + (rs.length + sR rs : Nat) ≤ left) := by have := hx1; rw [List.take_of_length_le (by omega)] at this; exact this
    have HL2 : Hid (∀ r ∈ rs, r.light) := fun r hr => HL.out r (by rw [List.take_of_length_le (by omega)]; exact hr)
    go_wp2
    go_ret
    exact ⟨⟨x, rfl, .inr ⟨hx0, HX1.out, by omega, HL2.out⟩⟩, hB⟩
set_option maxHeartbeats 800000 in
theorem szType_w (r : TR) (left : Int) (w : World) (hr : r.ok w) (hf : r.fits) (h0 : 0 ≤ left) (h1 : left ≤ 1048576) :
  Calls Tryz.prog 17 #[r.val, .int .i64 left] w fun e w' => (∃ n : Int, e = .returned (.int .i64 n) ∧ (n = -1 ∨ 0 ≤ n ∧ n + (r.rows.length + sR r.rows : Nat) ≤ left ∧ r.light)) ∧ Below w.heap.size w w' := by
 obtain ⟨name, rows, ad, cap⟩ := r
 obtain ⟨f1, f2, f3⟩ := hf
 have HO : Hid (SlR w ad rows) := hr
 have HF : Hid (∀ q ∈ rows, q.fits) := f3
 simp only at f1 f2
 have g1 := f1
 unfold maxLen at g1
 simp only [TR.val, TR.light]
 clear hr f3
 have HB : Hid (Below w.heap.size w (w.alloc (.cells #[.string name, .slice ad rows.length cap] 36))) := (Below.refl w.heap.size w).alloc (Nat.le_refl _) _
 by_cases h3 : left - name.size < 0
 ·go_enter Tryz.func17, Tryz.ntmps17
  go_wp2
  go_ret
  exact ⟨⟨-1, rfl, .inl rfl⟩, HB.out⟩
 go_enter Tryz.func17, Tryz.ntmps17
 go_wp2_with fail
 refine (szRelationS_w ad cap rows _ _ f2 (SlR.below HO.out HB.out) HF.out (by omega) (by omega)).mono ?_
 rintro e w1 ⟨⟨n, rfl, hn⟩, hb1⟩
 have HB1 : Hid (Below w.heap.size w w1) := HB.out.trans (hb1.mono HB.out.size)
 clear hb1 HB
 rcases hn with rfl | ⟨hn0, hn1, hn2, hn3⟩
 ·go_wp2
  go_ret
  exact ⟨⟨-1, rfl, .inl rfl⟩, HB1.out⟩
 ·have HL : Hid (∀ q ∈ rows, q.light) := hn3
  clear hn3
  go_wp2
  go_ret
  exact ⟨⟨n, rfl, .inr ⟨hn0, by omega, by omega, HL.out⟩⟩, HB1.out⟩
set_option maxHeartbeats 800000 in
theorem szTypeS_w (ad : Option Addr) (cap : Nat) (rs : List TR) (left : Int) (w : World) (hlen : rs.length ≤ maxLen) (hs : SlT w ad rs) (hf : ∀ r ∈ rs, r.fits) (h0 : 0 ≤ left) (h1 : left ≤ 1048576) :
  Calls Tryz.prog 6 #[.slice ad rs.length cap, .int .i64 left] w fun e w' => (∃ n : Int, e = .returned (.int .i64 n) ∧ (n = -1 ∨ 0 ≤ n ∧ n + (rs.length + sT rs : Nat) ≤ left ∧ (rs.length : Int) ≤ left ∧ ∀ r ∈ rs, r.light)) ∧ Below w.heap.size w w' := by
 unfold maxLen at hlen
 by_cases hneg : left - rs.length < 0
 ·go_enter Tryz.func6, Tryz.ntmps6
  go_wp2
  go_ret
  exact ⟨⟨-1, rfl, .inl rfl⟩, Below.refl _ _⟩
 ·go_enter Tryz.func6, Tryz.ntmps6
  go_wp2
  go_loopw [1, 5] (fun l i wr => ∃ (k : Nat) (x : Int), k ≤ rs.length ∧ i = .int .i64 k ∧ l = .int .i64 x ∧ 0 ≤ x ∧ x + (rs.length + sT (rs.take k) : Nat) ≤ left ∧ Hid (∀ r ∈ rs.take k, r.light) ∧ Below w.heap.size w wr) (fun _ i _ => rs.length - (intOf i).toNat)
  case atStart => exact ⟨0, _, Nat.zero_le _, rfl, rfl, by omega, by simp only [List.take_zero, sT]; omega, (by intro r hr; simp at hr), Below.refl _ _⟩
  case round =>
   obtain ⟨k, x, hk, rfl, rfl, hx0, hx1, HL, hB⟩ := hrel
   by_cases hlt : k < rs.length
   ·rcases hs.below hB with rfl | ⟨b, off, rfl, hb, hr, hok⟩
    ·simp at hlt
    obtain ⟨t0, t1⟩ := hr k hlt
    have ok := hok rs[k] (List.getElem_mem hlt)
    have ft := hf rs[k] (List.getElem_mem hlt)
    clear hr hs hok
    go_wp2_with fail
    refine (szType_w rs[k] x _ ok ft hx0 (by omega)).mono ?_
    rintro e w1 ⟨⟨n, rfl, hn⟩, hb1⟩
    have HST : Hid (sT (rs.take (k + 1)) = _) := sT_take rs k hlt
    rcases hn with rfl | ⟨hn0, hn1, hn2⟩
    ·go_wp2
     go_ret
     exact ⟨⟨-1, rfl, .inl rfl⟩, hB.trans (hb1.mono hB.size)⟩
    ·have HL2 : Hid (∀ r ∈ rs.take (k + 1), r.light) := by
      intro r hr
      rw [List.take_succ_eq_append_getElem hlt, List.mem_append, List.mem_singleton] at hr
      rcases hr with hr | rfl
      ·exact HL.out r hr
      ·exact hn2
     clear hn2 ok ft
     go_wp2
     go_roundw
     case rel => exact ⟨k + 1, _, by omega, by go_num, rfl, by omega, by rw [HST.out]; omega, HL2, hB.trans (hb1.mono hB.size)⟩
     case measure => simp [intOf]; omega
   ·have HX1 : Hid (x + (rs.length + sT rs : Nat) ≤ left) := by have := hx1; rw [List.take_of_length_le (by omega)] at this; exact this
    have HL2 : Hid (∀ r ∈ rs, r.light) := fun r hr => HL.out r (by rw [List.take_of_length_le (by omega)]; exact hr)
    go_wp2
    go_ret
    exact ⟨⟨x, rfl, .inr ⟨hx0, HX1.out, by omega, HL2.out⟩⟩, hB⟩
end Go.Proofs.YtmghabcaakgjiaaGreat
