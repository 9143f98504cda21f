/- Contracts of the law's helpers that look whether the marks of numbers and of pairs are held. -/
import Derived.Test.YtjmbgpdbnffkpaaMark3
import Derived.Test.YtjmbgpdbnffkpaaIRdRead
import Derived.Test.YtjmbgpdbnffkpaaEqExpr
namespace Go.Proofs.Ytjmbgpdbnffkpaa
open Go.ChangeShapes Go.WideShapes Go.ChangeAt Go.RowKit
open Pl

set_option maxHeartbeats 1000000 in
theorem heldInt64S_any (ad : Option Addr) (cap : Nat) (zs : List Int) (k : Nat) (w : World) (hs : SlI w ad (mkI k zs)) (h1 : k + zs.length ≤ 1000000000) :
    Calls Try.prog 36 #[.slice ad zs.length cap, .int .i64 (k : Int)] w fun e w' => e = .returned (.int .i64 ((k + zs.length : Nat) : Int)) ∧ w' = w := by
  have HS : Hid (SlI w ad (mkI k zs)) := hs
  clear hs
  go_enter Try.func36, Try.ntmps36
  go_wp2
  go_loopw [1, 5] (fun kv i wr => ∃ j : Nat, j ≤ zs.length ∧ kv = .int .i64 ((k + j : Nat) : Int) ∧ i = .int .i64 (j : Int) ∧ wr = w) (fun _ i _ => zs.length - (intOf i).toNat)
  case atStart => exact ⟨0, Nat.zero_le _, rfl, rfl, rfl⟩
  case round =>
    obtain ⟨j, hj, rfl, rfl, rfl⟩ := hrel
    by_cases hlt : j < zs.length
    · rcases HS.out with h | ⟨b, off, rfl, hb, hr⟩
      · rw [mkI_nil] at h; rw [h] at hlt; simp at hlt
      have c0 := hr j (by rw [mkI_len]; exact hlt)
      rw [mkI_at] at c0
      have hj1 : (0 : Int) ≤ (j : Int) := by omega
      have hj2 : (j : Int) < (zs.length : Int) := by omega
      clear hr
      go_wp2
      go_roundw
      case rel => exact ⟨j + 1, by omega, by go_num, by go_num, by first | rfl | trivial⟩
      case measure => first | (simp [intOf]; done) | (simp [intOf]; omega)
    · obtain rfl : j = zs.length := by omega
      go_wp2
      go_ret
      exact ⟨by go_num, rfl⟩

set_option maxHeartbeats 2000000 in
theorem heldAllowedS_any (ad : Option Addr) (cap : Nat) (xs : List Al) (k : Nat) (w : World) (hs : SlA w ad (mkA k xs)) (h0 : 0 < k) (h1 : k + 2 * xs.length ≤ 1000000000) :
    Calls Try.prog 35 #[.slice ad xs.length cap, .int .i64 (k : Int)] w fun e w' => e = .returned (.int .i64 ((k + 2 * xs.length : Nat) : Int)) ∧ Below w.heap.size w w' := by
  have HS : Hid (SlA w ad (mkA k xs)) := hs
  clear hs
  go_enter Try.func35, Try.ntmps35
  go_wp2
  go_loopw [1, 5] (fun kv i wr => ∃ j : Nat, j ≤ xs.length ∧ kv = .int .i64 ((k + 2 * j : Nat) : Int) ∧ i = .int .i64 (j : Int) ∧ Hid (Below w.heap.size w wr)) (fun _ i _ => xs.length - (intOf i).toNat)
  case atStart => exact ⟨0, Nat.zero_le _, rfl, rfl, Below.refl _ _⟩
  case round =>
    obtain ⟨j, hj, rfl, rfl, HB⟩ := hrel
    by_cases hlt : j < xs.length
    · rcases HS.out.below HB.out with h | ⟨b, off, rfl, hb, hr⟩
      · rw [mkA_nil] at h; rw [h] at hlt; simp at hlt
      obtain ⟨c0, c1⟩ := hr j (by rw [mkA_len]; exact hlt)
      rw [mkA_at] at c0 c1
      have hj1 : (0 : Int) ≤ (j : Int) := by omega
      have hj2 : (j : Int) < (xs.length : Int) := by omega
      clear hr
      go_wp2_with fail
      go_region_held3 (fun w' => w'.cell? ⟨b, off + j * 2, none⟩ = some (.string (mtx (k + 2 * j))) ∧ w'.cell? ⟨b, off + j * 2 + 1, none⟩ = some (.string (mtx (k + 2 * j + 1))) ∧ b < w'.heap.size ∧ Below w.heap.size w w')
        (first | assumption | exact keepA (by assumption) hbx | exact ⟨c0, c1, hb, HB.out.drew⟩)
        (first | (go_at_call 33; refine (markText_at _ (k + 2 * j) _ (by omega) (by omega) (by omega)).mono ?_; rintro e w' ⟨rfl, hbx⟩))
      rename_i hH
      obtain ⟨d0, d1, db, dB⟩ := hH
      clear c0 c1 hb
      have HD : Hid (Below w.heap.size w _) := dB
      clear dB
      go_wp2_with fail
      go_region_held3 (fun w' => w'.cell? ⟨b, off + j * 2, none⟩ = some (.string (mtx (k + 2 * j))) ∧ w'.cell? ⟨b, off + j * 2 + 1, none⟩ = some (.string (mtx (k + 2 * j + 1))) ∧ b < w'.heap.size ∧ Below w.heap.size w w')
        (first | assumption | exact keepA (by assumption) hbx | exact ⟨d0, d1, db, HD.out.drew⟩)
        (first | (go_at_call 33; refine (markText_at _ (k + 2 * j + 1) _ (by omega) (by omega) (by omega)).mono ?_; rintro e w' ⟨rfl, hbx⟩))
      rename_i hH
      obtain ⟨-, -, -, dB⟩ := hH
      have HB3 : Hid (Below w.heap.size w _) := dB
      clear dB d0 d1 db HD
      go_wp2
      go_roundw
      case rel => exact ⟨j + 1, by omega, by go_num, by go_num, HB3⟩
      case measure => first | (simp [intOf]; done) | (simp [intOf]; omega)
    · obtain rfl : j = xs.length := by omega
      go_wp2
      go_ret
      exact ⟨by go_num, HB.out⟩
theorem heldAllowedS_at (x : Int) (ad : Option Addr) (cap : Nat) (xs : List Al) (k : Nat) (w : World) (hx : x = (k : Int)) (hs : SlA w ad (mkA k xs)) (h0 : 0 < k) (h1 : k + 2 * xs.length ≤ 1000000000) :
    Calls Try.prog 35 #[.slice ad xs.length cap, .int .i64 x] w fun e w' => e = .returned (.int .i64 ((k + 2 * xs.length : Nat) : Int)) ∧ Below w.heap.size w w' := by
  rw [hx]; exact heldAllowedS_any ad cap xs k w hs h0 h1
theorem heldInt64S_at (x : Int) (ad : Option Addr) (cap : Nat) (zs : List Int) (k : Nat) (w : World) (hx : x = (k : Int)) (hs : SlI w ad (mkI k zs)) (h1 : k + zs.length ≤ 1000000000) :
    Calls Try.prog 36 #[.slice ad zs.length cap, .int .i64 x] w fun e w' => e = .returned (.int .i64 ((k + zs.length : Nat) : Int)) ∧ w' = w := by
  rw [hx]; exact heldInt64S_any ad cap zs k w hs h1

end Go.Proofs.Ytjmbgpdbnffkpaa

/- Contract of the law's helper that looks whether an expression's marks are held. -/
namespace Go.Proofs.Ytjmbgpdbnffkpaa
open Go.ChangeShapes Go.WideShapes Go.ChangeAt Go.RowKit
open Pl

theorem keepH {w w1 w2 : World} {b o p q : Nat} {u v x : Value} (h : w1.cell? ⟨b, o, none⟩ = some u ∧ w1.cell? ⟨b, p, none⟩ = some v ∧ w1.cell? ⟨b, q, none⟩ = some x ∧ b < w1.heap.size ∧ Below w.heap.size w w1) (hb : Below w1.heap.size w1 w2) : w2.cell? ⟨b, o, none⟩ = some u ∧ w2.cell? ⟨b, p, none⟩ = some v ∧ w2.cell? ⟨b, q, none⟩ = some x ∧ b < w2.heap.size ∧ Below w.heap.size w w2 :=
  ⟨kept hb h.2.2.2.1 h.1, kept hb h.2.2.2.1 h.2.1, kept hb h.2.2.2.1 h.2.2.1, Nat.lt_of_lt_of_le h.2.2.2.1 hb.size, h.2.2.2.2.trans (hb.mono h.2.2.2.2.size)⟩

set_option maxRecDepth 8000 in
set_option maxHeartbeats 4000000 in
theorem heldExprS_any (ad : Option Addr) (cap : Nat) (rs : List ER) (k : Nat) (w : World) (hs : SlE w ad (mkE k rs)) (hl : ∀ r ∈ rs, r.e.light) (hlen : rs.length ≤ 1048576) (h0 : 0 < k) (h1 : k + wE rs ≤ 1000000000) :
    Calls Try.prog 11 #[.slice ad rs.length cap, .int .i64 (k : Int)] w fun e w' => e = .returned (.int .i64 ((k + wE rs : Nat) : Int)) ∧ Below w.heap.size w w' := by
  have HS : Hid (SlE w ad (mkE k rs)) := hs
  have HL : Hid (∀ r ∈ rs, r.e.light) := hl
  clear hs hl
  go_enter Try.func11, Try.ntmps11
  go_wp2
  go_loopw [1, 5] (fun kv i wr => ∃ j K : Nat, j ≤ rs.length ∧ Hid (K = k + wE (rs.take j)) ∧ kv = .int .i64 (K : Int) ∧ i = .int .i64 (j : Int) ∧ Hid (Below w.heap.size w wr)) (fun _ i _ => rs.length - (intOf i).toNat)
  case atStart => exact ⟨0, k, Nat.zero_le _, by show _ = _; simp [wE], rfl, rfl, Below.refl _ _⟩
  case round =>
    obtain ⟨j, K, hj, HK, rfl, rfl, HB⟩ := hrel
    by_cases hlt : j < rs.length
    · have hjm : j < (mkE k rs).length := by rw [mkE_len]; exact hlt
      rcases HS.out.below HB.out with h | ⟨b, off, rfl, hb, hr, hok⟩
      · rw [h] at hjm; simp at hjm
      have hrow : (mkE k rs)[j] = rs[j].mkd K := by rw [mkE_at k rs j hjm hlt, HK.out]
      obtain ⟨c0, c1, c2, c3, c4⟩ := hr j hjm
      have ho := hok _ (List.getElem_mem hjm)
      rw [hrow] at c0 c1 c2 c3 c4 ho
      have HOK : Hid ((rs[j].mkd K).ok wr) := ho
      replace c0 : wr.cell? ⟨b, off + j * 5, none⟩ = some (.int .i64 (K : Int)) := c0
      replace c1 : wr.cell? ⟨b, off + j * 5 + 1, none⟩ = some (.slice rs[j].adA rs[j].e.allow.length rs[j].capA) := by
        rw [c1]
        show some (Value.slice rs[j].adA (mkA _ _).length rs[j].capA) = _
        rw [mkA_len]
      replace c2 : wr.cell? ⟨b, off + j * 5 + 2, none⟩ = some (.string (mtx (K + 1 + 2 * rs[j].e.allow.length))) := c2
      replace c3 : wr.cell? ⟨b, off + j * 5 + 3, none⟩ = some (.string (mtx (K + 2 + 2 * rs[j].e.allow.length))) := c3
      replace c4 : wr.cell? ⟨b, off + j * 5 + 4, none⟩ = some (.slice rs[j].adK rs[j].e.kids.length rs[j].capK) := by
        rw [c4]
        show some (Value.slice rs[j].adK (mkI _ _).length rs[j].capK) = _
        rw [mkI_len]
      have hlg := HL.out rs[j] (List.getElem_mem hlt)
      have lA : rs[j].e.allow.length ≤ 1048576 := hlg.1
      have lK : rs[j].e.kids.length ≤ 1048576 := hlg.2
      have hKb : 0 < K ∧ K + wX rs[j].e ≤ 1000000000 := by
        have h2 := wE_le rs (j + 1)
        rw [wE_take _ _ hlt] at h2
        have := HK.out
        omega
      have hK0 := hKb.1
      have hK1 := hKb.2
      unfold wX at hK1
      have hj1 : (0 : Int) ≤ (j : Int) := by omega
      have hj2 : (j : Int) < (rs.length : Int) := by omega
      clear hKb hlg ho hr hok hrow hjm
      go_wp2_with fail
      refine (heldAllowedS_at _ _ _ rs[j].e.allow (K + 1) _ (by omega) HOK.out.1 (by omega) (by omega)).mono ?_
      rintro e w1 ⟨rfl, hb1⟩
      have HB1 : Hid (Below w.heap.size w w1) := HB.out.trans (hb1.mono HB.out.size)
      have HOK1 : Hid ((rs[j].mkd K).ok w1) := HOK.out.below hb1
      replace c2 := kept hb1 hb c2
      replace c3 := kept hb1 hb c3
      replace c4 := kept hb1 hb c4
      have hbw : b < w1.heap.size := Nat.lt_of_lt_of_le hb hb1.size
      clear hb1 c0 c1 hb HOK
      go_wp2_with fail
      go_region_held3 (fun w' => w'.cell? ⟨b, off + j * 5 + 2, none⟩ = some (.string (mtx (K + 1 + 2 * rs[j].e.allow.length))) ∧ w'.cell? ⟨b, off + j * 5 + 3, none⟩ = some (.string (mtx (K + 2 + 2 * rs[j].e.allow.length))) ∧ w'.cell? ⟨b, off + j * 5 + 4, none⟩ = some (.slice rs[j].adK rs[j].e.kids.length rs[j].capK) ∧ b < w'.heap.size ∧ Below w1.heap.size w1 w')
        (first | assumption | exact keepH (by assumption) hbx | exact ⟨c2, c3, c4, hbw, (Below.refl _ _).drew⟩)
        (first | (go_at_call 33; refine (markText_at _ (K + 1 + 2 * rs[j].e.allow.length) _ (by omega) (by omega) (by omega)).mono ?_; rintro e w' ⟨rfl, hbx⟩))
      rename_i hH
      obtain ⟨d2, d3, d4, db, dB⟩ := hH
      clear c2 c3 c4 hbw
      have HD : Hid (Below w1.heap.size w1 _) := dB
      clear dB
      go_wp2_with fail
      go_region_held3 (fun w' => w'.cell? ⟨b, off + j * 5 + 2, none⟩ = some (.string (mtx (K + 1 + 2 * rs[j].e.allow.length))) ∧ w'.cell? ⟨b, off + j * 5 + 3, none⟩ = some (.string (mtx (K + 2 + 2 * rs[j].e.allow.length))) ∧ w'.cell? ⟨b, off + j * 5 + 4, none⟩ = some (.slice rs[j].adK rs[j].e.kids.length rs[j].capK) ∧ b < w'.heap.size ∧ Below w1.heap.size w1 w')
        (first | assumption | exact keepH (by assumption) hbx | exact ⟨d2, d3, d4, db, HD.out.drew⟩)
        (first | (go_at_call 33; refine (markText_at _ (K + 2 + 2 * rs[j].e.allow.length) _ (by omega) (by omega) (by omega)).mono ?_; rintro e w' ⟨rfl, hbx⟩))
      rename_i hH
      obtain ⟨-, -, f4, fb, fB⟩ := hH
      have HF : Hid (Below w1.heap.size w1 _) := fB
      clear fB d2 d3 d4 db HD
      have HKN : Hid (K + 3 + 2 * rs[j].e.allow.length + rs[j].e.kids.length = k + wE (rs.take (j + 1))) := by
        show _ = _
        rw [wE_take _ _ hlt, HK.out]; unfold wX; omega
      go_wp2_with fail
      refine (heldInt64S_at _ _ _ rs[j].e.kids (K + 3 + 2 * rs[j].e.allow.length) _ (by omega) (HOK1.out.below HF.out).2 (by omega)).mono ?_
      rintro e w7 ⟨rfl, hw7⟩
      replace hw7 := hw7.symm
      subst hw7
      have HB7 : Hid (Below w.heap.size w _) := HB1.out.trans (HF.out.mono HB1.out.size)
      go_wp2
      go_roundw
      case rel => exact ⟨j + 1, K + 3 + 2 * rs[j].e.allow.length + rs[j].e.kids.length, by omega, HKN, by go_num, by go_num, HB7⟩
      case measure => first | (simp [intOf]; done) | (simp [intOf]; omega)
    · obtain rfl : j = rs.length := by omega
      have HKE : Hid (K = k + wE rs) := by have := HK.out; rw [List.take_length] at this; exact this
      go_wp2
      go_ret
      exact ⟨by rw [← HKE.out]; rfl, HB.out⟩
end Go.Proofs.Ytjmbgpdbnffkpaa

/- What both readers of expressions answer, in one form. -/
namespace Go.Proofs.Ytjmbgpdbnffkpaa
set_option maxRecDepth 100000
set_option linter.unusedVariables false
open Go.ChangeShapes Go.WideShapes Go.ChangeAt Go.RowKit
open Pl

def ansL (s : ByteArray) : List Ex := if readB s then (endR s).out else []
theorem ok_spec (s : ByteArray) : implOk s = if readB s = true then some (endR s).out else none := by
  unfold implOk
  by_cases hs : s.size ≤ 1000
  · rw [if_pos hs]
    obtain ⟨x, hx⟩ : ∃ x, rdP s (2 * s.size + 2) true ⟨0, false, []⟩ = (x, endR s) := ⟨_, rfl⟩
    rw [impl_spec s hx]
    have e : readB s = (!(endR s).bad && !decide ((endR s).p < s.size) && specE (endR s).out && ((exText (endR s).out).toList == s.toList)) := by unfold readB; simp [hs]
    rw [e]
  · rw [if_neg hs]
    have e : readB s = false := by unfold readB; rw [decide_eq_false hs]; rfl
    rw [e]; rfl
theorem ans_small (s : ByteArray) : (ansL s).length ≤ 15 ∧ ∀ e ∈ ansL s, SmE s e ∧ e.light ∧ e.fits := by
  unfold ansL
  cases h : readB s with
  | false => simp
  | true =>
    simp only [if_true]
    unfold readB at h
    simp only [Bool.and_eq_true, decide_eq_true_eq] at h
    have h15 : (endR s).out.length ≤ 15 := by
      have := h.1.2
      simp only [specE, Bool.and_eq_true, decide_eq_true_eq] at this
      exact this.1.1.1.1.2
    refine ⟨h15, fun e he => ?_⟩
    have hsm := rdP_sm (s := s) (2 * s.size + 2) true ⟨0, false, []⟩ (Nat.zero_le _) (fun e he => by cases he) e he
    exact ⟨hsm, hsm.light h.1.1.1.1⟩
theorem wE_bound (b : Nat) : ∀ (qs : List ER), (∀ r ∈ qs, wX r.e ≤ b) → wE qs ≤ b * qs.length
  | [], _ => by simp [wE]
  | r :: qs, h => by
    have h1 := h r (by simp)
    have h2 := wE_bound b qs (fun x hx => h x (by simp [hx]))
    simp only [wE, List.length_cons, Nat.mul_succ]
    omega
theorem ans_facts {s : ByteArray} {qs : List ER} (h : exs qs = ansL s) : qs.length ≤ 15 ∧ (∀ r ∈ qs, r.e.light) ∧ 1 + wE qs ≤ 1000000000 := by
  obtain ⟨h1, h2⟩ := ans_small s
  have hl : qs.length ≤ 15 := by rw [← exs_len, h]; exact h1
  have hm : ∀ r ∈ qs, r.e ∈ ansL s := fun r hr => by rw [← h]; exact List.mem_map.2 ⟨r, hr, rfl⟩
  refine ⟨hl, fun r hr => (h2 r.e (hm r hr)).2.1, ?_⟩
  have hb := wE_bound 5000000 qs (fun r hr => by
    have hlt := (h2 r.e (hm r hr)).2.1
    obtain ⟨a1, a2⟩ := hlt
    unfold wX
    omega)
  have : 5000000 * qs.length ≤ 5000000 * 15 := Nat.mul_le_mul_left _ hl
  omega
/-- an answer whose blocks are its own, none older than m -/
def OwnG (m : Nat) (w : World) (ad : Option Addr) (qs : List ER) : Prop := qs ≠ [] → ∃ b, ad = some ⟨b, 0, none⟩ ∧ b < w.heap.size ∧ SepE b qs ∧ FreeE w b qs ∧ ∀ g, inE b qs g → m ≤ g
theorem RdG.ans {w : World} {R : Nat} {s : ByteArray} {st : IS} {base : Nat} {v : Value} {qs : List ER} (h : RdG w R s st base v qs) : ∃ ad cap, v = .slice ad qs.length cap ∧ SlE w ad qs ∧ OwnG base w ad qs := by
  obtain ⟨ad, cap, hv, hsl⟩ := h.slE
  refine ⟨ad, cap, hv, hsl, fun hne => ?_⟩
  rcases h.own.2 with ⟨-, h0⟩ | ⟨g, cp, cur, hvg, hbg, hg, hnc, -⟩
  · exact absurd (List.length_eq_zero_iff.1 h0) hne
  · have hlt := h.own.lt g (by rw [hvg]; rfl)
    have hown := h.own
    rw [hvg] at hown
    rw [hv] at hvg
    injection hvg with e1 e2 e3
    refine ⟨g, e1, hlt.2, ⟨h.zA, h.zK, fun r hr hg2 => ?_, h.one, h.two⟩, ⟨⟨hlt.2, fun y => hown.frozenAt y⟩, fun r hr g2 hg2 => ⟨(h.lie r hr g2 hg2).2.1, (h.lie r hr g2 hg2).2.2.1⟩⟩, ?_⟩
    · have := (h.lie r hr g hg2).2.2.2
      rw [hv, e1] at this
      exact this rfl
    · rintro g2 (rfl | ⟨r, hr, hg2⟩)
      · exact hlt.1
      · exact (h.lie r hr g2 hg2).1
theorem specAns (s : ByteArray) (w : World) : Calls Try.prog 7 #[.string s] w fun e w' => ∃ ad cap qs, e = .returned (.tuple #[.slice ad qs.length cap, .bool (readB s)]) ∧ exs qs = ansL s ∧ SlE w' ad qs ∧ Below w.heap.size w w' := by
  refine (specReadExpr_any s w).mono ?_
  rintro e w' ⟨hb, ⟨h1, rfl⟩ | ⟨h1, v, R, qs, rfl, hF⟩⟩
  · exact ⟨none, 0, [], by rw [h1]; rfl, by rw [ansL, h1]; rfl, .inl rfl, hb⟩
  · obtain ⟨ad, cap, rfl, hsl⟩ := hF.slE
    exact ⟨ad, cap, qs, by rw [h1], by rw [ansL, h1]; exact hF.out, hsl, hb⟩
theorem implAns (s : ByteArray) (w : World) : Calls Try.prog 8 #[.string s] w fun e w' => ∃ ad cap qs, e = .returned (.tuple #[.slice ad qs.length cap, .bool (readB s)]) ∧ exs qs = ansL s ∧ SlE w' ad qs ∧ OwnG w.heap.size w' ad qs ∧ Below w.heap.size w w' := by
  refine (implReadExpr_any s w).mono ?_
  rintro e w' ⟨hb, ⟨h1, rfl⟩ | ⟨es, v, R, qs, st, h1, rfl, hF, hx⟩⟩
  · rw [ok_spec] at h1
    have hr : readB s = false := by
      cases e : readB s with
      | false => rfl
      | true => rw [e, if_pos rfl] at h1; cases h1
    exact ⟨none, 0, [], by rw [hr]; rfl, by rw [ansL, hr]; rfl, .inl rfl, fun h => absurd rfl h, hb⟩
  · rw [ok_spec] at h1
    have hr : readB s = true := by
      cases e : readB s with
      | true => rfl
      | false => rw [e, if_neg (by decide)] at h1; cases h1
    rw [hr, if_pos rfl] at h1
    injection h1 with h1
    obtain ⟨ad, cap, rfl, hsl, ho⟩ := hF.ans
    refine ⟨ad, cap, qs, by rw [hr], by rw [ansL, hr, hx, ← h1]; rfl, hsl, fun hne => ?_, hb⟩
    obtain ⟨b, e1, e2, e3, e4, e5⟩ := ho hne
    exact ⟨b, e1, e2, e3, e4, fun g hg => by have := e5 g hg; omega⟩
theorem OwnG.below {m : Nat} {w w' : World} {ad : Option Addr} {qs : List ER} (h : OwnG m w ad qs) (hb : Below w.heap.size w w') : OwnG m w' ad qs := fun hne => by
  obtain ⟨b, e1, e2, e3, e4, e5⟩ := h hne
  exact ⟨b, e1, Nat.lt_of_lt_of_le e2 hb.size, e3, e4.chg (Chg.of (S := fun _ => False) hb), e5⟩
theorem markG {m : Nat} (ad : Option Addr) (cap : Nat) (qs : List ER) (w : World) (hs : SlE w ad qs) (ho : OwnG m w ad qs) (hm : m ≤ w.heap.size) (hl : ∀ r ∈ qs, r.e.light) (hlen : qs.length ≤ 1048576) (h1 : 1 + wE qs ≤ 1000000000) :
    Calls Try.prog 10 #[.slice ad qs.length cap, .int .i64 1] w fun e w' => e = .returned (.int .i64 ((1 + wE qs : Nat) : Int)) ∧ SlE w' ad (mkE 1 qs) ∧ Below m w w' := by
  by_cases hz : qs = []
  · subst hz
    refine (markExprS_nil 1 ad cap w).mono ?_
    rintro e w' ⟨rfl, rfl⟩
    exact ⟨rfl, .inl rfl, Below.refl _ _⟩
  obtain ⟨b, e, g2, g3, g4, g5⟩ := ho hz
  rcases hs with h | ⟨b', off, e', hb, hr, hk⟩
  · exact absurd h hz
  rw [e] at e'; injection e' with e'; injection e' with e1 e2
  subst e1; subst e2
  rw [e]
  refine (markExprS_any b cap qs 1 w hb (fun x hx => ⟨by have := hr x hx; rwa [Nat.zero_add] at this, hk _ (List.getElem_mem hx)⟩) g3 g4 hl hlen (by omega) h1).mono ?_
  rintro e2 w' ⟨rfl, hm2, hc⟩
  exact ⟨rfl, mkE_sl (Nat.lt_of_lt_of_le hb hc.size) hm2, hc.below (fun g hg => g5 g hg) hm⟩
end Go.Proofs.Ytjmbgpdbnffkpaa
