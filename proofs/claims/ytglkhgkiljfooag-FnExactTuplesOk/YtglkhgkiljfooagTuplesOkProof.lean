/- Proved here: FnExactTuplesOk answers true for every list of tuples and leaves its argument as it was, with no condition on the list. -/
import Derived.Test.YtglkhgkiljfooagEqTupS
import Derived.Test.YtglkhgkiljfooagOpenTups
namespace Go.Proofs.Ytglkhgkiljfooag.fnExactTuplesOk
open Go.ChangeShapes Go.WideShapes Go.ChangeAt Go.RowKit Go.Joins
open Go.ChangeMaps (open_string shut_string)
open Pl
set_option linter.unusedVariables false

set_option maxHeartbeats 1000000 in
theorem walk (ad : Option Addr) (cap : Nat) (ts : List Tp) (w : World) (hlen : ts.length ≤ maxLen) (hs : Sl w ad ts) (hf : ∀ t ∈ ts, t.fits) :
    Calls Try.prog 7 #[.slice ad ts.length cap] w fun e w' => e = .returned (.bool true) ∧ Below w.heap.size w w' := by
  have hs0 : Hid (Sl w ad ts) := hs
  clear hs
  go_enter Try.func7, Try.ntmps7
  go_wp2_with fail
  refine (szTupleS_any ad cap ts _ _ hlen hs0.out hf (by omega) (by omega)).mono ?_
  rintro e w1 ⟨⟨n, rfl, hn⟩, hb1⟩
  by_cases hneg : n < 0
  · go_wp2
    go_ret
    exact ⟨rfl, hb1⟩
  have hlen2 : ts.length ≤ 1048576 := by omega
  clear hn
  have hs1 : Hid (Sl w1 ad ts) := hs0.out.below hb1
  go_wp2_with fail
  refine (toTupleS_any ad cap ts _ hlen2 hs1.out).mono ?_
  rintro e w2 ⟨rfl, F2⟩
  go_wp2_with fail
  refine (specTuplesOk_any _ _ ts _ hlen F2.sl hf).mono ?_
  rintro e w3 ⟨rfl, hb3⟩
  have b13 : Below w1.heap.size w1 w3 := F2.below.trans (hb3.mono F2.below.size)
  have hs3 : Hid (Sl w3 ad ts) := hs1.out.below b13
  go_wp2_with fail
  refine (toTupleS_any ad cap ts _ hlen2 hs3.out).mono ?_
  rintro e w4 ⟨rfl, F4⟩
  go_wp2_with fail
  refine (implTuplesOk_any _ _ ts _ hlen F4.sl hf).mono ?_
  rintro e w5 ⟨rfl, hb5⟩
  have b35 : Below w3.heap.size w3 w5 := F4.below.trans (hb5.mono F4.below.size)
  have F5 : Filling w3 w5 w3.heap.size ts ts.length := F4.later hb5
  have hs5 : Hid (Sl w5 ad ts) := hs3.out.below b35
  go_wp2_with fail
  refine (toTupleS_any ad cap ts _ hlen2 hs5.out).mono ?_
  rintro e w6 ⟨rfl, F6⟩
  have r5 : Hid (Row6 w6 w3.heap.size 0 ts) := F5.row.below F6.below F5.lt
  have l5 : w3.heap.size < w6.heap.size := Nat.lt_of_lt_of_le F5.lt F6.below.size
  go_wp2_with fail
  refine (eqTupleS_same _ _ 0 0 _ _ ts _ hlen r5.out l5 F6.row F6.lt).mono ?_
  rintro e w7 ⟨rfl, hb7⟩
  have b57 : Below w5.heap.size w5 w7 := F6.below.trans (hb7.mono F6.below.size)
  have s1 := hb1.size
  have s3 := b13.size
  have s5 := b35.size
  clear F2 F4 F5 F6 hb3 hb5 hb7
  go_wp2
  go_ret
  exact ⟨rfl, hb1.trans ((b13.mono s1).trans ((b35.mono (by omega)).trans (b57.mono (by omega))))⟩

theorem own : ownKnob Try.prog.godebug = none := by kernel_rfl
theorem laidOut : laidOutB Try.prog = true := by kernel_rfl

set_option maxRecDepth 100000 in
theorem lifted (os : Os) (started : os.Started) (H : Type) (enc : TypeId × Value → H) :
    ReturnsInHanded {} Try.checked os 7 .any (Rows.fnExactTuplesOkSpec.pre6 enc Try.prog Try.f7 Rows.fnExactTuplesOkRow.domain false) (Rows.fnExactTuplesOkSpec.post enc Try.prog Try.f7 false true false false) := by
  refine returnsInHanded_of_change (C := Try.checked) own started (by kernel_rfl) Try.func7
    (ChangeSpec.witness6 (enc := enc) (C := Try.checked) false ⟨#[], #[.slice none 0 0], []⟩ 8 (by kernel_rfl) (by kernel_rfl) (by kernel_rfl) (by kernel_rfl)) ?_
  intro W base args ds gs before hval0 hW hcnd _
  have hval : ∀ (j : Nat) t v, Try.f7.params[j]? = some t → args[j]? = some v → Value.okWide Try.prog W .any base t v := hval0
  have hW' := hW
  obtain ⟨p, q, hA0, hV, rfl, hfz, hnd⟩ := hW
  have hA : DataW.TrodAll enc Try.prog W 0 (fun _ => true) true Try.f7.params.toList args.toList ds p := hA0
  rw [Try.params7] at hA hval
  obtain ⟨v0, vs0, d0, ds0, p0, q0, hargs, rfl, rfl, h0, r0⟩ := trodAll_cons hA
  obtain ⟨rfl, rfl, rfl⟩ := trodAll_nil r0
  obtain rfl : args = #[v0] := by cases args; simp_all
  obtain ⟨rfl, rfl⟩ := trodVars_none hV
  have k0 := h0
  have lt0 : ∀ x ∈ p0, x.block < W.heap.size := by obtain ⟨m, hm⟩ := k0; exact DataW.trod_lt m _ _ _ hm
  obtain ⟨ad0, len0, cap0, hv0⟩ := okWide_slice Try.underlying41 (hval 0 41 v0 rfl rfl)
  subst hv0
  obtain ⟨fuel0, hf0⟩ := h0
  obtain ⟨ts0, hl0, hsl0, hft0, hm0⟩ := open_tups (by simpa [Value.cells] using hf0)
  subst hl0
  clear hA0 hval0
  refine (walk ad0 cap0 ts0 W hm0 hsl0 hft0).mono fun e W' ⟨he, bel⟩ => ?_
  subst he
  exact ⟨_, rfl, _, _, _, [], _, [], hW', trodAll_mk1 (shut_bool Try.underlying4 _), (trodAll_cons_mk (Below.trod laidOut (by kernel_rfl) (of_decide_eq_true (by kernel_rfl)) k0 bel lt0) trodAll_mk0), rfl, bel.frame _, fun h => by cases h⟩

theorem over : Rows.fnExactTuplesOkRow.holds Try.pinned (OpenSpec.ofChange Rows.fnExactTuplesOkSpec) :=
  OpenClaim.holds_of_wide 7 Try.f7 rfl rfl rfl rfl rfl rfl rfl ⟨rfl, rfl, rfl, rfl, rfl⟩ rfl rfl rfl rfl rfl (by kernel_rfl) Try.func7 (by kernel_rfl)
    (of_decide_eq_true (by kernel_rfl)) (by unfold Func.isWrapper; first | (rw [if_pos (by decide +kernel)]; kernel_rfl) | (rw [if_neg (by decide +kernel)]; exact ⟨rfl, rfl⟩))
    (fun os started H enc _ => lifted os started H enc)

end Go.Proofs.Ytglkhgkiljfooag.fnExactTuplesOk
namespace Go.Proofs.Ytglkhgkiljfooag
theorem FnExactTuplesOk_holds : Rows.FnExactTuplesOkSaid := fnExactTuplesOk.over
end Go.Proofs.Ytglkhgkiljfooag
