/- Proved here: FnAdded answers true for every slice of bytes and leaves it as it was, with no condition on it. -/
import Derived.Test.YtlnoohgkaaioiaaAddedLaw
import Derived.OpenShut
import Derived.ShutString
namespace Go.Proofs.Ytlnoohgkaaioiaa.fnAdded
open Go.ChangeShapes Go.WideShapes Go.ChangeAt Go.RowKit
open Pl
set_option linter.unusedVariables false

/-- what the walk keeps: the tuple's block, the drawn list, the lists that were told -/
structure Lw (w : World) (B g : Nat) (t : Tp) (ts : List Tp) (ls : List (Option Addr × List Tp)) (W : World) : Prop where
  bel : Below w.heap.size w W
  six : Six W B t
  row : Row6 W g 0 ts
  lt : g < W.heap.size
  all : ∀ p ∈ ls, Sl W p.1 p.2
theorem Lw.later {w : World} {B g : Nat} {t : Tp} {ts : List Tp} {ls : List (Option Addr × List Tp)} {W W' : World} (h : Lw w B g t ts ls W) (hb : Below W.heap.size W W') : Lw w B g t ts ls W' :=
  ⟨h.bel.trans (hb.mono h.bel.size), h.six.below hb, h.row.below hb h.lt, Nat.lt_of_lt_of_le h.lt hb.size, fun p hp => (h.all p hp).below hb⟩
theorem Lw.more {w : World} {B g : Nat} {t : Tp} {ts : List Tp} {ls : List (Option Addr × List Tp)} {W : World} (h : Lw w B g t ts ls W) {ad : Option Addr} {L : List Tp} (hs : Sl W ad L) : Lw w B g t ts ((ad, L) :: ls) W :=
  ⟨h.bel, h.six, h.row, h.lt, fun p hp => by
    rcases List.mem_cons.1 hp with rfl | hp
    · exact hs
    · exact h.all p hp⟩
theorem Lw.own {w : World} {B g : Nat} {t : Tp} {ts : List Tp} {ls : List (Option Addr × List Tp)} {W : World} (h : Lw w B g t ts ls W) : Sl W (some ⟨g, 0, none⟩) ts := .inr ⟨g, 0, rfl, h.lt, h.row⟩
theorem remShort {ts : List Tp} {t : Tp} (h : Short ts) : Short (remL ts t) := fun x hx => by
  unfold remL at hx
  split at hx
  · exact h x ((dropT_mem ts t x).1 hx).1
  · cases hx
theorem addShort {ts : List Tp} {t : Tp} (h : Short ts) (ht : t.short) : Short (addL ts t) := fun x hx => by
  unfold addL at hx
  split at hx
  · exact h.put ht x hx
  · cases hx
theorem remLenS {ts : List Tp} {t : Tp} (h : ts.length ≤ 9) : (remL ts t).length ≤ 9 := by
  unfold remL
  split
  · have := dropT_len ts t ts.length; rw [List.take_length] at this; omega
  · simp
theorem addLenS {ts : List Tp} {t : Tp} (h : ts.length ≤ 9) : (addL ts t).length ≤ 10 := by
  unfold addL
  split
  · rw [putT_len]; omega
  · simp

set_option maxRecDepth 100000 in
set_option maxHeartbeats 8000000 in
theorem walk (ad : Option Addr) (len cap : Nat) (w : World) (h : Bytes w ad len) :
    Calls Try.prog 3 #[.slice ad len cap] w fun e w' => e = .returned (.bool true) ∧ Below w.heap.size w w' := by
  have H := HID h
  clear h
  go_enter Try.func3, Try.ntmps3
  go_wp2_with fail
  refine (big_any ad len cap w).mono ?_
  rintro e w0 ⟨rfl, rfl⟩
  by_cases hbig : (1048576 : Int) < (len : Int)
  · go_wp2
    go_ret
    exact ⟨rfl, Below.refl _ _⟩
  go_wp2_with fail
  refine (drawAdded_any ad len cap _ H.out).mono ?_
  rintro e w1 ⟨g, c, ts, t, rfl, hts, hsh, ht, hown, hb1⟩
  obtain ⟨W2, hW2⟩ : ∃ W2, W2 = w1.alloc (.cells #[.string t.a, .string t.b, .string t.r, .string t.c, .string t.d, .string t.s] 28) := ⟨_, rfl⟩
  have hb2 : Below w1.heap.size w1 W2 := by rw [hW2]; exact (Below.refl _ _).alloc (Nat.le_refl _) _
  obtain ⟨hrow1, hg1, hcc, -⟩ := own_row hown rfl
  have K2 : Hid (Lw _ w1.heap.size g t ts [] W2) := ⟨hb1.trans (hb2.mono hb1.size), by rw [hW2]; exact six_new w1 t _, hrow1.below hb2 hg1, Nat.lt_of_lt_of_le hg1 hb2.size, fun p hp => by cases hp⟩
  have HSh := HID hsh
  have HT := HID ht
  have hml : ts.length ≤ 1048576 := by omega
  clear hown hb1 hb2 hrow1 hg1 hsh ht hbig
  obtain ⟨x0, x1, x2, x3, x4, x5, xl⟩ := K2.out.six
  go_wp2_with fail
  rw [← hW2]
  clear hW2
  refine (implAdded_any _ c ts t _ hml K2.out.own HSh.out.fits HT.out.fits).mono ?_
  rintro e w3 ⟨ad3, cap3, rfl, hO3, hb3⟩
  have K3 := HID ((K2.out.later hb3).more hO3.1)
  clear hO3 hb3 K2 x0 x1 x2 x3 x4 x5 xl
  obtain ⟨x0, x1, x2, x3, x4, x5, xl⟩ := K3.out.six
  go_wp2_with fail
  refine (specAdded_any g 0 c ts t _ hml hcc K3.out.row K3.out.lt HSh.out.fits HT.out.fits).mono ?_
  rintro e w4 ⟨ad4, cap4, rfl, hs4, hb4⟩
  have K4 := HID ((K3.out.later hb4).more hs4)
  clear hs4 hb4 K3 x0 x1 x2 x3 x4 x5 xl
  obtain ⟨x0, x1, x2, x3, x4, x5, xl⟩ := K4.out.six
  go_wp2_with fail
  refine (implRemoved_any _ c ts t _ hml K4.out.own HSh.out.fits HT.out.fits).mono ?_
  rintro e w5 ⟨ad5, cap5, rfl, hO5, hb5⟩
  have K5 := HID ((K4.out.later hb5).more hO5.1)
  clear hO5 hb5 K4 x0 x1 x2 x3 x4 x5 xl
  obtain ⟨x0, x1, x2, x3, x4, x5, xl⟩ := K5.out.six
  go_wp2_with fail
  refine (specRemoved_any _ c ts t _ hml K5.out.own HSh.out.fits).mono ?_
  rintro e w6 ⟨ad6, cap6, rfl, hs6, hb6⟩
  have K6 := HID ((K5.out.later hb6).more hs6)
  have hl1 : (addL ts t).length ≤ 1048576 := by have := addLenS (t := t) hts; omega
  have hl2 : (remL ts t).length ≤ 1048576 := by have := remLenS (t := t) hts; omega
  clear hs6 hb6 K5 x0 x1 x2 x3 x4 x5 xl
  cases hq1 : addB ts t with
  | true =>
    have hq2 := not_both hq1
    rw [hq2]
    obtain ⟨h1, h2, h3, h4, -⟩ := back_rem hq1
    have HQ := HID (And.intro h1 (And.intro h2 (And.intro h3 h4)))
    clear hq1 hq2 h1 h2 h3 h4
    go_wp2_with fail
    refine (sameTuples_any ad3 ad4 cap3 cap4 _ _ hl1 (K6.out.all (ad3, addL ts t) (by simp)) (K6.out.all (ad4, addL ts t) (by simp))).mono ?_
    rintro e w7 ⟨rfl, hb7⟩
    have K7 := HID (K6.out.later hb7)
    clear hb7 K6
    go_wp2_with fail
    refine (sameTuples_any ad5 ad6 cap5 cap6 _ _ hl2 (K7.out.all (ad5, remL ts t) (by simp)) (K7.out.all (ad6, remL ts t) (by simp))).mono ?_
    rintro e w8 ⟨rfl, hb8⟩
    have K8 := HID (K7.out.later hb8)
    clear hb8 K7
    obtain ⟨x0, x1, x2, x3, x4, x5, xl⟩ := K8.out.six
    go_wp2_with fail
    refine (implRemoved_any ad3 cap3 (addL ts t) t _ hl1 (K8.out.all (ad3, addL ts t) (by simp)) (addShort HSh.out HT.out).fits HT.out.fits).mono ?_
    rintro e w9 ⟨ad9, cap9, he, hO9, hb9⟩
    rw [HQ.out.1, HQ.out.2.1] at he
    subst he
    have hs9 := hO9.1
    rw [HQ.out.2.1] at hs9
    have K9 := HID ((K8.out.later hb9).more hs9)
    clear hO9 hs9 hb9 K8 x0 x1 x2 x3 x4 x5 xl
    go_wp2_with fail
    refine (sameTuples_any ad9 (some ⟨g, 0, none⟩) cap9 c ts _ hml (K9.out.all (ad9, ts) (by simp)) K9.out.own).mono ?_
    rintro e w10 ⟨rfl, hb10⟩
    have K10 := HID (K9.out.later hb10)
    clear hb10 K9
    go_wp2_with fail
    refine (implTuplesOk_any ad3 cap3 (addL ts t) _ (by unfold maxLen; omega) (K10.out.all (ad3, addL ts t) (by simp)) (addShort HSh.out HT.out).fits).mono ?_
    rintro e w11 ⟨he, hb11⟩
    rw [HQ.out.2.2.1] at he
    subst he
    have K11 := HID (K10.out.later hb11)
    clear hb11 K10
    obtain ⟨x0, x1, x2, x3, x4, x5, xl⟩ := K11.out.six
    go_wp2_with fail
    refine (hasTuple_any ad3 cap3 (addL ts t) t _ hl1 (K11.out.all (ad3, addL ts t) (by simp))).mono ?_
    rintro e w12 ⟨he, hb12⟩
    rw [HQ.out.2.2.2] at he
    subst he
    have K12 := HID (K11.out.later hb12)
    clear hb12 K11 x0 x1 x2 x3 x4 x5 xl
    go_wp2
    go_ret
    exact ⟨rfl, K12.out.bel⟩
  | false =>
    cases hq2 : remB ts t with
    | true =>
      obtain ⟨h1, h2, h3, -⟩ := back_add hq2
      have HQ := HID (And.intro h1 (And.intro h2 h3))
      clear hq1 hq2 h1 h2 h3
      go_wp2_with fail
      refine (sameTuples_any ad3 ad4 cap3 cap4 _ _ hl1 (K6.out.all (ad3, addL ts t) (by simp)) (K6.out.all (ad4, addL ts t) (by simp))).mono ?_
      rintro e w7 ⟨rfl, hb7⟩
      have K7 := HID (K6.out.later hb7)
      clear hb7 K6
      go_wp2_with fail
      refine (sameTuples_any ad5 ad6 cap5 cap6 _ _ hl2 (K7.out.all (ad5, remL ts t) (by simp)) (K7.out.all (ad6, remL ts t) (by simp))).mono ?_
      rintro e w8 ⟨rfl, hb8⟩
      have K8 := HID (K7.out.later hb8)
      clear hb8 K7
      obtain ⟨x0, x1, x2, x3, x4, x5, xl⟩ := K8.out.six
      go_wp2_with fail
      refine (implAdded_any ad5 cap5 (remL ts t) t _ hl2 (K8.out.all (ad5, remL ts t) (by simp)) (remShort HSh.out).fits HT.out.fits).mono ?_
      rintro e w9 ⟨ad9, cap9, he, hO9, hb9⟩
      rw [HQ.out.1, HQ.out.2.1] at he
      subst he
      have hs9 := hO9.1
      rw [HQ.out.2.1] at hs9
      have K9 := HID ((K8.out.later hb9).more hs9)
      clear hO9 hs9 hb9 K8 x0 x1 x2 x3 x4 x5 xl
      go_wp2_with fail
      refine (sameTuples_any ad9 (some ⟨g, 0, none⟩) cap9 c ts _ hml (K9.out.all (ad9, ts) (by simp)) K9.out.own).mono ?_
      rintro e w10 ⟨rfl, hb10⟩
      have K10 := HID (K9.out.later hb10)
      clear hb10 K9
      obtain ⟨x0, x1, x2, x3, x4, x5, xl⟩ := K10.out.six
      go_wp2_with fail
      refine (hasTuple_any ad5 cap5 (remL ts t) t _ hl2 (K10.out.all (ad5, remL ts t) (by simp))).mono ?_
      rintro e w12 ⟨he, hb12⟩
      rw [HQ.out.2.2] at he
      subst he
      have K12 := HID (K10.out.later hb12)
      clear hb12 K10 x0 x1 x2 x3 x4 x5 xl
      go_wp2
      go_ret
      exact ⟨rfl, K12.out.bel⟩
    | false =>
      clear hq1 hq2
      go_wp2_with fail
      refine (sameTuples_any ad3 ad4 cap3 cap4 _ _ hl1 (K6.out.all (ad3, addL ts t) (by simp)) (K6.out.all (ad4, addL ts t) (by simp))).mono ?_
      rintro e w7 ⟨rfl, hb7⟩
      have K7 := HID (K6.out.later hb7)
      clear hb7 K6
      go_wp2_with fail
      refine (sameTuples_any ad5 ad6 cap5 cap6 _ _ hl2 (K7.out.all (ad5, remL ts t) (by simp)) (K7.out.all (ad6, remL ts t) (by simp))).mono ?_
      rintro e w8 ⟨rfl, hb8⟩
      have K8 := HID (K7.out.later hb8)
      clear hb8 K7
      go_wp2
      go_ret
      exact ⟨rfl, K8.out.bel⟩

theorem own : ownKnob Try.prog.godebug = none := by kernel_rfl
theorem laidOut : laidOutB Try.prog = true := by kernel_rfl

set_option maxRecDepth 100000 in
theorem lifted (os : Os) (started : os.Started) (H : Type) (enc : TypeId × Value → H) :
    ReturnsInHanded {} Try.checked os 3 .any (Rows.fnAddedSpec.pre6 enc Try.prog Try.f3 Rows.fnAddedRow.domain false) (Rows.fnAddedSpec.post enc Try.prog Try.f3 false true false false) := by
  refine returnsInHanded_of_change (C := Try.checked) own started (by kernel_rfl) Try.func3
    (ChangeSpec.witness6 (enc := enc) (C := Try.checked) false ⟨#[], #[.slice none 0 0], []⟩ 8 (by kernel_rfl) (by kernel_rfl) (by kernel_rfl) (by kernel_rfl)) ?_
  intro W base args ds gs before hval0 hW hcnd _
  have hval : ∀ (j : Nat) t v, Try.f3.params[j]? = some t → args[j]? = some v → Value.okWide Try.prog W .any base t v := hval0
  have hW' := hW
  obtain ⟨p, q, hA0, hV, rfl, hfz, hnd⟩ := hW
  have hA : DataW.TrodAll enc Try.prog W 0 (fun _ => true) true Try.f3.params.toList args.toList ds p := hA0
  rw [Try.params3] at hA hval
  obtain ⟨v0, vs0, d0, ds0, p0, q0, hargs, rfl, rfl, h0, r0⟩ := trodAll_cons hA
  obtain ⟨rfl, rfl, rfl⟩ := trodAll_nil r0
  obtain rfl : args = #[v0] := by cases args; simp_all
  obtain ⟨rfl, rfl⟩ := trodVars_none hV
  have k0 := h0
  have lt0 : ∀ x ∈ p0, x.block < W.heap.size := by obtain ⟨m, hm⟩ := k0; exact DataW.trod_lt m _ _ _ hm
  obtain ⟨ad0, len0, cap0, hv0⟩ := okWide_slice Try.underlying22 (hval 0 22 v0 rfl rfl)
  subst hv0
  obtain ⟨fuel0, hf0⟩ := h0
  have hby0 := open_bytes (by simpa [Value.cells] using hf0)
  clear hA0 hval0
  refine (walk ad0 len0 cap0 W hby0).mono fun e W' ⟨he, bel⟩ => ?_
  subst he
  exact ⟨_, rfl, _, _, _, [], _, [], hW', trodAll_mk1 (shut_bool Try.underlying4 _), (trodAll_cons_mk (Below.trod laidOut (by kernel_rfl) (of_decide_eq_true (by kernel_rfl)) k0 bel lt0) trodAll_mk0), rfl, bel.frame _, fun h => by cases h⟩

theorem over : Rows.fnAddedRow.holds Try.pinned (OpenSpec.ofChange Rows.fnAddedSpec) :=
  OpenClaim.holds_of_wide 3 Try.f3 rfl rfl rfl rfl rfl rfl rfl ⟨rfl, rfl, rfl, rfl, rfl⟩ rfl rfl rfl rfl rfl (by kernel_rfl) Try.func3 (by kernel_rfl)
    (of_decide_eq_true (by kernel_rfl)) (by unfold Func.isWrapper; first | (rw [if_pos (by decide +kernel)]; kernel_rfl) | (rw [if_neg (by decide +kernel)]; exact ⟨rfl, rfl⟩))
    (fun os started H enc _ => lifted os started H enc)

end Go.Proofs.Ytlnoohgkaaioiaa.fnAdded
namespace Go.Proofs.Ytlnoohgkaaioiaa
theorem FnAdded_holds : Rows.FnAddedSaid := fnAdded.over
end Go.Proofs.Ytlnoohgkaaioiaa
