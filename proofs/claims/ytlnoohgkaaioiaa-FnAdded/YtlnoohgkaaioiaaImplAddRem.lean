/- Contracts of the program's functions that add a tuple to a list and that take one away. -/
import Derived.Test.YtlnoohgkaaioiaaInOrder
import Derived.Test.YtlnoohgkaaioiaaImplSet
import Derived.Test.YtlnoohgkaaioiaaSpecAddRem
namespace Go.Proofs.Ytlnoohgkaaioiaa
set_option maxRecDepth 100000
open Go.ChangeShapes Go.WideShapes Go.ChangeAt Go.RowKit Go.Maps
open Pl

section
variable {K : Type} {enc : K → Value} {P : Program} (w : World) {ops : Array Oper} {rest : List Oper} {o : Oper} {a : Act} {Q : Exit → Act → World → Prop}
theorem wpList_deleteV [DecidableEq K] (hg : o.guard = none) (m x : Operand) (t k : TypeId) (hop : o.op = Op.call { callee := Callee.builtin Builtin.delete, args := #[m, x], argTypes := #[t, k] }) (e : TypeId) (L : Keyed P k) (hinj : ∀ x y, enc x = enc y → x = y) (ht : P.underlying t = some (.map k e)) (b n : Nat) (M : K → Option Value)
    (hm : a.eval m = .map (some b)) (hV : MapV enc P k w b n M) (y : K) (kl : Lit) (hx : a.eval x = enc y) (hkey : keyOf P k (enc y) = some kl)
    (hK : ∀ w', MapV enc P k w' b n (updM M y none) → w.grownBy w' (some b) → wpList P ops Q rest (a.put o.dst (.tuple #[])) w') : wpList P ops Q (o :: rest) a w := by
  obtain ⟨D, hown, hD⟩ := hV
  refine wpList_delete_own w hg m x t k hop e L ht anyR b n D hm hown (enc y) kl hx hkey fun w' h1 h2 => hK w' ⟨D.del kl, h1, fun z kz hz => ?_⟩ h2.grown
  by_cases e2 : z = y
  · subst e2
    obtain rfl : kz = kl := by rw [hkey] at hz; injection hz with hz; exact hz.symm
    rw [updM_same]
    exact ⟨has_del_same, fun u => atKey_del_same u⟩
  · have hne : kz ≠ kl := fun e3 => e2 (hinj _ _ (L.inj (by rw [e3] at hz; exact hz) hkey))
    rw [updM_other e2]
    have h5 := hD z kz hz
    cases e3 : M z with
    | none => rw [e3] at h5; exact ⟨by rw [has_del_other hne]; exact h5.1, fun u => by rw [atKey_del_other hne]; exact h5.2 u⟩
    | some v => rw [e3] at h5; exact ⟨by rw [has_del_other hne]; exact h5.1, fun u => by rw [atKey_del_other hne]; exact h5.2 u⟩
end

/-- what the two answer: a list in memory of its own, and a flag -/
def TellsO (w w' : World) (e : Ending) (L : List Tp) (f : Bool) : Prop := ∃ (ad : Option Addr) (cap : Nat), e = .returned (.tuple #[.slice ad L.length cap, .bool f]) ∧ OwnL w.heap.size w' ad L ∧ Below w.heap.size w w'
theorem ownL_nil {B : Nat} {w : World} {ad : Option Addr} {L : List Tp} (h : L = []) : OwnL B w ad L := ⟨.inl h, fun k => absurd h k⟩
theorem OwnL.mono {B B' : Nat} {w : World} {ad : Option Addr} {L : List Tp} (h : OwnL B w ad L) (hB : B' ≤ B) : OwnL B' w ad L := ⟨h.1, fun k => by obtain ⟨g, e, h1, h2⟩ := h.2 k; exact ⟨g, e, Nat.le_trans hB h1, h2⟩⟩
theorem set_at [DecidableEq Tp] (ts : List Tp) (t : Tp) : (setFrom (fun _ => none) ts t).isSome = hasT ts t := by
  rw [Bool.eq_iff_iff, setFrom_is, hasT_iff]; simp

theorem set_units [DecidableEq Tp] (ts : List Tp) : ∀ (M : Tp → Option Value), (∀ x v, M x = some v → v = .agg #[]) → ∀ x v, setFrom M ts x = some v → v = .agg #[] := by
  induction ts with
  | nil => exact fun M h => h
  | cons y ys ih =>
    intro M h
    refine ih _ fun x v hx => ?_
    unfold updM at hx
    split at hx
    · injection hx with hx; exact hx.symm
    · exact h x v hx
theorem set_val [DecidableEq Tp] (ts : List Tp) (t : Tp) : (setFrom (fun _ => none) ts t).getD (.agg #[]) = .agg #[] := by
  cases e : setFrom (fun _ => none) ts t with
  | none => rfl
  | some v => exact set_units ts _ (fun _ _ h => by cases h) t v e

set_option maxRecDepth 100000 in
set_option maxHeartbeats 4000000 in
theorem implRemoved_any (ad : Option Addr) (cap : Nat) (ts : List Tp) (t : Tp) (w : World) (hlen : ts.length ≤ 1048576) (hs : Sl w ad ts) (hf : ∀ x ∈ ts, x.fits) (ht : t.fits) :
    Calls Try.prog 10 #[.slice ad ts.length cap, .agg #[.string t.a, .string t.b, .string t.r, .string t.c, .string t.d, .string t.s]] w fun e w' => TellsO w w' e (remL ts t) (remB ts t) := by
  letI : DecidableEq Tp := fun x y => decidable_of_iff (tpEq x y = true) tpEq_iff
  have HF := HID hf
  have HFT := HID ht
  obtain ⟨W0, hW0⟩ : ∃ W0, W0 = w.alloc (.cells #[.string t.a, .string t.b, .string t.r, .string t.c, .string t.d, .string t.s] 28) := ⟨_, rfl⟩
  have HB0 : Hid (Below w.heap.size w W0) := by show Below _ _ _; rw [hW0]; exact (Below.refl _ _).alloc (Nat.le_refl _) _
  have HX0 : Hid (Six W0 w.heap.size t) := by show Six _ _ _; rw [hW0]; exact six_new w t _
  have HS0 : Hid (Sl W0 ad ts) := hs.below HB0.out
  have hml : ts.length ≤ maxLen := by unfold maxLen; omega
  have HT := HID (implTuplesOk_any ad cap ts W0 hml HS0.out hf)
  clear hs hf hml ht
  go_enter Try.func10, Try.ntmps10
  go_wp2_with fail
  rw [← hW0]; clear hW0
  refine HT.out.mono ?_
  rintro e w1 ⟨he, hb1⟩
  have HB1 : Hid (Below w.heap.size w w1) := HB0.out.trans (hb1.mono HB0.out.size)
  have HX1 : Hid (Six w1 w.heap.size t) := HX0.out.below hb1
  have HS1 : Hid (Sl w1 ad ts) := HS0.out.below hb1
  clear HT HX0 HS0 HB0 hb1
  cases h1 : tupsB ts with
  | false =>
    rw [h1] at he; subst he
    have HR : Hid (remB ts t = false) := by show _ = _; simp [remB, h1]
    have HL : Hid (remL ts t = []) := remL_no HR.out
    clear h1
    go_wp2
    go_ret2
    exact ⟨none, 0, by rw [HL.out, HR.out]; rfl, ownL_nil HL.out, HB1.out⟩
  | true =>
    rw [h1] at he; subst he
    have H1 := HID h1
    have h40 := tupsB_len h1
    have HSet := HID (setOf_any ad cap ts w1 h40 HS1.out HF.out)
    clear h1
    go_wp2_with fail
    refine HSet.out.mono ?_
    rintro e w2 ⟨rfl, hV, hb2⟩
    have HV := HID hV
    have HB2 : Hid (Below w.heap.size w w2) := HB1.out.trans (hb2.mono HB1.out.size)
    have HX2 : Hid (Six w2 w.heap.size t) := HX1.out.below hb2
    have hw1 : w.heap.size ≤ w1.heap.size := HB1.out.size
    obtain ⟨kl, hkl⟩ := tupKeyOf t HFT.out
    have HKL := HID hkl
    have hsa := set_at ts t
    have hsv := set_val ts t
    obtain ⟨x0, x1, x2, x3, x4, x5, xl⟩ := HX2.out
    have HW1X : Hid (w.heap.size < w1.heap.size) := HX1.out.2.2.2.2.2.2
    clear HSet HX1 HS1 HB1 hb2 hV hkl
    cases h2 : hasT ts t with
    | false =>
      rw [h2] at hsa
      have HR : Hid (remB ts t = false) := by show _ = _; simp [remB, H1.out, h2]
      have HL : Hid (remL ts t = []) := remL_no HR.out
      clear h2
      go_wp2_with (at_lookup; refine wpList_lookV_ok _ rfl _ _ 59 rfl 28 61 tupLaw Try.underlying59 (z := .agg #[]) (Try.zeroValue61 _) w1.heap.size ts.length _ rfl HV.out t kl rfl HKL.out ?_; rw [hsa, hsv])
      go_ret2
      exact ⟨none, 0, by rw [HL.out, HR.out]; rfl, ownL_nil HL.out, HB2.out.alloc HB2.out.size _⟩
    | true =>
      rw [h2] at hsa
      have HR : Hid (remB ts t = true) := by show _ = _; simp [remB, H1.out, h2]
      have HL : Hid (remL ts t = dropT ts t) := remL_yes HR.out
      clear h2
      obtain ⟨W3, hW3⟩ : ∃ W3, W3 = w2.alloc (.cells #[] 61) := ⟨_, rfl⟩
      have HB23 : Hid (Below w2.heap.size w2 W3) := by show Below _ _ _; rw [hW3]; exact (Below.refl _ _).alloc (Nat.le_refl _) _
      have HV3 : Hid (MapV encT Try.prog 28 W3 w1.heap.size ts.length (setFrom (fun _ => none) ts)) := HV.out.below HB23.out
      have HB3 : Hid (Below w.heap.size w W3) := HB2.out.trans (HB23.out.mono HB2.out.size)
      go_wp2_with (first | (at_lookup; refine wpList_lookV_ok _ rfl _ _ 59 rfl 28 61 tupLaw Try.underlying59 (z := .agg #[]) (Try.zeroValue61 _) w1.heap.size ts.length _ rfl HV.out t kl rfl HKL.out ?_; rw [hsa, hsv]) | (at_delete; rw [← hW3]; clear hW3; refine wpList_deleteV _ rfl _ _ 59 28 rfl 61 tupLaw encT_inj Try.underlying59 w1.heap.size ts.length _ rfl HV3.out t kl rfl HKL.out ?_))
      intro w4 hV4 hg4
      have hB4 : Below w.heap.size w w4 := HB3.out.grown hg4 HB3.out.size (fun g e => by injection e with e; omega)
      obtain ⟨hu, hok, -⟩ := up_of H1.out
      have hio := inOrder_any w1.heap.size ts.length _ (dropT ts t) w4 hV4 (by omega) (dropT_up t hu) (fun x hx => hok x ((dropT_mem ts t x).1 hx).1) (fun x => by
        rw [dropT_mem]
        by_cases e : x = t
        · subst e; simp [updM_same]
        · rw [updM_other e, setFrom_is]; simp [e]) (by have := dropT_len ts t ts.length; rw [List.take_length] at this; omega)
      have HIO := HID hio
      have HB4 := HID hB4
      clear hio hB4 hV4 hg4 hu hok HV HV3 HB3 HB23 HB2 HX2 hsa hsv x0 x1 x2 x3 x4 x5 xl
      go_wp2_with fail
      refine HIO.out.mono ?_
      rintro e w5 ⟨ad', cap', rfl, hO, hb5⟩
      have HO := HID hO
      clear hO HIO
      go_wp2
      go_ret2
      exact ⟨ad', cap', by rw [HL.out, HR.out]; rfl, by rw [HL.out]; exact HO.out.mono HB4.out.size, HB4.out.trans (hb5.mono HB4.out.size)⟩

theorem putT_len (ts : List Tp) (t : Tp) : (putT ts t).length = ts.length + 1 := by
  induction ts with
  | nil => rfl
  | cons x xs ih =>
    unfold putT
    split
    · simp [ih]
    · simp

set_option maxRecDepth 100000 in
set_option maxHeartbeats 4000000 in
theorem implAdded_any (ad : Option Addr) (cap : Nat) (ts : List Tp) (t : Tp) (w : World) (hlen : ts.length ≤ 1048576) (hs : Sl w ad ts) (hf : ∀ x ∈ ts, x.fits) (ht : t.fits) :
    Calls Try.prog 8 #[.slice ad ts.length cap, .agg #[.string t.a, .string t.b, .string t.r, .string t.c, .string t.d, .string t.s]] w fun e w' => TellsO w w' e (addL ts t) (addB ts t) := by
  letI : DecidableEq Tp := fun x y => decidable_of_iff (tpEq x y = true) tpEq_iff
  have HF := HID hf
  have HFT := HID ht
  obtain ⟨W0, hW0⟩ : ∃ W0, W0 = w.alloc (.cells #[.string t.a, .string t.b, .string t.r, .string t.c, .string t.d, .string t.s] 28) := ⟨_, rfl⟩
  have HB0 : Hid (Below w.heap.size w W0) := by show Below _ _ _; rw [hW0]; exact (Below.refl _ _).alloc (Nat.le_refl _) _
  have HX0 : Hid (Six W0 w.heap.size t) := by show Six _ _ _; rw [hW0]; exact six_new w t _
  have HS0 : Hid (Sl W0 ad ts) := hs.below HB0.out
  have hml : ts.length ≤ maxLen := by unfold maxLen; omega
  have HT := HID (implTuplesOk_any ad cap ts W0 hml HS0.out hf)
  clear hs hf hml ht
  go_enter Try.func8, Try.ntmps8
  go_wp2_with fail
  rw [← hW0]; clear hW0
  refine HT.out.mono ?_
  rintro e w1 ⟨he, hb1⟩
  have HB1 : Hid (Below w.heap.size w w1) := HB0.out.trans (hb1.mono HB0.out.size)
  have HX1 : Hid (Six w1 w.heap.size t) := HX0.out.below hb1
  have HS1 : Hid (Sl w1 ad ts) := HS0.out.below hb1
  clear HT HX0 HS0 HB0 hb1
  cases h1 : tupsB ts with
  | false =>
    rw [h1] at he; subst he
    have HR : Hid (addB ts t = false) := by show _ = _; simp [addB, h1]
    have HL : Hid (addL ts t = []) := addL_no HR.out
    clear h1
    go_wp2
    go_ret2
    exact ⟨none, 0, by rw [HL.out, HR.out]; rfl, ownL_nil HL.out, HB1.out⟩
  | true =>
    rw [h1] at he; subst he
    have H1 := HID h1
    have h40 := tupsB_len h1
    obtain ⟨x0, x1, x2, x3, x4, x5, xl⟩ := HX1.out
    obtain ⟨e0, e1, e2, e3, e4, e5⟩ := HFT.out
    have HH := HID (implTup_any t.a t.b t.r t.c t.d t.s w1 e0 e1 e2 e3 e4 e5)
    clear h1 e0 e1 e2 e3 e4 e5
    go_wp2_with fail
    refine HH.out.mono ?_
    rintro e w1b ⟨he, hb1b⟩
    have HB1b : Hid (Below w.heap.size w w1b) := HB1.out.trans (hb1b.mono HB1.out.size)
    have HX1b : Hid (Six w1b w.heap.size t) := HX1.out.below hb1b
    have HS1b : Hid (Sl w1b ad ts) := HS1.out.below hb1b
    clear HH HX1 HB1 HS1 hb1b x0 x1 x2 x3 x4 x5 xl
    cases hk : t.ok with
    | false =>
      have hk' : tupB t.a t.b t.r t.c t.d t.s = false := hk
      rw [hk'] at he; subst he
      have HR : Hid (addB ts t = false) := by show _ = _; simp [addB, H1.out, hk]
      have HL : Hid (addL ts t = []) := addL_no HR.out
      clear hk hk'
      go_wp2
      go_ret2
      exact ⟨none, 0, by rw [HL.out, HR.out]; rfl, ownL_nil HL.out, HB1b.out⟩
    | true =>
      have hk' : tupB t.a t.b t.r t.c t.d t.s = true := hk
      rw [hk'] at he; subst he
      have H2 := HID hk
      clear hk hk'
      by_cases hfull : ts.length = 40
      · have HR : Hid (addB ts t = false) := by show _ = _; simp [addB, hfull]
        have HL : Hid (addL ts t = []) := addL_no HR.out
        have h5 : (40 : Int) ≤ (ts.length : Int) := by omega
        clear hfull
        go_wp2
        go_ret2
        exact ⟨none, 0, by rw [HL.out, HR.out]; rfl, ownL_nil HL.out, HB1b.out⟩
      · have h5 : ¬ (40 : Int) ≤ (ts.length : Int) := by omega
        have H4 := HID hfull
        have HSet := HID (setOf_any ad cap ts w1b h40 HS1b.out HF.out)
        clear hfull
        go_wp2_with fail
        refine HSet.out.mono ?_
        rintro e w2 ⟨rfl, hV, hb2⟩
        have HV := HID hV
        have HB2 : Hid (Below w.heap.size w w2) := HB1b.out.trans (hb2.mono HB1b.out.size)
        have HX2 : Hid (Six w2 w.heap.size t) := HX1b.out.below hb2
        have hw1 : w.heap.size ≤ w1b.heap.size := HB1b.out.size
        obtain ⟨kl, hkl⟩ := tupKeyOf t HFT.out
        have HKL := HID hkl
        have hsa := set_at ts t
        have hsv := set_val ts t
        obtain ⟨x0, x1, x2, x3, x4, x5, xl⟩ := HX2.out
        clear HSet HX1b HS1b HB1b hb2 hV hkl
        cases h2 : hasT ts t with
        | true =>
          rw [h2] at hsa
          have HR : Hid (addB ts t = false) := by show _ = _; simp [addB, h2]
          have HL : Hid (addL ts t = []) := addL_no HR.out
          clear h2
          go_wp2_with (at_lookup; refine wpList_lookV_ok _ rfl _ _ 59 rfl 28 61 tupLaw Try.underlying59 (z := .agg #[]) (Try.zeroValue61 _) w1b.heap.size ts.length _ rfl HV.out t kl rfl HKL.out ?_; rw [hsa, hsv])
          go_ret2
          exact ⟨none, 0, by rw [HL.out, HR.out]; rfl, ownL_nil HL.out, HB2.out.alloc HB2.out.size _⟩
        | false =>
          rw [h2] at hsa
          have HR : Hid (addB ts t = true) := by show _ = _; simp [addB, H1.out, H2.out, h2, H4.out]
          have HL : Hid (addL ts t = putT ts t) := addL_yes HR.out
          have HNM : Hid (t ∉ ts) := fun hm => by rw [hasT_iff.2 hm] at h2; cases h2
          clear h2
          obtain ⟨W3, hW3⟩ : ∃ W3, W3 = w2.alloc (.cells #[] 61) := ⟨_, rfl⟩
          have HB23 : Hid (Below w2.heap.size w2 W3) := by show Below _ _ _; rw [hW3]; exact (Below.refl _ _).alloc (Nat.le_refl _) _
          have HV3 : Hid (MapV encT Try.prog 28 W3 w1b.heap.size ts.length (setFrom (fun _ => none) ts)) := HV.out.below HB23.out
          have HB3 : Hid (Below w.heap.size w W3) := HB2.out.trans (HB23.out.mono HB2.out.size)
          go_wp2_with (first | (at_lookup; refine wpList_lookV_ok _ rfl _ _ 59 rfl 28 61 tupLaw Try.underlying59 (z := .agg #[]) (Try.zeroValue61 _) w1b.heap.size ts.length _ rfl HV.out t kl rfl HKL.out ?_; rw [hsa, hsv]) | (at_mapUpdate; rw [← hW3]; clear hW3; refine wpList_storeV _ rfl _ _ _ 59 rfl 28 61 tupLaw encT_inj Try.underlying59 w1b.heap.size ts.length _ rfl HV3.out (by unfold maxLen; omega) t kl rfl HKL.out (.agg #[]) rfl ?_))
          intro w4 hV4 hg4
          have hB4 : Below w.heap.size w w4 := HB3.out.grown hg4 HB3.out.size (fun g e => by injection e with e; omega)
          obtain ⟨hu, hok, -⟩ := up_of H1.out
          have hio := inOrder_any w1b.heap.size (ts.length + 1) _ (putT ts t) w4 hV4 (by omega) (putT_up hu hok H2.out HNM.out) (fun x hx => by
            rcases (putT_mem ts t x).1 hx with rfl | h
            · exact H2.out
            · exact hok x h) (fun x => by
            rw [putT_mem]
            by_cases e : x = t
            · subst e; simp [updM_same]
            · rw [updM_other e, setFrom_is]; simp [e]) (by rw [putT_len]; omega)
          have HIO := HID hio
          have HB4 := HID hB4
          clear hio hB4 hV4 hg4 hu hok HV HV3 HB3 HB23 HB2 HX2 hsa hsv x0 x1 x2 x3 x4 x5 xl
          go_wp2_with fail
          refine HIO.out.mono ?_
          rintro e w5 ⟨ad', cap', rfl, hO, hb5⟩
          have HO := HID hO
          clear hO HIO
          go_wp2
          go_ret2
          exact ⟨ad', cap', by rw [HL.out, HR.out]; rfl, by rw [HL.out]; exact HO.out.mono HB4.out.size, HB4.out.trans (hb5.mono HB4.out.size)⟩
end Go.Proofs.Ytlnoohgkaaioiaa
