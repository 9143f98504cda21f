/- Contracts of the document's functions that add a tuple to a list and that take one away. -/
import Derived.Test.YtgifbgcnlijjiaaSpecPut
import Derived.Test.YtgifbgcnlijjiaaSpecHas
import Derived.Test.YtgifbgcnlijjiaaSpecDrop
import Derived.Test.YtgifbgcnlijjiaaEqTupS
namespace Go.Proofs.Ytgifbgcnlijjiaa
open Go.ChangeShapes Go.WideShapes Go.ChangeAt Go.RowKit Go.Maps
open Pl

/-- t can be taken away; what is left then -/
def remB (ts : List Tp) (t : Tp) : Bool := tupsB ts && hasT ts t
def remL (ts : List Tp) (t : Tp) : List Tp := if remB ts t then dropT ts t else []
/-- t can be added; what there is then -/
def addB (ts : List Tp) (t : Tp) : Bool := tupsB ts && t.ok && !hasT ts t && !(ts.length == 40)
def addL (ts : List Tp) (t : Tp) : List Tp := if addB ts t then putT ts t else []
theorem remL_yes {ts : List Tp} {t : Tp} (h : remB ts t = true) : remL ts t = dropT ts t := by simp [remL, h]
theorem remL_no {ts : List Tp} {t : Tp} (h : remB ts t = false) : remL ts t = [] := by simp [remL, h]
theorem addL_yes {ts : List Tp} {t : Tp} (h : addB ts t = true) : addL ts t = putT ts t := by simp [addL, h]
theorem addL_no {ts : List Tp} {t : Tp} (h : addB ts t = false) : addL ts t = [] := by simp [addL, h]

/-- what the two answer: a list and a flag -/
def Tells (w w' : World) (e : Ending) (L : List Tp) (f : Bool) : Prop := ∃ (ad : Option Addr) (cap : Nat), e = .returned (.tuple #[.slice ad L.length cap, .bool f]) ∧ Sl w' ad L ∧ Below w.heap.size w w'

/-- the same, the list in a row of its own -/
def TellsS (w w' : World) (e : Ending) (L : List Tp) (f : Bool) : Prop := ∃ v : Value, e = .returned (.tuple #[v, .bool f]) ∧ w'.ownsRow w.heap.size 27 6 v L.length (rows6 L) ∧ Below w.heap.size w w'

set_option maxHeartbeats 2000000 in
theorem specRemoved_any (ad : Option Addr) (cap : Nat) (ts : List Tp) (t : Tp) (w : World) (hlen : ts.length ≤ 1048576) (hs : Sl w ad ts) (hf : ∀ x ∈ ts, x.fits) :
    Calls Try.prog 19 #[.slice ad ts.length cap, .agg #[.string t.a, .string t.b, .string t.r, .string t.c, .string t.d, .string t.s]] w fun e w' => Tells w w' e (remL ts t) (remB ts t) := by
  have HF := HID hf
  obtain ⟨W0, hW0⟩ : ∃ W0, W0 = w.alloc (.cells #[.string t.a, .string t.b, .string t.r, .string t.c, .string t.d, .string t.s] 27) := ⟨_, rfl⟩
  have HB0 : Hid (Below w.heap.size w W0) := by show Below _ _ _; rw [hW0]; exact (Below.refl _ _).alloc (Nat.le_refl _) _
  have HX0 : Hid (Six W0 w.heap.size t) := by show Six _ _ _; rw [hW0]; exact six_new w t _
  have HS0 : Hid (Sl W0 ad ts) := hs.below HB0.out
  have hml : ts.length ≤ maxLen := by unfold maxLen; omega
  have HT := HID (specTuplesOk_any ad cap ts W0 hml HS0.out hf)
  clear hs hf hml
  go_enter Try.func19, Try.ntmps19
  go_wp2_with fail
  rw [← hW0]; clear hW0
  refine HT.out.mono ?_
  rintro e w1 ⟨he, hb1⟩
  have HB1 : Hid (Below w.heap.size w w1) := HB0.out.trans (hb1.mono HB0.out.size)
  have HX1 : Hid (Six w1 w.heap.size t) := HX0.out.below hb1
  have HS1 : Hid (Sl w1 ad ts) := HS0.out.below hb1
  clear HT HX0 HS0 HB0 hb1
  cases h1 : tupsB ts with
  | false =>
    rw [h1] at he; subst he
    have HR : Hid (remB ts t = false) := by show _ = _; simp [remB, h1]
    have HL : Hid (remL ts t = []) := remL_no HR.out
    clear h1
    go_wp2
    go_ret2
    exact ⟨none, 0, by rw [HL.out, HR.out]; rfl, .inl HL.out, HB1.out⟩
  | true =>
    rw [h1] at he; subst he
    obtain ⟨x0, x1, x2, x3, x4, x5, xl⟩ := HX1.out
    have HH := HID (l1Has_any ad cap ts t w1 hlen HS1.out)
    have H1 := HID h1
    clear h1
    go_wp2_with fail
    refine HH.out.mono ?_
    rintro e w2 ⟨he, hb2⟩
    have HB2 : Hid (Below w.heap.size w w2) := HB1.out.trans (hb2.mono HB1.out.size)
    have HX2 : Hid (Six w2 w.heap.size t) := HX1.out.below hb2
    have HS2 : Hid (Sl w2 ad ts) := HS1.out.below hb2
    clear HH HX1 HS1 HB1 hb2 x0 x1 x2 x3 x4 x5 xl
    cases h2 : hasT ts t with
    | false =>
      rw [h2] at he; subst he
      have HR : Hid (remB ts t = false) := by show _ = _; simp [remB, H1.out, h2]
      have HL : Hid (remL ts t = []) := remL_no HR.out
      clear h2
      go_wp2
      go_ret2
      exact ⟨none, 0, by rw [HL.out, HR.out]; rfl, .inl HL.out, HB2.out⟩
    | true =>
      rw [h2] at he; subst he
      have HR : Hid (remB ts t = true) := by show _ = _; simp [remB, H1.out, h2]
      have HL : Hid (remL ts t = dropT ts t) := remL_yes HR.out
      obtain ⟨x0, x1, x2, x3, x4, x5, xl⟩ := HX2.out
      have HD := HID (l1Drop_any ad cap ts t w2 hlen HS2.out)
      clear h2 HS2 HX2
      go_wp2_with fail
      refine HD.out.mono ?_
      rintro e w3 ⟨ad', cap', rfl, hs3, hb3⟩
      have HS3 := HID hs3
      clear hs3 HD x0 x1 x2 x3 x4 x5 xl
      go_wp2
      go_ret2
      exact ⟨ad', cap', by rw [HL.out, HR.out]; rfl, by rw [HL.out]; exact HS3.out, HB2.out.trans (hb3.mono HB2.out.size)⟩

set_option maxHeartbeats 2000000 in
theorem specAdded_own (b off cap : Nat) (ts : List Tp) (t : Tp) (w : World) (hlen : ts.length ≤ 1048576) (hcap : ts.length ≤ cap) (hs : Row6 w b off ts) (hb : b < w.heap.size) (hf : ∀ x ∈ ts, x.fits) (ht : t.fits) :
    Calls Try.prog 17 #[.slice (some ⟨b, off, none⟩) ts.length cap, .agg #[.string t.a, .string t.b, .string t.r, .string t.c, .string t.d, .string t.s]] w fun e w' => TellsS w w' e (addL ts t) (addB ts t) := by
  have HF := HID hf
  have HFT := HID ht
  obtain ⟨W0, hW0⟩ : ∃ W0, W0 = w.alloc (.cells #[.string t.a, .string t.b, .string t.r, .string t.c, .string t.d, .string t.s] 27) := ⟨_, rfl⟩
  have HB0 : Hid (Below w.heap.size w W0) := by show Below _ _ _; rw [hW0]; exact (Below.refl _ _).alloc (Nat.le_refl _) _
  have HX0 : Hid (Six W0 w.heap.size t) := by show Six _ _ _; rw [hW0]; exact six_new w t _
  have HS := HID hs
  have SL : Hid (∀ W : World, Below w.heap.size w W → Sl W (some ⟨b, off, none⟩) ts) := fun W hB => .inr ⟨b, off, rfl, Nat.lt_of_lt_of_le hb hB.size, HS.out.below hB hb⟩
  have hml : ts.length ≤ maxLen := by unfold maxLen; omega
  have HT := HID (specTuplesOk_any (some ⟨b, off, none⟩) cap ts W0 hml (SL.out _ HB0.out) hf)
  clear hs hf hml ht
  go_enter Try.func17, Try.ntmps17
  go_wp2_with fail
  rw [← hW0]; clear hW0
  refine HT.out.mono ?_
  rintro e w1 ⟨he, hb1⟩
  have HB1 : Hid (Below w.heap.size w w1) := HB0.out.trans (hb1.mono HB0.out.size)
  have HX1 : Hid (Six w1 w.heap.size t) := HX0.out.below hb1
  clear HT HX0 HB0 hb1
  cases h1 : tupsB ts with
  | false =>
    rw [h1] at he; subst he
    have HR : Hid (addB ts t = false) := by show _ = _; simp [addB, h1]
    have HL : Hid (addL ts t = []) := addL_no HR.out
    clear h1
    go_wp2
    go_ret2
    exact ⟨.slice none 0 0, by rw [HR.out]; rfl, by rw [HL.out]; exact World.ownsRow_nil _ _ _ _, HB1.out⟩
  | true =>
    rw [h1] at he; subst he
    obtain ⟨x0, x1, x2, x3, x4, x5, xl⟩ := HX1.out
    have H1 := HID h1
    obtain ⟨e0, e1, e2, e3, e4, e5⟩ := HFT.out
    have HH := HID (specTup_any t.a t.b t.r t.c t.d t.s w1 e0 e1 e2 e3 e4 e5)
    clear h1 e0 e1 e2 e3 e4 e5
    go_wp2_with fail
    refine HH.out.mono ?_
    rintro e w2 ⟨he, hb2⟩
    have HB2 : Hid (Below w.heap.size w w2) := HB1.out.trans (hb2.mono HB1.out.size)
    have HX2 : Hid (Six w2 w.heap.size t) := HX1.out.below hb2
    clear HH HX1 HB1 hb2 x0 x1 x2 x3 x4 x5 xl
    cases h2 : t.ok with
    | false =>
      have h2' : tupB t.a t.b t.r t.c t.d t.s = false := h2
      rw [h2'] at he; subst he
      have HR : Hid (addB ts t = false) := by show _ = _; simp [addB, H1.out, h2]
      have HL : Hid (addL ts t = []) := addL_no HR.out
      clear h2 h2'
      go_wp2
      go_ret2
      exact ⟨.slice none 0 0, by rw [HR.out]; rfl, by rw [HL.out]; exact World.ownsRow_nil _ _ _ _, HB2.out⟩
    | true =>
      have h2' : tupB t.a t.b t.r t.c t.d t.s = true := h2
      rw [h2'] at he; subst he
      have H2 := HID h2
      obtain ⟨x0, x1, x2, x3, x4, x5, xl⟩ := HX2.out
      have HH := HID (l1Has_any (some ⟨b, off, none⟩) cap ts t w2 hlen (SL.out _ HB2.out))
      clear h2 h2'
      go_wp2_with fail
      refine HH.out.mono ?_
      rintro e w3 ⟨he, hb3⟩
      have HB3 : Hid (Below w.heap.size w w3) := HB2.out.trans (hb3.mono HB2.out.size)
      have HX3 : Hid (Six w3 w.heap.size t) := HX2.out.below hb3
      clear HH HX2 HB2 hb3 x0 x1 x2 x3 x4 x5 xl
      cases h3 : hasT ts t with
      | true =>
        rw [h3] at he; subst he
        have HR : Hid (addB ts t = false) := by show _ = _; simp [addB, H1.out, H2.out, h3]
        have HL : Hid (addL ts t = []) := addL_no HR.out
        clear h3
        go_wp2
        go_ret2
        exact ⟨.slice none 0 0, by rw [HR.out]; rfl, by rw [HL.out]; exact World.ownsRow_nil _ _ _ _, HB3.out⟩
      | false =>
        rw [h3] at he; subst he
        have H3 := HID h3
        clear h3
        by_cases h4 : ts.length = 40
        · have HR : Hid (addB ts t = false) := by show _ = _; simp [addB, H1.out, H2.out, H3.out, h4]
          have HL : Hid (addL ts t = []) := addL_no HR.out
          have h5 : ((ts.length : Int) == 40) = true := by simp; omega
          have H4 := HID h4
          clear h4
          go_wp2
          go_ret2
          exact ⟨.slice none 0 0, by rw [HR.out]; rfl, by rw [HL.out]; exact World.ownsRow_nil _ _ _ _, HB3.out⟩
        · have HR : Hid (addB ts t = true) := by show _ = _; simp [addB, H1.out, H2.out, H3.out, h4]
          have HL : Hid (addL ts t = putT ts t) := addL_yes HR.out
          have h5 : ((ts.length : Int) == 40) = false := by simp; omega
          have h40 := tupsB_len H1.out
          obtain ⟨x0, x1, x2, x3, x4, x5, xl⟩ := HX3.out
          have HP := HID (l1Put_own b off cap ts t w3 (by omega) hcap (HS.out.below HB3.out hb) (Nat.lt_of_lt_of_le hb HB3.out.size) HF.out HFT.out)
          clear HX3
          go_wp2_with fail
          refine HP.out.mono ?_
          rintro e w4 ⟨v4, rfl, hs4, hb4⟩
          have HS4 := HID hs4
          clear hs4 HP x0 x1 x2 x3 x4 x5 xl
          go_wp2
          go_ret2
          exact ⟨v4, by rw [HR.out]; rfl, by rw [HL.out]; exact ownsRow_base HS4.out HB3.out.size, HB3.out.trans (hb4.mono HB3.out.size)⟩
theorem specAdded_any (b off cap : Nat) (ts : List Tp) (t : Tp) (w : World) (hlen : ts.length ≤ 1048576) (hcap : ts.length ≤ cap) (hs : Row6 w b off ts) (hb : b < w.heap.size) (hf : ∀ x ∈ ts, x.fits) (ht : t.fits) :
    Calls Try.prog 17 #[.slice (some ⟨b, off, none⟩) ts.length cap, .agg #[.string t.a, .string t.b, .string t.r, .string t.c, .string t.d, .string t.s]] w fun e w' => Tells w w' e (addL ts t) (addB ts t) :=
  (specAdded_own b off cap ts t w hlen hcap hs hb hf ht).mono fun e w' ⟨v, he, ho, hB⟩ => by
    obtain ⟨ad', cap', hv, hsl, -⟩ := ownsT ho rfl
    exact ⟨ad', cap', by rw [he, hv], hsl, hB⟩
end Go.Proofs.Ytgifbgcnlijjiaa
