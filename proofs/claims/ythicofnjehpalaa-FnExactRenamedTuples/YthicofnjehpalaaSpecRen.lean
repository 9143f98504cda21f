/- Contract of the document's function that gives tuples another name for a relation. -/
import Derived.Test.YthicofnjehpalaaSpecPut
import Derived.Test.YthicofnjehpalaaSpecHas
import Derived.Test.YthicofnjehpalaaEqTupS
import Derived.Test.YthicofnjehpalaaPlainRen
namespace Go.Proofs.Ythicofnjehpalaa
set_option maxRecDepth 100000
open Go.ChangeShapes Go.WideShapes Go.ChangeAt Go.RowKit Go.Maps
open Pl

theorem ren_ok {typ frm to : ByteArray} {t : Tp} (h : t.ok = true) (hto : nameB to = true) : (ren typ frm to t).ok = true := by
  have hn : ∀ ty name, nameB name = true → nameB (relN typ frm to ty name) = true := fun ty name hx => by
    unfold relN; split
    · exact hto
    · exact hx
  have hs : ∀ ty name, setB name = true → setB (relN typ frm to ty name) = true := fun ty name hx => by
    unfold relN; split
    · unfold setB; rw [hto]; simp
    · exact hx
  unfold Tp.ok tupB at h ⊢
  simp only [Bool.and_eq_true] at h ⊢
  exact ⟨⟨⟨h.1.1.1, hn _ _ h.1.1.2⟩, h.1.2⟩, hs _ _ h.2⟩
theorem name_some {n : ByteArray} (h : nameB n = true) : n.toList.isEmpty = false := by
  cases e : n.toList with
  | cons a b => rfl
  | nil =>
    have h0 : n.size = 0 := by rw [Go.ByteArray.toList_eq] at e; have := congrArg List.length e; simpa using this
    have := (nameB_le h).1
    omega
theorem fits_ok {t : Tp} (h : t.ok = true) : t.fits := by
  obtain ⟨h1, h2, h3, h4⟩ := tupB_parts h
  obtain ⟨a1, a2⟩ := objB_le h1
  obtain ⟨c1, c2⟩ := objB_le h3
  have r := (nameB_le h2).2
  have s := setB_le h4
  unfold Tp.fits maxLen
  omega
/-- both answer this -/
def rnB (to : ByteArray) (ts : List Tp) : Bool := tupsB ts && nameB to
def rnL (typ frm to : ByteArray) (ts : List Tp) : List Tp := if rnB to ts then renL typ frm to ts else []
theorem rnL_yes {typ frm to : ByteArray} {ts : List Tp} (h : rnB to ts = true) : rnL typ frm to ts = renL typ frm to ts := by simp [rnL, h]
theorem rnL_no {typ frm to : ByteArray} {ts : List Tp} (h : rnB to ts = false) : rnL typ frm to ts = [] := by simp [rnL, h]
theorem rnB_facts {typ frm to : ByteArray} {ts : List Tp} (h : rnB to ts = true) : ts.length ≤ 40 ∧ ∀ t ∈ ts, t.ok = true ∧ (ren typ frm to t).ok = true := by
  unfold rnB at h
  simp only [Bool.and_eq_true] at h
  obtain ⟨-, hok, hl⟩ := up_of h.1
  exact ⟨hl, fun t ht => ⟨hok t ht, ren_ok (hok t ht) h.2⟩⟩
theorem rnL_len (typ frm to : ByteArray) {ts : List Tp} (h : ts.length ≤ 1048576) : (rnL typ frm to ts).length ≤ 1048576 := by
  unfold rnL
  split
  · rename_i hb
    have := (renL_up (typ := typ) (frm := frm) (fun t ht => ((rnB_facts hb).2 t ht).2)).2.2.2
    omega
  · simp
theorem cell_set {w : World} {a : Addr} {v u : Value} (h : w.cell? a = some u) : (w.setCell a v).cell? a = some v := by
  apply World.cell?_setCell_same; exact h
theorem ownsRow_later {w w' : World} {base size n : Nat} {e : TypeId} {v : Value} {xs : List Value} (h : w.ownsRow base e size v n xs) (hb : Below w.heap.size w w') : w'.ownsRow base e size v n xs := by
  refine ⟨h.1, ?_⟩
  rcases h.2 with hl | ⟨g, cap, cur, rfl, h1, h2, h3⟩
  · exact .inl hl
  · exact .inr ⟨g, cap, cur, rfl, h1, (hb.block g (h.lt g rfl).2).trans h2, h3⟩
theorem ownsRow_succR {W : World} {base : Nat} {e : TypeId} {size : Nat} {v : Value} {k : Nat} {xs : List Value} (h : W.ownsRow base e size v (k + 1) xs) : ∃ g cap, v = .slice (some ⟨g, 0, none⟩) (k + 1) cap := by
  rcases h.2 with ⟨_, h0⟩ | ⟨g, cap, _, rfl, _⟩
  · omega
  · exact ⟨g, cap, rfl⟩
theorem six_set2 {W : World} {n : Nat} {t : Tp} (to : ByteArray) (h : Six W n t) : Six (W.setCell ⟨n, 2, none⟩ (.string to)) n ⟨t.a, t.b, to, t.c, t.d, t.s⟩ := by
  obtain ⟨h0, h1, h2, h3, h4, h5, hl⟩ := h
  exact ⟨(setO (by omega)).trans h0, (setO (by omega)).trans h1, cell_set h2, (setO (by omega)).trans h3, (setO (by omega)).trans h4, (setO (by omega)).trans h5, by simpa using hl⟩
theorem six_set5 {W : World} {n : Nat} {t : Tp} (to : ByteArray) (h : Six W n t) : Six (W.setCell ⟨n, 5, none⟩ (.string to)) n ⟨t.a, t.b, t.r, t.c, t.d, to⟩ := by
  obtain ⟨h0, h1, h2, h3, h4, h5, hl⟩ := h
  exact ⟨(setO (by omega)).trans h0, (setO (by omega)).trans h1, (setO (by omega)).trans h2, (setO (by omega)).trans h3, (setO (by omega)).trans h4, cell_set h5, by simpa using hl⟩
theorem row_of {w : World} {base g cap n : Nat} {ts : List Tp} (h : w.ownsRow base 39 6 (.slice (some ⟨g, 0, none⟩) n cap) n (rows6 ts)) (hn : n = ts.length) : Row6 w g 0 ts := by
  obtain ⟨ad, cap', hv, hsl, -⟩ := ownsT h hn
  injection hv with e1 e2 e3
  rcases hsl with h0 | ⟨b, off, e, -, hr⟩
  · intro i hi; rw [h0] at hi; simp at hi
  · rw [← e1] at e; injection e with e; injection e with e4 e5; subst e4; subst e5; exact hr
theorem cap_of {w : World} {base g cap n : Nat} {xs : List Value} (h : w.ownsRow base 39 6 (.slice (some ⟨g, 0, none⟩) n cap) n xs) : n ≤ cap := by
  rcases h.2 with ⟨e, -⟩ | ⟨g', cap', cur, e, -, -, hnc, -⟩
  · cases e
  · injection e with e1 e2 e3; omega

set_option maxHeartbeats 8000000 in
theorem specRenTups_any (b0 off0 cap : Nat) (ts : List Tp) (typ frm to : ByteArray) (w : World) (hlen : ts.length ≤ 1048576) (hs : Row6 w b0 off0 ts) (hb : b0 < w.heap.size) (hf : ∀ x ∈ ts, x.fits) (hto : to.size ≤ maxLen) :
    Calls Try.prog 5 #[.slice (some ⟨b0, off0, none⟩) ts.length cap, .string typ, .string frm, .string to] w fun e w' => ∃ (ad' : Option Addr) (cap' : Nat), e = .returned (.slice ad' (rnL typ frm to ts).length cap') ∧ Sl w' ad' (rnL typ frm to ts) ∧ Below w.heap.size w w' := by
  have HST : Hid (Sl w (some ⟨b0, off0, none⟩) ts) := .inr ⟨b0, off0, rfl, hb, hs⟩
  have HFT := HID hf
  obtain ⟨W0, hW0⟩ : ∃ W0, W0 = w.alloc (.cells #[] 39) := ⟨_, rfl⟩
  have HB0 : Hid (Below w.heap.size w W0) := by show Below _ _ _; rw [hW0]; exact (Below.refl _ _).alloc (Nat.le_refl _) _
  have HLIT : Hid (W0.ownsRow w.heap.size 39 6 (.slice (some ⟨w.heap.size, 0, none⟩) 0 0) 0 (rows6 (renL typ frm to (ts.take 0)))) := by
    show World.ownsRow _ _ _ _ _ _ _
    rw [hW0]
    exact World.ownsRow_lit w #[] 0 (Nat.le_refl _) (by unfold maxLen; omega) (by simp)
  have hml : ts.length ≤ maxLen := by unfold maxLen; omega
  clear hs hf
  go_enter Try.func5, Try.ntmps5
  go_wp2_with fail
  rw [← hW0]; clear hW0
  refine (specTuplesOk_any _ cap ts _ hml (HST.out.below HB0.out) HFT.out).mono ?_
  rintro e w1 ⟨he, hb1⟩
  have HB1 : Hid (Below w.heap.size w w1) := HB0.out.trans (hb1.mono HB0.out.size)
  have HO1 := HID (ownsRow_later HLIT.out hb1)
  clear hb1 HLIT HB0
  cases h1 : tupsB ts with
  | false =>
    rw [h1] at he; subst he
    have HN : Hid (rnL typ frm to ts = []) := rnL_no (by simp [rnB, h1])
    clear h1
    go_wp2
    go_ret
    exact ⟨some ⟨w.heap.size, 0, none⟩, 0, by rw [HN.out]; rfl, .inl HN.out, HB1.out⟩
  | true =>
    rw [h1] at he; subst he
    have H1 := HID h1
    clear h1
    go_wp2_with fail
    refine (specName_any to _ hto).mono ?_
    rintro e w2 ⟨he, hw2⟩
    replace hw2 := hw2.symm
    subst hw2
    cases h2 : nameB to with
    | false =>
      rw [h2] at he; subst he
      have HN : Hid (rnL typ frm to ts = []) := rnL_no (by simp [rnB, h2])
      clear h2
      go_wp2
      go_ret
      exact ⟨some ⟨w.heap.size, 0, none⟩, 0, by rw [HN.out]; rfl, .inl HN.out, HB1.out⟩
    | true =>
      rw [h2] at he; subst he
      have HRB : Hid (rnB to ts = true) := by show _ = _; simp [rnB, h2, H1.out]
      have HN : Hid (rnL typ frm to ts = renL typ frm to ts) := rnL_yes HRB.out
      obtain ⟨h40, hoks⟩ := rnB_facts (typ := typ) (frm := frm) HRB.out
      have HOK := HID hoks
      clear h2 H1 hoks
      go_wp2
      go_loopw [9, 10] (fun v i wr => ∃ (k g cp : Nat), k ≤ ts.length ∧ i = .int .i64 k ∧ v = .slice (some ⟨g, 0, none⟩) (renL typ frm to (ts.take k)).length cp ∧ Hid (wr.ownsRow w.heap.size 39 6 (.slice (some ⟨g, 0, none⟩) (renL typ frm to (ts.take k)).length cp) (renL typ frm to (ts.take k)).length (rows6 (renL typ frm to (ts.take k)))) ∧ Hid (Below w.heap.size w wr)) (fun _ i _ => ts.length - (intOf i).toNat)
      case atStart => exact ⟨0, w.heap.size, 0, Nat.zero_le _, rfl, rfl, HO1, HB1⟩
      case round =>
        clear HO1 HB1
        obtain ⟨k, g, cp, hk, rfl, rfl, HOW, HBW⟩ := hrel
        by_cases hlt2 : k < ts.length
        · rcases HST.out.below HBW.out with hnil | ⟨b, off, hbo, hbl, hr⟩
          · rw [hnil] at hlt2; simp at hlt2
          injection hbo with hbo; injection hbo with hbo1 hbo2
          subst hbo1; subst hbo2
          obtain ⟨t0, t1, t2, t3, t4, t5⟩ := hr k hlt2
          have hk1 : (0 : Int) ≤ (k : Int) := by omega
          have hk2 : (k : Int) < (ts.length : Int) := by omega
          have HTK := HID (renL_take (typ := typ) (frm := frm) (to := to) hlt2)
          obtain ⟨ok1, ok2⟩ := HOK.out _ (List.getElem_mem hlt2)
          obtain ⟨hup, hlok, -, hll⟩ := renL_up (typ := typ) (frm := frm) (to := to) (ts := ts.take k) (fun t ht => (HOK.out t (List.mem_of_mem_take ht)).2)
          have hl40 : (renL typ frm to (ts.take k)).length ≤ 40 := by have : (ts.take k).length ≤ k := by simp; omega
                                                                      omega
          have HLF : Hid (∀ x ∈ renL typ frm to (ts.take k), x.fits) := fun x hx => fits_ok (hlok x hx)
          have HRF : Hid ((ren typ frm to ts[k]).fits) := fits_ok ok2
          have HNE : Hid (ts[k].r.toList.isEmpty = false) := by
            show _ = _
            refine name_some ?_
            unfold Tp.ok tupB at ok1
            simp only [Bool.and_eq_true] at ok1
            exact ok1.1.1.2
          obtain ⟨L, hL⟩ : ∃ L, L = renL typ frm to (ts.take k) := ⟨_, rfl⟩
          rw [← hL] at HOW HTK hll hl40 HLF ⊢
          obtain ⟨x, hx⟩ : ∃ x, x = ts[k] := ⟨_, rfl⟩
          rw [← hx] at t0 t1 t2 t3 t4 t5 HTK HRF HNE
          have HDEF : Hid (ren typ frm to x = ⟨x.a, x.b, relN typ frm to x.a x.r, x.c, x.d, relN typ frm to x.c x.s⟩) := rfl
          have HLT : Hid (k < ts.length) := hlt2
          have HCP := HID (cap_of HOW.out)
          have HGL := HID (HOW.out.lt g rfl)
          clear hr hup hlok hL ok1 ok2 hx
          cases e1 : x.a.toList == typ.toList with
          | false =>
            cases e3 : x.c.toList == typ.toList with
            | false =>
              have HY : Hid (ren typ frm to x = ⟨x.a, x.b, x.r, x.c, x.d, x.s⟩) := by show _ = _; simp [ren, relN, e1, e3]
              obtain ⟨y, hy⟩ : ∃ y : Tp, y = ⟨x.a, x.b, x.r, x.c, x.d, x.s⟩ := ⟨_, rfl⟩
              obtain ⟨W1, hW1⟩ : ∃ W1, W1 = wr.alloc (.cells #[.string x.a, .string x.b, .string x.r, .string x.c, .string x.d, .string x.s] 39) := ⟨_, rfl⟩
              have HX1 : Hid (Six W1 wr.heap.size y) := by rw [hW1, hy]; exact six_new wr ⟨x.a, x.b, x.r, x.c, x.d, x.s⟩ _
              have HB1 : Hid (Below wr.heap.size wr W1) := by rw [hW1]; exact (Below.refl _ _).alloc (Nat.le_refl _) _
              have HBW1 : Hid (Below w.heap.size w W1) := HBW.out.trans (HB1.out.mono HBW.out.size)
              have HOW1 := HID (ownsRow_later HOW.out HB1.out)
              have HYR : Hid (ren typ frm to x = y) := by rw [hy]; exact HY
              have HHAS := HID (l1Has_any (some ⟨g, 0, none⟩) cp L y W1 (by omega) (.inr ⟨g, 0, rfl, (HOW1.out.lt g rfl).2, row_of HOW1.out rfl⟩))
              rw [hy] at HHAS
              go_wp2_with fail
              rw [← hW1]; clear hW1
              refine HHAS.out.mono ?_
              rw [← hy]
              rintro e w3 ⟨he, hb3⟩
              have HB3 : Hid (Below w.heap.size w w3) := HBW1.out.trans (hb3.mono HBW1.out.size)
              have HX3 : Hid (Six w3 wr.heap.size y) := HX1.out.below hb3
              have HO3 := HID (ownsRow_later HOW1.out hb3)
              clear hb3 HX1 HOW1 HBW1 HHAS HB1 t0 t1 t2 t3 t4 t5
              cases h5 : hasT L y with
              | true =>
                rw [h5] at he; subst he
                have HE : Hid (renL typ frm to (ts.take (k + 1)) = L) := by show _ = _; rw [HTK.out, HYR.out]; simp [putN, h5]
                clear h5
                go_wp2
                go_roundw
                case rel => exact ⟨k + 1, g, cp, by omega, by go_num, by rw [HE.out], by rw [HE.out]; exact HO3, HB3⟩
                case measure => first | (simp [intOf]; done) | (simp [intOf]; omega)
              | false =>
                rw [h5] at he; subst he
                have HE : Hid (renL typ frm to (ts.take (k + 1)) = putT L y) := by show _ = _; rw [HTK.out, HYR.out]; simp [putN, h5]
                have HPUT := HID (l1Put_own g 0 cp L y w3 (by omega) HCP.out (row_of HO3.out rfl) (HO3.out.lt g rfl).2 HLF.out (by rw [← HYR.out]; exact HRF.out))
                clear h5
                obtain ⟨x0, x1, x2, x3, x4, x5, xl⟩ := HX3.out
                rw [hy] at x0 x1 x2 x3 x4 x5
                clear HX3
                go_wp2_with fail
                rw [hy] at HPUT
                refine HPUT.out.mono ?_
                rw [← hy]
                rintro e w4 ⟨v4, rfl, ho4, hb4⟩
                have HB4 : Hid (Below w.heap.size w w4) := HB3.out.trans (hb4.mono HB3.out.size)
                have ho5 := ho4
                rw [putN_len] at ho5
                obtain ⟨g4, cp4, rfl⟩ := ownsRow_succR ho5
                have HO4 : Hid (w4.ownsRow w.heap.size 39 6 (.slice (some ⟨g4, 0, none⟩) (L.length + 1) cp4) (L.length + 1) (rows6 (putT L y))) := ownsRow_base ho5 HB3.out.size
                clear ho4 ho5 hb4 x0 x1 x2 x3 x4 x5 HPUT
                go_wp2
                go_roundw
                case rel => exact ⟨k + 1, g4, cp4, by omega, by go_num, by rw [HE.out, putN_len], by rw [HE.out, putN_len]; exact HO4, HB4⟩
                case measure => first | (simp [intOf]; done) | (simp [intOf]; omega)
            | true =>
              cases e4 : x.s.toList == frm.toList with
              | false =>
                have HY : Hid (ren typ frm to x = ⟨x.a, x.b, x.r, x.c, x.d, x.s⟩) := by show _ = _; simp [ren, relN, e1, e3, e4]
                obtain ⟨y, hy⟩ : ∃ y : Tp, y = ⟨x.a, x.b, x.r, x.c, x.d, x.s⟩ := ⟨_, rfl⟩
                obtain ⟨W1, hW1⟩ : ∃ W1, W1 = wr.alloc (.cells #[.string x.a, .string x.b, .string x.r, .string x.c, .string x.d, .string x.s] 39) := ⟨_, rfl⟩
                have HX1 : Hid (Six W1 wr.heap.size y) := by rw [hW1, hy]; exact six_new wr ⟨x.a, x.b, x.r, x.c, x.d, x.s⟩ _
                have HB1 : Hid (Below wr.heap.size wr W1) := by rw [hW1]; exact (Below.refl _ _).alloc (Nat.le_refl _) _
                have HBW1 : Hid (Below w.heap.size w W1) := HBW.out.trans (HB1.out.mono HBW.out.size)
                have HOW1 := HID (ownsRow_later HOW.out HB1.out)
                have HYR : Hid (ren typ frm to x = y) := by rw [hy]; exact HY
                have HHAS := HID (l1Has_any (some ⟨g, 0, none⟩) cp L y W1 (by omega) (.inr ⟨g, 0, rfl, (HOW1.out.lt g rfl).2, row_of HOW1.out rfl⟩))
                rw [hy] at HHAS
                go_wp2_with fail
                rw [← hW1]; clear hW1
                refine HHAS.out.mono ?_
                rw [← hy]
                rintro e w3 ⟨he, hb3⟩
                have HB3 : Hid (Below w.heap.size w w3) := HBW1.out.trans (hb3.mono HBW1.out.size)
                have HX3 : Hid (Six w3 wr.heap.size y) := HX1.out.below hb3
                have HO3 := HID (ownsRow_later HOW1.out hb3)
                clear hb3 HX1 HOW1 HBW1 HHAS HB1 t0 t1 t2 t3 t4 t5
                cases h5 : hasT L y with
                | true =>
                  rw [h5] at he; subst he
                  have HE : Hid (renL typ frm to (ts.take (k + 1)) = L) := by show _ = _; rw [HTK.out, HYR.out]; simp [putN, h5]
                  clear h5
                  go_wp2
                  go_roundw
                  case rel => exact ⟨k + 1, g, cp, by omega, by go_num, by rw [HE.out], by rw [HE.out]; exact HO3, HB3⟩
                  case measure => first | (simp [intOf]; done) | (simp [intOf]; omega)
                | false =>
                  rw [h5] at he; subst he
                  have HE : Hid (renL typ frm to (ts.take (k + 1)) = putT L y) := by show _ = _; rw [HTK.out, HYR.out]; simp [putN, h5]
                  have HPUT := HID (l1Put_own g 0 cp L y w3 (by omega) HCP.out (row_of HO3.out rfl) (HO3.out.lt g rfl).2 HLF.out (by rw [← HYR.out]; exact HRF.out))
                  clear h5
                  obtain ⟨x0, x1, x2, x3, x4, x5, xl⟩ := HX3.out
                  rw [hy] at x0 x1 x2 x3 x4 x5
                  clear HX3
                  go_wp2_with fail
                  rw [hy] at HPUT
                  refine HPUT.out.mono ?_
                  rw [← hy]
                  rintro e w4 ⟨v4, rfl, ho4, hb4⟩
                  have HB4 : Hid (Below w.heap.size w w4) := HB3.out.trans (hb4.mono HB3.out.size)
                  have ho5 := ho4
                  rw [putN_len] at ho5
                  obtain ⟨g4, cp4, rfl⟩ := ownsRow_succR ho5
                  have HO4 : Hid (w4.ownsRow w.heap.size 39 6 (.slice (some ⟨g4, 0, none⟩) (L.length + 1) cp4) (L.length + 1) (rows6 (putT L y))) := ownsRow_base ho5 HB3.out.size
                  clear ho4 ho5 hb4 x0 x1 x2 x3 x4 x5 HPUT
                  go_wp2
                  go_roundw
                  case rel => exact ⟨k + 1, g4, cp4, by omega, by go_num, by rw [HE.out, putN_len], by rw [HE.out, putN_len]; exact HO4, HB4⟩
                  case measure => first | (simp [intOf]; done) | (simp [intOf]; omega)
              | true =>
                cases e5 : x.s.toList.isEmpty with
                | true =>
                  have HY : Hid (ren typ frm to x = ⟨x.a, x.b, x.r, x.c, x.d, x.s⟩) := by show _ = _; simp [ren, relN, e1, e3, e4, e5]
                  obtain ⟨y, hy⟩ : ∃ y : Tp, y = ⟨x.a, x.b, x.r, x.c, x.d, x.s⟩ := ⟨_, rfl⟩
                  obtain ⟨W1, hW1⟩ : ∃ W1, W1 = wr.alloc (.cells #[.string x.a, .string x.b, .string x.r, .string x.c, .string x.d, .string x.s] 39) := ⟨_, rfl⟩
                  have HX1 : Hid (Six W1 wr.heap.size y) := by rw [hW1, hy]; exact six_new wr ⟨x.a, x.b, x.r, x.c, x.d, x.s⟩ _
                  have HB1 : Hid (Below wr.heap.size wr W1) := by rw [hW1]; exact (Below.refl _ _).alloc (Nat.le_refl _) _
                  have HBW1 : Hid (Below w.heap.size w W1) := HBW.out.trans (HB1.out.mono HBW.out.size)
                  have HOW1 := HID (ownsRow_later HOW.out HB1.out)
                  have HYR : Hid (ren typ frm to x = y) := by rw [hy]; exact HY
                  have HHAS := HID (l1Has_any (some ⟨g, 0, none⟩) cp L y W1 (by omega) (.inr ⟨g, 0, rfl, (HOW1.out.lt g rfl).2, row_of HOW1.out rfl⟩))
                  rw [hy] at HHAS
                  go_wp2_with fail
                  rw [← hW1]; clear hW1
                  refine HHAS.out.mono ?_
                  rw [← hy]
                  rintro e w3 ⟨he, hb3⟩
                  have HB3 : Hid (Below w.heap.size w w3) := HBW1.out.trans (hb3.mono HBW1.out.size)
                  have HX3 : Hid (Six w3 wr.heap.size y) := HX1.out.below hb3
                  have HO3 := HID (ownsRow_later HOW1.out hb3)
                  clear hb3 HX1 HOW1 HBW1 HHAS HB1 t0 t1 t2 t3 t4 t5
                  cases h5 : hasT L y with
                  | true =>
                    rw [h5] at he; subst he
                    have HE : Hid (renL typ frm to (ts.take (k + 1)) = L) := by show _ = _; rw [HTK.out, HYR.out]; simp [putN, h5]
                    clear h5
                    go_wp2
                    go_roundw
                    case rel => exact ⟨k + 1, g, cp, by omega, by go_num, by rw [HE.out], by rw [HE.out]; exact HO3, HB3⟩
                    case measure => first | (simp [intOf]; done) | (simp [intOf]; omega)
                  | false =>
                    rw [h5] at he; subst he
                    have HE : Hid (renL typ frm to (ts.take (k + 1)) = putT L y) := by show _ = _; rw [HTK.out, HYR.out]; simp [putN, h5]
                    have HPUT := HID (l1Put_own g 0 cp L y w3 (by omega) HCP.out (row_of HO3.out rfl) (HO3.out.lt g rfl).2 HLF.out (by rw [← HYR.out]; exact HRF.out))
                    clear h5
                    obtain ⟨x0, x1, x2, x3, x4, x5, xl⟩ := HX3.out
                    rw [hy] at x0 x1 x2 x3 x4 x5
                    clear HX3
                    go_wp2_with fail
                    rw [hy] at HPUT
                    refine HPUT.out.mono ?_
                    rw [← hy]
                    rintro e w4 ⟨v4, rfl, ho4, hb4⟩
                    have HB4 : Hid (Below w.heap.size w w4) := HB3.out.trans (hb4.mono HB3.out.size)
                    have ho5 := ho4
                    rw [putN_len] at ho5
                    obtain ⟨g4, cp4, rfl⟩ := ownsRow_succR ho5
                    have HO4 : Hid (w4.ownsRow w.heap.size 39 6 (.slice (some ⟨g4, 0, none⟩) (L.length + 1) cp4) (L.length + 1) (rows6 (putT L y))) := ownsRow_base ho5 HB3.out.size
                    clear ho4 ho5 hb4 x0 x1 x2 x3 x4 x5 HPUT
                    go_wp2
                    go_roundw
                    case rel => exact ⟨k + 1, g4, cp4, by omega, by go_num, by rw [HE.out, putN_len], by rw [HE.out, putN_len]; exact HO4, HB4⟩
                    case measure => first | (simp [intOf]; done) | (simp [intOf]; omega)
                | false =>
                  have HY : Hid (ren typ frm to x = ⟨x.a, x.b, x.r, x.c, x.d, to⟩) := by show _ = _; simp [ren, relN, e1, e3, e4, e5]
                  obtain ⟨y, hy⟩ : ∃ y : Tp, y = ⟨x.a, x.b, x.r, x.c, x.d, to⟩ := ⟨_, rfl⟩
                  obtain ⟨W1, hW1⟩ : ∃ W1, W1 = wr.alloc (.cells #[.string x.a, .string x.b, .string x.r, .string x.c, .string x.d, .string to] 39) := ⟨_, rfl⟩
                  have HX1 : Hid (Six W1 wr.heap.size y) := by rw [hW1, hy]; exact six_new wr ⟨x.a, x.b, x.r, x.c, x.d, to⟩ _
                  have HB1 : Hid (Below wr.heap.size wr W1) := by rw [hW1]; exact (Below.refl _ _).alloc (Nat.le_refl _) _
                  have HBW1 : Hid (Below w.heap.size w W1) := HBW.out.trans (HB1.out.mono HBW.out.size)
                  have HOW1 := HID (ownsRow_later HOW.out HB1.out)
                  have HYR : Hid (ren typ frm to x = y) := by rw [hy]; exact HY
                  have HHAS := HID (l1Has_any (some ⟨g, 0, none⟩) cp L y W1 (by omega) (.inr ⟨g, 0, rfl, (HOW1.out.lt g rfl).2, row_of HOW1.out rfl⟩))
                  rw [hy] at HHAS
                  go_wp2_with fail
                  rw [← hW1]; clear hW1
                  refine HHAS.out.mono ?_
                  rw [← hy]
                  rintro e w3 ⟨he, hb3⟩
                  have HB3 : Hid (Below w.heap.size w w3) := HBW1.out.trans (hb3.mono HBW1.out.size)
                  have HX3 : Hid (Six w3 wr.heap.size y) := HX1.out.below hb3
                  have HO3 := HID (ownsRow_later HOW1.out hb3)
                  clear hb3 HX1 HOW1 HBW1 HHAS HB1 t0 t1 t2 t3 t4 t5
                  cases h5 : hasT L y with
                  | true =>
                    rw [h5] at he; subst he
                    have HE : Hid (renL typ frm to (ts.take (k + 1)) = L) := by show _ = _; rw [HTK.out, HYR.out]; simp [putN, h5]
                    clear h5
                    go_wp2
                    go_roundw
                    case rel => exact ⟨k + 1, g, cp, by omega, by go_num, by rw [HE.out], by rw [HE.out]; exact HO3, HB3⟩
                    case measure => first | (simp [intOf]; done) | (simp [intOf]; omega)
                  | false =>
                    rw [h5] at he; subst he
                    have HE : Hid (renL typ frm to (ts.take (k + 1)) = putT L y) := by show _ = _; rw [HTK.out, HYR.out]; simp [putN, h5]
                    have HPUT := HID (l1Put_own g 0 cp L y w3 (by omega) HCP.out (row_of HO3.out rfl) (HO3.out.lt g rfl).2 HLF.out (by rw [← HYR.out]; exact HRF.out))
                    clear h5
                    obtain ⟨x0, x1, x2, x3, x4, x5, xl⟩ := HX3.out
                    rw [hy] at x0 x1 x2 x3 x4 x5
                    clear HX3
                    go_wp2_with fail
                    rw [hy] at HPUT
                    refine HPUT.out.mono ?_
                    rw [← hy]
                    rintro e w4 ⟨v4, rfl, ho4, hb4⟩
                    have HB4 : Hid (Below w.heap.size w w4) := HB3.out.trans (hb4.mono HB3.out.size)
                    have ho5 := ho4
                    rw [putN_len] at ho5
                    obtain ⟨g4, cp4, rfl⟩ := ownsRow_succR ho5
                    have HO4 : Hid (w4.ownsRow w.heap.size 39 6 (.slice (some ⟨g4, 0, none⟩) (L.length + 1) cp4) (L.length + 1) (rows6 (putT L y))) := ownsRow_base ho5 HB3.out.size
                    clear ho4 ho5 hb4 x0 x1 x2 x3 x4 x5 HPUT
                    go_wp2
                    go_roundw
                    case rel => exact ⟨k + 1, g4, cp4, by omega, by go_num, by rw [HE.out, putN_len], by rw [HE.out, putN_len]; exact HO4, HB4⟩
                    case measure => first | (simp [intOf]; done) | (simp [intOf]; omega)
          | true =>
            cases e2 : x.r.toList == frm.toList with
            | false =>
              cases e3 : x.c.toList == typ.toList with
              | false =>
                have HY : Hid (ren typ frm to x = ⟨x.a, x.b, x.r, x.c, x.d, x.s⟩) := by show _ = _; simp [ren, relN, e1, e2, e3]
                obtain ⟨y, hy⟩ : ∃ y : Tp, y = ⟨x.a, x.b, x.r, x.c, x.d, x.s⟩ := ⟨_, rfl⟩
                obtain ⟨W1, hW1⟩ : ∃ W1, W1 = wr.alloc (.cells #[.string x.a, .string x.b, .string x.r, .string x.c, .string x.d, .string x.s] 39) := ⟨_, rfl⟩
                have HX1 : Hid (Six W1 wr.heap.size y) := by rw [hW1, hy]; exact six_new wr ⟨x.a, x.b, x.r, x.c, x.d, x.s⟩ _
                have HB1 : Hid (Below wr.heap.size wr W1) := by rw [hW1]; exact (Below.refl _ _).alloc (Nat.le_refl _) _
                have HBW1 : Hid (Below w.heap.size w W1) := HBW.out.trans (HB1.out.mono HBW.out.size)
                have HOW1 := HID (ownsRow_later HOW.out HB1.out)
                have HYR : Hid (ren typ frm to x = y) := by rw [hy]; exact HY
                have HHAS := HID (l1Has_any (some ⟨g, 0, none⟩) cp L y W1 (by omega) (.inr ⟨g, 0, rfl, (HOW1.out.lt g rfl).2, row_of HOW1.out rfl⟩))
                rw [hy] at HHAS
                go_wp2_with fail
                rw [← hW1]; clear hW1
                refine HHAS.out.mono ?_
                rw [← hy]
                rintro e w3 ⟨he, hb3⟩
                have HB3 : Hid (Below w.heap.size w w3) := HBW1.out.trans (hb3.mono HBW1.out.size)
                have HX3 : Hid (Six w3 wr.heap.size y) := HX1.out.below hb3
                have HO3 := HID (ownsRow_later HOW1.out hb3)
                clear hb3 HX1 HOW1 HBW1 HHAS HB1 t0 t1 t2 t3 t4 t5
                cases h5 : hasT L y with
                | true =>
                  rw [h5] at he; subst he
                  have HE : Hid (renL typ frm to (ts.take (k + 1)) = L) := by show _ = _; rw [HTK.out, HYR.out]; simp [putN, h5]
                  clear h5
                  go_wp2
                  go_roundw
                  case rel => exact ⟨k + 1, g, cp, by omega, by go_num, by rw [HE.out], by rw [HE.out]; exact HO3, HB3⟩
                  case measure => first | (simp [intOf]; done) | (simp [intOf]; omega)
                | false =>
                  rw [h5] at he; subst he
                  have HE : Hid (renL typ frm to (ts.take (k + 1)) = putT L y) := by show _ = _; rw [HTK.out, HYR.out]; simp [putN, h5]
                  have HPUT := HID (l1Put_own g 0 cp L y w3 (by omega) HCP.out (row_of HO3.out rfl) (HO3.out.lt g rfl).2 HLF.out (by rw [← HYR.out]; exact HRF.out))
                  clear h5
                  obtain ⟨x0, x1, x2, x3, x4, x5, xl⟩ := HX3.out
                  rw [hy] at x0 x1 x2 x3 x4 x5
                  clear HX3
                  go_wp2_with fail
                  rw [hy] at HPUT
                  refine HPUT.out.mono ?_
                  rw [← hy]
                  rintro e w4 ⟨v4, rfl, ho4, hb4⟩
                  have HB4 : Hid (Below w.heap.size w w4) := HB3.out.trans (hb4.mono HB3.out.size)
                  have ho5 := ho4
                  rw [putN_len] at ho5
                  obtain ⟨g4, cp4, rfl⟩ := ownsRow_succR ho5
                  have HO4 : Hid (w4.ownsRow w.heap.size 39 6 (.slice (some ⟨g4, 0, none⟩) (L.length + 1) cp4) (L.length + 1) (rows6 (putT L y))) := ownsRow_base ho5 HB3.out.size
                  clear ho4 ho5 hb4 x0 x1 x2 x3 x4 x5 HPUT
                  go_wp2
                  go_roundw
                  case rel => exact ⟨k + 1, g4, cp4, by omega, by go_num, by rw [HE.out, putN_len], by rw [HE.out, putN_len]; exact HO4, HB4⟩
                  case measure => first | (simp [intOf]; done) | (simp [intOf]; omega)
              | true =>
                cases e4 : x.s.toList == frm.toList with
                | false =>
                  have HY : Hid (ren typ frm to x = ⟨x.a, x.b, x.r, x.c, x.d, x.s⟩) := by show _ = _; simp [ren, relN, e1, e2, e3, e4]
                  obtain ⟨y, hy⟩ : ∃ y : Tp, y = ⟨x.a, x.b, x.r, x.c, x.d, x.s⟩ := ⟨_, rfl⟩
                  obtain ⟨W1, hW1⟩ : ∃ W1, W1 = wr.alloc (.cells #[.string x.a, .string x.b, .string x.r, .string x.c, .string x.d, .string x.s] 39) := ⟨_, rfl⟩
                  have HX1 : Hid (Six W1 wr.heap.size y) := by rw [hW1, hy]; exact six_new wr ⟨x.a, x.b, x.r, x.c, x.d, x.s⟩ _
                  have HB1 : Hid (Below wr.heap.size wr W1) := by rw [hW1]; exact (Below.refl _ _).alloc (Nat.le_refl _) _
                  have HBW1 : Hid (Below w.heap.size w W1) := HBW.out.trans (HB1.out.mono HBW.out.size)
                  have HOW1 := HID (ownsRow_later HOW.out HB1.out)
                  have HYR : Hid (ren typ frm to x = y) := by rw [hy]; exact HY
                  have HHAS := HID (l1Has_any (some ⟨g, 0, none⟩) cp L y W1 (by omega) (.inr ⟨g, 0, rfl, (HOW1.out.lt g rfl).2, row_of HOW1.out rfl⟩))
                  rw [hy] at HHAS
                  go_wp2_with fail
                  rw [← hW1]; clear hW1
                  refine HHAS.out.mono ?_
                  rw [← hy]
                  rintro e w3 ⟨he, hb3⟩
                  have HB3 : Hid (Below w.heap.size w w3) := HBW1.out.trans (hb3.mono HBW1.out.size)
                  have HX3 : Hid (Six w3 wr.heap.size y) := HX1.out.below hb3
                  have HO3 := HID (ownsRow_later HOW1.out hb3)
                  clear hb3 HX1 HOW1 HBW1 HHAS HB1 t0 t1 t2 t3 t4 t5
                  cases h5 : hasT L y with
                  | true =>
                    rw [h5] at he; subst he
                    have HE : Hid (renL typ frm to (ts.take (k + 1)) = L) := by show _ = _; rw [HTK.out, HYR.out]; simp [putN, h5]
                    clear h5
                    go_wp2
                    go_roundw
                    case rel => exact ⟨k + 1, g, cp, by omega, by go_num, by rw [HE.out], by rw [HE.out]; exact HO3, HB3⟩
                    case measure => first | (simp [intOf]; done) | (simp [intOf]; omega)
                  | false =>
                    rw [h5] at he; subst he
                    have HE : Hid (renL typ frm to (ts.take (k + 1)) = putT L y) := by show _ = _; rw [HTK.out, HYR.out]; simp [putN, h5]
                    have HPUT := HID (l1Put_own g 0 cp L y w3 (by omega) HCP.out (row_of HO3.out rfl) (HO3.out.lt g rfl).2 HLF.out (by rw [← HYR.out]; exact HRF.out))
                    clear h5
                    obtain ⟨x0, x1, x2, x3, x4, x5, xl⟩ := HX3.out
                    rw [hy] at x0 x1 x2 x3 x4 x5
                    clear HX3
                    go_wp2_with fail
                    rw [hy] at HPUT
                    refine HPUT.out.mono ?_
                    rw [← hy]
                    rintro e w4 ⟨v4, rfl, ho4, hb4⟩
                    have HB4 : Hid (Below w.heap.size w w4) := HB3.out.trans (hb4.mono HB3.out.size)
                    have ho5 := ho4
                    rw [putN_len] at ho5
                    obtain ⟨g4, cp4, rfl⟩ := ownsRow_succR ho5
                    have HO4 : Hid (w4.ownsRow w.heap.size 39 6 (.slice (some ⟨g4, 0, none⟩) (L.length + 1) cp4) (L.length + 1) (rows6 (putT L y))) := ownsRow_base ho5 HB3.out.size
                    clear ho4 ho5 hb4 x0 x1 x2 x3 x4 x5 HPUT
                    go_wp2
                    go_roundw
                    case rel => exact ⟨k + 1, g4, cp4, by omega, by go_num, by rw [HE.out, putN_len], by rw [HE.out, putN_len]; exact HO4, HB4⟩
                    case measure => first | (simp [intOf]; done) | (simp [intOf]; omega)
                | true =>
                  cases e5 : x.s.toList.isEmpty with
                  | true =>
                    have HY : Hid (ren typ frm to x = ⟨x.a, x.b, x.r, x.c, x.d, x.s⟩) := by show _ = _; simp [ren, relN, e1, e2, e3, e4, e5]
                    obtain ⟨y, hy⟩ : ∃ y : Tp, y = ⟨x.a, x.b, x.r, x.c, x.d, x.s⟩ := ⟨_, rfl⟩
                    obtain ⟨W1, hW1⟩ : ∃ W1, W1 = wr.alloc (.cells #[.string x.a, .string x.b, .string x.r, .string x.c, .string x.d, .string x.s] 39) := ⟨_, rfl⟩
                    have HX1 : Hid (Six W1 wr.heap.size y) := by rw [hW1, hy]; exact six_new wr ⟨x.a, x.b, x.r, x.c, x.d, x.s⟩ _
                    have HB1 : Hid (Below wr.heap.size wr W1) := by rw [hW1]; exact (Below.refl _ _).alloc (Nat.le_refl _) _
                    have HBW1 : Hid (Below w.heap.size w W1) := HBW.out.trans (HB1.out.mono HBW.out.size)
                    have HOW1 := HID (ownsRow_later HOW.out HB1.out)
                    have HYR : Hid (ren typ frm to x = y) := by rw [hy]; exact HY
                    have HHAS := HID (l1Has_any (some ⟨g, 0, none⟩) cp L y W1 (by omega) (.inr ⟨g, 0, rfl, (HOW1.out.lt g rfl).2, row_of HOW1.out rfl⟩))
                    rw [hy] at HHAS
                    go_wp2_with fail
                    rw [← hW1]; clear hW1
                    refine HHAS.out.mono ?_
                    rw [← hy]
                    rintro e w3 ⟨he, hb3⟩
                    have HB3 : Hid (Below w.heap.size w w3) := HBW1.out.trans (hb3.mono HBW1.out.size)
                    have HX3 : Hid (Six w3 wr.heap.size y) := HX1.out.below hb3
                    have HO3 := HID (ownsRow_later HOW1.out hb3)
                    clear hb3 HX1 HOW1 HBW1 HHAS HB1 t0 t1 t2 t3 t4 t5
                    cases h5 : hasT L y with
                    | true =>
                      rw [h5] at he; subst he
                      have HE : Hid (renL typ frm to (ts.take (k + 1)) = L) := by show _ = _; rw [HTK.out, HYR.out]; simp [putN, h5]
                      clear h5
                      go_wp2
                      go_roundw
                      case rel => exact ⟨k + 1, g, cp, by omega, by go_num, by rw [HE.out], by rw [HE.out]; exact HO3, HB3⟩
                      case measure => first | (simp [intOf]; done) | (simp [intOf]; omega)
                    | false =>
                      rw [h5] at he; subst he
                      have HE : Hid (renL typ frm to (ts.take (k + 1)) = putT L y) := by show _ = _; rw [HTK.out, HYR.out]; simp [putN, h5]
                      have HPUT := HID (l1Put_own g 0 cp L y w3 (by omega) HCP.out (row_of HO3.out rfl) (HO3.out.lt g rfl).2 HLF.out (by rw [← HYR.out]; exact HRF.out))
                      clear h5
                      obtain ⟨x0, x1, x2, x3, x4, x5, xl⟩ := HX3.out
                      rw [hy] at x0 x1 x2 x3 x4 x5
                      clear HX3
                      go_wp2_with fail
                      rw [hy] at HPUT
                      refine HPUT.out.mono ?_
                      rw [← hy]
                      rintro e w4 ⟨v4, rfl, ho4, hb4⟩
                      have HB4 : Hid (Below w.heap.size w w4) := HB3.out.trans (hb4.mono HB3.out.size)
                      have ho5 := ho4
                      rw [putN_len] at ho5
                      obtain ⟨g4, cp4, rfl⟩ := ownsRow_succR ho5
                      have HO4 : Hid (w4.ownsRow w.heap.size 39 6 (.slice (some ⟨g4, 0, none⟩) (L.length + 1) cp4) (L.length + 1) (rows6 (putT L y))) := ownsRow_base ho5 HB3.out.size
                      clear ho4 ho5 hb4 x0 x1 x2 x3 x4 x5 HPUT
                      go_wp2
                      go_roundw
                      case rel => exact ⟨k + 1, g4, cp4, by omega, by go_num, by rw [HE.out, putN_len], by rw [HE.out, putN_len]; exact HO4, HB4⟩
                      case measure => first | (simp [intOf]; done) | (simp [intOf]; omega)
                  | false =>
                    have HY : Hid (ren typ frm to x = ⟨x.a, x.b, x.r, x.c, x.d, to⟩) := by show _ = _; simp [ren, relN, e1, e2, e3, e4, e5]
                    obtain ⟨y, hy⟩ : ∃ y : Tp, y = ⟨x.a, x.b, x.r, x.c, x.d, to⟩ := ⟨_, rfl⟩
                    obtain ⟨W1, hW1⟩ : ∃ W1, W1 = wr.alloc (.cells #[.string x.a, .string x.b, .string x.r, .string x.c, .string x.d, .string to] 39) := ⟨_, rfl⟩
                    have HX1 : Hid (Six W1 wr.heap.size y) := by rw [hW1, hy]; exact six_new wr ⟨x.a, x.b, x.r, x.c, x.d, to⟩ _
                    have HB1 : Hid (Below wr.heap.size wr W1) := by rw [hW1]; exact (Below.refl _ _).alloc (Nat.le_refl _) _
                    have HBW1 : Hid (Below w.heap.size w W1) := HBW.out.trans (HB1.out.mono HBW.out.size)
                    have HOW1 := HID (ownsRow_later HOW.out HB1.out)
                    have HYR : Hid (ren typ frm to x = y) := by rw [hy]; exact HY
                    have HHAS := HID (l1Has_any (some ⟨g, 0, none⟩) cp L y W1 (by omega) (.inr ⟨g, 0, rfl, (HOW1.out.lt g rfl).2, row_of HOW1.out rfl⟩))
                    rw [hy] at HHAS
                    go_wp2_with fail
                    rw [← hW1]; clear hW1
                    refine HHAS.out.mono ?_
                    rw [← hy]
                    rintro e w3 ⟨he, hb3⟩
                    have HB3 : Hid (Below w.heap.size w w3) := HBW1.out.trans (hb3.mono HBW1.out.size)
                    have HX3 : Hid (Six w3 wr.heap.size y) := HX1.out.below hb3
                    have HO3 := HID (ownsRow_later HOW1.out hb3)
                    clear hb3 HX1 HOW1 HBW1 HHAS HB1 t0 t1 t2 t3 t4 t5
                    cases h5 : hasT L y with
                    | true =>
                      rw [h5] at he; subst he
                      have HE : Hid (renL typ frm to (ts.take (k + 1)) = L) := by show _ = _; rw [HTK.out, HYR.out]; simp [putN, h5]
                      clear h5
                      go_wp2
                      go_roundw
                      case rel => exact ⟨k + 1, g, cp, by omega, by go_num, by rw [HE.out], by rw [HE.out]; exact HO3, HB3⟩
                      case measure => first | (simp [intOf]; done) | (simp [intOf]; omega)
                    | false =>
                      rw [h5] at he; subst he
                      have HE : Hid (renL typ frm to (ts.take (k + 1)) = putT L y) := by show _ = _; rw [HTK.out, HYR.out]; simp [putN, h5]
                      have HPUT := HID (l1Put_own g 0 cp L y w3 (by omega) HCP.out (row_of HO3.out rfl) (HO3.out.lt g rfl).2 HLF.out (by rw [← HYR.out]; exact HRF.out))
                      clear h5
                      obtain ⟨x0, x1, x2, x3, x4, x5, xl⟩ := HX3.out
                      rw [hy] at x0 x1 x2 x3 x4 x5
                      clear HX3
                      go_wp2_with fail
                      rw [hy] at HPUT
                      refine HPUT.out.mono ?_
                      rw [← hy]
                      rintro e w4 ⟨v4, rfl, ho4, hb4⟩
                      have HB4 : Hid (Below w.heap.size w w4) := HB3.out.trans (hb4.mono HB3.out.size)
                      have ho5 := ho4
                      rw [putN_len] at ho5
                      obtain ⟨g4, cp4, rfl⟩ := ownsRow_succR ho5
                      have HO4 : Hid (w4.ownsRow w.heap.size 39 6 (.slice (some ⟨g4, 0, none⟩) (L.length + 1) cp4) (L.length + 1) (rows6 (putT L y))) := ownsRow_base ho5 HB3.out.size
                      clear ho4 ho5 hb4 x0 x1 x2 x3 x4 x5 HPUT
                      go_wp2
                      go_roundw
                      case rel => exact ⟨k + 1, g4, cp4, by omega, by go_num, by rw [HE.out, putN_len], by rw [HE.out, putN_len]; exact HO4, HB4⟩
                      case measure => first | (simp [intOf]; done) | (simp [intOf]; omega)
            | true =>
              cases e3 : x.c.toList == typ.toList with
              | false =>
                have HY : Hid (ren typ frm to x = ⟨x.a, x.b, to, x.c, x.d, x.s⟩) := by show _ = _; simp [ren, relN, e1, e2, HNE.out, e3]
                obtain ⟨y, hy⟩ : ∃ y : Tp, y = ⟨x.a, x.b, to, x.c, x.d, x.s⟩ := ⟨_, rfl⟩
                obtain ⟨W1, hW1⟩ : ∃ W1, W1 = wr.alloc (.cells #[.string x.a, .string x.b, .string to, .string x.c, .string x.d, .string x.s] 39) := ⟨_, rfl⟩
                have HX1 : Hid (Six W1 wr.heap.size y) := by rw [hW1, hy]; exact six_new wr ⟨x.a, x.b, to, x.c, x.d, x.s⟩ _
                have HB1 : Hid (Below wr.heap.size wr W1) := by rw [hW1]; exact (Below.refl _ _).alloc (Nat.le_refl _) _
                have HBW1 : Hid (Below w.heap.size w W1) := HBW.out.trans (HB1.out.mono HBW.out.size)
                have HOW1 := HID (ownsRow_later HOW.out HB1.out)
                have HYR : Hid (ren typ frm to x = y) := by rw [hy]; exact HY
                have HHAS := HID (l1Has_any (some ⟨g, 0, none⟩) cp L y W1 (by omega) (.inr ⟨g, 0, rfl, (HOW1.out.lt g rfl).2, row_of HOW1.out rfl⟩))
                rw [hy] at HHAS
                go_wp2_with fail
                rw [← hW1]; clear hW1
                refine HHAS.out.mono ?_
                rw [← hy]
                rintro e w3 ⟨he, hb3⟩
                have HB3 : Hid (Below w.heap.size w w3) := HBW1.out.trans (hb3.mono HBW1.out.size)
                have HX3 : Hid (Six w3 wr.heap.size y) := HX1.out.below hb3
                have HO3 := HID (ownsRow_later HOW1.out hb3)
                clear hb3 HX1 HOW1 HBW1 HHAS HB1 t0 t1 t2 t3 t4 t5
                cases h5 : hasT L y with
                | true =>
                  rw [h5] at he; subst he
                  have HE : Hid (renL typ frm to (ts.take (k + 1)) = L) := by show _ = _; rw [HTK.out, HYR.out]; simp [putN, h5]
                  clear h5
                  go_wp2
                  go_roundw
                  case rel => exact ⟨k + 1, g, cp, by omega, by go_num, by rw [HE.out], by rw [HE.out]; exact HO3, HB3⟩
                  case measure => first | (simp [intOf]; done) | (simp [intOf]; omega)
                | false =>
                  rw [h5] at he; subst he
                  have HE : Hid (renL typ frm to (ts.take (k + 1)) = putT L y) := by show _ = _; rw [HTK.out, HYR.out]; simp [putN, h5]
                  have HPUT := HID (l1Put_own g 0 cp L y w3 (by omega) HCP.out (row_of HO3.out rfl) (HO3.out.lt g rfl).2 HLF.out (by rw [← HYR.out]; exact HRF.out))
                  clear h5
                  obtain ⟨x0, x1, x2, x3, x4, x5, xl⟩ := HX3.out
                  rw [hy] at x0 x1 x2 x3 x4 x5
                  clear HX3
                  go_wp2_with fail
                  rw [hy] at HPUT
                  refine HPUT.out.mono ?_
                  rw [← hy]
                  rintro e w4 ⟨v4, rfl, ho4, hb4⟩
                  have HB4 : Hid (Below w.heap.size w w4) := HB3.out.trans (hb4.mono HB3.out.size)
                  have ho5 := ho4
                  rw [putN_len] at ho5
                  obtain ⟨g4, cp4, rfl⟩ := ownsRow_succR ho5
                  have HO4 : Hid (w4.ownsRow w.heap.size 39 6 (.slice (some ⟨g4, 0, none⟩) (L.length + 1) cp4) (L.length + 1) (rows6 (putT L y))) := ownsRow_base ho5 HB3.out.size
                  clear ho4 ho5 hb4 x0 x1 x2 x3 x4 x5 HPUT
                  go_wp2
                  go_roundw
                  case rel => exact ⟨k + 1, g4, cp4, by omega, by go_num, by rw [HE.out, putN_len], by rw [HE.out, putN_len]; exact HO4, HB4⟩
                  case measure => first | (simp [intOf]; done) | (simp [intOf]; omega)
              | true =>
                cases e4 : x.s.toList == frm.toList with
                | false =>
                  have HY : Hid (ren typ frm to x = ⟨x.a, x.b, to, x.c, x.d, x.s⟩) := by show _ = _; simp [ren, relN, e1, e2, HNE.out, e3, e4]
                  obtain ⟨y, hy⟩ : ∃ y : Tp, y = ⟨x.a, x.b, to, x.c, x.d, x.s⟩ := ⟨_, rfl⟩
                  obtain ⟨W1, hW1⟩ : ∃ W1, W1 = wr.alloc (.cells #[.string x.a, .string x.b, .string to, .string x.c, .string x.d, .string x.s] 39) := ⟨_, rfl⟩
                  have HX1 : Hid (Six W1 wr.heap.size y) := by rw [hW1, hy]; exact six_new wr ⟨x.a, x.b, to, x.c, x.d, x.s⟩ _
                  have HB1 : Hid (Below wr.heap.size wr W1) := by rw [hW1]; exact (Below.refl _ _).alloc (Nat.le_refl _) _
                  have HBW1 : Hid (Below w.heap.size w W1) := HBW.out.trans (HB1.out.mono HBW.out.size)
                  have HOW1 := HID (ownsRow_later HOW.out HB1.out)
                  have HYR : Hid (ren typ frm to x = y) := by rw [hy]; exact HY
                  have HHAS := HID (l1Has_any (some ⟨g, 0, none⟩) cp L y W1 (by omega) (.inr ⟨g, 0, rfl, (HOW1.out.lt g rfl).2, row_of HOW1.out rfl⟩))
                  rw [hy] at HHAS
                  go_wp2_with fail
                  rw [← hW1]; clear hW1
                  refine HHAS.out.mono ?_
                  rw [← hy]
                  rintro e w3 ⟨he, hb3⟩
                  have HB3 : Hid (Below w.heap.size w w3) := HBW1.out.trans (hb3.mono HBW1.out.size)
                  have HX3 : Hid (Six w3 wr.heap.size y) := HX1.out.below hb3
                  have HO3 := HID (ownsRow_later HOW1.out hb3)
                  clear hb3 HX1 HOW1 HBW1 HHAS HB1 t0 t1 t2 t3 t4 t5
                  cases h5 : hasT L y with
                  | true =>
                    rw [h5] at he; subst he
                    have HE : Hid (renL typ frm to (ts.take (k + 1)) = L) := by show _ = _; rw [HTK.out, HYR.out]; simp [putN, h5]
                    clear h5
                    go_wp2
                    go_roundw
                    case rel => exact ⟨k + 1, g, cp, by omega, by go_num, by rw [HE.out], by rw [HE.out]; exact HO3, HB3⟩
                    case measure => first | (simp [intOf]; done) | (simp [intOf]; omega)
                  | false =>
                    rw [h5] at he; subst he
                    have HE : Hid (renL typ frm to (ts.take (k + 1)) = putT L y) := by show _ = _; rw [HTK.out, HYR.out]; simp [putN, h5]
                    have HPUT := HID (l1Put_own g 0 cp L y w3 (by omega) HCP.out (row_of HO3.out rfl) (HO3.out.lt g rfl).2 HLF.out (by rw [← HYR.out]; exact HRF.out))
                    clear h5
                    obtain ⟨x0, x1, x2, x3, x4, x5, xl⟩ := HX3.out
                    rw [hy] at x0 x1 x2 x3 x4 x5
                    clear HX3
                    go_wp2_with fail
                    rw [hy] at HPUT
                    refine HPUT.out.mono ?_
                    rw [← hy]
                    rintro e w4 ⟨v4, rfl, ho4, hb4⟩
                    have HB4 : Hid (Below w.heap.size w w4) := HB3.out.trans (hb4.mono HB3.out.size)
                    have ho5 := ho4
                    rw [putN_len] at ho5
                    obtain ⟨g4, cp4, rfl⟩ := ownsRow_succR ho5
                    have HO4 : Hid (w4.ownsRow w.heap.size 39 6 (.slice (some ⟨g4, 0, none⟩) (L.length + 1) cp4) (L.length + 1) (rows6 (putT L y))) := ownsRow_base ho5 HB3.out.size
                    clear ho4 ho5 hb4 x0 x1 x2 x3 x4 x5 HPUT
                    go_wp2
                    go_roundw
                    case rel => exact ⟨k + 1, g4, cp4, by omega, by go_num, by rw [HE.out, putN_len], by rw [HE.out, putN_len]; exact HO4, HB4⟩
                    case measure => first | (simp [intOf]; done) | (simp [intOf]; omega)
                | true =>
                  cases e5 : x.s.toList.isEmpty with
                  | true =>
                    have HY : Hid (ren typ frm to x = ⟨x.a, x.b, to, x.c, x.d, x.s⟩) := by show _ = _; simp [ren, relN, e1, e2, HNE.out, e3, e4, e5]
                    obtain ⟨y, hy⟩ : ∃ y : Tp, y = ⟨x.a, x.b, to, x.c, x.d, x.s⟩ := ⟨_, rfl⟩
                    obtain ⟨W1, hW1⟩ : ∃ W1, W1 = wr.alloc (.cells #[.string x.a, .string x.b, .string to, .string x.c, .string x.d, .string x.s] 39) := ⟨_, rfl⟩
                    have HX1 : Hid (Six W1 wr.heap.size y) := by rw [hW1, hy]; exact six_new wr ⟨x.a, x.b, to, x.c, x.d, x.s⟩ _
                    have HB1 : Hid (Below wr.heap.size wr W1) := by rw [hW1]; exact (Below.refl _ _).alloc (Nat.le_refl _) _
                    have HBW1 : Hid (Below w.heap.size w W1) := HBW.out.trans (HB1.out.mono HBW.out.size)
                    have HOW1 := HID (ownsRow_later HOW.out HB1.out)
                    have HYR : Hid (ren typ frm to x = y) := by rw [hy]; exact HY
                    have HHAS := HID (l1Has_any (some ⟨g, 0, none⟩) cp L y W1 (by omega) (.inr ⟨g, 0, rfl, (HOW1.out.lt g rfl).2, row_of HOW1.out rfl⟩))
                    rw [hy] at HHAS
                    go_wp2_with fail
                    rw [← hW1]; clear hW1
                    refine HHAS.out.mono ?_
                    rw [← hy]
                    rintro e w3 ⟨he, hb3⟩
                    have HB3 : Hid (Below w.heap.size w w3) := HBW1.out.trans (hb3.mono HBW1.out.size)
                    have HX3 : Hid (Six w3 wr.heap.size y) := HX1.out.below hb3
                    have HO3 := HID (ownsRow_later HOW1.out hb3)
                    clear hb3 HX1 HOW1 HBW1 HHAS HB1 t0 t1 t2 t3 t4 t5
                    cases h5 : hasT L y with
                    | true =>
                      rw [h5] at he; subst he
                      have HE : Hid (renL typ frm to (ts.take (k + 1)) = L) := by show _ = _; rw [HTK.out, HYR.out]; simp [putN, h5]
                      clear h5
                      go_wp2
                      go_roundw
                      case rel => exact ⟨k + 1, g, cp, by omega, by go_num, by rw [HE.out], by rw [HE.out]; exact HO3, HB3⟩
                      case measure => first | (simp [intOf]; done) | (simp [intOf]; omega)
                    | false =>
                      rw [h5] at he; subst he
                      have HE : Hid (renL typ frm to (ts.take (k + 1)) = putT L y) := by show _ = _; rw [HTK.out, HYR.out]; simp [putN, h5]
                      have HPUT := HID (l1Put_own g 0 cp L y w3 (by omega) HCP.out (row_of HO3.out rfl) (HO3.out.lt g rfl).2 HLF.out (by rw [← HYR.out]; exact HRF.out))
                      clear h5
                      obtain ⟨x0, x1, x2, x3, x4, x5, xl⟩ := HX3.out
                      rw [hy] at x0 x1 x2 x3 x4 x5
                      clear HX3
                      go_wp2_with fail
                      rw [hy] at HPUT
                      refine HPUT.out.mono ?_
                      rw [← hy]
                      rintro e w4 ⟨v4, rfl, ho4, hb4⟩
                      have HB4 : Hid (Below w.heap.size w w4) := HB3.out.trans (hb4.mono HB3.out.size)
                      have ho5 := ho4
                      rw [putN_len] at ho5
                      obtain ⟨g4, cp4, rfl⟩ := ownsRow_succR ho5
                      have HO4 : Hid (w4.ownsRow w.heap.size 39 6 (.slice (some ⟨g4, 0, none⟩) (L.length + 1) cp4) (L.length + 1) (rows6 (putT L y))) := ownsRow_base ho5 HB3.out.size
                      clear ho4 ho5 hb4 x0 x1 x2 x3 x4 x5 HPUT
                      go_wp2
                      go_roundw
                      case rel => exact ⟨k + 1, g4, cp4, by omega, by go_num, by rw [HE.out, putN_len], by rw [HE.out, putN_len]; exact HO4, HB4⟩
                      case measure => first | (simp [intOf]; done) | (simp [intOf]; omega)
                  | false =>
                    have HY : Hid (ren typ frm to x = ⟨x.a, x.b, to, x.c, x.d, to⟩) := by show _ = _; simp [ren, relN, e1, e2, HNE.out, e3, e4, e5]
                    obtain ⟨y, hy⟩ : ∃ y : Tp, y = ⟨x.a, x.b, to, x.c, x.d, to⟩ := ⟨_, rfl⟩
                    obtain ⟨W1, hW1⟩ : ∃ W1, W1 = wr.alloc (.cells #[.string x.a, .string x.b, .string to, .string x.c, .string x.d, .string to] 39) := ⟨_, rfl⟩
                    have HX1 : Hid (Six W1 wr.heap.size y) := by rw [hW1, hy]; exact six_new wr ⟨x.a, x.b, to, x.c, x.d, to⟩ _
                    have HB1 : Hid (Below wr.heap.size wr W1) := by rw [hW1]; exact (Below.refl _ _).alloc (Nat.le_refl _) _
                    have HBW1 : Hid (Below w.heap.size w W1) := HBW.out.trans (HB1.out.mono HBW.out.size)
                    have HOW1 := HID (ownsRow_later HOW.out HB1.out)
                    have HYR : Hid (ren typ frm to x = y) := by rw [hy]; exact HY
                    have HHAS := HID (l1Has_any (some ⟨g, 0, none⟩) cp L y W1 (by omega) (.inr ⟨g, 0, rfl, (HOW1.out.lt g rfl).2, row_of HOW1.out rfl⟩))
                    rw [hy] at HHAS
                    go_wp2_with fail
                    rw [← hW1]; clear hW1
                    refine HHAS.out.mono ?_
                    rw [← hy]
                    rintro e w3 ⟨he, hb3⟩
                    have HB3 : Hid (Below w.heap.size w w3) := HBW1.out.trans (hb3.mono HBW1.out.size)
                    have HX3 : Hid (Six w3 wr.heap.size y) := HX1.out.below hb3
                    have HO3 := HID (ownsRow_later HOW1.out hb3)
                    clear hb3 HX1 HOW1 HBW1 HHAS HB1 t0 t1 t2 t3 t4 t5
                    cases h5 : hasT L y with
                    | true =>
                      rw [h5] at he; subst he
                      have HE : Hid (renL typ frm to (ts.take (k + 1)) = L) := by show _ = _; rw [HTK.out, HYR.out]; simp [putN, h5]
                      clear h5
                      go_wp2
                      go_roundw
                      case rel => exact ⟨k + 1, g, cp, by omega, by go_num, by rw [HE.out], by rw [HE.out]; exact HO3, HB3⟩
                      case measure => first | (simp [intOf]; done) | (simp [intOf]; omega)
                    | false =>
                      rw [h5] at he; subst he
                      have HE : Hid (renL typ frm to (ts.take (k + 1)) = putT L y) := by show _ = _; rw [HTK.out, HYR.out]; simp [putN, h5]
                      have HPUT := HID (l1Put_own g 0 cp L y w3 (by omega) HCP.out (row_of HO3.out rfl) (HO3.out.lt g rfl).2 HLF.out (by rw [← HYR.out]; exact HRF.out))
                      clear h5
                      obtain ⟨x0, x1, x2, x3, x4, x5, xl⟩ := HX3.out
                      rw [hy] at x0 x1 x2 x3 x4 x5
                      clear HX3
                      go_wp2_with fail
                      rw [hy] at HPUT
                      refine HPUT.out.mono ?_
                      rw [← hy]
                      rintro e w4 ⟨v4, rfl, ho4, hb4⟩
                      have HB4 : Hid (Below w.heap.size w w4) := HB3.out.trans (hb4.mono HB3.out.size)
                      have ho5 := ho4
                      rw [putN_len] at ho5
                      obtain ⟨g4, cp4, rfl⟩ := ownsRow_succR ho5
                      have HO4 : Hid (w4.ownsRow w.heap.size 39 6 (.slice (some ⟨g4, 0, none⟩) (L.length + 1) cp4) (L.length + 1) (rows6 (putT L y))) := ownsRow_base ho5 HB3.out.size
                      clear ho4 ho5 hb4 x0 x1 x2 x3 x4 x5 HPUT
                      go_wp2
                      go_roundw
                      case rel => exact ⟨k + 1, g4, cp4, by omega, by go_num, by rw [HE.out, putN_len], by rw [HE.out, putN_len]; exact HO4, HB4⟩
                      case measure => first | (simp [intOf]; done) | (simp [intOf]; omega)
        · obtain rfl : k = ts.length := by omega
          have hown := HOW.out
          have HE : Hid (ts.take ts.length = ts) := by show _ = _; rw [List.take_length]
          rw [HE.out] at hown
          have HSL : Hid (Sl wr (some ⟨g, 0, none⟩) (renL typ frm to ts)) := .inr ⟨g, 0, rfl, (hown.lt g rfl).2, row_of hown rfl⟩
          rw [HE.out]
          clear hown
          go_wp2
          go_ret
          exact ⟨some ⟨g, 0, none⟩, cp, by rw [HN.out]; rfl, by rw [HN.out]; exact HSL.out, HBW.out⟩
end Go.Proofs.Ythicofnjehpalaa
