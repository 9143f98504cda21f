/- Contract of the program's function that gives tuples another name for a relation. -/
import Derived.Test.YthicofnjehpalaaInOrder
import Derived.Test.YthicofnjehpalaaImplSet
import Derived.Test.YthicofnjehpalaaSpecRen
import Derived.Test.YthicofnjehpalaaRelName
namespace Go.Proofs.Ythicofnjehpalaa
set_option maxRecDepth 100000
open Go.ChangeShapes Go.WideShapes Go.ChangeAt Go.RowKit Go.Maps
open Pl

set_option maxHeartbeats 8000000 in
theorem implRenTups_any (ad : Option Addr) (cap : Nat) (ts : List Tp) (typ frm to : ByteArray) (w : World) (hlen : ts.length ≤ 1048576) (hs : Sl w ad ts) (hf : ∀ x ∈ ts, x.fits) (hto : to.size ≤ maxLen) :
    Calls Try.prog 7 #[.slice ad ts.length cap, .string typ, .string frm, .string to] w fun e w' => ∃ (ad' : Option Addr) (cap' : Nat), e = .returned (.slice ad' (rnL typ frm to ts).length cap') ∧ OwnL w.heap.size w' ad' (rnL typ frm to ts) ∧ Below w.heap.size w w' := by
  letI : DecidableEq Tp := fun x y => decidable_of_iff (tpEq x y = true) tpEq_iff
  have HST := HID hs
  have HFT := HID hf
  have hml : ts.length ≤ maxLen := by unfold maxLen; omega
  clear hs hf
  have hmm := @run_makeMap Try.prog
  go_enter Try.func7, Try.ntmps7
  go_wp2_with fail
  refine (implTuplesOk_any _ cap ts _ hml HST.out HFT.out).mono ?_
  rintro e w1 ⟨he, hb1⟩
  have HB1 := HID hb1
  clear hb1
  cases h1 : tupsB ts with
  | false =>
    rw [h1] at he; subst he
    have HN : Hid (rnL typ frm to ts = []) := rnL_no (by simp [rnB, h1])
    clear h1
    go_wp2
    go_ret
    exact ⟨none, 0, by rw [HN.out]; rfl, ownL_nil HN.out, HB1.out⟩
  | true =>
    rw [h1] at he; subst he
    have H1 := HID h1
    clear h1
    go_wp2_with fail
    refine (implName_any to _ hto).mono ?_
    rintro e w2 ⟨he, hw2⟩
    replace hw2 := hw2.symm
    subst hw2
    cases h2 : nameB to with
    | false =>
      rw [h2] at he; subst he
      have HN : Hid (rnL typ frm to ts = []) := rnL_no (by simp [rnB, h2])
      clear h2
      go_wp2
      go_ret
      exact ⟨none, 0, by rw [HN.out]; rfl, ownL_nil HN.out, HB1.out⟩
    | true =>
      rw [h2] at he; subst he
      have HRB : Hid (rnB to ts = true) := by show _ = _; simp [rnB, h2, H1.out]
      have HN : Hid (rnL typ frm to ts = renL typ frm to ts) := rnL_yes HRB.out
      obtain ⟨h40, hoks⟩ := rnB_facts (typ := typ) (frm := frm) HRB.out
      have HOK := HID hoks
      clear h2 H1 hoks
      obtain ⟨W1, hW1⟩ : ∃ W1, W1 = w1.alloc (.cells #[.map none, .string typ, .string frm, .string to] 46) := ⟨_, rfl⟩
      have HBA : Hid (Below w1.heap.size w1 W1) := by rw [hW1]; exact (Below.refl _ _).alloc (Nat.le_refl _) _
      have HC1 : Hid (W1.cell? ⟨w1.heap.size, 0, none⟩ = some (.map none) ∧ W1.cell? ⟨w1.heap.size, 1, none⟩ = some (.string typ) ∧ W1.cell? ⟨w1.heap.size, 2, none⟩ = some (.string frm) ∧ W1.cell? ⟨w1.heap.size, 3, none⟩ = some (.string to) ∧ w1.heap.size < W1.heap.size) := by show _ ∧ _; rw [hW1]; refine ⟨?_, ?_, ?_, ?_, ?_⟩ <;> simp
      have HBW1 : Hid (Below w.heap.size w W1) := HB1.out.trans (HBA.out.mono HB1.out.size)
      have HSZ : Hid (W1.heap.size = w1.heap.size + 1) := by show _ = _; rw [hW1]; simp
      have HM0 : Hid (MapV encT Try.prog 39 (W1.alloc (.map #[] 0)) (w1.heap.size + 1) 0 (fun _ => none)) := by rw [← HSZ.out]; exact mapV_made _ _ _ W1
      have HB2 : Hid (Below W1.heap.size W1 (W1.alloc (.map #[] 0))) := (Below.refl _ _).alloc (Nat.le_refl _) _
      go_wp2_with fail
      rw [← hW1]
      clear hW1
      go_loopw [28] (fun i wr => ∃ k : Nat, k ≤ ts.length ∧ i = .int .i64 k ∧ Hid (MapV encT Try.prog 39 wr (w1.heap.size + 1) k (setFrom (fun _ => none) ((ts.map (ren typ frm to)).take k))) ∧ Hid (Below w.heap.size w wr) ∧ Hid (Below W1.heap.size W1 wr)) (fun i _ => ts.length - (intOf i).toNat)
      case atStart => exact ⟨0, Nat.zero_le _, rfl, HM0, HBW1.out.trans (HB2.out.mono HBW1.out.size), HB2⟩
      case round =>
        clear HM0 HB2 hmm
        obtain ⟨k, hk, rfl, HM, HB, HBN⟩ := hrel
        by_cases hlt : k < ts.length
        · rcases HST.out.below HB.out with hnil | ⟨b, off, rfl, hb, hr⟩
          · rw [hnil] at hlt; simp at hlt
          obtain ⟨t0, t1, t2, t3, t4, t5⟩ := hr k hlt
          have hk1 : (0 : Int) ≤ (k : Int) := by omega
          have hk2 : (k : Int) < (ts.length : Int) := by omega
          have HW1 := HID HC1.out.2.2.2.2
          have c0 := mK HBN.out HC1.out.2.2.2.2 HC1.out.1
          have c1 := mK HBN.out HC1.out.2.2.2.2 HC1.out.2.1
          have c2 := mK HBN.out HC1.out.2.2.2.2 HC1.out.2.2.1
          have c3 := mK HBN.out HC1.out.2.2.2.2 HC1.out.2.2.2.1
          have HCR : Hid (wr.cell? ⟨w1.heap.size, 0, none⟩ = some (.map none) ∧ wr.cell? ⟨w1.heap.size, 1, none⟩ = some (.string typ) ∧ wr.cell? ⟨w1.heap.size, 2, none⟩ = some (.string frm) ∧ wr.cell? ⟨w1.heap.size, 3, none⟩ = some (.string to) ∧ w1.heap.size < wr.heap.size) := ⟨c0, c1, c2, c3, Nat.lt_of_lt_of_le HC1.out.2.2.2.2 HBN.out.size⟩
          have hwl : w1.heap.size < wr.heap.size := HCR.out.2.2.2.2
          have HRK := HID ((HOK.out _ (List.getElem_mem hlt)).2)
          have hlm : k < (ts.map (ren typ frm to)).length := by simpa using hlt
          have HMK : Hid ((ts.map (ren typ frm to))[k] = ren typ frm to ts[k]) := by show _ = _; simp
          have HSU := HID (setFrom_succ (fun _ => none) (ts.map (ren typ frm to)) k hlm)
          obtain ⟨x, hx⟩ : ∃ x, x = ts[k] := ⟨_, rfl⟩
          rw [← hx] at t0 t1 t2 t3 t4 t5 HRK HMK
          obtain ⟨rl, hrl⟩ : ∃ rl, relN typ frm to x.a x.r = rl := ⟨_, rfl⟩
          obtain ⟨sl, hsl⟩ : ∃ sl, relN typ frm to x.c x.s = sl := ⟨_, rfl⟩
          have HY : Hid (ren typ frm to x = ⟨x.a, x.b, rl, x.c, x.d, sl⟩) := by show _ = _; rw [← hrl, ← hsl]; rfl
          have HRL := HID hrl
          have HSLQ := HID hsl
          obtain ⟨W3, hW3⟩ : ∃ W3, W3 = wr.alloc (.cells #[.string x.a, .string x.b, .string x.r, .string x.c, .string x.d, .string x.s] 39) := ⟨_, rfl⟩
          have HX3 : Hid (Six W3 wr.heap.size x) := by rw [hW3]; exact six_new wr x _
          have HB3 : Hid (Below wr.heap.size wr W3) := by rw [hW3]; exact (Below.refl _ _).alloc (Nat.le_refl _) _
          have HF3 : Hid (∀ o, W3.frozen? ⟨wr.heap.size, o, none⟩ = false) := by show ∀ _, _; intro o; rw [hW3]; simp
          clear hr hx hrl hsl
          go_wp2_with fail
          rw [← hW3]; clear hW3
          refine (relName_any none typ frm to x.a x.r _).mono ?_
          rintro e w4 ⟨he, hb4⟩
          rw [HRL.out] at he; subst he
          have HX4 := HID (HX3.out.below hb4)
          have HB4 : Hid (Below wr.heap.size wr w4) := HB3.out.trans (hb4.mono HB3.out.size)
          have f2 : w4.frozen? ⟨wr.heap.size, 2, none⟩ = false := mF hb4 HX3.out.2.2.2.2.2.2 (HF3.out 2)
          have HF4 : Hid (∀ o, w4.frozen? ⟨wr.heap.size, o, none⟩ = false) := fun o => mF hb4 HX3.out.2.2.2.2.2.2 (HF3.out o)
          obtain ⟨x0, x1, x2, x3, x4, x5, xl⟩ := HX4.out
          clear hb4 HX3 HB3 HF3 t0 t1 t2 t3 t4 t5 c0 c1 c2 c3
          obtain ⟨W5, hW5⟩ : ∃ W5, W5 = w4.setCell ⟨wr.heap.size, 2, none⟩ (.string rl) := ⟨_, rfl⟩
          have HX5 : Hid (Six W5 wr.heap.size ⟨x.a, x.b, rl, x.c, x.d, x.s⟩) := by rw [hW5]; exact six_set2 rl HX4.out
          have HB5 : Hid (Below wr.heap.size wr W5) := by rw [hW5]; exact HB4.out.setCell (Nat.le_refl _) _
          have HF5 : Hid (∀ o, W5.frozen? ⟨wr.heap.size, o, none⟩ = false) := by show ∀ _, _; intro o; rw [hW5, World.frozen?_setCell]; exact HF4.out o
          have c0 : (w4.setCell ⟨wr.heap.size, 2, none⟩ (.string rl)).cell? ⟨w1.heap.size, 0, none⟩ = some (.map none) := by rw [← hW5]; exact mK HB5.out HCR.out.2.2.2.2 HCR.out.1
          have c1 : (w4.setCell ⟨wr.heap.size, 2, none⟩ (.string rl)).cell? ⟨w1.heap.size, 1, none⟩ = some (.string typ) := by rw [← hW5]; exact mK HB5.out HCR.out.2.2.2.2 HCR.out.2.1
          have c2 : (w4.setCell ⟨wr.heap.size, 2, none⟩ (.string rl)).cell? ⟨w1.heap.size, 2, none⟩ = some (.string frm) := by rw [← hW5]; exact mK HB5.out HCR.out.2.2.2.2 HCR.out.2.2.1
          have c3 : (w4.setCell ⟨wr.heap.size, 2, none⟩ (.string rl)).cell? ⟨w1.heap.size, 3, none⟩ = some (.string to) := by rw [← hW5]; exact mK HB5.out HCR.out.2.2.2.2 HCR.out.2.2.2.1
          have y3 : (w4.setCell ⟨wr.heap.size, 2, none⟩ (.string rl)).cell? ⟨wr.heap.size, 3, none⟩ = some (.string x.c) := by rw [← hW5]; exact HX5.out.2.2.2.1
          have y5 : (w4.setCell ⟨wr.heap.size, 2, none⟩ (.string rl)).cell? ⟨wr.heap.size, 5, none⟩ = some (.string x.s) := by rw [← hW5]; exact HX5.out.2.2.2.2.2.1
          go_wp2_with fail
          rw [← hW5]
          clear hW5 c0 c1 c2 c3 y3 y5 x0 x1 x2 x3 x4 x5 xl f2 HX4 HB4 HF4
          refine (relName_any none typ frm to x.c x.s _).mono ?_
          rintro e w6 ⟨he, hb6⟩
          rw [HSLQ.out] at he; subst he
          have HX6 := HID (HX5.out.below hb6)
          have HB6 : Hid (Below wr.heap.size wr w6) := HB5.out.trans (hb6.mono HB5.out.size)
          have f5 : w6.frozen? ⟨wr.heap.size, 5, none⟩ = false := mF hb6 HX5.out.2.2.2.2.2.2 (HF5.out 5)
          obtain ⟨x0, x1, x2, x3, x4, x5, xl⟩ := HX6.out
          obtain ⟨W7, hW7⟩ : ∃ W7, W7 = w6.setCell ⟨wr.heap.size, 5, none⟩ (.string sl) := ⟨_, rfl⟩
          have HX7 : Hid (Six W7 wr.heap.size ⟨x.a, x.b, rl, x.c, x.d, sl⟩) := by rw [hW7]; exact six_set5 sl HX6.out
          have HB7 : Hid (Below wr.heap.size wr W7) := by rw [hW7]; exact HB6.out.setCell (Nat.le_refl _) _
          have HM7 := HID (HM.out.below HB7.out)
          have HBW7 : Hid (Below w.heap.size w W7) := HB.out.trans (HB7.out.mono HB.out.size)
          obtain ⟨kl, hkl⟩ := tupKeyOf (ren typ frm to x) (fits_ok HRK.out)
          have HKL := HID hkl
          have y0 : (w6.setCell ⟨wr.heap.size, 5, none⟩ (.string sl)).cell? ⟨wr.heap.size, 0, none⟩ = some (.string x.a) := by rw [← hW7]; exact HX7.out.1
          have y1 : (w6.setCell ⟨wr.heap.size, 5, none⟩ (.string sl)).cell? ⟨wr.heap.size, 1, none⟩ = some (.string x.b) := by rw [← hW7]; exact HX7.out.2.1
          have y2 : (w6.setCell ⟨wr.heap.size, 5, none⟩ (.string sl)).cell? ⟨wr.heap.size, 2, none⟩ = some (.string rl) := by rw [← hW7]; exact HX7.out.2.2.1
          have y3 : (w6.setCell ⟨wr.heap.size, 5, none⟩ (.string sl)).cell? ⟨wr.heap.size, 3, none⟩ = some (.string x.c) := by rw [← hW7]; exact HX7.out.2.2.2.1
          have y4 : (w6.setCell ⟨wr.heap.size, 5, none⟩ (.string sl)).cell? ⟨wr.heap.size, 4, none⟩ = some (.string x.d) := by rw [← hW7]; exact HX7.out.2.2.2.2.1
          have y5 : (w6.setCell ⟨wr.heap.size, 5, none⟩ (.string sl)).cell? ⟨wr.heap.size, 5, none⟩ = some (.string sl) := by rw [← hW7]; exact HX7.out.2.2.2.2.2.1
          clear hb6 HX5 HB5 HF5 HX6 HB6 hkl
          go_wp2_with (at_mapUpdate; rw [← hW7]; clear hW7; refine wpList_storeV _ rfl _ _ _ 48 rfl 39 50 tupLaw encT_inj Try.underlying48 (w1.heap.size + 1) k _ rfl HM7.out (by unfold maxLen; omega) (ren typ frm to x) kl (by rw [HY.out]; rfl) HKL.out _ rfl ?_; intro w8 hV8 hg8)
          have HM8 : Hid (MapV encT Try.prog 39 w8 (w1.heap.size + 1) (k + 1) (setFrom (fun _ => none) ((ts.map (ren typ frm to)).take (k + 1)))) := by
            show MapV _ _ _ _ _ _ _
            rw [HSU.out, HMK.out]; exact hV8
          have HB8 : Hid (Below w.heap.size w w8) := HBW7.out.grown hg8 HBW7.out.size (fun i hi => by injection hi with hi; have := HB1.out.size; omega)
          have HBN8 : Hid (Below W1.heap.size W1 w8) := (HBN.out.trans (HB7.out.mono HBN.out.size)).grown hg8 (Nat.le_trans HBN.out.size HB7.out.size) (fun i hi => by injection hi with hi; have := HSZ.out; omega)
          clear hV8 hg8 HM7 HBW7 x0 x1 x2 x3 x4 x5 xl y0 y1 y2 y3 y4 y5 f5
          go_wp2
          go_roundw
          case rel => exact ⟨k + 1, by omega, by go_num, HM8, HB8, HBN8⟩
          case measure => first | (simp [intOf]; done) | (simp [intOf]; omega)
        · obtain rfl : k = ts.length := by omega
          obtain ⟨hup, hlok, hmem, hll⟩ := renL_up (typ := typ) (frm := frm) (to := to) (ts := ts) (fun t ht => (HOK.out t ht).2)
          have hM := HM.out
          rw [show (ts.map (ren typ frm to)).take ts.length = ts.map (ren typ frm to) by rw [← List.length_map (f := ren typ frm to), List.take_length]] at hM
          have HIO := HID (inOrder_any (w1.heap.size + 1) ts.length _ (renL typ frm to ts) wr hM (by omega) hup hlok (fun x => by rw [setFrom_is, hmem]; simp) (by omega))
          clear hup hlok hmem hll hM
          go_wp2_with fail
          refine HIO.out.mono ?_
          rintro e w9 ⟨ad', cap', rfl, hO, hb9⟩
          have HO := HID hO
          clear hO HIO
          go_wp2
          go_ret
          exact ⟨ad', cap', by rw [HN.out]; rfl, by rw [HN.out]; exact HO.out.mono HB.out.size, HB.out.trans (hb9.mono HB.out.size)⟩
end Go.Proofs.Ythicofnjehpalaa
