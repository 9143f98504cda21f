/- What the law of crashes asks, told plainly; drawn disks; the law's own comparison of files. -/
import Derived.Test.YtbfimfmfdllejaaDiskDraw
import Derived.Test.YtbfimfmfdllejaaCrashDk2
namespace Go.Proofs.Ytbfimfmfdllejaa
open Go.ChangeShapes Go.WideShapes Go.ChangeAt Go.RowKit Go.Maps
set_option linter.unusedVariables false

def upto (n : Nat) : List Int := (List.range n).map fun i : Nat => (i : Int)
theorem upto_len (n : Nat) : (upto n).length = n := by simp [upto]
theorem upto_at {n i : Nat} (h : i < n) : numAt (upto n) i = (i : Int) := by
  rw [numAt_get (by rw [upto_len]; exact h)]; simp [upto]
theorem upto_keep (n : Nat) : keepB (upto n) n = true := by
  rw [keepB, List.all_eq_true]
  intro i hi
  rw [upto_len] at hi
  have hi : i < n := by simpa using hi
  rw [keptAt, upto_at hi]
  simp only [Bool.and_eq_true, Bool.or_eq_true, decide_eq_true_eq]
  refine ⟨⟨by omega, by omega⟩, ?_⟩
  by_cases h0 : i = 0
  · exact .inl h0
  · right; rw [upto_at (by omega)]; omega
/-- all ops kept, whole: what was run -/
theorem crUp_all {ss : List Fl} {os : List Dop} {t : Nat} (hr : (runUp ss os os.length).isSome = true) (hs : ∀ o ∈ os, o.small) (ht : 2097152 ≤ t) : ∀ k, k ≤ os.length → runUp ss os k = some (crUp ss os (upto os.length) t k)
  | 0, _ => rfl
  | k + 1, hk => by
    have ih := crUp_all hr hs ht k (by omega)
    have hk' : k < os.length := by omega
    have ko : keptO os (upto os.length) t k = os[k] := keptO_same (upto_at hk') hk' (.inr (.inr (by have := (hs _ (List.getElem_mem hk')).2.2; omega)))
    cases e : runUp ss os (k + 1) with
    | none => rw [runUp_none e os.length (by omega) (Nat.le_refl _)] at hr; cases hr
    | some fs =>
      rw [runUp_succ ss os k hk', ih] at e
      simp only [Option.bind_some] at e
      split at e
      · rw [crUp, ko]; exact e.symm
      · cases e
theorem crash_all {ls ss : List Fl} {os : List Dop} (hd : diskB ls ss os = true) (hs : ∀ o ∈ os, o.small) : crB ls ss os (upto os.length) 1099511627776 = true ∧ crL ls ss os (upto os.length) 1099511627776 = ls := by
  have h := hd
  simp only [diskB, Bool.and_eq_true] at h
  cases hr : runUp ss os os.length with
  | none => rw [hr] at h; cases h.2
  | some fs =>
    rw [hr] at h
    have e := crUp_all (t := (1099511627776 : Int).toNat) (by rw [hr]; rfl) hs (by decide) os.length (Nat.le_refl _)
    rw [hr] at e
    injection e with e
    have e2 := sameB_iff h.2
    have hB : crB ls ss os (upto os.length) 1099511627776 = true := by
      rw [crB, hd, upto_keep, upto_len, ← e, e2, h.1.1.1]; rfl
    exact ⟨hB, by rw [crL, hB, upto_len, ← e, e2]; rfl⟩
theorem crash_none {ls ss : List Fl} {os : List Dop} (hd : diskB ls ss os = true) : crB ls ss os [] 0 = true ∧ crL ls ss os [] 0 = ss := by
  have hB : crB ls ss os [] 0 = true := by
    have := (diskB_facts hd).2.1
    rw [crB, hd]
    show (true && decide ((0 : Int) ≤ 0) && true && filesB ss) = true
    rw [this]; rfl
  exact ⟨hB, by rw [crL, hB]; rfl⟩
theorem crash_bad {ls ss : List Fl} {os : List Dop} {ks : List Int} {t : Int} (hd : diskB ls ss os = false) : crB ls ss os ks t = false ∧ crL ls ss os ks t = [] := by
  have hB : crB ls ss os ks t = false := by rw [crB, hd]; rfl
  exact ⟨hB, by rw [crL, hB]; rfl⟩
set_option maxHeartbeats 2000000 in
theorem sameFiles_any (ad ad' : Option Addr) (cap cap' : Nat) (xs ys : List Fl) (w : World) (hlen : xs.length ≤ 1048576) (hlen' : ys.length ≤ 1048576) (hs : SlF w ad xs) (hs' : SlF w ad' ys) :
    Calls Try.prog 28 #[.slice ad xs.length cap, .slice ad' ys.length cap'] w fun e w' => e = .returned (.bool (sameB xs ys)) ∧ Below w.heap.size w w' := by
  by_cases hl : xs.length = ys.length
  · have hb : ((xs.length : Int) == (ys.length : Int)) = true := by simp; omega
    go_enter Try.func28, Try.ntmps28
    go_wp2_with fail
    go_loopw [5] (fun i wr => ∃ k : Nat, k ≤ xs.length ∧ i = .int .i64 (k : Int) ∧ Hid (sameUp xs ys k = true) ∧ Hid (Below w.heap.size w wr)) (fun i _ => xs.length - (intOf i).toNat)
    case atStart => exact ⟨0, Nat.zero_le _, rfl, rfl, Below.refl _ _⟩
    case round =>
      obtain ⟨k, hk, rfl, HU, HBW⟩ := hrel
      by_cases hlt : k < xs.length
      · have hlt' : k < ys.length := by omega
        rcases hs.below HBW.out with rfl | ⟨b, off, rfl, hb1, hr⟩
        · simp at hlt
        rcases hs'.below HBW.out with rfl | ⟨b', off', rfl, hb2, hr'⟩
        · simp at hlt'
        obtain ⟨t0, t1⟩ := hr k hlt
        obtain ⟨r0, r1⟩ := hr' k hlt'
        have k0 : (0 : Int) ≤ (k : Int) := by omega
        have k1 : (k : Int) < (xs.length : Int) := by omega
        have k2 : (k : Int) < (ys.length : Int) := by omega
        have hst := sameAt_get hlt hlt'
        clear hr hr' hs hs'
        cases he : (xs[k].n.toList == ys[k].n.toList) with
        | false =>
          have HF : Hid (sameB xs ys = false) := same_bad hlt (by rw [hst, he]; rfl)
          clear hst
          go_wp2_with fail
          go_quiet (fail)
          go_wp2
          go_ret
          exact ⟨retB HF.out.symm, below_drewN HBW.out _⟩
        | true =>
          cases hd : (xs[k].d.toList == ys[k].d.toList) with
          | false =>
            have HF : Hid (sameB xs ys = false) := same_bad hlt (by rw [hst, he, hd]; rfl)
            clear hst
            go_wp2_with fail
            go_quiet (fail)
            go_wp2
            go_ret
            exact ⟨retB HF.out.symm, below_drewN HBW.out _⟩
          | true =>
            have HU2 : Hid (sameUp xs ys (k + 1) = true) := by show _ = _; rw [sameUp_succ, HU.out, hst, he, hd]; rfl
            clear hst
            go_wp2_with fail
            go_quiet (fail)
            go_wp2
            go_roundw
            case rel => exact ⟨k + 1, by omega, by go_num, HU2, below_drewN HBW.out _⟩
            case measure => simp [intOf]; omega
      · obtain rfl : k = xs.length := by omega
        have HT : Hid (sameB xs ys = true) := by show _ = _; rw [sameB_eq, HU.out, decide_eq_true hl]; rfl
        go_wp2
        go_ret
        exact ⟨retB HT.out.symm, HBW.out⟩
  · have HF : Hid (sameB xs ys = false) := by show _ = _; rw [sameB_eq, decide_eq_false hl]; rfl
    have hb : ((xs.length : Int) == (ys.length : Int)) = false := by simp; omega
    go_enter Try.func28, Try.ntmps28
    go_wp2
    go_ret
    exact ⟨retB HF.out.symm, Below.refl _ _⟩
/-- a drawn disk, for a law over bytes -/
def DrawD (w : World) (e : Ending) (w' : World) : Prop :=
  ∃ (a1 a2 a3 : Option Addr) (p1 p2 p3 : Nat) (ls ss : List Fl) (os : List Dop), e = .returned (.agg #[.slice a1 ls.length p1, .slice a2 ss.length p2, .slice a3 os.length p3]) ∧ Dk w' a1 a2 a3 ls ss os w' ∧ Nils a1 a2 p1 p2 ∧ (ls.length ≤ 61 ∧ ss.length ≤ 61 ∧ os.length ≤ 200) ∧ (∀ f ∈ ls, f.n.size ≤ maxLen ∧ f.d.size ≤ 4194304) ∧ (∀ f ∈ ss, f.n.size ≤ maxLen ∧ f.d.size ≤ 4194304) ∧ (∀ o ∈ os, o.small) ∧ Below w.heap.size w w'
set_option maxRecDepth 8000 in
set_option maxHeartbeats 2000000 in
theorem drawDisk_any (ad : Option Addr) (len cap : Nat) (w : World) (h : Bytes w ad len) :
    Calls Try.prog 24 #[.slice ad len cap] w (DrawD w) := by
  obtain ⟨W, hW⟩ : ∃ W, W = w.alloc (.cells #[.slice none 0 0, .slice none 0 0, .slice none 0 0] 33) := ⟨_, rfl⟩
  have hb : Below w.heap.size w W := by rw [hW]; exact (Below.refl _ _).alloc (Nat.le_refl _) _
  have C0 : Hid (Cn w.heap.size (.slice none 0 0) (.slice none 0 0) (.slice none 0 0) W ∧ Free W w.heap.size) := by rw [hW]; exact ⟨cn_new _ _ _ _ _, fun j => fz0 _ _ _ j⟩
  have H := HIDk (h.below hb)
  have HB := HIDk hb
  clear h hb
  go_enter Try.func24, Try.ntmps24
  go_wp2_with fail
  rw [← hW]
  clear hW
  refine (open_any ad len cap W H.out).mono ?_
  rintro e w1 ⟨rfl, hR1, hb1⟩
  have hlt := C0.out.1.lt
  have C1 : Hid (Cn w.heap.size (.slice none 0 0) (.slice none 0 0) (.slice none 0 0) w1 ∧ Free w1 w.heap.size) := ⟨C0.out.1.later hb1, fun j => keptF hb1 hlt (C0.out.2 j)⟩
  have HB1 := HIDk (HB.out.trans (hb1.mono HB.out.size))
  have R1 := HIDk hR1
  clear hR1 hb1 C0 HB
  go_wp2_with fail
  refine (disk_any W.heap.size ad len cap w1 R1.out).mono ?_
  rintro e w2 ⟨a1, a2, a3, p1, p2, p3, ls, ss, os, rfl, hD, hN, hl, fl, fs, fo, hR2, hO2, hfar⟩
  have hne : w.heap.size ≠ W.heap.size := by omega
  obtain ⟨l0, c0, c1, c2⟩ := C1.out.1.only hne hO2
  have cf : ∀ i, w2.frozen? ⟨w.heap.size, i, none⟩ = false := fun i => (hO2.frozen C1.out.1.lt hne).trans (C1.out.2 i)
  have HB2 : Hid (Below w.heap.size w w2) := Only.toBelow HB1.out hO2 HB1.out.size (by omega)
  have n1 : w.heap.size < w1.heap.size := C1.out.1.lt
  have HFIN : Hid (∀ x y z, DrawD w (.returned (.agg #[.slice a1 ls.length p1, .slice a2 ss.length p2, .slice a3 os.length p3])) (((w2.setCell ⟨w.heap.size, 0, none⟩ x).setCell ⟨w.heap.size, 1, none⟩ y).setCell ⟨w.heap.size, 2, none⟩ z)) := fun x y z => by
    have hc : Chg (fun y => y = w.heap.size) w2 (((w2.setCell ⟨w.heap.size, 0, none⟩ x).setCell ⟨w.heap.size, 1, none⟩ y).setCell ⟨w.heap.size, 2, none⟩ z) := ((Chg.set (S := fun y => y = w.heap.size) _ rfl).trans (Chg.set (S := fun y => y = w.heap.size) _ rfl)).trans (Chg.set (S := fun y => y = w.heap.size) _ rfl)
    exact ⟨a1, a2, a3, p1, p2, p3, ls, ss, os, rfl, ⟨Below.refl _ _, hD.live.chgd hc (fun hn g o e h => by have := hfar.1 hn g o e; omega), hD.safe.chgd hc (fun hn g o e h => by have := hfar.2.1 hn g o e; omega), hD.ops.chgd hc (fun hn g o e h => by have := hfar.2.2 hn g o e; omega)⟩, hN, hl, fl, fs, fo, ((HB2.out.setCell (p := ⟨w.heap.size, 0, none⟩) (by simp) _).setCell (p := ⟨w.heap.size, 1, none⟩) (by simp) _).setCell (p := ⟨w.heap.size, 2, none⟩) (by simp) _⟩
  clear hD hN hl fl fs fo hR2 hO2 hfar HB1 C1 R1 H
  go_wp2
  refine bodyPost_ret (v := .agg #[.slice a1 ls.length p1, .slice a2 ss.length p2, .slice a3 os.length p3]) (by simp [results, Try.results24, go_sem, *]) rfl (HFIN.out _ _ _)
end Go.Proofs.Ytbfimfmfdllejaa
