/- The contract of the document's Crash. -/
import Derived.Test.YtbfimfmfdllejaaPlainCrash
import Derived.BigRegion
import Derived.RegionTactic
import Derived.Test.YtbfimfmfdllejaaDiskDraw
import Derived.Test.YtbfimfmfdllejaaPlainRep
import Derived.Test.YtbfimfmfdllejaaLawDk
import Derived.Test.YtbfimfmfdllejaaDkEnd
import Derived.Test.YtbfimfmfdllejaaRdDk
import Derived.Deep.RegionHeld3
namespace Go.Proofs.Ytbfimfmfdllejaa
open Go.ChangeShapes Go.WideShapes Go.ChangeAt Go.RowKit Go.Maps
set_option linter.unusedVariables false

def crB (ls ss : List Fl) (os : List Dop) (ks : List Int) (t : Int) : Bool := diskB ls ss os && decide (0 ≤ t) && keepB ks os.length && filesB (crUp ss os ks t.toNat ks.length)
def crL (ls ss : List Fl) (os : List Dop) (ks : List Int) (t : Int) : List Fl := if crB ls ss os ks t then crUp ss os ks t.toNat ks.length else []
/-- what Crash leaves: a disk with these files alone, and the flag -/
def CrTo (w : World) (xs : List Fl) (b : Bool) (e : Ending) (w' : World) : Prop := ∃ v, e = .returned (.tuple #[v, .bool b]) ∧ DB w' w.heap.size v xs xs [] ∧ Below w.heap.size w w'
theorem crTo_no {w w' : World} {ls ss : List Fl} {os : List Dop} {ks : List Int} {t : Int} (h : crB ls ss os ks t = false) (hB : Below w.heap.size w w') : CrTo w (crL ls ss os ks t) (crB ls ss os ks t) (.returned (.tuple #[.agg #[.slice none 0 0, .slice none 0 0, .slice none 0 0], .bool false])) w' := by
  have : crL ls ss os ks t = [] := by rw [crL, h]; rfl
  rw [this, h]
  exact ⟨_, rfl, ⟨none, none, none, 0, 0, 0, rfl, ownD_nil _ _, ⟨fun _ => rfl, fun _ => rfl⟩⟩, hB⟩
theorem crTo_yes {w w' : World} {ls ss : List Fl} {os : List Dop} {ks : List Int} {t : Int} {xs : List Fl} {a b c : Option Addr} {p q r : Nat} (h : crB ls ss os ks t = true) (hx : xs = crUp ss os ks t.toNat ks.length) (hS : OwnD w' w.heap.size a b c xs xs []) (hc : Nils a b p q) (hB : Below w.heap.size w w') : CrTo w (crL ls ss os ks t) (crB ls ss os ks t) (.returned (.tuple #[.agg #[.slice a xs.length p, .slice b xs.length q, .slice c 0 r], .bool true])) w' := by
  have : crL ls ss os ks t = xs := by rw [crL, h, hx]; rfl
  rw [this, h]
  exact ⟨_, rfl, ⟨a, b, c, p, q, r, rfl, hS, hc⟩, hB⟩
theorem keepAt_eq (ks : List Int) (n k : Nat) (h : k < ks.length) : keptAt ks n k = (decide (0 ≤ ks[k]) && decide (ks[k] < n) && (decide (k = 0) || decide (numAt ks (k - 1) < ks[k]))) := by rw [keptAt, numAt_get h]
/-- the op that is kept, where it is not torn -/
theorem keptO_same {os : List Dop} {ks : List Int} {t k m : Nat} (hm : numAt ks k = (m : Int)) (hlt : m < os.length) (h : k + 1 ≠ ks.length ∨ formB os[m] = true ∧ os[m].k ≠ 1 ∨ os[m].d.size ≤ t) : keptO os ks t k = os[m] := by
  have e : os.getD (numAt ks k).toNat noO = os[m] := by rw [hm, Int.toNat_natCast, List.getD_eq_getElem?_getD, List.getElem?_eq_getElem hlt]; rfl
  unfold keptO
  rw [e]
  by_cases hl : k + 1 = ks.length
  · rw [if_pos hl]
    rcases h with h | ⟨h1, h2⟩ | h
    · exact absurd hl h
    · exact tear_not t h1 h2
    · unfold tearO
      rw [Nat.min_eq_left h]
      have : os[m].d.extract 0 os[m].d.size = os[m].d := ByteArray.extract_zero_size
      rw [this]
  · rw [if_neg hl]
theorem keptO_torn {os : List Dop} {ks : List Int} {t k m : Nat} (hm : numAt ks k = (m : Int)) (hlt : m < os.length) (hl : k + 1 = ks.length) (h : t ≤ os[m].d.size) : keptO os ks t k = ⟨os[m].k, os[m].n, os[m].t, os[m].d.extract 0 t⟩ := by
  have e : os.getD (numAt ks k).toNat noO = os[m] := by rw [hm, Int.toNat_natCast, List.getD_eq_getElem?_getD, List.getElem?_eq_getElem hlt]; rfl
  unfold keptO
  rw [e, if_pos hl, tearO, Nat.min_eq_right h]
theorem Dk.drawn {w W : World} {adL adS adO : Option Addr} {ls ss : List Fl} {os : List Dop} (h : Dk w adL adS adO ls ss os W) (n : Nat) : Dk w adL adS adO ls ss os (W.drewN n) := h.later (below_drewN (Below.refl _ _) n)
theorem Box2.drawn {w W : World} {a b c : Value} (h : Box2 w a b c W) (n : Nat) : Box2 w a b c (W.drewN n) := h.later (below_drewN (Below.refl _ _) n)
theorem disk_safe {ls ss : List Fl} {os : List Dop} (h : diskB ls ss os = true) : filesB ss = true := by
  simp only [diskB, Bool.and_eq_true] at h; exact h.1.1.2
/-- what stays all the way through Crash -/
structure CrS (w : World) (adL adS adO adK : Option Addr) (capL capS capO : Nat) (ls ss : List Fl) (os : List Dop) (ks : List Int) (W : World) : Prop where
  dk : Dk w adL adS adO ls ss os W
  bx : Box2 w (.slice adL ls.length capL) (.slice adS ss.length capS) (.slice adO os.length capO) W
  sl : SlK W adK ks
theorem CrS.later {w W W' : World} {adL adS adO adK : Option Addr} {capL capS capO : Nat} {ls ss : List Fl} {os : List Dop} {ks : List Int} (h : CrS w adL adS adO adK capL capS capO ls ss os ks W) (hB : Below W.heap.size W W') : CrS w adL adS adO adK capL capS capO ls ss os ks W' :=
  ⟨h.dk.later hB, h.bx.later hB, h.sl.below hB⟩

/-- the files behind the first k ops that are kept, in a row of the call's own -/
structure NowC (w : World) (ss : List Fl) (os : List Dop) (ks : List Int) (t k : Nat) (fs : List Fl) (ad : Option Addr) (cap : Nat) (W : World) : Prop where
  eq : fs = crUp ss os ks t k
  nil : ad = none → cap = 0
  sl : SlF W ad fs
  fr : FrF W (w.heap.size + 2) ad (fs ≠ [])
set_option maxRecDepth 8000 in
set_option maxHeartbeats 4000000 in
theorem specCrash_any (adL adS adO adK : Option Addr) (capL capS capO capK : Nat) (ls ss : List Fl) (os : List Dop) (ks : List Int) (t : Int) (w : World) (hl : ls.length ≤ 1048576) (hs : ss.length ≤ 1048576) (ho : os.length ≤ 1048576) (hk : ks.length ≤ 1048576)
    (H : Dk w adL adS adO ls ss os w) (hcS : adS = none → capS = 0) (fl : ∀ f ∈ ls, f.n.size ≤ maxLen ∧ f.d.size ≤ 4194304) (fs' : ∀ f ∈ ss, f.n.size ≤ maxLen ∧ f.d.size ≤ 4194304) (fo : ∀ o ∈ os, o.small) (hK : SlK w adK ks) :
    Calls Try.prog 18 #[.agg #[.slice adL ls.length capL, .slice adS ss.length capS, .slice adO os.length capO], .slice adK ks.length capK, .int .i64 t] w (CrTo w (crL ls ss os ks t) (crB ls ss os ks t)) := by
  obtain ⟨W2, hW2⟩ : ∃ W2, W2 = (w.alloc (.cells #[.slice adL ls.length capL, .slice adS ss.length capS, .slice adO os.length capO] 33)).alloc (.cells #[.slice none 0 0, .slice none 0 0, .slice none 0 0] 33) := ⟨_, rfl⟩
  obtain ⟨z0, z1, z2, q0, q1, q2, qf, hw2⟩ := box2 w (.slice adL ls.length capL) (.slice adS ss.length capS) (.slice adO os.length capO) 33 33
  rw [← hW2] at z0 z1 z2 q0 q1 q2 qf hw2
  have hb2 : Below w.heap.size w W2 := by rw [hW2]; exact ((Below.refl _ _).alloc (Nat.le_refl _) _).alloc (by simp) _
  have T0 : Hid (CrS w adL adS adO adK capL capS capO ls ss os ks W2) := ⟨H.later hb2, ⟨z0, z1, z2, q0, q1, q2, qf, hw2⟩, hK.below hb2⟩
  have HFL := HIDk fl
  have HFS := HIDk fs'
  have HFO := HIDk fo
  have HCS := HIDk hcS
  clear H hb2 z0 z1 z2 q0 q1 q2 qf hw2 fl fs' fo hcS hK
  go_enter Try.func18, Try.ntmps18
  go_wp2_with fail
  rw [← hW2]
  clear hW2
  refine (specDiskOk_any adL adS adO capL capS capO ls ss os W2 hl hs ho (dk_self T0.out.dk) HCS.out HFL.out HFS.out HFO.out).mono ?_
  rintro e w1 ⟨rfl, hb1⟩
  have T1 := HIDk (T0.out.later hb1)
  clear hb1 T0
  obtain ⟨z0, z1, z2, q0, q1, q2, qf, hw2⟩ := T1.out.bx
  cases hd : diskB ls ss os with
  | false =>
    have HE : Hid (crB ls ss os ks t = false) := by show _ = _; rw [crB, hd]; rfl
    clear hd
    go_wp2
    refine bodyPost_ret (v := .tuple #[.agg #[.slice none 0 0, .slice none 0 0, .slice none 0 0], .bool false]) (by simp [results, Try.results18, go_sem, *]) rfl (crTo_no HE.out ?_)
    exact ((T1.out.dk.bel.setCell (p := ⟨w.heap.size + 1, 0, none⟩) (by simp) _).setCell (p := ⟨w.heap.size + 1, 1, none⟩) (by simp) _).setCell (p := ⟨w.heap.size + 1, 2, none⟩) (by simp) _
  | true =>
  have HD := HIDk hd
  clear hd
  by_cases ht : t < 0
  · have HE : Hid (crB ls ss os ks t = false) := by show _ = _; rw [crB, decide_eq_false (p := 0 ≤ t) (by omega)]; simp
    have dt : decide (t < 0) = true := by simpa using ht
    clear ht
    go_wp2
    refine bodyPost_ret (v := .tuple #[.agg #[.slice none 0 0, .slice none 0 0, .slice none 0 0], .bool false]) (by simp [results, Try.results18, go_sem, *]) rfl (crTo_no HE.out ?_)
    exact ((T1.out.dk.bel.setCell (p := ⟨w.heap.size + 1, 0, none⟩) (by simp) _).setCell (p := ⟨w.heap.size + 1, 1, none⟩) (by simp) _).setCell (p := ⟨w.heap.size + 1, 2, none⟩) (by simp) _
  have dt : decide (t < 0) = false := by simpa using ht
  obtain ⟨tn, rfl⟩ : ∃ tn : Nat, t = (tn : Int) := ⟨t.toNat, by omega⟩
  clear ht
  go_wp2_with fail
  clear z0 z1 z2 q0 q1 q2 qf hw2
  go_loopw [8] (fun i wr => ∃ k : Nat, k ≤ ks.length ∧ i = .int .i64 (k : Int) ∧ Hid (keepUp ks os.length k = true) ∧ Hid (CrS w adL adS adO adK capL capS capO ls ss os ks wr)) (fun i _ => ks.length - (intOf i).toNat)
  case atStart => exact ⟨0, Nat.zero_le _, rfl, rfl, T1⟩
  case round =>
    obtain ⟨k, hk1, rfl, HU, T⟩ := hrel
    obtain ⟨z0, z1, z2, q0, q1, q2, qf, hw2⟩ := T.out.bx
    by_cases hlt : k < ks.length
    · obtain ⟨b, off, rfl, hbK, hr⟩ : ∃ b off, adK = some ⟨b, off, none⟩ ∧ b < wr.heap.size ∧ ∀ (i : Nat) (h : i < ks.length), wr.cell? ⟨b, off + i, none⟩ = some (.int .i64 ks[i]) := by
        rcases T.out.sl with h | ⟨b, off, e, hb, hr⟩
        · rw [h] at hlt; simp at hlt
        · exact ⟨b, off, e, hb, hr⟩
      have t0 := hr k hlt
      have k0 : (0 : Int) ≤ (k : Int) := by omega
      have k1 : (k : Int) < (ks.length : Int) := by omega
      have hat := keepAt_eq ks os.length k hlt
      have hdec : decide (ks[k] ≤ (os.length : Int) - 1) = decide (ks[k] < (os.length : Int)) := by simp only [decide_eq_decide]; omega
      have wo : IntKind.i64.wrap ((os.length : Int) - 1) = (os.length : Int) - 1 := by rw [IntKind.wrap_i64]; omega
      cases hin : (decide (0 ≤ ks[k]) && decide (ks[k] ≤ (os.length : Int) - 1)) with
      | false =>
        have HL : Hid (∀ w, Calls Try.prog 49 #[.int .i64 ks[k], .int .i64 0, .int .i64 ((os.length : Int) - 1)] w fun e w' => e = .returned (.bool false) ∧ w' = w) := fun w => by have h := l1In_any ks[k] 0 ((os.length : Int) - 1) w; rw [hin] at h; exact h
        have HE : Hid (crB ls ss os ks (tn : Int) = false) := by
          have : keepB ks os.length = false := keep_bad hlt (by rw [hat, ← hdec, hin]; rfl)
          show _ = _; rw [crB, this]; simp
        clear hat hdec hin hr
        go_wp2_with fail
        go_quiet ((go_at_call 49; exact Calls.quiet_of_same (HL.out _)))
        go_wp2
        refine bodyPost_ret (v := .tuple #[.agg #[.slice none 0 0, .slice none 0 0, .slice none 0 0], .bool false]) (by simp [results, Try.results18, go_sem, *]) rfl (crTo_no HE.out ?_)
        exact (((below_drewN T.out.dk.bel _).setCell (p := ⟨w.heap.size + 1, 0, none⟩) (by simp) _).setCell (p := ⟨w.heap.size + 1, 1, none⟩) (by simp) _).setCell (p := ⟨w.heap.size + 1, 2, none⟩) (by simp) _
      | true =>
        have HL : Hid (∀ w, Calls Try.prog 49 #[.int .i64 ks[k], .int .i64 0, .int .i64 ((os.length : Int) - 1)] w fun e w' => e = .returned (.bool true) ∧ w' = w) := fun w => by have h := l1In_any ks[k] 0 ((os.length : Int) - 1) w; rw [hin] at h; exact h
        by_cases hk0 : k = 0
        · have hg0 : decide ((0 : Int) < (k : Int)) = false := by simp; omega
          have hg1 : decide (0 < k) = false := by simp; omega
          have HU2 : Hid (keepUp ks os.length (k + 1) = true) := by show _ = _; rw [keepUp_succ, HU.out, hat, ← hdec, hin, decide_eq_true hk0]; rfl
          clear hat hdec hin hr hk0
          go_wp2_with fail
          go_quiet ((go_at_call 49; exact Calls.quiet_of_same (HL.out _)))
          go_wp2
          go_roundw
          case rel => exact ⟨k + 1, by omega, by go_num, HU2, T.out.later (below_drewN (Below.refl _ _) _)⟩
          case measure => simp [intOf]; omega
        · have hg0 : decide ((0 : Int) < (k : Int)) = true := by simp; omega
          have hkp : 0 < k := by omega
          have hg1 : decide (0 < k) = true := by simpa using hkp
          have hp := hr (k - 1) (by omega)
          have j0 : (0 : Int) ≤ (k : Int) - 1 := by omega
          have j1 : (k : Int) - 1 < (ks.length : Int) := by omega
          have j2 : ((k : Int) - 1).toNat = k - 1 := by omega
          have hnm : numAt ks (k - 1) = ks[k - 1]'(by omega) := numAt_get (by omega)
          by_cases h3 : ks[k] ≤ ks[k - 1]'(by omega)
          · have HE : Hid (crB ls ss os ks (tn : Int) = false) := by
              have : keepB ks os.length = false := keep_bad hlt (by rw [hat, hnm, decide_eq_false hk0, decide_eq_false (p := ks[k - 1]'(by omega) < ks[k]) (by omega)]; simp)
              show _ = _; rw [crB, this]; simp
            have d3 : decide (ks[k] ≤ ks[k - 1]'(by omega)) = true := by simpa using h3
            clear hat hdec hin hr hk0 h3 hnm
            go_wp2_with fail
            go_quiet ((go_at_call 49; exact Calls.quiet_of_same (HL.out _)))
            go_wp2
            refine bodyPost_ret (v := .tuple #[.agg #[.slice none 0 0, .slice none 0 0, .slice none 0 0], .bool false]) (by simp [results, Try.results18, go_sem, *]) rfl (crTo_no HE.out ?_)
            exact (((below_drewN T.out.dk.bel _).setCell (p := ⟨w.heap.size + 1, 0, none⟩) (by simp) _).setCell (p := ⟨w.heap.size + 1, 1, none⟩) (by simp) _).setCell (p := ⟨w.heap.size + 1, 2, none⟩) (by simp) _
          · have HU2 : Hid (keepUp ks os.length (k + 1) = true) := by show _ = _; rw [keepUp_succ, HU.out, hat, hnm, ← hdec, hin, decide_eq_true (p := ks[k - 1]'(by omega) < ks[k]) (by omega)]; simp
            have d3 : decide (ks[k] ≤ ks[k - 1]'(by omega)) = false := by simpa using h3
            clear hat hdec hin hr hk0 h3 hnm
            go_wp2_with fail
            go_quiet ((go_at_call 49; exact Calls.quiet_of_same (HL.out _)))
            go_wp2
            go_roundw
            case rel => exact ⟨k + 1, by omega, by go_num, HU2, T.out.later (below_drewN (Below.refl _ _) _)⟩
            case measure => simp [intOf]; omega
    · obtain rfl : k = ks.length := by omega
      have HKB : Hid (keepB ks os.length = true) := HU.out
      clear hlt hk1 HU
      have HSB := HIDk (disk_safe HD.out)
      have HUS := HIDk (filesB_up HSB.out)
      have HF60 := HIDk (filesB_facts HSB.out)
      have HFM := HIDk (disk_form HD.out)
      have HCU := HIDk (fun k => crUp_right (t := tn) HKB.out HFM.out.1 HFO.out HUS.out.1 HUS.out.2 (fun f hf => (HF60.out.2 f hf).2) HF60.out.1 k)
      have hk200 : ks.length ≤ 200 := Nat.le_trans (keep_len HKB.out) HFM.out.2
      obtain ⟨v8, w8, hr8, hB8, hN8⟩ := appF (wr.alloc (.cells #[] 93)) adS capS ss (T.out.dk.safe.below ((Below.refl _ _).alloc (Nat.le_refl _) _)) hs (w.heap.size + 2) (by simp; omega) (.slice (some ⟨wr.heap.size, 0, none⟩) 0 0) (.inr ⟨_, rfl, heap_alloc_new _ _, hw2⟩) 30
      have HR8 := HIDk hr8
      have z18 : (wr.alloc (.cells #[] 93)).cell? ⟨w.heap.size, 1, none⟩ = some (.slice adS ss.length capS) := kept ((Below.refl _ _).alloc (Nat.le_refl _) _) (by omega) z1
      have hbb : Below wr.heap.size wr w8 := ((Below.refl _ _).alloc (Nat.le_refl _) _).trans (hB8.mono (by simp))
      have T8 := HIDk (T.out.later hbb)
      have HN8 : Hid (RF w8 (w.heap.size + 2) v8 ss) := newF hN8 (by simp; omega)
      clear hr8 hB8 hN8 hbb
      go_wp2_with (at_builtin; refine wpList_append_run rfl _ _ 30 30 rfl (.slice (some ⟨wr.heap.size, 0, none⟩) 0 0) (.slice adS ss.length capS) v8 w8 rfl rfl HR8.out ?_)
      obtain ⟨ad8, cap8, rfl, hc8, hs8, hf8⟩ := HN8.out
      clear HR8 T z18 z0 z1 z2 q0 q1 q2 qf hw2 HN8
      have HA : Hid (NowC w ss os ks tn 0 ss ad8 cap8 w8) := ⟨rfl, hc8, hs8, hf8⟩
      clear hc8 hs8 hf8
      go_wp2_with fail
      go_loopw [9, 10] (fun v i wr => ∃ (k : Nat) (fs : List Fl) (ad : Option Addr) (cap : Nat), k ≤ ks.length ∧ v = .slice ad fs.length cap ∧ i = .int .i64 (k : Int) ∧ Hid (NowC w ss os ks tn k fs ad cap wr) ∧ Hid (CrS w adL adS adO adK capL capS capO ls ss os ks wr)) (fun _ i _ => ks.length - (intOf i).toNat)
      case atStart => exact ⟨0, ss, ad8, cap8, Nat.zero_le _, rfl, rfl, HA, T8⟩
      case round =>
        obtain ⟨k, fs, ad, cap, hk1, rfl, rfl, HN, T⟩ := hrel
        obtain ⟨z0, z1, z2, q0, q1, q2, qf, hw2⟩ := T.out.bx
        by_cases hlt : k < ks.length
        · obtain ⟨h0, h1, -⟩ := keep_at HKB.out hlt
          obtain ⟨m, hm⟩ : ∃ m : Nat, numAt ks k = (m : Int) := ⟨(numAt ks k).toNat, by omega⟩
          have hmo : m < os.length := by omega
          obtain ⟨b, off, rfl, hbK, t0⟩ : ∃ b off, adK = some ⟨b, off, none⟩ ∧ b < wr.heap.size ∧ wr.cell? ⟨b, off + k, none⟩ = some (.int .i64 (m : Int)) := by
            rcases T.out.sl with h | ⟨b, off, e, hb, hr⟩
            · rw [h] at hlt; simp at hlt
            · exact ⟨b, off, e, hb, by rw [hr k hlt, ← hm, numAt_get hlt]⟩
          obtain ⟨bo, oo, rfl, hbO, hro⟩ : ∃ b off, adO = some ⟨b, off, none⟩ ∧ b < wr.heap.size ∧ AtO wr b (off + m * 4) os[m] := by
            rcases T.out.dk.ops with hnil | ⟨b, off, e, hbO, hr⟩
            · rw [hnil] at hmo; simp at hmo
            · exact ⟨b, off, e, hbO, hr m hmo⟩
          have HM := HIDk hm
          clear h0 h1 hm
          obtain ⟨o0, o1, o2, o3⟩ := hro
          have k0 : (0 : Int) ≤ (k : Int) := by omega
          have k1 : (k : Int) < (ks.length : Int) := by omega
          have hw0 : w.heap.size < wr.heap.size := by omega
          have m0 : (0 : Int) ≤ (m : Int) := by omega
          have m1 : (m : Int) < (os.length : Int) := by omega
          obtain ⟨X, hX⟩ : ∃ X, X = (wr.alloc (.cells #[.int .i64 os[m].k, .string os[m].n, .string os[m].t, .string os[m].d] 37)).drew := ⟨_, rfl⟩
          have HBX : Hid (Below wr.heap.size wr X) := by rw [hX]; exact ((Below.refl _ _).alloc (Nat.le_refl _) _).drew
          have HX4 : Hid (X.cell? ⟨wr.heap.size, 0, none⟩ = some (.int .i64 os[m].k) ∧ X.cell? ⟨wr.heap.size, 1, none⟩ = some (.string os[m].n) ∧ X.cell? ⟨wr.heap.size, 2, none⟩ = some (.string os[m].t) ∧ X.cell? ⟨wr.heap.size, 3, none⟩ = some (.string os[m].d) ∧ ∀ i, X.frozen? ⟨wr.heap.size, i, none⟩ = false) := by
            rw [hX]; refine ⟨?_, ?_, ?_, ?_, ?_⟩ <;> simp
          go_wp2_with fail
          go_region
          rw [← hX]
          clear hX o0 o1 o2 o3 t0 z0 z1 z2 q0 q1 q2 qf
          obtain ⟨x0, x1, x2, x3, xf⟩ := HX4.out
          obtain ⟨-, -, c3, c4⟩ := HCU.out k hk1
          have HFZ : Hid (∀ f ∈ fs, f.d.size + os[m].d.size ≤ 1073741824) := fun f hf => by
            have h1 := c3 f (by rw [← HN.out.eq]; exact hf)
            have h2 := (HFO.out _ (List.getElem_mem hmo)).2.2
            omega
          have hfl : fs.length ≤ 1048576 := by rw [HN.out.eq]; omega
          have hok := HFM.out.1 _ (List.getElem_mem hmo)
          have hsm := (HFO.out _ (List.getElem_mem hmo)).2.2
          clear c3 c4 HX4
          by_cases hlast : k + 1 = ks.length
          · have b1 : ((k : Int) == (ks.length : Int) - 1) = true := by simp; omega
            have b2 : decide ((k : Int) = (ks.length : Int) - 1) = true := by simp; omega
            by_cases h1 : os[m].k = 1
            · have b3 : (os[m].k == 1) = true := by simpa using h1
              have b4 : decide (os[m].k = 1) = true := by simpa using h1
              by_cases h2 : tn < os[m].d.size
              · have b5 : decide ((tn : Int) < (os[m].d.size : Int)) = true := by simp; omega
                have b6 : decide (tn < os[m].d.size) = true := by simpa using h2
                have HKO := HIDk (keptO_torn (t := tn) HM.out hmo hlast (by omega))
                have t5 : (tn : Int) ≤ (os[m].d.size : Int) := by omega
                have t6 : (0 : Int) ≤ (tn : Int) := by omega
                obtain ⟨Y, hY⟩ : ∃ Y, Y = X.setCell ⟨wr.heap.size, 3, none⟩ (.string (os[m].d.extract 0 tn)) := ⟨_, rfl⟩
                have HBY : Hid (Below wr.heap.size wr Y) := by rw [hY]; exact HBX.out.setCell (p := ⟨wr.heap.size, 3, none⟩) (Nat.le_refl _) _
                have y0 : Y.cell? ⟨wr.heap.size, 0, none⟩ = some (.int .i64 os[m].k) := by rw [hY, setO' (by omega)]; exact x0
                have y1 : Y.cell? ⟨wr.heap.size, 1, none⟩ = some (.string os[m].n) := by rw [hY, setO' (by omega)]; exact x1
                have y2 : Y.cell? ⟨wr.heap.size, 2, none⟩ = some (.string os[m].t) := by rw [hY, setO' (by omega)]; exact x2
                have y3 : Y.cell? ⟨wr.heap.size, 3, none⟩ = some (.string (os[m].d.extract 0 tn)) := by rw [hY]; exact setS' x3
                clear h1 h2 hlast
                rw [hY] at y0 y1 y2 y3
                go_wp2_with fail
                rw [← hY]
                clear hY y0 y1 y2 y3
                refine (l8Do_any ad cap fs ⟨os[m].k, os[m].n, os[m].t, os[m].d.extract 0 tn⟩ _ hfl (HN.out.sl.below HBY.out) HN.out.nil (fun f hf => by have := HFZ.out f hf; simp only [ByteArray.size_extract]; unfold maxLen; omega)).mono ?_
                rintro e w5 ⟨v5, rfl, hown5, hb5⟩
                obtain ⟨adN, capN, rfl, hcN, hsN, hfN⟩ := own_filesF hown5 rfl
                have hbT := (HBY.out).trans (hb5.mono (HBY.out).size)
                have T5 := HIDk (T.out.later hbT)
                have N5 : Hid (NowC w ss os ks tn (k + 1) (doF fs ⟨os[m].k, os[m].n, os[m].t, os[m].d.extract 0 tn⟩).1 adN capN w5) := ⟨by rw [crUp, ← HN.out.eq, HKO.out], hcN, hsN, hfN.mono (by have := (HBY.out).size; omega)⟩
                clear hbT hown5 hb5 hcN hsN hfN HN T
                go_wp2
                go_roundw
                case rel => exact ⟨k + 1, _, adN, capN, by omega, rfl, by go_num, N5, T5⟩
                case measure => simp [intOf]; omega
              · have b5 : decide ((tn : Int) < (os[m].d.size : Int)) = false := by simp; omega
                have b6 : decide (tn < os[m].d.size) = false := by simp; omega
                have HKO : Hid (keptO os ks tn k = os[m]) := keptO_same HM.out hmo (.inr (.inr (by omega)))
                clear h1 h2 hlast
                go_wp2_with fail
                refine (l8Do_any ad cap fs os[m] _ hfl (HN.out.sl.below HBX.out) HN.out.nil (fun f hf => by have := HFZ.out f hf; unfold maxLen; omega)).mono ?_
                rintro e w5 ⟨v5, rfl, hown5, hb5⟩
                obtain ⟨adN, capN, rfl, hcN, hsN, hfN⟩ := own_filesF hown5 rfl
                have hbT := (HBX.out).trans (hb5.mono (HBX.out).size)
                have T5 := HIDk (T.out.later hbT)
                have N5 : Hid (NowC w ss os ks tn (k + 1) (doF fs os[m]).1 adN capN w5) := ⟨by rw [crUp, ← HN.out.eq, HKO.out], hcN, hsN, hfN.mono (by have := (HBX.out).size; omega)⟩
                clear hbT hown5 hb5 hcN hsN hfN HN T
                go_wp2
                go_roundw
                case rel => exact ⟨k + 1, _, adN, capN, by omega, rfl, by go_num, N5, T5⟩
                case measure => simp [intOf]; omega
            · have b3 : (os[m].k == 1) = false := by simpa using h1
              have b4 : decide (os[m].k = 1) = false := by simpa using h1
              have HKO : Hid (keptO os ks tn k = os[m]) := keptO_same HM.out hmo (.inr (.inl ⟨hok, h1⟩))
              clear h1 hlast
              go_wp2_with fail
              refine (l8Do_any ad cap fs os[m] _ hfl (HN.out.sl.below HBX.out) HN.out.nil (fun f hf => by have := HFZ.out f hf; unfold maxLen; omega)).mono ?_
              rintro e w5 ⟨v5, rfl, hown5, hb5⟩
              obtain ⟨adN, capN, rfl, hcN, hsN, hfN⟩ := own_filesF hown5 rfl
              have hbT := (HBX.out).trans (hb5.mono (HBX.out).size)
              have T5 := HIDk (T.out.later hbT)
              have N5 : Hid (NowC w ss os ks tn (k + 1) (doF fs os[m]).1 adN capN w5) := ⟨by rw [crUp, ← HN.out.eq, HKO.out], hcN, hsN, hfN.mono (by have := (HBX.out).size; omega)⟩
              clear hbT hown5 hb5 hcN hsN hfN HN T
              go_wp2
              go_roundw
              case rel => exact ⟨k + 1, _, adN, capN, by omega, rfl, by go_num, N5, T5⟩
              case measure => simp [intOf]; omega
          · have b1 : ((k : Int) == (ks.length : Int) - 1) = false := by simp; omega
            have b2 : decide ((k : Int) = (ks.length : Int) - 1) = false := by simp; omega
            have HKO : Hid (keptO os ks tn k = os[m]) := keptO_same HM.out hmo (.inl hlast)
            clear hlast
            go_wp2_with fail
            refine (l8Do_any ad cap fs os[m] _ hfl (HN.out.sl.below HBX.out) HN.out.nil (fun f hf => by have := HFZ.out f hf; unfold maxLen; omega)).mono ?_
            rintro e w5 ⟨v5, rfl, hown5, hb5⟩
            obtain ⟨adN, capN, rfl, hcN, hsN, hfN⟩ := own_filesF hown5 rfl
            have hbT := (HBX.out).trans (hb5.mono (HBX.out).size)
            have T5 := HIDk (T.out.later hbT)
            have N5 : Hid (NowC w ss os ks tn (k + 1) (doF fs os[m]).1 adN capN w5) := ⟨by rw [crUp, ← HN.out.eq, HKO.out], hcN, hsN, hfN.mono (by have := (HBX.out).size; omega)⟩
            clear hbT hown5 hb5 hcN hsN hfN HN T
            go_wp2
            go_roundw
            case rel => exact ⟨k + 1, _, adN, capN, by omega, rfl, by go_num, N5, T5⟩
            case measure => simp [intOf]; omega
        · obtain rfl : k = ks.length := by omega
          obtain ⟨c1, c2, c3, c4⟩ := HCU.out _ hk1
          rw [← HN.out.eq] at c1 c2 c3 c4
          have hfl : fs.length ≤ 1048576 := by omega
          have HFZ : Hid (∀ f ∈ fs, f.n.size ≤ maxLen ∧ f.d.size ≤ 1073741824) := fun f hf => ⟨Nat.le_trans (nm_le (c2 f hf)) (by unfold maxLen; omega), by have := c3 f hf; omega⟩
          clear c1 c2 c3 c4 z0 z1 z2 q0 q1 q2 qf hw2
          go_wp2_with fail
          refine (l8Files_wide ad cap fs wr hfl HN.out.sl HFZ.out).mono ?_
          rintro e w5 ⟨rfl, hb5⟩
          have T5 := HIDk (T.out.later hb5)
          have HS5 := HIDk (HN.out.sl.below hb5)
          have HF5 := HIDk (HN.out.fr.below hb5)
          clear hb5 T
          obtain ⟨z0, z1, z2, q0, q1, q2, qf, hw2⟩ := T5.out.bx
          cases hfb : filesB fs with
          | false =>
            have HE : Hid (crB ls ss os ks (tn : Int) = false) := by
              show _ = _; rw [crB, Int.toNat_natCast, ← HN.out.eq, hfb]; simp
            clear hfb
            go_wp2
            refine bodyPost_ret (v := .tuple #[.agg #[.slice none 0 0, .slice none 0 0, .slice none 0 0], .bool false]) (by simp [results, Try.results18, go_sem, *]) rfl (crTo_no HE.out ?_)
            exact ((T5.out.dk.bel.setCell (p := ⟨w.heap.size + 1, 0, none⟩) (by simp) _).setCell (p := ⟨w.heap.size + 1, 1, none⟩) (by simp) _).setCell (p := ⟨w.heap.size + 1, 2, none⟩) (by simp) _
          | true =>
            have HE : Hid (crB ls ss os ks (tn : Int) = true) := by
              show _ = _; rw [crB, Int.toNat_natCast, ← HN.out.eq, hfb, HD.out, HKB.out]; simp
            clear hfb
            have bal : Below w5.heap.size w5 (w5.alloc (.cells #[] 93)) := (Below.refl _ _).alloc (Nat.le_refl _) _
            obtain ⟨v8, w8, hr8, hB8, hN8⟩ := appF (w5.alloc (.cells #[] 93)) ad cap fs (HS5.out.below bal) hfl (w.heap.size + 2) (by simp; omega) (.slice (some ⟨w5.heap.size, 0, none⟩) 0 0) (.inr ⟨_, rfl, heap_alloc_new _ _, hw2⟩) 30
            have HR8 := HIDk hr8
            have hbb : Below w5.heap.size w5 w8 := bal.trans (hB8.mono (by simp))
            have HAP : Hid (fs ≠ [] → fs ≠ [] → (Value.slice ad fs.length cap).ownBlock ≠ v8.ownBlock) := fun hn _ => by
              obtain ⟨g, e, h1, h2, -⟩ := HF5.out hn
              refine (newF_apart hN8 hn ⟨g, by rw [e]; rfl, by simp; omega⟩).symm
            have HB8 := HIDk (T5.out.dk.bel.trans (hbb.mono T5.out.dk.bel.size))
            obtain ⟨-, -, -, r0, r1, r2, rf, -⟩ := T5.out.bx.later hbb
            obtain ⟨ad8, cap8, rfl, hc8, hs8, hf8⟩ : RF w8 (w.heap.size + 2) v8 fs := newF hN8 (by simp; omega)
            have HS8 := HIDk (HS5.out.below hbb)
            have HF8 := HIDk (HF5.out.below hbb)
            have HNIL := HIDk HN.out.nil
            have HEQ : Hid (fs = crUp ss os ks ((tn : Int)).toNat ks.length) := by show _ = _; rw [Int.toNat_natCast]; exact HN.out.eq
            have HO := HIDk (own_mk2 HS8.out hs8 HF8.out hf8 HAP.out)
            have HNl : Hid (Nils ad ad8 cap cap8) := ⟨hc8, HNIL.out⟩
            clear hr8 hB8 hN8 hbb bal T5 HS5 HF5 HN z0 z1 z2 q0 q1 q2 qf hw2 hc8 hs8 hf8 HAP HS8 HF8
            go_wp2_with (at_builtin; refine wpList_append_run rfl _ _ 30 30 rfl (.slice (some ⟨w5.heap.size, 0, none⟩) 0 0) (.slice ad fs.length cap) (.slice ad8 fs.length cap8) w8 rfl rfl HR8.out ?_)
            clear HR8
            go_wp2
            refine bodyPost_ret (v := .tuple #[.agg #[.slice ad fs.length cap, .slice ad8 fs.length cap8, .slice none 0 0], .bool true]) (by simp [results, Try.results18, go_sem, *]) rfl (crTo_yes HE.out HEQ.out ((own_box (own_box (own_box HO.out (by omega) _ _) (by omega) _ _) (by omega) _ _).mono (by omega)) HNl.out ?_)
            exact ((HB8.out.setCell (p := ⟨w.heap.size + 1, 0, none⟩) (by simp) _).setCell (p := ⟨w.heap.size + 1, 1, none⟩) (by simp) _).setCell (p := ⟨w.heap.size + 1, 2, none⟩) (by simp) _
end Go.Proofs.Ytbfimfmfdllejaa

/- The contract of the program's Crash. -/
namespace Go.Proofs.Ytbfimfmfdllejaa
open Go.ChangeShapes Go.WideShapes Go.ChangeAt Go.RowKit Go.Maps
set_option linter.unusedVariables false

/-- the folder behind the first k ops that are kept -/
structure NowG (ss : List Fl) (os : List Dop) (ks : List Int) (t k b : Nat) (fs : List Fl) (W : World) : Prop where
  eq : fs = crUp ss os ks t k
  fold : ∃ n M, n ≤ 60 + k ∧ Fold W b n M fs
theorem nowG_next {ss : List Fl} {os : List Dop} {ks : List Int} {t k b n : Nat} {fs gs : List Fl} {o : Dop} {f : Bool} {W : World} {M : ByteArray → Option Value} (he : fs = crUp ss os ks t k) (ho : o = keptO os ks t k) (hg : doF fs o = (gs, f)) (hn : n ≤ 60 + k) (hF : Fold W b (n + 1) M gs) : NowG ss os ks t (k + 1) b gs W :=
  ⟨by rw [crUp, ← he, ← ho, hg], n + 1, M, by omega, hF⟩
theorem keptO_last {os : List Dop} {ks : List Int} {t k m : Nat} (hm : numAt ks k = (m : Int)) (hlt : m < os.length) (hl : k + 1 = ks.length) : keptO os ks t k = ⟨os[m].k, os[m].n, os[m].t, os[m].d.extract 0 (min os[m].d.size t)⟩ := by
  have e : os.getD (numAt ks k).toNat noO = os[m] := by rw [hm, Int.toNat_natCast, List.getD_eq_getElem?_getD, List.getElem?_eq_getElem hlt]; rfl
  unfold keptO
  rw [e, if_pos hl, tearO]

set_option maxRecDepth 100000 in
set_option maxHeartbeats 16000000 in
theorem implCrash_any (adL adS adO adK : Option Addr) (capL capS capO capK : Nat) (ls ss : List Fl) (os : List Dop) (ks : List Int) (t : Int) (w : World) (hl : ls.length ≤ 1048576) (hs : ss.length ≤ 1048576) (ho : os.length ≤ 1048576) (hk : ks.length ≤ 1048576)
    (H : Dk w adL adS adO ls ss os w) (fl : ∀ f ∈ ls, f.n.size ≤ maxLen ∧ f.d.size ≤ 4194304) (fs' : ∀ f ∈ ss, f.n.size ≤ maxLen ∧ f.d.size ≤ 4194304) (fo : ∀ o ∈ os, o.small) (hK : SlK w adK ks) :
    Calls Try.prog 20 #[.agg #[.slice adL ls.length capL, .slice adS ss.length capS, .slice adO os.length capO], .slice adK ks.length capK, .int .i64 t] w (CrTo w (crL ls ss os ks t) (crB ls ss os ks t)) := by
  obtain ⟨W2, hW2⟩ : ∃ W2, W2 = (w.alloc (.cells #[.slice adL ls.length capL, .slice adS ss.length capS, .slice adO os.length capO] 33)).alloc (.cells #[.slice none 0 0, .slice none 0 0, .slice none 0 0] 33) := ⟨_, rfl⟩
  obtain ⟨z0, z1, z2, q0, q1, q2, qf, hw2⟩ := box2 w (.slice adL ls.length capL) (.slice adS ss.length capS) (.slice adO os.length capO) 33 33
  rw [← hW2] at z0 z1 z2 q0 q1 q2 qf hw2
  have hb2 : Below w.heap.size w W2 := by rw [hW2]; exact ((Below.refl _ _).alloc (Nat.le_refl _) _).alloc (by simp) _
  have T0 : Hid (CrS w adL adS adO adK capL capS capO ls ss os ks W2) := ⟨H.later hb2, ⟨z0, z1, z2, q0, q1, q2, qf, hw2⟩, hK.below hb2⟩
  have HFL := HIDk fl
  have HFS := HIDk fs'
  have HFO := HIDk fo
  clear H hb2 z0 z1 z2 q0 q1 q2 qf hw2 fl fs' fo hK
  go_enter Try.func20, Try.ntmps20
  go_wp2_with fail
  rw [← hW2]
  clear hW2
  refine (implDiskOk_any adL adS adO capL capS capO ls ss os W2 hl hs ho (dk_self T0.out.dk) HFL.out HFS.out HFO.out).mono ?_
  rintro e w1 ⟨rfl, hb1⟩
  have T1 := HIDk (T0.out.later hb1)
  clear hb1 T0
  obtain ⟨z0, z1, z2, q0, q1, q2, qf, hw2⟩ := T1.out.bx
  cases hd : diskB ls ss os with
  | false =>
    have HE : Hid (crB ls ss os ks t = false) := by show _ = _; rw [crB, hd]; rfl
    clear hd
    go_wp2
    refine bodyPost_ret (v := .tuple #[.agg #[.slice none 0 0, .slice none 0 0, .slice none 0 0], .bool false]) (by simp [results, Try.results20, go_sem, *]) rfl (crTo_no HE.out ?_)
    exact ((T1.out.dk.bel.setCell (p := ⟨w.heap.size + 1, 0, none⟩) (by simp) _).setCell (p := ⟨w.heap.size + 1, 1, none⟩) (by simp) _).setCell (p := ⟨w.heap.size + 1, 2, none⟩) (by simp) _
  | true =>
  have HD := HIDk hd
  clear hd
  go_wp2_with fail
  refine (keepOk_any adK capK ks os.length w1 hk T1.out.sl).mono ?_
  rintro e w2 ⟨rfl, hb2⟩
  have T2 := HIDk (T1.out.later hb2)
  clear hb2 T1 z0 z1 z2 q0 q1 q2 qf hw2
  obtain ⟨z0, z1, z2, q0, q1, q2, qf, hw2⟩ := T2.out.bx
  cases hkb : keepB ks os.length with
  | false =>
    have HE : Hid (crB ls ss os ks t = false) := by show _ = _; rw [crB, hkb]; simp
    clear hkb
    go_wp2
    refine bodyPost_ret (v := .tuple #[.agg #[.slice none 0 0, .slice none 0 0, .slice none 0 0], .bool false]) (by simp [results, Try.results20, go_sem, *]) rfl (crTo_no HE.out ?_)
    exact ((T2.out.dk.bel.setCell (p := ⟨w.heap.size + 1, 0, none⟩) (by simp) _).setCell (p := ⟨w.heap.size + 1, 1, none⟩) (by simp) _).setCell (p := ⟨w.heap.size + 1, 2, none⟩) (by simp) _
  | true =>
  have HKB := HIDk hkb
  clear hkb
  by_cases ht : t < 0
  · have HE : Hid (crB ls ss os ks t = false) := by show _ = _; rw [crB, decide_eq_false (p := 0 ≤ t) (by omega)]; simp
    have dt : decide (t < 0) = true := by simpa using ht
    clear ht
    go_wp2
    refine bodyPost_ret (v := .tuple #[.agg #[.slice none 0 0, .slice none 0 0, .slice none 0 0], .bool false]) (by simp [results, Try.results20, go_sem, *]) rfl (crTo_no HE.out ?_)
    exact ((T2.out.dk.bel.setCell (p := ⟨w.heap.size + 1, 0, none⟩) (by simp) _).setCell (p := ⟨w.heap.size + 1, 1, none⟩) (by simp) _).setCell (p := ⟨w.heap.size + 1, 2, none⟩) (by simp) _
  have dt : decide (t < 0) = false := by simpa using ht
  obtain ⟨tn, rfl⟩ : ∃ tn : Nat, t = (tn : Int) := ⟨t.toNat, by omega⟩
  clear ht
  have HSB := HIDk (disk_safe HD.out)
  have HUS := HIDk (filesB_up HSB.out)
  have HF60 := HIDk (filesB_facts HSB.out)
  have HSF : Hid (∀ f ∈ ss, f.n.size ≤ maxLen ∧ f.d.size ≤ maxLen) := fun f hf => ⟨(HF60.out.2 f hf).1, by have := (HF60.out.2 f hf).2; unfold maxLen; omega⟩
  have HFM := HIDk (disk_form HD.out)
  have HCU := HIDk (fun k => crUp_right (t := tn) HKB.out HFM.out.1 HFO.out HUS.out.1 HUS.out.2 (fun f hf => (HF60.out.2 f hf).2) HF60.out.1 k)
  have hk200 : ks.length ≤ 200 := Nat.le_trans (keep_len HKB.out) HFM.out.2
  go_wp2_with fail
  refine (folderOf_any adS capS ss w2 hs T2.out.dk.safe HSF.out HUS.out.1).mono ?_
  rintro e w3 ⟨rfl, ⟨M3, hF3⟩, hb3⟩
  have N3 : Hid (NowG ss os ks tn 0 w2.heap.size ss w3) := ⟨rfl, _, M3, by have := HF60.out.1; omega, hF3⟩
  have B3 := HIDk hb3
  clear hb3 hF3 z0 z1 z2 q0 q1 q2 qf
  go_wp2_with fail
  go_loopw [35] (fun i wr => ∃ (k : Nat) (fs : List Fl), k ≤ ks.length ∧ i = .int .i64 (k : Int) ∧ Hid (NowG ss os ks tn k w2.heap.size fs wr) ∧ Hid (Below w2.heap.size w2 wr)) (fun i _ => ks.length - (intOf i).toNat)
  case atStart => exact ⟨0, ss, Nat.zero_le _, rfl, N3, B3⟩
  case round =>
    clear N3 B3
    obtain ⟨k, fs, hk1, rfl, HN, HBW⟩ := hrel
    obtain ⟨z0, z1, z2, q0, q1, q2, qf, hw3⟩ := T2.out.bx.later HBW.out
    have HSZ := HIDk hw3
    clear hw3
    by_cases hlt : k < ks.length
    · obtain ⟨h0, h1, -⟩ := keep_at HKB.out hlt
      obtain ⟨m, hm⟩ : ∃ m : Nat, numAt ks k = (m : Int) := ⟨(numAt ks k).toNat, by omega⟩
      have hmo : m < os.length := by omega
      have HM := HIDk hm
      obtain ⟨b, off, rfl, t0⟩ : ∃ b off, adK = some ⟨b, off, none⟩ ∧ wr.cell? ⟨b, off + k, none⟩ = some (.int .i64 (m : Int)) := by
        rcases T2.out.sl.below HBW.out with h | ⟨b, off, e, hb, hr⟩
        · rw [h] at hlt; simp at hlt
        · exact ⟨b, off, e, by rw [hr k hlt, ← hm, numAt_get hlt]⟩
      obtain ⟨bo, oo, rfl, hro⟩ : ∃ b off, adO = some ⟨b, off, none⟩ ∧ AtO wr b (off + m * 4) os[m] := by
        rcases (T2.out.dk.later HBW.out).ops with hnil | ⟨b, off, e, hbO, hr⟩
        · rw [hnil] at hmo; simp at hmo
        · exact ⟨b, off, e, hr m hmo⟩
      clear h0 h1 hm
      obtain ⟨o0, o1, o2, o3⟩ := hro
      have k0 : (0 : Int) ≤ (k : Int) := by omega
      have k1 : (k : Int) < (ks.length : Int) := by omega
      have m0 : (0 : Int) ≤ (m : Int) := by omega
      have m1 : (m : Int) < (os.length : Int) := by omega
      have HKR := HIDk (kept_right (t := tn) HKB.out hlt HFM.out.1 HFO.out)
      have HR := HIDk (HCU.out k hk1)
      have hsm : os[m].d.size ≤ 2097152 := (HFO.out _ (List.getElem_mem hmo)).2.2
      obtain ⟨n, M, hn, hFd⟩ := HN.out.fold
      have HFd := HIDk hFd
      have hnm : n < maxLen := by unfold maxLen; omega
      clear hFd
      by_cases hlast : k + 1 = ks.length
      · have b1 : ((k : Int) == (ks.length : Int) - 1) = true := by simp; omega
        have b2 : decide ((k : Int) = (ks.length : Int) - 1) = true := by simp; omega
        have n0 : (0 : Int) ≤ min (os[m].d.size : Int) (tn : Int) := by omega
        have n1 : min (os[m].d.size : Int) (tn : Int) ≤ (os[m].d.size : Int) := by omega
        have n2 : (min (os[m].d.size : Int) (tn : Int)).toNat = min os[m].d.size tn := by omega
        obtain ⟨X, hX⟩ : ∃ X, X = wr.alloc (.cells #[.int .i64 os[m].k, .string os[m].n, .string os[m].t, .string (os[m].d.extract 0 (min os[m].d.size tn))] 37) := ⟨_, rfl⟩
        have HBX : Hid (Below wr.heap.size wr X) := by rw [hX]; exact (Below.refl _ _).alloc (Nat.le_refl _) _
        obtain ⟨o, hoo⟩ : ∃ o : Dop, o = ⟨os[m].k, os[m].n, os[m].t, os[m].d.extract 0 (min os[m].d.size tn)⟩ := ⟨_, rfl⟩
        have HKO : Hid (o = keptO os ks tn k) := by show _ = _; rw [hoo]; exact (keptO_last (t := tn) HM.out hmo hlast).symm
        have HOF : Hid (formB o = true ∧ o.small) := by have := HKR.out; rw [← HKO.out] at this; exact this
        have HOP : Hid (Calls Try.prog 53 #[.agg #[.int .i64 os[m].k, .string os[m].n, .string os[m].t, .string (os[m].d.extract 0 (min os[m].d.size tn))]] X (OpPost o X)) := by
          have := opOf_any o X (small_fits HOF.out.2)
          rw [hoo] at this ⊢
          exact this
        clear hlast hoo
        go_wp2_with fail
        rw [← hX]
        clear hX o0 o1 o2 o3 t0 z0 z1 z2 q0 q1 q2 qf
        refine HOP.out.mono ?_
        rintro e w5 ⟨⟨v, rfl, hv⟩, hb5⟩
        obtain rfl := hv HOF.out.1
        rw [HOF.out.1]
        have hbT := HBX.out.trans (hb5.mono HBX.out.size)
        have H2 := HIDk (HFd.out.below hbT)
        have HB1 := HIDk (HBW.out.trans (hbT.mono HBW.out.size))
        have HFT := HIDk (small_fits HOF.out.2)
        have HDD : Hid ((dataF fs o.n).size + o.d.size ≤ 140737488355328) := by
          have h1 := dataF_le (B := 200000 + k * 2097152) (fun f hf => HR.out.2.2.1 f (by rw [← HN.out.eq]; exact hf)) o.n
          have h2 := HOF.out.2.2.2
          show _ ≤ _
          omega
        have HUF : Hid (UpL fs) := by show UpL fs; rw [HN.out.eq]; exact HR.out.1
        clear hv hb5 hbT HOP HBX HFd HBW
        by_cases kk1 : o.k = 1
        · have hv : opV o = .iface 119 (.agg #[.string o.n, .string o.d]) := by rw [opV, if_pos kk1]
          have HG := HIDk (doF_add fs kk1)
          rw [hv]
          clear hv kk1
          go_wp2_with fail
          rw [meth_fa (h := ?_)]
          rotate_left
          · kernel_rfl
          go_wp2_with fail
          refine (findsAdd_any o w2.heap.size w5).mono ?_
          rintro e w6 ⟨rfl, hb6⟩
          have H3 := HIDk (H2.out.below hb6)
          have HB2 := HIDk (HB1.out.trans (hb6.mono (Nat.le_of_lt H2.out.lt)))
          clear H2 HB1 hb6
          go_wp2_with fail
          rw [meth_da (h := ?_)]
          rotate_left
          · kernel_rfl
          go_wp2_with fail
          refine (doAdd_any o w2.heap.size n M fs w6 HFT.out.1 hnm HUF.out H3.out HDD.out).mono ?_
          rintro e w7 ⟨⟨v7, rfl⟩, ⟨M7, h7⟩, hb7⟩
          have N7 := HIDk (nowG_next HN.out.eq HKO.out HG.out hn h7)
          have B7 := HIDk (HB2.out.trans hb7)
          clear h7 hb7 HB2 H3
          go_wp2
          go_roundw
          case rel => exact ⟨k + 1, _, by omega, by go_num, N7, B7⟩
          case measure => simp [intOf]; omega
        · by_cases kk2 : o.k = 2
          · have hv : opV o = .iface 121 (.agg #[.string o.n, .string o.t]) := by rw [opV, if_neg kk1, if_pos kk2]
            rw [hv]
            clear hv
            go_wp2_with fail
            rw [meth_fn (h := ?_)]
            rotate_left
            · kernel_rfl
            go_wp2_with fail
            refine (findsRen_any o w2.heap.size n M fs w5 HFT.out.1 H2.out).mono ?_
            rintro e w6 ⟨rfl, hb6⟩
            have H3 := HIDk (H2.out.below hb6)
            have HB2 := HIDk (HB1.out.trans (hb6.mono (Nat.le_of_lt H2.out.lt)))
            clear H2 HB1 hb6
            cases hh : hasF fs o.n with
            | false =>
              have HG := HIDk (doF_none fs kk1 hh)
              have N7 := HIDk (nowG_next HN.out.eq HKO.out HG.out hn (H3.out.mono (Nat.le_succ n)))
              clear kk1 kk2 hh H3
              go_wp2
              go_roundw
              case rel => exact ⟨k + 1, _, by omega, by go_num, N7, HB2⟩
              case measure => simp [intOf]; omega
            | true =>
              have HG := HIDk (doF_ren fs kk2 hh)
              clear kk1 kk2 hh
              go_wp2_with fail
              rw [meth_dn (h := ?_)]
              rotate_left
              · kernel_rfl
              go_wp2_with fail
              refine (doRen_any o w2.heap.size n M fs w6 HFT.out.1 HFT.out.2.1 hnm HUF.out H3.out).mono ?_
              rintro e w7 ⟨⟨v7, rfl⟩, ⟨M7, h7⟩, hb7⟩
              have N7 := HIDk (nowG_next HN.out.eq HKO.out HG.out hn h7)
              have B7 := HIDk (HB2.out.trans hb7)
              clear h7 hb7 HB2 H3
              go_wp2
              go_roundw
              case rel => exact ⟨k + 1, _, by omega, by go_num, N7, B7⟩
              case measure => simp [intOf]; omega
          · have hv : opV o = .iface 123 (.agg #[.string o.n]) := by rw [opV, if_neg kk1, if_neg kk2]
            rw [hv]
            clear hv
            go_wp2_with fail
            rw [meth_fm (h := ?_)]
            rotate_left
            · kernel_rfl
            go_wp2_with fail
            refine (findsRem_any o w2.heap.size n M fs w5 HFT.out.1 H2.out).mono ?_
            rintro e w6 ⟨rfl, hb6⟩
            have H3 := HIDk (H2.out.below hb6)
            have HB2 := HIDk (HB1.out.trans (hb6.mono (Nat.le_of_lt H2.out.lt)))
            clear H2 HB1 hb6
            cases hh : hasF fs o.n with
            | false =>
              have HG := HIDk (doF_none fs kk1 hh)
              have N7 := HIDk (nowG_next HN.out.eq HKO.out HG.out hn (H3.out.mono (Nat.le_succ n)))
              clear kk1 kk2 hh H3
              go_wp2
              go_roundw
              case rel => exact ⟨k + 1, _, by omega, by go_num, N7, HB2⟩
              case measure => simp [intOf]; omega
            | true =>
              have HG := HIDk (doF_rem fs kk1 kk2 hh)
              clear kk1 kk2 hh
              go_wp2_with fail
              rw [meth_dm (h := ?_)]
              rotate_left
              · kernel_rfl
              go_wp2_with fail
              refine (doRem_any o w2.heap.size n M fs w6 HFT.out.1 H3.out).mono ?_
              rintro e w7 ⟨⟨v7, rfl⟩, ⟨M7, h7⟩, hb7⟩
              have N7 := HIDk (nowG_next HN.out.eq HKO.out HG.out hn (h7.mono (Nat.le_succ n)))
              have B7 := HIDk (HB2.out.trans hb7)
              clear h7 hb7 HB2 H3
              go_wp2
              go_roundw
              case rel => exact ⟨k + 1, _, by omega, by go_num, N7, B7⟩
              case measure => simp [intOf]; omega
      · have b1 : ((k : Int) == (ks.length : Int) - 1) = false := by simp; omega
        have b2 : decide ((k : Int) = (ks.length : Int) - 1) = false := by simp; omega
        obtain ⟨X, hX⟩ : ∃ X, X = wr.alloc (.cells #[.int .i64 os[m].k, .string os[m].n, .string os[m].t, .string os[m].d] 37) := ⟨_, rfl⟩
        have HBX : Hid (Below wr.heap.size wr X) := by rw [hX]; exact (Below.refl _ _).alloc (Nat.le_refl _) _
        obtain ⟨o, hoo⟩ : ∃ o : Dop, o = os[m] := ⟨_, rfl⟩
        have HKO : Hid (o = keptO os ks tn k) := by show _ = _; rw [hoo]; exact (keptO_same HM.out hmo (.inl hlast)).symm
        have HOF : Hid (formB o = true ∧ o.small) := by have := HKR.out; rw [← HKO.out] at this; exact this
        have HOP : Hid (Calls Try.prog 53 #[.agg #[.int .i64 os[m].k, .string os[m].n, .string os[m].t, .string os[m].d]] X (OpPost o X)) := by
          have := opOf_any o X (small_fits HOF.out.2)
          rw [hoo] at this ⊢
          exact this
        clear hlast hoo
        go_wp2_with fail
        rw [← hX]
        clear hX o0 o1 o2 o3 t0 z0 z1 z2 q0 q1 q2 qf
        refine HOP.out.mono ?_
        rintro e w5 ⟨⟨v, rfl, hv⟩, hb5⟩
        obtain rfl := hv HOF.out.1
        rw [HOF.out.1]
        have hbT := HBX.out.trans (hb5.mono HBX.out.size)
        have H2 := HIDk (HFd.out.below hbT)
        have HB1 := HIDk (HBW.out.trans (hbT.mono HBW.out.size))
        have HFT := HIDk (small_fits HOF.out.2)
        have HDD : Hid ((dataF fs o.n).size + o.d.size ≤ 140737488355328) := by
          have h1 := dataF_le (B := 200000 + k * 2097152) (fun f hf => HR.out.2.2.1 f (by rw [← HN.out.eq]; exact hf)) o.n
          have h2 := HOF.out.2.2.2
          show _ ≤ _
          omega
        have HUF : Hid (UpL fs) := by show UpL fs; rw [HN.out.eq]; exact HR.out.1
        clear hv hb5 hbT HOP HBX HFd HBW
        by_cases kk1 : o.k = 1
        · have hv : opV o = .iface 119 (.agg #[.string o.n, .string o.d]) := by rw [opV, if_pos kk1]
          have HG := HIDk (doF_add fs kk1)
          rw [hv]
          clear hv kk1
          go_wp2_with fail
          rw [meth_fa (h := ?_)]
          rotate_left
          · kernel_rfl
          go_wp2_with fail
          refine (findsAdd_any o w2.heap.size w5).mono ?_
          rintro e w6 ⟨rfl, hb6⟩
          have H3 := HIDk (H2.out.below hb6)
          have HB2 := HIDk (HB1.out.trans (hb6.mono (Nat.le_of_lt H2.out.lt)))
          clear H2 HB1 hb6
          go_wp2_with fail
          rw [meth_da (h := ?_)]
          rotate_left
          · kernel_rfl
          go_wp2_with fail
          refine (doAdd_any o w2.heap.size n M fs w6 HFT.out.1 hnm HUF.out H3.out HDD.out).mono ?_
          rintro e w7 ⟨⟨v7, rfl⟩, ⟨M7, h7⟩, hb7⟩
          have N7 := HIDk (nowG_next HN.out.eq HKO.out HG.out hn h7)
          have B7 := HIDk (HB2.out.trans hb7)
          clear h7 hb7 HB2 H3
          go_wp2
          go_roundw
          case rel => exact ⟨k + 1, _, by omega, by go_num, N7, B7⟩
          case measure => simp [intOf]; omega
        · by_cases kk2 : o.k = 2
          · have hv : opV o = .iface 121 (.agg #[.string o.n, .string o.t]) := by rw [opV, if_neg kk1, if_pos kk2]
            rw [hv]
            clear hv
            go_wp2_with fail
            rw [meth_fn (h := ?_)]
            rotate_left
            · kernel_rfl
            go_wp2_with fail
            refine (findsRen_any o w2.heap.size n M fs w5 HFT.out.1 H2.out).mono ?_
            rintro e w6 ⟨rfl, hb6⟩
            have H3 := HIDk (H2.out.below hb6)
            have HB2 := HIDk (HB1.out.trans (hb6.mono (Nat.le_of_lt H2.out.lt)))
            clear H2 HB1 hb6
            cases hh : hasF fs o.n with
            | false =>
              have HG := HIDk (doF_none fs kk1 hh)
              have N7 := HIDk (nowG_next HN.out.eq HKO.out HG.out hn (H3.out.mono (Nat.le_succ n)))
              clear kk1 kk2 hh H3
              go_wp2
              go_roundw
              case rel => exact ⟨k + 1, _, by omega, by go_num, N7, HB2⟩
              case measure => simp [intOf]; omega
            | true =>
              have HG := HIDk (doF_ren fs kk2 hh)
              clear kk1 kk2 hh
              go_wp2_with fail
              rw [meth_dn (h := ?_)]
              rotate_left
              · kernel_rfl
              go_wp2_with fail
              refine (doRen_any o w2.heap.size n M fs w6 HFT.out.1 HFT.out.2.1 hnm HUF.out H3.out).mono ?_
              rintro e w7 ⟨⟨v7, rfl⟩, ⟨M7, h7⟩, hb7⟩
              have N7 := HIDk (nowG_next HN.out.eq HKO.out HG.out hn h7)
              have B7 := HIDk (HB2.out.trans hb7)
              clear h7 hb7 HB2 H3
              go_wp2
              go_roundw
              case rel => exact ⟨k + 1, _, by omega, by go_num, N7, B7⟩
              case measure => simp [intOf]; omega
          · have hv : opV o = .iface 123 (.agg #[.string o.n]) := by rw [opV, if_neg kk1, if_neg kk2]
            rw [hv]
            clear hv
            go_wp2_with fail
            rw [meth_fm (h := ?_)]
            rotate_left
            · kernel_rfl
            go_wp2_with fail
            refine (findsRem_any o w2.heap.size n M fs w5 HFT.out.1 H2.out).mono ?_
            rintro e w6 ⟨rfl, hb6⟩
            have H3 := HIDk (H2.out.below hb6)
            have HB2 := HIDk (HB1.out.trans (hb6.mono (Nat.le_of_lt H2.out.lt)))
            clear H2 HB1 hb6
            cases hh : hasF fs o.n with
            | false =>
              have HG := HIDk (doF_none fs kk1 hh)
              have N7 := HIDk (nowG_next HN.out.eq HKO.out HG.out hn (H3.out.mono (Nat.le_succ n)))
              clear kk1 kk2 hh H3
              go_wp2
              go_roundw
              case rel => exact ⟨k + 1, _, by omega, by go_num, N7, HB2⟩
              case measure => simp [intOf]; omega
            | true =>
              have HG := HIDk (doF_rem fs kk1 kk2 hh)
              clear kk1 kk2 hh
              go_wp2_with fail
              rw [meth_dm (h := ?_)]
              rotate_left
              · kernel_rfl
              go_wp2_with fail
              refine (doRem_any o w2.heap.size n M fs w6 HFT.out.1 H3.out).mono ?_
              rintro e w7 ⟨⟨v7, rfl⟩, ⟨M7, h7⟩, hb7⟩
              have N7 := HIDk (nowG_next HN.out.eq HKO.out HG.out hn (h7.mono (Nat.le_succ n)))
              have B7 := HIDk (HB2.out.trans hb7)
              clear h7 hb7 HB2 H3
              go_wp2
              go_roundw
              case rel => exact ⟨k + 1, _, by omega, by go_num, N7, B7⟩
              case measure => simp [intOf]; omega
    · obtain rfl : k = ks.length := by omega
      obtain ⟨c1, c2, c3, c4⟩ := HCU.out _ hk1
      rw [← HN.out.eq] at c1 c2 c3 c4
      obtain ⟨n, M, hn, hFd⟩ := HN.out.fold
      have HFd := HIDk hFd
      have HFB := HIDk (filesB_eq c1 c2)
      have HUP := HIDk c1
      have hfl : fs.length ≤ 1048576 := by omega
      have HFZ : Hid (∀ f ∈ fs, f.n.size ≤ maxLen) := fun f hf => Nat.le_trans (nm_le (c2 f hf)) (by unfold maxLen; omega)
      have HWL := HIDk (withinLimits_any w2.heap.size n M fs wr hFd c1 HFZ.out (fun f hf => by have := c3 f hf; omega) hfl)
      have HBE := HIDk (T2.out.dk.bel.trans (HBW.out.mono T2.out.dk.bel.size))
      clear c1 c2 c3 c4 hFd
      go_wp2_with fail
      refine HWL.out.mono ?_
      rw [← HFB.out]
      rintro e w5 ⟨rfl, hb5⟩
      have hw5 := hb5.size
      have T5 := HIDk ((T2.out.later HBW.out).later hb5)
      have F5 := HIDk (HFd.out.below hb5)
      clear HWL hb5 z0 z1 z2 q0 q1 q2 qf HSZ
      obtain ⟨z0, z1, z2, q0, q1, q2, qf, hw3⟩ := T5.out.bx
      cases hfb : filesB fs with
      | false =>
        have HE : Hid (crB ls ss os ks (tn : Int) = false) := by
          show _ = _; rw [crB, Int.toNat_natCast, ← HN.out.eq, hfb]; simp
        clear hfb
        go_wp2
        refine bodyPost_ret (v := .tuple #[.agg #[.slice none 0 0, .slice none 0 0, .slice none 0 0], .bool false]) (by simp [results, Try.results20, go_sem, *]) rfl (crTo_no HE.out ?_)
        exact ((T5.out.dk.bel.setCell (p := ⟨w.heap.size + 1, 0, none⟩) (by simp) _).setCell (p := ⟨w.heap.size + 1, 1, none⟩) (by simp) _).setCell (p := ⟨w.heap.size + 1, 2, none⟩) (by simp) _
      | true =>
        have HE : Hid (crB ls ss os ks (tn : Int) = true) := by
          show _ = _; rw [crB, Int.toNat_natCast, ← HN.out.eq, hfb, HD.out, HKB.out]; simp
        have HEQ : Hid (fs = crUp ss os ks ((tn : Int)).toNat ks.length) := by show _ = _; rw [Int.toNat_natCast]; exact HN.out.eq
        clear hfb
        go_wp2_with fail
        refine (list_any w2.heap.size n M fs w5 F5.out HUP.out HFZ.out hfl).mono ?_
        rintro e w6 ⟨v6, rfl, hown6, hb6⟩
        obtain ⟨ad6, cap6, rfl, -, hs6, -⟩ := own_filesF hown6 rfl
        have HS6 := HIDk hs6
        have T6 := HIDk (T5.out.later hb6)
        clear hown6 hb6 hs6 T5 F5 z0 z1 z2 q0 q1 q2 qf hw3
        go_wp2_with fail
        refine (syncedDisk_any ad6 cap6 fs w6 HS6.out hfl).mono ?_
        rintro e w7 ⟨v7, rfl, ⟨a1, a2, a3, p1, p2, p3, rfl, hS, hcS⟩, hb7⟩
        have T7 := HIDk (T6.out.later hb7)
        have HS := HIDk (hS.mono (b' := w.heap.size + 2) T6.out.bx.sz)
        have HNl := HIDk hcS
        obtain ⟨-, -, -, q0, q1, q2, qf, hw3⟩ := T7.out.bx
        clear hS hb7 hcS T6 HS6
        go_wp2
        refine bodyPost_ret (v := .tuple #[.agg #[.slice a1 fs.length p1, .slice a2 fs.length p2, .slice a3 0 p3], .bool true]) (by simp [results, Try.results20, go_sem, *]) rfl (crTo_yes HE.out HEQ.out ((own_box (own_box (own_box HS.out (by omega) _ _) (by omega) _ _) (by omega) _ _).mono (by omega)) HNl.out ?_)
        exact ((T7.out.dk.bel.setCell (p := ⟨w.heap.size + 1, 0, none⟩) (by simp) _).setCell (p := ⟨w.heap.size + 1, 1, none⟩) (by simp) _).setCell (p := ⟨w.heap.size + 1, 2, none⟩) (by simp) _
end Go.Proofs.Ytbfimfmfdllejaa

/- What the law of crashes asks, told plainly; drawn disks; the law's own comparison of files. -/
namespace Go.Proofs.Ytbfimfmfdllejaa
open Go.ChangeShapes Go.WideShapes Go.ChangeAt Go.RowKit Go.Maps
set_option linter.unusedVariables false

def upto (n : Nat) : List Int := (List.range n).map fun i : Nat => (i : Int)
theorem upto_len (n : Nat) : (upto n).length = n := by simp [upto]
theorem upto_at {n i : Nat} (h : i < n) : numAt (upto n) i = (i : Int) := by
  rw [numAt_get (by rw [upto_len]; exact h)]; simp [upto]
theorem upto_keep (n : Nat) : keepB (upto n) n = true := by
  rw [keepB, List.all_eq_true]
  intro i hi
  rw [upto_len] at hi
  have hi : i < n := by simpa using hi
  rw [keptAt, upto_at hi]
  simp only [Bool.and_eq_true, Bool.or_eq_true, decide_eq_true_eq]
  refine ⟨⟨by omega, by omega⟩, ?_⟩
  by_cases h0 : i = 0
  · exact .inl h0
  · right; rw [upto_at (by omega)]; omega
/-- all ops kept, whole: what was run -/
theorem crUp_all {ss : List Fl} {os : List Dop} {t : Nat} (hr : (runUp ss os os.length).isSome = true) (hs : ∀ o ∈ os, o.small) (ht : 2097152 ≤ t) : ∀ k, k ≤ os.length → runUp ss os k = some (crUp ss os (upto os.length) t k)
  | 0, _ => rfl
  | k + 1, hk => by
    have ih := crUp_all hr hs ht k (by omega)
    have hk' : k < os.length := by omega
    have ko : keptO os (upto os.length) t k = os[k] := keptO_same (upto_at hk') hk' (.inr (.inr (by have := (hs _ (List.getElem_mem hk')).2.2; omega)))
    cases e : runUp ss os (k + 1) with
    | none => rw [runUp_none e os.length (by omega) (Nat.le_refl _)] at hr; cases hr
    | some fs =>
      rw [runUp_succ ss os k hk', ih] at e
      simp only [Option.bind_some] at e
      split at e
      · rw [crUp, ko]; exact e.symm
      · cases e
theorem crash_all {ls ss : List Fl} {os : List Dop} (hd : diskB ls ss os = true) (hs : ∀ o ∈ os, o.small) : crB ls ss os (upto os.length) 1099511627776 = true ∧ crL ls ss os (upto os.length) 1099511627776 = ls := by
  have h := hd
  simp only [diskB, Bool.and_eq_true] at h
  cases hr : runUp ss os os.length with
  | none => rw [hr] at h; cases h.2
  | some fs =>
    rw [hr] at h
    have e := crUp_all (t := (1099511627776 : Int).toNat) (by rw [hr]; rfl) hs (by decide) os.length (Nat.le_refl _)
    rw [hr] at e
    injection e with e
    have e2 := sameB_iff h.2
    have hB : crB ls ss os (upto os.length) 1099511627776 = true := by
      rw [crB, hd, upto_keep, upto_len, ← e, e2, h.1.1.1]; rfl
    exact ⟨hB, by rw [crL, hB, upto_len, ← e, e2]; rfl⟩
theorem crash_none {ls ss : List Fl} {os : List Dop} (hd : diskB ls ss os = true) : crB ls ss os [] 0 = true ∧ crL ls ss os [] 0 = ss := by
  have hB : crB ls ss os [] 0 = true := by
    have := (diskB_facts hd).2.1
    rw [crB, hd]
    show (true && decide ((0 : Int) ≤ 0) && true && filesB ss) = true
    rw [this]; rfl
  exact ⟨hB, by rw [crL, hB]; rfl⟩
theorem crash_bad {ls ss : List Fl} {os : List Dop} {ks : List Int} {t : Int} (hd : diskB ls ss os = false) : crB ls ss os ks t = false ∧ crL ls ss os ks t = [] := by
  have hB : crB ls ss os ks t = false := by rw [crB, hd]; rfl
  exact ⟨hB, by rw [crL, hB]; rfl⟩
set_option maxHeartbeats 2000000 in
theorem sameFiles_any (ad ad' : Option Addr) (cap cap' : Nat) (xs ys : List Fl) (w : World) (hlen : xs.length ≤ 1048576) (hlen' : ys.length ≤ 1048576) (hs : SlF w ad xs) (hs' : SlF w ad' ys) :
    Calls Try.prog 28 #[.slice ad xs.length cap, .slice ad' ys.length cap'] w fun e w' => e = .returned (.bool (sameB xs ys)) ∧ Below w.heap.size w w' := by
  by_cases hl : xs.length = ys.length
  · have hb : ((xs.length : Int) == (ys.length : Int)) = true := by simp; omega
    go_enter Try.func28, Try.ntmps28
    go_wp2_with fail
    go_loopw [5] (fun i wr => ∃ k : Nat, k ≤ xs.length ∧ i = .int .i64 (k : Int) ∧ Hid (sameUp xs ys k = true) ∧ Hid (Below w.heap.size w wr)) (fun i _ => xs.length - (intOf i).toNat)
    case atStart => exact ⟨0, Nat.zero_le _, rfl, rfl, Below.refl _ _⟩
    case round =>
      obtain ⟨k, hk, rfl, HU, HBW⟩ := hrel
      by_cases hlt : k < xs.length
      · have hlt' : k < ys.length := by omega
        rcases hs.below HBW.out with rfl | ⟨b, off, rfl, hb1, hr⟩
        · simp at hlt
        rcases hs'.below HBW.out with rfl | ⟨b', off', rfl, hb2, hr'⟩
        · simp at hlt'
        obtain ⟨t0, t1⟩ := hr k hlt
        obtain ⟨r0, r1⟩ := hr' k hlt'
        have k0 : (0 : Int) ≤ (k : Int) := by omega
        have k1 : (k : Int) < (xs.length : Int) := by omega
        have k2 : (k : Int) < (ys.length : Int) := by omega
        have hst := sameAt_get hlt hlt'
        clear hr hr' hs hs'
        cases he : (xs[k].n.toList == ys[k].n.toList) with
        | false =>
          have HF : Hid (sameB xs ys = false) := same_bad hlt (by rw [hst, he]; rfl)
          clear hst
          go_wp2_with fail
          go_quiet (fail)
          go_wp2
          go_ret
          exact ⟨retB HF.out.symm, below_drewN HBW.out _⟩
        | true =>
          cases hd : (xs[k].d.toList == ys[k].d.toList) with
          | false =>
            have HF : Hid (sameB xs ys = false) := same_bad hlt (by rw [hst, he, hd]; rfl)
            clear hst
            go_wp2_with fail
            go_quiet (fail)
            go_wp2
            go_ret
            exact ⟨retB HF.out.symm, below_drewN HBW.out _⟩
          | true =>
            have HU2 : Hid (sameUp xs ys (k + 1) = true) := by show _ = _; rw [sameUp_succ, HU.out, hst, he, hd]; rfl
            clear hst
            go_wp2_with fail
            go_quiet (fail)
            go_wp2
            go_roundw
            case rel => exact ⟨k + 1, by omega, by go_num, HU2, below_drewN HBW.out _⟩
            case measure => simp [intOf]; omega
      · obtain rfl : k = xs.length := by omega
        have HT : Hid (sameB xs ys = true) := by show _ = _; rw [sameB_eq, HU.out, decide_eq_true hl]; rfl
        go_wp2
        go_ret
        exact ⟨retB HT.out.symm, HBW.out⟩
  · have HF : Hid (sameB xs ys = false) := by show _ = _; rw [sameB_eq, decide_eq_false hl]; rfl
    have hb : ((xs.length : Int) == (ys.length : Int)) = false := by simp; omega
    go_enter Try.func28, Try.ntmps28
    go_wp2
    go_ret
    exact ⟨retB HF.out.symm, Below.refl _ _⟩
/-- a drawn disk, for a law over bytes -/
def DrawD (w : World) (e : Ending) (w' : World) : Prop :=
  ∃ (a1 a2 a3 : Option Addr) (p1 p2 p3 : Nat) (ls ss : List Fl) (os : List Dop), e = .returned (.agg #[.slice a1 ls.length p1, .slice a2 ss.length p2, .slice a3 os.length p3]) ∧ Dk w' a1 a2 a3 ls ss os w' ∧ Nils a1 a2 p1 p2 ∧ (ls.length ≤ 61 ∧ ss.length ≤ 61 ∧ os.length ≤ 200) ∧ (∀ f ∈ ls, f.n.size ≤ maxLen ∧ f.d.size ≤ 4194304) ∧ (∀ f ∈ ss, f.n.size ≤ maxLen ∧ f.d.size ≤ 4194304) ∧ (∀ o ∈ os, o.small) ∧ Below w.heap.size w w'
set_option maxRecDepth 8000 in
set_option maxHeartbeats 2000000 in
theorem drawDisk_any (ad : Option Addr) (len cap : Nat) (w : World) (h : Bytes w ad len) :
    Calls Try.prog 24 #[.slice ad len cap] w (DrawD w) := by
  obtain ⟨W, hW⟩ : ∃ W, W = w.alloc (.cells #[.slice none 0 0, .slice none 0 0, .slice none 0 0] 33) := ⟨_, rfl⟩
  have hb : Below w.heap.size w W := by rw [hW]; exact (Below.refl _ _).alloc (Nat.le_refl _) _
  have C0 : Hid (Cn w.heap.size (.slice none 0 0) (.slice none 0 0) (.slice none 0 0) W ∧ Free W w.heap.size) := by rw [hW]; exact ⟨cn_new _ _ _ _ _, fun j => fz0 _ _ _ j⟩
  have H := HIDk (h.below hb)
  have HB := HIDk hb
  clear h hb
  go_enter Try.func24, Try.ntmps24
  go_wp2_with fail
  rw [← hW]
  clear hW
  refine (open_any ad len cap W H.out).mono ?_
  rintro e w1 ⟨rfl, hR1, hb1⟩
  have hlt := C0.out.1.lt
  have C1 : Hid (Cn w.heap.size (.slice none 0 0) (.slice none 0 0) (.slice none 0 0) w1 ∧ Free w1 w.heap.size) := ⟨C0.out.1.later hb1, fun j => keptF hb1 hlt (C0.out.2 j)⟩
  have HB1 := HIDk (HB.out.trans (hb1.mono HB.out.size))
  have R1 := HIDk hR1
  clear hR1 hb1 C0 HB
  go_wp2_with fail
  refine (disk_any W.heap.size ad len cap w1 R1.out).mono ?_
  rintro e w2 ⟨a1, a2, a3, p1, p2, p3, ls, ss, os, rfl, hD, hN, hl, fl, fs, fo, hR2, hO2, hfar⟩
  have hne : w.heap.size ≠ W.heap.size := by omega
  obtain ⟨l0, c0, c1, c2⟩ := C1.out.1.only hne hO2
  have cf : ∀ i, w2.frozen? ⟨w.heap.size, i, none⟩ = false := fun i => (hO2.frozen C1.out.1.lt hne).trans (C1.out.2 i)
  have HB2 : Hid (Below w.heap.size w w2) := Only.toBelow HB1.out hO2 HB1.out.size (by omega)
  have n1 : w.heap.size < w1.heap.size := C1.out.1.lt
  have HFIN : Hid (∀ x y z, DrawD w (.returned (.agg #[.slice a1 ls.length p1, .slice a2 ss.length p2, .slice a3 os.length p3])) (((w2.setCell ⟨w.heap.size, 0, none⟩ x).setCell ⟨w.heap.size, 1, none⟩ y).setCell ⟨w.heap.size, 2, none⟩ z)) := fun x y z => by
    have hc : Chg (fun y => y = w.heap.size) w2 (((w2.setCell ⟨w.heap.size, 0, none⟩ x).setCell ⟨w.heap.size, 1, none⟩ y).setCell ⟨w.heap.size, 2, none⟩ z) := ((Chg.set (S := fun y => y = w.heap.size) _ rfl).trans (Chg.set (S := fun y => y = w.heap.size) _ rfl)).trans (Chg.set (S := fun y => y = w.heap.size) _ rfl)
    exact ⟨a1, a2, a3, p1, p2, p3, ls, ss, os, rfl, ⟨Below.refl _ _, hD.live.chgd hc (fun hn g o e h => by have := hfar.1 hn g o e; omega), hD.safe.chgd hc (fun hn g o e h => by have := hfar.2.1 hn g o e; omega), hD.ops.chgd hc (fun hn g o e h => by have := hfar.2.2 hn g o e; omega)⟩, hN, hl, fl, fs, fo, ((HB2.out.setCell (p := ⟨w.heap.size, 0, none⟩) (by simp) _).setCell (p := ⟨w.heap.size, 1, none⟩) (by simp) _).setCell (p := ⟨w.heap.size, 2, none⟩) (by simp) _⟩
  clear hD hN hl fl fs fo hR2 hO2 hfar HB1 C1 R1 H
  go_wp2
  refine bodyPost_ret (v := .agg #[.slice a1 ls.length p1, .slice a2 ss.length p2, .slice a3 os.length p3]) (by simp [results, Try.results24, go_sem, *]) rfl (HFIN.out _ _ _)
end Go.Proofs.Ytbfimfmfdllejaa

/- Contract of the document's Replace. -/
namespace Go.Proofs.Ytbfimfmfdllejaa
open Go.ChangeShapes Go.WideShapes Go.ChangeAt Go.RowKit Go.Maps

/-- the boxes: the disk that came, the answer, the disk as it is now -/
structure BoxN (w : World) (m : Nat) (a b c x y z : Value) (W : World) : Prop where
  z0 : W.cell? ⟨w.heap.size, 0, none⟩ = some a
  z1 : W.cell? ⟨w.heap.size, 1, none⟩ = some b
  z2 : W.cell? ⟨w.heap.size, 2, none⟩ = some c
  q0 : W.cell? ⟨w.heap.size + 1, 0, none⟩ = some (.slice none 0 0)
  q1 : W.cell? ⟨w.heap.size + 1, 1, none⟩ = some (.slice none 0 0)
  q2 : W.cell? ⟨w.heap.size + 1, 2, none⟩ = some (.slice none 0 0)
  qf : ∀ i, W.frozen? ⟨w.heap.size + 1, i, none⟩ = false
  m0 : W.cell? ⟨m, 0, none⟩ = some x
  m1 : W.cell? ⟨m, 1, none⟩ = some y
  m2 : W.cell? ⟨m, 2, none⟩ = some z
  mf : ∀ i, W.frozen? ⟨m, i, none⟩ = false
  n2 : w.heap.size + 2 ≤ m
  sz : m < W.heap.size
theorem BoxN.later {w W W' : World} {m : Nat} {a b c x y z : Value} (h : BoxN w m a b c x y z W) (hB : Below W.heap.size W W') : BoxN w m a b c x y z W' := by
  obtain ⟨z0, z1, z2, q0, q1, q2, qf, m0, m1, m2, mf, n2, sz⟩ := h
  exact ⟨kept hB (by omega) z0, kept hB (by omega) z1, kept hB (by omega) z2, kept hB (by omega) q0, kept hB (by omega) q1, kept hB (by omega) q2, fun i => keptF hB (by omega) (qf i), kept hB (by omega) m0, kept hB (by omega) m1, kept hB (by omega) m2, fun i => keptF hB (by omega) (mf i), n2, Nat.lt_of_lt_of_le sz hB.size⟩
theorem BoxN.set {w W : World} {m : Nat} {a b c x y z : Value} (h : BoxN w m a b c x y z W) (x' y' z' : Value) : BoxN w m a b c x' y' z' (((W.setCell ⟨m, 0, none⟩ x').setCell ⟨m, 1, none⟩ y').setCell ⟨m, 2, none⟩ z') := by
  obtain ⟨z0, z1, z2, q0, q1, q2, qf, m0, m1, m2, mf, n2, sz⟩ := h
  have o : ∀ {g i : Nat} {v : Value}, g ≠ m → W.cell? ⟨g, i, none⟩ = some v → (((W.setCell ⟨m, 0, none⟩ x').setCell ⟨m, 1, none⟩ y').setCell ⟨m, 2, none⟩ z').cell? ⟨g, i, none⟩ = some v := fun hn hv => by rw [setB2 (Ne.symm hn), setB2 (Ne.symm hn), setB2 (Ne.symm hn)]; exact hv
  have e0 : (W.setCell ⟨m, 0, none⟩ x').cell? ⟨m, 0, none⟩ = some x' := setS' m0
  have e1 : (W.setCell ⟨m, 0, none⟩ x').cell? ⟨m, 1, none⟩ = some y := by rw [setO' (by omega)]; exact m1
  have e2 : (W.setCell ⟨m, 0, none⟩ x').cell? ⟨m, 2, none⟩ = some z := by rw [setO' (by omega)]; exact m2
  have d1 : ((W.setCell ⟨m, 0, none⟩ x').setCell ⟨m, 1, none⟩ y').cell? ⟨m, 1, none⟩ = some y' := setS' e1
  have d2 : ((W.setCell ⟨m, 0, none⟩ x').setCell ⟨m, 1, none⟩ y').cell? ⟨m, 2, none⟩ = some z := by rw [setO' (by omega)]; exact e2
  exact ⟨o (by omega) z0, o (by omega) z1, o (by omega) z2, o (by omega) q0, o (by omega) q1, o (by omega) q2, fun i => by simpa using qf i, by rw [setO' (by omega), setO' (by omega)]; exact e0, by rw [setO' (by omega)]; exact d1, setS' d2, fun i => by simpa using mf i, n2, by simpa using sz⟩
theorem below3 {w W : World} {m n : Nat} (h : Below n w W) (hm : n ≤ m) (x y z : Value) : Below n w (((W.setCell ⟨m, 0, none⟩ x).setCell ⟨m, 1, none⟩ y).setCell ⟨m, 2, none⟩ z) :=
  ((h.setCell (p := ⟨m, 0, none⟩) hm _).setCell (p := ⟨m, 1, none⟩) hm _).setCell (p := ⟨m, 2, none⟩) hm _
theorem own3 {w : World} {base m : Nat} {adL adS adO : Option Addr} {ls ss : List Fl} {os : List Dop} (h : OwnD w base adL adS adO ls ss os) (hm : m < base) (x y z : Value) : OwnD (((w.setCell ⟨m, 0, none⟩ x).setCell ⟨m, 1, none⟩ y).setCell ⟨m, 2, none⟩ z) base adL adS adO ls ss os :=
  own_box (own_box (own_box h hm _ _) hm _ _) hm _ _
/-- the disk as it is now, and its lists -/
structure NowD (w : World) (adL adS adO : Option Addr) (capL : Nat) (L ss : List Fl) (O : List Dop) (W : World) : Prop where
  bel : Below w.heap.size w W
  dk : Dk W adL adS adO L ss O W
  nil : adL = none → capL = 0
theorem small60 {L : List Fl} (h : filesB L = true) : L.length ≤ 60 ∧ ∀ f ∈ L, f.n.size ≤ maxLen ∧ f.d.size ≤ 200000 := filesB_facts h
theorem rep_no {ls ss : List Fl} {os : List Dop} {x d : ByteArray} {L : List Fl} {O : List Dop} {c : Int} (hd : diskB ls ss os = true) (h : repR ls os x d = (L, O, c)) (hc : c ≠ 0) : rL ls ss os x d = ls ∧ dS ls ss os = ss ∧ rO ls ss os x d = os ∧ rC ls ss os x d = c := by
  refine ⟨?_, ?_, ?_, ?_⟩
  · rw [rL, if_pos hd, h, if_neg hc]
  · rw [dS, if_pos hd]
  · rw [rO, if_pos hd, h, if_neg hc]
  · rw [rC, if_pos hd, h]
theorem rep_yes {ls ss : List Fl} {os : List Dop} {x d : ByteArray} {L : List Fl} {O : List Dop} (hd : diskB ls ss os = true) (h : repR ls os x d = (L, O, 0)) : rL ls ss os x d = L ∧ dS ls ss os = ss ∧ rO ls ss os x d = O ∧ rC ls ss os x d = 0 := by
  refine ⟨?_, ?_, ?_, ?_⟩
  · rw [rL, if_pos hd, h, if_pos rfl]
  · rw [dS, if_pos hd]
  · rw [rO, if_pos hd, h, if_pos rfl]
  · rw [rC, if_pos hd, h]
theorem rep_nil {ls ss : List Fl} {os : List Dop} {x d : ByteArray} (hd : diskB ls ss os = false) : rL ls ss os x d = [] ∧ dS ls ss os = [] ∧ rO ls ss os x d = [] ∧ rC ls ss os x d = 1 := by
  refine ⟨?_, ?_, ?_, ?_⟩
  · rw [rL, hd]; rfl
  · rw [dS, hd]; rfl
  · rw [rO, hd]; rfl
  · rw [rC, hd]; rfl
theorem rep_has {ls : List Fl} {os : List Dop} {x d : ByteArray} (h : hasF ls (x ++ dotNew) = true) : repR ls os x d = actRun [opRem x, opAdd x d, opRen x] ls os := by rw [repR, repOps, if_pos h]
theorem rep_not {ls : List Fl} {os : List Dop} {x d : ByteArray} (h : hasF ls (x ++ dotNew) = false) : repR ls os x d = actRun [opAdd x d, opRen x] ls os := by rw [repR, repOps, h]; rfl
theorem at_has {fs : List Fl} {x : ByteArray} (h : hasF fs x = true) : decide ((0 : Int) ≤ atI fs x) = true := by
  unfold hasF at h; unfold atI
  cases e : atF fs x with
  | none => rw [e] at h; cases h
  | some k => simp
theorem at_not {fs : List Fl} {x : ByteArray} (h : hasF fs x = false) : decide ((0 : Int) ≤ atI fs x) = false := by
  unfold hasF at h; unfold atI
  cases e : atF fs x with
  | none => rfl
  | some k => rw [e] at h; cases h
set_option maxRecDepth 8000 in
set_option maxHeartbeats 4000000 in
theorem specReplace_any (adL adS adO : Option Addr) (capL capS capO : Nat) (ls ss : List Fl) (os : List Dop) (x d : ByteArray) (w : World) (hl : ls.length ≤ 1048576) (hs : ss.length ≤ 1048576) (ho : os.length ≤ 1048576)
    (H : Dk w adL adS adO ls ss os w) (hcL : adL = none → capL = 0) (hcS : adS = none → capS = 0) (fl : ∀ f ∈ ls, f.n.size ≤ maxLen ∧ f.d.size ≤ 4194304) (fs' : ∀ f ∈ ss, f.n.size ≤ maxLen ∧ f.d.size ≤ 4194304) (fo : ∀ o ∈ os, o.small) (hx : x.size ≤ 1048576) (hd' : d.size ≤ 1048576) :
    Calls Try.prog 33 #[.agg #[.slice adL ls.length capL, .slice adS ss.length capS, .slice adO os.length capO], .string x, .string d] w (ActTo w (rL ls ss os x d) (dS ls ss os) (rO ls ss os x d) (rC ls ss os x d)) := by
  obtain ⟨W2, hW2⟩ : ∃ W2, W2 = (w.alloc (.cells #[.slice adL ls.length capL, .slice adS ss.length capS, .slice adO os.length capO] 33)).alloc (.cells #[.slice none 0 0, .slice none 0 0, .slice none 0 0] 33) := ⟨_, rfl⟩
  obtain ⟨z0, z1, z2, q0, q1, q2, qf, hw2⟩ := box2 w (.slice adL ls.length capL) (.slice adS ss.length capS) (.slice adO os.length capO) 33 33
  rw [← hW2] at z0 z1 z2 q0 q1 q2 qf hw2
  have hb2 : Below w.heap.size w W2 := by rw [hW2]; exact ((Below.refl _ _).alloc (Nat.le_refl _) _).alloc (by simp) _
  have K0 := HIDk (H.later hb2)
  have HX : Hid (Box2 w (.slice adL ls.length capL) (.slice adS ss.length capS) (.slice adO os.length capO) W2) := ⟨z0, z1, z2, q0, q1, q2, qf, hw2⟩
  have HH := HIDk H
  have HFL := HIDk fl
  have HFS := HIDk fs'
  have HFO := HIDk fo
  have HCL := HIDk hcL
  have HCS := HIDk hcS
  have HOP := HIDk (op_small hx hd')
  have hxs : x.size + 4 ≤ 9223372036854775807 := by omega
  clear H hb2 z0 z1 z2 q0 q1 q2 qf hw2 fl fs' fo hcL hcS
  go_enter Try.func33, Try.ntmps33
  go_wp2_with fail
  rw [← hW2]
  clear hW2
  refine (specDiskOk_any adL adS adO capL capS capO ls ss os W2 hl hs ho (dk_self K0.out) HCS.out HFL.out HFS.out HFO.out).mono ?_
  rintro e w1 ⟨rfl, hb1⟩
  have K1 := HIDk (K0.out.later hb1)
  have HY := HIDk (HX.out.later hb1)
  clear hb1 K0 HX
  obtain ⟨z0, z1, z2, q0, q1, q2, qf, hw2⟩ := HY.out
  cases hd : diskB ls ss os with
  | false =>
    have HE := HIDk (rep_nil (x := x) (d := d) hd)
    clear hd
    go_wp2
    refine bodyPost_ret (v := .tuple #[.agg #[.slice none 0 0, .slice none 0 0, .slice none 0 0], .int .i64 1]) (by simp [results, Try.results33, go_sem, *]) rfl (actTo_eq HE.out.1 HE.out.2.1 HE.out.2.2.1 HE.out.2.2.2 (actTo_nil (below3 K1.out.bel (by omega) _ _ _)))
  | true =>
    have HDB := HIDk hd
    obtain ⟨hfl, -, h200⟩ := diskB_facts hd
    have G0 := HIDk (filesB_facts hfl)
    have Q0 := HIDk h200
    obtain ⟨X0, hX0⟩ : ∃ X, X = w1.alloc (.cells #[.slice adL ls.length capL, .slice adS ss.length capS, .slice adO os.length capO] 33) := ⟨_, rfl⟩
    have hbX : Below w1.heap.size w1 X0 := by rw [hX0]; exact (Below.refl _ _).alloc (Nat.le_refl _) _
    have CX : Cl w1 (.slice adL ls.length capL) (.slice adS ss.length capS) (.slice adO os.length capO) X0 := by rw [hX0]; exact cl_new _ _ _ _ _
    obtain ⟨y0, y1, y2, s0, s1, s2, sf, -⟩ := HY.out.later hbX
    have B0 : Hid (BoxN w w1.heap.size (.slice adL ls.length capL) (.slice adS ss.length capS) (.slice adO os.length capO) (.slice adL ls.length capL) (.slice adS ss.length capS) (.slice adO os.length capO) X0) := ⟨y0, y1, y2, s0, s1, s2, sf, CX.c0, CX.c1, CX.c2, fun i => by rw [hX0]; exact fz0 _ _ _ i, hw2, CX.lt⟩
    have E0 := HIDk (K1.out.later hbX).bel
    have D0 := HIDk (dk_self (K1.out.later hbX))
    have Z0 : Hid (adL = none → capL = 0) := HCL.out
    have P0 : Hid (os.length ≤ 1048576) := ho
    clear hd hfl h200 hbX CX q0 q1 q2 qf y1 y2 s0 s1 s2 sf HY
    rw [hX0] at y0
    go_wp2_with fail
    rw [← hX0]
    refine (l8At_any adL capL ls (x ++ dotNew) X0 hl D0.out.live).mono ?_
    rintro e wA ⟨rfl, hA⟩
    rw [hA]
    clear hA wA
    clear y0 z0 z1 z2
    cases hh : hasF ls (x ++ dotNew) with
    | true =>
      have HR0 := HIDk (rep_has (os := os) (d := d) hh)
      have e0 : decide ((0 : Int) ≤ atI ls (x ++ dotNew)) = true := at_has hh
      clear hh
      obtain ⟨-, -, -, -, -, -, -, m0, m1, m2, -, -, -⟩ := B0.out
      rw [hX0] at m0 m1 m2
      go_wp2_with fail
      rw [← hX0]
      clear hX0 m0 m1 m2 e0
      refine (l8Act_any adL adS adO capL capS capO (ls) ss (os) (opRem x) X0 G0.out.1 hs P0.out D0.out Z0.out G0.out.2 HOP.out.1).mono ?_
      rintro e V1 ⟨v1, rfl, ⟨a1, b1, c1, p1, q1, r1, rfl, hS, hcS⟩, hb⟩
      obtain ⟨-, -, -, -, -, -, -, m0, m1, m2, mf, -, -⟩ := B0.out.later hb
      by_cases hc : actC (ls) (os) (opRem x) = 0
      · have hL := (act_yes hc).1
        have hO := (act_yes hc).2
        rw [hL, hO] at hS
        rw [hL, hO, hc]
        obtain ⟨L1, hL1⟩ : ∃ y, y = (doF (ls) (opRem x)).1 := ⟨_, rfl⟩
        obtain ⟨O1, hO1⟩ : ∃ y, y = (os) ++ [opRem x] := ⟨_, rfl⟩
        rw [← hL1, ← hO1] at hS
        rw [← hL1, ← hO1]
        obtain ⟨X1, hX1⟩ : ∃ X, X = ((V1.setCell ⟨w1.heap.size, 0, none⟩ (.slice a1 (L1).length p1)).setCell ⟨w1.heap.size, 1, none⟩ (.slice b1 ss.length q1)).setCell ⟨w1.heap.size, 2, none⟩ (.slice c1 (O1).length r1) := ⟨_, rfl⟩
        have B1 : Hid (BoxN w w1.heap.size (.slice adL ls.length capL) (.slice adS ss.length capS) (.slice adO os.length capO) (.slice a1 (L1).length p1) (.slice b1 ss.length q1) (.slice c1 (O1).length r1) X1) := by rw [hX1]; exact (B0.out.later hb).set _ _ _
        have E1 : Hid (Below w.heap.size w X1) := by rw [hX1]; exact below3 (E0.out.trans (hb.mono E0.out.size)) (by have := B0.out.n2; omega) _ _ _
        have D1 : Hid (Dk X1 a1 b1 c1 (L1) ss (O1) X1) := by rw [hX1]; exact own_dk (own3 hS B0.out.sz _ _ _)
        have Z1 : Hid (a1 = none → p1 = 0) := hcS.2
        have G1 : Hid (L1.length ≤ 60 ∧ ∀ f ∈ L1, f.n.size ≤ maxLen ∧ f.d.size ≤ 200000) := by rw [hL1]; exact filesB_facts (act_good hc).1
        have P1 : Hid ((O1).length ≤ 1048576) := by have h3 := Q0.out; show _ ≤ _; rw [hO1, List.length_append]; simp; omega
        have Q1 : Hid ((O1).length ≤ 201) := by have h3 := Q0.out; show _ ≤ _; rw [hO1, List.length_append]; simp; omega
        have HR1 : Hid (repR ls os x d = actRun [opAdd x d, opRen x] L1 O1) := by rw [hL1, hO1]; exact HR0.out.trans (run_go hc)
        clear hS hcS hb hL hO hc hL1 hO1 B0 E0 D0 Z0 G0 P0 Q0 HR0
        have e0 : ((0 : Int) == 0) = true := rfl
        obtain ⟨-, -, -, -, -, -, -, m0, m1, m2, -, -, -⟩ := B1.out
        rw [hX1] at m0 m1 m2
        go_wp2_with fail
        rw [← hX1]
        clear hX1 m0 m1 m2 e0
        refine (l8Act_any a1 b1 c1 p1 q1 r1 (L1) ss (O1) (opAdd x d) X1 G1.out.1 hs P1.out D1.out Z1.out G1.out.2 HOP.out.2.1).mono ?_
        rintro e V2 ⟨v2, rfl, ⟨a2, b2, c2, p2, q2, r2, rfl, hS, hcS⟩, hb⟩
        obtain ⟨-, -, -, -, -, -, -, m0, m1, m2, mf, -, -⟩ := B1.out.later hb
        by_cases hc : actC (L1) (O1) (opAdd x d) = 0
        · have hL := (act_yes hc).1
          have hO := (act_yes hc).2
          rw [hL, hO] at hS
          rw [hL, hO, hc]
          obtain ⟨L2, hL2⟩ : ∃ y, y = (doF (L1) (opAdd x d)).1 := ⟨_, rfl⟩
          obtain ⟨O2, hO2⟩ : ∃ y, y = (O1) ++ [opAdd x d] := ⟨_, rfl⟩
          rw [← hL2, ← hO2] at hS
          rw [← hL2, ← hO2]
          obtain ⟨X2, hX2⟩ : ∃ X, X = ((V2.setCell ⟨w1.heap.size, 0, none⟩ (.slice a2 (L2).length p2)).setCell ⟨w1.heap.size, 1, none⟩ (.slice b2 ss.length q2)).setCell ⟨w1.heap.size, 2, none⟩ (.slice c2 (O2).length r2) := ⟨_, rfl⟩
          have B2 : Hid (BoxN w w1.heap.size (.slice adL ls.length capL) (.slice adS ss.length capS) (.slice adO os.length capO) (.slice a2 (L2).length p2) (.slice b2 ss.length q2) (.slice c2 (O2).length r2) X2) := by rw [hX2]; exact (B1.out.later hb).set _ _ _
          have E2 : Hid (Below w.heap.size w X2) := by rw [hX2]; exact below3 (E1.out.trans (hb.mono E1.out.size)) (by have := B1.out.n2; omega) _ _ _
          have D2 : Hid (Dk X2 a2 b2 c2 (L2) ss (O2) X2) := by rw [hX2]; exact own_dk (own3 hS B1.out.sz _ _ _)
          have Z2 : Hid (a2 = none → p2 = 0) := hcS.2
          have G2 : Hid (L2.length ≤ 60 ∧ ∀ f ∈ L2, f.n.size ≤ maxLen ∧ f.d.size ≤ 200000) := by rw [hL2]; exact filesB_facts (act_good hc).1
          have P2 : Hid ((O2).length ≤ 1048576) := by have h3 := Q1.out; show _ ≤ _; rw [hO2, List.length_append]; simp; omega
          have Q2 : Hid ((O2).length ≤ 202) := by have h3 := Q1.out; show _ ≤ _; rw [hO2, List.length_append]; simp; omega
          have HR2 : Hid (repR ls os x d = actRun [opRen x] L2 O2) := by rw [hL2, hO2]; exact HR1.out.trans (run_go hc)
          clear hS hcS hb hL hO hc hL2 hO2 B1 E1 D1 Z1 G1 P1 Q1 HR1
          have e0 : ((0 : Int) == 0) = true := rfl
          obtain ⟨-, -, -, -, -, -, -, m0, m1, m2, -, -, -⟩ := B2.out
          rw [hX2] at m0 m1 m2
          go_wp2_with fail
          rw [← hX2]
          clear hX2 m0 m1 m2 e0
          refine (l8Act_any a2 b2 c2 p2 q2 r2 (L2) ss (O2) (opRen x) X2 G2.out.1 hs P2.out D2.out Z2.out G2.out.2 HOP.out.2.2).mono ?_
          rintro e V3 ⟨v3, rfl, ⟨a3, b3, c3, p3, q3, r3, rfl, hS, hcS⟩, hb⟩
          obtain ⟨-, -, -, -, -, -, -, m0, m1, m2, mf, -, -⟩ := B2.out.later hb
          by_cases hc : actC (L2) (O2) (opRen x) = 0
          · have hL := (act_yes hc).1
            have hO := (act_yes hc).2
            rw [hL, hO] at hS
            rw [hL, hO, hc]
            obtain ⟨L3, hL3⟩ : ∃ y, y = (doF (L2) (opRen x)).1 := ⟨_, rfl⟩
            obtain ⟨O3, hO3⟩ : ∃ y, y = (O2) ++ [opRen x] := ⟨_, rfl⟩
            rw [← hL3, ← hO3] at hS
            rw [← hL3, ← hO3]
            obtain ⟨X3, hX3⟩ : ∃ X, X = ((V3.setCell ⟨w1.heap.size, 0, none⟩ (.slice a3 (L3).length p3)).setCell ⟨w1.heap.size, 1, none⟩ (.slice b3 ss.length q3)).setCell ⟨w1.heap.size, 2, none⟩ (.slice c3 (O3).length r3) := ⟨_, rfl⟩
            have B3 : Hid (BoxN w w1.heap.size (.slice adL ls.length capL) (.slice adS ss.length capS) (.slice adO os.length capO) (.slice a3 (L3).length p3) (.slice b3 ss.length q3) (.slice c3 (O3).length r3) X3) := by rw [hX3]; exact (B2.out.later hb).set _ _ _
            have E3 : Hid (Below w.heap.size w X3) := by rw [hX3]; exact below3 (E2.out.trans (hb.mono E2.out.size)) (by have := B2.out.n2; omega) _ _ _
            have D3 : Hid (Dk X3 a3 b3 c3 (L3) ss (O3) X3) := by rw [hX3]; exact own_dk (own3 hS B2.out.sz _ _ _)
            have Z3 : Hid (a3 = none → p3 = 0) := hcS.2
            have G3 : Hid (L3.length ≤ 60 ∧ ∀ f ∈ L3, f.n.size ≤ maxLen ∧ f.d.size ≤ 200000) := by rw [hL3]; exact filesB_facts (act_good hc).1
            have P3 : Hid ((O3).length ≤ 1048576) := by have h3 := Q2.out; show _ ≤ _; rw [hO3, List.length_append]; simp; omega
            have Q3 : Hid ((O3).length ≤ 203) := by have h3 := Q2.out; show _ ≤ _; rw [hO3, List.length_append]; simp; omega
            have HR3 : Hid (repR ls os x d = actRun [] L3 O3) := by rw [hL3, hO3]; exact HR2.out.trans (run_go hc)
            clear hS hcS hb hL hO hc hL3 hO3 B2 E2 D2 Z2 G2 P2 Q2 HR2
            have e0 : ((0 : Int) == 0) = true := rfl
            have HE := HIDk (rep_yes HDB.out HR3.out)
            obtain ⟨-, -, -, -, -, -, -, m0, m1, m2, -, -, -⟩ := B3.out
            rw [hX3] at m0 m1 m2
            go_wp2_with fail
            rw [← hX3]
            clear hX3 m0 m1 m2 e0
            refine (l8Copy_any a3 b3 c3 p3 q3 r3 (L3) ss (O3) X3 (by have := G3.out.1; omega) hs P3.out D3.out).mono ?_
            rintro e wf ⟨vf, rfl, ⟨b1, b2, b3, r1, r2, r3, rfl, hSf, hcf, -, -⟩, hbf⟩
            have HSf := HIDk (hSf.mono (b' := w.heap.size + 2) (by have := B3.out.n2; have := B3.out.sz; omega))
            have HBf := HIDk (E3.out.trans (hbf.mono E3.out.size))
            obtain ⟨-, -, -, q0, q1, q2, qf, -, -, -, -, -, -⟩ := B3.out.later hbf
            clear hSf hbf
            go_wp2
            refine bodyPost_ret (v := .tuple #[.agg #[.slice b1 (L3).length r1, .slice b2 ss.length r2, .slice b3 (O3).length r3], .int .i64 (0)]) (by simp [results, Try.results33, go_sem, *]) rfl (actTo_eq HE.out.1 HE.out.2.1 HE.out.2.2.1 HE.out.2.2.2 (actTo_mk ((own3 HSf.out (show w.heap.size + 1 < w.heap.size + 2 by omega) _ _ _).mono (show w.heap.size ≤ w.heap.size + 2 by omega)) hcf (below3 HBf.out (show w.heap.size ≤ w.heap.size + 1 by omega) _ _ _)))
          · have hL := (act_no rfl hc).1
            have hO := (act_no rfl hc).2
            rw [hL, hO] at hS
            rw [hL, hO]
            obtain ⟨X3, hX3⟩ : ∃ X, X = ((V3.setCell ⟨w1.heap.size, 0, none⟩ (.slice a3 (L2).length p3)).setCell ⟨w1.heap.size, 1, none⟩ (.slice b3 ss.length q3)).setCell ⟨w1.heap.size, 2, none⟩ (.slice c3 (O2).length r3) := ⟨_, rfl⟩
            have B3 : Hid (BoxN w w1.heap.size (.slice adL ls.length capL) (.slice adS ss.length capS) (.slice adO os.length capO) (.slice a3 (L2).length p3) (.slice b3 ss.length q3) (.slice c3 (O2).length r3) X3) := by rw [hX3]; exact (B2.out.later hb).set _ _ _
            have E3 : Hid (Below w.heap.size w X3) := by rw [hX3]; exact below3 (E2.out.trans (hb.mono E2.out.size)) (by have := B2.out.n2; omega) _ _ _
            have HE := HIDk (rep_no HDB.out (HR2.out.trans (run_stop hc)) hc)
            have hcb := kNe hc
            obtain ⟨z0, z1, z2, -, -, -, -, -, -, -, -, -, -⟩ := B3.out
            rw [hX3] at z0 z1 z2
            clear hS hcS hb hL hO hc
            generalize actC (L2) (O2) (opRen x) = cc at *
            go_wp2_with fail
            rw [← hX3]
            clear hX3 z0 z1 z2 m0 m1 m2 mf
            refine (l8Copy_any adL adS adO capL capS capO ls ss os X3 hl hs ho (dk_self (HH.out.later E3.out))).mono ?_
            rintro e wf ⟨vf, rfl, ⟨b1, b2, b3, r1, r2, r3, rfl, hSf, hcf, -, -⟩, hbf⟩
            have HSf := HIDk (hSf.mono (b' := w.heap.size + 2) (by have := B3.out.n2; have := B3.out.sz; omega))
            have HBf := HIDk (E3.out.trans (hbf.mono E3.out.size))
            obtain ⟨-, -, -, q0, q1, q2, qf, -, -, -, -, -, -⟩ := B3.out.later hbf
            clear hSf hbf
            go_wp2
            refine bodyPost_ret (v := .tuple #[.agg #[.slice b1 (ls).length r1, .slice b2 ss.length r2, .slice b3 (os).length r3], .int .i64 (cc)]) (by simp [results, Try.results33, go_sem, *]) rfl (actTo_eq HE.out.1 HE.out.2.1 HE.out.2.2.1 HE.out.2.2.2 (actTo_mk ((own3 HSf.out (show w.heap.size + 1 < w.heap.size + 2 by omega) _ _ _).mono (show w.heap.size ≤ w.heap.size + 2 by omega)) hcf (below3 HBf.out (show w.heap.size ≤ w.heap.size + 1 by omega) _ _ _)))
        · have hL := (act_no rfl hc).1
          have hO := (act_no rfl hc).2
          rw [hL, hO] at hS
          rw [hL, hO]
          obtain ⟨X2, hX2⟩ : ∃ X, X = ((V2.setCell ⟨w1.heap.size, 0, none⟩ (.slice a2 (L1).length p2)).setCell ⟨w1.heap.size, 1, none⟩ (.slice b2 ss.length q2)).setCell ⟨w1.heap.size, 2, none⟩ (.slice c2 (O1).length r2) := ⟨_, rfl⟩
          have B2 : Hid (BoxN w w1.heap.size (.slice adL ls.length capL) (.slice adS ss.length capS) (.slice adO os.length capO) (.slice a2 (L1).length p2) (.slice b2 ss.length q2) (.slice c2 (O1).length r2) X2) := by rw [hX2]; exact (B1.out.later hb).set _ _ _
          have E2 : Hid (Below w.heap.size w X2) := by rw [hX2]; exact below3 (E1.out.trans (hb.mono E1.out.size)) (by have := B1.out.n2; omega) _ _ _
          have HE := HIDk (rep_no HDB.out (HR1.out.trans (run_stop hc)) hc)
          have hcb := kNe hc
          obtain ⟨z0, z1, z2, -, -, -, -, -, -, -, -, -, -⟩ := B2.out
          rw [hX2] at z0 z1 z2
          clear hS hcS hb hL hO hc
          generalize actC (L1) (O1) (opAdd x d) = cc at *
          go_wp2_with fail
          rw [← hX2]
          clear hX2 z0 z1 z2 m0 m1 m2 mf
          refine (l8Copy_any adL adS adO capL capS capO ls ss os X2 hl hs ho (dk_self (HH.out.later E2.out))).mono ?_
          rintro e wf ⟨vf, rfl, ⟨b1, b2, b3, r1, r2, r3, rfl, hSf, hcf, -, -⟩, hbf⟩
          have HSf := HIDk (hSf.mono (b' := w.heap.size + 2) (by have := B2.out.n2; have := B2.out.sz; omega))
          have HBf := HIDk (E2.out.trans (hbf.mono E2.out.size))
          obtain ⟨-, -, -, q0, q1, q2, qf, -, -, -, -, -, -⟩ := B2.out.later hbf
          clear hSf hbf
          go_wp2
          refine bodyPost_ret (v := .tuple #[.agg #[.slice b1 (ls).length r1, .slice b2 ss.length r2, .slice b3 (os).length r3], .int .i64 (cc)]) (by simp [results, Try.results33, go_sem, *]) rfl (actTo_eq HE.out.1 HE.out.2.1 HE.out.2.2.1 HE.out.2.2.2 (actTo_mk ((own3 HSf.out (show w.heap.size + 1 < w.heap.size + 2 by omega) _ _ _).mono (show w.heap.size ≤ w.heap.size + 2 by omega)) hcf (below3 HBf.out (show w.heap.size ≤ w.heap.size + 1 by omega) _ _ _)))
      · have hL := (act_no rfl hc).1
        have hO := (act_no rfl hc).2
        rw [hL, hO] at hS
        rw [hL, hO]
        obtain ⟨X1, hX1⟩ : ∃ X, X = ((V1.setCell ⟨w1.heap.size, 0, none⟩ (.slice a1 (ls).length p1)).setCell ⟨w1.heap.size, 1, none⟩ (.slice b1 ss.length q1)).setCell ⟨w1.heap.size, 2, none⟩ (.slice c1 (os).length r1) := ⟨_, rfl⟩
        have B1 : Hid (BoxN w w1.heap.size (.slice adL ls.length capL) (.slice adS ss.length capS) (.slice adO os.length capO) (.slice a1 (ls).length p1) (.slice b1 ss.length q1) (.slice c1 (os).length r1) X1) := by rw [hX1]; exact (B0.out.later hb).set _ _ _
        have E1 : Hid (Below w.heap.size w X1) := by rw [hX1]; exact below3 (E0.out.trans (hb.mono E0.out.size)) (by have := B0.out.n2; omega) _ _ _
        have HE := HIDk (rep_no HDB.out (HR0.out.trans (run_stop hc)) hc)
        have hcb := kNe hc
        obtain ⟨z0, z1, z2, -, -, -, -, -, -, -, -, -, -⟩ := B1.out
        rw [hX1] at z0 z1 z2
        clear hS hcS hb hL hO hc
        generalize actC (ls) (os) (opRem x) = cc at *
        go_wp2_with fail
        rw [← hX1]
        clear hX1 z0 z1 z2 m0 m1 m2 mf
        refine (l8Copy_any adL adS adO capL capS capO ls ss os X1 hl hs ho (dk_self (HH.out.later E1.out))).mono ?_
        rintro e wf ⟨vf, rfl, ⟨b1, b2, b3, r1, r2, r3, rfl, hSf, hcf, -, -⟩, hbf⟩
        have HSf := HIDk (hSf.mono (b' := w.heap.size + 2) (by have := B1.out.n2; have := B1.out.sz; omega))
        have HBf := HIDk (E1.out.trans (hbf.mono E1.out.size))
        obtain ⟨-, -, -, q0, q1, q2, qf, -, -, -, -, -, -⟩ := B1.out.later hbf
        clear hSf hbf
        go_wp2
        refine bodyPost_ret (v := .tuple #[.agg #[.slice b1 (ls).length r1, .slice b2 ss.length r2, .slice b3 (os).length r3], .int .i64 (cc)]) (by simp [results, Try.results33, go_sem, *]) rfl (actTo_eq HE.out.1 HE.out.2.1 HE.out.2.2.1 HE.out.2.2.2 (actTo_mk ((own3 HSf.out (show w.heap.size + 1 < w.heap.size + 2 by omega) _ _ _).mono (show w.heap.size ≤ w.heap.size + 2 by omega)) hcf (below3 HBf.out (show w.heap.size ≤ w.heap.size + 1 by omega) _ _ _)))
    | false =>
      have HR0 := HIDk (rep_not (os := os) (d := d) hh)
      have e0 : decide ((0 : Int) ≤ atI ls (x ++ dotNew)) = false := at_not hh
      clear hh
      obtain ⟨-, -, -, -, -, -, -, m0, m1, m2, -, -, -⟩ := B0.out
      rw [hX0] at m0 m1 m2
      go_wp2_with fail
      rw [← hX0]
      clear hX0 m0 m1 m2 e0
      refine (l8Act_any adL adS adO capL capS capO (ls) ss (os) (opAdd x d) X0 G0.out.1 hs P0.out D0.out Z0.out G0.out.2 HOP.out.2.1).mono ?_
      rintro e V1 ⟨v1, rfl, ⟨a1, b1, c1, p1, q1, r1, rfl, hS, hcS⟩, hb⟩
      obtain ⟨-, -, -, -, -, -, -, m0, m1, m2, mf, -, -⟩ := B0.out.later hb
      by_cases hc : actC (ls) (os) (opAdd x d) = 0
      · have hL := (act_yes hc).1
        have hO := (act_yes hc).2
        rw [hL, hO] at hS
        rw [hL, hO, hc]
        obtain ⟨L1, hL1⟩ : ∃ y, y = (doF (ls) (opAdd x d)).1 := ⟨_, rfl⟩
        obtain ⟨O1, hO1⟩ : ∃ y, y = (os) ++ [opAdd x d] := ⟨_, rfl⟩
        rw [← hL1, ← hO1] at hS
        rw [← hL1, ← hO1]
        obtain ⟨X1, hX1⟩ : ∃ X, X = ((V1.setCell ⟨w1.heap.size, 0, none⟩ (.slice a1 (L1).length p1)).setCell ⟨w1.heap.size, 1, none⟩ (.slice b1 ss.length q1)).setCell ⟨w1.heap.size, 2, none⟩ (.slice c1 (O1).length r1) := ⟨_, rfl⟩
        have B1 : Hid (BoxN w w1.heap.size (.slice adL ls.length capL) (.slice adS ss.length capS) (.slice adO os.length capO) (.slice a1 (L1).length p1) (.slice b1 ss.length q1) (.slice c1 (O1).length r1) X1) := by rw [hX1]; exact (B0.out.later hb).set _ _ _
        have E1 : Hid (Below w.heap.size w X1) := by rw [hX1]; exact below3 (E0.out.trans (hb.mono E0.out.size)) (by have := B0.out.n2; omega) _ _ _
        have D1 : Hid (Dk X1 a1 b1 c1 (L1) ss (O1) X1) := by rw [hX1]; exact own_dk (own3 hS B0.out.sz _ _ _)
        have Z1 : Hid (a1 = none → p1 = 0) := hcS.2
        have G1 : Hid (L1.length ≤ 60 ∧ ∀ f ∈ L1, f.n.size ≤ maxLen ∧ f.d.size ≤ 200000) := by rw [hL1]; exact filesB_facts (act_good hc).1
        have P1 : Hid ((O1).length ≤ 1048576) := by have h3 := Q0.out; show _ ≤ _; rw [hO1, List.length_append]; simp; omega
        have Q1 : Hid ((O1).length ≤ 201) := by have h3 := Q0.out; show _ ≤ _; rw [hO1, List.length_append]; simp; omega
        have HR1 : Hid (repR ls os x d = actRun [opRen x] L1 O1) := by rw [hL1, hO1]; exact HR0.out.trans (run_go hc)
        clear hS hcS hb hL hO hc hL1 hO1 B0 E0 D0 Z0 G0 P0 Q0 HR0
        have e0 : ((0 : Int) == 0) = true := rfl
        obtain ⟨-, -, -, -, -, -, -, m0, m1, m2, -, -, -⟩ := B1.out
        rw [hX1] at m0 m1 m2
        go_wp2_with fail
        rw [← hX1]
        clear hX1 m0 m1 m2 e0
        refine (l8Act_any a1 b1 c1 p1 q1 r1 (L1) ss (O1) (opRen x) X1 G1.out.1 hs P1.out D1.out Z1.out G1.out.2 HOP.out.2.2).mono ?_
        rintro e V2 ⟨v2, rfl, ⟨a2, b2, c2, p2, q2, r2, rfl, hS, hcS⟩, hb⟩
        obtain ⟨-, -, -, -, -, -, -, m0, m1, m2, mf, -, -⟩ := B1.out.later hb
        by_cases hc : actC (L1) (O1) (opRen x) = 0
        · have hL := (act_yes hc).1
          have hO := (act_yes hc).2
          rw [hL, hO] at hS
          rw [hL, hO, hc]
          obtain ⟨L2, hL2⟩ : ∃ y, y = (doF (L1) (opRen x)).1 := ⟨_, rfl⟩
          obtain ⟨O2, hO2⟩ : ∃ y, y = (O1) ++ [opRen x] := ⟨_, rfl⟩
          rw [← hL2, ← hO2] at hS
          rw [← hL2, ← hO2]
          obtain ⟨X2, hX2⟩ : ∃ X, X = ((V2.setCell ⟨w1.heap.size, 0, none⟩ (.slice a2 (L2).length p2)).setCell ⟨w1.heap.size, 1, none⟩ (.slice b2 ss.length q2)).setCell ⟨w1.heap.size, 2, none⟩ (.slice c2 (O2).length r2) := ⟨_, rfl⟩
          have B2 : Hid (BoxN w w1.heap.size (.slice adL ls.length capL) (.slice adS ss.length capS) (.slice adO os.length capO) (.slice a2 (L2).length p2) (.slice b2 ss.length q2) (.slice c2 (O2).length r2) X2) := by rw [hX2]; exact (B1.out.later hb).set _ _ _
          have E2 : Hid (Below w.heap.size w X2) := by rw [hX2]; exact below3 (E1.out.trans (hb.mono E1.out.size)) (by have := B1.out.n2; omega) _ _ _
          have D2 : Hid (Dk X2 a2 b2 c2 (L2) ss (O2) X2) := by rw [hX2]; exact own_dk (own3 hS B1.out.sz _ _ _)
          have Z2 : Hid (a2 = none → p2 = 0) := hcS.2
          have G2 : Hid (L2.length ≤ 60 ∧ ∀ f ∈ L2, f.n.size ≤ maxLen ∧ f.d.size ≤ 200000) := by rw [hL2]; exact filesB_facts (act_good hc).1
          have P2 : Hid ((O2).length ≤ 1048576) := by have h3 := Q1.out; show _ ≤ _; rw [hO2, List.length_append]; simp; omega
          have Q2 : Hid ((O2).length ≤ 202) := by have h3 := Q1.out; show _ ≤ _; rw [hO2, List.length_append]; simp; omega
          have HR2 : Hid (repR ls os x d = actRun [] L2 O2) := by rw [hL2, hO2]; exact HR1.out.trans (run_go hc)
          clear hS hcS hb hL hO hc hL2 hO2 B1 E1 D1 Z1 G1 P1 Q1 HR1
          have e0 : ((0 : Int) == 0) = true := rfl
          have HE := HIDk (rep_yes HDB.out HR2.out)
          obtain ⟨-, -, -, -, -, -, -, m0, m1, m2, -, -, -⟩ := B2.out
          rw [hX2] at m0 m1 m2
          go_wp2_with fail
          rw [← hX2]
          clear hX2 m0 m1 m2 e0
          refine (l8Copy_any a2 b2 c2 p2 q2 r2 (L2) ss (O2) X2 (by have := G2.out.1; omega) hs P2.out D2.out).mono ?_
          rintro e wf ⟨vf, rfl, ⟨b1, b2, b3, r1, r2, r3, rfl, hSf, hcf, -, -⟩, hbf⟩
          have HSf := HIDk (hSf.mono (b' := w.heap.size + 2) (by have := B2.out.n2; have := B2.out.sz; omega))
          have HBf := HIDk (E2.out.trans (hbf.mono E2.out.size))
          obtain ⟨-, -, -, q0, q1, q2, qf, -, -, -, -, -, -⟩ := B2.out.later hbf
          clear hSf hbf
          go_wp2
          refine bodyPost_ret (v := .tuple #[.agg #[.slice b1 (L2).length r1, .slice b2 ss.length r2, .slice b3 (O2).length r3], .int .i64 (0)]) (by simp [results, Try.results33, go_sem, *]) rfl (actTo_eq HE.out.1 HE.out.2.1 HE.out.2.2.1 HE.out.2.2.2 (actTo_mk ((own3 HSf.out (show w.heap.size + 1 < w.heap.size + 2 by omega) _ _ _).mono (show w.heap.size ≤ w.heap.size + 2 by omega)) hcf (below3 HBf.out (show w.heap.size ≤ w.heap.size + 1 by omega) _ _ _)))
        · have hL := (act_no rfl hc).1
          have hO := (act_no rfl hc).2
          rw [hL, hO] at hS
          rw [hL, hO]
          obtain ⟨X2, hX2⟩ : ∃ X, X = ((V2.setCell ⟨w1.heap.size, 0, none⟩ (.slice a2 (L1).length p2)).setCell ⟨w1.heap.size, 1, none⟩ (.slice b2 ss.length q2)).setCell ⟨w1.heap.size, 2, none⟩ (.slice c2 (O1).length r2) := ⟨_, rfl⟩
          have B2 : Hid (BoxN w w1.heap.size (.slice adL ls.length capL) (.slice adS ss.length capS) (.slice adO os.length capO) (.slice a2 (L1).length p2) (.slice b2 ss.length q2) (.slice c2 (O1).length r2) X2) := by rw [hX2]; exact (B1.out.later hb).set _ _ _
          have E2 : Hid (Below w.heap.size w X2) := by rw [hX2]; exact below3 (E1.out.trans (hb.mono E1.out.size)) (by have := B1.out.n2; omega) _ _ _
          have HE := HIDk (rep_no HDB.out (HR1.out.trans (run_stop hc)) hc)
          have hcb := kNe hc
          obtain ⟨z0, z1, z2, -, -, -, -, -, -, -, -, -, -⟩ := B2.out
          rw [hX2] at z0 z1 z2
          clear hS hcS hb hL hO hc
          generalize actC (L1) (O1) (opRen x) = cc at *
          go_wp2_with fail
          rw [← hX2]
          clear hX2 z0 z1 z2 m0 m1 m2 mf
          refine (l8Copy_any adL adS adO capL capS capO ls ss os X2 hl hs ho (dk_self (HH.out.later E2.out))).mono ?_
          rintro e wf ⟨vf, rfl, ⟨b1, b2, b3, r1, r2, r3, rfl, hSf, hcf, -, -⟩, hbf⟩
          have HSf := HIDk (hSf.mono (b' := w.heap.size + 2) (by have := B2.out.n2; have := B2.out.sz; omega))
          have HBf := HIDk (E2.out.trans (hbf.mono E2.out.size))
          obtain ⟨-, -, -, q0, q1, q2, qf, -, -, -, -, -, -⟩ := B2.out.later hbf
          clear hSf hbf
          go_wp2
          refine bodyPost_ret (v := .tuple #[.agg #[.slice b1 (ls).length r1, .slice b2 ss.length r2, .slice b3 (os).length r3], .int .i64 (cc)]) (by simp [results, Try.results33, go_sem, *]) rfl (actTo_eq HE.out.1 HE.out.2.1 HE.out.2.2.1 HE.out.2.2.2 (actTo_mk ((own3 HSf.out (show w.heap.size + 1 < w.heap.size + 2 by omega) _ _ _).mono (show w.heap.size ≤ w.heap.size + 2 by omega)) hcf (below3 HBf.out (show w.heap.size ≤ w.heap.size + 1 by omega) _ _ _)))
      · have hL := (act_no rfl hc).1
        have hO := (act_no rfl hc).2
        rw [hL, hO] at hS
        rw [hL, hO]
        obtain ⟨X1, hX1⟩ : ∃ X, X = ((V1.setCell ⟨w1.heap.size, 0, none⟩ (.slice a1 (ls).length p1)).setCell ⟨w1.heap.size, 1, none⟩ (.slice b1 ss.length q1)).setCell ⟨w1.heap.size, 2, none⟩ (.slice c1 (os).length r1) := ⟨_, rfl⟩
        have B1 : Hid (BoxN w w1.heap.size (.slice adL ls.length capL) (.slice adS ss.length capS) (.slice adO os.length capO) (.slice a1 (ls).length p1) (.slice b1 ss.length q1) (.slice c1 (os).length r1) X1) := by rw [hX1]; exact (B0.out.later hb).set _ _ _
        have E1 : Hid (Below w.heap.size w X1) := by rw [hX1]; exact below3 (E0.out.trans (hb.mono E0.out.size)) (by have := B0.out.n2; omega) _ _ _
        have HE := HIDk (rep_no HDB.out (HR0.out.trans (run_stop hc)) hc)
        have hcb := kNe hc
        obtain ⟨z0, z1, z2, -, -, -, -, -, -, -, -, -, -⟩ := B1.out
        rw [hX1] at z0 z1 z2
        clear hS hcS hb hL hO hc
        generalize actC (ls) (os) (opAdd x d) = cc at *
        go_wp2_with fail
        rw [← hX1]
        clear hX1 z0 z1 z2 m0 m1 m2 mf
        refine (l8Copy_any adL adS adO capL capS capO ls ss os X1 hl hs ho (dk_self (HH.out.later E1.out))).mono ?_
        rintro e wf ⟨vf, rfl, ⟨b1, b2, b3, r1, r2, r3, rfl, hSf, hcf, -, -⟩, hbf⟩
        have HSf := HIDk (hSf.mono (b' := w.heap.size + 2) (by have := B1.out.n2; have := B1.out.sz; omega))
        have HBf := HIDk (E1.out.trans (hbf.mono E1.out.size))
        obtain ⟨-, -, -, q0, q1, q2, qf, -, -, -, -, -, -⟩ := B1.out.later hbf
        clear hSf hbf
        go_wp2
        refine bodyPost_ret (v := .tuple #[.agg #[.slice b1 (ls).length r1, .slice b2 ss.length r2, .slice b3 (os).length r3], .int .i64 (cc)]) (by simp [results, Try.results33, go_sem, *]) rfl (actTo_eq HE.out.1 HE.out.2.1 HE.out.2.2.1 HE.out.2.2.2 (actTo_mk ((own3 HSf.out (show w.heap.size + 1 < w.heap.size + 2 by omega) _ _ _).mono (show w.heap.size ≤ w.heap.size + 2 by omega)) hcf (below3 HBf.out (show w.heap.size ≤ w.heap.size + 1 by omega) _ _ _)))
end Go.Proofs.Ytbfimfmfdllejaa

/- Contracts of the two functions that read a file off a disk. -/
namespace Go.Proofs.Ytbfimfmfdllejaa
open Go.ChangeShapes Go.WideShapes Go.ChangeAt Go.RowKit Go.Maps

def readD (ls ss : List Fl) (os : List Dop) (x : ByteArray) : ByteArray := if diskB ls ss os then dataF ls x else ⟨#[]⟩
def readB (ls ss : List Fl) (os : List Dop) (x : ByteArray) : Bool := diskB ls ss os && hasF ls x
def ReadTo (w : World) (d : ByteArray) (f : Bool) (e : Ending) (w' : World) : Prop := e = .returned (.tuple #[.string d, .bool f]) ∧ Below w.heap.size w w'
theorem readTo_mk {w w' : World} {d d' : ByteArray} {f f' : Bool} (h : d' = d) (h2 : f' = f) (hB : Below w.heap.size w w') : ReadTo w d f (.returned (.tuple #[.string d', .bool f'])) w' := ⟨by rw [h, h2], hB⟩
theorem dataF_at {fs : List Fl} {x : ByteArray} {k : Nat} (h : k < fs.length) (hu : atUp fs x k) (e : eqS fs[k].n x = true) : dataF fs x = fs[k].d ∧ hasF fs x = true := by
  have := atF_some h hu e
  refine ⟨?_, by rw [hasF, this]; rfl⟩
  rw [dataF, this]
  simp only
  rw [List.getD_eq_getElem?_getD, List.getElem?_eq_getElem h]; rfl
theorem dataF_gone {fs : List Fl} {x : ByteArray} (hu : atUp fs x fs.length) : dataF fs x = ⟨#[]⟩ ∧ hasF fs x = false := by
  have := atF_none hu
  exact ⟨by rw [dataF, this], by rw [hasF, this]; rfl⟩

set_option maxHeartbeats 1000000 in
theorem dataIn_any (ad : Option Addr) (cap : Nat) (fs : List Fl) (x : ByteArray) (w : World) (hlen : fs.length ≤ 1048576) (hs : SlF w ad fs) :
    Calls Try.prog 65 #[.slice ad fs.length cap, .string x] w (ReadTo w (dataF fs x) (hasF fs x)) := by
  have HS0 := HIDk hs
  clear hs
  go_enter Try.func65, Try.ntmps65
  go_wp2_with fail
  go_loopw [10] (fun i wr => ∃ k : Nat, k ≤ fs.length ∧ i = .int .i64 (k : Int) ∧ Hid (atUp fs x k) ∧ Hid (Below w.heap.size w wr)) (fun i _ => fs.length - (intOf i).toNat)
  case atStart => exact ⟨0, Nat.zero_le _, rfl, fun j _ h => absurd h (by omega), Below.refl _ _⟩
  case round =>
    obtain ⟨k, hk, rfl, HU, HB⟩ := hrel
    by_cases hlt : k < fs.length
    · obtain ⟨b, off, rfl, hb, t0, t1⟩ : ∃ b off, ad = some ⟨b, off, none⟩ ∧ b < wr.heap.size ∧ AtF wr b (off + k * 2) fs[k] := by
        rcases HS0.out.below HB.out with hnil | ⟨b, off, e, hb, hr⟩
        · rw [hnil] at hlt; simp at hlt
        · exact ⟨b, off, e, hb, hr k hlt⟩
      have k0 : (0 : Int) ≤ (k : Int) := by omega
      have k1 : (k : Int) < (fs.length : Int) := by omega
      have HB2 := HIDk (HB.out.alloc HB.out.size (.cells #[.string fs[k].n, .string fs[k].d] 93))
      cases he : (fs[k].n.toList == x.toList) with
      | true =>
        have HD := HIDk (dataF_at hlt HU.out (show eqS fs[k].n x = true from he))
        go_wp2
        go_ret2
        exact readTo_mk HD.out.1.symm HD.out.2.symm HB2.out
      | false =>
        have HU2 : Hid (atUp fs x (k + 1)) := fun j hj hjk => by
          by_cases e : j = k
          · subst e; exact he
          · exact HU.out j hj (by omega)
        go_wp2
        go_roundw
        case rel => exact ⟨k + 1, by omega, by go_num, HU2, HB2⟩
        case measure => simp [intOf]; omega
    · obtain rfl : k = fs.length := by omega
      have HD := HIDk (dataF_gone HU.out)
      go_wp2
      go_ret2
      exact readTo_mk HD.out.1.symm HD.out.2.symm HB.out

set_option maxRecDepth 8000 in
set_option maxHeartbeats 1000000 in
theorem implReadFile_any (adL adS adO : Option Addr) (capL capS capO : Nat) (ls ss : List Fl) (os : List Dop) (x : ByteArray) (w : World) (hl : ls.length ≤ 1048576) (hs : ss.length ≤ 1048576) (ho : os.length ≤ 1048576)
    (H : Dk w adL adS adO ls ss os w) (fl : ∀ f ∈ ls, f.n.size ≤ maxLen ∧ f.d.size ≤ 4194304) (fs' : ∀ f ∈ ss, f.n.size ≤ maxLen ∧ f.d.size ≤ 4194304) (fo : ∀ o ∈ os, o.small) :
    Calls Try.prog 30 #[.agg #[.slice adL ls.length capL, .slice adS ss.length capS, .slice adO os.length capO], .string x] w (ReadTo w (readD ls ss os x) (readB ls ss os x)) := by
  obtain ⟨W, hW⟩ : ∃ W, W = w.alloc (.cells #[.slice adL ls.length capL, .slice adS ss.length capS, .slice adO os.length capO] 33) := ⟨_, rfl⟩
  have C0 : Hid (Cl w (.slice adL ls.length capL) (.slice adS ss.length capS) (.slice adO os.length capO) W) := by rw [hW]; exact cl_new _ _ _ _ _
  have K0 : Hid (Dk w adL adS adO ls ss os W) := H.later (by rw [hW]; exact (Below.refl _ _).alloc (Nat.le_refl _) _)
  have HFL := HIDk fl
  have HFS := HIDk fs'
  have HFO := HIDk fo
  clear H fl fs' fo
  go_enter Try.func30, Try.ntmps30
  go_wp2_with fail
  rw [← hW]
  clear hW
  refine (implDiskOk_any adL adS adO capL capS capO ls ss os W hl hs ho (dk_self K0.out) HFL.out HFS.out HFO.out).mono ?_
  rintro e w1 ⟨rfl, hb1⟩
  have K1 := HIDk (K0.out.later hb1)
  have C1 := HIDk (C0.out.later hb1)
  have y0 := C1.out.c0
  clear hb1 K0 C0
  cases hd : diskB ls ss os with
  | false =>
    have HD : Hid (readD ls ss os x = ⟨#[]⟩ ∧ readB ls ss os x = false) := ⟨by rw [readD, hd]; rfl, by rw [readB, hd]; rfl⟩
    clear hd
    go_wp2
    go_ret2
    exact readTo_mk HD.out.1.symm HD.out.2.symm K1.out.bel
  | true =>
    have HD : Hid (readD ls ss os x = dataF ls x ∧ readB ls ss os x = hasF ls x) := ⟨by rw [readD, hd]; rfl, by rw [readB, hd]; rfl⟩
    clear hd
    go_wp2_with fail
    refine (dataIn_any adL capL ls x w1 hl K1.out.live).mono ?_
    rintro e w2 ⟨rfl, hb2⟩
    have HB2 := HIDk (K1.out.bel.trans (hb2.mono K1.out.bel.size))
    clear hb2 K1 C1
    go_wp2
    go_ret2
    exact readTo_mk HD.out.1.symm HD.out.2.symm HB2.out
end Go.Proofs.Ytbfimfmfdllejaa

/- Contracts of the program's Replace. -/
namespace Go.Proofs.Ytbfimfmfdllejaa
open Go.ChangeShapes Go.WideShapes Go.ChangeAt Go.RowKit Go.Maps

theorem rowO_two (w : World) (a b : Dop) : ∀ j u, (rowsO [a, b])[j]? = some u → (w.alloc (.cells #[.int .i64 a.k, .string a.n, .string a.t, .string a.d, .int .i64 b.k, .string b.n, .string b.t, .string b.d] 37)).cell? ((⟨w.heap.size, 0, none⟩ : Addr).add j) = some u := by
  intro j u hu
  rw [add_noneD, Nat.zero_add]
  have := World.cell?_alloc_mark w #[.int .i64 a.k, .string a.n, .string a.t, .string a.d, .int .i64 b.k, .string b.n, .string b.t, .string b.d] 37 (0, 0) j
  rw [this]; simpa [rowsO, Dop.row] using hu
/-- two ops behind ops that the call owns -/
theorem appTwo (W : World) (base : Nat) (v : Value) (os : List Dop) (a b : Dop) (ty : TypeId) (g : Nat) (hown : W.ownsRow base 37 4 v os.length (rowsO os)) (hb : base ≤ W.heap.size) (hx : ∀ j u, (rowsO [a, b])[j]? = some u → W.cell? ((⟨g, 0, none⟩ : Addr).add j) = some u) (hl : os.length ≤ 1000) :
    ∃ v' w', (Builtin.append_ #[31, 31] ty #[v, .slice (some ⟨g, 0, none⟩) 2 2]).run Try.prog W = .ok v' w' ∧ w'.ownsRow base 37 4 v' (os ++ [a, b]).length (rowsO (os ++ [a, b])) ∧ Below base W w' := by
  obtain ⟨iF, hiF, z0, z1, z2⟩ := info_parts info_dop
  obtain ⟨v', w', hr, h2, h3, h4, h5⟩ := run_append_own_at (P := Try.prog) W base 31 ty 37 iF (.agg #[.int .i64 0, .string ⟨#[]⟩, .string ⟨#[]⟩, .string ⟨#[]⟩]) 4 56 Try.underlying31 hiF z0 z1 z2 rfl (by decide) v os.length (rowsO os) hown ⟨g, 0, none⟩ 2 2 (rowsO [a, b]) rfl hx (rowO_ones _) (by unfold maxLen; omega) (by omega) hb
  refine ⟨v', w', hr, ?_, ⟨h3.os, h3.tape, h3.output, h3.size, fun k hk => h3.block k (by omega) (fun e => by have := (hown.lt k e.symm).1; omega)⟩⟩
  have e1 : rowsO (os ++ [a, b]) = rowsO os ++ rowsO [a, b] := by simp [rowsO]
  rw [e1, List.length_append]; exact h2
def OpsTo (w : World) (ops : List Dop) (e : Ending) (w' : World) : Prop := ∃ v, e = .returned v ∧ w'.ownsRow w.heap.size 37 4 v ops.length (rowsO ops) ∧ Below w.heap.size w w'
theorem opsTo_mk {w w' : World} {ops ops' : List Dop} {v : Value} (h : ops' = ops) (ho : w'.ownsRow w.heap.size 37 4 v ops.length (rowsO ops)) (hB : Below w.heap.size w w') : OpsTo w ops' (.returned v) w' := by rw [h]; exact ⟨v, rfl, ho, hB⟩

set_option maxRecDepth 8000 in
set_option maxHeartbeats 2000000 in
theorem replaceOps_any (ad : Option Addr) (cap : Nat) (ls : List Fl) (x d : ByteArray) (w : World) (hl : ls.length ≤ 1048576) (hS : SlF w ad ls) (hx : x.size ≤ 1048576) :
    Calls Try.prog 68 #[.slice ad ls.length cap, .string x, .string d] w (OpsTo w (repOps ls x d)) := by
  have HS := HIDk hS
  have hxs : x.size + 4 ≤ 9223372036854775807 := by omega
  clear hS
  go_enter Try.func68, Try.ntmps68
  go_wp2_with fail
  refine (dataIn_any ad cap ls (x ++ dotNew) w hl HS.out).mono ?_
  rintro e w1 ⟨rfl, hb1⟩
  have HB1 := HIDk hb1
  clear hb1
  cases hh : hasF ls (x ++ dotNew) with
  | false =>
    have HR : Hid (repOps ls x d = [] ++ [opAdd x d, opRen x]) := by show _ = _; rw [repOps, hh]; rfl
    obtain ⟨X2, hX2⟩ : ∃ X, X = w1.alloc (.cells #[.int .i64 1, .string (x ++ dotNew), .string ⟨#[]⟩, .string d, .int .i64 2, .string (x ++ dotNew), .string x, .string ⟨#[]⟩] 37) := ⟨_, rfl⟩
    have hb2 : Below w1.heap.size w1 X2 := by rw [hX2]; exact (Below.refl _ _).alloc (Nat.le_refl _) _
    obtain ⟨v', w', hr, hO, hB⟩ := appTwo X2 w.heap.size (.slice none 0 0) [] (opAdd x d) (opRen x) 31 w1.heap.size (World.ownsRow_nil _ _ _ _) (Nat.le_trans HB1.out.size hb2.size) (by rw [hX2]; exact rowO_two w1 (opAdd x d) (opRen x)) (by simp)
    have HO := HIDk hO
    have HR2 := HIDk hr
    have HBe := HIDk ((HB1.out.trans (hb2.mono HB1.out.size)).trans hB)
    clear hO hr hB hb2 hh
    unfold dotNew at hX2
    go_wp2_with (at_builtin; rw [← hX2]; clear hX2; refine wpList_append_run rfl _ _ 31 31 rfl (.slice none 0 0) (.slice (some ⟨w1.heap.size, 0, none⟩) 2 2) v' w' rfl rfl HR2.out ?_)
    go_wp2
    go_ret
    exact opsTo_mk HR.out HO.out HBe.out
  | true =>
    have HR : Hid (repOps ls x d = [opRem x] ++ [opAdd x d, opRen x]) := by show _ = _; rw [repOps, if_pos hh]; rfl
    obtain ⟨X2, hX2⟩ : ∃ X, X = w1.alloc (.cells #[.int .i64 3, .string (x ++ dotNew), .string ⟨#[]⟩, .string ⟨#[]⟩] 37) := ⟨_, rfl⟩
    have hb2 : Below w1.heap.size w1 X2 := by rw [hX2]; exact (Below.refl _ _).alloc (Nat.le_refl _) _
    obtain ⟨ad3, cap3, w3, hr3, hO3, halt⟩ := appOp X2 w.heap.size none 0 [] (opRem x) w1.heap.size 31 (World.ownsRow_nil _ _ _ _) (Nat.le_trans HB1.out.size hb2.size) (fun _ => rfl) (by rw [hX2]; exact rowO_news w1 (opRem x)) (by simp)
    have hB3 : Below w.heap.size w w3 := (HB1.out.trans (hb2.mono HB1.out.size)).trans (app_below halt (Nat.le_trans HB1.out.size hb2.size) (fun k hk => by cases hk))
    obtain ⟨X4, hX4⟩ : ∃ X, X = w3.alloc (.cells #[.int .i64 1, .string (x ++ dotNew), .string ⟨#[]⟩, .string d, .int .i64 2, .string (x ++ dotNew), .string x, .string ⟨#[]⟩] 37) := ⟨_, rfl⟩
    have hb4 : Below w3.heap.size w3 X4 := by rw [hX4]; exact (Below.refl _ _).alloc (Nat.le_refl _) _
    obtain ⟨v', w', hr, hO, hB⟩ := appTwo X4 w.heap.size (.slice ad3 ([] ++ [opRem x]).length cap3) [opRem x] (opAdd x d) (opRen x) 31 w3.heap.size (own_later hO3 hb4) (Nat.le_trans hB3.size hb4.size) (by rw [hX4]; exact rowO_two w3 (opAdd x d) (opRen x)) (by simp)
    have HO := HIDk hO
    have HR3 := HIDk hr3
    have HR2 := HIDk hr
    have HBe := HIDk ((hB3.trans (hb4.mono hB3.size)).trans hB)
    clear hO hr hB hb2 hb4 hh hr3 hO3 halt hB3
    unfold dotNew at hX2 hX4
    go_wp2_with (first | (at_builtin; rw [← hX2]; clear hX2; refine wpList_append_run rfl _ _ 31 31 rfl (.slice none 0 0) (.slice (some ⟨w1.heap.size, 0, none⟩) 1 1) (.slice ad3 1 cap3) w3 rfl rfl HR3.out ?_) | (at_builtin; rw [← hX4]; clear hX4; refine wpList_append_run rfl _ _ 31 31 rfl (.slice ad3 1 cap3) (.slice (some ⟨w3.heap.size, 0, none⟩) 2 2) v' w' rfl rfl HR2.out ?_))
    go_ret
    exact opsTo_mk HR.out HO.out HBe.out

theorem drop_get {os : List Dop} {k : Nat} (h : k < os.length) : os.drop k = os[k] :: os.drop (k + 1) := List.drop_eq_getElem_cons h
theorem repOps_len (ls : List Fl) (x d : ByteArray) : (repOps ls x d).length ≤ 3 := by unfold repOps; split <;> simp
theorem repOps_small {ls : List Fl} {x d : ByteArray} (hx : x.size ≤ 1048576) (hd : d.size ≤ 1048576) : ∀ o ∈ repOps ls x d, o.small := fun o ho => by
  obtain ⟨h1, h2, h3⟩ := op_small hx hd
  unfold repOps at ho
  split at ho <;> simp at ho
  · rcases ho with rfl | rfl | rfl
    · exact h1
    · exact h2
    · exact h3
  · rcases ho with rfl | rfl
    · exact h2
    · exact h3
/-- the disk as it is now: right, in rows of its own, none of them the box -/
structure NowR (w : World) (m : Nat) (ls ss : List Fl) (os : List Dop) (x d : ByteArray) (k : Nat) (L : List Fl) (O : List Dop) (n1 n2 n3 : Option Addr) (c1 c2 : Nat) (W : World) : Prop where
  own : OwnD W (w.heap.size + 2) n1 n2 n3 L ss O
  ne : ∀ g, InD n1 n2 n3 L ss O g → g ≠ m
  nil : Nils n1 n2 c1 c2
  ok : diskB L ss O = true
  small : ∀ o ∈ O, o.small
  run : repR ls os x d = actRun ((repOps ls x d).drop k) L O
  bel : Below w.heap.size w W
theorem diskB_len {L ss : List Fl} {O : List Dop} (h : diskB L ss O = true) : L.length ≤ 60 ∧ (∀ f ∈ L, f.n.size ≤ maxLen ∧ f.d.size ≤ 200000) ∧ O.length ≤ 200 ∧ ss.length ≤ 60 ∧ (∀ f ∈ ss, f.n.size ≤ maxLen ∧ f.d.size ≤ 200000) := by
  obtain ⟨h1, h2, h3⟩ := diskB_facts h
  exact ⟨(filesB_facts h1).1, (filesB_facts h1).2, h3, (filesB_facts h2).1, (filesB_facts h2).2⟩
theorem d_yes {L ss : List Fl} {O : List Dop} {o : Dop} (h : diskB L ss O = true) : dL L ss O o = actL L O o ∧ dS L ss O = ss ∧ dO L ss O o = actO L O o ∧ dC L ss O o = actC L O o := ⟨by rw [dL, if_pos h], by rw [dS, if_pos h], by rw [dO, if_pos h], by rw [dC, if_pos h]⟩
end Go.Proofs.Ytbfimfmfdllejaa

/- Contract of the program's Replace. -/
namespace Go.Proofs.Ytbfimfmfdllejaa
open Go.ChangeShapes Go.WideShapes Go.ChangeAt Go.RowKit Go.Maps

theorem slO_set {W : World} {m : Nat} {ad : Option Addr} {xs : List Dop} {b : Nat} (h : SlO W ad xs ∧ FrF W b ad (xs ≠ [])) (hm : m < b) (x y z : Value) : SlO (((W.setCell ⟨m, 0, none⟩ x).setCell ⟨m, 1, none⟩ y).setCell ⟨m, 2, none⟩ z) ad xs ∧ FrF (((W.setCell ⟨m, 0, none⟩ x).setCell ⟨m, 1, none⟩ y).setCell ⟨m, 2, none⟩ z) b ad (xs ≠ []) := by
  have hC : Chg (fun g => g = m) W (((W.setCell ⟨m, 0, none⟩ x).setCell ⟨m, 1, none⟩ y).setCell ⟨m, 2, none⟩ z) := ((Chg.set (S := fun g => g = m) x rfl).trans (Chg.set (S := fun g => g = m) y rfl)).trans (Chg.set (S := fun g => g = m) z rfl)
  refine ⟨h.1.chg hC (fun g o hn e hg => ?_), h.2.chg hC⟩
  obtain ⟨g', e', h1, -⟩ := h.2 hn
  rw [e] at e'; injection e' with e'; injection e' with e'; omega
set_option maxRecDepth 8000 in
set_option maxHeartbeats 3000000 in
theorem implReplace_any (adL adS adO : Option Addr) (capL capS capO : Nat) (ls ss : List Fl) (os : List Dop) (x d : ByteArray) (w : World) (hl : ls.length ≤ 1048576) (hs : ss.length ≤ 1048576) (ho : os.length ≤ 1048576)
    (H : Dk w adL adS adO ls ss os w) (fl : ∀ f ∈ ls, f.n.size ≤ maxLen ∧ f.d.size ≤ 4194304) (fs' : ∀ f ∈ ss, f.n.size ≤ maxLen ∧ f.d.size ≤ 4194304) (fo : ∀ o ∈ os, o.small) (hx : x.size ≤ 1048576) (hd' : d.size ≤ 1048576) :
    Calls Try.prog 32 #[.agg #[.slice adL ls.length capL, .slice adS ss.length capS, .slice adO os.length capO], .string x, .string d] w (ActTo w (rL ls ss os x d) (dS ls ss os) (rO ls ss os x d) (rC ls ss os x d)) := by
  obtain ⟨W2, hW2⟩ : ∃ W2, W2 = (w.alloc (.cells #[.slice adL ls.length capL, .slice adS ss.length capS, .slice adO os.length capO] 33)).alloc (.cells #[.slice none 0 0, .slice none 0 0, .slice none 0 0] 33) := ⟨_, rfl⟩
  obtain ⟨z0, z1, z2, q0, q1, q2, qf, hw2⟩ := box2 w (.slice adL ls.length capL) (.slice adS ss.length capS) (.slice adO os.length capO) 33 33
  rw [← hW2] at z0 z1 z2 q0 q1 q2 qf hw2
  have hb2 : Below w.heap.size w W2 := by rw [hW2]; exact ((Below.refl _ _).alloc (Nat.le_refl _) _).alloc (by simp) _
  have K0 := HIDk (H.later hb2)
  have HX : Hid (Box2 w (.slice adL ls.length capL) (.slice adS ss.length capS) (.slice adO os.length capO) W2) := ⟨z0, z1, z2, q0, q1, q2, qf, hw2⟩
  have HH := HIDk H
  have HFL := HIDk fl
  have HFS := HIDk fs'
  have HFO := HIDk fo
  have HOP := HIDk (repOps_small (ls := ls) hx hd')
  clear H hb2 z0 z1 z2 q0 q1 q2 qf hw2 fl fs' fo
  go_enter Try.func32, Try.ntmps32
  go_wp2_with fail
  rw [← hW2]
  clear hW2
  refine (implDiskOk_any adL adS adO capL capS capO ls ss os W2 hl hs ho (dk_self K0.out) HFL.out HFS.out HFO.out).mono ?_
  rintro e w1 ⟨rfl, hb1⟩
  have K1 := HIDk (K0.out.later hb1)
  have HY := HIDk (HX.out.later hb1)
  clear hb1 K0 HX
  obtain ⟨z0, z1, z2, q0, q1, q2, qf, hw2⟩ := HY.out
  cases hd : diskB ls ss os with
  | false =>
    have HE := HIDk (rep_nil (x := x) (d := d) hd)
    clear hd
    go_wp2
    refine bodyPost_ret (v := .tuple #[.agg #[.slice none 0 0, .slice none 0 0, .slice none 0 0], .int .i64 1]) (by simp [results, Try.results32, go_sem, *]) rfl (actTo_eq HE.out.1 HE.out.2.1 HE.out.2.2.1 HE.out.2.2.2 (actTo_nil (below3 K1.out.bel (by omega) _ _ _)))
  | true =>
    have HDB := HIDk hd
    clear hd q0 q1 q2 qf
    go_wp2_with fail
    refine (copyDisk_any adL adS adO capL capS capO ls ss os w1 hl hs ho (dk_self K1.out)).mono ?_
    rintro e w2 ⟨v2, rfl, ⟨a1, a2, a3, p1, p2, p3, rfl, hS, hcS, -, -⟩, hb2⟩
    obtain ⟨X3, hX3⟩ : ∃ X, X = w2.alloc (.cells #[.slice a1 ls.length p1, .slice a2 ss.length p2, .slice a3 os.length p3] 33) := ⟨_, rfl⟩
    have hb3 : Below w2.heap.size w2 X3 := by rw [hX3]; exact (Below.refl _ _).alloc (Nat.le_refl _) _
    have CX : Cl w2 (.slice a1 ls.length p1) (.slice a2 ss.length p2) (.slice a3 os.length p3) X3 := by rw [hX3]; exact cl_new _ _ _ _ _
    have S3 : Hid (X3.heap.size = w2.heap.size + 1) := by rw [hX3]; show _ = _; simp
    have s2 := hb2.size
    obtain ⟨y0, y1, y2, s0, s1, s2', sf, -⟩ := (HY.out.later hb2).later hb3
    have B3 : Hid (BoxN w w2.heap.size (.slice adL ls.length capL) (.slice adS ss.length capS) (.slice adO os.length capO) (.slice a1 ls.length p1) (.slice a2 ss.length p2) (.slice a3 os.length p3) X3) := ⟨y0, y1, y2, s0, s1, s2', sf, CX.c0, CX.c1, CX.c2, fun i => by rw [hX3]; exact fz0 _ _ _ i, by omega, CX.lt⟩
    have K3 := HIDk ((K1.out.later hb2).later hb3)
    have N3 : Hid (NowR w w2.heap.size ls ss os x d 0 ls os a1 a2 a3 p1 p2 X3) := ⟨(hS.below hb3).mono (by omega), fun g hg e => by have := (hS.inD hg).2; omega, hcS, HDB.out, HFO.out, rfl, K3.out.bel⟩
    clear hS hcS hb2 hb3 CX z0 z1 z2 y1 y2 s0 s1 s2' sf HY K1
    rw [hX3] at y0
    go_wp2_with fail
    rw [← hX3]
    clear hX3 y0
    refine (replaceOps_any adL capL ls x d X3 hl K3.out.live hx).mono ?_
    rintro e w4 ⟨vQ, rfl, hownQ, hb4⟩
    obtain ⟨adQ, capQ, rfl, hsQ, hfQ⟩ := own_ops hownQ rfl
    obtain ⟨ops, hops⟩ : ∃ ops, ops = repOps ls x d := ⟨_, rfl⟩
    have HOS := HIDk hops
    rw [← hops] at hsQ hfQ
    rw [← hops]
    have l3 : ops.length ≤ 3 := by rw [hops]; exact repOps_len ls x d
    have B4 := HIDk (B3.out.later hb4)
    have N4 : Hid (NowR w w2.heap.size ls ss os x d 0 ls os a1 a2 a3 p1 p2 w4) := ⟨N3.out.own.below hb4, N3.out.ne, N3.out.nil, N3.out.ok, N3.out.small, N3.out.run, N3.out.bel.trans (hb4.mono N3.out.bel.size)⟩
    have Q4 : Hid (SlO w4 adQ ops ∧ FrF w4 X3.heap.size adQ (ops ≠ [])) := ⟨hsQ, hfQ⟩
    clear hownQ hsQ hfQ hb4 hops B3 N3 K3
    go_wp2_with fail
    go_loopw [25] (fun i wr => ∃ (k : Nat) (L : List Fl) (O : List Dop) (n1 n2 n3 : Option Addr) (c1 c2 c3 : Nat), k ≤ ops.length ∧ i = .int .i64 (k : Int) ∧ Hid (NowR w w2.heap.size ls ss os x d k L O n1 n2 n3 c1 c2 wr) ∧ Hid (BoxN w w2.heap.size (.slice adL ls.length capL) (.slice adS ss.length capS) (.slice adO os.length capO) (.slice n1 L.length c1) (.slice n2 ss.length c2) (.slice n3 O.length c3) wr) ∧ Hid (SlO wr adQ ops ∧ FrF wr X3.heap.size adQ (ops ≠ []))) (fun i _ => ops.length - (intOf i).toNat)
    case atStart => exact ⟨0, ls, os, a1, a2, a3, p1, p2, p3, Nat.zero_le _, rfl, N4, B4, Q4⟩
    case round =>
      clear N4 B4 Q4
      obtain ⟨k, L, O, n1, n2, n3, c1, c2, c3, hk, rfl, HN, HB, HQ⟩ := hrel
      by_cases hlt : k < ops.length
      · obtain ⟨b, off, rfl, hbO, hr⟩ : ∃ b off, adQ = some ⟨b, off, none⟩ ∧ b < wr.heap.size ∧ AtO wr b (off + k * 4) ops[k] := by
          rcases HQ.out.1 with hnil | ⟨b, off, e, hbO, hr⟩
          · rw [hnil] at hlt; simp at hlt
          · exact ⟨b, off, e, hbO, hr k hlt⟩
        obtain ⟨t0, t1, t2, t3⟩ := hr
        have k0 : (0 : Int) ≤ (k : Int) := by omega
        have k1 : (k : Int) < (ops.length : Int) := by omega
        obtain ⟨u1, u2, u3, u4, u5⟩ := diskB_len HN.out.ok
        obtain ⟨X5, hX5⟩ : ∃ X, X = wr.alloc (.cells #[.int .i64 ops[k].k, .string ops[k].n, .string ops[k].t, .string ops[k].d] 37) := ⟨_, rfl⟩
        have hb5 : Below wr.heap.size wr X5 := by rw [hX5]; exact (Below.refl _ _).alloc (Nat.le_refl _) _
        have HD := HIDk (implDo_any n1 n2 n3 c1 c2 c3 L ss O ops[k] X5 (by omega) (by omega) (by omega) (own_dk (HN.out.own.below hb5)) (fun f hf => ⟨(u2 f hf).1, by have := (u2 f hf).2; omega⟩) (fun f hf => ⟨(u5 f hf).1, by have := (u5 f hf).2; omega⟩) HN.out.small (HOP.out ops[k] (by rw [← HOS.out]; exact List.getElem_mem hlt)))
        have B5 := HIDk (HB.out.later hb5)
        have Q5 : Hid (SlO X5 (some ⟨b, off, none⟩) ops ∧ FrF X5 X3.heap.size (some ⟨b, off, none⟩) (ops ≠ [])) := ⟨HQ.out.1.below hb5, HQ.out.2.below hb5⟩
        have E5 := HIDk (HN.out.bel.trans (hb5.mono HN.out.bel.size))
        have HDY := HIDk (d_yes (o := ops[k]) HN.out.ok)
        have HRUN : Hid (repR ls os x d = actRun (ops[k] :: ops.drop (k + 1)) L O) := by rw [← drop_get hlt]; have := HN.out.run; rw [← HOS.out] at this; exact this
        clear u1 u2 u3 u4 u5 hb5 hbO
        obtain ⟨-, -, -, -, -, -, -, m0, m1, m2, -, -, -⟩ := B5.out
        rw [hX5] at m0 m1 m2
        go_wp2_with fail
        rw [← hX5]
        clear hX5 m0 m1 m2 t0 t1 t2 t3
        refine HD.out.mono ?_
        rw [HDY.out.1, HDY.out.2.1, HDY.out.2.2.1, HDY.out.2.2.2]
        rintro e w6 ⟨v6, rfl, ⟨e1, e2, e3, f1, f2, f3, rfl, hS6, hc6⟩, hb6⟩
        obtain ⟨c, hcd⟩ : ∃ c, c = actC L O ops[k] := ⟨_, rfl⟩
        obtain ⟨L', hL'⟩ : ∃ y, y = actL L O ops[k] := ⟨_, rfl⟩
        obtain ⟨O', hO'⟩ : ∃ y, y = actO L O ops[k] := ⟨_, rfl⟩
        rw [← hL', ← hO'] at hS6
        rw [← hL', ← hO', ← hcd]
        obtain ⟨Y7, hY7⟩ : ∃ X, X = w6.alloc (.cells #[.slice e1 L'.length f1, .slice e2 ss.length f2, .slice e3 O'.length f3] 33) := ⟨_, rfl⟩
        have hb7 : Below w6.heap.size w6 Y7 := by rw [hY7]; exact (Below.refl _ _).alloc (Nat.le_refl _) _
        have B7 := HIDk ((B5.out.later hb6).later hb7)
        have E7 := HIDk ((E5.out.trans (hb6.mono E5.out.size)).trans (hb7.mono (Nat.le_trans E5.out.size hb6.size)))
        have S7 := HIDk (hS6.below hb7)
        have Q7 : Hid (SlO Y7 (some ⟨b, off, none⟩) ops ∧ FrF Y7 X3.heap.size (some ⟨b, off, none⟩) (ops ≠ [])) := ⟨(Q5.out.1.below hb6).below hb7, (Q5.out.2.below hb6).below hb7⟩
        have C7 : Cl w6 (.slice e1 L'.length f1) (.slice e2 ss.length f2) (.slice e3 O'.length f3) Y7 := by rw [hY7]; exact cl_new _ _ _ _ _
        have HM5 : Hid (w2.heap.size < X5.heap.size ∧ w.heap.size + 2 ≤ X5.heap.size) := ⟨B5.out.sz, by have := B5.out.n2; have := B5.out.sz; omega⟩
        have HC6 := HIDk hc6
        clear hS6 hc6 hb6 hb7 HD B5 E5 Q5 HB HQ HDY
        by_cases hc : c = 0
        · have hact : actC L O ops[k] = 0 := by rw [← hcd]; exact hc
          obtain ⟨hy1, hy2⟩ := act_yes hact
          have hL2 := hL'.trans hy1
          have hO2 := hO'.trans hy2
          obtain ⟨Z, hZ⟩ : ∃ X, X = ((Y7.setCell ⟨w2.heap.size, 0, none⟩ (.slice e1 L'.length f1)).setCell ⟨w2.heap.size, 1, none⟩ (.slice e2 ss.length f2)).setCell ⟨w2.heap.size, 2, none⟩ (.slice e3 O'.length f3) := ⟨_, rfl⟩
          have BZ : Hid (BoxN w w2.heap.size (.slice adL ls.length capL) (.slice adS ss.length capS) (.slice adO os.length capO) (.slice e1 L'.length f1) (.slice e2 ss.length f2) (.slice e3 O'.length f3) Z) := by rw [hZ]; exact B7.out.set _ _ _
          have QZ : Hid (SlO Z (some ⟨b, off, none⟩) ops ∧ FrF Z X3.heap.size (some ⟨b, off, none⟩) (ops ≠ [])) := by rw [hZ]; exact slO_set Q7.out (by have := S3.out; omega) _ _ _
          have NZ : Hid (NowR w w2.heap.size ls ss os x d (k + 1) L' O' e1 e2 e3 f1 f2 Z) := by
            refine ⟨?_, fun g hg e => ?_, HC6.out, ?_, fun o ho' => ?_, ?_, ?_⟩
            · rw [hZ]; exact (own3 S7.out HM5.out.1 _ _ _).mono HM5.out.2
            · have h1 := (S7.out.inD hg).1; have := HM5.out.1; omega
            · rw [hL2, hO2]; exact diskB_act HN.out.ok hact
            · rw [hO2] at ho'
              rcases List.mem_append.1 ho' with h | h
              · exact HN.out.small o h
              · simp at h; rw [h]; exact HOP.out ops[k] (by rw [← HOS.out]; exact List.getElem_mem hlt)
            · rw [← HOS.out, hL2, hO2]; exact HRUN.out.trans (run_go hact)
            · rw [hZ]; exact below3 E7.out (by have := B7.out.n2; omega) _ _ _
          obtain ⟨-, -, -, -, -, -, -, m0, m1, m2, mf, -, -⟩ := B7.out
          obtain ⟨-, d0, d1, d2⟩ := C7
          rw [hY7] at m0 m1 m2 mf d0 d1 d2 hZ
          subst hc
          clear hact hy1 hy2 hL2 hO2 hL' hO' hcd HN HRUN B7 E7 S7 Q7 HM5 HC6
          go_wp2
          rw [← hZ]
          go_roundw
          case rel => exact ⟨k + 1, L', O', e1, e2, e3, f1, f2, f3, by omega, by go_num, NZ, BZ, QZ⟩
          case measure => simp [intOf]; omega
        · have HE := HIDk (rep_no HDB.out (HRUN.out.trans (by rw [run_stop (by rw [← hcd]; exact hc), ← hcd])) hc)
          have hcb := kNe hc
          obtain ⟨y0, y1, y2, -, -, -, -, -, -, -, -, -, -⟩ := B7.out
          rw [hY7] at y0 y1 y2
          clear hc hcd hL' hO' HN HRUN S7 Q7 HM5 HC6 C7
          go_wp2_with fail
          rw [← hY7]
          clear hY7 y0 y1 y2
          refine (copyDisk_any adL adS adO capL capS capO ls ss os Y7 hl hs ho (dk_self (HH.out.later E7.out))).mono ?_
          rintro e wf ⟨vf, rfl, ⟨b1, b2, b3, r1, r2, r3, rfl, hSf, hcf, -, -⟩, hbf⟩
          have HSf := HIDk (hSf.mono (b' := w.heap.size + 2) (by have := B7.out.n2; have := B7.out.sz; omega))
          have HBf := HIDk (E7.out.trans (hbf.mono E7.out.size))
          obtain ⟨-, -, -, q0, q1, q2, qf, -, -, -, -, -, -⟩ := B7.out.later hbf
          clear hSf hbf
          go_wp2
          refine bodyPost_ret (v := .tuple #[.agg #[.slice b1 ls.length r1, .slice b2 ss.length r2, .slice b3 os.length r3], .int .i64 c]) (by simp [results, Try.results32, go_sem, *]) rfl (actTo_eq HE.out.1 HE.out.2.1 HE.out.2.2.1 HE.out.2.2.2 (actTo_mk ((own3 HSf.out (show w.heap.size + 1 < w.heap.size + 2 by omega) _ _ _).mono (show w.heap.size ≤ w.heap.size + 2 by omega)) hcf (below3 HBf.out (show w.heap.size ≤ w.heap.size + 1 by omega) _ _ _)))
      · obtain rfl : k = ops.length := by omega
        have HE := HIDk (rep_yes HDB.out (by have := HN.out.run; rw [← HOS.out, List.drop_length] at this; exact this))
        obtain ⟨-, -, -, q0, q1, q2, qf, m0, m1, m2, -, -, -⟩ := HB.out
        go_wp2
        refine bodyPost_ret (v := .tuple #[.agg #[.slice n1 L.length c1, .slice n2 ss.length c2, .slice n3 O.length c3], .int .i64 0]) (by simp [results, Try.results32, go_sem, *]) rfl (actTo_eq HE.out.1 HE.out.2.1 HE.out.2.2.1 HE.out.2.2.2 (actTo_mk ((own3 HN.out.own (show w.heap.size + 1 < w.heap.size + 2 by omega) _ _ _).mono (show w.heap.size ≤ w.heap.size + 2 by omega)) HN.out.nil (below3 HN.out.bel (show w.heap.size ≤ w.heap.size + 1 by omega) _ _ _)))

theorem actRun_len : ∀ (t : List Dop) {L : List Fl} {O : List Dop} {n : Nat}, L.length ≤ 60 → O.length ≤ n → (actRun t L O).1.length ≤ 60 ∧ (actRun t L O).2.1.length ≤ n + t.length
  | [], L, O, n, h1, h2 => ⟨h1, by simpa [actRun] using h2⟩
  | o :: t, L, O, n, h1, h2 => by
    by_cases h : actC L O o = 0
    · rw [run_go h]
      have := actRun_len t (L := (doF L o).1) (O := O ++ [o]) (n := n + 1) (filesB_facts (act_good h).1).1 (by rw [List.length_append]; simp; omega)
      exact ⟨this.1, by have := this.2; simp; omega⟩
    · rw [run_stop h]
      exact ⟨h1, by simp; omega⟩
theorem rL_len {ls ss : List Fl} {os : List Dop} {x d : ByteArray} (h : ls.length ≤ 1048576) : (rL ls ss os x d).length ≤ 1048576 := by
  unfold rL
  split
  · rename_i hd
    obtain ⟨h1, -, h3, -⟩ := diskB_len hd
    split
    · have := (actRun_len (repOps ls x d) (L := ls) (O := os) h1 h3).1; unfold repR; omega
    · exact h
  · simp
theorem rO_len {ls ss : List Fl} {os : List Dop} {x d : ByteArray} (h : os.length ≤ 1048576) : (rO ls ss os x d).length ≤ 1048576 := by
  unfold rO
  split
  · rename_i hd
    obtain ⟨h1, -, h3, -⟩ := diskB_len hd
    split
    · have := (actRun_len (repOps ls x d) (L := ls) (O := os) h1 h3).2; have := repOps_len ls x d; unfold repR; omega
    · exact h
  · simp
theorem dS_len {ls ss : List Fl} {os : List Dop} (h : ss.length ≤ 1048576) : (dS ls ss os).length ≤ 1048576 := by unfold dS; split <;> simp_all
end Go.Proofs.Ytbfimfmfdllejaa

/- A file that is replaced is, behind any loss of power, the old one or the new one: told by plain lists. -/
namespace Go.Proofs.Ytbfimfmfdllejaa
open Go.RowKit

theorem has_iff {fs : List Fl} {x : ByteArray} : hasF fs x = true ↔ ∃ f ∈ fs, f.n = x := by
  unfold hasF
  cases e : atF fs x with
  | none =>
    have := atF_none_iff.1 e
    simp only [Option.isSome_none, Bool.false_eq_true, false_iff]
    rintro ⟨f, hf, hn⟩
    exact this f hf hn
  | some k =>
    obtain ⟨f, hf, hn, -⟩ := atF_get e
    simp only [Option.isSome_some, true_iff]
    exact ⟨f, hf, hn⟩
theorem has_no {fs : List Fl} {x : ByteArray} (h : hasF fs x = false) : ∀ f ∈ fs, f.n ≠ x := fun f hf e => by
  have := has_iff.2 ⟨f, hf, e⟩
  rw [h] at this; cases this
theorem read_same {fs gs : List Fl} {x : ByteArray} (hu : UpL fs) (hv : UpL gs) (h : ∀ f, f.n = x → (f ∈ fs ↔ f ∈ gs)) : hasF fs x = hasF gs x ∧ dataF fs x = dataF gs x := by
  have hb : hasF fs x = hasF gs x := by
    rw [Bool.eq_iff_iff, has_iff, has_iff]
    exact ⟨fun ⟨f, hf, e⟩ => ⟨f, (h f e).1 hf, e⟩, fun ⟨f, hf, e⟩ => ⟨f, (h f e).2 hf, e⟩⟩
  refine ⟨hb, ?_⟩
  cases e : hasF fs x with
  | false => rw [dataF_none (has_no e), dataF_none (has_no (hb ▸ e))]
  | true =>
    obtain ⟨f, hf, hn⟩ := has_iff.1 e
    subst hn
    rw [dataF_of hu hf, dataF_of hv ((h f rfl).1 hf)]
theorem read_ins {fs : List Fl} {x d : ByteArray} (hu : UpL fs) : hasF (insF x d fs) x = true ∧ dataF (insF x d fs) x = d := by
  have hm : (⟨x, d⟩ : Fl) ∈ insF x d fs := (insF_mem x d fs _).2 (.inl rfl)
  exact ⟨has_iff.2 ⟨_, hm, rfl⟩, dataF_of (insF_up x d hu) hm⟩
theorem ins_len (x d d' : ByteArray) : ∀ fs : List Fl, (insF x d fs).length = (insF x d' fs).length
  | [] => by simp [insF]
  | f :: l => by
    rw [insF, insF]
    by_cases hc : lessS f.n x = true
    · rw [if_pos hc, if_pos hc, List.length_cons, List.length_cons, ins_len x d d' l]
    · rw [if_neg hc, if_neg hc, List.length_cons, List.length_cons]
theorem ins_sum (x d d' : ByteArray) (h : d.size ≤ d'.size) : ∀ fs : List Fl, sumF (insF x d fs) ≤ sumF (insF x d' fs)
  | [] => by simp [insF, sumF]; exact h
  | f :: l => by
    have ih := ins_sum x d d' h l
    rw [insF, insF]
    by_cases hc : lessS f.n x = true
    · rw [if_pos hc, if_pos hc]
      simp only [sumF, List.map_cons, List.sum_cons] at ih ⊢
      omega
    · rw [if_neg hc, if_neg hc]
      simp only [sumF, List.map_cons, List.sum_cons]
      omega
theorem other_ne (x : ByteArray) : x ++ dotNew ≠ x := fun e => by
  have := congrArg ByteArray.size e
  rw [ByteArray.size_append, dotNew_size] at this
  omega
theorem files_right {fs : List Fl} (h : filesB fs = true) : diskB fs fs [] = true := by
  rw [diskB, h]
  show (true && true && decide (0 ≤ 200) && sameB fs fs) = true
  rw [same_refl]; rfl
theorem rep_run {L : List Fl} {x d : ByteArray} (hno : hasF L (x ++ dotNew) = false) (hc : (repR L [] x d).2.2 = 0) :
    actC L [] (opAdd x d) = 0 ∧ actC (doF L (opAdd x d)).1 [opAdd x d] (opRen x) = 0 ∧ repR L [] x d = ((doF (doF L (opAdd x d)).1 (opRen x)).1, [opAdd x d, opRen x], 0) := by
  have e : repOps L x d = [opAdd x d, opRen x] := by rw [repOps, hno]; rfl
  unfold repR at hc ⊢
  rw [e] at hc ⊢
  by_cases h1 : actC L [] (opAdd x d) = 0
  · rw [run_go h1] at hc ⊢
    by_cases h2 : actC (doF L (opAdd x d)).1 ([] ++ [opAdd x d]) (opRen x) = 0
    · rw [run_go h2]
      exact ⟨h1, h2, rfl⟩
    · rw [run_stop h2] at hc
      exact absurd hc h2
  · rw [run_stop h1] at hc
    exact absurd hc h1
theorem ren_tear (x : ByteArray) (t : Nat) : tearO (opRen x) t = opRen x := tear_none t (show (⟨#[]⟩ : ByteArray).toList.isEmpty = true by rw [ByteArray.toList_eq]; rfl)
/-- the ways in which two ops are kept -/
def Kept2 (ks : List Int) : Prop := ks = [] ∨ ks = [0] ∨ ks = [1] ∨ ks = [0, 1]
theorem kept2_keep {ks : List Int} (h : Kept2 ks) : keepB ks 2 = true := by
  rcases h with rfl | rfl | rfl | rfl <;> decide
theorem replaced {L : List Fl} {x d : ByteArray} {ks : List Int} {t : Nat} (hd : diskB L L [] = true) (hno : hasF L (x ++ dotNew) = false) (hc : (repR L [] x d).2.2 = 0) (hk : Kept2 ks) :
    ∃ F2 : List Fl, repR L [] x d = (F2, [opAdd x d, opRen x], 0) ∧ diskB F2 L [opAdd x d, opRen x] = true ∧ hasF F2 x = true ∧ dataF F2 x = d ∧
      filesB (crUp L [opAdd x d, opRen x] ks t ks.length) = true ∧ ((hasF (crUp L [opAdd x d, opRen x] ks t ks.length) x = hasF L x ∧ dataF (crUp L [opAdd x d, opRen x] ks t ks.length) x = dataF L x) ∨ (hasF (crUp L [opAdd x d, opRen x] ks t ks.length) x = true ∧ dataF (crUp L [opAdd x d, opRen x] ks t ks.length) x = d)) := by
  obtain ⟨h1, h2, h3⟩ := rep_run hno hc
  have fL := (diskB_facts hd).1
  obtain ⟨uL, nL⟩ := filesB_up fL
  have hd0 : dataF L (x ++ dotNew) = ⟨#[]⟩ := dataF_none (has_no hno)
  have e1 : (doF L (opAdd x d)).1 = insF (x ++ dotNew) d L := by
    rw [doF_add L rfl]
    show insF (x ++ dotNew) (dataF L (x ++ dotNew) ++ d) L = _
    rw [hd0, empty_app]
  have u1 : UpL (insF (x ++ dotNew) d L) := insF_up _ _ uL
  obtain ⟨r1, r2⟩ := read_ins (x := x ++ dotNew) (d := d) uL
  have e2 : (doF (doF L (opAdd x d)).1 (opRen x)).1 = insF x d (cutF' (insF (x ++ dotNew) d L) (x ++ dotNew)) := by
    rw [e1, doF_ren _ rfl r1]
    show insF x (dataF (insF (x ++ dotNew) d L) (x ++ dotNew)) _ = _
    rw [r2]; rfl
  have g1 := act_good h1
  have g2 := act_good h2
  have hdA := diskB_act (diskB_act hd h1) h2
  obtain ⟨q1, q2⟩ := read_ins (x := x) (d := d) (cutF_up (x ++ dotNew) u1)
  refine ⟨_, h3, hdA, by rw [e2]; exact q1, by rw [e2]; exact q2, ?_⟩
  rcases hk with rfl | rfl | rfl | rfl
  · exact ⟨fL, .inl ⟨rfl, rfl⟩⟩
  · have k0 : keptO [opAdd x d, opRen x] [0] t 0 = tearO (opAdd x d) t := rfl
    have c1 : crUp L [opAdd x d, opRen x] [0] t 1 = insF (x ++ dotNew) (d.extract 0 (min d.size t)) L := by
      show (doF L (keptO [opAdd x d, opRen x] [0] t 0)).1 = _
      rw [k0, doF_add L rfl]
      show insF (x ++ dotNew) (dataF L (x ++ dotNew) ++ d.extract 0 (min d.size t)) L = _
      rw [hd0, empty_app]
    have hu := insF_up (x ++ dotNew) (d.extract 0 (min d.size t)) uL
    have hn : NamesL (insF (x ++ dotNew) (d.extract 0 (min d.size t)) L) := by
      have := (doF_right (o := tearO (opAdd x d) t) uL nL (form_tear t g1.2.1)).2
      rw [doF_add L rfl] at this
      exact fun f hf => this f (by
        show f ∈ insF (x ++ dotNew) (dataF L (x ++ dotNew) ++ d.extract 0 (min d.size t)) L
        rw [hd0, empty_app]; exact hf)
    have hf1 := g1.1
    rw [e1, filesB_eq u1 (filesB_up (by rw [← e1]; exact g1.1)).2] at hf1
    simp only [Bool.and_eq_true, decide_eq_true_eq] at hf1
    have c1' : crUp L [opAdd x d, opRen x] [0] t ([0] : List Int).length = insF (x ++ dotNew) (d.extract 0 (min d.size t)) L := c1
    have hs : (d.extract 0 (min d.size t)).size ≤ d.size := by rw [ByteArray.size_extract]; omega
    have hl := ins_len (x ++ dotNew) (d.extract 0 (min d.size t)) d L
    have hm := ins_sum (x ++ dotNew) _ d hs L
    rw [c1']
    refine ⟨?_, .inl (read_same hu uL fun f e => ?_)⟩
    · rw [filesB_eq hu hn, Bool.and_eq_true, decide_eq_true_eq, decide_eq_true_eq]
      exact ⟨by omega, by omega⟩
    · rw [insF_mem]
      constructor
      · rintro (rfl | h)
        · exact absurd e (other_ne x)
        · exact h.1
      · exact fun h => .inr ⟨h, by rw [e]; exact (other_ne x).symm⟩
  · have k0 : keptO [opAdd x d, opRen x] [1] t 0 = tearO (opRen x) t := rfl
    have c1 : crUp L [opAdd x d, opRen x] [1] t 1 = L := by
      show (doF L (keptO [opAdd x d, opRen x] [1] t 0)).1 = _
      rw [k0, ren_tear, doF_none L (show (2 : Int) ≠ 1 by decide) hno]
    have c1' : crUp L [opAdd x d, opRen x] [1] t ([1] : List Int).length = L := c1
    rw [c1']
    exact ⟨fL, .inl ⟨rfl, rfl⟩⟩
  · have k0 : keptO [opAdd x d, opRen x] [0, 1] t 0 = opAdd x d := rfl
    have k1 : keptO [opAdd x d, opRen x] [0, 1] t 1 = tearO (opRen x) t := rfl
    have c2 : crUp L [opAdd x d, opRen x] [0, 1] t 2 = insF x d (cutF' (insF (x ++ dotNew) d L) (x ++ dotNew)) := by
      show (doF (doF L (keptO [opAdd x d, opRen x] [0, 1] t 0)).1 (keptO [opAdd x d, opRen x] [0, 1] t 1)).1 = _
      rw [k0, k1, ren_tear, e2]
    have c3 : crUp L [opAdd x d, opRen x] [0, 1] t ([0, 1] : List Int).length = insF x d (cutF' (insF (x ++ dotNew) d L) (x ++ dotNew)) := c2
    rw [c3]
    exact ⟨by rw [← e2]; exact g2.1, .inr ⟨q1, q2⟩⟩
end Go.Proofs.Ytbfimfmfdllejaa

/- The drawn disk, name and data of the law of replacing. -/
namespace Go.Proofs.Ytbfimfmfdllejaa
open Go.ChangeShapes Go.WideShapes Go.ChangeAt Go.RowKit Go.Maps
set_option linter.unusedVariables false

theorem SlF.only {R : Nat} {W W' : World} {a : Option Addr} {xs : List Fl} (h : SlF W a xs) (hO : Only R W W') (hn : xs ≠ [] → ∀ g o, a = some ⟨g, o, none⟩ → g ≠ R) : SlF W' a xs := by
  by_cases hx : xs = []
  · exact .inl hx
  rcases h with h | ⟨b, off, e, hb, hr⟩
  · exact .inl h
  · exact .inr ⟨b, off, e, Nat.lt_of_lt_of_le hb hO.size, fun i hi => (hr i hi).same fun o => hO.cell hb (hn hx b off e)⟩
theorem SlO.only {R : Nat} {W W' : World} {a : Option Addr} {xs : List Dop} (h : SlO W a xs) (hO : Only R W W') (hn : xs ≠ [] → ∀ g o, a = some ⟨g, o, none⟩ → g ≠ R) : SlO W' a xs := by
  by_cases hx : xs = []
  · exact .inl hx
  rcases h with h | ⟨b, off, e, hb, hr⟩
  · exact .inl h
  · exact .inr ⟨b, off, e, Nat.lt_of_lt_of_le hb hO.size, fun i hi => (hr i hi).same fun o => hO.cell hb (hn hx b off e)⟩
/-- while name and data are drawn: the answer's box, the disk's box, its rows, the reader -/
structure RS (w : World) (R nb : Nat) (ad : Option Addr) (len cap : Nat) (a1 a2 a3 : Option Addr) (p1 p2 p3 : Nat) (ls ss : List Fl) (os : List Dop) (W : World) : Prop where
  rd : Rd W R ad len cap
  bel : Below w.heap.size w W
  rs : Cn w.heap.size (.slice none 0 0) (.slice none 0 0) (.slice none 0 0) W
  rf : Free W w.heap.size
  db : Cn nb (.slice a1 ls.length p1) (.slice a2 ss.length p2) (.slice a3 os.length p3) W
  dk : Dk W a1 a2 a3 ls ss os W
  far : (ls ≠ [] → ∀ g o, a1 = some ⟨g, o, none⟩ → R < g) ∧ (ss ≠ [] → ∀ g o, a2 = some ⟨g, o, none⟩ → R < g) ∧ (os ≠ [] → ∀ g o, a3 = some ⟨g, o, none⟩ → R < g)
  nums : w.heap.size < R ∧ R < nb
section
variable {w W W' : World} {R nb : Nat} {ad : Option Addr} {len cap : Nat} {a1 a2 a3 : Option Addr} {p1 p2 p3 : Nat} {ls ss : List Fl} {os : List Dop}
theorem RS.only (h : RS w R nb ad len cap a1 a2 a3 p1 p2 p3 ls ss os W) (hR : Rd W' R ad len cap) (hO : Only R W W') : RS w R nb ad len cap a1 a2 a3 p1 p2 p3 ls ss os W' := by
  have hn := h.nums
  exact ⟨hR, Only.toBelow h.bel hO h.bel.size (by omega), h.rs.only (by omega) hO, fun j => (hO.frozen h.rs.lt (by omega)).trans (h.rf j), h.db.only (by omega) hO, ⟨Below.refl _ _, h.dk.live.only hO (fun hx g o e => Nat.ne_of_gt (h.far.1 hx g o e)), h.dk.safe.only hO (fun hx g o e => Nat.ne_of_gt (h.far.2.1 hx g o e)), h.dk.ops.only hO (fun hx g o e => Nat.ne_of_gt (h.far.2.2 hx g o e))⟩, h.far, h.nums⟩
theorem RS.later (h : RS w R nb ad len cap a1 a2 a3 p1 p2 p3 ls ss os W) (hB : Below W.heap.size W W') : RS w R nb ad len cap a1 a2 a3 p1 p2 p3 ls ss os W' :=
  ⟨h.rd.below hB, h.bel.trans (hB.mono h.bel.size), h.rs.later hB, fun j => keptF hB h.rs.lt (h.rf j), h.db.later hB, dk_self (h.dk.later hB), h.far, h.nums⟩
end
end Go.Proofs.Ytbfimfmfdllejaa

/- What the drawing of a kind of op answers: some number. -/
namespace Go.Proofs.Ytbfimfmfdllejaa
open Go.ChangeShapes Go.WideShapes Go.ChangeAt Go.RowKit

set_option maxHeartbeats 4000000 in
theorem drawWord_any (R : Nat) (ad : Option Addr) (len cap : Nat) (w : World) (h : Rd w R ad len cap) :
    Calls Try.prog 90 #[.pointer (some ⟨R, 0, none⟩)] w fun e w' => (∃ x : Int, e = .returned (.int .u64 x)) ∧ Rd w' R ad len cap ∧ Only R w w' := by
  have H := HIDk h
  clear h
  go_enter Try.func90, Try.ntmps90
  go_wp2
  go_loopw [3, 4] (fun v i wr => ∃ (x : Int) (k : Nat), v = .int .u64 x ∧ i = .int .i64 (k : Int) ∧ k ≤ 8 ∧ Hid (Rd wr R ad len cap) ∧ Hid (Only R w wr)) (fun _ i _ => 8 - (intOf i).toNat)
  case atStart => exact ⟨0, 0, rfl, rfl, by omega, H, Only.refl _ _⟩
  case round =>
    obtain ⟨x, k, rfl, rfl, hk, HR, HO⟩ := hrel
    by_cases hlt : k < 8
    · have hk1 : (k : Int) < 8 := by omega
      go_wp2_with fail
      refine (next_any R ad len cap _ HR.out).mono ?_
      rintro e w1 ⟨⟨y, rfl, hy0, hy1⟩, hR1, hO1⟩
      have HR1 := HIDk hR1
      have HO1 : Hid (Only R w w1) := HO.out.trans hO1
      clear hR1 hO1
      go_wp2
      go_roundw
      case rel => exact ⟨_, k + 1, rfl, by go_num, by omega, HR1, HO1⟩
      case measure => first | (simp [intOf]; done) | (simp [intOf]; omega)
    · have hk1 : ¬ (k : Int) < 8 := by omega
      go_wp2
      go_ret
      exact ⟨⟨x, rfl⟩, HR.out, HO.out⟩
set_option maxHeartbeats 4000000 in
theorem near13_any (R : Nat) (ad : Option Addr) (len cap : Nat) (w : World) (h : Rd w R ad len cap) :
    Calls Try.prog 86 #[.pointer (some ⟨R, 0, none⟩), .int .i64 1, .int .i64 3] w fun e w' => (∃ x : Int, e = .returned (.int .i64 x)) ∧ Rd w' R ad len cap ∧ Only R w w' := by
  have H := HIDk h
  clear h
  go_enter Try.func86, Try.ntmps86
  go_wp2_with fail
  refine (below_any R ad len cap 8 _ H.out (by omega) (by omega)).mono ?_
  rintro e w1 ⟨⟨x, rfl, hx0', hx1'⟩, hR1, hO1⟩
  obtain ⟨x, rfl⟩ : ∃ y : Nat, x = (y : Int) := ⟨x.toNat, by omega⟩
  have hx : x < 8 := by omega
  clear hx0' hx1'
  have HR1 := HIDk hR1
  have HO1 := HIDk hO1
  clear hR1 hO1
  by_cases h0 : x = 0
  · subst h0
    go_wp2
    go_ret
    exact ⟨⟨_, rfl⟩, HR1.out, HO1.out⟩
  · have h00 : ((x : Int) == 0) = false := by simp; omega
    by_cases h1 : x = 1
    · subst h1
      go_wp2
      go_ret
      exact ⟨⟨_, rfl⟩, HR1.out, HO1.out⟩
    · have h11 : ((x : Int) == 1) = false := by simp; omega
      go_wp2_with fail
      refine (drawWord_any R ad len cap _ HR1.out).mono ?_
      rintro e w2 ⟨⟨y, rfl⟩, hR2, hO2⟩
      have HR2 := HIDk hR2
      have HO2 : Hid (Only R w w2) := HO1.out.trans hO2
      clear hR2 hO2
      go_wp2
      go_ret
      exact ⟨⟨_, rfl⟩, HR2.out, HO2.out⟩
set_option maxHeartbeats 4000000 in
theorem off13_any (R : Nat) (ad : Option Addr) (len cap : Nat) (w : World) (h : Rd w R ad len cap) :
    Calls Try.prog 64 #[.pointer (some ⟨R, 0, none⟩), .int .i64 1, .int .i64 3] w fun e w' => (∃ x : Int, e = .returned (.int .i64 x)) ∧ Rd w' R ad len cap ∧ Only R w w' := by
  have H := HIDk h
  clear h
  go_enter Try.func64, Try.ntmps64
  go_wp2_with fail
  refine (once_any R ad len cap 24 _ H.out (by omega) (by omega)).mono ?_
  rintro e w1 ⟨⟨q, rfl⟩, hR1, hO1⟩
  have HR1 := HIDk hR1
  have HO1 := HIDk hO1
  have hRw := hR1.lt
  clear hR1 hO1
  cases q with
  | false =>
    go_wp2_with fail
    refine (near13_any R ad len cap _ HR1.out).mono ?_
    rintro e w2 ⟨⟨y, rfl⟩, hR2, hO2⟩
    have HR2 := HIDk hR2
    have HO2 : Hid (Only R w w2) := HO1.out.trans hO2
    clear hR2 hO2
    go_wp2
    go_ret
    exact ⟨⟨_, rfl⟩, HR2.out, HO2.out⟩
  | true =>
    obtain ⟨W0, hW0⟩ : ∃ W0, W0 = w1.alloc (.cells #[.int .i64 0, .int .i64 4, .int .i64 (-9223372036854775808), .int .i64 9223372036854775807] 2) := ⟨_, rfl⟩
    have HR0 : Hid (Rd W0 R ad len cap) := by show Rd _ _ _ _ _; rw [hW0]; exact HR1.out.alloc _
    have HO0 : Hid (Only R w W0) := by show Only _ _ _; rw [hW0]; exact HO1.out.alloc _
    have HC0 : Hid (w1.heap.size < W0.heap.size ∧ ∀ o, o < 4 → ∃ z : Int, W0.cell? ⟨w1.heap.size, o, none⟩ = some (.int .i64 z)) := by
      show _ ∧ _
      rw [hW0]
      refine ⟨by simp, fun o ho => ?_⟩
      have : o = 0 ∨ o = 1 ∨ o = 2 ∨ o = 3 := by omega
      rcases this with rfl | rfl | rfl | rfl <;> exact ⟨_, by simp; rfl⟩
    go_wp2_with fail
    rw [← hW0]; clear hW0
    refine (below_any R ad len cap 4 _ HR0.out (by omega) (by omega)).mono ?_
    rintro e w2 ⟨⟨x, rfl, hx0', hx1'⟩, hR2, hO2⟩
    obtain ⟨x, rfl⟩ : ∃ y : Nat, x = (y : Int) := ⟨x.toNat, by omega⟩
    have hx : x < 4 := by omega
    clear hx0' hx1'
    obtain ⟨z, hz⟩ := HC0.out.2 x hx
    have hz2 : w2.cell? ⟨w1.heap.size, x, none⟩ = some (.int .i64 z) := by rw [hO2.cell HC0.out.1 (by omega)]; exact hz
    have HR2 := HIDk hR2
    have HO2 : Hid (Only R w w2) := HO0.out.trans hO2
    have hx0 : (0 : Int) ≤ (x : Int) := by omega
    have hx1 : (x : Int) < 4 := by omega
    clear hR2 hO2 hz HC0 HR0 HO0
    go_wp2
    go_ret
    exact ⟨⟨z, rfl⟩, HR2.out, HO2.out⟩
end Go.Proofs.Ytbfimfmfdllejaa

/- The drawn disk and op of the law of doing: what stands in memory meanwhile. -/
namespace Go.Proofs.Ytbfimfmfdllejaa
open Go.ChangeShapes Go.WideShapes Go.ChangeAt Go.RowKit Go.Maps
set_option linter.unusedVariables false

/-- an op in its box -/
structure C4 (g : Nat) (o : Dop) (W : World) : Prop where
  lt : g < W.heap.size
  c0 : W.cell? ⟨g, 0, none⟩ = some (.int .i64 o.k)
  c1 : W.cell? ⟨g, 1, none⟩ = some (.string o.n)
  c2 : W.cell? ⟨g, 2, none⟩ = some (.string o.t)
  c3 : W.cell? ⟨g, 3, none⟩ = some (.string o.d)
theorem C4.only {R g : Nat} {o : Dop} {W W' : World} (h : C4 g o W) (hg : g ≠ R) (hO : Only R W W') : C4 g o W' :=
  ⟨Nat.lt_of_lt_of_le h.lt hO.size, (hO.cell h.lt hg).trans h.c0, (hO.cell h.lt hg).trans h.c1, (hO.cell h.lt hg).trans h.c2, (hO.cell h.lt hg).trans h.c3⟩
theorem C4.later {g : Nat} {o : Dop} {W W' : World} (h : C4 g o W) (hB : Below W.heap.size W W') : C4 g o W' :=
  ⟨Nat.lt_of_lt_of_le h.lt hB.size, kept hB h.lt h.c0, kept hB h.lt h.c1, kept hB h.lt h.c2, kept hB h.lt h.c3⟩
theorem C4.new (w : World) (o : Dop) (t : TypeId) : C4 w.heap.size o (w.alloc (.cells #[.int .i64 o.k, .string o.n, .string o.t, .string o.d] t)) := by
  refine ⟨by simp, ?_, ?_, ?_, ?_⟩ <;> simp
theorem Free.only {R g : Nat} {W W' : World} (h : Free W g) (hl : g < W.heap.size) (hg : g ≠ R) (hO : Only R W W') : Free W' g := fun j => (hO.frozen hl hg).trans (h j)
theorem Free.later {g : Nat} {W W' : World} (h : Free W g) (hl : g < W.heap.size) (hB : Below W.heap.size W W') : Free W' g := fun j => keptF hB hl (h j)
theorem Free.set {g n i : Nat} {W : World} {v : Value} (h : Free W g) : Free (W.setCell ⟨n, i, none⟩ v) g := fun j => by simpa using h j
theorem setAt {w : World} {a : Addr} {v u : Value} (h : w.cell? a = some u) : (w.setCell a v).cell? a = some v := World.cell?_setCell_same _ _ _ h
theorem setNe {w : World} {g i j : Nat} {v : Value} (h : i ≠ j) : (w.setCell ⟨g, j, none⟩ v).cell? ⟨g, i, none⟩ = w.cell? ⟨g, i, none⟩ := by
  apply World.cell?_setCell_other
  intro e; exact h (congrArg Addr.off e).symm
theorem C4.setK {g : Nat} {o : Dop} {W : World} (h : C4 g o W) (x : Int) : C4 g ⟨x, o.n, o.t, o.d⟩ (W.setCell ⟨g, 0, none⟩ (.int .i64 x)) :=
  ⟨by simpa using h.lt, setAt h.c0, (setNe (by decide)).trans h.c1, (setNe (by decide)).trans h.c2, (setNe (by decide)).trans h.c3⟩
theorem C4.setN {g : Nat} {o : Dop} {W : World} (h : C4 g o W) (x : ByteArray) : C4 g ⟨o.k, x, o.t, o.d⟩ (W.setCell ⟨g, 1, none⟩ (.string x)) :=
  ⟨by simpa using h.lt, (setNe (by decide)).trans h.c0, setAt h.c1, (setNe (by decide)).trans h.c2, (setNe (by decide)).trans h.c3⟩
theorem C4.setT {g : Nat} {o : Dop} {W : World} (h : C4 g o W) (x : ByteArray) : C4 g ⟨o.k, o.n, x, o.d⟩ (W.setCell ⟨g, 2, none⟩ (.string x)) :=
  ⟨by simpa using h.lt, (setNe (by decide)).trans h.c0, (setNe (by decide)).trans h.c1, setAt h.c2, (setNe (by decide)).trans h.c3⟩
theorem Cn.set {g : Nat} {a b c a' b' c' : Value} {W : World} (h : Cn g a b c W) : Cn g a' b' c' (((W.setCell ⟨g, 0, none⟩ a').setCell ⟨g, 1, none⟩ b').setCell ⟨g, 2, none⟩ c') :=
  ⟨by simpa using h.lt, (setNe (by decide)).trans ((setNe (by decide)).trans (setAt h.c0)), (setNe (by decide)).trans (setAt ((setNe (by decide)).trans h.c1)), setAt ((setNe (by decide)).trans ((setNe (by decide)).trans h.c2))⟩
/-- what is known of a disk's lists -/
def DP (a1 a2 : Option Addr) (p1 p2 : Nat) (ls ss : List Fl) (os : List Dop) : Prop :=
  Nils a1 a2 p1 p2 ∧ (ls.length ≤ 61 ∧ ss.length ≤ 61 ∧ os.length ≤ 200) ∧ (∀ f ∈ ls, f.n.size ≤ maxLen ∧ f.d.size ≤ 4194304) ∧ (∀ f ∈ ss, f.n.size ≤ maxLen ∧ f.d.size ≤ 4194304) ∧ (∀ o ∈ os, o.small)
/-- rows that lie behind the reader, in none of the boxes -/
def Fars (R nd no : Nat) (a : Option Addr) (ne : Prop) : Prop := ne → ∀ g o, a = some ⟨g, o, none⟩ → R < g ∧ g ≠ nd ∧ g ≠ no
/-- while disk and op are drawn: the answers' boxes, the disk's, the op's, the rows, the reader -/
structure DW (w : World) (R nd no : Nat) (ad : Option Addr) (len cap : Nat) (a1 a2 a3 : Option Addr) (p1 p2 p3 : Nat) (ls ss : List Fl) (os : List Dop) (o : Dop) (W : World) : Prop where
  rd : Rd W R ad len cap
  bel : Below w.heap.size w W
  r1 : Cn w.heap.size (.slice none 0 0) (.slice none 0 0) (.slice none 0 0) W
  f1 : Free W w.heap.size
  r2 : C4 (w.heap.size + 1) ⟨0, ⟨#[]⟩, ⟨#[]⟩, ⟨#[]⟩⟩ W
  f2 : Free W (w.heap.size + 1)
  db : Cn nd (.slice a1 ls.length p1) (.slice a2 ss.length p2) (.slice a3 os.length p3) W
  df : Free W nd
  ob : C4 no o W
  of : Free W no
  dk : Dk W a1 a2 a3 ls ss os W
  l1 : Fars R nd no a1 (ls ≠ [])
  l2 : Fars R nd no a2 (ss ≠ [])
  l3 : Fars R nd no a3 (os ≠ [])
  nums : w.heap.size + 1 < R ∧ R < nd ∧ nd < no
  near : 0 < len → ∀ b off, ad = some ⟨b, off, none⟩ → b < w.heap.size
section
variable {w W W' : World} {R nd no : Nat} {ad : Option Addr} {len cap : Nat} {a1 a2 a3 b1 b2 b3 : Option Addr} {p1 p2 p3 q1 q2 q3 : Nat} {ls ss ms ns : List Fl} {os us : List Dop} {o u : Dop}
theorem DW.rdr (h : DW w R nd no ad len cap a1 a2 a3 p1 p2 p3 ls ss os o W) (hR : Rd W' R ad len cap) (hO : Only R W W') : DW w R nd no ad len cap a1 a2 a3 p1 p2 p3 ls ss os o W' := by
  have hn := h.nums
  exact ⟨hR, Only.toBelow h.bel hO h.bel.size (by omega), h.r1.only (by omega) hO, h.f1.only h.r1.lt (by omega) hO, h.r2.only (by omega) hO, h.f2.only h.r2.lt (by omega) hO, h.db.only (by omega) hO, h.df.only h.db.lt (by omega) hO, h.ob.only (by omega) hO, h.of.only h.ob.lt (by omega) hO, ⟨Below.refl _ _, h.dk.live.only hO (fun hx g o e => Nat.ne_of_gt (h.l1 hx g o e).1), h.dk.safe.only hO (fun hx g o e => Nat.ne_of_gt (h.l2 hx g o e).1), h.dk.ops.only hO (fun hx g o e => Nat.ne_of_gt (h.l3 hx g o e).1)⟩, h.l1, h.l2, h.l3, h.nums, h.near⟩
theorem DW.later (h : DW w R nd no ad len cap a1 a2 a3 p1 p2 p3 ls ss os o W) (hB : Below W.heap.size W W') : DW w R nd no ad len cap a1 a2 a3 p1 p2 p3 ls ss os o W' :=
  ⟨h.rd.below hB, h.bel.trans (hB.mono h.bel.size), h.r1.later hB, h.f1.later h.r1.lt hB, h.r2.later hB, h.f2.later h.r2.lt hB, h.db.later hB, h.df.later h.db.lt hB, h.ob.later hB, h.of.later h.ob.lt hB, dk_self (h.dk.later hB), h.l1, h.l2, h.l3, h.nums, h.near⟩
theorem DW.op (h : DW w R nd no ad len cap a1 a2 a3 p1 p2 p3 ls ss os o W) (hO : Only no W W') (hc : C4 no u W') (hf : Free W' no) : DW w R nd no ad len cap a1 a2 a3 p1 p2 p3 ls ss os u W' := by
  have hn := h.nums
  exact ⟨h.rd.grown hO (by simp; omega) (fun h0 b off e => by have := h.near h0 b off e; simp; omega), Only.toBelow h.bel hO h.bel.size (by omega), h.r1.only (by omega) hO, h.f1.only h.r1.lt (by omega) hO, h.r2.only (by omega) hO, h.f2.only h.r2.lt (by omega) hO, h.db.only (by omega) hO, h.df.only h.db.lt (by omega) hO, hc, hf, ⟨Below.refl _ _, h.dk.live.only hO (fun hx g o e => (h.l1 hx g o e).2.2), h.dk.safe.only hO (fun hx g o e => (h.l2 hx g o e).2.2), h.dk.ops.only hO (fun hx g o e => (h.l3 hx g o e).2.2)⟩, h.l1, h.l2, h.l3, h.nums, h.near⟩
theorem DW.disk (h : DW w R nd no ad len cap a1 a2 a3 p1 p2 p3 ls ss os o W) (hO : Only nd W W') (hc : Cn nd (.slice b1 ms.length q1) (.slice b2 ns.length q2) (.slice b3 us.length q3) W') (hf : Free W' nd) (hd : Dk W' b1 b2 b3 ms ns us W') (k1 : Fars R nd no b1 (ms ≠ [])) (k2 : Fars R nd no b2 (ns ≠ [])) (k3 : Fars R nd no b3 (us ≠ [])) : DW w R nd no ad len cap b1 b2 b3 q1 q2 q3 ms ns us o W' := by
  have hn := h.nums
  exact ⟨h.rd.grown hO (by simp; omega) (fun h0 b off e => by have := h.near h0 b off e; simp; omega), Only.toBelow h.bel hO h.bel.size (by omega), h.r1.only (by omega) hO, h.f1.only h.r1.lt (by omega) hO, h.r2.only (by omega) hO, h.f2.only h.r2.lt (by omega) hO, hc, hf, h.ob.only (by omega) hO, h.of.only h.ob.lt (by omega) hO, hd, k1, k2, k3, h.nums, h.near⟩
end
def DrawDP (w : World) (e : Ending) (w' : World) : Prop :=
  ∃ (a1 a2 a3 : Option Addr) (p1 p2 p3 : Nat) (ls ss : List Fl) (os : List Dop) (o : Dop), e = .returned (.tuple #[.agg #[.slice a1 ls.length p1, .slice a2 ss.length p2, .slice a3 os.length p3], .agg #[.int .i64 o.k, .string o.n, .string o.t, .string o.d]]) ∧ Dk w' a1 a2 a3 ls ss os w' ∧ DP a1 a2 p1 p2 ls ss os ∧ o.brief ∧ Below w.heap.size w w'
theorem drawDP_mk {w W X : World} {R nd no : Nat} {ad : Option Addr} {len cap : Nat} {a1 a2 a3 : Option Addr} {p1 p2 p3 : Nat} {ls ss : List Fl} {os : List Dop} {o : Dop} (h : DW w R nd no ad len cap a1 a2 a3 p1 p2 p3 ls ss os o W) (hp : DP a1 a2 p1 p2 ls ss os) (ho : o.brief) (hc : Chg (fun y => y = w.heap.size ∨ y = w.heap.size + 1) W X) :
    DrawDP w (.returned (.tuple #[.agg #[.slice a1 ls.length p1, .slice a2 ss.length p2, .slice a3 os.length p3], .agg #[.int .i64 o.k, .string o.n, .string o.t, .string o.d]])) X := by
  have hn := h.nums
  refine ⟨a1, a2, a3, p1, p2, p3, ls, ss, os, o, rfl, ⟨Below.refl _ _, h.dk.live.chgd hc (fun hx g o e h1 => ?_), h.dk.safe.chgd hc (fun hx g o e h1 => ?_), h.dk.ops.chgd hc (fun hx g o e h1 => ?_)⟩, hp, ho, h.bel.trans (hc.below (fun g hg => by omega) h.bel.size)⟩
  · have := (h.l1 hx g o e).1; omega
  · have := (h.l2 hx g o e).1; omega
  · have := (h.l3 hx g o e).1; omega
end Go.Proofs.Ytbfimfmfdllejaa

/- The drawn disk and op of the law of doing: the drawing itself. -/
namespace Go.Proofs.Ytbfimfmfdllejaa
open Go.ChangeShapes Go.WideShapes Go.ChangeAt Go.RowKit Go.Maps
set_option linter.unusedVariables false

theorem slF_lt {W : World} {a : Option Addr} {xs : List Fl} (h : SlF W a xs) (hx : xs ≠ []) : ∀ g o, a = some ⟨g, o, none⟩ → g < W.heap.size := by
  rcases h with h | ⟨b, off, e, hb, -⟩
  · exact absurd h hx
  · intro g o e2
    rw [e] at e2; injection e2 with e2; injection e2 with e2; omega
theorem slO_lt {W : World} {a : Option Addr} {xs : List Dop} (h : SlO W a xs) (hx : xs ≠ []) : ∀ g o, a = some ⟨g, o, none⟩ → g < W.heap.size := by
  rcases h with h | ⟨b, off, e, hb, -⟩
  · exact absurd h hx
  · intro g o e2
    rw [e] at e2; injection e2 with e2; injection e2 with e2; omega
theorem frF_ge {W : World} {base : Nat} {a : Option Addr} {ne : Prop} (h : FrF W base a ne) (hx : ne) : ∀ g o, a = some ⟨g, o, none⟩ → base ≤ g := by
  obtain ⟨b, e, hb, -⟩ := h hx
  intro g o e2
  rw [e] at e2; injection e2 with e2; injection e2 with e2; omega
theorem dw_of {w w2 w3 : World} {R : Nat} {ad : Option Addr} {len cap : Nat} {a1 a2 a3 : Option Addr} {p1 p2 p3 : Nat} {ls ss : List Fl} {os : List Dop} {o : Dop} (h : RS w R w2.heap.size ad len cap a1 a2 a3 p1 p2 p3 ls ss os w3) (d2 : Dk w2 a1 a2 a3 ls ss os w2) (e2 : C4 (w.heap.size + 1) ⟨0, ⟨#[]⟩, ⟨#[]⟩, ⟨#[]⟩⟩ w3) (e3 : Free w3 (w.heap.size + 1)) (e4 : Free w3 w2.heap.size) (hn : w.heap.size + 1 < R) (hnr : 0 < len → ∀ b off, ad = some ⟨b, off, none⟩ → b < w.heap.size) (t : TypeId) : DW w R w2.heap.size w3.heap.size ad len cap a1 a2 a3 p1 p2 p3 ls ss os o (w3.alloc (.cells #[.int .i64 o.k, .string o.n, .string o.t, .string o.d] t)) := by
  have hB : Below w3.heap.size w3 (w3.alloc (.cells #[.int .i64 o.k, .string o.n, .string o.t, .string o.d] t)) := (Below.refl _ _).alloc (Nat.le_refl _) _
  have hL := h.later hB
  have h3 := h.db.lt
  exact ⟨hL.rd, hL.bel, hL.rs, hL.rf, e2.later hB, e3.later e2.lt hB, hL.db, e4.later h.db.lt hB, C4.new _ _ _, fun j => fz0 _ _ _ j, hL.dk, fun hx g o e => ⟨h.far.1 hx g o e, Nat.ne_of_lt (slF_lt d2.live hx g o e), by have := slF_lt d2.live hx g o e; omega⟩, fun hx g o e => ⟨h.far.2.1 hx g o e, Nat.ne_of_lt (slF_lt d2.safe hx g o e), by have := slF_lt d2.safe hx g o e; omega⟩, fun hx g o e => ⟨h.far.2.2 hx g o e, Nat.ne_of_lt (slO_lt d2.ops hx g o e), by have := slO_lt d2.ops hx g o e; omega⟩, ⟨hn, h.nums.2, h3⟩, hnr⟩
/-- an act that is done on a drawn disk leaves lists that are as small -/
theorem dp_do {ls ss : List Fl} {os : List Dop} {o : Dop} {a b : Option Addr} {p q : Nat} (hc : dC ls ss os o = 0) (hN : Nils a b p q) (ho : o.small) (fo : ∀ o ∈ os, o.small) : DP a b p q (dL ls ss os o) (dS ls ss os) (dO ls ss os o) := by
  have hd : diskB ls ss os = true := by
    cases h : diskB ls ss os with
    | true => rfl
    | false => rw [dC, h] at hc; cases hc
  have hc2 : actC ls os o = 0 := by rw [dC, hd] at hc; exact hc
  have h2 := diskB_act hd hc2
  have e1 : dL ls ss os o = (doF ls o).1 := by rw [dL, hd]; exact (act_yes hc2).1
  have e2 : dS ls ss os = ss := by rw [dS, hd]; rfl
  have e3 : dO ls ss os o = os ++ [o] := by rw [dO, hd]; exact (act_yes hc2).2
  rw [e1, e2, e3]
  obtain ⟨f1, f2, f3⟩ := diskB_facts h2
  obtain ⟨g1, g2⟩ := small60 f1
  obtain ⟨k1, k2⟩ := small60 f2
  refine ⟨hN, ⟨by omega, by omega, f3⟩, fun f hf => ⟨(g2 f hf).1, by have := (g2 f hf).2; omega⟩, fun f hf => ⟨(k2 f hf).1, by have := (k2 f hf).2; omega⟩, fun x hx => ?_⟩
  rcases List.mem_append.1 hx with h | h
  · exact fo x h
  · rw [List.mem_singleton.1 h]; exact ho
theorem chg7 (n : Nat) (W : World) (a b c d e f g : Value) : Chg (fun y => y = n ∨ y = n + 1) W (((((((W.setCell ⟨n, 0, none⟩ a).setCell ⟨n, 1, none⟩ b).setCell ⟨n, 2, none⟩ c).setCell ⟨n + 1, 0, none⟩ d).setCell ⟨n + 1, 1, none⟩ e).setCell ⟨n + 1, 2, none⟩ f).setCell ⟨n + 1, 3, none⟩ g) :=
  ((((((Chg.set a (.inl rfl)).trans (Chg.set b (.inl rfl))).trans (Chg.set c (.inl rfl))).trans (Chg.set d (.inr rfl))).trans (Chg.set e (.inr rfl))).trans (Chg.set f (.inr rfl))).trans (Chg.set g (.inr rfl))
def opb : Dop := ⟨1, ⟨#[98]⟩, ⟨#[]⟩, ⟨#[]⟩⟩
theorem opb_brief : opb.brief := ⟨(by decide : (1 : Nat) ≤ 20), Nat.zero_le _, Nat.zero_le _⟩
set_option maxRecDepth 8000 in
set_option maxHeartbeats 4000000 in
theorem drawDo_any (ad : Option Addr) (len cap : Nat) (w : World) (h : Bytes w ad len) :
    Calls Try.prog 29 #[.slice ad len cap] w (DrawDP w) := by
  obtain ⟨W, hW⟩ : ∃ W, W = (w.alloc (.cells #[.slice none 0 0, .slice none 0 0, .slice none 0 0] 33)).alloc (.cells #[.int .i64 0, .string ⟨#[]⟩, .string ⟨#[]⟩, .string ⟨#[]⟩] 37) := ⟨_, rfl⟩
  have hsW : W.heap.size = w.heap.size + 2 := by rw [hW]; simp
  have hb : Below w.heap.size w W := by rw [hW]; exact ((Below.refl _ _).alloc (Nat.le_refl _) _).alloc (by simp) _
  have C0 : Hid (Cn w.heap.size (.slice none 0 0) (.slice none 0 0) (.slice none 0 0) W ∧ Free W w.heap.size ∧ C4 (w.heap.size + 1) ⟨0, ⟨#[]⟩, ⟨#[]⟩, ⟨#[]⟩⟩ W ∧ Free W (w.heap.size + 1)) := by
    have hB : Below (w.alloc (.cells #[.slice none 0 0, .slice none 0 0, .slice none 0 0] 33)).heap.size (w.alloc (.cells #[.slice none 0 0, .slice none 0 0, .slice none 0 0] 33)) W := by rw [hW]; exact (Below.refl _ _).alloc (Nat.le_refl _) _
    have h1 : Cn w.heap.size (.slice none 0 0) (.slice none 0 0) (.slice none 0 0) (w.alloc (.cells #[.slice none 0 0, .slice none 0 0, .slice none 0 0] 33)) := cn_new _ _ _ _ _
    have h3 := C4.new (w.alloc (.cells #[.slice none 0 0, .slice none 0 0, .slice none 0 0] 33)) ⟨0, ⟨#[]⟩, ⟨#[]⟩, ⟨#[]⟩⟩ 37
    have e1 : (w.alloc (.cells #[.slice none 0 0, .slice none 0 0, .slice none 0 0] 33)).heap.size = w.heap.size + 1 := by simp
    refine ⟨h1.later hB, Free.later (fun j => fz0 _ _ _ j) h1.lt hB, ?_, ?_⟩
    · rw [e1] at h3; rw [hW]; exact h3
    · rw [← e1, hW]; exact fun j => fz0 _ _ _ j
  have hnr : Hid (0 < len → ∀ b off, ad = some ⟨b, off, none⟩ → b < w.heap.size) := fun h0 b off e => by
    obtain ⟨b', off', e', hb', -⟩ := h.2 h0
    rw [e'] at e; injection e with e; injection e with e; omega
  have H := HIDk (h.below hb)
  have HB := HIDk hb
  have HSW := HIDk hsW
  clear h hb hsW
  go_enter Try.func29, Try.ntmps29
  go_wp2_with fail
  rw [← hW]
  clear hW
  refine (open_any ad len cap W H.out).mono ?_
  rintro e w1 ⟨rfl, hR1, hb1⟩
  have hlt := C0.out.1.lt
  have C1 : Hid (Cn w.heap.size (.slice none 0 0) (.slice none 0 0) (.slice none 0 0) w1 ∧ Free w1 w.heap.size ∧ C4 (w.heap.size + 1) ⟨0, ⟨#[]⟩, ⟨#[]⟩, ⟨#[]⟩⟩ w1 ∧ Free w1 (w.heap.size + 1)) := ⟨C0.out.1.later hb1, C0.out.2.1.later hlt hb1, C0.out.2.2.1.later hb1, C0.out.2.2.2.later C0.out.2.2.1.lt hb1⟩
  have HB1 := HIDk (HB.out.trans (hb1.mono HB.out.size))
  have R1 := HIDk hR1
  have hRl : W.heap.size < w1.heap.size := hR1.lt
  clear hR1 hb1 C0 HB
  go_wp2_with fail
  refine (disk_any W.heap.size ad len cap w1 R1.out).mono ?_
  rintro e w2 ⟨a1, a2, a3, p1, p2, p3, ls, ss, os, rfl, hD, hN, hl, fl, fs, fo, hR2, hO2, hfar⟩
  have hne : w.heap.size ≠ W.heap.size := by omega
  have hne2 : w.heap.size + 1 ≠ W.heap.size := by have := HSW.out; omega
  obtain ⟨X, hX⟩ : ∃ X, X = w2.alloc (.cells #[.slice a1 ls.length p1, .slice a2 ss.length p2, .slice a3 os.length p3] 33) := ⟨_, rfl⟩
  have hbX : Below w2.heap.size w2 X := by rw [hX]; exact (Below.refl _ _).alloc (Nat.le_refl _) _
  have hs2 : w1.heap.size ≤ w2.heap.size := hO2.size
  have RX : Hid (RS w W.heap.size w2.heap.size ad len cap a1 a2 a3 p1 p2 p3 ls ss os X) := by
    have hB2 : Below w.heap.size w w2 := Only.toBelow HB1.out hO2 HB1.out.size (by omega)
    exact ⟨hR2.below hbX, hB2.trans (hbX.mono hB2.size), (C1.out.1.only hne hO2).later hbX, (C1.out.2.1.only C1.out.1.lt hne hO2).later (C1.out.1.only hne hO2).lt hbX, by rw [hX]; exact cn_new _ _ _ _ _, dk_self (hD.later hbX), ⟨fun hx g o e => by have := hfar.1 hx g o e; omega, fun hx g o e => by have := hfar.2.1 hx g o e; omega, fun hx g o e => by have := hfar.2.2 hx g o e; omega⟩, ⟨hlt, by omega⟩⟩
  have EX : Hid (C4 (w.heap.size + 1) ⟨0, ⟨#[]⟩, ⟨#[]⟩, ⟨#[]⟩⟩ X ∧ Free X (w.heap.size + 1) ∧ Free X w2.heap.size) := ⟨(C1.out.2.2.1.only hne2 hO2).later hbX, (C1.out.2.2.2.only C1.out.2.2.1.lt hne2 hO2).later (C1.out.2.2.1.only hne2 hO2).lt hbX, by rw [hX]; exact fun j => fz0 _ _ _ j⟩
  have HDP : Hid (DP a1 a2 p1 p2 ls ss os) := ⟨hN, hl, fl, fs, fo⟩
  have HD2 := HIDk hD
  clear hD hN hl fl fs fo hR2 hO2 hfar hbX HB1 C1 R1 H
  go_wp2_with fail
  rw [← hX]
  clear hX
  refine (dop_any W.heap.size ad len cap X RX.out.rd).mono ?_
  rintro e w3 ⟨⟨o, rfl, hbr⟩, hR3, hO3⟩
  have HBR := HIDk hbr
  obtain ⟨Y, hY⟩ : ∃ Y, Y = w3.alloc (.cells #[.int .i64 o.k, .string o.n, .string o.t, .string o.d] 37) := ⟨_, rfl⟩
  have D3 : Hid (DW w W.heap.size w2.heap.size w3.heap.size ad len cap a1 a2 a3 p1 p2 p3 ls ss os o Y) := by
    rw [hY]
    exact dw_of (RX.out.only hR3 hO3) HD2.out (EX.out.1.only hne2 hO3) (EX.out.2.1.only EX.out.1.lt hne2 hO3) (EX.out.2.2.only RX.out.db.lt (by omega) hO3) (by have := HSW.out; omega) hnr.out _
  clear hbr hR3 hO3 RX EX HD2 hnr
  go_wp2_with fail
  rw [← hY]
  clear hY
  refine (below_any W.heap.size ad len cap 20 Y D3.out.rd (by omega) (by omega)).mono ?_
  rintro e w4 ⟨⟨x, rfl, hx0, hx1⟩, hR4, hO4⟩
  have D4 := HIDk (D3.out.rdr hR4 hO4)
  clear hR4 hO4 D3
  by_cases h0 : x = 0
  · subst h0
    go_wp2_with fail
    refine (off13_any W.heap.size ad len cap w4 D4.out.rd).mono ?_
    rintro e w5 ⟨⟨y, rfl⟩, hR5, hO5⟩
    have D5 := HIDk (D4.out.rdr hR5 hO5)
    clear hR5 hO5 D4 hx0 hx1
    obtain ⟨X6, hX6⟩ : ∃ X6, X6 = w5.setCell ⟨w3.heap.size, 0, none⟩ (.int .i64 y) := ⟨_, rfl⟩
    have D6 : Hid (DW w W.heap.size w2.heap.size w3.heap.size ad len cap a1 a2 a3 p1 p2 p3 ls ss os ⟨y, o.n, o.t, o.d⟩ X6) := by
      rw [hX6]; exact D5.out.op ((Only.refl _ _).set _ _) (D5.out.ob.setK y) D5.out.of.set
    have HBR2 : Hid ((⟨y, o.n, o.t, o.d⟩ : Dop).brief) := HBR.out
    have c0 := D5.out.ob.c0
    have cf : ∀ j, w5.frozen? ⟨w3.heap.size, j, none⟩ = false := D5.out.of
    clear D5
    go_wp2_with fail
    rw [← hX6]
    clear hX6 c0 cf
    have DD := D6
    obtain ⟨g0, z0, z1, z2⟩ := D6.out.db
    obtain ⟨g1, y0, y1, y2, y3⟩ := D6.out.ob
    obtain ⟨g2, r0, r1, r2⟩ := D6.out.r1
    obtain ⟨g3, s0, s1, s2, s3⟩ := D6.out.r2
    have n4 : w.heap.size ≠ w2.heap.size := by have := D6.out.nums; omega
    have n5 : w.heap.size ≠ w3.heap.size := by have := D6.out.nums; omega
    have n6 : w.heap.size + 1 ≠ w2.heap.size := by have := D6.out.nums; omega
    have n7 : w.heap.size + 1 ≠ w3.heap.size := by have := D6.out.nums; omega
    have rf : ∀ j, X6.frozen? ⟨w.heap.size, j, none⟩ = false := D6.out.f1
    have sf : ∀ j, X6.frozen? ⟨w.heap.size + 1, j, none⟩ = false := D6.out.f2
    clear D6
    go_region
    all_goals
      go_wp2
      refine bodyPost_ret (v := .tuple #[.agg #[.slice a1 ls.length p1, .slice a2 ss.length p2, .slice a3 os.length p3], .agg #[.int .i64 y, .string o.n, .string o.t, .string o.d]]) (by simp [results, Try.results29, go_sem, *]) rfl (drawDP_mk (o := ⟨y, o.n, o.t, o.d⟩) DD.out HDP.out HBR2.out ((chg7 _ _ _ _ _ _ _ _ _).trans (Chg.of ((Below.refl _ _).drew))))
  have k0 : (x == 0) = false := by simpa using h0
  by_cases h1 : x = 1
  · subst h1
    obtain ⟨X6, hX6⟩ : ∃ X6, X6 = w4.setCell ⟨w3.heap.size, 1, none⟩ (.string ⟨#[]⟩) := ⟨_, rfl⟩
    have D6 : Hid (DW w W.heap.size w2.heap.size w3.heap.size ad len cap a1 a2 a3 p1 p2 p3 ls ss os ⟨o.k, ⟨#[]⟩, o.t, o.d⟩ X6) := by
      rw [hX6]; exact D4.out.op ((Only.refl _ _).set _ _) (D4.out.ob.setN ⟨#[]⟩) D4.out.of.set
    have HBR2 : Hid ((⟨o.k, ⟨#[]⟩, o.t, o.d⟩ : Dop).brief) := ⟨Nat.zero_le _, HBR.out.2⟩
    have c0 := D4.out.ob.c1
    have cf : ∀ j, w4.frozen? ⟨w3.heap.size, j, none⟩ = false := D4.out.of
    clear D4 hx0 hx1
    go_wp2_with fail
    rw [← hX6]
    clear hX6 c0 cf
    have DD := D6
    obtain ⟨g0, z0, z1, z2⟩ := D6.out.db
    obtain ⟨g1, y0, y1, y2, y3⟩ := D6.out.ob
    obtain ⟨g2, r0, r1, r2⟩ := D6.out.r1
    obtain ⟨g3, s0, s1, s2, s3⟩ := D6.out.r2
    have n4 : w.heap.size ≠ w2.heap.size := by have := D6.out.nums; omega
    have n5 : w.heap.size ≠ w3.heap.size := by have := D6.out.nums; omega
    have n6 : w.heap.size + 1 ≠ w2.heap.size := by have := D6.out.nums; omega
    have n7 : w.heap.size + 1 ≠ w3.heap.size := by have := D6.out.nums; omega
    have rf : ∀ j, X6.frozen? ⟨w.heap.size, j, none⟩ = false := D6.out.f1
    have sf : ∀ j, X6.frozen? ⟨w.heap.size + 1, j, none⟩ = false := D6.out.f2
    clear D6
    go_region
    all_goals
      go_wp2
      refine bodyPost_ret (v := .tuple #[.agg #[.slice a1 ls.length p1, .slice a2 ss.length p2, .slice a3 os.length p3], .agg #[.int .i64 o.k, .string ⟨#[]⟩, .string o.t, .string o.d]]) (by simp [results, Try.results29, go_sem, *]) rfl (drawDP_mk (o := ⟨o.k, ⟨#[]⟩, o.t, o.d⟩) DD.out HDP.out HBR2.out ((chg7 _ _ _ _ _ _ _ _ _).trans (Chg.of ((Below.refl _ _).drew))))
  have k1 : (x == 1) = false := by simpa using h1
  by_cases h2 : x = 2
  · subst h2
    obtain ⟨X6, hX6⟩ : ∃ X6, X6 = w4.setCell ⟨w3.heap.size, 2, none⟩ (.string ⟨#[120]⟩) := ⟨_, rfl⟩
    have D6 : Hid (DW w W.heap.size w2.heap.size w3.heap.size ad len cap a1 a2 a3 p1 p2 p3 ls ss os ⟨o.k, o.n, ⟨#[120]⟩, o.d⟩ X6) := by
      rw [hX6]; exact D4.out.op ((Only.refl _ _).set _ _) (D4.out.ob.setT ⟨#[120]⟩) D4.out.of.set
    have HBR2 : Hid ((⟨o.k, o.n, ⟨#[120]⟩, o.d⟩ : Dop).brief) := ⟨HBR.out.1, (show (1 : Nat) ≤ 20 by decide), HBR.out.2.2⟩
    have c0 := D4.out.ob.c2
    have cf : ∀ j, w4.frozen? ⟨w3.heap.size, j, none⟩ = false := D4.out.of
    clear D4 hx0 hx1
    go_wp2_with fail
    rw [← hX6]
    clear hX6 c0 cf
    have DD := D6
    obtain ⟨g0, z0, z1, z2⟩ := D6.out.db
    obtain ⟨g1, y0, y1, y2, y3⟩ := D6.out.ob
    obtain ⟨g2, r0, r1, r2⟩ := D6.out.r1
    obtain ⟨g3, s0, s1, s2, s3⟩ := D6.out.r2
    have n4 : w.heap.size ≠ w2.heap.size := by have := D6.out.nums; omega
    have n5 : w.heap.size ≠ w3.heap.size := by have := D6.out.nums; omega
    have n6 : w.heap.size + 1 ≠ w2.heap.size := by have := D6.out.nums; omega
    have n7 : w.heap.size + 1 ≠ w3.heap.size := by have := D6.out.nums; omega
    have rf : ∀ j, X6.frozen? ⟨w.heap.size, j, none⟩ = false := D6.out.f1
    have sf : ∀ j, X6.frozen? ⟨w.heap.size + 1, j, none⟩ = false := D6.out.f2
    clear D6
    go_region
    all_goals
      go_wp2
      refine bodyPost_ret (v := .tuple #[.agg #[.slice a1 ls.length p1, .slice a2 ss.length p2, .slice a3 os.length p3], .agg #[.int .i64 o.k, .string o.n, .string ⟨#[120]⟩, .string o.d]]) (by simp [results, Try.results29, go_sem, *]) rfl (drawDP_mk (o := ⟨o.k, o.n, ⟨#[120]⟩, o.d⟩) DD.out HDP.out HBR2.out ((chg7 _ _ _ _ _ _ _ _ _).trans (Chg.of ((Below.refl _ _).drew))))
  have k2 : (x == 2) = false := by simpa using h2
  by_cases h3 : x = 3
  · subst h3
    go_wp2_with fail
    go_loopw [7, 8, 9] (fun i _ _ wr => ∃ (k : Nat) (a1 a2 a3 : Option Addr) (p1 p2 p3 : Nat) (ls ss : List Fl) (os : List Dop), k ≤ 200 ∧ i = .int .i64 (k : Int) ∧ Hid (DP a1 a2 p1 p2 ls ss os) ∧ Hid (DW w W.heap.size w2.heap.size w3.heap.size ad len cap a1 a2 a3 p1 p2 p3 ls ss os o wr)) (fun i _ _ _ => 200 - (intOf i).toNat)
    case atStart => exact ⟨0, _, _, _, _, _, _, _, _, _, Nat.zero_le _, rfl, HDP, D4⟩
    case round =>
      clear D4 HDP hx0 hx1
      obtain ⟨k, a1, a2, a3, p1, p2, p3, ls, ss, os, hk, rfl, HDP, D5⟩ := hrel
      by_cases hlt : k < 200
      · have k5 : (k : Int) < 200 := by omega
        have k6 : decide ((k : Int) < 200) = true := by simp; omega
        have DD := HIDk (D5.out.later ((Below.refl _ _).drew))
        clear D5
        have hS0 : wr.drew.cell? ⟨w2.heap.size, 2, none⟩ = some (.slice a3 os.length p3) ∧ w2.heap.size < wr.drew.heap.size := ⟨DD.out.db.c2, DD.out.db.lt⟩
        go_wp2_with fail
        go_region_held3 (fun w' => w'.cell? ⟨w2.heap.size, 2, none⟩ = some (.slice a3 os.length p3) ∧ w2.heap.size < w'.heap.size)
          (first | assumption | exact ⟨(DD.out.rdr hR6 hO6).db.c2, (DD.out.rdr hR6 hO6).db.lt⟩ | exact hS0)
          (first | (go_at_call 63; refine (below_any W.heap.size ad len cap 2 _ DD.out.rd (by omega) (by omega)).mono ?_; rintro e w6 ⟨⟨y, rfl, hy0, hy1⟩, hR6, hO6⟩))
        rename_i hH
        have D6 := HIDk (DD.out.rdr hR6 hO6)
        have hwr : IntKind.i64.wrap (199 + y) = 199 + y := by rw [IntKind.wrap_i64]; omega
        rw [hwr]
        clear hwr hH hS0 hR6 hO6 DD
        by_cases hmo : (os.length : Int) < 199 + y
        · have hmd : decide ((os.length : Int) < 199 + y) = true := by simpa using hmo
          rw [hmd]
          clear hmd hmo
          obtain ⟨lt6, z0, z1, z2⟩ := D6.out.db
          go_wp2_with fail
          clear z0 z1 z2 lt6
          refine (specDo_any _ _ _ _ _ _ ls ss os opb w6 (by have := HDP.out.2.1; omega) (by have := HDP.out.2.1; omega) (by have := HDP.out.2.1; omega) D6.out.dk HDP.out.1.2 HDP.out.1.1 HDP.out.2.2.1 HDP.out.2.2.2.1 HDP.out.2.2.2.2 opb_brief.small).mono ?_
          rintro e w7 ⟨v7, rfl, ⟨b1, b2, b3, r1, r2, r3, rfl, hS7, hn7⟩, hb7⟩
          obtain ⟨X8, hX8⟩ : ∃ X8, X8 = w7.alloc (.cells #[.slice b1 (dL ls ss os opb).length r1, .slice b2 (dS ls ss os).length r2, .slice b3 (dO ls ss os opb).length r3] 33) := ⟨_, rfl⟩
          have hb8 : Below w7.heap.size w7 X8 := by rw [hX8]; exact (Below.refl _ _).alloc (Nat.le_refl _) _
          have hb78 := hb7.trans (hb8.mono hb7.size)
          have D8 := HIDk (D6.out.later hb78)
          by_cases hc : dC ls ss os opb = 0
          · have HDP8 : Hid (DP b1 b2 r1 r2 (dL ls ss os opb) (dS ls ss os) (dO ls ss os opb)) := dp_do hc hn7 opb_brief.small HDP.out.2.2.2.2
            have hS8 : OwnD X8 w6.heap.size b1 b2 b3 (dL ls ss os opb) (dS ls ss os) (dO ls ss os opb) := hS7.below hb8
            obtain ⟨ms, hms⟩ : ∃ ms, ms = dL ls ss os opb := ⟨_, rfl⟩
            obtain ⟨ns, hns⟩ : ∃ ns, ns = dS ls ss os := ⟨_, rfl⟩
            obtain ⟨us, hus⟩ : ∃ us, us = dO ls ss os opb := ⟨_, rfl⟩
            have hc8 : Cn w7.heap.size (.slice b1 (dL ls ss os opb).length r1) (.slice b2 (dS ls ss os).length r2) (.slice b3 (dO ls ss os opb).length r3) X8 := by rw [hX8]; exact cn_new _ _ _ _ _
            rw [hc]
            rw [← hms, ← hns, ← hus] at HDP8 hS8 hc8 hX8 ⊢
            clear hms hns hus hc
            obtain ⟨X9, hX9⟩ : ∃ X9, X9 = ((X8.setCell ⟨w2.heap.size, 0, none⟩ (.slice b1 ms.length r1)).setCell ⟨w2.heap.size, 1, none⟩ (.slice b2 ns.length r2)).setCell ⟨w2.heap.size, 2, none⟩ (.slice b3 us.length r3) := ⟨_, rfl⟩
            have D9 : Hid (DW w W.heap.size w2.heap.size w3.heap.size ad len cap b1 b2 b3 r1 r2 r3 ms ns us o X9) := by
              have hO : Only w2.heap.size X8 X9 := by rw [hX9]; exact (((Only.refl _ _).set _ _).set _ _).set _ _
              have hnm := D6.out.nums
              have hlo := D6.out.ob.lt
              have hno : ∀ (a : Option Addr) (ne : Prop), FrF X8 w6.heap.size a ne → Fars W.heap.size w2.heap.size w3.heap.size a ne := fun a ne h hx g o e => by
                have := frF_ge h hx g o e
                exact ⟨by omega, by omega, by omega⟩
              have k1 := hno _ _ hS8.fl
              have k2 := hno _ _ hS8.fs
              have k3 := hno _ _ hS8.fo
              refine D8.out.disk hO (by rw [hX9]; exact D8.out.db.set) (by rw [hX9]; exact D8.out.df.set.set.set) ⟨Below.refl _ _, hS8.live.only hO (fun hx g o e => (k1 hx g o e).2.1), hS8.safe.only hO (fun hx g o e => (k2 hx g o e).2.1), hS8.ops.only hO (fun hx g o e => (k3 hx g o e).2.1)⟩ k1 k2 k3
            obtain ⟨g0, z0, z1, z2⟩ := D8.out.db
            obtain ⟨g1, y0, y1, y2⟩ := hc8
            have rf : ∀ j, X8.frozen? ⟨w2.heap.size, j, none⟩ = false := D8.out.df
            rw [hX8] at z0 z1 z2 y0 y1 y2 rf
            clear hS7 hS8 hb7 hb8 hb78 D6 D8 hn7
            go_wp2_with fail
            go_roundw
            rw [hX9, hX8] at D9
            case rel => exact ⟨k + 1, b1, b2, b3, r1, r2, r3, ms, ns, us, by omega, by go_num, HDP8, D9⟩
            case measure => simp [intOf]; omega
          · have hc2 : (dC ls ss os opb == 0) = false := by simpa using hc
            clear hS7 hb7 hb8 hb78 D6 hn7 hc
            go_wp2_with fail
            rw [← hX8]
            clear hX8
            go_roundw
            case rel => exact ⟨k + 1, a1, a2, a3, p1, p2, p3, ls, ss, os, by omega, by go_num, HDP, D8⟩
            case measure => simp [intOf]; omega
        · have hmd : decide ((os.length : Int) < 199 + y) = false := by simpa using hmo
          rw [hmd]
          clear hmd hmo
          go_wp2_with fail
          have DD := D6
          obtain ⟨g0, z0, z1, z2⟩ := D6.out.db
          obtain ⟨g1, y0, y1, y2, y3⟩ := D6.out.ob
          obtain ⟨g2, r0, r1, r2⟩ := D6.out.r1
          obtain ⟨g3, s0, s1, s2, s3⟩ := D6.out.r2
          have n4 : w.heap.size ≠ w2.heap.size := by have := D6.out.nums; omega
          have n5 : w.heap.size ≠ w3.heap.size := by have := D6.out.nums; omega
          have n6 : w.heap.size + 1 ≠ w2.heap.size := by have := D6.out.nums; omega
          have n7 : w.heap.size + 1 ≠ w3.heap.size := by have := D6.out.nums; omega
          have rf : ∀ j, w6.frozen? ⟨w.heap.size, j, none⟩ = false := D6.out.f1
          have sf : ∀ j, w6.frozen? ⟨w.heap.size + 1, j, none⟩ = false := D6.out.f2
          clear D6
          go_region
          all_goals
            go_wp2
            refine bodyPost_ret (v := .tuple #[.agg #[.slice a1 ls.length p1, .slice a2 ss.length p2, .slice a3 os.length p3], .agg #[.int .i64 o.k, .string o.n, .string o.t, .string o.d]]) (by simp [results, Try.results29, go_sem, *]) rfl (drawDP_mk (o := ⟨o.k, o.n, o.t, o.d⟩) DD.out HDP.out HBR.out ((chg7 _ _ _ _ _ _ _ _ _).trans (Chg.of ((Below.refl _ _).drew))))
      · obtain rfl : k = 200 := by omega
        go_wp2_with fail
        go_quiet (fail)
        have D6 := HIDk (D5.out.later (below_drewN (Below.refl _ _) nq))
        obtain ⟨w6, hw6⟩ : ∃ w6, w6 = wr.drewN nq := ⟨_, rfl⟩
        rw [← hw6] at D6 ⊢
        clear hw6 D5
        go_wp2_with fail
        have DD := D6
        obtain ⟨g0, z0, z1, z2⟩ := D6.out.db
        obtain ⟨g1, y0, y1, y2, y3⟩ := D6.out.ob
        obtain ⟨g2, r0, r1, r2⟩ := D6.out.r1
        obtain ⟨g3, s0, s1, s2, s3⟩ := D6.out.r2
        have n4 : w.heap.size ≠ w2.heap.size := by have := D6.out.nums; omega
        have n5 : w.heap.size ≠ w3.heap.size := by have := D6.out.nums; omega
        have n6 : w.heap.size + 1 ≠ w2.heap.size := by have := D6.out.nums; omega
        have n7 : w.heap.size + 1 ≠ w3.heap.size := by have := D6.out.nums; omega
        have rf : ∀ j, w6.frozen? ⟨w.heap.size, j, none⟩ = false := D6.out.f1
        have sf : ∀ j, w6.frozen? ⟨w.heap.size + 1, j, none⟩ = false := D6.out.f2
        clear D6
        go_region
        all_goals
          go_wp2
          refine bodyPost_ret (v := .tuple #[.agg #[.slice a1 ls.length p1, .slice a2 ss.length p2, .slice a3 os.length p3], .agg #[.int .i64 o.k, .string o.n, .string o.t, .string o.d]]) (by simp [results, Try.results29, go_sem, *]) rfl (drawDP_mk (o := ⟨o.k, o.n, o.t, o.d⟩) DD.out HDP.out HBR.out ((chg7 _ _ _ _ _ _ _ _ _).trans (Chg.of ((Below.refl _ _).drew))))
  have k3 : (x == 3) = false := by simpa using h3
  go_wp2_with fail
  have DD := D4
  obtain ⟨g0, z0, z1, z2⟩ := D4.out.db
  obtain ⟨g1, y0, y1, y2, y3⟩ := D4.out.ob
  obtain ⟨g2, r0, r1, r2⟩ := D4.out.r1
  obtain ⟨g3, s0, s1, s2, s3⟩ := D4.out.r2
  have n4 : w.heap.size ≠ w2.heap.size := by have := D4.out.nums; omega
  have n5 : w.heap.size ≠ w3.heap.size := by have := D4.out.nums; omega
  have n6 : w.heap.size + 1 ≠ w2.heap.size := by have := D4.out.nums; omega
  have n7 : w.heap.size + 1 ≠ w3.heap.size := by have := D4.out.nums; omega
  have rf : ∀ j, w4.frozen? ⟨w.heap.size, j, none⟩ = false := D4.out.f1
  have sf : ∀ j, w4.frozen? ⟨w.heap.size + 1, j, none⟩ = false := D4.out.f2
  clear D4
  go_region
  all_goals
    go_wp2
    refine bodyPost_ret (v := .tuple #[.agg #[.slice a1 ls.length p1, .slice a2 ss.length p2, .slice a3 os.length p3], .agg #[.int .i64 o.k, .string o.n, .string o.t, .string o.d]]) (by simp [results, Try.results29, go_sem, *]) rfl (drawDP_mk (o := ⟨o.k, o.n, o.t, o.d⟩) DD.out HDP.out HBR.out ((chg7 _ _ _ _ _ _ _ _ _).trans (Chg.of ((Below.refl _ _).drew))))
end Go.Proofs.Ytbfimfmfdllejaa

/- What is done is seen: told by plain lists. -/
namespace Go.Proofs.Ytbfimfmfdllejaa
open Go.RowKit

theorem done_told {ls ss : List Fl} {os : List Dop} {o : Dop} (hd : diskB ls ss os = true) (hc : actC ls os o = 0) :
    (o.k = 1 ∧ hasF (doF ls o).1 o.n = true ∧ dataF (doF ls o).1 o.n = dataF ls o.n ++ o.d) ∨ (o.k = 2 ∧ hasF (doF ls o).1 o.t = true ∧ dataF (doF ls o).1 o.t = dataF ls o.n ∧ hasF (doF ls o).1 o.n = (o.t.toList == o.n.toList)) ∨ (o.k = 3 ∧ hasF (doF ls o).1 o.n = false) := by
  obtain ⟨-, hf, h2, -⟩ := act_good hc
  obtain ⟨uL, -⟩ := filesB_up (diskB_facts hd).1
  have hk : 1 ≤ o.k ∧ o.k ≤ 3 := by
    simp only [formB, Bool.and_eq_true, decide_eq_true_eq] at hf
    exact hf.1.1
  have hno : ∀ y, hasF (cutF' ls y) y = false := fun y => by
    rw [← Bool.not_eq_true, has_iff]
    rintro ⟨f, hf, e⟩
    exact ((cutF_mem_iff ls y f).1 hf).2 e
  by_cases k1 : o.k = 1
  · refine .inl ⟨k1, ?_⟩
    rw [doF_add ls k1]
    exact read_ins uL
  · have hs : hasF ls o.n = true := by
      cases e : hasF ls o.n with
      | true => rfl
      | false => rw [doF_none ls k1 e] at h2; cases h2
    by_cases k2 : o.k = 2
    · refine .inr (.inl ⟨k2, ?_⟩)
      rw [doF_ren ls k2 hs]
      obtain ⟨r1, r2⟩ := read_ins (x := o.t) (d := dataF ls o.n) (cutF_up o.n uL)
      refine ⟨r1, r2, ?_⟩
      cases e : (o.t.toList == o.n.toList) with
      | true =>
        have : o.t = o.n := eqS_iff.1 e
        rw [← this, has_iff]
        exact ⟨⟨o.t, dataF ls o.t⟩, (insF_mem _ _ _ _).2 (.inl rfl), rfl⟩
      | false =>
        have hne : o.t ≠ o.n := eqS_no.1 e
        rw [← Bool.not_eq_true, has_iff]
        rintro ⟨f, hf, e⟩
        rcases (insF_mem _ _ _ _).1 hf with rfl | ⟨h, -⟩
        · exact hne e
        · exact ((cutF_mem_iff ls o.n f).1 h).2 e
    · refine .inr (.inr ⟨by omega, ?_⟩)
      rw [doF_rem ls k1 k2 hs]
      exact hno o.n
theorem dataF_small {fs : List Fl} {x : ByteArray} {A : Nat} (h : ∀ f ∈ fs, f.d.size ≤ A) : (dataF fs x).size ≤ A := dataF_le h x
end Go.Proofs.Ytbfimfmfdllejaa
