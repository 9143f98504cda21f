/- The contract of the document's Crash. -/
import Derived.Test.YtbfimfmfdllejaaPlainCrash
import Derived.BigRegion
import Derived.RegionTactic
namespace Go.Proofs.Ytbfimfmfdllejaa
open Go.ChangeShapes Go.WideShapes Go.ChangeAt Go.RowKit Go.Maps
set_option linter.unusedVariables false

def crB (ls ss : List Fl) (os : List Dop) (ks : List Int) (t : Int) : Bool := diskB ls ss os && decide (0 ≤ t) && keepB ks os.length && filesB (crUp ss os ks t.toNat ks.length)
def crL (ls ss : List Fl) (os : List Dop) (ks : List Int) (t : Int) : List Fl := if crB ls ss os ks t then crUp ss os ks t.toNat ks.length else []
/-- what Crash leaves: a disk with these files alone, and the flag -/
def CrTo (w : World) (xs : List Fl) (b : Bool) (e : Ending) (w' : World) : Prop := ∃ v, e = .returned (.tuple #[v, .bool b]) ∧ DB w' w.heap.size v xs xs [] ∧ Below w.heap.size w w'
theorem crTo_no {w w' : World} {ls ss : List Fl} {os : List Dop} {ks : List Int} {t : Int} (h : crB ls ss os ks t = false) (hB : Below w.heap.size w w') : CrTo w (crL ls ss os ks t) (crB ls ss os ks t) (.returned (.tuple #[.agg #[.slice none 0 0, .slice none 0 0, .slice none 0 0], .bool false])) w' := by
  have : crL ls ss os ks t = [] := by rw [crL, h]; rfl
  rw [this, h]
  exact ⟨_, rfl, ⟨none, none, none, 0, 0, 0, rfl, ownD_nil _ _, ⟨fun _ => rfl, fun _ => rfl⟩⟩, hB⟩
theorem crTo_yes {w w' : World} {ls ss : List Fl} {os : List Dop} {ks : List Int} {t : Int} {xs : List Fl} {a b c : Option Addr} {p q r : Nat} (h : crB ls ss os ks t = true) (hx : xs = crUp ss os ks t.toNat ks.length) (hS : OwnD w' w.heap.size a b c xs xs []) (hc : Nils a b p q) (hB : Below w.heap.size w w') : CrTo w (crL ls ss os ks t) (crB ls ss os ks t) (.returned (.tuple #[.agg #[.slice a xs.length p, .slice b xs.length q, .slice c 0 r], .bool true])) w' := by
  have : crL ls ss os ks t = xs := by rw [crL, h, hx]; rfl
  rw [this, h]
  exact ⟨_, rfl, ⟨a, b, c, p, q, r, rfl, hS, hc⟩, hB⟩
theorem keepAt_eq (ks : List Int) (n k : Nat) (h : k < ks.length) : keptAt ks n k = (decide (0 ≤ ks[k]) && decide (ks[k] < n) && (decide (k = 0) || decide (numAt ks (k - 1) < ks[k]))) := by rw [keptAt, numAt_get h]
/-- the op that is kept, where it is not torn -/
theorem keptO_same {os : List Dop} {ks : List Int} {t k m : Nat} (hm : numAt ks k = (m : Int)) (hlt : m < os.length) (h : k + 1 ≠ ks.length ∨ formB os[m] = true ∧ os[m].k ≠ 1 ∨ os[m].d.size ≤ t) : keptO os ks t k = os[m] := by
  have e : os.getD (numAt ks k).toNat noO = os[m] := by rw [hm, Int.toNat_natCast, List.getD_eq_getElem?_getD, List.getElem?_eq_getElem hlt]; rfl
  unfold keptO
  rw [e]
  by_cases hl : k + 1 = ks.length
  · rw [if_pos hl]
    rcases h with h | ⟨h1, h2⟩ | h
    · exact absurd hl h
    · exact tear_not t h1 h2
    · unfold tearO
      rw [Nat.min_eq_left h]
      have : os[m].d.extract 0 os[m].d.size = os[m].d := ByteArray.extract_zero_size
      rw [this]
  · rw [if_neg hl]
theorem keptO_torn {os : List Dop} {ks : List Int} {t k m : Nat} (hm : numAt ks k = (m : Int)) (hlt : m < os.length) (hl : k + 1 = ks.length) (h : t ≤ os[m].d.size) : keptO os ks t k = ⟨os[m].k, os[m].n, os[m].t, os[m].d.extract 0 t⟩ := by
  have e : os.getD (numAt ks k).toNat noO = os[m] := by rw [hm, Int.toNat_natCast, List.getD_eq_getElem?_getD, List.getElem?_eq_getElem hlt]; rfl
  unfold keptO
  rw [e, if_pos hl, tearO, Nat.min_eq_right h]
theorem Dk.drawn {w W : World} {adL adS adO : Option Addr} {ls ss : List Fl} {os : List Dop} (h : Dk w adL adS adO ls ss os W) (n : Nat) : Dk w adL adS adO ls ss os (W.drewN n) := h.later (below_drewN (Below.refl _ _) n)
theorem Box2.drawn {w W : World} {a b c : Value} (h : Box2 w a b c W) (n : Nat) : Box2 w a b c (W.drewN n) := h.later (below_drewN (Below.refl _ _) n)
theorem disk_safe {ls ss : List Fl} {os : List Dop} (h : diskB ls ss os = true) : filesB ss = true := by
  simp only [diskB, Bool.and_eq_true] at h; exact h.1.1.2
/-- what stays all the way through Crash -/
structure CrS (w : World) (adL adS adO adK : Option Addr) (capL capS capO : Nat) (ls ss : List Fl) (os : List Dop) (ks : List Int) (W : World) : Prop where
  dk : Dk w adL adS adO ls ss os W
  bx : Box2 w (.slice adL ls.length capL) (.slice adS ss.length capS) (.slice adO os.length capO) W
  sl : SlK W adK ks
theorem CrS.later {w W W' : World} {adL adS adO adK : Option Addr} {capL capS capO : Nat} {ls ss : List Fl} {os : List Dop} {ks : List Int} (h : CrS w adL adS adO adK capL capS capO ls ss os ks W) (hB : Below W.heap.size W W') : CrS w adL adS adO adK capL capS capO ls ss os ks W' :=
  ⟨h.dk.later hB, h.bx.later hB, h.sl.below hB⟩

/-- the files behind the first k ops that are kept, in a row of the call's own -/
structure NowC (w : World) (ss : List Fl) (os : List Dop) (ks : List Int) (t k : Nat) (fs : List Fl) (ad : Option Addr) (cap : Nat) (W : World) : Prop where
  eq : fs = crUp ss os ks t k
  nil : ad = none → cap = 0
  sl : SlF W ad fs
  fr : FrF W (w.heap.size + 2) ad (fs ≠ [])
set_option maxRecDepth 8000 in
set_option maxHeartbeats 4000000 in
theorem specCrash_any (adL adS adO adK : Option Addr) (capL capS capO capK : Nat) (ls ss : List Fl) (os : List Dop) (ks : List Int) (t : Int) (w : World) (hl : ls.length ≤ 1048576) (hs : ss.length ≤ 1048576) (ho : os.length ≤ 1048576) (hk : ks.length ≤ 1048576)
    (H : Dk w adL adS adO ls ss os w) (hcS : adS = none → capS = 0) (fl : ∀ f ∈ ls, f.n.size ≤ maxLen ∧ f.d.size ≤ 4194304) (fs' : ∀ f ∈ ss, f.n.size ≤ maxLen ∧ f.d.size ≤ 4194304) (fo : ∀ o ∈ os, o.small) (hK : SlK w adK ks) :
    Calls Try.prog 18 #[.agg #[.slice adL ls.length capL, .slice adS ss.length capS, .slice adO os.length capO], .slice adK ks.length capK, .int .i64 t] w (CrTo w (crL ls ss os ks t) (crB ls ss os ks t)) := by
  obtain ⟨W2, hW2⟩ : ∃ W2, W2 = (w.alloc (.cells #[.slice adL ls.length capL, .slice adS ss.length capS, .slice adO os.length capO] 33)).alloc (.cells #[.slice none 0 0, .slice none 0 0, .slice none 0 0] 33) := ⟨_, rfl⟩
  obtain ⟨z0, z1, z2, q0, q1, q2, qf, hw2⟩ := box2 w (.slice adL ls.length capL) (.slice adS ss.length capS) (.slice adO os.length capO) 33 33
  rw [← hW2] at z0 z1 z2 q0 q1 q2 qf hw2
  have hb2 : Below w.heap.size w W2 := by rw [hW2]; exact ((Below.refl _ _).alloc (Nat.le_refl _) _).alloc (by simp) _
  have T0 : Hid (CrS w adL adS adO adK capL capS capO ls ss os ks W2) := ⟨H.later hb2, ⟨z0, z1, z2, q0, q1, q2, qf, hw2⟩, hK.below hb2⟩
  have HFL := HIDk fl
  have HFS := HIDk fs'
  have HFO := HIDk fo
  have HCS := HIDk hcS
  clear H hb2 z0 z1 z2 q0 q1 q2 qf hw2 fl fs' fo hcS hK
  go_enter Try.func18, Try.ntmps18
  go_wp2_with fail
  rw [← hW2]
  clear hW2
  refine (specDiskOk_any adL adS adO capL capS capO ls ss os W2 hl hs ho (dk_self T0.out.dk) HCS.out HFL.out HFS.out HFO.out).mono ?_
  rintro e w1 ⟨rfl, hb1⟩
  have T1 := HIDk (T0.out.later hb1)
  clear hb1 T0
  obtain ⟨z0, z1, z2, q0, q1, q2, qf, hw2⟩ := T1.out.bx
  cases hd : diskB ls ss os with
  | false =>
    have HE : Hid (crB ls ss os ks t = false) := by show _ = _; rw [crB, hd]; rfl
    clear hd
    go_wp2
    refine bodyPost_ret (v := .tuple #[.agg #[.slice none 0 0, .slice none 0 0, .slice none 0 0], .bool false]) (by simp [results, Try.results18, go_sem, *]) rfl (crTo_no HE.out ?_)
    exact ((T1.out.dk.bel.setCell (p := ⟨w.heap.size + 1, 0, none⟩) (by simp) _).setCell (p := ⟨w.heap.size + 1, 1, none⟩) (by simp) _).setCell (p := ⟨w.heap.size + 1, 2, none⟩) (by simp) _
  | true =>
  have HD := HIDk hd
  clear hd
  by_cases ht : t < 0
  · have HE : Hid (crB ls ss os ks t = false) := by show _ = _; rw [crB, decide_eq_false (p := 0 ≤ t) (by omega)]; simp
    have dt : decide (t < 0) = true := by simpa using ht
    clear ht
    go_wp2
    refine bodyPost_ret (v := .tuple #[.agg #[.slice none 0 0, .slice none 0 0, .slice none 0 0], .bool false]) (by simp [results, Try.results18, go_sem, *]) rfl (crTo_no HE.out ?_)
    exact ((T1.out.dk.bel.setCell (p := ⟨w.heap.size + 1, 0, none⟩) (by simp) _).setCell (p := ⟨w.heap.size + 1, 1, none⟩) (by simp) _).setCell (p := ⟨w.heap.size + 1, 2, none⟩) (by simp) _
  have dt : decide (t < 0) = false := by simpa using ht
  obtain ⟨tn, rfl⟩ : ∃ tn : Nat, t = (tn : Int) := ⟨t.toNat, by omega⟩
  clear ht
  go_wp2_with fail
  clear z0 z1 z2 q0 q1 q2 qf hw2
  go_loopw [8] (fun i wr => ∃ k : Nat, k ≤ ks.length ∧ i = .int .i64 (k : Int) ∧ Hid (keepUp ks os.length k = true) ∧ Hid (CrS w adL adS adO adK capL capS capO ls ss os ks wr)) (fun i _ => ks.length - (intOf i).toNat)
  case atStart => exact ⟨0, Nat.zero_le _, rfl, rfl, T1⟩
  case round =>
    obtain ⟨k, hk1, rfl, HU, T⟩ := hrel
    obtain ⟨z0, z1, z2, q0, q1, q2, qf, hw2⟩ := T.out.bx
    by_cases hlt : k < ks.length
    · obtain ⟨b, off, rfl, hbK, hr⟩ : ∃ b off, adK = some ⟨b, off, none⟩ ∧ b < wr.heap.size ∧ ∀ (i : Nat) (h : i < ks.length), wr.cell? ⟨b, off + i, none⟩ = some (.int .i64 ks[i]) := by
        rcases T.out.sl with h | ⟨b, off, e, hb, hr⟩
        · rw [h] at hlt; simp at hlt
        · exact ⟨b, off, e, hb, hr⟩
      have t0 := hr k hlt
      have k0 : (0 : Int) ≤ (k : Int) := by omega
      have k1 : (k : Int) < (ks.length : Int) := by omega
      have hat := keepAt_eq ks os.length k hlt
      have hdec : decide (ks[k] ≤ (os.length : Int) - 1) = decide (ks[k] < (os.length : Int)) := by simp only [decide_eq_decide]; omega
      have wo : IntKind.i64.wrap ((os.length : Int) - 1) = (os.length : Int) - 1 := by rw [IntKind.wrap_i64]; omega
      cases hin : (decide (0 ≤ ks[k]) && decide (ks[k] ≤ (os.length : Int) - 1)) with
      | false =>
        have HL : Hid (∀ w, Calls Try.prog 49 #[.int .i64 ks[k], .int .i64 0, .int .i64 ((os.length : Int) - 1)] w fun e w' => e = .returned (.bool false) ∧ w' = w) := fun w => by have h := l1In_any ks[k] 0 ((os.length : Int) - 1) w; rw [hin] at h; exact h
        have HE : Hid (crB ls ss os ks (tn : Int) = false) := by
          have : keepB ks os.length = false := keep_bad hlt (by rw [hat, ← hdec, hin]; rfl)
          show _ = _; rw [crB, this]; simp
        clear hat hdec hin hr
        go_wp2_with fail
        go_quiet ((go_at_call 49; exact Calls.quiet_of_same (HL.out _)))
        go_wp2
        refine bodyPost_ret (v := .tuple #[.agg #[.slice none 0 0, .slice none 0 0, .slice none 0 0], .bool false]) (by simp [results, Try.results18, go_sem, *]) rfl (crTo_no HE.out ?_)
        exact (((below_drewN T.out.dk.bel _).setCell (p := ⟨w.heap.size + 1, 0, none⟩) (by simp) _).setCell (p := ⟨w.heap.size + 1, 1, none⟩) (by simp) _).setCell (p := ⟨w.heap.size + 1, 2, none⟩) (by simp) _
      | true =>
        have HL : Hid (∀ w, Calls Try.prog 49 #[.int .i64 ks[k], .int .i64 0, .int .i64 ((os.length : Int) - 1)] w fun e w' => e = .returned (.bool true) ∧ w' = w) := fun w => by have h := l1In_any ks[k] 0 ((os.length : Int) - 1) w; rw [hin] at h; exact h
        by_cases hk0 : k = 0
        · have hg0 : decide ((0 : Int) < (k : Int)) = false := by simp; omega
          have hg1 : decide (0 < k) = false := by simp; omega
          have HU2 : Hid (keepUp ks os.length (k + 1) = true) := by show _ = _; rw [keepUp_succ, HU.out, hat, ← hdec, hin, decide_eq_true hk0]; rfl
          clear hat hdec hin hr hk0
          go_wp2_with fail
          go_quiet ((go_at_call 49; exact Calls.quiet_of_same (HL.out _)))
          go_wp2
          go_roundw
          case rel => exact ⟨k + 1, by omega, by go_num, HU2, T.out.later (below_drewN (Below.refl _ _) _)⟩
          case measure => simp [intOf]; omega
        · have hg0 : decide ((0 : Int) < (k : Int)) = true := by simp; omega
          have hkp : 0 < k := by omega
          have hg1 : decide (0 < k) = true := by simpa using hkp
          have hp := hr (k - 1) (by omega)
          have j0 : (0 : Int) ≤ (k : Int) - 1 := by omega
          have j1 : (k : Int) - 1 < (ks.length : Int) := by omega
          have j2 : ((k : Int) - 1).toNat = k - 1 := by omega
          have hnm : numAt ks (k - 1) = ks[k - 1]'(by omega) := numAt_get (by omega)
          by_cases h3 : ks[k] ≤ ks[k - 1]'(by omega)
          · have HE : Hid (crB ls ss os ks (tn : Int) = false) := by
              have : keepB ks os.length = false := keep_bad hlt (by rw [hat, hnm, decide_eq_false hk0, decide_eq_false (p := ks[k - 1]'(by omega) < ks[k]) (by omega)]; simp)
              show _ = _; rw [crB, this]; simp
            have d3 : decide (ks[k] ≤ ks[k - 1]'(by omega)) = true := by simpa using h3
            clear hat hdec hin hr hk0 h3 hnm
            go_wp2_with fail
            go_quiet ((go_at_call 49; exact Calls.quiet_of_same (HL.out _)))
            go_wp2
            refine bodyPost_ret (v := .tuple #[.agg #[.slice none 0 0, .slice none 0 0, .slice none 0 0], .bool false]) (by simp [results, Try.results18, go_sem, *]) rfl (crTo_no HE.out ?_)
            exact (((below_drewN T.out.dk.bel _).setCell (p := ⟨w.heap.size + 1, 0, none⟩) (by simp) _).setCell (p := ⟨w.heap.size + 1, 1, none⟩) (by simp) _).setCell (p := ⟨w.heap.size + 1, 2, none⟩) (by simp) _
          · have HU2 : Hid (keepUp ks os.length (k + 1) = true) := by show _ = _; rw [keepUp_succ, HU.out, hat, hnm, ← hdec, hin, decide_eq_true (p := ks[k - 1]'(by omega) < ks[k]) (by omega)]; simp
            have d3 : decide (ks[k] ≤ ks[k - 1]'(by omega)) = false := by simpa using h3
            clear hat hdec hin hr hk0 h3 hnm
            go_wp2_with fail
            go_quiet ((go_at_call 49; exact Calls.quiet_of_same (HL.out _)))
            go_wp2
            go_roundw
            case rel => exact ⟨k + 1, by omega, by go_num, HU2, T.out.later (below_drewN (Below.refl _ _) _)⟩
            case measure => simp [intOf]; omega
    · obtain rfl : k = ks.length := by omega
      have HKB : Hid (keepB ks os.length = true) := HU.out
      clear hlt hk1 HU
      have HSB := HIDk (disk_safe HD.out)
      have HUS := HIDk (filesB_up HSB.out)
      have HF60 := HIDk (filesB_facts HSB.out)
      have HFM := HIDk (disk_form HD.out)
      have HCU := HIDk (fun k => crUp_right (t := tn) HKB.out HFM.out.1 HFO.out HUS.out.1 HUS.out.2 (fun f hf => (HF60.out.2 f hf).2) HF60.out.1 k)
      have hk200 : ks.length ≤ 200 := Nat.le_trans (keep_len HKB.out) HFM.out.2
      obtain ⟨v8, w8, hr8, hB8, hN8⟩ := appF (wr.alloc (.cells #[] 93)) adS capS ss (T.out.dk.safe.below ((Below.refl _ _).alloc (Nat.le_refl _) _)) hs (w.heap.size + 2) (by simp; omega) (.slice (some ⟨wr.heap.size, 0, none⟩) 0 0) (.inr ⟨_, rfl, heap_alloc_new _ _, hw2⟩) 30
      have HR8 := HIDk hr8
      have z18 : (wr.alloc (.cells #[] 93)).cell? ⟨w.heap.size, 1, none⟩ = some (.slice adS ss.length capS) := kept ((Below.refl _ _).alloc (Nat.le_refl _) _) (by omega) z1
      have hbb : Below wr.heap.size wr w8 := ((Below.refl _ _).alloc (Nat.le_refl _) _).trans (hB8.mono (by simp))
      have T8 := HIDk (T.out.later hbb)
      have HN8 : Hid (RF w8 (w.heap.size + 2) v8 ss) := newF hN8 (by simp; omega)
      clear hr8 hB8 hN8 hbb
      go_wp2_with (at_builtin; refine wpList_append_run rfl _ _ 30 30 rfl (.slice (some ⟨wr.heap.size, 0, none⟩) 0 0) (.slice adS ss.length capS) v8 w8 rfl rfl HR8.out ?_)
      obtain ⟨ad8, cap8, rfl, hc8, hs8, hf8⟩ := HN8.out
      clear HR8 T z18 z0 z1 z2 q0 q1 q2 qf hw2 HN8
      have HA : Hid (NowC w ss os ks tn 0 ss ad8 cap8 w8) := ⟨rfl, hc8, hs8, hf8⟩
      clear hc8 hs8 hf8
      go_wp2_with fail
      go_loopw [9, 10] (fun v i wr => ∃ (k : Nat) (fs : List Fl) (ad : Option Addr) (cap : Nat), k ≤ ks.length ∧ v = .slice ad fs.length cap ∧ i = .int .i64 (k : Int) ∧ Hid (NowC w ss os ks tn k fs ad cap wr) ∧ Hid (CrS w adL adS adO adK capL capS capO ls ss os ks wr)) (fun _ i _ => ks.length - (intOf i).toNat)
      case atStart => exact ⟨0, ss, ad8, cap8, Nat.zero_le _, rfl, rfl, HA, T8⟩
      case round =>
        obtain ⟨k, fs, ad, cap, hk1, rfl, rfl, HN, T⟩ := hrel
        obtain ⟨z0, z1, z2, q0, q1, q2, qf, hw2⟩ := T.out.bx
        by_cases hlt : k < ks.length
        · obtain ⟨h0, h1, -⟩ := keep_at HKB.out hlt
          obtain ⟨m, hm⟩ : ∃ m : Nat, numAt ks k = (m : Int) := ⟨(numAt ks k).toNat, by omega⟩
          have hmo : m < os.length := by omega
          obtain ⟨b, off, rfl, hbK, t0⟩ : ∃ b off, adK = some ⟨b, off, none⟩ ∧ b < wr.heap.size ∧ wr.cell? ⟨b, off + k, none⟩ = some (.int .i64 (m : Int)) := by
            rcases T.out.sl with h | ⟨b, off, e, hb, hr⟩
            · rw [h] at hlt; simp at hlt
            · exact ⟨b, off, e, hb, by rw [hr k hlt, ← hm, numAt_get hlt]⟩
          obtain ⟨bo, oo, rfl, hbO, hro⟩ : ∃ b off, adO = some ⟨b, off, none⟩ ∧ b < wr.heap.size ∧ AtO wr b (off + m * 4) os[m] := by
            rcases T.out.dk.ops with hnil | ⟨b, off, e, hbO, hr⟩
            · rw [hnil] at hmo; simp at hmo
            · exact ⟨b, off, e, hbO, hr m hmo⟩
          have HM := HIDk hm
          clear h0 h1 hm
          obtain ⟨o0, o1, o2, o3⟩ := hro
          have k0 : (0 : Int) ≤ (k : Int) := by omega
          have k1 : (k : Int) < (ks.length : Int) := by omega
          have hw0 : w.heap.size < wr.heap.size := by omega
          have m0 : (0 : Int) ≤ (m : Int) := by omega
          have m1 : (m : Int) < (os.length : Int) := by omega
          obtain ⟨X, hX⟩ : ∃ X, X = (wr.alloc (.cells #[.int .i64 os[m].k, .string os[m].n, .string os[m].t, .string os[m].d] 37)).drew := ⟨_, rfl⟩
          have HBX : Hid (Below wr.heap.size wr X) := by rw [hX]; exact ((Below.refl _ _).alloc (Nat.le_refl _) _).drew
          have HX4 : Hid (X.cell? ⟨wr.heap.size, 0, none⟩ = some (.int .i64 os[m].k) ∧ X.cell? ⟨wr.heap.size, 1, none⟩ = some (.string os[m].n) ∧ X.cell? ⟨wr.heap.size, 2, none⟩ = some (.string os[m].t) ∧ X.cell? ⟨wr.heap.size, 3, none⟩ = some (.string os[m].d) ∧ ∀ i, X.frozen? ⟨wr.heap.size, i, none⟩ = false) := by
            rw [hX]; refine ⟨?_, ?_, ?_, ?_, ?_⟩ <;> simp
          go_wp2_with fail
          go_region
          rw [← hX]
          clear hX o0 o1 o2 o3 t0 z0 z1 z2 q0 q1 q2 qf
          obtain ⟨x0, x1, x2, x3, xf⟩ := HX4.out
          obtain ⟨-, -, c3, c4⟩ := HCU.out k hk1
          have HFZ : Hid (∀ f ∈ fs, f.d.size + os[m].d.size ≤ 1073741824) := fun f hf => by
            have h1 := c3 f (by rw [← HN.out.eq]; exact hf)
            have h2 := (HFO.out _ (List.getElem_mem hmo)).2.2
            omega
          have hfl : fs.length ≤ 1048576 := by rw [HN.out.eq]; omega
          have hok := HFM.out.1 _ (List.getElem_mem hmo)
          have hsm := (HFO.out _ (List.getElem_mem hmo)).2.2
          clear c3 c4 HX4
          by_cases hlast : k + 1 = ks.length
          · have b1 : ((k : Int) == (ks.length : Int) - 1) = true := by simp; omega
            have b2 : decide ((k : Int) = (ks.length : Int) - 1) = true := by simp; omega
            by_cases h1 : os[m].k = 1
            · have b3 : (os[m].k == 1) = true := by simpa using h1
              have b4 : decide (os[m].k = 1) = true := by simpa using h1
              by_cases h2 : tn < os[m].d.size
              · have b5 : decide ((tn : Int) < (os[m].d.size : Int)) = true := by simp; omega
                have b6 : decide (tn < os[m].d.size) = true := by simpa using h2
                have HKO := HIDk (keptO_torn (t := tn) HM.out hmo hlast (by omega))
                have t5 : (tn : Int) ≤ (os[m].d.size : Int) := by omega
                have t6 : (0 : Int) ≤ (tn : Int) := by omega
                obtain ⟨Y, hY⟩ : ∃ Y, Y = X.setCell ⟨wr.heap.size, 3, none⟩ (.string (os[m].d.extract 0 tn)) := ⟨_, rfl⟩
                have HBY : Hid (Below wr.heap.size wr Y) := by rw [hY]; exact HBX.out.setCell (p := ⟨wr.heap.size, 3, none⟩) (Nat.le_refl _) _
                have y0 : Y.cell? ⟨wr.heap.size, 0, none⟩ = some (.int .i64 os[m].k) := by rw [hY, setO' (by omega)]; exact x0
                have y1 : Y.cell? ⟨wr.heap.size, 1, none⟩ = some (.string os[m].n) := by rw [hY, setO' (by omega)]; exact x1
                have y2 : Y.cell? ⟨wr.heap.size, 2, none⟩ = some (.string os[m].t) := by rw [hY, setO' (by omega)]; exact x2
                have y3 : Y.cell? ⟨wr.heap.size, 3, none⟩ = some (.string (os[m].d.extract 0 tn)) := by rw [hY]; exact setS' x3
                clear h1 h2 hlast
                rw [hY] at y0 y1 y2 y3
                go_wp2_with fail
                rw [← hY]
                clear hY y0 y1 y2 y3
                refine (l8Do_any ad cap fs ⟨os[m].k, os[m].n, os[m].t, os[m].d.extract 0 tn⟩ _ hfl (HN.out.sl.below HBY.out) HN.out.nil (fun f hf => by have := HFZ.out f hf; simp only [ByteArray.size_extract]; unfold maxLen; omega)).mono ?_
                rintro e w5 ⟨v5, rfl, hown5, hb5⟩
                obtain ⟨adN, capN, rfl, hcN, hsN, hfN⟩ := own_filesF hown5 rfl
                have hbT := (HBY.out).trans (hb5.mono (HBY.out).size)
                have T5 := HIDk (T.out.later hbT)
                have N5 : Hid (NowC w ss os ks tn (k + 1) (doF fs ⟨os[m].k, os[m].n, os[m].t, os[m].d.extract 0 tn⟩).1 adN capN w5) := ⟨by rw [crUp, ← HN.out.eq, HKO.out], hcN, hsN, hfN.mono (by have := (HBY.out).size; omega)⟩
                clear hbT hown5 hb5 hcN hsN hfN HN T
                go_wp2
                go_roundw
                case rel => exact ⟨k + 1, _, adN, capN, by omega, rfl, by go_num, N5, T5⟩
                case measure => simp [intOf]; omega
              · have b5 : decide ((tn : Int) < (os[m].d.size : Int)) = false := by simp; omega
                have b6 : decide (tn < os[m].d.size) = false := by simp; omega
                have HKO : Hid (keptO os ks tn k = os[m]) := keptO_same HM.out hmo (.inr (.inr (by omega)))
                clear h1 h2 hlast
                go_wp2_with fail
                refine (l8Do_any ad cap fs os[m] _ hfl (HN.out.sl.below HBX.out) HN.out.nil (fun f hf => by have := HFZ.out f hf; unfold maxLen; omega)).mono ?_
                rintro e w5 ⟨v5, rfl, hown5, hb5⟩
                obtain ⟨adN, capN, rfl, hcN, hsN, hfN⟩ := own_filesF hown5 rfl
                have hbT := (HBX.out).trans (hb5.mono (HBX.out).size)
                have T5 := HIDk (T.out.later hbT)
                have N5 : Hid (NowC w ss os ks tn (k + 1) (doF fs os[m]).1 adN capN w5) := ⟨by rw [crUp, ← HN.out.eq, HKO.out], hcN, hsN, hfN.mono (by have := (HBX.out).size; omega)⟩
                clear hbT hown5 hb5 hcN hsN hfN HN T
                go_wp2
                go_roundw
                case rel => exact ⟨k + 1, _, adN, capN, by omega, rfl, by go_num, N5, T5⟩
                case measure => simp [intOf]; omega
            · have b3 : (os[m].k == 1) = false := by simpa using h1
              have b4 : decide (os[m].k = 1) = false := by simpa using h1
              have HKO : Hid (keptO os ks tn k = os[m]) := keptO_same HM.out hmo (.inr (.inl ⟨hok, h1⟩))
              clear h1 hlast
              go_wp2_with fail
              refine (l8Do_any ad cap fs os[m] _ hfl (HN.out.sl.below HBX.out) HN.out.nil (fun f hf => by have := HFZ.out f hf; unfold maxLen; omega)).mono ?_
              rintro e w5 ⟨v5, rfl, hown5, hb5⟩
              obtain ⟨adN, capN, rfl, hcN, hsN, hfN⟩ := own_filesF hown5 rfl
              have hbT := (HBX.out).trans (hb5.mono (HBX.out).size)
              have T5 := HIDk (T.out.later hbT)
              have N5 : Hid (NowC w ss os ks tn (k + 1) (doF fs os[m]).1 adN capN w5) := ⟨by rw [crUp, ← HN.out.eq, HKO.out], hcN, hsN, hfN.mono (by have := (HBX.out).size; omega)⟩
              clear hbT hown5 hb5 hcN hsN hfN HN T
              go_wp2
              go_roundw
              case rel => exact ⟨k + 1, _, adN, capN, by omega, rfl, by go_num, N5, T5⟩
              case measure => simp [intOf]; omega
          · have b1 : ((k : Int) == (ks.length : Int) - 1) = false := by simp; omega
            have b2 : decide ((k : Int) = (ks.length : Int) - 1) = false := by simp; omega
            have HKO : Hid (keptO os ks tn k = os[m]) := keptO_same HM.out hmo (.inl hlast)
            clear hlast
            go_wp2_with fail
            refine (l8Do_any ad cap fs os[m] _ hfl (HN.out.sl.below HBX.out) HN.out.nil (fun f hf => by have := HFZ.out f hf; unfold maxLen; omega)).mono ?_
            rintro e w5 ⟨v5, rfl, hown5, hb5⟩
            obtain ⟨adN, capN, rfl, hcN, hsN, hfN⟩ := own_filesF hown5 rfl
            have hbT := (HBX.out).trans (hb5.mono (HBX.out).size)
            have T5 := HIDk (T.out.later hbT)
            have N5 : Hid (NowC w ss os ks tn (k + 1) (doF fs os[m]).1 adN capN w5) := ⟨by rw [crUp, ← HN.out.eq, HKO.out], hcN, hsN, hfN.mono (by have := (HBX.out).size; omega)⟩
            clear hbT hown5 hb5 hcN hsN hfN HN T
            go_wp2
            go_roundw
            case rel => exact ⟨k + 1, _, adN, capN, by omega, rfl, by go_num, N5, T5⟩
            case measure => simp [intOf]; omega
        · obtain rfl : k = ks.length := by omega
          obtain ⟨c1, c2, c3, c4⟩ := HCU.out _ hk1
          rw [← HN.out.eq] at c1 c2 c3 c4
          have hfl : fs.length ≤ 1048576 := by omega
          have HFZ : Hid (∀ f ∈ fs, f.n.size ≤ maxLen ∧ f.d.size ≤ 1073741824) := fun f hf => ⟨Nat.le_trans (nm_le (c2 f hf)) (by unfold maxLen; omega), by have := c3 f hf; omega⟩
          clear c1 c2 c3 c4 z0 z1 z2 q0 q1 q2 qf hw2
          go_wp2_with fail
          refine (l8Files_wide ad cap fs wr hfl HN.out.sl HFZ.out).mono ?_
          rintro e w5 ⟨rfl, hb5⟩
          have T5 := HIDk (T.out.later hb5)
          have HS5 := HIDk (HN.out.sl.below hb5)
          have HF5 := HIDk (HN.out.fr.below hb5)
          clear hb5 T
          obtain ⟨z0, z1, z2, q0, q1, q2, qf, hw2⟩ := T5.out.bx
          cases hfb : filesB fs with
          | false =>
            have HE : Hid (crB ls ss os ks (tn : Int) = false) := by
              show _ = _; rw [crB, Int.toNat_natCast, ← HN.out.eq, hfb]; simp
            clear hfb
            go_wp2
            refine bodyPost_ret (v := .tuple #[.agg #[.slice none 0 0, .slice none 0 0, .slice none 0 0], .bool false]) (by simp [results, Try.results18, go_sem, *]) rfl (crTo_no HE.out ?_)
            exact ((T5.out.dk.bel.setCell (p := ⟨w.heap.size + 1, 0, none⟩) (by simp) _).setCell (p := ⟨w.heap.size + 1, 1, none⟩) (by simp) _).setCell (p := ⟨w.heap.size + 1, 2, none⟩) (by simp) _
          | true =>
            have HE : Hid (crB ls ss os ks (tn : Int) = true) := by
              show _ = _; rw [crB, Int.toNat_natCast, ← HN.out.eq, hfb, HD.out, HKB.out]; simp
            clear hfb
            have bal : Below w5.heap.size w5 (w5.alloc (.cells #[] 93)) := (Below.refl _ _).alloc (Nat.le_refl _) _
            obtain ⟨v8, w8, hr8, hB8, hN8⟩ := appF (w5.alloc (.cells #[] 93)) ad cap fs (HS5.out.below bal) hfl (w.heap.size + 2) (by simp; omega) (.slice (some ⟨w5.heap.size, 0, none⟩) 0 0) (.inr ⟨_, rfl, heap_alloc_new _ _, hw2⟩) 30
            have HR8 := HIDk hr8
            have hbb : Below w5.heap.size w5 w8 := bal.trans (hB8.mono (by simp))
            have HAP : Hid (fs ≠ [] → fs ≠ [] → (Value.slice ad fs.length cap).ownBlock ≠ v8.ownBlock) := fun hn _ => by
              obtain ⟨g, e, h1, h2, -⟩ := HF5.out hn
              refine (newF_apart hN8 hn ⟨g, by rw [e]; rfl, by simp; omega⟩).symm
            have HB8 := HIDk (T5.out.dk.bel.trans (hbb.mono T5.out.dk.bel.size))
            obtain ⟨-, -, -, r0, r1, r2, rf, -⟩ := T5.out.bx.later hbb
            obtain ⟨ad8, cap8, rfl, hc8, hs8, hf8⟩ : RF w8 (w.heap.size + 2) v8 fs := newF hN8 (by simp; omega)
            have HS8 := HIDk (HS5.out.below hbb)
            have HF8 := HIDk (HF5.out.below hbb)
            have HNIL := HIDk HN.out.nil
            have HEQ : Hid (fs = crUp ss os ks ((tn : Int)).toNat ks.length) := by show _ = _; rw [Int.toNat_natCast]; exact HN.out.eq
            have HO := HIDk (own_mk2 HS8.out hs8 HF8.out hf8 HAP.out)
            have HNl : Hid (Nils ad ad8 cap cap8) := ⟨hc8, HNIL.out⟩
            clear hr8 hB8 hN8 hbb bal T5 HS5 HF5 HN z0 z1 z2 q0 q1 q2 qf hw2 hc8 hs8 hf8 HAP HS8 HF8
            go_wp2_with (at_builtin; refine wpList_append_run rfl _ _ 30 30 rfl (.slice (some ⟨w5.heap.size, 0, none⟩) 0 0) (.slice ad fs.length cap) (.slice ad8 fs.length cap8) w8 rfl rfl HR8.out ?_)
            clear HR8
            go_wp2
            refine bodyPost_ret (v := .tuple #[.agg #[.slice ad fs.length cap, .slice ad8 fs.length cap8, .slice none 0 0], .bool true]) (by simp [results, Try.results18, go_sem, *]) rfl (crTo_yes HE.out HEQ.out ((own_box (own_box (own_box HO.out (by omega) _ _) (by omega) _ _) (by omega) _ _).mono (by omega)) HNl.out ?_)
            exact ((HB8.out.setCell (p := ⟨w.heap.size + 1, 0, none⟩) (by simp) _).setCell (p := ⟨w.heap.size + 1, 1, none⟩) (by simp) _).setCell (p := ⟨w.heap.size + 1, 2, none⟩) (by simp) _
end Go.Proofs.Ytbfimfmfdllejaa
