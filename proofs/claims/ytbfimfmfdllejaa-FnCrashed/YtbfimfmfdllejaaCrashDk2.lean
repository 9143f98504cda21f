/- The contract of the program's Crash. -/
import Derived.Test.YtbfimfmfdllejaaCrashDk
namespace Go.Proofs.Ytbfimfmfdllejaa
open Go.ChangeShapes Go.WideShapes Go.ChangeAt Go.RowKit Go.Maps
set_option linter.unusedVariables false

/-- the folder behind the first k ops that are kept -/
structure NowG (ss : List Fl) (os : List Dop) (ks : List Int) (t k b : Nat) (fs : List Fl) (W : World) : Prop where
  eq : fs = crUp ss os ks t k
  fold : ∃ n M, n ≤ 60 + k ∧ Fold W b n M fs
theorem nowG_next {ss : List Fl} {os : List Dop} {ks : List Int} {t k b n : Nat} {fs gs : List Fl} {o : Dop} {f : Bool} {W : World} {M : ByteArray → Option Value} (he : fs = crUp ss os ks t k) (ho : o = keptO os ks t k) (hg : doF fs o = (gs, f)) (hn : n ≤ 60 + k) (hF : Fold W b (n + 1) M gs) : NowG ss os ks t (k + 1) b gs W :=
  ⟨by rw [crUp, ← he, ← ho, hg], n + 1, M, by omega, hF⟩
theorem keptO_last {os : List Dop} {ks : List Int} {t k m : Nat} (hm : numAt ks k = (m : Int)) (hlt : m < os.length) (hl : k + 1 = ks.length) : keptO os ks t k = ⟨os[m].k, os[m].n, os[m].t, os[m].d.extract 0 (min os[m].d.size t)⟩ := by
  have e : os.getD (numAt ks k).toNat noO = os[m] := by rw [hm, Int.toNat_natCast, List.getD_eq_getElem?_getD, List.getElem?_eq_getElem hlt]; rfl
  unfold keptO
  rw [e, if_pos hl, tearO]

set_option maxRecDepth 100000 in
set_option maxHeartbeats 16000000 in
theorem implCrash_any (adL adS adO adK : Option Addr) (capL capS capO capK : Nat) (ls ss : List Fl) (os : List Dop) (ks : List Int) (t : Int) (w : World) (hl : ls.length ≤ 1048576) (hs : ss.length ≤ 1048576) (ho : os.length ≤ 1048576) (hk : ks.length ≤ 1048576)
    (H : Dk w adL adS adO ls ss os w) (fl : ∀ f ∈ ls, f.n.size ≤ maxLen ∧ f.d.size ≤ 4194304) (fs' : ∀ f ∈ ss, f.n.size ≤ maxLen ∧ f.d.size ≤ 4194304) (fo : ∀ o ∈ os, o.small) (hK : SlK w adK ks) :
    Calls Try.prog 20 #[.agg #[.slice adL ls.length capL, .slice adS ss.length capS, .slice adO os.length capO], .slice adK ks.length capK, .int .i64 t] w (CrTo w (crL ls ss os ks t) (crB ls ss os ks t)) := by
  obtain ⟨W2, hW2⟩ : ∃ W2, W2 = (w.alloc (.cells #[.slice adL ls.length capL, .slice adS ss.length capS, .slice adO os.length capO] 33)).alloc (.cells #[.slice none 0 0, .slice none 0 0, .slice none 0 0] 33) := ⟨_, rfl⟩
  obtain ⟨z0, z1, z2, q0, q1, q2, qf, hw2⟩ := box2 w (.slice adL ls.length capL) (.slice adS ss.length capS) (.slice adO os.length capO) 33 33
  rw [← hW2] at z0 z1 z2 q0 q1 q2 qf hw2
  have hb2 : Below w.heap.size w W2 := by rw [hW2]; exact ((Below.refl _ _).alloc (Nat.le_refl _) _).alloc (by simp) _
  have T0 : Hid (CrS w adL adS adO adK capL capS capO ls ss os ks W2) := ⟨H.later hb2, ⟨z0, z1, z2, q0, q1, q2, qf, hw2⟩, hK.below hb2⟩
  have HFL := HIDk fl
  have HFS := HIDk fs'
  have HFO := HIDk fo
  clear H hb2 z0 z1 z2 q0 q1 q2 qf hw2 fl fs' fo hK
  go_enter Try.func20, Try.ntmps20
  go_wp2_with fail
  rw [← hW2]
  clear hW2
  refine (implDiskOk_any adL adS adO capL capS capO ls ss os W2 hl hs ho (dk_self T0.out.dk) HFL.out HFS.out HFO.out).mono ?_
  rintro e w1 ⟨rfl, hb1⟩
  have T1 := HIDk (T0.out.later hb1)
  clear hb1 T0
  obtain ⟨z0, z1, z2, q0, q1, q2, qf, hw2⟩ := T1.out.bx
  cases hd : diskB ls ss os with
  | false =>
    have HE : Hid (crB ls ss os ks t = false) := by show _ = _; rw [crB, hd]; rfl
    clear hd
    go_wp2
    refine bodyPost_ret (v := .tuple #[.agg #[.slice none 0 0, .slice none 0 0, .slice none 0 0], .bool false]) (by simp [results, Try.results20, go_sem, *]) rfl (crTo_no HE.out ?_)
    exact ((T1.out.dk.bel.setCell (p := ⟨w.heap.size + 1, 0, none⟩) (by simp) _).setCell (p := ⟨w.heap.size + 1, 1, none⟩) (by simp) _).setCell (p := ⟨w.heap.size + 1, 2, none⟩) (by simp) _
  | true =>
  have HD := HIDk hd
  clear hd
  go_wp2_with fail
  refine (keepOk_any adK capK ks os.length w1 hk T1.out.sl).mono ?_
  rintro e w2 ⟨rfl, hb2⟩
  have T2 := HIDk (T1.out.later hb2)
  clear hb2 T1 z0 z1 z2 q0 q1 q2 qf hw2
  obtain ⟨z0, z1, z2, q0, q1, q2, qf, hw2⟩ := T2.out.bx
  cases hkb : keepB ks os.length with
  | false =>
    have HE : Hid (crB ls ss os ks t = false) := by show _ = _; rw [crB, hkb]; simp
    clear hkb
    go_wp2
    refine bodyPost_ret (v := .tuple #[.agg #[.slice none 0 0, .slice none 0 0, .slice none 0 0], .bool false]) (by simp [results, Try.results20, go_sem, *]) rfl (crTo_no HE.out ?_)
    exact ((T2.out.dk.bel.setCell (p := ⟨w.heap.size + 1, 0, none⟩) (by simp) _).setCell (p := ⟨w.heap.size + 1, 1, none⟩) (by simp) _).setCell (p := ⟨w.heap.size + 1, 2, none⟩) (by simp) _
  | true =>
  have HKB := HIDk hkb
  clear hkb
  by_cases ht : t < 0
  · have HE : Hid (crB ls ss os ks t = false) := by show _ = _; rw [crB, decide_eq_false (p := 0 ≤ t) (by omega)]; simp
    have dt : decide (t < 0) = true := by simpa using ht
    clear ht
    go_wp2
    refine bodyPost_ret (v := .tuple #[.agg #[.slice none 0 0, .slice none 0 0, .slice none 0 0], .bool false]) (by simp [results, Try.results20, go_sem, *]) rfl (crTo_no HE.out ?_)
    exact ((T2.out.dk.bel.setCell (p := ⟨w.heap.size + 1, 0, none⟩) (by simp) _).setCell (p := ⟨w.heap.size + 1, 1, none⟩) (by simp) _).setCell (p := ⟨w.heap.size + 1, 2, none⟩) (by simp) _
  have dt : decide (t < 0) = false := by simpa using ht
  obtain ⟨tn, rfl⟩ : ∃ tn : Nat, t = (tn : Int) := ⟨t.toNat, by omega⟩
  clear ht
  have HSB := HIDk (disk_safe HD.out)
  have HUS := HIDk (filesB_up HSB.out)
  have HF60 := HIDk (filesB_facts HSB.out)
  have HSF : Hid (∀ f ∈ ss, f.n.size ≤ maxLen ∧ f.d.size ≤ maxLen) := fun f hf => ⟨(HF60.out.2 f hf).1, by have := (HF60.out.2 f hf).2; unfold maxLen; omega⟩
  have HFM := HIDk (disk_form HD.out)
  have HCU := HIDk (fun k => crUp_right (t := tn) HKB.out HFM.out.1 HFO.out HUS.out.1 HUS.out.2 (fun f hf => (HF60.out.2 f hf).2) HF60.out.1 k)
  have hk200 : ks.length ≤ 200 := Nat.le_trans (keep_len HKB.out) HFM.out.2
  go_wp2_with fail
  refine (folderOf_any adS capS ss w2 hs T2.out.dk.safe HSF.out HUS.out.1).mono ?_
  rintro e w3 ⟨rfl, ⟨M3, hF3⟩, hb3⟩
  have N3 : Hid (NowG ss os ks tn 0 w2.heap.size ss w3) := ⟨rfl, _, M3, by have := HF60.out.1; omega, hF3⟩
  have B3 := HIDk hb3
  clear hb3 hF3 z0 z1 z2 q0 q1 q2 qf
  go_wp2_with fail
  go_loopw [35] (fun i wr => ∃ (k : Nat) (fs : List Fl), k ≤ ks.length ∧ i = .int .i64 (k : Int) ∧ Hid (NowG ss os ks tn k w2.heap.size fs wr) ∧ Hid (Below w2.heap.size w2 wr)) (fun i _ => ks.length - (intOf i).toNat)
  case atStart => exact ⟨0, ss, Nat.zero_le _, rfl, N3, B3⟩
  case round =>
    clear N3 B3
    obtain ⟨k, fs, hk1, rfl, HN, HBW⟩ := hrel
    obtain ⟨z0, z1, z2, q0, q1, q2, qf, hw3⟩ := T2.out.bx.later HBW.out
    have HSZ := HIDk hw3
    clear hw3
    by_cases hlt : k < ks.length
    · obtain ⟨h0, h1, -⟩ := keep_at HKB.out hlt
      obtain ⟨m, hm⟩ : ∃ m : Nat, numAt ks k = (m : Int) := ⟨(numAt ks k).toNat, by omega⟩
      have hmo : m < os.length := by omega
      have HM := HIDk hm
      obtain ⟨b, off, rfl, t0⟩ : ∃ b off, adK = some ⟨b, off, none⟩ ∧ wr.cell? ⟨b, off + k, none⟩ = some (.int .i64 (m : Int)) := by
        rcases T2.out.sl.below HBW.out with h | ⟨b, off, e, hb, hr⟩
        · rw [h] at hlt; simp at hlt
        · exact ⟨b, off, e, by rw [hr k hlt, ← hm, numAt_get hlt]⟩
      obtain ⟨bo, oo, rfl, hro⟩ : ∃ b off, adO = some ⟨b, off, none⟩ ∧ AtO wr b (off + m * 4) os[m] := by
        rcases (T2.out.dk.later HBW.out).ops with hnil | ⟨b, off, e, hbO, hr⟩
        · rw [hnil] at hmo; simp at hmo
        · exact ⟨b, off, e, hr m hmo⟩
      clear h0 h1 hm
      obtain ⟨o0, o1, o2, o3⟩ := hro
      have k0 : (0 : Int) ≤ (k : Int) := by omega
      have k1 : (k : Int) < (ks.length : Int) := by omega
      have m0 : (0 : Int) ≤ (m : Int) := by omega
      have m1 : (m : Int) < (os.length : Int) := by omega
      have HKR := HIDk (kept_right (t := tn) HKB.out hlt HFM.out.1 HFO.out)
      have HR := HIDk (HCU.out k hk1)
      have hsm : os[m].d.size ≤ 2097152 := (HFO.out _ (List.getElem_mem hmo)).2.2
      obtain ⟨n, M, hn, hFd⟩ := HN.out.fold
      have HFd := HIDk hFd
      have hnm : n < maxLen := by unfold maxLen; omega
      clear hFd
      by_cases hlast : k + 1 = ks.length
      · have b1 : ((k : Int) == (ks.length : Int) - 1) = true := by simp; omega
        have b2 : decide ((k : Int) = (ks.length : Int) - 1) = true := by simp; omega
        have n0 : (0 : Int) ≤ min (os[m].d.size : Int) (tn : Int) := by omega
        have n1 : min (os[m].d.size : Int) (tn : Int) ≤ (os[m].d.size : Int) := by omega
        have n2 : (min (os[m].d.size : Int) (tn : Int)).toNat = min os[m].d.size tn := by omega
        obtain ⟨X, hX⟩ : ∃ X, X = wr.alloc (.cells #[.int .i64 os[m].k, .string os[m].n, .string os[m].t, .string (os[m].d.extract 0 (min os[m].d.size tn))] 37) := ⟨_, rfl⟩
        have HBX : Hid (Below wr.heap.size wr X) := by rw [hX]; exact (Below.refl _ _).alloc (Nat.le_refl _) _
        obtain ⟨o, hoo⟩ : ∃ o : Dop, o = ⟨os[m].k, os[m].n, os[m].t, os[m].d.extract 0 (min os[m].d.size tn)⟩ := ⟨_, rfl⟩
        have HKO : Hid (o = keptO os ks tn k) := by show _ = _; rw [hoo]; exact (keptO_last (t := tn) HM.out hmo hlast).symm
        have HOF : Hid (formB o = true ∧ o.small) := by have := HKR.out; rw [← HKO.out] at this; exact this
        have HOP : Hid (Calls Try.prog 53 #[.agg #[.int .i64 os[m].k, .string os[m].n, .string os[m].t, .string (os[m].d.extract 0 (min os[m].d.size tn))]] X (OpPost o X)) := by
          have := opOf_any o X (small_fits HOF.out.2)
          rw [hoo] at this ⊢
          exact this
        clear hlast hoo
        go_wp2_with fail
        rw [← hX]
        clear hX o0 o1 o2 o3 t0 z0 z1 z2 q0 q1 q2 qf
        refine HOP.out.mono ?_
        rintro e w5 ⟨⟨v, rfl, hv⟩, hb5⟩
        obtain rfl := hv HOF.out.1
        rw [HOF.out.1]
        have hbT := HBX.out.trans (hb5.mono HBX.out.size)
        have H2 := HIDk (HFd.out.below hbT)
        have HB1 := HIDk (HBW.out.trans (hbT.mono HBW.out.size))
        have HFT := HIDk (small_fits HOF.out.2)
        have HDD : Hid ((dataF fs o.n).size + o.d.size ≤ 140737488355328) := by
          have h1 := dataF_le (B := 200000 + k * 2097152) (fun f hf => HR.out.2.2.1 f (by rw [← HN.out.eq]; exact hf)) o.n
          have h2 := HOF.out.2.2.2
          show _ ≤ _
          omega
        have HUF : Hid (UpL fs) := by show UpL fs; rw [HN.out.eq]; exact HR.out.1
        clear hv hb5 hbT HOP HBX HFd HBW
        by_cases kk1 : o.k = 1
        · have hv : opV o = .iface 119 (.agg #[.string o.n, .string o.d]) := by rw [opV, if_pos kk1]
          have HG := HIDk (doF_add fs kk1)
          rw [hv]
          clear hv kk1
          go_wp2_with fail
          rw [meth_fa (h := ?_)]
          rotate_left
          · kernel_rfl
          go_wp2_with fail
          refine (findsAdd_any o w2.heap.size w5).mono ?_
          rintro e w6 ⟨rfl, hb6⟩
          have H3 := HIDk (H2.out.below hb6)
          have HB2 := HIDk (HB1.out.trans (hb6.mono (Nat.le_of_lt H2.out.lt)))
          clear H2 HB1 hb6
          go_wp2_with fail
          rw [meth_da (h := ?_)]
          rotate_left
          · kernel_rfl
          go_wp2_with fail
          refine (doAdd_any o w2.heap.size n M fs w6 HFT.out.1 hnm HUF.out H3.out HDD.out).mono ?_
          rintro e w7 ⟨⟨v7, rfl⟩, ⟨M7, h7⟩, hb7⟩
          have N7 := HIDk (nowG_next HN.out.eq HKO.out HG.out hn h7)
          have B7 := HIDk (HB2.out.trans hb7)
          clear h7 hb7 HB2 H3
          go_wp2
          go_roundw
          case rel => exact ⟨k + 1, _, by omega, by go_num, N7, B7⟩
          case measure => simp [intOf]; omega
        · by_cases kk2 : o.k = 2
          · have hv : opV o = .iface 121 (.agg #[.string o.n, .string o.t]) := by rw [opV, if_neg kk1, if_pos kk2]
            rw [hv]
            clear hv
            go_wp2_with fail
            rw [meth_fn (h := ?_)]
            rotate_left
            · kernel_rfl
            go_wp2_with fail
            refine (findsRen_any o w2.heap.size n M fs w5 HFT.out.1 H2.out).mono ?_
            rintro e w6 ⟨rfl, hb6⟩
            have H3 := HIDk (H2.out.below hb6)
            have HB2 := HIDk (HB1.out.trans (hb6.mono (Nat.le_of_lt H2.out.lt)))
            clear H2 HB1 hb6
            cases hh : hasF fs o.n with
            | false =>
              have HG := HIDk (doF_none fs kk1 hh)
              have N7 := HIDk (nowG_next HN.out.eq HKO.out HG.out hn (H3.out.mono (Nat.le_succ n)))
              clear kk1 kk2 hh H3
              go_wp2
              go_roundw
              case rel => exact ⟨k + 1, _, by omega, by go_num, N7, HB2⟩
              case measure => simp [intOf]; omega
            | true =>
              have HG := HIDk (doF_ren fs kk2 hh)
              clear kk1 kk2 hh
              go_wp2_with fail
              rw [meth_dn (h := ?_)]
              rotate_left
              · kernel_rfl
              go_wp2_with fail
              refine (doRen_any o w2.heap.size n M fs w6 HFT.out.1 HFT.out.2.1 hnm HUF.out H3.out).mono ?_
              rintro e w7 ⟨⟨v7, rfl⟩, ⟨M7, h7⟩, hb7⟩
              have N7 := HIDk (nowG_next HN.out.eq HKO.out HG.out hn h7)
              have B7 := HIDk (HB2.out.trans hb7)
              clear h7 hb7 HB2 H3
              go_wp2
              go_roundw
              case rel => exact ⟨k + 1, _, by omega, by go_num, N7, B7⟩
              case measure => simp [intOf]; omega
          · have hv : opV o = .iface 123 (.agg #[.string o.n]) := by rw [opV, if_neg kk1, if_neg kk2]
            rw [hv]
            clear hv
            go_wp2_with fail
            rw [meth_fm (h := ?_)]
            rotate_left
            · kernel_rfl
            go_wp2_with fail
            refine (findsRem_any o w2.heap.size n M fs w5 HFT.out.1 H2.out).mono ?_
            rintro e w6 ⟨rfl, hb6⟩
            have H3 := HIDk (H2.out.below hb6)
            have HB2 := HIDk (HB1.out.trans (hb6.mono (Nat.le_of_lt H2.out.lt)))
            clear H2 HB1 hb6
            cases hh : hasF fs o.n with
            | false =>
              have HG := HIDk (doF_none fs kk1 hh)
              have N7 := HIDk (nowG_next HN.out.eq HKO.out HG.out hn (H3.out.mono (Nat.le_succ n)))
              clear kk1 kk2 hh H3
              go_wp2
              go_roundw
              case rel => exact ⟨k + 1, _, by omega, by go_num, N7, HB2⟩
              case measure => simp [intOf]; omega
            | true =>
              have HG := HIDk (doF_rem fs kk1 kk2 hh)
              clear kk1 kk2 hh
              go_wp2_with fail
              rw [meth_dm (h := ?_)]
              rotate_left
              · kernel_rfl
              go_wp2_with fail
              refine (doRem_any o w2.heap.size n M fs w6 HFT.out.1 H3.out).mono ?_
              rintro e w7 ⟨⟨v7, rfl⟩, ⟨M7, h7⟩, hb7⟩
              have N7 := HIDk (nowG_next HN.out.eq HKO.out HG.out hn (h7.mono (Nat.le_succ n)))
              have B7 := HIDk (HB2.out.trans hb7)
              clear h7 hb7 HB2 H3
              go_wp2
              go_roundw
              case rel => exact ⟨k + 1, _, by omega, by go_num, N7, B7⟩
              case measure => simp [intOf]; omega
      · have b1 : ((k : Int) == (ks.length : Int) - 1) = false := by simp; omega
        have b2 : decide ((k : Int) = (ks.length : Int) - 1) = false := by simp; omega
        obtain ⟨X, hX⟩ : ∃ X, X = wr.alloc (.cells #[.int .i64 os[m].k, .string os[m].n, .string os[m].t, .string os[m].d] 37) := ⟨_, rfl⟩
        have HBX : Hid (Below wr.heap.size wr X) := by rw [hX]; exact (Below.refl _ _).alloc (Nat.le_refl _) _
        obtain ⟨o, hoo⟩ : ∃ o : Dop, o = os[m] := ⟨_, rfl⟩
        have HKO : Hid (o = keptO os ks tn k) := by show _ = _; rw [hoo]; exact (keptO_same HM.out hmo (.inl hlast)).symm
        have HOF : Hid (formB o = true ∧ o.small) := by have := HKR.out; rw [← HKO.out] at this; exact this
        have HOP : Hid (Calls Try.prog 53 #[.agg #[.int .i64 os[m].k, .string os[m].n, .string os[m].t, .string os[m].d]] X (OpPost o X)) := by
          have := opOf_any o X (small_fits HOF.out.2)
          rw [hoo] at this ⊢
          exact this
        clear hlast hoo
        go_wp2_with fail
        rw [← hX]
        clear hX o0 o1 o2 o3 t0 z0 z1 z2 q0 q1 q2 qf
        refine HOP.out.mono ?_
        rintro e w5 ⟨⟨v, rfl, hv⟩, hb5⟩
        obtain rfl := hv HOF.out.1
        rw [HOF.out.1]
        have hbT := HBX.out.trans (hb5.mono HBX.out.size)
        have H2 := HIDk (HFd.out.below hbT)
        have HB1 := HIDk (HBW.out.trans (hbT.mono HBW.out.size))
        have HFT := HIDk (small_fits HOF.out.2)
        have HDD : Hid ((dataF fs o.n).size + o.d.size ≤ 140737488355328) := by
          have h1 := dataF_le (B := 200000 + k * 2097152) (fun f hf => HR.out.2.2.1 f (by rw [← HN.out.eq]; exact hf)) o.n
          have h2 := HOF.out.2.2.2
          show _ ≤ _
          omega
        have HUF : Hid (UpL fs) := by show UpL fs; rw [HN.out.eq]; exact HR.out.1
        clear hv hb5 hbT HOP HBX HFd HBW
        by_cases kk1 : o.k = 1
        · have hv : opV o = .iface 119 (.agg #[.string o.n, .string o.d]) := by rw [opV, if_pos kk1]
          have HG := HIDk (doF_add fs kk1)
          rw [hv]
          clear hv kk1
          go_wp2_with fail
          rw [meth_fa (h := ?_)]
          rotate_left
          · kernel_rfl
          go_wp2_with fail
          refine (findsAdd_any o w2.heap.size w5).mono ?_
          rintro e w6 ⟨rfl, hb6⟩
          have H3 := HIDk (H2.out.below hb6)
          have HB2 := HIDk (HB1.out.trans (hb6.mono (Nat.le_of_lt H2.out.lt)))
          clear H2 HB1 hb6
          go_wp2_with fail
          rw [meth_da (h := ?_)]
          rotate_left
          · kernel_rfl
          go_wp2_with fail
          refine (doAdd_any o w2.heap.size n M fs w6 HFT.out.1 hnm HUF.out H3.out HDD.out).mono ?_
          rintro e w7 ⟨⟨v7, rfl⟩, ⟨M7, h7⟩, hb7⟩
          have N7 := HIDk (nowG_next HN.out.eq HKO.out HG.out hn h7)
          have B7 := HIDk (HB2.out.trans hb7)
          clear h7 hb7 HB2 H3
          go_wp2
          go_roundw
          case rel => exact ⟨k + 1, _, by omega, by go_num, N7, B7⟩
          case measure => simp [intOf]; omega
        · by_cases kk2 : o.k = 2
          · have hv : opV o = .iface 121 (.agg #[.string o.n, .string o.t]) := by rw [opV, if_neg kk1, if_pos kk2]
            rw [hv]
            clear hv
            go_wp2_with fail
            rw [meth_fn (h := ?_)]
            rotate_left
            · kernel_rfl
            go_wp2_with fail
            refine (findsRen_any o w2.heap.size n M fs w5 HFT.out.1 H2.out).mono ?_
            rintro e w6 ⟨rfl, hb6⟩
            have H3 := HIDk (H2.out.below hb6)
            have HB2 := HIDk (HB1.out.trans (hb6.mono (Nat.le_of_lt H2.out.lt)))
            clear H2 HB1 hb6
            cases hh : hasF fs o.n with
            | false =>
              have HG := HIDk (doF_none fs kk1 hh)
              have N7 := HIDk (nowG_next HN.out.eq HKO.out HG.out hn (H3.out.mono (Nat.le_succ n)))
              clear kk1 kk2 hh H3
              go_wp2
              go_roundw
              case rel => exact ⟨k + 1, _, by omega, by go_num, N7, HB2⟩
              case measure => simp [intOf]; omega
            | true =>
              have HG := HIDk (doF_ren fs kk2 hh)
              clear kk1 kk2 hh
              go_wp2_with fail
              rw [meth_dn (h := ?_)]
              rotate_left
              · kernel_rfl
              go_wp2_with fail
              refine (doRen_any o w2.heap.size n M fs w6 HFT.out.1 HFT.out.2.1 hnm HUF.out H3.out).mono ?_
              rintro e w7 ⟨⟨v7, rfl⟩, ⟨M7, h7⟩, hb7⟩
              have N7 := HIDk (nowG_next HN.out.eq HKO.out HG.out hn h7)
              have B7 := HIDk (HB2.out.trans hb7)
              clear h7 hb7 HB2 H3
              go_wp2
              go_roundw
              case rel => exact ⟨k + 1, _, by omega, by go_num, N7, B7⟩
              case measure => simp [intOf]; omega
          · have hv : opV o = .iface 123 (.agg #[.string o.n]) := by rw [opV, if_neg kk1, if_neg kk2]
            rw [hv]
            clear hv
            go_wp2_with fail
            rw [meth_fm (h := ?_)]
            rotate_left
            · kernel_rfl
            go_wp2_with fail
            refine (findsRem_any o w2.heap.size n M fs w5 HFT.out.1 H2.out).mono ?_
            rintro e w6 ⟨rfl, hb6⟩
            have H3 := HIDk (H2.out.below hb6)
            have HB2 := HIDk (HB1.out.trans (hb6.mono (Nat.le_of_lt H2.out.lt)))
            clear H2 HB1 hb6
            cases hh : hasF fs o.n with
            | false =>
              have HG := HIDk (doF_none fs kk1 hh)
              have N7 := HIDk (nowG_next HN.out.eq HKO.out HG.out hn (H3.out.mono (Nat.le_succ n)))
              clear kk1 kk2 hh H3
              go_wp2
              go_roundw
              case rel => exact ⟨k + 1, _, by omega, by go_num, N7, HB2⟩
              case measure => simp [intOf]; omega
            | true =>
              have HG := HIDk (doF_rem fs kk1 kk2 hh)
              clear kk1 kk2 hh
              go_wp2_with fail
              rw [meth_dm (h := ?_)]
              rotate_left
              · kernel_rfl
              go_wp2_with fail
              refine (doRem_any o w2.heap.size n M fs w6 HFT.out.1 H3.out).mono ?_
              rintro e w7 ⟨⟨v7, rfl⟩, ⟨M7, h7⟩, hb7⟩
              have N7 := HIDk (nowG_next HN.out.eq HKO.out HG.out hn (h7.mono (Nat.le_succ n)))
              have B7 := HIDk (HB2.out.trans hb7)
              clear h7 hb7 HB2 H3
              go_wp2
              go_roundw
              case rel => exact ⟨k + 1, _, by omega, by go_num, N7, B7⟩
              case measure => simp [intOf]; omega
    · obtain rfl : k = ks.length := by omega
      obtain ⟨c1, c2, c3, c4⟩ := HCU.out _ hk1
      rw [← HN.out.eq] at c1 c2 c3 c4
      obtain ⟨n, M, hn, hFd⟩ := HN.out.fold
      have HFd := HIDk hFd
      have HFB := HIDk (filesB_eq c1 c2)
      have HUP := HIDk c1
      have hfl : fs.length ≤ 1048576 := by omega
      have HFZ : Hid (∀ f ∈ fs, f.n.size ≤ maxLen) := fun f hf => Nat.le_trans (nm_le (c2 f hf)) (by unfold maxLen; omega)
      have HWL := HIDk (withinLimits_any w2.heap.size n M fs wr hFd c1 HFZ.out (fun f hf => by have := c3 f hf; omega) hfl)
      have HBE := HIDk (T2.out.dk.bel.trans (HBW.out.mono T2.out.dk.bel.size))
      clear c1 c2 c3 c4 hFd
      go_wp2_with fail
      refine HWL.out.mono ?_
      rw [← HFB.out]
      rintro e w5 ⟨rfl, hb5⟩
      have hw5 := hb5.size
      have T5 := HIDk ((T2.out.later HBW.out).later hb5)
      have F5 := HIDk (HFd.out.below hb5)
      clear HWL hb5 z0 z1 z2 q0 q1 q2 qf HSZ
      obtain ⟨z0, z1, z2, q0, q1, q2, qf, hw3⟩ := T5.out.bx
      cases hfb : filesB fs with
      | false =>
        have HE : Hid (crB ls ss os ks (tn : Int) = false) := by
          show _ = _; rw [crB, Int.toNat_natCast, ← HN.out.eq, hfb]; simp
        clear hfb
        go_wp2
        refine bodyPost_ret (v := .tuple #[.agg #[.slice none 0 0, .slice none 0 0, .slice none 0 0], .bool false]) (by simp [results, Try.results20, go_sem, *]) rfl (crTo_no HE.out ?_)
        exact ((T5.out.dk.bel.setCell (p := ⟨w.heap.size + 1, 0, none⟩) (by simp) _).setCell (p := ⟨w.heap.size + 1, 1, none⟩) (by simp) _).setCell (p := ⟨w.heap.size + 1, 2, none⟩) (by simp) _
      | true =>
        have HE : Hid (crB ls ss os ks (tn : Int) = true) := by
          show _ = _; rw [crB, Int.toNat_natCast, ← HN.out.eq, hfb, HD.out, HKB.out]; simp
        have HEQ : Hid (fs = crUp ss os ks ((tn : Int)).toNat ks.length) := by show _ = _; rw [Int.toNat_natCast]; exact HN.out.eq
        clear hfb
        go_wp2_with fail
        refine (list_any w2.heap.size n M fs w5 F5.out HUP.out HFZ.out hfl).mono ?_
        rintro e w6 ⟨v6, rfl, hown6, hb6⟩
        obtain ⟨ad6, cap6, rfl, -, hs6, -⟩ := own_filesF hown6 rfl
        have HS6 := HIDk hs6
        have T6 := HIDk (T5.out.later hb6)
        clear hown6 hb6 hs6 T5 F5 z0 z1 z2 q0 q1 q2 qf hw3
        go_wp2_with fail
        refine (syncedDisk_any ad6 cap6 fs w6 HS6.out hfl).mono ?_
        rintro e w7 ⟨v7, rfl, ⟨a1, a2, a3, p1, p2, p3, rfl, hS, hcS⟩, hb7⟩
        have T7 := HIDk (T6.out.later hb7)
        have HS := HIDk (hS.mono (b' := w.heap.size + 2) T6.out.bx.sz)
        have HNl := HIDk hcS
        obtain ⟨-, -, -, q0, q1, q2, qf, hw3⟩ := T7.out.bx
        clear hS hb7 hcS T6 HS6
        go_wp2
        refine bodyPost_ret (v := .tuple #[.agg #[.slice a1 fs.length p1, .slice a2 fs.length p2, .slice a3 0 p3], .bool true]) (by simp [results, Try.results20, go_sem, *]) rfl (crTo_yes HE.out HEQ.out ((own_box (own_box (own_box HS.out (by omega) _ _) (by omega) _ _) (by omega) _ _).mono (by omega)) HNl.out ?_)
        exact ((T7.out.dk.bel.setCell (p := ⟨w.heap.size + 1, 0, none⟩) (by simp) _).setCell (p := ⟨w.heap.size + 1, 1, none⟩) (by simp) _).setCell (p := ⟨w.heap.size + 1, 2, none⟩) (by simp) _
end Go.Proofs.Ytbfimfmfdllejaa
