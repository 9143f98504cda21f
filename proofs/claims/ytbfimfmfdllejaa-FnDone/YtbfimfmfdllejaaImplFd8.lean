/- Contract of the program's DiskOk. -/
import Derived.Test.YtbfimfmfdllejaaImplFd7
namespace Go.Proofs.Ytbfimfmfdllejaa
open Go.ChangeShapes Go.WideShapes Go.ChangeAt Go.RowKit Go.Maps

theorem code_zero {fs : List Fl} {o : Dop} : codeF fs o = 0 ↔ ((doF fs o).2 && formB o && filesB (doF fs o).1) = true := by
  unfold codeF
  cases formB o <;> cases (doF fs o).2 <;> cases filesB (doF fs o).1 <;> simp
/-- the folder behind the first ops -/
structure NowI (ss : List Fl) (os : List Dop) (k b : Nat) (fs : List Fl) (W : World) : Prop where
  run : runUp ss os k = some fs
  ok : filesB fs = true
  fold : ∃ n M, n ≤ 60 + k ∧ Fold W b n M fs
theorem keepC {w w' w'' : World} {v : Value} (h : w'.cell? ⟨w.heap.size, 0, none⟩ = some v ∧ w.heap.size < w'.heap.size ∧ Below w.heap.size w w') (hB : Below w'.heap.size w' w'') : w''.cell? ⟨w.heap.size, 0, none⟩ = some v ∧ w.heap.size < w''.heap.size ∧ Below w.heap.size w w'' :=
  ⟨kept hB h.2.1 h.1, Nat.lt_of_lt_of_le h.2.1 hB.size, h.2.2.trans (hB.mono h.2.2.size)⟩

set_option maxRecDepth 8000 in
set_option maxHeartbeats 8000000 in
theorem implDiskOk_any (adL adS adO : Option Addr) (capL capS capO : Nat) (ls ss : List Fl) (os : List Dop) (w : World) (hl : ls.length ≤ 1048576) (hs : ss.length ≤ 1048576) (ho : os.length ≤ 1048576)
    (H : Dk w adL adS adO ls ss os w) (fl : ∀ f ∈ ls, f.n.size ≤ maxLen ∧ f.d.size ≤ 4194304) (fs' : ∀ f ∈ ss, f.n.size ≤ maxLen ∧ f.d.size ≤ 4194304) (fo : ∀ o ∈ os, o.small) :
    Calls Try.prog 25 #[.agg #[.slice adL ls.length capL, .slice adS ss.length capS, .slice adO os.length capO]] w fun e w' => e = .returned (.bool (diskB ls ss os)) ∧ Below w.heap.size w w' := by
  obtain ⟨W, hW⟩ : ∃ W, W = w.alloc (.cells #[.slice adL ls.length capL, .slice adS ss.length capS, .slice adO os.length capO] 33) := ⟨_, rfl⟩
  have HB : Hid (Below w.heap.size w W) := by rw [hW]; exact (Below.refl _ _).alloc (Nat.le_refl _) _
  have C0 : Hid (Cl w (.slice adL ls.length capL) (.slice adS ss.length capS) (.slice adO os.length capO) W) := by
    show Cl _ _ _ _ _
    rw [hW]; refine ⟨?_, ?_, ?_, ?_⟩ <;> simp
  have K0 := HIDk (H.later HB.out)
  have HFL := HIDk fl
  have HFS := HIDk fs'
  have HFO := HIDk fo
  clear H fl fs' fo
  go_enter Try.func25, Try.ntmps25
  go_wp2_with fail
  rw [← hW]
  clear hW
  refine (filesOk_any adL capL ls W hl K0.out.live HFL.out).mono ?_
  rintro e w1 ⟨rfl, hb1⟩
  have K1 := HIDk (K0.out.later hb1)
  have C1 := HIDk (C0.out.later hb1)
  have y1 := C1.out.c1
  clear hb1 K0 C0 HB
  cases hfl : filesB ls with
  | false =>
    have HF : Hid (diskB ls ss os = false) := by show _ = _; rw [diskB, hfl]; simp
    go_wp2
    go_ret
    exact ⟨retB HF.out.symm, K1.out.bel⟩
  | true =>
    go_wp2_with fail
    refine (filesOk_any adS capS ss w1 hs K1.out.safe HFS.out).mono ?_
    rintro e w2 ⟨rfl, hb2⟩
    have K2 := HIDk (K1.out.later hb2)
    have C2 := HIDk (C1.out.later hb2)
    have y1 := C2.out.c1
    have y2 := C2.out.c2
    clear hb2 K1 C1
    cases hfs : filesB ss with
    | false =>
      have HF : Hid (diskB ls ss os = false) := by show _ = _; rw [diskB, hfs]; simp
      go_wp2
      go_ret
      exact ⟨retB HF.out.symm, K2.out.bel⟩
    | true =>
      by_cases hbig : 200 < os.length
      · have HF : Hid (diskB ls ss os = false) := by
          have : decide (os.length ≤ 200) = false := by simp; omega
          show _ = _; rw [diskB, this]; simp
        have hd : decide ((200 : Int) < (os.length : Int)) = true := by simp; omega
        go_wp2
        go_ret
        exact ⟨retB HF.out.symm, K2.out.bel⟩
      · have hd : decide ((200 : Int) < (os.length : Int)) = false := by simp; omega
        obtain ⟨hu, hN⟩ := filesB_up hfs
        obtain ⟨g1, g2⟩ := filesB_facts hfs
        have HUS := HIDk hu
        have HSF : Hid (∀ f ∈ ss, f.n.size ≤ maxLen ∧ f.d.size ≤ maxLen) := fun f hf => ⟨(g2 f hf).1, by have := (g2 f hf).2; unfold maxLen; omega⟩
        clear hu hN g2
        go_wp2_with fail
        refine (folderOf_any adS capS ss w2 hs K2.out.safe HSF.out HUS.out).mono ?_
        rintro e w3 ⟨rfl, ⟨M3, hF3⟩, hb3⟩
        have y2 := kept hb3 C2.out.lt C2.out.c2
        have N3 : Hid (NowI ss os 0 w2.heap.size ss w3) := ⟨rfl, hfs, _, M3, by omega, hF3⟩
        have B3 := HIDk hb3
        clear hb3 hF3 y1
        go_wp2_with fail
        clear y2
        go_loopw [28] (fun i wr => ∃ (k : Nat) (fs : List Fl), k ≤ os.length ∧ i = .int .i64 (k : Int) ∧ Hid (NowI ss os k w2.heap.size fs wr) ∧ Hid (Below w2.heap.size w2 wr)) (fun i _ => os.length - (intOf i).toNat)
        case atStart => exact ⟨0, ss, Nat.zero_le _, rfl, N3, B3⟩
        case round =>
          clear N3 B3
          obtain ⟨k, fs, hk, rfl, HN, HBW⟩ := hrel
          by_cases hlt : k < os.length
          · obtain ⟨b, off, rfl, hbO, hr⟩ : ∃ b off, adO = some ⟨b, off, none⟩ ∧ b < wr.heap.size ∧ AtO wr b (off + k * 4) os[k] := by
              rcases (K2.out.later HBW.out).ops with hnil | ⟨b, off, e, hbO, hr⟩
              · rw [hnil] at hlt; simp at hlt
              · exact ⟨b, off, e, hbO, hr k hlt⟩
            obtain ⟨t0, t1, t2, t3⟩ := hr
            have k0 : (0 : Int) ≤ (k : Int) := by omega
            have k1 : (k : Int) < (os.length : Int) := by omega
            have HSM := HIDk (HFO.out os[k] (List.getElem_mem hlt))
            obtain ⟨n, M, hn, hFd⟩ := HN.out.fold
            obtain ⟨f1, f2⟩ := filesB_facts HN.out.ok
            obtain ⟨u1, u2⟩ := filesB_up HN.out.ok
            obtain ⟨X, hX⟩ : ∃ X, X = wr.alloc (.cells #[.int .i64 os[k].k, .string os[k].n, .string os[k].t, .string os[k].d] 37) := ⟨_, rfl⟩
            have hbX : Below wr.heap.size wr X := by rw [hX]; exact (Below.refl _ _).alloc (Nat.le_refl _) _
            have HD := HIDk (folderDo_any os[k] w2.heap.size n M fs X HSM.out (by unfold maxLen; omega) u1 u2 f1 (fun f hf => (f2 f hf).2) (hFd.below hbX))
            have HBX := HIDk (HBW.out.trans (hbX.mono HBW.out.size))
            clear hFd f2 u1 u2 hbX
            go_wp2_with fail
            rw [← hX]
            clear hX t0 t1 t2 t3
            refine HD.out.mono ?_
            rintro e w5 ⟨rfl, hb5, hfin⟩
            have B5 := HIDk (HBX.out.trans hb5)
            by_cases hc : codeF fs os[k] = 0
            · obtain ⟨M5, hF5⟩ := hfin hc
              have hz := code_zero.1 hc
              have N5 : Hid (NowI ss os (k + 1) w2.heap.size (doF fs os[k]).1 w5) := ⟨run_good hlt HN.out.run hz, by simp only [Bool.and_eq_true] at hz; exact hz.2, _, M5, by omega, hF5⟩
              rw [hc]
              clear hz hc hF5 hfin hb5 HD HBX HN HBW
              go_wp2
              go_roundw
              case rel => exact ⟨k + 1, (doF fs os[k]).1, by omega, by go_num, N5, B5⟩
              case measure => simp [intOf]; omega
            · have HF : Hid (diskB ls ss os = false) := run_bad hlt HN.out.run (by
                cases hz : ((doF fs os[k]).2 && formB os[k] && filesB (doF fs os[k]).1) with
                | false => rfl
                | true => exact absurd (code_zero.2 hz) hc)
              have hc' := kNe hc
              have HBe := HIDk (K2.out.bel.trans (B5.out.mono K2.out.bel.size))
              clear hfin hb5 HD HBX HN HBW hc
              go_wp2
              go_ret
              exact ⟨retB HF.out.symm, HBe.out⟩
          · obtain rfl : k = os.length := by omega
            have HE : Hid (diskB ls ss os = sameB fs ls) := by
              have : decide (os.length ≤ 200) = true := by simp; omega
              show _ = _; rw [diskB, hfl, hfs, this, HN.out.run]; rfl
            have hdr : Below wr.heap.size wr wr.drew := (Below.refl _ _).drew
            have H0 : wr.drew.cell? ⟨w.heap.size, 0, none⟩ = some (.slice adL ls.length capL) ∧ w.heap.size < wr.drew.heap.size ∧ Below w.heap.size w wr.drew :=
              keepC ⟨kept HBW.out C2.out.lt C2.out.c0, Nat.lt_of_lt_of_le C2.out.lt HBW.out.size, K2.out.bel.trans (HBW.out.mono K2.out.bel.size)⟩ hdr
            have HLV : Hid (SlF wr.drew adL ls) := (K2.out.live.below HBW.out).below hdr
            obtain ⟨n, M, hn, hFd⟩ := HN.out.fold
            obtain ⟨f1, f2⟩ := filesB_facts HN.out.ok
            obtain ⟨u1, u2⟩ := filesB_up HN.out.ok
            have HLs := HIDk (list_any w2.heap.size n M fs wr.drew (hFd.below hdr) u1 (fun f hf => (f2 f hf).1) (by omega))
            have hfl' : fs.length ≤ 1048576 := by omega
            clear hFd f2 u1 u2 hdr
            go_wp2_with fail
            go_region_held3 (fun w' => w'.cell? ⟨w.heap.size, 0, none⟩ = some (.slice adL ls.length capL) ∧ w.heap.size < w'.heap.size ∧ Below w.heap.size w w')
              (first | assumption | exact keepC (by assumption) hb5 | exact keepC (by assumption) hb6 | exact H0)
              (first | (go_at_call 42; refine HLs.out.mono ?_; rintro e w5 ⟨v5, rfl, hown5, hb5⟩; obtain ⟨ad5, cap5, rfl, hs5, -⟩ := own_files hown5 rfl) | (go_at_call 59; refine (equal_any ad5 adL cap5 capL fs ls _ hfl' hl hs5 (HLV.out.below hb5)).mono ?_; rintro e w6 ⟨rfl, hb6⟩))
            rename_i hH
            go_wp2
            go_ret
            exact ⟨retB HE.out.symm, hH.2.2⟩
end Go.Proofs.Ytbfimfmfdllejaa
