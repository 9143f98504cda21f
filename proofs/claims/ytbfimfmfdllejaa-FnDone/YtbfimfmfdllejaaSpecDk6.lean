/- Contract of spec.DiskOk. -/
import Derived.Test.YtbfimfmfdllejaaSpecDk5
namespace Go.Proofs.Ytbfimfmfdllejaa
open Go.ChangeShapes Go.WideShapes Go.ChangeAt Go.RowKit Go.Maps

theorem putUp_mem (fs : List Fl) (x dt : ByteArray) : ∀ k, k ≤ fs.length → ∀ f ∈ (putUp fs x dt k).1, f ∈ fs ∨ f = ⟨x, dt⟩
  | 0, _, f, hf => by simp [putUp] at hf
  | k + 1, h, f, hf => by
    rw [putUp_succ fs x dt k (by omega)] at hf
    have ih := putUp_mem fs x dt k (by omega)
    unfold putG at hf
    simp only [List.mem_append] at hf
    rcases hf with hf | hf
    · split at hf
      · rcases List.mem_append.1 hf with h1 | h1
        · exact ih f h1
        · simp at h1; exact .inr h1
      · exact ih f hf
    · split at hf
      · cases hf
      · simp at hf; exact .inl (by rw [hf]; exact List.getElem_mem _)
theorem putF_mem {fs : List Fl} {x dt : ByteArray} {f : Fl} (h : f ∈ putF fs x dt) : f ∈ fs ∨ f = ⟨x, dt⟩ := by
  unfold putF at h
  split at h
  · exact putUp_mem fs x dt _ (Nat.le_refl _) f h
  · rcases List.mem_append.1 h with h1 | h1
    · exact putUp_mem fs x dt _ (Nat.le_refl _) f h1
    · simp at h1; exact .inr h1
theorem putUp_len (fs : List Fl) (x dt : ByteArray) : ∀ k, k ≤ fs.length → (putUp fs x dt k).1.length ≤ 2 * k
  | 0, _ => by simp [putUp]
  | k + 1, h => by
    rw [putUp_succ fs x dt k (by omega)]
    have ih := putUp_len fs x dt k (by omega)
    have := putG_len x dt (putUp fs x dt k) fs[k]
    split at this <;> omega
theorem putF_len (fs : List Fl) (x dt : ByteArray) : (putF fs x dt).length ≤ 2 * fs.length + 1 := by
  have := putUp_len fs x dt _ (Nat.le_refl _)
  unfold putF
  split
  · omega
  · rw [List.length_append]; simp; omega
theorem cutF_mem {fs : List Fl} {x : ByteArray} {f : Fl} (h : f ∈ cutF' fs x) : f ∈ fs := List.mem_of_mem_take (List.mem_filter.1 h).1
theorem cutF_len (fs : List Fl) (x : ByteArray) : (cutF' fs x).length ≤ fs.length := cutUp_len fs x _
/-- how large what an op makes can be -/
theorem doF_small {fs : List Fl} {o : Dop} (ho : o.small) (hf : ∀ f ∈ fs, f.n.size ≤ maxLen ∧ f.d.size ≤ 200000) (hl : fs.length ≤ 60) : (doF fs o).1.length ≤ 1048576 ∧ ∀ f ∈ (doF fs o).1, f.n.size ≤ maxLen ∧ f.d.size ≤ 4194304 := by
  obtain ⟨o1, o2, o3⟩ := ho
  have hm : (2097152 : Nat) ≤ maxLen := by unfold maxLen; omega
  have key : ∀ f ∈ fs, f.n.size ≤ maxLen ∧ f.d.size ≤ 4194304 := fun f h => ⟨(hf f h).1, by have := (hf f h).2; omega⟩
  have kg : ∀ j, (fs.getD j noF).d.size ≤ 200000 := fun j => by
    rw [List.getD_eq_getElem?_getD]
    cases h : fs[j]? with
    | none => simp [noF, ByteArray.size]
    | some f => exact (hf f (List.mem_of_getElem? h)).2
  unfold doF
  split
  · refine ⟨Nat.le_trans (putF_len _ _ _) (by omega), fun f h => ?_⟩
    rcases putF_mem h with h | rfl
    · exact key f h
    · refine ⟨by simp only; omega, ?_⟩
      simp only
      split
      · omega
      · rename_i j _
        rw [ByteArray.size_append]; have := kg j; omega
  · split
    · exact ⟨by simp only; omega, key⟩
    · rename_i j _
      split
      · refine ⟨by have := putF_len (cutF' fs o.n) o.t (fs.getD j noF).d; have := cutF_len fs o.n; simp only; omega, fun f h => ?_⟩
        rcases putF_mem h with h | rfl
        · exact key f (cutF_mem h)
        · refine ⟨by simp only; omega, ?_⟩
          simp only
          have := kg j; omega
      · exact ⟨by have := cutF_len fs o.n; simp only; omega, fun f h => key f (cutF_mem h)⟩
theorem sum_ge : ∀ (l : List Nat) (x : Nat), x ∈ l → x ≤ l.sum
  | [], _, h => by cases h
  | a :: l, x, h => by
    rw [List.sum_cons]
    rcases List.mem_cons.1 h with rfl | h
    · omega
    · have := sum_ge l x h; omega
theorem filesB_facts {fs : List Fl} (h : filesB fs = true) : fs.length ≤ 60 ∧ ∀ f ∈ fs, f.n.size ≤ maxLen ∧ f.d.size ≤ 200000 := by
  simp only [filesB, Bool.and_eq_true, decide_eq_true_eq] at h
  obtain ⟨⟨h1, h2⟩, h3⟩ := h
  refine ⟨h1, fun f hf => ⟨?_, ?_⟩⟩
  · obtain ⟨i, hi, rfl⟩ := List.getElem_of_mem hf
    rw [upF, List.all_eq_true] at h2
    have := h2 i (by simpa using hi)
    rw [okAt, Bool.and_eq_true, nameAt_get fs i hi] at this
    have h5 := this.1
    simp only [nmB, Bool.and_eq_true, decide_eq_true_eq] at h5
    have := h5.2
    unfold maxLen; omega
  · rw [sumUp, List.take_length] at h3
    have := sum_ge (fs.map fun f => f.d.size) f.d.size (List.mem_map.2 ⟨f, hf, rfl⟩)
    omega
theorem own_files2 {w : World} {base n : Nat} {e : TypeId} {v : Value} {xs : List Fl} (h : w.ownsRow base e 2 v n (rowsF xs)) (hn : n = xs.length) : ∃ ad cap, v = .slice ad xs.length cap ∧ SlF w ad xs ∧ (ad = none → cap = 0) := by
  obtain ⟨ad, cap, rfl, h2, -⟩ := own_files h hn
  refine ⟨ad, cap, rfl, h2, fun e => ?_⟩
  subst e
  rcases h.2 with ⟨e1, -⟩ | ⟨g, cp, cur, e1, -⟩
  · injection e1
  · injection e1 with e2; cases e2

/-- what stays through the check of a disk -/
structure Dk (w : World) (adL adS adO : Option Addr) (ls ss : List Fl) (os : List Dop) (W : World) : Prop where
  bel : Below w.heap.size w W
  live : SlF W adL ls
  safe : SlF W adS ss
  ops : SlO W adO os
theorem Dk.later {w W W' : World} {adL adS adO : Option Addr} {ls ss : List Fl} {os : List Dop} (h : Dk w adL adS adO ls ss os W) (hb : Below W.heap.size W W') : Dk w adL adS adO ls ss os W' :=
  ⟨h.bel.trans (hb.mono h.bel.size), h.live.below hb, h.safe.below hb, h.ops.below hb⟩
theorem diskB_no {ls ss : List Fl} {os : List Dop} {k : Nat} (hk : k ≤ os.length) (h : runUp ss os k = none) : diskB ls ss os = false := by
  rw [diskB, runUp_none h _ hk (Nat.le_refl _)]; simp
/-- the disk itself, in a block of its own -/
structure Cl (w : World) (a b c : Value) (W : World) : Prop where
  lt : w.heap.size < W.heap.size
  c0 : W.cell? ⟨w.heap.size, 0, none⟩ = some a
  c1 : W.cell? ⟨w.heap.size, 1, none⟩ = some b
  c2 : W.cell? ⟨w.heap.size, 2, none⟩ = some c
theorem Cl.later {w W W' : World} {a b c : Value} (h : Cl w a b c W) (hb : Below W.heap.size W W') : Cl w a b c W' :=
  ⟨Nat.lt_of_lt_of_le h.lt hb.size, kept hb h.lt h.c0, kept hb h.lt h.c1, kept hb h.lt h.c2⟩
structure Now (ss : List Fl) (os : List Dop) (k : Nat) (fs : List Fl) (ad : Option Addr) (cap : Nat) (W : World) : Prop where
  run : runUp ss os k = some fs
  ok : filesB fs = true
  sl : SlF W ad fs
  nil : ad = none → cap = 0
theorem run_bad {fs ss ls : List Fl} {os : List Dop} {k : Nat} (hk : k < os.length) (h : runUp ss os k = some fs) (hb : ((doF fs os[k]).2 && formB os[k] && filesB (doF fs os[k]).1) = false) : diskB ls ss os = false := by
  refine diskB_no (k := k + 1) hk ?_
  rw [runUp_succ ss os k hk, h]
  simp only [Option.bind_some, hb]; rfl
theorem run_good {fs ss : List Fl} {os : List Dop} {k : Nat} (hk : k < os.length) (h : runUp ss os k = some fs) (hb : ((doF fs os[k]).2 && formB os[k] && filesB (doF fs os[k]).1) = true) : runUp ss os (k + 1) = some (doF fs os[k]).1 := by
  rw [runUp_succ ss os k hk, h]
  simp only [Option.bind_some, hb]; rfl
theorem small_fits {o : Dop} (h : o.small) : o.fits := by
  obtain ⟨h1, h2, h3⟩ := h
  refine ⟨?_, ?_, ?_⟩ <;> (unfold maxLen; omega)

set_option maxRecDepth 8000 in
set_option maxHeartbeats 4000000 in
theorem specDiskOk_any (adL adS adO : Option Addr) (capL capS capO : Nat) (ls ss : List Fl) (os : List Dop) (w : World) (hl : ls.length ≤ 1048576) (hs : ss.length ≤ 1048576) (ho : os.length ≤ 1048576)
    (H : Dk w adL adS adO ls ss os w) (hcS : adS = none → capS = 0) (fl : ∀ f ∈ ls, f.n.size ≤ maxLen ∧ f.d.size ≤ 4194304) (fs' : ∀ f ∈ ss, f.n.size ≤ maxLen ∧ f.d.size ≤ 4194304) (fo : ∀ o ∈ os, o.small) :
    Calls Try.prog 26 #[.agg #[.slice adL ls.length capL, .slice adS ss.length capS, .slice adO os.length capO]] w fun e w' => e = .returned (.bool (diskB ls ss os)) ∧ Below w.heap.size w w' := by
  obtain ⟨W, hW⟩ : ∃ W, W = w.alloc (.cells #[.slice adL ls.length capL, .slice adS ss.length capS, .slice adO os.length capO] 33) := ⟨_, rfl⟩
  have HB : Hid (Below w.heap.size w W) := by rw [hW]; exact (Below.refl _ _).alloc (Nat.le_refl _) _
  have C0 : Hid (Cl w (.slice adL ls.length capL) (.slice adS ss.length capS) (.slice adO os.length capO) W) := by
    show Cl _ _ _ _ _
    rw [hW]; refine ⟨?_, ?_, ?_, ?_⟩ <;> simp
  have K0 := HIDk (H.later HB.out)
  have HCS := HIDk hcS
  have HFL := HIDk fl
  have HFS := HIDk fs'
  have HFO := HIDk fo
  clear H hcS fl fs' fo
  go_enter Try.func26, Try.ntmps26
  go_wp2_with fail
  rw [← hW]
  clear hW
  refine (l8Files_any adL capL ls W hl K0.out.live HFL.out).mono ?_
  rintro e w1 ⟨rfl, hb1⟩
  have K1 := HIDk (K0.out.later hb1)
  have C1 := HIDk (C0.out.later hb1)
  have y1 := C1.out.c1
  clear hb1 K0 C0 HB
  cases hfl : filesB ls with
  | false =>
    have HF : Hid (diskB ls ss os = false) := by show _ = _; rw [diskB, hfl]; simp
    go_wp2
    go_ret
    exact ⟨retB HF.out.symm, K1.out.bel⟩
  | true =>
    go_wp2_with fail
    refine (l8Files_any adS capS ss w1 hs K1.out.safe HFS.out).mono ?_
    rintro e w2 ⟨rfl, hb2⟩
    have K2 := HIDk (K1.out.later hb2)
    have C2 := HIDk (C1.out.later hb2)
    have y1 := C2.out.c1
    have y2 := C2.out.c2
    clear hb2 K1 C1
    cases hfs : filesB ss with
    | false =>
      have HF : Hid (diskB ls ss os = false) := by show _ = _; rw [diskB, hfs]; simp
      go_wp2
      go_ret
      exact ⟨retB HF.out.symm, K2.out.bel⟩
    | true =>
      by_cases hbig : 200 < os.length
      · have HF : Hid (diskB ls ss os = false) := by
          have : decide (os.length ≤ 200) = false := by simp; omega
          show _ = _; rw [diskB, this]; simp
        have hd : decide ((200 : Int) < (os.length : Int)) = true := by simp; omega
        go_wp2
        go_ret
        exact ⟨retB HF.out.symm, K2.out.bel⟩
      · have hd : decide ((200 : Int) < (os.length : Int)) = false := by simp; omega
        go_wp2_with fail
        clear y1 y2
        go_loopw [3, 4] (fun v i wr => ∃ (k : Nat) (fs : List Fl) (ad : Option Addr) (cap : Nat), k ≤ os.length ∧ v = .slice ad fs.length cap ∧ i = .int .i64 (k : Int) ∧ Hid (Now ss os k fs ad cap wr) ∧ Hid (Dk w adL adS adO ls ss os wr) ∧ Hid (Cl w (.slice adL ls.length capL) (.slice adS ss.length capS) (.slice adO os.length capO) wr)) (fun _ i _ => os.length - (intOf i).toNat)
        case atStart => exact ⟨0, ss, adS, capS, Nat.zero_le _, rfl, rfl, ⟨rfl, hfs, K2.out.safe, HCS.out⟩, K2, C2⟩
        case round =>
          obtain ⟨k, fs, ad, cap, hk, rfl, rfl, HN, HD, HCl⟩ := hrel
          have y2 := HCl.out.c2
          by_cases hlt : k < os.length
          · obtain ⟨b, off, rfl, hbO, hr⟩ : ∃ b off, adO = some ⟨b, off, none⟩ ∧ b < wr.heap.size ∧ AtO wr b (off + k * 4) os[k] := by
              rcases HD.out.ops with hnil | ⟨b, off, e, hbO, hr⟩
              · rw [hnil] at hlt; simp at hlt
              · exact ⟨b, off, e, hbO, hr k hlt⟩
            have HR := HIDk hr
            obtain ⟨t0, t1, t2, t3⟩ := hr
            have k0 : (0 : Int) ≤ (k : Int) := by omega
            have k1 : (k : Int) < (os.length : Int) := by omega
            have hsm := HFO.out os[k] (List.getElem_mem hlt)
            obtain ⟨f1, f2⟩ := filesB_facts HN.out.ok
            have HDS := HIDk (doF_small hsm f2 f1)
            have HSZ : Hid (∀ f ∈ fs, f.d.size + os[k].d.size ≤ maxLen) := fun f hf => by have h1 := (f2 f hf).2; have h2 := hsm.2.2; unfold maxLen; omega
            have HFT := HIDk (small_fits hsm)
            have hfl : fs.length ≤ 1048576 := by omega
            clear f2 hsm
            go_wp2_with fail
            refine (l8Do_any ad cap fs os[k] _ hfl HN.out.sl HN.out.nil HSZ.out).mono ?_
            rintro e w5 ⟨v, rfl, hown, hb5⟩
            obtain ⟨adN, capN, rfl, hsN, hcN⟩ := own_files2 hown rfl
            have D5 := HIDk (HD.out.later hb5)
            have C5 := HIDk (HCl.out.later hb5)
            have y5 := C5.out.c2
            have HSN := HIDk hsN
            have HCN := HIDk hcN
            have R5 : Hid (b < w5.heap.size ∧ AtO w5 b (off + k * 4) os[k]) := ⟨Nat.lt_of_lt_of_le hbO hb5.size, HR.out.same fun o => hb5.cell (p := ⟨b, o, none⟩) hbO⟩
            obtain ⟨-, p0, p1, p2, p3⟩ := R5.out
            clear hown hb5 hsN hcN t0 t1 t2 t3 y2 HR hbO HD HCl
            cases hok : (doF fs os[k]).2 with
            | false =>
              have HF : Hid (diskB ls ss os = false) := run_bad hlt HN.out.run (by rw [hok]; rfl)
              go_wp2
              go_ret
              exact ⟨retB HF.out.symm, D5.out.bel⟩
            | true =>
              go_wp2_with fail
              refine (l8Form_any os[k] _ HFT.out).mono ?_
              rintro e w6 ⟨rfl, hb6⟩
              have D6 := HIDk (D5.out.later hb6)
              have C6 := HIDk (C5.out.later hb6)
              have HSN6 := HIDk (HSN.out.below hb6)
              clear hb6 p0 p1 p2 p3 y5 D5 C5 HSN R5
              cases hfm : formB os[k] with
              | false =>
                have HF : Hid (diskB ls ss os = false) := run_bad hlt HN.out.run (by rw [hok, hfm]; rfl)
                go_wp2
                go_ret
                exact ⟨retB HF.out.symm, D6.out.bel⟩
              | true =>
                go_wp2_with fail
                refine (l8Files_any adN capN (doF fs os[k]).1 _ HDS.out.1 HSN6.out HDS.out.2).mono ?_
                rintro e w7 ⟨rfl, hb7⟩
                have D7 := HIDk (D6.out.later hb7)
                have C7 := HIDk (C6.out.later hb7)
                have HSN7 := HIDk (HSN6.out.below hb7)
                clear hb7 D6 C6 HSN6
                cases hfn : filesB (doF fs os[k]).1 with
                | false =>
                  have HF : Hid (diskB ls ss os = false) := run_bad hlt HN.out.run (by rw [hok, hfm, hfn]; rfl)
                  go_wp2
                  go_ret
                  exact ⟨retB HF.out.symm, D7.out.bel⟩
                | true =>
                  have HN7 : Hid (Now ss os (k + 1) (doF fs os[k]).1 adN capN w7) := ⟨run_good hlt HN.out.run (by rw [hok, hfm, hfn]; rfl), hfn, HSN7.out, HCN.out⟩
                  go_wp2
                  go_roundw
                  case rel => exact ⟨k + 1, (doF fs os[k]).1, adN, capN, by omega, rfl, by go_num, HN7, D7, C7⟩
                  case measure => simp [intOf]; omega
          · obtain rfl : k = os.length := by omega
            have HE : Hid (diskB ls ss os = sameB fs ls) := by
              have : decide (os.length ≤ 200) = true := by simp; omega
              show _ = _; rw [diskB, hfl, hfs, this, HN.out.run]; rfl
            have y0 := HCl.out.c0
            have hfl' : fs.length ≤ 1048576 := by have := (filesB_facts HN.out.ok).1; omega
            go_wp2_with fail
            refine (l8Same_any ad adL cap capL fs ls _ hfl' hl HN.out.sl HD.out.live).mono ?_
            rintro e w5 ⟨rfl, hb5⟩
            have D5 := HIDk (HD.out.later hb5)
            clear hb5
            go_wp2
            go_ret
            exact ⟨retB HE.out.symm, D5.out.bel⟩
end Go.Proofs.Ytbfimfmfdllejaa
