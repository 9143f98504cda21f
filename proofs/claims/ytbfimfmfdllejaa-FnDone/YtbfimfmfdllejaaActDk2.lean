/- Contract of the program's Do. -/
import Derived.Test.YtbfimfmfdllejaaActDk
namespace Go.Proofs.Ytbfimfmfdllejaa
open Go.ChangeShapes Go.WideShapes Go.ChangeAt Go.RowKit Go.Maps

theorem act_code {ls : List Fl} {os : List Dop} {o : Dop} (h : codeF ls o ≠ 0) : actC ls os o = codeF ls o := by
  cases hf : formB o with
  | false => simp [actC, codeF, hf]
  | true =>
    cases hd : (doF ls o).2 with
    | false => simp [actC, codeF, hf, hd]
    | true =>
      cases hg : filesB (doF ls o).1 with
      | false => simp [actC, codeF, hf, hd, hg]
      | true => exact absurd (by simp [codeF, hf, hd, hg]) h
theorem act_full {ls : List Fl} {os : List Dop} {o : Dop} (h : codeF ls o = 0) (h2 : os.length = 200) : actC ls os o = 4 := by
  have hz := code_zero.1 h
  simp only [Bool.and_eq_true] at hz
  simp [actC, hz.1.1, hz.1.2, h2]
theorem act_zero {ls : List Fl} {os : List Dop} {o : Dop} (h : codeF ls o = 0) (h2 : os.length ≠ 200) : actC ls os o = 0 := by
  have hz := code_zero.1 h
  simp only [Bool.and_eq_true] at hz
  simp [actC, hz.1.1, hz.1.2, hz.2, h2]
theorem own_set2 {w : World} {base n size : Nat} {e : TypeId} {v : Value} {xs : List Value} (h : w.ownsRow base e size v n xs) {g : Nat} (hg : ∀ k, v.ownBlock = some k → k ≠ g) (o : Nat) (u : Value) : (w.setCell ⟨g, o, none⟩ u).ownsRow base e size v n xs := by
  have hb := (Below.refl 0 w).setCell (p := ⟨g, o, none⟩) (Nat.zero_le _) u
  refine h.kept (row := some g) ⟨hb.os, hb.tape, hb.output, hb.size, fun k _ hk => Below.heap_setCell _ _ _ _ (fun e2 => hk (by rw [e2]))⟩ ?_
  cases e3 : v.ownBlock with
  | none => exact .inl rfl
  | some k => right; intro e4; injection e4 with e4; exact hg k e3 e4

set_option maxRecDepth 8000 in
set_option maxHeartbeats 900000 in
theorem implDo_any (adL adS adO : Option Addr) (capL capS capO : Nat) (ls ss : List Fl) (os : List Dop) (o : Dop) (w : World) (hl : ls.length ≤ 1048576) (hs : ss.length ≤ 1048576) (ho : os.length ≤ 1048576)
    (H : Dk w adL adS adO ls ss os w) (fl : ∀ f ∈ ls, f.n.size ≤ maxLen ∧ f.d.size ≤ 4194304) (fs' : ∀ f ∈ ss, f.n.size ≤ maxLen ∧ f.d.size ≤ 4194304) (fo : ∀ o ∈ os, o.small) (fop : o.small) :
    Calls Try.prog 14 #[.agg #[.slice adL ls.length capL, .slice adS ss.length capS, .slice adO os.length capO], .agg #[.int .i64 o.k, .string o.n, .string o.t, .string o.d]] w (ActTo w (dL ls ss os o) (dS ls ss os) (dO ls ss os o) (dC ls ss os o)) := by
  obtain ⟨W, hW⟩ : ∃ W, W = ((w.alloc (.cells #[.slice adL ls.length capL, .slice adS ss.length capS, .slice adO os.length capO] 33)).alloc (.cells #[.int .i64 o.k, .string o.n, .string o.t, .string o.d] 37)).alloc (.cells #[.slice none 0 0, .slice none 0 0, .slice none 0 0] 33) := ⟨_, rfl⟩
  have X0 : Hid (Box3 w (.slice adL ls.length capL) (.slice adS ss.length capS) (.slice adO os.length capO) (.int .i64 o.k) (.string o.n) (.string o.t) (.string o.d) W) := by rw [hW]; exact box3_new _ _ _ _ _ _ _ _ _ _ _
  have hb0 : Below w.heap.size w W := by rw [hW]; exact (((Below.refl _ _).alloc (Nat.le_refl _) _).alloc (by simp) _).alloc (by simp; omega) _
  have K0 := HIDk (H.later hb0)
  have HFL := HIDk fl
  have HFS := HIDk fs'
  have HFO := HIDk fo
  have HOP := HIDk fop
  clear H hb0 fl fs' fo fop
  go_enter Try.func14, Try.ntmps14
  go_wp2_with fail
  rw [← hW]
  clear hW
  refine (implDiskOk_any adL adS adO capL capS capO ls ss os W hl hs ho (dk_self K0.out) HFL.out HFS.out HFO.out).mono ?_
  rintro e w1 ⟨rfl, hb1⟩
  have K1 := HIDk (K0.out.later hb1)
  have X1 := HIDk (X0.out.later hb1)
  clear hb1 K0 X0
  obtain ⟨z0, z1, z2, o0, o1, o2, o3, q0, q1, q2, qf, hsz⟩ := X1.out
  cases hd : diskB ls ss os with
  | false =>
    have HE : Hid (dL ls ss os o = [] ∧ dS ls ss os = [] ∧ dO ls ss os o = [] ∧ dC ls ss os o = 1) := ⟨by rw [dL, hd]; rfl, by rw [dS, hd]; rfl, by rw [dO, hd]; rfl, by rw [dC, hd]; rfl⟩
    clear hd
    go_wp2
    refine bodyPost_ret (v := .tuple #[.agg #[.slice none 0 0, .slice none 0 0, .slice none 0 0], .int .i64 1]) (by simp [results, Try.results14, go_sem, *]) rfl (actTo_eq HE.out.1 HE.out.2.1 HE.out.2.2.1 HE.out.2.2.2 (actTo_nil ?_))
    exact ((K1.out.bel.setCell (p := ⟨w.heap.size + 1 + 1, 0, none⟩) (by simp; omega) _).setCell (p := ⟨w.heap.size + 1 + 1, 1, none⟩) (by simp; omega) _).setCell (p := ⟨w.heap.size + 1 + 1, 2, none⟩) (by simp; omega) _
  | true =>
    have HE : Hid (dL ls ss os o = actL ls os o ∧ dS ls ss os = ss ∧ dO ls ss os o = actO ls os o ∧ dC ls ss os o = actC ls os o) := ⟨by rw [dL, hd]; rfl, by rw [dS, hd]; rfl, by rw [dO, hd]; rfl, by rw [dC, hd]; rfl⟩
    obtain ⟨hfl, -, h200⟩ := diskB_facts hd
    obtain ⟨l60, hlf⟩ := filesB_facts hfl
    obtain ⟨hu, hN⟩ := filesB_up hfl
    have HLF := HIDk hlf
    have HU := HIDk hu
    have HN := HIDk hN
    clear hd hfl hlf hu hN q0 q1 q2 qf
    go_wp2_with fail
    refine (copyDisk_any adL adS adO capL capS capO ls ss os w1 hl hs ho (dk_self K1.out)).mono ?_
    rintro e w2 ⟨v2, rfl, ⟨a1, a2, a3, p1, p2, p3, rfl, hS, hcS, hOw, hOz⟩, hb2⟩
    obtain ⟨X3, hX3⟩ : ∃ X3, X3 = w2.alloc (.cells #[.slice a1 ls.length p1, .slice a2 ss.length p2, .slice a3 os.length p3] 33) := ⟨_, rfl⟩
    have hb3 : Below w2.heap.size w2 X3 := by rw [hX3]; exact (Below.refl _ _).alloc (Nat.le_refl _) _
    have S3 : Hid (X3.heap.size = w2.heap.size + 1) := by rw [hX3]; show _ = _; simp
    have s2 := hb2.size
    have C3 : Hid (Cl w2 (.slice a1 ls.length p1) (.slice a2 ss.length p2) (.slice a3 os.length p3) X3) := by rw [hX3]; exact cl_new _ _ _ _ _
    have F3 : Hid (Free X3 w2.heap.size) := by rw [hX3]; exact fun i => fz0 _ _ _ i
    have B3 := HIDk ((X1.out.later hb2).later hb3)
    have K3 := HIDk ((K1.out.later hb2).later hb3)
    have HS := HIDk (hS.below hb3)
    have HCS := HIDk hcS
    have HOw := HIDk (own_later hOw hb3)
    have HOz := HIDk hOz
    have HSlt : Hid ((ss ≠ [] → ∀ g, a2 = some ⟨g, 0, none⟩ → g < w2.heap.size) ∧ (os ≠ [] → ∀ g, a3 = some ⟨g, 0, none⟩ → g < w2.heap.size)) := ⟨fun hn g e => by obtain ⟨g', e', -, h, -⟩ := hS.fs hn; rw [e] at e'; injection e' with e'; injection e' with e'; omega, fun hn g e => by obtain ⟨g', e', -, h, -⟩ := hS.fo hn; rw [e] at e'; injection e' with e'; injection e' with e'; omega⟩
    have HLO : Hid (∀ k, Value.ownBlock (.slice a3 os.length p3) = some k → k < w2.heap.size) := fun k hk => (hOw.lt k hk).2
    clear hS hcS hOw hOz hb2 hb3 K1 X1 z0 z1 z2 o0 o1 o2 o3
    obtain ⟨z0, -, -, -, -, -, -, -, -, -, -, -⟩ := B3.out
    rw [hX3] at z0
    go_wp2_with fail
    rw [← hX3]
    clear hX3 z0
    refine (folderOf_any adL capL ls X3 hl K3.out.live (fun f hf => by have h := HLF.out f hf; exact ⟨h.1, by unfold maxLen; omega⟩) HU.out).mono ?_
    rintro e w4 ⟨rfl, ⟨M4, hF4⟩, hb4⟩
    have hD := folderDo_any o X3.heap.size ls.length M4 ls w4 HOP.out (by unfold maxLen; omega) HU.out HN.out l60 (fun f hf => (HLF.out f hf).2) hF4
    have HD := HIDk hD
    have HB4 := HIDk hb4
    obtain ⟨-, -, z2, o0, o1, o2, o3, -, -, -, -, -⟩ := B3.out.later hb4
    clear hF4 hb4 hD
    go_wp2_with fail
    refine HD.out.mono ?_
    rintro e w5 ⟨rfl, hb5, hfin⟩
    have B5 : Hid (Below X3.heap.size X3 w5) := HB4.out.trans hb5
    have HFI := HIDk hfin
    have s5 : X3.heap.size ≤ w5.heap.size := B5.out.size
    clear hb5 hfin HB4 HD z2 o0 o1 o2 o3
    obtain ⟨-, -, z2, o0, o1, o2, o3, q0, q1, q2, qf, -⟩ := B3.out.later B5.out
    obtain ⟨-, m0, m1, m2⟩ := C3.out.later B5.out
    have mf : ∀ i, w5.frozen? ⟨w2.heap.size, i, none⟩ = false := fun i => keptF B5.out C3.out.lt (F3.out i)
    have hne : w2.heap.size ≠ w.heap.size + 1 + 1 := by omega
    by_cases hc : codeF ls o = 0
    · have HZ := HIDk hc
      rw [hc]
      by_cases hf200 : os.length = 200
      · have HC := HIDk (act_full hc hf200)
        have HF := HIDk (act_no HC.out (by decide))
        have d200 : decide ((200 : Int) ≤ (os.length : Int)) = true := by simp; omega
        have HSe := HIDk ((HS.out.below B5.out).mono (b' := w.heap.size + 3) hsz)
        have HBe := HIDk (K3.out.bel.trans (B5.out.mono K3.out.bel.size))
        clear hc hf200 HFI h200
        go_wp2
        refine bodyPost_ret (v := .tuple #[.agg #[.slice a1 ls.length p1, .slice a2 ss.length p2, .slice a3 os.length p3], .int .i64 4]) (by simp [results, Try.results14, go_sem, *]) rfl (actTo_eq (HE.out.1.trans HF.out.1) HE.out.2.1 (HE.out.2.2.1.trans HF.out.2) (HE.out.2.2.2.trans HC.out) (actTo_mk ((own_box (own_box (own_box HSe.out (show w.heap.size + 1 + 1 < w.heap.size + 3 by omega) _ _) (show w.heap.size + 1 + 1 < w.heap.size + 3 by omega) _ _) (show w.heap.size + 1 + 1 < w.heap.size + 3 by omega) _ _).mono (show w.heap.size ≤ w.heap.size + 3 by omega)) HCS.out ?_))
        exact ((HBe.out.setCell (p := ⟨w.heap.size + 1 + 1, 0, none⟩) (by simp; omega) _).setCell (p := ⟨w.heap.size + 1 + 1, 1, none⟩) (by simp; omega) _).setCell (p := ⟨w.heap.size + 1 + 1, 2, none⟩) (by simp; omega) _
      · have HC := HIDk (act_zero hc hf200)
        have d200 : decide ((200 : Int) ≤ (os.length : Int)) = false := by simp; omega
        obtain ⟨M5, hF5⟩ := HFI.out HZ.out
        have hz := code_zero.1 HZ.out
        simp only [Bool.and_eq_true] at hz
        obtain ⟨r1, r2⟩ := doF_right HU.out HN.out hz.1.2
        obtain ⟨r3, r4⟩ := doF_small HOP.out HLF.out l60
        have HL5 := HIDk (list_any X3.heap.size (ls.length + 1) M5 (doF ls o).1 w5 hF5 r1 (fun f hf => (r4 f hf).1) r3)
        have HLO5 : os.length ≤ 1048576 := ho
        clear hc hf200 HFI h200 hF5 hz r1 r2 r3 r4
        go_wp2_with fail
        refine HL5.out.mono ?_
        rintro e w6 ⟨v6, rfl, hown6, hb6⟩
        obtain ⟨adN, capN, rfl, hcN, hsN, hfN⟩ := own_filesF hown6 rfl
        have HCN : Hid (Nils adN a2 capN p2) := ⟨HCS.out.1, hcN⟩
        have s3 := S3.out
        have B6 : Below X3.heap.size X3 w6 := B5.out.trans (hb6.mono s5)
        have s6 := hb6.size
        obtain ⟨-, -, -, y0, y1, y2, y3, t0, t1, t2, tf, -⟩ := B3.out.later B6
        obtain ⟨-, l0, l1, l2⟩ := C3.out.later B6
        have lf : ∀ i, w6.frozen? ⟨w2.heap.size, i, none⟩ = false := fun i => keptF B6 C3.out.lt (F3.out i)
        obtain ⟨A7, hA7⟩ : ∃ A7, A7 = w6.setCell ⟨w2.heap.size, 0, none⟩ (.slice adN (doF ls o).1.length capN) := ⟨_, rfl⟩
        have hC7 : Chg (fun y => y = w2.heap.size) w6 A7 := by rw [hA7]; exact Chg.set _ rfl
        have hs7 : A7.heap.size = w6.heap.size := by rw [hA7]; simp
        obtain ⟨X8, hX8⟩ : ∃ X8, X8 = A7.alloc (.cells #[.int .i64 o.k, .string o.n, .string o.t, .string o.d] 37) := ⟨_, rfl⟩
        have hb8 : Below A7.heap.size A7 X8 := by rw [hX8]; exact (Below.refl _ _).alloc (Nat.le_refl _) _
        have hs8 : X8.heap.size = w6.heap.size + 1 := by rw [hX8, World.size_alloc, hs7]
        have c7 : ∀ g i, g < w6.heap.size → g ≠ w2.heap.size → X8.cell? ⟨g, i, none⟩ = w6.cell? ⟨g, i, none⟩ := fun g i hg hn => (hb8.cell (p := ⟨g, i, none⟩) (show g < A7.heap.size by omega)).trans (hC7.cell hg hn)
        have k0 : X8.cell? ⟨w2.heap.size, 0, none⟩ = some (.slice adN (doF ls o).1.length capN) := kept hb8 (by omega) (by rw [hA7]; exact setS' l0)
        have k1 : X8.cell? ⟨w2.heap.size, 1, none⟩ = some (.slice a2 ss.length p2) := kept hb8 (by omega) (by rw [hA7, setO' (by omega)]; exact l1)
        have k2 : X8.cell? ⟨w2.heap.size, 2, none⟩ = some (.slice a3 os.length p3) := kept hb8 (by omega) (by rw [hA7, setO' (by omega)]; exact l2)
        have kf : ∀ i, X8.frozen? ⟨w2.heap.size, i, none⟩ = false := fun i => keptF hb8 (by omega) (hC7.free w2.heap.size (by omega) lf i)
        have hcell : ∀ j u, o.row[j]? = some u → X8.cell? ((⟨w6.heap.size, 0, none⟩ : Addr).add j) = some u := fun j u hu => by
          have := rowO_news A7 o j u hu
          rw [hs7] at this; rw [hX8]; exact this
        have hS6 := HS.out.below B6
        have hown8 : X8.ownsRow w1.heap.size 37 4 (.slice a3 os.length p3) os.length (rowsO os) := own_later (by rw [hA7]; exact own_set2 (own_later HOw.out B6) (fun k hk => by have := HLO.out k hk; omega) _ _) hb8
        obtain ⟨ad', cap', w9, hr9, hO9, halt⟩ := appOp X8 w1.heap.size a3 p3 os o w6.heap.size 31 hown8 (by omega) HOz.out hcell ho
        have hrow : ∀ {xs : List Fl} {ad : Option Addr} {b : Nat}, SlF w6 ad xs → FrF w6 b ad (xs ≠ []) → (xs ≠ [] → ∀ g, ad = some ⟨g, 0, none⟩ → g ≠ w2.heap.size) → SlF X8 ad xs ∧ FrF X8 b ad (xs ≠ []) := fun h1 h2 h3 => ⟨(h1.chg hC7 (fun g o' hn e hg => by obtain rfl := h2.at0 hn e; exact h3 hn g e hg)).below hb8, (h2.chg hC7).below hb8⟩
        obtain ⟨sL8, fL8⟩ := hrow hsN hfN (fun hn g e hg => by obtain ⟨g', e', h1, -⟩ := hfN hn; rw [e] at e'; injection e' with e'; injection e' with e'; omega)
        obtain ⟨sS8, fS8⟩ := hrow hS6.safe hS6.fs (fun hn g e hg => by obtain ⟨g', e', -⟩ := HS.out.fs hn; have h2 := HSlt.out.1 hn g e; omega)
        have fO8 : FrF X8 w1.heap.size a3 (os ≠ []) := (hS6.fo.chg hC7).below hb8
        have hOD := own_app (base := w.heap.size + 3) (o := o) sL8 (fL8.mono (by omega)) sS8 (fS8.mono hsz) fO8
          (fun hn h2 => by obtain ⟨g, e, hg, -⟩ := hfN hn; obtain ⟨g', e', -⟩ := HS.out.fs h2; have h3 := HSlt.out.1 h2 g' e'; rw [e, e']; exact someNe (by omega))
          (fun hn h2 => by obtain ⟨g, e, hg, -⟩ := hfN hn; obtain ⟨g', e', -⟩ := HS.out.fo h2; have h3 := HSlt.out.2 h2 g' e'; rw [e, e']; exact someNe (by omega)) HS.out.nSO hsz hO9 halt
        have hIn : ∀ g, InD adN a2 ad' (doF ls o).1 ss (os ++ [o]) g → g ≠ w2.heap.size := fun g hg e => by
          subst e
          rcases hg with ⟨hn, e⟩ | ⟨hn, e⟩ | ⟨hn, e⟩
          · obtain ⟨g, e', hg, -⟩ := hfN hn; rw [e] at e'; injection e' with e'; injection e' with e'; omega
          · have := HSlt.out.1 hn _ e; omega
          · rcases halt with ⟨-, g, e', hg⟩ | ⟨ho', -, rfl | ⟨g, e', hg⟩⟩
            · rw [e] at e'; injection e' with e'; injection e' with e'; omega
            · have := HSlt.out.2 ho' _ e; omega
            · rw [e] at e'; injection e' with e'; injection e' with e'; omega
        have hob : ∀ k, Value.ownBlock (.slice a3 os.length p3) = some k → w1.heap.size ≤ k ∧ k < w2.heap.size := fun k hk => ⟨(hown8.lt k hk).1, HLO.out k hk⟩
        have hbk : ∀ g, g < X8.heap.size → (g < w1.heap.size ∨ w2.heap.size ≤ g) → w9.heap[g]? = X8.heap[g]? := fun g hg hd => app_block halt hg (fun e => by have := hob g e; omega)
        have hc9 : ∀ g i, g < X8.heap.size → (g < w1.heap.size ∨ w2.heap.size ≤ g) → w9.cell? ⟨g, i, none⟩ = X8.cell? ⟨g, i, none⟩ := fun g i hg hd => World.cell?_of_block (w := X8) (a := ⟨g, i, none⟩) (hbk g hg hd)
        have hf9 : ∀ g i, g < X8.heap.size → (g < w1.heap.size ∨ w2.heap.size ≤ g) → w9.frozen? ⟨g, i, none⟩ = X8.frozen? ⟨g, i, none⟩ := fun g i hg hd => World.frozen?_of_block (w := X8) (a := ⟨g, i, none⟩) (hbk g hg hd)
        have r0 := (hc9 (w.heap.size + 1 + 1) 0 (by omega) (.inl (by omega))).trans ((c7 _ 0 (by omega) (by omega)).trans t0)
        have r1 := (hc9 (w.heap.size + 1 + 1) 1 (by omega) (.inl (by omega))).trans ((c7 _ 1 (by omega) (by omega)).trans t1)
        have r2 := (hc9 (w.heap.size + 1 + 1) 2 (by omega) (.inl (by omega))).trans ((c7 _ 2 (by omega) (by omega)).trans t2)
        have rf : ∀ i, w9.frozen? ⟨w.heap.size + 1 + 1, i, none⟩ = false := fun i => (hf9 _ i (by omega) (.inl (by omega))).trans (keptF hb8 (by omega) (hC7.free (w.heap.size + 1 + 1) (by omega) tf i))
        replace k0 := (hc9 w2.heap.size 0 (by omega) (.inr (by omega))).trans k0
        replace k1 := (hc9 w2.heap.size 1 (by omega) (.inr (by omega))).trans k1
        replace k2 := (hc9 w2.heap.size 2 (by omega) (.inr (by omega))).trans k2
        have kf9 : ∀ i, w9.frozen? ⟨w2.heap.size, i, none⟩ = false := fun i => (hf9 _ i (by omega) (.inr (by omega))).trans (kf i)
        have hB9 : Below w.heap.size w w9 := ((K3.out.bel.trans (B6.mono K3.out.bel.size)).trans ((hC7.below (m := w.heap.size) (fun g hg => by omega) (by omega)).trans (hb8.mono (by omega)))).trans (app_below halt (by omega) (fun k hk => by have := hob k hk; omega))
        have HOD := HIDk hOD
        have HIN := HIDk hIn
        have HB9 := HIDk hB9
        have HR9 := HIDk hr9
        have HY := HIDk (act_yes HC.out)
        clear hOD hIn hB9 hr9 hO9 halt hob hbk hc9 hf9 c7 hrow hcell hown8 hS6 hb8 hC7 hb6 hown6 hsN hfN hcN sL8 fL8 sS8 fS8 fO8 tf t0 t1 t2 kf HS HOw HOz HLO HSlt K3 B3 C3 F3 HL5 B5 q0 q1 q2 qf m0 m1 m2 mf z2 o0 o1 o2 o3 d200
        rw [hA7] at hX8
        clear hA7 hs7
        go_wp2_with (at_builtin; rw [← hX8]; clear hX8; refine wpList_append_run rfl _ _ 31 31 rfl (.slice a3 os.length p3) (.slice (some ⟨w6.heap.size, 0, none⟩) 1 1) (.slice ad' (os ++ [o]).length cap') w9 rfl rfl HR9.out ?_)
        go_wp2
        refine bodyPost_ret (v := .tuple #[.agg #[.slice adN (doF ls o).1.length capN, .slice a2 ss.length p2, .slice ad' (os.length + 1) cap'], .int .i64 0]) (by simp [results, Try.results14, go_sem, *]) rfl (actTo_eq (HE.out.1.trans HY.out.1) HE.out.2.1 (HE.out.2.2.1.trans HY.out.2) (HE.out.2.2.2.trans HC.out) ?_)
        have hfin := actTo_mk (w := w) (k := 0) (p := capN) (q := p2) (r := cap') ((own_box (own_box (own_box (HOD.out.chg (S := fun y => y = w2.heap.size) (Chg.set (j := 2) (.slice ad' (os.length + 1) cap') rfl) (fun g hg e => HIN.out g hg e)) (show w.heap.size + 1 + 1 < w.heap.size + 3 by omega) 0 (.slice adN (doF ls o).1.length capN)) (show w.heap.size + 1 + 1 < w.heap.size + 3 by omega) 1 (.slice a2 ss.length p2)) (show w.heap.size + 1 + 1 < w.heap.size + 3 by omega) 2 (.slice ad' (os.length + 1) cap')).mono (show w.heap.size ≤ w.heap.size + 3 by omega)) HCN.out
          ((((HB9.out.setCell (p := ⟨w2.heap.size, 2, none⟩) (by simp; omega) _).setCell (p := ⟨w.heap.size + 1 + 1, 0, none⟩) (by simp; omega) _).setCell (p := ⟨w.heap.size + 1 + 1, 1, none⟩) (by simp; omega) _).setCell (p := ⟨w.heap.size + 1 + 1, 2, none⟩) (by simp; omega) _)
        rw [show (os ++ [o]).length = os.length + 1 by simp] at hfin
        exact hfin
    · have HC := HIDk (act_code (os := os) hc)
      have HF : Hid (actL ls os o = ls ∧ actO ls os o = os) := act_no HC.out hc
      have hcb := kNe hc
      have HSe := HIDk ((HS.out.below B5.out).mono (b' := w.heap.size + 3) hsz)
      have HBe := HIDk (K3.out.bel.trans (B5.out.mono K3.out.bel.size))
      clear hc HFI h200
      go_wp2
      refine bodyPost_ret (v := .tuple #[.agg #[.slice a1 ls.length p1, .slice a2 ss.length p2, .slice a3 os.length p3], .int .i64 (codeF ls o)]) (by simp [results, Try.results14, go_sem, *]) rfl (actTo_eq (HE.out.1.trans HF.out.1) HE.out.2.1 (HE.out.2.2.1.trans HF.out.2) (HE.out.2.2.2.trans HC.out) (actTo_mk ((own_box (own_box (own_box HSe.out (show w.heap.size + 1 + 1 < w.heap.size + 3 by omega) _ _) (show w.heap.size + 1 + 1 < w.heap.size + 3 by omega) _ _) (show w.heap.size + 1 + 1 < w.heap.size + 3 by omega) _ _).mono (show w.heap.size ≤ w.heap.size + 3 by omega)) HCS.out ?_))
      exact ((HBe.out.setCell (p := ⟨w.heap.size + 1 + 1, 0, none⟩) (by simp; omega) _).setCell (p := ⟨w.heap.size + 1 + 1, 1, none⟩) (by simp; omega) _).setCell (p := ⟨w.heap.size + 1 + 1, 2, none⟩) (by simp; omega) _
end Go.Proofs.Ytbfimfmfdllejaa
