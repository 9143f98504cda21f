/- Contract of the program's Replace. -/
import Derived.Test.YthglpandhlgnoaaRepDk2
namespace Go.Proofs.Ythglpandhlgnoaa
open Go.ChangeShapes Go.WideShapes Go.ChangeAt Go.RowKit Go.Maps

theorem slO_set {W : World} {m : Nat} {ad : Option Addr} {xs : List Dop} {b : Nat} (h : SlO W ad xs ∧ FrF W b ad (xs ≠ [])) (hm : m < b) (x y z : Value) : SlO (((W.setCell ⟨m, 0, none⟩ x).setCell ⟨m, 1, none⟩ y).setCell ⟨m, 2, none⟩ z) ad xs ∧ FrF (((W.setCell ⟨m, 0, none⟩ x).setCell ⟨m, 1, none⟩ y).setCell ⟨m, 2, none⟩ z) b ad (xs ≠ []) := by
  have hC : Chg (fun g => g = m) W (((W.setCell ⟨m, 0, none⟩ x).setCell ⟨m, 1, none⟩ y).setCell ⟨m, 2, none⟩ z) := ((Chg.set (S := fun g => g = m) x rfl).trans (Chg.set (S := fun g => g = m) y rfl)).trans (Chg.set (S := fun g => g = m) z rfl)
  refine ⟨h.1.chg hC (fun g o hn e hg => ?_), h.2.chg hC⟩
  obtain ⟨g', e', h1, -⟩ := h.2 hn
  rw [e] at e'; injection e' with e'; injection e' with e'; omega
set_option maxRecDepth 8000 in
set_option maxHeartbeats 3000000 in
theorem implReplace_any (adL adS adO : Option Addr) (capL capS capO : Nat) (ls ss : List Fl) (os : List Dop) (x d : ByteArray) (w : World) (hl : ls.length ≤ 1048576) (hs : ss.length ≤ 1048576) (ho : os.length ≤ 1048576)
    (H : Dk w adL adS adO ls ss os w) (fl : ∀ f ∈ ls, f.n.size ≤ maxLen ∧ f.d.size ≤ 4194304) (fs' : ∀ f ∈ ss, f.n.size ≤ maxLen ∧ f.d.size ≤ 4194304) (fo : ∀ o ∈ os, o.small) (hx : x.size ≤ 1048576) (hd' : d.size ≤ 1048576) :
    Calls Try.prog 30 #[.agg #[.slice adL ls.length capL, .slice adS ss.length capS, .slice adO os.length capO], .string x, .string d] w (ActTo w (rL ls ss os x d) (dS ls ss os) (rO ls ss os x d) (rC ls ss os x d)) := by
  obtain ⟨W2, hW2⟩ : ∃ W2, W2 = (w.alloc (.cells #[.slice adL ls.length capL, .slice adS ss.length capS, .slice adO os.length capO] 31)).alloc (.cells #[.slice none 0 0, .slice none 0 0, .slice none 0 0] 31) := ⟨_, rfl⟩
  obtain ⟨z0, z1, z2, q0, q1, q2, qf, hw2⟩ := box2 w (.slice adL ls.length capL) (.slice adS ss.length capS) (.slice adO os.length capO) 31 31
  rw [← hW2] at z0 z1 z2 q0 q1 q2 qf hw2
  have hb2 : Below w.heap.size w W2 := by rw [hW2]; exact ((Below.refl _ _).alloc (Nat.le_refl _) _).alloc (by simp) _
  have K0 := HIDk (H.later hb2)
  have HX : Hid (Box2 w (.slice adL ls.length capL) (.slice adS ss.length capS) (.slice adO os.length capO) W2) := ⟨z0, z1, z2, q0, q1, q2, qf, hw2⟩
  have HH := HIDk H
  have HFL := HIDk fl
  have HFS := HIDk fs'
  have HFO := HIDk fo
  have HOP := HIDk (repOps_small (ls := ls) hx hd')
  clear H hb2 z0 z1 z2 q0 q1 q2 qf hw2 fl fs' fo
  go_enter Try.func30, Try.ntmps30
  go_wp2_with fail
  rw [← hW2]
  clear hW2
  refine (implDiskOk_any adL adS adO capL capS capO ls ss os W2 hl hs ho (dk_self K0.out) HFL.out HFS.out HFO.out).mono ?_
  rintro e w1 ⟨rfl, hb1⟩
  have K1 := HIDk (K0.out.later hb1)
  have HY := HIDk (HX.out.later hb1)
  clear hb1 K0 HX
  obtain ⟨z0, z1, z2, q0, q1, q2, qf, hw2⟩ := HY.out
  cases hd : diskB ls ss os with
  | false =>
    have HE := HIDk (rep_nil (x := x) (d := d) hd)
    clear hd
    go_wp2
    refine bodyPost_ret (v := .tuple #[.agg #[.slice none 0 0, .slice none 0 0, .slice none 0 0], .int .i64 1]) (by simp [results, Try.results30, go_sem, *]) rfl (actTo_eq HE.out.1 HE.out.2.1 HE.out.2.2.1 HE.out.2.2.2 (actTo_nil (below3 K1.out.bel (by omega) _ _ _)))
  | true =>
    have HDB := HIDk hd
    clear hd q0 q1 q2 qf
    go_wp2_with fail
    refine (copyDisk_any adL adS adO capL capS capO ls ss os w1 hl hs ho (dk_self K1.out)).mono ?_
    rintro e w2 ⟨v2, rfl, ⟨a1, a2, a3, p1, p2, p3, rfl, hS, hcS, -, -⟩, hb2⟩
    obtain ⟨X3, hX3⟩ : ∃ X, X = w2.alloc (.cells #[.slice a1 ls.length p1, .slice a2 ss.length p2, .slice a3 os.length p3] 31) := ⟨_, rfl⟩
    have hb3 : Below w2.heap.size w2 X3 := by rw [hX3]; exact (Below.refl _ _).alloc (Nat.le_refl _) _
    have CX : Cl w2 (.slice a1 ls.length p1) (.slice a2 ss.length p2) (.slice a3 os.length p3) X3 := by rw [hX3]; exact cl_new _ _ _ _ _
    have S3 : Hid (X3.heap.size = w2.heap.size + 1) := by rw [hX3]; show _ = _; simp
    have s2 := hb2.size
    obtain ⟨y0, y1, y2, s0, s1, s2', sf, -⟩ := (HY.out.later hb2).later hb3
    have B3 : Hid (BoxN w w2.heap.size (.slice adL ls.length capL) (.slice adS ss.length capS) (.slice adO os.length capO) (.slice a1 ls.length p1) (.slice a2 ss.length p2) (.slice a3 os.length p3) X3) := ⟨y0, y1, y2, s0, s1, s2', sf, CX.c0, CX.c1, CX.c2, fun i => by rw [hX3]; exact fz0 _ _ _ i, by omega, CX.lt⟩
    have K3 := HIDk ((K1.out.later hb2).later hb3)
    have N3 : Hid (NowR w w2.heap.size ls ss os x d 0 ls os a1 a2 a3 p1 p2 X3) := ⟨(hS.below hb3).mono (by omega), fun g hg e => by have := (hS.inD hg).2; omega, hcS, HDB.out, HFO.out, rfl, K3.out.bel⟩
    clear hS hcS hb2 hb3 CX z0 z1 z2 y1 y2 s0 s1 s2' sf HY K1
    rw [hX3] at y0
    go_wp2_with fail
    rw [← hX3]
    clear hX3 y0
    refine (replaceOps_any adL capL ls x d X3 hl K3.out.live hx).mono ?_
    rintro e w4 ⟨vQ, rfl, hownQ, hb4⟩
    obtain ⟨adQ, capQ, rfl, hsQ, hfQ⟩ := own_ops hownQ rfl
    obtain ⟨ops, hops⟩ : ∃ ops, ops = repOps ls x d := ⟨_, rfl⟩
    have HOS := HIDk hops
    rw [← hops] at hsQ hfQ
    rw [← hops]
    have l3 : ops.length ≤ 3 := by rw [hops]; exact repOps_len ls x d
    have B4 := HIDk (B3.out.later hb4)
    have N4 : Hid (NowR w w2.heap.size ls ss os x d 0 ls os a1 a2 a3 p1 p2 w4) := ⟨N3.out.own.below hb4, N3.out.ne, N3.out.nil, N3.out.ok, N3.out.small, N3.out.run, N3.out.bel.trans (hb4.mono N3.out.bel.size)⟩
    have Q4 : Hid (SlO w4 adQ ops ∧ FrF w4 X3.heap.size adQ (ops ≠ [])) := ⟨hsQ, hfQ⟩
    clear hownQ hsQ hfQ hb4 hops B3 N3 K3
    go_wp2_with fail
    go_loopw [25] (fun i wr => ∃ (k : Nat) (L : List Fl) (O : List Dop) (n1 n2 n3 : Option Addr) (c1 c2 c3 : Nat), k ≤ ops.length ∧ i = .int .i64 (k : Int) ∧ Hid (NowR w w2.heap.size ls ss os x d k L O n1 n2 n3 c1 c2 wr) ∧ Hid (BoxN w w2.heap.size (.slice adL ls.length capL) (.slice adS ss.length capS) (.slice adO os.length capO) (.slice n1 L.length c1) (.slice n2 ss.length c2) (.slice n3 O.length c3) wr) ∧ Hid (SlO wr adQ ops ∧ FrF wr X3.heap.size adQ (ops ≠ []))) (fun i _ => ops.length - (intOf i).toNat)
    case atStart => exact ⟨0, ls, os, a1, a2, a3, p1, p2, p3, Nat.zero_le _, rfl, N4, B4, Q4⟩
    case round =>
      clear N4 B4 Q4
      obtain ⟨k, L, O, n1, n2, n3, c1, c2, c3, hk, rfl, HN, HB, HQ⟩ := hrel
      by_cases hlt : k < ops.length
      · obtain ⟨b, off, rfl, hbO, hr⟩ : ∃ b off, adQ = some ⟨b, off, none⟩ ∧ b < wr.heap.size ∧ AtO wr b (off + k * 4) ops[k] := by
          rcases HQ.out.1 with hnil | ⟨b, off, e, hbO, hr⟩
          · rw [hnil] at hlt; simp at hlt
          · exact ⟨b, off, e, hbO, hr k hlt⟩
        obtain ⟨t0, t1, t2, t3⟩ := hr
        have k0 : (0 : Int) ≤ (k : Int) := by omega
        have k1 : (k : Int) < (ops.length : Int) := by omega
        obtain ⟨u1, u2, u3, u4, u5⟩ := diskB_len HN.out.ok
        obtain ⟨X5, hX5⟩ : ∃ X, X = wr.alloc (.cells #[.int .i64 ops[k].k, .string ops[k].n, .string ops[k].t, .string ops[k].d] 45) := ⟨_, rfl⟩
        have hb5 : Below wr.heap.size wr X5 := by rw [hX5]; exact (Below.refl _ _).alloc (Nat.le_refl _) _
        have HD := HIDk (implDo_any n1 n2 n3 c1 c2 c3 L ss O ops[k] X5 (by omega) (by omega) (by omega) (own_dk (HN.out.own.below hb5)) (fun f hf => ⟨(u2 f hf).1, by have := (u2 f hf).2; omega⟩) (fun f hf => ⟨(u5 f hf).1, by have := (u5 f hf).2; omega⟩) HN.out.small (HOP.out ops[k] (by rw [← HOS.out]; exact List.getElem_mem hlt)))
        have B5 := HIDk (HB.out.later hb5)
        have Q5 : Hid (SlO X5 (some ⟨b, off, none⟩) ops ∧ FrF X5 X3.heap.size (some ⟨b, off, none⟩) (ops ≠ [])) := ⟨HQ.out.1.below hb5, HQ.out.2.below hb5⟩
        have E5 := HIDk (HN.out.bel.trans (hb5.mono HN.out.bel.size))
        have HDY := HIDk (d_yes (o := ops[k]) HN.out.ok)
        have HRUN : Hid (repR ls os x d = actRun (ops[k] :: ops.drop (k + 1)) L O) := by rw [← drop_get hlt]; have := HN.out.run; rw [← HOS.out] at this; exact this
        clear u1 u2 u3 u4 u5 hb5 hbO
        obtain ⟨-, -, -, -, -, -, -, m0, m1, m2, -, -, -⟩ := B5.out
        rw [hX5] at m0 m1 m2
        go_wp2_with fail
        rw [← hX5]
        clear hX5 m0 m1 m2 t0 t1 t2 t3
        refine HD.out.mono ?_
        rw [HDY.out.1, HDY.out.2.1, HDY.out.2.2.1, HDY.out.2.2.2]
        rintro e w6 ⟨v6, rfl, ⟨e1, e2, e3, f1, f2, f3, rfl, hS6, hc6⟩, hb6⟩
        obtain ⟨c, hcd⟩ : ∃ c, c = actC L O ops[k] := ⟨_, rfl⟩
        obtain ⟨L', hL'⟩ : ∃ y, y = actL L O ops[k] := ⟨_, rfl⟩
        obtain ⟨O', hO'⟩ : ∃ y, y = actO L O ops[k] := ⟨_, rfl⟩
        rw [← hL', ← hO'] at hS6
        rw [← hL', ← hO', ← hcd]
        obtain ⟨Y7, hY7⟩ : ∃ X, X = w6.alloc (.cells #[.slice e1 L'.length f1, .slice e2 ss.length f2, .slice e3 O'.length f3] 31) := ⟨_, rfl⟩
        have hb7 : Below w6.heap.size w6 Y7 := by rw [hY7]; exact (Below.refl _ _).alloc (Nat.le_refl _) _
        have B7 := HIDk ((B5.out.later hb6).later hb7)
        have E7 := HIDk ((E5.out.trans (hb6.mono E5.out.size)).trans (hb7.mono (Nat.le_trans E5.out.size hb6.size)))
        have S7 := HIDk (hS6.below hb7)
        have Q7 : Hid (SlO Y7 (some ⟨b, off, none⟩) ops ∧ FrF Y7 X3.heap.size (some ⟨b, off, none⟩) (ops ≠ [])) := ⟨(Q5.out.1.below hb6).below hb7, (Q5.out.2.below hb6).below hb7⟩
        have C7 : Cl w6 (.slice e1 L'.length f1) (.slice e2 ss.length f2) (.slice e3 O'.length f3) Y7 := by rw [hY7]; exact cl_new _ _ _ _ _
        have HM5 : Hid (w2.heap.size < X5.heap.size ∧ w.heap.size + 2 ≤ X5.heap.size) := ⟨B5.out.sz, by have := B5.out.n2; have := B5.out.sz; omega⟩
        have HC6 := HIDk hc6
        clear hS6 hc6 hb6 hb7 HD B5 E5 Q5 HB HQ HDY
        by_cases hc : c = 0
        · have hact : actC L O ops[k] = 0 := by rw [← hcd]; exact hc
          obtain ⟨hy1, hy2⟩ := act_yes hact
          have hL2 := hL'.trans hy1
          have hO2 := hO'.trans hy2
          obtain ⟨Z, hZ⟩ : ∃ X, X = ((Y7.setCell ⟨w2.heap.size, 0, none⟩ (.slice e1 L'.length f1)).setCell ⟨w2.heap.size, 1, none⟩ (.slice e2 ss.length f2)).setCell ⟨w2.heap.size, 2, none⟩ (.slice e3 O'.length f3) := ⟨_, rfl⟩
          have BZ : Hid (BoxN w w2.heap.size (.slice adL ls.length capL) (.slice adS ss.length capS) (.slice adO os.length capO) (.slice e1 L'.length f1) (.slice e2 ss.length f2) (.slice e3 O'.length f3) Z) := by rw [hZ]; exact B7.out.set _ _ _
          have QZ : Hid (SlO Z (some ⟨b, off, none⟩) ops ∧ FrF Z X3.heap.size (some ⟨b, off, none⟩) (ops ≠ [])) := by rw [hZ]; exact slO_set Q7.out (by have := S3.out; omega) _ _ _
          have NZ : Hid (NowR w w2.heap.size ls ss os x d (k + 1) L' O' e1 e2 e3 f1 f2 Z) := by
            refine ⟨?_, fun g hg e => ?_, HC6.out, ?_, fun o ho' => ?_, ?_, ?_⟩
            · rw [hZ]; exact (own3 S7.out HM5.out.1 _ _ _).mono HM5.out.2
            · have h1 := (S7.out.inD hg).1; have := HM5.out.1; omega
            · rw [hL2, hO2]; exact diskB_act HN.out.ok hact
            · rw [hO2] at ho'
              rcases List.mem_append.1 ho' with h | h
              · exact HN.out.small o h
              · simp at h; rw [h]; exact HOP.out ops[k] (by rw [← HOS.out]; exact List.getElem_mem hlt)
            · rw [← HOS.out, hL2, hO2]; exact HRUN.out.trans (run_go hact)
            · rw [hZ]; exact below3 E7.out (by have := B7.out.n2; omega) _ _ _
          obtain ⟨-, -, -, -, -, -, -, m0, m1, m2, mf, -, -⟩ := B7.out
          obtain ⟨-, d0, d1, d2⟩ := C7
          rw [hY7] at m0 m1 m2 mf d0 d1 d2 hZ
          subst hc
          clear hact hy1 hy2 hL2 hO2 hL' hO' hcd HN HRUN B7 E7 S7 Q7 HM5 HC6
          go_wp2
          rw [← hZ]
          go_roundw
          case rel => exact ⟨k + 1, L', O', e1, e2, e3, f1, f2, f3, by omega, by go_num, NZ, BZ, QZ⟩
          case measure => simp [intOf]; omega
        · have HE := HIDk (rep_no HDB.out (HRUN.out.trans (by rw [run_stop (by rw [← hcd]; exact hc), ← hcd])) hc)
          have hcb := kNe hc
          obtain ⟨y0, y1, y2, -, -, -, -, -, -, -, -, -, -⟩ := B7.out
          rw [hY7] at y0 y1 y2
          clear hc hcd hL' hO' HN HRUN S7 Q7 HM5 HC6 C7
          go_wp2_with fail
          rw [← hY7]
          clear hY7 y0 y1 y2
          refine (copyDisk_any adL adS adO capL capS capO ls ss os Y7 hl hs ho (dk_self (HH.out.later E7.out))).mono ?_
          rintro e wf ⟨vf, rfl, ⟨b1, b2, b3, r1, r2, r3, rfl, hSf, hcf, -, -⟩, hbf⟩
          have HSf := HIDk (hSf.mono (b' := w.heap.size + 2) (by have := B7.out.n2; have := B7.out.sz; omega))
          have HBf := HIDk (E7.out.trans (hbf.mono E7.out.size))
          obtain ⟨-, -, -, q0, q1, q2, qf, -, -, -, -, -, -⟩ := B7.out.later hbf
          clear hSf hbf
          go_wp2
          refine bodyPost_ret (v := .tuple #[.agg #[.slice b1 ls.length r1, .slice b2 ss.length r2, .slice b3 os.length r3], .int .i64 c]) (by simp [results, Try.results30, go_sem, *]) rfl (actTo_eq HE.out.1 HE.out.2.1 HE.out.2.2.1 HE.out.2.2.2 (actTo_mk ((own3 HSf.out (show w.heap.size + 1 < w.heap.size + 2 by omega) _ _ _).mono (show w.heap.size ≤ w.heap.size + 2 by omega)) hcf (below3 HBf.out (show w.heap.size ≤ w.heap.size + 1 by omega) _ _ _)))
      · obtain rfl : k = ops.length := by omega
        have HE := HIDk (rep_yes HDB.out (by have := HN.out.run; rw [← HOS.out, List.drop_length] at this; exact this))
        obtain ⟨-, -, -, q0, q1, q2, qf, m0, m1, m2, -, -, -⟩ := HB.out
        go_wp2
        refine bodyPost_ret (v := .tuple #[.agg #[.slice n1 L.length c1, .slice n2 ss.length c2, .slice n3 O.length c3], .int .i64 0]) (by simp [results, Try.results30, go_sem, *]) rfl (actTo_eq HE.out.1 HE.out.2.1 HE.out.2.2.1 HE.out.2.2.2 (actTo_mk ((own3 HN.out.own (show w.heap.size + 1 < w.heap.size + 2 by omega) _ _ _).mono (show w.heap.size ≤ w.heap.size + 2 by omega)) HN.out.nil (below3 HN.out.bel (show w.heap.size ≤ w.heap.size + 1 by omega) _ _ _)))

theorem actRun_len : ∀ (t : List Dop) {L : List Fl} {O : List Dop} {n : Nat}, L.length ≤ 60 → O.length ≤ n → (actRun t L O).1.length ≤ 60 ∧ (actRun t L O).2.1.length ≤ n + t.length
  | [], L, O, n, h1, h2 => ⟨h1, by simpa [actRun] using h2⟩
  | o :: t, L, O, n, h1, h2 => by
    by_cases h : actC L O o = 0
    · rw [run_go h]
      have := actRun_len t (L := (doF L o).1) (O := O ++ [o]) (n := n + 1) (filesB_facts (act_good h).1).1 (by rw [List.length_append]; simp; omega)
      exact ⟨this.1, by have := this.2; simp; omega⟩
    · rw [run_stop h]
      exact ⟨h1, by simp; omega⟩
theorem rL_len {ls ss : List Fl} {os : List Dop} {x d : ByteArray} (h : ls.length ≤ 1048576) : (rL ls ss os x d).length ≤ 1048576 := by
  unfold rL
  split
  · rename_i hd
    obtain ⟨h1, -, h3, -⟩ := diskB_len hd
    split
    · have := (actRun_len (repOps ls x d) (L := ls) (O := os) h1 h3).1; unfold repR; omega
    · exact h
  · simp
theorem rO_len {ls ss : List Fl} {os : List Dop} {x d : ByteArray} (h : os.length ≤ 1048576) : (rO ls ss os x d).length ≤ 1048576 := by
  unfold rO
  split
  · rename_i hd
    obtain ⟨h1, -, h3, -⟩ := diskB_len hd
    split
    · have := (actRun_len (repOps ls x d) (L := ls) (O := os) h1 h3).2; have := repOps_len ls x d; unfold repR; omega
    · exact h
  · simp
theorem dS_len {ls ss : List Fl} {os : List Dop} (h : ss.length ≤ 1048576) : (dS ls ss os).length ≤ 1048576 := by unfold dS; split <;> simp_all
end Go.Proofs.Ythglpandhlgnoaa
