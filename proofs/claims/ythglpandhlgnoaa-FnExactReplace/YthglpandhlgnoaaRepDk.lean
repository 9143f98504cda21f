/- Contract of the document's Replace. -/
import Derived.Test.YthglpandhlgnoaaPlainRep
import Derived.Test.YthglpandhlgnoaaLawDk
namespace Go.Proofs.Ythglpandhlgnoaa
open Go.ChangeShapes Go.WideShapes Go.ChangeAt Go.RowKit Go.Maps

/-- the boxes: the disk that came, the answer, the disk as it is now -/
structure BoxN (w : World) (m : Nat) (a b c x y z : Value) (W : World) : Prop where
  z0 : W.cell? ⟨w.heap.size, 0, none⟩ = some a
  z1 : W.cell? ⟨w.heap.size, 1, none⟩ = some b
  z2 : W.cell? ⟨w.heap.size, 2, none⟩ = some c
  q0 : W.cell? ⟨w.heap.size + 1, 0, none⟩ = some (.slice none 0 0)
  q1 : W.cell? ⟨w.heap.size + 1, 1, none⟩ = some (.slice none 0 0)
  q2 : W.cell? ⟨w.heap.size + 1, 2, none⟩ = some (.slice none 0 0)
  qf : ∀ i, W.frozen? ⟨w.heap.size + 1, i, none⟩ = false
  m0 : W.cell? ⟨m, 0, none⟩ = some x
  m1 : W.cell? ⟨m, 1, none⟩ = some y
  m2 : W.cell? ⟨m, 2, none⟩ = some z
  mf : ∀ i, W.frozen? ⟨m, i, none⟩ = false
  n2 : w.heap.size + 2 ≤ m
  sz : m < W.heap.size
theorem BoxN.later {w W W' : World} {m : Nat} {a b c x y z : Value} (h : BoxN w m a b c x y z W) (hB : Below W.heap.size W W') : BoxN w m a b c x y z W' := by
  obtain ⟨z0, z1, z2, q0, q1, q2, qf, m0, m1, m2, mf, n2, sz⟩ := h
  exact ⟨kept hB (by omega) z0, kept hB (by omega) z1, kept hB (by omega) z2, kept hB (by omega) q0, kept hB (by omega) q1, kept hB (by omega) q2, fun i => keptF hB (by omega) (qf i), kept hB (by omega) m0, kept hB (by omega) m1, kept hB (by omega) m2, fun i => keptF hB (by omega) (mf i), n2, Nat.lt_of_lt_of_le sz hB.size⟩
theorem BoxN.set {w W : World} {m : Nat} {a b c x y z : Value} (h : BoxN w m a b c x y z W) (x' y' z' : Value) : BoxN w m a b c x' y' z' (((W.setCell ⟨m, 0, none⟩ x').setCell ⟨m, 1, none⟩ y').setCell ⟨m, 2, none⟩ z') := by
  obtain ⟨z0, z1, z2, q0, q1, q2, qf, m0, m1, m2, mf, n2, sz⟩ := h
  have o : ∀ {g i : Nat} {v : Value}, g ≠ m → W.cell? ⟨g, i, none⟩ = some v → (((W.setCell ⟨m, 0, none⟩ x').setCell ⟨m, 1, none⟩ y').setCell ⟨m, 2, none⟩ z').cell? ⟨g, i, none⟩ = some v := fun hn hv => by rw [setB2 (Ne.symm hn), setB2 (Ne.symm hn), setB2 (Ne.symm hn)]; exact hv
  have e0 : (W.setCell ⟨m, 0, none⟩ x').cell? ⟨m, 0, none⟩ = some x' := setS' m0
  have e1 : (W.setCell ⟨m, 0, none⟩ x').cell? ⟨m, 1, none⟩ = some y := by rw [setO' (by omega)]; exact m1
  have e2 : (W.setCell ⟨m, 0, none⟩ x').cell? ⟨m, 2, none⟩ = some z := by rw [setO' (by omega)]; exact m2
  have d1 : ((W.setCell ⟨m, 0, none⟩ x').setCell ⟨m, 1, none⟩ y').cell? ⟨m, 1, none⟩ = some y' := setS' e1
  have d2 : ((W.setCell ⟨m, 0, none⟩ x').setCell ⟨m, 1, none⟩ y').cell? ⟨m, 2, none⟩ = some z := by rw [setO' (by omega)]; exact e2
  exact ⟨o (by omega) z0, o (by omega) z1, o (by omega) z2, o (by omega) q0, o (by omega) q1, o (by omega) q2, fun i => by simpa using qf i, by rw [setO' (by omega), setO' (by omega)]; exact e0, by rw [setO' (by omega)]; exact d1, setS' d2, fun i => by simpa using mf i, n2, by simpa using sz⟩
theorem below3 {w W : World} {m n : Nat} (h : Below n w W) (hm : n ≤ m) (x y z : Value) : Below n w (((W.setCell ⟨m, 0, none⟩ x).setCell ⟨m, 1, none⟩ y).setCell ⟨m, 2, none⟩ z) :=
  ((h.setCell (p := ⟨m, 0, none⟩) hm _).setCell (p := ⟨m, 1, none⟩) hm _).setCell (p := ⟨m, 2, none⟩) hm _
theorem own3 {w : World} {base m : Nat} {adL adS adO : Option Addr} {ls ss : List Fl} {os : List Dop} (h : OwnD w base adL adS adO ls ss os) (hm : m < base) (x y z : Value) : OwnD (((w.setCell ⟨m, 0, none⟩ x).setCell ⟨m, 1, none⟩ y).setCell ⟨m, 2, none⟩ z) base adL adS adO ls ss os :=
  own_box (own_box (own_box h hm _ _) hm _ _) hm _ _
/-- the disk as it is now, and its lists -/
structure NowD (w : World) (adL adS adO : Option Addr) (capL : Nat) (L ss : List Fl) (O : List Dop) (W : World) : Prop where
  bel : Below w.heap.size w W
  dk : Dk W adL adS adO L ss O W
  nil : adL = none → capL = 0
theorem small60 {L : List Fl} (h : filesB L = true) : L.length ≤ 60 ∧ ∀ f ∈ L, f.n.size ≤ maxLen ∧ f.d.size ≤ 200000 := filesB_facts h
theorem rep_no {ls ss : List Fl} {os : List Dop} {x d : ByteArray} {L : List Fl} {O : List Dop} {c : Int} (hd : diskB ls ss os = true) (h : repR ls os x d = (L, O, c)) (hc : c ≠ 0) : rL ls ss os x d = ls ∧ dS ls ss os = ss ∧ rO ls ss os x d = os ∧ rC ls ss os x d = c := by
  refine ⟨?_, ?_, ?_, ?_⟩
  · rw [rL, if_pos hd, h, if_neg hc]
  · rw [dS, if_pos hd]
  · rw [rO, if_pos hd, h, if_neg hc]
  · rw [rC, if_pos hd, h]
theorem rep_yes {ls ss : List Fl} {os : List Dop} {x d : ByteArray} {L : List Fl} {O : List Dop} (hd : diskB ls ss os = true) (h : repR ls os x d = (L, O, 0)) : rL ls ss os x d = L ∧ dS ls ss os = ss ∧ rO ls ss os x d = O ∧ rC ls ss os x d = 0 := by
  refine ⟨?_, ?_, ?_, ?_⟩
  · rw [rL, if_pos hd, h, if_pos rfl]
  · rw [dS, if_pos hd]
  · rw [rO, if_pos hd, h, if_pos rfl]
  · rw [rC, if_pos hd, h]
theorem rep_nil {ls ss : List Fl} {os : List Dop} {x d : ByteArray} (hd : diskB ls ss os = false) : rL ls ss os x d = [] ∧ dS ls ss os = [] ∧ rO ls ss os x d = [] ∧ rC ls ss os x d = 1 := by
  refine ⟨?_, ?_, ?_, ?_⟩
  · rw [rL, hd]; rfl
  · rw [dS, hd]; rfl
  · rw [rO, hd]; rfl
  · rw [rC, hd]; rfl
theorem rep_has {ls : List Fl} {os : List Dop} {x d : ByteArray} (h : hasF ls (x ++ dotNew) = true) : repR ls os x d = actRun [opRem x, opAdd x d, opRen x] ls os := by rw [repR, repOps, if_pos h]
theorem rep_not {ls : List Fl} {os : List Dop} {x d : ByteArray} (h : hasF ls (x ++ dotNew) = false) : repR ls os x d = actRun [opAdd x d, opRen x] ls os := by rw [repR, repOps, h]; rfl
theorem at_has {fs : List Fl} {x : ByteArray} (h : hasF fs x = true) : decide ((0 : Int) ≤ atI fs x) = true := by
  unfold hasF at h; unfold atI
  cases e : atF fs x with
  | none => rw [e] at h; cases h
  | some k => simp
theorem at_not {fs : List Fl} {x : ByteArray} (h : hasF fs x = false) : decide ((0 : Int) ≤ atI fs x) = false := by
  unfold hasF at h; unfold atI
  cases e : atF fs x with
  | none => rfl
  | some k => rw [e] at h; cases h
set_option maxRecDepth 8000 in
set_option maxHeartbeats 4000000 in
theorem specReplace_any (adL adS adO : Option Addr) (capL capS capO : Nat) (ls ss : List Fl) (os : List Dop) (x d : ByteArray) (w : World) (hl : ls.length ≤ 1048576) (hs : ss.length ≤ 1048576) (ho : os.length ≤ 1048576)
    (H : Dk w adL adS adO ls ss os w) (hcL : adL = none → capL = 0) (hcS : adS = none → capS = 0) (fl : ∀ f ∈ ls, f.n.size ≤ maxLen ∧ f.d.size ≤ 4194304) (fs' : ∀ f ∈ ss, f.n.size ≤ maxLen ∧ f.d.size ≤ 4194304) (fo : ∀ o ∈ os, o.small) (hx : x.size ≤ 1048576) (hd' : d.size ≤ 1048576) :
    Calls Try.prog 29 #[.agg #[.slice adL ls.length capL, .slice adS ss.length capS, .slice adO os.length capO], .string x, .string d] w (ActTo w (rL ls ss os x d) (dS ls ss os) (rO ls ss os x d) (rC ls ss os x d)) := by
  obtain ⟨W2, hW2⟩ : ∃ W2, W2 = (w.alloc (.cells #[.slice adL ls.length capL, .slice adS ss.length capS, .slice adO os.length capO] 31)).alloc (.cells #[.slice none 0 0, .slice none 0 0, .slice none 0 0] 31) := ⟨_, rfl⟩
  obtain ⟨z0, z1, z2, q0, q1, q2, qf, hw2⟩ := box2 w (.slice adL ls.length capL) (.slice adS ss.length capS) (.slice adO os.length capO) 31 31
  rw [← hW2] at z0 z1 z2 q0 q1 q2 qf hw2
  have hb2 : Below w.heap.size w W2 := by rw [hW2]; exact ((Below.refl _ _).alloc (Nat.le_refl _) _).alloc (by simp) _
  have K0 := HIDk (H.later hb2)
  have HX : Hid (Box2 w (.slice adL ls.length capL) (.slice adS ss.length capS) (.slice adO os.length capO) W2) := ⟨z0, z1, z2, q0, q1, q2, qf, hw2⟩
  have HH := HIDk H
  have HFL := HIDk fl
  have HFS := HIDk fs'
  have HFO := HIDk fo
  have HCL := HIDk hcL
  have HCS := HIDk hcS
  have HOP := HIDk (op_small hx hd')
  have hxs : x.size + 4 ≤ 9223372036854775807 := by omega
  clear H hb2 z0 z1 z2 q0 q1 q2 qf hw2 fl fs' fo hcL hcS
  go_enter Try.func29, Try.ntmps29
  go_wp2_with fail
  rw [← hW2]
  clear hW2
  refine (specDiskOk_any adL adS adO capL capS capO ls ss os W2 hl hs ho (dk_self K0.out) HCS.out HFL.out HFS.out HFO.out).mono ?_
  rintro e w1 ⟨rfl, hb1⟩
  have K1 := HIDk (K0.out.later hb1)
  have HY := HIDk (HX.out.later hb1)
  clear hb1 K0 HX
  obtain ⟨z0, z1, z2, q0, q1, q2, qf, hw2⟩ := HY.out
  cases hd : diskB ls ss os with
  | false =>
    have HE := HIDk (rep_nil (x := x) (d := d) hd)
    clear hd
    go_wp2
    refine bodyPost_ret (v := .tuple #[.agg #[.slice none 0 0, .slice none 0 0, .slice none 0 0], .int .i64 1]) (by simp [results, Try.results29, go_sem, *]) rfl (actTo_eq HE.out.1 HE.out.2.1 HE.out.2.2.1 HE.out.2.2.2 (actTo_nil (below3 K1.out.bel (by omega) _ _ _)))
  | true =>
    have HDB := HIDk hd
    obtain ⟨hfl, -, h200⟩ := diskB_facts hd
    have G0 := HIDk (filesB_facts hfl)
    have Q0 := HIDk h200
    obtain ⟨X0, hX0⟩ : ∃ X, X = w1.alloc (.cells #[.slice adL ls.length capL, .slice adS ss.length capS, .slice adO os.length capO] 31) := ⟨_, rfl⟩
    have hbX : Below w1.heap.size w1 X0 := by rw [hX0]; exact (Below.refl _ _).alloc (Nat.le_refl _) _
    have CX : Cl w1 (.slice adL ls.length capL) (.slice adS ss.length capS) (.slice adO os.length capO) X0 := by rw [hX0]; exact cl_new _ _ _ _ _
    obtain ⟨y0, y1, y2, s0, s1, s2, sf, -⟩ := HY.out.later hbX
    have B0 : Hid (BoxN w w1.heap.size (.slice adL ls.length capL) (.slice adS ss.length capS) (.slice adO os.length capO) (.slice adL ls.length capL) (.slice adS ss.length capS) (.slice adO os.length capO) X0) := ⟨y0, y1, y2, s0, s1, s2, sf, CX.c0, CX.c1, CX.c2, fun i => by rw [hX0]; exact fz0 _ _ _ i, hw2, CX.lt⟩
    have E0 := HIDk (K1.out.later hbX).bel
    have D0 := HIDk (dk_self (K1.out.later hbX))
    have Z0 : Hid (adL = none → capL = 0) := HCL.out
    have P0 : Hid (os.length ≤ 1048576) := ho
    clear hd hfl h200 hbX CX q0 q1 q2 qf y1 y2 s0 s1 s2 sf HY
    rw [hX0] at y0
    go_wp2_with fail
    rw [← hX0]
    refine (l8At_any adL capL ls (x ++ dotNew) X0 hl D0.out.live).mono ?_
    rintro e wA ⟨rfl, hA⟩
    rw [hA]
    clear hA wA
    clear y0 z0 z1 z2
    cases hh : hasF ls (x ++ dotNew) with
    | true =>
      have HR0 := HIDk (rep_has (os := os) (d := d) hh)
      have e0 : decide ((0 : Int) ≤ atI ls (x ++ dotNew)) = true := at_has hh
      clear hh
      obtain ⟨-, -, -, -, -, -, -, m0, m1, m2, -, -, -⟩ := B0.out
      rw [hX0] at m0 m1 m2
      go_wp2_with fail
      rw [← hX0]
      clear hX0 m0 m1 m2 e0
      refine (l8Act_any adL adS adO capL capS capO (ls) ss (os) (opRem x) X0 G0.out.1 hs P0.out D0.out Z0.out G0.out.2 HOP.out.1).mono ?_
      rintro e V1 ⟨v1, rfl, ⟨a1, b1, c1, p1, q1, r1, rfl, hS, hcS⟩, hb⟩
      obtain ⟨-, -, -, -, -, -, -, m0, m1, m2, mf, -, -⟩ := B0.out.later hb
      by_cases hc : actC (ls) (os) (opRem x) = 0
      · have hL := (act_yes hc).1
        have hO := (act_yes hc).2
        rw [hL, hO] at hS
        rw [hL, hO, hc]
        obtain ⟨L1, hL1⟩ : ∃ y, y = (doF (ls) (opRem x)).1 := ⟨_, rfl⟩
        obtain ⟨O1, hO1⟩ : ∃ y, y = (os) ++ [opRem x] := ⟨_, rfl⟩
        rw [← hL1, ← hO1] at hS
        rw [← hL1, ← hO1]
        obtain ⟨X1, hX1⟩ : ∃ X, X = ((V1.setCell ⟨w1.heap.size, 0, none⟩ (.slice a1 (L1).length p1)).setCell ⟨w1.heap.size, 1, none⟩ (.slice b1 ss.length q1)).setCell ⟨w1.heap.size, 2, none⟩ (.slice c1 (O1).length r1) := ⟨_, rfl⟩
        have B1 : Hid (BoxN w w1.heap.size (.slice adL ls.length capL) (.slice adS ss.length capS) (.slice adO os.length capO) (.slice a1 (L1).length p1) (.slice b1 ss.length q1) (.slice c1 (O1).length r1) X1) := by rw [hX1]; exact (B0.out.later hb).set _ _ _
        have E1 : Hid (Below w.heap.size w X1) := by rw [hX1]; exact below3 (E0.out.trans (hb.mono E0.out.size)) (by have := B0.out.n2; omega) _ _ _
        have D1 : Hid (Dk X1 a1 b1 c1 (L1) ss (O1) X1) := by rw [hX1]; exact own_dk (own3 hS B0.out.sz _ _ _)
        have Z1 : Hid (a1 = none → p1 = 0) := hcS.2
        have G1 : Hid (L1.length ≤ 60 ∧ ∀ f ∈ L1, f.n.size ≤ maxLen ∧ f.d.size ≤ 200000) := by rw [hL1]; exact filesB_facts (act_good hc).1
        have P1 : Hid ((O1).length ≤ 1048576) := by have h3 := Q0.out; show _ ≤ _; rw [hO1, List.length_append]; simp; omega
        have Q1 : Hid ((O1).length ≤ 201) := by have h3 := Q0.out; show _ ≤ _; rw [hO1, List.length_append]; simp; omega
        have HR1 : Hid (repR ls os x d = actRun [opAdd x d, opRen x] L1 O1) := by rw [hL1, hO1]; exact HR0.out.trans (run_go hc)
        clear hS hcS hb hL hO hc hL1 hO1 B0 E0 D0 Z0 G0 P0 Q0 HR0
        have e0 : ((0 : Int) == 0) = true := rfl
        obtain ⟨-, -, -, -, -, -, -, m0, m1, m2, -, -, -⟩ := B1.out
        rw [hX1] at m0 m1 m2
        go_wp2_with fail
        rw [← hX1]
        clear hX1 m0 m1 m2 e0
        refine (l8Act_any a1 b1 c1 p1 q1 r1 (L1) ss (O1) (opAdd x d) X1 G1.out.1 hs P1.out D1.out Z1.out G1.out.2 HOP.out.2.1).mono ?_
        rintro e V2 ⟨v2, rfl, ⟨a2, b2, c2, p2, q2, r2, rfl, hS, hcS⟩, hb⟩
        obtain ⟨-, -, -, -, -, -, -, m0, m1, m2, mf, -, -⟩ := B1.out.later hb
        by_cases hc : actC (L1) (O1) (opAdd x d) = 0
        · have hL := (act_yes hc).1
          have hO := (act_yes hc).2
          rw [hL, hO] at hS
          rw [hL, hO, hc]
          obtain ⟨L2, hL2⟩ : ∃ y, y = (doF (L1) (opAdd x d)).1 := ⟨_, rfl⟩
          obtain ⟨O2, hO2⟩ : ∃ y, y = (O1) ++ [opAdd x d] := ⟨_, rfl⟩
          rw [← hL2, ← hO2] at hS
          rw [← hL2, ← hO2]
          obtain ⟨X2, hX2⟩ : ∃ X, X = ((V2.setCell ⟨w1.heap.size, 0, none⟩ (.slice a2 (L2).length p2)).setCell ⟨w1.heap.size, 1, none⟩ (.slice b2 ss.length q2)).setCell ⟨w1.heap.size, 2, none⟩ (.slice c2 (O2).length r2) := ⟨_, rfl⟩
          have B2 : Hid (BoxN w w1.heap.size (.slice adL ls.length capL) (.slice adS ss.length capS) (.slice adO os.length capO) (.slice a2 (L2).length p2) (.slice b2 ss.length q2) (.slice c2 (O2).length r2) X2) := by rw [hX2]; exact (B1.out.later hb).set _ _ _
          have E2 : Hid (Below w.heap.size w X2) := by rw [hX2]; exact below3 (E1.out.trans (hb.mono E1.out.size)) (by have := B1.out.n2; omega) _ _ _
          have D2 : Hid (Dk X2 a2 b2 c2 (L2) ss (O2) X2) := by rw [hX2]; exact own_dk (own3 hS B1.out.sz _ _ _)
          have Z2 : Hid (a2 = none → p2 = 0) := hcS.2
          have G2 : Hid (L2.length ≤ 60 ∧ ∀ f ∈ L2, f.n.size ≤ maxLen ∧ f.d.size ≤ 200000) := by rw [hL2]; exact filesB_facts (act_good hc).1
          have P2 : Hid ((O2).length ≤ 1048576) := by have h3 := Q1.out; show _ ≤ _; rw [hO2, List.length_append]; simp; omega
          have Q2 : Hid ((O2).length ≤ 202) := by have h3 := Q1.out; show _ ≤ _; rw [hO2, List.length_append]; simp; omega
          have HR2 : Hid (repR ls os x d = actRun [opRen x] L2 O2) := by rw [hL2, hO2]; exact HR1.out.trans (run_go hc)
          clear hS hcS hb hL hO hc hL2 hO2 B1 E1 D1 Z1 G1 P1 Q1 HR1
          have e0 : ((0 : Int) == 0) = true := rfl
          obtain ⟨-, -, -, -, -, -, -, m0, m1, m2, -, -, -⟩ := B2.out
          rw [hX2] at m0 m1 m2
          go_wp2_with fail
          rw [← hX2]
          clear hX2 m0 m1 m2 e0
          refine (l8Act_any a2 b2 c2 p2 q2 r2 (L2) ss (O2) (opRen x) X2 G2.out.1 hs P2.out D2.out Z2.out G2.out.2 HOP.out.2.2).mono ?_
          rintro e V3 ⟨v3, rfl, ⟨a3, b3, c3, p3, q3, r3, rfl, hS, hcS⟩, hb⟩
          obtain ⟨-, -, -, -, -, -, -, m0, m1, m2, mf, -, -⟩ := B2.out.later hb
          by_cases hc : actC (L2) (O2) (opRen x) = 0
          · have hL := (act_yes hc).1
            have hO := (act_yes hc).2
            rw [hL, hO] at hS
            rw [hL, hO, hc]
            obtain ⟨L3, hL3⟩ : ∃ y, y = (doF (L2) (opRen x)).1 := ⟨_, rfl⟩
            obtain ⟨O3, hO3⟩ : ∃ y, y = (O2) ++ [opRen x] := ⟨_, rfl⟩
            rw [← hL3, ← hO3] at hS
            rw [← hL3, ← hO3]
            obtain ⟨X3, hX3⟩ : ∃ X, X = ((V3.setCell ⟨w1.heap.size, 0, none⟩ (.slice a3 (L3).length p3)).setCell ⟨w1.heap.size, 1, none⟩ (.slice b3 ss.length q3)).setCell ⟨w1.heap.size, 2, none⟩ (.slice c3 (O3).length r3) := ⟨_, rfl⟩
            have B3 : Hid (BoxN w w1.heap.size (.slice adL ls.length capL) (.slice adS ss.length capS) (.slice adO os.length capO) (.slice a3 (L3).length p3) (.slice b3 ss.length q3) (.slice c3 (O3).length r3) X3) := by rw [hX3]; exact (B2.out.later hb).set _ _ _
            have E3 : Hid (Below w.heap.size w X3) := by rw [hX3]; exact below3 (E2.out.trans (hb.mono E2.out.size)) (by have := B2.out.n2; omega) _ _ _
            have D3 : Hid (Dk X3 a3 b3 c3 (L3) ss (O3) X3) := by rw [hX3]; exact own_dk (own3 hS B2.out.sz _ _ _)
            have Z3 : Hid (a3 = none → p3 = 0) := hcS.2
            have G3 : Hid (L3.length ≤ 60 ∧ ∀ f ∈ L3, f.n.size ≤ maxLen ∧ f.d.size ≤ 200000) := by rw [hL3]; exact filesB_facts (act_good hc).1
            have P3 : Hid ((O3).length ≤ 1048576) := by have h3 := Q2.out; show _ ≤ _; rw [hO3, List.length_append]; simp; omega
            have Q3 : Hid ((O3).length ≤ 203) := by have h3 := Q2.out; show _ ≤ _; rw [hO3, List.length_append]; simp; omega
            have HR3 : Hid (repR ls os x d = actRun [] L3 O3) := by rw [hL3, hO3]; exact HR2.out.trans (run_go hc)
            clear hS hcS hb hL hO hc hL3 hO3 B2 E2 D2 Z2 G2 P2 Q2 HR2
            have e0 : ((0 : Int) == 0) = true := rfl
            have HE := HIDk (rep_yes HDB.out HR3.out)
            obtain ⟨-, -, -, -, -, -, -, m0, m1, m2, -, -, -⟩ := B3.out
            rw [hX3] at m0 m1 m2
            go_wp2_with fail
            rw [← hX3]
            clear hX3 m0 m1 m2 e0
            refine (l8Copy_any a3 b3 c3 p3 q3 r3 (L3) ss (O3) X3 (by have := G3.out.1; omega) hs P3.out D3.out).mono ?_
            rintro e wf ⟨vf, rfl, ⟨b1, b2, b3, r1, r2, r3, rfl, hSf, hcf, -, -⟩, hbf⟩
            have HSf := HIDk (hSf.mono (b' := w.heap.size + 2) (by have := B3.out.n2; have := B3.out.sz; omega))
            have HBf := HIDk (E3.out.trans (hbf.mono E3.out.size))
            obtain ⟨-, -, -, q0, q1, q2, qf, -, -, -, -, -, -⟩ := B3.out.later hbf
            clear hSf hbf
            go_wp2
            refine bodyPost_ret (v := .tuple #[.agg #[.slice b1 (L3).length r1, .slice b2 ss.length r2, .slice b3 (O3).length r3], .int .i64 (0)]) (by simp [results, Try.results29, go_sem, *]) rfl (actTo_eq HE.out.1 HE.out.2.1 HE.out.2.2.1 HE.out.2.2.2 (actTo_mk ((own3 HSf.out (show w.heap.size + 1 < w.heap.size + 2 by omega) _ _ _).mono (show w.heap.size ≤ w.heap.size + 2 by omega)) hcf (below3 HBf.out (show w.heap.size ≤ w.heap.size + 1 by omega) _ _ _)))
          · have hL := (act_no rfl hc).1
            have hO := (act_no rfl hc).2
            rw [hL, hO] at hS
            rw [hL, hO]
            obtain ⟨X3, hX3⟩ : ∃ X, X = ((V3.setCell ⟨w1.heap.size, 0, none⟩ (.slice a3 (L2).length p3)).setCell ⟨w1.heap.size, 1, none⟩ (.slice b3 ss.length q3)).setCell ⟨w1.heap.size, 2, none⟩ (.slice c3 (O2).length r3) := ⟨_, rfl⟩
            have B3 : Hid (BoxN w w1.heap.size (.slice adL ls.length capL) (.slice adS ss.length capS) (.slice adO os.length capO) (.slice a3 (L2).length p3) (.slice b3 ss.length q3) (.slice c3 (O2).length r3) X3) := by rw [hX3]; exact (B2.out.later hb).set _ _ _
            have E3 : Hid (Below w.heap.size w X3) := by rw [hX3]; exact below3 (E2.out.trans (hb.mono E2.out.size)) (by have := B2.out.n2; omega) _ _ _
            have HE := HIDk (rep_no HDB.out (HR2.out.trans (run_stop hc)) hc)
            have hcb := kNe hc
            obtain ⟨z0, z1, z2, -, -, -, -, -, -, -, -, -, -⟩ := B3.out
            rw [hX3] at z0 z1 z2
            clear hS hcS hb hL hO hc
            generalize actC (L2) (O2) (opRen x) = cc at *
            go_wp2_with fail
            rw [← hX3]
            clear hX3 z0 z1 z2 m0 m1 m2 mf
            refine (l8Copy_any adL adS adO capL capS capO ls ss os X3 hl hs ho (dk_self (HH.out.later E3.out))).mono ?_
            rintro e wf ⟨vf, rfl, ⟨b1, b2, b3, r1, r2, r3, rfl, hSf, hcf, -, -⟩, hbf⟩
            have HSf := HIDk (hSf.mono (b' := w.heap.size + 2) (by have := B3.out.n2; have := B3.out.sz; omega))
            have HBf := HIDk (E3.out.trans (hbf.mono E3.out.size))
            obtain ⟨-, -, -, q0, q1, q2, qf, -, -, -, -, -, -⟩ := B3.out.later hbf
            clear hSf hbf
            go_wp2
            refine bodyPost_ret (v := .tuple #[.agg #[.slice b1 (ls).length r1, .slice b2 ss.length r2, .slice b3 (os).length r3], .int .i64 (cc)]) (by simp [results, Try.results29, go_sem, *]) rfl (actTo_eq HE.out.1 HE.out.2.1 HE.out.2.2.1 HE.out.2.2.2 (actTo_mk ((own3 HSf.out (show w.heap.size + 1 < w.heap.size + 2 by omega) _ _ _).mono (show w.heap.size ≤ w.heap.size + 2 by omega)) hcf (below3 HBf.out (show w.heap.size ≤ w.heap.size + 1 by omega) _ _ _)))
        · have hL := (act_no rfl hc).1
          have hO := (act_no rfl hc).2
          rw [hL, hO] at hS
          rw [hL, hO]
          obtain ⟨X2, hX2⟩ : ∃ X, X = ((V2.setCell ⟨w1.heap.size, 0, none⟩ (.slice a2 (L1).length p2)).setCell ⟨w1.heap.size, 1, none⟩ (.slice b2 ss.length q2)).setCell ⟨w1.heap.size, 2, none⟩ (.slice c2 (O1).length r2) := ⟨_, rfl⟩
          have B2 : Hid (BoxN w w1.heap.size (.slice adL ls.length capL) (.slice adS ss.length capS) (.slice adO os.length capO) (.slice a2 (L1).length p2) (.slice b2 ss.length q2) (.slice c2 (O1).length r2) X2) := by rw [hX2]; exact (B1.out.later hb).set _ _ _
          have E2 : Hid (Below w.heap.size w X2) := by rw [hX2]; exact below3 (E1.out.trans (hb.mono E1.out.size)) (by have := B1.out.n2; omega) _ _ _
          have HE := HIDk (rep_no HDB.out (HR1.out.trans (run_stop hc)) hc)
          have hcb := kNe hc
          obtain ⟨z0, z1, z2, -, -, -, -, -, -, -, -, -, -⟩ := B2.out
          rw [hX2] at z0 z1 z2
          clear hS hcS hb hL hO hc
          generalize actC (L1) (O1) (opAdd x d) = cc at *
          go_wp2_with fail
          rw [← hX2]
          clear hX2 z0 z1 z2 m0 m1 m2 mf
          refine (l8Copy_any adL adS adO capL capS capO ls ss os X2 hl hs ho (dk_self (HH.out.later E2.out))).mono ?_
          rintro e wf ⟨vf, rfl, ⟨b1, b2, b3, r1, r2, r3, rfl, hSf, hcf, -, -⟩, hbf⟩
          have HSf := HIDk (hSf.mono (b' := w.heap.size + 2) (by have := B2.out.n2; have := B2.out.sz; omega))
          have HBf := HIDk (E2.out.trans (hbf.mono E2.out.size))
          obtain ⟨-, -, -, q0, q1, q2, qf, -, -, -, -, -, -⟩ := B2.out.later hbf
          clear hSf hbf
          go_wp2
          refine bodyPost_ret (v := .tuple #[.agg #[.slice b1 (ls).length r1, .slice b2 ss.length r2, .slice b3 (os).length r3], .int .i64 (cc)]) (by simp [results, Try.results29, go_sem, *]) rfl (actTo_eq HE.out.1 HE.out.2.1 HE.out.2.2.1 HE.out.2.2.2 (actTo_mk ((own3 HSf.out (show w.heap.size + 1 < w.heap.size + 2 by omega) _ _ _).mono (show w.heap.size ≤ w.heap.size + 2 by omega)) hcf (below3 HBf.out (show w.heap.size ≤ w.heap.size + 1 by omega) _ _ _)))
      · have hL := (act_no rfl hc).1
        have hO := (act_no rfl hc).2
        rw [hL, hO] at hS
        rw [hL, hO]
        obtain ⟨X1, hX1⟩ : ∃ X, X = ((V1.setCell ⟨w1.heap.size, 0, none⟩ (.slice a1 (ls).length p1)).setCell ⟨w1.heap.size, 1, none⟩ (.slice b1 ss.length q1)).setCell ⟨w1.heap.size, 2, none⟩ (.slice c1 (os).length r1) := ⟨_, rfl⟩
        have B1 : Hid (BoxN w w1.heap.size (.slice adL ls.length capL) (.slice adS ss.length capS) (.slice adO os.length capO) (.slice a1 (ls).length p1) (.slice b1 ss.length q1) (.slice c1 (os).length r1) X1) := by rw [hX1]; exact (B0.out.later hb).set _ _ _
        have E1 : Hid (Below w.heap.size w X1) := by rw [hX1]; exact below3 (E0.out.trans (hb.mono E0.out.size)) (by have := B0.out.n2; omega) _ _ _
        have HE := HIDk (rep_no HDB.out (HR0.out.trans (run_stop hc)) hc)
        have hcb := kNe hc
        obtain ⟨z0, z1, z2, -, -, -, -, -, -, -, -, -, -⟩ := B1.out
        rw [hX1] at z0 z1 z2
        clear hS hcS hb hL hO hc
        generalize actC (ls) (os) (opRem x) = cc at *
        go_wp2_with fail
        rw [← hX1]
        clear hX1 z0 z1 z2 m0 m1 m2 mf
        refine (l8Copy_any adL adS adO capL capS capO ls ss os X1 hl hs ho (dk_self (HH.out.later E1.out))).mono ?_
        rintro e wf ⟨vf, rfl, ⟨b1, b2, b3, r1, r2, r3, rfl, hSf, hcf, -, -⟩, hbf⟩
        have HSf := HIDk (hSf.mono (b' := w.heap.size + 2) (by have := B1.out.n2; have := B1.out.sz; omega))
        have HBf := HIDk (E1.out.trans (hbf.mono E1.out.size))
        obtain ⟨-, -, -, q0, q1, q2, qf, -, -, -, -, -, -⟩ := B1.out.later hbf
        clear hSf hbf
        go_wp2
        refine bodyPost_ret (v := .tuple #[.agg #[.slice b1 (ls).length r1, .slice b2 ss.length r2, .slice b3 (os).length r3], .int .i64 (cc)]) (by simp [results, Try.results29, go_sem, *]) rfl (actTo_eq HE.out.1 HE.out.2.1 HE.out.2.2.1 HE.out.2.2.2 (actTo_mk ((own3 HSf.out (show w.heap.size + 1 < w.heap.size + 2 by omega) _ _ _).mono (show w.heap.size ≤ w.heap.size + 2 by omega)) hcf (below3 HBf.out (show w.heap.size ≤ w.heap.size + 1 by omega) _ _ _)))
    | false =>
      have HR0 := HIDk (rep_not (os := os) (d := d) hh)
      have e0 : decide ((0 : Int) ≤ atI ls (x ++ dotNew)) = false := at_not hh
      clear hh
      obtain ⟨-, -, -, -, -, -, -, m0, m1, m2, -, -, -⟩ := B0.out
      rw [hX0] at m0 m1 m2
      go_wp2_with fail
      rw [← hX0]
      clear hX0 m0 m1 m2 e0
      refine (l8Act_any adL adS adO capL capS capO (ls) ss (os) (opAdd x d) X0 G0.out.1 hs P0.out D0.out Z0.out G0.out.2 HOP.out.2.1).mono ?_
      rintro e V1 ⟨v1, rfl, ⟨a1, b1, c1, p1, q1, r1, rfl, hS, hcS⟩, hb⟩
      obtain ⟨-, -, -, -, -, -, -, m0, m1, m2, mf, -, -⟩ := B0.out.later hb
      by_cases hc : actC (ls) (os) (opAdd x d) = 0
      · have hL := (act_yes hc).1
        have hO := (act_yes hc).2
        rw [hL, hO] at hS
        rw [hL, hO, hc]
        obtain ⟨L1, hL1⟩ : ∃ y, y = (doF (ls) (opAdd x d)).1 := ⟨_, rfl⟩
        obtain ⟨O1, hO1⟩ : ∃ y, y = (os) ++ [opAdd x d] := ⟨_, rfl⟩
        rw [← hL1, ← hO1] at hS
        rw [← hL1, ← hO1]
        obtain ⟨X1, hX1⟩ : ∃ X, X = ((V1.setCell ⟨w1.heap.size, 0, none⟩ (.slice a1 (L1).length p1)).setCell ⟨w1.heap.size, 1, none⟩ (.slice b1 ss.length q1)).setCell ⟨w1.heap.size, 2, none⟩ (.slice c1 (O1).length r1) := ⟨_, rfl⟩
        have B1 : Hid (BoxN w w1.heap.size (.slice adL ls.length capL) (.slice adS ss.length capS) (.slice adO os.length capO) (.slice a1 (L1).length p1) (.slice b1 ss.length q1) (.slice c1 (O1).length r1) X1) := by rw [hX1]; exact (B0.out.later hb).set _ _ _
        have E1 : Hid (Below w.heap.size w X1) := by rw [hX1]; exact below3 (E0.out.trans (hb.mono E0.out.size)) (by have := B0.out.n2; omega) _ _ _
        have D1 : Hid (Dk X1 a1 b1 c1 (L1) ss (O1) X1) := by rw [hX1]; exact own_dk (own3 hS B0.out.sz _ _ _)
        have Z1 : Hid (a1 = none → p1 = 0) := hcS.2
        have G1 : Hid (L1.length ≤ 60 ∧ ∀ f ∈ L1, f.n.size ≤ maxLen ∧ f.d.size ≤ 200000) := by rw [hL1]; exact filesB_facts (act_good hc).1
        have P1 : Hid ((O1).length ≤ 1048576) := by have h3 := Q0.out; show _ ≤ _; rw [hO1, List.length_append]; simp; omega
        have Q1 : Hid ((O1).length ≤ 201) := by have h3 := Q0.out; show _ ≤ _; rw [hO1, List.length_append]; simp; omega
        have HR1 : Hid (repR ls os x d = actRun [opRen x] L1 O1) := by rw [hL1, hO1]; exact HR0.out.trans (run_go hc)
        clear hS hcS hb hL hO hc hL1 hO1 B0 E0 D0 Z0 G0 P0 Q0 HR0
        have e0 : ((0 : Int) == 0) = true := rfl
        obtain ⟨-, -, -, -, -, -, -, m0, m1, m2, -, -, -⟩ := B1.out
        rw [hX1] at m0 m1 m2
        go_wp2_with fail
        rw [← hX1]
        clear hX1 m0 m1 m2 e0
        refine (l8Act_any a1 b1 c1 p1 q1 r1 (L1) ss (O1) (opRen x) X1 G1.out.1 hs P1.out D1.out Z1.out G1.out.2 HOP.out.2.2).mono ?_
        rintro e V2 ⟨v2, rfl, ⟨a2, b2, c2, p2, q2, r2, rfl, hS, hcS⟩, hb⟩
        obtain ⟨-, -, -, -, -, -, -, m0, m1, m2, mf, -, -⟩ := B1.out.later hb
        by_cases hc : actC (L1) (O1) (opRen x) = 0
        · have hL := (act_yes hc).1
          have hO := (act_yes hc).2
          rw [hL, hO] at hS
          rw [hL, hO, hc]
          obtain ⟨L2, hL2⟩ : ∃ y, y = (doF (L1) (opRen x)).1 := ⟨_, rfl⟩
          obtain ⟨O2, hO2⟩ : ∃ y, y = (O1) ++ [opRen x] := ⟨_, rfl⟩
          rw [← hL2, ← hO2] at hS
          rw [← hL2, ← hO2]
          obtain ⟨X2, hX2⟩ : ∃ X, X = ((V2.setCell ⟨w1.heap.size, 0, none⟩ (.slice a2 (L2).length p2)).setCell ⟨w1.heap.size, 1, none⟩ (.slice b2 ss.length q2)).setCell ⟨w1.heap.size, 2, none⟩ (.slice c2 (O2).length r2) := ⟨_, rfl⟩
          have B2 : Hid (BoxN w w1.heap.size (.slice adL ls.length capL) (.slice adS ss.length capS) (.slice adO os.length capO) (.slice a2 (L2).length p2) (.slice b2 ss.length q2) (.slice c2 (O2).length r2) X2) := by rw [hX2]; exact (B1.out.later hb).set _ _ _
          have E2 : Hid (Below w.heap.size w X2) := by rw [hX2]; exact below3 (E1.out.trans (hb.mono E1.out.size)) (by have := B1.out.n2; omega) _ _ _
          have D2 : Hid (Dk X2 a2 b2 c2 (L2) ss (O2) X2) := by rw [hX2]; exact own_dk (own3 hS B1.out.sz _ _ _)
          have Z2 : Hid (a2 = none → p2 = 0) := hcS.2
          have G2 : Hid (L2.length ≤ 60 ∧ ∀ f ∈ L2, f.n.size ≤ maxLen ∧ f.d.size ≤ 200000) := by rw [hL2]; exact filesB_facts (act_good hc).1
          have P2 : Hid ((O2).length ≤ 1048576) := by have h3 := Q1.out; show _ ≤ _; rw [hO2, List.length_append]; simp; omega
          have Q2 : Hid ((O2).length ≤ 202) := by have h3 := Q1.out; show _ ≤ _; rw [hO2, List.length_append]; simp; omega
          have HR2 : Hid (repR ls os x d = actRun [] L2 O2) := by rw [hL2, hO2]; exact HR1.out.trans (run_go hc)
          clear hS hcS hb hL hO hc hL2 hO2 B1 E1 D1 Z1 G1 P1 Q1 HR1
          have e0 : ((0 : Int) == 0) = true := rfl
          have HE := HIDk (rep_yes HDB.out HR2.out)
          obtain ⟨-, -, -, -, -, -, -, m0, m1, m2, -, -, -⟩ := B2.out
          rw [hX2] at m0 m1 m2
          go_wp2_with fail
          rw [← hX2]
          clear hX2 m0 m1 m2 e0
          refine (l8Copy_any a2 b2 c2 p2 q2 r2 (L2) ss (O2) X2 (by have := G2.out.1; omega) hs P2.out D2.out).mono ?_
          rintro e wf ⟨vf, rfl, ⟨b1, b2, b3, r1, r2, r3, rfl, hSf, hcf, -, -⟩, hbf⟩
          have HSf := HIDk (hSf.mono (b' := w.heap.size + 2) (by have := B2.out.n2; have := B2.out.sz; omega))
          have HBf := HIDk (E2.out.trans (hbf.mono E2.out.size))
          obtain ⟨-, -, -, q0, q1, q2, qf, -, -, -, -, -, -⟩ := B2.out.later hbf
          clear hSf hbf
          go_wp2
          refine bodyPost_ret (v := .tuple #[.agg #[.slice b1 (L2).length r1, .slice b2 ss.length r2, .slice b3 (O2).length r3], .int .i64 (0)]) (by simp [results, Try.results29, go_sem, *]) rfl (actTo_eq HE.out.1 HE.out.2.1 HE.out.2.2.1 HE.out.2.2.2 (actTo_mk ((own3 HSf.out (show w.heap.size + 1 < w.heap.size + 2 by omega) _ _ _).mono (show w.heap.size ≤ w.heap.size + 2 by omega)) hcf (below3 HBf.out (show w.heap.size ≤ w.heap.size + 1 by omega) _ _ _)))
        · have hL := (act_no rfl hc).1
          have hO := (act_no rfl hc).2
          rw [hL, hO] at hS
          rw [hL, hO]
          obtain ⟨X2, hX2⟩ : ∃ X, X = ((V2.setCell ⟨w1.heap.size, 0, none⟩ (.slice a2 (L1).length p2)).setCell ⟨w1.heap.size, 1, none⟩ (.slice b2 ss.length q2)).setCell ⟨w1.heap.size, 2, none⟩ (.slice c2 (O1).length r2) := ⟨_, rfl⟩
          have B2 : Hid (BoxN w w1.heap.size (.slice adL ls.length capL) (.slice adS ss.length capS) (.slice adO os.length capO) (.slice a2 (L1).length p2) (.slice b2 ss.length q2) (.slice c2 (O1).length r2) X2) := by rw [hX2]; exact (B1.out.later hb).set _ _ _
          have E2 : Hid (Below w.heap.size w X2) := by rw [hX2]; exact below3 (E1.out.trans (hb.mono E1.out.size)) (by have := B1.out.n2; omega) _ _ _
          have HE := HIDk (rep_no HDB.out (HR1.out.trans (run_stop hc)) hc)
          have hcb := kNe hc
          obtain ⟨z0, z1, z2, -, -, -, -, -, -, -, -, -, -⟩ := B2.out
          rw [hX2] at z0 z1 z2
          clear hS hcS hb hL hO hc
          generalize actC (L1) (O1) (opRen x) = cc at *
          go_wp2_with fail
          rw [← hX2]
          clear hX2 z0 z1 z2 m0 m1 m2 mf
          refine (l8Copy_any adL adS adO capL capS capO ls ss os X2 hl hs ho (dk_self (HH.out.later E2.out))).mono ?_
          rintro e wf ⟨vf, rfl, ⟨b1, b2, b3, r1, r2, r3, rfl, hSf, hcf, -, -⟩, hbf⟩
          have HSf := HIDk (hSf.mono (b' := w.heap.size + 2) (by have := B2.out.n2; have := B2.out.sz; omega))
          have HBf := HIDk (E2.out.trans (hbf.mono E2.out.size))
          obtain ⟨-, -, -, q0, q1, q2, qf, -, -, -, -, -, -⟩ := B2.out.later hbf
          clear hSf hbf
          go_wp2
          refine bodyPost_ret (v := .tuple #[.agg #[.slice b1 (ls).length r1, .slice b2 ss.length r2, .slice b3 (os).length r3], .int .i64 (cc)]) (by simp [results, Try.results29, go_sem, *]) rfl (actTo_eq HE.out.1 HE.out.2.1 HE.out.2.2.1 HE.out.2.2.2 (actTo_mk ((own3 HSf.out (show w.heap.size + 1 < w.heap.size + 2 by omega) _ _ _).mono (show w.heap.size ≤ w.heap.size + 2 by omega)) hcf (below3 HBf.out (show w.heap.size ≤ w.heap.size + 1 by omega) _ _ _)))
      · have hL := (act_no rfl hc).1
        have hO := (act_no rfl hc).2
        rw [hL, hO] at hS
        rw [hL, hO]
        obtain ⟨X1, hX1⟩ : ∃ X, X = ((V1.setCell ⟨w1.heap.size, 0, none⟩ (.slice a1 (ls).length p1)).setCell ⟨w1.heap.size, 1, none⟩ (.slice b1 ss.length q1)).setCell ⟨w1.heap.size, 2, none⟩ (.slice c1 (os).length r1) := ⟨_, rfl⟩
        have B1 : Hid (BoxN w w1.heap.size (.slice adL ls.length capL) (.slice adS ss.length capS) (.slice adO os.length capO) (.slice a1 (ls).length p1) (.slice b1 ss.length q1) (.slice c1 (os).length r1) X1) := by rw [hX1]; exact (B0.out.later hb).set _ _ _
        have E1 : Hid (Below w.heap.size w X1) := by rw [hX1]; exact below3 (E0.out.trans (hb.mono E0.out.size)) (by have := B0.out.n2; omega) _ _ _
        have HE := HIDk (rep_no HDB.out (HR0.out.trans (run_stop hc)) hc)
        have hcb := kNe hc
        obtain ⟨z0, z1, z2, -, -, -, -, -, -, -, -, -, -⟩ := B1.out
        rw [hX1] at z0 z1 z2
        clear hS hcS hb hL hO hc
        generalize actC (ls) (os) (opAdd x d) = cc at *
        go_wp2_with fail
        rw [← hX1]
        clear hX1 z0 z1 z2 m0 m1 m2 mf
        refine (l8Copy_any adL adS adO capL capS capO ls ss os X1 hl hs ho (dk_self (HH.out.later E1.out))).mono ?_
        rintro e wf ⟨vf, rfl, ⟨b1, b2, b3, r1, r2, r3, rfl, hSf, hcf, -, -⟩, hbf⟩
        have HSf := HIDk (hSf.mono (b' := w.heap.size + 2) (by have := B1.out.n2; have := B1.out.sz; omega))
        have HBf := HIDk (E1.out.trans (hbf.mono E1.out.size))
        obtain ⟨-, -, -, q0, q1, q2, qf, -, -, -, -, -, -⟩ := B1.out.later hbf
        clear hSf hbf
        go_wp2
        refine bodyPost_ret (v := .tuple #[.agg #[.slice b1 (ls).length r1, .slice b2 ss.length r2, .slice b3 (os).length r3], .int .i64 (cc)]) (by simp [results, Try.results29, go_sem, *]) rfl (actTo_eq HE.out.1 HE.out.2.1 HE.out.2.2.1 HE.out.2.2.2 (actTo_mk ((own3 HSf.out (show w.heap.size + 1 < w.heap.size + 2 by omega) _ _ _).mono (show w.heap.size ≤ w.heap.size + 2 by omega)) hcf (below3 HBf.out (show w.heap.size ≤ w.heap.size + 1 by omega) _ _ _)))
end Go.Proofs.Ythglpandhlgnoaa
