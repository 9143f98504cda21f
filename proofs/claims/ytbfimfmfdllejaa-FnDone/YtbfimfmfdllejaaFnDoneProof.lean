/- Proved here: FnDone answers true for every slice of bytes and leaves it as it was, with no condition on it. -/
import Derived.Test.YtbfimfmfdllejaaJ1
import Derived.Test.YtbfimfmfdllejaaActDk2
import Derived.Deep.RegionHeld3
namespace Go.Proofs.Ytbfimfmfdllejaa
open Go.ChangeShapes Go.WideShapes Go.ChangeAt Go.RowKit Go.Maps
set_option linter.unusedVariables false
/-- a disk in its box, its rows -/
def BX (n : Nat) (a1 a2 a3 : Option Addr) (p1 p2 p3 : Nat) (ls ss : List Fl) (os : List Dop) (W : World) : Prop :=
  Cn n (.slice a1 ls.length p1) (.slice a2 ss.length p2) (.slice a3 os.length p3) W ∧ Dk W a1 a2 a3 ls ss os W
theorem BX.later {n : Nat} {W W' : World} {a1 a2 a3 : Option Addr} {p1 p2 p3 : Nat} {ls ss : List Fl} {os : List Dop} (h : BX n a1 a2 a3 p1 p2 p3 ls ss os W) (hB : Below W.heap.size W W') : BX n a1 a2 a3 p1 p2 p3 ls ss os W' := ⟨h.1.later hB, dk_self (h.2.later hB)⟩
theorem BX.new {w : World} {a1 a2 a3 : Option Addr} {p1 p2 p3 : Nat} {ls ss : List Fl} {os : List Dop} (h : Dk w a1 a2 a3 ls ss os w) (t : TypeId) : BX w.heap.size a1 a2 a3 p1 p2 p3 ls ss os (w.alloc (.cells #[.slice a1 ls.length p1, .slice a2 ss.length p2, .slice a3 os.length p3] t)) :=
  ⟨cn_new _ _ _ _ _, dk_self (h.later ((Below.refl _ _).alloc (Nat.le_refl _) _))⟩
theorem dk_own {w : World} {n : Nat} {a b c : Option Addr} {ls ss : List Fl} {os : List Dop} (h : OwnD w n a b c ls ss os) : Dk w a b c ls ss os w := ⟨Below.refl _ _, h.live, h.safe, h.ops⟩
/-- the disk, the op, and what was done -/
structure DN (w1 : World) (a1 a2 a3 : Option Addr) (p1 p2 p3 : Nat) (ls ss : List Fl) (os : List Dop) (o : Dop) (W : World) : Prop where
  d : BX w1.heap.size a1 a2 a3 p1 p2 p3 ls ss os W
  o : C4 (w1.heap.size + 1) o W
  bel : Below w1.heap.size w1 W
theorem DN.later {w1 W W' : World} {a1 a2 a3 : Option Addr} {p1 p2 p3 : Nat} {ls ss : List Fl} {os : List Dop} {o : Dop} (h : DN w1 a1 a2 a3 p1 p2 p3 ls ss os o W) (hB : Below W.heap.size W W') : DN w1 a1 a2 a3 p1 p2 p3 ls ss os o W' := ⟨h.d.later hB, h.o.later hB, h.bel.trans (hB.mono h.bel.size)⟩
theorem DN.new {w : World} {a1 a2 a3 : Option Addr} {p1 p2 p3 : Nat} {ls ss : List Fl} {os : List Dop} (h : Dk w a1 a2 a3 ls ss os w) (o : Dop) (t t' : TypeId) : DN w a1 a2 a3 p1 p2 p3 ls ss os o ((w.alloc (.cells #[.slice a1 ls.length p1, .slice a2 ss.length p2, .slice a3 os.length p3] t)).alloc (.cells #[.int .i64 o.k, .string o.n, .string o.t, .string o.d] t')) := by
  have h1 : BX w.heap.size a1 a2 a3 p1 p2 p3 ls ss os _ := BX.new h t
  have h2 := C4.new (w.alloc (.cells #[.slice a1 ls.length p1, .slice a2 ss.length p2, .slice a3 os.length p3] t)) o t'
  have e : (w.alloc (.cells #[.slice a1 ls.length p1, .slice a2 ss.length p2, .slice a3 os.length p3] t)).heap.size = w.heap.size + 1 := by simp
  rw [e] at h2
  exact ⟨h1.later ((Below.refl _ _).alloc (Nat.le_refl _) _), h2, ((Below.refl _ _).alloc (Nat.le_refl _) _).alloc (by simp) _⟩
namespace fnDone
open Go.Joins
set_option maxRecDepth 8000 in
set_option maxHeartbeats 1500000 in
theorem walk (ad : Option Addr) (len cap : Nat) (w : World) (hby : Bytes w ad len) :
    Calls Try.prog 6 #[.slice ad len cap] w fun e w' => e = .returned (.bool true) ∧ Below w.heap.size w w' := by
  have HBy := HIDk hby
  clear hby
  by_cases hbig : 1048576 < len
  · have d : decide ((1048576 : Int) < (len : Int)) = true := by simp; omega
    go_enter Try.func6, Try.ntmps6
    go_wp2_with fail
    refine (big_any ad len cap w).mono ?_
    rintro e w' ⟨rfl, rfl⟩
    go_wp2
    go_ret
    exact ⟨rfl, Below.refl _ _⟩
  have d : decide ((1048576 : Int) < (len : Int)) = false := by simp; omega
  go_enter Try.func6, Try.ntmps6
  go_wp2_with fail
  refine (big_any ad len cap w).mono ?_
  rintro e w' ⟨rfl, rfl⟩
  go_wp2_with fail
  refine (drawDo_any ad len cap w' HBy.out).mono ?_
  rintro e w1 ⟨a1, a2, a3, p1, p2, p3, ls, ss, os, o, rfl, hD, ⟨hN, ⟨l1, l2, l3⟩, fl, fs, fo⟩, hbr, hb1⟩
  have pl1 : ls.length ≤ 1048576 := by omega
  have ps1 : ss.length ≤ 1048576 := by omega
  have po1 : os.length ≤ 1048576 := by omega
  have HFL := HIDk fl
  have HFS := HIDk fs
  have HFO := HIDk fo
  have HNl := HIDk hN
  have HB1 := HIDk hb1
  have HSM := HIDk hbr.small
  have HBR := HIDk hbr
  have HL3 := HIDk l3
  obtain ⟨X3, hX3⟩ : ∃ X3, X3 = (w1.alloc (.cells #[.slice a1 ls.length p1, .slice a2 ss.length p2, .slice a3 os.length p3] 33)).alloc (.cells #[.int .i64 o.k, .string o.n, .string o.t, .string o.d] 37) := ⟨_, rfl⟩
  have K3 : Hid (DN w1 a1 a2 a3 p1 p2 p3 ls ss os o X3) := by rw [hX3]; exact DN.new hD o _ _
  obtain ⟨q0, z0, z1, z2⟩ := K3.out.d.1
  obtain ⟨q1, y0, y1, y2, y3⟩ := K3.out.o
  rw [hX3] at z0 z1 z2 y0 y1 y2 y3
  clear hD fl fs fo hN hb1 hbr l1 l2 l3 HBy d hbig
  go_wp2_with fail
  rw [← hX3]
  clear hX3 q0 z0 z1 z2 q1 y0 y1 y2 y3
  refine (implDo_any _ _ _ _ _ _ ls ss os o X3 pl1 ps1 po1 K3.out.d.2 HFL.out HFS.out HFO.out HSM.out).mono ?_
  rintro e w2 ⟨v2, rfl, ⟨b1, b2, b3, r1, r2, r3, rfl, hS2, -⟩, hb2⟩
  obtain ⟨X4, hX4⟩ : ∃ X4, X4 = w2.alloc (.cells #[.slice b1 (dL ls ss os o).length r1, .slice b2 (dS ls ss os).length r2, .slice b3 (dO ls ss os o).length r3] 33) := ⟨_, rfl⟩
  have hb4 : Below w2.heap.size w2 X4 := by rw [hX4]; exact (Below.refl _ _).alloc (Nat.le_refl _) _
  have K4 := HIDk (K3.out.later (hb2.trans (hb4.mono hb2.size)))
  have A4 : Hid (BX w2.heap.size b1 b2 b3 r1 r2 r3 (dL ls ss os o) (dS ls ss os) (dO ls ss os o) X4) := by rw [hX4]; exact BX.new (dk_own hS2) _
  obtain ⟨q0, z0, z1, z2⟩ := K4.out.d.1
  obtain ⟨q1, y0, y1, y2, y3⟩ := K4.out.o
  rw [hX4] at z0 z1 z2 y0 y1 y2 y3
  clear hS2 hb2 hb4 K3
  go_wp2_with fail
  rw [← hX4]
  clear hX4 q0 z0 z1 z2 q1 y0 y1 y2 y3
  refine (specDo_any _ _ _ _ _ _ ls ss os o X4 pl1 ps1 po1 K4.out.d.2 HNl.out.2 HNl.out.1 HFL.out HFS.out HFO.out HSM.out).mono ?_
  rintro e w3 ⟨v3, rfl, ⟨c1, c2, c3, s1, s2, s3, rfl, hS3, -⟩, hb3⟩
  obtain ⟨X5, hX5⟩ : ∃ X5, X5 = w3.alloc (.cells #[.slice c1 (dL ls ss os o).length s1, .slice c2 (dS ls ss os).length s2, .slice c3 (dO ls ss os o).length s3] 33) := ⟨_, rfl⟩
  have hb5 : Below w3.heap.size w3 X5 := by rw [hX5]; exact (Below.refl _ _).alloc (Nat.le_refl _) _
  have K5 := HIDk (K4.out.later (hb3.trans (hb5.mono hb3.size)))
  have A5 := HIDk (A4.out.later (hb3.trans (hb5.mono hb3.size)))
  have hcc : (dC ls ss os o == dC ls ss os o) = true := by simp
  obtain ⟨q0, z0, z1, z2⟩ := K5.out.d.1
  rw [hX5] at z0 z1 z2
  clear hS3 hb3 hb5 K4 A4
  go_wp2_with fail
  rw [← hX5]
  clear hX5 q0 z0 z1 z2
  refine (specDiskOk_any _ _ _ _ _ _ ls ss os X5 pl1 ps1 po1 K5.out.d.2 HNl.out.1 HFL.out HFS.out HFO.out).mono ?_
  rintro e w4 ⟨rfl, hb4⟩
  have K6 := HIDk (K5.out.later hb4)
  have A6 := HIDk (A5.out.later hb4)
  clear hb4 K5 A5
  cases hq : diskB ls ss os with
  | false =>
    have HBe := HIDk (HB1.out.trans (K6.out.bel.mono HB1.out.size))
    go_wp2
    go_ret
    exact ⟨rfl, HBe.out⟩
  | true =>
    have HQ := HIDk hq
    have eC : dC ls ss os o = actC ls os o := by rw [dC, hq]; rfl
    have eL : dL ls ss os o = actL ls os o := by rw [dL, hq]; rfl
    have eS : dS ls ss os = ss := by rw [dS, hq]; rfl
    have eO : dO ls ss os o = actO ls os o := by rw [dO, hq]; rfl
    rw [eL, eS, eO] at A6
    rw [eC] at hcc ⊢
    clear eL eS eO eC hq
    by_cases hc : actC ls os o = 0
    · have HC := HIDk hc
      have A7 : Hid (BX w2.heap.size b1 b2 b3 r1 r2 r3 (doF ls o).1 ss (os ++ [o]) w4) := by
        have h := A6.out
        rw [(act_yes hc).1, (act_yes hc).2] at h
        exact h
      have HT := HIDk (done_told HQ.out hc)
      have HDA := HIDk (diskB_act HQ.out hc)
      have s1' := small60 (diskB_facts HDA.out).1
      have HFF : Hid (∀ f ∈ (doF ls o).1, f.n.size ≤ maxLen ∧ f.d.size ≤ 4194304) := fun f hf => ⟨(s1'.2 f hf).1, by have := (s1'.2 f hf).2; omega⟩
      obtain ⟨F, hF⟩ : ∃ F, F = (doF ls o).1 := ⟨_, rfl⟩
      rw [← hF] at A7 HT HDA HFF s1'
      obtain ⟨O, hO⟩ : ∃ O, O = os ++ [o] := ⟨_, rfl⟩
      have HOL : Hid (O.length = os.length + 1) := by rw [hO]; exact List.length_append
      rw [← hO] at A7 HDA
      have pf1 : F.length ≤ 1048576 := by omega
      have HOO : Hid (∀ x ∈ O, x.small) := fun x hx => by
        rw [hO] at hx
        rcases List.mem_append.1 hx with h | h
        · exact HFO.out x h
        · rw [List.mem_singleton.1 h]; exact HSM.out
      have po2 : O.length ≤ 1048576 := by have := HOL.out; have := HL3.out; omega
      rw [hc]
      clear hc hcc A6 s1' hF HC hO
      obtain ⟨q0, z0, z1, z2⟩ := A7.out.1
      obtain ⟨q1, y0, y1, y2, y3⟩ := K6.out.o
      go_wp2_with fail
      clear q0 z0 z1 z2 q1 y0 y1 y2 y3
      refine (implReadFile_any _ _ _ _ _ _ F ss O o.n w4 pf1 ps1 po2 A7.out.2 HFF.out HFS.out HOO.out).mono ?_
      rintro e w5 ⟨rfl, hb5⟩
      have eB : readB F ss O o.n = hasF F o.n := by rw [readB, HDA.out]; rfl
      have eD : readD F ss O o.n = dataF F o.n := by rw [readD, HDA.out]; rfl
      rw [eB, eD]
      have K7 := HIDk (K6.out.later hb5)
      have A8 := HIDk (A7.out.later hb5)
      clear hb5 K6 A7 eB eD
      obtain ⟨q0, z0, z1, z2⟩ := K7.out.d.1
      obtain ⟨q1, y0, y1, y2, y3⟩ := K7.out.o
      go_wp2_with fail
      clear q0 z0 z1 z2 q1 y0 y1 y2 y3
      refine (implReadFile_any _ _ _ _ _ _ ls ss os o.n w5 pl1 ps1 po1 K7.out.d.2 HFL.out HFS.out HFO.out).mono ?_
      rintro e w6 ⟨rfl, hb6⟩
      have eB : readB ls ss os o.n = hasF ls o.n := by rw [readB, HQ.out]; rfl
      have eD : readD ls ss os o.n = dataF ls o.n := by rw [readD, HQ.out]; rfl
      rw [eB, eD]
      have K8 := HIDk (K7.out.later hb6)
      have A9 := HIDk (A8.out.later hb6)
      clear hb6 K7 A8 eB eD
      have hsz : (dataF ls o.n).size ≤ 4194304 := dataF_small (fun f hf => (HFL.out f hf).2) 
      have hszd : o.d.size ≤ 20 := HBR.out.2.2
      have hsum : (9223372036854775807 < (dataF ls o.n).size + o.d.size) = False := by simp; omega
      obtain ⟨q0, z0, z1, z2⟩ := A9.out.1
      obtain ⟨q1, y0, y1, y2, y3⟩ := K8.out.o
      rcases HT.out with ⟨k1, h1, h2⟩ | ⟨k1, h1, h2, h3⟩ | ⟨k1, h1⟩
      · rw [h1, h2]
        rw [k1] at y0
        have hself : ((dataF ls o.n ++ o.d).toList == (dataF ls o.n ++ o.d).toList) = true := by simp
        go_wp2_with fail
        clear q0 z0 z1 z2 q1 y0 y1 y2 y3 hself hsum hsz hszd
        refine (implDiskOk_any _ _ _ _ _ _ F ss O w6 pf1 ps1 po2 A9.out.2 HFF.out HFS.out HOO.out).mono ?_
        rintro e u1 ⟨rfl, hc1⟩
        rw [HDA.out]
        have KA := HIDk (K8.out.later hc1)
        have AA := HIDk (A9.out.later hc1)
        clear hc1 K8 A9
        obtain ⟨q0, z0, z1, z2⟩ := KA.out.d.1
        obtain ⟨q1, y0, y1, y2⟩ := AA.out.1
        go_wp2_with fail
        clear q0 z0 z1 z2 q1 y0 y1 y2
        refine (sameFiles_any _ _ _ _ ss ss u1 ps1 ps1 AA.out.2.safe KA.out.d.2.safe).mono ?_
        rintro e u2 ⟨rfl, hc2⟩
        rw [same_refl]
        have KB := HIDk (KA.out.later hc2)
        have AB := HIDk (AA.out.later hc2)
        have HBe := HIDk (HB1.out.trans (KB.out.bel.mono HB1.out.size))
        obtain ⟨q0, z0, z1, z2⟩ := KB.out.d.1
        obtain ⟨q1, y0, y1, y2⟩ := AB.out.1
        rw [HOL.out] at y2
        have hle : ((os.length : Int) + 1 == (os.length : Int) + 1) = true := by simp
        clear KA AA KB AB hc2
        go_wp2
        go_ret
        exact ⟨rfl, HBe.out⟩
      · rw [k1] at y0
        go_wp2_with fail
        clear q0 z0 z1 z2 q1 y0 y1 y2 y3 hsum hsz hszd
        refine (implReadFile_any _ _ _ _ _ _ F ss O o.t w6 pf1 ps1 po2 A9.out.2 HFF.out HFS.out HOO.out).mono ?_
        rintro e w7 ⟨rfl, hb7⟩
        have eB : readB F ss O o.t = true := by rw [readB, HDA.out, h1]; rfl
        have eD : readD F ss O o.t = dataF ls o.n := by rw [readD, HDA.out]; exact h2
        rw [eB, eD]
        have K9 := HIDk (K8.out.later hb7)
        have A10 := HIDk (A9.out.later hb7)
        clear hb7 K8 A9 eB eD
        have hself : ((dataF ls o.n).toList == (dataF ls o.n).toList) = true := by simp
        obtain ⟨q0, z0, z1, z2⟩ := A10.out.1
        obtain ⟨q1, y0, y1, y2, y3⟩ := K9.out.o
        rw [k1] at y0
        obtain ⟨b, hb⟩ : ∃ b, b = (o.t.toList == o.n.toList) := ⟨_, rfl⟩
        cases he : (o.t.toList == o.n.toList) with
        | true =>
          go_wp2_with fail
          clear q0 z0 z1 z2 q1 y0 y1 y2 y3 hself he hb
          refine (implDiskOk_any _ _ _ _ _ _ F ss O w7 pf1 ps1 po2 A10.out.2 HFF.out HFS.out HOO.out).mono ?_
          rintro e u1 ⟨rfl, hc1⟩
          rw [HDA.out]
          have KA := HIDk (K9.out.later hc1)
          have AA := HIDk (A10.out.later hc1)
          clear hc1 K9 A10
          obtain ⟨q0, z0, z1, z2⟩ := KA.out.d.1
          obtain ⟨q1, y0, y1, y2⟩ := AA.out.1
          go_wp2_with fail
          clear q0 z0 z1 z2 q1 y0 y1 y2
          refine (sameFiles_any _ _ _ _ ss ss u1 ps1 ps1 AA.out.2.safe KA.out.d.2.safe).mono ?_
          rintro e u2 ⟨rfl, hc2⟩
          rw [same_refl]
          have KB := HIDk (KA.out.later hc2)
          have AB := HIDk (AA.out.later hc2)
          have HBe := HIDk (HB1.out.trans (KB.out.bel.mono HB1.out.size))
          obtain ⟨q0, z0, z1, z2⟩ := KB.out.d.1
          obtain ⟨q1, y0, y1, y2⟩ := AB.out.1
          rw [HOL.out] at y2
          have hle : ((os.length : Int) + 1 == (os.length : Int) + 1) = true := by simp
          clear KA AA KB AB hc2
          go_wp2
          go_ret
          exact ⟨rfl, HBe.out⟩
        | false =>
          go_wp2_with fail
          clear q0 z0 z1 z2 q1 y0 y1 y2 y3 hself he hb
          refine (implDiskOk_any _ _ _ _ _ _ F ss O w7 pf1 ps1 po2 A10.out.2 HFF.out HFS.out HOO.out).mono ?_
          rintro e u1 ⟨rfl, hc1⟩
          rw [HDA.out]
          have KA := HIDk (K9.out.later hc1)
          have AA := HIDk (A10.out.later hc1)
          clear hc1 K9 A10
          obtain ⟨q0, z0, z1, z2⟩ := KA.out.d.1
          obtain ⟨q1, y0, y1, y2⟩ := AA.out.1
          go_wp2_with fail
          clear q0 z0 z1 z2 q1 y0 y1 y2
          refine (sameFiles_any _ _ _ _ ss ss u1 ps1 ps1 AA.out.2.safe KA.out.d.2.safe).mono ?_
          rintro e u2 ⟨rfl, hc2⟩
          rw [same_refl]
          have KB := HIDk (KA.out.later hc2)
          have AB := HIDk (AA.out.later hc2)
          have HBe := HIDk (HB1.out.trans (KB.out.bel.mono HB1.out.size))
          obtain ⟨q0, z0, z1, z2⟩ := KB.out.d.1
          obtain ⟨q1, y0, y1, y2⟩ := AB.out.1
          rw [HOL.out] at y2
          have hle : ((os.length : Int) + 1 == (os.length : Int) + 1) = true := by simp
          clear KA AA KB AB hc2
          go_wp2
          go_ret
          exact ⟨rfl, HBe.out⟩
      · rw [h1]
        rw [k1] at y0
        go_wp2_with fail
        clear q0 z0 z1 z2 q1 y0 y1 y2 y3 hsum hsz hszd
        refine (implDiskOk_any _ _ _ _ _ _ F ss O w6 pf1 ps1 po2 A9.out.2 HFF.out HFS.out HOO.out).mono ?_
        rintro e u1 ⟨rfl, hc1⟩
        rw [HDA.out]
        have KA := HIDk (K8.out.later hc1)
        have AA := HIDk (A9.out.later hc1)
        clear hc1 K8 A9
        obtain ⟨q0, z0, z1, z2⟩ := KA.out.d.1
        obtain ⟨q1, y0, y1, y2⟩ := AA.out.1
        go_wp2_with fail
        clear q0 z0 z1 z2 q1 y0 y1 y2
        refine (sameFiles_any _ _ _ _ ss ss u1 ps1 ps1 AA.out.2.safe KA.out.d.2.safe).mono ?_
        rintro e u2 ⟨rfl, hc2⟩
        rw [same_refl]
        have KB := HIDk (KA.out.later hc2)
        have AB := HIDk (AA.out.later hc2)
        have HBe := HIDk (HB1.out.trans (KB.out.bel.mono HB1.out.size))
        obtain ⟨q0, z0, z1, z2⟩ := KB.out.d.1
        obtain ⟨q1, y0, y1, y2⟩ := AB.out.1
        rw [HOL.out] at y2
        have hle : ((os.length : Int) + 1 == (os.length : Int) + 1) = true := by simp
        clear KA AA KB AB hc2
        go_wp2
        go_ret
        exact ⟨rfl, HBe.out⟩
    · have A7 : Hid (BX w2.heap.size b1 b2 b3 r1 r2 r3 ls ss os w4) := by
        have h := A6.out
        rw [(act_no rfl hc).1, (act_no rfl hc).2] at h
        exact h
      have hc3 : (actC ls os o == 0) = false := by simpa using hc
      obtain ⟨q0, z0, z1, z2⟩ := K6.out.d.1
      obtain ⟨q1, y0, y1, y2⟩ := A7.out.1
      clear A6
      go_wp2_with fail
      clear q0 z0 z1 z2 q1 y0 y1 y2
      refine (sameFiles_any _ _ _ _ ls ls w4 pl1 pl1 A7.out.2.live K6.out.d.2.live).mono ?_
      rintro e w5 ⟨rfl, hb5⟩
      rw [same_refl]
      have K7 := HIDk (K6.out.later hb5)
      have A8 := HIDk (A7.out.later hb5)
      clear hb5 K6 A7
      obtain ⟨q0, z0, z1, z2⟩ := K7.out.d.1
      obtain ⟨q1, y0, y1, y2⟩ := A8.out.1
      go_wp2_with fail
      clear q0 z0 z1 z2 q1 y0 y1 y2
      refine (sameFiles_any _ _ _ _ ss ss w5 ps1 ps1 A8.out.2.safe K7.out.d.2.safe).mono ?_
      rintro e w6 ⟨rfl, hb6⟩
      rw [same_refl]
      have K8 := HIDk (K7.out.later hb6)
      have A9 := HIDk (A8.out.later hb6)
      clear hb6 K7 A8
      have HBe := HIDk (HB1.out.trans (K8.out.bel.mono HB1.out.size))
      obtain ⟨q0, z0, z1, z2⟩ := K8.out.d.1
      obtain ⟨q1, y0, y1, y2⟩ := A9.out.1
      have hle : ((os.length : Int) == (os.length : Int)) = true := by simp
      clear K8 A9
      go_wp2
      go_ret
      exact ⟨rfl, HBe.out⟩
theorem own : ownKnob Try.prog.godebug = none := by kernel_rfl
theorem laidOut : laidOutB Try.prog = true := by kernel_rfl

set_option maxRecDepth 100000 in
theorem lifted (os : Os) (started : os.Started) (H : Type) (enc : TypeId × Value → H) :
    ReturnsInHanded {} Try.checked os 6 .any (Rows.fnDoneSpec.pre6 enc Try.prog Try.f6 Rows.fnDoneRow.domain false) (Rows.fnDoneSpec.post enc Try.prog Try.f6 false true false false) := by
  refine returnsInHanded_of_change (C := Try.checked) own started (by kernel_rfl) Try.func6
    (ChangeSpec.witness6 (enc := enc) (C := Try.checked) false ⟨#[], #[.slice none 0 0], []⟩ 8 (by kernel_rfl) (by kernel_rfl) (by kernel_rfl) (by kernel_rfl)) ?_
  intro W base args ds gs before hval0 hW hcnd _
  have hval : ∀ (j : Nat) t v, Try.f6.params[j]? = some t → args[j]? = some v → Value.okWide Try.prog W .any base t v := hval0
  have hW' := hW
  obtain ⟨p, q, hA0, hV, rfl, hfz, hnd⟩ := hW
  have hA : DataW.TrodAll enc Try.prog W 0 (fun _ => true) true Try.f6.params.toList args.toList ds p := hA0
  rw [Try.params6] at hA hval
  obtain ⟨v0, vs0, d0, ds0, p0, q0, hargs, rfl, rfl, h0, r0⟩ := trodAll_cons hA
  obtain ⟨rfl, rfl, rfl⟩ := trodAll_nil r0
  obtain rfl : args = #[v0] := by cases args; simp_all
  obtain ⟨rfl, rfl⟩ := trodVars_none hV
  have k0 := h0
  have lt0 : ∀ x ∈ p0, x.block < W.heap.size := by obtain ⟨m, hm⟩ := k0; exact DataW.trod_lt m _ _ _ hm
  obtain ⟨ad0, len0, cap0, hv0⟩ := okWide_slice Try.underlying49 (hval 0 49 v0 rfl rfl)
  subst hv0
  obtain ⟨fuel0, hf0⟩ := h0
  have hby0 := open_bytes (by simpa [Value.cells] using hf0)
  clear hA0 hval0
  refine (walk ad0 len0 cap0 W hby0).mono fun e W' ⟨he, bel⟩ => ?_
  subst he
  exact ⟨_, rfl, _, _, _, [], _, [], hW', trodAll_mk1 (shut_bool Try.underlying4 _), (trodAll_cons_mk (Below.trod laidOut (by kernel_rfl) (of_decide_eq_true (by kernel_rfl)) k0 bel lt0) trodAll_mk0), rfl, bel.frame _, fun h => by cases h⟩

theorem over : Rows.fnDoneRow.holds Try.pinned (OpenSpec.ofChange Rows.fnDoneSpec) :=
  OpenClaim.holds_of_wide 6 Try.f6 rfl rfl rfl rfl rfl rfl rfl ⟨rfl, rfl, rfl, rfl, rfl⟩ rfl rfl rfl rfl rfl (by kernel_rfl) Try.func6 (by kernel_rfl)
    (of_decide_eq_true (by kernel_rfl)) (by unfold Func.isWrapper; first | (rw [if_pos (by decide +kernel)]; kernel_rfl) | (rw [if_neg (by decide +kernel)]; exact ⟨rfl, rfl⟩))
    (fun os started H enc _ => lifted os started H enc)

end fnDone
theorem FnDone_holds : Rows.FnDoneSaid := fnDone.over
end Go.Proofs.Ytbfimfmfdllejaa
