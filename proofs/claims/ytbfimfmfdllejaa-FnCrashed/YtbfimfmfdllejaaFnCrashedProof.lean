/- Proved here: FnCrashed answers true for every slice of bytes and leaves it as it was, with no condition on it. -/
import Derived.Test.YtbfimfmfdllejaaCrashLaw
import Derived.Deep.RegionHeld3
namespace Go.Proofs.Ytbfimfmfdllejaa
open Go.ChangeShapes Go.WideShapes Go.ChangeAt Go.RowKit Go.Maps
set_option linter.unusedVariables false
/-- the disk in its box, its rows -/
structure CW (w1 : World) (a1 a2 a3 : Option Addr) (p1 p2 p3 : Nat) (ls ss : List Fl) (os : List Dop) (W : World) : Prop where
  cn : Cn w1.heap.size (.slice a1 ls.length p1) (.slice a2 ss.length p2) (.slice a3 os.length p3) W
  dk : Dk w1 a1 a2 a3 ls ss os W
theorem CW.later {w1 W W' : World} {a1 a2 a3 : Option Addr} {p1 p2 p3 : Nat} {ls ss : List Fl} {os : List Dop} (h : CW w1 a1 a2 a3 p1 p2 p3 ls ss os W) (hB : Below W.heap.size W W') : CW w1 a1 a2 a3 p1 p2 p3 ls ss os W' := ⟨h.cn.later hB, h.dk.later hB⟩
/-- all four disks -/
structure FW (w1 : World) (a1 a2 a3 : Option Addr) (p1 p2 p3 : Nat) (ls ss : List Fl) (os : List Dop) (na nb ns : Nat) (b1 b2 b3 : Option Addr) (r1 r2 r3 : Nat) (d1 d2 d3 : Option Addr) (q1 q2 q3 : Nat) (g1 g2 g3 : Option Addr) (t1 t2 t3 : Nat) (W : World) : Prop where
  k : CW w1 a1 a2 a3 p1 p2 p3 ls ss os W
  ca : Cn na (.slice b1 ls.length r1) (.slice b2 ls.length r2) (.slice b3 0 r3) W
  oa : OwnD W 0 b1 b2 b3 ls ls []
  cb : Cn nb (.slice d1 ss.length q1) (.slice d2 ss.length q2) (.slice d3 0 q3) W
  ob : OwnD W 0 d1 d2 d3 ss ss []
  cs : Cn ns (.slice g1 ls.length t1) (.slice g2 ls.length t2) (.slice g3 0 t3) W
  os : OwnD W 0 g1 g2 g3 ls ls []
theorem FW.later {w1 W W' : World} {a1 a2 a3 : Option Addr} {p1 p2 p3 : Nat} {ls ss : List Fl} {os : List Dop} {na nb ns : Nat} {b1 b2 b3 : Option Addr} {r1 r2 r3 : Nat} {d1 d2 d3 : Option Addr} {q1 q2 q3 : Nat} {g1 g2 g3 : Option Addr} {t1 t2 t3 : Nat} (h : FW w1 a1 a2 a3 p1 p2 p3 ls ss os na nb ns b1 b2 b3 r1 r2 r3 d1 d2 d3 q1 q2 q3 g1 g2 g3 t1 t2 t3 W) (hB : Below W.heap.size W W') : FW w1 a1 a2 a3 p1 p2 p3 ls ss os na nb ns b1 b2 b3 r1 r2 r3 d1 d2 d3 q1 q2 q3 g1 g2 g3 t1 t2 t3 W' :=
  ⟨h.k.later hB, h.ca.later hB, h.oa.below hB, h.cb.later hB, h.ob.below hB, h.cs.later hB, h.os.below hB⟩
theorem keep3 {n : Nat} {w' w'' : World} {a b c : Value} (h : w'.cell? ⟨n, 0, none⟩ = some a ∧ w'.cell? ⟨n, 1, none⟩ = some b ∧ w'.cell? ⟨n, 2, none⟩ = some c ∧ n < w'.heap.size) (hB : Below w'.heap.size w' w'') : w''.cell? ⟨n, 0, none⟩ = some a ∧ w''.cell? ⟨n, 1, none⟩ = some b ∧ w''.cell? ⟨n, 2, none⟩ = some c ∧ n < w''.heap.size :=
  ⟨kept hB h.2.2.2 h.1, kept hB h.2.2.2 h.2.1, kept hB h.2.2.2 h.2.2.1, Nat.lt_of_lt_of_le h.2.2.2 hB.size⟩
theorem info_i64 : (Try.prog.info? 2).map (fun i => (i.zero, i.size, i.bytes)) = some (some (.int .i64 0), 1, 8) := by kernel_rfl
theorem upto_succ (k : Nat) : rowsK (upto (k + 1)) = rowsK (upto k) ++ [.int .i64 (k : Int)] := by simp [rowsK, upto, List.range_succ]
theorem slK_own {W : World} {base n : Nat} {e : TypeId} {v : Value} {xs : List Int} (h : W.ownsRow base e 1 v n (rowsK xs)) (hn : n = xs.length) : ∃ ad cap, v = .slice ad xs.length cap ∧ SlK W ad xs := by
  subst hn
  have h2 := h
  rcases h.2 with ⟨rfl, h0⟩ | ⟨g, cp, cur, rfl, hbg, hg, hnc, -⟩
  · have : xs = [] := List.length_eq_zero_iff.1 h0
    subst this
    exact ⟨none, 0, rfl, .inl rfl⟩
  · refine ⟨some ⟨g, 0, none⟩, cp, rfl, .inr ⟨g, 0, rfl, (h2.lt g rfl).2, fun i hi => ?_⟩⟩
    rw [Nat.zero_add, h2.cellAt i (by simp; omega)]
    simp [rowsK, hi]
/-- one more number behind those that are there -/
theorem appK1 (W : World) (base : Nat) (v : Value) (k x : Nat) (ty : TypeId) (h : W.ownsRow base 2 1 v k (rowsK (upto k))) (hb : base ≤ W.heap.size) (hx : W.cell? ⟨x, 0, none⟩ = some (.int .i64 (k : Int))) (hl : k ≤ 1048576) :
    ∃ ad' cap' w', (Builtin.append_ #[42, 42] ty #[v, .slice (some ⟨x, 0, none⟩) 1 1]).run Try.prog W = .ok (.slice ad' (k + 1) cap') w' ∧ w'.ownsRow base 2 1 (.slice ad' (k + 1) cap') (k + 1) (rowsK (upto (k + 1))) ∧ W.grownBy w' v.ownBlock := by
  obtain ⟨iF, hiF, z0, z1, z2⟩ := info_parts info_i64
  obtain ⟨v', w', hr, h2, h3, -, -⟩ := run_append_own_at (P := Try.prog) W base 42 ty 2 iF (.int .i64 0) 1 8 Try.underlying42 hiF z0 z1 z2 rfl (by decide) _ _ _ h ⟨x, 0, none⟩ 1 1 [.int .i64 (k : Int)] rfl (fun j u hu => by
    cases j with
    | zero => simp at hu; subst hu; rw [add_noneD]; exact hx
    | succ j => simp at hu) (fun u hu => by simp at hu; subst hu; rfl) (by unfold maxLen; omega) (by omega) hb
  rw [← upto_succ] at h2
  obtain ⟨ad', cap', e, -⟩ := slK_own h2 (by rw [upto_len])
  rw [upto_len] at e
  subst e
  exact ⟨ad', cap', w', hr, h2, h3⟩
theorem own_i64_new (w : World) : (w.alloc (.cells #[] 2)).ownsRow w.heap.size 2 1 (.slice (some ⟨w.heap.size, 0, none⟩) 0 0) 0 (rowsK (upto 0)) := by
  refine ⟨rfl, .inr ⟨w.heap.size, 0, #[], rfl, Nat.le_refl _, heap_alloc_new _ _, ?_⟩⟩
  simp [rowsK, upto]
namespace fnCrashed
open Go.Joins
set_option maxRecDepth 8000 in
set_option maxHeartbeats 4000000 in
theorem walk (ad : Option Addr) (len cap : Nat) (w : World) (hby : Bytes w ad len) :
    Calls Try.prog 5 #[.slice ad len cap] w fun e w' => e = .returned (.bool true) ∧ Below w.heap.size w w' := by
  have HBy := HIDk hby
  clear hby
  by_cases hbig : 1048576 < len
  · have d : decide ((1048576 : Int) < (len : Int)) = true := by simp; omega
    go_enter Try.func5, Try.ntmps5
    go_wp2_with fail
    refine (big_any ad len cap w).mono ?_
    rintro e w' ⟨rfl, rfl⟩
    go_wp2
    go_ret
    exact ⟨rfl, Below.refl _ _⟩
  have d : decide ((1048576 : Int) < (len : Int)) = false := by simp; omega
  go_enter Try.func5, Try.ntmps5
  go_wp2_with fail
  refine (big_any ad len cap w).mono ?_
  rintro e w' ⟨rfl, rfl⟩
  go_wp2_with fail
  refine (drawDisk_any ad len cap w' HBy.out).mono ?_
  rintro e w1 ⟨a1, a2, a3, p1, p2, p3, ls, ss, os, rfl, hD, hN, ⟨l1, l2, l3⟩, fl, fs, fo, hb1⟩
  have pl1 : ls.length ≤ 1048576 := by omega
  have ps1 : ss.length ≤ 1048576 := by omega
  have po1 : os.length ≤ 1048576 := by omega
  have HFL := HIDk fl
  have HFS := HIDk fs
  have HFO := HIDk fo
  have HNl := HIDk hN
  have HB1 := HIDk hb1
  obtain ⟨X3, hX3⟩ : ∃ X3, X3 = w1.alloc (.cells #[.slice a1 ls.length p1, .slice a2 ss.length p2, .slice a3 os.length p3] 33) := ⟨_, rfl⟩
  have K3 : Hid (CW w1 a1 a2 a3 p1 p2 p3 ls ss os X3) := by
    refine ⟨by rw [hX3]; exact cn_new _ _ _ _ _, hD.later (by rw [hX3]; exact (Below.refl _ _).alloc (Nat.le_refl _) _)⟩
  clear hD fl fs fo hN hb1 d hbig HBy
  go_wp2_with fail
  rw [← hX3]
  clear hX3
  have hdr : Below X3.heap.size X3 X3.drew := (Below.refl _ _).drew
  have K4 := HIDk (K3.out.later hdr)
  clear K3 hdr
  have H0 : X3.drew.cell? ⟨w1.heap.size, 0, none⟩ = some (.slice a1 ls.length p1) ∧ X3.drew.cell? ⟨w1.heap.size, 1, none⟩ = some (.slice a2 ss.length p2) ∧ X3.drew.cell? ⟨w1.heap.size, 2, none⟩ = some (.slice a3 os.length p3) ∧ w1.heap.size < X3.drew.heap.size := ⟨K4.out.cn.c0, K4.out.cn.c1, K4.out.cn.c2, K4.out.cn.lt⟩
  cases hq : diskB ls ss os with
  | false =>
    go_region_held3 (fun w' => w'.cell? ⟨w1.heap.size, 0, none⟩ = some (.slice a1 ls.length p1) ∧ w'.cell? ⟨w1.heap.size, 1, none⟩ = some (.slice a2 ss.length p2) ∧ w'.cell? ⟨w1.heap.size, 2, none⟩ = some (.slice a3 os.length p3) ∧ w1.heap.size < w'.heap.size)
      (first | assumption | exact keep3 (by assumption) hb4 | exact keep3 (by assumption) hb5 | exact H0)
      (first | (go_at_call 25; refine (implDiskOk_any _ _ _ _ _ _ ls ss os _ pl1 ps1 po1 (dk_self K4.out.dk) HFL.out HFS.out HFO.out).mono ?_; rintro e w4 ⟨rfl, hb4⟩; rw [hq]) | (go_at_call 26; refine (specDiskOk_any _ _ _ _ _ _ ls ss os _ pl1 ps1 po1 (dk_self (K4.out.later hb4).dk) HNl.out.1 HFL.out HFS.out HFO.out).mono ?_; rintro e w5 ⟨rfl, hb5⟩; rw [hq]))
    rename_i hH
    have K5 := HIDk ((K4.out.later hb4).later hb5)
    have HQ := HIDk hq
    clear hH H0 hb4 hb5 K4 hq
    obtain ⟨X6, hX6⟩ : ∃ X6, X6 = w5.alloc (.cells #[] 2) := ⟨_, rfl⟩
    have R6 : Hid (X6.ownsRow w5.heap.size 2 1 (.slice (some ⟨w5.heap.size, 0, none⟩) 0 0) 0 (rowsK (upto 0)) ∧ Below w5.heap.size w5 X6) := by rw [hX6]; exact ⟨own_i64_new w5, (Below.refl _ _).alloc (Nat.le_refl _) _⟩
    go_wp2_with fail
    rw [← hX6]
    clear hX6
    go_loopw [4, 5] (fun v i wr => ∃ (k : Nat) (adv : Option Addr) (cv : Nat), k ≤ os.length ∧ v = .slice adv k cv ∧ i = .int .i64 (k : Int) ∧ Hid (wr.ownsRow w5.heap.size 2 1 (.slice adv k cv) k (rowsK (upto k)) ∧ Below w5.heap.size w5 wr)) (fun _ i _ => os.length - (intOf i).toNat)
    case atStart => exact ⟨0, _, _, Nat.zero_le _, rfl, rfl, R6⟩
    case round =>
      clear R6
      obtain ⟨k, adv, cv, hk, rfl, rfl, HR⟩ := hrel
      have Kr := HIDk (K5.out.later HR.out.2)
      obtain ⟨ltd, z0, z1, z2⟩ := Kr.out.cn
      by_cases hlt : k < os.length
      · have k1 : decide ((k : Int) < (os.length : Int)) = true := by simp; omega
        have k2 : decide (k < os.length) = true := by simpa using hlt
        obtain ⟨Y, hY⟩ : ∃ Y, Y = wr.alloc (.cells #[.int .i64 (k : Int)] 2) := ⟨_, rfl⟩
        have hbY : Below wr.heap.size wr Y := by rw [hY]; exact (Below.refl _ _).alloc (Nat.le_refl _) _
        have hcY : Y.cell? ⟨wr.heap.size, 0, none⟩ = some (.int .i64 (k : Int)) := by rw [hY]; simp
        have hoY := own_later HR.out.1 hbY
        have hsY : w5.heap.size ≤ Y.heap.size := Nat.le_trans HR.out.2.size hbY.size
        obtain ⟨ad', cap', w7, hr7, hown7, hg7⟩ := appK1 Y w5.heap.size _ k wr.heap.size 42 hoY hsY hcY (by omega)
        have HR7 := HIDk hr7
        have HN7 : Hid (w7.ownsRow w5.heap.size 2 1 (.slice ad' (k + 1) cap') (k + 1) (rowsK (upto (k + 1))) ∧ Below w5.heap.size w5 w7) := ⟨hown7, (HR.out.2.trans (hbY.mono HR.out.2.size)).grown hg7 hsY (fun i hi => (hoY.lt i hi).1)⟩
        clear hbY hcY hoY hsY hr7 hown7 hg7 HR Kr
        go_wp2_with (at_builtin; rw [← hY]; clear hY; refine wpList_append_run rfl _ _ 42 42 rfl (.slice adv k cv) (.slice (some ⟨wr.heap.size, 0, none⟩) 1 1) (.slice ad' (k + 1) cap') w7 rfl rfl HR7.out ?_)
        go_wp2
        go_roundw
        case rel => exact ⟨k + 1, _, _, by omega, rfl, by go_num, HN7⟩
        case measure => simp [intOf]; omega
      · obtain rfl : k = os.length := by omega
        have k1 : decide ((os.length : Int) < (os.length : Int)) = false := by simp
        obtain ⟨ad2, c2', e2, hsk⟩ := slK_own HR.out.1 (by rw [upto_len])
        rw [upto_len] at e2
        injection e2 with e2 _ e3
        subst e2 e3
        have HCA : Hid (Calls Try.prog 20 #[.agg #[.slice a1 ls.length p1, .slice a2 ss.length p2, .slice a3 os.length p3], .slice adv os.length cv, .int .i64 1099511627776] wr (CrTo wr ([] : List Fl) false)) := by
          have h := implCrash_any a1 a2 a3 adv p1 p2 p3 cv ls ss os (upto os.length) 1099511627776 wr pl1 ps1 po1 (by rw [upto_len]; omega) (dk_self Kr.out.dk) HFL.out HFS.out HFO.out hsk
          rw [(crash_bad HQ.out).1, (crash_bad HQ.out).2, upto_len] at h
          exact h
        clear hsk HR hk hlt
        go_wp2_with fail
        refine HCA.out.mono ?_
        rintro e w7 ⟨v7, rfl, ⟨b1, b2, b3, r1, r2, r3, rfl, hS7, -⟩, hb7⟩
        have K7 := HIDk (Kr.out.later hb7)
        obtain ⟨XA, hXA⟩ : ∃ XA, XA = w7.alloc (.cells #[.slice b1 0 r1, .slice b2 0 r2, .slice b3 0 r3] 33) := ⟨_, rfl⟩
        have hbA : Below w7.heap.size w7 XA := by rw [hXA]; exact (Below.refl _ _).alloc (Nat.le_refl _) _
        have KA := HIDk (K7.out.later hbA)
        have CA : Hid (Cn w7.heap.size (.slice b1 0 r1) (.slice b2 0 r2) (.slice b3 0 r3) XA ∧ OwnD XA 0 b1 b2 b3 ([] : List Fl) ([] : List Fl) []) := ⟨by rw [hXA]; exact cn_new _ _ _ _ _, (hS7.below hbA).mono (Nat.zero_le _)⟩
        clear hb7 hS7 hbA Kr K7 HCA ltd z0 z1 z2
        obtain ⟨ltd, z0, z1, z2⟩ := KA.out.cn
        rw [hXA] at z0 z1 z2
        go_wp2_with fail
        rw [← hXA]
        clear hXA ltd z0 z1 z2
        have HCB : Hid (Calls Try.prog 20 #[.agg #[.slice a1 ls.length p1, .slice a2 ss.length p2, .slice a3 os.length p3], .slice none 0 0, .int .i64 0] XA (CrTo XA ([] : List Fl) false)) := by
          have h := implCrash_any a1 a2 a3 none p1 p2 p3 0 ls ss os [] 0 XA pl1 ps1 po1 (by simp) (dk_self KA.out.dk) HFL.out HFS.out HFO.out (.inl rfl)
          rw [(crash_bad HQ.out).1, (crash_bad HQ.out).2] at h
          exact h
        refine HCB.out.mono ?_
        rintro e w8 ⟨v8, rfl, ⟨d1, d2, d3, q1, q2, q3, rfl, hS8, -⟩, hb8⟩
        have K8 := HIDk (KA.out.later hb8)
        obtain ⟨XB, hXB⟩ : ∃ XB, XB = w8.alloc (.cells #[.slice d1 0 q1, .slice d2 0 q2, .slice d3 0 q3] 33) := ⟨_, rfl⟩
        have hbB : Below w8.heap.size w8 XB := by rw [hXB]; exact (Below.refl _ _).alloc (Nat.le_refl _) _
        have KB := HIDk (K8.out.later hbB)
        have CA2 : Hid (Cn w7.heap.size (.slice b1 0 r1) (.slice b2 0 r2) (.slice b3 0 r3) XB ∧ OwnD XB 0 b1 b2 b3 ([] : List Fl) ([] : List Fl) []) := ⟨(CA.out.1.later hb8).later hbB, (CA.out.2.below hb8).below hbB⟩
        have CB : Hid (Cn w8.heap.size (.slice d1 0 q1) (.slice d2 0 q2) (.slice d3 0 q3) XB ∧ OwnD XB 0 d1 d2 d3 ([] : List Fl) ([] : List Fl) []) := ⟨by rw [hXB]; exact cn_new _ _ _ _ _, (hS8.below hbB).mono (Nat.zero_le _)⟩
        clear hb8 hS8 hbB KA K8 HCB CA
        obtain ⟨ltd, z0, z1, z2⟩ := KB.out.cn
        rw [hXB] at z0 z1 z2
        go_wp2_with fail
        rw [← hXB]
        clear hXB ltd z0 z1 z2
        refine (implDiskOk_any _ _ _ _ _ _ ls ss os XB pl1 ps1 po1 (dk_self KB.out.dk) HFL.out HFS.out HFO.out).mono ?_
        rintro e w9 ⟨rfl, hb9⟩
        rw [HQ.out]
        have K9 := HIDk (KB.out.later hb9)
        have CA9 : Hid (Cn w7.heap.size (.slice b1 0 r1) (.slice b2 0 r2) (.slice b3 0 r3) w9 ∧ OwnD w9 0 b1 b2 b3 ([] : List Fl) ([] : List Fl) []) := ⟨CA2.out.1.later hb9, CA2.out.2.below hb9⟩
        have CB9 : Hid (Cn w8.heap.size (.slice d1 0 q1) (.slice d2 0 q2) (.slice d3 0 q3) w9 ∧ OwnD w9 0 d1 d2 d3 ([] : List Fl) ([] : List Fl) []) := ⟨CB.out.1.later hb9, CB.out.2.below hb9⟩
        clear hb9 KB CA2 CB
        obtain ⟨la, x0, x1, x2⟩ := CA9.out.1
        obtain ⟨ltd, z0, z1, z2⟩ := K9.out.cn
        have HBe := HIDk (HB1.out.trans (K9.out.dk.bel.mono HB1.out.size))
        clear K9 CA9 CB9
        go_wp2
        go_ret
        exact ⟨rfl, HBe.out⟩
  | true =>
    go_region_held3 (fun w' => w'.cell? ⟨w1.heap.size, 0, none⟩ = some (.slice a1 ls.length p1) ∧ w'.cell? ⟨w1.heap.size, 1, none⟩ = some (.slice a2 ss.length p2) ∧ w'.cell? ⟨w1.heap.size, 2, none⟩ = some (.slice a3 os.length p3) ∧ w1.heap.size < w'.heap.size)
      (first | assumption | exact keep3 (by assumption) hb4 | exact keep3 (by assumption) hb5 | exact H0)
      (first | (go_at_call 25; refine (implDiskOk_any _ _ _ _ _ _ ls ss os _ pl1 ps1 po1 (dk_self K4.out.dk) HFL.out HFS.out HFO.out).mono ?_; rintro e w4 ⟨rfl, hb4⟩; rw [hq]) | (go_at_call 26; refine (specDiskOk_any _ _ _ _ _ _ ls ss os _ pl1 ps1 po1 (dk_self (K4.out.later hb4).dk) HNl.out.1 HFL.out HFS.out HFO.out).mono ?_; rintro e w5 ⟨rfl, hb5⟩; rw [hq]))
    rename_i hH
    have K5 := HIDk ((K4.out.later hb4).later hb5)
    have HQ := HIDk hq
    clear hH H0 hb4 hb5 K4 hq
    obtain ⟨X6, hX6⟩ : ∃ X6, X6 = w5.alloc (.cells #[] 2) := ⟨_, rfl⟩
    have R6 : Hid (X6.ownsRow w5.heap.size 2 1 (.slice (some ⟨w5.heap.size, 0, none⟩) 0 0) 0 (rowsK (upto 0)) ∧ Below w5.heap.size w5 X6) := by rw [hX6]; exact ⟨own_i64_new w5, (Below.refl _ _).alloc (Nat.le_refl _) _⟩
    go_wp2_with fail
    rw [← hX6]
    clear hX6
    go_loopw [4, 5] (fun v i wr => ∃ (k : Nat) (adv : Option Addr) (cv : Nat), k ≤ os.length ∧ v = .slice adv k cv ∧ i = .int .i64 (k : Int) ∧ Hid (wr.ownsRow w5.heap.size 2 1 (.slice adv k cv) k (rowsK (upto k)) ∧ Below w5.heap.size w5 wr)) (fun _ i _ => os.length - (intOf i).toNat)
    case atStart => exact ⟨0, _, _, Nat.zero_le _, rfl, rfl, R6⟩
    case round =>
      clear R6
      obtain ⟨k, adv, cv, hk, rfl, rfl, HR⟩ := hrel
      have Kr := HIDk (K5.out.later HR.out.2)
      obtain ⟨ltd, z0, z1, z2⟩ := Kr.out.cn
      by_cases hlt : k < os.length
      · have k1 : decide ((k : Int) < (os.length : Int)) = true := by simp; omega
        have k2 : decide (k < os.length) = true := by simpa using hlt
        obtain ⟨Y, hY⟩ : ∃ Y, Y = wr.alloc (.cells #[.int .i64 (k : Int)] 2) := ⟨_, rfl⟩
        have hbY : Below wr.heap.size wr Y := by rw [hY]; exact (Below.refl _ _).alloc (Nat.le_refl _) _
        have hcY : Y.cell? ⟨wr.heap.size, 0, none⟩ = some (.int .i64 (k : Int)) := by rw [hY]; simp
        have hoY := own_later HR.out.1 hbY
        have hsY : w5.heap.size ≤ Y.heap.size := Nat.le_trans HR.out.2.size hbY.size
        obtain ⟨ad', cap', w7, hr7, hown7, hg7⟩ := appK1 Y w5.heap.size _ k wr.heap.size 42 hoY hsY hcY (by omega)
        have HR7 := HIDk hr7
        have HN7 : Hid (w7.ownsRow w5.heap.size 2 1 (.slice ad' (k + 1) cap') (k + 1) (rowsK (upto (k + 1))) ∧ Below w5.heap.size w5 w7) := ⟨hown7, (HR.out.2.trans (hbY.mono HR.out.2.size)).grown hg7 hsY (fun i hi => (hoY.lt i hi).1)⟩
        clear hbY hcY hoY hsY hr7 hown7 hg7 HR Kr
        go_wp2_with (at_builtin; rw [← hY]; clear hY; refine wpList_append_run rfl _ _ 42 42 rfl (.slice adv k cv) (.slice (some ⟨wr.heap.size, 0, none⟩) 1 1) (.slice ad' (k + 1) cap') w7 rfl rfl HR7.out ?_)
        go_wp2
        go_roundw
        case rel => exact ⟨k + 1, _, _, by omega, rfl, by go_num, HN7⟩
        case measure => simp [intOf]; omega
      · obtain rfl : k = os.length := by omega
        have k1 : decide ((os.length : Int) < (os.length : Int)) = false := by simp
        obtain ⟨ad2, c2', e2, hsk⟩ := slK_own HR.out.1 (by rw [upto_len])
        rw [upto_len] at e2
        injection e2 with e2 _ e3
        subst e2 e3
        have HCA : Hid (Calls Try.prog 20 #[.agg #[.slice a1 ls.length p1, .slice a2 ss.length p2, .slice a3 os.length p3], .slice adv os.length cv, .int .i64 1099511627776] wr (CrTo wr ls true)) := by
          have h := implCrash_any a1 a2 a3 adv p1 p2 p3 cv ls ss os (upto os.length) 1099511627776 wr pl1 ps1 po1 (by rw [upto_len]; omega) (dk_self Kr.out.dk) HFL.out HFS.out HFO.out hsk
          rw [(crash_all HQ.out HFO.out).1, (crash_all HQ.out HFO.out).2, upto_len] at h
          exact h
        clear hsk HR hk hlt
        go_wp2_with fail
        refine HCA.out.mono ?_
        rintro e w7 ⟨v7, rfl, ⟨b1, b2, b3, r1, r2, r3, rfl, hS7, -⟩, hb7⟩
        have K7 := HIDk (Kr.out.later hb7)
        obtain ⟨XA, hXA⟩ : ∃ XA, XA = w7.alloc (.cells #[.slice b1 ls.length r1, .slice b2 ls.length r2, .slice b3 0 r3] 33) := ⟨_, rfl⟩
        have hbA : Below w7.heap.size w7 XA := by rw [hXA]; exact (Below.refl _ _).alloc (Nat.le_refl _) _
        have KA := HIDk (K7.out.later hbA)
        have CA : Hid (Cn w7.heap.size (.slice b1 ls.length r1) (.slice b2 ls.length r2) (.slice b3 0 r3) XA ∧ OwnD XA 0 b1 b2 b3 ls ls []) := ⟨by rw [hXA]; exact cn_new _ _ _ _ _, (hS7.below hbA).mono (Nat.zero_le _)⟩
        clear hb7 hS7 hbA Kr K7 HCA ltd z0 z1 z2
        obtain ⟨ltd, z0, z1, z2⟩ := KA.out.cn
        rw [hXA] at z0 z1 z2
        go_wp2_with fail
        rw [← hXA]
        clear hXA ltd z0 z1 z2
        have HCB : Hid (Calls Try.prog 20 #[.agg #[.slice a1 ls.length p1, .slice a2 ss.length p2, .slice a3 os.length p3], .slice none 0 0, .int .i64 0] XA (CrTo XA ss true)) := by
          have h := implCrash_any a1 a2 a3 none p1 p2 p3 0 ls ss os [] 0 XA pl1 ps1 po1 (by simp) (dk_self KA.out.dk) HFL.out HFS.out HFO.out (.inl rfl)
          rw [(crash_none HQ.out).1, (crash_none HQ.out).2] at h
          exact h
        refine HCB.out.mono ?_
        rintro e w8 ⟨v8, rfl, ⟨d1, d2, d3, q1, q2, q3, rfl, hS8, -⟩, hb8⟩
        have K8 := HIDk (KA.out.later hb8)
        obtain ⟨XB, hXB⟩ : ∃ XB, XB = w8.alloc (.cells #[.slice d1 ss.length q1, .slice d2 ss.length q2, .slice d3 0 q3] 33) := ⟨_, rfl⟩
        have hbB : Below w8.heap.size w8 XB := by rw [hXB]; exact (Below.refl _ _).alloc (Nat.le_refl _) _
        have KB := HIDk (K8.out.later hbB)
        have CA2 : Hid (Cn w7.heap.size (.slice b1 ls.length r1) (.slice b2 ls.length r2) (.slice b3 0 r3) XB ∧ OwnD XB 0 b1 b2 b3 ls ls []) := ⟨(CA.out.1.later hb8).later hbB, (CA.out.2.below hb8).below hbB⟩
        have CB : Hid (Cn w8.heap.size (.slice d1 ss.length q1) (.slice d2 ss.length q2) (.slice d3 0 q3) XB ∧ OwnD XB 0 d1 d2 d3 ss ss []) := ⟨by rw [hXB]; exact cn_new _ _ _ _ _, (hS8.below hbB).mono (Nat.zero_le _)⟩
        clear hb8 hS8 hbB KA K8 HCB CA
        obtain ⟨ltd, z0, z1, z2⟩ := KB.out.cn
        rw [hXB] at z0 z1 z2
        go_wp2_with fail
        rw [← hXB]
        clear hXB ltd z0 z1 z2
        refine (implDiskOk_any _ _ _ _ _ _ ls ss os XB pl1 ps1 po1 (dk_self KB.out.dk) HFL.out HFS.out HFO.out).mono ?_
        rintro e w9 ⟨rfl, hb9⟩
        rw [HQ.out]
        have K9 := HIDk (KB.out.later hb9)
        have CA9 : Hid (Cn w7.heap.size (.slice b1 ls.length r1) (.slice b2 ls.length r2) (.slice b3 0 r3) w9 ∧ OwnD w9 0 b1 b2 b3 ls ls []) := ⟨CA2.out.1.later hb9, CA2.out.2.below hb9⟩
        have CB9 : Hid (Cn w8.heap.size (.slice d1 ss.length q1) (.slice d2 ss.length q2) (.slice d3 0 q3) w9 ∧ OwnD w9 0 d1 d2 d3 ss ss []) := ⟨CB.out.1.later hb9, CB.out.2.below hb9⟩
        clear hb9 KB CA2 CB
        obtain ⟨la, x0, x1, x2⟩ := CA9.out.1
        obtain ⟨ltd, z0, z1, z2⟩ := K9.out.cn
        clear x0 x1 x2
        go_wp2_with fail
        refine (implSync_any _ _ _ _ _ _ ls ss os w9 pl1 ps1 po1 (dk_self K9.out.dk) HFL.out HFS.out HFO.out).mono ?_
        rintro e w10 ⟨v10, rfl, ⟨g1, g2, g3, t1, t2, t3, rfl, hS10, -⟩, hb10⟩
        have HSY : syL ls ss os = ls := by rw [syL, HQ.out]; rfl
        rw [HSY] at hS10 ⊢
        obtain ⟨XS, hXS⟩ : ∃ XS, XS = w10.alloc (.cells #[.slice g1 ls.length t1, .slice g2 ls.length t2, .slice g3 0 t3] 33) := ⟨_, rfl⟩
        have hbS : Below w10.heap.size w10 XS := by rw [hXS]; exact (Below.refl _ _).alloc (Nat.le_refl _) _
        have hbT := hb10.trans (hbS.mono hb10.size)
        have F4 : Hid (FW w1 a1 a2 a3 p1 p2 p3 ls ss os w7.heap.size w8.heap.size w10.heap.size b1 b2 b3 r1 r2 r3 d1 d2 d3 q1 q2 q3 g1 g2 g3 t1 t2 t3 XS) := ⟨K9.out.later hbT, CA9.out.1.later hbT, CA9.out.2.below hbT, CB9.out.1.later hbT, CB9.out.2.below hbT, by rw [hXS]; exact cn_new _ _ _ _ _, (hS10.below hbS).mono (Nat.zero_le _)⟩
        clear hb10 hS10 hbS hbT K9 CA9 CB9 HSY la ltd z0 z1 z2
        obtain ⟨la, x0, x1, x2⟩ := F4.out.ca
        obtain ⟨lb, y0, y1, y2⟩ := F4.out.cb
        obtain ⟨lc, u0, u1, u2⟩ := F4.out.cs
        obtain ⟨ld, z0, z1, z2⟩ := F4.out.k.cn
        rw [hXS] at x0 x1 x2 y0 y1 y2 u0 u1 u2 z0 z1 z2
        go_wp2_with fail
        rw [← hXS]
        clear hXS
        clear la x0 x1 x2 lb y0 y1 y2 lc u0 u1 u2 ld z0 z1 z2
        refine (sameFiles_any _ _ _ _ ls ls XS pl1 pl1 F4.out.oa.live F4.out.k.dk.live).mono ?_
        rintro e v0 ⟨rfl, hbv⟩
        rw [same_refl]
        replace F4 := HIDk (F4.out.later hbv)
        clear hbv
        obtain ⟨la, x0, x1, x2⟩ := F4.out.ca
        obtain ⟨lb, y0, y1, y2⟩ := F4.out.cb
        obtain ⟨lc, u0, u1, u2⟩ := F4.out.cs
        obtain ⟨ld, z0, z1, z2⟩ := F4.out.k.cn
        go_wp2_with fail
        clear la x0 x1 x2 lb y0 y1 y2 lc u0 u1 u2 ld z0 z1 z2
        refine (sameFiles_any _ _ _ _ ls ls v0 pl1 pl1 F4.out.oa.safe F4.out.k.dk.live).mono ?_
        rintro e v1 ⟨rfl, hbv⟩
        rw [same_refl]
        replace F4 := HIDk (F4.out.later hbv)
        clear hbv
        obtain ⟨la, x0, x1, x2⟩ := F4.out.ca
        obtain ⟨lb, y0, y1, y2⟩ := F4.out.cb
        obtain ⟨lc, u0, u1, u2⟩ := F4.out.cs
        obtain ⟨ld, z0, z1, z2⟩ := F4.out.k.cn
        go_wp2_with fail
        clear la x0 x1 x2 lb y0 y1 y2 lc u0 u1 u2 ld z0 z1 z2
        refine (sameFiles_any _ _ _ _ ss ss v1 ps1 ps1 F4.out.ob.live F4.out.k.dk.safe).mono ?_
        rintro e v2 ⟨rfl, hbv⟩
        rw [same_refl]
        replace F4 := HIDk (F4.out.later hbv)
        clear hbv
        obtain ⟨la, x0, x1, x2⟩ := F4.out.ca
        obtain ⟨lb, y0, y1, y2⟩ := F4.out.cb
        obtain ⟨lc, u0, u1, u2⟩ := F4.out.cs
        obtain ⟨ld, z0, z1, z2⟩ := F4.out.k.cn
        go_wp2_with fail
        clear la x0 x1 x2 lb y0 y1 y2 lc u0 u1 u2 ld z0 z1 z2
        refine (sameFiles_any _ _ _ _ ls ls v2 pl1 pl1 F4.out.os.safe F4.out.k.dk.live).mono ?_
        rintro e v3 ⟨rfl, hbv⟩
        rw [same_refl]
        replace F4 := HIDk (F4.out.later hbv)
        clear hbv
        obtain ⟨la, x0, x1, x2⟩ := F4.out.ca
        obtain ⟨lb, y0, y1, y2⟩ := F4.out.cb
        obtain ⟨lc, u0, u1, u2⟩ := F4.out.cs
        have HBe := HIDk (HB1.out.trans (F4.out.k.dk.bel.mono HB1.out.size))
        clear F4
        go_wp2
        go_ret
        exact ⟨rfl, HBe.out⟩
theorem own : ownKnob Try.prog.godebug = none := by kernel_rfl
theorem laidOut : laidOutB Try.prog = true := by kernel_rfl

set_option maxRecDepth 100000 in
theorem lifted (os : Os) (started : os.Started) (H : Type) (enc : TypeId × Value → H) :
    ReturnsInHanded {} Try.checked os 5 .any (Rows.fnCrashedSpec.pre6 enc Try.prog Try.f5 Rows.fnCrashedRow.domain false) (Rows.fnCrashedSpec.post enc Try.prog Try.f5 false true false false) := by
  refine returnsInHanded_of_change (C := Try.checked) own started (by kernel_rfl) Try.func5
    (ChangeSpec.witness6 (enc := enc) (C := Try.checked) false ⟨#[], #[.slice none 0 0], []⟩ 8 (by kernel_rfl) (by kernel_rfl) (by kernel_rfl) (by kernel_rfl)) ?_
  intro W base args ds gs before hval0 hW hcnd _
  have hval : ∀ (j : Nat) t v, Try.f5.params[j]? = some t → args[j]? = some v → Value.okWide Try.prog W .any base t v := hval0
  have hW' := hW
  obtain ⟨p, q, hA0, hV, rfl, hfz, hnd⟩ := hW
  have hA : DataW.TrodAll enc Try.prog W 0 (fun _ => true) true Try.f5.params.toList args.toList ds p := hA0
  rw [Try.params5] at hA hval
  obtain ⟨v0, vs0, d0, ds0, p0, q0, hargs, rfl, rfl, h0, r0⟩ := trodAll_cons hA
  obtain ⟨rfl, rfl, rfl⟩ := trodAll_nil r0
  obtain rfl : args = #[v0] := by cases args; simp_all
  obtain ⟨rfl, rfl⟩ := trodVars_none hV
  have k0 := h0
  have lt0 : ∀ x ∈ p0, x.block < W.heap.size := by obtain ⟨m, hm⟩ := k0; exact DataW.trod_lt m _ _ _ hm
  obtain ⟨ad0, len0, cap0, hv0⟩ := okWide_slice Try.underlying49 (hval 0 49 v0 rfl rfl)
  subst hv0
  obtain ⟨fuel0, hf0⟩ := h0
  have hby0 := open_bytes (by simpa [Value.cells] using hf0)
  clear hA0 hval0
  refine (walk ad0 len0 cap0 W hby0).mono fun e W' ⟨he, bel⟩ => ?_
  subst he
  exact ⟨_, rfl, _, _, _, [], _, [], hW', trodAll_mk1 (shut_bool Try.underlying4 _), (trodAll_cons_mk (Below.trod laidOut (by kernel_rfl) (of_decide_eq_true (by kernel_rfl)) k0 bel lt0) trodAll_mk0), rfl, bel.frame _, fun h => by cases h⟩

theorem over : Rows.fnCrashedRow.holds Try.pinned (OpenSpec.ofChange Rows.fnCrashedSpec) :=
  OpenClaim.holds_of_wide 5 Try.f5 rfl rfl rfl rfl rfl rfl rfl ⟨rfl, rfl, rfl, rfl, rfl⟩ rfl rfl rfl rfl rfl (by kernel_rfl) Try.func5 (by kernel_rfl)
    (of_decide_eq_true (by kernel_rfl)) (by unfold Func.isWrapper; first | (rw [if_pos (by decide +kernel)]; kernel_rfl) | (rw [if_neg (by decide +kernel)]; exact ⟨rfl, rfl⟩))
    (fun os started H enc _ => lifted os started H enc)

end fnCrashed
theorem FnCrashed_holds : Rows.FnCrashedSaid := fnCrashed.over
end Go.Proofs.Ytbfimfmfdllejaa
