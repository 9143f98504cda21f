/- Proved here: FnReplaced answers true for every slice of bytes and leaves it as it was, with no condition on it. -/
import Derived.Test.YtbfimfmfdllejaaJ1
import Derived.Deep.RegionHeld3
namespace Go.Proofs.Ytbfimfmfdllejaa
open Go.ChangeShapes Go.WideShapes Go.ChangeAt Go.RowKit Go.Maps
set_option linter.unusedVariables false
/-- a disk in its box, its rows -/
def BX (n : Nat) (a1 a2 a3 : Option Addr) (p1 p2 p3 : Nat) (ls ss : List Fl) (os : List Dop) (W : World) : Prop :=
  Cn n (.slice a1 ls.length p1) (.slice a2 ss.length p2) (.slice a3 os.length p3) W ∧ Dk W a1 a2 a3 ls ss os W
theorem BX.later {n : Nat} {W W' : World} {a1 a2 a3 : Option Addr} {p1 p2 p3 : Nat} {ls ss : List Fl} {os : List Dop} (h : BX n a1 a2 a3 p1 p2 p3 ls ss os W) (hB : Below W.heap.size W W') : BX n a1 a2 a3 p1 p2 p3 ls ss os W' := ⟨h.1.later hB, dk_self (h.2.later hB)⟩
theorem BX.new {w : World} {a1 a2 a3 : Option Addr} {p1 p2 p3 : Nat} {ls ss : List Fl} {os : List Dop} (h : Dk w a1 a2 a3 ls ss os w) (t : TypeId) : BX w.heap.size a1 a2 a3 p1 p2 p3 ls ss os (w.alloc (.cells #[.slice a1 ls.length p1, .slice a2 ss.length p2, .slice a3 os.length p3] t)) :=
  ⟨cn_new _ _ _ _ _, dk_self (h.later ((Below.refl _ _).alloc (Nat.le_refl _) _))⟩
theorem dk_own {w : World} {n : Nat} {a b c : Option Addr} {ls ss : List Fl} {os : List Dop} (h : OwnD w n a b c ls ss os) : Dk w a b c ls ss os w := ⟨Below.refl _ _, h.live, h.safe, h.ops⟩
theorem set_at {w : World} {a : Addr} {v u : Value} (h : w.cell? a = some u) : (w.setCell a v).cell? a = some v := World.cell?_setCell_same _ _ _ h
theorem set_ne {w : World} {g i j : Nat} {v : Value} (h : i ≠ j) : (w.setCell ⟨g, j, none⟩ v).cell? ⟨g, i, none⟩ = w.cell? ⟨g, i, none⟩ := by
  apply World.cell?_setCell_other
  intro e; injection e with e1 e2; exact h (by omega)
/-- a box set anew by a disk whose rows lie elsewhere -/
theorem BX.set {n m : Nat} {W : World} {a b c : Option Addr} {p q r : Nat} {ls ss : List Fl} {os : List Dop} {u v z : Value} (hc : Cn n u v z W) (h : OwnD W m a b c ls ss os) (hn : n < m) : BX n a b c p q r ls ss os (((W.setCell ⟨n, 0, none⟩ (.slice a ls.length p)).setCell ⟨n, 1, none⟩ (.slice b ss.length q)).setCell ⟨n, 2, none⟩ (.slice c os.length r)) := by
  have hg : Chg (fun y => y = n) W (((W.setCell ⟨n, 0, none⟩ (.slice a ls.length p)).setCell ⟨n, 1, none⟩ (.slice b ss.length q)).setCell ⟨n, 2, none⟩ (.slice c os.length r)) := ((Chg.set (S := fun y => y = n) _ rfl).trans (Chg.set (S := fun y => y = n) _ rfl)).trans (Chg.set (S := fun y => y = n) _ rfl)
  refine ⟨⟨Nat.lt_of_lt_of_le hc.lt hg.size, ?_, ?_, ?_⟩, Below.refl _ _, h.live.chgd hg (fun hx g o e h1 => ?_), h.safe.chgd hg (fun hx g o e h1 => ?_), h.ops.chgd hg (fun hx g o e h1 => ?_)⟩
  · rw [set_ne (by simp), set_ne (by simp)]; exact set_at hc.c0
  · rw [set_ne (by simp)]; exact set_at ((set_ne (by simp)).trans hc.c1)
  · exact set_at ((set_ne (by simp)).trans ((set_ne (by simp)).trans hc.c2))
  · obtain ⟨g', e', h2, -⟩ := h.fl hx
    rw [e'] at e; injection e with e; injection e with e; omega
  · obtain ⟨g', e', h2, -⟩ := h.fs hx
    rw [e'] at e; injection e with e; injection e with e; omega
  · obtain ⟨g', e', h2, -⟩ := h.fo hx
    rw [e'] at e; injection e with e; injection e with e; omega
theorem info_i64 : (Try.prog.info? 2).map (fun i => (i.zero, i.size, i.bytes)) = some (some (.int .i64 0), 1, 8) := by kernel_rfl
theorem slK_own {W : World} {base n : Nat} {e : TypeId} {v : Value} {xs : List Int} (h : W.ownsRow base e 1 v n (rowsK xs)) (hn : n = xs.length) : ∃ ad cap, v = .slice ad xs.length cap ∧ SlK W ad xs := by
  subst hn
  have h2 := h
  rcases h.2 with ⟨rfl, h0⟩ | ⟨g, cp, cur, rfl, hbg, hg, hnc, -⟩
  · have : xs = [] := List.length_eq_zero_iff.1 h0
    subst this
    exact ⟨none, 0, rfl, .inl rfl⟩
  · refine ⟨some ⟨g, 0, none⟩, cp, rfl, .inr ⟨g, 0, rfl, (h2.lt g rfl).2, fun i hi => ?_⟩⟩
    rw [Nat.zero_add, h2.cellAt i (by simp; omega)]
    simp [rowsK, hi]
/-- one more number behind those that are there -/
theorem appK (W : World) (base : Nat) (v : Value) (ks : List Int) (y : Int) (x : Nat) (ty : TypeId) (h : W.ownsRow base 2 1 v ks.length (rowsK ks)) (hb : base ≤ W.heap.size) (hx : W.cell? ⟨x, 0, none⟩ = some (.int .i64 y)) (hl : ks.length ≤ 1048576) :
    ∃ ad' cap' w', (Builtin.append_ #[42, 42] ty #[v, .slice (some ⟨x, 0, none⟩) 1 1]).run Try.prog W = .ok (.slice ad' (ks ++ [y]).length cap') w' ∧ w'.ownsRow base 2 1 (.slice ad' (ks ++ [y]).length cap') (ks ++ [y]).length (rowsK (ks ++ [y])) ∧ W.grownBy w' v.ownBlock := by
  obtain ⟨iF, hiF, z0, z1, z2⟩ := info_parts info_i64
  obtain ⟨v', w', hr, h2, h3, -, -⟩ := run_append_own_at (P := Try.prog) W base 42 ty 2 iF (.int .i64 0) 1 8 Try.underlying42 hiF z0 z1 z2 rfl (by decide) _ _ _ h ⟨x, 0, none⟩ 1 1 [.int .i64 y] rfl (fun j u hu => by
    cases j with
    | zero => simp at hu; subst hu; rw [add_noneD]; exact hx
    | succ j => simp at hu) (fun u hu => by simp at hu; subst hu; rfl) (by unfold maxLen; omega) (by omega) hb
  have e1 : rowsK ks ++ [.int .i64 y] = rowsK (ks ++ [y]) := by simp [rowsK]
  have e2 : ks.length + 1 = (ks ++ [y]).length := by simp
  rw [e1, e2] at h2
  obtain ⟨ad', cap', e, -⟩ := slK_own h2 rfl
  subst e
  exact ⟨ad', cap', w', hr, h2, h3⟩
theorem own_i64_new (w : World) : (w.alloc (.cells #[] 2)).ownsRow w.heap.size 2 1 (.slice (some ⟨w.heap.size, 0, none⟩) 0 0) 0 (rowsK []) := by
  refine ⟨rfl, .inr ⟨w.heap.size, 0, #[], rfl, Nat.le_refl _, heap_alloc_new _ _, ?_⟩⟩
  simp [rowsK]
theorem sy_right (ls ss : List Fl) (os : List Dop) : diskB (syL ls ss os) (syL ls ss os) [] = true := by
  unfold syL
  split
  · rename_i h; exact files_right (diskB_facts h).1
  · rfl
theorem sy_mem {ls ss : List Fl} {os : List Dop} {P : Fl → Prop} (h : ∀ f ∈ ls, P f) : ∀ f ∈ syL ls ss os, P f := by
  unfold syL
  split
  · exact h
  · simp
theorem sy_len (ls ss : List Fl) (os : List Dop) : (syL ls ss os).length ≤ ls.length := by
  unfold syL
  split <;> simp
/-- the numbers that are kept of the first k ops -/
def KU (k : Nat) (ks : List Int) : Prop := (k = 0 ∧ ks = []) ∨ (k = 1 ∧ (ks = [] ∨ ks = [0])) ∨ (k = 2 ∧ Kept2 ks)
theorem KU.few {k : Nat} {ks : List Int} (h : KU k ks) : ks.length ≤ 2 := by
  rcases h with ⟨-, rfl⟩ | ⟨-, rfl | rfl⟩ | ⟨-, rfl | rfl | rfl | rfl⟩ <;> simp
theorem KU.no {k : Nat} {ks : List Int} (h : KU k ks) (hk : k < 2) : KU (k + 1) ks := by
  rcases h with ⟨rfl, rfl⟩ | ⟨rfl, rfl | rfl⟩ | ⟨rfl, h⟩
  · exact .inr (.inl ⟨rfl, .inl rfl⟩)
  · exact .inr (.inr ⟨rfl, .inl rfl⟩)
  · exact .inr (.inr ⟨rfl, .inr (.inl rfl)⟩)
  · omega
theorem KU.yes {k : Nat} {ks : List Int} (h : KU k ks) (hk : k < 2) : KU (k + 1) (ks ++ [(k : Int)]) := by
  rcases h with ⟨rfl, rfl⟩ | ⟨rfl, rfl | rfl⟩ | ⟨rfl, h⟩
  · exact .inr (.inl ⟨rfl, .inr rfl⟩)
  · exact .inr (.inr ⟨rfl, .inr (.inr (.inl rfl))⟩)
  · exact .inr (.inr ⟨rfl, .inr (.inr (.inr rfl))⟩)
  · omega
theorem ops_small {x d : ByteArray} (hx : x.size ≤ 100) (hd : d.size ≤ 20) : ∀ o ∈ [opAdd x d, opRen x], o.small := by
  have h1 : (x ++ dotNew).size = x.size + 4 := by rw [ByteArray.size_append, dotNew_size]
  have h0 : (⟨#[]⟩ : ByteArray).size = 0 := rfl
  intro o ho
  rcases List.mem_cons.1 ho with rfl | ho
  · exact ⟨by show (x ++ dotNew).size ≤ _; omega, by show (⟨#[]⟩ : ByteArray).size ≤ _; omega, by show d.size ≤ _; omega⟩
  · rw [List.mem_singleton.1 ho]
    exact ⟨by show (x ++ dotNew).size ≤ _; omega, by show x.size ≤ _; omega, by show (⟨#[]⟩ : ByteArray).size ≤ _; omega⟩
namespace fnReplaced
open Go.Joins
set_option maxRecDepth 8000 in
set_option maxHeartbeats 2000000 in
theorem walk (ad : Option Addr) (len cap : Nat) (w : World) (hby : Bytes w ad len) :
    Calls Try.prog 7 #[.slice ad len cap] w fun e w' => e = .returned (.bool true) ∧ Below w.heap.size w w' := by
  have HBy := HIDk hby
  clear hby
  by_cases hbig : 1048576 < len
  · have d : decide ((1048576 : Int) < (len : Int)) = true := by simp; omega
    go_enter Try.func7, Try.ntmps7
    go_wp2_with fail
    refine (big_any ad len cap w).mono ?_
    rintro e w' ⟨rfl, rfl⟩
    go_wp2
    go_ret
    exact ⟨rfl, Below.refl _ _⟩
  have d : decide ((1048576 : Int) < (len : Int)) = false := by simp; omega
  go_enter Try.func7, Try.ntmps7
  go_wp2_with fail
  refine (big_any ad len cap w).mono ?_
  rintro e w' ⟨rfl, rfl⟩
  go_wp2_with fail
  refine (drawRep_any ad len cap w' HBy.out).mono ?_
  rintro e w1 ⟨a1, a2, a3, p1, p2, p3, ls, ss, os, x, dd, rfl, hD, hN, ⟨l1, l2, l3⟩, fl, fs, fo, hx, hd, hb1⟩
  have HFL := HIDk fl
  have HFS := HIDk fs
  have HFO := HIDk fo
  have HB1 := HIDk hb1
  have HX := HIDk hx
  have HD := HIDk hd
  have HLS : Hid (ls.length ≤ 61 ∧ ss.length ≤ 61 ∧ os.length ≤ 200) := ⟨l1, l2, l3⟩
  have HBy1 := HIDk (HBy.out.below hb1)
  obtain ⟨X3, hX3⟩ : ∃ X3, X3 = w1.alloc (.cells #[.slice a1 ls.length p1, .slice a2 ss.length p2, .slice a3 os.length p3] 33) := ⟨_, rfl⟩
  have K3 : Hid (BX w1.heap.size a1 a2 a3 p1 p2 p3 ls ss os X3 ∧ Below w1.heap.size w1 X3 ∧ Free X3 w1.heap.size) := by rw [hX3]; exact ⟨BX.new hD _, (Below.refl _ _).alloc (Nat.le_refl _) _, fun j => fz0 _ _ _ j⟩
  clear hD fl fs fo hN hb1 hx hd l1 l2 l3 HBy
  go_wp2_with fail
  rw [← hX3]
  clear hX3
  refine (implSync_any _ _ _ _ _ _ ls ss os X3 (by have := HLS.out; omega) (by have := HLS.out; omega) (by have := HLS.out; omega) K3.out.1.2 HFL.out HFS.out HFO.out).mono ?_
  rintro e w2 ⟨v2, rfl, ⟨g1, g2, g3, t1, t2, t3, rfl, hS2, hn2⟩, hb2⟩
  have hR := sy_right ls ss os
  have hFL := sy_mem (ss := ss) (os := os) HFL.out
  have hLL : (syL ls ss os).length ≤ 61 := by have := sy_len ls ss os; have := HLS.out; omega
  obtain ⟨L, hL⟩ : ∃ L, L = syL ls ss os := ⟨_, rfl⟩
  rw [← hL] at hR hFL hLL hS2 ⊢
  clear hL HFL HFS HFO HLS
  have HR := HIDk hR
  have HFL := HIDk hFL
  have HLL := HIDk hLL
  have HN := HIDk hn2
  have K2 : Hid (Cn w1.heap.size (.slice a1 ls.length p1) (.slice a2 ss.length p2) (.slice a3 os.length p3) w2 ∧ Below w1.heap.size w1 w2) := ⟨K3.out.1.1.later hb2, K3.out.2.1.trans (hb2.mono K3.out.2.1.size)⟩
  have rf : ∀ j, w2.frozen? ⟨w1.heap.size, j, none⟩ = false := fun j => keptF hb2 K3.out.1.1.lt (K3.out.2.2 j)
  have hlt3 : w1.heap.size < X3.heap.size := K3.out.1.1.lt
  obtain ⟨X4, hX4⟩ : ∃ X4, X4 = ((w2.setCell ⟨w1.heap.size, 0, none⟩ (.slice g1 L.length t1)).setCell ⟨w1.heap.size, 1, none⟩ (.slice g2 L.length t2)).setCell ⟨w1.heap.size, 2, none⟩ (.slice g3 0 t3) := ⟨_, rfl⟩
  have K4 : Hid (BX w1.heap.size g1 g2 g3 t1 t2 t3 L L [] X4 ∧ Below w1.heap.size w1 X4) := by
    rw [hX4]
    exact ⟨BX.set (os := []) K2.out.1 hS2 hlt3, ((K2.out.2.setCell (p := ⟨w1.heap.size, 0, none⟩) (by simp) _).setCell (p := ⟨w1.heap.size, 1, none⟩) (by simp) _).setCell (p := ⟨w1.heap.size, 2, none⟩) (by simp) _⟩
  obtain ⟨lt2, z0, z1, z2⟩ := K2.out.1
  obtain ⟨lt4, y0, y1, y2⟩ := K4.out.1.1
  rw [hX4] at y0 y1 y2
  clear hR hFL hLL hS2 hn2 hb2 K3 K2 hlt3
  go_wp2_with fail
  rw [← hX4]
  clear hX4 y0 y1 y2 z0 z1 z2 rf lt2 lt4
  refine (implReplace_any _ _ _ _ _ _ L L [] x dd X4 (by have := HLL.out; omega) (by have := HLL.out; omega) (by simp) K4.out.1.2 HFL.out HFL.out (by simp) (by have := HX.out; omega) (by have := HD.out; omega)).mono ?_
  rintro e w3 ⟨v3, rfl, ⟨b1, b2, b3, r1, r2, r3, rfl, hS3, -⟩, hb3⟩
  obtain ⟨X5, hX5⟩ : ∃ X5, X5 = w3.alloc (.cells #[.slice b1 (rL L L [] x dd).length r1, .slice b2 (dS L L []).length r2, .slice b3 (rO L L [] x dd).length r3] 33) := ⟨_, rfl⟩
  have hb5 : Below w3.heap.size w3 X5 := by rw [hX5]; exact (Below.refl _ _).alloc (Nat.le_refl _) _
  have hb35 := hb3.trans (hb5.mono hb3.size)
  have K5 : Hid (BX w1.heap.size g1 g2 g3 t1 t2 t3 L L [] X5 ∧ Below w1.heap.size w1 X5) := ⟨K4.out.1.later hb35, K4.out.2.trans (hb35.mono K4.out.2.size)⟩
  have A5 : Hid (BX w3.heap.size b1 b2 b3 r1 r2 r3 (rL L L [] x dd) (dS L L []) (rO L L [] x dd) X5) := by rw [hX5]; exact BX.new (dk_own hS3) _
  obtain ⟨lt4, y0, y1, y2⟩ := K5.out.1.1
  rw [hX5] at y0 y1 y2
  clear hS3 hb3 hb5 hb35 K4
  go_wp2_with fail
  rw [← hX5]
  clear hX5 y0 y1 y2 lt4
  refine (specReplace_any _ _ _ _ _ _ L L [] x dd X5 (by have := HLL.out; omega) (by have := HLL.out; omega) (by simp) K5.out.1.2 HN.out.2 HN.out.1 HFL.out HFL.out (by simp) (by have := HX.out; omega) (by have := HD.out; omega)).mono ?_
  rintro e w4 ⟨v4, rfl, ⟨f1, f2, f3, s1, s2, s3, rfl, hS4, -⟩, hb4⟩
  obtain ⟨X6, hX6⟩ : ∃ X6, X6 = w4.alloc (.cells #[.slice f1 (rL L L [] x dd).length s1, .slice f2 (dS L L []).length s2, .slice f3 (rO L L [] x dd).length s3] 33) := ⟨_, rfl⟩
  have hb6 : Below w4.heap.size w4 X6 := by rw [hX6]; exact (Below.refl _ _).alloc (Nat.le_refl _) _
  have hb46 := hb4.trans (hb6.mono hb4.size)
  have K6 : Hid (BX w1.heap.size g1 g2 g3 t1 t2 t3 L L [] X6 ∧ Below w1.heap.size w1 X6) := ⟨K5.out.1.later hb46, K5.out.2.trans (hb46.mono K5.out.2.size)⟩
  have A6 := HIDk (A5.out.later hb46)
  clear hS4 hb4 hb6 hb46 K5 A5
  by_cases hc : rC L L [] x dd = 0
  · have HC := HIDk hc
    rw [hc]
    clear hc
    obtain ⟨lt4, y0, y1, y2⟩ := K6.out.1.1
    rw [hX6] at y0 y1 y2
    have hsum : (9223372036854775807 < x.size + 4) = False := by have := HX.out; simp; omega
    obtain ⟨xn, hxn⟩ : ∃ xn, xn = x ++ (⟨#[46, 110, 101, 119]⟩ : ByteArray) := ⟨_, rfl⟩
    go_wp2_with fail
    rw [← hX6, ← hxn]
    clear hX6 y0 y1 y2 lt4 hsum
    refine (implReadFile_any _ _ _ _ _ _ L L [] xn X6 (by have := HLL.out; omega) (by have := HLL.out; omega) (by simp) K6.out.1.2 HFL.out HFL.out (by simp)).mono ?_
    rintro e w5 ⟨rfl, hb5⟩
    have eB : readB L L [] xn = hasF L (x ++ dotNew) := by rw [readB, HR.out, hxn]; rfl
    rw [eB]
    clear eB
    have K7 : Hid (BX w1.heap.size g1 g2 g3 t1 t2 t3 L L [] w5 ∧ Below w1.heap.size w1 w5) := ⟨K6.out.1.later hb5, K6.out.2.trans (hb5.mono K6.out.2.size)⟩
    have A7 := HIDk (A6.out.later hb5)
    clear hb5 K6 A6
    cases hno : hasF L (x ++ dotNew) with
    | true =>
      have HBe := HIDk (HB1.out.trans (K7.out.2.mono HB1.out.size))
      go_wp2
      go_ret
      exact ⟨rfl, HBe.out⟩
    | false =>
      have hc2 : (repR L [] x dd).2.2 = 0 := by have := HC.out; rw [rC, HR.out] at this; exact this
      obtain ⟨F2, hF2⟩ : ∃ F2, F2 = (doF (doF L (opAdd x dd)).1 (opRen x)).1 := ⟨_, rfl⟩
      have hrun : repR L [] x dd = (F2, [opAdd x dd, opRen x], 0) := by rw [hF2]; exact (rep_run hno hc2).2.2
      have A8 : Hid (BX w3.heap.size b1 b2 b3 r1 r2 r3 F2 L [opAdd x dd, opRen x] w5) := by
        have h := A7.out
        have eL : rL L L [] x dd = F2 := by rw [rL, HR.out, hrun]; rfl
        have eO : rO L L [] x dd = [opAdd x dd, opRen x] := by rw [rO, HR.out, hrun]; rfl
        have eS : dS L L [] = L := by rw [dS, HR.out]; rfl
        rw [eL, eO, eS] at h
        exact h
      have HRP : Hid (∀ ks t, Kept2 ks → diskB F2 L [opAdd x dd, opRen x] = true ∧ hasF F2 x = true ∧ dataF F2 x = dd ∧
        filesB (crUp L [opAdd x dd, opRen x] ks t ks.length) = true ∧ ((hasF (crUp L [opAdd x dd, opRen x] ks t ks.length) x = hasF L x ∧ dataF (crUp L [opAdd x dd, opRen x] ks t ks.length) x = dataF L x) ∨ (hasF (crUp L [opAdd x dd, opRen x] ks t ks.length) x = true ∧ dataF (crUp L [opAdd x dd, opRen x] ks t ks.length) x = dd))) := fun ks t hk => by
        obtain ⟨F, h1, h2⟩ := replaced (t := t) HR.out hno hc2 hk
        rw [hrun] at h1
        injection h1 with h1 _
        subst h1
        exact h2
      clear hF2 hrun hc2 A7 HC hno
      obtain ⟨lt4, y0, y1, y2⟩ := K7.out.1.1
      go_wp2_with fail
      clear y0 y1 y2 lt4
      refine (implReadFile_any _ _ _ _ _ _ L L [] x w5 (by have := HLL.out; omega) (by have := HLL.out; omega) (by simp) K7.out.1.2 HFL.out HFL.out (by simp)).mono ?_
      rintro e w6 ⟨rfl, hb6⟩
      have eB : readB L L [] x = hasF L x := by rw [readB, HR.out]; rfl
      have eD : readD L L [] x = dataF L x := by rw [readD, HR.out]; rfl
      rw [eB, eD]
      have K9 := HIDk (K7.out.2.trans (hb6.mono K7.out.2.size))
      have A9 := HIDk (A8.out.later hb6)
      clear hb6 K7 A8 eB eD
      obtain ⟨X7, hX7⟩ : ∃ X7, X7 = w6.alloc (.cells #[] 2) := ⟨_, rfl⟩
      have R7 : Hid (X7.ownsRow w6.heap.size 2 1 (.slice (some ⟨w6.heap.size, 0, none⟩) 0 0) 0 (rowsK []) ∧ Below w6.heap.size w6 X7) := by rw [hX7]; exact ⟨own_i64_new w6, (Below.refl _ _).alloc (Nat.le_refl _) _⟩
      go_wp2_with fail
      rw [← hX7]
      clear hX7
      go_loopw [14, 15] (fun v i wr => ∃ (k : Nat) (ks : List Int) (adv : Option Addr) (cv : Nat), k ≤ 2 ∧ v = .slice adv ks.length cv ∧ i = .int .i64 (k : Int) ∧ Hid (KU k ks) ∧ Hid (wr.ownsRow w6.heap.size 2 1 (.slice adv ks.length cv) ks.length (rowsK ks) ∧ Below w6.heap.size w6 wr)) (fun _ i _ => 2 - (intOf i).toNat)
      case atStart => exact ⟨0, [], _, _, Nat.zero_le _, rfl, rfl, .inl ⟨rfl, rfl⟩, R7⟩
      case round =>
        clear R7
        obtain ⟨k, ks, adv, cv, hk, rfl, rfl, HK, HR7⟩ := hrel
        have Ar := HIDk (A9.out.later HR7.out.2)
        obtain ⟨lta, z0, z1, z2⟩ := Ar.out.1
        by_cases hlt : k < 2
        · have k1 : decide ((k : Int) < 2) = true := by simp; omega
          by_cases hl0 : len = 0
          · subst hl0
            go_wp2_with fail
            go_roundw
            case rel => exact ⟨k + 1, ks, _, _, by omega, rfl, by go_num, HK.out.no hlt, HR7⟩
            case measure => simp [intOf]; omega
          · have hby := HBy1.out.below (K9.out.trans (HR7.out.2.mono K9.out.size))
            obtain ⟨bb, off, rfl, hbl, hcs⟩ := hby.2 (by omega)
            obtain ⟨c, c0, c1, hcc⟩ := hcs (k % len) (Nat.mod_lt _ (by omega))
            have i2 : decide (0 < len) = true := by simp; omega
            have i3 : 0 < len := by omega
            obtain ⟨c, rfl⟩ : ∃ y : Nat, c = (y : Int) := ⟨c.toNat, by omega⟩
            clear hcs hby
            rcases (show k = 0 ∨ k = 1 by omega) with rfl | rfl
            · have hcc0 : wr.cell? ⟨bb, off, none⟩ = some (.int .u8 (c : Int)) := by simpa using hcc
              clear hcc
              cases hq : ((c : Int) % 2 == 1) with
              | false =>
                go_wp2_with fail
                go_roundw
                case rel => exact ⟨1, ks, _, _, by omega, rfl, by go_num, HK.out.no hlt, HR7⟩
                case measure => simp [intOf]
              | true =>
                obtain ⟨Y, hY⟩ : ∃ Y, Y = wr.alloc (.cells #[.int .i64 0] 2) := ⟨_, rfl⟩
                have hbY : Below wr.heap.size wr Y := by rw [hY]; exact (Below.refl _ _).alloc (Nat.le_refl _) _
                have hcY : Y.cell? ⟨wr.heap.size, 0, none⟩ = some (.int .i64 0) := by rw [hY]; simp
                have hoY := own_later HR7.out.1 hbY
                have hsY : w6.heap.size ≤ Y.heap.size := Nat.le_trans HR7.out.2.size hbY.size
                obtain ⟨ad', cap', w7, hr7, hown7, hg7⟩ := appK Y w6.heap.size _ ks 0 wr.heap.size 42 hoY hsY hcY (by have := HK.out.few; omega)
                have H7 := HIDk hr7
                have HN7 : Hid (w7.ownsRow w6.heap.size 2 1 (.slice ad' (ks ++ [0]).length cap') (ks ++ [0]).length (rowsK (ks ++ [0])) ∧ Below w6.heap.size w6 w7) := ⟨hown7, (HR7.out.2.trans (hbY.mono HR7.out.2.size)).grown hg7 hsY (fun i hi => (hoY.lt i hi).1)⟩
                have HK7 := HIDk (HK.out.yes hlt)
                clear hbY hcY hoY hsY hr7 hown7 hg7 HR7 Ar
                go_wp2_with (at_builtin; rw [← hY]; clear hY; refine wpList_append_run rfl _ _ 42 42 rfl (.slice adv ks.length cv) (.slice (some ⟨wr.heap.size, 0, none⟩) 1 1) (.slice ad' (ks ++ [0]).length cap') w7 rfl rfl H7.out ?_; obtain ⟨nk, hnk⟩ : ∃ nk, nk = (ks ++ [(0 : Int)]).length := ⟨_, rfl⟩; rw [← hnk])
                go_wp2
                go_roundw
                case rel => exact ⟨1, ks ++ [0], _, _, by omega, by simp, by go_num, HK7, HN7⟩
                case measure => simp [intOf]
            · have i4 : (0 : Int) ≤ 1 % (len : Int) := Int.emod_nonneg _ (by omega)
              have i5 : (1 : Int) % (len : Int) < (len : Int) := Int.emod_lt_of_pos _ (by omega)
              cases hq : ((c : Int) / 2 % 2 == 1) with
              | false =>
                go_wp2_with fail
                go_roundw
                case rel => exact ⟨2, ks, _, _, by omega, rfl, by go_num, HK.out.no hlt, HR7⟩
                case measure => simp [intOf]
              | true =>
                obtain ⟨Y, hY⟩ : ∃ Y, Y = wr.alloc (.cells #[.int .i64 1] 2) := ⟨_, rfl⟩
                have hbY : Below wr.heap.size wr Y := by rw [hY]; exact (Below.refl _ _).alloc (Nat.le_refl _) _
                have hcY : Y.cell? ⟨wr.heap.size, 0, none⟩ = some (.int .i64 1) := by rw [hY]; simp
                have hoY := own_later HR7.out.1 hbY
                have hsY : w6.heap.size ≤ Y.heap.size := Nat.le_trans HR7.out.2.size hbY.size
                obtain ⟨ad', cap', w7, hr7, hown7, hg7⟩ := appK Y w6.heap.size _ ks 1 wr.heap.size 42 hoY hsY hcY (by have := HK.out.few; omega)
                have H7 := HIDk hr7
                have HN7 : Hid (w7.ownsRow w6.heap.size 2 1 (.slice ad' (ks ++ [1]).length cap') (ks ++ [1]).length (rowsK (ks ++ [1])) ∧ Below w6.heap.size w6 w7) := ⟨hown7, (HR7.out.2.trans (hbY.mono HR7.out.2.size)).grown hg7 hsY (fun i hi => (hoY.lt i hi).1)⟩
                have HK7 := HIDk (HK.out.yes hlt)
                clear hbY hcY hoY hsY hr7 hown7 hg7 HR7 Ar
                go_wp2_with (at_builtin; rw [← hY]; clear hY; refine wpList_append_run rfl _ _ 42 42 rfl (.slice adv ks.length cv) (.slice (some ⟨wr.heap.size, 0, none⟩) 1 1) (.slice ad' (ks ++ [1]).length cap') w7 rfl rfl H7.out ?_; obtain ⟨nk, hnk⟩ : ∃ nk, nk = (ks ++ [(1 : Int)]).length := ⟨_, rfl⟩; rw [← hnk])
                go_wp2
                go_roundw
                case rel => exact ⟨2, ks ++ [1], _, _, by omega, by simp, by go_num, HK7, HN7⟩
                case measure => simp [intOf]
        · obtain rfl : k = 2 := by omega
          have hk2 : Kept2 ks := by
            rcases HK.out with ⟨h, -⟩ | ⟨h, -⟩ | ⟨-, h⟩
            · cases h
            · cases h
            · exact h
          obtain ⟨q1, q2, q3, q4, q5⟩ := HRP.out ks ((len : Int) % 4).toNat hk2
          obtain ⟨C, hC⟩ : ∃ C, C = crUp L [opAdd x dd, opRen x] ks ((len : Int) % 4).toNat ks.length := ⟨_, rfl⟩
          rw [← hC] at q4 q5
          obtain ⟨f1', f2', -⟩ := diskB_facts q1
          have s1' := small60 f1'
          have HFF : Hid (F2.length ≤ 60 ∧ ∀ f ∈ F2, f.n.size ≤ maxLen ∧ f.d.size ≤ 4194304) := ⟨s1'.1, fun f hf => ⟨(s1'.2 f hf).1, by have := (s1'.2 f hf).2; omega⟩⟩
          have HFO : Hid (∀ o ∈ [opAdd x dd, opRen x], o.small) := ops_small HX.out HD.out
          obtain ⟨ad2, c2', e2, hsk⟩ := slK_own HR7.out.1 rfl
          injection e2 with e2 _ e3
          subst e2 e3
          have HCA : Hid (Calls Try.prog 20 #[.agg #[.slice b1 F2.length r1, .slice b2 L.length r2, .slice b3 2 r3], .slice adv ks.length cv, .int .i64 ((len : Int) % 4)] wr (CrTo wr C true)) := by
            have h := implCrash_any b1 b2 b3 adv r1 r2 r3 cv F2 L [opAdd x dd, opRen x] ks ((len : Int) % 4) wr (by have := HFF.out.1; omega) (by have := HLL.out; omega) (by simp) (by have := HK.out.few; omega) Ar.out.2 HFF.out.2 HFL.out HFO.out hsk
            have hB : crB F2 L [opAdd x dd, opRen x] ks ((len : Int) % 4) = true := by
              have h0 : decide ((0 : Int) ≤ (len : Int) % 4) = true := by simp; omega
              have h1 : keepB ks ([opAdd x dd, opRen x] : List Dop).length = true := kept2_keep hk2
              rw [crB, q1, h0, h1, ← hC, q4]; rfl
            have hL2 : crL F2 L [opAdd x dd, opRen x] ks ((len : Int) % 4) = C := by rw [crL, hB, hC]; rfl
            rw [hL2, hB] at h
            exact h
          have HQ : Hid (diskB F2 L [opAdd x dd, opRen x] = true ∧ hasF F2 x = true ∧ dataF F2 x = dd ∧ filesB C = true) := ⟨q1, q2, q3, q4⟩
          have HQ5 := HIDk q5
          clear hsk hC q1 q2 q3 q4 q5 f1' f2' s1' hk2 hk hlt HRP
          go_wp2_with fail
          refine HCA.out.mono ?_
          rintro e w7 ⟨v7, rfl, ⟨d1, d2, d3, q1, q2, q3, rfl, hS7, -⟩, hb7⟩
          obtain ⟨X8, hX8⟩ : ∃ X8, X8 = w7.alloc (.cells #[.slice d1 C.length q1, .slice d2 C.length q2, .slice d3 0 q3] 33) := ⟨_, rfl⟩
          have hb8 : Below w7.heap.size w7 X8 := by rw [hX8]; exact (Below.refl _ _).alloc (Nat.le_refl _) _
          have hb78 := hb7.trans (hb8.mono hb7.size)
          have C8 : Hid (BX w7.heap.size d1 d2 d3 q1 q2 q3 C C [] X8) := by rw [hX8]; exact BX.new (os := []) (dk_own hS7) _
          have A8 := HIDk (Ar.out.later hb78)
          have B8 : Hid (Below w1.heap.size w1 X8) := (K9.out.trans (HR7.out.2.mono K9.out.size)).trans (hb78.mono (K9.out.trans (HR7.out.2.mono K9.out.size)).size)
          obtain ⟨lt8, y0, y1, y2⟩ := C8.out.1
          rw [hX8] at y0 y1 y2
          clear hS7 hb7 hb8 hb78 Ar HCA lta z0 z1 z2 HR7 K9 A9 HK
          go_wp2_with fail
          rw [← hX8]
          clear hX8 y0 y1 y2 lt8
          have s2' := small60 HQ.out.2.2.2
          refine (implReadFile_any _ _ _ _ _ _ C C [] x X8 (by omega) (by omega) (by simp) C8.out.2 (fun f hf => ⟨(s2'.2 f hf).1, by have := (s2'.2 f hf).2; omega⟩) (fun f hf => ⟨(s2'.2 f hf).1, by have := (s2'.2 f hf).2; omega⟩) (by simp)).mono ?_
          rintro e w8 ⟨rfl, hb9⟩
          have eB : readB C C [] x = hasF C x := by rw [readB, files_right HQ.out.2.2.2]; rfl
          have eD : readD C C [] x = dataF C x := by rw [readD, files_right HQ.out.2.2.2]; rfl
          rw [eB, eD]
          have A9 := HIDk (A8.out.later hb9)
          have B9 := HIDk (B8.out.trans (hb9.mono B8.out.size))
          clear eB eD hb9 A8 B8 C8 s2'
          obtain ⟨lt8, y0, y1, y2⟩ := A9.out.1
          go_wp2_with fail
          clear y0 y1 y2 lt8
          refine (implReadFile_any _ _ _ _ _ _ F2 L [opAdd x dd, opRen x] x w8 (by have := HFF.out.1; omega) (by have := HLL.out; omega) (by simp) A9.out.2 HFF.out.2 HFL.out HFO.out).mono ?_
          rintro e w9 ⟨rfl, hb9⟩
          have eB : readB F2 L [opAdd x dd, opRen x] x = true := by rw [readB, HQ.out.1, HQ.out.2.1]; rfl
          have eD : readD F2 L [opAdd x dd, opRen x] x = dd := by rw [readD, HQ.out.1, HQ.out.2.2.1]; rfl
          rw [eB, eD]
          have HBe := HIDk (HB1.out.trans ((B9.out.trans (hb9.mono B9.out.size)).mono HB1.out.size))
          clear eB eD hb9 A9 B9
          have hself : (dd.toList == dd.toList) = true := by simp
          rcases HQ5.out with ⟨e1, e2⟩ | ⟨e1, e2⟩
          · rw [e1, e2]
            have hs2 : ((dataF L x).toList == (dataF L x).toList) = true := by simp
            obtain ⟨b, hb⟩ : ∃ b, b = hasF L x := ⟨_, rfl⟩
            rw [← hb]
            clear hb e1 e2 HQ5
            cases b <;> go_wp2 <;> go_ret <;> exact ⟨rfl, HBe.out⟩
          · rw [e1, e2]
            obtain ⟨b, hb⟩ : ∃ b, b = hasF L x := ⟨_, rfl⟩
            rw [← hb]
            clear hb e1 e2 HQ5
            cases he : (dd.toList == (dataF L x).toList) <;> cases b <;> go_wp2 <;> go_ret <;> exact ⟨rfl, HBe.out⟩
  · have HBe := HIDk (HB1.out.trans (K6.out.2.mono HB1.out.size))
    have hc2 : (rC L L [] x dd == rC L L [] x dd) = true := by simp
    have hc3 : (rC L L [] x dd == 0) = false := by simpa using hc
    go_wp2
    rw [← hX6]
    go_ret
    exact ⟨rfl, HBe.out⟩
theorem own : ownKnob Try.prog.godebug = none := by kernel_rfl
theorem laidOut : laidOutB Try.prog = true := by kernel_rfl

set_option maxRecDepth 100000 in
theorem lifted (os : Os) (started : os.Started) (H : Type) (enc : TypeId × Value → H) :
    ReturnsInHanded {} Try.checked os 7 .any (Rows.fnReplacedSpec.pre6 enc Try.prog Try.f7 Rows.fnReplacedRow.domain false) (Rows.fnReplacedSpec.post enc Try.prog Try.f7 false true false false) := by
  refine returnsInHanded_of_change (C := Try.checked) own started (by kernel_rfl) Try.func7
    (ChangeSpec.witness6 (enc := enc) (C := Try.checked) false ⟨#[], #[.slice none 0 0], []⟩ 8 (by kernel_rfl) (by kernel_rfl) (by kernel_rfl) (by kernel_rfl)) ?_
  intro W base args ds gs before hval0 hW hcnd _
  have hval : ∀ (j : Nat) t v, Try.f7.params[j]? = some t → args[j]? = some v → Value.okWide Try.prog W .any base t v := hval0
  have hW' := hW
  obtain ⟨p, q, hA0, hV, rfl, hfz, hnd⟩ := hW
  have hA : DataW.TrodAll enc Try.prog W 0 (fun _ => true) true Try.f7.params.toList args.toList ds p := hA0
  rw [Try.params7] at hA hval
  obtain ⟨v0, vs0, d0, ds0, p0, q0, hargs, rfl, rfl, h0, r0⟩ := trodAll_cons hA
  obtain ⟨rfl, rfl, rfl⟩ := trodAll_nil r0
  obtain rfl : args = #[v0] := by cases args; simp_all
  obtain ⟨rfl, rfl⟩ := trodVars_none hV
  have k0 := h0
  have lt0 : ∀ x ∈ p0, x.block < W.heap.size := by obtain ⟨m, hm⟩ := k0; exact DataW.trod_lt m _ _ _ hm
  obtain ⟨ad0, len0, cap0, hv0⟩ := okWide_slice Try.underlying49 (hval 0 49 v0 rfl rfl)
  subst hv0
  obtain ⟨fuel0, hf0⟩ := h0
  have hby0 := open_bytes (by simpa [Value.cells] using hf0)
  clear hA0 hval0
  refine (walk ad0 len0 cap0 W hby0).mono fun e W' ⟨he, bel⟩ => ?_
  subst he
  exact ⟨_, rfl, _, _, _, [], _, [], hW', trodAll_mk1 (shut_bool Try.underlying4 _), (trodAll_cons_mk (Below.trod laidOut (by kernel_rfl) (of_decide_eq_true (by kernel_rfl)) k0 bel lt0) trodAll_mk0), rfl, bel.frame _, fun h => by cases h⟩

theorem over : Rows.fnReplacedRow.holds Try.pinned (OpenSpec.ofChange Rows.fnReplacedSpec) :=
  OpenClaim.holds_of_wide 7 Try.f7 rfl rfl rfl rfl rfl rfl rfl ⟨rfl, rfl, rfl, rfl, rfl⟩ rfl rfl rfl rfl rfl (by kernel_rfl) Try.func7 (by kernel_rfl)
    (of_decide_eq_true (by kernel_rfl)) (by unfold Func.isWrapper; first | (rw [if_pos (by decide +kernel)]; kernel_rfl) | (rw [if_neg (by decide +kernel)]; exact ⟨rfl, rfl⟩))
    (fun os started H enc _ => lifted os started H enc)

end fnReplaced
theorem FnReplaced_holds : Rows.FnReplacedSaid := fnReplaced.over
end Go.Proofs.Ytbfimfmfdllejaa
