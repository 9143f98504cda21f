/- Contracts of both functions that sync a disk. -/
import Derived.Test.YtbfimfmfdllejaaCopyDk2
namespace Go.Proofs.Ytbfimfmfdllejaa
open Go.ChangeShapes Go.WideShapes Go.ChangeAt Go.RowKit Go.Maps
set_option linter.unusedVariables false

def syL (ls ss : List Fl) (os : List Dop) : List Fl := if diskB ls ss os then ls else []
def DiskTo (w : World) (ls ss : List Fl) (os : List Dop) (e : Ending) (w' : World) : Prop := ∃ v, e = .returned v ∧ DB w' w.heap.size v ls ss os ∧ Below w.heap.size w w'
theorem ownD_nil (w : World) (base : Nat) : OwnD w base none none none [] [] [] := ⟨.inl rfl, .inl rfl, .inl rfl, fun h => absurd rfl h, fun h => absurd rfl h, fun h => absurd rfl h, fun h => absurd rfl h, fun h => absurd rfl h, fun h => absurd rfl h⟩
theorem diskTo_nil {w w' : World} {ls ss : List Fl} {os : List Dop} (hl : ls = []) (hs : ss = []) (ho : os = []) (hB : Below w.heap.size w w') : DiskTo w ls ss os (.returned (.agg #[.slice none 0 0, .slice none 0 0, .slice none 0 0])) w' := by
  subst hl; subst hs; subst ho
  exact ⟨_, rfl, ⟨none, none, none, 0, 0, 0, rfl, ownD_nil _ _, ⟨fun _ => rfl, fun _ => rfl⟩⟩, hB⟩
theorem diskTo_eq {w w' : World} {xs ys : List Fl} {e : Ending} (h : ys = xs) (hD : DiskTo w xs xs [] e w') : DiskTo w ys ys [] e w' := by rw [h]; exact hD
theorem diskTo_mk {w w' : World} {ls ss : List Fl} {os : List Dop} {a b c : Option Addr} {p q r : Nat} (hS : OwnD w' w.heap.size a b c ls ss os) (hc : Nils a b p q) (hB : Below w.heap.size w w') : DiskTo w ls ss os (.returned (.agg #[.slice a ls.length p, .slice b ss.length q, .slice c os.length r])) w' :=
  ⟨_, rfl, ⟨a, b, c, p, q, r, rfl, hS, hc⟩, hB⟩

set_option maxRecDepth 8000 in
set_option maxHeartbeats 2000000 in
theorem syncedDisk_any (ad : Option Addr) (cap : Nat) (xs : List Fl) (w : World) (hS : SlF w ad xs) (hl : xs.length ≤ 1048576) :
    Calls Try.prog 55 #[.slice ad xs.length cap] w (DiskTo w xs xs []) := by
  obtain ⟨W, hW⟩ : ∃ W, W = w.alloc (.cells #[.slice none 0 0, .slice none 0 0, .slice none 0 0] 33) := ⟨_, rfl⟩
  have hb : Below w.heap.size w W := by rw [hW]; exact (Below.refl _ _).alloc (Nat.le_refl _) _
  have C0 : Hid (Cl w (.slice none 0 0) (.slice none 0 0) (.slice none 0 0) W) := by rw [hW]; exact cl_new _ _ _ _ _
  have HF0 : Hid (Free W w.heap.size) := by rw [hW]; exact fun k => fz0 _ _ _ k
  have HS0 := HIDk (hS.below hb)
  have HB0 := HIDk hb
  clear hS hb
  go_enter Try.func55, Try.ntmps55
  go_wp2_with fail
  rw [← hW]
  clear hW
  refine (copyFiles_any ad cap xs W HS0.out hl).mono ?_
  rintro e w1 ⟨v1, rfl, hN1, hb1⟩
  have HS1 := HIDk (HS0.out.below hb1)
  have C1 := HIDk (C0.out.later hb1)
  have HB1 := HIDk (HB0.out.trans (hb1.mono HB0.out.size))
  have HF1 : Hid (Free w1 w.heap.size) := fun j => keptF hb1 C0.out.lt (HF0.out j)
  have HR1 : Hid (RF w1 (w.heap.size + 1) v1 xs) := newF hN1 (by have := C0.out.lt; omega)
  clear hN1 hb1 HS0 C0 HB0 HF0
  go_wp2_with fail
  refine (copyFiles_any ad cap xs w1 HS1.out hl).mono ?_
  rintro e w2 ⟨v2, rfl, hN2, hb2⟩
  have HAP : Hid (xs ≠ [] → xs ≠ [] → v1.ownBlock ≠ v2.ownBlock) := fun hn _ => (newF_apart hN2 hn (HR1.out.lt hn)).symm
  have HR2 : Hid (RF w2 (w.heap.size + 1) v2 xs) := newF hN2 (by have := C1.out.lt; omega)
  have HR1' := HIDk (HR1.out.below hb2)
  have C2 := HIDk (C1.out.later hb2)
  have HB2 := HIDk (HB1.out.trans (hb2.mono HB1.out.size))
  have HF2 : Hid (Free w2 w.heap.size) := fun j => keptF hb2 C1.out.lt (HF1.out j)
  clear hN2 hb2 HS1 C1 HB1 HF1 HR1
  obtain ⟨a1, p1, rfl, c1, s1, g1⟩ := HR1'.out
  obtain ⟨a2, p2, rfl, c2, s2, g2⟩ := HR2.out
  have HO := HIDk (own_mk2 s1 s2 g1 g2 HAP.out)
  have HC2 : Hid (Nils a1 a2 p1 p2) := ⟨c2, c1⟩
  clear s1 s2 g1 g2 c1 c2 HAP HR2 HR1'
  obtain ⟨hlt, z0, z1, z2⟩ := C2.out
  have fz := HF2.out
  unfold Free at fz
  clear C2 HF2
  go_wp2
  refine bodyPost_ret (v := .agg #[.slice a1 xs.length p1, .slice a2 xs.length p2, .slice none 0 0]) (by simp [results, Try.results55, go_sem, *]) rfl (diskTo_mk ((own_box (own_box (own_box HO.out (by omega) _ _) (by omega) _ _) (by omega) _ _).mono (by omega)) HC2.out ?_)
  exact ((HB2.out.setCell (p := ⟨w.heap.size, 0, none⟩) (by simp) _).setCell (p := ⟨w.heap.size, 1, none⟩) (by simp) _).setCell (p := ⟨w.heap.size, 2, none⟩) (by simp) _

structure Box2 (w : World) (a b c : Value) (W : World) : Prop where
  z0 : W.cell? ⟨w.heap.size, 0, none⟩ = some a
  z1 : W.cell? ⟨w.heap.size, 1, none⟩ = some b
  z2 : W.cell? ⟨w.heap.size, 2, none⟩ = some c
  q0 : W.cell? ⟨w.heap.size + 1, 0, none⟩ = some (.slice none 0 0)
  q1 : W.cell? ⟨w.heap.size + 1, 1, none⟩ = some (.slice none 0 0)
  q2 : W.cell? ⟨w.heap.size + 1, 2, none⟩ = some (.slice none 0 0)
  qf : ∀ i, W.frozen? ⟨w.heap.size + 1, i, none⟩ = false
  sz : w.heap.size + 2 ≤ W.heap.size
theorem Box2.later {w W W' : World} {a b c : Value} (h : Box2 w a b c W) (hB : Below W.heap.size W W') : Box2 w a b c W' := by
  obtain ⟨z0, z1, z2, q0, q1, q2, qf, sz⟩ := h
  exact ⟨kept hB (by omega) z0, kept hB (by omega) z1, kept hB (by omega) z2, kept hB (by omega) q0, kept hB (by omega) q1, kept hB (by omega) q2, fun i => keptF hB (by omega) (qf i), Nat.le_trans sz hB.size⟩
set_option maxRecDepth 8000 in
set_option maxHeartbeats 8000000 in
theorem implSync_any (adL adS adO : Option Addr) (capL capS capO : Nat) (ls ss : List Fl) (os : List Dop) (w : World) (hl : ls.length ≤ 1048576) (hs : ss.length ≤ 1048576) (ho : os.length ≤ 1048576)
    (H : Dk w adL adS adO ls ss os w) (fl : ∀ f ∈ ls, f.n.size ≤ maxLen ∧ f.d.size ≤ 4194304) (fs' : ∀ f ∈ ss, f.n.size ≤ maxLen ∧ f.d.size ≤ 4194304) (fo : ∀ o ∈ os, o.small) :
    Calls Try.prog 27 #[.agg #[.slice adL ls.length capL, .slice adS ss.length capS, .slice adO os.length capO]] w (DiskTo w (syL ls ss os) (syL ls ss os) []) := by
  obtain ⟨W2, hW2⟩ : ∃ W2, W2 = (w.alloc (.cells #[.slice adL ls.length capL, .slice adS ss.length capS, .slice adO os.length capO] 33)).alloc (.cells #[.slice none 0 0, .slice none 0 0, .slice none 0 0] 33) := ⟨_, rfl⟩
  obtain ⟨z0, z1, z2, q0, q1, q2, qf, hw2⟩ := box2 w (.slice adL ls.length capL) (.slice adS ss.length capS) (.slice adO os.length capO) 33 33
  rw [← hW2] at z0 z1 z2 q0 q1 q2 qf hw2
  have hb2 : Below w.heap.size w W2 := by rw [hW2]; exact ((Below.refl _ _).alloc (Nat.le_refl _) _).alloc (by simp) _
  have K0 := HIDk (H.later hb2)
  have HX : Hid (Box2 w (.slice adL ls.length capL) (.slice adS ss.length capS) (.slice adO os.length capO) W2) := ⟨z0, z1, z2, q0, q1, q2, qf, hw2⟩
  have HFL := HIDk fl
  have HFS := HIDk fs'
  have HFO := HIDk fo
  clear H hb2 z0 z1 z2 q0 q1 q2 qf hw2 fl fs' fo
  go_enter Try.func27, Try.ntmps27
  go_wp2_with fail
  rw [← hW2]
  clear hW2
  refine (implDiskOk_any adL adS adO capL capS capO ls ss os W2 hl hs ho (dk_self K0.out) HFL.out HFS.out HFO.out).mono ?_
  rintro e w1 ⟨rfl, hb1⟩
  have K2 := HIDk (K0.out.later hb1)
  have HY := HIDk (HX.out.later hb1)
  clear hb1 K0 HX
  obtain ⟨z0, z1, z2, q0, q1, q2, qf, hw2⟩ := HY.out
  have hx2 : w.heap.size < w1.heap.size := by omega
  have hx3 : w.heap.size + 1 < w1.heap.size := by omega
  cases hd : diskB ls ss os with
  | false =>
    have HE : Hid (syL ls ss os = []) := by show _ = _; rw [syL, hd]; rfl
    clear hd
    go_wp2
    refine bodyPost_ret (v := .agg #[.slice none 0 0, .slice none 0 0, .slice none 0 0]) (by simp [results, Try.results27, go_sem, *]) rfl (diskTo_nil HE.out HE.out rfl ?_)
    exact ((K2.out.bel.setCell (p := ⟨w.heap.size + 1, 0, none⟩) (by simp) _).setCell (p := ⟨w.heap.size + 1, 1, none⟩) (by simp) _).setCell (p := ⟨w.heap.size + 1, 2, none⟩) (by simp) _
  | true =>
    have HE : Hid (syL ls ss os = ls) := by show _ = _; rw [syL, hd]; rfl
    clear hd HY
    go_wp2_with fail
    refine (syncedDisk_any adL capL ls w1 K2.out.live hl).mono ?_
    rintro e w2 ⟨v2, rfl, ⟨a1, a2, a3, p1, p2, p3, rfl, hS, hcS⟩, hb2⟩
    have HS := HIDk (hS.mono (b' := w.heap.size + 2) hw2)
    have HB := HIDk (K2.out.bel.trans (hb2.mono K2.out.bel.size))
    replace q0 := kept hb2 hx3 q0
    replace q1 := kept hb2 hx3 q1
    replace q2 := kept hb2 hx3 q2
    have qf2 : ∀ i, w2.frozen? ⟨w.heap.size + 1, i, none⟩ = false := fun i => keptF hb2 hx3 (qf i)
    clear hS hb2 qf z0 z1 z2 K2
    go_wp2
    refine bodyPost_ret (v := .agg #[.slice a1 ls.length p1, .slice a2 ls.length p2, .slice a3 0 p3]) (by simp [results, Try.results27, go_sem, *]) rfl (diskTo_eq HE.out (diskTo_mk ((own_box (own_box (own_box HS.out (show w.heap.size + 1 < w.heap.size + 2 by omega) _ _) (show w.heap.size + 1 < w.heap.size + 2 by omega) _ _) (show w.heap.size + 1 < w.heap.size + 2 by omega) _ _).mono (show w.heap.size ≤ w.heap.size + 2 by omega)) hcS ?_))
    exact ((HB.out.setCell (p := ⟨w.heap.size + 1, 0, none⟩) (by simp) _).setCell (p := ⟨w.heap.size + 1, 1, none⟩) (by simp) _).setCell (p := ⟨w.heap.size + 1, 2, none⟩) (by simp) _
def Vsy (w : World) (adL adS adO : Option Addr) (capL capS capO : Nat) (ls ss : List Fl) (os : List Dop) (k : Nat) (u : Value) (W : World) : Prop :=
  match k with
  | 0 => Empt W (w.heap.size + 2) 93 u
  | 1 => u = .pointer (some ⟨w.heap.size, 0, none⟩)
  | 2 => u = .slice adL ls.length capL
  | 3 => RF W (w.heap.size + 2) u ls
  | 4 => Empt W (w.heap.size + 2) 93 u
  | 5 => u = .pointer (some ⟨w.heap.size, 0, none⟩)
  | 6 => u = .slice adL ls.length capL
  | 7 => RF W (w.heap.size + 2) u ls
  | 8 => DB W (w.heap.size + 2) u ls ls []
  | _ => True
def Nsy (ls ss : List Fl) (os : List Dop) (k : Nat) : Prop :=
  match k with
  | 3 => ls ≠ []
  | 7 => ls ≠ []
  | _ => False
theorem Vsy_mono (w : World) (adL adS adO : Option Addr) (capL capS capO : Nat) (ls ss : List Fl) (os : List Dop) {W W' : World} (hB : Below W.heap.size W W') (k : Nat) (u : Value) (h : Vsy w adL adS adO capL capS capO ls ss os k u W) : Vsy w adL adS adO capL capS capO ls ss os k u W' :=
  match k, h with
  | 0, h => Empt.below h hB
  | 1, h => h
  | 2, h => h
  | 3, h => RF.below h hB
  | 4, h => Empt.below h hB
  | 5, h => h
  | 6, h => h
  | 7, h => RF.below h hB
  | 8, h => DB.below h hB
  | (_ + 9), _ => trivial
theorem Vsy_lt (w : World) (adL adS adO : Option Addr) (capL capS capO : Nat) (ls ss : List Fl) (os : List Dop) {W : World} (k : Nat) (u : Value) (hn : Nsy ls ss os k) (h : Vsy w adL adS adO capL capS capO ls ss os k u W) : ∃ g, u.ownBlock = some g ∧ g < W.heap.size :=
  match k, hn, h with
  | 3, hn, h => RF.lt h hn
  | 7, hn, h => RF.lt h hn
set_option maxRecDepth 8000 in
set_option maxHeartbeats 8000000 in
theorem specSync_any (adL adS adO : Option Addr) (capL capS capO : Nat) (ls ss : List Fl) (os : List Dop) (w : World) (hl : ls.length ≤ 1048576) (hs : ss.length ≤ 1048576) (ho : os.length ≤ 1048576)
    (H : Dk w adL adS adO ls ss os w) (hcS : adS = none → capS = 0) (fl : ∀ f ∈ ls, f.n.size ≤ maxLen ∧ f.d.size ≤ 4194304) (fs' : ∀ f ∈ ss, f.n.size ≤ maxLen ∧ f.d.size ≤ 4194304) (fo : ∀ o ∈ os, o.small) :
    Calls Try.prog 84 #[.agg #[.slice adL ls.length capL, .slice adS ss.length capS, .slice adO os.length capO]] w (DiskTo w (syL ls ss os) (syL ls ss os) []) := by
  obtain ⟨W2, hW2⟩ : ∃ W2, W2 = (w.alloc (.cells #[.slice adL ls.length capL, .slice adS ss.length capS, .slice adO os.length capO] 33)).alloc (.cells #[.slice none 0 0, .slice none 0 0, .slice none 0 0] 33) := ⟨_, rfl⟩
  obtain ⟨z0, z1, z2, q0, q1, q2, qf, hw2⟩ := box2 w (.slice adL ls.length capL) (.slice adS ss.length capS) (.slice adO os.length capO) 33 33
  rw [← hW2] at z0 z1 z2 q0 q1 q2 qf hw2
  have hb2 : Below w.heap.size w W2 := by rw [hW2]; exact ((Below.refl _ _).alloc (Nat.le_refl _) _).alloc (by simp) _
  have K0 := HIDk (H.later hb2)
  have HX : Hid (Box2 w (.slice adL ls.length capL) (.slice adS ss.length capS) (.slice adO os.length capO) W2) := ⟨z0, z1, z2, q0, q1, q2, qf, hw2⟩
  have HFL := HIDk fl
  have HFS := HIDk fs'
  have HFO := HIDk fo
  have HCS := HIDk hcS
  clear H hb2 z0 z1 z2 q0 q1 q2 qf hw2 fl fs' fo hcS
  go_enter Try.func84, Try.ntmps84
  go_wp2_with fail
  rw [← hW2]
  clear hW2
  refine (specDiskOk_any adL adS adO capL capS capO ls ss os W2 hl hs ho (dk_self K0.out) HCS.out HFL.out HFS.out HFO.out).mono ?_
  rintro e w1 ⟨rfl, hb1⟩
  have K2 := HIDk (K0.out.later hb1)
  have HY := HIDk (HX.out.later hb1)
  clear hb1 K0 HX
  obtain ⟨z0, z1, z2, q0, q1, q2, qf, hw2⟩ := HY.out
  have hx2 : w.heap.size < w1.heap.size := by omega
  have hx3 : w.heap.size + 1 < w1.heap.size := by omega
  cases hd : diskB ls ss os with
  | false =>
    have HE : Hid (syL ls ss os = []) := by show _ = _; rw [syL, hd]; rfl
    clear hd
    go_wp2
    refine bodyPost_ret (v := .agg #[.slice none 0 0, .slice none 0 0, .slice none 0 0]) (by simp [results, Try.results84, go_sem, *]) rfl (diskTo_nil HE.out HE.out rfl ?_)
    exact ((K2.out.bel.setCell (p := ⟨w.heap.size + 1, 0, none⟩) (by simp) _).setCell (p := ⟨w.heap.size + 1, 1, none⟩) (by simp) _).setCell (p := ⟨w.heap.size + 1, 2, none⟩) (by simp) _
  | true =>
    have HE : Hid (syL ls ss os = ls) := by show _ = _; rw [syL, hd]; rfl
    clear hd HY
    go_wp2_with fail
    refine wp_region_midR 9 (fun _ => undef) (fun fq => { tmps := List.toArray (Value.agg #[.slice adL ls.length capL, .slice adS ss.length capS, .slice adO os.length capO] :: Value.pointer (some ⟨w.heap.size, 0, none⟩) :: Value.pointer (some ⟨w.heap.size + 1, 0, none⟩) :: Value.agg #[.slice adL ls.length capL, .slice adS ss.length capS, .slice adO os.length capO] :: Value.bool true :: Value.bool false :: undef :: fq 0 :: fq 1 :: fq 2 :: fq 3 :: fq 4 :: fq 5 :: fq 6 :: fq 7 :: fq 8 :: []), defers := [] }) (Vsy w adL adS adO capL capS capO ls ss os) (fun w' => Below w1.heap.size w1 w') (Nsy ls ss os) (by kernel_rfl) rfl (by kernel_rfl) (by kernel_rfl) rfl (Below.refl _ _).drew ?_ ?_
    · rintro i hi op ho fq w' hG hpre hap
      have HG : Hid (Below w1.heap.size w1 w') := hG
      have x0 : w'.cell? ⟨w.heap.size, 0, none⟩ = some (.slice adL ls.length capL) := kept hG hx2 z0
      have x1 : w'.cell? ⟨w.heap.size, 1, none⟩ = some (.slice adS ss.length capS) := kept hG hx2 z1
      have x2 : w'.cell? ⟨w.heap.size, 2, none⟩ = some (.slice adO os.length capO) := kept hG hx2 z2
      have HK := HIDk (K2.out.later hG)
      have hsz : w.heap.size + 2 ≤ w'.heap.size := Nat.le_trans hw2 hG.size
      have HM : Hid (∀ e ∈ op.after, Region.binds .any e = true → _) := hpre
      have HA : Hid (∀ e ∈ op.after, Region.binds .any e = true → _) := hap
      clear hG hpre hap z0 z1 z2
      have hc : i = 0 ∨ i = 1 ∨ i = 2 ∨ i = 3 ∨ i = 4 ∨ i = 5 ∨ i = 6 ∨ i = 7 ∨ i = 8 := by omega
      clear hi
      rcases hc with rfl | rfl | rfl | rfl | rfl | rfl | rfl | rfl | rfl
      · obtain rfl := Option.some.inj ho
        clear ho HM HA
        refine wpOp_step rfl (fun K hK => ?_)
        have HQ : Hid (∀ a w, _ → K a w) := hK
        clear hK
        dsimp only
        go_simp
        have hB : Below w'.heap.size w' (w'.alloc (.cells #[] 93)) := (Below.refl _ _).alloc (Nat.le_refl _) _
        exact HQ.out _ _ ⟨_, by simp [upd], HG.out.trans (hB.mono HG.out.size), .inr ⟨_, rfl, heap_alloc_new _ _, hsz⟩, Vsy_mono w adL adS adO capL capS capO ls ss os hB, fun hn => by cases hn⟩
      · obtain rfl := Option.some.inj ho
        clear ho HM HA
        refine wpOp_step rfl (fun K hK => ?_)
        have HQ : Hid (∀ a w, _ → K a w) := hK
        clear hK
        dsimp only
        go_simp
        exact HQ.out _ _ ⟨.pointer (some ⟨w.heap.size, 0, none⟩), by simp [upd], HG.out, rfl, fun k u hu => hu, fun hn => by cases hn⟩
      · obtain rfl := Option.some.inj ho
        have e1 : fq 1 = .pointer (some ⟨w.heap.size, 0, none⟩) := HM.out { on := 1, ground := .data } (by simp) rfl
        clear ho HM HA
        refine wpOp_step rfl (fun K hK => ?_)
        have HQ : Hid (∀ a w, _ → K a w) := hK
        clear hK
        simp only [e1]
        go_simp
        exact HQ.out _ _ ⟨.slice adL ls.length capL, by simp [upd, e1], HG.out, rfl, fun k u hu => hu, fun hn => by cases hn⟩
      · obtain rfl := Option.some.inj ho
        have y0 : Empt w' (w.heap.size + 2) 93 (fq 0) := HM.out { on := 0, ground := .data } (by simp) rfl
        have e2 : fq 2 = .slice adL ls.length capL := HM.out { on := 2, ground := .data } (by simp) rfl
        clear ho HM HA
        obtain ⟨v', w'', hr, hB, hN⟩ := appF w' adL capL ls HK.out.live hl (w.heap.size + 2) hsz (fq 0) (y0) _
        refine wpOp_append_run rfl rfl _ _ _ _ rfl (fq 0) (.slice adL ls.length capL) v' w'' rfl e2 hr ?_
        exact ⟨v', by simp [upd, Act.put], HG.out.trans (hB.mono HG.out.size), newF hN hsz, Vsy_mono w adL adS adO capL capS capO ls ss os hB, fun hn k u hk hu => newF_apart hN hn (Vsy_lt w adL adS adO capL capS capO ls ss os k u hk hu)⟩
      · obtain rfl := Option.some.inj ho
        clear ho HM HA
        refine wpOp_step rfl (fun K hK => ?_)
        have HQ : Hid (∀ a w, _ → K a w) := hK
        clear hK
        dsimp only
        go_simp
        have hB : Below w'.heap.size w' (w'.alloc (.cells #[] 93)) := (Below.refl _ _).alloc (Nat.le_refl _) _
        exact HQ.out _ _ ⟨_, by simp [upd], HG.out.trans (hB.mono HG.out.size), .inr ⟨_, rfl, heap_alloc_new _ _, hsz⟩, Vsy_mono w adL adS adO capL capS capO ls ss os hB, fun hn => by cases hn⟩
      · obtain rfl := Option.some.inj ho
        clear ho HM HA
        refine wpOp_step rfl (fun K hK => ?_)
        have HQ : Hid (∀ a w, _ → K a w) := hK
        clear hK
        dsimp only
        go_simp
        exact HQ.out _ _ ⟨.pointer (some ⟨w.heap.size, 0, none⟩), by simp [upd], HG.out, rfl, fun k u hu => hu, fun hn => by cases hn⟩
      · obtain rfl := Option.some.inj ho
        have e5 : fq 5 = .pointer (some ⟨w.heap.size, 0, none⟩) := HM.out { on := 5, ground := .data } (by simp) rfl
        clear ho HM HA
        refine wpOp_step rfl (fun K hK => ?_)
        have HQ : Hid (∀ a w, _ → K a w) := hK
        clear hK
        simp only [e5]
        go_simp
        exact HQ.out _ _ ⟨.slice adL ls.length capL, by simp [upd, e5], HG.out, rfl, fun k u hu => hu, fun hn => by cases hn⟩
      · obtain rfl := Option.some.inj ho
        have y4 : Empt w' (w.heap.size + 2) 93 (fq 4) := HM.out { on := 4, ground := .data } (by simp) rfl
        have e6 : fq 6 = .slice adL ls.length capL := HM.out { on := 6, ground := .data } (by simp) rfl
        clear ho HM HA
        obtain ⟨v', w'', hr, hB, hN⟩ := appF w' adL capL ls HK.out.live hl (w.heap.size + 2) hsz (fq 4) (y4) _
        refine wpOp_append_run rfl rfl _ _ _ _ rfl (fq 4) (.slice adL ls.length capL) v' w'' rfl e6 hr ?_
        exact ⟨v', by simp [upd, Act.put], HG.out.trans (hB.mono HG.out.size), newF hN hsz, Vsy_mono w adL adS adO capL capS capO ls ss os hB, fun hn k u hk hu => newF_apart hN hn (Vsy_lt w adL adS adO capL capS capO ls ss os k u hk hu)⟩
      · obtain rfl := Option.some.inj ho
        have y3 : RF w' (w.heap.size + 2) (fq 3) ls := HM.out { on := 3, ground := .data } (by simp) rfl
        have y7 : RF w' (w.heap.size + 2) (fq 7) ls := HM.out { on := 7, ground := .data } (by simp) rfl
        have n01 := HA.out { on := 3, ground := .data } (by simp) rfl { on := 7, ground := .data } (by simp) rfl (by decide)
        clear ho HM HA
        refine wpOp_step rfl (fun K hK => ?_)
        have HQ : Hid (∀ a w, _ → K a w) := hK
        clear hK
        obtain ⟨ad3, cap3, e3, c3, s3, g3⟩ := y3
        obtain ⟨ad7, cap7, e7, c7, s7, g7⟩ := y7
        rw [e3, e7] at n01
        have HS := HIDk (own_mk2 s3 s7 g3 g7 n01)
        clear s3 g3 s7 g7 n01
        simp only [e3, e7]
        go_simp
        exact HQ.out _ _ ⟨.agg #[.slice ad3 ls.length cap3, .slice ad7 ls.length cap7, .slice none 0 0], by simp [upd, e3, e7], HG.out, ⟨_, _, _, _, _, _, rfl, HS.out, ⟨c7, c3⟩⟩, fun k u hu => hu, fun hn => by cases hn⟩
    · rintro op ho fq w' hG hV hR
      obtain rfl := Option.some.inj ho
      obtain ⟨a1, a2, a3, p1, p2, p3, e8, hS, hcS⟩ : DB w' (w.heap.size + 2) (fq 8) ls ls [] := hV 8 (by omega)
      have r0 : (w'.cell? ⟨w.heap.size + 1, 0, none⟩) = some (.slice none 0 0) := kept hG hx3 q0
      have r1 : (w'.cell? ⟨w.heap.size + 1, 1, none⟩) = some (.slice none 0 0) := kept hG hx3 q1
      have r2 : (w'.cell? ⟨w.heap.size + 1, 2, none⟩) = some (.slice none 0 0) := kept hG hx3 q2
      have fz : ∀ i, w'.frozen? ⟨w.heap.size + 1, i, none⟩ = false := fun i => keptF hG hx3 (qf i)
      have HS := HIDk hS
      have HG := HIDk hG
      clear hS hV hR hG ho q0 q1 q2 qf z0 z1 z2
      refine wpOp_step rfl (fun K hK => ?_)
      have HQ : Hid (∀ a w, _ → K a w) := hK
      clear hK
      simp only [e8]
      go_simp
      refine HQ.out _ _ ?_
      go_wp2
      refine bodyPost_ret (v := .agg #[.slice a1 ls.length p1, .slice a2 ls.length p2, .slice a3 0 p3]) (by simp [results, Try.results84, go_sem, *]) rfl (diskTo_eq HE.out ⟨_, rfl, ⟨_, _, _, _, _, _, rfl, ?_, hcS⟩, ?_⟩)
      · exact (own_box (own_box (own_box HS.out (by omega) _ _) (by omega) _ _) (by omega) _ _).mono (by omega)
      · exact (((K2.out.bel.trans (HG.out.mono K2.out.bel.size)).setCell (p := ⟨w.heap.size + 1, 0, none⟩) (by simp) _).setCell (p := ⟨w.heap.size + 1, 1, none⟩) (by simp) _).setCell (p := ⟨w.heap.size + 1, 2, none⟩) (by simp) _
end Go.Proofs.Ytbfimfmfdllejaa
