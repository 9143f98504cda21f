/- The document's Sync once more: the live files lie in a row of the call's own. -/
import Derived.Test.YtbfimfmfdllejaaActDkL
namespace Go.Proofs.Ytbfimfmfdllejaa
open Go.ChangeShapes Go.WideShapes Go.ChangeAt Go.RowKit Go.Maps
set_option linter.unusedVariables false

theorem appFL (w : World) (ad : Option Addr) (cap : Nat) (xs : List Fl) (hS : SlF w ad xs) (hl : xs.length ≤ 1048576) (base : Nat) (hbase : base ≤ w.heap.size) (v : Value) (hv : Empt w base 93 v) (ty : TypeId) :
    ∃ v' w', (Builtin.append_ #[30, 30] ty #[v, .slice ad xs.length cap]).run Try.prog w = .ok v' w' ∧ Below w.heap.size w w' ∧ NewF w w' v' xs ∧ w'.ownsRow base 93 2 v' xs.length (rowsF xs) := by
  obtain ⟨iF, hiF, z0, z1, z2⟩ := info_parts info_file
  obtain ⟨v', w', hr, hB, h, hown⟩ := run_append_new w 30 ty 93 iF (.agg #[.string ⟨#[]⟩, .string ⟨#[]⟩]) 2 32 Try.underlying30 hiF z0 z1 z2 rfl (by decide) base hbase v hv ad xs.length cap (rowsF xs) (rowsF_len xs) hS.none0 (newsF hS) (rowF_ones xs) (by unfold maxLen; omega) (by omega)
  refine ⟨v', w', hr, hB, ⟨?_⟩, hown⟩
  rcases h with ⟨h0, ad', rfl⟩ | ⟨-, h⟩
  · have : xs = [] := List.length_eq_zero_iff.1 h0
    subst this
    exact ⟨ad', 0, rfl, fun _ => rfl, .inl rfl, fun hn => absurd rfl hn⟩
  · exact own_filesF h rfl
def DiskToL (w : World) (ls : List Fl) (e : Ending) (w' : World) : Prop := DiskTo w ls ls [] e w' ∧ ∀ a b c, e = .returned (.agg #[a, b, c]) → LiveR w' w.heap.size a ls
theorem diskL_nil {w w' : World} {ls : List Fl} (hl : ls = []) (hB : Below w.heap.size w w') : DiskToL w ls (.returned (.agg #[.slice none 0 0, .slice none 0 0, .slice none 0 0])) w' :=
  ⟨diskTo_nil hl hl rfl hB, fun a b c e => by
    injection e with e
    injection e with e
    simp only [Array.mk.injEq, List.cons.injEq, and_true] at e
    rw [← e.1]
    exact .inr ⟨hl, .inl rfl⟩⟩
theorem diskL_eq {w w' : World} {xs ys : List Fl} {e : Ending} (h : ys = xs) (hD : DiskToL w xs e w') : DiskToL w ys e w' := by rw [h]; exact hD
def Vsl (w : World) (adL adS adO : Option Addr) (capL capS capO : Nat) (ls ss : List Fl) (os : List Dop) (k : Nat) (u : Value) (W : World) : Prop :=
  match k with
  | 0 => Empt W (w.heap.size + 2) 93 u
  | 1 => u = .pointer (some ⟨w.heap.size, 0, none⟩)
  | 2 => u = .slice adL ls.length capL
  | 3 => RF W (w.heap.size + 2) u ls ∧ W.ownsRow (w.heap.size + 2) 93 2 u ls.length (rowsF ls)
  | 4 => Empt W (w.heap.size + 2) 93 u
  | 5 => u = .pointer (some ⟨w.heap.size, 0, none⟩)
  | 6 => u = .slice adL ls.length capL
  | 7 => RF W (w.heap.size + 2) u ls
  | 8 => DB W (w.heap.size + 2) u ls ls [] ∧ ∀ a b c, u = .agg #[a, b, c] → W.ownsRow (w.heap.size + 2) 93 2 a ls.length (rowsF ls)
  | _ => True
def Nsl (ls ss : List Fl) (os : List Dop) (k : Nat) : Prop :=
  match k with
  | 3 => ls ≠ []
  | 7 => ls ≠ []
  | _ => False
theorem Vsl_mono (w : World) (adL adS adO : Option Addr) (capL capS capO : Nat) (ls ss : List Fl) (os : List Dop) {W W' : World} (hB : Below W.heap.size W W') (k : Nat) (u : Value) (h : Vsl w adL adS adO capL capS capO ls ss os k u W) : Vsl w adL adS adO capL capS capO ls ss os k u W' :=
  match k, h with
  | 0, h => Empt.below h hB
  | 1, h => h
  | 2, h => h
  | 3, h => ⟨RF.below h.1 hB, own_later h.2 hB⟩
  | 4, h => Empt.below h hB
  | 5, h => h
  | 6, h => h
  | 7, h => RF.below h hB
  | 8, h => ⟨DB.below h.1 hB, fun a b c e => own_later (h.2 a b c e) hB⟩
  | (_ + 9), _ => trivial
theorem Vsl_lt (w : World) (adL adS adO : Option Addr) (capL capS capO : Nat) (ls ss : List Fl) (os : List Dop) {W : World} (k : Nat) (u : Value) (hn : Nsl ls ss os k) (h : Vsl w adL adS adO capL capS capO ls ss os k u W) : ∃ g, u.ownBlock = some g ∧ g < W.heap.size :=
  match k, hn, h with
  | 3, hn, h => RF.lt h.1 hn
  | 7, hn, h => RF.lt h hn
set_option maxRecDepth 8000 in
set_option maxHeartbeats 8000000 in
theorem specSyncL_any (adL adS adO : Option Addr) (capL capS capO : Nat) (ls ss : List Fl) (os : List Dop) (w : World) (hl : ls.length ≤ 1048576) (hs : ss.length ≤ 1048576) (ho : os.length ≤ 1048576)
    (H : Dk w adL adS adO ls ss os w) (hcS : adS = none → capS = 0) (fl : ∀ f ∈ ls, f.n.size ≤ maxLen ∧ f.d.size ≤ 4194304) (fs' : ∀ f ∈ ss, f.n.size ≤ maxLen ∧ f.d.size ≤ 4194304) (fo : ∀ o ∈ os, o.small) :
    Calls Try.prog 84 #[.agg #[.slice adL ls.length capL, .slice adS ss.length capS, .slice adO os.length capO]] w (DiskToL w (syL ls ss os)) := by
  obtain ⟨W2, hW2⟩ : ∃ W2, W2 = (w.alloc (.cells #[.slice adL ls.length capL, .slice adS ss.length capS, .slice adO os.length capO] 33)).alloc (.cells #[.slice none 0 0, .slice none 0 0, .slice none 0 0] 33) := ⟨_, rfl⟩
  obtain ⟨z0, z1, z2, q0, q1, q2, qf, hw2⟩ := box2 w (.slice adL ls.length capL) (.slice adS ss.length capS) (.slice adO os.length capO) 33 33
  rw [← hW2] at z0 z1 z2 q0 q1 q2 qf hw2
  have hb2 : Below w.heap.size w W2 := by rw [hW2]; exact ((Below.refl _ _).alloc (Nat.le_refl _) _).alloc (by simp) _
  have K0 := HIDk (H.later hb2)
  have HX : Hid (Box2 w (.slice adL ls.length capL) (.slice adS ss.length capS) (.slice adO os.length capO) W2) := ⟨z0, z1, z2, q0, q1, q2, qf, hw2⟩
  have HFL := HIDk fl
  have HFS := HIDk fs'
  have HFO := HIDk fo
  have HCS := HIDk hcS
  clear H hb2 z0 z1 z2 q0 q1 q2 qf hw2 fl fs' fo hcS
  go_enter Try.func84, Try.ntmps84
  go_wp2_with fail
  rw [← hW2]
  clear hW2
  refine (specDiskOk_any adL adS adO capL capS capO ls ss os W2 hl hs ho (dk_self K0.out) HCS.out HFL.out HFS.out HFO.out).mono ?_
  rintro e w1 ⟨rfl, hb1⟩
  have K2 := HIDk (K0.out.later hb1)
  have HY := HIDk (HX.out.later hb1)
  clear hb1 K0 HX
  obtain ⟨z0, z1, z2, q0, q1, q2, qf, hw2⟩ := HY.out
  have hx2 : w.heap.size < w1.heap.size := by omega
  have hx3 : w.heap.size + 1 < w1.heap.size := by omega
  cases hd : diskB ls ss os with
  | false =>
    have HE : Hid (syL ls ss os = []) := by show _ = _; rw [syL, hd]; rfl
    clear hd
    go_wp2
    refine bodyPost_ret (v := .agg #[.slice none 0 0, .slice none 0 0, .slice none 0 0]) (by simp [results, Try.results84, go_sem, *]) rfl (diskL_nil HE.out ?_)
    exact ((K2.out.bel.setCell (p := ⟨w.heap.size + 1, 0, none⟩) (by simp) _).setCell (p := ⟨w.heap.size + 1, 1, none⟩) (by simp) _).setCell (p := ⟨w.heap.size + 1, 2, none⟩) (by simp) _
  | true =>
    have HE : Hid (syL ls ss os = ls) := by show _ = _; rw [syL, hd]; rfl
    clear hd HY
    go_wp2_with fail
    refine wp_region_midR 9 (fun _ => undef) (fun fq => { tmps := List.toArray (Value.agg #[.slice adL ls.length capL, .slice adS ss.length capS, .slice adO os.length capO] :: Value.pointer (some ⟨w.heap.size, 0, none⟩) :: Value.pointer (some ⟨w.heap.size + 1, 0, none⟩) :: Value.agg #[.slice adL ls.length capL, .slice adS ss.length capS, .slice adO os.length capO] :: Value.bool true :: Value.bool false :: undef :: fq 0 :: fq 1 :: fq 2 :: fq 3 :: fq 4 :: fq 5 :: fq 6 :: fq 7 :: fq 8 :: []), defers := [] }) (Vsl w adL adS adO capL capS capO ls ss os) (fun w' => Below w1.heap.size w1 w') (Nsl ls ss os) (by kernel_rfl) rfl (by kernel_rfl) (by kernel_rfl) rfl (Below.refl _ _).drew ?_ ?_
    · rintro i hi op ho fq w' hG hpre hap
      have HG : Hid (Below w1.heap.size w1 w') := hG
      have x0 : w'.cell? ⟨w.heap.size, 0, none⟩ = some (.slice adL ls.length capL) := kept hG hx2 z0
      have x1 : w'.cell? ⟨w.heap.size, 1, none⟩ = some (.slice adS ss.length capS) := kept hG hx2 z1
      have x2 : w'.cell? ⟨w.heap.size, 2, none⟩ = some (.slice adO os.length capO) := kept hG hx2 z2
      have HK := HIDk (K2.out.later hG)
      have hsz : w.heap.size + 2 ≤ w'.heap.size := Nat.le_trans hw2 hG.size
      have HM : Hid (∀ e ∈ op.after, Region.binds .any e = true → _) := hpre
      have HA : Hid (∀ e ∈ op.after, Region.binds .any e = true → _) := hap
      clear hG hpre hap z0 z1 z2
      have hc : i = 0 ∨ i = 1 ∨ i = 2 ∨ i = 3 ∨ i = 4 ∨ i = 5 ∨ i = 6 ∨ i = 7 ∨ i = 8 := by omega
      clear hi
      rcases hc with rfl | rfl | rfl | rfl | rfl | rfl | rfl | rfl | rfl
      · obtain rfl := Option.some.inj ho
        clear ho HM HA
        refine wpOp_step rfl (fun K hK => ?_)
        have HQ : Hid (∀ a w, _ → K a w) := hK
        clear hK
        dsimp only
        go_simp
        have hB : Below w'.heap.size w' (w'.alloc (.cells #[] 93)) := (Below.refl _ _).alloc (Nat.le_refl _) _
        exact HQ.out _ _ ⟨_, by simp [upd], HG.out.trans (hB.mono HG.out.size), .inr ⟨_, rfl, heap_alloc_new _ _, hsz⟩, Vsl_mono w adL adS adO capL capS capO ls ss os hB, fun hn => by cases hn⟩
      · obtain rfl := Option.some.inj ho
        clear ho HM HA
        refine wpOp_step rfl (fun K hK => ?_)
        have HQ : Hid (∀ a w, _ → K a w) := hK
        clear hK
        dsimp only
        go_simp
        exact HQ.out _ _ ⟨.pointer (some ⟨w.heap.size, 0, none⟩), by simp [upd], HG.out, rfl, fun k u hu => hu, fun hn => by cases hn⟩
      · obtain rfl := Option.some.inj ho
        have e1 : fq 1 = .pointer (some ⟨w.heap.size, 0, none⟩) := HM.out { on := 1, ground := .data } (by simp) rfl
        clear ho HM HA
        refine wpOp_step rfl (fun K hK => ?_)
        have HQ : Hid (∀ a w, _ → K a w) := hK
        clear hK
        simp only [e1]
        go_simp
        exact HQ.out _ _ ⟨.slice adL ls.length capL, by simp [upd, e1], HG.out, rfl, fun k u hu => hu, fun hn => by cases hn⟩
      · obtain rfl := Option.some.inj ho
        have y0 : Empt w' (w.heap.size + 2) 93 (fq 0) := HM.out { on := 0, ground := .data } (by simp) rfl
        have e2 : fq 2 = .slice adL ls.length capL := HM.out { on := 2, ground := .data } (by simp) rfl
        clear ho HM HA
        obtain ⟨v', w'', hr, hB, hN, hOw⟩ := appFL w' adL capL ls HK.out.live hl (w.heap.size + 2) hsz (fq 0) (y0) _
        refine wpOp_append_run rfl rfl _ _ _ _ rfl (fq 0) (.slice adL ls.length capL) v' w'' rfl e2 hr ?_
        exact ⟨v', by simp [upd, Act.put], HG.out.trans (hB.mono HG.out.size), ⟨newF hN hsz, hOw⟩, Vsl_mono w adL adS adO capL capS capO ls ss os hB, fun hn k u hk hu => newF_apart hN hn (Vsl_lt w adL adS adO capL capS capO ls ss os k u hk hu)⟩
      · obtain rfl := Option.some.inj ho
        clear ho HM HA
        refine wpOp_step rfl (fun K hK => ?_)
        have HQ : Hid (∀ a w, _ → K a w) := hK
        clear hK
        dsimp only
        go_simp
        have hB : Below w'.heap.size w' (w'.alloc (.cells #[] 93)) := (Below.refl _ _).alloc (Nat.le_refl _) _
        exact HQ.out _ _ ⟨_, by simp [upd], HG.out.trans (hB.mono HG.out.size), .inr ⟨_, rfl, heap_alloc_new _ _, hsz⟩, Vsl_mono w adL adS adO capL capS capO ls ss os hB, fun hn => by cases hn⟩
      · obtain rfl := Option.some.inj ho
        clear ho HM HA
        refine wpOp_step rfl (fun K hK => ?_)
        have HQ : Hid (∀ a w, _ → K a w) := hK
        clear hK
        dsimp only
        go_simp
        exact HQ.out _ _ ⟨.pointer (some ⟨w.heap.size, 0, none⟩), by simp [upd], HG.out, rfl, fun k u hu => hu, fun hn => by cases hn⟩
      · obtain rfl := Option.some.inj ho
        have e5 : fq 5 = .pointer (some ⟨w.heap.size, 0, none⟩) := HM.out { on := 5, ground := .data } (by simp) rfl
        clear ho HM HA
        refine wpOp_step rfl (fun K hK => ?_)
        have HQ : Hid (∀ a w, _ → K a w) := hK
        clear hK
        simp only [e5]
        go_simp
        exact HQ.out _ _ ⟨.slice adL ls.length capL, by simp [upd, e5], HG.out, rfl, fun k u hu => hu, fun hn => by cases hn⟩
      · obtain rfl := Option.some.inj ho
        have y4 : Empt w' (w.heap.size + 2) 93 (fq 4) := HM.out { on := 4, ground := .data } (by simp) rfl
        have e6 : fq 6 = .slice adL ls.length capL := HM.out { on := 6, ground := .data } (by simp) rfl
        clear ho HM HA
        obtain ⟨v', w'', hr, hB, hN⟩ := appF w' adL capL ls HK.out.live hl (w.heap.size + 2) hsz (fq 4) (y4) _
        refine wpOp_append_run rfl rfl _ _ _ _ rfl (fq 4) (.slice adL ls.length capL) v' w'' rfl e6 hr ?_
        exact ⟨v', by simp [upd, Act.put], HG.out.trans (hB.mono HG.out.size), newF hN hsz, Vsl_mono w adL adS adO capL capS capO ls ss os hB, fun hn k u hk hu => newF_apart hN hn (Vsl_lt w adL adS adO capL capS capO ls ss os k u hk hu)⟩
      · obtain rfl := Option.some.inj ho
        have y3' : RF w' (w.heap.size + 2) (fq 3) ls ∧ w'.ownsRow (w.heap.size + 2) 93 2 (fq 3) ls.length (rowsF ls) := HM.out { on := 3, ground := .data } (by simp) rfl
        obtain ⟨y3, hOw⟩ := y3'
        have y7 : RF w' (w.heap.size + 2) (fq 7) ls := HM.out { on := 7, ground := .data } (by simp) rfl
        have n01 := HA.out { on := 3, ground := .data } (by simp) rfl { on := 7, ground := .data } (by simp) rfl (by decide)
        clear ho HM HA
        refine wpOp_step rfl (fun K hK => ?_)
        have HQ : Hid (∀ a w, _ → K a w) := hK
        clear hK
        obtain ⟨ad3, cap3, e3, c3, s3, g3⟩ := y3
        obtain ⟨ad7, cap7, e7, c7, s7, g7⟩ := y7
        rw [e3, e7] at n01
        rw [e3] at hOw
        have HOw := HIDk hOw
        clear hOw
        have HS := HIDk (own_mk2 s3 s7 g3 g7 n01)
        clear s3 g3 s7 g7 n01
        simp only [e3, e7]
        go_simp
        exact HQ.out _ _ ⟨.agg #[.slice ad3 ls.length cap3, .slice ad7 ls.length cap7, .slice none 0 0], by simp [upd, e3, e7], HG.out, ⟨⟨_, _, _, _, _, _, rfl, HS.out, ⟨c7, c3⟩⟩, fun a b c e => by injection e with e; simp only [Array.mk.injEq, List.cons.injEq, and_true] at e; rw [← e.1]; exact HOw.out⟩, fun k u hu => hu, fun hn => by cases hn⟩
    · rintro op ho fq w' hG hV hR
      obtain rfl := Option.some.inj ho
      obtain ⟨⟨a1, a2, a3, p1, p2, p3, e8, hS, hcS⟩, hL8⟩ : DB w' (w.heap.size + 2) (fq 8) ls ls [] ∧ ∀ a b c, fq 8 = .agg #[a, b, c] → w'.ownsRow (w.heap.size + 2) 93 2 a ls.length (rowsF ls) := hV 8 (by omega)
      have HLv := HIDk (hL8 _ _ _ e8)
      clear hL8
      have r0 : (w'.cell? ⟨w.heap.size + 1, 0, none⟩) = some (.slice none 0 0) := kept hG hx3 q0
      have r1 : (w'.cell? ⟨w.heap.size + 1, 1, none⟩) = some (.slice none 0 0) := kept hG hx3 q1
      have r2 : (w'.cell? ⟨w.heap.size + 1, 2, none⟩) = some (.slice none 0 0) := kept hG hx3 q2
      have fz : ∀ i, w'.frozen? ⟨w.heap.size + 1, i, none⟩ = false := fun i => keptF hG hx3 (qf i)
      have HS := HIDk hS
      have HG := HIDk hG
      clear hS hV hR hG ho q0 q1 q2 qf z0 z1 z2
      refine wpOp_step rfl (fun K hK => ?_)
      have HQ : Hid (∀ a w, _ → K a w) := hK
      clear hK
      simp only [e8]
      go_simp
      refine HQ.out _ _ ?_
      go_wp2
      refine bodyPost_ret (v := .agg #[.slice a1 ls.length p1, .slice a2 ls.length p2, .slice a3 0 p3]) (by simp [results, Try.results84, go_sem, *]) rfl (diskL_eq HE.out ⟨⟨_, rfl, ⟨_, _, _, _, _, _, rfl, ?_, hcS⟩, ?_⟩, fun a b c e => ?_⟩)
      · exact (own_box (own_box (own_box HS.out (by omega) _ _) (by omega) _ _) (by omega) _ _).mono (by omega)
      · exact (((K2.out.bel.trans (HG.out.mono K2.out.bel.size)).setCell (p := ⟨w.heap.size + 1, 0, none⟩) (by simp) _).setCell (p := ⟨w.heap.size + 1, 1, none⟩) (by simp) _).setCell (p := ⟨w.heap.size + 1, 2, none⟩) (by simp) _
      · injection e with e
        injection e with e
        simp only [Array.mk.injEq, List.cons.injEq, and_true] at e
        rw [← e.1]
        exact (LiveR.set (LiveR.set (LiveR.set (.inl HLv.out) (show w.heap.size + 1 < w.heap.size + 2 by omega) _ _) (show w.heap.size + 1 < w.heap.size + 2 by omega) _ _) (show w.heap.size + 1 < w.heap.size + 2 by omega) _ _).mono (by omega)
end Go.Proofs.Ytbfimfmfdllejaa
