/- The contract of the document's frame: one statement whose new row and whose call come in a free order. -/
import Derived.Test.YtcecoddgmifgkaaCrcW
import Derived.Test.YtcecoddgmifgkaaRegionGen
namespace Go.Proofs.Ytcecoddgmifgkaa
open Go.ChangeShapes Go.WideShapes Go.ChangeAt Go.RowKit
open Pl

/-- four bytes of a length at the head of a block -/
def By4 (w : World) (g n : Nat) : Prop := g < w.heap.size ∧ w.cell? ⟨g, 0, none⟩ = some (.int .u8 ((b8 (n / 16777216)).toNat : Int)) ∧ w.cell? ⟨g, 1, none⟩ = some (.int .u8 ((b8 (n / 65536)).toNat : Int)) ∧ w.cell? ⟨g, 2, none⟩ = some (.int .u8 ((b8 (n / 256)).toNat : Int)) ∧ w.cell? ⟨g, 3, none⟩ = some (.int .u8 ((b8 n).toNat : Int))
theorem By4.later {w w' : World} {g n : Nat} (h : By4 w g n) (hb : Below w.heap.size w w') : By4 w' g n := by
  obtain ⟨hl, h0, h1, h2, h3⟩ := h
  have hc := fun o => hb.cell (p := ⟨g, o, none⟩) hl
  exact ⟨Nat.lt_of_lt_of_le hl hb.size, by rw [hc]; exact h0, by rw [hc]; exact h1, by rw [hc]; exact h2, by rw [hc]; exact h3⟩
theorem by4_new (w : World) (n : Nat) : By4 (w.alloc (.cells #[.int .u8 (IntKind.u8.wrap ((n : Int) / 16777216)), .int .u8 (IntKind.u8.wrap ((n : Int) / 65536)), .int .u8 (IntKind.u8.wrap ((n : Int) / 256)), .int .u8 (IntKind.u8.wrap (n : Int))] 5)) w.heap.size n := by
  refine ⟨by simp, ?_, ?_, ?_, ?_⟩ <;> simp [b8_val, IntKind.wrap_u8]
theorem By4.conv {w : World} {g n : Nat} (h : By4 w g n) : (convert 41 9 (.slice (some ⟨g, 0, none⟩) 4 4)).run Try.prog w = .ok (.string (lenT n)) w := by
  obtain ⟨hl, h0, h1, h2, h3⟩ := h
  refine run_convert_bytes_back w 41 9 5 ⟨g, 0, none⟩ 4 [b8 (n / 16777216), b8 (n / 65536), b8 (n / 256), b8 n] Try.underlying41 Try.underlying5 Try.underlying9 (fun j hj => ?_)
  match j, hj with
  | 0, _ => simpa [Addr.add] using h0
  | 1, _ => simpa [Addr.add] using h1
  | 2, _ => simpa [Addr.add] using h2
  | 3, _ => simpa [Addr.add] using h3
  | j + 4, hj => exact absurd hj (by simp)
def VF (m : Nat) (l : List Value) (n : Nat) (v : Value) (w : World) : Prop := (n = 11 → ∃ g, v = .slice (some ⟨g, 0, none⟩) 4 4 ∧ By4 w g m) ∧ (n ≠ 11 → v = l.getD n undef)
theorem VF.later {m : Nat} {l : List Value} {w w' : World} (hb : Below w.heap.size w w') : ∀ k u, VF m l k u w → VF m l k u w' := fun k u h => ⟨fun e => by
  obtain ⟨g, e1, e2⟩ := h.1 e
  exact ⟨g, e1, e2.later hb⟩, h.2⟩

set_option maxRecDepth 100000 in
set_option maxHeartbeats 2000000 in
theorem specFrame_any (s : ByteArray) (w : World) (hs : s.size ≤ 1048576) :
    Calls Try.prog 19 #[.string s] w fun e w' => e = .returned (.string (frameT s)) ∧ Below w.heap.size w w' := by
  by_cases hbig : 100000 < s.size
  · have HE : Hid (frameT s = ⟨#[]⟩) := frameT_no hbig
    go_enter Try.func19, Try.ntmps19
    go_wp2
    go_ret
    exact ⟨ret_str HE.out.symm, Below.refl _ _⟩
  · have HE : Hid (frameT s = headT s ++ s) := frameT_yes hbig
    have HS : Hid (s.size ≤ maxLen) := by show _ ≤ _; unfold maxLen; omega
    have hov1 : (9223372036854775807 < (lenT s.size).size + (sumT (crcP s)).size) = False := by simp [lenT_size, sumT_size]
    have hov2 : (9223372036854775807 < (lenT s.size ++ sumT (crcP s)).size + s.size) = False := by simp only [ByteArray.size_append, lenT_size, sumT_size, eq_iff_iff, iff_false]; omega
    have hov3 : (9223372036854775807 < (lenT s.size).size + (sumT (crcP s)).size + s.size) = False := by simp only [lenT_size, sumT_size, eq_iff_iff, iff_false]; omega
    go_enter Try.func19, Try.ntmps19
    go_wp2_with fail
    clear hs hbig
    generalize decide ((100000 : Int) < (s.size : Int)) = bq
    refine wp_region_all 19 (fun n => (undef :: undef :: undef :: undef :: undef :: undef :: undef :: undef :: undef :: undef :: undef :: undef :: undef :: undef :: undef :: undef :: undef :: undef :: Value.string ⟨#[]⟩ :: []).getD n undef) (fun fq => { tmps := List.toArray (Value.string s :: undef :: fq 18 :: Value.int .i64 (s.size : Int) :: Value.string s :: Value.int .i64 (s.size : Int) :: Value.int .i64 (s.size : Int) :: Value.bool bq :: fq 0 :: fq 1 :: fq 2 :: fq 3 :: fq 4 :: fq 5 :: fq 6 :: fq 7 :: fq 8 :: fq 9 :: fq 10 :: fq 11 :: fq 12 :: fq 13 :: fq 14 :: fq 15 :: fq 16 :: fq 17 :: []), defers := [] }) (VF s.size (Value.int .i64 (s.size : Int) :: Value.int .i64 ((s.size : Int) / 16777216) :: Value.int .u8 (IntKind.u8.wrap ((s.size : Int) / 16777216)) :: Value.int .i64 (s.size : Int) :: Value.int .i64 ((s.size : Int) / 65536) :: Value.int .u8 (IntKind.u8.wrap ((s.size : Int) / 65536)) :: Value.int .i64 (s.size : Int) :: Value.int .i64 ((s.size : Int) / 256) :: Value.int .u8 (IntKind.u8.wrap ((s.size : Int) / 256)) :: Value.int .i64 (s.size : Int) :: Value.int .u8 (IntKind.u8.wrap (s.size : Int)) :: undef :: Value.string (lenT s.size) :: Value.string s :: Value.string (sumT (crcP s)) :: Value.string (lenT s.size ++ sumT (crcP s)) :: Value.string s :: Value.string ((lenT s.size ++ sumT (crcP s)) ++ s) :: Value.string ((lenT s.size ++ sumT (crcP s)) ++ s) :: [])) (fun w' => Below w.heap.size w w') (by kernel_rfl) rfl (by kernel_rfl) rfl (Below.refl _ _).drew ?stepF ?finF
    case stepF =>
      rintro i hi o ho fq w' hG hpre
      have HG : Hid (Below w.heap.size w w') := hG
      have HM : Hid (∀ e ∈ o.after, Region.binds .any e = true → _) := hpre
      clear hG hpre
      have hc : i = 0 ∨ i = 1 ∨ i = 2 ∨ i = 3 ∨ i = 4 ∨ i = 5 ∨ i = 6 ∨ i = 7 ∨ i = 8 ∨ i = 9 ∨ i = 10 ∨ i = 11 ∨ i = 12 ∨ i = 13 ∨ i = 14 ∨ i = 15 ∨ i = 16 ∨ i = 17 ∨ i = 18 := by omega
      clear hi
      rcases hc with rfl | rfl | rfl | rfl | rfl | rfl | rfl | rfl | rfl | rfl | rfl | rfl | rfl | rfl | rfl | rfl | rfl | rfl | rfl
      · obtain rfl := Option.some.inj ho
        clear ho HM
        refine wpOp_step rfl (fun K hK => ?_)
        have HK : Hid (∀ a w, _ → K a w) := hK
        clear hK
        dsimp only
        go_simp
        exact HK.out _ _ ⟨Value.int .i64 (s.size : Int), by simp [upd], HG.out, ⟨fun h => absurd h (by decide), fun _ => rfl⟩, fun k u hu => hu⟩
      · obtain rfl := Option.some.inj ho
        have e0 : fq 0 = Value.int .i64 (s.size : Int) := (HM.out { on := 0, ground := .data } (by simp) rfl).2 (by decide)
        clear ho HM
        refine wpOp_step rfl (fun K hK => ?_)
        have HK : Hid (∀ a w, _ → K a w) := hK
        clear hK
        simp only [e0]
        go_simp
        exact HK.out _ _ ⟨Value.int .i64 ((s.size : Int) / 16777216), by simp [upd, e0], HG.out, ⟨fun h => absurd h (by decide), fun _ => rfl⟩, fun k u hu => hu⟩
      · obtain rfl := Option.some.inj ho
        have e1 : fq 1 = Value.int .i64 ((s.size : Int) / 16777216) := (HM.out { on := 1, ground := .data } (by simp) rfl).2 (by decide)
        clear ho HM
        refine wpOp_step rfl (fun K hK => ?_)
        have HK : Hid (∀ a w, _ → K a w) := hK
        clear hK
        simp only [e1]
        go_simp
        exact HK.out _ _ ⟨Value.int .u8 (IntKind.u8.wrap ((s.size : Int) / 16777216)), by simp [upd, e1], HG.out, ⟨fun h => absurd h (by decide), fun _ => rfl⟩, fun k u hu => hu⟩
      · obtain rfl := Option.some.inj ho
        clear ho HM
        refine wpOp_step rfl (fun K hK => ?_)
        have HK : Hid (∀ a w, _ → K a w) := hK
        clear hK
        dsimp only
        go_simp
        exact HK.out _ _ ⟨Value.int .i64 (s.size : Int), by simp [upd], HG.out, ⟨fun h => absurd h (by decide), fun _ => rfl⟩, fun k u hu => hu⟩
      · obtain rfl := Option.some.inj ho
        have e3 : fq 3 = Value.int .i64 (s.size : Int) := (HM.out { on := 3, ground := .data } (by simp) rfl).2 (by decide)
        clear ho HM
        refine wpOp_step rfl (fun K hK => ?_)
        have HK : Hid (∀ a w, _ → K a w) := hK
        clear hK
        simp only [e3]
        go_simp
        exact HK.out _ _ ⟨Value.int .i64 ((s.size : Int) / 65536), by simp [upd, e3], HG.out, ⟨fun h => absurd h (by decide), fun _ => rfl⟩, fun k u hu => hu⟩
      · obtain rfl := Option.some.inj ho
        have e4 : fq 4 = Value.int .i64 ((s.size : Int) / 65536) := (HM.out { on := 4, ground := .data } (by simp) rfl).2 (by decide)
        clear ho HM
        refine wpOp_step rfl (fun K hK => ?_)
        have HK : Hid (∀ a w, _ → K a w) := hK
        clear hK
        simp only [e4]
        go_simp
        exact HK.out _ _ ⟨Value.int .u8 (IntKind.u8.wrap ((s.size : Int) / 65536)), by simp [upd, e4], HG.out, ⟨fun h => absurd h (by decide), fun _ => rfl⟩, fun k u hu => hu⟩
      · obtain rfl := Option.some.inj ho
        clear ho HM
        refine wpOp_step rfl (fun K hK => ?_)
        have HK : Hid (∀ a w, _ → K a w) := hK
        clear hK
        dsimp only
        go_simp
        exact HK.out _ _ ⟨Value.int .i64 (s.size : Int), by simp [upd], HG.out, ⟨fun h => absurd h (by decide), fun _ => rfl⟩, fun k u hu => hu⟩
      · obtain rfl := Option.some.inj ho
        have e6 : fq 6 = Value.int .i64 (s.size : Int) := (HM.out { on := 6, ground := .data } (by simp) rfl).2 (by decide)
        clear ho HM
        refine wpOp_step rfl (fun K hK => ?_)
        have HK : Hid (∀ a w, _ → K a w) := hK
        clear hK
        simp only [e6]
        go_simp
        exact HK.out _ _ ⟨Value.int .i64 ((s.size : Int) / 256), by simp [upd, e6], HG.out, ⟨fun h => absurd h (by decide), fun _ => rfl⟩, fun k u hu => hu⟩
      · obtain rfl := Option.some.inj ho
        have e7 : fq 7 = Value.int .i64 ((s.size : Int) / 256) := (HM.out { on := 7, ground := .data } (by simp) rfl).2 (by decide)
        clear ho HM
        refine wpOp_step rfl (fun K hK => ?_)
        have HK : Hid (∀ a w, _ → K a w) := hK
        clear hK
        simp only [e7]
        go_simp
        exact HK.out _ _ ⟨Value.int .u8 (IntKind.u8.wrap ((s.size : Int) / 256)), by simp [upd, e7], HG.out, ⟨fun h => absurd h (by decide), fun _ => rfl⟩, fun k u hu => hu⟩
      · obtain rfl := Option.some.inj ho
        clear ho HM
        refine wpOp_step rfl (fun K hK => ?_)
        have HK : Hid (∀ a w, _ → K a w) := hK
        clear hK
        dsimp only
        go_simp
        exact HK.out _ _ ⟨Value.int .i64 (s.size : Int), by simp [upd], HG.out, ⟨fun h => absurd h (by decide), fun _ => rfl⟩, fun k u hu => hu⟩
      · obtain rfl := Option.some.inj ho
        have e9 : fq 9 = Value.int .i64 (s.size : Int) := (HM.out { on := 9, ground := .data } (by simp) rfl).2 (by decide)
        clear ho HM
        refine wpOp_step rfl (fun K hK => ?_)
        have HK : Hid (∀ a w, _ → K a w) := hK
        clear hK
        simp only [e9]
        go_simp
        exact HK.out _ _ ⟨Value.int .u8 (IntKind.u8.wrap (s.size : Int)), by simp [upd, e9], HG.out, ⟨fun h => absurd h (by decide), fun _ => rfl⟩, fun k u hu => hu⟩
      · obtain rfl := Option.some.inj ho
        have e2 : fq 2 = Value.int .u8 (IntKind.u8.wrap ((s.size : Int) / 16777216)) := (HM.out { on := 2, ground := .data } (by simp) rfl).2 (by decide)
        have e5 : fq 5 = Value.int .u8 (IntKind.u8.wrap ((s.size : Int) / 65536)) := (HM.out { on := 5, ground := .data } (by simp) rfl).2 (by decide)
        have e8 : fq 8 = Value.int .u8 (IntKind.u8.wrap ((s.size : Int) / 256)) := (HM.out { on := 8, ground := .data } (by simp) rfl).2 (by decide)
        have e10 : fq 10 = Value.int .u8 (IntKind.u8.wrap (s.size : Int)) := (HM.out { on := 10, ground := .data } (by simp) rfl).2 (by decide)
        clear ho HM
        refine wpOp_step rfl (fun K hK => ?_)
        have HK : Hid (∀ a w, _ → K a w) := hK
        clear hK
        simp only [e2, e5, e8, e10]
        go_simp
        have HA : Below w'.heap.size w' (w'.alloc (.cells #[.int .u8 (IntKind.u8.wrap ((s.size : Int) / 16777216)), .int .u8 (IntKind.u8.wrap ((s.size : Int) / 65536)), .int .u8 (IntKind.u8.wrap ((s.size : Int) / 256)), .int .u8 (IntKind.u8.wrap (s.size : Int))] 5)) := (Below.refl _ _).alloc (Nat.le_refl _) _
        exact HK.out _ _ ⟨Value.slice (some ⟨w'.heap.size, 0, none⟩) 4 4, by simp [upd, e2, e5, e8, e10], HG.out.trans (HA.mono HG.out.size), ⟨fun _ => ⟨_, rfl, by4_new w' s.size⟩, fun h => absurd rfl h⟩, VF.later HA⟩
      · obtain rfl := Option.some.inj ho
        obtain ⟨g, e11, hS⟩ := (HM.out { on := 11, ground := .data } (by simp) rfl).1 rfl
        clear ho HM
        refine wpOp_step rfl (fun K hK => ?_)
        have HK : Hid (∀ a w, _ → K a w) := hK
        clear hK
        simp only [e11]
        go_simp
        simp only [hS.conv]
        go_simp
        exact HK.out _ _ ⟨Value.string (lenT s.size), by simp [upd, e11], HG.out, ⟨fun h => absurd h (by decide), fun _ => rfl⟩, fun k u hu => hu⟩
      · obtain rfl := Option.some.inj ho
        clear ho HM
        refine wpOp_step rfl (fun K hK => ?_)
        have HK : Hid (∀ a w, _ → K a w) := hK
        clear hK
        dsimp only
        go_simp
        exact HK.out _ _ ⟨Value.string s, by simp [upd], HG.out, ⟨fun h => absurd h (by decide), fun _ => rfl⟩, fun k u hu => hu⟩
      · obtain rfl := Option.some.inj ho
        have e13 : fq 13 = Value.string s := (HM.out { on := 13, ground := .data } (by simp) rfl).2 (by decide)
        clear ho HM
        refine wpOp_step rfl (fun K hK => ?_)
        have HK : Hid (∀ a w, _ → K a w) := hK
        clear hK
        simp only [e13]
        go_simp
        refine (l9Sum_any s w' HS.out).mono ?_
        rintro e w5 ⟨rfl, hb5⟩
        have HA : Hid (Below w'.heap.size w' w5) := hb5
        clear hb5
        go_wp2_with fail
        exact HK.out _ _ ⟨Value.string (sumT (crcP s)), by simp [upd, e13], HG.out.trans (HA.out.mono HG.out.size), ⟨fun h => absurd h (by decide), fun _ => rfl⟩, VF.later HA.out⟩
      · obtain rfl := Option.some.inj ho
        have e12 : fq 12 = Value.string (lenT s.size) := (HM.out { on := 12, ground := .data } (by simp) rfl).2 (by decide)
        have e14 : fq 14 = Value.string (sumT (crcP s)) := (HM.out { on := 14, ground := .data } (by simp) rfl).2 (by decide)
        clear ho HM
        refine wpOp_step rfl (fun K hK => ?_)
        have HK : Hid (∀ a w, _ → K a w) := hK
        clear hK
        simp only [e12, e14]
        go_simp
        exact HK.out _ _ ⟨Value.string (lenT s.size ++ sumT (crcP s)), by simp [upd, e12, e14], HG.out, ⟨fun h => absurd h (by decide), fun _ => rfl⟩, fun k u hu => hu⟩
      · obtain rfl := Option.some.inj ho
        clear ho HM
        refine wpOp_step rfl (fun K hK => ?_)
        have HK : Hid (∀ a w, _ → K a w) := hK
        clear hK
        dsimp only
        go_simp
        exact HK.out _ _ ⟨Value.string s, by simp [upd], HG.out, ⟨fun h => absurd h (by decide), fun _ => rfl⟩, fun k u hu => hu⟩
      · obtain rfl := Option.some.inj ho
        have e15 : fq 15 = Value.string (lenT s.size ++ sumT (crcP s)) := (HM.out { on := 15, ground := .data } (by simp) rfl).2 (by decide)
        have e16 : fq 16 = Value.string s := (HM.out { on := 16, ground := .data } (by simp) rfl).2 (by decide)
        clear ho HM
        refine wpOp_step rfl (fun K hK => ?_)
        have HK : Hid (∀ a w, _ → K a w) := hK
        clear hK
        simp only [e15, e16]
        go_simp
        exact HK.out _ _ ⟨Value.string ((lenT s.size ++ sumT (crcP s)) ++ s), by simp [upd, e15, e16], HG.out, ⟨fun h => absurd h (by decide), fun _ => rfl⟩, fun k u hu => hu⟩
      · obtain rfl := Option.some.inj ho
        have e17 : fq 17 = Value.string ((lenT s.size ++ sumT (crcP s)) ++ s) := (HM.out { on := 17, ground := .data } (by simp) rfl).2 (by decide)
        clear ho HM
        refine wpOp_step rfl (fun K hK => ?_)
        have HK : Hid (∀ a w, _ → K a w) := hK
        clear hK
        simp only [e17]
        go_simp
        exact HK.out _ _ ⟨Value.string ((lenT s.size ++ sumT (crcP s)) ++ s), by simp [upd, e17], HG.out, ⟨fun h => absurd h (by decide), fun _ => rfl⟩, fun k u hu => hu⟩
    case finF =>
      rintro fq w' hG hall
      have e18 : fq 18 = Value.string ((lenT s.size ++ sumT (crcP s)) ++ s) := (hall 18 (by omega)).2 (by decide)
      simp only [e18]
      have HG : Hid (Below w.heap.size w w') := hG
      clear hG hall e18
      go_wp2
      go_ret
      exact ⟨ret_str (by rw [HE.out, headT]), HG.out⟩

end Go.Proofs.Ytcecoddgmifgkaa
