/- Contracts of the law's helpers on lists of tuples, and of the drawing of a list and a tuple. -/
import Derived.Test.YtlnoohgkaaioiaaDrawTups
import Derived.Test.YtlnoohgkaaioiaaPlainAdd
import Derived.Test.YtlnoohgkaaioiaaRegionGenB
namespace Go.Proofs.Ytlnoohgkaaioiaa
set_option maxRecDepth 100000
open Go.ChangeShapes Go.WideShapes Go.ChangeAt Go.RowKit Go.Maps
open Pl

set_option maxRecDepth 8000 in
set_option maxHeartbeats 2000000 in
theorem hasTuple_any (ad : Option Addr) (cap : Nat) (ts : List Tp) (t : Tp) (w : World) (hlen : ts.length ≤ 1048576) (hs : Sl w ad ts) :
    Calls Try.prog 13 #[.slice ad ts.length cap, .agg #[.string t.a, .string t.b, .string t.r, .string t.c, .string t.d, .string t.s]] w fun e w' => e = .returned (.bool (hasT ts t)) ∧ Below w.heap.size w w' := by
  have HS : Hid (Sl w ad ts) := hs
  clear hs
  obtain ⟨W0, hW0⟩ : ∃ W0, W0 = w.alloc (.cells #[.string t.a, .string t.b, .string t.r, .string t.c, .string t.d, .string t.s] 28) := ⟨_, rfl⟩
  have HB0 : Hid (Below w.heap.size w W0) := by show Below _ _ _; rw [hW0]; exact (Below.refl _ _).alloc (Nat.le_refl _) _
  have HX0 : Hid (W0.cell? ⟨w.heap.size, 0, none⟩ = some (.string t.a) ∧ W0.cell? ⟨w.heap.size, 1, none⟩ = some (.string t.b) ∧ W0.cell? ⟨w.heap.size, 2, none⟩ = some (.string t.r) ∧ W0.cell? ⟨w.heap.size, 3, none⟩ = some (.string t.c) ∧ W0.cell? ⟨w.heap.size, 4, none⟩ = some (.string t.d) ∧ W0.cell? ⟨w.heap.size, 5, none⟩ = some (.string t.s) ∧ w.heap.size < W0.heap.size) := by show _ ∧ _; rw [hW0]; refine ⟨?_, ?_, ?_, ?_, ?_, ?_, ?_⟩ <;> simp
  go_enter Try.func13, Try.ntmps13
  go_wp2
  rw [← hW0]
  clear hW0
  go_loopw [5] (fun i wr => ∃ k : Nat, k ≤ ts.length ∧ i = .int .i64 k ∧ Hid (hasT (ts.drop k) t = hasT ts t) ∧ Hid (Below W0.heap.size W0 wr)) (fun i _ => ts.length - (intOf i).toNat)
  case atStart => exact ⟨0, Nat.zero_le _, rfl, rfl, Below.refl _ _⟩
  case round =>
    obtain ⟨k, hk, rfl, HP, HB⟩ := hrel
    have HBW : Hid (Below w.heap.size w wr) := HB0.out.trans (HB.out.mono HB0.out.size)
    by_cases hlt : k < ts.length
    · rcases HS.out.below HBW.out with hnil | ⟨b, off, rfl, hb, hr⟩
      · rw [hnil] at hlt; simp at hlt
      obtain ⟨t0, t1, t2, t3, t4, t5⟩ := hr k hlt
      have x0 := mK HB.out HX0.out.2.2.2.2.2.2 HX0.out.1
      have x1 := mK HB.out HX0.out.2.2.2.2.2.2 HX0.out.2.1
      have x2 := mK HB.out HX0.out.2.2.2.2.2.2 HX0.out.2.2.1
      have x3 := mK HB.out HX0.out.2.2.2.2.2.2 HX0.out.2.2.2.1
      have x4 := mK HB.out HX0.out.2.2.2.2.2.2 HX0.out.2.2.2.2.1
      have x5 := mK HB.out HX0.out.2.2.2.2.2.2 HX0.out.2.2.2.2.2.1
      have hk1 : (0 : Int) ≤ (k : Int) := by omega
      have hk2 : (k : Int) < (ts.length : Int) := by omega
      have HD : Hid (hasT ts t = (tpEq ts[k] t || hasT (ts.drop (k + 1)) t)) := by show _ = _; rw [← HP.out]; exact hasT_drop hlt
      clear hr
      cases hq : tpEq ts[k] t with
      | true =>
        have heq := tp_eql ts[k] t hq
        have HN : Hid (hasT ts t = true) := by show _ = _; rw [HD.out, hq]; rfl
        clear hq
        go_wp2_with fail
        go_region_held3 (fun w' => w'.cell? ⟨b, off + k * 6, none⟩ = some (.string ts[k].a) ∧ w'.cell? ⟨b, off + k * 6 + 1, none⟩ = some (.string ts[k].b) ∧ w'.cell? ⟨b, off + k * 6 + 2, none⟩ = some (.string ts[k].r) ∧ w'.cell? ⟨b, off + k * 6 + 3, none⟩ = some (.string ts[k].c) ∧ w'.cell? ⟨b, off + k * 6 + 4, none⟩ = some (.string ts[k].d) ∧ w'.cell? ⟨b, off + k * 6 + 5, none⟩ = some (.string ts[k].s) ∧ w'.cell? ⟨w.heap.size, 0, none⟩ = some (.string t.a) ∧ w'.cell? ⟨w.heap.size, 1, none⟩ = some (.string t.b) ∧ w'.cell? ⟨w.heap.size, 2, none⟩ = some (.string t.r) ∧ w'.cell? ⟨w.heap.size, 3, none⟩ = some (.string t.c) ∧ w'.cell? ⟨w.heap.size, 4, none⟩ = some (.string t.d) ∧ w'.cell? ⟨w.heap.size, 5, none⟩ = some (.string t.s) ∧ Below wr.heap.size wr w') (first | assumption | exact ⟨t0, t1, t2, t3, t4, t5, x0, x1, x2, x3, x4, x5, (Below.refl _ _).drew⟩) (fail)
        rename_i hH
        have HG : Hid (Below wr.heap.size wr _) := hH.2.2.2.2.2.2.2.2.2.2.2.2
        clear hH t0 t1 t2 t3 t4 t5 x0 x1 x2 x3 x4 x5 heq
        go_wp2
        go_ret
        exact ⟨by rw [HN.out]; rfl, HBW.out.trans (HG.out.mono HBW.out.size)⟩
      | false =>
        have heq := tp_eql ts[k] t hq
        have HP2 : Hid (hasT (ts.drop (k + 1)) t = hasT ts t) := by show _ = _; rw [HD.out, hq]; rfl
        clear hq
        go_wp2_with fail
        go_region_held3 (fun w' => w'.cell? ⟨b, off + k * 6, none⟩ = some (.string ts[k].a) ∧ w'.cell? ⟨b, off + k * 6 + 1, none⟩ = some (.string ts[k].b) ∧ w'.cell? ⟨b, off + k * 6 + 2, none⟩ = some (.string ts[k].r) ∧ w'.cell? ⟨b, off + k * 6 + 3, none⟩ = some (.string ts[k].c) ∧ w'.cell? ⟨b, off + k * 6 + 4, none⟩ = some (.string ts[k].d) ∧ w'.cell? ⟨b, off + k * 6 + 5, none⟩ = some (.string ts[k].s) ∧ w'.cell? ⟨w.heap.size, 0, none⟩ = some (.string t.a) ∧ w'.cell? ⟨w.heap.size, 1, none⟩ = some (.string t.b) ∧ w'.cell? ⟨w.heap.size, 2, none⟩ = some (.string t.r) ∧ w'.cell? ⟨w.heap.size, 3, none⟩ = some (.string t.c) ∧ w'.cell? ⟨w.heap.size, 4, none⟩ = some (.string t.d) ∧ w'.cell? ⟨w.heap.size, 5, none⟩ = some (.string t.s) ∧ Below wr.heap.size wr w') (first | assumption | exact ⟨t0, t1, t2, t3, t4, t5, x0, x1, x2, x3, x4, x5, (Below.refl _ _).drew⟩) (fail)
        rename_i hH
        have HG : Hid (Below W0.heap.size W0 _) := HB.out.trans (hH.2.2.2.2.2.2.2.2.2.2.2.2.mono HB.out.size)
        clear hH t0 t1 t2 t3 t4 t5 x0 x1 x2 x3 x4 x5 heq
        go_wp2
        go_roundw
        case rel => exact ⟨k + 1, by omega, by go_num, HP2, HG⟩
        case measure => first | (simp [intOf]; done) | (simp [intOf]; omega)
    · have HN : Hid (hasT ts t = false) := by show _ = _; rw [← HP.out, List.drop_of_length_le (by omega)]; rfl
      go_wp2
      go_ret
      exact ⟨by rw [HN.out]; rfl, HBW.out⟩


set_option maxHeartbeats 2000000 in
theorem sameTuples_any (ad ad' : Option Addr) (cap cap' : Nat) (ts : List Tp) (w : World) (hlen : ts.length ≤ 1048576) (hs : Sl w ad ts) (hs' : Sl w ad' ts) :
    Calls Try.prog 12 #[.slice ad ts.length cap, .slice ad' ts.length cap'] w fun e w' => e = .returned (.bool true) ∧ Below w.heap.size w w' := by
  have HS := HID hs
  have HS' := HID hs'
  clear hs hs'
  have hnn : ((ts.length : Int) != (ts.length : Int)) = false := by simp
  go_enter Try.func12, Try.ntmps12
  go_wp2
  go_loopw [5] (fun i wr => ∃ k : Nat, k ≤ ts.length ∧ i = .int .i64 k ∧ Hid (Below w.heap.size w wr)) (fun i _ => ts.length - (intOf i).toNat)
  case atStart => exact ⟨0, Nat.zero_le _, rfl, Below.refl _ _⟩
  case round =>
    obtain ⟨k, hk, rfl, HB⟩ := hrel
    have hk1 : (0 : Int) ≤ (k : Int) := by omega
    by_cases hlt : k < ts.length
    · have hk2 : (k : Int) < (ts.length : Int) := by omega
      rcases HS.out.below HB.out with hnil | ⟨b, off, rfl, hb, hr⟩
      · rw [hnil] at hlt; simp at hlt
      rcases HS'.out.below HB.out with hnil | ⟨b', off', rfl, hb', hr'⟩
      · rw [hnil] at hlt; simp at hlt
      obtain ⟨t0, t1, t2, t3, t4, t5⟩ := hr k hlt
      obtain ⟨u0, u1, u2, u3, u4, u5⟩ := hr' k hlt
      have heq := tp_neq ts[k] ts[k] (v := false) (by rw [tpEq_iff.2 rfl]; rfl)
      clear hr hr'
      go_wp2_with fail
      go_quiet (fail)
      have HB2 : Hid (Below w.heap.size w (wr.drewN nq)) := ⟨HB.out.os, HB.out.tape, HB.out.output, HB.out.size, HB.out.block⟩
      clear t0 t1 t2 t3 t4 t5 u0 u1 u2 u3 u4 u5 heq
      go_wp2
      go_roundw
      case rel => exact ⟨k + 1, by omega, by go_num, HB2⟩
      case measure => first | (simp [intOf]; done) | (simp [intOf]; omega)
    · go_wp2
      go_ret
      exact ⟨rfl, HB.out⟩

theorem Res.cells {w : World} {R n : Nat} (h : Res w R n) : n < w.heap.size ∧ (∀ o, w.frozen? ⟨n, o, none⟩ = false) ∧ w.cell? ⟨n, 0, none⟩ = some (.string ⟨#[]⟩) ∧ w.cell? ⟨n, 1, none⟩ = some (.string ⟨#[]⟩) ∧ w.cell? ⟨n, 2, none⟩ = some (.string ⟨#[]⟩) ∧ w.cell? ⟨n, 3, none⟩ = some (.string ⟨#[]⟩) ∧ w.cell? ⟨n, 4, none⟩ = some (.string ⟨#[]⟩) ∧ w.cell? ⟨n, 5, none⟩ = some (.string ⟨#[]⟩) :=
  ⟨h.2.1, h.2.2.1, h.2.2.2 0 (by omega), h.2.2.2 1 (by omega), h.2.2.2 2 (by omega), h.2.2.2 3 (by omega), h.2.2.2 4 (by omega), h.2.2.2 5 (by omega)⟩
theorem own_set6 {w : World} {base n m : Nat} {v : Value} {xs : List Value} (h : w.ownsRow base 28 6 v m xs) (hn : n < base) (v0 v1 v2 v3 v4 v5 : Value) : ((((((w.setCell ⟨n, 0, none⟩ v0).setCell ⟨n, 1, none⟩ v1).setCell ⟨n, 2, none⟩ v2).setCell ⟨n, 3, none⟩ v3).setCell ⟨n, 4, none⟩ v4).setCell ⟨n, 5, none⟩ v5).ownsRow base 28 6 v m xs :=
  ownsRow_setCell_below (ownsRow_setCell_below (ownsRow_setCell_below (ownsRow_setCell_below (ownsRow_setCell_below (ownsRow_setCell_below h hn v0) hn v1) hn v2) hn v3) hn v4) hn v5

/-- what the operations leave that pick one of a list's tuples -/
def VD (g : Nat) (ts : List Tp) (l : List Value) (k : Nat) (v : Value) (_ : World) : Prop :=
  (k = 5 → ∃ x : Nat, x < ts.length ∧ v = .int .i64 (x : Int)) ∧ (k = 6 → ∃ x : Nat, x < ts.length ∧ v = .pointer (some ⟨g, x * 6, none⟩)) ∧ (k = 7 → ∃ (x : Nat) (h : x < ts.length), v = .agg #[.string ts[x].a, .string ts[x].b, .string ts[x].r, .string ts[x].c, .string ts[x].d, .string ts[x].s]) ∧ (k ≠ 5 → k ≠ 6 → k ≠ 7 → v = l.getD k undef)
theorem VD.at {g : Nat} {ts : List Tp} {l : List Value} {k : Nat} {v : Value} {w : World} (h5 : k ≠ 5) (h6 : k ≠ 6) (h7 : k ≠ 7) (hv : v = l.getD k undef) : VD g ts l k v w := ⟨fun h => absurd h h5, fun h => absurd h h6, fun h => absurd h h7, fun _ _ _ => hv⟩

/-- a drawn list and tuple -/
def Drawn (w w' : World) (e : Ending) : Prop := ∃ (g c : Nat) (ts : List Tp) (t : Tp), e = .returned (.tuple #[.slice (some ⟨g, 0, none⟩) ts.length c, .agg #[.string t.a, .string t.b, .string t.r, .string t.c, .string t.d, .string t.s]]) ∧ ts.length ≤ 9 ∧ Short ts ∧ t.short ∧ w'.ownsRow w.heap.size 28 6 (.slice (some ⟨g, 0, none⟩) ts.length c) ts.length (rows6 ts) ∧ Below w.heap.size w w'

set_option maxRecDepth 8000 in
set_option maxHeartbeats 4000000 in
theorem drawAdded_any (ad : Option Addr) (len cap : Nat) (w : World) (h : Bytes w ad len) :
    Calls Try.prog 7 #[.slice ad len cap] w fun e w' => Drawn w w' e := by
  have H : Hid (Bytes w ad len) := h
  clear h
  go_enter Try.func7, Try.ntmps7
  go_wp2_with fail
  refine (open_any ad len cap _ (H.out.below ((Below.refl _ _).alloc (Nat.le_refl _) _))).mono ?_
  rintro e w1 ⟨rfl, hR1, hb1⟩
  have hn : Res w1 (w.heap.size + 1) w.heap.size := (res_new' (w := w) (R := w.heap.size + 1) (by omega) _).only (Only.of_below hb1)
  simp only [World.size_alloc] at hR1
  have HB1 : Hid (Below w.heap.size w w1) := ((Below.refl w.heap.size w).alloc (Nat.le_refl _) _).trans (hb1.mono (by simp))
  have HR1 := HID hR1
  have HN1 := HID hn
  have hl1 : w.heap.size + 1 < w1.heap.size := hR1.lt
  clear hn hR1 hb1
  go_wp2_with fail
  refine (tuples_any (w.heap.size + 1) ad len cap _ HR1.out).mono ?_
  rintro e w2 ⟨⟨g, c, ts, rfl, hts, hsh, hown⟩, hR2, hO2⟩
  have HB2 : Hid (Below w.heap.size w w2) := Only.toBelow HB1.out hO2 HB1.out.size (by omega)
  have HR2 := HID hR2
  have HN2 := HID (HN1.out.only hO2)
  have HOw2 := HID hown
  have HSh := HID hsh
  clear hR2 hO2 HN1 HR1 HB1 hown hsh
  have tup : ∀ (W : World), Rd W (w.heap.size + 1) ad len cap → Res W (w.heap.size + 1) w.heap.size → Below w.heap.size w W → W.ownsRow w1.heap.size 28 6 (.slice (some ⟨g, 0, none⟩) ts.length c) ts.length (rows6 ts) →
      Calls Try.prog 31 #[.pointer (some ⟨w.heap.size + 1, 0, none⟩)] W fun e w' => ∃ t : Tp, e = .returned (.agg #[.string t.a, .string t.b, .string t.r, .string t.c, .string t.d, .string t.s]) ∧ t.short ∧ Res w' (w.heap.size + 1) w.heap.size ∧ Below w.heap.size w w' ∧ w'.ownsRow w1.heap.size 28 6 (.slice (some ⟨g, 0, none⟩) ts.length c) ts.length (rows6 ts) := fun W hR hN hB hO =>
    (tuple_any (w.heap.size + 1) ad len cap W hR).mono fun e w' ⟨⟨a, b, r, c2, d, s, he, ha, hb, hr, hc, hd, hs⟩, hR', hO'⟩ => ⟨⟨a, b, r, c2, d, s⟩, he, ⟨ha, hb, hr, hc, hd, hs⟩, hN.only hO', Only.toBelow hB hO' hB.size (by omega), own_only hO hl1 hO'⟩
  have TUP := HID tup
  clear tup
  by_cases h0 : 0 < ts.length
  · have h0i : (0 : Int) < (ts.length : Int) := by omega
    go_wp2_with fail
    refine (once_any (w.heap.size + 1) ad len cap 3 _ HR2.out (by omega) (by omega)).mono ?_
    rintro e w3 ⟨⟨q, rfl⟩, hR3, hO3⟩
    have HB3 : Hid (Below w.heap.size w w3) := Only.toBelow HB2.out hO3 HB2.out.size (by omega)
    have HR3 := HID hR3
    have HN3 := HID (HN2.out.only hO3)
    have HOw3 := HID (own_only HOw2.out hl1 hO3)
    clear hR3 hO3 HN2 HR2 HB2 HOw2
    cases q with
    | true =>
      have hrS : ∀ W : World, Only (w.heap.size + 1) w3 W → Row6 W g 0 ts := fun W hW => (own_row (own_only HOw3.out hl1 hW) rfl).1
      have HRS := HID hrS
      clear hrS
      go_wp2_with fail
      refine wp_region_midB 9 (fun k => if k = 8 then .slice none 0 0 else undef) (fun f => { tmps := List.toArray (Value.slice ad len cap :: undef :: f 8 :: Value.pointer (some ⟨w.heap.size, 0, none⟩) :: Value.pointer (some ⟨w.heap.size + 1, 0, none⟩) :: Value.slice (some ⟨g, 0, none⟩) ts.length c :: Value.slice ad len cap :: Value.pointer (some ⟨w.heap.size + 1, 0, none⟩) :: Value.pointer (some ⟨w.heap.size + 1, 0, none⟩) :: Value.slice (some ⟨g, 0, none⟩) ts.length c :: Value.slice (some ⟨g, 0, none⟩) ts.length c :: Value.int .i64 (ts.length : Int) :: Value.bool true :: Value.bool true :: Value.pointer (some ⟨w.heap.size + 1, 0, none⟩) :: Value.bool true :: Value.bool true :: f 0 :: f 1 :: f 2 :: f 3 :: f 4 :: f 5 :: f 6 :: f 7 :: undef :: undef :: undef :: []), defers := [] }) (VD g ts (Value.slice (some ⟨g, 0, none⟩) ts.length c :: Value.slice (some ⟨g, 0, none⟩) ts.length c :: Value.pointer (some ⟨w.heap.size + 1, 0, none⟩) :: Value.slice (some ⟨g, 0, none⟩) ts.length c :: Value.int .i64 (ts.length : Int) :: undef :: undef :: undef :: Value.slice (some ⟨g, 0, none⟩) ts.length c :: [])) (fun w' => Rd w' (w.heap.size + 1) ad len cap ∧ Only (w.heap.size + 1) w3 w') (by kernel_rfl) rfl (by decide +kernel) (by decide +kernel) rfl ⟨HR3.out.below (Below.refl _ _).drew, (Only.refl _ _).drewN 1⟩ ?stepD ?finD
      case stepD =>
        rintro i hi o ho f w' ⟨hR', hO'⟩ hpre
        have HG := HID (And.intro hR' hO')
        have HM : Hid (∀ e ∈ o.after, Region.binds .any e = true → _) := hpre
        clear hR' hO' hpre
        have hc : i = 0 ∨ i = 1 ∨ i = 2 ∨ i = 3 ∨ i = 4 ∨ i = 5 ∨ i = 6 ∨ i = 7 ∨ i = 8 := by omega
        clear hi
        rcases hc with rfl | rfl | rfl | rfl | rfl | rfl | rfl | rfl | rfl
        · obtain rfl := Option.some.inj ho
          clear ho HM
          refine wpOp_step rfl (fun K hK => ?_)
          have HK : Hid (∀ a w, _ → K a w) := hK
          clear hK
          dsimp only
          go_simp
          exact HK.out _ _ ⟨Value.slice (some ⟨g, 0, none⟩) ts.length c, by simp [upd], HG.out, VD.at (by decide) (by decide) (by decide) rfl, fun k u hu => hu⟩
        · obtain rfl := Option.some.inj ho
          clear ho HM
          refine wpOp_step rfl (fun K hK => ?_)
          have HK : Hid (∀ a w, _ → K a w) := hK
          clear hK
          dsimp only
          go_simp
          exact HK.out _ _ ⟨Value.slice (some ⟨g, 0, none⟩) ts.length c, by simp [upd], HG.out, VD.at (by decide) (by decide) (by decide) rfl, fun k u hu => hu⟩
        · obtain rfl := Option.some.inj ho
          clear ho HM
          refine wpOp_step rfl (fun K hK => ?_)
          have HK : Hid (∀ a w, _ → K a w) := hK
          clear hK
          dsimp only
          go_simp
          exact HK.out _ _ ⟨Value.pointer (some ⟨w.heap.size + 1, 0, none⟩), by simp [upd], HG.out, VD.at (by decide) (by decide) (by decide) rfl, fun k u hu => hu⟩
        · obtain rfl := Option.some.inj ho
          clear ho HM
          refine wpOp_step rfl (fun K hK => ?_)
          have HK : Hid (∀ a w, _ → K a w) := hK
          clear hK
          dsimp only
          go_simp
          exact HK.out _ _ ⟨Value.slice (some ⟨g, 0, none⟩) ts.length c, by simp [upd], HG.out, VD.at (by decide) (by decide) (by decide) rfl, fun k u hu => hu⟩
        · obtain rfl := Option.some.inj ho
          have e3 : f 3 = Value.slice (some ⟨g, 0, none⟩) ts.length c := (HM.out { on := 3, ground := .data } (by simp) rfl).2.2.2 (by decide) (by decide) (by decide)
          clear ho HM
          refine wpOp_step rfl (fun K hK => ?_)
          have HK : Hid (∀ a w, _ → K a w) := hK
          clear hK
          simp only [e3]
          go_simp
          exact HK.out _ _ ⟨Value.int .i64 (ts.length : Int), by simp [upd, e3], HG.out, VD.at (by decide) (by decide) (by decide) rfl, fun k u hu => hu⟩
        · obtain rfl := Option.some.inj ho
          have e2 : f 2 = Value.pointer (some ⟨w.heap.size + 1, 0, none⟩) := (HM.out { on := 2, ground := .data } (by simp) rfl).2.2.2 (by decide) (by decide) (by decide)
          have e4 : f 4 = Value.int .i64 (ts.length : Int) := (HM.out { on := 4, ground := .data } (by simp) rfl).2.2.2 (by decide) (by decide) (by decide)
          clear ho HM
          refine wpOp_step rfl (fun K hK => ?_)
          have HK : Hid (∀ a w, _ → K a w) := hK
          clear hK
          simp only [e2, e4]
          go_simp
          refine (below_all (w.heap.size + 1) ad len cap ts.length _ HG.out.1 (by omega) (by omega)).mono ?_
          rintro e w5 ⟨⟨x, rfl, hx⟩, hR5, hO5⟩
          have HG5 := HID (And.intro hR5 (HG.out.2.trans hO5))
          clear hR5 hO5
          go_wp2_with fail
          exact HK.out _ _ ⟨.int .i64 (x : Int), by simp [upd, e2, e4], HG5.out, ⟨fun _ => ⟨x, hx, rfl⟩, fun h => absurd h (by decide), fun h => absurd h (by decide), fun h => absurd rfl h⟩, fun k u hu => hu⟩
        · obtain rfl := Option.some.inj ho
          have e1 : f 1 = Value.slice (some ⟨g, 0, none⟩) ts.length c := (HM.out { on := 1, ground := .data } (by simp) rfl).2.2.2 (by decide) (by decide) (by decide)
          obtain ⟨x, hx, e5⟩ := (HM.out { on := 5, ground := .data } (by simp) rfl).1 rfl
          replace e5 : f 5 = .int .i64 (x : Int) := e5
          have hx1 : (0 : Int) ≤ (x : Int) := by omega
          have hx2 : (x : Int) < (ts.length : Int) := by omega
          clear ho HM
          refine wpOp_step rfl (fun K hK => ?_)
          have HK : Hid (∀ a w, _ → K a w) := hK
          clear hK
          simp only [e1, e5]
          go_simp
          exact HK.out _ _ ⟨.pointer (some ⟨g, x * 6, none⟩), by simp [upd, e1, e5], HG.out, ⟨fun h => absurd h (by decide), fun _ => ⟨x, hx, rfl⟩, fun h => absurd h (by decide), fun _ h => absurd rfl h⟩, fun k u hu => hu⟩
        · obtain rfl := Option.some.inj ho
          obtain ⟨x, hx, e6⟩ := (HM.out { on := 6, ground := .data } (by simp) rfl).2.1 rfl
          replace e6 : f 6 = .pointer (some ⟨g, x * 6, none⟩) := e6
          obtain ⟨t0, t1, t2, t3, t4, t5⟩ := HRS.out w' HG.out.2 x hx
          simp only [Nat.zero_add] at t0 t1 t2 t3 t4 t5
          clear ho HM
          refine wpOp_step rfl (fun K hK => ?_)
          have HK : Hid (∀ a w, _ → K a w) := hK
          clear hK
          simp only [e6]
          go_simp
          exact HK.out _ _ ⟨.agg #[.string ts[x].a, .string ts[x].b, .string ts[x].r, .string ts[x].c, .string ts[x].d, .string ts[x].s], by simp [upd, e6], HG.out, ⟨fun h => absurd h (by decide), fun h => absurd h (by decide), fun _ => ⟨x, hx, rfl⟩, fun _ _ h => absurd rfl h⟩, fun k u hu => hu⟩
        · obtain rfl := Option.some.inj ho
          have e0 : f 0 = Value.slice (some ⟨g, 0, none⟩) ts.length c := (HM.out { on := 0, ground := .data } (by simp) rfl).2.2.2 (by decide) (by decide) (by decide)
          clear ho HM
          refine wpOp_step rfl (fun K hK => ?_)
          have HK : Hid (∀ a w, _ → K a w) := hK
          clear hK
          simp only [e0]
          go_simp
          exact HK.out _ _ ⟨Value.slice (some ⟨g, 0, none⟩) ts.length c, by simp [upd, e0], HG.out, VD.at (by decide) (by decide) (by decide) rfl, fun k u hu => hu⟩
      case finD =>
        rintro o ho f w' ⟨hR', hO'⟩ hall
        obtain rfl := Option.some.inj ho
        obtain ⟨x, hx, e7⟩ := (hall 7 (by omega)).2.2.1 rfl
        have e8 : f 8 = Value.slice (some ⟨g, 0, none⟩) ts.length c := (hall 8 (by omega)).2.2.2 (by decide) (by decide) (by decide)
        obtain ⟨nl, nf, n0, n1, n2, n3, n4, n5⟩ := Res.cells (HN3.out.only hO')
        have HB4 : Hid (Below w.heap.size w w') := Only.toBelow HB3.out hO' HB3.out.size (by omega)
        have HOw4 := HID (own_only HOw3.out hl1 hO')
        clear ho hall hR' hO'
        refine wpOp_step rfl (fun K hK => ?_)
        have HK : Hid (∀ a w, _ → K a w) := hK
        clear hK
        simp only [e7, e8]
        go_simp
        refine HK.out _ _ ?_
        clear HK
        go_wp2
        exact bodyPost_ret (v := .tuple #[.slice (some ⟨g, 0, none⟩) ts.length c, .agg #[.string ts[x].a, .string ts[x].b, .string ts[x].r, .string ts[x].c, .string ts[x].d, .string ts[x].s]]) (by simp [results, Try.results7, go_sem, *]) rfl ⟨g, c, ts, ts[x], rfl, hts, HSh.out, HSh.out _ (List.getElem_mem hx), ownsRow_base (own_set6 HOw4.out (by omega) _ _ _ _ _ _) (by omega), below_set6 HB4.out (Nat.le_refl _) _ _ _ _ _ _⟩
    | false =>
      go_wp2_with fail
      refine (TUP.out _ HR3.out HN3.out HB3.out HOw3.out).mono ?_
      rintro e w4 ⟨t, rfl, ht, hN4, hB4, hO4⟩
      obtain ⟨nl, nf, n0, n1, n2, n3, n4, n5⟩ := hN4.cells
      have HB4 := HID hB4
      have HOw4 := HID hO4
      have HT := HID ht
      clear hN4 hB4 hO4 ht HB3 HR3 HN3 HOw3 TUP
      go_wp2
      exact bodyPost_ret (v := .tuple #[.slice (some ⟨g, 0, none⟩) ts.length c, .agg #[.string t.a, .string t.b, .string t.r, .string t.c, .string t.d, .string t.s]]) (by simp [results, Try.results7, go_sem, *]) rfl ⟨g, c, ts, t, rfl, hts, HSh.out, HT.out, ownsRow_base (own_set6 HOw4.out (by omega) _ _ _ _ _ _) (by omega), below_set6 HB4.out (Nat.le_refl _) _ _ _ _ _ _⟩
  · have h0i : ¬ (0 : Int) < (ts.length : Int) := by omega
    go_wp2_with fail
    refine (TUP.out _ HR2.out HN2.out HB2.out HOw2.out).mono ?_
    rintro e w4 ⟨t, rfl, ht, hN4, hB4, hO4⟩
    obtain ⟨nl, nf, n0, n1, n2, n3, n4, n5⟩ := hN4.cells
    have HB4 := HID hB4
    have HOw4 := HID hO4
    have HT := HID ht
    clear hN4 hB4 hO4 ht HB2 HR2 HN2 HOw2 TUP
    go_wp2
    exact bodyPost_ret (v := .tuple #[.slice (some ⟨g, 0, none⟩) ts.length c, .agg #[.string t.a, .string t.b, .string t.r, .string t.c, .string t.d, .string t.s]]) (by simp [results, Try.results7, go_sem, *]) rfl ⟨g, c, ts, t, rfl, hts, HSh.out, HT.out, ownsRow_base (own_set6 HOw4.out (by omega) _ _ _ _ _ _) (by omega), below_set6 HB4.out (Nat.le_refl _) _ _ _ _ _ _⟩
end Go.Proofs.Ytlnoohgkaaioiaa
