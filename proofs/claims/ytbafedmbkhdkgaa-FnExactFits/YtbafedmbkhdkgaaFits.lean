/- Contracts of both functions that tell whether a tuple fits a schema. -/
import Derived.Test.YtbafedmbkhdkgaaImplFits
import Derived.Test.YtbafedmbkhdkgaaImplSchema
import Derived.Test.YtbafedmbkhdkgaaJ1
namespace Go.Proofs.Ytbafedmbkhdkgaa
open Go.ChangeShapes Go.WideShapes Go.ChangeAt Go.RowKit Go.Maps
open Pl
/-- what the document's look says -/
def fitsS (ts : List Ty) (oa ob r c d s : ByteArray) : Bool := inPre (allowP (relOr ts oa r)) (allowP (relOr ts oa r)).length ⟨c, s⟩ && tupB oa ob r c d s
theorem own_none : ∀ {es : List Ex} (a : Al), own es = 0 → es.any (fitE a) = false
  | [], _, _ => rfl
  | e :: es, a, h => by
    by_cases h1 : e.kind = 1
    · simp [own, h1] at h
    · rw [List.any_cons, own_none a (by simpa [own, h1] using h)]
      simp [fitE, h1]
theorem fit_same : ∀ {es : List Ex} (a : Al), own es ≤ 1 → es.any (fitE a) = inPre (allowP es) (allowP es).length a
  | [], _, _ => rfl
  | e :: es, a, h => by
    by_cases h1 : e.kind = 1
    · rw [List.any_cons, own_none a (by simp [own, h1] at h; simpa [own] using h)]
      simp [fitE, h1, allowP]
    · rw [List.any_cons, fit_same a (by simpa [own, h1] using h)]
      simp [fitE, h1, allowP]
theorem inPre_bad {xs : List Al} {a : Al} {k : Nat} (h : k < xs.length) (hk : alEq xs[k] a = true) : inPre xs xs.length a = true := by
  unfold inPre
  rw [List.take_length, List.any_eq_true]
  exact ⟨_, List.getElem_mem h, hk⟩
/-- what both say -/
def fitsD (ts : List Ty) (oa ob r c d s : ByteArray) : Bool := schemaD ts && fitsS ts oa ob r c d s
theorem own_of {es : List Ex} (h : specE es = true) : own es ≤ 1 := by
  unfold specE at h; simp at h; omega
theorem own_rel {rs : List TR} (h : SchemaP (tys rs)) (ty n : ByteArray) : own (relOr (tys rs) ty n) ≤ 1 := by
  unfold relOr
  cases e : relP (tys rs) ty n with
  | none => simp [own]
  | some es =>
    obtain ⟨t, ht, q, hq, -, -, rfl⟩ := relP_row e
    exact own_of ((shape_facts h.1).2.2 t ht q hq).1

set_option maxRecDepth 100000 in
set_option maxHeartbeats 4000000 in
theorem l2Fits_any (ad : Option Addr) (cap : Nat) (rs : List TR) (oa ob r c d s : ByteArray) (w : World) (hlen : rs.length ≤ 1048576) (hs : SlT w ad rs) (hl : ∀ r ∈ rs, r.light) (ha : oa.size ≤ maxLen) (hb : ob.size ≤ maxLen) (hr : r.size ≤ maxLen) (hc : c.size ≤ maxLen) (hd : d.size ≤ maxLen) (hz : s.size ≤ maxLen) :
    Calls Try.prog 62 #[.slice ad rs.length cap, .agg #[.string oa, .string ob, .string r, .string c, .string d, .string s]] w fun e w' => e = .returned (.bool (fitsS (tys rs) oa ob r c d s)) ∧ Below w.heap.size w w' := by
  have HS : Hid (SlT w ad rs) := hs
  have HL : Hid (∀ r ∈ rs, r.light) := hl
  clear hs hl
  obtain ⟨W0, hW0⟩ : ∃ W0, W0 = w.alloc (.cells #[.string oa, .string ob, .string r, .string c, .string d, .string s] 27) := ⟨_, rfl⟩
  have hal : Below w.heap.size w W0 := by rw [hW0]; exact (Below.refl _ _).alloc (Nat.le_refl _) _
  have HB0 : Hid (Below w.heap.size w W0) := hal
  have HC0 : Hid (W0.cell? ⟨w.heap.size, 0, none⟩ = some (.string oa) ∧ W0.cell? ⟨w.heap.size, 1, none⟩ = some (.string ob) ∧ W0.cell? ⟨w.heap.size, 2, none⟩ = some (.string r) ∧ W0.cell? ⟨w.heap.size, 3, none⟩ = some (.string c) ∧ W0.cell? ⟨w.heap.size, 4, none⟩ = some (.string d) ∧ W0.cell? ⟨w.heap.size, 5, none⟩ = some (.string s) ∧ w.heap.size < W0.heap.size) := by
    show _ ∧ _
    rw [hW0]; refine ⟨?_, ?_, ?_, ?_, ?_, ?_, ?_⟩ <;> simp
  clear hal
  go_enter Try.func62, Try.ntmps62
  go_wp2_with fail
  rw [← hW0]
  clear hW0
  refine (l2Rel_any ad cap rs oa r _ hlen (HS.out.below HB0.out) HL.out).mono ?_
  rintro e w1 ⟨⟨rows, adE, capE, rfl, hex, hse, hfr⟩, hw1⟩
  replace hw1 := hw1.symm
  subst hw1
  have HX : Hid (exs rows = relOr (tys rs) oa r) := hex
  have HSE : Hid (SlE W0 adE rows) := hse
  have HLE := hfr.light HL.out
  have hrl : rows.length ≤ 1048576 := HLE.1
  have HLG : Hid (∀ q ∈ rows, q.e.light) := HLE.2
  clear hex hse hfr HLE
  go_wp2_with fail
  refine (l2Allow_any adE capE rows _ hrl HSE.out).mono ?_
  rintro e w1 ⟨⟨adA, capA, rfl, hsa, hfa⟩, hw1⟩
  replace hw1 := hw1.symm
  subst hw1
  obtain ⟨xs, hxs⟩ : ∃ xs, xs = allowP (exs rows) := ⟨_, rfl⟩
  rw [← hxs] at hsa hfa ⊢
  have HXS : Hid (xs = allowP (relOr (tys rs) oa r)) := by rw [← HX.out]; exact hxs
  have HSA : Hid (SlA W0 adA xs) := hsa
  have hxl : xs.length ≤ 1048576 := by
    rcases hfa with h | ⟨q, hq, h, -⟩
    · rw [h]; simp
    · rw [h]; exact (HLG.out q hq).1
  clear hxs hsa hfa HLG HSE HX
  go_wp2
  go_loopw [6] (fun i wr => ∃ k : Nat, k ≤ xs.length ∧ i = .int .i64 k ∧ Hid (inPre xs k ⟨c, s⟩ = false) ∧ Hid (Below W0.heap.size W0 wr)) (fun i _ => xs.length - (intOf i).toNat)
  case atStart => exact ⟨0, Nat.zero_le _, rfl, inPre_zero _ _, Below.refl _ _⟩
  case round =>
    obtain ⟨k, hk, rfl, HP, HB⟩ := hrel
    have HBW : Hid (Below w.heap.size w wr) := HB0.out.trans (HB.out.mono HB0.out.size)
    by_cases hlt : k < xs.length
    · rcases HSA.out.below HB.out with hnil | ⟨b, off, rfl, hb5, hr5⟩
      · rw [hnil] at hlt; simp at hlt
      obtain ⟨t0, t1⟩ := hr5 k hlt
      have hk1 : (0 : Int) ≤ (k : Int) := by omega
      have hk2 : (k : Int) < (xs.length : Int) := by omega
      have hwl : w.heap.size < wr.heap.size := Nat.lt_of_lt_of_le HC0.out.2.2.2.2.2.2 HB.out.size
      have c0 := kept5 HB.out HC0.out.2.2.2.2.2.2 HC0.out.1
      have c1 := kept5 HB.out HC0.out.2.2.2.2.2.2 HC0.out.2.1
      have c2 := kept5 HB.out HC0.out.2.2.2.2.2.2 HC0.out.2.2.1
      have c3 := kept5 HB.out HC0.out.2.2.2.2.2.2 HC0.out.2.2.2.1
      have c4 := kept5 HB.out HC0.out.2.2.2.2.2.2 HC0.out.2.2.2.2.1
      have c5 := kept5 HB.out HC0.out.2.2.2.2.2.2 HC0.out.2.2.2.2.2.1
      have HSU : Hid (inPre xs (k + 1) ⟨c, s⟩ = alEq xs[k] ⟨c, s⟩) := by show _ = _; rw [inPre_succ _ _ _ hlt, HP.out]; rfl
      clear hr5
      go_wp2_with fail
      cases h1 : (xs[k].t.toList == c.toList) with
      | false =>
        refine wp_region_all 19 (fun n => (u21 :: u22 :: u23 :: u24 :: u25 :: u26 :: u27 :: u28 :: u29 :: u30 :: u31 :: u32 :: u33 :: u34 :: u35 :: u36 :: u37 :: u38 :: u39 :: []).getD n undef) (fun fq => { tmps := List.toArray (Value.slice ad rs.length cap :: Value.agg #[Value.string oa, Value.string ob, Value.string r, Value.string c, Value.string d, Value.string s] :: undef :: Value.pointer (some { block := w.heap.size, off := 0 }) :: u4 :: Value.slice (some { block := b, off := off }) xs.length capA :: Value.int IntKind.i64 (k : Int) :: Value.slice ad rs.length cap :: Value.pointer (some { block := w.heap.size, off := 0 }) :: Value.pointer (some { block := w.heap.size, off := 0 }) :: Value.string oa :: Value.pointer (some { block := w.heap.size, off := 2 }) :: Value.string r :: Value.slice adE rows.length capE :: Value.slice (some { block := b, off := off }) xs.length capA :: Value.int IntKind.i64 (k : Int) :: Value.slice (some { block := b, off := off }) xs.length capA :: Value.int IntKind.i64 (xs.length : Int) :: Value.bool true :: u19 :: u20 :: fq 0 :: fq 1 :: fq 2 :: fq 3 :: fq 4 :: fq 5 :: fq 6 :: fq 7 :: fq 8 :: fq 9 :: fq 10 :: fq 11 :: fq 12 :: fq 13 :: fq 14 :: fq 15 :: fq 16 :: fq 17 :: fq 18 :: u40 :: u41 :: []), defers := [] }) (fun n v _ => v = (Value.slice (some { block := b, off := off }) xs.length capA :: Value.int IntKind.i64 (k : Int) :: Value.pointer (some ⟨b, off + k * 2, none⟩) :: Value.pointer (some ⟨b, off + k * 2, none⟩) :: Value.string xs[k].t :: Value.pointer (some ⟨w.heap.size, 3, none⟩) :: Value.pointer (some ⟨w.heap.size, 3, none⟩) :: Value.string c :: Value.bool false :: Value.bool false :: undef :: undef :: undef :: undef :: undef :: undef :: undef :: undef :: Value.bool false :: []).getD n undef) (fun w' => Below wr.heap.size wr w') (by kernel_rfl) rfl (by kernel_rfl) rfl (Below.refl _ _).drew ?stepA ?finA
        case stepA =>
          rintro i hi o ho fq w' hG hpre
          have HG : Hid (Below wr.heap.size wr w') := hG
          replace t0 := kept5 hG hb5 t0
          replace t1 := kept5 hG hb5 t1
          replace c3 := kept5 hG hwl c3
          replace c5 := kept5 hG hwl c5
          have HM : Hid (∀ e ∈ o.after, Region.binds .any e = true → _) := hpre
          clear hG hpre
          have hc : i = 0 ∨ i = 1 ∨ i = 2 ∨ i = 3 ∨ i = 4 ∨ i = 5 ∨ i = 6 ∨ i = 7 ∨ i = 8 ∨ i = 9 ∨ i = 10 ∨ i = 11 ∨ i = 12 ∨ i = 13 ∨ i = 14 ∨ i = 15 ∨ i = 16 ∨ i = 17 ∨ i = 18 := by omega
          clear hi
          rcases hc with rfl | rfl | rfl | rfl | rfl | rfl | rfl | rfl | rfl | rfl | rfl | rfl | rfl | rfl | rfl | rfl | rfl | rfl | rfl
          · obtain rfl := Option.some.inj ho
            clear ho HM
            refine wpOp_step rfl (fun K hK => ?_)
            have HK : Hid (∀ a w, _ → K a w) := hK
            clear hK
            dsimp only
            go_simp
            exact HK.out _ _ ⟨Value.slice (some { block := b, off := off }) xs.length capA, by simp [upd], HG.out, rfl, fun k u hu => hu⟩
          · obtain rfl := Option.some.inj ho
            clear ho HM
            refine wpOp_step rfl (fun K hK => ?_)
            have HK : Hid (∀ a w, _ → K a w) := hK
            clear hK
            dsimp only
            go_simp
            exact HK.out _ _ ⟨Value.int IntKind.i64 (k : Int), by simp [upd], HG.out, rfl, fun k u hu => hu⟩
          · obtain rfl := Option.some.inj ho
            have e0 : fq 0 = Value.slice (some { block := b, off := off }) xs.length capA := HM.out { on := 0, ground := .data } (by simp) rfl
            have e1 : fq 1 = Value.int IntKind.i64 (k : Int) := HM.out { on := 1, ground := .data } (by simp) rfl
            clear ho HM
            refine wpOp_step rfl (fun K hK => ?_)
            have HK : Hid (∀ a w, _ → K a w) := hK
            clear hK
            simp only [e0, e1]
            go_simp
            exact HK.out _ _ ⟨Value.pointer (some ⟨b, off + k * 2, none⟩), by simp [upd, e0, e1], HG.out, rfl, fun k u hu => hu⟩
          · obtain rfl := Option.some.inj ho
            have e2 : fq 2 = Value.pointer (some ⟨b, off + k * 2, none⟩) := HM.out { on := 2, ground := .data } (by simp) rfl
            clear ho HM
            refine wpOp_step rfl (fun K hK => ?_)
            have HK : Hid (∀ a w, _ → K a w) := hK
            clear hK
            simp only [e2]
            go_simp
            exact HK.out _ _ ⟨Value.pointer (some ⟨b, off + k * 2, none⟩), by simp [upd, e2], HG.out, rfl, fun k u hu => hu⟩
          · obtain rfl := Option.some.inj ho
            have e3 : fq 3 = Value.pointer (some ⟨b, off + k * 2, none⟩) := HM.out { on := 3, ground := .data } (by simp) rfl
            clear ho HM
            refine wpOp_step rfl (fun K hK => ?_)
            have HK : Hid (∀ a w, _ → K a w) := hK
            clear hK
            simp only [e3]
            go_simp
            exact HK.out _ _ ⟨Value.string xs[k].t, by simp [upd, e3], HG.out, rfl, fun k u hu => hu⟩
          · obtain rfl := Option.some.inj ho
            clear ho HM
            refine wpOp_step rfl (fun K hK => ?_)
            have HK : Hid (∀ a w, _ → K a w) := hK
            clear hK
            dsimp only
            go_simp
            exact HK.out _ _ ⟨Value.pointer (some ⟨w.heap.size, 3, none⟩), by simp [upd], HG.out, rfl, fun k u hu => hu⟩
          · obtain rfl := Option.some.inj ho
            have e5 : fq 5 = Value.pointer (some ⟨w.heap.size, 3, none⟩) := HM.out { on := 5, ground := .data } (by simp) rfl
            clear ho HM
            refine wpOp_step rfl (fun K hK => ?_)
            have HK : Hid (∀ a w, _ → K a w) := hK
            clear hK
            simp only [e5]
            go_simp
            exact HK.out _ _ ⟨Value.pointer (some ⟨w.heap.size, 3, none⟩), by simp [upd, e5], HG.out, rfl, fun k u hu => hu⟩
          · obtain rfl := Option.some.inj ho
            have e6 : fq 6 = Value.pointer (some ⟨w.heap.size, 3, none⟩) := HM.out { on := 6, ground := .data } (by simp) rfl
            clear ho HM
            refine wpOp_step rfl (fun K hK => ?_)
            have HK : Hid (∀ a w, _ → K a w) := hK
            clear hK
            simp only [e6]
            go_simp
            exact HK.out _ _ ⟨Value.string c, by simp [upd, e6], HG.out, rfl, fun k u hu => hu⟩
          · obtain rfl := Option.some.inj ho
            have e4 : fq 4 = Value.string xs[k].t := HM.out { on := 4, ground := .data } (by simp) rfl
            have e7 : fq 7 = Value.string c := HM.out { on := 7, ground := .data } (by simp) rfl
            clear ho HM
            refine wpOp_step rfl (fun K hK => ?_)
            have HK : Hid (∀ a w, _ → K a w) := hK
            clear hK
            simp only [e4, e7]
            go_simp
            exact HK.out _ _ ⟨Value.bool false, by simp [upd, e4, e7], HG.out, rfl, fun k u hu => hu⟩
          · obtain rfl := Option.some.inj ho
            have e8 : fq 8 = Value.bool false := HM.out { on := 8, ground := .data } (by simp) rfl
            clear ho HM
            refine wpOp_step rfl (fun K hK => ?_)
            have HK : Hid (∀ a w, _ → K a w) := hK
            clear hK
            simp only [e8]
            go_simp
            exact HK.out _ _ ⟨Value.bool false, by simp [upd, e8], HG.out, rfl, fun k u hu => hu⟩
          · obtain rfl := Option.some.inj ho
            have e9 : fq 9 = Value.bool false := HM.out { on := 9, ground := .guard } (by simp) rfl
            clear ho HM
            refine wpOp_step rfl (fun K hK => ?_)
            have HK : Hid (∀ a w, _ → K a w) := hK
            clear hK
            simp only [e9]
            go_simp
            exact HK.out _ _ ⟨undef, by simp [upd, e9], HG.out, rfl, fun k u hu => hu⟩
          · obtain rfl := Option.some.inj ho
            have e9 : fq 9 = Value.bool false := HM.out { on := 9, ground := .guard } (by simp) rfl
            clear ho HM
            refine wpOp_step rfl (fun K hK => ?_)
            have HK : Hid (∀ a w, _ → K a w) := hK
            clear hK
            simp only [e9]
            go_simp
            exact HK.out _ _ ⟨undef, by simp [upd, e9], HG.out, rfl, fun k u hu => hu⟩
          · obtain rfl := Option.some.inj ho
            have e10 : fq 10 = undef := HM.out { on := 10, ground := .data } (by simp) rfl
            have e11 : fq 11 = undef := HM.out { on := 11, ground := .data } (by simp) rfl
            have e9 : fq 9 = Value.bool false := HM.out { on := 9, ground := .guard } (by simp) rfl
            clear ho HM
            refine wpOp_step rfl (fun K hK => ?_)
            have HK : Hid (∀ a w, _ → K a w) := hK
            clear hK
            simp only [e10, e11, e9]
            go_simp
            exact HK.out _ _ ⟨undef, by simp [upd, e10, e11, e9], HG.out, rfl, fun k u hu => hu⟩
          · obtain rfl := Option.some.inj ho
            have e12 : fq 12 = undef := HM.out { on := 12, ground := .data } (by simp) rfl
            have e9 : fq 9 = Value.bool false := HM.out { on := 9, ground := .guard } (by simp) rfl
            clear ho HM
            refine wpOp_step rfl (fun K hK => ?_)
            have HK : Hid (∀ a w, _ → K a w) := hK
            clear hK
            simp only [e12, e9]
            go_simp
            exact HK.out _ _ ⟨undef, by simp [upd, e12, e9], HG.out, rfl, fun k u hu => hu⟩
          · obtain rfl := Option.some.inj ho
            have e13 : fq 13 = undef := HM.out { on := 13, ground := .data } (by simp) rfl
            have e9 : fq 9 = Value.bool false := HM.out { on := 9, ground := .guard } (by simp) rfl
            clear ho HM
            refine wpOp_step rfl (fun K hK => ?_)
            have HK : Hid (∀ a w, _ → K a w) := hK
            clear hK
            simp only [e13, e9]
            go_simp
            exact HK.out _ _ ⟨undef, by simp [upd, e13, e9], HG.out, rfl, fun k u hu => hu⟩
          · obtain rfl := Option.some.inj ho
            have e9 : fq 9 = Value.bool false := HM.out { on := 9, ground := .guard } (by simp) rfl
            clear ho HM
            refine wpOp_step rfl (fun K hK => ?_)
            have HK : Hid (∀ a w, _ → K a w) := hK
            clear hK
            simp only [e9]
            go_simp
            exact HK.out _ _ ⟨undef, by simp [upd, e9], HG.out, rfl, fun k u hu => hu⟩
          · obtain rfl := Option.some.inj ho
            have e15 : fq 15 = undef := HM.out { on := 15, ground := .data } (by simp) rfl
            have e9 : fq 9 = Value.bool false := HM.out { on := 9, ground := .guard } (by simp) rfl
            clear ho HM
            refine wpOp_step rfl (fun K hK => ?_)
            have HK : Hid (∀ a w, _ → K a w) := hK
            clear hK
            simp only [e15, e9]
            go_simp
            exact HK.out _ _ ⟨undef, by simp [upd, e15, e9], HG.out, rfl, fun k u hu => hu⟩
          · obtain rfl := Option.some.inj ho
            have e14 : fq 14 = undef := HM.out { on := 14, ground := .data } (by simp) rfl
            have e16 : fq 16 = undef := HM.out { on := 16, ground := .data } (by simp) rfl
            have e9 : fq 9 = Value.bool false := HM.out { on := 9, ground := .guard } (by simp) rfl
            clear ho HM
            refine wpOp_step rfl (fun K hK => ?_)
            have HK : Hid (∀ a w, _ → K a w) := hK
            clear hK
            simp only [e14, e16, e9]
            go_simp
            exact HK.out _ _ ⟨undef, by simp [upd, e14, e16, e9], HG.out, rfl, fun k u hu => hu⟩
          · obtain rfl := Option.some.inj ho
            have e9 : fq 9 = Value.bool false := HM.out { on := 9, ground := .data } (by simp) rfl
            have e17 : fq 17 = undef := HM.out { on := 17, ground := .data } (by simp) rfl
            clear ho HM
            refine wpOp_step rfl (fun K hK => ?_)
            have HK : Hid (∀ a w, _ → K a w) := hK
            clear hK
            simp only [e9, e17]
            go_simp
            exact HK.out _ _ ⟨Value.bool false, by simp [upd, e9, e17], HG.out, rfl, fun k u hu => hu⟩
        case finA =>
          rintro fq w' hG hall
          have e18 : fq 18 = Value.bool false := hall 18 (by omega)
          have HG : Hid (Below wr.heap.size wr w') := hG
          clear hall
          clear hG
          have HB2 : Hid (Below W0.heap.size W0 w') := HB.out.trans (HG.out.mono HB.out.size)
          have HP2 : Hid (inPre xs (k + 1) ⟨c, s⟩ = false) := by show _ = _; rw [HSU.out]; simp [alEq, h1]
          rw [e18]
          go_wp2
          go_roundw
          case rel => exact ⟨k + 1, by omega, by go_num, HP2, HB2⟩
          case measure => first | (simp [intOf]; done) | (simp [intOf]; omega)
      | true =>
        cases h2 : (xs[k].s.toList == s.toList) with
        | false =>
          refine wp_region_all 19 (fun n => (u21 :: u22 :: u23 :: u24 :: u25 :: u26 :: u27 :: u28 :: u29 :: u30 :: u31 :: u32 :: u33 :: u34 :: u35 :: u36 :: u37 :: u38 :: u39 :: []).getD n undef) (fun fq => { tmps := List.toArray (Value.slice ad rs.length cap :: Value.agg #[Value.string oa, Value.string ob, Value.string r, Value.string c, Value.string d, Value.string s] :: undef :: Value.pointer (some { block := w.heap.size, off := 0 }) :: u4 :: Value.slice (some { block := b, off := off }) xs.length capA :: Value.int IntKind.i64 (k : Int) :: Value.slice ad rs.length cap :: Value.pointer (some { block := w.heap.size, off := 0 }) :: Value.pointer (some { block := w.heap.size, off := 0 }) :: Value.string oa :: Value.pointer (some { block := w.heap.size, off := 2 }) :: Value.string r :: Value.slice adE rows.length capE :: Value.slice (some { block := b, off := off }) xs.length capA :: Value.int IntKind.i64 (k : Int) :: Value.slice (some { block := b, off := off }) xs.length capA :: Value.int IntKind.i64 (xs.length : Int) :: Value.bool true :: u19 :: u20 :: fq 0 :: fq 1 :: fq 2 :: fq 3 :: fq 4 :: fq 5 :: fq 6 :: fq 7 :: fq 8 :: fq 9 :: fq 10 :: fq 11 :: fq 12 :: fq 13 :: fq 14 :: fq 15 :: fq 16 :: fq 17 :: fq 18 :: u40 :: u41 :: []), defers := [] }) (fun n v _ => v = (Value.slice (some { block := b, off := off }) xs.length capA :: Value.int IntKind.i64 (k : Int) :: Value.pointer (some ⟨b, off + k * 2, none⟩) :: Value.pointer (some ⟨b, off + k * 2, none⟩) :: Value.string xs[k].t :: Value.pointer (some ⟨w.heap.size, 3, none⟩) :: Value.pointer (some ⟨w.heap.size, 3, none⟩) :: Value.string c :: Value.bool true :: Value.bool true :: Value.slice (some { block := b, off := off }) xs.length capA :: Value.int IntKind.i64 (k : Int) :: Value.pointer (some ⟨b, off + k * 2, none⟩) :: Value.pointer (some ⟨b, off + k * 2 + 1, none⟩) :: Value.string xs[k].s :: Value.pointer (some ⟨w.heap.size, 5, none⟩) :: Value.string s :: Value.bool false :: Value.bool false :: []).getD n undef) (fun w' => Below wr.heap.size wr w') (by kernel_rfl) rfl (by kernel_rfl) rfl (Below.refl _ _).drew ?stepB ?finB
          case stepB =>
            rintro i hi o ho fq w' hG hpre
            have HG : Hid (Below wr.heap.size wr w') := hG
            replace t0 := kept5 hG hb5 t0
            replace t1 := kept5 hG hb5 t1
            replace c3 := kept5 hG hwl c3
            replace c5 := kept5 hG hwl c5
            have HM : Hid (∀ e ∈ o.after, Region.binds .any e = true → _) := hpre
            clear hG hpre
            have hc : i = 0 ∨ i = 1 ∨ i = 2 ∨ i = 3 ∨ i = 4 ∨ i = 5 ∨ i = 6 ∨ i = 7 ∨ i = 8 ∨ i = 9 ∨ i = 10 ∨ i = 11 ∨ i = 12 ∨ i = 13 ∨ i = 14 ∨ i = 15 ∨ i = 16 ∨ i = 17 ∨ i = 18 := by omega
            clear hi
            rcases hc with rfl | rfl | rfl | rfl | rfl | rfl | rfl | rfl | rfl | rfl | rfl | rfl | rfl | rfl | rfl | rfl | rfl | rfl | rfl
            · obtain rfl := Option.some.inj ho
              clear ho HM
              refine wpOp_step rfl (fun K hK => ?_)
              have HK : Hid (∀ a w, _ → K a w) := hK
              clear hK
              dsimp only
              go_simp
              exact HK.out _ _ ⟨Value.slice (some { block := b, off := off }) xs.length capA, by simp [upd], HG.out, rfl, fun k u hu => hu⟩
            · obtain rfl := Option.some.inj ho
              clear ho HM
              refine wpOp_step rfl (fun K hK => ?_)
              have HK : Hid (∀ a w, _ → K a w) := hK
              clear hK
              dsimp only
              go_simp
              exact HK.out _ _ ⟨Value.int IntKind.i64 (k : Int), by simp [upd], HG.out, rfl, fun k u hu => hu⟩
            · obtain rfl := Option.some.inj ho
              have e0 : fq 0 = Value.slice (some { block := b, off := off }) xs.length capA := HM.out { on := 0, ground := .data } (by simp) rfl
              have e1 : fq 1 = Value.int IntKind.i64 (k : Int) := HM.out { on := 1, ground := .data } (by simp) rfl
              clear ho HM
              refine wpOp_step rfl (fun K hK => ?_)
              have HK : Hid (∀ a w, _ → K a w) := hK
              clear hK
              simp only [e0, e1]
              go_simp
              exact HK.out _ _ ⟨Value.pointer (some ⟨b, off + k * 2, none⟩), by simp [upd, e0, e1], HG.out, rfl, fun k u hu => hu⟩
            · obtain rfl := Option.some.inj ho
              have e2 : fq 2 = Value.pointer (some ⟨b, off + k * 2, none⟩) := HM.out { on := 2, ground := .data } (by simp) rfl
              clear ho HM
              refine wpOp_step rfl (fun K hK => ?_)
              have HK : Hid (∀ a w, _ → K a w) := hK
              clear hK
              simp only [e2]
              go_simp
              exact HK.out _ _ ⟨Value.pointer (some ⟨b, off + k * 2, none⟩), by simp [upd, e2], HG.out, rfl, fun k u hu => hu⟩
            · obtain rfl := Option.some.inj ho
              have e3 : fq 3 = Value.pointer (some ⟨b, off + k * 2, none⟩) := HM.out { on := 3, ground := .data } (by simp) rfl
              clear ho HM
              refine wpOp_step rfl (fun K hK => ?_)
              have HK : Hid (∀ a w, _ → K a w) := hK
              clear hK
              simp only [e3]
              go_simp
              exact HK.out _ _ ⟨Value.string xs[k].t, by simp [upd, e3], HG.out, rfl, fun k u hu => hu⟩
            · obtain rfl := Option.some.inj ho
              clear ho HM
              refine wpOp_step rfl (fun K hK => ?_)
              have HK : Hid (∀ a w, _ → K a w) := hK
              clear hK
              dsimp only
              go_simp
              exact HK.out _ _ ⟨Value.pointer (some ⟨w.heap.size, 3, none⟩), by simp [upd], HG.out, rfl, fun k u hu => hu⟩
            · obtain rfl := Option.some.inj ho
              have e5 : fq 5 = Value.pointer (some ⟨w.heap.size, 3, none⟩) := HM.out { on := 5, ground := .data } (by simp) rfl
              clear ho HM
              refine wpOp_step rfl (fun K hK => ?_)
              have HK : Hid (∀ a w, _ → K a w) := hK
              clear hK
              simp only [e5]
              go_simp
              exact HK.out _ _ ⟨Value.pointer (some ⟨w.heap.size, 3, none⟩), by simp [upd, e5], HG.out, rfl, fun k u hu => hu⟩
            · obtain rfl := Option.some.inj ho
              have e6 : fq 6 = Value.pointer (some ⟨w.heap.size, 3, none⟩) := HM.out { on := 6, ground := .data } (by simp) rfl
              clear ho HM
              refine wpOp_step rfl (fun K hK => ?_)
              have HK : Hid (∀ a w, _ → K a w) := hK
              clear hK
              simp only [e6]
              go_simp
              exact HK.out _ _ ⟨Value.string c, by simp [upd, e6], HG.out, rfl, fun k u hu => hu⟩
            · obtain rfl := Option.some.inj ho
              have e4 : fq 4 = Value.string xs[k].t := HM.out { on := 4, ground := .data } (by simp) rfl
              have e7 : fq 7 = Value.string c := HM.out { on := 7, ground := .data } (by simp) rfl
              clear ho HM
              refine wpOp_step rfl (fun K hK => ?_)
              have HK : Hid (∀ a w, _ → K a w) := hK
              clear hK
              simp only [e4, e7]
              go_simp
              exact HK.out _ _ ⟨Value.bool true, by simp [upd, e4, e7], HG.out, rfl, fun k u hu => hu⟩
            · obtain rfl := Option.some.inj ho
              have e8 : fq 8 = Value.bool true := HM.out { on := 8, ground := .data } (by simp) rfl
              clear ho HM
              refine wpOp_step rfl (fun K hK => ?_)
              have HK : Hid (∀ a w, _ → K a w) := hK
              clear hK
              simp only [e8]
              go_simp
              exact HK.out _ _ ⟨Value.bool true, by simp [upd, e8], HG.out, rfl, fun k u hu => hu⟩
            · obtain rfl := Option.some.inj ho
              have e9 : fq 9 = Value.bool true := HM.out { on := 9, ground := .guard } (by simp) rfl
              clear ho HM
              refine wpOp_step rfl (fun K hK => ?_)
              have HK : Hid (∀ a w, _ → K a w) := hK
              clear hK
              simp only [e9]
              go_simp
              exact HK.out _ _ ⟨Value.slice (some { block := b, off := off }) xs.length capA, by simp [upd, e9], HG.out, rfl, fun k u hu => hu⟩
            · obtain rfl := Option.some.inj ho
              have e9 : fq 9 = Value.bool true := HM.out { on := 9, ground := .guard } (by simp) rfl
              clear ho HM
              refine wpOp_step rfl (fun K hK => ?_)
              have HK : Hid (∀ a w, _ → K a w) := hK
              clear hK
              simp only [e9]
              go_simp
              exact HK.out _ _ ⟨Value.int IntKind.i64 (k : Int), by simp [upd, e9], HG.out, rfl, fun k u hu => hu⟩
            · obtain rfl := Option.some.inj ho
              have e10 : fq 10 = Value.slice (some { block := b, off := off }) xs.length capA := HM.out { on := 10, ground := .data } (by simp) rfl
              have e11 : fq 11 = Value.int IntKind.i64 (k : Int) := HM.out { on := 11, ground := .data } (by simp) rfl
              have e9 : fq 9 = Value.bool true := HM.out { on := 9, ground := .guard } (by simp) rfl
              clear ho HM
              refine wpOp_step rfl (fun K hK => ?_)
              have HK : Hid (∀ a w, _ → K a w) := hK
              clear hK
              simp only [e10, e11, e9]
              go_simp
              exact HK.out _ _ ⟨Value.pointer (some ⟨b, off + k * 2, none⟩), by simp [upd, e10, e11, e9], HG.out, rfl, fun k u hu => hu⟩
            · obtain rfl := Option.some.inj ho
              have e12 : fq 12 = Value.pointer (some ⟨b, off + k * 2, none⟩) := HM.out { on := 12, ground := .data } (by simp) rfl
              have e9 : fq 9 = Value.bool true := HM.out { on := 9, ground := .guard } (by simp) rfl
              clear ho HM
              refine wpOp_step rfl (fun K hK => ?_)
              have HK : Hid (∀ a w, _ → K a w) := hK
              clear hK
              simp only [e12, e9]
              go_simp
              exact HK.out _ _ ⟨Value.pointer (some ⟨b, off + k * 2 + 1, none⟩), by simp [upd, e12, e9], HG.out, rfl, fun k u hu => hu⟩
            · obtain rfl := Option.some.inj ho
              have e13 : fq 13 = Value.pointer (some ⟨b, off + k * 2 + 1, none⟩) := HM.out { on := 13, ground := .data } (by simp) rfl
              have e9 : fq 9 = Value.bool true := HM.out { on := 9, ground := .guard } (by simp) rfl
              clear ho HM
              refine wpOp_step rfl (fun K hK => ?_)
              have HK : Hid (∀ a w, _ → K a w) := hK
              clear hK
              simp only [e13, e9]
              go_simp
              exact HK.out _ _ ⟨Value.string xs[k].s, by simp [upd, e13, e9], HG.out, rfl, fun k u hu => hu⟩
            · obtain rfl := Option.some.inj ho
              have e9 : fq 9 = Value.bool true := HM.out { on := 9, ground := .guard } (by simp) rfl
              clear ho HM
              refine wpOp_step rfl (fun K hK => ?_)
              have HK : Hid (∀ a w, _ → K a w) := hK
              clear hK
              simp only [e9]
              go_simp
              exact HK.out _ _ ⟨Value.pointer (some ⟨w.heap.size, 5, none⟩), by simp [upd, e9], HG.out, rfl, fun k u hu => hu⟩
            · obtain rfl := Option.some.inj ho
              have e15 : fq 15 = Value.pointer (some ⟨w.heap.size, 5, none⟩) := HM.out { on := 15, ground := .data } (by simp) rfl
              have e9 : fq 9 = Value.bool true := HM.out { on := 9, ground := .guard } (by simp) rfl
              clear ho HM
              refine wpOp_step rfl (fun K hK => ?_)
              have HK : Hid (∀ a w, _ → K a w) := hK
              clear hK
              simp only [e15, e9]
              go_simp
              exact HK.out _ _ ⟨Value.string s, by simp [upd, e15, e9], HG.out, rfl, fun k u hu => hu⟩
            · obtain rfl := Option.some.inj ho
              have e14 : fq 14 = Value.string xs[k].s := HM.out { on := 14, ground := .data } (by simp) rfl
              have e16 : fq 16 = Value.string s := HM.out { on := 16, ground := .data } (by simp) rfl
              have e9 : fq 9 = Value.bool true := HM.out { on := 9, ground := .guard } (by simp) rfl
              clear ho HM
              refine wpOp_step rfl (fun K hK => ?_)
              have HK : Hid (∀ a w, _ → K a w) := hK
              clear hK
              simp only [e14, e16, e9]
              go_simp
              exact HK.out _ _ ⟨Value.bool false, by simp [upd, e14, e16, e9], HG.out, rfl, fun k u hu => hu⟩
            · obtain rfl := Option.some.inj ho
              have e9 : fq 9 = Value.bool true := HM.out { on := 9, ground := .data } (by simp) rfl
              have e17 : fq 17 = Value.bool false := HM.out { on := 17, ground := .data } (by simp) rfl
              clear ho HM
              refine wpOp_step rfl (fun K hK => ?_)
              have HK : Hid (∀ a w, _ → K a w) := hK
              clear hK
              simp only [e9, e17]
              go_simp
              exact HK.out _ _ ⟨Value.bool false, by simp [upd, e9, e17], HG.out, rfl, fun k u hu => hu⟩
          case finB =>
            rintro fq w' hG hall
            have e18 : fq 18 = Value.bool false := hall 18 (by omega)
            have HG : Hid (Below wr.heap.size wr w') := hG
            clear hall
            clear hG
            have HB2 : Hid (Below W0.heap.size W0 w') := HB.out.trans (HG.out.mono HB.out.size)
            have HP2 : Hid (inPre xs (k + 1) ⟨c, s⟩ = false) := by show _ = _; rw [HSU.out]; simp [alEq, h1, h2]
            rw [e18]
            go_wp2
            go_roundw
            case rel => exact ⟨k + 1, by omega, by go_num, HP2, HB2⟩
            case measure => first | (simp [intOf]; done) | (simp [intOf]; omega)
        | true =>
          refine wp_region_all 19 (fun n => (u21 :: u22 :: u23 :: u24 :: u25 :: u26 :: u27 :: u28 :: u29 :: u30 :: u31 :: u32 :: u33 :: u34 :: u35 :: u36 :: u37 :: u38 :: u39 :: []).getD n undef) (fun fq => { tmps := List.toArray (Value.slice ad rs.length cap :: Value.agg #[Value.string oa, Value.string ob, Value.string r, Value.string c, Value.string d, Value.string s] :: undef :: Value.pointer (some { block := w.heap.size, off := 0 }) :: u4 :: Value.slice (some { block := b, off := off }) xs.length capA :: Value.int IntKind.i64 (k : Int) :: Value.slice ad rs.length cap :: Value.pointer (some { block := w.heap.size, off := 0 }) :: Value.pointer (some { block := w.heap.size, off := 0 }) :: Value.string oa :: Value.pointer (some { block := w.heap.size, off := 2 }) :: Value.string r :: Value.slice adE rows.length capE :: Value.slice (some { block := b, off := off }) xs.length capA :: Value.int IntKind.i64 (k : Int) :: Value.slice (some { block := b, off := off }) xs.length capA :: Value.int IntKind.i64 (xs.length : Int) :: Value.bool true :: u19 :: u20 :: fq 0 :: fq 1 :: fq 2 :: fq 3 :: fq 4 :: fq 5 :: fq 6 :: fq 7 :: fq 8 :: fq 9 :: fq 10 :: fq 11 :: fq 12 :: fq 13 :: fq 14 :: fq 15 :: fq 16 :: fq 17 :: fq 18 :: u40 :: u41 :: []), defers := [] }) (fun n v _ => v = (Value.slice (some { block := b, off := off }) xs.length capA :: Value.int IntKind.i64 (k : Int) :: Value.pointer (some ⟨b, off + k * 2, none⟩) :: Value.pointer (some ⟨b, off + k * 2, none⟩) :: Value.string xs[k].t :: Value.pointer (some ⟨w.heap.size, 3, none⟩) :: Value.pointer (some ⟨w.heap.size, 3, none⟩) :: Value.string c :: Value.bool true :: Value.bool true :: Value.slice (some { block := b, off := off }) xs.length capA :: Value.int IntKind.i64 (k : Int) :: Value.pointer (some ⟨b, off + k * 2, none⟩) :: Value.pointer (some ⟨b, off + k * 2 + 1, none⟩) :: Value.string xs[k].s :: Value.pointer (some ⟨w.heap.size, 5, none⟩) :: Value.string s :: Value.bool true :: Value.bool true :: []).getD n undef) (fun w' => Below wr.heap.size wr w') (by kernel_rfl) rfl (by kernel_rfl) rfl (Below.refl _ _).drew ?stepC ?finC
          case stepC =>
            rintro i hi o ho fq w' hG hpre
            have HG : Hid (Below wr.heap.size wr w') := hG
            replace t0 := kept5 hG hb5 t0
            replace t1 := kept5 hG hb5 t1
            replace c3 := kept5 hG hwl c3
            replace c5 := kept5 hG hwl c5
            have HM : Hid (∀ e ∈ o.after, Region.binds .any e = true → _) := hpre
            clear hG hpre
            have hc : i = 0 ∨ i = 1 ∨ i = 2 ∨ i = 3 ∨ i = 4 ∨ i = 5 ∨ i = 6 ∨ i = 7 ∨ i = 8 ∨ i = 9 ∨ i = 10 ∨ i = 11 ∨ i = 12 ∨ i = 13 ∨ i = 14 ∨ i = 15 ∨ i = 16 ∨ i = 17 ∨ i = 18 := by omega
            clear hi
            rcases hc with rfl | rfl | rfl | rfl | rfl | rfl | rfl | rfl | rfl | rfl | rfl | rfl | rfl | rfl | rfl | rfl | rfl | rfl | rfl
            · obtain rfl := Option.some.inj ho
              clear ho HM
              refine wpOp_step rfl (fun K hK => ?_)
              have HK : Hid (∀ a w, _ → K a w) := hK
              clear hK
              dsimp only
              go_simp
              exact HK.out _ _ ⟨Value.slice (some { block := b, off := off }) xs.length capA, by simp [upd], HG.out, rfl, fun k u hu => hu⟩
            · obtain rfl := Option.some.inj ho
              clear ho HM
              refine wpOp_step rfl (fun K hK => ?_)
              have HK : Hid (∀ a w, _ → K a w) := hK
              clear hK
              dsimp only
              go_simp
              exact HK.out _ _ ⟨Value.int IntKind.i64 (k : Int), by simp [upd], HG.out, rfl, fun k u hu => hu⟩
            · obtain rfl := Option.some.inj ho
              have e0 : fq 0 = Value.slice (some { block := b, off := off }) xs.length capA := HM.out { on := 0, ground := .data } (by simp) rfl
              have e1 : fq 1 = Value.int IntKind.i64 (k : Int) := HM.out { on := 1, ground := .data } (by simp) rfl
              clear ho HM
              refine wpOp_step rfl (fun K hK => ?_)
              have HK : Hid (∀ a w, _ → K a w) := hK
              clear hK
              simp only [e0, e1]
              go_simp
              exact HK.out _ _ ⟨Value.pointer (some ⟨b, off + k * 2, none⟩), by simp [upd, e0, e1], HG.out, rfl, fun k u hu => hu⟩
            · obtain rfl := Option.some.inj ho
              have e2 : fq 2 = Value.pointer (some ⟨b, off + k * 2, none⟩) := HM.out { on := 2, ground := .data } (by simp) rfl
              clear ho HM
              refine wpOp_step rfl (fun K hK => ?_)
              have HK : Hid (∀ a w, _ → K a w) := hK
              clear hK
              simp only [e2]
              go_simp
              exact HK.out _ _ ⟨Value.pointer (some ⟨b, off + k * 2, none⟩), by simp [upd, e2], HG.out, rfl, fun k u hu => hu⟩
            · obtain rfl := Option.some.inj ho
              have e3 : fq 3 = Value.pointer (some ⟨b, off + k * 2, none⟩) := HM.out { on := 3, ground := .data } (by simp) rfl
              clear ho HM
              refine wpOp_step rfl (fun K hK => ?_)
              have HK : Hid (∀ a w, _ → K a w) := hK
              clear hK
              simp only [e3]
              go_simp
              exact HK.out _ _ ⟨Value.string xs[k].t, by simp [upd, e3], HG.out, rfl, fun k u hu => hu⟩
            · obtain rfl := Option.some.inj ho
              clear ho HM
              refine wpOp_step rfl (fun K hK => ?_)
              have HK : Hid (∀ a w, _ → K a w) := hK
              clear hK
              dsimp only
              go_simp
              exact HK.out _ _ ⟨Value.pointer (some ⟨w.heap.size, 3, none⟩), by simp [upd], HG.out, rfl, fun k u hu => hu⟩
            · obtain rfl := Option.some.inj ho
              have e5 : fq 5 = Value.pointer (some ⟨w.heap.size, 3, none⟩) := HM.out { on := 5, ground := .data } (by simp) rfl
              clear ho HM
              refine wpOp_step rfl (fun K hK => ?_)
              have HK : Hid (∀ a w, _ → K a w) := hK
              clear hK
              simp only [e5]
              go_simp
              exact HK.out _ _ ⟨Value.pointer (some ⟨w.heap.size, 3, none⟩), by simp [upd, e5], HG.out, rfl, fun k u hu => hu⟩
            · obtain rfl := Option.some.inj ho
              have e6 : fq 6 = Value.pointer (some ⟨w.heap.size, 3, none⟩) := HM.out { on := 6, ground := .data } (by simp) rfl
              clear ho HM
              refine wpOp_step rfl (fun K hK => ?_)
              have HK : Hid (∀ a w, _ → K a w) := hK
              clear hK
              simp only [e6]
              go_simp
              exact HK.out _ _ ⟨Value.string c, by simp [upd, e6], HG.out, rfl, fun k u hu => hu⟩
            · obtain rfl := Option.some.inj ho
              have e4 : fq 4 = Value.string xs[k].t := HM.out { on := 4, ground := .data } (by simp) rfl
              have e7 : fq 7 = Value.string c := HM.out { on := 7, ground := .data } (by simp) rfl
              clear ho HM
              refine wpOp_step rfl (fun K hK => ?_)
              have HK : Hid (∀ a w, _ → K a w) := hK
              clear hK
              simp only [e4, e7]
              go_simp
              exact HK.out _ _ ⟨Value.bool true, by simp [upd, e4, e7], HG.out, rfl, fun k u hu => hu⟩
            · obtain rfl := Option.some.inj ho
              have e8 : fq 8 = Value.bool true := HM.out { on := 8, ground := .data } (by simp) rfl
              clear ho HM
              refine wpOp_step rfl (fun K hK => ?_)
              have HK : Hid (∀ a w, _ → K a w) := hK
              clear hK
              simp only [e8]
              go_simp
              exact HK.out _ _ ⟨Value.bool true, by simp [upd, e8], HG.out, rfl, fun k u hu => hu⟩
            · obtain rfl := Option.some.inj ho
              have e9 : fq 9 = Value.bool true := HM.out { on := 9, ground := .guard } (by simp) rfl
              clear ho HM
              refine wpOp_step rfl (fun K hK => ?_)
              have HK : Hid (∀ a w, _ → K a w) := hK
              clear hK
              simp only [e9]
              go_simp
              exact HK.out _ _ ⟨Value.slice (some { block := b, off := off }) xs.length capA, by simp [upd, e9], HG.out, rfl, fun k u hu => hu⟩
            · obtain rfl := Option.some.inj ho
              have e9 : fq 9 = Value.bool true := HM.out { on := 9, ground := .guard } (by simp) rfl
              clear ho HM
              refine wpOp_step rfl (fun K hK => ?_)
              have HK : Hid (∀ a w, _ → K a w) := hK
              clear hK
              simp only [e9]
              go_simp
              exact HK.out _ _ ⟨Value.int IntKind.i64 (k : Int), by simp [upd, e9], HG.out, rfl, fun k u hu => hu⟩
            · obtain rfl := Option.some.inj ho
              have e10 : fq 10 = Value.slice (some { block := b, off := off }) xs.length capA := HM.out { on := 10, ground := .data } (by simp) rfl
              have e11 : fq 11 = Value.int IntKind.i64 (k : Int) := HM.out { on := 11, ground := .data } (by simp) rfl
              have e9 : fq 9 = Value.bool true := HM.out { on := 9, ground := .guard } (by simp) rfl
              clear ho HM
              refine wpOp_step rfl (fun K hK => ?_)
              have HK : Hid (∀ a w, _ → K a w) := hK
              clear hK
              simp only [e10, e11, e9]
              go_simp
              exact HK.out _ _ ⟨Value.pointer (some ⟨b, off + k * 2, none⟩), by simp [upd, e10, e11, e9], HG.out, rfl, fun k u hu => hu⟩
            · obtain rfl := Option.some.inj ho
              have e12 : fq 12 = Value.pointer (some ⟨b, off + k * 2, none⟩) := HM.out { on := 12, ground := .data } (by simp) rfl
              have e9 : fq 9 = Value.bool true := HM.out { on := 9, ground := .guard } (by simp) rfl
              clear ho HM
              refine wpOp_step rfl (fun K hK => ?_)
              have HK : Hid (∀ a w, _ → K a w) := hK
              clear hK
              simp only [e12, e9]
              go_simp
              exact HK.out _ _ ⟨Value.pointer (some ⟨b, off + k * 2 + 1, none⟩), by simp [upd, e12, e9], HG.out, rfl, fun k u hu => hu⟩
            · obtain rfl := Option.some.inj ho
              have e13 : fq 13 = Value.pointer (some ⟨b, off + k * 2 + 1, none⟩) := HM.out { on := 13, ground := .data } (by simp) rfl
              have e9 : fq 9 = Value.bool true := HM.out { on := 9, ground := .guard } (by simp) rfl
              clear ho HM
              refine wpOp_step rfl (fun K hK => ?_)
              have HK : Hid (∀ a w, _ → K a w) := hK
              clear hK
              simp only [e13, e9]
              go_simp
              exact HK.out _ _ ⟨Value.string xs[k].s, by simp [upd, e13, e9], HG.out, rfl, fun k u hu => hu⟩
            · obtain rfl := Option.some.inj ho
              have e9 : fq 9 = Value.bool true := HM.out { on := 9, ground := .guard } (by simp) rfl
              clear ho HM
              refine wpOp_step rfl (fun K hK => ?_)
              have HK : Hid (∀ a w, _ → K a w) := hK
              clear hK
              simp only [e9]
              go_simp
              exact HK.out _ _ ⟨Value.pointer (some ⟨w.heap.size, 5, none⟩), by simp [upd, e9], HG.out, rfl, fun k u hu => hu⟩
            · obtain rfl := Option.some.inj ho
              have e15 : fq 15 = Value.pointer (some ⟨w.heap.size, 5, none⟩) := HM.out { on := 15, ground := .data } (by simp) rfl
              have e9 : fq 9 = Value.bool true := HM.out { on := 9, ground := .guard } (by simp) rfl
              clear ho HM
              refine wpOp_step rfl (fun K hK => ?_)
              have HK : Hid (∀ a w, _ → K a w) := hK
              clear hK
              simp only [e15, e9]
              go_simp
              exact HK.out _ _ ⟨Value.string s, by simp [upd, e15, e9], HG.out, rfl, fun k u hu => hu⟩
            · obtain rfl := Option.some.inj ho
              have e14 : fq 14 = Value.string xs[k].s := HM.out { on := 14, ground := .data } (by simp) rfl
              have e16 : fq 16 = Value.string s := HM.out { on := 16, ground := .data } (by simp) rfl
              have e9 : fq 9 = Value.bool true := HM.out { on := 9, ground := .guard } (by simp) rfl
              clear ho HM
              refine wpOp_step rfl (fun K hK => ?_)
              have HK : Hid (∀ a w, _ → K a w) := hK
              clear hK
              simp only [e14, e16, e9]
              go_simp
              exact HK.out _ _ ⟨Value.bool true, by simp [upd, e14, e16, e9], HG.out, rfl, fun k u hu => hu⟩
            · obtain rfl := Option.some.inj ho
              have e9 : fq 9 = Value.bool true := HM.out { on := 9, ground := .data } (by simp) rfl
              have e17 : fq 17 = Value.bool true := HM.out { on := 17, ground := .data } (by simp) rfl
              clear ho HM
              refine wpOp_step rfl (fun K hK => ?_)
              have HK : Hid (∀ a w, _ → K a w) := hK
              clear hK
              simp only [e9, e17]
              go_simp
              exact HK.out _ _ ⟨Value.bool true, by simp [upd, e9, e17], HG.out, rfl, fun k u hu => hu⟩
          case finC =>
            rintro fq w' hG hall
            have e18 : fq 18 = Value.bool true := hall 18 (by omega)
            have HG : Hid (Below wr.heap.size wr w') := hG
            clear hall
            replace c0 := kept5 hG hwl c0
            replace c1 := kept5 hG hwl c1
            replace c2 := kept5 hG hwl c2
            replace c3 := kept5 hG hwl c3
            replace c4 := kept5 hG hwl c4
            replace c5 := kept5 hG hwl c5
            clear hG
            rw [e18]
            have HN : Hid (fitsS (tys rs) oa ob r c d s = tupB oa ob r c d s) := by show _ = _; unfold fitsS; rw [← HXS.out, inPre_bad hlt (by simp [alEq, h1, h2])]; rfl
            go_wp2_with fail
            refine (specTup_any oa ob r c d s _ ha hb hr hc hd hz).mono ?_
            rintro e w2 ⟨rfl, hb2⟩
            have HB2 : Hid (Below w.heap.size w w2) := HBW.out.trans ((HG.out.mono HBW.out.size).trans (hb2.mono (Nat.le_trans HBW.out.size HG.out.size)))
            clear hb2
            go_wp2
            go_ret
            exact ⟨by rw [HN.out]; rfl, HB2.out⟩
    · obtain rfl : k = xs.length := by omega
      have HN : Hid (fitsS (tys rs) oa ob r c d s = false) := by show _ = _; unfold fitsS; rw [← HXS.out, HP.out]; rfl
      go_wp2
      go_ret
      exact ⟨by rw [HN.out]; rfl, HBW.out⟩

set_option maxRecDepth 100000 in
set_option maxHeartbeats 2000000 in
theorem specFits_any (ad : Option Addr) (cap : Nat) (rs : List TR) (oa ob r c d s : ByteArray) (w : World) (hlen : rs.length ≤ 1048576) (hs : SlT w ad rs) (hl : ∀ r ∈ rs, r.light) (hf : ∀ r ∈ rs, r.fits) (ha : oa.size ≤ maxLen) (hb : ob.size ≤ maxLen) (hr : r.size ≤ maxLen) (hc : c.size ≤ maxLen) (hd : d.size ≤ maxLen) (hz : s.size ≤ maxLen) :
    Calls Try.prog 28 #[.slice ad rs.length cap, .agg #[.string oa, .string ob, .string r, .string c, .string d, .string s]] w fun e w' => e = .returned (.bool (fitsD (tys rs) oa ob r c d s)) ∧ Below w.heap.size w w' := by
  have HS : Hid (SlT w ad rs) := hs
  have HL : Hid (∀ r ∈ rs, r.light) := hl
  have HFT : Hid (∀ r ∈ rs, r.fits) := hf
  clear hs hl hf
  obtain ⟨W0, hW0⟩ : ∃ W0, W0 = w.alloc (.cells #[.string oa, .string ob, .string r, .string c, .string d, .string s] 27) := ⟨_, rfl⟩
  have hal : Below w.heap.size w W0 := by rw [hW0]; exact (Below.refl _ _).alloc (Nat.le_refl _) _
  have HB0 : Hid (Below w.heap.size w W0) := hal
  have hw0 : w.heap.size < W0.heap.size := by rw [hW0]; simp
  have c0 : W0.cell? ⟨w.heap.size, 0, none⟩ = some (.string oa) := by rw [hW0]; simp
  have c1 : W0.cell? ⟨w.heap.size, 1, none⟩ = some (.string ob) := by rw [hW0]; simp
  have c2 : W0.cell? ⟨w.heap.size, 2, none⟩ = some (.string r) := by rw [hW0]; simp
  have c3 : W0.cell? ⟨w.heap.size, 3, none⟩ = some (.string c) := by rw [hW0]; simp
  have c4 : W0.cell? ⟨w.heap.size, 4, none⟩ = some (.string d) := by rw [hW0]; simp
  have c5 : W0.cell? ⟨w.heap.size, 5, none⟩ = some (.string s) := by rw [hW0]; simp
  clear hal
  go_enter Try.func28, Try.ntmps28
  go_wp2_with fail
  rw [← hW0]
  clear hW0
  refine (specSchemaOk_any ad cap rs _ hlen (HS.out.below HB0.out) HL.out HFT.out).mono ?_
  rintro e w1 ⟨rfl, hb1⟩
  have HB1 : Hid (Below w.heap.size w w1) := HB0.out.trans (hb1.mono HB0.out.size)
  have hw1 : w.heap.size < w1.heap.size := Nat.lt_of_lt_of_le hw0 hb1.size
  replace c0 := kept5 hb1 hw0 c0
  replace c1 := kept5 hb1 hw0 c1
  replace c2 := kept5 hb1 hw0 c2
  replace c3 := kept5 hb1 hw0 c3
  replace c4 := kept5 hb1 hw0 c4
  replace c5 := kept5 hb1 hw0 c5
  clear hb1 hw0
  cases hd5 : schemaD (tys rs) with
  | false =>
    have HN : Hid (fitsD (tys rs) oa ob r c d s = false) := by show _ = _; unfold fitsD; rw [hd5]; rfl
    go_wp2
    go_ret
    exact ⟨by rw [HN.out]; rfl, HB1.out⟩
  | true =>
    have HN : Hid (fitsD (tys rs) oa ob r c d s = fitsS (tys rs) oa ob r c d s) := by show _ = _; unfold fitsD; rw [hd5]; rfl
    go_wp2_with fail
    refine (l2Fits_any ad cap rs oa ob r c d s _ hlen (HS.out.below HB1.out) HL.out ha hb hr hc hd hz).mono ?_
    rintro e w2 ⟨rfl, hb2⟩
    have HB2 : Hid (Below w.heap.size w w2) := HB1.out.trans (hb2.mono HB1.out.size)
    clear hb2
    go_wp2
    go_ret
    exact ⟨by rw [HN.out]; rfl, HB2.out⟩

def VV (rs : List TR) (l : List Value) (n : Nat) (v : Value) (w : World) : Prop := (n = 8 → ∃ b, v = .map (some b) ∧ MapV encK Try.prog 84 w b 36 (tabM rs)) ∧ (n ≠ 8 → v = l.getD n undef)
theorem VV.same {rs : List TR} {l : List Value} {w : World} : ∀ k u, VV rs l k u w → VV rs l k u w := fun _ _ h => h
theorem VV.later {rs : List TR} {l : List Value} {w w' : World} (hb : Below w.heap.size w w') : ∀ k u, VV rs l k u w → VV rs l k u w' := fun k u h => ⟨fun e => by
  obtain ⟨b, e1, e2⟩ := h.1 e
  exact ⟨b, e1, e2.below hb⟩, h.2⟩

set_option maxRecDepth 100000 in
set_option maxHeartbeats 4000000 in
theorem implFits_any (ad : Option Addr) (cap : Nat) (rs : List TR) (oa ob r c d s : ByteArray) (w : World) (hlen : rs.length ≤ 1048576) (hs : SlT w ad rs) (hl : ∀ r ∈ rs, r.light) (hf : ∀ r ∈ rs, r.fits) (hcp : ∀ r ∈ rs, r.caps) (ha : oa.size ≤ maxLen) (hb : ob.size ≤ maxLen) (hr : r.size ≤ maxLen) (hc : c.size ≤ maxLen) (hd : d.size ≤ maxLen) (hz : s.size ≤ maxLen) :
    Calls Try.prog 30 #[.slice ad rs.length cap, .agg #[.string oa, .string ob, .string r, .string c, .string d, .string s]] w fun e w' => e = .returned (.bool (fitsD (tys rs) oa ob r c d s)) ∧ Below w.heap.size w w' := by
  have HS : Hid (SlT w ad rs) := hs
  have HL : Hid (∀ r ∈ rs, r.light) := hl
  have HFT : Hid (∀ r ∈ rs, r.fits) := hf
  have HCP : Hid (∀ r ∈ rs, r.caps) := hcp
  clear hs hl hf hcp
  obtain ⟨W0, hW0⟩ : ∃ W0, W0 = w.alloc (.cells #[.string oa, .string ob, .string r, .string c, .string d, .string s] 27) := ⟨_, rfl⟩
  have hal : Below w.heap.size w W0 := by rw [hW0]; exact (Below.refl _ _).alloc (Nat.le_refl _) _
  have HB0 : Hid (Below w.heap.size w W0) := hal
  have hw0 : w.heap.size < W0.heap.size := by rw [hW0]; simp
  have c0 : W0.cell? ⟨w.heap.size, 0, none⟩ = some (.string oa) := by rw [hW0]; simp
  have c1 : W0.cell? ⟨w.heap.size, 1, none⟩ = some (.string ob) := by rw [hW0]; simp
  have c2 : W0.cell? ⟨w.heap.size, 2, none⟩ = some (.string r) := by rw [hW0]; simp
  have c3 : W0.cell? ⟨w.heap.size, 3, none⟩ = some (.string c) := by rw [hW0]; simp
  have c4 : W0.cell? ⟨w.heap.size, 4, none⟩ = some (.string d) := by rw [hW0]; simp
  have c5 : W0.cell? ⟨w.heap.size, 5, none⟩ = some (.string s) := by rw [hW0]; simp
  clear hal
  go_enter Try.func30, Try.ntmps30
  go_wp2_with fail
  rw [← hW0]
  clear hW0
  cases hd5 : schemaD (tys rs) with
  | false =>
    have HN : Hid (fitsD (tys rs) oa ob r c d s = false) := by show _ = _; unfold fitsD; rw [hd5]; rfl
    refine wp_region_mid0 12 (fun n => (undef :: undef :: undef :: undef :: undef :: undef :: undef :: undef :: undef :: undef :: undef :: undef :: []).getD n undef) (fun fq => { tmps := List.toArray (Value.slice ad rs.length cap :: Value.agg #[Value.string oa, Value.string ob, Value.string r, Value.string c, Value.string d, Value.string s] :: undef :: Value.pointer (some { block := w.heap.size, off := 0 }) :: Value.bool false :: fq 0 :: fq 1 :: fq 2 :: fq 3 :: fq 4 :: fq 5 :: fq 6 :: fq 7 :: fq 8 :: fq 9 :: fq 10 :: fq 11 :: []), defers := [] }) (fun n v _ => v = (Value.slice ad rs.length cap :: Value.bool false :: Value.bool false :: undef :: undef :: Value.bool false :: Value.bool false :: undef :: undef :: undef :: undef :: Value.bool false :: []).getD n undef) (fun w' => Below W0.heap.size W0 w') (by kernel_rfl) rfl (by kernel_rfl) (by kernel_rfl) rfl (Below.refl _ _).drew ?stepA ?finA
    case stepA =>
      rintro i hi o ho fq w' hG hpre
      have HG : Hid (Below W0.heap.size W0 w') := hG
      replace c0 := kept5 hG hw0 c0
      replace c1 := kept5 hG hw0 c1
      replace c2 := kept5 hG hw0 c2
      replace c3 := kept5 hG hw0 c3
      replace c4 := kept5 hG hw0 c4
      replace c5 := kept5 hG hw0 c5
      have HM : Hid (∀ e ∈ o.after, Region.binds .any e = true → _) := hpre
      clear hG hpre
      have hc : i = 0 ∨ i = 1 ∨ i = 2 ∨ i = 3 ∨ i = 4 ∨ i = 5 ∨ i = 6 ∨ i = 7 ∨ i = 8 ∨ i = 9 ∨ i = 10 ∨ i = 11 := by omega
      clear hi
      rcases hc with rfl | rfl | rfl | rfl | rfl | rfl | rfl | rfl | rfl | rfl | rfl | rfl
      · obtain rfl := Option.some.inj ho
        clear ho HM
        refine wpOp_step rfl (fun K hK => ?_)
        have HK : Hid (∀ a w, _ → K a w) := hK
        clear hK
        dsimp only
        go_simp
        exact HK.out _ _ ⟨Value.slice ad rs.length cap, by simp [upd], HG.out, rfl, fun k u hu => hu⟩
      · obtain rfl := Option.some.inj ho
        have e0 : fq 0 = Value.slice ad rs.length cap := HM.out { on := 0, ground := .data } (by simp) rfl
        clear ho HM
        refine wpOp_step rfl (fun K hK => ?_)
        have HK : Hid (∀ a w, _ → K a w) := hK
        clear hK
        simp only [e0]
        go_simp
        refine (implSchemaOk_any ad cap rs _ hlen (HS.out.below (HB0.out.trans (HG.out.mono HB0.out.size))) HL.out HFT.out HCP.out).mono ?_
        rintro e w5 ⟨rfl, hb5⟩
        have HB5 : Hid (Below w'.heap.size w' w5) := hb5
        have HG5 : Hid (Below W0.heap.size W0 w5) := HG.out.trans (hb5.mono HG.out.size)
        rw [hd5]
        clear hb5
        go_wp2_with fail
        exact HK.out _ _ ⟨Value.bool false, by simp [upd, e0], HG5.out, rfl, fun k u hu => hu⟩
      · obtain rfl := Option.some.inj ho
        have e1 : fq 1 = Value.bool false := HM.out { on := 1, ground := .data } (by simp) rfl
        clear ho HM
        refine wpOp_step rfl (fun K hK => ?_)
        have HK : Hid (∀ a w, _ → K a w) := hK
        clear hK
        simp only [e1]
        go_simp
        exact HK.out _ _ ⟨Value.bool false, by simp [upd, e1], HG.out, rfl, fun k u hu => hu⟩
      · obtain rfl := Option.some.inj ho
        have e2 : fq 2 = Value.bool false := HM.out { on := 2, ground := .guard } (by simp) rfl
        clear ho HM
        refine wpOp_step rfl (fun K hK => ?_)
        have HK : Hid (∀ a w, _ → K a w) := hK
        clear hK
        simp only [e2]
        go_simp
        exact HK.out _ _ ⟨undef, by simp [upd, e2], HG.out, rfl, fun k u hu => hu⟩
      · obtain rfl := Option.some.inj ho
        have e3 : fq 3 = undef := HM.out { on := 3, ground := .data } (by simp) rfl
        have e2 : fq 2 = Value.bool false := HM.out { on := 2, ground := .guard } (by simp) rfl
        clear ho HM
        refine wpOp_step rfl (fun K hK => ?_)
        have HK : Hid (∀ a w, _ → K a w) := hK
        clear hK
        simp only [e3, e2]
        go_simp
        exact HK.out _ _ ⟨undef, by simp [upd, e3, e2], HG.out, rfl, fun k u hu => hu⟩
      · obtain rfl := Option.some.inj ho
        have e2 : fq 2 = Value.bool false := HM.out { on := 2, ground := .data } (by simp) rfl
        have e4 : fq 4 = undef := HM.out { on := 4, ground := .data } (by simp) rfl
        clear ho HM
        refine wpOp_step rfl (fun K hK => ?_)
        have HK : Hid (∀ a w, _ → K a w) := hK
        clear hK
        simp only [e2, e4]
        go_simp
        exact HK.out _ _ ⟨Value.bool false, by simp [upd, e2, e4], HG.out, rfl, fun k u hu => hu⟩
      · obtain rfl := Option.some.inj ho
        have e5 : fq 5 = Value.bool false := HM.out { on := 5, ground := .data } (by simp) rfl
        clear ho HM
        refine wpOp_step rfl (fun K hK => ?_)
        have HK : Hid (∀ a w, _ → K a w) := hK
        clear hK
        simp only [e5]
        go_simp
        exact HK.out _ _ ⟨Value.bool false, by simp [upd, e5], HG.out, rfl, fun k u hu => hu⟩
      · obtain rfl := Option.some.inj ho
        have e6 : fq 6 = Value.bool false := HM.out { on := 6, ground := .guard } (by simp) rfl
        clear ho HM
        refine wpOp_step rfl (fun K hK => ?_)
        have HK : Hid (∀ a w, _ → K a w) := hK
        clear hK
        simp only [e6]
        go_simp
        exact HK.out _ _ ⟨undef, by simp [upd, e6], HG.out, rfl, fun k u hu => hu⟩
      · obtain rfl := Option.some.inj ho
        have e7 : fq 7 = undef := HM.out { on := 7, ground := .data } (by simp) rfl
        have e6 : fq 6 = Value.bool false := HM.out { on := 6, ground := .guard } (by simp) rfl
        clear ho HM
        refine wpOp_step rfl (fun K hK => ?_)
        have HK : Hid (∀ a w, _ → K a w) := hK
        clear hK
        simp only [e7, e6]
        go_simp
        exact HK.out _ _ ⟨undef, by simp [upd, e7, e6], HG.out, rfl, fun k u hu => hu⟩
      · obtain rfl := Option.some.inj ho
        have e6 : fq 6 = Value.bool false := HM.out { on := 6, ground := .guard } (by simp) rfl
        clear ho HM
        refine wpOp_step rfl (fun K hK => ?_)
        have HK : Hid (∀ a w, _ → K a w) := hK
        clear hK
        simp only [e6]
        go_simp
        exact HK.out _ _ ⟨undef, by simp [upd, e6], HG.out, rfl, fun k u hu => hu⟩
      · obtain rfl := Option.some.inj ho
        have e8 : fq 8 = undef := HM.out { on := 8, ground := .data } (by simp) rfl
        have e9 : fq 9 = undef := HM.out { on := 9, ground := .data } (by simp) rfl
        have e6 : fq 6 = Value.bool false := HM.out { on := 6, ground := .guard } (by simp) rfl
        clear ho HM
        refine wpOp_step rfl (fun K hK => ?_)
        have HK : Hid (∀ a w, _ → K a w) := hK
        clear hK
        simp only [e8, e9, e6]
        go_simp
        exact HK.out _ _ ⟨undef, by simp [upd, e8, e9, e6], HG.out, rfl, fun k u hu => hu⟩
      · obtain rfl := Option.some.inj ho
        have e6 : fq 6 = Value.bool false := HM.out { on := 6, ground := .data } (by simp) rfl
        have e10 : fq 10 = undef := HM.out { on := 10, ground := .data } (by simp) rfl
        clear ho HM
        refine wpOp_step rfl (fun K hK => ?_)
        have HK : Hid (∀ a w, _ → K a w) := hK
        clear hK
        simp only [e6, e10]
        go_simp
        exact HK.out _ _ ⟨Value.bool false, by simp [upd, e6, e10], HG.out, rfl, fun k u hu => hu⟩
    case finA =>
      rintro o ho fq w' hG hall
      have e11 : fq 11 = Value.bool false := hall 11 (by omega)
      have HG : Hid (Below w.heap.size w w') := HB0.out.trans (hG.mono HB0.out.size)
      clear hG hall
      obtain rfl := Option.some.inj ho
      clear ho
      refine wpOp_step rfl (fun K hK => ?_)
      have HK : Hid (∀ a w, _ → K a w) := hK
      clear hK
      simp only [e11]
      go_simp
      refine HK.out _ _ ?_
      clear HK
      go_wp2
      go_ret
      exact ⟨by rw [HN.out]; rfl, HG.out⟩
  | true =>
    have hSP := schemaD_iff.1 hd5
    obtain ⟨h6, hr6, -⟩ := shape_facts hSP.1
    have HR6 : Hid (∀ r ∈ rs, r.rows.length ≤ 6) := hr6
    have HTAB : Hid (Tab rs (tabM rs)) := tab_of hSP.1
    obtain ⟨fi, hfi⟩ : ∃ fi, fi = fitsI (tys rs) oa r ⟨c, s⟩ := ⟨_, rfl⟩
    have HFI : Hid (fi = fitsI (tys rs) oa r ⟨c, s⟩) := hfi
    have HSM : Hid (fi = inPre (allowP (relOr (tys rs) oa r)) (allowP (relOr (tys rs) oa r)).length ⟨c, s⟩) := by show _ = _; rw [hfi]; exact fit_same _ (own_rel hSP _ _)
    have HDT : Hid (schemaD (tys rs) = true) := hd5
    clear hr6 hSP hfi
    cases ht5 : tupB oa ob r c d s with
    | false =>
      have HN : Hid (fitsD (tys rs) oa ob r c d s = false) := by show _ = _; unfold fitsD fitsS; rw [ht5]; simp
      refine wp_region_mid0 12 (fun n => (undef :: undef :: undef :: undef :: undef :: undef :: undef :: undef :: undef :: undef :: undef :: undef :: []).getD n undef) (fun fq => { tmps := List.toArray (Value.slice ad rs.length cap :: Value.agg #[Value.string oa, Value.string ob, Value.string r, Value.string c, Value.string d, Value.string s] :: undef :: Value.pointer (some { block := w.heap.size, off := 0 }) :: Value.bool false :: fq 0 :: fq 1 :: fq 2 :: fq 3 :: fq 4 :: fq 5 :: fq 6 :: fq 7 :: fq 8 :: fq 9 :: fq 10 :: fq 11 :: []), defers := [] }) (fun n v _ => v = (Value.slice ad rs.length cap :: Value.bool true :: Value.bool true :: Value.agg #[.string oa, .string ob, .string r, .string c, .string d, .string s] :: Value.bool false :: Value.bool false :: Value.bool false :: undef :: undef :: undef :: undef :: Value.bool false :: []).getD n undef) (fun w' => Below W0.heap.size W0 w') (by kernel_rfl) rfl (by kernel_rfl) (by kernel_rfl) rfl (Below.refl _ _).drew ?stepB ?finB
      case stepB =>
        rintro i hi o ho fq w' hG hpre
        have HG : Hid (Below W0.heap.size W0 w') := hG
        replace c0 := kept5 hG hw0 c0
        replace c1 := kept5 hG hw0 c1
        replace c2 := kept5 hG hw0 c2
        replace c3 := kept5 hG hw0 c3
        replace c4 := kept5 hG hw0 c4
        replace c5 := kept5 hG hw0 c5
        have HM : Hid (∀ e ∈ o.after, Region.binds .any e = true → _) := hpre
        clear hG hpre
        have hc : i = 0 ∨ i = 1 ∨ i = 2 ∨ i = 3 ∨ i = 4 ∨ i = 5 ∨ i = 6 ∨ i = 7 ∨ i = 8 ∨ i = 9 ∨ i = 10 ∨ i = 11 := by omega
        clear hi
        rcases hc with rfl | rfl | rfl | rfl | rfl | rfl | rfl | rfl | rfl | rfl | rfl | rfl
        · obtain rfl := Option.some.inj ho
          clear ho HM
          refine wpOp_step rfl (fun K hK => ?_)
          have HK : Hid (∀ a w, _ → K a w) := hK
          clear hK
          dsimp only
          go_simp
          exact HK.out _ _ ⟨Value.slice ad rs.length cap, by simp [upd], HG.out, rfl, fun k u hu => hu⟩
        · obtain rfl := Option.some.inj ho
          have e0 : fq 0 = Value.slice ad rs.length cap := HM.out { on := 0, ground := .data } (by simp) rfl
          clear ho HM
          refine wpOp_step rfl (fun K hK => ?_)
          have HK : Hid (∀ a w, _ → K a w) := hK
          clear hK
          simp only [e0]
          go_simp
          refine (implSchemaOk_any ad cap rs _ hlen (HS.out.below (HB0.out.trans (HG.out.mono HB0.out.size))) HL.out HFT.out HCP.out).mono ?_
          rintro e w5 ⟨rfl, hb5⟩
          have HB5 : Hid (Below w'.heap.size w' w5) := hb5
          have HG5 : Hid (Below W0.heap.size W0 w5) := HG.out.trans (hb5.mono HG.out.size)
          rw [hd5]
          clear hb5
          go_wp2_with fail
          exact HK.out _ _ ⟨Value.bool true, by simp [upd, e0], HG5.out, rfl, fun k u hu => hu⟩
        · obtain rfl := Option.some.inj ho
          have e1 : fq 1 = Value.bool true := HM.out { on := 1, ground := .data } (by simp) rfl
          clear ho HM
          refine wpOp_step rfl (fun K hK => ?_)
          have HK : Hid (∀ a w, _ → K a w) := hK
          clear hK
          simp only [e1]
          go_simp
          exact HK.out _ _ ⟨Value.bool true, by simp [upd, e1], HG.out, rfl, fun k u hu => hu⟩
        · obtain rfl := Option.some.inj ho
          have e2 : fq 2 = Value.bool true := HM.out { on := 2, ground := .guard } (by simp) rfl
          clear ho HM
          refine wpOp_step rfl (fun K hK => ?_)
          have HK : Hid (∀ a w, _ → K a w) := hK
          clear hK
          simp only [e2]
          go_simp
          exact HK.out _ _ ⟨Value.agg #[.string oa, .string ob, .string r, .string c, .string d, .string s], by simp [upd, e2], HG.out, rfl, fun k u hu => hu⟩
        · obtain rfl := Option.some.inj ho
          have e3 : fq 3 = Value.agg #[.string oa, .string ob, .string r, .string c, .string d, .string s] := HM.out { on := 3, ground := .data } (by simp) rfl
          have e2 : fq 2 = Value.bool true := HM.out { on := 2, ground := .guard } (by simp) rfl
          clear ho HM
          refine wpOp_step rfl (fun K hK => ?_)
          have HK : Hid (∀ a w, _ → K a w) := hK
          clear hK
          simp only [e3, e2]
          go_simp
          refine (implTup_any oa ob r c d s _ ha hb hr hc hd hz).mono ?_
          rintro e w5 ⟨rfl, hb5⟩
          have HB5 : Hid (Below w'.heap.size w' w5) := hb5
          have HG5 : Hid (Below W0.heap.size W0 w5) := HG.out.trans (hb5.mono HG.out.size)
          rw [ht5]
          clear hb5
          go_wp2_with fail
          exact HK.out _ _ ⟨Value.bool false, by simp [upd, e3, e2], HG5.out, rfl, fun k u hu => hu⟩
        · obtain rfl := Option.some.inj ho
          have e2 : fq 2 = Value.bool true := HM.out { on := 2, ground := .data } (by simp) rfl
          have e4 : fq 4 = Value.bool false := HM.out { on := 4, ground := .data } (by simp) rfl
          clear ho HM
          refine wpOp_step rfl (fun K hK => ?_)
          have HK : Hid (∀ a w, _ → K a w) := hK
          clear hK
          simp only [e2, e4]
          go_simp
          exact HK.out _ _ ⟨Value.bool false, by simp [upd, e2, e4], HG.out, rfl, fun k u hu => hu⟩
        · obtain rfl := Option.some.inj ho
          have e5 : fq 5 = Value.bool false := HM.out { on := 5, ground := .data } (by simp) rfl
          clear ho HM
          refine wpOp_step rfl (fun K hK => ?_)
          have HK : Hid (∀ a w, _ → K a w) := hK
          clear hK
          simp only [e5]
          go_simp
          exact HK.out _ _ ⟨Value.bool false, by simp [upd, e5], HG.out, rfl, fun k u hu => hu⟩
        · obtain rfl := Option.some.inj ho
          have e6 : fq 6 = Value.bool false := HM.out { on := 6, ground := .guard } (by simp) rfl
          clear ho HM
          refine wpOp_step rfl (fun K hK => ?_)
          have HK : Hid (∀ a w, _ → K a w) := hK
          clear hK
          simp only [e6]
          go_simp
          exact HK.out _ _ ⟨undef, by simp [upd, e6], HG.out, rfl, fun k u hu => hu⟩
        · obtain rfl := Option.some.inj ho
          have e7 : fq 7 = undef := HM.out { on := 7, ground := .data } (by simp) rfl
          have e6 : fq 6 = Value.bool false := HM.out { on := 6, ground := .guard } (by simp) rfl
          clear ho HM
          refine wpOp_step rfl (fun K hK => ?_)
          have HK : Hid (∀ a w, _ → K a w) := hK
          clear hK
          simp only [e7, e6]
          go_simp
          exact HK.out _ _ ⟨undef, by simp [upd, e7, e6], HG.out, rfl, fun k u hu => hu⟩
        · obtain rfl := Option.some.inj ho
          have e6 : fq 6 = Value.bool false := HM.out { on := 6, ground := .guard } (by simp) rfl
          clear ho HM
          refine wpOp_step rfl (fun K hK => ?_)
          have HK : Hid (∀ a w, _ → K a w) := hK
          clear hK
          simp only [e6]
          go_simp
          exact HK.out _ _ ⟨undef, by simp [upd, e6], HG.out, rfl, fun k u hu => hu⟩
        · obtain rfl := Option.some.inj ho
          have e8 : fq 8 = undef := HM.out { on := 8, ground := .data } (by simp) rfl
          have e9 : fq 9 = undef := HM.out { on := 9, ground := .data } (by simp) rfl
          have e6 : fq 6 = Value.bool false := HM.out { on := 6, ground := .guard } (by simp) rfl
          clear ho HM
          refine wpOp_step rfl (fun K hK => ?_)
          have HK : Hid (∀ a w, _ → K a w) := hK
          clear hK
          simp only [e8, e9, e6]
          go_simp
          exact HK.out _ _ ⟨undef, by simp [upd, e8, e9, e6], HG.out, rfl, fun k u hu => hu⟩
        · obtain rfl := Option.some.inj ho
          have e6 : fq 6 = Value.bool false := HM.out { on := 6, ground := .data } (by simp) rfl
          have e10 : fq 10 = undef := HM.out { on := 10, ground := .data } (by simp) rfl
          clear ho HM
          refine wpOp_step rfl (fun K hK => ?_)
          have HK : Hid (∀ a w, _ → K a w) := hK
          clear hK
          simp only [e6, e10]
          go_simp
          exact HK.out _ _ ⟨Value.bool false, by simp [upd, e6, e10], HG.out, rfl, fun k u hu => hu⟩
      case finB =>
        rintro o ho fq w' hG hall
        have e11 : fq 11 = Value.bool false := hall 11 (by omega)
        have HG : Hid (Below w.heap.size w w') := HB0.out.trans (hG.mono HB0.out.size)
        clear hG hall
        obtain rfl := Option.some.inj ho
        clear ho
        refine wpOp_step rfl (fun K hK => ?_)
        have HK : Hid (∀ a w, _ → K a w) := hK
        clear hK
        simp only [e11]
        go_simp
        refine HK.out _ _ ?_
        clear HK
        go_wp2
        go_ret
        exact ⟨by rw [HN.out]; rfl, HG.out⟩
    | true =>
      have HN : Hid (fitsD (tys rs) oa ob r c d s = fi) := by show _ = _; unfold fitsD fitsS; rw [ht5, HDT.out, HSM.out]; simp
      refine wp_region_mid0 12 (fun n => (undef :: undef :: undef :: undef :: undef :: undef :: undef :: undef :: undef :: undef :: undef :: undef :: []).getD n undef) (fun fq => { tmps := List.toArray (Value.slice ad rs.length cap :: Value.agg #[Value.string oa, Value.string ob, Value.string r, Value.string c, Value.string d, Value.string s] :: undef :: Value.pointer (some { block := w.heap.size, off := 0 }) :: Value.bool false :: fq 0 :: fq 1 :: fq 2 :: fq 3 :: fq 4 :: fq 5 :: fq 6 :: fq 7 :: fq 8 :: fq 9 :: fq 10 :: fq 11 :: []), defers := [] }) (VV rs (Value.slice ad rs.length cap :: Value.bool true :: Value.bool true :: Value.agg #[.string oa, .string ob, .string r, .string c, .string d, .string s] :: Value.bool true :: Value.bool true :: Value.bool true :: Value.slice ad rs.length cap :: undef :: Value.agg #[.string oa, .string ob, .string r, .string c, .string d, .string s] :: Value.bool fi :: Value.bool fi :: [])) (fun w' => Below W0.heap.size W0 w') (by kernel_rfl) rfl (by kernel_rfl) (by kernel_rfl) rfl (Below.refl _ _).drew ?stepC ?finC
      case stepC =>
        rintro i hi o ho fq w' hG hpre
        have HG : Hid (Below W0.heap.size W0 w') := hG
        replace c0 := kept5 hG hw0 c0
        replace c1 := kept5 hG hw0 c1
        replace c2 := kept5 hG hw0 c2
        replace c3 := kept5 hG hw0 c3
        replace c4 := kept5 hG hw0 c4
        replace c5 := kept5 hG hw0 c5
        have HM : Hid (∀ e ∈ o.after, Region.binds .any e = true → _) := hpre
        clear hG hpre
        have hc : i = 0 ∨ i = 1 ∨ i = 2 ∨ i = 3 ∨ i = 4 ∨ i = 5 ∨ i = 6 ∨ i = 7 ∨ i = 8 ∨ i = 9 ∨ i = 10 ∨ i = 11 := by omega
        clear hi
        rcases hc with rfl | rfl | rfl | rfl | rfl | rfl | rfl | rfl | rfl | rfl | rfl | rfl
        · obtain rfl := Option.some.inj ho
          clear ho HM
          refine wpOp_step rfl (fun K hK => ?_)
          have HK : Hid (∀ a w, _ → K a w) := hK
          clear hK
          dsimp only
          go_simp
          exact HK.out _ _ ⟨Value.slice ad rs.length cap, by simp [upd], HG.out, ⟨fun h => absurd h (by decide), fun _ => rfl⟩, VV.same⟩
        · obtain rfl := Option.some.inj ho
          have e0 : fq 0 = Value.slice ad rs.length cap := (HM.out { on := 0, ground := .data } (by simp) rfl).2 (by decide)
          clear ho HM
          refine wpOp_step rfl (fun K hK => ?_)
          have HK : Hid (∀ a w, _ → K a w) := hK
          clear hK
          simp only [e0]
          go_simp
          refine (implSchemaOk_any ad cap rs _ hlen (HS.out.below (HB0.out.trans (HG.out.mono HB0.out.size))) HL.out HFT.out HCP.out).mono ?_
          rintro e w5 ⟨rfl, hb5⟩
          have HB5 : Hid (Below w'.heap.size w' w5) := hb5
          have HG5 : Hid (Below W0.heap.size W0 w5) := HG.out.trans (hb5.mono HG.out.size)
          rw [hd5]
          clear hb5
          go_wp2_with fail
          exact HK.out _ _ ⟨Value.bool true, by simp [upd, e0], HG5.out, ⟨fun h => absurd h (by decide), fun _ => rfl⟩, VV.later HB5.out⟩
        · obtain rfl := Option.some.inj ho
          have e1 : fq 1 = Value.bool true := (HM.out { on := 1, ground := .data } (by simp) rfl).2 (by decide)
          clear ho HM
          refine wpOp_step rfl (fun K hK => ?_)
          have HK : Hid (∀ a w, _ → K a w) := hK
          clear hK
          simp only [e1]
          go_simp
          exact HK.out _ _ ⟨Value.bool true, by simp [upd, e1], HG.out, ⟨fun h => absurd h (by decide), fun _ => rfl⟩, VV.same⟩
        · obtain rfl := Option.some.inj ho
          have e2 : fq 2 = Value.bool true := (HM.out { on := 2, ground := .guard } (by simp) rfl).2 (by decide)
          clear ho HM
          refine wpOp_step rfl (fun K hK => ?_)
          have HK : Hid (∀ a w, _ → K a w) := hK
          clear hK
          simp only [e2]
          go_simp
          exact HK.out _ _ ⟨Value.agg #[.string oa, .string ob, .string r, .string c, .string d, .string s], by simp [upd, e2], HG.out, ⟨fun h => absurd h (by decide), fun _ => rfl⟩, VV.same⟩
        · obtain rfl := Option.some.inj ho
          have e3 : fq 3 = Value.agg #[.string oa, .string ob, .string r, .string c, .string d, .string s] := (HM.out { on := 3, ground := .data } (by simp) rfl).2 (by decide)
          have e2 : fq 2 = Value.bool true := (HM.out { on := 2, ground := .guard } (by simp) rfl).2 (by decide)
          clear ho HM
          refine wpOp_step rfl (fun K hK => ?_)
          have HK : Hid (∀ a w, _ → K a w) := hK
          clear hK
          simp only [e3, e2]
          go_simp
          refine (implTup_any oa ob r c d s _ ha hb hr hc hd hz).mono ?_
          rintro e w5 ⟨rfl, hb5⟩
          have HB5 : Hid (Below w'.heap.size w' w5) := hb5
          have HG5 : Hid (Below W0.heap.size W0 w5) := HG.out.trans (hb5.mono HG.out.size)
          rw [ht5]
          clear hb5
          go_wp2_with fail
          exact HK.out _ _ ⟨Value.bool true, by simp [upd, e3, e2], HG5.out, ⟨fun h => absurd h (by decide), fun _ => rfl⟩, VV.later HB5.out⟩
        · obtain rfl := Option.some.inj ho
          have e2 : fq 2 = Value.bool true := (HM.out { on := 2, ground := .data } (by simp) rfl).2 (by decide)
          have e4 : fq 4 = Value.bool true := (HM.out { on := 4, ground := .data } (by simp) rfl).2 (by decide)
          clear ho HM
          refine wpOp_step rfl (fun K hK => ?_)
          have HK : Hid (∀ a w, _ → K a w) := hK
          clear hK
          simp only [e2, e4]
          go_simp
          exact HK.out _ _ ⟨Value.bool true, by simp [upd, e2, e4], HG.out, ⟨fun h => absurd h (by decide), fun _ => rfl⟩, VV.same⟩
        · obtain rfl := Option.some.inj ho
          have e5 : fq 5 = Value.bool true := (HM.out { on := 5, ground := .data } (by simp) rfl).2 (by decide)
          clear ho HM
          refine wpOp_step rfl (fun K hK => ?_)
          have HK : Hid (∀ a w, _ → K a w) := hK
          clear hK
          simp only [e5]
          go_simp
          exact HK.out _ _ ⟨Value.bool true, by simp [upd, e5], HG.out, ⟨fun h => absurd h (by decide), fun _ => rfl⟩, VV.same⟩
        · obtain rfl := Option.some.inj ho
          have e6 : fq 6 = Value.bool true := (HM.out { on := 6, ground := .guard } (by simp) rfl).2 (by decide)
          clear ho HM
          refine wpOp_step rfl (fun K hK => ?_)
          have HK : Hid (∀ a w, _ → K a w) := hK
          clear hK
          simp only [e6]
          go_simp
          exact HK.out _ _ ⟨Value.slice ad rs.length cap, by simp [upd, e6], HG.out, ⟨fun h => absurd h (by decide), fun _ => rfl⟩, VV.same⟩
        · obtain rfl := Option.some.inj ho
          have e7 : fq 7 = Value.slice ad rs.length cap := (HM.out { on := 7, ground := .data } (by simp) rfl).2 (by decide)
          have e6 : fq 6 = Value.bool true := (HM.out { on := 6, ground := .guard } (by simp) rfl).2 (by decide)
          clear ho HM
          refine wpOp_step rfl (fun K hK => ?_)
          have HK : Hid (∀ a w, _ → K a w) := hK
          clear hK
          simp only [e7, e6]
          go_simp
          refine (tableOf_any ad cap rs _ h6 (HS.out.below (HB0.out.trans (HG.out.mono HB0.out.size))) HR6.out HFT.out).mono ?_
          rintro e w5 ⟨rfl, hmv5, hb5⟩
          have HB5 : Hid (Below w'.heap.size w' w5) := hb5
          have HG5 : Hid (Below W0.heap.size W0 w5) := HG.out.trans (hb5.mono HG.out.size)
          have HMV5 : Hid (MapV encK Try.prog 84 w5 w'.heap.size 36 (tabM rs)) := hmv5
          clear hmv5
          clear hb5
          go_wp2_with fail
          exact HK.out _ _ ⟨Value.map (some w'.heap.size), by simp [upd, e7, e6], HG5.out, ⟨fun _ => ⟨_, rfl, HMV5.out⟩, fun h => absurd rfl h⟩, VV.later HB5.out⟩
        · obtain rfl := Option.some.inj ho
          have e6 : fq 6 = Value.bool true := (HM.out { on := 6, ground := .guard } (by simp) rfl).2 (by decide)
          clear ho HM
          refine wpOp_step rfl (fun K hK => ?_)
          have HK : Hid (∀ a w, _ → K a w) := hK
          clear hK
          simp only [e6]
          go_simp
          exact HK.out _ _ ⟨Value.agg #[.string oa, .string ob, .string r, .string c, .string d, .string s], by simp [upd, e6], HG.out, ⟨fun h => absurd h (by decide), fun _ => rfl⟩, VV.same⟩
        · obtain rfl := Option.some.inj ho
          obtain ⟨bm, e8, hmv⟩ := (HM.out { on := 8, ground := .data } (by simp) rfl).1 rfl
          have e9 : fq 9 = Value.agg #[.string oa, .string ob, .string r, .string c, .string d, .string s] := (HM.out { on := 9, ground := .data } (by simp) rfl).2 (by decide)
          have e6 : fq 6 = Value.bool true := (HM.out { on := 6, ground := .guard } (by simp) rfl).2 (by decide)
          clear ho HM
          refine wpOp_step rfl (fun K hK => ?_)
          have HK : Hid (∀ a w, _ → K a w) := hK
          clear hK
          simp only [e8, e9, e6]
          go_simp
          refine (fits_any bm 36 rs ad (tabM rs) oa ob r c d s _ hmv HTAB.out (HS.out.below (HB0.out.trans (HG.out.mono HB0.out.size))) HL.out ha hr).mono ?_
          rintro e w5 ⟨rfl, hb5⟩
          have HB5 : Hid (Below w'.heap.size w' w5) := hb5
          have HG5 : Hid (Below W0.heap.size W0 w5) := HG.out.trans (hb5.mono HG.out.size)
          rw [← HFI.out]
          clear hb5
          go_wp2_with fail
          exact HK.out _ _ ⟨Value.bool fi, by simp [upd, e8, e9, e6], HG5.out, ⟨fun h => absurd h (by decide), fun _ => rfl⟩, VV.later HB5.out⟩
        · obtain rfl := Option.some.inj ho
          have e6 : fq 6 = Value.bool true := (HM.out { on := 6, ground := .data } (by simp) rfl).2 (by decide)
          have e10 : fq 10 = Value.bool fi := (HM.out { on := 10, ground := .data } (by simp) rfl).2 (by decide)
          clear ho HM
          refine wpOp_step rfl (fun K hK => ?_)
          have HK : Hid (∀ a w, _ → K a w) := hK
          clear hK
          simp only [e6, e10]
          go_simp
          exact HK.out _ _ ⟨Value.bool fi, by simp [upd, e6, e10], HG.out, ⟨fun h => absurd h (by decide), fun _ => rfl⟩, VV.same⟩
      case finC =>
        rintro o ho fq w' hG hall
        have e11 : fq 11 = Value.bool fi := (hall 11 (by omega)).2 (by decide)
        have HG : Hid (Below w.heap.size w w') := HB0.out.trans (hG.mono HB0.out.size)
        clear hG hall
        obtain rfl := Option.some.inj ho
        clear ho
        refine wpOp_step rfl (fun K hK => ?_)
        have HK : Hid (∀ a w, _ → K a w) := hK
        clear hK
        simp only [e11]
        go_simp
        refine HK.out _ _ ?_
        clear HK
        go_wp2
        go_ret
        exact ⟨by rw [HN.out]; rfl, HG.out⟩

end Go.Proofs.Ytbafedmbkhdkgaa
