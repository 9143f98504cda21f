import Derived.Test.YtgmgeedlieiimaaJ20
import Derived.Test.YtgmgeedlieiimaaJ24
namespace Go.Proofs.Ytgmgeedlieiimaa
open Go.ChangeShapes Go.WideShapes Go.ChangeAt Go.RowKit Go.Maps
open Pl
def fitsS (ts : List Ty) (oa ob r c d s : ByteArray) : Bool := inPre (allowP (relOr ts oa r)) (allowP (relOr ts oa r)).length ⟨c, s⟩ && tupB oa ob r c d s
theorem own_none : ∀ {es : List Ex} (a : Al), own es = 0 → es.any (fitE a) = false
 | [], _, _ => rfl
 | e :: es, a, h => by
  by_cases h1 : e.kind = 1
  ·simp [own, h1] at h
  ·rw [List.any_cons, own_none a (by simpa [own, h1] using h)]
   simp [fitE, h1]
theorem fit_same : ∀ {es : List Ex} (a : Al), own es ≤ 1 → es.any (fitE a) = inPre (allowP es) (allowP es).length a
 | [], _, _ => rfl
 | e :: es, a, h => by
  by_cases h1 : e.kind = 1
  ·rw [List.any_cons, own_none a (by simp [own, h1] at h; simpa [own] using h)]
   simp [fitE, h1, allowP]
  ·rw [List.any_cons, fit_same a (by simpa [own, h1] using h)]
   simp [fitE, h1, allowP]
theorem inPre_bad {xs : List Al} {a : Al} {k : Nat} (h : k < xs.length) (hk : alEq xs[k] a = true) : inPre xs xs.length a = true := by
 unfold inPre
 rw [List.take_length, List.any_eq_true]
 exact ⟨_, List.getElem_mem h, hk⟩
def fitsD (ts : List Ty) (oa ob r c d s : ByteArray) : Bool := schemaD ts && fitsS ts oa ob r c d s
theorem own_of {es : List Ex} (h : specE es = true) : own es ≤ 1 := by
 unfold specE at h; simp at h; omega
theorem own_rel {rs : List TR} (h : SchemaP (tys rs)) (ty n : ByteArray) : own (relOr (tys rs) ty n) ≤ 1 := by
 unfold relOr
 cases e : relP (tys rs) ty n with
 | none => simp [own]
 | some es =>
  obtain ⟨t, ht, q, hq, -, -, rfl⟩ := relP_row e
  exact own_of ((shape_facts h.1).2.2 t ht q hq).1
set_option maxRecDepth 100000 in
set_option maxHeartbeats 4000000 in
theorem l2Fits_any (ad : Option Addr) (cap : Nat) (rs : List TR) (oa ob r c d s : ByteArray) (w : World) (hlen : rs.length ≤ 1048576) (hs : SlT w ad rs) (hl : ∀ r ∈ rs, r.light) (ha : oa.size ≤ maxLen) (hb : ob.size ≤ maxLen) (hr : r.size ≤ maxLen) (hc : c.size ≤ maxLen) (hd : d.size ≤ maxLen) (hz : s.size ≤ maxLen) :
  Calls Try.prog 43 #[.slice ad rs.length cap, .agg #[.string oa, .string ob, .string r, .string c, .string d, .string s]] w fun e w' => e = .returned (.bool (fitsS (tys rs) oa ob r c d s)) ∧ Below w.heap.size w w' := by
 have HS : Hid (SlT w ad rs) := hs
 have HL : Hid (∀ r ∈ rs, r.light) := hl
 clear hs hl
 obtain ⟨W0, hW0⟩ : ∃ W0, W0 = w.alloc (.cells #[.string oa, .string ob, .string r, .string c, .string d, .string s] 39) := ⟨_, rfl⟩
 have hal : Below w.heap.size w W0 := by rw [hW0]; exact (Below.refl _ _).alloc (Nat.le_refl _) _
 have HB0 : Hid (Below w.heap.size w W0) := hal
 have HC0 : Hid (W0.cell? ⟨w.heap.size, 0, none⟩ = some (.string oa) ∧ W0.cell? ⟨w.heap.size, 1, none⟩ = some (.string ob) ∧ W0.cell? ⟨w.heap.size, 2, none⟩ = some (.string r) ∧ W0.cell? ⟨w.heap.size, 3, none⟩ = some (.string c) ∧ W0.cell? ⟨w.heap.size, 4, none⟩ = some (.string d) ∧ W0.cell? ⟨w.heap.size, 5, none⟩ = some (.string s) ∧ w.heap.size < W0.heap.size) := by
  show _ ∧ _
  rw [hW0]; refine ⟨?_, ?_, ?_, ?_, ?_, ?_, ?_⟩ <;> simp
 clear hal
 go_enter Try.func43, Try.ntmps43
 go_wp2_with fail
 rw [← hW0]
 clear hW0
 refine (l2Rel_any ad cap rs oa r _ hlen (HS.out.below HB0.out) HL.out).mono ?_
 rintro e w1 ⟨⟨rows, adE, capE, rfl, hex, hse, hfr⟩, hw1⟩
 replace hw1 := hw1.symm
 subst hw1
 have HX : Hid (exs rows = relOr (tys rs) oa r) := hex
 have HSE : Hid (SlE W0 adE rows) := hse
 have HLE := hfr.light HL.out
 have hrl : rows.length ≤ 1048576 := HLE.1
 have HLG : Hid (∀ q ∈ rows, q.e.light) := HLE.2
 clear hex hse hfr HLE
 go_wp2_with fail
 refine (l2Allow_any adE capE rows _ hrl HSE.out).mono ?_
 rintro e w1 ⟨⟨adA, capA, rfl, hsa, hfa⟩, hw1⟩
 replace hw1 := hw1.symm
 subst hw1
 obtain ⟨xs, hxs⟩ : ∃ xs, xs = allowP (exs rows) := ⟨_, rfl⟩
 rw [← hxs] at hsa hfa ⊢
 have HXS : Hid (xs = allowP (relOr (tys rs) oa r)) := by rw [← HX.out]; exact hxs
 have HSA : Hid (SlA W0 adA xs) := hsa
 have hxl : xs.length ≤ 1048576 := by
  rcases hfa with h | ⟨q, hq, h, -⟩
  ·rw [h]; simp
  ·rw [h]; exact (HLG.out q hq).1
 clear hxs hsa hfa HLG HSE HX
 go_wp2
 go_loopw [6] (fun i wr => ∃ k : Nat, k ≤ xs.length ∧ i = .int .i64 k ∧ Hid (inPre xs k ⟨c, s⟩ = false) ∧ Hid (Below W0.heap.size W0 wr)) (fun i _ => xs.length - (intOf i).toNat)
 case atStart => exact ⟨0, Nat.zero_le _, rfl, inPre_zero _ _, Below.refl _ _⟩
 case round =>
  obtain ⟨k, hk, rfl, HP, HB⟩ := hrel
  have HBW : Hid (Below w.heap.size w wr) := HB0.out.trans (HB.out.mono HB0.out.size)
  by_cases hlt : k < xs.length
  ·rcases HSA.out.below HB.out with hnil | ⟨b, off, rfl, hb5, hr5⟩
   ·rw [hnil] at hlt; simp at hlt
   obtain ⟨t0, t1⟩ := hr5 k hlt
   have hk1 : (0 : Int) ≤ (k : Int) := by omega
   have hk2 : (k : Int) < (xs.length : Int) := by omega
   have hwl : w.heap.size < wr.heap.size := Nat.lt_of_lt_of_le HC0.out.2.2.2.2.2.2 HB.out.size
   have c0 := kept5 HB.out HC0.out.2.2.2.2.2.2 HC0.out.1
   have c1 := kept5 HB.out HC0.out.2.2.2.2.2.2 HC0.out.2.1
   have c2 := kept5 HB.out HC0.out.2.2.2.2.2.2 HC0.out.2.2.1
   have c3 := kept5 HB.out HC0.out.2.2.2.2.2.2 HC0.out.2.2.2.1
   have c4 := kept5 HB.out HC0.out.2.2.2.2.2.2 HC0.out.2.2.2.2.1
   have c5 := kept5 HB.out HC0.out.2.2.2.2.2.2 HC0.out.2.2.2.2.2.1
   have HSU : Hid (inPre xs (k + 1) ⟨c, s⟩ = alEq xs[k] ⟨c, s⟩) := by show _ = _; rw [inPre_succ _ _ _ hlt, HP.out]; rfl
   clear hr5
   go_wp2_with fail
   cases h1 : (xs[k].t.toList == c.toList) with
   | false =>
    refine wp_region_all 19 (fun n => (u21 :: u22 :: u23 :: u24 :: u25 :: u26 :: u27 :: u28 :: u29 :: u30 :: u31 :: u32 :: u33 :: u34 :: u35 :: u36 :: u37 :: u38 :: u39 :: []).getD n undef) (fun fq => { tmps := List.toArray (Value.slice ad rs.length cap :: Value.agg #[Value.string oa, Value.string ob, Value.string r, Value.string c, Value.string d, Value.string s] :: undef :: Value.pointer (some { block := w.heap.size, off := 0 }) :: u4 :: Value.slice (some { block := b, off := off }) xs.length capA :: Value.int IntKind.i64 (k : Int) :: Value.slice ad rs.length cap :: Value.pointer (some { block := w.heap.size, off := 0 }) :: Value.pointer (some { block := w.heap.size, off := 0 }) :: Value.string oa :: Value.pointer (some { block := w.heap.size, off := 2 }) :: Value.string r :: Value.slice adE rows.length capE :: Value.slice (some { block := b, off := off }) xs.length capA :: Value.int IntKind.i64 (k : Int) :: Value.slice (some { block := b, off := off }) xs.length capA :: Value.int IntKind.i64 (xs.length : Int) :: Value.bool true :: u19 :: u20 :: fq 0 :: fq 1 :: fq 2 :: fq 3 :: fq 4 :: fq 5 :: fq 6 :: fq 7 :: fq 8 :: fq 9 :: fq 10 :: fq 11 :: fq 12 :: fq 13 :: fq 14 :: fq 15 :: fq 16 :: fq 17 :: fq 18 :: u40 :: u41 :: []), defers := [] }) (fun n v _ => v = (Value.slice (some { block := b, off := off }) xs.length capA :: Value.int IntKind.i64 (k : Int) :: Value.pointer (some ⟨b, off + k * 2, none⟩) :: Value.pointer (some ⟨b, off + k * 2, none⟩) :: Value.string xs[k].t :: Value.pointer (some ⟨w.heap.size, 3, none⟩) :: Value.pointer (some ⟨w.heap.size, 3, none⟩) :: Value.string c :: Value.bool false :: Value.bool false :: undef :: undef :: undef :: undef :: undef :: undef :: undef :: undef :: Value.bool false :: []).getD n undef) (fun w' => Below wr.heap.size wr w') (by kernel_rfl) rfl (by kernel_rfl) rfl (Below.refl _ _).drew ?stepA ?finA
    case stepA =>
     rintro i hi o ho fq w' hG hpre
     have HG : Hid (Below wr.heap.size wr w') := hG
     replace t0 := kept5 hG hb5 t0
     replace t1 := kept5 hG hb5 t1
     replace c3 := kept5 hG hwl c3
     replace c5 := kept5 hG hwl c5
     have HM : Hid (∀ e ∈ o.after, Region.binds .any e = true → _) := hpre
     clear hG hpre
     have hc : i = 0 ∨ i = 1 ∨ i = 2 ∨ i = 3 ∨ i = 4 ∨ i = 5 ∨ i = 6 ∨ i = 7 ∨ i = 8 ∨ i = 9 ∨ i = 10 ∨ i = 11 ∨ i = 12 ∨ i = 13 ∨ i = 14 ∨ i = 15 ∨ i = 16 ∨ i = 17 ∨ i = 18 := by omega
     clear hi
     rcases hc with rfl | rfl | rfl | rfl | rfl | rfl | rfl | rfl | rfl | rfl | rfl | rfl | rfl | rfl | rfl | rfl | rfl | rfl | rfl
     ·obtain rfl := Option.some.inj ho
      refine wpOp_hid rfl fun K HK => ?_
      clear ho HM
      dsimp only
      go_simp
      exact HK.out _ _ ⟨Value.slice (some { block := b, off := off }) xs.length capA, by simp [upd], HG.out, rfl, fun k u hu => hu⟩
     ·obtain rfl := Option.some.inj ho
      refine wpOp_hid rfl fun K HK => ?_
      clear ho HM
      dsimp only
      go_simp
      exact HK.out _ _ ⟨Value.int IntKind.i64 (k : Int), by simp [upd], HG.out, rfl, fun k u hu => hu⟩
     ·obtain rfl := Option.some.inj ho
      have e0 : fq 0 = Value.slice (some { block := b, off := off }) xs.length capA := HM.out ⟨0, .data⟩ (by simp) rfl
      have e1 : fq 1 = Value.int IntKind.i64 (k : Int) := HM.out ⟨1, .data⟩ (by simp) rfl
      refine wpOp_hid rfl fun K HK => ?_
      clear ho HM
      simp only [e0, e1]
      go_simp
      exact HK.out _ _ ⟨Value.pointer (some ⟨b, off + k * 2, none⟩), by simp [upd, e0, e1], HG.out, rfl, fun k u hu => hu⟩
     ·obtain rfl := Option.some.inj ho
      have e2 : fq 2 = Value.pointer (some ⟨b, off + k * 2, none⟩) := HM.out ⟨2, .data⟩ (by simp) rfl
      refine wpOp_hid rfl fun K HK => ?_
      clear ho HM
      simp only [e2]
      go_simp
      exact HK.out _ _ ⟨Value.pointer (some ⟨b, off + k * 2, none⟩), by simp [upd, e2], HG.out, rfl, fun k u hu => hu⟩
     ·obtain rfl := Option.some.inj ho
      have e3 : fq 3 = Value.pointer (some ⟨b, off + k * 2, none⟩) := HM.out ⟨3, .data⟩ (by simp) rfl
      refine wpOp_hid rfl fun K HK => ?_
      clear ho HM
      simp only [e3]
      go_simp
      exact HK.out _ _ ⟨Value.string xs[k].t, by simp [upd, e3], HG.out, rfl, fun k u hu => hu⟩
     ·obtain rfl := Option.some.inj ho
      refine wpOp_hid rfl fun K HK => ?_
      clear ho HM
      dsimp only
      go_simp
      exact HK.out _ _ ⟨Value.pointer (some ⟨w.heap.size, 3, none⟩), by simp [upd], HG.out, rfl, fun k u hu => hu⟩
     ·obtain rfl := Option.some.inj ho
      have e5 : fq 5 = Value.pointer (some ⟨w.heap.size, 3, none⟩) := HM.out ⟨5, .data⟩ (by simp) rfl
      refine wpOp_hid rfl fun K HK => ?_
      clear ho HM
      simp only [e5]
      go_simp
      exact HK.out _ _ ⟨Value.pointer (some ⟨w.heap.size, 3, none⟩), by simp [upd, e5], HG.out, rfl, fun k u hu => hu⟩
     ·obtain rfl := Option.some.inj ho
      have e6 : fq 6 = Value.pointer (some ⟨w.heap.size, 3, none⟩) := HM.out ⟨6, .data⟩ (by simp) rfl
      refine wpOp_hid rfl fun K HK => ?_
      clear ho HM
      simp only [e6]
      go_simp
      exact HK.out _ _ ⟨Value.string c, by simp [upd, e6], HG.out, rfl, fun k u hu => hu⟩
     ·obtain rfl := Option.some.inj ho
      have e4 : fq 4 = Value.string xs[k].t := HM.out ⟨4, .data⟩ (by simp) rfl
      have e7 : fq 7 = Value.string c := HM.out ⟨7, .data⟩ (by simp) rfl
      refine wpOp_hid rfl fun K HK => ?_
      clear ho HM
      simp only [e4, e7]
      go_simp
      exact HK.out _ _ ⟨Value.bool false, by simp [upd, e4, e7], HG.out, rfl, fun k u hu => hu⟩
     ·obtain rfl := Option.some.inj ho
      have e8 : fq 8 = Value.bool false := HM.out ⟨8, .data⟩ (by simp) rfl
      refine wpOp_hid rfl fun K HK => ?_
      clear ho HM
      simp only [e8]
      go_simp
      exact HK.out _ _ ⟨Value.bool false, by simp [upd, e8], HG.out, rfl, fun k u hu => hu⟩
     ·obtain rfl := Option.some.inj ho
      have e9 : fq 9 = Value.bool false := HM.out ⟨9, .guard⟩ (by simp) rfl
      refine wpOp_hid rfl fun K HK => ?_
      clear ho HM
      simp only [e9]
      go_simp
      exact HK.out _ _ ⟨undef, by simp [upd, e9], HG.out, rfl, fun k u hu => hu⟩
     ·obtain rfl := Option.some.inj ho
      have e9 : fq 9 = Value.bool false := HM.out ⟨9, .guard⟩ (by simp) rfl
      refine wpOp_hid rfl fun K HK => ?_
      clear ho HM
      simp only [e9]
      go_simp
      exact HK.out _ _ ⟨undef, by simp [upd, e9], HG.out, rfl, fun k u hu => hu⟩
     ·obtain rfl := Option.some.inj ho
      have e10 : fq 10 = undef := HM.out ⟨10, .data⟩ (by simp) rfl
      have e11 : fq 11 = undef := HM.out ⟨11, .data⟩ (by simp) rfl
      have e9 : fq 9 = Value.bool false := HM.out ⟨9, .guard⟩ (by simp) rfl
      refine wpOp_hid rfl fun K HK => ?_
      clear ho HM
      simp only [e10, e11, e9]
      go_simp
      exact HK.out _ _ ⟨undef, by simp [upd, e10, e11, e9], HG.out, rfl, fun k u hu => hu⟩
     ·obtain rfl := Option.some.inj ho
      have e12 : fq 12 = undef := HM.out ⟨12, .data⟩ (by simp) rfl
      have e9 : fq 9 = Value.bool false := HM.out ⟨9, .guard⟩ (by simp) rfl
      refine wpOp_hid rfl fun K HK => ?_
      clear ho HM
      simp only [e12, e9]
      go_simp
      exact HK.out _ _ ⟨undef, by simp [upd, e12, e9], HG.out, rfl, fun k u hu => hu⟩
     ·obtain rfl := Option.some.inj ho
      have e13 : fq 13 = undef := HM.out ⟨13, .data⟩ (by simp) rfl
      have e9 : fq 9 = Value.bool false := HM.out ⟨9, .guard⟩ (by simp) rfl
      refine wpOp_hid rfl fun K HK => ?_
      clear ho HM
      simp only [e13, e9]
      go_simp
      exact HK.out _ _ ⟨undef, by simp [upd, e13, e9], HG.out, rfl, fun k u hu => hu⟩
     ·obtain rfl := Option.some.inj ho
      have e9 : fq 9 = Value.bool false := HM.out ⟨9, .guard⟩ (by simp) rfl
      refine wpOp_hid rfl fun K HK => ?_
      clear ho HM
      simp only [e9]
      go_simp
      exact HK.out _ _ ⟨undef, by simp [upd, e9], HG.out, rfl, fun k u hu => hu⟩
     ·obtain rfl := Option.some.inj ho
      have e15 : fq 15 = undef := HM.out ⟨15, .data⟩ (by simp) rfl
      have e9 : fq 9 = Value.bool false := HM.out ⟨9, .guard⟩ (by simp) rfl
      refine wpOp_hid rfl fun K HK => ?_
      clear ho HM
      simp only [e15, e9]
      go_simp
      exact HK.out _ _ ⟨undef, by simp [upd, e15, e9], HG.out, rfl, fun k u hu => hu⟩
     ·obtain rfl := Option.some.inj ho
      have e14 : fq 14 = undef := HM.out ⟨14, .data⟩ (by simp) rfl
      have e16 : fq 16 = undef := HM.out ⟨16, .data⟩ (by simp) rfl
      have e9 : fq 9 = Value.bool false := HM.out ⟨9, .guard⟩ (by simp) rfl
      refine wpOp_hid rfl fun K HK => ?_
      clear ho HM
      simp only [e14, e16, e9]
      go_simp
      exact HK.out _ _ ⟨undef, by simp [upd, e14, e16, e9], HG.out, rfl, fun k u hu => hu⟩
     ·obtain rfl := Option.some.inj ho
      have e9 : fq 9 = Value.bool false := HM.out ⟨9, .data⟩ (by simp) rfl
      have e17 : fq 17 = undef := HM.out ⟨17, .data⟩ (by simp) rfl
      refine wpOp_hid rfl fun K HK => ?_
      clear ho HM
      simp only [e9, e17]
      go_simp
      exact HK.out _ _ ⟨Value.bool false, by simp [upd, e9, e17], HG.out, rfl, fun k u hu => hu⟩
    case finA =>
     rintro fq w' hG hall
     have e18 : fq 18 = Value.bool false := hall 18 (by omega)
     have HG : Hid (Below wr.heap.size wr w') := hG
     clear hall
     clear hG
     have HB2 : Hid (Below W0.heap.size W0 w') := HB.out.trans (HG.out.mono HB.out.size)
     have HP2 : Hid (inPre xs (k + 1) ⟨c, s⟩ = false) := by show _ = _; rw [HSU.out]; simp [alEq, h1]
     rw [e18]
     go_wp2
     go_roundw
     case rel => exact ⟨k + 1, by omega, by go_num, HP2, HB2⟩
     case measure => first | (simp [intOf]; done) | (simp [intOf]; omega)
   | true =>
    cases h2 : (xs[k].s.toList == s.toList) with
    | false =>
     refine wp_region_all 19 (fun n => (u21 :: u22 :: u23 :: u24 :: u25 :: u26 :: u27 :: u28 :: u29 :: u30 :: u31 :: u32 :: u33 :: u34 :: u35 :: u36 :: u37 :: u38 :: u39 :: []).getD n undef) (fun fq => { tmps := List.toArray (Value.slice ad rs.length cap :: Value.agg #[Value.string oa, Value.string ob, Value.string r, Value.string c, Value.string d, Value.string s] :: undef :: Value.pointer (some { block := w.heap.size, off := 0 }) :: u4 :: Value.slice (some { block := b, off := off }) xs.length capA :: Value.int IntKind.i64 (k : Int) :: Value.slice ad rs.length cap :: Value.pointer (some { block := w.heap.size, off := 0 }) :: Value.pointer (some { block := w.heap.size, off := 0 }) :: Value.string oa :: Value.pointer (some { block := w.heap.size, off := 2 }) :: Value.string r :: Value.slice adE rows.length capE :: Value.slice (some { block := b, off := off }) xs.length capA :: Value.int IntKind.i64 (k : Int) :: Value.slice (some { block := b, off := off }) xs.length capA :: Value.int IntKind.i64 (xs.length : Int) :: Value.bool true :: u19 :: u20 :: fq 0 :: fq 1 :: fq 2 :: fq 3 :: fq 4 :: fq 5 :: fq 6 :: fq 7 :: fq 8 :: fq 9 :: fq 10 :: fq 11 :: fq 12 :: fq 13 :: fq 14 :: fq 15 :: fq 16 :: fq 17 :: fq 18 :: u40 :: u41 :: []), defers := [] }) (fun n v _ => v = (Value.slice (some { block := b, off := off }) xs.length capA :: Value.int IntKind.i64 (k : Int) :: Value.pointer (some ⟨b, off + k * 2, none⟩) :: Value.pointer (some ⟨b, off + k * 2, none⟩) :: Value.string xs[k].t :: Value.pointer (some ⟨w.heap.size, 3, none⟩) :: Value.pointer (some ⟨w.heap.size, 3, none⟩) :: Value.string c :: Value.bool true :: Value.bool true :: Value.slice (some { block := b, off := off }) xs.length capA :: Value.int IntKind.i64 (k : Int) :: Value.pointer (some ⟨b, off + k * 2, none⟩) :: Value.pointer (some ⟨b, off + k * 2 + 1, none⟩) :: Value.string xs[k].s :: Value.pointer (some ⟨w.heap.size, 5, none⟩) :: Value.string s :: Value.bool false :: Value.bool false :: []).getD n undef) (fun w' => Below wr.heap.size wr w') (by kernel_rfl) rfl (by kernel_rfl) rfl (Below.refl _ _).drew ?stepB ?finB
     case stepB =>
      rintro i hi o ho fq w' hG hpre
      have HG : Hid (Below wr.heap.size wr w') := hG
      replace t0 := kept5 hG hb5 t0
      replace t1 := kept5 hG hb5 t1
      replace c3 := kept5 hG hwl c3
      replace c5 := kept5 hG hwl c5
      have HM : Hid (∀ e ∈ o.after, Region.binds .any e = true → _) := hpre
      clear hG hpre
      have hc : i = 0 ∨ i = 1 ∨ i = 2 ∨ i = 3 ∨ i = 4 ∨ i = 5 ∨ i = 6 ∨ i = 7 ∨ i = 8 ∨ i = 9 ∨ i = 10 ∨ i = 11 ∨ i = 12 ∨ i = 13 ∨ i = 14 ∨ i = 15 ∨ i = 16 ∨ i = 17 ∨ i = 18 := by omega
      clear hi
      rcases hc with rfl | rfl | rfl | rfl | rfl | rfl | rfl | rfl | rfl | rfl | rfl | rfl | rfl | rfl | rfl | rfl | rfl | rfl | rfl
      ·obtain rfl := Option.some.inj ho
       refine wpOp_hid rfl fun K HK => ?_
       clear ho HM
       dsimp only
       go_simp
       exact HK.out _ _ ⟨Value.slice (some { block := b, off := off }) xs.length capA, by simp [upd], HG.out, rfl, fun k u hu => hu⟩
      ·obtain rfl := Option.some.inj ho
       refine wpOp_hid rfl fun K HK => ?_
       clear ho HM
       dsimp only
       go_simp
       exact HK.out _ _ ⟨Value.int IntKind.i64 (k : Int), by simp [upd], HG.out, rfl, fun k u hu => hu⟩
      ·obtain rfl := Option.some.inj ho
       have e0 : fq 0 = Value.slice (some { block := b, off := off }) xs.length capA := HM.out ⟨0, .data⟩ (by simp) rfl
       have e1 : fq 1 = Value.int IntKind.i64 (k : Int) := HM.out ⟨1, .data⟩ (by simp) rfl
       refine wpOp_hid rfl fun K HK => ?_
       clear ho HM
       simp only [e0, e1]
       go_simp
       exact HK.out _ _ ⟨Value.pointer (some ⟨b, off + k * 2, none⟩), by simp [upd, e0, e1], HG.out, rfl, fun k u hu => hu⟩
      ·obtain rfl := Option.some.inj ho
       have e2 : fq 2 = Value.pointer (some ⟨b, off + k * 2, none⟩) := HM.out ⟨2, .data⟩ (by simp) rfl
       refine wpOp_hid rfl fun K HK => ?_
       clear ho HM
       simp only [e2]
       go_simp
       exact HK.out _ _ ⟨Value.pointer (some ⟨b, off + k * 2, none⟩), by simp [upd, e2], HG.out, rfl, fun k u hu => hu⟩
      ·obtain rfl := Option.some.inj ho
       have e3 : fq 3 = Value.pointer (some ⟨b, off + k * 2, none⟩) := HM.out ⟨3, .data⟩ (by simp) rfl
       refine wpOp_hid rfl fun K HK => ?_
       clear ho HM
       simp only [e3]
       go_simp
       exact HK.out _ _ ⟨Value.string xs[k].t, by simp [upd, e3], HG.out, rfl, fun k u hu => hu⟩
      ·obtain rfl := Option.some.inj ho
       refine wpOp_hid rfl fun K HK => ?_
       clear ho HM
       dsimp only
       go_simp
       exact HK.out _ _ ⟨Value.pointer (some ⟨w.heap.size, 3, none⟩), by simp [upd], HG.out, rfl, fun k u hu => hu⟩
      ·obtain rfl := Option.some.inj ho
       have e5 : fq 5 = Value.pointer (some ⟨w.heap.size, 3, none⟩) := HM.out ⟨5, .data⟩ (by simp) rfl
       refine wpOp_hid rfl fun K HK => ?_
       clear ho HM
       simp only [e5]
       go_simp
       exact HK.out _ _ ⟨Value.pointer (some ⟨w.heap.size, 3, none⟩), by simp [upd, e5], HG.out, rfl, fun k u hu => hu⟩
      ·obtain rfl := Option.some.inj ho
       have e6 : fq 6 = Value.pointer (some ⟨w.heap.size, 3, none⟩) := HM.out ⟨6, .data⟩ (by simp) rfl
       refine wpOp_hid rfl fun K HK => ?_
       clear ho HM
       simp only [e6]
       go_simp
       exact HK.out _ _ ⟨Value.string c, by simp [upd, e6], HG.out, rfl, fun k u hu => hu⟩
      ·obtain rfl := Option.some.inj ho
       have e4 : fq 4 = Value.string xs[k].t := HM.out ⟨4, .data⟩ (by simp) rfl
       have e7 : fq 7 = Value.string c := HM.out ⟨7, .data⟩ (by simp) rfl
       refine wpOp_hid rfl fun K HK => ?_
       clear ho HM
       simp only [e4, e7]
       go_simp
       exact HK.out _ _ ⟨Value.bool true, by simp [upd, e4, e7], HG.out, rfl, fun k u hu => hu⟩
      ·obtain rfl := Option.some.inj ho
       have e8 : fq 8 = Value.bool true := HM.out ⟨8, .data⟩ (by simp) rfl
       refine wpOp_hid rfl fun K HK => ?_
       clear ho HM
       simp only [e8]
       go_simp
       exact HK.out _ _ ⟨Value.bool true, by simp [upd, e8], HG.out, rfl, fun k u hu => hu⟩
      ·obtain rfl := Option.some.inj ho
       have e9 : fq 9 = Value.bool true := HM.out ⟨9, .guard⟩ (by simp) rfl
       refine wpOp_hid rfl fun K HK => ?_
       clear ho HM
       simp only [e9]
       go_simp
       exact HK.out _ _ ⟨Value.slice (some { block := b, off := off }) xs.length capA, by simp [upd, e9], HG.out, rfl, fun k u hu => hu⟩
      ·obtain rfl := Option.some.inj ho
       have e9 : fq 9 = Value.bool true := HM.out ⟨9, .guard⟩ (by simp) rfl
       refine wpOp_hid rfl fun K HK => ?_
       clear ho HM
       simp only [e9]
       go_simp
       exact HK.out _ _ ⟨Value.int IntKind.i64 (k : Int), by simp [upd, e9], HG.out, rfl, fun k u hu => hu⟩
      ·obtain rfl := Option.some.inj ho
       have e10 : fq 10 = Value.slice (some { block := b, off := off }) xs.length capA := HM.out ⟨10, .data⟩ (by simp) rfl
       have e11 : fq 11 = Value.int IntKind.i64 (k : Int) := HM.out ⟨11, .data⟩ (by simp) rfl
       have e9 : fq 9 = Value.bool true := HM.out ⟨9, .guard⟩ (by simp) rfl
       refine wpOp_hid rfl fun K HK => ?_
       clear ho HM
       simp only [e10, e11, e9]
       go_simp
       exact HK.out _ _ ⟨Value.pointer (some ⟨b, off + k * 2, none⟩), by simp [upd, e10, e11, e9], HG.out, rfl, fun k u hu => hu⟩
      ·obtain rfl := Option.some.inj ho
       have e12 : fq 12 = Value.pointer (some ⟨b, off + k * 2, none⟩) := HM.out ⟨12, .data⟩ (by simp) rfl
       have e9 : fq 9 = Value.bool true := HM.out ⟨9, .guard⟩ (by simp) rfl
       refine wpOp_hid rfl fun K HK => ?_
       clear ho HM
       simp only [e12, e9]
       go_simp
       exact HK.out _ _ ⟨Value.pointer (some ⟨b, off + k * 2 + 1, none⟩), by simp [upd, e12, e9], HG.out, rfl, fun k u hu => hu⟩
      ·obtain rfl := Option.some.inj ho
       have e13 : fq 13 = Value.pointer (some ⟨b, off + k * 2 + 1, none⟩) := HM.out ⟨13, .data⟩ (by simp) rfl
       have e9 : fq 9 = Value.bool true := HM.out ⟨9, .guard⟩ (by simp) rfl
       refine wpOp_hid rfl fun K HK => ?_
       clear ho HM
       simp only [e13, e9]
       go_simp
       exact HK.out _ _ ⟨Value.string xs[k].s, by simp [upd, e13, e9], HG.out, rfl, fun k u hu => hu⟩
      ·obtain rfl := Option.some.inj ho
       have e9 : fq 9 = Value.bool true := HM.out ⟨9, .guard⟩ (by simp) rfl
       refine wpOp_hid rfl fun K HK => ?_
       clear ho HM
       simp only [e9]
       go_simp
       exact HK.out _ _ ⟨Value.pointer (some ⟨w.heap.size, 5, none⟩), by simp [upd, e9], HG.out, rfl, fun k u hu => hu⟩
      ·obtain rfl := Option.some.inj ho
       have e15 : fq 15 = Value.pointer (some ⟨w.heap.size, 5, none⟩) := HM.out ⟨15, .data⟩ (by simp) rfl
       have e9 : fq 9 = Value.bool true := HM.out ⟨9, .guard⟩ (by simp) rfl
       refine wpOp_hid rfl fun K HK => ?_
       clear ho HM
       simp only [e15, e9]
       go_simp
       exact HK.out _ _ ⟨Value.string s, by simp [upd, e15, e9], HG.out, rfl, fun k u hu => hu⟩
      ·obtain rfl := Option.some.inj ho
       have e14 : fq 14 = Value.string xs[k].s := HM.out ⟨14, .data⟩ (by simp) rfl
       have e16 : fq 16 = Value.string s := HM.out ⟨16, .data⟩ (by simp) rfl
       have e9 : fq 9 = Value.bool true := HM.out ⟨9, .guard⟩ (by simp) rfl
       refine wpOp_hid rfl fun K HK => ?_
       clear ho HM
       simp only [e14, e16, e9]
       go_simp
       exact HK.out _ _ ⟨Value.bool false, by simp [upd, e14, e16, e9], HG.out, rfl, fun k u hu => hu⟩
      ·obtain rfl := Option.some.inj ho
       have e9 : fq 9 = Value.bool true := HM.out ⟨9, .data⟩ (by simp) rfl
       have e17 : fq 17 = Value.bool false := HM.out ⟨17, .data⟩ (by simp) rfl
       refine wpOp_hid rfl fun K HK => ?_
       clear ho HM
       simp only [e9, e17]
       go_simp
       exact HK.out _ _ ⟨Value.bool false, by simp [upd, e9, e17], HG.out, rfl, fun k u hu => hu⟩
     case finB =>
      rintro fq w' hG hall
      have e18 : fq 18 = Value.bool false := hall 18 (by omega)
      have HG : Hid (Below wr.heap.size wr w') := hG
      clear hall
      clear hG
      have HB2 : Hid (Below W0.heap.size W0 w') := HB.out.trans (HG.out.mono HB.out.size)
      have HP2 : Hid (inPre xs (k + 1) ⟨c, s⟩ = false) := by show _ = _; rw [HSU.out]; simp [alEq, h1, h2]
      rw [e18]
      go_wp2
      go_roundw
      case rel => exact ⟨k + 1, by omega, by go_num, HP2, HB2⟩
      case measure => first | (simp [intOf]; done) | (simp [intOf]; omega)
    | true =>
     refine wp_region_all 19 (fun n => (u21 :: u22 :: u23 :: u24 :: u25 :: u26 :: u27 :: u28 :: u29 :: u30 :: u31 :: u32 :: u33 :: u34 :: u35 :: u36 :: u37 :: u38 :: u39 :: []).getD n undef) (fun fq => { tmps := List.toArray (Value.slice ad rs.length cap :: Value.agg #[Value.string oa, Value.string ob, Value.string r, Value.string c, Value.string d, Value.string s] :: undef :: Value.pointer (some { block := w.heap.size, off := 0 }) :: u4 :: Value.slice (some { block := b, off := off }) xs.length capA :: Value.int IntKind.i64 (k : Int) :: Value.slice ad rs.length cap :: Value.pointer (some { block := w.heap.size, off := 0 }) :: Value.pointer (some { block := w.heap.size, off := 0 }) :: Value.string oa :: Value.pointer (some { block := w.heap.size, off := 2 }) :: Value.string r :: Value.slice adE rows.length capE :: Value.slice (some { block := b, off := off }) xs.length capA :: Value.int IntKind.i64 (k : Int) :: Value.slice (some { block := b, off := off }) xs.length capA :: Value.int IntKind.i64 (xs.length : Int) :: Value.bool true :: u19 :: u20 :: fq 0 :: fq 1 :: fq 2 :: fq 3 :: fq 4 :: fq 5 :: fq 6 :: fq 7 :: fq 8 :: fq 9 :: fq 10 :: fq 11 :: fq 12 :: fq 13 :: fq 14 :: fq 15 :: fq 16 :: fq 17 :: fq 18 :: u40 :: u41 :: []), defers := [] }) (fun n v _ => v = (Value.slice (some { block := b, off := off }) xs.length capA :: Value.int IntKind.i64 (k : Int) :: Value.pointer (some ⟨b, off + k * 2, none⟩) :: Value.pointer (some ⟨b, off + k * 2, none⟩) :: Value.string xs[k].t :: Value.pointer (some ⟨w.heap.size, 3, none⟩) :: Value.pointer (some ⟨w.heap.size, 3, none⟩) :: Value.string c :: Value.bool true :: Value.bool true :: Value.slice (some { block := b, off := off }) xs.length capA :: Value.int IntKind.i64 (k : Int) :: Value.pointer (some ⟨b, off + k * 2, none⟩) :: Value.pointer (some ⟨b, off + k * 2 + 1, none⟩) :: Value.string xs[k].s :: Value.pointer (some ⟨w.heap.size, 5, none⟩) :: Value.string s :: Value.bool true :: Value.bool true :: []).getD n undef) (fun w' => Below wr.heap.size wr w') (by kernel_rfl) rfl (by kernel_rfl) rfl (Below.refl _ _).drew ?stepC ?finC
     case stepC =>
      rintro i hi o ho fq w' hG hpre
      have HG : Hid (Below wr.heap.size wr w') := hG
      replace t0 := kept5 hG hb5 t0
      replace t1 := kept5 hG hb5 t1
      replace c3 := kept5 hG hwl c3
      replace c5 := kept5 hG hwl c5
      have HM : Hid (∀ e ∈ o.after, Region.binds .any e = true → _) := hpre
      clear hG hpre
      have hc : i = 0 ∨ i = 1 ∨ i = 2 ∨ i = 3 ∨ i = 4 ∨ i = 5 ∨ i = 6 ∨ i = 7 ∨ i = 8 ∨ i = 9 ∨ i = 10 ∨ i = 11 ∨ i = 12 ∨ i = 13 ∨ i = 14 ∨ i = 15 ∨ i = 16 ∨ i = 17 ∨ i = 18 := by omega
      clear hi
      rcases hc with rfl | rfl | rfl | rfl | rfl | rfl | rfl | rfl | rfl | rfl | rfl | rfl | rfl | rfl | rfl | rfl | rfl | rfl | rfl
      ·obtain rfl := Option.some.inj ho
       refine wpOp_hid rfl fun K HK => ?_
       clear ho HM
       dsimp only
       go_simp
       exact HK.out _ _ ⟨Value.slice (some { block := b, off := off }) xs.length capA, by simp [upd], HG.out, rfl, fun k u hu => hu⟩
      ·obtain rfl := Option.some.inj ho
       refine wpOp_hid rfl fun K HK => ?_
       clear ho HM
       dsimp only
       go_simp
       exact HK.out _ _ ⟨Value.int IntKind.i64 (k : Int), by simp [upd], HG.out, rfl, fun k u hu => hu⟩
      ·obtain rfl := Option.some.inj ho
       have e0 : fq 0 = Value.slice (some { block := b, off := off }) xs.length capA := HM.out ⟨0, .data⟩ (by simp) rfl
       have e1 : fq 1 = Value.int IntKind.i64 (k : Int) := HM.out ⟨1, .data⟩ (by simp) rfl
       refine wpOp_hid rfl fun K HK => ?_
       clear ho HM
       simp only [e0, e1]
       go_simp
       exact HK.out _ _ ⟨Value.pointer (some ⟨b, off + k * 2, none⟩), by simp [upd, e0, e1], HG.out, rfl, fun k u hu => hu⟩
      ·obtain rfl := Option.some.inj ho
       have e2 : fq 2 = Value.pointer (some ⟨b, off + k * 2, none⟩) := HM.out ⟨2, .data⟩ (by simp) rfl
       refine wpOp_hid rfl fun K HK => ?_
       clear ho HM
       simp only [e2]
       go_simp
       exact HK.out _ _ ⟨Value.pointer (some ⟨b, off + k * 2, none⟩), by simp [upd, e2], HG.out, rfl, fun k u hu => hu⟩
      ·obtain rfl := Option.some.inj ho
       have e3 : fq 3 = Value.pointer (some ⟨b, off + k * 2, none⟩) := HM.out ⟨3, .data⟩ (by simp) rfl
       refine wpOp_hid rfl fun K HK => ?_
       clear ho HM
       simp only [e3]
       go_simp
       exact HK.out _ _ ⟨Value.string xs[k].t, by simp [upd, e3], HG.out, rfl, fun k u hu => hu⟩
      ·obtain rfl := Option.some.inj ho
       refine wpOp_hid rfl fun K HK => ?_
       clear ho HM
       dsimp only
       go_simp
       exact HK.out _ _ ⟨Value.pointer (some ⟨w.heap.size, 3, none⟩), by simp [upd], HG.out, rfl, fun k u hu => hu⟩
      ·obtain rfl := Option.some.inj ho
       have e5 : fq 5 = Value.pointer (some ⟨w.heap.size, 3, none⟩) := HM.out ⟨5, .data⟩ (by simp) rfl
       refine wpOp_hid rfl fun K HK => ?_
       clear ho HM
       simp only [e5]
       go_simp
       exact HK.out _ _ ⟨Value.pointer (some ⟨w.heap.size, 3, none⟩), by simp [upd, e5], HG.out, rfl, fun k u hu => hu⟩
      ·obtain rfl := Option.some.inj ho
       have e6 : fq 6 = Value.pointer (some ⟨w.heap.size, 3, none⟩) := HM.out ⟨6, .data⟩ (by simp) rfl
       refine wpOp_hid rfl fun K HK => ?_
       clear ho HM
       simp only [e6]
       go_simp
       exact HK.out _ _ ⟨Value.string c, by simp [upd, e6], HG.out, rfl, fun k u hu => hu⟩
      ·obtain rfl := Option.some.inj ho
       have e4 : fq 4 = Value.string xs[k].t := HM.out ⟨4, .data⟩ (by simp) rfl
       have e7 : fq 7 = Value.string c := HM.out ⟨7, .data⟩ (by simp) rfl
       refine wpOp_hid rfl fun K HK => ?_
       clear ho HM
       simp only [e4, e7]
       go_simp
       exact HK.out _ _ ⟨Value.bool true, by simp [upd, e4, e7], HG.out, rfl, fun k u hu => hu⟩
      ·obtain rfl := Option.some.inj ho
       have e8 : fq 8 = Value.bool true := HM.out ⟨8, .data⟩ (by simp) rfl
       refine wpOp_hid rfl fun K HK => ?_
       clear ho HM
       simp only [e8]
       go_simp
       exact HK.out _ _ ⟨Value.bool true, by simp [upd, e8], HG.out, rfl, fun k u hu => hu⟩
      ·obtain rfl := Option.some.inj ho
       have e9 : fq 9 = Value.bool true := HM.out ⟨9, .guard⟩ (by simp) rfl
       refine wpOp_hid rfl fun K HK => ?_
       clear ho HM
       simp only [e9]
       go_simp
       exact HK.out _ _ ⟨Value.slice (some { block := b, off := off }) xs.length capA, by simp [upd, e9], HG.out, rfl, fun k u hu => hu⟩
      ·obtain rfl := Option.some.inj ho
       have e9 : fq 9 = Value.bool true := HM.out ⟨9, .guard⟩ (by simp) rfl
       refine wpOp_hid rfl fun K HK => ?_
       clear ho HM
       simp only [e9]
       go_simp
       exact HK.out _ _ ⟨Value.int IntKind.i64 (k : Int), by simp [upd, e9], HG.out, rfl, fun k u hu => hu⟩
      ·obtain rfl := Option.some.inj ho
       have e10 : fq 10 = Value.slice (some { block := b, off := off }) xs.length capA := HM.out ⟨10, .data⟩ (by simp) rfl
       have e11 : fq 11 = Value.int IntKind.i64 (k : Int) := HM.out ⟨11, .data⟩ (by simp) rfl
       have e9 : fq 9 = Value.bool true := HM.out ⟨9, .guard⟩ (by simp) rfl
       refine wpOp_hid rfl fun K HK => ?_
       clear ho HM
       simp only [e10, e11, e9]
       go_simp
       exact HK.out _ _ ⟨Value.pointer (some ⟨b, off + k * 2, none⟩), by simp [upd, e10, e11, e9], HG.out, rfl, fun k u hu => hu⟩
      ·obtain rfl := Option.some.inj ho
       have e12 : fq 12 = Value.pointer (some ⟨b, off + k * 2, none⟩) := HM.out ⟨12, .data⟩ (by simp) rfl
       have e9 : fq 9 = Value.bool true := HM.out ⟨9, .guard⟩ (by simp) rfl
       refine wpOp_hid rfl fun K HK => ?_
       clear ho HM
       simp only [e12, e9]
       go_simp
       exact HK.out _ _ ⟨Value.pointer (some ⟨b, off + k * 2 + 1, none⟩), by simp [upd, e12, e9], HG.out, rfl, fun k u hu => hu⟩
      ·obtain rfl := Option.some.inj ho
       have e13 : fq 13 = Value.pointer (some ⟨b, off + k * 2 + 1, none⟩) := HM.out ⟨13, .data⟩ (by simp) rfl
       have e9 : fq 9 = Value.bool true := HM.out ⟨9, .guard⟩ (by simp) rfl
       refine wpOp_hid rfl fun K HK => ?_
       clear ho HM
       simp only [e13, e9]
       go_simp
       exact HK.out _ _ ⟨Value.string xs[k].s, by simp [upd, e13, e9], HG.out, rfl, fun k u hu => hu⟩
      ·obtain rfl := Option.some.inj ho
       have e9 : fq 9 = Value.bool true := HM.out ⟨9, .guard⟩ (by simp) rfl
       refine wpOp_hid rfl fun K HK => ?_
       clear ho HM
       simp only [e9]
       go_simp
       exact HK.out _ _ ⟨Value.pointer (some ⟨w.heap.size, 5, none⟩), by simp [upd, e9], HG.out, rfl, fun k u hu => hu⟩
      ·obtain rfl := Option.some.inj ho
       have e15 : fq 15 = Value.pointer (some ⟨w.heap.size, 5, none⟩) := HM.out ⟨15, .data⟩ (by simp) rfl
       have e9 : fq 9 = Value.bool true := HM.out ⟨9, .guard⟩ (by simp) rfl
       refine wpOp_hid rfl fun K HK => ?_
       clear ho HM
       simp only [e15, e9]
       go_simp
       exact HK.out _ _ ⟨Value.string s, by simp [upd, e15, e9], HG.out, rfl, fun k u hu => hu⟩
      ·obtain rfl := Option.some.inj ho
       have e14 : fq 14 = Value.string xs[k].s := HM.out ⟨14, .data⟩ (by simp) rfl
       have e16 : fq 16 = Value.string s := HM.out ⟨16, .data⟩ (by simp) rfl
       have e9 : fq 9 = Value.bool true := HM.out ⟨9, .guard⟩ (by simp) rfl
       refine wpOp_hid rfl fun K HK => ?_
       clear ho HM
       simp only [e14, e16, e9]
       go_simp
       exact HK.out _ _ ⟨Value.bool true, by simp [upd, e14, e16, e9], HG.out, rfl, fun k u hu => hu⟩
      ·obtain rfl := Option.some.inj ho
       have e9 : fq 9 = Value.bool true := HM.out ⟨9, .data⟩ (by simp) rfl
       have e17 : fq 17 = Value.bool true := HM.out ⟨17, .data⟩ (by simp) rfl
       refine wpOp_hid rfl fun K HK => ?_
       clear ho HM
       simp only [e9, e17]
       go_simp
       exact HK.out _ _ ⟨Value.bool true, by simp [upd, e9, e17], HG.out, rfl, fun k u hu => hu⟩
     case finC =>
      rintro fq w' hG hall
      have e18 : fq 18 = Value.bool true := hall 18 (by omega)
      have HG : Hid (Below wr.heap.size wr w') := hG
      clear hall
      replace c0 := kept5 hG hwl c0
      replace c1 := kept5 hG hwl c1
      replace c2 := kept5 hG hwl c2
      replace c3 := kept5 hG hwl c3
      replace c4 := kept5 hG hwl c4
      replace c5 := kept5 hG hwl c5
      clear hG
      rw [e18]
      have HN : Hid (fitsS (tys rs) oa ob r c d s = tupB oa ob r c d s) := by show _ = _; unfold fitsS; rw [← HXS.out, inPre_bad hlt (by simp [alEq, h1, h2])]; rfl
      go_wp2_with fail
      refine (specTup_any oa ob r c d s _ ha hb hr hc hd hz).mono ?_
      rintro e w2 ⟨rfl, hb2⟩
      have HB2 : Hid (Below w.heap.size w w2) := HBW.out.trans ((HG.out.mono HBW.out.size).trans (hb2.mono (Nat.le_trans HBW.out.size HG.out.size)))
      clear hb2
      go_wp2
      go_ret
      exact ⟨by rw [HN.out]; rfl, HB2.out⟩
  ·obtain rfl : k = xs.length := by omega
   have HN : Hid (fitsS (tys rs) oa ob r c d s = false) := by show _ = _; unfold fitsS; rw [← HXS.out, HP.out]; rfl
   go_wp2
   go_ret
   exact ⟨by rw [HN.out]; rfl, HBW.out⟩
end Go.Proofs.Ytgmgeedlieiimaa
