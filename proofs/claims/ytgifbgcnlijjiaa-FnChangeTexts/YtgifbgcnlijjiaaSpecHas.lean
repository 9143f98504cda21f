/- Contract of the document's function that looks for a tuple in a list. -/
import Derived.Test.YtgifbgcnlijjiaaSpecTups
namespace Go.Proofs.Ytgifbgcnlijjiaa
open Go.ChangeShapes Go.WideShapes Go.ChangeAt Go.RowKit Go.Maps
open Pl

set_option maxRecDepth 8000 in
set_option maxHeartbeats 2000000 in
theorem l1Has_any (ad : Option Addr) (cap : Nat) (ts : List Tp) (t : Tp) (w : World) (hlen : ts.length ≤ 1048576) (hs : Sl w ad ts) :
    Calls Try.prog 53 #[.slice ad ts.length cap, .agg #[.string t.a, .string t.b, .string t.r, .string t.c, .string t.d, .string t.s]] w fun e w' => e = .returned (.bool (hasT ts t)) ∧ Below w.heap.size w w' := by
  have HS : Hid (Sl w ad ts) := hs
  clear hs
  obtain ⟨W0, hW0⟩ : ∃ W0, W0 = w.alloc (.cells #[.string t.a, .string t.b, .string t.r, .string t.c, .string t.d, .string t.s] 27) := ⟨_, rfl⟩
  have HB0 : Hid (Below w.heap.size w W0) := by show Below _ _ _; rw [hW0]; exact (Below.refl _ _).alloc (Nat.le_refl _) _
  have HX0 : Hid (W0.cell? ⟨w.heap.size, 0, none⟩ = some (.string t.a) ∧ W0.cell? ⟨w.heap.size, 1, none⟩ = some (.string t.b) ∧ W0.cell? ⟨w.heap.size, 2, none⟩ = some (.string t.r) ∧ W0.cell? ⟨w.heap.size, 3, none⟩ = some (.string t.c) ∧ W0.cell? ⟨w.heap.size, 4, none⟩ = some (.string t.d) ∧ W0.cell? ⟨w.heap.size, 5, none⟩ = some (.string t.s) ∧ w.heap.size < W0.heap.size) := by show _ ∧ _; rw [hW0]; refine ⟨?_, ?_, ?_, ?_, ?_, ?_, ?_⟩ <;> simp
  go_enter Try.func53, Try.ntmps53
  go_wp2
  rw [← hW0]
  clear hW0
  go_loopw [5] (fun i wr => ∃ k : Nat, k ≤ ts.length ∧ i = .int .i64 k ∧ Hid (hasT (ts.drop k) t = hasT ts t) ∧ Hid (Below W0.heap.size W0 wr)) (fun i _ => ts.length - (intOf i).toNat)
  case atStart => exact ⟨0, Nat.zero_le _, rfl, rfl, Below.refl _ _⟩
  case round =>
    obtain ⟨k, hk, rfl, HP, HB⟩ := hrel
    have HBW : Hid (Below w.heap.size w wr) := HB0.out.trans (HB.out.mono HB0.out.size)
    by_cases hlt : k < ts.length
    · rcases HS.out.below HBW.out with hnil | ⟨b, off, rfl, hb, hr⟩
      · rw [hnil] at hlt; simp at hlt
      obtain ⟨t0, t1, t2, t3, t4, t5⟩ := hr k hlt
      have x0 := mK HB.out HX0.out.2.2.2.2.2.2 HX0.out.1
      have x1 := mK HB.out HX0.out.2.2.2.2.2.2 HX0.out.2.1
      have x2 := mK HB.out HX0.out.2.2.2.2.2.2 HX0.out.2.2.1
      have x3 := mK HB.out HX0.out.2.2.2.2.2.2 HX0.out.2.2.2.1
      have x4 := mK HB.out HX0.out.2.2.2.2.2.2 HX0.out.2.2.2.2.1
      have x5 := mK HB.out HX0.out.2.2.2.2.2.2 HX0.out.2.2.2.2.2.1
      have hk1 : (0 : Int) ≤ (k : Int) := by omega
      have hk2 : (k : Int) < (ts.length : Int) := by omega
      have HD : Hid (hasT ts t = (tpEq ts[k] t || hasT (ts.drop (k + 1)) t)) := by show _ = _; rw [← HP.out]; exact hasT_drop hlt
      clear hr
      cases hq : tpEq ts[k] t with
      | true =>
        have heq := tp_eql ts[k] t hq
        have HN : Hid (hasT ts t = true) := by show _ = _; rw [HD.out, hq]; rfl
        clear hq
        go_wp2_with fail
        go_region_held3 (fun w' => w'.cell? ⟨b, off + k * 6, none⟩ = some (.string ts[k].a) ∧ w'.cell? ⟨b, off + k * 6 + 1, none⟩ = some (.string ts[k].b) ∧ w'.cell? ⟨b, off + k * 6 + 2, none⟩ = some (.string ts[k].r) ∧ w'.cell? ⟨b, off + k * 6 + 3, none⟩ = some (.string ts[k].c) ∧ w'.cell? ⟨b, off + k * 6 + 4, none⟩ = some (.string ts[k].d) ∧ w'.cell? ⟨b, off + k * 6 + 5, none⟩ = some (.string ts[k].s) ∧ w'.cell? ⟨w.heap.size, 0, none⟩ = some (.string t.a) ∧ w'.cell? ⟨w.heap.size, 1, none⟩ = some (.string t.b) ∧ w'.cell? ⟨w.heap.size, 2, none⟩ = some (.string t.r) ∧ w'.cell? ⟨w.heap.size, 3, none⟩ = some (.string t.c) ∧ w'.cell? ⟨w.heap.size, 4, none⟩ = some (.string t.d) ∧ w'.cell? ⟨w.heap.size, 5, none⟩ = some (.string t.s) ∧ Below wr.heap.size wr w') (first | assumption | exact ⟨t0, t1, t2, t3, t4, t5, x0, x1, x2, x3, x4, x5, (Below.refl _ _).drew⟩) (fail)
        rename_i hH
        have HG : Hid (Below wr.heap.size wr _) := hH.2.2.2.2.2.2.2.2.2.2.2.2
        clear hH t0 t1 t2 t3 t4 t5 x0 x1 x2 x3 x4 x5 heq
        go_wp2
        go_ret
        exact ⟨by rw [HN.out]; rfl, HBW.out.trans (HG.out.mono HBW.out.size)⟩
      | false =>
        have heq := tp_eql ts[k] t hq
        have HP2 : Hid (hasT (ts.drop (k + 1)) t = hasT ts t) := by show _ = _; rw [HD.out, hq]; rfl
        clear hq
        go_wp2_with fail
        go_region_held3 (fun w' => w'.cell? ⟨b, off + k * 6, none⟩ = some (.string ts[k].a) ∧ w'.cell? ⟨b, off + k * 6 + 1, none⟩ = some (.string ts[k].b) ∧ w'.cell? ⟨b, off + k * 6 + 2, none⟩ = some (.string ts[k].r) ∧ w'.cell? ⟨b, off + k * 6 + 3, none⟩ = some (.string ts[k].c) ∧ w'.cell? ⟨b, off + k * 6 + 4, none⟩ = some (.string ts[k].d) ∧ w'.cell? ⟨b, off + k * 6 + 5, none⟩ = some (.string ts[k].s) ∧ w'.cell? ⟨w.heap.size, 0, none⟩ = some (.string t.a) ∧ w'.cell? ⟨w.heap.size, 1, none⟩ = some (.string t.b) ∧ w'.cell? ⟨w.heap.size, 2, none⟩ = some (.string t.r) ∧ w'.cell? ⟨w.heap.size, 3, none⟩ = some (.string t.c) ∧ w'.cell? ⟨w.heap.size, 4, none⟩ = some (.string t.d) ∧ w'.cell? ⟨w.heap.size, 5, none⟩ = some (.string t.s) ∧ Below wr.heap.size wr w') (first | assumption | exact ⟨t0, t1, t2, t3, t4, t5, x0, x1, x2, x3, x4, x5, (Below.refl _ _).drew⟩) (fail)
        rename_i hH
        have HG : Hid (Below W0.heap.size W0 _) := HB.out.trans (hH.2.2.2.2.2.2.2.2.2.2.2.2.mono HB.out.size)
        clear hH t0 t1 t2 t3 t4 t5 x0 x1 x2 x3 x4 x5 heq
        go_wp2
        go_roundw
        case rel => exact ⟨k + 1, by omega, by go_num, HP2, HG⟩
        case measure => first | (simp [intOf]; done) | (simp [intOf]; omega)
    · have HN : Hid (hasT ts t = false) := by show _ = _; rw [← HP.out, List.drop_of_length_le (by omega)]; rfl
      go_wp2
      go_ret
      exact ⟨by rw [HN.out]; rfl, HBW.out⟩

end Go.Proofs.Ytgifbgcnlijjiaa
