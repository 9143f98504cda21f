/- Contract of the document's function that leaves a tuple out of a list. -/
import Derived.Test.YtgifbgcnlijjiaaSpecTups
namespace Go.Proofs.Ytgifbgcnlijjiaa
open Go.ChangeShapes Go.WideShapes Go.ChangeAt Go.RowKit Go.Maps
open Pl

set_option maxRecDepth 8000 in
set_option maxHeartbeats 4000000 in
theorem l1Drop_any (ad : Option Addr) (cap : Nat) (ts : List Tp) (t : Tp) (w : World) (hlen : ts.length ≤ 1048576) (hs : Sl w ad ts) :
    Calls Try.prog 55 #[.slice ad ts.length cap, .agg #[.string t.a, .string t.b, .string t.r, .string t.c, .string t.d, .string t.s]] w fun e w' => ∃ (ad' : Option Addr) (cap' : Nat), e = .returned (.slice ad' (dropT ts t).length cap') ∧ Sl w' ad' (dropT ts t) ∧ Below w.heap.size w w' := by
  obtain ⟨iT, hiT, zT0, zT1, zT2⟩ := info_parts (P := Try.prog) (e := 27) (z := .agg #[.string ⟨#[]⟩, .string ⟨#[]⟩, .string ⟨#[]⟩, .string ⟨#[]⟩, .string ⟨#[]⟩, .string ⟨#[]⟩]) (size := 6) (bytes := 96) (by kernel_rfl)
  have HIT : Hid (Try.prog.info? 27 = some iT ∧ iT.zero = some (.agg #[.string ⟨#[]⟩, .string ⟨#[]⟩, .string ⟨#[]⟩, .string ⟨#[]⟩, .string ⟨#[]⟩, .string ⟨#[]⟩]) ∧ iT.size = 6 ∧ iT.bytes = 96) := ⟨hiT, zT0, zT1, zT2⟩
  have HS : Hid (Sl w ad ts) := hs
  clear hs hiT zT0 zT1 zT2
  obtain ⟨W0, hW0⟩ : ∃ W0, W0 = w.alloc (.cells #[.string t.a, .string t.b, .string t.r, .string t.c, .string t.d, .string t.s] 27) := ⟨_, rfl⟩
  have HB0 : Hid (Below w.heap.size w W0) := by show Below _ _ _; rw [hW0]; exact (Below.refl _ _).alloc (Nat.le_refl _) _
  have HX0 : Hid (W0.cell? ⟨w.heap.size, 0, none⟩ = some (.string t.a) ∧ W0.cell? ⟨w.heap.size, 1, none⟩ = some (.string t.b) ∧ W0.cell? ⟨w.heap.size, 2, none⟩ = some (.string t.r) ∧ W0.cell? ⟨w.heap.size, 3, none⟩ = some (.string t.c) ∧ W0.cell? ⟨w.heap.size, 4, none⟩ = some (.string t.d) ∧ W0.cell? ⟨w.heap.size, 5, none⟩ = some (.string t.s) ∧ w.heap.size < W0.heap.size) := by show _ ∧ _; rw [hW0]; refine ⟨?_, ?_, ?_, ?_, ?_, ?_, ?_⟩ <;> simp
  have HS0 : Hid (W0.heap.size = w.heap.size + 1) := by show _ = _; rw [hW0]; simp
  have HLIT : Hid ((W0.alloc (.cells #[] 27)).ownsRow (w.heap.size + 1) 27 6 (.slice (some ⟨w.heap.size + 1, 0, none⟩) 0 0) 0 (rows6 (dropT (ts.take 0) t))) := by
    show World.ownsRow _ _ _ _ _ _ _
    rw [← HS0.out]
    exact World.ownsRow_lit W0 #[] 0 (Nat.le_refl _) (by unfold maxLen; omega) (by simp)
  have HB1 : Hid (Below W0.heap.size W0 (W0.alloc (.cells #[] 27))) := (Below.refl _ _).alloc (Nat.le_refl _) _
  go_enter Try.func55, Try.ntmps55
  go_wp2
  rw [← hW0]
  clear hW0
  go_loopw [5, 6] (fun v i wr => ∃ k : Nat, k ≤ ts.length ∧ i = .int .i64 k ∧ Hid (wr.ownsRow (w.heap.size + 1) 27 6 v (dropT (ts.take k) t).length (rows6 (dropT (ts.take k) t))) ∧ Hid (Below w.heap.size w wr) ∧ Hid (wr.cell? ⟨w.heap.size, 0, none⟩ = some (.string t.a) ∧ wr.cell? ⟨w.heap.size, 1, none⟩ = some (.string t.b) ∧ wr.cell? ⟨w.heap.size, 2, none⟩ = some (.string t.r) ∧ wr.cell? ⟨w.heap.size, 3, none⟩ = some (.string t.c) ∧ wr.cell? ⟨w.heap.size, 4, none⟩ = some (.string t.d) ∧ wr.cell? ⟨w.heap.size, 5, none⟩ = some (.string t.s) ∧ w.heap.size < wr.heap.size)) (fun _ i _ => ts.length - (intOf i).toNat)
  case atStart => exact ⟨0, Nat.zero_le _, rfl, HLIT, HB0.out.trans (HB1.out.mono HB0.out.size), ⟨mK HB1.out HX0.out.2.2.2.2.2.2 HX0.out.1, mK HB1.out HX0.out.2.2.2.2.2.2 HX0.out.2.1, mK HB1.out HX0.out.2.2.2.2.2.2 HX0.out.2.2.1, mK HB1.out HX0.out.2.2.2.2.2.2 HX0.out.2.2.2.1, mK HB1.out HX0.out.2.2.2.2.2.2 HX0.out.2.2.2.2.1, mK HB1.out HX0.out.2.2.2.2.2.2 HX0.out.2.2.2.2.2.1, Nat.lt_of_lt_of_le HX0.out.2.2.2.2.2.2 HB1.out.size⟩⟩
  case round =>
    clear HLIT HB1
    obtain ⟨k, hk, rfl, HOW, HBW, HXB⟩ := hrel
    by_cases hlt : k < ts.length
    · rcases HS.out.below HBW.out with hnil | ⟨b, off, rfl, hb, hr⟩
      · rw [hnil] at hlt; simp at hlt
      obtain ⟨t0, t1, t2, t3, t4, t5⟩ := hr k hlt
      obtain ⟨x0, x1, x2, x3, x4, x5, xl⟩ := HXB.out
      have hk1 : (0 : Int) ≤ (k : Int) := by omega
      have hk2 : (k : Int) < (ts.length : Int) := by omega
      have hdl := dropT_len ts t k
      have HDT := dropT_take (t := t) hlt
      clear hr
      cases hq : tpEq ts[k] t with
      | true =>
        have heq := tp_neq ts[k] t (v := false) (by rw [hq]; rfl)
        have HE : Hid (dropT (ts.take (k + 1)) t = dropT (ts.take k) t) := by show _ = _; rw [HDT, hq]; simp
        clear hq HDT
        go_wp2_with fail
        go_region_held3 (fun w' => w'.cell? ⟨b, off + k * 6, none⟩ = some (.string ts[k].a) ∧ w'.cell? ⟨b, off + k * 6 + 1, none⟩ = some (.string ts[k].b) ∧ w'.cell? ⟨b, off + k * 6 + 2, none⟩ = some (.string ts[k].r) ∧ w'.cell? ⟨b, off + k * 6 + 3, none⟩ = some (.string ts[k].c) ∧ w'.cell? ⟨b, off + k * 6 + 4, none⟩ = some (.string ts[k].d) ∧ w'.cell? ⟨b, off + k * 6 + 5, none⟩ = some (.string ts[k].s) ∧ w'.cell? ⟨w.heap.size, 0, none⟩ = some (.string t.a) ∧ w'.cell? ⟨w.heap.size, 1, none⟩ = some (.string t.b) ∧ w'.cell? ⟨w.heap.size, 2, none⟩ = some (.string t.r) ∧ w'.cell? ⟨w.heap.size, 3, none⟩ = some (.string t.c) ∧ w'.cell? ⟨w.heap.size, 4, none⟩ = some (.string t.d) ∧ w'.cell? ⟨w.heap.size, 5, none⟩ = some (.string t.s) ∧ Below wr.heap.size wr w') (first | assumption | exact ⟨t0, t1, t2, t3, t4, t5, x0, x1, x2, x3, x4, x5, (Below.refl _ _).drew⟩) (fail)
        clear t0 t1 t2 t3 t4 t5 heq
        have HO2 : Hid (wr.drew.ownsRow (w.heap.size + 1) 27 6 u5 (dropT (ts.take (k + 1)) t).length (rows6 (dropT (ts.take (k + 1)) t))) := by
          show World.ownsRow _ _ _ _ _ _ _
          rw [HE.out]; exact HOW.out.drew
        have HB2 : Hid (Below w.heap.size w wr.drew) := HBW.out.drew
        have HX2 : Hid (wr.drew.cell? ⟨w.heap.size, 0, none⟩ = some (.string t.a) ∧ wr.drew.cell? ⟨w.heap.size, 1, none⟩ = some (.string t.b) ∧ wr.drew.cell? ⟨w.heap.size, 2, none⟩ = some (.string t.r) ∧ wr.drew.cell? ⟨w.heap.size, 3, none⟩ = some (.string t.c) ∧ wr.drew.cell? ⟨w.heap.size, 4, none⟩ = some (.string t.d) ∧ wr.drew.cell? ⟨w.heap.size, 5, none⟩ = some (.string t.s) ∧ w.heap.size < wr.drew.heap.size) := HXB.out
        rename_i hH
        clear hH x0 x1 x2 x3 x4 x5
        go_wp2
        go_roundw
        case rel => exact ⟨k + 1, by omega, by go_num, HO2, HB2, HX2⟩
        case measure => first | (simp [intOf]; done) | (simp [intOf]; omega)
      | false =>
        have heq := tp_neq ts[k] t (v := true) (by rw [hq]; rfl)
        have HE : Hid (dropT (ts.take (k + 1)) t = dropT (ts.take k) t ++ [ts[k]]) := by show _ = _; rw [HDT, hq]; simp
        clear hq HDT
        go_wp2_with fail
        go_region_held3 (fun w' => w'.cell? ⟨b, off + k * 6, none⟩ = some (.string ts[k].a) ∧ w'.cell? ⟨b, off + k * 6 + 1, none⟩ = some (.string ts[k].b) ∧ w'.cell? ⟨b, off + k * 6 + 2, none⟩ = some (.string ts[k].r) ∧ w'.cell? ⟨b, off + k * 6 + 3, none⟩ = some (.string ts[k].c) ∧ w'.cell? ⟨b, off + k * 6 + 4, none⟩ = some (.string ts[k].d) ∧ w'.cell? ⟨b, off + k * 6 + 5, none⟩ = some (.string ts[k].s) ∧ w'.cell? ⟨w.heap.size, 0, none⟩ = some (.string t.a) ∧ w'.cell? ⟨w.heap.size, 1, none⟩ = some (.string t.b) ∧ w'.cell? ⟨w.heap.size, 2, none⟩ = some (.string t.r) ∧ w'.cell? ⟨w.heap.size, 3, none⟩ = some (.string t.c) ∧ w'.cell? ⟨w.heap.size, 4, none⟩ = some (.string t.d) ∧ w'.cell? ⟨w.heap.size, 5, none⟩ = some (.string t.s) ∧ Below wr.heap.size wr w') (first | assumption | exact ⟨t0, t1, t2, t3, t4, t5, x0, x1, x2, x3, x4, x5, (Below.refl _ _).drew⟩) (fail)
        clear heq x0 x1 x2 x3 x4 x5
        rename_i hH
        clear hH
        obtain ⟨wd, hwd⟩ : ∃ wd, wd = wr.drew := ⟨_, rfl⟩
        have HOD : Hid (wd.ownsRow (w.heap.size + 1) 27 6 u5 (dropT (ts.take k) t).length (rows6 (dropT (ts.take k) t))) := by rw [hwd]; exact HOW.out.drew
        have HBD : Hid (Below w.heap.size w wd) := by rw [hwd]; exact HBW.out.drew
        have HXD : Hid (wd.cell? ⟨w.heap.size, 0, none⟩ = some (.string t.a) ∧ wd.cell? ⟨w.heap.size, 1, none⟩ = some (.string t.b) ∧ wd.cell? ⟨w.heap.size, 2, none⟩ = some (.string t.r) ∧ wd.cell? ⟨w.heap.size, 3, none⟩ = some (.string t.c) ∧ wd.cell? ⟨w.heap.size, 4, none⟩ = some (.string t.d) ∧ wd.cell? ⟨w.heap.size, 5, none⟩ = some (.string t.s) ∧ w.heap.size < wd.heap.size) := by rw [hwd]; exact HXB.out
        have HTD : Hid (wd.cell? ⟨b, off + k * 6, none⟩ = some (.string ts[k].a) ∧ wd.cell? ⟨b, off + k * 6 + 1, none⟩ = some (.string ts[k].b) ∧ wd.cell? ⟨b, off + k * 6 + 2, none⟩ = some (.string ts[k].r) ∧ wd.cell? ⟨b, off + k * 6 + 3, none⟩ = some (.string ts[k].c) ∧ wd.cell? ⟨b, off + k * 6 + 4, none⟩ = some (.string ts[k].d) ∧ wd.cell? ⟨b, off + k * 6 + 5, none⟩ = some (.string ts[k].s)) := by rw [hwd]; exact ⟨t0, t1, t2, t3, t4, t5⟩
        rw [← hwd]
        clear hwd t0 t1 t2 t3 t4 t5
        obtain ⟨t0, t1, t2, t3, t4, t5⟩ := HTD.out
        obtain ⟨W6, hW6⟩ : ∃ W6, W6 = wd.alloc (.cells #[.string ts[k].a, .string ts[k].b, .string ts[k].r, .string ts[k].c, .string ts[k].d, .string ts[k].s] 27) := ⟨_, rfl⟩
        have HO6 : Hid (W6.ownsRow (w.heap.size + 1) 27 6 u5 (dropT (ts.take k) t).length (rows6 (dropT (ts.take k) t))) := by rw [hW6]; exact HOD.out.alloc _
        have HNW : Hid (∀ j u, ts[k].row[j]? = some u → W6.cell? ((⟨wd.heap.size, 0, none⟩ : Addr).add j) = some u) := by rw [hW6]; exact row6_news wd ts[k]
        have HB6 : Hid (Below wd.heap.size wd W6) := by rw [hW6]; exact (Below.refl _ _).alloc (Nat.le_refl _) _
        have HBD6 : Hid (Below w.heap.size w W6) := HBD.out.trans (HB6.out.mono HBD.out.size)
        go_wp2_with (at_builtin; rw [← hW6]; clear hW6; refine wpList_append_own_at _ rfl _ _ 35 rfl (w.heap.size + 1) 27 iT (.agg #[.string ⟨#[]⟩, .string ⟨#[]⟩, .string ⟨#[]⟩, .string ⟨#[]⟩, .string ⟨#[]⟩, .string ⟨#[]⟩]) 6 96 Try.underlying35 HIT.out.1 HIT.out.2.1 HIT.out.2.2.1 HIT.out.2.2.2 rfl (by decide) u5 _ (rows6 (dropT (ts.take k) t)) rfl HO6.out ⟨wd.heap.size, 0, none⟩ 1 1 ts[k].row rfl rfl HNW.out (row6_one _) (by unfold maxLen; omega) (by omega) (Nat.le_trans (Nat.succ_le_of_lt HXD.out.2.2.2.2.2.2) HB6.out.size) ?_)
        intro v7 w7 hown7 hgr7 _ _
        have hne : some w.heap.size ≠ u5.ownBlock := fun e => by have := (HOD.out.lt w.heap.size e.symm).1; omega
        have HB7 : Hid (Below w.heap.size w w7) := HBD6.out.grown hgr7 HBD6.out.size (fun g hg => by have := (HOD.out.lt g hg).1; omega)
        have HO7 : Hid (w7.ownsRow (w.heap.size + 1) 27 6 v7 (dropT (ts.take (k + 1)) t).length (rows6 (dropT (ts.take (k + 1)) t))) := by
          show World.ownsRow _ _ _ _ _ _ _
          rw [HE.out, rows6_snoc, List.length_append]; exact hown7
        have HX7 : Hid (w7.cell? ⟨w.heap.size, 0, none⟩ = some (.string t.a) ∧ w7.cell? ⟨w.heap.size, 1, none⟩ = some (.string t.b) ∧ w7.cell? ⟨w.heap.size, 2, none⟩ = some (.string t.r) ∧ w7.cell? ⟨w.heap.size, 3, none⟩ = some (.string t.c) ∧ w7.cell? ⟨w.heap.size, 4, none⟩ = some (.string t.d) ∧ w7.cell? ⟨w.heap.size, 5, none⟩ = some (.string t.s) ∧ w.heap.size < w7.heap.size) := ⟨hgr7.cell (mK HB6.out HXD.out.2.2.2.2.2.2 HXD.out.1) hne, hgr7.cell (mK HB6.out HXD.out.2.2.2.2.2.2 HXD.out.2.1) hne, hgr7.cell (mK HB6.out HXD.out.2.2.2.2.2.2 HXD.out.2.2.1) hne, hgr7.cell (mK HB6.out HXD.out.2.2.2.2.2.2 HXD.out.2.2.2.1) hne, hgr7.cell (mK HB6.out HXD.out.2.2.2.2.2.2 HXD.out.2.2.2.2.1) hne, hgr7.cell (mK HB6.out HXD.out.2.2.2.2.2.2 HXD.out.2.2.2.2.2.1) hne, Nat.lt_of_lt_of_le HXD.out.2.2.2.2.2.2 (Nat.le_trans HB6.out.size hgr7.size)⟩
        clear hown7 hgr7 t0 t1 t2 t3 t4 t5
        go_wp2
        go_roundw
        case rel => exact ⟨k + 1, by omega, by go_num, HO7, HB7, HX7⟩
        case measure => first | (simp [intOf]; done) | (simp [intOf]; omega)
    · obtain rfl : k = ts.length := by omega
      have HE : Hid (ts.take ts.length = ts) := by show _ = _; rw [List.take_length]
      have hown := HOW.out
      rw [HE.out] at hown
      obtain ⟨ad', cap', hv, hsl, -⟩ := ownsT hown rfl
      subst hv
      have HSL : Hid (Sl wr ad' (dropT ts t)) := hsl
      clear hown hsl
      go_wp2
      go_ret
      exact ⟨ad', cap', rfl, HSL.out, HBW.out⟩
end Go.Proofs.Ytgifbgcnlijjiaa
