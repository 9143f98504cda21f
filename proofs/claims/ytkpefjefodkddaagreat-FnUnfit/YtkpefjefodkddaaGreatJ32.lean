/- Contract of the program's function that tells whether a tuple fits a schema. -/
import Derived.Test.YtkpefjefodkddaaGreatJ30
import Derived.Test.YtkpefjefodkddaaGreatJ23
import Derived.Test.YtkpefjefodkddaaGreatJ31
namespace Go.Proofs.YtkpefjefodkddaaGreat
open Go.ChangeShapes Go.WideShapes Go.ChangeAt Go.RowKit Go.Maps
open Pl
def VV (rs : List TR) (l : List Value) (n : Nat) (v : Value) (w : World) : Prop := (n = 8 → ∃ b, v = .map (some b) ∧ MapV encK Tryz.prog 100 w b 36 (tabM rs)) ∧ (n ≠ 8 → v = l.getD n undef)
theorem VV.same {rs : List TR} {l : List Value} {w : World} : ∀ k u, VV rs l k u w → VV rs l k u w := fun _ _ h => h
theorem VV.later {rs : List TR} {l : List Value} {w w' : World} (hb : Below w.heap.size w w') : ∀ k u, VV rs l k u w → VV rs l k u w' := fun k u h => ⟨fun e => by
 obtain ⟨b, e1, e2⟩ := h.1 e
 exact ⟨b, e1, e2.below hb⟩, h.2⟩
set_option maxRecDepth 100000 in
set_option maxHeartbeats 4000000 in
theorem implFits_any (ad : Option Addr) (cap : Nat) (rs : List TR) (oa ob r c d s : ByteArray) (w : World) (hlen : rs.length ≤ 1048576) (hs : SlT w ad rs) (hl : ∀ r ∈ rs, r.light) (hf : ∀ r ∈ rs, r.fits) (hcp : ∀ r ∈ rs, r.caps) (ha : oa.size ≤ maxLen) (hb : ob.size ≤ maxLen) (hr : r.size ≤ maxLen) (hc : c.size ≤ maxLen) (hd : d.size ≤ maxLen) (hz : s.size ≤ maxLen) :
  Calls Tryz.prog 12 #[.slice ad rs.length cap, .agg #[.string oa, .string ob, .string r, .string c, .string d, .string s]] w fun e w' => e = .returned (.bool (fitsD (tys rs) oa ob r c d s)) ∧ Below w.heap.size w w' := by
 have HS : Hid (SlT w ad rs) := hs
 have HL : Hid (∀ r ∈ rs, r.light) := hl
 have HFT : Hid (∀ r ∈ rs, r.fits) := hf
 have HCP : Hid (∀ r ∈ rs, r.caps) := hcp
 clear hs hl hf hcp
 obtain ⟨W0, hW0⟩ : ∃ W0, W0 = w.alloc (.cells #[.string oa, .string ob, .string r, .string c, .string d, .string s] 36) := ⟨_, rfl⟩
 have hal : Below w.heap.size w W0 := by rw [hW0]; exact (Below.refl _ _).alloc (Nat.le_refl _) _
 have HB0 : Hid (Below w.heap.size w W0) := hal
 have hw0 : w.heap.size < W0.heap.size := by rw [hW0]; simp
 have c0 : W0.cell? ⟨w.heap.size, 0, none⟩ = some (.string oa) := by rw [hW0]; simp
 have c1 : W0.cell? ⟨w.heap.size, 1, none⟩ = some (.string ob) := by rw [hW0]; simp
 have c2 : W0.cell? ⟨w.heap.size, 2, none⟩ = some (.string r) := by rw [hW0]; simp
 have c3 : W0.cell? ⟨w.heap.size, 3, none⟩ = some (.string c) := by rw [hW0]; simp
 have c4 : W0.cell? ⟨w.heap.size, 4, none⟩ = some (.string d) := by rw [hW0]; simp
 have c5 : W0.cell? ⟨w.heap.size, 5, none⟩ = some (.string s) := by rw [hW0]; simp
 clear hal
 go_enter Tryz.func12, Tryz.ntmps12
 go_wp2_with fail
 rw [← hW0]
 clear hW0
 cases hd5 : schemaD (tys rs) with
 | false =>
  have HN : Hid (fitsD (tys rs) oa ob r c d s = false) := by show _ = _; unfold fitsD; rw [hd5]; rfl
  refine wp_region_mid0 12 (fun n => (undef :: undef :: undef :: undef :: undef :: undef :: undef :: undef :: undef :: undef :: undef :: undef :: []).getD n undef) (fun fq => { tmps := List.toArray (Value.slice ad rs.length cap :: Value.agg #[Value.string oa, Value.string ob, Value.string r, Value.string c, Value.string d, Value.string s] :: undef :: Value.pointer (some { block := w.heap.size, off := 0 }) :: Value.bool false :: fq 0 :: fq 1 :: fq 2 :: fq 3 :: fq 4 :: fq 5 :: fq 6 :: fq 7 :: fq 8 :: fq 9 :: fq 10 :: fq 11 :: []), defers := [] }) (fun n v _ => v = (Value.slice ad rs.length cap :: Value.bool false :: Value.bool false :: undef :: undef :: Value.bool false :: Value.bool false :: undef :: undef :: undef :: undef :: Value.bool false :: []).getD n undef) (fun w' => Below W0.heap.size W0 w') (by kernel_rfl) rfl (by kernel_rfl) (by kernel_rfl) rfl (Below.refl _ _).drew ?stepA ?finA
  case stepA =>
   rintro i hi o ho fq w' hG hpre
   have HG : Hid (Below W0.heap.size W0 w') := hG
   replace c0 := kept5 hG hw0 c0
   replace c1 := kept5 hG hw0 c1
   replace c2 := kept5 hG hw0 c2
   replace c3 := kept5 hG hw0 c3
   replace c4 := kept5 hG hw0 c4
   replace c5 := kept5 hG hw0 c5
   have HM : Hid (∀ e ∈ o.after, Region.binds .any e = true → _) := hpre
   clear hG hpre
   have hc : i = 0 ∨ i = 1 ∨ i = 2 ∨ i = 3 ∨ i = 4 ∨ i = 5 ∨ i = 6 ∨ i = 7 ∨ i = 8 ∨ i = 9 ∨ i = 10 ∨ i = 11 := by omega
   clear hi
   rcases hc with rfl | rfl | rfl | rfl | rfl | rfl | rfl | rfl | rfl | rfl | rfl | rfl
   ·obtain rfl := Option.some.inj ho
    refine wpOp_hid rfl fun K HK => ?_
    clear ho HM
    dsimp only
    go_simp
    exact HK.out _ _ ⟨Value.slice ad rs.length cap, by simp [upd], HG.out, rfl, fun k u hu => hu⟩
   ·obtain rfl := Option.some.inj ho
    have e0 : fq 0 = Value.slice ad rs.length cap := HM.out ⟨0, .data⟩ (by simp) rfl
    refine wpOp_hid rfl fun K HK => ?_
    clear ho HM
    simp only [e0]
    go_simp
    refine (implSchemaOk_any ad cap rs _ hlen (HS.out.below (HB0.out.trans (HG.out.mono HB0.out.size))) HL.out HFT.out HCP.out).mono ?_
    rintro e w5 ⟨rfl, hb5⟩
    have HB5 : Hid (Below w'.heap.size w' w5) := hb5
    have HG5 : Hid (Below W0.heap.size W0 w5) := HG.out.trans (hb5.mono HG.out.size)
    rw [hd5]
    clear hb5
    go_wp2_with fail
    exact HK.out _ _ ⟨Value.bool false, by simp [upd, e0], HG5.out, rfl, fun k u hu => hu⟩
   iterate 10
    ·obtain rfl := Option.some.inj ho
     have hm := HM.out
     try simp [Region.binds] at hm
     refine wpOp_hid rfl fun K HK => ?_
     clear ho HM
     try simp only [hm]
     go_simp
     exact HK.out _ _ ⟨_, by simp [upd, *], HG.out, rfl, fun k u hu => hu⟩
  case finA =>
   rintro o ho fq w' hG hall
   have e11 : fq 11 = Value.bool false := hall 11 (by omega)
   have HG : Hid (Below w.heap.size w w') := HB0.out.trans (hG.mono HB0.out.size)
   clear hG hall
   obtain rfl := Option.some.inj ho
   clear ho
   refine wpOp_step rfl (fun K hK => ?_)
   have HK : Hid (∀ a w, _ → K a w) := hK
   clear hK
   simp only [e11]
   go_simp
   refine HK.out _ _ ?_
   clear HK
   go_wp2
   go_ret
   exact ⟨by rw [HN.out]; rfl, HG.out⟩
 | true =>
  have hSP := schemaD_iff.1 hd5
  obtain ⟨h6, hr6, -⟩ := shape_facts hSP.1
  have HR6 : Hid (∀ r ∈ rs, r.rows.length ≤ 6) := hr6
  have HTAB : Hid (Tab rs (tabM rs)) := tab_of hSP.1
  obtain ⟨fi, hfi⟩ : ∃ fi, fi = fitsI (tys rs) oa r ⟨c, s⟩ := ⟨_, rfl⟩
  have HFI : Hid (fi = fitsI (tys rs) oa r ⟨c, s⟩) := hfi
  have HSM : Hid (fi = inPre (allowP (relOr (tys rs) oa r)) (allowP (relOr (tys rs) oa r)).length ⟨c, s⟩) := by show _ = _; rw [hfi]; exact fit_same _ (own_rel hSP _ _)
  have HDT : Hid (schemaD (tys rs) = true) := hd5
  clear hr6 hSP hfi
  cases ht5 : tupB oa ob r c d s with
  | false =>
   have HN : Hid (fitsD (tys rs) oa ob r c d s = false) := by show _ = _; unfold fitsD fitsS; rw [ht5]; simp
   refine wp_region_mid0 12 (fun n => (undef :: undef :: undef :: undef :: undef :: undef :: undef :: undef :: undef :: undef :: undef :: undef :: []).getD n undef) (fun fq => { tmps := List.toArray (Value.slice ad rs.length cap :: Value.agg #[Value.string oa, Value.string ob, Value.string r, Value.string c, Value.string d, Value.string s] :: undef :: Value.pointer (some { block := w.heap.size, off := 0 }) :: Value.bool false :: fq 0 :: fq 1 :: fq 2 :: fq 3 :: fq 4 :: fq 5 :: fq 6 :: fq 7 :: fq 8 :: fq 9 :: fq 10 :: fq 11 :: []), defers := [] }) (fun n v _ => v = (Value.slice ad rs.length cap :: Value.bool true :: Value.bool true :: Value.agg #[.string oa, .string ob, .string r, .string c, .string d, .string s] :: Value.bool false :: Value.bool false :: Value.bool false :: undef :: undef :: undef :: undef :: Value.bool false :: []).getD n undef) (fun w' => Below W0.heap.size W0 w') (by kernel_rfl) rfl (by kernel_rfl) (by kernel_rfl) rfl (Below.refl _ _).drew ?stepB ?finB
   case stepB =>
    rintro i hi o ho fq w' hG hpre
    have HG : Hid (Below W0.heap.size W0 w') := hG
    replace c0 := kept5 hG hw0 c0
    replace c1 := kept5 hG hw0 c1
    replace c2 := kept5 hG hw0 c2
    replace c3 := kept5 hG hw0 c3
    replace c4 := kept5 hG hw0 c4
    replace c5 := kept5 hG hw0 c5
    have HM : Hid (∀ e ∈ o.after, Region.binds .any e = true → _) := hpre
    clear hG hpre
    have hc : i = 0 ∨ i = 1 ∨ i = 2 ∨ i = 3 ∨ i = 4 ∨ i = 5 ∨ i = 6 ∨ i = 7 ∨ i = 8 ∨ i = 9 ∨ i = 10 ∨ i = 11 := by omega
    clear hi
    rcases hc with rfl | rfl | rfl | rfl | rfl | rfl | rfl | rfl | rfl | rfl | rfl | rfl
    ·obtain rfl := Option.some.inj ho
     refine wpOp_hid rfl fun K HK => ?_
     clear ho HM
     dsimp only
     go_simp
     exact HK.out _ _ ⟨Value.slice ad rs.length cap, by simp [upd], HG.out, rfl, fun k u hu => hu⟩
    ·obtain rfl := Option.some.inj ho
     have e0 : fq 0 = Value.slice ad rs.length cap := HM.out ⟨0, .data⟩ (by simp) rfl
     refine wpOp_hid rfl fun K HK => ?_
     clear ho HM
     simp only [e0]
     go_simp
     refine (implSchemaOk_any ad cap rs _ hlen (HS.out.below (HB0.out.trans (HG.out.mono HB0.out.size))) HL.out HFT.out HCP.out).mono ?_
     rintro e w5 ⟨rfl, hb5⟩
     have HB5 : Hid (Below w'.heap.size w' w5) := hb5
     have HG5 : Hid (Below W0.heap.size W0 w5) := HG.out.trans (hb5.mono HG.out.size)
     rw [hd5]
     clear hb5
     go_wp2_with fail
     exact HK.out _ _ ⟨Value.bool true, by simp [upd, e0], HG5.out, rfl, fun k u hu => hu⟩
    iterate 2
     ·obtain rfl := Option.some.inj ho
      have hm := HM.out
      try simp [Region.binds] at hm
      refine wpOp_hid rfl fun K HK => ?_
      clear ho HM
      try simp only [hm]
      go_simp
      exact HK.out _ _ ⟨_, by simp [upd, *], HG.out, rfl, fun k u hu => hu⟩
    ·obtain rfl := Option.some.inj ho
     have e3 : fq 3 = Value.agg #[.string oa, .string ob, .string r, .string c, .string d, .string s] := HM.out ⟨3, .data⟩ (by simp) rfl
     have e2 : fq 2 = Value.bool true := HM.out ⟨2, .guard⟩ (by simp) rfl
     refine wpOp_hid rfl fun K HK => ?_
     clear ho HM
     simp only [e3, e2]
     go_simp
     refine (implTup_any oa ob r c d s _ ha hb hr hc hd hz).mono ?_
     rintro e w5 ⟨rfl, hb5⟩
     have HB5 : Hid (Below w'.heap.size w' w5) := hb5
     have HG5 : Hid (Below W0.heap.size W0 w5) := HG.out.trans (hb5.mono HG.out.size)
     rw [ht5]
     clear hb5
     go_wp2_with fail
     exact HK.out _ _ ⟨Value.bool false, by simp [upd, e3, e2], HG5.out, rfl, fun k u hu => hu⟩
    iterate 7
     ·obtain rfl := Option.some.inj ho
      have hm := HM.out
      try simp [Region.binds] at hm
      refine wpOp_hid rfl fun K HK => ?_
      clear ho HM
      try simp only [hm]
      go_simp
      exact HK.out _ _ ⟨_, by simp [upd, *], HG.out, rfl, fun k u hu => hu⟩
   case finB =>
    rintro o ho fq w' hG hall
    have e11 : fq 11 = Value.bool false := hall 11 (by omega)
    have HG : Hid (Below w.heap.size w w') := HB0.out.trans (hG.mono HB0.out.size)
    clear hG hall
    obtain rfl := Option.some.inj ho
    clear ho
    refine wpOp_step rfl (fun K hK => ?_)
    have HK : Hid (∀ a w, _ → K a w) := hK
    clear hK
    simp only [e11]
    go_simp
    refine HK.out _ _ ?_
    clear HK
    go_wp2
    go_ret
    exact ⟨by rw [HN.out]; rfl, HG.out⟩
  | true =>
   have HN : Hid (fitsD (tys rs) oa ob r c d s = fi) := by show _ = _; unfold fitsD fitsS; rw [ht5, HDT.out, HSM.out]; simp
   refine wp_region_mid0 12 (fun n => (undef :: undef :: undef :: undef :: undef :: undef :: undef :: undef :: undef :: undef :: undef :: undef :: []).getD n undef) (fun fq => { tmps := List.toArray (Value.slice ad rs.length cap :: Value.agg #[Value.string oa, Value.string ob, Value.string r, Value.string c, Value.string d, Value.string s] :: undef :: Value.pointer (some { block := w.heap.size, off := 0 }) :: Value.bool false :: fq 0 :: fq 1 :: fq 2 :: fq 3 :: fq 4 :: fq 5 :: fq 6 :: fq 7 :: fq 8 :: fq 9 :: fq 10 :: fq 11 :: []), defers := [] }) (VV rs (Value.slice ad rs.length cap :: Value.bool true :: Value.bool true :: Value.agg #[.string oa, .string ob, .string r, .string c, .string d, .string s] :: Value.bool true :: Value.bool true :: Value.bool true :: Value.slice ad rs.length cap :: undef :: Value.agg #[.string oa, .string ob, .string r, .string c, .string d, .string s] :: Value.bool fi :: Value.bool fi :: [])) (fun w' => Below W0.heap.size W0 w') (by kernel_rfl) rfl (by kernel_rfl) (by kernel_rfl) rfl (Below.refl _ _).drew ?stepC ?finC
   case stepC =>
    rintro i hi o ho fq w' hG hpre
    have HG : Hid (Below W0.heap.size W0 w') := hG
    replace c0 := kept5 hG hw0 c0
    replace c1 := kept5 hG hw0 c1
    replace c2 := kept5 hG hw0 c2
    replace c3 := kept5 hG hw0 c3
    replace c4 := kept5 hG hw0 c4
    replace c5 := kept5 hG hw0 c5
    have HM : Hid (∀ e ∈ o.after, Region.binds .any e = true → _) := hpre
    clear hG hpre
    have hc : i = 0 ∨ i = 1 ∨ i = 2 ∨ i = 3 ∨ i = 4 ∨ i = 5 ∨ i = 6 ∨ i = 7 ∨ i = 8 ∨ i = 9 ∨ i = 10 ∨ i = 11 := by omega
    clear hi
    rcases hc with rfl | rfl | rfl | rfl | rfl | rfl | rfl | rfl | rfl | rfl | rfl | rfl
    ·obtain rfl := Option.some.inj ho
     refine wpOp_hid rfl fun K HK => ?_
     clear ho HM
     dsimp only
     go_simp
     exact HK.out _ _ ⟨Value.slice ad rs.length cap, by simp [upd], HG.out, ⟨fun h => absurd h (by decide), fun _ => rfl⟩, VV.same⟩
    ·obtain rfl := Option.some.inj ho
     have e0 : fq 0 = Value.slice ad rs.length cap := (HM.out ⟨0, .data⟩ (by simp) rfl).2 (by decide)
     refine wpOp_hid rfl fun K HK => ?_
     clear ho HM
     simp only [e0]
     go_simp
     refine (implSchemaOk_any ad cap rs _ hlen (HS.out.below (HB0.out.trans (HG.out.mono HB0.out.size))) HL.out HFT.out HCP.out).mono ?_
     rintro e w5 ⟨rfl, hb5⟩
     have HB5 : Hid (Below w'.heap.size w' w5) := hb5
     have HG5 : Hid (Below W0.heap.size W0 w5) := HG.out.trans (hb5.mono HG.out.size)
     rw [hd5]
     clear hb5
     go_wp2_with fail
     exact HK.out _ _ ⟨Value.bool true, by simp [upd, e0], HG5.out, ⟨fun h => absurd h (by decide), fun _ => rfl⟩, VV.later HB5.out⟩
    ·obtain rfl := Option.some.inj ho
     have e1 : fq 1 = Value.bool true := (HM.out ⟨1, .data⟩ (by simp) rfl).2 (by decide)
     refine wpOp_hid rfl fun K HK => ?_
     clear ho HM
     simp only [e1]
     go_simp
     exact HK.out _ _ ⟨Value.bool true, by simp [upd, e1], HG.out, ⟨fun h => absurd h (by decide), fun _ => rfl⟩, VV.same⟩
    ·obtain rfl := Option.some.inj ho
     have e2 : fq 2 = Value.bool true := (HM.out ⟨2, .guard⟩ (by simp) rfl).2 (by decide)
     refine wpOp_hid rfl fun K HK => ?_
     clear ho HM
     simp only [e2]
     go_simp
     exact HK.out _ _ ⟨Value.agg #[.string oa, .string ob, .string r, .string c, .string d, .string s], by simp [upd, e2], HG.out, ⟨fun h => absurd h (by decide), fun _ => rfl⟩, VV.same⟩
    ·obtain rfl := Option.some.inj ho
     have e3 : fq 3 = Value.agg #[.string oa, .string ob, .string r, .string c, .string d, .string s] := (HM.out ⟨3, .data⟩ (by simp) rfl).2 (by decide)
     have e2 : fq 2 = Value.bool true := (HM.out ⟨2, .guard⟩ (by simp) rfl).2 (by decide)
     refine wpOp_hid rfl fun K HK => ?_
     clear ho HM
     simp only [e3, e2]
     go_simp
     refine (implTup_any oa ob r c d s _ ha hb hr hc hd hz).mono ?_
     rintro e w5 ⟨rfl, hb5⟩
     have HB5 : Hid (Below w'.heap.size w' w5) := hb5
     have HG5 : Hid (Below W0.heap.size W0 w5) := HG.out.trans (hb5.mono HG.out.size)
     rw [ht5]
     clear hb5
     go_wp2_with fail
     exact HK.out _ _ ⟨Value.bool true, by simp [upd, e3, e2], HG5.out, ⟨fun h => absurd h (by decide), fun _ => rfl⟩, VV.later HB5.out⟩
    ·obtain rfl := Option.some.inj ho
     have e2 : fq 2 = Value.bool true := (HM.out ⟨2, .data⟩ (by simp) rfl).2 (by decide)
     have e4 : fq 4 = Value.bool true := (HM.out ⟨4, .data⟩ (by simp) rfl).2 (by decide)
     refine wpOp_hid rfl fun K HK => ?_
     clear ho HM
     simp only [e2, e4]
     go_simp
     exact HK.out _ _ ⟨Value.bool true, by simp [upd, e2, e4], HG.out, ⟨fun h => absurd h (by decide), fun _ => rfl⟩, VV.same⟩
    ·obtain rfl := Option.some.inj ho
     have e5 : fq 5 = Value.bool true := (HM.out ⟨5, .data⟩ (by simp) rfl).2 (by decide)
     refine wpOp_hid rfl fun K HK => ?_
     clear ho HM
     simp only [e5]
     go_simp
     exact HK.out _ _ ⟨Value.bool true, by simp [upd, e5], HG.out, ⟨fun h => absurd h (by decide), fun _ => rfl⟩, VV.same⟩
    ·obtain rfl := Option.some.inj ho
     have e6 : fq 6 = Value.bool true := (HM.out ⟨6, .guard⟩ (by simp) rfl).2 (by decide)
     refine wpOp_hid rfl fun K HK => ?_
     clear ho HM
     simp only [e6]
     go_simp
     exact HK.out _ _ ⟨Value.slice ad rs.length cap, by simp [upd, e6], HG.out, ⟨fun h => absurd h (by decide), fun _ => rfl⟩, VV.same⟩
    ·obtain rfl := Option.some.inj ho
     have e7 : fq 7 = Value.slice ad rs.length cap := (HM.out ⟨7, .data⟩ (by simp) rfl).2 (by decide)
     have e6 : fq 6 = Value.bool true := (HM.out ⟨6, .guard⟩ (by simp) rfl).2 (by decide)
     refine wpOp_hid rfl fun K HK => ?_
     clear ho HM
     simp only [e7, e6]
     go_simp
     refine (tableOf_any ad cap rs _ h6 (HS.out.below (HB0.out.trans (HG.out.mono HB0.out.size))) HR6.out HFT.out).mono ?_
     rintro e w5 ⟨rfl, hmv5, hb5⟩
     have HB5 : Hid (Below w'.heap.size w' w5) := hb5
     have HG5 : Hid (Below W0.heap.size W0 w5) := HG.out.trans (hb5.mono HG.out.size)
     have HMV5 : Hid (MapV encK Tryz.prog 100 w5 w'.heap.size 36 (tabM rs)) := hmv5
     clear hmv5
     clear hb5
     go_wp2_with fail
     exact HK.out _ _ ⟨Value.map (some w'.heap.size), by simp [upd, e7, e6], HG5.out, ⟨fun _ => ⟨_, rfl, HMV5.out⟩, fun h => absurd rfl h⟩, VV.later HB5.out⟩
    ·obtain rfl := Option.some.inj ho
     have e6 : fq 6 = Value.bool true := (HM.out ⟨6, .guard⟩ (by simp) rfl).2 (by decide)
     refine wpOp_hid rfl fun K HK => ?_
     clear ho HM
     simp only [e6]
     go_simp
     exact HK.out _ _ ⟨Value.agg #[.string oa, .string ob, .string r, .string c, .string d, .string s], by simp [upd, e6], HG.out, ⟨fun h => absurd h (by decide), fun _ => rfl⟩, VV.same⟩
    ·obtain rfl := Option.some.inj ho
     obtain ⟨bm, e8, hmv⟩ := (HM.out ⟨8, .data⟩ (by simp) rfl).1 rfl
     have e9 : fq 9 = Value.agg #[.string oa, .string ob, .string r, .string c, .string d, .string s] := (HM.out ⟨9, .data⟩ (by simp) rfl).2 (by decide)
     have e6 : fq 6 = Value.bool true := (HM.out ⟨6, .guard⟩ (by simp) rfl).2 (by decide)
     refine wpOp_hid rfl fun K HK => ?_
     clear ho HM
     simp only [e8, e9, e6]
     go_simp
     refine (fits_any bm 36 rs ad (tabM rs) oa ob r c d s _ hmv HTAB.out (HS.out.below (HB0.out.trans (HG.out.mono HB0.out.size))) HL.out ha hr).mono ?_
     rintro e w5 ⟨rfl, hb5⟩
     have HB5 : Hid (Below w'.heap.size w' w5) := hb5
     have HG5 : Hid (Below W0.heap.size W0 w5) := HG.out.trans (hb5.mono HG.out.size)
     rw [← HFI.out]
     clear hb5
     go_wp2_with fail
     exact HK.out _ _ ⟨Value.bool fi, by simp [upd, e8, e9, e6], HG5.out, ⟨fun h => absurd h (by decide), fun _ => rfl⟩, VV.later HB5.out⟩
    ·obtain rfl := Option.some.inj ho
     have e6 : fq 6 = Value.bool true := (HM.out ⟨6, .data⟩ (by simp) rfl).2 (by decide)
     have e10 : fq 10 = Value.bool fi := (HM.out ⟨10, .data⟩ (by simp) rfl).2 (by decide)
     refine wpOp_hid rfl fun K HK => ?_
     clear ho HM
     simp only [e6, e10]
     go_simp
     exact HK.out _ _ ⟨Value.bool fi, by simp [upd, e6, e10], HG.out, ⟨fun h => absurd h (by decide), fun _ => rfl⟩, VV.same⟩
   case finC =>
    rintro o ho fq w' hG hall
    have e11 : fq 11 = Value.bool fi := (hall 11 (by omega)).2 (by decide)
    have HG : Hid (Below w.heap.size w w') := HB0.out.trans (hG.mono HB0.out.size)
    clear hG hall
    obtain rfl := Option.some.inj ho
    clear ho
    refine wpOp_step rfl (fun K hK => ?_)
    have HK : Hid (∀ a w, _ → K a w) := hK
    clear hK
    simp only [e11]
    go_simp
    refine HK.out _ _ ?_
    clear HK
    go_wp2
    go_ret
    exact ⟨by rw [HN.out]; rfl, HG.out⟩
end Go.Proofs.YtkpefjefodkddaaGreat
namespace Go.Proofs.YtkpefjefodkddaaGreat
set_option maxRecDepth 100000
open Go.ChangeShapes Go.WideShapes Go.ChangeAt Go.RowKit Go.Maps
open Pl
set_option maxHeartbeats 2000000 in
theorem sameTuples_any (ad ad' : Option Addr) (cap cap' : Nat) (ts : List Tp) (w : World) (hlen : ts.length ≤ 1048576) (hs : Sl w ad ts) (hs' : Sl w ad' ts) :
  Calls Tryz.prog 8 #[.slice ad ts.length cap, .slice ad' ts.length cap'] w fun e w' => e = .returned (.bool true) ∧ Below w.heap.size w w' := by
 have HS := HID hs
 have HS' := HID hs'
 clear hs hs'
 have hnn : ((ts.length : Int) != (ts.length : Int)) = false := by simp
 go_enter Tryz.func8, Tryz.ntmps8
 go_wp2
 go_loopw [5] (fun i wr => ∃ k : Nat, k ≤ ts.length ∧ i = .int .i64 k ∧ Hid (Below w.heap.size w wr)) (fun i _ => ts.length - (intOf i).toNat)
 case atStart => exact ⟨0, Nat.zero_le _, rfl, Below.refl _ _⟩
 case round =>
  obtain ⟨k, hk, rfl, HB⟩ := hrel
  have hk1 : (0 : Int) ≤ (k : Int) := by omega
  by_cases hlt : k < ts.length
  ·have hk2 : (k : Int) < (ts.length : Int) := by omega
   rcases HS.out.below HB.out with hnil | ⟨b, off, rfl, hb, hr⟩
   ·rw [hnil] at hlt; simp at hlt
   rcases HS'.out.below HB.out with hnil | ⟨b', off', rfl, hb', hr'⟩
   ·rw [hnil] at hlt; simp at hlt
   obtain ⟨t0, t1, t2, t3, t4, t5⟩ := hr k hlt
   obtain ⟨u0, u1, u2, u3, u4, u5⟩ := hr' k hlt
   have heq := tp_neq ts[k] ts[k] (v := false) (by rw [tpEq_iff.2 rfl]; rfl)
   clear hr hr'
   go_wp2_with fail
   go_quiet (fail)
   have HB2 : Hid (Below w.heap.size w (wr.drewN nq)) := ⟨HB.out.os, HB.out.tape, HB.out.output, HB.out.size, HB.out.block⟩
   clear t0 t1 t2 t3 t4 t5 u0 u1 u2 u3 u4 u5 heq
   go_wp2
   go_roundw
   case rel => exact ⟨k + 1, by omega, by go_num, HB2⟩
   case measure => first | (simp [intOf]; done) | (simp [intOf]; omega)
  ·go_wp2
   go_ret
   exact ⟨rfl, HB.out⟩
end Go.Proofs.YtkpefjefodkddaaGreat
