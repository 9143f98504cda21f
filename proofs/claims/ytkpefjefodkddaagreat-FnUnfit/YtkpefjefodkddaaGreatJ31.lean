/- Lists of tuples in memory of their own; two lists of tuples that are the same are told so. -/
import Derived.Test.YtkpefjefodkddaaGreatJ23
import Derived.Test.YtkpefjefodkddaaGreatMarkTup
import Derived.Test.YtkpefjefodkddaaGreatJ21
import Derived.Test.YtkpefjefodkddaaGreatJ30
namespace Go.Proofs.YtkpefjefodkddaaGreat
set_option maxRecDepth 100000
open Go.ChangeShapes Go.WideShapes Go.ChangeAt Go.RowKit
open Pl
def OwnL (B : Nat) (w : World) (ad : Option Addr) (L : List Tp) : Prop := Sl w ad L ∧ (L ≠ [] → ∃ g, ad = some ⟨g, 0, none⟩ ∧ B ≤ g ∧ Free w g)
theorem ownL_nil {B : Nat} {w : World} {ad : Option Addr} {L : List Tp} (h : L = []) : OwnL B w ad L := ⟨.inl h, fun k => absurd h k⟩
theorem OwnL.mono {B B' : Nat} {w : World} {ad : Option Addr} {L : List Tp} (h : OwnL B w ad L) (hB : B' ≤ B) : OwnL B' w ad L := ⟨h.1, fun k => by obtain ⟨g, e, h1, h2⟩ := h.2 k; exact ⟨g, e, Nat.le_trans hB h1, h2⟩⟩
theorem sl_lt {w : World} {ad : Option Addr} {L : List Tp} (h : Sl w ad L) (hne : L ≠ []) {g o : Nat} (e : ad = some ⟨g, o, none⟩) : g < w.heap.size := by
 rcases h with h | ⟨b, off, e2, hb, -⟩
 ·exact absurd h hne
 ·rw [e] at e2; injection e2 with e2; injection e2 with e2 e3; omega
theorem OwnL.later {B : Nat} {w w' : World} {ad : Option Addr} {L : List Tp} (h : OwnL B w ad L) (hb : Below w.heap.size w w') : OwnL B w' ad L := ⟨h.1.below hb, fun hne => by
 obtain ⟨g, e, h1, h2⟩ := h.2 hne
 exact ⟨g, e, h1, fun j => mF hb (sl_lt h.1 hne e) (h2 j)⟩⟩
end Go.Proofs.YtkpefjefodkddaaGreat
namespace Go.Proofs.YtkpefjefodkddaaGreat
set_option maxRecDepth 100000
open Go.ChangeShapes Go.WideShapes Go.ChangeAt Go.RowKit Go.Maps
open Pl
def noFit (ts : List Ty) (t : Tp) : Bool := !fitsS ts t.a t.b t.r t.c t.d t.s
def unfB (ty : List Ty) (ts : List Tp) : Bool := schemaD ty && tupsB ts
def unfL (ty : List Ty) (ts : List Tp) : List Tp := if unfB ty ts then ts.filter (noFit ty) else []
theorem unfL_yes {ty : List Ty} {ts : List Tp} (h : unfB ty ts = true) : unfL ty ts = ts.filter (noFit ty) := by simp [unfL, h]
theorem unfL_no {ty : List Ty} {ts : List Tp} (h : unfB ty ts = false) : unfL ty ts = [] := by simp [unfL, h]
theorem filter_take {p : Tp → Bool} {ts : List Tp} {k : Nat} (h : k < ts.length) : (ts.take (k + 1)).filter p = (ts.take k).filter p ++ (if p ts[k] then [ts[k]] else []) := by
 rw [List.take_succ_eq_append_getElem h, List.filter_append]
 cases e : p ts[k] <;> simp [e]
theorem filter_len (p : Tp → Bool) (ts : List Tp) (k : Nat) : ((ts.take k).filter p).length ≤ k := Nat.le_trans (List.length_filter_le _ _) (by simp; omega)
theorem unfL_len (ty : List Ty) {ts : List Tp} (h : ts.length ≤ 1048576) : (unfL ty ts).length ≤ 1048576 := by
 unfold unfL
 split
 ·exact Nat.le_trans (List.length_filter_le _ _) h
 ·simp
theorem ownsRow_later2 {w w' : World} {base size n : Nat} {e : TypeId} {v : Value} {xs : List Value} (h : w.ownsRow base e size v n xs) (hb : Below w.heap.size w w') : w'.ownsRow base e size v n xs := by
 refine ⟨h.1, ?_⟩
 rcases h.2 with hl | ⟨g, cap, cur, rfl, h1, h2, h3⟩
 ·exact .inl hl
 ·exact .inr ⟨g, cap, cur, rfl, h1, (hb.block g (h.lt g rfl).2).trans h2, h3⟩
theorem mapV_row {K : Type} {enc : K → Value} {P : Program} {kt : TypeId} {w : World} {b n : Nat} {M : K → Option Value} {base size m : Nat} {e : TypeId} {v : Value} {xs : List Value} (h : MapV enc P kt w b n M) (ho : w.ownsRow base e size v m xs) (hv : v.ownBlock = some b) : False := by
 obtain ⟨D, ⟨entries, ix, hb, -⟩, -⟩ := h
 rcases ho.2 with ⟨rfl, -⟩ | ⟨g, cap, cur, rfl, -, hg, -⟩
 ·simp [Value.ownBlock] at hv
 ·have e1 : g = b := by simpa [Value.ownBlock] using hv
  rw [e1, hb] at hg
  cases hg
theorem ownL_of {w : World} {base n : Nat} {v : Value} {ts : List Tp} (h : w.ownsRow base 36 6 v n (rows6 ts)) (hn : n = ts.length) : ∃ ad cap, v = .slice ad ts.length cap ∧ OwnL base w ad ts := by
 obtain ⟨ad, cap, hv, hsl, hg⟩ := ownsT h hn
 refine ⟨ad, cap, hv, hsl, fun hne => ?_⟩
 rcases h.2 with ⟨rfl, h0⟩ | ⟨g, cap', cur, rfl, hbg, -⟩
 ·rw [hn] at h0; exact absurd (List.length_eq_zero_iff.1 h0) hne
 ·injection hv with e1 e2 e3
  exact ⟨g, e1.symm, hbg, (hg g e1.symm).2.2⟩
set_option maxHeartbeats 4000000 in
theorem specUnfit_any (ad ad' : Option Addr) (cap cap' : Nat) (rs : List TR) (ts : List Tp) (w : World) (hlen : rs.length ≤ 1048576) (hs : SlT w ad rs) (hl : ∀ r ∈ rs, r.light) (hfr : ∀ r ∈ rs, r.fits) (hlt : ts.length ≤ 1048576) (hst : Sl w ad' ts) (hft : ∀ x ∈ ts, x.fits) :
  Calls Tryz.prog 9 #[.slice ad rs.length cap, .slice ad' ts.length cap'] w fun e w' => ∃ (ad'' : Option Addr) (cap'' : Nat), e = .returned (.slice ad'' (unfL (tys rs) ts).length cap'') ∧ Sl w' ad'' (unfL (tys rs) ts) ∧ Below w.heap.size w w' := by
 obtain ⟨iT, hiT, zT0, zT1, zT2⟩ := info_parts (P := Tryz.prog) (e := 36) (z := .agg #[.string ⟨#[]⟩, .string ⟨#[]⟩, .string ⟨#[]⟩, .string ⟨#[]⟩, .string ⟨#[]⟩, .string ⟨#[]⟩]) (size := 6) (bytes := 96) (by kernel_rfl)
 have HIT : Hid (Tryz.prog.info? 36 = some iT ∧ iT.zero = some (.agg #[.string ⟨#[]⟩, .string ⟨#[]⟩, .string ⟨#[]⟩, .string ⟨#[]⟩, .string ⟨#[]⟩, .string ⟨#[]⟩]) ∧ iT.size = 6 ∧ iT.bytes = 96) := ⟨hiT, zT0, zT1, zT2⟩
 have HS := HID hs
 have HL := HID hl
 have HFR := HID hfr
 have HST := HID hst
 have HFT := HID hft
 obtain ⟨W0, hW0⟩ : ∃ W0, W0 = w.alloc (.cells #[] 36) := ⟨_, rfl⟩
 have HB0 : Hid (Below w.heap.size w W0) := by show Below _ _ _; rw [hW0]; exact (Below.refl _ _).alloc (Nat.le_refl _) _
 have HLIT : Hid (W0.ownsRow w.heap.size 36 6 (.slice (some ⟨w.heap.size, 0, none⟩) 0 0) 0 (rows6 ((ts.take 0).filter (noFit (tys rs))))) := by
  show World.ownsRow _ _ _ _ _ _ _
  rw [hW0]
  exact World.ownsRow_lit w #[] 0 (Nat.le_refl _) (by unfold maxLen; omega) (by simp)
 have hml : ts.length ≤ maxLen := by unfold maxLen; omega
 clear hs hl hfr hst hft hiT zT0 zT1 zT2
 go_enter Tryz.func9, Tryz.ntmps9
 go_wp2_with fail
 rw [← hW0]; clear hW0
 refine (specSchemaOk_any ad cap rs _ hlen (HS.out.below HB0.out) HL.out HFR.out).mono ?_
 rintro e w1 ⟨he, hb1⟩
 have HB1 : Hid (Below w.heap.size w w1) := HB0.out.trans (hb1.mono HB0.out.size)
 have HO1 := HID (ownsRow_later2 HLIT.out hb1)
 clear hb1 HLIT HB0
 cases h1 : schemaD (tys rs) with
 | false =>
  rw [h1] at he; subst he
  have HN : Hid (unfL (tys rs) ts = []) := unfL_no (by simp [unfB, h1])
  clear h1
  go_wp2
  go_ret
  exact ⟨some ⟨w.heap.size, 0, none⟩, 0, by rw [HN.out]; rfl, .inl HN.out, HB1.out⟩
 | true =>
  rw [h1] at he; subst he
  have H1 := HID h1
  clear h1
  go_wp2_with fail
  refine (specTuplesOk_any ad' cap' ts _ hml (HST.out.below HB1.out) HFT.out).mono ?_
  rintro e w2 ⟨he, hb2⟩
  have HB2 : Hid (Below w.heap.size w w2) := HB1.out.trans (hb2.mono HB1.out.size)
  have HO2 := HID (ownsRow_later2 HO1.out hb2)
  clear hb2 HO1 HB1
  cases h2 : tupsB ts with
  | false =>
   rw [h2] at he; subst he
   have HN : Hid (unfL (tys rs) ts = []) := unfL_no (by simp [unfB, h2])
   clear h2
   go_wp2
   go_ret
   exact ⟨some ⟨w.heap.size, 0, none⟩, 0, by rw [HN.out]; rfl, .inl HN.out, HB2.out⟩
  | true =>
   rw [h2] at he; subst he
   have HN : Hid (unfL (tys rs) ts = ts.filter (noFit (tys rs))) := unfL_yes (by simp [unfB, h2, H1.out])
   clear h2 H1
   go_wp2
   go_loopw [5, 6] (fun v i wr => ∃ k : Nat, k ≤ ts.length ∧ i = .int .i64 k ∧ Hid (wr.ownsRow w.heap.size 36 6 v ((ts.take k).filter (noFit (tys rs))).length (rows6 ((ts.take k).filter (noFit (tys rs))))) ∧ Hid (Below w.heap.size w wr)) (fun _ i _ => ts.length - (intOf i).toNat)
   case atStart => exact ⟨0, Nat.zero_le _, rfl, HO2, HB2⟩
   case round =>
    clear HO2 HB2
    obtain ⟨k, hk, rfl, HOW, HBW⟩ := hrel
    by_cases hlt2 : k < ts.length
    ·rcases HST.out.below HBW.out with hnil | ⟨b, off, rfl, hb, hr⟩
     ·rw [hnil] at hlt2; simp at hlt2
     obtain ⟨t0, t1, t2, t3, t4, t5⟩ := hr k hlt2
     have hk1 : (0 : Int) ≤ (k : Int) := by omega
     have hk2 : (k : Int) < (ts.length : Int) := by omega
     have hdl := filter_len (noFit (tys rs)) ts k
     have HDT := HID (filter_take (p := noFit (tys rs)) hlt2)
     obtain ⟨f0, f1, f2, f3, f4, f5⟩ := HFT.out _ (List.getElem_mem hlt2)
     clear hr
     obtain ⟨x, hx⟩ : ∃ x, x = ts[k] := ⟨_, rfl⟩
     rw [← hx] at t0 t1 t2 t3 t4 t5 f0 f1 f2 f3 f4 f5 HDT
     have HLF := HID (l2Fits_any ad cap rs x.a x.b x.r x.c x.d x.s wr hlen (HS.out.below HBW.out) HL.out f0 f1 f2 f3 f4 f5)
     clear hx
     go_wp2_with fail
     refine HLF.out.mono ?_
     rintro e w3 ⟨he, hb3⟩
     have HB3 : Hid (Below w.heap.size w w3) := HBW.out.trans (hb3.mono HBW.out.size)
     have HO3 := HID (ownsRow_later2 HOW.out hb3)
     replace t0 := mK hb3 hb t0
     replace t1 := mK hb3 hb t1
     replace t2 := mK hb3 hb t2
     replace t3 := mK hb3 hb t3
     replace t4 := mK hb3 hb t4
     replace t5 := mK hb3 hb t5
     clear hb3 HLF HOW HBW
     cases h5 : fitsS (tys rs) x.a x.b x.r x.c x.d x.s with
     | true =>
      rw [h5] at he; subst he
      have HE : Hid ((ts.take (k + 1)).filter (noFit (tys rs)) = (ts.take k).filter (noFit (tys rs))) := by show _ = _; rw [HDT.out]; simp [noFit, h5]
      clear h5
      go_wp2
      go_roundw
      case rel => exact ⟨k + 1, by omega, by go_num, by rw [HE.out]; exact HO3, HB3⟩
      case measure => first | (simp [intOf]; done) | (simp [intOf]; omega)
     | false =>
      rw [h5] at he; subst he
      have HE : Hid ((ts.take (k + 1)).filter (noFit (tys rs)) = (ts.take k).filter (noFit (tys rs)) ++ [x]) := by show _ = _; rw [HDT.out]; simp [noFit, h5]
      clear h5
      obtain ⟨W6, hW6⟩ : ∃ W6, W6 = w3.alloc (.cells #[.string x.a, .string x.b, .string x.r, .string x.c, .string x.d, .string x.s] 36) := ⟨_, rfl⟩
      have HO6 : Hid (W6.ownsRow w.heap.size 36 6 u5 ((ts.take k).filter (noFit (tys rs))).length (rows6 ((ts.take k).filter (noFit (tys rs))))) := by rw [hW6]; exact HO3.out.alloc _
      have HNW : Hid (∀ j u, x.row[j]? = some u → W6.cell? ((⟨w3.heap.size, 0, none⟩ : Addr).add j) = some u) := by rw [hW6]; exact row6_news w3 x
      have HB6 : Hid (Below w3.heap.size w3 W6) := by rw [hW6]; exact (Below.refl _ _).alloc (Nat.le_refl _) _
      have HBD6 : Hid (Below w.heap.size w W6) := HB3.out.trans (HB6.out.mono HB3.out.size)
      go_wp2_with (at_builtin; rw [← hW6]; clear hW6; refine wpList_append_own_at _ rfl _ _ 25 rfl w.heap.size 36 iT (.agg #[.string ⟨#[]⟩, .string ⟨#[]⟩, .string ⟨#[]⟩, .string ⟨#[]⟩, .string ⟨#[]⟩, .string ⟨#[]⟩]) 6 96 Tryz.underlying25 HIT.out.1 HIT.out.2.1 HIT.out.2.2.1 HIT.out.2.2.2 rfl (by decide) u5 _ (rows6 ((ts.take k).filter (noFit (tys rs)))) rfl HO6.out ⟨w3.heap.size, 0, none⟩ 1 1 x.row rfl rfl HNW.out (row6_one _) (by unfold maxLen; omega) (by omega) HBD6.out.size ?_)
      intro v7 w7 hown7 hgr7 _ _
      have HB7 : Hid (Below w.heap.size w w7) := HBD6.out.grown hgr7 HBD6.out.size (fun g hg => (HO3.out.lt g hg).1)
      have HO7 : Hid (w7.ownsRow w.heap.size 36 6 v7 ((ts.take (k + 1)).filter (noFit (tys rs))).length (rows6 ((ts.take (k + 1)).filter (noFit (tys rs))))) := by
       show World.ownsRow _ _ _ _ _ _ _
       rw [HE.out, rows6_snoc, List.length_append]; exact hown7
      clear hown7 hgr7 t0 t1 t2 t3 t4 t5
      go_wp2
      go_roundw
      case rel => exact ⟨k + 1, by omega, by go_num, HO7, HB7⟩
      case measure => first | (simp [intOf]; done) | (simp [intOf]; omega)
    ·obtain rfl : k = ts.length := by omega
     have hown := HOW.out
     rw [List.take_length] at hown
     obtain ⟨ad'', cap'', hv, hsl, -⟩ := ownsT hown rfl
     subst hv
     have HSL := HID hsl
     clear hown hsl
     go_wp2
     go_ret
     exact ⟨ad'', cap'', by rw [HN.out]; rfl, by rw [HN.out]; exact HSL.out, HBW.out⟩
theorem fits_both {rs : List TR} {t : Tp} (h : schemaD (tys rs) = true) (ht : t.ok = true) : fitsI (tys rs) t.a t.r ⟨t.c, t.s⟩ = !noFit (tys rs) t := by
 have hSP := schemaD_iff.1 h
 have h1 : fitsI (tys rs) t.a t.r ⟨t.c, t.s⟩ = inPre (allowP (relOr (tys rs) t.a t.r)) (allowP (relOr (tys rs) t.a t.r)).length ⟨t.c, t.s⟩ := fit_same _ (own_rel hSP _ _)
 have h2 : tupB t.a t.b t.r t.c t.d t.s = true := ht
 rw [h1]
 unfold noFit fitsS
 rw [h2]
 simp
set_option maxHeartbeats 4000000 in
theorem implUnfit_any (ad ad' : Option Addr) (cap cap' : Nat) (rs : List TR) (ts : List Tp) (w : World) (hlen : rs.length ≤ 1048576) (hs : SlT w ad rs) (hl : ∀ r ∈ rs, r.light) (hfr : ∀ r ∈ rs, r.fits) (hcp : ∀ r ∈ rs, r.caps) (hlt : ts.length ≤ 1048576) (hst : Sl w ad' ts) (hft : ∀ x ∈ ts, x.fits) :
  Calls Tryz.prog 7 #[.slice ad rs.length cap, .slice ad' ts.length cap'] w fun e w' => ∃ (ad'' : Option Addr) (cap'' : Nat), e = .returned (.slice ad'' (unfL (tys rs) ts).length cap'') ∧ OwnL w.heap.size w' ad'' (unfL (tys rs) ts) ∧ Below w.heap.size w w' := by
 obtain ⟨iT, hiT, zT0, zT1, zT2⟩ := info_parts (P := Tryz.prog) (e := 36) (z := .agg #[.string ⟨#[]⟩, .string ⟨#[]⟩, .string ⟨#[]⟩, .string ⟨#[]⟩, .string ⟨#[]⟩, .string ⟨#[]⟩]) (size := 6) (bytes := 96) (by kernel_rfl)
 have HIT : Hid (Tryz.prog.info? 36 = some iT ∧ iT.zero = some (.agg #[.string ⟨#[]⟩, .string ⟨#[]⟩, .string ⟨#[]⟩, .string ⟨#[]⟩, .string ⟨#[]⟩, .string ⟨#[]⟩]) ∧ iT.size = 6 ∧ iT.bytes = 96) := ⟨hiT, zT0, zT1, zT2⟩
 have HS := HID hs
 have HL := HID hl
 have HFR := HID hfr
 have HCP := HID hcp
 have HST := HID hst
 have HFT := HID hft
 have hml : ts.length ≤ maxLen := by unfold maxLen; omega
 clear hs hl hfr hst hft hcp hiT zT0 zT1 zT2
 go_enter Tryz.func7, Tryz.ntmps7
 go_wp2_with fail
 refine (implSchemaOk_any ad cap rs _ hlen HS.out HL.out HFR.out HCP.out).mono ?_
 rintro e w1 ⟨he, hb1⟩
 have HB1 := HID hb1
 clear hb1
 cases h1 : schemaD (tys rs) with
 | false =>
  rw [h1] at he; subst he
  have HN : Hid (unfL (tys rs) ts = []) := unfL_no (by simp [unfB, h1])
  clear h1
  go_wp2
  go_ret
  exact ⟨none, 0, by rw [HN.out]; rfl, ownL_nil HN.out, HB1.out⟩
 | true =>
  rw [h1] at he; subst he
  have H1 := HID h1
  clear h1
  go_wp2_with fail
  refine (implTuplesOk_any ad' cap' ts _ hml (HST.out.below HB1.out) HFT.out).mono ?_
  rintro e w2 ⟨he, hb2⟩
  have HB2 : Hid (Below w.heap.size w w2) := HB1.out.trans (hb2.mono HB1.out.size)
  clear hb2 HB1
  cases h2 : tupsB ts with
  | false =>
   rw [h2] at he; subst he
   have HN : Hid (unfL (tys rs) ts = []) := unfL_no (by simp [unfB, h2])
   clear h2
   go_wp2
   go_ret
   exact ⟨none, 0, by rw [HN.out]; rfl, ownL_nil HN.out, HB2.out⟩
  | true =>
   rw [h2] at he; subst he
   have HN : Hid (unfL (tys rs) ts = ts.filter (noFit (tys rs))) := unfL_yes (by simp [unfB, h2, H1.out])
   have HOK := HID (up_of h2).2.1
   have hSP := schemaD_iff.1 H1.out
   obtain ⟨h6, hr6, -⟩ := shape_facts hSP.1
   have HTAB := HID (tab_of hSP.1)
   have HTBL := HID (tableOf_any ad cap rs w2 h6 (HS.out.below HB2.out) hr6 HFR.out)
   clear h2 hSP hr6 h6
   go_wp2_with fail
   refine HTBL.out.mono ?_
   rintro e w3 ⟨rfl, hV3, hb3⟩
   have HB3 : Hid (Below w.heap.size w w3) := HB2.out.trans (hb3.mono HB2.out.size)
   have HV3 := HID hV3
   obtain ⟨bm, hbm⟩ : ∃ bm, bm = w2.heap.size := ⟨_, rfl⟩
   rw [← hbm] at HV3 ⊢
   clear hb3 hV3 HTBL hbm
   go_wp2
   go_loopw [6, 21] (fun v i wr => ∃ k : Nat, k ≤ ts.length ∧ i = .int .i64 k ∧ Hid (wr.ownsRow w.heap.size 36 6 v ((ts.take k).filter (noFit (tys rs))).length (rows6 ((ts.take k).filter (noFit (tys rs))))) ∧ Hid (Below w.heap.size w wr) ∧ Hid (MapV encK Tryz.prog 100 wr bm 36 (tabM rs))) (fun _ i _ => ts.length - (intOf i).toNat)
   case atStart => exact ⟨0, Nat.zero_le _, rfl, World.ownsRow_nil _ _ _ _, HB3, HV3⟩
   case round =>
    clear HB3 HV3 HB2
    obtain ⟨k, hk, rfl, HOW, HBW, HMV⟩ := hrel
    by_cases hlt2 : k < ts.length
    ·rcases HST.out.below HBW.out with hnil | ⟨b, off, rfl, hb, hr⟩
     ·rw [hnil] at hlt2; simp at hlt2
     obtain ⟨t0, t1, t2, t3, t4, t5⟩ := hr k hlt2
     have hk1 : (0 : Int) ≤ (k : Int) := by omega
     have hk2 : (k : Int) < (ts.length : Int) := by omega
     have hdl := filter_len (noFit (tys rs)) ts k
     have HDT := HID (filter_take (p := noFit (tys rs)) hlt2)
     obtain ⟨f0, f1, f2, f3, f4, f5⟩ := HFT.out _ (List.getElem_mem hlt2)
     have HFB := HID (fits_both H1.out (HOK.out _ (List.getElem_mem hlt2)))
     obtain ⟨x, hx⟩ : ∃ x, x = ts[k] := ⟨_, rfl⟩
     rw [← hx] at t0 t1 t2 t3 t4 t5 f0 f1 f2 f3 f4 f5 HDT HFB
     obtain ⟨W4, hW4⟩ : ∃ W4, W4 = wr.alloc (.cells #[.string x.a, .string x.b, .string x.r, .string x.c, .string x.d, .string x.s] 36) := ⟨_, rfl⟩
     have HB4 : Hid (Below wr.heap.size wr W4) := by rw [hW4]; exact (Below.refl _ _).alloc (Nat.le_refl _) _
     have HX4 : Hid (Six W4 wr.heap.size x) := by rw [hW4]; exact six_new wr x _
     have HBW4 : Hid (Below w.heap.size w W4) := HBW.out.trans (HB4.out.mono HBW.out.size)
     have HLF := HID (fits_any bm 36 rs ad (tabM rs) x.a x.b x.r x.c x.d x.s W4 (HMV.out.below HB4.out) HTAB.out (HS.out.below HBW4.out) HL.out f0 f2)
     clear hx hr f0 f1 f2 f3 f4 f5
     go_wp2_with fail
     rw [← hW4]; clear hW4
     refine HLF.out.mono ?_
     rintro e w5 ⟨he, hb5⟩
     rw [HFB.out] at he
     have HB5 : Hid (Below w.heap.size w w5) := HBW4.out.trans (hb5.mono HBW4.out.size)
     have HO5 := HID (ownsRow_later2 (ownsRow_later2 HOW.out HB4.out) hb5)
     have HMV5 := HID ((HMV.out.below HB4.out).below hb5)
     have HX5 := HID (HX4.out.below hb5)
     clear hb5 HLF HOW HBW HMV HX4 HB4 HBW4 t0 t1 t2 t3 t4 t5
     cases h5 : noFit (tys rs) x with
     | false =>
      rw [h5] at he; subst he
      have HE : Hid ((ts.take (k + 1)).filter (noFit (tys rs)) = (ts.take k).filter (noFit (tys rs))) := by show _ = _; rw [HDT.out]; simp [h5]
      clear h5
      go_wp2
      go_roundw
      case rel => exact ⟨k + 1, by omega, by go_num, by rw [HE.out]; exact HO5, HB5, HMV5⟩
      case measure => first | (simp [intOf]; done) | (simp [intOf]; omega)
     | true =>
      rw [h5] at he; subst he
      have HE : Hid ((ts.take (k + 1)).filter (noFit (tys rs)) = (ts.take k).filter (noFit (tys rs)) ++ [x]) := by show _ = _; rw [HDT.out]; simp [h5]
      obtain ⟨t0, t1, t2, t3, t4, t5, tl⟩ := HX5.out
      clear h5
      obtain ⟨W6, hW6⟩ : ∃ W6, W6 = w5.alloc (.cells #[.string x.a, .string x.b, .string x.r, .string x.c, .string x.d, .string x.s] 36) := ⟨_, rfl⟩
      have HO6 : Hid (W6.ownsRow w.heap.size 36 6 u6 ((ts.take k).filter (noFit (tys rs))).length (rows6 ((ts.take k).filter (noFit (tys rs))))) := by rw [hW6]; exact HO5.out.alloc _
      have HNW : Hid (∀ j u, x.row[j]? = some u → W6.cell? ((⟨w5.heap.size, 0, none⟩ : Addr).add j) = some u) := by rw [hW6]; exact row6_news w5 x
      have HB6 : Hid (Below w5.heap.size w5 W6) := by rw [hW6]; exact (Below.refl _ _).alloc (Nat.le_refl _) _
      have HBD6 : Hid (Below w.heap.size w W6) := HB5.out.trans (HB6.out.mono HB5.out.size)
      have HMV6 := HID (HMV5.out.below HB6.out)
      have HBM := HID HMV5.out.lt
      go_wp2_with (at_builtin; rw [← hW6]; clear hW6; refine wpList_append_own_at _ rfl _ _ 25 rfl w.heap.size 36 iT (.agg #[.string ⟨#[]⟩, .string ⟨#[]⟩, .string ⟨#[]⟩, .string ⟨#[]⟩, .string ⟨#[]⟩, .string ⟨#[]⟩]) 6 96 Tryz.underlying25 HIT.out.1 HIT.out.2.1 HIT.out.2.2.1 HIT.out.2.2.2 rfl (by decide) u6 _ (rows6 ((ts.take k).filter (noFit (tys rs)))) rfl HO6.out ⟨w5.heap.size, 0, none⟩ 1 1 x.row rfl rfl HNW.out (row6_one _) (by unfold maxLen; omega) (by omega) HBD6.out.size ?_)
      intro v7 w7 hown7 hgr7 _ _
      have HB7 : Hid (Below w.heap.size w w7) := HBD6.out.grown hgr7 HBD6.out.size (fun g hg => (HO5.out.lt g hg).1)
      have HMV7 := HID (HMV6.out.kept hgr7 (fun e => mapV_row HMV6.out HO6.out e.symm))
      have HO7 : Hid (w7.ownsRow w.heap.size 36 6 v7 ((ts.take (k + 1)).filter (noFit (tys rs))).length (rows6 ((ts.take (k + 1)).filter (noFit (tys rs))))) := by
       show World.ownsRow _ _ _ _ _ _ _
       rw [HE.out, rows6_snoc, List.length_append]; exact hown7
      clear hown7 hgr7 t0 t1 t2 t3 t4 t5 tl
      go_wp2
      go_roundw
      case rel => exact ⟨k + 1, by omega, by go_num, HO7, HB7, HMV7⟩
      case measure => first | (simp [intOf]; done) | (simp [intOf]; omega)
    ·obtain rfl : k = ts.length := by omega
     have hown := HOW.out
     rw [List.take_length] at hown
     obtain ⟨ad'', cap'', hv, hO⟩ := ownL_of hown rfl
     subst hv
     have HO := HID hO
     clear hown hO
     go_wp2
     go_ret
     exact ⟨ad'', cap'', by rw [HN.out]; rfl, by rw [HN.out]; exact HO.out, HBW.out⟩
end Go.Proofs.YtkpefjefodkddaaGreat
