/- Lists of tuples in memory of their own; two lists of tuples that are the same are told so. -/
import Derived.Test.YtpnjoniolfmbnaaGreatDoorJ14
import Derived.Test.YtpnjoniolfmbnaaGreatDoorMarkTup
import Derived.Test.YtpnjoniolfmbnaaGreatDoorJ6
import Derived.Test.YtpnjoniolfmbnaaGreatDoorJ24
import Derived.Test.YtpnjoniolfmbnaaGreatDoorChanged
namespace Go.Proofs.YtpnjoniolfmbnaaGreatDoor
set_option maxRecDepth 100000
open Go.ChangeShapes Go.WideShapes Go.ChangeAt Go.RowKit
open Pl
/-- a list in memory of its own -/
def OwnL (B : Nat) (w : World) (ad : Option Addr) (L : List Tp) : Prop := Sl w ad L ∧ (L ≠ [] → ∃ g, ad = some ⟨g, 0, none⟩ ∧ B ≤ g ∧ Free w g)
theorem ownL_nil {B : Nat} {w : World} {ad : Option Addr} {L : List Tp} (h : L = []) : OwnL B w ad L := ⟨.inl h, fun k => absurd h k⟩
theorem OwnL.mono {B B' : Nat} {w : World} {ad : Option Addr} {L : List Tp} (h : OwnL B w ad L) (hB : B' ≤ B) : OwnL B' w ad L := ⟨h.1, fun k => by obtain ⟨g, e, h1, h2⟩ := h.2 k; exact ⟨g, e, Nat.le_trans hB h1, h2⟩⟩
theorem eqTupleS_none (ad ad' : Option Addr) (cap cap' : Nat) (w : World) :
    Calls Tryz.prog 18 #[.slice ad 0 cap, .slice ad' 0 cap'] w fun e w' => e = .returned (.bool true) ∧ Below w.heap.size w w' := by
  go_enter Tryz.func18, Tryz.ntmps18
  go_wp2
  refine wp_loop_rounds 1 ?_
  rw [rounds_succ]
  go_wp2
  go_ret
  exact ⟨rfl, Below.refl _ _⟩
theorem eqTupleS_any (ad ad' : Option Addr) (cap cap' : Nat) (ts : List Tp) (w : World) (hlen : ts.length ≤ maxLen) (hs : Sl w ad ts) (hs' : Sl w ad' ts) :
    Calls Tryz.prog 18 #[.slice ad ts.length cap, .slice ad' ts.length cap'] w fun e w' => e = .returned (.bool true) ∧ Below w.heap.size w w' := by
  by_cases h : ts = []
  · subst h; exact eqTupleS_none ad ad' cap cap' w
  · rcases hs with h1 | ⟨b, off, rfl, hb, hr⟩
    · exact absurd h1 h
    rcases hs' with h1 | ⟨b', off', rfl, hb', hr'⟩
    · exact absurd h1 h
    exact eqTupleS_same b b' off off' cap cap' ts w hlen hr hb hr' hb'
theorem sl_lt {w : World} {ad : Option Addr} {L : List Tp} (h : Sl w ad L) (hne : L ≠ []) {g o : Nat} (e : ad = some ⟨g, o, none⟩) : g < w.heap.size := by
  rcases h with h | ⟨b, off, e2, hb, -⟩
  · exact absurd h hne
  · rw [e] at e2; injection e2 with e2; injection e2 with e2 e3; omega
theorem OwnL.later {B : Nat} {w w' : World} {ad : Option Addr} {L : List Tp} (h : OwnL B w ad L) (hb : Below w.heap.size w w') : OwnL B w' ad L := ⟨h.1.below hb, fun hne => by
  obtain ⟨g, e, h1, h2⟩ := h.2 hne
  exact ⟨g, e, h1, fun j => mF hb (sl_lt h.1 hne e) (h2 j)⟩⟩
theorem OwnL.chg {B : Nat} {S : Nat → Prop} {w w' : World} {ad : Option Addr} {L : List Tp} (h : OwnL B w ad L) (hc : Chg S w w') (hn : ∀ g, B ≤ g → ¬ S g) : OwnL B w' ad L := ⟨h.1.chg hc (fun g o hne e => by
    obtain ⟨g', e', h1, -⟩ := h.2 hne
    rw [e] at e'; injection e' with e'; injection e' with e' e3
    exact hn g (by omega)), fun hne => by
  obtain ⟨g, e, h1, h2⟩ := h.2 hne
  exact ⟨g, e, h1, hc.free g (sl_lt h.1 hne e) h2⟩⟩
theorem Six.chg {S : Nat → Prop} {w w' : World} {g : Nat} {t : Tp} (h : Six w g t) (hc : Chg S w w') (hn : ¬ S g) : Six w' g t := by
  obtain ⟨h0, h1, h2, h3, h4, h5, hl⟩ := h
  exact ⟨by rw [hc.cell hl hn]; exact h0, by rw [hc.cell hl hn]; exact h1, by rw [hc.cell hl hn]; exact h2, by rw [hc.cell hl hn]; exact h3, by rw [hc.cell hl hn]; exact h4, by rw [hc.cell hl hn]; exact h5, Nat.lt_of_lt_of_le hl hc.size⟩
end Go.Proofs.YtpnjoniolfmbnaaGreatDoor

/- What the look of program and document whether a tuple fits says, of right ones; rows that are owned. -/
namespace Go.Proofs.YtpnjoniolfmbnaaGreatDoor
set_option maxRecDepth 100000
open Go.ChangeShapes Go.WideShapes Go.ChangeAt Go.RowKit Go.Maps
open Pl

def noFit (ts : List Ty) (t : Tp) : Bool := !fitsS ts t.a t.b t.r t.c t.d t.s
/-- a row that is owned, as a list of its own -/
theorem ownL_of {w : World} {base n : Nat} {v : Value} {ts : List Tp} (h : w.ownsRow base 29 6 v n (rows6 ts)) (hn : n = ts.length) : ∃ ad cap, v = .slice ad ts.length cap ∧ OwnL base w ad ts := by
  obtain ⟨ad, cap, hv, hsl, hg⟩ := ownsT h hn
  refine ⟨ad, cap, hv, hsl, fun hne => ?_⟩
  rcases h.2 with ⟨rfl, h0⟩ | ⟨g, cap', cur, rfl, hbg, -⟩
  · rw [hn] at h0; exact absurd (List.length_eq_zero_iff.1 h0) hne
  · injection hv with e1 e2 e3
    exact ⟨g, e1.symm, hbg, (hg g e1.symm).2.2⟩

/-- what the program's look says is what the document's says, of right ones -/
theorem fits_both {rs : List TR} {t : Tp} (h : schemaD (tys rs) = true) (ht : t.ok = true) : fitsI (tys rs) t.a t.r ⟨t.c, t.s⟩ = !noFit (tys rs) t := by
  have hSP := schemaD_iff.1 h
  have h1 : fitsI (tys rs) t.a t.r ⟨t.c, t.s⟩ = inPre (allowP (relOr (tys rs) t.a t.r)) (allowP (relOr (tys rs) t.a t.r)).length ⟨t.c, t.s⟩ := fit_same _ (own_rel hSP _ _)
  have h2 : tupB t.a t.b t.r t.c t.d t.s = true := ht
  rw [h1]
  unfold noFit fitsS
  rw [h2]
  simp
end Go.Proofs.YtpnjoniolfmbnaaGreatDoor

/- The program's tuples at a place of a log. -/
namespace Go.Proofs.YtpnjoniolfmbnaaGreatDoor
set_option maxRecDepth 100000
set_option linter.unusedVariables false
open Go.ChangeShapes Go.WideShapes Go.ChangeAt Go.RowKit Go.Maps
open Pl

/-- whether a tuple fits, by the schema's plain types -/
def fitR (rs : List TR) (t : Tp) : Bool := fitsS (tys rs) t.a t.b t.r t.c t.d t.s
theorem fitR_both {rs : List TR} {t : Tp} (h : schemaD (tys rs) = true) (ht : t.ok = true) : fitsI (tys rs) t.a t.r ⟨t.c, t.s⟩ = fitR rs t := by
  rw [fits_both h ht]; unfold noFit fitR; simp
def UPost (w : World) (r : Option (List Tp)) (e : Ending) (w' : World) : Prop :=
  Below w.heap.size w w' ∧ ((r = none ∧ e = .returned (.tuple #[.slice none 0 0, .bool false])) ∨ ∃ L v, r = some L ∧ e = .returned (.tuple #[v, .bool true]) ∧ w'.ownsRow w.heap.size 29 6 v L.length (rows6 L))
theorem ownsSv {w : World} {base : Nat} {v : Value} {ts : List Tp} (h : w.ownsRow base 29 6 v ts.length (rows6 ts)) : ∃ ad cap, v = .slice ad ts.length cap ∧ Sv w ad cap ts := by
  have h' := h
  rcases h.2 with ⟨rfl, h0⟩ | ⟨g, cap, cur, rfl, hb, hg, hc, -⟩
  · exact ⟨none, 0, by rw [h0], .inl ⟨rfl, rfl, List.length_eq_zero_iff.1 h0⟩⟩
  · obtain ⟨hrow, hl, hle⟩ := own_row6 h'
    exact ⟨_, cap, rfl, .inr ⟨g, 0, rfl, hl, hle, hrow⟩⟩

set_option maxHeartbeats 8000000 in
theorem implTuplesAt_any (ad : Option Addr) (cap : Nat) (rs : List TR) (b off cap' : Nat) (cs : List (Int × Tp)) (n : Int) (w : World) (hE : Errs w) (hlen : rs.length ≤ 1048576) (hs : SlT w ad rs) (hl : ∀ r ∈ rs, r.light) (hfr : ∀ r ∈ rs, r.fits) (hcp : ∀ r ∈ rs, r.caps) (hlc : cs.length ≤ 1048576) (hcap : cs.length ≤ cap') (hb : b < w.heap.size) (hr : Row7 w b off cs) (hf : ∀ c ∈ cs, c.2.fits) :
    Calls Tryz.prog 26 #[.slice ad rs.length cap, .slice (some ⟨b, off, none⟩) cs.length cap', .int .i64 n] w (UPost w (atT (fitR rs) (schemaD (tys rs)) cs n)) := by
  have HE := toHA hE
  have HS := toHA hs
  have HL := toHA hl
  have HFR := toHA hfr
  have HCP := toHA hcp
  have HR := toHA hr
  have HF := toHA hf
  clear hE hs hl hfr hcp hr hf
  go_enter Tryz.func26, Tryz.ntmps26
  go_wp2_with fail
  refine (implSchemaOk_any ad cap rs _ hlen HS.out HL.out HFR.out HCP.out).mono ?_
  rintro e w1 ⟨he, hb1⟩
  have HB1 := toHA hb1
  clear hb1
  cases h1 : schemaD (tys rs) with
  | false =>
    rw [h1] at he; subst he
    have HN : Hid (atT (fitR rs) (schemaD (tys rs)) cs n = none) := by show _ = _; rw [h1]; unfold atT; rw [if_neg (by simp)]
    clear h1
    go_wp2
    exact bodyPost_ret (v := .tuple #[.slice none 0 0, .bool false]) (by simp [results, Tryz.results26, go_sem]) rfl ⟨HB1.out, .inl ⟨HN.out, rfl⟩⟩
  | true =>
    rw [h1] at he; subst he
    have H1 := toHA h1
    clear h1
    by_cases h60 : 60 < cs.length
    · have hd : decide ((60 : Int) < (cs.length : Int)) = true := by simp; omega
      have HN : Hid (atT (fitR rs) (schemaD (tys rs)) cs n = none) := by show _ = _; rw [H1.out]; unfold atT; rw [if_neg (by omega)]
      go_wp2
      exact bodyPost_ret (v := .tuple #[.slice none 0 0, .bool false]) (by simp [results, Tryz.results26, go_sem]) rfl ⟨HB1.out, .inl ⟨HN.out, rfl⟩⟩
    have hd : decide ((60 : Int) < (cs.length : Int)) = false := by simp; omega
    by_cases hn0 : n < 0
    · have HN : Hid (atT (fitR rs) (schemaD (tys rs)) cs n = none) := by show _ = _; rw [H1.out]; unfold atT; rw [if_neg (by omega)]
      go_wp2
      exact bodyPost_ret (v := .tuple #[.slice none 0 0, .bool false]) (by simp [results, Tryz.results26, go_sem]) rfl ⟨HB1.out, .inl ⟨HN.out, rfl⟩⟩
    have hd0 : decide (n < 0) = false := by simp; omega
    by_cases hn1 : (cs.length : Int) < n
    · have HN : Hid (atT (fitR rs) (schemaD (tys rs)) cs n = none) := by show _ = _; rw [H1.out]; unfold atT; rw [if_neg (by omega)]
      go_wp2
      exact bodyPost_ret (v := .tuple #[.slice none 0 0, .bool false]) (by simp [results, Tryz.results26, go_sem]) rfl ⟨HB1.out, .inl ⟨HN.out, rfl⟩⟩
    have hd1 : decide ((cs.length : Int) < n) = false := by simp; omega
    obtain ⟨N, rfl⟩ : ∃ N : Nat, n = (N : Int) := ⟨n.toNat, by omega⟩
    have hNc : N ≤ cs.length := by omega
    have HN : Hid (atT (fitR rs) (schemaD (tys rs)) cs N = logT (fitR rs) [] (cs.take N)) := by show _ = _; rw [H1.out]; unfold atT; rw [if_pos (by refine ⟨rfl, ?_, ?_, ?_⟩ <;> omega)]; simp
    have hSP := schemaD_iff.1 H1.out
    obtain ⟨h6, hr6, -⟩ := shape_facts hSP.1
    have HTAB := toHA (tab_of hSP.1)
    have HTBL := toHA (tableOf_any ad cap rs w1 h6 (HS.out.below HB1.out) hr6 HFR.out)
    clear hSP hr6 h6 h60 hn0 hn1
    go_wp2_with fail
    refine HTBL.out.mono ?_
    rintro e w2 ⟨rfl, hV2, hb2⟩
    have HB2 := toHA (HB1.out.trans (hb2.mono HB1.out.size))
    have HV2 := toHA hV2
    obtain ⟨bm, hbm⟩ : ∃ bm, bm = w1.heap.size := ⟨_, rfl⟩
    rw [← hbm] at HV2 ⊢
    clear hb2 hV2 HTBL hbm
    have hNcap : (N : Int) ≤ (cap' : Int) := by omega
    go_wp2
    go_loopw [9, 38] (fun v i wr => ∃ (m : Nat) (ts : List Tp) (adv : Option Addr) (cv : Nat), m ≤ N ∧ i = .int .i64 m ∧ v = .slice adv ts.length cv ∧ Hid (logT (fitR rs) ts ((cs.take N).drop m) = logT (fitR rs) [] (cs.take N)) ∧ Hid (wr.ownsRow w.heap.size 29 6 (.slice adv ts.length cv) ts.length (rows6 ts)) ∧ Hid (Below w.heap.size w wr) ∧ Hid (MapV encK Tryz.prog 149 wr bm 36 (tabM rs)) ∧ Hid (Sv wr adv cv ts) ∧ Hid (Up ts ∧ (∀ x ∈ ts, x.ok = true) ∧ ts.length ≤ 40 ∧ ∀ x ∈ ts, x.fits)) (fun _ i _ => N - (intOf i).toNat)
    case atStart => exact ⟨0, [], none, 0, Nat.zero_le _, rfl, rfl, rfl, World.ownsRow_nil _ _ _ _, HB2, HV2, .inl ⟨rfl, rfl, rfl⟩, List.Pairwise.nil, by simp, by simp, by simp⟩
    case round =>
      clear HB2 HV2 HB1
      obtain ⟨m, ts, adv, cv, hm, rfl, rfl, HLG, HO, HB, HMV, HSV, HU⟩ := hrel
      by_cases hlt : m < N
      · have hd2 : decide ((m : Int) < (N : Int)) = true := by simp; omega
        have hmc : m < cs.length := by omega
        obtain ⟨c0, c1, c2, c3, c4, c5, c6⟩ := HR.out.below HB.out hb m hmc
        have hm0 : (0 : Int) ≤ (m : Int) := by omega
        have hm1 : (m : Int) < (N : Int) := by omega
        have HST := toHA (log_step (fit := fitR rs) (ts := ts) hmc hlt)
        have HCF := toHA (HF.out _ (List.getElem_mem hmc))
        obtain ⟨c, hc⟩ : ∃ c, c = cs[m] := ⟨_, rfl⟩
        rw [← hc] at c0 c1 c2 c3 c4 c5 c6 HST HCF
        obtain ⟨W4, hW4⟩ : ∃ W4, W4 = wr.alloc (.cells #[.int .i64 c.1, .string c.2.a, .string c.2.b, .string c.2.r, .string c.2.c, .string c.2.d, .string c.2.s] 31) := ⟨_, rfl⟩
        have HB4 : Hid (Below wr.heap.size wr W4) := by show Below _ _ _; rw [hW4]; exact (Below.refl _ _).alloc (Nat.le_refl _) _
        have HX4 : Hid (Box7 W4 wr.heap.size c.1 c.2) := by show Box7 _ _ _ _; rw [hW4]; refine ⟨?_, ?_, ?_, ?_, ?_, ?_, ?_, ?_⟩ <;> simp
        have HBW4 : Hid (Below w.heap.size w W4) := HB.out.trans (HB4.out.mono HB.out.size)
        have HCALL := toHA (changed_any (.map (some bm)) (fitR rs) adv cv ts c.1 c.2 W4 (HE.out.below HBW4.out) (fun w5 hok hb5 => by
          have hB5 : Below w.heap.size w w5 := HBW4.out.trans (hb5.mono HBW4.out.size)
          refine (fits_any bm 36 rs ad (tabM rs) c.2.a c.2.b c.2.r c.2.c c.2.d c.2.s w5 ((HMV.out.below HB4.out).below hb5) HTAB.out (HS.out.below hB5) HL.out HCF.out.1 HCF.out.2.2.1).mono ?_
          rintro e w6 ⟨rfl, hb6⟩
          exact ⟨by rw [fitR_both H1.out hok], hb6⟩) HU.out.2.2.1 (HSV.out.below HB4.out) HU.out.2.2.2 HU.out.1 HU.out.2.1 HCF.out)
        clear hc
        go_wp2_with fail
        rw [← hW4]
        clear hW4 c0 c1 c2 c3 c4 c5 c6
        refine HCALL.out.mono ?_
        rintro e w5 ⟨hb5, hor⟩
        have HB5 := toHA (HBW4.out.trans (hb5.mono HBW4.out.size))
        have HMV5 := toHA ((HMV.out.below HB4.out).below hb5)
        rcases hor with ⟨hz, v, rfl, hown⟩ | ⟨hz, g, T, u, v, rfl, -⟩
        · have HR2 := toHA (next_right HU.out.1 HU.out.2.1 HU.out.2.2.1 hz)
          have HF2 := toHA (next_sizes (k := c.1) HU.out.2.2.2 HCF.out)
          have HL2 : Hid (logT (fitR rs) (nextT ts c.1 c.2) ((cs.take N).drop (m + 1)) = logT (fitR rs) [] (cs.take N)) := by show _ = _; rw [← HLG.out, HST.out, if_pos hz]
          have hown2 := own_down hown HBW4.out.size
          obtain ⟨adn, cn, rfl, hsv⟩ := ownsSv hown2
          have HO2 := toHA hown2
          have HSV2 := toHA hsv
          clear hown hown2 hsv hb5 HCALL hz
          go_wp2
          go_roundw
          case rel => exact ⟨m + 1, nextT ts c.1 c.2, adn, cn, by omega, by go_num, rfl, HL2, HO2, HB5, HMV5, HSV2, HR2.out.1, HR2.out.2.1, HR2.out.2.2, HF2.out⟩
          case measure => first | (simp [intOf]; done) | (simp [intOf]; omega)
        · have HN2 : Hid (atT (fitR rs) (schemaD (tys rs)) cs N = none) := by show _ = _; rw [HN.out, ← HLG.out, HST.out, if_neg hz]
          clear hb5 HCALL hz
          go_wp2
          exact bodyPost_ret (v := .tuple #[.slice none 0 0, .bool false]) (by simp [results, Tryz.results26, go_sem]) rfl ⟨HB5.out, .inl ⟨HN2.out, rfl⟩⟩
      · have hd2 : decide ((m : Int) < (N : Int)) = false := by simp; omega
        obtain rfl : m = N := by omega
        have HN2 : Hid (atT (fitR rs) (schemaD (tys rs)) cs m = some ts) := by show _ = _; rw [HN.out, ← HLG.out, List.drop_eq_nil_of_le (by rw [List.length_take]; omega)]; rfl
        go_wp2
        exact bodyPost_ret (v := .tuple #[.slice adv ts.length cv, .bool true]) (by simp [results, Tryz.results26, go_sem]) rfl ⟨HB.out, .inr ⟨ts, _, HN2.out, rfl, HO.out⟩⟩
end Go.Proofs.YtpnjoniolfmbnaaGreatDoor
