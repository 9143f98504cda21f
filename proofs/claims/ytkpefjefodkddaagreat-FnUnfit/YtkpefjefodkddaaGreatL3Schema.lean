/- Contract of the document's reader of a schema's lines: spec.l3Schema. -/
import Derived.Test.YtkpefjefodkddaaGreatJ11
import Derived.Test.YtkpefjefodkddaaGreatJ16
import Derived.Maps.AppendAt
namespace Go.Proofs.YtkpefjefodkddaaGreat
set_option maxRecDepth 100000
open Go.ChangeShapes Go.WideShapes Go.ChangeAt Go.RowKit Go.Maps
open Pl
theorem HID3 {p : Prop} (h : p) : Hid p := h
def strOf : Value → Nat | .string b => b.size | _ => 0
def LPost3 (s : ByteArray) (w : World) (e : Ending) (w' : World) : Prop :=
 Below w.heap.size w w' ∧ ((linesP (s.size + 1) s [] = none ∧ e = .returned (.tuple #[.slice none 0 0, .bool false])) ∨ ∃ (v : Value) (rs : List TR), linesP (s.size + 1) s [] = some (tys rs) ∧ e = .returned (.tuple #[v, .bool true]) ∧ TypM w' w.heap.size v rs ∧ schTx (tys rs) = s ∧ okT (tys rs))
theorem lines_end {n : Nat} {rest : ByteArray} {acc : List Ty} (hn : rest.size < n) (h : rest.toList.isEmpty = true) : linesP n rest acc = some acc := by
 cases n with
 | zero => omega
 | succ n => simp [linesP, h]
theorem lines_cut {n : Nat} {rest : ByteArray} {acc : List Ty} (hn : rest.size < n) (h : rest.toList.isEmpty = false) (hc : cutF 10 rest = false) : linesP n rest acc = none := by
 cases n with
 | zero => omega
 | succ n => simp [linesP, h, hc]
theorem lines_bad {n : Nat} {rest : ByteArray} {acc : List Ty} (hn : rest.size < n) (h : rest.toList.isEmpty = false) (hc : cutF 10 rest = true) (hl : lineP acc (cutA 10 rest) = none) : linesP n rest acc = none := by
 cases n with
 | zero => omega
 | succ n => simp [linesP, h, hc, hl]
theorem lines_on {n : Nat} {rest : ByteArray} {acc a : List Ty} (hn : rest.size < n) (h : rest.toList.isEmpty = false) (hc : cutF 10 rest = true) (hl : lineP acc (cutA 10 rest) = some a) : linesP n rest acc = linesP (n - 1) (cutZ 10 rest) a ∧ (cutZ 10 rest).size < n - 1 := by
 have := cut_less hc
 cases n with
 | zero => omega
 | succ n => exact ⟨by simp [linesP, h, hc, hl], by simp; omega⟩
theorem empty_is {b : ByteArray} (h : b.toList.isEmpty = true) : b = ⟨#[]⟩ := by
 have h2 : b.toList = [] := by simpa using h
 rw [bytes_list] at h2
 exact ext_data' (by simpa using h2)
theorem tType_list : tType.toList = [116, 121, 112, 101, 32] := by rw [bytes_list]; rfl
theorem tIs_list : tIs.toList = [61, 32] := by rw [bytes_list]; rfl
theorem news2 (w : World) (a b : Value) (t : TypeId) : ∀ j u, [a, b][j]? = some u → (w.alloc (.cells #[a, b] t)).cell? ((⟨w.heap.size, 0, none⟩ : Addr).add j) = some u := by
 intro j u hu
 rw [show (⟨w.heap.size, 0, none⟩ : Addr).add j = ⟨w.heap.size, 0 + j, none⟩ by simp [Addr.add]; omega, Nat.zero_add]
 have := World.cell?_alloc_mark w #[a, b] t (0, 0) j
 rw [this]
 simpa using hu
theorem set_last (xs : List TR) (t t' : TR) (hn : t'.name = t.name) : ((xs ++ [t]).flatMap TR.cells).set (xs.length * 2 + 1) t'.vs = (xs ++ [t']).flatMap TR.cells := by
 have hl : (xs.flatMap TR.cells).length = xs.length * 2 := cells2_len (fun _ => rfl) _
 rw [List.flatMap_append, List.flatMap_append, List.set_append_right _ _ (by omega), hl]
 simp [TR.cells, hn]
theorem one2 (n : ByteArray) (ad : Option Addr) (k c : Nat) : ∀ u ∈ [Value.string n, Value.slice ad k c], u.oneCell' = true := by
 intro u hu
 simp at hu
 rcases hu with rfl | rfl <;> rfl
set_option maxHeartbeats 8000000 in
theorem l3Schema_any (s : ByteArray) (w : World) (hs : s.size ≤ 3000) : Calls Tryz.prog 79 #[.string s] w (LPost3 s w) := by
 obtain ⟨iT0, hiT, zT0, zT1, zT2⟩ := info_parts (P := Tryz.prog) (e := 58) (z := .agg #[.string ⟨#[]⟩, .slice none 0 0]) (size := 2) (bytes := 40) (by kernel_rfl)
 have HIT : Hid (Tryz.prog.info? 58 = some iT0 ∧ iT0.zero = some (.agg #[.string ⟨#[]⟩, .slice none 0 0]) ∧ iT0.size = 2 ∧ iT0.bytes = 40) := ⟨hiT, zT0, zT1, zT2⟩
 obtain ⟨iR0, hiR, zR0, zR1, zR2⟩ := info_parts (P := Tryz.prog) (e := 61) (z := .agg #[.string ⟨#[]⟩, .slice none 0 0]) (size := 2) (bytes := 40) (by kernel_rfl)
 have HIR : Hid (Tryz.prog.info? 61 = some iR0 ∧ iR0.zero = some (.agg #[.string ⟨#[]⟩, .slice none 0 0]) ∧ iR0.size = 2 ∧ iR0.bytes = 40) := ⟨hiR, zR0, zR1, zR2⟩
 obtain ⟨W0, hW0⟩ : ∃ W0, W0 = w.alloc (.cells #[] 58) := ⟨_, rfl⟩
 have HB0 : Hid (Below w.heap.size w W0) := by show Below _ _ _; rw [hW0]; exact (Below.refl _ _).alloc (Nat.le_refl _) _
 have HM0 : Hid (TypM W0 w.heap.size (.slice (some ⟨w.heap.size, 0, none⟩) 0 0) []) := by
  show LotM _ _ _ _ _ _ _ _ _
  rw [hW0]
  exact ⟨World.ownsRow_lit w #[] 0 (Nat.le_refl _) (by unfold maxLen; omega) (by simp), fun q hq => (by cases hq), fun q hq => (by cases hq), fun x y hx => absurd hx (by simp)⟩
 have hs5 : (s.size : Int) ≤ 50000 := by omega
 clear hiT zT0 zT1 zT2 hiR zR0 zR1 zR2
 go_enter Tryz.func79, Tryz.ntmps79
 go_wp2
 rw [← hW0]; clear hW0
 go_loopw [4, 5] (fun v r wr => ∃ (rs : List TR) (rest : ByteArray) (n : Nat), r = .string rest ∧ rest.size ≤ 3000 ∧ Hid (TypM wr w.heap.size v rs) ∧ Hid (Below w.heap.size w wr) ∧ Hid (schTx (tys rs) ++ rest = s) ∧ Hid (okT (tys rs)) ∧ Hid (rest.size < n ∧ linesP n rest (tys rs) = linesP (s.size + 1) s [])) (fun _ r _ => strOf r)
 case atStart => exact ⟨[], s, s.size + 1, rfl, hs, HM0, HB0, by show _ = _; exact empty_app _, fun t ht => (by cases ht), by omega, rfl⟩
 case round =>
  clear HM0 HB0
  obtain ⟨rs, rest, n, rfl, hrs, HM, HB, HT, HK, HN⟩ := hrel
  cases he : rest.toList.isEmpty with
  | true =>
   have HTX : Hid (schTx (tys rs) = s) := by show _ = _; rw [← HT.out, empty_is he, app_nil]
   have HLE := HID3 (lines_end (acc := tys rs) HN.out.1 he)
   obtain ⟨ad, cap, rfl, hsl, -⟩ := HM.out.read
   obtain ⟨k1, k2, k3, k4⟩ := rows_ok HK.out (by rw [HTX.out]; exact hs)
   have HPR := HID3 (l3Print_wide ad cap rs wr ⟨k1, fun r hr => (k2 r hr).1, fun r hr => (k2 r hr).2.1, fun r hr => (k2 r hr).2.2⟩ hsl k3 k4)
   clear hsl k1 k2 k3 k4
   go_wp2_with fail
   refine HPR.out.mono ?_
   rintro e w1 ⟨hee, hb1⟩
   rw [HTX.out] at hee
   subst hee
   have HB1 := HID3 (HB.out.trans (hb1.mono HB.out.size))
   have HM1 := HID3 (HM.out.below kidT hb1)
   clear hb1 HPR
   go_wp2
   exact bodyPost_ret (v := .tuple #[.slice ad rs.length cap, .bool true]) (by simp [results, Tryz.results79, go_sem]) rfl ⟨HB1.out, .inr ⟨_, rs, by rw [← HN.out.2, HLE.out], rfl, HM1.out, HTX.out, HK.out⟩⟩
  | false =>
   have HE := HID3 he
   have h500 : rs.length ≤ 500 := (rows_ok HK.out (by have := congrArg ByteArray.size HT.out; rw [ByteArray.size_append] at this; omega)).1
   have HC := HID3 (l1Cut_any rest 10 wr (by unfold maxLen; omega))
   go_wp2_with fail
   refine HC.out.mono ?_
   rintro e w1 ⟨rfl, n0, hw1⟩
   have hb1 : Below wr.heap.size wr w1 := by rw [hw1]; exact below_drewN (Below.refl _ _) n0
   have HB1 := HID3 (HB.out.trans (hb1.mono HB.out.size))
   have HM1 := HID3 (HM.out.below kidT hb1)
   have hzz := cutZ_le 10 rest
   have hza := cutA_le 10 rest
   clear hw1 hb1 HC HM HB
   cases hc : cutF 10 rest with
   | false =>
    have HNO := HID3 (lines_cut (acc := tys rs) HN.out.1 HE.out hc)
    go_wp2
    exact bodyPost_ret (v := .tuple #[.slice none 0 0, .bool false]) (by simp [results, Tryz.results79, go_sem]) rfl ⟨HB1.out, .inl ⟨by rw [← HN.out.2, HNO.out], rfl⟩⟩
   | true =>
    have HCF := HID3 hc
    have HJ := HID3 (cut_join hc)
    have hless := cut_less hc
    obtain ⟨line, hline⟩ : ∃ line, line = cutA 10 rest := ⟨_, rfl⟩
    obtain ⟨more, hmore⟩ : ∃ more, more = cutZ 10 rest := ⟨_, rfl⟩
    rw [← hline, ← hmore] at HJ
    rw [← hmore] at hzz hless
    rw [← hline] at hza
    rw [← hline, ← hmore]
    have HLI := HID3 hline
    have HMO := HID3 hmore
    clear hline hmore hc
    have HON : Hid (∀ a, lineP (tys rs) line = some a → linesP (n - 1) more a = linesP (s.size + 1) s [] ∧ more.size < n - 1 ∧ schTx a ++ more = s ∧ okT a) := fun a ha => by
     have h1 := lines_on (acc := tys rs) HN.out.1 HE.out HCF.out (by rw [← HLI.out]; exact ha)
     rw [← HMO.out] at h1
     refine ⟨by rw [← h1.1, HN.out.2], h1.2, ?_, line_ok ha HK.out⟩
     rw [line_text ha, ByteArray.append_assoc]
     have h2 := HT.out
     rw [HJ.out] at h2
     exact h2
    have HOFF : Hid (lineP (tys rs) line = none → linesP (s.size + 1) s [] = none) := fun ha => by
     have h1 := lines_bad (acc := tys rs) HN.out.1 HE.out HCF.out (by rw [← HLI.out]; exact ha)
     rw [← HN.out.2, h1]
    cases ht : isTyp line with
    | true =>
     have hl5 : 5 < line.size := by unfold isTyp at ht; simp only [Bool.and_eq_true, decide_eq_true_eq] at ht; exact ht.1
     have hty : ((line.extract 0 5).toList == [116, 121, 112, 101, 32]) = true := by unfold isTyp at ht; simp only [Bool.and_eq_true] at ht; rw [← tType_list]; exact ht.2
     have hd5 : decide ((5 : Int) < (line.size : Int)) = true := by simp; omega
     have HLP : Hid (lineP (tys rs) line = some (tys (rs ++ [⟨line.extract 5 line.size, [], none, 0⟩]))) := by show _ = _; unfold lineP; rw [ht]; simp [tys, TR.p, rls]
     clear ht
     obtain ⟨nm, hnm⟩ : ∃ nm, nm = line.extract 5 line.size := ⟨_, rfl⟩
     obtain ⟨W2, hW2⟩ : ∃ W2, W2 = w1.alloc (.cells #[.string nm, .slice none 0 0] 58) := ⟨_, rfl⟩
     have hb2 : Below w1.heap.size w1 W2 := by rw [hW2]; exact (Below.refl _ _).alloc (Nat.le_refl _) _
     have HM2 := HID3 (HM1.out.below kidT hb2)
     have HB2 := HID3 (HB1.out.trans (hb2.mono HB1.out.size))
     have HNW : Hid (∀ j u, [Value.string nm, .slice none 0 0][j]? = some u → W2.cell? ((⟨w1.heap.size, 0, none⟩ : Addr).add j) = some u) := by show ∀ j u, _; rw [hW2]; exact news2 w1 _ _ _
     rw [← hnm] at HLP
     rw [hnm] at hW2
     clear hb2 hnm
     go_wp2_with (at_builtin; rw [← hW2]; clear hW2; refine wpList_append_own_at _ rfl _ _ 24 rfl w.heap.size 58 iT0 (.agg #[.string ⟨#[]⟩, .slice none 0 0]) 2 40 Tryz.underlying24 HIT.out.1 HIT.out.2.1 HIT.out.2.2.1 HIT.out.2.2.2 rfl (by decide) u4 _ (rs.flatMap TR.cells) rfl HM2.out.own ⟨w1.heap.size, 0, none⟩ 1 1 [.string nm, .slice none 0 0] rfl rfl HNW.out (one2 _ _ _ _) (by unfold maxLen; omega) (by omega) HB2.out.size ?_)
     intro v3 w3 hown3 hgr3 _ hat3
     have HM3 : Hid (TypM w3 w.heap.size v3 (rs ++ [⟨nm, [], none, 0⟩])) := HM2.out.snoc kidT (q := ⟨nm, [], none, 0⟩) hown3 hgr3 (by
       rcases hat3 with e | e
       ·exact .inl e
       ·exact .inr ⟨_, e, Nat.le_refl _⟩) (lotM_nil W2 w.heap.size) (fun g hg => by
       rcases hg with hg | ⟨q, hq, -⟩
       ·simp [TR.vs, Value.ownBlock] at hg
       ·cases hq) (fun p hp g hg hg2 => by
       rcases hg2 with hg2 | ⟨q, hq, -⟩
       ·simp [TR.vs, Value.ownBlock] at hg2
       ·cases hq)
     have HB3 : Hid (Below w.heap.size w w3) := HB2.out.grown hgr3 HB2.out.size (fun g hg => (HM2.out.own.lt g hg).1)
     obtain ⟨o1, o2, o3, o4⟩ := HON.out _ HLP.out
     have HO := HID3 (And.intro o2 o1)
     have HO3 := HID3 o3
     have HO4 := HID3 o4
     clear hown3 hgr3 hat3 o1 o2 o3 o4 HM2 HB2 HNW hty hd5
     go_wp2
     go_roundw
     case rel => exact ⟨_, more, n - 1, rfl, by omega, HM3, HB3, HO3, HO4, HO⟩
     case measure => simp only [strOf]; exact hless
    | false =>
     have HTY := HID3 ht
     have h58 : (5 < line.size ∧ decide ((5 : Int) < (line.size : Int)) = true ∧ ((line.extract 0 5).toList == [116, 121, 112, 101, 32]) = false) ∨ decide ((5 : Int) < (line.size : Int)) = false := by
      by_cases h5 : 5 < line.size
      ·left
       refine ⟨h5, by simp; omega, ?_⟩
       unfold isTyp at ht
       rw [decide_eq_true h5, Bool.true_and, tType_list] at ht
       exact ht
      ·right; simp; omega
     have HC2 := HID3 (l1Cut_any line 32 w1 (by unfold maxLen; omega))
     obtain ⟨ad4, cap4, hv4, hsl4, -⟩ := TypM.read HM1.out
     subst hv4
     clear ht hsl4
     rcases h58 with ⟨hl5, hd5, hty⟩ | hd5
     all_goals (
      go_wp2_with fail
      refine HC2.out.mono ?_
      rintro e w2 ⟨rfl, n1, hw2⟩
      have hb2 : Below w1.heap.size w1 w2 := by rw [hw2]; exact below_drewN (Below.refl _ _) n1
      have HB2 := HID3 (HB1.out.trans (hb2.mono HB1.out.size))
      have HM2 := HID3 (HM1.out.below kidT hb2)
      have hzt := cutZ_le 32 line
      obtain ⟨nm, hnm⟩ : ∃ nm, nm = cutA 32 line := ⟨_, rfl⟩
      obtain ⟨tl, htl⟩ : ∃ tl, tl = cutZ 32 line := ⟨_, rfl⟩
      rw [← htl] at hzt
      rw [← hnm, ← htl]
      have HLP : Hid (lineP (tys rs) line = if !(tys rs).isEmpty && tailB tl && readB (tl.extract 2 tl.size) then some (addRel (tys rs) ⟨nm, (endR (tl.extract 2 tl.size)).out⟩) else none) := by show _ = _; unfold lineP exprT; rw [HTY.out, hnm, htl]; rfl
      clear hw2 hb2 HC2 HM1 HB1 hnm htl
      by_cases hz : rs = []
      ·subst hz
       have HNO : Hid (linesP (s.size + 1) s [] = none) := HOFF.out (by rw [HLP.out]; rfl)
       go_wp2
       exact bodyPost_ret (v := .tuple #[.slice none 0 0, .bool false]) (by simp [results, Tryz.results79, go_sem]) rfl ⟨HB2.out, .inl ⟨HNO.out, rfl⟩⟩
      ·obtain ⟨xs, t, hxt⟩ : ∃ xs t, rs = xs ++ [t] := ⟨rs.dropLast, rs.getLast hz, (List.dropLast_concat_getLast hz).symm⟩
       have HXT := HID3 hxt
       have hlx : rs.length = xs.length + 1 := by rw [hxt]; simp
       have HNE : Hid ((!(tys rs).isEmpty) = true) := by show _ = _; rw [hxt]; simp [tys]
       obtain ⟨b4, had4⟩ : ∃ b4, ad4 = some ⟨b4, 0, none⟩ := by
        rcases HM2.out.own.2 with ⟨-, h0⟩ | ⟨g, cap, cur, e, -⟩
        ·exact absurd (List.length_eq_zero_iff.1 h0) hz
        ·injection e with e1 e2 e3; exact ⟨g, e1⟩
       subst had4
       have hcell := HM2.out.own.cellAt (xs.length * 2 + 1) (by omega)
       rw [cells2_at (fun _ => rfl) rs xs.length (by omega) 1 (by omega)] at hcell
       have htx : rs[xs.length]'(by omega) = t := by subst hxt; simp
       rw [htx] at hcell
       have hcl : w2.cell? ⟨b4, xs.length * 2 + 1, none⟩ = some (.slice t.ad t.rows.length t.cap) := hcell
       have HCL := HID3 hcl
       have hn0 : (0 : Int) ≤ (xs.length : Int) := by omega
       have hn1 : (xs.length : Int) < (xs.length : Int) + 1 := by omega
       have HLX := HID3 hlx
       have hx500 : xs.length < 500 := by omega
       have h500' := h500
       rw [hlx]
       clear hz hxt hlx hcell htx hcl h500
       by_cases h2 : tl.size < 2
       ·have hd2 : decide ((tl.size : Int) < 2) = true := by simp; omega
        have HNO : Hid (linesP (s.size + 1) s [] = none) := HOFF.out (by rw [HLP.out]; simp [tailB]; omega)
        go_wp2
        exact bodyPost_ret (v := .tuple #[.slice none 0 0, .bool false]) (by simp [results, Tryz.results79, go_sem]) rfl ⟨HB2.out, .inl ⟨HNO.out, rfl⟩⟩
       ·have hd2 : decide ((tl.size : Int) < 2) = false := by simp; omega
        have h22 : 2 ≤ tl.size := by omega
        cases hq : (tl.extract 0 2).toList == [61, 32] with
        | false =>
         have hq2 : (!(tl.extract 0 2).toList == [61, 32]) = true := by rw [hq]; rfl
         have HNO : Hid (linesP (s.size + 1) s [] = none) := HOFF.out (by rw [HLP.out]; unfold tailB; rw [tIs_list, hq]; simp)
         go_wp2
         exact bodyPost_ret (v := .tuple #[.slice none 0 0, .bool false]) (by simp [results, Tryz.results79, go_sem]) rfl ⟨HB2.out, .inl ⟨HNO.out, rfl⟩⟩
        | true =>
         have hq2 : (!(tl.extract 0 2).toList == [61, 32]) = false := by rw [hq]; rfl
         have HTB : Hid (tailB tl = true) := by show _ = _; unfold tailB; rw [tIs_list, hq, decide_eq_true h22]; rfl
         have HRE := HID3 (specReadExpr_any (tl.extract 2 tl.size) w2)
         go_wp2_with fail
         refine HRE.out.mono ?_
         rintro e w3 ⟨hb3, hcase⟩
         have HB3 := HID3 (HB2.out.trans (hb3.mono HB2.out.size))
         have HM3 := HID3 (HM2.out.below kidT hb3)
         have h23 : w2.heap.size ≤ w3.heap.size := hb3.size
         have HLT2 : Hid (∀ g, inLot iT (.slice (some ⟨b4, 0, none⟩) rs.length cap4) rs g → g < w2.heap.size) := fun g hg => (HM2.out.lt kidT hg).2
         have hc3 : w3.cell? ⟨b4, xs.length * 2 + 1, none⟩ = some (.slice t.ad t.rows.length t.cap) := (hb3.cell (p := ⟨b4, xs.length * 2 + 1, none⟩) (HM2.out.own.lt b4 rfl).2).trans HCL.out
         rcases hcase with ⟨hrb, rfl⟩ | ⟨hrb, v, R, qs, rfl, hF⟩
         ·have HNO : Hid (linesP (s.size + 1) s [] = none) := HOFF.out (by rw [HLP.out, hrb]; simp)
          clear hb3 hc3 HM2 HB2 HRE
          go_wp2
          exact bodyPost_ret (v := .tuple #[.slice none 0 0, .bool false]) (by simp [results, Tryz.results79, go_sem]) rfl ⟨HB3.out, .inl ⟨HNO.out, rfl⟩⟩
         ·obtain ⟨adE, capE, hvE⟩ : ∃ adE capE, v = .slice adE qs.length capE := by
           obtain ⟨a1, a2, a3, -⟩ := hF.slE
           exact ⟨a1, a2, a3⟩
          subst hvE
          have HNOD := HID3 (hF.nod)
          have HEX := HID3 hF.out
          have HRB := HID3 hrb
          obtain ⟨W5, hW5⟩ : ∃ W5, W5 = w3.alloc (.cells #[.string nm, .slice adE qs.length capE] 61) := ⟨_, rfl⟩
          have hb5 : Below w3.heap.size w3 W5 := by rw [hW5]; exact (Below.refl _ _).alloc (Nat.le_refl _) _
          have HM5 := HID3 (HM3.out.below kidT hb5)
          have HB5 := HID3 (HB3.out.trans (hb5.mono HB3.out.size))
          have HNW : Hid (∀ j u, [Value.string nm, .slice adE qs.length capE][j]? = some u → W5.cell? ((⟨w3.heap.size, 0, none⟩ : Addr).add j) = some u) := by show ∀ j u, _; rw [hW5]; exact news2 w3 _ _ _
          obtain ⟨q, hqd⟩ : ∃ q : RR, q = ⟨nm, qs, adE, capE⟩ := ⟨_, rfl⟩
          have HQD := HID3 hqd
          have hkq3 : kR w3 (w2.heap.size + 1) q := by rw [hqd]; exact HNOD.out
          have hIq : ∀ g, iR q g → w2.heap.size + 1 ≤ g := fun g hg => (kidR.lt w3 _ q hkq3 g hg).1
          have hkq5 : kR W5 w.heap.size q := kidR.heap w3 W5 w.heap.size q (hkq3.mono (by have := HB2.out.size; omega)) hb5.size (fun g hg => hb5.block g (kidR.lt w3 _ q hkq3 g hg).2)
          have HIQ := HID3 hIq
          have W5_ge : Hid (w2.heap.size ≤ W5.heap.size) := Nat.le_trans h23 hb5.size
          have HKQ := HID3 hkq5
          have HKT : Hid (kT W5 w.heap.size t) := HM5.out.kid t (by rw [HXT.out]; simp)
          have HTLT : Hid (∀ g, iT t g → g < w2.heap.size) := fun g hg => HLT2.out g (.inr ⟨t, by rw [HXT.out]; simp, hg⟩)
          have ht750 : t.rows.length ≤ 750 := ((rows_ok HK.out (by have := congrArg ByteArray.size HT.out; rw [ByteArray.size_append] at this; omega)).2.1 t (by rw [HXT.out]; simp)).1
          have hc5 : W5.cell? ⟨b4, xs.length * 2 + 1, none⟩ = some (.slice t.ad t.rows.length t.cap) := (hb5.cell (p := ⟨b4, xs.length * 2 + 1, none⟩) (Nat.lt_of_lt_of_le (HM2.out.own.lt b4 rfl).2 h23)).trans hc3
          have HC5 := HID3 hc5
          have hfz : W5.frozen? ⟨b4, xs.length * 2 + 1, none⟩ = false := HM5.out.own.frozenAt _
          have HFZ := HID3 hfz
          clear hb3 hF hrb hkq3 hkq5 hIq hqd hc5 hb5 HM2 HB2 HRE HM3 HB3 HNOD hfz
          go_wp2_with (at_builtin; rw [← hW5]; clear hW5; refine wpList_append_own_at _ rfl _ _ 56 rfl w.heap.size 61 iR0 (.agg #[.string ⟨#[]⟩, .slice none 0 0]) 2 40 Tryz.underlying56 HIR.out.1 HIR.out.2.1 HIR.out.2.2.1 HIR.out.2.2.2 rfl (by decide) (.slice t.ad t.rows.length t.cap) _ (t.rows.flatMap RR.cells) rfl HKT.out.own ⟨w3.heap.size, 0, none⟩ 1 1 [.string nm, .slice adE qs.length capE] rfl rfl HNW.out (one2 _ _ _ _) (by unfold maxLen; omega) (by omega) HB5.out.size ?_)
          intro v6 w6 hown6 hgr6 _ hat6
          obtain ⟨g6, c6, hv6⟩ := ownsRow_succE hown6
          subst hv6
          have hqv : q.vs = .slice adE qs.length capE := by rw [HQD.out]; rfl
          have hneb : some b4 ≠ (Value.slice t.ad t.rows.length t.cap).ownBlock := fun e => HM5.out.head t (by rw [HXT.out]; simp) b4 (.inl e.symm) rfl
          have hc6 : w6.cell? ⟨b4, xs.length * 2 + 1, none⟩ = some (.slice t.ad t.rows.length t.cap) := hgr6.cell HC5.out hneb
          have hf6 : w6.frozen? ⟨b4, xs.length * 2 + 1, none⟩ = false := (World.frozen?_of_block (w := W5) (a := ⟨b4, xs.length * 2 + 1, none⟩) (hgr6.block b4 (HM5.out.own.lt b4 rfl).2 hneb)).trans HFZ.out
          obtain ⟨t', ht'⟩ : ∃ t' : TR, t' = ⟨t.name, t.rows ++ [q], some ⟨g6, 0, none⟩, c6⟩ := ⟨_, rfl⟩
          have hvt' : t'.vs = .slice (some ⟨g6, 0, none⟩) (t.rows.length + 1) c6 := by rw [ht']; simp [TR.vs]
          have hkt' : kT w6 w.heap.size t' := by
           have h1 : RelM w6 w.heap.size (.slice (some ⟨g6, 0, none⟩) (t.rows.length + 1) c6) (t.rows ++ [q]) := HKT.out.snoc kidR (q := q) (by
             rw [show RR.cells q = [.string nm, .slice adE qs.length capE] by unfold RR.cells; rw [hqv, HQD.out]]; exact hown6) hgr6 (by
             rcases hat6 with e | e
             ·exact .inl e
             ·exact .inr ⟨_, e, Nat.le_refl _⟩) HKQ.out (fun g hg e => by
             have h2 := HTLT.out g (.inl e)
             have h3 := HIQ.out g hg
             omega) (fun p hp g hg hg2 => by
             have h2 := HTLT.out g (.inr ⟨p, hp, hg⟩)
             have h3 := HIQ.out g hg2
             omega)
           unfold kT
           rw [hvt', ht']
           exact h1
          have hI' : ∀ g, iT t' g → iT t g ∨ (g ≠ b4 ∧ ∀ p ∈ xs, ¬ iT p g) := fun g hg => by
           have hfar : w2.heap.size ≤ g → g ≠ b4 ∧ ∀ p ∈ xs, ¬ iT p g := fun hge => ⟨fun e => by
             have := HLT2.out b4 (.inl rfl)
             omega, fun p hp hi => by
             have := HLT2.out g (.inr ⟨p, by rw [HXT.out]; simp [hp], hi⟩)
             omega⟩
           rcases hg with hg | ⟨p, hp, hg⟩
           ·rw [hvt'] at hg
            rcases hat6 with e | e
            ·exact .inl (.inl (e.symm.trans hg))
            ·rw [e] at hg; injection hg with hg
             exact .inr (hfar (by have := W5_ge.out; omega))
           ·rw [ht'] at hp
            rcases List.mem_append.1 hp with hp | hp
            ·exact .inl (.inr ⟨p, hp, hg⟩)
            ·rw [List.mem_singleton] at hp; subst hp
             exact .inr (hfar (by have := HIQ.out g hg; omega))
          have HM7 : Hid (TypM (w6.setCell ⟨b4, xs.length * 2 + 1, none⟩ (.slice (some ⟨g6, 0, none⟩) (t.rows.length + 1) c6)) w.heap.size (.slice (some ⟨b4, 0, none⟩) (xs.length + 1) cap4) (xs ++ [t'])) := by
           have hM := HM5.out
           rw [HLX.out, HXT.out] at hM
           refine LotM.last kidT hM rfl hgr6 (fun r hr => .inl hr) hkt' hI' ?_
           rw [← hvt', show t'.vs = t'.vs from rfl]
           exact set_last xs t t' (by rw [ht'])
          have HB7 : Hid (Below w.heap.size w (w6.setCell ⟨b4, xs.length * 2 + 1, none⟩ (.slice (some ⟨g6, 0, none⟩) (t.rows.length + 1) c6))) := (HB5.out.grown hgr6 HB5.out.size (fun g hg => (HKT.out.own.lt g hg).1)).setCell (HM5.out.own.lt b4 rfl).1 _
          have HTY7 : Hid (lineP (tys rs) line = some (tys (xs ++ [t']))) := by
           show _ = _
           rw [HLP.out, HNE.out, HTB.out, HRB.out, HXT.out, ht']
           simp only [Bool.and_true, if_true]
           rw [show tys (xs ++ [t]) = tys xs ++ [t.p] by simp [tys], addRel_snoc]
           simp [tys, TR.p, rls, RR.p, HQD.out, HEX.out]
          obtain ⟨o1, o2, o3, o4⟩ := HON.out _ HTY7.out
          have HO := HID3 (And.intro o2 o1)
          have HO3 := HID3 o3
          have HO4 := HID3 o4
          clear hown6 hgr6 hat6 o1 o2 o3 o4 hkt' hI' hvt' ht' hqv hneb HM5 HB5 HKT HKQ
          go_wp2
          go_roundw
          case rel => exact ⟨_, more, n - 1, rfl, by omega, HM7, HB7, HO3, HO4, HO⟩
          case measure => simp only [strOf]; exact hless)
end Go.Proofs.YtkpefjefodkddaaGreat
