/- Contracts of the law's helpers that mark relations and types: what they leave. -/
import Derived.Test.YtmghabcaakgjiaaGreatJ8
namespace Go.Proofs.YtmghabcaakgjiaaGreat
open Go.ChangeShapes Go.WideShapes Go.ChangeAt Go.RowKit
open Pl
theorem inR_mkd (k : Nat) (q : ER) (g : Nat) : inR (q.mkd k) g ↔ inR q g := by
 unfold inR bA bK ER.mkd mkX
 simp only [ne_eq, mkA_nil, mkI_nil]
theorem mkE_mem {k : Nat} {rs : List ER} {q : ER} (h : q ∈ mkE k rs) : ∃ p ∈ rs, ∃ K, q = p.mkd K := by
 obtain ⟨i, hi, rfl⟩ := List.getElem_of_mem h
 have h2 : i < rs.length := by rw [mkE_len] at hi; exact hi
 exact ⟨rs[i], List.getElem_mem h2, _, mkE_at k rs i hi h2⟩
theorem mkE_nil (k : Nat) (rs : List ER) : mkE k rs = [] ↔ rs = [] := by
 rw [← List.length_eq_zero_iff, mkE_len, List.length_eq_zero_iff]
theorem SepE.mkd {b k : Nat} {rs : List ER} (h : SepE b rs) : SepE b (mkE k rs) := by
 refine ⟨fun r hr hne => ?_, fun r hr hne => ?_, fun r hr hg => ?_, fun r hr g h1 h2 => ?_, fun x y hx hy hne g h1 h2 => ?_⟩
 ·obtain ⟨p, hp, K, rfl⟩ := mkE_mem hr
  exact h.zeroA p hp fun e => hne (by show mkA _ _ = []; rw [mkA_nil]; exact e)
 ·obtain ⟨p, hp, K, rfl⟩ := mkE_mem hr
  exact h.zeroK p hp fun e => hne (by show mkI _ _ = []; rw [mkI_nil]; exact e)
 ·obtain ⟨p, hp, K, rfl⟩ := mkE_mem hr
  exact h.head p hp ((inR_mkd _ _ _).1 hg)
 ·obtain ⟨p, hp, K, rfl⟩ := mkE_mem hr
  exact h.one p hp g ⟨fun e => h1.1 (by show mkA _ _ = []; rw [mkA_nil]; exact e), h1.2⟩ ⟨fun e => h2.1 (by show mkI _ _ = []; rw [mkI_nil]; exact e), h2.2⟩
 ·have hx2 : x < rs.length := by rw [mkE_len] at hx; exact hx
  have hy2 : y < rs.length := by rw [mkE_len] at hy; exact hy
  rw [mkE_at k rs x hx hx2] at h1
  rw [mkE_at k rs y hy hy2] at h2
  exact h.two x y hx2 hy2 hne g ((inR_mkd _ _ _).1 h1) ((inR_mkd _ _ _).1 h2)
def RR.mkd (k : Nat) (r : RR) : RR := { r with name := mtx k, rows := mkE (k + 1) r.rows }
def mkR : Nat → List RR → List RR
 | _, [] => []
 | k, r :: rs => r.mkd k :: mkR (k + (1 + wE r.rows)) rs
theorem mkR_len : ∀ (k : Nat) (rs : List RR), (mkR k rs).length = rs.length
 | _, [] => rfl
 | k, r :: rs => by simp only [mkR, List.length_cons]; rw [mkR_len]
theorem mkR_at : ∀ (k : Nat) (rs : List RR) (i : Nat) (h : i < (mkR k rs).length) (h2 : i < rs.length), (mkR k rs)[i] = rs[i].mkd (k + wR (rs.take i))
 | _, [], i, h, _ => by simp [mkR] at h
 | k, r :: rs, 0, _, _ => by simp [mkR, wR]
 | k, r :: rs, i + 1, h, h2 => by
  simp only [mkR, List.getElem_cons_succ, List.take_succ_cons, wR]
  rw [mkR_at (k + (1 + wE r.rows)) rs i _ (by simpa using h2), Nat.add_assoc]
theorem mkR_mem {k : Nat} {rs : List RR} {q : RR} (h : q ∈ mkR k rs) : ∃ p ∈ rs, ∃ K, q = p.mkd K := by
 obtain ⟨i, hi, rfl⟩ := List.getElem_of_mem h
 have h2 : i < rs.length := by rw [mkR_len] at hi; exact hi
 exact ⟨rs[i], List.getElem_mem h2, _, mkR_at k rs i hi h2⟩
theorem mkR_nil (k : Nat) (rs : List RR) : mkR k rs = [] ↔ rs = [] := by
 rw [← List.length_eq_zero_iff, mkR_len, List.length_eq_zero_iff]
theorem blkR_mkd (k : Nat) (r : RR) (g : Nat) : blkR (r.mkd k) g ↔ blkR r g := by
 unfold blkR
 refine or_congr ?_ ⟨?_, ?_⟩
 ·show (mkE _ _ ≠ [] ∧ _) ↔ _
  rw [ne_eq, mkE_nil]
  exact Iff.rfl
 ·rintro ⟨q, hq, h⟩
  obtain ⟨p, hp, K, rfl⟩ := mkE_mem hq
  exact ⟨p, hp, (inR_mkd _ _ _).1 h⟩
 ·rintro ⟨q, hq, h⟩
  obtain ⟨i, hi, rfl⟩ := List.getElem_of_mem hq
  have h2 : i < (mkE (k + 1) r.rows).length := by rw [mkE_len]; exact hi
  exact ⟨(mkE (k + 1) r.rows)[i], List.getElem_mem h2, by rw [mkE_at _ _ i h2 hi]; exact (inR_mkd _ _ _).2 h⟩
theorem GoodR.mkd {k : Nat} {r : RR} (h : GoodR r) : GoodR (r.mkd k) := fun hne => by
 obtain ⟨b, e, hs⟩ := h fun e => hne ((mkE_nil _ _).2 e)
 exact ⟨b, e, hs.mkd⟩
theorem SepR.mkd {b k : Nat} {rs : List RR} (h : SepR b rs) : SepR b (mkR k rs) := by
 refine ⟨fun r hr => ?_, fun r hr hg => ?_, fun x y hx hy hne g h1 h2 => ?_⟩
 ·obtain ⟨p, hp, K, rfl⟩ := mkR_mem hr
  exact (h.good p hp).mkd
 ·obtain ⟨p, hp, K, rfl⟩ := mkR_mem hr
  exact h.head p hp ((blkR_mkd _ _ _).1 hg)
 ·have hx2 : x < rs.length := by rw [mkR_len] at hx; exact hx
  have hy2 : y < rs.length := by rw [mkR_len] at hy; exact hy
  rw [mkR_at k rs x hx hx2] at h1
  rw [mkR_at k rs y hy hy2] at h2
  exact h.two x y hx2 hy2 hne g ((blkR_mkd _ _ _).1 h1) ((blkR_mkd _ _ _).1 h2)
def curR (k : Nat) (rs : List RR) (j x : Nat) (hx : x < rs.length) : RR := if x < j then rs[x].mkd (k + wR (rs.take x)) else rs[x]
theorem curR_same (k : Nat) (rs : List RR) (j x : Nat) (hx : x < rs.length) (h : GoodR rs[x]) : GoodR (curR k rs j x hx) ∧ ∀ g, blkR (curR k rs j x hx) g → blkR rs[x] g := by
 unfold curR
 split
 ·exact ⟨h.mkd, fun g hg => (blkR_mkd _ _ _).1 hg⟩
 ·exact ⟨h, fun g hg => hg⟩
theorem markExprS_c (x : Int) (r : RR) (k : Nat) (w : World) (hx : x = (k : Int)) (ho : r.ok w) (hg : GoodR r) (hf : FreeP w (blkR r)) (hl : r.light) (h0 : 0 < k) (h1 : k + wE r.rows ≤ 1000000000) :
  Calls Tryz.prog 72 #[.slice r.ad r.rows.length r.cap, .int .i64 x] w fun e w' => e = .returned (.int .i64 ((k + wE r.rows : Nat) : Int)) ∧ SlE w' r.ad (mkE k r.rows) ∧ Chg (blkR r) w w' := by
 by_cases hz : r.rows = []
 ·rw [hz]
  refine (markExprS_nil x r.ad r.cap w).mono ?_
  rintro e w' ⟨rfl, rfl⟩
  exact ⟨by rw [hx]; rfl, .inl rfl, Chg.refl _ _⟩
 obtain ⟨b, e, hsep⟩ := hg hz
 rcases ho with h | ⟨b', off, e', hb, hr, hk⟩
 ·exact absurd h hz
 rw [e] at e'; injection e' with e'; injection e' with e1 e2
 subst e1; subst e2
 rw [e, hx]
 refine (markExprS_any b r.cap r.rows k w hb (fun x hx => ⟨by have := hr x hx; rwa [Nat.zero_add] at this, hk _ (List.getElem_mem hx)⟩) hsep ⟨hf b (.inl ⟨hz, e⟩), fun q hq g hg => hf g (.inr ⟨q, hq, hg⟩)⟩ hl.2 hl.1 h0 h1).mono ?_
 rintro e2 w' ⟨rfl, hm, hc⟩
 refine ⟨rfl, mkE_sl (Nat.lt_of_lt_of_le hb hc.size) hm, hc.mono fun g hg => ?_⟩
 rcases hg with rfl | ⟨q, hq, h2⟩
 ·exact .inl ⟨hz, e⟩
 ·exact .inr ⟨q, hq, h2⟩
set_option maxRecDepth 8000 in
set_option maxHeartbeats 4000000 in
theorem markRelationS_c2 (b cap : Nat) (rs : List RR) (k : Nat) (w : World) (hb : b < w.heap.size) (hr : ∀ (x : Nat) (hx : x < rs.length), AtR w b (x * 2) rs[x] ∧ rs[x].ok w) (hsep : SepR b rs) (hfree : FreeP w (insR b rs)) (hl : ∀ r ∈ rs, r.light) (hlen : rs.length ≤ 1048576) (h0 : 0 < k) (h1 : k + wR rs ≤ 1000000000) :
  Calls Tryz.prog 36 #[.slice (some ⟨b, 0, none⟩) rs.length cap, .int .i64 (k : Int)] w fun e w' => e = .returned (.int .i64 ((k + wR rs : Nat) : Int)) ∧ (∀ (x : Nat) (hx : x < rs.length), AtR w' b (x * 2) (rs[x].mkd (k + wR (rs.take x))) ∧ (rs[x].mkd (k + wR (rs.take x))).ok w') ∧ Chg (insR b rs) w w' := by
 have HSEP : Hid (SepR b rs) := hsep
 have HFE : Hid (FreeP w (insR b rs)) := hfree
 have HL : Hid (∀ r ∈ rs, r.light) := hl
 clear hsep hfree hl
 go_enter Tryz.func36, Tryz.ntmps36
 go_wp2
 go_loopw [1, 5] (fun kv i wr => ∃ j K : Nat, j ≤ rs.length ∧ Hid (K = k + wR (rs.take j)) ∧ kv = .int .i64 (K : Int) ∧ i = .int .i64 (j : Int) ∧ Hid (∀ (x : Nat) (hx : x < rs.length), AtR wr b (x * 2) (curR k rs j x hx) ∧ (curR k rs j x hx).ok wr) ∧ Hid (Chg (insR b rs) w wr)) (fun _ i _ => rs.length - (intOf i).toNat)
 case atStart => exact ⟨0, k, Nat.zero_le _, by show _ = _; simp [wR], rfl, rfl, fun x hx => by simpa [curR] using hr x hx, Chg.refl _ _⟩
 case round =>
  clear hr
  obtain ⟨j, K, hj, HK, rfl, rfl, HC, HCH⟩ := hrel
  by_cases hlt : j < rs.length
  ·obtain ⟨⟨c0, c1⟩, hok⟩ := HC.out j hlt
   have hcur : curR k rs j j hlt = rs[j] := by unfold curR; rw [if_neg (by omega)]
   rw [hcur] at c0 c1 hok
   have HOK : Hid (rs[j].ok wr) := hok
   have HLG : Hid (rs[j].light) := HL.out rs[j] (List.getElem_mem hlt)
   have hKb : 0 < K ∧ K + (1 + wE rs[j].rows) ≤ 1000000000 := by
    have h2 := wR_le rs (j + 1)
    rw [wR_take _ _ hlt] at h2
    have := HK.out
    omega
   have hK0 := hKb.1
   have hK1 := hKb.2
   have hgl : b < wr.heap.size := Nat.lt_of_lt_of_le hb HCH.out.size
   have HFW : Hid (FreeP wr (insR b rs)) := HFE.out.chg HCH.out
   have hj1 : (0 : Int) ≤ (j : Int) := by omega
   have hj2 : (j : Int) < (rs.length : Int) := by omega
   have HNB : Hid (¬ blkR rs[j] b) := HSEP.out.head _ (List.getElem_mem hlt)
   have HGD : Hid (GoodR rs[j]) := HSEP.out.good _ (List.getElem_mem hlt)
   clear hKb hok hcur
   go_wp2_with fail
   refine (markText_at _ K _ (by omega) (by omega) (by omega)).mono ?_
   rintro e w1 ⟨rfl, hb1⟩
   have HB1 : Hid (Below wr.heap.size wr w1) := hb1
   replace c0 := kept hb1 hgl c0
   replace c1 := kept hb1 hgl c1
   have fz : ∀ y, w1.frozen? ⟨b, y, none⟩ = false := fun y => keptF hb1 hgl ((HFW.out b (.inl rfl)).2 y)
   obtain ⟨W2, hW2⟩ : ∃ W2, W2 = w1.setCell ⟨b, j * 2, none⟩ (.string (mtx K)) := ⟨_, rfl⟩
   have HC2 : Hid (Chg (fun g => g = b) wr W2) := (Chg.of hb1).trans (by rw [hW2]; exact Chg.set _ rfl)
   have HO2 : Hid (∀ o, o ≠ j * 2 → W2.cell? ⟨b, o, none⟩ = wr.cell? ⟨b, o, none⟩) := fun o ho => by rw [hW2, setO' (Ne.symm ho)]; exact HB1.out.cell (p := ⟨b, o, none⟩) hgl
   have HS2 : Hid (W2.cell? ⟨b, j * 2, none⟩ = some (.string (mtx K)) ∧ W2.cell? ⟨b, j * 2 + 1, none⟩ = some (.slice rs[j].ad rs[j].rows.length rs[j].cap)) := by
    rw [hW2]
    exact ⟨setS' c0, by rw [setO' (by omega)]; exact c1⟩
   have hgl2 : b < W2.heap.size := Nat.lt_of_lt_of_le hgl HC2.out.size
   have HOK2 : Hid (rs[j].ok W2) := HOK.out.chg HC2.out HGD.out fun g hg e => HNB.out (by rw [← e]; exact hg)
   have HFI : Hid (FreeP W2 (blkR rs[j])) := (HFW.out.chg HC2.out).mono fun g hg => .inr ⟨_, List.getElem_mem hlt, hg⟩
   clear hb1
   go_wp2_with fail
   rw [← hW2]
   clear hW2 fz c0 c1
   refine (markExprS_c _ rs[j] (K + 1) _ (by omega) HOK2.out HGD.out HFI.out HLG.out (by omega) (by omega)).mono ?_
   rintro e w3 ⟨rfl, hsl3, hc3⟩
   have HC3 : Hid (Chg (fun g => g = b ∨ blkR rs[j] g) wr w3) := (HC2.out.mono fun g hg => .inl hg).trans (hc3.mono fun g hg => .inr hg)
   have HO3 : Hid (∀ o, w3.cell? ⟨b, o, none⟩ = W2.cell? ⟨b, o, none⟩) := fun o => hc3.cell hgl2 HNB.out
   have HCN : Hid (∀ (x : Nat) (hx : x < rs.length), AtR w3 b (x * 2) (curR k rs (j + 1) x hx) ∧ (curR k rs (j + 1) x hx).ok w3) := by
    intro x hx
    by_cases e : x = j
    ·subst e
     have hcur : curR k rs (x + 1) x hx = rs[x].mkd K := by unfold curR; rw [if_pos (by omega), HK.out]
     rw [hcur]
     refine ⟨⟨?_, ?_⟩, hsl3⟩
     ·rw [HO3.out]; exact HS2.out.1
     ·rw [HO3.out, HS2.out.2]
      show _ = some (Value.slice rs[x].ad (mkE _ _).length rs[x].cap)
      rw [mkE_len]
    ·have hcur : curR k rs (j + 1) x hx = curR k rs j x hx := by
      unfold curR
      by_cases h2 : x < j
      ·rw [if_pos h2, if_pos (by omega)]
      ·rw [if_neg h2, if_neg (by omega)]
     rw [hcur]
     obtain ⟨⟨p0, p1⟩, hok⟩ := HC.out x hx
     obtain ⟨q1, q2⟩ := curR_same k rs j x hx (HSEP.out.good _ (List.getElem_mem hx))
     refine ⟨⟨?_, ?_⟩, hok.chg HC3.out q1 ?_⟩
     ·rw [HO3.out, HO2.out _ (by omega)]; exact p0
     ·rw [HO3.out, HO2.out _ (by omega)]; exact p1
     ·rintro g hg (h | h)
      ·subst h; exact HSEP.out.head _ (List.getElem_mem hx) (q2 _ hg)
      ·exact HSEP.out.two x j hx hlt e g (q2 _ hg) h
   have HCHN : Hid (Chg (insR b rs) w w3) := HCH.out.trans (HC3.out.mono fun g hg => hg.elim .inl fun h => .inr ⟨rs[j], List.getElem_mem hlt, h⟩)
   have HKN : Hid (K + 1 + wE rs[j].rows = k + wR (rs.take (j + 1))) := by
    show _ = _
    rw [wR_take _ _ hlt, HK.out]; omega
   clear hc3 hsl3
   go_wp2
   go_roundw
   case rel => exact ⟨j + 1, K + 1 + wE rs[j].rows, by omega, HKN, by go_num, by go_num, HCN, HCHN⟩
   case measure => first | (simp [intOf]; done) | (simp [intOf]; omega)
  ·obtain rfl : j = rs.length := by omega
   have HKE : Hid (K = k + wR rs) := by have := HK.out; rw [List.take_length] at this; exact this
   have HEND : Hid (∀ (x : Nat) (hx : x < rs.length), AtR wr b (x * 2) (rs[x].mkd (k + wR (rs.take x))) ∧ (rs[x].mkd (k + wR (rs.take x))).ok wr) := fun x hx => by
    have := HC.out x hx
    unfold curR at this
    rw [if_pos hx] at this
    exact this
   go_wp2
   go_ret
   exact ⟨by rw [← HKE.out]; rfl, HEND.out, HCH.out⟩
theorem mkR_sl {w : World} {b k : Nat} {rs : List RR} (hb : b < w.heap.size) (h : ∀ (x : Nat) (hx : x < rs.length), AtR w b (x * 2) (rs[x].mkd (k + wR (rs.take x))) ∧ (rs[x].mkd (k + wR (rs.take x))).ok w) : SlR w (some ⟨b, 0, none⟩) (mkR k rs) := by
 refine .inr ⟨b, 0, rfl, hb, fun i hi => ?_, fun r hr => ?_⟩
 ·have h2 : i < rs.length := by rw [mkR_len] at hi; exact hi
  rw [mkR_at k rs i hi h2, Nat.zero_add]
  exact (h i h2).1
 ·obtain ⟨i, hi, rfl⟩ := List.getElem_of_mem hr
  have h2 : i < rs.length := by rw [mkR_len] at hi; exact hi
  rw [mkR_at k rs i hi h2]
  exact (h i h2).2
def TR.mkd (k : Nat) (r : TR) : TR := { r with name := mtx k, rows := mkR (k + 1) r.rows }
def mkT : Nat → List TR → List TR
 | _, [] => []
 | k, r :: rs => r.mkd k :: mkT (k + (1 + wR r.rows)) rs
theorem mkT_len : ∀ (k : Nat) (rs : List TR), (mkT k rs).length = rs.length
 | _, [] => rfl
 | k, r :: rs => by simp only [mkT, List.length_cons]; rw [mkT_len]
theorem mkT_at : ∀ (k : Nat) (rs : List TR) (i : Nat) (h : i < (mkT k rs).length) (h2 : i < rs.length), (mkT k rs)[i] = rs[i].mkd (k + wT (rs.take i))
 | _, [], i, h, _ => by simp [mkT] at h
 | k, r :: rs, 0, _, _ => by simp [mkT, wT]
 | k, r :: rs, i + 1, h, h2 => by
  simp only [mkT, List.getElem_cons_succ, List.take_succ_cons, wT]
  rw [mkT_at (k + (1 + wR r.rows)) rs i _ (by simpa using h2), Nat.add_assoc]
theorem blkT_mkd (k : Nat) (r : TR) (g : Nat) : blkT (r.mkd k) g ↔ blkT r g := by
 unfold blkT
 refine or_congr ?_ ⟨?_, ?_⟩
 ·show (mkR _ _ ≠ [] ∧ _) ↔ _
  rw [ne_eq, mkR_nil]
  exact Iff.rfl
 ·rintro ⟨q, hq, h⟩
  obtain ⟨p, hp, K, rfl⟩ := mkR_mem hq
  exact ⟨p, hp, (blkR_mkd _ _ _).1 h⟩
 ·rintro ⟨q, hq, h⟩
  obtain ⟨i, hi, rfl⟩ := List.getElem_of_mem hq
  have h2 : i < (mkR (k + 1) r.rows).length := by rw [mkR_len]; exact hi
  exact ⟨(mkR (k + 1) r.rows)[i], List.getElem_mem h2, by rw [mkR_at _ _ i h2 hi]; exact (blkR_mkd _ _ _).2 h⟩
theorem GoodT.mkd {k : Nat} {r : TR} (h : GoodT r) : GoodT (r.mkd k) := fun hne => by
 obtain ⟨b, e, hs⟩ := h fun e => hne ((mkR_nil _ _).2 e)
 exact ⟨b, e, hs.mkd⟩
def curT (k : Nat) (rs : List TR) (j x : Nat) (hx : x < rs.length) : TR := if x < j then rs[x].mkd (k + wT (rs.take x)) else rs[x]
theorem curT_same (k : Nat) (rs : List TR) (j x : Nat) (hx : x < rs.length) (h : GoodT rs[x]) : GoodT (curT k rs j x hx) ∧ ∀ g, blkT (curT k rs j x hx) g → blkT rs[x] g := by
 unfold curT
 split
 ·exact ⟨h.mkd, fun g hg => (blkT_mkd _ _ _).1 hg⟩
 ·exact ⟨h, fun g hg => hg⟩
theorem markRelationS_c (x : Int) (r : TR) (k : Nat) (w : World) (hx : x = (k : Int)) (ho : r.ok w) (hg : GoodT r) (hf : FreeP w (blkT r)) (hl : r.light) (h0 : 0 < k) (h1 : k + wR r.rows ≤ 1000000000) :
  Calls Tryz.prog 36 #[.slice r.ad r.rows.length r.cap, .int .i64 x] w fun e w' => e = .returned (.int .i64 ((k + wR r.rows : Nat) : Int)) ∧ SlR w' r.ad (mkR k r.rows) ∧ Chg (blkT r) w w' := by
 by_cases hz : r.rows = []
 ·rw [hz]
  refine (markRelationS_nil x r.ad r.cap w).mono ?_
  rintro e w' ⟨rfl, rfl⟩
  exact ⟨by rw [hx]; rfl, .inl rfl, Chg.refl _ _⟩
 obtain ⟨b, e, hsep⟩ := hg hz
 rcases ho with h | ⟨b', off, e', hb, hr, hk⟩
 ·exact absurd h hz
 rw [e] at e'; injection e' with e'; injection e' with e1 e2
 subst e1; subst e2
 rw [e, hx]
 refine (markRelationS_c2 b r.cap r.rows k w hb (fun x hx => ⟨by have := hr x hx; rwa [Nat.zero_add] at this, hk _ (List.getElem_mem hx)⟩) hsep (hf.mono fun g hg => by
  rcases hg with rfl | ⟨q, hq, h2⟩
  ·exact .inl ⟨hz, e⟩
  ·exact .inr ⟨q, hq, h2⟩) hl.2 hl.1 h0 h1).mono ?_
 rintro e2 w' ⟨rfl, hm, hc⟩
 refine ⟨rfl, mkR_sl (Nat.lt_of_lt_of_le hb hc.size) hm, hc.mono fun g hg => ?_⟩
 rcases hg with rfl | ⟨q, hq, h2⟩
 ·exact .inl ⟨hz, e⟩
 ·exact .inr ⟨q, hq, h2⟩
set_option maxRecDepth 8000 in
set_option maxHeartbeats 4000000 in
theorem markTypeS_c2 (b cap : Nat) (rs : List TR) (k : Nat) (w : World) (hb : b < w.heap.size) (hr : ∀ (x : Nat) (hx : x < rs.length), AtT w b (x * 2) rs[x] ∧ rs[x].ok w) (hsep : SepT b rs) (hfree : FreeP w (insT b rs)) (hl : ∀ r ∈ rs, r.light) (hlen : rs.length ≤ 1048576) (h0 : 0 < k) (h1 : k + wT rs ≤ 1000000000) :
  Calls Tryz.prog 11 #[.slice (some ⟨b, 0, none⟩) rs.length cap, .int .i64 (k : Int)] w fun e w' => e = .returned (.int .i64 ((k + wT rs : Nat) : Int)) ∧ (∀ (x : Nat) (hx : x < rs.length), AtT w' b (x * 2) (rs[x].mkd (k + wT (rs.take x))) ∧ (rs[x].mkd (k + wT (rs.take x))).ok w') ∧ Chg (insT b rs) w w' := by
 have HSEP : Hid (SepT b rs) := hsep
 have HFE : Hid (FreeP w (insT b rs)) := hfree
 have HL : Hid (∀ r ∈ rs, r.light) := hl
 clear hsep hfree hl
 go_enter Tryz.func11, Tryz.ntmps11
 go_wp2
 go_loopw [1, 5] (fun kv i wr => ∃ j K : Nat, j ≤ rs.length ∧ Hid (K = k + wT (rs.take j)) ∧ kv = .int .i64 (K : Int) ∧ i = .int .i64 (j : Int) ∧ Hid (∀ (x : Nat) (hx : x < rs.length), AtT wr b (x * 2) (curT k rs j x hx) ∧ (curT k rs j x hx).ok wr) ∧ Hid (Chg (insT b rs) w wr)) (fun _ i _ => rs.length - (intOf i).toNat)
 case atStart => exact ⟨0, k, Nat.zero_le _, by show _ = _; simp [wT], rfl, rfl, fun x hx => by simpa [curT] using hr x hx, Chg.refl _ _⟩
 case round =>
  clear hr
  obtain ⟨j, K, hj, HK, rfl, rfl, HC, HCH⟩ := hrel
  by_cases hlt : j < rs.length
  ·obtain ⟨⟨c0, c1⟩, hok⟩ := HC.out j hlt
   have hcur : curT k rs j j hlt = rs[j] := by unfold curT; rw [if_neg (by omega)]
   rw [hcur] at c0 c1 hok
   have HOK : Hid (rs[j].ok wr) := hok
   have HLG : Hid (rs[j].light) := HL.out rs[j] (List.getElem_mem hlt)
   have hKb : 0 < K ∧ K + (1 + wR rs[j].rows) ≤ 1000000000 := by
    have h2 := wT_le rs (j + 1)
    rw [wT_take _ _ hlt] at h2
    have := HK.out
    omega
   have hK0 := hKb.1
   have hK1 := hKb.2
   have hgl : b < wr.heap.size := Nat.lt_of_lt_of_le hb HCH.out.size
   have HFW : Hid (FreeP wr (insT b rs)) := HFE.out.chg HCH.out
   have hj1 : (0 : Int) ≤ (j : Int) := by omega
   have hj2 : (j : Int) < (rs.length : Int) := by omega
   have HNB : Hid (¬ blkT rs[j] b) := HSEP.out.head _ (List.getElem_mem hlt)
   have HGD : Hid (GoodT rs[j]) := HSEP.out.good _ (List.getElem_mem hlt)
   clear hKb hok hcur
   go_wp2_with fail
   refine (markText_at _ K _ (by omega) (by omega) (by omega)).mono ?_
   rintro e w1 ⟨rfl, hb1⟩
   have HB1 : Hid (Below wr.heap.size wr w1) := hb1
   replace c0 := kept hb1 hgl c0
   replace c1 := kept hb1 hgl c1
   have fz : ∀ y, w1.frozen? ⟨b, y, none⟩ = false := fun y => keptF hb1 hgl ((HFW.out b (.inl rfl)).2 y)
   obtain ⟨W2, hW2⟩ : ∃ W2, W2 = w1.setCell ⟨b, j * 2, none⟩ (.string (mtx K)) := ⟨_, rfl⟩
   have HC2 : Hid (Chg (fun g => g = b) wr W2) := (Chg.of hb1).trans (by rw [hW2]; exact Chg.set _ rfl)
   have HO2 : Hid (∀ o, o ≠ j * 2 → W2.cell? ⟨b, o, none⟩ = wr.cell? ⟨b, o, none⟩) := fun o ho => by rw [hW2, setO' (Ne.symm ho)]; exact HB1.out.cell (p := ⟨b, o, none⟩) hgl
   have HS2 : Hid (W2.cell? ⟨b, j * 2, none⟩ = some (.string (mtx K)) ∧ W2.cell? ⟨b, j * 2 + 1, none⟩ = some (.slice rs[j].ad rs[j].rows.length rs[j].cap)) := by
    rw [hW2]
    exact ⟨setS' c0, by rw [setO' (by omega)]; exact c1⟩
   have hgl2 : b < W2.heap.size := Nat.lt_of_lt_of_le hgl HC2.out.size
   have HOK2 : Hid (rs[j].ok W2) := HOK.out.chg HC2.out HGD.out fun g hg e => HNB.out (by rw [← e]; exact hg)
   have HFI : Hid (FreeP W2 (blkT rs[j])) := (HFW.out.chg HC2.out).mono fun g hg => .inr ⟨_, List.getElem_mem hlt, hg⟩
   clear hb1
   go_wp2_with fail
   rw [← hW2]
   clear hW2 fz c0 c1
   refine (markRelationS_c _ rs[j] (K + 1) _ (by omega) HOK2.out HGD.out HFI.out HLG.out (by omega) (by omega)).mono ?_
   rintro e w3 ⟨rfl, hsl3, hc3⟩
   have HC3 : Hid (Chg (fun g => g = b ∨ blkT rs[j] g) wr w3) := (HC2.out.mono fun g hg => .inl hg).trans (hc3.mono fun g hg => .inr hg)
   have HO3 : Hid (∀ o, w3.cell? ⟨b, o, none⟩ = W2.cell? ⟨b, o, none⟩) := fun o => hc3.cell hgl2 HNB.out
   have HCN : Hid (∀ (x : Nat) (hx : x < rs.length), AtT w3 b (x * 2) (curT k rs (j + 1) x hx) ∧ (curT k rs (j + 1) x hx).ok w3) := by
    intro x hx
    by_cases e : x = j
    ·subst e
     have hcur : curT k rs (x + 1) x hx = rs[x].mkd K := by unfold curT; rw [if_pos (by omega), HK.out]
     rw [hcur]
     refine ⟨⟨?_, ?_⟩, hsl3⟩
     ·rw [HO3.out]; exact HS2.out.1
     ·rw [HO3.out, HS2.out.2]
      show _ = some (Value.slice rs[x].ad (mkR _ _).length rs[x].cap)
      rw [mkR_len]
    ·have hcur : curT k rs (j + 1) x hx = curT k rs j x hx := by
      unfold curT
      by_cases h2 : x < j
      ·rw [if_pos h2, if_pos (by omega)]
      ·rw [if_neg h2, if_neg (by omega)]
     rw [hcur]
     obtain ⟨⟨p0, p1⟩, hok⟩ := HC.out x hx
     obtain ⟨q1, q2⟩ := curT_same k rs j x hx (HSEP.out.good _ (List.getElem_mem hx))
     refine ⟨⟨?_, ?_⟩, hok.chg HC3.out q1 ?_⟩
     ·rw [HO3.out, HO2.out _ (by omega)]; exact p0
     ·rw [HO3.out, HO2.out _ (by omega)]; exact p1
     ·rintro g hg (h | h)
      ·subst h; exact HSEP.out.head _ (List.getElem_mem hx) (q2 _ hg)
      ·exact HSEP.out.two x j hx hlt e g (q2 _ hg) h
   have HCHN : Hid (Chg (insT b rs) w w3) := HCH.out.trans (HC3.out.mono fun g hg => hg.elim .inl fun h => .inr ⟨rs[j], List.getElem_mem hlt, h⟩)
   have HKN : Hid (K + 1 + wR rs[j].rows = k + wT (rs.take (j + 1))) := by
    show _ = _
    rw [wT_take _ _ hlt, HK.out]; omega
   clear hc3 hsl3
   go_wp2
   go_roundw
   case rel => exact ⟨j + 1, K + 1 + wR rs[j].rows, by omega, HKN, by go_num, by go_num, HCN, HCHN⟩
   case measure => first | (simp [intOf]; done) | (simp [intOf]; omega)
  ·obtain rfl : j = rs.length := by omega
   have HKE : Hid (K = k + wT rs) := by have := HK.out; rw [List.take_length] at this; exact this
   have HEND : Hid (∀ (x : Nat) (hx : x < rs.length), AtT wr b (x * 2) (rs[x].mkd (k + wT (rs.take x))) ∧ (rs[x].mkd (k + wT (rs.take x))).ok wr) := fun x hx => by
    have := HC.out x hx
    unfold curT at this
    rw [if_pos hx] at this
    exact this
   go_wp2
   go_ret
   exact ⟨by rw [← HKE.out]; rfl, HEND.out, HCH.out⟩
theorem mkT_sl {w : World} {b k : Nat} {rs : List TR} (hb : b < w.heap.size) (h : ∀ (x : Nat) (hx : x < rs.length), AtT w b (x * 2) (rs[x].mkd (k + wT (rs.take x))) ∧ (rs[x].mkd (k + wT (rs.take x))).ok w) : SlT w (some ⟨b, 0, none⟩) (mkT k rs) := by
 refine .inr ⟨b, 0, rfl, hb, fun i hi => ?_, fun r hr => ?_⟩
 ·have h2 : i < rs.length := by rw [mkT_len] at hi; exact hi
  rw [mkT_at k rs i hi h2, Nat.zero_add]
  exact (h i h2).1
 ·obtain ⟨i, hi, rfl⟩ := List.getElem_of_mem hr
  have h2 : i < rs.length := by rw [mkT_len] at hi; exact hi
  rw [mkT_at k rs i hi h2]
  exact (h i h2).2
end Go.Proofs.YtmghabcaakgjiaaGreat
