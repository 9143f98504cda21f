/- Contract of the document's l7Sort: relations by their names, in a new row. -/
import Derived.Test.YtmghabcaakgjiaaGreatSpecPruned
import Derived.Test.YtmghabcaakgjiaaGreatJ11
namespace Go.Proofs.YtmghabcaakgjiaaGreat
set_option maxRecDepth 100000
set_option linter.unusedVariables false
open Go.ChangeShapes Go.WideShapes Go.ChangeAt Go.RowKit Go.Maps
open Pl
def putQ (r : RR) : List RR → List RR
 | [] => [r]
 | x :: xs => if lessB x.name r.name then x :: putQ r xs else r :: x :: xs
def sortQ (rs : List RR) : List RR := rs.foldl (fun out r => putQ r out) []
theorem putQ_p (r : RR) : ∀ xs : List RR, rls (putQ r xs) = putR r.p (rls xs)
 | [] => rfl
 | x :: xs => by
  have ih := putQ_p r xs
  unfold rls at ih ⊢
  simp only [putQ, List.map_cons, putR]
  have e : lessB x.p.name r.p.name = lessB x.name r.name := rfl
  rw [e]
  split
  ·rw [List.map_cons, ih]
  ·rfl
theorem foldQ_p : ∀ (rs acc : List RR), rls (rs.foldl (fun out r => putQ r out) acc) = (rls rs).foldl (fun out r => putR r out) (rls acc)
 | [], acc => rfl
 | r :: rs, acc => by
  show rls (rs.foldl _ (putQ r acc)) = (rls rs).foldl _ (putR r.p (rls acc))
  rw [foldQ_p rs, putQ_p]
theorem sortQ_p (rs : List RR) : rls (sortQ rs) = sortR (rls rs) := foldQ_p rs []
theorem putQ_perm (r : RR) : ∀ xs : List RR, (putQ r xs).Perm (r :: xs)
 | [] => List.Perm.refl _
 | x :: xs => by
  unfold putQ
  split
  ·exact ((putQ_perm r xs).cons x).trans (List.Perm.swap _ _ _)
  ·exact List.Perm.refl _
theorem foldQ_perm : ∀ (rs acc : List RR), (rs.foldl (fun out r => putQ r out) acc).Perm (rs ++ acc)
 | [], acc => List.Perm.refl _
 | r :: rs, acc => (foldQ_perm rs (putQ r acc)).trans (((putQ_perm r acc).append_left rs).trans List.perm_middle)
theorem sortQ_perm (rs : List RR) : (sortQ rs).Perm rs := by simpa [sortQ] using foldQ_perm rs []
theorem sortQ_snoc (rs : List RR) (r : RR) : sortQ (rs ++ [r]) = putQ r (sortQ rs) := by unfold sortQ; rw [List.foldl_append]; rfl
theorem putQ_is {r : RR} : ∀ {xs : List RR} {p : Nat}, p ≤ xs.length → (∀ (i : Nat) (h : i < xs.length), i < p → lessB xs[i].name r.name = true) → (∀ h : p < xs.length, lessB xs[p].name r.name = false) → putQ r xs = xs.take p ++ r :: xs.drop p
 | [], p, hp, _, _ => by
  obtain rfl : p = 0 := by simpa using hp
  rfl
 | x :: xs, 0, _, _, h2 => by
  have := h2 (by simp)
  simp only [List.getElem_cons_zero] at this
  simp [putQ, this]
 | x :: xs, p + 1, hp, h1, h2 => by
  have h0 := h1 0 (by simp) (by omega)
  simp only [List.getElem_cons_zero] at h0
  have ih := putQ_is (r := r) (xs := xs) (p := p) (by simpa using hp) (fun i h hi => h1 (i + 1) (by simpa using h) (by omega)) (fun h => h2 (by simpa using h))
  simp [putQ, h0, ih]
theorem cells2_take (xs : List RR) : ∀ p, (xs.take p).flatMap RR.cells = (xs.flatMap RR.cells).take (p * 2) := by
 induction xs with
 | nil => intro p; simp
 | cons x xs ih =>
  intro p
  cases p with
  | zero => simp
  | succ p => rw [List.take_succ_cons, List.flatMap_cons, List.flatMap_cons, ih p, show (p + 1) * 2 = p * 2 + 1 + 1 by omega]; simp [RR.cells]
theorem cells2_drop (xs : List RR) : ∀ p, (xs.drop p).flatMap RR.cells = (xs.flatMap RR.cells).drop (p * 2) := by
 induction xs with
 | nil => intro p; simp
 | cons x xs ih =>
  intro p
  cases p with
  | zero => simp
  | succ p => rw [List.drop_succ_cons, List.flatMap_cons, ih p, show (p + 1) * 2 = p * 2 + 1 + 1 by omega]; simp [RR.cells]
theorem own_newsT {w : World} {base g n cap : Nat} {xs : List RR} (h : w.ownsRow base 46 2 (.slice (some ⟨g, 0, none⟩) n cap) n (xs.flatMap RR.cells)) (p : Nat) (hp : p ≤ n) : ∀ j u, ((xs.take p).flatMap RR.cells)[j]? = some u → w.cell? ((⟨g, 0, none⟩ : Addr).add j) = some u := fun j u hu => by
 rw [cells2_take, List.getElem?_take] at hu
 split at hu
 ·rename_i hj
  have := h.cellAt j (by omega)
  rw [hu] at this
  have e : (⟨g, 0, none⟩ : Addr).add j = ⟨g, j, none⟩ := by unfold Addr.add; split <;> simp_all
  rw [e]; exact this
 ·cases hu
theorem own_newsD {w : World} {base g n cap : Nat} {xs : List RR} (h : w.ownsRow base 46 2 (.slice (some ⟨g, 0, none⟩) n cap) n (xs.flatMap RR.cells)) (p : Nat) (hp : p ≤ n) : ∀ j u, ((xs.drop p).flatMap RR.cells)[j]? = some u → w.cell? ((⟨g, p * 2, none⟩ : Addr).add j) = some u := fun j u hu => by
 rw [cells2_drop, List.getElem?_drop] at hu
 have hl := h.1
 have hj : p * 2 + j < n * 2 := by
  rw [← hl]; exact (List.getElem?_eq_some_iff.1 hu).1
 have := h.cellAt (p * 2 + j) hj
 rw [hu] at this
 have e : (⟨g, p * 2, none⟩ : Addr).add j = ⟨g, p * 2 + j, none⟩ := by unfold Addr.add; split <;> simp_all
 rw [e]; exact this
theorem cells_one (xs : List RR) : ∀ u ∈ xs.flatMap RR.cells, u.oneCell' = true := fun u hu => by
 obtain ⟨q, -, h⟩ := List.mem_flatMap.1 hu
 simp only [RR.cells, RR.vs, List.mem_cons, List.not_mem_nil, or_false] at h
 rcases h with rfl | rfl <;> rfl
theorem newsQ_none {w : World} {a : Addr} {xs : List RR} (h : xs = []) : ∀ j u, (xs.flatMap RR.cells)[j]? = some u → w.cell? (a.add j) = some u := fun j u hu => by
 rw [h] at hu; simp at hu
set_option maxHeartbeats 8000000 in
theorem l7Sort_any (ad : Option Addr) (cap : Nat) (rows : List RR) (w : World) (hlen : rows.length ≤ 6) (hs : SlR w ad rows) :
  Calls Tryz.prog 23 #[.slice ad rows.length cap] w fun e w' => ∃ v : Value, e = .returned v ∧ w'.ownsRow w.heap.size 46 2 v rows.length ((sortQ rows).flatMap RR.cells) ∧ Below w.heap.size w w' := by
 obtain ⟨iR, hiR, zR0, zR1, zR2⟩ := info_parts (P := Tryz.prog) (e := 46) (z := .agg #[.string ⟨#[]⟩, .slice none 0 0]) (size := 2) (bytes := 40) (by kernel_rfl)
 have HIR : Hid (Tryz.prog.info? 46 = some iR ∧ iR.zero = some (.agg #[.string ⟨#[]⟩, .slice none 0 0]) ∧ iR.size = 2 ∧ iR.bytes = 40) := ⟨hiR, zR0, zR1, zR2⟩
 have HS := toHX hs
 clear hs hiR zR0 zR1 zR2
 obtain ⟨W0, hW0⟩ : ∃ W0, W0 = w.alloc (.cells #[] 46) := ⟨_, rfl⟩
 have HB0 : Hid (Below w.heap.size w W0) := by show Below _ _ _; rw [hW0]; exact (Below.refl _ _).alloc (Nat.le_refl _) _
 have HO0 : Hid (W0.ownsRow w.heap.size 46 2 (.slice (some ⟨w.heap.size, 0, none⟩) 0 0) 0 []) := by
  show World.ownsRow _ _ _ _ _ _ _
  rw [hW0]
  exact World.ownsRow_lit w #[] 0 (Nat.le_refl _) (by unfold maxLen; omega) (by simp)
 go_enter Tryz.func23, Tryz.ntmps23
 go_wp2_with fail
 rw [← hW0]
 clear hW0
 go_loopw [3, 4] (fun v i wr => ∃ (k g c : Nat), k ≤ rows.length ∧ i = .int .i64 k ∧ v = .slice (some ⟨g, 0, none⟩) k c ∧ Hid (wr.ownsRow w.heap.size 46 2 (.slice (some ⟨g, 0, none⟩) k c) k ((sortQ (rows.take k)).flatMap RR.cells)) ∧ Hid (Below w.heap.size w wr)) (fun _ i _ => rows.length - (intOf i).toNat)
 case atStart => exact ⟨0, w.heap.size, 0, Nat.zero_le _, rfl, rfl, HO0, HB0⟩
 case round =>
  clear HO0 HB0
  obtain ⟨k, g, c, hk, rfl, rfl, HO, HB⟩ := hrel
  by_cases hlt : k < rows.length
  ·obtain ⟨acc, hacc⟩ : ∃ acc, acc = sortQ (rows.take k) := ⟨_, rfl⟩
   have HNX : Hid (sortQ (rows.take (k + 1)) = putQ rows[k] acc) := by show _ = _; rw [List.take_succ_eq_append_getElem hlt, sortQ_snoc, hacc]
   have hal : acc.length = k := by rw [hacc, (sortQ_perm _).length_eq, List.length_take]; omega
   rw [← hacc] at HO
   have HAL := toHX hal
   have hkc : k ≤ c := cap_le HO.out
   have hk1 : (0 : Int) ≤ (k : Int) := by omega
   have hk2 : (k : Int) < (rows.length : Int) := by omega
   obtain ⟨b, off, hadr, hrow, hbl⟩ := SlR.row HS.out hlt
   have HROW := toHX hrow
   have HBL := toHX hbl
   obtain ⟨wo, hwo⟩ : ∃ wo, wo = wr := ⟨_, rfl⟩
   subst hwo
   rw [hadr]
   clear hacc hal hrow hbl hadr
   go_wp2_with fail
   go_loopw [5] (fun i wr => ∃ p : Nat, p ≤ k ∧ i = .int .i64 p ∧ Hid (∀ (i : Nat) (h : i < acc.length), i < p → lessB acc[i].name rows[k].name = true) ∧ Hid (Below wo.heap.size wo wr)) (fun i _ => k - (intOf i).toNat)
   case atStart => exact ⟨0, Nat.zero_le _, rfl, fun i h hi => absurd hi (Nat.not_lt_zero _), Below.refl _ _⟩
   case round =>
    obtain ⟨p, hp, rfl, HU, HBP⟩ := hrel
    have HOP : Hid (wr.ownsRow w.heap.size 46 2 (.slice (some ⟨g, 0, none⟩) k c) k (acc.flatMap RR.cells)) := own_heap HO.out fun z hz => HBP.out.block z (HO.out.lt z hz).2
    have HBWP : Hid (Below w.heap.size w wr) := HB.out.trans (HBP.out.mono HB.out.size)
    obtain ⟨y0, y1⟩ := HROW.out.later HBL.out HBWP.out
    have hbr : b < wr.heap.size := Nat.lt_of_lt_of_le HBL.out HBWP.out.size
    have hgr : g < wr.heap.size := (HOP.out.lt g rfl).2
    have hp1 : (0 : Int) ≤ (p : Int) := by omega
    by_cases hpk : p < k
    ·have hp2 : (p : Int) < (k : Int) := by omega
     have hd : decide ((p : Int) < (k : Int)) = true := by simp; omega
     have hpa : p < acc.length := by rw [HAL.out]; exact hpk
     have hcell := HOP.out.cellAt (p * 2) (by omega)
     have hat := cells2_at (cells := RR.cells) (fun _ => rfl) acc p hpa 0 (by omega)
     rw [Nat.add_zero] at hat
     have s0 : wr.cell? ⟨g, p * 2, none⟩ = some (.string acc[p].name) := hcell.trans hat
     clear hcell hat
     cases hq : Op.bytesLess acc[p].name.toList rows[k].name.toList with
     | true =>
      have HU2 : Hid (∀ (i : Nat) (h : i < acc.length), i < p + 1 → lessB acc[i].name rows[k].name = true) := fun i h hi => by
       by_cases e : i = p
       ·subst e; exact hq
       ·exact HU.out i h (by omega)
      go_wp2_with fail
      go_quiet (fail)
      go_wp2
      go_roundw
      case rel => exact ⟨p + 1, by omega, by go_num, HU2, belowN HBP.out _⟩
      case measure => first | (simp [intOf]; done) | (simp [intOf]; omega)
     | false =>
      have HPT : Hid (putQ rows[k] acc = acc.take p ++ rows[k] :: acc.drop p) := putQ_is (by rw [HAL.out]; exact hp) HU.out (fun _ => hq)
      go_wp2_with fail
      go_quiet (fail)
      clear hq s0 hd
      obtain ⟨X, hX⟩ : ∃ X, wr.drewN nq = X := ⟨_, rfl⟩
      have HBX : Hid (Below wo.heap.size wo X) := by show Below _ _ _; rw [← hX]; exact belowN HBP.out _
      have HSX : Hid (wr.heap.size ≤ X.heap.size) := by show _ ≤ _; rw [← hX]; exact Nat.le_refl _
      rw [hX]
      clear hX y0 y1 hbr HOP HBWP HBP HU
      obtain ⟨W1, hW1⟩ : ∃ W1, W1 = X.alloc (.cells #[] 46) := ⟨_, rfl⟩
      have HLIT : Hid (W1.ownsRow X.heap.size 46 2 (.slice (some ⟨X.heap.size, 0, none⟩) 0 0) 0 []) := by
       show World.ownsRow _ _ _ _ _ _ _
       rw [hW1]
       exact World.ownsRow_lit X #[] 0 (Nat.le_refl _) (by unfold maxLen; omega) (by simp)
      have HB1 : Hid (Below X.heap.size X W1) := by show Below _ _ _; rw [hW1]; exact (Below.refl _ _).alloc (Nat.le_refl _) _
      have HBO1 : Hid (Below wo.heap.size wo W1) := HBX.out.trans (HB1.out.mono HBX.out.size)
      have HR1 : Hid (W1.ownsRow w.heap.size 46 2 (.slice (some ⟨g, 0, none⟩) k c) k (acc.flatMap RR.cells)) := own_heap HO.out fun z hz => HBO1.out.block z (HO.out.lt z hz).2
      have hz1 : X.heap.size ≤ W1.heap.size := HB1.out.size
      have hgX : g < X.heap.size := Nat.lt_of_lt_of_le (HO.out.lt g rfl).2 HBX.out.size
      have hpc : p ≤ c := by omega
      go_wp2_with (at_builtin; go_must (rw [← hW1]; clear hW1; refine wpList_append_own_at _ rfl _ _ 42 rfl X.heap.size 46 iR (.agg #[.string ⟨#[]⟩, .slice none 0 0]) 2 40 Tryz.underlying42 HIR.out.1 HIR.out.2.1 HIR.out.2.2.1 HIR.out.2.2.2 rfl (by decide) _ 0 [] rfl HLIT.out ⟨g, 0, none⟩ p c ((acc.take p).flatMap RR.cells) rfl (by rw [cells2_len (fun _ => rfl), List.length_take]; congr 1; have := HAL.out; omega) (own_newsT HR1.out p hp) (cells_one _) (by unfold maxLen; omega) (by omega) hz1 ?_))
      intro v2 w2 hown2 hgr2 _ _
      have HO2 : Hid (w2.ownsRow X.heap.size 46 2 v2 p ((acc.take p).flatMap RR.cells)) := by
       show World.ownsRow _ _ _ _ _ _ _
       first | exact hown2 | (rw [Nat.zero_add, List.nil_append] at hown2; exact hown2) | simpa using hown2
      have HB2 : Hid (Below X.heap.size X w2) := HB1.out.grown hgr2 HB1.out.size (fun z hz => by simp [Value.ownBlock] at hz; omega)
      have hz2 : X.heap.size ≤ w2.heap.size := HB2.out.size
      have HBO2 : Hid (Below w.heap.size w w2) := (HB.out.trans (HBX.out.mono HB.out.size)).trans (HB2.out.mono (Nat.le_trans HB.out.size HBX.out.size))
      obtain ⟨y0, y1⟩ := HROW.out.later HBL.out HBO2.out
      have hbr : b < w2.heap.size := Nat.lt_of_lt_of_le HBL.out HBO2.out.size
      obtain ⟨W3, hW3⟩ : ∃ W3, W3 = w2.alloc (.cells #[.string rows[k].name, .slice rows[k].ad rows[k].rows.length rows[k].cap] 46) := ⟨_, rfl⟩
      have HO3 : Hid (W3.ownsRow X.heap.size 46 2 v2 p ((acc.take p).flatMap RR.cells)) := by show World.ownsRow _ _ _ _ _ _ _; rw [hW3]; exact HO2.out.alloc _
      have HNW : Hid (∀ j u, (RR.cells rows[k])[j]? = some u → W3.cell? ((⟨w2.heap.size, 0, none⟩ : Addr).add j) = some u) := by show ∀ j u, _; rw [hW3]; exact cells2_new w2 _ _ _
      have HB3 : Hid (Below X.heap.size X W3) := by show Below _ _ _; rw [hW3]; exact HB2.out.alloc HB2.out.size _
      have hz3 : X.heap.size ≤ W3.heap.size := HB3.out.size
      clear hown2 hgr2 HLIT HB1 HBO1 HR1 hz1
      go_wp2_with (at_builtin; go_must (rw [← hW3]; clear hW3; refine wpList_append_own_at _ rfl _ _ 42 rfl X.heap.size 46 iR (.agg #[.string ⟨#[]⟩, .slice none 0 0]) 2 40 Tryz.underlying42 HIR.out.1 HIR.out.2.1 HIR.out.2.2.1 HIR.out.2.2.2 rfl (by decide) v2 p ((acc.take p).flatMap RR.cells) rfl HO3.out ⟨w2.heap.size, 0, none⟩ 1 1 (RR.cells rows[k]) rfl rfl HNW.out (by simp [RR.cells, RR.vs, Value.oneCell']) (by unfold maxLen; omega) (by omega) hz3 ?_))
      intro v4 w4 hown4 hgr4 _ _
      have HO4 : Hid (w4.ownsRow X.heap.size 46 2 v4 (p + 1) ((acc.take p).flatMap RR.cells ++ RR.cells rows[k])) := hown4
      have HB4 : Hid (Below X.heap.size X w4) := HB3.out.grown hgr4 HB3.out.size (fun z hz => (HO2.out.lt z hz).1)
      have hz4 : X.heap.size ≤ w4.heap.size := HB4.out.size
      have HBO4 : Hid (Below wo.heap.size wo w4) := HBX.out.trans (HB4.out.mono HBX.out.size)
      have HR4 : Hid (w4.ownsRow w.heap.size 46 2 (.slice (some ⟨g, 0, none⟩) k c) k (acc.flatMap RR.cells)) := own_heap HO.out fun z hz => HBO4.out.block z (HO.out.lt z hz).2
      clear hown4 hgr4 HO3 HO2 HNW HB3 hz3 HB2 hz2 HBO2 y0 y1 hbr
      go_wp2_with (at_builtin; go_must (refine wpList_append_own_at _ rfl _ _ 42 rfl X.heap.size 46 iR (.agg #[.string ⟨#[]⟩, .slice none 0 0]) 2 40 Tryz.underlying42 HIR.out.1 HIR.out.2.1 HIR.out.2.2.1 HIR.out.2.2.2 rfl (by decide) v4 (p + 1) ((acc.take p).flatMap RR.cells ++ RR.cells rows[k]) rfl HO4.out ⟨g, p * 2, none⟩ (k - p) (c - p) ((acc.drop p).flatMap RR.cells) rfl (by rw [cells2_len (fun _ => rfl), List.length_drop]; have := HAL.out; congr 1; omega) (own_newsD HR4.out p hp) (cells_one _) (by unfold maxLen; omega) (by omega) hz4 ?_))
      intro v5 w5 hown5 hgr5 _ _
      have hn5 : p + 1 + (k - p) = k + 1 := by omega
      have HB5 : Hid (Below X.heap.size X w5) := HB4.out.grown hgr5 HB4.out.size (fun z hz => (HO4.out.lt z hz).1)
      have hown6 : w5.ownsRow X.heap.size 46 2 v5 (k + 1) ((sortQ (rows.take (k + 1))).flatMap RR.cells) := by
       rw [HNX.out, HPT.out, List.flatMap_append, List.flatMap_cons, ← hn5]
       exact hown5
      obtain ⟨ad5, c5, rfl⟩ := own_slice hown6
      obtain ⟨g5, rfl, -⟩ := own_zero hown6 (Nat.succ_ne_zero _)
      have HO6 := toHX (own_mono hown6 (Nat.le_trans HB.out.size HBX.out.size))
      have HB6 : Hid (Below w.heap.size w w5) := (HB.out.trans (HBX.out.mono HB.out.size)).trans (HB5.out.mono (Nat.le_trans HB.out.size HBX.out.size))
      clear hown5 hown6 hgr5 hn5
      go_wp2
      go_roundw
      case rel => exact ⟨k + 1, g5, c5, by omega, by go_num, by first | rfl | simp, HO6, HB6⟩
      case measure => first | (simp [intOf]; done) | (simp [intOf]; omega)
    ·have hd : decide ((p : Int) < (k : Int)) = false := by simp; omega
     have hpe : ¬ (p : Int) < (k : Int) := by omega
     have HPT : Hid (putQ rows[k] acc = acc.take p ++ rows[k] :: acc.drop p) := putQ_is (by rw [HAL.out]; exact hp) HU.out (fun h => absurd (by rw [HAL.out] at h; exact h) hpk)
     go_wp2_with fail
     go_quiet (fail)
     clear hd hpe
     obtain ⟨X, hX⟩ : ∃ X, wr.drewN nq = X := ⟨_, rfl⟩
     have HBX : Hid (Below wo.heap.size wo X) := by show Below _ _ _; rw [← hX]; exact belowN HBP.out _
     have HSX : Hid (wr.heap.size ≤ X.heap.size) := by show _ ≤ _; rw [← hX]; exact Nat.le_refl _
     rw [hX]
     clear hX y0 y1 hbr HOP HBWP HBP HU
     obtain ⟨W1, hW1⟩ : ∃ W1, W1 = X.alloc (.cells #[] 46) := ⟨_, rfl⟩
     have HLIT : Hid (W1.ownsRow X.heap.size 46 2 (.slice (some ⟨X.heap.size, 0, none⟩) 0 0) 0 []) := by
      show World.ownsRow _ _ _ _ _ _ _
      rw [hW1]
      exact World.ownsRow_lit X #[] 0 (Nat.le_refl _) (by unfold maxLen; omega) (by simp)
     have HB1 : Hid (Below X.heap.size X W1) := by show Below _ _ _; rw [hW1]; exact (Below.refl _ _).alloc (Nat.le_refl _) _
     have HBO1 : Hid (Below wo.heap.size wo W1) := HBX.out.trans (HB1.out.mono HBX.out.size)
     have HR1 : Hid (W1.ownsRow w.heap.size 46 2 (.slice (some ⟨g, 0, none⟩) k c) k (acc.flatMap RR.cells)) := own_heap HO.out fun z hz => HBO1.out.block z (HO.out.lt z hz).2
     have hz1 : X.heap.size ≤ W1.heap.size := HB1.out.size
     have hgX : g < X.heap.size := Nat.lt_of_lt_of_le (HO.out.lt g rfl).2 HBX.out.size
     have hpc : p ≤ c := by omega
     go_wp2_with (at_builtin; go_must (rw [← hW1]; clear hW1; refine wpList_append_own_at _ rfl _ _ 42 rfl X.heap.size 46 iR (.agg #[.string ⟨#[]⟩, .slice none 0 0]) 2 40 Tryz.underlying42 HIR.out.1 HIR.out.2.1 HIR.out.2.2.1 HIR.out.2.2.2 rfl (by decide) _ 0 [] rfl HLIT.out ⟨g, 0, none⟩ p c ((acc.take p).flatMap RR.cells) rfl (by rw [cells2_len (fun _ => rfl), List.length_take]; congr 1; have := HAL.out; omega) (own_newsT HR1.out p hp) (cells_one _) (by unfold maxLen; omega) (by omega) hz1 ?_))
     intro v2 w2 hown2 hgr2 _ _
     have HO2 : Hid (w2.ownsRow X.heap.size 46 2 v2 p ((acc.take p).flatMap RR.cells)) := by
      show World.ownsRow _ _ _ _ _ _ _
      first | exact hown2 | (rw [Nat.zero_add, List.nil_append] at hown2; exact hown2) | simpa using hown2
     have HB2 : Hid (Below X.heap.size X w2) := HB1.out.grown hgr2 HB1.out.size (fun z hz => by simp [Value.ownBlock] at hz; omega)
     have hz2 : X.heap.size ≤ w2.heap.size := HB2.out.size
     have HBO2 : Hid (Below w.heap.size w w2) := (HB.out.trans (HBX.out.mono HB.out.size)).trans (HB2.out.mono (Nat.le_trans HB.out.size HBX.out.size))
     obtain ⟨y0, y1⟩ := HROW.out.later HBL.out HBO2.out
     have hbr : b < w2.heap.size := Nat.lt_of_lt_of_le HBL.out HBO2.out.size
     obtain ⟨W3, hW3⟩ : ∃ W3, W3 = w2.alloc (.cells #[.string rows[k].name, .slice rows[k].ad rows[k].rows.length rows[k].cap] 46) := ⟨_, rfl⟩
     have HO3 : Hid (W3.ownsRow X.heap.size 46 2 v2 p ((acc.take p).flatMap RR.cells)) := by show World.ownsRow _ _ _ _ _ _ _; rw [hW3]; exact HO2.out.alloc _
     have HNW : Hid (∀ j u, (RR.cells rows[k])[j]? = some u → W3.cell? ((⟨w2.heap.size, 0, none⟩ : Addr).add j) = some u) := by show ∀ j u, _; rw [hW3]; exact cells2_new w2 _ _ _
     have HB3 : Hid (Below X.heap.size X W3) := by show Below _ _ _; rw [hW3]; exact HB2.out.alloc HB2.out.size _
     have hz3 : X.heap.size ≤ W3.heap.size := HB3.out.size
     clear hown2 hgr2 HLIT HB1 HBO1 HR1 hz1
     go_wp2_with (at_builtin; go_must (rw [← hW3]; clear hW3; refine wpList_append_own_at _ rfl _ _ 42 rfl X.heap.size 46 iR (.agg #[.string ⟨#[]⟩, .slice none 0 0]) 2 40 Tryz.underlying42 HIR.out.1 HIR.out.2.1 HIR.out.2.2.1 HIR.out.2.2.2 rfl (by decide) v2 p ((acc.take p).flatMap RR.cells) rfl HO3.out ⟨w2.heap.size, 0, none⟩ 1 1 (RR.cells rows[k]) rfl rfl HNW.out (by simp [RR.cells, RR.vs, Value.oneCell']) (by unfold maxLen; omega) (by omega) hz3 ?_))
     intro v4 w4 hown4 hgr4 _ _
     have HO4 : Hid (w4.ownsRow X.heap.size 46 2 v4 (p + 1) ((acc.take p).flatMap RR.cells ++ RR.cells rows[k])) := hown4
     have HB4 : Hid (Below X.heap.size X w4) := HB3.out.grown hgr4 HB3.out.size (fun z hz => (HO2.out.lt z hz).1)
     have hz4 : X.heap.size ≤ w4.heap.size := HB4.out.size
     have HBO4 : Hid (Below wo.heap.size wo w4) := HBX.out.trans (HB4.out.mono HBX.out.size)
     have HR4 : Hid (w4.ownsRow w.heap.size 46 2 (.slice (some ⟨g, 0, none⟩) k c) k (acc.flatMap RR.cells)) := own_heap HO.out fun z hz => HBO4.out.block z (HO.out.lt z hz).2
     clear hown4 hgr4 HO3 HO2 HNW HB3 hz3 HB2 hz2 HBO2 y0 y1 hbr
     obtain rfl : p = k := by omega
     have HDN : Hid (acc.drop p = []) := List.drop_of_length_le (by rw [HAL.out]; exact Nat.le_refl _)
     by_cases hce : c = p
     all_goals
      go_wp2_with (at_builtin; go_must (refine wpList_append_own_at _ rfl _ _ 42 rfl X.heap.size 46 iR (.agg #[.string ⟨#[]⟩, .slice none 0 0]) 2 40 Tryz.underlying42 HIR.out.1 HIR.out.2.1 HIR.out.2.2.1 HIR.out.2.2.2 rfl (by decide) v4 (p + 1) ((acc.take p).flatMap RR.cells ++ RR.cells rows[p]) rfl HO4.out _ 0 _ ((acc.drop p).flatMap RR.cells) rfl (by rw [HDN.out]; rfl) (newsQ_none HDN.out) (cells_one _) (by unfold maxLen; omega) (by omega) hz4 ?_))
      intro v5 w5 hown5 hgr5 _ _
      have hn5 : p + 1 + 0 = p + 1 := rfl
      have HB5 : Hid (Below X.heap.size X w5) := HB4.out.grown hgr5 HB4.out.size (fun z hz => (HO4.out.lt z hz).1)
      have hown6 : w5.ownsRow X.heap.size 46 2 v5 (p + 1) ((sortQ (rows.take (p + 1))).flatMap RR.cells) := by
       rw [HNX.out, HPT.out, List.flatMap_append, List.flatMap_cons, ← hn5]
       exact hown5
      obtain ⟨ad5, c5, rfl⟩ := own_slice hown6
      obtain ⟨g5, rfl, -⟩ := own_zero hown6 (Nat.succ_ne_zero _)
      have HO6 := toHX (own_mono hown6 (Nat.le_trans HB.out.size HBX.out.size))
      have HB6 : Hid (Below w.heap.size w w5) := (HB.out.trans (HBX.out.mono HB.out.size)).trans (HB5.out.mono (Nat.le_trans HB.out.size HBX.out.size))
      clear hown5 hown6 hgr5 hn5
      go_wp2
      go_roundw
      case rel => exact ⟨p + 1, g5, c5, by omega, by go_num, by first | rfl | simp, HO6, HB6⟩
      case measure => first | (simp [intOf]; done) | (simp [intOf]; omega)
  ·obtain rfl : k = rows.length := by omega
   have HE : Hid (wr.ownsRow w.heap.size 46 2 (.slice (some ⟨g, 0, none⟩) rows.length c) rows.length ((sortQ rows).flatMap RR.cells)) := by have h := HO.out; rw [List.take_length] at h; exact h
   go_wp2
   go_ret
   exact ⟨_, rfl, HE.out, HB.out⟩
end Go.Proofs.YtmghabcaakgjiaaGreat
