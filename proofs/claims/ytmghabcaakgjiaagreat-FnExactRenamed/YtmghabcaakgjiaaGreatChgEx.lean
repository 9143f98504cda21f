/- Contract of the program's changedExpr: an expression in new memory, its leaves as a function tells. -/
import Derived.Test.YtmghabcaakgjiaaGreatJ14
namespace Go.Proofs.YtmghabcaakgjiaaGreat
set_option maxRecDepth 100000
set_option linter.unusedVariables false
open Go.ChangeShapes Go.WideShapes Go.ChangeAt Go.RowKit Go.Maps
open Pl
def LeafC (FC : Nat) (rc cp : Array Value) (typ : ByteArray) (f : Ex → List Ex) (w : World) (r : ER) : Prop :=
 ∀ w1 : World, Below w.heap.size w w1 → Calls Tryz.prog FC (rc ++ (#[.string typ, r.val] ++ cp)) w1 fun e w' => ∃ (ad' : Option Addr) (cap' : Nat) (ms : List ER), e = .returned (.slice ad' ms.length cap') ∧ exs ms = f r.e ∧ Below w1.heap.size w1 w' ∧
  ∀ w2 : World, w'.heap.size ≤ w2.heap.size → (∀ g, g < w'.heap.size → (g < w.heap.size ∨ w1.heap.size ≤ g) → w2.heap[g]? = w'.heap[g]?) → SlE w2 ad' ms
def LeafB (f : Ex → List Ex) (e : Ex) : Prop := (f e).length ≤ 15 ∧ ∀ m ∈ f e, m.light ∧ ∀ x ∈ m.kids, 0 ≤ x ∧ x < 1000
theorem exs_at {rs : List ER} {k : Nat} (h : k < rs.length) (h2 : k < (exs rs).length) : (exs rs)[k] = rs[k].e := by simp [exs]
theorem exs_snoc (xs : List ER) (y : ER) : exs (xs ++ [y]) = exs xs ++ [y.e] := by simp [exs]
theorem row_new (w : World) (q : ER) : ∀ j u, q.row[j]? = some u → (w.alloc (.cells #[.int .i64 q.e.kind, .slice q.adA q.e.allow.length q.capA, .string q.e.over, .string q.e.name, .slice q.adK q.e.kids.length q.capK] 50)).cell? ((⟨w.heap.size, 0, none⟩ : Addr).add j) = some u := row5_news w q
set_option maxHeartbeats 8000000 in
theorem changedExpr_any (FC : Nat) (rc cp : Array Value) (typ : ByteArray) (f : Ex → List Ex) (ad : Option Addr) (cap : Nat) (rs : List ER) (w : World) (hlen : rs.length ≤ 15) (hs : SlE w ad rs) (hl : ∀ r ∈ rs, r.e.light) (hlow : kidsLow (exs rs)) (hB : ∀ r ∈ rs, LeafB f r.e)
  (hrun : ∀ (xs : Array Value) (u : World), (callFunc FC xs).run Tryz.prog u = .ok (.enter FC xs) u) (hch : ∀ r ∈ rs, r.e.kids = [] → LeafC FC rc cp typ f w r) :
  Calls Tryz.prog 65 #[.string typ, .slice ad rs.length cap, .func (Fn.func FC) rc cp] w fun e w' => ∃ (v : Value) (qs : List ER), e = .returned v ∧ NodM w' w.heap.size v qs ∧ exs qs = chgE f (exs rs) ∧ Below w.heap.size w w' := by
 obtain ⟨iE, hiE, zE0, zE1, zE2⟩ := info_parts (P := Tryz.prog) (e := 50) (z := .agg #[.int .i64 0, .slice none 0 0, .string ⟨#[]⟩, .string ⟨#[]⟩, .slice none 0 0]) (size := 5) (bytes := 88) (by kernel_rfl)
 obtain ⟨iI, hiI, zI0, zI1, zI2⟩ := info_parts (P := Tryz.prog) (e := 2) (z := .int .i64 0) (size := 1) (bytes := 8) (by kernel_rfl)
 have HIE : Hid (Tryz.prog.info? 50 = some iE ∧ iE.zero = some (.agg #[.int .i64 0, .slice none 0 0, .string ⟨#[]⟩, .string ⟨#[]⟩, .slice none 0 0]) ∧ iE.size = 5 ∧ iE.bytes = 88) := ⟨hiE, zE0, zE1, zE2⟩
 have HII : Hid (Tryz.prog.info? 2 = some iI ∧ iI.zero = some (.int .i64 0) ∧ iI.size = 1 ∧ iI.bytes = 8) := ⟨hiI, zI0, zI1, zI2⟩
 have HS : Hid (SlE w ad rs) := hs
 have HL : Hid (∀ r ∈ rs, r.e.light) := hl
 have HLOW : Hid (kidsLow (exs rs)) := hlow
 have HLB : Hid (∀ r ∈ rs, LeafB f r.e) := hB
 have HRUN : Hid (∀ (xs : Array Value) (u : World), (callFunc FC xs).run Tryz.prog u = .ok (.enter FC xs) u) := hrun
 have HCH : Hid (∀ r ∈ rs, r.e.kids = [] → LeafC FC rc cp typ f w r) := hch
 have HFEW : Hid (∀ k, k ≤ rs.length → (chgUp f (exs rs) k).1.length ≤ k * 15 ∧ (chgUp f (exs rs) k).2.length = k) := fun k hk => ⟨chgUp_few f (exs rs) 15 (by omega) (fun e he => by
  obtain ⟨r, hr, rfl⟩ := List.mem_map.1 he
  exact (hB r hr).1) k (by rw [exs_len]; exact hk), chgUp_len f (exs rs) k (by rw [exs_len]; exact hk)⟩
 clear hs hl hlow hB hrun hch hiE zE0 zE1 zE2 hiI zI0 zI1 zI2
 obtain ⟨W0, hW0⟩ : ∃ W0, W0 = w.alloc (.cells #[.slice none 0 0] 48) := ⟨_, rfl⟩
 have HX0 : Hid (XS W0 w.heap.size (w.heap.size + 1) (.slice none 0 0) (.slice none 0 0) [] []) := by
  show XS _ _ _ _ _ _ _
  rw [hW0]
  exact ⟨ExM.nod (lotM_nil _ _), by simp, by simp, by simp, World.ownsRow_nil _ _ _ _, fun g hg => by simp [Value.ownBlock] at hg, by omega⟩
 have HB0 : Hid (Below w.heap.size w W0) := by show Below _ _ _; rw [hW0]; exact (Below.refl _ _).alloc (Nat.le_refl _) _
 go_enter Tryz.func65, Tryz.ntmps65
 go_wp2_with fail
 rw [← hW0]
 clear hW0
 go_loopw [7, 16] (fun v i wr => ∃ (k : Nat) (qs : List ER) (pv : Value), k ≤ rs.length ∧ i = .int .i64 k ∧ Hid (XS wr w.heap.size (w.heap.size + 1) v pv qs (chgUp f (exs rs) k).2) ∧ Hid (exs qs = (chgUp f (exs rs) k).1) ∧ Hid (Below w.heap.size w wr)) (fun _ i _ => rs.length - (intOf i).toNat)
 case atStart => exact ⟨0, [], .slice none 0 0, Nat.zero_le _, rfl, by rw [chgUp_zero]; exact HX0, by show _ = _; rw [chgUp_zero]; rfl, HB0⟩
 case round =>
  clear HX0 HB0
  obtain ⟨k, qs, pv, hk, rfl, HX, HQ, HB⟩ := hrel
  by_cases hlt : k < rs.length
  ·obtain ⟨adU, capU, rfl, -⟩ := ownsE HX.out.nod.own rfl HX.out.nod.ok
   rcases HS.out.below HB.out with hnil | ⟨b, off, hadr, hb, hr, hok⟩
   ·rw [hnil] at hlt; simp at hlt
   obtain ⟨t0, t1, t2, t3, t4⟩ := hr k hlt
   have HOK : Hid (rs[k].ok wr) := hok rs[k] (List.getElem_mem hlt)
   have hlg := HL.out rs[k] (List.getElem_mem hlt)
   have lA : rs[k].e.allow.length ≤ 1048576 := hlg.1
   have lK : rs[k].e.kids.length ≤ 1048576 := hlg.2
   have hk1 : (0 : Int) ≤ (k : Int) := by omega
   have hk2 : (k : Int) < (rs.length : Int) := by omega
   have hql : qs.length ≤ 225 := by
    have := (HFEW.out k hk).1
    rw [← exs_len, HQ.out]; omega
   obtain ⟨W1, hW1⟩ : ∃ W1, W1 = wr.alloc (.cells #[.int .i64 rs[k].e.kind, .slice rs[k].adA rs[k].e.allow.length rs[k].capA, .string rs[k].e.over, .string rs[k].e.name, .slice rs[k].adK rs[k].e.kids.length rs[k].capK] 50) := ⟨_, rfl⟩
   have HB1 : Hid (Below wr.heap.size wr W1) := by show Below _ _ _; rw [hW1]; exact (Below.refl _ _).alloc (Nat.le_refl _) _
   have hgl : wr.heap.size < W1.heap.size := by rw [hW1]; simp
   have p0 : W1.cell? ⟨wr.heap.size, 0, none⟩ = some (.int .i64 rs[k].e.kind) := by rw [hW1]; simp
   have p1 : W1.cell? ⟨wr.heap.size, 1, none⟩ = some (.slice rs[k].adA rs[k].e.allow.length rs[k].capA) := by rw [hW1]; simp
   have p2 : W1.cell? ⟨wr.heap.size, 2, none⟩ = some (.string rs[k].e.over) := by rw [hW1]; simp
   have p3 : W1.cell? ⟨wr.heap.size, 3, none⟩ = some (.string rs[k].e.name) := by rw [hW1]; simp
   have p4 : W1.cell? ⟨wr.heap.size, 4, none⟩ = some (.slice rs[k].adK rs[k].e.kids.length rs[k].capK) := by rw [hW1]; simp
   rw [hadr]
   clear hr hok hlg hadr hb
   by_cases hkid : rs[k].e.kids = []
   ·have hk0 : ¬ (0 : Int) < (rs[k].e.kids.length : Int) := by rw [hkid]; simp
    have hk0' : ¬ 0 < rs[k].e.kids.length := by rw [hkid]; simp
    have HKN : Hid (rs[k].e.kids = []) := hkid
    clear hkid
    obtain ⟨wo, hwo⟩ : ∃ wo, wo = wr := ⟨_, rfl⟩
    subst hwo
    have HS1 : Hid (W1.heap.size = wo.heap.size + 1) := by show _ = _; rw [hW1]; simp
    obtain ⟨W2, hW2⟩ : ∃ W2, W2 = (wo.alloc (.cells #[.int .i64 rs[k].e.kind, .slice rs[k].adA rs[k].e.allow.length rs[k].capA, .string rs[k].e.over, .string rs[k].e.name, .slice rs[k].adK rs[k].e.kids.length rs[k].capK] 50)).alloc (.cells #[.int .i64 (qs.length : Int)] 2) := ⟨_, rfl⟩
    have HBW2 : Hid (Below wo.heap.size wo W2) := by show Below _ _ _; rw [hW2]; exact ((Below.refl _ _).alloc (Nat.le_refl _) _).alloc (by simp) _
    have HG2 : Hid (W2.cell? ⟨wo.heap.size + 1, 0, none⟩ = some (.int .i64 (qs.length : Int)) ∧ wo.heap.size + 1 < W2.heap.size) := by
     show _ ∧ _
     rw [hW2]
     refine ⟨?_, by simp⟩
     have := World.cell?_alloc_mark (wo.alloc (.cells #[.int .i64 rs[k].e.kind, .slice rs[k].adA rs[k].e.allow.length rs[k].capA, .string rs[k].e.over, .string rs[k].e.name, .slice rs[k].adK rs[k].e.kids.length rs[k].capK] 50)) #[.int .i64 (qs.length : Int)] 2 (0, 0) 0
     rw [show (wo.alloc (.cells #[.int .i64 rs[k].e.kind, .slice rs[k].adA rs[k].e.allow.length rs[k].capA, .string rs[k].e.over, .string rs[k].e.name, .slice rs[k].adK rs[k].e.kids.length rs[k].capK] 50)).heap.size = wo.heap.size + 1 by simp] at this
     rw [this]; rfl
    have HSTEP : Hid (chgUp f (exs rs) (k + 1) = ((chgUp f (exs rs) k).1 ++ (f rs[k].e).map (movX fun x => (((chgUp f (exs rs) k).1.length : Nat) : Int) + x), (chgUp f (exs rs) k).2 ++ [((((chgUp f (exs rs) k).1 ++ (f rs[k].e).map (movX fun x => (((chgUp f (exs rs) k).1.length : Nat) : Int) + x)).length : Nat) : Int) - 1])) := by
     show _ = _
     rw [chgUp_succ f (exs rs) k (by rw [exs_len]; exact hlt), exs_at hlt]
     unfold chgStep
     rw [if_pos (by rw [HKN.out]; rfl)]
    clear hW1 p0 p1 p2 p3 p4
    go_wp2_with fail
    rw [← hW2, HRUN.out, Oper.upon_enter]
    clear hW2
    refine (HCH.out rs[k] (List.getElem_mem hlt) HKN.out W2 (HB.out.trans (HBW2.out.mono HB.out.size))).mono ?_
    rintro e w3 ⟨adM, capM, ms, rfl, hme, hb3, hst⟩
    have HST : Hid (∀ w2 : World, w3.heap.size ≤ w2.heap.size → (∀ g, g < w3.heap.size → (g < w.heap.size ∨ W2.heap.size ≤ g) → w2.heap[g]? = w3.heap[g]?) → SlE w2 adM ms) := hst
    have HME : Hid (exs ms = f rs[k].e) := hme
    have HLBK : Hid (LeafB f rs[k].e) := HLB.out _ (List.getElem_mem hlt)
    have hml : ms.length ≤ 15 := by rw [← exs_len, hme]; exact HLBK.out.1
    have HBW3 : Hid (Below wo.heap.size wo w3) := HBW2.out.trans (hb3.mono HBW2.out.size)
    have HX3 : Hid (XS w3 w.heap.size (w.heap.size + 1) (.slice adU qs.length capU) pv qs (chgUp f (exs rs) k).2) := HX.out.below HBW3.out
    have HG3 : Hid (w3.cell? ⟨wo.heap.size + 1, 0, none⟩ = some (.int .i64 (qs.length : Int)) ∧ wo.heap.size + 1 < w3.heap.size) := ⟨kept hb3 HG2.out.2 HG2.out.1, Nat.lt_of_lt_of_le HG2.out.2 hb3.size⟩
    have HW23 : Hid (W2.heap.size ≤ w3.heap.size) := hb3.size
    clear hst hme hb3 t0 t1 t2 t3 t4
    go_wp2_with fail
    go_loopw [7, 37] (fun v i wr => ∃ (j : Nat) (qs' : List ER), j ≤ ms.length ∧ i = .int .i64 j ∧ Hid (XS wr w.heap.size (w.heap.size + 1) v pv qs' (chgUp f (exs rs) k).2) ∧ Hid (exs qs' = exs qs ++ ((exs ms).take j).map (movX fun x => (qs.length : Int) + x)) ∧ Hid (Below w.heap.size w wr) ∧ Hid (w3.heap.size ≤ wr.heap.size) ∧ Hid (∀ g, g < w3.heap.size → (g < w.heap.size ∨ wo.heap.size ≤ g) → wr.heap[g]? = w3.heap[g]?) ∧ Hid (∀ g, v.ownBlock = some g → g < wo.heap.size ∨ w3.heap.size ≤ g)) (fun _ i _ => ms.length - (intOf i).toNat)
    case atStart => exact ⟨0, qs, Nat.zero_le _, rfl, HX3, by show _ = _; simp, HB.out.trans (HBW3.out.mono HB.out.size), Nat.le_refl _, fun g _ _ => rfl, fun g hg => .inl (HX.out.nod.own.lt g hg).2⟩
    case round =>
     clear HX3
     obtain ⟨j, qs', hj, rfl, HXI, HQI, HBI, HSI, HKI, HVI⟩ := hrel
     have hqi : qs'.length ≤ 240 := by
      have e : qs'.length = qs.length + min j ms.length := by
       rw [← exs_len, HQI.out, List.length_append, List.length_map, List.length_take, exs_len, exs_len]
      omega
     by_cases hjt : j < ms.length
     ·rcases HST.out wr HSI.out (fun g h1 h2 => HKI.out g h1 (h2.imp id fun h => Nat.le_trans HBW2.out.size h)) with hnil | ⟨b2, off2, hadr2, hb2, hr2, hok2⟩
      ·rw [hnil] at hjt; simp at hjt
      obtain ⟨t0, t1, t2, t3, t4⟩ := hr2 j hjt
      have HOK2 : Hid (ms[j].ok wr) := hok2 ms[j] (List.getElem_mem hjt)
      have hmem : ms[j].e ∈ f rs[k].e := by rw [← HME.out]; exact List.mem_map.2 ⟨ms[j], List.getElem_mem hjt, rfl⟩
      have hlg := (HLBK.out.2 _ hmem).1
      have HXK : Hid (∀ x ∈ ms[j].e.kids, 0 ≤ x ∧ x < 1000) := (HLBK.out.2 _ hmem).2
      have lA2 : ms[j].e.allow.length ≤ 1048576 := hlg.1
      have lK2 : ms[j].e.kids.length ≤ 1048576 := hlg.2
      have hj1 : (0 : Int) ≤ (j : Int) := by omega
      have hj2 : (j : Int) < (ms.length : Int) := by omega
      obtain ⟨W1b, hW1b⟩ : ∃ W1b, W1b = wr.alloc (.cells #[.int .i64 ms[j].e.kind, .slice ms[j].adA ms[j].e.allow.length ms[j].capA, .string ms[j].e.over, .string ms[j].e.name, .slice ms[j].adK ms[j].e.kids.length ms[j].capK] 50) := ⟨_, rfl⟩
      have HBb : Hid (Below wr.heap.size wr W1b) := by show Below _ _ _; rw [hW1b]; exact (Below.refl _ _).alloc (Nat.le_refl _) _
      have HGb : Hid (W1b.cell? ⟨wo.heap.size + 1, 0, none⟩ = some (.int .i64 (qs.length : Int)) ∧ wo.heap.size + 1 < W1b.heap.size) := by
       have h1 : wo.heap.size + 1 < wr.heap.size := Nat.lt_of_lt_of_le HG3.out.2 HSI.out
       exact ⟨kept HBb.out h1 ((World.cell?_of_block (a := ⟨wo.heap.size + 1, 0, none⟩) (HKI.out (wo.heap.size + 1) HG3.out.2 (.inr (Nat.le_succ _)))).trans HG3.out.1), Nat.lt_of_lt_of_le h1 HBb.out.size⟩
      rw [hadr2]
      clear hr2 hok2 hlg hmem hadr2
      go_wp2_with fail
      rw [← hW1b]
      clear hW1b
      refine (movedNode_any 94 (wo.heap.size + 1) (fun x => (qs.length : Int) + x) ms[j] _ (HOK2.out.below HBb.out) lA2 lK2 run_place2 (fun x hx w1 hb1 => ?pl2)).mono ?_
      case pl2 =>
       obtain ⟨l1, l2⟩ := HXK.out x hx
       exact place2_any (wo.heap.size + 1) qs.length x w1 (kept hb1 HGb.out.2 HGb.out.1) (by omega) l1 (by omega)
      rintro e w2 ⟨q, he2, hqe, hqn, hb2⟩
      have HX1 : Hid (XS W1b w.heap.size (w.heap.size + 1) u7 pv qs' (chgUp f (exs rs) k).2) := HXI.out.below HBb.out
      unfold ER.val at he2
      subst he2
      obtain ⟨W3, hW3⟩ : ∃ W3, W3 = w2.alloc (.cells #[.int .i64 q.e.kind, .slice q.adA q.e.allow.length q.capA, .string q.e.over, .string q.e.name, .slice q.adK q.e.kids.length q.capK] 50) := ⟨_, rfl⟩
      have HA3 : Hid (Below w2.heap.size w2 W3) := by show Below _ _ _; rw [hW3]; exact (Below.refl _ _).alloc (Nat.le_refl _) _
      have HB3 : Hid (Below W1b.heap.size W1b W3) := hb2.trans (HA3.out.mono hb2.size)
      have HN3 : Hid (NewQ W1b.heap.size W3 q) := kidE.heap w2 W3 _ q hqn HA3.out.size fun g hg => HA3.out.block g (hqn.lie g hg).2.1
      have HNW : Hid (∀ j u, q.row[j]? = some u → W3.cell? ((⟨w2.heap.size, 0, none⟩ : Addr).add j) = some u) := by rw [hW3]; exact row_new w2 q
      have HOW3 : Hid (W3.ownsRow (w.heap.size + 1) 50 5 (u7) qs'.length (rows5 qs')) := (HX1.out.below HB3.out).nod.own
      have HBA3 : Hid (w.heap.size + 1 ≤ W3.heap.size) := (HX1.out.below HB3.out).lt
      have HQE : Hid (q.e = _) := hqe
      clear hqn hqe hb2
      go_wp2_with (at_builtin; rw [← hW3]; clear hW3; refine wpList_append_own_at _ rfl _ _ 38 rfl (w.heap.size + 1) 50 iE (.agg #[.int .i64 0, .slice none 0 0, .string ⟨#[]⟩, .string ⟨#[]⟩, .slice none 0 0]) 5 88 Tryz.underlying38 HIE.out.1 HIE.out.2.1 HIE.out.2.2.1 HIE.out.2.2.2 rfl (by decide) (u7) qs'.length (rows5 qs') rfl HOW3.out ⟨w2.heap.size, 0, none⟩ 1 1 q.row rfl rfl HNW.out (row5_one q) (by unfold maxLen; omega) (by omega) HBA3.out ?_)
      intro v4 w4 hown4 hgr4 _ hv4
      have HBT : Hid (Below w.heap.size w w4) := ((HBI.out.trans (HBb.out.mono HBI.out.size)).trans (HB3.out.mono (Nat.le_trans HBI.out.size HBb.out.size))).grown hgr4 (by have := HBA3.out; omega) (fun g hg => by have := (HOW3.out.lt g hg).1; omega)
      have HX4 : Hid (XS w4 w.heap.size (w.heap.size + 1) v4 pv (qs' ++ [q]) (chgUp f (exs rs) k).2) := HX1.out.add HB3.out HN3.out hown4 hgr4 (hv4.imp id fun e => ⟨_, e, Nat.le_refl _⟩)
      have HQ4 : Hid (exs (qs' ++ [q]) = exs qs ++ ((exs ms).take (j + 1)).map (movX fun x => (qs.length : Int) + x)) := by
       show _ = _
       rw [exs_snoc, HQI.out, HQE.out, List.take_succ_eq_append_getElem (by rw [exs_len]; exact hjt), List.map_append, exs_at hjt, List.append_assoc]; rfl
      have HS4 : Hid (w3.heap.size ≤ w4.heap.size) := Nat.le_trans HSI.out (Nat.le_trans HBb.out.size (Nat.le_trans HB3.out.size hgr4.size))
      have HW3 : Hid (wr.heap.size ≤ W3.heap.size) := Nat.le_trans HBb.out.size HB3.out.size
      have HK4 : Hid (∀ g, g < w3.heap.size → (g < w.heap.size ∨ wo.heap.size ≤ g) → w4.heap[g]? = w3.heap[g]?) := fun g h1 h2 => by
       have hg : g < wr.heap.size := Nat.lt_of_lt_of_le h1 HSI.out
       have e1 : w4.heap[g]? = W3.heap[g]? := hgr4.block g (Nat.lt_of_lt_of_le hg HW3.out) (fun e => by
        have h3 := HVI.out g e.symm
        have h4 := (HXI.out.nod.own.lt g e.symm).1
        omega)
       rw [e1, HB3.out.block g (Nat.lt_of_lt_of_le hg HBb.out.size), HBb.out.block g hg]
       exact HKI.out g h1 h2
      have HV4 : Hid (∀ g, v4.ownBlock = some g → g < wo.heap.size ∨ w3.heap.size ≤ g) := fun g hg => by
       rcases hv4 with e | e
       ·exact HVI.out g (by rw [← e]; exact hg)
       ·rw [e] at hg; injection hg with hg
        have := HW3.out
        have := HSI.out
        exact .inr (by omega)
      clear hown4 hgr4 hv4 HOW3 HNW HN3 HB3 HA3 HX1 t0 t1 t2 t3 t4
      go_wp2
      go_roundw
      case rel => exact ⟨j + 1, qs' ++ [q], by omega, by go_num, HX4, HQ4, HBT, HS4, HK4, HV4⟩
      case measure => first | (simp [intOf]; done) | (simp [intOf]; omega)
     ·obtain rfl : j = ms.length := by omega
      have HQ2 : Hid (exs qs' = (chgUp f (exs rs) (k + 1)).1) := by
       show _ = _
       have := HQI.out
       rw [← exs_len ms, List.take_length, HME.out, HQ.out] at this
       rw [this, HSTEP.out, ← HQ.out, exs_len]
      have HPS : Hid ((chgUp f (exs rs) (k + 1)).2 = (chgUp f (exs rs) k).2 ++ [(qs'.length : Int) - 1]) := by
       show _ = _
       rw [← exs_len qs', HQ2.out, HSTEP.out]
      obtain ⟨qs2, hqs2⟩ : ∃ x, x = qs' := ⟨_, rfl⟩
      subst hqs2
      obtain ⟨adO, capO, rfl, -⟩ := ownsE HXI.out.nod.own rfl HXI.out.nod.ok
      have HXT : Hid (XS wr w.heap.size (w.heap.size + 1) (.slice adO qs2.length capO) pv qs2 (chgUp f (exs rs) k).2) := HXI.out
      have HBT : Hid (Below w.heap.size w wr) := HBI.out
      have hq2 : qs2.length ≤ 300 := by omega
      clear HXI HBI HKI HVI HSI
      have c0 := HXT.out.pl
      have f0 := HXT.out.fz
      have HPL2 : Hid ((chgUp f (exs rs) k).2.length = k) := (HFEW.out k hk).2
      have HRP : Hid (wr.ownsRow (w.heap.size + 1) 2 1 pv k (ints (chgUp f (exs rs) k).2)) := by have := HXT.out.row; rwa [HPL2.out] at this
      have HLT : Hid (w.heap.size + 1 ≤ wr.heap.size) := HXT.out.lt
      have hq2' : (qs2.length : Int) ≤ 300 := by omega
      go_wp2_with (at_builtin; refine wpList_append_own_at _ rfl _ _ 48 rfl (w.heap.size + 1) 2 iI (.int .i64 0) 1 8 Tryz.underlying48 HII.out.1 HII.out.2.1 HII.out.2.2.1 HII.out.2.2.2 rfl (by decide) pv k (ints (chgUp f (exs rs) k).2) rfl (HRP.out.alloc _) ⟨wr.heap.size, 0, none⟩ 1 1 [.int .i64 ((qs2.length : Int) - 1)] rfl rfl (cell_one_new _ _ _) (by intro u hu; simp at hu; subst hu; rfl) (by unfold maxLen; omega) (by omega) (by simp; have := HLT.out; omega) ?_)
      intro v5 w5 hown5 hgr5 _ hv5
      obtain ⟨ad5, cap5, rfl⟩ := own_slice hown5
      have HA5 : Hid (Below wr.heap.size wr (wr.alloc (.cells #[.int .i64 ((qs2.length : Int) - 1)] 2))) := (Below.refl _ _).alloc (Nat.le_refl _) _
      have HPB : Hid (w5.heap[w.heap.size]? = (wr.alloc (.cells #[.int .i64 ((qs2.length : Int) - 1)] 2)).heap[w.heap.size]?) := hgr5.block _ (by simp; have := HLT.out; omega) (fun e => by have := (HXT.out.row.lt _ e.symm).1; omega)
      have HXA5 : Hid (XS (wr.alloc (.cells #[.int .i64 ((qs2.length : Int) - 1)] 2)) w.heap.size (w.heap.size + 1) (.slice adO qs2.length capO) pv qs2 (chgUp f (exs rs) k).2) := HXT.out.below HA5.out
      have c5 : w5.cell? ⟨w.heap.size, 0, none⟩ = some pv := (World.cell?_of_block (a := ⟨w.heap.size, 0, none⟩) HPB.out).trans HXA5.out.pl
      have f5 : w5.frozen? ⟨w.heap.size, 0, none⟩ = false := (World.frozen?_of_block (a := ⟨w.heap.size, 0, none⟩) HPB.out).trans HXA5.out.fz
      have HX5 : Hid (XS (w5.setCell ⟨w.heap.size, 0, none⟩ (.slice ad5 (k + 1) cap5)) w.heap.size (w.heap.size + 1) (.slice adO qs2.length capO) (.slice ad5 (k + 1) cap5) qs2 (chgUp f (exs rs) (k + 1)).2) := by
       show XS _ _ _ _ _ _ _
       rw [HPS.out]
       exact HXT.out.place HA5.out (by rw [HPL2.out]; exact hown5) hgr5 (hv5.imp id fun e => ⟨_, e, by simp⟩)
      have HB5 : Hid (Below w.heap.size w (w5.setCell ⟨w.heap.size, 0, none⟩ (.slice ad5 (k + 1) cap5))) := ((HBT.out.trans (HA5.out.mono HBT.out.size)).grown hgr5 (by simp; have := HLT.out; omega) (fun g hg => by have := (HXT.out.row.lt g hg).1; omega)).setCell (Nat.le_refl _) _
      clear hown5 hgr5 hv5 c0 f0
      go_wp2
      go_roundw
      case rel => exact ⟨k + 1, qs2, .slice ad5 (k + 1) cap5, by omega, by go_num, HX5, HQ2, HB5⟩
      case measure => first | (simp [intOf]; done) | (simp [intOf]; omega)
   ·have hk0 : (0 : Int) < (rs[k].e.kids.length : Int) := by
     have := List.length_pos_iff.2 hkid; omega
    have hk0' : 0 < rs[k].e.kids.length := List.length_pos_iff.2 hkid
    have HSTEP : Hid (chgUp f (exs rs) (k + 1) = ((chgUp f (exs rs) k).1 ++ [movX (fun x => (chgUp f (exs rs) k).2.getD x.toNat 0) rs[k].e], (chgUp f (exs rs) k).2 ++ [((chgUp f (exs rs) k).1.length : Int)])) := by
     show _ = _
     rw [chgUp_succ f (exs rs) k (by rw [exs_len]; exact hlt), exs_at hlt]
     unfold chgStep
     rw [if_neg (by simpa using hkid)]
    clear hkid
    go_wp2_with fail
    rw [← hW1]
    clear hW1
    refine (movedNode_any 93 w.heap.size (fun x => (chgUp f (exs rs) k).2.getD x.toNat 0) rs[k] _ (HOK.out.below HB1.out) lA lK run_place1 (fun x hx w1 hb1 => ?pl)).mono ?_
    case pl =>
     obtain ⟨l1, l2⟩ := HLOW.out k (by rw [exs_len]; exact hlt) x (by rw [exs_at hlt]; exact hx)
     have hx1 := (HX.out.below HB1.out).below hb1
     exact place1_any w.heap.size pv (w.heap.size + 1) _ x w1 hx1.pl hx1.row l1 (by rw [(HFEW.out k hk).2]; exact l2)
    rintro e w2 ⟨q, he2, hqe, hqn, hb2⟩
    have HX1 : Hid (XS W1 w.heap.size (w.heap.size + 1) (.slice adU qs.length capU) pv qs (chgUp f (exs rs) k).2) := HX.out.below HB1.out
    unfold ER.val at he2
    subst he2
    obtain ⟨W3, hW3⟩ : ∃ W3, W3 = w2.alloc (.cells #[.int .i64 q.e.kind, .slice q.adA q.e.allow.length q.capA, .string q.e.over, .string q.e.name, .slice q.adK q.e.kids.length q.capK] 50) := ⟨_, rfl⟩
    have HA3 : Hid (Below w2.heap.size w2 W3) := by show Below _ _ _; rw [hW3]; exact (Below.refl _ _).alloc (Nat.le_refl _) _
    have HB3 : Hid (Below W1.heap.size W1 W3) := hb2.trans (HA3.out.mono hb2.size)
    have HN3 : Hid (NewQ W1.heap.size W3 q) := kidE.heap w2 W3 _ q hqn HA3.out.size fun g hg => HA3.out.block g (hqn.lie g hg).2.1
    have HNW : Hid (∀ j u, q.row[j]? = some u → W3.cell? ((⟨w2.heap.size, 0, none⟩ : Addr).add j) = some u) := by rw [hW3]; exact row_new w2 q
    have HOW3 : Hid (W3.ownsRow (w.heap.size + 1) 50 5 (.slice adU qs.length capU) qs.length (rows5 qs)) := (HX1.out.below HB3.out).nod.own
    have HBA3 : Hid (w.heap.size + 1 ≤ W3.heap.size) := (HX1.out.below HB3.out).lt
    have HQE : Hid (q.e = _) := hqe
    clear hqn hqe hb2
    go_wp2_with (at_builtin; rw [← hW3]; clear hW3; refine wpList_append_own_at _ rfl _ _ 38 rfl (w.heap.size + 1) 50 iE (.agg #[.int .i64 0, .slice none 0 0, .string ⟨#[]⟩, .string ⟨#[]⟩, .slice none 0 0]) 5 88 Tryz.underlying38 HIE.out.1 HIE.out.2.1 HIE.out.2.2.1 HIE.out.2.2.2 rfl (by decide) (.slice adU qs.length capU) qs.length (rows5 qs) rfl HOW3.out ⟨w2.heap.size, 0, none⟩ 1 1 q.row rfl rfl HNW.out (row5_one q) (by unfold maxLen; omega) (by omega) HBA3.out ?_)
    intro v4 w4 hown4 hgr4 _ hv4
    have HBT : Hid (Below w.heap.size w w4) := ((HB.out.trans (HB1.out.mono HB.out.size)).trans (HB3.out.mono (Nat.le_trans HB.out.size HB1.out.size))).grown hgr4 (by have := HBA3.out; omega) (fun g hg => by have := (HOW3.out.lt g hg).1; omega)
    have hx4 : XS w4 w.heap.size (w.heap.size + 1) v4 pv (qs ++ [q]) (chgUp f (exs rs) k).2 := HX1.out.add HB3.out HN3.out hown4 hgr4 (hv4.imp id fun e => ⟨_, e, Nat.le_refl _⟩)
    have HQ2 : Hid (exs (qs ++ [q]) = (chgUp f (exs rs) (k + 1)).1) := by show _ = _; rw [exs_snoc, HQ.out, HQE.out, HSTEP.out]
    have HPS : Hid ((chgUp f (exs rs) (k + 1)).2 = (chgUp f (exs rs) k).2 ++ [((qs ++ [q]).length : Int) - 1]) := by
     show _ = _
     rw [HSTEP.out, ← HQ.out, exs_len, List.length_append, List.length_singleton]
     simp
    have hq2 : (qs ++ [q]).length ≤ 300 := by rw [List.length_append, List.length_singleton]; omega
    obtain ⟨qs2, hqs2⟩ : ∃ x, x = qs ++ [q] := ⟨_, rfl⟩
    rw [← hqs2] at HQ2 HPS hx4 hq2
    clear hqs2
    obtain ⟨adO, capO, rfl, -⟩ := ownsE hx4.nod.own rfl hx4.nod.ok
    have HXT : Hid (XS w4 w.heap.size (w.heap.size + 1) (.slice adO qs2.length capO) pv qs2 (chgUp f (exs rs) k).2) := hx4
    clear hx4 hown4 hgr4 hv4 HOW3 HNW HN3 HB3 HA3 p0 p1 p2 p3 p4 t0 t1 t2 t3 t4 HX1
    have c0 := HXT.out.pl
    have f0 := HXT.out.fz
    have HPL2 : Hid ((chgUp f (exs rs) k).2.length = k) := (HFEW.out k hk).2
    have HRP : Hid (w4.ownsRow (w.heap.size + 1) 2 1 pv k (ints (chgUp f (exs rs) k).2)) := by have := HXT.out.row; rwa [HPL2.out] at this
    have HLT : Hid (w.heap.size + 1 ≤ w4.heap.size) := HXT.out.lt
    have hq2' : (qs2.length : Int) ≤ 300 := by omega
    go_wp2_with (at_builtin; refine wpList_append_own_at _ rfl _ _ 48 rfl (w.heap.size + 1) 2 iI (.int .i64 0) 1 8 Tryz.underlying48 HII.out.1 HII.out.2.1 HII.out.2.2.1 HII.out.2.2.2 rfl (by decide) pv k (ints (chgUp f (exs rs) k).2) rfl (HRP.out.alloc _) ⟨w4.heap.size, 0, none⟩ 1 1 [.int .i64 ((qs2.length : Int) - 1)] rfl rfl (cell_one_new _ _ _) (by intro u hu; simp at hu; subst hu; rfl) (by unfold maxLen; omega) (by omega) (by simp; have := HLT.out; omega) ?_)
    intro v5 w5 hown5 hgr5 _ hv5
    obtain ⟨ad5, cap5, rfl⟩ := own_slice hown5
    have HA5 : Hid (Below w4.heap.size w4 (w4.alloc (.cells #[.int .i64 ((qs2.length : Int) - 1)] 2))) := (Below.refl _ _).alloc (Nat.le_refl _) _
    have HPB : Hid (w5.heap[w.heap.size]? = (w4.alloc (.cells #[.int .i64 ((qs2.length : Int) - 1)] 2)).heap[w.heap.size]?) := hgr5.block _ (by simp; have := HLT.out; omega) (fun e => by have := (HXT.out.row.lt _ e.symm).1; omega)
    have HXA5 : Hid (XS (w4.alloc (.cells #[.int .i64 ((qs2.length : Int) - 1)] 2)) w.heap.size (w.heap.size + 1) (.slice adO qs2.length capO) pv qs2 (chgUp f (exs rs) k).2) := HXT.out.below HA5.out
    have c5 : w5.cell? ⟨w.heap.size, 0, none⟩ = some pv := (World.cell?_of_block (a := ⟨w.heap.size, 0, none⟩) HPB.out).trans HXA5.out.pl
    have f5 : w5.frozen? ⟨w.heap.size, 0, none⟩ = false := (World.frozen?_of_block (a := ⟨w.heap.size, 0, none⟩) HPB.out).trans HXA5.out.fz
    have HX5 : Hid (XS (w5.setCell ⟨w.heap.size, 0, none⟩ (.slice ad5 (k + 1) cap5)) w.heap.size (w.heap.size + 1) (.slice adO qs2.length capO) (.slice ad5 (k + 1) cap5) qs2 (chgUp f (exs rs) (k + 1)).2) := by
     show XS _ _ _ _ _ _ _
     rw [HPS.out]
     exact HXT.out.place HA5.out (by rw [HPL2.out]; exact hown5) hgr5 (hv5.imp id fun e => ⟨_, e, by simp⟩)
    have HB5 : Hid (Below w.heap.size w (w5.setCell ⟨w.heap.size, 0, none⟩ (.slice ad5 (k + 1) cap5))) := ((HBT.out.trans (HA5.out.mono HBT.out.size)).grown hgr5 (by simp; have := HLT.out; omega) (fun g hg => by have := (HXT.out.row.lt g hg).1; omega)).setCell (Nat.le_refl _) _
    clear hown5 hgr5 hv5 c0 f0
    go_wp2
    go_roundw
    case rel => exact ⟨k + 1, qs2, .slice ad5 (k + 1) cap5, by omega, by go_num, HX5, HQ2, HB5⟩
    case measure => first | (simp [intOf]; done) | (simp [intOf]; omega)
  ·obtain rfl : k = rs.length := by omega
   have HF : Hid (exs qs = chgE f (exs rs)) := by
    show _ = _
    rw [HQ.out]; unfold chgE; rw [exs_len]
   go_wp2
   go_ret
   exact ⟨_, qs, rfl, HX.out.nod.mono (by omega), HF.out, HB.out⟩
end Go.Proofs.YtmghabcaakgjiaaGreat
