/- Contract of the document's copy of an expression: a new one that holds the same, in blocks of its own. -/
import Derived.Test.YtmghabcaakgjiaaGreatJ14
namespace Go.Proofs.YtmghabcaakgjiaaGreat
open Go.ChangeShapes Go.WideShapes Go.ChangeAt Go.RowKit Go.Maps
open Pl
set_option maxRecDepth 8000 in
set_option maxHeartbeats 4000000 in
theorem l2CopyExpr_n (ad : Option Addr) (cap : Nat) (rs : List ER) (w : World) (hlen : rs.length ≤ 15) (hs : SlE w ad rs) (hl : ∀ r ∈ rs, r.e.light) (hz : ∀ r ∈ rs, r.atZero) :
  Calls Tryz.prog 47 #[.slice ad rs.length cap] w fun e w' => ∃ (v : Value) (rs' : List ER), e = .returned v ∧ NodM w' w.heap.size v rs' ∧ exs rs' = exs rs ∧ Below w.heap.size w w' := by
 obtain ⟨iE, hiE, zE0, zE1, zE2⟩ := info_parts (P := Tryz.prog) (e := 50) (z := .agg #[.int .i64 0, .slice none 0 0, .string ⟨#[]⟩, .string ⟨#[]⟩, .slice none 0 0]) (size := 5) (bytes := 88) (by kernel_rfl)
 obtain ⟨iA, hiA, zA0, zA1, zA2⟩ := info_parts (P := Tryz.prog) (e := 90) (z := .agg #[.string ⟨#[]⟩, .string ⟨#[]⟩]) (size := 2) (bytes := 32) (by kernel_rfl)
 obtain ⟨iI, hiI, zI0, zI1, zI2⟩ := info_parts (P := Tryz.prog) (e := 2) (z := .int .i64 0) (size := 1) (bytes := 8) (by kernel_rfl)
 have HSL : Hid (SlE w ad rs) := hs
 have HLI : Hid (∀ r ∈ rs, r.e.light) := hl
 have HZR : Hid (∀ r ∈ rs, r.atZero) := hz
 have HIA : Hid (Tryz.prog.info? 90 = some iA ∧ iA.zero = some (.agg #[.string ⟨#[]⟩, .string ⟨#[]⟩]) ∧ iA.size = 2 ∧ iA.bytes = 32) := ⟨hiA, zA0, zA1, zA2⟩
 have HII : Hid (Tryz.prog.info? 2 = some iI ∧ iI.zero = some (.int .i64 0) ∧ iI.size = 1 ∧ iI.bytes = 8) := ⟨hiI, zI0, zI1, zI2⟩
 have HIE : Hid (Tryz.prog.info? 50 = some iE ∧ iE.zero = some (.agg #[.int .i64 0, .slice none 0 0, .string ⟨#[]⟩, .string ⟨#[]⟩, .slice none 0 0]) ∧ iE.size = 5 ∧ iE.bytes = 88) := ⟨hiE, zE0, zE1, zE2⟩
 clear hs hl hz hiA zA0 zA1 zA2 hiI zI0 zI1 zI2 hiE zE0 zE1 zE2
 go_enter Tryz.func47, Tryz.ntmps47
 go_wp2
 go_loopw [3, 4] (fun v i wr => ∃ (k : Nat) (qs : List ER), k ≤ rs.length ∧ i = .int .i64 k ∧ Hid (qs.length = k ∧ exs qs = (exs rs).take k ∧ NodM wr w.heap.size v qs) ∧ Hid (wr.ownsRow w.heap.size 50 5 v k (rows5 qs)) ∧ Hid (Below w.heap.size w wr)) (fun _ i _ => rs.length - (intOf i).toNat)
 case atStart => exact ⟨0, [], Nat.zero_le _, rfl, ⟨rfl, by simp [exs], ⟨World.ownsRow_lit w #[] 0 (Nat.le_refl _) (by unfold maxLen; omega) (by simp), fun q hq => (by cases hq), fun q hq => (by cases hq), fun q hq => (by cases hq), fun q hq => (by cases hq), fun q hq => (by cases hq), fun x y hx => absurd hx (by simp), fun q hq => (by cases hq)⟩⟩, World.ownsRow_lit w #[] 0 (Nat.le_refl _) (by unfold maxLen; omega) (by simp), (Below.refl _ _).alloc (Nat.le_refl _) _⟩
 case round =>
  obtain ⟨k, qs, hk, rfl, HQ, HOW, HB⟩ := hrel
  by_cases hlt : k < rs.length
  ·rcases HSL.out.below HB.out with hnil | ⟨b, off, hadr, hb, hr, hok⟩
   ·rw [hnil] at hlt; simp at hlt
   obtain ⟨t0, t1, t2, t3, t4⟩ := hr k hlt
   have HOK : Hid (rs[k].ok wr) := hok rs[k] (List.getElem_mem hlt)
   have hlg := HLI.out rs[k] (List.getElem_mem hlt)
   have lA : rs[k].e.allow.length ≤ 1048576 := hlg.1
   have lK : rs[k].e.kids.length ≤ 1048576 := hlg.2
   obtain ⟨gA, gK, hA0, hK0⟩ := HZR.out rs[k] (List.getElem_mem hlt)
   have hk1 : (0 : Int) ≤ (k : Int) := by omega
   have hk2 : (k : Int) < (rs.length : Int) := by omega
   obtain ⟨W1, hW1⟩ : ∃ W1, W1 = wr.alloc (.cells #[.int .i64 rs[k].e.kind, .slice (some ⟨gA, 0, none⟩) rs[k].e.allow.length rs[k].capA, .string rs[k].e.over, .string rs[k].e.name, .slice (some ⟨gK, 0, none⟩) rs[k].e.kids.length rs[k].capK] 50) := ⟨_, rfl⟩
   have HB1 : Hid (Below wr.heap.size wr W1) := by show Below _ _ _; rw [hW1]; exact (Below.refl _ _).alloc (Nat.le_refl _) _
   have hgl : wr.heap.size < W1.heap.size := by rw [hW1]; simp
   have HSZ1 : Hid (W1.heap.size = wr.heap.size + 1) := by show _ = _; rw [hW1]; simp
   have HLIT1 : Hid ((W1.alloc (.cells #[] 90)).ownsRow W1.heap.size 90 2 (.slice (some ⟨wr.heap.size + 1, 0, none⟩) 0 0) 0 []) := by
    show World.ownsRow _ _ _ _ _ _ _
    rw [← HSZ1.out]
    exact World.ownsRow_lit W1 #[] 0 (Nat.le_refl _) (by unfold maxLen; omega) (by simp)
   have HSA1 : Hid (SlA W1 (some ⟨gA, 0, none⟩) rs[k].e.allow) := by rw [← hA0]; exact HOK.out.1.below HB1.out
   have p0 : W1.cell? ⟨wr.heap.size, 0, none⟩ = some (.int .i64 rs[k].e.kind) := by rw [hW1]; simp
   have p1 : W1.cell? ⟨wr.heap.size, 1, none⟩ = some (.slice (some ⟨gA, 0, none⟩) rs[k].e.allow.length rs[k].capA) := by rw [hW1]; simp
   have p2 : W1.cell? ⟨wr.heap.size, 2, none⟩ = some (.string rs[k].e.over) := by rw [hW1]; simp
   have p3 : W1.cell? ⟨wr.heap.size, 3, none⟩ = some (.string rs[k].e.name) := by rw [hW1]; simp
   have p4 : W1.cell? ⟨wr.heap.size, 4, none⟩ = some (.slice (some ⟨gK, 0, none⟩) rs[k].e.kids.length rs[k].capK) := by rw [hW1]; simp
   have fp : ∀ y, W1.frozen? ⟨wr.heap.size, y, none⟩ = false := fun y => by rw [hW1]; simp
   have HPS : Hid (W1.cell? ⟨wr.heap.size, 0, none⟩ = some (.int .i64 rs[k].e.kind) ∧ W1.cell? ⟨wr.heap.size, 1, none⟩ = some (.slice (some ⟨gA, 0, none⟩) rs[k].e.allow.length rs[k].capA) ∧ W1.cell? ⟨wr.heap.size, 2, none⟩ = some (.string rs[k].e.over) ∧ W1.cell? ⟨wr.heap.size, 3, none⟩ = some (.string rs[k].e.name) ∧ W1.cell? ⟨wr.heap.size, 4, none⟩ = some (.slice (some ⟨gK, 0, none⟩) rs[k].e.kids.length rs[k].capK) ∧ ∀ y, W1.frozen? ⟨wr.heap.size, y, none⟩ = false) := ⟨p0, p1, p2, p3, p4, fp⟩
   clear p0 p1 p2 p3 p4 fp
   rw [hadr]
   rw [hA0] at t1
   rw [hK0] at t4
   have HK0 : Hid (rs[k].adK = some ⟨gK, 0, none⟩) := hK0
   clear hr hok hlg hA0 hK0
   go_wp2_with (at_builtin; rw [← hW1]; clear hW1; refine wpList_append_own _ rfl _ _ 47 rfl W1.heap.size 90 iA (.agg #[.string ⟨#[]⟩, .string ⟨#[]⟩]) 2 32 Tryz.underlying47 HIA.out.1 HIA.out.2.1 HIA.out.2.2.1 HIA.out.2.2.2 rfl (by decide) _ 0 [] rfl HLIT1.out ⟨gA, 0, none⟩ rs[k].e.allow.length rs[k].capA (pairs rs[k].e.allow) rfl (pairs_len _) (newsA (HSA1.out.below ((Below.refl _ _).alloc (Nat.le_refl _) _))) (oneCells _) (by unfold maxLen; omega) (by omega) (by simp) ?_)
   intro v2 w2 hown2 hgr2 _
   have HB2 : Hid (Below W1.heap.size W1 w2) := ((Below.refl W1.heap.size W1).alloc (Nat.le_refl _) (.cells #[] 90)).grown hgr2 (by simp) (fun k hk => by simp [Value.ownBlock] at hk; have := HSZ1.out; omega)
   obtain ⟨adA, cpA, rfl, hsA, hzA, hoA⟩ := ownsA (by simpa using hown2) (by simp)
   have HCA : Hid (rs[k].e.allow.length ≤ cpA) := capsA_le hown2
   have HSA2 : Hid (SlA w2 adA rs[k].e.allow) := hsA
   have HZA : Hid (rs[k].e.allow ≠ [] → ∃ g, adA = some ⟨g, 0, none⟩) := hzA
   have HOA : Hid (∀ g, rs[k].e.allow ≠ [] → adA = some ⟨g, 0, none⟩ → W1.heap.size ≤ g ∧ g < w2.heap.size ∧ Free w2 g) := hoA
   have x0 : w2.cell? ⟨wr.heap.size, 0, none⟩ = some (.int .i64 rs[k].e.kind) := kept HB2.out hgl HPS.out.1
   have x1 : w2.cell? ⟨wr.heap.size, 1, none⟩ = some (.slice (some ⟨gA, 0, none⟩) rs[k].e.allow.length rs[k].capA) := kept HB2.out hgl HPS.out.2.1
   have x2 : w2.cell? ⟨wr.heap.size, 2, none⟩ = some (.string rs[k].e.over) := kept HB2.out hgl HPS.out.2.2.1
   have x3 : w2.cell? ⟨wr.heap.size, 3, none⟩ = some (.string rs[k].e.name) := kept HB2.out hgl HPS.out.2.2.2.1
   have x4 : w2.cell? ⟨wr.heap.size, 4, none⟩ = some (.slice (some ⟨gK, 0, none⟩) rs[k].e.kids.length rs[k].capK) := kept HB2.out hgl HPS.out.2.2.2.2.1
   have fx : ∀ y, w2.frozen? ⟨wr.heap.size, y, none⟩ = false := fun y => keptF HB2.out hgl (HPS.out.2.2.2.2.2 y)
   clear hown2 hgr2 hsA hzA hoA
   obtain ⟨W3, hW3⟩ : ∃ W3, W3 = w2.setCell ⟨wr.heap.size, 1, none⟩ (.slice adA rs[k].e.allow.length cpA) := ⟨_, rfl⟩
   have HB3 : Hid (Below wr.heap.size wr W3) := by
    show Below _ _ _
    rw [hW3]
    exact (HB1.out.trans (HB2.out.mono (Nat.le_of_lt hgl))).setCell (Nat.le_refl _) _
   have HC3 : Hid (Chg (fun g => g = wr.heap.size) w2 W3) := by rw [hW3]; exact Chg.set _ rfl
   have HSK3 : Hid (SlI W3 (some ⟨gK, 0, none⟩) rs[k].e.kids) := by rw [← HK0.out]; exact HOK.out.2.below HB3.out
   have hgl3 : wr.heap.size < W3.heap.size := by rw [hW3]; simp only [World.size_setCell]; exact Nat.lt_of_lt_of_le hgl HB2.out.size
   have hx2 : wr.heap.size < w2.heap.size := Nat.lt_of_lt_of_le hgl HB2.out.size
   have hx3 : (wr.heap.size = w2.heap.size) = False := by simp; omega
   have HSZ3 : Hid (W3.heap.size = w2.heap.size) := by show _ = _; rw [hW3]; simp
   have HLIT3 : Hid ((W3.alloc (.cells #[] 2)).ownsRow W3.heap.size 2 1 (.slice (some ⟨w2.heap.size, 0, none⟩) 0 0) 0 []) := by
    show World.ownsRow _ _ _ _ _ _ _
    rw [← HSZ3.out]
    exact World.ownsRow_lit W3 #[] 0 (Nat.le_refl _) (by unfold maxLen; omega) (by simp)
   have HXS : Hid (W3.cell? ⟨wr.heap.size, 0, none⟩ = some (.int .i64 rs[k].e.kind) ∧ W3.cell? ⟨wr.heap.size, 1, none⟩ = some (.slice adA rs[k].e.allow.length cpA) ∧ W3.cell? ⟨wr.heap.size, 2, none⟩ = some (.string rs[k].e.over) ∧ W3.cell? ⟨wr.heap.size, 3, none⟩ = some (.string rs[k].e.name) ∧ W3.cell? ⟨wr.heap.size, 4, none⟩ = some (.slice (some ⟨gK, 0, none⟩) rs[k].e.kids.length rs[k].capK) ∧ ∀ y, W3.frozen? ⟨wr.heap.size, y, none⟩ = false) := by
    rw [hW3]
    exact ⟨by rw [setO' (by omega)]; exact x0, setS' x1, by rw [setO' (by omega)]; exact x2, by rw [setO' (by omega)]; exact x3, by rw [setO' (by omega)]; exact x4, fun y => by simpa using fx y⟩
   go_wp2_with (at_builtin; rw [← hW3]; clear hW3; refine wpList_append_own _ rfl _ _ 48 rfl W3.heap.size 2 iI (.int .i64 0) 1 8 Tryz.underlying48 HII.out.1 HII.out.2.1 HII.out.2.2.1 HII.out.2.2.2 rfl (by decide) _ 0 [] rfl HLIT3.out ⟨gK, 0, none⟩ rs[k].e.kids.length rs[k].capK (ints rs[k].e.kids) rfl (by simp [ints]) (newsI (HSK3.out.below ((Below.refl _ _).alloc (Nat.le_refl _) _))) (oneInts _) (by unfold maxLen; omega) (by omega) (by simp) ?_)
   intro v4 w4 hown4 hgr4 _
   have HB4 : Hid (Below W3.heap.size W3 w4) := ((Below.refl W3.heap.size W3).alloc (Nat.le_refl _) (.cells #[] 2)).grown hgr4 (by simp) (fun k hk => by simp [Value.ownBlock] at hk; have := HSZ3.out; omega)
   obtain ⟨adK, cpK, rfl, hsK, hzK, hoK⟩ := ownsI (by simpa using hown4) (by simp)
   have HSK4 : Hid (SlI w4 adK rs[k].e.kids) := hsK
   have HZK : Hid (rs[k].e.kids ≠ [] → ∃ g, adK = some ⟨g, 0, none⟩) := hzK
   have HOKK : Hid (∀ g, rs[k].e.kids ≠ [] → adK = some ⟨g, 0, none⟩ → W3.heap.size ≤ g ∧ g < w4.heap.size ∧ Free w4 g) := hoK
   have y0 : w4.cell? ⟨wr.heap.size, 0, none⟩ = some (.int .i64 rs[k].e.kind) := kept HB4.out hgl3 HXS.out.1
   have y1 : w4.cell? ⟨wr.heap.size, 1, none⟩ = some (.slice adA rs[k].e.allow.length cpA) := kept HB4.out hgl3 HXS.out.2.1
   have y2 : w4.cell? ⟨wr.heap.size, 2, none⟩ = some (.string rs[k].e.over) := kept HB4.out hgl3 HXS.out.2.2.1
   have y3 : w4.cell? ⟨wr.heap.size, 3, none⟩ = some (.string rs[k].e.name) := kept HB4.out hgl3 HXS.out.2.2.2.1
   have y4 : w4.cell? ⟨wr.heap.size, 4, none⟩ = some (.slice (some ⟨gK, 0, none⟩) rs[k].e.kids.length rs[k].capK) := kept HB4.out hgl3 HXS.out.2.2.2.2.1
   have fy : ∀ y, w4.frozen? ⟨wr.heap.size, y, none⟩ = false := fun y => keptF HB4.out hgl3 (HXS.out.2.2.2.2.2 y)
   clear hown4 hgr4 hsK hzK hoK x0 x1 x2 x3 x4 fx t0 t1 t2 t3 t4
   obtain ⟨W5, hW5⟩ : ∃ W5, W5 = w4.setCell ⟨wr.heap.size, 4, none⟩ (.slice adK rs[k].e.kids.length cpK) := ⟨_, rfl⟩
   have HB5 : Hid (Below wr.heap.size wr W5) := by
    show Below _ _ _
    rw [hW5]
    exact (HB3.out.trans (HB4.out.mono HB3.out.size)).setCell (Nat.le_refl _) _
   have HC5 : Hid (Chg (fun g => g = wr.heap.size) w4 W5) := by rw [hW5]; exact Chg.set _ rfl
   obtain ⟨q, hq⟩ : ∃ q : ER, q = ⟨rs[k].e, adA, cpA, adK, cpK⟩ := ⟨_, rfl⟩
   have HCA5 : Hid (Chg (fun g => g = wr.heap.size) w2 W5) := HC3.out.trans ((Chg.of HB4.out).trans HC5.out)
   have HBQ : Hid (NewQ wr.heap.size W5 q) := by
    rw [hq]
    have hz2 : W1.heap.size = wr.heap.size + 1 := HSZ1.out
    refine ⟨HZA.out, HZK.out, ⟨HSA2.out.chg HCA5.out fun g o hne e => ?_, HSK4.out.chg HC5.out fun g o hne e => ?_⟩, ?_, ?_, HCA.out⟩
    ·obtain ⟨g0, e0⟩ := HZA.out hne
     rw [e0] at e; injection e with e; injection e with e1 e2
     have := (HOA.out g0 hne e0).1
     omega
    ·obtain ⟨g0, e0⟩ := HZK.out hne
     rw [e0] at e; injection e with e; injection e with e1 e2
     have := (HOKK.out g0 hne e0).1
     omega
    ·rintro g (⟨hne, e⟩ | ⟨hne, e⟩)
     ·obtain ⟨a1, a2, a3⟩ := HOA.out g hne e
      exact ⟨by omega, Nat.lt_of_lt_of_le a2 HCA5.out.size, HCA5.out.free g a2 a3⟩
     ·obtain ⟨a1, a2, a3⟩ := HOKK.out g hne e
      exact ⟨by omega, Nat.lt_of_lt_of_le a2 HC5.out.size, HC5.out.free g a2 a3⟩
    ·rintro g ⟨hne, e⟩ ⟨hne2, e2⟩
     obtain ⟨a1, a2, a3⟩ := HOA.out g hne e
     obtain ⟨b1, b2, b3⟩ := HOKK.out g hne2 e2
     have := HSZ3.out
     omega
   have HOW5 : Hid (W5.ownsRow w.heap.size 50 5 u3 k (rows5 qs)) := HOW.out.kept (row := none) ⟨HB5.out.os, HB5.out.tape, HB5.out.output, HB5.out.size, fun k hk _ => HB5.out.block k hk⟩ (by
    cases h : u3.ownBlock with
    | none => exact .inl rfl
    | some g => exact .inr (by simp))
   obtain ⟨W6, hW6⟩ : ∃ W6, W6 = W5.alloc (.cells #[.int .i64 q.e.kind, .slice q.adA q.e.allow.length q.capA, .string q.e.over, .string q.e.name, .slice q.adK q.e.kids.length q.capK] 50) := ⟨_, rfl⟩
   have HW6 : Hid (W6 = (w4.setCell ⟨wr.heap.size, 4, none⟩ (.slice adK rs[k].e.kids.length cpK)).alloc (.cells #[.int .i64 rs[k].e.kind, .slice adA rs[k].e.allow.length cpA, .string rs[k].e.over, .string rs[k].e.name, .slice adK rs[k].e.kids.length cpK] 50)) := by show _ = _; rw [hW6, hq, hW5]
   have HOW6 : Hid (W6.ownsRow w.heap.size 50 5 u3 k (rows5 qs)) := by rw [hW6]; exact HOW5.out.alloc _
   have HB6 : Hid (Below wr.heap.size wr W6) := by rw [hW6]; exact HB5.out.alloc HB5.out.size _
   have HNW : Hid (∀ j u, q.row[j]? = some u → W6.cell? ((⟨W5.heap.size, 0, none⟩ : Addr).add j) = some u) := by rw [hW6]; exact row5_news W5 q
   have HBQ6 : Hid (NewQ wr.heap.size W6 q) := by
    rw [hW6]
    have hA : Below W5.heap.size W5 (W5.alloc (.cells #[.int .i64 q.e.kind, .slice q.adA q.e.allow.length q.capA, .string q.e.over, .string q.e.name, .slice q.adK q.e.kids.length q.capK] 50)) := (Below.refl _ _).alloc (Nat.le_refl _) _
    exact kidE.heap W5 _ _ q HBQ.out hA.size fun g hg => hA.block g (HBQ.out.lie g hg).2.1
   have HS5 : Hid (W5.heap.size = (w4.setCell ⟨wr.heap.size, 4, none⟩ (.slice adK rs[k].e.kids.length cpK)).heap.size) := by show _ = _; rw [hW5]
   have HQE : Hid (q.e = rs[k].e) := by show _ = _; rw [hq]
   have hsw : w4.heap.size = W5.heap.size := by rw [hW5]; simp
   clear hW5 hW6 hq
   go_wp2_with (at_builtin; rw [← HW6.out]; refine wpList_append_own_at _ rfl _ _ 38 rfl w.heap.size 50 iE (.agg #[.int .i64 0, .slice none 0 0, .string ⟨#[]⟩, .string ⟨#[]⟩, .slice none 0 0]) 5 88 Tryz.underlying38 HIE.out.1 HIE.out.2.1 HIE.out.2.2.1 HIE.out.2.2.2 rfl (by decide) u3 k (rows5 qs) rfl HOW6.out ⟨W5.heap.size, 0, none⟩ 1 1 q.row rfl rfl HNW.out (row5_one q) (by unfold maxLen; omega) (by omega) (Nat.le_trans HB.out.size HB6.out.size) ?_)
   intro v7 w7 hown7 hgr7 _ hv7
   have HB7 : Hid (Below w.heap.size w w7) := (HB.out.trans (HB6.out.mono HB.out.size)).grown hgr7 (Nat.le_trans HB.out.size HB6.out.size) (fun g hg => (HOW.out.lt g hg).1)
   have HOW7 : Hid (w7.ownsRow w.heap.size 50 5 v7 (k + 1) (rows5 (qs ++ [q]))) := by
    have e : rows5 (qs ++ [q]) = rows5 qs ++ q.row := by simp [rows5]
    rw [e]; exact hown7
   have HQ7 : Hid ((qs ++ [q]).length = k + 1 ∧ exs (qs ++ [q]) = (exs rs).take (k + 1) ∧ NodM w7 w.heap.size v7 (qs ++ [q])) := by
    obtain ⟨h1, h2, h3⟩ := HQ.out
    refine ⟨by simp [h1], ?_, ?_⟩
    ·rw [List.take_succ_eq_append_getElem (by rw [exs_len]; exact hlt), ← h2]
     simp [exs, HQE.out]
    ·exact h3.add HB6.out HBQ6.out HB.out.size (by rw [h1]; exact hown7) hgr7 (hv7.imp id fun e => ⟨_, e, Nat.le_refl _⟩)
   clear hown7 hgr7 hv7
   go_wp2
   go_roundw
   case rel => exact ⟨k + 1, qs ++ [q], by omega, by go_num, HQ7, HOW7, HB7⟩
   case measure => simp [intOf]; omega
  ·obtain rfl : k = rs.length := by omega
   obtain ⟨h1, h2, h3⟩ := HQ.out
   have HE3 : Hid (exs qs = exs rs) := by rw [← exs_len rs, List.take_length] at h2; exact h2
   have HN3 := toHX h3
   clear h1 h2 h3
   go_wp2
   go_ret
   exact ⟨_, qs, rfl, HN3.out, HE3.out, HB.out⟩
end Go.Proofs.YtmghabcaakgjiaaGreat
