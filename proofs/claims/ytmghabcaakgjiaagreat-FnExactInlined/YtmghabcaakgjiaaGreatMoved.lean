/- Contract of the program's movedNode: the node in new memory, its kids where a function tells. -/
import Derived.Test.YtmghabcaakgjiaaGreatJ9
import Derived.Maps.AppendAt
namespace Go.Proofs.YtmghabcaakgjiaaGreat
set_option maxRecDepth 100000
set_option linter.unusedVariables false
open Go.ChangeShapes Go.WideShapes Go.ChangeAt Go.RowKit Go.Maps
open Pl

/-- a node whose kids come to other places -/
def movX (f : Int → Int) (e : Ex) : Ex := { e with kids := e.kids.map f }
theorem capsA_le {w : World} {base n m cap : Nat} {e : TypeId} {size : Nat} {ad : Option Addr} {xs : List Value} (h : w.ownsRow base e size (.slice ad n cap) m xs) : n ≤ cap := by
  rcases h.2 with ⟨e1, h0⟩ | ⟨g, cap', cur, e1, -, -, hnc, -⟩
  · injection e1 with _ e2 e3; omega
  · injection e1 with _ e2 e3; omega

set_option maxHeartbeats 4000000 in
theorem movedNode_any (F g : Nat) (f : Int → Int) (r : ER) (w : World) (hok : r.ok w) (hlA : r.e.allow.length ≤ 1048576) (hlK : r.e.kids.length ≤ 1048576) (hrun : ∀ (xs : Array Value) (u : World), (callFunc F xs).run Tryz.prog u = .ok (.enter F xs) u) (hpl : ∀ x ∈ r.e.kids, ∀ w1 : World, Below w.heap.size w w1 → Calls Tryz.prog F #[.int .i64 x, .pointer (some ⟨g, 0, none⟩)] w1 fun e w' => e = .returned (.int .i64 (f x)) ∧ w' = w1) :
    Calls Tryz.prog 92 #[r.val, .func (Fn.func F) #[] #[.pointer (some ⟨g, 0, none⟩)]] w fun e w' => ∃ q : ER, e = .returned q.val ∧ q.e = movX f r.e ∧ NewQ w.heap.size w' q ∧ Below w.heap.size w w' := by
  obtain ⟨iA, hiA, zA0, zA1, zA2⟩ := info_parts (P := Tryz.prog) (e := 90) (z := .agg #[.string ⟨#[]⟩, .string ⟨#[]⟩]) (size := 2) (bytes := 32) (by kernel_rfl)
  obtain ⟨iI, hiI, zI0, zI1, zI2⟩ := info_parts (P := Tryz.prog) (e := 2) (z := .int .i64 0) (size := 1) (bytes := 8) (by kernel_rfl)
  have HIA : Hid (Tryz.prog.info? 90 = some iA ∧ iA.zero = some (.agg #[.string ⟨#[]⟩, .string ⟨#[]⟩]) ∧ iA.size = 2 ∧ iA.bytes = 32) := ⟨hiA, zA0, zA1, zA2⟩
  have HII : Hid (Tryz.prog.info? 2 = some iI ∧ iI.zero = some (.int .i64 0) ∧ iI.size = 1 ∧ iI.bytes = 8) := ⟨hiI, zI0, zI1, zI2⟩
  have HOK : Hid (r.ok w) := hok
  have HPL : Hid (∀ x ∈ r.e.kids, ∀ w1 : World, Below w.heap.size w w1 → Calls Tryz.prog F #[.int .i64 x, .pointer (some ⟨g, 0, none⟩)] w1 fun e w' => e = .returned (.int .i64 (f x)) ∧ w' = w1) := hpl
  have HRUN : Hid (∀ (xs : Array Value) (u : World), (callFunc F xs).run Tryz.prog u = .ok (.enter F xs) u) := hrun
  clear hok hpl hrun hiA zA0 zA1 zA2 hiI zI0 zI1 zI2
  obtain ⟨W1, hW1⟩ : ∃ W1, W1 = (w.alloc (.cells #[.int .i64 r.e.kind, .slice r.adA r.e.allow.length r.capA, .string r.e.over, .string r.e.name, .slice r.adK r.e.kids.length r.capK] 50)).alloc (.cells #[.int .i64 0, .slice none 0 0, .string ⟨#[]⟩, .string ⟨#[]⟩, .slice none 0 0] 50) := ⟨_, rfl⟩
  have HB1 : Hid (Below w.heap.size w W1) := by show Below _ _ _; rw [hW1]; exact ((Below.refl _ _).alloc (Nat.le_refl _) _).alloc (by simp) _
  have hgl : w.heap.size + 1 < W1.heap.size := by rw [hW1]; simp
  have HSA1 : Hid (SlA W1 r.adA r.e.allow) := HOK.out.1.below HB1.out
  have HP : Hid (W1.cell? ⟨w.heap.size, 0, none⟩ = some (.int .i64 r.e.kind) ∧ W1.cell? ⟨w.heap.size, 1, none⟩ = some (.slice r.adA r.e.allow.length r.capA) ∧ W1.cell? ⟨w.heap.size, 2, none⟩ = some (.string r.e.over) ∧ W1.cell? ⟨w.heap.size, 3, none⟩ = some (.string r.e.name) ∧ W1.cell? ⟨w.heap.size, 4, none⟩ = some (.slice r.adK r.e.kids.length r.capK) ∧ (∀ y, W1.frozen? ⟨w.heap.size, y, none⟩ = false) ∧ (∀ y, W1.frozen? ⟨w.heap.size + 1, y, none⟩ = false) ∧ ∀ y, y < 5 → (W1.cell? ⟨w.heap.size + 1, y, none⟩).isSome = true) := by
    rw [hW1]
    refine ⟨by simp, by simp, by simp, by simp, by simp, fun y => by simp, fun y => ?_, fun y hy => ?_⟩
    · simp
    · have := World.cell?_alloc_mark (w.alloc (.cells #[.int .i64 r.e.kind, .slice r.adA r.e.allow.length r.capA, .string r.e.over, .string r.e.name, .slice r.adK r.e.kids.length r.capK] 50)) #[.int .i64 0, .slice none 0 0, .string ⟨#[]⟩, .string ⟨#[]⟩, .slice none 0 0] 50 (0, 0) y
      rw [show (w.alloc (.cells #[.int .i64 r.e.kind, .slice r.adA r.e.allow.length r.capA, .string r.e.over, .string r.e.name, .slice r.adK r.e.kids.length r.capK] 50)).heap.size = w.heap.size + 1 by simp] at this
      rw [this]
      have hc : y = 0 ∨ y = 1 ∨ y = 2 ∨ y = 3 ∨ y = 4 := by omega
      rcases hc with rfl | rfl | rfl | rfl | rfl <;> rfl
  go_enter Tryz.func92, Tryz.ntmps92
  unfold ER.val
  go_wp2_with (at_builtin; rw [← hW1]; clear hW1; refine wpList_append_copy _ rfl _ _ 47 rfl 90 iA (.agg #[.string ⟨#[]⟩, .string ⟨#[]⟩]) 2 32 Tryz.underlying47 HIA.out.1 HIA.out.2.1 HIA.out.2.2.1 HIA.out.2.2.2 rfl (by decide) rfl r.adA r.e.allow.length r.capA (pairs r.e.allow) rfl (pairs_len _) HSA1.out.none0 (newsAn HSA1.out) (oneCells _) (by unfold maxLen; omega) (by omega) ?_)
  intro v2 w2 hown2 hgr2
  have HB2 : Hid (Below W1.heap.size W1 w2) := (Below.refl _ _).grown hgr2 (Nat.le_refl _) (fun k hk => by cases hk)
  obtain ⟨adA, cpA, rfl, hsA, hzA, hoA⟩ := ownsA (by simpa using hown2) (by simp)
  have HCA : Hid (r.e.allow.length ≤ cpA) := capsA_le hown2
  have HSA2 : Hid (SlA w2 adA r.e.allow) := hsA
  have HZA : Hid (r.e.allow ≠ [] → ∃ g, adA = some ⟨g, 0, none⟩) := hzA
  have HOA : Hid (∀ g, r.e.allow ≠ [] → adA = some ⟨g, 0, none⟩ → W1.heap.size ≤ g ∧ g < w2.heap.size ∧ Free w2 g) := hoA
  have hg0 : w.heap.size < W1.heap.size := by omega
  have x0 : w2.cell? ⟨w.heap.size, 0, none⟩ = some (.int .i64 r.e.kind) := kept HB2.out hg0 HP.out.1
  have x1 : w2.cell? ⟨w.heap.size, 1, none⟩ = some (.slice r.adA r.e.allow.length r.capA) := kept HB2.out hg0 HP.out.2.1
  have x2 : w2.cell? ⟨w.heap.size, 2, none⟩ = some (.string r.e.over) := kept HB2.out hg0 HP.out.2.2.1
  have x3 : w2.cell? ⟨w.heap.size, 3, none⟩ = some (.string r.e.name) := kept HB2.out hg0 HP.out.2.2.2.1
  have x4 : w2.cell? ⟨w.heap.size, 4, none⟩ = some (.slice r.adK r.e.kids.length r.capK) := kept HB2.out hg0 HP.out.2.2.2.2.1
  have fx : ∀ y, w2.frozen? ⟨w.heap.size, y, none⟩ = false := fun y => keptF HB2.out hg0 (HP.out.2.2.2.2.2.1 y)
  have HY : Hid ((∀ y, w2.frozen? ⟨w.heap.size + 1, y, none⟩ = false) ∧ ∀ y, y < 5 → (w2.cell? ⟨w.heap.size + 1, y, none⟩).isSome = true) := ⟨fun y => keptF HB2.out hgl (HP.out.2.2.2.2.2.2.1 y), fun y hy => by rw [HB2.out.cell (p := ⟨w.heap.size + 1, y, none⟩) hgl]; exact HP.out.2.2.2.2.2.2.2 y hy⟩
  clear hown2 hgr2 hsA hzA hoA
  obtain ⟨W3, hW3⟩ : ∃ W3, W3 = w2.setCell ⟨w.heap.size, 1, none⟩ (.slice adA r.e.allow.length cpA) := ⟨_, rfl⟩
  have HB3 : Hid (Below w.heap.size w W3) := by
    show Below _ _ _
    rw [hW3]
    exact (HB1.out.trans (HB2.out.mono HB1.out.size)).setCell (Nat.le_refl _) _
  have HC3 : Hid (Chg (fun g => g = w.heap.size) w2 W3) := by rw [hW3]; exact Chg.set _ rfl
  have HS3 : Hid (W3.heap.size = w2.heap.size) := by show _ = _; rw [hW3]; simp
  have hw2 : w.heap.size + 1 < w2.heap.size := Nat.lt_of_lt_of_le hgl HB2.out.size
  have HX : Hid (W3.cell? ⟨w.heap.size, 0, none⟩ = some (.int .i64 r.e.kind) ∧ W3.cell? ⟨w.heap.size, 1, none⟩ = some (.slice adA r.e.allow.length cpA) ∧ W3.cell? ⟨w.heap.size, 2, none⟩ = some (.string r.e.over) ∧ W3.cell? ⟨w.heap.size, 3, none⟩ = some (.string r.e.name) ∧ W3.cell? ⟨w.heap.size, 4, none⟩ = some (.slice r.adK r.e.kids.length r.capK) ∧ (∀ y, W3.frozen? ⟨w.heap.size, y, none⟩ = false) ∧ (∀ y, W3.frozen? ⟨w.heap.size + 1, y, none⟩ = false) ∧ ∀ y, y < 5 → (W3.cell? ⟨w.heap.size + 1, y, none⟩).isSome = true) := by
    have h8 : ∀ y, W3.cell? ⟨w.heap.size + 1, y, none⟩ = w2.cell? ⟨w.heap.size + 1, y, none⟩ := fun y => HC3.out.cell hw2 (by omega)
    refine ⟨?_, ?_, ?_, ?_, ?_, fun y => ?_, fun y => ?_, fun y hy => by rw [h8]; exact HY.out.2 y hy⟩
    · rw [hW3, setO' (by omega)]; exact x0
    · rw [hW3]; exact setS' x1
    · rw [hW3, setO' (by omega)]; exact x2
    · rw [hW3, setO' (by omega)]; exact x3
    · rw [hW3, setO' (by omega)]; exact x4
    · rw [hW3]; simpa using fx y
    · rw [hW3]; simpa using HY.out.1 y
  have y4 := HX.out.2.2.2.2.1
  go_wp2
  rw [← hW3]
  clear hW3 x0 x1 x2 x3 x4 fx
  go_loopw [5, 15] (fun v i wr => ∃ k : Nat, k ≤ r.e.kids.length ∧ i = .int .i64 k ∧ Hid (wr.ownsRow W3.heap.size 2 1 v k (ints ((r.e.kids.take k).map f))) ∧ Hid (Below W3.heap.size W3 wr)) (fun _ i _ => r.e.kids.length - (intOf i).toNat)
  case atStart => exact ⟨0, Nat.zero_le _, rfl, World.ownsRow_nil _ _ _ _, Below.refl _ _⟩
  case round =>
    obtain ⟨k, hk, rfl, HOW, HB⟩ := hrel
    have HBW : Hid (Below w.heap.size w wr) := HB3.out.trans (HB.out.mono HB3.out.size)
    by_cases hlt : k < r.e.kids.length
    · rcases HOK.out.2.below HBW.out with h | ⟨b, off, hadr, hb, hr⟩
      · rw [h] at hlt; simp at hlt
      have t0 := hr k hlt
      have hk1 : (0 : Int) ≤ (k : Int) := by omega
      have hk2 : (k : Int) < (r.e.kids.length : Int) := by omega
      rw [hadr]
      clear hr hadr
      go_wp2_with fail
      rw [HRUN.out, Oper.upon_enter]
      refine (HPL.out _ (List.getElem_mem hlt) _ HBW.out).mono ?_
      rintro e w4 ⟨rfl, rfl⟩
      go_wp2_with (at_builtin; refine wpList_append_own _ rfl _ _ 48 rfl W3.heap.size 2 iI (.int .i64 0) 1 8 Tryz.underlying48 HII.out.1 HII.out.2.1 HII.out.2.2.1 HII.out.2.2.2 rfl (by decide) _ _ _ rfl (HOW.out.alloc _) ⟨w4.heap.size, 0, none⟩ 1 1 [.int .i64 (f r.e.kids[k])] rfl rfl (cell_one_new _ _ _) (by intro u hu; simp at hu; subst hu; rfl) (by unfold maxLen; omega) (by omega) (by simp; have := HB.out.size; omega) ?_)
      intro v5 w5 hown5 hgr5 _
      have HB5 : Hid (Below W3.heap.size W3 w5) := (HB.out.alloc HB.out.size _).grown hgr5 (by simp; have := HB.out.size; omega) (fun i hi => (HOW.out.lt i hi).1)
      have HO5 : Hid (w5.ownsRow W3.heap.size 2 1 v5 (k + 1) (ints ((r.e.kids.take (k + 1)).map f))) := by
        show World.ownsRow _ _ _ _ _ _ _
        have e : ints ((r.e.kids.take (k + 1)).map f) = ints ((r.e.kids.take k).map f) ++ [.int .i64 (f r.e.kids[k])] := by
          rw [List.take_succ_eq_append_getElem hlt, List.map_append]; unfold ints; rw [List.map_append]; rfl
        rw [e]; simpa [ints] using hown5
      clear hown5 hgr5
      go_wp2
      go_roundw
      case rel => exact ⟨k + 1, by omega, by go_num, HO5, HB5⟩
      case measure => first | (simp [intOf]; done) | (simp [intOf]; omega)
    · obtain rfl : k = r.e.kids.length := by omega
      have hown := HOW.out
      rw [List.take_length] at hown
      obtain ⟨adK, cpK, rfl, hsK, hzK, hoK⟩ := ownsI hown (by simp)
      have hml : (r.e.kids.map f).length = r.e.kids.length := by simp
      obtain ⟨q, hq⟩ : ∃ q : ER, q = ⟨movX f r.e, adA, cpA, adK, cpK⟩ := ⟨_, rfl⟩
      have hs3 := HS3.out
      have hgw : w.heap.size < W3.heap.size := by omega
      have hgw1 : w.heap.size + 1 < W3.heap.size := by omega
      obtain ⟨c0, c1, c2, c3, c4, f0, f1, h5⟩ := HX.out
      have c0 := kept HB.out hgw c0
      have c1 := kept HB.out hgw c1
      have c2 := kept HB.out hgw c2
      have c3 := kept HB.out hgw c3
      have c4 := kept HB.out hgw c4
      have f0 : ∀ y, wr.frozen? ⟨w.heap.size, y, none⟩ = false := fun y => keptF HB.out hgw (f0 y)
      have f1 : ∀ y, wr.frozen? ⟨w.heap.size + 1, y, none⟩ = false := fun y => keptF HB.out hgw1 (f1 y)
      have h5 : ∀ y, y < 5 → (wr.cell? ⟨w.heap.size + 1, y, none⟩).isSome = true := fun y hy => by rw [HB.out.cell (p := ⟨w.heap.size + 1, y, none⟩) hgw1]; exact h5 y hy
      obtain ⟨a0, u0⟩ := Option.isSome_iff_exists.mp (h5 0 (by omega))
      obtain ⟨a1, u1⟩ := Option.isSome_iff_exists.mp (h5 1 (by omega))
      obtain ⟨a2, u2⟩ := Option.isSome_iff_exists.mp (h5 2 (by omega))
      obtain ⟨a3, u3⟩ := Option.isSome_iff_exists.mp (h5 3 (by omega))
      obtain ⟨a4, u4⟩ := Option.isSome_iff_exists.mp (h5 4 (by omega))
      have HSK : Hid (SlI wr adK (r.e.kids.map f)) := hsK
      have HZK : Hid (r.e.kids.map f ≠ [] → ∃ g, adK = some ⟨g, 0, none⟩) := hzK
      have HOKK : Hid (∀ g, r.e.kids.map f ≠ [] → adK = some ⟨g, 0, none⟩ → W3.heap.size ≤ g ∧ g < wr.heap.size ∧ Free wr g) := hoK
      have HFIN : Hid (∀ w9 : World, Chg (fun g => g = w.heap.size ∨ g = w.heap.size + 1) wr w9 → NewQ w.heap.size w9 q ∧ Below w.heap.size w w9) := fun w9 hc => by
        have hb9 : Below w.heap.size w w9 := HBW.out.trans (hc.below (m := w.heap.size) (fun g hg => by rcases hg with h | h <;> omega) HBW.out.size)
        have hcA : Chg (fun g => g = w.heap.size ∨ g = w.heap.size + 1) w2 w9 := ((HC3.out.mono fun g hg => .inl hg).trans (Chg.of HB.out)).trans hc
        refine ⟨?_, hb9⟩
        rw [hq]
        refine ⟨HZA.out, HZK.out, ⟨HSA2.out.chg hcA fun g o hne e => ?_, HSK.out.chg hc fun g o hne e => ?_⟩, ?_, ?_, HCA.out⟩
        · obtain ⟨g0, e0⟩ := HZA.out hne
          rw [e0] at e; injection e with e; injection e with e1 e2
          have := (HOA.out g0 hne e0).1
          omega
        · obtain ⟨g0, e0⟩ := HZK.out hne
          rw [e0] at e; injection e with e; injection e with e1 e2
          have := (HOKK.out g0 hne e0).1
          omega
        · rintro g (⟨hne, e⟩ | ⟨hne, e⟩)
          · obtain ⟨p1, p2, p3⟩ := HOA.out g hne e
            exact ⟨by omega, Nat.lt_of_lt_of_le p2 hcA.size, hcA.free g p2 p3⟩
          · obtain ⟨p1, p2, p3⟩ := HOKK.out g hne e
            exact ⟨by omega, Nat.lt_of_lt_of_le p2 hc.size, hc.free g p2 p3⟩
        · rintro g ⟨hne, e⟩ ⟨hne2, e2⟩
          obtain ⟨p1, p2, p3⟩ := HOA.out g hne e
          obtain ⟨r1, r2, r3⟩ := HOKK.out g hne2 e2
          omega
      have HQV : Hid (Value.agg #[.int .i64 q.e.kind, .slice q.adA q.e.allow.length q.capA, .string q.e.over, .string q.e.name, .slice q.adK q.e.kids.length q.capK] = .agg #[.int .i64 r.e.kind, .slice adA r.e.allow.length cpA, .string r.e.over, .string r.e.name, .slice adK r.e.kids.length cpK] ∧ q.e = movX f r.e) := by
        show _ ∧ _
        rw [hq]; exact ⟨by simp [movX], rfl⟩
      have hlt1 : w.heap.size < wr.heap.size := Nat.lt_of_lt_of_le hgw HB.out.size
      have hlt2 : w.heap.size + 1 < wr.heap.size := Nat.lt_of_lt_of_le hgw1 HB.out.size
      clear hq hown hsK hzK hoK h5 y4 hs3
      rw [hml]
      clear hml
      go_wp2
      obtain ⟨W9, hW9⟩ : ∃ W9, W9 = ((((((wr.setCell ⟨w.heap.size, 4, none⟩ (.slice adK r.e.kids.length cpK)).setCell ⟨w.heap.size + 1, 0, none⟩ (.int .i64 r.e.kind)).setCell ⟨w.heap.size + 1, 1, none⟩ (.slice adA r.e.allow.length cpA)).setCell ⟨w.heap.size + 1, 2, none⟩ (.string r.e.over)).setCell ⟨w.heap.size + 1, 3, none⟩ (.string r.e.name)).setCell ⟨w.heap.size + 1, 4, none⟩ (.slice adK r.e.kids.length cpK)) := ⟨_, rfl⟩
      have HC9 : Hid (Chg (fun g => g = w.heap.size ∨ g = w.heap.size + 1) wr W9) := by
        rw [hW9]
        exact (((((Chg.set (S := fun g => g = w.heap.size ∨ g = w.heap.size + 1) _ (.inl rfl)).trans (Chg.set _ (.inr rfl))).trans (Chg.set _ (.inr rfl))).trans (Chg.set _ (.inr rfl))).trans (Chg.set _ (.inr rfl))).trans (Chg.set _ (.inr rfl))
      refine bodyPost_ret (v := .agg #[.int .i64 r.e.kind, .slice adA r.e.allow.length cpA, .string r.e.over, .string r.e.name, .slice adK r.e.kids.length cpK]) ?_ rfl ?_
      · simp [results, Tryz.results92, go_sem, *]
      rw [← hW9]
      exact ⟨q, by rw [HQV.out.1], HQV.out.2, HFIN.out _ HC9.out⟩
end Go.Proofs.YtmghabcaakgjiaaGreat
