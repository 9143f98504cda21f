/- Contract of the program's reader: the pairs behind 'this('. -/
import Derived.Test.YtjmbgpdbnffkpaaIRdName
import Derived.Test.YtjmbgpdbnffkpaaRdxThis
namespace Go.Proofs.Ytjmbgpdbnffkpaa
set_option maxRecDepth 100000
set_option linter.unusedVariables false
open Go.ChangeShapes Go.WideShapes Go.ChangeAt Go.RowKit
open Pl

/-- how much is left, read out of memory -/
def restN (R : Nat) (w : World) : Nat := match w.cell? ⟨R, 0, none⟩ with
  | some (.string a) => a.size
  | _ => 0
def mtrue : Value → Nat
  | .bool true => 1
  | _ => 0
theorem RdI.restN {w : World} {R : Nat} {s : ByteArray} {p : Nat} {v : Value} (h : RdI w R s p v) : restN R w = s.size - p := by
  simp [Go.Proofs.Ytjmbgpdbnffkpaa.restN, h.c0, rest_size s h.le]
theorem onl_below {R : Nat} {w w' : World} (h : Onl R nilV w w') (hR : R ≤ w.heap.size) : Below R w w' :=
  ⟨h.os, h.tape, h.output, h.size, fun k hk => h.block k (by omega) (by omega) (by simp [Value.ownBlock])⟩
/-- the pairs so far, beside the reader -/
structure AL (w wr : World) (R : Nat) (s : ByteArray) (q : Nat) (v : Value) (xs : List Al) (vA : Value) : Prop where
  rd : RdI wr R s q v
  onl : Onl R nilV w wr
  own : wr.ownsRow w.heap.size 102 2 vA xs.length (pairs xs)
section
variable {w wr w' : World} {R : Nat} {s : ByteArray} {q q' : Nat} {v vA vB : Value} {xs : List Al}
theorem AL.moved (h : AL w wr R s q v xs vA) (hR : R < w.heap.size) (hg : wr.grownBy w' (some R)) (hr : RdI w' R s q' v) : AL w w' R s q' v xs vA :=
  ⟨hr, h.onl.trans0 (Onl.of_grown hg), h.own.kept hg (.inr (fun e => by have := (h.own.lt R e).1; omega))⟩
theorem AL.made (h : AL w wr R s q v xs vA) (o : Obj) : AL w (wr.alloc o) R s q v xs vA :=
  ⟨h.rd.grown (World.grownBy_alloc wr o none) (by simp), h.onl.trans0 (Onl.of_below ((Below.refl _ _).alloc (Nat.le_refl _) _)), h.own.alloc _⟩
theorem AL.boxed (h : AL w wr R s q v xs vA) {X : Nat} (hX : w.heap.size ≤ X) (hv : vA.ownBlock ≠ some X) (hXR : R ≠ X) (j : Nat) (u : Value) : AL w (wr.setCell ⟨X, j, none⟩ u) R s q v xs vA := by
  have hg : wr.grownBy (wr.setCell ⟨X, j, none⟩ u) (some X) := ⟨rfl, rfl, rfl, by simp, fun k hk hn => Below.heap_setCell wr _ _ k (fun e => hn (by rw [e]))⟩
  exact ⟨h.rd.grown hg (by simpa using hXR), ⟨h.onl.os, h.onl.tape, h.onl.output, by simpa using h.onl.size, fun k hk h1 h2 => (Below.heap_setCell wr ⟨X, j, none⟩ u k (fun e => by have : k = X := e; omega)).trans (h.onl.block k hk h1 h2)⟩, h.own.kept hg (.inr (fun e => hv e))⟩
theorem AL.app (h : AL w wr R s q v xs vA) (hR : R < w.heap.size) (y : Al) (hown : w'.ownsRow w.heap.size 102 2 vB (xs.length + 1) (pairs xs ++ [.string y.t, .string y.s])) (hg : wr.grownBy w' vA.ownBlock) : AL w w' R s q v (xs ++ [y]) vB := by
  have hl : ∀ k, k < w.heap.size → some k ≠ vA.ownBlock := fun k hk e => by have := (h.own.lt k e.symm).1; omega
  exact ⟨h.rd.grown hg (hl R hR), ⟨hg.os.trans h.onl.os, hg.tape.trans h.onl.tape, hg.output.trans h.onl.output, Nat.le_trans h.onl.size hg.size, fun k hk h1 h2 => (hg.block k (Nat.lt_of_lt_of_le hk h.onl.size) (hl k hk)).trans (h.onl.block k hk h1 h2)⟩, by rw [pairs_add, List.length_append, List.length_singleton]; exact hown⟩
end
/-- what taking the pairs leaves -/
def APost (R : Nat) (s : ByteArray) (v : Value) (w : World) (r : Option (List Al × Nat)) (e : Ending) (w' : World) : Prop :=
  (∃ xs q vA, r = some (xs, q) ∧ e = .returned vA ∧ AL w w' R s q v xs vA) ∨ (r = none ∧ Pans e ∧ Below R w w')
theorem nil_own (w : World) (e : TypeId) (z b : Nat) : w.ownsRow b e z (.slice none 0 0) 0 [] := ⟨by simp, .inl ⟨rfl, rfl⟩⟩
set_option maxHeartbeats 4000000 in
theorem takeAllow_any (R : Nat) (s : ByteArray) (p : Nat) (v : Value) (w : World) (h : RdI w R s p v) (hs : s.size ≤ 1000) :
    Calls Try.prog 120 #[.pointer (some ⟨R, 0, none⟩)] w (APost R s v w (pairsI s (s.size + 1) [] p)) := by
  obtain ⟨iA, hiA, zA0, zA1, zA2⟩ := info_parts (P := Try.prog) (e := 102) (z := .agg #[.string ⟨#[]⟩, .string ⟨#[]⟩]) (size := 2) (bytes := 32) (by kernel_rfl)
  have HIA : Hid (Try.prog.info? 102 = some iA ∧ iA.zero = some (.agg #[.string ⟨#[]⟩, .string ⟨#[]⟩]) ∧ iA.size = 2 ∧ iA.bytes = 32) := ⟨hiA, zA0, zA1, zA2⟩
  have H := toHid h
  have hRw := h.lt
  have HP := toHid h.le
  obtain ⟨PP, hPP⟩ : ∃ PP, PP = pairsI s (s.size + 1) [] p := ⟨_, rfl⟩
  rw [← hPP]
  have HP0 := toHid hPP
  clear h hiA zA0 zA1 zA2 hPP
  go_enter Try.func120, Try.ntmps120
  go_wp2_with fail
  go_loopw [3, 4, 5] (fun vl vm _ wr => ∃ (xs : List Al) (q : Nat) (vA : Value) (b : Bool), vA = vl ∧ vm = .bool b ∧ Hid (AL w wr R s q v xs vA) ∧ Hid (q ≤ s.size) ∧ Hid (xs.length ≤ q) ∧ ((b = true ∧ ∃ n, s.size - q < n ∧ Hid (pairsI s n xs q = PP)) ∨ (b = false ∧ Hid (PP = if litAt s tClose q then some (xs, q + 1) else none)))) (fun _ vm _ wr => 2 * restN R wr + mtrue vm)
  case atStart => exact ⟨[], p, .slice none 0 0, true, rfl, rfl, ⟨H.out, Onl.refl _ _ _, nil_own _ _ _ _⟩, HP, Nat.zero_le _, .inl ⟨rfl, s.size + 1, by omega, HP0.out.symm⟩⟩
  case round =>
    clear H HP HP0
    obtain ⟨xs, q, vA, b, rfl, rfl, HL, HQ, HLN, hb⟩ := hrel
    rcases hb with ⟨rfl, n, hn, HPP⟩ | ⟨rfl, HPP⟩
    · obtain ⟨n, rfl⟩ : ∃ m, n = m + 1 := ⟨n - 1, by omega⟩
      have HRN := toHid HL.out.rd.restN
      go_wp2_with fail
      refine (takeName_any R s q v wr HL.out.rd hs).mono ?_
      rintro e w1 (⟨hnb, rfl, hr1, hg1⟩ | ⟨hnb, he, hg1⟩)
      · have HNB := toHid hnb
        have hwn := wordN_le s q HQ.out
        have hw1 : 1 ≤ wordN s q := by
          have h1 := wordP_size s q HQ.out
          have h2 : 1 ≤ (wordP s q).size := by
            simp only [nameB, signsB, lenB, Bool.and_eq_true, decide_eq_true_eq] at hnb
            exact hnb.1.1.1
          omega
        have HW1 := toHid hw1
        have HWN := toHid hwn
        have HL1 := toHid (HL.out.moved hRw hg1 hr1)
        clear hnb hr1 hg1 hwn hw1 HL
        obtain ⟨W2, hW2⟩ : ∃ W2, W2 = w1.alloc (.cells #[.string (wordP s q), .string ⟨#[]⟩] 102) := ⟨_, rfl⟩
        have HL2 : Hid (AL w W2 R s (q + wordN s q) v xs vA) := by rw [hW2]; exact HL1.out.made _
        have hxv : Hid (vA.ownBlock ≠ some w1.heap.size) := fun e => by have := (HL1.out.own.lt _ e).2; omega
        have hxw : Hid (w.heap.size ≤ w1.heap.size) := HL1.out.onl.size
        have HB2 : Hid (W2.cell? ⟨w1.heap.size, 0, none⟩ = some (.string (wordP s q)) ∧ W2.cell? ⟨w1.heap.size, 1, none⟩ = some (.string ⟨#[]⟩) ∧ w1.heap.size < W2.heap.size ∧ ∀ j, W2.frozen? ⟨w1.heap.size, j, none⟩ = false) := by
          rw [hW2]; refine ⟨by simp, by simp, by simp, fun j => by simp⟩
        clear HL1
        go_wp2_with fail
        rw [← hW2]
        clear hW2
        refine (skip_any R s tHash (q + wordN s q) v W2 HL2.out.rd hs (by decide)).mono ?_
        rintro e w3 ⟨rfl, hr3, hg3⟩
        have hxR : some w1.heap.size ≠ some R := by have := hxw.out; simp; omega
        have HB3 : Hid (w3.cell? ⟨w1.heap.size, 0, none⟩ = some (.string (wordP s q)) ∧ w3.cell? ⟨w1.heap.size, 1, none⟩ = some (.string ⟨#[]⟩) ∧ w1.heap.size < w3.heap.size ∧ ∀ j, w3.frozen? ⟨w1.heap.size, j, none⟩ = false) :=
          ⟨hg3.cell HB2.out.1 hxR, hg3.cell HB2.out.2.1 hxR, Nat.lt_of_lt_of_le HB2.out.2.2.1 hg3.size, fun j => (World.frozen?_of_block (w := W2) (a := ⟨w1.heap.size, j, none⟩) (hg3.block _ HB2.out.2.2.1 hxR)).trans (HB2.out.2.2.2 j)⟩
        cases hh : litAt s tHash (q + wordN s q) with
        | true =>
          rw [hh] at hr3
          have HL3 : Hid (AL w w3 R s (q + wordN s q + 1) v xs vA) := HL2.out.moved hRw hg3 hr3
          have HH := toHid hh
          have hle := litAt_le hh
          have e1 : tHash.size = 1 := rfl
          have HQ3 : Hid (q + wordN s q + 1 ≤ s.size) := by show _ ≤ _; omega
          clear hr3 hg3 HL2 HB2 hh hle e1
          go_wp2_with fail
          refine (takeName_any R s (q + wordN s q + 1) v w3 HL3.out.rd hs).mono ?_
          rintro e w4 (⟨hnb, rfl, hr4, hg4⟩ | ⟨hnb, he, hg4⟩)
          · have HNB2 := toHid hnb
            have hwn2 := wordN_le s (q + wordN s q + 1) HQ3.out
            have HGE : Hid (q + 1 ≤ q + wordN s q + 1 + wordN s (q + wordN s q + 1) ∧ q + wordN s q + 1 + wordN s (q + wordN s q + 1) ≤ s.size) := ⟨by omega, hwn2⟩
            have HL4 := toHid (HL3.out.moved hRw hg4 hr4)
            obtain ⟨b0, b1, b2, b3⟩ := HB3.out
            have x0 := hg4.cell b0 hxR
            have x1 := hg4.cell b1 hxR
            have xl := Nat.lt_of_lt_of_le b2 hg4.size
            have xf : ∀ j, w4.frozen? ⟨w1.heap.size, j, none⟩ = false := fun j => (World.frozen?_of_block (w := w3) (a := ⟨w1.heap.size, j, none⟩) (hg4.block _ b2 hxR)).trans (b3 j)
            obtain ⟨W5, hW5⟩ : ∃ W5, W5 = w4.setCell ⟨w1.heap.size, 1, none⟩ (.string (wordP s (q + wordN s q + 1))) := ⟨_, rfl⟩
            have HL5 : Hid (AL w W5 R s (q + wordN s q + 1 + wordN s (q + wordN s q + 1)) v xs vA) := by rw [hW5]; exact HL4.out.boxed hxw.out hxv.out (by have := hxw.out; omega) _ _
            have hs5 : W5.heap.size = w4.heap.size := by rw [hW5]; simp
            have HS5 := toHid hs5
            clear hnb hr4 hg4 HL3 HB3 hwn2 b0 b1 b2 b3 hs5 hxR
            obtain ⟨W9, hW9⟩ : ∃ W9, W9 = W5.alloc (.cells #[.string (wordP s q), .string (wordP s (q + wordN s q + 1))] 102) := ⟨_, rfl⟩
            have HL9 : Hid (AL w W9 R s (q + wordN s q + 1 + wordN s (q + wordN s q + 1)) v xs vA) := by rw [hW9]; exact HL5.out.made _
            have HNW : Hid (∀ j u, [Value.string (wordP s q), Value.string (wordP s (q + wordN s q + 1))][j]? = some u → W9.cell? ((⟨w4.heap.size, 0, none⟩ : Addr).add j) = some u) := by rw [hW9]; exact pairs_news _ _ _ _ (by have := HS5.out; omega)
            have HSZ9 : Hid (w.heap.size ≤ W9.heap.size) := HL9.out.onl.size
            have hxs : xs.length ≤ 1000 := by have := HLN.out; have := HQ.out; omega
            go_wp2_with (at_builtin; rw [← hW5]; clear hW5; rw [← hW9]; clear hW9; refine wpList_append_own _ rfl _ _ 53 rfl w.heap.size 102 iA (.agg #[.string ⟨#[]⟩, .string ⟨#[]⟩]) 2 32 Try.underlying53 HIA.out.1 HIA.out.2.1 HIA.out.2.2.1 HIA.out.2.2.2 rfl (by decide) vA xs.length (pairs xs) rfl HL9.out.own ⟨w4.heap.size, 0, none⟩ 1 1 [Value.string (wordP s q), Value.string (wordP s (q + wordN s q + 1))] rfl rfl HNW.out (by intro u hu; simp at hu; rcases hu with rfl | rfl <;> rfl) (by unfold maxLen; omega) (by omega) HSZ9.out ?_)
            intro vB w10 hown10 hgr10 _
            have HL10 := toHid (HL9.out.app hRw ⟨wordP s q, (wordP s (q + wordN s q + 1))⟩ hown10 hgr10)
            clear hown10 hgr10 HL9 HNW HSZ9 x0 x1 xl xf HL5 HL4
            go_wp2_with fail
            refine (skip_any R s tComma (q + wordN s q + 1 + wordN s (q + wordN s q + 1)) v w10 HL10.out.rd hs (by decide)).mono ?_
            rintro e w11 ⟨rfl, hr11, hg11⟩
            have EP : Hid (pairI s q = some (⟨wordP s q, (wordP s (q + wordN s q + 1))⟩, (q + wordN s q + 1 + wordN s (q + wordN s q + 1)))) := by show _ = _; rw [pairI, if_pos HNB.out, if_pos HH.out, if_pos HNB2.out]
            cases hcm : litAt s tComma (q + wordN s q + 1 + wordN s (q + wordN s q + 1)) with
            | true =>
              rw [hcm] at hr11
              have HL11 := toHid (HL10.out.moved hRw hg11 hr11)
              have hle := litAt_le hcm
              have EQ : Hid (pairsI s n (xs ++ [⟨wordP s q, (wordP s (q + wordN s q + 1))⟩]) ((q + wordN s q + 1 + wordN s (q + wordN s q + 1)) + 1) = PP) := by
                show _ = _
                rw [← HPP.out, pairsI, EP.out]
                simp only
                rw [if_pos hcm]
              have HM : Hid (2 * restN R w11 + 1 < 2 * restN R wr + 1) := by
                show _ < _
                rw [HL11.out.rd.restN, HRN.out]
                have e1 : (if true = true then (q + wordN s q + 1 + wordN s (q + wordN s q + 1)) + tComma.size else (q + wordN s q + 1 + wordN s (q + wordN s q + 1))) = (q + wordN s q + 1 + wordN s (q + wordN s q + 1)) + 1 := rfl
                rw [e1]
                have := HGE.out
                have e2 : tComma.size = 1 := rfl
                omega
              have HL12 : Hid (AL w w11 R s ((q + wordN s q + 1 + wordN s (q + wordN s q + 1)) + 1) v (xs ++ [⟨wordP s q, (wordP s (q + wordN s q + 1))⟩]) vB) := HL11.out
              have HQ12 : Hid ((q + wordN s q + 1 + wordN s (q + wordN s q + 1)) + 1 ≤ s.size) := hle
              clear hr11 hg11 HL10 HL11 hcm hle
              go_wp2
              go_roundw
              case rel => exact ⟨xs ++ [⟨wordP s q, (wordP s (q + wordN s q + 1))⟩], (q + wordN s q + 1 + wordN s (q + wordN s q + 1)) + 1, vB, true, rfl, rfl, HL12, HQ12, by show _ ≤ _; rw [List.length_append, List.length_singleton]; have := HLN.out; have := HGE.out; omega, .inl ⟨rfl, n, by have := HGE.out; omega, EQ⟩⟩
              case measure => simpa [mtrue] using HM.out
            | false =>
              rw [hcm] at hr11
              have HL11 : Hid (AL w w11 R s (q + wordN s q + 1 + wordN s (q + wordN s q + 1)) v (xs ++ [⟨wordP s q, (wordP s (q + wordN s q + 1))⟩]) vB) := HL10.out.moved hRw hg11 hr11
              have HQ12 : Hid ((q + wordN s q + 1 + wordN s (q + wordN s q + 1)) ≤ s.size) := HL11.out.rd.le
              have EQ : Hid (PP = if litAt s tClose (q + wordN s q + 1 + wordN s (q + wordN s q + 1)) then some (xs ++ [⟨wordP s q, (wordP s (q + wordN s q + 1))⟩], (q + wordN s q + 1 + wordN s (q + wordN s q + 1)) + 1) else none) := by
                show _ = _
                rw [← HPP.out, pairsI, EP.out]
                simp only
                rw [if_neg (by rw [hcm]; decide)]
              have HM : Hid (2 * restN R w11 + 0 < 2 * restN R wr + 1) := by
                show _ < _
                rw [HL11.out.rd.restN, HRN.out]
                have := HGE.out
                omega
              clear hr11 hg11 HL10 hcm
              go_wp2
              go_roundw
              case rel => exact ⟨xs ++ [⟨wordP s q, (wordP s (q + wordN s q + 1))⟩], (q + wordN s q + 1 + wordN s (q + wordN s q + 1)), vB, false, rfl, rfl, HL11, HQ12, by show _ ≤ _; rw [List.length_append, List.length_singleton]; have := HLN.out; have := HGE.out; omega, .inr ⟨rfl, EQ⟩⟩
              case measure => simpa [mtrue] using HM.out
          · unfold Pans at he
            subst he
            have EQ : Hid (PP = none) := by
              show _ = _
              rw [← HPP.out, pairsI, pairI, if_pos HNB.out, if_pos HH.out, if_neg (by rw [hnb]; decide)]
            have HBe := toHid (onl_below (HL3.out.onl.trans0 (Onl.of_grown hg4)) (by omega))
            clear hg4 HL3
            go_wp2
            exact ⟨rfl, .inr ⟨EQ.out, rfl, HBe.out⟩⟩
        | false =>
          rw [hh] at hr3
          have HL3 : Hid (AL w w3 R s (q + wordN s q) v xs vA) := HL2.out.moved hRw hg3 hr3
          have HH := toHid hh
          have HGE : Hid (q + 1 ≤ q + wordN s q ∧ q + wordN s q ≤ s.size) := ⟨by have := HW1.out; omega, HWN.out⟩
          obtain ⟨x0, x1, xl, xf⟩ := HB3.out
          clear hr3 hg3 HL2 HB2 HB3 hh hxR
          obtain ⟨W9, hW9⟩ : ∃ W9, W9 = w3.alloc (.cells #[.string (wordP s q), .string (⟨#[]⟩ : ByteArray)] 102) := ⟨_, rfl⟩
          have HL9 : Hid (AL w W9 R s (q + wordN s q) v xs vA) := by rw [hW9]; exact HL3.out.made _
          have HNW : Hid (∀ j u, [Value.string (wordP s q), Value.string (⟨#[]⟩ : ByteArray)][j]? = some u → W9.cell? ((⟨w3.heap.size, 0, none⟩ : Addr).add j) = some u) := by rw [hW9]; exact pairs_news _ _ _ _ rfl
          have HSZ9 : Hid (w.heap.size ≤ W9.heap.size) := HL9.out.onl.size
          have hxs : xs.length ≤ 1000 := by have := HLN.out; have := HQ.out; omega
          go_wp2_with (at_builtin; rw [← hW9]; clear hW9; refine wpList_append_own _ rfl _ _ 53 rfl w.heap.size 102 iA (.agg #[.string ⟨#[]⟩, .string ⟨#[]⟩]) 2 32 Try.underlying53 HIA.out.1 HIA.out.2.1 HIA.out.2.2.1 HIA.out.2.2.2 rfl (by decide) vA xs.length (pairs xs) rfl HL9.out.own ⟨w3.heap.size, 0, none⟩ 1 1 [Value.string (wordP s q), Value.string (⟨#[]⟩ : ByteArray)] rfl rfl HNW.out (by intro u hu; simp at hu; rcases hu with rfl | rfl <;> rfl) (by unfold maxLen; omega) (by omega) HSZ9.out ?_)
          intro vB w10 hown10 hgr10 _
          have HL10 := toHid (HL9.out.app hRw ⟨wordP s q, (⟨#[]⟩ : ByteArray)⟩ hown10 hgr10)
          clear hown10 hgr10 HL9 HNW HSZ9 x0 x1 xl xf HL3
          go_wp2_with fail
          refine (skip_any R s tComma (q + wordN s q) v w10 HL10.out.rd hs (by decide)).mono ?_
          rintro e w11 ⟨rfl, hr11, hg11⟩
          have EP : Hid (pairI s q = some (⟨wordP s q, (⟨#[]⟩ : ByteArray)⟩, (q + wordN s q))) := by show _ = _; rw [pairI, if_pos HNB.out, if_neg (by rw [HH.out]; decide)]
          cases hcm : litAt s tComma (q + wordN s q) with
          | true =>
            rw [hcm] at hr11
            have HL11 := toHid (HL10.out.moved hRw hg11 hr11)
            have hle := litAt_le hcm
            have EQ : Hid (pairsI s n (xs ++ [⟨wordP s q, (⟨#[]⟩ : ByteArray)⟩]) ((q + wordN s q) + 1) = PP) := by
              show _ = _
              rw [← HPP.out, pairsI, EP.out]
              simp only
              rw [if_pos hcm]
            have HM : Hid (2 * restN R w11 + 1 < 2 * restN R wr + 1) := by
              show _ < _
              rw [HL11.out.rd.restN, HRN.out]
              have e1 : (if true = true then (q + wordN s q) + tComma.size else (q + wordN s q)) = (q + wordN s q) + 1 := rfl
              rw [e1]
              have := HGE.out
              have e2 : tComma.size = 1 := rfl
              omega
            have HL12 : Hid (AL w w11 R s ((q + wordN s q) + 1) v (xs ++ [⟨wordP s q, (⟨#[]⟩ : ByteArray)⟩]) vB) := HL11.out
            have HQ12 : Hid ((q + wordN s q) + 1 ≤ s.size) := hle
            clear hr11 hg11 HL10 HL11 hcm hle
            go_wp2
            go_roundw
            case rel => exact ⟨xs ++ [⟨wordP s q, (⟨#[]⟩ : ByteArray)⟩], (q + wordN s q) + 1, vB, true, rfl, rfl, HL12, HQ12, by show _ ≤ _; rw [List.length_append, List.length_singleton]; have := HLN.out; have := HGE.out; omega, .inl ⟨rfl, n, by have := HGE.out; omega, EQ⟩⟩
            case measure => simpa [mtrue] using HM.out
          | false =>
            rw [hcm] at hr11
            have HL11 : Hid (AL w w11 R s (q + wordN s q) v (xs ++ [⟨wordP s q, (⟨#[]⟩ : ByteArray)⟩]) vB) := HL10.out.moved hRw hg11 hr11
            have HQ12 : Hid ((q + wordN s q) ≤ s.size) := HL11.out.rd.le
            have EQ : Hid (PP = if litAt s tClose (q + wordN s q) then some (xs ++ [⟨wordP s q, (⟨#[]⟩ : ByteArray)⟩], (q + wordN s q) + 1) else none) := by
              show _ = _
              rw [← HPP.out, pairsI, EP.out]
              simp only
              rw [if_neg (by rw [hcm]; decide)]
            have HM : Hid (2 * restN R w11 + 0 < 2 * restN R wr + 1) := by
              show _ < _
              rw [HL11.out.rd.restN, HRN.out]
              have := HGE.out
              omega
            clear hr11 hg11 HL10 hcm
            go_wp2
            go_roundw
            case rel => exact ⟨xs ++ [⟨wordP s q, (⟨#[]⟩ : ByteArray)⟩], (q + wordN s q), vB, false, rfl, rfl, HL11, HQ12, by show _ ≤ _; rw [List.length_append, List.length_singleton]; have := HLN.out; have := HGE.out; omega, .inr ⟨rfl, EQ⟩⟩
            case measure => simpa [mtrue] using HM.out
      · unfold Pans at he
        subst he
        have EQ : Hid (PP = none) := by
          show _ = _
          rw [← HPP.out, pairsI, pairI, if_neg (by rw [hnb]; decide)]
        have HBe := toHid (onl_below (HL.out.onl.trans0 (Onl.of_grown hg1)) (by omega))
        clear hg1 HL
        go_wp2
        exact ⟨rfl, .inr ⟨EQ.out, rfl, HBe.out⟩⟩
    · go_wp2_with fail
      refine (skip_any R s tClose q v wr HL.out.rd hs (by decide)).mono ?_
      rintro e w1 ⟨rfl, hr1, hg1⟩
      cases hc : litAt s tClose q with
      | true =>
        rw [hc] at hr1
        have HL1 : Hid (AL w w1 R s (q + 1) v xs vA) := HL.out.moved hRw hg1 hr1
        have EQ : Hid (PP = some (xs, q + 1)) := by show _ = _; rw [HPP.out, hc]; rfl
        clear hr1 hg1 HL hc
        go_wp2_with fail
        refine (must_yes w1).mono ?_
        rintro e w2 ⟨rfl, rfl⟩
        go_wp2
        go_ret
        exact .inl ⟨xs, q + 1, vA, EQ.out, rfl, HL1.out⟩
      | false =>
        have EQ : Hid (PP = none) := by show _ = _; rw [HPP.out, hc]; rfl
        have HBe := toHid (onl_below (HL.out.onl.trans0 (Onl.of_grown hg1)) (by omega))
        clear hr1 hg1 HL hc
        go_wp2_with fail
        refine (must_no w1).mono ?_
        rintro e w2 ⟨he, rfl⟩
        unfold Pans at he
        subst he
        go_wp2
        exact ⟨rfl, .inr ⟨EQ.out, rfl, HBe.out⟩⟩
end Go.Proofs.Ytjmbgpdbnffkpaa
