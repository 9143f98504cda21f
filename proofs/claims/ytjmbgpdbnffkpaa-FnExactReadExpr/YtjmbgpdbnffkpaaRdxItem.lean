/- Contract of the document's reader: an item that is a row in brackets. -/
import Derived.Test.YtjmbgpdbnffkpaaRdxState
namespace Go.Proofs.Ytjmbgpdbnffkpaa
set_option maxRecDepth 100000
open Go.ChangeShapes Go.WideShapes Go.ChangeAt Go.RowKit
open Pl

/-- what a call of the reader leaves -/
def RPost (R : Nat) (s : ByteArray) (base : Nat) (v : Value) (qs : List ER) (w : World) (x : Int × RS) (e : Ending) (w' : World) : Prop :=
  ∃ v' ns, e = .returned (.int .i64 x.1) ∧ RdF w' R s x.2 base v' (qs ++ ns) ∧ Went R v w v' w' ∧ ∀ q ∈ ns, ∀ g, inR q g → w.heap.size ≤ g
/-- the closing bracket -/
def closeP (s : ByteArray) (x : Int × RS) : Int × RS := if isP s tClose x.2 then (x.1, onP tClose x.2) else (x.1, endP x.2)
theorem closeP_yes {s : ByteArray} {x : Int × RS} (h : isB s tClose x.2.p x.2.bad = true) : closeP s x = (x.1, onP tClose x.2) := if_pos h
theorem closeP_no {s : ByteArray} {x : Int × RS} (h : isB s tClose x.2.p x.2.bad = false) : closeP s x = (x.1, endP x.2) := if_neg (fun e => by rw [isP, ← isB, h] at e; cases e)
theorem isP_isB (s t : ByteArray) (st : RS) : isP s t st = isB s t st.p st.bad := rfl
theorem RdF.is_no {w w' : World} {R : Nat} {s t : ByteArray} {st : RS} {base : Nat} {v : Value} {qs : List ER} (h : RdF w R s st base v qs) (hR : R < base) (hb : isB s t st.p st.bad = false) (hr : RdC w' R s (isE s t st.p st.bad) st.bad v) (hg : w.grownBy w' (some R)) : RdF w' R s st base v qs := by
  rw [isE_no hb] at hr
  exact h.over hR (Onl.of_grown hg) hr
theorem RdF.is_yes {w w' : World} {R : Nat} {s t : ByteArray} {st : RS} {base : Nat} {v : Value} {qs : List ER} (h : RdF w R s st base v qs) (hR : R < base) (hb : isB s t st.p st.bad = true) (hr : RdC w' R s (isE s t st.p st.bad) st.bad v) (hg : w.grownBy w' (some R)) : RdF w' R s (onP t st) base v qs := by
  rw [isE_yes hb] at hr
  exact h.over hR (Onl.of_grown hg) hr
theorem isB_le {s t : ByteArray} {p : Nat} {bad : Bool} (h : isB s t p bad = true) : p + t.size ≤ s.size := by
  unfold isB at h
  simp only [Bool.and_eq_true] at h
  exact litAt_le h.2

set_option maxHeartbeats 4000000 in
theorem item_row (R : Nat) (s : ByteArray) (st : RS) (base : Nat) (v : Value) (qs : List ER) (w : World) (h : RdF w R s st base v qs) (hR : R < base) (hs : s.size ≤ 1000) (hp : st.p ≤ s.size)
    (h0 : isB s tThis st.p st.bad = false) (h1 : isB s tOpen st.p st.bad = true) (x : Int × RS) (hx : x.2.p ≤ s.size)
    (hrow : ∀ w1, RdF w1 R s (onP tOpen st) base v qs → w.heap.size ≤ w1.heap.size → Calls Try.prog 26 #[.pointer (some ⟨R, 0, none⟩)] w1 (RPost R s base v qs w1 x)) :
    Calls Try.prog 58 #[.pointer (some ⟨R, 0, none⟩)] w (RPost R s base v qs w (closeP s x)) := by
  have H := toHid h
  have HROW := toHid hrow
  have HX := toHid hx
  have HP := toHid hp
  clear h hrow hx hp
  go_enter Try.func58, Try.ntmps58
  go_wp2_with fail
  refine (is_any R s tThis st.p st.bad v w H.out.rd hs HP.out (by decide)).mono ?_
  rintro e w1 ⟨rfl, hr1, hg1⟩
  have HF1 := toHid (H.out.is_no hR h0 hr1 hg1)
  have HO1 := toHid (Onl.of_grown hg1)
  rw [h0]
  clear hr1 hg1 h0
  go_wp2_with fail
  refine (is_any R s tOpen st.p st.bad v w1 HF1.out.rd hs HP.out (by decide)).mono ?_
  rintro e w2 ⟨rfl, hr2, hg2⟩
  have HF2 := toHid (HF1.out.is_yes hR h1 hr2 hg2)
  have HO2 := toHid (HO1.out.trans0 (Onl.of_grown hg2))
  rw [h1]
  clear hr2 hg2 h1
  go_wp2_with fail
  refine (HROW.out w2 HF2.out HO2.out.size).mono ?_
  rintro e w3 ⟨v3, ns, rfl, hF3, hW3, hns⟩
  have HF3 := toHid hF3
  have HW3 := toHid ((HO2.out.any v).trans hW3)
  have HNS : Hid (∀ q ∈ ns, ∀ g, inR q g → w.heap.size ≤ g) := fun q hq g hg => Nat.le_trans HO2.out.size (hns q hq g hg)
  clear hF3 hW3 hns HF1 HO1 HF2 HO2 HROW
  go_wp2_with fail
  refine (is_any R s tClose x.2.p x.2.bad v3 w3 HF3.out.rd hs HX.out (by decide)).mono ?_
  rintro e w4 ⟨rfl, hr4, hg4⟩
  cases hc : isB s tClose x.2.p x.2.bad with
  | true =>
    have HF4 := toHid (HF3.out.is_yes hR hc hr4 hg4)
    have HW4 := toHid (HW3.out.trans ((Onl.of_grown hg4).any v3))
    have EQ := toHid (closeP_yes (x := x) hc)
    clear hr4 hg4 hc
    go_wp2
    exact bodyPost_ret (v := .int .i64 x.1) (by simp [results, Try.results58, go_sem]) rfl (by rw [EQ.out]; exact ⟨v3, ns, rfl, HF4.out, HW4.out, HNS.out⟩)
  | false =>
    have HF4 := toHid (HF3.out.is_no hR hc hr4 hg4)
    have HW4 := toHid (HW3.out.trans ((Onl.of_grown hg4).any v3))
    have c2 := HF4.out.rd.c2
    have f2 := HF4.out.rd.fr 2
    have hl := HF4.out.rd.lt
    have EQ := toHid (closeP_no (x := x) hc)
    clear hr4 hg4 hc
    go_wp2
    exact bodyPost_ret (v := .int .i64 x.1) (by simp [results, Try.results58, go_sem]) rfl (by rw [EQ.out]; exact ⟨v3, ns, rfl, HF4.out.over hR ((Onl.refl R nilV w4).at_own _ _) HF4.out.rd.hurt, HW4.out.trans (((Onl.refl R nilV w4).at_own _ _).any v3), HNS.out⟩)
end Go.Proofs.Ytjmbgpdbnffkpaa
