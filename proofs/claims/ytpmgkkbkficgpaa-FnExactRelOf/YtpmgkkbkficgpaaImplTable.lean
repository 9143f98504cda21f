/- Contract of the program's table of relations. -/
import Derived.Test.YtpmgkkbkficgpaaRelKey
import Derived.Test.YtpmgkkbkficgpaaPlainSchema
import Derived.Test.YtpmgkkbkficgpaaSpecSchema9
namespace Go.Proofs.Ytpmgkkbkficgpaa
open Go.ChangeShapes Go.WideShapes Go.ChangeAt Go.RowKit Go.Maps
open Pl

def RR.sl (q : RR) : Value := .slice q.ad q.rows.length q.cap
def tabIn (t : ByteArray) (M : ByteArray × ByteArray → Option Value) : List RR → ByteArray × ByteArray → Option Value
  | [] => M
  | q :: qs => tabIn t (updM M (t, q.name) (some q.sl)) qs
def tabFrom (M : ByteArray × ByteArray → Option Value) : List TR → ByteArray × ByteArray → Option Value
  | [] => M
  | t :: ts => tabFrom (tabIn t.name M t.rows) ts
def tabM (rs : List TR) : ByteArray × ByteArray → Option Value := tabFrom (fun _ => none) rs
theorem tabIn_append (t : ByteArray) (M : ByteArray × ByteArray → Option Value) (xs ys : List RR) : tabIn t M (xs ++ ys) = tabIn t (tabIn t M xs) ys := by
  induction xs generalizing M with
  | nil => rfl
  | cons q qs ih => simp only [List.cons_append, tabIn]; exact ih _
theorem tabFrom_append (M : ByteArray × ByteArray → Option Value) (xs ys : List TR) : tabFrom M (xs ++ ys) = tabFrom (tabFrom M xs) ys := by
  induction xs generalizing M with
  | nil => rfl
  | cons q qs ih => simp only [List.cons_append, tabFrom]; exact ih _
theorem tabIn_succ (t : ByteArray) (M : ByteArray × ByteArray → Option Value) (qs : List RR) (j : Nat) (h : j < qs.length) : tabIn t M (qs.take (j + 1)) = updM (tabIn t M (qs.take j)) (t, qs[j].name) (some qs[j].sl) := by
  rw [List.take_succ_eq_append_getElem h, tabIn_append]; rfl
theorem tabFrom_succ (M : ByteArray × ByteArray → Option Value) (rs : List TR) (k : Nat) (h : k < rs.length) : tabFrom M (rs.take (k + 1)) = tabIn rs[k].name (tabFrom M (rs.take k)) rs[k].rows := by
  rw [List.take_succ_eq_append_getElem h, tabFrom_append]; rfl

set_option maxRecDepth 100000 in
set_option maxHeartbeats 8000000 in
theorem tableOf_any (ad : Option Addr) (cap : Nat) (rs : List TR) (w : World) (hlen : rs.length ≤ 6) (hs : SlT w ad rs) (hrl : ∀ r ∈ rs, r.rows.length ≤ 6) (hf : ∀ r ∈ rs, r.fits) :
    Calls Try.prog 46 #[.slice ad rs.length cap] w fun e w' => e = .returned (.map (some w.heap.size)) ∧ MapV encK Try.prog 84 w' w.heap.size 36 (tabM rs) ∧ Below w.heap.size w w' := by
  have HS : Hid (SlT w ad rs) := hs
  have HRL : Hid (∀ r ∈ rs, r.rows.length ≤ 6) := hrl
  have HFT : Hid (∀ r ∈ rs, r.fits) := hf
  have HM0 : Hid (MapV encK Try.prog 84 (w.alloc (.map #[] 0)) w.heap.size 0 (fun _ => none)) := mapV_made _ _ _ w
  have HB0 : Hid (Below w.heap.size w (w.alloc (.map #[] 0))) := (Below.refl _ _).alloc (Nat.le_refl _) _
  clear hs hrl hf
  have hmm := @run_makeMap Try.prog
  go_enter Try.func46, Try.ntmps46
  go_wp2_with fail
  go_loopw [11] (fun i wr => ∃ k : Nat, k ≤ rs.length ∧ i = .int .i64 k ∧ Hid (MapV encK Try.prog 84 wr w.heap.size (k * 6) (tabFrom (fun _ => none) (rs.take k))) ∧ Hid (Below w.heap.size w wr)) (fun i _ => rs.length - (intOf i).toNat)
  case atStart => exact ⟨0, Nat.zero_le _, rfl, HM0, HB0⟩
  case round =>
    clear HM0 HB0 hmm
    obtain ⟨k, hk, rfl, HM, HB⟩ := hrel
    by_cases hlt : k < rs.length
    · rcases HS.out.below HB.out with rfl | ⟨b, off, rfl, hb, hr, hok⟩
      · simp at hlt
      obtain ⟨t0, t1⟩ := hr k hlt
      have hk1 : (0 : Int) ≤ (k : Int) := by omega
      have hk2 : (k : Int) < (rs.length : Int) := by omega
      have h6 : rs[k].rows.length ≤ 6 := HRL.out _ (List.getElem_mem hlt)
      have z0 : rs[k].name.size ≤ maxLen := (HFT.out _ (List.getElem_mem hlt)).1
      have HFR : Hid (∀ q ∈ rs[k].rows, q.fits) := (HFT.out _ (List.getElem_mem hlt)).2.2
      clear hr hok
      obtain ⟨W1, hW1⟩ : ∃ W1, W1 = wr.alloc (.cells #[.string rs[k].name, .slice rs[k].ad rs[k].rows.length rs[k].cap] 66) := ⟨_, rfl⟩
      have hal : Below wr.heap.size wr W1 := by rw [hW1]; exact (Below.refl _ _).alloc (Nat.le_refl _) _
      have HM1 : Hid (MapV encK Try.prog 84 W1 w.heap.size (k * 6) (tabFrom (fun _ => none) (rs.take k))) := HM.out.below hal
      have HB1 : Hid (Below w.heap.size w W1) := HB.out.trans (hal.mono HB.out.size)
      have HC1 : Hid (wr.heap.size < W1.heap.size ∧ W1.cell? ⟨wr.heap.size, 0, none⟩ = some (.string rs[k].name)) := ⟨by rw [hW1]; simp, by rw [hW1]; simp⟩
      have hgw : w.heap.size < wr.heap.size := HM.out.lt
      clear HM hal
      go_wp2_with fail
      rw [← hW1]
      clear hW1 t0 t1 HB
      obtain ⟨wo, hwo⟩ : ∃ wo, wo = wr := ⟨_, rfl⟩
      subst hwo
      go_loopw [18] (fun i w2 => ∃ j : Nat, j ≤ rs[k].rows.length ∧ i = .int .i64 j ∧ Hid (MapV encK Try.prog 84 w2 w.heap.size (k * 6 + j) (tabIn rs[k].name (tabFrom (fun _ => none) (rs.take k)) (rs[k].rows.take j))) ∧ Hid (Below w.heap.size w w2) ∧ Hid (wo.heap.size < w2.heap.size ∧ w2.cell? ⟨wo.heap.size, 0, none⟩ = some (.string rs[k].name))) (fun i _ => rs[k].rows.length - (intOf i).toNat)
      case atStart => exact ⟨0, Nat.zero_le _, rfl, HM1, HB1, HC1⟩
      case round =>
        clear HM1 HB1 HC1
        obtain ⟨j, hj, rfl, HM, HB, HC⟩ := hrel
        by_cases hjl : j < rs[k].rows.length
        · rcases HS.out.below HB.out with hnil | ⟨b', off', he, hb2, hr, hok⟩
          · rw [hnil] at hlt; simp at hlt
          injection he with he; injection he with he1 he2; subst he1; subst he2
          have ok := hok rs[k] (List.getElem_mem hlt)
          rcases ok with hnil | ⟨b2, off2, had, hbb, hr2, -⟩
          · rw [hnil] at hjl; simp at hjl
          obtain ⟨q0, q1⟩ := hr2 j hjl
          have z1 : rs[k].rows[j].name.size ≤ maxLen := (HFR.out _ (List.getElem_mem hjl)).1
          have hj1 : (0 : Int) ≤ (j : Int) := by omega
          have hj2 : (j : Int) < (rs[k].rows.length : Int) := by omega
          obtain ⟨kl, hkl⟩ := relKeyOf (rs[k].name, rs[k].rows[j].name) z0 z1
          have HKL : Hid (keyOf Try.prog 84 (encK (rs[k].name, rs[k].rows[j].name)) = some kl) := hkl
          obtain ⟨W2, hW2⟩ : ∃ W2, W2 = wr.alloc (.cells #[.string rs[k].rows[j].name, .slice rs[k].rows[j].ad rs[k].rows[j].rows.length rs[k].rows[j].cap] 68) := ⟨_, rfl⟩
          have hal : Below wr.heap.size wr W2 := by rw [hW2]; exact (Below.refl _ _).alloc (Nat.le_refl _) _
          have HM2 : Hid (MapV encK Try.prog 84 W2 w.heap.size (k * 6 + j) (tabIn rs[k].name (tabFrom (fun _ => none) (rs.take k)) (rs[k].rows.take j))) := HM.out.below hal
          have HB2 : Hid (Below w.heap.size w W2) := HB.out.trans (hal.mono HB.out.size)
          have hc1 := kept5 hal HC.out.1 HC.out.2
          have HC2 : Hid (wo.heap.size < W2.heap.size ∧ W2.cell? ⟨wo.heap.size, 0, none⟩ = some (.string rs[k].name)) := ⟨Nat.lt_of_lt_of_le HC.out.1 hal.size, hc1⟩
          have g0 : W2.cell? ⟨wr.heap.size, 0, none⟩ = some (.string rs[k].rows[j].name) := by rw [hW2]; simp
          have g1 : W2.cell? ⟨wr.heap.size, 1, none⟩ = some (.slice rs[k].rows[j].ad rs[k].rows[j].rows.length rs[k].rows[j].cap) := by rw [hW2]; simp
          have hsz : wo.heap.size < wr.heap.size := HC.out.1
          have hc0 := HC.out.2
          rw [had]
          clear hr hok hr2 hkl HM hal HC
          go_wp2_with (first | (at_mapUpdate; rw [← hW2]; refine wpList_storeV _ rfl _ _ _ 81 rfl 84 25 relLaw encK_inj Try.underlying81 w.heap.size (k * 6 + j) _ rfl HM2.out (by unfold maxLen; omega) (rs[k].name, rs[k].rows[j].name) kl rfl HKL.out _ rfl ?_; intro w3 hV3 hg3) | go_in)
          have HM4 : Hid (MapV encK Try.prog 84 w3 w.heap.size (k * 6 + (j + 1)) (tabIn rs[k].name (tabFrom (fun _ => none) (rs.take k)) (rs[k].rows.take (j + 1)))) := by
            show MapV _ _ _ _ _ _ _
            rw [tabIn_succ _ _ _ _ hjl]; exact hV3
          have HB4 : Hid (Below w.heap.size w w3) := HB2.out.grown hg3 HB2.out.size (fun i hi => by injection hi with hi; omega)
          have HC4 : Hid (wo.heap.size < w3.heap.size ∧ w3.cell? ⟨wo.heap.size, 0, none⟩ = some (.string rs[k].name)) := ⟨Nat.lt_of_lt_of_le HC2.out.1 hg3.size, by rw [hg3.cell_far _ HC2.out.1 (by simp; omega)]; exact HC2.out.2⟩
          clear hV3 hg3 hW2 HM2 HB2 HC2 g0 g1 q0 q1 hc0 hc1
          go_wp2
          go_roundw
          case rel => exact ⟨j + 1, by omega, by go_num, HM4, HB4, HC4⟩
          case measure => first | (simp [intOf]; done) | (simp [intOf]; omega)
        · obtain rfl : j = rs[k].rows.length := by omega
          have HM4 : Hid (MapV encK Try.prog 84 wr w.heap.size ((k + 1) * 6) (tabFrom (fun _ => none) (rs.take (k + 1)))) := by
            show MapV _ _ _ _ _ _ _
            have := HM.out
            rw [List.take_length] at this
            rw [tabFrom_succ _ _ _ hlt]; exact this.mono (by omega)
          clear HM
          go_wp2
          go_roundw
          case rel => exact ⟨k + 1, by omega, by go_num, HM4, HB⟩
          case measure => first | (simp [intOf]; done) | (simp [intOf]; omega)
    · obtain rfl : k = rs.length := by omega
      have HM4 : Hid (MapV encK Try.prog 84 wr w.heap.size 36 (tabM rs)) := by
        show MapV _ _ _ _ _ _ _
        have := HM.out
        rw [List.take_length] at this
        exact this.mono (by omega)
      go_wp2
      go_ret
      exact ⟨rfl, HM4.out, HB.out⟩
end Go.Proofs.Ytpmgkkbkficgpaa
