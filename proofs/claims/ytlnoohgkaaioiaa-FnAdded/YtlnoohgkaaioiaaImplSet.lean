/- Contract of the program's set of tuples. -/
import Derived.Test.YtlnoohgkaaioiaaTupKey
import Derived.Test.YtlnoohgkaaioiaaMark0
namespace Go.Proofs.Ytlnoohgkaaioiaa
open Go.ChangeShapes Go.WideShapes Go.ChangeAt Go.RowKit Go.Maps
open Pl
variable [DecidableEq Tp]

/-- the set of these tuples, as a map's function -/
def setFrom (M : Tp → Option Value) : List Tp → Tp → Option Value
  | [] => M
  | t :: ts => setFrom (updM M t (some (.agg #[]))) ts
theorem setFrom_append (M : Tp → Option Value) (xs ys : List Tp) : setFrom M (xs ++ ys) = setFrom (setFrom M xs) ys := by
  induction xs generalizing M with
  | nil => rfl
  | cons x xs ih => exact ih _
theorem setFrom_succ (M : Tp → Option Value) (ts : List Tp) (k : Nat) (h : k < ts.length) : setFrom M (ts.take (k + 1)) = updM (setFrom M (ts.take k)) ts[k] (some (.agg #[])) := by
  rw [List.take_succ_eq_append_getElem h, setFrom_append]; rfl
theorem setFrom_is (ts : List Tp) : ∀ (M : Tp → Option Value) (t : Tp), (setFrom M ts t).isSome = true ↔ t ∈ ts ∨ (M t).isSome = true := by
  induction ts with
  | nil => intro M t; simp [setFrom]
  | cons x xs ih =>
    intro M t
    simp only [setFrom]
    rw [ih]
    unfold updM
    by_cases e : t = x
    · simp [e]
    · simp [e]

set_option maxRecDepth 100000 in
set_option maxHeartbeats 4000000 in
theorem setOf_any (ad : Option Addr) (cap : Nat) (ts : List Tp) (w : World) (hlen : ts.length ≤ 40) (hs : Sl w ad ts) (hf : ∀ t ∈ ts, t.fits) :
    Calls Try.prog 33 #[.slice ad ts.length cap] w fun e w' => e = .returned (.map (some w.heap.size)) ∧ MapV encT Try.prog 28 w' w.heap.size ts.length (setFrom (fun _ => none) ts) ∧ Below w.heap.size w w' := by
  have HS : Hid (Sl w ad ts) := hs
  have HFT : Hid (∀ t ∈ ts, t.fits) := hf
  have HM0 : Hid (MapV encT Try.prog 28 (w.alloc (.map #[] 0)) w.heap.size 0 (fun _ => none)) := mapV_made _ _ _ w
  have HB0 : Hid (Below w.heap.size w (w.alloc (.map #[] 0))) := (Below.refl _ _).alloc (Nat.le_refl _) _
  clear hs hf
  have hmm := @run_makeMap Try.prog
  go_enter Try.func33, Try.ntmps33
  go_wp2_with fail
  go_loopw [9] (fun i wr => ∃ k : Nat, k ≤ ts.length ∧ i = .int .i64 k ∧ Hid (MapV encT Try.prog 28 wr w.heap.size k (setFrom (fun _ => none) (ts.take k))) ∧ Hid (Below w.heap.size w wr)) (fun i _ => ts.length - (intOf i).toNat)
  case atStart => exact ⟨0, Nat.zero_le _, rfl, HM0, HB0⟩
  case round =>
    clear HM0 HB0 hmm
    obtain ⟨k, hk, rfl, HM, HB⟩ := hrel
    by_cases hlt : k < ts.length
    · rcases HS.out.below HB.out with hnil | ⟨b, off, rfl, hb, hr⟩
      · rw [hnil] at hlt; simp at hlt
      obtain ⟨t0, t1, t2, t3, t4, t5⟩ := hr k hlt
      have hk1 : (0 : Int) ≤ (k : Int) := by omega
      have hk2 : (k : Int) < (ts.length : Int) := by omega
      obtain ⟨kl, hkl⟩ := tupKeyOf ts[k] (HFT.out _ (List.getElem_mem hlt))
      have HKL : Hid (keyOf Try.prog 28 (encT ts[k]) = some kl) := hkl
      obtain ⟨W1, hW1⟩ : ∃ W1, W1 = wr.alloc (.cells #[.string ts[k].a, .string ts[k].b, .string ts[k].r, .string ts[k].c, .string ts[k].d, .string ts[k].s] 28) := ⟨_, rfl⟩
      have hal : Below wr.heap.size wr W1 := by rw [hW1]; exact (Below.refl _ _).alloc (Nat.le_refl _) _
      have HM1 : Hid (MapV encT Try.prog 28 W1 w.heap.size k (setFrom (fun _ => none) (ts.take k))) := HM.out.below hal
      have HB1 : Hid (Below w.heap.size w W1) := HB.out.trans (hal.mono HB.out.size)
      clear hr hkl HM hal
      go_wp2_with (at_mapUpdate; rw [← hW1]; clear hW1; refine wpList_storeV _ rfl _ _ _ 59 rfl 28 61 tupLaw encT_inj Try.underlying59 w.heap.size k _ rfl HM1.out (by unfold maxLen; omega) ts[k] kl rfl HKL.out _ rfl ?_; intro w3 hV3 hg3)
      have HM4 : Hid (MapV encT Try.prog 28 w3 w.heap.size (k + 1) (setFrom (fun _ => none) (ts.take (k + 1)))) := by
        show MapV _ _ _ _ _ _ _
        rw [setFrom_succ _ _ _ hlt]; exact hV3
      have HB4 : Hid (Below w.heap.size w w3) := HB1.out.grown hg3 HB1.out.size (fun i hi => by injection hi with hi; omega)
      clear hV3 hg3 HM1 HB1 t0 t1 t2 t3 t4 t5
      go_wp2
      go_roundw
      case rel => exact ⟨k + 1, by omega, by go_num, HM4, HB4⟩
      case measure => first | (simp [intOf]; done) | (simp [intOf]; omega)
    · obtain rfl : k = ts.length := by omega
      have HE : Hid (MapV encT Try.prog 28 wr w.heap.size ts.length (setFrom (fun _ => none) ts)) := by have := HM.out; rw [List.take_length] at this; exact this
      go_wp2
      go_ret
      exact ⟨rfl, HE.out, HB.out⟩
end Go.Proofs.Ytlnoohgkaaioiaa
