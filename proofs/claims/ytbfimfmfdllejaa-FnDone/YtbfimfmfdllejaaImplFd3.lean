/- Contract of the program's limits of a folder: how many files there are, and how many bytes. -/
import Derived.Test.YtbfimfmfdllejaaImplFd2
import Derived.Maps.RangeWalk
namespace Go.Proofs.Ytbfimfmfdllejaa
open Go.ChangeShapes Go.WideShapes Go.ChangeAt Go.RowKit Go.Maps

def totS (fs : List Fl) (ss : List (List UInt8)) : Nat := (ss.map fun x => (dataF fs ⟨x.toArray⟩).size).sum
theorem totS_snoc (fs : List Fl) (ss : List (List UInt8)) (x : List UInt8) : totS fs (ss ++ [x]) = totS fs ss + (dataF fs ⟨x.toArray⟩).size := by simp [totS]
theorem totS_le {fs : List Fl} {B : Nat} (hd : ∀ x, (dataF fs x).size ≤ B) : ∀ ss : List (List UInt8), totS fs ss ≤ ss.length * B
  | [] => by simp [totS]
  | x :: ss => by
    have := totS_le hd ss
    have h2 := hd ⟨x.toArray⟩
    have e : totS fs (x :: ss) = (dataF fs ⟨x.toArray⟩).size + totS fs ss := by simp [totS]
    rw [e, List.length_cons, Nat.succ_mul]; omega
theorem back_data (s : ByteArray) : (⟨s.data.toList.toArray⟩ : ByteArray) = s := by rw [Array.toArray_toList]
theorem totS_all {fs : List Fl} (hu : UpL fs) {ss : List (List UInt8)} (hp : ss.Perm (fs.map fun f => f.n.data.toList)) : totS fs ss = sumF fs := by
  have h1 := (hp.map fun x => (dataF fs ⟨x.toArray⟩).size).sum_nat
  unfold totS
  rw [h1, List.map_map, sumF]
  congr 1
  refine List.map_congr_left fun f hf => ?_
  simp only [Function.comp]
  rw [back_data, dataF_of hu hf]
theorem dataF_le {fs : List Fl} {B : Nat} (hd : ∀ f ∈ fs, f.d.size ≤ B) (x : ByteArray) : (dataF fs x).size ≤ B := by
  unfold dataF
  cases e : atF fs x with
  | none => exact Nat.zero_le _
  | some k => obtain ⟨f, hf, -, h2⟩ := atF_get e; simp only; rw [h2]; exact hd f hf
/-- a value that has come is the row of its name -/
theorem Fold.came {w : World} {b n : Nat} {M : ByteArray → Option Value} {fs : List Fl} (h : Fold w b n M fs) (hu : UpL fs) {D : DataW Value} (hD : ∀ x kl, keyOf Try.prog 9 (encS x) = some kl → SaysAt D kl (M x)) {x : ByteArray} {c : Value} {kl : Lit} {y : DataW Value × List MemPlace}
    (hkey : keyOf Try.prog 9 (encS x) = some kl) (hv : anyR c = some y) (hat : ∀ zd, D.atKey kl zd = y.1) : kl = .string x.data.toList ∧ ∃ ad cap, c = .slice ad (dataF fs x).size cap := by
  obtain ⟨x', e1, e2, -⟩ := str_inv hkey
  obtain rfl := encS_inj _ _ e1
  refine ⟨e2, ?_⟩
  have h2 := hD x kl hkey
  have h3 := Maps.has_true_of_atKey hat
  cases e : M x with
  | none => rw [e] at h2; rw [h2.1] at h3; cases h3
  | some v =>
    rw [e] at h2
    have h4 := h2.2 (.held v)
    rw [hat] at h4
    simp only [anyR, Option.some.injEq] at hv
    rw [← hv] at h4
    injection h4 with h4
    have := (h.row hu x).len
    rw [e, Option.getD_some, ← h4] at this
    exact this

set_option maxHeartbeats 2000000 in
theorem withinLimits_any (b n : Nat) (M : ByteArray → Option Value) (fs : List Fl) (w : World) (H : Fold w b n M fs) (hu : UpL fs) (hs : ∀ f ∈ fs, f.n.size ≤ maxLen) (hd : ∀ f ∈ fs, f.d.size ≤ 1073741824) (hl : fs.length ≤ 1048576) :
    Calls Try.prog 54 #[.map (some b)] w fun e w' => e = .returned (.bool (decide (fs.length ≤ 60) && decide (sumF fs ≤ 200000))) ∧ Below w.heap.size w w' := by
  obtain ⟨D, hown, hD, hperm, hsize⟩ := H.keys hu hs
  have HP := HIDk hperm
  have HC := HIDk (fun x c kl y => H.came (x := x) (c := c) (kl := kl) (y := y) hu hD)
  have HLe := HIDk (dataF_le hd)
  have HU := HIDk hu
  have HO := HIDk hown
  have HSZ := HIDk hsize
  have HLT := HIDk H.lt
  clear H hu hs hd hperm hD hown hsize
  go_enter Try.func54, Try.ntmps54
  go_wp2_with (first | (at_range; refine wpList_range_own _ rfl _ 69 rfl 9 49 strLaw Try.underlying69 _ b n D rfl HO.out ?_; intro w0 hrg0 hg0 hs0) | go_in)
  go_frame
  go_loopw [3] (fun s wr => ∃ (left : Lit → Bool) (cnt : Nat) (ss : List (List UInt8)), s = .int .i64 (totS fs ss : Int) ∧ Hid (wr.ranges Try.prog 9 anyR b w.heap.size n D left cnt) ∧ Hid (ss.length + cnt ≤ Maps.size D) ∧ Hid (Collected D left ss) ∧ Hid (Below w.heap.size w wr)) (fun _ wr => wr.rangeLeft b w.heap.size)
  case atStart => exact ⟨_, _, [], rfl, hrg0, (by show _ ≤ _; simp), Collected.start D, ⟨hg0.os, hg0.tape, hg0.output, hg0.size, fun k hk => hg0.block k hk (by simp)⟩⟩
  case round =>
    obtain ⟨left, cnt, ss, rfl, HR, HCn, HCo, HB⟩ := hrel
    go_wp2_with (first | (at_next; refine wpList_next_ranges _ rfl _ rfl 9 strLaw anyR encS id (fun key kl hk => by obtain ⟨x, hx, _⟩ := str_inv hk; exact ⟨x, hx⟩) (fun v _ _ => ⟨v, rfl⟩) b w.heap.size n _ _ _ rfl HR.out ?_ ?_) | go_in)
    · intro hc0 hl0
      have hT : totS fs ss = sumF fs := totS_all HU.out ((HCo.out.perm HR.out.owns strLaw Try.underlying9 hl0).trans HP.out.symm)
      have HOw := HIDk HR.out.owns
      rw [hT]
      clear hT hc0 hl0 HR HCn HCo
      cases h60 : decide (fs.length ≤ 60) with
      | true =>
        have d60 : decide ((fs.length : Int) ≤ 60) = true := by simp at h60 ⊢; omega
        go_wp2_with (first | (at_len; refine wpList_len_own _ rfl _ 69 rfl 9 49 Try.underlying69 _ b n D rfl HOw.out ?_; rw [HSZ.out]) | go_in)
        go_ret
        exact ⟨retB (by first | (rw [h60, Bool.true_and]; exact decide_eq_decide.2 (by omega)) | (rw [Bool.true_and]; exact decide_eq_decide.2 (by omega))), HB.out⟩
      | false =>
        have d60 : decide ((fs.length : Int) ≤ 60) = false := by simp at h60 ⊢; omega
        go_wp2_with (first | (at_len; refine wpList_len_own _ rfl _ 69 rfl 9 49 Try.underlying69 _ b n D rfl HOw.out ?_; rw [HSZ.out]) | go_in)
        go_ret
        exact ⟨retB (by first | (rw [h60]; rfl) | rfl), HB.out⟩
    · intro x c kl yd yp w2 cnt2 hkey hlk hv hat hrg2 hlt hg2 hs2 hen
      obtain ⟨rfl, ad, cap, rfl⟩ := HC.out x c kl (yd, yp) hkey hv hat
      have HCo2 : Hid (Collected D _ (ss ++ [x.data.toList])) := HCo.out.step hlk hat
      have HR2 := HIDk hrg2
      have hlen := HCn.out
      rw [HSZ.out] at hlen
      have htl := totS_le HLe.out ss
      have hxl := HLe.out x
      have hmul : ss.length * 1073741824 ≤ 1048576 * 1073741824 := Nat.mul_le_mul_right _ (by omega)
      have hbd : totS fs ss + (dataF fs x).size < 9223372036854775808 := by omega
      have HTS : Hid (totS fs (ss ++ [x.data.toList]) = totS fs ss + (dataF fs x).size) := by show _ = _; rw [totS_snoc, back_data]
      have HCn2 : Hid ((ss ++ [x.data.toList]).length + cnt2 ≤ Maps.size D) := by have := HCn.out; show _ ≤ _; rw [List.length_append]; simp; omega
      have HB2 : Hid (Below w.heap.size w w2) := ⟨hg2.os.trans HB.out.os, hg2.tape.trans HB.out.tape, hg2.output.trans HB.out.output, Nat.le_trans HB.out.size hg2.size, fun k hk => (hg2.block k (Nat.lt_of_lt_of_le hk HB.out.size) (fun e => by injection e with e; omega)).trans (HB.out.block k hk)⟩
      have HLF : Hid (w2.rangeLeft b w.heap.size < wr.rangeLeft b w.heap.size) := by show _ < _; rw [hrg2.left_eq, HR.out.left_eq]; exact hlt
      clear hkey hlk hv hat hrg2 hlt hg2 hs2 HCo HCn HB HR hlen htl hmul
      go_wp2
      go_roundw
      case rel => exact ⟨_, cnt2, _, by rw [HTS.out]; go_num, HR2, HCn2, HCo2, HB2⟩
      case measure => exact HLF.out
end Go.Proofs.Ytbfimfmfdllejaa
