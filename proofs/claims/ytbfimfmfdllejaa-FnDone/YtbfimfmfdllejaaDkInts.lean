/- Lists of numbers in memory, and the law's helpers over them; the program's look at what is kept. -/
import Derived.Test.YtbfimfmfdllejaaSyncDk
namespace Go.Proofs.Ytbfimfmfdllejaa
open Go.ChangeShapes Go.WideShapes Go.ChangeAt Go.RowKit Go.Maps

def SlK (w : World) (ad : Option Addr) (xs : List Int) : Prop := xs = [] ∨ ∃ b off, ad = some ⟨b, off, none⟩ ∧ b < w.heap.size ∧ ∀ (i : Nat) (h : i < xs.length), w.cell? ⟨b, off + i, none⟩ = some (.int .i64 xs[i])
theorem SlK.below {w w' : World} {ad : Option Addr} {xs : List Int} (h : SlK w ad xs) (hB : Below w.heap.size w w') : SlK w' ad xs := by
  rcases h with h | ⟨b, off, e, hb, hr⟩
  · exact .inl h
  · exact .inr ⟨b, off, e, Nat.lt_of_lt_of_le hb hB.size, fun i hi => (hB.cell (p := ⟨b, off + i, none⟩) hb).trans (hr i hi)⟩
theorem SlK.chg {S : Nat → Prop} {w w' : World} {ad : Option Addr} {xs : List Int} (h : SlK w ad xs) (hc : Chg S w w') (hn : ∀ g o, xs ≠ [] → ad = some ⟨g, o, none⟩ → ¬ S g) : SlK w' ad xs := by
  rcases h with h | ⟨b, off, e, hb, hr⟩
  · exact .inl h
  · by_cases hx : xs = []
    · exact .inl hx
    · exact .inr ⟨b, off, e, Nat.lt_of_lt_of_le hb hc.size, fun i hi => (hc.cell hb (hn b off hx e)).trans (hr i hi)⟩
def rowsK (xs : List Int) : List Value := xs.map fun x => .int .i64 x

set_option maxHeartbeats 800000 in
theorem toInt64S_any (ad : Option Addr) (cap : Nat) (xs : List Int) (w : World) (hlen : xs.length ≤ 1048576) (hs : SlK w ad xs) :
    Calls Try.prog 19 #[.slice ad xs.length cap] w fun e w' => e = .returned (.slice (some ⟨w.heap.size, 0, none⟩) xs.length xs.length) ∧ SlK w' (some ⟨w.heap.size, 0, none⟩) xs ∧ Free w' w.heap.size ∧ Below w.heap.size w w' := by
  obtain ⟨inf, z, hi, hz0, hz1, hz2⟩ := infoOf (t := 2) (n := 1) (b := 8) (by kernel_rfl)
  have HS := HIDk hs
  clear hs
  go_enter Try.func19, Try.ntmps19
  go_wp2_with (at_make; refine wpList_make_full _ rfl _ _ 42 rfl w.heap.size 2 inf z 1 Try.underlying42 hi hz0 hz1 .i64 .i64 _ _ xs.length rfl rfl rfl rfl (by rw [hz2]; omega) (by unfold maxLen; omega) (Nat.le_refl _) ?_; intro w0 hown0 hgrow0)
  have F0 : Fil w w0 w.heap.size (xs.length * 1) [] := fil_made hown0 hgrow0
  clear hown0 hgrow0 hi hz0 hz1 hz2
  go_loopw [4] (fun i wr => ∃ k : Nat, k ≤ xs.length ∧ i = .int .i64 k ∧ Hid (Fil w wr w.heap.size (xs.length * 1) (rowsK (xs.take k)))) (fun i _ => xs.length - (intOf i).toNat)
  case atStart => exact ⟨0, Nat.zero_le _, rfl, F0⟩
  case round =>
    obtain ⟨k, hk, rfl, F⟩ := hrel
    by_cases hlt : k < xs.length
    · obtain ⟨b, off, rfl, hb, t0⟩ : ∃ b off, ad = some ⟨b, off, none⟩ ∧ b < wr.heap.size ∧ wr.cell? ⟨b, off + k, none⟩ = some (.int .i64 xs[k]) := by
        rcases HS.out.below F.out.below with rfl | ⟨b, off, e, hb, hr⟩
        · simp at hlt
        · exact ⟨b, off, e, hb, hr k hlt⟩
      have k0 : (0 : Int) ≤ (k : Int) := by omega
      have k1 : (k : Int) < (xs.length : Int) := by omega
      have fz := F.out.free
      obtain ⟨v0, u0⟩ := Option.isSome_iff_exists.mp (F.out.there k (by omega))
      have hpl : (rowsK (xs.take k)).length = k := by rw [rowsK, List.length_map, List.length_take, Nat.min_eq_left hk]
      have F2 := F.out.put (.int .i64 xs[k]) (o := k) hpl.symm (by omega)
      have hnx : rowsK (xs.take k) ++ [.int .i64 xs[k]] = rowsK (xs.take (k + 1)) := by rw [List.take_succ_eq_append_getElem hlt, rowsK, rowsK, List.map_append]; rfl
      rw [hnx] at F2
      have HF := HIDk F2
      clear F2 hpl hnx F F0
      go_wp2
      go_roundw
      case rel => exact ⟨k + 1, by omega, by go_num, HF⟩
      case measure => simp [intOf]; omega
    · obtain rfl : k = xs.length := by omega
      have HE : Hid (SlK wr (some ⟨w.heap.size, 0, none⟩) xs ∧ Free wr w.heap.size ∧ Below w.heap.size w wr) := by
        have hF := F.out
        rw [List.take_length] at hF
        refine ⟨.inr ⟨_, 0, rfl, hF.lt, fun i hi => ?_⟩, hF.free, hF.below⟩
        rw [Nat.zero_add, hF.done i (by rw [rowsK, List.length_map]; exact hi)]; simp [rowsK]
      clear F F0
      go_wp2
      go_ret
      exact ⟨rfl, HE.out.1, HE.out.2.1, HE.out.2.2⟩

set_option maxHeartbeats 800000 in
theorem eqInt64S_same (ad ad' : Option Addr) (cap cap' : Nat) (xs : List Int) (w : World) (hlen : xs.length ≤ 1048576) (hs : SlK w ad xs) (hs' : SlK w ad' xs) :
    Calls Try.prog 21 #[.slice ad xs.length cap, .slice ad' xs.length cap'] w fun e w' => e = .returned (.bool true) ∧ Below w.heap.size w w' := by
  have HS := HIDk hs
  have HS' := HIDk hs'
  clear hs hs'
  go_enter Try.func21, Try.ntmps21
  go_wp2_with fail
  go_loopw [5] (fun i wr => ∃ k : Nat, k ≤ xs.length ∧ i = .int .i64 (k : Int) ∧ Hid (Below w.heap.size w wr)) (fun i _ => xs.length - (intOf i).toNat)
  case atStart => exact ⟨0, Nat.zero_le _, rfl, Below.refl _ _⟩
  case round =>
    obtain ⟨k, hk, rfl, HB⟩ := hrel
    by_cases hlt : k < xs.length
    · obtain ⟨b, off, rfl, t0⟩ : ∃ b off, ad = some ⟨b, off, none⟩ ∧ wr.cell? ⟨b, off + k, none⟩ = some (.int .i64 xs[k]) := by
        rcases HS.out.below HB.out with rfl | ⟨b, off, e, hb, hr⟩
        · simp at hlt
        · exact ⟨b, off, e, hr k hlt⟩
      obtain ⟨b', off', rfl, t1⟩ : ∃ b off, ad' = some ⟨b, off, none⟩ ∧ wr.cell? ⟨b, off + k, none⟩ = some (.int .i64 xs[k]) := by
        rcases HS'.out.below HB.out with rfl | ⟨b, off, e, hb, hr⟩
        · simp at hlt
        · exact ⟨b, off, e, hr k hlt⟩
      have k0 : (0 : Int) ≤ (k : Int) := by omega
      have k1 : (k : Int) < (xs.length : Int) := by omega
      go_wp2_with fail
      go_quiet (fail)
      go_wp2
      go_roundw
      case rel => exact ⟨k + 1, by omega, by go_num, below_drewN HB.out _⟩
      case measure => simp [intOf]; omega
    · obtain rfl : k = xs.length := by omega
      go_wp2
      go_ret
      exact ⟨rfl, HB.out⟩
end Go.Proofs.Ytbfimfmfdllejaa
