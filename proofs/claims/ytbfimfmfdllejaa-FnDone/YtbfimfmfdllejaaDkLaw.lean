/- Contracts of the laws' helpers on files, ops and disks: the weight, the copy into the program's types, held against one another. -/
import Derived.Test.YtbfimfmfdllejaaDkMem
import Derived.Deep.RegionHeld3
namespace Go.Proofs.Ytbfimfmfdllejaa
open Go.ChangeShapes Go.WideShapes Go.ChangeAt Go.RowKit

def Free (w : World) (g : Nat) : Prop := ∀ j, w.frozen? ⟨g, j, none⟩ = false
theorem szFile_any (n d : ByteArray) (left : Int) (w : World) (hn : n.size ≤ maxLen) (hd : d.size ≤ maxLen) (h0 : 0 ≤ left) (h1 : left ≤ 1048576) :
    Calls Try.prog 71 #[.agg #[.string n, .string d], .int .i64 left] w fun e w' => (∃ z : Int, e = .returned (.int .i64 z) ∧ (z = -1 ∨ 0 ≤ z ∧ z ≤ left ∧ n.size ≤ 1048576 ∧ d.size ≤ 1048576)) ∧ Below w.heap.size w w' := by
  unfold maxLen at hn hd
  have hB := (Below.refl w.heap.size w).alloc (Nat.le_refl _) (.cells #[.string n, .string d] 105)
  by_cases qn : left - n.size < 0
  · go_enter Try.func71, Try.ntmps71
    go_wp2
    go_ret
    exact ⟨⟨-1, rfl, .inl rfl⟩, hB⟩
  by_cases qd : left - n.size - d.size < 0
  · go_enter Try.func71, Try.ntmps71
    go_wp2
    go_ret
    exact ⟨⟨-1, rfl, .inl rfl⟩, hB⟩
  go_enter Try.func71, Try.ntmps71
  go_wp2
  go_ret
  exact ⟨⟨_, rfl, .inr ⟨by omega, by omega, by omega, by omega⟩⟩, hB⟩

set_option maxHeartbeats 400000 in
theorem szFileS_any (ad : Option Addr) (cap : Nat) (xs : List Fl) (left : Int) (w : World) (hlen : xs.length ≤ maxLen) (hs : SlF w ad xs) (hf : ∀ a ∈ xs, a.fits) (h0 : 0 ≤ left) (h1 : left ≤ 1048576) :
    Calls Try.prog 34 #[.slice ad xs.length cap, .int .i64 left] w fun e w' => (∃ n : Int, e = .returned (.int .i64 n) ∧ (n = -1 ∨ 0 ≤ n ∧ n ≤ left ∧ xs.length ≤ 1048576 ∧ ∀ a ∈ xs, a.small)) ∧ Below w.heap.size w w' := by
  unfold maxLen at hlen
  by_cases hneg : left - xs.length < 0
  · go_enter Try.func34, Try.ntmps34
    go_wp2
    go_ret
    exact ⟨⟨-1, rfl, .inl rfl⟩, Below.refl _ _⟩
  · go_enter Try.func34, Try.ntmps34
    go_wp2
    go_loopw [1, 5] (fun l i wr => ∃ (k : Nat) (x : Int), k ≤ xs.length ∧ i = .int .i64 k ∧ l = .int .i64 x ∧ 0 ≤ x ∧ x ≤ left ∧ Hid (∀ (j : Nat) (hj : j < xs.length), j < k → (xs[j]).small) ∧ Below w.heap.size w wr) (fun _ i _ => xs.length - (intOf i).toNat)
    case atStart => exact ⟨0, _, Nat.zero_le _, rfl, rfl, by omega, by omega, fun j hj h => absurd h (Nat.not_lt_zero _), Below.refl _ _⟩
    case round =>
      obtain ⟨k, x, hk, rfl, rfl, hx0, hx1, HS, hB⟩ := hrel
      by_cases hlt : k < xs.length
      · rcases hs.below hB with rfl | ⟨b, off, rfl, hb, hr⟩
        · simp at hlt
        obtain ⟨t0, t1⟩ := hr k hlt
        obtain ⟨f0, f1⟩ := hf xs[k] (List.getElem_mem hlt)
        clear hr hs
        go_wp2_with fail
        refine (szFile_any _ _ _ _ f0 f1 hx0 (by omega)).mono ?_
        rintro e w1 ⟨⟨n, rfl, hn⟩, hb1⟩
        rcases hn with rfl | ⟨hn0, hn1, hn2⟩
        · go_wp2
          go_ret
          exact ⟨⟨-1, rfl, .inl rfl⟩, hB.trans (hb1.mono hB.size)⟩
        · have HS2 : Hid (∀ (j : Nat) (hj : j < xs.length), j < k + 1 → (xs[j]).small) := fun j hj h => by
            by_cases e : j = k
            · subst e; exact hn2
            · exact HS.out j hj (by omega)
          clear hn2
          go_wp2
          go_roundw
          case rel => exact ⟨k + 1, _, by omega, by go_num, rfl, by omega, by omega, HS2, hB.trans (hb1.mono hB.size)⟩
          case measure => simp [intOf]; omega
      · have HA : Hid (∀ a ∈ xs, a.small) := fun a ha => by
          obtain ⟨j, hj, rfl⟩ := List.getElem_of_mem ha
          exact HS.out j hj (by omega)
        go_wp2
        go_ret
        exact ⟨⟨x, rfl, .inr ⟨hx0, hx1, by omega, HA.out⟩⟩, hB⟩

theorem szDOp_any (k : Int) (n t d : ByteArray) (left : Int) (w : World) (hn : n.size ≤ maxLen) (ht : t.size ≤ maxLen) (hd : d.size ≤ maxLen) (h0 : 0 ≤ left) (h1 : left ≤ 1048576) :
    Calls Try.prog 10 #[.agg #[.int .i64 k, .string n, .string t, .string d], .int .i64 left] w fun e w' => (∃ z : Int, e = .returned (.int .i64 z) ∧ (z = -1 ∨ 0 ≤ z ∧ z ≤ left ∧ n.size ≤ 1048576 ∧ t.size ≤ 1048576 ∧ d.size ≤ 1048576)) ∧ Below w.heap.size w w' := by
  unfold maxLen at hn ht hd
  have hB := (Below.refl w.heap.size w).alloc (Nat.le_refl _) (.cells #[.int .i64 k, .string n, .string t, .string d] 27)
  by_cases qn : left - n.size < 0
  · go_enter Try.func10, Try.ntmps10
    go_wp2
    go_ret
    exact ⟨⟨-1, rfl, .inl rfl⟩, hB⟩
  by_cases qt : left - n.size - t.size < 0
  · go_enter Try.func10, Try.ntmps10
    go_wp2
    go_ret
    exact ⟨⟨-1, rfl, .inl rfl⟩, hB⟩
  by_cases qd : left - n.size - t.size - d.size < 0
  · go_enter Try.func10, Try.ntmps10
    go_wp2
    go_ret
    exact ⟨⟨-1, rfl, .inl rfl⟩, hB⟩
  go_enter Try.func10, Try.ntmps10
  go_wp2
  go_ret
  exact ⟨⟨_, rfl, .inr ⟨by omega, by omega, by omega, by omega, by omega⟩⟩, hB⟩

set_option maxHeartbeats 400000 in
theorem szDOpS_any (ad : Option Addr) (cap : Nat) (xs : List Dop) (left : Int) (w : World) (hlen : xs.length ≤ maxLen) (hs : SlO w ad xs) (hf : ∀ a ∈ xs, a.fits) (h0 : 0 ≤ left) (h1 : left ≤ 1048576) :
    Calls Try.prog 35 #[.slice ad xs.length cap, .int .i64 left] w fun e w' => (∃ n : Int, e = .returned (.int .i64 n) ∧ (n = -1 ∨ 0 ≤ n ∧ n ≤ left ∧ xs.length ≤ 1048576 ∧ ∀ a ∈ xs, a.small)) ∧ Below w.heap.size w w' := by
  unfold maxLen at hlen
  by_cases hneg : left - xs.length < 0
  · go_enter Try.func35, Try.ntmps35
    go_wp2
    go_ret
    exact ⟨⟨-1, rfl, .inl rfl⟩, Below.refl _ _⟩
  · go_enter Try.func35, Try.ntmps35
    go_wp2
    go_loopw [1, 5] (fun l i wr => ∃ (k : Nat) (x : Int), k ≤ xs.length ∧ i = .int .i64 k ∧ l = .int .i64 x ∧ 0 ≤ x ∧ x ≤ left ∧ Hid (∀ (j : Nat) (hj : j < xs.length), j < k → (xs[j]).small) ∧ Below w.heap.size w wr) (fun _ i _ => xs.length - (intOf i).toNat)
    case atStart => exact ⟨0, _, Nat.zero_le _, rfl, rfl, by omega, by omega, fun j hj h => absurd h (Nat.not_lt_zero _), Below.refl _ _⟩
    case round =>
      obtain ⟨k, x, hk, rfl, rfl, hx0, hx1, HS, hB⟩ := hrel
      by_cases hlt : k < xs.length
      · rcases hs.below hB with rfl | ⟨b, off, rfl, hb, hr⟩
        · simp at hlt
        obtain ⟨t0, t1, t2, t3⟩ := hr k hlt
        obtain ⟨f0, f1, f2⟩ := hf xs[k] (List.getElem_mem hlt)
        clear hr hs
        go_wp2_with fail
        refine (szDOp_any _ _ _ _ _ _ f0 f1 f2 hx0 (by omega)).mono ?_
        rintro e w1 ⟨⟨n, rfl, hn⟩, hb1⟩
        rcases hn with rfl | ⟨hn0, hn1, hn2⟩
        · go_wp2
          go_ret
          exact ⟨⟨-1, rfl, .inl rfl⟩, hB.trans (hb1.mono hB.size)⟩
        · have HS2 : Hid (∀ (j : Nat) (hj : j < xs.length), j < k + 1 → (xs[j]).small) := fun j hj h => by
            by_cases e : j = k
            · subst e; exact ⟨by omega, by omega, by omega⟩
            · exact HS.out j hj (by omega)
          clear hn2
          go_wp2
          go_roundw
          case rel => exact ⟨k + 1, _, by omega, by go_num, rfl, by omega, by omega, HS2, hB.trans (hb1.mono hB.size)⟩
          case measure => simp [intOf]; omega
      · have HA : Hid (∀ a ∈ xs, a.small) := fun a ha => by
          obtain ⟨j, hj, rfl⟩ := List.getElem_of_mem ha
          exact HS.out j hj (by omega)
        go_wp2
        go_ret
        exact ⟨⟨x, rfl, .inr ⟨hx0, hx1, by omega, HA.out⟩⟩, hB⟩

theorem toFile_any (n d : ByteArray) (w : World) :
    Calls Try.prog 72 #[.agg #[.string n, .string d]] w fun e w' => e = .returned (.agg #[.string n, .string d]) ∧ Below w.heap.size w w' := by
  have hB := (((Below.refl w.heap.size w).alloc (Nat.le_refl _) (.cells #[.string n, .string d] 105)).alloc (by simp) (.cells #[.string n, .string d] 93)).alloc (by simp; omega) (.cells #[.string n, .string d] 93)
  go_enter Try.func72, Try.ntmps72
  go_wp2
  exact bodyPost_ret (v := .agg #[.string n, .string d]) (by simp [results, Try.results72, go_sem, *]) rfl ⟨rfl, hB⟩

set_option maxHeartbeats 800000 in
theorem toFileS_any (ad : Option Addr) (cap : Nat) (xs : List Fl) (w : World) (hlen : xs.length ≤ 1048576) (hs : SlF w ad xs) :
    Calls Try.prog 37 #[.slice ad xs.length cap] w fun e w' => e = .returned (.slice (some ⟨w.heap.size, 0, none⟩) xs.length xs.length) ∧ SlF w' (some ⟨w.heap.size, 0, none⟩) xs ∧ Free w' w.heap.size ∧ Below w.heap.size w w' := by
  obtain ⟨inf, z, hi, hz0, hz1, hz2⟩ := infoOf (t := 93) (n := 2) (b := 32) (by kernel_rfl)
  go_enter Try.func37, Try.ntmps37
  go_wp2_with (at_make; refine wpList_make_full _ rfl _ _ 30 rfl w.heap.size 93 inf z 2 Try.underlying30 hi hz0 hz1 .i64 .i64 _ _ xs.length rfl rfl rfl rfl (by rw [hz2]; omega) (by unfold maxLen; omega) (Nat.le_refl _) ?_; intro w0 hown0 hgrow0)
  have F0 : Fil w w0 w.heap.size (xs.length * 2) [] := fil_made hown0 hgrow0
  clear hown0 hgrow0 hi hz0 hz1 hz2
  go_loopw [4] (fun i wr => ∃ k : Nat, k ≤ xs.length ∧ i = .int .i64 k ∧ Fil w wr w.heap.size (xs.length * 2) (rowsF (xs.take k))) (fun i _ => xs.length - (intOf i).toNat)
  case atStart => exact ⟨0, Nat.zero_le _, rfl, F0⟩
  case round =>
    obtain ⟨k, hk, rfl, F⟩ := hrel
    by_cases hlt : k < xs.length
    · rcases hs.below F.below with rfl | ⟨b, off, rfl, hb, hr⟩
      · simp at hlt
      obtain ⟨t0, t1⟩ := hr k hlt
      go_wp2_with fail
      refine (toFile_any _ _ _).mono ?_
      rintro e w1 ⟨rfl, hb1⟩
      have F1 := F.later hb1
      have fz := F1.free
      obtain ⟨v0, u0⟩ := Option.isSome_iff_exists.mp (F1.there (k * 2) (by omega))
      obtain ⟨v1, u1⟩ := Option.isSome_iff_exists.mp (F1.there (k * 2 + 1) (by omega))
      have hpl : (rowsF (xs.take k)).length = k * 2 := by rw [rowsF_len, List.length_take, Nat.min_eq_left hk]
      have F2 := ((F1.put (.string xs[k].n) (o := k * 2) hpl.symm (by omega)).put (.string xs[k].d) (o := k * 2 + 1) (by simp [hpl]) (by omega))
      rw [← rowsF_next _ _ hlt] at F2
      have HF : Hid (Fil w ((w1.setCell ⟨w.heap.size, k * 2, none⟩ (.string xs[k].n)).setCell ⟨w.heap.size, k * 2 + 1, none⟩ (.string xs[k].d)) w.heap.size (xs.length * 2) (rowsF (xs.take (k + 1)))) := F2
      clear F F0 hr F1 F2 hs t0 t1 hb1 hpl
      go_wp2
      go_roundw
      case rel => exact ⟨k + 1, by omega, by go_num, HF.out⟩
      case measure => simp [intOf]; omega
    · obtain rfl : k = xs.length := by omega
      rw [List.take_length] at F
      go_wp2
      go_ret
      exact ⟨rfl, F.files, F.free, F.below⟩

theorem toDOp_any (k : Int) (n t d : ByteArray) (w : World) :
    Calls Try.prog 13 #[.agg #[.int .i64 k, .string n, .string t, .string d]] w fun e w' => e = .returned (.agg #[.int .i64 k, .string n, .string t, .string d]) ∧ Below w.heap.size w w' := by
  have hB := (((Below.refl w.heap.size w).alloc (Nat.le_refl _) (.cells #[.int .i64 k, .string n, .string t, .string d] 27)).alloc (by simp) (.cells #[.int .i64 k, .string n, .string t, .string d] 37)).alloc (by simp; omega) (.cells #[.int .i64 k, .string n, .string t, .string d] 37)
  go_enter Try.func13, Try.ntmps13
  go_wp2
  exact bodyPost_ret (v := .agg #[.int .i64 k, .string n, .string t, .string d]) (by simp [results, Try.results13, go_sem, *]) rfl ⟨rfl, hB⟩

set_option maxHeartbeats 800000 in
theorem toDOpS_any (ad : Option Addr) (cap : Nat) (xs : List Dop) (w : World) (hlen : xs.length ≤ 1048576) (hs : SlO w ad xs) :
    Calls Try.prog 38 #[.slice ad xs.length cap] w fun e w' => e = .returned (.slice (some ⟨w.heap.size, 0, none⟩) xs.length xs.length) ∧ SlO w' (some ⟨w.heap.size, 0, none⟩) xs ∧ Free w' w.heap.size ∧ Below w.heap.size w w' := by
  obtain ⟨inf, z, hi, hz0, hz1, hz2⟩ := infoOf (t := 37) (n := 4) (b := 56) (by kernel_rfl)
  go_enter Try.func38, Try.ntmps38
  go_wp2_with (at_make; refine wpList_make_full _ rfl _ _ 31 rfl w.heap.size 37 inf z 4 Try.underlying31 hi hz0 hz1 .i64 .i64 _ _ xs.length rfl rfl rfl rfl (by rw [hz2]; omega) (by unfold maxLen; omega) (Nat.le_refl _) ?_; intro w0 hown0 hgrow0)
  have F0 : Fil w w0 w.heap.size (xs.length * 4) [] := fil_made hown0 hgrow0
  clear hown0 hgrow0 hi hz0 hz1 hz2
  go_loopw [4] (fun i wr => ∃ k : Nat, k ≤ xs.length ∧ i = .int .i64 k ∧ Fil w wr w.heap.size (xs.length * 4) (rowsO (xs.take k))) (fun i _ => xs.length - (intOf i).toNat)
  case atStart => exact ⟨0, Nat.zero_le _, rfl, F0⟩
  case round =>
    obtain ⟨k, hk, rfl, F⟩ := hrel
    by_cases hlt : k < xs.length
    · rcases hs.below F.below with rfl | ⟨b, off, rfl, hb, hr⟩
      · simp at hlt
      obtain ⟨t0, t1, t2, t3⟩ := hr k hlt
      go_wp2_with fail
      refine (toDOp_any _ _ _ _ _).mono ?_
      rintro e w1 ⟨rfl, hb1⟩
      have F1 := F.later hb1
      have fz := F1.free
      obtain ⟨v0, u0⟩ := Option.isSome_iff_exists.mp (F1.there (k * 4) (by omega))
      obtain ⟨v1, u1⟩ := Option.isSome_iff_exists.mp (F1.there (k * 4 + 1) (by omega))
      obtain ⟨v2, u2⟩ := Option.isSome_iff_exists.mp (F1.there (k * 4 + 2) (by omega))
      obtain ⟨v3, u3⟩ := Option.isSome_iff_exists.mp (F1.there (k * 4 + 3) (by omega))
      have hpl : (rowsO (xs.take k)).length = k * 4 := by rw [rowsO_len, List.length_take, Nat.min_eq_left hk]
      have F2 := ((((F1.put (.int .i64 xs[k].k) (o := k * 4) hpl.symm (by omega)).put (.string xs[k].n) (o := k * 4 + 1) (by simp [hpl]) (by omega)).put (.string xs[k].t) (o := k * 4 + 2) (by simp [hpl]) (by omega)).put (.string xs[k].d) (o := k * 4 + 3) (by simp [hpl]) (by omega))
      rw [← rowsO_next _ _ hlt] at F2
      have HF : Hid (Fil w ((((w1.setCell ⟨w.heap.size, k * 4, none⟩ (.int .i64 xs[k].k)).setCell ⟨w.heap.size, k * 4 + 1, none⟩ (.string xs[k].n)).setCell ⟨w.heap.size, k * 4 + 2, none⟩ (.string xs[k].t)).setCell ⟨w.heap.size, k * 4 + 3, none⟩ (.string xs[k].d)) w.heap.size (xs.length * 4) (rowsO (xs.take (k + 1)))) := F2
      clear F F0 hr F1 F2 hs t0 t1 t2 t3 hb1 hpl
      go_wp2
      go_roundw
      case rel => exact ⟨k + 1, by omega, by go_num, HF.out⟩
      case measure => simp [intOf]; omega
    · obtain rfl : k = xs.length := by omega
      rw [List.take_length] at F
      go_wp2
      go_ret
      exact ⟨rfl, F.ops, F.free, F.below⟩

theorem eqFile_same (n d : ByteArray) (w : World) :
    Calls Try.prog 76 #[.agg #[.string n, .string d], .agg #[.string n, .string d]] w fun e w' => e = .returned (.bool true) ∧ Below w.heap.size w w' := by
  go_enter Try.func76, Try.ntmps76
  go_wp2
  go_ret
  exact ⟨rfl, ((Below.refl w.heap.size w).alloc (Nat.le_refl _) _).alloc (by simp) _⟩

theorem keepEFile {w W w' : World} {b b' o o' : Nat} {x0 y0 x1 y1 : Value} (h : W.cell? ⟨b, o, none⟩ = some x0 ∧ W.cell? ⟨b, o + 1, none⟩ = some x1 ∧ W.cell? ⟨b', o', none⟩ = some y0 ∧ W.cell? ⟨b', o' + 1, none⟩ = some y1 ∧ b < W.heap.size ∧ b' < W.heap.size ∧ Below w.heap.size w W) (hb : Below W.heap.size W w') :
    w'.cell? ⟨b, o, none⟩ = some x0 ∧ w'.cell? ⟨b, o + 1, none⟩ = some x1 ∧ w'.cell? ⟨b', o', none⟩ = some y0 ∧ w'.cell? ⟨b', o' + 1, none⟩ = some y1 ∧ b < w'.heap.size ∧ b' < w'.heap.size ∧ Below w.heap.size w w' := by
  obtain ⟨h0, h1, h2, h3, l, l', hB⟩ := h
  exact ⟨kept hb l h0, kept hb l h1, kept hb l' h2, kept hb l' h3, Nat.lt_of_lt_of_le l hb.size, Nat.lt_of_lt_of_le l' hb.size, hB.trans (hb.mono hB.size)⟩

set_option maxHeartbeats 1000000 in
theorem eqFileS_same (ad ad' : Option Addr) (cap cap' : Nat) (xs : List Fl) (w : World) (hlen : xs.length ≤ 1048576) (hs : SlF w ad xs) (hs' : SlF w ad' xs) :
    Calls Try.prog 43 #[.slice ad xs.length cap, .slice ad' xs.length cap'] w fun e w' => e = .returned (.bool true) ∧ Below w.heap.size w w' := by
  go_enter Try.func43, Try.ntmps43
  go_wp2
  go_loopw [5] (fun i wr => ∃ k : Nat, k ≤ xs.length ∧ i = .int .i64 k ∧ Below w.heap.size w wr) (fun i _ => xs.length - (intOf i).toNat)
  case atStart => exact ⟨0, Nat.zero_le _, rfl, Below.refl _ _⟩
  case round =>
    obtain ⟨k, hk, rfl, hB⟩ := hrel
    by_cases hlt : k < xs.length
    · rcases hs.below hB with rfl | ⟨b, off, rfl, hb, hr⟩
      · simp at hlt
      rcases hs'.below hB with rfl | ⟨b', off', rfl, hb', hr'⟩
      · simp at hlt
      obtain ⟨t0, t1⟩ := hr k hlt
      obtain ⟨q0, q1⟩ := hr' k hlt
      have hk1 : (0 : Int) ≤ (k : Int) := by omega
      have hk2 : (k : Int) < (xs.length : Int) := by omega
      clear hr hr' hs hs'
      go_wp2_with fail
      go_region_held3 (fun w' => w'.cell? ⟨b, off + k * 2, none⟩ = some (.string xs[k].n) ∧ w'.cell? ⟨b, off + k * 2 + 1, none⟩ = some (.string xs[k].d) ∧ w'.cell? ⟨b', off' + k * 2, none⟩ = some (.string xs[k].n) ∧ w'.cell? ⟨b', off' + k * 2 + 1, none⟩ = some (.string xs[k].d) ∧ b < w'.heap.size ∧ b' < w'.heap.size ∧ Below w.heap.size w w')
        (first | assumption | exact keepEFile (by assumption) hbx | exact ⟨t0, t1, q0, q1, hb, hb', hB.drew⟩)
        (first | (go_at_call 76; refine (eqFile_same _ _ _).mono ?_; rintro e w' ⟨rfl, hbx⟩))
      rename_i hH
      obtain ⟨-, -, -, -, -, -, gB⟩ := hH
      clear t0 t1 q0 q1 hB hb hb'
      go_wp2
      go_roundw
      case rel => exact ⟨k + 1, by omega, by go_num, gB⟩
      case measure => simp [intOf]; omega
    · go_wp2
      go_ret
      exact ⟨rfl, hB⟩

theorem eqDOp_same (k : Int) (n t d : ByteArray) (w : World) :
    Calls Try.prog 77 #[.agg #[.int .i64 k, .string n, .string t, .string d], .agg #[.int .i64 k, .string n, .string t, .string d]] w fun e w' => e = .returned (.bool true) ∧ Below w.heap.size w w' := by
  go_enter Try.func77, Try.ntmps77
  go_wp2
  go_ret
  exact ⟨rfl, ((Below.refl w.heap.size w).alloc (Nat.le_refl _) _).alloc (by simp) _⟩

theorem keepEDOp {w W w' : World} {b b' o o' : Nat} {x0 y0 x1 y1 x2 y2 x3 y3 : Value} (h : W.cell? ⟨b, o, none⟩ = some x0 ∧ W.cell? ⟨b, o + 1, none⟩ = some x1 ∧ W.cell? ⟨b, o + 2, none⟩ = some x2 ∧ W.cell? ⟨b, o + 3, none⟩ = some x3 ∧ W.cell? ⟨b', o', none⟩ = some y0 ∧ W.cell? ⟨b', o' + 1, none⟩ = some y1 ∧ W.cell? ⟨b', o' + 2, none⟩ = some y2 ∧ W.cell? ⟨b', o' + 3, none⟩ = some y3 ∧ b < W.heap.size ∧ b' < W.heap.size ∧ Below w.heap.size w W) (hb : Below W.heap.size W w') :
    w'.cell? ⟨b, o, none⟩ = some x0 ∧ w'.cell? ⟨b, o + 1, none⟩ = some x1 ∧ w'.cell? ⟨b, o + 2, none⟩ = some x2 ∧ w'.cell? ⟨b, o + 3, none⟩ = some x3 ∧ w'.cell? ⟨b', o', none⟩ = some y0 ∧ w'.cell? ⟨b', o' + 1, none⟩ = some y1 ∧ w'.cell? ⟨b', o' + 2, none⟩ = some y2 ∧ w'.cell? ⟨b', o' + 3, none⟩ = some y3 ∧ b < w'.heap.size ∧ b' < w'.heap.size ∧ Below w.heap.size w w' := by
  obtain ⟨h0, h1, h2, h3, h4, h5, h6, h7, l, l', hB⟩ := h
  exact ⟨kept hb l h0, kept hb l h1, kept hb l h2, kept hb l h3, kept hb l' h4, kept hb l' h5, kept hb l' h6, kept hb l' h7, Nat.lt_of_lt_of_le l hb.size, Nat.lt_of_lt_of_le l' hb.size, hB.trans (hb.mono hB.size)⟩

set_option maxHeartbeats 1000000 in
theorem eqDOpS_same (ad ad' : Option Addr) (cap cap' : Nat) (xs : List Dop) (w : World) (hlen : xs.length ≤ 1048576) (hs : SlO w ad xs) (hs' : SlO w ad' xs) :
    Calls Try.prog 44 #[.slice ad xs.length cap, .slice ad' xs.length cap'] w fun e w' => e = .returned (.bool true) ∧ Below w.heap.size w w' := by
  go_enter Try.func44, Try.ntmps44
  go_wp2
  go_loopw [5] (fun i wr => ∃ k : Nat, k ≤ xs.length ∧ i = .int .i64 k ∧ Below w.heap.size w wr) (fun i _ => xs.length - (intOf i).toNat)
  case atStart => exact ⟨0, Nat.zero_le _, rfl, Below.refl _ _⟩
  case round =>
    obtain ⟨k, hk, rfl, hB⟩ := hrel
    by_cases hlt : k < xs.length
    · rcases hs.below hB with rfl | ⟨b, off, rfl, hb, hr⟩
      · simp at hlt
      rcases hs'.below hB with rfl | ⟨b', off', rfl, hb', hr'⟩
      · simp at hlt
      obtain ⟨t0, t1, t2, t3⟩ := hr k hlt
      obtain ⟨q0, q1, q2, q3⟩ := hr' k hlt
      have hk1 : (0 : Int) ≤ (k : Int) := by omega
      have hk2 : (k : Int) < (xs.length : Int) := by omega
      clear hr hr' hs hs'
      go_wp2_with fail
      go_region_held3 (fun w' => w'.cell? ⟨b, off + k * 4, none⟩ = some (.int .i64 xs[k].k) ∧ w'.cell? ⟨b, off + k * 4 + 1, none⟩ = some (.string xs[k].n) ∧ w'.cell? ⟨b, off + k * 4 + 2, none⟩ = some (.string xs[k].t) ∧ w'.cell? ⟨b, off + k * 4 + 3, none⟩ = some (.string xs[k].d) ∧ w'.cell? ⟨b', off' + k * 4, none⟩ = some (.int .i64 xs[k].k) ∧ w'.cell? ⟨b', off' + k * 4 + 1, none⟩ = some (.string xs[k].n) ∧ w'.cell? ⟨b', off' + k * 4 + 2, none⟩ = some (.string xs[k].t) ∧ w'.cell? ⟨b', off' + k * 4 + 3, none⟩ = some (.string xs[k].d) ∧ b < w'.heap.size ∧ b' < w'.heap.size ∧ Below w.heap.size w w')
        (first | assumption | exact keepEDOp (by assumption) hbx | exact ⟨t0, t1, t2, t3, q0, q1, q2, q3, hb, hb', hB.drew⟩)
        (first | (go_at_call 77; refine (eqDOp_same _ _ _ _ _).mono ?_; rintro e w' ⟨rfl, hbx⟩))
      rename_i hH
      obtain ⟨-, -, -, -, -, -, -, -, -, -, gB⟩ := hH
      clear t0 t1 t2 t3 q0 q1 q2 q3 hB hb hb'
      go_wp2
      go_roundw
      case rel => exact ⟨k + 1, by omega, by go_num, gB⟩
      case measure => simp [intOf]; omega
    · go_wp2
      go_ret
      exact ⟨rfl, hB⟩

end Go.Proofs.Ytbfimfmfdllejaa
