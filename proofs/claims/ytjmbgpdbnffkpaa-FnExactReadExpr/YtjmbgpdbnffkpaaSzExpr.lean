/- Contracts of the law's helpers that weigh an expression: what is left is no more than there was, and no list is longer than that. -/
import Derived.Test.YtjmbgpdbnffkpaaExprs
namespace Go.Proofs.Ytjmbgpdbnffkpaa
open Go.ChangeShapes Go.WideShapes Go.ChangeAt Go.RowKit
open Pl

theorem szInt64S_any (ad : Option Addr) (len cap : Nat) (left : Int) (w : World) (hl : len ≤ maxLen) (h0 : 0 ≤ left) (h1 : left ≤ 1048576) :
    Calls Try.prog 82 #[.slice ad len cap, .int .i64 left] w fun e w' => (∃ n : Int, e = .returned (.int .i64 n) ∧ (n = -1 ∨ 0 ≤ n ∧ n ≤ left ∧ (len : Int) ≤ left)) ∧ w' = w := by
  unfold maxLen at hl
  by_cases hneg : left - len < 0
  · go_enter Try.func82, Try.ntmps82
    go_wp2
    go_ret
    exact ⟨⟨-1, rfl, .inl rfl⟩, rfl⟩
  · go_enter Try.func82, Try.ntmps82
    go_wp2
    go_ret
    exact ⟨⟨_, rfl, .inr ⟨by omega, by omega, by omega⟩⟩, rfl⟩

theorem szAllowed_any (t s : ByteArray) (left : Int) (w : World) (ht : t.size ≤ maxLen) (hs : s.size ≤ maxLen) (h0 : 0 ≤ left) (h1 : left ≤ 1048576) :
    Calls Try.prog 106 #[.agg #[.string t, .string s], .int .i64 left] w fun e w' => (∃ n : Int, e = .returned (.int .i64 n) ∧ (n = -1 ∨ 0 ≤ n ∧ n ≤ left)) ∧ Below w.heap.size w w' := by
  unfold maxLen at ht hs
  have hB := (Below.refl w.heap.size w).alloc (Nat.le_refl _) (.cells #[.string t, .string s] 143)
  by_cases h2 : left - t.size < 0
  · go_enter Try.func106, Try.ntmps106
    go_wp2
    go_ret
    exact ⟨⟨-1, rfl, .inl rfl⟩, hB⟩
  · by_cases h3 : left - t.size - s.size < 0
    · go_enter Try.func106, Try.ntmps106
      go_wp2
      go_ret
      exact ⟨⟨-1, rfl, .inl rfl⟩, hB⟩
    · go_enter Try.func106, Try.ntmps106
      go_wp2
      go_ret
      exact ⟨⟨_, rfl, .inr ⟨by omega, by omega⟩⟩, hB⟩

set_option maxHeartbeats 400000 in
theorem szAllowedS_any (ad : Option Addr) (cap : Nat) (xs : List Al) (left : Int) (w : World) (hlen : xs.length ≤ maxLen) (hs : SlA w ad xs) (hf : ∀ a ∈ xs, a.fits) (h0 : 0 ≤ left) (h1 : left ≤ 1048576) :
    Calls Try.prog 81 #[.slice ad xs.length cap, .int .i64 left] w fun e w' => (∃ n : Int, e = .returned (.int .i64 n) ∧ (n = -1 ∨ 0 ≤ n ∧ n ≤ left ∧ (xs.length : Int) ≤ left)) ∧ Below w.heap.size w w' := by
  unfold maxLen at hlen
  by_cases hneg : left - xs.length < 0
  · go_enter Try.func81, Try.ntmps81
    go_wp2
    go_ret
    exact ⟨⟨-1, rfl, .inl rfl⟩, Below.refl _ _⟩
  · go_enter Try.func81, Try.ntmps81
    go_wp2
    go_loopw [1, 5] (fun l i wr => ∃ (k : Nat) (x : Int), k ≤ xs.length ∧ i = .int .i64 k ∧ l = .int .i64 x ∧ 0 ≤ x ∧ x ≤ left ∧ Below w.heap.size w wr) (fun _ i _ => xs.length - (intOf i).toNat)
    case atStart => exact ⟨0, _, Nat.zero_le _, rfl, rfl, by omega, by omega, Below.refl _ _⟩
    case round =>
      obtain ⟨k, x, hk, rfl, rfl, hx0, hx1, hB⟩ := hrel
      by_cases hlt : k < xs.length
      · rcases hs.below hB with rfl | ⟨b, off, rfl, hb, hr⟩
        · simp at hlt
        obtain ⟨t0, t1⟩ := hr k hlt
        obtain ⟨f0, f1⟩ := hf xs[k] (List.getElem_mem hlt)
        clear hr hs
        go_wp2_with fail
        refine (szAllowed_any _ _ _ _ f0 f1 hx0 (by omega)).mono ?_
        rintro e w1 ⟨⟨n, rfl, hn⟩, hb1⟩
        rcases hn with rfl | ⟨hn0, hn1⟩
        · go_wp2
          go_ret
          exact ⟨⟨-1, rfl, .inl rfl⟩, hB.trans (hb1.mono hB.size)⟩
        · go_wp2
          go_roundw
          case rel => exact ⟨k + 1, _, by omega, by go_num, rfl, by omega, by omega, hB.trans (hb1.mono hB.size)⟩
          case measure => simp [intOf]; omega
      · go_wp2
        go_ret
        exact ⟨⟨x, rfl, .inr ⟨hx0, hx1, by omega⟩⟩, hB⟩

/-- the bounds that weighing gives -/
def Ex.light (e : Ex) : Prop := e.allow.length ≤ 1048576 ∧ e.kids.length ≤ 1048576

set_option maxHeartbeats 800000 in
theorem szExpr_any (r : ER) (left : Int) (w : World) (hr : r.ok w) (hf : r.e.fits) (h0 : 0 ≤ left) (h1 : left ≤ 1048576) :
    Calls Try.prog 46 #[r.val, .int .i64 left] w fun e w' => (∃ n : Int, e = .returned (.int .i64 n) ∧ (n = -1 ∨ 0 ≤ n ∧ n ≤ left ∧ r.e.light)) ∧ Below w.heap.size w w' := by
  obtain ⟨⟨kind, allow, over, name, kids⟩, adA, capA, adK, capK⟩ := r
  obtain ⟨hA, hK⟩ := hr
  obtain ⟨f1, f2, f3, f4, f5⟩ := hf
  simp only at hA hK f1 f2 f3 f4 f5
  have g2 := f2
  have g3 := f3
  unfold maxLen at g2 g3
  simp only [ER.val, Ex.light]
  have HB : Hid (Below w.heap.size w (w.alloc (.cells #[.int .i64 kind, .slice adA allow.length capA, .string over, .string name, .slice adK kids.length capK] 71))) := (Below.refl w.heap.size w).alloc (Nat.le_refl _) _
  go_enter Try.func46, Try.ntmps46
  go_wp2_with fail
  refine (szAllowedS_any adA capA allow left _ f4 (hA.below HB.out) f1 h0 h1).mono ?_
  rintro e w1 ⟨⟨n, rfl, hn⟩, hb1⟩
  have HB1 : Hid (Below w.heap.size w w1) := HB.out.trans (hb1.mono HB.out.size)
  have c2 : w1.cell? ⟨w.heap.size, 2, none⟩ = some (.string over) := by rw [hb1.cell (p := ⟨w.heap.size, 2, none⟩) (by simp)]; simp
  have c3 : w1.cell? ⟨w.heap.size, 3, none⟩ = some (.string name) := by rw [hb1.cell (p := ⟨w.heap.size, 3, none⟩) (by simp)]; simp
  have c4 : w1.cell? ⟨w.heap.size, 4, none⟩ = some (.slice adK kids.length capK) := by rw [hb1.cell (p := ⟨w.heap.size, 4, none⟩) (by simp)]; simp
  clear hb1 HB
  rcases hn with rfl | ⟨hn0, hn1, hn2⟩
  · go_wp2
    go_ret
    exact ⟨⟨-1, rfl, .inl rfl⟩, HB1.out⟩
  by_cases h3 : n - over.size < 0
  · go_wp2
    go_ret
    exact ⟨⟨-1, rfl, .inl rfl⟩, HB1.out⟩
  by_cases h4 : n - over.size - name.size < 0
  · go_wp2
    go_ret
    exact ⟨⟨-1, rfl, .inl rfl⟩, HB1.out⟩
  go_wp2_with fail
  refine (szInt64S_any adK kids.length capK _ _ f5 (by omega) (by omega)).mono ?_
  rintro e w2 ⟨⟨n2, rfl, hm⟩, rfl⟩
  rcases hm with rfl | ⟨hm0, hm1, hm2⟩
  · go_wp2
    go_ret
    exact ⟨⟨-1, rfl, .inl rfl⟩, HB1.out⟩
  · go_wp2
    go_ret
    exact ⟨⟨n2, rfl, .inr ⟨hm0, by omega, by omega, by omega⟩⟩, HB1.out⟩

set_option maxHeartbeats 800000 in
theorem szExprS_any (ad : Option Addr) (cap : Nat) (rs : List ER) (left : Int) (w : World) (hlen : rs.length ≤ maxLen) (hs : SlE w ad rs) (hf : ∀ r ∈ rs, r.e.fits) (h0 : 0 ≤ left) (h1 : left ≤ 1048576) :
    Calls Try.prog 18 #[.slice ad rs.length cap, .int .i64 left] w fun e w' => (∃ n : Int, e = .returned (.int .i64 n) ∧ (n = -1 ∨ 0 ≤ n ∧ n ≤ left ∧ (rs.length : Int) ≤ left ∧ ∀ r ∈ rs, r.e.light)) ∧ Below w.heap.size w w' := by
  unfold maxLen at hlen
  by_cases hneg : left - rs.length < 0
  · go_enter Try.func18, Try.ntmps18
    go_wp2
    go_ret
    exact ⟨⟨-1, rfl, .inl rfl⟩, Below.refl _ _⟩
  · go_enter Try.func18, Try.ntmps18
    go_wp2
    go_loopw [1, 5] (fun l i wr => ∃ (k : Nat) (x : Int), k ≤ rs.length ∧ i = .int .i64 k ∧ l = .int .i64 x ∧ 0 ≤ x ∧ x ≤ left ∧ Hid (∀ r ∈ rs.take k, r.e.light) ∧ Below w.heap.size w wr) (fun _ i _ => rs.length - (intOf i).toNat)
    case atStart => exact ⟨0, _, Nat.zero_le _, rfl, rfl, by omega, by omega, (by intro r hr; simp at hr), Below.refl _ _⟩
    case round =>
      obtain ⟨k, x, hk, rfl, rfl, hx0, hx1, HL, hB⟩ := hrel
      by_cases hlt : k < rs.length
      · rcases hs.below hB with rfl | ⟨b, off, rfl, hb, hr, hok⟩
        · simp at hlt
        obtain ⟨t0, t1, t2, t3, t4⟩ := hr k hlt
        have ok := hok rs[k] (List.getElem_mem hlt)
        have ft := hf rs[k] (List.getElem_mem hlt)
        clear hr hs hok
        go_wp2_with fail
        refine (szExpr_any rs[k] x _ ok ft hx0 (by omega)).mono ?_
        rintro e w1 ⟨⟨n, rfl, hn⟩, hb1⟩
        rcases hn with rfl | ⟨hn0, hn1, hn2⟩
        · go_wp2
          go_ret
          exact ⟨⟨-1, rfl, .inl rfl⟩, hB.trans (hb1.mono hB.size)⟩
        · have HL2 : Hid (∀ r ∈ rs.take (k + 1), r.e.light) := by
            intro r hr
            rw [List.take_succ_eq_append_getElem hlt, List.mem_append, List.mem_singleton] at hr
            rcases hr with hr | rfl
            · exact HL.out r hr
            · exact hn2
          clear hn2 ok ft
          go_wp2
          go_roundw
          case rel => exact ⟨k + 1, _, by omega, by go_num, rfl, by omega, by omega, HL2, hB.trans (hb1.mono hB.size)⟩
          case measure => simp [intOf]; omega
      · have HL2 : Hid (∀ r ∈ rs, r.e.light) := fun r hr => HL.out r (by rw [List.take_of_length_le (by omega)]; exact hr)
        go_wp2
        go_ret
        exact ⟨⟨x, rfl, .inr ⟨hx0, hx1, by omega, HL2.out⟩⟩, hB⟩

end Go.Proofs.Ytjmbgpdbnffkpaa
