/- Contracts: lists of tuples looked at, whatever slice leads to them; two rows of the same tuples held against one another. -/
import Derived.Test.YtpnjoniolfmbnaaGreatDoorTuplesOkI
import Derived.Test.YtpnjoniolfmbnaaGreatDoorJ13
import Derived.Test.YtpnjoniolfmbnaaGreatDoorJ3
import Derived.Test.YtpnjoniolfmbnaaGreatDoorJ4
namespace Go.Proofs.YtpnjoniolfmbnaaGreatDoor
open Go.ChangeShapes Go.WideShapes Go.ChangeAt Go.RowKit
open Pl
attribute [local go_sem ↓] Go.wp_at_zero Go.wp_at_succ

theorem eqObject_same3 (a b : ByteArray) (w : World) :
    Calls Tryz.prog 82 #[.agg #[.string a, .string b], .agg #[.string a, .string b]] w fun e w' => e = .returned (.bool true) ∧ Below w.heap.size w w' := by
  go_enter Tryz.func82, Tryz.ntmps82
  go_wp2
  go_ret
  exact ⟨rfl, ((Below.refl _ _).alloc (Nat.le_refl _) _).alloc (by simp) _⟩
theorem eqTuple_same3 (a b r c d s : ByteArray) (w : World) :
    Calls Tryz.prog 46 #[.agg #[.string a, .string b, .string r, .string c, .string d, .string s], .agg #[.string a, .string b, .string r, .string c, .string d, .string s]] w fun e w' => e = .returned (.bool true) ∧ Below w.heap.size w w' := by
  go_enter Tryz.func46, Tryz.ntmps46
  go_wp2_with fail
  refine (eqObject_same3 _ _ _).mono ?_
  rintro e w1 ⟨rfl, hb1⟩
  obtain ⟨hc1, hf1⟩ := bcell hb1
  have hz1 : w.heap.size + 1 < w1.heap.size := by have := hb1.size; simp at this; omega
  have hy1 : w.heap.size < w1.heap.size := by omega
  have HB1 : Below w.heap.size w w1 := (((Below.refl _ _).alloc (Nat.le_refl _) _).alloc (by simp) _).trans (hb1.mono (by simp; omega))
  go_wp2_with fail
  refine (eqObject_same3 _ _ _).mono ?_
  rintro e w2 ⟨rfl, hb2⟩
  obtain ⟨hc2, hf2⟩ := bcell hb2
  have hz2 : w.heap.size + 1 < w2.heap.size := by have := hb2.size; omega
  have hy2 : w.heap.size < w2.heap.size := by omega
  go_wp2
  go_ret
  exact ⟨rfl, HB1.trans (hb2.mono (by omega))⟩

set_option maxHeartbeats 1000000 in
/-- two rows of the same tuples -/
theorem eqTupleS_same (b b' off off' cap cap' : Nat) (ts : List Tp) (w : World) (hlen : ts.length ≤ maxLen) (hr : Row6 w b off ts) (hb : b < w.heap.size) (hr' : Row6 w b' off' ts) (hb' : b' < w.heap.size) :
    Calls Tryz.prog 18 #[.slice (some ⟨b, off, none⟩) ts.length cap, .slice (some ⟨b', off', none⟩) ts.length cap'] w fun e w' => e = .returned (.bool true) ∧ Below w.heap.size w w' := by
  unfold maxLen at hlen
  go_enter Tryz.func18, Tryz.ntmps18
  go_wp2
  go_loopw [5] (fun i wr => ∃ k : Nat, k ≤ ts.length ∧ i = .int .i64 k ∧ Below w.heap.size w wr) (fun i _ => ts.length - (intOf i).toNat)
  case atStart => exact ⟨0, Nat.zero_le _, rfl, Below.refl _ _⟩
  case round =>
    obtain ⟨k, hk, rfl, hB⟩ := hrel
    by_cases hlt : k < ts.length
    · obtain ⟨t0, t1, t2, t3, t4, t5⟩ := (hr.below hB hb) k hlt
      obtain ⟨q0, q1, q2, q3, q4, q5⟩ := (hr'.below hB hb') k hlt
      have hk1 : (0 : Int) ≤ (k : Int) := by omega
      have hk2 : (k : Int) < (ts.length : Int) := by omega
      clear hr hr'
      go_wp2_with fail
      refine wp_region_held_drew (S := fun w' => w'.cell? ⟨b, off + k * 6, none⟩ = some (.string ts[k].a) ∧ w'.cell? ⟨b, off + k * 6 + 1, none⟩ = some (.string ts[k].b) ∧ w'.cell? ⟨b, off + k * 6 + 2, none⟩ = some (.string ts[k].r) ∧ w'.cell? ⟨b, off + k * 6 + 3, none⟩ = some (.string ts[k].c) ∧ w'.cell? ⟨b, off + k * 6 + 4, none⟩ = some (.string ts[k].d) ∧ w'.cell? ⟨b, off + k * 6 + 5, none⟩ = some (.string ts[k].s) ∧ w'.cell? ⟨b', off' + k * 6, none⟩ = some (.string ts[k].a) ∧ w'.cell? ⟨b', off' + k * 6 + 1, none⟩ = some (.string ts[k].b) ∧ w'.cell? ⟨b', off' + k * 6 + 2, none⟩ = some (.string ts[k].r) ∧ w'.cell? ⟨b', off' + k * 6 + 3, none⟩ = some (.string ts[k].c) ∧ w'.cell? ⟨b', off' + k * 6 + 4, none⟩ = some (.string ts[k].d) ∧ w'.cell? ⟨b', off' + k * 6 + 5, none⟩ = some (.string ts[k].s) ∧ b' < w'.heap.size ∧ w.heap.size ≤ w'.heap.size ∧ Below w.heap.size w w') (by kernel_rfl) ⟨t0, t1, t2, t3, t4, t5, q0, q1, q2, q3, q4, q5, Nat.lt_of_lt_of_le hb' hB.size, hB.size, hB.drew⟩ (fun hHeld => ?_)
      refine takeTo (i := 0) (v := ?_) 17 rfl rfl (by kernel_rfl) (by kernel_rfl) (by kernel_rfl) (fun _ _ _ h => h) (Or.inl ⟨by rfl, ?_⟩) (by assumption) ?_
      rotate_left
      · first | (intro w hSw; (try dsimp only at hSw); go_simp; done) | (intro w hSw; (try dsimp only at hSw); go_simp; with_reducible rfl)
      simp only [Act.put, List.setIfInBounds_toArray, List.set_cons_zero, List.set_cons_succ]
      refine takeTo (i := 1) (v := ?_) 18 rfl rfl (by kernel_rfl) (by kernel_rfl) (by kernel_rfl) (fun _ _ _ h => h) (Or.inl ⟨by rfl, ?_⟩) (by assumption) ?_
      rotate_left
      · first | (intro w hSw; (try dsimp only at hSw); go_simp; done) | (intro w hSw; (try dsimp only at hSw); go_simp; with_reducible rfl)
      simp only [Act.put, List.setIfInBounds_toArray, List.set_cons_zero, List.set_cons_succ]
      refine takeTo (i := 2) (v := ?_) 19 rfl rfl (by kernel_rfl) (by kernel_rfl) (by kernel_rfl) (fun _ _ _ h => h) (Or.inl ⟨by rfl, ?_⟩) (by assumption) ?_
      rotate_left
      · first | (intro w hSw; (try dsimp only at hSw); go_simp; done) | (intro w hSw; (try dsimp only at hSw); go_simp; with_reducible rfl)
      simp only [Act.put, List.setIfInBounds_toArray, List.set_cons_zero, List.set_cons_succ]
      refine takeTo (i := 3) (v := ?_) 20 rfl rfl (by kernel_rfl) (by kernel_rfl) (by kernel_rfl) (fun _ _ _ h => h) (Or.inl ⟨by rfl, ?_⟩) (by assumption) ?_
      rotate_left
      · first | (intro w hSw; (try dsimp only at hSw); go_simp; done) | (intro w hSw; (try dsimp only at hSw); go_simp; with_reducible rfl)
      simp only [Act.put, List.setIfInBounds_toArray, List.set_cons_zero, List.set_cons_succ]
      refine takeTo (i := 4) (v := ?_) 21 rfl rfl (by kernel_rfl) (by kernel_rfl) (by kernel_rfl) (fun _ _ _ h => h) (Or.inl ⟨by rfl, ?_⟩) (by assumption) ?_
      rotate_left
      · first | (intro w hSw; (try dsimp only at hSw); go_simp; done) | (intro w hSw; (try dsimp only at hSw); go_simp; with_reducible rfl)
      simp only [Act.put, List.setIfInBounds_toArray, List.set_cons_zero, List.set_cons_succ]
      refine takeTo (i := 5) (v := ?_) 22 rfl rfl (by kernel_rfl) (by kernel_rfl) (by kernel_rfl) (fun _ _ _ h => h) (Or.inl ⟨by rfl, ?_⟩) (by assumption) ?_
      rotate_left
      · first | (intro w hSw; (try dsimp only at hSw); go_simp; done) | (intro w hSw; (try dsimp only at hSw); go_simp; with_reducible rfl)
      simp only [Act.put, List.setIfInBounds_toArray, List.set_cons_zero, List.set_cons_succ]
      refine takeTo (i := 6) (v := ?_) 23 rfl rfl (by kernel_rfl) (by kernel_rfl) (by kernel_rfl) (fun _ _ _ h => h) (Or.inl ⟨by rfl, ?_⟩) (by assumption) ?_
      rotate_left
      · first | (intro w hSw; (try dsimp only at hSw); go_simp; done) | (intro w hSw; (try dsimp only at hSw); go_simp; with_reducible rfl)
      simp only [Act.put, List.setIfInBounds_toArray, List.set_cons_zero, List.set_cons_succ]
      refine takeTo (i := 7) (v := ?_) 24 rfl rfl (by kernel_rfl) (by kernel_rfl) (by kernel_rfl) (fun _ _ _ h => h) (Or.inl ⟨by rfl, ?_⟩) (by assumption) ?_
      rotate_left
      · first | (intro w hSw; (try dsimp only at hSw); go_simp; done) | (intro w hSw; (try dsimp only at hSw); go_simp; with_reducible rfl)
      simp only [Act.put, List.setIfInBounds_toArray, List.set_cons_zero, List.set_cons_succ]
      refine wpAnyH_ready (rs := [8]) (by kernel_rfl) (by simp) ?_
      refine AllReadyH.cons rfl (fun K hK => ?_) AllReadyH.nil
      go_simp
      refine (eqTuple_same3 _ _ _ _ _ _ _).mono ?_
      rintro e w1 ⟨rfl, hb1⟩
      go_wp2_with fail
      refine hK.out _ _ (keepKK hb hHeld hb1) (fun hHeld => ?_)
      clear hK K
      refine takeTo (i := 9) (v := ?_) 26 rfl rfl (by kernel_rfl) (by kernel_rfl) (by kernel_rfl) (fun _ _ _ h => h) (Or.inl ⟨by rfl, ?_⟩) (by assumption) ?_
      rotate_left
      · first | (intro w hSw; (try dsimp only at hSw); go_simp; done) | (intro w hSw; (try dsimp only at hSw); go_simp; with_reducible rfl)
      simp only [Act.put, List.setIfInBounds_toArray, List.set_cons_zero, List.set_cons_succ]
      refine wpAnyH_done (by kernel_rfl) ?_ _
      have HB := hHeld.2.2.2.2.2.2.2.2.2.2.2.2.2.2
      clear hHeld
      go_wp2
      go_roundw
      case rel => exact ⟨k + 1, by omega, by go_num, HB⟩
      case measure => simp [intOf]; omega
    · go_wp2
      go_ret
      exact ⟨rfl, hB⟩

end Go.Proofs.YtpnjoniolfmbnaaGreatDoor

/- Rows of changes in memory, and the contracts of the laws' helpers on them: weighed, copied, held against one another, marked. -/
namespace Go.Proofs.YtpnjoniolfmbnaaGreatDoor
set_option maxRecDepth 100000
set_option linter.unusedVariables false
open Go.ChangeShapes Go.WideShapes Go.ChangeAt Go.RowKit
open Pl

def Row7 (w : World) (b off : Nat) (cs : List (Int × Tp)) : Prop := ∀ (i : Nat) (h : i < cs.length), At7 w b (off + i * 7) cs[i]
theorem At7.same {w w' : World} {b off : Nat} {t : Int × Tp} (h : At7 w b off t) (hc : ∀ o, w'.cell? ⟨b, o, none⟩ = w.cell? ⟨b, o, none⟩) : At7 w' b off t := by
  obtain ⟨h0, h1, h2, h3, h4, h5, h6⟩ := h
  exact ⟨(hc _).trans h0, (hc _).trans h1, (hc _).trans h2, (hc _).trans h3, (hc _).trans h4, (hc _).trans h5, (hc _).trans h6⟩
theorem Row7.below {w w' : World} {b off B : Nat} {ts : List (Int × Tp)} (h : Row7 w b off ts) (hB : Below B w w') (hb : b < B) : Row7 w' b off ts :=
  fun i hi => (h i hi).same fun o => hB.cell (p := ⟨b, o, none⟩) hb

set_option maxHeartbeats 1000000 in
theorem szChangeS_any (ad : Option Addr) (cap : Nat) (cs : List (Int × Tp)) (left : Int) (w : World) (hlen : cs.length ≤ maxLen) (hs : SlC w ad cs) (hf : ∀ c ∈ cs, c.2.fits) (h0 : 0 ≤ left) (h1 : left ≤ 1048576) :
    Calls Tryz.prog 23 #[.slice ad cs.length cap, .int .i64 left] w fun e w' => (∃ n : Int, e = .returned (.int .i64 n) ∧ (n = -1 ∨ 0 ≤ n ∧ n ≤ left ∧ cs.length ≤ left)) ∧ Below w.heap.size w w' := by
  unfold maxLen at hlen
  by_cases hneg : left - cs.length < 0
  · go_enter Tryz.func23, Tryz.ntmps23
    go_wp2
    go_ret
    exact ⟨⟨-1, rfl, .inl rfl⟩, Below.refl _ _⟩
  · have HS := toHA hs
    have HF := toHA hf
    clear hs hf
    go_enter Tryz.func23, Tryz.ntmps23
    go_wp2
    go_loopw [1, 5] (fun l i wr => ∃ (k : Nat) (x : Int), k ≤ cs.length ∧ i = .int .i64 k ∧ l = .int .i64 x ∧ 0 ≤ x ∧ x ≤ left ∧ Below w.heap.size w wr) (fun _ i _ => cs.length - (intOf i).toNat)
    case atStart => exact ⟨0, _, Nat.zero_le _, rfl, rfl, by omega, by omega, Below.refl _ _⟩
    case round =>
      obtain ⟨k, x, hk, rfl, rfl, hx0, hx1, hB⟩ := hrel
      by_cases hlt : k < cs.length
      · rcases HS.out.below hB with hnil | ⟨b, off, rfl, hb, hr⟩
        · rw [hnil] at hlt; simp at hlt
        obtain ⟨q0, t0, t1, t2, t3, t4, t5⟩ := hr k hlt
        obtain ⟨f0, f1, f2, f3, f4, f5⟩ := HF.out cs[k] (List.getElem_mem hlt)
        have hle := szTup_le cs[k].2.a cs[k].2.b cs[k].2.r cs[k].2.c cs[k].2.d cs[k].2.s x
        clear hr
        go_wp2_with fail
        refine (szChange_any _ _ _ _ _ _ _ _ _ f0 f1 f2 f3 f4 f5 hx0 (by omega)).mono ?_
        rintro e w1 ⟨rfl, hb1⟩
        by_cases hn : szTup cs[k].2.a cs[k].2.b cs[k].2.r cs[k].2.c cs[k].2.d cs[k].2.s x < 0
        · go_wp2
          go_ret
          exact ⟨⟨-1, rfl, .inl rfl⟩, hB.trans (hb1.mono hB.size)⟩
        · go_wp2
          go_roundw
          case rel => exact ⟨k + 1, _, by omega, by go_num, rfl, by omega, by omega, hB.trans (hb1.mono hB.size)⟩
          case measure => simp [intOf]; omega
      · go_wp2
        go_ret
        exact ⟨⟨x, rfl, .inr ⟨hx0, hx1, by omega⟩⟩, hB⟩

/-- seven cells written -/
def put7 (w : World) (g o : Nat) (c : Int × Tp) : World := put6 (w.setCell ⟨g, o, none⟩ (.int .i64 c.1)) g (o + 1) c.2
theorem put7_far (w : World) (g o : Nat) (c : Int × Tp) (j : Nat) (h : j < o ∨ o + 7 ≤ j) : (put7 w g o c).cell? ⟨g, j, none⟩ = w.cell? ⟨g, j, none⟩ := by
  unfold put7
  rw [put6_far _ _ _ _ _ (by omega), setO (by omega)]
theorem put7_at {w : World} {g o : Nat} (c : Int × Tp) (h : ∀ j, j < 7 → (w.cell? ⟨g, o + j, none⟩).isSome = true) : At7 (put7 w g o c) g o c := by
  have h0 : (put7 w g o c).cell? ⟨g, o, none⟩ = some (.int .i64 c.1) := by
    unfold put7
    rw [put6_far _ _ _ _ _ (by omega)]
    obtain ⟨u, hu⟩ := Option.isSome_iff_exists.mp (h 0 (by omega))
    exact setS hu
  obtain ⟨a0, a1, a2, a3, a4, a5⟩ := put6_at (w := w.setCell ⟨g, o, none⟩ (.int .i64 c.1)) (g := g) (o := o + 1) c.2 fun j hj => by
    rw [setO (by omega), show o + 1 + j = o + (1 + j) by omega]
    exact h (1 + j) (by omega)
  exact ⟨h0, a0, a1, a2, a3, a4, a5⟩
theorem put7_frozen (w : World) (g o : Nat) (c : Int × Tp) (x : Addr) : (put7 w g o c).frozen? x = w.frozen? x := by simp [put7, put6]
theorem put7_below {B : Nat} {w0 w : World} {g o : Nat} {c : Int × Tp} (h : Below B w0 w) (hg : B ≤ g) : Below B w0 (put7 w g o c) := put6_below (h.setCell (by exact hg) _) hg
theorem put7_size (w : World) (g o : Nat) (c : Int × Tp) : (put7 w g o c).heap.size = w.heap.size := by simp [put7, put6]

theorem infoChg : ∃ i z, Tryz.prog.info? 31 = some i ∧ i.zero = some z ∧ i.size = 7 ∧ i.bytes = 104 := by
  have h : (Tryz.prog.info? 31).map (fun i => (i.zero.isSome, i.size, i.bytes)) = some (true, 7, 104) := by kernel_rfl
  cases hi : Tryz.prog.info? 31 with
  | none => rw [hi] at h; cases h
  | some i =>
    rw [hi] at h
    simp at h
    obtain ⟨z, hz⟩ := Option.isSome_iff_exists.mp h.1
    exact ⟨i, z, rfl, hz, h.2.1, h.2.2⟩

/-- a new row of changes, the first k of which are filled in -/
structure FillC (w wr : World) (g : Nat) (ts : List (Int × Tp)) (k : Nat) : Prop where
  below : Below w.heap.size w wr
  ge : w.heap.size ≤ g
  lt : g < wr.heap.size
  done : ∀ (i : Nat) (h : i < ts.length), i < k → At7 wr g (0 + i * 7) ts[i]
  there : ∀ j, j < ts.length * 7 → (wr.cell? ⟨g, j, none⟩).isSome = true
  free : ∀ j, wr.frozen? ⟨g, j, none⟩ = false
theorem FillC.later {w wr w1 : World} {g : Nat} {ts : List (Int × Tp)} {k : Nat} (h : FillC w wr g ts k) (hb : Below wr.heap.size wr w1) : FillC w w1 g ts k where
  below := h.below.trans (hb.mono h.below.size)
  ge := h.ge
  lt := Nat.lt_of_lt_of_le h.lt hb.size
  done i hi hk := (h.done i hi hk).same fun o => hb.cell (p := ⟨g, o, none⟩) h.lt
  there j hj := by rw [hb.cell (p := ⟨g, j, none⟩) h.lt]; exact h.there j hj
  free j := by rw [hb.frozen (p := ⟨g, j, none⟩) h.lt]; exact h.free j
theorem FillC.put {w wr : World} {g : Nat} {ts : List (Int × Tp)} {k : Nat} (h : FillC w wr g ts k) (hk : k < ts.length) : FillC w (put7 wr g (k * 7) ts[k]) g ts (k + 1) where
  below := put7_below h.below h.ge
  ge := h.ge
  lt := by rw [put7_size]; exact h.lt
  done i hi hik := by
    by_cases e : i = k
    · subst e
      rw [Nat.zero_add]
      exact put7_at _ (fun j hj => h.there _ (by omega))
    · obtain ⟨a0, a1, a2, a3, a4, a5, a6⟩ := h.done i hi (by omega)
      refine ⟨?_, ?_, ?_, ?_, ?_, ?_, ?_⟩ <;> (rw [put7_far _ _ _ _ _ (by omega)]; assumption)
  there j hj := by
    by_cases hin : j < k * 7 ∨ k * 7 + 7 ≤ j
    · rw [put7_far _ _ _ _ _ hin]; exact h.there j hj
    · obtain ⟨a0, a1, a2, a3, a4, a5, a6⟩ := put7_at (w := wr) (g := g) (o := k * 7) ts[k] (fun j hj => h.there _ (by omega))
      have hj6 : j = k * 7 ∨ j = k * 7 + 1 ∨ j = k * 7 + 2 ∨ j = k * 7 + 3 ∨ j = k * 7 + 4 ∨ j = k * 7 + 5 ∨ j = k * 7 + 6 := by omega
      rcases hj6 with e | e | e | e | e | e | e
      · rw [e, a0]; rfl
      · rw [e, a1]; rfl
      · rw [e, a2]; rfl
      · rw [e, a3]; rfl
      · rw [e, a4]; rfl
      · rw [e, a5]; rfl
      · rw [e, a6]; rfl
  free j := by rw [put7_frozen]; exact h.free j
theorem fillC_made {w w0 : World} {ts : List (Int × Tp)} {base : Nat} {e : TypeId} {xs : List Value} (h : w0.ownsRow base e 7 (.slice (some ⟨w.heap.size, 0, none⟩) ts.length ts.length) ts.length xs) (hg : w.grownBy w0 none) : FillC w w0 w.heap.size ts 0 where
  below := (Below.refl _ _).grown hg (Nat.le_refl _) (fun k hk => by cases hk)
  ge := Nat.le_refl _
  lt := (h.lt w.heap.size rfl).2
  done i hi hk := absurd hk (Nat.not_lt_zero _)
  there j hj := by
    rw [h.cellAt j hj, List.getElem?_eq_getElem (by rw [h.1]; exact hj)]; rfl
  free j := h.frozenAt j
theorem FillC.sl {w w' : World} {g : Nat} {ts : List (Int × Tp)} (h : FillC w w' g ts ts.length) : SlC w' (some ⟨g, 0, none⟩) ts := .inr ⟨g, 0, rfl, h.lt, fun i hi => h.done i hi hi⟩

set_option maxHeartbeats 2000000 in
theorem toChangeS_any (ad : Option Addr) (cap : Nat) (cs : List (Int × Tp)) (w : World) (hlen : cs.length ≤ 1048576) (hs : SlC w ad cs) :
    Calls Tryz.prog 25 #[.slice ad cs.length cap] w fun e w' => e = .returned (.slice (some ⟨w.heap.size, 0, none⟩) cs.length cs.length) ∧ FillC w w' w.heap.size cs cs.length := by
  obtain ⟨inf, z, hi, hz0, hz1, hz2⟩ := infoChg
  have HS := toHA hs
  clear hs
  go_enter Tryz.func25, Tryz.ntmps25
  go_wp2_with (at_make; refine wpList_make_full _ rfl _ _ 59 rfl w.heap.size 31 inf z 7 Tryz.underlying59 hi hz0 hz1 .i64 .i64 _ _ cs.length rfl rfl rfl rfl (by rw [hz2]; omega) (by unfold maxLen; omega) (Nat.le_refl _) ?_; intro w0 hown0 hgrow0)
  have F0 : FillC w w0 w.heap.size cs 0 := fillC_made hown0 hgrow0
  clear hown0 hgrow0 hi hz0 hz1 hz2
  go_loopw [4] (fun i wr => ∃ k : Nat, k ≤ cs.length ∧ i = .int .i64 k ∧ FillC w wr w.heap.size cs k) (fun i _ => cs.length - (intOf i).toNat)
  case atStart => exact ⟨0, Nat.zero_le _, rfl, F0⟩
  case round =>
    obtain ⟨k, hk, rfl, F⟩ := hrel
    by_cases hlt : k < cs.length
    · rcases HS.out.below F.below with hnil | ⟨b, off, rfl, hb, hr⟩
      · rw [hnil] at hlt; simp at hlt
      obtain ⟨q0, t0, t1, t2, t3, t4, t5⟩ := hr k hlt
      clear hr
      go_wp2_with fail
      refine (toChange_any _ _ _ _ _ _ _ _).mono ?_
      rintro e w1 ⟨rfl, hb1⟩
      have F1 := F.later hb1
      have fz := F1.free
      obtain ⟨v0, u0⟩ := Option.isSome_iff_exists.mp (F1.there (k * 7) (by omega))
      obtain ⟨v1, u1⟩ := Option.isSome_iff_exists.mp (F1.there (k * 7 + 1) (by omega))
      obtain ⟨v2, u2⟩ := Option.isSome_iff_exists.mp (F1.there (k * 7 + 2) (by omega))
      obtain ⟨v3, u3⟩ := Option.isSome_iff_exists.mp (F1.there (k * 7 + 3) (by omega))
      obtain ⟨v4, u4⟩ := Option.isSome_iff_exists.mp (F1.there (k * 7 + 4) (by omega))
      obtain ⟨v5, u5⟩ := Option.isSome_iff_exists.mp (F1.there (k * 7 + 5) (by omega))
      obtain ⟨v6, u6⟩ := Option.isSome_iff_exists.mp (F1.there (k * 7 + 6) (by omega))
      have F2 := F1.put hlt
      clear F F0 q0 t0 t1 t2 t3 t4 t5 hb1
      go_wp2
      go_roundw
      case rel => exact ⟨k + 1, by omega, by go_num, F2⟩
      case measure => simp [intOf]; omega
    · obtain rfl : k = cs.length := by omega
      go_wp2
      go_ret
      exact ⟨rfl, F⟩

theorem eqChange_same (k : Int) (a b r c d s : ByteArray) (w : World) :
    Calls Tryz.prog 53 #[.agg #[.int .i64 k, .string a, .string b, .string r, .string c, .string d, .string s], .agg #[.int .i64 k, .string a, .string b, .string r, .string c, .string d, .string s]] w fun e w' => e = .returned (.bool true) ∧ Below w.heap.size w w' := by
  go_enter Tryz.func53, Tryz.ntmps53
  go_wp2_with fail
  refine (eqTuple_same3 _ _ _ _ _ _ _).mono ?_
  rintro e w1 ⟨rfl, hb1⟩
  have HB1 : Below w.heap.size w w1 := (((Below.refl _ _).alloc (Nat.le_refl _) _).alloc (by simp) _).trans (hb1.mono (by simp; omega))
  clear hb1
  go_wp2
  go_ret
  exact ⟨rfl, HB1⟩
end Go.Proofs.YtpnjoniolfmbnaaGreatDoor
