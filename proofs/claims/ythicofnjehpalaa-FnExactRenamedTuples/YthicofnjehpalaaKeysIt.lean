/- The iterator over a set of right tuples: each comes once, in some order. -/
import Derived.Test.YthicofnjehpalaaKeyInv
import Derived.Test.YthicofnjehpalaaTuplesOk
import Derived.RangeFuncNested
import Derived.RangeFuncLeaves
import Derived.Shelf.Abstract
import Derived.Sort.MapsRangeIn
import Derived.WalkKit
import Derived.OwnWalkIn
import Derived.TacticsInMore
import Derived.LoopNIn
import Derived.LoopIn
namespace Go.Proofs.Ythicofnjehpalaa
set_option maxRecDepth 100000
open Go.ChangeShapes Go.WideShapes Go.ChangeAt Go.RowKit Go.Maps Go.Shelf
open Pl
attribute [local go_sem] Oper.semAt_some

/-- a right tuple -/
abbrev OkT := { t : Tp // t.ok = true }
theorem ok_fits {t : Tp} (h : t.ok = true) : t.fits := by
  obtain ⟨h1, h2, h3, h4⟩ := tupB_parts h
  obtain ⟨a1, a2⟩ := objB_le h1
  obtain ⟨c1, c2⟩ := objB_le h3
  have r := (nameB_le h2).2
  have s := setB_le h4
  unfold Tp.fits maxLen
  omega

/-- those that have come: no one twice; just those that the map has and that are no longer to come -/
def Came (D : DataW Value) (left : Lit → Bool) (xs : List OkT) : Prop :=
  xs.Nodup ∧ ∀ (x : OkT) (kl : Lit), keyOf Try.prog 39 (encT x.1) = some kl → (x ∈ xs ↔ (Maps.has D kl = true ∧ left kl = false))
theorem Came.start (D : DataW Value) : Came D (Maps.has D) [] := ⟨List.nodup_nil, fun x kl _ => by cases Maps.has D kl <;> simp⟩
theorem Came.step {D : DataW Value} {left : Lit → Bool} {xs : List OkT} (h : Came D left xs) {x : OkT} {kl : Lit} {y : DataW Value} (hk : keyOf Try.prog 39 (encT x.1) = some kl) (hl : left kl = true) (hat : ∀ z, D.atKey kl z = y) :
    Came D (fun z => left z && !z.sameKey kl) (xs ++ [x]) := by
  have hhas : Maps.has D kl = true := Maps.has_true_of_atKey hat
  have hnew : x ∉ xs := fun hx => by have := ((h.2 x kl hk).1 hx).2; rw [hl] at this; cases this
  refine ⟨List.nodup_append.2 ⟨h.1, by simp, fun a ha b hb => by simp at hb; subst hb; exact fun e => hnew (e ▸ ha)⟩, fun y ky hy => ?_⟩
  by_cases e : y = x
  · subst e
    obtain rfl : ky = kl := by rw [hk] at hy; injection hy with hy; exact hy.symm
    simp [hhas, WideAt.sameKey_self (tupLaw.key hk)]
  · have hne : ky ≠ kl := fun e2 => e (Subtype.ext (encT_inj _ _ (tupLaw.inj (by rw [e2] at hy; exact hy) hk)))
    simp only [List.mem_append, List.mem_singleton, e, or_false, Maps.sameKey_ne hne, Bool.not_false, Bool.and_true]
    exact h.2 y ky hy
/-- these are the keys of the map -/
def KeysOfM (M : Tp → Option Value) (xs : List OkT) : Prop := xs.Nodup ∧ ∀ x : OkT, x ∈ xs ↔ (M x.1).isSome = true
theorem Came.all {D : DataW Value} {left : Lit → Bool} {xs : List OkT} (h : Came D left xs) {M : Tp → Option Value} (hM : ∀ x kl, keyOf Try.prog 39 (encT x) = some kl → SaysAt D kl (M x)) (hl : ∀ kl, left kl = false) : KeysOfM M xs := by
  refine ⟨h.1, fun x => ?_⟩
  obtain ⟨kl, hk⟩ := tupKeyOf x.1 (ok_fits x.2)
  rw [h.2 x kl hk]
  have h2 := hM x.1 kl hk
  cases e : M x.1 with
  | none => rw [e] at h2; simp [h2.1]
  | some v => rw [e] at h2; simp [h2.1, hl kl]

set_option maxRecDepth 100000 in
set_option maxHeartbeats 4000000 in
theorem keysT1 (F : Fence) (n : Nat) (hf : F.fn 41) (hro : F.round = none) (hn : 1 ≤ n) (l Bm b nn : Nat) (D : DataW Value) (M : Tp → Option Value) (hM : ∀ x kl, keyOf Try.prog 39 (encT x) = some kl → SaysAt D kl (M x)) (hok : ∀ x, (M x).isSome = true → x.ok = true)
    (J Jx : List OkT → World → Prop) (W : World) (hJ : AbidesFrom W.heap.size J)
    (hY : ∀ pre x W1, J pre W1 → pre.length < Maps.size D → YieldAt F (n - 1) Try.prog l #[encT x.1] W1 fun e W' =>
      (e = .returned (.bool true) ∧ J (pre ++ [x]) W' ∧ KeepsWalks W1 W') ∨ (e = .returned (.bool false) ∧ Jx (pre ++ [x]) W'))
    (hm : W.cell? ⟨Bm, 0, none⟩ = some (.map (some b))) (hown : W.ownsMap Try.prog 39 anyR b nn D) (h0 : J [] W) :
    CallsIn F n Try.prog 41 #[.func (.yield l) #[] #[], .pointer (some ⟨Bm, 0, none⟩)] W fun e W' => (∃ v, e = .returned v) ∧ ((∃ xs, KeysOfM M xs ∧ J xs W') ∨ (∃ pre, True ∧ Jx pre W')) := by
  refine callsIn_of_wp Try.func41 rfl hf ?_ hro
  simp only [Try.ntmps41, List.size_toArray, List.length_cons, List.length_nil, Nat.reduceAdd, Nat.reduceSub, Array.replicate_succ, Array.replicate_zero, List.push_toArray, List.append_toArray, List.nil_append, List.cons_append]
  gi_wp2_with (first
    | (gi_at_range; refine wpListIn_range_own _ rfl _ 48 rfl 39 50 tupLaw Try.underlying48 _ b nn _ rfl hown ?_; intro w0 hrg0 hg0 hs0)
    | gi_in)
  go_frame
  gi_loopw [3] (fun _ wr => ∃ (left : Lit → Bool) (cnt : Nat) (ss : List OkT), wr.ranges Try.prog 39 anyR b W.heap.size nn D left cnt ∧ ss.length + cnt ≤ Maps.size D ∧ Came D left ss ∧ J ss wr)
    (fun _ wr => wr.rangeLeft b W.heap.size)
  case atStart =>
    exact ⟨_, _, [], hrg0, by simp, Came.start D, hJ [] W w0 none h0 hg0 (fun r e => by cases e)⟩
  case round =>
    obtain ⟨left, cnt, ss, hrg, hcs, hC, hJs⟩ := hrel
    gi_wp2_with (first
      | (gi_at_next; refine wpListIn_next_ranges _ rfl _ rfl 39 tupLaw anyR encT id (fun key kl hk => by obtain ⟨x, hx, _⟩ := tupKeyInv hk; exact ⟨x, hx⟩) (fun v _ _ => ⟨v, rfl⟩) b W.heap.size nn _ _ _ rfl hrg ?_ ?_)
      | gi_in)
    · intro hc0 hl0
      gi_wp2
      go_end0
      exact ⟨⟨_, rfl⟩, .inl ⟨ss, hC.all hM hl0, hJs⟩⟩
    · intro x c kl yd yp w2 cnt2 hkey hlk hv hat hrg2 hlt hg2 hs2 hen
      have hsome : (M x).isSome = true := by
        have h2 := hM x kl hkey
        have h3 := Maps.has_true_of_atKey hat
        cases e : M x with
        | none => rw [e] at h2; rw [h2.1] at h3; cases h3
        | some v => rfl
      have hJ2 : J ss w2 := hJ ss wr w2 (some W.heap.size) hJs hg2 (fun r e => by cases e; exact ⟨Nat.le_refl _, hrg.iter_walk⟩)
      obtain ⟨W4, hW4⟩ : ∃ W4, W4 = w2.alloc (.cells #[.string x.a, .string x.b, .string x.r, .string x.c, .string x.d, .string x.s] 39) := ⟨_, rfl⟩
      have hJ4 : J ss W4 := by rw [hW4]; exact hJ ss w2 _ none hJ2 (World.grownBy_alloc _ _ none) (fun r e => by cases e)
      have hrg4 : W4.ranges Try.prog 39 anyR b W.heap.size nn D (fun z => left z && !z.sameKey kl) cnt2 := by rw [hW4]; exact hrg2.alloc _
      obtain ⟨fn, tmps, assign, body, hy, hR⟩ := hY ss ⟨x, hok x hsome⟩ W4 hJ4 (by omega)
      simp only [encT] at hen hy
      clear hs2 hv
      subst hW4
      gi_wp2
      refine hR.mono ?_
      rintro e W3 (⟨rfl, hJ3, hk3⟩ | ⟨rfl, hJx3⟩)
      · gi_wp2
        have hrg3 := hrg4.of_walks hk3
        go_roundw
        case rel => exact ⟨_, cnt2, ss ++ [⟨x, hok x hsome⟩], hrg3, by simp; omega, hC.step hkey hlk hat, hJ3⟩
        case measure => rw [hrg3.left_eq, hrg.left_eq]; exact hlt
      · gi_wp2
        refine bodyPost_ret (results_none rfl _ _ _) rfl ?_
        exact ⟨⟨_, rfl⟩, .inr ⟨_, trivial, hJx3⟩⟩

set_option maxHeartbeats 1000000 in
theorem keysT_in (F : Fence) (n : Nat) (hf : F.fn 32) (hro : F.round = none) (mb : Option Nat) (w : World) :
    CallsIn F n Try.prog 32 #[.map mb] w fun e w' => e = .returned (.func (.func 41) #[] #[.pointer (some ⟨w.heap.size, 0, none⟩)]) ∧ w' = w.alloc (.cells #[.map mb] 48) := by
  refine callsIn_of_wp Try.func32 rfl hf ?_ hro
  simp only [Try.ntmps32, List.size_toArray, List.length_cons, List.length_nil, Nat.reduceAdd, Nat.reduceSub, Array.replicate_succ, Array.replicate_zero, List.push_toArray, List.append_toArray, List.nil_append, List.cons_append]
  gi_wp2
  go_ret
  exact ⟨rfl, rfl⟩

/-- the iterator's own contract -/
theorem keysT_stops (F : Fence) (n : Nat) (hf : F.fn 41) (hro : F.round = none) (hn : 1 ≤ n) (Bm b nn : Nat) (D : DataW Value) (M : Tp → Option Value) (w : World) (hBm : Bm < w.heap.size) (hm : w.cell? ⟨Bm, 0, none⟩ = some (.map (some b)))
    (hown : w.ownsMap Try.prog 39 anyR b nn D) (hM : ∀ x kl, keyOf Try.prog 39 (encT x) = some kl → SaysAt D kl (M x)) (hok : ∀ x, (M x).isSome = true → x.ok = true) :
    SeqStopsK F n Try.prog 41 #[.pointer (some ⟨Bm, 0, none⟩)] (fun x : OkT => #[encT x.1]) KeepsWalks (KeysOfM M) (fun _ => True) (Maps.size D) w := fun l J Jx W hW hJ _ hY h0 => by
  have hown' : W.ownsMap Try.prog 39 anyR b nn D := by
    have hbl := hown.lt
    obtain ⟨es, clock, hb, Ft, hs, hD⟩ := hown
    exact ⟨es, clock, (hW.block b hbl).trans hb, Ft, hs, hD⟩
  exact keysT1 F n hf hro hn l Bm b nn D M hM hok J Jx W hJ hY ((hW.cell (p := ⟨Bm, 0, none⟩) hBm).trans hm) hown' h0
end Go.Proofs.Ythicofnjehpalaa
