/- Contracts of the program's looks into its table: is a relation there, is it told by objects, is a type there. -/
import Derived.Test.YtpmgkkbkficgpaaImplTable
namespace Go.Proofs.Ytpmgkkbkficgpaa
open Go.ChangeShapes Go.WideShapes Go.ChangeAt Go.RowKit Go.Maps
open Pl

theorem zeroExprs (w : World) : (zeroValue 25).run Try.prog w = .ok (.slice none 0 0) w := by kernel_rfl

theorem has_any (b n : Nat) (M : ByteArray × ByteArray → Option Value) (t r : ByteArray) (w : World) (ht : t.size ≤ maxLen) (hr : r.size ≤ maxLen) (hV : MapV encK Try.prog 84 w b n M) :
    Calls Try.prog 97 #[.map (some b), .string t, .string r] w fun e w' => e = .returned (.bool (M (t, r)).isSome) ∧ w' = w := by
  obtain ⟨kl, hkl⟩ := relKeyOf (t, r) ht hr
  have HV : Hid (MapV encK Try.prog 84 w b n M) := hV
  have HKL : Hid (keyOf Try.prog 84 (encK (t, r)) = some kl) := hkl
  clear hkl hV
  go_enter Try.func97, Try.ntmps97
  go_wp2_with (first | (at_lookup; refine wpList_lookV_ok _ rfl _ _ 81 rfl 84 25 relLaw Try.underlying81 (zeroExprs _) b n M rfl HV.out (t, r) kl rfl HKL.out ?_) | go_in)
  go_ret
  exact ⟨rfl, rfl⟩

theorem told1_any (a : Al) (w : World) :
    Calls Try.prog 112 #[.agg #[.string a.t, .string a.s]] w fun e w' => e = .returned (.bool (!a.s.toList.isEmpty)) ∧ Below w.heap.size w w' := by
  cases h : a.s.toList.isEmpty with
  | true =>
    go_enter Try.func112, Try.ntmps112
    go_wp2
    go_ret
    exact ⟨rfl, (Below.refl _ _).alloc (Nat.le_refl _) _⟩
  | false =>
    go_enter Try.func112, Try.ntmps112
    go_wp2
    go_ret
    exact ⟨rfl, (Below.refl _ _).alloc (Nat.le_refl _) _⟩

theorem anySet_drop (xs : List Al) (k : Nat) (h : k < xs.length) : (xs.drop k).any (fun a => !a.s.toList.isEmpty) = ((!xs[k].s.toList.isEmpty) || (xs.drop (k + 1)).any (fun a => !a.s.toList.isEmpty)) := by
  rw [List.drop_eq_getElem_cons h]; rfl

set_option maxHeartbeats 1000000 in
theorem indexTold_any (ad : Option Addr) (cap : Nat) (xs : List Al) (w : World) (hlen : xs.length ≤ 1048576) (hs : SlA w ad xs) :
    Calls Try.prog 113 #[.slice ad xs.length cap, .func (Fn.func 112) #[] #[]] w fun e w' => (∃ r : Int, e = .returned (.int .i64 r) ∧ decide (0 ≤ r) = xs.any (fun a => !a.s.toList.isEmpty)) ∧ Below w.heap.size w w' := by
  have HS : Hid (SlA w ad xs) := hs
  clear hs
  go_enter Try.func113, Try.ntmps113
  go_wp2_with fail
  go_loopw [8] (fun i wr => ∃ k : Nat, k ≤ xs.length ∧ i = .int .i64 k ∧ Hid ((xs.drop k).any (fun a => !a.s.toList.isEmpty) = xs.any (fun a => !a.s.toList.isEmpty)) ∧ Hid (Below w.heap.size w wr)) (fun i _ => xs.length - (intOf i).toNat)
  case atStart => exact ⟨0, Nat.zero_le _, rfl, rfl, Below.refl _ _⟩
  case round =>
    obtain ⟨k, hk, rfl, HP, HB⟩ := hrel
    by_cases hlt : k < xs.length
    · rcases HS.out.below HB.out with rfl | ⟨b, off, rfl, hb, hr⟩
      · simp at hlt
      obtain ⟨t0, t1⟩ := hr k hlt
      have hk1 : (0 : Int) ≤ (k : Int) := by omega
      have hk2 : (k : Int) < (xs.length : Int) := by omega
      clear hr
      cases he : xs[k].s.toList.isEmpty with
      | false =>
        have HN : Hid (xs.any (fun a => !a.s.toList.isEmpty) = true) := by show _ = _; rw [← HP.out, anySet_drop _ _ hlt, he]; rfl
        go_wp2_with (go_at_call 112; refine (told1_any xs[k] _).mono ?_; rintro e w' ⟨he2, hbx⟩; rw [he] at he2; subst he2)
        go_ret
        exact ⟨⟨k, rfl, by rw [HN.out]; simp⟩, HB.out.trans (hbx.mono HB.out.size)⟩
      | true =>
        have HP2 : Hid ((xs.drop (k + 1)).any (fun a => !a.s.toList.isEmpty) = xs.any (fun a => !a.s.toList.isEmpty)) := by show _ = _; rw [← HP.out, anySet_drop _ _ hlt, he]; rfl
        go_wp2_with (go_at_call 112; refine (told1_any xs[k] _).mono ?_; rintro e w' ⟨he2, hbx⟩; rw [he] at he2; subst he2)
        go_roundw
        case rel => exact ⟨k + 1, by omega, by go_num, HP2, HB.out.trans (hbx.mono HB.out.size)⟩
        case measure => first | (simp [intOf]; done) | (simp [intOf]; omega)
    · have HN : Hid (xs.any (fun a => !a.s.toList.isEmpty) = false) := by show _ = _; rw [← HP.out, List.drop_of_length_le (by omega)]; rfl
      go_wp2
      go_ret
      exact ⟨⟨-1, rfl, by rw [HN.out]; simp⟩, HB.out⟩

theorem containsTold_any (ad : Option Addr) (cap : Nat) (xs : List Al) (w : World) (hlen : xs.length ≤ 1048576) (hs : SlA w ad xs) :
    Calls Try.prog 111 #[.slice ad xs.length cap, .func (Fn.func 112) #[] #[]] w fun e w' => e = .returned (.bool (xs.any (fun a => !a.s.toList.isEmpty))) ∧ Below w.heap.size w w' := by
  go_enter Try.func111, Try.ntmps111
  go_wp2_with fail
  refine (indexTold_any ad cap xs _ hlen hs).mono ?_
  rintro e w' ⟨⟨r, rfl, hr⟩, hbx⟩
  have HR : Hid (decide (0 ≤ r) = xs.any (fun a => !a.s.toList.isEmpty)) := hr
  clear hr hs
  go_wp2
  go_ret
  exact ⟨by rw [← HR.out]; rfl, hbx⟩

theorem told_all (xs : List Al) : (!xs.any fun a => !a.s.toList.isEmpty) = xs.all fun a => a.s.toList.isEmpty := by
  induction xs with
  | nil => rfl
  | cons a xs ih => simp only [List.any_cons, List.all_cons, Bool.not_or, Bool.not_not, ih]

set_option maxRecDepth 100000 in
set_option maxHeartbeats 1000000 in
theorem toldByObjects_any (ad : Option Addr) (cap : Nat) (rs : List ER) (w : World) (hlen : rs.length ≤ 1048576) (hs : SlE w ad rs) (hl : ∀ r ∈ rs, r.e.light) :
    Calls Try.prog 108 #[.slice ad rs.length cap] w fun e w' => e = .returned (.bool (directP (exs rs))) ∧ Below w.heap.size w w' := by
  by_cases h1 : rs.length = 1
  · obtain ⟨r, rfl⟩ : ∃ r, rs = [r] := List.length_eq_one_iff.1 h1
    rcases hs with h | ⟨b, off, rfl, hb, hr, hok⟩
    · cases h
    obtain ⟨t0, t1, t2, t3, t4⟩ := hr 0 (by simp)
    simp only [Nat.zero_mul, Nat.add_zero, List.getElem_cons_zero] at t0 t1 t2 t3 t4
    have HOK : Hid (r.ok w) := hok r (by simp)
    obtain ⟨lg, -⟩ := hl r (by simp)
    clear hr hok h1
    simp only [List.length_cons, List.length_nil, Nat.zero_add]
    by_cases hq : r.e.kind = 1
    · have HD : Hid (directP (exs [r]) = !r.e.allow.any fun a => !a.s.toList.isEmpty) := by show _ = _; rw [told_all]; simp [directP, exs, hq]
      have hqb : (r.e.kind == 1) = true := by simpa using hq
      go_enter Try.func108, Try.ntmps108
      go_wp2_with (go_at_call 111; refine (containsTold_any _ _ r.e.allow _ lg (HOK.out.1.below ((Below.refl _ _)))).mono ?_; rintro e w' ⟨rfl, hbx⟩)
      go_ret
      exact ⟨by rw [HD.out]; rfl, hbx⟩
    · have HD : Hid (directP (exs [r]) = false) := by show _ = _; simp [directP, exs, hq]
      have hqb : (r.e.kind == 1) = false := by simpa using hq
      go_enter Try.func108, Try.ntmps108
      go_wp2
      go_ret
      exact ⟨by rw [HD.out]; rfl, Below.refl _ _⟩
  · have HD : Hid (directP (exs rs) = false) := by
      show _ = _
      rcases rs with _ | ⟨r, _ | ⟨r2, rs⟩⟩
      · rfl
      · simp at h1
      · rfl
    have h2 : ((rs.length : Int) == 1) = false := by
      have : ¬ ((rs.length : Int) = 1) := by omega
      simpa using this
    clear hs
    go_enter Try.func108, Try.ntmps108
    go_wp2
    go_ret
    exact ⟨by rw [HD.out]; rfl, Below.refl _ _⟩
end Go.Proofs.Ytpmgkkbkficgpaa
