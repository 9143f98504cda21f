/- Contracts of the program's ops on a folder: their form, whether they find their file. -/
import Derived.Test.YtbfimfmfdllejaaFoldM
import Derived.BigQuiet
import Derived.Deep.QuietTactic
namespace Go.Proofs.Ytbfimfmfdllejaa
open Go.ChangeShapes Go.WideShapes Go.ChangeAt Go.RowKit Go.Maps

theorem fileNameOk_any (s : ByteArray) (w : World) (hs : s.size ≤ maxLen) :
    Calls Try.prog 82 #[.string s] w fun e w' => e = .returned (.bool (nmB s)) ∧ w' = w := by
  unfold maxLen at hs
  by_cases h1 : 1 ≤ s.size
  · have h1' : decide ((1 : Int) ≤ (s.size : Int)) = true := by simp; omega
    go_enter Try.func82, Try.ntmps82
    go_wp2
    go_ret
    exact ⟨retB (by simp [nmB, h1]; omega), rfl⟩
  · have h1' : decide ((1 : Int) ≤ (s.size : Int)) = false := by simp; omega
    go_enter Try.func82, Try.ntmps82
    go_wp2
    go_ret
    exact ⟨retB (by simp [nmB, h1]), rfl⟩

/-- the op behind the interface -/
def opV (o : Dop) : Value :=
  if o.k = 1 then .iface 119 (.agg #[.string o.n, .string o.d]) else if o.k = 2 then .iface 121 (.agg #[.string o.n, .string o.t]) else .iface 123 (.agg #[.string o.n])
def OpPost (o : Dop) (w : World) (e : Ending) (w' : World) : Prop := (∃ v, e = .returned (.tuple #[v, .bool (formB o)]) ∧ (formB o = true → v = opV o)) ∧ Below w.heap.size w w'

theorem below_drewN {B : Nat} {a w : World} (h : Below B a w) (n : Nat) : Below B a (w.drewN n) := ⟨h.os, h.tape, h.output, h.size, h.block⟩
theorem kEq {a b : Int} (h : a = b) : (a == b) = true := by simpa using h
theorem kNe {a b : Int} (h : a ≠ b) : (a == b) = false := by simpa using h
theorem form_name {o : Dop} (h : nmB o.n = false) : formB o = false := by unfold formB; rw [h]; simp
theorem form1 {o : Dop} (h : nmB o.n = true) (k : o.k = 1) : formB o = o.t.toList.isEmpty := by unfold formB; rw [h, k]; simp
theorem form2 {o : Dop} (h : nmB o.n = true) (k : o.k = 2) : formB o = (nmB o.t && o.d.toList.isEmpty) := by unfold formB; rw [h, k]; simp
theorem form3 {o : Dop} (h : nmB o.n = true) (k : o.k = 3) : formB o = (o.t.toList.isEmpty && o.d.toList.isEmpty) := by unfold formB; rw [h, k]; simp
theorem form0 {o : Dop} (k1 : o.k ≠ 1) (k2 : o.k ≠ 2) (k3 : o.k ≠ 3) : formB o = false := by
  unfold formB
  have : (decide (1 ≤ o.k) && decide (o.k ≤ 3)) = false := by simp; omega
  rw [this]; simp
theorem opPost_mk {o : Dop} {w w' : World} {v : Value} {b : Bool} (hb : b = formB o) (hv : formB o = true → v = opV o) (hB : Below w.heap.size w w') : OpPost o w (.returned (.tuple #[v, .bool b])) w' := ⟨⟨v, by rw [hb], hv⟩, hB⟩

set_option maxHeartbeats 4000000 in
theorem opOf_any (o : Dop) (w : World) (hf : o.fits) :
    Calls Try.prog 53 #[.agg #[.int .i64 o.k, .string o.n, .string o.t, .string o.d]] w (OpPost o w) := by
  obtain ⟨h1, h2, h3⟩ := hf
  have HB : Hid (Below w.heap.size w (w.alloc (.cells #[.int .i64 o.k, .string o.n, .string o.t, .string o.d] 37))) := (Below.refl _ _).alloc (Nat.le_refl _) _
  go_enter Try.func53, Try.ntmps53
  go_wp2_with fail
  go_quiet (fail)
  obtain ⟨W1, hW1⟩ : ∃ W1, W1 = (w.alloc (.cells #[.int .i64 o.k, .string o.n, .string o.t, .string o.d] 37)).drewN nq := ⟨_, rfl⟩
  rw [← hW1]
  have HB1 : Hid (Below w.heap.size w W1) := by rw [hW1]; exact below_drewN HB.out _
  have c0 : W1.cell? ⟨w.heap.size, 0, none⟩ = some (.int .i64 o.k) := by rw [hW1]; simp
  have c1 : W1.cell? ⟨w.heap.size, 1, none⟩ = some (.string o.n) := by rw [hW1]; simp
  have c2 : W1.cell? ⟨w.heap.size, 2, none⟩ = some (.string o.t) := by rw [hW1]; simp
  have c3 : W1.cell? ⟨w.heap.size, 3, none⟩ = some (.string o.d) := by rw [hW1]; simp
  clear hW1 HB
  go_wp2_with fail
  refine (fileNameOk_any _ _ h1).mono ?_
  rintro e w1 ⟨rfl, rfl⟩
  cases hn : nmB o.n with
  | false =>
    have HF := HIDk (form_name hn)
    go_wp2
    go_ret2
    exact opPost_mk HF.out.symm (fun h => by rw [HF.out] at h; cases h) HB1.out
  | true =>
    by_cases k1 : o.k = 1
    · have HF := HIDk (form1 hn k1)
      have HV : Hid (opV o = .iface 119 (.agg #[.string o.n, .string o.d])) := by show _ = _; rw [opV, if_pos k1]
      have e1 := kEq k1
      clear k1 hn
      go_wp2
      go_ret2
      exact opPost_mk HF.out.symm (fun _ => HV.out.symm) HB1.out
    · have e1 := kNe k1
      by_cases k2 : o.k = 2
      · have HF := HIDk (form2 hn k2)
        have HV : Hid (opV o = .iface 121 (.agg #[.string o.n, .string o.t])) := by show _ = _; rw [opV, if_neg k1, if_pos k2]
        have e2 := kEq k2
        clear k1 k2 hn
        go_wp2_with fail
        cases ht : nmB o.t with
        | false =>
          have HC : Hid (∀ w', Calls Try.prog 82 #[.string o.t] w' fun e w'' => e = .returned (.bool false) ∧ w'' = w') := fun w' => by have := fileNameOk_any o.t w' h2; rw [ht] at this; exact this
          go_quiet ((go_at_call 82; exact Calls.quiet_of_same (HC.out _)))
          go_wp2
          go_ret2
          exact opPost_mk (by rw [HF.out, ht]; rfl) (fun _ => HV.out.symm) (below_drewN HB1.out _)
        | true =>
          have HC : Hid (∀ w', Calls Try.prog 82 #[.string o.t] w' fun e w'' => e = .returned (.bool true) ∧ w'' = w') := fun w' => by have := fileNameOk_any o.t w' h2; rw [ht] at this; exact this
          go_quiet ((go_at_call 82; exact Calls.quiet_of_same (HC.out _)))
          go_wp2
          go_ret2
          exact opPost_mk (by rw [HF.out, ht]; rfl) (fun _ => HV.out.symm) (below_drewN HB1.out _)
      · have e2 := kNe k2
        by_cases k3 : o.k = 3
        · have HF := HIDk (form3 hn k3)
          have HV : Hid (opV o = .iface 123 (.agg #[.string o.n])) := by show _ = _; rw [opV, if_neg k1, if_neg k2]
          have e3 := kEq k3
          clear k1 k2 k3 hn
          cases ht : o.t.toList.isEmpty with
          | false =>
            go_wp2
            go_ret2
            exact opPost_mk (by rw [HF.out, ht]; rfl) (fun _ => HV.out.symm) HB1.out
          | true =>
            go_wp2
            go_ret2
            exact opPost_mk (by rw [HF.out, ht]; rfl) (fun _ => HV.out.symm) HB1.out
        · have HF := HIDk (form0 k1 k2 k3)
          have e3 := kNe k3
          clear k1 k2 k3 hn
          go_wp2
          go_ret2
          exact opPost_mk HF.out.symm (fun h => by rw [HF.out] at h; cases h) HB1.out

set_option maxHeartbeats 1000000 in
theorem folderHas_any (x : ByteArray) (b n : Nat) (M : ByteArray → Option Value) (fs : List Fl) (w : World) (hx : x.size ≤ maxLen) (H : Fold w b n M fs) :
    Calls Try.prog 131 #[.map (some b), .string x] w fun e w' => e = .returned (.bool (hasF fs x)) ∧ w' = w := by
  have HV := HIDk H.map
  have HK := HIDk (strKey x hx)
  have HH := HIDk (H.has x)
  clear H
  go_enter Try.func131, Try.ntmps131
  go_wp2_with (first | (at_lookup; refine wpList_lookV_ok _ rfl _ _ 69 rfl 9 49 strLaw Try.underlying69 (z := .slice none 0 0) (Try.zeroValue49 _) b n M rfl HV.out x _ rfl HK.out ?_; rw [HH.out]) | go_in)
  go_ret
  exact ⟨rfl, rfl⟩
theorem findsAdd_any (o : Dop) (b : Nat) (w : World) :
    Calls Try.prog 128 #[.agg #[.string o.n, .string o.d], .map (some b)] w fun e w' => e = .returned (.bool true) ∧ Below w.heap.size w w' := by
  go_enter Try.func128, Try.ntmps128
  go_wp2
  go_ret
  exact ⟨rfl, (Below.refl _ _).alloc (Nat.le_refl _) _⟩
theorem findsRen_any (o : Dop) (b n : Nat) (M : ByteArray → Option Value) (fs : List Fl) (w : World) (hx : o.n.size ≤ maxLen) (H : Fold w b n M fs) :
    Calls Try.prog 130 #[.agg #[.string o.n, .string o.t], .map (some b)] w fun e w' => e = .returned (.bool (hasF fs o.n)) ∧ Below w.heap.size w w' := by
  have HB : Hid (Below w.heap.size w (w.alloc (.cells #[.string o.n, .string o.t] 121))) := (Below.refl _ _).alloc (Nat.le_refl _) _
  have H1 := HIDk (H.below HB.out)
  clear H
  go_enter Try.func130, Try.ntmps130
  go_wp2_with fail
  refine (folderHas_any o.n b n M fs _ hx H1.out).mono ?_
  rintro e w1 ⟨rfl, rfl⟩
  go_wp2
  go_ret
  exact ⟨rfl, HB.out⟩
theorem findsRem_any (o : Dop) (b n : Nat) (M : ByteArray → Option Value) (fs : List Fl) (w : World) (hx : o.n.size ≤ maxLen) (H : Fold w b n M fs) :
    Calls Try.prog 133 #[.agg #[.string o.n], .map (some b)] w fun e w' => e = .returned (.bool (hasF fs o.n)) ∧ Below w.heap.size w w' := by
  have HB : Hid (Below w.heap.size w (w.alloc (.cells #[.string o.n] 123))) := (Below.refl _ _).alloc (Nat.le_refl _) _
  have H1 := HIDk (H.below HB.out)
  clear H
  go_enter Try.func133, Try.ntmps133
  go_wp2_with fail
  refine (folderHas_any o.n b n M fs _ hx H1.out).mono ?_
  rintro e w1 ⟨rfl, rfl⟩
  go_wp2
  go_ret
  exact ⟨rfl, HB.out⟩
end Go.Proofs.Ytbfimfmfdllejaa
