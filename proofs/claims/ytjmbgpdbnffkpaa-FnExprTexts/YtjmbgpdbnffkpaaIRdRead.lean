/- Contract of the program's function that reads an expression: a panic that a deferred call takes. -/
import Derived.Test.YtjmbgpdbnffkpaaIRdMust
import Derived.Defers
import Derived.Recover
import Derived.Laws.Pointers
namespace Go.Proofs.Ytjmbgpdbnffkpaa
set_option maxRecDepth 100000
set_option linter.unusedVariables false
open Go.ChangeShapes Go.WideShapes Go.ChangeAt Go.RowKit
open Pl

theorem catch_panicking (p : Addr) (x : Bool) (u : TypeId) (pv : Value) (older : List PanicEntry) (w : World) (hc : w.cell? p = some (.bool x)) (hz : w.frozen? p = false) :
    CallsD Try.prog 65 #[.pointer (some p)] (.panicking ({ v := .iface u pv, recovered := false } :: older)) w fun e u' w' =>
      e = .returned (.tuple #[]) ∧ u' = .panicking ({ v := .iface u pv, recovered := true } :: older) ∧ w' = w.setCell p (.bool false) := by
  refine callsD_of_wpS Try.func65 rfl fun c₀ cs hu => ?_
  apply wpS_seq
  apply wpS_region
  simp [wpOpsS, go_sem, recoverD, hu, Try.ntmps65, Exit.thenS]
  refine wpS_cond (t := true) (by simp [Act.eval, Array.replicate]) ?_
  simp only [if_true]
  apply wpS_region
  simp [wpOpsS, go_sem, hc, hz, bodyPostS, results, Try.results65]
theorem catch_idle (p : Addr) (w : World) :
    CallsD Try.prog 65 #[.pointer (some p)] .returning w fun e u' w' => e = .returned (.tuple #[]) ∧ u' = .returning ∧ w' = w := by
  refine callsD_of_wpS Try.func65 rfl fun c₀ cs hu => ?_
  apply wpS_seq
  apply wpS_region
  simp [wpOpsS, go_sem, recoverD, hu, Try.ntmps65, Exit.thenS]
  refine wpS_cond (t := false) (by simp [Act.eval, Array.replicate]) ?_
  simp only [Bool.false_eq_true, if_false]
  refine wpS_of_wp (wp_skip ?_)
  cases c₀
  simp_all [bodyPostS, results, Try.results65]
/-- what the closure leaves: what was read, in the caller's variable; or the panic -/
def CPost (s : ByteArray) (E : Nat) (w : World) (e : Ending) (w' : World) : Prop :=
  (∃ es v R qs st, implOk s = some es ∧ e = .returned (.tuple #[]) ∧ RdG w' R s st (w.heap.size + 1) v qs ∧ exs qs = es ∧ w'.cell? ⟨E, 0, none⟩ = some v ∧ Below E w w' ∧ w.heap.size ≤ w'.heap.size ∧ (∀ g, E < g → g < w.heap.size → w'.heap[g]? = w.heap[g]?) ∧ w.heap.size ≤ R) ∨ (implOk s = none ∧ Pans e ∧ Below w.heap.size w w')
set_option maxHeartbeats 1000000 in
theorem closure_any (s : ByteArray) (B E : Nat) (u : Value) (w : World) (hb : w.cell? ⟨B, 0, none⟩ = some (.string s)) (he : w.cell? ⟨E, 0, none⟩ = some u) (hf : w.frozen? ⟨E, 0, none⟩ = false) (hE : E < w.heap.size) (hB : B < w.heap.size) :
    Calls Try.prog 29 #[.pointer (some ⟨B, 0, none⟩), .pointer (some ⟨E, 0, none⟩)] w (CPost s E w) := by
  go_enter Try.func29, Try.ntmps29
  go_wp2_with fail
  refine (mustRead_any s w).mono ?_
  rintro e w1 (⟨es, v, R, qs, st, hI, rfl, hF, hx, hb1, hRw⟩ | ⟨hI, hp, hb1⟩)
  · have e1 := kept hb1 hE he
    have f1 : w1.frozen? ⟨E, 0, none⟩ = false := by rw [hb1.frozen (p := ⟨E, 0, none⟩) hE]; exact hf
    have hE1 : E < w1.heap.size := Nat.lt_of_lt_of_le hE hb1.size
    obtain ⟨ad, cap, rfl, -⟩ := hF.slE
    obtain ⟨W2, hW2⟩ : ∃ W2, W2 = w1.setCell ⟨E, 0, none⟩ (.slice ad qs.length cap) := ⟨_, rfl⟩
    have hne : ∀ k, k ≠ E → W2.heap[k]? = w1.heap[k]? := fun k hk => by rw [hW2]; exact Below.heap_setCell w1 _ _ k hk
    have hs2 : W2.heap.size = w1.heap.size := by rw [hW2]; simp
    have HFIN : Hid (CPost s E w (.returned (.tuple #[])) W2) := by
      refine .inl ⟨es, .slice ad qs.length cap, R, qs, st, hI, rfl, ?_, hx, by rw [hW2]; exact mS e1, ?_, by rw [hs2]; exact hb1.size, fun g h1 h2 => (hne g (by omega)).trans (hb1.block g h2), hRw⟩
      · exact hF.heap (by omega) (hne R (by omega)) (fun g hg => hne g (by have := (hF.own.lt g hg).1; omega)) (fun q hq g hi => hne g (by have := (hF.lie q hq g hi).1; omega))
      · rw [hW2]; exact (hb1.mono (Nat.le_of_lt hE)).setCell (p := ⟨E, 0, none⟩) (Nat.le_refl _) _
    have HW := toHid hW2
    clear hF hx hb1 hI hne hs2 hW2 hRw
    go_wp2
    rw [← HW.out]
    first | go_end0 | go_ret
    all_goals exact HFIN.out
  · have HFIN : Hid (CPost s E w (.panicked [{ v := .iface 9 (.string ⟨#[97, 110, 111, 116, 104, 101, 114, 32, 116, 101, 120, 116]⟩), recovered := false }]) w1) := .inr ⟨hI, rfl, hb1⟩
    unfold Pans at hp
    subst hp
    clear hb1 hI
    go_wp2
    exact ⟨rfl, HFIN.out⟩
def TPost (s : ByteArray) (E : Nat) (w : World) (e : Ending) (w' : World) : Prop :=
  (∃ es v R qs st, implOk s = some es ∧ e = .returned (.bool true) ∧ RdG w' R s st (w.heap.size + 2) v qs ∧ exs qs = es ∧ w'.cell? ⟨E, 0, none⟩ = some v ∧ Below E w w') ∨ (implOk s = none ∧ e = .returned (.bool false) ∧ Below w.heap.size w w')
set_option maxHeartbeats 1000000 in
theorem through_any (s : ByteArray) (B E : Nat) (u : Value) (w : World) (hb : w.cell? ⟨B, 0, none⟩ = some (.string s)) (he : w.cell? ⟨E, 0, none⟩ = some u) (hf : w.frozen? ⟨E, 0, none⟩ = false) (hE : E < w.heap.size) (hB : B < w.heap.size) :
    Calls Try.prog 28 #[.func (Fn.func 29) #[] #[.pointer (some ⟨B, 0, none⟩), .pointer (some ⟨E, 0, none⟩)]] w (TPost s E w) := by
  have hmf : ∀ (fn : Fn) (first cap : Array Value) (w : World), (Instr.makeFunc fn first cap).run Try.prog w = .ok (.func fn first cap) w := fun _ _ _ _ => rfl
  obtain ⟨X, hX⟩ : ∃ X, X = w.alloc (.cells #[.bool false] 4) := ⟨_, rfl⟩
  have hbX : Below w.heap.size w X := by rw [hX]; exact (Below.refl _ _).alloc (Nat.le_refl _) _
  have hsX : X.heap.size = w.heap.size + 1 := by rw [hX]; simp
  have hcX : X.cell? ⟨w.heap.size, 0, none⟩ = some (.bool false) := by rw [hX]; simp
  have hfX : ∀ j, X.frozen? ⟨w.heap.size, j, none⟩ = false := by rw [hX]; intro j; simp
  have HCL := toHid (closure_any s B E u X (kept hbX hB hb) (kept hbX hE he) (by rw [hbX.frozen (p := ⟨E, 0, none⟩) hE]; exact hf) (by omega) (by omega))
  go_enter_defers Try.func28, Try.ntmps28
  go_wp2_with fail
  rw [← hX]
  refine HCL.out.mono ?_
  rintro e w2 (⟨es, v, R, qs, st, hI, rfl, hF, hx, hv, hbE, hsz, hkp, hRX⟩ | ⟨hI, hp, hb2⟩)
  · have hN := hkp w.heap.size hE (by omega)
    have c2 : w2.cell? ⟨w.heap.size, 0, none⟩ = some (.bool false) := (World.cell?_of_block (w := X) (a := ⟨w.heap.size, 0, none⟩) hN).trans hcX
    have f2 : w2.frozen? ⟨w.heap.size, 0, none⟩ = false := (World.frozen?_of_block (w := X) (a := ⟨w.heap.size, 0, none⟩) hN).trans (hfX 0)
    have l2 : w.heap.size < w2.heap.size := by omega
    obtain ⟨W3, hW3⟩ : ∃ W3, W3 = w2.setCell ⟨w.heap.size, 0, none⟩ (.bool true) := ⟨_, rfl⟩
    have hne : ∀ k, k ≠ w.heap.size → W3.heap[k]? = w2.heap[k]? := fun k hk => by rw [hW3]; exact Below.heap_setCell w2 _ _ k hk
    have HFIN : Hid (TPost s E w (.returned (.bool true)) W3) := by
      rw [hsX] at hF
      have hs3 : W3.heap.size = w2.heap.size := by rw [hW3]; simp
      have hbW : Below E w W3 := by rw [hW3]; exact ((hbX.mono (Nat.le_of_lt hE)).trans hbE).setCell (p := ⟨w.heap.size, 0, none⟩) (Nat.le_of_lt hE) _
      refine .inl ⟨es, v, R, qs, st, hI, rfl, ?_, hx, ?_, hbW⟩
      · exact hF.heap (by omega) (hne R (by omega)) (fun g hg => hne g (by have := (hF.own.lt g hg).1; omega)) (fun q hq g hi => hne g (by have := (hF.lie q hq g hi).1; omega))
      · exact (World.cell?_of_block (w := w2) (a := ⟨E, 0, none⟩) (hne E (by omega))).trans hv
    have HW := toHid hW3
    clear hF hx hv hbE hsz hkp hRX hN hne hI hW3 hbX hsX hcX hfX hX
    go_wp2
    refine leaves_cons (f := 65) (args := #[.pointer (some ⟨w.heap.size, 0, none⟩)]) (by simp) (by simp [go_sem]) ?_
    refine (catch_idle ⟨w.heap.size, 0, none⟩ _).mono ?_
    rintro e u' w'' ⟨rfl, rfl, rfl⟩
    rw [← HW.out]
    have c3 : W3.cell? ⟨w.heap.size, 0, none⟩ = some (.bool true) := by rw [HW.out]; exact mS c2
    have hl3 : w.heap.size < W3.heap.size := by rw [HW.out]; simpa using l2
    exact ⟨.bool true, by simp [results, Try.results28, go_sem, c3], HFIN.out⟩
  · have hN := hb2.block w.heap.size (by omega)
    have c2 : w2.cell? ⟨w.heap.size, 0, none⟩ = some (.bool false) := (World.cell?_of_block (w := X) (a := ⟨w.heap.size, 0, none⟩) hN).trans hcX
    have f2 : w2.frozen? ⟨w.heap.size, 0, none⟩ = false := (World.frozen?_of_block (w := X) (a := ⟨w.heap.size, 0, none⟩) hN).trans (hfX 0)
    have hbW : Below w.heap.size w (w2.setCell ⟨w.heap.size, 0, none⟩ (.bool false)) := (hbX.trans (hb2.mono hbX.size)).setCell (p := ⟨w.heap.size, 0, none⟩) (Nat.le_refl _) _
    have HFIN : Hid (TPost s E w (.returned (.bool false)) (w2.setCell ⟨w.heap.size, 0, none⟩ (.bool false))) := .inr ⟨hI, rfl, hbW⟩
    unfold Pans at hp
    subst hp
    clear hN hb2 hbW hI hbX hsX hcX hfX hX
    go_wp2
    refine leaves_cons (f := 65) (args := #[.pointer (some ⟨w.heap.size, 0, none⟩)]) (by simp) (by simp [go_sem]) ?_
    refine (catch_panicking ⟨w.heap.size, 0, none⟩ false 9 _ [] _ c2 f2).mono ?_
    rintro e u' w'' ⟨rfl, rfl, rfl⟩
    have c3 : (w2.setCell ⟨w.heap.size, 0, none⟩ (.bool false)).cell? ⟨w.heap.size, 0, none⟩ = some (.bool false) := mS c2
    exact ⟨.bool false, by simp [results, Try.results28, go_sem, c3], HFIN.out⟩
/-- what comes back -/
def XIPost (s : ByteArray) (w : World) (e : Ending) (w' : World) : Prop :=
  Below w.heap.size w w' ∧ ((implOk s = none ∧ e = .returned (.tuple #[.slice none 0 0, .bool false])) ∨ (∃ es v R qs st, implOk s = some es ∧ e = .returned (.tuple #[v, .bool true]) ∧ RdG w' R s st (w.heap.size + 4) v qs ∧ exs qs = es))
set_option maxHeartbeats 1000000 in
theorem implReadExpr_any (s : ByteArray) (w : World) : Calls Try.prog 8 #[.string s] w (XIPost s w) := by
  have hmf : ∀ (fn : Fn) (first cap : Array Value) (w : World), (Instr.makeFunc fn first cap).run Try.prog w = .ok (.func fn first cap) w := fun _ _ _ _ => rfl
  obtain ⟨X, hX⟩ : ∃ X, X = (w.alloc (.cells #[.string s] 9)).alloc (.cells #[.slice none 0 0] 22) := ⟨_, rfl⟩
  have hbX : Below w.heap.size w X := by rw [hX]; exact ((Below.refl _ _).alloc (Nat.le_refl _) _).alloc (by simp) _
  have hsX : X.heap.size = w.heap.size + 2 := by rw [hX]; simp
  have hcB : X.cell? ⟨w.heap.size, 0, none⟩ = some (.string s) := by
    rw [hX]
    have hh : Below (w.alloc (.cells #[.string s] 9)).heap.size (w.alloc (.cells #[.string s] 9)) ((w.alloc (.cells #[.string s] 9)).alloc (.cells #[.slice none 0 0] 22)) := (Below.refl _ _).alloc (Nat.le_refl _) _
    exact kept hh (by simp) (by simp)
  have hcE : X.cell? ⟨w.heap.size + 1, 0, none⟩ = some (.slice none 0 0) := by rw [hX]; simp
  have hfE : X.frozen? ⟨w.heap.size + 1, 0, none⟩ = false := by rw [hX]; simp
  have HCL := toHid (through_any s w.heap.size (w.heap.size + 1) (.slice none 0 0) X hcB hcE hfE (by omega) (by omega))
  have HX : Hid (Below w.heap.size w X ∧ X.heap.size = w.heap.size + 2) := ⟨hbX, hsX⟩
  have HE := toHid hcE
  clear hbX hsX hcB hcE hfE
  go_enter Try.func8, Try.ntmps8
  go_wp2_with fail
  rw [← hX]
  clear hX
  refine HCL.out.mono ?_
  rintro e w2 (⟨es, v, R, qs, st, hI, rfl, hF, hx, hv, hb2⟩ | ⟨hI, rfl, hb2⟩)
  · have HB2 : Hid (Below w.heap.size w w2) := HX.out.1.trans (hb2.mono (by omega))
    rw [HX.out.2] at hF
    obtain ⟨ad, cap, rfl, -⟩ := hF.slE
    have HF := toHid hF
    have HI := toHid hI
    have HXX := toHid hx
    clear hF hI hx hb2
    go_wp2
    exact bodyPost_ret (v := .tuple #[.slice ad qs.length cap, .bool true]) (by simp [results, Try.results8, go_sem]) rfl ⟨HB2.out, .inr ⟨es, _, R, qs, st, HI.out, rfl, HF.out, HXX.out⟩⟩
  · have HB2 : Hid (Below w.heap.size w w2) := HX.out.1.trans (hb2.mono HX.out.1.size)
    have hv : w2.cell? ⟨w.heap.size + 1, 0, none⟩ = some (.slice none 0 0) := kept hb2 (by have := HX.out.2; omega) HE.out
    have HI := toHid hI
    clear hI hb2
    go_wp2
    exact bodyPost_ret (v := .tuple #[.slice none 0 0, .bool false]) (by simp [results, Try.results8, go_sem]) rfl ⟨HB2.out, .inl ⟨HI.out, rfl⟩⟩
end Go.Proofs.Ytjmbgpdbnffkpaa
