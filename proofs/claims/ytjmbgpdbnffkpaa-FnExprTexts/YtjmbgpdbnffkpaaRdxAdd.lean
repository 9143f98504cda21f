/- Contract of the document's reader: one more node. -/
import Derived.Test.YtjmbgpdbnffkpaaRdx
import Derived.Test.YtjmbgpdbnffkpaaJ6
import Derived.Test.YtjmbgpdbnffkpaaJ7
import Derived.Deep.RegionHeld3
import Derived.Deep.DrawnRows
namespace Go.Proofs.Ytjmbgpdbnffkpaa
set_option maxRecDepth 100000
open Go.ChangeShapes Go.WideShapes Go.ChangeAt Go.RowKit
open Pl

/-- all but the reader's own block and the row v is as it was -/
structure Onl (R : Nat) (v : Value) (w w' : World) : Prop where
  os : w'.os = w.os
  tape : w'.tape = w.tape
  output : w'.output = w.output
  size : w.heap.size ≤ w'.heap.size
  block : ∀ k, k < w.heap.size → k ≠ R → v.ownBlock ≠ some k → w'.heap[k]? = w.heap[k]?
def ER.cells (q : ER) : Array Value := #[.int .i64 q.e.kind, .slice q.adA q.e.allow.length q.capA, .string q.e.over, .string q.e.name, .slice q.adK q.e.kids.length q.capK]

theorem cell_alloc_any {w : World} {a : Addr} {v : Value} (h : w.cell? a = some v) (o : Obj) : (w.alloc o).cell? a = some v := by
  have hlt := World.block_lt_of_cell? w a h
  rw [((Below.refl w.heap.size w).alloc (Nat.le_refl _) o).cell hlt]; exact h
/-- five cells of a node's own block -/
def Five (w : World) (g : Nat) (q : ER) : Prop := w.cell? ⟨g, 0, none⟩ = some (.int .i64 q.e.kind) ∧ w.cell? ⟨g, 1, none⟩ = some (.slice q.adA q.e.allow.length q.capA) ∧ w.cell? ⟨g, 2, none⟩ = some (.string q.e.over) ∧ w.cell? ⟨g, 3, none⟩ = some (.string q.e.name) ∧ w.cell? ⟨g, 4, none⟩ = some (.slice q.adK q.e.kids.length q.capK) ∧ g < w.heap.size
theorem Five.grown {w w' : World} {g : Nat} {q : ER} {row : Option Nat} (h : Five w g q) (hg : w.grownBy w' row) (hne : some g ≠ row) : Five w' g q :=
  ⟨hg.cell h.1 hne, hg.cell h.2.1 hne, hg.cell h.2.2.1 hne, hg.cell h.2.2.2.1 hne, hg.cell h.2.2.2.2.1 hne, Nat.lt_of_lt_of_le h.2.2.2.2.2 hg.size⟩
theorem Onl.grown {R : Nat} {v : Value} {w w' w'' : World} {row : Option Nat} (h : Onl R v w w') (hg : w'.grownBy w'' row) (hr : ∀ k, k < w.heap.size → k ≠ R → v.ownBlock ≠ some k → some k ≠ row) : Onl R v w w'' :=
  ⟨hg.os.trans h.os, hg.tape.trans h.tape, hg.output.trans h.output, Nat.le_trans h.size hg.size, fun k hk h1 h2 => (hg.block k (Nat.lt_of_lt_of_le hk h.size) (hr k hk h1 h2)).trans (h.block k hk h1 h2)⟩
theorem ownsRow_succE {W : World} {base : Nat} {e : TypeId} {size : Nat} {v : Value} {k : Nat} {xs : List Value} (h : W.ownsRow base e size v (k + 1) xs) : ∃ g cap, v = .slice (some ⟨g, 0, none⟩) (k + 1) cap := by
  rcases h.2 with ⟨_, h0⟩ | ⟨g, cap, _, rfl, _⟩
  · omega
  · exact ⟨g, cap, rfl⟩
theorem Onl.at_own {R : Nat} {v : Value} {w w' : World} (h : Onl R v w w') (o : Nat) (u : Value) : Onl R v w (w'.setCell ⟨R, o, none⟩ u) :=
  ⟨h.os, h.tape, h.output, by simpa using h.size, fun k hk h1 h2 => (Below.heap_setCell w' _ _ k h1).trans (h.block k hk h1 h2)⟩
theorem RdC.put {w : World} {R : Nat} {s : ByteArray} {p : Nat} {bad : Bool} {v : Value} (h : RdC w R s p bad v) (u : Value) : RdC (w.setCell ⟨R, 3, none⟩ u) R s p bad u :=
  ⟨by simpa using h.lt, by rw [mO (by omega)]; exact h.c0, by rw [mO (by omega)]; exact h.c1, by rw [mO (by omega)]; exact h.c2, mS h.c3, fun j => by simpa using h.fr j⟩
theorem RdC.hurt {w : World} {R : Nat} {s : ByteArray} {p : Nat} {bad : Bool} {v : Value} (h : RdC w R s p bad v) : RdC (w.setCell ⟨R, 2, none⟩ (.bool true)) R s p true v :=
  ⟨by simpa using h.lt, by rw [mO (by omega)]; exact h.c0, by rw [mO (by omega)]; exact h.c1, mS h.c2, by rw [mO (by omega)]; exact h.c3, fun j => by simpa using h.fr j⟩
/-- what the world says while a node is added -/
structure GA (R : Nat) (s : ByteArray) (p : Nat) (bad : Bool) (v : Value) (base n : Nat) (xs : List Value) (q : ER) (w : World) (listed : Array Bool) (w' : World) : Prop where
  rd : RdC w' R s p bad v
  box : Five w' w.heap.size q
  onl : Onl R v w w'
  own : listed.getD 7 false = false → w'.ownsRow base 56 5 v n xs
  small : listed.getD 6 false = false → w'.heap.size = w.heap.size + 1
theorem getTF' {listed : Array Bool} {i L : Nat} (h : listed.getD i true = false) (hs : listed.size = L) (hi : i < L) : listed.getD i false = false := by
  rw [← getTF (by omega)]; exact h
theorem GA.step {R : Nat} {s : ByteArray} {p : Nat} {bad : Bool} {v : Value} {base n : Nat} {xs : List Value} {q : ER} {w w' : World} {listed : Array Bool} (h : GA R s p bad v base n xs q w listed w') {i : Nat} (hls : listed.size = 11) (h6 : i ≠ 6) (h7 : i ≠ 7) : GA R s p bad v base n xs q w (listed.setIfInBounds i true) w' :=
  ⟨h.rd, h.box, h.onl, fun k => h.own (by
    by_cases hi : i < 11
    · rw [getF_set' _ _ _ (by omega), if_neg (Ne.symm h7)] at k; exact k
    · rw [show listed.setIfInBounds i true = listed by rw [Array.setIfInBounds_eq_of_size_le (by omega)]] at k; exact k), fun k => h.small (by
    by_cases hi : i < 11
    · rw [getF_set' _ _ _ (by omega), if_neg (Ne.symm h6)] at k; exact k
    · rw [show listed.setIfInBounds i true = listed by rw [Array.setIfInBounds_eq_of_size_le (by omega)]] at k; exact k)⟩
theorem GA.made {R : Nat} {s : ByteArray} {p : Nat} {bad : Bool} {v : Value} {base n : Nat} {xs : List Value} {q : ER} {w w' : World} {listed : Array Bool} (h : GA R s p bad v base n xs q w listed w') {i : Nat} (hls : listed.size = 11) {o : Obj} (hi : i = 6 := by rfl) : GA R s p bad v base n xs q w (listed.setIfInBounds i true) (w'.alloc o) := by
  subst hi
  have hg := World.grownBy_alloc w' o none
  refine ⟨h.rd.grown hg (by simp), h.box.grown hg (by simp), h.onl.grown hg (by simp), fun k => (h.own ?_).alloc _, fun k => ?_⟩
  · rw [getF_set' _ _ _ (by omega), if_neg (by omega)] at k; exact k
  · rw [getF_set' _ _ _ (by omega), if_pos rfl] at k; cases k
/-- what the operations leave -/
def VA (l : List Value) (base n : Nat) (v : Value) (q : ER) (xs : List Value) (w : World) (k : Nat) (u : Value) (w' : World) : Prop :=
  (k ≠ 6 ∧ k ≠ 7 → u = l.getD k undef) ∧
  (k = 6 → u = .slice (some ⟨w.heap.size + 1, 0, none⟩) 1 1 ∧ (∀ j x, q.row[j]? = some x → w'.cell? ((⟨w.heap.size + 1, 0, none⟩ : Addr).add j) = some x) ∧ w.heap.size + 1 < w'.heap.size) ∧
  (k = 7 → ∃ g cap, u = .slice (some ⟨g, 0, none⟩) (n + 1) cap ∧ w'.ownsRow base 56 5 (.slice (some ⟨g, 0, none⟩) (n + 1) cap) (n + 1) (xs ++ q.row) ∧ (v.ownBlock = some g ∨ w.heap.size ≤ g))
theorem VA.at {l : List Value} {base n : Nat} {v : Value} {q : ER} {xs : List Value} {w : World} {k : Nat} {u : Value} {w' : World} (h : k ≠ 6 ∧ k ≠ 7) (hu : u = l.getD k undef) : VA l base n v q xs w k u w' := ⟨fun _ => hu, fun e => absurd e h.1, fun e => absurd e h.2⟩
theorem VA.alloc {l : List Value} {base n : Nat} {v : Value} {q : ER} {xs : List Value} {w w' : World} {i : Nat} {o : Obj} : ∀ k u, k ≠ i → VA l base n v q xs w k u w' → VA l base n v q xs w k u (w'.alloc o) := fun k u _ h =>
  ⟨h.1, fun e => ⟨(h.2.1 e).1, fun j x hj => cell_alloc_any ((h.2.1 e).2.1 j x hj) o, Nat.lt_of_lt_of_le (h.2.1 e).2.2 (by simp)⟩, fun e => by obtain ⟨g, cap, e1, e2, e3⟩ := h.2.2 e; exact ⟨g, cap, e1, e2.alloc _, e3⟩⟩

theorem GA.appended {R : Nat} {s : ByteArray} {p : Nat} {bad : Bool} {v : Value} {base n : Nat} {xs : List Value} {q : ER} {w w' w'' : World} {listed : Array Bool} (h : GA R s p bad v base n xs q w listed w') (hls : listed.size = 11) (hg : w'.grownBy w'' v.ownBlock) (hR : v.ownBlock ≠ some R) (hX : v.ownBlock ≠ some w.heap.size) (hb6 : w.heap.size + 1 < w'.heap.size) : GA R s p bad v base n xs q w (listed.setIfInBounds 7 true) w'' := by
  refine ⟨h.rd.grown hg (Ne.symm hR), h.box.grown hg (Ne.symm hX), h.onl.grown hg (fun k _ _ h2 => Ne.symm h2), fun k => ?_, fun k => ?_⟩
  · rw [getF_set' _ _ _ (by omega), if_pos rfl] at k; cases k
  · rw [getF_set' _ _ _ (by omega), if_neg (by omega)] at k; have := h.small k; omega
theorem VA.app {l : List Value} {base n : Nat} {v : Value} {q : ER} {xs : List Value} {w w' w'' : World} (hg : w'.grownBy w'' v.ownBlock) (hX : v.ownBlock ≠ some (w.heap.size + 1)) : ∀ k u, k ≠ 7 → VA l base n v q xs w k u w' → VA l base n v q xs w k u w'' := fun k u hk h =>
  ⟨h.1, fun e => ⟨(h.2.1 e).1, fun j x hj => hg.cell ((h.2.1 e).2.1 j x hj) (by rw [show ((⟨w.heap.size + 1, 0, none⟩ : Addr).add j).block = w.heap.size + 1 by unfold Addr.add; split <;> rfl]; exact Ne.symm hX), Nat.lt_of_lt_of_le (h.2.1 e).2.2 hg.size⟩, fun e => absurd e hk⟩

set_option maxHeartbeats 4000000 in
theorem add_any (R : Nat) (s : ByteArray) (p : Nat) (bad : Bool) (v : Value) (base n : Nat) (xs : List Value) (q : ER) (w : World) (h : RdC w R s p bad v) (hown : w.ownsRow base 56 5 v n xs) (hR : R < base) (hB : base ≤ w.heap.size) (hn : n ≤ 100000) :
    Calls Try.prog 61 #[.pointer (some ⟨R, 0, none⟩), q.val] w fun e w' => ∃ (g cap : Nat), e = .returned (.int .i64 (n : Int)) ∧ RdC w' R s p (bad || decide (15 < n + 1)) (.slice (some ⟨g, 0, none⟩) (n + 1) cap) ∧ w'.ownsRow base 56 5 (.slice (some ⟨g, 0, none⟩) (n + 1) cap) (n + 1) (xs ++ q.row) ∧ Onl R v w w' ∧ (v.ownBlock = some g ∨ w.heap.size ≤ g) := by
  obtain ⟨iT, hiT, zT0, zT1, zT2⟩ := info_parts (P := Try.prog) (e := 56) (z := .agg #[.int .i64 0, .slice none 0 0, .string ⟨#[]⟩, .string ⟨#[]⟩, .slice none 0 0]) (size := 5) (bytes := 88) (by kernel_rfl)
  have HIT := toHid (And.intro hiT (And.intro zT0 (And.intro zT1 zT2)))
  have H := toHid h
  have HO := toHid hown
  have hlt := h.lt
  clear h hown hiT zT0 zT1 zT2
  have hne : v.ownBlock ≠ some R := fun e => by have := (HO.out.lt R e).1; omega
  have HNE := toHid hne
  have HNX : Hid (v.ownBlock ≠ some w.heap.size) := fun e => by have := (HO.out.lt _ e).2; omega
  have HNX1 : Hid (v.ownBlock ≠ some (w.heap.size + 1)) := fun e => by have := (HO.out.lt _ e).2; omega
  clear hne
  unfold ER.val
  obtain ⟨W0, hW0⟩ : ∃ W0, W0 = w.alloc (.cells #[.int .i64 q.e.kind, .slice q.adA q.e.allow.length q.capA, .string q.e.over, .string q.e.name, .slice q.adK q.e.kids.length q.capK] 56) := ⟨_, rfl⟩
  have HG0 : Hid (GA R s p bad v base n xs q w (Array.replicate 11 false) W0.drew) := by
    have hg := World.grownBy_alloc w (.cells #[.int .i64 q.e.kind, .slice q.adA q.e.allow.length q.capA, .string q.e.over, .string q.e.name, .slice q.adK q.e.kids.length q.capK] 56) none
    show GA _ _ _ _ _ _ _ _ _ _ _ _
    rw [hW0]
    refine ⟨(H.out.grown hg (by simp)).drewN 1, ⟨?_, ?_, ?_, ?_, ?_, ?_⟩, ⟨rfl, rfl, rfl, by simp [World.drew], fun k hk _ _ => hg.block k hk (by simp)⟩, fun _ => (HO.out.alloc _).drew, fun _ => by simp [World.drew]⟩ <;> simp
  go_enter Try.func61, Try.ntmps61
  go_wp2_with fail
  rw [← hW0]
  clear hW0
  refine wp_region_midT 10 (fun _ => undef) (fun f => { tmps := List.toArray (Value.pointer (some ⟨R, 0, none⟩) :: Value.agg #[.int .i64 q.e.kind, .slice q.adA q.e.allow.length q.capA, .string q.e.over, .string q.e.name, .slice q.adK q.e.kids.length q.capK] :: undef :: Value.pointer (some ⟨w.heap.size, 0, none⟩) :: Value.int .i64 0 :: f 0 :: f 1 :: f 2 :: f 3 :: f 4 :: f 5 :: f 6 :: f 7 :: f 8 :: f 9 :: undef :: undef :: undef :: undef :: undef :: undef :: undef :: undef :: undef :: undef :: undef :: undef :: undef :: undef :: undef :: []), defers := [] }) (VA (Value.pointer (some ⟨R, 0, none⟩) :: Value.pointer (some ⟨R, 0, none⟩) :: Value.pointer (some ⟨R, 0, none⟩) :: Value.pointer (some ⟨R, 3, none⟩) :: v :: Value.agg #[.int .i64 q.e.kind, .slice q.adA q.e.allow.length q.capA, .string q.e.over, .string q.e.name, .slice q.adK q.e.kids.length q.capK] :: Value.slice (some ⟨w.heap.size + 1, 0, none⟩) 1 1 :: undef :: Value.pointer (some ⟨R, 0, none⟩) :: Value.pointer (some ⟨R, 3, none⟩) :: []) base n v q xs w) (GA R s p bad v base n xs q w) (by kernel_rfl) rfl (by decide +kernel) (by decide +kernel) rfl HG0.out ?stepA ?finA
  case stepA =>
    rintro i hi o ho listed f w' hls hli hG hpre
    have HG := toHid hG
    have HM : Hid (∀ e ∈ o.after, Region.binds .any e = true → _) := hpre
    clear hG hpre
    have hc : i = 0 ∨ i = 1 ∨ i = 2 ∨ i = 3 ∨ i = 4 ∨ i = 5 ∨ i = 6 ∨ i = 7 ∨ i = 8 ∨ i = 9 := by omega
    clear hi
    rcases hc with rfl | rfl | rfl | rfl | rfl | rfl | rfl | rfl | rfl | rfl
    · obtain rfl := Option.some.inj ho
      have HS := toHid (HG.out.step (i := 0) hls (by decide) (by decide))
      refine wpOp_hid rfl fun K HK => ?_
      clear ho HM
      dsimp only
      go_simp
      exact HK.out _ _ ⟨Value.pointer (some ⟨R, 0, none⟩), by simp [upd], HS.out, VA.at (by decide) rfl, fun k u _ hu => hu⟩
    · obtain rfl := Option.some.inj ho
      have HS := toHid (HG.out.step (i := 1) hls (by decide) (by decide))
      refine wpOp_hid rfl fun K HK => ?_
      clear ho HM
      dsimp only
      go_simp
      exact HK.out _ _ ⟨Value.pointer (some ⟨R, 0, none⟩), by simp [upd], HS.out, VA.at (by decide) rfl, fun k u _ hu => hu⟩
    · obtain rfl := Option.some.inj ho
      have e1 : f 1 = Value.pointer (some ⟨R, 0, none⟩) := (HM.out ⟨1, .data⟩ (by simp) rfl).1 (by decide)
      have HS := toHid (HG.out.step (i := 2) hls (by decide) (by decide))
      refine wpOp_hid rfl fun K HK => ?_
      clear ho HM
      simp only [e1]
      go_simp
      exact HK.out _ _ ⟨Value.pointer (some ⟨R, 0, none⟩), by simp [upd, e1], HS.out, VA.at (by decide) rfl, fun k u _ hu => hu⟩
    · obtain rfl := Option.some.inj ho
      have e2 : f 2 = Value.pointer (some ⟨R, 0, none⟩) := (HM.out ⟨2, .data⟩ (by simp) rfl).1 (by decide)
      have HS := toHid (HG.out.step (i := 3) hls (by decide) (by decide))
      refine wpOp_hid rfl fun K HK => ?_
      clear ho HM
      simp only [e2]
      go_simp
      exact HK.out _ _ ⟨Value.pointer (some ⟨R, 3, none⟩), by simp [upd, e2], HS.out, VA.at (by decide) rfl, fun k u _ hu => hu⟩
    · obtain rfl := Option.some.inj ho
      have e3 : f 3 = Value.pointer (some ⟨R, 3, none⟩) := (HM.out ⟨3, .data⟩ (by simp) rfl).1 (by decide)
      have c3 := HG.out.rd.c3
      have HS := toHid (HG.out.step (i := 4) hls (by decide) (by decide))
      refine wpOp_hid rfl fun K HK => ?_
      clear ho HM
      simp only [e3]
      go_simp
      exact HK.out _ _ ⟨v, by simp [upd, e3], HS.out, VA.at (by decide) rfl, fun k u _ hu => hu⟩
    · obtain rfl := Option.some.inj ho
      obtain ⟨x0, x1, x2, x3, x4, xl⟩ := HG.out.box
      have HS := toHid (HG.out.step (i := 5) hls (by decide) (by decide))
      refine wpOp_hid rfl fun K HK => ?_
      clear ho HM
      dsimp only
      go_simp
      exact HK.out _ _ ⟨Value.agg #[.int .i64 q.e.kind, .slice q.adA q.e.allow.length q.capA, .string q.e.over, .string q.e.name, .slice q.adK q.e.kids.length q.capK], by simp [upd], HS.out, VA.at (by decide) rfl, fun k u _ hu => hu⟩
    · obtain rfl := Option.some.inj ho
      have e5 : f 5 = Value.agg #[.int .i64 q.e.kind, .slice q.adA q.e.allow.length q.capA, .string q.e.over, .string q.e.name, .slice q.adK q.e.kids.length q.capK] := (HM.out ⟨5, .data⟩ (by simp) rfl).1 (by decide)
      have hz := HG.out.small (getTF' hli hls (by omega))
      have HS : Hid (∀ o, GA R s p bad v base n xs q w (listed.setIfInBounds 6 true) (w'.alloc o)) := fun o => HG.out.made (i := 6) hls
      refine wpOp_hid rfl fun K HK => ?_
      clear ho HM
      simp only [e5]
      go_simp
      exact HK.out _ _ ⟨.slice (some ⟨w'.heap.size, 0, none⟩) 1 1, by simp [upd, e5], HS.out _, ⟨fun h => absurd rfl h.1, fun _ => ⟨by rw [hz], fun j u hj => by have := row5_news w' q j u hj; rw [hz] at this; exact this, by simp; omega⟩, fun h => absurd h (by decide)⟩, VA.alloc⟩
    · obtain rfl := Option.some.inj ho
      have e4 : f 4 = v := (HM.out ⟨4, .data⟩ (by simp) rfl).1 (by decide)
      obtain ⟨e6, hnews, hb6⟩ := (HM.out ⟨6, .data⟩ (by simp) rfl).2.1 rfl
      replace e6 : f 6 = Value.slice (some ⟨w.heap.size + 1, 0, none⟩) 1 1 := e6
      have hown := HG.out.own (getTF' hli hls (by omega))
      clear ho HM
      refine wpOp_append_own _ rfl rfl _ _ 22 rfl base 56 iT (.agg #[.int .i64 0, .slice none 0 0, .string ⟨#[]⟩, .string ⟨#[]⟩, .slice none 0 0]) 5 88 Try.underlying22 HIT.out.1 HIT.out.2.1 HIT.out.2.2.1 HIT.out.2.2.2 rfl (by decide) v n xs e4 hown ⟨w.heap.size + 1, 0, none⟩ 1 1 q.row e6 rfl hnews (row5_one q) (by unfold maxLen; omega) (by omega) (by have := HG.out.onl.size; omega) ?_
      intro v7 w7 hown7 hgr7 hat7
      obtain ⟨g7, c7, rfl⟩ := ownsRow_succE hown7
      refine ⟨.slice (some ⟨g7, 0, none⟩) (n + 1) c7, by simp [upd, e4, e6, Act.put], HG.out.appended hls hgr7 HNE.out HNX.out hb6, ⟨fun h => absurd rfl h.2, fun h => absurd h (by decide), fun _ => ⟨g7, c7, rfl, hown7, ?_⟩⟩, VA.app hgr7 HNX1.out⟩
      rcases hat7 with e | e
      · exact .inl e.symm
      · simp [Value.ownBlock] at e; exact .inr (by have := HG.out.onl.size; omega)
    · obtain rfl := Option.some.inj ho
      have e0 : f 0 = Value.pointer (some ⟨R, 0, none⟩) := (HM.out ⟨0, .data⟩ (by simp) rfl).1 (by decide)
      have HS := toHid (HG.out.step (i := 8) hls (by decide) (by decide))
      refine wpOp_hid rfl fun K HK => ?_
      clear ho HM
      simp only [e0]
      go_simp
      exact HK.out _ _ ⟨Value.pointer (some ⟨R, 0, none⟩), by simp [upd, e0], HS.out, VA.at (by decide) rfl, fun k u _ hu => hu⟩
    · obtain rfl := Option.some.inj ho
      have e8 : f 8 = Value.pointer (some ⟨R, 0, none⟩) := (HM.out ⟨8, .data⟩ (by simp) rfl).1 (by decide)
      have HS := toHid (HG.out.step (i := 9) hls (by decide) (by decide))
      refine wpOp_hid rfl fun K HK => ?_
      clear ho HM
      simp only [e8]
      go_simp
      exact HK.out _ _ ⟨Value.pointer (some ⟨R, 3, none⟩), by simp [upd, e8], HS.out, VA.at (by decide) rfl, fun k u _ hu => hu⟩
  case finA =>
    rintro o ho listed f w' hG hall
    obtain rfl := Option.some.inj ho
    obtain ⟨g, cap, e7, hown7, hat⟩ := (hall 7 (by omega)).2.2 rfl
    have e9 : f 9 = Value.pointer (some ⟨R, 3, none⟩) := (hall 9 (by omega)).1 (by decide)
    have HR := toHid hG.rd
    have HN := toHid hG.onl
    have HW := toHid hown7
    have HA := toHid hat
    have c3 := hG.rd.c3
    have f3 := hG.rd.fr 3
    have hl3 := hG.rd.lt
    clear ho hall hG hown7 hat
    refine wpOp_step rfl (fun K hK => ?_)
    have HK : Hid (∀ a w, _ → K a w) := hK
    clear hK
    simp only [e7, e9]
    go_simp
    refine HK.out _ _ ?_
    clear HK
    obtain ⟨W8, hW8⟩ : ∃ W8, W8 = w'.setCell ⟨R, 3, none⟩ (.slice (some ⟨g, 0, none⟩) (n + 1) cap) := ⟨_, rfl⟩
    have HR8 : Hid (RdC W8 R s p bad (.slice (some ⟨g, 0, none⟩) (n + 1) cap)) := by rw [hW8]; exact HR.out.put _
    have HN8 : Hid (Onl R v w W8) := by rw [hW8]; exact HN.out.at_own _ _
    have HW8 : Hid (W8.ownsRow base 56 5 (.slice (some ⟨g, 0, none⟩) (n + 1) cap) (n + 1) (xs ++ q.row)) := by rw [hW8]; exact ownsRow_setCell_below HW.out hR _
    rw [← hW8]
    clear hW8 HR HN HW c3 f3 hl3 e7 e9
    have c2 := HR8.out.c2
    have c3 := HR8.out.c3
    have f2 := HR8.out.fr 2
    have hl8 := HR8.out.lt
    have hwr : IntKind.i64.wrap (((n : Int) + 1) - 1) = (n : Int) := by simp [IntKind.wrap, IntKind.bits, IntKind.signed]; omega
    by_cases hbig : 15 < n + 1
    · have hd : decide ((15 : Int) < (n : Int) + 1) = true := by simp; omega
      have HB := toHid hbig
      clear hbig
      go_wp2
      exact bodyPost_ret (v := .int .i64 (n : Int)) (by simp [results, Try.results61, go_sem]) rfl ⟨g, cap, rfl, by rw [show decide (15 < n + 1) = true from decide_eq_true HB.out, Bool.or_true]; exact HR8.out.hurt, ownsRow_setCell_below HW8.out hR _, HN8.out.at_own _ _, HA.out⟩
    · have hd : decide ((15 : Int) < (n : Int) + 1) = false := by simp; omega
      have HB := toHid hbig
      clear hbig
      go_wp2
      exact bodyPost_ret (v := .int .i64 (n : Int)) (by simp [results, Try.results61, go_sem]) rfl ⟨g, cap, rfl, by rw [show decide (15 < n + 1) = false from decide_eq_false HB.out, Bool.or_false]; exact HR8.out, HW8.out, HN8.out, HA.out⟩
end Go.Proofs.Ytjmbgpdbnffkpaa
