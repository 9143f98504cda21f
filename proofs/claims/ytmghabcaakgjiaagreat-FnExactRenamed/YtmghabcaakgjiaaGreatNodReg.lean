/- The drawn region 'x, ok := l7Node(..)': the box of x may be laid at any time. -/
import Derived.Test.YtmghabcaakgjiaaGreatL7Node
import Derived.Test.YtmghabcaakgjiaaGreatJ15
namespace Go.Proofs.YtmghabcaakgjiaaGreat
set_option maxRecDepth 100000
set_option linter.unusedVariables false
open Go.ChangeShapes Go.WideShapes Go.ChangeAt Go.RowKit Go.Maps
open Pl
def cNX (x : ER) (ov nm : ByteArray) : Array Value := #[.int .i64 x.e.kind, .slice x.adA x.e.allow.length x.capA, .string ov, .string nm, .slice x.adK x.e.kids.length x.capK]
def cNZ : Array Value := #[.int .i64 0, .slice none 0 0, .string ⟨#[]⟩, .string ⟨#[]⟩, .slice none 0 0]
def NA (ts : List Ty) (typ frm to tn : ByteArray) (x : ER) (W : World) (l13 l14 l15 l16 l17 l18 : Bool) (f13 f14 f15 f16 f17 : Value) (w : World) : Prop :=
 ∃ ov nm : ByteArray, (l13 = true → f13 = .tuple #[.agg (cNX x ov nm), .bool (!l7bad ts typ frm to tn x.e)] ∧ SlA w x.adA (x.e.allow.map (renA typ frm to)) ∧ (l7bad ts typ frm to tn x.e = false → ov = (renY ts typ frm to tn x.e).over ∧ nm = (renY ts typ frm to tn x.e).name)) ∧
  (l14 = true → l13 = true ∧ f14 = .tuple #[.agg (cNX x ov nm), .bool (!l7bad ts typ frm to tn x.e)]) ∧ (l15 = true → l14 = true ∧ f15 = .agg (cNX x ov nm)) ∧ (l16 = true → f16 = .bool (!l7bad ts typ frm to tn x.e)) ∧
  (l17 = true → ∃ z, f17 = .pointer (some ⟨z, 0, none⟩) ∧ W.heap.size ≤ z ∧ w.heap[z]? = some (.cells (if l18 = true then cNX x ov nm else cNZ) 50 (0, 0))) ∧ (l18 = true → l15 = true ∧ l17 = true)
structure NI (C : Nat → Value) (ts : List Ty) (typ frm to tn : ByteArray) (x : ER) (W : World) (l : Nat → Bool) (f : Nat → Value) (w : World) : Prop where
 val : ∀ k, k < 13 → l k = true → f k = C k
 chg : Chg (bA x) W w
 bel : l 13 = false → Below W.heap.size W w
 ans : NA ts typ frm to tn x W (l 13) (l 14) (l 15) (l 16) (l 17) (l 18) (f 13) (f 14) (f 15) (f 16) (f 17) w
section
variable {C : Nat → Value} {ts : List Ty} {typ frm to tn : ByteArray} {x : ER} {W w w' : World} {l : Nat → Bool} {f : Nat → Value}
theorem NI.put (h : NI C ts typ frm to tn x W l f w) {i : Nat} (hi : i < 13) {v : Value} (hv : v = C i) : NI C ts typ frm to tn x W (fun k => if k = i then true else l k) (upd f i v) w := by
 have e : ∀ n, 13 ≤ n → (if n = i then true else l n) = l n := fun n hn => if_neg (by omega)
 have e2 : ∀ n, 13 ≤ n → upd f i v n = f n := fun n hn => by simp only [upd, if_neg (show n ≠ i by omega)]
 refine ⟨fun k hk hl => ?_, h.chg, fun hl => h.bel ((e 13 (by omega)).symm.trans hl), ?_⟩
 ·by_cases e : k = i
  ·subst e; simp [upd, hv]
  ·simp only [if_neg e] at hl; simp only [upd, if_neg e]; exact h.val k hk hl
 ·simpa only [e 13 (by omega), e 14 (by omega), e 15 (by omega), e 16 (by omega), e 17 (by omega), e 18 (by omega), e2 13 (by omega), e2 14 (by omega), e2 15 (by omega), e2 16 (by omega), e2 17 (by omega)] using h.ans
theorem NI.vals (h : NI C ts typ frm to tn x W l f w) {i : Nat} (hi : 13 ≤ i) (v : Value) : ∀ k, k < 13 → (if k = i then true else l k) = true → upd f i v k = C k := fun k hk hl => by
 have hne : k ≠ i := by omega
 simp only [if_neg hne] at hl; simp only [upd, if_neg hne]; exact h.val k hk hl
theorem NI.call (h : NI C ts typ frm to tn x W l f w) (hl : l 13 = false) {v : Value} {e : Ending} (hP : NodP ts typ frm to tn x w e w') (he : e = .returned v) (hnb : ∀ g, bA x g → g < W.heap.size) : NI C ts typ frm to tn x W (fun k => if k = 13 then true else l k) (upd f 13 v) w' := by
 obtain ⟨ov, nm, e1, e2, e3, e4⟩ := hP
 have hB := h.bel hl
 refine ⟨h.vals (by omega) v, (Chg.of hB).trans e4, fun h1 => by simp at h1, ?_⟩
 obtain ⟨ov0, nm0, a, b, c, d, g, o⟩ := h.ans
 have n14 : l 14 = false := by cases e : l 14 with | false => rfl | true => have := (b e).1; rw [hl] at this; cases this
 have n15 : l 15 = false := by cases e : l 15 with | false => rfl | true => have := (c e).1; rw [n14] at this; cases this
 have n18 : l 18 = false := by cases e : l 18 with | false => rfl | true => have := (o e).1; rw [n15] at this; cases this
 have hv : v = .tuple #[.agg (cNX x ov nm), .bool (!l7bad ts typ frm to tn x.e)] := by
  have e5 := he.symm.trans e1
  injection e5
 have key : NA ts typ frm to tn x W true (l 14) (l 15) (l 16) (l 17) (l 18) v (f 14) (f 15) (f 16) (f 17) w' := by
  refine ⟨ov, nm, fun _ => ⟨hv, e3, e2⟩, fun h1 => (by rw [n14] at h1; cases h1), fun h1 => (by rw [n15] at h1; cases h1), d, fun h1 => ?_, fun h1 => by rw [n18] at h1; cases h1⟩
  obtain ⟨z, g1, g2, g3⟩ := g h1
  refine ⟨z, g1, g2, ?_⟩
  rw [n18] at g3 ⊢
  have hz : z < w.heap.size := (Array.getElem?_eq_some_iff.1 g3).1
  rw [e4.block z hz fun hb => by have := hnb z hb; omega]
  exact g3
 simpa [upd] using key
theorem NI.mv (h : NI C ts typ frm to tn x W l f w) (hl : l 13 = true) {v : Value} (hv : v = f 13) : NI C ts typ frm to tn x W (fun k => if k = 14 then true else l k) (upd f 14 v) w := by
 refine ⟨h.vals (by omega) v, h.chg, fun h1 => by simp [hl] at h1, ?_⟩
 obtain ⟨ov, nm, a, b, c, d, g, o⟩ := h.ans
 have key : NA ts typ frm to tn x W (l 13) true (l 15) (l 16) (l 17) (l 18) (f 13) v (f 15) (f 16) (f 17) w := ⟨ov, nm, a, fun _ => ⟨hl, hv.trans (a hl).1⟩, fun h1 => ⟨rfl, (c h1).2⟩, d, g, o⟩
 simpa [upd] using key
theorem NI.ex0 (h : NI C ts typ frm to tn x W l f w) (hl : l 14 = true) {v : Value} {ov nm : ByteArray} (h14 : f 14 = .tuple #[.agg (cNX x ov nm), .bool (!l7bad ts typ frm to tn x.e)]) (hv : v = .agg (cNX x ov nm)) : NI C ts typ frm to tn x W (fun k => if k = 15 then true else l k) (upd f 15 v) w := by
 refine ⟨h.vals (by omega) v, h.chg, fun h1 => h.bel (by simpa using h1), ?_⟩
 obtain ⟨ov', nm', a, b, c, d, g, o⟩ := h.ans
 have e : Value.agg (cNX x ov nm) = .agg (cNX x ov' nm') := by
  have e1 := h14.symm.trans (b hl).2
  injection e1 with e1
  have := congrArg (fun y : Array Value => y[0]?) e1
  simpa using this
 have key : NA ts typ frm to tn x W (l 13) (l 14) true (l 16) (l 17) (l 18) (f 13) (f 14) v (f 16) (f 17) w := ⟨ov', nm', a, b, fun _ => ⟨hl, hv.trans e⟩, d, g, fun h1 => ⟨rfl, (o h1).2⟩⟩
 simpa [upd] using key
theorem NI.ex1 (h : NI C ts typ frm to tn x W l f w) {v : Value} (hv : v = .bool (!l7bad ts typ frm to tn x.e)) : NI C ts typ frm to tn x W (fun k => if k = 16 then true else l k) (upd f 16 v) w := by
 refine ⟨h.vals (by omega) v, h.chg, fun h1 => h.bel (by simpa using h1), ?_⟩
 obtain ⟨ov', nm', a, b, c, d, g, o⟩ := h.ans
 have key : NA ts typ frm to tn x W (l 13) (l 14) (l 15) true (l 17) (l 18) (f 13) (f 14) (f 15) v (f 17) w := ⟨ov', nm', a, b, c, fun _ => hv, g, o⟩
 simpa [upd] using key
theorem NI.lay (h : NI C ts typ frm to tn x W l f w) (hl : l 17 = false) : NI C ts typ frm to tn x W (fun k => if k = 17 then true else l k) (upd f 17 (.pointer (some ⟨w.heap.size, 0, none⟩))) (w.alloc (.cells cNZ 50)) := by
 have hb : Below w.heap.size w (w.alloc (.cells cNZ 50)) := (Below.refl _ _).alloc (Nat.le_refl _) _
 refine ⟨h.vals (by omega) _, h.chg.trans (Chg.of hb), fun h1 => ?_, ?_⟩
 ·have h2 := h.bel (by simpa using h1)
  exact h2.trans (hb.mono h2.size)
 obtain ⟨ov', nm', a, b, c, d, g, o⟩ := h.ans
 have n18 : l 18 = false := by cases e : l 18 with | false => rfl | true => have := (o e).2; rw [hl] at this; cases this
 have key : NA ts typ frm to tn x W (l 13) (l 14) (l 15) (l 16) true (l 18) (f 13) (f 14) (f 15) (f 16) (.pointer (some ⟨w.heap.size, 0, none⟩)) (w.alloc (.cells cNZ 50)) := by
  refine ⟨ov', nm', fun h1 => ⟨(a h1).1, (a h1).2.1.below hb, (a h1).2.2⟩, b, c, d, fun _ => ⟨w.heap.size, rfl, h.chg.size, ?_⟩, fun h1 => by rw [n18] at h1; cases h1⟩
  rw [n18]; exact heap_alloc_new w _
 simpa [upd] using key
theorem heap_set5 {w : World} {z : Nat} {T : TypeId} {a b c d e a' b' c' d' e' : Value} (h : w.heap[z]? = some (.cells #[a, b, c, d, e] T (0, 0))) : (((((w.setCell ⟨z, 0, none⟩ a').setCell ⟨z, 1, none⟩ b').setCell ⟨z, 2, none⟩ c').setCell ⟨z, 3, none⟩ d').setCell ⟨z, 4, none⟩ e').heap[z]? = some (.cells #[a', b', c', d', e'] T (0, 0)) := by
 unfold World.setCell
 simp [Array.getElem?_modify, h]
theorem NI.store (h : NI C ts typ frm to tn x W l f w) (h15 : l 15 = true) (h17 : l 17 = true) (h18 : l 18 = false) {z : Nat} {ov nm : ByteArray} (hz : f 17 = .pointer (some ⟨z, 0, none⟩)) (hf : f 15 = .agg (cNX x ov nm)) (hnb : ∀ g, bA x g → g < W.heap.size) (hzx : x.e.allow ≠ [] → ∃ g, x.adA = some ⟨g, 0, none⟩) (v : Value) : NI C ts typ frm to tn x W (fun k => if k = 18 then true else l k) (upd f 18 v) (((((w.setCell ⟨z, 0, none⟩ (.int .i64 x.e.kind)).setCell ⟨z, 1, none⟩ (.slice x.adA x.e.allow.length x.capA)).setCell ⟨z, 2, none⟩ (.string ov)).setCell ⟨z, 3, none⟩ (.string nm)).setCell ⟨z, 4, none⟩ (.slice x.adK x.e.kids.length x.capK)) := by
 obtain ⟨ov', nm', a, b, c, d, g, o⟩ := h.ans
 obtain ⟨z', g1, g2, g3⟩ := g h17
 rw [hz] at g1
 injection g1 with g1; injection g1 with g1; injection g1 with g1
 subst g1
 rw [h18] at g3
 have g3 : w.heap[z]? = some (.cells cNZ 50 (0, 0)) := g3
 have hc : Chg (fun k => k = z) w (((((w.setCell ⟨z, 0, none⟩ (.int .i64 x.e.kind)).setCell ⟨z, 1, none⟩ (.slice x.adA x.e.allow.length x.capA)).setCell ⟨z, 2, none⟩ (.string ov)).setCell ⟨z, 3, none⟩ (.string nm)).setCell ⟨z, 4, none⟩ (.slice x.adK x.e.kids.length x.capK)) :=
  ((((Chg.set (S := fun k => k = z) _ rfl).trans (Chg.set _ rfl)).trans (Chg.set _ rfl)).trans (Chg.set _ rfl)).trans (Chg.set _ rfl)
 obtain ⟨w5, hw5⟩ : ∃ w5, w5 = ((((w.setCell ⟨z, 0, none⟩ (.int .i64 x.e.kind)).setCell ⟨z, 1, none⟩ (.slice x.adA x.e.allow.length x.capA)).setCell ⟨z, 2, none⟩ (.string ov)).setCell ⟨z, 3, none⟩ (.string nm)).setCell ⟨z, 4, none⟩ (.slice x.adK x.e.kids.length x.capK) := ⟨_, rfl⟩
 have g5 : w5.heap[z]? = some (.cells (cNX x ov nm) 50 (0, 0)) := by rw [hw5]; exact heap_set5 g3
 rw [← hw5] at hc ⊢
 have h14 := (c h15).1
 have h13 := (b h14).1
 have eo : cNX x ov nm = cNX x ov' nm' := by
  have := hf.symm.trans (c h15).2
  injection this
 refine ⟨h.vals (by omega) v, ⟨h.chg.base.trans hc.base, fun k hk hn => ?_, fun k hk hf => ?_⟩, fun h1 => by simp [h13] at h1, ?_⟩
 ·have := h.chg.size
  rw [hc.block k (by omega) (by omega), h.chg.block k hk hn]
 ·have := h.chg.size
  exact hc.free k (by omega) (h.chg.free k hk hf)
 have key : NA ts typ frm to tn x W (l 13) (l 14) (l 15) (l 16) (l 17) true (f 13) (f 14) (f 15) (f 16) (f 17) w5 := by
  refine ⟨ov', nm', fun h1 => ⟨(a h1).1, (a h1).2.1.chgA hc fun hne => ?_, (a h1).2.2⟩, b, c, d, fun _ => ⟨z, hz, g2, by rw [g5, eo]; rfl⟩, fun _ => ⟨h15, h17⟩⟩
  have hne2 : x.e.allow ≠ [] := fun e => by rw [e] at hne; exact hne rfl
  obtain ⟨g, e⟩ := hzx hne2
  exact ⟨g, e, fun e2 => by have := hnb g ⟨hne2, e⟩; omega⟩
 simpa [upd] using key
end
end Go.Proofs.YtmghabcaakgjiaaGreat
