/- Contracts of the two functions that look at a list of tuples. -/
import Derived.Test.YtpnjoniolfmbnaaGreatDoorJ3
import Derived.Test.YtpnjoniolfmbnaaGreatDoorAhead
import Derived.WalkSpells
namespace Go.Proofs.YtpnjoniolfmbnaaGreatDoor
open Go.ChangeShapes Go.WideShapes Go.ChangeAt Go.RowKit
open Pl
attribute [local go_sem ↓] Go.wp_at_zero Go.wp_at_succ

def Tp.ok (t : Tp) : Bool := tupB t.a t.b t.r t.c t.d t.s
def Tp.ahead (t u : Tp) : Bool := aheadB t.a t.b t.r t.c t.d t.s u.a u.b u.r u.c u.d u.s

/-- an operation of a region is taken first: the slot that it writes is told -/
theorem takeTo {P : Program} {ops : Array Oper} {Q : Exit → Act → World → Prop} {md : Region.Mode} {S : World → Prop} {i : Nat} {oi : Oper} {v : Value} {fuel : Nat} {listed : Array Bool} {a : Act} {w : World} (d : Nat) (hi : ops[i]? = some oi) (hd : oi.dst = some d)
    (hs : Region.noSelect ops = true) (hf : Region.free md ops listed i = true) (hr : (Region.ready md ops listed).contains i = true)
    (hQ : ∀ c a w, Q (.panic c) (a.put oi.dst v) w → Q (.panic c) a w) (hy : YieldsIf P ops S oi v a) (hS : S w)
    (h : wpAnyH P md ops Q S fuel (listed.setIfInBounds i true) (a.put (some d) v) w) : wpAnyH P md ops Q S (fuel + 1) listed a w :=
  wpAnyH_take hi hs hf hr hQ hy hS (by rw [hd]; exact h)

theorem keepKK {w W w' : World} {b b' o0 o1 o2 o3 o4 o5 o6 o7 o8 o9 o10 o11 n : Nat} {x0 x1 x2 x3 x4 x5 x6 x7 x8 x9 x10 x11 : Value} (hb : b < n)
    (h : W.cell? ⟨b, o0, none⟩ = some x0 ∧ W.cell? ⟨b, o1, none⟩ = some x1 ∧ W.cell? ⟨b, o2, none⟩ = some x2 ∧ W.cell? ⟨b, o3, none⟩ = some x3 ∧ W.cell? ⟨b, o4, none⟩ = some x4 ∧ W.cell? ⟨b, o5, none⟩ = some x5 ∧ W.cell? ⟨b', o6, none⟩ = some x6 ∧ W.cell? ⟨b', o7, none⟩ = some x7 ∧ W.cell? ⟨b', o8, none⟩ = some x8 ∧ W.cell? ⟨b', o9, none⟩ = some x9 ∧ W.cell? ⟨b', o10, none⟩ = some x10 ∧ W.cell? ⟨b', o11, none⟩ = some x11 ∧ b' < W.heap.size ∧ n ≤ W.heap.size ∧ Below n w W)
    (hB : Below W.heap.size W w') : w'.cell? ⟨b, o0, none⟩ = some x0 ∧ w'.cell? ⟨b, o1, none⟩ = some x1 ∧ w'.cell? ⟨b, o2, none⟩ = some x2 ∧ w'.cell? ⟨b, o3, none⟩ = some x3 ∧ w'.cell? ⟨b, o4, none⟩ = some x4 ∧ w'.cell? ⟨b, o5, none⟩ = some x5 ∧ w'.cell? ⟨b', o6, none⟩ = some x6 ∧ w'.cell? ⟨b', o7, none⟩ = some x7 ∧ w'.cell? ⟨b', o8, none⟩ = some x8 ∧ w'.cell? ⟨b', o9, none⟩ = some x9 ∧ w'.cell? ⟨b', o10, none⟩ = some x10 ∧ w'.cell? ⟨b', o11, none⟩ = some x11 ∧ b' < w'.heap.size ∧ n ≤ w'.heap.size ∧ Below n w w' := by
  obtain ⟨h0, h1, h2, h3, h4, h5, h6, h7, h8, h9, h10, h11, hb', hn, hW⟩ := h
  have hc : ∀ o, w'.cell? ⟨b, o, none⟩ = W.cell? ⟨b, o, none⟩ := fun o => hB.cell (p := ⟨b, o, none⟩) (Nat.lt_of_lt_of_le hb hn)
  have hd : ∀ o, w'.cell? ⟨b', o, none⟩ = W.cell? ⟨b', o, none⟩ := fun o => hB.cell (p := ⟨b', o, none⟩) hb'
  exact ⟨by rw [hc]; exact h0, by rw [hc]; exact h1, by rw [hc]; exact h2, by rw [hc]; exact h3, by rw [hc]; exact h4, by rw [hc]; exact h5, by rw [hd]; exact h6, by rw [hd]; exact h7, by rw [hd]; exact h8, by rw [hd]; exact h9, by rw [hd]; exact h10, by rw [hd]; exact h11, Nat.lt_of_lt_of_le hb' hB.size, Nat.le_trans hn hB.size, hW.trans (hB.mono hn)⟩

end Go.Proofs.YtpnjoniolfmbnaaGreatDoor
