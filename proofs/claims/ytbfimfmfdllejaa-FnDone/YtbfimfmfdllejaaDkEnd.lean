/- What the laws over disks share: a disk in its box, kept while others are made. -/
import Derived.Test.YtbfimfmfdllejaaImplFd8
import Derived.Test.YtbfimfmfdllejaaOpenDk
namespace Go.Proofs.Ytbfimfmfdllejaa
open Go.ChangeShapes Go.WideShapes Go.ChangeAt Go.RowKit Go.Maps

theorem dk_self {w W : World} {adL adS adO : Option Addr} {ls ss : List Fl} {os : List Dop} (h : Dk w adL adS adO ls ss os W) : Dk W adL adS adO ls ss os W := ⟨Below.refl _ _, h.live, h.safe, h.ops⟩
theorem small2 {ls : List Fl} (h : ∀ a ∈ ls, a.small) : ∀ f ∈ ls, f.n.size ≤ maxLen ∧ f.d.size ≤ 4194304 := fun f hf => by
  obtain ⟨h1, h2⟩ := h f hf
  exact ⟨by unfold maxLen; omega, by omega⟩
theorem keepS {w w4 w' w'' : World} {a b c d e f : Value}
    (h : w'.cell? ⟨w.heap.size, 0, none⟩ = some a ∧ w'.cell? ⟨w.heap.size, 1, none⟩ = some b ∧ w'.cell? ⟨w.heap.size, 2, none⟩ = some c ∧ w'.cell? ⟨w4.heap.size, 0, none⟩ = some d ∧ w'.cell? ⟨w4.heap.size, 1, none⟩ = some e ∧ w'.cell? ⟨w4.heap.size, 2, none⟩ = some f ∧ w.heap.size < w'.heap.size ∧ w4.heap.size < w'.heap.size ∧ Below w.heap.size w w') (hB : Below w'.heap.size w' w'') :
    w''.cell? ⟨w.heap.size, 0, none⟩ = some a ∧ w''.cell? ⟨w.heap.size, 1, none⟩ = some b ∧ w''.cell? ⟨w.heap.size, 2, none⟩ = some c ∧ w''.cell? ⟨w4.heap.size, 0, none⟩ = some d ∧ w''.cell? ⟨w4.heap.size, 1, none⟩ = some e ∧ w''.cell? ⟨w4.heap.size, 2, none⟩ = some f ∧ w.heap.size < w''.heap.size ∧ w4.heap.size < w''.heap.size ∧ Below w.heap.size w w'' := by
  obtain ⟨h0, h1, h2, h3, h4, h5, l1, l2, hb⟩ := h
  exact ⟨kept hB l1 h0, kept hB l1 h1, kept hB l1 h2, kept hB l2 h3, kept hB l2 h4, kept hB l2 h5, Nat.lt_of_lt_of_le l1 hB.size, Nat.lt_of_lt_of_le l2 hB.size, hb.trans (hB.mono hb.size)⟩
end Go.Proofs.Ytbfimfmfdllejaa
