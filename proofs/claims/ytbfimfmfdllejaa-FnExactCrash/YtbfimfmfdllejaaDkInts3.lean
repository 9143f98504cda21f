/- Lists of numbers: those that can be read, and one of the call's own that stays apart. -/
import Derived.Test.YtbfimfmfdllejaaDkInts2
import Derived.Test.YtbfimfmfdllejaaOpenDk
import Derived.ChangeSlices
namespace Go.Proofs.Ytbfimfmfdllejaa
open Go.ChangeShapes Go.WideShapes Go.ChangeAt Go.RowKit Go.Joins Go.Deep

theorem open_int64s {H : Type} {enc : TypeId × Value → H} {W : World} {base : Nat} {sp : Nat → Bool} {held : Bool} {fuel : Nat} {ad : Option Addr} {len cap : Nat} {x : DataW H × List MemPlace}
    (h : DataW.trod enc Try.prog W base sp held fuel 42 [.slice ad len cap] = some x) : ∃ ks : List Int, ks.length = len ∧ SlK W ad ks ∧ len ≤ maxLen := by
  rcases open_ints Try.underlying42 Try.underlying2 (by kernel_rfl) h with ⟨hcs, -⟩ | ⟨a, l, c, zs, hcs, -, hlc, hcm, hm, -, hel, hwf⟩
  · simp at hcs
    obtain ⟨rfl, rfl, rfl⟩ := hcs
    exact ⟨[], rfl, .inl rfl, by unfold maxLen; omega⟩
  · simp at hcs
    obtain ⟨rfl, rfl, rfl⟩ := hcs
    have hle : len ≤ zs.length := by rw [hm]; split <;> omega
    by_cases h0 : len = 0
    · subst h0
      exact ⟨[], rfl, .inl rfl, by omega⟩
    have hspot : a.spot = none := by
      have := hel 0 (by omega)
      have e : a.add 0 = a := by simp [Addr.add]
      rw [e] at this
      exact World.cell?_spot this
    obtain ⟨b, off, spot⟩ := a
    simp only at hspot
    subst hspot
    have key : ∀ i (hi : i < zs.length), W.cell? ⟨b, off + i, none⟩ = some (.int .i64 zs[i]) := fun i hi => by
      have := hel i hi
      rw [add_noneD, List.getD_eq_getElem?_getD, List.getElem?_eq_getElem hi] at this
      exact this
    refine ⟨zs.take len, by simp; omega, .inr ⟨b, off, rfl, ?_, fun i hi => ?_⟩, by omega⟩
    · exact World.block_lt_of_cell? W ⟨b, off + 0, none⟩ (key 0 (by omega))
    · rw [List.getElem_take]
      exact key i (by simp at hi; omega)
/-- a list of numbers in a row of the call's own -/
structure KL (W : World) (g : Nat) (ks : List Int) : Prop where
  sl : SlK W (some ⟨g, 0, none⟩) ks
  fr : ks ≠ [] → g < W.heap.size ∧ Free W g
theorem KL.mk' {W : World} {g : Nat} {ks : List Int} (h : SlK W (some ⟨g, 0, none⟩) ks) (hf : Free W g) : KL W g ks := ⟨h, fun hn => ⟨by
  rcases h with h | ⟨b, off, e, hb, -⟩
  · exact absurd h hn
  · injection e with e; injection e with e1 e2; rw [e1]; exact hb, hf⟩⟩
theorem KL.below {W W' : World} {g : Nat} {ks : List Int} (h : KL W g ks) (hB : Below W.heap.size W W') : KL W' g ks :=
  ⟨h.sl.below hB, fun hn => ⟨Nat.lt_of_lt_of_le (h.fr hn).1 hB.size, fun j => keptF hB (h.fr hn).1 ((h.fr hn).2 j)⟩⟩
theorem KL.chg {S : Nat → Prop} {W W' : World} {g : Nat} {ks : List Int} (h : KL W g ks) (hc : Chg S W W') (hn : ks ≠ [] → ¬ S g) : KL W' g ks :=
  ⟨h.sl.chg hc (fun g' o hx e => by injection e with e; injection e with e1 e2; rw [← e1]; exact hn hx), fun hx => ⟨Nat.lt_of_lt_of_le (h.fr hx).1 hc.size, hc.free g (h.fr hx).1 (h.fr hx).2⟩⟩
end Go.Proofs.Ytbfimfmfdllejaa
