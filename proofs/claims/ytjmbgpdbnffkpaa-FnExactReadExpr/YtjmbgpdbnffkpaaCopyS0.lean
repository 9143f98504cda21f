/- Rows of nodes that grow. -/
import Derived.Test.YtjmbgpdbnffkpaaCopyI0
namespace Go.Proofs.Ytjmbgpdbnffkpaa
open Go.ChangeShapes Go.WideShapes Go.ChangeAt Go.RowKit Go.Maps
open Pl

theorem SlA.grown {w w' : World} {row : Option Nat} {ad : Option Addr} {xs : List Al} (h : SlA w ad xs) (hg : w.grownBy w' row) (hn : ∀ g o, xs ≠ [] → ad = some ⟨g, o, none⟩ → some g ≠ row) : SlA w' ad xs := by
  rcases h with h | ⟨b, off, e, hb, hr⟩
  · exact .inl h
  · by_cases hx : xs = []
    · exact .inl hx
    · exact .inr ⟨b, off, e, Nat.lt_of_lt_of_le hb hg.size, fun i hi => ⟨hg.cell (hr i hi).1 (hn b off hx e), hg.cell (hr i hi).2 (hn b off hx e)⟩⟩
theorem SlI.grown {w w' : World} {row : Option Nat} {ad : Option Addr} {zs : List Int} (h : SlI w ad zs) (hg : w.grownBy w' row) (hn : ∀ g o, zs ≠ [] → ad = some ⟨g, o, none⟩ → some g ≠ row) : SlI w' ad zs := by
  rcases h with h | ⟨b, off, e, hb, hr⟩
  · exact .inl h
  · by_cases hx : zs = []
    · exact .inl hx
    · exact .inr ⟨b, off, e, Nat.lt_of_lt_of_le hb hg.size, fun i hi => hg.cell (hr i hi) (hn b off hx e)⟩
/-- a copied node beside the row v: its lists lie elsewhere -/
structure Beside (w : World) (v : Value) (q : ER) : Prop where
  ok : q.ok w
  zA : q.e.allow ≠ [] → ∃ g, q.adA = some ⟨g, 0, none⟩
  zK : q.e.kids ≠ [] → ∃ g, q.adK = some ⟨g, 0, none⟩
  lt : ∀ g, inR q g → g < w.heap.size ∧ v.ownBlock ≠ some g
theorem Beside.below {w w' : World} {v : Value} {q : ER} (h : Beside w v q) (hb : Below w.heap.size w w') : Beside w' v q :=
  ⟨h.ok.below hb, h.zA, h.zK, fun g hg => ⟨Nat.lt_of_lt_of_le (h.lt g hg).1 hb.size, (h.lt g hg).2⟩⟩
theorem Beside.grown {w w' : World} {v v' : Value} {q : ER} (h : Beside w v q) (hg : w.grownBy w' v.ownBlock) (hv : v'.ownBlock = v.ownBlock ∨ v'.ownBlock = some w.heap.size) : Beside w' v' q := by
  refine ⟨⟨h.ok.1.grown hg fun g o hne e => ?_, h.ok.2.grown hg fun g o hne e => ?_⟩, h.zA, h.zK, fun g hi => ⟨Nat.lt_of_lt_of_le (h.lt g hi).1 hg.size, ?_⟩⟩
  · obtain ⟨g0, e0⟩ := h.zA hne
    rw [e0] at e; injection e with e; injection e with e1 e2
    subst e1
    exact fun e => (h.lt g0 (.inl ⟨hne, e0⟩)).2 e.symm
  · obtain ⟨g0, e0⟩ := h.zK hne
    rw [e0] at e; injection e with e; injection e with e1 e2
    subst e1
    exact fun e => (h.lt g0 (.inr ⟨hne, e0⟩)).2 e.symm
  · rcases hv with e | e
    · rw [e]; exact (h.lt g hi).2
    · rw [e]; intro e2; injection e2 with e2; have := (h.lt g hi).1; omega
theorem ownsE {w : World} {base n : Nat} {v : Value} {qs : List ER} (h : w.ownsRow base 56 5 v n (rows5 qs)) (hn : n = qs.length) (hok : ∀ q ∈ qs, q.ok w) : ∃ ad cap, v = .slice ad qs.length cap ∧ SlE w ad qs := by
  subst hn
  have h2 := h
  rcases h.2 with ⟨rfl, h0⟩ | ⟨g, cap, cur, rfl, hbg, hg, hnc, -⟩
  · exact ⟨none, 0, by rw [h0], .inl (List.length_eq_zero_iff.1 h0)⟩
  · have hlt := h2.lt g rfl
    refine ⟨some ⟨g, 0, none⟩, cap, rfl, .inr ⟨g, 0, rfl, hlt.2, fun i hi => ?_, hok⟩⟩
    have hl := rows5_len qs
    have key : ∀ j, j < 5 → w.cell? ⟨g, 0 + i * 5 + j, none⟩ = (qs[i]).row[j]? := fun j hj => by
      rw [h2.cellAt (0 + i * 5 + j) (by omega), ← rows5_at qs i hi j hj, Nat.zero_add]
    exact ⟨key 0 (by omega), key 1 (by omega), key 2 (by omega), key 3 (by omega), key 4 (by omega)⟩
theorem row5_news (w : World) (q : ER) : ∀ j u, q.row[j]? = some u → (w.alloc (.cells #[.int .i64 q.e.kind, .slice q.adA q.e.allow.length q.capA, .string q.e.over, .string q.e.name, .slice q.adK q.e.kids.length q.capK] 56)).cell? ((⟨w.heap.size, 0, none⟩ : Addr).add j) = some u := by
  intro j u hu
  rw [show (⟨w.heap.size, 0, none⟩ : Addr).add j = ⟨w.heap.size, 0 + j, none⟩ by simp [Addr.add]; omega, Nat.zero_add]
  have := World.cell?_alloc_mark w #[.int .i64 q.e.kind, .slice q.adA q.e.allow.length q.capA, .string q.e.over, .string q.e.name, .slice q.adK q.e.kids.length q.capK] 56 (0, 0) j
  rw [this]
  simpa [ER.row] using hu
theorem row5_one (q : ER) : ∀ u ∈ q.row, u.oneCell' = true := by
  intro u hu
  simp [ER.row] at hu
  rcases hu with rfl | rfl | rfl | rfl | rfl <;> rfl
end Go.Proofs.Ytjmbgpdbnffkpaa
