/- Contract of the document's Pruned. -/
import Derived.Test.YtmghabcaakgjiaaGreatImplPruned
import Derived.Test.YtmghabcaakgjiaaGreatCopyN
import Derived.Test.YtmghabcaakgjiaaGreatSpecSchema11
import Derived.Deep.DeepMust
namespace Go.Proofs.YtmghabcaakgjiaaGreat
set_option maxRecDepth 100000
set_option linter.unusedVariables false
open Go.ChangeShapes Go.WideShapes Go.ChangeAt Go.RowKit Go.Maps
open Pl
theorem SlT.row {w : World} {b off : Nat} {rs : List TR} (h : SlT w (some ⟨b, off, none⟩) rs) {k : Nat} (hk : k < rs.length) : AtT w b (off + k * 2) rs[k] ∧ b < w.heap.size := by
 rcases h with h | ⟨b', off', e, hb, hr, -⟩
 ·rw [h] at hk; simp at hk
 ·injection e with e; injection e with e1 e2
  subst e1; subst e2
  exact ⟨hr k hk, hb⟩
theorem SlR.row {w : World} {ad : Option Addr} {rs : List RR} (h : SlR w ad rs) {k : Nat} (hk : k < rs.length) : ∃ b off, ad = some ⟨b, off, none⟩ ∧ AtR w b (off + k * 2) rs[k] ∧ b < w.heap.size := by
 rcases h with h | ⟨b', off', e, hb, hr, -⟩
 ·rw [h] at hk; simp at hk
 ·exact ⟨b', off', e, hr k hk, hb⟩
theorem SlE.row {w : World} {ad : Option Addr} {rs : List ER} (h : SlE w ad rs) {k : Nat} (hk : k < rs.length) : ∃ b off, ad = some ⟨b, off, none⟩ ∧ At5 w b (off + k * 5) rs[k] ∧ b < w.heap.size := by
 rcases h with h | ⟨b', off', e, hb, hr, -⟩
 ·rw [h] at hk; simp at hk
 ·exact ⟨b', off', e, hr k hk, hb⟩
theorem AtT.kept {w w' : World} {b off : Nat} {t : TR} (h : AtT w b off t) (hb : b < w.heap.size) (hB : Below w.heap.size w w') : AtT w' b off t := h.later hb hB
end Go.Proofs.YtmghabcaakgjiaaGreat
