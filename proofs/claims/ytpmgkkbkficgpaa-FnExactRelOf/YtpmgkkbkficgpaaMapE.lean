/- 'm[k] = append(m[k], v)': the entry is taken, then stored. -/
import Derived.Test.YtpmgkkbkficgpaaRelKey
import Derived.WideKeyEntry
namespace Go.Proofs.Ytpmgkkbkficgpaa
open Go.ChangeShapes Go.WideShapes Go.ChangeAt Go.RowKit Go.Maps
open Go.ChangeMaps (setBlock heap_setBlock_same heap_setBlock_other)

section
variable {K : Type} {enc : K → Value} {P : Program} {k : TypeId} {w : World} {b n : Nat} {M : K → Option Value}
theorem MapV.of_block {w' : World} (h : MapV enc P k w b n M) (e : w'.heap[b]? = w.heap[b]?) : MapV enc P k w' b n M := by
  obtain ⟨D, ⟨es, clock, hb, r⟩, h2⟩ := h
  exact ⟨D, ⟨es, clock, e.trans hb, r⟩, h2⟩
theorem grown_setBlock {w : World} {b : Nat} {es es' : Array MapEntry} {c c' : Nat} (hb : w.heap[b]? = some (.map es c)) : w.grownBy (setBlock w b (.map es' c')) (some b) :=
  ⟨rfl, rfl, rfl, by simp [setBlock], fun i _ hi => heap_setBlock_other hb _ (fun e => hi (by rw [e]))⟩
theorem MapV.entry [DecidableEq K] {t e : TypeId} (h : MapV enc P k w b n M) (L : WideMaps.KeyLaw P k) (hinj : ∀ x y, enc x = enc y → x = y) (ht : P.underlying t = some (.map k e)) {z : Value} (hz : ∀ u : World, (zeroValue e).run P u = .ok z u) (hn : n < maxLen) {x : K} {kl : Lit} (hkey : keyOf P k (enc x) = some kl) :
    ∃ (st : Nat) (w1 : World), (Instr.mapEntry t (.map (some b)) (enc x)).run P w = .ok (.tuple #[(M x).getD z, goInt st]) w1 ∧ w.grownBy w1 (some b) ∧
      ∀ (w2 : World) (val : Value), w2.heap[b]? = w1.heap[b]? → ∃ w3, (Instr.entryStore t (.map (some b)) (goInt st) val).run P w2 = .ok () w3 ∧ MapV enc P k w3 b (n + 1) (updM M x (some val)) ∧ w2.grownBy w3 (some b) := by
  have LK := Keyed.of_law L
  have hlook := h.look LK ht (hz w) hkey
  have hst := fun v => h.store LK hinj ht hn hkey v
  obtain ⟨D, ⟨es, clock, hb, F, hs, hD⟩, h2⟩ := h
  obtain ⟨v0, st, es1, clock1, hrun, hv0, hback⟩ := WideElems.entry_then_store L ht hz hb F hkey
  have hb1 : (setBlock w b (.map es1 clock1)).heap[b]? = some (.map es1 clock1) := heap_setBlock_same hb _
  have ev : v0 = (M x).getD z := by
    have hl := hlook
    rcases Maps.fit_look false LK ht (hz w) hb F hkey with ⟨hrun2, hno, -⟩ | ⟨e0, y, hmem, hek, hrun2, -, -, -⟩
    · rw [hl] at hrun2
      injection hrun2 with e1
      rcases hv0 with ⟨e0, hm, hk0, -⟩ | ⟨-, hz0⟩
      · exact absurd hk0 (hno e0 hm)
      · rw [hz0, e1]; rfl
    · rw [hl] at hrun2
      injection hrun2 with e1
      rcases hv0 with ⟨e1', hm, hk0, hv⟩ | ⟨hno, -⟩
      · have hnd := F.stamped.2.2
        have : e1' = e0 := by
          have h3 : e1'.key = e0.key := by rw [hk0, hek]
          obtain ⟨i, hi, hie⟩ := List.mem_iff_getElem.1 hm
          obtain ⟨j, hj, hje⟩ := List.mem_iff_getElem.1 hmem
          have h4 : (es.toList.map (·.key))[i]'(by simpa using hi) = (es.toList.map (·.key))[j]'(by simpa using hj) := by simp only [List.getElem_map, hie, hje]; exact h3
          have h6 := List.pairwise_iff_getElem.1 hnd
          have h5 : i = j := by
            rcases Nat.lt_trichotomy i j with hl | hl | hl
            · exact absurd h4 (h6 i j _ _ hl)
            · exact hl
            · exact absurd h4.symm (h6 j i _ _ hl)
          subst h5
          rw [← hie, ← hje]
        rw [hv, this, e1]; rfl
      · exact absurd hek (hno e0 hmem)
  refine ⟨st, _, by rw [hrun, ev], grown_setBlock hb, fun w2 val hw2 => ?_⟩
  have hw2' : w2.heap[b]? = some (.map es1 clock1) := hw2.trans hb1
  obtain ⟨es', clock', hr1, hr2⟩ := hback w2 val hw2'
  obtain ⟨w', hr3, hM', -⟩ := hst val
  rw [hr2] at hr3
  injection hr3 with _ e3
  refine ⟨_, hr1, hM'.of_block ?_, grown_setBlock hw2'⟩
  rw [← e3, heap_setBlock_same hb, heap_setBlock_same hw2']
end

section
variable {K : Type} {enc : K → Value} {P : Program} (w : World) {ops : Array Oper} {rest : List Oper} {o : Oper} {a : Act} {Q : Exit → Act → World → Prop}
theorem wpList_entryV [DecidableEq K] (hg : o.guard = none) (m x : Operand) (t : TypeId) (hop : o.op = Op.mapEntry t m x) (k e : TypeId) (L : WideMaps.KeyLaw P k) (hinj : ∀ x y, enc x = enc y → x = y) (ht : P.underlying t = some (.map k e)) {z : Value} (hz : ∀ u : World, (zeroValue e).run P u = .ok z u) (b n : Nat) (M : K → Option Value)
    (hm : a.eval m = .map (some b)) (hV : MapV enc P k w b n M) (hn : n < maxLen) (y : K) (kl : Lit) (hx : a.eval x = enc y) (hkey : keyOf P k (enc y) = some kl)
    (hK : ∀ (st : Nat) (w1 : World), w.grownBy w1 (some b) → (∀ (w2 : World) (val : Value), w2.heap[b]? = w1.heap[b]? → ∃ w3, (Instr.entryStore t (.map (some b)) (goInt st) val).run P w2 = .ok () w3 ∧ MapV enc P k w3 b (n + 1) (updM M y (some val)) ∧ w2.grownBy w3 (some b)) →
      wpList P ops Q rest (a.put o.dst (.tuple #[(M y).getD z, goInt st])) w1) : wpList P ops Q (o :: rest) a w := by
  refine wpList_plain hg fun K' hK' => ?_
  obtain ⟨st, w1, hrun, h1, h2⟩ := hV.entry L hinj ht hz hn hkey
  unfold Oper.wp
  simp [execOp, hop, hm, hx, hrun, Result.andThen]
  exact hK' _ _ (hK st w1 h1 h2)
theorem wpList_entryStoreV (hg : o.guard = none) (m s v : Operand) (t : TypeId) (hop : o.op = Op.entryStore t m s v) (b st : Nat) (hm : a.eval m = .map (some b)) (hs : a.eval s = goInt st) (u : Value) (hv : a.eval v = u) (k : TypeId) (n : Nat) (M : K → Option Value)
    (hback : ∃ w3, (Instr.entryStore t (.map (some b)) (goInt st) u).run P w = .ok () w3 ∧ MapV enc P k w3 b n M ∧ w.grownBy w3 (some b))
    (hK : ∀ w', MapV enc P k w' b n M → w.grownBy w' (some b) → wpList P ops Q rest (a.put o.dst undef) w') : wpList P ops Q (o :: rest) a w := by
  refine wpList_plain hg fun K' hK' => ?_
  obtain ⟨w3, hrun, h1, h2⟩ := hback
  unfold Oper.wp
  simp [execOp, hop, hm, hs, hv, hrun, Result.andThen]
  exact hK' _ _ (hK w3 h1 h2)
end
end Go.Proofs.Ytpmgkkbkficgpaa
