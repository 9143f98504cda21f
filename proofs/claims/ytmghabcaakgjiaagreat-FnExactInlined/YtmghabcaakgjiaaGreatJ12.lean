/- Contracts of both sides' functions that look a text up in a list of texts. -/
import Derived.Test.YtmghabcaakgjiaaGreatJ3
import Derived.Test.YtmghabcaakgjiaaGreatJ1
import Derived.Maps.OwnSet
import Derived.DeepKeys4
import Derived.WideKeyEntry
namespace Go.Proofs.YtmghabcaakgjiaaGreat
open Go.ChangeShapes Go.WideShapes Go.ChangeAt Go.RowKit
open Pl

end Go.Proofs.YtmghabcaakgjiaaGreat

/- Maps in memory as functions: which value lies at a key, whatever its type. -/
namespace Go.Proofs.YtmghabcaakgjiaaGreat
open Go.ChangeShapes Go.WideShapes Go.ChangeAt Go.RowKit Go.Maps

/-- every value reads as itself -/
def anyR (v : Value) : Option (DataW Value × List MemPlace) := some (.held v, [])

section
variable {K : Type} (enc : K → Value) (P : Program) (k : TypeId)
/-- what the datum says at a key -/
def SaysAt (D : DataW Value) (kl : Lit) : Option Value → Prop
  | none => Maps.has D kl = false ∧ ∀ z, D.atKey kl z = z
  | some v => Maps.has D kl = true ∧ ∀ z, D.atKey kl z = .held v
/-- block b is a map of at most n entries that holds M -/
def MapV (w : World) (b n : Nat) (M : K → Option Value) : Prop :=
  ∃ D : DataW Value, w.ownsMap P k anyR b n D ∧ ∀ x kl, keyOf P k (enc x) = some kl → SaysAt D kl (M x)
def updM [DecidableEq K] (M : K → Option Value) (x : K) (v : Option Value) : K → Option Value := fun y => if y = x then v else M y
end

section
variable {K : Type} {enc : K → Value} {P : Program} {k : TypeId} {w : World} {b n : Nat} {M : K → Option Value}
theorem updM_same [DecidableEq K] (M : K → Option Value) (x : K) (v : Option Value) : updM M x v x = v := by simp [updM]
theorem updM_other [DecidableEq K] {M : K → Option Value} {x y : K} {v : Option Value} (h : y ≠ x) : updM M x v y = M y := by simp [updM, h]

theorem mapV_made (enc : K → Value) (P : Program) (k : TypeId) (w : World) : MapV enc P k (w.alloc (.map #[] 0)) w.heap.size 0 (fun _ => none) :=
  ⟨.map [], World.ownsMap_made w P k anyR, fun _ kl _ => ⟨rfl, fun z => by simp [DataW.atKey]⟩⟩
theorem MapV.lt (h : MapV enc P k w b n M) : b < w.heap.size := by obtain ⟨D, h1, -⟩ := h; exact h1.lt
theorem MapV.mono (h : MapV enc P k w b n M) {n' : Nat} (hn : n ≤ n') : MapV enc P k w b n' M := by obtain ⟨D, h1, h2⟩ := h; exact ⟨D, h1.mono hn, h2⟩
theorem MapV.kept {w' : World} {row : Option Nat} (h : MapV enc P k w b n M) (hg : w.grownBy w' row) (hne : some b ≠ row) : MapV enc P k w' b n M := by
  obtain ⟨D, h1, h2⟩ := h; exact ⟨D, h1.kept hg hne, h2⟩
theorem MapV.below {w' : World} (h : MapV enc P k w b n M) (hB : Below w.heap.size w w') : MapV enc P k w' b n M :=
  h.kept (row := none) ⟨hB.os, hB.tape, hB.output, hB.size, fun k hk _ => hB.block k hk⟩ (by simp)
theorem MapV.setCell (h : MapV enc P k w b n M) {a : Addr} (ha : b ≠ a.block) (u : Value) : MapV enc P k (w.setCell a u) b n M := by
  obtain ⟨D, h1, h2⟩ := h; exact ⟨D, h1.setCell ha u, h2⟩

theorem MapV.look {t e : TypeId} (h : MapV enc P k w b n M) (L : Keyed P k) (ht : P.underlying t = some (.map k e)) {z : Value} (hz : (zeroValue e).run P w = .ok z w) {x : K} {kl : Lit} (hkey : keyOf P k (enc x) = some kl) :
    (Instr.lookup t (.map (some b)) (enc x) false).run P w = .ok ((M x).getD z) w := by
  obtain ⟨D, h1, h2⟩ := h
  obtain ⟨v, ps, hrun, hv⟩ := h1.lookup L ht hz (zd := .held z) (zp := []) rfl hkey
  have h3 := h2 x kl hkey
  rw [hrun]
  have : v = (M x).getD z := by
    simp only [anyR, Option.some.injEq, Prod.mk.injEq] at hv
    cases e : M x with
    | none => rw [e] at h3; rw [h3.2] at hv; injection hv.1 with h4
    | some u => rw [e] at h3; rw [h3.2] at hv; injection hv.1 with h4
  rw [this]
theorem MapV.look_ok {t e : TypeId} (h : MapV enc P k w b n M) (L : Keyed P k) (ht : P.underlying t = some (.map k e)) {z : Value} (hz : (zeroValue e).run P w = .ok z w) {x : K} {kl : Lit} (hkey : keyOf P k (enc x) = some kl) :
    (Instr.lookup t (.map (some b)) (enc x) true).run P w = .ok (.tuple #[(M x).getD z, .bool (M x).isSome]) w := by
  obtain ⟨D, h1, h2⟩ := h
  obtain ⟨v, ps, hrun, hv⟩ := h1.look_ok L ht hz (zd := .held z) (zp := []) rfl hkey
  have h3 := h2 x kl hkey
  rw [hrun]
  simp only [anyR, Option.some.injEq, Prod.mk.injEq] at hv
  cases e : M x with
  | none => rw [e] at h3; rw [h3.2] at hv; injection hv.1 with h4; rw [h4, h3.1]; rfl
  | some u => rw [e] at h3; rw [h3.2] at hv; injection hv.1 with h4; rw [h4, h3.1]; rfl
theorem MapV.store [DecidableEq K] {t e : TypeId} (h : MapV enc P k w b n M) (L : Keyed P k) (hinj : ∀ x y, enc x = enc y → x = y) (ht : P.underlying t = some (.map k e)) (hn : n < maxLen) {x : K} {kl : Lit} (hkey : keyOf P k (enc x) = some kl) (v : Value) :
    ∃ w', (Instr.mapUpdate t (.map (some b)) (enc x) v).run P w = .ok () w' ∧ MapV enc P k w' b (n + 1) (updM M x (some v)) ∧ w.grownBy w' (some b) := by
  obtain ⟨D, h1, h2⟩ := h
  obtain ⟨w', hrun, h3, h4⟩ := h1.update L ht hn hkey (val := v) (d := .held v) (ps := []) rfl
  refine ⟨w', hrun, ⟨D.put kl (.held v), h3, fun y ky hy => ?_⟩, h4⟩
  by_cases e : y = x
  · subst e
    obtain rfl : ky = kl := by rw [hkey] at hy; injection hy with hy; exact hy.symm
    rw [updM_same]
    exact ⟨has_put_same h1.isMap (L.key hkey) _, fun z => atKey_put_same h1.isMap (L.key hkey) _ z⟩
  · have hne : ky ≠ kl := fun e2 => e (hinj _ _ (L.inj (by rw [e2] at hy; exact hy) hkey))
    rw [updM_other e]
    have h5 := h2 y ky hy
    cases e3 : M y with
    | none => rw [e3] at h5; exact ⟨by rw [has_put_other hne]; exact h5.1, fun z => by rw [atKey_put_other hne]; exact h5.2 z⟩
    | some u => rw [e3] at h5; exact ⟨by rw [has_put_other hne]; exact h5.1, fun z => by rw [atKey_put_other hne]; exact h5.2 z⟩
end

section
variable {K : Type} {enc : K → Value} {P : Program} (w : World) {ops : Array Oper} {rest : List Oper} {o : Oper} {a : Act} {Q : Exit → Act → World → Prop}
theorem wpList_lookV (hg : o.guard = none) (m x : Operand) (t : TypeId) (hop : o.op = Op.lookup t m x false) (k e : TypeId) (L : Keyed P k) (ht : P.underlying t = some (.map k e)) {z : Value} (hz : (zeroValue e).run P w = .ok z w) (b n : Nat) (M : K → Option Value)
    (hm : a.eval m = .map (some b)) (hV : MapV enc P k w b n M) (y : K) (kl : Lit) (hx : a.eval x = enc y) (hkey : keyOf P k (enc y) = some kl)
    (hK : wpList P ops Q rest (a.put o.dst ((M y).getD z)) w) : wpList P ops Q (o :: rest) a w := by
  refine wpList_plain hg fun K' hK' => ?_
  have hrun := hV.look L ht hz hkey
  unfold Oper.wp
  simp [execOp, hop, hm, hx, hrun, Result.andThen]
  exact hK' _ _ hK
theorem wpList_lookV_ok (hg : o.guard = none) (m x : Operand) (t : TypeId) (hop : o.op = Op.lookup t m x true) (k e : TypeId) (L : Keyed P k) (ht : P.underlying t = some (.map k e)) {z : Value} (hz : (zeroValue e).run P w = .ok z w) (b n : Nat) (M : K → Option Value)
    (hm : a.eval m = .map (some b)) (hV : MapV enc P k w b n M) (y : K) (kl : Lit) (hx : a.eval x = enc y) (hkey : keyOf P k (enc y) = some kl)
    (hK : wpList P ops Q rest (a.put o.dst (.tuple #[(M y).getD z, .bool (M y).isSome])) w) : wpList P ops Q (o :: rest) a w := by
  refine wpList_plain hg fun K' hK' => ?_
  have hrun := hV.look_ok L ht hz hkey
  unfold Oper.wp
  simp [execOp, hop, hm, hx, hrun, Result.andThen]
  exact hK' _ _ hK
theorem wpList_storeV [DecidableEq K] (hg : o.guard = none) (m x v : Operand) (t : TypeId) (hop : o.op = Op.mapUpdate t m x v) (k e : TypeId) (L : Keyed P k) (hinj : ∀ x y, enc x = enc y → x = y) (ht : P.underlying t = some (.map k e)) (b n : Nat) (M : K → Option Value)
    (hm : a.eval m = .map (some b)) (hV : MapV enc P k w b n M) (hn : n < maxLen) (y : K) (kl : Lit) (hx : a.eval x = enc y) (hkey : keyOf P k (enc y) = some kl) (u : Value) (hv : a.eval v = u)
    (hK : ∀ w', MapV enc P k w' b (n + 1) (updM M y (some u)) → w.grownBy w' (some b) → wpList P ops Q rest (a.put o.dst undef) w') : wpList P ops Q (o :: rest) a w := by
  refine wpList_plain hg fun K' hK' => ?_
  obtain ⟨w', hrun, r1, r2⟩ := hV.store L hinj ht hn hkey u
  unfold Oper.wp
  simp [execOp, hop, hm, hx, hv, hrun, Result.andThen]
  exact hK' _ _ (hK w' r1 r2)
end
end Go.Proofs.YtmghabcaakgjiaaGreat

/- The key of two strings. -/
namespace Go.Proofs.YtmghabcaakgjiaaGreat
open Go.ChangeShapes Go.WideShapes Go.ChangeAt Go.RowKit Go.Maps

def encK (k : ByteArray × ByteArray) : Value := .agg #[.string k.1, .string k.2]
theorem encK_inj (x y : ByteArray × ByteArray) (h : encK x = encK y) : x = y := by
  unfold encK at h
  injection h with h
  have h1 := congrArg Array.toList h
  simp at h1
  exact Prod.ext h1.1 h1.2
theorem laidOutM : laidOutB Tryz.prog = true := by kernel_rfl
theorem relRow : (73 : TypeId) < Tryz.prog.types.size := of_decide_eq_true (by kernel_rfl)
theorem relWide : (match Tryz.prog.underlying 73 with | some (.array _ _) | some (.struct _) => true | _ => false) = true := by rw [Tryz.underlying73]
set_option maxRecDepth 100000 in
theorem relLaw0 : WideMaps.KeyLaw Tryz.prog 73 := deep_law_laid laidOutM (m := 2) (by omega) relRow (by kernel_rfl) relWide
theorem relLaw : Keyed Tryz.prog 73 := Keyed.of_law relLaw0
theorem relKeyT : Tryz.prog.keyType 73 = true := by kernel_rfl
theorem relCells : Tryz.prog.cellsOf 73 = 2 := by kernel_rfl
theorem strCells : Tryz.prog.cellsOf 9 = 1 := by kernel_rfl
theorem typesSize : ∃ n, Tryz.prog.types.size = n + 1 := Nat.exists_eq_succ_of_ne_zero (Nat.ne_of_gt (Nat.lt_of_le_of_lt (Nat.zero_le _) relRow))
theorem relKeyOf (k : ByteArray × ByteArray) (h1 : k.1.size ≤ maxLen) (h2 : k.2.size ≤ maxLen) : ∃ kl, keyOf Tryz.prog 73 (encK k) = some kl := by
  obtain ⟨n, hn⟩ := typesSize
  refine ⟨.string (keyBytes [.string k.1.data.toList, .string k.2.data.toList]), ?_⟩
  unfold keyOf
  rw [Tryz.underlying73]
  simp only [relKeyT, encK, Value.formed, Tryz.underlying73, relCells, hn, Value.cells]
  simp [Program.keyLits, Tryz.underlying73, Tryz.underlying9, relCells, strCells, h1, h2]
end Go.Proofs.YtmghabcaakgjiaaGreat

/- 'm[k] = append(m[k], v)': the entry is taken, then stored. -/
namespace Go.Proofs.YtmghabcaakgjiaaGreat
open Go.ChangeShapes Go.WideShapes Go.ChangeAt Go.RowKit Go.Maps
open Go.ChangeMaps (setBlock heap_setBlock_same heap_setBlock_other)

section
variable {K : Type} {enc : K → Value} {P : Program} {k : TypeId} {w : World} {b n : Nat} {M : K → Option Value}
theorem MapV.of_block {w' : World} (h : MapV enc P k w b n M) (e : w'.heap[b]? = w.heap[b]?) : MapV enc P k w' b n M := by
  obtain ⟨D, ⟨es, clock, hb, r⟩, h2⟩ := h
  exact ⟨D, ⟨es, clock, e.trans hb, r⟩, h2⟩
theorem grown_setBlock {w : World} {b : Nat} {es es' : Array MapEntry} {c c' : Nat} (hb : w.heap[b]? = some (.map es c)) : w.grownBy (setBlock w b (.map es' c')) (some b) :=
  ⟨rfl, rfl, rfl, by simp [setBlock], fun i _ hi => heap_setBlock_other hb _ (fun e => hi (by rw [e]))⟩
theorem MapV.entry [DecidableEq K] {t e : TypeId} (h : MapV enc P k w b n M) (L : WideMaps.KeyLaw P k) (hinj : ∀ x y, enc x = enc y → x = y) (ht : P.underlying t = some (.map k e)) {z : Value} (hz : ∀ u : World, (zeroValue e).run P u = .ok z u) (hn : n < maxLen) {x : K} {kl : Lit} (hkey : keyOf P k (enc x) = some kl) :
    ∃ (st : Nat) (w1 : World), (Instr.mapEntry t (.map (some b)) (enc x)).run P w = .ok (.tuple #[(M x).getD z, goInt st]) w1 ∧ w.grownBy w1 (some b) ∧
      ∀ (w2 : World) (val : Value), w2.heap[b]? = w1.heap[b]? → ∃ w3, (Instr.entryStore t (.map (some b)) (goInt st) val).run P w2 = .ok () w3 ∧ MapV enc P k w3 b (n + 1) (updM M x (some val)) ∧ w2.grownBy w3 (some b) := by
  have LK := Keyed.of_law L
  have hlook := h.look LK ht (hz w) hkey
  have hst := fun v => h.store LK hinj ht hn hkey v
  obtain ⟨D, ⟨es, clock, hb, F, hs, hD⟩, h2⟩ := h
  obtain ⟨v0, st, es1, clock1, hrun, hv0, hback⟩ := WideElems.entry_then_store L ht hz hb F hkey
  have hb1 : (setBlock w b (.map es1 clock1)).heap[b]? = some (.map es1 clock1) := heap_setBlock_same hb _
  have ev : v0 = (M x).getD z := by
    have hl := hlook
    rcases Maps.fit_look false LK ht (hz w) hb F hkey with ⟨hrun2, hno, -⟩ | ⟨e0, y, hmem, hek, hrun2, -, -, -⟩
    · rw [hl] at hrun2
      injection hrun2 with e1
      rcases hv0 with ⟨e0, hm, hk0, -⟩ | ⟨-, hz0⟩
      · exact absurd hk0 (hno e0 hm)
      · rw [hz0, e1]; rfl
    · rw [hl] at hrun2
      injection hrun2 with e1
      rcases hv0 with ⟨e1', hm, hk0, hv⟩ | ⟨hno, -⟩
      · have hnd := F.stamped.2.2
        have : e1' = e0 := by
          have h3 : e1'.key = e0.key := by rw [hk0, hek]
          obtain ⟨i, hi, hie⟩ := List.mem_iff_getElem.1 hm
          obtain ⟨j, hj, hje⟩ := List.mem_iff_getElem.1 hmem
          have h4 : (es.toList.map (·.key))[i]'(by simpa using hi) = (es.toList.map (·.key))[j]'(by simpa using hj) := by simp only [List.getElem_map, hie, hje]; exact h3
          have h6 := List.pairwise_iff_getElem.1 hnd
          have h5 : i = j := by
            rcases Nat.lt_trichotomy i j with hl | hl | hl
            · exact absurd h4 (h6 i j _ _ hl)
            · exact hl
            · exact absurd h4.symm (h6 j i _ _ hl)
          subst h5
          rw [← hie, ← hje]
        rw [hv, this, e1]; rfl
      · exact absurd hek (hno e0 hmem)
  refine ⟨st, _, by rw [hrun, ev], grown_setBlock hb, fun w2 val hw2 => ?_⟩
  have hw2' : w2.heap[b]? = some (.map es1 clock1) := hw2.trans hb1
  obtain ⟨es', clock', hr1, hr2⟩ := hback w2 val hw2'
  obtain ⟨w', hr3, hM', -⟩ := hst val
  rw [hr2] at hr3
  injection hr3 with _ e3
  refine ⟨_, hr1, hM'.of_block ?_, grown_setBlock hw2'⟩
  rw [← e3, heap_setBlock_same hb, heap_setBlock_same hw2']
end

section
variable {K : Type} {enc : K → Value} {P : Program} (w : World) {ops : Array Oper} {rest : List Oper} {o : Oper} {a : Act} {Q : Exit → Act → World → Prop}
theorem wpList_entryV [DecidableEq K] (hg : o.guard = none) (m x : Operand) (t : TypeId) (hop : o.op = Op.mapEntry t m x) (k e : TypeId) (L : WideMaps.KeyLaw P k) (hinj : ∀ x y, enc x = enc y → x = y) (ht : P.underlying t = some (.map k e)) {z : Value} (hz : ∀ u : World, (zeroValue e).run P u = .ok z u) (b n : Nat) (M : K → Option Value)
    (hm : a.eval m = .map (some b)) (hV : MapV enc P k w b n M) (hn : n < maxLen) (y : K) (kl : Lit) (hx : a.eval x = enc y) (hkey : keyOf P k (enc y) = some kl)
    (hK : ∀ (st : Nat) (w1 : World), w.grownBy w1 (some b) → (∀ (w2 : World) (val : Value), w2.heap[b]? = w1.heap[b]? → ∃ w3, (Instr.entryStore t (.map (some b)) (goInt st) val).run P w2 = .ok () w3 ∧ MapV enc P k w3 b (n + 1) (updM M y (some val)) ∧ w2.grownBy w3 (some b)) →
      wpList P ops Q rest (a.put o.dst (.tuple #[(M y).getD z, goInt st])) w1) : wpList P ops Q (o :: rest) a w := by
  refine wpList_plain hg fun K' hK' => ?_
  obtain ⟨st, w1, hrun, h1, h2⟩ := hV.entry L hinj ht hz hn hkey
  unfold Oper.wp
  simp [execOp, hop, hm, hx, hrun, Result.andThen]
  exact hK' _ _ (hK st w1 h1 h2)
theorem wpList_entryStoreV (hg : o.guard = none) (m s v : Operand) (t : TypeId) (hop : o.op = Op.entryStore t m s v) (b st : Nat) (hm : a.eval m = .map (some b)) (hs : a.eval s = goInt st) (u : Value) (hv : a.eval v = u) (k : TypeId) (n : Nat) (M : K → Option Value)
    (hback : ∃ w3, (Instr.entryStore t (.map (some b)) (goInt st) u).run P w = .ok () w3 ∧ MapV enc P k w3 b n M ∧ w.grownBy w3 (some b))
    (hK : ∀ w', MapV enc P k w' b n M → w.grownBy w' (some b) → wpList P ops Q rest (a.put o.dst undef) w') : wpList P ops Q (o :: rest) a w := by
  refine wpList_plain hg fun K' hK' => ?_
  obtain ⟨w3, hrun, h1, h2⟩ := hback
  unfold Oper.wp
  simp [execOp, hop, hm, hs, hv, hrun, Result.andThen]
  exact hK' _ _ (hK w3 h1 h2)
end
end Go.Proofs.YtmghabcaakgjiaaGreat
