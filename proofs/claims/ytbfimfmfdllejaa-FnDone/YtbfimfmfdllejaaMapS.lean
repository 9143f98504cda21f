/- Maps in memory as functions: which value lies at a key, whatever its type. -/
import Derived.Test.YtbfimfmfdllejaaDkMem
import Derived.Maps.OwnSet
import Derived.DeepKeys4
namespace Go.Proofs.Ytbfimfmfdllejaa
open Go.ChangeShapes Go.WideShapes Go.ChangeAt Go.RowKit Go.Maps

/-- every value reads as itself -/
def anyR (v : Value) : Option (DataW Value × List MemPlace) := some (.held v, [])

section
variable {K : Type} (enc : K → Value) (P : Program) (k : TypeId)
/-- what the datum says at a key -/
def SaysAt (D : DataW Value) (kl : Lit) : Option Value → Prop
  | none => Maps.has D kl = false ∧ ∀ z, D.atKey kl z = z
  | some v => Maps.has D kl = true ∧ ∀ z, D.atKey kl z = .held v
/-- block b is a map of at most n entries that holds M -/
def MapV (w : World) (b n : Nat) (M : K → Option Value) : Prop :=
  ∃ D : DataW Value, w.ownsMap P k anyR b n D ∧ ∀ x kl, keyOf P k (enc x) = some kl → SaysAt D kl (M x)
def updM [DecidableEq K] (M : K → Option Value) (x : K) (v : Option Value) : K → Option Value := fun y => if y = x then v else M y
end

section
variable {K : Type} {enc : K → Value} {P : Program} {k : TypeId} {w : World} {b n : Nat} {M : K → Option Value}
theorem updM_same [DecidableEq K] (M : K → Option Value) (x : K) (v : Option Value) : updM M x v x = v := by simp [updM]
theorem updM_other [DecidableEq K] {M : K → Option Value} {x y : K} {v : Option Value} (h : y ≠ x) : updM M x v y = M y := by simp [updM, h]

theorem mapV_made (enc : K → Value) (P : Program) (k : TypeId) (w : World) : MapV enc P k (w.alloc (.map #[] 0)) w.heap.size 0 (fun _ => none) :=
  ⟨.map [], World.ownsMap_made w P k anyR, fun _ kl _ => ⟨rfl, fun z => by simp [DataW.atKey]⟩⟩
theorem MapV.lt (h : MapV enc P k w b n M) : b < w.heap.size := by obtain ⟨D, h1, -⟩ := h; exact h1.lt
theorem MapV.mono (h : MapV enc P k w b n M) {n' : Nat} (hn : n ≤ n') : MapV enc P k w b n' M := by obtain ⟨D, h1, h2⟩ := h; exact ⟨D, h1.mono hn, h2⟩
theorem MapV.kept {w' : World} {row : Option Nat} (h : MapV enc P k w b n M) (hg : w.grownBy w' row) (hne : some b ≠ row) : MapV enc P k w' b n M := by
  obtain ⟨D, h1, h2⟩ := h; exact ⟨D, h1.kept hg hne, h2⟩
theorem MapV.below {w' : World} (h : MapV enc P k w b n M) (hB : Below w.heap.size w w') : MapV enc P k w' b n M :=
  h.kept (row := none) ⟨hB.os, hB.tape, hB.output, hB.size, fun k hk _ => hB.block k hk⟩ (by simp)
theorem MapV.setCell (h : MapV enc P k w b n M) {a : Addr} (ha : b ≠ a.block) (u : Value) : MapV enc P k (w.setCell a u) b n M := by
  obtain ⟨D, h1, h2⟩ := h; exact ⟨D, h1.setCell ha u, h2⟩

theorem MapV.look {t e : TypeId} (h : MapV enc P k w b n M) (L : Keyed P k) (ht : P.underlying t = some (.map k e)) {z : Value} (hz : (zeroValue e).run P w = .ok z w) {x : K} {kl : Lit} (hkey : keyOf P k (enc x) = some kl) :
    (Instr.lookup t (.map (some b)) (enc x) false).run P w = .ok ((M x).getD z) w := by
  obtain ⟨D, h1, h2⟩ := h
  obtain ⟨v, ps, hrun, hv⟩ := h1.lookup L ht hz (zd := .held z) (zp := []) rfl hkey
  have h3 := h2 x kl hkey
  rw [hrun]
  have : v = (M x).getD z := by
    simp only [anyR, Option.some.injEq, Prod.mk.injEq] at hv
    cases e : M x with
    | none => rw [e] at h3; rw [h3.2] at hv; injection hv.1 with h4
    | some u => rw [e] at h3; rw [h3.2] at hv; injection hv.1 with h4
  rw [this]
theorem MapV.look_ok {t e : TypeId} (h : MapV enc P k w b n M) (L : Keyed P k) (ht : P.underlying t = some (.map k e)) {z : Value} (hz : (zeroValue e).run P w = .ok z w) {x : K} {kl : Lit} (hkey : keyOf P k (enc x) = some kl) :
    (Instr.lookup t (.map (some b)) (enc x) true).run P w = .ok (.tuple #[(M x).getD z, .bool (M x).isSome]) w := by
  obtain ⟨D, h1, h2⟩ := h
  obtain ⟨v, ps, hrun, hv⟩ := h1.look_ok L ht hz (zd := .held z) (zp := []) rfl hkey
  have h3 := h2 x kl hkey
  rw [hrun]
  simp only [anyR, Option.some.injEq, Prod.mk.injEq] at hv
  cases e : M x with
  | none => rw [e] at h3; rw [h3.2] at hv; injection hv.1 with h4; rw [h4, h3.1]; rfl
  | some u => rw [e] at h3; rw [h3.2] at hv; injection hv.1 with h4; rw [h4, h3.1]; rfl
theorem MapV.store [DecidableEq K] {t e : TypeId} (h : MapV enc P k w b n M) (L : Keyed P k) (hinj : ∀ x y, enc x = enc y → x = y) (ht : P.underlying t = some (.map k e)) (hn : n < maxLen) {x : K} {kl : Lit} (hkey : keyOf P k (enc x) = some kl) (v : Value) :
    ∃ w', (Instr.mapUpdate t (.map (some b)) (enc x) v).run P w = .ok () w' ∧ MapV enc P k w' b (n + 1) (updM M x (some v)) ∧ w.grownBy w' (some b) := by
  obtain ⟨D, h1, h2⟩ := h
  obtain ⟨w', hrun, h3, h4⟩ := h1.update L ht hn hkey (val := v) (d := .held v) (ps := []) rfl
  refine ⟨w', hrun, ⟨D.put kl (.held v), h3, fun y ky hy => ?_⟩, h4⟩
  by_cases e : y = x
  · subst e
    obtain rfl : ky = kl := by rw [hkey] at hy; injection hy with hy; exact hy.symm
    rw [updM_same]
    exact ⟨has_put_same h1.isMap (L.key hkey) _, fun z => atKey_put_same h1.isMap (L.key hkey) _ z⟩
  · have hne : ky ≠ kl := fun e2 => e (hinj _ _ (L.inj (by rw [e2] at hy; exact hy) hkey))
    rw [updM_other e]
    have h5 := h2 y ky hy
    cases e3 : M y with
    | none => rw [e3] at h5; exact ⟨by rw [has_put_other hne]; exact h5.1, fun z => by rw [atKey_put_other hne]; exact h5.2 z⟩
    | some u => rw [e3] at h5; exact ⟨by rw [has_put_other hne]; exact h5.1, fun z => by rw [atKey_put_other hne]; exact h5.2 z⟩
end

section
variable {K : Type} {enc : K → Value} {P : Program} (w : World) {ops : Array Oper} {rest : List Oper} {o : Oper} {a : Act} {Q : Exit → Act → World → Prop}
theorem wpList_lookV (hg : o.guard = none) (m x : Operand) (t : TypeId) (hop : o.op = Op.lookup t m x false) (k e : TypeId) (L : Keyed P k) (ht : P.underlying t = some (.map k e)) {z : Value} (hz : (zeroValue e).run P w = .ok z w) (b n : Nat) (M : K → Option Value)
    (hm : a.eval m = .map (some b)) (hV : MapV enc P k w b n M) (y : K) (kl : Lit) (hx : a.eval x = enc y) (hkey : keyOf P k (enc y) = some kl)
    (hK : wpList P ops Q rest (a.put o.dst ((M y).getD z)) w) : wpList P ops Q (o :: rest) a w := by
  refine wpList_plain hg fun K' hK' => ?_
  have hrun := hV.look L ht hz hkey
  unfold Oper.wp
  simp [execOp, hop, hm, hx, hrun, Result.andThen]
  exact hK' _ _ hK
theorem wpList_lookV_ok (hg : o.guard = none) (m x : Operand) (t : TypeId) (hop : o.op = Op.lookup t m x true) (k e : TypeId) (L : Keyed P k) (ht : P.underlying t = some (.map k e)) {z : Value} (hz : (zeroValue e).run P w = .ok z w) (b n : Nat) (M : K → Option Value)
    (hm : a.eval m = .map (some b)) (hV : MapV enc P k w b n M) (y : K) (kl : Lit) (hx : a.eval x = enc y) (hkey : keyOf P k (enc y) = some kl)
    (hK : wpList P ops Q rest (a.put o.dst (.tuple #[(M y).getD z, .bool (M y).isSome])) w) : wpList P ops Q (o :: rest) a w := by
  refine wpList_plain hg fun K' hK' => ?_
  have hrun := hV.look_ok L ht hz hkey
  unfold Oper.wp
  simp [execOp, hop, hm, hx, hrun, Result.andThen]
  exact hK' _ _ hK
theorem wpList_storeV [DecidableEq K] (hg : o.guard = none) (m x v : Operand) (t : TypeId) (hop : o.op = Op.mapUpdate t m x v) (k e : TypeId) (L : Keyed P k) (hinj : ∀ x y, enc x = enc y → x = y) (ht : P.underlying t = some (.map k e)) (b n : Nat) (M : K → Option Value)
    (hm : a.eval m = .map (some b)) (hV : MapV enc P k w b n M) (hn : n < maxLen) (y : K) (kl : Lit) (hx : a.eval x = enc y) (hkey : keyOf P k (enc y) = some kl) (u : Value) (hv : a.eval v = u)
    (hK : ∀ w', MapV enc P k w' b (n + 1) (updM M y (some u)) → w.grownBy w' (some b) → wpList P ops Q rest (a.put o.dst undef) w') : wpList P ops Q (o :: rest) a w := by
  refine wpList_plain hg fun K' hK' => ?_
  obtain ⟨w', hrun, r1, r2⟩ := hV.store L hinj ht hn hkey u
  unfold Oper.wp
  simp [execOp, hop, hm, hx, hv, hrun, Result.andThen]
  exact hK' _ _ (hK w' r1 r2)
end
end Go.Proofs.Ytbfimfmfdllejaa
