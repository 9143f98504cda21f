/- Maps in memory as functions: which value lies at a key, whatever its type. -/
import Derived.Test.YtpnjoniolfmbnaaGreatDoorJ1
import Derived.Maps.OwnSet
import Derived.DeepKeys4
import Derived.Test.YtpnjoniolfmbnaaGreatDoorJ10
import Derived.OwnWalk
import Derived.Maps.AppendAt
namespace Go.Proofs.YtpnjoniolfmbnaaGreatDoor
open Go.ChangeShapes Go.WideShapes Go.ChangeAt Go.RowKit Go.Maps

/-- every value reads as itself -/
def anyR (v : Value) : Option (DataW Value × List MemPlace) := some (.held v, [])

section
variable {K : Type} (enc : K → Value) (P : Program) (k : TypeId)
/-- what the datum says at a key -/
def SaysAt (D : DataW Value) (kl : Lit) : Option Value → Prop
  | none => Maps.has D kl = false ∧ ∀ z, D.atKey kl z = z
  | some v => Maps.has D kl = true ∧ ∀ z, D.atKey kl z = .held v
/-- block b is a map of at most n entries that holds M -/
def MapV (w : World) (b n : Nat) (M : K → Option Value) : Prop :=
  ∃ D : DataW Value, w.ownsMap P k anyR b n D ∧ ∀ x kl, keyOf P k (enc x) = some kl → SaysAt D kl (M x)
def updM [DecidableEq K] (M : K → Option Value) (x : K) (v : Option Value) : K → Option Value := fun y => if y = x then v else M y
end

section
variable {K : Type} {enc : K → Value} {P : Program} {k : TypeId} {w : World} {b n : Nat} {M : K → Option Value}
theorem updM_same [DecidableEq K] (M : K → Option Value) (x : K) (v : Option Value) : updM M x v x = v := by simp [updM]
theorem updM_other [DecidableEq K] {M : K → Option Value} {x y : K} {v : Option Value} (h : y ≠ x) : updM M x v y = M y := by simp [updM, h]

theorem mapV_made (enc : K → Value) (P : Program) (k : TypeId) (w : World) : MapV enc P k (w.alloc (.map #[] 0)) w.heap.size 0 (fun _ => none) :=
  ⟨.map [], World.ownsMap_made w P k anyR, fun _ kl _ => ⟨rfl, fun z => by simp [DataW.atKey]⟩⟩
theorem MapV.lt (h : MapV enc P k w b n M) : b < w.heap.size := by obtain ⟨D, h1, -⟩ := h; exact h1.lt
theorem MapV.mono (h : MapV enc P k w b n M) {n' : Nat} (hn : n ≤ n') : MapV enc P k w b n' M := by obtain ⟨D, h1, h2⟩ := h; exact ⟨D, h1.mono hn, h2⟩
theorem MapV.kept {w' : World} {row : Option Nat} (h : MapV enc P k w b n M) (hg : w.grownBy w' row) (hne : some b ≠ row) : MapV enc P k w' b n M := by
  obtain ⟨D, h1, h2⟩ := h; exact ⟨D, h1.kept hg hne, h2⟩
theorem MapV.below {w' : World} (h : MapV enc P k w b n M) (hB : Below w.heap.size w w') : MapV enc P k w' b n M :=
  h.kept (row := none) ⟨hB.os, hB.tape, hB.output, hB.size, fun k hk _ => hB.block k hk⟩ (by simp)
theorem MapV.setCell (h : MapV enc P k w b n M) {a : Addr} (ha : b ≠ a.block) (u : Value) : MapV enc P k (w.setCell a u) b n M := by
  obtain ⟨D, h1, h2⟩ := h; exact ⟨D, h1.setCell ha u, h2⟩

theorem MapV.look {t e : TypeId} (h : MapV enc P k w b n M) (L : Keyed P k) (ht : P.underlying t = some (.map k e)) {z : Value} (hz : (zeroValue e).run P w = .ok z w) {x : K} {kl : Lit} (hkey : keyOf P k (enc x) = some kl) :
    (Instr.lookup t (.map (some b)) (enc x) false).run P w = .ok ((M x).getD z) w := by
  obtain ⟨D, h1, h2⟩ := h
  obtain ⟨v, ps, hrun, hv⟩ := h1.lookup L ht hz (zd := .held z) (zp := []) rfl hkey
  have h3 := h2 x kl hkey
  rw [hrun]
  have : v = (M x).getD z := by
    simp only [anyR, Option.some.injEq, Prod.mk.injEq] at hv
    cases e : M x with
    | none => rw [e] at h3; rw [h3.2] at hv; injection hv.1 with h4
    | some u => rw [e] at h3; rw [h3.2] at hv; injection hv.1 with h4
  rw [this]
theorem MapV.look_ok {t e : TypeId} (h : MapV enc P k w b n M) (L : Keyed P k) (ht : P.underlying t = some (.map k e)) {z : Value} (hz : (zeroValue e).run P w = .ok z w) {x : K} {kl : Lit} (hkey : keyOf P k (enc x) = some kl) :
    (Instr.lookup t (.map (some b)) (enc x) true).run P w = .ok (.tuple #[(M x).getD z, .bool (M x).isSome]) w := by
  obtain ⟨D, h1, h2⟩ := h
  obtain ⟨v, ps, hrun, hv⟩ := h1.look_ok L ht hz (zd := .held z) (zp := []) rfl hkey
  have h3 := h2 x kl hkey
  rw [hrun]
  simp only [anyR, Option.some.injEq, Prod.mk.injEq] at hv
  cases e : M x with
  | none => rw [e] at h3; rw [h3.2] at hv; injection hv.1 with h4; rw [h4, h3.1]; rfl
  | some u => rw [e] at h3; rw [h3.2] at hv; injection hv.1 with h4; rw [h4, h3.1]; rfl
theorem MapV.store [DecidableEq K] {t e : TypeId} (h : MapV enc P k w b n M) (L : Keyed P k) (hinj : ∀ x y, enc x = enc y → x = y) (ht : P.underlying t = some (.map k e)) (hn : n < maxLen) {x : K} {kl : Lit} (hkey : keyOf P k (enc x) = some kl) (v : Value) :
    ∃ w', (Instr.mapUpdate t (.map (some b)) (enc x) v).run P w = .ok () w' ∧ MapV enc P k w' b (n + 1) (updM M x (some v)) ∧ w.grownBy w' (some b) := by
  obtain ⟨D, h1, h2⟩ := h
  obtain ⟨w', hrun, h3, h4⟩ := h1.update L ht hn hkey (val := v) (d := .held v) (ps := []) rfl
  refine ⟨w', hrun, ⟨D.put kl (.held v), h3, fun y ky hy => ?_⟩, h4⟩
  by_cases e : y = x
  · subst e
    obtain rfl : ky = kl := by rw [hkey] at hy; injection hy with hy; exact hy.symm
    rw [updM_same]
    exact ⟨has_put_same h1.isMap (L.key hkey) _, fun z => atKey_put_same h1.isMap (L.key hkey) _ z⟩
  · have hne : ky ≠ kl := fun e2 => e (hinj _ _ (L.inj (by rw [e2] at hy; exact hy) hkey))
    rw [updM_other e]
    have h5 := h2 y ky hy
    cases e3 : M y with
    | none => rw [e3] at h5; exact ⟨by rw [has_put_other hne]; exact h5.1, fun z => by rw [atKey_put_other hne]; exact h5.2 z⟩
    | some u => rw [e3] at h5; exact ⟨by rw [has_put_other hne]; exact h5.1, fun z => by rw [atKey_put_other hne]; exact h5.2 z⟩
end

section
variable {K : Type} {enc : K → Value} {P : Program} (w : World) {ops : Array Oper} {rest : List Oper} {o : Oper} {a : Act} {Q : Exit → Act → World → Prop}
theorem wpList_lookV (hg : o.guard = none) (m x : Operand) (t : TypeId) (hop : o.op = Op.lookup t m x false) (k e : TypeId) (L : Keyed P k) (ht : P.underlying t = some (.map k e)) {z : Value} (hz : (zeroValue e).run P w = .ok z w) (b n : Nat) (M : K → Option Value)
    (hm : a.eval m = .map (some b)) (hV : MapV enc P k w b n M) (y : K) (kl : Lit) (hx : a.eval x = enc y) (hkey : keyOf P k (enc y) = some kl)
    (hK : wpList P ops Q rest (a.put o.dst ((M y).getD z)) w) : wpList P ops Q (o :: rest) a w := by
  refine wpList_plain hg fun K' hK' => ?_
  have hrun := hV.look L ht hz hkey
  unfold Oper.wp
  simp [execOp, hop, hm, hx, hrun, Result.andThen]
  exact hK' _ _ hK
theorem wpList_lookV_ok (hg : o.guard = none) (m x : Operand) (t : TypeId) (hop : o.op = Op.lookup t m x true) (k e : TypeId) (L : Keyed P k) (ht : P.underlying t = some (.map k e)) {z : Value} (hz : (zeroValue e).run P w = .ok z w) (b n : Nat) (M : K → Option Value)
    (hm : a.eval m = .map (some b)) (hV : MapV enc P k w b n M) (y : K) (kl : Lit) (hx : a.eval x = enc y) (hkey : keyOf P k (enc y) = some kl)
    (hK : wpList P ops Q rest (a.put o.dst (.tuple #[(M y).getD z, .bool (M y).isSome])) w) : wpList P ops Q (o :: rest) a w := by
  refine wpList_plain hg fun K' hK' => ?_
  have hrun := hV.look_ok L ht hz hkey
  unfold Oper.wp
  simp [execOp, hop, hm, hx, hrun, Result.andThen]
  exact hK' _ _ hK
theorem wpList_storeV [DecidableEq K] (hg : o.guard = none) (m x v : Operand) (t : TypeId) (hop : o.op = Op.mapUpdate t m x v) (k e : TypeId) (L : Keyed P k) (hinj : ∀ x y, enc x = enc y → x = y) (ht : P.underlying t = some (.map k e)) (b n : Nat) (M : K → Option Value)
    (hm : a.eval m = .map (some b)) (hV : MapV enc P k w b n M) (hn : n < maxLen) (y : K) (kl : Lit) (hx : a.eval x = enc y) (hkey : keyOf P k (enc y) = some kl) (u : Value) (hv : a.eval v = u)
    (hK : ∀ w', MapV enc P k w' b (n + 1) (updM M y (some u)) → w.grownBy w' (some b) → wpList P ops Q rest (a.put o.dst undef) w') : wpList P ops Q (o :: rest) a w := by
  refine wpList_plain hg fun K' hK' => ?_
  obtain ⟨w', hrun, r1, r2⟩ := hV.store L hinj ht hn hkey u
  unfold Oper.wp
  simp [execOp, hop, hm, hx, hv, hrun, Result.andThen]
  exact hK' _ _ (hK w' r1 r2)
end
end Go.Proofs.YtpnjoniolfmbnaaGreatDoor

/- The key of two strings. -/
namespace Go.Proofs.YtpnjoniolfmbnaaGreatDoor
open Go.ChangeShapes Go.WideShapes Go.ChangeAt Go.RowKit Go.Maps

def encK (k : ByteArray × ByteArray) : Value := .agg #[.string k.1, .string k.2]
theorem encK_inj (x y : ByteArray × ByteArray) (h : encK x = encK y) : x = y := by
  unfold encK at h
  injection h with h
  have h1 := congrArg Array.toList h
  simp at h1
  exact Prod.ext h1.1 h1.2
theorem laidOutM : laidOutB Tryz.prog = true := by kernel_rfl
theorem relRow : (149 : TypeId) < Tryz.prog.types.size := of_decide_eq_true (by kernel_rfl)
theorem relWide : (match Tryz.prog.underlying 149 with | some (.array _ _) | some (.struct _) => true | _ => false) = true := by rw [Tryz.underlying149]
set_option maxRecDepth 100000 in
theorem relLaw0 : WideMaps.KeyLaw Tryz.prog 149 := deep_law_laid laidOutM (m := 2) (by omega) relRow (by kernel_rfl) relWide
theorem relLaw : Keyed Tryz.prog 149 := Keyed.of_law relLaw0
theorem relKeyT : Tryz.prog.keyType 149 = true := by kernel_rfl
theorem relCells : Tryz.prog.cellsOf 149 = 2 := by kernel_rfl
theorem strCells : Tryz.prog.cellsOf 9 = 1 := by kernel_rfl
theorem typesSize : ∃ n, Tryz.prog.types.size = n + 1 := Nat.exists_eq_succ_of_ne_zero (Nat.ne_of_gt (Nat.lt_of_le_of_lt (Nat.zero_le _) relRow))
theorem relKeyOf (k : ByteArray × ByteArray) (h1 : k.1.size ≤ maxLen) (h2 : k.2.size ≤ maxLen) : ∃ kl, keyOf Tryz.prog 149 (encK k) = some kl := by
  obtain ⟨n, hn⟩ := typesSize
  refine ⟨.string (keyBytes [.string k.1.data.toList, .string k.2.data.toList]), ?_⟩
  unfold keyOf
  rw [Tryz.underlying149]
  simp only [relKeyT, encK, Value.formed, Tryz.underlying149, relCells, hn, Value.cells]
  simp [Program.keyLits, Tryz.underlying149, Tryz.underlying9, relCells, strCells, h1, h2]
end Go.Proofs.YtpnjoniolfmbnaaGreatDoor

/- Schemas in memory: relations and types, each a name and a slice of what stands below it. -/
namespace Go.Proofs.YtpnjoniolfmbnaaGreatDoor
open Go.ChangeShapes Go.WideShapes Go.ChangeAt Go.RowKit
open Pl

theorem ER.new.mono {B B' : Nat} {r : ER} (h : r.new B) (hB : B' ≤ B) : r.new B' := by
  obtain ⟨gA, gK, e1, e2, h1, h2, h3⟩ := h
  exact ⟨gA, gK, e1, e2, by omega, by omega, h3⟩

/-- Relation: its name and what stands below it -/
structure Rl where
  name : ByteArray
  expr : List Ex
structure RR where
  name : ByteArray
  rows : List ER
  ad : Option Addr
  cap : Nat
def RR.p (r : RR) : Rl := ⟨r.name, exs r.rows⟩
def RR.val (r : RR) : Value := .agg #[.string r.name, .slice r.ad r.rows.length r.cap]
def RR.ok (w : World) (r : RR) : Prop := SlE w r.ad r.rows
def RR.fits (r : RR) : Prop := r.name.size ≤ maxLen ∧ r.rows.length ≤ maxLen ∧ ∀ q ∈ r.rows, q.e.fits
def RR.light (r : RR) : Prop := r.rows.length ≤ 1048576 ∧ ∀ q ∈ r.rows, q.e.light
def RR.caps (r : RR) : Prop := r.rows.length ≤ r.cap ∧ ∀ q ∈ r.rows, q.e.allow.length ≤ q.capA
def RR.new (B : Nat) (r : RR) : Prop := (∃ g : Nat, r.ad = some ⟨g, 0, none⟩ ∧ B < g) ∧ ∀ q ∈ r.rows, q.new B
theorem RR.ok.below {w w' : World} {r : RR} (h : r.ok w) (hB : Below w.heap.size w w') : r.ok w' := SlE.below h hB
def AtR (w : World) (b off : Nat) (r : RR) : Prop := w.cell? ⟨b, off, none⟩ = some (.string r.name) ∧ w.cell? ⟨b, off + 1, none⟩ = some (.slice r.ad r.rows.length r.cap)
theorem AtR.same {w w' : World} {b off : Nat} {r : RR} (h : AtR w b off r) (hc : ∀ o, w'.cell? ⟨b, o, none⟩ = w.cell? ⟨b, o, none⟩) : AtR w' b off r := ⟨(hc _).trans h.1, (hc _).trans h.2⟩
theorem AtR.later {w w' : World} {b off : Nat} {r : RR} (h : AtR w b off r) (hb : b < w.heap.size) (hB : Below w.heap.size w w') : AtR w' b off r := h.same fun o => hB.cell (p := ⟨b, o, none⟩) hb
def SlR (w : World) (ad : Option Addr) (rs : List RR) : Prop := rs = [] ∨ ∃ b off, ad = some ⟨b, off, none⟩ ∧ b < w.heap.size ∧ (∀ (i : Nat) (h : i < rs.length), AtR w b (off + i * 2) rs[i]) ∧ ∀ r ∈ rs, r.ok w
theorem SlR.below {w w' : World} {ad : Option Addr} {rs : List RR} (h : SlR w ad rs) (hB : Below w.heap.size w w') : SlR w' ad rs := by
  rcases h with h | ⟨b, off, e, hb, hr, hk⟩
  · exact .inl h
  · exact .inr ⟨b, off, e, Nat.lt_of_lt_of_le hb hB.size, fun i hi => (hr i hi).same fun o => hB.cell (p := ⟨b, o, none⟩) hb, fun r hr => (hk r hr).below hB⟩
def rls (rs : List RR) : List Rl := rs.map RR.p
theorem rls_len (rs : List RR) : (rls rs).length = rs.length := by simp [rls]
theorem RR.ok.set {w : World} {r : RR} {g o : Nat} {v : Value} (h : r.ok w) (hn : r.new g) : r.ok (w.setCell ⟨g, o, none⟩ v) := by
  obtain ⟨⟨gE, e1, h1⟩, h2⟩ := hn
  rcases h with h | ⟨b, off, e, hb, hr, hk⟩
  · exact .inl h
  · refine .inr ⟨b, off, e, by simpa using hb, fun i hi => (hr i hi).same fun o => setB2 ?_, fun q hq => (hk q hq).set (h2 q hq)⟩
    rw [e1] at e; injection e with e; injection e with e3 e4; omega
theorem RR.new.mono {B B' : Nat} {r : RR} (h : r.new B) (hB : B' ≤ B) : r.new B' := by
  obtain ⟨⟨g, e, hg⟩, h2⟩ := h
  exact ⟨⟨g, e, by omega⟩, fun q hq => (h2 q hq).mono hB⟩

/-- Type: its name and what stands below it -/
structure Ty where
  name : ByteArray
  rels : List Rl
structure TR where
  name : ByteArray
  rows : List RR
  ad : Option Addr
  cap : Nat
def TR.p (r : TR) : Ty := ⟨r.name, rls r.rows⟩
def TR.val (r : TR) : Value := .agg #[.string r.name, .slice r.ad r.rows.length r.cap]
def TR.ok (w : World) (r : TR) : Prop := SlR w r.ad r.rows
def TR.fits (r : TR) : Prop := r.name.size ≤ maxLen ∧ r.rows.length ≤ maxLen ∧ ∀ q ∈ r.rows, q.fits
def TR.light (r : TR) : Prop := r.rows.length ≤ 1048576 ∧ ∀ q ∈ r.rows, q.light
def TR.caps (r : TR) : Prop := r.rows.length ≤ r.cap ∧ ∀ q ∈ r.rows, q.caps
def TR.new (B : Nat) (r : TR) : Prop := (∃ g : Nat, r.ad = some ⟨g, 0, none⟩ ∧ B < g) ∧ ∀ q ∈ r.rows, q.new B
theorem TR.ok.below {w w' : World} {r : TR} (h : r.ok w) (hB : Below w.heap.size w w') : r.ok w' := SlR.below h hB
def AtT (w : World) (b off : Nat) (r : TR) : Prop := w.cell? ⟨b, off, none⟩ = some (.string r.name) ∧ w.cell? ⟨b, off + 1, none⟩ = some (.slice r.ad r.rows.length r.cap)
theorem AtT.same {w w' : World} {b off : Nat} {r : TR} (h : AtT w b off r) (hc : ∀ o, w'.cell? ⟨b, o, none⟩ = w.cell? ⟨b, o, none⟩) : AtT w' b off r := ⟨(hc _).trans h.1, (hc _).trans h.2⟩
theorem AtT.later {w w' : World} {b off : Nat} {r : TR} (h : AtT w b off r) (hb : b < w.heap.size) (hB : Below w.heap.size w w') : AtT w' b off r := h.same fun o => hB.cell (p := ⟨b, o, none⟩) hb
def SlT (w : World) (ad : Option Addr) (rs : List TR) : Prop := rs = [] ∨ ∃ b off, ad = some ⟨b, off, none⟩ ∧ b < w.heap.size ∧ (∀ (i : Nat) (h : i < rs.length), AtT w b (off + i * 2) rs[i]) ∧ ∀ r ∈ rs, r.ok w
theorem SlT.below {w w' : World} {ad : Option Addr} {rs : List TR} (h : SlT w ad rs) (hB : Below w.heap.size w w') : SlT w' ad rs := by
  rcases h with h | ⟨b, off, e, hb, hr, hk⟩
  · exact .inl h
  · exact .inr ⟨b, off, e, Nat.lt_of_lt_of_le hb hB.size, fun i hi => (hr i hi).same fun o => hB.cell (p := ⟨b, o, none⟩) hb, fun r hr => (hk r hr).below hB⟩
def tys (rs : List TR) : List Ty := rs.map TR.p
theorem tys_len (rs : List TR) : (tys rs).length = rs.length := by simp [tys]
theorem TR.ok.set {w : World} {r : TR} {g o : Nat} {v : Value} (h : r.ok w) (hn : r.new g) : r.ok (w.setCell ⟨g, o, none⟩ v) := by
  obtain ⟨⟨gE, e1, h1⟩, h2⟩ := hn
  rcases h with h | ⟨b, off, e, hb, hr, hk⟩
  · exact .inl h
  · refine .inr ⟨b, off, e, by simpa using hb, fun i hi => (hr i hi).same fun o => setB2 ?_, fun q hq => (hk q hq).set (h2 q hq)⟩
    rw [e1] at e; injection e with e; injection e with e3 e4; omega
theorem TR.new.mono {B B' : Nat} {r : TR} (h : r.new B) (hB : B' ≤ B) : r.new B' := by
  obtain ⟨⟨g, e, hg⟩, h2⟩ := h
  exact ⟨⟨g, e, by omega⟩, fun q hq => (h2 q hq).mono hB⟩

end Go.Proofs.YtpnjoniolfmbnaaGreatDoor

/- Contracts of the document's functions that look a type, a relation, and whom it allows up in a schema. -/
namespace Go.Proofs.YtpnjoniolfmbnaaGreatDoor
open Go.ChangeShapes Go.WideShapes Go.ChangeAt Go.RowKit
open Pl

/-- the first relation of that name -/
def relIn : List Rl → ByteArray → Option (List Ex)
  | [], _ => none
  | r :: rs, n => if r.name.toList == n.toList then some r.expr else relIn rs n
/-- the first relation of that name of a type of that name -/
def relP : List Ty → ByteArray → ByteArray → Option (List Ex)
  | [], _, _ => none
  | t :: ts, ty, n => if t.name.toList == ty.toList then (relIn t.rels n).or (relP ts ty n) else relP ts ty n
def typP : List Ty → ByteArray → Bool
  | [], _ => false
  | t :: ts, ty => (t.name.toList == ty.toList) || typP ts ty

theorem tys_drop (rs : List TR) (k : Nat) (h : k < rs.length) : tys (rs.drop k) = ⟨rs[k].name, rls rs[k].rows⟩ :: tys (rs.drop (k + 1)) := by
  rw [List.drop_eq_getElem_cons h]; rfl
theorem rls_drop (rs : List RR) (k : Nat) (h : k < rs.length) : rls (rs.drop k) = ⟨rs[k].name, exs rs[k].rows⟩ :: rls (rs.drop (k + 1)) := by
  rw [List.drop_eq_getElem_cons h]; rfl

set_option maxHeartbeats 1000000 in
theorem l2Type_any (ad : Option Addr) (cap : Nat) (rs : List TR) (typ : ByteArray) (w : World) (hlen : rs.length ≤ 1048576) (hs : SlT w ad rs) :
    Calls Tryz.prog 122 #[.slice ad rs.length cap, .string typ] w fun e w' => e = .returned (.bool (typP (tys rs) typ)) ∧ w' = w := by
  go_enter Tryz.func122, Tryz.ntmps122
  go_wp2
  go_loopw [5] (fun i wr => ∃ k : Nat, k ≤ rs.length ∧ i = .int .i64 k ∧ Hid (typP (tys (rs.drop k)) typ = typP (tys rs) typ) ∧ wr = w) (fun i _ => rs.length - (intOf i).toNat)
  case atStart => exact ⟨0, Nat.zero_le _, rfl, rfl, rfl⟩
  case round =>
    obtain ⟨k, hk, rfl, HP, rfl⟩ := hrel
    by_cases hlt : k < rs.length
    · rcases hs with rfl | ⟨b, off, rfl, hb, hr, hok⟩
      · simp at hlt
      obtain ⟨t0, t1⟩ := hr k hlt
      have hk1 : (0 : Int) ≤ (k : Int) := by omega
      have hk2 : (k : Int) < (rs.length : Int) := by omega
      clear hr hok
      cases hq : (rs[k].name.toList == typ.toList) with
      | true =>
        have HN : Hid (typP (tys rs) typ = true) := by show _ = _; rw [← HP.out, tys_drop _ _ hlt]; simp [typP, hq]
        go_wp2
        go_ret
        exact ⟨by rw [HN.out]; rfl, rfl⟩
      | false =>
        have HP2 : Hid (typP (tys (rs.drop (k + 1))) typ = typP (tys rs) typ) := by show _ = _; rw [← HP.out, tys_drop _ _ hlt]; simp [typP, hq]
        go_wp2
        go_roundw
        case rel => exact ⟨k + 1, by omega, by go_num, HP2, by first | rfl | trivial⟩
        case measure => first | (simp [intOf]; done) | (simp [intOf]; omega)
    · have HN : Hid (typP (tys rs) typ = false) := by show _ = _; rw [← HP.out, List.drop_of_length_le (by omega)]; rfl
      go_wp2
      go_ret
      exact ⟨by rw [HN.out]; rfl, rfl⟩

/-- the rows of a relation of the schema, where they lie there, or none -/
def FromS (rs : List TR) (ad : Option Addr) (rows : List ER) : Prop := rows = [] ∨ ∃ t ∈ rs, ∃ q ∈ t.rows, rows = q.rows ∧ ad = q.ad
theorem SlR.mem {w : World} {ad : Option Addr} {rs : List RR} (h : SlR w ad rs) {q : RR} (hq : q ∈ rs) : q.ok w := by
  rcases h with rfl | ⟨b, off, e, hb, hr, hk⟩
  · cases hq
  · exact hk q hq
theorem SlT.mem {w : World} {ad : Option Addr} {rs : List TR} (h : SlT w ad rs) {q : TR} (hq : q ∈ rs) : q.ok w := by
  rcases h with rfl | ⟨b, off, e, hb, hr, hk⟩
  · cases hq
  · exact hk q hq
theorem FromS.sl {rs : List TR} {ad ad0 : Option Addr} {rows : List ER} {w : World} (h : FromS rs ad rows) (hs : SlT w ad0 rs) : SlE w ad rows := by
  rcases h with rfl | ⟨t, ht, q, hq, rfl, rfl⟩
  · exact .inl rfl
  · exact SlR.mem (hs.mem ht) hq

set_option maxHeartbeats 2000000 in
theorem l2Rel_any (ad : Option Addr) (cap : Nat) (rs : List TR) (typ rel : ByteArray) (w : World) (hlen : rs.length ≤ 1048576) (hs : SlT w ad rs) (hl : ∀ r ∈ rs, r.light) :
    Calls Tryz.prog 105 #[.slice ad rs.length cap, .string typ, .string rel] w fun e w' => (∃ (rows : List ER) (ad' : Option Addr) (cap' : Nat), e = .returned (.slice ad' rows.length cap') ∧ exs rows = (relP (tys rs) typ rel).getD [] ∧ SlE w ad' rows ∧ FromS rs ad' rows) ∧ w' = w := by
  have HS : Hid (SlT w ad rs) := hs
  have HL : Hid (∀ r ∈ rs, r.light) := hl
  clear hs hl
  go_enter Tryz.func105, Tryz.ntmps105
  go_wp2
  go_loopw [7] (fun i wr => ∃ k : Nat, k ≤ rs.length ∧ i = .int .i64 k ∧ Hid (relP (tys (rs.drop k)) typ rel = relP (tys rs) typ rel) ∧ wr = w) (fun i _ => rs.length - (intOf i).toNat)
  case atStart => exact ⟨0, Nat.zero_le _, rfl, rfl, rfl⟩
  case round =>
    obtain ⟨k, hk, rfl, HP, rfl⟩ := hrel
    by_cases hlt : k < rs.length
    · rcases HS.out with rfl | ⟨b, off, rfl, hb, hr, hok⟩
      · simp at hlt
      obtain ⟨t0, t1⟩ := hr k hlt
      have ok := hok rs[k] (List.getElem_mem hlt)
      have lg := (HL.out rs[k] (List.getElem_mem hlt)).1
      have HOK : Hid (rs[k].ok wr) := ok
      have hk1 : (0 : Int) ≤ (k : Int) := by omega
      have hk2 : (k : Int) < (rs.length : Int) := by omega
      clear hr hok ok
      cases hq : (rs[k].name.toList == typ.toList) with
      | false =>
        have HP2 : Hid (relP (tys (rs.drop (k + 1))) typ rel = relP (tys rs) typ rel) := by show _ = _; rw [← HP.out, tys_drop _ _ hlt]; simp [relP, hq]
        go_wp2_with fail
        go_loopw [8] (fun i w2 => i = .int .i64 0 ∧ w2 = wr) (fun i _ => (intOf i).toNat)
        case atStart => exact ⟨rfl, rfl⟩
        case round =>
          obtain ⟨rfl, rfl⟩ := hrel
          go_wp2
          go_roundw
          case rel => exact ⟨k + 1, by omega, by go_num, HP2, by first | rfl | trivial⟩
          case measure => first | (simp [intOf]; done) | (simp [intOf]; omega)
      | true =>
        go_wp2_with fail
        go_loopw [8] (fun i w2 => ∃ j : Nat, j ≤ rs[k].rows.length ∧ i = .int .i64 j ∧ Hid (relIn (rls (rs[k].rows.drop j)) rel = relIn (rls rs[k].rows) rel) ∧ w2 = wr) (fun i _ => rs[k].rows.length - (intOf i).toNat)
        case atStart => exact ⟨0, Nat.zero_le _, rfl, rfl, rfl⟩
        case round =>
          obtain ⟨j, hj, rfl, HI, rfl⟩ := hrel
          by_cases hjl : j < rs[k].rows.length
          · rcases HOK.out with hnil | ⟨b2, off2, had, hb2, hr2, hok2⟩
            · rw [hnil] at hjl; simp at hjl
            have t1' := t1
            rw [had] at t1'
            obtain ⟨q0, q1⟩ := hr2 j hjl
            have HOQ : Hid (rs[k].rows[j].ok _) := hok2 rs[k].rows[j] (List.getElem_mem hjl)
            have hj1 : (0 : Int) ≤ (j : Int) := by omega
            have hj2 : (j : Int) < (rs[k].rows.length : Int) := by omega
            clear hr2 hok2 had t1
            cases hn : (rs[k].rows[j].name.toList == rel.toList) with
            | true =>
              have HN : Hid (exs rs[k].rows[j].rows = (relP (tys rs) typ rel).getD []) := by
                have h1 : relIn (rls rs[k].rows) rel = some (exs rs[k].rows[j].rows) := by rw [← HI.out, rls_drop _ _ hjl]; simp [relIn, hn]
                show _ = _
                rw [← HP.out, tys_drop _ _ hlt]
                simp [relP, hq, h1]
              have HFS : Hid (FromS rs rs[k].rows[j].ad rs[k].rows[j].rows) := .inr ⟨rs[k], List.getElem_mem hlt, rs[k].rows[j], List.getElem_mem hjl, rfl, rfl⟩
              go_wp2
              go_ret
              exact ⟨⟨rs[k].rows[j].rows, _, _, rfl, HN.out, HOQ.out, HFS.out⟩, rfl⟩
            | false =>
              have HI2 : Hid (relIn (rls (rs[k].rows.drop (j + 1))) rel = relIn (rls rs[k].rows) rel) := by show _ = _; rw [← HI.out, rls_drop _ _ hjl]; simp [relIn, hn]
              go_wp2
              go_roundw
              case rel => exact ⟨j + 1, by omega, by go_num, HI2, by first | rfl | trivial⟩
              case measure => first | (simp [intOf]; done) | (simp [intOf]; omega)
          · have HP2 : Hid (relP (tys (rs.drop (k + 1))) typ rel = relP (tys rs) typ rel) := by
              have h1 : relIn (rls rs[k].rows) rel = none := by rw [← HI.out, List.drop_of_length_le (by omega)]; rfl
              show _ = _
              rw [← HP.out, tys_drop _ _ hlt]
              simp [relP, hq, h1]
            go_wp2
            go_roundw
            case rel => exact ⟨k + 1, by omega, by go_num, HP2, by first | rfl | trivial⟩
            case measure => first | (simp [intOf]; done) | (simp [intOf]; omega)
    · have HN : Hid (exs [] = (relP (tys rs) typ rel).getD []) := by show _ = _; rw [← HP.out, List.drop_of_length_le (by omega)]; rfl
      go_wp2
      go_ret
      exact ⟨⟨[], none, 0, rfl, HN.out, .inl rfl, .inl rfl⟩, rfl⟩

end Go.Proofs.YtpnjoniolfmbnaaGreatDoor

/- Contracts of the document's functions on whom a relation allows, on what is told by objects, and on goals. -/
namespace Go.Proofs.YtpnjoniolfmbnaaGreatDoor
open Go.ChangeShapes Go.WideShapes Go.ChangeAt Go.RowKit
open Pl

/-- whom a relation's tuples may name -/
def allowP : List Ex → List Al
  | [] => []
  | e :: es => if e.kind = 1 then e.allow else allowP es
theorem exs_drop (rs : List ER) (k : Nat) (h : k < rs.length) : exs (rs.drop k) = rs[k].e :: exs (rs.drop (k + 1)) := by
  rw [List.drop_eq_getElem_cons h]; rfl

/-- the list of a node, where it lies there, or none -/
def FromA (rs : List ER) (ad : Option Addr) (xs : List Al) : Prop := xs = [] ∨ ∃ r ∈ rs, xs = r.e.allow ∧ ad = r.adA
theorem SlE.mem {w : World} {ad : Option Addr} {rs : List ER} (h : SlE w ad rs) {q : ER} (hq : q ∈ rs) : q.ok w := by
  rcases h with rfl | ⟨b, off, e, hb, hr, hk⟩
  · cases hq
  · exact hk q hq
theorem FromA.sl {rs : List ER} {ad ad0 : Option Addr} {xs : List Al} {w : World} (h : FromA rs ad xs) (hs : SlE w ad0 rs) : SlA w ad xs := by
  rcases h with rfl | ⟨r, hr, rfl, rfl⟩
  · exact .inl rfl
  · exact (hs.mem hr).1

set_option maxHeartbeats 1000000 in
theorem l2Allow_any (ad : Option Addr) (cap : Nat) (rs : List ER) (w : World) (hlen : rs.length ≤ 1048576) (hs : SlE w ad rs) :
    Calls Tryz.prog 104 #[.slice ad rs.length cap] w fun e w' => (∃ (ad' : Option Addr) (cap' : Nat), e = .returned (.slice ad' (allowP (exs rs)).length cap') ∧ SlA w ad' (allowP (exs rs)) ∧ FromA rs ad' (allowP (exs rs))) ∧ w' = w := by
  have HS : Hid (SlE w ad rs) := hs
  clear hs
  go_enter Tryz.func104, Tryz.ntmps104
  go_wp2
  go_loopw [3] (fun i wr => ∃ k : Nat, k ≤ rs.length ∧ i = .int .i64 k ∧ Hid (allowP (exs (rs.drop k)) = allowP (exs rs)) ∧ wr = w) (fun i _ => rs.length - (intOf i).toNat)
  case atStart => exact ⟨0, Nat.zero_le _, rfl, rfl, rfl⟩
  case round =>
    obtain ⟨k, hk, rfl, HP, rfl⟩ := hrel
    by_cases hlt : k < rs.length
    · rcases HS.out with rfl | ⟨b, off, rfl, hb, hr, hok⟩
      · simp at hlt
      obtain ⟨t0, t1, t2, t3, t4⟩ := hr k hlt
      have HOK : Hid (rs[k].ok _) := hok rs[k] (List.getElem_mem hlt)
      have hk1 : (0 : Int) ≤ (k : Int) := by omega
      have hk2 : (k : Int) < (rs.length : Int) := by omega
      clear hr hok
      by_cases hq : rs[k].e.kind = 1
      · have HN : Hid (allowP (exs rs) = rs[k].e.allow) := by show _ = _; rw [← HP.out, exs_drop _ _ hlt]; simp [allowP, hq]
        go_wp2
        go_ret
        exact ⟨⟨rs[k].adA, rs[k].capA, by rw [HN.out]; rfl, by rw [HN.out]; exact HOK.out.1, .inr ⟨rs[k], List.getElem_mem hlt, HN.out, rfl⟩⟩, rfl⟩
      · have HP2 : Hid (allowP (exs (rs.drop (k + 1))) = allowP (exs rs)) := by show _ = _; rw [← HP.out, exs_drop _ _ hlt]; simp [allowP, hq]
        have hqb : (rs[k].e.kind == 1) = false := by simpa using hq
        go_wp2
        go_roundw
        case rel => exact ⟨k + 1, by omega, by go_num, HP2, by first | rfl | trivial⟩
        case measure => first | (simp [intOf]; done) | (simp [intOf]; omega)
    · have HN : Hid (allowP (exs rs) = []) := by show _ = _; rw [← HP.out, List.drop_of_length_le (by omega)]; rfl
      go_wp2
      go_ret
      exact ⟨⟨none, 0, by rw [HN.out]; rfl, by rw [HN.out]; exact .inl rfl, .inl HN.out⟩, rfl⟩

/-- is a relation told by tuples alone, that name objects alone? -/
def directP : List Ex → Bool
  | [e] => decide (e.kind = 1) && e.allow.all fun a => a.s.toList.isEmpty
  | _ => false
def noSet (xs : List Al) (k : Nat) : Bool := (xs.take k).all fun a => a.s.toList.isEmpty
theorem noSet_succ (xs : List Al) (k : Nat) (h : k < xs.length) : noSet xs (k + 1) = (noSet xs k && xs[k].s.toList.isEmpty) := by
  unfold noSet; rw [List.take_succ_eq_append_getElem h, List.all_append]; simp
theorem noSet_bad (xs : List Al) (k : Nat) (h : k < xs.length) (hb : xs[k].s.toList.isEmpty = false) : (xs.all fun a => a.s.toList.isEmpty) = false := by
  rw [Bool.eq_false_iff]; intro h2; rw [List.all_eq_true] at h2; have := h2 xs[k] (List.getElem_mem h); rw [hb] at this; cases this

set_option maxHeartbeats 1000000 in
theorem l2Direct_any (ad : Option Addr) (cap : Nat) (rs : List ER) (w : World) (hlen : rs.length ≤ 1048576) (hs : SlE w ad rs) (hl : ∀ r ∈ rs, r.e.light) :
    Calls Tryz.prog 123 #[.slice ad rs.length cap] w fun e w' => e = .returned (.bool (directP (exs rs))) ∧ w' = w := by
  by_cases h1 : rs.length = 1
  · obtain ⟨r, rfl⟩ : ∃ r, rs = [r] := List.length_eq_one_iff.1 h1
    rcases hs with h | ⟨b, off, rfl, hb, hr, hok⟩
    · cases h
    obtain ⟨t0, t1, t2, t3, t4⟩ := hr 0 (by simp)
    simp only [Nat.zero_mul, Nat.add_zero, List.getElem_cons_zero] at t0 t1 t2 t3 t4
    have HOK : Hid (r.ok w) := hok r (by simp)
    obtain ⟨lg, -⟩ := hl r (by simp)
    clear hr hok h1
    simp only [List.length_cons, List.length_nil, Nat.zero_add]
    by_cases hq : r.e.kind = 1
    · have HD : Hid (directP (exs [r]) = r.e.allow.all fun a => a.s.toList.isEmpty) := by show _ = _; simp [directP, exs, hq]
      go_enter Tryz.func123, Tryz.ntmps123
      go_wp2
      go_loopw [3] (fun i wr => ∃ k : Nat, k ≤ r.e.allow.length ∧ i = .int .i64 k ∧ Hid (noSet r.e.allow k = true) ∧ wr = w) (fun i _ => r.e.allow.length - (intOf i).toNat)
      case atStart => exact ⟨0, Nat.zero_le _, rfl, (by show _ = _; simp [noSet]), rfl⟩
      case round =>
        obtain ⟨k, hk, rfl, HP, rfl⟩ := hrel
        by_cases hlt : k < r.e.allow.length
        · rcases HOK.out.1 with hnil | ⟨ba, offa, hadA, hba, hra⟩
          · rw [hnil] at hlt; simp at hlt
          have t1' := t1
          rw [hadA] at t1'
          obtain ⟨q0, q1⟩ := hra k hlt
          have hk1 : (0 : Int) ≤ (k : Int) := by omega
          have hk2 : (k : Int) < (r.e.allow.length : Int) := by omega
          clear hra hadA t1
          cases he : r.e.allow[k].s.toList.isEmpty with
          | true =>
            have HP2 : Hid (noSet r.e.allow (k + 1) = true) := by show _ = _; rw [noSet_succ _ _ hlt, HP.out, he]; rfl
            go_wp2
            go_roundw
            case rel => exact ⟨k + 1, by omega, by go_num, HP2, by first | rfl | trivial⟩
            case measure => first | (simp [intOf]; done) | (simp [intOf]; omega)
          | false =>
            have HN : Hid (directP (exs [r]) = false) := by show _ = _; rw [HD.out]; exact noSet_bad _ k hlt he
            go_wp2
            go_ret
            exact ⟨by rw [HN.out]; rfl, rfl⟩
        · have HN : Hid (directP (exs [r]) = true) := by
            show _ = _
            rw [HD.out]
            have := HP.out
            unfold noSet at this
            rwa [List.take_of_length_le (by omega)] at this
          go_wp2
          go_ret
          exact ⟨by rw [HN.out]; rfl, rfl⟩
    · have HN : Hid (directP (exs [r]) = false) := by show _ = _; simp [directP, exs, hq]
      have hqb : (r.e.kind != 1) = true := by simpa using hq
      go_enter Tryz.func123, Tryz.ntmps123
      go_wp2
      go_ret
      exact ⟨by rw [HN.out]; rfl, rfl⟩
  · have HN : Hid (directP (exs rs) = false) := by
      show _ = _
      match rs, h1 with
      | [], _ => rfl
      | [r], h => exact absurd rfl h
      | a :: b :: r, _ => rfl
    have h1' : ((rs.length : Int) != 1) = true := by simp; omega
    go_enter Tryz.func123, Tryz.ntmps123
    go_wp2
    go_ret
    exact ⟨by rw [HN.out]; rfl, rfl⟩

end Go.Proofs.YtpnjoniolfmbnaaGreatDoor
