/- Plain functions on bytes that the contracts of this seat's texts are stated by: which names and ids are right. Nothing of the program is read here. -/
import Derived.WalkKit
import Derived.Test.YthicofnjehpalaaGreatRows
import Derived.WalkLawsBesides
import Derived.ProofKit
import Derived.Maps.OwnSet
import Derived.DeepKeys4
namespace Go.Proofs.YthicofnjehpalaaGreat.Pl

def letB (c : UInt8) : Bool := decide (97 ≤ c.toNat) && decide (c.toNat ≤ 122)
def idB (c : UInt8) : Bool := letB c || (decide (48 ≤ c.toNat) && decide (c.toNat ≤ 57)) || decide (c.toNat = 95)
def lenB (s : ByteArray) : Bool := decide (1 ≤ s.size) && decide (s.size ≤ 12)
def allB (p : UInt8 → Bool) (s : ByteArray) : Bool := s.data.toList.all p
def signsB (p : UInt8 → Bool) (s : ByteArray) : Bool := lenB s && allB p s
def notThis (s : ByteArray) : Bool := !(s.toList == [116, 104, 105, 115])
def nameB (s : ByteArray) : Bool := signsB letB s && notThis s
def isIdB (s : ByteArray) : Bool := signsB idB s

theorem ret_bool {a b : Bool} (h : a = b) : Ending.returned (.bool a) = .returned (.bool b) := by rw [h]

theorem take_snoc (s : ByteArray) (k : Nat) (h : k < s.size) : s.data.toList.take (k + 1) = s.data.toList.take k ++ [s[k]] := by
  rw [List.take_succ_eq_append_getElem (by simpa using h)]; rfl

/-- all of the first k -/
def upB (p : UInt8 → Bool) (s : ByteArray) (k : Nat) : Bool := (s.data.toList.take k).all p
theorem upB_zero (p : UInt8 → Bool) (s : ByteArray) : upB p s 0 = true := by simp [upB]
theorem upB_succ (p : UInt8 → Bool) (s : ByteArray) (k : Nat) (h : k < s.size) : upB p s (k + 1) = (upB p s k && p s[k]) := by
  unfold upB; rw [take_snoc s k h]; simp
theorem upB_end (p : UInt8 → Bool) (s : ByteArray) (k : Nat) (h : s.size ≤ k) : upB p s k = allB p s := by
  unfold upB allB; rw [List.take_of_length_le (by simpa using h)]
theorem upB_bad (p : UInt8 → Bool) (s : ByteArray) (k : Nat) (h : k < s.size) (hb : p s[k] = false) : allB p s = false := by
  unfold allB
  rw [List.all_eq_false]
  exact ⟨s[k], by simp [ByteArray.getElem_eq_getElem_data], by simp [hb]⟩

/-- an object's type and id are right -/
def objB (t i : ByteArray) : Bool := nameB t && isIdB i

end Go.Proofs.YthicofnjehpalaaGreat.Pl

/- Contracts of the functions that look at names and ids, the document's model beside the program's: each returns what the plain function says and leaves the world as it was. -/
namespace Go.Proofs.YthicofnjehpalaaGreat
open Go.ChangeShapes Go.WideShapes Go.ChangeAt Go.RowKit
open Pl

theorem isLetter_any (c : UInt8) (w : World) :
    Calls Tryz.prog 87 #[.int .u8 c.toNat] w fun e w' => e = .returned (.bool (letB c)) ∧ w' = w := by
  go_enter Tryz.func87, Tryz.ntmps87
  go_wp2
  all_goals go_ret
  all_goals refine ⟨ret_bool ?_, rfl⟩
  all_goals (rw [Bool.eq_iff_iff]; simp [letB]; omega)

theorem specName_any (s : ByteArray) (w : World) (hs : s.size ≤ maxLen) :
    Calls Tryz.prog 32 #[.string s] w fun e w' => e = .returned (.bool (nameB s)) ∧ w' = w := by
  unfold maxLen at hs
  by_cases h1 : 1 ≤ s.size ∧ s.size ≤ 12
  · obtain ⟨ha, hb⟩ := h1
    go_enter Tryz.func32, Tryz.ntmps32
    go_wp2
    go_loop [3] (fun i => ∃ k : Nat, k ≤ s.size ∧ i = .int .i64 k ∧ Hid (upB letB s k = true)) (fun i => s.size - (intOf i).toNat)
    case atStart => exact ⟨0, Nat.zero_le _, rfl, upB_zero _ _⟩
    case round =>
      obtain ⟨k, hk, rfl, hu⟩ := hrel
      by_cases hlt : k < s.size
      · by_cases hc : letB s[k] = true
        · have hc1 : 97 ≤ s[k].toNat := by simp [letB] at hc; omega
          have hc2 : s[k].toNat ≤ 122 := by simp [letB] at hc; omega
          have HU : Hid (upB letB s (k + 1) = true) := by show _ = _; rw [upB_succ _ _ _ hlt, hc, hu.out]; rfl
          clear hc
          go_wp2
          go_round
          case rel => exact ⟨k + 1, by omega, by go_num, HU⟩
          case measure => simp [intOf]; omega
        · have hc' : letB s[k] = false := by simpa using hc
          have HB : Hid (allB letB s = false) := upB_bad _ _ _ hlt hc'
          have hd : s[k].toNat < 97 ∨ 122 < s[k].toNat := by simp [letB] at hc'; omega
          clear hc hc'
          rcases hd with hd | hd
          all_goals
            go_wp2
            go_ret
            exact ⟨ret_bool (by simp [nameB, signsB, HB.out]), rfl⟩
      · go_wp2
        go_ret
        refine ⟨ret_bool ?_, rfl⟩
        have hall : allB letB s = true := by rw [← upB_end letB s k (by omega)]; exact hu.out
        have hl : lenB s = true := by simp [lenB]; omega
        simp [nameB, signsB, notThis, hall, hl]
  · have hn : lenB s = false := by simp [lenB]; omega
    have HN : Hid (nameB s = false) := by show _ = _; simp [nameB, signsB, hn]
    clear hn
    by_cases ha : 1 ≤ s.size
    · have hb : 12 < s.size := by omega
      clear h1
      go_enter Tryz.func32, Tryz.ntmps32
      go_wp2
      go_ret
      exact ⟨ret_bool HN.out.symm, rfl⟩
    · have ha' : s.size < 1 := by omega
      clear h1
      go_enter Tryz.func32, Tryz.ntmps32
      go_wp2
      go_ret
      exact ⟨ret_bool HN.out.symm, rfl⟩

theorem signs_isLetter (s : ByteArray) (w : World) (hs : s.size ≤ maxLen) :
    Calls Tryz.prog 86 #[.string s, .func (Fn.func 87) #[] #[]] w fun e w' => e = .returned (.bool (signsB letB s)) ∧ w' = w := by
  unfold maxLen at hs
  by_cases h1 : 1 ≤ s.size ∧ s.size ≤ 12
  · obtain ⟨ha, hb⟩ := h1
    go_enter Tryz.func86, Tryz.ntmps86
    go_wp2
    go_loop [16] (fun i => ∃ k : Nat, k ≤ s.size ∧ i = .int .i64 k ∧ Hid (upB letB s k = true)) (fun i => s.size - (intOf i).toNat)
    case atStart => exact ⟨0, Nat.zero_le _, rfl, upB_zero _ _⟩
    case round =>
      obtain ⟨k, hk, rfl, hu⟩ := hrel
      by_cases hlt : k < s.size
      · by_cases hc : letB s[k] = true
        · have HU : Hid (upB letB s (k + 1) = true) := by show _ = _; rw [upB_succ _ _ _ hlt, hc, hu.out]; rfl
          go_wp2_with (go_at_call 87; refine (isLetter_any _ _).mono ?_; rintro e w' ⟨rfl, rfl⟩)
          go_round
          case rel => exact ⟨k + 1, by omega, by go_num, HU⟩
          case measure => simp [intOf]; omega
        · have hc' : letB s[k] = false := by simpa using hc
          have HB : Hid (allB letB s = false) := upB_bad _ _ _ hlt hc'
          clear hc
          go_wp2_with (go_at_call 87; refine (isLetter_any _ _).mono ?_; rintro e w' ⟨rfl, rfl⟩)
          go_ret
          exact ⟨ret_bool (by simp [signsB, HB.out]), rfl⟩
      · go_wp2
        go_ret
        refine ⟨ret_bool ?_, rfl⟩
        have hall : allB letB s = true := by rw [← upB_end letB s k (by omega)]; exact hu.out
        have hl : lenB s = true := by simp [lenB]; omega
        simp [signsB, hall, hl]
  · have hn : lenB s = false := by simp [lenB]; omega
    have HN : Hid (signsB letB s = false) := by show _ = _; simp [signsB, hn]
    clear hn
    by_cases ha : 1 ≤ s.size
    · have hb : 12 < s.size := by omega
      clear h1
      go_enter Tryz.func86, Tryz.ntmps86
      go_wp2
      go_ret
      exact ⟨ret_bool HN.out.symm, rfl⟩
    · have ha' : s.size < 1 := by omega
      clear h1
      go_enter Tryz.func86, Tryz.ntmps86
      go_wp2
      go_ret
      exact ⟨ret_bool HN.out.symm, rfl⟩

theorem implName_any (s : ByteArray) (w : World) (hs : s.size ≤ maxLen) :
    Calls Tryz.prog 66 #[.string s] w fun e w' => e = .returned (.bool (nameB s)) ∧ w' = w := by
  by_cases h : s.toList = [116, 104, 105, 115]
  · have hb : (s.toList == [116, 104, 105, 115]) = true := by simp [h]
    have HN : Hid (nameB s = false) := by show _ = _; simp [nameB, notThis, h]
    clear h
    go_enter Tryz.func66, Tryz.ntmps66
    go_wp2
    go_ret
    exact ⟨ret_bool HN.out.symm, rfl⟩
  · have hb : (s.toList == [116, 104, 105, 115]) = false := by simp [h]
    have HN : Hid (nameB s = signsB letB s) := by show _ = _; simp [nameB, notThis, h]
    clear h
    go_enter Tryz.func66, Tryz.ntmps66
    go_wp2_with (go_at_call 86; refine (signs_isLetter _ _ hs).mono ?_; rintro e w' ⟨rfl, rfl⟩)
    go_ret
    exact ⟨ret_bool HN.out.symm, rfl⟩

end Go.Proofs.YthicofnjehpalaaGreat

/- Maps in memory as functions: which value lies at a key, whatever its type. -/
namespace Go.Proofs.YthicofnjehpalaaGreat
open Go.ChangeShapes Go.WideShapes Go.ChangeAt Go.RowKit Go.Maps

/-- every value reads as itself -/
def anyR (v : Value) : Option (DataW Value × List MemPlace) := some (.held v, [])

section
variable {K : Type} (enc : K → Value) (P : Program) (k : TypeId)
/-- what the datum says at a key -/
def SaysAt (D : DataW Value) (kl : Lit) : Option Value → Prop
  | none => Maps.has D kl = false ∧ ∀ z, D.atKey kl z = z
  | some v => Maps.has D kl = true ∧ ∀ z, D.atKey kl z = .held v
/-- block b is a map of at most n entries that holds M -/
def MapV (w : World) (b n : Nat) (M : K → Option Value) : Prop :=
  ∃ D : DataW Value, w.ownsMap P k anyR b n D ∧ ∀ x kl, keyOf P k (enc x) = some kl → SaysAt D kl (M x)
def updM [DecidableEq K] (M : K → Option Value) (x : K) (v : Option Value) : K → Option Value := fun y => if y = x then v else M y
end

section
variable {K : Type} {enc : K → Value} {P : Program} {k : TypeId} {w : World} {b n : Nat} {M : K → Option Value}
theorem updM_same [DecidableEq K] (M : K → Option Value) (x : K) (v : Option Value) : updM M x v x = v := by simp [updM]
theorem updM_other [DecidableEq K] {M : K → Option Value} {x y : K} {v : Option Value} (h : y ≠ x) : updM M x v y = M y := by simp [updM, h]

theorem mapV_made (enc : K → Value) (P : Program) (k : TypeId) (w : World) : MapV enc P k (w.alloc (.map #[] 0)) w.heap.size 0 (fun _ => none) :=
  ⟨.map [], World.ownsMap_made w P k anyR, fun _ kl _ => ⟨rfl, fun z => by simp [DataW.atKey]⟩⟩
theorem MapV.lt (h : MapV enc P k w b n M) : b < w.heap.size := by obtain ⟨D, h1, -⟩ := h; exact h1.lt
theorem MapV.mono (h : MapV enc P k w b n M) {n' : Nat} (hn : n ≤ n') : MapV enc P k w b n' M := by obtain ⟨D, h1, h2⟩ := h; exact ⟨D, h1.mono hn, h2⟩
theorem MapV.kept {w' : World} {row : Option Nat} (h : MapV enc P k w b n M) (hg : w.grownBy w' row) (hne : some b ≠ row) : MapV enc P k w' b n M := by
  obtain ⟨D, h1, h2⟩ := h; exact ⟨D, h1.kept hg hne, h2⟩
theorem MapV.below {w' : World} (h : MapV enc P k w b n M) (hB : Below w.heap.size w w') : MapV enc P k w' b n M :=
  h.kept (row := none) ⟨hB.os, hB.tape, hB.output, hB.size, fun k hk _ => hB.block k hk⟩ (by simp)
theorem MapV.setCell (h : MapV enc P k w b n M) {a : Addr} (ha : b ≠ a.block) (u : Value) : MapV enc P k (w.setCell a u) b n M := by
  obtain ⟨D, h1, h2⟩ := h; exact ⟨D, h1.setCell ha u, h2⟩

theorem MapV.look {t e : TypeId} (h : MapV enc P k w b n M) (L : Keyed P k) (ht : P.underlying t = some (.map k e)) {z : Value} (hz : (zeroValue e).run P w = .ok z w) {x : K} {kl : Lit} (hkey : keyOf P k (enc x) = some kl) :
    (Instr.lookup t (.map (some b)) (enc x) false).run P w = .ok ((M x).getD z) w := by
  obtain ⟨D, h1, h2⟩ := h
  obtain ⟨v, ps, hrun, hv⟩ := h1.lookup L ht hz (zd := .held z) (zp := []) rfl hkey
  have h3 := h2 x kl hkey
  rw [hrun]
  have : v = (M x).getD z := by
    simp only [anyR, Option.some.injEq, Prod.mk.injEq] at hv
    cases e : M x with
    | none => rw [e] at h3; rw [h3.2] at hv; injection hv.1 with h4
    | some u => rw [e] at h3; rw [h3.2] at hv; injection hv.1 with h4
  rw [this]
theorem MapV.look_ok {t e : TypeId} (h : MapV enc P k w b n M) (L : Keyed P k) (ht : P.underlying t = some (.map k e)) {z : Value} (hz : (zeroValue e).run P w = .ok z w) {x : K} {kl : Lit} (hkey : keyOf P k (enc x) = some kl) :
    (Instr.lookup t (.map (some b)) (enc x) true).run P w = .ok (.tuple #[(M x).getD z, .bool (M x).isSome]) w := by
  obtain ⟨D, h1, h2⟩ := h
  obtain ⟨v, ps, hrun, hv⟩ := h1.look_ok L ht hz (zd := .held z) (zp := []) rfl hkey
  have h3 := h2 x kl hkey
  rw [hrun]
  simp only [anyR, Option.some.injEq, Prod.mk.injEq] at hv
  cases e : M x with
  | none => rw [e] at h3; rw [h3.2] at hv; injection hv.1 with h4; rw [h4, h3.1]; rfl
  | some u => rw [e] at h3; rw [h3.2] at hv; injection hv.1 with h4; rw [h4, h3.1]; rfl
theorem MapV.store [DecidableEq K] {t e : TypeId} (h : MapV enc P k w b n M) (L : Keyed P k) (hinj : ∀ x y, enc x = enc y → x = y) (ht : P.underlying t = some (.map k e)) (hn : n < maxLen) {x : K} {kl : Lit} (hkey : keyOf P k (enc x) = some kl) (v : Value) :
    ∃ w', (Instr.mapUpdate t (.map (some b)) (enc x) v).run P w = .ok () w' ∧ MapV enc P k w' b (n + 1) (updM M x (some v)) ∧ w.grownBy w' (some b) := by
  obtain ⟨D, h1, h2⟩ := h
  obtain ⟨w', hrun, h3, h4⟩ := h1.update L ht hn hkey (val := v) (d := .held v) (ps := []) rfl
  refine ⟨w', hrun, ⟨D.put kl (.held v), h3, fun y ky hy => ?_⟩, h4⟩
  by_cases e : y = x
  · subst e
    obtain rfl : ky = kl := by rw [hkey] at hy; injection hy with hy; exact hy.symm
    rw [updM_same]
    exact ⟨has_put_same h1.isMap (L.key hkey) _, fun z => atKey_put_same h1.isMap (L.key hkey) _ z⟩
  · have hne : ky ≠ kl := fun e2 => e (hinj _ _ (L.inj (by rw [e2] at hy; exact hy) hkey))
    rw [updM_other e]
    have h5 := h2 y ky hy
    cases e3 : M y with
    | none => rw [e3] at h5; exact ⟨by rw [has_put_other hne]; exact h5.1, fun z => by rw [atKey_put_other hne]; exact h5.2 z⟩
    | some u => rw [e3] at h5; exact ⟨by rw [has_put_other hne]; exact h5.1, fun z => by rw [atKey_put_other hne]; exact h5.2 z⟩
end

section
variable {K : Type} {enc : K → Value} {P : Program} (w : World) {ops : Array Oper} {rest : List Oper} {o : Oper} {a : Act} {Q : Exit → Act → World → Prop}
theorem wpList_lookV (hg : o.guard = none) (m x : Operand) (t : TypeId) (hop : o.op = Op.lookup t m x false) (k e : TypeId) (L : Keyed P k) (ht : P.underlying t = some (.map k e)) {z : Value} (hz : (zeroValue e).run P w = .ok z w) (b n : Nat) (M : K → Option Value)
    (hm : a.eval m = .map (some b)) (hV : MapV enc P k w b n M) (y : K) (kl : Lit) (hx : a.eval x = enc y) (hkey : keyOf P k (enc y) = some kl)
    (hK : wpList P ops Q rest (a.put o.dst ((M y).getD z)) w) : wpList P ops Q (o :: rest) a w := by
  refine wpList_plain hg fun K' hK' => ?_
  have hrun := hV.look L ht hz hkey
  unfold Oper.wp
  simp [execOp, hop, hm, hx, hrun, Result.andThen]
  exact hK' _ _ hK
theorem wpList_lookV_ok (hg : o.guard = none) (m x : Operand) (t : TypeId) (hop : o.op = Op.lookup t m x true) (k e : TypeId) (L : Keyed P k) (ht : P.underlying t = some (.map k e)) {z : Value} (hz : (zeroValue e).run P w = .ok z w) (b n : Nat) (M : K → Option Value)
    (hm : a.eval m = .map (some b)) (hV : MapV enc P k w b n M) (y : K) (kl : Lit) (hx : a.eval x = enc y) (hkey : keyOf P k (enc y) = some kl)
    (hK : wpList P ops Q rest (a.put o.dst (.tuple #[(M y).getD z, .bool (M y).isSome])) w) : wpList P ops Q (o :: rest) a w := by
  refine wpList_plain hg fun K' hK' => ?_
  have hrun := hV.look_ok L ht hz hkey
  unfold Oper.wp
  simp [execOp, hop, hm, hx, hrun, Result.andThen]
  exact hK' _ _ hK
theorem wpList_storeV [DecidableEq K] (hg : o.guard = none) (m x v : Operand) (t : TypeId) (hop : o.op = Op.mapUpdate t m x v) (k e : TypeId) (L : Keyed P k) (hinj : ∀ x y, enc x = enc y → x = y) (ht : P.underlying t = some (.map k e)) (b n : Nat) (M : K → Option Value)
    (hm : a.eval m = .map (some b)) (hV : MapV enc P k w b n M) (hn : n < maxLen) (y : K) (kl : Lit) (hx : a.eval x = enc y) (hkey : keyOf P k (enc y) = some kl) (u : Value) (hv : a.eval v = u)
    (hK : ∀ w', MapV enc P k w' b (n + 1) (updM M y (some u)) → w.grownBy w' (some b) → wpList P ops Q rest (a.put o.dst undef) w') : wpList P ops Q (o :: rest) a w := by
  refine wpList_plain hg fun K' hK' => ?_
  obtain ⟨w', hrun, r1, r2⟩ := hV.store L hinj ht hn hkey u
  unfold Oper.wp
  simp [execOp, hop, hm, hx, hv, hrun, Result.andThen]
  exact hK' _ _ (hK w' r1 r2)
end
end Go.Proofs.YthicofnjehpalaaGreat

/- The key of two strings. -/
namespace Go.Proofs.YthicofnjehpalaaGreat
open Go.ChangeShapes Go.WideShapes Go.ChangeAt Go.RowKit Go.Maps

def encK (k : ByteArray × ByteArray) : Value := .agg #[.string k.1, .string k.2]
theorem encK_inj (x y : ByteArray × ByteArray) (h : encK x = encK y) : x = y := by
  unfold encK at h
  injection h with h
  have h1 := congrArg Array.toList h
  simp at h1
  exact Prod.ext h1.1 h1.2
theorem laidOutM : laidOutB Tryz.prog = true := by kernel_rfl
theorem relRow : (86 : TypeId) < Tryz.prog.types.size := of_decide_eq_true (by kernel_rfl)
theorem relWide : (match Tryz.prog.underlying 86 with | some (.array _ _) | some (.struct _) => true | _ => false) = true := by rw [Tryz.underlying86]
set_option maxRecDepth 100000 in
theorem relLaw0 : WideMaps.KeyLaw Tryz.prog 86 := deep_law_laid laidOutM (m := 2) (by omega) relRow (by kernel_rfl) relWide
theorem relLaw : Keyed Tryz.prog 86 := Keyed.of_law relLaw0
theorem relKeyT : Tryz.prog.keyType 86 = true := by kernel_rfl
theorem relCells : Tryz.prog.cellsOf 86 = 2 := by kernel_rfl
theorem strCells : Tryz.prog.cellsOf 9 = 1 := by kernel_rfl
theorem typesSize : ∃ n, Tryz.prog.types.size = n + 1 := Nat.exists_eq_succ_of_ne_zero (Nat.ne_of_gt (Nat.lt_of_le_of_lt (Nat.zero_le _) relRow))
theorem relKeyOf (k : ByteArray × ByteArray) (h1 : k.1.size ≤ maxLen) (h2 : k.2.size ≤ maxLen) : ∃ kl, keyOf Tryz.prog 86 (encK k) = some kl := by
  obtain ⟨n, hn⟩ := typesSize
  refine ⟨.string (keyBytes [.string k.1.data.toList, .string k.2.data.toList]), ?_⟩
  unfold keyOf
  rw [Tryz.underlying86]
  simp only [relKeyT, encK, Value.formed, Tryz.underlying86, relCells, hn, Value.cells]
  simp [Program.keyLits, Tryz.underlying86, Tryz.underlying9, relCells, strCells, h1, h2]
end Go.Proofs.YthicofnjehpalaaGreat

/- Expressions in memory: slices of allowed pairs, of whole numbers, of nodes; what a later world keeps of them. -/
namespace Go.Proofs.YthicofnjehpalaaGreat
open Go.ChangeShapes Go.WideShapes Go.ChangeAt Go.RowKit
open Pl

/-- an allowed type with its set -/
structure Al where
  t : ByteArray
  s : ByteArray
def Al.fits (a : Al) : Prop := a.t.size ≤ maxLen ∧ a.s.size ≤ maxLen
/-- two cells hold an allowed pair -/
def At2 (w : World) (b off : Nat) (a : Al) : Prop := w.cell? ⟨b, off, none⟩ = some (.string a.t) ∧ w.cell? ⟨b, off + 1, none⟩ = some (.string a.s)
/-- what a slice of allowed pairs leads to -/
def SlA (w : World) (ad : Option Addr) (xs : List Al) : Prop := xs = [] ∨ ∃ b off, ad = some ⟨b, off, none⟩ ∧ b < w.heap.size ∧ ∀ (i : Nat) (h : i < xs.length), At2 w b (off + i * 2) xs[i]
/-- what a slice of whole numbers leads to -/
def SlI (w : World) (ad : Option Addr) (zs : List Int) : Prop := zs = [] ∨ ∃ b off, ad = some ⟨b, off, none⟩ ∧ b < w.heap.size ∧ ∀ (i : Nat) (h : i < zs.length), w.cell? ⟨b, off + i, none⟩ = some (.int .i64 zs[i])

theorem At2.same {w w' : World} {b off : Nat} {a : Al} (h : At2 w b off a) (hc : ∀ o, w'.cell? ⟨b, o, none⟩ = w.cell? ⟨b, o, none⟩) : At2 w' b off a := ⟨(hc _).trans h.1, (hc _).trans h.2⟩
theorem SlA.below {w w' : World} {ad : Option Addr} {xs : List Al} (h : SlA w ad xs) (hB : Below w.heap.size w w') : SlA w' ad xs := by
  rcases h with h | ⟨b, off, e, hb, hr⟩
  · exact .inl h
  · exact .inr ⟨b, off, e, Nat.lt_of_lt_of_le hb hB.size, fun i hi => (hr i hi).same fun o => hB.cell (p := ⟨b, o, none⟩) hb⟩
theorem SlI.below {w w' : World} {ad : Option Addr} {zs : List Int} (h : SlI w ad zs) (hB : Below w.heap.size w w') : SlI w' ad zs := by
  rcases h with h | ⟨b, off, e, hb, hr⟩
  · exact .inl h
  · exact .inr ⟨b, off, e, Nat.lt_of_lt_of_le hb hB.size, fun i hi => (hB.cell (p := ⟨b, off + i, none⟩) hb).trans (hr i hi)⟩

/-- a node -/
structure Ex where
  kind : Int
  allow : List Al
  over : ByteArray
  name : ByteArray
  kids : List Int
/-- a node in memory: where its lists lie -/
structure ER where
  e : Ex
  adA : Option Addr
  capA : Nat
  adK : Option Addr
  capK : Nat
def ER.val (r : ER) : Value := .agg #[.int .i64 r.e.kind, .slice r.adA r.e.allow.length r.capA, .string r.e.over, .string r.e.name, .slice r.adK r.e.kids.length r.capK]
def ER.ok (w : World) (r : ER) : Prop := SlA w r.adA r.e.allow ∧ SlI w r.adK r.e.kids
def Ex.fits (e : Ex) : Prop := (∀ a ∈ e.allow, a.fits) ∧ e.over.size ≤ maxLen ∧ e.name.size ≤ maxLen ∧ e.allow.length ≤ maxLen ∧ e.kids.length ≤ maxLen
theorem ER.ok.below {w w' : World} {r : ER} (h : r.ok w) (hB : Below w.heap.size w w') : r.ok w' := ⟨h.1.below hB, h.2.below hB⟩
/-- five cells hold a node -/
def At5 (w : World) (b off : Nat) (r : ER) : Prop :=
  w.cell? ⟨b, off, none⟩ = some (.int .i64 r.e.kind) ∧ w.cell? ⟨b, off + 1, none⟩ = some (.slice r.adA r.e.allow.length r.capA) ∧ w.cell? ⟨b, off + 2, none⟩ = some (.string r.e.over) ∧
  w.cell? ⟨b, off + 3, none⟩ = some (.string r.e.name) ∧ w.cell? ⟨b, off + 4, none⟩ = some (.slice r.adK r.e.kids.length r.capK)
theorem At5.same {w w' : World} {b off : Nat} {r : ER} (h : At5 w b off r) (hc : ∀ o, w'.cell? ⟨b, o, none⟩ = w.cell? ⟨b, o, none⟩) : At5 w' b off r := by
  obtain ⟨h0, h1, h2, h3, h4⟩ := h
  exact ⟨(hc _).trans h0, (hc _).trans h1, (hc _).trans h2, (hc _).trans h3, (hc _).trans h4⟩
/-- what a slice of nodes leads to -/
def SlE (w : World) (ad : Option Addr) (rs : List ER) : Prop := rs = [] ∨ ∃ b off, ad = some ⟨b, off, none⟩ ∧ b < w.heap.size ∧ (∀ (i : Nat) (h : i < rs.length), At5 w b (off + i * 5) rs[i]) ∧ ∀ r ∈ rs, r.ok w
theorem SlE.below {w w' : World} {ad : Option Addr} {rs : List ER} (h : SlE w ad rs) (hB : Below w.heap.size w w') : SlE w' ad rs := by
  rcases h with h | ⟨b, off, e, hb, hr, hk⟩
  · exact .inl h
  · exact .inr ⟨b, off, e, Nat.lt_of_lt_of_le hb hB.size, fun i hi => (hr i hi).same fun o => hB.cell (p := ⟨b, o, none⟩) hb, fun r hr => (hk r hr).below hB⟩
def exs (rs : List ER) : List Ex := rs.map ER.e
theorem exs_len (rs : List ER) : (exs rs).length = rs.length := by simp [exs]

/-- a set is empty or a name -/
def setB' (s : ByteArray) : Bool := s.toList.isEmpty || nameB s
theorem setOk_any' (s : ByteArray) (w : World) (hs : s.size ≤ maxLen) :
    Calls Tryz.prog 67 #[.string s] w fun e w' => e = .returned (.bool (setB' s)) ∧ w' = w := by
  go_enter Tryz.func67, Tryz.ntmps67
  go_wp2_with (go_at_call 66; refine (implName_any _ _ hs).mono ?_; rintro e w' ⟨rfl, rfl⟩)
  all_goals go_ret
  all_goals exact ⟨ret_bool (by simp [setB', *]), rfl⟩

end Go.Proofs.YthicofnjehpalaaGreat
