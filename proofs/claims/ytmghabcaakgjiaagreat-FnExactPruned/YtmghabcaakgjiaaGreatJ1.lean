/- Plain functions on bytes that the contracts of this seat's texts are stated by: which names and ids are right. Nothing of the program is read here. -/
import Derived.WalkKit
import Derived.Test.YtmghabcaakgjiaaGreatRows
import Derived.WalkLawsBesides
import Derived.ProofKit
namespace Go.Proofs.YtmghabcaakgjiaaGreat.Pl

def letB (c : UInt8) : Bool := decide (97 ≤ c.toNat) && decide (c.toNat ≤ 122)
def lenB (s : ByteArray) : Bool := decide (1 ≤ s.size) && decide (s.size ≤ 12)
def allB (p : UInt8 → Bool) (s : ByteArray) : Bool := s.data.toList.all p
def signsB (p : UInt8 → Bool) (s : ByteArray) : Bool := lenB s && allB p s
def notThis (s : ByteArray) : Bool := !(s.toList == [116, 104, 105, 115])
def nameB (s : ByteArray) : Bool := signsB letB s && notThis s

theorem ret_bool {a b : Bool} (h : a = b) : Ending.returned (.bool a) = .returned (.bool b) := by rw [h]

theorem take_snoc (s : ByteArray) (k : Nat) (h : k < s.size) : s.data.toList.take (k + 1) = s.data.toList.take k ++ [s[k]] := by
  rw [List.take_succ_eq_append_getElem (by simpa using h)]; rfl

/-- all of the first k -/
def upB (p : UInt8 → Bool) (s : ByteArray) (k : Nat) : Bool := (s.data.toList.take k).all p
theorem upB_zero (p : UInt8 → Bool) (s : ByteArray) : upB p s 0 = true := by simp [upB]
theorem upB_succ (p : UInt8 → Bool) (s : ByteArray) (k : Nat) (h : k < s.size) : upB p s (k + 1) = (upB p s k && p s[k]) := by
  unfold upB; rw [take_snoc s k h]; simp
theorem upB_end (p : UInt8 → Bool) (s : ByteArray) (k : Nat) (h : s.size ≤ k) : upB p s k = allB p s := by
  unfold upB allB; rw [List.take_of_length_le (by simpa using h)]
theorem upB_bad (p : UInt8 → Bool) (s : ByteArray) (k : Nat) (h : k < s.size) (hb : p s[k] = false) : allB p s = false := by
  unfold allB
  rw [List.all_eq_false]
  exact ⟨s[k], by simp [ByteArray.getElem_eq_getElem_data], by simp [hb]⟩

end Go.Proofs.YtmghabcaakgjiaaGreat.Pl

/- Contracts of the functions that look at names and ids, the document's model beside the program's: each returns what the plain function says and leaves the world as it was. -/
namespace Go.Proofs.YtmghabcaakgjiaaGreat
open Go.ChangeShapes Go.WideShapes Go.ChangeAt Go.RowKit
open Pl

theorem isLetter_any (c : UInt8) (w : World) :
    Calls Tryz.prog 61 #[.int .u8 c.toNat] w fun e w' => e = .returned (.bool (letB c)) ∧ w' = w := by
  go_enter Tryz.func61, Tryz.ntmps61
  go_wp2
  all_goals go_ret
  all_goals refine ⟨ret_bool ?_, rfl⟩
  all_goals (rw [Bool.eq_iff_iff]; simp [letB]; omega)

theorem specName_any (s : ByteArray) (w : World) (hs : s.size ≤ maxLen) :
    Calls Tryz.prog 20 #[.string s] w fun e w' => e = .returned (.bool (nameB s)) ∧ w' = w := by
  unfold maxLen at hs
  by_cases h1 : 1 ≤ s.size ∧ s.size ≤ 12
  · obtain ⟨ha, hb⟩ := h1
    go_enter Tryz.func20, Tryz.ntmps20
    go_wp2
    go_loop [3] (fun i => ∃ k : Nat, k ≤ s.size ∧ i = .int .i64 k ∧ Hid (upB letB s k = true)) (fun i => s.size - (intOf i).toNat)
    case atStart => exact ⟨0, Nat.zero_le _, rfl, upB_zero _ _⟩
    case round =>
      obtain ⟨k, hk, rfl, hu⟩ := hrel
      by_cases hlt : k < s.size
      · by_cases hc : letB s[k] = true
        · have hc1 : 97 ≤ s[k].toNat := by simp [letB] at hc; omega
          have hc2 : s[k].toNat ≤ 122 := by simp [letB] at hc; omega
          have HU : Hid (upB letB s (k + 1) = true) := by show _ = _; rw [upB_succ _ _ _ hlt, hc, hu.out]; rfl
          clear hc
          go_wp2
          go_round
          case rel => exact ⟨k + 1, by omega, by go_num, HU⟩
          case measure => simp [intOf]; omega
        · have hc' : letB s[k] = false := by simpa using hc
          have HB : Hid (allB letB s = false) := upB_bad _ _ _ hlt hc'
          have hd : s[k].toNat < 97 ∨ 122 < s[k].toNat := by simp [letB] at hc'; omega
          clear hc hc'
          rcases hd with hd | hd
          all_goals
            go_wp2
            go_ret
            exact ⟨ret_bool (by simp [nameB, signsB, HB.out]), rfl⟩
      · go_wp2
        go_ret
        refine ⟨ret_bool ?_, rfl⟩
        have hall : allB letB s = true := by rw [← upB_end letB s k (by omega)]; exact hu.out
        have hl : lenB s = true := by simp [lenB]; omega
        simp [nameB, signsB, notThis, hall, hl]
  · have hn : lenB s = false := by simp [lenB]; omega
    have HN : Hid (nameB s = false) := by show _ = _; simp [nameB, signsB, hn]
    clear hn
    by_cases ha : 1 ≤ s.size
    · have hb : 12 < s.size := by omega
      clear h1
      go_enter Tryz.func20, Tryz.ntmps20
      go_wp2
      go_ret
      exact ⟨ret_bool HN.out.symm, rfl⟩
    · have ha' : s.size < 1 := by omega
      clear h1
      go_enter Tryz.func20, Tryz.ntmps20
      go_wp2
      go_ret
      exact ⟨ret_bool HN.out.symm, rfl⟩

theorem signs_isLetter (s : ByteArray) (w : World) (hs : s.size ≤ maxLen) :
    Calls Tryz.prog 60 #[.string s, .func (Fn.func 61) #[] #[]] w fun e w' => e = .returned (.bool (signsB letB s)) ∧ w' = w := by
  unfold maxLen at hs
  by_cases h1 : 1 ≤ s.size ∧ s.size ≤ 12
  · obtain ⟨ha, hb⟩ := h1
    go_enter Tryz.func60, Tryz.ntmps60
    go_wp2
    go_loop [16] (fun i => ∃ k : Nat, k ≤ s.size ∧ i = .int .i64 k ∧ Hid (upB letB s k = true)) (fun i => s.size - (intOf i).toNat)
    case atStart => exact ⟨0, Nat.zero_le _, rfl, upB_zero _ _⟩
    case round =>
      obtain ⟨k, hk, rfl, hu⟩ := hrel
      by_cases hlt : k < s.size
      · by_cases hc : letB s[k] = true
        · have HU : Hid (upB letB s (k + 1) = true) := by show _ = _; rw [upB_succ _ _ _ hlt, hc, hu.out]; rfl
          go_wp2_with (go_at_call 61; refine (isLetter_any _ _).mono ?_; rintro e w' ⟨rfl, rfl⟩)
          go_round
          case rel => exact ⟨k + 1, by omega, by go_num, HU⟩
          case measure => simp [intOf]; omega
        · have hc' : letB s[k] = false := by simpa using hc
          have HB : Hid (allB letB s = false) := upB_bad _ _ _ hlt hc'
          clear hc
          go_wp2_with (go_at_call 61; refine (isLetter_any _ _).mono ?_; rintro e w' ⟨rfl, rfl⟩)
          go_ret
          exact ⟨ret_bool (by simp [signsB, HB.out]), rfl⟩
      · go_wp2
        go_ret
        refine ⟨ret_bool ?_, rfl⟩
        have hall : allB letB s = true := by rw [← upB_end letB s k (by omega)]; exact hu.out
        have hl : lenB s = true := by simp [lenB]; omega
        simp [signsB, hall, hl]
  · have hn : lenB s = false := by simp [lenB]; omega
    have HN : Hid (signsB letB s = false) := by show _ = _; simp [signsB, hn]
    clear hn
    by_cases ha : 1 ≤ s.size
    · have hb : 12 < s.size := by omega
      clear h1
      go_enter Tryz.func60, Tryz.ntmps60
      go_wp2
      go_ret
      exact ⟨ret_bool HN.out.symm, rfl⟩
    · have ha' : s.size < 1 := by omega
      clear h1
      go_enter Tryz.func60, Tryz.ntmps60
      go_wp2
      go_ret
      exact ⟨ret_bool HN.out.symm, rfl⟩

theorem implName_any (s : ByteArray) (w : World) (hs : s.size ≤ maxLen) :
    Calls Tryz.prog 28 #[.string s] w fun e w' => e = .returned (.bool (nameB s)) ∧ w' = w := by
  by_cases h : s.toList = [116, 104, 105, 115]
  · have hb : (s.toList == [116, 104, 105, 115]) = true := by simp [h]
    have HN : Hid (nameB s = false) := by show _ = _; simp [nameB, notThis, h]
    clear h
    go_enter Tryz.func28, Tryz.ntmps28
    go_wp2
    go_ret
    exact ⟨ret_bool HN.out.symm, rfl⟩
  · have hb : (s.toList == [116, 104, 105, 115]) = false := by simp [h]
    have HN : Hid (nameB s = signsB letB s) := by show _ = _; simp [nameB, notThis, h]
    clear h
    go_enter Tryz.func28, Tryz.ntmps28
    go_wp2_with (go_at_call 60; refine (signs_isLetter _ _ hs).mono ?_; rintro e w' ⟨rfl, rfl⟩)
    go_ret
    exact ⟨ret_bool HN.out.symm, rfl⟩

end Go.Proofs.YtmghabcaakgjiaaGreat

/- Expressions in memory: slices of allowed pairs, of whole numbers, of nodes; what a later world keeps of them. -/
namespace Go.Proofs.YtmghabcaakgjiaaGreat
open Go.ChangeShapes Go.WideShapes Go.ChangeAt Go.RowKit
open Pl

/-- an allowed type with its set -/
structure Al where
  t : ByteArray
  s : ByteArray
def Al.fits (a : Al) : Prop := a.t.size ≤ maxLen ∧ a.s.size ≤ maxLen
/-- two cells hold an allowed pair -/
def At2 (w : World) (b off : Nat) (a : Al) : Prop := w.cell? ⟨b, off, none⟩ = some (.string a.t) ∧ w.cell? ⟨b, off + 1, none⟩ = some (.string a.s)
/-- what a slice of allowed pairs leads to -/
def SlA (w : World) (ad : Option Addr) (xs : List Al) : Prop := xs = [] ∨ ∃ b off, ad = some ⟨b, off, none⟩ ∧ b < w.heap.size ∧ ∀ (i : Nat) (h : i < xs.length), At2 w b (off + i * 2) xs[i]
/-- what a slice of whole numbers leads to -/
def SlI (w : World) (ad : Option Addr) (zs : List Int) : Prop := zs = [] ∨ ∃ b off, ad = some ⟨b, off, none⟩ ∧ b < w.heap.size ∧ ∀ (i : Nat) (h : i < zs.length), w.cell? ⟨b, off + i, none⟩ = some (.int .i64 zs[i])

theorem At2.same {w w' : World} {b off : Nat} {a : Al} (h : At2 w b off a) (hc : ∀ o, w'.cell? ⟨b, o, none⟩ = w.cell? ⟨b, o, none⟩) : At2 w' b off a := ⟨(hc _).trans h.1, (hc _).trans h.2⟩
theorem SlA.below {w w' : World} {ad : Option Addr} {xs : List Al} (h : SlA w ad xs) (hB : Below w.heap.size w w') : SlA w' ad xs := by
  rcases h with h | ⟨b, off, e, hb, hr⟩
  · exact .inl h
  · exact .inr ⟨b, off, e, Nat.lt_of_lt_of_le hb hB.size, fun i hi => (hr i hi).same fun o => hB.cell (p := ⟨b, o, none⟩) hb⟩
theorem SlI.below {w w' : World} {ad : Option Addr} {zs : List Int} (h : SlI w ad zs) (hB : Below w.heap.size w w') : SlI w' ad zs := by
  rcases h with h | ⟨b, off, e, hb, hr⟩
  · exact .inl h
  · exact .inr ⟨b, off, e, Nat.lt_of_lt_of_le hb hB.size, fun i hi => (hB.cell (p := ⟨b, off + i, none⟩) hb).trans (hr i hi)⟩

/-- a node -/
structure Ex where
  kind : Int
  allow : List Al
  over : ByteArray
  name : ByteArray
  kids : List Int
/-- a node in memory: where its lists lie -/
structure ER where
  e : Ex
  adA : Option Addr
  capA : Nat
  adK : Option Addr
  capK : Nat
def ER.val (r : ER) : Value := .agg #[.int .i64 r.e.kind, .slice r.adA r.e.allow.length r.capA, .string r.e.over, .string r.e.name, .slice r.adK r.e.kids.length r.capK]
def ER.ok (w : World) (r : ER) : Prop := SlA w r.adA r.e.allow ∧ SlI w r.adK r.e.kids
def Ex.fits (e : Ex) : Prop := (∀ a ∈ e.allow, a.fits) ∧ e.over.size ≤ maxLen ∧ e.name.size ≤ maxLen ∧ e.allow.length ≤ maxLen ∧ e.kids.length ≤ maxLen
theorem ER.ok.below {w w' : World} {r : ER} (h : r.ok w) (hB : Below w.heap.size w w') : r.ok w' := ⟨h.1.below hB, h.2.below hB⟩
/-- five cells hold a node -/
def At5 (w : World) (b off : Nat) (r : ER) : Prop :=
  w.cell? ⟨b, off, none⟩ = some (.int .i64 r.e.kind) ∧ w.cell? ⟨b, off + 1, none⟩ = some (.slice r.adA r.e.allow.length r.capA) ∧ w.cell? ⟨b, off + 2, none⟩ = some (.string r.e.over) ∧
  w.cell? ⟨b, off + 3, none⟩ = some (.string r.e.name) ∧ w.cell? ⟨b, off + 4, none⟩ = some (.slice r.adK r.e.kids.length r.capK)
theorem At5.same {w w' : World} {b off : Nat} {r : ER} (h : At5 w b off r) (hc : ∀ o, w'.cell? ⟨b, o, none⟩ = w.cell? ⟨b, o, none⟩) : At5 w' b off r := by
  obtain ⟨h0, h1, h2, h3, h4⟩ := h
  exact ⟨(hc _).trans h0, (hc _).trans h1, (hc _).trans h2, (hc _).trans h3, (hc _).trans h4⟩
/-- what a slice of nodes leads to -/
def SlE (w : World) (ad : Option Addr) (rs : List ER) : Prop := rs = [] ∨ ∃ b off, ad = some ⟨b, off, none⟩ ∧ b < w.heap.size ∧ (∀ (i : Nat) (h : i < rs.length), At5 w b (off + i * 5) rs[i]) ∧ ∀ r ∈ rs, r.ok w
theorem SlE.below {w w' : World} {ad : Option Addr} {rs : List ER} (h : SlE w ad rs) (hB : Below w.heap.size w w') : SlE w' ad rs := by
  rcases h with h | ⟨b, off, e, hb, hr, hk⟩
  · exact .inl h
  · exact .inr ⟨b, off, e, Nat.lt_of_lt_of_le hb hB.size, fun i hi => (hr i hi).same fun o => hB.cell (p := ⟨b, o, none⟩) hb, fun r hr => (hk r hr).below hB⟩
def exs (rs : List ER) : List Ex := rs.map ER.e
theorem exs_len (rs : List ER) : (exs rs).length = rs.length := by simp [exs]

/-- a set is empty or a name -/
def setB' (s : ByteArray) : Bool := s.toList.isEmpty || nameB s
theorem setOk_any' (s : ByteArray) (w : World) (hs : s.size ≤ maxLen) :
    Calls Tryz.prog 149 #[.string s] w fun e w' => e = .returned (.bool (setB' s)) ∧ w' = w := by
  go_enter Tryz.func149, Tryz.ntmps149
  go_wp2_with (go_at_call 28; refine (implName_any _ _ hs).mono ?_; rintro e w' ⟨rfl, rfl⟩)
  all_goals go_ret
  all_goals exact ⟨ret_bool (by simp [setB', *]), rfl⟩

end Go.Proofs.YtmghabcaakgjiaaGreat
