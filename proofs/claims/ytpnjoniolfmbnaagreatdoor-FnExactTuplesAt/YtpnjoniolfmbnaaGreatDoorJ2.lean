/- Contracts of the functions that look at tuples: each returns what the plain function says, and nothing that was in memory has changed. -/
import Derived.Test.YtpnjoniolfmbnaaGreatDoorJ1
namespace Go.Proofs.YtpnjoniolfmbnaaGreatDoor
open Go.ChangeShapes Go.WideShapes Go.ChangeAt Go.RowKit
open Pl

theorem setOk_any (s : ByteArray) (w : World) (hs : s.size ≤ maxLen) :
    Calls Tryz.prog 113 #[.string s] w fun e w' => e = .returned (.bool (setB s)) ∧ w' = w := by
  go_enter Tryz.func113, Tryz.ntmps113
  go_wp2_with (go_at_call 112; refine (implName_any _ _ hs).mono ?_; rintro e w' ⟨rfl, rfl⟩)
  all_goals go_ret
  all_goals exact ⟨ret_bool (by simp [setB, *]), rfl⟩

theorem specTup_any (a b r c d s : ByteArray) (w : World) (ha : a.size ≤ maxLen) (hb : b.size ≤ maxLen) (hr : r.size ≤ maxLen) (hc : c.size ≤ maxLen) (hd : d.size ≤ maxLen) (hs : s.size ≤ maxLen) :
    Calls Tryz.prog 70 #[.agg #[.string a, .string b, .string r, .string c, .string d, .string s]] w fun e w' => e = .returned (.bool (tupB a b r c d s)) ∧ Below w.heap.size w w' := by
  by_cases h1 : objB a b = true
  · by_cases h2 : nameB r = true
    · by_cases h3 : objB c d = true
      · have HT : Hid (tupB a b r c d s = setB s) := tupB_yes h1 h2 h3
        go_enter Tryz.func70, Tryz.ntmps70
        go_wp2_with fail
        refine (specObj_any _ _ _ ha hb).mono ?_
        rintro e w1 ⟨rfl, hb1⟩
        obtain ⟨hc1, hf1⟩ := bcell hb1
        have hz1 : w.heap.size < w1.heap.size := by have := hb1.size; simp at this; omega
        go_wp2_with fail
        refine (specName_any _ _ hr).mono ?_
        rintro e w1' ⟨rfl, rfl⟩
        go_wp2_with fail
        refine (specObj_any _ _ _ hc hd).mono ?_
        rintro e w2 ⟨rfl, hb2⟩
        obtain ⟨hc2, hf2⟩ := bcell hb2
        have hz2 : w.heap.size < w2.heap.size := by have := hb2.size; omega
        go_wp2_with (go_at_call 85; refine (specName_any _ _ hs).mono ?_; rintro e w3 ⟨rfl, rfl⟩)
        all_goals go_ret
        all_goals exact ⟨ret_bool (HT.out.trans (by simp [setB, *])).symm, ((Below.refl _ _).alloc (Nat.le_refl _) _).trans ((hb1.mono (by simp)).trans (hb2.mono (by omega)))⟩
      · have h3' : objB c d = false := by simpa using h3
        have HT : Hid (tupB a b r c d s = false) := tupB_no3 h3'
        clear h3
        go_enter Tryz.func70, Tryz.ntmps70
        go_wp2_with fail
        refine (specObj_any _ _ _ ha hb).mono ?_
        rintro e w1 ⟨rfl, hb1⟩
        obtain ⟨hc1, hf1⟩ := bcell hb1
        have hz1 : w.heap.size < w1.heap.size := by have := hb1.size; simp at this; omega
        go_wp2_with fail
        refine (specName_any _ _ hr).mono ?_
        rintro e w1' ⟨rfl, rfl⟩
        go_wp2_with fail
        refine (specObj_any _ _ _ hc hd).mono ?_
        rintro e w2 ⟨rfl, hb2⟩
        go_wp2
        go_ret
        exact ⟨ret_bool HT.out.symm, ((Below.refl _ _).alloc (Nat.le_refl _) _).trans ((hb1.mono (by simp)).trans (hb2.mono (by omega)))⟩
    · have h2' : nameB r = false := by simpa using h2
      have HT : Hid (tupB a b r c d s = false) := tupB_no2 h2'
      clear h2
      go_enter Tryz.func70, Tryz.ntmps70
      go_wp2_with fail
      refine (specObj_any _ _ _ ha hb).mono ?_
      rintro e w1 ⟨rfl, hb1⟩
      obtain ⟨hc1, hf1⟩ := bcell hb1
      go_wp2_with fail
      refine (specName_any _ _ hr).mono ?_
      rintro e w1' ⟨rfl, rfl⟩
      go_wp2
      go_ret
      exact ⟨ret_bool HT.out.symm, ((Below.refl _ _).alloc (Nat.le_refl _) _).trans (hb1.mono (by simp))⟩
  · have h1' : objB a b = false := by simpa using h1
    have HT : Hid (tupB a b r c d s = false) := tupB_no1 h1'
    clear h1
    go_enter Tryz.func70, Tryz.ntmps70
    go_wp2_with fail
    refine (specObj_any _ _ _ ha hb).mono ?_
    rintro e w1 ⟨rfl, hb1⟩
    go_wp2
    go_ret
    exact ⟨ret_bool HT.out.symm, ((Below.refl _ _).alloc (Nat.le_refl _) _).trans (hb1.mono (by simp))⟩

theorem implTup_any (a b r c d s : ByteArray) (w : World) (ha : a.size ≤ maxLen) (hb : b.size ≤ maxLen) (hr : r.size ≤ maxLen) (hc : c.size ≤ maxLen) (hd : d.size ≤ maxLen) (hs : s.size ≤ maxLen) :
    Calls Tryz.prog 75 #[.agg #[.string a, .string b, .string r, .string c, .string d, .string s]] w fun e w' => e = .returned (.bool (tupB a b r c d s)) ∧ Below w.heap.size w w' := by
  by_cases h1 : objB a b = true
  · by_cases h2 : nameB r = true
    · by_cases h3 : objB c d = true
      · have HT : Hid (tupB a b r c d s = setB s) := tupB_yes h1 h2 h3
        go_enter Tryz.func75, Tryz.ntmps75
        go_wp2_with fail
        refine (implObj_any _ _ _ ha hb).mono ?_
        rintro e w1 ⟨rfl, hb1⟩
        obtain ⟨hc1, hf1⟩ := bcell hb1
        have hz1 : w.heap.size < w1.heap.size := by have := hb1.size; simp at this; omega
        go_wp2_with fail
        refine (implName_any _ _ hr).mono ?_
        rintro e w1' ⟨rfl, rfl⟩
        go_wp2_with fail
        refine (implObj_any _ _ _ hc hd).mono ?_
        rintro e w2 ⟨rfl, hb2⟩
        obtain ⟨hc2, hf2⟩ := bcell hb2
        have hz2 : w.heap.size < w2.heap.size := by have := hb2.size; omega
        go_wp2_with (go_at_call 113; refine (setOk_any _ _ hs).mono ?_; rintro e w3 ⟨rfl, rfl⟩)
        all_goals go_ret
        all_goals exact ⟨ret_bool (HT.out.trans (by simp [setB, *])).symm, ((Below.refl _ _).alloc (Nat.le_refl _) _).trans ((hb1.mono (by simp)).trans (hb2.mono (by omega)))⟩
      · have h3' : objB c d = false := by simpa using h3
        have HT : Hid (tupB a b r c d s = false) := tupB_no3 h3'
        clear h3
        go_enter Tryz.func75, Tryz.ntmps75
        go_wp2_with fail
        refine (implObj_any _ _ _ ha hb).mono ?_
        rintro e w1 ⟨rfl, hb1⟩
        obtain ⟨hc1, hf1⟩ := bcell hb1
        have hz1 : w.heap.size < w1.heap.size := by have := hb1.size; simp at this; omega
        go_wp2_with fail
        refine (implName_any _ _ hr).mono ?_
        rintro e w1' ⟨rfl, rfl⟩
        go_wp2_with fail
        refine (implObj_any _ _ _ hc hd).mono ?_
        rintro e w2 ⟨rfl, hb2⟩
        go_wp2
        go_ret
        exact ⟨ret_bool HT.out.symm, ((Below.refl _ _).alloc (Nat.le_refl _) _).trans ((hb1.mono (by simp)).trans (hb2.mono (by omega)))⟩
    · have h2' : nameB r = false := by simpa using h2
      have HT : Hid (tupB a b r c d s = false) := tupB_no2 h2'
      clear h2
      go_enter Tryz.func75, Tryz.ntmps75
      go_wp2_with fail
      refine (implObj_any _ _ _ ha hb).mono ?_
      rintro e w1 ⟨rfl, hb1⟩
      obtain ⟨hc1, hf1⟩ := bcell hb1
      go_wp2_with fail
      refine (implName_any _ _ hr).mono ?_
      rintro e w1' ⟨rfl, rfl⟩
      go_wp2
      go_ret
      exact ⟨ret_bool HT.out.symm, ((Below.refl _ _).alloc (Nat.le_refl _) _).trans (hb1.mono (by simp))⟩
  · have h1' : objB a b = false := by simpa using h1
    have HT : Hid (tupB a b r c d s = false) := tupB_no1 h1'
    clear h1
    go_enter Tryz.func75, Tryz.ntmps75
    go_wp2_with fail
    refine (implObj_any _ _ _ ha hb).mono ?_
    rintro e w1 ⟨rfl, hb1⟩
    go_wp2
    go_ret
    exact ⟨ret_bool HT.out.symm, ((Below.refl _ _).alloc (Nat.le_refl _) _).trans (hb1.mono (by simp))⟩

end Go.Proofs.YtpnjoniolfmbnaaGreatDoor

/- Contracts of the laws' own helpers on objects: the count of what is read, and the copy into the program's type. -/
namespace Go.Proofs.YtpnjoniolfmbnaaGreatDoor
open Go.ChangeShapes Go.WideShapes Go.ChangeAt Go.RowKit
open Pl

/-- what is left of a purse when an object's letters are paid -/
def szObj (t i : ByteArray) (left : Int) : Int := if left - t.size < 0 then -1 else if left - t.size - i.size < 0 then -1 else left - t.size - i.size

theorem ret_int {k : IntKind} {a b : Int} (h : a = b) : Ending.returned (.int k a) = .returned (.int k b) := by rw [h]

theorem szObject_any (t i : ByteArray) (left : Int) (w : World) (ht : t.size ≤ maxLen) (hi : i.size ≤ maxLen) (h0 : 0 ≤ left) (h1 : left ≤ 1048576) :
    Calls Tryz.prog 79 #[.agg #[.string t, .string i], .int .i64 left] w fun e w' => e = .returned (.int .i64 (szObj t i left)) ∧ Below w.heap.size w w' := by
  unfold maxLen at ht hi
  go_enter Tryz.func79, Tryz.ntmps79
  go_wp2
  all_goals go_ret
  all_goals refine ⟨ret_int ?_, (Below.refl _ _).alloc (Nat.le_refl _) _⟩
  all_goals unfold szObj
  all_goals first | rw [if_pos (by omega)] | (rw [if_neg (by omega)]; first | rw [if_pos (by omega)] | rw [if_neg (by omega)])

theorem toObject_any (t i : ByteArray) (w : World) :
    Calls Tryz.prog 81 #[.agg #[.string t, .string i]] w fun e w' => e = .returned (.agg #[.string t, .string i]) ∧ Below w.heap.size w w' := by
  go_enter Tryz.func81, Tryz.ntmps81
  go_wp2
  exact bodyPost_ret (v := .agg #[.string t, .string i]) (by simp [results, Tryz.results81, go_sem]) rfl ⟨rfl, by
    repeat (first | exact Below.refl _ _ | refine Below.setCell ?_ (by first | (simp; done) | (simp; omega)) _ | refine Below.alloc ?_ (by first | (simp; done) | (simp; omega)) _)⟩

end Go.Proofs.YtpnjoniolfmbnaaGreatDoor

/- Contracts of the laws' own helpers on tuples: the count of what is read, and the copy into the program's type. -/
namespace Go.Proofs.YtpnjoniolfmbnaaGreatDoor
open Go.ChangeShapes Go.WideShapes Go.ChangeAt Go.RowKit
open Pl

theorem szObj_le (t i : ByteArray) (left : Int) : szObj t i left ≤ left ∨ szObj t i left = -1 := by
  unfold szObj; split
  · exact .inr rfl
  · split
    · exact .inr rfl
    · exact .inl (by omega)

/-- what is left of a purse when a tuple's letters are paid -/
def szTup (a b r c d s : ByteArray) (left : Int) : Int :=
  if szObj a b left < 0 then -1 else if szObj a b left - r.size < 0 then -1
  else if szObj c d (szObj a b left - r.size) < 0 then -1 else if szObj c d (szObj a b left - r.size) - s.size < 0 then -1
  else szObj c d (szObj a b left - r.size) - s.size

theorem szTup_le (a b r c d s : ByteArray) (left : Int) : szTup a b r c d s left ≤ left ∨ szTup a b r c d s left = -1 := by
  unfold szTup
  split
  · exact .inr rfl
  split
  · exact .inr rfl
  split
  · exact .inr rfl
  split
  · exact .inr rfl
  · refine .inl ?_
    have h1 := szObj_le a b left
    have h2 := szObj_le c d (szObj a b left - r.size)
    omega

theorem szTuple_any (a b r c d s : ByteArray) (left : Int) (w : World) (ha : a.size ≤ maxLen) (hb : b.size ≤ maxLen) (hr : r.size ≤ maxLen) (hc : c.size ≤ maxLen) (hd : d.size ≤ maxLen) (hs : s.size ≤ maxLen) (h0 : 0 ≤ left) (h1 : left ≤ 1048576) :
    Calls Tryz.prog 43 #[.agg #[.string a, .string b, .string r, .string c, .string d, .string s], .int .i64 left] w fun e w' => e = .returned (.int .i64 (szTup a b r c d s left)) ∧ Below w.heap.size w w' := by
  have hr' := hr
  have hs' := hs
  unfold maxLen at hr' hs'
  have e1 := szObj_le a b left
  have e2 := szObj_le c d (szObj a b left - r.size)
  go_enter Tryz.func43, Tryz.ntmps43
  go_wp2_with fail
  refine (szObject_any _ _ _ _ ha hb h0 h1).mono ?_
  rintro e w1 ⟨rfl, hb1⟩
  obtain ⟨hc1, hf1⟩ := bcell hb1
  have hz1 : w.heap.size < w1.heap.size := by have := hb1.size; simp at this; omega
  have HB1 : Below w.heap.size w w1 := ((Below.refl _ _).alloc (Nat.le_refl _) _).trans (hb1.mono (by simp))
  by_cases n1 : szObj a b left < 0
  · go_wp2
    go_ret
    exact ⟨ret_int (by rw [szTup, if_pos (by omega)]), HB1⟩
  by_cases n2 : szObj a b left - r.size < 0
  · go_wp2
    go_ret
    exact ⟨ret_int (by rw [szTup, if_neg (by omega), if_pos (by omega)]), HB1⟩
  go_wp2_with fail
  refine (szObject_any _ _ _ _ hc hd (by omega) (by omega)).mono ?_
  rintro e w2 ⟨rfl, hb2⟩
  obtain ⟨hc2, hf2⟩ := bcell hb2
  have hz2 : w.heap.size < w2.heap.size := by have := hb2.size; omega
  by_cases n3 : szObj c d (szObj a b left - r.size) < 0
  · go_wp2
    go_ret
    exact ⟨ret_int (by rw [szTup, if_neg (by omega), if_neg (by omega), if_pos (by omega)]), HB1.trans (hb2.mono (by omega))⟩
  by_cases n4 : szObj c d (szObj a b left - r.size) - s.size < 0
  · go_wp2
    go_ret
    exact ⟨ret_int (by rw [szTup, if_neg (by omega), if_neg (by omega), if_neg (by omega), if_pos (by omega)]), HB1.trans (hb2.mono (by omega))⟩
  go_wp2
  go_ret
  exact ⟨ret_int (by rw [szTup, if_neg (by omega), if_neg (by omega), if_neg (by omega), if_neg (by omega)]), HB1.trans (hb2.mono (by omega))⟩

set_option maxHeartbeats 400000 in
theorem toTuple_any (a b r c d s : ByteArray) (w : World) :
    Calls Tryz.prog 45 #[.agg #[.string a, .string b, .string r, .string c, .string d, .string s]] w fun e w' => e = .returned (.agg #[.string a, .string b, .string r, .string c, .string d, .string s]) ∧ Below w.heap.size w w' := by
  go_enter Tryz.func45, Tryz.ntmps45
  go_wp2_with fail
  refine (toObject_any _ _ _).mono ?_
  rintro e w1 ⟨rfl, hb1⟩
  obtain ⟨hc1, hf1⟩ := bcell hb1
  have hz1 : w.heap.size + 1 + 1 < w1.heap.size := by have := hb1.size; simp at this; omega
  have hy1 : w.heap.size + 1 < w1.heap.size := by omega
  have hx1 : w.heap.size < w1.heap.size := by omega
  go_wp2_with fail
  refine (toObject_any _ _ _).mono ?_
  rintro e w2 ⟨rfl, hb2⟩
  obtain ⟨hc2, hf2⟩ := bcell hb2
  have hz2 : w.heap.size + 1 + 1 < w2.heap.size := by have := hb2.size; simp at this; omega
  have hy2 : w.heap.size + 1 < w2.heap.size := by omega
  have hx2 : w.heap.size < w2.heap.size := by omega
  have HB1 : Below w.heap.size w w1 := Below.trans (by
    repeat (first | exact Below.refl _ _ | refine Below.setCell ?_ (by first | (simp; done) | (simp; omega)) _ | refine Below.alloc ?_ (by first | (simp; done) | (simp; omega)) _)) (hb1.mono (by simp; omega))
  have HB2 : Below w.heap.size w w2 := Below.trans (by
    repeat (first | refine Below.setCell ?_ (by first | (simp; done) | (simp; omega)) _ | with_reducible exact HB1)) (hb2.mono (by simp; omega))
  clear hb1 hb2
  go_wp2
  exact bodyPost_ret (v := .agg #[.string a, .string b, .string r, .string c, .string d, .string s]) (by simp [results, Tryz.results45, go_sem, *]) rfl ⟨rfl, by
    repeat (first | refine Below.setCell ?_ (by first | (simp; done) | (simp; omega)) _ | with_reducible exact HB2)⟩

end Go.Proofs.YtpnjoniolfmbnaaGreatDoor

/- Rows of tuples in memory, and the contracts of the laws' helpers on them. -/
namespace Go.Proofs.YtpnjoniolfmbnaaGreatDoor
open Go.ChangeShapes Go.WideShapes Go.ChangeAt Go.RowKit
open Pl

/-- a tuple: its object's type and id, its relation, its subject's type and id, its set -/
structure Tp where
  a : ByteArray
  b : ByteArray
  r : ByteArray
  c : ByteArray
  d : ByteArray
  s : ByteArray
def Tp.fits (t : Tp) : Prop := t.a.size ≤ maxLen ∧ t.b.size ≤ maxLen ∧ t.r.size ≤ maxLen ∧ t.c.size ≤ maxLen ∧ t.d.size ≤ maxLen ∧ t.s.size ≤ maxLen
/-- six cells hold a tuple -/
def At6 (w : World) (b off : Nat) (t : Tp) : Prop :=
  w.cell? ⟨b, off, none⟩ = some (.string t.a) ∧ w.cell? ⟨b, off + 1, none⟩ = some (.string t.b) ∧ w.cell? ⟨b, off + 2, none⟩ = some (.string t.r) ∧
  w.cell? ⟨b, off + 3, none⟩ = some (.string t.c) ∧ w.cell? ⟨b, off + 4, none⟩ = some (.string t.d) ∧ w.cell? ⟨b, off + 5, none⟩ = some (.string t.s)
/-- a row of tuples lies from a place on -/
def Row6 (w : World) (b off : Nat) (ts : List Tp) : Prop := ∀ (i : Nat) (h : i < ts.length), At6 w b (off + i * 6) ts[i]
/-- what a slice of tuples leads to -/
def Sl (w : World) (ad : Option Addr) (ts : List Tp) : Prop := ts = [] ∨ ∃ b off, ad = some ⟨b, off, none⟩ ∧ b < w.heap.size ∧ Row6 w b off ts

theorem At6.same {w w' : World} {b off : Nat} {t : Tp} (h : At6 w b off t) (hc : ∀ o, w'.cell? ⟨b, o, none⟩ = w.cell? ⟨b, o, none⟩) : At6 w' b off t := by
  obtain ⟨h0, h1, h2, h3, h4, h5⟩ := h
  exact ⟨(hc _).trans h0, (hc _).trans h1, (hc _).trans h2, (hc _).trans h3, (hc _).trans h4, (hc _).trans h5⟩
theorem Row6.below {w w' : World} {b off B : Nat} {ts : List Tp} (h : Row6 w b off ts) (hB : Below B w w') (hb : b < B) : Row6 w' b off ts :=
  fun i hi => (h i hi).same fun o => hB.cell (p := ⟨b, o, none⟩) hb
theorem Sl.below {w w' : World} {ad : Option Addr} {ts : List Tp} (h : Sl w ad ts) (hB : Below w.heap.size w w') : Sl w' ad ts := by
  rcases h with h | ⟨b, off, e, hb, hr⟩
  · exact .inl h
  · exact .inr ⟨b, off, e, Nat.lt_of_lt_of_le hb hB.size, hr.below hB hb⟩

/-- six cells written -/
def put6 (w : World) (g o : Nat) (t : Tp) : World :=
  (((((w.setCell ⟨g, o, none⟩ (.string t.a)).setCell ⟨g, o + 1, none⟩ (.string t.b)).setCell ⟨g, o + 2, none⟩ (.string t.r)).setCell ⟨g, o + 3, none⟩ (.string t.c)).setCell ⟨g, o + 4, none⟩ (.string t.d)).setCell ⟨g, o + 5, none⟩ (.string t.s)

theorem setO {w : World} {g i j : Nat} {v : Value} (h : i ≠ j) : (w.setCell ⟨g, i, none⟩ v).cell? ⟨g, j, none⟩ = w.cell? ⟨g, j, none⟩ := by
  apply World.cell?_setCell_other
  intro e
  exact h (congrArg Addr.off e)
theorem setS {w : World} {a : Addr} {v u : Value} (h : w.cell? a = some u) : (w.setCell a v).cell? a = some v := by
  apply World.cell?_setCell_same; exact h

theorem put6_far (w : World) (g o : Nat) (t : Tp) (j : Nat) (h : j < o ∨ o + 6 ≤ j) : (put6 w g o t).cell? ⟨g, j, none⟩ = w.cell? ⟨g, j, none⟩ := by
  unfold put6
  rw [setO (by omega), setO (by omega), setO (by omega), setO (by omega), setO (by omega), setO (by omega)]
theorem put6_at {w : World} {g o : Nat} (t : Tp) (h : ∀ j, j < 6 → (w.cell? ⟨g, o + j, none⟩).isSome = true) : At6 (put6 w g o t) g o t := by
  have e : ∀ (W : World) (i j : Nat) (v : Value), (W.cell? ⟨g, o + j, none⟩).isSome = true → ((W.setCell ⟨g, o + i, none⟩ v).cell? ⟨g, o + j, none⟩).isSome = true := by
    intro W i j v hW
    by_cases hij : i = j
    · subst hij
      obtain ⟨u, hu⟩ := Option.isSome_iff_exists.mp hW
      rw [setS hu]; rfl
    · rw [setO (by omega)]; exact hW
  have same : ∀ (W : World) (j : Nat) (v : Value), (W.cell? ⟨g, o + j, none⟩).isSome = true → (W.setCell ⟨g, o + j, none⟩ v).cell? ⟨g, o + j, none⟩ = some v := by
    intro W j v hW
    obtain ⟨u, hu⟩ := Option.isSome_iff_exists.mp hW
    exact setS hu
  have h0 := h 0 (by omega)
  have h1 := h 1 (by omega)
  have h2 := h 2 (by omega)
  have h3 := h 3 (by omega)
  have h4 := h 4 (by omega)
  have h5 := h 5 (by omega)
  unfold put6 At6
  refine ⟨?_, ?_, ?_, ?_, ?_, ?_⟩
  · rw [setO (by omega), setO (by omega), setO (by omega), setO (by omega), setO (by omega)]
    exact same _ 0 _ h0
  · rw [setO (by omega), setO (by omega), setO (by omega), setO (by omega)]
    exact same _ 1 _ (e _ 0 1 _ h1)
  · rw [setO (by omega), setO (by omega), setO (by omega)]
    exact same _ 2 _ (e _ 1 2 _ (e _ 0 2 _ h2))
  · rw [setO (by omega), setO (by omega)]
    exact same _ 3 _ (e _ 2 3 _ (e _ 1 3 _ (e _ 0 3 _ h3)))
  · rw [setO (by omega)]
    exact same _ 4 _ (e _ 3 4 _ (e _ 2 4 _ (e _ 1 4 _ (e _ 0 4 _ h4))))
  · exact same _ 5 _ (e _ 4 5 _ (e _ 3 5 _ (e _ 2 5 _ (e _ 1 5 _ (e _ 0 5 _ h5)))))
theorem put6_frozen (w : World) (g o : Nat) (t : Tp) (x : Addr) : (put6 w g o t).frozen? x = w.frozen? x := by simp [put6]
theorem put6_below {B : Nat} {w0 w : World} {g o : Nat} {t : Tp} (h : Below B w0 w) (hg : B ≤ g) : Below B w0 (put6 w g o t) := by
  unfold put6
  exact (((((h.setCell (by exact hg) _).setCell (by exact hg) _).setCell (by exact hg) _).setCell (by exact hg) _).setCell (by exact hg) _).setCell (by exact hg) _
theorem put6_size (w : World) (g o : Nat) (t : Tp) : (put6 w g o t).heap.size = w.heap.size := by simp [put6]

end Go.Proofs.YtpnjoniolfmbnaaGreatDoor
