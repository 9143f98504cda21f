/- A slice of bytes that came in, and the reader that is opened over it. -/
import Derived.Test.YtkpefjefodkddaaGreatDrawTuple
import Derived.ChangeSlices
import Derived.Deep.Slices
import Derived.Test.YtkpefjefodkddaaGreatJ1
import Derived.Test.YtkpefjefodkddaaGreatJ15
namespace Go.Proofs.YtkpefjefodkddaaGreat
open Go.ChangeShapes Go.WideShapes Go.ChangeAt Go.RowKit
open Pl
def Bytes (w : World) (ad : Option Addr) (len : Nat) : Prop := len ≤ maxLen ∧ (0 < len → ∃ b off, ad = some ⟨b, off, none⟩ ∧ b < w.heap.size ∧ ∀ i, i < len → ∃ c : Int, 0 ≤ c ∧ c ≤ 255 ∧ w.cell? ⟨b, off + i, none⟩ = some (.int .u8 c))
theorem Bytes.below {w w' : World} {ad : Option Addr} {len : Nat} (h : Bytes w ad len) (hb : Below w.heap.size w w') : Bytes w' ad len := by
 refine ⟨h.1, fun h0 => ?_⟩
 obtain ⟨b, off, e, hbl, hc⟩ := h.2 h0
 refine ⟨b, off, e, Nat.lt_of_lt_of_le hbl hb.size, fun i hi => ?_⟩
 obtain ⟨c, c0, c1, hcc⟩ := hc i hi
 exact ⟨c, c0, c1, by rw [hb.cell (p := ⟨b, off + i, none⟩) hbl]; exact hcc⟩
theorem open_bytes {H : Type} {enc : TypeId × Value → H} {W : World} {base : Nat} {sp : Nat → Bool} {held : Bool} {fuel : Nat} {ad : Option Addr} {len cap : Nat} {x : DataW H × List MemPlace}
  (h : DataW.trod enc Tryz.prog W base sp held fuel 22 [.slice ad len cap] = some x) : Bytes W ad len := by
 rcases open_ints Tryz.underlying22 Tryz.underlying5 (by kernel_rfl) h with ⟨hcs, -⟩ | ⟨a, l, c, zs, hcs, -, hlc, hcm, hm, -, hel, hwf⟩
 ·simp at hcs
  obtain ⟨rfl, rfl, rfl⟩ := hcs
  exact ⟨by unfold maxLen; omega, fun h0 => by omega⟩
 ·simp at hcs
  obtain ⟨rfl, rfl, rfl⟩ := hcs
  have hle : len ≤ zs.length := by rw [hm]; split <;> omega
  refine ⟨by omega, fun h0 => ?_⟩
  have hspot : a.spot = none := by
   have := hel 0 (by omega)
   have e : a.add 0 = a := by simp [Addr.add]
   rw [e] at this
   exact World.cell?_spot this
  obtain ⟨b, off, spot⟩ := a
  simp only at hspot
  subst hspot
  have add0 : ∀ x : Nat, (⟨b, off, none⟩ : Addr).add x = ⟨b, off + x, none⟩ := fun x => by
   unfold Addr.add
   by_cases h : x = 0
   ·subst h; simp
   ·simp [h]
  refine ⟨b, off, rfl, ?_, fun i hi => ?_⟩
  ·have := hel 0 (by omega)
   rw [add0] at this
   exact World.block_lt_of_cell? W ⟨b, off + 0, none⟩ this
  ·have h1 := hel i (by omega)
   rw [add0] at h1
   have h2 := hwf (zs.getD i 0) (by rw [List.getD_eq_getElem?_getD, List.getElem?_eq_getElem (by omega)]; simp)
   have h3 : IntKind.u8.min ≤ zs.getD i 0 ∧ zs.getD i 0 ≤ IntKind.u8.max := by simpa only [Lit.wf, Bool.and_eq_true, decide_eq_true_eq] using h2
   have e1 : IntKind.u8.min = 0 := by decide
   have e2 : IntKind.u8.max = 255 := by decide
   rw [e1, e2] at h3
   exact ⟨_, h3.1, h3.2, h1⟩
theorem rd_new {w : World} {ad : Option Addr} {len cap : Nat} {t : TypeId} (h : Bytes w ad len) : Rd (w.alloc (.cells #[.slice ad len cap, .int .i64 0] t)) w.heap.size ad len cap where
 lt := by simp
 code := by simp
 place := ⟨0, by simp, by omega⟩
 free := by simp
 bytes h0 := by
  obtain ⟨b, off, e, hbl, hc⟩ := h.2 h0
  refine ⟨b, off, e, by omega, by simp; omega, fun i hi => ?_⟩
  obtain ⟨c, c0, c1, hcc⟩ := hc i hi
  exact ⟨c, c0, c1, cell_al hcc _⟩
 small := h.1
theorem open_any (ad : Option Addr) (len cap : Nat) (w : World) (h : Bytes w ad len) :
  Calls Tryz.prog 22 #[.slice ad len cap] w fun e w' => e = .returned (.pointer (some ⟨w.heap.size, 0, none⟩)) ∧ Rd w' w.heap.size ad len cap ∧ Below w.heap.size w w' := by
 have H : Hid (Bytes w ad len) := h
 clear h
 go_enter Tryz.func22, Tryz.ntmps22
 go_wp2
 go_ret
 exact ⟨rfl, rd_new H.out, (Below.refl _ _).alloc (Nat.le_refl _) _⟩
theorem big_any (ad : Option Addr) (len cap : Nat) (w : World) :
  Calls Tryz.prog 5 #[.slice ad len cap] w fun e w' => e = .returned (.bool (decide ((1048576 : Int) < (len : Int)))) ∧ w' = w := by
 go_enter Tryz.func5, Tryz.ntmps5
 go_wp2
 go_ret
 exact ⟨rfl, rfl⟩
end Go.Proofs.YtkpefjefodkddaaGreat
namespace Go.Proofs.YtkpefjefodkddaaGreat
open Go.ChangeShapes Go.WideShapes Go.ChangeAt Go.RowKit
open Pl
theorem specObjText_any (t i : ByteArray) (w : World) (ht : t.size ≤ maxLen) (hi : i.size ≤ maxLen) :
  Calls Tryz.prog 92 #[.agg #[.string t, .string i]] w fun e w' => e = .returned (.string (objText t i)) ∧ Below w.heap.size w w' := by
 by_cases hn : objB t i = true
 ·obtain ⟨h1, h2⟩ := objB_le hn
  have HT : Hid (objText t i = t ++ ⟨#[58]⟩ ++ i) := objText_yes hn
  go_enter Tryz.func92, Tryz.ntmps92
  go_wp2_with (go_at_call 65; refine (specObj_any _ _ _ ht hi).mono ?_; rintro e w' ⟨rfl, hb⟩; obtain ⟨hc, hf⟩ := bcell hb)
  go_ret
  exact ⟨ret_str HT.out.symm, ((Below.refl _ _).alloc (Nat.le_refl _) _).trans (hb.mono (by simp))⟩
 ·have hn' : objB t i = false := by simpa using hn
  have HT : Hid (objText t i = ⟨#[]⟩) := objText_no hn'
  clear hn
  go_enter Tryz.func92, Tryz.ntmps92
  go_wp2_with (go_at_call 65; refine (specObj_any _ _ _ ht hi).mono ?_; rintro e w' ⟨rfl, hb⟩; obtain ⟨hc, hf⟩ := bcell hb)
  go_ret
  exact ⟨ret_str HT.out.symm, ((Below.refl _ _).alloc (Nat.le_refl _) _).trans (hb.mono (by simp))⟩
theorem implObjText_any (t i : ByteArray) (w : World) (ht : t.size ≤ maxLen) (hi : i.size ≤ maxLen) :
  Calls Tryz.prog 125 #[.agg #[.string t, .string i]] w fun e w' => e = .returned (.string (objText t i)) ∧ Below w.heap.size w w' := by
 by_cases hn : objB t i = true
 ·obtain ⟨h1, h2⟩ := objB_le hn
  have HT : Hid (objText t i = t ++ ⟨#[58]⟩ ++ i) := objText_yes hn
  go_enter Tryz.func125, Tryz.ntmps125
  go_wp2_with (go_at_call 67; refine (implObj_any _ _ _ ht hi).mono ?_; rintro e w' ⟨rfl, hb⟩; obtain ⟨hc, hf⟩ := bcell hb)
  go_ret
  exact ⟨ret_str HT.out.symm, ((Below.refl _ _).alloc (Nat.le_refl _) _).trans (hb.mono (by simp))⟩
 ·have hn' : objB t i = false := by simpa using hn
  have HT : Hid (objText t i = ⟨#[]⟩) := objText_no hn'
  clear hn
  go_enter Tryz.func125, Tryz.ntmps125
  go_wp2_with (go_at_call 67; refine (implObj_any _ _ _ ht hi).mono ?_; rintro e w' ⟨rfl, hb⟩; obtain ⟨hc, hf⟩ := bcell hb)
  go_ret
  exact ⟨ret_str HT.out.symm, ((Below.refl _ _).alloc (Nat.le_refl _) _).trans (hb.mono (by simp))⟩
end Go.Proofs.YtkpefjefodkddaaGreat
namespace Go.Proofs.YtkpefjefodkddaaGreat
open Go.ChangeShapes Go.WideShapes Go.ChangeAt Go.RowKit
open Pl
theorem setOk_any (s : ByteArray) (w : World) (hs : s.size ≤ maxLen) :
  Calls Tryz.prog 69 #[.string s] w fun e w' => e = .returned (.bool (setB s)) ∧ w' = w := by
 go_enter Tryz.func69, Tryz.ntmps69
 go_wp2_with (go_at_call 68; refine (implName_any _ _ hs).mono ?_; rintro e w' ⟨rfl, rfl⟩)
 all_goals go_ret
 all_goals exact ⟨ret_bool (by simp [setB, *]), rfl⟩
theorem specTup_any (a b r c d s : ByteArray) (w : World) (ha : a.size ≤ maxLen) (hb : b.size ≤ maxLen) (hr : r.size ≤ maxLen) (hc : c.size ≤ maxLen) (hd : d.size ≤ maxLen) (hs : s.size ≤ maxLen) :
  Calls Tryz.prog 34 #[.agg #[.string a, .string b, .string r, .string c, .string d, .string s]] w fun e w' => e = .returned (.bool (tupB a b r c d s)) ∧ Below w.heap.size w w' := by
 by_cases h1 : objB a b = true
 ·by_cases h2 : nameB r = true
  ·by_cases h3 : objB c d = true
   ·have HT : Hid (tupB a b r c d s = setB s) := tupB_yes h1 h2 h3
    go_enter Tryz.func34, Tryz.ntmps34
    go_wp2_with fail
    refine (specObj_any _ _ _ ha hb).mono ?_
    rintro e w1 ⟨rfl, hb1⟩
    obtain ⟨hc1, hf1⟩ := bcell hb1
    have hz1 : w.heap.size < w1.heap.size := by have := hb1.size; simp at this; omega
    go_wp2_with fail
    refine (specName_any _ _ hr).mono ?_
    rintro e w1' ⟨rfl, rfl⟩
    go_wp2_with fail
    refine (specObj_any _ _ _ hc hd).mono ?_
    rintro e w2 ⟨rfl, hb2⟩
    obtain ⟨hc2, hf2⟩ := bcell hb2
    have hz2 : w.heap.size < w2.heap.size := by have := hb2.size; omega
    go_wp2_with (go_at_call 30; refine (specName_any _ _ hs).mono ?_; rintro e w3 ⟨rfl, rfl⟩)
    all_goals go_ret
    all_goals exact ⟨ret_bool (HT.out.trans (by simp [setB, *])).symm, ((Below.refl _ _).alloc (Nat.le_refl _) _).trans ((hb1.mono (by simp)).trans (hb2.mono (by omega)))⟩
   ·have h3' : objB c d = false := by simpa using h3
    have HT : Hid (tupB a b r c d s = false) := tupB_no3 h3'
    clear h3
    go_enter Tryz.func34, Tryz.ntmps34
    go_wp2_with fail
    refine (specObj_any _ _ _ ha hb).mono ?_
    rintro e w1 ⟨rfl, hb1⟩
    obtain ⟨hc1, hf1⟩ := bcell hb1
    have hz1 : w.heap.size < w1.heap.size := by have := hb1.size; simp at this; omega
    go_wp2_with fail
    refine (specName_any _ _ hr).mono ?_
    rintro e w1' ⟨rfl, rfl⟩
    go_wp2_with fail
    refine (specObj_any _ _ _ hc hd).mono ?_
    rintro e w2 ⟨rfl, hb2⟩
    go_wp2
    go_ret
    exact ⟨ret_bool HT.out.symm, ((Below.refl _ _).alloc (Nat.le_refl _) _).trans ((hb1.mono (by simp)).trans (hb2.mono (by omega)))⟩
  ·have h2' : nameB r = false := by simpa using h2
   have HT : Hid (tupB a b r c d s = false) := tupB_no2 h2'
   clear h2
   go_enter Tryz.func34, Tryz.ntmps34
   go_wp2_with fail
   refine (specObj_any _ _ _ ha hb).mono ?_
   rintro e w1 ⟨rfl, hb1⟩
   obtain ⟨hc1, hf1⟩ := bcell hb1
   go_wp2_with fail
   refine (specName_any _ _ hr).mono ?_
   rintro e w1' ⟨rfl, rfl⟩
   go_wp2
   go_ret
   exact ⟨ret_bool HT.out.symm, ((Below.refl _ _).alloc (Nat.le_refl _) _).trans (hb1.mono (by simp))⟩
 ·have h1' : objB a b = false := by simpa using h1
  have HT : Hid (tupB a b r c d s = false) := tupB_no1 h1'
  clear h1
  go_enter Tryz.func34, Tryz.ntmps34
  go_wp2_with fail
  refine (specObj_any _ _ _ ha hb).mono ?_
  rintro e w1 ⟨rfl, hb1⟩
  go_wp2
  go_ret
  exact ⟨ret_bool HT.out.symm, ((Below.refl _ _).alloc (Nat.le_refl _) _).trans (hb1.mono (by simp))⟩
theorem implTup_any (a b r c d s : ByteArray) (w : World) (ha : a.size ≤ maxLen) (hb : b.size ≤ maxLen) (hr : r.size ≤ maxLen) (hc : c.size ≤ maxLen) (hd : d.size ≤ maxLen) (hs : s.size ≤ maxLen) :
  Calls Tryz.prog 36 #[.agg #[.string a, .string b, .string r, .string c, .string d, .string s]] w fun e w' => e = .returned (.bool (tupB a b r c d s)) ∧ Below w.heap.size w w' := by
 by_cases h1 : objB a b = true
 ·by_cases h2 : nameB r = true
  ·by_cases h3 : objB c d = true
   ·have HT : Hid (tupB a b r c d s = setB s) := tupB_yes h1 h2 h3
    go_enter Tryz.func36, Tryz.ntmps36
    go_wp2_with fail
    refine (implObj_any _ _ _ ha hb).mono ?_
    rintro e w1 ⟨rfl, hb1⟩
    obtain ⟨hc1, hf1⟩ := bcell hb1
    have hz1 : w.heap.size < w1.heap.size := by have := hb1.size; simp at this; omega
    go_wp2_with fail
    refine (implName_any _ _ hr).mono ?_
    rintro e w1' ⟨rfl, rfl⟩
    go_wp2_with fail
    refine (implObj_any _ _ _ hc hd).mono ?_
    rintro e w2 ⟨rfl, hb2⟩
    obtain ⟨hc2, hf2⟩ := bcell hb2
    have hz2 : w.heap.size < w2.heap.size := by have := hb2.size; omega
    go_wp2_with (go_at_call 69; refine (setOk_any _ _ hs).mono ?_; rintro e w3 ⟨rfl, rfl⟩)
    all_goals go_ret
    all_goals exact ⟨ret_bool (HT.out.trans (by simp [setB, *])).symm, ((Below.refl _ _).alloc (Nat.le_refl _) _).trans ((hb1.mono (by simp)).trans (hb2.mono (by omega)))⟩
   ·have h3' : objB c d = false := by simpa using h3
    have HT : Hid (tupB a b r c d s = false) := tupB_no3 h3'
    clear h3
    go_enter Tryz.func36, Tryz.ntmps36
    go_wp2_with fail
    refine (implObj_any _ _ _ ha hb).mono ?_
    rintro e w1 ⟨rfl, hb1⟩
    obtain ⟨hc1, hf1⟩ := bcell hb1
    have hz1 : w.heap.size < w1.heap.size := by have := hb1.size; simp at this; omega
    go_wp2_with fail
    refine (implName_any _ _ hr).mono ?_
    rintro e w1' ⟨rfl, rfl⟩
    go_wp2_with fail
    refine (implObj_any _ _ _ hc hd).mono ?_
    rintro e w2 ⟨rfl, hb2⟩
    go_wp2
    go_ret
    exact ⟨ret_bool HT.out.symm, ((Below.refl _ _).alloc (Nat.le_refl _) _).trans ((hb1.mono (by simp)).trans (hb2.mono (by omega)))⟩
  ·have h2' : nameB r = false := by simpa using h2
   have HT : Hid (tupB a b r c d s = false) := tupB_no2 h2'
   clear h2
   go_enter Tryz.func36, Tryz.ntmps36
   go_wp2_with fail
   refine (implObj_any _ _ _ ha hb).mono ?_
   rintro e w1 ⟨rfl, hb1⟩
   obtain ⟨hc1, hf1⟩ := bcell hb1
   go_wp2_with fail
   refine (implName_any _ _ hr).mono ?_
   rintro e w1' ⟨rfl, rfl⟩
   go_wp2
   go_ret
   exact ⟨ret_bool HT.out.symm, ((Below.refl _ _).alloc (Nat.le_refl _) _).trans (hb1.mono (by simp))⟩
 ·have h1' : objB a b = false := by simpa using h1
  have HT : Hid (tupB a b r c d s = false) := tupB_no1 h1'
  clear h1
  go_enter Tryz.func36, Tryz.ntmps36
  go_wp2_with fail
  refine (implObj_any _ _ _ ha hb).mono ?_
  rintro e w1 ⟨rfl, hb1⟩
  go_wp2
  go_ret
  exact ⟨ret_bool HT.out.symm, ((Below.refl _ _).alloc (Nat.le_refl _) _).trans (hb1.mono (by simp))⟩
end Go.Proofs.YtkpefjefodkddaaGreat
namespace Go.Proofs.YtkpefjefodkddaaGreat
open Go.ChangeShapes Go.WideShapes Go.ChangeAt Go.RowKit
open Pl
end Go.Proofs.YtkpefjefodkddaaGreat
namespace Go.Proofs.YtkpefjefodkddaaGreat
open Go.ChangeShapes Go.WideShapes Go.ChangeAt Go.RowKit
open Pl
end Go.Proofs.YtkpefjefodkddaaGreat
