/- What the drawings of numbers answer: some number. -/
import Derived.Test.YtjmbgpdbnffkpaaDrawText
import Derived.Test.YtjmbgpdbnffkpaaJ10
import Derived.ChangeSlices
import Derived.Deep.Slices
import Derived.Test.YtjmbgpdbnffkpaaJ1
import Derived.Lib.IndexMore
import Derived.Lib.IndexBytes
import Derived.Lib.Strings
namespace Go.Proofs.Ytjmbgpdbnffkpaa
set_option maxRecDepth 100000
open Go.ChangeShapes Go.WideShapes Go.ChangeAt Go.RowKit
open Pl

set_option maxHeartbeats 4000000 in
theorem drawWord_any (R : Nat) (ad : Option Addr) (len cap : Nat) (w : World) (h : Rd w R ad len cap) :
    Calls Try.prog 124 #[.pointer (some ⟨R, 0, none⟩)] w fun e w' => (∃ x : Int, e = .returned (.int .u64 x)) ∧ Rd w' R ad len cap ∧ Only R w w' := by
  have H := toH h
  clear h
  go_enter Try.func124, Try.ntmps124
  go_wp2
  go_loopw [3, 4] (fun v i wr => ∃ (x : Int) (k : Nat), v = .int .u64 x ∧ i = .int .i64 (k : Int) ∧ k ≤ 8 ∧ Hid (Rd wr R ad len cap) ∧ Hid (Only R w wr)) (fun _ i _ => 8 - (intOf i).toNat)
  case atStart => exact ⟨0, 0, rfl, rfl, by omega, H, Only.refl _ _⟩
  case round =>
    obtain ⟨x, k, rfl, rfl, hk, HR, HO⟩ := hrel
    by_cases hlt : k < 8
    · have hk1 : (k : Int) < 8 := by omega
      go_wp2_with fail
      refine (next_any R ad len cap _ HR.out).mono ?_
      rintro e w1 ⟨⟨y, rfl, hy0, hy1⟩, hR1, hO1⟩
      have HR1 := toH hR1
      have HO1 : Hid (Only R w w1) := HO.out.trans hO1
      clear hR1 hO1
      go_wp2
      go_roundw
      case rel => exact ⟨_, k + 1, rfl, by go_num, by omega, HR1, HO1⟩
      case measure => first | (simp [intOf]; done) | (simp [intOf]; omega)
    · have hk1 : ¬ (k : Int) < 8 := by omega
      go_wp2
      go_ret
      exact ⟨⟨x, rfl⟩, HR.out, HO.out⟩
set_option maxHeartbeats 4000000 in
theorem near_any (R : Nat) (ad : Option Addr) (len cap : Nat) (w : World) (h : Rd w R ad len cap) :
    Calls Try.prog 98 #[.pointer (some ⟨R, 0, none⟩), .int .i64 1, .int .i64 6] w fun e w' => (∃ x : Int, e = .returned (.int .i64 x)) ∧ Rd w' R ad len cap ∧ Only R w w' := by
  have H := toH h
  clear h
  go_enter Try.func98, Try.ntmps98
  go_wp2_with fail
  refine (below_nat R ad len cap 8 _ H.out (by omega) (by omega)).mono ?_
  rintro e w1 ⟨⟨x, rfl, hx⟩, hR1, hO1⟩
  have HR1 := toH hR1
  have HO1 := toH hO1
  clear hR1 hO1
  by_cases h0 : x = 0
  · subst h0
    go_wp2
    go_ret
    exact ⟨⟨_, rfl⟩, HR1.out, HO1.out⟩
  · have h00 : ((x : Int) == 0) = false := by simp; omega
    by_cases h1 : x = 1
    · subst h1
      go_wp2
      go_ret
      exact ⟨⟨_, rfl⟩, HR1.out, HO1.out⟩
    · have h11 : ((x : Int) == 1) = false := by simp; omega
      go_wp2_with fail
      refine (drawWord_any R ad len cap _ HR1.out).mono ?_
      rintro e w2 ⟨⟨y, rfl⟩, hR2, hO2⟩
      have HR2 := toH hR2
      have HO2 : Hid (Only R w w2) := HO1.out.trans hO2
      clear hR2 hO2
      go_wp2
      go_ret
      exact ⟨⟨_, rfl⟩, HR2.out, HO2.out⟩
set_option maxHeartbeats 4000000 in
theorem off_any (R : Nat) (ad : Option Addr) (len cap : Nat) (w : World) (h : Rd w R ad len cap) :
    Calls Try.prog 71 #[.pointer (some ⟨R, 0, none⟩), .int .i64 1, .int .i64 6] w fun e w' => (∃ x : Int, e = .returned (.int .i64 x)) ∧ Rd w' R ad len cap ∧ Only R w w' := by
  have H := toH h
  clear h
  go_enter Try.func71, Try.ntmps71
  go_wp2_with fail
  refine (once_any R ad len cap 24 _ H.out (by omega) (by omega)).mono ?_
  rintro e w1 ⟨⟨q, rfl⟩, hR1, hO1⟩
  have HR1 := toH hR1
  have HO1 := toH hO1
  have hRw := hR1.lt
  clear hR1 hO1
  cases q with
  | false =>
    go_wp2_with fail
    refine (near_any R ad len cap _ HR1.out).mono ?_
    rintro e w2 ⟨⟨y, rfl⟩, hR2, hO2⟩
    have HR2 := toH hR2
    have HO2 : Hid (Only R w w2) := HO1.out.trans hO2
    clear hR2 hO2
    go_wp2
    go_ret
    exact ⟨⟨_, rfl⟩, HR2.out, HO2.out⟩
  | true =>
    obtain ⟨W0, hW0⟩ : ∃ W0, W0 = w1.alloc (.cells #[.int .i64 0, .int .i64 7, .int .i64 (-9223372036854775808), .int .i64 9223372036854775807] 2) := ⟨_, rfl⟩
    have HR0 : Hid (Rd W0 R ad len cap) := by show Rd _ _ _ _ _; rw [hW0]; exact HR1.out.alloc _
    have HO0 : Hid (Only R w W0) := by show Only _ _ _; rw [hW0]; exact HO1.out.alloc _
    have HC0 : Hid (w1.heap.size < W0.heap.size ∧ ∀ o, o < 4 → ∃ z : Int, W0.cell? ⟨w1.heap.size, o, none⟩ = some (.int .i64 z)) := by
      show _ ∧ _
      rw [hW0]
      refine ⟨by simp, fun o ho => ?_⟩
      have : o = 0 ∨ o = 1 ∨ o = 2 ∨ o = 3 := by omega
      rcases this with rfl | rfl | rfl | rfl <;> exact ⟨_, by simp; rfl⟩
    go_wp2_with fail
    rw [← hW0]; clear hW0
    refine (below_nat R ad len cap 4 _ HR0.out (by omega) (by omega)).mono ?_
    rintro e w2 ⟨⟨x, rfl, hx⟩, hR2, hO2⟩
    obtain ⟨z, hz⟩ := HC0.out.2 x hx
    have hz2 : w2.cell? ⟨w1.heap.size, x, none⟩ = some (.int .i64 z) := by rw [hO2.cell HC0.out.1 (by omega)]; exact hz
    have HR2 := toH hR2
    have HO2 : Hid (Only R w w2) := HO0.out.trans hO2
    have hx0 : (0 : Int) ≤ (x : Int) := by omega
    have hx1 : (x : Int) < 4 := by omega
    clear hR2 hO2 hz HC0 HR0 HO0
    go_wp2
    go_ret
    exact ⟨⟨z, rfl⟩, HR2.out, HO2.out⟩
end Go.Proofs.Ytjmbgpdbnffkpaa

/- A slice of bytes that came in, and the reader that is opened over it. -/
namespace Go.Proofs.Ytjmbgpdbnffkpaa
open Go.ChangeShapes Go.WideShapes Go.ChangeAt Go.RowKit
open Pl


/-- a slice of bytes that came in -/
def Bytes (w : World) (ad : Option Addr) (len : Nat) : Prop := len ≤ maxLen ∧ (0 < len → ∃ b off, ad = some ⟨b, off, none⟩ ∧ b < w.heap.size ∧ ∀ i, i < len → ∃ c : Int, 0 ≤ c ∧ c ≤ 255 ∧ w.cell? ⟨b, off + i, none⟩ = some (.int .u8 c))
theorem Bytes.below {w w' : World} {ad : Option Addr} {len : Nat} (h : Bytes w ad len) (hb : Below w.heap.size w w') : Bytes w' ad len := by
  refine ⟨h.1, fun h0 => ?_⟩
  obtain ⟨b, off, e, hbl, hc⟩ := h.2 h0
  refine ⟨b, off, e, Nat.lt_of_lt_of_le hbl hb.size, fun i hi => ?_⟩
  obtain ⟨c, c0, c1, hcc⟩ := hc i hi
  exact ⟨c, c0, c1, by rw [hb.cell (p := ⟨b, off + i, none⟩) hbl]; exact hcc⟩

theorem open_bytes {H : Type} {enc : TypeId × Value → H} {W : World} {base : Nat} {sp : Nat → Bool} {held : Bool} {fuel : Nat} {ad : Option Addr} {len cap : Nat} {x : DataW H × List MemPlace}
    (h : DataW.trod enc Try.prog W base sp held fuel 28 [.slice ad len cap] = some x) : Bytes W ad len := by
  rcases open_ints Try.underlying28 Try.underlying5 (by kernel_rfl) h with ⟨hcs, -⟩ | ⟨a, l, c, zs, hcs, -, hlc, hcm, hm, -, hel, hwf⟩
  · simp at hcs
    obtain ⟨rfl, rfl, rfl⟩ := hcs
    exact ⟨by unfold maxLen; omega, fun h0 => by omega⟩
  · simp at hcs
    obtain ⟨rfl, rfl, rfl⟩ := hcs
    have hle : len ≤ zs.length := by rw [hm]; split <;> omega
    refine ⟨by omega, fun h0 => ?_⟩
    have hspot : a.spot = none := by
      have := hel 0 (by omega)
      have e : a.add 0 = a := by simp [Addr.add]
      rw [e] at this
      exact World.cell?_spot this
    obtain ⟨b, off, spot⟩ := a
    simp only at hspot
    subst hspot
    have add0 : ∀ x : Nat, (⟨b, off, none⟩ : Addr).add x = ⟨b, off + x, none⟩ := fun x => by
      unfold Addr.add
      by_cases h : x = 0
      · subst h; simp
      · simp [h]
    refine ⟨b, off, rfl, ?_, fun i hi => ?_⟩
    · have := hel 0 (by omega)
      rw [add0] at this
      exact World.block_lt_of_cell? W ⟨b, off + 0, none⟩ this
    · have h1 := hel i (by omega)
      rw [add0] at h1
      have h2 := hwf (zs.getD i 0) (by rw [List.getD_eq_getElem?_getD, List.getElem?_eq_getElem (by omega)]; simp)
      have h3 : IntKind.u8.min ≤ zs.getD i 0 ∧ zs.getD i 0 ≤ IntKind.u8.max := by simpa only [Lit.wf, Bool.and_eq_true, decide_eq_true_eq] using h2
      have e1 : IntKind.u8.min = 0 := by decide
      have e2 : IntKind.u8.max = 255 := by decide
      rw [e1, e2] at h3
      exact ⟨_, h3.1, h3.2, h1⟩

theorem rd_new {w : World} {ad : Option Addr} {len cap : Nat} {t : TypeId} (h : Bytes w ad len) : Rd (w.alloc (.cells #[.slice ad len cap, .int .i64 0] t)) w.heap.size ad len cap where
  lt := by simp
  code := by simp
  place := ⟨0, by simp, by omega⟩
  free := by simp
  bytes h0 := by
    obtain ⟨b, off, e, hbl, hc⟩ := h.2 h0
    refine ⟨b, off, e, by omega, by simp; omega, fun i hi => ?_⟩
    obtain ⟨c, c0, c1, hcc⟩ := hc i hi
    exact ⟨c, c0, c1, cell_al hcc _⟩
  small := h.1

theorem open_any (ad : Option Addr) (len cap : Nat) (w : World) (h : Bytes w ad len) :
    Calls Try.prog 42 #[.slice ad len cap] w fun e w' => e = .returned (.pointer (some ⟨w.heap.size, 0, none⟩)) ∧ Rd w' w.heap.size ad len cap ∧ Below w.heap.size w w' := by
  have H : Hid (Bytes w ad len) := h
  clear h
  go_enter Try.func42, Try.ntmps42
  go_wp2
  go_ret
  exact ⟨rfl, rd_new H.out, (Below.refl _ _).alloc (Nat.le_refl _) _⟩

theorem big_any (ad : Option Addr) (len cap : Nat) (w : World) :
    Calls Try.prog 12 #[.slice ad len cap] w fun e w' => e = .returned (.bool (decide ((1048576 : Int) < (len : Int)))) ∧ w' = w := by
  go_enter Try.func12, Try.ntmps12
  go_wp2
  go_ret
  exact ⟨rfl, rfl⟩

theorem res_new' {w : World} {R : Nat} (hR : w.heap.size ≠ R) (t : TypeId) : Res (w.alloc (.cells #[.string ⟨#[]⟩, .string ⟨#[]⟩, .string ⟨#[]⟩, .string ⟨#[]⟩, .string ⟨#[]⟩, .string ⟨#[]⟩] t)) R w.heap.size := by
  refine ⟨hR, by simp, fun o => by simp, fun o ho => ?_⟩
  have h6 : o = 0 ∨ o = 1 ∨ o = 2 ∨ o = 3 ∨ o = 4 ∨ o = 5 := by omega
  rcases h6 with rfl | rfl | rfl | rfl | rfl | rfl <;> simp
theorem below_set6 {B : Nat} {w w' : World} (h : Below B w w') {n : Nat} (hn : B ≤ n) (v0 v1 v2 v3 v4 v5 : Value) : Below B w ((((((w'.setCell ⟨n, 0, none⟩ v0).setCell ⟨n, 1, none⟩ v1).setCell ⟨n, 2, none⟩ v2).setCell ⟨n, 3, none⟩ v3).setCell ⟨n, 4, none⟩ v4).setCell ⟨n, 5, none⟩ v5) := by
  have st : ∀ (W : World) (o : Nat) (v : Value), Below B w W → Below B w (W.setCell ⟨n, o, none⟩ v) := fun W o v h => h.setCell hn v
  exact st _ _ _ (st _ _ _ (st _ _ _ (st _ _ _ (st _ _ _ (st _ _ _ h)))))

end Go.Proofs.Ytjmbgpdbnffkpaa

/- Plain functions on bytes: the texts of objects and tuples, and what their sizes are. Nothing of the program is read here. -/
namespace Go.Proofs.Ytjmbgpdbnffkpaa.Pl

theorem ret_str {a b : ByteArray} (h : a = b) : Ending.returned (.string a) = .returned (.string b) := by rw [h]

theorem lenB_le {s : ByteArray} (h : lenB s = true) : 1 ≤ s.size ∧ s.size ≤ 12 := by simpa [lenB] using h
theorem nameB_le {s : ByteArray} (h : nameB s = true) : 1 ≤ s.size ∧ s.size ≤ 12 := by
  simp [nameB, signsB] at h; exact lenB_le h.1.1
theorem isIdB_le {s : ByteArray} (h : isIdB s = true) : 1 ≤ s.size ∧ s.size ≤ 12 := by
  simp [isIdB, signsB] at h; exact lenB_le h.1
theorem objB_le {t i : ByteArray} (h : objB t i = true) : t.size ≤ 12 ∧ i.size ≤ 12 := by
  simp [objB] at h; exact ⟨(nameB_le h.1).2, (isIdB_le h.2).2⟩

/-- an object's text: its type, a colon, its id; nothing where it is not right -/
def objText (t i : ByteArray) : ByteArray := if objB t i then t ++ ⟨#[58]⟩ ++ i else ⟨#[]⟩
theorem objText_yes {t i : ByteArray} (h : objB t i = true) : objText t i = t ++ ⟨#[58]⟩ ++ i := by simp [objText, h]
theorem objText_no {t i : ByteArray} (h : objB t i = false) : objText t i = ⟨#[]⟩ := by simp [objText, h]
theorem objText_size (t i : ByteArray) : (objText t i).size ≤ 25 := by
  unfold objText; split
  · rename_i h
    have h2 := objB_le h
    have e1 : (ByteArray.mk #[58]).size = 1 := rfl
    rw [ByteArray.size_append, ByteArray.size_append, e1]
    omega
  · exact Nat.zero_le _

end Go.Proofs.Ytjmbgpdbnffkpaa.Pl

/- Plain functions on bytes: which tuples are right, and their texts. Nothing of the program is read here. -/
namespace Go.Proofs.Ytjmbgpdbnffkpaa.Pl

def setB (s : ByteArray) : Bool := s.toList.isEmpty || nameB s
/-- a tuple is right: its object (a, b), its relation r, its subject (c, d), its set s -/
def tupB (a b r c d s : ByteArray) : Bool := objB a b && nameB r && objB c d && setB s

/-- a tuple's text; nothing where it is not right -/
def tupText (a b r c d s : ByteArray) : ByteArray :=
  if tupB a b r c d s then
    (if s.toList.isEmpty then objText a b ++ ⟨#[35]⟩ ++ r ++ ⟨#[64]⟩ ++ objText c d else objText a b ++ ⟨#[35]⟩ ++ r ++ ⟨#[64]⟩ ++ objText c d ++ ⟨#[35]⟩ ++ s)
  else ⟨#[]⟩
theorem tupText_no {a b r c d s : ByteArray} (h : tupB a b r c d s = false) : tupText a b r c d s = ⟨#[]⟩ := by simp [tupText, h]
theorem tupText_one {a b r c d s : ByteArray} (h : tupB a b r c d s = true) (hs : s.toList.isEmpty = true) : tupText a b r c d s = objText a b ++ ⟨#[35]⟩ ++ r ++ ⟨#[64]⟩ ++ objText c d := by simp [tupText, h, hs]
theorem tupText_two {a b r c d s : ByteArray} (h : tupB a b r c d s = true) (hs : s.toList.isEmpty = false) : tupText a b r c d s = objText a b ++ ⟨#[35]⟩ ++ r ++ ⟨#[64]⟩ ++ objText c d ++ ⟨#[35]⟩ ++ s := by simp [tupText, h, hs]
theorem tupB_no1 {a b r c d s : ByteArray} (h : objB a b = false) : tupB a b r c d s = false := by simp [tupB, h]
theorem tupB_no2 {a b r c d s : ByteArray} (h : nameB r = false) : tupB a b r c d s = false := by simp [tupB, h]
theorem tupB_no3 {a b r c d s : ByteArray} (h : objB c d = false) : tupB a b r c d s = false := by simp [tupB, h]
theorem tupB_yes {a b r c d s : ByteArray} (h1 : objB a b = true) (h2 : nameB r = true) (h3 : objB c d = true) : tupB a b r c d s = setB s := by simp [tupB, h1, h2, h3]
theorem tupB_parts {a b r c d s : ByteArray} (h : tupB a b r c d s = true) : objB a b = true ∧ nameB r = true ∧ objB c d = true ∧ setB s = true := by
  simp [tupB] at h; exact ⟨h.1.1.1, h.1.1.2, h.1.2, h.2⟩
theorem toList_isEmpty {s : ByteArray} (h : s.toList.isEmpty = true) : s.size = 0 := by
  rw [Go.ByteArray.toList_eq] at h
  have h2 : s.data.toList = [] := by simpa using h
  have h3 : s.data.toList.length = 0 := by rw [h2]; rfl
  simpa using h3
theorem setB_le {s : ByteArray} (h : setB s = true) : s.size ≤ 12 := by
  simp only [setB, Bool.or_eq_true] at h
  rcases h with h | h
  · have := toList_isEmpty h; omega
  · exact (nameB_le h).2

end Go.Proofs.Ytjmbgpdbnffkpaa.Pl

/- Plain functions on bytes: a text cut at the first such byte. Nothing of the program is read here. -/
namespace Go.Proofs.Ytjmbgpdbnffkpaa.Pl

def cutL (c : UInt8) : List UInt8 → List UInt8 × List UInt8 × Bool
  | [] => ([], [], false)
  | b :: l => if b = c then ([], l, true) else (b :: (cutL c l).1, (cutL c l).2.1, (cutL c l).2.2)

theorem cutL_index (c : UInt8) (l : List UInt8) : cutL c l = if 0 ≤ Lib.indexByte l c then (l.take (Lib.indexByte l c).toNat, l.drop ((Lib.indexByte l c).toNat + 1), true) else (l, [], false) := by
  induction l with
  | nil => simp [cutL, Lib.indexByte]
  | cons b l ih =>
    unfold cutL Lib.indexByte
    by_cases h : b = c
    · simp [h]
    · have hb : (b == c) = false := by simpa using h
      have hge := Lib.indexByte_ge l c
      rw [if_neg h, ih, hb]
      by_cases h0 : 0 ≤ Lib.indexByte l c
      · have hne : (Lib.indexByte l c == -1) = false := by simp; omega
        have e1 : (Lib.indexByte l c + 1).toNat = (Lib.indexByte l c).toNat + 1 := by omega
        rw [if_pos h0]
        simp only [hne]
        rw [if_pos (by simp; omega)]
        simp [e1]
      · have he : Lib.indexByte l c = -1 := by omega
        rw [if_neg h0]
        simp [he]

theorem cut_one (l : List UInt8) (c : UInt8) : Lib.cut l [c] = cutL c l := by
  rw [cutL_index, Lib.cut, Lib.index_one]
  simp

theorem cutL_at {c : UInt8} {l : List UInt8} {k : Nat} (hk : k < l.length) (hn : ∀ x ∈ l.take k, x ≠ c) (hc : l[k] = c) : cutL c l = (l.take k, l.drop (k + 1), true) := by
  induction l generalizing k with
  | nil => simp at hk
  | cons b l ih =>
    cases k with
    | zero => simp at hc; simp [cutL, hc]
    | succ k =>
      have hb : b ≠ c := hn b (by simp)
      have := ih (k := k) (by simpa using hk) (fun x hx => hn x (by simp [hx])) (by simpa using hc)
      simp [cutL, hb, this]
theorem cutL_none {c : UInt8} {l : List UInt8} (hn : ∀ x ∈ l, x ≠ c) : cutL c l = (l, [], false) := by
  induction l with
  | nil => rfl
  | cons b l ih =>
    have hb : b ≠ c := hn b (by simp)
    have := ih (fun x hx => hn x (by simp [hx]))
    simp [cutL, hb, this]
theorem cutL_len (c : UInt8) (l : List UInt8) : (cutL c l).1.length ≤ l.length ∧ (cutL c l).2.1.length ≤ l.length := by
  induction l with
  | nil => simp [cutL]
  | cons b l ih =>
    unfold cutL
    split
    · simp
    · simp; omega

/-- ahead of the first such byte; behind it; is it there -/
def cutA (c : UInt8) (s : ByteArray) : ByteArray := ⟨(cutL c s.data.toList).1.toArray⟩
def cutZ (c : UInt8) (s : ByteArray) : ByteArray := ⟨(cutL c s.data.toList).2.1.toArray⟩
def cutF (c : UInt8) (s : ByteArray) : Bool := (cutL c s.data.toList).2.2
theorem size_list (l : List UInt8) : (ByteArray.mk l.toArray).size = l.length := rfl
theorem cutA_le (c : UInt8) (s : ByteArray) : (cutA c s).size ≤ s.size := by
  unfold cutA; rw [size_list]; exact (cutL_len c s.data.toList).1
theorem cutZ_le (c : UInt8) (s : ByteArray) : (cutZ c s).size ≤ s.size := by
  unfold cutZ; rw [size_list]; exact (cutL_len c s.data.toList).2

theorem ext_data {a b : ByteArray} (h : a.data.toList = b.data.toList) : a = b := by
  cases a; cases b; simp at h; simp [h]

/-- none of the first k is that byte -/
def noB (c : UInt8) (s : ByteArray) (k : Nat) : Prop := ∀ x ∈ s.data.toList.take k, x ≠ c
theorem noB_zero (c : UInt8) (s : ByteArray) : noB c s 0 := by intro x hx; simp at hx
theorem noB_succ {c : UInt8} {s : ByteArray} {k : Nat} (h : k < s.size) (hn : noB c s k) (hc : s[k] ≠ c) : noB c s (k + 1) := by
  intro x hx
  rw [take_snoc s k h] at hx
  simp at hx
  rcases hx with hx | hx
  · exact hn x (by simpa using hx)
  · subst hx; exact hc
theorem cut_at {c : UInt8} {s : ByteArray} {k : Nat} (h : k < s.size) (hn : noB c s k) (hc : s[k] = c) : cutL c s.data.toList = (s.data.toList.take k, s.data.toList.drop (k + 1), true) :=
  cutL_at (by simpa using h) hn (by simpa [ByteArray.getElem_eq_getElem_data] using hc)
theorem cut_none {c : UInt8} {s : ByteArray} {k : Nat} (h : s.size ≤ k) (hn : noB c s k) : cutL c s.data.toList = (s.data.toList, [], false) :=
  cutL_none (fun x hx => hn x (by rw [List.take_of_length_le (by simpa using h)]; exact hx))


/-- a text is an object's; its type; its id -/
def rdB (s : ByteArray) : Bool := objB (cutA 58 s) (cutZ 58 s)
def rdT (s : ByteArray) : ByteArray := if rdB s then cutA 58 s else ⟨#[]⟩
def rdI (s : ByteArray) : ByteArray := if rdB s then cutZ 58 s else ⟨#[]⟩

theorem cutL_miss {c : UInt8} {l : List UInt8} (h : (cutL c l).2.2 = false) : (cutL c l).2.1 = [] := by
  induction l with
  | nil => rfl
  | cons b l ih =>
    unfold cutL at h ⊢
    split
    · rename_i hb; simp [hb] at h
    · rename_i hb; simp [hb] at h; simpa [hb] using ih h
theorem cut_miss {c : UInt8} {s : ByteArray} (h : cutF c s = false) : cutZ c s = ⟨#[]⟩ := by
  unfold cutF at h; unfold cutZ; rw [cutL_miss h]
theorem isIdB_empty : isIdB ⟨#[]⟩ = false := by decide
theorem rdB_miss {s : ByteArray} (h : cutF 58 s = false) : rdB s = false := by
  simp [rdB, objB, cut_miss h, isIdB_empty]
theorem rd_no {s : ByteArray} (h : rdB s = false) : rdT s = ⟨#[]⟩ ∧ rdI s = ⟨#[]⟩ := by simp [rdT, rdI, h]
theorem rd_yes {s : ByteArray} (h : rdB s = true) : rdT s = cutA 58 s ∧ rdI s = cutZ 58 s := by simp [rdT, rdI, h]
theorem rdT_le (s : ByteArray) : (rdT s).size ≤ s.size := by
  unfold rdT; split
  · exact cutA_le _ _
  · exact Nat.zero_le _
theorem rdI_le (s : ByteArray) : (rdI s).size ≤ s.size := by
  unfold rdI; split
  · exact cutZ_le _ _
  · exact Nat.zero_le _

end Go.Proofs.Ytjmbgpdbnffkpaa.Pl
