/- The document's reader of expressions, as a plain function: a place, whether it has given up, the nodes so far. -/
import Derived.Test.YtjmbgpdbnffkpaaPlainText
import Derived.Test.YtjmbgpdbnffkpaaRows
import Derived.Below
import Derived.WalkKit
import Derived.WalkLawsBesides
import Derived.ProofKit
import Derived.Laws.IdiomStrings
namespace Go.Proofs.Ytjmbgpdbnffkpaa
open Pl

/-- how far the reader has come -/
structure RS where
  p : Nat
  bad : Bool
  out : List Ex

def tThis : ByteArray := ⟨#[116, 104, 105, 115, 40]⟩
def tHash : ByteArray := ⟨#[35]⟩
def tClose : ByteArray := ⟨#[41]⟩
def tComma : ByteArray := ⟨#[44]⟩
def tOpen : ByteArray := ⟨#[40]⟩
def tArrow : ByteArray := ⟨#[45, 62]⟩
def tSign (k : Int) : ByteArray := if k = 4 then ⟨#[32, 124, 32]⟩ else if k = 5 then ⟨#[32, 38, 32]⟩ else ⟨#[32, 45, 32]⟩

/-- w stands at the place p -/
def litAt (s w : ByteArray) (p : Nat) : Bool := decide (p + w.size ≤ s.size) && (s.extract p (p + w.size)).toList == w.toList
def isP (s w : ByteArray) (st : RS) : Bool := !st.bad && litAt s w st.p
def onP (w : ByteArray) (st : RS) : RS := ⟨st.p + w.size, st.bad, st.out⟩
def wordN (s : ByteArray) (p : Nat) : Nat := ((s.data.toList.drop p).takeWhile letB).length
def wordP (s : ByteArray) (p : Nat) : ByteArray := s.extract p (p + wordN s p)
def addP (x : Ex) (st : RS) : RS := ⟨st.p, st.bad || decide (15 < st.out.length + 1), st.out ++ [x]⟩
def endP (st : RS) : RS := ⟨st.p, true, st.out⟩

/-- a pair's set, where there is one -/
def setP (s : ByteArray) (st : RS) : ByteArray := if isP s tHash st then wordP s (st.p + 1) else ⟨#[]⟩
def behindSet (s : ByteArray) (st : RS) : RS := if isP s tHash st then ⟨st.p + 1 + wordN s (st.p + 1), st.bad, st.out⟩ else st
def pairAt (s : ByteArray) (st : RS) : RS := ⟨st.p + wordN s st.p, st.bad, st.out⟩
/-- the pairs behind 'this(' -/
def pairsP (s : ByteArray) : Nat → List Al → RS → Option (List Al) × RS
  | 0, _, st => (none, st)
  | n + 1, xs, st =>
    if st.bad then (none, st)
    else if isP s tClose (behindSet s (pairAt s st)) then (some (xs ++ [⟨wordP s st.p, setP s (pairAt s st)⟩]), onP tClose (behindSet s (pairAt s st)))
    else if isP s tComma (behindSet s (pairAt s st)) then pairsP s n (xs ++ [⟨wordP s st.p, setP s (pairAt s st)⟩]) (onP tComma (behindSet s (pairAt s st)))
    else pairsP s n (xs ++ [⟨wordP s st.p, setP s (pairAt s st)⟩]) (endP (behindSet s (pairAt s st)))
/-- a name, or a name over another one -/
def nameP (s : ByteArray) (st : RS) : Ex :=
  if isP s tArrow (pairAt s st) then ⟨3, [], wordP s st.p, wordP s (st.p + wordN s st.p + 2), []⟩ else ⟨2, [], ⟨#[]⟩, wordP s st.p, []⟩
def behindName (s : ByteArray) (st : RS) : RS :=
  if isP s tArrow (pairAt s st) then ⟨st.p + wordN s st.p + 2 + wordN s (st.p + wordN s st.p + 2), st.bad, st.out⟩ else pairAt s st
def judged (x : Ex) (st : RS) : RS := if nodeB x then st else endP st
/-- the sign that stands at a place -/
def signAt (s : ByteArray) (p : Nat) : Int := if litAt s (tSign 4) p then 4 else if litAt s (tSign 5) p then 5 else if litAt s (tSign 6) p then 6 else 0
/-- kids, each behind the sign -/
def kidsP (s : ByteArray) (it : RS → Int × RS) (k : Int) : Nat → List Int → RS → List Int × RS
  | 0, zs, st => (zs, st)
  | n + 1, zs, st => if isP s (tSign k) st then kidsP s it k n (zs ++ [(it (onP (tSign k) st)).1]) (it (onP (tSign k) st)).2 else (zs, st)
/-- an item (false), a row (true) -/
def rdP (s : ByteArray) : Nat → Bool → RS → Int × RS
  | 0, _, st => (0, st)
  | n + 1, false, st =>
    if isP s tThis st then
      match pairsP s (s.size + 1) [] (onP tThis st) with
      | (some xs, st') => ((st'.out.length : Int), addP ⟨1, xs, ⟨#[]⟩, ⟨#[]⟩, []⟩ st')
      | (none, st') => (0, st')
    else if isP s tOpen st then
      let x := rdP s n true (onP tOpen st)
      if isP s tClose x.2 then (x.1, onP tClose x.2) else (x.1, endP x.2)
    else ((st.out.length : Int), addP (nameP s st) (judged (nameP s st) (behindName s st)))
  | n + 1, true, st =>
    let x := rdP s n false st
    if signAt s x.2.p = 0 ∨ x.2.bad = true then x
    else
      let y := kidsP s (rdP s n false) (signAt s x.2.p) (s.size + 1) [x.1] x.2
      ((y.2.out.length : Int), addP ⟨signAt s x.2.p, [], ⟨#[]⟩, ⟨#[]⟩, y.1⟩ y.2)

theorem wordN_le (s : ByteArray) (p : Nat) (hp : p ≤ s.size) : p + wordN s p ≤ s.size := by
  unfold wordN
  have h1 : ((s.data.toList.drop p).takeWhile letB).length ≤ (s.data.toList.drop p).length := (List.takeWhile_prefix (p := letB) (l := s.data.toList.drop p)).length_le
  have h2 : (s.data.toList.drop p).length = s.size - p := by rw [List.length_drop]; simp
  omega
theorem wordP_size (s : ByteArray) (p : Nat) (hp : p ≤ s.size) : (wordP s p).size = wordN s p := by
  unfold wordP
  rw [ByteArray.size_extract]
  have := wordN_le s p hp
  omega
theorem litAt_le {s w : ByteArray} {p : Nat} (h : litAt s w p = true) : p + w.size ≤ s.size := by
  unfold litAt at h
  simp only [Bool.and_eq_true, decide_eq_true_eq] at h
  exact h.1
theorem isP_le {s w : ByteArray} {st : RS} (h : isP s w st = true) : st.p + w.size ≤ s.size := by
  unfold isP at h
  simp only [Bool.and_eq_true] at h
  exact litAt_le h.2
end Go.Proofs.Ytjmbgpdbnffkpaa

/- What a change of some blocks leaves as it was; the text of a mark. -/
namespace Go.Proofs.Ytjmbgpdbnffkpaa
open Go.ChangeShapes Go.WideShapes Go.ChangeAt Go.RowKit

theorem mO {w : World} {g i j : Nat} {v : Value} (h : i ≠ j) : (w.setCell ⟨g, i, none⟩ v).cell? ⟨g, j, none⟩ = w.cell? ⟨g, j, none⟩ := by
  apply World.cell?_setCell_other
  intro e
  exact h (congrArg Addr.off e)
theorem mS {w : World} {a : Addr} {v u : Value} (h : w.cell? a = some u) : (w.setCell a v).cell? a = some v := by
  apply World.cell?_setCell_same; exact h
theorem mK {W w1 : World} {n o : Nat} {v : Value} (hb : Below W.heap.size W w1) (hn : n < W.heap.size) (h : W.cell? ⟨n, o, none⟩ = some v) : w1.cell? ⟨n, o, none⟩ = some v := by
  rw [hb.cell (p := ⟨n, o, none⟩) hn]; exact h
theorem mF {W w1 : World} {n o : Nat} (hb : Below W.heap.size W w1) (hn : n < W.heap.size) (h : W.frozen? ⟨n, o, none⟩ = false) : w1.frozen? ⟨n, o, none⟩ = false := by
  rw [hb.frozen (p := ⟨n, o, none⟩) hn]; exact h

def Free (w : World) (g : Nat) : Prop := ∀ j, w.frozen? ⟨g, j, none⟩ = false
/-- at most these blocks have changed; none has become frozen -/
structure Chg (S : Nat → Prop) (w w' : World) : Prop where
  base : Below 0 w w'
  block : ∀ k, k < w.heap.size → ¬ S k → w'.heap[k]? = w.heap[k]?
  free : ∀ g, g < w.heap.size → Free w g → Free w' g
theorem Chg.refl (S : Nat → Prop) (w : World) : Chg S w w := ⟨Below.refl _ _, fun _ _ _ => rfl, fun _ _ h => h⟩
theorem Chg.size {S : Nat → Prop} {w w' : World} (h : Chg S w w') : w.heap.size ≤ w'.heap.size := h.base.size
theorem Chg.trans {S : Nat → Prop} {a b c : World} (h : Chg S a b) (k : Chg S b c) : Chg S a c :=
  ⟨h.base.trans k.base, fun i hi hs => (k.block i (Nat.lt_of_lt_of_le hi h.size) hs).trans (h.block i hi hs), fun g hg hf => k.free g (Nat.lt_of_lt_of_le hg h.size) (h.free g hg hf)⟩
theorem Chg.mono {S T : Nat → Prop} {a b : World} (h : Chg S a b) (hs : ∀ g, S g → T g) : Chg T a b :=
  ⟨h.base, fun i hi hn => h.block i hi fun e => hn (hs i e), h.free⟩
theorem Chg.of {S : Nat → Prop} {w w' : World} (h : Below w.heap.size w w') : Chg S w w' :=
  ⟨h.mono (Nat.zero_le _), fun k hk _ => h.block k hk, fun g hg hf j => by rw [h.frozen (p := ⟨g, j, none⟩) hg]; exact hf j⟩
theorem Chg.set {S : Nat → Prop} {w : World} {g j : Nat} (v : Value) (hs : S g) : Chg S w (w.setCell ⟨g, j, none⟩ v) :=
  ⟨(Below.refl 0 w).setCell (Nat.zero_le _) v, fun k _ hk => Below.heap_setCell _ _ _ _ (fun e => hk (by rw [e]; exact hs)), fun g' _ hf j' => by simpa using hf j'⟩
theorem Chg.below {S : Nat → Prop} {w w' : World} {m : Nat} (h : Chg S w w') (hm : ∀ g, S g → m ≤ g) (hw : m ≤ w.heap.size) : Below m w w' :=
  ⟨h.base.os, h.base.tape, h.base.output, h.base.size, fun k hk => h.block k (Nat.lt_of_lt_of_le hk hw) fun e => by have := hm k e; omega⟩
theorem Chg.cell {S : Nat → Prop} {w w' : World} (h : Chg S w w') {g o : Nat} (hg : g < w.heap.size) (hs : ¬ S g) : w'.cell? ⟨g, o, none⟩ = w.cell? ⟨g, o, none⟩ := by
  have := h.block g hg hs
  unfold World.cell?
  simp only [this]
/-- the digits of k ahead of o -/
def dgs (k : Nat) (o : ByteArray) : ByteArray := if _h : k = 0 then o else dgs (k / 10) (⟨#[UInt8.ofNat (48 + k % 10)]⟩ ++ o)
/-- the text of the mark k -/
def mtx (k : Nat) : ByteArray := ⟨#[109]⟩ ++ dgs k ⟨#[]⟩
theorem dgs_zero (o : ByteArray) : dgs 0 o = o := by rw [dgs, dif_pos rfl]
theorem dgs_step {k : Nat} (h : 0 < k) (o : ByteArray) : dgs k o = dgs (k / 10) (⟨#[UInt8.ofNat (48 + k % 10)]⟩ ++ o) := by
  rw [dgs, dif_neg (Nat.ne_of_gt h)]

set_option maxRecDepth 8000 in
set_option maxHeartbeats 1000000 in
theorem markText_any (k : Nat) (w : World) (h0 : 0 < k) (h1 : k ≤ 1000000000) :
    Calls Try.prog 33 #[.int .i64 (k : Int)] w fun e w' => e = .returned (.string (mtx k)) ∧ Below w.heap.size w w' := by
  have hk0 : ¬ (k : Int) ≤ 0 := by omega
  go_enter Try.func33, Try.ntmps33
  go_wp2
  go_loopw [0, 3] (fun kv ov wr => ∃ (x : Nat) (o : ByteArray), kv = .int .i64 (x : Int) ∧ ov = .string o ∧ Hid (dgs x o = dgs k ⟨#[]⟩) ∧ x * 10 ^ o.size ≤ k ∧ x ≤ k ∧ (x = 0 → o.size ≤ 12) ∧ Hid (Below w.heap.size w wr)) (fun kv _ _ => (intOf kv).toNat)
  case atStart => exact ⟨k, ⟨#[]⟩, rfl, rfl, rfl, (Nat.le_of_eq (Nat.mul_one k) : k * 10 ^ 0 ≤ k), Nat.le_refl _, fun _ => Nat.zero_le _, Below.refl _ _⟩
  case round =>
    obtain ⟨x, o, rfl, rfl, HD, hx, hxk, hz, HB⟩ := hrel
    by_cases hpos : 0 < x
    · have hsz : o.size ≤ 9 := by
        rcases Nat.lt_or_ge 9 o.size with h | h
        · have : 10 ^ 10 ≤ 10 ^ o.size := Nat.pow_le_pow_right (by omega) h
          have h2 : 1 * 10 ^ o.size ≤ x * 10 ^ o.size := Nat.mul_le_mul_right _ hpos
          omega
        · exact h
      have hx0 : (0 : Int) < (x : Int) := by omega
      obtain ⟨dd, hdd⟩ : ∃ dd : UInt8, dd = UInt8.ofNat (48 + x % 10) := ⟨_, rfl⟩
      have hbt : (48 + (x : Int) % 10) = ((dd).toNat : Int) := by
        rw [hdd, UInt8.toNat_ofNat']; omega
      have HCV : (convert 28 9 (.slice (some ⟨wr.heap.size, 0, none⟩) 1 1)).run Try.prog (wr.alloc (.cells #[.int .u8 (48 + (x : Int) % 10)] 5)) = .ok (.string ⟨#[dd]⟩) (wr.alloc (.cells #[.int .u8 (48 + (x : Int) % 10)] 5)) :=
        run_convert_bytes_back _ 28 9 5 ⟨wr.heap.size, 0, none⟩ 1 [dd] Try.underlying28 Try.underlying5 Try.underlying9 (fun j hj => by
          have : j = 0 := by simpa using hj
          subst this
          rw [hbt]
          exact World.cell?_alloc_mark wr #[.int .u8 ((dd).toNat : Int)] 5 (0, 0) 0)
      have HBT : Hid ((48 + (x : Int) % 10) = ((dd).toNat : Int)) := hbt
      have hone : (⟨#[dd]⟩ : ByteArray).size = 1 := rfl
      have HD2 : Hid (dgs (x / 10) (⟨#[dd]⟩ ++ o) = dgs k ⟨#[]⟩) := by show _ = _; rw [← HD.out]; rw [hdd]; exact (dgs_step hpos o).symm
      have HX2 : Hid (x / 10 * 10 ^ ((⟨#[dd]⟩ ++ o : ByteArray)).size ≤ k) := by
        show _ ≤ _
        rw [ByteArray.size_append, hone, Nat.add_comm, Nat.pow_succ]
        have : x / 10 * (10 ^ o.size * 10) = (x / 10 * 10) * 10 ^ o.size := by rw [Nat.mul_comm (10 ^ o.size), Nat.mul_assoc]
        rw [this]
        exact Nat.le_trans (Nat.mul_le_mul_right _ (by omega)) hx
      have HZ2 : Hid ((⟨#[dd]⟩ ++ o : ByteArray).size ≤ 12) := by show _ ≤ _; rw [ByteArray.size_append, hone]; omega
      have HB2 : Hid (Below w.heap.size w (wr.alloc (.cells #[.int .u8 (48 + (x : Int) % 10)] 5))) := HB.out.alloc HB.out.size _
      have HQ : Hid ((x : Int) / 10 = ((x / 10 : Nat) : Int)) := by show _ = _; omega
      clear hbt hone hdd
      go_wp2
      go_roundw
      case rel => exact ⟨x / 10, _, congrArg (Value.int .i64) HQ.out, rfl, HD2, HX2.out, by omega, fun _ => HZ2.out, HB2⟩
      case measure => simp [intOf]; omega
    · obtain rfl : x = 0 := by omega
      have hz2 := hz rfl
      have HN : Hid (mtx k = ⟨#[109]⟩ ++ o) := by show _ = _; unfold mtx; rw [← HD.out, dgs_zero]
      have hx0 : ¬ (0 : Int) < ((0 : Nat) : Int) := by omega
      go_wp2
      go_ret
      exact ⟨by rw [HN.out]; rfl, HB.out⟩
theorem markText_at (x : Int) (k : Nat) (w : World) (hx : x = (k : Int)) (h0 : 0 < k) (h1 : k ≤ 1000000000) :
    Calls Try.prog 33 #[.int .i64 x] w fun e w' => e = .returned (.string (mtx k)) ∧ Below w.heap.size w w' := by
  rw [hx]; exact markText_any k w h0 h1
end Go.Proofs.Ytjmbgpdbnffkpaa
