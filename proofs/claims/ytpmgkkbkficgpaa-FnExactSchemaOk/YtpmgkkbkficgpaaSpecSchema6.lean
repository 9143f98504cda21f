/- Strata in memory, and the contract of the document's function that looks one up. -/
import Derived.Test.YtpmgkkbkficgpaaSpecSchema5
namespace Go.Proofs.Ytpmgkkbkficgpaa
open Go.ChangeShapes Go.WideShapes Go.ChangeAt Go.RowKit
open Pl

/-- a relation's stratum -/
structure St where
  typ : ByteArray
  rel : ByteArray
  n : Int
def At3 (w : World) (b off : Nat) (s : St) : Prop := w.cell? ⟨b, off, none⟩ = some (.string s.typ) ∧ w.cell? ⟨b, off + 1, none⟩ = some (.string s.rel) ∧ w.cell? ⟨b, off + 2, none⟩ = some (.int .i64 s.n)
def SlN (w : World) (ad : Option Addr) (xs : List St) : Prop := xs = [] ∨ ∃ b off, ad = some ⟨b, off, none⟩ ∧ b < w.heap.size ∧ ∀ (i : Nat) (h : i < xs.length), At3 w b (off + i * 3) xs[i]
theorem SlN.below {w w' : World} {ad : Option Addr} {xs : List St} (h : SlN w ad xs) (hB : Below w.heap.size w w') : SlN w' ad xs := by
  rcases h with h | ⟨b, off, e, hb, hr⟩
  · exact .inl h
  · refine .inr ⟨b, off, e, Nat.lt_of_lt_of_le hb hB.size, fun i hi => ?_⟩
    obtain ⟨h0, h1, h2⟩ := hr i hi
    exact ⟨kept5 hB hb h0, kept5 hB hb h1, kept5 hB hb h2⟩
def isSt (s : St) (typ rel : ByteArray) : Bool := (s.typ.toList == typ.toList) && (s.rel.toList == rel.toList)
/-- the place of the first, counted from k on -/
def atFrom (typ rel : ByteArray) : List St → Nat → Int
  | [], _ => -1
  | s :: xs, k => if isSt s typ rel then (k : Int) else atFrom typ rel xs (k + 1)
theorem atFrom_drop (typ rel : ByteArray) (xs : List St) (k : Nat) (h : k < xs.length) : atFrom typ rel (xs.drop k) k = if isSt xs[k] typ rel then (k : Int) else atFrom typ rel (xs.drop (k + 1)) (k + 1) := by
  rw [List.drop_eq_getElem_cons h]; rfl

set_option maxHeartbeats 1000000 in
theorem l2At_any (ad : Option Addr) (cap : Nat) (xs : List St) (typ rel : ByteArray) (w : World) (hlen : xs.length ≤ 1048576) (hs : SlN w ad xs) :
    Calls Try.prog 75 #[.slice ad xs.length cap, .string typ, .string rel] w fun e w' => e = .returned (.int .i64 (atFrom typ rel xs 0)) ∧ w' = w := by
  go_enter Try.func75, Try.ntmps75
  go_wp2
  go_loopw [7] (fun i wr => ∃ k : Nat, k ≤ xs.length ∧ i = .int .i64 k ∧ Hid (atFrom typ rel (xs.drop k) k = atFrom typ rel xs 0) ∧ wr = w) (fun i _ => xs.length - (intOf i).toNat)
  case atStart => exact ⟨0, Nat.zero_le _, rfl, rfl, rfl⟩
  case round =>
    obtain ⟨k, hk, rfl, HP, rfl⟩ := hrel
    by_cases hlt : k < xs.length
    · rcases hs with rfl | ⟨b, off, rfl, hb, hr⟩
      · simp at hlt
      obtain ⟨t0, t1, t2⟩ := hr k hlt
      have hk1 : (0 : Int) ≤ (k : Int) := by omega
      have hk2 : (k : Int) < (xs.length : Int) := by omega
      clear hr
      cases hq : (xs[k].typ.toList == typ.toList) with
      | true =>
        cases hp : (xs[k].rel.toList == rel.toList) with
        | true =>
          have HN : Hid (atFrom typ rel xs 0 = (k : Int)) := by show _ = _; rw [← HP.out, atFrom_drop _ _ _ _ hlt]; simp [isSt, hq, hp]
          go_wp2
          go_ret
          exact ⟨by rw [HN.out]; rfl, rfl⟩
        | false =>
          have HP2 : Hid (atFrom typ rel (xs.drop (k + 1)) (k + 1) = atFrom typ rel xs 0) := by show _ = _; rw [← HP.out, atFrom_drop _ _ _ _ hlt]; simp [isSt, hq, hp]
          go_wp2
          go_roundw
          case rel => exact ⟨k + 1, by omega, by go_num, HP2, by first | rfl | trivial⟩
          case measure => first | (simp [intOf]; done) | (simp [intOf]; omega)
      | false =>
        have HP2 : Hid (atFrom typ rel (xs.drop (k + 1)) (k + 1) = atFrom typ rel xs 0) := by show _ = _; rw [← HP.out, atFrom_drop _ _ _ _ hlt]; simp [isSt, hq]
        go_wp2
        go_roundw
        case rel => exact ⟨k + 1, by omega, by go_num, HP2, by first | rfl | trivial⟩
        case measure => first | (simp [intOf]; done) | (simp [intOf]; omega)
    · have HN : Hid (atFrom typ rel xs 0 = -1) := by show _ = _; rw [← HP.out, List.drop_of_length_le (by omega)]; rfl
      go_wp2
      go_ret
      exact ⟨by rw [HN.out]; rfl, rfl⟩

end Go.Proofs.Ytpmgkkbkficgpaa
