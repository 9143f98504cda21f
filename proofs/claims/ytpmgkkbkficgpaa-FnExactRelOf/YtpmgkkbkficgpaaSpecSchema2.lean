/- Contracts of the document's functions on whom a relation allows, on what is told by objects, and on goals. -/
import Derived.Test.YtpmgkkbkficgpaaSpecSchema1
import Derived.OwnWalk
import Derived.Maps.AppendAt
namespace Go.Proofs.Ytpmgkkbkficgpaa
open Go.ChangeShapes Go.WideShapes Go.ChangeAt Go.RowKit
open Pl

/-- whom a relation's tuples may name -/
def allowP : List Ex → List Al
  | [] => []
  | e :: es => if e.kind = 1 then e.allow else allowP es
theorem exs_drop (rs : List ER) (k : Nat) (h : k < rs.length) : exs (rs.drop k) = rs[k].e :: exs (rs.drop (k + 1)) := by
  rw [List.drop_eq_getElem_cons h]; rfl

/-- the list of a node, where it lies there, or none -/
def FromA (rs : List ER) (ad : Option Addr) (xs : List Al) : Prop := xs = [] ∨ ∃ r ∈ rs, xs = r.e.allow ∧ ad = r.adA
theorem SlE.mem {w : World} {ad : Option Addr} {rs : List ER} (h : SlE w ad rs) {q : ER} (hq : q ∈ rs) : q.ok w := by
  rcases h with rfl | ⟨b, off, e, hb, hr, hk⟩
  · cases hq
  · exact hk q hq
theorem FromA.sl {rs : List ER} {ad ad0 : Option Addr} {xs : List Al} {w : World} (h : FromA rs ad xs) (hs : SlE w ad0 rs) : SlA w ad xs := by
  rcases h with rfl | ⟨r, hr, rfl, rfl⟩
  · exact .inl rfl
  · exact (hs.mem hr).1

set_option maxHeartbeats 1000000 in
theorem l2Allow_any (ad : Option Addr) (cap : Nat) (rs : List ER) (w : World) (hlen : rs.length ≤ 1048576) (hs : SlE w ad rs) :
    Calls Try.prog 92 #[.slice ad rs.length cap] w fun e w' => (∃ (ad' : Option Addr) (cap' : Nat), e = .returned (.slice ad' (allowP (exs rs)).length cap') ∧ SlA w ad' (allowP (exs rs)) ∧ FromA rs ad' (allowP (exs rs))) ∧ w' = w := by
  have HS : Hid (SlE w ad rs) := hs
  clear hs
  go_enter Try.func92, Try.ntmps92
  go_wp2
  go_loopw [3] (fun i wr => ∃ k : Nat, k ≤ rs.length ∧ i = .int .i64 k ∧ Hid (allowP (exs (rs.drop k)) = allowP (exs rs)) ∧ wr = w) (fun i _ => rs.length - (intOf i).toNat)
  case atStart => exact ⟨0, Nat.zero_le _, rfl, rfl, rfl⟩
  case round =>
    obtain ⟨k, hk, rfl, HP, rfl⟩ := hrel
    by_cases hlt : k < rs.length
    · rcases HS.out with rfl | ⟨b, off, rfl, hb, hr, hok⟩
      · simp at hlt
      obtain ⟨t0, t1, t2, t3, t4⟩ := hr k hlt
      have HOK : Hid (rs[k].ok _) := hok rs[k] (List.getElem_mem hlt)
      have hk1 : (0 : Int) ≤ (k : Int) := by omega
      have hk2 : (k : Int) < (rs.length : Int) := by omega
      clear hr hok
      by_cases hq : rs[k].e.kind = 1
      · have HN : Hid (allowP (exs rs) = rs[k].e.allow) := by show _ = _; rw [← HP.out, exs_drop _ _ hlt]; simp [allowP, hq]
        go_wp2
        go_ret
        exact ⟨⟨rs[k].adA, rs[k].capA, by rw [HN.out]; rfl, by rw [HN.out]; exact HOK.out.1, .inr ⟨rs[k], List.getElem_mem hlt, HN.out, rfl⟩⟩, rfl⟩
      · have HP2 : Hid (allowP (exs (rs.drop (k + 1))) = allowP (exs rs)) := by show _ = _; rw [← HP.out, exs_drop _ _ hlt]; simp [allowP, hq]
        have hqb : (rs[k].e.kind == 1) = false := by simpa using hq
        go_wp2
        go_roundw
        case rel => exact ⟨k + 1, by omega, by go_num, HP2, by first | rfl | trivial⟩
        case measure => first | (simp [intOf]; done) | (simp [intOf]; omega)
    · have HN : Hid (allowP (exs rs) = []) := by show _ = _; rw [← HP.out, List.drop_of_length_le (by omega)]; rfl
      go_wp2
      go_ret
      exact ⟨⟨none, 0, by rw [HN.out]; rfl, by rw [HN.out]; exact .inl rfl, .inl HN.out⟩, rfl⟩

/-- is a relation told by tuples alone, that name objects alone? -/
def directP : List Ex → Bool
  | [e] => decide (e.kind = 1) && e.allow.all fun a => a.s.toList.isEmpty
  | _ => false
def noSet (xs : List Al) (k : Nat) : Bool := (xs.take k).all fun a => a.s.toList.isEmpty
theorem noSet_succ (xs : List Al) (k : Nat) (h : k < xs.length) : noSet xs (k + 1) = (noSet xs k && xs[k].s.toList.isEmpty) := by
  unfold noSet; rw [List.take_succ_eq_append_getElem h, List.all_append]; simp
theorem noSet_bad (xs : List Al) (k : Nat) (h : k < xs.length) (hb : xs[k].s.toList.isEmpty = false) : (xs.all fun a => a.s.toList.isEmpty) = false := by
  rw [Bool.eq_false_iff]; intro h2; rw [List.all_eq_true] at h2; have := h2 xs[k] (List.getElem_mem h); rw [hb] at this; cases this

set_option maxHeartbeats 1000000 in
theorem l2Direct_any (ad : Option Addr) (cap : Nat) (rs : List ER) (w : World) (hlen : rs.length ≤ 1048576) (hs : SlE w ad rs) (hl : ∀ r ∈ rs, r.e.light) :
    Calls Try.prog 72 #[.slice ad rs.length cap] w fun e w' => e = .returned (.bool (directP (exs rs))) ∧ w' = w := by
  by_cases h1 : rs.length = 1
  · obtain ⟨r, rfl⟩ : ∃ r, rs = [r] := List.length_eq_one_iff.1 h1
    rcases hs with h | ⟨b, off, rfl, hb, hr, hok⟩
    · cases h
    obtain ⟨t0, t1, t2, t3, t4⟩ := hr 0 (by simp)
    simp only [Nat.zero_mul, Nat.add_zero, List.getElem_cons_zero] at t0 t1 t2 t3 t4
    have HOK : Hid (r.ok w) := hok r (by simp)
    obtain ⟨lg, -⟩ := hl r (by simp)
    clear hr hok h1
    simp only [List.length_cons, List.length_nil, Nat.zero_add]
    by_cases hq : r.e.kind = 1
    · have HD : Hid (directP (exs [r]) = r.e.allow.all fun a => a.s.toList.isEmpty) := by show _ = _; simp [directP, exs, hq]
      go_enter Try.func72, Try.ntmps72
      go_wp2
      go_loopw [3] (fun i wr => ∃ k : Nat, k ≤ r.e.allow.length ∧ i = .int .i64 k ∧ Hid (noSet r.e.allow k = true) ∧ wr = w) (fun i _ => r.e.allow.length - (intOf i).toNat)
      case atStart => exact ⟨0, Nat.zero_le _, rfl, (by show _ = _; simp [noSet]), rfl⟩
      case round =>
        obtain ⟨k, hk, rfl, HP, rfl⟩ := hrel
        by_cases hlt : k < r.e.allow.length
        · rcases HOK.out.1 with hnil | ⟨ba, offa, hadA, hba, hra⟩
          · rw [hnil] at hlt; simp at hlt
          have t1' := t1
          rw [hadA] at t1'
          obtain ⟨q0, q1⟩ := hra k hlt
          have hk1 : (0 : Int) ≤ (k : Int) := by omega
          have hk2 : (k : Int) < (r.e.allow.length : Int) := by omega
          clear hra hadA t1
          cases he : r.e.allow[k].s.toList.isEmpty with
          | true =>
            have HP2 : Hid (noSet r.e.allow (k + 1) = true) := by show _ = _; rw [noSet_succ _ _ hlt, HP.out, he]; rfl
            go_wp2
            go_roundw
            case rel => exact ⟨k + 1, by omega, by go_num, HP2, by first | rfl | trivial⟩
            case measure => first | (simp [intOf]; done) | (simp [intOf]; omega)
          | false =>
            have HN : Hid (directP (exs [r]) = false) := by show _ = _; rw [HD.out]; exact noSet_bad _ k hlt he
            go_wp2
            go_ret
            exact ⟨by rw [HN.out]; rfl, rfl⟩
        · have HN : Hid (directP (exs [r]) = true) := by
            show _ = _
            rw [HD.out]
            have := HP.out
            unfold noSet at this
            rwa [List.take_of_length_le (by omega)] at this
          go_wp2
          go_ret
          exact ⟨by rw [HN.out]; rfl, rfl⟩
    · have HN : Hid (directP (exs [r]) = false) := by show _ = _; simp [directP, exs, hq]
      have hqb : (r.e.kind != 1) = true := by simpa using hq
      go_enter Try.func72, Try.ntmps72
      go_wp2
      go_ret
      exact ⟨by rw [HN.out]; rfl, rfl⟩
  · have HN : Hid (directP (exs rs) = false) := by
      show _ = _
      match rs, h1 with
      | [], _ => rfl
      | [r], h => exact absurd rfl h
      | a :: b :: r, _ => rfl
    have h1' : ((rs.length : Int) != 1) = true := by simp; omega
    go_enter Try.func72, Try.ntmps72
    go_wp2
    go_ret
    exact ⟨by rw [HN.out]; rfl, rfl⟩

end Go.Proofs.Ytpmgkkbkficgpaa
