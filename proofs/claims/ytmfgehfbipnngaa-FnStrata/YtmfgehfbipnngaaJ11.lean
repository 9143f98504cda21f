/- Contracts of the document's functions that look a type, a relation, and whom it allows up in a schema. -/
import Derived.Test.YtmfgehfbipnngaaJ5
import Derived.OwnWalk
import Derived.Maps.AppendAt
namespace Go.Proofs.Ytmfgehfbipnngaa
open Go.ChangeShapes Go.WideShapes Go.ChangeAt Go.RowKit
open Pl
def relIn : List Rl → ByteArray → Option (List Ex)
 | [], _ => none
 | r :: rs, n => if r.name.toList == n.toList then some r.expr else relIn rs n
def relP : List Ty → ByteArray → ByteArray → Option (List Ex)
 | [], _, _ => none
 | t :: ts, ty, n => if t.name.toList == ty.toList then (relIn t.rels n).or (relP ts ty n) else relP ts ty n
def typP : List Ty → ByteArray → Bool
 | [], _ => false
 | t :: ts, ty => (t.name.toList == ty.toList) || typP ts ty
theorem tys_drop (rs : List TR) (k : Nat) (h : k < rs.length) : tys (rs.drop k) = ⟨rs[k].name, rls rs[k].rows⟩ :: tys (rs.drop (k + 1)) := by
 rw [List.drop_eq_getElem_cons h]; rfl
theorem rls_drop (rs : List RR) (k : Nat) (h : k < rs.length) : rls (rs.drop k) = ⟨rs[k].name, exs rs[k].rows⟩ :: rls (rs.drop (k + 1)) := by
 rw [List.drop_eq_getElem_cons h]; rfl
set_option maxHeartbeats 1000000 in
theorem l2Type_any (ad : Option Addr) (cap : Nat) (rs : List TR) (typ : ByteArray) (w : World) (hlen : rs.length ≤ 1048576) (hs : SlT w ad rs) :
  Calls Try.prog 107 #[.slice ad rs.length cap, .string typ] w fun e w' => e = .returned (.bool (typP (tys rs) typ)) ∧ w' = w := by
 go_enter Try.func107, Try.ntmps107
 go_wp2
 go_loopw [5] (fun i wr => ∃ k : Nat, k ≤ rs.length ∧ i = .int .i64 k ∧ Hid (typP (tys (rs.drop k)) typ = typP (tys rs) typ) ∧ wr = w) (fun i _ => rs.length - (intOf i).toNat)
 case atStart => exact ⟨0, Nat.zero_le _, rfl, rfl, rfl⟩
 case round =>
  obtain ⟨k, hk, rfl, HP, rfl⟩ := hrel
  by_cases hlt : k < rs.length
  ·rcases hs with rfl | ⟨b, off, rfl, hb, hr, hok⟩
   ·simp at hlt
   obtain ⟨t0, t1⟩ := hr k hlt
   have hk1 : (0 : Int) ≤ (k : Int) := by omega
   have hk2 : (k : Int) < (rs.length : Int) := by omega
   clear hr hok
   cases hq : (rs[k].name.toList == typ.toList) with
   | true =>
    have HN : Hid (typP (tys rs) typ = true) := by show _ = _; rw [← HP.out, tys_drop _ _ hlt]; simp [typP, hq]
    go_wp2
    go_ret
    exact ⟨by rw [HN.out]; rfl, rfl⟩
   | false =>
    have HP2 : Hid (typP (tys (rs.drop (k + 1))) typ = typP (tys rs) typ) := by show _ = _; rw [← HP.out, tys_drop _ _ hlt]; simp [typP, hq]
    go_wp2
    go_roundw
    case rel => exact ⟨k + 1, by omega, by go_num, HP2, by first | rfl | trivial⟩
    case measure => first | (simp [intOf]; done) | (simp [intOf]; omega)
  ·have HN : Hid (typP (tys rs) typ = false) := by show _ = _; rw [← HP.out, List.drop_of_length_le (by omega)]; rfl
   go_wp2
   go_ret
   exact ⟨by rw [HN.out]; rfl, rfl⟩
def FromS (rs : List TR) (ad : Option Addr) (rows : List ER) : Prop := rows = [] ∨ ∃ t ∈ rs, ∃ q ∈ t.rows, rows = q.rows ∧ ad = q.ad
theorem SlR.mem {w : World} {ad : Option Addr} {rs : List RR} (h : SlR w ad rs) {q : RR} (hq : q ∈ rs) : q.ok w := by
 rcases h with rfl | ⟨b, off, e, hb, hr, hk⟩
 ·cases hq
 ·exact hk q hq
theorem SlT.mem {w : World} {ad : Option Addr} {rs : List TR} (h : SlT w ad rs) {q : TR} (hq : q ∈ rs) : q.ok w := by
 rcases h with rfl | ⟨b, off, e, hb, hr, hk⟩
 ·cases hq
 ·exact hk q hq
theorem FromS.sl {rs : List TR} {ad ad0 : Option Addr} {rows : List ER} {w : World} (h : FromS rs ad rows) (hs : SlT w ad0 rs) : SlE w ad rows := by
 rcases h with rfl | ⟨t, ht, q, hq, rfl, rfl⟩
 ·exact .inl rfl
 ·exact SlR.mem (hs.mem ht) hq
set_option maxHeartbeats 2000000 in
theorem l2Rel_any (ad : Option Addr) (cap : Nat) (rs : List TR) (typ rel : ByteArray) (w : World) (hlen : rs.length ≤ 1048576) (hs : SlT w ad rs) (hl : ∀ r ∈ rs, r.light) :
  Calls Try.prog 47 #[.slice ad rs.length cap, .string typ, .string rel] w fun e w' => (∃ (rows : List ER) (ad' : Option Addr) (cap' : Nat), e = .returned (.slice ad' rows.length cap') ∧ exs rows = (relP (tys rs) typ rel).getD [] ∧ SlE w ad' rows ∧ FromS rs ad' rows) ∧ w' = w := by
 have HS : Hid (SlT w ad rs) := hs
 have HL : Hid (∀ r ∈ rs, r.light) := hl
 clear hs hl
 go_enter Try.func47, Try.ntmps47
 go_wp2
 go_loopw [7] (fun i wr => ∃ k : Nat, k ≤ rs.length ∧ i = .int .i64 k ∧ Hid (relP (tys (rs.drop k)) typ rel = relP (tys rs) typ rel) ∧ wr = w) (fun i _ => rs.length - (intOf i).toNat)
 case atStart => exact ⟨0, Nat.zero_le _, rfl, rfl, rfl⟩
 case round =>
  obtain ⟨k, hk, rfl, HP, rfl⟩ := hrel
  by_cases hlt : k < rs.length
  ·rcases HS.out with rfl | ⟨b, off, rfl, hb, hr, hok⟩
   ·simp at hlt
   obtain ⟨t0, t1⟩ := hr k hlt
   have ok := hok rs[k] (List.getElem_mem hlt)
   have lg := (HL.out rs[k] (List.getElem_mem hlt)).1
   have HOK : Hid (rs[k].ok wr) := ok
   have hk1 : (0 : Int) ≤ (k : Int) := by omega
   have hk2 : (k : Int) < (rs.length : Int) := by omega
   clear hr hok ok
   cases hq : (rs[k].name.toList == typ.toList) with
   | false =>
    have HP2 : Hid (relP (tys (rs.drop (k + 1))) typ rel = relP (tys rs) typ rel) := by show _ = _; rw [← HP.out, tys_drop _ _ hlt]; simp [relP, hq]
    go_wp2_with fail
    go_loopw [8] (fun i w2 => i = .int .i64 0 ∧ w2 = wr) (fun i _ => (intOf i).toNat)
    case atStart => exact ⟨rfl, rfl⟩
    case round =>
     obtain ⟨rfl, rfl⟩ := hrel
     go_wp2
     go_roundw
     case rel => exact ⟨k + 1, by omega, by go_num, HP2, by first | rfl | trivial⟩
     case measure => first | (simp [intOf]; done) | (simp [intOf]; omega)
   | true =>
    go_wp2_with fail
    go_loopw [8] (fun i w2 => ∃ j : Nat, j ≤ rs[k].rows.length ∧ i = .int .i64 j ∧ Hid (relIn (rls (rs[k].rows.drop j)) rel = relIn (rls rs[k].rows) rel) ∧ w2 = wr) (fun i _ => rs[k].rows.length - (intOf i).toNat)
    case atStart => exact ⟨0, Nat.zero_le _, rfl, rfl, rfl⟩
    case round =>
     obtain ⟨j, hj, rfl, HI, rfl⟩ := hrel
     by_cases hjl : j < rs[k].rows.length
     ·rcases HOK.out with hnil | ⟨b2, off2, had, hb2, hr2, hok2⟩
      ·rw [hnil] at hjl; simp at hjl
      have t1' := t1
      rw [had] at t1'
      obtain ⟨q0, q1⟩ := hr2 j hjl
      have HOQ : Hid (rs[k].rows[j].ok _) := hok2 rs[k].rows[j] (List.getElem_mem hjl)
      have hj1 : (0 : Int) ≤ (j : Int) := by omega
      have hj2 : (j : Int) < (rs[k].rows.length : Int) := by omega
      clear hr2 hok2 had t1
      cases hn : (rs[k].rows[j].name.toList == rel.toList) with
      | true =>
       have HN : Hid (exs rs[k].rows[j].rows = (relP (tys rs) typ rel).getD []) := by
        have h1 : relIn (rls rs[k].rows) rel = some (exs rs[k].rows[j].rows) := by rw [← HI.out, rls_drop _ _ hjl]; simp [relIn, hn]
        show _ = _
        rw [← HP.out, tys_drop _ _ hlt]
        simp [relP, hq, h1]
       have HFS : Hid (FromS rs rs[k].rows[j].ad rs[k].rows[j].rows) := .inr ⟨rs[k], List.getElem_mem hlt, rs[k].rows[j], List.getElem_mem hjl, rfl, rfl⟩
       go_wp2
       go_ret
       exact ⟨⟨rs[k].rows[j].rows, _, _, rfl, HN.out, HOQ.out, HFS.out⟩, rfl⟩
      | false =>
       have HI2 : Hid (relIn (rls (rs[k].rows.drop (j + 1))) rel = relIn (rls rs[k].rows) rel) := by show _ = _; rw [← HI.out, rls_drop _ _ hjl]; simp [relIn, hn]
       go_wp2
       go_roundw
       case rel => exact ⟨j + 1, by omega, by go_num, HI2, by first | rfl | trivial⟩
       case measure => first | (simp [intOf]; done) | (simp [intOf]; omega)
     ·have HP2 : Hid (relP (tys (rs.drop (k + 1))) typ rel = relP (tys rs) typ rel) := by
       have h1 : relIn (rls rs[k].rows) rel = none := by rw [← HI.out, List.drop_of_length_le (by omega)]; rfl
       show _ = _
       rw [← HP.out, tys_drop _ _ hlt]
       simp [relP, hq, h1]
      go_wp2
      go_roundw
      case rel => exact ⟨k + 1, by omega, by go_num, HP2, by first | rfl | trivial⟩
      case measure => first | (simp [intOf]; done) | (simp [intOf]; omega)
  ·have HN : Hid (exs [] = (relP (tys rs) typ rel).getD []) := by show _ = _; rw [← HP.out, List.drop_of_length_le (by omega)]; rfl
   go_wp2
   go_ret
   exact ⟨⟨[], none, 0, rfl, HN.out, .inl rfl, .inl rfl⟩, rfl⟩
end Go.Proofs.Ytmfgehfbipnngaa
namespace Go.Proofs.Ytmfgehfbipnngaa
open Go.ChangeShapes Go.WideShapes Go.ChangeAt Go.RowKit
open Pl
def allowP : List Ex → List Al
 | [] => []
 | e :: es => if e.kind = 1 then e.allow else allowP es
theorem exs_drop (rs : List ER) (k : Nat) (h : k < rs.length) : exs (rs.drop k) = rs[k].e :: exs (rs.drop (k + 1)) := by
 rw [List.drop_eq_getElem_cons h]; rfl
def FromA (rs : List ER) (ad : Option Addr) (xs : List Al) : Prop := xs = [] ∨ ∃ r ∈ rs, xs = r.e.allow ∧ ad = r.adA
theorem SlE.mem {w : World} {ad : Option Addr} {rs : List ER} (h : SlE w ad rs) {q : ER} (hq : q ∈ rs) : q.ok w := by
 rcases h with rfl | ⟨b, off, e, hb, hr, hk⟩
 ·cases hq
 ·exact hk q hq
theorem FromA.sl {rs : List ER} {ad ad0 : Option Addr} {xs : List Al} {w : World} (h : FromA rs ad xs) (hs : SlE w ad0 rs) : SlA w ad xs := by
 rcases h with rfl | ⟨r, hr, rfl, rfl⟩
 ·exact .inl rfl
 ·exact (hs.mem hr).1
set_option maxHeartbeats 1000000 in
theorem l2Allow_any (ad : Option Addr) (cap : Nat) (rs : List ER) (w : World) (hlen : rs.length ≤ 1048576) (hs : SlE w ad rs) :
  Calls Try.prog 83 #[.slice ad rs.length cap] w fun e w' => (∃ (ad' : Option Addr) (cap' : Nat), e = .returned (.slice ad' (allowP (exs rs)).length cap') ∧ SlA w ad' (allowP (exs rs)) ∧ FromA rs ad' (allowP (exs rs))) ∧ w' = w := by
 have HS : Hid (SlE w ad rs) := hs
 clear hs
 go_enter Try.func83, Try.ntmps83
 go_wp2
 go_loopw [3] (fun i wr => ∃ k : Nat, k ≤ rs.length ∧ i = .int .i64 k ∧ Hid (allowP (exs (rs.drop k)) = allowP (exs rs)) ∧ wr = w) (fun i _ => rs.length - (intOf i).toNat)
 case atStart => exact ⟨0, Nat.zero_le _, rfl, rfl, rfl⟩
 case round =>
  obtain ⟨k, hk, rfl, HP, rfl⟩ := hrel
  by_cases hlt : k < rs.length
  ·rcases HS.out with rfl | ⟨b, off, rfl, hb, hr, hok⟩
   ·simp at hlt
   obtain ⟨t0, t1, t2, t3, t4⟩ := hr k hlt
   have HOK : Hid (rs[k].ok _) := hok rs[k] (List.getElem_mem hlt)
   have hk1 : (0 : Int) ≤ (k : Int) := by omega
   have hk2 : (k : Int) < (rs.length : Int) := by omega
   clear hr hok
   by_cases hq : rs[k].e.kind = 1
   ·have HN : Hid (allowP (exs rs) = rs[k].e.allow) := by show _ = _; rw [← HP.out, exs_drop _ _ hlt]; simp [allowP, hq]
    go_wp2
    go_ret
    exact ⟨⟨rs[k].adA, rs[k].capA, by rw [HN.out]; rfl, by rw [HN.out]; exact HOK.out.1, .inr ⟨rs[k], List.getElem_mem hlt, HN.out, rfl⟩⟩, rfl⟩
   ·have HP2 : Hid (allowP (exs (rs.drop (k + 1))) = allowP (exs rs)) := by show _ = _; rw [← HP.out, exs_drop _ _ hlt]; simp [allowP, hq]
    have hqb : (rs[k].e.kind == 1) = false := by simpa using hq
    go_wp2
    go_roundw
    case rel => exact ⟨k + 1, by omega, by go_num, HP2, by first | rfl | trivial⟩
    case measure => first | (simp [intOf]; done) | (simp [intOf]; omega)
  ·have HN : Hid (allowP (exs rs) = []) := by show _ = _; rw [← HP.out, List.drop_of_length_le (by omega)]; rfl
   go_wp2
   go_ret
   exact ⟨⟨none, 0, by rw [HN.out]; rfl, by rw [HN.out]; exact .inl rfl, .inl HN.out⟩, rfl⟩
def directP : List Ex → Bool
 | [e] => decide (e.kind = 1) && e.allow.all fun a => a.s.toList.isEmpty
 | _ => false
def noSet (xs : List Al) (k : Nat) : Bool := (xs.take k).all fun a => a.s.toList.isEmpty
theorem noSet_succ (xs : List Al) (k : Nat) (h : k < xs.length) : noSet xs (k + 1) = (noSet xs k && xs[k].s.toList.isEmpty) := by
 unfold noSet; rw [List.take_succ_eq_append_getElem h, List.all_append]; simp
theorem noSet_bad (xs : List Al) (k : Nat) (h : k < xs.length) (hb : xs[k].s.toList.isEmpty = false) : (xs.all fun a => a.s.toList.isEmpty) = false := by
 rw [Bool.eq_false_iff]; intro h2; rw [List.all_eq_true] at h2; have := h2 xs[k] (List.getElem_mem h); rw [hb] at this; cases this
set_option maxHeartbeats 1000000 in
theorem l2Direct_any (ad : Option Addr) (cap : Nat) (rs : List ER) (w : World) (hlen : rs.length ≤ 1048576) (hs : SlE w ad rs) (hl : ∀ r ∈ rs, r.e.light) :
  Calls Try.prog 108 #[.slice ad rs.length cap] w fun e w' => e = .returned (.bool (directP (exs rs))) ∧ w' = w := by
 by_cases h1 : rs.length = 1
 ·obtain ⟨r, rfl⟩ : ∃ r, rs = [r] := List.length_eq_one_iff.1 h1
  rcases hs with h | ⟨b, off, rfl, hb, hr, hok⟩
  ·cases h
  obtain ⟨t0, t1, t2, t3, t4⟩ := hr 0 (by simp)
  simp only [Nat.zero_mul, Nat.add_zero, List.getElem_cons_zero] at t0 t1 t2 t3 t4
  have HOK : Hid (r.ok w) := hok r (by simp)
  obtain ⟨lg, -⟩ := hl r (by simp)
  clear hr hok h1
  simp only [List.length_cons, List.length_nil, Nat.zero_add]
  by_cases hq : r.e.kind = 1
  ·have HD : Hid (directP (exs [r]) = r.e.allow.all fun a => a.s.toList.isEmpty) := by show _ = _; simp [directP, exs, hq]
   go_enter Try.func108, Try.ntmps108
   go_wp2
   go_loopw [3] (fun i wr => ∃ k : Nat, k ≤ r.e.allow.length ∧ i = .int .i64 k ∧ Hid (noSet r.e.allow k = true) ∧ wr = w) (fun i _ => r.e.allow.length - (intOf i).toNat)
   case atStart => exact ⟨0, Nat.zero_le _, rfl, (by show _ = _; simp [noSet]), rfl⟩
   case round =>
    obtain ⟨k, hk, rfl, HP, rfl⟩ := hrel
    by_cases hlt : k < r.e.allow.length
    ·rcases HOK.out.1 with hnil | ⟨ba, offa, hadA, hba, hra⟩
     ·rw [hnil] at hlt; simp at hlt
     have t1' := t1
     rw [hadA] at t1'
     obtain ⟨q0, q1⟩ := hra k hlt
     have hk1 : (0 : Int) ≤ (k : Int) := by omega
     have hk2 : (k : Int) < (r.e.allow.length : Int) := by omega
     clear hra hadA t1
     cases he : r.e.allow[k].s.toList.isEmpty with
     | true =>
      have HP2 : Hid (noSet r.e.allow (k + 1) = true) := by show _ = _; rw [noSet_succ _ _ hlt, HP.out, he]; rfl
      go_wp2
      go_roundw
      case rel => exact ⟨k + 1, by omega, by go_num, HP2, by first | rfl | trivial⟩
      case measure => first | (simp [intOf]; done) | (simp [intOf]; omega)
     | false =>
      have HN : Hid (directP (exs [r]) = false) := by show _ = _; rw [HD.out]; exact noSet_bad _ k hlt he
      go_wp2
      go_ret
      exact ⟨by rw [HN.out]; rfl, rfl⟩
    ·have HN : Hid (directP (exs [r]) = true) := by
      show _ = _
      rw [HD.out]
      have := HP.out
      unfold noSet at this
      rwa [List.take_of_length_le (by omega)] at this
     go_wp2
     go_ret
     exact ⟨by rw [HN.out]; rfl, rfl⟩
  ·have HN : Hid (directP (exs [r]) = false) := by show _ = _; simp [directP, exs, hq]
   have hqb : (r.e.kind != 1) = true := by simpa using hq
   go_enter Try.func108, Try.ntmps108
   go_wp2
   go_ret
   exact ⟨by rw [HN.out]; rfl, rfl⟩
 ·have HN : Hid (directP (exs rs) = false) := by
   show _ = _
   match rs, h1 with
   | [], _ => rfl
   | [r], h => exact absurd rfl h
   | a :: b :: r, _ => rfl
  have h1' : ((rs.length : Int) != 1) = true := by simp; omega
  go_enter Try.func108, Try.ntmps108
  go_wp2
  go_ret
  exact ⟨by rw [HN.out]; rfl, rfl⟩
end Go.Proofs.Ytmfgehfbipnngaa
