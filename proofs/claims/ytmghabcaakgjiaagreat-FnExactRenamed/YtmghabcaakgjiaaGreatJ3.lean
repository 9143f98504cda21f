/- Contracts of the document's functions on whom a relation allows, on what is told by objects, and on goals. -/
import Derived.Test.YtmghabcaakgjiaaGreatJ2
import Derived.OwnWalk
import Derived.Maps.AppendAt
namespace Go.Proofs.YtmghabcaakgjiaaGreat
open Go.ChangeShapes Go.WideShapes Go.ChangeAt Go.RowKit
open Pl
def allowP : List Ex → List Al
 | [] => []
 | e :: es => if e.kind = 1 then e.allow else allowP es
theorem exs_drop (rs : List ER) (k : Nat) (h : k < rs.length) : exs (rs.drop k) = rs[k].e :: exs (rs.drop (k + 1)) := by
 rw [List.drop_eq_getElem_cons h]; rfl
def FromA (rs : List ER) (ad : Option Addr) (xs : List Al) : Prop := xs = [] ∨ ∃ r ∈ rs, xs = r.e.allow ∧ ad = r.adA
theorem SlE.mem {w : World} {ad : Option Addr} {rs : List ER} (h : SlE w ad rs) {q : ER} (hq : q ∈ rs) : q.ok w := by
 rcases h with rfl | ⟨b, off, e, hb, hr, hk⟩
 ·cases hq
 ·exact hk q hq
theorem FromA.sl {rs : List ER} {ad ad0 : Option Addr} {xs : List Al} {w : World} (h : FromA rs ad xs) (hs : SlE w ad0 rs) : SlA w ad xs := by
 rcases h with rfl | ⟨r, hr, rfl, rfl⟩
 ·exact .inl rfl
 ·exact (hs.mem hr).1
set_option maxHeartbeats 1000000 in
theorem l2Allow_any (ad : Option Addr) (cap : Nat) (rs : List ER) (w : World) (hlen : rs.length ≤ 1048576) (hs : SlE w ad rs) :
  Calls Tryz.prog 57 #[.slice ad rs.length cap] w fun e w' => (∃ (ad' : Option Addr) (cap' : Nat), e = .returned (.slice ad' (allowP (exs rs)).length cap') ∧ SlA w ad' (allowP (exs rs)) ∧ FromA rs ad' (allowP (exs rs))) ∧ w' = w := by
 have HS : Hid (SlE w ad rs) := hs
 clear hs
 go_enter Tryz.func57, Tryz.ntmps57
 go_wp2
 go_loopw [3] (fun i wr => ∃ k : Nat, k ≤ rs.length ∧ i = .int .i64 k ∧ Hid (allowP (exs (rs.drop k)) = allowP (exs rs)) ∧ wr = w) (fun i _ => rs.length - (intOf i).toNat)
 case atStart => exact ⟨0, Nat.zero_le _, rfl, rfl, rfl⟩
 case round =>
  obtain ⟨k, hk, rfl, HP, rfl⟩ := hrel
  by_cases hlt : k < rs.length
  ·rcases HS.out with rfl | ⟨b, off, rfl, hb, hr, hok⟩
   ·simp at hlt
   obtain ⟨t0, t1, t2, t3, t4⟩ := hr k hlt
   have HOK : Hid (rs[k].ok _) := hok rs[k] (List.getElem_mem hlt)
   have hk1 : (0 : Int) ≤ (k : Int) := by omega
   have hk2 : (k : Int) < (rs.length : Int) := by omega
   clear hr hok
   by_cases hq : rs[k].e.kind = 1
   ·have HN : Hid (allowP (exs rs) = rs[k].e.allow) := by show _ = _; rw [← HP.out, exs_drop _ _ hlt]; simp [allowP, hq]
    go_wp2
    go_ret
    exact ⟨⟨rs[k].adA, rs[k].capA, by rw [HN.out]; rfl, by rw [HN.out]; exact HOK.out.1, .inr ⟨rs[k], List.getElem_mem hlt, HN.out, rfl⟩⟩, rfl⟩
   ·have HP2 : Hid (allowP (exs (rs.drop (k + 1))) = allowP (exs rs)) := by show _ = _; rw [← HP.out, exs_drop _ _ hlt]; simp [allowP, hq]
    have hqb : (rs[k].e.kind == 1) = false := by simpa using hq
    go_wp2
    go_roundw
    case rel => exact ⟨k + 1, by omega, by go_num, HP2, by first | rfl | trivial⟩
    case measure => first | (simp [intOf]; done) | (simp [intOf]; omega)
  ·have HN : Hid (allowP (exs rs) = []) := by show _ = _; rw [← HP.out, List.drop_of_length_le (by omega)]; rfl
   go_wp2
   go_ret
   exact ⟨⟨none, 0, by rw [HN.out]; rfl, by rw [HN.out]; exact .inl rfl, .inl HN.out⟩, rfl⟩
def directP : List Ex → Bool
 | [e] => decide (e.kind = 1) && e.allow.all fun a => a.s.toList.isEmpty
 | _ => false
def noSet (xs : List Al) (k : Nat) : Bool := (xs.take k).all fun a => a.s.toList.isEmpty
theorem noSet_succ (xs : List Al) (k : Nat) (h : k < xs.length) : noSet xs (k + 1) = (noSet xs k && xs[k].s.toList.isEmpty) := by
 unfold noSet; rw [List.take_succ_eq_append_getElem h, List.all_append]; simp
theorem noSet_bad (xs : List Al) (k : Nat) (h : k < xs.length) (hb : xs[k].s.toList.isEmpty = false) : (xs.all fun a => a.s.toList.isEmpty) = false := by
 rw [Bool.eq_false_iff]; intro h2; rw [List.all_eq_true] at h2; have := h2 xs[k] (List.getElem_mem h); rw [hb] at this; cases this
set_option maxHeartbeats 1000000 in
theorem l2Direct_any (ad : Option Addr) (cap : Nat) (rs : List ER) (w : World) (hlen : rs.length ≤ 1048576) (hs : SlE w ad rs) (hl : ∀ r ∈ rs, r.e.light) :
  Calls Tryz.prog 82 #[.slice ad rs.length cap] w fun e w' => e = .returned (.bool (directP (exs rs))) ∧ w' = w := by
 by_cases h1 : rs.length = 1
 ·obtain ⟨r, rfl⟩ : ∃ r, rs = [r] := List.length_eq_one_iff.1 h1
  rcases hs with h | ⟨b, off, rfl, hb, hr, hok⟩
  ·cases h
  obtain ⟨t0, t1, t2, t3, t4⟩ := hr 0 (by simp)
  simp only [Nat.zero_mul, Nat.add_zero, List.getElem_cons_zero] at t0 t1 t2 t3 t4
  have HOK : Hid (r.ok w) := hok r (by simp)
  obtain ⟨lg, -⟩ := hl r (by simp)
  clear hr hok h1
  simp only [List.length_cons, List.length_nil, Nat.zero_add]
  by_cases hq : r.e.kind = 1
  ·have HD : Hid (directP (exs [r]) = r.e.allow.all fun a => a.s.toList.isEmpty) := by show _ = _; simp [directP, exs, hq]
   go_enter Tryz.func82, Tryz.ntmps82
   go_wp2
   go_loopw [3] (fun i wr => ∃ k : Nat, k ≤ r.e.allow.length ∧ i = .int .i64 k ∧ Hid (noSet r.e.allow k = true) ∧ wr = w) (fun i _ => r.e.allow.length - (intOf i).toNat)
   case atStart => exact ⟨0, Nat.zero_le _, rfl, (by show _ = _; simp [noSet]), rfl⟩
   case round =>
    obtain ⟨k, hk, rfl, HP, rfl⟩ := hrel
    by_cases hlt : k < r.e.allow.length
    ·rcases HOK.out.1 with hnil | ⟨ba, offa, hadA, hba, hra⟩
     ·rw [hnil] at hlt; simp at hlt
     have t1' := t1
     rw [hadA] at t1'
     obtain ⟨q0, q1⟩ := hra k hlt
     have hk1 : (0 : Int) ≤ (k : Int) := by omega
     have hk2 : (k : Int) < (r.e.allow.length : Int) := by omega
     clear hra hadA t1
     cases he : r.e.allow[k].s.toList.isEmpty with
     | true =>
      have HP2 : Hid (noSet r.e.allow (k + 1) = true) := by show _ = _; rw [noSet_succ _ _ hlt, HP.out, he]; rfl
      go_wp2
      go_roundw
      case rel => exact ⟨k + 1, by omega, by go_num, HP2, by first | rfl | trivial⟩
      case measure => first | (simp [intOf]; done) | (simp [intOf]; omega)
     | false =>
      have HN : Hid (directP (exs [r]) = false) := by show _ = _; rw [HD.out]; exact noSet_bad _ k hlt he
      go_wp2
      go_ret
      exact ⟨by rw [HN.out]; rfl, rfl⟩
    ·have HN : Hid (directP (exs [r]) = true) := by
      show _ = _
      rw [HD.out]
      have := HP.out
      unfold noSet at this
      rwa [List.take_of_length_le (by omega)] at this
     go_wp2
     go_ret
     exact ⟨by rw [HN.out]; rfl, rfl⟩
  ·have HN : Hid (directP (exs [r]) = false) := by show _ = _; simp [directP, exs, hq]
   have hqb : (r.e.kind != 1) = true := by simpa using hq
   go_enter Tryz.func82, Tryz.ntmps82
   go_wp2
   go_ret
   exact ⟨by rw [HN.out]; rfl, rfl⟩
 ·have HN : Hid (directP (exs rs) = false) := by
   show _ = _
   match rs, h1 with
   | [], _ => rfl
   | [r], h => exact absurd rfl h
   | a :: b :: r, _ => rfl
  have h1' : ((rs.length : Int) != 1) = true := by simp; omega
  go_enter Tryz.func82, Tryz.ntmps82
  go_wp2
  go_ret
  exact ⟨by rw [HN.out]; rfl, rfl⟩
end Go.Proofs.YtmghabcaakgjiaaGreat
namespace Go.Proofs.YtmghabcaakgjiaaGreat
open Go.ChangeShapes Go.WideShapes Go.ChangeAt Go.RowKit
open Pl
def relOr (ts : List Ty) (ty n : ByteArray) : List Ex := (relP ts ty n).getD []
def gl (ts : List Ty) (rel : ByteArray) : List Al → List ByteArray
 | [] => []
 | a :: xs => if (relOr ts a.t rel).isEmpty then gl ts rel xs else a.t :: gl ts rel xs
def goalsP (ts : List Ty) (ty over rel : ByteArray) : List ByteArray := gl ts rel (allowP (relOr ts ty over))
theorem gl_append (ts : List Ty) (rel : ByteArray) (xs ys : List Al) : gl ts rel (xs ++ ys) = gl ts rel xs ++ gl ts rel ys := by
 induction xs with
 | nil => rfl
 | cons a xs ih => simp only [List.cons_append, gl, ih]; split <;> simp
theorem gl_no (ts : List Ty) (rel : ByteArray) (xs : List Al) (k : Nat) (h : k < xs.length) (he : relOr ts xs[k].t rel = []) : gl ts rel (xs.take (k + 1)) = gl ts rel (xs.take k) := by
 rw [List.take_succ_eq_append_getElem h, gl_append]; simp [gl, he]
theorem gl_yes (ts : List Ty) (rel : ByteArray) (xs : List Al) (k : Nat) (h : k < xs.length) (he : relOr ts xs[k].t rel ≠ []) : gl ts rel (xs.take (k + 1)) = gl ts rel (xs.take k) ++ [xs[k].t] := by
 rw [List.take_succ_eq_append_getElem h, gl_append]; simp [gl, he]
theorem gl_len (ts : List Ty) (rel : ByteArray) (xs : List Al) : (gl ts rel xs).length ≤ xs.length := by
 induction xs with
 | nil => simp [gl]
 | cons a xs ih => simp only [gl]; split <;> simp <;> omega
theorem info_strS : (Tryz.prog.info? 9).map (fun i => (i.zero, i.size, i.bytes)) = some (some (.string ⟨#[]⟩), 1, 16) := by kernel_rfl
def strsS (xs : List ByteArray) : List Value := xs.map Value.string
def SlS (w : World) (ad : Option Addr) (xs : List ByteArray) : Prop := xs = [] ∨ ∃ b off, ad = some ⟨b, off, none⟩ ∧ b < w.heap.size ∧ ∀ (i : Nat) (h : i < xs.length), w.cell? ⟨b, off + i, none⟩ = some (.string xs[i])
theorem SlS.below {w w' : World} {ad : Option Addr} {xs : List ByteArray} (h : SlS w ad xs) (hB : Below w.heap.size w w') : SlS w' ad xs := by
 rcases h with h | ⟨b, off, e, hb, hr⟩
 ·exact .inl h
 ·exact .inr ⟨b, off, e, Nat.lt_of_lt_of_le hb hB.size, fun i hi => (hB.cell (p := ⟨b, off + i, none⟩) hb).trans (hr i hi)⟩
theorem own_sl {w : World} {base k : Nat} {v : Value} {xs : List ByteArray} (h : w.ownsRow base 9 1 v k (strsS xs)) : ∃ ad cp, v = .slice ad xs.length cp ∧ SlS w ad xs ∧ ∀ p, ad = some p → base ≤ p.block := by
 have hl : xs.length = k := by have := h.1; simpa [strsS] using this
 have h2 := h
 rcases h.2 with ⟨rfl, h0⟩ | ⟨g, cp, cur, rfl, hbg, hg, hnc, -⟩
 ·refine ⟨none, 0, ?_, .inl (List.length_eq_zero_iff.1 (by omega)), fun p hp => by cases hp⟩
  rw [hl, h0]
 ·have hlt := h2.lt g rfl
  refine ⟨_, cp, by rw [hl], .inr ⟨g, 0, rfl, hlt.2, fun j hj => ?_⟩, fun p hp => by injection hp with hp; rw [← hp]; exact hlt.1⟩
  have := h2.cells (g := g) rfl j (.string xs[j]) (by simp [strsS, hj])
  rw [Nat.zero_add]
  have e : (⟨g, 0, none⟩ : Addr).add j = ⟨g, j, none⟩ := by
   unfold Addr.add
   by_cases hj : j = 0
   ·subst hj; simp
   ·simp [hj]
  rwa [e] at this
theorem FromS.light {rs : List TR} {ad : Option Addr} {rows : List ER} (h : FromS rs ad rows) (hl : ∀ r ∈ rs, r.light) : rows.length ≤ 1048576 ∧ ∀ q ∈ rows, q.e.light := by
 rcases h with rfl | ⟨t, ht, q, hq, rfl, -⟩
 ·exact ⟨by simp, by simp⟩
 ·exact (hl t ht).2 q hq
theorem allowP_len (rows : List ER) (hl : ∀ q ∈ rows, q.e.light) : (allowP (exs rows)).length ≤ 1048576 := by
 induction rows with
 | nil => simp [exs, allowP]
 | cons r rows ih =>
  have e : exs (r :: rows) = r.e :: exs rows := rfl
  rw [e]
  simp only [allowP]
  split
  ·exact (hl r (by simp)).1
  ·exact ih fun q hq => hl q (by simp [hq])
set_option maxRecDepth 100000 in
set_option maxHeartbeats 2000000 in
theorem l2Goals_any (ad : Option Addr) (cap : Nat) (rs : List TR) (typ over rel : ByteArray) (w : World) (hlen : rs.length ≤ 1048576) (hs : SlT w ad rs) (hl : ∀ r ∈ rs, r.light) :
  Calls Tryz.prog 46 #[.slice ad rs.length cap, .string typ, .string over, .string rel] w fun e w' => (∃ (ad' : Option Addr) (cap' : Nat), e = .returned (.slice ad' (goalsP (tys rs) typ over rel).length cap') ∧ SlS w' ad' (goalsP (tys rs) typ over rel) ∧ ∀ p, ad' = some p → w.heap.size ≤ p.block) ∧ Below w.heap.size w w' := by
 have HS : Hid (SlT w ad rs) := hs
 have HL : Hid (∀ r ∈ rs, r.light) := hl
 clear hs hl
 obtain ⟨i0, hi, hz0, hz1, hz2⟩ := info_parts info_strS
 go_enter Tryz.func46, Tryz.ntmps46
 go_wp2_with fail
 have hbA : Below w.heap.size w (w.alloc (.cells #[] 9)) := (Below.refl _ _).alloc (Nat.le_refl _) _
 have hown1 : (w.alloc (.cells #[] 9)).ownsRow w.heap.size 9 1 (.slice (some ⟨w.heap.size, 0, none⟩) 0 0) 0 [] := World.ownsRow_made w #[] 0 (Nat.le_refl _) (by decide) rfl
 refine (l2Rel_any ad cap rs typ over _ hlen (HS.out.below hbA) HL.out).mono ?_
 rintro e w1 ⟨⟨rows, ad1, cap1, rfl, hx1, hs1, hf1⟩, rfl⟩
 have hl1 := hf1.light HL.out
 have hal := allowP_len rows hl1.2
 go_wp2_with fail
 refine (l2Allow_any ad1 cap1 rows _ hl1.1 hs1).mono ?_
 rintro e w1 ⟨⟨ad2, cap2, rfl, -, hf2⟩, rfl⟩
 have HG : Hid (goalsP (tys rs) typ over rel = gl (tys rs) rel (allowP (exs rows))) := by show _ = _; rw [hx1]; rfl
 have HA : Hid (SlA w ad2 (allowP (exs rows))) := hf2.sl (hf1.sl HS.out)
 generalize allowP (exs rows) = xs at *
 clear hs1 hx1 hf1 hl1 hf2
 have HBA : Hid (Below w.heap.size w (w.alloc (.cells #[] 9))) := hbA
 have HO1 : Hid ((w.alloc (.cells #[] 9)).ownsRow w.heap.size 9 1 (.slice (some ⟨w.heap.size, 0, none⟩) 0 0) 0 []) := hown1
 clear hbA hown1
 obtain ⟨wA, hwA⟩ : ∃ wA, wA = w.alloc (.cells #[] 9) := ⟨_, rfl⟩
 rw [← hwA] at HBA HO1 ⊢
 clear hwA
 go_wp2_with fail
 go_loopw [9, 11] (fun v i wr => ∃ k : Nat, k ≤ xs.length ∧ i = .int .i64 k ∧ wr.ownsRow w.heap.size 9 1 v (gl (tys rs) rel (xs.take k)).length (strsS (gl (tys rs) rel (xs.take k))) ∧ Below w.heap.size w wr) (fun _ i _ => xs.length - (intOf i).toNat)
 case atStart => exact ⟨0, Nat.zero_le _, rfl, by simpa [strsS, gl] using HO1.out, HBA.out⟩
 case round =>
  obtain ⟨k, hk, rfl, hown, hB⟩ := hrel
  by_cases hlt : k < xs.length
  ·have HST : Hid (SlT _ ad rs) := HS.out.below hB
   rcases HA.out.below hB with rfl | ⟨b, off, rfl, hb, hr⟩
   ·simp at hlt
   obtain ⟨t0, t1⟩ := hr k hlt
   have hBs := hB.size
   have hgl := gl_len (tys rs) rel (xs.take k)
   rw [List.length_take] at hgl
   have HBH : Hid (Below w.heap.size w wr) := hB
   have HOW : Hid (wr.ownsRow w.heap.size 9 1 _ _ _) := hown
   clear hr hB hown
   go_wp2_with fail
   refine (l2Rel_any ad cap rs xs[k].t rel _ hlen HST.out HL.out).mono ?_
   rintro e w1 ⟨⟨rows2, ad3, cap3, rfl, hx3, -, -⟩, rfl⟩
   by_cases hz : rows2.length = 0
   ·have HE : Hid (gl (tys rs) rel (xs.take (k + 1)) = gl (tys rs) rel (xs.take k)) := by
     refine gl_no _ _ _ _ hlt ?_
     show _ = _
     unfold relOr
     rw [← hx3, List.length_eq_zero_iff.1 hz]; rfl
    rw [hz]
    clear hx3
    go_wp2
    go_roundw
    case rel => exact ⟨k + 1, by omega, by go_num, by rw [HE.out]; exact HOW.out, HBH.out⟩
    case measure => first | (simp [intOf]; done) | (simp [intOf]; omega)
   ·have HX : Hid (gl (tys rs) rel (xs.take (k + 1)) = gl (tys rs) rel (xs.take k) ++ [xs[k].t]) := by
     refine gl_yes _ _ _ _ hlt ?_
     show ¬ _ = _
     unfold relOr
     rw [← hx3]
     intro h2
     apply hz
     rw [← exs_len, h2]; rfl
    have hzz : (0 : Int) < (rows2.length : Int) := by omega
    clear hx3
    go_wp2_with (at_builtin; refine wpList_append_own _ rfl _ _ 78 rfl w.heap.size 9 i0 (.string ⟨#[]⟩) 1 16 Tryz.underlying78 hi hz0 hz1 hz2 rfl (by decide) _ _ _ rfl (HOW.out.alloc _) ⟨w1.heap.size, 0, none⟩ 1 1 [.string xs[k].t] rfl rfl (cell_one_new _ _ _) (by intro u hu; simp at hu; subst hu; rfl) (by unfold maxLen; omega) (by omega) (by simp; omega) ?_)
    intro v' w3 hown3 hgrow _
    have hb3 : Below w.heap.size w w3 := (HBH.out.alloc HBH.out.size _).grown hgrow (by simp; omega) (fun i hi => (HOW.out.lt i hi).1)
    have HO3 : Hid (w3.ownsRow w.heap.size 9 1 v' (gl (tys rs) rel (xs.take (k + 1))).length (strsS (gl (tys rs) rel (xs.take (k + 1))))) := by
     show World.ownsRow _ _ _ _ _ _ _
     rw [HX.out]
     simpa [strsS] using hown3
    clear hown3 hgrow HOW
    go_wp2
    go_roundw
    case rel => exact ⟨k + 1, by omega, by go_num, HO3.out, hb3⟩
    case measure => first | (simp [intOf]; done) | (simp [intOf]; omega)
  ·obtain rfl : k = xs.length := by omega
   have HE : Hid (xs.take xs.length = xs) := by show _ = _; rw [List.take_length]
   rw [HE.out, ← HG.out] at hown
   obtain ⟨ad', cp, rfl, hsl, hnew⟩ := own_sl hown
   have HNW : Hid (∀ p, ad' = some p → w.heap.size ≤ p.block) := hnew
   have HSL : Hid (SlS _ ad' (goalsP (tys rs) typ over rel)) := hsl
   have HBH : Hid (Below w.heap.size w _) := hB
   clear hsl hB hown hnew
   go_wp2
   go_ret
   exact ⟨⟨ad', cp, rfl, HSL.out, HNW.out⟩, HBH.out⟩
end Go.Proofs.YtmghabcaakgjiaaGreat
