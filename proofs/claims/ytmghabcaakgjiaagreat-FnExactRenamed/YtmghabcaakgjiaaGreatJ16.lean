/- Contract of the program's someOver: each RwOver of a schema is asked. -/
import Derived.Test.YtmghabcaakgjiaaGreatWithout
import Derived.Test.YtmghabcaakgjiaaGreatChgSch
import Derived.Test.YtmghabcaakgjiaaGreatJ3
namespace Go.Proofs.YtmghabcaakgjiaaGreat
set_option maxRecDepth 100000
set_option linter.unusedVariables false
open Go.ChangeShapes Go.WideShapes Go.ChangeAt Go.RowKit Go.Maps
open Pl
def ovN (p : ByteArray → ByteArray → Ex → Bool) (tn rn : ByteArray) (e : Ex) : Bool := decide (e.kind = 3) && p tn rn e
def ovR (p : ByteArray → ByteArray → Ex → Bool) (tn : ByteArray) (r : Rl) : Bool := r.expr.any (ovN p tn r.name)
def ovT (p : ByteArray → ByteArray → Ex → Bool) (t : Ty) : Bool := t.rels.any (ovR p t.name)
def ovS (p : ByteArray → ByteArray → Ex → Bool) (ts : List Ty) : Bool := ts.any (ovT p)
theorem any_drop {α : Type} (f : α → Bool) (xs : List α) (k : Nat) (h : k < xs.length) : (xs.drop k).any f = (f xs[k] || (xs.drop (k + 1)).any f) := by
 rw [List.drop_eq_getElem_cons h]; rfl
theorem any_at {α : Type} {f : α → Bool} {xs : List α} {k : Nat} (h : k < xs.length) (hf : f xs[k] = true) : xs.any f = true := List.any_eq_true.2 ⟨_, List.getElem_mem h, hf⟩
theorem any_end {α : Type} {f : α → Bool} {xs : List α} {k : Nat} (h : ∀ i (hi : i < xs.length), i < k → f xs[i] = false) (hk : xs.length ≤ k) : xs.any f = false := by
 rw [List.any_eq_false]
 intro x hx
 obtain ⟨i, hi, rfl⟩ := List.getElem_of_mem hx
 rw [h i hi (by omega)]; simp
set_option maxHeartbeats 8000000 in
theorem someOver_any (FC : Nat) (rc cp : Array Value) (p : ByteArray → ByteArray → Ex → Bool) (ad : Option Addr) (cap : Nat) (rs : List TR) (w : World) (hs : SlT w ad rs) (hn6 : rs.length ≤ 6) (hr6 : ∀ t ∈ rs, t.rows.length ≤ 6) (he15 : ∀ t ∈ rs, ∀ q ∈ t.rows, q.rows.length ≤ 15)
  (hrun : ∀ (xs : Array Value) (u : World), (callFunc FC xs).run Tryz.prog u = .ok (.enter FC xs) u)
  (hp : ∀ t ∈ rs, ∀ q ∈ t.rows, ∀ x ∈ q.rows, x.e.kind = 3 → ∀ w1 : World, Below w.heap.size w w1 → Calls Tryz.prog FC (rc ++ (#[.agg #[.string t.name, .string q.name], x.val] ++ cp)) w1 fun e w' => e = .returned (.bool (p t.name q.name x.e)) ∧ Below w1.heap.size w1 w') :
  Calls Tryz.prog 29 #[.slice ad rs.length cap, .func (Fn.func FC) rc cp] w fun e w' => e = .returned (.bool (ovS p (tys rs))) ∧ Below w.heap.size w w' := by
 have HS : Hid (SlT w ad rs) := hs
 have HR6 : Hid (∀ t ∈ rs, t.rows.length ≤ 6) := hr6
 have HE15 : Hid (∀ t ∈ rs, ∀ q ∈ t.rows, q.rows.length ≤ 15) := he15
 have HRUN : Hid (∀ (xs : Array Value) (u : World), (callFunc FC xs).run Tryz.prog u = .ok (.enter FC xs) u) := hrun
 have HP : Hid (∀ t ∈ rs, ∀ q ∈ t.rows, ∀ x ∈ q.rows, x.e.kind = 3 → ∀ w1 : World, Below w.heap.size w w1 → Calls Tryz.prog FC (rc ++ (#[.agg #[.string t.name, .string q.name], x.val] ++ cp)) w1 fun e w' => e = .returned (.bool (p t.name q.name x.e)) ∧ Below w1.heap.size w1 w') := hp
 have HYES : Hid (∀ (k : Nat) (hk : k < rs.length) (j : Nat) (hj : j < rs[k].rows.length) (m : Nat) (hm : m < rs[k].rows[j].rows.length), ovN p rs[k].name rs[k].rows[j].name rs[k].rows[j].rows[m].e = true → ovS p (tys rs) = true) := fun k hk j hj m hm h => by
  unfold ovS tys
  rw [List.any_map]
  refine any_at hk ?_
  show ovT p rs[k].p = true
  unfold ovT TR.p rls
  simp only [List.any_map]
  refine any_at hj ?_
  show ovR p _ rs[k].rows[j].p = true
  unfold ovR RR.p exs
  simp only [List.any_map]
  exact any_at hm h
 have HEE : Hid (∀ (k : Nat) (hk : k < rs.length) (j : Nat) (hj : j < rs[k].rows.length), (∀ m (hm : m < rs[k].rows[j].rows.length), ovN p rs[k].name rs[k].rows[j].name rs[k].rows[j].rows[m].e = false) → ovR p rs[k].name rs[k].rows[j].p = false) := fun k hk j hj h => by
  unfold ovR RR.p exs
  simp only [List.any_map]
  exact any_end (k := rs[k].rows[j].rows.length) (fun i hi _ => h i hi) (Nat.le_refl _)
 have HET : Hid (∀ (k : Nat) (hk : k < rs.length), (∀ j (hj : j < rs[k].rows.length), ovR p rs[k].name rs[k].rows[j].p = false) → ovT p rs[k].p = false) := fun k hk h => by
  unfold ovT TR.p rls
  simp only [List.any_map]
  exact any_end (k := rs[k].rows.length) (fun i hi _ => h i hi) (Nat.le_refl _)
 have HES : Hid ((∀ k (hk : k < rs.length), ovT p rs[k].p = false) → ovS p (tys rs) = false) := fun h => by
  unfold ovS tys
  rw [List.any_map]
  exact any_end (k := rs.length) (fun i hi _ => h i hi) (Nat.le_refl _)
 clear hs hr6 he15 hrun hp
 go_enter Tryz.func29, Tryz.ntmps29
 go_wp2_with fail
 go_loopw [13] (fun i wr => ∃ k : Nat, k ≤ rs.length ∧ i = .int .i64 k ∧ Hid (∀ k' (hk : k' < rs.length), k' < k → ovT p rs[k'].p = false) ∧ Hid (Below w.heap.size w wr)) (fun i _ => rs.length - (intOf i).toNat)
 case atStart => exact ⟨0, Nat.zero_le _, rfl, fun _ _ h => absurd h (Nat.not_lt_zero _), Below.refl _ _⟩
 case round =>
  obtain ⟨k, hk, rfl, HK, HB⟩ := hrel
  obtain ⟨wo, hwo⟩ : ∃ wo, wo = wr := ⟨_, rfl⟩
  subst hwo
  by_cases hlt : k < rs.length
  ·rcases HS.out.below HB.out with hnil | ⟨b, off, hadr, hb, hr, hok⟩
   ·rw [hnil] at hlt; simp at hlt
   obtain ⟨t0, t1⟩ := hr k hlt
   have HTM : Hid (rs[k] ∈ rs) := List.getElem_mem hlt
   have HOK : Hid (rs[k].ok wo) := hok rs[k] (List.getElem_mem hlt)
   have hr6 : rs[k].rows.length ≤ 6 := HR6.out _ (List.getElem_mem hlt)
   have hk1 : (0 : Int) ≤ (k : Int) := by omega
   have hk2 : (k : Int) < (rs.length : Int) := by omega
   obtain ⟨W2, hW2⟩ : ∃ W2, W2 = wo.alloc (.cells #[.string rs[k].name, .slice rs[k].ad rs[k].rows.length rs[k].cap] 44) := ⟨_, rfl⟩
   have HB2 : Hid (Below wo.heap.size wo W2) := by show Below _ _ _; rw [hW2]; exact (Below.refl _ _).alloc (Nat.le_refl _) _
   have HP2 : Hid (W2.cell? ⟨wo.heap.size, 0, none⟩ = some (.string rs[k].name) ∧ wo.heap.size < W2.heap.size) := by
    show _ ∧ _
    rw [hW2]
    exact ⟨by simp, by simp⟩
   rw [hadr]
   clear hr hok hadr hb
   go_wp2_with fail
   rw [← hW2]
   clear hW2 t0 t1
   go_loopw [20] (fun i wr => ∃ j : Nat, j ≤ rs[k].rows.length ∧ i = .int .i64 j ∧ Hid (∀ j' (hj : j' < rs[k].rows.length), j' < j → ovR p rs[k].name rs[k].rows[j'].p = false) ∧ Hid (Below W2.heap.size W2 wr)) (fun i _ => rs[k].rows.length - (intOf i).toNat)
   case atStart => exact ⟨0, Nat.zero_le _, rfl, fun _ _ h => absurd h (Nat.not_lt_zero _), Below.refl _ _⟩
   case round =>
    obtain ⟨j, hj, rfl, HJ, HBJ⟩ := hrel
    obtain ⟨wi, hwi⟩ : ∃ wi, wi = wr := ⟨_, rfl⟩
    subst hwi
    have HBO : Hid (Below wo.heap.size wo wi) := HB2.out.trans (HBJ.out.mono HB2.out.size)
    by_cases hjt : j < rs[k].rows.length
    ·rcases HOK.out.below HBO.out with hnil | ⟨b2, off2, hadr2, hb2, hr2, hok2⟩
     ·rw [hnil] at hjt; simp at hjt
     obtain ⟨s0, s1⟩ := hr2 j hjt
     have HQM : Hid (rs[k].rows[j] ∈ rs[k].rows) := List.getElem_mem hjt
     have HOE : Hid (SlE wi rs[k].rows[j].ad rs[k].rows[j].rows) := hok2 _ (List.getElem_mem hjt)
     have hej : rs[k].rows[j].rows.length ≤ 15 := HE15.out _ HTM.out _ (List.getElem_mem hjt)
     have hj1 : (0 : Int) ≤ (j : Int) := by omega
     have hj2 : (j : Int) < (rs[k].rows.length : Int) := by omega
     obtain ⟨W3, hW3⟩ : ∃ W3, W3 = wi.alloc (.cells #[.string rs[k].rows[j].name, .slice rs[k].rows[j].ad rs[k].rows[j].rows.length rs[k].rows[j].cap] 46) := ⟨_, rfl⟩
     have HA3 : Hid (Below wi.heap.size wi W3) := by show Below _ _ _; rw [hW3]; exact (Below.refl _ _).alloc (Nat.le_refl _) _
     have HP3 : Hid (W3.cell? ⟨wo.heap.size, 0, none⟩ = some (.string rs[k].name) ∧ W3.cell? ⟨wi.heap.size, 0, none⟩ = some (.string rs[k].rows[j].name) ∧ wo.heap.size < W3.heap.size ∧ wi.heap.size < W3.heap.size) := by
      have h1 : wo.heap.size < wi.heap.size := Nat.lt_of_lt_of_le HP2.out.2 HBJ.out.size
      exact ⟨kept HA3.out h1 (kept HBJ.out HP2.out.2 HP2.out.1), by rw [hW3]; simp, by rw [hW3]; simp; omega, by rw [hW3]; simp⟩
     rw [hadr2]
     clear hr2 hok2 hadr2 hb2
     go_wp2_with fail
     rw [← hW3]
     clear hW3 s0 s1
     go_loopw [27] (fun i wr => ∃ m : Nat, m ≤ rs[k].rows[j].rows.length ∧ i = .int .i64 m ∧ Hid (∀ m' (hm : m' < rs[k].rows[j].rows.length), m' < m → ovN p rs[k].name rs[k].rows[j].name rs[k].rows[j].rows[m'].e = false) ∧ Hid (Below W3.heap.size W3 wr)) (fun i _ => rs[k].rows[j].rows.length - (intOf i).toNat)
     case atStart => exact ⟨0, Nat.zero_le _, rfl, fun _ _ h => absurd h (Nat.not_lt_zero _), Below.refl _ _⟩
     case round =>
      obtain ⟨m, hm, rfl, HM, HBM⟩ := hrel
      have HBW : Hid (Below w.heap.size w wr) := ((HB.out.trans (HBO.out.mono HB.out.size)).trans (HA3.out.mono (Nat.le_trans HB.out.size HBO.out.size))).trans (HBM.out.mono (Nat.le_trans HB.out.size (Nat.le_trans HBO.out.size HA3.out.size)))
      have HBI : Hid (Below W2.heap.size W2 wr) := (HBJ.out.trans (HA3.out.mono HBJ.out.size)).trans (HBM.out.mono (Nat.le_trans HBJ.out.size HA3.out.size))
      by_cases hmt : m < rs[k].rows[j].rows.length
      ·rcases (HOE.out.below HA3.out).below HBM.out with hnil | ⟨b3, off3, hadr3, hb3, hr3, hok3⟩
       ·rw [hnil] at hmt; simp at hmt
       obtain ⟨q0, q1, q2, q3, q4⟩ := hr3 m hmt
       have HXM : Hid (rs[k].rows[j].rows[m] ∈ rs[k].rows[j].rows) := List.getElem_mem hmt
       have hm1 : (0 : Int) ≤ (m : Int) := by omega
       have hm2 : (m : Int) < (rs[k].rows[j].rows.length : Int) := by omega
       obtain ⟨z0, z1, z2, z3⟩ := HP3.out
       have x0 := kept HBM.out z2 z0
       have x1 := kept HBM.out z3 z1
       have y0 : wo.heap.size < wr.heap.size := Nat.lt_of_lt_of_le z2 HBM.out.size
       have y1 : wi.heap.size < wr.heap.size := Nat.lt_of_lt_of_le z3 HBM.out.size
       obtain ⟨W4, hW4⟩ : ∃ W4, W4 = wr.alloc (.cells #[.int .i64 rs[k].rows[j].rows[m].e.kind, .slice rs[k].rows[j].rows[m].adA rs[k].rows[j].rows[m].e.allow.length rs[k].rows[j].rows[m].capA, .string rs[k].rows[j].rows[m].e.over, .string rs[k].rows[j].rows[m].e.name, .slice rs[k].rows[j].rows[m].adK rs[k].rows[j].rows[m].e.kids.length rs[k].rows[j].rows[m].capK] 50) := ⟨_, rfl⟩
       have HA4 : Hid (Below wr.heap.size wr W4) := by show Below _ _ _; rw [hW4]; exact (Below.refl _ _).alloc (Nat.le_refl _) _
       have HB4 : Hid (Below W3.heap.size W3 W4) := HBM.out.trans (HA4.out.mono HBM.out.size)
       rw [hadr3]
       clear hr3 hok3 hadr3 hb3 z0 z1 z2 z3
       by_cases hkind : rs[k].rows[j].rows[m].e.kind = 3
       ·have hcall := HP.out _ HTM.out _ HQM.out _ HXM.out hkind W4 (HBW.out.trans (HA4.out.mono HBW.out.size))
        unfold ER.val at hcall
        rw [hkind] at hcall hW4
        have HCALL := toHX hcall
        clear hcall
        go_wp2_with fail
        rw [← hW4, HRUN.out, Oper.upon_enter]
        clear hW4
        refine HCALL.out.mono ?_
        rintro e w5 ⟨rfl, hb5⟩
        have HB5 : Hid (Below W4.heap.size W4 w5) := hb5
        have hon : ovN p rs[k].name rs[k].rows[j].name rs[k].rows[j].rows[m].e = p rs[k].name rs[k].rows[j].name rs[k].rows[j].rows[m].e := by unfold ovN; rw [hkind]; rfl
        have HON : Hid (ovN p rs[k].name rs[k].rows[j].name rs[k].rows[j].rows[m].e = p rs[k].name rs[k].rows[j].name rs[k].rows[j].rows[m].e) := hon
        clear hb5 hon q0 q1 q2 q3 q4
        cases hpv : p rs[k].name rs[k].rows[j].name rs[k].rows[j].rows[m].e with
        | true =>
         have HY : Hid (ovS p (tys rs) = true) := HYES.out k hlt j hjt m hmt (HON.out.trans hpv)
         have HBE : Hid (Below w.heap.size w w5) := (HBW.out.trans (HA4.out.mono HBW.out.size)).trans (HB5.out.mono (Nat.le_trans HBW.out.size HA4.out.size))
         go_wp2
         go_ret
         exact ⟨by rw [HY.out]; rfl, HBE.out⟩
        | false =>
         have HM2 : Hid (∀ m' (hm : m' < rs[k].rows[j].rows.length), m' < m + 1 → ovN p rs[k].name rs[k].rows[j].name rs[k].rows[j].rows[m'].e = false) := fun m' hm' h => by
          by_cases e : m' = m
          ·subst e; exact HON.out.trans hpv
          ·exact HM.out m' hm' (by omega)
         have HBE : Hid (Below W3.heap.size W3 w5) := HB4.out.trans (HB5.out.mono HB4.out.size)
         go_wp2
         go_roundw
         case rel => exact ⟨m + 1, by omega, by go_num, HM2, HBE⟩
         case measure => first | (simp [intOf]; done) | (simp [intOf]; omega)
       ·have HM2 : Hid (∀ m' (hm : m' < rs[k].rows[j].rows.length), m' < m + 1 → ovN p rs[k].name rs[k].rows[j].name rs[k].rows[j].rows[m'].e = false) := fun m' hm' h => by
         by_cases e : m' = m
         ·subst e; unfold ovN; rw [decide_eq_false hkind]; rfl
         ·exact HM.out m' hm' (by omega)
        go_wp2
        rw [← hW4]
        go_roundw
        case rel => exact ⟨m + 1, by omega, by go_num, HM2, HB4⟩
        case measure => first | (simp [intOf]; done) | (simp [intOf]; omega)
      ·have HJ2 : Hid (∀ j' (hj : j' < rs[k].rows.length), j' < j + 1 → ovR p rs[k].name rs[k].rows[j'].p = false) := fun j' hj' h => by
        by_cases e : j' = j
        ·subst e; exact HEE.out k hlt j' hjt fun m' hm' => HM.out m' hm' (by omega)
        ·exact HJ.out j' hj' (by omega)
       go_wp2
       go_roundw
       case rel => exact ⟨j + 1, by omega, by go_num, HJ2, HBI⟩
       case measure => first | (simp [intOf]; done) | (simp [intOf]; omega)
    ·have HK2 : Hid (∀ k' (hk : k' < rs.length), k' < k + 1 → ovT p rs[k'].p = false) := fun k' hk' h => by
      by_cases e : k' = k
      ·subst e; exact HET.out k' hlt fun j' hj' => HJ.out j' hj' (by omega)
      ·exact HK.out k' hk' (by omega)
     have HBE : Hid (Below w.heap.size w wi) := HB.out.trans (HBO.out.mono HB.out.size)
     go_wp2
     go_roundw
     case rel => exact ⟨k + 1, by omega, by go_num, HK2, HBE⟩
     case measure => first | (simp [intOf]; done) | (simp [intOf]; omega)
  ·have HN : Hid (ovS p (tys rs) = false) := HES.out fun k' hk' => HK.out k' hk' (by omega)
   go_wp2
   go_ret
   exact ⟨by rw [HN.out]; rfl, HB.out⟩
end Go.Proofs.YtmghabcaakgjiaaGreat
namespace Go.Proofs.YtmghabcaakgjiaaGreat
set_option maxRecDepth 100000
set_option linter.unusedVariables false
open Go.ChangeShapes Go.WideShapes Go.ChangeAt Go.RowKit
open Pl
section
variable {α : Type} {T : TypeId} {size : Nat} {cells : α → List Value} {K : World → Nat → α → Prop} {I : α → Nat → Prop} {w w' : World} {base : Nat} {v : Value} {rs : List α}
theorem two_set {i : Nat} {q' : α} (hi : i < rs.length) (h : ∀ (x y : Nat) (hx : x < rs.length) (hy : y < rs.length), x ≠ y → ∀ g, I rs[x] g → ¬ I rs[y] g) (hq : ∀ (x : Nat) (hx : x < rs.length), x ≠ i → ∀ g, I rs[x] g → ¬ I q' g) :
  ∀ (x y : Nat) (hx : x < (rs.set i q').length) (hy : y < (rs.set i q').length), x ≠ y → ∀ g, I (rs.set i q')[x] g → ¬ I (rs.set i q')[y] g := by
 intro x y hx hy hxy g h1 h2
 rw [List.length_set] at hx hy
 rw [List.getElem_set] at h1 h2
 split at h1
 ·rename_i e
  split at h2
  ·rename_i e2; omega
  ·rename_i e2; exact hq y hy (Ne.symm e2) g h2 h1
 ·rename_i e
  split at h2
  ·rename_i e2; exact hq x hx (Ne.symm e) g h1 h2
  ·exact h x y hx hy hxy g h1 h2
theorem mem_set {i : Nat} {q' p : α} (hp : p ∈ rs.set i q') : p = q' ∨ ∃ (x : Nat) (hx : x < rs.length), x ≠ i ∧ p = rs[x] := by
 obtain ⟨x, hx, rfl⟩ := List.getElem_of_mem hp
 rw [List.length_set] at hx
 rw [List.getElem_set]
 split
 ·exact .inl rfl
 ·rename_i e; exact .inr ⟨x, hx, Ne.symm e, rfl⟩
theorem LotM.setIn (kd : Kid K I) (h : LotM T size cells K I w base v rs) {i : Nat} (hi : i < rs.length) {q' : α} (hs : w.heap.size ≤ w'.heap.size) (hh : ∀ g, g < w.heap.size → ¬ I rs[i] g → w'.heap[g]? = w.heap[g]?) (hc : cells q' = cells rs[i]) (hk : K w' base q') (hI : ∀ g, I q' g → I rs[i] g ∨ w.heap.size ≤ g) :
  LotM T size cells K I w' base v (rs.set i q') := by
 have hfl : (rs.set i q').flatMap cells = rs.flatMap cells := by
  rw [List.flatMap_def, List.flatMap_def, List.map_set, hc]
  congr 1
  rw [← List.getElem_map (f := cells) (h := by simpa using hi)]
  exact List.set_getElem_self _
 refine ⟨?_, fun p hp => ?_, fun p hp g hg => ?_, two_set hi h.two fun x hx hne g h1 h2 => ?_⟩
 ·rw [List.length_set, hfl]
  exact own_heap h.own fun g hg => hh g (h.own.lt g hg).2 fun hi2 => h.head _ (List.getElem_mem hi) g hi2 hg
 ·rcases mem_set hp with rfl | ⟨x, hx, hne, rfl⟩
  ·exact hk
  ·exact kd.heap w w' base _ (h.kid _ (List.getElem_mem hx)) hs fun g hg => hh g (kd.lt w base _ (h.kid _ (List.getElem_mem hx)) g hg).2 (h.two x i hx hi hne g hg)
 ·rcases mem_set hp with rfl | ⟨x, hx, hne, rfl⟩
  ·rcases hI g hg with h2 | h2
   ·exact h.head _ (List.getElem_mem hi) g h2
   ·intro e; have := (h.own.lt g e).2; omega
  ·exact h.head _ (List.getElem_mem hx) g hg
 ·rcases hI g h2 with h3 | h3
  ·exact h.two x i hx hi hne g h1 h3
  ·have := (kd.lt w base _ (h.kid _ (List.getElem_mem hx)) g h1).2; omega
end
end Go.Proofs.YtmghabcaakgjiaaGreat
namespace Go.Proofs.YtmghabcaakgjiaaGreat
open Go.ChangeShapes Go.WideShapes Go.ChangeAt Go.RowKit
open Pl
def inS (xs : List ByteArray) (s : ByteArray) : Bool := xs.any fun x => x.toList == s.toList
theorem inS_drop (xs : List ByteArray) (k : Nat) (h : k < xs.length) (s : ByteArray) : inS (xs.drop k) s = ((xs[k].toList == s.toList) || inS (xs.drop (k + 1)) s) := by
 unfold inS; rw [List.drop_eq_getElem_cons h]; rfl
set_option maxHeartbeats 1000000 in
theorem l7In_any (ad : Option Addr) (cap : Nat) (xs : List ByteArray) (s : ByteArray) (w : World) (hlen : xs.length ≤ 1048576) (hs : SlS w ad xs) :
  Calls Tryz.prog 45 #[.slice ad xs.length cap, .string s] w fun e w' => e = .returned (.bool (inS xs s)) ∧ w' = w := by
 have HS : Hid (SlS w ad xs) := hs
 clear hs
 go_enter Tryz.func45, Tryz.ntmps45
 go_wp2_with fail
 go_loopw [5] (fun i wr => ∃ k : Nat, k ≤ xs.length ∧ i = .int .i64 k ∧ Hid (inS (xs.drop k) s = inS xs s) ∧ wr = w) (fun i _ => xs.length - (intOf i).toNat)
 case atStart => exact ⟨0, Nat.zero_le _, rfl, rfl, rfl⟩
 case round =>
  obtain ⟨k, hk, rfl, HP, rfl⟩ := hrel
  by_cases hlt : k < xs.length
  ·rcases HS.out with rfl | ⟨b, off, rfl, hb, hr⟩
   ·simp at hlt
   have t0 := hr k hlt
   have hk1 : (0 : Int) ≤ (k : Int) := by omega
   have hk2 : (k : Int) < (xs.length : Int) := by omega
   clear hr
   cases he : (xs[k].toList == s.toList) with
   | true =>
    have HN : Hid (inS xs s = true) := by show _ = _; rw [← HP.out, inS_drop _ _ hlt, he]; rfl
    go_wp2
    go_ret
    exact ⟨by rw [HN.out]; rfl, rfl⟩
   | false =>
    have HP2 : Hid (inS (xs.drop (k + 1)) s = inS xs s) := by show _ = _; rw [← HP.out, inS_drop _ _ hlt, he]; rfl
    go_wp2
    go_roundw
    case rel => exact ⟨k + 1, by omega, by go_num, HP2, by first | rfl | trivial⟩
    case measure => first | (simp [intOf]; done) | (simp [intOf]; omega)
  ·have HN : Hid (inS xs s = false) := by show _ = _; rw [← HP.out, List.drop_of_length_le (by omega)]; rfl
   go_wp2
   go_ret
   exact ⟨by rw [HN.out]; rfl, rfl⟩
set_option maxHeartbeats 1000000 in
theorem indexS_any (ad : Option Addr) (cap : Nat) (xs : List ByteArray) (s : ByteArray) (w : World) (hlen : xs.length ≤ 1048576) (hs : SlS w ad xs) :
  Calls Tryz.prog 75 #[.slice ad xs.length cap, .string s] w fun e w' => (∃ r : Int, e = .returned (.int .i64 r) ∧ decide (0 ≤ r) = inS xs s) ∧ w' = w := by
 have HS : Hid (SlS w ad xs) := hs
 clear hs
 go_enter Tryz.func75, Tryz.ntmps75
 go_wp2_with fail
 go_loopw [8] (fun i wr => ∃ k : Nat, k ≤ xs.length ∧ i = .int .i64 k ∧ Hid (inS (xs.drop k) s = inS xs s) ∧ wr = w) (fun i _ => xs.length - (intOf i).toNat)
 case atStart => exact ⟨0, Nat.zero_le _, rfl, rfl, rfl⟩
 case round =>
  obtain ⟨k, hk, rfl, HP, rfl⟩ := hrel
  by_cases hlt : k < xs.length
  ·rcases HS.out with rfl | ⟨b, off, rfl, hb, hr⟩
   ·simp at hlt
   have t0 := hr k hlt
   have hk1 : (0 : Int) ≤ (k : Int) := by omega
   have hk2 : (k : Int) < (xs.length : Int) := by omega
   clear hr
   cases he : (s.toList == xs[k].toList) with
   | true =>
    have HN : Hid (inS xs s = true) := by show _ = _; rw [← HP.out, inS_drop _ _ hlt, Bool.beq_comm, he]; rfl
    go_wp2
    go_ret
    exact ⟨⟨k, rfl, by rw [HN.out]; simp⟩, rfl⟩
   | false =>
    have HP2 : Hid (inS (xs.drop (k + 1)) s = inS xs s) := by show _ = _; rw [← HP.out, inS_drop _ _ hlt, Bool.beq_comm, he]; rfl
    go_wp2
    go_roundw
    case rel => exact ⟨k + 1, by omega, by go_num, HP2, by first | rfl | trivial⟩
    case measure => first | (simp [intOf]; done) | (simp [intOf]; omega)
  ·have HN : Hid (inS xs s = false) := by show _ = _; rw [← HP.out, List.drop_of_length_le (by omega)]; rfl
   go_wp2
   go_ret
   exact ⟨⟨-1, rfl, by rw [HN.out]; simp⟩, rfl⟩
theorem containsS_any (ad : Option Addr) (cap : Nat) (xs : List ByteArray) (s : ByteArray) (w : World) (hlen : xs.length ≤ 1048576) (hs : SlS w ad xs) :
  Calls Tryz.prog 49 #[.slice ad xs.length cap, .string s] w fun e w' => e = .returned (.bool (inS xs s)) ∧ w' = w := by
 go_enter Tryz.func49, Tryz.ntmps49
 go_wp2_with fail
 refine (indexS_any ad cap xs s _ hlen hs).mono ?_
 rintro e w' ⟨⟨r, rfl, hr⟩, rfl⟩
 have HR : Hid (decide (0 ≤ r) = inS xs s) := hr
 clear hr hs
 go_wp2
 go_ret
 exact ⟨by rw [← HR.out]; rfl, rfl⟩
end Go.Proofs.YtmghabcaakgjiaaGreat
namespace Go.Proofs.YtmghabcaakgjiaaGreat
set_option maxRecDepth 100000
set_option linter.unusedVariables false
open Go.ChangeShapes Go.WideShapes Go.ChangeAt Go.RowKit Go.Maps
open Pl
structure BX (g : Nat) (c0 c1 c2 c3 c4 : Value) (w : World) : Prop where
 lt : g < w.heap.size
 a0 : w.cell? ⟨g, 0, none⟩ = some c0
 a1 : w.cell? ⟨g, 1, none⟩ = some c1
 a2 : w.cell? ⟨g, 2, none⟩ = some c2
 a3 : w.cell? ⟨g, 3, none⟩ = some c3
 a4 : w.cell? ⟨g, 4, none⟩ = some c4
 fz : ∀ y, w.frozen? ⟨g, y, none⟩ = false
section
variable {g : Nat} {c0 c1 c2 c3 c4 : Value} {w w' : World}
theorem BX.below (h : BX g c0 c1 c2 c3 c4 w) (hb : Below w.heap.size w w') : BX g c0 c1 c2 c3 c4 w' :=
 ⟨Nat.lt_of_lt_of_le h.lt hb.size, kept hb h.lt h.a0, kept hb h.lt h.a1, kept hb h.lt h.a2, kept hb h.lt h.a3, kept hb h.lt h.a4, fun y => keptF hb h.lt (h.fz y)⟩
theorem BX.set1 (h : BX g c0 c1 c2 c3 c4 w) (v : Value) : BX g c0 v c2 c3 c4 (w.setCell ⟨g, 1, none⟩ v) :=
 ⟨by simpa using h.lt, (setO' (by omega)).trans h.a0, setS' h.a1, (setO' (by omega)).trans h.a2, (setO' (by omega)).trans h.a3, (setO' (by omega)).trans h.a4, fun y => by simpa using h.fz y⟩
theorem BX.set2 (h : BX g c0 c1 c2 c3 c4 w) (v : Value) : BX g c0 c1 v c3 c4 (w.setCell ⟨g, 2, none⟩ v) :=
 ⟨by simpa using h.lt, (setO' (by omega)).trans h.a0, (setO' (by omega)).trans h.a1, setS' h.a2, (setO' (by omega)).trans h.a3, (setO' (by omega)).trans h.a4, fun y => by simpa using h.fz y⟩
theorem BX.set3 (h : BX g c0 c1 c2 c3 c4 w) (v : Value) : BX g c0 c1 c2 v c4 (w.setCell ⟨g, 3, none⟩ v) :=
 ⟨by simpa using h.lt, (setO' (by omega)).trans h.a0, (setO' (by omega)).trans h.a1, (setO' (by omega)).trans h.a2, setS' h.a3, (setO' (by omega)).trans h.a4, fun y => by simpa using h.fz y⟩
end
theorem BX.chg {S : Nat → Prop} {g : Nat} {c0 c1 c2 c3 c4 : Value} {w w' : World} (h : BX g c0 c1 c2 c3 c4 w) (hc : Chg S w w') (hs : ¬ S g) : BX g c0 c1 c2 c3 c4 w' :=
 ⟨Nat.lt_of_lt_of_le h.lt hc.size, (hc.cell h.lt hs).trans h.a0, (hc.cell h.lt hs).trans h.a1, (hc.cell h.lt hs).trans h.a2, (hc.cell h.lt hs).trans h.a3, (hc.cell h.lt hs).trans h.a4, hc.free g h.lt h.fz⟩
end Go.Proofs.YtmghabcaakgjiaaGreat
