/- Contracts of the program's looks into its table: is a relation there, is it told by objects, is a type there. -/
import Derived.Test.YtmghabcaakgjiaaGreatJ13
namespace Go.Proofs.YtmghabcaakgjiaaGreat
open Go.ChangeShapes Go.WideShapes Go.ChangeAt Go.RowKit Go.Maps
open Pl

theorem zeroExprs (w : World) : (zeroValue 38).run Tryz.prog w = .ok (.slice none 0 0) w := by kernel_rfl

theorem has_any (b n : Nat) (M : ByteArray × ByteArray → Option Value) (t r : ByteArray) (w : World) (ht : t.size ≤ maxLen) (hr : r.size ≤ maxLen) (hV : MapV encK Tryz.prog 73 w b n M) :
    Calls Tryz.prog 27 #[.map (some b), .string t, .string r] w fun e w' => e = .returned (.bool (M (t, r)).isSome) ∧ w' = w := by
  obtain ⟨kl, hkl⟩ := relKeyOf (t, r) ht hr
  have HV : Hid (MapV encK Tryz.prog 73 w b n M) := hV
  have HKL : Hid (keyOf Tryz.prog 73 (encK (t, r)) = some kl) := hkl
  clear hkl hV
  go_enter Tryz.func27, Tryz.ntmps27
  go_wp2_with (first | (at_lookup; refine wpList_lookV_ok _ rfl _ _ 56 rfl 73 38 relLaw Tryz.underlying56 (zeroExprs _) b n M rfl HV.out (t, r) kl rfl HKL.out ?_) | go_in)
  go_ret
  exact ⟨rfl, rfl⟩

theorem told1_any (a : Al) (w : World) :
    Calls Tryz.prog 103 #[.agg #[.string a.t, .string a.s]] w fun e w' => e = .returned (.bool (!a.s.toList.isEmpty)) ∧ Below w.heap.size w w' := by
  cases h : a.s.toList.isEmpty with
  | true =>
    go_enter Tryz.func103, Tryz.ntmps103
    go_wp2
    go_ret
    exact ⟨rfl, (Below.refl _ _).alloc (Nat.le_refl _) _⟩
  | false =>
    go_enter Tryz.func103, Tryz.ntmps103
    go_wp2
    go_ret
    exact ⟨rfl, (Below.refl _ _).alloc (Nat.le_refl _) _⟩

theorem anySet_drop (xs : List Al) (k : Nat) (h : k < xs.length) : (xs.drop k).any (fun a => !a.s.toList.isEmpty) = ((!xs[k].s.toList.isEmpty) || (xs.drop (k + 1)).any (fun a => !a.s.toList.isEmpty)) := by
  rw [List.drop_eq_getElem_cons h]; rfl

set_option maxHeartbeats 1000000 in
theorem indexTold_any (ad : Option Addr) (cap : Nat) (xs : List Al) (w : World) (hlen : xs.length ≤ 1048576) (hs : SlA w ad xs) :
    Calls Tryz.prog 91 #[.slice ad xs.length cap, .func (Fn.func 103) #[] #[]] w fun e w' => (∃ r : Int, e = .returned (.int .i64 r) ∧ decide (0 ≤ r) = xs.any (fun a => !a.s.toList.isEmpty)) ∧ Below w.heap.size w w' := by
  have HS : Hid (SlA w ad xs) := hs
  clear hs
  go_enter Tryz.func91, Tryz.ntmps91
  go_wp2_with fail
  go_loopw [8] (fun i wr => ∃ k : Nat, k ≤ xs.length ∧ i = .int .i64 k ∧ Hid ((xs.drop k).any (fun a => !a.s.toList.isEmpty) = xs.any (fun a => !a.s.toList.isEmpty)) ∧ Hid (Below w.heap.size w wr)) (fun i _ => xs.length - (intOf i).toNat)
  case atStart => exact ⟨0, Nat.zero_le _, rfl, rfl, Below.refl _ _⟩
  case round =>
    obtain ⟨k, hk, rfl, HP, HB⟩ := hrel
    by_cases hlt : k < xs.length
    · rcases HS.out.below HB.out with rfl | ⟨b, off, rfl, hb, hr⟩
      · simp at hlt
      obtain ⟨t0, t1⟩ := hr k hlt
      have hk1 : (0 : Int) ≤ (k : Int) := by omega
      have hk2 : (k : Int) < (xs.length : Int) := by omega
      clear hr
      cases he : xs[k].s.toList.isEmpty with
      | false =>
        have HN : Hid (xs.any (fun a => !a.s.toList.isEmpty) = true) := by show _ = _; rw [← HP.out, anySet_drop _ _ hlt, he]; rfl
        go_wp2_with (go_at_call 103; refine (told1_any xs[k] _).mono ?_; rintro e w' ⟨he2, hbx⟩; rw [he] at he2; subst he2)
        go_ret
        exact ⟨⟨k, rfl, by rw [HN.out]; simp⟩, HB.out.trans (hbx.mono HB.out.size)⟩
      | true =>
        have HP2 : Hid ((xs.drop (k + 1)).any (fun a => !a.s.toList.isEmpty) = xs.any (fun a => !a.s.toList.isEmpty)) := by show _ = _; rw [← HP.out, anySet_drop _ _ hlt, he]; rfl
        go_wp2_with (go_at_call 103; refine (told1_any xs[k] _).mono ?_; rintro e w' ⟨he2, hbx⟩; rw [he] at he2; subst he2)
        go_roundw
        case rel => exact ⟨k + 1, by omega, by go_num, HP2, HB.out.trans (hbx.mono HB.out.size)⟩
        case measure => first | (simp [intOf]; done) | (simp [intOf]; omega)
    · have HN : Hid (xs.any (fun a => !a.s.toList.isEmpty) = false) := by show _ = _; rw [← HP.out, List.drop_of_length_le (by omega)]; rfl
      go_wp2
      go_ret
      exact ⟨⟨-1, rfl, by rw [HN.out]; simp⟩, HB.out⟩

theorem containsTold_any (ad : Option Addr) (cap : Nat) (xs : List Al) (w : World) (hlen : xs.length ≤ 1048576) (hs : SlA w ad xs) :
    Calls Tryz.prog 64 #[.slice ad xs.length cap, .func (Fn.func 103) #[] #[]] w fun e w' => e = .returned (.bool (xs.any (fun a => !a.s.toList.isEmpty))) ∧ Below w.heap.size w w' := by
  go_enter Tryz.func64, Tryz.ntmps64
  go_wp2_with fail
  refine (indexTold_any ad cap xs _ hlen hs).mono ?_
  rintro e w' ⟨⟨r, rfl, hr⟩, hbx⟩
  have HR : Hid (decide (0 ≤ r) = xs.any (fun a => !a.s.toList.isEmpty)) := hr
  clear hr hs
  go_wp2
  go_ret
  exact ⟨by rw [← HR.out]; rfl, hbx⟩

theorem told_all (xs : List Al) : (!xs.any fun a => !a.s.toList.isEmpty) = xs.all fun a => a.s.toList.isEmpty := by
  induction xs with
  | nil => rfl
  | cons a xs ih => simp only [List.any_cons, List.all_cons, Bool.not_or, Bool.not_not, ih]

set_option maxRecDepth 100000 in
set_option maxHeartbeats 1000000 in
theorem toldByObjects_any (ad : Option Addr) (cap : Nat) (rs : List ER) (w : World) (hlen : rs.length ≤ 1048576) (hs : SlE w ad rs) (hl : ∀ r ∈ rs, r.e.light) :
    Calls Tryz.prog 76 #[.slice ad rs.length cap] w fun e w' => e = .returned (.bool (directP (exs rs))) ∧ Below w.heap.size w w' := by
  by_cases h1 : rs.length = 1
  · obtain ⟨r, rfl⟩ : ∃ r, rs = [r] := List.length_eq_one_iff.1 h1
    rcases hs with h | ⟨b, off, rfl, hb, hr, hok⟩
    · cases h
    obtain ⟨t0, t1, t2, t3, t4⟩ := hr 0 (by simp)
    simp only [Nat.zero_mul, Nat.add_zero, List.getElem_cons_zero] at t0 t1 t2 t3 t4
    have HOK : Hid (r.ok w) := hok r (by simp)
    obtain ⟨lg, -⟩ := hl r (by simp)
    clear hr hok h1
    simp only [List.length_cons, List.length_nil, Nat.zero_add]
    by_cases hq : r.e.kind = 1
    · have HD : Hid (directP (exs [r]) = !r.e.allow.any fun a => !a.s.toList.isEmpty) := by show _ = _; rw [told_all]; simp [directP, exs, hq]
      have hqb : (r.e.kind == 1) = true := by simpa using hq
      go_enter Tryz.func76, Tryz.ntmps76
      go_wp2_with (go_at_call 64; refine (containsTold_any _ _ r.e.allow _ lg (HOK.out.1.below ((Below.refl _ _)))).mono ?_; rintro e w' ⟨rfl, hbx⟩)
      go_ret
      exact ⟨by rw [HD.out]; rfl, hbx⟩
    · have HD : Hid (directP (exs [r]) = false) := by show _ = _; simp [directP, exs, hq]
      have hqb : (r.e.kind == 1) = false := by simpa using hq
      go_enter Tryz.func76, Tryz.ntmps76
      go_wp2
      go_ret
      exact ⟨by rw [HD.out]; rfl, Below.refl _ _⟩
  · have HD : Hid (directP (exs rs) = false) := by
      show _ = _
      rcases rs with _ | ⟨r, _ | ⟨r2, rs⟩⟩
      · rfl
      · simp at h1
      · rfl
    have h2 : ((rs.length : Int) == 1) = false := by
      have : ¬ ((rs.length : Int) = 1) := by omega
      simpa using this
    clear hs
    go_enter Tryz.func76, Tryz.ntmps76
    go_wp2
    go_ret
    exact ⟨by rw [HD.out]; rfl, Below.refl _ _⟩
end Go.Proofs.YtmghabcaakgjiaaGreat

/- A right schema's table: what lies in it is what the document's look finds. -/
namespace Go.Proofs.YtmghabcaakgjiaaGreat
open Pl

theorem lessI : ∀ x : List UInt8, Op.bytesLess x x = false
  | [] => rfl
  | a :: x => by simp [Op.bytesLess, lessI x]
theorem lessT : ∀ x y z : List UInt8, Op.bytesLess x y = true → Op.bytesLess y z = true → Op.bytesLess x z = true
  | [], _, [], h, k => by cases ‹List UInt8› <;> simp [Op.bytesLess] at h k
  | [], _, _ :: _, _, _ => rfl
  | _ :: _, [], _, h, _ => by simp [Op.bytesLess] at h
  | _ :: _, _ :: _, [], _, k => by simp [Op.bytesLess] at k
  | a :: x, b :: y, c :: z, h, k => by
    simp only [Op.bytesLess, Bool.or_eq_true, Bool.and_eq_true, decide_eq_true_eq, beq_iff_eq] at h k ⊢
    rcases h with h | ⟨h, h'⟩
    · rcases k with k | ⟨k, k'⟩
      · exact .inl (UInt8.lt_trans h k)
      · exact .inl (k ▸ h)
    · rcases k with k | ⟨k, k'⟩
      · exact .inl (h ▸ k)
      · exact .inr ⟨h.trans k, lessT x y z h' k'⟩
/-- names that rise, each ahead of the next one, are all unlike -/
theorem rising_ne {f : Nat → ByteArray} {n : Nat} (h : ∀ i, i + 1 < n → lessB (f i) (f (i + 1)) = true) : ∀ i j, i < j → j < n → f i ≠ f j := by
  have h2 : ∀ d i, i + d + 1 < n → lessB (f i) (f (i + d + 1)) = true := by
    intro d
    induction d with
    | zero => intro i hi; exact h i (by omega)
    | succ d ih =>
      intro i hi
      have h3 := ih i (by omega)
      have h4 := h (i + d + 1) (by omega)
      exact lessT _ _ _ h3 h4
  intro i j hij hj e
  have h5 := h2 (j - i - 1) i (by omega)
  have e2 : i + (j - i - 1) + 1 = j := by omega
  rw [e2, e] at h5
  unfold lessB at h5
  rw [lessI] at h5
  cases h5

theorem shape_typ {rs : List TR} (h : shapeB (tys rs) = true) (k : Nat) (hk : k < rs.length) : nameB rs[k].name = true ∧ (∀ i (hi : i < rs.length), k = i + 1 → lessB rs[i].name rs[k].name = true) ∧ relsUp (rls rs[k].rows) rs[k].rows.length = true := by
  simp only [shapeB, Bool.and_eq_true, decide_eq_true_eq] at h
  rw [tys_len] at h
  have h1 := typsUp_all h.2 k hk
  unfold typAt at h1
  have e : (tys rs)[k]? = some rs[k].p := by simp [tys, hk]
  rw [e] at h1
  simp only [Bool.and_eq_true, decide_eq_true_eq] at h1
  have e2 : rs[k].p.rels.length = rs[k].rows.length := by simp [TR.p, rls]
  rw [e2] at h1
  refine ⟨h1.1.1.1, fun i hi hki => ?_, h1.2⟩
  subst hki
  have h2 := h1.1.1.2
  have e3 : (tys rs)[i]? = some rs[i].p := by simp [tys, hi]
  simp only [e3, Option.map_some, Option.getD_some] at h2
  exact h2
theorem shape_rel {rs : List RR} {n : Nat} (h : relsUp (rls rs) n = true) (k : Nat) (hk : k < rs.length) (hn : k < n) : nameB rs[k].name = true ∧ (∀ i (hi : i < rs.length), k = i + 1 → lessB rs[i].name rs[k].name = true) ∧ specE (exs rs[k].rows) = true := by
  have h1 := relsUp_all h k hn
  unfold relAt at h1
  have e : (rls rs)[k]? = some rs[k].p := by simp [rls, hk]
  rw [e] at h1
  simp only [Bool.and_eq_true] at h1
  refine ⟨h1.1.1, fun i hi hki => ?_, h1.2⟩
  subst hki
  have h2 := h1.1.2
  have e3 : (rls rs)[i]? = some rs[i].p := by simp [rls, hi]
  simp only [e3, Option.map_some, Option.getD_some] at h2
  exact h2
theorem typ_uniq {rs : List TR} (h : shapeB (tys rs) = true) {t t' : TR} (ht : t ∈ rs) (ht' : t' ∈ rs) (e : t.name = t'.name) : t = t' := by
  obtain ⟨i, hi, rfl⟩ := List.mem_iff_getElem.1 ht
  obtain ⟨j, hj, rfl⟩ := List.mem_iff_getElem.1 ht'
  have hne := rising_ne (f := fun k => (rs[k]?.map TR.name).getD ByteArray.empty) (n := rs.length) (fun k hk => by
    have h0 : k < rs.length := by omega
    simp only [List.getElem?_eq_getElem hk, List.getElem?_eq_getElem h0, Option.map_some, Option.getD_some]
    exact (shape_typ h (k + 1) hk).2.1 k h0 rfl)
  by_cases hij : i = j
  · subst hij; rfl
  · exfalso
    rcases Nat.lt_or_gt_of_ne hij with hl | hl
    · have := hne i j hl hj; simp [hi, hj] at this; exact this e
    · have := hne j i hl hi; simp [hi, hj] at this; exact this e.symm
theorem rel_uniq {rs : List RR} (h : relsUp (rls rs) rs.length = true) {t t' : RR} (ht : t ∈ rs) (ht' : t' ∈ rs) (e : t.name = t'.name) : t = t' := by
  obtain ⟨i, hi, rfl⟩ := List.mem_iff_getElem.1 ht
  obtain ⟨j, hj, rfl⟩ := List.mem_iff_getElem.1 ht'
  have hne := rising_ne (f := fun k => (rs[k]?.map RR.name).getD ByteArray.empty) (n := rs.length) (fun k hk => by
    have h0 : k < rs.length := by omega
    simp only [List.getElem?_eq_getElem hk, List.getElem?_eq_getElem h0, Option.map_some, Option.getD_some]
    exact (shape_rel h (k + 1) hk hk).2.1 k h0 rfl)
  by_cases hij : i = j
  · subst hij; rfl
  · exfalso
    rcases Nat.lt_or_gt_of_ne hij with hl | hl
    · have := hne i j hl hj; simp [hi, hj] at this; exact this e
    · have := hne j i hl hi; simp [hi, hj] at this; exact this e.symm

/-! ### what the table holds -/
theorem tabIn_some {t : ByteArray} {M : ByteArray × ByteArray → Option Value} {qs : List RR} {k : ByteArray × ByteArray} {v : Value} (h : tabIn t M qs k = some v) : M k = some v ∨ ∃ q ∈ qs, k = (t, q.name) ∧ v = q.sl := by
  induction qs generalizing M with
  | nil => exact .inl h
  | cons q qs ih =>
    simp only [tabIn] at h
    rcases ih h with h | ⟨q', hq, e⟩
    · by_cases e : k = (t, q.name)
      · rw [e, updM_same] at h; injection h with h; exact .inr ⟨q, by simp, e, h.symm⟩
      · rw [updM_other e] at h; exact .inl h
    · exact .inr ⟨q', by simp [hq], e⟩
theorem tabIn_there {t : ByteArray} {M : ByteArray × ByteArray → Option Value} {qs : List RR} {k : ByteArray × ByteArray} (h : (M k).isSome = true ∨ ∃ q ∈ qs, k = (t, q.name)) : (tabIn t M qs k).isSome = true := by
  induction qs generalizing M with
  | nil => rcases h with h | ⟨q, hq, -⟩; exact h; cases hq
  | cons q qs ih =>
    simp only [tabIn]
    refine ih ?_
    by_cases e : k = (t, q.name)
    · left; rw [e, updM_same]; rfl
    · rcases h with h | ⟨q', hq, e'⟩
      · left; rw [updM_other e]; exact h
      · rcases List.mem_cons.1 hq with rfl | hq
        · exact absurd e' e
        · exact .inr ⟨q', hq, e'⟩
theorem tabFrom_some {M : ByteArray × ByteArray → Option Value} {rs : List TR} {k : ByteArray × ByteArray} {v : Value} (h : tabFrom M rs k = some v) : M k = some v ∨ ∃ t ∈ rs, ∃ q ∈ t.rows, k = (t.name, q.name) ∧ v = q.sl := by
  induction rs generalizing M with
  | nil => exact .inl h
  | cons t rs ih =>
    simp only [tabFrom] at h
    rcases ih h with h | ⟨t', ht, e⟩
    · rcases tabIn_some h with h | ⟨q, hq, e⟩
      · exact .inl h
      · exact .inr ⟨t, by simp, q, hq, e⟩
    · exact .inr ⟨t', by simp [ht], e⟩
theorem tabFrom_there {M : ByteArray × ByteArray → Option Value} {rs : List TR} {k : ByteArray × ByteArray} (h : (M k).isSome = true ∨ ∃ t ∈ rs, ∃ q ∈ t.rows, k = (t.name, q.name)) : (tabFrom M rs k).isSome = true := by
  induction rs generalizing M with
  | nil => rcases h with h | ⟨q, hq, -⟩; exact h; cases hq
  | cons t rs ih =>
    simp only [tabFrom]
    refine ih ?_
    rcases h with h | ⟨t', ht, q, hq, e⟩
    · exact .inl (tabIn_there (.inl h))
    · rcases List.mem_cons.1 ht with rfl | ht
      · exact .inl (tabIn_there (.inr ⟨q, hq, e⟩))
      · exact .inr ⟨t', ht, q, hq, e⟩
theorem relIn_none {rs : List Rl} {n : ByteArray} (h : relIn rs n = none) : ∀ r ∈ rs, r.name ≠ n := by
  induction rs with
  | nil => intro r hr; cases hr
  | cons r rs ih =>
    simp only [relIn] at h
    split at h
    · cases h
    · rename_i hn
      intro q hq
      rcases List.mem_cons.1 hq with rfl | hq
      · exact fun e => hn (ba_beq.2 e)
      · exact ih h q hq
theorem relP_none {ts : List Ty} {ty n : ByteArray} (h : relP ts ty n = none) : ∀ t ∈ ts, t.name = ty → ∀ r ∈ t.rels, r.name ≠ n := by
  induction ts with
  | nil => intro t ht; cases ht
  | cons t ts ih =>
    simp only [relP] at h
    intro q hq e
    split at h
    · rw [Option.or_eq_none_iff] at h
      rcases List.mem_cons.1 hq with rfl | hq
      · exact relIn_none h.1
      · exact ih h.2 q hq e
    · rename_i hn
      rcases List.mem_cons.1 hq with rfl | hq
      · exact absurd (ba_beq.2 e) hn
      · exact ih h q hq e
theorem relP_row {rs : List TR} {ty n : ByteArray} {es : List Ex} (h : relP (tys rs) ty n = some es) : ∃ t ∈ rs, ∃ q ∈ t.rows, t.name = ty ∧ q.name = n ∧ exs q.rows = es := by
  obtain ⟨t, ht, r, hr, e1, e2, e3⟩ := relP_mem h
  obtain ⟨t', ht', rfl⟩ := List.mem_map.1 ht
  obtain ⟨q, hq, rfl⟩ := List.mem_map.1 hr
  exact ⟨t', ht', q, hq, e1, e2, e3⟩
/-- the table of a right schema -/
structure Tab (rs : List TR) (M : ByteArray × ByteArray → Option Value) : Prop where
  no : ∀ k, M k = none → relP (tys rs) k.1 k.2 = none
  yes : ∀ k v, M k = some v → ∃ t ∈ rs, ∃ q ∈ t.rows, k = (t.name, q.name) ∧ v = q.sl ∧ relP (tys rs) k.1 k.2 = some (exs q.rows) ∧ specE (exs q.rows) = true
theorem tab_of {rs : List TR} (h : shapeB (tys rs) = true) : Tab rs (tabM rs) where
  no k hk := by
    cases e : relP (tys rs) k.1 k.2 with
    | none => rfl
    | some es =>
      obtain ⟨t, ht, q, hq, e1, e2, -⟩ := relP_row e
      have := tabFrom_there (M := fun _ => none) (rs := rs) (k := k) (.inr ⟨t, ht, q, hq, by rw [e1, e2]⟩)
      unfold tabM at hk
      rw [hk] at this; cases this
  yes k v hk := by
    rcases tabFrom_some hk with h0 | ⟨t, ht, q, hq, e, ev⟩
    · cases h0
    have hSF := shape_facts h
    refine ⟨t, ht, q, hq, e, ev, ?_, (hSF.2.2 t ht q hq).1⟩
    cases e2 : relP (tys rs) k.1 k.2 with
    | none => exact (relP_none e2 t.p (List.mem_map_of_mem ht) (by rw [e]; rfl) q.p (List.mem_map_of_mem hq) (by rw [e]; rfl)).elim
    | some es =>
      obtain ⟨t', ht', q', hq', e3, e4, e5⟩ := relP_row e2
      have h1 : t' = t := typ_uniq h ht' ht (by rw [e3, e])
      subst h1
      obtain ⟨i, hi, rfl⟩ := List.mem_iff_getElem.1 ht
      have h2 : q' = q := rel_uniq (shape_typ h i hi).2.2 hq' hq (by rw [e4, e])
      subst h2
      rw [e5]
/-- in a right schema an expression that is found is not empty -/
theorem Tab.some_iff {rs : List TR} {M : ByteArray × ByteArray → Option Value} (h : Tab rs M) (k : ByteArray × ByteArray) : (M k).isSome = !(relOr (tys rs) k.1 k.2).isEmpty := by
  unfold relOr
  cases e : M k with
  | none => rw [h.no k e]; rfl
  | some v =>
    obtain ⟨t, ht, q, hq, -, -, e1, e2⟩ := h.yes k v e
    rw [e1]
    have := specE_few e2
    cases e3 : exs q.rows with
    | nil => rw [e3] at this; simp at this
    | cons x xs => rfl
end Go.Proofs.YtmghabcaakgjiaaGreat
