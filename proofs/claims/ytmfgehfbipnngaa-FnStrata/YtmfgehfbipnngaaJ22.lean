/- What leans on what, in the program's list and in the document's words: the same. -/
import Derived.Test.YtmfgehfbipnngaaJ21
import Derived.Test.YtmfgehfbipnngaaJ8
namespace Go.Proofs.Ytmfgehfbipnngaa
open Pl
theorem depsA_map (ng : Bool) (xs : List Al) : depsA ng xs = (leanA xs).map fun a => (⟨a.t, a.s, ng⟩ : Dp) := by
 induction xs with
 | nil => rfl
 | cons a xs ih => simp only [depsA, leanA]; split <;> simp [ih]
theorem deps_node (ts : List Ty) (typ : ByteArray) (ng : Bool) (e : Ex) (hn : nodeB e = true) (hd : e.kind = 3 → directP (relOr ts typ e.over) = true) : depsA ng e.allow ++ depsN ts typ ng e = (leanI ts typ e).map fun a => (⟨a.t, a.s, ng⟩ : Dp) := by
 by_cases h1 : e.kind = 1
 ·unfold depsN leanI
  rw [if_neg (by omega), if_neg (by omega), if_pos h1, List.append_nil, depsA_map]
 ·rw [nodeB_kind hn h1]
  unfold depsN leanI
  rw [if_neg h1]
  by_cases h2 : e.kind = 2
  ·rw [if_pos h2, if_pos h2]; rfl
  ·rw [if_neg h2, if_neg h2]
   by_cases h3 : e.kind = 3
   ·rw [if_pos h3, if_pos h3]
    unfold goalsI
    rw [if_pos (hd h3), List.map_map]
    rfl
   ·rw [if_neg h3, if_neg h3]; rfl
theorem depsUp_mk {ts : List Ty} {typ : ByteArray} {es : List Ex} {d : Dp} {i : Nat} (hd : d ∈ depsAt ts typ es i) : ∀ {k : Nat}, i < k → d ∈ depsUp ts typ es k
 | 0, h => by omega
 | k + 1, h => by
  simp only [depsUp]
  by_cases e : i = k
  ·subst e; exact List.mem_append.2 (.inr hd)
  ·exact List.mem_append.2 (.inl (depsUp_mk hd (by omega)))
theorem relE_mem {ts : List Ty} {t r : ByteArray} {es : List Ex} {x : Ky × St} : ∀ {k : Nat}, x ∈ relE ts t r es k ↔ ∃ i, i < k ∧ ∃ e, es[i]? = some e ∧ x ∈ nodeE ts t r ((negP es).getD i false) e
 | 0 => by simp [relE]
 | k + 1 => by
  simp only [relE, List.mem_append]
  rw [relE_mem]
  constructor
  ·rintro (⟨i, hi, h⟩ | h)
   ·exact ⟨i, by omega, h⟩
   ·cases e : es[k]? with
    | none => rw [e] at h; cases h
    | some y => rw [e] at h; exact ⟨k, by omega, y, e, h⟩
  ·rintro ⟨i, hi, e, he, h⟩
   by_cases ek : i = k
   ·subst ek; right; rw [he]; exact h
   ·exact .inl ⟨i, by omega, e, he, h⟩
theorem rel_row_of {rs : List TR} (h : shapeB (tys rs) = true) {t : TR} (ht : t ∈ rs) {q : RR} (hq : q ∈ t.rows) : relP (tys rs) t.name q.name = some (exs q.rows) := by
 have hT := tab_of h
 have hs := tabFrom_there (M := fun _ => none) (rs := rs) (k := (t.name, q.name)) (.inr ⟨t, ht, q, hq, rfl⟩)
 obtain ⟨v, hv⟩ := Option.isSome_iff_exists.1 hs
 obtain ⟨t', ht', q', hq', e, -, e2, -⟩ := hT.yes _ v hv
 injection e with e3 e4
 have h1 : t = t' := typ_uniq h ht ht' e3
 subst h1
 obtain ⟨i, hi, rfl⟩ := List.mem_iff_getElem.1 ht
 have h2 : q = q' := rel_uniq (shape_typ h i hi).2.2 hq hq' e4
 subst h2
 exact e2
theorem specE_nodes {es : List Ex} (h : specE es = true) : ∀ e ∈ es, nodeB e = true := by
 simp only [specE, Bool.and_eq_true] at h
 exact List.all_eq_true.1 h.1.1.1.2
theorem stepB_of (t r : ByteArray) (ng : Bool) : stepOf ⟨t, r, ng⟩ = stepB ng := by cases ng <;> rfl
theorem edge_of {rs : List TR} (h : shapeB (tys rs) = true) (hr : refsAll (tys rs) = true) : Edge (tys rs) (typsE (tys rs) rs) := by
 have hnode : ∀ t ∈ rs, ∀ q ∈ t.rows, ∀ e ∈ exs q.rows, nodeB e = true ∧ (e.kind = 3 → directP (relOr (tys rs) t.name e.over) = true) := by
  intro t ht q hq e he
  have h1 := ((shape_facts h).2.2 t ht q hq).1
  refine ⟨specE_nodes h1 e he, fun h3 => ?_⟩
  unfold refsAll at hr
  rw [List.all_eq_true] at hr
  have h2 := hr t.p (List.mem_map_of_mem ht)
  unfold refsT at h2
  rw [List.all_eq_true] at h2
  have h4 : refsP (tys rs) t.name (exs q.rows) = true := h2 q.p (List.mem_map_of_mem hq)
  have h5 := (refsP_all h4 e he).2
  unfold refN at h5
  rw [if_neg (by omega), if_pos h3, Bool.and_eq_true] at h5
  exact h5.1
 intro on t0 r0 s
 constructor
 ·intro hm
  unfold typsE relsE at hm
  rw [List.mem_flatMap] at hm
  obtain ⟨t, ht, hm⟩ := hm
  rw [List.mem_flatMap] at hm
  obtain ⟨q, hq, hm⟩ := hm
  obtain ⟨i, hi, e, he, hm⟩ := relE_mem.1 hm
  unfold nodeE at hm
  obtain ⟨a, ha, e1⟩ := List.mem_map.1 hm
  injection e1 with e2 e3
  injection e3 with e4 e5 e6
  subst e4; subst e5
  refine ⟨mem_ents.2 ⟨t.p, List.mem_map_of_mem ht, q.p, List.mem_map_of_mem hq, rfl⟩, ⟨a.t, a.s, (negP (exs q.rows)).getD i false⟩, ?_, e2, by rw [stepB_of]; exact e6⟩
  unfold depsK depsP
  have ero : relOr (tys rs) t.name q.name = exs q.rows := by unfold relOr; rw [rel_row_of h ht hq]; rfl
  simp only [ero]
  have hi2 : i < (exs q.rows).length := (List.getElem?_eq_some_iff.1 he).1
  refine depsUp_mk (i := i) ?_ hi2
  unfold depsAt
  rw [he]
  obtain ⟨n1, n2⟩ := hnode t ht q hq e (List.mem_of_getElem? he)
  simp only
  rw [deps_node _ _ _ _ n1 n2]
  exact List.mem_map_of_mem (f := fun a : Al => (⟨a.t, a.s, (negP (exs q.rows)).getD i false⟩ : Dp)) ha
 ·rintro ⟨hk, d, hd, e1, e2⟩
  obtain ⟨t', ht', r', hr', e3⟩ := mem_ents.1 hk
  obtain ⟨t, ht, rfl⟩ := List.mem_map.1 ht'
  obtain ⟨q, hq, rfl⟩ := List.mem_map.1 hr'
  injection e3 with e4 e5
  subst e4; subst e5
  unfold depsK depsP at hd
  have ero : relOr (tys rs) t.p.name q.p.name = exs q.rows := by
   have := rel_row_of h ht hq
   show relOr (tys rs) t.name q.name = _
   unfold relOr; rw [this]; rfl
  simp only [ero] at hd
  obtain ⟨i, hi, hd⟩ := depsUp_mem hd
  unfold depsAt at hd
  split at hd
  ·cases hd
  ·rename_i e he
   obtain ⟨n1, n2⟩ := hnode t ht q hq e (List.mem_of_getElem? he)
   have hdn : depsA ((negP (exs q.rows)).getD i false) e.allow ++ depsN (tys rs) t.p.name ((negP (exs q.rows)).getD i false) e = _ := deps_node (tys rs) t.name _ e n1 n2
   rw [hdn] at hd
   obtain ⟨a, ha, rfl⟩ := List.mem_map.1 hd
   unfold typsE relsE
   rw [List.mem_flatMap]
   refine ⟨t, ht, ?_⟩
   rw [List.mem_flatMap]
   refine ⟨q, hq, relE_mem.2 ⟨i, by rw [exs_len] at hi; exact hi, e, he, ?_⟩⟩
   unfold nodeE
   rw [List.mem_map]
   refine ⟨a, ha, ?_⟩
   rw [← e1, ← e2, stepB_of]
   rfl
theorem allow6 {rs : List TR} (h : shapeB (tys rs) = true) : ∀ r ∈ rs, ∀ q ∈ r.rows, ∀ e ∈ q.rows, e.e.allow.length ≤ 6 := by
 intro r hr q hq e he
 have h1 := specE_nodes ((shape_facts h).2.2 r hr q hq).1 e.e (by unfold exs; exact List.mem_map_of_mem he)
 by_cases h2 : e.e.kind = 1
 ·unfold nodeB at h1
  rw [if_pos h2] at h1
  simp only [Bool.and_eq_true, allowB, decide_eq_true_eq] at h1
  exact h1.1.1.1.1.2
 ·rw [nodeB_kind h1 h2]; simp
theorem flatMap_len {α β : Type} (f : α → List β) (B : Nat) : ∀ (xs : List α), (∀ x ∈ xs, (f x).length ≤ B) → (xs.flatMap f).length ≤ xs.length * B
 | [], _ => by simp
 | x :: xs, h => by
  rw [List.flatMap_cons, List.length_append, List.length_cons, Nat.succ_mul]
  have h1 := h x (by simp)
  have h2 := flatMap_len f B xs fun q hq => h q (by simp [hq])
  omega
theorem typsE_len (rs : List TR) (h6 : ∀ r ∈ rs, r.rows.length ≤ 6) (hex : ∀ r ∈ rs, ∀ q ∈ r.rows, specE (exs q.rows) = true ∧ q.rows.length ≤ 15 ∧ ∀ e ∈ q.rows, kidsRow q.rows.length e.e.kids) (h66 : ∀ r ∈ rs, ∀ q ∈ r.rows, ∀ e ∈ q.rows, e.e.allow.length ≤ 6) (hl : rs.length ≤ 6 := by omega) : (typsE (tys rs) rs).length ≤ 100000 := by
 have h1 : ∀ t ∈ rs, (relsE (tys rs) t.name t.rows).length ≤ 540 := by
  intro t ht
  have h2 : ∀ q ∈ t.rows, (relE (tys rs) t.name q.name (exs q.rows) q.rows.length).length ≤ 90 := by
   intro q hq
   have h3 : ∀ k, k ≤ q.rows.length → (relE (tys rs) t.name q.name (exs q.rows) k).length ≤ k * 6 := by
    intro k
    induction k with
    | zero => intro _; simp [relE]
    | succ k ih =>
     intro hk
     rw [relE_succ _ _ _ _ _ (by omega) _ rfl, List.length_append]
     have h4 := ih (by omega)
     have h5 : (nodeE (tys rs) t.name q.name ((negP (exs q.rows)).getD k false) q.rows[k].e).length ≤ 6 := by
      unfold nodeE
      rw [List.length_map]
      exact leanI_len rs h66 _ _ (h66 t ht q hq _ (List.getElem_mem (by omega)))
     omega
   have h4 := h3 q.rows.length (Nat.le_refl _)
   have h5 := (hex t ht q hq).2.1
   omega
  have h3 := flatMap_len (fun q : RR => relE (tys rs) t.name q.name (exs q.rows) q.rows.length) 90 t.rows h2
  have h4 := h6 t ht
  unfold relsE
  omega
 have h2 := flatMap_len (fun t : TR => relsE (tys rs) t.name t.rows) 540 rs h1
 unfold typsE
 omega
end Go.Proofs.Ytmfgehfbipnngaa
namespace Go.Proofs.Ytmfgehfbipnngaa
open Go.ChangeShapes Go.WideShapes Go.ChangeAt Go.RowKit
open Pl
theorem alEq_comm (x y : Al) : alEq x y = alEq y x := by
 unfold alEq
 rw [Bool.eq_iff_iff]
 simp only [Bool.and_eq_true, beq_iff_eq]
 exact ⟨fun h => ⟨h.1.symm, h.2.symm⟩, fun h => ⟨h.1.symm, h.2.symm⟩⟩
set_option maxHeartbeats 1000000 in
theorem index_any (ad : Option Addr) (n cap : Nat) (xs : List Al) (v : Al) (w : World) (hn : n ≤ xs.length) (hlen : xs.length ≤ 1048576) (hs : SlA w ad xs) :
  Calls Try.prog 114 #[.slice ad n cap, .agg #[.string v.t, .string v.s]] w fun e w' => (∃ r : Int, e = .returned (.int .i64 r) ∧ decide (0 ≤ r) = inPre xs n v) ∧ Below w.heap.size w w' := by
 obtain ⟨W, hW⟩ : ∃ W, W = w.alloc (.cells #[.string v.t, .string v.s] 44) := ⟨_, rfl⟩
 have HB0 : Hid (Below w.heap.size w W) := by show Below _ _ _; rw [hW]; exact (Below.refl w.heap.size w).alloc (Nat.le_refl _) _
 have hz : w.heap.size < W.heap.size := by rw [hW]; simp
 have b0 : W.cell? ⟨w.heap.size, 0, none⟩ = some (.string v.t) := by rw [hW]; simp
 have b1 : W.cell? ⟨w.heap.size, 1, none⟩ = some (.string v.s) := by rw [hW]; simp
 have HS : Hid (SlA W ad xs) := hs.below HB0.out
 clear hs
 go_enter Try.func114, Try.ntmps114
 go_wp2_with fail
 rw [← hW]
 clear hW
 go_loopw [8] (fun i wr => ∃ k : Nat, k ≤ n ∧ i = .int .i64 k ∧ Hid (inPre xs k v = false) ∧ Below W.heap.size W wr) (fun i _ => n - (intOf i).toNat)
 case atStart => exact ⟨0, Nat.zero_le _, rfl, inPre_zero _ _, Below.refl _ _⟩
 case round =>
  obtain ⟨k, hk, rfl, HP, hB⟩ := hrel
  have a0 := kept hB hz b0
  have a1 := kept hB hz b1
  by_cases hlt : k < n
  ·have hltx : k < xs.length := by omega
   rcases HS.out.below hB with rfl | ⟨b, off, rfl, hb, hr⟩
   ·simp at hltx
   obtain ⟨t0, t1⟩ := hr k hltx
   have hk1 : (0 : Int) ≤ (k : Int) := by omega
   have hk2 : (k : Int) < (n : Int) := by omega
   clear hr
   cases hq : alEq v xs[k] with
   | true =>
    have HE := al_eql v xs[k] hq
    have HN : Hid (inPre xs n v = true) := inPre_hit hlt hltx (by rw [alEq_comm]; exact hq)
    go_wp2_with fail
    go_quiet (fail)
    go_wp2
    go_ret
    exact ⟨⟨_, rfl, by rw [HN.out]; simp⟩, HB0.out.trans (below_drewN (hB.mono HB0.out.size) _)⟩
   | false =>
    have HE := al_eql v xs[k] hq
    have HP2 : Hid (inPre xs (k + 1) v = false) := by show _ = _; rw [inPre_succ _ _ _ hltx, HP.out, alEq_comm, hq]; rfl
    go_wp2_with fail
    go_quiet (fail)
    go_wp2
    go_roundw
    case rel => exact ⟨k + 1, by omega, by go_num, HP2, below_drewN hB _⟩
    case measure => first | (simp [intOf]; done) | (simp [intOf]; omega)
  ·obtain rfl : k = n := by omega
   go_wp2
   go_ret
   exact ⟨⟨-1, rfl, by rw [HP.out]; rfl⟩, HB0.out.trans (hB.mono HB0.out.size)⟩
theorem contains_any (ad : Option Addr) (n cap : Nat) (xs : List Al) (v : Al) (w : World) (hn : n ≤ xs.length) (hlen : xs.length ≤ 1048576) (hs : SlA w ad xs) :
  Calls Try.prog 82 #[.slice ad n cap, .agg #[.string v.t, .string v.s]] w fun e w' => e = .returned (.bool (inPre xs n v)) ∧ Below w.heap.size w w' := by
 have HB0 : Hid (Below w.heap.size w (w.alloc (.cells #[.string v.t, .string v.s] 44))) := (Below.refl w.heap.size w).alloc (Nat.le_refl _) _
 have HS : Hid (SlA w ad xs) := hs
 clear hs
 go_enter Try.func82, Try.ntmps82
 go_wp2_with fail
 refine (index_any ad n cap xs v _ hn hlen (HS.out.below HB0.out)).mono ?_
 rintro e w1 ⟨⟨r, rfl, hr⟩, hb1⟩
 have HR : Hid (decide (0 ≤ r) = inPre xs n v) := hr
 have HB1 : Hid (Below w.heap.size w w1) := HB0.out.trans (hb1.mono HB0.out.size)
 clear hr hb1
 go_wp2
 go_ret
 exact ⟨ret_bool HR.out, HB1.out⟩
set_option maxRecDepth 8000 in
set_option maxHeartbeats 4000000 in
theorem nodeOk_plain (r : ER) (w : World) (hf : r.e.fits) (h1 : r.e.kind ≠ 1) :
  Calls Try.prog 122 #[r.val] w fun e w' => e = .returned (.bool (nodeB r.e)) ∧ Below w.heap.size w w' := by
 obtain ⟨⟨kind, allow, over, name, kids⟩, adA, capA, adK, capK⟩ := r
 obtain ⟨f1, f2, f3, f4, f5⟩ := hf
 simp only at f1 f2 f3 f4 f5 h1
 simp only [ER.val]
 unfold maxLen at f4 f5
 by_cases h2 : kind = 2
 ·subst h2
  clear h1
  go_enter Try.func122, Try.ntmps122
  go_wp2_with fail
  go_quiet (fail)
  go_wp2_with (go_at_call 80; refine (implName_any _ _ (by assumption)).mono ?_; rintro e w' ⟨rfl, rfl⟩)
  all_goals go_ret
  all_goals exact ⟨ret_bool (by first | (simp [nodeB, *]; done) | (simp [nodeB, *]; omega) | (simp [nodeB, *]; rw [Bool.eq_iff_iff]; simp; done) | (simp [nodeB, *]; rw [Bool.eq_iff_iff]; simp; omega)), below_drewN ((Below.refl w.heap.size w).alloc (Nat.le_refl _) _) _⟩
 by_cases h3 : kind = 3
 ·subst h3
  clear h1
  go_enter Try.func122, Try.ntmps122
  go_wp2_with fail
  go_quiet (fail)
  go_wp2_with (go_at_call 80; refine (implName_any _ _ (by assumption)).mono ?_; rintro e w' ⟨rfl, rfl⟩)
  all_goals go_ret
  all_goals exact ⟨ret_bool (by first | (simp [nodeB, *]; done) | (simp [nodeB, *]; omega) | (simp [nodeB, *]; rw [Bool.eq_iff_iff]; simp; done) | (simp [nodeB, *]; rw [Bool.eq_iff_iff]; simp; omega)), below_drewN ((Below.refl w.heap.size w).alloc (Nat.le_refl _) _) _⟩
 by_cases h4 : kind = 4
 ·subst h4
  clear h1
  go_enter Try.func122, Try.ntmps122
  go_wp2_with fail
  go_quiet (fail)
  go_wp2_with (go_at_call 80; refine (implName_any _ _ (by assumption)).mono ?_; rintro e w' ⟨rfl, rfl⟩)
  all_goals go_ret
  all_goals exact ⟨ret_bool (by first | (simp [nodeB, *]; done) | (simp [nodeB, *]; omega) | (simp [nodeB, *]; rw [Bool.eq_iff_iff]; simp; done) | (simp [nodeB, *]; rw [Bool.eq_iff_iff]; simp; omega)), below_drewN ((Below.refl w.heap.size w).alloc (Nat.le_refl _) _) _⟩
 by_cases h5 : kind = 5
 ·subst h5
  clear h1
  go_enter Try.func122, Try.ntmps122
  go_wp2_with fail
  go_quiet (fail)
  go_wp2_with (go_at_call 80; refine (implName_any _ _ (by assumption)).mono ?_; rintro e w' ⟨rfl, rfl⟩)
  all_goals go_ret
  all_goals exact ⟨ret_bool (by first | (simp [nodeB, *]; done) | (simp [nodeB, *]; omega) | (simp [nodeB, *]; rw [Bool.eq_iff_iff]; simp; done) | (simp [nodeB, *]; rw [Bool.eq_iff_iff]; simp; omega)), below_drewN ((Below.refl w.heap.size w).alloc (Nat.le_refl _) _) _⟩
 by_cases h6 : kind = 6
 ·subst h6
  clear h1
  go_enter Try.func122, Try.ntmps122
  go_wp2_with fail
  go_quiet (fail)
  go_wp2_with (go_at_call 80; refine (implName_any _ _ (by assumption)).mono ?_; rintro e w' ⟨rfl, rfl⟩)
  all_goals go_ret
  all_goals exact ⟨ret_bool (by first | (simp [nodeB, *]; done) | (simp [nodeB, *]; omega) | (simp [nodeB, *]; rw [Bool.eq_iff_iff]; simp; done) | (simp [nodeB, *]; rw [Bool.eq_iff_iff]; simp; omega)), below_drewN ((Below.refl w.heap.size w).alloc (Nat.le_refl _) _) _⟩
 ·go_enter Try.func122, Try.ntmps122
  go_wp2_with fail
  go_quiet (fail)
  go_wp2_with (go_at_call 80; refine (implName_any _ _ (by assumption)).mono ?_; rintro e w' ⟨rfl, rfl⟩)
  all_goals go_ret
  all_goals exact ⟨ret_bool (by first | (simp [nodeB, *]; done) | (simp [nodeB, *]; omega) | (simp [nodeB, *]; rw [Bool.eq_iff_iff]; simp; done) | (simp [nodeB, *]; rw [Bool.eq_iff_iff]; simp; omega)), below_drewN ((Below.refl w.heap.size w).alloc (Nat.le_refl _) _) _⟩
end Go.Proofs.Ytmfgehfbipnngaa
