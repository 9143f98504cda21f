/- Renaming, in plain words: a node with another name, and when a node would mean another thing, by the document and by the program. -/
import Derived.Test.YtmghabcaakgjiaaGreatJ11
import Derived.Test.YtmghabcaakgjiaaGreatJ13
import Derived.Test.YtmghabcaakgjiaaGreatJ12
namespace Go.Proofs.YtmghabcaakgjiaaGreat
set_option linter.unusedVariables false
open Pl
def renA (typ frm to : ByteArray) (a : Al) : Al := if a.t.toList == typ.toList && a.s.toList == frm.toList then ⟨a.t, to⟩ else a
def renN (typ frm to tn n : ByteArray) : ByteArray := if tn.toList == typ.toList && n.toList == frm.toList then to else n
def isGoal (ts : List Ty) (typ tn : ByteArray) (x : Ex) : Bool := (goalsP ts tn x.over x.name).any fun g => g.toList == typ.toList
def renX (ts : List Ty) (typ frm to tn : ByteArray) (x : Ex) : Ex :=
 if x.kind = 1 then { x with allow := x.allow.map (renA typ frm to) }
 else if x.kind = 2 then { x with name := renN typ frm to tn x.name }
 else if x.kind = 3 then { x with over := renN typ frm to tn x.over, name := if isGoal ts typ tn x && x.name.toList == frm.toList then to else x.name }
 else x
def renY (ts : List Ty) (typ frm to tn : ByteArray) (x : Ex) : Ex :=
 { x with
  allow := x.allow.map (renA typ frm to)
  name := if x.kind = 2 then renN typ frm to tn x.name else if x.kind = 3 then (if x.name.toList == frm.toList && isGoal ts typ tn x then to else x.name) else x.name
  over := if x.kind = 3 then renN typ frm to tn x.over else x.over }
theorem renY_is {ts : List Ty} {typ frm to tn : ByteArray} {x : Ex} (h : nodeB x = true) : renY ts typ frm to tn x = renX ts typ frm to tn x := by
 have ha : x.kind ≠ 1 → x.allow = [] := by
  intro hk
  unfold nodeB at h
  rw [if_neg hk] at h
  repeat' split at h
  all_goals first | (simp only [Bool.and_eq_true, decide_eq_true_eq] at h; exact List.length_eq_zero_iff.1 (by first | exact h.1.1.2 | exact h.1.2 | exact h.1.1.1.2)) | cases h
 unfold renY renX
 by_cases h1 : x.kind = 1
 ·simp [h1]
 ·have ha := ha h1
  by_cases h2 : x.kind = 2
  ·simp [h2, ha]
  ·by_cases h3 : x.kind = 3
   ·simp [h3, ha, Bool.and_comm]
   ·rcases x with ⟨k, al, ov, nm, kd⟩
    simp only at h1 h2 h3 ha
    subst ha
    simp [h1, h2, h3]
theorem renX_kids (ts : List Ty) (typ frm to tn : ByteArray) (x : Ex) : (renX ts typ frm to tn x).kids = x.kids := by
 unfold renX; repeat' split
 all_goals rfl
theorem renX_kind (ts : List Ty) (typ frm to tn : ByteArray) (x : Ex) : (renX ts typ frm to tn x).kind = x.kind := by
 unfold renX; repeat' split
 all_goals rfl
theorem nodeB_low {x : Ex} (h : nodeB x = true) (hk : x.kids ≠ []) : x.kind ≠ 1 ∧ x.kind ≠ 2 ∧ x.kind ≠ 3 := by
 refine ⟨fun e => hk ?_, fun e => hk ?_, fun e => hk ?_⟩ <;>
 ·unfold nodeB at h
  simp [e] at h
  exact h.2
theorem ren_one {ts : List Ty} {typ frm to tn : ByteArray} {es : List Ex} (h : specE es = true) : chgE (fun x => [renX ts typ frm to tn x]) es = es.map (renX ts typ frm to tn) := by
 refine chgE_one (kidsLow_of h) fun e he => ⟨fun hk => ⟨rfl, by rw [renX_kids]; exact hk⟩, fun hk => ?_⟩
 have hn : nodeB e = true := by
  unfold specE at h
  simp only [Bool.and_eq_true] at h
  exact List.all_eq_true.1 h.1.1.1.2 e he
 obtain ⟨h1, h2, h3⟩ := nodeB_low hn hk
 unfold renX
 rw [if_neg h1, if_neg h2, if_neg h3]
def mixD (ts : List Ty) (typ frm to tn : ByteArray) (x : Ex) : Bool :=
 (x.name.toList == to.toList && (allowP (relOr ts tn x.over)).any fun a => a.t.toList == typ.toList) || (x.name.toList == frm.toList && isGoal ts typ tn x && decide (1 < (goalsP ts tn x.over x.name).length + (goalsP ts tn x.over to).length))
def hasB (ts : List Ty) (t r : ByteArray) : Bool := !(relOr ts t r).isEmpty
def mixI (ts : List Ty) (typ frm to tn : ByteArray) (x : Ex) : Bool :=
 (allowP (relOr ts tn x.over)).any (fun a => a.t.toList == typ.toList && a.s.toList.isEmpty) && (x.name.toList == to.toList || (x.name.toList == frm.toList && (allowP (relOr ts tn x.over)).any fun a => !(a.t.toList == typ.toList) && (hasB ts a.t frm || hasB ts a.t to)))
def DisA (xs : List Al) : Prop := xs.Pairwise fun a b => a.t.toList ≠ b.t.toList
theorem gl_none {ts : List Ty} {typ frm to : ByteArray} : ∀ {xs : List Al}, (∀ a ∈ xs, a.t.toList ≠ typ.toList) → decide (0 < (gl ts frm xs).length + (gl ts to xs).length) = xs.any fun a => !(a.t.toList == typ.toList) && (hasB ts a.t frm || hasB ts a.t to)
 | [], _ => by simp [gl]
 | a :: xs, h => by
  have ih := gl_none (ts := ts) (typ := typ) (frm := frm) (to := to) (xs := xs) fun b hb => h b (List.mem_cons_of_mem _ hb)
  have h0 : (a.t.toList == typ.toList) = false := by simpa using h a (List.mem_cons_self ..)
  rw [List.any_cons, ← ih]
  cases h1 : (relOr ts a.t frm).isEmpty <;> cases h2 : (relOr ts a.t to).isEmpty <;> simp [gl, hasB, h0, h1, h2] <;> omega
theorem gl_has {ts : List Ty} {typ frm : ByteArray} (hf : relOr ts typ frm ≠ []) (hx : ∀ t : ByteArray, t.toList = typ.toList → t = typ) : ∀ {xs : List Al}, (gl ts frm xs).any (fun g => g.toList == typ.toList) = xs.any fun a => a.t.toList == typ.toList
 | [] => rfl
 | a :: xs => by
  have ih := gl_has (ts := ts) (frm := frm) hf hx (xs := xs)
  rw [List.any_cons, ← ih]
  cases h0 : (a.t.toList == typ.toList) with
  | true =>
   have e := hx a.t (by simpa using h0)
   have : (relOr ts a.t frm).isEmpty = false := by rw [e]; simpa using hf
   simp [gl, this, h0]
  | false => cases h1 : (relOr ts a.t frm).isEmpty <;> simp [gl, h1, h0]
theorem gl_some {ts : List Ty} {typ frm to : ByteArray} (hf : relOr ts typ frm ≠ []) (ht : relOr ts typ to = []) (hx : ∀ t : ByteArray, t.toList = typ.toList → t = typ) : ∀ {xs : List Al}, DisA xs → (xs.any fun a => a.t.toList == typ.toList) = true →
  decide (1 < (gl ts frm xs).length + (gl ts to xs).length) = xs.any fun a => !(a.t.toList == typ.toList) && (hasB ts a.t frm || hasB ts a.t to)
 | [], _, h => by cases h
 | a :: xs, hd, h => by
  obtain ⟨h1, h2⟩ := List.pairwise_cons.1 hd
  cases h0 : (a.t.toList == typ.toList) with
  | true =>
   have e := hx a.t (by simpa using h0)
   have n1 : (relOr ts a.t frm).isEmpty = false := by rw [e]; simpa using hf
   have n2 : (relOr ts a.t to).isEmpty = true := by rw [e, ht]; rfl
   have := gl_none (ts := ts) (typ := typ) (frm := frm) (to := to) (xs := xs) fun b hb he => h1 b hb (by rw [e]; exact he.symm)
   rw [List.any_cons, ← this]
   simp only [gl, n1, n2, h0]
   simp
   omega
  | false =>
   have hm : (xs.any fun a => a.t.toList == typ.toList) = true := by simpa [h0] using h
   have ih := gl_some (ts := ts) (typ := typ) (frm := frm) (to := to) hf ht hx h2 hm
   have hpos : 0 < (gl ts frm xs).length := by
    have := gl_has (ts := ts) hf hx (xs := xs)
    rw [hm] at this
    cases e : gl ts frm xs with
    | nil => rw [e] at this; cases this
    | cons => simp
   rw [List.any_cons, ← ih]
   cases n1 : (relOr ts a.t frm).isEmpty <;> cases n2 : (relOr ts a.t to).isEmpty <;> simp [gl, hasB, h0, n1, n2] <;> omega
theorem mix_same {ts : List Ty} {typ frm to tn : ByteArray} {x : Ex} (hf : relOr ts typ frm ≠ []) (ht : relOr ts typ to = []) (hx : ∀ t u : ByteArray, t.toList = u.toList → t = u) (hdir : ∀ a ∈ allowP (relOr ts tn x.over), a.s.toList.isEmpty = true) (hd : DisA (allowP (relOr ts tn x.over))) : mixD ts typ frm to tn x = mixI ts typ frm to tn x := by
 have e0 : ((allowP (relOr ts tn x.over)).any fun a => a.t.toList == typ.toList && a.s.toList.isEmpty) = (allowP (relOr ts tn x.over)).any fun a => a.t.toList == typ.toList := by
  rw [Bool.eq_iff_iff, List.any_eq_true, List.any_eq_true]
  constructor
  ·rintro ⟨a, ha, h⟩; exact ⟨a, ha, (Bool.and_eq_true _ _ ▸ h).1⟩
  ·rintro ⟨a, ha, h⟩; exact ⟨a, ha, by rw [h, hdir a ha]; rfl⟩
 unfold mixD mixI
 rw [e0]
 cases hn : (x.name.toList == frm.toList) with
 | false => simp [Bool.and_comm]
 | true =>
  have en : x.name = frm := hx _ _ (by simpa using hn)
  have eg : isGoal ts typ tn x = (allowP (relOr ts tn x.over)).any fun a => a.t.toList == typ.toList := by
   unfold isGoal goalsP; rw [en]; exact gl_has hf fun t h => hx t typ h
  rw [eg]
  cases hm : ((allowP (relOr ts tn x.over)).any fun a => a.t.toList == typ.toList) with
  | false => simp
  | true =>
   have := gl_some (ts := ts) (typ := typ) (frm := frm) (to := to) hf ht (fun t h => hx t typ h) hd hm
   unfold goalsP
   rw [en, this]
   simp
end Go.Proofs.YtmghabcaakgjiaaGreat
namespace Go.Proofs.YtmghabcaakgjiaaGreat
set_option linter.unusedVariables false
open Pl
theorem shape_expr {ts : List Ty} (h : shapeB ts = true) {t : Ty} (ht : t ∈ ts) {r : Rl} (hr : r ∈ t.rels) : nameB r.name = true ∧ specE r.expr = true := by
 unfold shapeB at h
 simp only [Bool.and_eq_true] at h
 obtain ⟨j, hj, rfl⟩ := List.getElem_of_mem ht
 have h1 := typsUp_all h.2 j hj
 unfold typAt at h1
 rw [List.getElem?_eq_getElem hj] at h1
 simp only [Bool.and_eq_true] at h1
 obtain ⟨k, hk, rfl⟩ := List.getElem_of_mem hr
 have h2 := relsUp_all h1.2 k hk
 unfold relAt at h2
 rw [List.getElem?_eq_getElem hk] at h2
 simp only [Bool.and_eq_true] at h2
 exact ⟨h2.1.1, h2.2⟩
theorem renE_node {es : List Ex} (h : specE es = true) {e : Ex} (he : e ∈ es) : nodeB e = true := by
 unfold specE at h
 simp only [Bool.and_eq_true] at h
 exact List.all_eq_true.1 h.1.1.1.2 e he
theorem dis_of {xs : List Al} (h : allowB xs = true) (hs : ∀ a ∈ xs, a.s.toList.isEmpty = true) : DisA xs := by
 unfold allowB at h
 simp only [Bool.and_eq_true] at h
 have hu := h.2
 rw [DisA, List.pairwise_iff_getElem]
 intro i j hi hj hij he
 cases hb : (alB xs[j] && !inPre xs j xs[j]) with
 | false => rw [upA_bad xs j hj hb _ hj] at hu; cases hu
 | true =>
  simp only [Bool.and_eq_true, Bool.not_eq_true'] at hb
  have hn := hb.2
  unfold inPre at hn
  rw [List.any_eq_false] at hn
  refine hn xs[i] (List.mem_take_iff_getElem.2 ⟨i, by omega, rfl⟩) ?_
  have e1 : xs[i].s.toList = [] := List.isEmpty_iff.1 (hs _ (List.getElem_mem _))
  have e2 : xs[j].s.toList = [] := List.isEmpty_iff.1 (hs _ (List.getElem_mem _))
  unfold alEq
  rw [he, e1, e2]; simp
theorem direct_allow {ts : List Ty} (h : shapeB ts = true) {ty n : ByteArray} (hd : directP (relOr ts ty n) = true) : (∀ a ∈ allowP (relOr ts ty n), a.s.toList.isEmpty = true) ∧ DisA (allowP (relOr ts ty n)) := by
 cases hp : relP ts ty n with
 | none => rw [relOr, hp] at hd; simp [directP] at hd
 | some es =>
  have eo : relOr ts ty n = es := by rw [relOr, hp]; rfl
  rw [eo] at hd ⊢
  obtain ⟨t, ht, r, hr, -, -, rfl⟩ := relP_mem hp
  have hsp := (shape_expr h ht hr).2
  rcases hes : r.expr with _ | ⟨e, _ | ⟨e2, es⟩⟩
  ·rw [hes] at hd; simp [directP] at hd
  ·rw [hes] at hd hsp
   simp only [directP, Bool.and_eq_true, decide_eq_true_eq] at hd
   have hn := renE_node hsp (List.mem_singleton.2 rfl)
   unfold nodeB at hn
   rw [if_pos hd.1] at hn
   simp only [Bool.and_eq_true] at hn
   have ea : allowP [e] = e.allow := by simp [allowP, hd.1]
   rw [ea]
   exact ⟨List.all_eq_true.1 hd.2, dis_of hn.1.1.1 (List.all_eq_true.1 hd.2)⟩
  ·rw [hes] at hd; simp [directP] at hd
def renR (ts : List Ty) (typ frm to tn : ByteArray) (r : Rl) : Rl := ⟨renN typ frm to tn r.name, r.expr.map (renX ts typ frm to tn)⟩
def renT (ts : List Ty) (typ frm to : ByteArray) (t : Ty) : Ty := ⟨t.name, sortR (t.rels.map (renR ts typ frm to t.name))⟩
def renS (ts : List Ty) (typ frm to : ByteArray) : List Ty := ts.map (renT ts typ frm to)
def mixS' (ts : List Ty) (typ frm to : ByteArray) : Bool := ts.any fun t => t.rels.any fun r => r.expr.any fun x => decide (x.kind = 3) && mixI ts typ frm to t.name x
def renD (ts : List Ty) (typ frm to : ByteArray) : Option (List Ty) := if schemaD ts && hasB ts typ frm && nameB to && !hasB ts typ to && !mixS' ts typ frm to then some (renS ts typ frm to) else none
theorem rels_up {rs : List Rl} (h : relsUp rs rs.length = true) : UpR rs := by
 have hs : ∀ i, (hi : i + 1 < rs.length) → lessB rs[i].name rs[i + 1].name = true := by
  intro i hi
  have h2 := relsUp_all h (i + 1) hi
  unfold relAt at h2
  rw [List.getElem?_eq_getElem hi] at h2
  simp only [Bool.and_eq_true] at h2
  have := h2.1.2
  rw [List.getElem?_eq_getElem (by omega)] at this
  simpa using this
 have hl : ∀ d i, (hi : i + d + 1 < rs.length) → lessB rs[i].name rs[i + d + 1].name = true := by
  intro d
  induction d with
  | zero => intro i hi; exact hs i hi
  | succ d ih => intro i hi; exact Ls.lt_trans _ _ _ (ih i (by omega)) (hs (i + d + 1) hi)
 rw [UpR, List.pairwise_iff_getElem]
 intro i j hi hj hij
 obtain ⟨d, rfl⟩ : ∃ d, j = i + d + 1 := ⟨j - i - 1, by omega⟩
 exact hl d i hj
theorem shape_up {ts : List Ty} (h : shapeB ts = true) {t : Ty} (ht : t ∈ ts) : UpR t.rels := by
 unfold shapeB at h
 simp only [Bool.and_eq_true] at h
 obtain ⟨j, hj, rfl⟩ := List.getElem_of_mem ht
 have h1 := typsUp_all h.2 j hj
 unfold typAt at h1
 rw [List.getElem?_eq_getElem hj] at h1
 simp only [Bool.and_eq_true] at h1
 exact rels_up h1.2
theorem renT_other {ts : List Ty} {typ frm to : ByteArray} {t : Ty} (hu : UpR t.rels) (hn : (t.name.toList == typ.toList) = false) : renT ts typ frm to t = ⟨t.name, t.rels.map (renR ts typ frm to t.name)⟩ := by
 unfold renT
 rw [sortR_same]
 refine List.pairwise_map.2 (hu.imp fun {a b} h => ?_)
 simpa [renR, renN, hn] using h
end Go.Proofs.YtmghabcaakgjiaaGreat
namespace Go.Proofs.YtmghabcaakgjiaaGreat
set_option linter.unusedVariables false
open Pl
theorem kidsAt_map {g : Ex → Ex} (hg : ∀ e, (g e).kids = e.kids) (es : List Ex) (n : Nat) : kidsAt (es.map g) n = kidsAt es n := by
 unfold kidsAt
 rw [List.getElem?_map, Option.map_map]
 cases es[n]? <;> simp [hg]
theorem treeAt_map {g : Ex → Ex} (hg : ∀ e, (g e).kids = e.kids) (es : List Ex) (n : Nat) : treeAt (es.map g) n = treeAt es n := by
 induction n using Nat.strongRecOn with
 | ind n ih =>
  rw [treeAt_eq, treeAt_eq, kidsAt_map hg]
  have : treeF (es.map g) n = treeF es n := by
   funext x
   unfold treeF
   split
   ·rename_i h; exact ih _ h.2
   ·rfl
  rw [this]
theorem specE_map {g : Ex → Ex} (hg : ∀ e, (g e).kids = e.kids) (hk : ∀ e, (g e).kind = e.kind) {es : List Ex} (h : specE es = true) (hn : ∀ e ∈ es, nodeB (g e) = true) : specE (es.map g) = true := by
 unfold specE at h ⊢
 simp only [Bool.and_eq_true] at h ⊢
 obtain ⟨⟨⟨⟨⟨h1, h2⟩, h3⟩, h4⟩, h5⟩, h6⟩ := h
 rw [List.length_map, treeAt_map hg]
 refine ⟨⟨⟨⟨⟨h1, h2⟩, ?_⟩, ?_⟩, ?_⟩, h6⟩
 ·rw [List.all_eq_true]; intro e he; obtain ⟨x, hx, rfl⟩ := List.mem_map.1 he; exact hn x hx
 ·unfold kidsUp at h4 ⊢
  have : kidsIn (es.map g) = kidsIn es := by funext i; unfold kidsIn; rw [kidsAt_map hg]
  rw [this]; exact h4
 ·have : own (es.map g) = own es := by
   unfold own
   rw [List.filter_map, List.length_map]
   have : ((fun e : Ex => decide (e.kind = 1)) ∘ g) = fun e : Ex => decide (e.kind = 1) := by funext e; simp [hk]
   rw [this]
  rw [this]; exact h5
theorem upA_map {g : Al → Al} {xs : List Al} (h1 : ∀ a ∈ xs, alB a = true → alB (g a) = true) (h2 : ∀ a ∈ xs, ∀ b ∈ xs, alEq (g a) (g b) = true → alEq a b = true) : ∀ n, n ≤ xs.length → upA xs n = true → upA (xs.map g) n = true
 | 0, _, _ => rfl
 | n + 1, hn, h => by
  rw [upA_succ _ _ (by omega)] at h
  simp only [Bool.and_eq_true, Bool.not_eq_true'] at h
  rw [upA_succ _ _ (by rw [List.length_map]; omega), upA_map h1 h2 n (by omega) h.1, List.getElem_map]
  simp only [Bool.and_eq_true, Bool.not_eq_true', Bool.true_and]
  refine ⟨h1 _ (List.getElem_mem _) h.2.1, ?_⟩
  have hi := h.2.2
  unfold inPre at hi ⊢
  rw [← List.map_take, List.any_map, List.any_eq_false]
  rw [List.any_eq_false] at hi
  intro x hx he
  exact hi x hx (h2 x (List.mem_of_mem_take hx) _ (List.getElem_mem _) he)
theorem allowB_ren {ts : List Ty} {typ frm to : ByteArray} (hto : nameB to = true) (hne : to.toList ≠ []) (ht : relOr ts typ to = []) (hs : setB' to = true) {xs : List Al} (h : allowB xs = true) (hr : refA ts xs = true) : allowB (xs.map (renA typ frm to)) = true := by
 unfold allowB at h ⊢
 simp only [Bool.and_eq_true] at h ⊢
 rw [List.length_map]
 have hno : ∀ b ∈ xs, b.t.toList = typ.toList → b.s.toList = to.toList → False := by
  intro b hb e1 e2
  have := List.all_eq_true.1 hr b hb
  unfold alRef at this
  rw [show b.t = typ from ba_ext e1, show b.s = to from ba_ext e2, ht] at this
  simp only [Bool.and_eq_true, Bool.or_eq_true, List.isEmpty_nil, Bool.not_true] at this
  rcases this.2 with h | h
  ·exact hne (List.isEmpty_iff.1 h)
  ·cases h
 refine ⟨h.1, upA_map (fun a ha hb => ?_) (fun a ha b hb he => ?_) _ (Nat.le_refl _) h.2⟩
 ·unfold renA
  split
  ·unfold alB at hb ⊢
   simp only [Bool.and_eq_true] at hb ⊢
   exact ⟨hb.1, hs⟩
  ·exact hb
 ·unfold renA at he
  split at he <;> split at he <;> rename_i c1 c2 <;> unfold alEq at he ⊢ <;> simp only [Bool.and_eq_true, beq_iff_eq] at he c1 c2 ⊢
  ·exact ⟨c1.1.trans c2.1.symm, c1.2.trans c2.2.symm⟩
  ·exact (hno b hb (he.1.symm.trans c1.1) he.2.symm).elim
  ·exact (hno a ha (he.1.trans c2.1) he.2).elim
  ·exact he
theorem nodeB_ren {ts : List Ty} {typ frm to tn : ByteArray} (hto : nameB to = true) (hne : to.toList ≠ []) (ht : relOr ts typ to = []) (hs : setB' to = true) {x : Ex} (h : nodeB x = true) (hr : refA ts x.allow = true) : nodeB (renX ts typ frm to tn x) = true := by
 unfold renX
 split
 ·rename_i hk
  unfold nodeB at h ⊢
  simp only [hk, if_true, Bool.and_eq_true] at h ⊢
  exact ⟨⟨⟨allowB_ren hto hne ht hs h.1.1.1 hr, h.1.1.2⟩, h.1.2⟩, h.2⟩
 ·split
  ·rename_i h1 hk
   unfold nodeB at h ⊢
   simp [hk] at h ⊢
   unfold renN
   split
   ·exact ⟨⟨⟨hto, h.1.1.2⟩, h.1.2⟩, h.2⟩
   ·exact h
  ·split
   ·rename_i h1 h2 hk
    unfold nodeB at h ⊢
    simp [hk] at h ⊢
    refine ⟨⟨⟨?_, ?_⟩, h.1.2⟩, h.2⟩
    ·unfold renN
     split
     ·exact hto
     ·exact h.1.1.1
    ·split
     ·exact hto
     ·exact h.1.1.2
   ·exact h
end Go.Proofs.YtmghabcaakgjiaaGreat
namespace Go.Proofs.YtmghabcaakgjiaaGreat
set_option linter.unusedVariables false
open Pl
theorem nameB_some {s : ByteArray} (h : nameB s = true) : s.toList ≠ [] := by
 intro e
 unfold nameB signsB lenB at h
 simp only [Bool.and_eq_true, decide_eq_true_eq] at h
 have hz := h.1.1.1
 rw [ByteArray.toList_eq] at e
 have h0 : s.data.toList.length = 0 := by rw [e]; rfl
 rw [Array.length_toList] at h0
 have : s.size = s.data.size := rfl
 omega
theorem refsP_each {ts : List Ty} {typ : ByteArray} : ∀ {es : List Ex}, refsP ts typ es = true → ∀ e ∈ es, refA ts e.allow = true ∧ refN ts typ e = true
 | [], _, e, he => by cases he
 | x :: es, h, e, he => by
  unfold refsP at h
  split at h
  ·rename_i hc
   simp only [Bool.and_eq_true] at hc
   rcases List.mem_cons.1 he with rfl | he
   ·exact hc
   ·exact refsP_each h e he
  ·cases h
theorem refs_at {ts : List Ty} (h : refsAll ts = true) {t : Ty} (ht : t ∈ ts) {r : Rl} (hr : r ∈ t.rels) {e : Ex} (he : e ∈ r.expr) : refA ts e.allow = true ∧ refN ts t.name e = true := by
 have h1 := List.all_eq_true.1 h t ht
 have h2 := List.all_eq_true.1 h1 r hr
 exact refsP_each h2 e he
theorem mix_at {ts : List Ty} {typ frm to : ByteArray} (hsh : shapeB ts = true) (hrf : refsAll ts = true) (hf : relOr ts typ frm ≠ []) (ht : relOr ts typ to = []) {t : Ty} (htm : t ∈ ts) {r : Rl} (hr : r ∈ t.rels) {x : Ex} (hx : x ∈ r.expr) (hk : x.kind = 3) : mixD ts typ frm to t.name x = mixI ts typ frm to t.name x := by
 have hn := (refs_at hrf htm hr hx).2
 unfold refN at hn
 rw [if_neg (by rw [hk]; decide), if_pos hk] at hn
 simp only [Bool.and_eq_true] at hn
 obtain ⟨h1, h2⟩ := direct_allow hsh hn.1
 exact mix_same hf ht (fun _ _ => ba_ext) h1 h2
theorem rels_of {rs : List Rl} (hu : UpR rs) (hr : ∀ r ∈ rs, nameB r.name = true ∧ specE r.expr = true) : ∀ n, n ≤ rs.length → relsUp rs n = true
 | 0, _ => rfl
 | n + 1, hn => by
  have h1 := hr rs[n] (List.getElem_mem _)
  simp only [relsUp, Bool.and_eq_true]
  refine ⟨rels_of hu hr n (by omega), ?_⟩
  unfold relAt
  rw [List.getElem?_eq_getElem (by omega)]
  simp only [Bool.and_eq_true]
  refine ⟨⟨h1.1, ?_⟩, h1.2⟩
  cases n with
  | zero => rfl
  | succ i =>
   simp only
   rw [List.getElem?_eq_getElem (by omega)]
   exact List.pairwise_iff_getElem.1 hu i (i + 1) (by omega) (by omega) (by omega)
theorem ren_dis {ts : List Ty} {typ frm to : ByteArray} (hsh : shapeB ts = true) (ht : relOr ts typ to = []) {t : Ty} (htm : t ∈ ts) : DisR (t.rels.map (renR ts typ frm to t.name)) := by
 have hd := (shape_up hsh htm).dis
 refine List.pairwise_map.2 ?_
 have hno : t.name.toList = typ.toList → ∀ r ∈ t.rels, r.name.toList ≠ to.toList := by
  intro e r hr he
  have e1 : t.name = typ := ba_ext e
  have hp : relP ts typ to = none := by
   cases hp : relP ts typ to with
   | none => rfl
   | some es =>
    have : es = [] := by have := ht; rw [relOr, hp] at this; exact this
    subst this
    obtain ⟨t', ht', r', hr', -, -, e3⟩ := relP_mem hp
    have := (shape_expr hsh ht' hr').2
    rw [e3] at this
    simp [specE] at this
  exact relP_none hp t htm e1 r hr (ba_ext he)
 rw [DisR, List.pairwise_iff_getElem] at hd
 rw [List.pairwise_iff_getElem]
 intro i j hi hj hij
 have h0 := hd i j hi hj hij
 show (renN typ frm to t.name t.rels[i].name).toList ≠ (renN typ frm to t.name t.rels[j].name).toList
 unfold renN
 split <;> split <;> rename_i c1 c2
 ·simp only [Bool.and_eq_true, beq_iff_eq] at c1 c2
  exact (h0 (c1.2.trans c2.2.symm)).elim
 ·simp only [Bool.and_eq_true, beq_iff_eq] at c1
  exact (hno c1.1 _ (List.getElem_mem _)).symm
 ·simp only [Bool.and_eq_true, beq_iff_eq] at c2
  exact hno c2.1 _ (List.getElem_mem _)
 ·exact h0
theorem renS_shape {ts : List Ty} {typ frm to : ByteArray} (hsh : shapeB ts = true) (hrf : refsAll ts = true) (hto : nameB to = true) (ht : relOr ts typ to = []) : shapeB (renS ts typ frm to) = true := by
 have hsh0 := hsh
 unfold shapeB at hsh ⊢
 simp only [Bool.and_eq_true] at hsh ⊢
 have hl : (renS ts typ frm to).length = ts.length := by simp [renS]
 rw [hl]
 refine ⟨hsh.1, ?_⟩
 have key : ∀ j, (hj : j < ts.length) → typAt (renS ts typ frm to) j = true := by
  intro j hj
  have h1 := typsUp_all hsh.2 j hj
  unfold typAt at h1 ⊢
  rw [List.getElem?_eq_getElem hj] at h1
  have eg : (renS ts typ frm to)[j]? = some (renT ts typ frm to ts[j]) := by unfold renS; rw [List.getElem?_map, List.getElem?_eq_getElem hj]; rfl
  rw [eg]
  simp only [Bool.and_eq_true, decide_eq_true_eq] at h1 ⊢
  have hm : ts[j] ∈ ts := List.getElem_mem _
  have hp := sortR_perm (ts[j].rels.map (renR ts typ frm to ts[j].name))
  have hlen : (renT ts typ frm to ts[j]).rels.length = ts[j].rels.length := by
   show (sortR _).length = _
   rw [hp.length_eq, List.length_map]
  refine ⟨⟨⟨h1.1.1.1, ?_⟩, by rw [hlen]; exact h1.1.2⟩, ?_⟩
  ·have h2 := h1.1.1.2
   cases j with
   | zero => rfl
   | succ i =>
    simp only at h2 ⊢
    rw [List.getElem?_eq_getElem (by omega)] at h2
    have : (renS ts typ frm to)[i]? = some (renT ts typ frm to (ts[i]'(by omega))) := by unfold renS; rw [List.getElem?_map, List.getElem?_eq_getElem (by omega)]; rfl
    rw [this]
    exact h2
  ·refine rels_of (sortR_up (ren_dis hsh0 ht hm)) (fun r hr => ?_) _ (Nat.le_refl _)
   obtain ⟨q, hq, rfl⟩ := List.mem_map.1 (hp.mem_iff.1 hr)
   obtain ⟨n1, n2⟩ := shape_expr hsh0 hm hq
   refine ⟨?_, specE_map (renX_kids ts typ frm to _) (renX_kind ts typ frm to _) n2 fun e he => ?_⟩
   ·show nameB (renN typ frm to ts[j].name q.name) = true
    unfold renN
    split
    ·exact hto
    ·exact n1
   ·exact nodeB_ren hto (nameB_some hto) ht (by unfold setB'; rw [hto]; simp) (renE_node n2 he) (refs_at hrf hm hq he).1
 have all : ∀ n, n ≤ ts.length → typsUp (renS ts typ frm to) n = true := by
  intro n
  induction n with
  | zero => intro _; rfl
  | succ n ih => intro h; simp only [typsUp, Bool.and_eq_true]; exact ⟨ih (by omega), key n (by omega)⟩
 exact all _ (Nat.le_refl _)
theorem ren_shape {ts us : List Ty} {typ frm to : ByteArray} (h : renD ts typ frm to = some us) : shapeB us = true := by
 unfold renD at h
 split at h
 ·rename_i hc
  injection h with h
  subst h
  simp only [Bool.and_eq_true, Bool.not_eq_true'] at hc
  obtain ⟨h1, h2, -⟩ := schemaD_iff.1 hc.1.1.1.1
  exact renS_shape h1 h2 hc.1.1.2 (by have := hc.1.2; unfold hasB at this; simpa using this)
 ·cases h
end Go.Proofs.YtmghabcaakgjiaaGreat
namespace Go.Proofs.YtmghabcaakgjiaaGreat
set_option linter.unusedVariables false
open Pl
def renR0 (ts : List Ty) (typ frm to tn : ByteArray) (r : Rl) : Rl := ⟨r.name, r.expr.map (renX ts typ frm to tn)⟩
def renT0 (ts : List Ty) (typ frm to : ByteArray) (t : Ty) : Ty := ⟨t.name, t.rels.map (renR0 ts typ frm to t.name)⟩
theorem chg_ren0 {ts : List Ty} {typ frm to : ByteArray} (hsh : shapeB ts = true) : chgS (fun tn x => [renX ts typ frm to tn x]) ts = ts.map (renT0 ts typ frm to) := by
 unfold chgS
 refine List.map_congr_left fun t ht => ?_
 unfold chgT renT0
 congr 1
 refine List.map_congr_left fun r hr => ?_
 unfold chgR renR0
 rw [ren_one (shape_expr hsh ht hr).2]
theorem renT_is0 {ts : List Ty} {typ frm to : ByteArray} {t : Ty} (hu : UpR t.rels) (hn : (t.name.toList == typ.toList) = false) : renT ts typ frm to t = renT0 ts typ frm to t := by
 rw [renT_other hu hn]
 unfold renT0
 congr 1
 refine List.map_congr_left fun r hr => ?_
 unfold renR renR0 renN
 rw [hn]; rfl
def renM (typ frm to : ByteArray) (r : Rl) : Rl := ⟨renN typ frm to typ r.name, r.expr⟩
theorem renR_two {ts : List Ty} {typ frm to tn : ByteArray} (h : tn = typ) (r : Rl) : renM typ frm to (renR0 ts typ frm to tn r) = renR ts typ frm to tn r := by
 subst h; rfl
theorem renT_typ {ts : List Ty} {typ frm to : ByteArray} {t : Ty} (h : t.name = typ) : renT ts typ frm to t = ⟨t.name, sortR ((renT0 ts typ frm to t).rels.map (renM typ frm to))⟩ := by
 unfold renT renT0
 rw [List.map_map]
 congr 2
 exact List.map_congr_left fun r hr => (renR_two h r).symm
def mixR (ts : List Ty) (typ frm to : ByteArray) (k : Nat) : List Ty := (ts.take k).map (renT ts typ frm to) ++ (ts.drop k).map (renT0 ts typ frm to)
theorem mixR_zero (ts : List Ty) (typ frm to : ByteArray) : mixR ts typ frm to 0 = ts.map (renT0 ts typ frm to) := by simp [mixR]
theorem mixR_all (ts : List Ty) (typ frm to : ByteArray) : mixR ts typ frm to ts.length = renS ts typ frm to := by simp [mixR, renS]
theorem mixR_len (ts : List Ty) (typ frm to : ByteArray) (k : Nat) : (mixR ts typ frm to k).length = ts.length := by simp [mixR]; omega
theorem mixR_at (ts : List Ty) (typ frm to : ByteArray) (k : Nat) (h : k < ts.length) : (mixR ts typ frm to k)[k]'(by rw [mixR_len]; exact h) = renT0 ts typ frm to ts[k] := by
 unfold mixR
 rw [List.getElem_append_right (by simp; omega)]
 simp [Nat.min_eq_left (Nat.le_of_lt h)]
theorem mixR_succ (ts : List Ty) (typ frm to : ByteArray) (k : Nat) (h : k < ts.length) : mixR ts typ frm to (k + 1) = (mixR ts typ frm to k).set k (renT ts typ frm to ts[k]) := by
 unfold mixR
 have hl : ((ts.take k).map (renT ts typ frm to)).length = k := by simp; omega
 rw [List.set_append_right _ _ (by omega), hl, Nat.sub_self, List.drop_eq_getElem_cons h, List.map_cons, List.set_cons_zero, List.take_succ_eq_append_getElem h, List.map_append]
 simp
theorem renX_few {ts : List Ty} {typ frm to tn : ByteArray} {x : Ex} : (renX ts typ frm to tn x).allow.length = x.allow.length := by
 unfold renX
 repeat' split
 all_goals simp
end Go.Proofs.YtmghabcaakgjiaaGreat
namespace Go.Proofs.YtmghabcaakgjiaaGreat
set_option maxRecDepth 100000
set_option linter.unusedVariables false
open Go.ChangeShapes Go.WideShapes Go.ChangeAt Go.RowKit Go.Maps
open Pl
theorem toHX {p : Prop} (h : p) : Hid p := h
theorem NodM.add {w0 w2 w3 : World} {base : Nat} {v v' : Value} {qs : List ER} {q : ER} (h : NodM w0 base v qs) (hb : Below w0.heap.size w0 w2) (hq : NewQ w0.heap.size w2 q) (hbase : base ≤ w0.heap.size) (hown : w3.ownsRow base 50 5 v' (qs.length + 1) (rows5 qs ++ q.row)) (hg : w2.grownBy w3 v.ownBlock) (hat : v'.ownBlock = v.ownBlock ∨ ∃ g, v'.ownBlock = some g ∧ w2.heap.size ≤ g) : NodM w3 base v' (qs ++ [q]) :=
 ExM.nod (h.ex.snocN kidE hb hown hg hat (hq.mono hbase) (fun g hg => (hq.lie g hg).1))
theorem own_slice {w : World} {base size n : Nat} {e : TypeId} {v : Value} {xs : List Value} (h : w.ownsRow base e size v n xs) : ∃ ad cap, v = .slice ad n cap := by
 rcases h.2 with ⟨rfl, h0⟩ | ⟨g, cap, cur, rfl, -⟩
 ·exact ⟨none, 0, by rw [h0]⟩
 ·exact ⟨_, _, rfl⟩
structure XS (w : World) (P base : Nat) (v pv : Value) (qs : List ER) (ps : List Int) : Prop where
 nod : NodM w base v qs
 pl : w.cell? ⟨P, 0, none⟩ = some pv
 fz : w.frozen? ⟨P, 0, none⟩ = false
 lt : base ≤ w.heap.size
 row : w.ownsRow base 2 1 pv ps.length (ints ps)
 ap : ∀ g, pv.ownBlock = some g → ¬ inLot inR v qs g
 hP : P < base
theorem XS.below {w w' : World} {P base : Nat} {v pv : Value} {qs : List ER} {ps : List Int} (h : XS w P base v pv qs ps) (hb : Below w.heap.size w w') : XS w' P base v pv qs ps :=
 ⟨ExM.nod (h.nod.ex.below kidE hb), kept hb (Nat.lt_of_lt_of_le h.hP h.lt) h.pl, keptF hb (Nat.lt_of_lt_of_le h.hP h.lt) h.fz, Nat.le_trans h.lt hb.size, own_heap h.row fun g hg => hb.block g (h.row.lt g hg).2, h.ap, h.hP⟩
theorem XS.add {w0 w2 w3 : World} {P base : Nat} {v v' pv : Value} {qs : List ER} {ps : List Int} {q : ER} (h : XS w0 P base v pv qs ps) (hb : Below w0.heap.size w0 w2) (hq : NewQ w0.heap.size w2 q) (hown : w3.ownsRow base 50 5 v' (qs.length + 1) (rows5 qs ++ q.row)) (hg : w2.grownBy w3 v.ownBlock) (hat : v'.ownBlock = v.ownBlock ∨ ∃ g, v'.ownBlock = some g ∧ w2.heap.size ≤ g) : XS w3 P base v' pv (qs ++ [q]) ps := by
 have h2 := h.below hb
 have hPv : v.ownBlock ≠ some P := fun e => by have := (h.nod.own.lt P e).1; have := h.hP; omega
 have hP2 : P < w2.heap.size := Nat.lt_of_lt_of_le h2.hP h2.lt
 have hPb : w3.heap[P]? = w2.heap[P]? := hg.block P hP2 (Ne.symm hPv)
 refine ⟨h.nod.add hb hq h.lt hown hg hat, (World.cell?_of_block (w := w2) (a := ⟨P, 0, none⟩) hPb).trans h2.pl, (World.frozen?_of_block (w := w2) (a := ⟨P, 0, none⟩) hPb).trans h2.fz, Nat.le_trans h2.lt hg.size, own_heap h2.row fun g hg' => hg.block g (h2.row.lt g hg').2 (fun e => h.ap g hg' (.inl e.symm)), fun g hg' hi => ?_, h.hP⟩
 have hgl := (h.row.lt g hg').2
 rcases hi with hi | ⟨p, hp, hi⟩
 ·rcases hat with e | ⟨g', e, hge⟩
  ·exact h.ap g hg' (.inl (by rw [← e]; exact hi))
  ·rw [e] at hi; injection hi with hi; have := hb.size; omega
 ·rcases List.mem_append.1 hp with hp | hp
  ·exact h.ap g hg' (.inr ⟨p, hp, hi⟩)
  ·rw [List.mem_singleton] at hp; subst hp
   have := (hq.lie g hi).1; omega
theorem XS.place {w w1 w2 : World} {P base : Nat} {v pv pv' : Value} {qs : List ER} {ps : List Int} {z : Int} (h : XS w P base v pv qs ps) (hb : Below w.heap.size w w1) (hown : w2.ownsRow base 2 1 pv' (ps.length + 1) (ints ps ++ [.int .i64 z])) (hg : w1.grownBy w2 pv.ownBlock) (hat : pv'.ownBlock = pv.ownBlock ∨ ∃ g, pv'.ownBlock = some g ∧ w1.heap.size ≤ g) : XS (w2.setCell ⟨P, 0, none⟩ pv') P base v pv' qs (ps ++ [z]) := by
 have h1 := h.below hb
 have hP1 : P < w1.heap.size := Nat.lt_of_lt_of_le h1.hP h1.lt
 have hPp : pv.ownBlock ≠ some P := fun e => by have := (h.row.lt P e).1; have := h.hP; omega
 have hPb : w2.heap[P]? = w1.heap[P]? := hg.block P hP1 (Ne.symm hPp)
 have hp2 : w2.cell? ⟨P, 0, none⟩ = some pv := (World.cell?_of_block (w := w1) (a := ⟨P, 0, none⟩) hPb).trans h1.pl
 have hf2 : w2.frozen? ⟨P, 0, none⟩ = false := (World.frozen?_of_block (w := w1) (a := ⟨P, 0, none⟩) hPb).trans h1.fz
 have hs : ∀ g, g ≠ P → (w2.setCell ⟨P, 0, none⟩ pv').heap[g]? = w2.heap[g]? := fun g hne => Below.heap_setCell w2 _ _ g hne
 have hlt : ∀ g, inLot inR v qs g → base ≤ g ∧ g < w.heap.size := fun g hi => LotM.lt kidE h.nod.ex hi
 refine ⟨ExM.nod (h1.nod.ex.heap (w' := w2.setCell ⟨P, 0, none⟩ pv') kidE (by simpa using hg.size) fun g hi => ?_), setS' hp2, by simpa using hf2, by simpa using Nat.le_trans h1.lt hg.size, ?_, fun g hg' hi => ?_, h.hP⟩
 ·have := hlt g hi
  have := h.hP
  rw [hs g (by omega)]
  exact hg.block g (by have := hb.size; omega) (fun e => h.ap g e.symm hi)
 ·have e : ints (ps ++ [z]) = ints ps ++ [.int .i64 z] := by simp [ints]
  rw [e, List.length_append, List.length_singleton]
  exact own_heap hown fun g hg' => hs g (by have := (hown.lt g hg').1; have := h.hP; omega)
 ·rcases hat with e | ⟨g', e, hge⟩
  ·exact h.ap g (by rw [← e]; exact hg') hi
  ·rw [e] at hg'; injection hg' with hg'
   have := (hlt g hi).2
   have := hb.size
   omega
theorem place1_any (P : Nat) (pv : Value) (base : Nat) (ps : List Int) (x : Int) (w : World) (hp : w.cell? ⟨P, 0, none⟩ = some pv) (hr : w.ownsRow base 2 1 pv ps.length (ints ps)) (h0 : 0 ≤ x) (h1 : x < (ps.length : Int)) :
  Calls Tryz.prog 93 #[.int .i64 x, .pointer (some ⟨P, 0, none⟩)] w fun e w' => e = .returned (.int .i64 (ps.getD x.toNat 0)) ∧ w' = w := by
 obtain ⟨ad, cap, rfl, hs, -, -⟩ := ownsI hr rfl
 obtain ⟨n, rfl⟩ : ∃ n : Nat, x = (n : Int) := ⟨x.toNat, by omega⟩
 have hn : n < ps.length := by omega
 rcases hs with rfl | ⟨b, off, rfl, hb, hc⟩
 ·simp at hn
 have c0 := hc n hn
 have HG : Hid (ps.getD ((n : Int)).toNat 0 = ps[n]) := by show _ = _; rw [Int.toNat_natCast, List.getD_eq_getElem?_getD, List.getElem?_eq_getElem hn]; rfl
 clear hr hc
 go_enter Tryz.func93, Tryz.ntmps93
 go_wp2
 go_ret
 exact ⟨by rw [HG.out]; rfl, rfl⟩
theorem place2_any (G : Nat) (n : Nat) (x : Int) (w : World) (hp : w.cell? ⟨G, 0, none⟩ = some (.int .i64 (n : Int))) (hn : n ≤ 100000) (h0 : 0 ≤ x) (h1 : x < 100000) :
  Calls Tryz.prog 94 #[.int .i64 x, .pointer (some ⟨G, 0, none⟩)] w fun e w' => e = .returned (.int .i64 ((n : Int) + x)) ∧ w' = w := by
 obtain ⟨m, rfl⟩ : ∃ m : Nat, x = (m : Int) := ⟨x.toNat, by omega⟩
 go_enter Tryz.func94, Tryz.ntmps94
 go_wp2
 go_ret
 exact ⟨by go_num, rfl⟩
theorem run_place1 (xs : Array Value) (u : World) : (callFunc 93 xs).run Tryz.prog u = .ok (.enter 93 xs) u := by kernel_rfl
theorem run_place2 (xs : Array Value) (u : World) : (callFunc 94 xs).run Tryz.prog u = .ok (.enter 94 xs) u := by kernel_rfl
end Go.Proofs.YtmghabcaakgjiaaGreat
