/- Contracts of the document's functions that look for a tuple in a list, and that leave one out. -/
import Derived.Test.YtpnjoniolfmbnaaGreatDoorJ2
import Derived.Test.YtpnjoniolfmbnaaGreatDoorJ4
import Derived.OwnWalk
import Derived.Maps.AppendAt
import Derived.Deep.RegionHeld3
import Derived.Deep.DrawnRows
import Derived.Test.YtpnjoniolfmbnaaGreatDoorTuplesOk
import Derived.Sort.Statements
namespace Go.Proofs.YtpnjoniolfmbnaaGreatDoor
open Go.ChangeShapes Go.WideShapes Go.ChangeAt Go.RowKit Go.Maps
open Pl

def tpEq (x y : Tp) : Bool := x.a.toList == y.a.toList && x.b.toList == y.b.toList && x.r.toList == y.r.toList && x.c.toList == y.c.toList && x.d.toList == y.d.toList && x.s.toList == y.s.toList
theorem byte_inj {x y : ByteArray} (k : x.toList = y.toList) : x = y := by
  rw [Go.ByteArray.toList_eq, Go.ByteArray.toList_eq] at k
  obtain ⟨x⟩ := x
  obtain ⟨y⟩ := y
  exact congrArg ByteArray.mk (Array.toList_inj.1 k)
theorem tpEq_iff {x y : Tp} : tpEq x y = true ↔ x = y := by
  unfold tpEq
  simp only [Bool.and_eq_true, beq_iff_eq]
  constructor
  · rintro ⟨⟨⟨⟨⟨h0, h1⟩, h2⟩, h3⟩, h4⟩, h5⟩
    obtain ⟨xa, xb, xr, xc, xd, xs⟩ := x
    obtain ⟨ya, yb, yr, yc, yd, ys⟩ := y
    simp only at h0 h1 h2 h3 h4 h5
    rw [byte_inj h0, byte_inj h1, byte_inj h2, byte_inj h3, byte_inj h4, byte_inj h5]
  · rintro rfl; simp
theorem tp_eql (x y : Tp) {v : Bool} (h : tpEq x y = v) (w : World) :
    (binOp .eql 29 (.agg #[.string x.a, .string x.b, .string x.r, .string x.c, .string x.d, .string x.s]) (.agg #[.string y.a, .string y.b, .string y.r, .string y.c, .string y.d, .string y.s])).run Tryz.prog w = .ok (.bool v) w := by
  subst h
  go_simp
  unfold tpEq
  (repeat' split) <;> simp_all
theorem tp_neq (x y : Tp) {v : Bool} (h : (!tpEq x y) = v) (w : World) :
    (binOp .neq 29 (.agg #[.string x.a, .string x.b, .string x.r, .string x.c, .string x.d, .string x.s]) (.agg #[.string y.a, .string y.b, .string y.r, .string y.c, .string y.d, .string y.s])).run Tryz.prog w = .ok (.bool v) w := by
  subst h
  go_simp
  unfold tpEq
  (repeat' split) <;> simp_all
def hasT (ts : List Tp) (t : Tp) : Bool := ts.any fun x => tpEq x t
theorem hasT_drop {ts : List Tp} {t : Tp} {k : Nat} (h : k < ts.length) : hasT (ts.drop k) t = (tpEq ts[k] t || hasT (ts.drop (k + 1)) t) := by
  rw [List.drop_eq_getElem_cons h]; rfl

def Tp.row (t : Tp) : List Value := [.string t.a, .string t.b, .string t.r, .string t.c, .string t.d, .string t.s]
def rows6 (ts : List Tp) : List Value := ts.flatMap Tp.row
theorem rows6_len : ∀ ts : List Tp, (rows6 ts).length = ts.length * 6
  | [] => rfl
  | r :: rs => by have := rows6_len rs; simp only [rows6, Tp.row, List.flatMap_cons, List.length_append, List.length_cons, List.length_nil] at this ⊢; omega
theorem rows6_at : ∀ (rs : List Tp) (i : Nat) (h : i < rs.length) (j : Nat), j < 6 → (rows6 rs)[i * 6 + j]? = (rs[i]).row[j]?
  | [], i, h, _, _ => by simp at h
  | r :: rs, 0, _, j, hj => by
    simp only [rows6, List.flatMap_cons, Nat.zero_mul, Nat.zero_add, List.getElem_cons_zero]
    rw [List.getElem?_append_left (by simpa [Tp.row] using hj)]
  | r :: rs, i + 1, h, j, hj => by
    have := rows6_at rs i (by simpa using h) j hj
    simp only [rows6, List.flatMap_cons, List.getElem_cons_succ] at this ⊢
    rw [List.getElem?_append_right (by simp [Tp.row]; omega), ← this]
    congr 1
    simp [Tp.row]; omega
theorem rows6_snoc (ts : List Tp) (t : Tp) : rows6 (ts ++ [t]) = rows6 ts ++ t.row := by simp [rows6]
theorem row6_one (t : Tp) : ∀ u ∈ t.row, u.oneCell' = true := by
  intro u hu
  simp [Tp.row] at hu
  rcases hu with rfl | rfl | rfl | rfl | rfl | rfl <;> rfl
theorem row6_news (w : World) (t : Tp) : ∀ j u, t.row[j]? = some u → (w.alloc (.cells #[.string t.a, .string t.b, .string t.r, .string t.c, .string t.d, .string t.s] 29)).cell? ((⟨w.heap.size, 0, none⟩ : Addr).add j) = some u := by
  intro j u hu
  rw [show (⟨w.heap.size, 0, none⟩ : Addr).add j = ⟨w.heap.size, 0 + j, none⟩ by simp [Addr.add]; omega, Nat.zero_add]
  have := World.cell?_alloc_mark w #[.string t.a, .string t.b, .string t.r, .string t.c, .string t.d, .string t.s] 29 (0, 0) j
  rw [this]
  simpa [Tp.row] using hu
theorem ownsT {w : World} {base n : Nat} {v : Value} {ts : List Tp} (h : w.ownsRow base 29 6 v n (rows6 ts)) (hn : n = ts.length) : ∃ ad cap, v = .slice ad ts.length cap ∧ Sl w ad ts ∧ ∀ g, ad = some ⟨g, 0, none⟩ → base ≤ g ∧ g < w.heap.size ∧ Free w g := by
  subst hn
  have h2 := h
  rcases h.2 with ⟨rfl, h0⟩ | ⟨g, cap, cur, rfl, hbg, hg, hnc, -⟩
  · exact ⟨none, 0, by rw [h0], .inl (List.length_eq_zero_iff.1 h0), fun g e => by cases e⟩
  · have hlt := h2.lt g rfl
    refine ⟨some ⟨g, 0, none⟩, cap, rfl, .inr ⟨g, 0, rfl, hlt.2, fun i hi => ?_⟩, fun g' e => ?_⟩
    · have hl := rows6_len ts
      have key : ∀ j, j < 6 → w.cell? ⟨g, 0 + i * 6 + j, none⟩ = (ts[i]).row[j]? := fun j hj => by
        rw [h2.cellAt (0 + i * 6 + j) (by omega), ← rows6_at ts i hi j hj, Nat.zero_add]
      exact ⟨key 0 (by omega), key 1 (by omega), key 2 (by omega), key 3 (by omega), key 4 (by omega), key 5 (by omega)⟩
    · injection e with e; injection e with e1 e2
      subst e1
      exact ⟨hlt.1, hlt.2, fun y => h2.frozenAt y⟩
def dropT (ts : List Tp) (t : Tp) : List Tp := ts.filter fun x => !tpEq x t
theorem dropT_take {ts : List Tp} {t : Tp} {k : Nat} (h : k < ts.length) : dropT (ts.take (k + 1)) t = dropT (ts.take k) t ++ (if tpEq ts[k] t then [] else [ts[k]]) := by
  rw [List.take_succ_eq_append_getElem h]
  unfold dropT
  rw [List.filter_append]
  cases e : tpEq ts[k] t <;> simp [e]
theorem dropT_len (ts : List Tp) (t : Tp) (k : Nat) : (dropT (ts.take k) t).length ≤ k := by
  unfold dropT
  exact Nat.le_trans (List.length_filter_le _ _) (by simp; omega)

end Go.Proofs.YtpnjoniolfmbnaaGreatDoor

/- Lists of right tuples in order: what is added, what is left out; a list in order is told by its members. -/
namespace Go.Proofs.YtpnjoniolfmbnaaGreatDoor
open Pl

def Tp.text (t : Tp) : List UInt8 := (tupText t.a t.b t.r t.c t.d t.s).toList
theorem text_inj {x y : Tp} (hx : x.ok = true) (hy : y.ok = true) (e : x.text = y.text) : x = y := by
  obtain ⟨h1, h2, h3, h4, h5, h6⟩ := tupText_inj hx hy (byte_inj e)
  obtain ⟨xa, xb, xr, xc, xd, xs⟩ := x
  obtain ⟨ya, yb, yr, yc, yd, ys⟩ := y
  simp only at h1 h2 h3 h4 h5 h6
  rw [h1, h2, h3, h4, h5, h6]
theorem ahead_less {x y : Tp} (hx : x.ok = true) (hy : y.ok = true) : x.ahead y = Op.bytesLess x.text y.text := aheadB_yes hx hy
theorem ahead_ok {x y : Tp} (h : x.ahead y = true) : x.ok = true ∧ y.ok = true := by
  unfold Tp.ahead aheadB at h
  simp only [Bool.and_eq_true] at h
  exact ⟨h.1.1, h.1.2⟩
theorem ahead_trans {x y z : Tp} (h : x.ahead y = true) (k : y.ahead z = true) : x.ahead z = true := by
  obtain ⟨hx, hy⟩ := ahead_ok h
  obtain ⟨-, hz⟩ := ahead_ok k
  rw [ahead_less hx hy] at h
  rw [ahead_less hy hz] at k
  rw [ahead_less hx hz]
  exact less_trans _ _ _ h k
theorem ahead_irrefl (x : Tp) : x.ahead x = false := by
  cases h : x.ahead x with
  | false => rfl
  | true => obtain ⟨hx, -⟩ := ahead_ok h; rw [ahead_less hx hx, less_irrefl] at h; cases h
theorem ahead_total {x y : Tp} (hx : x.ok = true) (hy : y.ok = true) (hne : x ≠ y) : x.ahead y = true ∨ y.ahead x = true := by
  rw [ahead_less hx hy, ahead_less hy hx]
  exact less_total _ _ fun e => hne (text_inj hx hy e)

/-- each stands ahead of all behind it -/
def Up (l : List Tp) : Prop := l.Pairwise fun x y => x.ahead y = true
theorem up_ext {xs ys : List Tp} (hx : Up xs) (hy : Up ys) (h : ∀ t, t ∈ xs ↔ t ∈ ys) : xs = ys := by
  have nd : ∀ {l : List Tp}, Up l → l.Nodup := fun hl => hl.imp fun {a b} hab e => by subst e; rw [ahead_irrefl] at hab; cases hab
  exact List.Perm.eq_of_pairwise (le := fun (a b : Tp) => a.ahead b = true) (fun a b _ _ h1 h2 => by have := ahead_trans h1 h2; rw [ahead_irrefl] at this; cases this) hx hy ((List.perm_ext_iff_of_nodup (nd hx) (nd hy)).2 h)

/-- with one more, in its place -/
def putT : List Tp → Tp → List Tp
  | [], t => [t]
  | x :: xs, t => if x.ahead t then x :: putT xs t else t :: x :: xs
theorem putT_mem (ts : List Tp) (t y : Tp) : y ∈ putT ts t ↔ y = t ∨ y ∈ ts := by
  induction ts with
  | nil => simp [putT]
  | cons x xs ih =>
    unfold putT
    split
    · simp only [List.mem_cons, ih]
      constructor
      · rintro (h | h | h)
        · exact .inr (.inl h)
        · exact .inl h
        · exact .inr (.inr h)
      · rintro (h | h | h)
        · exact .inr (.inl h)
        · exact .inl h
        · exact .inr (.inr h)
    · simp
theorem putT_up {ts : List Tp} {t : Tp} (hu : Up ts) (hok : ∀ x ∈ ts, x.ok = true) (ht : t.ok = true) (hn : t ∉ ts) : Up (putT ts t) := by
  induction ts with
  | nil => exact List.pairwise_singleton _ _
  | cons x xs ih =>
    obtain ⟨h1, h2⟩ := List.pairwise_cons.1 hu
    unfold putT
    split
    · rename_i hx
      refine List.pairwise_cons.2 ⟨fun y hy => ?_, ih h2 (fun y hy => hok y (List.mem_cons_of_mem _ hy)) (fun hm => hn (List.mem_cons_of_mem _ hm))⟩
      rcases (putT_mem xs t y).1 hy with rfl | hy
      · exact hx
      · exact h1 y hy
    · rename_i hx
      have hne : x ≠ t := fun e => hn (by rw [e]; exact List.mem_cons_self)
      have htx : t.ahead x = true := by
        rcases ahead_total (hok x List.mem_cons_self) ht hne with h | h
        · exact absurd h hx
        · exact h
      refine List.pairwise_cons.2 ⟨fun y hy => ?_, hu⟩
      rcases List.mem_cons.1 hy with rfl | hy
      · exact htx
      · exact ahead_trans htx (h1 y hy)
theorem putT_at (ts : List Tp) (t : Tp) (k : Nat) (hk : k ≤ ts.length) (h1 : ∀ i (h : i < ts.length), i < k → ts[i].ahead t = true) (h2 : ∀ h : k < ts.length, ts[k].ahead t = false) : putT ts t = ts.take k ++ t :: ts.drop k := by
  induction ts generalizing k with
  | nil => simp [putT]
  | cons x xs ih =>
    cases k with
    | zero =>
      have := h2 (by simp)
      simp only [List.getElem_cons_zero] at this
      simp [putT, this]
    | succ k =>
      have hx := h1 0 (by simp) (by omega)
      simp only [List.getElem_cons_zero] at hx
      have := ih k (by simpa using hk) (fun i hi hik => by have := h1 (i + 1) (by simpa using hi) (by omega); simpa using this) (fun h => by have := h2 (by simpa using h); simpa using this)
      simp [putT, hx, this]
theorem dropT_mem (ts : List Tp) (t y : Tp) : y ∈ dropT ts t ↔ y ∈ ts ∧ y ≠ t := by
  unfold dropT
  rw [List.mem_filter]
  have : ((!tpEq y t) = true) ↔ y ≠ t := by
    cases e : tpEq y t
    · simp only [Bool.not_false, true_iff]; intro h; rw [tpEq_iff.2 h] at e; cases e
    · simp only [Bool.not_true, Bool.false_eq_true, false_iff, ne_eq]; intro h; exact h (tpEq_iff.1 e)
  rw [this]
theorem dropT_up {ts : List Tp} (t : Tp) (hu : Up ts) : Up (dropT ts t) := List.Pairwise.filter _ hu
theorem hasT_iff {ts : List Tp} {t : Tp} : hasT ts t = true ↔ t ∈ ts := by
  unfold hasT
  rw [List.any_eq_true]
  constructor
  · rintro ⟨x, hx, e⟩; rw [← tpEq_iff.1 e]; exact hx
  · intro h; exact ⟨t, h, tpEq_iff.2 rfl⟩

end Go.Proofs.YtpnjoniolfmbnaaGreatDoor

/- A change of right tuples, on plain lists: its code, the tuples behind it, a log of changes; where a search by halves ends. -/
namespace Go.Proofs.YtpnjoniolfmbnaaGreatDoor
open Pl

/-- the code of a change of right tuples -/
def codeT (fit : Tp → Bool) (ts : List Tp) (k : Int) (t : Tp) : Int :=
  if (k = 1 ∨ k = 2) ∧ t.ok = true then
    (if k = 2 then (if hasT ts t then 0 else 5)
     else if fit t then (if hasT ts t then 4 else if 40 ≤ ts.length then 6 else 0) else 3)
  else 2
/-- the tuples behind a change that is done -/
def nextT (ts : List Tp) (k : Int) (t : Tp) : List Tp := if k = 2 then dropT ts t else putT ts t

theorem code_form {fit : Tp → Bool} {ts : List Tp} {k : Int} {t : Tp} (h : ¬ ((k = 1 ∨ k = 2) ∧ t.ok = true)) : codeT fit ts k t = 2 := by unfold codeT; rw [if_neg h]
theorem code_drop {fit : Tp → Bool} {ts : List Tp} {t : Tp} (ht : t.ok = true) : codeT fit ts 2 t = if hasT ts t then 0 else 5 := by unfold codeT; rw [if_pos ⟨.inr rfl, ht⟩, if_pos rfl]
theorem code_add {fit : Tp → Bool} {ts : List Tp} {t : Tp} (ht : t.ok = true) : codeT fit ts 1 t = if fit t then (if hasT ts t then 4 else if 40 ≤ ts.length then 6 else 0) else 3 := by unfold codeT; rw [if_pos ⟨.inl rfl, ht⟩, if_neg (by decide)]
theorem code_zero {fit : Tp → Bool} {ts : List Tp} {k : Int} {t : Tp} (h : codeT fit ts k t = 0) : t.ok = true ∧ ((k = 2 ∧ t ∈ ts) ∨ (k = 1 ∧ fit t = true ∧ t ∉ ts ∧ ts.length < 40)) := by
  by_cases hf : (k = 1 ∨ k = 2) ∧ t.ok = true
  · refine ⟨hf.2, ?_⟩
    rcases hf.1 with rfl | rfl
    · rw [code_add hf.2] at h
      cases h1 : fit t with
      | false => rw [h1] at h; simp at h
      | true =>
        rw [h1] at h
        cases h2 : hasT ts t with
        | true => rw [h2] at h; simp at h
        | false =>
          rw [h2] at h
          by_cases h3 : 40 ≤ ts.length
          · rw [if_pos h3] at h; simp at h
          · exact .inr ⟨rfl, rfl, fun hm => absurd (hasT_iff.2 hm) (by rw [h2]; decide), by omega⟩
    · rw [code_drop hf.2] at h
      cases h2 : hasT ts t with
      | true => exact .inl ⟨rfl, hasT_iff.1 h2⟩
      | false => rw [h2] at h; simp at h
  · rw [code_form hf] at h; cases h
theorem putT_len (ts : List Tp) (t : Tp) : (putT ts t).length = ts.length + 1 := by
  induction ts with
  | nil => rfl
  | cons x xs ih =>
    unfold putT
    cases x.ahead t with
    | true => simp only [if_true, List.length_cons, ih]
    | false => simp
/-- what a done change leaves is right again -/
theorem next_right {fit : Tp → Bool} {ts : List Tp} {k : Int} {t : Tp} (hu : Up ts) (hok : ∀ x ∈ ts, x.ok = true) (hl : ts.length ≤ 40) (h : codeT fit ts k t = 0) :
    Up (nextT ts k t) ∧ (∀ x ∈ nextT ts k t, x.ok = true) ∧ (nextT ts k t).length ≤ 40 := by
  obtain ⟨ht, ⟨rfl, hm⟩ | ⟨rfl, hf, hn, hlt⟩⟩ := code_zero h
  · unfold nextT; rw [if_pos rfl]
    exact ⟨dropT_up t hu, fun x hx => hok x ((dropT_mem ts t x).1 hx).1, Nat.le_trans (List.length_filter_le _ _) hl⟩
  · unfold nextT; rw [if_neg (by decide)]
    refine ⟨putT_up hu hok ht hn, fun x hx => ?_, by rw [putT_len]; omega⟩
    rcases (putT_mem ts t x).1 hx with rfl | h1
    · exact ht
    · exact hok x h1
/-- where a search by halves ends: all ahead of it stand ahead of t, none from it on -/
structure LowT (ts : List Tp) (t : Tp) (n : Nat) : Prop where
  le : n ≤ ts.length
  low : ∀ i (h : i < ts.length), i < n → ts[i].ahead t = true
  high : ∀ i (h : i < ts.length), n ≤ i → ts[i].ahead t = false
theorem up_at {ts : List Tp} (hu : Up ts) {i j : Nat} (hi : i < ts.length) (hj : j < ts.length) (hij : i < j) : ts[i].ahead ts[j] = true := (List.pairwise_iff_getElem.1 hu) i j hi hj hij
/-- the search's two steps keep what it knows -/
theorem low_step {ts : List Tp} {t : Tp} (hu : Up ts) {m : Nat} (hm : m < ts.length) (h : ts[m].ahead t = true) : ∀ i (hi : i < ts.length), i < m + 1 → ts[i].ahead t = true := fun i hi him => by
  by_cases e : i = m
  · subst e; exact h
  · exact ahead_trans (up_at hu hi hm (by omega)) h
theorem high_step {ts : List Tp} {t : Tp} (hu : Up ts) {m : Nat} (hm : m < ts.length) (h : ts[m].ahead t = false) : ∀ i (hi : i < ts.length), m ≤ i → ts[i].ahead t = false := fun i hi him => by
  by_cases e : i = m
  · subst e; exact h
  · cases hc : ts[i].ahead t with
    | false => rfl
    | true => rw [ahead_trans (up_at hu hm hi (by omega)) hc] at h; cases h
theorem low_put {ts : List Tp} {t : Tp} {n : Nat} (h : LowT ts t n) : putT ts t = ts.take n ++ t :: ts.drop n :=
  putT_at ts t n h.le h.low fun hn => h.high n hn (Nat.le_refl _)
theorem low_is {ts : List Tp} {t : Tp} {n : Nat} (h : LowT ts t n) (hu : Up ts) (hm : t ∈ ts) : ∃ hn : n < ts.length, ts[n] = t := by
  obtain ⟨i, hi, e⟩ := List.getElem_of_mem hm
  have h1 : ¬ i < n := fun hl => by
    have := h.low i hi hl
    rw [e, ahead_irrefl] at this; cases this
  refine ⟨by omega, ?_⟩
  by_cases e2 : n = i
  · subst e2; exact e
  · have h2 := up_at hu (i := n) (j := i) (by omega) hi (by omega)
    rw [e, h.high n (by omega) (Nat.le_refl _)] at h2; cases h2
theorem low_drop {ts : List Tp} {t : Tp} {n : Nat} (h : LowT ts t n) (hu : Up ts) (hm : t ∈ ts) : dropT ts t = ts.take n ++ ts.drop (n + 1) := by
  obtain ⟨hn, e⟩ := low_is h hu hm
  refine up_ext (dropT_up t hu) ?_ fun x => ?_
  · have : (ts.take n ++ ts.drop (n + 1)).Sublist ts := by
      conv => rhs; rw [← List.take_append_drop n ts]
      exact (List.Sublist.refl _).append (List.drop_sublist_drop_left ts (by omega))
    exact List.Pairwise.sublist this hu
  · rw [dropT_mem]
    have hsp : ts = ts.take n ++ t :: ts.drop (n + 1) := by rw [← e, ← List.drop_eq_getElem_cons hn, List.take_append_drop]
    have hnd : t ∉ ts.take n ∧ t ∉ ts.drop (n + 1) := by
      have hu2 := hu
      rw [hsp] at hu2
      have hp := List.pairwise_append.1 hu2
      have hp2 := List.pairwise_cons.1 hp.2.1
      refine ⟨fun hx => ?_, fun hx => ?_⟩
      · have := hp.2.2 t hx t (by simp)
        rw [ahead_irrefl] at this; cases this
      · have := hp2.1 t hx
        rw [ahead_irrefl] at this; cases this
    constructor
    · rintro ⟨h1, h2⟩
      rw [hsp] at h1
      rcases List.mem_append.1 h1 with h3 | h3
      · exact List.mem_append.2 (.inl h3)
      · rcases List.mem_cons.1 h3 with h4 | h4
        · exact absurd h4 h2
        · exact List.mem_append.2 (.inr h4)
    · intro h1
      rcases List.mem_append.1 h1 with h3 | h3
      · exact ⟨List.mem_of_mem_take h3, fun e => hnd.1 (e ▸ h3)⟩
      · exact ⟨List.mem_of_mem_drop h3, fun e => hnd.2 (e ▸ h3)⟩
/-- a log of changes -/
def logT (fit : Tp → Bool) : List Tp → List (Int × Tp) → Option (List Tp)
  | ts, [] => some ts
  | ts, c :: cs => if codeT fit ts c.1 c.2 = 0 then logT fit (nextT ts c.1 c.2) cs else none
theorem log_step {fit : Tp → Bool} {cs : List (Int × Tp)} {ts : List Tp} {i n : Nat} (hi : i < cs.length) (hin : i < n) : logT fit ts ((cs.take n).drop i) = if codeT fit ts cs[i].1 cs[i].2 = 0 then logT fit (nextT ts cs[i].1 cs[i].2) ((cs.take n).drop (i + 1)) else none := by
  have h : i < (cs.take n).length := by rw [List.length_take]; omega
  rw [List.drop_eq_getElem_cons h, List.getElem_take]
  rfl
end Go.Proofs.YtpnjoniolfmbnaaGreatDoor
