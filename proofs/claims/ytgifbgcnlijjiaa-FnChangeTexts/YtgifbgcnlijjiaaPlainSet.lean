/- Lists of right tuples in order: what is added, what is left out; a list in order is told by its members. -/
import Derived.Test.YtgifbgcnlijjiaaTuplesOk
import Derived.Test.YtgifbgcnlijjiaaPlainOrder
import Derived.Test.YtgifbgcnlijjiaaPlainRead
import Derived.Test.YtgifbgcnlijjiaaSpecTups
import Derived.Sort.Statements
namespace Go.Proofs.Ytgifbgcnlijjiaa
open Pl

def Tp.text (t : Tp) : List UInt8 := (tupText t.a t.b t.r t.c t.d t.s).toList
theorem text_inj {x y : Tp} (hx : x.ok = true) (hy : y.ok = true) (e : x.text = y.text) : x = y := by
  obtain ⟨h1, h2, h3, h4, h5, h6⟩ := tupText_inj hx hy (byte_inj e)
  obtain ⟨xa, xb, xr, xc, xd, xs⟩ := x
  obtain ⟨ya, yb, yr, yc, yd, ys⟩ := y
  simp only at h1 h2 h3 h4 h5 h6
  rw [h1, h2, h3, h4, h5, h6]
theorem ahead_less {x y : Tp} (hx : x.ok = true) (hy : y.ok = true) : x.ahead y = Op.bytesLess x.text y.text := aheadB_yes hx hy
theorem ahead_ok {x y : Tp} (h : x.ahead y = true) : x.ok = true ∧ y.ok = true := by
  unfold Tp.ahead aheadB at h
  simp only [Bool.and_eq_true] at h
  exact ⟨h.1.1, h.1.2⟩
theorem ahead_trans {x y z : Tp} (h : x.ahead y = true) (k : y.ahead z = true) : x.ahead z = true := by
  obtain ⟨hx, hy⟩ := ahead_ok h
  obtain ⟨-, hz⟩ := ahead_ok k
  rw [ahead_less hx hy] at h
  rw [ahead_less hy hz] at k
  rw [ahead_less hx hz]
  exact less_trans _ _ _ h k
theorem ahead_irrefl (x : Tp) : x.ahead x = false := by
  cases h : x.ahead x with
  | false => rfl
  | true => obtain ⟨hx, -⟩ := ahead_ok h; rw [ahead_less hx hx, less_irrefl] at h; cases h
theorem ahead_total {x y : Tp} (hx : x.ok = true) (hy : y.ok = true) (hne : x ≠ y) : x.ahead y = true ∨ y.ahead x = true := by
  rw [ahead_less hx hy, ahead_less hy hx]
  exact less_total _ _ fun e => hne (text_inj hx hy e)

/-- each stands ahead of all behind it -/
def Up (l : List Tp) : Prop := l.Pairwise fun x y => x.ahead y = true
theorem up_of {ts : List Tp} (h : tupsB ts = true) : Up ts ∧ (∀ t ∈ ts, t.ok = true) ∧ ts.length ≤ 40 := by
  unfold tupsB at h
  simp only [Bool.and_eq_true, decide_eq_true_eq] at h
  obtain ⟨hl, hu⟩ := h
  have hat : ∀ i, i < ts.length → okAt ts i = true := fun i hi => by
    unfold upOk at hu
    exact List.all_eq_true.1 hu i (List.mem_range.2 hi)
  have hok : ∀ i (hi : i < ts.length), ts[i].ok = true := fun i hi => by
    have := hat i hi
    cases i with
    | zero => rw [okAt_zero hi] at this; exact this
    | succ j => rw [okAt_succ hi] at this; simp only [Bool.and_eq_true] at this; exact this.1
  have hnx : ∀ i (hi : i + 1 < ts.length), ts[i].ahead ts[i + 1] = true := fun i hi => by
    have := hat (i + 1) hi
    rw [okAt_succ hi] at this; simp only [Bool.and_eq_true] at this; exact this.2
  refine ⟨List.pairwise_iff_getElem.2 fun i j hi hj hij => ?_, fun t ht => ?_, hl⟩
  · obtain ⟨d, rfl⟩ : ∃ d, j = i + 1 + d := ⟨j - (i + 1), by omega⟩
    induction d with
    | zero => exact hnx i hj
    | succ d ih => exact ahead_trans (ih (by omega) (by omega)) (hnx (i + 1 + d) (by omega))
  · obtain ⟨i, hi, rfl⟩ := List.mem_iff_getElem.1 ht
    exact hok i hi
theorem tupsB_len {ts : List Tp} (h : tupsB ts = true) : ts.length ≤ 40 := (up_of h).2.2
theorem up_ext {xs ys : List Tp} (hx : Up xs) (hy : Up ys) (h : ∀ t, t ∈ xs ↔ t ∈ ys) : xs = ys := by
  have nd : ∀ {l : List Tp}, Up l → l.Nodup := fun hl => hl.imp fun {a b} hab e => by subst e; rw [ahead_irrefl] at hab; cases hab
  exact List.Perm.eq_of_pairwise (le := fun (a b : Tp) => a.ahead b = true) (fun a b _ _ h1 h2 => by have := ahead_trans h1 h2; rw [ahead_irrefl] at this; cases this) hx hy ((List.perm_ext_iff_of_nodup (nd hx) (nd hy)).2 h)

/-- with one more, in its place -/
def putT : List Tp → Tp → List Tp
  | [], t => [t]
  | x :: xs, t => if x.ahead t then x :: putT xs t else t :: x :: xs
theorem putT_mem (ts : List Tp) (t y : Tp) : y ∈ putT ts t ↔ y = t ∨ y ∈ ts := by
  induction ts with
  | nil => simp [putT]
  | cons x xs ih =>
    unfold putT
    split
    · simp only [List.mem_cons, ih]
      constructor
      · rintro (h | h | h)
        · exact .inr (.inl h)
        · exact .inl h
        · exact .inr (.inr h)
      · rintro (h | h | h)
        · exact .inr (.inl h)
        · exact .inl h
        · exact .inr (.inr h)
    · simp
theorem putT_up {ts : List Tp} {t : Tp} (hu : Up ts) (hok : ∀ x ∈ ts, x.ok = true) (ht : t.ok = true) (hn : t ∉ ts) : Up (putT ts t) := by
  induction ts with
  | nil => exact List.pairwise_singleton _ _
  | cons x xs ih =>
    obtain ⟨h1, h2⟩ := List.pairwise_cons.1 hu
    unfold putT
    split
    · rename_i hx
      refine List.pairwise_cons.2 ⟨fun y hy => ?_, ih h2 (fun y hy => hok y (List.mem_cons_of_mem _ hy)) (fun hm => hn (List.mem_cons_of_mem _ hm))⟩
      rcases (putT_mem xs t y).1 hy with rfl | hy
      · exact hx
      · exact h1 y hy
    · rename_i hx
      have hne : x ≠ t := fun e => hn (by rw [e]; exact List.mem_cons_self)
      have htx : t.ahead x = true := by
        rcases ahead_total (hok x List.mem_cons_self) ht hne with h | h
        · exact absurd h hx
        · exact h
      refine List.pairwise_cons.2 ⟨fun y hy => ?_, hu⟩
      rcases List.mem_cons.1 hy with rfl | hy
      · exact htx
      · exact ahead_trans htx (h1 y hy)
theorem putT_at (ts : List Tp) (t : Tp) (k : Nat) (hk : k ≤ ts.length) (h1 : ∀ i (h : i < ts.length), i < k → ts[i].ahead t = true) (h2 : ∀ h : k < ts.length, ts[k].ahead t = false) : putT ts t = ts.take k ++ t :: ts.drop k := by
  induction ts generalizing k with
  | nil => simp [putT]
  | cons x xs ih =>
    cases k with
    | zero =>
      have := h2 (by simp)
      simp only [List.getElem_cons_zero] at this
      simp [putT, this]
    | succ k =>
      have hx := h1 0 (by simp) (by omega)
      simp only [List.getElem_cons_zero] at hx
      have := ih k (by simpa using hk) (fun i hi hik => by have := h1 (i + 1) (by simpa using hi) (by omega); simpa using this) (fun h => by have := h2 (by simpa using h); simpa using this)
      simp [putT, hx, this]
theorem dropT_mem (ts : List Tp) (t y : Tp) : y ∈ dropT ts t ↔ y ∈ ts ∧ y ≠ t := by
  unfold dropT
  rw [List.mem_filter]
  have : ((!tpEq y t) = true) ↔ y ≠ t := by
    cases e : tpEq y t
    · simp only [Bool.not_false, true_iff]; intro h; rw [tpEq_iff.2 h] at e; cases e
    · simp only [Bool.not_true, Bool.false_eq_true, false_iff, ne_eq]; intro h; exact h (tpEq_iff.1 e)
  rw [this]
theorem dropT_up {ts : List Tp} (t : Tp) (hu : Up ts) : Up (dropT ts t) := List.Pairwise.filter _ hu
theorem hasT_iff {ts : List Tp} {t : Tp} : hasT ts t = true ↔ t ∈ ts := by
  unfold hasT
  rw [List.any_eq_true]
  constructor
  · rintro ⟨x, hx, e⟩; rw [← tpEq_iff.1 e]; exact hx
  · intro h; exact ⟨t, h, tpEq_iff.2 rfl⟩

/-- the order of right tuples, as the program's comparison has it -/
def ltT (x y : { t : Tp // t.ok = true }) : Bool := Op.bytesLess x.1.text y.1.text
theorem ltT_ahead (x y : { t : Tp // t.ok = true }) : ltT x y = x.1.ahead y.1 := (ahead_less x.2 y.2).symm
theorem ltT_total (x y : { t : Tp // t.ok = true }) (h : ltT x y = false) (k : ltT y x = false) : x = y := by
  rw [ltT_ahead] at h k
  apply Subtype.ext
  by_cases e : x.1 = y.1
  · exact e
  · rcases ahead_total x.2 y.2 e with h' | h'
    · rw [h] at h'; cases h'
    · rw [k] at h'; cases h'
theorem ltT_swo : Go.Sort.SWO ltT where
  irrefl x := by rw [ltT_ahead]; exact ahead_irrefl _
  trans x y z h k := by rw [ltT_ahead] at *; exact ahead_trans h k
  ntrans x y z h k := by
    cases e : ltT x z with
    | false => rfl
    | true =>
      cases e1 : ltT y x with
      | true =>
        have : ltT y z = true := by rw [ltT_ahead] at *; exact ahead_trans e1 e
        rw [k] at this; cases this
      | false =>
        have := ltT_total x y h e1
        subst this
        rw [k] at e; cases e
theorem sort_is {xs : List { t : Tp // t.ok = true }} {L : List Tp} (hnd : xs.Nodup) (hm : ∀ x : { t : Tp // t.ok = true }, x ∈ xs ↔ x.1 ∈ L) (hL : Up L) (hok : ∀ t ∈ L, t.ok = true) :
    (xs.mergeSort fun x y => !ltT y x).map (·.1) = L := by
  have hp : List.Perm (xs.mergeSort fun x y => !ltT y x) xs := List.mergeSort_perm xs _
  have hpw : (xs.mergeSort fun x y => !ltT y x).Pairwise fun x y => (!ltT y x) = true := List.pairwise_mergeSort (fun a b c h1 h2 => by
      simp only [Bool.not_eq_true'] at *
      exact ltT_swo.ntrans _ _ _ h2 h1) (fun a b => by
      cases e : ltT b a <;> simp
      cases e2 : ltT a b
      · rfl
      · have := ltT_swo.trans _ _ _ e e2; rw [ltT_swo.irrefl] at this; cases this) xs
  have hnd2 : (xs.mergeSort fun x y => !ltT y x).Nodup := hp.nodup_iff.2 hnd
  refine up_ext ?_ hL fun t => ?_
  · refine List.pairwise_map.2 (List.Pairwise.imp_of_mem (R := fun x y => (!ltT y x) = true ∧ x ≠ y) ?_ (hpw.and hnd2))
    rintro x y - - ⟨h1, h2⟩
    have hne : x.1 ≠ y.1 := fun e => h2 (Subtype.ext e)
    rcases ahead_total x.2 y.2 hne with h | h
    · exact h
    · rw [← ltT_ahead] at h; rw [h] at h1; cases h1
  · rw [List.mem_map]
    constructor
    · rintro ⟨x, hx, rfl⟩; exact (hm x).1 (hp.mem_iff.1 hx)
    · intro h; exact ⟨⟨t, hok t h⟩, hp.mem_iff.2 ((hm ⟨t, hok t h⟩).2 h), rfl⟩
end Go.Proofs.Ytgifbgcnlijjiaa
