/- Files that rise by their names: what is put in and cut out, told by what is there. Nothing of the program is read here. -/
import Derived.Test.YtbfimfmfdllejaaPlainDk
import Derived.Test.YtbfimfmfdllejaaPlainLess
import Derived.Test.YtbfimfmfdllejaaSpecDk6
import Derived.Sort.KeysCollected
namespace Go.Proofs.Ytbfimfmfdllejaa
open Go.RowKit

theorem byte_ext {x y : ByteArray} (k : x.toList = y.toList) : x = y := by
  rw [ByteArray.toList_eq, ByteArray.toList_eq] at k
  cases x; cases y
  simp only at k
  rw [Array.toList_inj.1 k]
theorem less_lt : ∀ (x y : List UInt8), Op.bytesLess x y = true → x < y
  | [], [], h => by simp [Op.bytesLess] at h
  | _ :: _, [], h => by simp [Op.bytesLess] at h
  | [], _ :: _, _ => by simp
  | a :: x, b :: y, h => by
    simp only [Op.bytesLess, Bool.or_eq_true, Bool.and_eq_true, decide_eq_true_eq, beq_iff_eq] at h
    rw [List.cons_lt_cons_iff]
    rcases h with h | ⟨h, h2⟩
    · exact .inl h
    · exact .inr ⟨h, less_lt x y h2⟩
theorem eqS_iff {a b : ByteArray} : eqS a b = true ↔ a = b := by
  unfold eqS
  rw [beq_iff_eq]
  exact ⟨fun h => byte_ext h, fun h => by rw [h]⟩
theorem eqS_no {a b : ByteArray} : eqS a b = false ↔ a ≠ b := by
  rw [← Bool.not_eq_true, eqS_iff]
theorem lessS_irrefl (a : ByteArray) : lessS a a = false := Ls.lt_irrefl _
theorem lessS_trans {a b c : ByteArray} (h : lessS a b = true) (k : lessS b c = true) : lessS a c = true := Ls.lt_trans _ _ _ h k
theorem lessS_total {a b : ByteArray} (h : a ≠ b) : lessS a b = true ∨ lessS b a = true := Ls.lt_total _ _ fun e => h (byte_ext e)
theorem lessS_asymm {a b : ByteArray} (h : lessS a b = true) : lessS b a = false := Ls.lt_asymm _ _ h
def UpL (fs : List Fl) : Prop := fs.Pairwise fun a b => lessS a.n b.n = true
def NamesL (fs : List Fl) : Prop := ∀ f ∈ fs, nmB f.n = true
def sumF (fs : List Fl) : Nat := (fs.map fun f => f.d.size).sum
theorem sumUp_all (fs : List Fl) : sumUp fs fs.length = sumF fs := by rw [sumUp, List.take_length]; rfl

theorem up_of {fs : List Fl} (h : upF fs fs.length = true) : UpL fs ∧ NamesL fs := by
  rw [upF, List.all_eq_true] at h
  have hat : ∀ i (hi : i < fs.length), nmB fs[i].n = true ∧ (i = 0 ∨ lessS (nameAt fs (i - 1)) fs[i].n = true) := fun i hi => by
    have := h i (by simpa using hi)
    rw [okAt, Bool.and_eq_true, Bool.or_eq_true, decide_eq_true_eq, nameAt_get fs i hi] at this
    exact this
  refine ⟨List.pairwise_iff_getElem.2 fun i j hi hj hij => ?_, fun f hf => ?_⟩
  · obtain ⟨d, rfl⟩ : ∃ d, j = i + 1 + d := ⟨j - (i + 1), by omega⟩
    induction d with
    | zero =>
      rcases (hat (i + 1) hj).2 with h1 | h1
      · omega
      · rw [Nat.add_sub_cancel, nameAt_get fs i hi] at h1; exact h1
    | succ d ih =>
      rcases (hat (i + 1 + d + 1) hj).2 with h1 | h1
      · omega
      · rw [Nat.add_sub_cancel, nameAt_get fs (i + 1 + d) (by omega)] at h1
        exact lessS_trans (ih (by omega) (by omega)) h1
  · obtain ⟨i, hi, rfl⟩ := List.mem_iff_getElem.1 hf
    exact (hat i hi).1
theorem of_up {fs : List Fl} (h : UpL fs) (hn : NamesL fs) : upF fs fs.length = true := by
  rw [upF, List.all_eq_true]
  intro i hi
  have hi : i < fs.length := by simpa using hi
  rw [okAt, Bool.and_eq_true, Bool.or_eq_true, decide_eq_true_eq, nameAt_get fs i hi]
  refine ⟨hn _ (List.getElem_mem hi), ?_⟩
  by_cases h0 : i = 0
  · exact .inl h0
  · right
    rw [nameAt_get fs (i - 1) (by omega)]
    exact List.pairwise_iff_getElem.1 h (i - 1) i (by omega) hi (by omega)
theorem filesB_eq {fs : List Fl} (h : UpL fs) (hn : NamesL fs) : filesB fs = (decide (fs.length ≤ 60) && decide (sumF fs ≤ 200000)) := by
  rw [filesB, of_up h hn, sumUp_all, Bool.and_true]
theorem filesB_up {fs : List Fl} (h : filesB fs = true) : UpL fs ∧ NamesL fs := by
  simp only [filesB, Bool.and_eq_true] at h
  exact up_of h.1.2
theorem up_nodup {fs : List Fl} (h : UpL fs) : fs.Nodup := h.imp fun {a b} hab e => by subst e; rw [lessS_irrefl] at hab; cases hab
theorem up_one {fs : List Fl} (h : UpL fs) {f g : Fl} (hf : f ∈ fs) (hg : g ∈ fs) (e : f.n = g.n) : f = g := by
  obtain ⟨i, hi, rfl⟩ := List.mem_iff_getElem.1 hf
  obtain ⟨j, hj, rfl⟩ := List.mem_iff_getElem.1 hg
  have hp := List.pairwise_iff_getElem.1 h
  rcases Nat.lt_trichotomy i j with h1 | h1 | h1
  · have := hp i j hi hj h1; rw [e, lessS_irrefl] at this; cases this
  · subst h1; rfl
  · have := hp j i hj hi h1; rw [e, lessS_irrefl] at this; cases this
theorem up_ext {xs ys : List Fl} (hx : UpL xs) (hy : UpL ys) (h : ∀ t, t ∈ xs ↔ t ∈ ys) : xs = ys :=
  List.Perm.eq_of_pairwise (le := fun (a b : Fl) => lessS a.n b.n = true) (fun a b _ _ h1 h2 => by have := lessS_trans h1 h2; rw [lessS_irrefl] at this; cases this) hx hy ((List.perm_ext_iff_of_nodup (up_nodup hx) (up_nodup hy)).2 h)

/-- one file put in its place -/
def insF (x dt : ByteArray) : List Fl → List Fl
  | [] => [⟨x, dt⟩]
  | f :: l => if lessS f.n x then f :: insF x dt l else ⟨x, dt⟩ :: (f :: l).filter fun g => !eqS g.n x
def finF (x dt : ByteArray) (p : List Fl × Bool) : List Fl := if p.2 then p.1 else p.1 ++ [⟨x, dt⟩]
theorem putG_rest (x dt : ByteArray) : ∀ (l acc : List Fl), l.foldl (putG x dt) (acc, true) = (acc ++ l.filter (fun g => !eqS g.n x), true)
  | [], acc => by simp
  | f :: l, acc => by
    rw [List.foldl_cons]
    have : putG x dt (acc, true) f = (acc ++ (if eqS f.n x then [] else [f]), true) := by simp [putG]
    rw [this, putG_rest x dt l]
    cases he : eqS f.n x <;> simp [he]
theorem putG_ins (x dt : ByteArray) : ∀ (l acc : List Fl), finF x dt (l.foldl (putG x dt) (acc, false)) = acc ++ insF x dt l
  | [], acc => by simp [finF, insF]
  | f :: l, acc => by
    rw [List.foldl_cons]
    cases hl : lessS f.n x with
    | true =>
      have hne : eqS f.n x = false := eqS_no.2 fun e => by rw [e, lessS_irrefl] at hl; cases hl
      have : putG x dt (acc, false) f = (acc ++ [f], false) := by simp [putG, hl, hne]
      rw [this, putG_ins x dt l, insF, if_pos hl]
      simp
    | false =>
      have : putG x dt (acc, false) f = (acc ++ [⟨x, dt⟩] ++ (if eqS f.n x then [] else [f]), true) := by simp [putG, hl]
      rw [this, putG_rest, insF, hl]
      cases he : eqS f.n x <;> simp [finF, he]
theorem putF_ins (fs : List Fl) (x dt : ByteArray) : putF fs x dt = insF x dt fs := by
  have := putG_ins x dt fs []
  rw [List.nil_append] at this
  rw [← this, putF, putUp, List.take_length, finF]
theorem insF_mem (x dt : ByteArray) : ∀ (fs : List Fl) (g : Fl), g ∈ insF x dt fs ↔ g = ⟨x, dt⟩ ∨ (g ∈ fs ∧ g.n ≠ x)
  | [], g => by simp [insF]
  | f :: l, g => by
    unfold insF
    split
    · rename_i hl
      have hne : f.n ≠ x := fun e => by rw [e, lessS_irrefl] at hl; cases hl
      simp only [List.mem_cons, insF_mem x dt l]
      constructor
      · rintro (rfl | h | h)
        · exact .inr ⟨.inl rfl, hne⟩
        · exact .inl h
        · exact .inr ⟨.inr h.1, h.2⟩
      · rintro (h | ⟨rfl | h, h2⟩)
        · exact .inr (.inl h)
        · exact .inl rfl
        · exact .inr (.inr ⟨h, h2⟩)
    · rw [List.mem_cons, List.mem_filter]
      simp only [Bool.not_eq_true', eqS_no]
theorem insF_up (x dt : ByteArray) : ∀ {fs : List Fl}, UpL fs → UpL (insF x dt fs)
  | [], _ => List.pairwise_singleton _ _
  | f :: l, h => by
    obtain ⟨h1, h2⟩ := List.pairwise_cons.1 h
    unfold insF
    split
    · rename_i hl
      refine List.pairwise_cons.2 ⟨fun y hy => ?_, insF_up x dt h2⟩
      rcases (insF_mem x dt l y).1 hy with rfl | hy
      · exact hl
      · exact h1 y hy.1
    · rename_i hl
      refine List.pairwise_cons.2 ⟨fun y hy => ?_, List.Pairwise.filter _ h⟩
      rw [List.mem_filter, Bool.not_eq_true', eqS_no] at hy
      obtain ⟨hy, hne⟩ := hy
      rcases lessS_total (Ne.symm hne) with h3 | h3
      · exact h3
      · rcases List.mem_cons.1 hy with rfl | hy
        · exact absurd h3 hl
        · exact absurd (lessS_trans (h1 y hy) h3) hl
theorem cutF_is (fs : List Fl) (x : ByteArray) : cutF' fs x = fs.filter fun f => !eqS f.n x := by rw [cutF', cutUp, List.take_length]
theorem cutF_up {fs : List Fl} (x : ByteArray) (h : UpL fs) : UpL (cutF' fs x) := by rw [cutF_is]; exact List.Pairwise.filter _ h
theorem cutF_mem_iff (fs : List Fl) (x : ByteArray) (g : Fl) : g ∈ cutF' fs x ↔ g ∈ fs ∧ g.n ≠ x := by
  rw [cutF_is, List.mem_filter, Bool.not_eq_true', eqS_no]
theorem atF_none_iff : ∀ {fs : List Fl} {x : ByteArray}, atF fs x = none ↔ ∀ f ∈ fs, f.n ≠ x
  | [], x => by simp [atF]
  | f :: l, x => by
    unfold atF
    cases he : eqS f.n x with
    | true => simp [eqS_iff.1 he]
    | false => simp [eqS_no.1 he, atF_none_iff (fs := l)]
theorem atF_get {fs : List Fl} {x : ByteArray} {k : Nat} (h : atF fs x = some k) : ∃ f ∈ fs, f.n = x ∧ fs.getD k noF = f := by
  obtain ⟨h1, h2⟩ := atF_lt h
  exact ⟨fs[k], List.getElem_mem h1, eqS_iff.1 h2, by rw [List.getD_eq_getElem?_getD, List.getElem?_eq_getElem h1]; rfl⟩
/-- whether a name is there -/
def hasF (fs : List Fl) (x : ByteArray) : Bool := (atF fs x).isSome
/-- the data under a name -/
def dataF (fs : List Fl) (x : ByteArray) : ByteArray := match atF fs x with | none => ⟨#[]⟩ | some j => (fs.getD j noF).d
theorem empty_app (d : ByteArray) : (⟨#[]⟩ : ByteArray) ++ d = d := by
  cases d; simp [← ByteArray.append_eq, ByteArray.append]
/-- what an op makes, told by names -/
theorem doF_add (fs : List Fl) {o : Dop} (h : o.k = 1) : doF fs o = (insF o.n (dataF fs o.n ++ o.d) fs, true) := by
  unfold doF dataF
  rw [if_pos h, putF_ins]
  cases atF fs o.n with
  | none => simp only [empty_app]
  | some j => rfl
theorem doF_none (fs : List Fl) {o : Dop} (h : o.k ≠ 1) (hn : hasF fs o.n = false) : doF fs o = (fs, false) := by
  unfold hasF at hn
  unfold doF
  rw [if_neg h]
  cases e : atF fs o.n with
  | none => rfl
  | some j => rw [e] at hn; cases hn
theorem doF_ren (fs : List Fl) {o : Dop} (h : o.k = 2) (hn : hasF fs o.n = true) : doF fs o = (insF o.t (dataF fs o.n) (cutF' fs o.n), true) := by
  unfold hasF at hn
  unfold doF dataF
  rw [if_neg (by omega)]
  cases e : atF fs o.n with
  | none => rw [e] at hn; cases hn
  | some j => simp only; rw [if_pos h, putF_ins]
theorem doF_rem (fs : List Fl) {o : Dop} (h : o.k ≠ 1) (h2 : o.k ≠ 2) (hn : hasF fs o.n = true) : doF fs o = (cutF' fs o.n, true) := by
  unfold hasF at hn
  unfold doF
  rw [if_neg h]
  cases e : atF fs o.n with
  | none => rw [e] at hn; cases hn
  | some j => simp only; rw [if_neg h2]
theorem hasF_iff {fs : List Fl} {x : ByteArray} : hasF fs x = true ↔ ∃ f ∈ fs, f.n = x := by
  unfold hasF
  cases e : atF fs x with
  | none =>
    simp only [Option.isSome_none, Bool.false_eq_true, false_iff]
    rintro ⟨f, hf, h⟩
    exact atF_none_iff.1 e f hf h
  | some k => obtain ⟨f, hf, h, -⟩ := atF_get e; simp; exact ⟨f, hf, h⟩
theorem dataF_of {fs : List Fl} (hu : UpL fs) {f : Fl} (hf : f ∈ fs) : dataF fs f.n = f.d := by
  unfold dataF
  cases e : atF fs f.n with
  | none => exact absurd rfl (atF_none_iff.1 e f hf)
  | some k => obtain ⟨g, hg, h, h2⟩ := atF_get e; simp only; rw [h2, up_one hu hg hf h]
theorem dataF_none {fs : List Fl} {x : ByteArray} (h : ∀ f ∈ fs, f.n ≠ x) : dataF fs x = ⟨#[]⟩ := by
  unfold dataF; rw [atF_none_iff.2 h]
/-- names and order stay right -/
theorem doF_right {fs : List Fl} {o : Dop} (hu : UpL fs) (hn : NamesL fs) (ho : formB o = true) : UpL (doF fs o).1 ∧ NamesL (doF fs o).1 := by
  have hin : ∀ {gs : List Fl} {x dt : ByteArray}, UpL gs → NamesL gs → nmB x = true → UpL (insF x dt gs) ∧ NamesL (insF x dt gs) := fun h1 h2 h3 => ⟨insF_up _ _ h1, fun f hf => by
    rcases (insF_mem _ _ _ f).1 hf with rfl | hf
    · exact h3
    · exact h2 f hf.1⟩
  have hcut : UpL (cutF' fs o.n) ∧ NamesL (cutF' fs o.n) := ⟨cutF_up _ hu, fun f hf => hn f ((cutF_mem_iff _ _ f).1 hf).1⟩
  have h1 : nmB o.n = true := by
    unfold formB at ho; simp only [Bool.and_eq_true] at ho; exact ho.1.2
  by_cases k1 : o.k = 1
  · rw [doF_add fs k1]; exact hin hu hn h1
  · cases hh : hasF fs o.n with
    | false => rw [doF_none fs k1 hh]; exact ⟨hu, hn⟩
    | true =>
      by_cases k2 : o.k = 2
      · rw [doF_ren fs k2 hh]
        refine hin hcut.1 hcut.2 ?_
        unfold formB at ho; rw [if_pos k2] at ho; simp only [Bool.and_eq_true] at ho; exact ho.2.1
      · rw [doF_rem fs k1 k2 hh]; exact hcut

/-- the names, sorted, are the names in their order -/
theorem names_sorted {fs : List Fl} (hu : UpL fs) {ss : List (List UInt8)} (hp : ss.Perm (fs.map fun f => f.n.data.toList)) : ss.mergeSort (fun x y => decide (x ≤ y)) = fs.map fun f => f.n.data.toList := by
  have e : ss.mergeSort leB = (fs.map fun f => f.n.data.toList).mergeSort leB := mergeSort_of_perm hp
  show ss.mergeSort leB = _
  rw [e]
  refine List.mergeSort_of_pairwise (List.pairwise_map.2 (hu.imp fun {a b} h => ?_))
  have h2 : Op.bytesLess a.n.data.toList b.n.data.toList = true := by
    unfold lessS at h; rw [ByteArray.toList_eq, ByteArray.toList_eq] at h; exact h
  simp only [leB, decide_eq_true_eq]
  exact List.le_of_lt (less_lt _ _ h2)
end Go.Proofs.Ytbfimfmfdllejaa
