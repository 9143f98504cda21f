/- The text of an expression, in plain words; how long it can be. -/
import Derived.Test.YtjmbgpdbnffkpaaPlainExpr
import Derived.Lib.Join
namespace Go.Proofs.Ytjmbgpdbnffkpaa
open Pl

theorem ext_data' {a b : ByteArray} (h : a.data.toList = b.data.toList) : a = b := by
  cases a; cases b; congr; exact Array.toList_inj.1 h
/-- texts with a separator between two -/
def joinB (sep : ByteArray) (xs : List ByteArray) : ByteArray := ⟨(Lib.join (xs.map (·.data.toList)) sep.data.toList).toArray⟩
theorem joinB_nil (sep : ByteArray) : joinB sep [] = ⟨#[]⟩ := rfl
theorem inter_snoc {α : Type} (s : List α) : ∀ (l : List (List α)) (x : List α), s.intercalate (l ++ [x]) = if l = [] then x else s.intercalate l ++ (s ++ x)
  | [], x => by simp [List.intercalate]
  | [a], x => by simp [List.intercalate]
  | a :: b :: l, x => by
    have ih := inter_snoc s (b :: l) x
    simp only [List.cons_append, List.intercalate, List.intersperse, reduceCtorEq, if_false] at ih ⊢
    simp only [List.flatten_cons] at ih ⊢
    rw [ih]
    simp
theorem joinB_snoc (sep : ByteArray) (xs : List ByteArray) (x : ByteArray) : joinB sep (xs ++ [x]) = if xs = [] then x else joinB sep xs ++ sep ++ x := by
  apply ext_data'
  unfold joinB Lib.join
  rw [List.map_append, List.map_cons, List.map_nil, inter_snoc]
  by_cases h : xs = []
  · simp [h]
  · simp [h, ByteArray.data_append]
theorem joinB_size (sep : ByteArray) (b : Nat) : ∀ (n : Nat) (xs : List ByteArray), xs.length = n → (∀ x ∈ xs, x.size ≤ b) → (joinB sep xs).size ≤ n * (b + sep.size)
  | 0, xs, hn, _ => by
    have : xs = [] := List.eq_nil_of_length_eq_zero hn
    subst this
    simp [joinB_nil]
    rfl
  | n + 1, xs, hn, hx => by
    obtain ⟨ys, y, rfl⟩ : ∃ ys y, xs = ys ++ [y] := by
      have hne : xs ≠ [] := by intro e; simp [e] at hn
      exact ⟨xs.dropLast, xs.getLast hne, (List.dropLast_concat_getLast hne).symm⟩
    have hl : ys.length = n := by simp at hn; exact hn
    have ih := joinB_size sep b n ys hl (fun x h => hx x (by simp [h]))
    have hy := hx y (by simp)
    rw [joinB_snoc, Nat.succ_mul]
    by_cases h : ys = []
    · rw [if_pos h]; omega
    · rw [if_neg h, ByteArray.size_append, ByteArray.size_append]; omega

def alText (a : Al) : ByteArray := if a.s.toList.isEmpty then a.t else a.t ++ ⟨#[35]⟩ ++ a.s
def thisText (xs : List Al) : ByteArray := ⟨#[116, 104, 105, 115, 40]⟩ ++ joinB ⟨#[44]⟩ (xs.map alText) ++ ⟨#[41]⟩
def signB (k : Int) : ByteArray := if k = 4 then ⟨#[32, 124, 32]⟩ else if k = 5 then ⟨#[32, 38, 32]⟩ else ⟨#[32, 45, 32]⟩
theorem signB_size (k : Int) : (signB k).size = 3 := by
  unfold signB
  split
  · rfl
  · split <;> rfl
/-- a node's text without parentheses around it -/
def nodeT (f : Int → ByteArray) (e : Ex) : ByteArray :=
  if e.kind = 1 then thisText e.allow else if e.kind = 2 then e.name else if e.kind = 3 then e.over ++ ⟨#[45, 62]⟩ ++ e.name else joinB (signB e.kind) (e.kids.map f)
def inT (e : Ex) (inside : Bool) (t : ByteArray) : ByteArray := if inside && !(decide (e.kind = 1) || decide (e.kind = 2) || decide (e.kind = 3)) then ⟨#[40]⟩ ++ t ++ ⟨#[41]⟩ else t
def exAt (es : List Ex) (n : Nat) : Ex := es[n]?.getD ⟨0, [], ⟨#[]⟩, ⟨#[]⟩, []⟩
def txt (es : List Ex) (n : Nat) : ByteArray := inT (exAt es n) true (nodeT (fun x => if _h : x.toNat < n then txt es x.toNat else ⟨#[]⟩) (exAt es n))
def txtF (es : List Ex) (n : Nat) (x : Int) : ByteArray := if x.toNat < n then txt es x.toNat else ⟨#[]⟩
/-- the text of the tree at n -/
def txtAt (es : List Ex) (n : Nat) (inside : Bool) : ByteArray := inT (exAt es n) inside (nodeT (txtF es n) (exAt es n))
theorem txt_eq (es : List Ex) (n : Nat) : txt es n = txtAt es n true := by
  rw [txt]; rfl

def limT : Nat → Nat
  | 0 => 200
  | n + 1 => limT n * 6
theorem limT_le (n : Nat) : 200 ≤ limT n := by
  induction n with
  | zero => exact Nat.le_refl _
  | succ n ih => simp only [limT]; omega
theorem limT_mono {m n : Nat} (h : m ≤ n) : limT m ≤ limT n := by
  induction h with
  | refl => exact Nat.le_refl _
  | step _ ih => simp only [limT]; omega
theorem limT_14 : limT 14 ≤ 20000000000000 := by decide

theorem nameB_small {s : ByteArray} (h : nameB s = true) : s.size ≤ 12 := by
  simp only [nameB, signsB, lenB, Bool.and_eq_true, decide_eq_true_eq] at h
  exact h.1.1.2
theorem setB_small {s : ByteArray} (h : setB' s = true) : s.size ≤ 12 := by
  unfold setB' at h
  rw [Bool.or_eq_true] at h
  rcases h with h | h
  · have h2 : s.data.toList = [] := by rw [Go.ByteArray.toList_eq] at h; simpa using h
    have h3 : s.data.toList.length = 0 := by rw [h2]; rfl
    have : s.size = s.data.toList.length := rfl
    omega
  · exact nameB_small h
theorem upA_all {xs : List Al} : ∀ {k : Nat}, upA xs k = true → ∀ (i : Nat) (h : i < xs.length), i < k → alB xs[i] = true
  | 0, _, i, _, hi => by omega
  | k + 1, hk, i, h, hi => by
    unfold upA at hk
    rw [Bool.and_eq_true] at hk
    by_cases e : i = k
    · subst e
      have := hk.2
      simp only [List.getElem?_eq_getElem h, Option.map_some, Option.getD_some, Bool.and_eq_true] at this
      exact this.1
    · exact upA_all hk.1 i h (by omega)
theorem alText_size {a : Al} (h : alB a = true) : (alText a).size ≤ 25 := by
  unfold alB at h
  rw [Bool.and_eq_true] at h
  have h1 := nameB_small h.1
  have h2 := setB_small h.2
  have e1 : (⟨#[35]⟩ : ByteArray).size = 1 := rfl
  unfold alText
  split
  · omega
  · simp only [ByteArray.size_append]; omega
theorem thisText_size {xs : List Al} (h : allowB xs = true) : (thisText xs).size ≤ 190 := by
  unfold allowB at h
  simp only [Bool.and_eq_true, decide_eq_true_eq] at h
  have hj := joinB_size ⟨#[44]⟩ 25 _ (xs.map alText) rfl (fun x hx => by
    obtain ⟨a, ha, rfl⟩ := List.mem_map.1 hx
    obtain ⟨i, hi, rfl⟩ := List.getElem_of_mem ha
    exact alText_size (upA_all h.2 i hi hi))
  have e1 : (⟨#[116, 104, 105, 115, 40]⟩ : ByteArray).size = 5 := rfl
  have e2 : (⟨#[41]⟩ : ByteArray).size = 1 := rfl
  have e3 : (⟨#[44]⟩ : ByteArray).size = 1 := rfl
  have e4 : (xs.map alText).length ≤ 6 := by simp; exact h.1.2
  unfold thisText
  simp only [ByteArray.size_append]
  rw [e3] at hj
  have : (xs.map alText).length * (25 + 1) ≤ 6 * 26 := Nat.mul_le_mul_right _ e4
  omega

/-- right nodes with kids ahead of them -/
def okE (es : List Ex) : Prop := es.length ≤ 15 ∧ (∀ (i : Nat) (h : i < es.length), nodeB es[i] = true) ∧ ∀ i, i < es.length → kidsIn es i = true
theorem okE_of {es : List Ex} (h : specE es = true) : okE es := by
  unfold specE at h
  simp only [Bool.and_eq_true, decide_eq_true_eq] at h
  refine ⟨h.1.1.1.1.2, fun i hi => ?_, fun i hi => ?_⟩
  · have := h.1.1.1.2
    rw [List.all_eq_true] at this
    exact this _ (List.getElem_mem hi)
  · have := h.1.1.2
    unfold kidsUp at this
    rw [List.all_eq_true] at this
    exact this i (by simpa using hi)
theorem nodeB_kids {e : Ex} (h : nodeB e = true) : e.kids.length ≤ 5 ∧ (e.kind = 1 ∨ e.kind = 2 ∨ e.kind = 3 ∨ e.kind = 4 ∨ e.kind = 5 ∨ e.kind = 6) := by
  unfold nodeB at h
  split at h
  · rename_i k; simp at h; exact ⟨by simp [h.2], .inl k⟩
  split at h
  · rename_i k; simp at h; exact ⟨by simp [h.2], .inr (.inl k)⟩
  split at h
  · rename_i k; simp at h; exact ⟨by simp [h.2], .inr (.inr (.inl k))⟩
  split at h
  · rename_i k; simp at h; exact ⟨by omega, by omega⟩
  split at h
  · rename_i k; simp at h; exact ⟨by omega, by omega⟩
  · cases h
theorem nodeT_size {es : List Ex} (hes : okE es) {n : Nat} (hn : n < es.length) (b : Nat) (hb : 200 ≤ b) (f : Int → ByteArray) (hf : ∀ k ∈ es[n].kids, (f k).size ≤ b) : (nodeT f es[n]).size ≤ b * 5 + 20 := by
  have hnode := hes.2.1 n hn
  obtain ⟨hk, hkind⟩ := nodeB_kids hnode
  unfold nodeT
  unfold nodeB at hnode
  split
  · rename_i k
    rw [if_pos k] at hnode
    simp only [Bool.and_eq_true] at hnode
    have := thisText_size hnode.1.1.1
    omega
  · rename_i k1
    rw [if_neg k1] at hnode
    split
    · rename_i k2
      rw [if_pos k2] at hnode
      simp only [Bool.and_eq_true] at hnode
      have := nameB_small hnode.1.1.1
      omega
    · rename_i k2
      rw [if_neg k2] at hnode
      split
      · rename_i k3
        rw [if_pos k3] at hnode
        simp only [Bool.and_eq_true] at hnode
        have h1 := nameB_small hnode.1.1.1
        have h2 := nameB_small hnode.1.1.2
        have e1 : (⟨#[45, 62]⟩ : ByteArray).size = 2 := rfl
        simp only [ByteArray.size_append]
        omega
      · have hj := joinB_size (signB es[n].kind) b _ (es[n].kids.map f) rfl (fun x hx => by obtain ⟨k, hk, rfl⟩ := List.mem_map.1 hx; exact hf k hk)
        rw [signB_size] at hj
        have : (es[n].kids.map f).length * (b + 3) ≤ 5 * (b + 3) := Nat.mul_le_mul_right _ (by simp; exact hk)
        omega
theorem inT_size (e : Ex) (i : Bool) (t : ByteArray) : (inT e i t).size ≤ t.size + 2 := by
  have e1 : (⟨#[40]⟩ : ByteArray).size = 1 := rfl
  have e2 : (⟨#[41]⟩ : ByteArray).size = 1 := rfl
  unfold inT
  split
  · simp only [ByteArray.size_append]; omega
  · omega
theorem exAt_eq {es : List Ex} {n : Nat} (h : n < es.length) : exAt es n = es[n] := by simp [exAt, h]
theorem kids_lt {es : List Ex} (hes : okE es) {n : Nat} (hn : n < es.length) : ∀ k ∈ es[n].kids, 0 ≤ k ∧ k.toNat < n := by
  intro k hk
  have := hes.2.2 n hn
  unfold kidsIn at this
  rw [List.all_eq_true] at this
  have h1 := this k (by simp [kidsAt, hn, hk])
  simp at h1
  omega
theorem txtAt_size {es : List Ex} (hes : okE es) (n : Nat) : n < es.length → ∀ i, (txtAt es n i).size ≤ limT n := by
  induction n using Nat.strongRecOn with
  | ind n ih =>
    intro hn i
    unfold txtAt
    rw [exAt_eq hn]
    have h1 := inT_size es[n] i (nodeT (txtF es n) es[n])
    cases n with
    | zero =>
      have h2 := nodeT_size hes hn 200 (Nat.le_refl _) (txtF es 0) (fun k hk => by have := kids_lt hes hn k hk; omega)
      have hno : es[0].kids = [] := by
        cases hk : es[0].kids with
        | nil => rfl
        | cons k ks => have := kids_lt hes hn k (by rw [hk]; simp); omega
      have hnode := hes.2.1 0 hn
      have h3 : (nodeT (txtF es 0) es[0]).size ≤ 195 := by
        unfold nodeT
        unfold nodeB at hnode
        split
        · rename_i k; rw [if_pos k] at hnode; simp only [Bool.and_eq_true] at hnode; have := thisText_size hnode.1.1.1; omega
        · rename_i k1
          rw [if_neg k1] at hnode
          split
          · rename_i k2; rw [if_pos k2] at hnode; simp only [Bool.and_eq_true] at hnode; have := nameB_small hnode.1.1.1; omega
          · rename_i k2
            rw [if_neg k2] at hnode
            split
            · rename_i k3
              rw [if_pos k3] at hnode
              simp only [Bool.and_eq_true] at hnode
              have h1 := nameB_small hnode.1.1.1
              have h2 := nameB_small hnode.1.1.2
              have e1 : (⟨#[45, 62]⟩ : ByteArray).size = 2 := rfl
              simp only [ByteArray.size_append]
              omega
            · rw [hno]
              have : (joinB (signB es[0].kind) (List.map (txtF es 0) [])).size = 0 := rfl
              omega
      simp only [limT]
      omega
    | succ m =>
      have h2 := nodeT_size hes hn (limT m) (limT_le m) (txtF es (m + 1)) (fun k hk => by
        have hlt := kids_lt hes hn k hk
        unfold txtF
        rw [if_pos hlt.2, txt_eq]
        exact Nat.le_trans (ih k.toNat hlt.2 (by omega) true) (limT_mono (by omega)))
      have := limT_le m
      simp only [limT]
      omega

end Go.Proofs.Ytjmbgpdbnffkpaa
