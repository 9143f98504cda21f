/- A schema's text, in plain words, and how long it can be. -/
import Derived.Test.YtkpefjefodkddaaGreatJ9
import Derived.Test.YtkpefjefodkddaaGreatJ14
import Derived.Test.YtkpefjefodkddaaGreatJ1
import Derived.Lib.IndexMore
import Derived.Lib.IndexBytes
import Derived.Lib.Strings
import Derived.Test.YtkpefjefodkddaaGreatJ10
namespace Go.Proofs.YtkpefjefodkddaaGreat
open Pl
def sm : List Nat → Nat
 | [] => 0
 | x :: xs => x + sm xs
theorem sm_append : ∀ xs ys : List Nat, sm (xs ++ ys) = sm xs + sm ys
 | [], ys => by simp [sm]
 | x :: xs, ys => by rw [List.cons_append]; simp only [sm]; rw [sm_append xs ys]; omega
theorem joinB_sum (sep : ByteArray) (xs : List ByteArray) : (joinB sep xs).size ≤ sm (xs.map fun x => x.size + sep.size) := by
 suffices h : ∀ ys : List ByteArray, (joinB sep ys.reverse).size ≤ sm (ys.reverse.map fun x => x.size + sep.size) by
  have := h xs.reverse
  rwa [List.reverse_reverse] at this
 intro ys
 induction ys with
 | nil => exact Nat.le_refl _
 | cons y ys ih =>
  rw [List.reverse_cons, joinB_snoc, List.map_append, sm_append]
  simp only [List.map_cons, List.map_nil, sm]
  split
  ·omega
  ·simp only [ByteArray.size_append]; omega
def spanS (f : Int → Int) : List Int → Int
 | [] => 0
 | k :: ks => (k - f k + 1) + spanS f ks
theorem spanS_append (f : Int → Int) : ∀ xs ys : List Int, spanS f (xs ++ ys) = spanS f xs + spanS f ys
 | [], ys => by simp [spanS]
 | x :: xs, ys => by rw [List.cons_append]; simp only [spanS]; rw [spanS_append f xs ys]; omega
theorem spanS_reverse (f : Int → Int) : ∀ xs : List Int, spanS f xs.reverse = spanS f xs
 | [] => rfl
 | x :: xs => by rw [List.reverse_cons, spanS_append, spanS_reverse f xs]; simp only [spanS]; omega
theorem treeGo_span {f : Int → Int} : ∀ (ks : List Int) (a : Int), 0 ≤ treeGo f ks a → spanS f ks = a + 1 - treeGo f ks a
 | [], a, _ => by simp [spanS, treeGo]
 | k :: ks, a, h => by
  unfold treeGo at h ⊢
  split at h
  ·omega
  ·rename_i h1
   rw [if_neg h1]
   split at h
   ·omega
   ·rename_i h2
    rw [if_neg h2]
    have hk : k = a := Decidable.byContradiction fun e => h1 (.inr e)
    subst hk
    simp only [spanS]
    rw [treeGo_span ks _ h]
    omega
theorem txt_lin {es : List Ex} (hes : okE es) (ht : ∀ j, j < es.length → 0 ≤ treeAt es j) (n : Nat) : n < es.length → ∀ i, ((txtAt es n i).size : Int) ≤ 250 * ((n : Int) - treeAt es n + 1) := by
 induction n using Nat.strongRecOn with
 | ind n ih =>
  intro hn i
  have hle := treeAt_le es n
  have h1 := inT_size (exAt es n) i (nodeT (txtF es n) (exAt es n))
  unfold txtAt
  suffices h : ((nodeT (txtF es n) (exAt es n)).size : Int) ≤ 250 * ((n : Int) - treeAt es n + 1) - 10 by omega
  have hnode := hes.2.1 n hn
  obtain ⟨hk5, -⟩ := nodeB_kids hnode
  rw [exAt_eq hn]
  unfold nodeT
  unfold nodeB at hnode
  split
  ·rename_i k
   rw [if_pos k] at hnode
   simp only [Bool.and_eq_true] at hnode
   have := thisText_size hnode.1.1.1
   omega
  rename_i k1
  rw [if_neg k1] at hnode
  split
  ·rename_i k2
   rw [if_pos k2] at hnode
   simp only [Bool.and_eq_true] at hnode
   have := nameB_small hnode.1.1.1
   omega
  rename_i k2
  rw [if_neg k2] at hnode
  split
  ·rename_i k3
   rw [if_pos k3] at hnode
   simp only [Bool.and_eq_true] at hnode
   have h1 := nameB_small hnode.1.1.1
   have h2 := nameB_small hnode.1.1.2
   have e1 : (⟨#[45, 62]⟩ : ByteArray).size = 2 := rfl
   simp only [ByteArray.size_append]
   omega
  ·have hj := joinB_sum (signB es[n].kind) (es[n].kids.map (txtF es n))
   rw [signB_size, List.map_map] at hj
   have hspan : spanS (treeF es n) es[n].kids = (n : Int) - treeAt es n := by
    have h0 := ht n hn
    rw [treeAt_eq] at h0
    have h2 := treeGo_span _ _ h0
    rw [spanS_reverse, ← treeAt_eq] at h2
    have e : kidsAt es n = es[n].kids := by simp [kidsAt, hn]
    rw [e] at h2
    omega
   have hsum : ∀ ks : List Int, (∀ k ∈ ks, 0 ≤ k ∧ k.toNat < n) → (sm (ks.map ((fun x : ByteArray => x.size + 3) ∘ txtF es n)) : Int) ≤ 250 * spanS (treeF es n) ks + 3 * (ks.length : Int) := by
    intro ks
    induction ks with
    | nil => intro _; simp [sm, spanS]
    | cons k ks ih2 =>
     intro hks
     obtain ⟨hk0, hk1⟩ := hks k (List.mem_cons_self ..)
     have h3 := ih2 fun x hx => hks x (List.mem_cons_of_mem _ hx)
     have h4 := ih k.toNat hk1 (by omega) true
     have e1 : txtF es n k = txtAt es k.toNat true := by unfold txtF; rw [if_pos hk1, txt_eq]
     have e2 : treeF es n k = treeAt es k.toNat := by unfold treeF; rw [if_pos ⟨hk0, hk1⟩]
     have e3 : ((k.toNat : Nat) : Int) = k := by omega
     simp only [List.map_cons, sm, spanS, Function.comp_apply, List.length_cons]
     rw [e1, e2]
     rw [e3] at h4
     omega
   have h5 := hsum es[n].kids (kids_lt hes hn)
   rw [hspan] at h5
   have : (es[n].kids.length : Int) ≤ 5 := by omega
   omega
theorem trees_of {es : List Ex} (h : specE es = true) : ∀ j, j < es.length → 0 ≤ treeAt es j := by
 rw [spec_impl] at h
 unfold implE at h
 simp only [Bool.and_eq_true, decide_eq_true_eq] at h
 have h1 := h.2.1
 unfold allTrees at h1
 rw [List.all_eq_true] at h1
 intro j hj
 simpa using h1 j (by simpa using hj)
theorem exText_small (es : List Ex) : (exText es).size ≤ 3750 := by
 by_cases h : specE es = true
 ·have ht := trees_of h
  have hf := specE_few h
  have h1 := txt_lin (okE_of h) ht (es.length - 1) (by omega) false
  have h2 := ht (es.length - 1) (by omega)
  rw [exText_yes h]
  omega
 ·rw [exText_no (by simpa using h)]
  show 0 ≤ 3750
  omega
def relTx (r : Rl) : ByteArray := ((r.name ++ ⟨#[32, 61, 32]⟩) ++ exText r.expr) ++ ⟨#[10]⟩
def relsTx : List Rl → ByteArray
 | [] => ⟨#[]⟩
 | r :: rs => relTx r ++ relsTx rs
def headTx (n : ByteArray) : ByteArray := (⟨#[116, 121, 112, 101, 32]⟩ ++ n) ++ ⟨#[10]⟩
def schTx : List Ty → ByteArray
 | [] => ⟨#[]⟩
 | t :: ts => (headTx t.name ++ relsTx t.rels) ++ schTx ts
theorem app_nil (a : ByteArray) : a ++ (⟨#[]⟩ : ByteArray) = a := by apply ext_data'; simp [ByteArray.data_append]
theorem relsTx_snoc : ∀ (xs : List Rl) (r : Rl), relsTx (xs ++ [r]) = relsTx xs ++ relTx r
 | [], r => by simp only [List.nil_append, relsTx, app_nil, empty_app]
 | x :: xs, r => by rw [List.cons_append]; simp only [relsTx]; rw [relsTx_snoc xs r, ← ByteArray.append_assoc]
theorem schTx_snoc : ∀ (xs : List Ty) (t : Ty), schTx (xs ++ [t]) = schTx xs ++ (headTx t.name ++ relsTx t.rels)
 | [], t => by simp only [List.nil_append, schTx, app_nil, empty_app]
 | x :: xs, t => by rw [List.cons_append]; simp only [schTx]; rw [schTx_snoc xs t, ← ByteArray.append_assoc]
theorem rls_takeS (rs : List RR) (k : Nat) (h : k < rs.length) : rls (rs.take (k + 1)) = rls (rs.take k) ++ [⟨rs[k].name, exs rs[k].rows⟩] := by
 rw [List.take_succ_eq_append_getElem h]; unfold rls; rw [List.map_append]; rfl
theorem tys_takeS (rs : List TR) (k : Nat) (h : k < rs.length) : tys (rs.take (k + 1)) = tys (rs.take k) ++ [⟨rs[k].name, rls rs[k].rows⟩] := by
 rw [List.take_succ_eq_append_getElem h]; unfold tys; rw [List.map_append]; rfl
theorem headTx_size (n : ByteArray) : (headTx n).size = n.size + 6 := by
 have e1 : (⟨#[116, 121, 112, 101, 32]⟩ : ByteArray).size = 5 := rfl
 have e2 : (⟨#[10]⟩ : ByteArray).size = 1 := rfl
 unfold headTx
 simp only [ByteArray.size_append]
 omega
end Go.Proofs.YtkpefjefodkddaaGreat
namespace Go.Proofs.YtkpefjefodkddaaGreat.Pl
theorem ret_str {a b : ByteArray} (h : a = b) : Ending.returned (.string a) = .returned (.string b) := by rw [h]
theorem lenB_le {s : ByteArray} (h : lenB s = true) : 1 ≤ s.size ∧ s.size ≤ 12 := by simpa [lenB] using h
theorem nameB_le {s : ByteArray} (h : nameB s = true) : 1 ≤ s.size ∧ s.size ≤ 12 := by
 simp [nameB, signsB] at h; exact lenB_le h.1.1
theorem isIdB_le {s : ByteArray} (h : isIdB s = true) : 1 ≤ s.size ∧ s.size ≤ 12 := by
 simp [isIdB, signsB] at h; exact lenB_le h.1
theorem objB_le {t i : ByteArray} (h : objB t i = true) : t.size ≤ 12 ∧ i.size ≤ 12 := by
 simp [objB] at h; exact ⟨(nameB_le h.1).2, (isIdB_le h.2).2⟩
def objText (t i : ByteArray) : ByteArray := if objB t i then t ++ ⟨#[58]⟩ ++ i else ⟨#[]⟩
theorem objText_yes {t i : ByteArray} (h : objB t i = true) : objText t i = t ++ ⟨#[58]⟩ ++ i := by simp [objText, h]
theorem objText_no {t i : ByteArray} (h : objB t i = false) : objText t i = ⟨#[]⟩ := by simp [objText, h]
theorem objText_size (t i : ByteArray) : (objText t i).size ≤ 25 := by
 unfold objText; split
 ·rename_i h
  have h2 := objB_le h
  have e1 : (ByteArray.mk #[58]).size = 1 := rfl
  rw [ByteArray.size_append, ByteArray.size_append, e1]
  omega
 ·exact Nat.zero_le _
end Go.Proofs.YtkpefjefodkddaaGreat.Pl
namespace Go.Proofs.YtkpefjefodkddaaGreat.Pl
def setB (s : ByteArray) : Bool := s.toList.isEmpty || nameB s
def tupB (a b r c d s : ByteArray) : Bool := objB a b && nameB r && objB c d && setB s
def tupText (a b r c d s : ByteArray) : ByteArray :=
 if tupB a b r c d s then
  (if s.toList.isEmpty then objText a b ++ ⟨#[35]⟩ ++ r ++ ⟨#[64]⟩ ++ objText c d else objText a b ++ ⟨#[35]⟩ ++ r ++ ⟨#[64]⟩ ++ objText c d ++ ⟨#[35]⟩ ++ s)
 else ⟨#[]⟩
theorem tupText_no {a b r c d s : ByteArray} (h : tupB a b r c d s = false) : tupText a b r c d s = ⟨#[]⟩ := by simp [tupText, h]
theorem tupText_one {a b r c d s : ByteArray} (h : tupB a b r c d s = true) (hs : s.toList.isEmpty = true) : tupText a b r c d s = objText a b ++ ⟨#[35]⟩ ++ r ++ ⟨#[64]⟩ ++ objText c d := by simp [tupText, h, hs]
theorem tupText_two {a b r c d s : ByteArray} (h : tupB a b r c d s = true) (hs : s.toList.isEmpty = false) : tupText a b r c d s = objText a b ++ ⟨#[35]⟩ ++ r ++ ⟨#[64]⟩ ++ objText c d ++ ⟨#[35]⟩ ++ s := by simp [tupText, h, hs]
theorem tupB_no1 {a b r c d s : ByteArray} (h : objB a b = false) : tupB a b r c d s = false := by simp [tupB, h]
theorem tupB_no2 {a b r c d s : ByteArray} (h : nameB r = false) : tupB a b r c d s = false := by simp [tupB, h]
theorem tupB_no3 {a b r c d s : ByteArray} (h : objB c d = false) : tupB a b r c d s = false := by simp [tupB, h]
theorem tupB_yes {a b r c d s : ByteArray} (h1 : objB a b = true) (h2 : nameB r = true) (h3 : objB c d = true) : tupB a b r c d s = setB s := by simp [tupB, h1, h2, h3]
theorem tupB_parts {a b r c d s : ByteArray} (h : tupB a b r c d s = true) : objB a b = true ∧ nameB r = true ∧ objB c d = true ∧ setB s = true := by
 simp [tupB] at h; exact ⟨h.1.1.1, h.1.1.2, h.1.2, h.2⟩
theorem toList_isEmpty {s : ByteArray} (h : s.toList.isEmpty = true) : s.size = 0 := by
 rw [Go.ByteArray.toList_eq] at h
 have h2 : s.data.toList = [] := by simpa using h
 have h3 : s.data.toList.length = 0 := by rw [h2]; rfl
 simpa using h3
theorem setB_le {s : ByteArray} (h : setB s = true) : s.size ≤ 12 := by
 simp only [setB, Bool.or_eq_true] at h
 rcases h with h | h
 ·have := toList_isEmpty h; omega
 ·exact (nameB_le h).2
end Go.Proofs.YtkpefjefodkddaaGreat.Pl
namespace Go.Proofs.YtkpefjefodkddaaGreat.Pl
def cutL (c : UInt8) : List UInt8 → List UInt8 × List UInt8 × Bool
 | [] => ([], [], false)
 | b :: l => if b = c then ([], l, true) else (b :: (cutL c l).1, (cutL c l).2.1, (cutL c l).2.2)
theorem cutL_at {c : UInt8} {l : List UInt8} {k : Nat} (hk : k < l.length) (hn : ∀ x ∈ l.take k, x ≠ c) (hc : l[k] = c) : cutL c l = (l.take k, l.drop (k + 1), true) := by
 induction l generalizing k with
 | nil => simp at hk
 | cons b l ih =>
  cases k with
  | zero => simp at hc; simp [cutL, hc]
  | succ k =>
   have hb : b ≠ c := hn b (by simp)
   have := ih (k := k) (by simpa using hk) (fun x hx => hn x (by simp [hx])) (by simpa using hc)
   simp [cutL, hb, this]
theorem cutL_none {c : UInt8} {l : List UInt8} (hn : ∀ x ∈ l, x ≠ c) : cutL c l = (l, [], false) := by
 induction l with
 | nil => rfl
 | cons b l ih =>
  have hb : b ≠ c := hn b (by simp)
  have := ih (fun x hx => hn x (by simp [hx]))
  simp [cutL, hb, this]
theorem cutL_len (c : UInt8) (l : List UInt8) : (cutL c l).1.length ≤ l.length ∧ (cutL c l).2.1.length ≤ l.length := by
 induction l with
 | nil => simp [cutL]
 | cons b l ih =>
  unfold cutL
  split
  ·simp
  ·simp; omega
def cutA (c : UInt8) (s : ByteArray) : ByteArray := ⟨(cutL c s.data.toList).1.toArray⟩
def cutZ (c : UInt8) (s : ByteArray) : ByteArray := ⟨(cutL c s.data.toList).2.1.toArray⟩
def cutF (c : UInt8) (s : ByteArray) : Bool := (cutL c s.data.toList).2.2
theorem size_list (l : List UInt8) : (ByteArray.mk l.toArray).size = l.length := rfl
theorem cutA_le (c : UInt8) (s : ByteArray) : (cutA c s).size ≤ s.size := by
 unfold cutA; rw [size_list]; exact (cutL_len c s.data.toList).1
theorem cutZ_le (c : UInt8) (s : ByteArray) : (cutZ c s).size ≤ s.size := by
 unfold cutZ; rw [size_list]; exact (cutL_len c s.data.toList).2
theorem ext_data {a b : ByteArray} (h : a.data.toList = b.data.toList) : a = b := by
 cases a; cases b; simp at h; simp [h]
def noB (c : UInt8) (s : ByteArray) (k : Nat) : Prop := ∀ x ∈ s.data.toList.take k, x ≠ c
theorem noB_zero (c : UInt8) (s : ByteArray) : noB c s 0 := by intro x hx; simp at hx
theorem noB_succ {c : UInt8} {s : ByteArray} {k : Nat} (h : k < s.size) (hn : noB c s k) (hc : s[k] ≠ c) : noB c s (k + 1) := by
 intro x hx
 rw [take_snoc s k h] at hx
 simp at hx
 rcases hx with hx | hx
 ·exact hn x (by simpa using hx)
 ·subst hx; exact hc
theorem cut_at {c : UInt8} {s : ByteArray} {k : Nat} (h : k < s.size) (hn : noB c s k) (hc : s[k] = c) : cutL c s.data.toList = (s.data.toList.take k, s.data.toList.drop (k + 1), true) :=
 cutL_at (by simpa using h) hn (by simpa [ByteArray.getElem_eq_getElem_data] using hc)
theorem cut_none {c : UInt8} {s : ByteArray} {k : Nat} (h : s.size ≤ k) (hn : noB c s k) : cutL c s.data.toList = (s.data.toList, [], false) :=
 cutL_none (fun x hx => hn x (by rw [List.take_of_length_le (by simpa using h)]; exact hx))
def rdB (s : ByteArray) : Bool := objB (cutA 58 s) (cutZ 58 s)
def rdT (s : ByteArray) : ByteArray := if rdB s then cutA 58 s else ⟨#[]⟩
def rdI (s : ByteArray) : ByteArray := if rdB s then cutZ 58 s else ⟨#[]⟩
theorem cutL_miss {c : UInt8} {l : List UInt8} (h : (cutL c l).2.2 = false) : (cutL c l).2.1 = [] := by
 induction l with
 | nil => rfl
 | cons b l ih =>
  unfold cutL at h ⊢
  split
  ·rename_i hb; simp [hb] at h
  ·rename_i hb; simp [hb] at h; simpa [hb] using ih h
theorem cut_miss {c : UInt8} {s : ByteArray} (h : cutF c s = false) : cutZ c s = ⟨#[]⟩ := by
 unfold cutF at h; unfold cutZ; rw [cutL_miss h]
theorem rd_yes {s : ByteArray} (h : rdB s = true) : rdT s = cutA 58 s ∧ rdI s = cutZ 58 s := by simp [rdT, rdI, h]
end Go.Proofs.YtkpefjefodkddaaGreat.Pl
namespace Go.Proofs.YtkpefjefodkddaaGreat
open Pl
def tType : ByteArray := ⟨#[116, 121, 112, 101, 32]⟩
def tIs : ByteArray := ⟨#[61, 32]⟩
def tFeed : ByteArray := ⟨#[10]⟩
def isTyp (l : ByteArray) : Bool := decide (5 < l.size) && (l.extract 0 5).toList == tType.toList
def tailB (t : ByteArray) : Bool := decide (2 ≤ t.size) && (t.extract 0 2).toList == tIs.toList
def exprT (l : ByteArray) : ByteArray := (cutZ 32 l).extract 2 (cutZ 32 l).size
def addRel (acc : List Ty) (r : Rl) : List Ty := match acc.getLast? with
 | none => []
 | some t => acc.dropLast ++ [⟨t.name, t.rels ++ [r]⟩]
theorem addRel_snoc (xs : List Ty) (t : Ty) (r : Rl) : addRel (xs ++ [t]) r = xs ++ [⟨t.name, t.rels ++ [r]⟩] := by
 unfold addRel; simp
def lineP (acc : List Ty) (l : ByteArray) : Option (List Ty) :=
 if isTyp l then some (acc ++ [⟨l.extract 5 l.size, []⟩])
 else if !acc.isEmpty && tailB (cutZ 32 l) && readB (exprT l) then some (addRel acc ⟨cutA 32 l, (endR (exprT l)).out⟩) else none
def linesP : Nat → ByteArray → List Ty → Option (List Ty)
 | 0, _, acc => some acc
 | n + 1, rest, acc =>
  if rest.toList.isEmpty then some acc
  else if cutF 10 rest then
   match lineP acc (cutA 10 rest) with
   | none => none
   | some a => linesP n (cutZ 10 rest) a
  else none
theorem bytes_list (b : ByteArray) : b.toList = b.data.toList := Go.ByteArray.toList_eq b
theorem cutL_join (c : UInt8) (l : List UInt8) (h : (cutL c l).2.2 = true) : l = (cutL c l).1 ++ c :: (cutL c l).2.1 := by
 induction l with
 | nil => simp [cutL] at h
 | cons b l ih =>
  unfold cutL at h ⊢
  split
  ·rename_i e; simp [e]
  ·rename_i e
   rw [if_neg e] at h
   simp only [List.cons_append, List.cons.injEq, true_and]
   exact ih h
theorem cut_join {c : UInt8} {s : ByteArray} (h : cutF c s = true) : s = (cutA c s ++ ⟨#[c]⟩) ++ cutZ c s := by
 apply ext_data'
 have := cutL_join c s.data.toList h
 simpa [cutA, cutZ, ByteArray.data_append] using this
theorem cut_less {c : UInt8} {s : ByteArray} (h : cutF c s = true) : (cutZ c s).size < s.size := by
 have := congrArg ByteArray.size (cut_join h)
 have e1 : (⟨#[c]⟩ : ByteArray).size = 1 := rfl
 simp only [ByteArray.size_append, e1] at this
 omega
theorem split_at (l : ByteArray) (k : Nat) (hk : k ≤ l.size) : l = l.extract 0 k ++ l.extract k l.size := by
 apply ext_data'
 rw [ByteArray.data_append, ByteArray.data_extract, ByteArray.data_extract]
 have hk' : k ≤ l.data.size := hk
 have h2 : l.size = l.data.size := rfl
 rw [h2]
 simp
 rw [show max k l.size = l.data.toList.length by simp [Nat.max_def]; omega, List.take_length]
theorem toList_inj {a b : ByteArray} (h : a.toList = b.toList) : a = b := by
 rw [bytes_list, bytes_list] at h; exact ext_data' h
theorem typ_line {l : ByteArray} (h : isTyp l = true) : l = tType ++ l.extract 5 l.size := by
 unfold isTyp at h
 simp only [Bool.and_eq_true, decide_eq_true_eq, beq_iff_eq] at h
 have e := toList_inj h.2
 conv => lhs; rw [split_at l 5 (by omega), e]
theorem rel_line {l : ByteArray} (h : tailB (cutZ 32 l) = true) : l = ((cutA 32 l ++ ⟨#[32, 61, 32]⟩) ++ exprT l) := by
 unfold tailB at h
 simp only [Bool.and_eq_true, decide_eq_true_eq, beq_iff_eq] at h
 have hf : cutF 32 l = true := by
  cases e : cutF 32 l with
  | true => rfl
  | false => rw [cut_miss e] at h; exact absurd h.1 (by decide)
 have e := toList_inj h.2
 have e2 : cutZ 32 l = tIs ++ exprT l := by
  conv => lhs; rw [split_at (cutZ 32 l) 2 h.1, e]
  rfl
 have e3 : (⟨#[32, 61, 32]⟩ : ByteArray) = ⟨#[32]⟩ ++ tIs := by apply ext_data'; simp [ByteArray.data_append, tIs]
 conv => lhs; rw [cut_join hf, e2]
 rw [e3]
 simp only [ByteArray.append_assoc]
theorem readB_text {s : ByteArray} (h : readB s = true) : exText (endR s).out = s ∧ s.size ≤ 1000 ∧ specE (endR s).out = true := by
 unfold readB at h
 simp only [Bool.and_eq_true, decide_eq_true_eq, beq_iff_eq] at h
 exact ⟨toList_inj h.2, h.1.1.1.1, h.1.2⟩
theorem line_text {acc acc' : List Ty} {l : ByteArray} (h : lineP acc l = some acc') : schTx acc' = schTx acc ++ (l ++ tFeed) := by
 unfold lineP at h
 split at h
 ·rename_i ht
  injection h with h
  subst h
  rw [schTx_snoc]
  conv => rhs; rw [typ_line ht]
  simp only [headTx, relsTx, app_nil]
  rfl
 ·split at h
  ·rename_i h2
   injection h with h
   subst h
   simp only [Bool.and_eq_true, Bool.not_eq_true'] at h2
   obtain ⟨⟨h3, h4⟩, h5⟩ := h2
   have hne : acc ≠ [] := fun e => by rw [e] at h3; simp at h3
   have e1 := List.dropLast_concat_getLast hne
   rw [← e1, addRel_snoc, schTx_snoc, schTx_snoc, relsTx_snoc]
   conv => rhs; rw [rel_line h4]
   have e2 := (readB_text h5).1
   simp only [relTx, e2, ByteArray.append_assoc]
   rfl
  ·cases h
def okT (T : List Ty) : Prop := ∀ t ∈ T, ∀ r ∈ t.rels, r.expr.length ≤ 15 ∧ ∀ e ∈ r.expr, e.light ∧ e.fits
theorem line_ok {acc acc' : List Ty} {l : ByteArray} (h : lineP acc l = some acc') (hk : okT acc) : okT acc' := by
 unfold lineP at h
 split at h
 ·injection h with h
  subst h
  intro t ht r hr
  rcases List.mem_append.1 ht with ht | ht
  ·exact hk t ht r hr
  ·rw [List.mem_singleton] at ht; subst ht; cases hr
 ·split at h
  ·rename_i h2
   injection h with h
   subst h
   simp only [Bool.and_eq_true, Bool.not_eq_true'] at h2
   obtain ⟨⟨h3, h4⟩, h5⟩ := h2
   have hne : acc ≠ [] := fun e => by rw [e] at h3; simp at h3
   have e1 := List.dropLast_concat_getLast hne
   obtain ⟨-, hs, hsp⟩ := readB_text h5
   intro t ht r hr
   rw [← e1, addRel_snoc] at ht
   rcases List.mem_append.1 ht with ht | ht
   ·exact hk t (by rw [← e1]; exact List.mem_append_left _ ht) r hr
   ·rw [List.mem_singleton] at ht; subst ht
    rcases List.mem_append.1 hr with hr | hr
    ·exact hk (acc.getLast hne) (List.getLast_mem hne) r hr
    ·rw [List.mem_singleton] at hr; subst hr
     refine ⟨(specE_few hsp).2, fun e he => ?_⟩
     exact (rdP_sm (s := exprT l) _ true ⟨0, false, []⟩ (Nat.zero_le _) (fun e he => by cases he) e he).light hs
  ·cases h
theorem relsTx_size : ∀ (rs : List Rl), rs.length * 4 ≤ (relsTx rs).size ∧ ∀ r ∈ rs, r.name.size + 4 ≤ (relsTx rs).size
 | [] => ⟨by simp, fun r hr => by cases hr⟩
 | r :: rs => by
  obtain ⟨h1, h2⟩ := relsTx_size rs
  have e1 : (⟨#[32, 61, 32]⟩ : ByteArray).size = 3 := rfl
  have e2 : (⟨#[10]⟩ : ByteArray).size = 1 := rfl
  have h3 : (relsTx (r :: rs)).size = r.name.size + 3 + (exText r.expr).size + 1 + (relsTx rs).size := by simp only [relsTx, relTx, ByteArray.size_append, e1, e2]
  refine ⟨by rw [h3, List.length_cons]; omega, fun q hq => ?_⟩
  rcases List.mem_cons.1 hq with rfl | hq
  ·omega
  ·have := h2 q hq; omega
theorem schTx_size : ∀ (T : List Ty), T.length * 6 ≤ (schTx T).size ∧ ∀ t ∈ T, t.name.size + 6 + (relsTx t.rels).size ≤ (schTx T).size
 | [] => ⟨by simp, fun r hr => by cases hr⟩
 | t :: ts => by
  obtain ⟨h1, h2⟩ := schTx_size ts
  have h3 : (schTx (t :: ts)).size = t.name.size + 6 + (relsTx t.rels).size + (schTx ts).size := by simp only [schTx, ByteArray.size_append, headTx_size]
  refine ⟨by rw [h3, List.length_cons]; omega, fun q hq => ?_⟩
  rcases List.mem_cons.1 hq with rfl | hq
  ·omega
  ·have := h2 q hq; omega
theorem rows_ok {rs : List TR} (hk : okT (tys rs)) (hz : (schTx (tys rs)).size ≤ 3000) : rs.length ≤ 500 ∧ (∀ r ∈ rs, r.rows.length ≤ 750 ∧ r.name.size ≤ 3000 ∧ ∀ q ∈ r.rows, q.name.size ≤ 3000) ∧ (∀ r ∈ rs, r.light) ∧ ∀ r ∈ rs, r.fits := by
 obtain ⟨h1, h2⟩ := schTx_size (tys rs)
 rw [tys_len] at h1
 have key : ∀ r ∈ rs, r.rows.length ≤ 750 ∧ r.name.size ≤ 3000 ∧ ∀ q ∈ r.rows, q.name.size ≤ 3000 := fun r hr => by
  have h3 := h2 r.p (List.mem_map.2 ⟨r, hr, rfl⟩)
  obtain ⟨h4, h5⟩ := relsTx_size (rls r.rows)
  rw [rls_len] at h4
  have h6 : r.name.size + 6 + (relsTx (rls r.rows)).size ≤ (schTx (tys rs)).size := h3
  refine ⟨by omega, by omega, fun q hq => ?_⟩
  have := h5 q.p (List.mem_map.2 ⟨q, hq, rfl⟩)
  have h7 : q.name.size + 4 ≤ (relsTx (rls r.rows)).size := this
  omega
 have kex : ∀ r ∈ rs, ∀ q ∈ r.rows, q.rows.length ≤ 15 ∧ ∀ x ∈ q.rows, x.e.light ∧ x.e.fits := fun r hr q hq => by
  have := hk r.p (List.mem_map.2 ⟨r, hr, rfl⟩) q.p (List.mem_map.2 ⟨q, hq, rfl⟩)
  exact ⟨by rw [← exs_len]; exact this.1, fun x hx => this.2 x.e (List.mem_map.2 ⟨x, hx, rfl⟩)⟩
 refine ⟨by omega, key, fun r hr => ⟨by have := (key r hr).1; omega, fun q hq => ⟨by have := (kex r hr q hq).1; omega, fun x hx => ((kex r hr q hq).2 x hx).1⟩⟩, fun r hr => ⟨by have := (key r hr).2.1; unfold maxLen; omega, by have := (key r hr).1; unfold maxLen; omega, fun q hq => ⟨by have := (key r hr).2.2 q hq; unfold maxLen; omega, by have := (kex r hr q hq).1; unfold maxLen; omega, fun x hx => ((kex r hr q hq).2 x hx).2⟩⟩⟩
end Go.Proofs.YtkpefjefodkddaaGreat
