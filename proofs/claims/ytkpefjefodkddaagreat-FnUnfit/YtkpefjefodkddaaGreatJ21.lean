/- Plain facts on texts: a right tuple is read out of its text, by either way of cutting; what is read out of a text has that text. Nothing of the program is read here. -/
import Derived.Test.YtkpefjefodkddaaGreatJ15
import Derived.Test.YtkpefjefodkddaaGreatAhead
import Derived.Test.YtkpefjefodkddaaGreatJ20
import Derived.Test.YtkpefjefodkddaaGreatJ3
import Derived.OwnWalk
import Derived.Maps.AppendAt
import Derived.Deep.RegionHeld3
import Derived.Deep.DrawnRows
import Derived.Test.YtkpefjefodkddaaGreatTuplesOk
import Derived.Sort.Statements
import Derived.Deep.QuietTactic
import Derived.BigQuiet
namespace Go.Proofs.YtkpefjefodkddaaGreat.Pl
theorem cutL_mid {c : UInt8} {l m : List UInt8} (h : ∀ x ∈ l, x ≠ c) : cutL c (l ++ c :: m) = (l, m, true) := by
 induction l with
 | nil => simp [cutL]
 | cons b l ih =>
  have hb : b ≠ c := h b (by simp)
  have := ih (fun x hx => h x (by simp [hx]))
  simp [cutL, hb, this]
theorem cutA_list (c : UInt8) (s : ByteArray) : (cutA c s).data.toList = (cutL c s.data.toList).1 := by simp [cutA]
theorem cutZ_list (c : UInt8) (s : ByteArray) : (cutZ c s).data.toList = (cutL c s.data.toList).2.1 := by simp [cutZ]
theorem app_list (a b : ByteArray) : (a ++ b).data.toList = a.data.toList ++ b.data.toList := by simp [ByteArray.data_append]
theorem cut_mid {c : UInt8} {s : ByteArray} {l m : List UInt8} (hs : s.data.toList = l ++ c :: m) (h : ∀ x ∈ l, x ≠ c) : (cutA c s).data.toList = l ∧ (cutZ c s).data.toList = m ∧ cutF c s = true := by
 rw [cutA_list, cutZ_list, cutF, hs, cutL_mid h]; exact ⟨rfl, rfl, rfl⟩
theorem cut_not {c : UInt8} {s : ByteArray} (h : ∀ x ∈ s.data.toList, x ≠ c) : cutA c s = s ∧ cutZ c s = ⟨#[]⟩ ∧ cutF c s = false := by
 refine ⟨ext_data ?_, ext_data ?_, ?_⟩
 ·rw [cutA_list, cutL_none h]
 ·rw [cutZ_list, cutL_none h]
 ·rw [cutF, cutL_none h]
def plainB (l : List UInt8) : Prop := ∀ x ∈ l, x ≠ 35 ∧ x ≠ 58 ∧ x ≠ 64
theorem idB_plain {x : UInt8} (h : idB x = true) : x ≠ 35 ∧ x ≠ 58 ∧ x ≠ 64 := by
 refine ⟨?_, ?_, ?_⟩ <;> (rintro rfl; revert h; decide)
theorem letB_plain {x : UInt8} (h : letB x = true) : x ≠ 35 ∧ x ≠ 58 ∧ x ≠ 64 := idB_plain (by simp [idB, h])
theorem nameB_plain {s : ByteArray} (h : nameB s = true) : plainB s.data.toList := by
 simp only [nameB, signsB, allB, Bool.and_eq_true, List.all_eq_true] at h
 exact fun x hx => letB_plain (h.1.2 x hx)
theorem isIdB_plain {s : ByteArray} (h : isIdB s = true) : plainB s.data.toList := by
 simp only [isIdB, signsB, allB, Bool.and_eq_true, List.all_eq_true] at h
 exact fun x hx => idB_plain (h.2 x hx)
theorem objB_parts {a b : ByteArray} (h : objB a b = true) : nameB a = true ∧ isIdB b = true := by simpa [objB] using h
theorem objText_list {a b : ByteArray} (h : objB a b = true) : (objText a b).data.toList = a.data.toList ++ 58 :: b.data.toList := by
 rw [objText_yes h, app_list, app_list]; simp
theorem objText_plain {a b : ByteArray} (h : objB a b = true) : ∀ x ∈ (objText a b).data.toList, x ≠ 35 ∧ x ≠ 64 := by
 intro x hx
 rw [objText_list h] at hx
 have h1 := nameB_plain (objB_parts h).1
 have h2 := isIdB_plain (objB_parts h).2
 simp only [List.mem_append, List.mem_cons] at hx
 rcases hx with hx | hx | hx
 ·exact ⟨(h1 x hx).1, (h1 x hx).2.2⟩
 ·subst hx; decide
 ·exact ⟨(h2 x hx).1, (h2 x hx).2.2⟩
theorem rd_objText {a b : ByteArray} (h : objB a b = true) : rdB (objText a b) = true ∧ rdT (objText a b) = a ∧ rdI (objText a b) = b := by
 obtain ⟨h1, h2, -⟩ := cut_mid (c := 58) (objText_list h) (fun x hx => (nameB_plain (objB_parts h).1 x hx).2.1)
 have e1 : cutA 58 (objText a b) = a := ext_data h1
 have e2 : cutZ 58 (objText a b) = b := ext_data h2
 have hb : rdB (objText a b) = true := by rw [rdB, e1, e2]; exact h
 exact ⟨hb, by rw [(rd_yes hb).1, e1], by rw [(rd_yes hb).2, e2]⟩
def tailT (s : ByteArray) : List UInt8 := if s.toList.isEmpty then [] else 35 :: s.data.toList
theorem tupText_list {a b r c d s : ByteArray} (h : tupB a b r c d s = true) :
  (tupText a b r c d s).data.toList = (objText a b).data.toList ++ 35 :: (r.data.toList ++ 64 :: ((objText c d).data.toList ++ tailT s)) := by
 by_cases hs : s.toList.isEmpty = true
 ·rw [tupText_one h hs, tailT, if_pos hs]; simp
 ·have hs' : s.toList.isEmpty = false := by simpa using hs
  rw [tupText_two h hs', tailT, if_neg hs]; simp
theorem empty_of {s : ByteArray} (h : s.toList.isEmpty = true) : s = ⟨#[]⟩ := by
 refine ext_data ?_
 rw [Go.ByteArray.toList_eq] at h
 simpa using h
theorem cut_tail {o s x : ByteArray} (ho : ∀ y ∈ o.data.toList, y ≠ 35) (hx : x.data.toList = o.data.toList ++ tailT s) :
  cutA 35 x = o ∧ cutZ 35 x = s ∧ cutF 35 x = !s.toList.isEmpty := by
 by_cases hs : s.toList.isEmpty = true
 ·have e : x = o := ext_data (by rw [hx, tailT, if_pos hs]; simp)
  subst e
  obtain ⟨h1, h2, h3⟩ := cut_not (c := 35) (s := x) ho
  exact ⟨h1, by rw [h2, empty_of hs], by rw [h3, hs]; rfl⟩
 ·rw [tailT, if_neg hs] at hx
  obtain ⟨h1, h2, h3⟩ := cut_mid hx ho
  have hs' : s.toList.isEmpty = false := by simpa using hs
  exact ⟨ext_data h1, ext_data h2, by rw [h3, hs']; rfl⟩
def i1 (s : ByteArray) := cutZ 35 s
def i2 (s : ByteArray) := cutZ 64 (i1 s)
theorem impl_reads {a b r c d t s : ByteArray} (h : tupB a b r c d t = true) (hs : tupText a b r c d t = s) :
  cutA 35 s = objText a b ∧ cutA 64 (i1 s) = r ∧ cutA 35 (i2 s) = objText c d ∧ cutZ 35 (i2 s) = t := by
 obtain ⟨h1, h2, h3, h4⟩ := tupB_parts h
 have hl := tupText_list h
 rw [hs] at hl
 obtain ⟨c1, c2, -⟩ := cut_mid hl (fun x hx => (objText_plain h1 x hx).1)
 obtain ⟨d1, d2, -⟩ := cut_mid (s := i1 s) c2 (fun x hx => (nameB_plain h2 x hx).2.2)
 obtain ⟨e1, e2, -⟩ := cut_tail (o := objText c d) (s := t) (x := i2 s) (fun x hx => (objText_plain h3 x hx).1) d2
 exact ⟨ext_data c1, ext_data d1, e1, e2⟩
def ReadAs (s a b r c d t : ByteArray) (f : Bool) : Prop :=
 (f = true ∧ tupB a b r c d t = true ∧ tupText a b r c d t = s) ∨
 (f = false ∧ (a = ⟨#[]⟩ ∧ b = ⟨#[]⟩ ∧ r = ⟨#[]⟩ ∧ c = ⟨#[]⟩ ∧ d = ⟨#[]⟩ ∧ t = ⟨#[]⟩) ∧ ∀ a b r c d t, tupB a b r c d t = true → tupText a b r c d t ≠ s)
theorem tupText_inj {a b r c d t a' b' r' c' d' t' : ByteArray} (h : tupB a b r c d t = true) (h' : tupB a' b' r' c' d' t' = true) (e : tupText a b r c d t = tupText a' b' r' c' d' t') :
  a = a' ∧ b = b' ∧ r = r' ∧ c = c' ∧ d = d' ∧ t = t' := by
 obtain ⟨x1, x2, x3, x4⟩ := impl_reads h e
 obtain ⟨y1, y2, y3, y4⟩ := impl_reads h' rfl
 obtain ⟨p1, p2, p3, p4⟩ := tupB_parts h
 obtain ⟨q1, q2, q3, q4⟩ := tupB_parts h'
 have o1 : objText a b = objText a' b' := x1.symm.trans y1
 have o2 : objText c d = objText c' d' := x3.symm.trans y3
 obtain ⟨-, u1, u2⟩ := rd_objText p1
 obtain ⟨-, v1, v2⟩ := rd_objText q1
 obtain ⟨-, u3, u4⟩ := rd_objText p3
 obtain ⟨-, v3, v4⟩ := rd_objText q3
 rw [o1] at u1 u2
 rw [o2] at u3 u4
 exact ⟨u1.symm.trans v1, u2.symm.trans v2, x2.symm.trans y2, u3.symm.trans v3, u4.symm.trans v4, x4.symm.trans y4⟩
theorem ReadAs.one {s a b r c d t a' b' r' c' d' t' : ByteArray} {f f' : Bool} (h : ReadAs s a b r c d t f) (h' : ReadAs s a' b' r' c' d' t' f') :
  (a = a' ∧ b = b' ∧ r = r' ∧ c = c' ∧ d = d' ∧ t = t') ∧ f = f' := by
 rcases h with ⟨rfl, h1, h2⟩ | ⟨rfl, h1, h2⟩
 ·rcases h' with ⟨rfl, k1, k2⟩ | ⟨rfl, k1, k2⟩
  ·exact ⟨tupText_inj h1 k1 (h2.trans k2.symm), rfl⟩
  ·exact absurd h2 (k2 _ _ _ _ _ _ h1)
 ·rcases h' with ⟨rfl, k1, k2⟩ | ⟨rfl, k1, k2⟩
  ·exact absurd k2 (h2 _ _ _ _ _ _ k1)
  ·obtain ⟨rfl, rfl, rfl, rfl, rfl, rfl⟩ := h1
   obtain ⟨rfl, rfl, rfl, rfl, rfl, rfl⟩ := k1
   exact ⟨⟨rfl, rfl, rfl, rfl, rfl, rfl⟩, rfl⟩
end Go.Proofs.YtkpefjefodkddaaGreat.Pl
namespace Go.Proofs.YtkpefjefodkddaaGreat
open Pl
theorem less_trans : ∀ x y z : List UInt8, Op.bytesLess x y = true → Op.bytesLess y z = true → Op.bytesLess x z = true
 | [], _, [], h, k => by cases ‹List UInt8› <;> simp [Op.bytesLess] at h k
 | [], _, _ :: _, _, _ => rfl
 | _ :: _, [], _, h, _ => by simp [Op.bytesLess] at h
 | _ :: _, _ :: _, [], _, k => by simp [Op.bytesLess] at k
 | a :: x, b :: y, c :: z, h, k => by
  simp only [Op.bytesLess, Bool.or_eq_true, Bool.and_eq_true, decide_eq_true_eq, beq_iff_eq] at h k ⊢
  rcases h with h | ⟨h, h'⟩
  ·rcases k with k | ⟨k, k'⟩
   ·exact .inl (UInt8.lt_trans h k)
   ·exact .inl (k ▸ h)
  ·rcases k with k | ⟨k, k'⟩
   ·exact .inl (h ▸ k)
   ·exact .inr ⟨h.trans k, less_trans x y z h' k'⟩
end Go.Proofs.YtkpefjefodkddaaGreat
namespace Go.Proofs.YtkpefjefodkddaaGreat
open Go.ChangeShapes Go.WideShapes Go.ChangeAt Go.RowKit Go.Maps
open Pl
def tpEq (x y : Tp) : Bool := x.a.toList == y.a.toList && x.b.toList == y.b.toList && x.r.toList == y.r.toList && x.c.toList == y.c.toList && x.d.toList == y.d.toList && x.s.toList == y.s.toList
theorem byte_inj {x y : ByteArray} (k : x.toList = y.toList) : x = y := by
 rw [Go.ByteArray.toList_eq, Go.ByteArray.toList_eq] at k
 obtain ⟨x⟩ := x
 obtain ⟨y⟩ := y
 exact congrArg ByteArray.mk (Array.toList_inj.1 k)
theorem tpEq_iff {x y : Tp} : tpEq x y = true ↔ x = y := by
 unfold tpEq
 simp only [Bool.and_eq_true, beq_iff_eq]
 constructor
 ·rintro ⟨⟨⟨⟨⟨h0, h1⟩, h2⟩, h3⟩, h4⟩, h5⟩
  obtain ⟨xa, xb, xr, xc, xd, xs⟩ := x
  obtain ⟨ya, yb, yr, yc, yd, ys⟩ := y
  simp only at h0 h1 h2 h3 h4 h5
  rw [byte_inj h0, byte_inj h1, byte_inj h2, byte_inj h3, byte_inj h4, byte_inj h5]
 ·rintro rfl; simp
theorem tp_eql (x y : Tp) {v : Bool} (h : tpEq x y = v) (w : World) :
  (binOp .eql 36 (.agg #[.string x.a, .string x.b, .string x.r, .string x.c, .string x.d, .string x.s]) (.agg #[.string y.a, .string y.b, .string y.r, .string y.c, .string y.d, .string y.s])).run Tryz.prog w = .ok (.bool v) w := by
 subst h
 go_simp
 unfold tpEq
 (repeat' split) <;> simp_all
theorem tp_neq (x y : Tp) {v : Bool} (h : (!tpEq x y) = v) (w : World) :
  (binOp .neq 36 (.agg #[.string x.a, .string x.b, .string x.r, .string x.c, .string x.d, .string x.s]) (.agg #[.string y.a, .string y.b, .string y.r, .string y.c, .string y.d, .string y.s])).run Tryz.prog w = .ok (.bool v) w := by
 subst h
 go_simp
 unfold tpEq
 (repeat' split) <;> simp_all
def hasT (ts : List Tp) (t : Tp) : Bool := ts.any fun x => tpEq x t
theorem hasT_drop {ts : List Tp} {t : Tp} {k : Nat} (h : k < ts.length) : hasT (ts.drop k) t = (tpEq ts[k] t || hasT (ts.drop (k + 1)) t) := by
 rw [List.drop_eq_getElem_cons h]; rfl
def Tp.row (t : Tp) : List Value := [.string t.a, .string t.b, .string t.r, .string t.c, .string t.d, .string t.s]
def rows6 (ts : List Tp) : List Value := ts.flatMap Tp.row
theorem rows6_len : ∀ ts : List Tp, (rows6 ts).length = ts.length * 6
 | [] => rfl
 | r :: rs => by have := rows6_len rs; simp only [rows6, Tp.row, List.flatMap_cons, List.length_append, List.length_cons, List.length_nil] at this ⊢; omega
theorem rows6_at : ∀ (rs : List Tp) (i : Nat) (h : i < rs.length) (j : Nat), j < 6 → (rows6 rs)[i * 6 + j]? = (rs[i]).row[j]?
 | [], i, h, _, _ => by simp at h
 | r :: rs, 0, _, j, hj => by
  simp only [rows6, List.flatMap_cons, Nat.zero_mul, Nat.zero_add, List.getElem_cons_zero]
  rw [List.getElem?_append_left (by simpa [Tp.row] using hj)]
 | r :: rs, i + 1, h, j, hj => by
  have := rows6_at rs i (by simpa using h) j hj
  simp only [rows6, List.flatMap_cons, List.getElem_cons_succ] at this ⊢
  rw [List.getElem?_append_right (by simp [Tp.row]; omega), ← this]
  congr 1
  simp [Tp.row]; omega
theorem rows6_snoc (ts : List Tp) (t : Tp) : rows6 (ts ++ [t]) = rows6 ts ++ t.row := by simp [rows6]
theorem row6_one (t : Tp) : ∀ u ∈ t.row, u.oneCell' = true := by
 intro u hu
 simp [Tp.row] at hu
 rcases hu with rfl | rfl | rfl | rfl | rfl | rfl <;> rfl
theorem row6_news (w : World) (t : Tp) : ∀ j u, t.row[j]? = some u → (w.alloc (.cells #[.string t.a, .string t.b, .string t.r, .string t.c, .string t.d, .string t.s] 36)).cell? ((⟨w.heap.size, 0, none⟩ : Addr).add j) = some u := by
 intro j u hu
 rw [show (⟨w.heap.size, 0, none⟩ : Addr).add j = ⟨w.heap.size, 0 + j, none⟩ by simp [Addr.add]; omega, Nat.zero_add]
 have := World.cell?_alloc_mark w #[.string t.a, .string t.b, .string t.r, .string t.c, .string t.d, .string t.s] 36 (0, 0) j
 rw [this]
 simpa [Tp.row] using hu
theorem ownsT {w : World} {base n : Nat} {v : Value} {ts : List Tp} (h : w.ownsRow base 36 6 v n (rows6 ts)) (hn : n = ts.length) : ∃ ad cap, v = .slice ad ts.length cap ∧ Sl w ad ts ∧ ∀ g, ad = some ⟨g, 0, none⟩ → base ≤ g ∧ g < w.heap.size ∧ Free w g := by
 subst hn
 have h2 := h
 rcases h.2 with ⟨rfl, h0⟩ | ⟨g, cap, cur, rfl, hbg, hg, hnc, -⟩
 ·exact ⟨none, 0, by rw [h0], .inl (List.length_eq_zero_iff.1 h0), fun g e => by cases e⟩
 ·have hlt := h2.lt g rfl
  refine ⟨some ⟨g, 0, none⟩, cap, rfl, .inr ⟨g, 0, rfl, hlt.2, fun i hi => ?_⟩, fun g' e => ?_⟩
  ·have hl := rows6_len ts
   have key : ∀ j, j < 6 → w.cell? ⟨g, 0 + i * 6 + j, none⟩ = (ts[i]).row[j]? := fun j hj => by
    rw [h2.cellAt (0 + i * 6 + j) (by omega), ← rows6_at ts i hi j hj, Nat.zero_add]
   exact ⟨key 0 (by omega), key 1 (by omega), key 2 (by omega), key 3 (by omega), key 4 (by omega), key 5 (by omega)⟩
  ·injection e with e; injection e with e1 e2
   subst e1
   exact ⟨hlt.1, hlt.2, fun y => h2.frozenAt y⟩
end Go.Proofs.YtkpefjefodkddaaGreat
namespace Go.Proofs.YtkpefjefodkddaaGreat
open Pl
def Tp.text (t : Tp) : List UInt8 := (tupText t.a t.b t.r t.c t.d t.s).toList
theorem ahead_less {x y : Tp} (hx : x.ok = true) (hy : y.ok = true) : x.ahead y = Op.bytesLess x.text y.text := aheadB_yes hx hy
theorem ahead_ok {x y : Tp} (h : x.ahead y = true) : x.ok = true ∧ y.ok = true := by
 unfold Tp.ahead aheadB at h
 simp only [Bool.and_eq_true] at h
 exact ⟨h.1.1, h.1.2⟩
theorem ahead_trans {x y z : Tp} (h : x.ahead y = true) (k : y.ahead z = true) : x.ahead z = true := by
 obtain ⟨hx, hy⟩ := ahead_ok h
 obtain ⟨-, hz⟩ := ahead_ok k
 rw [ahead_less hx hy] at h
 rw [ahead_less hy hz] at k
 rw [ahead_less hx hz]
 exact less_trans _ _ _ h k
def Up (l : List Tp) : Prop := l.Pairwise fun x y => x.ahead y = true
theorem up_of {ts : List Tp} (h : tupsB ts = true) : Up ts ∧ (∀ t ∈ ts, t.ok = true) ∧ ts.length ≤ 40 := by
 unfold tupsB at h
 simp only [Bool.and_eq_true, decide_eq_true_eq] at h
 obtain ⟨hl, hu⟩ := h
 have hat : ∀ i, i < ts.length → okAt ts i = true := fun i hi => by
  unfold upOk at hu
  exact List.all_eq_true.1 hu i (List.mem_range.2 hi)
 have hok : ∀ i (hi : i < ts.length), ts[i].ok = true := fun i hi => by
  have := hat i hi
  cases i with
  | zero => rw [okAt_zero hi] at this; exact this
  | succ j => rw [okAt_succ hi] at this; simp only [Bool.and_eq_true] at this; exact this.1
 have hnx : ∀ i (hi : i + 1 < ts.length), ts[i].ahead ts[i + 1] = true := fun i hi => by
  have := hat (i + 1) hi
  rw [okAt_succ hi] at this; simp only [Bool.and_eq_true] at this; exact this.2
 refine ⟨List.pairwise_iff_getElem.2 fun i j hi hj hij => ?_, fun t ht => ?_, hl⟩
 ·obtain ⟨d, rfl⟩ : ∃ d, j = i + 1 + d := ⟨j - (i + 1), by omega⟩
  induction d with
  | zero => exact hnx i hj
  | succ d ih => exact ahead_trans (ih (by omega) (by omega)) (hnx (i + 1 + d) (by omega))
 ·obtain ⟨i, hi, rfl⟩ := List.mem_iff_getElem.1 ht
  exact hok i hi
theorem tupsB_len {ts : List Tp} (h : tupsB ts = true) : ts.length ≤ 40 := (up_of h).2.2
def putT : List Tp → Tp → List Tp
 | [], t => [t]
 | x :: xs, t => if x.ahead t then x :: putT xs t else t :: x :: xs
theorem putT_mem (ts : List Tp) (t y : Tp) : y ∈ putT ts t ↔ y = t ∨ y ∈ ts := by
 induction ts with
 | nil => simp [putT]
 | cons x xs ih =>
  unfold putT
  split
  ·simp only [List.mem_cons, ih]
   constructor
   ·rintro (h | h | h)
    ·exact .inr (.inl h)
    ·exact .inl h
    ·exact .inr (.inr h)
   ·rintro (h | h | h)
    ·exact .inr (.inl h)
    ·exact .inl h
    ·exact .inr (.inr h)
  ·simp
theorem putT_at (ts : List Tp) (t : Tp) (k : Nat) (hk : k ≤ ts.length) (h1 : ∀ i (h : i < ts.length), i < k → ts[i].ahead t = true) (h2 : ∀ h : k < ts.length, ts[k].ahead t = false) : putT ts t = ts.take k ++ t :: ts.drop k := by
 induction ts generalizing k with
 | nil => simp [putT]
 | cons x xs ih =>
  cases k with
  | zero =>
   have := h2 (by simp)
   simp only [List.getElem_cons_zero] at this
   simp [putT, this]
  | succ k =>
   have hx := h1 0 (by simp) (by omega)
   simp only [List.getElem_cons_zero] at hx
   have := ih k (by simpa using hk) (fun i hi hik => by have := h1 (i + 1) (by simpa using hi) (by omega); simpa using this) (fun h => by have := h2 (by simpa using h); simpa using this)
   simp [putT, hx, this]
end Go.Proofs.YtkpefjefodkddaaGreat
namespace Go.Proofs.YtkpefjefodkddaaGreat
open Go.ChangeShapes Go.WideShapes Go.ChangeAt Go.RowKit Go.Maps
open Pl
theorem row6_cells {w : World} {b off : Nat} {ts : List Tp} (h : Row6 w b off ts) : ∀ j u, (rows6 ts)[j]? = some u → w.cell? ((⟨b, off, none⟩ : Addr).add j) = some u := by
 intro j u hu
 have hl := rows6_len ts
 have hj : j < ts.length * 6 := by
  rcases Nat.lt_or_ge j (rows6 ts).length with h | h
  ·omega
  ·rw [List.getElem?_eq_none h] at hu; cases hu
 have hi : j / 6 < ts.length := by omega
 have hr : j % 6 < 6 := Nat.mod_lt _ (by omega)
 have e : j = j / 6 * 6 + j % 6 := by omega
 rw [e, rows6_at ts _ hi _ hr] at hu
 rw [show ((⟨b, off, none⟩ : Addr).add j) = ⟨b, off + j / 6 * 6 + j % 6, none⟩ by rw [show (⟨b, off, none⟩ : Addr).add j = ⟨b, off + j, none⟩ by simp [Addr.add]]; congr 1; omega]
 obtain ⟨c0, c1, c2, c3, c4, c5⟩ := h (j / 6) hi
 have h6 : j % 6 = 0 ∨ j % 6 = 1 ∨ j % 6 = 2 ∨ j % 6 = 3 ∨ j % 6 = 4 ∨ j % 6 = 5 := by omega
 rcases h6 with e6 | e6 | e6 | e6 | e6 | e6 <;> rw [e6] at hu ⊢ <;> simp only [Tp.row, List.getElem?_cons_zero, List.getElem?_cons_succ] at hu <;> rw [← hu] <;> assumption
theorem row6_take {w : World} {b off : Nat} {ts : List Tp} (h : Row6 w b off ts) (k : Nat) : Row6 w b off (ts.take k) := fun i hi => by
 have := h i (by simp at hi; omega)
 simpa using this
theorem row6_drop {w : World} {b off : Nat} {ts : List Tp} (h : Row6 w b off ts) (k : Nat) : Row6 w b (off + k * 6) (ts.drop k) := fun i hi => by
 have := h (k + i) (by simp at hi; omega)
 simp only [List.getElem_drop]
 rw [show off + k * 6 + i * 6 = off + (k + i) * 6 by omega]
 exact this
theorem rows6_one (ts : List Tp) : ∀ u ∈ rows6 ts, u.oneCell' = true := by
 intro u hu
 unfold rows6 at hu
 obtain ⟨t, -, h⟩ := List.mem_flatMap.1 hu
 exact row6_one t u h
theorem rows6_append (xs ys : List Tp) : rows6 (xs ++ ys) = rows6 xs ++ rows6 ys := by simp [rows6]
def Six (w : World) (g : Nat) (t : Tp) : Prop := w.cell? ⟨g, 0, none⟩ = some (.string t.a) ∧ w.cell? ⟨g, 1, none⟩ = some (.string t.b) ∧ w.cell? ⟨g, 2, none⟩ = some (.string t.r) ∧ w.cell? ⟨g, 3, none⟩ = some (.string t.c) ∧ w.cell? ⟨g, 4, none⟩ = some (.string t.d) ∧ w.cell? ⟨g, 5, none⟩ = some (.string t.s) ∧ g < w.heap.size
theorem Six.below {w w' : World} {g : Nat} {t : Tp} (h : Six w g t) (hb : Below w.heap.size w w') : Six w' g t :=
 ⟨mK hb h.2.2.2.2.2.2 h.1, mK hb h.2.2.2.2.2.2 h.2.1, mK hb h.2.2.2.2.2.2 h.2.2.1, mK hb h.2.2.2.2.2.2 h.2.2.2.1, mK hb h.2.2.2.2.2.2 h.2.2.2.2.1, mK hb h.2.2.2.2.2.2 h.2.2.2.2.2.1, Nat.lt_of_lt_of_le h.2.2.2.2.2.2 hb.size⟩
theorem six_new (w : World) (t : Tp) (T : TypeId) : Six (w.alloc (.cells #[.string t.a, .string t.b, .string t.r, .string t.c, .string t.d, .string t.s] T)) w.heap.size t := by
 refine ⟨?_, ?_, ?_, ?_, ?_, ?_, ?_⟩ <;> simp
theorem Six.grown {w w' : World} {g : Nat} {t : Tp} {row : Option Nat} (h : Six w g t) (hg : w.grownBy w' row) (hne : some g ≠ row) : Six w' g t :=
 ⟨hg.cell h.1 hne, hg.cell h.2.1 hne, hg.cell h.2.2.1 hne, hg.cell h.2.2.2.1 hne, hg.cell h.2.2.2.2.1 hne, hg.cell h.2.2.2.2.2.1 hne, Nat.lt_of_lt_of_le h.2.2.2.2.2.2 hg.size⟩
theorem row6_grown {w w' : World} {b off : Nat} {ts : List Tp} {row : Option Nat} (h : Row6 w b off ts) (hg : w.grownBy w' row) (_hb : b < w.heap.size) (hne : some b ≠ row) : Row6 w' b off ts := fun i hi => by
 obtain ⟨c0, c1, c2, c3, c4, c5⟩ := h i hi
 exact ⟨hg.cell c0 hne, hg.cell c1 hne, hg.cell c2 hne, hg.cell c3 hne, hg.cell c4 hne, hg.cell c5 hne⟩
theorem news_none {ts : List Tp} {k : Nat} (h : ts.length ≤ k) (w : World) (ad : Addr) : ∀ j u, (rows6 (ts.drop k))[j]? = some u → w.cell? (ad.add j) = some u := fun j u hu => by
 rw [List.drop_of_length_le h] at hu
 simp [rows6] at hu
theorem ownsRow_base {W : World} {base base' : Nat} {e : TypeId} {size : Nat} {v : Value} {k : Nat} {xs : List Value} (h : W.ownsRow base e size v k xs) (hb : base' ≤ base) : W.ownsRow base' e size v k xs := by
 refine ⟨h.1, ?_⟩
 rcases h.2 with hn | ⟨g, cap, cur, hv, hbg, rest⟩
 ·exact .inl hn
 ·exact .inr ⟨g, cap, cur, hv, Nat.le_trans hb hbg, rest⟩
theorem HID {p : Prop} (h : p) : Hid p := h
theorem six_of {w : World} {g : Nat} {t : Tp} (h0 : w.cell? ⟨g, 0, none⟩ = some (.string t.a)) (h1 : w.cell? ⟨g, 1, none⟩ = some (.string t.b)) (h2 : w.cell? ⟨g, 2, none⟩ = some (.string t.r)) (h3 : w.cell? ⟨g, 3, none⟩ = some (.string t.c)) (h4 : w.cell? ⟨g, 4, none⟩ = some (.string t.d)) (h5 : w.cell? ⟨g, 5, none⟩ = some (.string t.s)) (hl : g < w.heap.size) : Six w g t := ⟨h0, h1, h2, h3, h4, h5, hl⟩
theorem keepPut {w W w' : World} {b n o : Nat} {x0 x1 x2 x3 x4 x5 y0 y1 y2 y3 y4 y5 : Value} (h : W.cell? ⟨b, o, none⟩ = some x0 ∧ W.cell? ⟨b, o + 1, none⟩ = some x1 ∧ W.cell? ⟨b, o + 2, none⟩ = some x2 ∧ W.cell? ⟨b, o + 3, none⟩ = some x3 ∧ W.cell? ⟨b, o + 4, none⟩ = some x4 ∧ W.cell? ⟨b, o + 5, none⟩ = some x5 ∧ W.cell? ⟨n, 0, none⟩ = some y0 ∧ W.cell? ⟨n, 1, none⟩ = some y1 ∧ W.cell? ⟨n, 2, none⟩ = some y2 ∧ W.cell? ⟨n, 3, none⟩ = some y3 ∧ W.cell? ⟨n, 4, none⟩ = some y4 ∧ W.cell? ⟨n, 5, none⟩ = some y5 ∧ b < W.heap.size ∧ n < W.heap.size ∧ Below n w W) (hb : Below W.heap.size W w') :
  w'.cell? ⟨b, o, none⟩ = some x0 ∧ w'.cell? ⟨b, o + 1, none⟩ = some x1 ∧ w'.cell? ⟨b, o + 2, none⟩ = some x2 ∧ w'.cell? ⟨b, o + 3, none⟩ = some x3 ∧ w'.cell? ⟨b, o + 4, none⟩ = some x4 ∧ w'.cell? ⟨b, o + 5, none⟩ = some x5 ∧ w'.cell? ⟨n, 0, none⟩ = some y0 ∧ w'.cell? ⟨n, 1, none⟩ = some y1 ∧ w'.cell? ⟨n, 2, none⟩ = some y2 ∧ w'.cell? ⟨n, 3, none⟩ = some y3 ∧ w'.cell? ⟨n, 4, none⟩ = some y4 ∧ w'.cell? ⟨n, 5, none⟩ = some y5 ∧ b < w'.heap.size ∧ n < w'.heap.size ∧ Below n w w' := by
 obtain ⟨h0, h1, h2, h3, h4, h5, g0, g1, g2, g3, g4, g5, hB, hN, hw⟩ := h
 exact ⟨mK hb hB h0, mK hb hB h1, mK hb hB h2, mK hb hB h3, mK hb hB h4, mK hb hB h5, mK hb hN g0, mK hb hN g1, mK hb hN g2, mK hb hN g3, mK hb hN g4, mK hb hN g5, Nat.lt_of_lt_of_le hB hb.size, Nat.lt_of_lt_of_le hN hb.size, hw.trans (hb.mono (Nat.le_of_lt hN))⟩
end Go.Proofs.YtkpefjefodkddaaGreat
