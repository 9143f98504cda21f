/- 'm[k] = append(m[k], v)': the entry is taken, then stored. -/
import Derived.Test.YtmfgehfbipnngaaJ10
import Derived.WideKeyEntry
import Derived.Test.YtmfgehfbipnngaaJ14
import Derived.Test.YtmfgehfbipnngaaStrata2
namespace Go.Proofs.Ytmfgehfbipnngaa
open Go.ChangeShapes Go.WideShapes Go.ChangeAt Go.RowKit Go.Maps
open Go.ChangeMaps (setBlock heap_setBlock_same heap_setBlock_other)
section
variable {K : Type} {enc : K → Value} {P : Program} {k : TypeId} {w : World} {b n : Nat} {M : K → Option Value}
theorem MapV.of_block {w' : World} (h : MapV enc P k w b n M) (e : w'.heap[b]? = w.heap[b]?) : MapV enc P k w' b n M := by
 obtain ⟨D, ⟨es, clock, hb, r⟩, h2⟩ := h
 exact ⟨D, ⟨es, clock, e.trans hb, r⟩, h2⟩
theorem grown_setBlock {w : World} {b : Nat} {es es' : Array MapEntry} {c c' : Nat} (hb : w.heap[b]? = some (.map es c)) : w.grownBy (setBlock w b (.map es' c')) (some b) :=
 ⟨rfl, rfl, rfl, by simp [setBlock], fun i _ hi => heap_setBlock_other hb _ (fun e => hi (by rw [e]))⟩
theorem MapV.entry [DecidableEq K] {t e : TypeId} (h : MapV enc P k w b n M) (L : WideMaps.KeyLaw P k) (hinj : ∀ x y, enc x = enc y → x = y) (ht : P.underlying t = some (.map k e)) {z : Value} (hz : ∀ u : World, (zeroValue e).run P u = .ok z u) (hn : n < maxLen) {x : K} {kl : Lit} (hkey : keyOf P k (enc x) = some kl) :
  ∃ (st : Nat) (w1 : World), (Instr.mapEntry t (.map (some b)) (enc x)).run P w = .ok (.tuple #[(M x).getD z, goInt st]) w1 ∧ w.grownBy w1 (some b) ∧
   ∀ (w2 : World) (val : Value), w2.heap[b]? = w1.heap[b]? → ∃ w3, (Instr.entryStore t (.map (some b)) (goInt st) val).run P w2 = .ok () w3 ∧ MapV enc P k w3 b (n + 1) (updM M x (some val)) ∧ w2.grownBy w3 (some b) := by
 have LK := Keyed.of_law L
 have hlook := h.look LK ht (hz w) hkey
 have hst := fun v => h.store LK hinj ht hn hkey v
 obtain ⟨D, ⟨es, clock, hb, F, hs, hD⟩, h2⟩ := h
 obtain ⟨v0, st, es1, clock1, hrun, hv0, hback⟩ := WideElems.entry_then_store L ht hz hb F hkey
 have hb1 : (setBlock w b (.map es1 clock1)).heap[b]? = some (.map es1 clock1) := heap_setBlock_same hb _
 have ev : v0 = (M x).getD z := by
  have hl := hlook
  rcases Maps.fit_look false LK ht (hz w) hb F hkey with ⟨hrun2, hno, -⟩ | ⟨e0, y, hmem, hek, hrun2, -, -, -⟩
  ·rw [hl] at hrun2
   injection hrun2 with e1
   rcases hv0 with ⟨e0, hm, hk0, -⟩ | ⟨-, hz0⟩
   ·exact absurd hk0 (hno e0 hm)
   ·rw [hz0, e1]; rfl
  ·rw [hl] at hrun2
   injection hrun2 with e1
   rcases hv0 with ⟨e1', hm, hk0, hv⟩ | ⟨hno, -⟩
   ·have hnd := F.stamped.2.2
    have : e1' = e0 := by
     have h3 : e1'.key = e0.key := by rw [hk0, hek]
     obtain ⟨i, hi, hie⟩ := List.mem_iff_getElem.1 hm
     obtain ⟨j, hj, hje⟩ := List.mem_iff_getElem.1 hmem
     have h4 : (es.toList.map (·.key))[i]'(by simpa using hi) = (es.toList.map (·.key))[j]'(by simpa using hj) := by simp only [List.getElem_map, hie, hje]; exact h3
     have h6 := List.pairwise_iff_getElem.1 hnd
     have h5 : i = j := by
      rcases Nat.lt_trichotomy i j with hl | hl | hl
      ·exact absurd h4 (h6 i j _ _ hl)
      ·exact hl
      ·exact absurd h4.symm (h6 j i _ _ hl)
     subst h5
     rw [← hie, ← hje]
    rw [hv, this, e1]; rfl
   ·exact absurd hek (hno e0 hmem)
 refine ⟨st, _, by rw [hrun, ev], grown_setBlock hb, fun w2 val hw2 => ?_⟩
 have hw2' : w2.heap[b]? = some (.map es1 clock1) := hw2.trans hb1
 obtain ⟨es', clock', hr1, hr2⟩ := hback w2 val hw2'
 obtain ⟨w', hr3, hM', -⟩ := hst val
 rw [hr2] at hr3
 injection hr3 with _ e3
 refine ⟨_, hr1, hM'.of_block ?_, grown_setBlock hw2'⟩
 rw [← e3, heap_setBlock_same hb, heap_setBlock_same hw2']
end
section
variable {K : Type} {enc : K → Value} {P : Program} (w : World) {ops : Array Oper} {rest : List Oper} {o : Oper} {a : Act} {Q : Exit → Act → World → Prop}
theorem wpList_entryV [DecidableEq K] (hg : o.guard = none) (m x : Operand) (t : TypeId) (hop : o.op = Op.mapEntry t m x) (k e : TypeId) (L : WideMaps.KeyLaw P k) (hinj : ∀ x y, enc x = enc y → x = y) (ht : P.underlying t = some (.map k e)) {z : Value} (hz : ∀ u : World, (zeroValue e).run P u = .ok z u) (b n : Nat) (M : K → Option Value)
  (hm : a.eval m = .map (some b)) (hV : MapV enc P k w b n M) (hn : n < maxLen) (y : K) (kl : Lit) (hx : a.eval x = enc y) (hkey : keyOf P k (enc y) = some kl)
  (hK : ∀ (st : Nat) (w1 : World), w.grownBy w1 (some b) → (∀ (w2 : World) (val : Value), w2.heap[b]? = w1.heap[b]? → ∃ w3, (Instr.entryStore t (.map (some b)) (goInt st) val).run P w2 = .ok () w3 ∧ MapV enc P k w3 b (n + 1) (updM M y (some val)) ∧ w2.grownBy w3 (some b)) →
   wpList P ops Q rest (a.put o.dst (.tuple #[(M y).getD z, goInt st])) w1) : wpList P ops Q (o :: rest) a w := by
 refine wpList_plain hg fun K' hK' => ?_
 obtain ⟨st, w1, hrun, h1, h2⟩ := hV.entry L hinj ht hz hn hkey
 unfold Oper.wp
 simp [execOp, hop, hm, hx, hrun, Result.andThen]
 exact hK' _ _ (hK st w1 h1 h2)
theorem wpList_entryStoreV (hg : o.guard = none) (m s v : Operand) (t : TypeId) (hop : o.op = Op.entryStore t m s v) (b st : Nat) (hm : a.eval m = .map (some b)) (hs : a.eval s = goInt st) (u : Value) (hv : a.eval v = u) (k : TypeId) (n : Nat) (M : K → Option Value)
  (hback : ∃ w3, (Instr.entryStore t (.map (some b)) (goInt st) u).run P w = .ok () w3 ∧ MapV enc P k w3 b n M ∧ w.grownBy w3 (some b))
  (hK : ∀ w', MapV enc P k w' b n M → w.grownBy w' (some b) → wpList P ops Q rest (a.put o.dst undef) w') : wpList P ops Q (o :: rest) a w := by
 refine wpList_plain hg fun K' hK' => ?_
 obtain ⟨w3, hrun, h1, h2⟩ := hback
 unfold Oper.wp
 simp [execOp, hop, hm, hs, hv, hrun, Result.andThen]
 exact hK' _ _ (hK w3 h1 h2)
end
end Go.Proofs.Ytmfgehfbipnngaa
namespace Go.Proofs.Ytmfgehfbipnngaa
open Go.ChangeShapes Go.WideShapes Go.ChangeAt Go.RowKit Go.Maps
open Pl
theorem zeroExprs (w : World) : (zeroValue 28).run Try.prog w = .ok (.slice none 0 0) w := by kernel_rfl
theorem has_any (b n : Nat) (M : ByteArray × ByteArray → Option Value) (t r : ByteArray) (w : World) (ht : t.size ≤ maxLen) (hr : r.size ≤ maxLen) (hV : MapV encK Try.prog 72 w b n M) :
  Calls Try.prog 99 #[.map (some b), .string t, .string r] w fun e w' => e = .returned (.bool (M (t, r)).isSome) ∧ w' = w := by
 obtain ⟨kl, hkl⟩ := relKeyOf (t, r) ht hr
 have HV : Hid (MapV encK Try.prog 72 w b n M) := hV
 have HKL : Hid (keyOf Try.prog 72 (encK (t, r)) = some kl) := hkl
 clear hkl hV
 go_enter Try.func99, Try.ntmps99
 go_wp2_with (first | (at_lookup; refine wpList_lookV_ok _ rfl _ _ 75 rfl 72 28 relLaw Try.underlying75 (zeroExprs _) b n M rfl HV.out (t, r) kl rfl HKL.out ?_) | go_in)
 go_ret
 exact ⟨rfl, rfl⟩
theorem told1_any (a : Al) (w : World) :
  Calls Try.prog 143 #[.agg #[.string a.t, .string a.s]] w fun e w' => e = .returned (.bool (!a.s.toList.isEmpty)) ∧ Below w.heap.size w w' := by
 cases h : a.s.toList.isEmpty with
 | true =>
  go_enter Try.func143, Try.ntmps143
  go_wp2
  go_ret
  exact ⟨rfl, (Below.refl _ _).alloc (Nat.le_refl _) _⟩
 | false =>
  go_enter Try.func143, Try.ntmps143
  go_wp2
  go_ret
  exact ⟨rfl, (Below.refl _ _).alloc (Nat.le_refl _) _⟩
theorem anySet_drop (xs : List Al) (k : Nat) (h : k < xs.length) : (xs.drop k).any (fun a => !a.s.toList.isEmpty) = ((!xs[k].s.toList.isEmpty) || (xs.drop (k + 1)).any (fun a => !a.s.toList.isEmpty)) := by
 rw [List.drop_eq_getElem_cons h]; rfl
set_option maxHeartbeats 1000000 in
theorem indexTold_any (ad : Option Addr) (cap : Nat) (xs : List Al) (w : World) (hlen : xs.length ≤ 1048576) (hs : SlA w ad xs) :
  Calls Try.prog 150 #[.slice ad xs.length cap, .func (Fn.func 143) #[] #[]] w fun e w' => (∃ r : Int, e = .returned (.int .i64 r) ∧ decide (0 ≤ r) = xs.any (fun a => !a.s.toList.isEmpty)) ∧ Below w.heap.size w w' := by
 have HS : Hid (SlA w ad xs) := hs
 clear hs
 go_enter Try.func150, Try.ntmps150
 go_wp2_with fail
 go_loopw [8] (fun i wr => ∃ k : Nat, k ≤ xs.length ∧ i = .int .i64 k ∧ Hid ((xs.drop k).any (fun a => !a.s.toList.isEmpty) = xs.any (fun a => !a.s.toList.isEmpty)) ∧ Hid (Below w.heap.size w wr)) (fun i _ => xs.length - (intOf i).toNat)
 case atStart => exact ⟨0, Nat.zero_le _, rfl, rfl, Below.refl _ _⟩
 case round =>
  obtain ⟨k, hk, rfl, HP, HB⟩ := hrel
  by_cases hlt : k < xs.length
  ·rcases HS.out.below HB.out with rfl | ⟨b, off, rfl, hb, hr⟩
   ·simp at hlt
   obtain ⟨t0, t1⟩ := hr k hlt
   have hk1 : (0 : Int) ≤ (k : Int) := by omega
   have hk2 : (k : Int) < (xs.length : Int) := by omega
   clear hr
   cases he : xs[k].s.toList.isEmpty with
   | false =>
    have HN : Hid (xs.any (fun a => !a.s.toList.isEmpty) = true) := by show _ = _; rw [← HP.out, anySet_drop _ _ hlt, he]; rfl
    go_wp2_with (go_at_call 143; refine (told1_any xs[k] _).mono ?_; rintro e w' ⟨he2, hbx⟩; rw [he] at he2; subst he2)
    go_ret
    exact ⟨⟨k, rfl, by rw [HN.out]; simp⟩, HB.out.trans (hbx.mono HB.out.size)⟩
   | true =>
    have HP2 : Hid ((xs.drop (k + 1)).any (fun a => !a.s.toList.isEmpty) = xs.any (fun a => !a.s.toList.isEmpty)) := by show _ = _; rw [← HP.out, anySet_drop _ _ hlt, he]; rfl
    go_wp2_with (go_at_call 143; refine (told1_any xs[k] _).mono ?_; rintro e w' ⟨he2, hbx⟩; rw [he] at he2; subst he2)
    go_roundw
    case rel => exact ⟨k + 1, by omega, by go_num, HP2, HB.out.trans (hbx.mono HB.out.size)⟩
    case measure => first | (simp [intOf]; done) | (simp [intOf]; omega)
  ·have HN : Hid (xs.any (fun a => !a.s.toList.isEmpty) = false) := by show _ = _; rw [← HP.out, List.drop_of_length_le (by omega)]; rfl
   go_wp2
   go_ret
   exact ⟨⟨-1, rfl, by rw [HN.out]; simp⟩, HB.out⟩
theorem containsTold_any (ad : Option Addr) (cap : Nat) (xs : List Al) (w : World) (hlen : xs.length ≤ 1048576) (hs : SlA w ad xs) :
  Calls Try.prog 142 #[.slice ad xs.length cap, .func (Fn.func 143) #[] #[]] w fun e w' => e = .returned (.bool (xs.any (fun a => !a.s.toList.isEmpty))) ∧ Below w.heap.size w w' := by
 go_enter Try.func142, Try.ntmps142
 go_wp2_with fail
 refine (indexTold_any ad cap xs _ hlen hs).mono ?_
 rintro e w' ⟨⟨r, rfl, hr⟩, hbx⟩
 have HR : Hid (decide (0 ≤ r) = xs.any (fun a => !a.s.toList.isEmpty)) := hr
 clear hr hs
 go_wp2
 go_ret
 exact ⟨by rw [← HR.out]; rfl, hbx⟩
theorem told_all (xs : List Al) : (!xs.any fun a => !a.s.toList.isEmpty) = xs.all fun a => a.s.toList.isEmpty := by
 induction xs with
 | nil => rfl
 | cons a xs ih => simp only [List.any_cons, List.all_cons, Bool.not_or, Bool.not_not, ih]
set_option maxRecDepth 100000 in
set_option maxHeartbeats 1000000 in
theorem toldByObjects_any (ad : Option Addr) (cap : Nat) (rs : List ER) (w : World) (hlen : rs.length ≤ 1048576) (hs : SlE w ad rs) (hl : ∀ r ∈ rs, r.e.light) :
  Calls Try.prog 132 #[.slice ad rs.length cap] w fun e w' => e = .returned (.bool (directP (exs rs))) ∧ Below w.heap.size w w' := by
 by_cases h1 : rs.length = 1
 ·obtain ⟨r, rfl⟩ : ∃ r, rs = [r] := List.length_eq_one_iff.1 h1
  rcases hs with h | ⟨b, off, rfl, hb, hr, hok⟩
  ·cases h
  obtain ⟨t0, t1, t2, t3, t4⟩ := hr 0 (by simp)
  simp only [Nat.zero_mul, Nat.add_zero, List.getElem_cons_zero] at t0 t1 t2 t3 t4
  have HOK : Hid (r.ok w) := hok r (by simp)
  obtain ⟨lg, -⟩ := hl r (by simp)
  clear hr hok h1
  simp only [List.length_cons, List.length_nil, Nat.zero_add]
  by_cases hq : r.e.kind = 1
  ·have HD : Hid (directP (exs [r]) = !r.e.allow.any fun a => !a.s.toList.isEmpty) := by show _ = _; rw [told_all]; simp [directP, exs, hq]
   have hqb : (r.e.kind == 1) = true := by simpa using hq
   go_enter Try.func132, Try.ntmps132
   go_wp2_with (go_at_call 142; refine (containsTold_any _ _ r.e.allow _ lg (HOK.out.1.below ((Below.refl _ _)))).mono ?_; rintro e w' ⟨rfl, hbx⟩)
   go_ret
   exact ⟨by rw [HD.out]; rfl, hbx⟩
  ·have HD : Hid (directP (exs [r]) = false) := by show _ = _; simp [directP, exs, hq]
   have hqb : (r.e.kind == 1) = false := by simpa using hq
   go_enter Try.func132, Try.ntmps132
   go_wp2
   go_ret
   exact ⟨by rw [HD.out]; rfl, Below.refl _ _⟩
 ·have HD : Hid (directP (exs rs) = false) := by
   show _ = _
   rcases rs with _ | ⟨r, _ | ⟨r2, rs⟩⟩
   ·rfl
   ·simp at h1
   ·rfl
  have h2 : ((rs.length : Int) == 1) = false := by
   have : ¬ ((rs.length : Int) = 1) := by omega
   simpa using this
  clear hs
  go_enter Try.func132, Try.ntmps132
  go_wp2
  go_ret
  exact ⟨by rw [HD.out]; rfl, Below.refl _ _⟩
end Go.Proofs.Ytmfgehfbipnngaa
namespace Go.Proofs.Ytmfgehfbipnngaa
open Go.ChangeShapes Go.WideShapes Go.ChangeAt Go.RowKit Go.Maps
open Pl
def goalsI (ts : List Ty) (ty over rel : ByteArray) : List ByteArray := if directP (relOr ts ty over) then goalsP ts ty over rel else []
theorem info_strI : (Try.prog.info? 9).map (fun i => (i.zero, i.size, i.bytes)) = some (some (.string ⟨#[]⟩), 1, 16) := by kernel_rfl
theorem allowP_one (r : ER) (h : directP (exs [r]) = true) : allowP (exs [r]) = r.e.allow ∧ r.e.kind = 1 := by
 simp only [exs, List.map_cons, List.map_nil, directP, Bool.and_eq_true, decide_eq_true_eq] at h
 exact ⟨by simp [exs, allowP, h.1], h.1⟩
theorem direct_one {rows : List ER} (h : directP (exs rows) = true) : ∃ r, rows = [r] := by
 rcases rows with _ | ⟨r, _ | ⟨r2, rs⟩⟩
 ·simp [exs, directP] at h
 ·exact ⟨r, rfl⟩
 ·simp [exs, directP] at h
set_option maxRecDepth 100000 in
set_option maxHeartbeats 4000000 in
theorem goalsOf_any (b n : Nat) (rs : List TR) (ad : Option Addr) (M : ByteArray × ByteArray → Option Value) (typ : ByteArray) (x : ER) (w : World) (hV : MapV encK Try.prog 72 w b n M) (hT : Tab rs M) (hs : SlT w ad rs) (hl : ∀ r ∈ rs, r.light) (hf : ∀ r ∈ rs, r.fits) (ht : typ.size ≤ maxLen) (ho : x.e.over.size ≤ maxLen) (hn : x.e.name.size ≤ maxLen) :
  Calls Try.prog 100 #[.map (some b), .string typ, x.val] w fun e w' => (∃ (ad' : Option Addr) (cap' : Nat), e = .returned (.slice ad' (goalsI (tys rs) typ x.e.over x.e.name).length cap') ∧ SlS w' ad' (goalsI (tys rs) typ x.e.over x.e.name) ∧ ∀ p, ad' = some p → w.heap.size ≤ p.block) ∧ Below w.heap.size w w' := by
 have HV : Hid (MapV encK Try.prog 72 w b n M) := hV
 have HT : Hid (Tab rs M) := hT
 have HS : Hid (SlT w ad rs) := hs
 have HL : Hid (∀ r ∈ rs, r.light) := hl
 have HFT : Hid (∀ r ∈ rs, r.fits) := hf
 obtain ⟨kl, hkl⟩ := relKeyOf (typ, x.e.over) ht ho
 have HKL : Hid (keyOf Try.prog 72 (encK (typ, x.e.over)) = some kl) := hkl
 clear hkl hV hT hs hl hf
 obtain ⟨i0, hi, hz0, hz1, hz2⟩ := info_parts info_strI
 obtain ⟨W0, hW0⟩ : ∃ W0, W0 = w.alloc (.cells #[.int .i64 x.e.kind, .slice x.adA x.e.allow.length x.capA, .string x.e.over, .string x.e.name, .slice x.adK x.e.kids.length x.capK] 35) := ⟨_, rfl⟩
 have hal : Below w.heap.size w W0 := by rw [hW0]; exact (Below.refl _ _).alloc (Nat.le_refl _) _
 have HB0 : Hid (Below w.heap.size w W0) := hal
 have HV0 : Hid (MapV encK Try.prog 72 W0 b n M) := HV.out.below hal
 have c3 : W0.cell? ⟨w.heap.size, 3, none⟩ = some (.string x.e.name) := by rw [hW0]; simp
 have hg0 : w.heap.size < W0.heap.size := by rw [hW0]; simp
 -- what lies in the table
 obtain ⟨rows, adE, capE, HM, HE, HF, HFL⟩ : ∃ (rows : List ER) (adE : Option Addr) (capE : Nat), Hid ((M (typ, x.e.over)).getD (.slice none 0 0) = .slice adE rows.length capE) ∧ Hid (exs rows = relOr (tys rs) typ x.e.over) ∧ Hid (FromS rs adE rows) ∧ Hid (∀ q ∈ rows, q.e.fits) := by
  cases e : M (typ, x.e.over) with
  | none => exact ⟨[], none, 0, rfl, by show _ = _; unfold relOr; rw [HT.out.no _ e]; rfl, .inl rfl, by show ∀ _, _; simp⟩
  | some v =>
   obtain ⟨t, htm, q, hq, -, rfl, e1, -⟩ := HT.out.yes _ v e
   exact ⟨q.rows, q.ad, q.cap, rfl, by show _ = _; unfold relOr; rw [e1]; rfl, .inr ⟨t, htm, q, hq, rfl, rfl⟩, ((HFT.out t htm).2.2 q hq).2.2⟩
 have HSE : Hid (SlE W0 adE rows) := HF.out.sl (HS.out.below hal)
 have HLE := HF.out.light HL.out
 have HLE1 : rows.length ≤ 1048576 := HLE.1
 have HLE2 : Hid (∀ q ∈ rows, q.e.light) := HLE.2
 clear HLE hal
 go_enter Try.func100, Try.ntmps100
 unfold ER.val
 go_wp2_with (at_lookup; rw [← hW0]; refine wpList_lookV _ rfl _ _ 75 rfl 72 28 relLaw Try.underlying75 (zeroExprs _) b n M rfl HV0.out (typ, x.e.over) kl rfl HKL.out ?_; rw [HM.out]; clear hW0)
 refine (toldByObjects_any adE capE rows _ HLE1 HSE.out HLE2.out).mono ?_
 rintro e w1 ⟨rfl, hb1⟩
 have HB1 : Hid (Below w.heap.size w w1) := HB0.out.trans (hb1.mono HB0.out.size)
 have HNM : Hid (w1.cell? ⟨w.heap.size, 3, none⟩ = some (.string x.e.name) ∧ w.heap.size < w1.heap.size) := ⟨kept5 hb1 hg0 c3, Nat.lt_of_lt_of_le hg0 hb1.size⟩
 clear hb1 c3 hg0
 cases hd : directP (exs rows) with
 | false =>
  have HG : Hid (goalsI (tys rs) typ x.e.over x.e.name = []) := by show _ = _; unfold goalsI; rw [← HE.out, hd]; rfl
  go_wp2
  go_ret
  refine ⟨⟨none, 0, by rw [HG.out]; rfl, by rw [HG.out]; exact .inl rfl, fun p hp => by cases hp⟩, HB1.out⟩
 | true =>
  obtain ⟨r, rfl⟩ := direct_one hd
  have HG : Hid (goalsI (tys rs) typ x.e.over x.e.name = gl (tys rs) x.e.name r.e.allow) := by
   show _ = _
   unfold goalsI goalsP
   rw [← HE.out, hd, if_pos rfl, (allowP_one r hd).1]
  rcases HSE.out with h | ⟨bE, offE, rfl, hbE, hrE, hokE⟩
  ·cases h
  have HSW : Hid (SlE w1 (some ⟨bE, offE, none⟩) [r]) := HF.out.sl (HS.out.below HB1.out)
  rcases HSW.out with h | ⟨bE', offE', heE, hbE1, hrE1, hokE1⟩
  ·cases h
  injection heE with heE; injection heE with heE1 heE2; subst heE1; subst heE2
  obtain ⟨s0, s1, s2, s3, s4⟩ := hrE1 0 (by simp)
  simp only [Nat.zero_mul, Nat.add_zero, List.getElem_cons_zero] at s0 s1 s2 s3 s4
  have HOKR : Hid (r.ok w) := by
   have h1 := HF.out.sl HS.out
   exact h1.mem (by simp)
  have lgA : r.e.allow.length ≤ 1048576 := (HLE2.out r (by simp)).1
  have HFA : Hid (∀ a ∈ r.e.allow, a.fits) := (HFL.out r (by simp)).1
  have hone : ([r] : List ER).length = 1 := rfl
  rw [hone]
  clear hrE hokE hrE1 hokE1 HE HM hd hbE
  go_wp2_with fail
  go_loopw [8, 25] (fun v i wr => ∃ k : Nat, k ≤ r.e.allow.length ∧ i = .int .i64 k ∧ Hid (wr.ownsRow w.heap.size 9 1 v (gl (tys rs) x.e.name (r.e.allow.take k)).length (strsS (gl (tys rs) x.e.name (r.e.allow.take k)))) ∧ Hid (Below w.heap.size w wr) ∧ Hid (wr.cell? ⟨w.heap.size, 3, none⟩ = some (.string x.e.name) ∧ w.heap.size < wr.heap.size ∧ v.ownBlock ≠ some w.heap.size)) (fun _ i _ => r.e.allow.length - (intOf i).toNat)
  case atStart => exact ⟨0, Nat.zero_le _, rfl, World.ownsRow_nil _ _ _ _, HB1, HNM.out.1, HNM.out.2, by simp [Value.ownBlock]⟩
  case round =>
   clear HB1 HNM s0 s1 s2 s3 s4
   obtain ⟨k, hk, rfl, HOW, HB, HC⟩ := hrel
   by_cases hlt : k < r.e.allow.length
   ·rcases (HOKR.out.1).below HB.out with hnil | ⟨ba, offa, had, hba, hra⟩
    ·rw [hnil] at hlt; simp at hlt
    obtain ⟨t0, t1⟩ := hra k hlt
    have hk1 : (0 : Int) ≤ (k : Int) := by omega
    have hk2 : (k : Int) < (r.e.allow.length : Int) := by omega
    have zA := HFA.out _ (List.getElem_mem hlt)
    have z1 : r.e.allow[k].t.size ≤ maxLen := zA.1
    obtain ⟨hc3, hcl, hco⟩ := HC.out
    obtain ⟨W1, hW1⟩ : ∃ W1, W1 = wr.alloc (.cells #[.string r.e.allow[k].t, .string r.e.allow[k].s] 44) := ⟨_, rfl⟩
    have hal : Below wr.heap.size wr W1 := by rw [hW1]; exact (Below.refl _ _).alloc (Nat.le_refl _) _
    have HBW : Hid (Below w.heap.size w W1) := HB.out.trans (hal.mono HB.out.size)
    have HVW : Hid (MapV encK Try.prog 72 W1 b n M) := HV.out.below HBW.out
    have HOW1 : Hid (W1.ownsRow w.heap.size 9 1 u8 (gl (tys rs) x.e.name (r.e.allow.take k)).length (strsS (gl (tys rs) x.e.name (r.e.allow.take k)))) := own_below HOW.out hal
    have g0 : W1.cell? ⟨wr.heap.size, 0, none⟩ = some (.string r.e.allow[k].t) := by rw [hW1]; simp
    have g3 := kept5 hal hcl hc3
    have hgl1 : wr.heap.size < W1.heap.size := by rw [hW1]; simp
    have hgl := gl_len (tys rs) x.e.name (r.e.allow.take k)
    rw [List.length_take] at hgl
    have HI := HT.out.some_iff (r.e.allow[k].t, x.e.name)
    have hwsz : w.heap.size ≤ W1.heap.size := HBW.out.size
    rw [had]
    clear hra hal HC HOW
    go_wp2_with fail
    rw [← hW1]
    refine (has_any b n M r.e.allow[k].t x.e.name _ z1 hn HVW.out).mono ?_
    rintro e w' ⟨rfl, hw'⟩
    rw [hw']
    clear hw' w' hW1 t0 t1 hc3
    cases hz : (M (r.e.allow[k].t, x.e.name)).isSome with
    | false =>
     have HE : Hid (gl (tys rs) x.e.name (r.e.allow.take (k + 1)) = gl (tys rs) x.e.name (r.e.allow.take k)) := by
      refine gl_no _ _ _ _ hlt ?_
      rw [hz] at HI
      simpa using HI.symm
     clear HI
     go_wp2
     go_roundw
     case rel => exact ⟨k + 1, by omega, by go_num, by rw [HE.out]; exact HOW1, HBW, g3, by omega, hco⟩
     case measure => first | (simp [intOf]; done) | (simp [intOf]; omega)
    | true =>
     have HX : Hid (gl (tys rs) x.e.name (r.e.allow.take (k + 1)) = gl (tys rs) x.e.name (r.e.allow.take k) ++ [r.e.allow[k].t]) := by
      refine gl_yes _ _ _ _ hlt ?_
      rw [hz] at HI
      simpa using HI.symm
     clear HI
     go_wp2_with (at_builtin; refine wpList_append_own_at _ rfl _ _ 65 rfl w.heap.size 9 i0 (.string ⟨#[]⟩) 1 16 Try.underlying65 hi hz0 hz1 hz2 rfl (by decide) _ _ _ rfl (HOW1.out.alloc _) ⟨W1.heap.size, 0, none⟩ 1 1 [.string r.e.allow[k].t] rfl rfl (cell_one_new _ _ _) (by intro u hu; simp at hu; subst hu; rfl) (by unfold maxLen; omega) (by omega) (by simp; omega) ?_)
     intro v' w3 hown3 hgrow _ hloc
     have hb3 : Hid (Below w.heap.size w w3) := (HBW.out.alloc HBW.out.size _).grown hgrow (by simp; omega) (fun i hi => (HOW1.out.lt i hi).1)
     have HO3 : Hid (w3.ownsRow w.heap.size 9 1 v' (gl (tys rs) x.e.name (r.e.allow.take (k + 1))).length (strsS (gl (tys rs) x.e.name (r.e.allow.take (k + 1))))) := by
      show World.ownsRow _ _ _ _ _ _ _
      rw [HX.out]
      simpa [strsS] using hown3
     have HC3 : Hid (w3.cell? ⟨w.heap.size, 3, none⟩ = some (.string x.e.name) ∧ w.heap.size < w3.heap.size ∧ v'.ownBlock ≠ some w.heap.size) := by
      refine ⟨?_, ?_, ?_⟩
      ·rw [hgrow.cell_far _ (by simp; omega) (Ne.symm hco)]; exact kept5 ((Below.refl _ _).alloc (Nat.le_refl _) _) (by omega) g3
      ·have := hgrow.size; simp at this; omega
      ·rcases hloc with e | e
       ·rw [e]; exact hco
       ·rw [e]; simp; omega
     clear hown3 hgrow hloc HOW1 g0 g3
     go_wp2
     go_roundw
     case rel => exact ⟨k + 1, by omega, by go_num, HO3, hb3, HC3⟩
     case measure => first | (simp [intOf]; done) | (simp [intOf]; omega)
   ·obtain rfl : k = r.e.allow.length := by omega
    have hown := HOW.out
    rw [List.take_length] at hown
    obtain ⟨ad', cp, rfl, hS', hN'⟩ := own_sl hown
    have HS2 : Hid (SlS wr ad' (gl (tys rs) x.e.name r.e.allow)) := hS'
    have HN2 : Hid (∀ p, ad' = some p → w.heap.size ≤ p.block) := hN'
    clear hown HOW hS' hN' HC
    go_wp2
    go_ret
    refine ⟨⟨ad', cp, by rw [HG.out]; rfl, by rw [HG.out]; exact HS2.out, HN2.out⟩, HB.out⟩
end Go.Proofs.Ytmfgehfbipnngaa
