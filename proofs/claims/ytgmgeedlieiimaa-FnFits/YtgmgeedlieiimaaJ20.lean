import Derived.Test.YtgmgeedlieiimaaJ19
import Derived.Test.YtgmgeedlieiimaaJ10
import Derived.WideKeyEntry
namespace Go.Proofs.Ytgmgeedlieiimaa
open Go.ChangeShapes Go.WideShapes Go.ChangeAt Go.RowKit Go.Maps
open Pl
def fitE (a : Al) (e : Ex) : Bool := decide (e.kind = 1) && inPre e.allow e.allow.length a
def fitsI (ts : List Ty) (ty rel : ByteArray) (a : Al) : Bool := (relOr ts ty rel).any (fitE a)
theorem fit_drop (a : Al) (rows : List ER) (k : Nat) (h : k < rows.length) : (exs (rows.drop k)).any (fitE a) = (fitE a rows[k].e || (exs (rows.drop (k + 1))).any (fitE a)) := by
 rw [exs_drop _ _ h]; rfl
set_option maxRecDepth 100000 in
set_option maxHeartbeats 4000000 in
theorem fits_any (b n : Nat) (rs : List TR) (ad : Option Addr) (M : ByteArray × ByteArray → Option Value) (oa ob r c d s : ByteArray) (w : World) (hV : MapV encK Try.prog 72 w b n M) (hT : Tab rs M) (hs : SlT w ad rs) (hl : ∀ r ∈ rs, r.light) (ho : oa.size ≤ maxLen) (hr : r.size ≤ maxLen) :
  Calls Try.prog 42 #[.map (some b), .agg #[.string oa, .string ob, .string r, .string c, .string d, .string s]] w fun e w' => e = .returned (.bool (fitsI (tys rs) oa r ⟨c, s⟩)) ∧ Below w.heap.size w w' := by
 have HT : Hid (Tab rs M) := hT
 have HS : Hid (SlT w ad rs) := hs
 have HL : Hid (∀ r ∈ rs, r.light) := hl
 obtain ⟨kl, hkl⟩ := relKeyOf (oa, r) ho hr
 have HKL : Hid (keyOf Try.prog 72 (encK (oa, r)) = some kl) := hkl
 obtain ⟨W0, hW0⟩ : ∃ W0, W0 = (w.alloc (.cells #[.string oa, .string ob, .string r, .string c, .string d, .string s] 39)).alloc (.cells #[.string c, .string s] 44) := ⟨_, rfl⟩
 have hal : Below w.heap.size w W0 := by
  rw [hW0]
  repeat (first | exact Below.refl _ _ | refine Below.alloc ?_ (by first | (simp; done) | (simp; omega)) _)
 have HB0 : Hid (Below w.heap.size w W0) := hal
 have HV0 : Hid (MapV encK Try.prog 72 W0 b n M) := hV.below hal
 have HC0 : Hid (W0.cell? ⟨w.heap.size + 1, 0, none⟩ = some (.string c) ∧ W0.cell? ⟨w.heap.size + 1, 1, none⟩ = some (.string s) ∧ w.heap.size + 1 < W0.heap.size) := ⟨by rw [hW0]; simp, by rw [hW0]; simp, by rw [hW0]; simp⟩
 obtain ⟨rows, adE, capE, HM, HE, HF⟩ : ∃ (rows : List ER) (adE : Option Addr) (capE : Nat), Hid ((M (oa, r)).getD (.slice none 0 0) = .slice adE rows.length capE) ∧ Hid (exs rows = relOr (tys rs) oa r) ∧ Hid (FromS rs adE rows) := by
  cases e : M (oa, r) with
  | none => exact ⟨[], none, 0, rfl, by show _ = _; unfold relOr; rw [HT.out.no _ e]; rfl, .inl rfl⟩
  | some v =>
   obtain ⟨t, htm, q, hq, -, rfl, e1, -⟩ := HT.out.yes _ v e
   exact ⟨q.rows, q.ad, q.cap, rfl, by show _ = _; unfold relOr; rw [e1]; rfl, .inr ⟨t, htm, q, hq, rfl, rfl⟩⟩
 have HLE := HF.out.light HL.out
 have HLE1 : rows.length ≤ 1048576 := HLE.1
 have HLE2 : Hid (∀ q ∈ rows, q.e.light) := HLE.2
 have HSE : Hid (SlE w adE rows) := HF.out.sl HS.out
 clear hV hT hs hl hkl hal HLE
 go_enter Try.func42, Try.ntmps42
 go_wp2_with (at_lookup; rw [← hW0]; refine wpList_lookV _ rfl _ _ 75 rfl 72 28 relLaw Try.underlying75 (zeroExprs _) b n M rfl HV0.out (oa, r) kl rfl HKL.out ?_; rw [HM.out]; clear hW0)
 go_loopw [23] (fun i wr => ∃ k : Nat, k ≤ rows.length ∧ i = .int .i64 k ∧ Hid ((exs (rows.drop k)).any (fitE ⟨c, s⟩) = (exs rows).any (fitE ⟨c, s⟩)) ∧ Hid (Below w.heap.size w wr) ∧ Hid (wr.cell? ⟨w.heap.size + 1, 0, none⟩ = some (.string c) ∧ wr.cell? ⟨w.heap.size + 1, 1, none⟩ = some (.string s) ∧ w.heap.size + 1 < wr.heap.size)) (fun i _ => rows.length - (intOf i).toNat)
 case atStart => exact ⟨0, Nat.zero_le _, rfl, rfl, HB0, HC0⟩
 case round =>
  clear HB0 HC0 HV0
  obtain ⟨k, hk, rfl, HP, HB, HC⟩ := hrel
  by_cases hlt : k < rows.length
  ·rcases HSE.out.below HB.out with hnil | ⟨bE, offE, hadE, hbE, hrE, hok⟩
   ·rw [hnil] at hlt; simp at hlt
   obtain ⟨t0, t1, t2, t3, t4⟩ := hrE k hlt
   have HOK : Hid (rows[k].ok wr) := hok _ (List.getElem_mem hlt)
   have lgA : rows[k].e.allow.length ≤ 1048576 := (HLE2.out _ (List.getElem_mem hlt)).1
   have hk1 : (0 : Int) ≤ (k : Int) := by omega
   have hk2 : (k : Int) < (rows.length : Int) := by omega
   obtain ⟨x0, x1, x2⟩ := HC.out
   have HD : Hid ((exs rows).any (fitE ⟨c, s⟩) = (fitE ⟨c, s⟩ rows[k].e || (exs (rows.drop (k + 1))).any (fitE ⟨c, s⟩))) := by show _ = _; rw [← HP.out]; exact fit_drop _ _ _ hlt
   obtain ⟨W1, hW1⟩ : ∃ W1, W1 = wr.alloc (.cells #[.int .i64 rows[k].e.kind, .slice rows[k].adA rows[k].e.allow.length rows[k].capA, .string rows[k].e.over, .string rows[k].e.name, .slice rows[k].adK rows[k].e.kids.length rows[k].capK] 35) := ⟨_, rfl⟩
   have hal : Below wr.heap.size wr W1 := by rw [hW1]; exact (Below.refl _ _).alloc (Nat.le_refl _) _
   have HB1 : Hid (Below w.heap.size w W1) := HB.out.trans (hal.mono HB.out.size)
   have HC1 : Hid (W1.cell? ⟨w.heap.size + 1, 0, none⟩ = some (.string c) ∧ W1.cell? ⟨w.heap.size + 1, 1, none⟩ = some (.string s) ∧ w.heap.size + 1 < W1.heap.size) := ⟨kept5 hal x2 x0, kept5 hal x2 x1, Nat.lt_of_lt_of_le x2 hal.size⟩
   have HA1 : Hid (SlA W1 rows[k].adA rows[k].e.allow) := HOK.out.1.below hal
   rw [hadE]
   clear hrE hok hal HC
   by_cases h1 : rows[k].e.kind = 1
   ·have hq1 : (rows[k].e.kind == 1) = true := by simpa using h1
    have HFE : Hid (fitE ⟨c, s⟩ rows[k].e = inPre rows[k].e.allow rows[k].e.allow.length ⟨c, s⟩) := by show _ = _; unfold fitE; simp [h1]
    replace h1 : Hid (rows[k].e.kind = 1) := h1
    go_wp2_with fail
    rw [← hW1]
    refine (contains_any rows[k].adA rows[k].e.allow.length rows[k].capA rows[k].e.allow ⟨c, s⟩ _ (Nat.le_refl _) lgA HA1.out).mono ?_
    rintro e w2 ⟨rfl, hb2⟩
    have HB2 : Hid (Below w.heap.size w w2) := HB1.out.trans (hb2.mono HB1.out.size)
    have HC2 : Hid (w2.cell? ⟨w.heap.size + 1, 0, none⟩ = some (.string c) ∧ w2.cell? ⟨w.heap.size + 1, 1, none⟩ = some (.string s) ∧ w.heap.size + 1 < w2.heap.size) := ⟨kept5 hb2 HC1.out.2.2 HC1.out.1, kept5 hb2 HC1.out.2.2 HC1.out.2.1, Nat.lt_of_lt_of_le HC1.out.2.2 hb2.size⟩
    clear hb2 hW1 t0 t1 t2 t3 t4 x0 x1
    cases hz : inPre rows[k].e.allow rows[k].e.allow.length ⟨c, s⟩ with
    | true =>
     have HN : Hid (fitsI (tys rs) oa r ⟨c, s⟩ = true) := by show _ = _; unfold fitsI; rw [← HE.out, HD.out, HFE.out, hz]; rfl
     go_wp2
     go_ret
     exact ⟨by rw [HN.out]; rfl, HB2.out⟩
    | false =>
     have HP2 : Hid ((exs (rows.drop (k + 1))).any (fitE ⟨c, s⟩) = (exs rows).any (fitE ⟨c, s⟩)) := by show _ = _; rw [HD.out, HFE.out, hz]; rfl
     go_wp2
     go_roundw
     case rel => exact ⟨k + 1, by omega, by go_num, HP2, HB2, HC2⟩
     case measure => first | (simp [intOf]; done) | (simp [intOf]; omega)
   ·have hq1 : (rows[k].e.kind == 1) = false := by simpa using h1
    have HP2 : Hid ((exs (rows.drop (k + 1))).any (fitE ⟨c, s⟩) = (exs rows).any (fitE ⟨c, s⟩)) := by show _ = _; rw [HD.out]; simp [fitE, h1]
    have HBX : Hid (Below w.heap.size w (wr.alloc (.cells #[.int .i64 rows[k].e.kind, .slice rows[k].adA rows[k].e.allow.length rows[k].capA, .string rows[k].e.over, .string rows[k].e.name, .slice rows[k].adK rows[k].e.kids.length rows[k].capK] 35))) := by rw [← hW1]; exact HB1
    have HCX : Hid ((wr.alloc (.cells #[.int .i64 rows[k].e.kind, .slice rows[k].adA rows[k].e.allow.length rows[k].capA, .string rows[k].e.over, .string rows[k].e.name, .slice rows[k].adK rows[k].e.kids.length rows[k].capK] 35)).cell? ⟨w.heap.size + 1, 0, none⟩ = some (.string c) ∧ (wr.alloc (.cells #[.int .i64 rows[k].e.kind, .slice rows[k].adA rows[k].e.allow.length rows[k].capA, .string rows[k].e.over, .string rows[k].e.name, .slice rows[k].adK rows[k].e.kids.length rows[k].capK] 35)).cell? ⟨w.heap.size + 1, 1, none⟩ = some (.string s) ∧ w.heap.size + 1 < (wr.alloc (.cells #[.int .i64 rows[k].e.kind, .slice rows[k].adA rows[k].e.allow.length rows[k].capA, .string rows[k].e.over, .string rows[k].e.name, .slice rows[k].adK rows[k].e.kids.length rows[k].capK] 35)).heap.size) := by rw [← hW1]; exact HC1
    clear hW1
    go_wp2
    go_roundw
    case rel => exact ⟨k + 1, by omega, by go_num, HP2, HBX, HCX⟩
    case measure => first | (simp [intOf]; done) | (simp [intOf]; omega)
  ·have HN : Hid (fitsI (tys rs) oa r ⟨c, s⟩ = false) := by show _ = _; unfold fitsI; rw [← HE.out, ← HP.out, List.drop_of_length_le (by omega)]; rfl
   go_wp2
   go_ret
   exact ⟨by rw [HN.out]; rfl, HB.out⟩
end Go.Proofs.Ytgmgeedlieiimaa
namespace Go.Proofs.Ytgmgeedlieiimaa
open Go.ChangeShapes Go.WideShapes Go.ChangeAt Go.RowKit Go.Maps
open Go.ChangeMaps (setBlock heap_setBlock_same heap_setBlock_other)
section
variable {K : Type} {enc : K → Value} {P : Program} {k : TypeId} {w : World} {b n : Nat} {M : K → Option Value}
theorem MapV.of_block {w' : World} (h : MapV enc P k w b n M) (e : w'.heap[b]? = w.heap[b]?) : MapV enc P k w' b n M := by
 obtain ⟨D, ⟨es, clock, hb, r⟩, h2⟩ := h
 exact ⟨D, ⟨es, clock, e.trans hb, r⟩, h2⟩
theorem grown_setBlock {w : World} {b : Nat} {es es' : Array MapEntry} {c c' : Nat} (hb : w.heap[b]? = some (.map es c)) : w.grownBy (setBlock w b (.map es' c')) (some b) :=
 ⟨rfl, rfl, rfl, by simp [setBlock], fun i _ hi => heap_setBlock_other hb _ (fun e => hi (by rw [e]))⟩
theorem MapV.entry [DecidableEq K] {t e : TypeId} (h : MapV enc P k w b n M) (L : WideMaps.KeyLaw P k) (hinj : ∀ x y, enc x = enc y → x = y) (ht : P.underlying t = some (.map k e)) {z : Value} (hz : ∀ u : World, (zeroValue e).run P u = .ok z u) (hn : n < maxLen) {x : K} {kl : Lit} (hkey : keyOf P k (enc x) = some kl) :
  ∃ (st : Nat) (w1 : World), (Instr.mapEntry t (.map (some b)) (enc x)).run P w = .ok (.tuple #[(M x).getD z, goInt st]) w1 ∧ w.grownBy w1 (some b) ∧
   ∀ (w2 : World) (val : Value), w2.heap[b]? = w1.heap[b]? → ∃ w3, (Instr.entryStore t (.map (some b)) (goInt st) val).run P w2 = .ok () w3 ∧ MapV enc P k w3 b (n + 1) (updM M x (some val)) ∧ w2.grownBy w3 (some b) := by
 have LK := Keyed.of_law L
 have hlook := h.look LK ht (hz w) hkey
 have hst := fun v => h.store LK hinj ht hn hkey v
 obtain ⟨D, ⟨es, clock, hb, F, hs, hD⟩, h2⟩ := h
 obtain ⟨v0, st, es1, clock1, hrun, hv0, hback⟩ := WideElems.entry_then_store L ht hz hb F hkey
 have hb1 : (setBlock w b (.map es1 clock1)).heap[b]? = some (.map es1 clock1) := heap_setBlock_same hb _
 have ev : v0 = (M x).getD z := by
  have hl := hlook
  rcases Maps.fit_look false LK ht (hz w) hb F hkey with ⟨hrun2, hno, -⟩ | ⟨e0, y, hmem, hek, hrun2, -, -, -⟩
  ·rw [hl] at hrun2
   injection hrun2 with e1
   rcases hv0 with ⟨e0, hm, hk0, -⟩ | ⟨-, hz0⟩
   ·exact absurd hk0 (hno e0 hm)
   ·rw [hz0, e1]; rfl
  ·rw [hl] at hrun2
   injection hrun2 with e1
   rcases hv0 with ⟨e1', hm, hk0, hv⟩ | ⟨hno, -⟩
   ·have hnd := F.stamped.2.2
    have : e1' = e0 := by
     have h3 : e1'.key = e0.key := by rw [hk0, hek]
     obtain ⟨i, hi, hie⟩ := List.mem_iff_getElem.1 hm
     obtain ⟨j, hj, hje⟩ := List.mem_iff_getElem.1 hmem
     have h4 : (es.toList.map (·.key))[i]'(by simpa using hi) = (es.toList.map (·.key))[j]'(by simpa using hj) := by simp only [List.getElem_map, hie, hje]; exact h3
     have h6 := List.pairwise_iff_getElem.1 hnd
     have h5 : i = j := by
      rcases Nat.lt_trichotomy i j with hl | hl | hl
      ·exact absurd h4 (h6 i j _ _ hl)
      ·exact hl
      ·exact absurd h4.symm (h6 j i _ _ hl)
     subst h5
     rw [← hie, ← hje]
    rw [hv, this, e1]; rfl
   ·exact absurd hek (hno e0 hmem)
 refine ⟨st, _, by rw [hrun, ev], grown_setBlock hb, fun w2 val hw2 => ?_⟩
 have hw2' : w2.heap[b]? = some (.map es1 clock1) := hw2.trans hb1
 obtain ⟨es', clock', hr1, hr2⟩ := hback w2 val hw2'
 obtain ⟨w', hr3, hM', -⟩ := hst val
 rw [hr2] at hr3
 injection hr3 with _ e3
 refine ⟨_, hr1, hM'.of_block ?_, grown_setBlock hw2'⟩
 rw [← e3, heap_setBlock_same hb, heap_setBlock_same hw2']
end
section
variable {K : Type} {enc : K → Value} {P : Program} (w : World) {ops : Array Oper} {rest : List Oper} {o : Oper} {a : Act} {Q : Exit → Act → World → Prop}
theorem wpList_entryV [DecidableEq K] (hg : o.guard = none) (m x : Operand) (t : TypeId) (hop : o.op = Op.mapEntry t m x) (k e : TypeId) (L : WideMaps.KeyLaw P k) (hinj : ∀ x y, enc x = enc y → x = y) (ht : P.underlying t = some (.map k e)) {z : Value} (hz : ∀ u : World, (zeroValue e).run P u = .ok z u) (b n : Nat) (M : K → Option Value)
  (hm : a.eval m = .map (some b)) (hV : MapV enc P k w b n M) (hn : n < maxLen) (y : K) (kl : Lit) (hx : a.eval x = enc y) (hkey : keyOf P k (enc y) = some kl)
  (hK : ∀ (st : Nat) (w1 : World), w.grownBy w1 (some b) → (∀ (w2 : World) (val : Value), w2.heap[b]? = w1.heap[b]? → ∃ w3, (Instr.entryStore t (.map (some b)) (goInt st) val).run P w2 = .ok () w3 ∧ MapV enc P k w3 b (n + 1) (updM M y (some val)) ∧ w2.grownBy w3 (some b)) →
   wpList P ops Q rest (a.put o.dst (.tuple #[(M y).getD z, goInt st])) w1) : wpList P ops Q (o :: rest) a w := by
 refine wpList_plain hg fun K' hK' => ?_
 obtain ⟨st, w1, hrun, h1, h2⟩ := hV.entry L hinj ht hz hn hkey
 unfold Oper.wp
 simp [execOp, hop, hm, hx, hrun, Result.andThen]
 exact hK' _ _ (hK st w1 h1 h2)
theorem wpList_entryStoreV (hg : o.guard = none) (m s v : Operand) (t : TypeId) (hop : o.op = Op.entryStore t m s v) (b st : Nat) (hm : a.eval m = .map (some b)) (hs : a.eval s = goInt st) (u : Value) (hv : a.eval v = u) (k : TypeId) (n : Nat) (M : K → Option Value)
  (hback : ∃ w3, (Instr.entryStore t (.map (some b)) (goInt st) u).run P w = .ok () w3 ∧ MapV enc P k w3 b n M ∧ w.grownBy w3 (some b))
  (hK : ∀ w', MapV enc P k w' b n M → w.grownBy w' (some b) → wpList P ops Q rest (a.put o.dst undef) w') : wpList P ops Q (o :: rest) a w := by
 refine wpList_plain hg fun K' hK' => ?_
 obtain ⟨w3, hrun, h1, h2⟩ := hback
 unfold Oper.wp
 simp [execOp, hop, hm, hs, hv, hrun, Result.andThen]
 exact hK' _ _ (hK w3 h1 h2)
end
end Go.Proofs.Ytgmgeedlieiimaa
