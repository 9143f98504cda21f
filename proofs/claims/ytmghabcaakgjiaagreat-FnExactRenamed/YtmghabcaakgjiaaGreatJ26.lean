/- The library's SortFunc over a row of relations, by their names; a row of relations whose names or places have changed. -/
import Derived.Test.YtmghabcaakgjiaaGreatChgSch
import Derived.Test.YtmghabcaakgjiaaGreatJ11
import Derived.Test.YtmghabcaakgjiaaGreatShelf
import Derived.Test.YtmghabcaakgjiaaGreatShelfS
import Derived.Sort.Grow
import Derived.Test.YtmghabcaakgjiaaGreatJ15
import Derived.Test.YtmghabcaakgjiaaGreatJ1
import Derived.Test.YtmghabcaakgjiaaGreatRenLeaf
namespace Go.Proofs.YtmghabcaakgjiaaGreat
set_option maxRecDepth 100000
set_option linter.unusedVariables false
open Go.ChangeShapes Go.WideShapes Go.ChangeAt Go.RowKit Go.Maps Go.Shelf Go.Sort
open Pl
theorem compare_lessR (x y : List UInt8) : decide (Lib.compareBytes x y < 0) = Op.bytesLess x y := by
 induction x generalizing y with
 | nil => cases y <;> simp [Lib.compareBytes, Op.bytesLess]
 | cons a x ih =>
  cases y with
  | nil => simp [Lib.compareBytes, Op.bytesLess]
  | cons b y =>
   unfold Lib.compareBytes Op.bytesLess
   by_cases h : a < b
   ·simp [h]
   ·by_cases h2 : b < a
    ·have hne : (a == b) = false := by simp; intro e; subst e; exact h h2
     simp [h, h2, hne]
    ·have he : a = b := by
      have h1 := UInt8.not_lt.mp h
      have h3 := UInt8.not_lt.mp h2
      exact UInt8.le_antisymm h3 h1
     subst he
     simp [ih]
def cfR (x y : RR) : Int := Lib.compareBytes x.name.data.toList y.name.data.toList
def ltR (x y : RR) : Bool := Op.bytesLess x.name.toList y.name.toList
theorem cfR_lt : ltOf cfR = ltR := by
 funext x y
 unfold ltOf cfR ltR
 rw [compare_lessR, Go.ByteArray.toList_eq, Go.ByteArray.toList_eq]
theorem ltR_swo : Go.Sort.SWO ltR where
 irrefl x := Ls.lt_irrefl _
 trans x y z h k := Ls.lt_trans _ _ _ h k
 ntrans x y z h k := by
  cases e : ltR x z with
  | false => rfl
  | true =>
   by_cases e1 : y.name.toList = x.name.toList
   ·unfold ltR at *; rw [e1] at k; rw [k] at e; cases e
   ·rcases Ls.lt_total _ _ e1 with h1 | h1
    ·have : ltR y z = true := Ls.lt_trans _ _ _ h1 e
     rw [k] at this; cases this
    ·have h : ltR x y = false := h
     have h1 : ltR x y = true := h1
     rw [h] at h1; cases h1
theorem below_grew {w w' : World} (h : Below w.heap.size w w') (h6 : w.drawn ≤ w'.drawn) : ∃ q os, w' = Go.Sort.grow (w.drewN q) os := by
 obtain ⟨h1, h2, h3, h4, h5⟩ := h
 refine ⟨w'.drawn - w.drawn, w'.heap.extract w.heap.size w'.heap.size, ?_⟩
 obtain ⟨hp, tp, dr, os, ou⟩ := w'
 simp only at h1 h2 h3 h4 h5 h6
 subst h1 h2 h3
 simp only [Go.Sort.grow, World.drewN, World.mk.injEq, true_and, and_true]
 refine ⟨?_, by omega⟩
 apply Array.ext
 ·simp; omega
 ·intro i hi hj
  by_cases hlt : i < w.heap.size
  ·have := h5 i hlt
   rw [Array.getElem?_eq_getElem hi, Array.getElem?_eq_getElem hlt] at this
   injection this with this
   rw [this, Array.getElem_append_left hlt]
  ·rw [Array.getElem_append_right (by omega), Array.getElem_extract]
   congr 1
   omega
theorem cmpRel_any (x y : RR) (w : World) :
  Calls Tryz.prog 69 #[.agg #[.string x.name, x.vs], .agg #[.string y.name, y.vs]] w fun e w' => e = .returned (.int .i64 (cfR x y)) ∧ ∃ q os, w' = Go.Sort.grow (w.drewN q) os := by
 obtain ⟨W, hW⟩ : ∃ W, W = (w.alloc (.cells #[.string x.name, x.vs] 46)).alloc (.cells #[.string y.name, y.vs] 46) := ⟨_, rfl⟩
 have HG : Hid (∃ q os, W = Go.Sort.grow (w.drewN q) os) := by
  refine below_grew ?_ (by rw [hW]; exact Nat.le_refl _)
  rw [hW]; exact ((Below.refl _ _).alloc (Nat.le_refl _) _).alloc (by simp) _
 unfold RR.vs at hW ⊢
 go_enter Tryz.func69, Tryz.ntmps69
 go_wp2_with (go_at_call 70; refine (Tryz.strings_Compare _ _ _).mono ?_; rintro e w' ⟨rfl, rfl⟩)
 rw [← hW]
 go_ret
 exact ⟨rfl, HG.out⟩
theorem cmpLaysR [Inhabited RR] (blk off size : Nat) (w : World) : CmpLays Tryz.prog 69 #[] RR.cells 2 cfR blk off size w := fun m os dk _ x y => cmpRel_any x y _
theorem sort_chg [Inhabited RR] (w : World) (blk off n : Nat) (d : Array RR) (os : Array Obj) : Chg (fun g => g = blk) w (sortWorldK RR.cells 2 w blk off n d os) := by
 refine ⟨⟨rfl, rfl, rfl, ?_, fun k hk => absurd hk (Nat.not_lt_zero _)⟩, fun k hk hne => ?_, fun g hg hf j => ?_⟩
 ·simp [sortWorldK, grow, putRowK, Sort.ahead]
 ·simp only [sortWorldK, putRowK]
  rw [heap_grow_old _ _ (by simpa [Sort.ahead] using hk)]
  have hne : blk ≠ k := fun e => hne e.symm
  simp [putRow, mapBlock, Sort.ahead, Array.getElem?_modify, hne]
 ·simp only [sortWorldK, putRowK]
  rw [frozen?_grow _ _ _ (by simpa [Sort.ahead] using hg), frozen?_putRow, frozen?_ahead]
  exact hf j
theorem holds_rel [Inhabited RR] {w : World} {base g cap : Nat} {xs : List RR} (h : w.ownsRow base 46 2 (.slice (some ⟨g, 0, none⟩) xs.length cap) xs.length (xs.flatMap RR.cells)) : HoldsK RR.cells 2 w g 0 xs.toArray := by
 intro t ht
 rw [size_flatK] at ht
 have ht' : t < xs.length * 2 := by simpa using ht
 have hi : t / 2 < xs.length := by omega
 have hr : t % 2 < 2 := Nat.mod_lt _ (by omega)
 refine ⟨?_, by rw [Nat.zero_add]; exact h.frozenAt t⟩
 rw [Nat.zero_add, h.cellAt t ht', get_flatK _ _ _ _ ht]
 have e : t = t / 2 * 2 + t % 2 := by omega
 have h1 := cells2_at (cells := RR.cells) (fun _ => rfl) xs (t / 2) hi (t % 2) hr
 rw [← e] at h1
 rw [h1]
 have h2 : (xs.toArray)[t / 2]! = xs[t / 2] := by rw [getElem!_pos xs.toArray _ (by simpa using hi)]; simp
 rw [h2]
 have hl : t % 2 < (RR.cells xs[t / 2]).length := hr
 show _ = some ((RR.cells xs[t / 2])[t % 2]!)
 rw [List.getElem?_eq_getElem hl, getElem!_pos (RR.cells xs[t / 2]) (t % 2) hl]
theorem row_rel [Inhabited RR] {w : World} {base g n cap : Nat} {xs ys : List RR} (h0 : w.ownsRow base 46 2 (.slice (some ⟨g, 0, none⟩) n cap) n (xs.flatMap RR.cells)) (hx : xs.length = n) (hl : ys.length = n) (m : Nat) (os : Array Obj) : (sortWorldK RR.cells 2 w g 0 m ys.toArray os).ownsRow base 46 2 (.slice (some ⟨g, 0, none⟩) n cap) n (ys.flatMap RR.cells) := by
 subst hx
 have hg := (h0.lt g rfl).2
 have hH := holdsK_sortWorldK_c RR.cells 2 w g 0 xs.toArray ys.toArray m os (holds_rel h0) hg (by simpa using hl)
 have hlen : (ys.flatMap RR.cells).length = xs.length * 2 := by rw [cells2_len (fun _ => rfl), hl]
 refine ⟨hlen, .inr ?_⟩
 rcases h0.2 with ⟨e, -⟩ | ⟨g', cap', cur, e, h1, h2, h3, h4, h5, -⟩
 ·cases e
 injection e with e1 e2 e3
 injection e1 with e1; injection e1 with e1
 subst e1; subst e3
 have hb : (sortWorldK RR.cells 2 w g 0 m ys.toArray os).heap[g]? = some (.cells (putCells id 0 (flatK RR.cells 2 ys.toArray) cur) 46 (0, 0)) := by
  simp only [sortWorldK, putRowK]
  rw [heap_grow_old _ _ (by simpa [Sort.ahead] using hg)]
  simp [putRow, mapBlock, Sort.ahead, Array.getElem?_modify, h2, onCells]
 refine ⟨g, cap, _, rfl, h1, hb, h3, h4, by simp only [putCells, Array.size_mapIdx]; exact h5, ?_⟩
 refine List.ext_getElem? fun j => ?_
 by_cases hj : j < xs.length * 2
 ·rw [List.getElem?_take_of_lt hj]
  have hi : j / 2 < ys.length := by omega
  have h6 := (hH j (by rw [size_flatK]; simpa [hl] using hj)).1
  rw [Nat.zero_add, get_flatK _ _ _ _ (by simpa [hl] using hj)] at h6
  replace h6 : (sortWorldK RR.cells 2 w g 0 m ys.toArray os).cell? ⟨g, j, none⟩ = some ((RR.cells (ys.toArray)[j / 2]!)[j % 2]!) := h6
  have h7 : (putCells id 0 (flatK RR.cells 2 ys.toArray) cur).toList[j]? = some ((RR.cells (ys.toArray)[j / 2]!)[j % 2]!) := by
   rw [← h6]
   simp [World.cell?, hb]
  rw [h7]
  have e : j = j / 2 * 2 + j % 2 := by omega
  have h8 := cells2_at (cells := RR.cells) (fun _ => rfl) ys (j / 2) hi (j % 2) (Nat.mod_lt _ (by omega))
  rw [← e] at h8
  rw [h8]
  have h9 : (ys.toArray)[j / 2]! = ys[j / 2] := by rw [getElem!_pos ys.toArray _ (by simpa using hi)]; simp
  rw [h9]
  have hl2 : j % 2 < (RR.cells ys[j / 2]).length := Nat.mod_lt _ (by omega)
  rw [List.getElem?_eq_getElem hl2, getElem!_pos (RR.cells ys[j / 2]) (j % 2) hl2]
 ·rw [List.getElem?_eq_none (by rw [List.length_take]; omega), List.getElem?_eq_none (by omega)]
theorem sortRel_any (base g cap : Nat) (rows : List RR) (w : World) (hR : w.ownsRow base 46 2 (.slice (some ⟨g, 0, none⟩) rows.length cap) rows.length (rows.flatMap RR.cells)) (hne : rows ≠ []) (h6 : rows.length ≤ 6) (hd : DisR (rls rows)) :
  Calls Tryz.prog 68 #[.slice (some ⟨g, 0, none⟩) rows.length cap, .func (.func 69) #[] #[]] w fun e w' => e = .returned (.tuple #[]) ∧ ∃ ys : List RR, ys.Perm rows ∧ rls ys = sortR (rls rows) ∧ w'.ownsRow base 46 2 (.slice (some ⟨g, 0, none⟩) rows.length cap) rows.length (ys.flatMap RR.cells) ∧ Chg (fun k => k = g) w w' := by
 cases rows with
 | nil => exact absurd rfl hne
 | cons x0 xs0 =>
  letI : Inhabited RR := ⟨x0⟩
  have hg := hR.lt g rfl
  have eg : ∀ args w, (callFunc 69 args).run Tryz.prog w = .ok (.enter 69 args) w := enters_of Tryz.func69 (by kernel_rfl) rfl
  have hs := AnyQ.slices_SortFunc Tryz.sortR 2 Tryz.isAgg46 Tryz.sizeOf46 RR.cells (fun _ => rfl) (fun x v hv => by simp [RR.cells, RR.vs] at hv; rcases hv with rfl | rfl <;> rfl) cfR (by rw [cfR_lt]; exact ltR_swo) 69 #[] g 0 cap (x0 :: xs0).toArray w eg (cmpLaysR g 0 _ w) (holds_rel hR) hg.2 (by simp at h6 ⊢; omega)
  change Calls Tryz.prog 68 _ _ _ at hs
  rw [cfR_lt] at hs
  refine hs.mono fun e w' ⟨he, d', n, os, hp, hso, hw⟩ => ⟨he, d'.toList, ?_, ?_, ?_, ?_⟩
  ·have := hp.2.2
   simpa [Array.extract_eq_self_of_le, hp.1] using this
  ·have hperm : d'.toList.Perm (x0 :: xs0) := by
    have := hp.2.2
    simpa [Array.extract_eq_self_of_le, hp.1] using this
   have hz : d'.size = xs0.length + 1 := by simpa using hp.1
   refine (sortR_is ?_ (hperm.map RR.p)).symm
   have hdis : DisR (rls d'.toList) := (List.Perm.pairwise_iff (fun {a b} h => fun e => h e.symm) (hperm.map RR.p)).2 hd
   rw [UpR, List.pairwise_iff_getElem]
   rw [DisR, List.pairwise_iff_getElem] at hdis
   intro i j hi hj hij
   have hne := hdis i j hi hj hij
   have hi2 : i < d'.size := by simpa [rls] using hi
   have hj2 : j < d'.size := by simpa [rls] using hj
   have hlt := hso i j (Nat.zero_le _) hij (by rw [hz] at hj2; simpa using hj2)
   rw [getElem!_pos d' j hj2, getElem!_pos d' i hi2] at hlt
   have e1 : (rls d'.toList)[i].name = d'[i].name := by simp [rls, RR.p]
   have e2 : (rls d'.toList)[j].name = d'[j].name := by simp [rls, RR.p]
   rw [e1, e2] at hne
   show lessB (rls d'.toList)[i].name (rls d'.toList)[j].name = true
   rw [e1, e2]
   rcases Ls.lt_total _ _ hne with h | h
   ·exact h
   ·have hlt : Op.bytesLess d'[j].name.toList d'[i].name.toList = false := hlt
    rw [hlt] at h; cases h
  ·rw [hw]
   have hz : d'.toList.length = (x0 :: xs0).length := by simpa using hp.1
   have := row_rel hR rfl hz n os
   simpa using this
  ·rw [hw]; exact sort_chg w g 0 n d' os
end Go.Proofs.YtmghabcaakgjiaaGreat
namespace Go.Proofs.YtmghabcaakgjiaaGreat
set_option linter.unusedVariables false
open Go.ChangeShapes Go.WideShapes Go.RowKit
structure CL (c p q : Nat) (C : Nat → Value) (W : World) (M1 : Value → World → Prop) (l : Nat → Bool) (f : Nat → Value) (w : World) : Prop where
 val : ∀ k, k ≠ c → l k = true → f k = C k
 bel : Below W.heap.size W w
 mid : l c = true → M1 (f c) w
 dep : l p = true → l q = true
section
variable {c p q : Nat} {C : Nat → Value} {W : World} {M1 : Value → World → Prop} {l : Nat → Bool} {f : Nat → Value} {w w' : World}
theorem CL.put (h : CL c p q C W M1 l f w) {i : Nat} (hi : i ≠ c) (hd : i = p → l q = true) {v : Value} (hv : v = C i) : CL c p q C W M1 (fun k => if k = i then true else l k) (upd f i v) w := by
 refine ⟨fun k hk hl => ?_, h.bel, fun hl => ?_, fun hl => ?_⟩
 ·by_cases e : k = i
  ·subst e; simp [upd, hv]
  ·simp only [if_neg e] at hl; simp only [upd, if_neg e]; exact h.val k hk hl
 ·simp only [if_neg (Ne.symm hi)] at hl
  simp only [upd, if_neg (Ne.symm hi)]; exact h.mid hl
 ·have : l q = true := by
   by_cases e : p = i
   ·exact hd e.symm
   ·rw [if_neg e] at hl; exact h.dep hl
  show (if q = i then true else l q) = true
  rw [this]; split <;> rfl
theorem CL.call (h : CL c p q C W M1 l f w) (hpc : p ≠ c) {v : Value} (hb : Below W.heap.size W w') (h1 : M1 v w') : CL c p q C W M1 (fun k => if k = c then true else l k) (upd f c v) w' := by
 refine ⟨fun k hk hl => ?_, hb, fun _ => by simpa [upd] using h1, fun hl => ?_⟩
 ·simp only [if_neg hk] at hl; simp only [upd, if_neg hk]; exact h.val k hk hl
 ·rw [if_neg hpc] at hl
  show (if q = c then true else l q) = true
  rw [h.dep hl]; split <;> rfl
end
end Go.Proofs.YtmghabcaakgjiaaGreat
namespace Go.Proofs.YtmghabcaakgjiaaGreat
set_option maxRecDepth 100000
set_option linter.unusedVariables false
open Go.ChangeShapes Go.WideShapes Go.ChangeAt Go.RowKit Go.Maps
open Pl
theorem RnC.chg {S : Nat → Prop} {g b : Nat} {typ frm to : ByteArray} {w w' : World} (h : RnC g b typ frm to w) (hc : Chg S w w') (hs : ¬ S g) : RnC g b typ frm to w' :=
 ⟨Nat.lt_of_lt_of_le h.lt hc.size, (hc.cell h.lt hs).trans h.c0, (hc.cell h.lt hs).trans h.c1, (hc.cell h.lt hs).trans h.c2, (hc.cell h.lt hs).trans h.c3⟩
def renQ (typ frm to : ByteArray) (q : RR) : RR := { q with name := renN typ frm to typ q.name }
def mixQ (typ frm to : ByteArray) (xs : List RR) (k : Nat) : List RR := (xs.take k).map (renQ typ frm to) ++ xs.drop k
theorem mixQ_len (typ frm to : ByteArray) (xs : List RR) (k : Nat) : (mixQ typ frm to xs k).length = xs.length := by
 simp [mixQ]; omega
theorem mixQ_at (typ frm to : ByteArray) (xs : List RR) (k : Nat) (h : k < xs.length) : (mixQ typ frm to xs k)[k]'(by rw [mixQ_len]; exact h) = xs[k] := by
 unfold mixQ
 rw [List.getElem_append_right (by simp; omega)]
 simp [Nat.min_eq_left (Nat.le_of_lt h)]
theorem mixQ_succ (typ frm to : ByteArray) (xs : List RR) (k : Nat) (h : k < xs.length) : mixQ typ frm to xs (k + 1) = (mixQ typ frm to xs k).set k (renQ typ frm to xs[k]) := by
 unfold mixQ
 have hl : ((xs.take k).map (renQ typ frm to)).length = k := by simp; omega
 rw [List.set_append_right _ _ (by omega), hl, Nat.sub_self, List.drop_eq_getElem_cons h, List.set_cons_zero, List.take_succ_eq_append_getElem h, List.map_append]
 simp
theorem mixQ_all (typ frm to : ByteArray) (xs : List RR) : mixQ typ frm to xs xs.length = xs.map (renQ typ frm to) := by simp [mixQ]
theorem name_set (s : ByteArray) : ∀ (xs : List RR) (j : Nat) (hj : j < xs.length), (xs.flatMap RR.cells).set (j * 2) (Value.string s) = (xs.set j { xs[j] with name := s }).flatMap RR.cells
 | [], j, hj => by simp at hj
 | x :: xs, 0, _ => by simp [RR.cells, RR.vs]
 | x :: xs, j + 1, hj => by
  have := name_set s xs j (by simpa using hj)
  simp only [List.flatMap_cons, List.getElem_cons_succ, List.set_cons_succ]
  rw [← this, show (j + 1) * 2 = (j * 2) + 2 by omega]
  simp [RR.cells]
theorem RelM.again {w w' : World} {base g n cap : Nat} {rows ys : List RR} {f : RR → RR} (h : RelM w base (.slice (some ⟨g, 0, none⟩) n cap) rows) (hf : ∀ q, (f q).vs = q.vs ∧ (f q).rows = q.rows) (hp : ys.Perm (rows.map f)) (hc : Chg (fun k => k = g) w w') (hown : w'.ownsRow base 46 2 (.slice (some ⟨g, 0, none⟩) n cap) ys.length (ys.flatMap RR.cells)) : RelM w' base (.slice (some ⟨g, 0, none⟩) n cap) ys := by
 have hmem : ∀ q ∈ ys, ∃ p ∈ rows, q.vs = p.vs ∧ q.rows = p.rows := fun q hq => by
  obtain ⟨p, h1, rfl⟩ := List.mem_map.1 (hp.mem_iff.1 hq)
  exact ⟨p, h1, hf p⟩
 have hi : ∀ q p : RR, q.vs = p.vs → q.rows = p.rows → iR q = iR p := fun q p h1 h2 => by unfold iR; rw [h1, h2]
 have hne : ∀ p ∈ rows, ∀ k, iR p k → k ≠ g := fun p hq k hk e => h.head p hq k hk (by rw [e]; rfl)
 refine ⟨hown, fun q hq => ?_, fun q hq k hk => ?_, ?_⟩
 ·obtain ⟨p, h1, h2, h3⟩ := hmem q hq
  have hk := kidR.heap w w' base p (h.kid p h1) hc.size fun k hk => hc.block k (kidR.lt w base p (h.kid p h1) k hk).2 (hne p h1 k hk)
  unfold kR at hk ⊢
  rw [h2, h3]; exact hk
 ·obtain ⟨p, h1, h2, h3⟩ := hmem q hq
  rw [hi q p h2 h3] at hk
  exact h.head p h1 k hk
 ·have hpw : rows.Pairwise fun a b => ∀ k, iR a k → ¬ iR b k := List.pairwise_iff_getElem.2 fun i j hi hj hij k h1 h2 => h.two i j hi hj (by omega) k h1 h2
  have hpw2 : (rows.map f).Pairwise fun a b => ∀ k, iR a k → ¬ iR b k := List.pairwise_map.2 (hpw.imp fun {a b} hab k h1 h2 => hab k (by rw [hi _ _ (hf a).1 (hf a).2] at h1; exact h1) (by rw [hi _ _ (hf b).1 (hf b).2] at h2; exact h2))
  have hpw3 : ys.Pairwise fun a b => ∀ k, iR a k → ¬ iR b k := (List.Perm.pairwise_iff (fun {a b} hab k h1 h2 => hab k h2 h1) hp).2 hpw2
  rw [List.pairwise_iff_getElem] at hpw3
  intro i j hi hj hij k h1 h2
  rcases Nat.lt_or_gt_of_ne hij with h3 | h3
  ·exact hpw3 i j hi hj h3 k h1 h2
  ·exact hpw3 j i hj hi h3 k h2 h1
set_option maxHeartbeats 8000000 in
theorem nameRelation_any (b : Nat) (typ frm to : ByteArray) (base g cap : Nat) (rows : List RR) (w : World) (hR : RelM w base (.slice (some ⟨g, 0, none⟩) rows.length cap) rows) (hne : rows ≠ []) (h6 : rows.length ≤ 6) (hf : frm.toList ≠ []) (hd : DisR (rls (rows.map (renQ typ frm to)))) :
  Calls Tryz.prog 33 #[.agg #[.map (some b), .string typ, .string frm, .string to], .slice (some ⟨g, 0, none⟩) rows.length cap] w fun e w' => e = .returned (.tuple #[]) ∧ ∃ ys : List RR, RelM w' base (.slice (some ⟨g, 0, none⟩) rows.length cap) ys ∧ rls ys = sortR (rls (rows.map (renQ typ frm to))) ∧ Chg (fun k => k = g) w w' ∧ ys.Perm (rows.map (renQ typ frm to)) := by
 have HR := toHX hR
 have HF := toHX hf
 have HD := toHX hd
 have hg := hR.own.lt g rfl
 obtain ⟨W1, hW1⟩ : ∃ W1, W1 = w.alloc (.cells #[.map (some b), .string typ, .string frm, .string to] 59) := ⟨_, rfl⟩
 have HB1 : Hid (Below w.heap.size w W1) := by show Below _ _ _; rw [hW1]; exact (Below.refl _ _).alloc (Nat.le_refl _) _
 have HR1 : Hid (RnC w.heap.size b typ frm to W1) := by show RnC _ _ _ _ _ _; rw [hW1]; exact ⟨by simp, by simp, by simp, by simp, by simp⟩
 have HO1 : Hid (W1.ownsRow base 46 2 (.slice (some ⟨g, 0, none⟩) rows.length cap) rows.length ((mixQ typ frm to rows 0).flatMap RR.cells)) := by
  show World.ownsRow _ _ _ _ _ _ _
  have e : mixQ typ frm to rows 0 = rows := by simp [mixQ]
  rw [e]
  exact own_heap hR.own fun k hk => HB1.out.block k (hR.own.lt k hk).2
 have hgw : g ≠ w.heap.size := by omega
 clear hR hf hd
 go_enter Tryz.func33, Tryz.ntmps33
 go_wp2_with fail
 rw [← hW1]
 clear hW1
 go_loopw [7] (fun i wr => ∃ k : Nat, k ≤ rows.length ∧ i = .int .i64 k ∧ Hid (wr.ownsRow base 46 2 (.slice (some ⟨g, 0, none⟩) rows.length cap) rows.length ((mixQ typ frm to rows k).flatMap RR.cells)) ∧ Hid (Chg (fun k => k = g) W1 wr)) (fun i _ => rows.length - (intOf i).toNat)
 case atStart => exact ⟨0, Nat.zero_le _, rfl, HO1, Chg.refl _ _⟩
 case round =>
  obtain ⟨k, hk, rfl, HO, HC⟩ := hrel
  have HRr : Hid (RnC w.heap.size b typ frm to wr) := HR1.out.chg HC.out fun e => hgw e.symm
  by_cases hlt : k < rows.length
  ·obtain ⟨l0, c0, c1, c2, c3⟩ := HRr.out
   have hcell := HO.out.cellAt (k * 2) (by omega)
   have hat := cells2_at (cells := RR.cells) (fun _ => rfl) (mixQ typ frm to rows k) k (by rw [mixQ_len]; exact hlt) 0 (by omega)
   rw [Nat.add_zero, mixQ_at typ frm to rows k hlt] at hat
   have s0 : wr.cell? ⟨g, k * 2, none⟩ = some (.string rows[k].name) := hcell.trans hat
   have sb : g < wr.heap.size := (HO.out.lt g rfl).2
   have sf : ∀ y, wr.frozen? ⟨g, y, none⟩ = false := fun y => HO.out.frozenAt y
   have hk1 : (0 : Int) ≤ (k : Int) := by omega
   have hk2 : (k : Int) < (rows.length : Int) := by omega
   clear hcell hat
   go_wp2_with fail
   obtain ⟨wi, hwi⟩ : ∃ wi, wi = wr := ⟨_, rfl⟩
   subst hwi
   obtain ⟨CV, hCV⟩ : ∃ C : Nat → Value, C = fun n => ((Value.slice (some { block := g, off := 0 }) rows.length cap) :: (Value.int IntKind.i64 (k : Int)) :: (Value.agg #[Value.map (some b), Value.string typ, Value.string frm, Value.string to]) :: (Value.pointer (some { block := w.heap.size, off := 1 })) :: (Value.string typ) :: (Value.slice (some { block := g, off := 0 }) rows.length cap) :: (Value.int IntKind.i64 (k : Int)) :: (Value.pointer (some { block := g, off := k * 2 })) :: (Value.pointer (some { block := g, off := k * 2 })) :: (Value.string rows[k].name) :: (undef) :: (Value.pointer (some { block := g, off := k * 2 })) :: (Value.pointer (some { block := g, off := k * 2 })) :: []).getD n undef := ⟨_, rfl⟩
   have HCV : Hid (CV 0 = Value.slice (some { block := g, off := 0 }) rows.length cap ∧ CV 1 = Value.int IntKind.i64 (k : Int) ∧ CV 2 = Value.agg #[Value.map (some b), Value.string typ, Value.string frm, Value.string to] ∧ CV 3 = Value.pointer (some { block := w.heap.size, off := 1 }) ∧ CV 4 = Value.string typ ∧ CV 5 = Value.slice (some { block := g, off := 0 }) rows.length cap ∧ CV 6 = Value.int IntKind.i64 (k : Int) ∧ CV 7 = Value.pointer (some { block := g, off := k * 2 }) ∧ CV 8 = Value.pointer (some { block := g, off := k * 2 }) ∧ CV 9 = Value.string rows[k].name ∧ CV 10 = undef ∧ CV 11 = Value.pointer (some { block := g, off := k * 2 }) ∧ CV 12 = Value.pointer (some { block := g, off := k * 2 })) := by show _ ∧ _; rw [hCV]; exact ⟨rfl, rfl, rfl, rfl, rfl, rfl, rfl, rfl, rfl, rfl, rfl, rfl, rfl⟩
   clear hCV
   refine wp_region_frame2 13 (fun | 0 => u10 | 1 => u11 | 2 => u12 | 3 => u13 | 4 => u14 | 5 => u15 | 6 => u16 | 7 => u17 | 8 => u18 | 9 => u19 | 10 => u20 | 11 => u21 | 12 => u22 | _ => undef) (fun fq => { tmps := List.toArray (Value.agg #[Value.map (some b), Value.string typ, Value.string frm, Value.string to] :: Value.slice (some { block := g, off := 0 }) rows.length cap :: Value.pointer (some { block := w.heap.size, off := 0 }) :: undef :: Value.int IntKind.i64 (k : Int) :: Value.slice (some { block := g, off := 0 }) rows.length cap :: Value.int IntKind.i64 (rows.length : Int) :: Value.int IntKind.i64 (k : Int) :: Value.bool true :: Value.int IntKind.i64 (k : Int) :: (fq 0) :: (fq 1) :: (fq 2) :: (fq 3) :: (fq 4) :: (fq 5) :: (fq 6) :: (fq 7) :: (fq 8) :: (fq 9) :: (fq 10) :: (fq 11) :: (fq 12) :: u23 :: undef :: undef :: []), defers := [] }) (CL 10 12 11 CV wi (fun v _ => v = Value.string (renN typ frm to typ rows[k].name))) (by kernel_rfl) rfl (by kernel_rfl) (fun o ho l fq w' hI hp => ?clR) rfl ⟨fun _ _ h => (by cases h), (Below.refl _ _).drew, fun h => (by cases h), fun h => (by cases h)⟩ ?stepR ?finR
   case clR =>
    obtain rfl := Option.some.inj ho
    intro k hk
    have hc : k = 0 ∨ k = 1 ∨ k = 2 ∨ k = 3 ∨ k = 4 ∨ k = 5 ∨ k = 6 ∨ k = 7 ∨ k = 8 ∨ k = 9 ∨ k = 10 ∨ k = 11 ∨ k = 12 := by omega
    rcases hc with rfl | rfl | rfl | rfl | rfl | rfl | rfl | rfl | rfl | rfl | rfl | rfl | rfl
    ·exact hp { on := 0, ground := .phase } (by simp) rfl
    ·exact hp { on := 1, ground := .phase } (by simp) rfl
    ·exact hp { on := 2, ground := .phase } (by simp) rfl
    ·exact hp { on := 3, ground := .phase } (by simp) rfl
    ·exact hp { on := 4, ground := .phase } (by simp) rfl
    ·exact hp { on := 5, ground := .phase } (by simp) rfl
    ·exact hp { on := 6, ground := .phase } (by simp) rfl
    ·exact hp { on := 7, ground := .phase } (by simp) rfl
    ·exact hp { on := 8, ground := .phase } (by simp) rfl
    ·exact hp { on := 9, ground := .phase } (by simp) rfl
    ·exact hp { on := 10, ground := .phase } (by simp) rfl
    ·exact hI.dep (hp { on := 12, ground := .data } (by simp) rfl)
    ·exact hp { on := 12, ground := .data } (by simp) rfl
   case stepR =>
    rintro i hi o ho l fq w' hli hI hpre
    have HI : Hid (CL 10 12 11 CV wi (fun v _ => v = Value.string (renN typ frm to typ rows[k].name)) l fq w') := hI
    have HPR : Hid (∀ e ∈ o.after, Region.binds .any e = true → l e.on = true) := hpre
    clear hI hpre
    have hc : i = 0 ∨ i = 1 ∨ i = 2 ∨ i = 3 ∨ i = 4 ∨ i = 5 ∨ i = 6 ∨ i = 7 ∨ i = 8 ∨ i = 9 ∨ i = 10 ∨ i = 11 ∨ i = 12 := by omega
    clear hi
    rcases hc with rfl | rfl | rfl | rfl | rfl | rfl | rfl | rfl | rfl | rfl | rfl | rfl | rfl
    ·obtain rfl := Option.some.inj ho
     have HP := toHX (HI.out.put (i := 0) (by decide) (fun h => absurd h (by decide)) HCV.out.1.symm)
     refine wpOp_hid rfl fun K HK => ?_
     clear ho HPR HI
     dsimp only
     go_simp
     exact HK.out _ _ ⟨_, by simp [upd], HP.out⟩
    ·obtain rfl := Option.some.inj ho
     have HP := toHX (HI.out.put (i := 1) (by decide) (fun h => absurd h (by decide)) HCV.out.2.1.symm)
     refine wpOp_hid rfl fun K HK => ?_
     clear ho HPR HI
     dsimp only
     go_simp
     exact HK.out _ _ ⟨_, by simp [upd], HP.out⟩
    ·obtain rfl := Option.some.inj ho
     have x0 : w'.cell? ⟨w.heap.size, 0, none⟩ = some (.map (some b)) := kept HI.out.bel l0 c0
     have x1 : w'.cell? ⟨w.heap.size, 1, none⟩ = some (.string typ) := kept HI.out.bel l0 c1
     have x2 : w'.cell? ⟨w.heap.size, 2, none⟩ = some (.string frm) := kept HI.out.bel l0 c2
     have x3 : w'.cell? ⟨w.heap.size, 3, none⟩ = some (.string to) := kept HI.out.bel l0 c3
     have HP := toHX (HI.out.put (i := 2) (by decide) (fun h => absurd h (by decide)) HCV.out.2.2.1.symm)
     refine wpOp_hid rfl fun K HK => ?_
     clear ho HPR HI
     dsimp only
     go_simp
     exact HK.out _ _ ⟨_, by simp [upd], HP.out⟩
    ·obtain rfl := Option.some.inj ho
     have HP := toHX (HI.out.put (i := 3) (by decide) (fun h => absurd h (by decide)) HCV.out.2.2.2.1.symm)
     refine wpOp_hid rfl fun K HK => ?_
     clear ho HPR HI
     dsimp only
     go_simp
     exact HK.out _ _ ⟨_, by simp [upd], HP.out⟩
    ·obtain rfl := Option.some.inj ho
     have e3 : fq 3 = Value.pointer (some { block := w.heap.size, off := 1 }) := (HI.out.val 3 (by decide) (HPR.out { on := 3, ground := .data } (by simp) rfl)).trans HCV.out.2.2.2.1
     have x1 : w'.cell? ⟨w.heap.size, 1, none⟩ = some (.string typ) := kept HI.out.bel l0 c1
     have HP := toHX (HI.out.put (i := 4) (by decide) (fun h => absurd h (by decide)) HCV.out.2.2.2.2.1.symm)
     refine wpOp_hid rfl fun K HK => ?_
     clear ho HPR HI
     simp only [e3]
     go_simp
     exact HK.out _ _ ⟨_, by simp [upd, e3], HP.out⟩
    ·obtain rfl := Option.some.inj ho
     have HP := toHX (HI.out.put (i := 5) (by decide) (fun h => absurd h (by decide)) HCV.out.2.2.2.2.2.1.symm)
     refine wpOp_hid rfl fun K HK => ?_
     clear ho HPR HI
     dsimp only
     go_simp
     exact HK.out _ _ ⟨_, by simp [upd], HP.out⟩
    ·obtain rfl := Option.some.inj ho
     have HP := toHX (HI.out.put (i := 6) (by decide) (fun h => absurd h (by decide)) HCV.out.2.2.2.2.2.2.1.symm)
     refine wpOp_hid rfl fun K HK => ?_
     clear ho HPR HI
     dsimp only
     go_simp
     exact HK.out _ _ ⟨_, by simp [upd], HP.out⟩
    ·obtain rfl := Option.some.inj ho
     have e5 : fq 5 = Value.slice (some { block := g, off := 0 }) rows.length cap := (HI.out.val 5 (by decide) (HPR.out { on := 5, ground := .data } (by simp) rfl)).trans HCV.out.2.2.2.2.2.1
     have e6 : fq 6 = Value.int IntKind.i64 (k : Int) := (HI.out.val 6 (by decide) (HPR.out { on := 6, ground := .data } (by simp) rfl)).trans HCV.out.2.2.2.2.2.2.1
     have HP := toHX (HI.out.put (i := 7) (by decide) (fun h => absurd h (by decide)) HCV.out.2.2.2.2.2.2.2.1.symm)
     refine wpOp_hid rfl fun K HK => ?_
     clear ho HPR HI
     simp only [e5, e6]
     go_simp
     exact HK.out _ _ ⟨_, by simp [upd, e5, e6], HP.out⟩
    ·obtain rfl := Option.some.inj ho
     have e7 : fq 7 = Value.pointer (some { block := g, off := k * 2 }) := (HI.out.val 7 (by decide) (HPR.out { on := 7, ground := .data } (by simp) rfl)).trans HCV.out.2.2.2.2.2.2.2.1
     have HP := toHX (HI.out.put (i := 8) (by decide) (fun h => absurd h (by decide)) HCV.out.2.2.2.2.2.2.2.2.1.symm)
     refine wpOp_hid rfl fun K HK => ?_
     clear ho HPR HI
     simp only [e7]
     go_simp
     exact HK.out _ _ ⟨_, by simp [upd, e7], HP.out⟩
    ·obtain rfl := Option.some.inj ho
     have e8 : fq 8 = Value.pointer (some { block := g, off := k * 2 }) := (HI.out.val 8 (by decide) (HPR.out { on := 8, ground := .data } (by simp) rfl)).trans HCV.out.2.2.2.2.2.2.2.2.1
     have x4 : w'.cell? ⟨g, k * 2, none⟩ = some (.string rows[k].name) := kept HI.out.bel sb s0
     have HP := toHX (HI.out.put (i := 9) (by decide) (fun h => absurd h (by decide)) HCV.out.2.2.2.2.2.2.2.2.2.1.symm)
     refine wpOp_hid rfl fun K HK => ?_
     clear ho HPR HI
     simp only [e8]
     go_simp
     exact HK.out _ _ ⟨_, by simp [upd, e8], HP.out⟩
    ·obtain rfl := Option.some.inj ho
     have e2 : fq 2 = Value.agg #[Value.map (some b), Value.string typ, Value.string frm, Value.string to] := (HI.out.val 2 (by decide) (HPR.out { on := 2, ground := .data } (by simp) rfl)).trans HCV.out.2.2.1
     have e4 : fq 4 = Value.string typ := (HI.out.val 4 (by decide) (HPR.out { on := 4, ground := .data } (by simp) rfl)).trans HCV.out.2.2.2.2.1
     have e9 : fq 9 = Value.string rows[k].name := (HI.out.val 9 (by decide) (HPR.out { on := 9, ground := .data } (by simp) rfl)).trans HCV.out.2.2.2.2.2.2.2.2.2.1
     have HB' := toHX HI.out.bel
     refine wpOp_hid rfl fun K HK => ?_
     clear ho HPR
     simp only [e2, e4, e9]
     go_simp
     refine (renName_any (some b) typ frm to typ rows[k].name w' HF.out).mono ?_
     rintro e w9 ⟨rfl, hb9⟩
     have hM9 : (fun (v : Value) (_ : World) => v = Value.string (renN typ frm to typ rows[k].name)) (Value.string (renN typ frm to typ rows[k].name)) w9 := rfl
     have HP := toHX (HI.out.call (by decide) (v := Value.string (renN typ frm to typ rows[k].name)) (HB'.out.trans (hb9.mono HB'.out.size)) hM9)
     clear hM9 hb9 HI
     go_wp2_with fail
     exact HK.out _ _ ⟨_, by simp [upd, e2, e4, e9], HP.out⟩
    ·obtain rfl := Option.some.inj ho
     have e0 : fq 0 = Value.slice (some { block := g, off := 0 }) rows.length cap := (HI.out.val 0 (by decide) (HPR.out { on := 0, ground := .data } (by simp) rfl)).trans HCV.out.1
     have e1 : fq 1 = Value.int IntKind.i64 (k : Int) := (HI.out.val 1 (by decide) (HPR.out { on := 1, ground := .data } (by simp) rfl)).trans HCV.out.2.1
     have HP := toHX (HI.out.put (i := 11) (by decide) (fun h => absurd h (by decide)) HCV.out.2.2.2.2.2.2.2.2.2.2.2.1.symm)
     refine wpOp_hid rfl fun K HK => ?_
     clear ho HPR HI
     simp only [e0, e1]
     go_simp
     exact HK.out _ _ ⟨_, by simp [upd, e0, e1], HP.out⟩
    ·obtain rfl := Option.some.inj ho
     have e11 : fq 11 = Value.pointer (some { block := g, off := k * 2 }) := (HI.out.val 11 (by decide) (HPR.out { on := 11, ground := .data } (by simp) rfl)).trans HCV.out.2.2.2.2.2.2.2.2.2.2.2.1
     have HP := toHX (HI.out.put (i := 12) (by decide) (fun _ => HPR.out { on := 11, ground := .data } (by simp) rfl) HCV.out.2.2.2.2.2.2.2.2.2.2.2.2.symm)
     refine wpOp_hid rfl fun K HK => ?_
     clear ho HPR HI
     simp only [e11]
     go_simp
     exact HK.out _ _ ⟨_, by simp [upd, e11], HP.out⟩
   case finR =>
    rintro o ho l fq w' hall hI
    obtain rfl := Option.some.inj ho
    have e12 : fq 12 = Value.pointer (some { block := g, off := k * 2 }) := (hI.val 12 (by decide) (hall 12 (by omega))).trans HCV.out.2.2.2.2.2.2.2.2.2.2.2.2
    have hM := hI.mid (hall 10 (by omega))
    have hbel := hI.bel
    have e10 : fq 10 = Value.string (renN typ frm to typ rows[k].name) := hM
    have x5 : w'.cell? ⟨g, k * 2, none⟩ = some (.string rows[k].name) := kept hbel sb s0
    have x6 : w'.frozen? ⟨g, k * 2, none⟩ = false := keptF hbel sb (sf _)
    have HC2 : Hid (Chg (fun k => k = g) W1 (w'.setCell ⟨g, k * 2, none⟩ (.string (renN typ frm to typ rows[k].name)))) := (HC.out.trans (Chg.of hbel)).trans (Chg.set _ rfl)
    have HO2 : Hid ((w'.setCell ⟨g, k * 2, none⟩ (.string (renN typ frm to typ rows[k].name))).ownsRow base 46 2 (.slice (some ⟨g, 0, none⟩) rows.length cap) rows.length ((mixQ typ frm to rows (k + 1)).flatMap RR.cells)) := by
     show World.ownsRow _ _ _ _ _ _ _
     have h1 : w'.ownsRow base 46 2 (.slice (some ⟨g, 0, none⟩) rows.length cap) rows.length ((mixQ typ frm to rows k).flatMap RR.cells) := own_heap HO.out fun z hz => hbel.block z (HO.out.lt z hz).2
     have h2 := (h1.stored (k * 2) (.string (renN typ frm to typ rows[k].name))).1
     rw [name_set (renN typ frm to typ rows[k].name) (mixQ typ frm to rows k) k (by rw [mixQ_len]; exact hlt), mixQ_at typ frm to rows k hlt] at h2
     rw [mixQ_succ typ frm to rows k hlt]; exact h2
    clear hM hbel
    refine wpOp_hid rfl fun K HK => ?_
    simp only [e10, e12]
    go_simp
    refine HK.out _ _ ?_
    clear ho HK K hI HCV e10 e12 hall
    obtain ⟨y0, hy0⟩ : ∃ y, y = fq 0 := ⟨_, rfl⟩
    rw [← hy0]
    obtain ⟨y1, hy1⟩ : ∃ y, y = fq 1 := ⟨_, rfl⟩
    rw [← hy1]
    obtain ⟨y2, hy2⟩ : ∃ y, y = fq 2 := ⟨_, rfl⟩
    rw [← hy2]
    obtain ⟨y3, hy3⟩ : ∃ y, y = fq 3 := ⟨_, rfl⟩
    rw [← hy3]
    obtain ⟨y4, hy4⟩ : ∃ y, y = fq 4 := ⟨_, rfl⟩
    rw [← hy4]
    obtain ⟨y5, hy5⟩ : ∃ y, y = fq 5 := ⟨_, rfl⟩
    rw [← hy5]
    obtain ⟨y6, hy6⟩ : ∃ y, y = fq 6 := ⟨_, rfl⟩
    rw [← hy6]
    obtain ⟨y7, hy7⟩ : ∃ y, y = fq 7 := ⟨_, rfl⟩
    rw [← hy7]
    obtain ⟨y8, hy8⟩ : ∃ y, y = fq 8 := ⟨_, rfl⟩
    rw [← hy8]
    obtain ⟨y9, hy9⟩ : ∃ y, y = fq 9 := ⟨_, rfl⟩
    rw [← hy9]
    obtain ⟨y11, hy11⟩ : ∃ y, y = fq 11 := ⟨_, rfl⟩
    rw [← hy11]
    clear hy0 hy1 hy2 hy3 hy4 hy5 hy6 hy7 hy8 hy9 hy11 fq l CV
    clear x5 x6
    go_wp2_with fail
    go_roundw
    case rel => exact ⟨k + 1, by omega, by go_num, HO2, HC2⟩
    case measure => first | (simp [intOf]; done) | (simp [intOf]; omega)
  ·obtain rfl : k = rows.length := by omega
   have HO2 : Hid (wr.ownsRow base 46 2 (.slice (some ⟨g, 0, none⟩) (rows.map (renQ typ frm to)).length cap) (rows.map (renQ typ frm to)).length ((rows.map (renQ typ frm to)).flatMap RR.cells)) := by
    show World.ownsRow _ _ _ _ _ _ _
    have h := HO.out
    rw [mixQ_all] at h
    rw [List.length_map]; exact h
   have hsort := sortRel_any base g cap (rows.map (renQ typ frm to)) wr HO2.out (by simpa using hne) (by simpa using h6) HD.out
   rw [List.length_map] at hsort
   have HSORT := toHX hsort
   clear hsort
   go_wp2_with fail
   refine HSORT.out.mono ?_
   rintro e w5 ⟨rfl, ys, hp, hys, hown, hc⟩
   have HE : Hid (RelM w5 base (.slice (some ⟨g, 0, none⟩) rows.length cap) ys ∧ rls ys = sortR (rls (rows.map (renQ typ frm to))) ∧ Chg (fun k => k = g) w w5 ∧ ys.Perm (rows.map (renQ typ frm to))) := by
    have hC : Chg (fun k => k = g) w w5 := ((Chg.of HB1.out).trans HC.out).trans hc
    have hl : ys.length = rows.length := by rw [hp.length_eq, List.length_map]
    exact ⟨RelM.again (f := renQ typ frm to) HR.out (fun q => ⟨rfl, rfl⟩) hp hC (by rw [hl]; exact hown), hys, hC, hp⟩
   clear hp hys hown hc
   go_wp2
   go_end0
   exact ⟨rfl, ys, HE.out.1, HE.out.2.1, HE.out.2.2.1, HE.out.2.2.2⟩
end Go.Proofs.YtmghabcaakgjiaaGreat
