/- Contract of the document's function on strata. -/
import Derived.Test.YtmghabcaakgjiaaGreatSpecSchema8
import Derived.Test.YtmghabcaakgjiaaGreatJ5
import Derived.Test.YtmghabcaakgjiaaGreatJ12
import Derived.Test.YtmghabcaakgjiaaGreatJ6
namespace Go.Proofs.YtmghabcaakgjiaaGreat
open Go.ChangeShapes Go.WideShapes Go.ChangeAt Go.RowKit
open Pl

def St.cells (s : St) : List Value := [.string s.typ, .string s.rel, .int .i64 s.n]
def flatS : List St → List Value
  | [] => []
  | s :: xs => s.cells ++ flatS xs
theorem flatS_append (xs ys : List St) : flatS (xs ++ ys) = flatS xs ++ flatS ys := by
  induction xs with
  | nil => rfl
  | cons d ds ih => simp [flatS, ih]
theorem flatS_snoc (xs : List St) (d : St) : flatS (xs ++ [d]) = flatS xs ++ d.cells := by rw [flatS_append]; simp [flatS]
theorem flatS_get (xs : List St) (i : Nat) (h : i < xs.length) (o : Nat) (ho : o < 3) : (flatS xs)[i * 3 + o]? = (xs[i].cells)[o]? := by
  induction xs generalizing i with
  | nil => simp at h
  | cons s xs ih =>
    cases i with
    | zero =>
      simp only [flatS, Nat.zero_mul, Nat.zero_add, List.getElem_cons_zero]
      rw [List.getElem?_append_left (by simp [St.cells]; omega)]
    | succ i =>
      simp only [flatS, List.getElem_cons_succ]
      rw [List.getElem?_append_right (by simp [St.cells]; omega)]
      have e : (i + 1) * 3 + o - s.cells.length = i * 3 + o := by simp [St.cells]; omega
      rw [e]
      exact ih i (by simpa using h)
theorem flatD_get (xs : List Dp) (i : Nat) (h : i < xs.length) (o : Nat) (ho : o < 3) : (flatD xs)[i * 3 + o]? = (xs[i].cells)[o]? := by
  induction xs generalizing i with
  | nil => simp at h
  | cons s xs ih =>
    cases i with
    | zero =>
      simp only [flatD, Nat.zero_mul, Nat.zero_add, List.getElem_cons_zero]
      rw [List.getElem?_append_left (by simp [Dp.cells]; omega)]
    | succ i =>
      simp only [flatD, List.getElem_cons_succ]
      rw [List.getElem?_append_right (by simp [Dp.cells]; omega)]
      have e : (i + 1) * 3 + o - s.cells.length = i * 3 + o := by simp [Dp.cells]; omega
      rw [e]
      exact ih i (by simpa using h)
theorem add_none (g j : Nat) : (⟨g, 0, none⟩ : Addr).add j = ⟨g, j, none⟩ := by
  unfold Addr.add
  by_cases hj : j = 0
  · subst hj; simp
  · simp [hj]

/-- a row of records of three cells that the call owns: where it lies -/
theorem own3 {w : World} {base : Nat} {t : TypeId} {v : Value} {n : Nat} {xs : List Value} (h : w.ownsRow base t 3 v n xs) : ∃ ad cp, v = .slice ad n cp ∧ (n = 0 ∨ ∃ g, ad = some ⟨g, 0, none⟩ ∧ base ≤ g ∧ g < w.heap.size ∧ ∀ (j : Nat) (u : Value), xs[j]? = some u → w.cell? ⟨g, j, none⟩ = some u) := by
  have h2 := h
  rcases h.2 with ⟨rfl, h0⟩ | ⟨g, cp, cur, rfl, hbg, hg, hnc, -⟩
  · exact ⟨none, 0, by rw [h0], .inl h0⟩
  · have hlt := h2.lt g rfl
    refine ⟨_, cp, rfl, .inr ⟨g, rfl, hlt.1, hlt.2, fun j u hu => ?_⟩⟩
    have := h2.cells (g := g) rfl j u hu
    rwa [add_none] at this

/-- dependencies in memory -/
def AtD (w : World) (b off : Nat) (d : Dp) : Prop := w.cell? ⟨b, off, none⟩ = some (.string d.typ) ∧ w.cell? ⟨b, off + 1, none⟩ = some (.string d.rel) ∧ w.cell? ⟨b, off + 2, none⟩ = some (.bool d.neg)
def SlD (w : World) (lo : Nat) (ad : Option Addr) (xs : List Dp) : Prop := xs = [] ∨ ∃ b, ad = some ⟨b, 0, none⟩ ∧ lo ≤ b ∧ b < w.heap.size ∧ ∀ (i : Nat) (h : i < xs.length), AtD w b (i * 3) xs[i]
theorem own_D {w : World} {base : Nat} {v : Value} {xs : List Dp} (h : w.ownsRow base 126 3 v xs.length (flatD xs)) : ∃ ad cp, v = .slice ad xs.length cp ∧ SlD w base ad xs := by
  obtain ⟨ad, cp, e, h0⟩ := own3 h
  refine ⟨ad, cp, e, ?_⟩
  rcases h0 with h0 | ⟨g, e1, hb, hg, hc⟩
  · exact .inl (List.length_eq_zero_iff.1 h0)
  · refine .inr ⟨g, e1, hb, hg, fun i hi => ⟨?_, ?_, ?_⟩⟩
    · exact hc _ _ (by have := flatD_get xs i hi 0 (by omega); simpa [Dp.cells] using this)
    · exact hc _ _ (by have := flatD_get xs i hi 1 (by omega); simpa [Dp.cells] using this)
    · exact hc _ _ (by have := flatD_get xs i hi 2 (by omega); simpa [Dp.cells] using this)
/-- strata in a row of the call's own, at one block -/
def SlO (w : World) (g : Nat) (xs : List St) : Prop := ∀ (i : Nat) (h : i < xs.length), At3 w g (i * 3) xs[i]
theorem own_O {w : World} {base : Nat} {v : Value} {xs : List St} (h : w.ownsRow base 121 3 v xs.length (flatS xs)) : ∃ ad cp, v = .slice ad xs.length cp ∧ (xs.length = 0 ∨ ∃ g, ad = some ⟨g, 0, none⟩ ∧ base ≤ g ∧ g < w.heap.size ∧ SlO w g xs) := by
  obtain ⟨ad, cp, e, h0⟩ := own3 h
  refine ⟨ad, cp, e, ?_⟩
  rcases h0 with h0 | ⟨g, e1, hb, hg, hc⟩
  · exact .inl h0
  · refine .inr ⟨g, e1, hb, hg, fun i hi => ⟨?_, ?_, ?_⟩⟩
    · exact hc _ _ (by have := flatS_get xs i hi 0 (by omega); simpa [St.cells] using this)
    · exact hc _ _ (by have := flatS_get xs i hi 1 (by omega); simpa [St.cells] using this)
    · exact hc _ _ (by have := flatS_get xs i hi 2 (by omega); simpa [St.cells] using this)

theorem info_st : (Tryz.prog.info? 121).map (fun i => (i.zero, i.size, i.bytes)) = some (some (.agg #[.string ⟨#[]⟩, .string ⟨#[]⟩, .int .i64 0]), 3, 40) := by kernel_rfl

def zst (ks : List (ByteArray × ByteArray)) : List St := ks.map fun k => ⟨k.1, k.2, 0⟩
theorem zst_len (ks : List (ByteArray × ByteArray)) : (zst ks).length = ks.length := by simp [zst]
theorem zst_snoc (ks : List (ByteArray × ByteArray)) (k : ByteArray × ByteArray) : zst (ks ++ [k]) = zst ks ++ [⟨k.1, k.2, 0⟩] := by simp [zst]
def entUp (rs : List TR) (k : Nat) : List (ByteArray × ByteArray) := ents (tys (rs.take k))
def entIn (t : TR) (j : Nat) : List (ByteArray × ByteArray) := (t.rows.take j).map fun q => (t.name, q.name)
theorem entUp_succ (rs : List TR) (k : Nat) (h : k < rs.length) : entUp rs (k + 1) = entUp rs k ++ entIn rs[k] rs[k].rows.length := by
  unfold entUp entIn
  rw [List.take_succ_eq_append_getElem h, List.take_length]
  unfold tys ents
  rw [List.map_append, List.flatMap_append, List.map_singleton, List.flatMap_singleton]
  congr 1
  simp [entsT, TR.p, rls, RR.p]
theorem entIn_succ (t : TR) (j : Nat) (h : j < t.rows.length) : entIn t (j + 1) = entIn t j ++ [(t.name, t.rows[j].name)] := by
  unfold entIn
  rw [List.take_succ_eq_append_getElem h, List.map_append]; rfl
theorem entIn_len (t : TR) (j : Nat) : (entIn t j).length ≤ t.rows.length := by unfold entIn; simp; omega
theorem entUp_len (rs : List TR) (hr : ∀ r ∈ rs, r.rows.length ≤ 6) (k : Nat) : (entUp rs k).length ≤ k * 6 := by
  induction k with
  | zero => simp [entUp, tys, ents]
  | succ k ih =>
    by_cases h : k < rs.length
    · rw [entUp_succ _ _ h, List.length_append]
      have h1 := entIn_len rs[k] rs[k].rows.length
      have h2 := hr rs[k] (List.getElem_mem h)
      omega
    · have e : rs.take (k + 1) = rs.take k := by rw [List.take_of_length_le (by omega), List.take_of_length_le (by omega)]
      unfold entUp at ih ⊢
      rw [e]; omega

end Go.Proofs.YtmghabcaakgjiaaGreat

/- Contract of the program's table of relations. -/
namespace Go.Proofs.YtmghabcaakgjiaaGreat
open Go.ChangeShapes Go.WideShapes Go.ChangeAt Go.RowKit Go.Maps
open Pl

def RR.sl (q : RR) : Value := .slice q.ad q.rows.length q.cap
def tabIn (t : ByteArray) (M : ByteArray × ByteArray → Option Value) : List RR → ByteArray × ByteArray → Option Value
  | [] => M
  | q :: qs => tabIn t (updM M (t, q.name) (some q.sl)) qs
def tabFrom (M : ByteArray × ByteArray → Option Value) : List TR → ByteArray × ByteArray → Option Value
  | [] => M
  | t :: ts => tabFrom (tabIn t.name M t.rows) ts
def tabM (rs : List TR) : ByteArray × ByteArray → Option Value := tabFrom (fun _ => none) rs
theorem tabIn_append (t : ByteArray) (M : ByteArray × ByteArray → Option Value) (xs ys : List RR) : tabIn t M (xs ++ ys) = tabIn t (tabIn t M xs) ys := by
  induction xs generalizing M with
  | nil => rfl
  | cons q qs ih => simp only [List.cons_append, tabIn]; exact ih _
theorem tabFrom_append (M : ByteArray × ByteArray → Option Value) (xs ys : List TR) : tabFrom M (xs ++ ys) = tabFrom (tabFrom M xs) ys := by
  induction xs generalizing M with
  | nil => rfl
  | cons q qs ih => simp only [List.cons_append, tabFrom]; exact ih _
theorem tabIn_succ (t : ByteArray) (M : ByteArray × ByteArray → Option Value) (qs : List RR) (j : Nat) (h : j < qs.length) : tabIn t M (qs.take (j + 1)) = updM (tabIn t M (qs.take j)) (t, qs[j].name) (some qs[j].sl) := by
  rw [List.take_succ_eq_append_getElem h, tabIn_append]; rfl
theorem tabFrom_succ (M : ByteArray × ByteArray → Option Value) (rs : List TR) (k : Nat) (h : k < rs.length) : tabFrom M (rs.take (k + 1)) = tabIn rs[k].name (tabFrom M (rs.take k)) rs[k].rows := by
  rw [List.take_succ_eq_append_getElem h, tabFrom_append]; rfl

set_option maxRecDepth 100000 in
set_option maxHeartbeats 8000000 in
theorem tableOf_any (ad : Option Addr) (cap : Nat) (rs : List TR) (w : World) (hlen : rs.length ≤ 6) (hs : SlT w ad rs) (hrl : ∀ r ∈ rs, r.rows.length ≤ 6) (hf : ∀ r ∈ rs, r.fits) :
    Calls Tryz.prog 26 #[.slice ad rs.length cap] w fun e w' => e = .returned (.map (some w.heap.size)) ∧ MapV encK Tryz.prog 73 w' w.heap.size 36 (tabM rs) ∧ Below w.heap.size w w' := by
  have HS : Hid (SlT w ad rs) := hs
  have HRL : Hid (∀ r ∈ rs, r.rows.length ≤ 6) := hrl
  have HFT : Hid (∀ r ∈ rs, r.fits) := hf
  have HM0 : Hid (MapV encK Tryz.prog 73 (w.alloc (.map #[] 0)) w.heap.size 0 (fun _ => none)) := mapV_made _ _ _ w
  have HB0 : Hid (Below w.heap.size w (w.alloc (.map #[] 0))) := (Below.refl _ _).alloc (Nat.le_refl _) _
  clear hs hrl hf
  have hmm := @run_makeMap Tryz.prog
  go_enter Tryz.func26, Tryz.ntmps26
  go_wp2_with fail
  go_loopw [11] (fun i wr => ∃ k : Nat, k ≤ rs.length ∧ i = .int .i64 k ∧ Hid (MapV encK Tryz.prog 73 wr w.heap.size (k * 6) (tabFrom (fun _ => none) (rs.take k))) ∧ Hid (Below w.heap.size w wr)) (fun i _ => rs.length - (intOf i).toNat)
  case atStart => exact ⟨0, Nat.zero_le _, rfl, HM0, HB0⟩
  case round =>
    clear HM0 HB0 hmm
    obtain ⟨k, hk, rfl, HM, HB⟩ := hrel
    by_cases hlt : k < rs.length
    · rcases HS.out.below HB.out with rfl | ⟨b, off, rfl, hb, hr, hok⟩
      · simp at hlt
      obtain ⟨t0, t1⟩ := hr k hlt
      have hk1 : (0 : Int) ≤ (k : Int) := by omega
      have hk2 : (k : Int) < (rs.length : Int) := by omega
      have h6 : rs[k].rows.length ≤ 6 := HRL.out _ (List.getElem_mem hlt)
      have z0 : rs[k].name.size ≤ maxLen := (HFT.out _ (List.getElem_mem hlt)).1
      have HFR : Hid (∀ q ∈ rs[k].rows, q.fits) := (HFT.out _ (List.getElem_mem hlt)).2.2
      clear hr hok
      obtain ⟨W1, hW1⟩ : ∃ W1, W1 = wr.alloc (.cells #[.string rs[k].name, .slice rs[k].ad rs[k].rows.length rs[k].cap] 44) := ⟨_, rfl⟩
      have hal : Below wr.heap.size wr W1 := by rw [hW1]; exact (Below.refl _ _).alloc (Nat.le_refl _) _
      have HM1 : Hid (MapV encK Tryz.prog 73 W1 w.heap.size (k * 6) (tabFrom (fun _ => none) (rs.take k))) := HM.out.below hal
      have HB1 : Hid (Below w.heap.size w W1) := HB.out.trans (hal.mono HB.out.size)
      have HC1 : Hid (wr.heap.size < W1.heap.size ∧ W1.cell? ⟨wr.heap.size, 0, none⟩ = some (.string rs[k].name)) := ⟨by rw [hW1]; simp, by rw [hW1]; simp⟩
      have hgw : w.heap.size < wr.heap.size := HM.out.lt
      clear HM hal
      go_wp2_with fail
      rw [← hW1]
      clear hW1 t0 t1 HB
      obtain ⟨wo, hwo⟩ : ∃ wo, wo = wr := ⟨_, rfl⟩
      subst hwo
      go_loopw [18] (fun i w2 => ∃ j : Nat, j ≤ rs[k].rows.length ∧ i = .int .i64 j ∧ Hid (MapV encK Tryz.prog 73 w2 w.heap.size (k * 6 + j) (tabIn rs[k].name (tabFrom (fun _ => none) (rs.take k)) (rs[k].rows.take j))) ∧ Hid (Below w.heap.size w w2) ∧ Hid (wo.heap.size < w2.heap.size ∧ w2.cell? ⟨wo.heap.size, 0, none⟩ = some (.string rs[k].name))) (fun i _ => rs[k].rows.length - (intOf i).toNat)
      case atStart => exact ⟨0, Nat.zero_le _, rfl, HM1, HB1, HC1⟩
      case round =>
        clear HM1 HB1 HC1
        obtain ⟨j, hj, rfl, HM, HB, HC⟩ := hrel
        by_cases hjl : j < rs[k].rows.length
        · rcases HS.out.below HB.out with hnil | ⟨b', off', he, hb2, hr, hok⟩
          · rw [hnil] at hlt; simp at hlt
          injection he with he; injection he with he1 he2; subst he1; subst he2
          have ok := hok rs[k] (List.getElem_mem hlt)
          rcases ok with hnil | ⟨b2, off2, had, hbb, hr2, -⟩
          · rw [hnil] at hjl; simp at hjl
          obtain ⟨q0, q1⟩ := hr2 j hjl
          have z1 : rs[k].rows[j].name.size ≤ maxLen := (HFR.out _ (List.getElem_mem hjl)).1
          have hj1 : (0 : Int) ≤ (j : Int) := by omega
          have hj2 : (j : Int) < (rs[k].rows.length : Int) := by omega
          obtain ⟨kl, hkl⟩ := relKeyOf (rs[k].name, rs[k].rows[j].name) z0 z1
          have HKL : Hid (keyOf Tryz.prog 73 (encK (rs[k].name, rs[k].rows[j].name)) = some kl) := hkl
          obtain ⟨W2, hW2⟩ : ∃ W2, W2 = wr.alloc (.cells #[.string rs[k].rows[j].name, .slice rs[k].rows[j].ad rs[k].rows[j].rows.length rs[k].rows[j].cap] 46) := ⟨_, rfl⟩
          have hal : Below wr.heap.size wr W2 := by rw [hW2]; exact (Below.refl _ _).alloc (Nat.le_refl _) _
          have HM2 : Hid (MapV encK Tryz.prog 73 W2 w.heap.size (k * 6 + j) (tabIn rs[k].name (tabFrom (fun _ => none) (rs.take k)) (rs[k].rows.take j))) := HM.out.below hal
          have HB2 : Hid (Below w.heap.size w W2) := HB.out.trans (hal.mono HB.out.size)
          have hc1 := kept5 hal HC.out.1 HC.out.2
          have HC2 : Hid (wo.heap.size < W2.heap.size ∧ W2.cell? ⟨wo.heap.size, 0, none⟩ = some (.string rs[k].name)) := ⟨Nat.lt_of_lt_of_le HC.out.1 hal.size, hc1⟩
          have g0 : W2.cell? ⟨wr.heap.size, 0, none⟩ = some (.string rs[k].rows[j].name) := by rw [hW2]; simp
          have g1 : W2.cell? ⟨wr.heap.size, 1, none⟩ = some (.slice rs[k].rows[j].ad rs[k].rows[j].rows.length rs[k].rows[j].cap) := by rw [hW2]; simp
          have hsz : wo.heap.size < wr.heap.size := HC.out.1
          have hc0 := HC.out.2
          rw [had]
          clear hr hok hr2 hkl HM hal HC
          go_wp2_with (first | (at_mapUpdate; rw [← hW2]; refine wpList_storeV _ rfl _ _ _ 56 rfl 73 38 relLaw encK_inj Tryz.underlying56 w.heap.size (k * 6 + j) _ rfl HM2.out (by unfold maxLen; omega) (rs[k].name, rs[k].rows[j].name) kl rfl HKL.out _ rfl ?_; intro w3 hV3 hg3) | go_in)
          have HM4 : Hid (MapV encK Tryz.prog 73 w3 w.heap.size (k * 6 + (j + 1)) (tabIn rs[k].name (tabFrom (fun _ => none) (rs.take k)) (rs[k].rows.take (j + 1)))) := by
            show MapV _ _ _ _ _ _ _
            rw [tabIn_succ _ _ _ _ hjl]; exact hV3
          have HB4 : Hid (Below w.heap.size w w3) := HB2.out.grown hg3 HB2.out.size (fun i hi => by injection hi with hi; omega)
          have HC4 : Hid (wo.heap.size < w3.heap.size ∧ w3.cell? ⟨wo.heap.size, 0, none⟩ = some (.string rs[k].name)) := ⟨Nat.lt_of_lt_of_le HC2.out.1 hg3.size, by rw [hg3.cell_far _ HC2.out.1 (by simp; omega)]; exact HC2.out.2⟩
          clear hV3 hg3 hW2 HM2 HB2 HC2 g0 g1 q0 q1 hc0 hc1
          go_wp2
          go_roundw
          case rel => exact ⟨j + 1, by omega, by go_num, HM4, HB4, HC4⟩
          case measure => first | (simp [intOf]; done) | (simp [intOf]; omega)
        · obtain rfl : j = rs[k].rows.length := by omega
          have HM4 : Hid (MapV encK Tryz.prog 73 wr w.heap.size ((k + 1) * 6) (tabFrom (fun _ => none) (rs.take (k + 1)))) := by
            show MapV _ _ _ _ _ _ _
            have := HM.out
            rw [List.take_length] at this
            rw [tabFrom_succ _ _ _ hlt]; exact this.mono (by omega)
          clear HM
          go_wp2
          go_roundw
          case rel => exact ⟨k + 1, by omega, by go_num, HM4, HB⟩
          case measure => first | (simp [intOf]; done) | (simp [intOf]; omega)
    · obtain rfl : k = rs.length := by omega
      have HM4 : Hid (MapV encK Tryz.prog 73 wr w.heap.size 36 (tabM rs)) := by
        show MapV _ _ _ _ _ _ _
        have := HM.out
        rw [List.take_length] at this
        exact this.mono (by omega)
      go_wp2
      go_ret
      exact ⟨rfl, HM4.out, HB.out⟩
end Go.Proofs.YtmghabcaakgjiaaGreat
