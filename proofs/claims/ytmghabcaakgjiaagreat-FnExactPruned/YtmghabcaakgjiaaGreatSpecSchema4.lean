/- Contract of the document's function on what an expression names. -/
import Derived.Test.YtmghabcaakgjiaaGreatJ4
namespace Go.Proofs.YtmghabcaakgjiaaGreat
open Go.ChangeShapes Go.WideShapes Go.ChangeAt Go.RowKit
open Pl

def alRef (ts : List Ty) (a : Al) : Bool := typP ts a.t && (a.s.toList.isEmpty || !(relOr ts a.t a.s).isEmpty)
def refA (ts : List Ty) (xs : List Al) : Bool := xs.all (alRef ts)
def refN (ts : List Ty) (typ : ByteArray) (e : Ex) : Bool :=
  if e.kind = 2 then !(relOr ts typ e.name).isEmpty
  else if e.kind = 3 then directP (relOr ts typ e.over) && !(goalsP ts typ e.over e.name).isEmpty
  else true
/-- does an expression name just what is there? -/
def refsP (ts : List Ty) (typ : ByteArray) : List Ex → Bool
  | [] => true
  | e :: es => if refA ts e.allow && refN ts typ e then refsP ts typ es else false
def refAt (ts : List Ty) (xs : List Al) (k : Nat) : Bool := refA ts (xs.take k)
theorem refAt_zero (ts : List Ty) (xs : List Al) : refAt ts xs 0 = true := by simp [refAt, refA]
theorem refAt_succ (ts : List Ty) (xs : List Al) (k : Nat) (h : k < xs.length) : refAt ts xs (k + 1) = (refAt ts xs k && alRef ts xs[k]) := by
  unfold refAt refA; rw [List.take_succ_eq_append_getElem h, List.all_append]; simp
theorem refA_bad (ts : List Ty) (xs : List Al) (k : Nat) (h : k < xs.length) (hb : alRef ts xs[k] = false) : refA ts xs = false := by
  unfold refA
  rw [Bool.eq_false_iff]; intro h2; rw [List.all_eq_true] at h2; have := h2 xs[k] (List.getElem_mem h); rw [hb] at this; cases this
theorem kept5 {w w' : World} {g o : Nat} {v : Value} (hB : Below w.heap.size w w') (hg : g < w.heap.size) (h : w.cell? ⟨g, o, none⟩ = some v) : w'.cell? ⟨g, o, none⟩ = some v := (hB.cell (p := ⟨g, o, none⟩) hg).trans h

set_option maxRecDepth 8000 in
set_option maxHeartbeats 4000000 in
theorem l2Refs_any (ad adE : Option Addr) (cap capE : Nat) (rs : List TR) (typ : ByteArray) (rows : List ER) (w : World) (hlen : rs.length ≤ 1048576) (hs : SlT w ad rs) (hl : ∀ r ∈ rs, r.light) (hle : rows.length ≤ 1048576) (hse : SlE w adE rows) (hlE : ∀ q ∈ rows, q.e.light) :
    Calls Tryz.prog 55 #[.slice ad rs.length cap, .string typ, .slice adE rows.length capE] w fun e w' => e = .returned (.bool (refsP (tys rs) typ (exs rows))) ∧ Below w.heap.size w w' := by
  have HS : Hid (SlT w ad rs) := hs
  have HL : Hid (∀ r ∈ rs, r.light) := hl
  have HE : Hid (SlE w adE rows) := hse
  have HLE : Hid (∀ q ∈ rows, q.e.light) := hlE
  clear hs hl hse hlE
  go_enter Tryz.func55, Tryz.ntmps55
  go_wp2_with fail
  go_loopw [7] (fun i wr => ∃ k : Nat, k ≤ rows.length ∧ i = .int .i64 k ∧ Hid (refsP (tys rs) typ (exs (rows.drop k)) = refsP (tys rs) typ (exs rows)) ∧ Hid (Below w.heap.size w wr)) (fun i _ => rows.length - (intOf i).toNat)
  case atStart => exact ⟨0, Nat.zero_le _, rfl, rfl, Below.refl _ _⟩
  case round =>
    obtain ⟨k, hk, rfl, HP, HB⟩ := hrel
    by_cases hlt : k < rows.length
    · have HS1 : Hid (SlT _ ad rs) := HS.out.below HB.out
      rcases HE.out.below HB.out with rfl | ⟨b, off, rfl, hb, hr, hok⟩
      · simp at hlt
      obtain ⟨t0, t1, t2, t3, t4⟩ := hr k hlt
      have HOK : Hid (rows[k].ok wr) := hok rows[k] (List.getElem_mem hlt)
      have lg := (HLE.out rows[k] (List.getElem_mem hlt)).1
      have hk1 : (0 : Int) ≤ (k : Int) := by omega
      have hk2 : (k : Int) < (rows.length : Int) := by omega
      clear hr hok
      obtain ⟨W1, hW1⟩ : ∃ W1, W1 = wr.alloc (.cells #[.int .i64 rows[k].e.kind, .slice rows[k].adA rows[k].e.allow.length rows[k].capA, .string rows[k].e.over, .string rows[k].e.name, .slice rows[k].adK rows[k].e.kids.length rows[k].capK] 50) := ⟨_, rfl⟩
      have hal : Below wr.heap.size wr W1 := by rw [hW1]; exact (Below.refl _ _).alloc (Nat.le_refl _) _
      have HAL : Hid (Below wr.heap.size wr W1) := hal
      have HBW : Hid (Below w.heap.size w W1) := HB.out.trans (hal.mono HB.out.size)
      have hgl : wr.heap.size < W1.heap.size := by rw [hW1]; simp
      have g0 : W1.cell? ⟨wr.heap.size, 0, none⟩ = some (.int .i64 rows[k].e.kind) := by rw [hW1]; simp
      have g1 : W1.cell? ⟨wr.heap.size, 1, none⟩ = some (.slice rows[k].adA rows[k].e.allow.length rows[k].capA) := by rw [hW1]; simp
      have g2 : W1.cell? ⟨wr.heap.size, 2, none⟩ = some (.string rows[k].e.over) := by rw [hW1]; simp
      have g3 : W1.cell? ⟨wr.heap.size, 3, none⟩ = some (.string rows[k].e.name) := by rw [hW1]; simp
      clear hal
      go_wp2_with fail
      rw [← hW1]
      clear hW1
      go_loopw [9] (fun i w2 => ∃ j : Nat, j ≤ rows[k].e.allow.length ∧ i = .int .i64 j ∧ Hid (refAt (tys rs) rows[k].e.allow j = true) ∧ Hid (Below W1.heap.size W1 w2)) (fun i _ => rows[k].e.allow.length - (intOf i).toNat)
      case atStart => exact ⟨0, Nat.zero_le _, rfl, refAt_zero _ _, Below.refl _ _⟩
      case round =>
        obtain ⟨j, hj, rfl, HJ, HB2⟩ := hrel
        have d0 := kept5 HB2.out hgl g0
        have d1 := kept5 HB2.out hgl g1
        have d2 := kept5 HB2.out hgl g2
        have d3 := kept5 HB2.out hgl g3
        clear g0 g1 g2 g3 t0 t1 t2 t3 t4
        have HBO : Hid (Below w.heap.size w _) := HBW.out.trans (HB2.out.mono HBW.out.size)
        have HS2 : Hid (SlT _ ad rs) := HS.out.below HBO.out
        by_cases hjl : j < rows[k].e.allow.length
        · have hA2 : SlA _ rows[k].adA rows[k].e.allow := ((HOK.out.1).below HAL.out).below HB2.out
          rcases hA2 with hnil | ⟨ba, offa, hadA, hba, hra⟩
          · rw [hnil] at hjl; simp at hjl
          rw [hadA] at d1
          obtain ⟨q0, q1⟩ := hra j hjl
          have hj1 : (0 : Int) ≤ (j : Int) := by omega
          have hj2 : (j : Int) < (rows[k].e.allow.length : Int) := by omega
          clear hra hadA
          go_wp2_with fail
          refine (l2Type_any ad cap rs _ _ hlen (HS2.out.below ((Below.refl _ _).alloc (Nat.le_refl _) _))).mono ?_
          rintro e w3 ⟨rfl, rfl⟩
          cases hty : typP (tys rs) rows[k].e.allow[j].t with
          | false =>
            have HN : Hid (refsP (tys rs) typ (exs rows) = false) := by
              show _ = _
              rw [← HP.out, exs_drop _ _ hlt]
              simp [refsP, refA_bad (tys rs) _ j hjl (by simp [alRef, hty])]
            go_wp2
            go_ret
            exact ⟨by rw [HN.out]; rfl, HBO.out.alloc HBO.out.size _⟩
          | true =>
            cases he : rows[k].e.allow[j].s.toList.isEmpty with
            | true =>
              have HJ2 : Hid (refAt (tys rs) rows[k].e.allow (j + 1) = true) := by show _ = _; rw [refAt_succ _ _ _ hjl, HJ.out]; simp [alRef, hty, he]
              go_wp2
              go_roundw
              case rel => exact ⟨j + 1, by omega, by go_num, HJ2, HB2.out.alloc HB2.out.size _⟩
              case measure => first | (simp [intOf]; done) | (simp [intOf]; omega)
            | false =>
              go_wp2_with fail
              refine (l2Rel_any ad cap rs _ _ _ hlen (HS2.out.below ((Below.refl _ _).alloc (Nat.le_refl _) _)) HL.out).mono ?_
              rintro e w3 ⟨⟨rows2, ad3, cap3, rfl, hx3, -, -⟩, rfl⟩
              by_cases hz : rows2.length = 0
              · have HN : Hid (refsP (tys rs) typ (exs rows) = false) := by
                  have h1 : relOr (tys rs) rows[k].e.allow[j].t rows[k].e.allow[j].s = [] := by unfold relOr; rw [← hx3, List.length_eq_zero_iff.1 hz]; rfl
                  show _ = _
                  rw [← HP.out, exs_drop _ _ hlt]
                  simp [refsP, refA_bad (tys rs) _ j hjl (by simp [alRef, he, h1])]
                rw [hz]
                clear hx3
                go_wp2
                go_ret
                exact ⟨by rw [HN.out]; rfl, HBO.out.alloc HBO.out.size _⟩
              · have HJ2 : Hid (refAt (tys rs) rows[k].e.allow (j + 1) = true) := by
                  have h1 : relOr (tys rs) rows[k].e.allow[j].t rows[k].e.allow[j].s ≠ [] := by
                    unfold relOr
                    rw [← hx3]
                    intro h2
                    apply hz
                    rw [← exs_len, h2]; rfl
                  show _ = _
                  rw [refAt_succ _ _ _ hjl, HJ.out]; simp [alRef, hty, h1]
                have hzb : ((rows2.length : Int) == 0) = false := by simp; intro h; apply hz; rw [h]; rfl
                clear hx3
                go_wp2
                go_roundw
                case rel => exact ⟨j + 1, by omega, by go_num, HJ2, HB2.out.alloc HB2.out.size _⟩
                case measure => first | (simp [intOf]; done) | (simp [intOf]; omega)
        · have HRA : Hid (refA (tys rs) rows[k].e.allow = true) := by
            have := HJ.out
            unfold refAt at this
            rwa [List.take_of_length_le (by omega)] at this
          by_cases h2 : rows[k].e.kind = 2
          · go_wp2_with fail
            refine (l2Rel_any ad cap rs _ _ _ hlen HS2.out HL.out).mono ?_
            rintro e w3 ⟨⟨rows2, ad3, cap3, rfl, hx3, -, -⟩, rfl⟩
            by_cases hz : rows2.length = 0
            · have HN : Hid (refsP (tys rs) typ (exs rows) = false) := by
                have h1 : relOr (tys rs) typ rows[k].e.name = [] := by unfold relOr; rw [← hx3, List.length_eq_zero_iff.1 hz]; rfl
                show _ = _
                rw [← HP.out, exs_drop _ _ hlt]
                simp [refsP, refN, h2, h1]
              rw [hz]
              clear hx3
              go_wp2
              go_ret
              exact ⟨by rw [HN.out]; rfl, HBO.out⟩
            · have HP2 : Hid (refsP (tys rs) typ (exs (rows.drop (k + 1))) = refsP (tys rs) typ (exs rows)) := by
                have h1 : relOr (tys rs) typ rows[k].e.name ≠ [] := by
                  unfold relOr
                  rw [← hx3]
                  intro h2
                  apply hz
                  rw [← exs_len, h2]; rfl
                show _ = _
                rw [← HP.out, exs_drop _ _ hlt]
                simp [refsP, refN, h2, h1, HRA.out]
              have hzb : ((rows2.length : Int) == 0) = false := by simp; intro h; apply hz; rw [h]; rfl
              clear hx3
              go_wp2
              go_roundw
              case rel => exact ⟨k + 1, by omega, by go_num, HP2, HBO⟩
              case measure => first | (simp [intOf]; done) | (simp [intOf]; omega)
          by_cases h3 : rows[k].e.kind = 3
          · go_wp2_with fail
            refine (l2Rel_any ad cap rs _ _ _ hlen HS2.out HL.out).mono ?_
            rintro e w3 ⟨⟨rows2, ad3, cap3, rfl, hx3, hs3, hf3⟩, rfl⟩
            have hl3 := hf3.light HL.out
            go_wp2_with fail
            refine (l2Direct_any ad3 cap3 rows2 _ hl3.1 hs3 hl3.2).mono ?_
            rintro e w3 ⟨rfl, rfl⟩
            have HX : Hid (exs rows2 = relOr (tys rs) typ rows[k].e.over) := hx3
            clear hx3 hs3 hf3 hl3
            rw [HX.out]
            cases hd : directP (relOr (tys rs) typ rows[k].e.over) with
            | false =>
              have HN : Hid (refsP (tys rs) typ (exs rows) = false) := by
                show _ = _
                rw [← HP.out, exs_drop _ _ hlt]
                simp [refsP, refN, h3, hd]
              go_wp2
              go_ret
              exact ⟨by rw [HN.out]; rfl, HBO.out⟩
            | true =>
              go_wp2_with fail
              refine (l2Goals_any ad cap rs _ _ _ _ hlen HS2.out HL.out).mono ?_
              rintro e w4 ⟨⟨ad4, cap4, rfl, -⟩, hb4⟩
              have HB4 : Hid (Below w.heap.size w w4) := HBO.out.trans (hb4.mono HBO.out.size)
              clear hb4
              by_cases hz : (goalsP (tys rs) typ rows[k].e.over rows[k].e.name).length = 0
              · have HN : Hid (refsP (tys rs) typ (exs rows) = false) := by
                  show _ = _
                  rw [← HP.out, exs_drop _ _ hlt]
                  simp [refsP, refN, h3, List.length_eq_zero_iff.1 hz]
                rw [hz]
                go_wp2
                go_ret
                exact ⟨by rw [HN.out]; rfl, HB4.out⟩
              · have HP2 : Hid (refsP (tys rs) typ (exs (rows.drop (k + 1))) = refsP (tys rs) typ (exs rows)) := by
                  have h1 : goalsP (tys rs) typ rows[k].e.over rows[k].e.name ≠ [] := by intro h; apply hz; rw [h]; rfl
                  show _ = _
                  rw [← HP.out, exs_drop _ _ hlt]
                  simp [refsP, refN, h3, h1, hd, HRA.out]
                have hzb : (((goalsP (tys rs) typ rows[k].e.over rows[k].e.name).length : Int) == 0) = false := by simp; intro h; apply hz; rw [h]; rfl
                go_wp2
                go_roundw
                case rel => exact ⟨k + 1, by omega, by go_num, HP2, HB4⟩
                case measure => first | (simp [intOf]; done) | (simp [intOf]; omega)
          · have HP2 : Hid (refsP (tys rs) typ (exs (rows.drop (k + 1))) = refsP (tys rs) typ (exs rows)) := by
              show _ = _
              rw [← HP.out, exs_drop _ _ hlt]
              simp [refsP, refN, h2, h3, HRA.out]
            have hb2 : (rows[k].e.kind == 2) = false := by simpa using h2
            have hb3 : (rows[k].e.kind == 3) = false := by simpa using h3
            go_wp2
            go_roundw
            case rel => exact ⟨k + 1, by omega, by go_num, HP2, HBO⟩
            case measure => first | (simp [intOf]; done) | (simp [intOf]; omega)
    · have HN : Hid (refsP (tys rs) typ (exs rows) = true) := by show _ = _; rw [← HP.out, List.drop_of_length_le (by omega)]; rfl
      go_wp2
      go_ret
      exact ⟨by rw [HN.out]; rfl, HB.out⟩
end Go.Proofs.YtmghabcaakgjiaaGreat
