/- Contracts of the program's functions on goals and on what a schema names. -/
import Derived.Test.YthicofnjehpalaaGreatJ9
import Derived.Test.YthicofnjehpalaaGreatStrata2
import Derived.Test.YthicofnjehpalaaGreatJ7
import Derived.Test.YthicofnjehpalaaGreatEqExpr
namespace Go.Proofs.YthicofnjehpalaaGreat
open Go.ChangeShapes Go.WideShapes Go.ChangeAt Go.RowKit Go.Maps
open Pl

/-- the program's goals: none where it is not told by objects -/
def goalsI (ts : List Ty) (ty over rel : ByteArray) : List ByteArray := if directP (relOr ts ty over) then goalsP ts ty over rel else []
theorem info_strI : (Tryz.prog.info? 9).map (fun i => (i.zero, i.size, i.bytes)) = some (some (.string ⟨#[]⟩), 1, 16) := by kernel_rfl
theorem allowP_one (r : ER) (h : directP (exs [r]) = true) : allowP (exs [r]) = r.e.allow ∧ r.e.kind = 1 := by
  simp only [exs, List.map_cons, List.map_nil, directP, Bool.and_eq_true, decide_eq_true_eq] at h
  exact ⟨by simp [exs, allowP, h.1], h.1⟩
theorem direct_one {rows : List ER} (h : directP (exs rows) = true) : ∃ r, rows = [r] := by
  rcases rows with _ | ⟨r, _ | ⟨r2, rs⟩⟩
  · simp [exs, directP] at h
  · exact ⟨r, rfl⟩
  · simp [exs, directP] at h

set_option maxRecDepth 100000 in
set_option maxHeartbeats 4000000 in
theorem goalsOf_any (b n : Nat) (rs : List TR) (ad : Option Addr) (M : ByteArray × ByteArray → Option Value) (typ : ByteArray) (x : ER) (w : World) (hV : MapV encK Tryz.prog 86 w b n M) (hT : Tab rs M) (hs : SlT w ad rs) (hl : ∀ r ∈ rs, r.light) (hf : ∀ r ∈ rs, r.fits) (ht : typ.size ≤ maxLen) (ho : x.e.over.size ≤ maxLen) (hn : x.e.name.size ≤ maxLen) :
    Calls Tryz.prog 81 #[.map (some b), .string typ, x.val] w fun e w' => (∃ (ad' : Option Addr) (cap' : Nat), e = .returned (.slice ad' (goalsI (tys rs) typ x.e.over x.e.name).length cap') ∧ SlS w' ad' (goalsI (tys rs) typ x.e.over x.e.name) ∧ ∀ p, ad' = some p → w.heap.size ≤ p.block) ∧ Below w.heap.size w w' := by
  have HV : Hid (MapV encK Tryz.prog 86 w b n M) := hV
  have HT : Hid (Tab rs M) := hT
  have HS : Hid (SlT w ad rs) := hs
  have HL : Hid (∀ r ∈ rs, r.light) := hl
  have HFT : Hid (∀ r ∈ rs, r.fits) := hf
  obtain ⟨kl, hkl⟩ := relKeyOf (typ, x.e.over) ht ho
  have HKL : Hid (keyOf Tryz.prog 86 (encK (typ, x.e.over)) = some kl) := hkl
  clear hkl hV hT hs hl hf
  obtain ⟨i0, hi, hz0, hz1, hz2⟩ := info_parts info_strI
  obtain ⟨W0, hW0⟩ : ∃ W0, W0 = w.alloc (.cells #[.int .i64 x.e.kind, .slice x.adA x.e.allow.length x.capA, .string x.e.over, .string x.e.name, .slice x.adK x.e.kids.length x.capK] 89) := ⟨_, rfl⟩
  have hal : Below w.heap.size w W0 := by rw [hW0]; exact (Below.refl _ _).alloc (Nat.le_refl _) _
  have HB0 : Hid (Below w.heap.size w W0) := hal
  have HV0 : Hid (MapV encK Tryz.prog 86 W0 b n M) := HV.out.below hal
  have c3 : W0.cell? ⟨w.heap.size, 3, none⟩ = some (.string x.e.name) := by rw [hW0]; simp
  have hg0 : w.heap.size < W0.heap.size := by rw [hW0]; simp
  -- what lies in the table
  obtain ⟨rows, adE, capE, HM, HE, HF, HFL⟩ : ∃ (rows : List ER) (adE : Option Addr) (capE : Nat), Hid ((M (typ, x.e.over)).getD (.slice none 0 0) = .slice adE rows.length capE) ∧ Hid (exs rows = relOr (tys rs) typ x.e.over) ∧ Hid (FromS rs adE rows) ∧ Hid (∀ q ∈ rows, q.e.fits) := by
    cases e : M (typ, x.e.over) with
    | none => exact ⟨[], none, 0, rfl, by show _ = _; unfold relOr; rw [HT.out.no _ e]; rfl, .inl rfl, by show ∀ _, _; simp⟩
    | some v =>
      obtain ⟨t, htm, q, hq, -, rfl, e1, -⟩ := HT.out.yes _ v e
      exact ⟨q.rows, q.ad, q.cap, rfl, by show _ = _; unfold relOr; rw [e1]; rfl, .inr ⟨t, htm, q, hq, rfl, rfl⟩, ((HFT.out t htm).2.2 q hq).2.2⟩
  have HSE : Hid (SlE W0 adE rows) := HF.out.sl (HS.out.below hal)
  have HLE := HF.out.light HL.out
  have HLE1 : rows.length ≤ 1048576 := HLE.1
  have HLE2 : Hid (∀ q ∈ rows, q.e.light) := HLE.2
  clear HLE hal
  go_enter Tryz.func81, Tryz.ntmps81
  unfold ER.val
  go_wp2_with (at_lookup; rw [← hW0]; refine wpList_lookV _ rfl _ _ 57 rfl 86 67 relLaw Tryz.underlying57 (zeroExprs _) b n M rfl HV0.out (typ, x.e.over) kl rfl HKL.out ?_; rw [HM.out]; clear hW0)
  refine (toldByObjects_any adE capE rows _ HLE1 HSE.out HLE2.out).mono ?_
  rintro e w1 ⟨rfl, hb1⟩
  have HB1 : Hid (Below w.heap.size w w1) := HB0.out.trans (hb1.mono HB0.out.size)
  have HNM : Hid (w1.cell? ⟨w.heap.size, 3, none⟩ = some (.string x.e.name) ∧ w.heap.size < w1.heap.size) := ⟨kept5 hb1 hg0 c3, Nat.lt_of_lt_of_le hg0 hb1.size⟩
  clear hb1 c3 hg0
  cases hd : directP (exs rows) with
  | false =>
    have HG : Hid (goalsI (tys rs) typ x.e.over x.e.name = []) := by show _ = _; unfold goalsI; rw [← HE.out, hd]; rfl
    go_wp2
    go_ret
    refine ⟨⟨none, 0, by rw [HG.out]; rfl, by rw [HG.out]; exact .inl rfl, fun p hp => by cases hp⟩, HB1.out⟩
  | true =>
    obtain ⟨r, rfl⟩ := direct_one hd
    have HG : Hid (goalsI (tys rs) typ x.e.over x.e.name = gl (tys rs) x.e.name r.e.allow) := by
      show _ = _
      unfold goalsI goalsP
      rw [← HE.out, hd, if_pos rfl, (allowP_one r hd).1]
    rcases HSE.out with h | ⟨bE, offE, rfl, hbE, hrE, hokE⟩
    · cases h
    have HSW : Hid (SlE w1 (some ⟨bE, offE, none⟩) [r]) := HF.out.sl (HS.out.below HB1.out)
    rcases HSW.out with h | ⟨bE', offE', heE, hbE1, hrE1, hokE1⟩
    · cases h
    injection heE with heE; injection heE with heE1 heE2; subst heE1; subst heE2
    obtain ⟨s0, s1, s2, s3, s4⟩ := hrE1 0 (by simp)
    simp only [Nat.zero_mul, Nat.add_zero, List.getElem_cons_zero] at s0 s1 s2 s3 s4
    have HOKR : Hid (r.ok w) := by
      have h1 := HF.out.sl HS.out
      exact h1.mem (by simp)
    have lgA : r.e.allow.length ≤ 1048576 := (HLE2.out r (by simp)).1
    have HFA : Hid (∀ a ∈ r.e.allow, a.fits) := (HFL.out r (by simp)).1
    have hone : ([r] : List ER).length = 1 := rfl
    rw [hone]
    clear hrE hokE hrE1 hokE1 HE HM hd hbE
    go_wp2_with fail
    go_loopw [8, 25] (fun v i wr => ∃ k : Nat, k ≤ r.e.allow.length ∧ i = .int .i64 k ∧ Hid (wr.ownsRow w.heap.size 9 1 v (gl (tys rs) x.e.name (r.e.allow.take k)).length (strsS (gl (tys rs) x.e.name (r.e.allow.take k)))) ∧ Hid (Below w.heap.size w wr) ∧ Hid (wr.cell? ⟨w.heap.size, 3, none⟩ = some (.string x.e.name) ∧ w.heap.size < wr.heap.size ∧ v.ownBlock ≠ some w.heap.size)) (fun _ i _ => r.e.allow.length - (intOf i).toNat)
    case atStart => exact ⟨0, Nat.zero_le _, rfl, World.ownsRow_nil _ _ _ _, HB1, HNM.out.1, HNM.out.2, by simp [Value.ownBlock]⟩
    case round =>
      clear HB1 HNM s0 s1 s2 s3 s4
      obtain ⟨k, hk, rfl, HOW, HB, HC⟩ := hrel
      by_cases hlt : k < r.e.allow.length
      · rcases (HOKR.out.1).below HB.out with hnil | ⟨ba, offa, had, hba, hra⟩
        · rw [hnil] at hlt; simp at hlt
        obtain ⟨t0, t1⟩ := hra k hlt
        have hk1 : (0 : Int) ≤ (k : Int) := by omega
        have hk2 : (k : Int) < (r.e.allow.length : Int) := by omega
        have zA := HFA.out _ (List.getElem_mem hlt)
        have z1 : r.e.allow[k].t.size ≤ maxLen := zA.1
        obtain ⟨hc3, hcl, hco⟩ := HC.out
        obtain ⟨W1, hW1⟩ : ∃ W1, W1 = wr.alloc (.cells #[.string r.e.allow[k].t, .string r.e.allow[k].s] 79) := ⟨_, rfl⟩
        have hal : Below wr.heap.size wr W1 := by rw [hW1]; exact (Below.refl _ _).alloc (Nat.le_refl _) _
        have HBW : Hid (Below w.heap.size w W1) := HB.out.trans (hal.mono HB.out.size)
        have HVW : Hid (MapV encK Tryz.prog 86 W1 b n M) := HV.out.below HBW.out
        have HOW1 : Hid (W1.ownsRow w.heap.size 9 1 u8 (gl (tys rs) x.e.name (r.e.allow.take k)).length (strsS (gl (tys rs) x.e.name (r.e.allow.take k)))) := own_below HOW.out hal
        have g0 : W1.cell? ⟨wr.heap.size, 0, none⟩ = some (.string r.e.allow[k].t) := by rw [hW1]; simp
        have g3 := kept5 hal hcl hc3
        have hgl1 : wr.heap.size < W1.heap.size := by rw [hW1]; simp
        have hgl := gl_len (tys rs) x.e.name (r.e.allow.take k)
        rw [List.length_take] at hgl
        have HI := HT.out.some_iff (r.e.allow[k].t, x.e.name)
        have hwsz : w.heap.size ≤ W1.heap.size := HBW.out.size
        rw [had]
        clear hra hal HC HOW
        go_wp2_with fail
        rw [← hW1]
        refine (has_any b n M r.e.allow[k].t x.e.name _ z1 hn HVW.out).mono ?_
        rintro e w' ⟨rfl, hw'⟩
        rw [hw']
        clear hw' w' hW1 t0 t1 hc3
        cases hz : (M (r.e.allow[k].t, x.e.name)).isSome with
        | false =>
          have HE : Hid (gl (tys rs) x.e.name (r.e.allow.take (k + 1)) = gl (tys rs) x.e.name (r.e.allow.take k)) := by
            refine gl_no _ _ _ _ hlt ?_
            rw [hz] at HI
            simpa using HI.symm
          clear HI
          go_wp2
          go_roundw
          case rel => exact ⟨k + 1, by omega, by go_num, by rw [HE.out]; exact HOW1, HBW, g3, by omega, hco⟩
          case measure => first | (simp [intOf]; done) | (simp [intOf]; omega)
        | true =>
          have HX : Hid (gl (tys rs) x.e.name (r.e.allow.take (k + 1)) = gl (tys rs) x.e.name (r.e.allow.take k) ++ [r.e.allow[k].t]) := by
            refine gl_yes _ _ _ _ hlt ?_
            rw [hz] at HI
            simpa using HI.symm
          clear HI
          go_wp2_with (at_builtin; refine wpList_append_own_at _ rfl _ _ 103 rfl w.heap.size 9 i0 (.string ⟨#[]⟩) 1 16 Tryz.underlying103 hi hz0 hz1 hz2 rfl (by decide) _ _ _ rfl (HOW1.out.alloc _) ⟨W1.heap.size, 0, none⟩ 1 1 [.string r.e.allow[k].t] rfl rfl (cell_one_new _ _ _) (by intro u hu; simp at hu; subst hu; rfl) (by unfold maxLen; omega) (by omega) (by simp; omega) ?_)
          intro v' w3 hown3 hgrow _ hloc
          have hb3 : Hid (Below w.heap.size w w3) := (HBW.out.alloc HBW.out.size _).grown hgrow (by simp; omega) (fun i hi => (HOW1.out.lt i hi).1)
          have HO3 : Hid (w3.ownsRow w.heap.size 9 1 v' (gl (tys rs) x.e.name (r.e.allow.take (k + 1))).length (strsS (gl (tys rs) x.e.name (r.e.allow.take (k + 1))))) := by
            show World.ownsRow _ _ _ _ _ _ _
            rw [HX.out]
            simpa [strsS] using hown3
          have HC3 : Hid (w3.cell? ⟨w.heap.size, 3, none⟩ = some (.string x.e.name) ∧ w.heap.size < w3.heap.size ∧ v'.ownBlock ≠ some w.heap.size) := by
            refine ⟨?_, ?_, ?_⟩
            · rw [hgrow.cell_far _ (by simp; omega) (Ne.symm hco)]; exact kept5 ((Below.refl _ _).alloc (Nat.le_refl _) _) (by omega) g3
            · have := hgrow.size; simp at this; omega
            · rcases hloc with e | e
              · rw [e]; exact hco
              · rw [e]; simp; omega
          clear hown3 hgrow hloc HOW1 g0 g3
          go_wp2
          go_roundw
          case rel => exact ⟨k + 1, by omega, by go_num, HO3, hb3, HC3⟩
          case measure => first | (simp [intOf]; done) | (simp [intOf]; omega)
      · obtain rfl : k = r.e.allow.length := by omega
        have hown := HOW.out
        rw [List.take_length] at hown
        obtain ⟨ad', cp, rfl, hS', hN'⟩ := own_sl hown
        have HS2 : Hid (SlS wr ad' (gl (tys rs) x.e.name r.e.allow)) := hS'
        have HN2 : Hid (∀ p, ad' = some p → w.heap.size ≤ p.block) := hN'
        clear hown HOW hS' hN' HC
        go_wp2
        go_ret
        refine ⟨⟨ad', cp, by rw [HG.out]; rfl, by rw [HG.out]; exact HS2.out, HN2.out⟩, HB.out⟩
end Go.Proofs.YthicofnjehpalaaGreat

/- Contracts of the document's functions that look at an expression. -/
namespace Go.Proofs.YthicofnjehpalaaGreat
open Go.ChangeShapes Go.WideShapes Go.ChangeAt Go.RowKit
open Pl

theorem l1In_any (n lo hi : Int) (w : World) :
    Calls Tryz.prog 51 #[.int .i64 n, .int .i64 lo, .int .i64 hi] w fun e w' => e = .returned (.bool (decide (lo ≤ n) && decide (n ≤ hi))) ∧ w' = w := by
  go_enter Tryz.func51, Tryz.ntmps51
  go_wp2
  all_goals go_ret
  all_goals exact ⟨ret_bool (by simp [*] <;> omega), rfl⟩

set_option maxRecDepth 8000 in
set_option maxHeartbeats 2000000 in
theorem l2NodeOk_plain (r : ER) (w : World) (hf : r.e.fits) (h1 : r.e.kind ≠ 1) :
    Calls Tryz.prog 50 #[r.val] w fun e w' => e = .returned (.bool (nodeB r.e)) ∧ Below w.heap.size w w' := by
  obtain ⟨⟨kind, allow, over, name, kids⟩, adA, capA, adK, capK⟩ := r
  obtain ⟨f1, f2, f3, f4, f5⟩ := hf
  simp only at f1 f2 f3 f4 f5 h1
  simp only [ER.val]
  unfold maxLen at f4 f5
  by_cases h2 : kind = 2
  · subst h2
    clear h1
    go_enter Tryz.func50, Tryz.ntmps50
    go_wp2_with (go_at_call 32; refine (specName_any _ _ (by assumption)).mono ?_; rintro e w' ⟨rfl, rfl⟩)
    all_goals go_ret
    all_goals exact ⟨ret_bool (by first | (simp [nodeB, *]; done) | (simp [nodeB, *]; omega) | (simp [nodeB, *]; rw [Bool.eq_iff_iff]; simp; done) | (simp [nodeB, *]; rw [Bool.eq_iff_iff]; simp; omega)), (Below.refl w.heap.size w).alloc (Nat.le_refl _) _⟩
  by_cases h3 : kind = 3
  · subst h3
    clear h1
    go_enter Tryz.func50, Tryz.ntmps50
    go_wp2_with (go_at_call 32; refine (specName_any _ _ (by assumption)).mono ?_; rintro e w' ⟨rfl, rfl⟩)
    all_goals go_ret
    all_goals exact ⟨ret_bool (by first | (simp [nodeB, *]; done) | (simp [nodeB, *]; omega) | (simp [nodeB, *]; rw [Bool.eq_iff_iff]; simp; done) | (simp [nodeB, *]; rw [Bool.eq_iff_iff]; simp; omega)), (Below.refl w.heap.size w).alloc (Nat.le_refl _) _⟩
  by_cases h4 : kind = 4
  · subst h4
    clear h1
    go_enter Tryz.func50, Tryz.ntmps50
    go_wp2_with (go_at_call 32; refine (specName_any _ _ (by assumption)).mono ?_; rintro e w' ⟨rfl, rfl⟩)
    all_goals go_ret
    all_goals exact ⟨ret_bool (by first | (simp [nodeB, *]; done) | (simp [nodeB, *]; omega) | (simp [nodeB, *]; rw [Bool.eq_iff_iff]; simp; done) | (simp [nodeB, *]; rw [Bool.eq_iff_iff]; simp; omega)), (Below.refl w.heap.size w).alloc (Nat.le_refl _) _⟩
  by_cases h5 : kind = 5
  · subst h5
    clear h1
    go_enter Tryz.func50, Tryz.ntmps50
    go_wp2_with (go_at_call 32; refine (specName_any _ _ (by assumption)).mono ?_; rintro e w' ⟨rfl, rfl⟩)
    all_goals go_ret
    all_goals exact ⟨ret_bool (by first | (simp [nodeB, *]; done) | (simp [nodeB, *]; omega) | (simp [nodeB, *]; rw [Bool.eq_iff_iff]; simp; done) | (simp [nodeB, *]; rw [Bool.eq_iff_iff]; simp; omega)), (Below.refl w.heap.size w).alloc (Nat.le_refl _) _⟩
  by_cases h6 : kind = 6
  · subst h6
    clear h1
    go_enter Tryz.func50, Tryz.ntmps50
    go_wp2_with (go_at_call 32; refine (specName_any _ _ (by assumption)).mono ?_; rintro e w' ⟨rfl, rfl⟩)
    all_goals go_ret
    all_goals exact ⟨ret_bool (by first | (simp [nodeB, *]; done) | (simp [nodeB, *]; omega) | (simp [nodeB, *]; rw [Bool.eq_iff_iff]; simp; done) | (simp [nodeB, *]; rw [Bool.eq_iff_iff]; simp; omega)), (Below.refl w.heap.size w).alloc (Nat.le_refl _) _⟩
  · go_enter Tryz.func50, Tryz.ntmps50
    go_wp2_with (go_at_call 32; refine (specName_any _ _ (by assumption)).mono ?_; rintro e w' ⟨rfl, rfl⟩)
    all_goals go_ret
    all_goals exact ⟨ret_bool (by first | (simp [nodeB, *]; done) | (simp [nodeB, *]; omega) | (simp [nodeB, *]; rw [Bool.eq_iff_iff]; simp; done) | (simp [nodeB, *]; rw [Bool.eq_iff_iff]; simp; omega)), (Below.refl w.heap.size w).alloc (Nat.le_refl _) _⟩

theorem al_eql (x y : Al) {v : Bool} (h : alEq x y = v) (w : World) :
    (binOp .eql 79 (.agg #[.string x.t, .string x.s]) (.agg #[.string y.t, .string y.s])).run Tryz.prog w = .ok (.bool v) w := by
  subst h
  go_simp
  unfold alEq
  by_cases h1 : x.t.toList = y.t.toList <;> by_cases h2 : x.s.toList = y.s.toList <;> simp [h1, h2]
theorem inPre_hit {xs : List Al} {j k : Nat} {a : Al} (hjk : j < k) (hj : j < xs.length) (h : alEq xs[j] a = true) : inPre xs k a = true := by
  unfold inPre
  rw [List.any_eq_true]
  refine ⟨xs[j], ?_, h⟩
  rw [List.mem_take_iff_getElem]
  exact ⟨j, by omega, rfl⟩

set_option maxRecDepth 8000 in
set_option maxHeartbeats 4000000 in
theorem l2NodeOk_this (r : ER) (w : World) (hf : r.e.fits) (hok : r.ok w) (h1 : r.e.kind = 1) :
    Calls Tryz.prog 50 #[r.val] w fun e w' => e = .returned (.bool (nodeB r.e)) ∧ Below w.heap.size w w' := by
  obtain ⟨⟨kind, allow, over, name, kids⟩, adA, capA, adK, capK⟩ := r
  obtain ⟨f1, f2, f3, f4, f5⟩ := hf
  obtain ⟨hA, hK⟩ := hok
  simp only at f1 f2 f3 f4 f5 h1 hA hK
  subst h1
  simp only [ER.val]
  unfold maxLen at f4 f5
  by_cases hl : 1 ≤ allow.length ∧ allow.length ≤ 6
  · obtain ⟨hl1, hl2⟩ := hl
    obtain ⟨W, hW⟩ : ∃ W, W = w.alloc (.cells #[.int .i64 1, .slice adA allow.length capA, .string over, .string name, .slice adK kids.length capK] 89) := ⟨_, rfl⟩
    have HB0 : Hid (Below w.heap.size w W) := by show Below _ _ _; rw [hW]; exact (Below.refl w.heap.size w).alloc (Nat.le_refl _) _
    have hz : w.heap.size < W.heap.size := by rw [hW]; simp
    have b1 : W.cell? ⟨w.heap.size, 1, none⟩ = some (.slice adA allow.length capA) := by rw [hW]; simp
    have b2 : W.cell? ⟨w.heap.size, 2, none⟩ = some (.string over) := by rw [hW]; simp
    have b3 : W.cell? ⟨w.heap.size, 3, none⟩ = some (.string name) := by rw [hW]; simp
    have HA : Hid (SlA W adA allow) := hA.below HB0.out
    have HF1 : Hid (∀ a ∈ allow, a.fits) := f1
    clear hA hK f1
    go_enter Tryz.func50, Tryz.ntmps50
    go_wp2_with fail
    rw [← hW]
    clear hW
    go_loopw [4] (fun i wr => ∃ k : Nat, k ≤ allow.length ∧ i = .int .i64 k ∧ Hid (upA allow k = true) ∧ Below W.heap.size W wr) (fun i _ => allow.length - (intOf i).toNat)
    case atStart => exact ⟨0, Nat.zero_le _, rfl, rfl, Below.refl _ _⟩
    case round =>
      obtain ⟨k, hk, rfl, HU, hB⟩ := hrel
      have a1 := kept hB hz b1
      have a2 := kept hB hz b2
      have a3 := kept hB hz b3
      by_cases hlt : k < allow.length
      · rcases HA.out.below hB with rfl | ⟨b, off, rfl, hb, hr⟩
        · simp at hlt
        obtain ⟨t0, t1⟩ := hr k hlt
        obtain ⟨z0, z1⟩ := HF1.out allow[k] (List.getElem_mem hlt)
        have HR : Hid (∀ (i : Nat) (h : i < allow.length), At2 wr b (off + i * 2) allow[i]) := hr
        clear hr
        obtain ⟨W1, hW1⟩ : ∃ W1, W1 = wr.alloc (.cells #[.string allow[k].t, .string allow[k].s] 79) := ⟨_, rfl⟩
        have hal : Below wr.heap.size wr W1 := by rw [hW1]; exact (Below.refl _ _).alloc (Nat.le_refl _) _
        have hBW1 : Below W.heap.size wr W1 := hal.mono hB.size
        have hsz : w.heap.size < wr.heap.size := Nat.lt_of_lt_of_le hz hB.size
        have hWs : W.heap.size ≤ W1.heap.size := Nat.le_trans hB.size hal.size
        have c1 := kept hal hsz a1
        have c2 := kept hal hsz a2
        have c3 := kept hal hsz a3
        have hbl : b < W1.heap.size := Nat.lt_of_lt_of_le hb hal.size
        have hgl : wr.heap.size < W1.heap.size := by rw [hW1]; simp
        have g0 : W1.cell? ⟨wr.heap.size, 0, none⟩ = some (.string allow[k].t) := by rw [hW1]; simp
        have g1 : W1.cell? ⟨wr.heap.size, 1, none⟩ = some (.string allow[k].s) := by rw [hW1]; simp
        have HR1 : Hid (∀ (i : Nat) (h : i < allow.length), At2 W1 b (off + i * 2) allow[i]) := fun i hi => (HR.out i hi).same fun o => hal.cell (p := ⟨b, o, none⟩) hb
        cases hn : nameB allow[k].t with
        | false =>
          have HN : Hid (upA allow allow.length = false) := upA_bad allow k hlt (by simp [alB, hn]) _ hlt
          go_wp2_with (go_at_call 32; refine (specName_any _ _ (by assumption)).mono ?_; rintro e w' ⟨rfl, rfl⟩)
          go_ret
          exact ⟨ret_bool (by simp [nodeB, allowB, HN.out]), HB0.out.trans ((hB.trans ((Below.refl _ _).alloc hB.size _)).mono HB0.out.size)⟩
        | true =>
          cases he : allow[k].s.toList.isEmpty with
          | true =>
            have HAl : Hid (alB allow[k] = true) := by show _ = _; simp [alB, setB', hn, he]
            go_wp2_with (go_at_call 32; refine (specName_any _ _ (by assumption)).mono ?_; rintro e w' ⟨rfl, rfl⟩)
            rw [← hW1]
            go_loopw [6] (fun i w2 => ∃ j : Nat, j ≤ k ∧ i = .int .i64 j ∧ Hid (inPre allow j allow[k] = false) ∧ Below W1.heap.size W1 w2) (fun i _ => k - (intOf i).toNat)
            case atStart => exact ⟨0, Nat.zero_le _, rfl, inPre_zero _ _, Below.refl _ _⟩
            case round =>
              obtain ⟨j, hj, rfl, HP, hB2⟩ := hrel
              rename_i w2 _
              have d1 := kept hB2 (by omega) c1
              have d2 := kept hB2 (by omega) c2
              have d3 := kept hB2 (by omega) c3
              have p0 := kept hB2 hgl g0
              have p1 := kept hB2 hgl g1
              by_cases hjk : j < k
              · obtain ⟨q0, q1⟩ := (HR1.out j (by omega)).same fun o => hB2.cell (p := ⟨b, o, none⟩) hbl
                have hj1 : (0 : Int) ≤ (j : Int) := by omega
                have hj2 : (j : Int) < (allow.length : Int) := by omega
                cases hq : alEq allow[j] allow[k] with
                | true =>
                  have HE := al_eql allow[j] allow[k] hq
                  have HN : Hid (upA allow allow.length = false) := upA_bad allow k hlt (by rw [(inPre_hit hjk (by omega) hq)]; simp) _ hlt
                  go_wp2_with fail
                  go_quiet (fail)
                  go_wp2
                  go_ret
                  exact ⟨ret_bool (by simp [nodeB, allowB, HN.out]), HB0.out.trans ((hB.trans (hBW1.trans (hB2.mono (by omega)))).mono HB0.out.size |> fun h => below_drewN h _)⟩
                | false =>
                  have HE := al_eql allow[j] allow[k] hq
                  have HP2 : Hid (inPre allow (j + 1) allow[k] = false) := by show _ = _; rw [inPre_succ _ _ _ (by omega), HP.out, hq]; rfl
                  go_wp2_with fail
                  go_quiet (fail)
                  go_wp2
                  go_roundw
                  case rel => exact ⟨j + 1, by omega, by go_num, HP2, below_drewN hB2 _⟩
                  case measure => simp [intOf]; omega
              · obtain rfl : j = k := by omega
                have HU2 : Hid (upA allow (j + 1) = true) := by show _ = _; rw [upA_succ _ _ hlt, HU.out, HAl.out, HP.out]; rfl
                go_wp2
                go_roundw
                case rel => exact ⟨j + 1, by omega, by go_num, HU2, hB.trans (hBW1.trans (hB2.mono (by omega)))⟩
                case measure => simp [intOf]; omega
          | false =>
            cases hm : nameB allow[k].s with
            | false =>
              have HN : Hid (upA allow allow.length = false) := upA_bad allow k hlt (by simp [alB, hn, setB', he, hm]) _ hlt
              go_wp2_with (go_at_call 32; refine (specName_any _ _ (by assumption)).mono ?_; rintro e w' ⟨rfl, rfl⟩)
              go_ret
              exact ⟨ret_bool (by simp [nodeB, allowB, HN.out]), HB0.out.trans ((hB.trans ((Below.refl _ _).alloc hB.size _)).mono HB0.out.size)⟩
            | true =>
              have HAl : Hid (alB allow[k] = true) := by show _ = _; simp [alB, setB', hn, he, hm]
              go_wp2_with (go_at_call 32; refine (specName_any _ _ (by assumption)).mono ?_; rintro e w' ⟨rfl, rfl⟩)
              rw [← hW1]
              go_loopw [6] (fun i w2 => ∃ j : Nat, j ≤ k ∧ i = .int .i64 j ∧ Hid (inPre allow j allow[k] = false) ∧ Below W1.heap.size W1 w2) (fun i _ => k - (intOf i).toNat)
              case atStart => exact ⟨0, Nat.zero_le _, rfl, inPre_zero _ _, Below.refl _ _⟩
              case round =>
                obtain ⟨j, hj, rfl, HP, hB2⟩ := hrel
                rename_i w2 _
                have d1 := kept hB2 (by omega) c1
                have d2 := kept hB2 (by omega) c2
                have d3 := kept hB2 (by omega) c3
                have p0 := kept hB2 hgl g0
                have p1 := kept hB2 hgl g1
                by_cases hjk : j < k
                · obtain ⟨q0, q1⟩ := (HR1.out j (by omega)).same fun o => hB2.cell (p := ⟨b, o, none⟩) hbl
                  have hj1 : (0 : Int) ≤ (j : Int) := by omega
                  have hj2 : (j : Int) < (allow.length : Int) := by omega
                  cases hq : alEq allow[j] allow[k] with
                  | true =>
                    have HE := al_eql allow[j] allow[k] hq
                    have HN : Hid (upA allow allow.length = false) := upA_bad allow k hlt (by rw [(inPre_hit hjk (by omega) hq)]; simp) _ hlt
                    go_wp2_with fail
                    go_quiet (fail)
                    go_wp2
                    go_ret
                    exact ⟨ret_bool (by simp [nodeB, allowB, HN.out]), HB0.out.trans ((hB.trans (hBW1.trans (hB2.mono (by omega)))).mono HB0.out.size |> fun h => below_drewN h _)⟩
                  | false =>
                    have HE := al_eql allow[j] allow[k] hq
                    have HP2 : Hid (inPre allow (j + 1) allow[k] = false) := by show _ = _; rw [inPre_succ _ _ _ (by omega), HP.out, hq]; rfl
                    go_wp2_with fail
                    go_quiet (fail)
                    go_wp2
                    go_roundw
                    case rel => exact ⟨j + 1, by omega, by go_num, HP2, below_drewN hB2 _⟩
                    case measure => simp [intOf]; omega
                · obtain rfl : j = k := by omega
                  have HU2 : Hid (upA allow (j + 1) = true) := by show _ = _; rw [upA_succ _ _ hlt, HU.out, HAl.out, HP.out]; rfl
                  go_wp2
                  go_roundw
                  case rel => exact ⟨j + 1, by omega, by go_num, HU2, hB.trans (hBW1.trans (hB2.mono (by omega)))⟩
                  case measure => simp [intOf]; omega
      · obtain rfl : k = allow.length := by omega
        have HAW : Hid (allowB allow = true) := by show _ = _; simp [allowB, hl1, hl2, HU.out]
        go_wp2
        all_goals go_ret
        all_goals exact ⟨ret_bool (by first | (simp [nodeB, HAW.out, *]; done) | (simp [nodeB, HAW.out, *]; rw [Bool.eq_iff_iff]; simp; done)), HB0.out.trans (hB.mono HB0.out.size)⟩
  · go_enter Tryz.func50, Tryz.ntmps50
    go_wp2_with fail
    all_goals go_ret
    all_goals exact ⟨ret_bool (by simp [nodeB, allowB]; omega), (Below.refl w.heap.size w).alloc (Nat.le_refl _) _⟩

theorem l2NodeOk_any (r : ER) (w : World) (hf : r.e.fits) (hok : r.ok w) :
    Calls Tryz.prog 50 #[r.val] w fun e w' => e = .returned (.bool (nodeB r.e)) ∧ Below w.heap.size w w' := by
  by_cases h : r.e.kind = 1
  · exact l2NodeOk_this r w hf hok h
  · exact l2NodeOk_plain r w hf h

end Go.Proofs.YthicofnjehpalaaGreat
