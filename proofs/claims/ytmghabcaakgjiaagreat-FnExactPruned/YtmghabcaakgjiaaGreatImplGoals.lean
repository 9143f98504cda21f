/- Contracts of the program's functions on goals and on what a schema names. -/
import Derived.Test.YtmghabcaakgjiaaGreatJ16
import Derived.Test.YtmghabcaakgjiaaGreatStrata2
namespace Go.Proofs.YtmghabcaakgjiaaGreat
open Go.ChangeShapes Go.WideShapes Go.ChangeAt Go.RowKit Go.Maps
open Pl

/-- the program's goals: none where it is not told by objects -/
def goalsI (ts : List Ty) (ty over rel : ByteArray) : List ByteArray := if directP (relOr ts ty over) then goalsP ts ty over rel else []
theorem info_strI : (Tryz.prog.info? 9).map (fun i => (i.zero, i.size, i.bytes)) = some (some (.string ⟨#[]⟩), 1, 16) := by kernel_rfl
theorem allowP_one (r : ER) (h : directP (exs [r]) = true) : allowP (exs [r]) = r.e.allow ∧ r.e.kind = 1 := by
  simp only [exs, List.map_cons, List.map_nil, directP, Bool.and_eq_true, decide_eq_true_eq] at h
  exact ⟨by simp [exs, allowP, h.1], h.1⟩
theorem direct_one {rows : List ER} (h : directP (exs rows) = true) : ∃ r, rows = [r] := by
  rcases rows with _ | ⟨r, _ | ⟨r2, rs⟩⟩
  · simp [exs, directP] at h
  · exact ⟨r, rfl⟩
  · simp [exs, directP] at h

set_option maxRecDepth 100000 in
set_option maxHeartbeats 4000000 in
theorem goalsOf_any (b n : Nat) (rs : List TR) (ad : Option Addr) (M : ByteArray × ByteArray → Option Value) (typ : ByteArray) (x : ER) (w : World) (hV : MapV encK Tryz.prog 73 w b n M) (hT : Tab rs M) (hs : SlT w ad rs) (hl : ∀ r ∈ rs, r.light) (hf : ∀ r ∈ rs, r.fits) (ht : typ.size ≤ maxLen) (ho : x.e.over.size ≤ maxLen) (hn : x.e.name.size ≤ maxLen) :
    Calls Tryz.prog 50 #[.map (some b), .string typ, x.val] w fun e w' => (∃ (ad' : Option Addr) (cap' : Nat), e = .returned (.slice ad' (goalsI (tys rs) typ x.e.over x.e.name).length cap') ∧ SlS w' ad' (goalsI (tys rs) typ x.e.over x.e.name) ∧ ∀ p, ad' = some p → w.heap.size ≤ p.block) ∧ Below w.heap.size w w' := by
  have HV : Hid (MapV encK Tryz.prog 73 w b n M) := hV
  have HT : Hid (Tab rs M) := hT
  have HS : Hid (SlT w ad rs) := hs
  have HL : Hid (∀ r ∈ rs, r.light) := hl
  have HFT : Hid (∀ r ∈ rs, r.fits) := hf
  obtain ⟨kl, hkl⟩ := relKeyOf (typ, x.e.over) ht ho
  have HKL : Hid (keyOf Tryz.prog 73 (encK (typ, x.e.over)) = some kl) := hkl
  clear hkl hV hT hs hl hf
  obtain ⟨i0, hi, hz0, hz1, hz2⟩ := info_parts info_strI
  obtain ⟨W0, hW0⟩ : ∃ W0, W0 = w.alloc (.cells #[.int .i64 x.e.kind, .slice x.adA x.e.allow.length x.capA, .string x.e.over, .string x.e.name, .slice x.adK x.e.kids.length x.capK] 50) := ⟨_, rfl⟩
  have hal : Below w.heap.size w W0 := by rw [hW0]; exact (Below.refl _ _).alloc (Nat.le_refl _) _
  have HB0 : Hid (Below w.heap.size w W0) := hal
  have HV0 : Hid (MapV encK Tryz.prog 73 W0 b n M) := HV.out.below hal
  have c3 : W0.cell? ⟨w.heap.size, 3, none⟩ = some (.string x.e.name) := by rw [hW0]; simp
  have hg0 : w.heap.size < W0.heap.size := by rw [hW0]; simp
  -- what lies in the table
  obtain ⟨rows, adE, capE, HM, HE, HF, HFL⟩ : ∃ (rows : List ER) (adE : Option Addr) (capE : Nat), Hid ((M (typ, x.e.over)).getD (.slice none 0 0) = .slice adE rows.length capE) ∧ Hid (exs rows = relOr (tys rs) typ x.e.over) ∧ Hid (FromS rs adE rows) ∧ Hid (∀ q ∈ rows, q.e.fits) := by
    cases e : M (typ, x.e.over) with
    | none => exact ⟨[], none, 0, rfl, by show _ = _; unfold relOr; rw [HT.out.no _ e]; rfl, .inl rfl, by show ∀ _, _; simp⟩
    | some v =>
      obtain ⟨t, htm, q, hq, -, rfl, e1, -⟩ := HT.out.yes _ v e
      exact ⟨q.rows, q.ad, q.cap, rfl, by show _ = _; unfold relOr; rw [e1]; rfl, .inr ⟨t, htm, q, hq, rfl, rfl⟩, ((HFT.out t htm).2.2 q hq).2.2⟩
  have HSE : Hid (SlE W0 adE rows) := HF.out.sl (HS.out.below hal)
  have HLE := HF.out.light HL.out
  have HLE1 : rows.length ≤ 1048576 := HLE.1
  have HLE2 : Hid (∀ q ∈ rows, q.e.light) := HLE.2
  clear HLE hal
  go_enter Tryz.func50, Tryz.ntmps50
  unfold ER.val
  go_wp2_with (at_lookup; rw [← hW0]; refine wpList_lookV _ rfl _ _ 56 rfl 73 38 relLaw Tryz.underlying56 (zeroExprs _) b n M rfl HV0.out (typ, x.e.over) kl rfl HKL.out ?_; rw [HM.out]; clear hW0)
  refine (toldByObjects_any adE capE rows _ HLE1 HSE.out HLE2.out).mono ?_
  rintro e w1 ⟨rfl, hb1⟩
  have HB1 : Hid (Below w.heap.size w w1) := HB0.out.trans (hb1.mono HB0.out.size)
  have HNM : Hid (w1.cell? ⟨w.heap.size, 3, none⟩ = some (.string x.e.name) ∧ w.heap.size < w1.heap.size) := ⟨kept5 hb1 hg0 c3, Nat.lt_of_lt_of_le hg0 hb1.size⟩
  clear hb1 c3 hg0
  cases hd : directP (exs rows) with
  | false =>
    have HG : Hid (goalsI (tys rs) typ x.e.over x.e.name = []) := by show _ = _; unfold goalsI; rw [← HE.out, hd]; rfl
    go_wp2
    go_ret
    refine ⟨⟨none, 0, by rw [HG.out]; rfl, by rw [HG.out]; exact .inl rfl, fun p hp => by cases hp⟩, HB1.out⟩
  | true =>
    obtain ⟨r, rfl⟩ := direct_one hd
    have HG : Hid (goalsI (tys rs) typ x.e.over x.e.name = gl (tys rs) x.e.name r.e.allow) := by
      show _ = _
      unfold goalsI goalsP
      rw [← HE.out, hd, if_pos rfl, (allowP_one r hd).1]
    rcases HSE.out with h | ⟨bE, offE, rfl, hbE, hrE, hokE⟩
    · cases h
    have HSW : Hid (SlE w1 (some ⟨bE, offE, none⟩) [r]) := HF.out.sl (HS.out.below HB1.out)
    rcases HSW.out with h | ⟨bE', offE', heE, hbE1, hrE1, hokE1⟩
    · cases h
    injection heE with heE; injection heE with heE1 heE2; subst heE1; subst heE2
    obtain ⟨s0, s1, s2, s3, s4⟩ := hrE1 0 (by simp)
    simp only [Nat.zero_mul, Nat.add_zero, List.getElem_cons_zero] at s0 s1 s2 s3 s4
    have HOKR : Hid (r.ok w) := by
      have h1 := HF.out.sl HS.out
      exact h1.mem (by simp)
    have lgA : r.e.allow.length ≤ 1048576 := (HLE2.out r (by simp)).1
    have HFA : Hid (∀ a ∈ r.e.allow, a.fits) := (HFL.out r (by simp)).1
    have hone : ([r] : List ER).length = 1 := rfl
    rw [hone]
    clear hrE hokE hrE1 hokE1 HE HM hd hbE
    go_wp2_with fail
    go_loopw [8, 25] (fun v i wr => ∃ k : Nat, k ≤ r.e.allow.length ∧ i = .int .i64 k ∧ Hid (wr.ownsRow w.heap.size 9 1 v (gl (tys rs) x.e.name (r.e.allow.take k)).length (strsS (gl (tys rs) x.e.name (r.e.allow.take k)))) ∧ Hid (Below w.heap.size w wr) ∧ Hid (wr.cell? ⟨w.heap.size, 3, none⟩ = some (.string x.e.name) ∧ w.heap.size < wr.heap.size ∧ v.ownBlock ≠ some w.heap.size)) (fun _ i _ => r.e.allow.length - (intOf i).toNat)
    case atStart => exact ⟨0, Nat.zero_le _, rfl, World.ownsRow_nil _ _ _ _, HB1, HNM.out.1, HNM.out.2, by simp [Value.ownBlock]⟩
    case round =>
      clear HB1 HNM s0 s1 s2 s3 s4
      obtain ⟨k, hk, rfl, HOW, HB, HC⟩ := hrel
      by_cases hlt : k < r.e.allow.length
      · rcases (HOKR.out.1).below HB.out with hnil | ⟨ba, offa, had, hba, hra⟩
        · rw [hnil] at hlt; simp at hlt
        obtain ⟨t0, t1⟩ := hra k hlt
        have hk1 : (0 : Int) ≤ (k : Int) := by omega
        have hk2 : (k : Int) < (r.e.allow.length : Int) := by omega
        have zA := HFA.out _ (List.getElem_mem hlt)
        have z1 : r.e.allow[k].t.size ≤ maxLen := zA.1
        obtain ⟨hc3, hcl, hco⟩ := HC.out
        obtain ⟨W1, hW1⟩ : ∃ W1, W1 = wr.alloc (.cells #[.string r.e.allow[k].t, .string r.e.allow[k].s] 90) := ⟨_, rfl⟩
        have hal : Below wr.heap.size wr W1 := by rw [hW1]; exact (Below.refl _ _).alloc (Nat.le_refl _) _
        have HBW : Hid (Below w.heap.size w W1) := HB.out.trans (hal.mono HB.out.size)
        have HVW : Hid (MapV encK Tryz.prog 73 W1 b n M) := HV.out.below HBW.out
        have HOW1 : Hid (W1.ownsRow w.heap.size 9 1 u8 (gl (tys rs) x.e.name (r.e.allow.take k)).length (strsS (gl (tys rs) x.e.name (r.e.allow.take k)))) := own_below HOW.out hal
        have g0 : W1.cell? ⟨wr.heap.size, 0, none⟩ = some (.string r.e.allow[k].t) := by rw [hW1]; simp
        have g3 := kept5 hal hcl hc3
        have hgl1 : wr.heap.size < W1.heap.size := by rw [hW1]; simp
        have hgl := gl_len (tys rs) x.e.name (r.e.allow.take k)
        rw [List.length_take] at hgl
        have HI := HT.out.some_iff (r.e.allow[k].t, x.e.name)
        have hwsz : w.heap.size ≤ W1.heap.size := HBW.out.size
        rw [had]
        clear hra hal HC HOW
        go_wp2_with fail
        rw [← hW1]
        refine (has_any b n M r.e.allow[k].t x.e.name _ z1 hn HVW.out).mono ?_
        rintro e w' ⟨rfl, hw'⟩
        rw [hw']
        clear hw' w' hW1 t0 t1 hc3
        cases hz : (M (r.e.allow[k].t, x.e.name)).isSome with
        | false =>
          have HE : Hid (gl (tys rs) x.e.name (r.e.allow.take (k + 1)) = gl (tys rs) x.e.name (r.e.allow.take k)) := by
            refine gl_no _ _ _ _ hlt ?_
            rw [hz] at HI
            simpa using HI.symm
          clear HI
          go_wp2
          go_roundw
          case rel => exact ⟨k + 1, by omega, by go_num, by rw [HE.out]; exact HOW1, HBW, g3, by omega, hco⟩
          case measure => first | (simp [intOf]; done) | (simp [intOf]; omega)
        | true =>
          have HX : Hid (gl (tys rs) x.e.name (r.e.allow.take (k + 1)) = gl (tys rs) x.e.name (r.e.allow.take k) ++ [r.e.allow[k].t]) := by
            refine gl_yes _ _ _ _ hlt ?_
            rw [hz] at HI
            simpa using HI.symm
          clear HI
          go_wp2_with (at_builtin; refine wpList_append_own_at _ rfl _ _ 78 rfl w.heap.size 9 i0 (.string ⟨#[]⟩) 1 16 Tryz.underlying78 hi hz0 hz1 hz2 rfl (by decide) _ _ _ rfl (HOW1.out.alloc _) ⟨W1.heap.size, 0, none⟩ 1 1 [.string r.e.allow[k].t] rfl rfl (cell_one_new _ _ _) (by intro u hu; simp at hu; subst hu; rfl) (by unfold maxLen; omega) (by omega) (by simp; omega) ?_)
          intro v' w3 hown3 hgrow _ hloc
          have hb3 : Hid (Below w.heap.size w w3) := (HBW.out.alloc HBW.out.size _).grown hgrow (by simp; omega) (fun i hi => (HOW1.out.lt i hi).1)
          have HO3 : Hid (w3.ownsRow w.heap.size 9 1 v' (gl (tys rs) x.e.name (r.e.allow.take (k + 1))).length (strsS (gl (tys rs) x.e.name (r.e.allow.take (k + 1))))) := by
            show World.ownsRow _ _ _ _ _ _ _
            rw [HX.out]
            simpa [strsS] using hown3
          have HC3 : Hid (w3.cell? ⟨w.heap.size, 3, none⟩ = some (.string x.e.name) ∧ w.heap.size < w3.heap.size ∧ v'.ownBlock ≠ some w.heap.size) := by
            refine ⟨?_, ?_, ?_⟩
            · rw [hgrow.cell_far _ (by simp; omega) (Ne.symm hco)]; exact kept5 ((Below.refl _ _).alloc (Nat.le_refl _) _) (by omega) g3
            · have := hgrow.size; simp at this; omega
            · rcases hloc with e | e
              · rw [e]; exact hco
              · rw [e]; simp; omega
          clear hown3 hgrow hloc HOW1 g0 g3
          go_wp2
          go_roundw
          case rel => exact ⟨k + 1, by omega, by go_num, HO3, hb3, HC3⟩
          case measure => first | (simp [intOf]; done) | (simp [intOf]; omega)
      · obtain rfl : k = r.e.allow.length := by omega
        have hown := HOW.out
        rw [List.take_length] at hown
        obtain ⟨ad', cp, rfl, hS', hN'⟩ := own_sl hown
        have HS2 : Hid (SlS wr ad' (gl (tys rs) x.e.name r.e.allow)) := hS'
        have HN2 : Hid (∀ p, ad' = some p → w.heap.size ≤ p.block) := hN'
        clear hown HOW hS' hN' HC
        go_wp2
        go_ret
        refine ⟨⟨ad', cp, by rw [HG.out]; rfl, by rw [HG.out]; exact HS2.out, HN2.out⟩, HB.out⟩
end Go.Proofs.YtmghabcaakgjiaaGreat
