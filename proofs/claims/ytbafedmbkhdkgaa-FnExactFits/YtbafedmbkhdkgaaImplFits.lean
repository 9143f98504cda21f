/- Contract of the program's look whether a tuple fits its table. -/
import Derived.Test.YtbafedmbkhdkgaaImplGoals
import Derived.Test.YtbafedmbkhdkgaaImplAllow
namespace Go.Proofs.Ytbafedmbkhdkgaa
open Go.ChangeShapes Go.WideShapes Go.ChangeAt Go.RowKit Go.Maps
open Pl

def fitE (a : Al) (e : Ex) : Bool := decide (e.kind = 1) && inPre e.allow e.allow.length a
def fitsI (ts : List Ty) (ty rel : ByteArray) (a : Al) : Bool := (relOr ts ty rel).any (fitE a)
theorem fit_drop (a : Al) (rows : List ER) (k : Nat) (h : k < rows.length) : (exs (rows.drop k)).any (fitE a) = (fitE a rows[k].e || (exs (rows.drop (k + 1))).any (fitE a)) := by
  rw [exs_drop _ _ h]; rfl

set_option maxRecDepth 100000 in
set_option maxHeartbeats 4000000 in
theorem fits_any (b n : Nat) (rs : List TR) (ad : Option Addr) (M : ByteArray × ByteArray → Option Value) (oa ob r c d s : ByteArray) (w : World) (hV : MapV encK Try.prog 84 w b n M) (hT : Tab rs M) (hs : SlT w ad rs) (hl : ∀ r ∈ rs, r.light) (ho : oa.size ≤ maxLen) (hr : r.size ≤ maxLen) :
    Calls Try.prog 64 #[.map (some b), .agg #[.string oa, .string ob, .string r, .string c, .string d, .string s]] w fun e w' => e = .returned (.bool (fitsI (tys rs) oa r ⟨c, s⟩)) ∧ Below w.heap.size w w' := by
  have HT : Hid (Tab rs M) := hT
  have HS : Hid (SlT w ad rs) := hs
  have HL : Hid (∀ r ∈ rs, r.light) := hl
  obtain ⟨kl, hkl⟩ := relKeyOf (oa, r) ho hr
  have HKL : Hid (keyOf Try.prog 84 (encK (oa, r)) = some kl) := hkl
  obtain ⟨W0, hW0⟩ : ∃ W0, W0 = (w.alloc (.cells #[.string oa, .string ob, .string r, .string c, .string d, .string s] 27)).alloc (.cells #[.string c, .string s] 122) := ⟨_, rfl⟩
  have hal : Below w.heap.size w W0 := by
    rw [hW0]
    repeat (first | exact Below.refl _ _ | refine Below.alloc ?_ (by first | (simp; done) | (simp; omega)) _)
  have HB0 : Hid (Below w.heap.size w W0) := hal
  have HV0 : Hid (MapV encK Try.prog 84 W0 b n M) := hV.below hal
  have HC0 : Hid (W0.cell? ⟨w.heap.size + 1, 0, none⟩ = some (.string c) ∧ W0.cell? ⟨w.heap.size + 1, 1, none⟩ = some (.string s) ∧ w.heap.size + 1 < W0.heap.size) := ⟨by rw [hW0]; simp, by rw [hW0]; simp, by rw [hW0]; simp⟩
  obtain ⟨rows, adE, capE, HM, HE, HF⟩ : ∃ (rows : List ER) (adE : Option Addr) (capE : Nat), Hid ((M (oa, r)).getD (.slice none 0 0) = .slice adE rows.length capE) ∧ Hid (exs rows = relOr (tys rs) oa r) ∧ Hid (FromS rs adE rows) := by
    cases e : M (oa, r) with
    | none => exact ⟨[], none, 0, rfl, by show _ = _; unfold relOr; rw [HT.out.no _ e]; rfl, .inl rfl⟩
    | some v =>
      obtain ⟨t, htm, q, hq, -, rfl, e1, -⟩ := HT.out.yes _ v e
      exact ⟨q.rows, q.ad, q.cap, rfl, by show _ = _; unfold relOr; rw [e1]; rfl, .inr ⟨t, htm, q, hq, rfl, rfl⟩⟩
  have HLE := HF.out.light HL.out
  have HLE1 : rows.length ≤ 1048576 := HLE.1
  have HLE2 : Hid (∀ q ∈ rows, q.e.light) := HLE.2
  have HSE : Hid (SlE w adE rows) := HF.out.sl HS.out
  clear hV hT hs hl hkl hal HLE
  go_enter Try.func64, Try.ntmps64
  go_wp2_with (at_lookup; rw [← hW0]; refine wpList_lookV _ rfl _ _ 81 rfl 84 39 relLaw Try.underlying81 (zeroExprs _) b n M rfl HV0.out (oa, r) kl rfl HKL.out ?_; rw [HM.out]; clear hW0)
  go_loopw [23] (fun i wr => ∃ k : Nat, k ≤ rows.length ∧ i = .int .i64 k ∧ Hid ((exs (rows.drop k)).any (fitE ⟨c, s⟩) = (exs rows).any (fitE ⟨c, s⟩)) ∧ Hid (Below w.heap.size w wr) ∧ Hid (wr.cell? ⟨w.heap.size + 1, 0, none⟩ = some (.string c) ∧ wr.cell? ⟨w.heap.size + 1, 1, none⟩ = some (.string s) ∧ w.heap.size + 1 < wr.heap.size)) (fun i _ => rows.length - (intOf i).toNat)
  case atStart => exact ⟨0, Nat.zero_le _, rfl, rfl, HB0, HC0⟩
  case round =>
    clear HB0 HC0 HV0
    obtain ⟨k, hk, rfl, HP, HB, HC⟩ := hrel
    by_cases hlt : k < rows.length
    · rcases HSE.out.below HB.out with hnil | ⟨bE, offE, hadE, hbE, hrE, hok⟩
      · rw [hnil] at hlt; simp at hlt
      obtain ⟨t0, t1, t2, t3, t4⟩ := hrE k hlt
      have HOK : Hid (rows[k].ok wr) := hok _ (List.getElem_mem hlt)
      have lgA : rows[k].e.allow.length ≤ 1048576 := (HLE2.out _ (List.getElem_mem hlt)).1
      have hk1 : (0 : Int) ≤ (k : Int) := by omega
      have hk2 : (k : Int) < (rows.length : Int) := by omega
      obtain ⟨x0, x1, x2⟩ := HC.out
      have HD : Hid ((exs rows).any (fitE ⟨c, s⟩) = (fitE ⟨c, s⟩ rows[k].e || (exs (rows.drop (k + 1))).any (fitE ⟨c, s⟩))) := by show _ = _; rw [← HP.out]; exact fit_drop _ _ _ hlt
      obtain ⟨W1, hW1⟩ : ∃ W1, W1 = wr.alloc (.cells #[.int .i64 rows[k].e.kind, .slice rows[k].adA rows[k].e.allow.length rows[k].capA, .string rows[k].e.over, .string rows[k].e.name, .slice rows[k].adK rows[k].e.kids.length rows[k].capK] 89) := ⟨_, rfl⟩
      have hal : Below wr.heap.size wr W1 := by rw [hW1]; exact (Below.refl _ _).alloc (Nat.le_refl _) _
      have HB1 : Hid (Below w.heap.size w W1) := HB.out.trans (hal.mono HB.out.size)
      have HC1 : Hid (W1.cell? ⟨w.heap.size + 1, 0, none⟩ = some (.string c) ∧ W1.cell? ⟨w.heap.size + 1, 1, none⟩ = some (.string s) ∧ w.heap.size + 1 < W1.heap.size) := ⟨kept5 hal x2 x0, kept5 hal x2 x1, Nat.lt_of_lt_of_le x2 hal.size⟩
      have HA1 : Hid (SlA W1 rows[k].adA rows[k].e.allow) := HOK.out.1.below hal
      rw [hadE]
      clear hrE hok hal HC
      by_cases h1 : rows[k].e.kind = 1
      · have hq1 : (rows[k].e.kind == 1) = true := by simpa using h1
        have HFE : Hid (fitE ⟨c, s⟩ rows[k].e = inPre rows[k].e.allow rows[k].e.allow.length ⟨c, s⟩) := by show _ = _; unfold fitE; simp [h1]
        replace h1 : Hid (rows[k].e.kind = 1) := h1
        go_wp2_with fail
        rw [← hW1]
        refine (contains_any rows[k].adA rows[k].e.allow.length rows[k].capA rows[k].e.allow ⟨c, s⟩ _ (Nat.le_refl _) lgA HA1.out).mono ?_
        rintro e w2 ⟨rfl, hb2⟩
        have HB2 : Hid (Below w.heap.size w w2) := HB1.out.trans (hb2.mono HB1.out.size)
        have HC2 : Hid (w2.cell? ⟨w.heap.size + 1, 0, none⟩ = some (.string c) ∧ w2.cell? ⟨w.heap.size + 1, 1, none⟩ = some (.string s) ∧ w.heap.size + 1 < w2.heap.size) := ⟨kept5 hb2 HC1.out.2.2 HC1.out.1, kept5 hb2 HC1.out.2.2 HC1.out.2.1, Nat.lt_of_lt_of_le HC1.out.2.2 hb2.size⟩
        clear hb2 hW1 t0 t1 t2 t3 t4 x0 x1
        cases hz : inPre rows[k].e.allow rows[k].e.allow.length ⟨c, s⟩ with
        | true =>
          have HN : Hid (fitsI (tys rs) oa r ⟨c, s⟩ = true) := by show _ = _; unfold fitsI; rw [← HE.out, HD.out, HFE.out, hz]; rfl
          go_wp2
          go_ret
          exact ⟨by rw [HN.out]; rfl, HB2.out⟩
        | false =>
          have HP2 : Hid ((exs (rows.drop (k + 1))).any (fitE ⟨c, s⟩) = (exs rows).any (fitE ⟨c, s⟩)) := by show _ = _; rw [HD.out, HFE.out, hz]; rfl
          go_wp2
          go_roundw
          case rel => exact ⟨k + 1, by omega, by go_num, HP2, HB2, HC2⟩
          case measure => first | (simp [intOf]; done) | (simp [intOf]; omega)
      · have hq1 : (rows[k].e.kind == 1) = false := by simpa using h1
        have HP2 : Hid ((exs (rows.drop (k + 1))).any (fitE ⟨c, s⟩) = (exs rows).any (fitE ⟨c, s⟩)) := by show _ = _; rw [HD.out]; simp [fitE, h1]
        have HBX : Hid (Below w.heap.size w (wr.alloc (.cells #[.int .i64 rows[k].e.kind, .slice rows[k].adA rows[k].e.allow.length rows[k].capA, .string rows[k].e.over, .string rows[k].e.name, .slice rows[k].adK rows[k].e.kids.length rows[k].capK] 89))) := by rw [← hW1]; exact HB1
        have HCX : Hid ((wr.alloc (.cells #[.int .i64 rows[k].e.kind, .slice rows[k].adA rows[k].e.allow.length rows[k].capA, .string rows[k].e.over, .string rows[k].e.name, .slice rows[k].adK rows[k].e.kids.length rows[k].capK] 89)).cell? ⟨w.heap.size + 1, 0, none⟩ = some (.string c) ∧ (wr.alloc (.cells #[.int .i64 rows[k].e.kind, .slice rows[k].adA rows[k].e.allow.length rows[k].capA, .string rows[k].e.over, .string rows[k].e.name, .slice rows[k].adK rows[k].e.kids.length rows[k].capK] 89)).cell? ⟨w.heap.size + 1, 1, none⟩ = some (.string s) ∧ w.heap.size + 1 < (wr.alloc (.cells #[.int .i64 rows[k].e.kind, .slice rows[k].adA rows[k].e.allow.length rows[k].capA, .string rows[k].e.over, .string rows[k].e.name, .slice rows[k].adK rows[k].e.kids.length rows[k].capK] 89)).heap.size) := by rw [← hW1]; exact HC1
        clear hW1
        go_wp2
        go_roundw
        case rel => exact ⟨k + 1, by omega, by go_num, HP2, HBX, HCX⟩
        case measure => first | (simp [intOf]; done) | (simp [intOf]; omega)
    · have HN : Hid (fitsI (tys rs) oa r ⟨c, s⟩ = false) := by show _ = _; unfold fitsI; rw [← HE.out, ← HP.out, List.drop_of_length_le (by omega)]; rfl
      go_wp2
      go_ret
      exact ⟨by rw [HN.out]; rfl, HB.out⟩
end Go.Proofs.Ytbafedmbkhdkgaa
