/- The document's tuples at a place of a log. -/
import Derived.Test.YtpnjoniolfmbnaaGreatDoorJ11
import Derived.Test.YtpnjoniolfmbnaaGreatDoorJ2
namespace Go.Proofs.YtpnjoniolfmbnaaGreatDoor
set_option maxRecDepth 100000
set_option linter.unusedVariables false
open Go.ChangeShapes Go.WideShapes Go.ChangeAt Go.RowKit
open Pl

/-- seven cells hold a change -/
def At7 (w : World) (b off : Nat) (c : Int × Tp) : Prop := w.cell? ⟨b, off, none⟩ = some (.int .i64 c.1) ∧ w.cell? ⟨b, off + 1, none⟩ = some (.string c.2.a) ∧ w.cell? ⟨b, off + 2, none⟩ = some (.string c.2.b) ∧ w.cell? ⟨b, off + 3, none⟩ = some (.string c.2.r) ∧ w.cell? ⟨b, off + 4, none⟩ = some (.string c.2.c) ∧ w.cell? ⟨b, off + 5, none⟩ = some (.string c.2.d) ∧ w.cell? ⟨b, off + 6, none⟩ = some (.string c.2.s)
/-- what a slice of changes leads to -/
def SlC (w : World) (ad : Option Addr) (cs : List (Int × Tp)) : Prop := cs = [] ∨ ∃ b off, ad = some ⟨b, off, none⟩ ∧ b < w.heap.size ∧ ∀ (i : Nat) (h : i < cs.length), At7 w b (off + i * 7) cs[i]
theorem SlC.below {w w' : World} {ad : Option Addr} {cs : List (Int × Tp)} (h : SlC w ad cs) (hb : Below w.heap.size w w') : SlC w' ad cs := by
  rcases h with h | ⟨b, off, e, hl, hr⟩
  · exact .inl h
  · refine .inr ⟨b, off, e, Nat.lt_of_lt_of_le hl hb.size, fun i hi => ?_⟩
    have hc : ∀ o, w'.cell? ⟨b, o, none⟩ = w.cell? ⟨b, o, none⟩ := fun o => hb.cell (p := ⟨b, o, none⟩) hl
    obtain ⟨h0, h1, h2, h3, h4, h5, h6⟩ := hr i hi
    exact ⟨(hc _).trans h0, (hc _).trans h1, (hc _).trans h2, (hc _).trans h3, (hc _).trans h4, (hc _).trans h5, (hc _).trans h6⟩
/-- the tuples at a place of a log, on plain lists -/
def atT (fit : Tp → Bool) (sok : Bool) (cs : List (Int × Tp)) (n : Int) : Option (List Tp) := if sok = true ∧ cs.length ≤ 60 ∧ 0 ≤ n ∧ n ≤ cs.length then logT fit [] (cs.take n.toNat) else none
def TPost (w : World) (r : Option (List Tp)) (e : Ending) (w' : World) : Prop :=
  Below w.heap.size w w' ∧ ((r = none ∧ e = .returned (.tuple #[.slice none 0 0, .bool false])) ∨ ∃ L g c, r = some L ∧ e = .returned (.tuple #[.slice (some ⟨g, 0, none⟩) L.length c, .bool true]) ∧ w'.ownsRow w.heap.size 29 6 (.slice (some ⟨g, 0, none⟩) L.length c) L.length (rows6 L))
theorem own_row0 {w : World} {base g n c : Nat} {ts : List Tp} (h : w.ownsRow base 29 6 (.slice (some ⟨g, 0, none⟩) n c) n (rows6 ts)) (hn : n = ts.length) : Row6 w g 0 ts ∧ g < w.heap.size ∧ n ≤ c ∧ base ≤ g := by
  have hlt := h.lt g rfl
  refine ⟨?_, hlt.2, ?_, hlt.1⟩
  · subst hn
    intro i hi
    have key : ∀ j, j < 6 → w.cell? ⟨g, 0 + i * 6 + j, none⟩ = (ts[i]).row[j]? := fun j hj => by
      rw [h.cellAt (0 + i * 6 + j) (by have := rows6_len ts; omega), ← rows6_at ts i hi j hj, Nat.zero_add]
    exact ⟨key 0 (by omega), key 1 (by omega), key 2 (by omega), key 3 (by omega), key 4 (by omega), key 5 (by omega)⟩
  · rcases h.2 with ⟨e, -⟩ | ⟨g', cap', cur, e, -, -, hle, -⟩
    · cases e
    · injection e with e1 e2 e3; omega

theorem own_row6 {w : World} {base g c : Nat} {ts : List Tp} (h : w.ownsRow base 29 6 (.slice (some ⟨g, 0, none⟩) ts.length c) ts.length (rows6 ts)) : Row6 w g 0 ts ∧ g < w.heap.size ∧ ts.length ≤ c := ⟨(own_row0 h rfl).1, (own_row0 h rfl).2.1, (own_row0 h rfl).2.2.1⟩
theorem next_sizes {ts : List Tp} {k : Int} {t : Tp} (hf : ∀ x ∈ ts, x.fits) (ht : t.fits) : ∀ x ∈ nextT ts k t, x.fits := by
  intro x hx
  unfold nextT at hx
  split at hx
  · exact hf x ((dropT_mem ts t x).1 hx).1
  · rcases (putT_mem ts t x).1 hx with rfl | h1
    · exact ht
    · exact hf x h1

set_option maxHeartbeats 8000000 in
theorem specTuplesAt_any (sv : Value) (fit : Tp → Bool) (sok : Bool) (ad : Option Addr) (cap : Nat) (cs : List (Int × Tp)) (n : Int) (w : World) (hlen : cs.length ≤ 1048576) (hs : SlC w ad cs) (hf : ∀ c ∈ cs, c.2.fits)
    (hsok : ∀ w1 : World, Below w.heap.size w w1 → Calls Tryz.prog 50 #[sv] w1 fun e w' => e = .returned (.bool sok) ∧ Below w1.heap.size w1 w')
    (hfit : ∀ (t : Tp) (w1 : World), t.fits → Below w.heap.size w w1 → Calls Tryz.prog 69 #[sv, .agg #[.string t.a, .string t.b, .string t.r, .string t.c, .string t.d, .string t.s]] w1 fun e w' => e = .returned (.bool (fit t)) ∧ Below w1.heap.size w1 w') :
    Calls Tryz.prog 24 #[sv, .slice ad cs.length cap, .int .i64 n] w (TPost w (atT fit sok cs n)) := by
  have HS := toHA hs
  have HF := toHA hf
  have HSO := toHA hsok
  have HFT := toHA hfit
  clear hs hf hsok hfit
  go_enter Tryz.func24, Tryz.ntmps24
  go_wp2_with fail
  refine (HSO.out _ (Below.refl _ _)).mono ?_
  rintro e w1 ⟨rfl, hb1⟩
  have HB1 := toHA hb1
  clear hb1
  cases sok with
  | false =>
    have HN : Hid (atT fit false cs n = none) := by show _ = _; unfold atT; rw [if_neg (by simp)]
    go_wp2
    exact bodyPost_ret (v := .tuple #[.slice none 0 0, .bool false]) (by simp [results, Tryz.results24, go_sem]) rfl ⟨HB1.out, .inl ⟨HN.out, rfl⟩⟩
  | true =>
    by_cases h60 : 60 < cs.length
    · have hd : decide ((60 : Int) < (cs.length : Int)) = true := by simp; omega
      have HN : Hid (atT fit true cs n = none) := by show _ = _; unfold atT; rw [if_neg (by omega)]
      go_wp2
      exact bodyPost_ret (v := .tuple #[.slice none 0 0, .bool false]) (by simp [results, Tryz.results24, go_sem]) rfl ⟨HB1.out, .inl ⟨HN.out, rfl⟩⟩
    have hd : decide ((60 : Int) < (cs.length : Int)) = false := by simp; omega
    by_cases hni : ¬ (0 ≤ n ∧ n ≤ cs.length)
    · have hq : (decide (0 ≤ n) && decide (n ≤ (cs.length : Int))) = false := by rw [Bool.and_eq_false_iff, decide_eq_false_iff_not, decide_eq_false_iff_not]; omega
      have HN : Hid (atT fit true cs n = none) := by show _ = _; unfold atT; rw [if_neg (by omega)]
      go_wp2_with fail
      refine (l1In_any n 0 cs.length _).mono ?_
      rintro e w' ⟨rfl, rfl⟩
      rw [hq]
      go_wp2
      exact bodyPost_ret (v := .tuple #[.slice none 0 0, .bool false]) (by simp [results, Tryz.results24, go_sem]) rfl ⟨HB1.out, .inl ⟨HN.out, rfl⟩⟩
    have hin : 0 ≤ n ∧ n ≤ cs.length := Classical.not_not.1 hni
    clear hni
    have hq : (decide (0 ≤ n) && decide (n ≤ (cs.length : Int))) = true := by rw [Bool.and_eq_true, decide_eq_true_eq, decide_eq_true_eq]; exact hin
    obtain ⟨N, rfl⟩ : ∃ N : Nat, n = (N : Int) := ⟨n.toNat, by omega⟩
    have hNc : N ≤ cs.length := by omega
    have HN : Hid (atT fit true cs N = logT fit [] (cs.take N)) := by show _ = _; unfold atT; rw [if_pos (by refine ⟨rfl, ?_, ?_, ?_⟩ <;> omega)]; simp
    have HLIT : Hid ((w1.alloc (.cells #[] 29)).ownsRow w.heap.size 29 6 (.slice (some ⟨w1.heap.size, 0, none⟩) 0 0) 0 (rows6 [])) := World.ownsRow_lit w1 #[] 0 HB1.out.size (by unfold maxLen; omega) (by simp)
    have HBL : Hid (Below w.heap.size w (w1.alloc (.cells #[] 29))) := HB1.out.alloc HB1.out.size _
    go_wp2_with fail
    refine (l1In_any N 0 cs.length _).mono ?_
    rintro e w' ⟨rfl, rfl⟩
    rw [hq]
    clear hin
    go_wp2_with fail
    go_loopw [8, 9, 10, 11] (fun v i _ _ wr => ∃ (m : Nat) (ts : List Tp) (g cp : Nat), m ≤ N ∧ i = .int .i64 m ∧ v = .slice (some ⟨g, 0, none⟩) ts.length cp ∧ Hid (logT fit ts ((cs.take N).drop m) = logT fit [] (cs.take N)) ∧ Hid (wr.ownsRow w.heap.size 29 6 (.slice (some ⟨g, 0, none⟩) ts.length cp) ts.length (rows6 ts)) ∧ Hid (Below w.heap.size w wr) ∧ Hid (Up ts ∧ (∀ x ∈ ts, x.ok = true) ∧ ts.length ≤ 40 ∧ ∀ x ∈ ts, x.fits)) (fun _ i _ _ _ => N - (intOf i).toNat)
    case atStart => exact ⟨0, [], w'.heap.size, 0, Nat.zero_le _, rfl, rfl, rfl, HLIT, HBL, List.Pairwise.nil, by simp, by simp, by simp⟩
    case round =>
      clear HLIT HBL
      obtain ⟨m, ts, g, cp, hm, rfl, rfl, HLG, HO, HB, HU⟩ := hrel
      by_cases hlt : m < N
      · have hd2 : decide ((m : Int) < (N : Int)) = true := by simp; omega
        have hmc : m < cs.length := by omega
        rcases HS.out.below HB.out with hnil | ⟨b, off, rfl, hbl, hr⟩
        · rw [hnil] at hmc; simp at hmc
        obtain ⟨c0, c1, c2, c3, c4, c5, c6⟩ := hr m hmc
        obtain ⟨hrow, hgl, hcp⟩ := own_row6 HO.out
        have HCALL := toHA (l6Applied_any sv fit g 0 cp ts cs[m].1 cs[m].2 wr (fun w1 hb => HFT.out _ w1 (HF.out _ (List.getElem_mem hmc)) (HB.out.trans (hb.mono HB.out.size))) HU.out.2.2.1 hcp hrow hgl HU.out.2.2.2 (HF.out _ (List.getElem_mem hmc)))
        have hm0 : (0 : Int) ≤ (m : Int) := by omega
        have hm1 : (m : Int) < (cs.length : Int) := by omega
        have HST := toHA (log_step (fit := fit) (ts := ts) hmc hlt)
        clear hr hrow
        go_wp2_with fail
        refine HCALL.out.mono ?_
        rintro e w2 ⟨g2, c2', rfl, hown2, hb2⟩
        have HB2 := toHA (HB.out.trans (hb2.mono HB.out.size))
        have HO2 := toHA (own_down hown2 HB.out.size)
        clear hown2 hb2 HCALL c0 c1 c2 c3 c4 c5 c6
        by_cases hz : codeT fit ts cs[m].1 cs[m].2 = 0
        · have hzb : (codeT fit ts cs[m].1 cs[m].2 != 0) = false := by rw [hz]; rfl
          have HR2 := toHA (next_right HU.out.1 HU.out.2.1 HU.out.2.2.1 hz)
          have HF2 := toHA (next_sizes (k := cs[m].1) HU.out.2.2.2 (HF.out _ (List.getElem_mem hmc)))
          rw [done_yes hz] at HO2 ⊢
          have HL2 : Hid (logT fit (nextT ts cs[m].1 cs[m].2) ((cs.take N).drop (m + 1)) = logT fit [] (cs.take N)) := by show _ = _; rw [← HLG.out, HST.out, if_pos hz]
          go_wp2
          go_roundw
          case rel => exact ⟨m + 1, nextT ts cs[m].1 cs[m].2, g2, c2', by omega, by go_num, rfl, HL2, HO2, HB2, HR2.out.1, HR2.out.2.1, HR2.out.2.2, HF2.out⟩
          case measure => first | (simp [intOf]; done) | (simp [intOf]; omega)
        · have hzb : (codeT fit ts cs[m].1 cs[m].2 != 0) = true := by simp [hz]
          have HN2 : Hid (atT fit true cs N = none) := by show _ = _; rw [HN.out, ← HLG.out, HST.out, if_neg hz]
          go_wp2
          exact bodyPost_ret (v := .tuple #[.slice none 0 0, .bool false]) (by simp [results, Tryz.results24, go_sem]) rfl ⟨HB2.out, .inl ⟨HN2.out, rfl⟩⟩
      · have hd2 : decide ((m : Int) < (N : Int)) = false := by simp; omega
        obtain rfl : m = N := by omega
        have HN2 : Hid (atT fit true cs m = some ts) := by show _ = _; rw [HN.out, ← HLG.out, List.drop_eq_nil_of_le (by rw [List.length_take]; omega)]; rfl
        go_wp2
        exact bodyPost_ret (v := .tuple #[.slice (some ⟨g, 0, none⟩) ts.length cp, .bool true]) (by simp [results, Tryz.results24, go_sem]) rfl ⟨HB.out, .inr ⟨ts, g, cp, HN2.out, rfl, HO.out⟩⟩
end Go.Proofs.YtpnjoniolfmbnaaGreatDoor

/- Contracts of the laws' own helpers on changes. -/
namespace Go.Proofs.YtpnjoniolfmbnaaGreatDoor
open Go.ChangeShapes Go.WideShapes Go.ChangeAt Go.RowKit
open Pl

theorem szTup_neg {a b r c d s : ByteArray} {left : Int} (h : szTup a b r c d s left < 0) : szTup a b r c d s left = -1 := by
  unfold szTup at h ⊢
  repeat (split; · rfl)
  simp only [*, if_false] at h

theorem szChange_any (k : Int) (a b r c d s : ByteArray) (left : Int) (w : World) (ha : a.size ≤ maxLen) (hb : b.size ≤ maxLen) (hr : r.size ≤ maxLen) (hc : c.size ≤ maxLen) (hd : d.size ≤ maxLen) (hs : s.size ≤ maxLen) (h0 : 0 ≤ left) (h1 : left ≤ 1048576) :
    Calls Tryz.prog 14 #[.agg #[.int .i64 k, .string a, .string b, .string r, .string c, .string d, .string s], .int .i64 left] w fun e w' => e = .returned (.int .i64 (szTup a b r c d s left)) ∧ Below w.heap.size w w' := by
  have hle := szTup_le a b r c d s left
  go_enter Tryz.func14, Tryz.ntmps14
  go_wp2_with fail
  refine (szTuple_any _ _ _ _ _ _ _ _ ha hb hr hc hd hs h0 h1).mono ?_
  rintro e w1 ⟨rfl, hb1⟩
  have HB1 : Below w.heap.size w w1 := ((Below.refl _ _).alloc (Nat.le_refl _) _).trans (hb1.mono (by simp))
  clear hb1
  by_cases hn : szTup a b r c d s left < 0
  · go_wp2
    go_ret
    exact ⟨ret_int (szTup_neg hn).symm, HB1⟩
  · go_wp2
    go_ret
    exact ⟨rfl, HB1⟩

set_option maxHeartbeats 400000 in
theorem toChange_any (k : Int) (a b r c d s : ByteArray) (w : World) :
    Calls Tryz.prog 17 #[.agg #[.int .i64 k, .string a, .string b, .string r, .string c, .string d, .string s]] w fun e w' => e = .returned (.agg #[.int .i64 k, .string a, .string b, .string r, .string c, .string d, .string s]) ∧ Below w.heap.size w w' := by
  go_enter Tryz.func17, Tryz.ntmps17
  go_wp2_with fail
  refine (toTuple_any _ _ _ _ _ _ _).mono ?_
  rintro e w1 ⟨rfl, hb1⟩
  obtain ⟨hc1, hf1⟩ := bcell hb1
  have hz1 : w.heap.size + 1 + 1 < w1.heap.size := by have := hb1.size; simp at this; omega
  have hy1 : w.heap.size + 1 < w1.heap.size := by omega
  have hx1 : w.heap.size < w1.heap.size := by omega
  have HB1 : Below w.heap.size w w1 := Below.trans (by
    repeat (first | exact Below.refl _ _ | refine Below.setCell ?_ (by first | (simp; done) | (simp; omega)) _ | refine Below.alloc ?_ (by first | (simp; done) | (simp; omega)) _)) (hb1.mono (by simp; omega))
  clear hb1
  go_wp2
  exact bodyPost_ret (v := .agg #[.int .i64 k, .string a, .string b, .string r, .string c, .string d, .string s]) (by simp [results, Tryz.results17, go_sem, *]) rfl ⟨rfl, by
    repeat (first | refine Below.setCell ?_ (by first | (simp; done) | (simp; omega)) _ | with_reducible exact HB1)⟩

end Go.Proofs.YtpnjoniolfmbnaaGreatDoor
