/- The document's tuples at a place of a log. -/
import Derived.Test.YtpnjoniolfmbnaaGreatDoorJ8
import Derived.Test.YtpnjoniolfmbnaaGreatDoorJ2
import Derived.Test.YtpnjoniolfmbnaaGreatDoorEqTupS
import Derived.Test.YtpnjoniolfmbnaaGreatDoorJ3
namespace Go.Proofs.YtpnjoniolfmbnaaGreatDoor
set_option maxRecDepth 100000
set_option linter.unusedVariables false
open Go.ChangeShapes Go.WideShapes Go.ChangeAt Go.RowKit
open Pl

/-- seven cells hold a change -/
def At7 (w : World) (b off : Nat) (c : Int × Tp) : Prop := w.cell? ⟨b, off, none⟩ = some (.int .i64 c.1) ∧ w.cell? ⟨b, off + 1, none⟩ = some (.string c.2.a) ∧ w.cell? ⟨b, off + 2, none⟩ = some (.string c.2.b) ∧ w.cell? ⟨b, off + 3, none⟩ = some (.string c.2.r) ∧ w.cell? ⟨b, off + 4, none⟩ = some (.string c.2.c) ∧ w.cell? ⟨b, off + 5, none⟩ = some (.string c.2.d) ∧ w.cell? ⟨b, off + 6, none⟩ = some (.string c.2.s)
/-- what a slice of changes leads to -/
def SlC (w : World) (ad : Option Addr) (cs : List (Int × Tp)) : Prop := cs = [] ∨ ∃ b off, ad = some ⟨b, off, none⟩ ∧ b < w.heap.size ∧ ∀ (i : Nat) (h : i < cs.length), At7 w b (off + i * 7) cs[i]
theorem SlC.below {w w' : World} {ad : Option Addr} {cs : List (Int × Tp)} (h : SlC w ad cs) (hb : Below w.heap.size w w') : SlC w' ad cs := by
  rcases h with h | ⟨b, off, e, hl, hr⟩
  · exact .inl h
  · refine .inr ⟨b, off, e, Nat.lt_of_lt_of_le hl hb.size, fun i hi => ?_⟩
    have hc : ∀ o, w'.cell? ⟨b, o, none⟩ = w.cell? ⟨b, o, none⟩ := fun o => hb.cell (p := ⟨b, o, none⟩) hl
    obtain ⟨h0, h1, h2, h3, h4, h5, h6⟩ := hr i hi
    exact ⟨(hc _).trans h0, (hc _).trans h1, (hc _).trans h2, (hc _).trans h3, (hc _).trans h4, (hc _).trans h5, (hc _).trans h6⟩
/-- the tuples at a place of a log, on plain lists -/
def atT (fit : Tp → Bool) (sok : Bool) (cs : List (Int × Tp)) (n : Int) : Option (List Tp) := if sok = true ∧ cs.length ≤ 60 ∧ 0 ≤ n ∧ n ≤ cs.length then logT fit [] (cs.take n.toNat) else none
def TPost (w : World) (r : Option (List Tp)) (e : Ending) (w' : World) : Prop :=
  Below w.heap.size w w' ∧ ((r = none ∧ e = .returned (.tuple #[.slice none 0 0, .bool false])) ∨ ∃ L g c, r = some L ∧ e = .returned (.tuple #[.slice (some ⟨g, 0, none⟩) L.length c, .bool true]) ∧ w'.ownsRow w.heap.size 29 6 (.slice (some ⟨g, 0, none⟩) L.length c) L.length (rows6 L))
theorem own_row0 {w : World} {base g n c : Nat} {ts : List Tp} (h : w.ownsRow base 29 6 (.slice (some ⟨g, 0, none⟩) n c) n (rows6 ts)) (hn : n = ts.length) : Row6 w g 0 ts ∧ g < w.heap.size ∧ n ≤ c ∧ base ≤ g := by
  have hlt := h.lt g rfl
  refine ⟨?_, hlt.2, ?_, hlt.1⟩
  · subst hn
    intro i hi
    have key : ∀ j, j < 6 → w.cell? ⟨g, 0 + i * 6 + j, none⟩ = (ts[i]).row[j]? := fun j hj => by
      rw [h.cellAt (0 + i * 6 + j) (by have := rows6_len ts; omega), ← rows6_at ts i hi j hj, Nat.zero_add]
    exact ⟨key 0 (by omega), key 1 (by omega), key 2 (by omega), key 3 (by omega), key 4 (by omega), key 5 (by omega)⟩
  · rcases h.2 with ⟨e, -⟩ | ⟨g', cap', cur, e, -, -, hle, -⟩
    · cases e
    · injection e with e1 e2 e3; omega

theorem own_row6 {w : World} {base g c : Nat} {ts : List Tp} (h : w.ownsRow base 29 6 (.slice (some ⟨g, 0, none⟩) ts.length c) ts.length (rows6 ts)) : Row6 w g 0 ts ∧ g < w.heap.size ∧ ts.length ≤ c := ⟨(own_row0 h rfl).1, (own_row0 h rfl).2.1, (own_row0 h rfl).2.2.1⟩
theorem next_sizes {ts : List Tp} {k : Int} {t : Tp} (hf : ∀ x ∈ ts, x.fits) (ht : t.fits) : ∀ x ∈ nextT ts k t, x.fits := by
  intro x hx
  unfold nextT at hx
  split at hx
  · exact hf x ((dropT_mem ts t x).1 hx).1
  · rcases (putT_mem ts t x).1 hx with rfl | h1
    · exact ht
    · exact hf x h1

set_option maxHeartbeats 8000000 in
theorem specTuplesAt_any (sv : Value) (fit : Tp → Bool) (sok : Bool) (ad : Option Addr) (cap : Nat) (cs : List (Int × Tp)) (n : Int) (w : World) (hlen : cs.length ≤ 1048576) (hs : SlC w ad cs) (hf : ∀ c ∈ cs, c.2.fits)
    (hsok : ∀ w1 : World, Below w.heap.size w w1 → Calls Tryz.prog 50 #[sv] w1 fun e w' => e = .returned (.bool sok) ∧ Below w1.heap.size w1 w')
    (hfit : ∀ (t : Tp) (w1 : World), t.fits → Below w.heap.size w w1 → Calls Tryz.prog 69 #[sv, .agg #[.string t.a, .string t.b, .string t.r, .string t.c, .string t.d, .string t.s]] w1 fun e w' => e = .returned (.bool (fit t)) ∧ Below w1.heap.size w1 w') :
    Calls Tryz.prog 24 #[sv, .slice ad cs.length cap, .int .i64 n] w (TPost w (atT fit sok cs n)) := by
  have HS := toHA hs
  have HF := toHA hf
  have HSO := toHA hsok
  have HFT := toHA hfit
  clear hs hf hsok hfit
  go_enter Tryz.func24, Tryz.ntmps24
  go_wp2_with fail
  refine (HSO.out _ (Below.refl _ _)).mono ?_
  rintro e w1 ⟨rfl, hb1⟩
  have HB1 := toHA hb1
  clear hb1
  cases sok with
  | false =>
    have HN : Hid (atT fit false cs n = none) := by show _ = _; unfold atT; rw [if_neg (by simp)]
    go_wp2
    exact bodyPost_ret (v := .tuple #[.slice none 0 0, .bool false]) (by simp [results, Tryz.results24, go_sem]) rfl ⟨HB1.out, .inl ⟨HN.out, rfl⟩⟩
  | true =>
    by_cases h60 : 60 < cs.length
    · have hd : decide ((60 : Int) < (cs.length : Int)) = true := by simp; omega
      have HN : Hid (atT fit true cs n = none) := by show _ = _; unfold atT; rw [if_neg (by omega)]
      go_wp2
      exact bodyPost_ret (v := .tuple #[.slice none 0 0, .bool false]) (by simp [results, Tryz.results24, go_sem]) rfl ⟨HB1.out, .inl ⟨HN.out, rfl⟩⟩
    have hd : decide ((60 : Int) < (cs.length : Int)) = false := by simp; omega
    by_cases hni : ¬ (0 ≤ n ∧ n ≤ cs.length)
    · have hq : (decide (0 ≤ n) && decide (n ≤ (cs.length : Int))) = false := by rw [Bool.and_eq_false_iff, decide_eq_false_iff_not, decide_eq_false_iff_not]; omega
      have HN : Hid (atT fit true cs n = none) := by show _ = _; unfold atT; rw [if_neg (by omega)]
      go_wp2_with fail
      refine (l1In_any n 0 cs.length _).mono ?_
      rintro e w' ⟨rfl, rfl⟩
      rw [hq]
      go_wp2
      exact bodyPost_ret (v := .tuple #[.slice none 0 0, .bool false]) (by simp [results, Tryz.results24, go_sem]) rfl ⟨HB1.out, .inl ⟨HN.out, rfl⟩⟩
    have hin : 0 ≤ n ∧ n ≤ cs.length := Classical.not_not.1 hni
    clear hni
    have hq : (decide (0 ≤ n) && decide (n ≤ (cs.length : Int))) = true := by rw [Bool.and_eq_true, decide_eq_true_eq, decide_eq_true_eq]; exact hin
    obtain ⟨N, rfl⟩ : ∃ N : Nat, n = (N : Int) := ⟨n.toNat, by omega⟩
    have hNc : N ≤ cs.length := by omega
    have HN : Hid (atT fit true cs N = logT fit [] (cs.take N)) := by show _ = _; unfold atT; rw [if_pos (by refine ⟨rfl, ?_, ?_, ?_⟩ <;> omega)]; simp
    have HLIT : Hid ((w1.alloc (.cells #[] 29)).ownsRow w.heap.size 29 6 (.slice (some ⟨w1.heap.size, 0, none⟩) 0 0) 0 (rows6 [])) := World.ownsRow_lit w1 #[] 0 HB1.out.size (by unfold maxLen; omega) (by simp)
    have HBL : Hid (Below w.heap.size w (w1.alloc (.cells #[] 29))) := HB1.out.alloc HB1.out.size _
    go_wp2_with fail
    refine (l1In_any N 0 cs.length _).mono ?_
    rintro e w' ⟨rfl, rfl⟩
    rw [hq]
    clear hin
    go_wp2_with fail
    go_loopw [8, 9, 10, 11] (fun v i _ _ wr => ∃ (m : Nat) (ts : List Tp) (g cp : Nat), m ≤ N ∧ i = .int .i64 m ∧ v = .slice (some ⟨g, 0, none⟩) ts.length cp ∧ Hid (logT fit ts ((cs.take N).drop m) = logT fit [] (cs.take N)) ∧ Hid (wr.ownsRow w.heap.size 29 6 (.slice (some ⟨g, 0, none⟩) ts.length cp) ts.length (rows6 ts)) ∧ Hid (Below w.heap.size w wr) ∧ Hid (Up ts ∧ (∀ x ∈ ts, x.ok = true) ∧ ts.length ≤ 40 ∧ ∀ x ∈ ts, x.fits)) (fun _ i _ _ _ => N - (intOf i).toNat)
    case atStart => exact ⟨0, [], w'.heap.size, 0, Nat.zero_le _, rfl, rfl, rfl, HLIT, HBL, List.Pairwise.nil, by simp, by simp, by simp⟩
    case round =>
      clear HLIT HBL
      obtain ⟨m, ts, g, cp, hm, rfl, rfl, HLG, HO, HB, HU⟩ := hrel
      by_cases hlt : m < N
      · have hd2 : decide ((m : Int) < (N : Int)) = true := by simp; omega
        have hmc : m < cs.length := by omega
        rcases HS.out.below HB.out with hnil | ⟨b, off, rfl, hbl, hr⟩
        · rw [hnil] at hmc; simp at hmc
        obtain ⟨c0, c1, c2, c3, c4, c5, c6⟩ := hr m hmc
        obtain ⟨hrow, hgl, hcp⟩ := own_row6 HO.out
        have HCALL := toHA (l6Applied_any sv fit g 0 cp ts cs[m].1 cs[m].2 wr (fun w1 hb => HFT.out _ w1 (HF.out _ (List.getElem_mem hmc)) (HB.out.trans (hb.mono HB.out.size))) HU.out.2.2.1 hcp hrow hgl HU.out.2.2.2 (HF.out _ (List.getElem_mem hmc)))
        have hm0 : (0 : Int) ≤ (m : Int) := by omega
        have hm1 : (m : Int) < (cs.length : Int) := by omega
        have HST := toHA (log_step (fit := fit) (ts := ts) hmc hlt)
        clear hr hrow
        go_wp2_with fail
        refine HCALL.out.mono ?_
        rintro e w2 ⟨g2, c2', rfl, hown2, hb2⟩
        have HB2 := toHA (HB.out.trans (hb2.mono HB.out.size))
        have HO2 := toHA (own_down hown2 HB.out.size)
        clear hown2 hb2 HCALL c0 c1 c2 c3 c4 c5 c6
        by_cases hz : codeT fit ts cs[m].1 cs[m].2 = 0
        · have hzb : (codeT fit ts cs[m].1 cs[m].2 != 0) = false := by rw [hz]; rfl
          have HR2 := toHA (next_right HU.out.1 HU.out.2.1 HU.out.2.2.1 hz)
          have HF2 := toHA (next_sizes (k := cs[m].1) HU.out.2.2.2 (HF.out _ (List.getElem_mem hmc)))
          rw [done_yes hz] at HO2 ⊢
          have HL2 : Hid (logT fit (nextT ts cs[m].1 cs[m].2) ((cs.take N).drop (m + 1)) = logT fit [] (cs.take N)) := by show _ = _; rw [← HLG.out, HST.out, if_pos hz]
          go_wp2
          go_roundw
          case rel => exact ⟨m + 1, nextT ts cs[m].1 cs[m].2, g2, c2', by omega, by go_num, rfl, HL2, HO2, HB2, HR2.out.1, HR2.out.2.1, HR2.out.2.2, HF2.out⟩
          case measure => first | (simp [intOf]; done) | (simp [intOf]; omega)
        · have hzb : (codeT fit ts cs[m].1 cs[m].2 != 0) = true := by simp [hz]
          have HN2 : Hid (atT fit true cs N = none) := by show _ = _; rw [HN.out, ← HLG.out, HST.out, if_neg hz]
          go_wp2
          exact bodyPost_ret (v := .tuple #[.slice none 0 0, .bool false]) (by simp [results, Tryz.results24, go_sem]) rfl ⟨HB2.out, .inl ⟨HN2.out, rfl⟩⟩
      · have hd2 : decide ((m : Int) < (N : Int)) = false := by simp; omega
        obtain rfl : m = N := by omega
        have HN2 : Hid (atT fit true cs m = some ts) := by show _ = _; rw [HN.out, ← HLG.out, List.drop_eq_nil_of_le (by rw [List.length_take]; omega)]; rfl
        go_wp2
        exact bodyPost_ret (v := .tuple #[.slice (some ⟨g, 0, none⟩) ts.length cp, .bool true]) (by simp [results, Tryz.results24, go_sem]) rfl ⟨HB.out, .inr ⟨ts, g, cp, HN2.out, rfl, HO.out⟩⟩
end Go.Proofs.YtpnjoniolfmbnaaGreatDoor

/- Contracts of the laws' own helpers on changes. -/
namespace Go.Proofs.YtpnjoniolfmbnaaGreatDoor
open Go.ChangeShapes Go.WideShapes Go.ChangeAt Go.RowKit
open Pl

theorem szTup_neg {a b r c d s : ByteArray} {left : Int} (h : szTup a b r c d s left < 0) : szTup a b r c d s left = -1 := by
  unfold szTup at h ⊢
  repeat (split; · rfl)
  simp only [*, if_false] at h

theorem szChange_any (k : Int) (a b r c d s : ByteArray) (left : Int) (w : World) (ha : a.size ≤ maxLen) (hb : b.size ≤ maxLen) (hr : r.size ≤ maxLen) (hc : c.size ≤ maxLen) (hd : d.size ≤ maxLen) (hs : s.size ≤ maxLen) (h0 : 0 ≤ left) (h1 : left ≤ 1048576) :
    Calls Tryz.prog 14 #[.agg #[.int .i64 k, .string a, .string b, .string r, .string c, .string d, .string s], .int .i64 left] w fun e w' => e = .returned (.int .i64 (szTup a b r c d s left)) ∧ Below w.heap.size w w' := by
  have hle := szTup_le a b r c d s left
  go_enter Tryz.func14, Tryz.ntmps14
  go_wp2_with fail
  refine (szTuple_any _ _ _ _ _ _ _ _ ha hb hr hc hd hs h0 h1).mono ?_
  rintro e w1 ⟨rfl, hb1⟩
  have HB1 : Below w.heap.size w w1 := ((Below.refl _ _).alloc (Nat.le_refl _) _).trans (hb1.mono (by simp))
  clear hb1
  by_cases hn : szTup a b r c d s left < 0
  · go_wp2
    go_ret
    exact ⟨ret_int (szTup_neg hn).symm, HB1⟩
  · go_wp2
    go_ret
    exact ⟨rfl, HB1⟩

set_option maxHeartbeats 400000 in
theorem toChange_any (k : Int) (a b r c d s : ByteArray) (w : World) :
    Calls Tryz.prog 17 #[.agg #[.int .i64 k, .string a, .string b, .string r, .string c, .string d, .string s]] w fun e w' => e = .returned (.agg #[.int .i64 k, .string a, .string b, .string r, .string c, .string d, .string s]) ∧ Below w.heap.size w w' := by
  go_enter Tryz.func17, Tryz.ntmps17
  go_wp2_with fail
  refine (toTuple_any _ _ _ _ _ _ _).mono ?_
  rintro e w1 ⟨rfl, hb1⟩
  obtain ⟨hc1, hf1⟩ := bcell hb1
  have hz1 : w.heap.size + 1 + 1 < w1.heap.size := by have := hb1.size; simp at this; omega
  have hy1 : w.heap.size + 1 < w1.heap.size := by omega
  have hx1 : w.heap.size < w1.heap.size := by omega
  have HB1 : Below w.heap.size w w1 := Below.trans (by
    repeat (first | exact Below.refl _ _ | refine Below.setCell ?_ (by first | (simp; done) | (simp; omega)) _ | refine Below.alloc ?_ (by first | (simp; done) | (simp; omega)) _)) (hb1.mono (by simp; omega))
  clear hb1
  go_wp2
  exact bodyPost_ret (v := .agg #[.int .i64 k, .string a, .string b, .string r, .string c, .string d, .string s]) (by simp [results, Tryz.results17, go_sem, *]) rfl ⟨rfl, by
    repeat (first | refine Below.setCell ?_ (by first | (simp; done) | (simp; omega)) _ | with_reducible exact HB1)⟩

end Go.Proofs.YtpnjoniolfmbnaaGreatDoor

/- Rows of changes in memory, and the contracts of the laws' helpers on them: weighed, copied, held against one another, marked. -/
namespace Go.Proofs.YtpnjoniolfmbnaaGreatDoor
set_option maxRecDepth 100000
set_option linter.unusedVariables false
open Go.ChangeShapes Go.WideShapes Go.ChangeAt Go.RowKit
open Pl

def Row7 (w : World) (b off : Nat) (cs : List (Int × Tp)) : Prop := ∀ (i : Nat) (h : i < cs.length), At7 w b (off + i * 7) cs[i]
theorem At7.same {w w' : World} {b off : Nat} {t : Int × Tp} (h : At7 w b off t) (hc : ∀ o, w'.cell? ⟨b, o, none⟩ = w.cell? ⟨b, o, none⟩) : At7 w' b off t := by
  obtain ⟨h0, h1, h2, h3, h4, h5, h6⟩ := h
  exact ⟨(hc _).trans h0, (hc _).trans h1, (hc _).trans h2, (hc _).trans h3, (hc _).trans h4, (hc _).trans h5, (hc _).trans h6⟩
theorem Row7.below {w w' : World} {b off B : Nat} {ts : List (Int × Tp)} (h : Row7 w b off ts) (hB : Below B w w') (hb : b < B) : Row7 w' b off ts :=
  fun i hi => (h i hi).same fun o => hB.cell (p := ⟨b, o, none⟩) hb

set_option maxHeartbeats 1000000 in
theorem szChangeS_any (ad : Option Addr) (cap : Nat) (cs : List (Int × Tp)) (left : Int) (w : World) (hlen : cs.length ≤ maxLen) (hs : SlC w ad cs) (hf : ∀ c ∈ cs, c.2.fits) (h0 : 0 ≤ left) (h1 : left ≤ 1048576) :
    Calls Tryz.prog 23 #[.slice ad cs.length cap, .int .i64 left] w fun e w' => (∃ n : Int, e = .returned (.int .i64 n) ∧ (n = -1 ∨ 0 ≤ n ∧ n ≤ left ∧ cs.length ≤ left)) ∧ Below w.heap.size w w' := by
  unfold maxLen at hlen
  by_cases hneg : left - cs.length < 0
  · go_enter Tryz.func23, Tryz.ntmps23
    go_wp2
    go_ret
    exact ⟨⟨-1, rfl, .inl rfl⟩, Below.refl _ _⟩
  · have HS := toHA hs
    have HF := toHA hf
    clear hs hf
    go_enter Tryz.func23, Tryz.ntmps23
    go_wp2
    go_loopw [1, 5] (fun l i wr => ∃ (k : Nat) (x : Int), k ≤ cs.length ∧ i = .int .i64 k ∧ l = .int .i64 x ∧ 0 ≤ x ∧ x ≤ left ∧ Below w.heap.size w wr) (fun _ i _ => cs.length - (intOf i).toNat)
    case atStart => exact ⟨0, _, Nat.zero_le _, rfl, rfl, by omega, by omega, Below.refl _ _⟩
    case round =>
      obtain ⟨k, x, hk, rfl, rfl, hx0, hx1, hB⟩ := hrel
      by_cases hlt : k < cs.length
      · rcases HS.out.below hB with hnil | ⟨b, off, rfl, hb, hr⟩
        · rw [hnil] at hlt; simp at hlt
        obtain ⟨q0, t0, t1, t2, t3, t4, t5⟩ := hr k hlt
        obtain ⟨f0, f1, f2, f3, f4, f5⟩ := HF.out cs[k] (List.getElem_mem hlt)
        have hle := szTup_le cs[k].2.a cs[k].2.b cs[k].2.r cs[k].2.c cs[k].2.d cs[k].2.s x
        clear hr
        go_wp2_with fail
        refine (szChange_any _ _ _ _ _ _ _ _ _ f0 f1 f2 f3 f4 f5 hx0 (by omega)).mono ?_
        rintro e w1 ⟨rfl, hb1⟩
        by_cases hn : szTup cs[k].2.a cs[k].2.b cs[k].2.r cs[k].2.c cs[k].2.d cs[k].2.s x < 0
        · go_wp2
          go_ret
          exact ⟨⟨-1, rfl, .inl rfl⟩, hB.trans (hb1.mono hB.size)⟩
        · go_wp2
          go_roundw
          case rel => exact ⟨k + 1, _, by omega, by go_num, rfl, by omega, by omega, hB.trans (hb1.mono hB.size)⟩
          case measure => simp [intOf]; omega
      · go_wp2
        go_ret
        exact ⟨⟨x, rfl, .inr ⟨hx0, hx1, by omega⟩⟩, hB⟩

/-- seven cells written -/
def put7 (w : World) (g o : Nat) (c : Int × Tp) : World := put6 (w.setCell ⟨g, o, none⟩ (.int .i64 c.1)) g (o + 1) c.2
theorem put7_far (w : World) (g o : Nat) (c : Int × Tp) (j : Nat) (h : j < o ∨ o + 7 ≤ j) : (put7 w g o c).cell? ⟨g, j, none⟩ = w.cell? ⟨g, j, none⟩ := by
  unfold put7
  rw [put6_far _ _ _ _ _ (by omega), setO (by omega)]
theorem put7_at {w : World} {g o : Nat} (c : Int × Tp) (h : ∀ j, j < 7 → (w.cell? ⟨g, o + j, none⟩).isSome = true) : At7 (put7 w g o c) g o c := by
  have h0 : (put7 w g o c).cell? ⟨g, o, none⟩ = some (.int .i64 c.1) := by
    unfold put7
    rw [put6_far _ _ _ _ _ (by omega)]
    obtain ⟨u, hu⟩ := Option.isSome_iff_exists.mp (h 0 (by omega))
    exact setS hu
  obtain ⟨a0, a1, a2, a3, a4, a5⟩ := put6_at (w := w.setCell ⟨g, o, none⟩ (.int .i64 c.1)) (g := g) (o := o + 1) c.2 fun j hj => by
    rw [setO (by omega), show o + 1 + j = o + (1 + j) by omega]
    exact h (1 + j) (by omega)
  exact ⟨h0, a0, a1, a2, a3, a4, a5⟩
theorem put7_frozen (w : World) (g o : Nat) (c : Int × Tp) (x : Addr) : (put7 w g o c).frozen? x = w.frozen? x := by simp [put7, put6]
theorem put7_below {B : Nat} {w0 w : World} {g o : Nat} {c : Int × Tp} (h : Below B w0 w) (hg : B ≤ g) : Below B w0 (put7 w g o c) := put6_below (h.setCell (by exact hg) _) hg
theorem put7_size (w : World) (g o : Nat) (c : Int × Tp) : (put7 w g o c).heap.size = w.heap.size := by simp [put7, put6]

theorem infoChg : ∃ i z, Tryz.prog.info? 31 = some i ∧ i.zero = some z ∧ i.size = 7 ∧ i.bytes = 104 := by
  have h : (Tryz.prog.info? 31).map (fun i => (i.zero.isSome, i.size, i.bytes)) = some (true, 7, 104) := by kernel_rfl
  cases hi : Tryz.prog.info? 31 with
  | none => rw [hi] at h; cases h
  | some i =>
    rw [hi] at h
    simp at h
    obtain ⟨z, hz⟩ := Option.isSome_iff_exists.mp h.1
    exact ⟨i, z, rfl, hz, h.2.1, h.2.2⟩

/-- a new row of changes, the first k of which are filled in -/
structure FillC (w wr : World) (g : Nat) (ts : List (Int × Tp)) (k : Nat) : Prop where
  below : Below w.heap.size w wr
  ge : w.heap.size ≤ g
  lt : g < wr.heap.size
  done : ∀ (i : Nat) (h : i < ts.length), i < k → At7 wr g (0 + i * 7) ts[i]
  there : ∀ j, j < ts.length * 7 → (wr.cell? ⟨g, j, none⟩).isSome = true
  free : ∀ j, wr.frozen? ⟨g, j, none⟩ = false
theorem FillC.later {w wr w1 : World} {g : Nat} {ts : List (Int × Tp)} {k : Nat} (h : FillC w wr g ts k) (hb : Below wr.heap.size wr w1) : FillC w w1 g ts k where
  below := h.below.trans (hb.mono h.below.size)
  ge := h.ge
  lt := Nat.lt_of_lt_of_le h.lt hb.size
  done i hi hk := (h.done i hi hk).same fun o => hb.cell (p := ⟨g, o, none⟩) h.lt
  there j hj := by rw [hb.cell (p := ⟨g, j, none⟩) h.lt]; exact h.there j hj
  free j := by rw [hb.frozen (p := ⟨g, j, none⟩) h.lt]; exact h.free j
theorem FillC.put {w wr : World} {g : Nat} {ts : List (Int × Tp)} {k : Nat} (h : FillC w wr g ts k) (hk : k < ts.length) : FillC w (put7 wr g (k * 7) ts[k]) g ts (k + 1) where
  below := put7_below h.below h.ge
  ge := h.ge
  lt := by rw [put7_size]; exact h.lt
  done i hi hik := by
    by_cases e : i = k
    · subst e
      rw [Nat.zero_add]
      exact put7_at _ (fun j hj => h.there _ (by omega))
    · obtain ⟨a0, a1, a2, a3, a4, a5, a6⟩ := h.done i hi (by omega)
      refine ⟨?_, ?_, ?_, ?_, ?_, ?_, ?_⟩ <;> (rw [put7_far _ _ _ _ _ (by omega)]; assumption)
  there j hj := by
    by_cases hin : j < k * 7 ∨ k * 7 + 7 ≤ j
    · rw [put7_far _ _ _ _ _ hin]; exact h.there j hj
    · obtain ⟨a0, a1, a2, a3, a4, a5, a6⟩ := put7_at (w := wr) (g := g) (o := k * 7) ts[k] (fun j hj => h.there _ (by omega))
      have hj6 : j = k * 7 ∨ j = k * 7 + 1 ∨ j = k * 7 + 2 ∨ j = k * 7 + 3 ∨ j = k * 7 + 4 ∨ j = k * 7 + 5 ∨ j = k * 7 + 6 := by omega
      rcases hj6 with e | e | e | e | e | e | e
      · rw [e, a0]; rfl
      · rw [e, a1]; rfl
      · rw [e, a2]; rfl
      · rw [e, a3]; rfl
      · rw [e, a4]; rfl
      · rw [e, a5]; rfl
      · rw [e, a6]; rfl
  free j := by rw [put7_frozen]; exact h.free j
theorem fillC_made {w w0 : World} {ts : List (Int × Tp)} {base : Nat} {e : TypeId} {xs : List Value} (h : w0.ownsRow base e 7 (.slice (some ⟨w.heap.size, 0, none⟩) ts.length ts.length) ts.length xs) (hg : w.grownBy w0 none) : FillC w w0 w.heap.size ts 0 where
  below := (Below.refl _ _).grown hg (Nat.le_refl _) (fun k hk => by cases hk)
  ge := Nat.le_refl _
  lt := (h.lt w.heap.size rfl).2
  done i hi hk := absurd hk (Nat.not_lt_zero _)
  there j hj := by
    rw [h.cellAt j hj, List.getElem?_eq_getElem (by rw [h.1]; exact hj)]; rfl
  free j := h.frozenAt j
theorem FillC.sl {w w' : World} {g : Nat} {ts : List (Int × Tp)} (h : FillC w w' g ts ts.length) : SlC w' (some ⟨g, 0, none⟩) ts := .inr ⟨g, 0, rfl, h.lt, fun i hi => h.done i hi hi⟩

set_option maxHeartbeats 2000000 in
theorem toChangeS_any (ad : Option Addr) (cap : Nat) (cs : List (Int × Tp)) (w : World) (hlen : cs.length ≤ 1048576) (hs : SlC w ad cs) :
    Calls Tryz.prog 25 #[.slice ad cs.length cap] w fun e w' => e = .returned (.slice (some ⟨w.heap.size, 0, none⟩) cs.length cs.length) ∧ FillC w w' w.heap.size cs cs.length := by
  obtain ⟨inf, z, hi, hz0, hz1, hz2⟩ := infoChg
  have HS := toHA hs
  clear hs
  go_enter Tryz.func25, Tryz.ntmps25
  go_wp2_with (at_make; refine wpList_make_full _ rfl _ _ 59 rfl w.heap.size 31 inf z 7 Tryz.underlying59 hi hz0 hz1 .i64 .i64 _ _ cs.length rfl rfl rfl rfl (by rw [hz2]; omega) (by unfold maxLen; omega) (Nat.le_refl _) ?_; intro w0 hown0 hgrow0)
  have F0 : FillC w w0 w.heap.size cs 0 := fillC_made hown0 hgrow0
  clear hown0 hgrow0 hi hz0 hz1 hz2
  go_loopw [4] (fun i wr => ∃ k : Nat, k ≤ cs.length ∧ i = .int .i64 k ∧ FillC w wr w.heap.size cs k) (fun i _ => cs.length - (intOf i).toNat)
  case atStart => exact ⟨0, Nat.zero_le _, rfl, F0⟩
  case round =>
    obtain ⟨k, hk, rfl, F⟩ := hrel
    by_cases hlt : k < cs.length
    · rcases HS.out.below F.below with hnil | ⟨b, off, rfl, hb, hr⟩
      · rw [hnil] at hlt; simp at hlt
      obtain ⟨q0, t0, t1, t2, t3, t4, t5⟩ := hr k hlt
      clear hr
      go_wp2_with fail
      refine (toChange_any _ _ _ _ _ _ _ _).mono ?_
      rintro e w1 ⟨rfl, hb1⟩
      have F1 := F.later hb1
      have fz := F1.free
      obtain ⟨v0, u0⟩ := Option.isSome_iff_exists.mp (F1.there (k * 7) (by omega))
      obtain ⟨v1, u1⟩ := Option.isSome_iff_exists.mp (F1.there (k * 7 + 1) (by omega))
      obtain ⟨v2, u2⟩ := Option.isSome_iff_exists.mp (F1.there (k * 7 + 2) (by omega))
      obtain ⟨v3, u3⟩ := Option.isSome_iff_exists.mp (F1.there (k * 7 + 3) (by omega))
      obtain ⟨v4, u4⟩ := Option.isSome_iff_exists.mp (F1.there (k * 7 + 4) (by omega))
      obtain ⟨v5, u5⟩ := Option.isSome_iff_exists.mp (F1.there (k * 7 + 5) (by omega))
      obtain ⟨v6, u6⟩ := Option.isSome_iff_exists.mp (F1.there (k * 7 + 6) (by omega))
      have F2 := F1.put hlt
      clear F F0 q0 t0 t1 t2 t3 t4 t5 hb1
      go_wp2
      go_roundw
      case rel => exact ⟨k + 1, by omega, by go_num, F2⟩
      case measure => simp [intOf]; omega
    · obtain rfl : k = cs.length := by omega
      go_wp2
      go_ret
      exact ⟨rfl, F⟩

theorem eqChange_same (k : Int) (a b r c d s : ByteArray) (w : World) :
    Calls Tryz.prog 53 #[.agg #[.int .i64 k, .string a, .string b, .string r, .string c, .string d, .string s], .agg #[.int .i64 k, .string a, .string b, .string r, .string c, .string d, .string s]] w fun e w' => e = .returned (.bool true) ∧ Below w.heap.size w w' := by
  go_enter Tryz.func53, Tryz.ntmps53
  go_wp2_with fail
  refine (eqTuple_same3 _ _ _ _ _ _ _).mono ?_
  rintro e w1 ⟨rfl, hb1⟩
  have HB1 : Below w.heap.size w w1 := (((Below.refl _ _).alloc (Nat.le_refl _) _).alloc (by simp) _).trans (hb1.mono (by simp; omega))
  clear hb1
  go_wp2
  go_ret
  exact ⟨rfl, HB1⟩
end Go.Proofs.YtpnjoniolfmbnaaGreatDoor
