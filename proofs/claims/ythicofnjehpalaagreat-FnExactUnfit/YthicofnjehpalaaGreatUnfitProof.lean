/- Proved here: FnExactUnfit answers true for every slice of types and every slice of tuples and leaves them as they were, with no condition on them. -/
import Derived.Test.YthicofnjehpalaaGreatToSchema
import Derived.Test.YthicofnjehpalaaGreatRows
import Derived.OpenShut
import Derived.ShutString
import Derived.ChangeOld
import Derived.Lib.SmallJoins
import Derived.Test.YthicofnjehpalaaGreatJ14
import Derived.Deep.Slices
import Derived.Test.YthicofnjehpalaaGreatUnfit
import Derived.Test.YthicofnjehpalaaGreatJ21
import Derived.Test.YthicofnjehpalaaGreatJ15
namespace Go.Proofs.YthicofnjehpalaaGreat
open Go.ChangeShapes Go.WideShapes Go.ChangeAt Go.RowKit
open Pl

set_option maxHeartbeats 1000000 in
theorem eqRelation_same (r r' : RR) (w : World) (he : r'.p = r.p) (hr : r.ok w) (hr' : r'.ok w) (hl : r.light) :
    Calls Tryz.prog 70 #[r.val, r'.val] w fun e w' => e = .returned (.bool true) ∧ Below w.heap.size w w' := by
  obtain ⟨name, rows, ad, cap⟩ := r
  obtain ⟨name', rows', ad', cap'⟩ := r'
  simp only [RR.p, Rl.mk.injEq] at he
  obtain ⟨rfl, he⟩ := he
  obtain ⟨l1, l2⟩ := hl
  have HO : Hid (SlE w ad rows) := hr
  have HO' : Hid (SlE w ad' rows') := hr'
  have HL : Hid (∀ q ∈ rows, q.e.light) := l2
  have HE : Hid (exs rows' = exs rows) := he
  simp only at l1
  simp only [RR.val]
  clear hr hr' l2 he
  have HB : Hid (Below w.heap.size w ((w.alloc (.cells #[.string name', .slice ad rows.length cap] 69)).alloc (.cells #[.string name', .slice ad' rows'.length cap'] 69))) := ((Below.refl w.heap.size w).alloc (Nat.le_refl _) _).alloc (by simp) _
  go_enter Tryz.func70, Tryz.ntmps70
  go_wp2_with fail
  refine (eqExprS_same ad ad' cap cap' rows rows' _ l1 HE.out (SlE.below HO.out HB.out) (SlE.below HO'.out HB.out) HL.out).mono ?_
  rintro e w1 ⟨rfl, hb1⟩
  have HB1 : Hid (Below w.heap.size w w1) := HB.out.trans (hb1.mono HB.out.size)
  clear hb1 HB
  go_wp2
  go_ret
  exact ⟨rfl, HB1.out⟩

theorem keepRR {wr W w' : World} {b b' o o' : Nat} {x0 x1 y0 y1 : Value} (h : W.cell? ⟨b, o, none⟩ = some x0 ∧ W.cell? ⟨b, o + 1, none⟩ = some x1 ∧ W.cell? ⟨b', o', none⟩ = some y0 ∧ W.cell? ⟨b', o' + 1, none⟩ = some y1 ∧ b < W.heap.size ∧ b' < W.heap.size ∧ Below wr.heap.size wr W) (hb : Below W.heap.size W w') :
    w'.cell? ⟨b, o, none⟩ = some x0 ∧ w'.cell? ⟨b, o + 1, none⟩ = some x1 ∧ w'.cell? ⟨b', o', none⟩ = some y0 ∧ w'.cell? ⟨b', o' + 1, none⟩ = some y1 ∧ b < w'.heap.size ∧ b' < w'.heap.size ∧ Below wr.heap.size wr w' := keep4 h hb
theorem keepBRR {wr W : World} {b b' o o' : Nat} {x0 x1 y0 y1 : Value} (h : W.cell? ⟨b, o, none⟩ = some x0 ∧ W.cell? ⟨b, o + 1, none⟩ = some x1 ∧ W.cell? ⟨b', o', none⟩ = some y0 ∧ W.cell? ⟨b', o' + 1, none⟩ = some y1 ∧ b < W.heap.size ∧ b' < W.heap.size ∧ Below wr.heap.size wr W) : Below wr.heap.size wr W := h.2.2.2.2.2.2

set_option maxHeartbeats 2000000 in
theorem eqRelationS_same (ad ad' : Option Addr) (cap cap' : Nat) (rs rs' : List RR) (w : World) (hlen : rs.length ≤ 1048576) (he : rls rs' = rls rs) (hs : SlR w ad rs) (hs' : SlR w ad' rs') (hl : ∀ r ∈ rs, r.light) :
    Calls Tryz.prog 47 #[.slice ad rs.length cap, .slice ad' rs'.length cap'] w fun e w' => e = .returned (.bool true) ∧ Below w.heap.size w w' := by
  have hll : rs'.length = rs.length := by rw [← rls_len, he, rls_len]
  have HSL : Hid (SlR w ad rs) := hs
  have HSM : Hid (SlR w ad' rs') := hs'
  have HLI : Hid (∀ r ∈ rs, r.light) := hl
  have HEE : Hid (rls rs' = rls rs) := he
  have HLL : Hid (rs'.length = rs.length) := hll
  rw [hll]
  clear hs hs' hl he hll
  go_enter Tryz.func47, Tryz.ntmps47
  go_wp2
  go_loopw [5] (fun i wr => ∃ k : Nat, k ≤ rs.length ∧ i = .int .i64 k ∧ Below w.heap.size w wr) (fun i _ => rs.length - (intOf i).toNat)
  case atStart => exact ⟨0, Nat.zero_le _, rfl, Below.refl _ _⟩
  case round =>
    obtain ⟨k, hk, rfl, hB⟩ := hrel
    by_cases hlt : k < rs.length
    · have hlt' : k < rs'.length := by rw [HLL.out]; exact hlt
      rcases HSL.out.below hB with rfl | ⟨b, off, rfl, hb, hr, hok⟩
      · simp at hlt
      rcases HSM.out.below hB with rfl | ⟨b', off', rfl, hb', hr', hok'⟩
      · simp at hlt'
      obtain ⟨t0, t1⟩ := hr k hlt
      obtain ⟨q0, q1⟩ := hr' k hlt'
      have HK1 : Hid (rs[k].ok wr) := hok rs[k] (List.getElem_mem hlt)
      have HK2 : Hid (rs'[k].ok wr) := hok' rs'[k] (List.getElem_mem hlt')
      have HK3 : Hid (rs'[k].p = rs[k].p) := by
        have h1 : (rls rs')[k]? = (rls rs)[k]? := by rw [HEE.out]
        show _ = _
        simpa [rls, hlt, hlt'] using h1
      have HK4 : Hid (rs[k].light) := HLI.out rs[k] (List.getElem_mem hlt)
      have hk1 : (0 : Int) ≤ (k : Int) := by omega
      have hk2 : (k : Int) < (rs.length : Int) := by omega
      clear hr hr' hok hok'
      go_wp2_with fail
      go_region_held3 (fun w' => w'.cell? ⟨b, off + k * 2, none⟩ = some (.string rs[k].name) ∧ w'.cell? ⟨b, off + k * 2 + 1, none⟩ = some (.slice rs[k].ad rs[k].rows.length rs[k].cap) ∧ w'.cell? ⟨b', off' + k * 2, none⟩ = some (.string rs'[k].name) ∧ w'.cell? ⟨b', off' + k * 2 + 1, none⟩ = some (.slice rs'[k].ad rs'[k].rows.length rs'[k].cap) ∧ b < w'.heap.size ∧ b' < w'.heap.size ∧ Below wr.heap.size wr w')
        (first | assumption | exact keepRR (by assumption) hbx | exact ⟨t0, t1, q0, q1, hb, hb', (Below.refl _ _).drew⟩)
        (first | (go_at_call 70; refine (eqRelation_same rs[k] rs'[k] _ HK3.out (HK1.out.below (keepBRR (by assumption))) (HK2.out.below (keepBRR (by assumption))) HK4.out).mono ?_; rintro e w' ⟨rfl, hbx⟩))
      rename_i hH
      obtain ⟨-, -, -, -, -, -, gB⟩ := hH
      clear t0 t1 q0 q1 hb hb'
      go_wp2
      go_roundw
      case rel => exact ⟨k + 1, by omega, by go_num, hB.trans (gB.mono hB.size)⟩
      case measure => simp [intOf]; omega
    · go_wp2
      go_ret
      exact ⟨rfl, hB⟩

set_option maxHeartbeats 1000000 in
theorem eqType_same (r r' : TR) (w : World) (he : r'.p = r.p) (hr : r.ok w) (hr' : r'.ok w) (hl : r.light) :
    Calls Tryz.prog 27 #[r.val, r'.val] w fun e w' => e = .returned (.bool true) ∧ Below w.heap.size w w' := by
  obtain ⟨name, rows, ad, cap⟩ := r
  obtain ⟨name', rows', ad', cap'⟩ := r'
  simp only [TR.p, Ty.mk.injEq] at he
  obtain ⟨rfl, he⟩ := he
  obtain ⟨l1, l2⟩ := hl
  have HO : Hid (SlR w ad rows) := hr
  have HO' : Hid (SlR w ad' rows') := hr'
  have HL : Hid (∀ q ∈ rows, q.light) := l2
  have HE : Hid (rls rows' = rls rows) := he
  simp only at l1
  simp only [TR.val]
  clear hr hr' l2 he
  have HB : Hid (Below w.heap.size w ((w.alloc (.cells #[.string name', .slice ad rows.length cap] 53)).alloc (.cells #[.string name', .slice ad' rows'.length cap'] 53))) := ((Below.refl w.heap.size w).alloc (Nat.le_refl _) _).alloc (by simp) _
  go_enter Tryz.func27, Tryz.ntmps27
  go_wp2_with fail
  refine (eqRelationS_same ad ad' cap cap' rows rows' _ l1 HE.out (SlR.below HO.out HB.out) (SlR.below HO'.out HB.out) HL.out).mono ?_
  rintro e w1 ⟨rfl, hb1⟩
  have HB1 : Hid (Below w.heap.size w w1) := HB.out.trans (hb1.mono HB.out.size)
  clear hb1 HB
  go_wp2
  go_ret
  exact ⟨rfl, HB1.out⟩

theorem keepTR {wr W w' : World} {b b' o o' : Nat} {x0 x1 y0 y1 : Value} (h : W.cell? ⟨b, o, none⟩ = some x0 ∧ W.cell? ⟨b, o + 1, none⟩ = some x1 ∧ W.cell? ⟨b', o', none⟩ = some y0 ∧ W.cell? ⟨b', o' + 1, none⟩ = some y1 ∧ b < W.heap.size ∧ b' < W.heap.size ∧ Below wr.heap.size wr W) (hb : Below W.heap.size W w') :
    w'.cell? ⟨b, o, none⟩ = some x0 ∧ w'.cell? ⟨b, o + 1, none⟩ = some x1 ∧ w'.cell? ⟨b', o', none⟩ = some y0 ∧ w'.cell? ⟨b', o' + 1, none⟩ = some y1 ∧ b < w'.heap.size ∧ b' < w'.heap.size ∧ Below wr.heap.size wr w' := keep4 h hb
theorem keepBTR {wr W : World} {b b' o o' : Nat} {x0 x1 y0 y1 : Value} (h : W.cell? ⟨b, o, none⟩ = some x0 ∧ W.cell? ⟨b, o + 1, none⟩ = some x1 ∧ W.cell? ⟨b', o', none⟩ = some y0 ∧ W.cell? ⟨b', o' + 1, none⟩ = some y1 ∧ b < W.heap.size ∧ b' < W.heap.size ∧ Below wr.heap.size wr W) : Below wr.heap.size wr W := h.2.2.2.2.2.2

set_option maxHeartbeats 2000000 in
theorem eqTypeS_same (ad ad' : Option Addr) (cap cap' : Nat) (rs rs' : List TR) (w : World) (hlen : rs.length ≤ 1048576) (he : tys rs' = tys rs) (hs : SlT w ad rs) (hs' : SlT w ad' rs') (hl : ∀ r ∈ rs, r.light) :
    Calls Tryz.prog 11 #[.slice ad rs.length cap, .slice ad' rs'.length cap'] w fun e w' => e = .returned (.bool true) ∧ Below w.heap.size w w' := by
  have hll : rs'.length = rs.length := by rw [← tys_len, he, tys_len]
  have HSL : Hid (SlT w ad rs) := hs
  have HSM : Hid (SlT w ad' rs') := hs'
  have HLI : Hid (∀ r ∈ rs, r.light) := hl
  have HEE : Hid (tys rs' = tys rs) := he
  have HLL : Hid (rs'.length = rs.length) := hll
  rw [hll]
  clear hs hs' hl he hll
  go_enter Tryz.func11, Tryz.ntmps11
  go_wp2
  go_loopw [5] (fun i wr => ∃ k : Nat, k ≤ rs.length ∧ i = .int .i64 k ∧ Below w.heap.size w wr) (fun i _ => rs.length - (intOf i).toNat)
  case atStart => exact ⟨0, Nat.zero_le _, rfl, Below.refl _ _⟩
  case round =>
    obtain ⟨k, hk, rfl, hB⟩ := hrel
    by_cases hlt : k < rs.length
    · have hlt' : k < rs'.length := by rw [HLL.out]; exact hlt
      rcases HSL.out.below hB with rfl | ⟨b, off, rfl, hb, hr, hok⟩
      · simp at hlt
      rcases HSM.out.below hB with rfl | ⟨b', off', rfl, hb', hr', hok'⟩
      · simp at hlt'
      obtain ⟨t0, t1⟩ := hr k hlt
      obtain ⟨q0, q1⟩ := hr' k hlt'
      have HK1 : Hid (rs[k].ok wr) := hok rs[k] (List.getElem_mem hlt)
      have HK2 : Hid (rs'[k].ok wr) := hok' rs'[k] (List.getElem_mem hlt')
      have HK3 : Hid (rs'[k].p = rs[k].p) := by
        have h1 : (tys rs')[k]? = (tys rs)[k]? := by rw [HEE.out]
        show _ = _
        simpa [tys, hlt, hlt'] using h1
      have HK4 : Hid (rs[k].light) := HLI.out rs[k] (List.getElem_mem hlt)
      have hk1 : (0 : Int) ≤ (k : Int) := by omega
      have hk2 : (k : Int) < (rs.length : Int) := by omega
      clear hr hr' hok hok'
      go_wp2_with fail
      go_region_held3 (fun w' => w'.cell? ⟨b, off + k * 2, none⟩ = some (.string rs[k].name) ∧ w'.cell? ⟨b, off + k * 2 + 1, none⟩ = some (.slice rs[k].ad rs[k].rows.length rs[k].cap) ∧ w'.cell? ⟨b', off' + k * 2, none⟩ = some (.string rs'[k].name) ∧ w'.cell? ⟨b', off' + k * 2 + 1, none⟩ = some (.slice rs'[k].ad rs'[k].rows.length rs'[k].cap) ∧ b < w'.heap.size ∧ b' < w'.heap.size ∧ Below wr.heap.size wr w')
        (first | assumption | exact keepTR (by assumption) hbx | exact ⟨t0, t1, q0, q1, hb, hb', (Below.refl _ _).drew⟩)
        (first | (go_at_call 27; refine (eqType_same rs[k] rs'[k] _ HK3.out (HK1.out.below (keepBTR (by assumption))) (HK2.out.below (keepBTR (by assumption))) HK4.out).mono ?_; rintro e w' ⟨rfl, hbx⟩))
      rename_i hH
      obtain ⟨-, -, -, -, -, -, gB⟩ := hH
      clear t0 t1 q0 q1 hb hb'
      go_wp2
      go_roundw
      case rel => exact ⟨k + 1, by omega, by go_num, hB.trans (gB.mono hB.size)⟩
      case measure => simp [intOf]; omega
    · go_wp2
      go_ret
      exact ⟨rfl, hB⟩

end Go.Proofs.YthicofnjehpalaaGreat

/- What the cells of an object and of a tuple hold, when they can be read: strings that fit. -/
namespace Go.Proofs.YthicofnjehpalaaGreat
open Go.ChangeShapes Go.WideShapes Go.ChangeAt Go.RowKit Go.Joins

theorem list2 {α : Type} {l : List α} (h : l.length = 2) : ∃ a b, l = [a, b] := by
  match l, h with
  | [a, b], _ => exact ⟨a, b, rfl⟩
theorem list6 {α : Type} {l : List α} (h : l.length = 6) : ∃ a b c d e f, l = [a, b, c, d, e, f] := by
  match l, h with
  | [a, b, c, d, e, f], _ => exact ⟨a, b, c, d, e, f, rfl⟩

theorem cellsObj : Tryz.prog.cellsOf 42 = 2 := by kernel_rfl
theorem cellsTup : Tryz.prog.cellsOf 44 = 6 := by kernel_rfl
theorem cellsStr : Tryz.prog.cellsOf 9 = 1 := by kernel_rfl

theorem read_obj {H : Type} {enc : TypeId × Value → H} {w : World} {base : Nat} {sp : Nat → Bool} {held : Bool} {fuel : Nat} {cs : List Value} {x : DataW H × List MemPlace}
    (h : DataW.trod enc Tryz.prog w base sp held fuel 42 cs = some x) : ∃ a b : ByteArray, cs = [.string a, .string b] ∧ a.size ≤ maxLen ∧ b.size ≤ maxLen := by
  obtain ⟨y0, y1, n, -, hl, h0, h1⟩ := trod_struct2 Tryz.underlying42 h
  rw [cellsObj] at hl
  obtain ⟨c0, c1, rfl⟩ := list2 hl
  simp only [cellsStr, List.drop_zero, List.drop_succ_cons, List.take_succ_cons, List.take_zero] at h0 h1
  obtain ⟨a, e0, -, wa⟩ := DataW.trod_string Tryz.underlying9 h0
  obtain ⟨b, e1, -, wb⟩ := DataW.trod_string Tryz.underlying9 h1
  simp at e0 e1
  subst e0 e1
  exact ⟨a, b, rfl, wa, wb⟩

theorem read_tup {H : Type} {enc : TypeId × Value → H} {w : World} {base : Nat} {sp : Nat → Bool} {held : Bool} {fuel : Nat} {cs : List Value} {x : DataW H × List MemPlace}
    (h : DataW.trod enc Tryz.prog w base sp held fuel 44 cs = some x) : ∃ a b r c d s : ByteArray, cs = [.string a, .string b, .string r, .string c, .string d, .string s] ∧
      a.size ≤ maxLen ∧ b.size ≤ maxLen ∧ r.size ≤ maxLen ∧ c.size ≤ maxLen ∧ d.size ≤ maxLen ∧ s.size ≤ maxLen := by
  obtain ⟨y0, y1, y2, y3, n, -, hl, h0, h1, h2, h3⟩ := trod_struct4 Tryz.underlying44 h
  rw [cellsTup] at hl
  obtain ⟨c0, c1, c2, c3, c4, c5, rfl⟩ := list6 hl
  simp only [cellsStr, cellsObj, List.drop_zero, List.drop_succ_cons, List.take_succ_cons, List.take_zero] at h0 h1 h2 h3
  obtain ⟨a, b, e0, wa, wb⟩ := read_obj h0
  obtain ⟨r, e1, -, wr⟩ := DataW.trod_string Tryz.underlying9 h1
  obtain ⟨c, d, e2, wc, wd⟩ := read_obj h2
  obtain ⟨s, e3, -, ws⟩ := DataW.trod_string Tryz.underlying9 h3
  simp at e0 e1 e2 e3
  obtain ⟨rfl, rfl⟩ := e0
  obtain ⟨rfl, rfl⟩ := e2
  subst e1 e3
  exact ⟨a, b, r, c, d, s, rfl, wa, wb, wr, wc, wd, ws⟩

end Go.Proofs.YthicofnjehpalaaGreat

/- What a slice of tuples that can be read leads to: a row of tuples that fit. -/
namespace Go.Proofs.YthicofnjehpalaaGreat
open Go.ChangeShapes Go.WideShapes Go.ChangeAt Go.RowKit Go.Joins Go.Deep

theorem add_noneT (b off x : Nat) : (⟨b, off, none⟩ : Addr).add x = ⟨b, off + x, none⟩ := by
  unfold Addr.add
  by_cases h : x = 0
  · subst h; simp
  · simp [h]

theorem open_tups {H : Type} {enc : TypeId × Value → H} {W : World} {base : Nat} {sp : Nat → Bool} {held : Bool} {fuel : Nat} {ad : Option Addr} {len cap : Nat} {x : DataW H × List MemPlace}
    (h : DataW.trod enc Tryz.prog W base sp held fuel 23 [.slice ad len cap] = some x) : ∃ ts : List Tp, ts.length = len ∧ Sl W ad ts ∧ (∀ t ∈ ts, t.fits) ∧ len ≤ maxLen := by
  rcases open_slice Tryz.underlying23 h with ⟨hcs, -⟩ | ⟨a, l, c, m, n, D, Pl, hcs, -, hlc, hcm, hm, -, hel⟩
  · simp at hcs
    obtain ⟨rfl, rfl, rfl⟩ := hcs
    exact ⟨[], rfl, .inl rfl, (fun t ht => by cases ht), by unfold maxLen; omega⟩
  · simp at hcs
    obtain ⟨rfl, rfl, rfl⟩ := hcs
    have hle : len ≤ m := by rw [hm]; split <;> omega
    by_cases h0 : len = 0
    · subst h0
      exact ⟨[], rfl, .inl rfl, (fun t ht => by cases ht), by omega⟩
    have key : ∀ i, i < len → ∃ t : Tp, (∀ j, j < 6 → W.cell? ((a.add (i * 6)).add j) = [Value.string t.a, .string t.b, .string t.r, .string t.c, .string t.d, .string t.s][j]?) ∧ t.fits := by
      intro i hi
      obtain ⟨cs', hc, hd⟩ := hel i (by omega)
      rw [cellsTup] at hc
      obtain ⟨ta, tb, tr, tc, td, ts, rfl, hh⟩ := read_tup hd
      exact ⟨⟨ta, tb, tr, tc, td, ts⟩, fun j hj => (World.cells?_some hc).2.2 j hj, hh⟩
    have hspot : a.spot = none := by
      obtain ⟨t, ht, -⟩ := key 0 (by omega)
      have := ht 0 (by omega)
      have e : (a.add (0 * 6)).add 0 = a := by simp [Addr.add]
      rw [e] at this
      exact World.cell?_spot this
    obtain ⟨b, off, spot⟩ := a
    simp only at hspot
    subst hspot
    obtain ⟨f, hf⟩ := @choose_lt Tp ⟨⟨⟨#[]⟩, ⟨#[]⟩, ⟨#[]⟩, ⟨#[]⟩, ⟨#[]⟩, ⟨#[]⟩⟩⟩ len _ key
    have at6 : ∀ i, i < len → At6 W b (off + i * 6) (f i) := by
      intro i hi
      obtain ⟨hc, -⟩ := hf i hi
      simp only [add_noneT] at hc
      exact ⟨hc 0 (by omega), hc 1 (by omega), hc 2 (by omega), hc 3 (by omega), hc 4 (by omega), hc 5 (by omega)⟩
    refine ⟨(List.range len).map f, by simp, .inr ⟨b, off, rfl, ?_, ?_⟩, ?_, by omega⟩
    · exact World.block_lt_of_cell? W ⟨b, off + 0 * 6, none⟩ (at6 0 (by omega)).1
    · intro i hi
      have hi' : i < len := by simpa using hi
      simpa using at6 i hi'
    · intro t ht
      simp only [List.mem_map, List.mem_range] at ht
      obtain ⟨i, hi, rfl⟩ := ht
      exact (hf i hi).2

end Go.Proofs.YthicofnjehpalaaGreat
namespace Go.Proofs.YthicofnjehpalaaGreat.fnExactUnfit
open Go.ChangeShapes Go.WideShapes Go.ChangeAt Go.RowKit Go.Joins
open Go.ChangeMaps (open_string shut_string)
open Pl
set_option linter.unusedVariables false

theorem exsP {rs rs' : List ER} {p : Ex → Prop} (h : exs rs' = exs rs) (hp : ∀ r ∈ rs, p r.e) : ∀ r ∈ rs', p r.e := by
  intro r hr
  have h1 : r.e ∈ exs rs' := List.mem_map.2 ⟨r, hr, rfl⟩
  rw [h] at h1
  obtain ⟨q, hq, e⟩ := List.mem_map.1 h1
  rw [← e]
  exact hp q hq
theorem rlsP {rs rs' : List RR} (h : rls rs' = rls rs) : ∀ r ∈ rs', ∃ q ∈ rs, q.name = r.name ∧ exs r.rows = exs q.rows := by
  intro r hr
  have h1 : r.p ∈ rls rs' := List.mem_map.2 ⟨r, hr, rfl⟩
  rw [h] at h1
  obtain ⟨q, hq, e⟩ := List.mem_map.1 h1
  injection e with e1 e2
  exact ⟨q, hq, e1, e2.symm⟩
theorem tysP {rs rs' : List TR} (h : tys rs' = tys rs) : ∀ r ∈ rs', ∃ q ∈ rs, q.name = r.name ∧ rls r.rows = rls q.rows := by
  intro r hr
  have h1 : r.p ∈ tys rs' := List.mem_map.2 ⟨r, hr, rfl⟩
  rw [h] at h1
  obtain ⟨q, hq, e⟩ := List.mem_map.1 h1
  injection e with e1 e2
  exact ⟨q, hq, e1, e2.symm⟩
theorem lightP {rs rs' : List TR} (h : tys rs' = tys rs) (hl : ∀ r ∈ rs, r.light) : ∀ r ∈ rs', r.light := by
  intro r hr
  obtain ⟨q, hq, -, e⟩ := tysP h r hr
  have h1 := hl q hq
  refine ⟨by rw [← rls_len, e, rls_len]; exact h1.1, fun x hx => ?_⟩
  obtain ⟨y, hy, -, e2⟩ := rlsP e x hx
  have h2 := h1.2 y hy
  exact ⟨by rw [← exs_len, e2, exs_len]; exact h2.1, exsP e2 h2.2⟩
theorem fitsP {rs rs' : List TR} (h : tys rs' = tys rs) (hl : ∀ r ∈ rs, r.fits) : ∀ r ∈ rs', r.fits := by
  intro r hr
  obtain ⟨q, hq, en, e⟩ := tysP h r hr
  have h1 := hl q hq
  refine ⟨by rw [← en]; exact h1.1, by rw [← rls_len, e, rls_len]; exact h1.2.1, fun x hx => ?_⟩
  obtain ⟨y, hy, en2, e2⟩ := rlsP e x hx
  have h2 := h1.2.2 y hy
  exact ⟨by rw [← en2]; exact h2.1, by rw [← exs_len, e2, exs_len]; exact h2.2.1, exsP e2 h2.2.2⟩
theorem lenP {rs rs' : List TR} (h : tys rs' = tys rs) : rs'.length = rs.length := by rw [← tys_len, h, tys_len]
theorem keepB {w W w' : World} {B : Nat} (h : Below B w W) (hB : B ≤ W.heap.size) (hb : Below W.heap.size W w') : Below B w w' := h.trans (hb.mono hB)

set_option maxRecDepth 100000 in
set_option maxHeartbeats 8000000 in
theorem walk (ad : Option Addr) (cap : Nat) (rs : List TR) (ad' : Option Addr) (cap' : Nat) (ts : List Tp) (w : World) (hmr : rs.length ≤ maxLen) (hs : SlT w ad rs) (hf : ∀ r ∈ rs, r.fits) (hm : ts.length ≤ maxLen) (hst : Sl w ad' ts) (hft : ∀ x ∈ ts, x.fits) :
    Calls Tryz.prog 3 #[.slice ad rs.length cap, .slice ad' ts.length cap'] w fun e w' => e = .returned (.bool true) ∧ Below w.heap.size w w' := by
  have HS := HID hs
  have HF := HID hf
  have HST := HID hst
  have HFT := HID hft
  clear hs hf hst hft
  go_enter Tryz.func3, Tryz.ntmps3
  go_wp2_with fail
  refine (szTypeS_w ad cap rs 1048576 _ hmr HS.out HF.out (by omega) (by omega)).mono ?_
  rintro e w1 ⟨⟨n, rfl, hn⟩, hb1⟩
  have HB1 := HID hb1
  clear hb1
  rcases hn with rfl | ⟨hn0, hn1, hn2, hn3⟩
  · go_wp2
    go_ret
    exact ⟨rfl, HB1.out⟩
  have HL := HID hn3
  have hlen : rs.length ≤ 1048576 := by omega
  have HWT : Hid (1 + wT rs ≤ 20000000) := by have := wT_sT rs; show _ ≤ _; omega
  clear hn3 hn2
  go_wp2_with fail
  refine (szTupleS_any ad' cap' ts n _ hm (HST.out.below HB1.out) HFT.out (by omega) (by omega)).mono ?_
  rintro e w2 ⟨⟨m, rfl, hq⟩, hb2⟩
  have HB2 : Hid (Below w.heap.size w w2) := keepB HB1.out HB1.out.size hb2
  clear hb2 HB1
  rcases hq with rfl | ⟨hq0, hq1, hq2⟩
  · go_wp2
    go_ret
    exact ⟨rfl, HB2.out⟩
  have hlt : ts.length ≤ 1048576 := by omega
  clear hq2 hq1 hn1
  obtain ⟨L, hL⟩ : ∃ L, unfL (tys rs) ts = L := ⟨_, rfl⟩
  have HLL := HID hL
  have hl2 : L.length ≤ 1048576 := by rw [← hL]; exact unfL_len _ hlt
  have hll : L.length ≤ maxLen := by unfold maxLen; omega
  clear hL
  go_wp2_with fail
  refine (toTypeS_any ad cap rs _ hlen (HS.out.below HB2.out) HL.out).mono ?_
  rintro e w3 ⟨rs1, rfl, he1, hs1, hc1, hnw1, hb3⟩
  have HE1 := HID he1
  have HS1 := HID hs1
  have HB3 : Hid (Below w.heap.size w w3) := keepB HB2.out HB2.out.size hb3
  clear he1 hs1 hc1 hnw1 hb3 HB2
  go_wp2_with fail
  refine (toTupleS_any ad' cap' ts _ hlt (HST.out.below HB3.out)).mono ?_
  rintro e w4 ⟨rfl, F4⟩
  have HF4 := HID F4
  have HB4 : Hid (Below w.heap.size w w4) := keepB HB3.out HB3.out.size F4.below
  clear F4 HB3
  go_wp2_with fail
  refine (specUnfit_any _ _ _ _ rs1 ts _ (by rw [lenP HE1.out]; exact hlen) (HS1.out.below HF4.out.below) (lightP HE1.out HL.out) (fitsP HE1.out HF.out) hlt HF4.out.sl HFT.out).mono ?_
  rintro e w5 ⟨ad5, cap5, he5, hs5, hb5⟩
  rw [HE1.out, HLL.out] at he5 hs5
  subst he5
  have HB5 : Hid (Below w.heap.size w w5) := keepB HB4.out HB4.out.size hb5
  have HL5 := HID hs5
  clear hb5 hs5 HB4 HF4 HS1 HE1
  have s5 : w.heap.size ≤ w5.heap.size := HB5.out.size
  have Cw_w5 : Hid (Below w.heap.size w w5) := HB5
  have Cw5_w5 : Hid (Below w5.heap.size w5 w5) := Below.refl _ _
  go_wp2_with fail
  refine (toTypeS_o ad cap rs _ hlen (HS.out.below Cw_w5.out) HL.out).mono ?_
  rintro e w6 ⟨rs2, rfl, he2, hs2, hc2, hnw2, ho2, hf2, hlx2, hb6⟩
  have HE2 := HID he2
  have HS2 := HID hs2
  have HC2 := HID hc2
  have HO2 := HID ho2
  have HF2 := HID hf2
  have HL2 := HID hlx2
  have HSZ : Hid (∀ g, insT w5.heap.size rs2 g → w5.heap.size ≤ g ∧ g < w6.heap.size) := by
    rintro g (rfl | ⟨q, hq, h2⟩)
    · exact ⟨Nat.le_refl _, HL2.out⟩
    · have := HO2.out.2 q hq g h2; omega
  have Cw_w6 : Hid (Below w.heap.size w w6) := keepB Cw_w5.out Cw_w5.out.size hb6
  have Cw5_w6 : Hid (Below w5.heap.size w5 w6) := keepB Cw5_w5.out Cw5_w5.out.size hb6
  clear Cw_w5
  clear hb6 he2 hs2 hc2 ho2 hf2 hlx2 hnw2
  have Cw6_w6 : Hid (Below w6.heap.size w6 w6) := Below.refl _ _
  go_wp2_with fail
  refine (toTupleS_any ad' cap' ts _ hlt (HST.out.below Cw_w6.out)).mono ?_
  rintro e w7 ⟨rfl, F7⟩
  have HF7 := HID F7
  have Cw_w7 : Hid (Below w.heap.size w w7) := keepB Cw_w6.out Cw_w6.out.size F7.below
  have Cw5_w7 : Hid (Below w5.heap.size w5 w7) := keepB Cw5_w6.out Cw5_w6.out.size F7.below
  have Cw6_w7 : Hid (Below w6.heap.size w6 w7) := keepB Cw6_w6.out Cw6_w6.out.size F7.below
  clear Cw_w6
  clear F7
  have Cw7_w7 : Hid (Below w7.heap.size w7 w7) := Below.refl _ _
  go_wp2_with fail
  refine (implUnfit_any _ _ _ _ rs2 ts _ (by rw [lenP HE2.out]; exact hlen) (HS2.out.below Cw6_w7.out) (lightP HE2.out HL.out) (fitsP HE2.out HF.out) HC2.out hlt HF7.out.sl HFT.out).mono ?_
  rintro e w8 ⟨ad8, cap8, he8, hO8, hb8⟩
  rw [HE2.out, HLL.out] at he8 hO8
  subst he8
  have HO8 := HID hO8
  have Cw_w8 : Hid (Below w.heap.size w w8) := keepB Cw_w7.out Cw_w7.out.size hb8
  have Cw5_w8 : Hid (Below w5.heap.size w5 w8) := keepB Cw5_w7.out Cw5_w7.out.size hb8
  have Cw6_w8 : Hid (Below w6.heap.size w6 w8) := keepB Cw6_w7.out Cw6_w7.out.size hb8
  have Cw7_w8 : Hid (Below w7.heap.size w7 w8) := keepB Cw7_w7.out Cw7_w7.out.size hb8
  clear Cw_w7
  clear hb8 hO8
  have Cw8_w8 : Hid (Below w8.heap.size w8 w8) := Below.refl _ _
  go_wp2_with fail
  refine (eqTupleS_any ad8 ad5 cap8 cap5 L _ hll HO8.out.1 (HL5.out.below Cw5_w8.out)).mono ?_
  rintro e w9 ⟨rfl, hb9⟩
  have Cw_w9 : Hid (Below w.heap.size w w9) := keepB Cw_w8.out Cw_w8.out.size hb9
  have Cw5_w9 : Hid (Below w5.heap.size w5 w9) := keepB Cw5_w8.out Cw5_w8.out.size hb9
  have Cw6_w9 : Hid (Below w6.heap.size w6 w9) := keepB Cw6_w8.out Cw6_w8.out.size hb9
  have Cw7_w9 : Hid (Below w7.heap.size w7 w9) := keepB Cw7_w8.out Cw7_w8.out.size hb9
  have Cw8_w9 : Hid (Below w8.heap.size w8 w9) := keepB Cw8_w8.out Cw8_w8.out.size hb9
  clear Cw_w8
  clear hb9
  go_wp2_with fail
  refine (toTypeS_any ad cap rs _ hlen (HS.out.below Cw_w9.out) HL.out).mono ?_
  rintro e w10 ⟨rs3, rfl, he3, hs3, -, -, hb10⟩
  have Cw_w10 : Hid (Below w.heap.size w w10) := keepB Cw_w9.out Cw_w9.out.size hb10
  have Cw5_w10 : Hid (Below w5.heap.size w5 w10) := keepB Cw5_w9.out Cw5_w9.out.size hb10
  have Cw6_w10 : Hid (Below w6.heap.size w6 w10) := keepB Cw6_w9.out Cw6_w9.out.size hb10
  have Cw7_w10 : Hid (Below w7.heap.size w7 w10) := keepB Cw7_w9.out Cw7_w9.out.size hb10
  have Cw8_w10 : Hid (Below w8.heap.size w8 w10) := keepB Cw8_w9.out Cw8_w9.out.size hb10
  clear Cw_w9 Cw5_w9 Cw6_w9 Cw7_w9 Cw8_w9
  have HE3 := HID he3
  have HS3 := HID hs3
  clear hb10 he3 hs3
  go_wp2_with fail
  refine (eqTypeS_same _ _ _ _ rs2 rs3 _ (by rw [lenP HE2.out]; exact hlen) (by rw [HE3.out, HE2.out]) (HS2.out.below Cw6_w10.out) HS3.out (lightP HE2.out HL.out)).mono ?_
  rintro e w11 ⟨rfl, hb11⟩
  have Cw_w11 : Hid (Below w.heap.size w w11) := keepB Cw_w10.out Cw_w10.out.size hb11
  have Cw5_w11 : Hid (Below w5.heap.size w5 w11) := keepB Cw5_w10.out Cw5_w10.out.size hb11
  have Cw6_w11 : Hid (Below w6.heap.size w6 w11) := keepB Cw6_w10.out Cw6_w10.out.size hb11
  have Cw7_w11 : Hid (Below w7.heap.size w7 w11) := keepB Cw7_w10.out Cw7_w10.out.size hb11
  have Cw8_w11 : Hid (Below w8.heap.size w8 w11) := keepB Cw8_w10.out Cw8_w10.out.size hb11
  clear Cw_w10 Cw5_w10 Cw6_w10 Cw7_w10 Cw8_w10
  clear hb11 HS3
  go_wp2_with fail
  refine (toTupleS_any ad' cap' ts _ hlt (HST.out.below Cw_w11.out)).mono ?_
  rintro e w12 ⟨rfl, F12⟩
  have HG12 := HID F12.sl
  have Cw_w12 : Hid (Below w.heap.size w w12) := keepB Cw_w11.out Cw_w11.out.size F12.below
  have Cw5_w12 : Hid (Below w5.heap.size w5 w12) := keepB Cw5_w11.out Cw5_w11.out.size F12.below
  have Cw6_w12 : Hid (Below w6.heap.size w6 w12) := keepB Cw6_w11.out Cw6_w11.out.size F12.below
  have Cw7_w12 : Hid (Below w7.heap.size w7 w12) := keepB Cw7_w11.out Cw7_w11.out.size F12.below
  have Cw8_w12 : Hid (Below w8.heap.size w8 w12) := keepB Cw8_w11.out Cw8_w11.out.size F12.below
  clear Cw_w11 Cw5_w11 Cw6_w11 Cw7_w11 Cw8_w11
  clear F12
  go_wp2_with fail
  refine (eqTupleS_any _ _ _ _ ts _ hm (HF7.out.later Cw7_w12.out).sl HG12.out).mono ?_
  rintro e w13 ⟨rfl, hb13⟩
  have Cw_w13 : Hid (Below w.heap.size w w13) := keepB Cw_w12.out Cw_w12.out.size hb13
  have Cw5_w13 : Hid (Below w5.heap.size w5 w13) := keepB Cw5_w12.out Cw5_w12.out.size hb13
  have Cw6_w13 : Hid (Below w6.heap.size w6 w13) := keepB Cw6_w12.out Cw6_w12.out.size hb13
  have Cw7_w13 : Hid (Below w7.heap.size w7 w13) := keepB Cw7_w12.out Cw7_w12.out.size hb13
  have Cw8_w13 : Hid (Below w8.heap.size w8 w13) := keepB Cw8_w12.out Cw8_w12.out.size hb13
  clear Cw_w12 Cw5_w12 Cw6_w12 Cw7_w12 Cw8_w12
  clear hb13 HG12
  have HW2T : Hid (1 + wT rs2 ≤ 1000000000) := by show _ ≤ _; rw [wT_tys HE2.out]; have := HWT.out; omega
  obtain ⟨M0, hM0⟩ : ∃ M0 : Nat, M0 = 1 + wT rs2 := ⟨_, rfl⟩
  have HM0 := HID hM0
  have HM1 : Hid (0 < M0 ∧ M0 + 6 * ts.length ≤ 1000000000) := by show _ ∧ _; rw [hM0, wT_tys HE2.out]; have := HWT.out; omega
  have h56 : w5.heap.size < w6.heap.size := HL2.out
  have h67 : w6.heap.size < w7.heap.size := HF7.out.lt
  have h613 : w6.heap.size ≤ w13.heap.size := Cw6_w13.out.size
  have h713 : w7.heap.size ≤ w13.heap.size := Cw7_w13.out.size
  have hc6 : Chg (fun _ => False) w6 w13 := Chg.of Cw6_w13.out
  have HX13 := HID (HF7.out.later Cw7_w13.out)
  have HO13 := HID (HO8.out.later Cw8_w13.out)
  have HL13 := HID (HL5.out.below Cw5_w13.out)
  have HSC := HID (HS2.out.below Cw6_w13.out)
  have HOC := HID (HO2.out.chg hc6)
  have HFC := HID (hc6.free _ HL2.out HF2.out)
  clear hM0 hc6
  go_wp2_with fail
  refine (markArg w5.heap.size _ rs2 _ HSC.out (by omega) HOC.out HFC.out (lightP HE2.out HL.out) (by rw [lenP HE2.out]; exact hlen) HW2T.out).mono ?_
  rintro e w14 ⟨he, hc14⟩
  rw [← HM0.out] at he
  subst he
  have HB14 : Hid (Below w.heap.size w w14) := Cw_w13.out.trans (hc14.below (fun g hg => Nat.le_trans s5 (HSZ.out g hg).1) Cw_w13.out.size)
  have HL14 : Hid (Sl w14 ad5 L) := HL13.out.chg hc14 (fun g o hne e hg => by
    have := (HSZ.out g hg).1
    have := sl_lt HL5.out hne e
    omega)
  have HO14 : Hid (OwnL w7.heap.size w14 ad8 L) := HO13.out.chg hc14 (fun g hge hg => by
    have := (HSZ.out g hg).2
    omega)
  have HX14 : Hid (Sl w14 (some ⟨w6.heap.size, 0, none⟩) ts) := HX13.out.sl.chg hc14 (fun g o hne e hg => by
    have := (HSZ.out g hg).2
    injection e with e; injection e with e1 e2
    omega)
  have HFX14 : Hid (Free w14 w6.heap.size) := hc14.free _ HX13.out.lt HX13.out.free
  have h14 : w13.heap.size ≤ w14.heap.size := hc14.size
  clear hc14 HSC HOC HFC HX13 HO13 HL13
  go_wp2_with fail
  refine (markTupleS_any _ _ ts M0 _ HX14.out (fun _ => ⟨_, rfl, HFX14.out⟩) HM1.out.1 HM1.out.2).mono ?_
  rintro e w15 ⟨rfl, -, hc15⟩
  have HB15 : Hid (Below w.heap.size w w15) := HB14.out.trans (hc15.below (fun g hg => by obtain ⟨-, e⟩ := hg; injection e with e; injection e with e; omega) HB14.out.size)
  have HL15 : Hid (Sl w15 ad5 L) := HL14.out.chg hc15 (fun g o hne e hg => by
    obtain ⟨-, e2⟩ := hg
    injection e2 with e2; injection e2 with e2 e3
    have := sl_lt HL5.out hne e
    omega)
  have HO15 : Hid (OwnL w7.heap.size w15 ad8 L) := HO14.out.chg hc15 (fun g hge hg => by
    obtain ⟨-, e2⟩ := hg
    injection e2 with e2; injection e2 with e2 e3
    omega)
  obtain ⟨M2, hM2⟩ : ∃ M2 : Nat, M2 = M0 + 6 * ts.length := ⟨_, rfl⟩
  rw [← hM2]
  have hk1 : ¬ ((M2 : Nat) : Int) < 0 := by omega
  clear hc15 hM2 HB14 HL14 HO14 HX14 HFX14
  go_wp2_with fail
  refine (eqTupleS_any ad8 ad5 cap8 cap5 L _ hll HO15.out.1 HL15.out).mono ?_
  rintro e w16 ⟨rfl, hb16⟩
  have HB16 : Hid (Below w.heap.size w w16) := HB15.out.trans (hb16.mono HB15.out.size)
  have HL16 : Hid (Sl w16 ad5 L) := HL15.out.below hb16
  have HO16 : Hid (OwnL w7.heap.size w16 ad8 L) := HO15.out.later hb16
  clear hb16 HB15 HL15 HO15
  go_wp2_with fail
  refine (markTupleS_any ad8 cap8 L 1 _ HO16.out.1 (fun h => by obtain ⟨g, e, -, hfr⟩ := HO16.out.2 h; exact ⟨g, e, hfr⟩) (by omega) (by omega)).mono ?_
  rintro e w17 ⟨rfl, hs17, hc17⟩
  have HM17 := HID hs17
  have hfar : ∀ g, (L ≠ [] ∧ ad8 = some ⟨g, 0, none⟩) → w7.heap.size ≤ g := fun g hg => by
    obtain ⟨g', e, h1, -⟩ := HO16.out.2 hg.1
    have e2 := hg.2
    rw [e] at e2; injection e2 with e2; injection e2 with e2 e3; omega
  have HB17 : Hid (Below w.heap.size w w17) := HB16.out.trans (hc17.below (fun g hg => by have := hfar g hg; omega) HB16.out.size)
  have HL17 : Hid (Sl w17 ad5 L) := HL16.out.chg hc17 (fun g o hne e hg => by
    have := hfar g hg
    have := sl_lt HL5.out hne e
    omega)
  clear hs17 hc17 hfar HB16 HL16 HO16
  go_wp2_with fail
  refine (heldTupleS_any ad8 cap8 L 1 _ HM17.out (by omega) (by omega)).mono ?_
  rintro e w18 ⟨rfl, hb18⟩
  have HB18 : Hid (Below w.heap.size w w18) := HB17.out.trans (hb18.mono HB17.out.size)
  have HL18 : Hid (Sl w18 ad5 L) := HL17.out.below hb18
  have HM18 : Hid (Sl w18 ad8 (mkT 1 L)) := HM17.out.below hb18
  have hk2 : ¬ ((1 + 6 * L.length : Nat) : Int) < 0 := by omega
  clear hb18 HB17 HL17 HM17
  go_wp2_with fail
  refine (toTypeS_any ad cap rs _ hlen (HS.out.below HB18.out) HL.out).mono ?_
  rintro e w19 ⟨rs4, rfl, he4, hs4, hc4, hnw4, hb19⟩
  have HE4 := HID he4
  have HS4 := HID hs4
  have HC4 := HID hc4
  have HB19 : Hid (Below w.heap.size w w19) := keepB HB18.out HB18.out.size hb19
  have HL19 : Hid (Sl w19 ad5 L) := HL18.out.below hb19
  have HM19 : Hid (Sl w19 ad8 (mkT 1 L)) := HM18.out.below hb19
  clear he4 hs4 hc4 hnw4 hb19 HB18 HL18 HM18
  go_wp2_with fail
  refine (toTupleS_any ad' cap' ts _ hlt (HST.out.below HB19.out)).mono ?_
  rintro e w20 ⟨rfl, F20⟩
  have HF20 := HID F20
  have HB20 : Hid (Below w.heap.size w w20) := keepB HB19.out HB19.out.size F20.below
  have HL20 : Hid (Sl w20 ad5 L) := HL19.out.below F20.below
  have HM20 : Hid (Sl w20 ad8 (mkT 1 L)) := HM19.out.below F20.below
  clear F20 HB19 HL19 HM19
  go_wp2_with fail
  refine (implUnfit_any _ _ _ _ rs4 ts _ (by rw [lenP HE4.out]; exact hlen) (HS4.out.below HF20.out.below) (lightP HE4.out HL.out) (fitsP HE4.out HF.out) HC4.out hlt HF20.out.sl HFT.out).mono ?_
  rintro e w21 ⟨ad21, cap21, he21, hO21, hb21⟩
  rw [HE4.out, HLL.out] at he21 hO21
  subst he21
  have HB21 : Hid (Below w.heap.size w w21) := keepB HB20.out HB20.out.size hb21
  have HL21 : Hid (Sl w21 ad5 L) := HL20.out.below hb21
  have HM21 : Hid (Sl w21 ad8 (mkT 1 L)) := HM20.out.below hb21
  have HO21 := HID hO21.1
  clear hb21 hO21 HB20 HL20 HM20 HF20 HS4 HE4 HC4
  go_wp2_with fail
  refine (eqTupleS_any ad21 ad5 cap21 cap5 L _ hll HO21.out HL21.out).mono ?_
  rintro e w22 ⟨rfl, hb22⟩
  have HB22 : Hid (Below w.heap.size w w22) := HB21.out.trans (hb22.mono HB21.out.size)
  have HM22 : Hid (Sl w22 ad8 (mkT 1 L)) := HM21.out.below hb22
  clear hb22 HB21 HL21 HM21 HO21
  go_wp2_with fail
  refine (heldTupleS_any ad8 cap8 L 1 _ HM22.out (by omega) (by omega)).mono ?_
  rintro e w23 ⟨rfl, hb23⟩
  have HB23 : Hid (Below w.heap.size w w23) := HB22.out.trans (hb23.mono HB22.out.size)
  clear hb23 HB22 HM22
  go_wp2
  go_ret
  exact ⟨rfl, HB23.out⟩

theorem own : ownKnob Tryz.prog.godebug = none := by kernel_rfl
theorem laidOut : laidOutB Tryz.prog = true := by kernel_rfl

set_option maxRecDepth 100000 in
theorem lifted (os : Os) (started : os.Started) (H : Type) (enc : TypeId × Value → H) :
    ReturnsInHanded {} Tryz.checked os 3 .any (Rows.fnExactUnfitSpec.pre6 enc Tryz.prog Tryz.f3 Rows.fnExactUnfitRow.domain false) (Rows.fnExactUnfitSpec.post enc Tryz.prog Tryz.f3 false true false false) := by
  refine returnsInHanded_of_change (C := Tryz.checked) own started (by kernel_rfl) Tryz.func3
    (ChangeSpec.witness6 (enc := enc) (C := Tryz.checked) false ⟨#[], #[.slice none 0 0, .slice none 0 0], []⟩ 8 (by kernel_rfl) (by kernel_rfl) (by kernel_rfl) (by kernel_rfl)) ?_
  intro W base args ds gs before hval0 hW hcnd _
  have hval : ∀ (j : Nat) t v, Tryz.f3.params[j]? = some t → args[j]? = some v → Value.okWide Tryz.prog W .any base t v := hval0
  have hW' := hW
  obtain ⟨p, q, hA0, hV, rfl, hfz, hnd⟩ := hW
  have hA : DataW.TrodAll enc Tryz.prog W 0 (fun _ => true) true Tryz.f3.params.toList args.toList ds p := hA0
  rw [Tryz.params3] at hA hval
  obtain ⟨v0, vs0, d0, ds0, p0, q0, hargs, rfl, rfl, h0, r0⟩ := trodAll_cons hA
  obtain ⟨v1, vs1, d1, ds1, p1, q1, rfl, rfl, rfl, h1, r1⟩ := trodAll_cons r0
  obtain ⟨rfl, rfl, rfl⟩ := trodAll_nil r1
  obtain rfl : args = #[v0, v1] := by cases args; simp_all
  obtain ⟨rfl, rfl⟩ := trodVars_none hV
  have k0 := h0
  have lt0 : ∀ x ∈ p0, x.block < W.heap.size := by obtain ⟨m, hm⟩ := k0; exact DataW.trod_lt m _ _ _ hm
  obtain ⟨ad0, len0, cap0, hv0⟩ := okWide_slice Tryz.underlying22 (hval 0 22 v0 rfl rfl)
  subst hv0
  obtain ⟨fuel0, hf0⟩ := h0
  obtain ⟨rs0, hl0, hsl0, hft0, hm0⟩ := open_types (by simpa [Value.cells] using hf0)
  subst hl0
  have k1 := h1
  have lt1 : ∀ x ∈ p1, x.block < W.heap.size := by obtain ⟨m, hm⟩ := k1; exact DataW.trod_lt m _ _ _ hm
  obtain ⟨ad1, len1, cap1, hv1⟩ := okWide_slice Tryz.underlying23 (hval 1 23 v1 rfl rfl)
  subst hv1
  obtain ⟨fuel1, hf1⟩ := h1
  obtain ⟨ts1, hl1, hsl1, hft1, hm1⟩ := open_tups (by simpa [Value.cells] using hf1)
  subst hl1
  clear hA0 hval0
  refine (walk ad0 cap0 rs0 ad1 cap1 ts1 W hm0 hsl0 hft0 hm1 hsl1 hft1).mono fun e W' ⟨he, bel⟩ => ?_
  subst he
  exact ⟨_, rfl, _, _, _, [], _, [], hW', trodAll_mk1 (shut_bool Tryz.underlying4 _), (trodAll_cons_mk (Below.trod laidOut (by kernel_rfl) (of_decide_eq_true (by kernel_rfl)) k0 bel lt0) (trodAll_cons_mk (Below.trod laidOut (by kernel_rfl) (of_decide_eq_true (by kernel_rfl)) k1 bel lt1) trodAll_mk0)), rfl, bel.frame _, fun h => by cases h⟩

theorem over : Rows.fnExactUnfitRow.holds Tryz.pinned (OpenSpec.ofChange Rows.fnExactUnfitSpec) :=
  OpenClaim.holds_of_wide 3 Tryz.f3 rfl rfl rfl rfl rfl rfl rfl ⟨rfl, rfl, rfl, rfl, rfl⟩ rfl rfl rfl rfl rfl (by kernel_rfl) Tryz.func3 (by kernel_rfl)
    (of_decide_eq_true (by kernel_rfl)) (by unfold Func.isWrapper; first | (rw [if_pos (by decide +kernel)]; kernel_rfl) | (rw [if_neg (by decide +kernel)]; exact ⟨rfl, rfl⟩))
    (fun os started H enc _ => lifted os started H enc)

end Go.Proofs.YthicofnjehpalaaGreat.fnExactUnfit
namespace Go.Proofs.YthicofnjehpalaaGreat
theorem FnExactUnfit_holds : Rows.FnExactUnfitSaid := fnExactUnfit.over
end Go.Proofs.YthicofnjehpalaaGreat
