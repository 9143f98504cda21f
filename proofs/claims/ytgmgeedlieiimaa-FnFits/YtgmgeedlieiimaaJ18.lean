import Derived.Test.YtgmgeedlieiimaaDrawTuple
import Derived.ChangeSlices
import Derived.Deep.Slices
import Derived.Test.YtgmgeedlieiimaaDrawSch
import Derived.Test.YtgmgeedlieiimaaJ14
namespace Go.Proofs.Ytgmgeedlieiimaa
open Go.ChangeShapes Go.WideShapes Go.ChangeAt Go.RowKit
open Pl
def Bytes (w : World) (ad : Option Addr) (len : Nat) : Prop := len ≤ maxLen ∧ (0 < len → ∃ b off, ad = some ⟨b, off, none⟩ ∧ b < w.heap.size ∧ ∀ i, i < len → ∃ c : Int, 0 ≤ c ∧ c ≤ 255 ∧ w.cell? ⟨b, off + i, none⟩ = some (.int .u8 c))
theorem Bytes.below {w w' : World} {ad : Option Addr} {len : Nat} (h : Bytes w ad len) (hb : Below w.heap.size w w') : Bytes w' ad len := by
 refine ⟨h.1, fun h0 => ?_⟩
 obtain ⟨b, off, e, hbl, hc⟩ := h.2 h0
 refine ⟨b, off, e, Nat.lt_of_lt_of_le hbl hb.size, fun i hi => ?_⟩
 obtain ⟨c, c0, c1, hcc⟩ := hc i hi
 exact ⟨c, c0, c1, by rw [hb.cell (p := ⟨b, off + i, none⟩) hbl]; exact hcc⟩
theorem open_bytes {H : Type} {enc : TypeId × Value → H} {W : World} {base : Nat} {sp : Nat → Bool} {held : Bool} {fuel : Nat} {ad : Option Addr} {len cap : Nat} {x : DataW H × List MemPlace}
  (h : DataW.trod enc Try.prog W base sp held fuel 22 [.slice ad len cap] = some x) : Bytes W ad len := by
 rcases open_ints Try.underlying22 Try.underlying5 (by kernel_rfl) h with ⟨hcs, -⟩ | ⟨a, l, c, zs, hcs, -, hlc, hcm, hm, -, hel, hwf⟩
 ·simp at hcs
  obtain ⟨rfl, rfl, rfl⟩ := hcs
  exact ⟨by unfold maxLen; omega, fun h0 => by omega⟩
 ·simp at hcs
  obtain ⟨rfl, rfl, rfl⟩ := hcs
  have hle : len ≤ zs.length := by rw [hm]; split <;> omega
  refine ⟨by omega, fun h0 => ?_⟩
  have hspot : a.spot = none := by
   have := hel 0 (by omega)
   have e : a.add 0 = a := by simp [Addr.add]
   rw [e] at this
   exact World.cell?_spot this
  obtain ⟨b, off, spot⟩ := a
  simp only at hspot
  subst hspot
  have add0 : ∀ x : Nat, (⟨b, off, none⟩ : Addr).add x = ⟨b, off + x, none⟩ := fun x => by
   unfold Addr.add
   by_cases h : x = 0
   ·subst h; simp
   ·simp [h]
  refine ⟨b, off, rfl, ?_, fun i hi => ?_⟩
  ·have := hel 0 (by omega)
   rw [add0] at this
   exact World.block_lt_of_cell? W ⟨b, off + 0, none⟩ this
  ·have h1 := hel i (by omega)
   rw [add0] at h1
   have h2 := hwf (zs.getD i 0) (by rw [List.getD_eq_getElem?_getD, List.getElem?_eq_getElem (by omega)]; simp)
   have h3 : IntKind.u8.min ≤ zs.getD i 0 ∧ zs.getD i 0 ≤ IntKind.u8.max := by simpa only [Lit.wf, Bool.and_eq_true, decide_eq_true_eq] using h2
   have e1 : IntKind.u8.min = 0 := by decide
   have e2 : IntKind.u8.max = 255 := by decide
   rw [e1, e2] at h3
   exact ⟨_, h3.1, h3.2, h1⟩
theorem rd_new {w : World} {ad : Option Addr} {len cap : Nat} {t : TypeId} (h : Bytes w ad len) : Rd (w.alloc (.cells #[.slice ad len cap, .int .i64 0] t)) w.heap.size ad len cap where
 lt := by simp
 code := by simp
 place := ⟨0, by simp, by omega⟩
 free := by simp
 bytes h0 := by
  obtain ⟨b, off, e, hbl, hc⟩ := h.2 h0
  refine ⟨b, off, e, by omega, by simp; omega, fun i hi => ?_⟩
  obtain ⟨c, c0, c1, hcc⟩ := hc i hi
  exact ⟨c, c0, c1, cell_al hcc _⟩
 small := h.1
theorem open_any (ad : Option Addr) (len cap : Nat) (w : World) (h : Bytes w ad len) :
  Calls Try.prog 30 #[.slice ad len cap] w fun e w' => e = .returned (.pointer (some ⟨w.heap.size, 0, none⟩)) ∧ Rd w' w.heap.size ad len cap ∧ Below w.heap.size w w' := by
 have H : Hid (Bytes w ad len) := h
 clear h
 go_enter Try.func30, Try.ntmps30
 go_wp2
 go_ret
 exact ⟨rfl, rd_new H.out, (Below.refl _ _).alloc (Nat.le_refl _) _⟩
theorem big_any (ad : Option Addr) (len cap : Nat) (w : World) :
  Calls Try.prog 8 #[.slice ad len cap] w fun e w' => e = .returned (.bool (decide ((1048576 : Int) < (len : Int)))) ∧ w' = w := by
 go_enter Try.func8, Try.ntmps8
 go_wp2
 go_ret
 exact ⟨rfl, rfl⟩
theorem res_new' {w : World} {R : Nat} (hR : w.heap.size ≠ R) (t : TypeId) : Res (w.alloc (.cells #[.string ⟨#[]⟩, .string ⟨#[]⟩, .string ⟨#[]⟩, .string ⟨#[]⟩, .string ⟨#[]⟩, .string ⟨#[]⟩] t)) R w.heap.size := by
 refine ⟨hR, by simp, fun o => by simp, fun o ho => ?_⟩
 have h6 : o = 0 ∨ o = 1 ∨ o = 2 ∨ o = 3 ∨ o = 4 ∨ o = 5 := by omega
 rcases h6 with rfl | rfl | rfl | rfl | rfl | rfl <;> simp
theorem below_set6 {B : Nat} {w w' : World} (h : Below B w w') {n : Nat} (hn : B ≤ n) (v0 v1 v2 v3 v4 v5 : Value) : Below B w ((((((w'.setCell ⟨n, 0, none⟩ v0).setCell ⟨n, 1, none⟩ v1).setCell ⟨n, 2, none⟩ v2).setCell ⟨n, 3, none⟩ v3).setCell ⟨n, 4, none⟩ v4).setCell ⟨n, 5, none⟩ v5) := by
 have st : ∀ (W : World) (o : Nat) (v : Value), Below B w W → Below B w (W.setCell ⟨n, o, none⟩ v) := fun W o v h => h.setCell hn v
 exact st _ _ _ (st _ _ _ (st _ _ _ (st _ _ _ (st _ _ _ (st _ _ _ h)))))
end Go.Proofs.Ytgmgeedlieiimaa
namespace Go.Proofs.Ytgmgeedlieiimaa
set_option maxRecDepth 100000
set_option linter.unusedVariables false
open Go.ChangeShapes Go.WideShapes Go.ChangeAt Go.RowKit
open Pl
theorem TypM.only {wc wd : World} {R base : Nat} {v : Value} {rs : List TR} (h : TypM wc base v rs) (hR : R < base) (ho : Only R wc wd) : TypM wd base v rs :=
 h.heap kidT ho.size fun g hg => ho.block g (h.lt kidT hg).2 (fun e => by injection e with e; have := (h.lt kidT hg).1; omega)
theorem only_set6 (n : Nat) (w : World) (v0 v1 v2 v3 v4 v5 : Value) : Only n w ((((((w.setCell ⟨n, 0, none⟩ v0).setCell ⟨n, 1, none⟩ v1).setCell ⟨n, 2, none⟩ v2).setCell ⟨n, 3, none⟩ v3).setCell ⟨n, 4, none⟩ v4).setCell ⟨n, 5, none⟩ v5) :=
 ((((((Only.refl n w).set 0 v0).set 1 v1).set 2 v2).set 3 v3).set 4 v4).set 5 v5
set_option maxHeartbeats 2000000 in
theorem drawFits_any (ad : Option Addr) (len cap : Nat) (w : World) (h : Bytes w ad len) :
  Calls Try.prog 13 #[.slice ad len cap] w fun e w' => ∃ (v : Value) (rs : List TR) (a b r c d s : ByteArray), e = .returned (.tuple #[v, .agg #[.string a, .string b, .string r, .string c, .string d, .string s]]) ∧ (a.size ≤ 20 ∧ b.size ≤ 20 ∧ r.size ≤ 20 ∧ c.size ≤ 20 ∧ d.size ≤ 20 ∧ s.size ≤ 20) ∧ TypM w' w.heap.size v rs ∧ GoodS rs ∧ Below w.heap.size w w' := by
 have H : Hid (Bytes w ad len) := h
 clear h
 go_enter Try.func13, Try.ntmps13
 go_wp2_with fail
 refine (open_any ad len cap _ (H.out.below ((Below.refl _ _).alloc (Nat.le_refl _) _))).mono ?_
 rintro e w1 ⟨rfl, hR1, hb1⟩
 have hn : Res w1 (w.heap.size + 1) w.heap.size := (res_new' (w := w) (R := w.heap.size + 1) (by omega) _).only (Only.of_below hb1)
 simp only [World.size_alloc] at hR1
 have HB1 : Hid (Below w.heap.size w w1) := ((Below.refl w.heap.size w).alloc (Nat.le_refl _) _).trans (hb1.mono (by simp))
 have HR1 : Hid (Rd w1 (w.heap.size + 1) ad len cap) := hR1
 have HN1 : Hid (Res w1 (w.heap.size + 1) w.heap.size) := hn
 clear hn hR1 hb1
 go_wp2_with fail
 refine (schema_any (w.heap.size + 1) ad len cap _ HR1.out).mono ?_
 rintro e w2 ⟨v, rs, rfl, hT2, hG, hR2, hO2⟩
 have hb := HR1.out.lt
 have HR2 : Hid (Rd w2 (w.heap.size + 1) ad len cap) := hR2
 have HN2 : Hid (Res w2 (w.heap.size + 1) w.heap.size) := HN1.out.only hO2
 have HB2 : Hid (Below w.heap.size w w2) := Only.toBelow HB1.out hO2 HB1.out.size (by omega)
 have HT2 : Hid (TypM w2 w1.heap.size v rs) := hT2
 have HG : Hid (GoodS rs) := hG
 clear hT2 hG hR2 hO2 HB1 HN1 HR1
 go_wp2_with fail
 refine (tuple_any (w.heap.size + 1) ad len cap _ HR2.out).mono ?_
 rintro e w3 ⟨⟨a, b, r, c, d, s, rfl, ha, hb', hr, hc, hd, hs⟩, hR3, hO3⟩
 obtain ⟨hnR, hnl, hnf, hnc⟩ := HN2.out.only hO3
 have HB3 : Hid (Below w.heap.size w w3) := Only.toBelow HB2.out hO3 HB2.out.size (by omega)
 have HT3 : Hid (TypM w3 w1.heap.size v rs) := HT2.out.only hb hO3
 have n0 := hnc 0 (by omega)
 have n1 := hnc 1 (by omega)
 have n2 := hnc 2 (by omega)
 have n3 := hnc 3 (by omega)
 have n4 := hnc 4 (by omega)
 have n5 := hnc 5 (by omega)
 clear hnc hR3 hO3 HN2 HR2 HB2 HT2
 go_wp2
 exact bodyPost_ret (v := .tuple #[v, .agg #[.string a, .string b, .string r, .string c, .string d, .string s]]) (by simp [results, Try.results13, go_sem, *]) rfl ⟨v, rs, _, _, _, _, _, _, rfl, ⟨ha, hb', hr, hc, hd, hs⟩, LotM.lower (HT3.out.only (by omega) (only_set6 w.heap.size _ _ _ _ _ _ _)) (by omega), HG.out, below_set6 HB3.out (Nat.le_refl _) _ _ _ _ _ _⟩
end Go.Proofs.Ytgmgeedlieiimaa
namespace Go.Proofs.Ytgmgeedlieiimaa
open Go.ChangeShapes Go.WideShapes Go.ChangeAt Go.RowKit Go.Maps
open Pl
theorem zeroExprs (w : World) : (zeroValue 28).run Try.prog w = .ok (.slice none 0 0) w := by kernel_rfl
theorem has_any (b n : Nat) (M : ByteArray × ByteArray → Option Value) (t r : ByteArray) (w : World) (ht : t.size ≤ maxLen) (hr : r.size ≤ maxLen) (hV : MapV encK Try.prog 72 w b n M) :
  Calls Try.prog 99 #[.map (some b), .string t, .string r] w fun e w' => e = .returned (.bool (M (t, r)).isSome) ∧ w' = w := by
 obtain ⟨kl, hkl⟩ := relKeyOf (t, r) ht hr
 have HV : Hid (MapV encK Try.prog 72 w b n M) := hV
 have HKL : Hid (keyOf Try.prog 72 (encK (t, r)) = some kl) := hkl
 clear hkl hV
 go_enter Try.func99, Try.ntmps99
 go_wp2_with (first | (at_lookup; refine wpList_lookV_ok _ rfl _ _ 75 rfl 72 28 relLaw Try.underlying75 (zeroExprs _) b n M rfl HV.out (t, r) kl rfl HKL.out ?_) | go_in)
 go_ret
 exact ⟨rfl, rfl⟩
theorem told1_any (a : Al) (w : World) :
  Calls Try.prog 143 #[.agg #[.string a.t, .string a.s]] w fun e w' => e = .returned (.bool (!a.s.toList.isEmpty)) ∧ Below w.heap.size w w' := by
 cases h : a.s.toList.isEmpty with
 | true =>
  go_enter Try.func143, Try.ntmps143
  go_wp2
  go_ret
  exact ⟨rfl, (Below.refl _ _).alloc (Nat.le_refl _) _⟩
 | false =>
  go_enter Try.func143, Try.ntmps143
  go_wp2
  go_ret
  exact ⟨rfl, (Below.refl _ _).alloc (Nat.le_refl _) _⟩
theorem anySet_drop (xs : List Al) (k : Nat) (h : k < xs.length) : (xs.drop k).any (fun a => !a.s.toList.isEmpty) = ((!xs[k].s.toList.isEmpty) || (xs.drop (k + 1)).any (fun a => !a.s.toList.isEmpty)) := by
 rw [List.drop_eq_getElem_cons h]; rfl
set_option maxHeartbeats 1000000 in
theorem indexTold_any (ad : Option Addr) (cap : Nat) (xs : List Al) (w : World) (hlen : xs.length ≤ 1048576) (hs : SlA w ad xs) :
  Calls Try.prog 150 #[.slice ad xs.length cap, .func (Fn.func 143) #[] #[]] w fun e w' => (∃ r : Int, e = .returned (.int .i64 r) ∧ decide (0 ≤ r) = xs.any (fun a => !a.s.toList.isEmpty)) ∧ Below w.heap.size w w' := by
 have HS : Hid (SlA w ad xs) := hs
 clear hs
 go_enter Try.func150, Try.ntmps150
 go_wp2_with fail
 go_loopw [8] (fun i wr => ∃ k : Nat, k ≤ xs.length ∧ i = .int .i64 k ∧ Hid ((xs.drop k).any (fun a => !a.s.toList.isEmpty) = xs.any (fun a => !a.s.toList.isEmpty)) ∧ Hid (Below w.heap.size w wr)) (fun i _ => xs.length - (intOf i).toNat)
 case atStart => exact ⟨0, Nat.zero_le _, rfl, rfl, Below.refl _ _⟩
 case round =>
  obtain ⟨k, hk, rfl, HP, HB⟩ := hrel
  by_cases hlt : k < xs.length
  ·rcases HS.out.below HB.out with rfl | ⟨b, off, rfl, hb, hr⟩
   ·simp at hlt
   obtain ⟨t0, t1⟩ := hr k hlt
   have hk1 : (0 : Int) ≤ (k : Int) := by omega
   have hk2 : (k : Int) < (xs.length : Int) := by omega
   clear hr
   cases he : xs[k].s.toList.isEmpty with
   | false =>
    have HN : Hid (xs.any (fun a => !a.s.toList.isEmpty) = true) := by show _ = _; rw [← HP.out, anySet_drop _ _ hlt, he]; rfl
    go_wp2_with (go_at_call 143; refine (told1_any xs[k] _).mono ?_; rintro e w' ⟨he2, hbx⟩; rw [he] at he2; subst he2)
    go_ret
    exact ⟨⟨k, rfl, by rw [HN.out]; simp⟩, HB.out.trans (hbx.mono HB.out.size)⟩
   | true =>
    have HP2 : Hid ((xs.drop (k + 1)).any (fun a => !a.s.toList.isEmpty) = xs.any (fun a => !a.s.toList.isEmpty)) := by show _ = _; rw [← HP.out, anySet_drop _ _ hlt, he]; rfl
    go_wp2_with (go_at_call 143; refine (told1_any xs[k] _).mono ?_; rintro e w' ⟨he2, hbx⟩; rw [he] at he2; subst he2)
    go_roundw
    case rel => exact ⟨k + 1, by omega, by go_num, HP2, HB.out.trans (hbx.mono HB.out.size)⟩
    case measure => first | (simp [intOf]; done) | (simp [intOf]; omega)
  ·have HN : Hid (xs.any (fun a => !a.s.toList.isEmpty) = false) := by show _ = _; rw [← HP.out, List.drop_of_length_le (by omega)]; rfl
   go_wp2
   go_ret
   exact ⟨⟨-1, rfl, by rw [HN.out]; simp⟩, HB.out⟩
theorem containsTold_any (ad : Option Addr) (cap : Nat) (xs : List Al) (w : World) (hlen : xs.length ≤ 1048576) (hs : SlA w ad xs) :
  Calls Try.prog 142 #[.slice ad xs.length cap, .func (Fn.func 143) #[] #[]] w fun e w' => e = .returned (.bool (xs.any (fun a => !a.s.toList.isEmpty))) ∧ Below w.heap.size w w' := by
 go_enter Try.func142, Try.ntmps142
 go_wp2_with fail
 refine (indexTold_any ad cap xs _ hlen hs).mono ?_
 rintro e w' ⟨⟨r, rfl, hr⟩, hbx⟩
 have HR : Hid (decide (0 ≤ r) = xs.any (fun a => !a.s.toList.isEmpty)) := hr
 clear hr hs
 go_wp2
 go_ret
 exact ⟨by rw [← HR.out]; rfl, hbx⟩
theorem told_all (xs : List Al) : (!xs.any fun a => !a.s.toList.isEmpty) = xs.all fun a => a.s.toList.isEmpty := by
 induction xs with
 | nil => rfl
 | cons a xs ih => simp only [List.any_cons, List.all_cons, Bool.not_or, Bool.not_not, ih]
set_option maxRecDepth 100000 in
set_option maxHeartbeats 1000000 in
theorem toldByObjects_any (ad : Option Addr) (cap : Nat) (rs : List ER) (w : World) (hlen : rs.length ≤ 1048576) (hs : SlE w ad rs) (hl : ∀ r ∈ rs, r.e.light) :
  Calls Try.prog 132 #[.slice ad rs.length cap] w fun e w' => e = .returned (.bool (directP (exs rs))) ∧ Below w.heap.size w w' := by
 by_cases h1 : rs.length = 1
 ·obtain ⟨r, rfl⟩ : ∃ r, rs = [r] := List.length_eq_one_iff.1 h1
  rcases hs with h | ⟨b, off, rfl, hb, hr, hok⟩
  ·cases h
  obtain ⟨t0, t1, t2, t3, t4⟩ := hr 0 (by simp)
  simp only [Nat.zero_mul, Nat.add_zero, List.getElem_cons_zero] at t0 t1 t2 t3 t4
  have HOK : Hid (r.ok w) := hok r (by simp)
  obtain ⟨lg, -⟩ := hl r (by simp)
  clear hr hok h1
  simp only [List.length_cons, List.length_nil, Nat.zero_add]
  by_cases hq : r.e.kind = 1
  ·have HD : Hid (directP (exs [r]) = !r.e.allow.any fun a => !a.s.toList.isEmpty) := by show _ = _; rw [told_all]; simp [directP, exs, hq]
   have hqb : (r.e.kind == 1) = true := by simpa using hq
   go_enter Try.func132, Try.ntmps132
   go_wp2_with (go_at_call 142; refine (containsTold_any _ _ r.e.allow _ lg (HOK.out.1.below ((Below.refl _ _)))).mono ?_; rintro e w' ⟨rfl, hbx⟩)
   go_ret
   exact ⟨by rw [HD.out]; rfl, hbx⟩
  ·have HD : Hid (directP (exs [r]) = false) := by show _ = _; simp [directP, exs, hq]
   have hqb : (r.e.kind == 1) = false := by simpa using hq
   go_enter Try.func132, Try.ntmps132
   go_wp2
   go_ret
   exact ⟨by rw [HD.out]; rfl, Below.refl _ _⟩
 ·have HD : Hid (directP (exs rs) = false) := by
   show _ = _
   rcases rs with _ | ⟨r, _ | ⟨r2, rs⟩⟩
   ·rfl
   ·simp at h1
   ·rfl
  have h2 : ((rs.length : Int) == 1) = false := by
   have : ¬ ((rs.length : Int) = 1) := by omega
   simpa using this
  clear hs
  go_enter Try.func132, Try.ntmps132
  go_wp2
  go_ret
  exact ⟨by rw [HD.out]; rfl, Below.refl _ _⟩
end Go.Proofs.Ytgmgeedlieiimaa
