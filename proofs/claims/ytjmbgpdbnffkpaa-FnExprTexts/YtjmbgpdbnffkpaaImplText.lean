/- Contracts of the program's functions that write a node's text. -/
import Derived.Test.YtjmbgpdbnffkpaaSpecText
import Derived.Test.YtjmbgpdbnffkpaaImplExpr
import Derived.Test.YtjmbgpdbnffkpaaShelf
import Derived.OwnWalk
import Derived.Maps.AppendAt
namespace Go.Proofs.Ytjmbgpdbnffkpaa
open Go.ChangeShapes Go.WideShapes Go.ChangeAt Go.RowKit
open Pl

theorem signOf_any (k : Int) (w : World) :
    Calls Try.prog 74 #[.int .i64 k] w fun e w' => e = .returned (.string (signB k)) ∧ w' = w := by
  by_cases h4 : k = 4
  · subst h4
    go_enter Try.func74, Try.ntmps74
    go_wp2
    go_ret
    exact ⟨rfl, rfl⟩
  by_cases h5 : k = 5
  · subst h5
    go_enter Try.func74, Try.ntmps74
    go_wp2
    go_ret
    exact ⟨rfl, rfl⟩
  · have HS : Hid (signB k = ⟨#[32, 45, 32]⟩) := by show _ = _; simp [signB, h4, h5]
    go_enter Try.func74, Try.ntmps74
    go_wp2
    go_ret
    exact ⟨by rw [HS.out]; rfl, rfl⟩

theorem app_assoc' (a b c : ByteArray) : a ++ (b ++ c) = a ++ b ++ c := by apply ext_data'; simp [ByteArray.data_append]
theorem info_str : (Try.prog.info? 9).map (fun i => (i.zero, i.size, i.bytes)) = some (some (.string ⟨#[]⟩), 1, 16) := by kernel_rfl
def strs (xs : List ByteArray) : List Value := xs.map Value.string
theorem strs_snoc (xs : List ByteArray) (k : Nat) (h : k < xs.length) : strs (xs.take (k + 1)) = strs (xs.take k) ++ [.string xs[k]] := by
  unfold strs; rw [List.take_succ_eq_append_getElem h, List.map_append]; rfl
theorem strs_len (xs : List ByteArray) (k : Nat) (h : k ≤ xs.length) : (strs (xs.take k)).length = k := by simp [strs]; omega

/-- a row of strings that the call owns: what Join asks of it -/
theorem own_cells {w : World} {base k : Nat} {v : Value} {xs : List ByteArray} (h : w.ownsRow base 9 1 v k (strs xs)) (hk : 0 < k) : ∃ g cp, v = .slice (some ⟨g, 0, none⟩) k cp ∧ k ≤ cp ∧ g < w.heap.size ∧ base ≤ g ∧ xs.length = k ∧ ∀ (j : Nat) x, xs[j]? = some x → w.cell? ⟨g, 0 + j, none⟩ = some (.string x) := by
  have hl : xs.length = k := by have := h.1; simpa [strs] using this
  have h2 := h
  rcases h.2 with ⟨rfl, h0⟩ | ⟨g, cp, cur, rfl, hbg, hg, hnc, -⟩
  · omega
  · have hlt := h2.lt g rfl
    refine ⟨g, cp, rfl, hnc, hlt.2, hbg, hl, fun j x hx => ?_⟩
    have := h2.cells (g := g) rfl j (.string x) (by simp [strs, hx])
    rw [Nat.zero_add]
    have e : (⟨g, 0, none⟩ : Addr).add j = ⟨g, j, none⟩ := by
      unfold Addr.add
      by_cases hj : j = 0
      · subst hj; simp
      · simp [hj]
    rwa [e] at this

set_option maxHeartbeats 2000000 in
theorem allowText_any (ad : Option Addr) (cap : Nat) (xs : List Al) (w : World) (hal : allowB xs = true) (hs : SlA w ad xs) :
    Calls Try.prog 72 #[.slice ad xs.length cap] w fun e w' => e = .returned (.string (thisText xs)) ∧ Below w.heap.size w w' := by
  have HS : Hid (SlA w ad xs) := hs
  have HAL : Hid (allowB xs = true) := hal
  have hts := thisText_size hal
  unfold thisText at hts
  simp only [ByteArray.size_append] at hts
  have hl : 1 ≤ xs.length ∧ xs.length ≤ 6 := by unfold allowB at hal; simp at hal; exact ⟨hal.1.1, hal.1.2⟩
  obtain ⟨hl1, hl6⟩ := hl
  clear hs hal
  obtain ⟨i0, hi, hz0, hz1, hz2⟩ := info_parts info_str
  go_enter Try.func72, Try.ntmps72
  go_wp2_with fail
  go_loopw [3, 9] (fun v i wr => ∃ k : Nat, k ≤ xs.length ∧ i = .int .i64 k ∧ wr.ownsRow w.heap.size 9 1 v k (strs ((xs.map alText).take k)) ∧ Below w.heap.size w wr) (fun _ i _ => xs.length - (intOf i).toNat)
  case atStart => exact ⟨0, Nat.zero_le _, rfl, by simpa [strs] using World.ownsRow_nil _ _ _ _, Below.refl _ _⟩
  case round =>
    obtain ⟨k, hk, rfl, hown, hB⟩ := hrel
    by_cases hlt : k < xs.length
    · rcases HS.out.below hB with rfl | ⟨b, off, rfl, hb, hr⟩
      · simp at hlt
      obtain ⟨t0, t1⟩ := hr k hlt
      have hab : alB xs[k] = true := by
        have := HAL.out
        unfold allowB at this
        simp only [Bool.and_eq_true] at this
        exact upA_all this.2 k hlt hlt
      have z2 := alText_size hab
      unfold alB at hab
      rw [Bool.and_eq_true] at hab
      have z0 := nameB_small hab.1
      have z1 := setB_small hab.2
      have hBs := hB.size
      have HX : Hid (strs ((xs.map alText).take (k + 1)) = strs ((xs.map alText).take k) ++ [.string (alText xs[k])]) := by show _ = _; rw [strs_snoc _ _ (by simpa using hlt), List.getElem_map]
      clear hr hab
      cases he : xs[k].s.toList.isEmpty with
      | true =>
        have HAT : Hid (alText xs[k] = xs[k].t) := by show _ = _; simp [alText, he]
        go_wp2_with (at_builtin; refine wpList_append_own _ rfl _ _ 60 rfl w.heap.size 9 i0 (.string ⟨#[]⟩) 1 16 Try.underlying60 hi hz0 hz1 hz2 rfl (by decide) _ _ _ rfl ((hown.alloc _).alloc _) ⟨wr.heap.size + 1, 0, none⟩ 1 1 [.string xs[k].t] rfl rfl (by have := cell_one_new (wr.alloc (.cells #[.string xs[k].t, .string xs[k].s] 102)) (.string xs[k].t) 9; rw [World.size_alloc] at this; exact this) (by intro u hu; simp at hu; subst hu; rfl) (by unfold maxLen; omega) (by omega) (by simp; omega) ?_)
        intro v' w3 hown3 hgrow _
        have hb3 : Below w.heap.size w w3 := ((hB.alloc hB.size _).alloc (by simp; omega) _).grown hgrow (by simp; omega) (fun i hi => (hown.lt i hi).1)
        rw [← HAT.out, ← HX.out] at hown3
        have HO3 : Hid (w3.ownsRow w.heap.size 9 1 v' (k + 1) (strs ((xs.map alText).take (k + 1)))) := hown3
        clear hown3 hgrow hown
        go_wp2
        go_roundw
        case rel => exact ⟨k + 1, by omega, by go_num, HO3.out, hb3⟩
        case measure => first | (simp [intOf]; done) | (simp [intOf]; omega)
      | false =>
        have HAT : Hid (alText xs[k] = xs[k].t ++ (⟨#[35]⟩ ++ xs[k].s)) := by show _ = _; rw [app_assoc']; simp [alText, he]
        go_wp2_with (at_builtin; refine wpList_append_own _ rfl _ _ 60 rfl w.heap.size 9 i0 (.string ⟨#[]⟩) 1 16 Try.underlying60 hi hz0 hz1 hz2 rfl (by decide) _ _ _ rfl ((hown.alloc _).alloc _) ⟨wr.heap.size + 1, 0, none⟩ 1 1 [.string (xs[k].t ++ (⟨#[35]⟩ ++ xs[k].s))] rfl rfl (by have := cell_one_new (wr.alloc (.cells #[.string xs[k].t, .string xs[k].s] 102)) (.string (xs[k].t ++ (⟨#[35]⟩ ++ xs[k].s))) 9; rw [World.size_alloc] at this; exact this) (by intro u hu; simp at hu; subst hu; rfl) (by unfold maxLen; omega) (by omega) (by simp; omega) ?_)
        intro v' w3 hown3 hgrow _
        have hb3 : Below w.heap.size w w3 := ((hB.alloc hB.size _).alloc (by simp; omega) _).grown hgrow (by simp; omega) (fun i hi => (hown.lt i hi).1)
        rw [← HAT.out, ← HX.out] at hown3
        have HO3 : Hid (w3.ownsRow w.heap.size 9 1 v' (k + 1) (strs ((xs.map alText).take (k + 1)))) := hown3
        clear hown3 hgrow hown
        go_wp2
        go_roundw
        case rel => exact ⟨k + 1, by omega, by go_num, HO3.out, hb3⟩
        case measure => first | (simp [intOf]; done) | (simp [intOf]; omega)
    · obtain rfl : k = xs.length := by omega
      have HE : Hid ((xs.map alText).take xs.length = xs.map alText) := by show _ = _; rw [List.take_of_length_le (by simp)]
      rw [HE.out] at hown
      obtain ⟨g, cp, rfl, hcp, hgl, -, hll, hc⟩ := own_cells hown (by omega)
      have hsz : (joinB ⟨#[44]⟩ (xs.map alText)).size ≤ 200 := by omega
      have HC : Hid (∀ (j : Nat) x, (xs.map alText)[j]? = some x → wr.cell? ⟨g, 0 + j, none⟩ = some (.string x)) := hc
      clear hc hown hi hz0 hz1 hz2
      go_wp2_with fail
      have HJ := Try.strings_Join g 0 cp (xs.map alText) ⟨#[44]⟩ wr HC.out hgl (by rw [hll]; omega) (by rw [hll]; exact hcp) (Nat.le_trans hsz (by omega))
      rw [hll] at HJ
      obtain ⟨J, hJ⟩ : ∃ J, J = joinB ⟨#[44]⟩ (xs.map alText) := ⟨_, rfl⟩
      have hsJ : J.size ≤ 200 := by rw [hJ]; exact hsz
      have HTT : Hid (thisText xs = ⟨#[116, 104, 105, 115, 40]⟩ ++ J ++ ⟨#[41]⟩) := by show _ = _; rw [hJ]; rfl
      refine HJ.mono ?_
      rintro e w1 ⟨he, hb1⟩
      have he' : e = .returned (.string J) := by rw [he, hJ]; rfl
      subst he'
      have HB1 : Hid (Below w.heap.size w w1) := hB.trans (hb1.mono hB.size)
      clear hb1 HJ he hJ hsz hts
      go_wp2
      go_ret
      exact ⟨by rw [HTT.out]; rfl, HB1.out⟩

/-- the texts that lie ready for a node's kids -/
def Ready (w : World) (g len : Nat) (f : Int → ByteArray) (ks : List Int) : Prop := g < w.heap.size ∧ ∀ k ∈ ks, 0 ≤ k ∧ k < (len : Int) ∧ w.cell? ⟨g, k.toNat, none⟩ = some (.string (f k)) ∧ (f k).size ≤ 20000000000000
theorem Ready.below {w w' : World} {g len : Nat} {f : Int → ByteArray} {ks : List Int} (h : Ready w g len f ks) (hb : Below w.heap.size w w') : Ready w' g len f ks :=
  ⟨Nat.lt_of_lt_of_le h.1 hb.size, fun k hk => by obtain ⟨h1, h2, h3, h4⟩ := h.2 k hk; exact ⟨h1, h2, kept hb h.1 h3, h4⟩⟩

set_option maxRecDepth 4000 in
set_option maxHeartbeats 4000000 in
theorem nodeText_any (r : ER) (g len cap : Nat) (f : Int → ByteArray) (w : World) (hnode : nodeB r.e = true) (hok : r.ok w) (hr : Ready w g len f r.e.kids) :
    Calls Try.prog 38 #[r.val, .slice (some ⟨g, 0, none⟩) len cap] w fun e w' => e = .returned (.string (nodeT f r.e)) ∧ Below w.heap.size w w' := by
  obtain ⟨⟨kind, allow, over, name, kids⟩, adA, capA, adK, capK⟩ := r
  obtain ⟨hA, hK⟩ := hok
  obtain ⟨hk5, hkind⟩ := nodeB_kids hnode
  simp only at hA hK hk5 hkind hr
  simp only [ER.val]
  have HN : Hid (nodeB ⟨kind, allow, over, name, kids⟩ = true) := hnode
  have HA : Hid (SlA w adA allow) := hA
  have HK : Hid (SlI w adK kids) := hK
  have HRY : Hid (Ready w g len f kids) := hr
  clear hA hK hnode hr
  by_cases k1 : kind = 1
  · subst k1
    have hal : allowB allow = true := by
      have := HN.out
      unfold nodeB at this
      rw [if_pos rfl] at this
      simp only [Bool.and_eq_true] at this
      exact this.1.1.1
    have HB0 : Hid (Below w.heap.size w (w.alloc (.cells #[.int .i64 1, .slice adA allow.length capA, .string over, .string name, .slice adK kids.length capK] 56))) := (Below.refl _ _).alloc (Nat.le_refl _) _
    go_enter Try.func38, Try.ntmps38
    go_wp2_with fail
    refine (allowText_any adA capA allow _ hal (HA.out.below HB0.out)).mono ?_
    rintro e w1 ⟨rfl, hb1⟩
    have HB1 : Hid (Below w.heap.size w w1) := HB0.out.trans (hb1.mono HB0.out.size)
    clear hb1
    go_wp2
    go_ret
    exact ⟨rfl, HB1.out⟩
  by_cases k2 : kind = 2
  · subst k2
    go_enter Try.func38, Try.ntmps38
    go_wp2
    go_ret
    exact ⟨rfl, (Below.refl _ _).alloc (Nat.le_refl _) _⟩
  by_cases k3 : kind = 3
  · subst k3
    have hsz : over.size ≤ 12 ∧ name.size ≤ 12 := by
      have := HN.out
      unfold nodeB at this
      rw [if_neg (by simp), if_neg (by simp), if_pos rfl] at this
      simp only [Bool.and_eq_true] at this
      exact ⟨nameB_small this.1.1.1, nameB_small this.1.1.2⟩
    obtain ⟨z0, z1⟩ := hsz
    go_enter Try.func38, Try.ntmps38
    go_wp2
    go_ret
    exact ⟨rfl, (Below.refl _ _).alloc (Nat.le_refl _) _⟩
  · have kb1 : (kind == 1) = false := by simpa using k1
    have kb2 : (kind == 2) = false := by simpa using k2
    have kb3 : (kind == 3) = false := by simpa using k3
    have HT : Hid (nodeT f ⟨kind, allow, over, name, kids⟩ = joinB (signB kind) (kids.map f)) := by show _ = _; simp [nodeT, k1, k2, k3]
    have hk2 : 2 ≤ kids.length := by
      have := HN.out
      unfold nodeB at this
      rw [if_neg k1, if_neg k2, if_neg k3] at this
      split at this
      · simp at this; omega
      · split at this
        · simp at this; omega
        · cases this
    have HTS : Hid (∀ x ∈ kids.map f, x.size ≤ 20000000000000) := fun x hx => by
      obtain ⟨k, hk, rfl⟩ := List.mem_map.1 hx
      exact (HRY.out.2 k hk).2.2.2
    obtain ⟨i0, hi, hz0, hz1, hz2⟩ := info_parts info_str
    obtain ⟨W, hW⟩ : ∃ W, W = w.alloc (.cells #[.int .i64 kind, .slice adA allow.length capA, .string over, .string name, .slice adK kids.length capK] 56) := ⟨_, rfl⟩
    have HB0 : Hid (Below w.heap.size w W) := by show Below _ _ _; rw [hW]; exact (Below.refl _ _).alloc (Nat.le_refl _) _
    have hgl : w.heap.size < W.heap.size := by rw [hW]; simp
    have g0 : W.cell? ⟨w.heap.size, 0, none⟩ = some (.int .i64 kind) := by rw [hW]; simp
    go_enter Try.func38, Try.ntmps38
    go_wp2_with fail
    rw [← hW]
    clear hW
    go_loopw [5, 30] (fun v i wr => ∃ k : Nat, k ≤ kids.length ∧ i = .int .i64 k ∧ wr.ownsRow W.heap.size 9 1 v k (strs ((kids.map f).take k)) ∧ Below W.heap.size W wr) (fun _ i _ => kids.length - (intOf i).toNat)
    case atStart => exact ⟨0, Nat.zero_le _, rfl, by simpa [strs] using World.ownsRow_nil _ _ _ _, Below.refl _ _⟩
    case round =>
      obtain ⟨k, hk, rfl, hown, hB⟩ := hrel
      have hBw : Below w.heap.size w wr := HB0.out.trans (hB.mono HB0.out.size)
      by_cases hlt : k < kids.length
      · rcases HK.out.below hBw with rfl | ⟨bk, offk, rfl, hbk, hrk⟩
        · simp at hlt
        have q0 := hrk k hlt
        obtain ⟨r1, r2, r3, r4⟩ := (HRY.out.below hBw).2 kids[k] (List.getElem_mem hlt)
        obtain ⟨m, hm⟩ : ∃ m : Nat, kids[k] = (m : Int) := ⟨kids[k].toNat, by omega⟩
        have HFm : Hid (f kids[k] = f (m : Int)) := by show _ = _; rw [hm]
        have HX : Hid (strs ((kids.map f).take (k + 1)) = strs ((kids.map f).take k) ++ [.string (f kids[k])]) := by show _ = _; rw [strs_snoc _ _ (by simpa using hlt), List.getElem_map]
        rw [hm] at q0 r2
        have r3' : wr.cell? ⟨g, m, none⟩ = some (.string (f kids[k])) := by rw [hm] at r3 ⊢; simpa using r3
        have hm1 : (0 : Int) ≤ (m : Int) := by omega
        have hBs := hB.size
        obtain ⟨fk, hfk⟩ : ∃ fk, fk = f kids[k] := ⟨_, rfl⟩
        rw [← hfk] at r3'
        have HFK : Hid (fk = f kids[k]) := hfk
        clear hrk r3 hm r1 hfk
        go_wp2_with (at_builtin; refine wpList_append_own _ rfl _ _ 60 rfl W.heap.size 9 i0 (.string ⟨#[]⟩) 1 16 Try.underlying60 hi hz0 hz1 hz2 rfl (by decide) _ _ _ rfl (hown.alloc _) ⟨wr.heap.size, 0, none⟩ 1 1 [.string fk] rfl rfl (cell_one_new _ _ _) (by intro u hu; simp at hu; subst hu; rfl) (by unfold maxLen; omega) (by omega) (by simp; omega) ?_)
        intro v' w3 hown3 hgrow _
        have hb3 : Below W.heap.size W w3 := (hB.alloc hB.size _).grown hgrow (by simp; omega) (fun i hi => (hown.lt i hi).1)
        rw [HFK.out, ← HX.out] at hown3
        have HO3 : Hid (w3.ownsRow W.heap.size 9 1 v' (k + 1) (strs ((kids.map f).take (k + 1)))) := hown3
        clear hown3 hgrow hown
        go_wp2
        go_roundw
        case rel => exact ⟨k + 1, by omega, by go_num, HO3.out, hb3⟩
        case measure => first | (simp [intOf]; done) | (simp [intOf]; omega)
      · obtain rfl : k = kids.length := by omega
        have HE : Hid ((kids.map f).take kids.length = kids.map f) := by show _ = _; rw [List.take_of_length_le (by simp)]
        rw [HE.out] at hown
        obtain ⟨gp, cp, rfl, hcp, hgpl, -, hll, hc⟩ := own_cells hown (by omega)
        have a0 := kept hB hgl g0
        have hsz : (joinB (signB kind) (kids.map f)).size ≤ 140737488355328 := by
          have h := joinB_size (signB kind) 20000000000000 _ (kids.map f) rfl HTS.out
          rw [signB_size, hll] at h
          omega
        have HC : Hid (∀ (j : Nat) x, (kids.map f)[j]? = some x → wr.cell? ⟨gp, 0 + j, none⟩ = some (.string x)) := hc
        clear hc hown hi hz0 hz1 hz2
        go_wp2_with fail
        refine (signOf_any _ _).mono ?_
        rintro e w' ⟨rfl, rfl⟩
        go_wp2_with fail
        have HJ := Try.strings_Join gp 0 cp (kids.map f) (signB kind) _ HC.out hgpl (by rw [hll]; omega) (by rw [hll]; exact hcp) hsz
        rw [hll] at HJ
        refine HJ.mono ?_
        rintro e w1 ⟨he, hb1⟩
        obtain ⟨J, hJ⟩ : ∃ J, J = joinB (signB kind) (kids.map f) := ⟨_, rfl⟩
        have he' : e = .returned (.string J) := by rw [he, hJ]; rfl
        subst he'
        have HJJ : Hid (nodeT f ⟨kind, allow, over, name, kids⟩ = J) := by show _ = _; rw [HT.out, hJ]
        have HB1 : Hid (Below w.heap.size w w1) := hBw.trans (hb1.mono hBw.size)
        clear hb1 HJ he hJ hsz
        go_wp2
        go_ret
        exact ⟨by rw [HJJ.out]; rfl, HB1.out⟩

end Go.Proofs.Ytjmbgpdbnffkpaa
