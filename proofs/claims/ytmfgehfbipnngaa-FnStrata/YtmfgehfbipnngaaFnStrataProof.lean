/- Proved here: FnStrata answers true for every slice of bytes and leaves it as it was, with no condition on it. -/
import Derived.Test.YtmfgehfbipnngaaJ18
import Derived.Test.YtmfgehfbipnngaaJ24
import Derived.StillTailTactics
import Derived.OpenShut
import Derived.ShutString
import Derived.HandedShaped
namespace Go.Proofs.Ytmfgehfbipnngaa.fnStrata
open Go.ChangeShapes Go.WideShapes Go.ChangeAt Go.RowKit
open Pl
set_option linter.unusedVariables false
set_option linter.unusedSimpArgs false
theorem HID {p : Prop} (h : p) : Hid p := h
theorem rel_facts {rs : List TR} (hl : ∀ r ∈ rs, r.light) (ty n : ByteArray) : (relD (tys rs) ty n).length ≤ 15 ∧ ∀ e ∈ relD (tys rs) ty n, e.kids.length ≤ 1048576 ∧ nodeB e = true ∧ kidsRow (relD (tys rs) ty n).length e.kids := by
 unfold relD
 cases hd : schemaD (tys rs) with
 | false => simp
 | true =>
  simp only [if_true]
  unfold relOr
  cases e : relP (tys rs) ty n with
  | none => simp
  | some es =>
   obtain ⟨t, ht, q, hq, -, -, rfl⟩ := relP_row e
   obtain ⟨h1, h2, h3⟩ := (shape_facts (schemaD_iff.1 hd).1).2.2 t ht q hq
   simp only [Option.getD_some]
   refine ⟨by rw [exs_len]; exact h2, fun x hx => ?_⟩
   have h4 : (exs q.rows).all nodeB = true := by simp only [specE, Bool.and_eq_true] at h1; exact h1.1.1.1.2
   have h5 := List.all_eq_true.1 h4 x hx
   obtain ⟨y, hy, rfl⟩ := List.mem_map.1 hx
   exact ⟨(((hl t ht).2 q hq).2 y hy).2, h5, by rw [exs_len]; exact h3 y hy⟩
theorem node_name {e : Ex} (h : nodeB e = true) (h2 : e.kind = 2) : e.name.size ≤ 12 := by
 unfold nodeB at h
 rw [if_neg (by rw [h2]; decide), if_pos h2] at h
 simp only [Bool.and_eq_true] at h
 have : nameB e.name = true := by
  first | exact h.1 | exact h.2 | exact h.1.1 | exact h.1.2 | exact h.1.1.1 | exact h.1.1.2 | exact h.1.1.1.1 | exact h.1.1.1.2
 exact (nameB_le this).2
structure St (w : World) (adS : Option Addr) (rs : List TR) (adE : Option Addr) (qs : List ER) (W : World) : Prop where
 bel : Below w.heap.size w W
 sl : SlT W adS rs
 ex : SlE W adE qs
theorem St.later {w W W' : World} {adS adE : Option Addr} {rs : List TR} {qs : List ER} (h : St w adS rs adE qs W) (hb : Below W.heap.size W W') : St w adS rs adE qs W' :=
 ⟨h.bel.trans (hb.mono h.bel.size), h.sl.below hb, h.ex.below hb⟩
set_option maxRecDepth 100000 in
set_option maxHeartbeats 8000000 in
theorem walk (ad : Option Addr) (len cap : Nat) (w : World) (h : Bytes w ad len) :
  Calls Try.prog 3 #[.slice ad len cap] w fun e w' => e = .returned (.bool true) ∧ Below w.heap.size w w' := by
 have H := HID h
 clear h
 go_enter Try.func3, Try.ntmps3
 go_wp2_with fail
 refine (big_any ad len cap w).mono ?_
 rintro e w0 ⟨rfl, rfl⟩
 by_cases hbig : (1048576 : Int) < (len : Int)
 ·go_wp2
  go_ret
  exact ⟨rfl, Below.refl _ _⟩
 go_wp2_with fail
 refine (drawStrat_any ad len cap _ H.out).mono ?_
 rintro e w1 ⟨v, rs, ty, n, rfl, ⟨zt, zn⟩, hT, ⟨hG1, hG2, hG3⟩, hb1⟩
 obtain ⟨adS, capS, rfl, hs1, hcp⟩ := hT.read
 have K1 := HID hs1
 have HB1 := HID hb1
 have hlen : rs.length ≤ 1048576 := by omega
 have HL := HID hG2
 have HF := HID hG3
 have HC := HID hcp
 have m1 : ty.size ≤ maxLen := by unfold maxLen; omega
 have m2 : n.size ≤ maxLen := by unfold maxLen; omega
 clear hT hG2 hG3 hcp hb1 hs1 hbig
 go_wp2_with fail
 refine (implStratumOf_any adS capS rs ty n _ hlen K1.out HL.out HF.out HC.out m1 m2).mono ?_
 rintro e w3 ⟨rfl, hb3⟩
 have K3 := HID (K1.out.below hb3)
 have HB3 : Hid (Below w0.heap.size w0 w3) := HB1.out.trans (hb3.mono HB1.out.size)
 clear hb3 K1 HB1
 go_wp2_with fail
 refine (implRelOf_any adS capS rs ty n _ hlen K3.out HL.out HF.out HC.out m1 m2).mono ?_
 rintro e w5 ⟨adE, capE, qs, rfl, hqe, hqs, -, hb5⟩
 have K5 : Hid (St w0 adS rs adE qs w5) := ⟨HB3.out.trans (hb5.mono HB3.out.size), K3.out.below hb5, hqs⟩
 have HQ := HID hqe
 have HTH := HID (strat_there (rs := rs) ty n)
 rw [← hqe] at HTH ⊢
 generalize hN : stratumP (tys rs) (ty, n) = N
 have HN := HID hN
 rw [hN] at HTH
 clear hb5 hqs hqe K3 HB3 hN
 go_wp2_with fail
 refine (specStratumOf_any adS capS rs ty n _ hlen K5.out.sl HL.out HF.out).mono ?_
 rintro e w6 ⟨rfl, hb6⟩
 rw [HN.out]
 have K6 := HID (K5.out.later hb6)
 clear hb6 K5
 cases hE : (exs qs).isEmpty with
 | true =>
  have hge : decide ((0 : Int) ≤ N) = false := by rw [HTH.out, hE]; rfl
  go_wp2_with fail
  refine (specStratumOf_any adS capS rs ty n _ hlen K6.out.sl HL.out HF.out).mono ?_
  rintro e w7 ⟨rfl, hb7⟩
  rw [HN.out]
  have K7 := HID (K6.out.later hb7)
  clear hb7
  go_wp2
  go_ret
  exact ⟨rfl, K7.out.bel⟩
 | false =>
  have hge : decide ((0 : Int) ≤ N) = true := by rw [HTH.out, hE]; rfl
  have hD : relD (tys rs) ty n ≠ [] := fun e => by rw [HQ.out, e] at hE; cases hE
  have hS : SchemaP (tys rs) := by
   rw [← schemaD_iff]
   cases hd : schemaD (tys rs) with
   | true => rfl
   | false => exact absurd (by unfold relD; rw [hd]; rfl) hD
  have hRO : relOr (tys rs) ty n = exs qs := by rw [HQ.out]; unfold relD; rw [schemaD_iff.2 hS]; rfl
  have HKEY : Hid ((ty, n) ∈ ents (tys rs)) := by
   show _ ∈ _
   cases e : relP (tys rs) ty n with
   | none => exact absurd (by rw [HQ.out.symm, ← hRO]; unfold relOr; rw [e]; rfl) hD
   | some es => exact key_there e
  have HSTR : Hid (∀ (i : Nat) (hi : i < qs.length), qs[i].e.kind = 2 → 0 ≤ stratumP (tys rs) (ty, qs[i].e.name) ∧ stratumP (tys rs) (ty, qs[i].e.name) + (if (negP (exs qs)).getD i false then 1 else 0) ≤ N) := fun i hi hk => by
   have := strat_rel hS HKEY.out (i := i) (e := qs[i].e) (by rw [hRO]; simp [exs, hi]) hk
   rw [hRO, HN.out] at this
   exact this
  have HFT : Hid (∀ r ∈ qs, r.e.kids.length ≤ 1048576 ∧ nodeB r.e = true ∧ kidsRow qs.length r.e.kids) := fun r hr => by
   have h1 := (rel_facts HL.out ty n).2 r.e (by rw [← HQ.out]; exact List.mem_map.2 ⟨r, hr, rfl⟩)
   rw [← HQ.out, exs_len] at h1
   exact h1
  have hql : qs.length ≤ 15 := by have := (rel_facts HL.out ty n).1; rw [← HQ.out, exs_len] at this; exact this
  clear hD hS hRO HKEY HTH HQ
  obtain ⟨inf, hi, hz0, hz1, hz2⟩ := info_parts info_boolS
  go_wp2_with (at_make; refine wpList_make_full _ rfl _ _ 31 rfl w6.heap.size 4 inf (.bool false) 1 Try.underlying31 hi hz0 hz1 .i64 .i64 _ _ qs.length rfl rfl rfl rfl (by rw [hz2]; omega) (by unfold maxLen; omega) (Nat.le_refl _) ?_; intro w7 hown0 hgrow0)
  have HF0 : Hid (Fil w6 w7 w6.heap.size qs.length (bools (List.replicate qs.length false))) := by
   have := fil_bools (v := .bool false) hown0 hgrow0
   show Fil _ _ _ _ _
   simpa [bools] using this
  clear hown0 hgrow0 hi hz0 hz1 hz2
  go_loopw [10] (fun i wr => ∃ (m : Nat) (out : List Bool), m ≤ qs.length ∧ i = .int .i64 ((m : Int) - 1) ∧ out.length = qs.length ∧ Hid (negDown (exs qs) m out = negP (exs qs)) ∧ Hid (Fil w6 wr w6.heap.size qs.length (bools out))) (fun i _ => (intOf i + 1).toNat)
  case atStart => exact ⟨qs.length, List.replicate qs.length false, Nat.le_refl _, by go_num, by simp, (by show _ = _; unfold negP; rw [exs_len]), HF0⟩
  case round =>
   obtain ⟨m, out, hm, rfl, hol, HND, HFL⟩ := hrel
   by_cases hm0 : 0 < m
   ·obtain ⟨m, rfl⟩ : ∃ m', m = m' + 1 := ⟨m - 1, by omega⟩
    have hmi : (((m + 1 : Nat) : Int) - 1) = (m : Int) := by omega
    rw [hmi]
    have hlt : m < qs.length := by omega
    obtain ⟨bE, offE, rfl, hbE⟩ : ∃ bE offE, adE = some ⟨bE, offE, none⟩ ∧ bE < w6.heap.size := by
     rcases K6.out.ex with hnil | ⟨b0, off, e0, hb0, -⟩
     ·rw [hnil] at hlt; simp at hlt
     ·exact ⟨b0, off, e0, hb0⟩
    have HAT : Hid (∀ W, Below w6.heap.size w6 W → At5 W bE (offE + m * 5) qs[m] ∧ qs[m].ok W) := fun W hW => by
     rcases K6.out.ex.below hW with hnil | ⟨b0, off, e0, hb0, hr, hok⟩
     ·exact absurd hlt (by rw [hnil]; simp)
     ·injection e0 with e0; injection e0 with e1 e2
      subst e1; subst e2
      exact ⟨hr m hlt, hok _ (List.getElem_mem hlt)⟩
    obtain ⟨lg, -, hki⟩ := HFT.out qs[m] (List.getElem_mem hlt)
    have HKI := HID hki
    have hk1 : (0 : Int) ≤ (m : Int) := by omega
    have hk2 : (m : Int) < (qs.length : Int) := by omega
    have HNX : Hid (negDown (exs qs) m (negKids m qs[m].e.kind qs[m].e.kids 0 out) = negP (exs qs)) := by
     show _ = _
     rw [← HND.out, negDown_at _ _ _ (by rw [exs_len]; exact hlt)]
     simp [exs]
    clear hki hmi
    go_wp2_with fail
    go_loopw [11] (fun i w2 => ∃ (j : Nat) (out2 : List Bool), j ≤ qs[m].e.kids.length ∧ i = .int .i64 (j : Int) ∧ out2.length = qs.length ∧ Hid (negKids m qs[m].e.kind (qs[m].e.kids.drop j) j out2 = negKids m qs[m].e.kind qs[m].e.kids 0 out) ∧ Hid (Fil w6 w2 w6.heap.size qs.length (bools out2))) (fun i _ => qs[m].e.kids.length - (intOf i).toNat)
    case atStart => exact ⟨0, out, Nat.zero_le _, rfl, hol, rfl, HFL⟩
    case round =>
     obtain ⟨j, out2, hj, rfl, ho2, HJ, HF2⟩ := hrel
     obtain ⟨⟨t0, t1, t2, t3, t4⟩, hok⟩ := HAT.out wr HF2.out.below
     by_cases hjl : j < qs[m].e.kids.length
     ·rcases hok.2 with hnil | ⟨ba, offa, hadK, hba, hra⟩
      ·rw [hnil] at hjl; simp at hjl
      rw [hadK] at t4
      have q0 := hra j hjl
      have hj1 : (0 : Int) ≤ (j : Int) := by omega
      have hj2 : (j : Int) < (qs[m].e.kids.length : Int) := by omega
      obtain ⟨x0, x1⟩ := HKI.out _ (List.getElem_mem hjl)
      obtain ⟨x, hx⟩ : ∃ x : Nat, qs[m].e.kids[j] = (x : Int) := ⟨qs[m].e.kids[j].toNat, by omega⟩
      rw [hx] at q0 x0 x1
      have HX := HID hx
      have c0 := HF2.out.done m (by simp [bools]; omega)
      have fz := HF2.out.free
      obtain ⟨v0, u0⟩ := Option.isSome_iff_exists.mp (HF2.out.there x (by omega))
      have hm2 : m < out2.length := by omega
      have hbo1 : (bools out2)[m]'(by simp [bools]; omega) = .bool out2[m] := by simp [bools]
      have HBO : Hid (out2.getD m false = out2[m]) := by show _ = _; rw [List.getD_eq_getElem?_getD, List.getElem?_eq_getElem hm2]; rfl
      rw [hbo1] at c0
      have hbr : bE < wr.heap.size := Nat.lt_of_lt_of_le hbE HF2.out.below.size
      have HDR : Hid (negKids m qs[m].e.kind (qs[m].e.kids.drop (j + 1)) (j + 1) (out2.set x (out2[m] || (qs[m].e.kind == 6 && j == 1))) = negKids m qs[m].e.kind qs[m].e.kids 0 out) := by
       show _ = _
       rw [← HJ.out, negKids_drop _ _ _ _ _ hjl, HX.out, HBO.out]; rfl
      clear hra hadK hok t1 t2 t3 hbo1 hx
      cases hb0 : out2[m] with
      | true =>
       rw [hb0] at c0
       go_wp2_with fail
       refine wp_region_mid0 26 (fun n => (u81 :: u82 :: u83 :: u84 :: u85 :: u86 :: u87 :: u88 :: u89 :: u90 :: u91 :: u92 :: u93 :: u94 :: u95 :: u96 :: u97 :: u98 :: u99 :: u100 :: u101 :: u102 :: u103 :: u104 :: u105 :: u106 :: []).getD n undef) (fun f => { tmps := List.toArray (Value.slice ad len cap :: undef :: Value.bool false :: Value.slice adS rs.length capS :: Value.string ty :: Value.string n :: Value.int IntKind.i64 N :: Value.slice (some { block := bE, off := offE }) qs.length capE :: Value.bool true :: Value.slice (some { block := w6.heap.size, off := 0 }) qs.length qs.length :: Value.int IntKind.i64 (m : Int) :: Value.int IntKind.i64 (j : Int) :: undef :: undef :: Value.slice ad len cap :: Value.bool (decide (1048576 < (len : Int))) :: Value.tuple #[Value.slice adS rs.length capS, Value.string ty, Value.string n] :: Value.slice ad len cap :: Value.tuple #[Value.slice adS rs.length capS, Value.string ty, Value.string n] :: Value.slice adS rs.length capS :: Value.string ty :: Value.string n :: Value.slice adS rs.length capS :: Value.string ty :: Value.string n :: Value.int IntKind.i64 N :: Value.tuple #[Value.slice (some { block := bE, off := offE }) qs.length capE, Value.bool true] :: Value.slice adS rs.length capS :: Value.string ty :: Value.string n :: Value.tuple #[Value.slice (some { block := bE, off := offE }) qs.length capE, Value.bool true] :: Value.slice (some { block := bE, off := offE }) qs.length capE :: Value.bool true :: Value.int IntKind.i64 N :: Value.slice adS rs.length capS :: Value.string ty :: Value.string n :: Value.int IntKind.i64 N :: Value.bool false :: Value.bool false :: Value.bool true :: Value.int IntKind.i64 N :: Value.bool true :: Value.bool false :: Value.bool false :: Value.bool false :: Value.bool true :: Value.bool false :: Value.bool false :: undef :: undef :: undef :: undef :: undef :: undef :: undef :: undef :: undef :: undef :: undef :: undef :: Value.slice (some { block := bE, off := offE }) qs.length capE :: Value.int IntKind.i64 (qs.length : Int) :: Value.slice (some { block := w6.heap.size, off := 0 }) qs.length qs.length :: Value.slice (some { block := bE, off := offE }) qs.length capE :: Value.int IntKind.i64 (qs.length : Int) :: Value.int IntKind.i64 ((qs.length : Int) - 1) :: Value.int IntKind.i64 (m : Int) :: Value.bool true :: u69 :: u70 :: Value.int IntKind.i64 (j : Int) :: Value.slice (some { block := bE, off := offE }) qs.length capE :: Value.int IntKind.i64 (m : Int) :: Value.pointer (some { block := bE, off := offE + m * 5 }) :: Value.pointer (some { block := bE, off := offE + m * 5 + 4 }) :: Value.slice (some { block := ba, off := offa }) qs[m].e.kids.length qs[m].capK :: Value.int IntKind.i64 (qs[m].e.kids.length : Int) :: Value.bool true :: u79 :: u80 :: f 0 :: f 1 :: f 2 :: f 3 :: f 4 :: f 5 :: f 6 :: f 7 :: f 8 :: f 9 :: f 10 :: f 11 :: f 12 :: f 13 :: f 14 :: f 15 :: f 16 :: f 17 :: f 18 :: f 19 :: f 20 :: f 21 :: f 22 :: f 23 :: f 24 :: f 25 :: undef :: undef :: undef :: undef :: undef :: undef :: undef :: undef :: undef :: undef :: undef :: undef :: undef :: undef :: undef :: undef :: undef :: undef :: undef :: undef :: undef :: undef :: undef :: undef :: undef :: undef :: undef :: undef :: undef :: undef :: undef :: undef :: undef :: undef :: undef :: undef :: undef :: undef :: []), defers := [] }) (fun n v _ => v = (Value.slice (some { block := w6.heap.size, off := 0 }) qs.length qs.length :: Value.slice (some { block := bE, off := offE }) qs.length capE :: Value.int IntKind.i64 (m : Int) :: Value.pointer (some ⟨bE, offE + m * 5, none⟩) :: Value.pointer (some ⟨bE, offE + m * 5 + 4, none⟩) :: Value.slice (some ⟨ba, offa, none⟩) qs[m].e.kids.length qs[m].capK :: Value.int IntKind.i64 (j : Int) :: Value.pointer (some ⟨ba, offa + j, none⟩) :: Value.int .i64 (x : Int) :: Value.slice (some { block := w6.heap.size, off := 0 }) qs.length qs.length :: Value.int IntKind.i64 (m : Int) :: Value.pointer (some ⟨w6.heap.size, m, none⟩) :: Value.bool true :: Value.bool true :: undef :: undef :: undef :: undef :: undef :: undef :: undef :: undef :: undef :: undef :: Value.bool true :: Value.pointer (some ⟨w6.heap.size, x, none⟩) :: []).getD n undef) (fun w' => Below wr.heap.size wr w') (by kernel_rfl) rfl (by kernel_rfl) (by kernel_rfl) rfl (Below.refl _ _).drew ?step1 ?fin1
       case step1 =>
        rintro i hi o ho f w' hG hpre
        have HG : Hid (Below wr.heap.size wr w') := hG
        replace t0 := kept5 hG hbr t0
        replace t4 := kept5 hG hbr t4
        replace q0 := kept5 hG hba q0
        replace c0 := kept5 hG HF2.out.lt c0
        have HM : Hid (∀ e ∈ o.after, Region.binds .any e = true → _) := hpre
        clear hG hpre
        have hc : i = 0 ∨ i = 1 ∨ i = 2 ∨ i = 3 ∨ i = 4 ∨ i = 5 ∨ i = 6 ∨ i = 7 ∨ i = 8 ∨ i = 9 ∨ i = 10 ∨ i = 11 ∨ i = 12 ∨ i = 13 ∨ i = 14 ∨ i = 15 ∨ i = 16 ∨ i = 17 ∨ i = 18 ∨ i = 19 ∨ i = 20 ∨ i = 21 ∨ i = 22 ∨ i = 23 ∨ i = 24 ∨ i = 25 := by omega
        clear hi
        rcases hc with rfl | rfl | rfl | rfl | rfl | rfl | rfl | rfl | rfl | rfl | rfl | rfl | rfl | rfl | rfl | rfl | rfl | rfl | rfl | rfl | rfl | rfl | rfl | rfl | rfl | rfl
        ·obtain rfl := Option.some.inj ho
         clear ho HM
         refine wpOp_step rfl (fun K hK => ?_)
         have HK : Hid (∀ a w, _ → K a w) := hK
         clear hK
         dsimp only
         go_simp
         exact HK.out _ _ ⟨Value.slice (some { block := w6.heap.size, off := 0 }) qs.length qs.length, by simp [upd], HG.out, rfl, fun k u hu => hu⟩
        ·obtain rfl := Option.some.inj ho
         clear ho HM
         refine wpOp_step rfl (fun K hK => ?_)
         have HK : Hid (∀ a w, _ → K a w) := hK
         clear hK
         dsimp only
         go_simp
         exact HK.out _ _ ⟨Value.slice (some { block := bE, off := offE }) qs.length capE, by simp [upd], HG.out, rfl, fun k u hu => hu⟩
        ·obtain rfl := Option.some.inj ho
         clear ho HM
         refine wpOp_step rfl (fun K hK => ?_)
         have HK : Hid (∀ a w, _ → K a w) := hK
         clear hK
         dsimp only
         go_simp
         exact HK.out _ _ ⟨Value.int IntKind.i64 (m : Int), by simp [upd], HG.out, rfl, fun k u hu => hu⟩
        ·obtain rfl := Option.some.inj ho
         have e1 : f 1 = Value.slice (some { block := bE, off := offE }) qs.length capE := HM.out { on := 1, ground := .data } (by simp) rfl
         have e2 : f 2 = Value.int IntKind.i64 (m : Int) := HM.out { on := 2, ground := .data } (by simp) rfl
         clear ho HM
         refine wpOp_step rfl (fun K hK => ?_)
         have HK : Hid (∀ a w, _ → K a w) := hK
         clear hK
         simp only [e1, e2]
         go_simp
         exact HK.out _ _ ⟨Value.pointer (some ⟨bE, offE + m * 5, none⟩), by simp [upd, e1, e2], HG.out, rfl, fun k u hu => hu⟩
        ·obtain rfl := Option.some.inj ho
         have e3 : f 3 = Value.pointer (some ⟨bE, offE + m * 5, none⟩) := HM.out { on := 3, ground := .data } (by simp) rfl
         clear ho HM
         refine wpOp_step rfl (fun K hK => ?_)
         have HK : Hid (∀ a w, _ → K a w) := hK
         clear hK
         simp only [e3]
         go_simp
         exact HK.out _ _ ⟨Value.pointer (some ⟨bE, offE + m * 5 + 4, none⟩), by simp [upd, e3], HG.out, rfl, fun k u hu => hu⟩
        ·obtain rfl := Option.some.inj ho
         have e4 : f 4 = Value.pointer (some ⟨bE, offE + m * 5 + 4, none⟩) := HM.out { on := 4, ground := .data } (by simp) rfl
         clear ho HM
         refine wpOp_step rfl (fun K hK => ?_)
         have HK : Hid (∀ a w, _ → K a w) := hK
         clear hK
         simp only [e4]
         go_simp
         exact HK.out _ _ ⟨Value.slice (some ⟨ba, offa, none⟩) qs[m].e.kids.length qs[m].capK, by simp [upd, e4], HG.out, rfl, fun k u hu => hu⟩
        ·obtain rfl := Option.some.inj ho
         clear ho HM
         refine wpOp_step rfl (fun K hK => ?_)
         have HK : Hid (∀ a w, _ → K a w) := hK
         clear hK
         dsimp only
         go_simp
         exact HK.out _ _ ⟨Value.int IntKind.i64 (j : Int), by simp [upd], HG.out, rfl, fun k u hu => hu⟩
        ·obtain rfl := Option.some.inj ho
         have e5 : f 5 = Value.slice (some ⟨ba, offa, none⟩) qs[m].e.kids.length qs[m].capK := HM.out { on := 5, ground := .data } (by simp) rfl
         have e6 : f 6 = Value.int IntKind.i64 (j : Int) := HM.out { on := 6, ground := .data } (by simp) rfl
         clear ho HM
         refine wpOp_step rfl (fun K hK => ?_)
         have HK : Hid (∀ a w, _ → K a w) := hK
         clear hK
         simp only [e5, e6]
         go_simp
         exact HK.out _ _ ⟨Value.pointer (some ⟨ba, offa + j, none⟩), by simp [upd, e5, e6], HG.out, rfl, fun k u hu => hu⟩
        ·obtain rfl := Option.some.inj ho
         have e7 : f 7 = Value.pointer (some ⟨ba, offa + j, none⟩) := HM.out { on := 7, ground := .data } (by simp) rfl
         clear ho HM
         refine wpOp_step rfl (fun K hK => ?_)
         have HK : Hid (∀ a w, _ → K a w) := hK
         clear hK
         simp only [e7]
         go_simp
         exact HK.out _ _ ⟨Value.int .i64 (x : Int), by simp [upd, e7], HG.out, rfl, fun k u hu => hu⟩
        ·obtain rfl := Option.some.inj ho
         clear ho HM
         refine wpOp_step rfl (fun K hK => ?_)
         have HK : Hid (∀ a w, _ → K a w) := hK
         clear hK
         dsimp only
         go_simp
         exact HK.out _ _ ⟨Value.slice (some { block := w6.heap.size, off := 0 }) qs.length qs.length, by simp [upd], HG.out, rfl, fun k u hu => hu⟩
        ·obtain rfl := Option.some.inj ho
         clear ho HM
         refine wpOp_step rfl (fun K hK => ?_)
         have HK : Hid (∀ a w, _ → K a w) := hK
         clear hK
         dsimp only
         go_simp
         exact HK.out _ _ ⟨Value.int IntKind.i64 (m : Int), by simp [upd], HG.out, rfl, fun k u hu => hu⟩
        ·obtain rfl := Option.some.inj ho
         have e9 : f 9 = Value.slice (some { block := w6.heap.size, off := 0 }) qs.length qs.length := HM.out { on := 9, ground := .data } (by simp) rfl
         have e10 : f 10 = Value.int IntKind.i64 (m : Int) := HM.out { on := 10, ground := .data } (by simp) rfl
         clear ho HM
         refine wpOp_step rfl (fun K hK => ?_)
         have HK : Hid (∀ a w, _ → K a w) := hK
         clear hK
         simp only [e9, e10]
         go_simp
         exact HK.out _ _ ⟨Value.pointer (some ⟨w6.heap.size, m, none⟩), by simp [upd, e9, e10], HG.out, rfl, fun k u hu => hu⟩
        ·obtain rfl := Option.some.inj ho
         have e11 : f 11 = Value.pointer (some ⟨w6.heap.size, m, none⟩) := HM.out { on := 11, ground := .data } (by simp) rfl
         clear ho HM
         refine wpOp_step rfl (fun K hK => ?_)
         have HK : Hid (∀ a w, _ → K a w) := hK
         clear hK
         simp only [e11]
         go_simp
         exact HK.out _ _ ⟨Value.bool true, by simp [upd, e11], HG.out, rfl, fun k u hu => hu⟩
        ·obtain rfl := Option.some.inj ho
         have e12 : f 12 = Value.bool true := HM.out { on := 12, ground := .data } (by simp) rfl
         clear ho HM
         refine wpOp_step rfl (fun K hK => ?_)
         have HK : Hid (∀ a w, _ → K a w) := hK
         clear hK
         simp only [e12]
         go_simp
         exact HK.out _ _ ⟨Value.bool true, by simp [upd, e12], HG.out, rfl, fun k u hu => hu⟩
        ·obtain rfl := Option.some.inj ho
         have e13 : f 13 = Value.bool true := HM.out { on := 13, ground := .guard } (by simp) rfl
         clear ho HM
         refine wpOp_step rfl (fun K hK => ?_)
         have HK : Hid (∀ a w, _ → K a w) := hK
         clear hK
         simp only [e13]
         go_simp
         exact HK.out _ _ ⟨undef, by simp [upd, e13], HG.out, rfl, fun k u hu => hu⟩
        ·obtain rfl := Option.some.inj ho
         have e13 : f 13 = Value.bool true := HM.out { on := 13, ground := .guard } (by simp) rfl
         clear ho HM
         refine wpOp_step rfl (fun K hK => ?_)
         have HK : Hid (∀ a w, _ → K a w) := hK
         clear hK
         simp only [e13]
         go_simp
         exact HK.out _ _ ⟨undef, by simp [upd, e13], HG.out, rfl, fun k u hu => hu⟩
        ·obtain rfl := Option.some.inj ho
         have e14 : f 14 = undef := HM.out { on := 14, ground := .data } (by simp) rfl
         have e15 : f 15 = undef := HM.out { on := 15, ground := .data } (by simp) rfl
         have e13 : f 13 = Value.bool true := HM.out { on := 13, ground := .guard } (by simp) rfl
         clear ho HM
         refine wpOp_step rfl (fun K hK => ?_)
         have HK : Hid (∀ a w, _ → K a w) := hK
         clear hK
         simp only [e14, e15, e13]
         go_simp
         exact HK.out _ _ ⟨undef, by simp [upd, e14, e15, e13], HG.out, rfl, fun k u hu => hu⟩
        ·obtain rfl := Option.some.inj ho
         have e16 : f 16 = undef := HM.out { on := 16, ground := .data } (by simp) rfl
         have e13 : f 13 = Value.bool true := HM.out { on := 13, ground := .guard } (by simp) rfl
         clear ho HM
         refine wpOp_step rfl (fun K hK => ?_)
         have HK : Hid (∀ a w, _ → K a w) := hK
         clear hK
         simp only [e16, e13]
         go_simp
         exact HK.out _ _ ⟨undef, by simp [upd, e16, e13], HG.out, rfl, fun k u hu => hu⟩
        ·obtain rfl := Option.some.inj ho
         have e17 : f 17 = undef := HM.out { on := 17, ground := .data } (by simp) rfl
         have e13 : f 13 = Value.bool true := HM.out { on := 13, ground := .guard } (by simp) rfl
         clear ho HM
         refine wpOp_step rfl (fun K hK => ?_)
         have HK : Hid (∀ a w, _ → K a w) := hK
         clear hK
         simp only [e17, e13]
         go_simp
         exact HK.out _ _ ⟨undef, by simp [upd, e17, e13], HG.out, rfl, fun k u hu => hu⟩
        ·obtain rfl := Option.some.inj ho
         have e18 : f 18 = undef := HM.out { on := 18, ground := .data } (by simp) rfl
         have e13 : f 13 = Value.bool true := HM.out { on := 13, ground := .guard } (by simp) rfl
         clear ho HM
         refine wpOp_step rfl (fun K hK => ?_)
         have HK : Hid (∀ a w, _ → K a w) := hK
         clear hK
         simp only [e18, e13]
         go_simp
         exact HK.out _ _ ⟨undef, by simp [upd, e18, e13], HG.out, rfl, fun k u hu => hu⟩
        ·obtain rfl := Option.some.inj ho
         have e19 : f 19 = undef := HM.out { on := 19, ground := .data } (by simp) rfl
         have e13 : f 13 = Value.bool true := HM.out { on := 13, ground := .guard } (by simp) rfl
         clear ho HM
         refine wpOp_step rfl (fun K hK => ?_)
         have HK : Hid (∀ a w, _ → K a w) := hK
         clear hK
         simp only [e19, e13]
         go_simp
         exact HK.out _ _ ⟨undef, by simp [upd, e19, e13], HG.out, rfl, fun k u hu => hu⟩
        ·obtain rfl := Option.some.inj ho
         have e20 : f 20 = undef := HM.out { on := 20, ground := .guard } (by simp) rfl
         clear ho HM
         refine wpOp_step rfl (fun K hK => ?_)
         have HK : Hid (∀ a w, _ → K a w) := hK
         clear hK
         simp only [e20]
         go_simp
         exact HK.out _ _ ⟨undef, by simp [upd, e20], HG.out, rfl, fun k u hu => hu⟩
        ·obtain rfl := Option.some.inj ho
         have e21 : f 21 = undef := HM.out { on := 21, ground := .data } (by simp) rfl
         have e20 : f 20 = undef := HM.out { on := 20, ground := .guard } (by simp) rfl
         clear ho HM
         refine wpOp_step rfl (fun K hK => ?_)
         have HK : Hid (∀ a w, _ → K a w) := hK
         clear hK
         simp only [e21, e20]
         go_simp
         exact HK.out _ _ ⟨undef, by simp [upd, e21, e20], HG.out, rfl, fun k u hu => hu⟩
        ·obtain rfl := Option.some.inj ho
         have e20 : f 20 = undef := HM.out { on := 20, ground := .data } (by simp) rfl
         have e22 : f 22 = undef := HM.out { on := 22, ground := .data } (by simp) rfl
         have e13 : f 13 = Value.bool true := HM.out { on := 13, ground := .guard } (by simp) rfl
         clear ho HM
         refine wpOp_step rfl (fun K hK => ?_)
         have HK : Hid (∀ a w, _ → K a w) := hK
         clear hK
         simp only [e20, e22, e13]
         go_simp
         exact HK.out _ _ ⟨undef, by simp [upd, e20, e22, e13], HG.out, rfl, fun k u hu => hu⟩
        ·obtain rfl := Option.some.inj ho
         have e13 : f 13 = Value.bool true := HM.out { on := 13, ground := .data } (by simp) rfl
         have e23 : f 23 = undef := HM.out { on := 23, ground := .data } (by simp) rfl
         clear ho HM
         refine wpOp_step rfl (fun K hK => ?_)
         have HK : Hid (∀ a w, _ → K a w) := hK
         clear hK
         simp only [e13, e23]
         go_simp
         exact HK.out _ _ ⟨Value.bool true, by simp [upd, e13, e23], HG.out, rfl, fun k u hu => hu⟩
        ·obtain rfl := Option.some.inj ho
         have e0 : f 0 = Value.slice (some { block := w6.heap.size, off := 0 }) qs.length qs.length := HM.out { on := 0, ground := .data } (by simp) rfl
         have e8 : f 8 = Value.int .i64 (x : Int) := HM.out { on := 8, ground := .data } (by simp) rfl
         clear ho HM
         refine wpOp_step rfl (fun K hK => ?_)
         have HK : Hid (∀ a w, _ → K a w) := hK
         clear hK
         simp only [e0, e8]
         go_simp
         exact HK.out _ _ ⟨Value.pointer (some ⟨w6.heap.size, x, none⟩), by simp [upd, e0, e8], HG.out, rfl, fun k u hu => hu⟩
       case fin1 =>
        rintro o ho f w' hG hall
        have e24 : f 24 = Value.bool true := hall 24 (by omega)
        have e25 : f 25 = Value.pointer (some ⟨w6.heap.size, x, none⟩) := hall 25 (by omega)
        replace u0 := kept5 hG HF2.out.lt u0
        have hF3 := HF2.out.later hG
        replace fz := hF3.free
        have HF4 : Hid (Fil w6 (w'.setCell ⟨w6.heap.size, x, none⟩ (.bool true)) w6.heap.size qs.length (bools (out2.set x true))) := by show Fil _ _ _ _ _; rw [bools_set]; exact hF3.set _ (by simp [bools]; omega) (by omega)
        have HJ2 : Hid (negKids m qs[m].e.kind (qs[m].e.kids.drop (j + 1)) (j + 1) (out2.set x true) = negKids m qs[m].e.kind qs[m].e.kids 0 out) := by
         have h := HDR.out
         simp only [hb0, Bool.true_or, Bool.false_or, Bool.and_true, Bool.and_false, Bool.true_and, Bool.false_and] at h
         exact h
        clear hG hall hF3
        obtain rfl := Option.some.inj ho
        clear ho
        refine wpOp_step rfl (fun K hK => ?_)
        have HK : Hid (∀ a w, _ → K a w) := hK
        clear hK
        simp only [e24, e25]
        go_simp
        refine HK.out _ _ ?_
        clear HK
        go_wp2
        go_roundw
        case rel => exact ⟨j + 1, out2.set x true, by omega, by go_num, by simp [ho2], HJ2, HF4⟩
        case measure => first | (simp [intOf]; done) | (simp [intOf]; omega)
      | false =>
       rw [hb0] at c0
       cases hkb : (qs[m].e.kind == 6) with
       | false =>
        go_wp2_with fail
        refine wp_region_mid0 26 (fun n => (u81 :: u82 :: u83 :: u84 :: u85 :: u86 :: u87 :: u88 :: u89 :: u90 :: u91 :: u92 :: u93 :: u94 :: u95 :: u96 :: u97 :: u98 :: u99 :: u100 :: u101 :: u102 :: u103 :: u104 :: u105 :: u106 :: []).getD n undef) (fun f => { tmps := List.toArray (Value.slice ad len cap :: undef :: Value.bool false :: Value.slice adS rs.length capS :: Value.string ty :: Value.string n :: Value.int IntKind.i64 N :: Value.slice (some { block := bE, off := offE }) qs.length capE :: Value.bool true :: Value.slice (some { block := w6.heap.size, off := 0 }) qs.length qs.length :: Value.int IntKind.i64 (m : Int) :: Value.int IntKind.i64 (j : Int) :: undef :: undef :: Value.slice ad len cap :: Value.bool (decide (1048576 < (len : Int))) :: Value.tuple #[Value.slice adS rs.length capS, Value.string ty, Value.string n] :: Value.slice ad len cap :: Value.tuple #[Value.slice adS rs.length capS, Value.string ty, Value.string n] :: Value.slice adS rs.length capS :: Value.string ty :: Value.string n :: Value.slice adS rs.length capS :: Value.string ty :: Value.string n :: Value.int IntKind.i64 N :: Value.tuple #[Value.slice (some { block := bE, off := offE }) qs.length capE, Value.bool true] :: Value.slice adS rs.length capS :: Value.string ty :: Value.string n :: Value.tuple #[Value.slice (some { block := bE, off := offE }) qs.length capE, Value.bool true] :: Value.slice (some { block := bE, off := offE }) qs.length capE :: Value.bool true :: Value.int IntKind.i64 N :: Value.slice adS rs.length capS :: Value.string ty :: Value.string n :: Value.int IntKind.i64 N :: Value.bool false :: Value.bool false :: Value.bool true :: Value.int IntKind.i64 N :: Value.bool true :: Value.bool false :: Value.bool false :: Value.bool false :: Value.bool true :: Value.bool false :: Value.bool false :: undef :: undef :: undef :: undef :: undef :: undef :: undef :: undef :: undef :: undef :: undef :: undef :: Value.slice (some { block := bE, off := offE }) qs.length capE :: Value.int IntKind.i64 (qs.length : Int) :: Value.slice (some { block := w6.heap.size, off := 0 }) qs.length qs.length :: Value.slice (some { block := bE, off := offE }) qs.length capE :: Value.int IntKind.i64 (qs.length : Int) :: Value.int IntKind.i64 ((qs.length : Int) - 1) :: Value.int IntKind.i64 (m : Int) :: Value.bool true :: u69 :: u70 :: Value.int IntKind.i64 (j : Int) :: Value.slice (some { block := bE, off := offE }) qs.length capE :: Value.int IntKind.i64 (m : Int) :: Value.pointer (some { block := bE, off := offE + m * 5 }) :: Value.pointer (some { block := bE, off := offE + m * 5 + 4 }) :: Value.slice (some { block := ba, off := offa }) qs[m].e.kids.length qs[m].capK :: Value.int IntKind.i64 (qs[m].e.kids.length : Int) :: Value.bool true :: u79 :: u80 :: f 0 :: f 1 :: f 2 :: f 3 :: f 4 :: f 5 :: f 6 :: f 7 :: f 8 :: f 9 :: f 10 :: f 11 :: f 12 :: f 13 :: f 14 :: f 15 :: f 16 :: f 17 :: f 18 :: f 19 :: f 20 :: f 21 :: f 22 :: f 23 :: f 24 :: f 25 :: undef :: undef :: undef :: undef :: undef :: undef :: undef :: undef :: undef :: undef :: undef :: undef :: undef :: undef :: undef :: undef :: undef :: undef :: undef :: undef :: undef :: undef :: undef :: undef :: undef :: undef :: undef :: undef :: undef :: undef :: undef :: undef :: undef :: undef :: undef :: undef :: undef :: undef :: []), defers := [] }) (fun n v _ => v = (Value.slice (some { block := w6.heap.size, off := 0 }) qs.length qs.length :: Value.slice (some { block := bE, off := offE }) qs.length capE :: Value.int IntKind.i64 (m : Int) :: Value.pointer (some ⟨bE, offE + m * 5, none⟩) :: Value.pointer (some ⟨bE, offE + m * 5 + 4, none⟩) :: Value.slice (some ⟨ba, offa, none⟩) qs[m].e.kids.length qs[m].capK :: Value.int IntKind.i64 (j : Int) :: Value.pointer (some ⟨ba, offa + j, none⟩) :: Value.int .i64 (x : Int) :: Value.slice (some { block := w6.heap.size, off := 0 }) qs.length qs.length :: Value.int IntKind.i64 (m : Int) :: Value.pointer (some ⟨w6.heap.size, m, none⟩) :: Value.bool false :: Value.bool false :: Value.slice (some { block := bE, off := offE }) qs.length capE :: Value.int IntKind.i64 (m : Int) :: Value.pointer (some ⟨bE, offE + m * 5, none⟩) :: Value.pointer (some ⟨bE, offE + m * 5, none⟩) :: Value.int .i64 qs[m].e.kind :: Value.bool false :: Value.bool false :: undef :: undef :: Value.bool false :: Value.bool false :: Value.pointer (some ⟨w6.heap.size, x, none⟩) :: []).getD n undef) (fun w' => Below wr.heap.size wr w') (by kernel_rfl) rfl (by kernel_rfl) (by kernel_rfl) rfl (Below.refl _ _).drew ?step2 ?fin2
        case step2 =>
         rintro i hi o ho f w' hG hpre
         have HG : Hid (Below wr.heap.size wr w') := hG
         replace t0 := kept5 hG hbr t0
         replace t4 := kept5 hG hbr t4
         replace q0 := kept5 hG hba q0
         replace c0 := kept5 hG HF2.out.lt c0
         have HM : Hid (∀ e ∈ o.after, Region.binds .any e = true → _) := hpre
         clear hG hpre
         have hc : i = 0 ∨ i = 1 ∨ i = 2 ∨ i = 3 ∨ i = 4 ∨ i = 5 ∨ i = 6 ∨ i = 7 ∨ i = 8 ∨ i = 9 ∨ i = 10 ∨ i = 11 ∨ i = 12 ∨ i = 13 ∨ i = 14 ∨ i = 15 ∨ i = 16 ∨ i = 17 ∨ i = 18 ∨ i = 19 ∨ i = 20 ∨ i = 21 ∨ i = 22 ∨ i = 23 ∨ i = 24 ∨ i = 25 := by omega
         clear hi
         rcases hc with rfl | rfl | rfl | rfl | rfl | rfl | rfl | rfl | rfl | rfl | rfl | rfl | rfl | rfl | rfl | rfl | rfl | rfl | rfl | rfl | rfl | rfl | rfl | rfl | rfl | rfl
         ·obtain rfl := Option.some.inj ho
          clear ho HM
          refine wpOp_step rfl (fun K hK => ?_)
          have HK : Hid (∀ a w, _ → K a w) := hK
          clear hK
          dsimp only
          go_simp
          exact HK.out _ _ ⟨Value.slice (some { block := w6.heap.size, off := 0 }) qs.length qs.length, by simp [upd], HG.out, rfl, fun k u hu => hu⟩
         ·obtain rfl := Option.some.inj ho
          clear ho HM
          refine wpOp_step rfl (fun K hK => ?_)
          have HK : Hid (∀ a w, _ → K a w) := hK
          clear hK
          dsimp only
          go_simp
          exact HK.out _ _ ⟨Value.slice (some { block := bE, off := offE }) qs.length capE, by simp [upd], HG.out, rfl, fun k u hu => hu⟩
         ·obtain rfl := Option.some.inj ho
          clear ho HM
          refine wpOp_step rfl (fun K hK => ?_)
          have HK : Hid (∀ a w, _ → K a w) := hK
          clear hK
          dsimp only
          go_simp
          exact HK.out _ _ ⟨Value.int IntKind.i64 (m : Int), by simp [upd], HG.out, rfl, fun k u hu => hu⟩
         ·obtain rfl := Option.some.inj ho
          have e1 : f 1 = Value.slice (some { block := bE, off := offE }) qs.length capE := HM.out { on := 1, ground := .data } (by simp) rfl
          have e2 : f 2 = Value.int IntKind.i64 (m : Int) := HM.out { on := 2, ground := .data } (by simp) rfl
          clear ho HM
          refine wpOp_step rfl (fun K hK => ?_)
          have HK : Hid (∀ a w, _ → K a w) := hK
          clear hK
          simp only [e1, e2]
          go_simp
          exact HK.out _ _ ⟨Value.pointer (some ⟨bE, offE + m * 5, none⟩), by simp [upd, e1, e2], HG.out, rfl, fun k u hu => hu⟩
         ·obtain rfl := Option.some.inj ho
          have e3 : f 3 = Value.pointer (some ⟨bE, offE + m * 5, none⟩) := HM.out { on := 3, ground := .data } (by simp) rfl
          clear ho HM
          refine wpOp_step rfl (fun K hK => ?_)
          have HK : Hid (∀ a w, _ → K a w) := hK
          clear hK
          simp only [e3]
          go_simp
          exact HK.out _ _ ⟨Value.pointer (some ⟨bE, offE + m * 5 + 4, none⟩), by simp [upd, e3], HG.out, rfl, fun k u hu => hu⟩
         ·obtain rfl := Option.some.inj ho
          have e4 : f 4 = Value.pointer (some ⟨bE, offE + m * 5 + 4, none⟩) := HM.out { on := 4, ground := .data } (by simp) rfl
          clear ho HM
          refine wpOp_step rfl (fun K hK => ?_)
          have HK : Hid (∀ a w, _ → K a w) := hK
          clear hK
          simp only [e4]
          go_simp
          exact HK.out _ _ ⟨Value.slice (some ⟨ba, offa, none⟩) qs[m].e.kids.length qs[m].capK, by simp [upd, e4], HG.out, rfl, fun k u hu => hu⟩
         ·obtain rfl := Option.some.inj ho
          clear ho HM
          refine wpOp_step rfl (fun K hK => ?_)
          have HK : Hid (∀ a w, _ → K a w) := hK
          clear hK
          dsimp only
          go_simp
          exact HK.out _ _ ⟨Value.int IntKind.i64 (j : Int), by simp [upd], HG.out, rfl, fun k u hu => hu⟩
         ·obtain rfl := Option.some.inj ho
          have e5 : f 5 = Value.slice (some ⟨ba, offa, none⟩) qs[m].e.kids.length qs[m].capK := HM.out { on := 5, ground := .data } (by simp) rfl
          have e6 : f 6 = Value.int IntKind.i64 (j : Int) := HM.out { on := 6, ground := .data } (by simp) rfl
          clear ho HM
          refine wpOp_step rfl (fun K hK => ?_)
          have HK : Hid (∀ a w, _ → K a w) := hK
          clear hK
          simp only [e5, e6]
          go_simp
          exact HK.out _ _ ⟨Value.pointer (some ⟨ba, offa + j, none⟩), by simp [upd, e5, e6], HG.out, rfl, fun k u hu => hu⟩
         ·obtain rfl := Option.some.inj ho
          have e7 : f 7 = Value.pointer (some ⟨ba, offa + j, none⟩) := HM.out { on := 7, ground := .data } (by simp) rfl
          clear ho HM
          refine wpOp_step rfl (fun K hK => ?_)
          have HK : Hid (∀ a w, _ → K a w) := hK
          clear hK
          simp only [e7]
          go_simp
          exact HK.out _ _ ⟨Value.int .i64 (x : Int), by simp [upd, e7], HG.out, rfl, fun k u hu => hu⟩
         ·obtain rfl := Option.some.inj ho
          clear ho HM
          refine wpOp_step rfl (fun K hK => ?_)
          have HK : Hid (∀ a w, _ → K a w) := hK
          clear hK
          dsimp only
          go_simp
          exact HK.out _ _ ⟨Value.slice (some { block := w6.heap.size, off := 0 }) qs.length qs.length, by simp [upd], HG.out, rfl, fun k u hu => hu⟩
         ·obtain rfl := Option.some.inj ho
          clear ho HM
          refine wpOp_step rfl (fun K hK => ?_)
          have HK : Hid (∀ a w, _ → K a w) := hK
          clear hK
          dsimp only
          go_simp
          exact HK.out _ _ ⟨Value.int IntKind.i64 (m : Int), by simp [upd], HG.out, rfl, fun k u hu => hu⟩
         ·obtain rfl := Option.some.inj ho
          have e9 : f 9 = Value.slice (some { block := w6.heap.size, off := 0 }) qs.length qs.length := HM.out { on := 9, ground := .data } (by simp) rfl
          have e10 : f 10 = Value.int IntKind.i64 (m : Int) := HM.out { on := 10, ground := .data } (by simp) rfl
          clear ho HM
          refine wpOp_step rfl (fun K hK => ?_)
          have HK : Hid (∀ a w, _ → K a w) := hK
          clear hK
          simp only [e9, e10]
          go_simp
          exact HK.out _ _ ⟨Value.pointer (some ⟨w6.heap.size, m, none⟩), by simp [upd, e9, e10], HG.out, rfl, fun k u hu => hu⟩
         ·obtain rfl := Option.some.inj ho
          have e11 : f 11 = Value.pointer (some ⟨w6.heap.size, m, none⟩) := HM.out { on := 11, ground := .data } (by simp) rfl
          clear ho HM
          refine wpOp_step rfl (fun K hK => ?_)
          have HK : Hid (∀ a w, _ → K a w) := hK
          clear hK
          simp only [e11]
          go_simp
          exact HK.out _ _ ⟨Value.bool false, by simp [upd, e11], HG.out, rfl, fun k u hu => hu⟩
         ·obtain rfl := Option.some.inj ho
          have e12 : f 12 = Value.bool false := HM.out { on := 12, ground := .data } (by simp) rfl
          clear ho HM
          refine wpOp_step rfl (fun K hK => ?_)
          have HK : Hid (∀ a w, _ → K a w) := hK
          clear hK
          simp only [e12]
          go_simp
          exact HK.out _ _ ⟨Value.bool false, by simp [upd, e12], HG.out, rfl, fun k u hu => hu⟩
         ·obtain rfl := Option.some.inj ho
          have e13 : f 13 = Value.bool false := HM.out { on := 13, ground := .guard } (by simp) rfl
          clear ho HM
          refine wpOp_step rfl (fun K hK => ?_)
          have HK : Hid (∀ a w, _ → K a w) := hK
          clear hK
          simp only [e13]
          go_simp
          exact HK.out _ _ ⟨Value.slice (some { block := bE, off := offE }) qs.length capE, by simp [upd, e13], HG.out, rfl, fun k u hu => hu⟩
         ·obtain rfl := Option.some.inj ho
          have e13 : f 13 = Value.bool false := HM.out { on := 13, ground := .guard } (by simp) rfl
          clear ho HM
          refine wpOp_step rfl (fun K hK => ?_)
          have HK : Hid (∀ a w, _ → K a w) := hK
          clear hK
          simp only [e13]
          go_simp
          exact HK.out _ _ ⟨Value.int IntKind.i64 (m : Int), by simp [upd, e13], HG.out, rfl, fun k u hu => hu⟩
         ·obtain rfl := Option.some.inj ho
          have e14 : f 14 = Value.slice (some { block := bE, off := offE }) qs.length capE := HM.out { on := 14, ground := .data } (by simp) rfl
          have e15 : f 15 = Value.int IntKind.i64 (m : Int) := HM.out { on := 15, ground := .data } (by simp) rfl
          have e13 : f 13 = Value.bool false := HM.out { on := 13, ground := .guard } (by simp) rfl
          clear ho HM
          refine wpOp_step rfl (fun K hK => ?_)
          have HK : Hid (∀ a w, _ → K a w) := hK
          clear hK
          simp only [e14, e15, e13]
          go_simp
          exact HK.out _ _ ⟨Value.pointer (some ⟨bE, offE + m * 5, none⟩), by simp [upd, e14, e15, e13], HG.out, rfl, fun k u hu => hu⟩
         ·obtain rfl := Option.some.inj ho
          have e16 : f 16 = Value.pointer (some ⟨bE, offE + m * 5, none⟩) := HM.out { on := 16, ground := .data } (by simp) rfl
          have e13 : f 13 = Value.bool false := HM.out { on := 13, ground := .guard } (by simp) rfl
          clear ho HM
          refine wpOp_step rfl (fun K hK => ?_)
          have HK : Hid (∀ a w, _ → K a w) := hK
          clear hK
          simp only [e16, e13]
          go_simp
          exact HK.out _ _ ⟨Value.pointer (some ⟨bE, offE + m * 5, none⟩), by simp [upd, e16, e13], HG.out, rfl, fun k u hu => hu⟩
         ·obtain rfl := Option.some.inj ho
          have e17 : f 17 = Value.pointer (some ⟨bE, offE + m * 5, none⟩) := HM.out { on := 17, ground := .data } (by simp) rfl
          have e13 : f 13 = Value.bool false := HM.out { on := 13, ground := .guard } (by simp) rfl
          clear ho HM
          refine wpOp_step rfl (fun K hK => ?_)
          have HK : Hid (∀ a w, _ → K a w) := hK
          clear hK
          simp only [e17, e13]
          go_simp
          exact HK.out _ _ ⟨Value.int .i64 qs[m].e.kind, by simp [upd, e17, e13], HG.out, rfl, fun k u hu => hu⟩
         ·obtain rfl := Option.some.inj ho
          have e18 : f 18 = Value.int .i64 qs[m].e.kind := HM.out { on := 18, ground := .data } (by simp) rfl
          have e13 : f 13 = Value.bool false := HM.out { on := 13, ground := .guard } (by simp) rfl
          clear ho HM
          refine wpOp_step rfl (fun K hK => ?_)
          have HK : Hid (∀ a w, _ → K a w) := hK
          clear hK
          simp only [e18, e13]
          go_simp
          exact HK.out _ _ ⟨Value.bool false, by simp [upd, e18, e13], HG.out, rfl, fun k u hu => hu⟩
         ·obtain rfl := Option.some.inj ho
          have e19 : f 19 = Value.bool false := HM.out { on := 19, ground := .data } (by simp) rfl
          have e13 : f 13 = Value.bool false := HM.out { on := 13, ground := .guard } (by simp) rfl
          clear ho HM
          refine wpOp_step rfl (fun K hK => ?_)
          have HK : Hid (∀ a w, _ → K a w) := hK
          clear hK
          simp only [e19, e13]
          go_simp
          exact HK.out _ _ ⟨Value.bool false, by simp [upd, e19, e13], HG.out, rfl, fun k u hu => hu⟩
         ·obtain rfl := Option.some.inj ho
          have e20 : f 20 = Value.bool false := HM.out { on := 20, ground := .guard } (by simp) rfl
          clear ho HM
          refine wpOp_step rfl (fun K hK => ?_)
          have HK : Hid (∀ a w, _ → K a w) := hK
          clear hK
          simp only [e20]
          go_simp
          exact HK.out _ _ ⟨undef, by simp [upd, e20], HG.out, rfl, fun k u hu => hu⟩
         ·obtain rfl := Option.some.inj ho
          have e21 : f 21 = undef := HM.out { on := 21, ground := .data } (by simp) rfl
          have e20 : f 20 = Value.bool false := HM.out { on := 20, ground := .guard } (by simp) rfl
          clear ho HM
          refine wpOp_step rfl (fun K hK => ?_)
          have HK : Hid (∀ a w, _ → K a w) := hK
          clear hK
          simp only [e21, e20]
          go_simp
          exact HK.out _ _ ⟨undef, by simp [upd, e21, e20], HG.out, rfl, fun k u hu => hu⟩
         ·obtain rfl := Option.some.inj ho
          have e20 : f 20 = Value.bool false := HM.out { on := 20, ground := .data } (by simp) rfl
          have e22 : f 22 = undef := HM.out { on := 22, ground := .data } (by simp) rfl
          have e13 : f 13 = Value.bool false := HM.out { on := 13, ground := .guard } (by simp) rfl
          clear ho HM
          refine wpOp_step rfl (fun K hK => ?_)
          have HK : Hid (∀ a w, _ → K a w) := hK
          clear hK
          simp only [e20, e22, e13]
          go_simp
          exact HK.out _ _ ⟨Value.bool false, by simp [upd, e20, e22, e13], HG.out, rfl, fun k u hu => hu⟩
         ·obtain rfl := Option.some.inj ho
          have e13 : f 13 = Value.bool false := HM.out { on := 13, ground := .data } (by simp) rfl
          have e23 : f 23 = Value.bool false := HM.out { on := 23, ground := .data } (by simp) rfl
          clear ho HM
          refine wpOp_step rfl (fun K hK => ?_)
          have HK : Hid (∀ a w, _ → K a w) := hK
          clear hK
          simp only [e13, e23]
          go_simp
          exact HK.out _ _ ⟨Value.bool false, by simp [upd, e13, e23], HG.out, rfl, fun k u hu => hu⟩
         ·obtain rfl := Option.some.inj ho
          have e0 : f 0 = Value.slice (some { block := w6.heap.size, off := 0 }) qs.length qs.length := HM.out { on := 0, ground := .data } (by simp) rfl
          have e8 : f 8 = Value.int .i64 (x : Int) := HM.out { on := 8, ground := .data } (by simp) rfl
          clear ho HM
          refine wpOp_step rfl (fun K hK => ?_)
          have HK : Hid (∀ a w, _ → K a w) := hK
          clear hK
          simp only [e0, e8]
          go_simp
          exact HK.out _ _ ⟨Value.pointer (some ⟨w6.heap.size, x, none⟩), by simp [upd, e0, e8], HG.out, rfl, fun k u hu => hu⟩
        case fin2 =>
         rintro o ho f w' hG hall
         have e24 : f 24 = Value.bool false := hall 24 (by omega)
         have e25 : f 25 = Value.pointer (some ⟨w6.heap.size, x, none⟩) := hall 25 (by omega)
         replace u0 := kept5 hG HF2.out.lt u0
         have hF3 := HF2.out.later hG
         replace fz := hF3.free
         have HF4 : Hid (Fil w6 (w'.setCell ⟨w6.heap.size, x, none⟩ (.bool false)) w6.heap.size qs.length (bools (out2.set x false))) := by show Fil _ _ _ _ _; rw [bools_set]; exact hF3.set _ (by simp [bools]; omega) (by omega)
         have HJ2 : Hid (negKids m qs[m].e.kind (qs[m].e.kids.drop (j + 1)) (j + 1) (out2.set x false) = negKids m qs[m].e.kind qs[m].e.kids 0 out) := by
          have h := HDR.out
          simp only [hb0, Bool.true_or, Bool.false_or, Bool.and_true, Bool.and_false, Bool.true_and, Bool.false_and, hkb] at h
          exact h
         clear hG hall hF3
         obtain rfl := Option.some.inj ho
         clear ho
         refine wpOp_step rfl (fun K hK => ?_)
         have HK : Hid (∀ a w, _ → K a w) := hK
         clear hK
         simp only [e24, e25]
         go_simp
         refine HK.out _ _ ?_
         clear HK
         go_wp2
         go_roundw
         case rel => exact ⟨j + 1, out2.set x false, by omega, by go_num, by simp [ho2], HJ2, HF4⟩
         case measure => first | (simp [intOf]; done) | (simp [intOf]; omega)
       | true =>
        cases hjb : ((j : Int) == 1) with
        | true =>
         have hjn : (j == 1) = true := by simp at hjb ⊢; omega
         go_wp2_with fail
         refine wp_region_mid0 26 (fun n => (u81 :: u82 :: u83 :: u84 :: u85 :: u86 :: u87 :: u88 :: u89 :: u90 :: u91 :: u92 :: u93 :: u94 :: u95 :: u96 :: u97 :: u98 :: u99 :: u100 :: u101 :: u102 :: u103 :: u104 :: u105 :: u106 :: []).getD n undef) (fun f => { tmps := List.toArray (Value.slice ad len cap :: undef :: Value.bool false :: Value.slice adS rs.length capS :: Value.string ty :: Value.string n :: Value.int IntKind.i64 N :: Value.slice (some { block := bE, off := offE }) qs.length capE :: Value.bool true :: Value.slice (some { block := w6.heap.size, off := 0 }) qs.length qs.length :: Value.int IntKind.i64 (m : Int) :: Value.int IntKind.i64 (j : Int) :: undef :: undef :: Value.slice ad len cap :: Value.bool (decide (1048576 < (len : Int))) :: Value.tuple #[Value.slice adS rs.length capS, Value.string ty, Value.string n] :: Value.slice ad len cap :: Value.tuple #[Value.slice adS rs.length capS, Value.string ty, Value.string n] :: Value.slice adS rs.length capS :: Value.string ty :: Value.string n :: Value.slice adS rs.length capS :: Value.string ty :: Value.string n :: Value.int IntKind.i64 N :: Value.tuple #[Value.slice (some { block := bE, off := offE }) qs.length capE, Value.bool true] :: Value.slice adS rs.length capS :: Value.string ty :: Value.string n :: Value.tuple #[Value.slice (some { block := bE, off := offE }) qs.length capE, Value.bool true] :: Value.slice (some { block := bE, off := offE }) qs.length capE :: Value.bool true :: Value.int IntKind.i64 N :: Value.slice adS rs.length capS :: Value.string ty :: Value.string n :: Value.int IntKind.i64 N :: Value.bool false :: Value.bool false :: Value.bool true :: Value.int IntKind.i64 N :: Value.bool true :: Value.bool false :: Value.bool false :: Value.bool false :: Value.bool true :: Value.bool false :: Value.bool false :: undef :: undef :: undef :: undef :: undef :: undef :: undef :: undef :: undef :: undef :: undef :: undef :: Value.slice (some { block := bE, off := offE }) qs.length capE :: Value.int IntKind.i64 (qs.length : Int) :: Value.slice (some { block := w6.heap.size, off := 0 }) qs.length qs.length :: Value.slice (some { block := bE, off := offE }) qs.length capE :: Value.int IntKind.i64 (qs.length : Int) :: Value.int IntKind.i64 ((qs.length : Int) - 1) :: Value.int IntKind.i64 (m : Int) :: Value.bool true :: u69 :: u70 :: Value.int IntKind.i64 (j : Int) :: Value.slice (some { block := bE, off := offE }) qs.length capE :: Value.int IntKind.i64 (m : Int) :: Value.pointer (some { block := bE, off := offE + m * 5 }) :: Value.pointer (some { block := bE, off := offE + m * 5 + 4 }) :: Value.slice (some { block := ba, off := offa }) qs[m].e.kids.length qs[m].capK :: Value.int IntKind.i64 (qs[m].e.kids.length : Int) :: Value.bool true :: u79 :: u80 :: f 0 :: f 1 :: f 2 :: f 3 :: f 4 :: f 5 :: f 6 :: f 7 :: f 8 :: f 9 :: f 10 :: f 11 :: f 12 :: f 13 :: f 14 :: f 15 :: f 16 :: f 17 :: f 18 :: f 19 :: f 20 :: f 21 :: f 22 :: f 23 :: f 24 :: f 25 :: undef :: undef :: undef :: undef :: undef :: undef :: undef :: undef :: undef :: undef :: undef :: undef :: undef :: undef :: undef :: undef :: undef :: undef :: undef :: undef :: undef :: undef :: undef :: undef :: undef :: undef :: undef :: undef :: undef :: undef :: undef :: undef :: undef :: undef :: undef :: undef :: undef :: undef :: []), defers := [] }) (fun n v _ => v = (Value.slice (some { block := w6.heap.size, off := 0 }) qs.length qs.length :: Value.slice (some { block := bE, off := offE }) qs.length capE :: Value.int IntKind.i64 (m : Int) :: Value.pointer (some ⟨bE, offE + m * 5, none⟩) :: Value.pointer (some ⟨bE, offE + m * 5 + 4, none⟩) :: Value.slice (some ⟨ba, offa, none⟩) qs[m].e.kids.length qs[m].capK :: Value.int IntKind.i64 (j : Int) :: Value.pointer (some ⟨ba, offa + j, none⟩) :: Value.int .i64 (x : Int) :: Value.slice (some { block := w6.heap.size, off := 0 }) qs.length qs.length :: Value.int IntKind.i64 (m : Int) :: Value.pointer (some ⟨w6.heap.size, m, none⟩) :: Value.bool false :: Value.bool false :: Value.slice (some { block := bE, off := offE }) qs.length capE :: Value.int IntKind.i64 (m : Int) :: Value.pointer (some ⟨bE, offE + m * 5, none⟩) :: Value.pointer (some ⟨bE, offE + m * 5, none⟩) :: Value.int .i64 qs[m].e.kind :: Value.bool true :: Value.bool true :: Value.int IntKind.i64 (j : Int) :: Value.bool true :: Value.bool true :: Value.bool true :: Value.pointer (some ⟨w6.heap.size, x, none⟩) :: []).getD n undef) (fun w' => Below wr.heap.size wr w') (by kernel_rfl) rfl (by kernel_rfl) (by kernel_rfl) rfl (Below.refl _ _).drew ?step3 ?fin3
         case step3 =>
          rintro i hi o ho f w' hG hpre
          have HG : Hid (Below wr.heap.size wr w') := hG
          replace t0 := kept5 hG hbr t0
          replace t4 := kept5 hG hbr t4
          replace q0 := kept5 hG hba q0
          replace c0 := kept5 hG HF2.out.lt c0
          have HM : Hid (∀ e ∈ o.after, Region.binds .any e = true → _) := hpre
          clear hG hpre
          have hc : i = 0 ∨ i = 1 ∨ i = 2 ∨ i = 3 ∨ i = 4 ∨ i = 5 ∨ i = 6 ∨ i = 7 ∨ i = 8 ∨ i = 9 ∨ i = 10 ∨ i = 11 ∨ i = 12 ∨ i = 13 ∨ i = 14 ∨ i = 15 ∨ i = 16 ∨ i = 17 ∨ i = 18 ∨ i = 19 ∨ i = 20 ∨ i = 21 ∨ i = 22 ∨ i = 23 ∨ i = 24 ∨ i = 25 := by omega
          clear hi
          rcases hc with rfl | rfl | rfl | rfl | rfl | rfl | rfl | rfl | rfl | rfl | rfl | rfl | rfl | rfl | rfl | rfl | rfl | rfl | rfl | rfl | rfl | rfl | rfl | rfl | rfl | rfl
          ·obtain rfl := Option.some.inj ho
           clear ho HM
           refine wpOp_step rfl (fun K hK => ?_)
           have HK : Hid (∀ a w, _ → K a w) := hK
           clear hK
           dsimp only
           go_simp
           exact HK.out _ _ ⟨Value.slice (some { block := w6.heap.size, off := 0 }) qs.length qs.length, by simp [upd], HG.out, rfl, fun k u hu => hu⟩
          ·obtain rfl := Option.some.inj ho
           clear ho HM
           refine wpOp_step rfl (fun K hK => ?_)
           have HK : Hid (∀ a w, _ → K a w) := hK
           clear hK
           dsimp only
           go_simp
           exact HK.out _ _ ⟨Value.slice (some { block := bE, off := offE }) qs.length capE, by simp [upd], HG.out, rfl, fun k u hu => hu⟩
          ·obtain rfl := Option.some.inj ho
           clear ho HM
           refine wpOp_step rfl (fun K hK => ?_)
           have HK : Hid (∀ a w, _ → K a w) := hK
           clear hK
           dsimp only
           go_simp
           exact HK.out _ _ ⟨Value.int IntKind.i64 (m : Int), by simp [upd], HG.out, rfl, fun k u hu => hu⟩
          ·obtain rfl := Option.some.inj ho
           have e1 : f 1 = Value.slice (some { block := bE, off := offE }) qs.length capE := HM.out { on := 1, ground := .data } (by simp) rfl
           have e2 : f 2 = Value.int IntKind.i64 (m : Int) := HM.out { on := 2, ground := .data } (by simp) rfl
           clear ho HM
           refine wpOp_step rfl (fun K hK => ?_)
           have HK : Hid (∀ a w, _ → K a w) := hK
           clear hK
           simp only [e1, e2]
           go_simp
           exact HK.out _ _ ⟨Value.pointer (some ⟨bE, offE + m * 5, none⟩), by simp [upd, e1, e2], HG.out, rfl, fun k u hu => hu⟩
          ·obtain rfl := Option.some.inj ho
           have e3 : f 3 = Value.pointer (some ⟨bE, offE + m * 5, none⟩) := HM.out { on := 3, ground := .data } (by simp) rfl
           clear ho HM
           refine wpOp_step rfl (fun K hK => ?_)
           have HK : Hid (∀ a w, _ → K a w) := hK
           clear hK
           simp only [e3]
           go_simp
           exact HK.out _ _ ⟨Value.pointer (some ⟨bE, offE + m * 5 + 4, none⟩), by simp [upd, e3], HG.out, rfl, fun k u hu => hu⟩
          ·obtain rfl := Option.some.inj ho
           have e4 : f 4 = Value.pointer (some ⟨bE, offE + m * 5 + 4, none⟩) := HM.out { on := 4, ground := .data } (by simp) rfl
           clear ho HM
           refine wpOp_step rfl (fun K hK => ?_)
           have HK : Hid (∀ a w, _ → K a w) := hK
           clear hK
           simp only [e4]
           go_simp
           exact HK.out _ _ ⟨Value.slice (some ⟨ba, offa, none⟩) qs[m].e.kids.length qs[m].capK, by simp [upd, e4], HG.out, rfl, fun k u hu => hu⟩
          ·obtain rfl := Option.some.inj ho
           clear ho HM
           refine wpOp_step rfl (fun K hK => ?_)
           have HK : Hid (∀ a w, _ → K a w) := hK
           clear hK
           dsimp only
           go_simp
           exact HK.out _ _ ⟨Value.int IntKind.i64 (j : Int), by simp [upd], HG.out, rfl, fun k u hu => hu⟩
          ·obtain rfl := Option.some.inj ho
           have e5 : f 5 = Value.slice (some ⟨ba, offa, none⟩) qs[m].e.kids.length qs[m].capK := HM.out { on := 5, ground := .data } (by simp) rfl
           have e6 : f 6 = Value.int IntKind.i64 (j : Int) := HM.out { on := 6, ground := .data } (by simp) rfl
           clear ho HM
           refine wpOp_step rfl (fun K hK => ?_)
           have HK : Hid (∀ a w, _ → K a w) := hK
           clear hK
           simp only [e5, e6]
           go_simp
           exact HK.out _ _ ⟨Value.pointer (some ⟨ba, offa + j, none⟩), by simp [upd, e5, e6], HG.out, rfl, fun k u hu => hu⟩
          ·obtain rfl := Option.some.inj ho
           have e7 : f 7 = Value.pointer (some ⟨ba, offa + j, none⟩) := HM.out { on := 7, ground := .data } (by simp) rfl
           clear ho HM
           refine wpOp_step rfl (fun K hK => ?_)
           have HK : Hid (∀ a w, _ → K a w) := hK
           clear hK
           simp only [e7]
           go_simp
           exact HK.out _ _ ⟨Value.int .i64 (x : Int), by simp [upd, e7], HG.out, rfl, fun k u hu => hu⟩
          ·obtain rfl := Option.some.inj ho
           clear ho HM
           refine wpOp_step rfl (fun K hK => ?_)
           have HK : Hid (∀ a w, _ → K a w) := hK
           clear hK
           dsimp only
           go_simp
           exact HK.out _ _ ⟨Value.slice (some { block := w6.heap.size, off := 0 }) qs.length qs.length, by simp [upd], HG.out, rfl, fun k u hu => hu⟩
          ·obtain rfl := Option.some.inj ho
           clear ho HM
           refine wpOp_step rfl (fun K hK => ?_)
           have HK : Hid (∀ a w, _ → K a w) := hK
           clear hK
           dsimp only
           go_simp
           exact HK.out _ _ ⟨Value.int IntKind.i64 (m : Int), by simp [upd], HG.out, rfl, fun k u hu => hu⟩
          ·obtain rfl := Option.some.inj ho
           have e9 : f 9 = Value.slice (some { block := w6.heap.size, off := 0 }) qs.length qs.length := HM.out { on := 9, ground := .data } (by simp) rfl
           have e10 : f 10 = Value.int IntKind.i64 (m : Int) := HM.out { on := 10, ground := .data } (by simp) rfl
           clear ho HM
           refine wpOp_step rfl (fun K hK => ?_)
           have HK : Hid (∀ a w, _ → K a w) := hK
           clear hK
           simp only [e9, e10]
           go_simp
           exact HK.out _ _ ⟨Value.pointer (some ⟨w6.heap.size, m, none⟩), by simp [upd, e9, e10], HG.out, rfl, fun k u hu => hu⟩
          ·obtain rfl := Option.some.inj ho
           have e11 : f 11 = Value.pointer (some ⟨w6.heap.size, m, none⟩) := HM.out { on := 11, ground := .data } (by simp) rfl
           clear ho HM
           refine wpOp_step rfl (fun K hK => ?_)
           have HK : Hid (∀ a w, _ → K a w) := hK
           clear hK
           simp only [e11]
           go_simp
           exact HK.out _ _ ⟨Value.bool false, by simp [upd, e11], HG.out, rfl, fun k u hu => hu⟩
          ·obtain rfl := Option.some.inj ho
           have e12 : f 12 = Value.bool false := HM.out { on := 12, ground := .data } (by simp) rfl
           clear ho HM
           refine wpOp_step rfl (fun K hK => ?_)
           have HK : Hid (∀ a w, _ → K a w) := hK
           clear hK
           simp only [e12]
           go_simp
           exact HK.out _ _ ⟨Value.bool false, by simp [upd, e12], HG.out, rfl, fun k u hu => hu⟩
          ·obtain rfl := Option.some.inj ho
           have e13 : f 13 = Value.bool false := HM.out { on := 13, ground := .guard } (by simp) rfl
           clear ho HM
           refine wpOp_step rfl (fun K hK => ?_)
           have HK : Hid (∀ a w, _ → K a w) := hK
           clear hK
           simp only [e13]
           go_simp
           exact HK.out _ _ ⟨Value.slice (some { block := bE, off := offE }) qs.length capE, by simp [upd, e13], HG.out, rfl, fun k u hu => hu⟩
          ·obtain rfl := Option.some.inj ho
           have e13 : f 13 = Value.bool false := HM.out { on := 13, ground := .guard } (by simp) rfl
           clear ho HM
           refine wpOp_step rfl (fun K hK => ?_)
           have HK : Hid (∀ a w, _ → K a w) := hK
           clear hK
           simp only [e13]
           go_simp
           exact HK.out _ _ ⟨Value.int IntKind.i64 (m : Int), by simp [upd, e13], HG.out, rfl, fun k u hu => hu⟩
          ·obtain rfl := Option.some.inj ho
           have e14 : f 14 = Value.slice (some { block := bE, off := offE }) qs.length capE := HM.out { on := 14, ground := .data } (by simp) rfl
           have e15 : f 15 = Value.int IntKind.i64 (m : Int) := HM.out { on := 15, ground := .data } (by simp) rfl
           have e13 : f 13 = Value.bool false := HM.out { on := 13, ground := .guard } (by simp) rfl
           clear ho HM
           refine wpOp_step rfl (fun K hK => ?_)
           have HK : Hid (∀ a w, _ → K a w) := hK
           clear hK
           simp only [e14, e15, e13]
           go_simp
           exact HK.out _ _ ⟨Value.pointer (some ⟨bE, offE + m * 5, none⟩), by simp [upd, e14, e15, e13], HG.out, rfl, fun k u hu => hu⟩
          ·obtain rfl := Option.some.inj ho
           have e16 : f 16 = Value.pointer (some ⟨bE, offE + m * 5, none⟩) := HM.out { on := 16, ground := .data } (by simp) rfl
           have e13 : f 13 = Value.bool false := HM.out { on := 13, ground := .guard } (by simp) rfl
           clear ho HM
           refine wpOp_step rfl (fun K hK => ?_)
           have HK : Hid (∀ a w, _ → K a w) := hK
           clear hK
           simp only [e16, e13]
           go_simp
           exact HK.out _ _ ⟨Value.pointer (some ⟨bE, offE + m * 5, none⟩), by simp [upd, e16, e13], HG.out, rfl, fun k u hu => hu⟩
          ·obtain rfl := Option.some.inj ho
           have e17 : f 17 = Value.pointer (some ⟨bE, offE + m * 5, none⟩) := HM.out { on := 17, ground := .data } (by simp) rfl
           have e13 : f 13 = Value.bool false := HM.out { on := 13, ground := .guard } (by simp) rfl
           clear ho HM
           refine wpOp_step rfl (fun K hK => ?_)
           have HK : Hid (∀ a w, _ → K a w) := hK
           clear hK
           simp only [e17, e13]
           go_simp
           exact HK.out _ _ ⟨Value.int .i64 qs[m].e.kind, by simp [upd, e17, e13], HG.out, rfl, fun k u hu => hu⟩
          ·obtain rfl := Option.some.inj ho
           have e18 : f 18 = Value.int .i64 qs[m].e.kind := HM.out { on := 18, ground := .data } (by simp) rfl
           have e13 : f 13 = Value.bool false := HM.out { on := 13, ground := .guard } (by simp) rfl
           clear ho HM
           refine wpOp_step rfl (fun K hK => ?_)
           have HK : Hid (∀ a w, _ → K a w) := hK
           clear hK
           simp only [e18, e13]
           go_simp
           exact HK.out _ _ ⟨Value.bool true, by simp [upd, e18, e13], HG.out, rfl, fun k u hu => hu⟩
          ·obtain rfl := Option.some.inj ho
           have e19 : f 19 = Value.bool true := HM.out { on := 19, ground := .data } (by simp) rfl
           have e13 : f 13 = Value.bool false := HM.out { on := 13, ground := .guard } (by simp) rfl
           clear ho HM
           refine wpOp_step rfl (fun K hK => ?_)
           have HK : Hid (∀ a w, _ → K a w) := hK
           clear hK
           simp only [e19, e13]
           go_simp
           exact HK.out _ _ ⟨Value.bool true, by simp [upd, e19, e13], HG.out, rfl, fun k u hu => hu⟩
          ·obtain rfl := Option.some.inj ho
           have e20 : f 20 = Value.bool true := HM.out { on := 20, ground := .guard } (by simp) rfl
           clear ho HM
           refine wpOp_step rfl (fun K hK => ?_)
           have HK : Hid (∀ a w, _ → K a w) := hK
           clear hK
           simp only [e20]
           go_simp
           exact HK.out _ _ ⟨Value.int IntKind.i64 (j : Int), by simp [upd, e20], HG.out, rfl, fun k u hu => hu⟩
          ·obtain rfl := Option.some.inj ho
           have e21 : f 21 = Value.int IntKind.i64 (j : Int) := HM.out { on := 21, ground := .data } (by simp) rfl
           have e20 : f 20 = Value.bool true := HM.out { on := 20, ground := .guard } (by simp) rfl
           clear ho HM
           refine wpOp_step rfl (fun K hK => ?_)
           have HK : Hid (∀ a w, _ → K a w) := hK
           clear hK
           simp only [e21, e20]
           go_simp
           exact HK.out _ _ ⟨Value.bool true, by simp [upd, e21, e20], HG.out, rfl, fun k u hu => hu⟩
          ·obtain rfl := Option.some.inj ho
           have e20 : f 20 = Value.bool true := HM.out { on := 20, ground := .data } (by simp) rfl
           have e22 : f 22 = Value.bool true := HM.out { on := 22, ground := .data } (by simp) rfl
           have e13 : f 13 = Value.bool false := HM.out { on := 13, ground := .guard } (by simp) rfl
           clear ho HM
           refine wpOp_step rfl (fun K hK => ?_)
           have HK : Hid (∀ a w, _ → K a w) := hK
           clear hK
           simp only [e20, e22, e13]
           go_simp
           exact HK.out _ _ ⟨Value.bool true, by simp [upd, e20, e22, e13], HG.out, rfl, fun k u hu => hu⟩
          ·obtain rfl := Option.some.inj ho
           have e13 : f 13 = Value.bool false := HM.out { on := 13, ground := .data } (by simp) rfl
           have e23 : f 23 = Value.bool true := HM.out { on := 23, ground := .data } (by simp) rfl
           clear ho HM
           refine wpOp_step rfl (fun K hK => ?_)
           have HK : Hid (∀ a w, _ → K a w) := hK
           clear hK
           simp only [e13, e23]
           go_simp
           exact HK.out _ _ ⟨Value.bool true, by simp [upd, e13, e23], HG.out, rfl, fun k u hu => hu⟩
          ·obtain rfl := Option.some.inj ho
           have e0 : f 0 = Value.slice (some { block := w6.heap.size, off := 0 }) qs.length qs.length := HM.out { on := 0, ground := .data } (by simp) rfl
           have e8 : f 8 = Value.int .i64 (x : Int) := HM.out { on := 8, ground := .data } (by simp) rfl
           clear ho HM
           refine wpOp_step rfl (fun K hK => ?_)
           have HK : Hid (∀ a w, _ → K a w) := hK
           clear hK
           simp only [e0, e8]
           go_simp
           exact HK.out _ _ ⟨Value.pointer (some ⟨w6.heap.size, x, none⟩), by simp [upd, e0, e8], HG.out, rfl, fun k u hu => hu⟩
         case fin3 =>
          rintro o ho f w' hG hall
          have e24 : f 24 = Value.bool true := hall 24 (by omega)
          have e25 : f 25 = Value.pointer (some ⟨w6.heap.size, x, none⟩) := hall 25 (by omega)
          replace u0 := kept5 hG HF2.out.lt u0
          have hF3 := HF2.out.later hG
          replace fz := hF3.free
          have HF4 : Hid (Fil w6 (w'.setCell ⟨w6.heap.size, x, none⟩ (.bool true)) w6.heap.size qs.length (bools (out2.set x true))) := by show Fil _ _ _ _ _; rw [bools_set]; exact hF3.set _ (by simp [bools]; omega) (by omega)
          have HJ2 : Hid (negKids m qs[m].e.kind (qs[m].e.kids.drop (j + 1)) (j + 1) (out2.set x true) = negKids m qs[m].e.kind qs[m].e.kids 0 out) := by
           have h := HDR.out
           simp only [hb0, Bool.true_or, Bool.false_or, Bool.and_true, Bool.and_false, Bool.true_and, Bool.false_and, hkb, hjn] at h
           exact h
          clear hG hall hF3
          obtain rfl := Option.some.inj ho
          clear ho
          refine wpOp_step rfl (fun K hK => ?_)
          have HK : Hid (∀ a w, _ → K a w) := hK
          clear hK
          simp only [e24, e25]
          go_simp
          refine HK.out _ _ ?_
          clear HK
          go_wp2
          go_roundw
          case rel => exact ⟨j + 1, out2.set x true, by omega, by go_num, by simp [ho2], HJ2, HF4⟩
          case measure => first | (simp [intOf]; done) | (simp [intOf]; omega)
        | false =>
         have hjn : (j == 1) = false := by simp at hjb ⊢; omega
         go_wp2_with fail
         refine wp_region_mid0 26 (fun n => (u81 :: u82 :: u83 :: u84 :: u85 :: u86 :: u87 :: u88 :: u89 :: u90 :: u91 :: u92 :: u93 :: u94 :: u95 :: u96 :: u97 :: u98 :: u99 :: u100 :: u101 :: u102 :: u103 :: u104 :: u105 :: u106 :: []).getD n undef) (fun f => { tmps := List.toArray (Value.slice ad len cap :: undef :: Value.bool false :: Value.slice adS rs.length capS :: Value.string ty :: Value.string n :: Value.int IntKind.i64 N :: Value.slice (some { block := bE, off := offE }) qs.length capE :: Value.bool true :: Value.slice (some { block := w6.heap.size, off := 0 }) qs.length qs.length :: Value.int IntKind.i64 (m : Int) :: Value.int IntKind.i64 (j : Int) :: undef :: undef :: Value.slice ad len cap :: Value.bool (decide (1048576 < (len : Int))) :: Value.tuple #[Value.slice adS rs.length capS, Value.string ty, Value.string n] :: Value.slice ad len cap :: Value.tuple #[Value.slice adS rs.length capS, Value.string ty, Value.string n] :: Value.slice adS rs.length capS :: Value.string ty :: Value.string n :: Value.slice adS rs.length capS :: Value.string ty :: Value.string n :: Value.int IntKind.i64 N :: Value.tuple #[Value.slice (some { block := bE, off := offE }) qs.length capE, Value.bool true] :: Value.slice adS rs.length capS :: Value.string ty :: Value.string n :: Value.tuple #[Value.slice (some { block := bE, off := offE }) qs.length capE, Value.bool true] :: Value.slice (some { block := bE, off := offE }) qs.length capE :: Value.bool true :: Value.int IntKind.i64 N :: Value.slice adS rs.length capS :: Value.string ty :: Value.string n :: Value.int IntKind.i64 N :: Value.bool false :: Value.bool false :: Value.bool true :: Value.int IntKind.i64 N :: Value.bool true :: Value.bool false :: Value.bool false :: Value.bool false :: Value.bool true :: Value.bool false :: Value.bool false :: undef :: undef :: undef :: undef :: undef :: undef :: undef :: undef :: undef :: undef :: undef :: undef :: Value.slice (some { block := bE, off := offE }) qs.length capE :: Value.int IntKind.i64 (qs.length : Int) :: Value.slice (some { block := w6.heap.size, off := 0 }) qs.length qs.length :: Value.slice (some { block := bE, off := offE }) qs.length capE :: Value.int IntKind.i64 (qs.length : Int) :: Value.int IntKind.i64 ((qs.length : Int) - 1) :: Value.int IntKind.i64 (m : Int) :: Value.bool true :: u69 :: u70 :: Value.int IntKind.i64 (j : Int) :: Value.slice (some { block := bE, off := offE }) qs.length capE :: Value.int IntKind.i64 (m : Int) :: Value.pointer (some { block := bE, off := offE + m * 5 }) :: Value.pointer (some { block := bE, off := offE + m * 5 + 4 }) :: Value.slice (some { block := ba, off := offa }) qs[m].e.kids.length qs[m].capK :: Value.int IntKind.i64 (qs[m].e.kids.length : Int) :: Value.bool true :: u79 :: u80 :: f 0 :: f 1 :: f 2 :: f 3 :: f 4 :: f 5 :: f 6 :: f 7 :: f 8 :: f 9 :: f 10 :: f 11 :: f 12 :: f 13 :: f 14 :: f 15 :: f 16 :: f 17 :: f 18 :: f 19 :: f 20 :: f 21 :: f 22 :: f 23 :: f 24 :: f 25 :: undef :: undef :: undef :: undef :: undef :: undef :: undef :: undef :: undef :: undef :: undef :: undef :: undef :: undef :: undef :: undef :: undef :: undef :: undef :: undef :: undef :: undef :: undef :: undef :: undef :: undef :: undef :: undef :: undef :: undef :: undef :: undef :: undef :: undef :: undef :: undef :: undef :: undef :: []), defers := [] }) (fun n v _ => v = (Value.slice (some { block := w6.heap.size, off := 0 }) qs.length qs.length :: Value.slice (some { block := bE, off := offE }) qs.length capE :: Value.int IntKind.i64 (m : Int) :: Value.pointer (some ⟨bE, offE + m * 5, none⟩) :: Value.pointer (some ⟨bE, offE + m * 5 + 4, none⟩) :: Value.slice (some ⟨ba, offa, none⟩) qs[m].e.kids.length qs[m].capK :: Value.int IntKind.i64 (j : Int) :: Value.pointer (some ⟨ba, offa + j, none⟩) :: Value.int .i64 (x : Int) :: Value.slice (some { block := w6.heap.size, off := 0 }) qs.length qs.length :: Value.int IntKind.i64 (m : Int) :: Value.pointer (some ⟨w6.heap.size, m, none⟩) :: Value.bool false :: Value.bool false :: Value.slice (some { block := bE, off := offE }) qs.length capE :: Value.int IntKind.i64 (m : Int) :: Value.pointer (some ⟨bE, offE + m * 5, none⟩) :: Value.pointer (some ⟨bE, offE + m * 5, none⟩) :: Value.int .i64 qs[m].e.kind :: Value.bool true :: Value.bool true :: Value.int IntKind.i64 (j : Int) :: Value.bool false :: Value.bool false :: Value.bool false :: Value.pointer (some ⟨w6.heap.size, x, none⟩) :: []).getD n undef) (fun w' => Below wr.heap.size wr w') (by kernel_rfl) rfl (by kernel_rfl) (by kernel_rfl) rfl (Below.refl _ _).drew ?step4 ?fin4
         case step4 =>
          rintro i hi o ho f w' hG hpre
          have HG : Hid (Below wr.heap.size wr w') := hG
          replace t0 := kept5 hG hbr t0
          replace t4 := kept5 hG hbr t4
          replace q0 := kept5 hG hba q0
          replace c0 := kept5 hG HF2.out.lt c0
          have HM : Hid (∀ e ∈ o.after, Region.binds .any e = true → _) := hpre
          clear hG hpre
          have hc : i = 0 ∨ i = 1 ∨ i = 2 ∨ i = 3 ∨ i = 4 ∨ i = 5 ∨ i = 6 ∨ i = 7 ∨ i = 8 ∨ i = 9 ∨ i = 10 ∨ i = 11 ∨ i = 12 ∨ i = 13 ∨ i = 14 ∨ i = 15 ∨ i = 16 ∨ i = 17 ∨ i = 18 ∨ i = 19 ∨ i = 20 ∨ i = 21 ∨ i = 22 ∨ i = 23 ∨ i = 24 ∨ i = 25 := by omega
          clear hi
          rcases hc with rfl | rfl | rfl | rfl | rfl | rfl | rfl | rfl | rfl | rfl | rfl | rfl | rfl | rfl | rfl | rfl | rfl | rfl | rfl | rfl | rfl | rfl | rfl | rfl | rfl | rfl
          ·obtain rfl := Option.some.inj ho
           clear ho HM
           refine wpOp_step rfl (fun K hK => ?_)
           have HK : Hid (∀ a w, _ → K a w) := hK
           clear hK
           dsimp only
           go_simp
           exact HK.out _ _ ⟨Value.slice (some { block := w6.heap.size, off := 0 }) qs.length qs.length, by simp [upd], HG.out, rfl, fun k u hu => hu⟩
          ·obtain rfl := Option.some.inj ho
           clear ho HM
           refine wpOp_step rfl (fun K hK => ?_)
           have HK : Hid (∀ a w, _ → K a w) := hK
           clear hK
           dsimp only
           go_simp
           exact HK.out _ _ ⟨Value.slice (some { block := bE, off := offE }) qs.length capE, by simp [upd], HG.out, rfl, fun k u hu => hu⟩
          ·obtain rfl := Option.some.inj ho
           clear ho HM
           refine wpOp_step rfl (fun K hK => ?_)
           have HK : Hid (∀ a w, _ → K a w) := hK
           clear hK
           dsimp only
           go_simp
           exact HK.out _ _ ⟨Value.int IntKind.i64 (m : Int), by simp [upd], HG.out, rfl, fun k u hu => hu⟩
          ·obtain rfl := Option.some.inj ho
           have e1 : f 1 = Value.slice (some { block := bE, off := offE }) qs.length capE := HM.out { on := 1, ground := .data } (by simp) rfl
           have e2 : f 2 = Value.int IntKind.i64 (m : Int) := HM.out { on := 2, ground := .data } (by simp) rfl
           clear ho HM
           refine wpOp_step rfl (fun K hK => ?_)
           have HK : Hid (∀ a w, _ → K a w) := hK
           clear hK
           simp only [e1, e2]
           go_simp
           exact HK.out _ _ ⟨Value.pointer (some ⟨bE, offE + m * 5, none⟩), by simp [upd, e1, e2], HG.out, rfl, fun k u hu => hu⟩
          ·obtain rfl := Option.some.inj ho
           have e3 : f 3 = Value.pointer (some ⟨bE, offE + m * 5, none⟩) := HM.out { on := 3, ground := .data } (by simp) rfl
           clear ho HM
           refine wpOp_step rfl (fun K hK => ?_)
           have HK : Hid (∀ a w, _ → K a w) := hK
           clear hK
           simp only [e3]
           go_simp
           exact HK.out _ _ ⟨Value.pointer (some ⟨bE, offE + m * 5 + 4, none⟩), by simp [upd, e3], HG.out, rfl, fun k u hu => hu⟩
          ·obtain rfl := Option.some.inj ho
           have e4 : f 4 = Value.pointer (some ⟨bE, offE + m * 5 + 4, none⟩) := HM.out { on := 4, ground := .data } (by simp) rfl
           clear ho HM
           refine wpOp_step rfl (fun K hK => ?_)
           have HK : Hid (∀ a w, _ → K a w) := hK
           clear hK
           simp only [e4]
           go_simp
           exact HK.out _ _ ⟨Value.slice (some ⟨ba, offa, none⟩) qs[m].e.kids.length qs[m].capK, by simp [upd, e4], HG.out, rfl, fun k u hu => hu⟩
          ·obtain rfl := Option.some.inj ho
           clear ho HM
           refine wpOp_step rfl (fun K hK => ?_)
           have HK : Hid (∀ a w, _ → K a w) := hK
           clear hK
           dsimp only
           go_simp
           exact HK.out _ _ ⟨Value.int IntKind.i64 (j : Int), by simp [upd], HG.out, rfl, fun k u hu => hu⟩
          ·obtain rfl := Option.some.inj ho
           have e5 : f 5 = Value.slice (some ⟨ba, offa, none⟩) qs[m].e.kids.length qs[m].capK := HM.out { on := 5, ground := .data } (by simp) rfl
           have e6 : f 6 = Value.int IntKind.i64 (j : Int) := HM.out { on := 6, ground := .data } (by simp) rfl
           clear ho HM
           refine wpOp_step rfl (fun K hK => ?_)
           have HK : Hid (∀ a w, _ → K a w) := hK
           clear hK
           simp only [e5, e6]
           go_simp
           exact HK.out _ _ ⟨Value.pointer (some ⟨ba, offa + j, none⟩), by simp [upd, e5, e6], HG.out, rfl, fun k u hu => hu⟩
          ·obtain rfl := Option.some.inj ho
           have e7 : f 7 = Value.pointer (some ⟨ba, offa + j, none⟩) := HM.out { on := 7, ground := .data } (by simp) rfl
           clear ho HM
           refine wpOp_step rfl (fun K hK => ?_)
           have HK : Hid (∀ a w, _ → K a w) := hK
           clear hK
           simp only [e7]
           go_simp
           exact HK.out _ _ ⟨Value.int .i64 (x : Int), by simp [upd, e7], HG.out, rfl, fun k u hu => hu⟩
          ·obtain rfl := Option.some.inj ho
           clear ho HM
           refine wpOp_step rfl (fun K hK => ?_)
           have HK : Hid (∀ a w, _ → K a w) := hK
           clear hK
           dsimp only
           go_simp
           exact HK.out _ _ ⟨Value.slice (some { block := w6.heap.size, off := 0 }) qs.length qs.length, by simp [upd], HG.out, rfl, fun k u hu => hu⟩
          ·obtain rfl := Option.some.inj ho
           clear ho HM
           refine wpOp_step rfl (fun K hK => ?_)
           have HK : Hid (∀ a w, _ → K a w) := hK
           clear hK
           dsimp only
           go_simp
           exact HK.out _ _ ⟨Value.int IntKind.i64 (m : Int), by simp [upd], HG.out, rfl, fun k u hu => hu⟩
          ·obtain rfl := Option.some.inj ho
           have e9 : f 9 = Value.slice (some { block := w6.heap.size, off := 0 }) qs.length qs.length := HM.out { on := 9, ground := .data } (by simp) rfl
           have e10 : f 10 = Value.int IntKind.i64 (m : Int) := HM.out { on := 10, ground := .data } (by simp) rfl
           clear ho HM
           refine wpOp_step rfl (fun K hK => ?_)
           have HK : Hid (∀ a w, _ → K a w) := hK
           clear hK
           simp only [e9, e10]
           go_simp
           exact HK.out _ _ ⟨Value.pointer (some ⟨w6.heap.size, m, none⟩), by simp [upd, e9, e10], HG.out, rfl, fun k u hu => hu⟩
          ·obtain rfl := Option.some.inj ho
           have e11 : f 11 = Value.pointer (some ⟨w6.heap.size, m, none⟩) := HM.out { on := 11, ground := .data } (by simp) rfl
           clear ho HM
           refine wpOp_step rfl (fun K hK => ?_)
           have HK : Hid (∀ a w, _ → K a w) := hK
           clear hK
           simp only [e11]
           go_simp
           exact HK.out _ _ ⟨Value.bool false, by simp [upd, e11], HG.out, rfl, fun k u hu => hu⟩
          ·obtain rfl := Option.some.inj ho
           have e12 : f 12 = Value.bool false := HM.out { on := 12, ground := .data } (by simp) rfl
           clear ho HM
           refine wpOp_step rfl (fun K hK => ?_)
           have HK : Hid (∀ a w, _ → K a w) := hK
           clear hK
           simp only [e12]
           go_simp
           exact HK.out _ _ ⟨Value.bool false, by simp [upd, e12], HG.out, rfl, fun k u hu => hu⟩
          ·obtain rfl := Option.some.inj ho
           have e13 : f 13 = Value.bool false := HM.out { on := 13, ground := .guard } (by simp) rfl
           clear ho HM
           refine wpOp_step rfl (fun K hK => ?_)
           have HK : Hid (∀ a w, _ → K a w) := hK
           clear hK
           simp only [e13]
           go_simp
           exact HK.out _ _ ⟨Value.slice (some { block := bE, off := offE }) qs.length capE, by simp [upd, e13], HG.out, rfl, fun k u hu => hu⟩
          ·obtain rfl := Option.some.inj ho
           have e13 : f 13 = Value.bool false := HM.out { on := 13, ground := .guard } (by simp) rfl
           clear ho HM
           refine wpOp_step rfl (fun K hK => ?_)
           have HK : Hid (∀ a w, _ → K a w) := hK
           clear hK
           simp only [e13]
           go_simp
           exact HK.out _ _ ⟨Value.int IntKind.i64 (m : Int), by simp [upd, e13], HG.out, rfl, fun k u hu => hu⟩
          ·obtain rfl := Option.some.inj ho
           have e14 : f 14 = Value.slice (some { block := bE, off := offE }) qs.length capE := HM.out { on := 14, ground := .data } (by simp) rfl
           have e15 : f 15 = Value.int IntKind.i64 (m : Int) := HM.out { on := 15, ground := .data } (by simp) rfl
           have e13 : f 13 = Value.bool false := HM.out { on := 13, ground := .guard } (by simp) rfl
           clear ho HM
           refine wpOp_step rfl (fun K hK => ?_)
           have HK : Hid (∀ a w, _ → K a w) := hK
           clear hK
           simp only [e14, e15, e13]
           go_simp
           exact HK.out _ _ ⟨Value.pointer (some ⟨bE, offE + m * 5, none⟩), by simp [upd, e14, e15, e13], HG.out, rfl, fun k u hu => hu⟩
          ·obtain rfl := Option.some.inj ho
           have e16 : f 16 = Value.pointer (some ⟨bE, offE + m * 5, none⟩) := HM.out { on := 16, ground := .data } (by simp) rfl
           have e13 : f 13 = Value.bool false := HM.out { on := 13, ground := .guard } (by simp) rfl
           clear ho HM
           refine wpOp_step rfl (fun K hK => ?_)
           have HK : Hid (∀ a w, _ → K a w) := hK
           clear hK
           simp only [e16, e13]
           go_simp
           exact HK.out _ _ ⟨Value.pointer (some ⟨bE, offE + m * 5, none⟩), by simp [upd, e16, e13], HG.out, rfl, fun k u hu => hu⟩
          ·obtain rfl := Option.some.inj ho
           have e17 : f 17 = Value.pointer (some ⟨bE, offE + m * 5, none⟩) := HM.out { on := 17, ground := .data } (by simp) rfl
           have e13 : f 13 = Value.bool false := HM.out { on := 13, ground := .guard } (by simp) rfl
           clear ho HM
           refine wpOp_step rfl (fun K hK => ?_)
           have HK : Hid (∀ a w, _ → K a w) := hK
           clear hK
           simp only [e17, e13]
           go_simp
           exact HK.out _ _ ⟨Value.int .i64 qs[m].e.kind, by simp [upd, e17, e13], HG.out, rfl, fun k u hu => hu⟩
          ·obtain rfl := Option.some.inj ho
           have e18 : f 18 = Value.int .i64 qs[m].e.kind := HM.out { on := 18, ground := .data } (by simp) rfl
           have e13 : f 13 = Value.bool false := HM.out { on := 13, ground := .guard } (by simp) rfl
           clear ho HM
           refine wpOp_step rfl (fun K hK => ?_)
           have HK : Hid (∀ a w, _ → K a w) := hK
           clear hK
           simp only [e18, e13]
           go_simp
           exact HK.out _ _ ⟨Value.bool true, by simp [upd, e18, e13], HG.out, rfl, fun k u hu => hu⟩
          ·obtain rfl := Option.some.inj ho
           have e19 : f 19 = Value.bool true := HM.out { on := 19, ground := .data } (by simp) rfl
           have e13 : f 13 = Value.bool false := HM.out { on := 13, ground := .guard } (by simp) rfl
           clear ho HM
           refine wpOp_step rfl (fun K hK => ?_)
           have HK : Hid (∀ a w, _ → K a w) := hK
           clear hK
           simp only [e19, e13]
           go_simp
           exact HK.out _ _ ⟨Value.bool true, by simp [upd, e19, e13], HG.out, rfl, fun k u hu => hu⟩
          ·obtain rfl := Option.some.inj ho
           have e20 : f 20 = Value.bool true := HM.out { on := 20, ground := .guard } (by simp) rfl
           clear ho HM
           refine wpOp_step rfl (fun K hK => ?_)
           have HK : Hid (∀ a w, _ → K a w) := hK
           clear hK
           simp only [e20]
           go_simp
           exact HK.out _ _ ⟨Value.int IntKind.i64 (j : Int), by simp [upd, e20], HG.out, rfl, fun k u hu => hu⟩
          ·obtain rfl := Option.some.inj ho
           have e21 : f 21 = Value.int IntKind.i64 (j : Int) := HM.out { on := 21, ground := .data } (by simp) rfl
           have e20 : f 20 = Value.bool true := HM.out { on := 20, ground := .guard } (by simp) rfl
           clear ho HM
           refine wpOp_step rfl (fun K hK => ?_)
           have HK : Hid (∀ a w, _ → K a w) := hK
           clear hK
           simp only [e21, e20]
           go_simp
           exact HK.out _ _ ⟨Value.bool false, by simp [upd, e21, e20], HG.out, rfl, fun k u hu => hu⟩
          ·obtain rfl := Option.some.inj ho
           have e20 : f 20 = Value.bool true := HM.out { on := 20, ground := .data } (by simp) rfl
           have e22 : f 22 = Value.bool false := HM.out { on := 22, ground := .data } (by simp) rfl
           have e13 : f 13 = Value.bool false := HM.out { on := 13, ground := .guard } (by simp) rfl
           clear ho HM
           refine wpOp_step rfl (fun K hK => ?_)
           have HK : Hid (∀ a w, _ → K a w) := hK
           clear hK
           simp only [e20, e22, e13]
           go_simp
           exact HK.out _ _ ⟨Value.bool false, by simp [upd, e20, e22, e13], HG.out, rfl, fun k u hu => hu⟩
          ·obtain rfl := Option.some.inj ho
           have e13 : f 13 = Value.bool false := HM.out { on := 13, ground := .data } (by simp) rfl
           have e23 : f 23 = Value.bool false := HM.out { on := 23, ground := .data } (by simp) rfl
           clear ho HM
           refine wpOp_step rfl (fun K hK => ?_)
           have HK : Hid (∀ a w, _ → K a w) := hK
           clear hK
           simp only [e13, e23]
           go_simp
           exact HK.out _ _ ⟨Value.bool false, by simp [upd, e13, e23], HG.out, rfl, fun k u hu => hu⟩
          ·obtain rfl := Option.some.inj ho
           have e0 : f 0 = Value.slice (some { block := w6.heap.size, off := 0 }) qs.length qs.length := HM.out { on := 0, ground := .data } (by simp) rfl
           have e8 : f 8 = Value.int .i64 (x : Int) := HM.out { on := 8, ground := .data } (by simp) rfl
           clear ho HM
           refine wpOp_step rfl (fun K hK => ?_)
           have HK : Hid (∀ a w, _ → K a w) := hK
           clear hK
           simp only [e0, e8]
           go_simp
           exact HK.out _ _ ⟨Value.pointer (some ⟨w6.heap.size, x, none⟩), by simp [upd, e0, e8], HG.out, rfl, fun k u hu => hu⟩
         case fin4 =>
          rintro o ho f w' hG hall
          have e24 : f 24 = Value.bool false := hall 24 (by omega)
          have e25 : f 25 = Value.pointer (some ⟨w6.heap.size, x, none⟩) := hall 25 (by omega)
          replace u0 := kept5 hG HF2.out.lt u0
          have hF3 := HF2.out.later hG
          replace fz := hF3.free
          have HF4 : Hid (Fil w6 (w'.setCell ⟨w6.heap.size, x, none⟩ (.bool false)) w6.heap.size qs.length (bools (out2.set x false))) := by show Fil _ _ _ _ _; rw [bools_set]; exact hF3.set _ (by simp [bools]; omega) (by omega)
          have HJ2 : Hid (negKids m qs[m].e.kind (qs[m].e.kids.drop (j + 1)) (j + 1) (out2.set x false) = negKids m qs[m].e.kind qs[m].e.kids 0 out) := by
           have h := HDR.out
           simp only [hb0, Bool.true_or, Bool.false_or, Bool.and_true, Bool.and_false, Bool.true_and, Bool.false_and, hkb, hjn] at h
           exact h
          clear hG hall hF3
          obtain rfl := Option.some.inj ho
          clear ho
          refine wpOp_step rfl (fun K hK => ?_)
          have HK : Hid (∀ a w, _ → K a w) := hK
          clear hK
          simp only [e24, e25]
          go_simp
          refine HK.out _ _ ?_
          clear HK
          go_wp2
          go_roundw
          case rel => exact ⟨j + 1, out2.set x false, by omega, by go_num, by simp [ho2], HJ2, HF4⟩
          case measure => first | (simp [intOf]; done) | (simp [intOf]; omega)
     ·have HOE : Hid (negDown (exs qs) m out2 = negP (exs qs)) := by
       show _ = _
       rw [← HNX.out, ← HJ.out, List.drop_of_length_le (by omega)]
       rfl
      go_wp2
      go_roundw
      case rel => exact ⟨m, out2, by omega, by go_num, ho2, HOE, HF2⟩
      case measure => first | (simp [intOf]; done) | (simp [intOf]; omega)
   ·obtain rfl : m = 0 := by omega
    have HNP : Hid (out = negP (exs qs)) := HND.out
    rw [show (((0 : Nat) : Int) - 1) = -1 from rfl]
    have HBR : Hid (Below w0.heap.size w0 wr) := K6.out.bel.trans (HFL.out.below.mono K6.out.bel.size)
    clear HND
    obtain ⟨wE, rfl⟩ : ∃ wE, wE = wr := ⟨_, rfl⟩
    go_wp2_with fail
    go_loopw [12] (fun i w2 => ∃ (k : Nat), k ≤ qs.length ∧ i = .int .i64 (k : Int) ∧ Hid (Below wE.heap.size wE w2)) (fun i _ => qs.length - (intOf i).toNat)
    case atStart => exact ⟨0, Nat.zero_le _, rfl, Below.refl _ _⟩
    case round =>
     obtain ⟨k, hk, rfl, HBW⟩ := hrel
     by_cases hkl : k < qs.length
     ·have hB6 : Below w6.heap.size w6 wr := HFL.out.below.trans (HBW.out.mono HFL.out.below.size)
      have KW := HID (K6.out.later hB6)
      have hko : k < out.length := by omega
      have c0 := HFL.out.done k (by simp [bools]; omega)
      have hbo1 : (bools out)[k]'(by simp [bools]; omega) = .bool out[k] := by simp [bools]
      rw [hbo1] at c0
      replace c0 := kept5 HBW.out HFL.out.lt c0
      have HGD : Hid ((negP (exs qs)).getD k false = out[k]) := by show _ = _; rw [← HNP.out, List.getD_eq_getElem?_getD, List.getElem?_eq_getElem hko]; rfl
      have hlt9 : w6.heap.size < wr.heap.size := Nat.lt_of_lt_of_le HFL.out.lt HBW.out.size
      have hk1 : (0 : Int) ≤ (k : Int) := by omega
      have hk2 : (k : Int) < (qs.length : Int) := by omega
      obtain ⟨-, hnb, -⟩ := HFT.out qs[k] (List.getElem_mem hkl)
      have HNB := HID hnb
      rcases KW.out.ex with hnil | ⟨bE, offE, rfl, hbE, hr, -⟩
      ·rw [hnil] at hkl; simp at hkl
      obtain ⟨t0, t1, t2, t3, t4⟩ := hr k hkl
      clear hr t1 t2 t4 hnb hbo1 hB6
      cases hkb : (qs[k].e.kind == 2) with
      | false =>
       clear t3 c0
       go_wp2
       go_roundw
       case rel => exact ⟨k + 1, by omega, by go_num, HBW⟩
       case measure => first | (simp [intOf]; done) | (simp [intOf]; omega)
      | true =>
       have hkk : qs[k].e.kind = 2 := by simpa using hkb
       have m3 : qs[k].e.name.size ≤ maxLen := by have := node_name HNB.out hkk; unfold maxLen; omega
       obtain ⟨hM0, hMN⟩ := HSTR.out k hkl hkk
       rw [HGD.out] at hMN
       clear hkk
       go_wp2_with fail
       refine (implStratumOf_any adS capS rs ty qs[k].e.name _ hlen KW.out.sl HL.out HF.out HC.out m1 m3).mono ?_
       rintro e w9 ⟨rfl, hb9⟩
       replace c0 := kept5 hb9 hlt9 c0
       have HBZ : Hid (Below wE.heap.size wE w9) := HBW.out.trans (hb9.mono HBW.out.size)
       clear hb9 t0 t3 hkb
       generalize stratumP (tys rs) (ty, qs[k].e.name) = M at hM0 hMN ⊢
       have l1 : decide (M < 0) = false := by simp; omega
       cases hng : out[k] with
       | true =>
        rw [hng] at c0 hMN
        simp only [if_true] at hMN
        have l2 : decide (N < M) = false := by simp; omega
        have l3 : decide (N ≤ M) = false := by simp; omega
        go_wp2
        go_roundw
        case rel => exact ⟨k + 1, by omega, by go_num, HBZ⟩
        case measure => first | (simp [intOf]; done) | (simp [intOf]; omega)
       | false =>
        rw [hng] at c0 hMN
        have l2 : decide (N < M) = false := by simp at hMN ⊢; omega
        go_wp2
        go_roundw
        case rel => exact ⟨k + 1, by omega, by go_num, HBZ⟩
        case measure => first | (simp [intOf]; done) | (simp [intOf]; omega)
     ·go_wp2
      go_ret
      exact ⟨rfl, HBR.out.trans (HBW.out.mono HBR.out.size)⟩
theorem own : ownKnob Try.prog.godebug = none := by kernel_rfl
theorem laidOut : laidOutB Try.prog = true := by kernel_rfl
set_option maxRecDepth 100000 in
theorem lifted (os : Os) (started : os.Started) (H : Type) (enc : TypeId × Value → H) :
  ReturnsInHanded {} Try.checked os 3 .any (Rows.fnStrataSpec.pre6 enc Try.prog Try.f3 Rows.fnStrataRow.domain false) (Rows.fnStrataSpec.post enc Try.prog Try.f3 false true false false) := by
 refine returnsInHanded_of_change (C := Try.checked) own started (by kernel_rfl) Try.func3
  (ChangeSpec.witness6 (enc := enc) (C := Try.checked) false ⟨#[], #[.slice none 0 0], []⟩ 8 (by kernel_rfl) (by kernel_rfl) (by kernel_rfl) (by kernel_rfl)) ?_
 intro W base args ds gs before hval0 hW hcnd _
 have hval : ∀ (j : Nat) t v, Try.f3.params[j]? = some t → args[j]? = some v → Value.okWide Try.prog W .any base t v := hval0
 have hW' := hW
 obtain ⟨p, q, hA0, hV, rfl, hfz, hnd⟩ := hW
 have hA : DataW.TrodAll enc Try.prog W 0 (fun _ => true) true Try.f3.params.toList args.toList ds p := hA0
 rw [Try.params3] at hA hval
 obtain ⟨v0, vs0, d0, ds0, p0, q0, hargs, rfl, rfl, h0, r0⟩ := trodAll_cons hA
 obtain ⟨rfl, rfl, rfl⟩ := trodAll_nil r0
 obtain rfl : args = #[v0] := by cases args; simp_all
 obtain ⟨rfl, rfl⟩ := trodVars_none hV
 have k0 := h0
 have lt0 : ∀ x ∈ p0, x.block < W.heap.size := by obtain ⟨m, hm⟩ := k0; exact DataW.trod_lt m _ _ _ hm
 obtain ⟨ad0, len0, cap0, hv0⟩ := okWide_slice Try.underlying22 (hval 0 22 v0 rfl rfl)
 subst hv0
 obtain ⟨fuel0, hf0⟩ := h0
 have hby0 := open_bytes (by simpa [Value.cells] using hf0)
 clear hA0 hval0
 refine (walk ad0 len0 cap0 W hby0).mono fun e W' ⟨he, bel⟩ => ?_
 subst he
 exact ⟨_, rfl, _, _, _, [], _, [], hW', trodAll_mk1 (shut_bool Try.underlying4 _), (trodAll_cons_mk (Below.trod laidOut (by kernel_rfl) (of_decide_eq_true (by kernel_rfl)) k0 bel lt0) trodAll_mk0), rfl, bel.frame _, fun h => by cases h⟩
theorem over : Rows.fnStrataRow.holds Try.pinned (OpenSpec.ofChange Rows.fnStrataSpec) :=
 OpenClaim.holds_of_wide 3 Try.f3 rfl rfl rfl rfl rfl rfl rfl ⟨rfl, rfl, rfl, rfl, rfl⟩ rfl rfl rfl rfl rfl (by kernel_rfl) Try.func3 (by kernel_rfl)
  (of_decide_eq_true (by kernel_rfl)) (by unfold Func.isWrapper; first | (rw [if_pos (by decide +kernel)]; kernel_rfl) | (rw [if_neg (by decide +kernel)]; exact ⟨rfl, rfl⟩))
  (fun os started H enc _ => lifted os started H enc)
end Go.Proofs.Ytmfgehfbipnngaa.fnStrata
namespace Go.Proofs.Ytmfgehfbipnngaa
theorem FnStrata_holds : Rows.FnStrataSaid := fnStrata.over
end Go.Proofs.Ytmfgehfbipnngaa
