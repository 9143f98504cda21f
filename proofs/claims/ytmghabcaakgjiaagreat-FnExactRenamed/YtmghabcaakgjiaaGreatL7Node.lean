/- Contract of the document's l7Node: a node with another name for a relation; it writes into the node's own row of allowed types. -/
import Derived.Test.YtmghabcaakgjiaaGreatJ14
import Derived.Test.YtmghabcaakgjiaaGreatJ16
namespace Go.Proofs.YtmghabcaakgjiaaGreat
set_option maxRecDepth 100000
set_option linter.unusedVariables false
open Go.ChangeShapes Go.WideShapes Go.ChangeAt Go.RowKit Go.Maps
open Pl
def mixA (typ frm to : ByteArray) (xs : List Al) (k : Nat) : List Al := (xs.take k).map (renA typ frm to) ++ xs.drop k
theorem mixA_len (typ frm to : ByteArray) (xs : List Al) (k : Nat) : (mixA typ frm to xs k).length = xs.length := by
 simp [mixA]; omega
theorem mixA_at (typ frm to : ByteArray) (xs : List Al) (k : Nat) (h : k < xs.length) : (mixA typ frm to xs k)[k]'(by rw [mixA_len]; exact h) = xs[k] := by
 unfold mixA
 rw [List.getElem_append_right (by simp; omega)]
 simp [Nat.min_eq_left (Nat.le_of_lt h)]
theorem mixA_succ (typ frm to : ByteArray) (xs : List Al) (k : Nat) (h : k < xs.length) : mixA typ frm to xs (k + 1) = (mixA typ frm to xs k).set k (renA typ frm to xs[k]) := by
 unfold mixA
 have hl : ((xs.take k).map (renA typ frm to)).length = k := by simp; omega
 rw [List.set_append_right _ _ (by omega), hl, Nat.sub_self, List.drop_eq_getElem_cons h, List.set_cons_zero, List.take_succ_eq_append_getElem h, List.map_append]
 simp
theorem mixA_stay (typ frm to : ByteArray) (xs : List Al) (k : Nat) (h : k < xs.length) (hr : renA typ frm to xs[k] = xs[k]) : mixA typ frm to xs (k + 1) = mixA typ frm to xs k := by
 rw [mixA_succ typ frm to xs k h, hr]
 conv => lhs; rw [← mixA_at typ frm to xs k h]
 exact List.set_getElem_self _
theorem mixA_all (typ frm to : ByteArray) (xs : List Al) : mixA typ frm to xs xs.length = xs.map (renA typ frm to) := by simp [mixA]
theorem SlA.put {w : World} {g : Nat} {xs : List Al} (h : SlA w (some ⟨g, 0, none⟩) xs) {k : Nat} (hk : k < xs.length) (s : ByteArray) : SlA (w.setCell ⟨g, k * 2 + 1, none⟩ (.string s)) (some ⟨g, 0, none⟩) (xs.set k ⟨xs[k].t, s⟩) := by
 rcases h with h | ⟨b, off, e, hb, hr⟩
 ·rw [h] at hk; simp at hk
 injection e with e; injection e with e1 e2
 subst e1; subst e2
 refine .inr ⟨g, 0, rfl, by simpa using hb, fun i hi => ?_⟩
 rw [List.length_set] at hi
 have hi' := hr i hi
 by_cases e : i = k
 ·subst e
  rw [List.getElem_set_self]
  rw [Nat.zero_add] at hi' ⊢
  exact ⟨(setO' (by omega)).trans hi'.1, setS' hi'.2⟩
 ·rw [List.getElem_set_ne (Ne.symm e)]
  rw [Nat.zero_add] at hi' ⊢
  exact ⟨(setO' (by omega)).trans hi'.1, (setO' (by omega)).trans hi'.2⟩
theorem SlA.chgA {S : Nat → Prop} {w w' : World} {ad : Option Addr} {xs : List Al} (h : SlA w ad xs) (hc : Chg S w w') (hz : xs ≠ [] → ∃ g, ad = some ⟨g, 0, none⟩ ∧ ¬ S g) : SlA w' ad xs := by
 by_cases he : xs = []
 ·exact .inl he
 obtain ⟨g, e, hs⟩ := hz he
 rcases h with h | ⟨b, off, e2, hb, hr⟩
 ·exact absurd h he
 rw [e] at e2; injection e2 with e2; injection e2 with e3 e4
 subst e3; subst e4
 exact .inr ⟨g, 0, e, Nat.lt_of_lt_of_le hb hc.size, fun i hi => (hr i hi).same fun o => hc.cell hb hs⟩
def l7bad (ts : List Ty) (typ frm to tn : ByteArray) (x : Ex) : Bool := decide (x.kind = 3) && mixD ts typ frm to tn x
def NodP (ts : List Ty) (typ frm to tn : ByteArray) (x : ER) (w : World) (e : Ending) (w' : World) : Prop :=
 ∃ ov nm : ByteArray, e = .returned (.tuple #[.agg #[.int .i64 x.e.kind, .slice x.adA x.e.allow.length x.capA, .string ov, .string nm, .slice x.adK x.e.kids.length x.capK], .bool (!l7bad ts typ frm to tn x.e)]) ∧ (l7bad ts typ frm to tn x.e = false → ov = (renY ts typ frm to tn x.e).over ∧ nm = (renY ts typ frm to tn x.e).name) ∧ SlA w' x.adA (x.e.allow.map (renA typ frm to)) ∧ Chg (bA x) w w'
set_option maxHeartbeats 16000000 in
theorem l7Node_any (ad : Option Addr) (cap : Nat) (rs : List TR) (tn typ frm to : ByteArray) (x : ER) (w0 w : World) (hlen : rs.length ≤ 1048576) (hs : SlT w0 ad rs) (hl : ∀ r ∈ rs, r.light) (hb0 : Below w0.heap.size w0 w) (hzA : x.e.allow ≠ [] → ∃ g, x.adA = some ⟨g, 0, none⟩ ∧ w0.heap.size ≤ g ∧ g < w.heap.size ∧ Free w g) (hxs : SlA w x.adA x.e.allow) (hxl : x.e.allow.length ≤ 1048576) (hal : (allowP (relOr (tys rs) tn x.e.over)).length ≤ 1048576) (hgf : ∀ n, (goalsP (tys rs) tn x.e.over n).length ≤ 1048576) :
  Calls Tryz.prog 22 #[.slice ad rs.length cap, .string tn, x.val, .string typ, .string frm, .string to] w (NodP (tys rs) typ frm to tn x w) := by
 have HS := toHX hs
 have HL := toHX hl
 have HB0 := toHX hb0
 have HZA := toHX hzA
 have HGF := toHX hgf
 obtain ⟨W1, hW1⟩ : ∃ W1, W1 = w.alloc (.cells #[.int .i64 x.e.kind, .slice x.adA x.e.allow.length x.capA, .string x.e.over, .string x.e.name, .slice x.adK x.e.kids.length x.capK] 50) := ⟨_, rfl⟩
 obtain ⟨W2, hW2⟩ : ∃ W2, W2 = W1.alloc (.cells #[.int .i64 0, .slice none 0 0, .string ⟨#[]⟩, .string ⟨#[]⟩, .slice none 0 0] 50) := ⟨_, rfl⟩
 have z1 : W1.heap.size = w.heap.size + 1 := by rw [hW1]; simp
 have z2 : W2.heap.size = w.heap.size + 2 := by rw [hW2]; simp [z1]
 have b1 : Below w.heap.size w W1 := by rw [hW1]; exact (Below.refl _ _).alloc (Nat.le_refl _) _
 have b2 : Below W1.heap.size W1 W2 := by rw [hW2]; exact (Below.refl _ _).alloc (Nat.le_refl _) _
 have HB2 : Hid (Below w.heap.size w W2) := b1.trans (b2.mono b1.size)
 have bx1 : BX w.heap.size (.int .i64 x.e.kind) (.slice x.adA x.e.allow.length x.capA) (.string x.e.over) (.string x.e.name) (.slice x.adK x.e.kids.length x.capK) W1 := by rw [hW1]; exact ⟨by simp, by simp, by simp, by simp, by simp, by simp, fun y => by simp⟩
 have HBX : Hid (BX w.heap.size (.int .i64 x.e.kind) (.slice x.adA x.e.allow.length x.capA) (.string x.e.over) (.string x.e.name) (.slice x.adK x.e.kids.length x.capK) W2) := bx1.below b2
 have hxc := fun j => World.cell?_alloc_mark W1 #[.int .i64 0, .slice none 0 0, .string ⟨#[]⟩, .string ⟨#[]⟩, .slice none 0 0] 50 (0, 0) j
 rw [← hW2, z1] at hxc
 have HBR : Hid (BX (w.heap.size + 1) (.int .i64 0) (.slice none 0 0) (.string ⟨#[]⟩) (.string ⟨#[]⟩) (.slice none 0 0) W2) := by
  refine ⟨by omega, by rw [hxc 0]; rfl, by rw [hxc 1]; rfl, by rw [hxc 2]; rfl, by rw [hxc 3]; rfl, by rw [hxc 4]; rfl, fun y => ?_⟩
  rw [hW2, ← z1]; simp
 have HWW : Hid ((w.alloc (.cells #[.int .i64 x.e.kind, .slice x.adA x.e.allow.length x.capA, .string x.e.over, .string x.e.name, .slice x.adK x.e.kids.length x.capK] 50)).alloc (.cells #[.int .i64 0, .slice none 0 0, .string ⟨#[]⟩, .string ⟨#[]⟩, .slice none 0 0] 50) = W2) := by show _ = _; rw [hW2, hW1]
 have HX2 : Hid (SlA W2 x.adA x.e.allow) := hxs.below HB2.out
 have HNB : Hid (∀ g, bA x g → g < w.heap.size ∧ w0.heap.size ≤ g ∧ Free W2 g) := fun g ⟨h1, h2⟩ => by
  obtain ⟨g', e, h3, h4, h5⟩ := HZA.out h1
  rw [e] at h2; injection h2 with h2; injection h2 with h2
  subst h2
  exact ⟨h4, h3, fun y => keptF HB2.out h4 (h5 y)⟩
 have HCW : Hid (Chg (bA x) w W2) := Chg.of HB2.out
 clear hs hl hb0 hzA hgf hxs hW1 hW2 z1 b1 b2 bx1 hxc
 have HSZ := toHX z2
 clear z2
 go_enter Tryz.func22, Tryz.ntmps22
 unfold ER.val
 go_wp2_with fail
 rw [HWW.out]
 go_loopw [14] (fun i wr => ∃ k : Nat, k ≤ x.e.allow.length ∧ i = .int .i64 k ∧ Hid (SlA wr x.adA (mixA typ frm to x.e.allow k)) ∧ Hid (Chg (bA x) W2 wr)) (fun i _ => x.e.allow.length - (intOf i).toNat)
 case atStart => exact ⟨0, Nat.zero_le _, rfl, by show SlA _ _ _; simpa [mixA] using HX2.out, Chg.refl _ _⟩
 case round =>
  obtain ⟨k, hk, rfl, HR, HC⟩ := hrel
  have HBXr : Hid (BX w.heap.size (.int .i64 x.e.kind) (.slice x.adA x.e.allow.length x.capA) (.string x.e.over) (.string x.e.name) (.slice x.adK x.e.kids.length x.capK) wr) := HBX.out.chg HC.out fun h => by have := (HNB.out _ h).1; omega
  have HBRr : Hid (BX (w.heap.size + 1) (.int .i64 0) (.slice none 0 0) (.string ⟨#[]⟩) (.string ⟨#[]⟩) (.slice none 0 0) wr) := HBR.out.chg HC.out fun h => by have := (HNB.out _ h).1; omega
  obtain ⟨l0, a0, a1, a2, a3, a4, a5⟩ := HBXr.out
  by_cases hlt : k < x.e.allow.length
  ·have hne : x.e.allow ≠ [] := fun e => by rw [e] at hlt; simp at hlt
   obtain ⟨g, hadr, -⟩ := HZA.out hne
   have hbg : bA x g := ⟨hne, hadr⟩
   have HF : Hid (∀ y, wr.frozen? ⟨g, y, none⟩ = false) := fun y => by
    have h2 := HNB.out g hbg
    exact HC.out.free g (Nat.lt_of_lt_of_le h2.1 HB2.out.size) h2.2.2 y
   have hgl : g < wr.heap.size := Nat.lt_of_lt_of_le (Nat.lt_of_lt_of_le (HNB.out g hbg).1 HB2.out.size) HC.out.size
   have hR := HR.out
   rw [hadr] at hR a1 ⊢
   rcases hR with hnil | ⟨b, off, e, hb, hr⟩
   ·have := mixA_len typ frm to x.e.allow k
    rw [hnil] at this; simp at this; omega
   injection e with e; injection e with e1 e2
   subst e1; subst e2
   have hrk := hr k (by rw [mixA_len]; exact hlt)
   rw [mixA_at typ frm to x.e.allow k hlt, Nat.zero_add] at hrk
   obtain ⟨t0, t1⟩ := hrk
   have hk1 : (0 : Int) ≤ (k : Int) := by omega
   have hk2 : (k : Int) < (x.e.allow.length : Int) := by omega
   have fz := HF.out
   have HBG := toHX hbg
   have HAD := toHX hadr
   clear hr hbg hadr hne
   cases e1 : (x.e.allow[k].t.toList == typ.toList) with
   | false =>
    have HR2 : Hid (SlA wr x.adA (mixA typ frm to x.e.allow (k + 1))) := by
     show SlA _ _ _
     rw [mixA_stay typ frm to x.e.allow k hlt (by unfold renA; rw [e1]; rfl)]; exact HR.out
    go_wp2
    go_roundw
    case rel => exact ⟨k + 1, by omega, by go_num, by have h := HR2; rw [HAD.out] at h; exact h, HC⟩
    case measure => first | (simp [intOf]; done) | (simp [intOf]; omega)
   | true =>
    cases e2 : (x.e.allow[k].s.toList == frm.toList) with
    | false =>
     have HR2 : Hid (SlA wr x.adA (mixA typ frm to x.e.allow (k + 1))) := by
      show SlA _ _ _
      rw [mixA_stay typ frm to x.e.allow k hlt (by unfold renA; rw [e1, e2]; rfl)]; exact HR.out
     go_wp2
     go_roundw
     case rel => exact ⟨k + 1, by omega, by go_num, by have h := HR2; rw [HAD.out] at h; exact h, HC⟩
     case measure => first | (simp [intOf]; done) | (simp [intOf]; omega)
    | true =>
     have HR2 : Hid (SlA (wr.setCell ⟨g, k * 2 + 1, none⟩ (.string to)) x.adA (mixA typ frm to x.e.allow (k + 1))) := by
      show SlA _ _ _
      have h1 := HR.out
      rw [HAD.out] at h1 ⊢
      rw [mixA_succ typ frm to x.e.allow k hlt]
      have h2 := h1.put (k := k) (by rw [mixA_len]; exact hlt) to
      have e3 : renA typ frm to x.e.allow[k] = ⟨x.e.allow[k].t, to⟩ := by unfold renA; rw [e1, e2]; rfl
      rw [mixA_at typ frm to x.e.allow k hlt, ← e3] at h2
      exact h2
     have HC2 : Hid (Chg (bA x) W2 (wr.setCell ⟨g, k * 2 + 1, none⟩ (.string to))) := HC.out.trans (Chg.set _ HBG.out)
     go_wp2
     go_roundw
     case rel => exact ⟨k + 1, by omega, by go_num, by have h := HR2; rw [HAD.out] at h; exact h, HC2⟩
     case measure => first | (simp [intOf]; done) | (simp [intOf]; omega)
  ·obtain rfl : k = x.e.allow.length := by omega
   have HBW : Hid (Below w0.heap.size w0 wr) := (HB0.out.trans (HB2.out.mono HB0.out.size)).trans (HC.out.below (m := w0.heap.size) (fun g hg => (HNB.out g hg).2.1) (Nat.le_trans HB0.out.size HB2.out.size))
   have HRA : Hid (SlA wr x.adA (x.e.allow.map (renA typ frm to))) := by show SlA _ _ _; rw [← mixA_all]; exact HR.out
   have HCA : Hid (Chg (bA x) w wr) := HCW.out.trans HC.out
   obtain ⟨m0, v0, v1, v2, v3, v4, v5⟩ := HBRr.out
   have HFIN : Hid (∀ w8 w9 : World, Below wr.heap.size wr w8 → Chg (fun g => g = w.heap.size ∨ g = w.heap.size + 1) w8 w9 → SlA w9 x.adA (x.e.allow.map (renA typ frm to)) ∧ Chg (bA x) w w9) := fun w8 w9 hb hc => by
    refine ⟨(HRA.out.below hb).chgA hc fun hne => ?_, ⟨(HCA.out.trans (Chg.of hb)).base.trans hc.base, fun q hq hn => ?_, fun q hq hf => ?_⟩⟩
    ·have hne2 : x.e.allow ≠ [] := fun e => by rw [e] at hne; exact hne rfl
     obtain ⟨g, e, -, h2, -⟩ := HZA.out hne2
     exact ⟨g, e, fun h => by rcases h with h | h <;> omega⟩
    ·have h8 := (HCA.out.trans (Chg.of (S := bA x) hb)).block q hq hn
     have hs8 := (HCA.out.trans (Chg.of (S := bA x) hb)).size
     rw [hc.block q (by omega) (fun h => by rcases h with h | h <;> omega), h8]
    ·have hs8 := (HCA.out.trans (Chg.of (S := bA x) hb)).size
     exact hc.free q (by omega) ((HCA.out.trans (Chg.of (S := bA x) hb)).free q hq hf)
   clear HR HC HBXr HBRr
   have hrk : x.e.kind = 2 ∨ x.e.kind = 3 ∨ (x.e.kind ≠ 2 ∧ x.e.kind ≠ 3) := by omega
   rcases hrk with hk | hk | ⟨hk2, hk3⟩
   ·have e1 : (x.e.kind == 2) = true := by simp [hk]
    have e2 : decide (x.e.kind = 2) = true := by simp [hk]
    have e3 : (x.e.kind == 3) = false := by simp [hk]
    have e4 : decide (x.e.kind = 3) = false := by simp [hk]
    have HBAD : Hid (l7bad (tys rs) typ frm to tn x.e = false) := by show _ = _; unfold l7bad; rw [e4]; rfl
    have HY : Hid ((renY (tys rs) typ frm to tn x.e).over = x.e.over ∧ (renY (tys rs) typ frm to tn x.e).name = renN typ frm to tn x.e.name) := by
     show _ ∧ _
     unfold renY; simp only [if_pos hk]; rw [if_neg (by omega)]; exact ⟨by first | rfl | trivial, by first | rfl | trivial⟩
    clear hk
    cases f1 : (tn.toList == typ.toList) with
    | false =>
     have HN : Hid (x.e.name = renN typ frm to tn x.e.name) := by show _ = _; unfold renN; rw [f1]; rfl
     go_wp2
     obtain ⟨W9, hW9⟩ : ∃ W9, W9 = (((((wr.setCell ⟨w.heap.size + 1, 0, none⟩ (.int .i64 x.e.kind)).setCell ⟨w.heap.size + 1, 1, none⟩ (.slice x.adA x.e.allow.length x.capA)).setCell ⟨w.heap.size + 1, 2, none⟩ (.string x.e.over)).setCell ⟨w.heap.size + 1, 3, none⟩ (.string x.e.name)).setCell ⟨w.heap.size + 1, 4, none⟩ (.slice x.adK x.e.kids.length x.capK)) := ⟨_, rfl⟩
     have HC9 : Hid (Chg (fun g => g = w.heap.size ∨ g = w.heap.size + 1) wr W9) := by rw [hW9]; exact (((((Chg.set (S := fun g => g = w.heap.size ∨ g = w.heap.size + 1) _ (.inr rfl)).trans (Chg.set _ (.inr rfl))).trans (Chg.set _ (.inr rfl))).trans (Chg.set _ (.inr rfl))).trans (Chg.set _ (.inr rfl)))
     have HE := HFIN.out _ W9 (Below.refl _ _) HC9.out
     refine bodyPost_ret (v := .tuple #[.agg #[.int .i64 x.e.kind, .slice x.adA x.e.allow.length x.capA, .string x.e.over, .string x.e.name, .slice x.adK x.e.kids.length x.capK], .bool true]) ?_ rfl ?_
     ·simp [results, Tryz.results22, go_sem, *]
     ·first | (rw [← hW9]; exact ⟨x.e.over, x.e.name, by rw [HBAD.out]; rfl, fun _ => ⟨HY.out.1.symm, by rw [HY.out.2]; exact HN.out⟩, HE.1, HE.2⟩) | exact ⟨x.e.over, x.e.name, by rw [HBAD.out]; rfl, fun _ => ⟨HY.out.1.symm, by rw [HY.out.2]; exact HN.out⟩, HE.1, HE.2⟩
    | true =>
     cases f2 : (x.e.name.toList == frm.toList) with
     | false =>
      have HN : Hid (x.e.name = renN typ frm to tn x.e.name) := by show _ = _; unfold renN; rw [f1, f2]; rfl
      go_wp2
      obtain ⟨W9, hW9⟩ : ∃ W9, W9 = (((((wr.setCell ⟨w.heap.size + 1, 0, none⟩ (.int .i64 x.e.kind)).setCell ⟨w.heap.size + 1, 1, none⟩ (.slice x.adA x.e.allow.length x.capA)).setCell ⟨w.heap.size + 1, 2, none⟩ (.string x.e.over)).setCell ⟨w.heap.size + 1, 3, none⟩ (.string x.e.name)).setCell ⟨w.heap.size + 1, 4, none⟩ (.slice x.adK x.e.kids.length x.capK)) := ⟨_, rfl⟩
      have HC9 : Hid (Chg (fun g => g = w.heap.size ∨ g = w.heap.size + 1) wr W9) := by rw [hW9]; exact (((((Chg.set (S := fun g => g = w.heap.size ∨ g = w.heap.size + 1) _ (.inr rfl)).trans (Chg.set _ (.inr rfl))).trans (Chg.set _ (.inr rfl))).trans (Chg.set _ (.inr rfl))).trans (Chg.set _ (.inr rfl)))
      have HE := HFIN.out _ W9 (Below.refl _ _) HC9.out
      refine bodyPost_ret (v := .tuple #[.agg #[.int .i64 x.e.kind, .slice x.adA x.e.allow.length x.capA, .string x.e.over, .string x.e.name, .slice x.adK x.e.kids.length x.capK], .bool true]) ?_ rfl ?_
      ·simp [results, Tryz.results22, go_sem, *]
      ·first | (rw [← hW9]; exact ⟨x.e.over, x.e.name, by rw [HBAD.out]; rfl, fun _ => ⟨HY.out.1.symm, by rw [HY.out.2]; exact HN.out⟩, HE.1, HE.2⟩) | exact ⟨x.e.over, x.e.name, by rw [HBAD.out]; rfl, fun _ => ⟨HY.out.1.symm, by rw [HY.out.2]; exact HN.out⟩, HE.1, HE.2⟩
     | true =>
      have HN : Hid (to = renN typ frm to tn x.e.name) := by show _ = _; unfold renN; rw [f1, f2]; rfl
      go_wp2
      obtain ⟨W9, hW9⟩ : ∃ W9, W9 = ((((((wr.setCell ⟨w.heap.size, 3, none⟩ (.string to)).setCell ⟨w.heap.size + 1, 0, none⟩ (.int .i64 x.e.kind)).setCell ⟨w.heap.size + 1, 1, none⟩ (.slice x.adA x.e.allow.length x.capA)).setCell ⟨w.heap.size + 1, 2, none⟩ (.string x.e.over)).setCell ⟨w.heap.size + 1, 3, none⟩ (.string to)).setCell ⟨w.heap.size + 1, 4, none⟩ (.slice x.adK x.e.kids.length x.capK)) := ⟨_, rfl⟩
      have HC9 : Hid (Chg (fun g => g = w.heap.size ∨ g = w.heap.size + 1) wr W9) := by rw [hW9]; exact ((((((Chg.set (S := fun g => g = w.heap.size ∨ g = w.heap.size + 1) _ (.inl rfl)).trans (Chg.set _ (.inr rfl))).trans (Chg.set _ (.inr rfl))).trans (Chg.set _ (.inr rfl))).trans (Chg.set _ (.inr rfl))).trans (Chg.set _ (.inr rfl)))
      have HE := HFIN.out _ W9 (Below.refl _ _) HC9.out
      refine bodyPost_ret (v := .tuple #[.agg #[.int .i64 x.e.kind, .slice x.adA x.e.allow.length x.capA, .string x.e.over, .string to, .slice x.adK x.e.kids.length x.capK], .bool true]) ?_ rfl ?_
      ·simp [results, Tryz.results22, go_sem, *]
      ·first | (rw [← hW9]; exact ⟨x.e.over, to, by rw [HBAD.out]; rfl, fun _ => ⟨HY.out.1.symm, by rw [HY.out.2]; exact HN.out⟩, HE.1, HE.2⟩) | exact ⟨x.e.over, to, by rw [HBAD.out]; rfl, fun _ => ⟨HY.out.1.symm, by rw [HY.out.2]; exact HN.out⟩, HE.1, HE.2⟩
   ·have e1 : (x.e.kind == 2) = false := by simp [hk]
    have e2 : decide (x.e.kind = 2) = false := by simp [hk]
    have e3 : (x.e.kind == 3) = true := by simp [hk]
    have e4 : decide (x.e.kind = 3) = true := by simp [hk]
    obtain ⟨AL, hAL⟩ : ∃ AL, AL = allowP (relOr (tys rs) tn x.e.over) := ⟨_, rfl⟩
    have HB1 : Hid (l7bad (tys rs) typ frm to tn x.e = ((x.e.name.toList == to.toList && AL.any fun a => a.t.toList == typ.toList) || (x.e.name.toList == frm.toList && inS (goalsP (tys rs) tn x.e.over x.e.name) typ && decide (1 < (goalsP (tys rs) tn x.e.over x.e.name).length + (goalsP (tys rs) tn x.e.over to).length)))) := by show _ = _; unfold l7bad mixD; rw [e4, hAL]; rfl
    have HY : Hid ((renY (tys rs) typ frm to tn x.e).over = renN typ frm to tn x.e.over ∧ (renY (tys rs) typ frm to tn x.e).name = if x.e.name.toList == frm.toList && inS (goalsP (tys rs) tn x.e.over x.e.name) typ then to else x.e.name) := by
     show _ ∧ _
     unfold renY; simp only [if_pos hk]; rw [if_neg (by omega)]; exact ⟨by first | rfl | trivial, by first | rfl | trivial⟩
    have HAL : Hid (AL = allowP (relOr (tys rs) tn x.e.over)) := hAL
    rw [← hAL] at hal
    clear hk hAL
    go_wp2_with fail
    refine (l2Rel_any ad cap rs tn x.e.over _ hlen (HS.out.below HBW.out) HL.out).mono ?_
    rintro e wq ⟨⟨rows0, adE, capE, rfl, hex0, hse0, hfr0⟩, hwq⟩
    replace hwq := hwq.symm
    subst hwq
    have HX0 : Hid (exs rows0 = relOr (tys rs) tn x.e.over) := hex0
    have HSE0 := toHX hse0
    have hrl : rows0.length ≤ 1048576 := by
     rcases hfr0 with h | ⟨t, ht, q, hq, h, -⟩
     ·rw [h]; simp
     ·rw [h]; exact ((HL.out t ht).2 q hq).1
    clear hex0 hse0 hfr0
    go_wp2_with fail
    refine (l2Allow_any adE capE rows0 _ hrl HSE0.out).mono ?_
    rintro e wq ⟨⟨adL, capL, rfl, hsl, -⟩, hwq⟩
    replace hwq := hwq.symm
    subst hwq
    rw [HX0.out, ← HAL.out] at hsl ⊢
    have HSL := toHX hsl
    clear hsl
    go_wp2_with fail
    go_loopw [16, 17] (fun v i wz => ∃ j : Nat, j ≤ AL.length ∧ i = .int .i64 j ∧ v = .bool ((AL.take j).any fun a => a.t.toList == typ.toList) ∧ wz = wr) (fun _ i _ => AL.length - (intOf i).toNat)
    case atStart => exact ⟨0, Nat.zero_le _, rfl, rfl, rfl⟩
    case round =>
     obtain ⟨j, hj, rfl, rfl, hwz⟩ := hrel
     replace hwz := hwz.symm
     subst hwz
     by_cases hjt : j < AL.length
     ·rcases HSL.out with hnil | ⟨bL, offL, hadL, hbL, hrL⟩
      ·rw [hnil] at hjt; simp at hjt
      obtain ⟨t0, t1⟩ := hrL j hjt
      have hj1 : (0 : Int) ≤ (j : Int) := by omega
      have hj2 : (j : Int) < (AL.length : Int) := by omega
      have HT := toHX (show (AL.take (j + 1)).any (fun a => a.t.toList == typ.toList) = ((AL.take j).any (fun a => a.t.toList == typ.toList) || (AL[j].t.toList == typ.toList)) by rw [List.take_succ_eq_append_getElem hjt, List.any_append]; simp)
      rw [hadL]
      clear hrL hadL
      cases h1 : (AL.take j).any (fun a => a.t.toList == typ.toList) with
      | true =>
       have HT2 : Hid ((AL.take (j + 1)).any (fun a => a.t.toList == typ.toList) = true) := by show _ = _; rw [HT.out, h1]; rfl
       go_wp2
       go_roundw
       case rel => exact ⟨j + 1, by omega, by go_num, by rw [HT2.out], by first | rfl | trivial⟩
       case measure => first | (simp [intOf]; done) | (simp [intOf]; omega)
      | false =>
       have HT2 : Hid ((AL.take (j + 1)).any (fun a => a.t.toList == typ.toList) = (AL[j].t.toList == typ.toList)) := by show _ = _; rw [HT.out, h1]; rfl
       go_wp2
       go_roundw
       case rel => exact ⟨j + 1, by omega, by go_num, by rw [HT2.out], by first | rfl | trivial⟩
       case measure => first | (simp [intOf]; done) | (simp [intOf]; omega)
     ·obtain rfl : j = AL.length := by omega
      rw [List.take_length]
      obtain ⟨NB, hNB⟩ : ∃ NB, NB = AL.any (fun a => a.t.toList == typ.toList) := ⟨_, rfl⟩
      rw [← hNB] at HB1 ⊢
      clear hNB
      go_wp2_with fail
      refine (l2Goals_any ad cap rs tn x.e.over x.e.name _ hlen (HS.out.below HBW.out) HL.out).mono ?_
      rintro e w7 ⟨⟨adG, capG, rfl, hsg, -⟩, hb7⟩
      obtain ⟨GL, hGL⟩ : ∃ GL, GL = goalsP (tys rs) tn x.e.over x.e.name := ⟨_, rfl⟩
      have hgl := HGF.out x.e.name
      rw [← hGL] at hsg HB1 HY hgl ⊢
      clear hGL
      have HSG := toHX hsg
      have HB7 := toHX hb7
      replace a0 := kept hb7 l0 a0
      replace a1 := kept hb7 l0 a1
      replace a2 := kept hb7 l0 a2
      replace a3 := kept hb7 l0 a3
      replace a4 := kept hb7 l0 a4
      replace a5 := fun y => keptF hb7 l0 (a5 y)
      replace v0 := kept hb7 m0 v0
      replace v1 := kept hb7 m0 v1
      replace v2 := kept hb7 m0 v2
      replace v3 := kept hb7 m0 v3
      replace v4 := kept hb7 m0 v4
      replace v5 := fun y => keptF hb7 m0 (v5 y)
      replace l0 := Nat.lt_of_lt_of_le l0 hb7.size
      replace m0 := Nat.lt_of_lt_of_le m0 hb7.size
      clear hsg hb7
      have hAB : (x.e.name.toList == to.toList && NB) = true ∨ ((x.e.name.toList == to.toList) = true ∧ NB = false) ∨ (x.e.name.toList == to.toList) = false := by
       cases (x.e.name.toList == to.toList) <;> cases NB <;> simp
      rcases hAB with hAB | hAB
      ·have HBAD : Hid (l7bad (tys rs) typ frm to tn x.e = true) := by show _ = _; rw [HB1.out, hAB]; rfl
       rw [Bool.and_eq_true] at hAB
       obtain ⟨g1, rfl⟩ := hAB
       go_wp2
       obtain ⟨W9, hW9⟩ : ∃ W9, W9 = (((((w7.setCell ⟨w.heap.size + 1, 0, none⟩ (.int .i64 x.e.kind)).setCell ⟨w.heap.size + 1, 1, none⟩ (.slice x.adA x.e.allow.length x.capA)).setCell ⟨w.heap.size + 1, 2, none⟩ (.string x.e.over)).setCell ⟨w.heap.size + 1, 3, none⟩ (.string x.e.name)).setCell ⟨w.heap.size + 1, 4, none⟩ (.slice x.adK x.e.kids.length x.capK)) := ⟨_, rfl⟩
       have HC9 : Hid (Chg (fun g => g = w.heap.size ∨ g = w.heap.size + 1) w7 W9) := by rw [hW9]; exact (((((Chg.set (S := fun g => g = w.heap.size ∨ g = w.heap.size + 1) _ (.inr rfl)).trans (Chg.set _ (.inr rfl))).trans (Chg.set _ (.inr rfl))).trans (Chg.set _ (.inr rfl))).trans (Chg.set _ (.inr rfl)))
       have HE := HFIN.out _ W9 (HB7.out) HC9.out
       refine bodyPost_ret (v := .tuple #[.agg #[.int .i64 x.e.kind, .slice x.adA x.e.allow.length x.capA, .string x.e.over, .string x.e.name, .slice x.adK x.e.kids.length x.capK], .bool false]) ?_ rfl ?_
       ·simp [results, Tryz.results22, go_sem, *]
       ·first | (rw [← hW9]; exact ⟨x.e.over, x.e.name, by rw [HBAD.out]; rfl, fun h => (by rw [HBAD.out] at h; cases h), HE.1, HE.2⟩) | exact ⟨x.e.over, x.e.name, by rw [HBAD.out]; rfl, fun h => (by rw [HBAD.out] at h; cases h), HE.1, HE.2⟩
      ·have HB2' : Hid (l7bad (tys rs) typ frm to tn x.e = (x.e.name.toList == frm.toList && inS GL typ && decide (1 < GL.length + (goalsP (tys rs) tn x.e.over to).length))) := by
        show _ = _
        rw [HB1.out]
        rcases hAB with ⟨g1, rfl⟩ | g1
        ·rw [g1]; rfl
        ·rw [g1]; rfl
       cases h3 : (x.e.name.toList == frm.toList) with
       | false =>
        have HBAD : Hid (l7bad (tys rs) typ frm to tn x.e = false) := by show _ = _; rw [HB2'.out, h3]; rfl
        have HNM : Hid ((renY (tys rs) typ frm to tn x.e).name = x.e.name) := by show _ = _; rw [HY.out.2, h3]; rfl
        rcases hAB with ⟨g1, rfl⟩ | g1
        ·cases h5 : (tn.toList == typ.toList) with
         | false =>
          have HOV : Hid (x.e.over = renN typ frm to tn x.e.over) := by show _ = _; unfold renN; rw [h5]; rfl
          go_wp2
          obtain ⟨W9, hW9⟩ : ∃ W9, W9 = (((((w7.setCell ⟨w.heap.size + 1, 0, none⟩ (.int .i64 x.e.kind)).setCell ⟨w.heap.size + 1, 1, none⟩ (.slice x.adA x.e.allow.length x.capA)).setCell ⟨w.heap.size + 1, 2, none⟩ (.string x.e.over)).setCell ⟨w.heap.size + 1, 3, none⟩ (.string x.e.name)).setCell ⟨w.heap.size + 1, 4, none⟩ (.slice x.adK x.e.kids.length x.capK)) := ⟨_, rfl⟩
          have HC9 : Hid (Chg (fun g => g = w.heap.size ∨ g = w.heap.size + 1) w7 W9) := by rw [hW9]; exact (((((Chg.set (S := fun g => g = w.heap.size ∨ g = w.heap.size + 1) _ (.inr rfl)).trans (Chg.set _ (.inr rfl))).trans (Chg.set _ (.inr rfl))).trans (Chg.set _ (.inr rfl))).trans (Chg.set _ (.inr rfl)))
          have HE := HFIN.out _ W9 (HB7.out) HC9.out
          refine bodyPost_ret (v := .tuple #[.agg #[.int .i64 x.e.kind, .slice x.adA x.e.allow.length x.capA, .string x.e.over, .string x.e.name, .slice x.adK x.e.kids.length x.capK], .bool true]) ?_ rfl ?_
          ·simp [results, Tryz.results22, go_sem, *]
          ·first | (rw [← hW9]; exact ⟨x.e.over, x.e.name, by rw [HBAD.out]; rfl, fun _ => ⟨by rw [HY.out.1]; exact HOV.out, HNM.out.symm⟩, HE.1, HE.2⟩) | exact ⟨x.e.over, x.e.name, by rw [HBAD.out]; rfl, fun _ => ⟨by rw [HY.out.1]; exact HOV.out, HNM.out.symm⟩, HE.1, HE.2⟩
         | true =>
          cases h6 : (x.e.over.toList == frm.toList) with
          | false =>
           have HOV : Hid (x.e.over = renN typ frm to tn x.e.over) := by show _ = _; unfold renN; rw [h5, h6]; rfl
           go_wp2
           obtain ⟨W9, hW9⟩ : ∃ W9, W9 = (((((w7.setCell ⟨w.heap.size + 1, 0, none⟩ (.int .i64 x.e.kind)).setCell ⟨w.heap.size + 1, 1, none⟩ (.slice x.adA x.e.allow.length x.capA)).setCell ⟨w.heap.size + 1, 2, none⟩ (.string x.e.over)).setCell ⟨w.heap.size + 1, 3, none⟩ (.string x.e.name)).setCell ⟨w.heap.size + 1, 4, none⟩ (.slice x.adK x.e.kids.length x.capK)) := ⟨_, rfl⟩
           have HC9 : Hid (Chg (fun g => g = w.heap.size ∨ g = w.heap.size + 1) w7 W9) := by rw [hW9]; exact (((((Chg.set (S := fun g => g = w.heap.size ∨ g = w.heap.size + 1) _ (.inr rfl)).trans (Chg.set _ (.inr rfl))).trans (Chg.set _ (.inr rfl))).trans (Chg.set _ (.inr rfl))).trans (Chg.set _ (.inr rfl)))
           have HE := HFIN.out _ W9 (HB7.out) HC9.out
           refine bodyPost_ret (v := .tuple #[.agg #[.int .i64 x.e.kind, .slice x.adA x.e.allow.length x.capA, .string x.e.over, .string x.e.name, .slice x.adK x.e.kids.length x.capK], .bool true]) ?_ rfl ?_
           ·simp [results, Tryz.results22, go_sem, *]
           ·first | (rw [← hW9]; exact ⟨x.e.over, x.e.name, by rw [HBAD.out]; rfl, fun _ => ⟨by rw [HY.out.1]; exact HOV.out, HNM.out.symm⟩, HE.1, HE.2⟩) | exact ⟨x.e.over, x.e.name, by rw [HBAD.out]; rfl, fun _ => ⟨by rw [HY.out.1]; exact HOV.out, HNM.out.symm⟩, HE.1, HE.2⟩
          | true =>
           have HOV : Hid (to = renN typ frm to tn x.e.over) := by show _ = _; unfold renN; rw [h5, h6]; rfl
           go_wp2
           obtain ⟨W9, hW9⟩ : ∃ W9, W9 = ((((((w7.setCell ⟨w.heap.size, 2, none⟩ (.string to)).setCell ⟨w.heap.size + 1, 0, none⟩ (.int .i64 x.e.kind)).setCell ⟨w.heap.size + 1, 1, none⟩ (.slice x.adA x.e.allow.length x.capA)).setCell ⟨w.heap.size + 1, 2, none⟩ (.string to)).setCell ⟨w.heap.size + 1, 3, none⟩ (.string x.e.name)).setCell ⟨w.heap.size + 1, 4, none⟩ (.slice x.adK x.e.kids.length x.capK)) := ⟨_, rfl⟩
           have HC9 : Hid (Chg (fun g => g = w.heap.size ∨ g = w.heap.size + 1) w7 W9) := by rw [hW9]; exact ((((((Chg.set (S := fun g => g = w.heap.size ∨ g = w.heap.size + 1) _ (.inl rfl)).trans (Chg.set _ (.inr rfl))).trans (Chg.set _ (.inr rfl))).trans (Chg.set _ (.inr rfl))).trans (Chg.set _ (.inr rfl))).trans (Chg.set _ (.inr rfl)))
           have HE := HFIN.out _ W9 (HB7.out) HC9.out
           refine bodyPost_ret (v := .tuple #[.agg #[.int .i64 x.e.kind, .slice x.adA x.e.allow.length x.capA, .string to, .string x.e.name, .slice x.adK x.e.kids.length x.capK], .bool true]) ?_ rfl ?_
           ·simp [results, Tryz.results22, go_sem, *]
           ·first | (rw [← hW9]; exact ⟨to, x.e.name, by rw [HBAD.out]; rfl, fun _ => ⟨by rw [HY.out.1]; exact HOV.out, HNM.out.symm⟩, HE.1, HE.2⟩) | exact ⟨to, x.e.name, by rw [HBAD.out]; rfl, fun _ => ⟨by rw [HY.out.1]; exact HOV.out, HNM.out.symm⟩, HE.1, HE.2⟩
        ·cases h5 : (tn.toList == typ.toList) with
         | false =>
          have HOV : Hid (x.e.over = renN typ frm to tn x.e.over) := by show _ = _; unfold renN; rw [h5]; rfl
          go_wp2
          obtain ⟨W9, hW9⟩ : ∃ W9, W9 = (((((w7.setCell ⟨w.heap.size + 1, 0, none⟩ (.int .i64 x.e.kind)).setCell ⟨w.heap.size + 1, 1, none⟩ (.slice x.adA x.e.allow.length x.capA)).setCell ⟨w.heap.size + 1, 2, none⟩ (.string x.e.over)).setCell ⟨w.heap.size + 1, 3, none⟩ (.string x.e.name)).setCell ⟨w.heap.size + 1, 4, none⟩ (.slice x.adK x.e.kids.length x.capK)) := ⟨_, rfl⟩
          have HC9 : Hid (Chg (fun g => g = w.heap.size ∨ g = w.heap.size + 1) w7 W9) := by rw [hW9]; exact (((((Chg.set (S := fun g => g = w.heap.size ∨ g = w.heap.size + 1) _ (.inr rfl)).trans (Chg.set _ (.inr rfl))).trans (Chg.set _ (.inr rfl))).trans (Chg.set _ (.inr rfl))).trans (Chg.set _ (.inr rfl)))
          have HE := HFIN.out _ W9 (HB7.out) HC9.out
          refine bodyPost_ret (v := .tuple #[.agg #[.int .i64 x.e.kind, .slice x.adA x.e.allow.length x.capA, .string x.e.over, .string x.e.name, .slice x.adK x.e.kids.length x.capK], .bool true]) ?_ rfl ?_
          ·simp [results, Tryz.results22, go_sem, *]
          ·first | (rw [← hW9]; exact ⟨x.e.over, x.e.name, by rw [HBAD.out]; rfl, fun _ => ⟨by rw [HY.out.1]; exact HOV.out, HNM.out.symm⟩, HE.1, HE.2⟩) | exact ⟨x.e.over, x.e.name, by rw [HBAD.out]; rfl, fun _ => ⟨by rw [HY.out.1]; exact HOV.out, HNM.out.symm⟩, HE.1, HE.2⟩
         | true =>
          cases h6 : (x.e.over.toList == frm.toList) with
          | false =>
           have HOV : Hid (x.e.over = renN typ frm to tn x.e.over) := by show _ = _; unfold renN; rw [h5, h6]; rfl
           go_wp2
           obtain ⟨W9, hW9⟩ : ∃ W9, W9 = (((((w7.setCell ⟨w.heap.size + 1, 0, none⟩ (.int .i64 x.e.kind)).setCell ⟨w.heap.size + 1, 1, none⟩ (.slice x.adA x.e.allow.length x.capA)).setCell ⟨w.heap.size + 1, 2, none⟩ (.string x.e.over)).setCell ⟨w.heap.size + 1, 3, none⟩ (.string x.e.name)).setCell ⟨w.heap.size + 1, 4, none⟩ (.slice x.adK x.e.kids.length x.capK)) := ⟨_, rfl⟩
           have HC9 : Hid (Chg (fun g => g = w.heap.size ∨ g = w.heap.size + 1) w7 W9) := by rw [hW9]; exact (((((Chg.set (S := fun g => g = w.heap.size ∨ g = w.heap.size + 1) _ (.inr rfl)).trans (Chg.set _ (.inr rfl))).trans (Chg.set _ (.inr rfl))).trans (Chg.set _ (.inr rfl))).trans (Chg.set _ (.inr rfl)))
           have HE := HFIN.out _ W9 (HB7.out) HC9.out
           refine bodyPost_ret (v := .tuple #[.agg #[.int .i64 x.e.kind, .slice x.adA x.e.allow.length x.capA, .string x.e.over, .string x.e.name, .slice x.adK x.e.kids.length x.capK], .bool true]) ?_ rfl ?_
           ·simp [results, Tryz.results22, go_sem, *]
           ·first | (rw [← hW9]; exact ⟨x.e.over, x.e.name, by rw [HBAD.out]; rfl, fun _ => ⟨by rw [HY.out.1]; exact HOV.out, HNM.out.symm⟩, HE.1, HE.2⟩) | exact ⟨x.e.over, x.e.name, by rw [HBAD.out]; rfl, fun _ => ⟨by rw [HY.out.1]; exact HOV.out, HNM.out.symm⟩, HE.1, HE.2⟩
          | true =>
           have HOV : Hid (to = renN typ frm to tn x.e.over) := by show _ = _; unfold renN; rw [h5, h6]; rfl
           go_wp2
           obtain ⟨W9, hW9⟩ : ∃ W9, W9 = ((((((w7.setCell ⟨w.heap.size, 2, none⟩ (.string to)).setCell ⟨w.heap.size + 1, 0, none⟩ (.int .i64 x.e.kind)).setCell ⟨w.heap.size + 1, 1, none⟩ (.slice x.adA x.e.allow.length x.capA)).setCell ⟨w.heap.size + 1, 2, none⟩ (.string to)).setCell ⟨w.heap.size + 1, 3, none⟩ (.string x.e.name)).setCell ⟨w.heap.size + 1, 4, none⟩ (.slice x.adK x.e.kids.length x.capK)) := ⟨_, rfl⟩
           have HC9 : Hid (Chg (fun g => g = w.heap.size ∨ g = w.heap.size + 1) w7 W9) := by rw [hW9]; exact ((((((Chg.set (S := fun g => g = w.heap.size ∨ g = w.heap.size + 1) _ (.inl rfl)).trans (Chg.set _ (.inr rfl))).trans (Chg.set _ (.inr rfl))).trans (Chg.set _ (.inr rfl))).trans (Chg.set _ (.inr rfl))).trans (Chg.set _ (.inr rfl)))
           have HE := HFIN.out _ W9 (HB7.out) HC9.out
           refine bodyPost_ret (v := .tuple #[.agg #[.int .i64 x.e.kind, .slice x.adA x.e.allow.length x.capA, .string to, .string x.e.name, .slice x.adK x.e.kids.length x.capK], .bool true]) ?_ rfl ?_
           ·simp [results, Tryz.results22, go_sem, *]
           ·first | (rw [← hW9]; exact ⟨to, x.e.name, by rw [HBAD.out]; rfl, fun _ => ⟨by rw [HY.out.1]; exact HOV.out, HNM.out.symm⟩, HE.1, HE.2⟩) | exact ⟨to, x.e.name, by rw [HBAD.out]; rfl, fun _ => ⟨by rw [HY.out.1]; exact HOV.out, HNM.out.symm⟩, HE.1, HE.2⟩
       | true =>
        cases h4 : inS GL typ with
        | false =>
         have HBAD : Hid (l7bad (tys rs) typ frm to tn x.e = false) := by show _ = _; rw [HB2'.out, h3, h4]; rfl
         have HNM : Hid ((renY (tys rs) typ frm to tn x.e).name = x.e.name) := by show _ = _; rw [HY.out.2, h3, h4]; rfl
         have HIN : Hid (Calls Tryz.prog 45 #[.slice adG GL.length capG, .string typ] w7 fun e w' => e = .returned (.bool false) ∧ w' = w7) := (l7In_any adG capG GL typ w7 hgl HSG.out).mono fun e w' h => by rw [h4] at h; exact h
         clear h4
         rcases hAB with ⟨g1, rfl⟩ | g1
         ·go_wp2_with fail
          refine HIN.out.mono ?_
          rintro e wq ⟨rfl, hwq⟩
          replace hwq := hwq.symm
          subst hwq
          go_wp2_with fail
          refine HIN.out.mono ?_
          rintro e wq ⟨rfl, hwq⟩
          replace hwq := hwq.symm
          subst hwq
          cases h5 : (tn.toList == typ.toList) with
          | false =>
           have HOV : Hid (x.e.over = renN typ frm to tn x.e.over) := by show _ = _; unfold renN; rw [h5]; rfl
           go_wp2
           obtain ⟨W9, hW9⟩ : ∃ W9, W9 = (((((w7.setCell ⟨w.heap.size + 1, 0, none⟩ (.int .i64 x.e.kind)).setCell ⟨w.heap.size + 1, 1, none⟩ (.slice x.adA x.e.allow.length x.capA)).setCell ⟨w.heap.size + 1, 2, none⟩ (.string x.e.over)).setCell ⟨w.heap.size + 1, 3, none⟩ (.string x.e.name)).setCell ⟨w.heap.size + 1, 4, none⟩ (.slice x.adK x.e.kids.length x.capK)) := ⟨_, rfl⟩
           have HC9 : Hid (Chg (fun g => g = w.heap.size ∨ g = w.heap.size + 1) w7 W9) := by rw [hW9]; exact (((((Chg.set (S := fun g => g = w.heap.size ∨ g = w.heap.size + 1) _ (.inr rfl)).trans (Chg.set _ (.inr rfl))).trans (Chg.set _ (.inr rfl))).trans (Chg.set _ (.inr rfl))).trans (Chg.set _ (.inr rfl)))
           have HE := HFIN.out _ W9 (HB7.out) HC9.out
           refine bodyPost_ret (v := .tuple #[.agg #[.int .i64 x.e.kind, .slice x.adA x.e.allow.length x.capA, .string x.e.over, .string x.e.name, .slice x.adK x.e.kids.length x.capK], .bool true]) ?_ rfl ?_
           ·simp [results, Tryz.results22, go_sem, *]
           ·first | (rw [← hW9]; exact ⟨x.e.over, x.e.name, by rw [HBAD.out]; rfl, fun _ => ⟨by rw [HY.out.1]; exact HOV.out, HNM.out.symm⟩, HE.1, HE.2⟩) | exact ⟨x.e.over, x.e.name, by rw [HBAD.out]; rfl, fun _ => ⟨by rw [HY.out.1]; exact HOV.out, HNM.out.symm⟩, HE.1, HE.2⟩
          | true =>
           cases h6 : (x.e.over.toList == frm.toList) with
           | false =>
            have HOV : Hid (x.e.over = renN typ frm to tn x.e.over) := by show _ = _; unfold renN; rw [h5, h6]; rfl
            go_wp2
            obtain ⟨W9, hW9⟩ : ∃ W9, W9 = (((((w7.setCell ⟨w.heap.size + 1, 0, none⟩ (.int .i64 x.e.kind)).setCell ⟨w.heap.size + 1, 1, none⟩ (.slice x.adA x.e.allow.length x.capA)).setCell ⟨w.heap.size + 1, 2, none⟩ (.string x.e.over)).setCell ⟨w.heap.size + 1, 3, none⟩ (.string x.e.name)).setCell ⟨w.heap.size + 1, 4, none⟩ (.slice x.adK x.e.kids.length x.capK)) := ⟨_, rfl⟩
            have HC9 : Hid (Chg (fun g => g = w.heap.size ∨ g = w.heap.size + 1) w7 W9) := by rw [hW9]; exact (((((Chg.set (S := fun g => g = w.heap.size ∨ g = w.heap.size + 1) _ (.inr rfl)).trans (Chg.set _ (.inr rfl))).trans (Chg.set _ (.inr rfl))).trans (Chg.set _ (.inr rfl))).trans (Chg.set _ (.inr rfl)))
            have HE := HFIN.out _ W9 (HB7.out) HC9.out
            refine bodyPost_ret (v := .tuple #[.agg #[.int .i64 x.e.kind, .slice x.adA x.e.allow.length x.capA, .string x.e.over, .string x.e.name, .slice x.adK x.e.kids.length x.capK], .bool true]) ?_ rfl ?_
            ·simp [results, Tryz.results22, go_sem, *]
            ·first | (rw [← hW9]; exact ⟨x.e.over, x.e.name, by rw [HBAD.out]; rfl, fun _ => ⟨by rw [HY.out.1]; exact HOV.out, HNM.out.symm⟩, HE.1, HE.2⟩) | exact ⟨x.e.over, x.e.name, by rw [HBAD.out]; rfl, fun _ => ⟨by rw [HY.out.1]; exact HOV.out, HNM.out.symm⟩, HE.1, HE.2⟩
           | true =>
            have HOV : Hid (to = renN typ frm to tn x.e.over) := by show _ = _; unfold renN; rw [h5, h6]; rfl
            go_wp2
            obtain ⟨W9, hW9⟩ : ∃ W9, W9 = ((((((w7.setCell ⟨w.heap.size, 2, none⟩ (.string to)).setCell ⟨w.heap.size + 1, 0, none⟩ (.int .i64 x.e.kind)).setCell ⟨w.heap.size + 1, 1, none⟩ (.slice x.adA x.e.allow.length x.capA)).setCell ⟨w.heap.size + 1, 2, none⟩ (.string to)).setCell ⟨w.heap.size + 1, 3, none⟩ (.string x.e.name)).setCell ⟨w.heap.size + 1, 4, none⟩ (.slice x.adK x.e.kids.length x.capK)) := ⟨_, rfl⟩
            have HC9 : Hid (Chg (fun g => g = w.heap.size ∨ g = w.heap.size + 1) w7 W9) := by rw [hW9]; exact ((((((Chg.set (S := fun g => g = w.heap.size ∨ g = w.heap.size + 1) _ (.inl rfl)).trans (Chg.set _ (.inr rfl))).trans (Chg.set _ (.inr rfl))).trans (Chg.set _ (.inr rfl))).trans (Chg.set _ (.inr rfl))).trans (Chg.set _ (.inr rfl)))
            have HE := HFIN.out _ W9 (HB7.out) HC9.out
            refine bodyPost_ret (v := .tuple #[.agg #[.int .i64 x.e.kind, .slice x.adA x.e.allow.length x.capA, .string to, .string x.e.name, .slice x.adK x.e.kids.length x.capK], .bool true]) ?_ rfl ?_
            ·simp [results, Tryz.results22, go_sem, *]
            ·first | (rw [← hW9]; exact ⟨to, x.e.name, by rw [HBAD.out]; rfl, fun _ => ⟨by rw [HY.out.1]; exact HOV.out, HNM.out.symm⟩, HE.1, HE.2⟩) | exact ⟨to, x.e.name, by rw [HBAD.out]; rfl, fun _ => ⟨by rw [HY.out.1]; exact HOV.out, HNM.out.symm⟩, HE.1, HE.2⟩
         ·go_wp2_with fail
          refine HIN.out.mono ?_
          rintro e wq ⟨rfl, hwq⟩
          replace hwq := hwq.symm
          subst hwq
          go_wp2_with fail
          refine HIN.out.mono ?_
          rintro e wq ⟨rfl, hwq⟩
          replace hwq := hwq.symm
          subst hwq
          cases h5 : (tn.toList == typ.toList) with
          | false =>
           have HOV : Hid (x.e.over = renN typ frm to tn x.e.over) := by show _ = _; unfold renN; rw [h5]; rfl
           go_wp2
           obtain ⟨W9, hW9⟩ : ∃ W9, W9 = (((((w7.setCell ⟨w.heap.size + 1, 0, none⟩ (.int .i64 x.e.kind)).setCell ⟨w.heap.size + 1, 1, none⟩ (.slice x.adA x.e.allow.length x.capA)).setCell ⟨w.heap.size + 1, 2, none⟩ (.string x.e.over)).setCell ⟨w.heap.size + 1, 3, none⟩ (.string x.e.name)).setCell ⟨w.heap.size + 1, 4, none⟩ (.slice x.adK x.e.kids.length x.capK)) := ⟨_, rfl⟩
           have HC9 : Hid (Chg (fun g => g = w.heap.size ∨ g = w.heap.size + 1) w7 W9) := by rw [hW9]; exact (((((Chg.set (S := fun g => g = w.heap.size ∨ g = w.heap.size + 1) _ (.inr rfl)).trans (Chg.set _ (.inr rfl))).trans (Chg.set _ (.inr rfl))).trans (Chg.set _ (.inr rfl))).trans (Chg.set _ (.inr rfl)))
           have HE := HFIN.out _ W9 (HB7.out) HC9.out
           refine bodyPost_ret (v := .tuple #[.agg #[.int .i64 x.e.kind, .slice x.adA x.e.allow.length x.capA, .string x.e.over, .string x.e.name, .slice x.adK x.e.kids.length x.capK], .bool true]) ?_ rfl ?_
           ·simp [results, Tryz.results22, go_sem, *]
           ·first | (rw [← hW9]; exact ⟨x.e.over, x.e.name, by rw [HBAD.out]; rfl, fun _ => ⟨by rw [HY.out.1]; exact HOV.out, HNM.out.symm⟩, HE.1, HE.2⟩) | exact ⟨x.e.over, x.e.name, by rw [HBAD.out]; rfl, fun _ => ⟨by rw [HY.out.1]; exact HOV.out, HNM.out.symm⟩, HE.1, HE.2⟩
          | true =>
           cases h6 : (x.e.over.toList == frm.toList) with
           | false =>
            have HOV : Hid (x.e.over = renN typ frm to tn x.e.over) := by show _ = _; unfold renN; rw [h5, h6]; rfl
            go_wp2
            obtain ⟨W9, hW9⟩ : ∃ W9, W9 = (((((w7.setCell ⟨w.heap.size + 1, 0, none⟩ (.int .i64 x.e.kind)).setCell ⟨w.heap.size + 1, 1, none⟩ (.slice x.adA x.e.allow.length x.capA)).setCell ⟨w.heap.size + 1, 2, none⟩ (.string x.e.over)).setCell ⟨w.heap.size + 1, 3, none⟩ (.string x.e.name)).setCell ⟨w.heap.size + 1, 4, none⟩ (.slice x.adK x.e.kids.length x.capK)) := ⟨_, rfl⟩
            have HC9 : Hid (Chg (fun g => g = w.heap.size ∨ g = w.heap.size + 1) w7 W9) := by rw [hW9]; exact (((((Chg.set (S := fun g => g = w.heap.size ∨ g = w.heap.size + 1) _ (.inr rfl)).trans (Chg.set _ (.inr rfl))).trans (Chg.set _ (.inr rfl))).trans (Chg.set _ (.inr rfl))).trans (Chg.set _ (.inr rfl)))
            have HE := HFIN.out _ W9 (HB7.out) HC9.out
            refine bodyPost_ret (v := .tuple #[.agg #[.int .i64 x.e.kind, .slice x.adA x.e.allow.length x.capA, .string x.e.over, .string x.e.name, .slice x.adK x.e.kids.length x.capK], .bool true]) ?_ rfl ?_
            ·simp [results, Tryz.results22, go_sem, *]
            ·first | (rw [← hW9]; exact ⟨x.e.over, x.e.name, by rw [HBAD.out]; rfl, fun _ => ⟨by rw [HY.out.1]; exact HOV.out, HNM.out.symm⟩, HE.1, HE.2⟩) | exact ⟨x.e.over, x.e.name, by rw [HBAD.out]; rfl, fun _ => ⟨by rw [HY.out.1]; exact HOV.out, HNM.out.symm⟩, HE.1, HE.2⟩
           | true =>
            have HOV : Hid (to = renN typ frm to tn x.e.over) := by show _ = _; unfold renN; rw [h5, h6]; rfl
            go_wp2
            obtain ⟨W9, hW9⟩ : ∃ W9, W9 = ((((((w7.setCell ⟨w.heap.size, 2, none⟩ (.string to)).setCell ⟨w.heap.size + 1, 0, none⟩ (.int .i64 x.e.kind)).setCell ⟨w.heap.size + 1, 1, none⟩ (.slice x.adA x.e.allow.length x.capA)).setCell ⟨w.heap.size + 1, 2, none⟩ (.string to)).setCell ⟨w.heap.size + 1, 3, none⟩ (.string x.e.name)).setCell ⟨w.heap.size + 1, 4, none⟩ (.slice x.adK x.e.kids.length x.capK)) := ⟨_, rfl⟩
            have HC9 : Hid (Chg (fun g => g = w.heap.size ∨ g = w.heap.size + 1) w7 W9) := by rw [hW9]; exact ((((((Chg.set (S := fun g => g = w.heap.size ∨ g = w.heap.size + 1) _ (.inl rfl)).trans (Chg.set _ (.inr rfl))).trans (Chg.set _ (.inr rfl))).trans (Chg.set _ (.inr rfl))).trans (Chg.set _ (.inr rfl))).trans (Chg.set _ (.inr rfl)))
            have HE := HFIN.out _ W9 (HB7.out) HC9.out
            refine bodyPost_ret (v := .tuple #[.agg #[.int .i64 x.e.kind, .slice x.adA x.e.allow.length x.capA, .string to, .string x.e.name, .slice x.adK x.e.kids.length x.capK], .bool true]) ?_ rfl ?_
            ·simp [results, Tryz.results22, go_sem, *]
            ·first | (rw [← hW9]; exact ⟨to, x.e.name, by rw [HBAD.out]; rfl, fun _ => ⟨by rw [HY.out.1]; exact HOV.out, HNM.out.symm⟩, HE.1, HE.2⟩) | exact ⟨to, x.e.name, by rw [HBAD.out]; rfl, fun _ => ⟨by rw [HY.out.1]; exact HOV.out, HNM.out.symm⟩, HE.1, HE.2⟩
        | true =>
         have HIN : Hid (Calls Tryz.prog 45 #[.slice adG GL.length capG, .string typ] w7 fun e w' => e = .returned (.bool true) ∧ w' = w7) := (l7In_any adG capG GL typ w7 hgl HSG.out).mono fun e w' h => by rw [h4] at h; exact h
         have hgl2 := HGF.out to
         have HG2 := toHX (l2Goals_any ad cap rs tn x.e.over to w7 hlen ((HS.out.below HBW.out).below HB7.out) HL.out)
         obtain ⟨GL2, hGL2⟩ : ∃ GL2, GL2 = goalsP (tys rs) tn x.e.over to := ⟨_, rfl⟩
         rw [← hGL2] at HB2' hgl2 HG2
         clear hGL2
         have HB3' : Hid (l7bad (tys rs) typ frm to tn x.e = decide (1 < GL.length + GL2.length)) := by show _ = _; rw [HB2'.out, h3, h4]; rfl
         have HNM : Hid ((renY (tys rs) typ frm to tn x.e).name = to) := by show _ = _; rw [HY.out.2, h3, h4]; rfl
         have HIT := toHX h4
         clear h4
         rcases hAB with ⟨g1, rfl⟩ | g1
         ·go_wp2_with fail
          refine HIN.out.mono ?_
          rintro e wq ⟨rfl, hwq⟩
          replace hwq := hwq.symm
          subst hwq
          go_wp2_with fail
          refine HG2.out.mono ?_
          rintro e w8 ⟨⟨adH, capH, rfl, -, -⟩, hb8⟩
          have HB8 : Hid (Below wr.heap.size wr w8) := HB7.out.trans (hb8.mono HB7.out.size)
          have HSG8 := toHX (HSG.out.below hb8)
          replace a0 := kept hb8 l0 a0
          replace a1 := kept hb8 l0 a1
          replace a2 := kept hb8 l0 a2
          replace a3 := kept hb8 l0 a3
          replace a4 := kept hb8 l0 a4
          replace a5 := fun y => keptF hb8 l0 (a5 y)
          replace v0 := kept hb8 m0 v0
          replace v1 := kept hb8 m0 v1
          replace v2 := kept hb8 m0 v2
          replace v3 := kept hb8 m0 v3
          replace v4 := kept hb8 m0 v4
          replace v5 := fun y => keptF hb8 m0 (v5 y)
          replace l0 := Nat.lt_of_lt_of_le l0 hb8.size
          replace m0 := Nat.lt_of_lt_of_le m0 hb8.size
          clear hb8
          have hwrap : IntKind.i64.wrap ((GL.length : Int) + (GL2.length : Int)) = (GL.length : Int) + (GL2.length : Int) := by rw [IntKind.wrap_i64]; omega
          cases h7 : decide (1 < GL.length + GL2.length) with
          | true =>
           have HBAD : Hid (l7bad (tys rs) typ frm to tn x.e = true) := HB3'.out.trans h7
           have h8 : (1 : Int) < (GL.length : Int) + (GL2.length : Int) := by have := of_decide_eq_true h7; omega
           clear h7
           go_wp2
           obtain ⟨W9, hW9⟩ : ∃ W9, W9 = (((((w8.setCell ⟨w.heap.size + 1, 0, none⟩ (.int .i64 x.e.kind)).setCell ⟨w.heap.size + 1, 1, none⟩ (.slice x.adA x.e.allow.length x.capA)).setCell ⟨w.heap.size + 1, 2, none⟩ (.string x.e.over)).setCell ⟨w.heap.size + 1, 3, none⟩ (.string x.e.name)).setCell ⟨w.heap.size + 1, 4, none⟩ (.slice x.adK x.e.kids.length x.capK)) := ⟨_, rfl⟩
           have HC9 : Hid (Chg (fun g => g = w.heap.size ∨ g = w.heap.size + 1) w8 W9) := by rw [hW9]; exact (((((Chg.set (S := fun g => g = w.heap.size ∨ g = w.heap.size + 1) _ (.inr rfl)).trans (Chg.set _ (.inr rfl))).trans (Chg.set _ (.inr rfl))).trans (Chg.set _ (.inr rfl))).trans (Chg.set _ (.inr rfl)))
           have HE := HFIN.out _ W9 (HB8.out) HC9.out
           refine bodyPost_ret (v := .tuple #[.agg #[.int .i64 x.e.kind, .slice x.adA x.e.allow.length x.capA, .string x.e.over, .string x.e.name, .slice x.adK x.e.kids.length x.capK], .bool false]) ?_ rfl ?_
           ·simp [results, Tryz.results22, go_sem, *]
           ·first | (rw [← hW9]; exact ⟨x.e.over, x.e.name, by rw [HBAD.out]; rfl, fun h => (by rw [HBAD.out] at h; cases h), HE.1, HE.2⟩) | exact ⟨x.e.over, x.e.name, by rw [HBAD.out]; rfl, fun h => (by rw [HBAD.out] at h; cases h), HE.1, HE.2⟩
          | false =>
           have HBAD : Hid (l7bad (tys rs) typ frm to tn x.e = false) := HB3'.out.trans h7
           have h8 : ¬ (1 : Int) < (GL.length : Int) + (GL2.length : Int) := by have := of_decide_eq_false h7; omega
           clear h7
           have HIN2 : Hid (Calls Tryz.prog 45 #[.slice adG GL.length capG, .string typ] w8 fun e w' => e = .returned (.bool true) ∧ w' = w8) := (l7In_any adG capG GL typ w8 hgl HSG8.out).mono fun e w' h => by rw [HIT.out] at h; exact h
           go_wp2_with fail
           refine HIN2.out.mono ?_
           rintro e wq ⟨rfl, hwq⟩
           replace hwq := hwq.symm
           subst hwq
           cases h5 : (tn.toList == typ.toList) with
           | false =>
            have HOV : Hid (x.e.over = renN typ frm to tn x.e.over) := by show _ = _; unfold renN; rw [h5]; rfl
            go_wp2
            obtain ⟨W9, hW9⟩ : ∃ W9, W9 = ((((((w8.setCell ⟨w.heap.size, 3, none⟩ (.string to)).setCell ⟨w.heap.size + 1, 0, none⟩ (.int .i64 x.e.kind)).setCell ⟨w.heap.size + 1, 1, none⟩ (.slice x.adA x.e.allow.length x.capA)).setCell ⟨w.heap.size + 1, 2, none⟩ (.string x.e.over)).setCell ⟨w.heap.size + 1, 3, none⟩ (.string to)).setCell ⟨w.heap.size + 1, 4, none⟩ (.slice x.adK x.e.kids.length x.capK)) := ⟨_, rfl⟩
            have HC9 : Hid (Chg (fun g => g = w.heap.size ∨ g = w.heap.size + 1) w8 W9) := by rw [hW9]; exact ((((((Chg.set (S := fun g => g = w.heap.size ∨ g = w.heap.size + 1) _ (.inl rfl)).trans (Chg.set _ (.inr rfl))).trans (Chg.set _ (.inr rfl))).trans (Chg.set _ (.inr rfl))).trans (Chg.set _ (.inr rfl))).trans (Chg.set _ (.inr rfl)))
            have HE := HFIN.out _ W9 (HB8.out) HC9.out
            refine bodyPost_ret (v := .tuple #[.agg #[.int .i64 x.e.kind, .slice x.adA x.e.allow.length x.capA, .string x.e.over, .string to, .slice x.adK x.e.kids.length x.capK], .bool true]) ?_ rfl ?_
            ·simp [results, Tryz.results22, go_sem, *]
            ·first | (rw [← hW9]; exact ⟨x.e.over, to, by rw [HBAD.out]; rfl, fun _ => ⟨by rw [HY.out.1]; exact HOV.out, HNM.out.symm⟩, HE.1, HE.2⟩) | exact ⟨x.e.over, to, by rw [HBAD.out]; rfl, fun _ => ⟨by rw [HY.out.1]; exact HOV.out, HNM.out.symm⟩, HE.1, HE.2⟩
           | true =>
            cases h6 : (x.e.over.toList == frm.toList) with
            | false =>
             have HOV : Hid (x.e.over = renN typ frm to tn x.e.over) := by show _ = _; unfold renN; rw [h5, h6]; rfl
             go_wp2
             obtain ⟨W9, hW9⟩ : ∃ W9, W9 = ((((((w8.setCell ⟨w.heap.size, 3, none⟩ (.string to)).setCell ⟨w.heap.size + 1, 0, none⟩ (.int .i64 x.e.kind)).setCell ⟨w.heap.size + 1, 1, none⟩ (.slice x.adA x.e.allow.length x.capA)).setCell ⟨w.heap.size + 1, 2, none⟩ (.string x.e.over)).setCell ⟨w.heap.size + 1, 3, none⟩ (.string to)).setCell ⟨w.heap.size + 1, 4, none⟩ (.slice x.adK x.e.kids.length x.capK)) := ⟨_, rfl⟩
             have HC9 : Hid (Chg (fun g => g = w.heap.size ∨ g = w.heap.size + 1) w8 W9) := by rw [hW9]; exact ((((((Chg.set (S := fun g => g = w.heap.size ∨ g = w.heap.size + 1) _ (.inl rfl)).trans (Chg.set _ (.inr rfl))).trans (Chg.set _ (.inr rfl))).trans (Chg.set _ (.inr rfl))).trans (Chg.set _ (.inr rfl))).trans (Chg.set _ (.inr rfl)))
             have HE := HFIN.out _ W9 (HB8.out) HC9.out
             refine bodyPost_ret (v := .tuple #[.agg #[.int .i64 x.e.kind, .slice x.adA x.e.allow.length x.capA, .string x.e.over, .string to, .slice x.adK x.e.kids.length x.capK], .bool true]) ?_ rfl ?_
             ·simp [results, Tryz.results22, go_sem, *]
             ·first | (rw [← hW9]; exact ⟨x.e.over, to, by rw [HBAD.out]; rfl, fun _ => ⟨by rw [HY.out.1]; exact HOV.out, HNM.out.symm⟩, HE.1, HE.2⟩) | exact ⟨x.e.over, to, by rw [HBAD.out]; rfl, fun _ => ⟨by rw [HY.out.1]; exact HOV.out, HNM.out.symm⟩, HE.1, HE.2⟩
            | true =>
             have HOV : Hid (to = renN typ frm to tn x.e.over) := by show _ = _; unfold renN; rw [h5, h6]; rfl
             go_wp2
             obtain ⟨W9, hW9⟩ : ∃ W9, W9 = (((((((w8.setCell ⟨w.heap.size, 3, none⟩ (.string to)).setCell ⟨w.heap.size, 2, none⟩ (.string to)).setCell ⟨w.heap.size + 1, 0, none⟩ (.int .i64 x.e.kind)).setCell ⟨w.heap.size + 1, 1, none⟩ (.slice x.adA x.e.allow.length x.capA)).setCell ⟨w.heap.size + 1, 2, none⟩ (.string to)).setCell ⟨w.heap.size + 1, 3, none⟩ (.string to)).setCell ⟨w.heap.size + 1, 4, none⟩ (.slice x.adK x.e.kids.length x.capK)) := ⟨_, rfl⟩
             have HC9 : Hid (Chg (fun g => g = w.heap.size ∨ g = w.heap.size + 1) w8 W9) := by rw [hW9]; exact (((((((Chg.set (S := fun g => g = w.heap.size ∨ g = w.heap.size + 1) _ (.inl rfl)).trans (Chg.set _ (.inl rfl))).trans (Chg.set _ (.inr rfl))).trans (Chg.set _ (.inr rfl))).trans (Chg.set _ (.inr rfl))).trans (Chg.set _ (.inr rfl))).trans (Chg.set _ (.inr rfl)))
             have HE := HFIN.out _ W9 (HB8.out) HC9.out
             refine bodyPost_ret (v := .tuple #[.agg #[.int .i64 x.e.kind, .slice x.adA x.e.allow.length x.capA, .string to, .string to, .slice x.adK x.e.kids.length x.capK], .bool true]) ?_ rfl ?_
             ·simp [results, Tryz.results22, go_sem, *]
             ·first | (rw [← hW9]; exact ⟨to, to, by rw [HBAD.out]; rfl, fun _ => ⟨by rw [HY.out.1]; exact HOV.out, HNM.out.symm⟩, HE.1, HE.2⟩) | exact ⟨to, to, by rw [HBAD.out]; rfl, fun _ => ⟨by rw [HY.out.1]; exact HOV.out, HNM.out.symm⟩, HE.1, HE.2⟩
         ·go_wp2_with fail
          refine HIN.out.mono ?_
          rintro e wq ⟨rfl, hwq⟩
          replace hwq := hwq.symm
          subst hwq
          go_wp2_with fail
          refine HG2.out.mono ?_
          rintro e w8 ⟨⟨adH, capH, rfl, -, -⟩, hb8⟩
          have HB8 : Hid (Below wr.heap.size wr w8) := HB7.out.trans (hb8.mono HB7.out.size)
          have HSG8 := toHX (HSG.out.below hb8)
          replace a0 := kept hb8 l0 a0
          replace a1 := kept hb8 l0 a1
          replace a2 := kept hb8 l0 a2
          replace a3 := kept hb8 l0 a3
          replace a4 := kept hb8 l0 a4
          replace a5 := fun y => keptF hb8 l0 (a5 y)
          replace v0 := kept hb8 m0 v0
          replace v1 := kept hb8 m0 v1
          replace v2 := kept hb8 m0 v2
          replace v3 := kept hb8 m0 v3
          replace v4 := kept hb8 m0 v4
          replace v5 := fun y => keptF hb8 m0 (v5 y)
          replace l0 := Nat.lt_of_lt_of_le l0 hb8.size
          replace m0 := Nat.lt_of_lt_of_le m0 hb8.size
          clear hb8
          have hwrap : IntKind.i64.wrap ((GL.length : Int) + (GL2.length : Int)) = (GL.length : Int) + (GL2.length : Int) := by rw [IntKind.wrap_i64]; omega
          cases h7 : decide (1 < GL.length + GL2.length) with
          | true =>
           have HBAD : Hid (l7bad (tys rs) typ frm to tn x.e = true) := HB3'.out.trans h7
           have h8 : (1 : Int) < (GL.length : Int) + (GL2.length : Int) := by have := of_decide_eq_true h7; omega
           clear h7
           go_wp2
           obtain ⟨W9, hW9⟩ : ∃ W9, W9 = (((((w8.setCell ⟨w.heap.size + 1, 0, none⟩ (.int .i64 x.e.kind)).setCell ⟨w.heap.size + 1, 1, none⟩ (.slice x.adA x.e.allow.length x.capA)).setCell ⟨w.heap.size + 1, 2, none⟩ (.string x.e.over)).setCell ⟨w.heap.size + 1, 3, none⟩ (.string x.e.name)).setCell ⟨w.heap.size + 1, 4, none⟩ (.slice x.adK x.e.kids.length x.capK)) := ⟨_, rfl⟩
           have HC9 : Hid (Chg (fun g => g = w.heap.size ∨ g = w.heap.size + 1) w8 W9) := by rw [hW9]; exact (((((Chg.set (S := fun g => g = w.heap.size ∨ g = w.heap.size + 1) _ (.inr rfl)).trans (Chg.set _ (.inr rfl))).trans (Chg.set _ (.inr rfl))).trans (Chg.set _ (.inr rfl))).trans (Chg.set _ (.inr rfl)))
           have HE := HFIN.out _ W9 (HB8.out) HC9.out
           refine bodyPost_ret (v := .tuple #[.agg #[.int .i64 x.e.kind, .slice x.adA x.e.allow.length x.capA, .string x.e.over, .string x.e.name, .slice x.adK x.e.kids.length x.capK], .bool false]) ?_ rfl ?_
           ·simp [results, Tryz.results22, go_sem, *]
           ·first | (rw [← hW9]; exact ⟨x.e.over, x.e.name, by rw [HBAD.out]; rfl, fun h => (by rw [HBAD.out] at h; cases h), HE.1, HE.2⟩) | exact ⟨x.e.over, x.e.name, by rw [HBAD.out]; rfl, fun h => (by rw [HBAD.out] at h; cases h), HE.1, HE.2⟩
          | false =>
           have HBAD : Hid (l7bad (tys rs) typ frm to tn x.e = false) := HB3'.out.trans h7
           have h8 : ¬ (1 : Int) < (GL.length : Int) + (GL2.length : Int) := by have := of_decide_eq_false h7; omega
           clear h7
           have HIN2 : Hid (Calls Tryz.prog 45 #[.slice adG GL.length capG, .string typ] w8 fun e w' => e = .returned (.bool true) ∧ w' = w8) := (l7In_any adG capG GL typ w8 hgl HSG8.out).mono fun e w' h => by rw [HIT.out] at h; exact h
           go_wp2_with fail
           refine HIN2.out.mono ?_
           rintro e wq ⟨rfl, hwq⟩
           replace hwq := hwq.symm
           subst hwq
           cases h5 : (tn.toList == typ.toList) with
           | false =>
            have HOV : Hid (x.e.over = renN typ frm to tn x.e.over) := by show _ = _; unfold renN; rw [h5]; rfl
            go_wp2
            obtain ⟨W9, hW9⟩ : ∃ W9, W9 = ((((((w8.setCell ⟨w.heap.size, 3, none⟩ (.string to)).setCell ⟨w.heap.size + 1, 0, none⟩ (.int .i64 x.e.kind)).setCell ⟨w.heap.size + 1, 1, none⟩ (.slice x.adA x.e.allow.length x.capA)).setCell ⟨w.heap.size + 1, 2, none⟩ (.string x.e.over)).setCell ⟨w.heap.size + 1, 3, none⟩ (.string to)).setCell ⟨w.heap.size + 1, 4, none⟩ (.slice x.adK x.e.kids.length x.capK)) := ⟨_, rfl⟩
            have HC9 : Hid (Chg (fun g => g = w.heap.size ∨ g = w.heap.size + 1) w8 W9) := by rw [hW9]; exact ((((((Chg.set (S := fun g => g = w.heap.size ∨ g = w.heap.size + 1) _ (.inl rfl)).trans (Chg.set _ (.inr rfl))).trans (Chg.set _ (.inr rfl))).trans (Chg.set _ (.inr rfl))).trans (Chg.set _ (.inr rfl))).trans (Chg.set _ (.inr rfl)))
            have HE := HFIN.out _ W9 (HB8.out) HC9.out
            refine bodyPost_ret (v := .tuple #[.agg #[.int .i64 x.e.kind, .slice x.adA x.e.allow.length x.capA, .string x.e.over, .string to, .slice x.adK x.e.kids.length x.capK], .bool true]) ?_ rfl ?_
            ·simp [results, Tryz.results22, go_sem, *]
            ·first | (rw [← hW9]; exact ⟨x.e.over, to, by rw [HBAD.out]; rfl, fun _ => ⟨by rw [HY.out.1]; exact HOV.out, HNM.out.symm⟩, HE.1, HE.2⟩) | exact ⟨x.e.over, to, by rw [HBAD.out]; rfl, fun _ => ⟨by rw [HY.out.1]; exact HOV.out, HNM.out.symm⟩, HE.1, HE.2⟩
           | true =>
            cases h6 : (x.e.over.toList == frm.toList) with
            | false =>
             have HOV : Hid (x.e.over = renN typ frm to tn x.e.over) := by show _ = _; unfold renN; rw [h5, h6]; rfl
             go_wp2
             obtain ⟨W9, hW9⟩ : ∃ W9, W9 = ((((((w8.setCell ⟨w.heap.size, 3, none⟩ (.string to)).setCell ⟨w.heap.size + 1, 0, none⟩ (.int .i64 x.e.kind)).setCell ⟨w.heap.size + 1, 1, none⟩ (.slice x.adA x.e.allow.length x.capA)).setCell ⟨w.heap.size + 1, 2, none⟩ (.string x.e.over)).setCell ⟨w.heap.size + 1, 3, none⟩ (.string to)).setCell ⟨w.heap.size + 1, 4, none⟩ (.slice x.adK x.e.kids.length x.capK)) := ⟨_, rfl⟩
             have HC9 : Hid (Chg (fun g => g = w.heap.size ∨ g = w.heap.size + 1) w8 W9) := by rw [hW9]; exact ((((((Chg.set (S := fun g => g = w.heap.size ∨ g = w.heap.size + 1) _ (.inl rfl)).trans (Chg.set _ (.inr rfl))).trans (Chg.set _ (.inr rfl))).trans (Chg.set _ (.inr rfl))).trans (Chg.set _ (.inr rfl))).trans (Chg.set _ (.inr rfl)))
             have HE := HFIN.out _ W9 (HB8.out) HC9.out
             refine bodyPost_ret (v := .tuple #[.agg #[.int .i64 x.e.kind, .slice x.adA x.e.allow.length x.capA, .string x.e.over, .string to, .slice x.adK x.e.kids.length x.capK], .bool true]) ?_ rfl ?_
             ·simp [results, Tryz.results22, go_sem, *]
             ·first | (rw [← hW9]; exact ⟨x.e.over, to, by rw [HBAD.out]; rfl, fun _ => ⟨by rw [HY.out.1]; exact HOV.out, HNM.out.symm⟩, HE.1, HE.2⟩) | exact ⟨x.e.over, to, by rw [HBAD.out]; rfl, fun _ => ⟨by rw [HY.out.1]; exact HOV.out, HNM.out.symm⟩, HE.1, HE.2⟩
            | true =>
             have HOV : Hid (to = renN typ frm to tn x.e.over) := by show _ = _; unfold renN; rw [h5, h6]; rfl
             go_wp2
             obtain ⟨W9, hW9⟩ : ∃ W9, W9 = (((((((w8.setCell ⟨w.heap.size, 3, none⟩ (.string to)).setCell ⟨w.heap.size, 2, none⟩ (.string to)).setCell ⟨w.heap.size + 1, 0, none⟩ (.int .i64 x.e.kind)).setCell ⟨w.heap.size + 1, 1, none⟩ (.slice x.adA x.e.allow.length x.capA)).setCell ⟨w.heap.size + 1, 2, none⟩ (.string to)).setCell ⟨w.heap.size + 1, 3, none⟩ (.string to)).setCell ⟨w.heap.size + 1, 4, none⟩ (.slice x.adK x.e.kids.length x.capK)) := ⟨_, rfl⟩
             have HC9 : Hid (Chg (fun g => g = w.heap.size ∨ g = w.heap.size + 1) w8 W9) := by rw [hW9]; exact (((((((Chg.set (S := fun g => g = w.heap.size ∨ g = w.heap.size + 1) _ (.inl rfl)).trans (Chg.set _ (.inl rfl))).trans (Chg.set _ (.inr rfl))).trans (Chg.set _ (.inr rfl))).trans (Chg.set _ (.inr rfl))).trans (Chg.set _ (.inr rfl))).trans (Chg.set _ (.inr rfl)))
             have HE := HFIN.out _ W9 (HB8.out) HC9.out
             refine bodyPost_ret (v := .tuple #[.agg #[.int .i64 x.e.kind, .slice x.adA x.e.allow.length x.capA, .string to, .string to, .slice x.adK x.e.kids.length x.capK], .bool true]) ?_ rfl ?_
             ·simp [results, Tryz.results22, go_sem, *]
             ·first | (rw [← hW9]; exact ⟨to, to, by rw [HBAD.out]; rfl, fun _ => ⟨by rw [HY.out.1]; exact HOV.out, HNM.out.symm⟩, HE.1, HE.2⟩) | exact ⟨to, to, by rw [HBAD.out]; rfl, fun _ => ⟨by rw [HY.out.1]; exact HOV.out, HNM.out.symm⟩, HE.1, HE.2⟩
   ·have e1 : (x.e.kind == 2) = false := by simp [hk2]
    have e2 : decide (x.e.kind = 2) = false := by simp [hk2]
    have e3 : (x.e.kind == 3) = false := by simp [hk3]
    have e4 : decide (x.e.kind = 3) = false := by simp [hk3]
    have HBAD : Hid (l7bad (tys rs) typ frm to tn x.e = false) := by show _ = _; unfold l7bad; rw [e4]; rfl
    have HY : Hid ((renY (tys rs) typ frm to tn x.e).over = x.e.over ∧ (renY (tys rs) typ frm to tn x.e).name = x.e.name) := by
     show _ ∧ _
     unfold renY; simp only [if_neg hk2, if_neg hk3]; exact ⟨trivial, trivial⟩
    clear hk2 hk3
    go_wp2
    obtain ⟨W9, hW9⟩ : ∃ W9, W9 = (((((wr.setCell ⟨w.heap.size + 1, 0, none⟩ (.int .i64 x.e.kind)).setCell ⟨w.heap.size + 1, 1, none⟩ (.slice x.adA x.e.allow.length x.capA)).setCell ⟨w.heap.size + 1, 2, none⟩ (.string x.e.over)).setCell ⟨w.heap.size + 1, 3, none⟩ (.string x.e.name)).setCell ⟨w.heap.size + 1, 4, none⟩ (.slice x.adK x.e.kids.length x.capK)) := ⟨_, rfl⟩
    have HC9 : Hid (Chg (fun g => g = w.heap.size ∨ g = w.heap.size + 1) wr W9) := by rw [hW9]; exact (((((Chg.set (S := fun g => g = w.heap.size ∨ g = w.heap.size + 1) _ (.inr rfl)).trans (Chg.set _ (.inr rfl))).trans (Chg.set _ (.inr rfl))).trans (Chg.set _ (.inr rfl))).trans (Chg.set _ (.inr rfl)))
    have HE := HFIN.out _ W9 (Below.refl _ _) HC9.out
    refine bodyPost_ret (v := .tuple #[.agg #[.int .i64 x.e.kind, .slice x.adA x.e.allow.length x.capA, .string x.e.over, .string x.e.name, .slice x.adK x.e.kids.length x.capK], .bool true]) ?_ rfl ?_
    ·simp [results, Tryz.results22, go_sem, *]
    ·first | (rw [← hW9]; exact ⟨x.e.over, x.e.name, by rw [HBAD.out]; rfl, fun _ => ⟨HY.out.1.symm, HY.out.2.symm⟩, HE.1, HE.2⟩) | exact ⟨x.e.over, x.e.name, by rw [HBAD.out]; rfl, fun _ => ⟨HY.out.1.symm, HY.out.2.symm⟩, HE.1, HE.2⟩
end Go.Proofs.YtmghabcaakgjiaaGreat
