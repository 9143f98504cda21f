/- The name that a relation has behind a renaming, over schemas. -/
import Derived.Test.YtmghabcaakgjiaaGreatJ14
import Derived.Test.YtmghabcaakgjiaaGreatJ23
namespace Go.Proofs.YtmghabcaakgjiaaGreat
set_option maxRecDepth 100000
set_option linter.unusedVariables false
open Go.ChangeShapes Go.WideShapes Go.ChangeAt Go.RowKit Go.Maps
open Pl
set_option maxHeartbeats 4000000 in
theorem renName_any (mv : Option Nat) (typ frm to ty name : ByteArray) (w : World) (hf : frm.toList ≠ []) :
  Calls Tryz.prog 67 #[.agg #[.map mv, .string typ, .string frm, .string to], .string ty, .string name] w fun e w' => e = .returned (.string (renN typ frm to ty name)) ∧ Below w.heap.size w w' := by
 have HB0 : Hid (Below w.heap.size w (w.alloc (.cells #[.map mv, .string typ, .string frm, .string to] 59))) := (Below.refl _ _).alloc (Nat.le_refl _) _
 have HE : Hid ((name.toList == frm.toList) = true → name.toList.isEmpty = false) := by
  show _ → _
  intro h
  have h2 : name.toList = frm.toList := by simpa using h
  cases h3 : name.toList.isEmpty with
  | false => rfl
  | true => exact (hf (by rw [← h2]; exact List.isEmpty_iff.1 h3)).elim
 clear hf
 cases e1 : ty.toList == typ.toList <;> cases e2 : name.toList == frm.toList <;> cases e3 : name.toList.isEmpty
 all_goals try (exact absurd (HE.out e2) (by rw [e3]; decide))
 all_goals (
  go_enter Tryz.func67, Tryz.ntmps67
  go_wp2
  go_ret
  exact ⟨by unfold renN; rw [e1, e2]; rfl, HB0.out⟩)
end Go.Proofs.YtmghabcaakgjiaaGreat
namespace Go.Proofs.YtmghabcaakgjiaaGreat
set_option maxRecDepth 100000
set_option linter.unusedVariables false
open Go.ChangeShapes Go.WideShapes Go.ChangeAt Go.RowKit Go.Maps
open Pl
def othB (ts : List Ty) (typ frm to : ByteArray) (a : Al) : Bool := !(a.t.toList == typ.toList) && (hasB ts a.t frm || hasB ts a.t to)
theorem run_oth (xs : Array Value) (u : World) : (callFunc 63 xs).run Tryz.prog u = .ok (.enter 63 xs) u := by kernel_rfl
theorem run_mix (xs : Array Value) (u : World) : (callFunc 30 xs).run Tryz.prog u = .ok (.enter 30 xs) u := by kernel_rfl
theorem run_leaf (xs : Array Value) (u : World) : (callFunc 32 xs).run Tryz.prog u = .ok (.enter 32 xs) u := by kernel_rfl
structure RnC (g b : Nat) (typ frm to : ByteArray) (w : World) : Prop where
 lt : g < w.heap.size
 c0 : w.cell? ⟨g, 0, none⟩ = some (.map (some b))
 c1 : w.cell? ⟨g, 1, none⟩ = some (.string typ)
 c2 : w.cell? ⟨g, 2, none⟩ = some (.string frm)
 c3 : w.cell? ⟨g, 3, none⟩ = some (.string to)
theorem RnC.below {g b : Nat} {typ frm to : ByteArray} {w w' : World} (h : RnC g b typ frm to w) (hb : Below w.heap.size w w') : RnC g b typ frm to w' :=
 ⟨Nat.lt_of_lt_of_le h.lt hb.size, kept hb h.lt h.c0, kept hb h.lt h.c1, kept hb h.lt h.c2, kept hb h.lt h.c3⟩
set_option maxHeartbeats 2000000 in
theorem others_any (g b n : Nat) (rs : List TR) (M : ByteArray × ByteArray → Option Value) (typ frm to : ByteArray) (a : Al) (w : World) (hV : MapV encK Tryz.prog 73 w b n M) (hT : Tab rs M) (hr : RnC g b typ frm to w) (hat : a.t.size ≤ maxLen) (hfr : frm.size ≤ maxLen) (hto : to.size ≤ maxLen) :
  Calls Tryz.prog 63 #[.agg #[.string a.t, .string a.s], .pointer (some ⟨g, 0, none⟩)] w fun e w' => e = .returned (.bool (othB (tys rs) typ frm to a)) ∧ Below w.heap.size w w' := by
 obtain ⟨W, hW⟩ : ∃ W, W = w.alloc (.cells #[.string a.t, .string a.s] 90) := ⟨_, rfl⟩
 have HB : Hid (Below w.heap.size w W) := by show Below _ _ _; rw [hW]; exact (Below.refl _ _).alloc (Nat.le_refl _) _
 have HV := toHX (hV.below HB.out)
 have HC := toHX (hr.below HB.out)
 have HA : Hid (W.cell? ⟨w.heap.size, 0, none⟩ = some (.string a.t)) := by show _ = _; rw [hW]; simp
 obtain ⟨l0, c0, c1, c2, c3⟩ := hr
 have H1 : Hid ((M (a.t, frm)).isSome = hasB (tys rs) a.t frm) := hT.some_iff (a.t, frm)
 have H2 : Hid ((M (a.t, to)).isSome = hasB (tys rs) a.t to) := hT.some_iff (a.t, to)
 clear hV hT
 go_enter Tryz.func63, Tryz.ntmps63
 cases e1 : (a.t.toList == typ.toList) with
 | true =>
  have HR : Hid (othB (tys rs) typ frm to a = false) := by show _ = _; unfold othB; rw [e1]; rfl
  go_wp2
  rw [← hW]
  go_ret
  exact ⟨by rw [HR.out]; rfl, HB.out⟩
 | false =>
  have HR : Hid (othB (tys rs) typ frm to a = (hasB (tys rs) a.t frm || hasB (tys rs) a.t to)) := by show _ = _; unfold othB; rw [e1]; rfl
  go_wp2_with fail
  rw [← hW]
  clear hW c0 c1 c2 c3 l0
  obtain ⟨l0, c0, c1, c2, c3⟩ := HC.out
  have a0 := HA.out
  refine (has_any b n M a.t frm W hat hfr HV.out).mono ?_
  rintro e w' ⟨rfl, hw'⟩
  replace hw' := hw'.symm
  subst hw'
  cases e2 : (M (a.t, frm)).isSome with
  | true =>
   have HR2 : Hid (othB (tys rs) typ frm to a = true) := by show _ = _; rw [HR.out, ← H1.out, e2]; rfl
   go_wp2
   go_ret
   exact ⟨by rw [HR2.out]; rfl, HB.out⟩
  | false =>
   have HR2 : Hid (othB (tys rs) typ frm to a = (M (a.t, to)).isSome) := by show _ = _; rw [HR.out, ← H1.out, e2, H2.out]; rfl
   go_wp2_with fail
   refine (has_any b n M a.t to W hat hto HV.out).mono ?_
   rintro e w' ⟨rfl, hw'⟩
   replace hw' := hw'.symm
   subst hw'
   go_wp2
   go_ret
   exact ⟨by rw [HR2.out]; rfl, HB.out⟩
set_option maxHeartbeats 1000000 in
theorem indexAF_any (FC : Nat) (rc cp : Array Value) (p : Al → Bool) (ad : Option Addr) (cap : Nat) (xs : List Al) (w : World) (hlen : xs.length ≤ 1048576) (hs : SlA w ad xs)
  (hrun : ∀ (ys : Array Value) (u : World), (callFunc FC ys).run Tryz.prog u = .ok (.enter FC ys) u) (hp : ∀ a ∈ xs, ∀ w1 : World, Below w.heap.size w w1 → Calls Tryz.prog FC (rc.push (.agg #[.string a.t, .string a.s]) ++ cp) w1 fun e w' => e = .returned (.bool (p a)) ∧ Below w1.heap.size w1 w') :
  Calls Tryz.prog 91 #[.slice ad xs.length cap, .func (Fn.func FC) rc cp] w fun e w' => (∃ r : Int, e = .returned (.int .i64 r) ∧ decide (0 ≤ r) = xs.any p) ∧ Below w.heap.size w w' := by
 have HS := toHX hs
 have HRUN := toHX hrun
 have HP := toHX hp
 clear hs hrun hp
 have HD : Hid (∀ k (h : k < xs.length), (xs.drop k).any p = (p xs[k] || (xs.drop (k + 1)).any p)) := fun k h => any_drop p xs k h
 go_enter Tryz.func91, Tryz.ntmps91
 go_wp2_with fail
 go_loopw [8] (fun i wr => ∃ k : Nat, k ≤ xs.length ∧ i = .int .i64 k ∧ Hid ((xs.drop k).any p = xs.any p) ∧ Hid (Below w.heap.size w wr)) (fun i _ => xs.length - (intOf i).toNat)
 case atStart => exact ⟨0, Nat.zero_le _, rfl, rfl, Below.refl _ _⟩
 case round =>
  obtain ⟨k, hk, rfl, HQ, HB⟩ := hrel
  by_cases hlt : k < xs.length
  ·rcases HS.out.below HB.out with hnil | ⟨b, off, hadr, hb, hr⟩
   ·rw [hnil] at hlt; simp at hlt
   obtain ⟨t0, t1⟩ := hr k hlt
   have HM : Hid (xs[k] ∈ xs) := List.getElem_mem hlt
   have hk1 : (0 : Int) ≤ (k : Int) := by omega
   have hk2 : (k : Int) < (xs.length : Int) := by omega
   have HD2 := toHX (HD.out k hlt)
   rw [hadr]
   clear hr hadr
   go_wp2_with fail
   rw [HRUN.out, Oper.upon_enter]
   refine (HP.out _ HM.out _ HB.out).mono ?_
   rintro e w1 ⟨rfl, hb1⟩
   have HB1 : Hid (Below w.heap.size w w1) := HB.out.trans (hb1.mono HB.out.size)
   clear hb1 t0 t1
   cases he : p xs[k] with
   | true =>
    have HN : Hid (xs.any p = true) := by show _ = _; rw [← HQ.out, HD2.out, he]; rfl
    go_wp2
    go_ret
    exact ⟨⟨k, rfl, by rw [HN.out]; simp⟩, HB1.out⟩
   | false =>
    have HQ2 : Hid ((xs.drop (k + 1)).any p = xs.any p) := by show _ = _; rw [← HQ.out, HD2.out, he]; rfl
    go_wp2
    go_roundw
    case rel => exact ⟨k + 1, by omega, by go_num, HQ2, HB1⟩
    case measure => first | (simp [intOf]; done) | (simp [intOf]; omega)
  ·have HN : Hid (xs.any p = false) := by show _ = _; rw [← HQ.out, List.drop_of_length_le (by omega)]; rfl
   go_wp2
   go_ret
   exact ⟨⟨-1, rfl, by rw [HN.out]; simp⟩, HB.out⟩
theorem containsAF_any (FC : Nat) (rc cp : Array Value) (p : Al → Bool) (ad : Option Addr) (cap : Nat) (xs : List Al) (w : World) (hlen : xs.length ≤ 1048576) (hs : SlA w ad xs)
  (hrun : ∀ (ys : Array Value) (u : World), (callFunc FC ys).run Tryz.prog u = .ok (.enter FC ys) u) (hp : ∀ a ∈ xs, ∀ w1 : World, Below w.heap.size w w1 → Calls Tryz.prog FC (rc.push (.agg #[.string a.t, .string a.s]) ++ cp) w1 fun e w' => e = .returned (.bool (p a)) ∧ Below w1.heap.size w1 w') :
  Calls Tryz.prog 64 #[.slice ad xs.length cap, .func (Fn.func FC) rc cp] w fun e w' => e = .returned (.bool (xs.any p)) ∧ Below w.heap.size w w' := by
 have HC := toHX (indexAF_any FC rc cp p ad cap xs w hlen hs hrun hp)
 clear hs hrun hp
 go_enter Tryz.func64, Tryz.ntmps64
 go_wp2_with fail
 refine HC.out.mono ?_
 rintro e w' ⟨⟨r, rfl, hr⟩, hbx⟩
 have HR := toHX hr
 clear hr
 go_wp2
 go_ret
 exact ⟨by rw [← HR.out]; rfl, hbx⟩
end Go.Proofs.YtmghabcaakgjiaaGreat
namespace Go.Proofs.YtmghabcaakgjiaaGreat
set_option maxRecDepth 100000
set_option linter.unusedVariables false
open Go.ChangeShapes Go.WideShapes Go.ChangeAt Go.RowKit Go.Maps
open Pl
theorem empty_list : (⟨#[]⟩ : ByteArray).toList = [] := by rw [Go.ByteArray.toList_eq]
theorem inPre_obj (xs : List Al) (typ : ByteArray) : inPre xs xs.length ⟨typ, ⟨#[]⟩⟩ = xs.any fun a => a.t.toList == typ.toList && a.s.toList.isEmpty := by
 unfold inPre
 rw [List.take_length]
 congr 1
 funext a
 unfold alEq
 rw [empty_list]
 cases h : a.s.toList <;> rfl
set_option maxHeartbeats 4000000 in
theorem mixesGoals_any (b n : Nat) (rs : List TR) (ad : Option Addr) (M : ByteArray × ByteArray → Option Value) (typ frm to tn rn : ByteArray) (x : ER) (w : World) (hV : MapV encK Tryz.prog 73 w b n M) (hT : Tab rs M) (hs : SlT w ad rs) (hl : ∀ r ∈ rs, r.light) (hf : ∀ r ∈ rs, r.fits)
  (htn : tn.size ≤ maxLen) (ho : x.e.over.size ≤ maxLen) (hfr : frm.size ≤ maxLen) (hto : to.size ≤ maxLen) (hdir : directP (relOr (tys rs) tn x.e.over) = true) :
  Calls Tryz.prog 30 #[.agg #[.map (some b), .string typ, .string frm, .string to], .agg #[.string tn, .string rn], x.val] w fun e w' => e = .returned (.bool (mixI (tys rs) typ frm to tn x.e)) ∧ Below w.heap.size w w' := by
 have HT := toHX hT
 obtain ⟨kl, hkl⟩ := relKeyOf (tn, x.e.over) htn ho
 have HKL : Hid (keyOf Tryz.prog 73 (encK (tn, x.e.over)) = some kl) := hkl
 obtain ⟨W1, hW1⟩ : ∃ W1, W1 = w.alloc (.cells #[.map (some b), .string typ, .string frm, .string to] 59) := ⟨_, rfl⟩
 obtain ⟨W2, hW2⟩ : ∃ W2, W2 = W1.alloc (.cells #[.string tn, .string rn] 73) := ⟨_, rfl⟩
 obtain ⟨W3, hW3⟩ : ∃ W3, W3 = W2.alloc (.cells #[.int .i64 x.e.kind, .slice x.adA x.e.allow.length x.capA, .string x.e.over, .string x.e.name, .slice x.adK x.e.kids.length x.capK] 50) := ⟨_, rfl⟩
 have z1 : W1.heap.size = w.heap.size + 1 := by rw [hW1]; simp
 have z2 : W2.heap.size = w.heap.size + 2 := by rw [hW2]; simp [z1]
 have z3 : W3.heap.size = w.heap.size + 3 := by rw [hW3]; simp [z2]
 have b1 : Below w.heap.size w W1 := by rw [hW1]; exact (Below.refl _ _).alloc (Nat.le_refl _) _
 have b2 : Below W1.heap.size W1 W2 := by rw [hW2]; exact (Below.refl _ _).alloc (Nat.le_refl _) _
 have b3 : Below W2.heap.size W2 W3 := by rw [hW3]; exact (Below.refl _ _).alloc (Nat.le_refl _) _
 have HB3 : Hid (Below w.heap.size w W3) := (b1.trans (b2.mono b1.size)).trans (b3.mono (Nat.le_trans b1.size b2.size))
 have r1 : RnC w.heap.size b typ frm to W1 := by rw [hW1]; exact ⟨by simp, by simp, by simp, by simp, by simp⟩
 have HRN : Hid (RnC w.heap.size b typ frm to W3) := (r1.below b2).below b3
 have k2 : W2.cell? ⟨w.heap.size + 1, 0, none⟩ = some (.string tn) := by
  have := World.cell?_alloc_mark W1 #[.string tn, .string rn] 73 (0, 0) 0
  rw [← hW2, z1] at this; rw [this]; rfl
 have k0 : W3.cell? ⟨w.heap.size + 1, 0, none⟩ = some (.string tn) := kept b3 (by omega) k2
 have hxc := fun j => World.cell?_alloc_mark W2 #[.int .i64 x.e.kind, .slice x.adA x.e.allow.length x.capA, .string x.e.over, .string x.e.name, .slice x.adK x.e.kids.length x.capK] 50 (0, 0) j
 rw [← hW3, z2] at hxc
 have d2 : W3.cell? ⟨w.heap.size + 2, 2, none⟩ = some (.string x.e.over) := by rw [hxc 2]; rfl
 have d3 : W3.cell? ⟨w.heap.size + 2, 3, none⟩ = some (.string x.e.name) := by rw [hxc 3]; rfl
 have hWW : ((w.alloc (.cells #[.map (some b), .string typ, .string frm, .string to] 59)).alloc (.cells #[.string tn, .string rn] 73)).alloc (.cells #[.int .i64 x.e.kind, .slice x.adA x.e.allow.length x.capA, .string x.e.over, .string x.e.name, .slice x.adK x.e.kids.length x.capK] 50) = W3 := by rw [hW3, hW2, hW1]
 have HWW := toHX hWW
 have HV3 : Hid (MapV encK Tryz.prog 73 W3 b n M) := hV.below HB3.out
 obtain ⟨r, bE, offE, capE, HM, HAL, HAT, HLA, HSA, HFA⟩ : ∃ (r : ER) (bE offE capE : Nat), Hid ((M (tn, x.e.over)).getD (.slice none 0 0) = .slice (some ⟨bE, offE, none⟩) 1 capE) ∧ Hid (allowP (relOr (tys rs) tn x.e.over) = r.e.allow) ∧ Hid (At5 W3 bE offE r ∧ bE < W3.heap.size) ∧ Hid (r.e.allow.length ≤ 1048576) ∧ Hid (SlA W3 r.adA r.e.allow) ∧ Hid (∀ a ∈ r.e.allow, a.fits) := by
  cases e : M (tn, x.e.over) with
  | none =>
   have e2 := hT.no _ e
   unfold relOr at hdir
   rw [e2] at hdir
   cases hdir
  | some v =>
   obtain ⟨t, htm, q, hq, -, rfl, e1, -⟩ := hT.yes _ v e
   have eo : relOr (tys rs) tn x.e.over = exs q.rows := by unfold relOr; rw [e1]; rfl
   rw [eo] at hdir
   obtain ⟨r, hr⟩ := direct_one hdir
   have hmem : r ∈ q.rows := by rw [hr]; exact List.mem_singleton.2 rfl
   have hse : SlE W3 q.ad q.rows := SlR.mem (SlT.mem (hs.below HB3.out) htm) hq
   have hrok : r.ok W3 := hse.mem hmem
   rcases hse with h | ⟨bE, offE, hadr, hb, hrow, -⟩
   ·rw [h] at hmem; cases hmem
   have h0 := hrow 0 (by rw [hr]; simp)
   have e5 : q.rows[0]'(by rw [hr]; simp) = r := by simp [hr]
   rw [e5, Nat.zero_mul, Nat.add_zero] at h0
   refine ⟨r, bE, offE, q.cap, ?_, ?_, ⟨h0, hb⟩, (((hl t htm).2 q hq).2 r hmem).1, hrok.1, (((hf t htm).2.2 q hq).2.2 r hmem).1⟩
   ·show q.sl = _
    unfold RR.sl
    rw [hadr, hr]; rfl
   ·show _ = _
    rw [eo]
    rw [hr] at hdir ⊢
    exact (allowP_one r hdir).1
 have HR0 : Hid (mixI (tys rs) typ frm to tn x.e = (inPre r.e.allow r.e.allow.length ⟨typ, ⟨#[]⟩⟩ && (x.e.name.toList == to.toList || (x.e.name.toList == frm.toList && r.e.allow.any (othB (tys rs) typ frm to))))) := by
  show _ = _
  unfold mixI
  rw [HAL.out, inPre_obj]; rfl
 obtain ⟨q0, c0, c1, c2, c3⟩ := HRN.out
 obtain ⟨⟨-, t1, -, -, -⟩, tb⟩ := HAT.out
 clear hT hkl hV hs hl hf hdir hWW hxc k2 r1 b1 b2 b3 hW1 hW2 hW3 z1 z2
 have HZ3 := toHX z3
 have y1 : w.heap.size + 1 < W3.heap.size := by omega
 have y2 : w.heap.size + 2 < W3.heap.size := by omega
 clear z3
 go_enter Tryz.func30, Tryz.ntmps30
 unfold ER.val
 go_wp2_with (at_lookup; rw [HWW.out]; refine wpList_lookV _ rfl _ _ 56 rfl 73 38 relLaw Tryz.underlying56 (zeroExprs _) b n M rfl HV3.out (tn, x.e.over) kl rfl HKL.out ?_; rw [HM.out])
 refine (contains_any r.adA r.e.allow.length r.capA r.e.allow ⟨typ, ⟨#[]⟩⟩ W3 (Nat.le_refl _) HLA.out HSA.out).mono ?_
 rintro e w4 ⟨rfl, hb4⟩
 have HB4 : Hid (Below w.heap.size w w4) := HB3.out.trans (hb4.mono HB3.out.size)
 have HRN4 := toHX (HRN.out.below hb4)
 have HV4 := toHX (HV3.out.below hb4)
 have HSA4 := toHX (HSA.out.below hb4)
 replace d3 := kept hb4 y2 d3
 replace y2 : w.heap.size + 2 < w4.heap.size := Nat.lt_of_lt_of_le y2 hb4.size
 clear hb4 c0 c1 c2 c3 t1 tb d2 k0 q0 y1
 obtain ⟨q0, c0, c1, c2, c3⟩ := HRN4.out
 cases h0 : inPre r.e.allow r.e.allow.length ⟨typ, ⟨#[]⟩⟩ with
 | false =>
  have HR : Hid (mixI (tys rs) typ frm to tn x.e = false) := by show _ = _; rw [HR0.out, h0]; rfl
  go_wp2
  go_ret
  exact ⟨by rw [HR.out]; rfl, HB4.out⟩
 | true =>
  cases h1 : (x.e.name.toList == to.toList) with
  | true =>
   have HR : Hid (mixI (tys rs) typ frm to tn x.e = true) := by show _ = _; rw [HR0.out, h0, h1]; rfl
   go_wp2
   go_ret
   exact ⟨by rw [HR.out]; rfl, HB4.out⟩
  | false =>
   cases h2 : (x.e.name.toList == frm.toList) with
   | false =>
    have HR : Hid (mixI (tys rs) typ frm to tn x.e = false) := by show _ = _; rw [HR0.out, h0, h1, h2]; rfl
    go_wp2
    go_ret
    exact ⟨by rw [HR.out]; rfl, HB4.out⟩
   | true =>
    have HR : Hid (mixI (tys rs) typ frm to tn x.e = r.e.allow.any (othB (tys rs) typ frm to)) := by show _ = _; rw [HR0.out, h0, h1, h2]; rfl
    go_wp2_with fail
    refine (containsAF_any 63 #[] #[.pointer (some ⟨w.heap.size, 0, none⟩)] (othB (tys rs) typ frm to) r.adA r.capA r.e.allow w4 HLA.out HSA4.out run_oth (fun a ha w1 hb1 => others_any w.heap.size b n rs M typ frm to a w1 (HV4.out.below hb1) HT.out (HRN4.out.below hb1) (HFA.out a ha).1 hfr hto)).mono ?_
    rintro e w5 ⟨rfl, hb5⟩
    have HB5 : Hid (Below w.heap.size w w5) := HB4.out.trans (hb5.mono HB4.out.size)
    clear hb5 h0 h1 h2
    go_wp2
    go_ret
    exact ⟨by rw [HR.out]; rfl, HB5.out⟩
end Go.Proofs.YtmghabcaakgjiaaGreat
namespace Go.Proofs.YtmghabcaakgjiaaGreat
set_option maxRecDepth 100000
set_option linter.unusedVariables false
open Go.ChangeShapes Go.WideShapes Go.ChangeAt Go.RowKit Go.Maps
open Pl
theorem renA_is (typ frm to : ByteArray) (a : Al) : renA typ frm to a = ⟨a.t, renN typ frm to a.t a.s⟩ := by
 unfold renA renN
 split <;> rfl
theorem ren_pairs (typ frm to : ByteArray) (xs : List Al) (k : Nat) (h : k < xs.length) : pairs ((xs.take (k + 1)).map (renA typ frm to)) = pairs ((xs.take k).map (renA typ frm to)) ++ [.string xs[k].t, .string (renN typ frm to xs[k].t xs[k].s)] := by
 rw [List.take_succ_eq_append_getElem h, List.map_append]
 simp [pairs, renA_is]
set_option maxHeartbeats 4000000 in
theorem renAllow_any (b : Nat) (typ frm to : ByteArray) (ad : Option Addr) (cap : Nat) (xs : List Al) (w : World) (hlen : xs.length ≤ 1048576) (hs : SlA w ad xs) (hf : frm.toList ≠ []) :
  Calls Tryz.prog 66 #[.agg #[.map (some b), .string typ, .string frm, .string to], .slice ad xs.length cap] w fun e w' => ∃ v : Value, e = .returned v ∧ w'.ownsRow w.heap.size 90 2 v xs.length (pairs (xs.map (renA typ frm to))) ∧ Below w.heap.size w w' := by
 obtain ⟨iA, hiA, zA0, zA1, zA2⟩ := info_parts (P := Tryz.prog) (e := 90) (z := .agg #[.string ⟨#[]⟩, .string ⟨#[]⟩]) (size := 2) (bytes := 32) (by kernel_rfl)
 have HIA : Hid (Tryz.prog.info? 90 = some iA ∧ iA.zero = some (.agg #[.string ⟨#[]⟩, .string ⟨#[]⟩]) ∧ iA.size = 2 ∧ iA.bytes = 32) := ⟨hiA, zA0, zA1, zA2⟩
 have HS := toHX hs
 have HF := toHX hf
 obtain ⟨W1, hW1⟩ : ∃ W1, W1 = w.alloc (.cells #[.map (some b), .string typ, .string frm, .string to] 59) := ⟨_, rfl⟩
 have HB1 : Hid (Below w.heap.size w W1) := by show Below _ _ _; rw [hW1]; exact (Below.refl _ _).alloc (Nat.le_refl _) _
 have HR1 : Hid (RnC w.heap.size b typ frm to W1) := by show RnC _ _ _ _ _ _; rw [hW1]; exact ⟨by simp, by simp, by simp, by simp, by simp⟩
 clear hs hf hiA zA0 zA1 zA2
 go_enter Tryz.func66, Tryz.ntmps66
 go_wp2_with fail
 rw [← hW1]
 clear hW1
 go_loopw [5, 10] (fun v i wr => ∃ k : Nat, k ≤ xs.length ∧ i = .int .i64 k ∧ Hid (wr.ownsRow W1.heap.size 90 2 v k (pairs ((xs.take k).map (renA typ frm to)))) ∧ Hid (Below W1.heap.size W1 wr)) (fun _ i _ => xs.length - (intOf i).toNat)
 case atStart => exact ⟨0, Nat.zero_le _, rfl, World.ownsRow_nil _ _ _ _, Below.refl _ _⟩
 case round =>
  obtain ⟨k, hk, rfl, HOW, HBK⟩ := hrel
  have HB : Hid (Below w.heap.size w wr) := HB1.out.trans (HBK.out.mono HB1.out.size)
  by_cases hlt : k < xs.length
  ·rcases HS.out.below HB.out with hnil | ⟨ba, offa, had, hba, hra⟩
   ·rw [hnil] at hlt; simp at hlt
   obtain ⟨t0, t1⟩ := hra k hlt
   obtain ⟨l0, c0, c1, c2, c3⟩ := HR1.out.below HBK.out
   have hk1 : (0 : Int) ≤ (k : Int) := by omega
   have hk2 : (k : Int) < (xs.length : Int) := by omega
   obtain ⟨W2, hW2⟩ : ∃ W2, W2 = wr.alloc (.cells #[.string xs[k].t, .string xs[k].s] 90) := ⟨_, rfl⟩
   have HB2 : Hid (Below wr.heap.size wr W2) := by show Below _ _ _; rw [hW2]; exact (Below.refl _ _).alloc (Nat.le_refl _) _
   have HP2 : Hid (W2.cell? ⟨wr.heap.size, 0, none⟩ = some (.string xs[k].t) ∧ W2.cell? ⟨wr.heap.size, 1, none⟩ = some (.string xs[k].s) ∧ (∀ y, W2.frozen? ⟨wr.heap.size, y, none⟩ = false) ∧ wr.heap.size < W2.heap.size) := by
    show _ ∧ _; rw [hW2]; exact ⟨by simp, by simp, fun y => by simp, by simp⟩
   have HPA := toHX (ren_pairs typ frm to xs k hlt)
   rw [had]
   clear hra had
   go_wp2_with fail
   rw [← hW2]
   clear hW2 t0 t1 c0 c1 c2 c3 l0
   refine (renName_any (some b) typ frm to xs[k].t xs[k].s W2 HF.out).mono ?_
   rintro e w3 ⟨rfl, hb3⟩
   have HB3 : Hid (Below wr.heap.size wr w3) := HB2.out.trans (hb3.mono HB2.out.size)
   have a0 := kept hb3 HP2.out.2.2.2 HP2.out.1
   have a1 := kept hb3 HP2.out.2.2.2 HP2.out.2.1
   have a2 : ∀ y, w3.frozen? ⟨wr.heap.size, y, none⟩ = false := fun y => keptF hb3 HP2.out.2.2.2 (HP2.out.2.2.1 y)
   have a3 : wr.heap.size < w3.heap.size := Nat.lt_of_lt_of_le HP2.out.2.2.2 hb3.size
   obtain ⟨nm, hnm⟩ : ∃ nm, nm = renN typ frm to xs[k].t xs[k].s := ⟨_, rfl⟩
   rw [← hnm] at HPA ⊢
   obtain ⟨W4, hW4⟩ : ∃ W4, W4 = w3.setCell ⟨wr.heap.size, 1, none⟩ (.string nm) := ⟨_, rfl⟩
   have d0 : W4.cell? ⟨wr.heap.size, 0, none⟩ = some (.string xs[k].t) := by rw [hW4, setO' (by omega)]; exact a0
   have d1 : W4.cell? ⟨wr.heap.size, 1, none⟩ = some (.string nm) := by rw [hW4]; exact setS' a1
   have z4 : W4.heap.size = w3.heap.size := by rw [hW4]; simp
   obtain ⟨W5, hW5⟩ : ∃ W5, W5 = W4.alloc (.cells #[.string xs[k].t, .string nm] 90) := ⟨_, rfl⟩
   have HB5 : Hid (Below wr.heap.size wr W5) := by
    show Below _ _ _
    rw [hW5, hW4]
    exact (HB3.out.setCell (Nat.le_refl _) _).alloc (by simp; omega) _
   have HOW5 : Hid (W5.ownsRow W1.heap.size 90 2 u5 k (pairs ((xs.take k).map (renA typ frm to)))) := own_heap HOW.out fun g hg => HB5.out.block g (HOW.out.lt g hg).2
   have HNEW : Hid (∀ j u, [Value.string xs[k].t, Value.string nm][j]? = some u → W5.cell? ((⟨w3.heap.size, 0, none⟩ : Addr).add j) = some u) := by
    show ∀ _, _
    rw [hW5, ← z4]; exact cells2_new W4 _ _ _
   have HWW : Hid ((w3.setCell ⟨wr.heap.size, 1, none⟩ (.string nm)).alloc (.cells #[.string xs[k].t, .string nm] 90) = W5) := by show _ = _; rw [hW5, hW4]
   have HLE : Hid (W1.heap.size ≤ W5.heap.size) := Nat.le_trans HBK.out.size HB5.out.size
   clear hnm hb3 hW4 hW5 z4 d0 d1 W4
   go_wp2_with (at_builtin; go_must (rw [HWW.out]; refine wpList_append_own_at _ rfl _ _ 47 rfl W1.heap.size 90 iA (.agg #[.string ⟨#[]⟩, .string ⟨#[]⟩]) 2 32 Tryz.underlying47 HIA.out.1 HIA.out.2.1 HIA.out.2.2.1 HIA.out.2.2.2 rfl (by decide) u5 k (pairs ((xs.take k).map (renA typ frm to))) rfl HOW5.out ⟨w3.heap.size, 0, none⟩ 1 1 [.string xs[k].t, .string nm] rfl rfl HNEW.out (by simp [Value.oneCell']) (by unfold maxLen; omega) (by omega) HLE.out ?_))
   intro v6 w6 hown6 hgr6 _ hv6
   have HB6 : Hid (Below W1.heap.size W1 w6) := (HBK.out.trans (HB5.out.mono HBK.out.size)).grown hgr6 HLE.out (fun g hg => (HOW.out.lt g hg).1)
   have HO6 : Hid (w6.ownsRow W1.heap.size 90 2 v6 (k + 1) (pairs ((xs.take (k + 1)).map (renA typ frm to)))) := by show World.ownsRow _ _ _ _ _ _ _; rw [HPA.out]; simpa only [List.map_take] using hown6
   clear hown6 hgr6 hv6 a0 a1 a2 a3
   go_wp2
   go_roundw
   case rel => exact ⟨k + 1, by omega, by go_num, HO6, HB6⟩
   case measure => first | (simp [intOf]; done) | (simp [intOf]; omega)
  ·obtain rfl : k = xs.length := by omega
   have hown := HOW.out
   rw [List.take_length] at hown
   have HO2 := toHX (own_mono hown HB1.out.size)
   clear hown HOW
   go_wp2
   go_ret
   exact ⟨_, rfl, HO2.out, HB.out⟩
end Go.Proofs.YtmghabcaakgjiaaGreat
