/- Contracts: lists of tuples looked at, whatever slice leads to them; two rows of the same tuples held against one another. -/
import Derived.Test.YtkpefjefodkddaaGreatTuplesOkI
import Derived.Test.YtkpefjefodkddaaGreatJ22
import Derived.Test.YtkpefjefodkddaaGreatJ19
import Derived.ChangeSlices
import Derived.Deep.Slices
import Derived.Test.YtkpefjefodkddaaGreatDrawSch
import Derived.Test.YtkpefjefodkddaaGreatJ14
namespace Go.Proofs.YtkpefjefodkddaaGreat
open Go.ChangeShapes Go.WideShapes Go.ChangeAt Go.RowKit
open Pl
attribute [local go_sem ↓] Go.wp_at_zero Go.wp_at_succ
theorem specTuplesOk_nil (ad : Option Addr) (cap : Nat) (w : World) :
  Calls Tryz.prog 11 #[.slice ad 0 cap] w fun e w' => e = .returned (.bool (tupsB [])) ∧ Below w.heap.size w w' := by
 go_enter Tryz.func11, Tryz.ntmps11
 go_wp2
 go_loopw [3] (fun i wr => ∃ k : Nat, k = 0 ∧ i = .int .i64 k ∧ Below w.heap.size w wr) (fun i _ => (intOf i).toNat)
 case atStart => exact ⟨0, rfl, rfl, Below.refl _ _⟩
 case round =>
  obtain ⟨k, rfl, rfl, hB⟩ := hrel
  go_wp2
  go_ret
  exact ⟨rfl, hB⟩
theorem implTuplesOk_nil (ad : Option Addr) (cap : Nat) (w : World) :
  Calls Tryz.prog 26 #[.slice ad 0 cap] w fun e w' => e = .returned (.bool (tupsB [])) ∧ Below w.heap.size w w' := by
 go_enter Tryz.func26, Tryz.ntmps26
 go_wp2
 go_loopw [10] (fun i wr => ∃ k : Nat, k = 0 ∧ i = .int .i64 k ∧ Below w.heap.size w wr) (fun i _ => (intOf i).toNat)
 case atStart => exact ⟨0, rfl, rfl, Below.refl _ _⟩
 case round =>
  obtain ⟨k, rfl, rfl, hB⟩ := hrel
  go_wp2
  go_ret
  exact ⟨rfl, hB⟩
theorem specTuplesOk_any (ad : Option Addr) (cap : Nat) (ts : List Tp) (w : World) (hlen : ts.length ≤ maxLen) (hs : Sl w ad ts) (hf : ∀ t ∈ ts, t.fits) :
  Calls Tryz.prog 11 #[.slice ad ts.length cap] w fun e w' => e = .returned (.bool (tupsB ts)) ∧ Below w.heap.size w w' := by
 rcases hs with rfl | ⟨b, off, rfl, hb, hr⟩
 ·exact specTuplesOk_nil ad cap w
 ·exact specTuplesOk_row b off cap ts w hlen hr hb hf
theorem implTuplesOk_any (ad : Option Addr) (cap : Nat) (ts : List Tp) (w : World) (hlen : ts.length ≤ maxLen) (hs : Sl w ad ts) (hf : ∀ t ∈ ts, t.fits) :
  Calls Tryz.prog 26 #[.slice ad ts.length cap] w fun e w' => e = .returned (.bool (tupsB ts)) ∧ Below w.heap.size w w' := by
 rcases hs with rfl | ⟨b, off, rfl, hb, hr⟩
 ·exact implTuplesOk_nil ad cap w
 ·exact implTuplesOk_row b off cap ts w hlen hr hb hf
end Go.Proofs.YtkpefjefodkddaaGreat
namespace Go.Proofs.YtkpefjefodkddaaGreat
open Go.ChangeShapes Go.WideShapes Go.ChangeAt Go.RowKit Go.Maps
open Pl
def addB (ts : List Tp) (t : Tp) : Bool := tupsB ts && t.ok && !hasT ts t && !(ts.length == 40)
def addL (ts : List Tp) (t : Tp) : List Tp := if addB ts t then putT ts t else []
theorem addL_yes {ts : List Tp} {t : Tp} (h : addB ts t = true) : addL ts t = putT ts t := by simp [addL, h]
theorem addL_no {ts : List Tp} {t : Tp} (h : addB ts t = false) : addL ts t = [] := by simp [addL, h]
def TellsS (w w' : World) (e : Ending) (L : List Tp) (f : Bool) : Prop := ∃ v : Value, e = .returned (.tuple #[v, .bool f]) ∧ w'.ownsRow w.heap.size 36 6 v L.length (rows6 L) ∧ Below w.heap.size w w'
set_option maxHeartbeats 2000000 in
theorem specAdded_own (b off cap : Nat) (ts : List Tp) (t : Tp) (w : World) (hlen : ts.length ≤ 1048576) (hcap : ts.length ≤ cap) (hs : Row6 w b off ts) (hb : b < w.heap.size) (hf : ∀ x ∈ ts, x.fits) (ht : t.fits) :
  Calls Tryz.prog 50 #[.slice (some ⟨b, off, none⟩) ts.length cap, .agg #[.string t.a, .string t.b, .string t.r, .string t.c, .string t.d, .string t.s]] w fun e w' => TellsS w w' e (addL ts t) (addB ts t) := by
 have HF := HID hf
 have HFT := HID ht
 obtain ⟨W0, hW0⟩ : ∃ W0, W0 = w.alloc (.cells #[.string t.a, .string t.b, .string t.r, .string t.c, .string t.d, .string t.s] 36) := ⟨_, rfl⟩
 have HB0 : Hid (Below w.heap.size w W0) := by show Below _ _ _; rw [hW0]; exact (Below.refl _ _).alloc (Nat.le_refl _) _
 have HX0 : Hid (Six W0 w.heap.size t) := by show Six _ _ _; rw [hW0]; exact six_new w t _
 have HS := HID hs
 have SL : Hid (∀ W : World, Below w.heap.size w W → Sl W (some ⟨b, off, none⟩) ts) := fun W hB => .inr ⟨b, off, rfl, Nat.lt_of_lt_of_le hb hB.size, HS.out.below hB hb⟩
 have hml : ts.length ≤ maxLen := by unfold maxLen; omega
 have HT := HID (specTuplesOk_any (some ⟨b, off, none⟩) cap ts W0 hml (SL.out _ HB0.out) hf)
 clear hs hf hml ht
 go_enter Tryz.func50, Tryz.ntmps50
 go_wp2_with fail
 rw [← hW0]; clear hW0
 refine HT.out.mono ?_
 rintro e w1 ⟨he, hb1⟩
 have HB1 : Hid (Below w.heap.size w w1) := HB0.out.trans (hb1.mono HB0.out.size)
 have HX1 : Hid (Six w1 w.heap.size t) := HX0.out.below hb1
 clear HT HX0 HB0 hb1
 cases h1 : tupsB ts with
 | false =>
  rw [h1] at he; subst he
  have HR : Hid (addB ts t = false) := by show _ = _; simp [addB, h1]
  have HL : Hid (addL ts t = []) := addL_no HR.out
  clear h1
  go_wp2
  go_ret2
  exact ⟨.slice none 0 0, by rw [HR.out]; rfl, by rw [HL.out]; exact World.ownsRow_nil _ _ _ _, HB1.out⟩
 | true =>
  rw [h1] at he; subst he
  obtain ⟨x0, x1, x2, x3, x4, x5, xl⟩ := HX1.out
  have H1 := HID h1
  obtain ⟨e0, e1, e2, e3, e4, e5⟩ := HFT.out
  have HH := HID (specTup_any t.a t.b t.r t.c t.d t.s w1 e0 e1 e2 e3 e4 e5)
  clear h1 e0 e1 e2 e3 e4 e5
  go_wp2_with fail
  refine HH.out.mono ?_
  rintro e w2 ⟨he, hb2⟩
  have HB2 : Hid (Below w.heap.size w w2) := HB1.out.trans (hb2.mono HB1.out.size)
  have HX2 : Hid (Six w2 w.heap.size t) := HX1.out.below hb2
  clear HH HX1 HB1 hb2 x0 x1 x2 x3 x4 x5 xl
  cases h2 : t.ok with
  | false =>
   have h2' : tupB t.a t.b t.r t.c t.d t.s = false := h2
   rw [h2'] at he; subst he
   have HR : Hid (addB ts t = false) := by show _ = _; simp [addB, H1.out, h2]
   have HL : Hid (addL ts t = []) := addL_no HR.out
   clear h2 h2'
   go_wp2
   go_ret2
   exact ⟨.slice none 0 0, by rw [HR.out]; rfl, by rw [HL.out]; exact World.ownsRow_nil _ _ _ _, HB2.out⟩
  | true =>
   have h2' : tupB t.a t.b t.r t.c t.d t.s = true := h2
   rw [h2'] at he; subst he
   have H2 := HID h2
   obtain ⟨x0, x1, x2, x3, x4, x5, xl⟩ := HX2.out
   have HH := HID (l1Has_any (some ⟨b, off, none⟩) cap ts t w2 hlen (SL.out _ HB2.out))
   clear h2 h2'
   go_wp2_with fail
   refine HH.out.mono ?_
   rintro e w3 ⟨he, hb3⟩
   have HB3 : Hid (Below w.heap.size w w3) := HB2.out.trans (hb3.mono HB2.out.size)
   have HX3 : Hid (Six w3 w.heap.size t) := HX2.out.below hb3
   clear HH HX2 HB2 hb3 x0 x1 x2 x3 x4 x5 xl
   cases h3 : hasT ts t with
   | true =>
    rw [h3] at he; subst he
    have HR : Hid (addB ts t = false) := by show _ = _; simp [addB, H1.out, H2.out, h3]
    have HL : Hid (addL ts t = []) := addL_no HR.out
    clear h3
    go_wp2
    go_ret2
    exact ⟨.slice none 0 0, by rw [HR.out]; rfl, by rw [HL.out]; exact World.ownsRow_nil _ _ _ _, HB3.out⟩
   | false =>
    rw [h3] at he; subst he
    have H3 := HID h3
    clear h3
    by_cases h4 : ts.length = 40
    ·have HR : Hid (addB ts t = false) := by show _ = _; simp [addB, H1.out, H2.out, H3.out, h4]
     have HL : Hid (addL ts t = []) := addL_no HR.out
     have h5 : ((ts.length : Int) == 40) = true := by simp; omega
     have H4 := HID h4
     clear h4
     go_wp2
     go_ret2
     exact ⟨.slice none 0 0, by rw [HR.out]; rfl, by rw [HL.out]; exact World.ownsRow_nil _ _ _ _, HB3.out⟩
    ·have HR : Hid (addB ts t = true) := by show _ = _; simp [addB, H1.out, H2.out, H3.out, h4]
     have HL : Hid (addL ts t = putT ts t) := addL_yes HR.out
     have h5 : ((ts.length : Int) == 40) = false := by simp; omega
     have h40 := tupsB_len H1.out
     obtain ⟨x0, x1, x2, x3, x4, x5, xl⟩ := HX3.out
     have HP := HID (l1Put_own b off cap ts t w3 (by omega) hcap (HS.out.below HB3.out hb) (Nat.lt_of_lt_of_le hb HB3.out.size) HF.out HFT.out)
     clear HX3
     go_wp2_with fail
     refine HP.out.mono ?_
     rintro e w4 ⟨v4, rfl, hs4, hb4⟩
     have HS4 := HID hs4
     clear hs4 HP x0 x1 x2 x3 x4 x5 xl
     go_wp2
     go_ret2
     exact ⟨v4, by rw [HR.out]; rfl, by rw [HL.out]; exact ownsRow_base HS4.out HB3.out.size, HB3.out.trans (hb4.mono HB3.out.size)⟩
end Go.Proofs.YtkpefjefodkddaaGreat
namespace Go.Proofs.YtkpefjefodkddaaGreat
open Go.ChangeShapes Go.WideShapes Go.ChangeAt Go.RowKit Go.Maps
open Pl
def Tp.short (t : Tp) : Prop := t.a.size ≤ 20 ∧ t.b.size ≤ 20 ∧ t.r.size ≤ 20 ∧ t.c.size ≤ 20 ∧ t.d.size ≤ 20 ∧ t.s.size ≤ 20
theorem Tp.short.fits {t : Tp} (h : t.short) : t.fits := by unfold Tp.short at h; unfold Tp.fits maxLen; omega
def Short (ts : List Tp) : Prop := ∀ t ∈ ts, t.short
theorem Short.fits {ts : List Tp} (h : Short ts) : ∀ t ∈ ts, t.fits := fun t ht => (h t ht).fits
theorem short_nil : Short [] := fun t ht => by cases ht
theorem putT_size (ts : List Tp) (t : Tp) : (putT ts t).length = ts.length + 1 := by
 induction ts with
 | nil => rfl
 | cons x xs ih =>
  unfold putT
  split
  ·simp [ih]
  ·simp
theorem Short.put {ts : List Tp} {t : Tp} (h : Short ts) (ht : t.short) : Short (putT ts t) := fun x hx => by
 rcases (putT_mem ts t x).1 hx with rfl | k
 ·exact ht
 ·exact h x k
theorem own_only {w w' : World} {R base n : Nat} {v : Value} {xs : List Value} (h : w.ownsRow base 36 6 v n xs) (hR : R < base) (hO : Only R w w') : w'.ownsRow base 36 6 v n xs :=
 h.kept hO (.inr fun e => by have := (h.lt R e).1; omega)
theorem own_row {w : World} {base g n c : Nat} {ts : List Tp} (h : w.ownsRow base 36 6 (.slice (some ⟨g, 0, none⟩) n c) n (rows6 ts)) (hn : n = ts.length) : Row6 w g 0 ts ∧ g < w.heap.size ∧ n ≤ c ∧ base ≤ g := by
 have hlt := h.lt g rfl
 refine ⟨?_, hlt.2, ?_, hlt.1⟩
 ·subst hn
  intro i hi
  have key : ∀ j, j < 6 → w.cell? ⟨g, 0 + i * 6 + j, none⟩ = (ts[i]).row[j]? := fun j hj => by
   rw [h.cellAt (0 + i * 6 + j) (by have := rows6_len ts; omega), ← rows6_at ts i hi j hj, Nat.zero_add]
  exact ⟨key 0 (by omega), key 1 (by omega), key 2 (by omega), key 3 (by omega), key 4 (by omega), key 5 (by omega)⟩
 ·rcases h.2 with ⟨e, -⟩ | ⟨g', cap', cur, e, -, -, hle, -⟩
  ·cases e
  ·injection e with e1 e2 e3; omega
theorem ownsRow_succ3 {W : World} {base : Nat} {e : TypeId} {size : Nat} {v : Value} {k : Nat} {xs : List Value} (h : W.ownsRow base e size v (k + 1) xs) : ∃ g cap, v = .slice (some ⟨g, 0, none⟩) (k + 1) cap := by
 rcases h.2 with ⟨_, h0⟩ | ⟨g, cap, _, rfl, _⟩
 ·omega
 ·exact ⟨g, cap, rfl⟩
theorem Rd.grown {w w' : World} {R : Nat} {ad : Option Addr} {len cap : Nat} {row : Option Nat} (h : Rd w R ad len cap) (hg : w.grownBy w' row) (hR : some R ≠ row) (hb : 0 < len → ∀ b off, ad = some ⟨b, off, none⟩ → some b ≠ row) : Rd w' R ad len cap where
 lt := Nat.lt_of_lt_of_le h.lt hg.size
 code := hg.cell h.code hR
 place := by obtain ⟨p, hp, hl⟩ := h.place; exact ⟨p, hg.cell hp hR, hl⟩
 free := (World.frozen?_of_block (w := w) (a := ⟨R, 1, none⟩) (hg.block R h.lt hR)).trans h.free
 bytes h0 := by
  obtain ⟨b, off, e, hne, hbl, hc⟩ := h.bytes h0
  refine ⟨b, off, e, hne, Nat.lt_of_lt_of_le hbl hg.size, fun i hi => ?_⟩
  obtain ⟨c, c0, c1, hcc⟩ := hc i hi
  exact ⟨c, c0, c1, hg.cell hcc (hb h0 b off e)⟩
 small := h.small
theorem Only.grownNew {R : Nat} {w a b : World} {row : Option Nat} (h : Only R w a) (hg : a.grownBy b row) (hr : ∀ g, row = some g → w.heap.size ≤ g) : Only R w b :=
 ⟨hg.os.trans h.os, hg.tape.trans h.tape, hg.output.trans h.output, Nat.le_trans h.size hg.size, fun i hi hne => (hg.block i (Nat.lt_of_lt_of_le hi h.size) (fun e => by have := hr i e.symm; omega)).trans (h.block i hi hne)⟩
set_option maxRecDepth 8000 in
set_option maxHeartbeats 4000000 in
theorem tuples_any (R : Nat) (ad : Option Addr) (len cap : Nat) (w : World) (h : Rd w R ad len cap) :
  Calls Tryz.prog 24 #[.pointer (some ⟨R, 0, none⟩), .int .i64 8] w fun e w' => (∃ (g c : Nat) (ts : List Tp), e = .returned (.slice (some ⟨g, 0, none⟩) ts.length c) ∧ ts.length ≤ 9 ∧ Short ts ∧ w'.ownsRow w.heap.size 36 6 (.slice (some ⟨g, 0, none⟩) ts.length c) ts.length (rows6 ts)) ∧ Rd w' R ad len cap ∧ Only R w w' := by
 obtain ⟨iT, hiT, zT0, zT1, zT2⟩ := info_parts (P := Tryz.prog) (e := 36) (z := .agg #[.string ⟨#[]⟩, .string ⟨#[]⟩, .string ⟨#[]⟩, .string ⟨#[]⟩, .string ⟨#[]⟩, .string ⟨#[]⟩]) (size := 6) (bytes := 96) (by kernel_rfl)
 have HIT : Hid (Tryz.prog.info? 36 = some iT ∧ iT.zero = some (.agg #[.string ⟨#[]⟩, .string ⟨#[]⟩, .string ⟨#[]⟩, .string ⟨#[]⟩, .string ⟨#[]⟩, .string ⟨#[]⟩]) ∧ iT.size = 6 ∧ iT.bytes = 96) := ⟨hiT, zT0, zT1, zT2⟩
 have hRw := h.lt
 have HFAR : Hid (0 < len → ∀ b off, ad = some ⟨b, off, none⟩ → b < w.heap.size) := fun h0 b off e => by
  obtain ⟨b', off', e', -, hbl, -⟩ := h.bytes h0
  rw [e] at e'; injection e' with e'; injection e' with e1 e2; omega
 clear hiT zT0 zT1 zT2
 obtain ⟨W0, hW0⟩ : ∃ W0, W0 = w.alloc (.cells #[] 36) := ⟨_, rfl⟩
 have HLIT : Hid (W0.ownsRow w.heap.size 36 6 (.slice (some ⟨w.heap.size, 0, none⟩) 0 0) 0 (rows6 [])) := by
  show World.ownsRow _ _ _ _ _ _ _
  rw [hW0]; exact World.ownsRow_lit w #[] 0 (Nat.le_refl _) (by unfold maxLen; omega) (by simp)
 have HR0 : Hid (Rd W0 R ad len cap) := by show Rd _ _ _ _ _; rw [hW0]; exact h.alloc _
 have HO0 : Hid (Only R w W0) := by show Only _ _ _; rw [hW0]; exact (Only.refl _ _).alloc _
 clear h
 go_enter Tryz.func24, Tryz.ntmps24
 go_wp2_with fail
 rw [← hW0]
 clear hW0
 refine (below_any R ad len cap 9 _ HR0.out (by omega) (by omega)).mono ?_
 rintro e w1 ⟨⟨x, rfl, hx0, hx1⟩, hR1, hO1⟩
 have HR1 := HID hR1
 have HO1 : Hid (Only R w w1) := HO0.out.trans hO1
 have HL1 : Hid (w1.ownsRow w.heap.size 36 6 (.slice (some ⟨w.heap.size, 0, none⟩) 0 0) 0 (rows6 [])) := own_only HLIT.out hRw hO1
 clear hR1 hO1 HLIT HR0 HO0
 go_wp2_with fail
 go_loopw [5, 6] (fun v i wr => ∃ (k : Nat) (ts : List Tp) (g c : Nat), i = .int .i64 k ∧ ts.length + k ≤ 8 ∧ v = .slice (some ⟨g, 0, none⟩) ts.length c ∧ Hid (Short ts) ∧ Hid (wr.ownsRow w.heap.size 36 6 v ts.length (rows6 ts)) ∧ Hid (Rd wr R ad len cap) ∧ Hid (Only R w wr)) (fun _ i _ => (intOf i).toNat)
 case atStart => exact ⟨x.toNat, [], w.heap.size, 0, by rw [Int.toNat_of_nonneg hx0], by simp; omega, rfl, short_nil, HL1, HR1, HO1⟩
 case round =>
  clear HL1 HR1 HO1 hx0 hx1
  obtain ⟨k, ts, g, c, rfl, hk, rfl, HSh, HOw, HR, HO⟩ := hrel
  by_cases hk0 : 0 < k
  ·have hk1 : (0 : Int) < (k : Int) := by omega
   go_wp2_with fail
   refine (tuple_any R ad len cap _ HR.out).mono ?_
   rintro e w2 ⟨⟨a, b, r, c2, d, s, rfl, ha, hb, hr, hc, hd, hs⟩, hR2, hO2⟩
   have HR2 := HID hR2
   have HO2 : Hid (Only R w w2) := HO.out.trans hO2
   have hown2 := own_only HOw.out hRw hO2
   obtain ⟨hrow2, hg2, hc2, -⟩ := own_row hown2 rfl
   have HOw2 := HID hown2
   have HT : Hid (Tp.short ⟨a, b, r, c2, d, s⟩) := ⟨ha, hb, hr, hc, hd, hs⟩
   have HA := HID (specAdded_own g 0 c ts ⟨a, b, r, c2, d, s⟩ w2 (by omega) hc2 hrow2 hg2 HSh.out.fits HT.out.fits)
   clear ha hb hr hc hd hs hR2 hO2 hown2 hrow2 hg2 hc2 HR HO HOw
   go_wp2_with fail
   refine HA.out.mono ?_
   rintro e w3 ⟨v3, rfl, hown3, hb3⟩
   have HR3 : Hid (Rd w3 R ad len cap) := HR2.out.below hb3
   have HO3 : Hid (Only R w w3) := HO2.out.below hb3
   cases hq : addB ts ⟨a, b, r, c2, d, s⟩ with
   | true =>
    rw [addL_yes hq, putT_size] at hown3
    obtain ⟨g3, c3, rfl⟩ := ownsRow_succ3 hown3
    have HOw3 : Hid (w3.ownsRow w.heap.size 36 6 (.slice (some ⟨g3, 0, none⟩) (ts.length + 1) c3) (ts.length + 1) (rows6 (putT ts ⟨a, b, r, c2, d, s⟩))) := ownsRow_base hown3 HO2.out.size
    have HSh3 : Hid (Short (putT ts ⟨a, b, r, c2, d, s⟩)) := HSh.out.put HT.out
    have hlp := putT_size ts ⟨a, b, r, c2, d, s⟩
    have HLP := HID hlp
    have HQ := HID hq
    clear hown3 hb3 hq hlp HA HOw2 HR2 HO2
    go_wp2
    go_roundw
    case rel => exact ⟨k - 1, putT ts ⟨a, b, r, c2, d, s⟩, g3, c3, by rw [show ((k - 1 : Nat) : Int) = (k : Int) - 1 by omega], by rw [HLP.out]; omega, by rw [HLP.out], HSh3, by rw [HLP.out]; exact HOw3, HR3, HO3⟩
    case measure => simp [intOf]; omega
   | false =>
    have HOw3 : Hid (w3.ownsRow w.heap.size 36 6 (.slice (some ⟨g, 0, none⟩) ts.length c) ts.length (rows6 ts)) := HOw2.out.kept (row := none) ⟨hb3.os, hb3.tape, hb3.output, hb3.size, fun i hi _ => hb3.block i hi⟩ (.inr (by simp [Value.ownBlock]))
    rw [addL_no hq] at hown3
    obtain ⟨ad3, cap3, hv3, -, -⟩ := ownsT (ts := []) hown3 rfl
    subst hv3
    have HQ := HID hq
    clear hown3 hb3 hq HA HOw2 HR2 HO2
    go_wp2
    go_roundw
    case rel => exact ⟨k - 1, ts, g, c, by rw [show ((k - 1 : Nat) : Int) = (k : Int) - 1 by omega], by omega, rfl, HSh, HOw3, HR3, HO3⟩
    case measure => simp [intOf]; omega
  ·obtain rfl : k = 0 := by omega
   go_wp2_with fail
   refine (once_any R ad len cap 40 _ HR.out (by omega) (by omega)).mono ?_
   rintro e w2 ⟨⟨q, rfl⟩, hR2, hO2⟩
   have HR2 := HID hR2
   have HO2 : Hid (Only R w w2) := HO.out.trans hO2
   have HOw2 := HID (own_only HOw.out hRw hO2)
   clear hR2 hO2 HR HO HOw
   cases q with
   | false =>
    go_wp2
    go_ret
    exact ⟨⟨g, c, ts, rfl, by omega, HSh.out, HOw2.out⟩, HR2.out, HO2.out⟩
   | true =>
    go_wp2_with fail
    refine (tuple_any R ad len cap _ HR2.out).mono ?_
    rintro e w3 ⟨⟨a, b, r, c2, d, s, rfl, ha, hb, hr, hc, hd, hs⟩, hR3, hO3⟩
    have HT : Hid (Tp.short ⟨a, b, r, c2, d, s⟩) := ⟨ha, hb, hr, hc, hd, hs⟩
    have HOw3 := HID (own_only HOw2.out hRw hO3)
    have HR3 := HID hR3
    have HO3 : Hid (Only R w w3) := HO2.out.trans hO3
    clear ha hb hr hc hd hs hR3 hO3 HR2 HO2 HOw2
    obtain ⟨W4, hW4⟩ : ∃ W4, W4 = w3.alloc (.cells #[.string a, .string b, .string r, .string c2, .string d, .string s] 36) := ⟨_, rfl⟩
    have HOw4 : Hid (W4.ownsRow w.heap.size 36 6 (.slice (some ⟨g, 0, none⟩) ts.length c) ts.length (rows6 ts)) := by show World.ownsRow _ _ _ _ _ _ _; rw [hW4]; exact HOw3.out.alloc _
    have HNW : Hid (∀ j u, (Tp.row ⟨a, b, r, c2, d, s⟩)[j]? = some u → W4.cell? ((⟨w3.heap.size, 0, none⟩ : Addr).add j) = some u) := by show ∀ j u, _; rw [hW4]; exact row6_news w3 ⟨a, b, r, c2, d, s⟩
    have HR4 : Hid (Rd W4 R ad len cap) := by show Rd _ _ _ _ _; rw [hW4]; exact HR3.out.alloc _
    have HO4 : Hid (Only R w W4) := by show Only _ _ _; rw [hW4]; exact HO3.out.alloc _
    clear HR3 HO3
    go_wp2_with (at_builtin; rw [← hW4]; clear hW4; refine wpList_append_own_at _ rfl _ _ 25 rfl w.heap.size 36 iT (.agg #[.string ⟨#[]⟩, .string ⟨#[]⟩, .string ⟨#[]⟩, .string ⟨#[]⟩, .string ⟨#[]⟩, .string ⟨#[]⟩]) 6 96 Tryz.underlying25 HIT.out.1 HIT.out.2.1 HIT.out.2.2.1 HIT.out.2.2.2 rfl (by decide) _ _ (rows6 ts) rfl HOw4.out ⟨w3.heap.size, 0, none⟩ 1 1 (Tp.row ⟨a, b, r, c2, d, s⟩) rfl rfl HNW.out (row6_one _) (by unfold maxLen; omega) (by omega) (by have := HO4.out.size; omega) ?_)
    intro v5 w5 hown5 hgr5 _ _
    obtain ⟨g5, c5, rfl⟩ := ownsRow_succ3 hown5
    have hne : Value.ownBlock (.slice (some ⟨g, 0, none⟩) ts.length c) ≠ some R := fun e => by have := (HOw4.out.lt R e).1; omega
    have HR5 : Hid (Rd w5 R ad len cap) := HR4.out.grown hgr5 (fun e => hne e.symm) (fun h0 b off e eb => by
     have := (HOw4.out.lt b eb.symm).1
     have := HFAR.out h0 b off e
     omega)
    have HO5 : Hid (Only R w w5) := HO4.out.grownNew hgr5 (fun g' e => (HOw4.out.lt g' e).1)
    have HOw5 : Hid (w5.ownsRow w.heap.size 36 6 (.slice (some ⟨g5, 0, none⟩) (ts.length + 1) c5) (ts.length + 1) (rows6 (ts ++ [⟨a, b, r, c2, d, s⟩]))) := by
     show World.ownsRow _ _ _ _ _ _ _; rw [rows6_snoc]; exact hown5
    clear hown5 hgr5 hne
    go_wp2
    go_ret
    exact ⟨⟨g5, c5, ts ++ [⟨a, b, r, c2, d, s⟩], by rw [List.length_append]; rfl, by simp; omega, fun t ht => by
     rcases List.mem_append.1 ht with h | h
     ·exact HSh.out t h
     ·rw [List.mem_singleton.1 h]; exact HT.out, by rw [List.length_append]; exact HOw5.out⟩, HR5.out, HO5.out⟩
end Go.Proofs.YtkpefjefodkddaaGreat
namespace Go.Proofs.YtkpefjefodkddaaGreat
set_option maxRecDepth 100000
set_option linter.unusedVariables false
open Go.ChangeShapes Go.WideShapes Go.ChangeAt Go.RowKit
open Pl
theorem TypM.only {wc wd : World} {R base : Nat} {v : Value} {rs : List TR} (h : TypM wc base v rs) (hR : R < base) (ho : Only R wc wd) : TypM wd base v rs :=
 h.heap kidT ho.size fun g hg => ho.block g (h.lt kidT hg).2 (fun e => by injection e with e; have := (h.lt kidT hg).1; omega)
set_option maxHeartbeats 2000000 in
theorem drawUnfit_any (ad : Option Addr) (len cap : Nat) (w : World) (h : Bytes w ad len) :
  Calls Tryz.prog 6 #[.slice ad len cap] w fun e w' => ∃ (v : Value) (rs : List TR) (g c : Nat) (ts : List Tp), e = .returned (.tuple #[v, .slice (some ⟨g, 0, none⟩) ts.length c]) ∧ TypM w' w.heap.size v rs ∧ GoodS rs ∧ ts.length ≤ 9 ∧ Short ts ∧ w'.ownsRow w.heap.size 36 6 (.slice (some ⟨g, 0, none⟩) ts.length c) ts.length (rows6 ts) ∧ Below w.heap.size w w' := by
 have H : Hid (Bytes w ad len) := h
 clear h
 go_enter Tryz.func6, Tryz.ntmps6
 go_wp2_with fail
 refine (open_any ad len cap _ H.out).mono ?_
 rintro e w1 ⟨rfl, hR1, hb1⟩
 have HB1 : Hid (Below w.heap.size w w1) := hb1
 have HR1 : Hid (Rd w1 w.heap.size ad len cap) := hR1
 clear hR1 hb1
 go_wp2_with fail
 refine (schema_any w.heap.size ad len cap _ HR1.out).mono ?_
 rintro e w2 ⟨v, rs, rfl, hT2, hG, hR2, hO2⟩
 have hb := HR1.out.lt
 have HR2 : Hid (Rd w2 w.heap.size ad len cap) := hR2
 have HB2 : Hid (Below w.heap.size w w2) := Only.toBelow HB1.out hO2 HB1.out.size (by omega)
 have HT2 : Hid (TypM w2 w1.heap.size v rs) := hT2
 have HG : Hid (GoodS rs) := hG
 clear hT2 hG hR2 hO2 HB1 HR1
 go_wp2_with fail
 refine (tuples_any w.heap.size ad len cap _ HR2.out).mono ?_
 rintro e w3 ⟨⟨g, c, ts, rfl, hl9, hsh, hown⟩, hR3, hO3⟩
 have HB3 : Hid (Below w.heap.size w w3) := Only.toBelow HB2.out hO3 HB2.out.size (by omega)
 have HT3 : Hid (TypM w3 w1.heap.size v rs) := HT2.out.only hb hO3
 have hw : w.heap.size ≤ w1.heap.size := by omega
 have hs2 : w.heap.size ≤ w2.heap.size := HB2.out.size
 have HO : Hid (w3.ownsRow w.heap.size 36 6 (.slice (some ⟨g, 0, none⟩) ts.length c) ts.length (rows6 ts)) := ownsRow_base hown hs2
 clear hR3 hO3 HR2 HB2 HT2 hown
 go_wp2
 exact bodyPost_ret (v := .tuple #[v, .slice (some ⟨g, 0, none⟩) ts.length c]) (by simp [results, Tryz.results6, go_sem, *]) rfl ⟨v, rs, g, c, ts, rfl, LotM.lower HT3.out hw, HG.out, hl9, hsh, HO.out, HB3.out⟩
end Go.Proofs.YtkpefjefodkddaaGreat
namespace Go.Proofs.YtkpefjefodkddaaGreat
open Go.ChangeShapes Go.WideShapes Go.ChangeAt Go.RowKit Go.Maps
open Pl
theorem zeroExprs (w : World) : (zeroValue 59).run Tryz.prog w = .ok (.slice none 0 0) w := by kernel_rfl
theorem has_any (b n : Nat) (M : ByteArray × ByteArray → Option Value) (t r : ByteArray) (w : World) (ht : t.size ≤ maxLen) (hr : r.size ≤ maxLen) (hV : MapV encK Tryz.prog 100 w b n M) :
  Calls Tryz.prog 107 #[.map (some b), .string t, .string r] w fun e w' => e = .returned (.bool (M (t, r)).isSome) ∧ w' = w := by
 obtain ⟨kl, hkl⟩ := relKeyOf (t, r) ht hr
 have HV : Hid (MapV encK Tryz.prog 100 w b n M) := hV
 have HKL : Hid (keyOf Tryz.prog 100 (encK (t, r)) = some kl) := hkl
 clear hkl hV
 go_enter Tryz.func107, Tryz.ntmps107
 go_wp2_with (first | (at_lookup; refine wpList_lookV_ok _ rfl _ _ 52 rfl 100 59 relLaw Tryz.underlying52 (zeroExprs _) b n M rfl HV.out (t, r) kl rfl HKL.out ?_) | go_in)
 go_ret
 exact ⟨rfl, rfl⟩
theorem told1_any (a : Al) (w : World) :
  Calls Tryz.prog 138 #[.agg #[.string a.t, .string a.s]] w fun e w' => e = .returned (.bool (!a.s.toList.isEmpty)) ∧ Below w.heap.size w w' := by
 cases h : a.s.toList.isEmpty with
 | true =>
  go_enter Tryz.func138, Tryz.ntmps138
  go_wp2
  go_ret
  exact ⟨rfl, (Below.refl _ _).alloc (Nat.le_refl _) _⟩
 | false =>
  go_enter Tryz.func138, Tryz.ntmps138
  go_wp2
  go_ret
  exact ⟨rfl, (Below.refl _ _).alloc (Nat.le_refl _) _⟩
theorem anySet_drop (xs : List Al) (k : Nat) (h : k < xs.length) : (xs.drop k).any (fun a => !a.s.toList.isEmpty) = ((!xs[k].s.toList.isEmpty) || (xs.drop (k + 1)).any (fun a => !a.s.toList.isEmpty)) := by
 rw [List.drop_eq_getElem_cons h]; rfl
set_option maxHeartbeats 1000000 in
theorem indexTold_any (ad : Option Addr) (cap : Nat) (xs : List Al) (w : World) (hlen : xs.length ≤ 1048576) (hs : SlA w ad xs) :
  Calls Tryz.prog 149 #[.slice ad xs.length cap, .func (Fn.func 138) #[] #[]] w fun e w' => (∃ r : Int, e = .returned (.int .i64 r) ∧ decide (0 ≤ r) = xs.any (fun a => !a.s.toList.isEmpty)) ∧ Below w.heap.size w w' := by
 have HS : Hid (SlA w ad xs) := hs
 clear hs
 go_enter Tryz.func149, Tryz.ntmps149
 go_wp2_with fail
 go_loopw [8] (fun i wr => ∃ k : Nat, k ≤ xs.length ∧ i = .int .i64 k ∧ Hid ((xs.drop k).any (fun a => !a.s.toList.isEmpty) = xs.any (fun a => !a.s.toList.isEmpty)) ∧ Hid (Below w.heap.size w wr)) (fun i _ => xs.length - (intOf i).toNat)
 case atStart => exact ⟨0, Nat.zero_le _, rfl, rfl, Below.refl _ _⟩
 case round =>
  obtain ⟨k, hk, rfl, HP, HB⟩ := hrel
  by_cases hlt : k < xs.length
  ·rcases HS.out.below HB.out with rfl | ⟨b, off, rfl, hb, hr⟩
   ·simp at hlt
   obtain ⟨t0, t1⟩ := hr k hlt
   have hk1 : (0 : Int) ≤ (k : Int) := by omega
   have hk2 : (k : Int) < (xs.length : Int) := by omega
   clear hr
   cases he : xs[k].s.toList.isEmpty with
   | false =>
    have HN : Hid (xs.any (fun a => !a.s.toList.isEmpty) = true) := by show _ = _; rw [← HP.out, anySet_drop _ _ hlt, he]; rfl
    go_wp2_with (go_at_call 138; refine (told1_any xs[k] _).mono ?_; rintro e w' ⟨he2, hbx⟩; rw [he] at he2; subst he2)
    go_ret
    exact ⟨⟨k, rfl, by rw [HN.out]; simp⟩, HB.out.trans (hbx.mono HB.out.size)⟩
   | true =>
    have HP2 : Hid ((xs.drop (k + 1)).any (fun a => !a.s.toList.isEmpty) = xs.any (fun a => !a.s.toList.isEmpty)) := by show _ = _; rw [← HP.out, anySet_drop _ _ hlt, he]; rfl
    go_wp2_with (go_at_call 138; refine (told1_any xs[k] _).mono ?_; rintro e w' ⟨he2, hbx⟩; rw [he] at he2; subst he2)
    go_roundw
    case rel => exact ⟨k + 1, by omega, by go_num, HP2, HB.out.trans (hbx.mono HB.out.size)⟩
    case measure => first | (simp [intOf]; done) | (simp [intOf]; omega)
  ·have HN : Hid (xs.any (fun a => !a.s.toList.isEmpty) = false) := by show _ = _; rw [← HP.out, List.drop_of_length_le (by omega)]; rfl
   go_wp2
   go_ret
   exact ⟨⟨-1, rfl, by rw [HN.out]; simp⟩, HB.out⟩
theorem containsTold_any (ad : Option Addr) (cap : Nat) (xs : List Al) (w : World) (hlen : xs.length ≤ 1048576) (hs : SlA w ad xs) :
  Calls Tryz.prog 137 #[.slice ad xs.length cap, .func (Fn.func 138) #[] #[]] w fun e w' => e = .returned (.bool (xs.any (fun a => !a.s.toList.isEmpty))) ∧ Below w.heap.size w w' := by
 go_enter Tryz.func137, Tryz.ntmps137
 go_wp2_with fail
 refine (indexTold_any ad cap xs _ hlen hs).mono ?_
 rintro e w' ⟨⟨r, rfl, hr⟩, hbx⟩
 have HR : Hid (decide (0 ≤ r) = xs.any (fun a => !a.s.toList.isEmpty)) := hr
 clear hr hs
 go_wp2
 go_ret
 exact ⟨by rw [← HR.out]; rfl, hbx⟩
theorem told_all (xs : List Al) : (!xs.any fun a => !a.s.toList.isEmpty) = xs.all fun a => a.s.toList.isEmpty := by
 induction xs with
 | nil => rfl
 | cons a xs ih => simp only [List.any_cons, List.all_cons, Bool.not_or, Bool.not_not, ih]
set_option maxRecDepth 100000 in
set_option maxHeartbeats 1000000 in
theorem toldByObjects_any (ad : Option Addr) (cap : Nat) (rs : List ER) (w : World) (hlen : rs.length ≤ 1048576) (hs : SlE w ad rs) (hl : ∀ r ∈ rs, r.e.light) :
  Calls Tryz.prog 123 #[.slice ad rs.length cap] w fun e w' => e = .returned (.bool (directP (exs rs))) ∧ Below w.heap.size w w' := by
 by_cases h1 : rs.length = 1
 ·obtain ⟨r, rfl⟩ : ∃ r, rs = [r] := List.length_eq_one_iff.1 h1
  rcases hs with h | ⟨b, off, rfl, hb, hr, hok⟩
  ·cases h
  obtain ⟨t0, t1, t2, t3, t4⟩ := hr 0 (by simp)
  simp only [Nat.zero_mul, Nat.add_zero, List.getElem_cons_zero] at t0 t1 t2 t3 t4
  have HOK : Hid (r.ok w) := hok r (by simp)
  obtain ⟨lg, -⟩ := hl r (by simp)
  clear hr hok h1
  simp only [List.length_cons, List.length_nil, Nat.zero_add]
  by_cases hq : r.e.kind = 1
  ·have HD : Hid (directP (exs [r]) = !r.e.allow.any fun a => !a.s.toList.isEmpty) := by show _ = _; rw [told_all]; simp [directP, exs, hq]
   have hqb : (r.e.kind == 1) = true := by simpa using hq
   go_enter Tryz.func123, Tryz.ntmps123
   go_wp2_with (go_at_call 137; refine (containsTold_any _ _ r.e.allow _ lg (HOK.out.1.below ((Below.refl _ _)))).mono ?_; rintro e w' ⟨rfl, hbx⟩)
   go_ret
   exact ⟨by rw [HD.out]; rfl, hbx⟩
  ·have HD : Hid (directP (exs [r]) = false) := by show _ = _; simp [directP, exs, hq]
   have hqb : (r.e.kind == 1) = false := by simpa using hq
   go_enter Tryz.func123, Tryz.ntmps123
   go_wp2
   go_ret
   exact ⟨by rw [HD.out]; rfl, Below.refl _ _⟩
 ·have HD : Hid (directP (exs rs) = false) := by
   show _ = _
   rcases rs with _ | ⟨r, _ | ⟨r2, rs⟩⟩
   ·rfl
   ·simp at h1
   ·rfl
  have h2 : ((rs.length : Int) == 1) = false := by
   have : ¬ ((rs.length : Int) = 1) := by omega
   simpa using this
  clear hs
  go_enter Tryz.func123, Tryz.ntmps123
  go_wp2
  go_ret
  exact ⟨by rw [HD.out]; rfl, Below.refl _ _⟩
end Go.Proofs.YtkpefjefodkddaaGreat
