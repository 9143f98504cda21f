/- The contract of the drawing of a tuple: six short strings; nothing but the reader's place has changed. -/
import Derived.Test.YtkpefjefodkddaaGreatDrawObj
import Derived.Test.YtkpefjefodkddaaGreatRegionGen
namespace Go.Proofs.YtkpefjefodkddaaGreat
open Go.ChangeShapes Go.WideShapes Go.ChangeAt Go.RowKit
open Pl
theorem Only.alloc {R : Nat} {a b : World} (h : Only R a b) (o : Obj) : Only R a (b.alloc o) := h.below ((Below.refl _ _).alloc (Nat.le_refl _) _)
theorem Rd.alloc {w : World} {R : Nat} {ad : Option Addr} {len cap : Nat} (h : Rd w R ad len cap) (o : Obj) : Rd (w.alloc o) R ad len cap := h.below ((Below.refl _ _).alloc (Nat.le_refl _) _)
theorem cell_al {w : World} {a : Addr} {v : Value} (h : w.cell? a = some v) (o : Obj) : (w.alloc o).cell? a = some v := cell_later ((Below.refl _ _).alloc (Nat.le_refl _) _) h
def Ob (w : World) (R g : Nat) (a b : ByteArray) : Prop := g ≠ R ∧ g < w.heap.size ∧ w.cell? ⟨g, 0, none⟩ = some (.string a) ∧ w.cell? ⟨g, 1, none⟩ = some (.string b)
theorem Ob.only {w w' : World} {R g : Nat} {a b : ByteArray} (h : Ob w R g a b) (k : Only R w w') : Ob w' R g a b :=
 ⟨h.1, Nat.lt_of_lt_of_le h.2.1 k.size, by rw [k.cell h.2.1 h.1]; exact h.2.2.1, by rw [k.cell h.2.1 h.1]; exact h.2.2.2⟩
theorem Ob.alloc {w : World} {R g : Nat} {a b : ByteArray} (h : Ob w R g a b) (o : Obj) : Ob (w.alloc o) R g a b := h.only ((Only.refl R w).alloc o)
theorem ob_new {w : World} {R : Nat} (hR : R < w.heap.size) (t : TypeId) (a b : ByteArray) : Ob (w.alloc (.cells #[.string a, .string b] t)) R w.heap.size a b :=
 ⟨by omega, by simp, by simp, by simp⟩
def Res (w : World) (R n : Nat) : Prop := n ≠ R ∧ n < w.heap.size ∧ (∀ o, w.frozen? ⟨n, o, none⟩ = false) ∧ ∀ o, o < 6 → w.cell? ⟨n, o, none⟩ = some (.string ⟨#[]⟩)
theorem Res.only {w w' : World} {R n : Nat} (h : Res w R n) (k : Only R w w') : Res w' R n :=
 ⟨h.1, Nat.lt_of_lt_of_le h.2.1 k.size, fun o => by rw [k.frozen h.2.1 h.1]; exact h.2.2.1 o, fun o ho => by rw [k.cell h.2.1 h.1]; exact h.2.2.2 o ho⟩
theorem res_new {w : World} {R : Nat} (hR : R < w.heap.size) (t : TypeId) : Res (w.alloc (.cells #[.string ⟨#[]⟩, .string ⟨#[]⟩, .string ⟨#[]⟩, .string ⟨#[]⟩, .string ⟨#[]⟩, .string ⟨#[]⟩] t)) R w.heap.size := by
 refine ⟨by omega, by simp, fun o => by simp, fun o ho => ?_⟩
 have h6 : o = 0 ∨ o = 1 ∨ o = 2 ∨ o = 3 ∨ o = 4 ∨ o = 5 := by omega
 rcases h6 with rfl | rfl | rfl | rfl | rfl | rfl <;> simp
structure Kd where
 s : Value ⊕ Nat ⊕ Nat ⊕ Nat ⊕ Unit ⊕ Unit ⊕ Unit
abbrev Kd.eq (v : Value) : Kd := ⟨.inl v⟩
abbrev Kd.strs (n : Nat) : Kd := ⟨.inr (.inl n)⟩
abbrev Kd.idx (n : Nat) : Kd := ⟨.inr (.inr (.inl n))⟩
abbrev Kd.elt (n : Nat) : Kd := ⟨.inr (.inr (.inr (.inl n)))⟩
abbrev Kd.str : Kd := ⟨.inr (.inr (.inr (.inr (.inl ()))))⟩
abbrev Kd.obj : Kd := ⟨.inr (.inr (.inr (.inr (.inr (.inl ())))))⟩
abbrev Kd.tup : Kd := ⟨.inr (.inr (.inr (.inr (.inr (.inr ())))))⟩
def Kd.ok (R : Nat) (w : World) (v : Value) : Kd → Prop
 | ⟨.inl u⟩ => v = u
 | ⟨.inr (.inl n)⟩ => ∃ g, v = .slice (some ⟨g, 0, none⟩) n n ∧ Strs w R g n
 | ⟨.inr (.inr (.inl n))⟩ => ∃ x : Nat, v = .int .i64 (x : Int) ∧ x < n
 | ⟨.inr (.inr (.inr (.inl n)))⟩ => ∃ g x, v = .pointer (some ⟨g, x, none⟩) ∧ x < n ∧ Strs w R g n
 | ⟨.inr (.inr (.inr (.inr (.inl _))))⟩ => ∃ t : ByteArray, v = .string t ∧ t.size ≤ 20
 | ⟨.inr (.inr (.inr (.inr (.inr (.inl _)))))⟩ => ∃ a b : ByteArray, v = .agg #[.string a, .string b] ∧ a.size ≤ 20 ∧ b.size ≤ 20
 | ⟨.inr (.inr (.inr (.inr (.inr (.inr _)))))⟩ => ∃ a b r c d s : ByteArray, v = .agg #[.string a, .string b, .string r, .string c, .string d, .string s] ∧ a.size ≤ 20 ∧ b.size ≤ 20 ∧ r.size ≤ 20 ∧ c.size ≤ 20 ∧ d.size ≤ 20 ∧ s.size ≤ 20
theorem Kd.only {R : Nat} {w w' : World} {v : Value} (h : Only R w w') (k : Kd) (hk : k.ok R w v) : k.ok R w' v := by
 match k, hk with
 | ⟨.inl _⟩, hk => exact hk
 | ⟨.inr (.inl _)⟩, hk => obtain ⟨g, e, hs⟩ := hk; exact ⟨g, e, hs.only h⟩
 | ⟨.inr (.inr (.inl _))⟩, hk => exact hk
 | ⟨.inr (.inr (.inr (.inl _)))⟩, hk => obtain ⟨g, x, e, hx, hs⟩ := hk; exact ⟨g, x, e, hx, hs.only h⟩
 | ⟨.inr (.inr (.inr (.inr (.inl _))))⟩, hk => exact hk
 | ⟨.inr (.inr (.inr (.inr (.inr (.inl _)))))⟩, hk => exact hk
 | ⟨.inr (.inr (.inr (.inr (.inr (.inr _)))))⟩, hk => exact hk
def kdAt (ks : List Kd) (k : Nat) : Kd := ks.getD k .tup
set_option maxRecDepth 4000 in
set_option maxHeartbeats 8000000 in
theorem tuple_any (R : Nat) (ad : Option Addr) (len cap : Nat) (w : World) (h : Rd w R ad len cap) :
  Calls Tryz.prog 51 #[.pointer (some ⟨R, 0, none⟩)] w fun e w' => (∃ a b r c d s : ByteArray, e = .returned (.agg #[.string a, .string b, .string r, .string c, .string d, .string s]) ∧ a.size ≤ 20 ∧ b.size ≤ 20 ∧ r.size ≤ 20 ∧ c.size ≤ 20 ∧ d.size ≤ 20 ∧ s.size ≤ 20) ∧ Rd w' R ad len cap ∧ Only R w w' := by
 have H : Hid (Rd w R ad len cap) := h
 have hRw := h.lt
 have FAR : Hid (∀ g, w.heap.size ≤ g → 0 < len → ∀ b off, ad = some ⟨b, off, none⟩ → b ≠ g) := fun g hg h0 b off e => by
  obtain ⟨b', off', e', -, hb', -⟩ := h.bytes h0
  rw [e] at e'; injection e' with e'; injection e' with e1 e2; omega
 clear h
 go_enter Tryz.func51, Tryz.ntmps51
 go_wp2_with fail
 refine (below_any R ad len cap 3 _ ((H.out.alloc _).alloc _) (by omega) (by omega)).mono ?_
 rintro e w1 ⟨⟨x, rfl, hx0, hx1⟩, hR1, hO1⟩
 obtain ⟨y, rfl⟩ : ∃ y : Nat, x = (y : Int) := ⟨x.toNat, by omega⟩
 have hSt := (strs_new (w.alloc _) R (by simp; omega) (t := 9) (xs := [⟨#[97]⟩, ⟨#[98]⟩, ⟨#[99]⟩]) (by decide)).only hO1
 obtain ⟨t1, ht1, hc1⟩ := hSt.2.2 y (by simp; omega)
 simp only [World.size_alloc] at hc1
 have HO1 : Hid (Only R w w1) := (((Only.refl R w).alloc _).alloc _).trans hO1
 have HN1 : Hid (Res w1 R w.heap.size) := ((res_new hRw _).only ((Only.refl R _).alloc _)).only hO1
 have HR1 : Hid (Rd w1 R ad len cap) := hR1
 have hl1 := hR1.lt
 clear hR1 hO1 hSt
 go_wp2_with fail
 refine (below_any R ad len cap 3 _ (HR1.out.alloc _) (by omega) (by omega)).mono ?_
 rintro e w2 ⟨⟨x, rfl, hx2, hx3⟩, hR2, hO2⟩
 obtain ⟨y2, rfl⟩ : ∃ y : Nat, x = (y : Int) := ⟨x.toNat, by omega⟩
 have hSt := (strs_new w1 R hl1 (t := 9) (xs := [⟨#[120]⟩, ⟨#[121]⟩, ⟨#[122]⟩]) (by decide)).only hO2
 obtain ⟨t2, ht2, hc2⟩ := hSt.2.2 y2 (by simp; omega)
 have HO2 : Hid (Only R w w2) := (HO1.out.alloc _).trans hO2
 have HN2 : Hid (Res w2 R w.heap.size) := (HN1.out.only ((Only.refl R _).alloc _)).only hO2
 have HR2 : Hid (Rd w2 R ad len cap) := hR2
 have hl2 := hR2.lt
 clear hR2 hO2 hSt hc1 HO1 HN1 HR1
 go_wp2_with fail
 refine (below_any R ad len cap 2 _ ((HR2.out.alloc _).alloc _) (by omega) (by omega)).mono ?_
 rintro e w3 ⟨⟨x, rfl, hx4, hx5⟩, hR3, hO3⟩
 obtain ⟨y3, rfl⟩ : ∃ y : Nat, x = (y : Int) := ⟨x.toNat, by omega⟩
 have hSt := (strs_new (w2.alloc _) R (by simp; omega) (t := 9) (xs := [⟨#[103]⟩, ⟨#[104]⟩]) (by decide)).only hO3
 obtain ⟨t3, ht3, hc3⟩ := hSt.2.2 y3 (by simp; omega)
 simp only [World.size_alloc] at hc3
 have HO3 : Hid (Only R w w3) := ((HO2.out.alloc _).alloc _).trans hO3
 have HN3 : Hid (Res w3 R w.heap.size) := (HN2.out.only (((Only.refl R _).alloc _).alloc _)).only hO3
 have HU3 : Hid (Ob w3 R w2.heap.size ⟨#[117, 115, 101, 114]⟩ t2) := ((ob_new hl2 34 _ _).alloc _).only hO3
 have HR3 : Hid (Rd w3 R ad len cap) := hR3
 have hl3 := hR3.lt
 clear hR3 hO3 hSt hc2 HO2 HN2 HR2
 go_wp2_with fail
 refine (below_any R ad len cap 11 _ (((HR3.out.alloc _).alloc _).alloc _) (by omega) (by omega)).mono ?_
 rintro e w4 ⟨⟨x, rfl, hx6, hx7⟩, hR4, hO4⟩
 obtain ⟨y4, rfl⟩ : ∃ y : Nat, x = (y : Int) := ⟨x.toNat, by omega⟩
 have HO4 : Hid (Only R w w4) := (((HO3.out.alloc _).alloc _).alloc _).trans hO4
 have HR4 : Hid (Rd w4 R ad len cap) := hR4
 obtain ⟨hnR, hnl, hnf, hnc⟩ := (HN3.out.only ((((Only.refl R _).alloc _).alloc _).alloc _)).only hO4
 obtain ⟨huR, hul, hu0, hu1⟩ := (((HU3.out.alloc _).alloc _).alloc _).only hO4
 obtain ⟨hgR, hgl, hg0, hg1⟩ := (((ob_new hl3 34 ⟨#[103, 114, 111, 117, 112]⟩ t3).alloc _).alloc _).only hO4
 obtain ⟨hdR, hdl, hd0, hd1⟩ := ((ob_new (w := w3.alloc _) (R := R) (by simp; omega) 34 ⟨#[100, 111, 99]⟩ t1).alloc _).only hO4
 obtain ⟨hiR, hil, hi0, hi1⟩ := (ob_new (w := (w3.alloc _).alloc _) (R := R) (by simp; omega) 34 ⟨#[100, 105, 114]⟩ ⟨#[100]⟩).only hO4
 simp only [World.size_alloc] at hdR hdl hd0 hd1 hiR hil hi0 hi1
 have n0 := hnc 0 (by omega)
 have n1 := hnc 1 (by omega)
 have n2 := hnc 2 (by omega)
 have n3 := hnc 3 (by omega)
 have n4 := hnc 4 (by omega)
 have n5 := hnc 5 (by omega)
 clear hnc hR4 hO4 hc3 HO3 HN3 HR3 HU3 hx0 hx1 hx2 hx3 hx4 hx5 hx6
 have hy : y4 = 0 ∨ y4 = 1 ∨ y4 = 2 ∨ y4 = 3 ∨ y4 = 4 ∨ y4 = 5 ∨ y4 = 6 ∨ y4 = 7 ∨ y4 = 8 ∨ y4 = 9 ∨ y4 = 10 := by omega
 clear hx7
 rcases hy with rfl | rfl | rfl | rfl | rfl | rfl | rfl | rfl | rfl | rfl | rfl
 ·go_wp2
  exact bodyPost_ret (v := .agg #[.string ⟨#[103, 114, 111, 117, 112]⟩, .string t3, .string ⟨#[109, 101, 109, 98, 101, 114]⟩, .string ⟨#[117, 115, 101, 114]⟩, .string t2, .string ⟨#[]⟩]) (by simp [results, Tryz.results51, go_sem, *]) rfl ⟨⟨_, _, _, _, _, _, rfl, by decide, ht3, by decide, by decide, ht2, by decide⟩, ((((((HR4.out.setFar hnR (FAR.out _ (Nat.le_refl _))).setFar hnR (FAR.out _ (Nat.le_refl _))).setFar hnR (FAR.out _ (Nat.le_refl _))).setFar hnR (FAR.out _ (Nat.le_refl _))).setFar hnR (FAR.out _ (Nat.le_refl _))).setFar hnR (FAR.out _ (Nat.le_refl _))), ((((((HO4.out.setNew (Nat.le_refl _)).setNew (Nat.le_refl _)).setNew (Nat.le_refl _)).setNew (Nat.le_refl _)).setNew (Nat.le_refl _)).setNew (Nat.le_refl _))⟩
 ·go_wp2_with fail
  refine wp_region_mid 8 (fun f => { tmps := List.toArray (Value.pointer (some ⟨R, 0, none⟩) :: undef :: Value.pointer (some ⟨w.heap.size, 0, none⟩) :: Value.string t1 :: Value.pointer (some ⟨w2.heap.size, 0, none⟩) :: Value.pointer (some ⟨w3.heap.size, 0, none⟩) :: Value.pointer (some ⟨w3.heap.size + 1, 0, none⟩) :: Value.pointer (some ⟨w3.heap.size + 1 + 1, 0, none⟩) :: Value.slice (some ⟨w.heap.size + 1, 0, none⟩) 3 3 :: Value.pointer (some ⟨R, 0, none⟩) :: Value.int .i64 (y : Int) :: Value.pointer (some ⟨w.heap.size + 1, y, none⟩) :: Value.string t1 :: Value.slice (some ⟨w1.heap.size, 0, none⟩) 3 3 :: Value.pointer (some ⟨R, 0, none⟩) :: Value.int .i64 (y2 : Int) :: Value.pointer (some ⟨w1.heap.size, y2, none⟩) :: Value.string t2 :: Value.agg #[.string ⟨#[117, 115, 101, 114]⟩, .string t2] :: Value.slice (some ⟨w2.heap.size + 1, 0, none⟩) 2 2 :: Value.pointer (some ⟨R, 0, none⟩) :: Value.int .i64 (y3 : Int) :: Value.pointer (some ⟨w2.heap.size + 1, y3, none⟩) :: Value.string t3 :: Value.agg #[.string ⟨#[103, 114, 111, 117, 112]⟩, .string t3] :: Value.string t1 :: Value.agg #[.string ⟨#[100, 111, 99]⟩, .string t1] :: Value.agg #[.string ⟨#[100, 105, 114]⟩, .string ⟨#[100]⟩] :: Value.pointer (some ⟨R, 0, none⟩) :: Value.int .i64 1 :: Value.bool false :: Value.bool false :: undef :: undef :: undef :: Value.bool false :: Value.bool false :: undef :: undef :: undef :: undef :: undef :: undef :: undef :: undef :: Value.bool false :: Value.bool false :: undef :: undef :: undef :: Value.bool true :: Value.bool true :: f 0 :: f 1 :: f 2 :: f 3 :: f 4 :: f 5 :: f 6 :: f 7 :: undef :: undef :: undef :: undef :: undef :: undef :: undef :: undef :: undef :: undef :: undef :: undef :: undef :: undef :: undef :: undef :: undef :: undef :: undef :: undef :: undef :: undef :: undef :: undef :: undef :: undef :: undef :: undef :: undef :: undef :: undef :: undef :: undef :: undef :: undef :: undef :: undef :: undef :: undef :: undef :: []), defers := [] }) (fun k v w' => Kd.ok R w' v (kdAt [.eq (Value.agg #[.string ⟨#[103, 114, 111, 117, 112]⟩, .string t3]), .strs 2, .eq (Value.pointer (some ⟨R, 0, none⟩)), .idx 2, .elt 2, .str, .obj, .tup] k)) (fun w' => Rd w' R ad len cap ∧ Only R w w' ∧ Only R w4 w') (by kernel_rfl) rfl (by kernel_rfl) (by kernel_rfl) rfl ⟨HR4.out.below (Below.refl _ _).drew, HO4.out.drewN 1, (Only.refl _ _).drewN 1⟩ ?step ?fin
  case step =>
   rintro i hi o ho f w' ⟨hR', hO', hO4'⟩ hpre
   have HR : Hid (Rd w' R ad len cap) := hR'
   have HO : Hid (Only R w w') := hO'
   have HP : Hid (Only R w4 w') := hO4'
   have hRl : R < w'.heap.size := hR'.lt
   have HM : Hid (∀ e ∈ o.after, Region.binds .any e = true → _) := hpre
   clear hR' hO' hO4' hpre n0 n1 n2 n3 n4 n5 hnf
   have hc : i = 0 ∨ i = 1 ∨ i = 2 ∨ i = 3 ∨ i = 4 ∨ i = 5 ∨ i = 6 ∨ i = 7 := by omega
   clear hi
   rcases hc with rfl | rfl | rfl | rfl | rfl | rfl | rfl | rfl
   ·obtain rfl := Option.some.inj ho
    have c0 := (HP.out.cell (o := 0) hgl hgR).trans hg0
    have c1 := (HP.out.cell (o := 1) hgl hgR).trans hg1
    refine wpOp_hid rfl fun K HK => ?_
    clear ho HM
    dsimp only
    go_simp
    exact HK.out _ _ ⟨Value.agg #[.string ⟨#[103, 114, 111, 117, 112]⟩, .string t3], by simp [upd], ⟨HR.out, HO.out, HP.out⟩, rfl, fun k u hu => hu⟩
   ·obtain rfl := Option.some.inj ho
    have k1 : Only R w' (w'.alloc (.cells #[.string ⟨#[103]⟩, .string ⟨#[104]⟩] 9)) := (Only.refl R w').alloc _
    have K1 : Hid (Only R w' (w'.alloc (.cells #[.string ⟨#[103]⟩, .string ⟨#[104]⟩] 9))) := k1
    clear k1
    refine wpOp_hid rfl fun K HK => ?_
    clear ho HM
    dsimp only
    go_simp
    exact HK.out _ _ ⟨.slice (some ⟨w'.heap.size, 0, none⟩) 2 2, by simp [upd], ⟨HR.out.alloc _, HO.out.alloc _, HP.out.alloc _⟩, ⟨_, rfl, strs_new w' R hRl (xs := [_, _]) (by decide)⟩, fun k u hu => Kd.only K1.out _ hu⟩
   ·obtain rfl := Option.some.inj ho
    refine wpOp_hid rfl fun K HK => ?_
    clear ho HM
    dsimp only
    go_simp
    exact HK.out _ _ ⟨Value.pointer (some ⟨R, 0, none⟩), by simp [upd], ⟨HR.out, HO.out, HP.out⟩, rfl, fun k u hu => hu⟩
   ·obtain rfl := Option.some.inj ho
    have e1 : f 2 = Value.pointer (some ⟨R, 0, none⟩) := HM.out ⟨2, .data⟩ (by simp) rfl
    refine wpOp_hid rfl fun K HK => ?_
    clear ho HM
    simp only [e1]
    go_simp
    refine (below_any R ad len cap 2 _ HR.out (by omega) (by omega)).mono ?_
    rintro e w5 ⟨⟨x, rfl, hx0, hx1⟩, hR5, hO5⟩
    obtain ⟨x, rfl⟩ : ∃ y : Nat, x = (y : Int) := ⟨x.toNat, by omega⟩
    have HR5 : Hid (Rd w5 R ad len cap) := hR5
    have HO5 : Hid (Only R w' w5) := hO5
    clear hR5 hO5
    go_wp2_with fail
    exact HK.out _ _ ⟨.int .i64 (x : Int), by simp [upd, e1], ⟨HR5.out, HO.out.trans HO5.out, HP.out.trans HO5.out⟩, ⟨x, rfl, by omega⟩, fun k u hu => Kd.only HO5.out _ hu⟩
   ·obtain rfl := Option.some.inj ho
    obtain ⟨g, e1, hS⟩ := HM.out ⟨1, .data⟩ (by simp) rfl
    obtain ⟨x, e2, hx⟩ := HM.out ⟨3, .data⟩ (by simp) rfl
    replace e1 : f 1 = _ := e1
    replace e2 : f 3 = _ := e2
    have HS : Hid (Strs w' R g 2) := hS
    clear hS
    have hx0 : (0 : Int) ≤ (x : Int) := by omega
    have hx1 : (x : Int) < 2 := by omega
    refine wpOp_hid rfl fun K HK => ?_
    clear ho HM
    simp only [e1, e2]
    go_simp
    exact HK.out _ _ ⟨.pointer (some ⟨g, x, none⟩), by simp [upd, e1, e2], ⟨HR.out, HO.out, HP.out⟩, ⟨g, x, rfl, hx, HS.out⟩, fun k u hu => hu⟩
   ·obtain rfl := Option.some.inj ho
    obtain ⟨g, x, e1, hx, hS⟩ := HM.out ⟨4, .data⟩ (by simp) rfl
    replace e1 : f 4 = _ := e1
    obtain ⟨t, ht, hcell⟩ := hS.2.2 x hx
    clear hS
    refine wpOp_hid rfl fun K HK => ?_
    clear ho HM
    simp only [e1]
    go_simp
    exact HK.out _ _ ⟨.string t, by simp [upd, e1], ⟨HR.out, HO.out, HP.out⟩, ⟨t, rfl, ht⟩, fun k u hu => hu⟩
   ·obtain rfl := Option.some.inj ho
    obtain ⟨t, e1, ht⟩ := HM.out ⟨5, .data⟩ (by simp) rfl
    replace e1 : f 5 = _ := e1
    refine wpOp_hid rfl fun K HK => ?_
    clear ho HM
    simp only [e1]
    go_simp
    exact HK.out _ _ ⟨.agg #[.string ⟨#[103, 114, 111, 117, 112]⟩, .string t], by simp [upd, e1], ⟨HR.out, HO.out, HP.out⟩, ⟨_, _, rfl, by decide, ht⟩, fun k u hu => hu⟩
   ·obtain rfl := Option.some.inj ho
    have ep : f 0 = Value.agg #[.string ⟨#[103, 114, 111, 117, 112]⟩, .string t3] := HM.out ⟨0, .data⟩ (by simp) rfl
    obtain ⟨qa, qb, eq, hqa, hqb⟩ := HM.out ⟨6, .data⟩ (by simp) rfl
    replace eq : f 6 = _ := eq
    refine wpOp_hid rfl fun K HK => ?_
    clear ho HM
    simp only [ep, eq]
    go_simp
    exact HK.out _ _ ⟨.agg #[.string ⟨#[103, 114, 111, 117, 112]⟩, .string t3, .string ⟨#[109, 101, 109, 98, 101, 114]⟩, .string qa, .string qb, .string ⟨#[109, 101, 109, 98, 101, 114]⟩], by simp [upd, ep, eq], ⟨HR.out, HO.out, HP.out⟩, ⟨_, _, _, _, _, _, rfl, by decide, ht3, by decide, hqa, hqb, by decide⟩, fun k u hu => hu⟩
  case fin =>
   rintro o ho f w' ⟨hR', hO', hO4'⟩ hall
   have HR : Hid (Rd w' R ad len cap) := hR'
   have HO : Hid (Only R w w') := hO'
   obtain ⟨pa, pb, pr, pc, pd, ps, e1, ha, hb, hr, hc, hd, hs⟩ := hall 7 (by omega)
   replace e1 : f 7 = _ := e1
   replace n0 := (hO4'.cell (o := 0) hnl hnR).trans n0
   replace n1 := (hO4'.cell (o := 1) hnl hnR).trans n1
   replace n2 := (hO4'.cell (o := 2) hnl hnR).trans n2
   replace n3 := (hO4'.cell (o := 3) hnl hnR).trans n3
   replace n4 := (hO4'.cell (o := 4) hnl hnR).trans n4
   replace n5 := (hO4'.cell (o := 5) hnl hnR).trans n5
   replace hnf := fun o => (hO4'.frozen (o := o) hnl hnR).trans (hnf o)
   clear hR' hO' hO4' hall hu0 hu1 hg0 hg1 hd0 hd1 hi0 hi1
   obtain rfl := Option.some.inj ho
   clear ho
   refine wpOp_step rfl (fun K hK => ?_)
   have HK : Hid (∀ a w, _ → K a w) := hK
   clear hK
   simp only [e1]
   go_simp
   refine HK.out _ _ ?_
   clear HK
   go_wp2
   exact bodyPost_ret (v := .agg #[.string pa, .string pb, .string pr, .string pc, .string pd, .string ps]) (by simp [results, Tryz.results51, go_sem, *]) rfl ⟨⟨_, _, _, _, _, _, rfl, ha, hb, hr, hc, hd, hs⟩, ((((((HR.out.setFar hnR (FAR.out _ (Nat.le_refl _))).setFar hnR (FAR.out _ (Nat.le_refl _))).setFar hnR (FAR.out _ (Nat.le_refl _))).setFar hnR (FAR.out _ (Nat.le_refl _))).setFar hnR (FAR.out _ (Nat.le_refl _))).setFar hnR (FAR.out _ (Nat.le_refl _))), ((((((HO.out.setNew (Nat.le_refl _)).setNew (Nat.le_refl _)).setNew (Nat.le_refl _)).setNew (Nat.le_refl _)).setNew (Nat.le_refl _)).setNew (Nat.le_refl _))⟩
 ·go_wp2_with fail
  refine wp_region_mid 8 (fun f => { tmps := List.toArray (Value.pointer (some ⟨R, 0, none⟩) :: undef :: Value.pointer (some ⟨w.heap.size, 0, none⟩) :: Value.string t1 :: Value.pointer (some ⟨w2.heap.size, 0, none⟩) :: Value.pointer (some ⟨w3.heap.size, 0, none⟩) :: Value.pointer (some ⟨w3.heap.size + 1, 0, none⟩) :: Value.pointer (some ⟨w3.heap.size + 1 + 1, 0, none⟩) :: Value.slice (some ⟨w.heap.size + 1, 0, none⟩) 3 3 :: Value.pointer (some ⟨R, 0, none⟩) :: Value.int .i64 (y : Int) :: Value.pointer (some ⟨w.heap.size + 1, y, none⟩) :: Value.string t1 :: Value.slice (some ⟨w1.heap.size, 0, none⟩) 3 3 :: Value.pointer (some ⟨R, 0, none⟩) :: Value.int .i64 (y2 : Int) :: Value.pointer (some ⟨w1.heap.size, y2, none⟩) :: Value.string t2 :: Value.agg #[.string ⟨#[117, 115, 101, 114]⟩, .string t2] :: Value.slice (some ⟨w2.heap.size + 1, 0, none⟩) 2 2 :: Value.pointer (some ⟨R, 0, none⟩) :: Value.int .i64 (y3 : Int) :: Value.pointer (some ⟨w2.heap.size + 1, y3, none⟩) :: Value.string t3 :: Value.agg #[.string ⟨#[103, 114, 111, 117, 112]⟩, .string t3] :: Value.string t1 :: Value.agg #[.string ⟨#[100, 111, 99]⟩, .string t1] :: Value.agg #[.string ⟨#[100, 105, 114]⟩, .string ⟨#[100]⟩] :: Value.pointer (some ⟨R, 0, none⟩) :: Value.int .i64 2 :: Value.bool false :: Value.bool false :: undef :: undef :: undef :: Value.bool false :: Value.bool false :: undef :: undef :: undef :: undef :: undef :: undef :: undef :: undef :: Value.bool false :: Value.bool false :: undef :: undef :: undef :: Value.bool false :: Value.bool false :: undef :: undef :: undef :: undef :: undef :: undef :: undef :: undef :: Value.bool true :: Value.bool true :: f 0 :: f 1 :: f 2 :: f 3 :: f 4 :: f 5 :: f 6 :: f 7 :: undef :: undef :: undef :: undef :: undef :: undef :: undef :: undef :: undef :: undef :: undef :: undef :: undef :: undef :: undef :: undef :: undef :: undef :: undef :: undef :: undef :: undef :: undef :: undef :: undef :: undef :: undef :: undef :: undef :: undef :: []), defers := [] }) (fun k v w' => Kd.ok R w' v (kdAt [.eq (Value.agg #[.string ⟨#[100, 111, 99]⟩, .string t1]), .strs 3, .eq (Value.pointer (some ⟨R, 0, none⟩)), .idx 3, .elt 3, .str, .obj, .tup] k)) (fun w' => Rd w' R ad len cap ∧ Only R w w' ∧ Only R w4 w') (by kernel_rfl) rfl (by kernel_rfl) (by kernel_rfl) rfl ⟨HR4.out.below (Below.refl _ _).drew, HO4.out.drewN 1, (Only.refl _ _).drewN 1⟩ ?step ?fin
  case step =>
   rintro i hi o ho f w' ⟨hR', hO', hO4'⟩ hpre
   have HR : Hid (Rd w' R ad len cap) := hR'
   have HO : Hid (Only R w w') := hO'
   have HP : Hid (Only R w4 w') := hO4'
   have hRl : R < w'.heap.size := hR'.lt
   have HM : Hid (∀ e ∈ o.after, Region.binds .any e = true → _) := hpre
   clear hR' hO' hO4' hpre n0 n1 n2 n3 n4 n5 hnf
   have hc : i = 0 ∨ i = 1 ∨ i = 2 ∨ i = 3 ∨ i = 4 ∨ i = 5 ∨ i = 6 ∨ i = 7 := by omega
   clear hi
   rcases hc with rfl | rfl | rfl | rfl | rfl | rfl | rfl | rfl
   ·obtain rfl := Option.some.inj ho
    have c0 := (HP.out.cell (o := 0) hdl hdR).trans hd0
    have c1 := (HP.out.cell (o := 1) hdl hdR).trans hd1
    refine wpOp_hid rfl fun K HK => ?_
    clear ho HM
    dsimp only
    go_simp
    exact HK.out _ _ ⟨Value.agg #[.string ⟨#[100, 111, 99]⟩, .string t1], by simp [upd], ⟨HR.out, HO.out, HP.out⟩, rfl, fun k u hu => hu⟩
   ·obtain rfl := Option.some.inj ho
    have k1 : Only R w' (w'.alloc (.cells #[.string ⟨#[97]⟩, .string ⟨#[98]⟩, .string ⟨#[99]⟩] 9)) := (Only.refl R w').alloc _
    have K1 : Hid (Only R w' (w'.alloc (.cells #[.string ⟨#[97]⟩, .string ⟨#[98]⟩, .string ⟨#[99]⟩] 9))) := k1
    clear k1
    refine wpOp_hid rfl fun K HK => ?_
    clear ho HM
    dsimp only
    go_simp
    exact HK.out _ _ ⟨.slice (some ⟨w'.heap.size, 0, none⟩) 3 3, by simp [upd], ⟨HR.out.alloc _, HO.out.alloc _, HP.out.alloc _⟩, ⟨_, rfl, strs_new w' R hRl (xs := [_, _, _]) (by decide)⟩, fun k u hu => Kd.only K1.out _ hu⟩
   ·obtain rfl := Option.some.inj ho
    refine wpOp_hid rfl fun K HK => ?_
    clear ho HM
    dsimp only
    go_simp
    exact HK.out _ _ ⟨Value.pointer (some ⟨R, 0, none⟩), by simp [upd], ⟨HR.out, HO.out, HP.out⟩, rfl, fun k u hu => hu⟩
   ·obtain rfl := Option.some.inj ho
    have e1 : f 2 = Value.pointer (some ⟨R, 0, none⟩) := HM.out ⟨2, .data⟩ (by simp) rfl
    refine wpOp_hid rfl fun K HK => ?_
    clear ho HM
    simp only [e1]
    go_simp
    refine (below_any R ad len cap 3 _ HR.out (by omega) (by omega)).mono ?_
    rintro e w5 ⟨⟨x, rfl, hx0, hx1⟩, hR5, hO5⟩
    obtain ⟨x, rfl⟩ : ∃ y : Nat, x = (y : Int) := ⟨x.toNat, by omega⟩
    have HR5 : Hid (Rd w5 R ad len cap) := hR5
    have HO5 : Hid (Only R w' w5) := hO5
    clear hR5 hO5
    go_wp2_with fail
    exact HK.out _ _ ⟨.int .i64 (x : Int), by simp [upd, e1], ⟨HR5.out, HO.out.trans HO5.out, HP.out.trans HO5.out⟩, ⟨x, rfl, by omega⟩, fun k u hu => Kd.only HO5.out _ hu⟩
   ·obtain rfl := Option.some.inj ho
    obtain ⟨g, e1, hS⟩ := HM.out ⟨1, .data⟩ (by simp) rfl
    obtain ⟨x, e2, hx⟩ := HM.out ⟨3, .data⟩ (by simp) rfl
    replace e1 : f 1 = _ := e1
    replace e2 : f 3 = _ := e2
    have HS : Hid (Strs w' R g 3) := hS
    clear hS
    have hx0 : (0 : Int) ≤ (x : Int) := by omega
    have hx1 : (x : Int) < 3 := by omega
    refine wpOp_hid rfl fun K HK => ?_
    clear ho HM
    simp only [e1, e2]
    go_simp
    exact HK.out _ _ ⟨.pointer (some ⟨g, x, none⟩), by simp [upd, e1, e2], ⟨HR.out, HO.out, HP.out⟩, ⟨g, x, rfl, hx, HS.out⟩, fun k u hu => hu⟩
   ·obtain rfl := Option.some.inj ho
    obtain ⟨g, x, e1, hx, hS⟩ := HM.out ⟨4, .data⟩ (by simp) rfl
    replace e1 : f 4 = _ := e1
    obtain ⟨t, ht, hcell⟩ := hS.2.2 x hx
    clear hS
    refine wpOp_hid rfl fun K HK => ?_
    clear ho HM
    simp only [e1]
    go_simp
    exact HK.out _ _ ⟨.string t, by simp [upd, e1], ⟨HR.out, HO.out, HP.out⟩, ⟨t, rfl, ht⟩, fun k u hu => hu⟩
   ·obtain rfl := Option.some.inj ho
    obtain ⟨t, e1, ht⟩ := HM.out ⟨5, .data⟩ (by simp) rfl
    replace e1 : f 5 = _ := e1
    refine wpOp_hid rfl fun K HK => ?_
    clear ho HM
    simp only [e1]
    go_simp
    exact HK.out _ _ ⟨.agg #[.string ⟨#[100, 111, 99]⟩, .string t], by simp [upd, e1], ⟨HR.out, HO.out, HP.out⟩, ⟨_, _, rfl, by decide, ht⟩, fun k u hu => hu⟩
   ·obtain rfl := Option.some.inj ho
    have ep : f 0 = Value.agg #[.string ⟨#[100, 111, 99]⟩, .string t1] := HM.out ⟨0, .data⟩ (by simp) rfl
    obtain ⟨qa, qb, eq, hqa, hqb⟩ := HM.out ⟨6, .data⟩ (by simp) rfl
    replace eq : f 6 = _ := eq
    refine wpOp_hid rfl fun K HK => ?_
    clear ho HM
    simp only [ep, eq]
    go_simp
    exact HK.out _ _ ⟨.agg #[.string ⟨#[100, 111, 99]⟩, .string t1, .string ⟨#[112, 97, 114, 101, 110, 116]⟩, .string qa, .string qb, .string ⟨#[]⟩], by simp [upd, ep, eq], ⟨HR.out, HO.out, HP.out⟩, ⟨_, _, _, _, _, _, rfl, by decide, ht1, by decide, hqa, hqb, by decide⟩, fun k u hu => hu⟩
  case fin =>
   rintro o ho f w' ⟨hR', hO', hO4'⟩ hall
   have HR : Hid (Rd w' R ad len cap) := hR'
   have HO : Hid (Only R w w') := hO'
   obtain ⟨pa, pb, pr, pc, pd, ps, e1, ha, hb, hr, hc, hd, hs⟩ := hall 7 (by omega)
   replace e1 : f 7 = _ := e1
   replace n0 := (hO4'.cell (o := 0) hnl hnR).trans n0
   replace n1 := (hO4'.cell (o := 1) hnl hnR).trans n1
   replace n2 := (hO4'.cell (o := 2) hnl hnR).trans n2
   replace n3 := (hO4'.cell (o := 3) hnl hnR).trans n3
   replace n4 := (hO4'.cell (o := 4) hnl hnR).trans n4
   replace n5 := (hO4'.cell (o := 5) hnl hnR).trans n5
   replace hnf := fun o => (hO4'.frozen (o := o) hnl hnR).trans (hnf o)
   clear hR' hO' hO4' hall hu0 hu1 hg0 hg1 hd0 hd1 hi0 hi1
   obtain rfl := Option.some.inj ho
   clear ho
   refine wpOp_step rfl (fun K hK => ?_)
   have HK : Hid (∀ a w, _ → K a w) := hK
   clear hK
   simp only [e1]
   go_simp
   refine HK.out _ _ ?_
   clear HK
   go_wp2
   exact bodyPost_ret (v := .agg #[.string pa, .string pb, .string pr, .string pc, .string pd, .string ps]) (by simp [results, Tryz.results51, go_sem, *]) rfl ⟨⟨_, _, _, _, _, _, rfl, ha, hb, hr, hc, hd, hs⟩, ((((((HR.out.setFar hnR (FAR.out _ (Nat.le_refl _))).setFar hnR (FAR.out _ (Nat.le_refl _))).setFar hnR (FAR.out _ (Nat.le_refl _))).setFar hnR (FAR.out _ (Nat.le_refl _))).setFar hnR (FAR.out _ (Nat.le_refl _))).setFar hnR (FAR.out _ (Nat.le_refl _))), ((((((HO.out.setNew (Nat.le_refl _)).setNew (Nat.le_refl _)).setNew (Nat.le_refl _)).setNew (Nat.le_refl _)).setNew (Nat.le_refl _)).setNew (Nat.le_refl _))⟩
 ·go_wp2
  exact bodyPost_ret (v := .agg #[.string ⟨#[100, 111, 99]⟩, .string t1, .string ⟨#[101, 100, 105, 116, 111, 114]⟩, .string ⟨#[117, 115, 101, 114]⟩, .string t2, .string ⟨#[]⟩]) (by simp [results, Tryz.results51, go_sem, *]) rfl ⟨⟨_, _, _, _, _, _, rfl, by decide, ht1, by decide, by decide, ht2, by decide⟩, ((((((HR4.out.setFar hnR (FAR.out _ (Nat.le_refl _))).setFar hnR (FAR.out _ (Nat.le_refl _))).setFar hnR (FAR.out _ (Nat.le_refl _))).setFar hnR (FAR.out _ (Nat.le_refl _))).setFar hnR (FAR.out _ (Nat.le_refl _))).setFar hnR (FAR.out _ (Nat.le_refl _))), ((((((HO4.out.setNew (Nat.le_refl _)).setNew (Nat.le_refl _)).setNew (Nat.le_refl _)).setNew (Nat.le_refl _)).setNew (Nat.le_refl _)).setNew (Nat.le_refl _))⟩
 ·go_wp2
  exact bodyPost_ret (v := .agg #[.string ⟨#[100, 111, 99]⟩, .string t1, .string ⟨#[118, 105, 101, 119, 101, 114]⟩, .string ⟨#[103, 114, 111, 117, 112]⟩, .string t3, .string ⟨#[109, 101, 109, 98, 101, 114]⟩]) (by simp [results, Tryz.results51, go_sem, *]) rfl ⟨⟨_, _, _, _, _, _, rfl, by decide, ht1, by decide, by decide, ht3, by decide⟩, ((((((HR4.out.setFar hnR (FAR.out _ (Nat.le_refl _))).setFar hnR (FAR.out _ (Nat.le_refl _))).setFar hnR (FAR.out _ (Nat.le_refl _))).setFar hnR (FAR.out _ (Nat.le_refl _))).setFar hnR (FAR.out _ (Nat.le_refl _))).setFar hnR (FAR.out _ (Nat.le_refl _))), ((((((HO4.out.setNew (Nat.le_refl _)).setNew (Nat.le_refl _)).setNew (Nat.le_refl _)).setNew (Nat.le_refl _)).setNew (Nat.le_refl _)).setNew (Nat.le_refl _))⟩
 ·go_wp2
  exact bodyPost_ret (v := .agg #[.string ⟨#[100, 111, 99]⟩, .string t1, .string ⟨#[98, 97, 110, 110, 101, 100]⟩, .string ⟨#[117, 115, 101, 114]⟩, .string t2, .string ⟨#[]⟩]) (by simp [results, Tryz.results51, go_sem, *]) rfl ⟨⟨_, _, _, _, _, _, rfl, by decide, ht1, by decide, by decide, ht2, by decide⟩, ((((((HR4.out.setFar hnR (FAR.out _ (Nat.le_refl _))).setFar hnR (FAR.out _ (Nat.le_refl _))).setFar hnR (FAR.out _ (Nat.le_refl _))).setFar hnR (FAR.out _ (Nat.le_refl _))).setFar hnR (FAR.out _ (Nat.le_refl _))).setFar hnR (FAR.out _ (Nat.le_refl _))), ((((((HO4.out.setNew (Nat.le_refl _)).setNew (Nat.le_refl _)).setNew (Nat.le_refl _)).setNew (Nat.le_refl _)).setNew (Nat.le_refl _)).setNew (Nat.le_refl _))⟩
 ·go_wp2_with fail
  refine wp_region_mid 10 (fun f => { tmps := List.toArray (Value.pointer (some ⟨R, 0, none⟩) :: undef :: Value.pointer (some ⟨w.heap.size, 0, none⟩) :: Value.string t1 :: Value.pointer (some ⟨w2.heap.size, 0, none⟩) :: Value.pointer (some ⟨w3.heap.size, 0, none⟩) :: Value.pointer (some ⟨w3.heap.size + 1, 0, none⟩) :: Value.pointer (some ⟨w3.heap.size + 1 + 1, 0, none⟩) :: Value.slice (some ⟨w.heap.size + 1, 0, none⟩) 3 3 :: Value.pointer (some ⟨R, 0, none⟩) :: Value.int .i64 (y : Int) :: Value.pointer (some ⟨w.heap.size + 1, y, none⟩) :: Value.string t1 :: Value.slice (some ⟨w1.heap.size, 0, none⟩) 3 3 :: Value.pointer (some ⟨R, 0, none⟩) :: Value.int .i64 (y2 : Int) :: Value.pointer (some ⟨w1.heap.size, y2, none⟩) :: Value.string t2 :: Value.agg #[.string ⟨#[117, 115, 101, 114]⟩, .string t2] :: Value.slice (some ⟨w2.heap.size + 1, 0, none⟩) 2 2 :: Value.pointer (some ⟨R, 0, none⟩) :: Value.int .i64 (y3 : Int) :: Value.pointer (some ⟨w2.heap.size + 1, y3, none⟩) :: Value.string t3 :: Value.agg #[.string ⟨#[103, 114, 111, 117, 112]⟩, .string t3] :: Value.string t1 :: Value.agg #[.string ⟨#[100, 111, 99]⟩, .string t1] :: Value.agg #[.string ⟨#[100, 105, 114]⟩, .string ⟨#[100]⟩] :: Value.pointer (some ⟨R, 0, none⟩) :: Value.int .i64 6 :: Value.bool false :: Value.bool false :: undef :: undef :: undef :: Value.bool false :: Value.bool false :: undef :: undef :: undef :: undef :: undef :: undef :: undef :: undef :: Value.bool false :: Value.bool false :: undef :: undef :: undef :: Value.bool false :: Value.bool false :: undef :: undef :: undef :: undef :: undef :: undef :: undef :: undef :: Value.bool false :: Value.bool false :: undef :: undef :: undef :: undef :: undef :: undef :: undef :: undef :: Value.bool false :: Value.bool false :: undef :: undef :: undef :: Value.bool false :: Value.bool false :: undef :: undef :: undef :: Value.bool false :: Value.bool false :: undef :: undef :: undef :: Value.bool true :: Value.bool true :: f 0 :: f 1 :: f 2 :: f 3 :: f 4 :: f 5 :: f 6 :: f 7 :: f 8 :: f 9 :: undef :: undef :: undef :: []), defers := [] }) (fun k v w' => Kd.ok R w' v (kdAt [.eq (Value.pointer (some ⟨R, 0, none⟩)), .obj, .strs 3, .eq (Value.pointer (some ⟨R, 0, none⟩)), .idx 3, .elt 3, .str, .eq (Value.pointer (some ⟨R, 0, none⟩)), .obj, .tup] k)) (fun w' => Rd w' R ad len cap ∧ Only R w w' ∧ Only R w4 w') (by kernel_rfl) rfl (by kernel_rfl) (by kernel_rfl) rfl ⟨HR4.out.below (Below.refl _ _).drew, HO4.out.drewN 1, (Only.refl _ _).drewN 1⟩ ?step ?fin
  case step =>
   rintro i hi o ho f w' ⟨hR', hO', hO4'⟩ hpre
   have HR : Hid (Rd w' R ad len cap) := hR'
   have HO : Hid (Only R w w') := hO'
   have HP : Hid (Only R w4 w') := hO4'
   have hRl : R < w'.heap.size := hR'.lt
   have HM : Hid (∀ e ∈ o.after, Region.binds .any e = true → _) := hpre
   clear hR' hO' hO4' hpre n0 n1 n2 n3 n4 n5 hnf
   have hc : i = 0 ∨ i = 1 ∨ i = 2 ∨ i = 3 ∨ i = 4 ∨ i = 5 ∨ i = 6 ∨ i = 7 ∨ i = 8 ∨ i = 9 := by omega
   clear hi
   rcases hc with rfl | rfl | rfl | rfl | rfl | rfl | rfl | rfl | rfl | rfl
   ·obtain rfl := Option.some.inj ho
    refine wpOp_hid rfl fun K HK => ?_
    clear ho HM
    dsimp only
    go_simp
    exact HK.out _ _ ⟨Value.pointer (some ⟨R, 0, none⟩), by simp [upd], ⟨HR.out, HO.out, HP.out⟩, rfl, fun k u hu => hu⟩
   ·obtain rfl := Option.some.inj ho
    have e1 : f 0 = Value.pointer (some ⟨R, 0, none⟩) := HM.out ⟨0, .data⟩ (by simp) rfl
    refine wpOp_hid rfl fun K HK => ?_
    clear ho HM
    simp only [e1]
    go_simp
    refine (object_any R ad len cap _ HR.out).mono ?_
    rintro e w5 ⟨⟨xa, xb, rfl, hxa, hxb⟩, hR5, hO5⟩
    have HR5 : Hid (Rd w5 R ad len cap) := hR5
    have HO5 : Hid (Only R w' w5) := hO5
    clear hR5 hO5
    go_wp2_with fail
    exact HK.out _ _ ⟨.agg #[.string xa, .string xb], by simp [upd, e1], ⟨HR5.out, HO.out.trans HO5.out, HP.out.trans HO5.out⟩, ⟨xa, xb, rfl, hxa, hxb⟩, fun k u hu => Kd.only HO5.out _ hu⟩
   ·obtain rfl := Option.some.inj ho
    have k1 : Only R w' (w'.alloc (.cells #[.string ⟨#[118, 105, 101, 119, 101, 114]⟩, .string ⟨#[109, 101, 109, 98, 101, 114]⟩, .string ⟨#[112, 97, 114, 101, 110, 116]⟩] 9)) := (Only.refl R w').alloc _
    have K1 : Hid (Only R w' (w'.alloc (.cells #[.string ⟨#[118, 105, 101, 119, 101, 114]⟩, .string ⟨#[109, 101, 109, 98, 101, 114]⟩, .string ⟨#[112, 97, 114, 101, 110, 116]⟩] 9))) := k1
    clear k1
    refine wpOp_hid rfl fun K HK => ?_
    clear ho HM
    dsimp only
    go_simp
    exact HK.out _ _ ⟨.slice (some ⟨w'.heap.size, 0, none⟩) 3 3, by simp [upd], ⟨HR.out.alloc _, HO.out.alloc _, HP.out.alloc _⟩, ⟨_, rfl, strs_new w' R hRl (xs := [_, _, _]) (by decide)⟩, fun k u hu => Kd.only K1.out _ hu⟩
   ·obtain rfl := Option.some.inj ho
    refine wpOp_hid rfl fun K HK => ?_
    clear ho HM
    dsimp only
    go_simp
    exact HK.out _ _ ⟨Value.pointer (some ⟨R, 0, none⟩), by simp [upd], ⟨HR.out, HO.out, HP.out⟩, rfl, fun k u hu => hu⟩
   ·obtain rfl := Option.some.inj ho
    have e1 : f 3 = Value.pointer (some ⟨R, 0, none⟩) := HM.out ⟨3, .data⟩ (by simp) rfl
    refine wpOp_hid rfl fun K HK => ?_
    clear ho HM
    simp only [e1]
    go_simp
    refine (below_any R ad len cap 3 _ HR.out (by omega) (by omega)).mono ?_
    rintro e w5 ⟨⟨x, rfl, hx0, hx1⟩, hR5, hO5⟩
    obtain ⟨x, rfl⟩ : ∃ y : Nat, x = (y : Int) := ⟨x.toNat, by omega⟩
    have HR5 : Hid (Rd w5 R ad len cap) := hR5
    have HO5 : Hid (Only R w' w5) := hO5
    clear hR5 hO5
    go_wp2_with fail
    exact HK.out _ _ ⟨.int .i64 (x : Int), by simp [upd, e1], ⟨HR5.out, HO.out.trans HO5.out, HP.out.trans HO5.out⟩, ⟨x, rfl, by omega⟩, fun k u hu => Kd.only HO5.out _ hu⟩
   ·obtain rfl := Option.some.inj ho
    obtain ⟨g, e1, hS⟩ := HM.out ⟨2, .data⟩ (by simp) rfl
    obtain ⟨x, e2, hx⟩ := HM.out ⟨4, .data⟩ (by simp) rfl
    replace e1 : f 2 = _ := e1
    replace e2 : f 4 = _ := e2
    have HS : Hid (Strs w' R g 3) := hS
    clear hS
    have hx0 : (0 : Int) ≤ (x : Int) := by omega
    have hx1 : (x : Int) < 3 := by omega
    refine wpOp_hid rfl fun K HK => ?_
    clear ho HM
    simp only [e1, e2]
    go_simp
    exact HK.out _ _ ⟨.pointer (some ⟨g, x, none⟩), by simp [upd, e1, e2], ⟨HR.out, HO.out, HP.out⟩, ⟨g, x, rfl, hx, HS.out⟩, fun k u hu => hu⟩
   ·obtain rfl := Option.some.inj ho
    obtain ⟨g, x, e1, hx, hS⟩ := HM.out ⟨5, .data⟩ (by simp) rfl
    replace e1 : f 5 = _ := e1
    obtain ⟨t, ht, hcell⟩ := hS.2.2 x hx
    clear hS
    refine wpOp_hid rfl fun K HK => ?_
    clear ho HM
    simp only [e1]
    go_simp
    exact HK.out _ _ ⟨.string t, by simp [upd, e1], ⟨HR.out, HO.out, HP.out⟩, ⟨t, rfl, ht⟩, fun k u hu => hu⟩
   ·obtain rfl := Option.some.inj ho
    refine wpOp_hid rfl fun K HK => ?_
    clear ho HM
    dsimp only
    go_simp
    exact HK.out _ _ ⟨Value.pointer (some ⟨R, 0, none⟩), by simp [upd], ⟨HR.out, HO.out, HP.out⟩, rfl, fun k u hu => hu⟩
   ·obtain rfl := Option.some.inj ho
    have e1 : f 7 = Value.pointer (some ⟨R, 0, none⟩) := HM.out ⟨7, .data⟩ (by simp) rfl
    refine wpOp_hid rfl fun K HK => ?_
    clear ho HM
    simp only [e1]
    go_simp
    refine (object_any R ad len cap _ HR.out).mono ?_
    rintro e w5 ⟨⟨xa, xb, rfl, hxa, hxb⟩, hR5, hO5⟩
    have HR5 : Hid (Rd w5 R ad len cap) := hR5
    have HO5 : Hid (Only R w' w5) := hO5
    clear hR5 hO5
    go_wp2_with fail
    exact HK.out _ _ ⟨.agg #[.string xa, .string xb], by simp [upd, e1], ⟨HR5.out, HO.out.trans HO5.out, HP.out.trans HO5.out⟩, ⟨xa, xb, rfl, hxa, hxb⟩, fun k u hu => Kd.only HO5.out _ hu⟩
   ·obtain rfl := Option.some.inj ho
    obtain ⟨pa, pb, ep, hpa, hpb⟩ := HM.out ⟨1, .data⟩ (by simp) rfl
    replace ep : f 1 = _ := ep
    obtain ⟨t, e1, ht⟩ := HM.out ⟨6, .data⟩ (by simp) rfl
    replace e1 : f 6 = _ := e1
    obtain ⟨qa, qb, eq, hqa, hqb⟩ := HM.out ⟨8, .data⟩ (by simp) rfl
    replace eq : f 8 = _ := eq
    refine wpOp_hid rfl fun K HK => ?_
    clear ho HM
    simp only [ep, e1, eq]
    go_simp
    exact HK.out _ _ ⟨.agg #[.string pa, .string pb, .string t, .string qa, .string qb, .string ⟨#[]⟩], by simp [upd, ep, e1, eq], ⟨HR.out, HO.out, HP.out⟩, ⟨_, _, _, _, _, _, rfl, hpa, hpb, ht, hqa, hqb, by decide⟩, fun k u hu => hu⟩
  case fin =>
   rintro o ho f w' ⟨hR', hO', hO4'⟩ hall
   have HR : Hid (Rd w' R ad len cap) := hR'
   have HO : Hid (Only R w w') := hO'
   obtain ⟨pa, pb, pr, pc, pd, ps, e1, ha, hb, hr, hc, hd, hs⟩ := hall 9 (by omega)
   replace e1 : f 9 = _ := e1
   replace n0 := (hO4'.cell (o := 0) hnl hnR).trans n0
   replace n1 := (hO4'.cell (o := 1) hnl hnR).trans n1
   replace n2 := (hO4'.cell (o := 2) hnl hnR).trans n2
   replace n3 := (hO4'.cell (o := 3) hnl hnR).trans n3
   replace n4 := (hO4'.cell (o := 4) hnl hnR).trans n4
   replace n5 := (hO4'.cell (o := 5) hnl hnR).trans n5
   replace hnf := fun o => (hO4'.frozen (o := o) hnl hnR).trans (hnf o)
   clear hR' hO' hO4' hall hu0 hu1 hg0 hg1 hd0 hd1 hi0 hi1
   obtain rfl := Option.some.inj ho
   clear ho
   refine wpOp_step rfl (fun K hK => ?_)
   have HK : Hid (∀ a w, _ → K a w) := hK
   clear hK
   simp only [e1]
   go_simp
   refine HK.out _ _ ?_
   clear HK
   go_wp2
   exact bodyPost_ret (v := .agg #[.string pa, .string pb, .string pr, .string pc, .string pd, .string ps]) (by simp [results, Tryz.results51, go_sem, *]) rfl ⟨⟨_, _, _, _, _, _, rfl, ha, hb, hr, hc, hd, hs⟩, ((((((HR.out.setFar hnR (FAR.out _ (Nat.le_refl _))).setFar hnR (FAR.out _ (Nat.le_refl _))).setFar hnR (FAR.out _ (Nat.le_refl _))).setFar hnR (FAR.out _ (Nat.le_refl _))).setFar hnR (FAR.out _ (Nat.le_refl _))).setFar hnR (FAR.out _ (Nat.le_refl _))), ((((((HO.out.setNew (Nat.le_refl _)).setNew (Nat.le_refl _)).setNew (Nat.le_refl _)).setNew (Nat.le_refl _)).setNew (Nat.le_refl _)).setNew (Nat.le_refl _))⟩
 ·go_wp2
  exact bodyPost_ret (v := .agg #[.string ⟨#[100, 111, 99]⟩, .string t1, .string ⟨#[112, 97, 114, 101, 110, 116]⟩, .string ⟨#[100, 105, 114]⟩, .string ⟨#[100]⟩, .string ⟨#[]⟩]) (by simp [results, Tryz.results51, go_sem, *]) rfl ⟨⟨_, _, _, _, _, _, rfl, by decide, ht1, by decide, by decide, by decide, by decide⟩, ((((((HR4.out.setFar hnR (FAR.out _ (Nat.le_refl _))).setFar hnR (FAR.out _ (Nat.le_refl _))).setFar hnR (FAR.out _ (Nat.le_refl _))).setFar hnR (FAR.out _ (Nat.le_refl _))).setFar hnR (FAR.out _ (Nat.le_refl _))).setFar hnR (FAR.out _ (Nat.le_refl _))), ((((((HO4.out.setNew (Nat.le_refl _)).setNew (Nat.le_refl _)).setNew (Nat.le_refl _)).setNew (Nat.le_refl _)).setNew (Nat.le_refl _)).setNew (Nat.le_refl _))⟩
 ·go_wp2_with fail
  refine wp_region_mid 8 (fun f => { tmps := List.toArray (Value.pointer (some ⟨R, 0, none⟩) :: undef :: Value.pointer (some ⟨w.heap.size, 0, none⟩) :: Value.string t1 :: Value.pointer (some ⟨w2.heap.size, 0, none⟩) :: Value.pointer (some ⟨w3.heap.size, 0, none⟩) :: Value.pointer (some ⟨w3.heap.size + 1, 0, none⟩) :: Value.pointer (some ⟨w3.heap.size + 1 + 1, 0, none⟩) :: Value.slice (some ⟨w.heap.size + 1, 0, none⟩) 3 3 :: Value.pointer (some ⟨R, 0, none⟩) :: Value.int .i64 (y : Int) :: Value.pointer (some ⟨w.heap.size + 1, y, none⟩) :: Value.string t1 :: Value.slice (some ⟨w1.heap.size, 0, none⟩) 3 3 :: Value.pointer (some ⟨R, 0, none⟩) :: Value.int .i64 (y2 : Int) :: Value.pointer (some ⟨w1.heap.size, y2, none⟩) :: Value.string t2 :: Value.agg #[.string ⟨#[117, 115, 101, 114]⟩, .string t2] :: Value.slice (some ⟨w2.heap.size + 1, 0, none⟩) 2 2 :: Value.pointer (some ⟨R, 0, none⟩) :: Value.int .i64 (y3 : Int) :: Value.pointer (some ⟨w2.heap.size + 1, y3, none⟩) :: Value.string t3 :: Value.agg #[.string ⟨#[103, 114, 111, 117, 112]⟩, .string t3] :: Value.string t1 :: Value.agg #[.string ⟨#[100, 111, 99]⟩, .string t1] :: Value.agg #[.string ⟨#[100, 105, 114]⟩, .string ⟨#[100]⟩] :: Value.pointer (some ⟨R, 0, none⟩) :: Value.int .i64 8 :: Value.bool false :: Value.bool false :: undef :: undef :: undef :: Value.bool true :: Value.bool true :: f 0 :: f 1 :: f 2 :: f 3 :: f 4 :: f 5 :: f 6 :: f 7 :: undef :: undef :: undef :: undef :: undef :: undef :: undef :: undef :: undef :: undef :: undef :: undef :: undef :: undef :: undef :: undef :: undef :: undef :: undef :: undef :: undef :: undef :: undef :: undef :: undef :: undef :: undef :: undef :: undef :: undef :: undef :: undef :: undef :: undef :: undef :: undef :: undef :: undef :: undef :: undef :: undef :: undef :: undef :: undef :: undef :: undef :: undef :: undef :: undef :: undef :: undef :: undef :: undef :: undef :: undef :: []), defers := [] }) (fun k v w' => Kd.ok R w' v (kdAt [.eq (Value.agg #[.string ⟨#[100, 105, 114]⟩, .string ⟨#[100]⟩]), .strs 2, .eq (Value.pointer (some ⟨R, 0, none⟩)), .idx 2, .elt 2, .str, .eq (Value.agg #[.string ⟨#[117, 115, 101, 114]⟩, .string t2]), .tup] k)) (fun w' => Rd w' R ad len cap ∧ Only R w w' ∧ Only R w4 w') (by kernel_rfl) rfl (by kernel_rfl) (by kernel_rfl) rfl ⟨HR4.out.below (Below.refl _ _).drew, HO4.out.drewN 1, (Only.refl _ _).drewN 1⟩ ?step ?fin
  case step =>
   rintro i hi o ho f w' ⟨hR', hO', hO4'⟩ hpre
   have HR : Hid (Rd w' R ad len cap) := hR'
   have HO : Hid (Only R w w') := hO'
   have HP : Hid (Only R w4 w') := hO4'
   have hRl : R < w'.heap.size := hR'.lt
   have HM : Hid (∀ e ∈ o.after, Region.binds .any e = true → _) := hpre
   clear hR' hO' hO4' hpre n0 n1 n2 n3 n4 n5 hnf
   have hc : i = 0 ∨ i = 1 ∨ i = 2 ∨ i = 3 ∨ i = 4 ∨ i = 5 ∨ i = 6 ∨ i = 7 := by omega
   clear hi
   rcases hc with rfl | rfl | rfl | rfl | rfl | rfl | rfl | rfl
   ·obtain rfl := Option.some.inj ho
    have c0 := (HP.out.cell (o := 0) hil hiR).trans hi0
    have c1 := (HP.out.cell (o := 1) hil hiR).trans hi1
    refine wpOp_hid rfl fun K HK => ?_
    clear ho HM
    dsimp only
    go_simp
    exact HK.out _ _ ⟨Value.agg #[.string ⟨#[100, 105, 114]⟩, .string ⟨#[100]⟩], by simp [upd], ⟨HR.out, HO.out, HP.out⟩, rfl, fun k u hu => hu⟩
   ·obtain rfl := Option.some.inj ho
    have k1 : Only R w' (w'.alloc (.cells #[.string ⟨#[115, 101, 101]⟩, .string ⟨#[111, 119, 110, 101, 114]⟩] 9)) := (Only.refl R w').alloc _
    have K1 : Hid (Only R w' (w'.alloc (.cells #[.string ⟨#[115, 101, 101]⟩, .string ⟨#[111, 119, 110, 101, 114]⟩] 9))) := k1
    clear k1
    refine wpOp_hid rfl fun K HK => ?_
    clear ho HM
    dsimp only
    go_simp
    exact HK.out _ _ ⟨.slice (some ⟨w'.heap.size, 0, none⟩) 2 2, by simp [upd], ⟨HR.out.alloc _, HO.out.alloc _, HP.out.alloc _⟩, ⟨_, rfl, strs_new w' R hRl (xs := [_, _]) (by decide)⟩, fun k u hu => Kd.only K1.out _ hu⟩
   ·obtain rfl := Option.some.inj ho
    refine wpOp_hid rfl fun K HK => ?_
    clear ho HM
    dsimp only
    go_simp
    exact HK.out _ _ ⟨Value.pointer (some ⟨R, 0, none⟩), by simp [upd], ⟨HR.out, HO.out, HP.out⟩, rfl, fun k u hu => hu⟩
   ·obtain rfl := Option.some.inj ho
    have e1 : f 2 = Value.pointer (some ⟨R, 0, none⟩) := HM.out ⟨2, .data⟩ (by simp) rfl
    refine wpOp_hid rfl fun K HK => ?_
    clear ho HM
    simp only [e1]
    go_simp
    refine (below_any R ad len cap 2 _ HR.out (by omega) (by omega)).mono ?_
    rintro e w5 ⟨⟨x, rfl, hx0, hx1⟩, hR5, hO5⟩
    obtain ⟨x, rfl⟩ : ∃ y : Nat, x = (y : Int) := ⟨x.toNat, by omega⟩
    have HR5 : Hid (Rd w5 R ad len cap) := hR5
    have HO5 : Hid (Only R w' w5) := hO5
    clear hR5 hO5
    go_wp2_with fail
    exact HK.out _ _ ⟨.int .i64 (x : Int), by simp [upd, e1], ⟨HR5.out, HO.out.trans HO5.out, HP.out.trans HO5.out⟩, ⟨x, rfl, by omega⟩, fun k u hu => Kd.only HO5.out _ hu⟩
   ·obtain rfl := Option.some.inj ho
    obtain ⟨g, e1, hS⟩ := HM.out ⟨1, .data⟩ (by simp) rfl
    obtain ⟨x, e2, hx⟩ := HM.out ⟨3, .data⟩ (by simp) rfl
    replace e1 : f 1 = _ := e1
    replace e2 : f 3 = _ := e2
    have HS : Hid (Strs w' R g 2) := hS
    clear hS
    have hx0 : (0 : Int) ≤ (x : Int) := by omega
    have hx1 : (x : Int) < 2 := by omega
    refine wpOp_hid rfl fun K HK => ?_
    clear ho HM
    simp only [e1, e2]
    go_simp
    exact HK.out _ _ ⟨.pointer (some ⟨g, x, none⟩), by simp [upd, e1, e2], ⟨HR.out, HO.out, HP.out⟩, ⟨g, x, rfl, hx, HS.out⟩, fun k u hu => hu⟩
   ·obtain rfl := Option.some.inj ho
    obtain ⟨g, x, e1, hx, hS⟩ := HM.out ⟨4, .data⟩ (by simp) rfl
    replace e1 : f 4 = _ := e1
    obtain ⟨t, ht, hcell⟩ := hS.2.2 x hx
    clear hS
    refine wpOp_hid rfl fun K HK => ?_
    clear ho HM
    simp only [e1]
    go_simp
    exact HK.out _ _ ⟨.string t, by simp [upd, e1], ⟨HR.out, HO.out, HP.out⟩, ⟨t, rfl, ht⟩, fun k u hu => hu⟩
   ·obtain rfl := Option.some.inj ho
    have c0 := (HP.out.cell (o := 0) hul huR).trans hu0
    have c1 := (HP.out.cell (o := 1) hul huR).trans hu1
    refine wpOp_hid rfl fun K HK => ?_
    clear ho HM
    dsimp only
    go_simp
    exact HK.out _ _ ⟨Value.agg #[.string ⟨#[117, 115, 101, 114]⟩, .string t2], by simp [upd], ⟨HR.out, HO.out, HP.out⟩, rfl, fun k u hu => hu⟩
   ·obtain rfl := Option.some.inj ho
    have ep : f 0 = Value.agg #[.string ⟨#[100, 105, 114]⟩, .string ⟨#[100]⟩] := HM.out ⟨0, .data⟩ (by simp) rfl
    obtain ⟨t, e1, ht⟩ := HM.out ⟨5, .data⟩ (by simp) rfl
    replace e1 : f 5 = _ := e1
    have eq : f 6 = Value.agg #[.string ⟨#[117, 115, 101, 114]⟩, .string t2] := HM.out ⟨6, .data⟩ (by simp) rfl
    refine wpOp_hid rfl fun K HK => ?_
    clear ho HM
    simp only [ep, e1, eq]
    go_simp
    exact HK.out _ _ ⟨.agg #[.string ⟨#[100, 105, 114]⟩, .string ⟨#[100]⟩, .string t, .string ⟨#[117, 115, 101, 114]⟩, .string t2, .string ⟨#[]⟩], by simp [upd, ep, e1, eq], ⟨HR.out, HO.out, HP.out⟩, ⟨_, _, _, _, _, _, rfl, by decide, by decide, ht, by decide, ht2, by decide⟩, fun k u hu => hu⟩
  case fin =>
   rintro o ho f w' ⟨hR', hO', hO4'⟩ hall
   have HR : Hid (Rd w' R ad len cap) := hR'
   have HO : Hid (Only R w w') := hO'
   obtain ⟨pa, pb, pr, pc, pd, ps, e1, ha, hb, hr, hc, hd, hs⟩ := hall 7 (by omega)
   replace e1 : f 7 = _ := e1
   replace n0 := (hO4'.cell (o := 0) hnl hnR).trans n0
   replace n1 := (hO4'.cell (o := 1) hnl hnR).trans n1
   replace n2 := (hO4'.cell (o := 2) hnl hnR).trans n2
   replace n3 := (hO4'.cell (o := 3) hnl hnR).trans n3
   replace n4 := (hO4'.cell (o := 4) hnl hnR).trans n4
   replace n5 := (hO4'.cell (o := 5) hnl hnR).trans n5
   replace hnf := fun o => (hO4'.frozen (o := o) hnl hnR).trans (hnf o)
   clear hR' hO' hO4' hall hu0 hu1 hg0 hg1 hd0 hd1 hi0 hi1
   obtain rfl := Option.some.inj ho
   clear ho
   refine wpOp_step rfl (fun K hK => ?_)
   have HK : Hid (∀ a w, _ → K a w) := hK
   clear hK
   simp only [e1]
   go_simp
   refine HK.out _ _ ?_
   clear HK
   go_wp2
   exact bodyPost_ret (v := .agg #[.string pa, .string pb, .string pr, .string pc, .string pd, .string ps]) (by simp [results, Tryz.results51, go_sem, *]) rfl ⟨⟨_, _, _, _, _, _, rfl, ha, hb, hr, hc, hd, hs⟩, ((((((HR.out.setFar hnR (FAR.out _ (Nat.le_refl _))).setFar hnR (FAR.out _ (Nat.le_refl _))).setFar hnR (FAR.out _ (Nat.le_refl _))).setFar hnR (FAR.out _ (Nat.le_refl _))).setFar hnR (FAR.out _ (Nat.le_refl _))).setFar hnR (FAR.out _ (Nat.le_refl _))), ((((((HO.out.setNew (Nat.le_refl _)).setNew (Nat.le_refl _)).setNew (Nat.le_refl _)).setNew (Nat.le_refl _)).setNew (Nat.le_refl _)).setNew (Nat.le_refl _))⟩
 ·go_wp2
  exact bodyPost_ret (v := .agg #[.string ⟨#[100, 111, 99]⟩, .string t1, .string ⟨#[118, 105, 101, 119, 101, 114]⟩, .string ⟨#[117, 115, 101, 114]⟩, .string t2, .string ⟨#[]⟩]) (by simp [results, Tryz.results51, go_sem, *]) rfl ⟨⟨_, _, _, _, _, _, rfl, by decide, ht1, by decide, by decide, ht2, by decide⟩, ((((((HR4.out.setFar hnR (FAR.out _ (Nat.le_refl _))).setFar hnR (FAR.out _ (Nat.le_refl _))).setFar hnR (FAR.out _ (Nat.le_refl _))).setFar hnR (FAR.out _ (Nat.le_refl _))).setFar hnR (FAR.out _ (Nat.le_refl _))).setFar hnR (FAR.out _ (Nat.le_refl _))), ((((((HO4.out.setNew (Nat.le_refl _)).setNew (Nat.le_refl _)).setNew (Nat.le_refl _)).setNew (Nat.le_refl _)).setNew (Nat.le_refl _)).setNew (Nat.le_refl _))⟩
 ·go_wp2
  exact bodyPost_ret (v := .agg #[.string ⟨#[100, 111, 99]⟩, .string t1, .string ⟨#[118, 105, 101, 119, 101, 114]⟩, .string ⟨#[117, 115, 101, 114]⟩, .string t2, .string ⟨#[]⟩]) (by simp [results, Tryz.results51, go_sem, *]) rfl ⟨⟨_, _, _, _, _, _, rfl, by decide, ht1, by decide, by decide, ht2, by decide⟩, ((((((HR4.out.setFar hnR (FAR.out _ (Nat.le_refl _))).setFar hnR (FAR.out _ (Nat.le_refl _))).setFar hnR (FAR.out _ (Nat.le_refl _))).setFar hnR (FAR.out _ (Nat.le_refl _))).setFar hnR (FAR.out _ (Nat.le_refl _))).setFar hnR (FAR.out _ (Nat.le_refl _))), ((((((HO4.out.setNew (Nat.le_refl _)).setNew (Nat.le_refl _)).setNew (Nat.le_refl _)).setNew (Nat.le_refl _)).setNew (Nat.le_refl _)).setNew (Nat.le_refl _))⟩
end Go.Proofs.YtkpefjefodkddaaGreat
