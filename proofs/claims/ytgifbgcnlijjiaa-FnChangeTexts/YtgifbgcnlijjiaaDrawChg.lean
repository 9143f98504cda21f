/- What the drawings of a change and of its text answer: a change of short strings, a short string; nothing that was there is touched. -/
import Derived.Test.YtgifbgcnlijjiaaDrawTups
import Derived.Test.YtgifbgcnlijjiaaHurt
import Derived.Test.YtgifbgcnlijjiaaChgText
namespace Go.Proofs.Ytgifbgcnlijjiaa
open Go.ChangeShapes Go.WideShapes Go.ChangeAt Go.RowKit Go.Maps
open Pl

set_option maxRecDepth 8000 in
set_option maxHeartbeats 4000000 in
theorem tuples4_any (R : Nat) (ad : Option Addr) (len cap : Nat) (w : World) (h : Rd w R ad len cap) :
    Calls Try.prog 37 #[.pointer (some ⟨R, 0, none⟩), .int .i64 4] w fun e w' => (∃ (g c : Nat) (ts : List Tp), e = .returned (.slice (some ⟨g, 0, none⟩) ts.length c) ∧ ts.length ≤ 9 ∧ Short ts ∧ w'.ownsRow w.heap.size 27 6 (.slice (some ⟨g, 0, none⟩) ts.length c) ts.length (rows6 ts)) ∧ Rd w' R ad len cap ∧ Only R w w' := by
  obtain ⟨iT, hiT, zT0, zT1, zT2⟩ := info_parts (P := Try.prog) (e := 27) (z := .agg #[.string ⟨#[]⟩, .string ⟨#[]⟩, .string ⟨#[]⟩, .string ⟨#[]⟩, .string ⟨#[]⟩, .string ⟨#[]⟩]) (size := 6) (bytes := 96) (by kernel_rfl)
  have HIT : Hid (Try.prog.info? 27 = some iT ∧ iT.zero = some (.agg #[.string ⟨#[]⟩, .string ⟨#[]⟩, .string ⟨#[]⟩, .string ⟨#[]⟩, .string ⟨#[]⟩, .string ⟨#[]⟩]) ∧ iT.size = 6 ∧ iT.bytes = 96) := ⟨hiT, zT0, zT1, zT2⟩
  have hRw := h.lt
  have HFAR : Hid (0 < len → ∀ b off, ad = some ⟨b, off, none⟩ → b < w.heap.size) := fun h0 b off e => by
    obtain ⟨b', off', e', -, hbl, -⟩ := h.bytes h0
    rw [e] at e'; injection e' with e'; injection e' with e1 e2; omega
  clear hiT zT0 zT1 zT2
  obtain ⟨W0, hW0⟩ : ∃ W0, W0 = w.alloc (.cells #[] 27) := ⟨_, rfl⟩
  have HLIT : Hid (W0.ownsRow w.heap.size 27 6 (.slice (some ⟨w.heap.size, 0, none⟩) 0 0) 0 (rows6 [])) := by
    show World.ownsRow _ _ _ _ _ _ _
    rw [hW0]; exact World.ownsRow_lit w #[] 0 (Nat.le_refl _) (by unfold maxLen; omega) (by simp)
  have HR0 : Hid (Rd W0 R ad len cap) := by show Rd _ _ _ _ _; rw [hW0]; exact h.alloc _
  have HO0 : Hid (Only R w W0) := by show Only _ _ _; rw [hW0]; exact (Only.refl _ _).alloc _
  clear h
  go_enter Try.func37, Try.ntmps37
  go_wp2_with fail
  rw [← hW0]
  clear hW0
  refine (below_any R ad len cap 5 _ HR0.out (by omega) (by omega)).mono ?_
  rintro e w1 ⟨⟨x, rfl, hx0, hx1⟩, hR1, hO1⟩
  have HR1 := HID hR1
  have HO1 : Hid (Only R w w1) := HO0.out.trans hO1
  have HL1 : Hid (w1.ownsRow w.heap.size 27 6 (.slice (some ⟨w.heap.size, 0, none⟩) 0 0) 0 (rows6 [])) := own_only HLIT.out hRw hO1
  clear hR1 hO1 HLIT HR0 HO0
  go_wp2_with fail
  go_loopw [5, 6] (fun v i wr => ∃ (k : Nat) (ts : List Tp) (g c : Nat), i = .int .i64 k ∧ ts.length + k ≤ 4 ∧ v = .slice (some ⟨g, 0, none⟩) ts.length c ∧ Hid (Short ts) ∧ Hid (wr.ownsRow w.heap.size 27 6 v ts.length (rows6 ts)) ∧ Hid (Rd wr R ad len cap) ∧ Hid (Only R w wr)) (fun _ i _ => (intOf i).toNat)
  case atStart => exact ⟨x.toNat, [], w.heap.size, 0, by rw [Int.toNat_of_nonneg hx0], by simp; omega, rfl, short_nil, HL1, HR1, HO1⟩
  case round =>
    clear HL1 HR1 HO1 hx0 hx1
    obtain ⟨k, ts, g, c, rfl, hk, rfl, HSh, HOw, HR, HO⟩ := hrel
    by_cases hk0 : 0 < k
    · have hk1 : (0 : Int) < (k : Int) := by omega
      go_wp2_with fail
      refine (tuple_any R ad len cap _ HR.out).mono ?_
      rintro e w2 ⟨⟨a, b, r, c2, d, s, rfl, ha, hb, hr, hc, hd, hs⟩, hR2, hO2⟩
      have HR2 := HID hR2
      have HO2 : Hid (Only R w w2) := HO.out.trans hO2
      have hown2 := own_only HOw.out hRw hO2
      obtain ⟨hrow2, hg2, hc2, -⟩ := own_row hown2 rfl
      have HOw2 := HID hown2
      have HT : Hid (Tp.short ⟨a, b, r, c2, d, s⟩) := ⟨ha, hb, hr, hc, hd, hs⟩
      have HA := HID (specAdded_own g 0 c ts ⟨a, b, r, c2, d, s⟩ w2 (by omega) hc2 hrow2 hg2 HSh.out.fits HT.out.fits)
      clear ha hb hr hc hd hs hR2 hO2 hown2 hrow2 hg2 hc2 HR HO HOw
      go_wp2_with fail
      refine HA.out.mono ?_
      rintro e w3 ⟨v3, rfl, hown3, hb3⟩
      have HR3 : Hid (Rd w3 R ad len cap) := HR2.out.below hb3
      have HO3 : Hid (Only R w w3) := HO2.out.below hb3
      cases hq : addB ts ⟨a, b, r, c2, d, s⟩ with
      | true =>
        rw [addL_yes hq, putT_size] at hown3
        obtain ⟨g3, c3, rfl⟩ := ownsRow_succ3 hown3
        have HOw3 : Hid (w3.ownsRow w.heap.size 27 6 (.slice (some ⟨g3, 0, none⟩) (ts.length + 1) c3) (ts.length + 1) (rows6 (putT ts ⟨a, b, r, c2, d, s⟩))) := ownsRow_base hown3 HO2.out.size
        have HSh3 : Hid (Short (putT ts ⟨a, b, r, c2, d, s⟩)) := HSh.out.put HT.out
        have hlp := putT_size ts ⟨a, b, r, c2, d, s⟩
        have HLP := HID hlp
        have HQ := HID hq
        clear hown3 hb3 hq hlp HA HOw2 HR2 HO2
        go_wp2
        go_roundw
        case rel => exact ⟨k - 1, putT ts ⟨a, b, r, c2, d, s⟩, g3, c3, by rw [show ((k - 1 : Nat) : Int) = (k : Int) - 1 by omega], by rw [HLP.out]; omega, by rw [HLP.out], HSh3, by rw [HLP.out]; exact HOw3, HR3, HO3⟩
        case measure => simp [intOf]; omega
      | false =>
        have HOw3 : Hid (w3.ownsRow w.heap.size 27 6 (.slice (some ⟨g, 0, none⟩) ts.length c) ts.length (rows6 ts)) := HOw2.out.kept (row := none) ⟨hb3.os, hb3.tape, hb3.output, hb3.size, fun i hi _ => hb3.block i hi⟩ (.inr (by simp [Value.ownBlock]))
        rw [addL_no hq] at hown3
        obtain ⟨ad3, cap3, hv3, -, -⟩ := ownsT (ts := []) hown3 rfl
        subst hv3
        have HQ := HID hq
        clear hown3 hb3 hq HA HOw2 HR2 HO2
        go_wp2
        go_roundw
        case rel => exact ⟨k - 1, ts, g, c, by rw [show ((k - 1 : Nat) : Int) = (k : Int) - 1 by omega], by omega, rfl, HSh, HOw3, HR3, HO3⟩
        case measure => simp [intOf]; omega
    · obtain rfl : k = 0 := by omega
      go_wp2_with fail
      refine (once_any R ad len cap 40 _ HR.out (by omega) (by omega)).mono ?_
      rintro e w2 ⟨⟨q, rfl⟩, hR2, hO2⟩
      have HR2 := HID hR2
      have HO2 : Hid (Only R w w2) := HO.out.trans hO2
      have HOw2 := HID (own_only HOw.out hRw hO2)
      clear hR2 hO2 HR HO HOw
      cases q with
      | false =>
        go_wp2
        go_ret
        exact ⟨⟨g, c, ts, rfl, by omega, HSh.out, HOw2.out⟩, HR2.out, HO2.out⟩
      | true =>
        go_wp2_with fail
        refine (tuple_any R ad len cap _ HR2.out).mono ?_
        rintro e w3 ⟨⟨a, b, r, c2, d, s, rfl, ha, hb, hr, hc, hd, hs⟩, hR3, hO3⟩
        have HT : Hid (Tp.short ⟨a, b, r, c2, d, s⟩) := ⟨ha, hb, hr, hc, hd, hs⟩
        have HOw3 := HID (own_only HOw2.out hRw hO3)
        have HR3 := HID hR3
        have HO3 : Hid (Only R w w3) := HO2.out.trans hO3
        clear ha hb hr hc hd hs hR3 hO3 HR2 HO2 HOw2
        obtain ⟨W4, hW4⟩ : ∃ W4, W4 = w3.alloc (.cells #[.string a, .string b, .string r, .string c2, .string d, .string s] 27) := ⟨_, rfl⟩
        have HOw4 : Hid (W4.ownsRow w.heap.size 27 6 (.slice (some ⟨g, 0, none⟩) ts.length c) ts.length (rows6 ts)) := by show World.ownsRow _ _ _ _ _ _ _; rw [hW4]; exact HOw3.out.alloc _
        have HNW : Hid (∀ j u, (Tp.row ⟨a, b, r, c2, d, s⟩)[j]? = some u → W4.cell? ((⟨w3.heap.size, 0, none⟩ : Addr).add j) = some u) := by show ∀ j u, _; rw [hW4]; exact row6_news w3 ⟨a, b, r, c2, d, s⟩
        have HR4 : Hid (Rd W4 R ad len cap) := by show Rd _ _ _ _ _; rw [hW4]; exact HR3.out.alloc _
        have HO4 : Hid (Only R w W4) := by show Only _ _ _; rw [hW4]; exact HO3.out.alloc _
        clear HR3 HO3
        go_wp2_with (at_builtin; rw [← hW4]; clear hW4; refine wpList_append_own_at _ rfl _ _ 35 rfl w.heap.size 27 iT (.agg #[.string ⟨#[]⟩, .string ⟨#[]⟩, .string ⟨#[]⟩, .string ⟨#[]⟩, .string ⟨#[]⟩, .string ⟨#[]⟩]) 6 96 Try.underlying35 HIT.out.1 HIT.out.2.1 HIT.out.2.2.1 HIT.out.2.2.2 rfl (by decide) _ _ (rows6 ts) rfl HOw4.out ⟨w3.heap.size, 0, none⟩ 1 1 (Tp.row ⟨a, b, r, c2, d, s⟩) rfl rfl HNW.out (row6_one _) (by unfold maxLen; omega) (by omega) (by have := HO4.out.size; omega) ?_)
        intro v5 w5 hown5 hgr5 _ _
        obtain ⟨g5, c5, rfl⟩ := ownsRow_succ3 hown5
        have hne : Value.ownBlock (.slice (some ⟨g, 0, none⟩) ts.length c) ≠ some R := fun e => by have := (HOw4.out.lt R e).1; omega
        have HR5 : Hid (Rd w5 R ad len cap) := HR4.out.grown hgr5 (fun e => hne e.symm) (fun h0 b off e eb => by
          have := (HOw4.out.lt b eb.symm).1
          have := HFAR.out h0 b off e
          omega)
        have HO5 : Hid (Only R w w5) := HO4.out.grownNew hgr5 (fun g' e => (HOw4.out.lt g' e).1)
        have HOw5 : Hid (w5.ownsRow w.heap.size 27 6 (.slice (some ⟨g5, 0, none⟩) (ts.length + 1) c5) (ts.length + 1) (rows6 (ts ++ [⟨a, b, r, c2, d, s⟩]))) := by
          show World.ownsRow _ _ _ _ _ _ _; rw [rows6_snoc]; exact hown5
        clear hown5 hgr5 hne
        go_wp2
        go_ret
        exact ⟨⟨g5, c5, ts ++ [⟨a, b, r, c2, d, s⟩], by rw [List.length_append]; rfl, by simp; omega, fun t ht => by
          rcases List.mem_append.1 ht with h | h
          · exact HSh.out t h
          · rw [List.mem_singleton.1 h]; exact HT.out, by rw [List.length_append]; exact HOw5.out⟩, HR5.out, HO5.out⟩
set_option maxHeartbeats 4000000 in
theorem drawWord_any (R : Nat) (ad : Option Addr) (len cap : Nat) (w : World) (h : Rd w R ad len cap) :
    Calls Try.prog 89 #[.pointer (some ⟨R, 0, none⟩)] w fun e w' => (∃ x : Int, e = .returned (.int .u64 x)) ∧ Rd w' R ad len cap ∧ Only R w w' := by
  have H := HID h
  clear h
  go_enter Try.func89, Try.ntmps89
  go_wp2
  go_loopw [3, 4] (fun v i wr => ∃ (x : Int) (k : Nat), v = .int .u64 x ∧ i = .int .i64 (k : Int) ∧ k ≤ 8 ∧ Hid (Rd wr R ad len cap) ∧ Hid (Only R w wr)) (fun _ i _ => 8 - (intOf i).toNat)
  case atStart => exact ⟨0, 0, rfl, rfl, by omega, H, Only.refl _ _⟩
  case round =>
    obtain ⟨x, k, rfl, rfl, hk, HR, HO⟩ := hrel
    by_cases hlt : k < 8
    · have hk1 : (k : Int) < 8 := by omega
      go_wp2_with fail
      refine (next_any R ad len cap _ HR.out).mono ?_
      rintro e w1 ⟨⟨y, rfl, hy0, hy1⟩, hR1, hO1⟩
      have HR1 := HID hR1
      have HO1 : Hid (Only R w w1) := HO.out.trans hO1
      clear hR1 hO1
      go_wp2
      go_roundw
      case rel => exact ⟨_, k + 1, rfl, by go_num, by omega, HR1, HO1⟩
      case measure => first | (simp [intOf]; done) | (simp [intOf]; omega)
    · have hk1 : ¬ (k : Int) < 8 := by omega
      go_wp2
      go_ret
      exact ⟨⟨x, rfl⟩, HR.out, HO.out⟩
set_option maxHeartbeats 4000000 in
theorem near12_any (R : Nat) (ad : Option Addr) (len cap : Nat) (w : World) (h : Rd w R ad len cap) :
    Calls Try.prog 79 #[.pointer (some ⟨R, 0, none⟩), .int .i64 1, .int .i64 2] w fun e w' => (∃ x : Int, e = .returned (.int .i64 x)) ∧ Rd w' R ad len cap ∧ Only R w w' := by
  have H := HID h
  clear h
  go_enter Try.func79, Try.ntmps79
  go_wp2_with fail
  refine (below_any R ad len cap 8 _ H.out (by omega) (by omega)).mono ?_
  rintro e w1 ⟨⟨x, rfl, hx0', hx1'⟩, hR1, hO1⟩
  obtain ⟨x, rfl⟩ : ∃ y : Nat, x = (y : Int) := ⟨x.toNat, by omega⟩
  have hx : x < 8 := by omega
  clear hx0' hx1'
  have HR1 := HID hR1
  have HO1 := HID hO1
  clear hR1 hO1
  by_cases h0 : x = 0
  · subst h0
    go_wp2
    go_ret
    exact ⟨⟨_, rfl⟩, HR1.out, HO1.out⟩
  · have h00 : ((x : Int) == 0) = false := by simp; omega
    by_cases h1 : x = 1
    · subst h1
      go_wp2
      go_ret
      exact ⟨⟨_, rfl⟩, HR1.out, HO1.out⟩
    · have h11 : ((x : Int) == 1) = false := by simp; omega
      go_wp2_with fail
      refine (drawWord_any R ad len cap _ HR1.out).mono ?_
      rintro e w2 ⟨⟨y, rfl⟩, hR2, hO2⟩
      have HR2 := HID hR2
      have HO2 : Hid (Only R w w2) := HO1.out.trans hO2
      clear hR2 hO2
      go_wp2
      go_ret
      exact ⟨⟨_, rfl⟩, HR2.out, HO2.out⟩
set_option maxHeartbeats 4000000 in
theorem off12_any (R : Nat) (ad : Option Addr) (len cap : Nat) (w : World) (h : Rd w R ad len cap) :
    Calls Try.prog 62 #[.pointer (some ⟨R, 0, none⟩), .int .i64 1, .int .i64 2] w fun e w' => (∃ x : Int, e = .returned (.int .i64 x)) ∧ Rd w' R ad len cap ∧ Only R w w' := by
  have H := HID h
  clear h
  go_enter Try.func62, Try.ntmps62
  go_wp2_with fail
  refine (once_any R ad len cap 24 _ H.out (by omega) (by omega)).mono ?_
  rintro e w1 ⟨⟨q, rfl⟩, hR1, hO1⟩
  have HR1 := HID hR1
  have HO1 := HID hO1
  have hRw := hR1.lt
  clear hR1 hO1
  cases q with
  | false =>
    go_wp2_with fail
    refine (near12_any R ad len cap _ HR1.out).mono ?_
    rintro e w2 ⟨⟨y, rfl⟩, hR2, hO2⟩
    have HR2 := HID hR2
    have HO2 : Hid (Only R w w2) := HO1.out.trans hO2
    clear hR2 hO2
    go_wp2
    go_ret
    exact ⟨⟨_, rfl⟩, HR2.out, HO2.out⟩
  | true =>
    obtain ⟨W0, hW0⟩ : ∃ W0, W0 = w1.alloc (.cells #[.int .i64 0, .int .i64 3, .int .i64 (-9223372036854775808), .int .i64 9223372036854775807] 2) := ⟨_, rfl⟩
    have HR0 : Hid (Rd W0 R ad len cap) := by show Rd _ _ _ _ _; rw [hW0]; exact HR1.out.alloc _
    have HO0 : Hid (Only R w W0) := by show Only _ _ _; rw [hW0]; exact HO1.out.alloc _
    have HC0 : Hid (w1.heap.size < W0.heap.size ∧ ∀ o, o < 4 → ∃ z : Int, W0.cell? ⟨w1.heap.size, o, none⟩ = some (.int .i64 z)) := by
      show _ ∧ _
      rw [hW0]
      refine ⟨by simp, fun o ho => ?_⟩
      have : o = 0 ∨ o = 1 ∨ o = 2 ∨ o = 3 := by omega
      rcases this with rfl | rfl | rfl | rfl <;> exact ⟨_, by simp; rfl⟩
    go_wp2_with fail
    rw [← hW0]; clear hW0
    refine (below_any R ad len cap 4 _ HR0.out (by omega) (by omega)).mono ?_
    rintro e w2 ⟨⟨x, rfl, hx0', hx1'⟩, hR2, hO2⟩
    obtain ⟨x, rfl⟩ : ∃ y : Nat, x = (y : Int) := ⟨x.toNat, by omega⟩
    have hx : x < 4 := by omega
    clear hx0' hx1'
    obtain ⟨z, hz⟩ := HC0.out.2 x hx
    have hz2 : w2.cell? ⟨w1.heap.size, x, none⟩ = some (.int .i64 z) := by rw [hO2.cell HC0.out.1 (by omega)]; exact hz
    have HR2 := HID hR2
    have HO2 : Hid (Only R w w2) := HO0.out.trans hO2
    have hx0 : (0 : Int) ≤ (x : Int) := by omega
    have hx1 : (x : Int) < 4 := by omega
    clear hR2 hO2 hz HC0 HR0 HO0
    go_wp2
    go_ret
    exact ⟨⟨z, rfl⟩, HR2.out, HO2.out⟩

/-- seven cells that hold a change, away from the reader -/
def Sev (w : World) (R n : Nat) (k : Int) (a b r c d s : ByteArray) : Prop := n ≠ R ∧ n < w.heap.size ∧ (∀ o, w.frozen? ⟨n, o, none⟩ = false) ∧ w.cell? ⟨n, 0, none⟩ = some (.int .i64 k) ∧ w.cell? ⟨n, 1, none⟩ = some (.string a) ∧ w.cell? ⟨n, 2, none⟩ = some (.string b) ∧ w.cell? ⟨n, 3, none⟩ = some (.string r) ∧ w.cell? ⟨n, 4, none⟩ = some (.string c) ∧ w.cell? ⟨n, 5, none⟩ = some (.string d) ∧ w.cell? ⟨n, 6, none⟩ = some (.string s)
theorem Sev.only {w w' : World} {R n : Nat} {k : Int} {a b r c d s : ByteArray} (h : Sev w R n k a b r c d s) (hO : Only R w w') : Sev w' R n k a b r c d s := by
  obtain ⟨h1, h2, h3, c0, c1, c2, c3, c4, c5, c6⟩ := h
  have hc := fun o => hO.cell (b := n) (o := o) h2 h1
  exact ⟨h1, Nat.lt_of_lt_of_le h2 hO.size, fun o => (hO.frozen (o := o) h2 h1).trans (h3 o), (hc 0).trans c0, (hc 1).trans c1, (hc 2).trans c2, (hc 3).trans c3, (hc 4).trans c4, (hc 5).trans c5, (hc 6).trans c6⟩
theorem Sev.alloc {w : World} {R n : Nat} {k : Int} {a b r c d s : ByteArray} (h : Sev w R n k a b r c d s) (o : Obj) : Sev (w.alloc o) R n k a b r c d s := h.only ((Only.refl R w).alloc o)
theorem sev_new {w : World} {R : Nat} (hR : R < w.heap.size) (t : TypeId) (k : Int) (a b r c d s : ByteArray) : Sev (w.alloc (.cells #[.int .i64 k, .string a, .string b, .string r, .string c, .string d, .string s] t)) R w.heap.size k a b r c d s := by
  refine ⟨by omega, by simp, fun o => by simp, ?_, ?_, ?_, ?_, ?_, ?_, ?_⟩ <;> simp
theorem setc {w : World} {n m i j : Nat} {v : Value} (h : n ≠ m ∨ i ≠ j) : (w.setCell ⟨n, i, none⟩ v).cell? ⟨m, j, none⟩ = w.cell? ⟨m, j, none⟩ := by
  apply World.cell?_setCell_other
  intro e
  have e1 := congrArg Addr.block e
  have e2 := congrArg Addr.off e
  rcases h with h | h
  · exact h e1
  · exact h e2
theorem setsame {w : World} {a : Addr} {v u : Value} (h : w.cell? a = some u) : (w.setCell a v).cell? a = some v := World.cell?_setCell_same _ _ _ h
theorem Sev.set {w : World} {R n : Nat} {k k' : Int} {a b r c d s a' b' r' c' d' s' : ByteArray} (h : Sev w R n k a b r c d s) : Sev (((((((w.setCell ⟨n, 0, none⟩ (.int .i64 k')).setCell ⟨n, 1, none⟩ (.string a')).setCell ⟨n, 2, none⟩ (.string b')).setCell ⟨n, 3, none⟩ (.string r')).setCell ⟨n, 4, none⟩ (.string c')).setCell ⟨n, 5, none⟩ (.string d')).setCell ⟨n, 6, none⟩ (.string s')) R n k' a' b' r' c' d' s' := by
  obtain ⟨h1, h2, h3, c0, c1, c2, c3, c4, c5, c6⟩ := h
  refine ⟨h1, by simpa using h2, fun o => by simpa using h3 o, ?_, ?_, ?_, ?_, ?_, ?_, ?_⟩
  · rw [setc (.inr (by omega))]; rw [setc (.inr (by omega))]; rw [setc (.inr (by omega))]; rw [setc (.inr (by omega))]; rw [setc (.inr (by omega))]; rw [setc (.inr (by omega))]; exact setsame (u := _) (by exact c0)
  · rw [setc (.inr (by omega))]; rw [setc (.inr (by omega))]; rw [setc (.inr (by omega))]; rw [setc (.inr (by omega))]; rw [setc (.inr (by omega))]; exact setsame (u := _) (by rw [setc (.inr (by omega))]; exact c1)
  · rw [setc (.inr (by omega))]; rw [setc (.inr (by omega))]; rw [setc (.inr (by omega))]; rw [setc (.inr (by omega))]; exact setsame (u := _) (by rw [setc (.inr (by omega))]; rw [setc (.inr (by omega))]; exact c2)
  · rw [setc (.inr (by omega))]; rw [setc (.inr (by omega))]; rw [setc (.inr (by omega))]; exact setsame (u := _) (by rw [setc (.inr (by omega))]; rw [setc (.inr (by omega))]; rw [setc (.inr (by omega))]; exact c3)
  · rw [setc (.inr (by omega))]; rw [setc (.inr (by omega))]; exact setsame (u := _) (by rw [setc (.inr (by omega))]; rw [setc (.inr (by omega))]; rw [setc (.inr (by omega))]; rw [setc (.inr (by omega))]; exact c4)
  · rw [setc (.inr (by omega))]; exact setsame (u := _) (by rw [setc (.inr (by omega))]; rw [setc (.inr (by omega))]; rw [setc (.inr (by omega))]; rw [setc (.inr (by omega))]; rw [setc (.inr (by omega))]; exact c5)
  · exact setsame (u := _) (by rw [setc (.inr (by omega))]; rw [setc (.inr (by omega))]; rw [setc (.inr (by omega))]; rw [setc (.inr (by omega))]; rw [setc (.inr (by omega))]; rw [setc (.inr (by omega))]; exact c6)
theorem Sev.setOther {w : World} {R n m : Nat} {k k' : Int} {a b r c d s a' b' r' c' d' s' : ByteArray} (h : Sev w R m k a b r c d s) (hn : n ≠ m) : Sev (((((((w.setCell ⟨n, 0, none⟩ (.int .i64 k')).setCell ⟨n, 1, none⟩ (.string a')).setCell ⟨n, 2, none⟩ (.string b')).setCell ⟨n, 3, none⟩ (.string r')).setCell ⟨n, 4, none⟩ (.string c')).setCell ⟨n, 5, none⟩ (.string d')).setCell ⟨n, 6, none⟩ (.string s')) R m k a b r c d s := by
  obtain ⟨h1, h2, h3, c0, c1, c2, c3, c4, c5, c6⟩ := h
  refine ⟨h1, by simpa using h2, fun o => by simpa using h3 o, ?_, ?_, ?_, ?_, ?_, ?_, ?_⟩
  · rw [setc (.inl hn)]; rw [setc (.inl hn)]; rw [setc (.inl hn)]; rw [setc (.inl hn)]; rw [setc (.inl hn)]; rw [setc (.inl hn)]; rw [setc (.inl hn)]; exact c0
  · rw [setc (.inl hn)]; rw [setc (.inl hn)]; rw [setc (.inl hn)]; rw [setc (.inl hn)]; rw [setc (.inl hn)]; rw [setc (.inl hn)]; rw [setc (.inl hn)]; exact c1
  · rw [setc (.inl hn)]; rw [setc (.inl hn)]; rw [setc (.inl hn)]; rw [setc (.inl hn)]; rw [setc (.inl hn)]; rw [setc (.inl hn)]; rw [setc (.inl hn)]; exact c2
  · rw [setc (.inl hn)]; rw [setc (.inl hn)]; rw [setc (.inl hn)]; rw [setc (.inl hn)]; rw [setc (.inl hn)]; rw [setc (.inl hn)]; rw [setc (.inl hn)]; exact c3
  · rw [setc (.inl hn)]; rw [setc (.inl hn)]; rw [setc (.inl hn)]; rw [setc (.inl hn)]; rw [setc (.inl hn)]; rw [setc (.inl hn)]; rw [setc (.inl hn)]; exact c4
  · rw [setc (.inl hn)]; rw [setc (.inl hn)]; rw [setc (.inl hn)]; rw [setc (.inl hn)]; rw [setc (.inl hn)]; rw [setc (.inl hn)]; rw [setc (.inl hn)]; exact c5
  · rw [setc (.inl hn)]; rw [setc (.inl hn)]; rw [setc (.inl hn)]; rw [setc (.inl hn)]; rw [setc (.inl hn)]; rw [setc (.inl hn)]; rw [setc (.inl hn)]; exact c6
theorem only_set7 {w a0 : World} {R n : Nat} {k' : Int} {a' b' r' c' d' s' : ByteArray} (h : Only R a0 w) (hn : a0.heap.size ≤ n) : Only R a0 (((((((w.setCell ⟨n, 0, none⟩ (.int .i64 k')).setCell ⟨n, 1, none⟩ (.string a')).setCell ⟨n, 2, none⟩ (.string b')).setCell ⟨n, 3, none⟩ (.string r')).setCell ⟨n, 4, none⟩ (.string c')).setCell ⟨n, 5, none⟩ (.string d')).setCell ⟨n, 6, none⟩ (.string s')) :=
  ((((((h.setNew hn).setNew hn).setNew hn).setNew hn).setNew hn).setNew hn).setNew hn
theorem rd_set7 {w : World} {R n : Nat} {ad : Option Addr} {len cap : Nat} {k' : Int} {a' b' r' c' d' s' : ByteArray} (h : Rd w R ad len cap) (hn : n ≠ R) (hb : 0 < len → ∀ b off, ad = some ⟨b, off, none⟩ → b ≠ n) : Rd (((((((w.setCell ⟨n, 0, none⟩ (.int .i64 k')).setCell ⟨n, 1, none⟩ (.string a')).setCell ⟨n, 2, none⟩ (.string b')).setCell ⟨n, 3, none⟩ (.string r')).setCell ⟨n, 4, none⟩ (.string c')).setCell ⟨n, 5, none⟩ (.string d')).setCell ⟨n, 6, none⟩ (.string s')) R ad len cap :=
  ((((((h.setFar hn hb).setFar hn hb).setFar hn hb).setFar hn hb).setFar hn hb).setFar hn hb).setFar hn hb

/-- what the drawing of a change answers -/
def CPost (R : Nat) (ad : Option Addr) (len cap : Nat) (w : World) (e : Ending) (w' : World) : Prop := (∃ (k : Int) (a b r c d s : ByteArray), e = .returned (.agg #[.int .i64 k, .string a, .string b, .string r, .string c, .string d, .string s]) ∧ a.size ≤ 20 ∧ b.size ≤ 20 ∧ r.size ≤ 20 ∧ c.size ≤ 20 ∧ d.size ≤ 20 ∧ s.size ≤ 20) ∧ Rd w' R ad len cap ∧ Only R w w'

theorem cpost_mk {R : Nat} {ad : Option Addr} {len cap : Nat} {w w' : World} {k : Int} {a b r c d s : ByteArray} (ht : a.size ≤ 20 ∧ b.size ≤ 20 ∧ r.size ≤ 20 ∧ c.size ≤ 20 ∧ d.size ≤ 20 ∧ s.size ≤ 20) (hR : Rd w' R ad len cap) (hO : Only R w w') : CPost R ad len cap w (.returned (.agg #[.int .i64 k, .string a, .string b, .string r, .string c, .string d, .string s])) w' := ⟨⟨k, a, b, r, c, d, s, rfl, ht⟩, hR, hO⟩

set_option maxHeartbeats 4000000 in
theorem change_any (R : Nat) (ad : Option Addr) (len cap g c0 : Nat) (ts : List Tp) (w : World) (h : Rd w R ad len cap) (hlen : ts.length ≤ 9) (hsh : Short ts) (hrow : Row6 w g 0 ts) (hg : g < w.heap.size) (hgR : g ≠ R) :
    Calls Try.prog 36 #[.pointer (some ⟨R, 0, none⟩), .slice (some ⟨g, 0, none⟩) ts.length c0] w fun e w' => CPost R ad len cap w e w' := by
  have hRw := h.lt
  have HFAR : Hid (0 < len → ∀ b off, ad = some ⟨b, off, none⟩ → b < w.heap.size) := fun h0 b off e => by
    obtain ⟨b', off', e', -, hbl, -⟩ := h.bytes h0
    rw [e] at e'; injection e' with e'; injection e' with e1 e2; omega
  obtain ⟨W0, hW0⟩ : ∃ W0, W0 = w.alloc (.cells #[.int .i64 0, .string ⟨#[]⟩, .string ⟨#[]⟩, .string ⟨#[]⟩, .string ⟨#[]⟩, .string ⟨#[]⟩, .string ⟨#[]⟩] 29) := ⟨_, rfl⟩
  have HS0 : Hid (Sev W0 R w.heap.size 0 ⟨#[]⟩ ⟨#[]⟩ ⟨#[]⟩ ⟨#[]⟩ ⟨#[]⟩ ⟨#[]⟩) := by show Sev _ _ _ _ _ _ _ _ _ _; rw [hW0]; exact sev_new hRw _ _ _ _ _ _ _ _
  have HR0 : Hid (Rd W0 R ad len cap) := by show Rd _ _ _ _ _; rw [hW0]; exact h.alloc _
  have HO0 : Hid (Only R w W0) := by show Only _ _ _; rw [hW0]; exact (Only.refl _ _).alloc _
  have HRow : Hid (∀ W, Only R w W → Row6 W g 0 ts) := fun W hO i hi => by
    obtain ⟨x0, x1, x2, x3, x4, x5⟩ := hrow i hi
    have hc := fun o => hO.cell (b := g) (o := o) hg hgR
    exact ⟨(hc _).trans x0, (hc _).trans x1, (hc _).trans x2, (hc _).trans x3, (hc _).trans x4, (hc _).trans x5⟩
  have HSH : Hid (Short ts) := hsh
  clear h hrow hsh
  go_enter Try.func36, Try.ntmps36
  go_wp2_with fail
  rw [← hW0]
  clear hW0
  refine (tuple_any R ad len cap _ HR0.out).mono ?_
  rintro e w1 ⟨⟨a, b, r, c, d, s, rfl, ha, hb, hr, hc, hd, hs⟩, hR1, hO1⟩
  have HT : Hid (a.size ≤ 20 ∧ b.size ≤ 20 ∧ r.size ≤ 20 ∧ c.size ≤ 20 ∧ d.size ≤ 20 ∧ s.size ≤ 20) := ⟨ha, hb, hr, hc, hd, hs⟩
  obtain ⟨W1, hW1⟩ : ∃ W1, W1 = w1.alloc (.cells #[.int .i64 1, .string a, .string b, .string r, .string c, .string d, .string s] 29) := ⟨_, rfl⟩
  have HS1 : Hid (Sev W1 R w.heap.size 0 ⟨#[]⟩ ⟨#[]⟩ ⟨#[]⟩ ⟨#[]⟩ ⟨#[]⟩ ⟨#[]⟩) := by show Sev _ _ _ _ _ _ _ _ _ _; rw [hW1]; exact (HS0.out.only hO1).alloc _
  have HC1 : Hid (Sev W1 R w1.heap.size 1 a b r c d s) := by show Sev _ _ _ _ _ _ _ _ _ _; rw [hW1]; exact sev_new hR1.lt _ _ _ _ _ _ _ _
  have HR1 : Hid (Rd W1 R ad len cap) := by show Rd _ _ _ _ _; rw [hW1]; exact hR1.alloc _
  have HO1 : Hid (Only R w W1) := by show Only _ _ _; rw [hW1]; exact (HO0.out.trans hO1).alloc _
  have hBw : w.heap.size < w1.heap.size := by have := HS0.out.2.1; have := hO1.size; omega
  clear ha hb hr hc hd hs hR1 hO1 HR0 HO0 HS0
  by_cases hts : ts.length = 0
  · have hdc : decide ((0 : Int) < (ts.length : Int)) = false := by simp [hts]
    have hdc2 : decide (0 < ts.length) = false := by simp [hts]
    clear hts
    go_wp2_with fail
    rw [← hW1]
    clear hW1
    refine (once_any R ad len cap 20 _ HR1.out (by omega) (by omega)).mono ?_
    rintro e w5 ⟨⟨q2, rfl⟩, hR5, hO5⟩
    have HS5 := HID (HS1.out.only hO5)
    have HC5 := HID (HC1.out.only hO5)
    have HR5 := HID hR5
    have HO5 : Hid (Only R w w5) := HO1.out.trans hO5
    clear hR5 hO5 HS1 HC1 HR1 HO1
    cases q2 with
    | false =>
      obtain ⟨s1, s2, s3, d0, d1, d2, d3, d4, d5, d6⟩ := HS5.out
      obtain ⟨t1, t2, t3, e0, e1, e2, e3, e4, e5, e6⟩ := HC5.out
      go_wp2
      exact bodyPost_ret (v := .agg #[.int .i64 1, .string a, .string b, .string r, .string c, .string d, .string s]) (by simp [results, Try.results36, go_sem, *]) rfl (cpost_mk HT.out (rd_set7 HR5.out s1 (fun h0 b off e eb => by have := HFAR.out h0 b off e; omega)) (only_set7 HO5.out (Nat.le_refl _)))
    | true =>
      go_wp2_with fail
      refine (off12_any R ad len cap _ HR5.out).mono ?_
      rintro e w6 ⟨⟨z, rfl⟩, hR6, hO6⟩
      have HR6 := HID hR6
      have HO6 : Hid (Only R w w6) := HO5.out.trans hO6
      obtain ⟨s1, s2, s3, d0, d1, d2, d3, d4, d5, d6⟩ := HS5.out.only hO6
      obtain ⟨t1, t2, t3, e0, e1, e2, e3, e4, e5, e6⟩ := HC5.out.only hO6
      clear hR6 hO6 HS5 HC5 HR5 HO5
      go_wp2
      exact bodyPost_ret (v := .agg #[.int .i64 z, .string a, .string b, .string r, .string c, .string d, .string s]) (by simp [results, Try.results36, go_sem, *]) rfl (cpost_mk HT.out (rd_set7 (HR6.out.setFar t1 (fun h0 b off e eb => by have := HFAR.out h0 b off e; omega)) s1 (fun h0 b off e eb => by have := HFAR.out h0 b off e; omega)) (only_set7 (HO6.out.setNew (by omega)) (Nat.le_refl _)))
  · have hdc : decide ((0 : Int) < (ts.length : Int)) = true := by simp; omega
    have hdc2 : decide (0 < ts.length) = true := by simp; omega
    go_wp2_with fail
    rw [← hW1]
    clear hW1
    refine (once_any R ad len cap 3 _ HR1.out (by omega) (by omega)).mono ?_
    rintro e w2 ⟨⟨q1, rfl⟩, hR2, hO2⟩
    have HS2 := HID (HS1.out.only hO2)
    have HC2 := HID (HC1.out.only hO2)
    have HR2 := HID hR2
    have HO2 : Hid (Only R w w2) := HO1.out.trans hO2
    clear hR2 hO2 HS1 HC1 HR1 HO1
    cases q1 with
    | false =>
      go_wp2_with fail
      refine (once_any R ad len cap 20 _ HR2.out (by omega) (by omega)).mono ?_
      rintro e w5 ⟨⟨q2, rfl⟩, hR5, hO5⟩
      have HS5 := HID (HS2.out.only hO5)
      have HC5 := HID (HC2.out.only hO5)
      have HR5 := HID hR5
      have HO5 : Hid (Only R w w5) := HO2.out.trans hO5
      clear hR5 hO5 HS2 HC2 HR2 HO2
      cases q2 with
      | false =>
        obtain ⟨s1, s2, s3, d0, d1, d2, d3, d4, d5, d6⟩ := HS5.out
        obtain ⟨t1, t2, t3, e0, e1, e2, e3, e4, e5, e6⟩ := HC5.out
        go_wp2
        exact bodyPost_ret (v := .agg #[.int .i64 1, .string a, .string b, .string r, .string c, .string d, .string s]) (by simp [results, Try.results36, go_sem, *]) rfl (cpost_mk HT.out (rd_set7 HR5.out s1 (fun h0 b off e eb => by have := HFAR.out h0 b off e; omega)) (only_set7 HO5.out (Nat.le_refl _)))
      | true =>
        go_wp2_with fail
        refine (off12_any R ad len cap _ HR5.out).mono ?_
        rintro e w6 ⟨⟨z, rfl⟩, hR6, hO6⟩
        have HR6 := HID hR6
        have HO6 : Hid (Only R w w6) := HO5.out.trans hO6
        obtain ⟨s1, s2, s3, d0, d1, d2, d3, d4, d5, d6⟩ := HS5.out.only hO6
        obtain ⟨t1, t2, t3, e0, e1, e2, e3, e4, e5, e6⟩ := HC5.out.only hO6
        clear hR6 hO6 HS5 HC5 HR5 HO5
        go_wp2
        exact bodyPost_ret (v := .agg #[.int .i64 z, .string a, .string b, .string r, .string c, .string d, .string s]) (by simp [results, Try.results36, go_sem, *]) rfl (cpost_mk HT.out (rd_set7 (HR6.out.setFar t1 (fun h0 b off e eb => by have := HFAR.out h0 b off e; omega)) s1 (fun h0 b off e eb => by have := HFAR.out h0 b off e; omega)) (only_set7 (HO6.out.setNew (by omega)) (Nat.le_refl _)))
    | true =>
      go_wp2_with fail
      refine (below_all R ad len cap ts.length _ HR2.out (by omega) (by omega)).mono ?_
      rintro e w3 ⟨⟨x, rfl, hx⟩, hR3, hO3⟩
      have HS3 := HID (HS2.out.only hO3)
      have HC3 := HID (HC2.out.only hO3)
      have HR3 := HID hR3
      have HO3 : Hid (Only R w w3) := HO2.out.trans hO3
      obtain ⟨x0, x1, x2, x3, x4, x5⟩ := HRow.out w3 HO3.out x hx
      rw [Nat.zero_add] at x0 x1 x2 x3 x4 x5
      have HTX : Hid (ts[x].a.size ≤ 20 ∧ ts[x].b.size ≤ 20 ∧ ts[x].r.size ≤ 20 ∧ ts[x].c.size ≤ 20 ∧ ts[x].d.size ≤ 20 ∧ ts[x].s.size ≤ 20) := HSH.out _ (List.getElem_mem hx)
      have j0 : (0 : Int) ≤ (x : Int) := by omega
      have j1 : (x : Int) < (ts.length : Int) := by omega
      obtain ⟨t1, t2, t3, e0, e1, e2, e3, e4, e5, e6⟩ := HC3.out
      obtain ⟨W3, hW3⟩ : ∃ W3, W3 = (((((((w3.setCell ⟨w1.heap.size, 0, none⟩ (.int .i64 2)).setCell ⟨w1.heap.size, 1, none⟩ (.string ts[x].a)).setCell ⟨w1.heap.size, 2, none⟩ (.string ts[x].b)).setCell ⟨w1.heap.size, 3, none⟩ (.string ts[x].r)).setCell ⟨w1.heap.size, 4, none⟩ (.string ts[x].c)).setCell ⟨w1.heap.size, 5, none⟩ (.string ts[x].d)).setCell ⟨w1.heap.size, 6, none⟩ (.string ts[x].s)) := ⟨_, rfl⟩
      have HSW : Hid (Sev W3 R w.heap.size 0 ⟨#[]⟩ ⟨#[]⟩ ⟨#[]⟩ ⟨#[]⟩ ⟨#[]⟩ ⟨#[]⟩) := by show Sev _ _ _ _ _ _ _ _ _ _; rw [hW3]; exact HS3.out.setOther (by omega)
      have HCW : Hid (Sev W3 R w1.heap.size 2 ts[x].a ts[x].b ts[x].r ts[x].c ts[x].d ts[x].s) := by show Sev _ _ _ _ _ _ _ _ _ _; rw [hW3]; exact HC3.out.set
      have HRW : Hid (Rd W3 R ad len cap) := by show Rd _ _ _ _ _; rw [hW3]; exact rd_set7 HR3.out t1 (fun h0 b off e eb => by have := HFAR.out h0 b off e; omega)
      have HOW : Hid (Only R w W3) := by show Only _ _ _; rw [hW3]; exact only_set7 HO3.out (by omega)
      clear hR3 hO3 HS2 HC2 HR2 HO2
      go_wp2_with fail
      rw [← hW3]
      clear hW3
      refine (once_any R ad len cap 20 _ HRW.out (by omega) (by omega)).mono ?_
      rintro e w5 ⟨⟨q2, rfl⟩, hR5, hO5⟩
      have HS5 := HID (HSW.out.only hO5)
      have HC5 := HID (HCW.out.only hO5)
      have HR5 := HID hR5
      have HO5 : Hid (Only R w w5) := HOW.out.trans hO5
      clear hR5 hO5 HSW HCW HRW HOW
      cases q2 with
      | false =>
        obtain ⟨s1, s2, s3, d0, d1, d2, d3, d4, d5, d6⟩ := HS5.out
        obtain ⟨t1, t2, t3, e0, e1, e2, e3, e4, e5, e6⟩ := HC5.out
        go_wp2
        exact bodyPost_ret (v := .agg #[.int .i64 2, .string ts[x].a, .string ts[x].b, .string ts[x].r, .string ts[x].c, .string ts[x].d, .string ts[x].s]) (by simp [results, Try.results36, go_sem, *]) rfl (cpost_mk HTX.out (rd_set7 HR5.out s1 (fun h0 b off e eb => by have := HFAR.out h0 b off e; omega)) (only_set7 HO5.out (Nat.le_refl _)))
      | true =>
        go_wp2_with fail
        refine (off12_any R ad len cap _ HR5.out).mono ?_
        rintro e w6 ⟨⟨z, rfl⟩, hR6, hO6⟩
        have HR6 := HID hR6
        have HO6 : Hid (Only R w w6) := HO5.out.trans hO6
        obtain ⟨s1, s2, s3, d0, d1, d2, d3, d4, d5, d6⟩ := HS5.out.only hO6
        obtain ⟨t1, t2, t3, e0, e1, e2, e3, e4, e5, e6⟩ := HC5.out.only hO6
        clear hR6 hO6 HS5 HC5 HR5 HO5
        go_wp2
        exact bodyPost_ret (v := .agg #[.int .i64 z, .string ts[x].a, .string ts[x].b, .string ts[x].r, .string ts[x].c, .string ts[x].d, .string ts[x].s]) (by simp [results, Try.results36, go_sem, *]) rfl (cpost_mk HTX.out (rd_set7 (HR6.out.setFar t1 (fun h0 b off e eb => by have := HFAR.out h0 b off e; omega)) s1 (fun h0 b off e eb => by have := HFAR.out h0 b off e; omega)) (only_set7 (HO6.out.setNew (by omega)) (Nat.le_refl _)))
end Go.Proofs.Ytgifbgcnlijjiaa
