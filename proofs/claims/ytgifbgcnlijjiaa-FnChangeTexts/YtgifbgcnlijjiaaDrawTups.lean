/- What the drawings of lists of tuples answer: some list of at most nine tuples of short strings, in a row of its own. -/
import Derived.Test.YtgifbgcnlijjiaaDrawLaw
import Derived.Test.YtgifbgcnlijjiaaSpecAddRem
namespace Go.Proofs.Ytgifbgcnlijjiaa
open Go.ChangeShapes Go.WideShapes Go.ChangeAt Go.RowKit Go.Maps
open Pl

def Tp.short (t : Tp) : Prop := t.a.size ≤ 20 ∧ t.b.size ≤ 20 ∧ t.r.size ≤ 20 ∧ t.c.size ≤ 20 ∧ t.d.size ≤ 20 ∧ t.s.size ≤ 20
theorem Tp.short.fits {t : Tp} (h : t.short) : t.fits := by unfold Tp.short at h; unfold Tp.fits maxLen; omega
def Short (ts : List Tp) : Prop := ∀ t ∈ ts, t.short
theorem Short.fits {ts : List Tp} (h : Short ts) : ∀ t ∈ ts, t.fits := fun t ht => (h t ht).fits
theorem short_nil : Short [] := fun t ht => by cases ht
theorem putT_size (ts : List Tp) (t : Tp) : (putT ts t).length = ts.length + 1 := by
  induction ts with
  | nil => rfl
  | cons x xs ih =>
    unfold putT
    split
    · simp [ih]
    · simp
theorem Short.put {ts : List Tp} {t : Tp} (h : Short ts) (ht : t.short) : Short (putT ts t) := fun x hx => by
  rcases (putT_mem ts t x).1 hx with rfl | k
  · exact ht
  · exact h x k
theorem own_only {w w' : World} {R base n : Nat} {v : Value} {xs : List Value} (h : w.ownsRow base 27 6 v n xs) (hR : R < base) (hO : Only R w w') : w'.ownsRow base 27 6 v n xs :=
  h.kept hO (.inr fun e => by have := (h.lt R e).1; omega)
theorem own_row {w : World} {base g n c : Nat} {ts : List Tp} (h : w.ownsRow base 27 6 (.slice (some ⟨g, 0, none⟩) n c) n (rows6 ts)) (hn : n = ts.length) : Row6 w g 0 ts ∧ g < w.heap.size ∧ n ≤ c ∧ base ≤ g := by
  have hlt := h.lt g rfl
  refine ⟨?_, hlt.2, ?_, hlt.1⟩
  · subst hn
    intro i hi
    have key : ∀ j, j < 6 → w.cell? ⟨g, 0 + i * 6 + j, none⟩ = (ts[i]).row[j]? := fun j hj => by
      rw [h.cellAt (0 + i * 6 + j) (by have := rows6_len ts; omega), ← rows6_at ts i hi j hj, Nat.zero_add]
    exact ⟨key 0 (by omega), key 1 (by omega), key 2 (by omega), key 3 (by omega), key 4 (by omega), key 5 (by omega)⟩
  · rcases h.2 with ⟨e, -⟩ | ⟨g', cap', cur, e, -, -, hle, -⟩
    · cases e
    · injection e with e1 e2 e3; omega

theorem ownsRow_succ3 {W : World} {base : Nat} {e : TypeId} {size : Nat} {v : Value} {k : Nat} {xs : List Value} (h : W.ownsRow base e size v (k + 1) xs) : ∃ g cap, v = .slice (some ⟨g, 0, none⟩) (k + 1) cap := by
  rcases h.2 with ⟨_, h0⟩ | ⟨g, cap, _, rfl, _⟩
  · omega
  · exact ⟨g, cap, rfl⟩
theorem Rd.grown {w w' : World} {R : Nat} {ad : Option Addr} {len cap : Nat} {row : Option Nat} (h : Rd w R ad len cap) (hg : w.grownBy w' row) (hR : some R ≠ row) (hb : 0 < len → ∀ b off, ad = some ⟨b, off, none⟩ → some b ≠ row) : Rd w' R ad len cap where
  lt := Nat.lt_of_lt_of_le h.lt hg.size
  code := hg.cell h.code hR
  place := by obtain ⟨p, hp, hl⟩ := h.place; exact ⟨p, hg.cell hp hR, hl⟩
  free := (World.frozen?_of_block (w := w) (a := ⟨R, 1, none⟩) (hg.block R h.lt hR)).trans h.free
  bytes h0 := by
    obtain ⟨b, off, e, hne, hbl, hc⟩ := h.bytes h0
    refine ⟨b, off, e, hne, Nat.lt_of_lt_of_le hbl hg.size, fun i hi => ?_⟩
    obtain ⟨c, c0, c1, hcc⟩ := hc i hi
    exact ⟨c, c0, c1, hg.cell hcc (hb h0 b off e)⟩
  small := h.small
theorem Only.grownNew {R : Nat} {w a b : World} {row : Option Nat} (h : Only R w a) (hg : a.grownBy b row) (hr : ∀ g, row = some g → w.heap.size ≤ g) : Only R w b :=
  ⟨hg.os.trans h.os, hg.tape.trans h.tape, hg.output.trans h.output, Nat.le_trans h.size hg.size, fun i hi hne => (hg.block i (Nat.lt_of_lt_of_le hi h.size) (fun e => by have := hr i e.symm; omega)).trans (h.block i hi hne)⟩
theorem below_one (R : Nat) (w : World) (n : Int) (h : n ≤ 1) :
    Calls Try.prog 46 #[.pointer (some ⟨R, 0, none⟩), .int .i64 n] w fun e w' => e = .returned (.int .i64 0) ∧ w' = w := by
  go_enter Try.func46, Try.ntmps46
  go_wp2
  go_ret
  exact ⟨rfl, rfl⟩
theorem below_all (R : Nat) (ad : Option Addr) (len cap : Nat) (n : Nat) (w : World) (h : Rd w R ad len cap) (h1 : 1 ≤ n) (h2 : n ≤ 256) :
    Calls Try.prog 46 #[.pointer (some ⟨R, 0, none⟩), .int .i64 (n : Int)] w fun e w' => (∃ x : Nat, e = .returned (.int .i64 (x : Int)) ∧ x < n) ∧ Rd w' R ad len cap ∧ Only R w w' := by
  by_cases hn : n = 1
  · subst hn
    exact (below_one R w 1 (by omega)).mono fun e w' ⟨he, hw⟩ => ⟨⟨0, by rw [he]; rfl, by omega⟩, by rw [hw]; exact h, by rw [hw]; exact Only.refl _ _⟩
  · exact (below_any R ad len cap n w h (by omega) (by omega)).mono fun e w' ⟨⟨x, he, h0, h3⟩, hR, hO⟩ => ⟨⟨x.toNat, by rw [he, Int.toNat_of_nonneg h0], by omega⟩, hR, hO⟩

set_option maxRecDepth 8000 in
set_option maxHeartbeats 4000000 in
theorem tuples_any (R : Nat) (ad : Option Addr) (len cap : Nat) (w : World) (h : Rd w R ad len cap) :
    Calls Try.prog 37 #[.pointer (some ⟨R, 0, none⟩), .int .i64 8] w fun e w' => (∃ (g c : Nat) (ts : List Tp), e = .returned (.slice (some ⟨g, 0, none⟩) ts.length c) ∧ ts.length ≤ 9 ∧ Short ts ∧ w'.ownsRow w.heap.size 27 6 (.slice (some ⟨g, 0, none⟩) ts.length c) ts.length (rows6 ts)) ∧ Rd w' R ad len cap ∧ Only R w w' := by
  obtain ⟨iT, hiT, zT0, zT1, zT2⟩ := info_parts (P := Try.prog) (e := 27) (z := .agg #[.string ⟨#[]⟩, .string ⟨#[]⟩, .string ⟨#[]⟩, .string ⟨#[]⟩, .string ⟨#[]⟩, .string ⟨#[]⟩]) (size := 6) (bytes := 96) (by kernel_rfl)
  have HIT : Hid (Try.prog.info? 27 = some iT ∧ iT.zero = some (.agg #[.string ⟨#[]⟩, .string ⟨#[]⟩, .string ⟨#[]⟩, .string ⟨#[]⟩, .string ⟨#[]⟩, .string ⟨#[]⟩]) ∧ iT.size = 6 ∧ iT.bytes = 96) := ⟨hiT, zT0, zT1, zT2⟩
  have hRw := h.lt
  have HFAR : Hid (0 < len → ∀ b off, ad = some ⟨b, off, none⟩ → b < w.heap.size) := fun h0 b off e => by
    obtain ⟨b', off', e', -, hbl, -⟩ := h.bytes h0
    rw [e] at e'; injection e' with e'; injection e' with e1 e2; omega
  clear hiT zT0 zT1 zT2
  obtain ⟨W0, hW0⟩ : ∃ W0, W0 = w.alloc (.cells #[] 27) := ⟨_, rfl⟩
  have HLIT : Hid (W0.ownsRow w.heap.size 27 6 (.slice (some ⟨w.heap.size, 0, none⟩) 0 0) 0 (rows6 [])) := by
    show World.ownsRow _ _ _ _ _ _ _
    rw [hW0]; exact World.ownsRow_lit w #[] 0 (Nat.le_refl _) (by unfold maxLen; omega) (by simp)
  have HR0 : Hid (Rd W0 R ad len cap) := by show Rd _ _ _ _ _; rw [hW0]; exact h.alloc _
  have HO0 : Hid (Only R w W0) := by show Only _ _ _; rw [hW0]; exact (Only.refl _ _).alloc _
  clear h
  go_enter Try.func37, Try.ntmps37
  go_wp2_with fail
  rw [← hW0]
  clear hW0
  refine (below_any R ad len cap 9 _ HR0.out (by omega) (by omega)).mono ?_
  rintro e w1 ⟨⟨x, rfl, hx0, hx1⟩, hR1, hO1⟩
  have HR1 := HID hR1
  have HO1 : Hid (Only R w w1) := HO0.out.trans hO1
  have HL1 : Hid (w1.ownsRow w.heap.size 27 6 (.slice (some ⟨w.heap.size, 0, none⟩) 0 0) 0 (rows6 [])) := own_only HLIT.out hRw hO1
  clear hR1 hO1 HLIT HR0 HO0
  go_wp2_with fail
  go_loopw [5, 6] (fun v i wr => ∃ (k : Nat) (ts : List Tp) (g c : Nat), i = .int .i64 k ∧ ts.length + k ≤ 8 ∧ v = .slice (some ⟨g, 0, none⟩) ts.length c ∧ Hid (Short ts) ∧ Hid (wr.ownsRow w.heap.size 27 6 v ts.length (rows6 ts)) ∧ Hid (Rd wr R ad len cap) ∧ Hid (Only R w wr)) (fun _ i _ => (intOf i).toNat)
  case atStart => exact ⟨x.toNat, [], w.heap.size, 0, by rw [Int.toNat_of_nonneg hx0], by simp; omega, rfl, short_nil, HL1, HR1, HO1⟩
  case round =>
    clear HL1 HR1 HO1 hx0 hx1
    obtain ⟨k, ts, g, c, rfl, hk, rfl, HSh, HOw, HR, HO⟩ := hrel
    by_cases hk0 : 0 < k
    · have hk1 : (0 : Int) < (k : Int) := by omega
      go_wp2_with fail
      refine (tuple_any R ad len cap _ HR.out).mono ?_
      rintro e w2 ⟨⟨a, b, r, c2, d, s, rfl, ha, hb, hr, hc, hd, hs⟩, hR2, hO2⟩
      have HR2 := HID hR2
      have HO2 : Hid (Only R w w2) := HO.out.trans hO2
      have hown2 := own_only HOw.out hRw hO2
      obtain ⟨hrow2, hg2, hc2, -⟩ := own_row hown2 rfl
      have HOw2 := HID hown2
      have HT : Hid (Tp.short ⟨a, b, r, c2, d, s⟩) := ⟨ha, hb, hr, hc, hd, hs⟩
      have HA := HID (specAdded_own g 0 c ts ⟨a, b, r, c2, d, s⟩ w2 (by omega) hc2 hrow2 hg2 HSh.out.fits HT.out.fits)
      clear ha hb hr hc hd hs hR2 hO2 hown2 hrow2 hg2 hc2 HR HO HOw
      go_wp2_with fail
      refine HA.out.mono ?_
      rintro e w3 ⟨v3, rfl, hown3, hb3⟩
      have HR3 : Hid (Rd w3 R ad len cap) := HR2.out.below hb3
      have HO3 : Hid (Only R w w3) := HO2.out.below hb3
      cases hq : addB ts ⟨a, b, r, c2, d, s⟩ with
      | true =>
        rw [addL_yes hq, putT_size] at hown3
        obtain ⟨g3, c3, rfl⟩ := ownsRow_succ3 hown3
        have HOw3 : Hid (w3.ownsRow w.heap.size 27 6 (.slice (some ⟨g3, 0, none⟩) (ts.length + 1) c3) (ts.length + 1) (rows6 (putT ts ⟨a, b, r, c2, d, s⟩))) := ownsRow_base hown3 HO2.out.size
        have HSh3 : Hid (Short (putT ts ⟨a, b, r, c2, d, s⟩)) := HSh.out.put HT.out
        have hlp := putT_size ts ⟨a, b, r, c2, d, s⟩
        have HLP := HID hlp
        have HQ := HID hq
        clear hown3 hb3 hq hlp HA HOw2 HR2 HO2
        go_wp2
        go_roundw
        case rel => exact ⟨k - 1, putT ts ⟨a, b, r, c2, d, s⟩, g3, c3, by rw [show ((k - 1 : Nat) : Int) = (k : Int) - 1 by omega], by rw [HLP.out]; omega, by rw [HLP.out], HSh3, by rw [HLP.out]; exact HOw3, HR3, HO3⟩
        case measure => simp [intOf]; omega
      | false =>
        have HOw3 : Hid (w3.ownsRow w.heap.size 27 6 (.slice (some ⟨g, 0, none⟩) ts.length c) ts.length (rows6 ts)) := HOw2.out.kept (row := none) ⟨hb3.os, hb3.tape, hb3.output, hb3.size, fun i hi _ => hb3.block i hi⟩ (.inr (by simp [Value.ownBlock]))
        rw [addL_no hq] at hown3
        obtain ⟨ad3, cap3, hv3, -, -⟩ := ownsT (ts := []) hown3 rfl
        subst hv3
        have HQ := HID hq
        clear hown3 hb3 hq HA HOw2 HR2 HO2
        go_wp2
        go_roundw
        case rel => exact ⟨k - 1, ts, g, c, by rw [show ((k - 1 : Nat) : Int) = (k : Int) - 1 by omega], by omega, rfl, HSh, HOw3, HR3, HO3⟩
        case measure => simp [intOf]; omega
    · obtain rfl : k = 0 := by omega
      go_wp2_with fail
      refine (once_any R ad len cap 40 _ HR.out (by omega) (by omega)).mono ?_
      rintro e w2 ⟨⟨q, rfl⟩, hR2, hO2⟩
      have HR2 := HID hR2
      have HO2 : Hid (Only R w w2) := HO.out.trans hO2
      have HOw2 := HID (own_only HOw.out hRw hO2)
      clear hR2 hO2 HR HO HOw
      cases q with
      | false =>
        go_wp2
        go_ret
        exact ⟨⟨g, c, ts, rfl, by omega, HSh.out, HOw2.out⟩, HR2.out, HO2.out⟩
      | true =>
        go_wp2_with fail
        refine (tuple_any R ad len cap _ HR2.out).mono ?_
        rintro e w3 ⟨⟨a, b, r, c2, d, s, rfl, ha, hb, hr, hc, hd, hs⟩, hR3, hO3⟩
        have HT : Hid (Tp.short ⟨a, b, r, c2, d, s⟩) := ⟨ha, hb, hr, hc, hd, hs⟩
        have HOw3 := HID (own_only HOw2.out hRw hO3)
        have HR3 := HID hR3
        have HO3 : Hid (Only R w w3) := HO2.out.trans hO3
        clear ha hb hr hc hd hs hR3 hO3 HR2 HO2 HOw2
        obtain ⟨W4, hW4⟩ : ∃ W4, W4 = w3.alloc (.cells #[.string a, .string b, .string r, .string c2, .string d, .string s] 27) := ⟨_, rfl⟩
        have HOw4 : Hid (W4.ownsRow w.heap.size 27 6 (.slice (some ⟨g, 0, none⟩) ts.length c) ts.length (rows6 ts)) := by show World.ownsRow _ _ _ _ _ _ _; rw [hW4]; exact HOw3.out.alloc _
        have HNW : Hid (∀ j u, (Tp.row ⟨a, b, r, c2, d, s⟩)[j]? = some u → W4.cell? ((⟨w3.heap.size, 0, none⟩ : Addr).add j) = some u) := by show ∀ j u, _; rw [hW4]; exact row6_news w3 ⟨a, b, r, c2, d, s⟩
        have HR4 : Hid (Rd W4 R ad len cap) := by show Rd _ _ _ _ _; rw [hW4]; exact HR3.out.alloc _
        have HO4 : Hid (Only R w W4) := by show Only _ _ _; rw [hW4]; exact HO3.out.alloc _
        clear HR3 HO3
        go_wp2_with (at_builtin; rw [← hW4]; clear hW4; refine wpList_append_own_at _ rfl _ _ 35 rfl w.heap.size 27 iT (.agg #[.string ⟨#[]⟩, .string ⟨#[]⟩, .string ⟨#[]⟩, .string ⟨#[]⟩, .string ⟨#[]⟩, .string ⟨#[]⟩]) 6 96 Try.underlying35 HIT.out.1 HIT.out.2.1 HIT.out.2.2.1 HIT.out.2.2.2 rfl (by decide) _ _ (rows6 ts) rfl HOw4.out ⟨w3.heap.size, 0, none⟩ 1 1 (Tp.row ⟨a, b, r, c2, d, s⟩) rfl rfl HNW.out (row6_one _) (by unfold maxLen; omega) (by omega) (by have := HO4.out.size; omega) ?_)
        intro v5 w5 hown5 hgr5 _ _
        obtain ⟨g5, c5, rfl⟩ := ownsRow_succ3 hown5
        have hne : Value.ownBlock (.slice (some ⟨g, 0, none⟩) ts.length c) ≠ some R := fun e => by have := (HOw4.out.lt R e).1; omega
        have HR5 : Hid (Rd w5 R ad len cap) := HR4.out.grown hgr5 (fun e => hne e.symm) (fun h0 b off e eb => by
          have := (HOw4.out.lt b eb.symm).1
          have := HFAR.out h0 b off e
          omega)
        have HO5 : Hid (Only R w w5) := HO4.out.grownNew hgr5 (fun g' e => (HOw4.out.lt g' e).1)
        have HOw5 : Hid (w5.ownsRow w.heap.size 27 6 (.slice (some ⟨g5, 0, none⟩) (ts.length + 1) c5) (ts.length + 1) (rows6 (ts ++ [⟨a, b, r, c2, d, s⟩]))) := by
          show World.ownsRow _ _ _ _ _ _ _; rw [rows6_snoc]; exact hown5
        clear hown5 hgr5 hne
        go_wp2
        go_ret
        exact ⟨⟨g5, c5, ts ++ [⟨a, b, r, c2, d, s⟩], by rw [List.length_append]; rfl, by simp; omega, fun t ht => by
          rcases List.mem_append.1 ht with h | h
          · exact HSh.out t h
          · rw [List.mem_singleton.1 h]; exact HT.out, by rw [List.length_append]; exact HOw5.out⟩, HR5.out, HO5.out⟩
end Go.Proofs.Ytgifbgcnlijjiaa
