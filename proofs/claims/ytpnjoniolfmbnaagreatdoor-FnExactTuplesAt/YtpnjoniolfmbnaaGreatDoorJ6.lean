/- Contract of the document's function that looks for a tuple in a list. -/
import Derived.Test.YtpnjoniolfmbnaaGreatDoorJ5
import Derived.Deep.QuietTactic
import Derived.BigQuiet
namespace Go.Proofs.YtpnjoniolfmbnaaGreatDoor
open Go.ChangeShapes Go.WideShapes Go.ChangeAt Go.RowKit Go.Maps
open Pl

set_option maxRecDepth 8000 in
set_option maxHeartbeats 2000000 in
theorem l1Has_any (ad : Option Addr) (cap : Nat) (ts : List Tp) (t : Tp) (w : World) (hlen : ts.length ≤ 1048576) (hs : Sl w ad ts) :
    Calls Tryz.prog 71 #[.slice ad ts.length cap, .agg #[.string t.a, .string t.b, .string t.r, .string t.c, .string t.d, .string t.s]] w fun e w' => e = .returned (.bool (hasT ts t)) ∧ Below w.heap.size w w' := by
  have HS : Hid (Sl w ad ts) := hs
  clear hs
  obtain ⟨W0, hW0⟩ : ∃ W0, W0 = w.alloc (.cells #[.string t.a, .string t.b, .string t.r, .string t.c, .string t.d, .string t.s] 29) := ⟨_, rfl⟩
  have HB0 : Hid (Below w.heap.size w W0) := by show Below _ _ _; rw [hW0]; exact (Below.refl _ _).alloc (Nat.le_refl _) _
  have HX0 : Hid (W0.cell? ⟨w.heap.size, 0, none⟩ = some (.string t.a) ∧ W0.cell? ⟨w.heap.size, 1, none⟩ = some (.string t.b) ∧ W0.cell? ⟨w.heap.size, 2, none⟩ = some (.string t.r) ∧ W0.cell? ⟨w.heap.size, 3, none⟩ = some (.string t.c) ∧ W0.cell? ⟨w.heap.size, 4, none⟩ = some (.string t.d) ∧ W0.cell? ⟨w.heap.size, 5, none⟩ = some (.string t.s) ∧ w.heap.size < W0.heap.size) := by show _ ∧ _; rw [hW0]; refine ⟨?_, ?_, ?_, ?_, ?_, ?_, ?_⟩ <;> simp
  go_enter Tryz.func71, Tryz.ntmps71
  go_wp2
  rw [← hW0]
  clear hW0
  go_loopw [5] (fun i wr => ∃ k : Nat, k ≤ ts.length ∧ i = .int .i64 k ∧ Hid (hasT (ts.drop k) t = hasT ts t) ∧ Hid (Below W0.heap.size W0 wr)) (fun i _ => ts.length - (intOf i).toNat)
  case atStart => exact ⟨0, Nat.zero_le _, rfl, rfl, Below.refl _ _⟩
  case round =>
    obtain ⟨k, hk, rfl, HP, HB⟩ := hrel
    have HBW : Hid (Below w.heap.size w wr) := HB0.out.trans (HB.out.mono HB0.out.size)
    by_cases hlt : k < ts.length
    · rcases HS.out.below HBW.out with hnil | ⟨b, off, rfl, hb, hr⟩
      · rw [hnil] at hlt; simp at hlt
      obtain ⟨t0, t1, t2, t3, t4, t5⟩ := hr k hlt
      have x0 := mK HB.out HX0.out.2.2.2.2.2.2 HX0.out.1
      have x1 := mK HB.out HX0.out.2.2.2.2.2.2 HX0.out.2.1
      have x2 := mK HB.out HX0.out.2.2.2.2.2.2 HX0.out.2.2.1
      have x3 := mK HB.out HX0.out.2.2.2.2.2.2 HX0.out.2.2.2.1
      have x4 := mK HB.out HX0.out.2.2.2.2.2.2 HX0.out.2.2.2.2.1
      have x5 := mK HB.out HX0.out.2.2.2.2.2.2 HX0.out.2.2.2.2.2.1
      have hk1 : (0 : Int) ≤ (k : Int) := by omega
      have hk2 : (k : Int) < (ts.length : Int) := by omega
      have HD : Hid (hasT ts t = (tpEq ts[k] t || hasT (ts.drop (k + 1)) t)) := by show _ = _; rw [← HP.out]; exact hasT_drop hlt
      clear hr
      cases hq : tpEq ts[k] t with
      | true =>
        have heq := tp_eql ts[k] t hq
        have HN : Hid (hasT ts t = true) := by show _ = _; rw [HD.out, hq]; rfl
        clear hq
        go_wp2_with fail
        go_region_held3 (fun w' => w'.cell? ⟨b, off + k * 6, none⟩ = some (.string ts[k].a) ∧ w'.cell? ⟨b, off + k * 6 + 1, none⟩ = some (.string ts[k].b) ∧ w'.cell? ⟨b, off + k * 6 + 2, none⟩ = some (.string ts[k].r) ∧ w'.cell? ⟨b, off + k * 6 + 3, none⟩ = some (.string ts[k].c) ∧ w'.cell? ⟨b, off + k * 6 + 4, none⟩ = some (.string ts[k].d) ∧ w'.cell? ⟨b, off + k * 6 + 5, none⟩ = some (.string ts[k].s) ∧ w'.cell? ⟨w.heap.size, 0, none⟩ = some (.string t.a) ∧ w'.cell? ⟨w.heap.size, 1, none⟩ = some (.string t.b) ∧ w'.cell? ⟨w.heap.size, 2, none⟩ = some (.string t.r) ∧ w'.cell? ⟨w.heap.size, 3, none⟩ = some (.string t.c) ∧ w'.cell? ⟨w.heap.size, 4, none⟩ = some (.string t.d) ∧ w'.cell? ⟨w.heap.size, 5, none⟩ = some (.string t.s) ∧ Below wr.heap.size wr w') (first | assumption | exact ⟨t0, t1, t2, t3, t4, t5, x0, x1, x2, x3, x4, x5, (Below.refl _ _).drew⟩) (fail)
        rename_i hH
        have HG : Hid (Below wr.heap.size wr _) := hH.2.2.2.2.2.2.2.2.2.2.2.2
        clear hH t0 t1 t2 t3 t4 t5 x0 x1 x2 x3 x4 x5 heq
        go_wp2
        go_ret
        exact ⟨by rw [HN.out]; rfl, HBW.out.trans (HG.out.mono HBW.out.size)⟩
      | false =>
        have heq := tp_eql ts[k] t hq
        have HP2 : Hid (hasT (ts.drop (k + 1)) t = hasT ts t) := by show _ = _; rw [HD.out, hq]; rfl
        clear hq
        go_wp2_with fail
        go_region_held3 (fun w' => w'.cell? ⟨b, off + k * 6, none⟩ = some (.string ts[k].a) ∧ w'.cell? ⟨b, off + k * 6 + 1, none⟩ = some (.string ts[k].b) ∧ w'.cell? ⟨b, off + k * 6 + 2, none⟩ = some (.string ts[k].r) ∧ w'.cell? ⟨b, off + k * 6 + 3, none⟩ = some (.string ts[k].c) ∧ w'.cell? ⟨b, off + k * 6 + 4, none⟩ = some (.string ts[k].d) ∧ w'.cell? ⟨b, off + k * 6 + 5, none⟩ = some (.string ts[k].s) ∧ w'.cell? ⟨w.heap.size, 0, none⟩ = some (.string t.a) ∧ w'.cell? ⟨w.heap.size, 1, none⟩ = some (.string t.b) ∧ w'.cell? ⟨w.heap.size, 2, none⟩ = some (.string t.r) ∧ w'.cell? ⟨w.heap.size, 3, none⟩ = some (.string t.c) ∧ w'.cell? ⟨w.heap.size, 4, none⟩ = some (.string t.d) ∧ w'.cell? ⟨w.heap.size, 5, none⟩ = some (.string t.s) ∧ Below wr.heap.size wr w') (first | assumption | exact ⟨t0, t1, t2, t3, t4, t5, x0, x1, x2, x3, x4, x5, (Below.refl _ _).drew⟩) (fail)
        rename_i hH
        have HG : Hid (Below W0.heap.size W0 _) := HB.out.trans (hH.2.2.2.2.2.2.2.2.2.2.2.2.mono HB.out.size)
        clear hH t0 t1 t2 t3 t4 t5 x0 x1 x2 x3 x4 x5 heq
        go_wp2
        go_roundw
        case rel => exact ⟨k + 1, by omega, by go_num, HP2, HG⟩
        case measure => first | (simp [intOf]; done) | (simp [intOf]; omega)
    · have HN : Hid (hasT ts t = false) := by show _ = _; rw [← HP.out, List.drop_of_length_le (by omega)]; rfl
      go_wp2
      go_ret
      exact ⟨by rw [HN.out]; rfl, HBW.out⟩

end Go.Proofs.YtpnjoniolfmbnaaGreatDoor

/- Contracts of the library's search in a slice of tuples, as the program calls it. -/
namespace Go.Proofs.YtpnjoniolfmbnaaGreatDoor
set_option maxRecDepth 100000
open Go.ChangeShapes Go.WideShapes Go.ChangeAt Go.RowKit
open Pl

theorem keptC {B : Nat} {w w' : World} (hB : Below B w w') {n o : Nat} {v : Value} (hn : n < B) (h : w.cell? ⟨n, o, none⟩ = some v) : w'.cell? ⟨n, o, none⟩ = some v := (hB.cell (p := ⟨n, o, none⟩) hn).trans h
theorem toHC {p : Prop} (h : p) : Hid p := h
theorem tpEq_comm (x y : Tp) : tpEq x y = tpEq y x := by
  rw [Bool.eq_iff_iff, tpEq_iff, tpEq_iff]
  exact ⟨Eq.symm, Eq.symm⟩
theorem hasT_take {ts : List Tp} {t : Tp} {k : Nat} (h : k < ts.length) : hasT (ts.take (k + 1)) t = (hasT (ts.take k) t || tpEq ts[k] t) := by
  rw [List.take_succ_eq_append_getElem h]
  unfold hasT
  rw [List.any_append]
  simp only [List.any_cons, List.any_nil, Bool.or_false]
theorem hasT_hit {ts : List Tp} {t : Tp} {k : Nat} (h : k < ts.length) (he : tpEq ts[k] t = true) : hasT ts t = true := List.any_eq_true.2 ⟨ts[k], List.getElem_mem h, he⟩

set_option maxHeartbeats 2000000 in
theorem indexT_any (ad : Option Addr) (cap : Nat) (ts : List Tp) (t : Tp) (w : World) (hlen : ts.length ≤ 1048576) (hs : Sl w ad ts) :
    Calls Tryz.prog 152 #[.slice ad ts.length cap, .agg #[.string t.a, .string t.b, .string t.r, .string t.c, .string t.d, .string t.s]] w fun e w' => (∃ r : Int, e = .returned (.int .i64 r) ∧ decide (0 ≤ r) = hasT ts t) ∧ Below w.heap.size w w' := by
  obtain ⟨W, hW⟩ : ∃ W, W = w.alloc (.cells #[.string t.a, .string t.b, .string t.r, .string t.c, .string t.d, .string t.s] 29) := ⟨_, rfl⟩
  have HB0 : Hid (Below w.heap.size w W) := by show Below _ _ _; rw [hW]; exact (Below.refl w.heap.size w).alloc (Nat.le_refl _) _
  have hz : w.heap.size < W.heap.size := by rw [hW]; simp
  have b0 : W.cell? ⟨w.heap.size, 0, none⟩ = some (.string t.a) := by rw [hW]; simp
  have b1 : W.cell? ⟨w.heap.size, 1, none⟩ = some (.string t.b) := by rw [hW]; simp
  have b2 : W.cell? ⟨w.heap.size, 2, none⟩ = some (.string t.r) := by rw [hW]; simp
  have b3 : W.cell? ⟨w.heap.size, 3, none⟩ = some (.string t.c) := by rw [hW]; simp
  have b4 : W.cell? ⟨w.heap.size, 4, none⟩ = some (.string t.d) := by rw [hW]; simp
  have b5 : W.cell? ⟨w.heap.size, 5, none⟩ = some (.string t.s) := by rw [hW]; simp
  have HS : Hid (Sl W ad ts) := hs.below HB0.out
  clear hs
  go_enter Tryz.func152, Tryz.ntmps152
  go_wp2_with fail
  rw [← hW]
  clear hW
  go_loopw [8] (fun i wr => ∃ k : Nat, k ≤ ts.length ∧ i = .int .i64 k ∧ Hid (hasT (ts.take k) t = false) ∧ Below W.heap.size W wr) (fun i _ => ts.length - (intOf i).toNat)
  case atStart => exact ⟨0, Nat.zero_le _, rfl, rfl, Below.refl _ _⟩
  case round =>
    obtain ⟨k, hk, rfl, HP, hB⟩ := hrel
    have a0 := keptC hB hz b0
    have a1 := keptC hB hz b1
    have a2 := keptC hB hz b2
    have a3 := keptC hB hz b3
    have a4 := keptC hB hz b4
    have a5 := keptC hB hz b5
    by_cases hlt : k < ts.length
    · rcases HS.out.below hB with hnil | ⟨b, off, rfl, hb, hr⟩
      · rw [hnil] at hlt; simp at hlt
      obtain ⟨t0, t1, t2, t3, t4, t5⟩ := hr k hlt
      have hk1 : (0 : Int) ≤ (k : Int) := by omega
      have hk2 : (k : Int) < (ts.length : Int) := by omega
      clear hr
      cases hq : tpEq t ts[k] with
      | true =>
        have HE := tp_eql t ts[k] hq
        have HN : Hid (hasT ts t = true) := hasT_hit hlt (by rw [tpEq_comm]; exact hq)
        go_wp2_with fail
        go_quiet (fail)
        go_wp2
        go_ret
        exact ⟨⟨_, rfl, by rw [HN.out]; simp⟩, HB0.out.trans (below_drewN (hB.mono HB0.out.size) _)⟩
      | false =>
        have HE := tp_eql t ts[k] hq
        have HP2 : Hid (hasT (ts.take (k + 1)) t = false) := by show _ = _; rw [hasT_take hlt, HP.out, tpEq_comm, hq]; rfl
        go_wp2_with fail
        go_quiet (fail)
        go_wp2
        go_roundw
        case rel => exact ⟨k + 1, by omega, by go_num, HP2, below_drewN hB _⟩
        case measure => first | (simp [intOf]; done) | (simp [intOf]; omega)
    · obtain rfl : k = ts.length := by omega
      have HN : Hid (hasT ts t = false) := by have := HP.out; rw [List.take_length] at this; exact this
      go_wp2
      go_ret
      exact ⟨⟨-1, rfl, by rw [HN.out]; rfl⟩, HB0.out.trans (hB.mono HB0.out.size)⟩
theorem containsT_any (ad : Option Addr) (cap : Nat) (ts : List Tp) (t : Tp) (w : World) (hlen : ts.length ≤ 1048576) (hs : Sl w ad ts) :
    Calls Tryz.prog 127 #[.slice ad ts.length cap, .agg #[.string t.a, .string t.b, .string t.r, .string t.c, .string t.d, .string t.s]] w fun e w' => e = .returned (.bool (hasT ts t)) ∧ Below w.heap.size w w' := by
  have HB0 : Hid (Below w.heap.size w (w.alloc (.cells #[.string t.a, .string t.b, .string t.r, .string t.c, .string t.d, .string t.s] 29))) := (Below.refl w.heap.size w).alloc (Nat.le_refl _) _
  have HS := toHC hs
  clear hs
  go_enter Tryz.func127, Tryz.ntmps127
  go_wp2_with fail
  refine (indexT_any ad cap ts t _ hlen (HS.out.below HB0.out)).mono ?_
  rintro e w1 ⟨⟨r, rfl, hr⟩, hb1⟩
  have HR := toHC hr
  have HB1 := toHC (HB0.out.trans (hb1.mono HB0.out.size))
  clear hr hb1
  go_wp2
  go_ret
  exact ⟨ret_bool HR.out, HB1.out⟩
end Go.Proofs.YtpnjoniolfmbnaaGreatDoor

/- Rows of tuples in memory, and a tuple in six cells. -/
namespace Go.Proofs.YtpnjoniolfmbnaaGreatDoor
open Go.ChangeShapes Go.WideShapes Go.ChangeAt Go.RowKit Go.Maps
open Pl

theorem row6_cells {w : World} {b off : Nat} {ts : List Tp} (h : Row6 w b off ts) : ∀ j u, (rows6 ts)[j]? = some u → w.cell? ((⟨b, off, none⟩ : Addr).add j) = some u := by
  intro j u hu
  have hl := rows6_len ts
  have hj : j < ts.length * 6 := by
    rcases Nat.lt_or_ge j (rows6 ts).length with h | h
    · omega
    · rw [List.getElem?_eq_none h] at hu; cases hu
  have hi : j / 6 < ts.length := by omega
  have hr : j % 6 < 6 := Nat.mod_lt _ (by omega)
  have e : j = j / 6 * 6 + j % 6 := by omega
  rw [e, rows6_at ts _ hi _ hr] at hu
  rw [show ((⟨b, off, none⟩ : Addr).add j) = ⟨b, off + j / 6 * 6 + j % 6, none⟩ by rw [show (⟨b, off, none⟩ : Addr).add j = ⟨b, off + j, none⟩ by simp [Addr.add]]; congr 1; omega]
  obtain ⟨c0, c1, c2, c3, c4, c5⟩ := h (j / 6) hi
  have h6 : j % 6 = 0 ∨ j % 6 = 1 ∨ j % 6 = 2 ∨ j % 6 = 3 ∨ j % 6 = 4 ∨ j % 6 = 5 := by omega
  rcases h6 with e6 | e6 | e6 | e6 | e6 | e6 <;> rw [e6] at hu ⊢ <;> simp only [Tp.row, List.getElem?_cons_zero, List.getElem?_cons_succ] at hu <;> rw [← hu] <;> assumption
theorem row6_take {w : World} {b off : Nat} {ts : List Tp} (h : Row6 w b off ts) (k : Nat) : Row6 w b off (ts.take k) := fun i hi => by
  have := h i (by simp at hi; omega)
  simpa using this
theorem row6_drop {w : World} {b off : Nat} {ts : List Tp} (h : Row6 w b off ts) (k : Nat) : Row6 w b (off + k * 6) (ts.drop k) := fun i hi => by
  have := h (k + i) (by simp at hi; omega)
  simp only [List.getElem_drop]
  rw [show off + k * 6 + i * 6 = off + (k + i) * 6 by omega]
  exact this
theorem rows6_one (ts : List Tp) : ∀ u ∈ rows6 ts, u.oneCell' = true := by
  intro u hu
  unfold rows6 at hu
  obtain ⟨t, -, h⟩ := List.mem_flatMap.1 hu
  exact row6_one t u h
theorem rows6_append (xs ys : List Tp) : rows6 (xs ++ ys) = rows6 xs ++ rows6 ys := by simp [rows6]
/-- six cells of a tuple's own block -/
def Six (w : World) (g : Nat) (t : Tp) : Prop := w.cell? ⟨g, 0, none⟩ = some (.string t.a) ∧ w.cell? ⟨g, 1, none⟩ = some (.string t.b) ∧ w.cell? ⟨g, 2, none⟩ = some (.string t.r) ∧ w.cell? ⟨g, 3, none⟩ = some (.string t.c) ∧ w.cell? ⟨g, 4, none⟩ = some (.string t.d) ∧ w.cell? ⟨g, 5, none⟩ = some (.string t.s) ∧ g < w.heap.size
theorem Six.below {w w' : World} {g : Nat} {t : Tp} (h : Six w g t) (hb : Below w.heap.size w w') : Six w' g t :=
  ⟨mK hb h.2.2.2.2.2.2 h.1, mK hb h.2.2.2.2.2.2 h.2.1, mK hb h.2.2.2.2.2.2 h.2.2.1, mK hb h.2.2.2.2.2.2 h.2.2.2.1, mK hb h.2.2.2.2.2.2 h.2.2.2.2.1, mK hb h.2.2.2.2.2.2 h.2.2.2.2.2.1, Nat.lt_of_lt_of_le h.2.2.2.2.2.2 hb.size⟩
theorem six_new (w : World) (t : Tp) (T : TypeId) : Six (w.alloc (.cells #[.string t.a, .string t.b, .string t.r, .string t.c, .string t.d, .string t.s] T)) w.heap.size t := by
  refine ⟨?_, ?_, ?_, ?_, ?_, ?_, ?_⟩ <;> simp

theorem Six.grown {w w' : World} {g : Nat} {t : Tp} {row : Option Nat} (h : Six w g t) (hg : w.grownBy w' row) (hne : some g ≠ row) : Six w' g t :=
  ⟨hg.cell h.1 hne, hg.cell h.2.1 hne, hg.cell h.2.2.1 hne, hg.cell h.2.2.2.1 hne, hg.cell h.2.2.2.2.1 hne, hg.cell h.2.2.2.2.2.1 hne, Nat.lt_of_lt_of_le h.2.2.2.2.2.2 hg.size⟩
theorem row6_grown {w w' : World} {b off : Nat} {ts : List Tp} {row : Option Nat} (h : Row6 w b off ts) (hg : w.grownBy w' row) (_hb : b < w.heap.size) (hne : some b ≠ row) : Row6 w' b off ts := fun i hi => by
  obtain ⟨c0, c1, c2, c3, c4, c5⟩ := h i hi
  exact ⟨hg.cell c0 hne, hg.cell c1 hne, hg.cell c2 hne, hg.cell c3 hne, hg.cell c4 hne, hg.cell c5 hne⟩
theorem news_none {ts : List Tp} {k : Nat} (h : ts.length ≤ k) (w : World) (ad : Addr) : ∀ j u, (rows6 (ts.drop k))[j]? = some u → w.cell? (ad.add j) = some u := fun j u hu => by
  rw [List.drop_of_length_le h] at hu
  simp [rows6] at hu
theorem ownsRow_base {W : World} {base base' : Nat} {e : TypeId} {size : Nat} {v : Value} {k : Nat} {xs : List Value} (h : W.ownsRow base e size v k xs) (hb : base' ≤ base) : W.ownsRow base' e size v k xs := by
  refine ⟨h.1, ?_⟩
  rcases h.2 with hn | ⟨g, cap, cur, hv, hbg, rest⟩
  · exact .inl hn
  · exact .inr ⟨g, cap, cur, hv, Nat.le_trans hb hbg, rest⟩
theorem HID {p : Prop} (h : p) : Hid p := h
theorem six_of {w : World} {g : Nat} {t : Tp} (h0 : w.cell? ⟨g, 0, none⟩ = some (.string t.a)) (h1 : w.cell? ⟨g, 1, none⟩ = some (.string t.b)) (h2 : w.cell? ⟨g, 2, none⟩ = some (.string t.r)) (h3 : w.cell? ⟨g, 3, none⟩ = some (.string t.c)) (h4 : w.cell? ⟨g, 4, none⟩ = some (.string t.d)) (h5 : w.cell? ⟨g, 5, none⟩ = some (.string t.s)) (hl : g < w.heap.size) : Six w g t := ⟨h0, h1, h2, h3, h4, h5, hl⟩
theorem keepPut {w W w' : World} {b n o : Nat} {x0 x1 x2 x3 x4 x5 y0 y1 y2 y3 y4 y5 : Value} (h : W.cell? ⟨b, o, none⟩ = some x0 ∧ W.cell? ⟨b, o + 1, none⟩ = some x1 ∧ W.cell? ⟨b, o + 2, none⟩ = some x2 ∧ W.cell? ⟨b, o + 3, none⟩ = some x3 ∧ W.cell? ⟨b, o + 4, none⟩ = some x4 ∧ W.cell? ⟨b, o + 5, none⟩ = some x5 ∧ W.cell? ⟨n, 0, none⟩ = some y0 ∧ W.cell? ⟨n, 1, none⟩ = some y1 ∧ W.cell? ⟨n, 2, none⟩ = some y2 ∧ W.cell? ⟨n, 3, none⟩ = some y3 ∧ W.cell? ⟨n, 4, none⟩ = some y4 ∧ W.cell? ⟨n, 5, none⟩ = some y5 ∧ b < W.heap.size ∧ n < W.heap.size ∧ Below n w W) (hb : Below W.heap.size W w') :
    w'.cell? ⟨b, o, none⟩ = some x0 ∧ w'.cell? ⟨b, o + 1, none⟩ = some x1 ∧ w'.cell? ⟨b, o + 2, none⟩ = some x2 ∧ w'.cell? ⟨b, o + 3, none⟩ = some x3 ∧ w'.cell? ⟨b, o + 4, none⟩ = some x4 ∧ w'.cell? ⟨b, o + 5, none⟩ = some x5 ∧ w'.cell? ⟨n, 0, none⟩ = some y0 ∧ w'.cell? ⟨n, 1, none⟩ = some y1 ∧ w'.cell? ⟨n, 2, none⟩ = some y2 ∧ w'.cell? ⟨n, 3, none⟩ = some y3 ∧ w'.cell? ⟨n, 4, none⟩ = some y4 ∧ w'.cell? ⟨n, 5, none⟩ = some y5 ∧ b < w'.heap.size ∧ n < w'.heap.size ∧ Below n w w' := by
  obtain ⟨h0, h1, h2, h3, h4, h5, g0, g1, g2, g3, g4, g5, hB, hN, hw⟩ := h
  exact ⟨mK hb hB h0, mK hb hB h1, mK hb hB h2, mK hb hB h3, mK hb hB h4, mK hb hB h5, mK hb hN g0, mK hb hN g1, mK hb hN g2, mK hb hN g3, mK hb hN g4, mK hb hN g5, Nat.lt_of_lt_of_le hB hb.size, Nat.lt_of_lt_of_le hN hb.size, hw.trans (hb.mono (Nat.le_of_lt hN))⟩

end Go.Proofs.YtpnjoniolfmbnaaGreatDoor
