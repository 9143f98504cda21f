/- Contract of the program's list of a set's tuples, in order. -/
import Derived.Test.YthicofnjehpalaaKeysGot
import Derived.Test.YthicofnjehpalaaOwnTup
import Derived.Test.YthicofnjehpalaaPlainSet
import Derived.Test.YthicofnjehpalaaCmpD
import Derived.Test.YthicofnjehpalaaSpecPut
import Derived.Test.YthicofnjehpalaaShelfS
namespace Go.Proofs.Ythicofnjehpalaa
set_option maxRecDepth 100000
open Go.ChangeShapes Go.WideShapes Go.ChangeAt Go.RowKit Go.Maps Go.Shelf Go.Sort
open Pl

def encO (x : OkT) : List Value := x.1.row
def cfT (x y : OkT) : Int := cmpT x.1.a x.1.b x.1.r x.1.c x.1.d x.1.s y.1.a y.1.b y.1.r y.1.c y.1.d y.1.s
theorem cfT_lt : ltOf cfT = ltT := by
  funext x y
  unfold ltOf cfT ltT cmpT Tp.text
  rw [compare_less, Go.ByteArray.toList_eq, Go.ByteArray.toList_eq]
theorem cmpLaysT [Inhabited OkT] (blk off size : Nat) (w : World) : CmpLays Try.prog 33 #[] encO 6 cfT blk off size w := fun m os dk _ x y => by
  obtain ⟨f0, f1, f2, f3, f4, f5⟩ := ok_fits x.2
  obtain ⟨e0, e1, e2, e3, e4, e5⟩ := ok_fits y.2
  exact (compareTuples_anyD x.1.a x.1.b x.1.r x.1.c x.1.d x.1.s y.1.a y.1.b y.1.r y.1.c y.1.d y.1.s _ f0 f1 f2 f3 f4 f5 e0 e1 e2 e3 e4 e5).mono fun e w' ⟨he, hb⟩ => ⟨he, hb.grew⟩
theorem below_sortW [Inhabited OkT] {B : Nat} (w : World) (blk off n : Nat) (d : Array OkT) (os : Array Obj) (hB : B ≤ blk) (hs : B ≤ w.heap.size) : Below B w (sortWorldK encO 6 w blk off n d os) := by
  refine ⟨rfl, rfl, rfl, ?_, fun k hk => ?_⟩
  · simp [sortWorldK, grow, putRowK, Sort.ahead]
  · have hlt : k < w.heap.size := by omega
    simp only [sortWorldK, putRowK]
    rw [heap_grow_old _ _ (by simpa [Sort.ahead] using hlt)]
    have hne : blk ≠ k := by omega
    simp [putRow, mapBlock, Sort.ahead, Array.getElem?_modify, hne]
theorem free_sortW [Inhabited OkT] {w : World} {blk : Nat} (off n : Nat) (d : Array OkT) (os : Array Obj) (hb : blk < w.heap.size) (h : Free w blk) : Free (sortWorldK encO 6 w blk off n d os) blk := fun j => by
  simp only [sortWorldK, putRowK]
  rw [frozen?_grow _ _ _ (by simpa [Sort.ahead] using hb), frozen?_putRow, frozen?_ahead]
  exact h j
theorem holds_of_row [Inhabited OkT] {w : World} {base g cap : Nat} {xs : List OkT} (h : w.ownsRow base 39 6 (.slice (some ⟨g, 0, none⟩) xs.length cap) xs.length (rows6 (vals xs))) : HoldsK encO 6 w g 0 xs.toArray := by
  intro t ht
  rw [size_flatK] at ht
  have ht' : t < xs.length * 6 := by simpa using ht
  have hi : t / 6 < xs.length := by omega
  have hr : t % 6 < 6 := Nat.mod_lt _ (by omega)
  refine ⟨?_, by rw [Nat.zero_add]; exact h.frozenAt t⟩
  rw [Nat.zero_add, h.cellAt t ht', get_flatK _ _ _ _ ht]
  have e : t = t / 6 * 6 + t % 6 := by omega
  have h1 := rows6_at (vals xs) (t / 6) (by rw [vals_len]; exact hi) (t % 6) hr
  rw [← e] at h1
  rw [h1]
  have h2 : (xs.toArray)[t / 6]! = xs[t / 6] := by rw [getElem!_pos xs.toArray _ (by simpa using hi)]; simp
  have h3 : (vals xs)[t / 6]'(by rw [vals_len]; exact hi) = xs[t / 6].1 := by simp [vals]
  rw [h2, h3]
  show _ = some ((xs[t / 6].1.row)[t % 6]!)
  have hl : t % 6 < xs[t / 6].1.row.length := hr
  rw [List.getElem?_eq_getElem hl, getElem!_pos (xs[t / 6].1.row) (t % 6) hl]
theorem row_of_holds [Inhabited OkT] {w : World} {g : Nat} {xs : List OkT} (h : HoldsK encO 6 w g 0 xs.toArray) : Row6 w g 0 (vals xs) := fun i hi => by
  have hi' : i < xs.length := by rw [vals_len] at hi; exact hi
  have h3 : (vals xs)[i] = xs[i].1 := by simp [vals]
  rw [h3]
  have key : ∀ j, (hj : j < 6) → w.cell? ⟨g, 0 + i * 6 + j, none⟩ = some ((xs[i].1.row)[j]!) := fun j hj => by
    have := (h.cell (i := i) (c := j) (by simpa using hi') hj).1
    rw [show (xs.toArray)[i]! = xs[i] by rw [getElem!_pos xs.toArray _ (by simpa using hi')]; simp] at this
    exact this
  exact ⟨key 0 (by omega), key 1 (by omega), key 2 (by omega), key 3 (by omega), key 4 (by omega), key 5 (by omega)⟩


set_option maxHeartbeats 2000000 in
theorem sortedFuncT (Bm b nn : Nat) (M : Tp → Option Value) (L : List Tp) (w : World) (hBm : Bm < w.heap.size) (hm : w.cell? ⟨Bm, 0, none⟩ = some (.map (some b))) (hV : MapV encT Try.prog 39 w b nn M) (hn : nn ≤ 1000) (hL : Up L) (hok : ∀ t ∈ L, t.ok = true) (hML : ∀ t, (M t).isSome = true ↔ t ∈ L) (hll : L.length ≤ 1000) :
    Calls Try.prog 31 #[.func (.func 41) #[] #[.pointer (some ⟨Bm, 0, none⟩)], .func (.func 33) #[] #[]] w fun e w' => ∃ (ad : Option Addr) (cap : Nat), e = .returned (.slice ad L.length cap) ∧ OwnL w.heap.size w' ad L ∧ Below w.heap.size w w' := by
  have hcol := collectT Bm b nn M w hBm hm hV hn (fun x hx => hok x ((hML x).1 hx))
  have HC := HID hcol
  have HML := HID hML
  clear hcol hV hm hML
  go_enter Try.func31, Try.ntmps31
  go_wp2_with fail
  refine HC.out.mono ?_
  rintro e w1 ⟨v, xs, rfl, hK, hrow, hnil, hb1⟩
  have hval : (xs.mergeSort fun x y => !ltT y x).map (·.1) = L := sort_is hK.1 (fun x => (hK.2 x).trans (HML.out x.1)) hL hok
  have HB := HID hb1
  clear HC HML hK hb1
  cases xs with
  | nil =>
    obtain rfl : v = .slice none 0 0 := hnil.2 rfl
    have hL0 : L = [] := by rw [← hval]; simp
    subst hL0
    have hs := AnyF.slices_SortFunc_none Try.sortT none 0 (.func (.func 33) #[] #[]) w1
    change Calls Try.prog 40 _ _ _ at hs
    have HS := HID hs
    clear hs hrow hnil hval
    go_wp2_with fail
    refine HS.out.mono ?_
    rintro e w2 ⟨rfl, rfl⟩
    go_wp2
    go_ret
    exact ⟨none, 0, rfl, ⟨.inl rfl, fun h => absurd rfl h⟩, HB.out⟩
  | cons x0 xs0 =>
    letI : Inhabited OkT := ⟨x0⟩
    obtain ⟨g, cap, rfl⟩ := ownsRow_succ (k := xs0.length) hrow
    have hg := hrow.lt g rfl
    have hH := holds_of_row hrow
    have hF : Free w1 g := fun j => hrow.frozenAt j
    have hlen : (x0 :: xs0).length = L.length := by rw [← hval, List.length_map, List.length_mergeSort]
    have eg : ∀ args w, (callFunc 33 args).run Try.prog w = .ok (.enter 33 args) w := enters_of Try.func33 (by kernel_rfl) rfl
    have hs := AnyQ.slices_SortFunc_total Try.sortT 6 Try.isAgg39 Try.sizeOf39 encO (fun _ => rfl) (fun x => row6_one x.1) cfT (by rw [cfT_lt]; exact ltT_swo) 33 #[] g 0 cap (x0 :: xs0).toArray w1 eg (cmpLaysT g 0 _ w1) hH hg.2 (by simp at hlen ⊢; omega) (by rw [cfT_lt]; exact ltT_total)
    change Calls Try.prog 40 _ _ _ at hs
    rw [cfT_lt] at hs
    have HS : Hid (Calls Try.prog 40 #[.slice (some ⟨g, 0, none⟩) (xs0.length + 1) cap, .func (.func 33) #[] #[]] w1 fun e w' => e = .returned (.tuple #[]) ∧ OwnL w.heap.size w' (some ⟨g, 0, none⟩) L ∧ Below w.heap.size w w') := hs.mono fun e w' ⟨he, n, os, hw⟩ => by
      have hz : ((x0 :: xs0).mergeSort fun x y => !ltT y x).toArray.size = (x0 :: xs0).toArray.size := by simp
      have hH2 := holdsK_sortWorldK_c encO 6 w1 g 0 (x0 :: xs0).toArray ((x0 :: xs0).mergeSort fun x y => !ltT y x).toArray n os hH hg.2 hz
      have hr := row_of_holds hH2
      have hvals : vals ((x0 :: xs0).mergeSort fun x y => !ltT y x) = L := hval
      rw [hvals] at hr
      have hbs := below_sortW (B := w.heap.size) w1 g 0 n ((x0 :: xs0).mergeSort fun x y => !ltT y x).toArray os hg.1 HB.out.size
      have hgl : g < (sortWorldK encO 6 w1 g 0 n ((x0 :: xs0).mergeSort fun x y => !ltT y x).toArray os).heap.size := Nat.lt_of_lt_of_le hg.2 hbs.size
      subst hw
      exact ⟨he, ⟨.inr ⟨g, 0, rfl, hgl, hr⟩, fun _ => ⟨g, rfl, hg.1, free_sortW 0 n _ os hg.2 hF⟩⟩, HB.out.trans hbs⟩
    have hl2 : L.length = xs0.length + 1 := by simpa using hlen.symm
    have HL := HID hl2
    clear hs hrow hnil hval hH hF hlen hg hl2
    go_wp2_with fail
    refine HS.out.mono ?_
    rintro e w2 ⟨rfl, hO, hB2⟩
    have HO := HID hO
    clear hO
    go_wp2
    go_ret
    exact ⟨some ⟨g, 0, none⟩, cap, by rw [HL.out]; rfl, HO.out, hB2⟩

set_option maxHeartbeats 2000000 in
theorem inOrder_any (b nn : Nat) (M : Tp → Option Value) (L : List Tp) (w : World) (hV : MapV encT Try.prog 39 w b nn M) (hn : nn ≤ 1000) (hL : Up L) (hok : ∀ t ∈ L, t.ok = true) (hML : ∀ t, (M t).isSome = true ↔ t ∈ L) (hll : L.length ≤ 1000) :
    Calls Try.prog 20 #[.map (some b)] w fun e w' => ∃ (ad : Option Addr) (cap : Nat), e = .returned (.slice ad L.length cap) ∧ OwnL w.heap.size w' ad L ∧ Below w.heap.size w w' := by
  have hk : Calls Try.prog 32 #[.map (some b)] w fun e w' => e = .returned (.func (.func 41) #[] #[.pointer (some ⟨w.heap.size, 0, none⟩)]) ∧ w' = w.alloc (.cells #[.map (some b)] 48) := (callsIn_wide (n := 3)).1 (keysT_in Fence.wide 3 trivial rfl (some b) w)
  have HK := HID hk
  have hB1 : Below w.heap.size w (w.alloc (.cells #[.map (some b)] 48)) := (Below.refl _ _).alloc (Nat.le_refl _) _
  have HS := HID (sortedFuncT w.heap.size b nn M L (w.alloc (.cells #[.map (some b)] 48)) (by simp) (by simp) (hV.below hB1) hn hL hok hML hll)
  have HB1 := HID hB1
  clear hk hV hB1 hML
  go_enter Try.func20, Try.ntmps20
  go_wp2_with fail
  refine HK.out.mono ?_
  rintro e w1 ⟨rfl, rfl⟩
  go_wp2_with fail
  refine HS.out.mono ?_
  rintro e w2 ⟨ad, cap, rfl, hO, hB2⟩
  have HO := HID hO
  clear hO
  go_wp2
  go_ret
  refine ⟨ad, cap, rfl, ⟨HO.out.1, fun h => ?_⟩, HB1.out.trans (hB2.mono (by simp))⟩
  obtain ⟨g, e, h1, h2⟩ := HO.out.2 h
  exact ⟨g, e, by simp at h1; omega, h2⟩
end Go.Proofs.Ythicofnjehpalaa
