/- The list that is collected of an iterator over right tuples. -/
import Derived.Test.YthicofnjehpalaaKeysIt
import Derived.Test.YthicofnjehpalaaSpecTups
import Derived.Maps.AppendAt
namespace Go.Proofs.Ythicofnjehpalaa
set_option maxRecDepth 100000
open Go.ChangeShapes Go.WideShapes Go.ChangeAt Go.RowKit Go.Maps Go.Shelf
open Pl
attribute [local go_sem] Oper.semAt_some

/-- block B is this tuple's own -/
def Box6 (W : World) (B : Nat) (t : Tp) : Prop := W.heap[B]? = some (.cells #[.string t.a, .string t.b, .string t.r, .string t.c, .string t.d, .string t.s] 39 (0, 0))
theorem Box6.cells {W : World} {B : Nat} {t : Tp} (h : Box6 W B t) : W.cell? ⟨B, 0, none⟩ = some (.string t.a) ∧ W.cell? ⟨B, 1, none⟩ = some (.string t.b) ∧ W.cell? ⟨B, 2, none⟩ = some (.string t.r) ∧ W.cell? ⟨B, 3, none⟩ = some (.string t.c) ∧ W.cell? ⟨B, 4, none⟩ = some (.string t.d) ∧ W.cell? ⟨B, 5, none⟩ = some (.string t.s) := by
  unfold Box6 at h
  refine ⟨?_, ?_, ?_, ?_, ?_, ?_⟩ <;> simp [World.cell?, h]
theorem box6_own {β : Type} (B : Nat) (f : β → Tp) : Own (fun s W => Box6 W B (f s)) := fun s X Y row hs hg hrow => by
  have hlt : B < X.heap.size := (Array.getElem?_eq_some_iff.1 hs).1
  refine (hg.block B hlt (fun e' => ?_)).trans hs
  obtain ⟨o, ho, hc⟩ := hrow B e'.symm
  rw [show X.heap[B]? = _ from hs] at ho
  cases ho; cases hc

def vals (xs : List OkT) : List Tp := xs.map (·.1)
theorem vals_snoc (xs : List OkT) (x : OkT) : vals (xs ++ [x]) = vals xs ++ [x.1] := by simp [vals]
theorem vals_len (xs : List OkT) : (vals xs).length = xs.length := by simp [vals]

set_option maxRecDepth 100000 in
set_option maxHeartbeats 8000000 in
theorem appendSeqT_in (F : Fence) (n : Nat) (hf : F.fn 47) (hro : F.round = none) (hn : 2 ≤ n) (g : Nat) (lb : Array Value) (hFg : F.fn g) (eg : ∀ args w, (callFunc g args).run Try.prog w = .ok (.enter g args) w)
    (S : List OkT → Prop) (N : Nat) (hN : N ≤ 1000000) (w : World) (hseq : SeqStopsK F (n - 1) Try.prog g lb (fun x : OkT => #[encT x.1]) KeepsWalks S (fun _ => True) N w) :
    CallsIn F n Try.prog 47 #[.slice none 0 0, .func (.func g) #[] lb] w fun e w' => ∃ (v : Value) (xs : List OkT), e = .returned v ∧ S xs ∧ w'.ownsRow w.heap.size 39 6 v xs.length (rows6 (vals xs)) ∧ (v = .slice none 0 0 ↔ xs = []) ∧ Below w.heap.size w w' := by
  have h1 : 1 ≤ n := by omega
  obtain ⟨iT, hiT, zT0, zT1, zT2⟩ := info_parts (P := Try.prog) (e := 39) (z := .agg #[.string ⟨#[]⟩, .string ⟨#[]⟩, .string ⟨#[]⟩, .string ⟨#[]⟩, .string ⟨#[]⟩, .string ⟨#[]⟩]) (size := 6) (bytes := 96) (by kernel_rfl)
  refine callsIn_of_wp_marks Try.func47 rfl hf ?_ hro
  simp only [Try.ntmps47, List.size_toArray, List.length_cons, List.length_nil, Nat.reduceAdd, Nat.reduceSub, Array.replicate_succ, Array.replicate_zero, List.push_toArray, List.append_toArray, List.nil_append, List.cons_append]
  gi_wp2
  have bO := Boxed.new w 24 (.slice none 0 0)
  have hB0 : Below w.heap.size w (w.alloc (.cells #[.slice none 0 0] 24)) := (Below.refl _ w).alloc (Nat.le_refl _) _
  have hsz : (w.alloc (.cells #[.slice none 0 0] 24)).heap.size = w.heap.size + 1 := by simp
  obtain ⟨W0, hW0⟩ : ∃ W0, w.alloc (.cells #[.slice none 0 0] 24) = W0 := ⟨_, rfl⟩
  rw [hW0] at bO hB0 hsz ⊢
  clear hW0
  refine wpIn_rangeFunc_ownH hro h1 (gf := g) (lb := lb) rfl hFg eg hseq walksK_t walksK_b hB0 (fun _ => rfl)
    (fun pre W => (∃ v, Boxed W w.heap.size 24 v ∧ W.ownsRow w.heap.size 39 6 v pre.length (rows6 (vals pre)) ∧ (v = .slice none 0 0 ↔ pre = [])) ∧ Below w.heap.size w W)
    (fun _ _ _ => False)
    (OwnFrom.and (Own.from (holdsRow_own w.heap.size w.heap.size 24 39 6 (fun pre : List OkT => pre.length) (fun pre => rows6 (vals pre)) (fun pre v => v = .slice none 0 0 ↔ pre = [])) _) (ownFrom_below (Nat.le_refl _) (by omega)))
    (fun _ _ _ _ _ hs _ _ => hs)
    ⟨⟨_, bO, World.ownsRow_nil _ _ _ _, by simp⟩, hB0⟩
    (fun x a' W => ∃ Bx, Box6 W Bx x.1 ∧ a' = { tmps := #[.slice none 0 0, .func (.func g) #[] lb, .pointer (some ⟨w.heap.size, 0, none⟩), undef, .slice none 0 0, .pointer (some ⟨Bx, 0, none⟩), .func (.func g) #[] lb, encT x.1, undef, undef, undef, undef, undef], defers := [] })
    (fun x a' s X Y row hs hg hr => by obtain ⟨Bx, h, e⟩ := hs; exact ⟨Bx, Own.from (box6_own Bx (fun _ : Unit => x.1)) W0.heap.size () X Y row h hg hr, e⟩) ?assign ?body ?done ?stop
  case assign =>
    rintro l pre x W K ⟨⟨v, hv, hrow, hnil⟩, hB⟩ hK
    unfold encT
    gi_wp2
    exact hK _ _ ((KeepsOthers.alloc _ _).from _) (KeepsWalks.alloc _ _) ⟨⟨v, hv.alloc _, hrow.alloc _, hnil⟩, hB.alloc hB.size _⟩ ⟨W.heap.size, World.alloc_heap_new W _, rfl⟩
  case body =>
    rintro l pre x a' W hl hr ⟨⟨v, hv, hrow, hnil⟩, hB⟩ ⟨Bx, bX, rfl⟩ hlt
    have hc := hv.cell
    obtain ⟨c0, c1, c2, c3, c4, c5⟩ := bX.cells
    gi_wp2_with (gi_at_builtin; refine wpListIn_append_own _ rfl _ _ 24 rfl w.heap.size 39 iT (.agg #[.string ⟨#[]⟩, .string ⟨#[]⟩, .string ⟨#[]⟩, .string ⟨#[]⟩, .string ⟨#[]⟩, .string ⟨#[]⟩]) 6 96 Try.underlying24 hiT zT0 zT1 zT2 rfl (by decide) _ _ _ rfl (hrow.alloc _) ⟨W.heap.size, 0, none⟩ 1 1 x.1.row rfl rfl (row6_news W x.1) (row6_one x.1) (by unfold maxLen; omega) (by omega) (by have := hB.size; simp; omega) ?_; intro v' w1 hown' hgrow _; obtain ⟨g', cap', rfl⟩ := ownsRow_succ hown'; obtain ⟨hv1, hv2, hr2, hk2, hb2⟩ := hv.appended (by decide) hrow hB.size (Nat.le_refl _) hown' hgrow; have hc1 := hv1.cell; have hf1 := hv1.frozen)
    exact ⟨hk2.from _, hk2.walks, ⟨_, hv2, by rw [vals_snoc, rows6_snoc, List.length_append]; exact hr2, by simp⟩, hB.trans hb2⟩
  case done =>
    rintro D ys W hD hS ⟨⟨v, hv, hrow, hnil⟩, hB⟩ hK
    have hc := hv.cell
    gi_wp2
    refine ⟨by simp, .inl ⟨_, _, rfl, run_takeDeferred hK, ?_⟩⟩
    exact ⟨_, results_tmp rfl _ _ _, v, ys, rfl, hS, ownsRow_putObj hrow _ hK rfl, hnil, hB.trans (belowK_b (w := w) (Nat.le_refl _) W D _ _ (by omega) hK rfl rfl)⟩
  case stop =>
    rintro D c pre W _ _ h _
    exact h.elim

set_option maxHeartbeats 1000000 in
theorem collectT_in (F : Fence) (n : Nat) (hf : F.fn 39) (hf2 : F.fn 47) (hro : F.round = none) (hn : 3 ≤ n) (g : Nat) (lb : Array Value) (hFg : F.fn g) (eg : ∀ args w, (callFunc g args).run Try.prog w = .ok (.enter g args) w)
    (S : List OkT → Prop) (N : Nat) (hN : N ≤ 1000000) (w : World) (hseq : SeqStopsK F (n - 1 - 1) Try.prog g lb (fun x : OkT => #[encT x.1]) KeepsWalks S (fun _ => True) N w) :
    CallsIn F n Try.prog 39 #[.func (.func g) #[] lb] w fun e w' => ∃ (v : Value) (xs : List OkT), e = .returned v ∧ S xs ∧ w'.ownsRow w.heap.size 39 6 v xs.length (rows6 (vals xs)) ∧ (v = .slice none 0 0 ↔ xs = []) ∧ Below w.heap.size w w' := by
  have h1 : 1 ≤ n := by omega
  refine callsIn_of_wp Try.func39 rfl hf ?_ hro
  simp only [Try.ntmps39, List.size_toArray, List.length_cons, List.length_nil, Nat.reduceAdd, Nat.reduceSub, Array.replicate_succ, Array.replicate_zero, List.push_toArray, List.append_toArray, List.nil_append, List.cons_append]
  gi_wp2_with (gi_at_call 47; refine (appendSeqT_in F (n - 1) hf2 hro (by omega) g lb hFg eg S N hN _ hseq).mono ?_; rintro e w' ⟨v, xs, rfl, hS, hrow, hnil, hb⟩)
  go_ret
  exact ⟨v, xs, rfl, hS, hrow, hnil, hb⟩

/-- the list of a set's tuples, in some order, in memory of its own -/
theorem collectT (Bm b nn : Nat) (M : Tp → Option Value) (w : World) (hBm : Bm < w.heap.size) (hm : w.cell? ⟨Bm, 0, none⟩ = some (.map (some b))) (hV : MapV encT Try.prog 39 w b nn M) (hn : nn ≤ 1000) (hok : ∀ x, (M x).isSome = true → x.ok = true) :
    Calls Try.prog 39 #[.func (.func 41) #[] #[.pointer (some ⟨Bm, 0, none⟩)]] w fun e w' => ∃ (v : Value) (xs : List OkT), e = .returned v ∧ KeysOfM M xs ∧ w'.ownsRow w.heap.size 39 6 v xs.length (rows6 (vals xs)) ∧ (v = .slice none 0 0 ↔ xs = []) ∧ Below w.heap.size w w' := by
  obtain ⟨D, hown, hM⟩ := hV
  have hsz : Maps.size D ≤ 1000000 := by
    obtain ⟨es, clock, hb, Ft, hs, hD⟩ := hown
    rw [hD]
    have : ((es.toList.map (Go.WideElems.rg Try.prog 39 anyR)).foldr DataW.insert []).length = es.size := by
      rw [(Go.WideShapes.sorted_perm _).length_eq]; simp
    show List.length _ ≤ _
    omega
  refine (callsIn_wide (n := 5)).1 ?_
  exact collectT_in Fence.wide 5 trivial trivial rfl (by omega) _ _ trivial (enters_of Try.func41 (by kernel_rfl) rfl) (KeysOfM M) (Maps.size D) hsz w (keysT_stops Fence.wide 3 trivial rfl (by omega) Bm b nn D M w hBm hm hown hM hok)
end Go.Proofs.Ythicofnjehpalaa
