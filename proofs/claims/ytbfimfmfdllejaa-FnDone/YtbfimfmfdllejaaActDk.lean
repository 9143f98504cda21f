/- What an act leaves of a disk; contracts of the document's Do. -/
import Derived.Test.YtbfimfmfdllejaaSyncDk
namespace Go.Proofs.Ytbfimfmfdllejaa
open Go.ChangeShapes Go.WideShapes Go.ChangeAt Go.RowKit Go.Maps

theorem SlF.grown {W w' : World} {ad : Option Addr} {xs : List Fl} {b : Nat} {row : Option Nat} (h : SlF W ad xs) (hf : FrF W b ad (xs ≠ [])) (hg : W.grownBy w' row) (hn : xs ≠ [] → ∀ g, ad = some ⟨g, 0, none⟩ → row ≠ some g) : SlF w' ad xs ∧ FrF w' b ad (xs ≠ []) := by
  by_cases hx : xs = []
  · exact ⟨.inl hx, fun h => absurd hx h⟩
  · obtain ⟨g, rfl, h1, h2, h3⟩ := hf hx
    have hblk : w'.heap[g]? = W.heap[g]? := hg.block g h2 (fun e => hn hx g rfl e.symm)
    refine ⟨?_, fun _ => ⟨g, rfl, h1, Nat.lt_of_lt_of_le h2 hg.size, fun j => by rw [World.frozen?_of_block (w := W) (a := ⟨g, j, none⟩) hblk]; exact h3 j⟩⟩
    rcases h with h | ⟨b', off, e, hb, hr⟩
    · exact absurd h hx
    · injection e with e; injection e with e1 e2
      subst e1; subst e2
      exact .inr ⟨g, 0, rfl, Nat.lt_of_lt_of_le h2 hg.size, fun i hi => (hr i hi).same fun o => World.cell?_of_block (w := W) (a := ⟨g, o, none⟩) hblk⟩
/-- an op behind the ops: the disk still owns its rows -/
theorem own_app {W w' : World} {base bO : Nat} {adL adS adO ad' : Option Addr} {capO cap' : Nat} {ls ss : List Fl} {os : List Dop} {o : Dop} (sL : SlF W adL ls) (fL : FrF W base adL (ls ≠ [])) (sS : SlF W adS ss) (fS : FrF W base adS (ss ≠ [])) (fO : FrF W bO adO (os ≠ []))
    (n1 : ls ≠ [] → ss ≠ [] → adL ≠ adS) (n2 : ls ≠ [] → os ≠ [] → adL ≠ adO) (n3 : ss ≠ [] → os ≠ [] → adS ≠ adO) (hb : base ≤ bO)
    (hown : w'.ownsRow bO 37 4 (.slice ad' (os ++ [o]).length cap') (os ++ [o]).length (rowsO (os ++ [o])))
    (h : Below W.heap.size W w' ∧ (∃ g, ad' = some ⟨g, 0, none⟩ ∧ W.heap.size ≤ g) ∨ os ≠ [] ∧ W.grownBy w' (Value.ownBlock (.slice adO os.length capO)) ∧ (ad' = adO ∨ ∃ g, ad' = some ⟨g, 0, none⟩ ∧ W.heap.size ≤ g)) :
    OwnD w' base adL adS ad' ls ss (os ++ [o]) := by
  obtain ⟨a, c, e1, sO, fO'⟩ := own_ops hown rfl
  injection e1 with e1 _ _
  subst e1
  have far : ∀ {xs : List Fl} {ad : Option Addr}, FrF W base ad (xs ≠ []) → xs ≠ [] → (∃ g, ad' = some ⟨g, 0, none⟩ ∧ W.heap.size ≤ g) → ad ≠ ad' := fun hf hx ⟨g, e, hg⟩ => by
    obtain ⟨g', e', -, h2, -⟩ := hf hx
    rw [e, e']; exact someNe (by omega)
  rcases h with ⟨hB, hfr⟩ | ⟨ho, hgr, hloc⟩
  · exact ⟨sL.below hB, sS.below hB, sO, fL.below hB, fS.below hB, fO'.mono hb, n1, fun hl _ => far fL hl hfr, fun hl _ => far fS hl hfr⟩
  · have key : ∀ {xs : List Fl} {ad : Option Addr}, (xs ≠ [] → os ≠ [] → ad ≠ adO) → xs ≠ [] → ∀ g, ad = some ⟨g, 0, none⟩ → Value.ownBlock (.slice adO os.length capO) ≠ some g := fun hne hx g e e2 => by
      obtain ⟨gO, e3, -⟩ := fO ho
      subst e3
      simp only [Value.ownBlock, Option.some.injEq] at e2
      exact hne hx ho (by rw [e, e2])
    obtain ⟨sL', fL'⟩ := sL.grown fL hgr (key n2)
    obtain ⟨sS', fS'⟩ := sS.grown fS hgr (key n3)
    refine ⟨sL', sS', sO, fL', fS', fO'.mono hb, n1, fun hl _ => ?_, fun hl _ => ?_⟩
    · rcases hloc with rfl | hfr
      · exact n2 hl ho
      · exact far fL hl hfr
    · rcases hloc with rfl | hfr
      · exact n3 hl ho
      · exact far fS hl hfr

theorem app_block {W w' : World} {adO ad' : Option Addr} {capO : Nat} {os : List Dop}
    (h : Below W.heap.size W w' ∧ (∃ g, ad' = some ⟨g, 0, none⟩ ∧ W.heap.size ≤ g) ∨ os ≠ [] ∧ W.grownBy w' (Value.ownBlock (.slice adO os.length capO)) ∧ (ad' = adO ∨ ∃ g, ad' = some ⟨g, 0, none⟩ ∧ W.heap.size ≤ g)) {g : Nat} (hg : g < W.heap.size) (hn : Value.ownBlock (.slice adO os.length capO) ≠ some g) : w'.heap[g]? = W.heap[g]? := by
  rcases h with ⟨hB, -⟩ | ⟨-, hgr, -⟩
  · exact hB.block g hg
  · exact hgr.block g hg (fun e => hn e.symm)
theorem app_below {W w' : World} {adO ad' : Option Addr} {capO n : Nat} {os : List Dop}
    (h : Below W.heap.size W w' ∧ (∃ g, ad' = some ⟨g, 0, none⟩ ∧ W.heap.size ≤ g) ∨ os ≠ [] ∧ W.grownBy w' (Value.ownBlock (.slice adO os.length capO)) ∧ (ad' = adO ∨ ∃ g, ad' = some ⟨g, 0, none⟩ ∧ W.heap.size ≤ g)) (hn : n ≤ W.heap.size) (ho : ∀ k, Value.ownBlock (.slice adO os.length capO) = some k → n ≤ k) : Below n W w' := by
  rcases h with ⟨hB, -⟩ | ⟨-, hgr, -⟩
  · exact hB.mono hn
  · exact ⟨hgr.os, hgr.tape, hgr.output, hgr.size, fun k hk => hgr.block k (by omega) (fun e => by have := ho k e.symm; omega)⟩
def actC (ls : List Fl) (os : List Dop) (o : Dop) : Int := if formB o = false then 2 else if (doF ls o).2 = false then 3 else if os.length = 200 ∨ filesB (doF ls o).1 = false then 4 else 0
def actL (ls : List Fl) (os : List Dop) (o : Dop) : List Fl := if actC ls os o = 0 then (doF ls o).1 else ls
def actO (ls : List Fl) (os : List Dop) (o : Dop) : List Dop := if actC ls os o = 0 then os ++ [o] else os
def ActTo (w : World) (ls ss : List Fl) (os : List Dop) (c : Int) (e : Ending) (w' : World) : Prop := ∃ v, e = .returned (.tuple #[v, .int .i64 c]) ∧ DB w' w.heap.size v ls ss os ∧ Below w.heap.size w w'
theorem actTo_mk {w w' : World} {ls ss : List Fl} {os : List Dop} {a b c : Option Addr} {p q r : Nat} {k : Int} (hS : OwnD w' w.heap.size a b c ls ss os) (hc : Nils a b p q) (hB : Below w.heap.size w w') : ActTo w ls ss os k (.returned (.tuple #[.agg #[.slice a ls.length p, .slice b ss.length q, .slice c os.length r], .int .i64 k])) w' :=
  ⟨_, rfl, ⟨a, b, c, p, q, r, rfl, hS, hc⟩, hB⟩
theorem actTo_eq {w w' : World} {ls ss ls' ss' : List Fl} {os os' : List Dop} {k k' : Int} {e : Ending} (h1 : ls' = ls) (h2 : ss' = ss) (h3 : os' = os) (h4 : k' = k) (h : ActTo w ls ss os k e w') : ActTo w ls' ss' os' k' e w' := by rw [h1, h2, h3, h4]; exact h
theorem act_no {ls : List Fl} {os : List Dop} {o : Dop} {c : Int} (h : actC ls os o = c) (hc : c ≠ 0) : actL ls os o = ls ∧ actO ls os o = os := by
  have : actC ls os o ≠ 0 := by rw [h]; exact hc
  exact ⟨by rw [actL, if_neg this], by rw [actO, if_neg this]⟩
theorem act_yes {ls : List Fl} {os : List Dop} {o : Dop} (h : actC ls os o = 0) : actL ls os o = (doF ls o).1 ∧ actO ls os o = os ++ [o] := ⟨by rw [actL, if_pos h], by rw [actO, if_pos h]⟩

structure Box3 (w : World) (a b c k n t d : Value) (W : World) : Prop where
  z0 : W.cell? ⟨w.heap.size, 0, none⟩ = some a
  z1 : W.cell? ⟨w.heap.size, 1, none⟩ = some b
  z2 : W.cell? ⟨w.heap.size, 2, none⟩ = some c
  o0 : W.cell? ⟨w.heap.size + 1, 0, none⟩ = some k
  o1 : W.cell? ⟨w.heap.size + 1, 1, none⟩ = some n
  o2 : W.cell? ⟨w.heap.size + 1, 2, none⟩ = some t
  o3 : W.cell? ⟨w.heap.size + 1, 3, none⟩ = some d
  q0 : W.cell? ⟨w.heap.size + 1 + 1, 0, none⟩ = some (.slice none 0 0)
  q1 : W.cell? ⟨w.heap.size + 1 + 1, 1, none⟩ = some (.slice none 0 0)
  q2 : W.cell? ⟨w.heap.size + 1 + 1, 2, none⟩ = some (.slice none 0 0)
  qf : ∀ i, W.frozen? ⟨w.heap.size + 1 + 1, i, none⟩ = false
  sz : w.heap.size + 3 ≤ W.heap.size
theorem Box3.later {w W W' : World} {a b c k n t d : Value} (h : Box3 w a b c k n t d W) (hB : Below W.heap.size W W') : Box3 w a b c k n t d W' := by
  obtain ⟨z0, z1, z2, o0, o1, o2, o3, q0, q1, q2, qf, sz⟩ := h
  exact ⟨kept hB (by omega) z0, kept hB (by omega) z1, kept hB (by omega) z2, kept hB (by omega) o0, kept hB (by omega) o1, kept hB (by omega) o2, kept hB (by omega) o3, kept hB (by omega) q0, kept hB (by omega) q1, kept hB (by omega) q2, fun i => keptF hB (by omega) (qf i), Nat.le_trans sz hB.size⟩
theorem box3_new (w : World) (a b c k n t d : Value) (t1 t2 t3 : TypeId) : Box3 w a b c k n t d (((w.alloc (.cells #[a, b, c] t1)).alloc (.cells #[k, n, t, d] t2)).alloc (.cells #[.slice none 0 0, .slice none 0 0, .slice none 0 0] t3)) := by
  have h0 : ∀ i v, #[a, b, c][i]? = some v → (w.alloc (.cells #[a, b, c] t1)).cell? ⟨w.heap.size, i, none⟩ = some v := fun i v h => by
    have := World.cell?_alloc_mark w #[a, b, c] t1 (0, 0) i
    rw [h] at this; exact this
  have h1 : ∀ i v, #[k, n, t, d][i]? = some v → ((w.alloc (.cells #[a, b, c] t1)).alloc (.cells #[k, n, t, d] t2)).cell? ⟨w.heap.size + 1, i, none⟩ = some v := fun i v h => by
    have := World.cell?_alloc_mark (w.alloc (.cells #[a, b, c] t1)) #[k, n, t, d] t2 (0, 0) i
    rw [World.size_alloc, h] at this; exact this
  have h2 : ∀ i v, #[Value.slice none 0 0, .slice none 0 0, .slice none 0 0][i]? = some v → (((w.alloc (.cells #[a, b, c] t1)).alloc (.cells #[k, n, t, d] t2)).alloc (.cells #[.slice none 0 0, .slice none 0 0, .slice none 0 0] t3)).cell? ⟨w.heap.size + 1 + 1, i, none⟩ = some v := fun i v h => by
    have := World.cell?_alloc_mark ((w.alloc (.cells #[a, b, c] t1)).alloc (.cells #[k, n, t, d] t2)) #[.slice none 0 0, .slice none 0 0, .slice none 0 0] t3 (0, 0) i
    rw [World.size_alloc, World.size_alloc, h] at this; exact this
  have b1 : Below (w.alloc (.cells #[a, b, c] t1)).heap.size (w.alloc (.cells #[a, b, c] t1)) ((w.alloc (.cells #[a, b, c] t1)).alloc (.cells #[k, n, t, d] t2)) := (Below.refl _ _).alloc (Nat.le_refl _) _
  have b2 : Below ((w.alloc (.cells #[a, b, c] t1)).alloc (.cells #[k, n, t, d] t2)).heap.size ((w.alloc (.cells #[a, b, c] t1)).alloc (.cells #[k, n, t, d] t2)) (((w.alloc (.cells #[a, b, c] t1)).alloc (.cells #[k, n, t, d] t2)).alloc (.cells #[.slice none 0 0, .slice none 0 0, .slice none 0 0] t3)) := (Below.refl _ _).alloc (Nat.le_refl _) _
  have l1 : w.heap.size < (w.alloc (.cells #[a, b, c] t1)).heap.size := by simp only [World.size_alloc]; omega
  have l2 : w.heap.size < ((w.alloc (.cells #[a, b, c] t1)).alloc (.cells #[k, n, t, d] t2)).heap.size := by simp only [World.size_alloc]; omega
  have l3 : w.heap.size + 1 < ((w.alloc (.cells #[a, b, c] t1)).alloc (.cells #[k, n, t, d] t2)).heap.size := by simp only [World.size_alloc]; omega
  exact ⟨kept b2 l2 (kept b1 l1 (h0 0 _ rfl)), kept b2 l2 (kept b1 l1 (h0 1 _ rfl)), kept b2 l2 (kept b1 l1 (h0 2 _ rfl)), kept b2 l3 (h1 0 _ rfl), kept b2 l3 (h1 1 _ rfl), kept b2 l3 (h1 2 _ rfl), kept b2 l3 (h1 3 _ rfl), h2 0 _ rfl, h2 1 _ rfl, h2 2 _ rfl, fun i => by
    have := fz0 ((w.alloc (.cells #[a, b, c] t1)).alloc (.cells #[k, n, t, d] t2)) #[.slice none 0 0, .slice none 0 0, .slice none 0 0] t3 i
    rw [World.size_alloc, World.size_alloc] at this; exact this, by simp only [World.size_alloc]; omega⟩
theorem rowO_news (w : World) (o : Dop) : ∀ j u, o.row[j]? = some u → (w.alloc (.cells #[.int .i64 o.k, .string o.n, .string o.t, .string o.d] 37)).cell? ((⟨w.heap.size, 0, none⟩ : Addr).add j) = some u := by
  intro j u hu
  rw [add_noneD, Nat.zero_add]
  have := World.cell?_alloc_mark w #[.int .i64 o.k, .string o.n, .string o.t, .string o.d] 37 (0, 0) j
  rw [this]; simpa [Dop.row] using hu

set_option maxRecDepth 8000 in
set_option maxHeartbeats 1200000 in
theorem l8Act_any (adL adS adO : Option Addr) (capL capS capO : Nat) (ls ss : List Fl) (os : List Dop) (o : Dop) (w : World) (hl : ls.length ≤ 60) (hs : ss.length ≤ 1048576) (ho : os.length ≤ 1048576)
    (H : Dk w adL adS adO ls ss os w) (hcL : adL = none → capL = 0) (fl : ∀ f ∈ ls, f.n.size ≤ maxLen ∧ f.d.size ≤ 200000) (fo : o.small) :
    Calls Try.prog 36 #[.agg #[.slice adL ls.length capL, .slice adS ss.length capS, .slice adO os.length capO], .agg #[.int .i64 o.k, .string o.n, .string o.t, .string o.d]] w (ActTo w (actL ls os o) ss (actO ls os o) (actC ls os o)) := by
  obtain ⟨W, hW⟩ : ∃ W, W = ((w.alloc (.cells #[.slice adL ls.length capL, .slice adS ss.length capS, .slice adO os.length capO] 33)).alloc (.cells #[.int .i64 o.k, .string o.n, .string o.t, .string o.d] 37)).alloc (.cells #[.slice none 0 0, .slice none 0 0, .slice none 0 0] 33) := ⟨_, rfl⟩
  have X0 : Hid (Box3 w (.slice adL ls.length capL) (.slice adS ss.length capS) (.slice adO os.length capO) (.int .i64 o.k) (.string o.n) (.string o.t) (.string o.d) W) := by rw [hW]; exact box3_new _ _ _ _ _ _ _ _ _ _ _
  have hb0 : Below w.heap.size w W := by rw [hW]; exact (((Below.refl _ _).alloc (Nat.le_refl _) _).alloc (by simp) _).alloc (by simp; omega) _
  have K0 := HIDk (H.later hb0)
  have HFL := HIDk fl
  have HFO := HIDk fo
  have HCL := HIDk hcL
  clear H hb0 fl fo hcL
  go_enter Try.func36, Try.ntmps36
  go_wp2_with fail
  rw [← hW]
  clear hW
  refine (l8Form_any o W (small_fits HFO.out)).mono ?_
  rintro e w1 ⟨rfl, hb1⟩
  have K1 := HIDk (K0.out.later hb1)
  have X1 := HIDk (X0.out.later hb1)
  have HSZ1 := HIDk X1.out.sz
  clear hb1 K0 X0
  obtain ⟨z0, z1, z2, o0, o1, o2, o3, -, -, -, -, -⟩ := X1.out
  cases hfm : formB o with
  | false =>
    have HC : Hid (actC ls os o = 2) := by show _ = _; rw [actC, if_pos hfm]
    clear hfm
    go_wp2_with fail
    refine (l8Copy_any adL adS adO capL capS capO ls ss os w1 (by omega) hs ho (dk_self K1.out)).mono ?_
    rintro e wc ⟨vc, rfl, ⟨a1, a2, a3, p1, p2, p3, rfl, hS, hcS, -, -⟩, hbc⟩
    have HS := HIDk (hS.mono (b' := w.heap.size + 3) X1.out.sz)
    have HB := HIDk (K1.out.bel.trans (hbc.mono K1.out.bel.size))
    obtain ⟨-, -, -, -, -, -, -, q0, q1, q2, qf, -⟩ := X1.out.later hbc
    have HE := HIDk (act_no HC.out (by decide))
    clear hS hbc K1 X1 z0 z1 z2 o0 o1 o2 o3
    go_wp2
    refine bodyPost_ret (v := .tuple #[.agg #[.slice a1 ls.length p1, .slice a2 ss.length p2, .slice a3 os.length p3], .int .i64 2]) (by simp [results, Try.results36, go_sem, *]) rfl (actTo_eq HE.out.1 rfl HE.out.2 HC.out (actTo_mk ((own_box (own_box (own_box HS.out (show w.heap.size + 1 + 1 < w.heap.size + 3 by omega) _ _) (show w.heap.size + 1 + 1 < w.heap.size + 3 by omega) _ _) (show w.heap.size + 1 + 1 < w.heap.size + 3 by omega) _ _).mono (show w.heap.size ≤ w.heap.size + 3 by omega)) hcS ?_))
    exact ((HB.out.setCell (p := ⟨w.heap.size + 1 + 1, 0, none⟩) (by simp; omega) _).setCell (p := ⟨w.heap.size + 1 + 1, 1, none⟩) (by simp; omega) _).setCell (p := ⟨w.heap.size + 1 + 1, 2, none⟩) (by simp; omega) _
  | true =>
    have HFM := HIDk hfm
    clear hfm
    go_wp2_with fail
    refine (l8Do_any adL capL ls o w1 (by omega) K1.out.live HCL.out (fun f hf => by have := (HFL.out f hf).2; have := HFO.out.2.2; unfold maxLen; omega)).mono ?_
    rintro e w2 ⟨v2, rfl, hown2, hb2⟩
    obtain ⟨adN, capN, rfl, hcN, hsN, hfN⟩ := own_filesF hown2 rfl
    have HSN := HIDk hsN
    have HFN := HIDk hfN
    have HCN := HIDk hcN
    have K2 := HIDk (K1.out.later hb2)
    have X2 := HIDk (X1.out.later hb2)
    clear hown2 hb2 hsN hfN hcN K1 X1 z0 z1 z2 o0 o1 o2 o3
    obtain ⟨z0, z1, z2, o0, o1, o2, o3, -, -, -, -, -⟩ := X2.out
    cases h2 : (doF ls o).2 with
    | false =>
      have HC : Hid (actC ls os o = 3) := by show _ = _; rw [actC, if_neg (by rw [HFM.out]; decide), if_pos h2]
      clear h2
      go_wp2_with fail
      refine (l8Copy_any adL adS adO capL capS capO ls ss os w2 (by omega) hs ho (dk_self K2.out)).mono ?_
      rintro e wc ⟨vc, rfl, ⟨a1, a2, a3, p1, p2, p3, rfl, hS, hcS, -, -⟩, hbc⟩
      have HS := HIDk (hS.mono (b' := w.heap.size + 3) X2.out.sz)
      have HB := HIDk (K2.out.bel.trans (hbc.mono K2.out.bel.size))
      obtain ⟨-, -, -, -, -, -, -, q0, q1, q2, qf, -⟩ := X2.out.later hbc
      have HE := HIDk (act_no HC.out (by decide))
      clear hS hbc K2 X2 z0 z1 z2 o0 o1 o2 o3
      go_wp2
      refine bodyPost_ret (v := .tuple #[.agg #[.slice a1 ls.length p1, .slice a2 ss.length p2, .slice a3 os.length p3], .int .i64 3]) (by simp [results, Try.results36, go_sem, *]) rfl (actTo_eq HE.out.1 rfl HE.out.2 HC.out (actTo_mk ((own_box (own_box (own_box HS.out (show w.heap.size + 1 + 1 < w.heap.size + 3 by omega) _ _) (show w.heap.size + 1 + 1 < w.heap.size + 3 by omega) _ _) (show w.heap.size + 1 + 1 < w.heap.size + 3 by omega) _ _).mono (show w.heap.size ≤ w.heap.size + 3 by omega)) hcS ?_))
      exact ((HB.out.setCell (p := ⟨w.heap.size + 1 + 1, 0, none⟩) (by simp; omega) _).setCell (p := ⟨w.heap.size + 1 + 1, 1, none⟩) (by simp; omega) _).setCell (p := ⟨w.heap.size + 1 + 1, 2, none⟩) (by simp; omega) _
    | true =>
      have HH2 := HIDk h2
      clear h2
      by_cases h200 : os.length = 200
      · have HC : Hid (actC ls os o = 4) := by show _ = _; rw [actC, if_neg (by rw [HFM.out]; decide), if_neg (by rw [HH2.out]; decide), if_pos (.inl h200)]
        have d200 : ((os.length : Int) == 200) = true := by simp; omega
        clear h200
        go_wp2_with fail
        clear d200
        refine (l8Copy_any adL adS adO capL capS capO ls ss os w2 (by omega) hs ho (dk_self K2.out)).mono ?_
        rintro e wc ⟨vc, rfl, ⟨a1, a2, a3, p1, p2, p3, rfl, hS, hcS, -, -⟩, hbc⟩
        have HS := HIDk (hS.mono (b' := w.heap.size + 3) X2.out.sz)
        have HB := HIDk (K2.out.bel.trans (hbc.mono K2.out.bel.size))
        obtain ⟨-, -, -, -, -, -, -, q0, q1, q2, qf, -⟩ := X2.out.later hbc
        have HE := HIDk (act_no HC.out (by decide))
        clear hS hbc K2 X2 z0 z1 z2 o0 o1 o2 o3
        go_wp2
        refine bodyPost_ret (v := .tuple #[.agg #[.slice a1 ls.length p1, .slice a2 ss.length p2, .slice a3 os.length p3], .int .i64 4]) (by simp [results, Try.results36, go_sem, *]) rfl (actTo_eq HE.out.1 rfl HE.out.2 HC.out (actTo_mk ((own_box (own_box (own_box HS.out (show w.heap.size + 1 + 1 < w.heap.size + 3 by omega) _ _) (show w.heap.size + 1 + 1 < w.heap.size + 3 by omega) _ _) (show w.heap.size + 1 + 1 < w.heap.size + 3 by omega) _ _).mono (show w.heap.size ≤ w.heap.size + 3 by omega)) hcS ?_))
        exact ((HB.out.setCell (p := ⟨w.heap.size + 1 + 1, 0, none⟩) (by simp; omega) _).setCell (p := ⟨w.heap.size + 1 + 1, 1, none⟩) (by simp; omega) _).setCell (p := ⟨w.heap.size + 1 + 1, 2, none⟩) (by simp; omega) _
      · have d200 : ((os.length : Int) == 200) = false := by simp; omega
        have H200 := HIDk h200
        clear h200
        have HDS := HIDk (doF_small HFO.out HFL.out hl)
        go_wp2_with fail
        refine (l8Files_any adN capN (doF ls o).1 w2 HDS.out.1 HSN.out HDS.out.2).mono ?_
        rintro e w3 ⟨rfl, hb3⟩
        have HSN3 := HIDk (HSN.out.below hb3)
        have HFN3 := HIDk (HFN.out.below hb3)
        have K3 := HIDk (K2.out.later hb3)
        have X3 := HIDk (X2.out.later hb3)
        have n3 : w2.heap.size ≤ w3.heap.size := hb3.size
        clear hb3 HSN HFN z0 z1 z2 o0 o1 o2 o3
        obtain ⟨z0, z1, z2, o0, o1, o2, o3, -, -, -, -, -⟩ := X3.out
        cases hfn : filesB (doF ls o).1 with
        | false =>
          have HC : Hid (actC ls os o = 4) := by show _ = _; rw [actC, if_neg (by rw [HFM.out]; decide), if_neg (by rw [HH2.out]; decide), if_pos (.inr hfn)]
          clear hfn K2 X2
          go_wp2_with fail
          refine (l8Copy_any adL adS adO capL capS capO ls ss os w3 (by omega) hs ho (dk_self K3.out)).mono ?_
          rintro e wc ⟨vc, rfl, ⟨a1, a2, a3, p1, p2, p3, rfl, hS, hcS, -, -⟩, hbc⟩
          have HS := HIDk (hS.mono (b' := w.heap.size + 3) X3.out.sz)
          have HB := HIDk (K3.out.bel.trans (hbc.mono K3.out.bel.size))
          obtain ⟨-, -, -, -, -, -, -, q0, q1, q2, qf, -⟩ := X3.out.later hbc
          have HE := HIDk (act_no HC.out (by decide))
          clear hS hbc K3 X3 z0 z1 z2 o0 o1 o2 o3
          go_wp2
          refine bodyPost_ret (v := .tuple #[.agg #[.slice a1 ls.length p1, .slice a2 ss.length p2, .slice a3 os.length p3], .int .i64 4]) (by simp [results, Try.results36, go_sem, *]) rfl (actTo_eq HE.out.1 rfl HE.out.2 HC.out (actTo_mk ((own_box (own_box (own_box HS.out (show w.heap.size + 1 + 1 < w.heap.size + 3 by omega) _ _) (show w.heap.size + 1 + 1 < w.heap.size + 3 by omega) _ _) (show w.heap.size + 1 + 1 < w.heap.size + 3 by omega) _ _).mono (show w.heap.size ≤ w.heap.size + 3 by omega)) hcS ?_))
          exact ((HB.out.setCell (p := ⟨w.heap.size + 1 + 1, 0, none⟩) (by simp; omega) _).setCell (p := ⟨w.heap.size + 1 + 1, 1, none⟩) (by simp; omega) _).setCell (p := ⟨w.heap.size + 1 + 1, 2, none⟩) (by simp; omega) _
        | true =>
          have HC : Hid (actC ls os o = 0) := by show _ = _; rw [actC, if_neg (by rw [HFM.out]; decide), if_neg (by rw [HH2.out]; decide), if_neg (by rw [hfn]; simp; exact H200.out)]
          have HLT : Hid ((doF ls o).1 ≠ [] → ∃ g, adN = some ⟨g, 0, none⟩ ∧ g < w3.heap.size) := fun hn => by obtain ⟨g, e, -, h, -⟩ := HFN3.out hn; exact ⟨g, e, h⟩
          clear hfn K2 X2
          go_wp2_with fail
          refine (l8Copy_any adL adS adO capL capS capO ls ss os w3 (by omega) hs ho (dk_self K3.out)).mono ?_
          rintro e w4 ⟨v4, rfl, ⟨a1, a2, a3, p1, p2, p3, rfl, hS, hcS, hOw, hOz⟩, hb4⟩
          have B4 := HIDk (K3.out.bel.trans (hb4.mono K3.out.bel.size))
          have X4 := HIDk (X3.out.later hb4)
          have hm := hb4.size
          have hsz := X3.out.sz
          have hz2 : w.heap.size + 3 ≤ w1.heap.size := HSZ1.out
          obtain ⟨A5, hA5⟩ : ∃ A5, A5 = w4.alloc (.cells #[.slice adN (doF ls o).1.length capN, .slice a2 ss.length p2, .slice a3 os.length p3] 33) := ⟨_, rfl⟩
          obtain ⟨X6, hX6⟩ : ∃ X6, X6 = A5.alloc (.cells #[.int .i64 o.k, .string o.n, .string o.t, .string o.d] 37) := ⟨_, rfl⟩
          have hs5 : A5.heap.size = w4.heap.size + 1 := by rw [hA5]; simp
          have hb5 : Below w4.heap.size w4 A5 := by rw [hA5]; exact (Below.refl _ _).alloc (Nat.le_refl _) _
          have hb56 : Below A5.heap.size A5 X6 := by rw [hX6]; exact (Below.refl _ _).alloc (Nat.le_refl _) _
          have hb6 : Below w4.heap.size w4 X6 := hb5.trans (hb56.mono (by omega))
          have hs6 : X6.heap.size = w4.heap.size + 1 + 1 := by rw [hX6, World.size_alloc, hs5]
          have hmk : ∀ i v, #[Value.slice adN (doF ls o).1.length capN, .slice a2 ss.length p2, .slice a3 os.length p3][i]? = some v → X6.cell? ⟨w4.heap.size, i, none⟩ = some v := fun i v h => kept hb56 (by omega) (by
            have := World.cell?_alloc_mark w4 #[.slice adN (doF ls o).1.length capN, .slice a2 ss.length p2, .slice a3 os.length p3] 33 (0, 0) i
            rw [h] at this; rw [hA5]; exact this)
          have m0 := hmk 0 _ rfl
          have m1 := hmk 1 _ rfl
          have m2 := hmk 2 _ rfl
          have mf : ∀ i, X6.frozen? ⟨w4.heap.size, i, none⟩ = false := fun i => keptF hb56 (by omega) (by rw [hA5]; exact fz0 _ _ _ i)
          have hcell : ∀ j u, o.row[j]? = some u → X6.cell? ((⟨w4.heap.size + 1, 0, none⟩ : Addr).add j) = some u := fun j u hu => by
            have := rowO_news A5 o j u hu
            rw [hs5] at this; rw [hX6]; exact this
          obtain ⟨ad', cap', w7, hr7, hO7, halt⟩ := appOp X6 w3.heap.size a3 p3 os o (w4.heap.size + 1) 31 (own_later hOw hb6) (by omega) hOz hcell (by omega)
          have hob : ∀ k, Value.ownBlock (.slice a3 os.length p3) = some k → w3.heap.size ≤ k ∧ k < w4.heap.size := fun k hk => hOw.lt k hk
          have hbk : ∀ g, g < X6.heap.size → (g < w3.heap.size ∨ w4.heap.size ≤ g) → w7.heap[g]? = X6.heap[g]? := fun g hg hd => app_block halt hg (fun e => by have := hob g e; omega)
          have hOD := own_app (base := w.heap.size + 3) (o := o) (HSN3.out.below hb4 |>.below hb6) ((HFN3.out.below hb4 |>.below hb6).mono (by omega)) (hS.safe.below hb6) ((hS.fs.below hb6).mono (by omega)) (hS.fo.below hb6)
            (fun hn h2 => by obtain ⟨g, e, hg⟩ := HLT.out hn; obtain ⟨g', e', hg', -⟩ := hS.fs h2; rw [e, e']; exact someNe (by omega))
            (fun hn h2 => by obtain ⟨g, e, hg⟩ := HLT.out hn; obtain ⟨g', e', hg', -⟩ := hS.fo h2; rw [e, e']; exact someNe (by omega)) hS.nSO (by omega) hO7 halt
          have hIn : ∀ g, InD adN a2 ad' (doF ls o).1 ss (os ++ [o]) g → g ≠ w4.heap.size := fun g hg e => by
            subst e
            rcases hg with ⟨hn, e⟩ | ⟨hn, e⟩ | ⟨hn, e⟩
            · obtain ⟨g, e', hg⟩ := HLT.out hn; rw [e] at e'; injection e' with e'; injection e' with e'; omega
            · obtain ⟨g, e', -, hg, -⟩ := hS.fs hn; rw [e] at e'; injection e' with e'; injection e' with e'; omega
            · rcases halt with ⟨-, g, e', hg⟩ | ⟨ho', -, rfl | ⟨g, e', hg⟩⟩
              · rw [e] at e'; injection e' with e'; injection e' with e'; omega
              · obtain ⟨g, e', -, hg, -⟩ := hS.fo ho'; rw [e] at e'; injection e' with e'; injection e' with e'; omega
              · rw [e] at e'; injection e' with e'; injection e' with e'; omega
          have hc7 : ∀ g i, g < X6.heap.size → (g < w3.heap.size ∨ w4.heap.size ≤ g) → w7.cell? ⟨g, i, none⟩ = X6.cell? ⟨g, i, none⟩ := fun g i hg hd => World.cell?_of_block (w := X6) (a := ⟨g, i, none⟩) (hbk g hg hd)
          have hf7 : ∀ g i, g < X6.heap.size → (g < w3.heap.size ∨ w4.heap.size ≤ g) → w7.frozen? ⟨g, i, none⟩ = X6.frozen? ⟨g, i, none⟩ := fun g i hg hd => World.frozen?_of_block (w := X6) (a := ⟨g, i, none⟩) (hbk g hg hd)
          obtain ⟨-, -, -, -, -, -, -, q0, q1, q2, qf, -⟩ := (X4.out.later hb6)
          replace q0 := (hc7 (w.heap.size + 1 + 1) 0 (by omega) (.inl (by omega))).trans q0
          replace q1 := (hc7 (w.heap.size + 1 + 1) 1 (by omega) (.inl (by omega))).trans q1
          replace q2 := (hc7 (w.heap.size + 1 + 1) 2 (by omega) (.inl (by omega))).trans q2
          have qf7 : ∀ i, w7.frozen? ⟨w.heap.size + 1 + 1, i, none⟩ = false := fun i => (hf7 _ i (by omega) (.inl (by omega))).trans (qf i)
          replace m0 := (hc7 w4.heap.size 0 (by omega) (.inr (by omega))).trans m0
          replace m1 := (hc7 w4.heap.size 1 (by omega) (.inr (by omega))).trans m1
          replace m2 := (hc7 w4.heap.size 2 (by omega) (.inr (by omega))).trans m2
          have mf7 : ∀ i, w7.frozen? ⟨w4.heap.size, i, none⟩ = false := fun i => (hf7 _ i (by omega) (.inr (by omega))).trans (mf i)
          have hB7 : Below w.heap.size w w7 := (B4.out.trans (hb6.mono B4.out.size)).trans (app_below halt (by have := B4.out.size; omega) (fun k hk => by have := hob k hk; omega))
          have HOD := HIDk hOD
          have HIN := HIDk hIn
          have HB7 := HIDk hB7
          have HR7 := HIDk hr7
          have HE := HIDk (act_yes HC.out)
          have HCS : Hid (Nils adN a2 capN p2) := ⟨hcS.1, HCN.out⟩
          obtain ⟨-, -, -, y0, y1, y2, y3, -, -, -, -, -⟩ := X4.out.later hb5
          rw [hA5] at y0 y1 y2 y3 hX6
          clear hOD hIn hB7 hr7 hO7 halt hob hbk hc7 hf7 hcell hb6 hb5 hb56 hmk hs5 hA5 hb4 hS hOw hOz hcS qf mf K3 X3 X4 B4 HSN3 HFN3 HLT HDS z0 z1 z2 o0 o1 o2 o3 d200 H200
          have hne : w4.heap.size ≠ w.heap.size + 1 + 1 := by omega
          have hne2 : w.heap.size + 1 ≠ w4.heap.size := by omega
          go_wp2_with (at_builtin; rw [← hX6]; clear hX6; refine wpList_append_run rfl _ _ 31 31 rfl (.slice a3 os.length p3) (.slice (some ⟨w4.heap.size + 1, 0, none⟩) 1 1) (.slice ad' (os ++ [o]).length cap') w7 rfl rfl HR7.out ?_)
          go_wp2
          refine bodyPost_ret (v := .tuple #[.agg #[.slice adN (doF ls o).1.length capN, .slice a2 ss.length p2, .slice ad' (os.length + 1) cap'], .int .i64 0]) (by simp [results, Try.results36, go_sem, *]) rfl (actTo_eq HE.out.1 rfl HE.out.2 HC.out ?_)
          have hfin := actTo_mk (w := w) (k := 0) (p := capN) (q := p2) (r := cap') ((own_box (own_box (own_box (HOD.out.chg (S := fun y => y = w4.heap.size) (Chg.set (j := 2) (.slice ad' (os.length + 1) cap') rfl) (fun g hg e => HIN.out g hg e)) (show w.heap.size + 1 + 1 < w.heap.size + 3 by omega) 0 (.slice adN (doF ls o).1.length capN)) (show w.heap.size + 1 + 1 < w.heap.size + 3 by omega) 1 (.slice a2 ss.length p2)) (show w.heap.size + 1 + 1 < w.heap.size + 3 by omega) 2 (.slice ad' (os.length + 1) cap')).mono (show w.heap.size ≤ w.heap.size + 3 by omega)) HCS.out
            ((((HB7.out.setCell (p := ⟨w4.heap.size, 2, none⟩) (by simp; omega) _).setCell (p := ⟨w.heap.size + 1 + 1, 0, none⟩) (by simp; omega) _).setCell (p := ⟨w.heap.size + 1 + 1, 1, none⟩) (by simp; omega) _).setCell (p := ⟨w.heap.size + 1 + 1, 2, none⟩) (by simp; omega) _)
          rw [show (os ++ [o]).length = os.length + 1 by simp] at hfin
          exact hfin

def dC (ls ss : List Fl) (os : List Dop) (o : Dop) : Int := if diskB ls ss os then actC ls os o else 1
def dL (ls ss : List Fl) (os : List Dop) (o : Dop) : List Fl := if diskB ls ss os then actL ls os o else []
def dS (ls ss : List Fl) (os : List Dop) : List Fl := if diskB ls ss os then ss else []
def dO (ls ss : List Fl) (os : List Dop) (o : Dop) : List Dop := if diskB ls ss os then actO ls os o else []
theorem diskB_facts {ls ss : List Fl} {os : List Dop} (h : diskB ls ss os = true) : filesB ls = true ∧ filesB ss = true ∧ os.length ≤ 200 := by
  simp only [diskB, Bool.and_eq_true, decide_eq_true_eq] at h
  exact ⟨h.1.1.1, h.1.1.2, h.1.2⟩
theorem actTo_nil {w w' : World} {k : Int} (hB : Below w.heap.size w w') : ActTo w [] [] [] k (.returned (.tuple #[.agg #[.slice none 0 0, .slice none 0 0, .slice none 0 0], .int .i64 k])) w' :=
  ⟨_, rfl, ⟨none, none, none, 0, 0, 0, rfl, ownD_nil _ _, ⟨fun _ => rfl, fun _ => rfl⟩⟩, hB⟩

set_option maxRecDepth 8000 in
set_option maxHeartbeats 4000000 in
theorem specDo_any (adL adS adO : Option Addr) (capL capS capO : Nat) (ls ss : List Fl) (os : List Dop) (o : Dop) (w : World) (hl : ls.length ≤ 1048576) (hs : ss.length ≤ 1048576) (ho : os.length ≤ 1048576)
    (H : Dk w adL adS adO ls ss os w) (hcL : adL = none → capL = 0) (hcS : adS = none → capS = 0) (fl : ∀ f ∈ ls, f.n.size ≤ maxLen ∧ f.d.size ≤ 4194304) (fs' : ∀ f ∈ ss, f.n.size ≤ maxLen ∧ f.d.size ≤ 4194304) (fo : ∀ o ∈ os, o.small) (fop : o.small) :
    Calls Try.prog 11 #[.agg #[.slice adL ls.length capL, .slice adS ss.length capS, .slice adO os.length capO], .agg #[.int .i64 o.k, .string o.n, .string o.t, .string o.d]] w (ActTo w (dL ls ss os o) (dS ls ss os) (dO ls ss os o) (dC ls ss os o)) := by
  obtain ⟨W, hW⟩ : ∃ W, W = ((w.alloc (.cells #[.slice adL ls.length capL, .slice adS ss.length capS, .slice adO os.length capO] 33)).alloc (.cells #[.int .i64 o.k, .string o.n, .string o.t, .string o.d] 37)).alloc (.cells #[.slice none 0 0, .slice none 0 0, .slice none 0 0] 33) := ⟨_, rfl⟩
  have X0 : Hid (Box3 w (.slice adL ls.length capL) (.slice adS ss.length capS) (.slice adO os.length capO) (.int .i64 o.k) (.string o.n) (.string o.t) (.string o.d) W) := by rw [hW]; exact box3_new _ _ _ _ _ _ _ _ _ _ _
  have hb0 : Below w.heap.size w W := by rw [hW]; exact (((Below.refl _ _).alloc (Nat.le_refl _) _).alloc (by simp) _).alloc (by simp; omega) _
  have K0 := HIDk (H.later hb0)
  have HFL := HIDk fl
  have HFS := HIDk fs'
  have HFO := HIDk fo
  have HOP := HIDk fop
  have HCL := HIDk hcL
  have HCS := HIDk hcS
  clear H hb0 fl fs' fo hcL hcS fop
  go_enter Try.func11, Try.ntmps11
  go_wp2_with fail
  rw [← hW]
  clear hW
  refine (specDiskOk_any adL adS adO capL capS capO ls ss os W hl hs ho (dk_self K0.out) HCS.out HFL.out HFS.out HFO.out).mono ?_
  rintro e w1 ⟨rfl, hb1⟩
  have K1 := HIDk (K0.out.later hb1)
  have X1 := HIDk (X0.out.later hb1)
  clear hb1 K0 X0
  obtain ⟨z0, z1, z2, o0, o1, o2, o3, q0, q1, q2, qf, hsz⟩ := X1.out
  cases hd : diskB ls ss os with
  | false =>
    have HE : Hid (dL ls ss os o = [] ∧ dS ls ss os = [] ∧ dO ls ss os o = [] ∧ dC ls ss os o = 1) := ⟨by rw [dL, hd]; rfl, by rw [dS, hd]; rfl, by rw [dO, hd]; rfl, by rw [dC, hd]; rfl⟩
    clear hd
    go_wp2
    refine bodyPost_ret (v := .tuple #[.agg #[.slice none 0 0, .slice none 0 0, .slice none 0 0], .int .i64 1]) (by simp [results, Try.results11, go_sem, *]) rfl (actTo_eq HE.out.1 HE.out.2.1 HE.out.2.2.1 HE.out.2.2.2 (actTo_nil ?_))
    exact ((K1.out.bel.setCell (p := ⟨w.heap.size + 1 + 1, 0, none⟩) (by simp; omega) _).setCell (p := ⟨w.heap.size + 1 + 1, 1, none⟩) (by simp; omega) _).setCell (p := ⟨w.heap.size + 1 + 1, 2, none⟩) (by simp; omega) _
  | true =>
    have HE : Hid (dL ls ss os o = actL ls os o ∧ dS ls ss os = ss ∧ dO ls ss os o = actO ls os o ∧ dC ls ss os o = actC ls os o) := ⟨by rw [dL, hd]; rfl, by rw [dS, hd]; rfl, by rw [dO, hd]; rfl, by rw [dC, hd]; rfl⟩
    obtain ⟨hfl, -, -⟩ := diskB_facts hd
    obtain ⟨l60, hlf⟩ := filesB_facts hfl
    have HLF := HIDk hlf
    clear hd hfl hlf
    go_wp2_with fail
    refine (l8Act_any adL adS adO capL capS capO ls ss os o w1 l60 hs ho (dk_self K1.out) HCL.out HLF.out HOP.out).mono ?_
    rintro e w2 ⟨v2, rfl, ⟨a1, a2, a3, p1, p2, p3, rfl, hS, hcS⟩, hb2⟩
    have HS := HIDk (hS.mono (b' := w.heap.size + 3) hsz)
    have HB := HIDk (K1.out.bel.trans (hb2.mono K1.out.bel.size))
    have HC := HIDk hcS
    obtain ⟨-, -, -, -, -, -, -, r0, r1, r2, rf, -⟩ := X1.out.later hb2
    generalize actL ls os o = LL at *
    generalize actO ls os o = OO at *
    generalize actC ls os o = CC at *
    clear hS hcS hb2 K1 X1 z0 z1 z2 o0 o1 o2 o3 q0 q1 q2 qf
    go_wp2
    refine bodyPost_ret (v := .tuple #[.agg #[.slice a1 LL.length p1, .slice a2 ss.length p2, .slice a3 OO.length p3], .int .i64 CC]) (by simp [results, Try.results11, go_sem, *]) rfl (actTo_eq HE.out.1 HE.out.2.1 HE.out.2.2.1 HE.out.2.2.2 (actTo_mk ((own_box (own_box (own_box HS.out (show w.heap.size + 1 + 1 < w.heap.size + 3 by omega) _ _) (show w.heap.size + 1 + 1 < w.heap.size + 3 by omega) _ _) (show w.heap.size + 1 + 1 < w.heap.size + 3 by omega) _ _).mono (show w.heap.size ≤ w.heap.size + 3 by omega)) HC.out ?_))
    exact ((HB.out.setCell (p := ⟨w.heap.size + 1 + 1, 0, none⟩) (by simp; omega) _).setCell (p := ⟨w.heap.size + 1 + 1, 1, none⟩) (by simp; omega) _).setCell (p := ⟨w.heap.size + 1 + 1, 2, none⟩) (by simp; omega) _
end Go.Proofs.Ytbfimfmfdllejaa
