/- What a slice of types that can be read leads to: a schema whose strings and lists fit. -/
import Derived.Test.YtmghabcaakgjiaaGreatJ2
import Derived.Test.YtmghabcaakgjiaaGreatJ24
import Derived.Test.YtmghabcaakgjiaaGreatImplPruned
import Derived.Test.YtmghabcaakgjiaaGreatJ23
import Derived.Test.YtmghabcaakgjiaaGreatSzW
namespace Go.Proofs.YtmghabcaakgjiaaGreat
open Go.ChangeShapes Go.WideShapes Go.ChangeAt Go.RowKit Go.Joins Go.Deep

section
variable {H : Type} {enc : TypeId × Value → H} {W : World} {base : Nat} {sp : Nat → Bool} {held : Bool}

theorem cellsRR : Tryz.prog.cellsOf 116 = 2 := by kernel_rfl
theorem cellsInRR : Tryz.prog.cellsOf 114 = 1 := by kernel_rfl
set_option maxRecDepth 100000 in
theorem readRR {fuel : Nat} {cs : List Value} {x : DataW H × List MemPlace} (h : DataW.trod enc Tryz.prog W base sp held fuel 116 cs = some x) :
    ∃ r : RR, cs = [.string r.name, .slice r.ad r.rows.length r.cap] ∧ r.ok W ∧ r.fits := by
  obtain ⟨y0, y1, n, -, hl, h0, h1⟩ := trod_struct2 Tryz.underlying116 h
  rw [cellsRR] at hl
  match cs, hl with
  | [c0, c1], _ =>
    simp only [cellsStr', cellsInRR, List.drop_zero, List.drop_succ_cons, List.take_succ_cons, List.take_zero] at h0 h1
    obtain ⟨a, e0, -, wa⟩ := DataW.trod_string Tryz.underlying9 h0
    obtain ⟨ad, len, cap, e1⟩ : ∃ ad len cap, c1 = .slice ad len cap := by
      rcases open_slice Tryz.underlying114 h1 with ⟨hcs, -⟩ | ⟨a, l, c, m, n, D, Pl, hcs, -⟩
      · simp at hcs; exact ⟨_, _, _, hcs⟩
      · simp at hcs; exact ⟨_, _, _, hcs⟩
    simp at e0
    subst e0 e1
    obtain ⟨rs, rfl, hs, hf, hm⟩ := open_exprs h1
    exact ⟨⟨a, rs, ad, cap⟩, rfl, hs, wa, hm, hf⟩

theorem open_rels {fuel : Nat} {ad : Option Addr} {len cap : Nat} {x : DataW H × List MemPlace} (h : DataW.trod enc Tryz.prog W base sp held fuel 34 [.slice ad len cap] = some x) :
    ∃ rs : List RR, rs.length = len ∧ SlR W ad rs ∧ (∀ r ∈ rs, r.fits) ∧ len ≤ maxLen := by
  rcases open_slice Tryz.underlying34 h with ⟨hcs, -⟩ | ⟨a, l, c, m, n, D, Pl, hcs, -, hlc, hcm, hm, -, hel⟩
  · simp at hcs
    obtain ⟨rfl, rfl, rfl⟩ := hcs
    exact ⟨[], rfl, .inl rfl, (fun t ht => by cases ht), by unfold maxLen; omega⟩
  · simp at hcs
    obtain ⟨rfl, rfl, rfl⟩ := hcs
    have hle : len ≤ m := by rw [hm]; split <;> omega
    by_cases h0 : len = 0
    · subst h0
      exact ⟨[], rfl, .inl rfl, (fun t ht => by cases ht), by omega⟩
    have key : ∀ i, i < len → ∃ r : RR, (∀ j, j < 2 → W.cell? ((a.add (i * 2)).add j) = [Value.string r.name, .slice r.ad r.rows.length r.cap][j]?) ∧ r.ok W ∧ r.fits := by
      intro i hi
      obtain ⟨cs', hc, hd⟩ := hel i (by omega)
      rw [cellsRR] at hc
      obtain ⟨r, rfl, hh⟩ := readRR hd
      exact ⟨r, fun j hj => (World.cells?_some hc).2.2 j hj, hh⟩
    have hspot : a.spot = none := by
      obtain ⟨t, ht, -⟩ := key 0 (by omega)
      have := ht 0 (by omega)
      have e : (a.add (0 * 2)).add 0 = a := by simp [Addr.add]
      rw [e] at this
      exact World.cell?_spot this
    obtain ⟨b, off, spot⟩ := a
    simp only at hspot
    subst hspot
    obtain ⟨f, hf⟩ := @choose_lt RR ⟨⟨⟨#[]⟩, [], none, 0⟩⟩ len _ key
    have at2 : ∀ i, i < len → AtR W b (off + i * 2) (f i) := by
      intro i hi
      obtain ⟨hc, -⟩ := hf i hi
      simp only [add_none'] at hc
      exact ⟨hc 0 (by omega), hc 1 (by omega)⟩
    refine ⟨(List.range len).map f, by simp, .inr ⟨b, off, rfl, ?_, ?_, ?_⟩, ?_, by omega⟩
    · exact World.block_lt_of_cell? W ⟨b, off + 0 * 2, none⟩ (at2 0 (by omega)).1
    · intro i hi
      have hi' : i < len := by simpa using hi
      simpa using at2 i hi'
    · intro t ht
      simp only [List.mem_map, List.mem_range] at ht
      obtain ⟨i, hi, rfl⟩ := ht
      exact (hf i hi).2.1
    · intro t ht
      simp only [List.mem_map, List.mem_range] at ht
      obtain ⟨i, hi, rfl⟩ := ht
      exact (hf i hi).2.2

theorem cellsTR : Tryz.prog.cellsOf 36 = 2 := by kernel_rfl
theorem cellsInTR : Tryz.prog.cellsOf 34 = 1 := by kernel_rfl
set_option maxRecDepth 100000 in
theorem readTR {fuel : Nat} {cs : List Value} {x : DataW H × List MemPlace} (h : DataW.trod enc Tryz.prog W base sp held fuel 36 cs = some x) :
    ∃ r : TR, cs = [.string r.name, .slice r.ad r.rows.length r.cap] ∧ r.ok W ∧ r.fits := by
  obtain ⟨y0, y1, n, -, hl, h0, h1⟩ := trod_struct2 Tryz.underlying36 h
  rw [cellsTR] at hl
  match cs, hl with
  | [c0, c1], _ =>
    simp only [cellsStr', cellsInTR, List.drop_zero, List.drop_succ_cons, List.take_succ_cons, List.take_zero] at h0 h1
    obtain ⟨a, e0, -, wa⟩ := DataW.trod_string Tryz.underlying9 h0
    obtain ⟨ad, len, cap, e1⟩ : ∃ ad len cap, c1 = .slice ad len cap := by
      rcases open_slice Tryz.underlying34 h1 with ⟨hcs, -⟩ | ⟨a, l, c, m, n, D, Pl, hcs, -⟩
      · simp at hcs; exact ⟨_, _, _, hcs⟩
      · simp at hcs; exact ⟨_, _, _, hcs⟩
    simp at e0
    subst e0 e1
    obtain ⟨rs, rfl, hs, hf, hm⟩ := open_rels h1
    exact ⟨⟨a, rs, ad, cap⟩, rfl, hs, wa, hm, hf⟩

theorem open_types {fuel : Nat} {ad : Option Addr} {len cap : Nat} {x : DataW H × List MemPlace} (h : DataW.trod enc Tryz.prog W base sp held fuel 22 [.slice ad len cap] = some x) :
    ∃ rs : List TR, rs.length = len ∧ SlT W ad rs ∧ (∀ r ∈ rs, r.fits) ∧ len ≤ maxLen := by
  rcases open_slice Tryz.underlying22 h with ⟨hcs, -⟩ | ⟨a, l, c, m, n, D, Pl, hcs, -, hlc, hcm, hm, -, hel⟩
  · simp at hcs
    obtain ⟨rfl, rfl, rfl⟩ := hcs
    exact ⟨[], rfl, .inl rfl, (fun t ht => by cases ht), by unfold maxLen; omega⟩
  · simp at hcs
    obtain ⟨rfl, rfl, rfl⟩ := hcs
    have hle : len ≤ m := by rw [hm]; split <;> omega
    by_cases h0 : len = 0
    · subst h0
      exact ⟨[], rfl, .inl rfl, (fun t ht => by cases ht), by omega⟩
    have key : ∀ i, i < len → ∃ r : TR, (∀ j, j < 2 → W.cell? ((a.add (i * 2)).add j) = [Value.string r.name, .slice r.ad r.rows.length r.cap][j]?) ∧ r.ok W ∧ r.fits := by
      intro i hi
      obtain ⟨cs', hc, hd⟩ := hel i (by omega)
      rw [cellsTR] at hc
      obtain ⟨r, rfl, hh⟩ := readTR hd
      exact ⟨r, fun j hj => (World.cells?_some hc).2.2 j hj, hh⟩
    have hspot : a.spot = none := by
      obtain ⟨t, ht, -⟩ := key 0 (by omega)
      have := ht 0 (by omega)
      have e : (a.add (0 * 2)).add 0 = a := by simp [Addr.add]
      rw [e] at this
      exact World.cell?_spot this
    obtain ⟨b, off, spot⟩ := a
    simp only at hspot
    subst hspot
    obtain ⟨f, hf⟩ := @choose_lt TR ⟨⟨⟨#[]⟩, [], none, 0⟩⟩ len _ key
    have at2 : ∀ i, i < len → AtT W b (off + i * 2) (f i) := by
      intro i hi
      obtain ⟨hc, -⟩ := hf i hi
      simp only [add_none'] at hc
      exact ⟨hc 0 (by omega), hc 1 (by omega)⟩
    refine ⟨(List.range len).map f, by simp, .inr ⟨b, off, rfl, ?_, ?_, ?_⟩, ?_, by omega⟩
    · exact World.block_lt_of_cell? W ⟨b, off + 0 * 2, none⟩ (at2 0 (by omega)).1
    · intro i hi
      have hi' : i < len := by simpa using hi
      simpa using at2 i hi'
    · intro t ht
      simp only [List.mem_map, List.mem_range] at ht
      obtain ⟨i, hi, rfl⟩ := ht
      exact (hf i hi).2.1
    · intro t ht
      simp only [List.mem_map, List.mem_range] at ht
      obtain ⟨i, hi, rfl⟩ := ht
      exact (hf i hi).2.2

end
end Go.Proofs.YtmghabcaakgjiaaGreat

/- What a law of a function that answers a schema needs: marks of the answer, how small it is, what stays of it. -/
namespace Go.Proofs.YtmghabcaakgjiaaGreat
set_option maxRecDepth 100000
set_option linter.unusedVariables false
open Go.ChangeShapes Go.WideShapes Go.ChangeAt Go.RowKit
open Pl

theorem TypM.chg {S : Nat → Prop} {m : Nat} {w w' : World} {v : Value} {rs : List TR} (h : TypM w m v rs) (hc : Chg S w w') (hS : ∀ g, S g → g < m) : TypM w' m v rs :=
  LotM.heap kidT h hc.size fun g hg => hc.block g (LotM.lt kidT h hg).2 fun hs => by have := (LotM.lt kidT h hg).1; have := hS g hs; omega
theorem TypM.belowT {m : Nat} {w w' : World} {v : Value} {rs : List TR} (h : TypM w m v rs) (hb : Below w.heap.size w w') : TypM w' m v rs := LotM.below kidT h hb
theorem markAnsT {m : Nat} (ad : Option Addr) (cap : Nat) (qs : List TR) (w : World) (h : TypM w m (.slice ad qs.length cap) qs) (hl : ∀ r ∈ qs, r.light) (hlen : qs.length ≤ 1048576) (h1 : 1 + wT qs ≤ 1000000000) :
    Calls Tryz.prog 11 #[.slice ad qs.length cap, .int .i64 1] w fun e w' => e = .returned (.int .i64 ((1 + wT qs : Nat) : Int)) ∧ SlT w' ad (mkT 1 qs) ∧ Chg (fun g => m ≤ g) w w' := by
  by_cases hz : qs = []
  · subst hz
    refine (markTypeS_nil 1 ad cap w).mono ?_
    rintro e w' ⟨rfl, rfl⟩
    exact ⟨rfl, .inl rfl, Chg.refl _ _⟩
  obtain ⟨b, e1, e2⟩ := own_zero h.own (fun e => hz (List.length_eq_zero_iff.1 e))
  obtain ⟨ad', cap', e3, hs, -⟩ := TypM.read h
  injection e3 with e3 _ e4
  subst e3
  rcases hs with hs | ⟨b', off, e', hb, hr, hk⟩
  · exact absurd hs hz
  rw [e1] at e'; injection e' with e'; injection e' with e5 e6
  subst e5; subst e6
  rw [e1]
  refine (markTypeS_c2 b cap qs 1 w hb (fun x hx => ⟨by have := hr x hx; rwa [Nat.zero_add] at this, hk _ (List.getElem_mem hx)⟩) (TypM.sepT h e2) (TypM.freeP h e2) hl hlen (by omega) h1).mono ?_
  rintro e w' ⟨rfl, hm, hc⟩
  exact ⟨rfl, mkT_sl (Nat.lt_of_lt_of_le hb hc.size) hm, hc.mono fun g hg => TypM.blocks h e2 g hg⟩
/-- marking a copied schema changes its own blocks alone -/
theorem markArgC (b cap : Nat) (rs : List TR) (w : World) (hs : SlT w (some ⟨b, 0, none⟩) rs) (hb : b < w.heap.size) (ho : OwnT b w rs) (hf : Free w b) (hl : ∀ r ∈ rs, r.light) (hlen : rs.length ≤ 1048576) (h1 : 1 + wT rs ≤ 1000000000) :
    Calls Tryz.prog 11 #[.slice (some ⟨b, 0, none⟩) rs.length cap, .int .i64 1] w fun e w' => e = .returned (.int .i64 ((1 + wT rs : Nat) : Int)) ∧ Chg (insT b rs) w w' := by
  by_cases hz : rs = []
  · subst hz
    refine (markTypeS_nil 1 _ cap w).mono ?_
    rintro e w' ⟨rfl, rfl⟩
    exact ⟨rfl, Chg.refl _ _⟩
  rcases hs with h | ⟨b', off, e', hb', hr, hk⟩
  · exact absurd h hz
  injection e' with e'; injection e' with e1 e2
  subst e1; subst e2
  refine (markTypeS_c2 b cap rs 1 w hb (fun x hx => ⟨by have := hr x hx; rwa [Nat.zero_add] at this, hk _ (List.getElem_mem hx)⟩) ho.1 (fun g hg => by
    rcases hg with rfl | ⟨q, hq, h2⟩
    · exact ⟨hb, hf⟩
    · exact (ho.2 q hq g h2).2) hl hlen (by omega) h1).mono ?_
  rintro e w' ⟨rfl, -, hc⟩
  exact ⟨rfl, hc⟩
theorem wE_eqs : ∀ {xs ys : List ER}, exs xs = exs ys → wE xs = wE ys
  | [], [], _ => rfl
  | [], y :: ys, h => by simp [exs] at h
  | x :: xs, [], h => by simp [exs] at h
  | x :: xs, y :: ys, h => by
    simp only [exs, List.map_cons, List.cons.injEq] at h
    simp only [wE]
    rw [h.1, wE_eqs (xs := xs) (ys := ys) h.2]
theorem wR_eqs : ∀ {xs ys : List RR}, rls xs = rls ys → wR xs = wR ys
  | [], [], _ => rfl
  | [], y :: ys, h => by simp [rls] at h
  | x :: xs, [], h => by simp [rls] at h
  | x :: xs, y :: ys, h => by
    simp only [rls, List.map_cons, List.cons.injEq] at h
    simp only [wR]
    have e : exs x.rows = exs y.rows := by have := h.1; simp only [RR.p, Rl.mk.injEq] at this; exact this.2
    rw [wE_eqs e, wR_eqs (xs := xs) (ys := ys) h.2]
theorem wT_eqs : ∀ {xs ys : List TR}, tys xs = tys ys → wT xs = wT ys
  | [], [], _ => rfl
  | [], y :: ys, h => by simp [tys] at h
  | x :: xs, [], h => by simp [tys] at h
  | x :: xs, y :: ys, h => by
    simp only [tys, List.map_cons, List.cons.injEq] at h
    simp only [wT]
    have e : rls x.rows = rls y.rows := by have := h.1; simp only [TR.p, Ty.mk.injEq] at this; exact this.2
    rw [wR_eqs e, wT_eqs (xs := xs) (ys := ys) h.2]
theorem nodeB_few {e : Ex} (h : nodeB e = true) : e.allow.length ≤ 6 ∧ e.kids.length ≤ 5 := by
  unfold nodeB allowB at h
  repeat' split at h
  all_goals first | (simp only [Bool.and_eq_true, decide_eq_true_eq] at h; omega) | (cases h; done)
theorem wE_few : ∀ {xs : List ER}, (∀ x ∈ xs, nodeB x.e = true) → wE xs ≤ xs.length * 20
  | [], _ => by simp [wE]
  | x :: xs, h => by
    have h1 := nodeB_few (h x (by simp))
    have h2 := wE_few (xs := xs) fun y hy => h y (by simp [hy])
    simp only [wE, wX, List.length_cons]; omega
theorem wR_few : ∀ {xs : List RR}, (∀ x ∈ xs, wE x.rows ≤ 300) → wR xs ≤ xs.length * 301
  | [], _ => by simp [wR]
  | x :: xs, h => by
    have h1 := h x (by simp)
    have h2 := wR_few (xs := xs) fun y hy => h y (by simp [hy])
    simp only [wR, List.length_cons]; omega
theorem wT_few : ∀ {xs : List TR}, (∀ x ∈ xs, wR x.rows ≤ 1806) → wT xs ≤ xs.length * 1807
  | [], _ => by simp [wT]
  | x :: xs, h => by
    have h1 := h x (by simp)
    have h2 := wT_few (xs := xs) fun y hy => h y (by simp [hy])
    simp only [wT, List.length_cons]; omega
theorem ans_small {D : Option (List Ty)} (hD : ∀ ts, D = some ts → shapeB ts = true) {qs : List TR} (h : tys qs = D.getD []) : qs.length ≤ 1048576 ∧ (∀ r ∈ qs, r.light) ∧ 1 + wT qs ≤ 1000000000 := by
  cases hd : D with
  | none =>
    rw [hd] at h
    have : qs = [] := by cases qs with | nil => rfl | cons a b => simp [tys] at h
    subst this
    exact ⟨by simp, fun r hr => (by cases hr), by simp [wT]⟩
  | some ts =>
    rw [hd] at h
    have hs := hD ts hd
    rw [← show tys qs = ts from h] at hs
    obtain ⟨h6, hr6, hex⟩ := shape_facts hs
    have hn : ∀ t ∈ qs, ∀ q ∈ t.rows, ∀ x ∈ q.rows, nodeB x.e = true := fun t ht q hq x hx => specE_nodes (hex t ht q hq).1 x.e (List.mem_map_of_mem hx)
    have he : ∀ t ∈ qs, ∀ q ∈ t.rows, wE q.rows ≤ 300 := fun t ht q hq => by
      have h1 := wE_few (hn t ht q hq)
      have h2 := (hex t ht q hq).2.1
      omega
    have hr : ∀ t ∈ qs, wR t.rows ≤ 1806 := fun t ht => by
      have h1 := wR_few (he t ht)
      have h2 := hr6 t ht
      omega
    have ht := wT_few hr
    refine ⟨by omega, fun t ht => ⟨by have := hr6 t ht; omega, fun q hq => ⟨by have := (hex t ht q hq).2.1; omega, fun x hx => ?_⟩⟩, by omega⟩
    have := nodeB_few (hn t ht q hq x hx)
    exact ⟨by omega, by omega⟩
theorem zeros_new {rs : List TR} {B : Nat} (h : ∀ r ∈ rs, r.new B) : ∀ t ∈ rs, ∀ q ∈ t.rows, ∀ r ∈ q.rows, r.atZero := fun t ht q hq r hr => by
  obtain ⟨gA, gK, e1, e2, -⟩ := ((h t ht).2 q hq).2 r hr
  exact ⟨gA, gK, e1, e2⟩
end Go.Proofs.YtmghabcaakgjiaaGreat
