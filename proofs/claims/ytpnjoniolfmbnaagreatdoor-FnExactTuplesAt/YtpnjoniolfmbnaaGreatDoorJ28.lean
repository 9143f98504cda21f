/- An expression that was answered: it may be marked, and its marks are held; it is not touched by what is done to older blocks. -/
import Derived.Test.YtpnjoniolfmbnaaGreatDoorToOwn
import Derived.Test.YtpnjoniolfmbnaaGreatDoorSzW
import Derived.Test.YtpnjoniolfmbnaaGreatDoorJ8
import Derived.OpenShut
import Derived.ShutString
import Derived.ChangeOld
import Derived.Lib.SmallJoins
import Derived.ChangeSlices
import Derived.Deep.Slices
namespace Go.Proofs.YtpnjoniolfmbnaaGreatDoor
open Go.ChangeShapes Go.WideShapes Go.ChangeAt Go.RowKit
open Pl

/-- an answer whose blocks are its own, none older than m -/
def OwnAns (m : Nat) (w : World) (ad : Option Addr) (qs : List ER) : Prop := qs ≠ [] → ∃ b, ad = some ⟨b, 0, none⟩ ∧ m ≤ b ∧ b < w.heap.size ∧ OwnE b w qs ∧ Free w b
theorem OwnAns.chg {S : Nat → Prop} {m : Nat} {w w' : World} {ad : Option Addr} {qs : List ER} (h : OwnAns m w ad qs) (hc : Chg S w w') : OwnAns m w' ad qs := fun hne => by
  obtain ⟨b, e, h1, h2, h3, h4⟩ := h hne
  exact ⟨b, e, h1, Nat.lt_of_lt_of_le h2 hc.size, h3.chg hc, hc.free b h2 h4⟩
theorem wE_exs : ∀ {xs ys : List ER}, exs xs = exs ys → wE xs = wE ys
  | [], [], _ => rfl
  | [], y :: ys, h => by simp [exs] at h
  | x :: xs, [], h => by simp [exs] at h
  | x :: xs, y :: ys, h => by
    simp only [exs, List.map_cons, List.cons.injEq] at h
    simp only [wE]
    rw [h.1, wE_exs (xs := xs) (ys := ys) h.2]
theorem wR_rls : ∀ {xs ys : List RR}, rls xs = rls ys → wR xs = wR ys
  | [], [], _ => rfl
  | [], y :: ys, h => by simp [rls] at h
  | x :: xs, [], h => by simp [rls] at h
  | x :: xs, y :: ys, h => by
    simp only [rls, List.map_cons, List.cons.injEq] at h
    simp only [wR]
    have e : exs x.rows = exs y.rows := by have := h.1; simp only [RR.p, Rl.mk.injEq] at this; exact this.2
    rw [wE_exs e, wR_rls (xs := xs) (ys := ys) h.2]
theorem wT_tys : ∀ {xs ys : List TR}, tys xs = tys ys → wT xs = wT ys
  | [], [], _ => rfl
  | [], y :: ys, h => by simp [tys] at h
  | x :: xs, [], h => by simp [tys] at h
  | x :: xs, y :: ys, h => by
    simp only [tys, List.map_cons, List.cons.injEq] at h
    simp only [wT]
    have e : rls x.rows = rls y.rows := by have := h.1; simp only [TR.p, Ty.mk.injEq] at this; exact this.2
    rw [wR_rls e, wT_tys (xs := xs) (ys := ys) h.2]
/-- marking a copied schema changes its own blocks alone -/
theorem markArg (b cap : Nat) (rs : List TR) (w : World) (hs : SlT w (some ⟨b, 0, none⟩) rs) (hb : b < w.heap.size) (ho : OwnT b w rs) (hf : Free w b) (hl : ∀ r ∈ rs, r.light) (hlen : rs.length ≤ 1048576) (h1 : 1 + wT rs ≤ 1000000000) :
    Calls Tryz.prog 20 #[.slice (some ⟨b, 0, none⟩) rs.length cap, .int .i64 1] w fun e w' => e = .returned (.int .i64 ((1 + wT rs : Nat) : Int)) ∧ Chg (insT b rs) w w' := by
  by_cases hz : rs = []
  · subst hz
    refine (markTypeS_nil 1 _ cap w).mono ?_
    rintro e w' ⟨rfl, rfl⟩
    exact ⟨rfl, Chg.refl _ _⟩
  rcases hs with h | ⟨b', off, e', hb', hr, hk⟩
  · exact absurd h hz
  injection e' with e'; injection e' with e1 e2
  subst e1; subst e2
  exact markTypeS_any b cap rs 1 w hb (fun x hx => ⟨by have := hr x hx; rwa [Nat.zero_add] at this, hk _ (List.getElem_mem hx)⟩) ho.1 (fun g hg => by
    rcases hg with rfl | ⟨q, hq, h2⟩
    · exact ⟨hb, hf⟩
    · exact (ho.2 q hq g h2).2) hl hlen (by omega) h1
end Go.Proofs.YtpnjoniolfmbnaaGreatDoor

/- What a slice of nodes that can be read leads to: nodes whose strings and lists fit. -/
namespace Go.Proofs.YtpnjoniolfmbnaaGreatDoor
open Go.ChangeShapes Go.WideShapes Go.ChangeAt Go.RowKit Go.Joins Go.Deep

theorem add_none' (b off x : Nat) : (⟨b, off, none⟩ : Addr).add x = ⟨b, off + x, none⟩ := by
  unfold Addr.add
  by_cases h : x = 0
  · subst h; simp
  · simp [h]
theorem cellsStr' : Tryz.prog.cellsOf 9 = 1 := by kernel_rfl
theorem cellsI64 : Tryz.prog.cellsOf 2 = 1 := by kernel_rfl
theorem cellsAl : Tryz.prog.cellsOf 289 = 2 := by kernel_rfl
theorem cellsSlA : Tryz.prog.cellsOf 266 = 1 := by kernel_rfl
theorem cellsSlI : Tryz.prog.cellsOf 112 = 1 := by kernel_rfl
theorem cellsEx : Tryz.prog.cellsOf 268 = 5 := by kernel_rfl

section
variable {H : Type} {enc : TypeId × Value → H} {W : World} {base : Nat} {sp : Nat → Bool} {held : Bool}

theorem trod_struct5 {P : Program} {w : World} {t : TypeId} {f0 f1 f2 f3 f4 : Field} {fuel : Nat} {cs : List Value} {x : DataW H × List MemPlace} (ht : P.underlying t = some (.struct #[f0, f1, f2, f3, f4])) (h : DataW.trod enc P w base sp held fuel t cs = some x) :
    ∃ (y0 y1 y2 y3 y4 : DataW H × List MemPlace) (n : Nat), cs.length = P.cellsOf t ∧
      DataW.trod enc P w base sp held n f0.type ((cs.drop f0.offset).take (P.cellsOf f0.type)) = some y0 ∧
      DataW.trod enc P w base sp held n f1.type ((cs.drop f1.offset).take (P.cellsOf f1.type)) = some y1 ∧
      DataW.trod enc P w base sp held n f2.type ((cs.drop f2.offset).take (P.cellsOf f2.type)) = some y2 ∧
      DataW.trod enc P w base sp held n f3.type ((cs.drop f3.offset).take (P.cellsOf f3.type)) = some y3 ∧
      DataW.trod enc P w base sp held n f4.type ((cs.drop f4.offset).take (P.cellsOf f4.type)) = some y4 := by
  obtain ⟨xs, n, _, rfl, hl, hlen, hf⟩ := DataW.trod_struct ht h
  match xs, hlen with
  | [y0, y1, y2, y3, y4], _ => exact ⟨y0, y1, y2, y3, y4, n, hl, by simpa using hf 0 f0 rfl, by simpa using hf 1 f1 rfl, by simpa using hf 2 f2 rfl, by simpa using hf 3 f3 rfl, by simpa using hf 4 f4 rfl⟩

set_option maxRecDepth 100000 in
theorem read_al {fuel : Nat} {cs : List Value} {x : DataW H × List MemPlace} (h : DataW.trod enc Tryz.prog W base sp held fuel 289 cs = some x) : ∃ a : Al, cs = [.string a.t, .string a.s] ∧ a.fits := by
  obtain ⟨y0, y1, n, -, hl, h0, h1⟩ := trod_struct2 Tryz.underlying289 h
  rw [cellsAl] at hl
  match cs, hl with
  | [c0, c1], _ =>
    simp only [cellsStr', List.drop_zero, List.drop_succ_cons, List.take_succ_cons, List.take_zero] at h0 h1
    obtain ⟨a, e0, -, wa⟩ := DataW.trod_string Tryz.underlying9 h0
    obtain ⟨b, e1, -, wb⟩ := DataW.trod_string Tryz.underlying9 h1
    simp at e0 e1
    subst e0 e1
    exact ⟨⟨a, b⟩, rfl, wa, wb⟩

theorem read_als {fuel : Nat} {cs : List Value} {x : DataW H × List MemPlace} (h : DataW.trod enc Tryz.prog W base sp held fuel 266 cs = some x) :
    ∃ (ad : Option Addr) (cap : Nat) (xs : List Al), cs = [.slice ad xs.length cap] ∧ SlA W ad xs ∧ (∀ a ∈ xs, a.fits) ∧ xs.length ≤ maxLen := by
  rcases open_slice Tryz.underlying266 h with ⟨hcs, -⟩ | ⟨a, len, cap, m, n, D, Pl, hcs, -, hlc, hcm, hm, -, hel⟩
  · exact ⟨none, 0, [], hcs, .inl rfl, (fun a ha => by cases ha), by unfold maxLen; simp⟩
  · have hle : len ≤ m := by rw [hm]; split <;> omega
    by_cases h0 : len = 0
    · subst h0
      exact ⟨some a, cap, [], hcs, .inl rfl, (fun a ha => by cases ha), by unfold maxLen; simp⟩
    have key : ∀ i, i < len → ∃ t : Al, (∀ j, j < 2 → W.cell? ((a.add (i * 2)).add j) = [Value.string t.t, .string t.s][j]?) ∧ t.fits := by
      intro i hi
      obtain ⟨cs', hc, hd⟩ := hel i (by omega)
      rw [cellsAl] at hc
      obtain ⟨t, rfl, hh⟩ := read_al hd
      exact ⟨t, fun j hj => (World.cells?_some hc).2.2 j hj, hh⟩
    have hspot : a.spot = none := by
      obtain ⟨t, ht, -⟩ := key 0 (by omega)
      have := ht 0 (by omega)
      have e : (a.add (0 * 2)).add 0 = a := by simp [Addr.add]
      rw [e] at this
      exact World.cell?_spot this
    obtain ⟨b, off, spot⟩ := a
    simp only at hspot
    subst hspot
    obtain ⟨f, hf⟩ := @choose_lt Al ⟨⟨⟨#[]⟩, ⟨#[]⟩⟩⟩ len _ key
    have at2 : ∀ i, i < len → At2 W b (off + i * 2) (f i) := by
      intro i hi
      obtain ⟨hc, -⟩ := hf i hi
      simp only [add_none'] at hc
      exact ⟨hc 0 (by omega), hc 1 (by omega)⟩
    refine ⟨some ⟨b, off, none⟩, cap, (List.range len).map f, by simpa using hcs, .inr ⟨b, off, rfl, ?_, ?_⟩, ?_, by simp; omega⟩
    · exact World.block_lt_of_cell? W ⟨b, off + 0 * 2, none⟩ (at2 0 (by omega)).1
    · intro i hi
      have hi' : i < len := by simpa using hi
      simpa using at2 i hi'
    · intro t ht
      simp only [List.mem_map, List.mem_range] at ht
      obtain ⟨i, hi, rfl⟩ := ht
      exact (hf i hi).2

theorem read_ints {fuel : Nat} {cs : List Value} {x : DataW H × List MemPlace} (h : DataW.trod enc Tryz.prog W base sp held fuel 112 cs = some x) :
    ∃ (ad : Option Addr) (cap : Nat) (zs : List Int), cs = [.slice ad zs.length cap] ∧ SlI W ad zs ∧ zs.length ≤ maxLen := by
  rcases open_ints Tryz.underlying112 Tryz.underlying2 cellsI64 h with ⟨hcs, -⟩ | ⟨a, len, cap, zs, hcs, -, hlc, hcm, hm, -, hel, -⟩
  · exact ⟨none, 0, [], hcs, .inl rfl, by unfold maxLen; simp⟩
  · have hle : len ≤ zs.length := by rw [hm]; split <;> omega
    by_cases h0 : len = 0
    · subst h0
      exact ⟨some a, cap, [], hcs, .inl rfl, by unfold maxLen; simp⟩
    have hspot : a.spot = none := by
      have := hel 0 (by omega)
      have e : a.add 0 = a := by simp [Addr.add]
      rw [e] at this
      exact World.cell?_spot this
    obtain ⟨b, off, spot⟩ := a
    simp only at hspot
    subst hspot
    simp only [add_none'] at hel
    have hl : (zs.take len).length = len := by simp; omega
    refine ⟨some ⟨b, off, none⟩, cap, zs.take len, by rw [hl]; exact hcs, .inr ⟨b, off, rfl, ?_, ?_⟩, by omega⟩
    · exact World.block_lt_of_cell? W ⟨b, off + 0, none⟩ (hel 0 (by omega))
    · intro i hi
      have hi' : i < zs.length := by omega
      rw [hel i hi', List.getElem_take]
      simp [hi']

set_option maxRecDepth 100000 in
theorem read_ex {fuel : Nat} {cs : List Value} {x : DataW H × List MemPlace} (h : DataW.trod enc Tryz.prog W base sp held fuel 268 cs = some x) :
    ∃ r : ER, cs = [.int .i64 r.e.kind, .slice r.adA r.e.allow.length r.capA, .string r.e.over, .string r.e.name, .slice r.adK r.e.kids.length r.capK] ∧ r.ok W ∧ r.e.fits := by
  obtain ⟨y0, y1, y2, y3, y4, n, hl, h0, h1, h2, h3, h4⟩ := trod_struct5 Tryz.underlying268 h
  rw [cellsEx] at hl
  match cs, hl with
  | [c0, c1, c2, c3, c4], _ =>
    simp only [cellsStr', cellsI64, cellsSlA, cellsSlI, List.drop_zero, List.drop_succ_cons, List.take_succ_cons, List.take_zero] at h0 h1 h2 h3 h4
    obtain ⟨k, e0, -, -⟩ := DataW.trod_int Tryz.underlying2 h0
    obtain ⟨adA, capA, xs, e1, hA, fA, lA⟩ := read_als h1
    obtain ⟨o, e2, -, wo⟩ := DataW.trod_string Tryz.underlying9 h2
    obtain ⟨nm, e3, -, wn⟩ := DataW.trod_string Tryz.underlying9 h3
    obtain ⟨adK, capK, zs, e4, hK, lK⟩ := read_ints h4
    simp at e0 e1 e2 e3 e4
    subst e0 e1 e2 e3 e4
    exact ⟨⟨⟨k, xs, o, nm, zs⟩, adA, capA, adK, capK⟩, rfl, ⟨hA, hK⟩, fA, wo, wn, lA, lK⟩

theorem open_exprs {fuel : Nat} {ad : Option Addr} {len cap : Nat} {x : DataW H × List MemPlace} (h : DataW.trod enc Tryz.prog W base sp held fuel 201 [.slice ad len cap] = some x) :
    ∃ rs : List ER, rs.length = len ∧ SlE W ad rs ∧ (∀ r ∈ rs, r.e.fits) ∧ len ≤ maxLen := by
  rcases open_slice Tryz.underlying201 h with ⟨hcs, -⟩ | ⟨a, l, c, m, n, D, Pl, hcs, -, hlc, hcm, hm, -, hel⟩
  · simp at hcs
    obtain ⟨rfl, rfl, rfl⟩ := hcs
    exact ⟨[], rfl, .inl rfl, (fun t ht => by cases ht), by unfold maxLen; omega⟩
  · simp at hcs
    obtain ⟨rfl, rfl, rfl⟩ := hcs
    have hle : len ≤ m := by rw [hm]; split <;> omega
    by_cases h0 : len = 0
    · subst h0
      exact ⟨[], rfl, .inl rfl, (fun t ht => by cases ht), by omega⟩
    have key : ∀ i, i < len → ∃ r : ER, (∀ j, j < 5 → W.cell? ((a.add (i * 5)).add j) = [Value.int .i64 r.e.kind, .slice r.adA r.e.allow.length r.capA, .string r.e.over, .string r.e.name, .slice r.adK r.e.kids.length r.capK][j]?) ∧ r.ok W ∧ r.e.fits := by
      intro i hi
      obtain ⟨cs', hc, hd⟩ := hel i (by omega)
      rw [cellsEx] at hc
      obtain ⟨r, rfl, hh⟩ := read_ex hd
      exact ⟨r, fun j hj => (World.cells?_some hc).2.2 j hj, hh⟩
    have hspot : a.spot = none := by
      obtain ⟨t, ht, -⟩ := key 0 (by omega)
      have := ht 0 (by omega)
      have e : (a.add (0 * 5)).add 0 = a := by simp [Addr.add]
      rw [e] at this
      exact World.cell?_spot this
    obtain ⟨b, off, spot⟩ := a
    simp only at hspot
    subst hspot
    obtain ⟨f, hf⟩ := @choose_lt ER ⟨⟨⟨0, [], ⟨#[]⟩, ⟨#[]⟩, []⟩, none, 0, none, 0⟩⟩ len _ key
    have at5 : ∀ i, i < len → At5 W b (off + i * 5) (f i) := by
      intro i hi
      obtain ⟨hc, -⟩ := hf i hi
      simp only [add_none'] at hc
      exact ⟨hc 0 (by omega), hc 1 (by omega), hc 2 (by omega), hc 3 (by omega), hc 4 (by omega)⟩
    refine ⟨(List.range len).map f, by simp, .inr ⟨b, off, rfl, ?_, ?_, ?_⟩, ?_, by omega⟩
    · exact World.block_lt_of_cell? W ⟨b, off + 0 * 5, none⟩ (at5 0 (by omega)).1
    · intro i hi
      have hi' : i < len := by simpa using hi
      simpa using at5 i hi'
    · intro t ht
      simp only [List.mem_map, List.mem_range] at ht
      obtain ⟨i, hi, rfl⟩ := ht
      exact (hf i hi).2.1
    · intro t ht
      simp only [List.mem_map, List.mem_range] at ht
      obtain ⟨i, hi, rfl⟩ := ht
      exact (hf i hi).2.2
end
end Go.Proofs.YtpnjoniolfmbnaaGreatDoor
