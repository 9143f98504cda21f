/- Rows that are copied: what stays theirs. -/
import Derived.Test.YtjmbgpdbnffkpaaToOwn
import Derived.OwnWalk
import Derived.Maps.AppendAt
namespace Go.Proofs.Ytjmbgpdbnffkpaa
open Go.ChangeShapes Go.WideShapes Go.ChangeAt Go.RowKit Go.Maps
open Pl

theorem OwnE.add {S : Nat → Prop} {b : Nat} {wr wn : World} {qs : List ER} (h : OwnE b wr qs) (hc : Chg S wr wn) (hb : b < wr.heap.size) {q : ER} (zA : q.e.allow ≠ [] → ∃ g, q.adA = some ⟨g, 0, none⟩) (zK : q.e.kids ≠ [] → ∃ g, q.adK = some ⟨g, 0, none⟩) (hone : ∀ g, bA q g → ¬ bK q g) (hq : ∀ g, inR q g → wr.heap.size ≤ g ∧ g < wn.heap.size ∧ Free wn g) : OwnE b wn (qs ++ [q]) := by
  refine ⟨⟨?_, ?_, ?_, ?_, ?_⟩, ?_⟩
  · intro r hr; rw [List.mem_append, List.mem_singleton] at hr
    rcases hr with hr | rfl
    · exact h.1.zeroA r hr
    · exact zA
  · intro r hr; rw [List.mem_append, List.mem_singleton] at hr
    rcases hr with hr | rfl
    · exact h.1.zeroK r hr
    · exact zK
  · intro r hr; rw [List.mem_append, List.mem_singleton] at hr
    rcases hr with hr | rfl
    · exact h.1.head r hr
    · intro hg; have := (hq b hg).1; omega
  · intro r hr; rw [List.mem_append, List.mem_singleton] at hr
    rcases hr with hr | rfl
    · exact h.1.one r hr
    · exact hone
  · intro x y hx hy hne g hgx hgy
    rw [List.length_append, List.length_singleton] at hx hy
    by_cases ex : x < qs.length
    · rw [List.getElem_append_left ex] at hgx
      by_cases ey : y < qs.length
      · rw [List.getElem_append_left ey] at hgy
        exact h.1.two x y ex ey hne g hgx hgy
      · rw [List.getElem_append_right (by omega)] at hgy
        have e1 := (hq g (by simpa using hgy)).1
        have e2 := (h.2 _ (List.getElem_mem ex) g hgx).2.1
        omega
    · rw [List.getElem_append_right (by omega)] at hgx
      have e1 := (hq g (by simpa using hgx)).1
      have ey : y < qs.length := by omega
      rw [List.getElem_append_left ey] at hgy
      have e2 := (h.2 _ (List.getElem_mem ey) g hgy).2.1
      omega
  · intro r hr g hg; rw [List.mem_append, List.mem_singleton] at hr
    rcases hr with hr | rfl
    · obtain ⟨a1, a2, a3⟩ := h.2 r hr g hg
      exact ⟨a1, Nat.lt_of_lt_of_le a2 hc.size, hc.free g a2 a3⟩
    · obtain ⟨a1, a2, a3⟩ := hq g hg
      exact ⟨by omega, a2, a3⟩

theorem oneCells (xs : List Al) : ∀ u ∈ pairs xs, u.oneCell' = true := by
  intro u hu
  unfold pairs at hu
  rw [List.mem_flatMap] at hu
  obtain ⟨a, -, h⟩ := hu
  simp at h
  rcases h with rfl | rfl <;> rfl
theorem oneInts (zs : List Int) : ∀ u ∈ ints zs, u.oneCell' = true := by
  intro u hu
  unfold ints at hu
  rw [List.mem_map] at hu
  obtain ⟨a, -, rfl⟩ := hu
  rfl
theorem newsA {w : World} {g : Nat} {xs : List Al} (h : SlA w (some ⟨g, 0, none⟩) xs) : ∀ j u, (pairs xs)[j]? = some u → w.cell? ((⟨g, 0, none⟩ : Addr).add j) = some u := by
  intro j u hu
  have hj : j < (pairs xs).length := by
    rcases Nat.lt_or_ge j (pairs xs).length with h' | h'
    · exact h'
    · rw [List.getElem?_eq_none h'] at hu; cases hu
  rw [pairs_len] at hj
  rcases h with rfl | ⟨b, off, e, hb, hr⟩
  · simp at hj
  injection e with e; injection e with e1 e2
  subst e1; subst e2
  rw [show (⟨g, 0, none⟩ : Addr).add j = ⟨g, 0 + j, none⟩ by simp [Addr.add]; omega]
  obtain ⟨i, hi⟩ : ∃ i, j = i * 2 ∨ j = i * 2 + 1 := ⟨j / 2, by omega⟩
  rcases hi with rfl | rfl
  · rw [(pairs_at xs i (by omega)).1] at hu
    injection hu with hu; subst hu
    have := (hr i (by omega)).1
    exact this
  · rw [(pairs_at xs i (by omega)).2] at hu
    injection hu with hu; subst hu
    have := (hr i (by omega)).2
    rw [show 0 + i * 2 + 1 = 0 + (i * 2 + 1) by omega] at this
    exact this
theorem newsI {w : World} {g : Nat} {zs : List Int} (h : SlI w (some ⟨g, 0, none⟩) zs) : ∀ j u, (ints zs)[j]? = some u → w.cell? ((⟨g, 0, none⟩ : Addr).add j) = some u := by
  intro j u hu
  have hj : j < (ints zs).length := by
    rcases Nat.lt_or_ge j (ints zs).length with h' | h'
    · exact h'
    · rw [List.getElem?_eq_none h'] at hu; cases hu
  rcases h with rfl | ⟨b, off, e, hb, hr⟩
  · simp [ints] at hj
  injection e with e; injection e with e1 e2
  subst e1; subst e2
  have hj2 : j < zs.length := by simpa [ints] using hj
  have := hr j hj2
  unfold ints at hu
  rw [List.getElem?_map, List.getElem?_eq_getElem hj2] at hu
  simp at hu
  subst hu
  rw [show (⟨g, 0, none⟩ : Addr).add j = ⟨g, 0 + j, none⟩ by simp [Addr.add]; omega]
  exact this
theorem ownsA {w : World} {base n : Nat} {v : Value} {xs : List Al} (h : w.ownsRow base 102 2 v n (pairs xs)) (hn : n = xs.length) : ∃ ad cap, v = .slice ad xs.length cap ∧ SlA w ad xs ∧ (xs ≠ [] → ∃ g, ad = some ⟨g, 0, none⟩) ∧ ∀ g, xs ≠ [] → ad = some ⟨g, 0, none⟩ → base ≤ g ∧ g < w.heap.size ∧ Free w g := by
  subst hn
  have h2 := h
  rcases h.2 with ⟨rfl, h0⟩ | ⟨g, cap, cur, rfl, hbg, hg, hnc, -⟩
  · have hx : xs = [] := List.length_eq_zero_iff.1 h0
    subst hx
    exact ⟨none, 0, rfl, .inl rfl, fun h => absurd rfl h, fun _ h => absurd rfl h⟩
  · have hlt := h2.lt g rfl
    refine ⟨some ⟨g, 0, none⟩, cap, rfl, .inr ⟨g, 0, rfl, hlt.2, fun i hi => ?_⟩, fun _ => ⟨g, rfl⟩, fun g' _ e => ?_⟩
    · have hl := pairs_len xs
      obtain ⟨p0, p1⟩ := pairs_at xs i hi
      refine ⟨?_, ?_⟩
      · rw [h2.cellAt (0 + i * 2) (by omega), Nat.zero_add]; exact p0
      · rw [h2.cellAt (0 + i * 2 + 1) (by omega), Nat.zero_add]; exact p1
    · injection e with e; injection e with e1 e2
      subst e1
      exact ⟨hlt.1, hlt.2, fun y => h2.frozenAt y⟩
theorem ownsI {w : World} {base n : Nat} {v : Value} {zs : List Int} (h : w.ownsRow base 2 1 v n (ints zs)) (hn : n = zs.length) : ∃ ad cap, v = .slice ad zs.length cap ∧ SlI w ad zs ∧ (zs ≠ [] → ∃ g, ad = some ⟨g, 0, none⟩) ∧ ∀ g, zs ≠ [] → ad = some ⟨g, 0, none⟩ → base ≤ g ∧ g < w.heap.size ∧ Free w g := by
  subst hn
  have h2 := h
  rcases h.2 with ⟨rfl, h0⟩ | ⟨g, cap, cur, rfl, hbg, hg, hnc, -⟩
  · have hx : zs = [] := List.length_eq_zero_iff.1 h0
    subst hx
    exact ⟨none, 0, rfl, .inl rfl, fun h => absurd rfl h, fun _ h => absurd rfl h⟩
  · have hlt := h2.lt g rfl
    refine ⟨some ⟨g, 0, none⟩, cap, rfl, .inr ⟨g, 0, rfl, hlt.2, fun i hi => ?_⟩, fun _ => ⟨g, rfl⟩, fun g' _ e => ?_⟩
    · rw [h2.cellAt (0 + i) (by omega), Nat.zero_add]; simp [ints, hi]
    · injection e with e; injection e with e1 e2
      subst e1
      exact ⟨hlt.1, hlt.2, fun y => h2.frozenAt y⟩

/-- 'append(nil, x...)' where x may be nil -/
theorem wpList_append_copy {ops : Array Oper} {rest : List Oper} {o : Oper} {a : Act} {Q : Exit → Act → World → Prop} (w : World) (hgd : o.guard = none) (s x : Operand) (t : TypeId)
    (ho : o.op = .call { callee := .builtin .append, args := #[s, x], argTypes := #[t, t] })
    (e : TypeId) (i : TypeInfo) (z : Value) (size bytes : Nat) (ht : Try.prog.underlying t = some (.slice e)) (hi : Try.prog.info? e = some i) (hz : i.zero = some z)
    (hsize : i.size = size) (hby : i.bytes = bytes) (hzs : z.cells.size = size) (hsz : 0 < size)
    (hs : a.eval s = .slice none 0 0)
    (ad : Option Addr) (m c : Nat) (news : List Value) (hx : a.eval x = .slice ad m c) (hl : news.length = m * size) (hn0 : ad = none → m = 0) (hnews : ∀ A, ad = some A → ∀ j u, news[j]? = some u → w.cell? (A.add j) = some u) (h1 : ∀ u ∈ news, u.oneCell' = true)
    (h63 : 0 + m ≤ maxLen) (hbytes : (0 + m) * bytes ≤ 140737488355328)
    (h : ∀ v' w', w'.ownsRow w.heap.size e size v' (0 + m) ([] ++ news) → w.grownBy w' (Value.ownBlock (.slice none 0 0)) → wpList Try.prog ops Q rest (a.put o.dst v') w') : wpList Try.prog ops Q (o :: rest) a w := by
  cases ad with
  | some A => exact wpList_append_own w hgd s x t ho w.heap.size e i z size bytes ht hi hz hsize hby hzs hsz (.slice none 0 0) 0 [] hs (World.ownsRow_nil _ _ _ _) A m c news hx hl (hnews A rfl) h1 h63 hbytes (Nat.le_refl _) fun v' w' a b _ => h v' w' a b
  | none =>
    obtain rfl := hn0 rfl
    have hn : news = [] := List.eq_nil_of_length_eq_zero (by simpa using hl)
    subst hn
    refine wpList_plain hgd fun K hK => ?_
    have hr : (Builtin.append_ #[t, t] o.type #[.slice none 0 0, .slice none 0 c]).run Try.prog w = .ok (.slice none 0 0) w := by
      simp [Builtin.append_, run_underlying ht, sizeOf, typeInfo, hi, Builtin.lenOf, Builtin.firstCells]
    unfold Oper.wp execOp
    simp only [ho, resolve, invoke, builtin, Sem.run_bind, Sem.run_pure, Result.andThen_ok, List.map_toArray, List.map_cons, List.map_nil, hs, hx, hr]
    exact hK _ _ (h _ w (World.ownsRow_nil w _ e size) ⟨rfl, rfl, rfl, Nat.le_refl _, fun _ _ _ => rfl⟩)
theorem newsAn {w : World} {ad : Option Addr} {xs : List Al} (h : SlA w ad xs) : ∀ A, ad = some A → ∀ j u, (pairs xs)[j]? = some u → w.cell? (A.add j) = some u := by
  intro A hA j u hu
  subst hA
  have hl := pairs_len xs
  have hj : j < (pairs xs).length := by
    rcases Nat.lt_or_ge j (pairs xs).length with h' | h'
    · exact h'
    · rw [List.getElem?_eq_none h'] at hu; cases hu
  rcases h with rfl | ⟨b, off, e, hb, hr⟩
  · simp [pairs] at hj
  injection e with e
  subst e
  obtain ⟨i, hi⟩ : ∃ i, j = i * 2 ∨ j = i * 2 + 1 := ⟨j / 2, by omega⟩
  rw [show (⟨b, off, none⟩ : Addr).add j = ⟨b, off + j, none⟩ by simp [Addr.add]]
  rcases hi with rfl | rfl
  · rw [(pairs_at xs i (by omega)).1] at hu
    injection hu with hu; subst hu
    exact (hr i (by omega)).1
  · rw [(pairs_at xs i (by omega)).2] at hu
    injection hu with hu; subst hu
    have := (hr i (by omega)).2
    rw [show off + i * 2 + 1 = off + (i * 2 + 1) by omega] at this
    exact this
theorem newsIn {w : World} {ad : Option Addr} {zs : List Int} (h : SlI w ad zs) : ∀ A, ad = some A → ∀ j u, (ints zs)[j]? = some u → w.cell? (A.add j) = some u := by
  intro A hA j u hu
  subst hA
  have hj : j < (ints zs).length := by
    rcases Nat.lt_or_ge j (ints zs).length with h' | h'
    · exact h'
    · rw [List.getElem?_eq_none h'] at hu; cases hu
  rcases h with rfl | ⟨b, off, e, hb, hr⟩
  · simp [ints] at hj
  injection e with e
  subst e
  have hj2 : j < zs.length := by simpa [ints] using hj
  have := hr j hj2
  unfold ints at hu
  rw [List.getElem?_map, List.getElem?_eq_getElem hj2] at hu
  simp at hu
  subst hu
  rw [show (⟨b, off, none⟩ : Addr).add j = ⟨b, off + j, none⟩ by simp [Addr.add]]
  exact this
theorem SlA.none0 {w : World} {ad : Option Addr} {xs : List Al} (h : SlA w ad xs) : ad = none → xs.length = 0 := fun e => by
  rcases h with rfl | ⟨b, off, e', -⟩
  · rfl
  · rw [e'] at e; cases e
theorem SlI.none0 {w : World} {ad : Option Addr} {zs : List Int} (h : SlI w ad zs) : ad = none → zs.length = 0 := fun e => by
  rcases h with rfl | ⟨b, off, e', -⟩
  · rfl
  · rw [e'] at e; cases e

/-- the lists of a node lie at the beginning of some block -/
def ER.atZero (r : ER) : Prop := ∃ gA gK : Nat, r.adA = some ⟨gA, 0, none⟩ ∧ r.adK = some ⟨gK, 0, none⟩
end Go.Proofs.Ytjmbgpdbnffkpaa
