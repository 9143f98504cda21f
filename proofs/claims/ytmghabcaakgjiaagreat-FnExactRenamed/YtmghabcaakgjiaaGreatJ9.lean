/- Rows that are copied: what stays theirs. -/
import Derived.Test.YtmghabcaakgjiaaGreatToOwn
import Derived.OwnWalk
import Derived.Maps.AppendAt
namespace Go.Proofs.YtmghabcaakgjiaaGreat
open Go.ChangeShapes Go.WideShapes Go.ChangeAt Go.RowKit Go.Maps
open Pl
theorem OwnE.add {S : Nat → Prop} {b : Nat} {wr wn : World} {qs : List ER} (h : OwnE b wr qs) (hc : Chg S wr wn) (hb : b < wr.heap.size) {q : ER} (zA : q.e.allow ≠ [] → ∃ g, q.adA = some ⟨g, 0, none⟩) (zK : q.e.kids ≠ [] → ∃ g, q.adK = some ⟨g, 0, none⟩) (hone : ∀ g, bA q g → ¬ bK q g) (hq : ∀ g, inR q g → wr.heap.size ≤ g ∧ g < wn.heap.size ∧ Free wn g) : OwnE b wn (qs ++ [q]) := by
 refine ⟨⟨?_, ?_, ?_, ?_, ?_⟩, ?_⟩
 ·intro r hr; rw [List.mem_append, List.mem_singleton] at hr
  rcases hr with hr | rfl
  ·exact h.1.zeroA r hr
  ·exact zA
 ·intro r hr; rw [List.mem_append, List.mem_singleton] at hr
  rcases hr with hr | rfl
  ·exact h.1.zeroK r hr
  ·exact zK
 ·intro r hr; rw [List.mem_append, List.mem_singleton] at hr
  rcases hr with hr | rfl
  ·exact h.1.head r hr
  ·intro hg; have := (hq b hg).1; omega
 ·intro r hr; rw [List.mem_append, List.mem_singleton] at hr
  rcases hr with hr | rfl
  ·exact h.1.one r hr
  ·exact hone
 ·intro x y hx hy hne g hgx hgy
  rw [List.length_append, List.length_singleton] at hx hy
  by_cases ex : x < qs.length
  ·rw [List.getElem_append_left ex] at hgx
   by_cases ey : y < qs.length
   ·rw [List.getElem_append_left ey] at hgy
    exact h.1.two x y ex ey hne g hgx hgy
   ·rw [List.getElem_append_right (by omega)] at hgy
    have e1 := (hq g (by simpa using hgy)).1
    have e2 := (h.2 _ (List.getElem_mem ex) g hgx).2.1
    omega
  ·rw [List.getElem_append_right (by omega)] at hgx
   have e1 := (hq g (by simpa using hgx)).1
   have ey : y < qs.length := by omega
   rw [List.getElem_append_left ey] at hgy
   have e2 := (h.2 _ (List.getElem_mem ey) g hgy).2.1
   omega
 ·intro r hr g hg; rw [List.mem_append, List.mem_singleton] at hr
  rcases hr with hr | rfl
  ·obtain ⟨a1, a2, a3⟩ := h.2 r hr g hg
   exact ⟨a1, Nat.lt_of_lt_of_le a2 hc.size, hc.free g a2 a3⟩
  ·obtain ⟨a1, a2, a3⟩ := hq g hg
   exact ⟨by omega, a2, a3⟩
theorem oneCells (xs : List Al) : ∀ u ∈ pairs xs, u.oneCell' = true := by
 intro u hu
 unfold pairs at hu
 rw [List.mem_flatMap] at hu
 obtain ⟨a, -, h⟩ := hu
 simp at h
 rcases h with rfl | rfl <;> rfl
theorem oneInts (zs : List Int) : ∀ u ∈ ints zs, u.oneCell' = true := by
 intro u hu
 unfold ints at hu
 rw [List.mem_map] at hu
 obtain ⟨a, -, rfl⟩ := hu
 rfl
theorem newsA {w : World} {g : Nat} {xs : List Al} (h : SlA w (some ⟨g, 0, none⟩) xs) : ∀ j u, (pairs xs)[j]? = some u → w.cell? ((⟨g, 0, none⟩ : Addr).add j) = some u := by
 intro j u hu
 have hj : j < (pairs xs).length := by
  rcases Nat.lt_or_ge j (pairs xs).length with h' | h'
  ·exact h'
  ·rw [List.getElem?_eq_none h'] at hu; cases hu
 rw [pairs_len] at hj
 rcases h with rfl | ⟨b, off, e, hb, hr⟩
 ·simp at hj
 injection e with e; injection e with e1 e2
 subst e1; subst e2
 rw [show (⟨g, 0, none⟩ : Addr).add j = ⟨g, 0 + j, none⟩ by simp [Addr.add]; omega]
 obtain ⟨i, hi⟩ : ∃ i, j = i * 2 ∨ j = i * 2 + 1 := ⟨j / 2, by omega⟩
 rcases hi with rfl | rfl
 ·rw [(pairs_at xs i (by omega)).1] at hu
  injection hu with hu; subst hu
  have := (hr i (by omega)).1
  exact this
 ·rw [(pairs_at xs i (by omega)).2] at hu
  injection hu with hu; subst hu
  have := (hr i (by omega)).2
  rw [show 0 + i * 2 + 1 = 0 + (i * 2 + 1) by omega] at this
  exact this
theorem newsI {w : World} {g : Nat} {zs : List Int} (h : SlI w (some ⟨g, 0, none⟩) zs) : ∀ j u, (ints zs)[j]? = some u → w.cell? ((⟨g, 0, none⟩ : Addr).add j) = some u := by
 intro j u hu
 have hj : j < (ints zs).length := by
  rcases Nat.lt_or_ge j (ints zs).length with h' | h'
  ·exact h'
  ·rw [List.getElem?_eq_none h'] at hu; cases hu
 rcases h with rfl | ⟨b, off, e, hb, hr⟩
 ·simp [ints] at hj
 injection e with e; injection e with e1 e2
 subst e1; subst e2
 have hj2 : j < zs.length := by simpa [ints] using hj
 have := hr j hj2
 unfold ints at hu
 rw [List.getElem?_map, List.getElem?_eq_getElem hj2] at hu
 simp at hu
 subst hu
 rw [show (⟨g, 0, none⟩ : Addr).add j = ⟨g, 0 + j, none⟩ by simp [Addr.add]; omega]
 exact this
theorem ownsA {w : World} {base n : Nat} {v : Value} {xs : List Al} (h : w.ownsRow base 90 2 v n (pairs xs)) (hn : n = xs.length) : ∃ ad cap, v = .slice ad xs.length cap ∧ SlA w ad xs ∧ (xs ≠ [] → ∃ g, ad = some ⟨g, 0, none⟩) ∧ ∀ g, xs ≠ [] → ad = some ⟨g, 0, none⟩ → base ≤ g ∧ g < w.heap.size ∧ Free w g := by
 subst hn
 have h2 := h
 rcases h.2 with ⟨rfl, h0⟩ | ⟨g, cap, cur, rfl, hbg, hg, hnc, -⟩
 ·have hx : xs = [] := List.length_eq_zero_iff.1 h0
  subst hx
  exact ⟨none, 0, rfl, .inl rfl, fun h => absurd rfl h, fun _ h => absurd rfl h⟩
 ·have hlt := h2.lt g rfl
  refine ⟨some ⟨g, 0, none⟩, cap, rfl, .inr ⟨g, 0, rfl, hlt.2, fun i hi => ?_⟩, fun _ => ⟨g, rfl⟩, fun g' _ e => ?_⟩
  ·have hl := pairs_len xs
   obtain ⟨p0, p1⟩ := pairs_at xs i hi
   refine ⟨?_, ?_⟩
   ·rw [h2.cellAt (0 + i * 2) (by omega), Nat.zero_add]; exact p0
   ·rw [h2.cellAt (0 + i * 2 + 1) (by omega), Nat.zero_add]; exact p1
  ·injection e with e; injection e with e1 e2
   subst e1
   exact ⟨hlt.1, hlt.2, fun y => h2.frozenAt y⟩
theorem ownsI {w : World} {base n : Nat} {v : Value} {zs : List Int} (h : w.ownsRow base 2 1 v n (ints zs)) (hn : n = zs.length) : ∃ ad cap, v = .slice ad zs.length cap ∧ SlI w ad zs ∧ (zs ≠ [] → ∃ g, ad = some ⟨g, 0, none⟩) ∧ ∀ g, zs ≠ [] → ad = some ⟨g, 0, none⟩ → base ≤ g ∧ g < w.heap.size ∧ Free w g := by
 subst hn
 have h2 := h
 rcases h.2 with ⟨rfl, h0⟩ | ⟨g, cap, cur, rfl, hbg, hg, hnc, -⟩
 ·have hx : zs = [] := List.length_eq_zero_iff.1 h0
  subst hx
  exact ⟨none, 0, rfl, .inl rfl, fun h => absurd rfl h, fun _ h => absurd rfl h⟩
 ·have hlt := h2.lt g rfl
  refine ⟨some ⟨g, 0, none⟩, cap, rfl, .inr ⟨g, 0, rfl, hlt.2, fun i hi => ?_⟩, fun _ => ⟨g, rfl⟩, fun g' _ e => ?_⟩
  ·rw [h2.cellAt (0 + i) (by omega), Nat.zero_add]; simp [ints, hi]
  ·injection e with e; injection e with e1 e2
   subst e1
   exact ⟨hlt.1, hlt.2, fun y => h2.frozenAt y⟩
theorem wpList_append_copy {ops : Array Oper} {rest : List Oper} {o : Oper} {a : Act} {Q : Exit → Act → World → Prop} (w : World) (hgd : o.guard = none) (s x : Operand) (t : TypeId)
  (ho : o.op = .call { callee := .builtin .append, args := #[s, x], argTypes := #[t, t] })
  (e : TypeId) (i : TypeInfo) (z : Value) (size bytes : Nat) (ht : Tryz.prog.underlying t = some (.slice e)) (hi : Tryz.prog.info? e = some i) (hz : i.zero = some z)
  (hsize : i.size = size) (hby : i.bytes = bytes) (hzs : z.cells.size = size) (hsz : 0 < size)
  (hs : a.eval s = .slice none 0 0)
  (ad : Option Addr) (m c : Nat) (news : List Value) (hx : a.eval x = .slice ad m c) (hl : news.length = m * size) (hn0 : ad = none → m = 0) (hnews : ∀ A, ad = some A → ∀ j u, news[j]? = some u → w.cell? (A.add j) = some u) (h1 : ∀ u ∈ news, u.oneCell' = true)
  (h63 : 0 + m ≤ maxLen) (hbytes : (0 + m) * bytes ≤ 140737488355328)
  (h : ∀ v' w', w'.ownsRow w.heap.size e size v' (0 + m) ([] ++ news) → w.grownBy w' (Value.ownBlock (.slice none 0 0)) → wpList Tryz.prog ops Q rest (a.put o.dst v') w') : wpList Tryz.prog ops Q (o :: rest) a w := by
 cases ad with
 | some A => exact wpList_append_own w hgd s x t ho w.heap.size e i z size bytes ht hi hz hsize hby hzs hsz (.slice none 0 0) 0 [] hs (World.ownsRow_nil _ _ _ _) A m c news hx hl (hnews A rfl) h1 h63 hbytes (Nat.le_refl _) fun v' w' a b _ => h v' w' a b
 | none =>
  obtain rfl := hn0 rfl
  have hn : news = [] := List.eq_nil_of_length_eq_zero (by simpa using hl)
  subst hn
  refine wpList_plain hgd fun K hK => ?_
  have hr : (Builtin.append_ #[t, t] o.type #[.slice none 0 0, .slice none 0 c]).run Tryz.prog w = .ok (.slice none 0 0) w := by
   simp [Builtin.append_, run_underlying ht, sizeOf, typeInfo, hi, Builtin.lenOf, Builtin.firstCells]
  unfold Oper.wp execOp
  simp only [ho, resolve, invoke, builtin, Sem.run_bind, Sem.run_pure, Result.andThen_ok, List.map_toArray, List.map_cons, List.map_nil, hs, hx, hr]
  exact hK _ _ (h _ w (World.ownsRow_nil w _ e size) ⟨rfl, rfl, rfl, Nat.le_refl _, fun _ _ _ => rfl⟩)
theorem newsAn {w : World} {ad : Option Addr} {xs : List Al} (h : SlA w ad xs) : ∀ A, ad = some A → ∀ j u, (pairs xs)[j]? = some u → w.cell? (A.add j) = some u := by
 intro A hA j u hu
 subst hA
 have hl := pairs_len xs
 have hj : j < (pairs xs).length := by
  rcases Nat.lt_or_ge j (pairs xs).length with h' | h'
  ·exact h'
  ·rw [List.getElem?_eq_none h'] at hu; cases hu
 rcases h with rfl | ⟨b, off, e, hb, hr⟩
 ·simp [pairs] at hj
 injection e with e
 subst e
 obtain ⟨i, hi⟩ : ∃ i, j = i * 2 ∨ j = i * 2 + 1 := ⟨j / 2, by omega⟩
 rw [show (⟨b, off, none⟩ : Addr).add j = ⟨b, off + j, none⟩ by simp [Addr.add]]
 rcases hi with rfl | rfl
 ·rw [(pairs_at xs i (by omega)).1] at hu
  injection hu with hu; subst hu
  exact (hr i (by omega)).1
 ·rw [(pairs_at xs i (by omega)).2] at hu
  injection hu with hu; subst hu
  have := (hr i (by omega)).2
  rw [show off + i * 2 + 1 = off + (i * 2 + 1) by omega] at this
  exact this
theorem SlA.none0 {w : World} {ad : Option Addr} {xs : List Al} (h : SlA w ad xs) : ad = none → xs.length = 0 := fun e => by
 rcases h with rfl | ⟨b, off, e', -⟩
 ·rfl
 ·rw [e'] at e; cases e
theorem SlI.none0 {w : World} {ad : Option Addr} {zs : List Int} (h : SlI w ad zs) : ad = none → zs.length = 0 := fun e => by
 rcases h with rfl | ⟨b, off, e', -⟩
 ·rfl
 ·rw [e'] at e; cases e
def ER.atZero (r : ER) : Prop := ∃ gA gK : Nat, r.adA = some ⟨gA, 0, none⟩ ∧ r.adK = some ⟨gK, 0, none⟩
end Go.Proofs.YtmghabcaakgjiaaGreat
namespace Go.Proofs.YtmghabcaakgjiaaGreat
open Go.ChangeShapes Go.WideShapes Go.ChangeAt Go.RowKit Go.Maps
open Pl
theorem SlA.grown {w w' : World} {row : Option Nat} {ad : Option Addr} {xs : List Al} (h : SlA w ad xs) (hg : w.grownBy w' row) (hn : ∀ g o, xs ≠ [] → ad = some ⟨g, o, none⟩ → some g ≠ row) : SlA w' ad xs := by
 rcases h with h | ⟨b, off, e, hb, hr⟩
 ·exact .inl h
 ·by_cases hx : xs = []
  ·exact .inl hx
  ·exact .inr ⟨b, off, e, Nat.lt_of_lt_of_le hb hg.size, fun i hi => ⟨hg.cell (hr i hi).1 (hn b off hx e), hg.cell (hr i hi).2 (hn b off hx e)⟩⟩
theorem SlI.grown {w w' : World} {row : Option Nat} {ad : Option Addr} {zs : List Int} (h : SlI w ad zs) (hg : w.grownBy w' row) (hn : ∀ g o, zs ≠ [] → ad = some ⟨g, o, none⟩ → some g ≠ row) : SlI w' ad zs := by
 rcases h with h | ⟨b, off, e, hb, hr⟩
 ·exact .inl h
 ·by_cases hx : zs = []
  ·exact .inl hx
  ·exact .inr ⟨b, off, e, Nat.lt_of_lt_of_le hb hg.size, fun i hi => hg.cell (hr i hi) (hn b off hx e)⟩
structure Beside (w : World) (v : Value) (q : ER) : Prop where
 ok : q.ok w
 zA : q.e.allow ≠ [] → ∃ g, q.adA = some ⟨g, 0, none⟩
 zK : q.e.kids ≠ [] → ∃ g, q.adK = some ⟨g, 0, none⟩
 lt : ∀ g, inR q g → g < w.heap.size ∧ v.ownBlock ≠ some g
theorem Beside.below {w w' : World} {v : Value} {q : ER} (h : Beside w v q) (hb : Below w.heap.size w w') : Beside w' v q :=
 ⟨h.ok.below hb, h.zA, h.zK, fun g hg => ⟨Nat.lt_of_lt_of_le (h.lt g hg).1 hb.size, (h.lt g hg).2⟩⟩
theorem Beside.grown {w w' : World} {v v' : Value} {q : ER} (h : Beside w v q) (hg : w.grownBy w' v.ownBlock) (hv : v'.ownBlock = v.ownBlock ∨ v'.ownBlock = some w.heap.size) : Beside w' v' q := by
 refine ⟨⟨h.ok.1.grown hg fun g o hne e => ?_, h.ok.2.grown hg fun g o hne e => ?_⟩, h.zA, h.zK, fun g hi => ⟨Nat.lt_of_lt_of_le (h.lt g hi).1 hg.size, ?_⟩⟩
 ·obtain ⟨g0, e0⟩ := h.zA hne
  rw [e0] at e; injection e with e; injection e with e1 e2
  subst e1
  exact fun e => (h.lt g0 (.inl ⟨hne, e0⟩)).2 e.symm
 ·obtain ⟨g0, e0⟩ := h.zK hne
  rw [e0] at e; injection e with e; injection e with e1 e2
  subst e1
  exact fun e => (h.lt g0 (.inr ⟨hne, e0⟩)).2 e.symm
 ·rcases hv with e | e
  ·rw [e]; exact (h.lt g hi).2
  ·rw [e]; intro e2; injection e2 with e2; have := (h.lt g hi).1; omega
theorem ownsE {w : World} {base n : Nat} {v : Value} {qs : List ER} (h : w.ownsRow base 50 5 v n (rows5 qs)) (hn : n = qs.length) (hok : ∀ q ∈ qs, q.ok w) : ∃ ad cap, v = .slice ad qs.length cap ∧ SlE w ad qs := by
 subst hn
 have h2 := h
 rcases h.2 with ⟨rfl, h0⟩ | ⟨g, cap, cur, rfl, hbg, hg, hnc, -⟩
 ·exact ⟨none, 0, by rw [h0], .inl (List.length_eq_zero_iff.1 h0)⟩
 ·have hlt := h2.lt g rfl
  refine ⟨some ⟨g, 0, none⟩, cap, rfl, .inr ⟨g, 0, rfl, hlt.2, fun i hi => ?_, hok⟩⟩
  have hl := rows5_len qs
  have key : ∀ j, j < 5 → w.cell? ⟨g, 0 + i * 5 + j, none⟩ = (qs[i]).row[j]? := fun j hj => by
   rw [h2.cellAt (0 + i * 5 + j) (by omega), ← rows5_at qs i hi j hj, Nat.zero_add]
  exact ⟨key 0 (by omega), key 1 (by omega), key 2 (by omega), key 3 (by omega), key 4 (by omega)⟩
theorem row5_news (w : World) (q : ER) : ∀ j u, q.row[j]? = some u → (w.alloc (.cells #[.int .i64 q.e.kind, .slice q.adA q.e.allow.length q.capA, .string q.e.over, .string q.e.name, .slice q.adK q.e.kids.length q.capK] 50)).cell? ((⟨w.heap.size, 0, none⟩ : Addr).add j) = some u := by
 intro j u hu
 rw [show (⟨w.heap.size, 0, none⟩ : Addr).add j = ⟨w.heap.size, 0 + j, none⟩ by simp [Addr.add]; omega, Nat.zero_add]
 have := World.cell?_alloc_mark w #[.int .i64 q.e.kind, .slice q.adA q.e.allow.length q.capA, .string q.e.over, .string q.e.name, .slice q.adK q.e.kids.length q.capK] 50 (0, 0) j
 rw [this]
 simpa [ER.row] using hu
theorem row5_one (q : ER) : ∀ u ∈ q.row, u.oneCell' = true := by
 intro u hu
 simp [ER.row] at hu
 rcases hu with rfl | rfl | rfl | rfl | rfl <;> rfl
end Go.Proofs.YtmghabcaakgjiaaGreat
namespace Go.Proofs.YtmghabcaakgjiaaGreat
set_option maxRecDepth 100000
open Go.ChangeShapes Go.WideShapes Go.ChangeAt Go.RowKit
open Pl
theorem SlA.heap {w w' : World} {ad : Option Addr} {xs : List Al} (h : SlA w ad xs) (hs : w.heap.size ≤ w'.heap.size) (hz : xs ≠ [] → ∃ g, ad = some ⟨g, 0, none⟩) (hn : ∀ g, xs ≠ [] → ad = some ⟨g, 0, none⟩ → w'.heap[g]? = w.heap[g]?) : SlA w' ad xs := by
 rcases h with h | ⟨b, off, e, hb, hr⟩
 ·exact .inl h
 ·by_cases hx : xs = []
  ·exact .inl hx
  ·obtain ⟨g, eg⟩ := hz hx
   have e2 := e
   rw [eg] at e; injection e with e; injection e with e1 e3
   subst e1
   have hh := hn g hx eg
   exact .inr ⟨g, off, e2, Nat.lt_of_lt_of_le hb hs, fun i hi => ⟨(World.cell?_of_block (w := w) (a := ⟨g, _, none⟩) hh).trans (hr i hi).1, (World.cell?_of_block (w := w) (a := ⟨g, _, none⟩) hh).trans (hr i hi).2⟩⟩
theorem SlI.heap {w w' : World} {ad : Option Addr} {xs : List Int} (h : SlI w ad xs) (hs : w.heap.size ≤ w'.heap.size) (hz : xs ≠ [] → ∃ g, ad = some ⟨g, 0, none⟩) (hn : ∀ g, xs ≠ [] → ad = some ⟨g, 0, none⟩ → w'.heap[g]? = w.heap[g]?) : SlI w' ad xs := by
 rcases h with h | ⟨b, off, e, hb, hr⟩
 ·exact .inl h
 ·by_cases hx : xs = []
  ·exact .inl hx
  ·obtain ⟨g, eg⟩ := hz hx
   have e2 := e
   rw [eg] at e; injection e with e; injection e with e1 e3
   subst e1
   have hh := hn g hx eg
   exact .inr ⟨g, off, e2, Nat.lt_of_lt_of_le hb hs, fun i hi => (World.cell?_of_block (w := w) (a := ⟨g, _, none⟩) hh).trans (hr i hi)⟩
theorem ok_heap {w w' : World} {q : ER} (h : q.ok w) (hs : w.heap.size ≤ w'.heap.size) (zA : q.e.allow ≠ [] → ∃ g, q.adA = some ⟨g, 0, none⟩) (zK : q.e.kids ≠ [] → ∃ g, q.adK = some ⟨g, 0, none⟩) (hn : ∀ g, inR q g → w'.heap[g]? = w.heap[g]?) : q.ok w' :=
 ⟨h.1.heap hs zA fun g h1 h2 => hn g (.inl ⟨h1, h2⟩), h.2.heap hs zK fun g h1 h2 => hn g (.inr ⟨h1, h2⟩)⟩
theorem free_heap {w w' : World} {g : Nat} (h : Free w g) (hh : w'.heap[g]? = w.heap[g]?) : Free w' g := fun j => (World.frozen?_of_block (w := w) (a := ⟨g, j, none⟩) hh).trans (h j)
theorem own_heap {w w' : World} {base : Nat} {e : TypeId} {size : Nat} {v : Value} {n : Nat} {xs : List Value} (h : w.ownsRow base e size v n xs) (hh : ∀ g, v.ownBlock = some g → w'.heap[g]? = w.heap[g]?) : w'.ownsRow base e size v n xs := by
 refine ⟨h.1, ?_⟩
 rcases h.2 with hl | ⟨g, cap, cur, rfl, h1, h2, h3⟩
 ·exact .inl hl
 ·exact .inr ⟨g, cap, cur, rfl, h1, (hh g rfl).trans h2, h3⟩
structure NewQ (X : Nat) (w : World) (q : ER) : Prop where
 zA : q.e.allow ≠ [] → ∃ g, q.adA = some ⟨g, 0, none⟩
 zK : q.e.kids ≠ [] → ∃ g, q.adK = some ⟨g, 0, none⟩
 ok : q.ok w
 lie : ∀ g, inR q g → X ≤ g ∧ g < w.heap.size ∧ Free w g
 one : ∀ g, bA q g → ¬ bK q g
 cA : q.e.allow.length ≤ q.capA
end Go.Proofs.YtmghabcaakgjiaaGreat
