/- A schema in memory: one node, one name, one type's relations set anew. -/
import Derived.Test.YtmghabcaakgjiaaGreatJ16
import Derived.Test.YtmghabcaakgjiaaGreatL7Node
import Derived.Test.YtmghabcaakgjiaaGreatL7Sort
import Derived.Test.YtmghabcaakgjiaaGreatJ14
namespace Go.Proofs.YtmghabcaakgjiaaGreat
set_option maxRecDepth 100000
set_option linter.unusedVariables false
open Go.ChangeShapes Go.WideShapes Go.ChangeAt Go.RowKit Go.Maps
open Pl
section
variable {α : Type} {T : TypeId} {size : Nat} {cells : α → List Value} {K : World → Nat → α → Prop} {I : α → Nat → Prop} {w w' : World} {base : Nat} {v : Value} {rs : List α}
theorem LotM.recell (kd : Kid K I) {b n cap : Nat} (h : LotM T size cells K I w base (.slice (some ⟨b, 0, none⟩) n cap) rs) (hn : n = rs.length) {i : Nat} (hi : i < rs.length) {q' : α} (hown : w'.ownsRow base T size (.slice (some ⟨b, 0, none⟩) n cap) n ((rs.set i q').flatMap cells)) (hc : Chg (fun g => g = b) w w') (hk : K w base q') (hI : ∀ g, I q' g → I rs[i] g) : LotM T size cells K I w' base (.slice (some ⟨b, 0, none⟩) n cap) (rs.set i q') := by
 have hne : ∀ p ∈ rs, ∀ g, I p g → g ≠ b := fun p hp g hg e => h.head p hp g hg (by rw [e]; rfl)
 have hne' : ∀ g, I q' g → g ≠ b := fun g hg => hne _ (List.getElem_mem hi) g (hI g hg)
 refine ⟨by rw [List.length_set, ← hn]; exact hown, fun p hp => ?_, fun p hp g hg => ?_, two_set hi h.two fun x hx hne g h1 h2 => h.two x i hx hi hne g h1 (hI g h2)⟩
 ·rcases mem_set hp with rfl | ⟨x, hx, -, rfl⟩
  ·exact kd.heap w w' base _ hk hc.size fun g hg => hc.block g (kd.lt w base _ hk g hg).2 (hne' g hg)
  ·have hkx := h.kid _ (List.getElem_mem hx)
   exact kd.heap w w' base _ hkx hc.size fun g hg => hc.block g (kd.lt w base _ hkx g hg).2 (hne _ (List.getElem_mem hx) g hg)
 ·intro e
  have e : b = g := by simpa [Value.ownBlock] using e
  rcases mem_set hp with rfl | ⟨x, hx, -, rfl⟩
  ·exact hne' g hg e.symm
  ·exact hne _ (List.getElem_mem hx) g hg e.symm
theorem LotM.setMix (kd : Kid K I) {b n cap j : Nat} {u : Value} (h : LotM T size cells K I w base (.slice (some ⟨b, 0, none⟩) n cap) rs) (hn : n = rs.length) {w0 : World} (h0 : LotM T size cells K I w0 base (.slice (some ⟨b, 0, none⟩) n cap) rs) {i : Nat} (hi : i < rs.length) {q' : α} (hk : ∀ w2 : World, w.heap.size ≤ w2.heap.size → (∀ g, I q' g → w2.heap[g]? = w.heap[g]?) → K w2 base q') (hI : ∀ g, I q' g → I rs[i] g ∨ w0.heap.size ≤ g) (hset : (rs.flatMap cells).set j u = (rs.set i q').flatMap cells) :
  LotM T size cells K I (w.setCell ⟨b, j, none⟩ u) base (.slice (some ⟨b, 0, none⟩) n cap) (rs.set i q') := by
 have own1 := h.own
 rw [← hn] at own1
 obtain ⟨own2, hg2⟩ := own1.stored j u
 rw [hset] at own2
 have hbl : b < w0.heap.size := (h0.own.lt b rfl).2
 have hsm : ∀ g, g ≠ b → (w.setCell ⟨b, j, none⟩ u).heap[g]? = w.heap[g]? := fun g hne => Below.heap_setCell w _ u g hne
 have hnb : ∀ g, I q' g → g ≠ b := fun g hg e => by
  rcases hI g hg with h1 | h1
  ·exact h.head _ (List.getElem_mem hi) g h1 (by rw [e]; rfl)
  ·omega
 refine ⟨by rw [List.length_set, ← hn]; exact own2, fun p hp => ?_, fun p hp g hg => ?_, two_set hi h.two fun x hx hne g h1 h2 => ?_⟩
 ·rcases mem_set hp with rfl | ⟨x, hx, hne, rfl⟩
  ·exact hk _ hg2.size fun g hg => hsm g (hnb g hg)
  ·exact kd.heap w _ base _ (h.kid _ (List.getElem_mem hx)) hg2.size fun g hg => hsm g fun e => h.head _ (List.getElem_mem hx) g hg (by rw [e]; rfl)
 ·rcases mem_set hp with rfl | ⟨x, hx, hne, rfl⟩
  ·intro e
   have e : b = g := by simpa [Value.ownBlock] using e
   exact hnb g hg e.symm
  ·exact h.head _ (List.getElem_mem hx) g hg
 ·rcases hI g h2 with h3 | h3
  ·exact h.two x i hx hi hne g h1 h3
  ·have h4 := (kd.lt w0 base _ (h0.kid _ (List.getElem_mem hx)) g h1).2
   omega
end
def TR.reE (q : TR) (j : Nat) (rows' : List ER) (h : j < q.rows.length) : TR := { q with rows := q.rows.set j { q.rows[j] with rows := rows' } }
theorem TypM.deep {w w' : World} {base bO n cap : Nat} {qs : List TR} {k j : Nat} {rows' : List ER} (h : TypM w base (.slice (some ⟨bO, 0, none⟩) n cap) qs) (hk : k < qs.length) (hj : j < qs[k].rows.length) (hs : w.heap.size ≤ w'.heap.size) (hh : ∀ g, g < w.heap.size → ¬ iR qs[k].rows[j] g → w'.heap[g]? = w.heap[g]?) (hn : NodM w' base qs[k].rows[j].vs rows') (hl : rows'.length = qs[k].rows[j].rows.length) (hI : ∀ g, inLot inR qs[k].rows[j].vs rows' g → iR qs[k].rows[j] g ∨ w.heap.size ≤ g) :
  TypM w' base (.slice (some ⟨bO, 0, none⟩) n cap) (qs.set k (qs[k].reE j rows' hj)) := by
 have hvs : RR.vs { qs[k].rows[j] with rows := rows' } = qs[k].rows[j].vs := by unfold RR.vs; rw [hl]
 have hkid : RelM w base qs[k].vs qs[k].rows := h.kid _ (List.getElem_mem hk)
 have hin : RelM w' base qs[k].vs (qs[k].rows.set j { qs[k].rows[j] with rows := rows' }) := by
  refine LotM.setIn kidR hkid hj hs hh ?_ ?_ ?_
  ·unfold RR.cells; rw [hvs]
  ·show NodM w' base (RR.vs { qs[k].rows[j] with rows := rows' }) rows'
   rw [hvs]; exact hn
  ·intro g hg
   have hg : inLot inR (RR.vs { qs[k].rows[j] with rows := rows' }) rows' g := hg
   rw [hvs] at hg; exact hI g hg
 have hvT : TR.vs (qs[k].reE j rows' hj) = qs[k].vs := by unfold TR.vs TR.reE; rw [List.length_set]
 refine LotM.setIn kidT h hk hs (fun g hg hn => hh g hg fun hi => hn (.inr ⟨_, List.getElem_mem hj, hi⟩)) ?_ ?_ ?_
 ·unfold TR.cells; rw [hvT]; rfl
 ·show RelM w' base (TR.vs (qs[k].reE j rows' hj)) _
  rw [hvT]; exact hin
 ·intro g hg
  rcases hg with hg | ⟨q, hq, hg⟩
  ·rw [hvT] at hg; exact .inl (.inl hg)
  ·rcases mem_set hq with rfl | ⟨x, hx, -, rfl⟩
   ·have hg : inLot inR (RR.vs { qs[k].rows[j] with rows := rows' }) rows' g := hg
    rw [hvs] at hg
    rcases hI g hg with h1 | h1
    ·exact .inl (.inr ⟨_, List.getElem_mem hj, h1⟩)
    ·exact .inr h1
   ·exact .inl (.inr ⟨_, List.getElem_mem hx, hg⟩)
def TR.reN (q : TR) (j : Nat) (s : ByteArray) (h : j < q.rows.length) : TR := { q with rows := q.rows.set j { q.rows[j] with name := s } }
theorem cells_name (s : ByteArray) : ∀ (xs : List RR) (j : Nat) (hj : j < xs.length), (xs.flatMap RR.cells).set (j * 2) (Value.string s) = (xs.set j { xs[j] with name := s }).flatMap RR.cells
 | [], j, hj => by simp at hj
 | x :: xs, 0, _ => by simp [RR.cells, RR.vs]
 | x :: xs, j + 1, hj => by
  have := cells_name s xs j (by simpa using hj)
  simp only [List.flatMap_cons, List.getElem_cons_succ, List.set_cons_succ]
  rw [← this, show (j + 1) * 2 = (j * 2) + 2 by omega]
  simp [RR.cells]
theorem TypM.relname {w : World} {base bO n cap b2 : Nat} {qs : List TR} {k j : Nat} (s : ByteArray) (h : TypM w base (.slice (some ⟨bO, 0, none⟩) n cap) qs) (hk : k < qs.length) (hj : j < qs[k].rows.length) (had : qs[k].ad = some ⟨b2, 0, none⟩) :
  TypM (w.setCell ⟨b2, j * 2, none⟩ (.string s)) base (.slice (some ⟨bO, 0, none⟩) n cap) (qs.set k (qs[k].reN j s hj)) := by
 have hv : qs[k].vs = .slice (some ⟨b2, 0, none⟩) qs[k].rows.length qs[k].cap := by unfold TR.vs; rw [had]
 have hkid : RelM w base (.slice (some ⟨b2, 0, none⟩) qs[k].rows.length qs[k].cap) qs[k].rows := by rw [← hv]; exact h.kid _ (List.getElem_mem hk)
 have hc : Chg (fun g => g = b2) w (w.setCell ⟨b2, j * 2, none⟩ (.string s)) := Chg.set _ rfl
 have hin : RelM (w.setCell ⟨b2, j * 2, none⟩ (.string s)) base (.slice (some ⟨b2, 0, none⟩) qs[k].rows.length qs[k].cap) (qs[k].rows.set j { qs[k].rows[j] with name := s }) := by
  have hk1 : kR w base qs[k].rows[j] := hkid.kid _ (List.getElem_mem hj)
  refine LotM.recell kidR hkid rfl hj ?_ hc (show NodM w base (RR.vs { qs[k].rows[j] with name := s }) qs[k].rows[j].rows from hk1) (fun g hg => hg)
  rw [← cells_name s qs[k].rows j hj]
  exact (hkid.own.stored (j * 2) (.string s)).1
 have hvT : TR.vs (qs[k].reN j s hj) = qs[k].vs := by unfold TR.vs TR.reN; rw [List.length_set]
 refine LotM.setIn kidT h hk hc.size (fun g hg hn => hc.block g hg fun e => hn (.inl (by rw [hv, e]; rfl))) ?_ ?_ ?_
 ·unfold TR.cells; rw [hvT]; rfl
 ·show RelM _ base (TR.vs (qs[k].reN j s hj)) _
  rw [hvT, hv]; exact hin
 ·intro g hg
  rcases hg with hg | ⟨q, hq, hg⟩
  ·rw [hvT] at hg; exact .inl (.inl hg)
  ·rcases mem_set hq with rfl | ⟨x, hx, -, rfl⟩
   ·exact .inl (.inr ⟨_, List.getElem_mem hj, hg⟩)
   ·exact .inl (.inr ⟨_, List.getElem_mem hx, hg⟩)
theorem TypM.resort {w w1 : World} {base bO n cap c' : Nat} {qs : List TR} {k : Nat} {ys : List RR} {ad' : Option Addr} (h : TypM w base (.slice (some ⟨bO, 0, none⟩) n cap) qs) (hn : n = qs.length) (hb : Below w.heap.size w w1) (hbase : base ≤ w.heap.size) (hk : k < qs.length) (hp : ys.Perm qs[k].rows) (hown : w1.ownsRow w.heap.size 46 2 (.slice ad' qs[k].rows.length c') qs[k].rows.length (ys.flatMap RR.cells)) :
  TypM (w1.setCell ⟨bO, k * 2 + 1, none⟩ (.slice ad' qs[k].rows.length c')) base (.slice (some ⟨bO, 0, none⟩) n cap) (qs.set k ⟨qs[k].name, ys, ad', c'⟩) := by
 have hkid : RelM w base qs[k].vs qs[k].rows := h.kid _ (List.getElem_mem hk)
 have hyl := hp.length_eq
 have hvs : TR.vs ⟨qs[k].name, ys, ad', c'⟩ = .slice ad' qs[k].rows.length c' := by unfold TR.vs; rw [← hyl]
 refine LotM.setMix kidT (LotM.below kidT h hb) hn h hk (q' := ⟨qs[k].name, ys, ad', c'⟩) (fun w2 hs2 hh => ?_) (fun g hg => ?_) ?_
 ·have hmemI : ∀ q ∈ ys, ∀ g, iR q g → inLot iR (TR.vs ⟨qs[k].name, ys, ad', c'⟩) ys g := fun q hq g hg => .inr ⟨q, hq, hg⟩
  refine ⟨?_, fun q hq => ?_, fun q hq g hg => ?_, ?_⟩
  ·have h1 : w1.ownsRow base 46 2 (TR.vs ⟨qs[k].name, ys, ad', c'⟩) ys.length (ys.flatMap RR.cells) := by rw [hvs, hyl]; exact own_mono hown hbase
   exact own_heap h1 fun g hg => hh g (.inl hg)
  ·have hq0 := hp.mem_iff.1 hq
   have hk0 := hkid.kid q hq0
   refine kidR.heap w w2 base q hk0 (Nat.le_trans hb.size hs2) fun g hg => ?_
   rw [hh g (hmemI q hq g hg)]
   exact hb.block g (kidR.lt w base q hk0 g hg).2
  ·intro e
   have hq0 := hp.mem_iff.1 hq
   have h1 := (kidR.lt w base q (hkid.kid q hq0) g hg).2
   rw [hvs] at e
   have h2 := (hown.lt g e).1
   omega
  ·have hpw : qs[k].rows.Pairwise fun a b => ∀ z, iR a z → ¬ iR b z := List.pairwise_iff_getElem.2 fun i j hi hj hij z h1 h2 => hkid.two i j hi hj (by omega) z h1 h2
   have hpw3 : ys.Pairwise fun a b => ∀ z, iR a z → ¬ iR b z := (List.Perm.pairwise_iff (fun {a b} hab z h1 h2 => hab z h2 h1) hp).2 hpw
   rw [List.pairwise_iff_getElem] at hpw3
   intro i j hi hj hij z h1 h2
   rcases Nat.lt_or_gt_of_ne hij with h3 | h3
   ·exact hpw3 i j hi hj h3 z h1 h2
   ·exact hpw3 j i hj hi h3 z h2 h1
 ·rcases hg with hg | ⟨q, hq, hg⟩
  ·rw [hvs] at hg; exact .inr (hown.lt g hg).1
  ·exact .inl (.inr ⟨q, hp.mem_iff.1 hq, hg⟩)
 ·have hgen : ∀ (xs : List TR) (j : Nat) (hj : j < xs.length) (u : TR), u.name = xs[j].name → (xs.flatMap TR.cells).set (j * 2 + 1) u.vs = (xs.set j u).flatMap TR.cells := by
   intro xs
   induction xs with
   | nil => intro j hj; simp at hj
   | cons x xs ih =>
    intro j hj u hu
    cases j with
    | zero => simp only [List.getElem_cons_zero] at hu; simp [TR.cells, hu]
    | succ j =>
     have := ih j (by simpa using hj) u (by simpa using hu)
     simp only [List.flatMap_cons, List.set_cons_succ]
     rw [← this, show (j + 1) * 2 + 1 = (j * 2 + 1) + 2 by omega]
     simp [TR.cells]
  rw [← hvs]
  exact hgen qs k hk ⟨qs[k].name, ys, ad', c'⟩ rfl
theorem row5_set (q : ER) : ∀ (xs : List ER) (m : Nat) (hm : m < xs.length), (((((xs.flatMap ER.row).set (m * 5) (.int .i64 q.e.kind)).set (m * 5 + 1) (.slice q.adA q.e.allow.length q.capA)).set (m * 5 + 2) (.string q.e.over)).set (m * 5 + 3) (.string q.e.name)).set (m * 5 + 4) (.slice q.adK q.e.kids.length q.capK) = (xs.set m q).flatMap ER.row
 | [], m, hm => by simp at hm
 | x :: xs, 0, _ => by simp [ER.row]
 | x :: xs, m + 1, hm => by
  have := row5_set q xs m (by simpa using hm)
  simp only [List.flatMap_cons, List.set_cons_succ]
  rw [← this]
  have e : ∀ (l : List Value) (i : Nat) (u : Value), (ER.row x ++ l).set ((m + 1) * 5 + i) u = ER.row x ++ l.set (m * 5 + i) u := fun l i u => by
   rw [List.set_append_right _ _ (by simp [ER.row]; omega)]
   congr 2
   simp [ER.row]; omega
  have e0 := e (xs.flatMap ER.row) 0 (.int .i64 q.e.kind)
  rw [Nat.add_zero, Nat.add_zero] at e0
  rw [e0, e, e, e, e, Nat.add_zero]
theorem NodM.node {w w1 w2 : World} {base b n cap : Nat} {rows : List ER} {m : Nat} {al : List Al} {q : ER} (h : NodM w base (.slice (some ⟨b, 0, none⟩) n cap) rows) (hn : n = rows.length) (hm : m < rows.length) (hc : Chg (bA rows[m]) w w1) (hal : SlA w1 rows[m].adA al) (hl : al.length = rows[m].e.allow.length)
  (hq : q.e.allow = al ∧ q.e.kind = rows[m].e.kind ∧ q.e.kids = rows[m].e.kids ∧ q.adA = rows[m].adA ∧ q.capA = rows[m].capA ∧ q.adK = rows[m].adK ∧ q.capK = rows[m].capK)
  (hw : w2 = ((((w1.setCell ⟨b, m * 5, none⟩ (.int .i64 q.e.kind)).setCell ⟨b, m * 5 + 1, none⟩ (.slice q.adA q.e.allow.length q.capA)).setCell ⟨b, m * 5 + 2, none⟩ (.string q.e.over)).setCell ⟨b, m * 5 + 3, none⟩ (.string q.e.name)).setCell ⟨b, m * 5 + 4, none⟩ (.slice q.adK q.e.kids.length q.capK)) :
  NodM w2 base (.slice (some ⟨b, 0, none⟩) n cap) (rows.set m q) ∧ w.heap.size ≤ w2.heap.size ∧ (∀ g, g < w.heap.size → ¬ inLot inR (.slice (some ⟨b, 0, none⟩) n cap) rows g → w2.heap[g]? = w.heap[g]?) ∧ ∀ g, inLot inR (.slice (some ⟨b, 0, none⟩) n cap) (rows.set m q) g → inLot inR (.slice (some ⟨b, 0, none⟩) n cap) rows g := by
 obtain ⟨a1, a2, a3, a4, a5, a6, a7⟩ := hq
 have hmm := List.getElem_mem hm
 have hz : al ≠ [] ↔ rows[m].e.allow ≠ [] := by
  constructor <;> intro h1 h2
  ·exact h1 (List.length_eq_zero_iff.1 (by rw [hl, h2]; rfl))
  ·exact h1 (List.length_eq_zero_iff.1 (by rw [← hl, h2]; rfl))
 have hA : ∀ p : ER, p.e.allow = al → p.adA = rows[m].adA → ∀ g, bA p g ↔ bA rows[m] g := fun p h1 h2 g => by
  unfold bA; rw [h1, h2]; exact and_congr hz Iff.rfl
 have hK : ∀ p : ER, p.e.kids = rows[m].e.kids → p.adK = rows[m].adK → ∀ g, bK p g ↔ bK rows[m] g := fun p h1 h2 g => by
  unfold bK; rw [h1, h2]
 have hR : ∀ p : ER, p.e.allow = al → p.adA = rows[m].adA → p.e.kids = rows[m].e.kids → p.adK = rows[m].adK → ∀ g, inR p g ↔ inR rows[m] g := fun p h1 h2 h3 h4 g => or_congr (hA p h1 h2 g) (hK p h3 h4 g)
 have hNew : ∀ p : ER, p.e.allow = al → p.adA = rows[m].adA → p.e.kids = rows[m].e.kids → p.adK = rows[m].adK → p.capA = rows[m].capA → NewQ base w1 p := fun p h1 h2 h3 h4 h5 => by
  refine ⟨fun hne => ?_, fun hne => ?_, ⟨by rw [h1, h2]; exact hal, ?_⟩, fun g hg => ?_, fun g hg1 hg2 => ?_, ?_⟩
  ·rw [h2]; exact h.zA _ hmm (hz.1 (by rw [← h1]; exact hne))
  ·rw [h4]; exact h.zK _ hmm (by rw [← h3]; exact hne)
  ·rw [h3, h4]
   refine (h.ok _ hmm).2.heap hc.size (h.zK _ hmm) fun g hne e => ?_
   have hb : bK rows[m] g := ⟨hne, e⟩
   exact hc.block g (h.lie _ hmm g (.inr hb)).2.1 fun h6 => h.one _ hmm g h6 hb
  ·obtain ⟨l1, l2, l3, -⟩ := h.lie _ hmm g ((hR p h1 h2 h3 h4 g).1 hg)
   exact ⟨l1, Nat.lt_of_lt_of_le l2 hc.size, hc.free g l2 l3⟩
  ·exact h.one _ hmm g ((hA p h1 h2 g).1 hg1) ((hK p h3 h4 g).1 hg2)
  ·rw [h1, h5, hl]; exact h.cA _ hmm
 obtain ⟨q1, hq1⟩ : ∃ q1 : ER, q1 = ⟨{ rows[m].e with allow := al }, rows[m].adA, rows[m].capA, rows[m].adK, rows[m].capK⟩ := ⟨_, rfl⟩
 have hq1R : ∀ g, inR q1 g ↔ inR rows[m] g := fun g => hR q1 (by rw [hq1]) (by rw [hq1]) (by rw [hq1]) (by rw [hq1]) g
 have s1 : ExM w1 base (.slice (some ⟨b, 0, none⟩) n cap) (rows.set m q1) := by
  refine LotM.setIn kidE h.ex hm hc.size (fun g hg hn => hc.block g hg fun hb => hn (.inl hb)) ?_ ?_ ?_
  ·rw [hq1]; unfold ER.row; simp [hl]
  ·rw [hq1]; exact hNew _ rfl rfl rfl rfl rfl
  ·intro g hg
   exact .inl ((hq1R g).1 hg)
 have hcw : Chg (fun g => g = b) w1 w2 := by
  rw [hw]
  exact ((((Chg.set (S := fun g => g = b) _ rfl).trans (Chg.set _ rfl)).trans (Chg.set _ rfl)).trans (Chg.set _ rfl)).trans (Chg.set _ rfl)
 have hset : (rows.set m q1).set m q = rows.set m q := by rw [List.set_set]
 have hm1 : m < (rows.set m q1).length := by rw [List.length_set]; exact hm
 have hown : w2.ownsRow base 50 5 (.slice (some ⟨b, 0, none⟩) n cap) n (((rows.set m q1).set m q).flatMap ER.row) := by
  have o0 := s1.own
  rw [List.length_set, ← hn] at o0
  have o5 := (((((o0.stored (m * 5) (.int .i64 q.e.kind)).1.stored (m * 5 + 1) (.slice q.adA q.e.allow.length q.capA)).1.stored (m * 5 + 2) (.string q.e.over)).1.stored (m * 5 + 3) (.string q.e.name)).1.stored (m * 5 + 4) (.slice q.adK q.e.kids.length q.capK)).1
  rw [row5_set q (rows.set m q1) m hm1] at o5
  rw [hw]; exact o5
 have s2 : ExM w2 base (.slice (some ⟨b, 0, none⟩) n cap) ((rows.set m q1).set m q) := by
  refine LotM.recell kidE s1 (by rw [List.length_set]; exact hn) hm1 hown hcw (hNew q a1 a4 a3 a6 a5) fun g hg => ?_
  rw [List.getElem_set_self]
  exact (hq1R g).2 ((hR q a1 a4 a3 a6 g).1 hg)
 rw [hset] at s2
 refine ⟨ExM.nod s2, Nat.le_trans hc.size hcw.size, fun g hg hn => ?_, fun g hg => ?_⟩
 ·rw [hcw.block g (Nat.lt_of_lt_of_le hg hc.size) (fun e => hn (.inl (by rw [e]; rfl))), hc.block g hg fun hb => hn (.inr ⟨_, hmm, .inl hb⟩)]
 ·rcases hg with hg | ⟨p, hp, hg⟩
  ·exact .inl hg
  ·rcases mem_set hp with rfl | ⟨x, hx, -, rfl⟩
   ·exact .inr ⟨_, hmm, (hR _ a1 a4 a3 a6 g).1 hg⟩
   ·exact .inr ⟨_, List.getElem_mem hx, hg⟩
end Go.Proofs.YtmghabcaakgjiaaGreat
namespace Go.Proofs.YtmghabcaakgjiaaGreat
set_option linter.unusedVariables false
open Pl
section
variable {α : Type}
def mixL (f : α → α) (xs : List α) (k : Nat) : List α := (xs.take k).map f ++ xs.drop k
theorem mixL_zero (f : α → α) (xs : List α) : mixL f xs 0 = xs := by simp [mixL]
theorem mixL_all (f : α → α) (xs : List α) : mixL f xs xs.length = xs.map f := by simp [mixL]
theorem mixL_len (f : α → α) (xs : List α) (k : Nat) : (mixL f xs k).length = xs.length := by simp [mixL]; omega
theorem mixL_at (f : α → α) (xs : List α) (k : Nat) (h : k < xs.length) : (mixL f xs k)[k]'(by rw [mixL_len]; exact h) = xs[k] := by
 unfold mixL
 rw [List.getElem_append_right (by simp; omega)]
 simp [Nat.min_eq_left (Nat.le_of_lt h)]
theorem mixL_self (f : α → α) (xs : List α) (k : Nat) (h : k < xs.length) : (mixL f xs k).set k xs[k] = mixL f xs k := by
 conv => lhs; rw [← mixL_at f xs k h]
 exact List.set_getElem_self _
theorem mixL_succ (f : α → α) (xs : List α) (k : Nat) (h : k < xs.length) : (mixL f xs k).set k (f xs[k]) = mixL f xs (k + 1) := by
 unfold mixL
 have hl : ((xs.take k).map f).length = k := by simp; omega
 rw [List.set_append_right _ _ (by omega), hl, Nat.sub_self, List.drop_eq_getElem_cons h, List.set_cons_zero, List.take_succ_eq_append_getElem h, List.map_append]
 simp
end
def pMix (ts : List Ty) (typ frm to : ByteArray) (tn rn : ByteArray) (e : Ex) : Bool := mixI ts typ frm to tn e
theorem ovS_mix (ts : List Ty) (typ frm to : ByteArray) : ovS (pMix ts typ frm to) ts = mixS' ts typ frm to := rfl
theorem bad_ov {ts : List Ty} {typ frm to : ByteArray} (hsh : shapeB ts = true) (hrf : refsAll ts = true) (hf : relOr ts typ frm ≠ []) (ht : relOr ts typ to = []) {t : Ty} (htm : t ∈ ts) {r : Rl} (hr : r ∈ t.rels) {x : Ex} (hx : x ∈ r.expr) : l7bad ts typ frm to t.name x = ovN (pMix ts typ frm to) t.name r.name x := by
 unfold l7bad ovN pMix
 by_cases hk : x.kind = 3
 ·rw [mix_at hsh hrf hf ht htm hr hx hk]
 ·rw [decide_eq_false hk]; rfl
theorem ovT_end {p : ByteArray → ByteArray → Ex → Bool} {t : Ty} (h : ∀ j (hj : j < t.rels.length), ovR p t.name t.rels[j] = false) : ovT p t = false := any_end (k := t.rels.length) (fun i hi _ => h i hi) (Nat.le_refl _)
theorem ovR_end {p : ByteArray → ByteArray → Ex → Bool} {tn : ByteArray} {r : Rl} (h : ∀ j (hj : j < r.expr.length), ovN p tn r.name r.expr[j] = false) : ovR p tn r = false := any_end (k := r.expr.length) (fun i hi _ => h i hi) (Nat.le_refl _)
theorem ovS_end {p : ByteArray → ByteArray → Ex → Bool} {ts : List Ty} (h : ∀ j (hj : j < ts.length), ovT p ts[j] = false) : ovS p ts = false := any_end (k := ts.length) (fun i hi _ => h i hi) (Nat.le_refl _)
theorem ovS_yes {p : ByteArray → ByteArray → Ex → Bool} {ts : List Ty} {t : Ty} (ht : t ∈ ts) {r : Rl} (hr : r ∈ t.rels) {x : Ex} (hx : x ∈ r.expr) (h : ovN p t.name r.name x = true) : ovS p ts = true :=
 List.any_eq_true.2 ⟨t, ht, List.any_eq_true.2 ⟨r, hr, List.any_eq_true.2 ⟨x, hx, h⟩⟩⟩
end Go.Proofs.YtmghabcaakgjiaaGreat
