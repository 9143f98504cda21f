/- Rows that are copied: what stays theirs. -/
import Derived.Test.YtkpefjefodkddaaGreatToOwn
import Derived.OwnWalk
import Derived.Maps.AppendAt
import Derived.Test.YtkpefjefodkddaaGreatRegionGen
import Derived.RegionTactic
namespace Go.Proofs.YtkpefjefodkddaaGreat
open Go.ChangeShapes Go.WideShapes Go.ChangeAt Go.RowKit Go.Maps
open Pl
theorem OwnE.add {S : Nat → Prop} {b : Nat} {wr wn : World} {qs : List ER} (h : OwnE b wr qs) (hc : Chg S wr wn) (hb : b < wr.heap.size) {q : ER} (zA : q.e.allow ≠ [] → ∃ g, q.adA = some ⟨g, 0, none⟩) (zK : q.e.kids ≠ [] → ∃ g, q.adK = some ⟨g, 0, none⟩) (hone : ∀ g, bA q g → ¬ bK q g) (hq : ∀ g, inR q g → wr.heap.size ≤ g ∧ g < wn.heap.size ∧ Free wn g) : OwnE b wn (qs ++ [q]) := by
 refine ⟨⟨?_, ?_, ?_, ?_, ?_⟩, ?_⟩
 ·intro r hr; rw [List.mem_append, List.mem_singleton] at hr
  rcases hr with hr | rfl
  ·exact h.1.zeroA r hr
  ·exact zA
 ·intro r hr; rw [List.mem_append, List.mem_singleton] at hr
  rcases hr with hr | rfl
  ·exact h.1.zeroK r hr
  ·exact zK
 ·intro r hr; rw [List.mem_append, List.mem_singleton] at hr
  rcases hr with hr | rfl
  ·exact h.1.head r hr
  ·intro hg; have := (hq b hg).1; omega
 ·intro r hr; rw [List.mem_append, List.mem_singleton] at hr
  rcases hr with hr | rfl
  ·exact h.1.one r hr
  ·exact hone
 ·intro x y hx hy hne g hgx hgy
  rw [List.length_append, List.length_singleton] at hx hy
  by_cases ex : x < qs.length
  ·rw [List.getElem_append_left ex] at hgx
   by_cases ey : y < qs.length
   ·rw [List.getElem_append_left ey] at hgy
    exact h.1.two x y ex ey hne g hgx hgy
   ·rw [List.getElem_append_right (by omega)] at hgy
    have e1 := (hq g (by simpa using hgy)).1
    have e2 := (h.2 _ (List.getElem_mem ex) g hgx).2.1
    omega
  ·rw [List.getElem_append_right (by omega)] at hgx
   have e1 := (hq g (by simpa using hgx)).1
   have ey : y < qs.length := by omega
   rw [List.getElem_append_left ey] at hgy
   have e2 := (h.2 _ (List.getElem_mem ey) g hgy).2.1
   omega
 ·intro r hr g hg; rw [List.mem_append, List.mem_singleton] at hr
  rcases hr with hr | rfl
  ·obtain ⟨a1, a2, a3⟩ := h.2 r hr g hg
   exact ⟨a1, Nat.lt_of_lt_of_le a2 hc.size, hc.free g a2 a3⟩
  ·obtain ⟨a1, a2, a3⟩ := hq g hg
   exact ⟨by omega, a2, a3⟩
theorem ownsA {w : World} {base n : Nat} {v : Value} {xs : List Al} (h : w.ownsRow base 102 2 v n (pairs xs)) (hn : n = xs.length) : ∃ ad cap, v = .slice ad xs.length cap ∧ SlA w ad xs ∧ (xs ≠ [] → ∃ g, ad = some ⟨g, 0, none⟩) ∧ ∀ g, xs ≠ [] → ad = some ⟨g, 0, none⟩ → base ≤ g ∧ g < w.heap.size ∧ Free w g := by
 subst hn
 have h2 := h
 rcases h.2 with ⟨rfl, h0⟩ | ⟨g, cap, cur, rfl, hbg, hg, hnc, -⟩
 ·have hx : xs = [] := List.length_eq_zero_iff.1 h0
  subst hx
  exact ⟨none, 0, rfl, .inl rfl, fun h => absurd rfl h, fun _ h => absurd rfl h⟩
 ·have hlt := h2.lt g rfl
  refine ⟨some ⟨g, 0, none⟩, cap, rfl, .inr ⟨g, 0, rfl, hlt.2, fun i hi => ?_⟩, fun _ => ⟨g, rfl⟩, fun g' _ e => ?_⟩
  ·have hl := pairs_len xs
   obtain ⟨p0, p1⟩ := pairs_at xs i hi
   refine ⟨?_, ?_⟩
   ·rw [h2.cellAt (0 + i * 2) (by omega), Nat.zero_add]; exact p0
   ·rw [h2.cellAt (0 + i * 2 + 1) (by omega), Nat.zero_add]; exact p1
  ·injection e with e; injection e with e1 e2
   subst e1
   exact ⟨hlt.1, hlt.2, fun y => h2.frozenAt y⟩
theorem ownsI {w : World} {base n : Nat} {v : Value} {zs : List Int} (h : w.ownsRow base 2 1 v n (ints zs)) (hn : n = zs.length) : ∃ ad cap, v = .slice ad zs.length cap ∧ SlI w ad zs ∧ (zs ≠ [] → ∃ g, ad = some ⟨g, 0, none⟩) ∧ ∀ g, zs ≠ [] → ad = some ⟨g, 0, none⟩ → base ≤ g ∧ g < w.heap.size ∧ Free w g := by
 subst hn
 have h2 := h
 rcases h.2 with ⟨rfl, h0⟩ | ⟨g, cap, cur, rfl, hbg, hg, hnc, -⟩
 ·have hx : zs = [] := List.length_eq_zero_iff.1 h0
  subst hx
  exact ⟨none, 0, rfl, .inl rfl, fun h => absurd rfl h, fun _ h => absurd rfl h⟩
 ·have hlt := h2.lt g rfl
  refine ⟨some ⟨g, 0, none⟩, cap, rfl, .inr ⟨g, 0, rfl, hlt.2, fun i hi => ?_⟩, fun _ => ⟨g, rfl⟩, fun g' _ e => ?_⟩
  ·rw [h2.cellAt (0 + i) (by omega), Nat.zero_add]; simp [ints, hi]
  ·injection e with e; injection e with e1 e2
   subst e1
   exact ⟨hlt.1, hlt.2, fun y => h2.frozenAt y⟩
end Go.Proofs.YtkpefjefodkddaaGreat
namespace Go.Proofs.YtkpefjefodkddaaGreat
open Go.ChangeShapes Go.WideShapes Go.ChangeAt Go.RowKit Go.Maps
open Pl
theorem SlA.grown {w w' : World} {row : Option Nat} {ad : Option Addr} {xs : List Al} (h : SlA w ad xs) (hg : w.grownBy w' row) (hn : ∀ g o, xs ≠ [] → ad = some ⟨g, o, none⟩ → some g ≠ row) : SlA w' ad xs := by
 rcases h with h | ⟨b, off, e, hb, hr⟩
 ·exact .inl h
 ·by_cases hx : xs = []
  ·exact .inl hx
  ·exact .inr ⟨b, off, e, Nat.lt_of_lt_of_le hb hg.size, fun i hi => ⟨hg.cell (hr i hi).1 (hn b off hx e), hg.cell (hr i hi).2 (hn b off hx e)⟩⟩
theorem SlI.grown {w w' : World} {row : Option Nat} {ad : Option Addr} {zs : List Int} (h : SlI w ad zs) (hg : w.grownBy w' row) (hn : ∀ g o, zs ≠ [] → ad = some ⟨g, o, none⟩ → some g ≠ row) : SlI w' ad zs := by
 rcases h with h | ⟨b, off, e, hb, hr⟩
 ·exact .inl h
 ·by_cases hx : zs = []
  ·exact .inl hx
  ·exact .inr ⟨b, off, e, Nat.lt_of_lt_of_le hb hg.size, fun i hi => hg.cell (hr i hi) (hn b off hx e)⟩
structure Beside (w : World) (v : Value) (q : ER) : Prop where
 ok : q.ok w
 zA : q.e.allow ≠ [] → ∃ g, q.adA = some ⟨g, 0, none⟩
 zK : q.e.kids ≠ [] → ∃ g, q.adK = some ⟨g, 0, none⟩
 lt : ∀ g, inR q g → g < w.heap.size ∧ v.ownBlock ≠ some g
theorem Beside.below {w w' : World} {v : Value} {q : ER} (h : Beside w v q) (hb : Below w.heap.size w w') : Beside w' v q :=
 ⟨h.ok.below hb, h.zA, h.zK, fun g hg => ⟨Nat.lt_of_lt_of_le (h.lt g hg).1 hb.size, (h.lt g hg).2⟩⟩
theorem Beside.grown {w w' : World} {v v' : Value} {q : ER} (h : Beside w v q) (hg : w.grownBy w' v.ownBlock) (hv : v'.ownBlock = v.ownBlock ∨ v'.ownBlock = some w.heap.size) : Beside w' v' q := by
 refine ⟨⟨h.ok.1.grown hg fun g o hne e => ?_, h.ok.2.grown hg fun g o hne e => ?_⟩, h.zA, h.zK, fun g hi => ⟨Nat.lt_of_lt_of_le (h.lt g hi).1 hg.size, ?_⟩⟩
 ·obtain ⟨g0, e0⟩ := h.zA hne
  rw [e0] at e; injection e with e; injection e with e1 e2
  subst e1
  exact fun e => (h.lt g0 (.inl ⟨hne, e0⟩)).2 e.symm
 ·obtain ⟨g0, e0⟩ := h.zK hne
  rw [e0] at e; injection e with e; injection e with e1 e2
  subst e1
  exact fun e => (h.lt g0 (.inr ⟨hne, e0⟩)).2 e.symm
 ·rcases hv with e | e
  ·rw [e]; exact (h.lt g hi).2
  ·rw [e]; intro e2; injection e2 with e2; have := (h.lt g hi).1; omega
theorem ownsE {w : World} {base n : Nat} {v : Value} {qs : List ER} (h : w.ownsRow base 92 5 v n (rows5 qs)) (hn : n = qs.length) (hok : ∀ q ∈ qs, q.ok w) : ∃ ad cap, v = .slice ad qs.length cap ∧ SlE w ad qs := by
 subst hn
 have h2 := h
 rcases h.2 with ⟨rfl, h0⟩ | ⟨g, cap, cur, rfl, hbg, hg, hnc, -⟩
 ·exact ⟨none, 0, by rw [h0], .inl (List.length_eq_zero_iff.1 h0)⟩
 ·have hlt := h2.lt g rfl
  refine ⟨some ⟨g, 0, none⟩, cap, rfl, .inr ⟨g, 0, rfl, hlt.2, fun i hi => ?_, hok⟩⟩
  have hl := rows5_len qs
  have key : ∀ j, j < 5 → w.cell? ⟨g, 0 + i * 5 + j, none⟩ = (qs[i]).row[j]? := fun j hj => by
   rw [h2.cellAt (0 + i * 5 + j) (by omega), ← rows5_at qs i hi j hj, Nat.zero_add]
  exact ⟨key 0 (by omega), key 1 (by omega), key 2 (by omega), key 3 (by omega), key 4 (by omega)⟩
theorem row5_news (w : World) (q : ER) : ∀ j u, q.row[j]? = some u → (w.alloc (.cells #[.int .i64 q.e.kind, .slice q.adA q.e.allow.length q.capA, .string q.e.over, .string q.e.name, .slice q.adK q.e.kids.length q.capK] 92)).cell? ((⟨w.heap.size, 0, none⟩ : Addr).add j) = some u := by
 intro j u hu
 rw [show (⟨w.heap.size, 0, none⟩ : Addr).add j = ⟨w.heap.size, 0 + j, none⟩ by simp [Addr.add]; omega, Nat.zero_add]
 have := World.cell?_alloc_mark w #[.int .i64 q.e.kind, .slice q.adA q.e.allow.length q.capA, .string q.e.over, .string q.e.name, .slice q.adK q.e.kids.length q.capK] 92 (0, 0) j
 rw [this]
 simpa [ER.row] using hu
theorem row5_one (q : ER) : ∀ u ∈ q.row, u.oneCell' = true := by
 intro u hu
 simp [ER.row] at hu
 rcases hu with rfl | rfl | rfl | rfl | rfl <;> rfl
end Go.Proofs.YtkpefjefodkddaaGreat
namespace Go.Proofs.YtkpefjefodkddaaGreat
open Go.RowKit
variable {P : Program} {ops : Array Oper} {Q : Exit → Act → World → Prop}
def ordOkB (ops : Array Oper) : Bool := (List.range ops.size).all (fun i => (ops[i]?.map (fun o => o.after.all (fun e => !Region.binds .any e || decide (e.on < i)))).getD true)
theorem ordOkB_of {ops : Array Oper} (h : ordOkB ops = true) : ∀ (i : Nat) (o : Oper), ops[i]? = some o → ∀ e ∈ o.after, Region.binds .any e = true → e.on < i := by
 intro i o ho e he hb
 rw [ordOkB, List.all_eq_true] at h
 have h1 := h i (by simpa using (Array.getElem?_eq_some_iff.1 ho).1)
 rw [ho] at h1
 simp only [Option.map_some, Option.getD_some, Array.all_eq_true_iff_forall_mem] at h1
 have h2 := h1 e he
 rw [hb] at h2
 simpa using h2
theorem all_listedB {listed : Array Bool} {n : Nat} (hr : Region.ready .any ops listed = []) (hs : ops.size = n) (hord : ∀ (i : Nat) (o : Oper), ops[i]? = some o → ∀ e ∈ o.after, Region.binds .any e = true → e.on < i) (hsz : listed.size = n) : ∀ i, i < n → listed.getD i true = true := by
 intro i
 induction i using Nat.strongRecOn with
 | ind i ih =>
  intro hi
  cases hl : listed.getD i true with
  | true => rfl
  | false =>
   exfalso
   have hmem : i ∈ Region.ready .any ops listed := by
    refine mem_ready.2 ⟨hl, ops[i]'(by omega), Array.getElem?_eq_getElem (by omega), fun e he hb => ?_⟩
    have hlt := hord i _ (Array.getElem?_eq_getElem (by omega)) e he hb
    have := ih e.on hlt (by omega)
    rw [Array.getD_eq_getD_getElem?, Array.getElem?_eq_getElem (by omega)] at this ⊢
    simpa using this
   rw [hr] at hmem
   cases hmem
def lastOkT (ops : Array Oper) (L : Nat) : Bool := (List.range L).all fun j => (List.range (L + 1)).any fun k => decide (j < k) && (ops[k]?.map (fun o => o.after.any (fun e => e.on == j && Region.binds .any e))).getD false
theorem lastOkT_of {ops : Array Oper} {L : Nat} (h : lastOkT ops L = true) : ∀ j, j < L → ∃ k o, j < k ∧ k ≤ L ∧ ops[k]? = some o ∧ ∃ e ∈ o.after, e.on = j ∧ Region.binds .any e = true := by
 intro j hj
 rw [lastOkT, List.all_eq_true] at h
 have h1 := h j (List.mem_range.2 hj)
 rw [List.any_eq_true] at h1
 obtain ⟨k, hk, h2⟩ := h1
 simp only [Bool.and_eq_true, decide_eq_true_eq] at h2
 cases ho : ops[k]? with
 | none => rw [ho] at h2; simp at h2
 | some o =>
  rw [ho] at h2
  simp only [Option.map_some, Option.getD_some] at h2
  obtain ⟨h3, h4⟩ := h2
  rw [Array.any_eq_true'] at h4
  obtain ⟨e, he, h5⟩ := h4
  simp only [Bool.and_eq_true, beq_iff_eq] at h5
  exact ⟨k, o, h3, by have := List.mem_range.1 hk; omega, ho, e, he, h5.1, h5.2⟩
def Shut (ops : Array Oper) (listed : Array Bool) : Prop := ∀ (k : Nat) (o : Oper), ops[k]? = some o → listed.getD k false = true → ∀ e ∈ o.after, Region.binds .any e = true → listed.getD e.on false = true
theorem shut_all {ops : Array Oper} {listed : Array Bool} {L : Nat} (hlo : lastOkT ops L = true) (hS : Shut ops listed) {o : Oper} (ho : ops[L]? = some o) (hpre : ∀ e ∈ o.after, Region.binds .any e = true → listed.getD e.on false = true) : ∀ d j, j + d = L → j < L → listed.getD j false = true := by
 intro d
 induction d using Nat.strongRecOn with
 | ind d ih =>
  intro j hjd hj
  obtain ⟨k, o', h1, h2, h3, e, he, h4, h5⟩ := lastOkT_of hlo j hj
  by_cases hk : k = L
  ·subst hk
   rw [ho] at h3; injection h3 with h3; subst h3
   rw [← h4]; exact hpre e he h5
  ·have := ih (L - k) (by omega) k (by omega) (by omega)
   rw [← h4]; exact hS k o' h3 this e he h5
theorem wp_region_midT {id : Nat} {a : Act} {w : World} (L : Nat) (f0 : Nat → Value) (F : (Nat → Value) → Act) (V : Nat → Value → World → Prop) (G : Array Bool → World → Prop)
  (hm : P.follows .mixedOrders = true) (hsz : ops.size = L + 1) (hord : ordOkB ops = true) (hlo : lastOkT ops L = true)
  (h0 : a = F f0) (hG0 : G (Array.replicate ops.size false) w.drew)
  (hstep : ∀ i, i < L → ∀ o, ops[i]? = some o → ∀ (listed : Array Bool) f w', listed.size = L + 1 → listed.getD i true = false → G listed w' → (∀ e ∈ o.after, Region.binds .any e = true → V e.on (f e.on) w') →
   wpOp P ops Q i (fun a' w'' => ∃ v, a' = F (upd f i v) ∧ G (listed.setIfInBounds i true) w'' ∧ V i v w'' ∧ ∀ k u, k ≠ i → V k u w' → V k u w'') (F f) w')
  (hfin : ∀ o, ops[L]? = some o → ∀ (listed : Array Bool) f w', G listed w' → (∀ k, k < L → V k (f k) w') → wpOp P ops Q L (fun a' w'' => Q .normal a' w'') (F f) w') :
  (Code.region id ops true).wp P Q a w := by
 refine wp_region_inv (fun listed a' w' => listed.size = L + 1 ∧ ((listed.getD L false = false ∧ Shut ops listed ∧ ∃ f, a' = F f ∧ G listed w' ∧ ∀ k, k < L → listed.getD k false = true → V k (f k) w') ∨ ((∀ j, j ≤ L → listed.getD j true = true) ∧ Q .normal a' w'))) hm ?_ ?_ ?_
 ·refine ⟨by simpa using hsz, Or.inl ⟨?_, fun k o _ h => ?_, _, h0, hG0, fun k _ h => ?_⟩⟩
  ·rw [Array.getD_eq_getD_getElem?, Array.getElem?_replicate]; split <;> rfl
  ·rw [Array.getD_eq_getD_getElem?, Array.getElem?_replicate] at h; split at h <;> cases h
  ·rw [Array.getD_eq_getD_getElem?, Array.getElem?_replicate] at h; split at h <;> cases h
 ·rintro listed a' w' ⟨hs, h⟩ i hi
  obtain ⟨hl, o, ho, hpre⟩ := mem_ready.1 hi
  have hiL : i < L + 1 := by have := (Array.getElem?_eq_some_iff.1 ho).1; omega
  rcases h with ⟨hn, hS, f, rfl, hG, hV⟩ | ⟨hall, -⟩
  ·by_cases e : i = L
   ·subst e
    have hall : ∀ k, k < i → listed.getD k false = true := fun k hk => shut_all hlo hS ho hpre (i - k) k (by omega) hk
    refine wpOp_mono (fun a'' w'' hq => ⟨by simpa using hs, Or.inr ⟨fun j hj => ?_, hq⟩⟩) (hfin o ho listed f w' hG (fun k hk => hV k hk (hall k hk)))
    rw [getTF (by simp; omega), getF_set' _ _ _ (by omega)]
    by_cases e : j = i
    ·simp [e]
    ·rw [if_neg e]; exact hall j (by omega)
   ·refine wpOp_mono ?_ (hstep i (by omega) o ho listed f w' hs hl hG (fun e he hb => hV e.on (by have := ordOkB_of hord i o ho e he hb; omega) (hpre e he hb)))
    rintro a'' w'' ⟨v, rfl, hG', hv, hmono⟩
    refine ⟨by simpa using hs, Or.inl ⟨?_, fun k o' ho' hkl e' he' hb' => ?_, _, rfl, hG', fun k hk hkl => ?_⟩⟩
    ·rw [getF_set' _ _ _ (by omega), if_neg (Ne.symm e)]; exact hn
    ·rw [getF_set' _ _ _ (by omega)] at hkl ⊢
     by_cases ee : e'.on = i
     ·rw [if_pos ee]
     ·rw [if_neg ee]
      by_cases ek : k = i
      ·subst ek
       rw [ho] at ho'; injection ho' with ho'; subst ho'
       exact hpre e' he' hb'
      ·rw [if_neg ek] at hkl
       exact hS k o' ho' hkl e' he' hb'
    ·rw [getF_set' _ _ _ (by omega)] at hkl
     by_cases ek : k = i
     ·subst ek; simpa [upd] using hv
     ·rw [if_neg ek] at hkl
      simp only [upd, if_neg ek]
      exact hmono _ _ ek (hV k hk hkl)
  ·rw [hall i (by omega)] at hl; cases hl
 ·rintro listed a' w' ⟨hs, h⟩ hr
  rcases h with ⟨hn, -⟩ | ⟨-, hq⟩
  ·have := all_listedB hr hsz (ordOkB_of hord) hs L (by omega)
   rw [getTF (by omega)] at this
   rw [this] at hn; cases hn
  ·exact hq
end Go.Proofs.YtkpefjefodkddaaGreat
namespace Go.Proofs.YtkpefjefodkddaaGreat
open Go.RowKit
theorem wpOp_append_own {P : Program} {ops : Array Oper} {Q : Exit → Act → World → Prop} {k : Nat} {o : Oper} {K : Act → World → Prop} {a : Act} (w : World) (hop : ops[k]? = some o) (hgd : o.guard = none) (s x : Operand) (t : TypeId)
  (ho : o.op = .call { callee := .builtin .append, args := #[s, x], argTypes := #[t, t] })
  (base : Nat) (e : TypeId) (i : TypeInfo) (z : Value) (size bytes : Nat) (ht : P.underlying t = some (.slice e)) (hi : P.info? e = some i) (hz : i.zero = some z)
  (hsize : i.size = size) (hby : i.bytes = bytes) (hzs : z.cells.size = size) (hsz : 0 < size)
  (v : Value) (n : Nat) (xs : List Value) (hs : a.eval s = v) (hown : w.ownsRow base e size v n xs)
  (ad : Addr) (m c : Nat) (news : List Value) (hx : a.eval x = .slice (some ad) m c) (hl : news.length = m * size) (hnews : ∀ j u, news[j]? = some u → w.cell? (ad.add j) = some u) (h1 : ∀ u ∈ news, u.oneCell' = true)
  (h63 : n + m ≤ maxLen) (hbytes : (n + m) * bytes ≤ 140737488355328) (hbase : base ≤ w.heap.size)
  (h : ∀ v' w', w'.ownsRow base e size v' (n + m) (xs ++ news) → w.grownBy w' v.ownBlock → (v'.ownBlock = v.ownBlock ∨ v'.ownBlock = some w.heap.size) → K (a.put o.dst v') w') :
  wpOp P ops Q k K a w := by
 refine wpOp_step hop (fun K' hK => ?_)
 have hw : Region.wanted o (yielded ops a.tmps) = true := by simp [Region.wanted, hgd]
 rw [if_pos hw]
 obtain ⟨v', w', hr, h2, h3, h4, h5⟩ := run_append_own_at (P := P) w base t o.type e i z size bytes ht hi hz hsize hby hzs hsz v n xs hown ad m c news hl hnews h1 h63 hbytes hbase
 unfold Oper.wp execOp
 simp only [ho, resolve, invoke, builtin, Sem.run_bind, Sem.run_pure, Result.andThen_ok, List.map_toArray, List.map_cons, List.map_nil, hs, hx, hr]
 exact hK _ _ (h v' w' h2 h3 h5)
structure Aside (w : World) (v : Value) (w' : World) (v' : Value) : Prop where
 size : w.heap.size ≤ w'.heap.size
 block : ∀ k, k < w.heap.size → v.ownBlock ≠ some k → w'.heap[k]? = w.heap[k]?
 own : v'.ownBlock = v.ownBlock ∨ ∃ g, v'.ownBlock = some g ∧ w.heap.size ≤ g
theorem Aside.refl (w : World) (v : Value) : Aside w v w v := ⟨Nat.le_refl _, fun _ _ _ => rfl, .inl rfl⟩
theorem Aside.apart {w w' : World} {v v' : Value} {k : Nat} (h : Aside w v w' v') (hk : k < w.heap.size) (hv : v.ownBlock ≠ some k) : v'.ownBlock ≠ some k := by
 rcases h.own with e | ⟨g, e, hg⟩
 ·rw [e]; exact hv
 ·rw [e]; intro h2; injection h2 with h2; omega
theorem Aside.trans {w w1 w2 : World} {v v1 v2 : Value} (h : Aside w v w1 v1) (h2 : Aside w1 v1 w2 v2) : Aside w v w2 v2 where
 size := Nat.le_trans h.size h2.size
 block k hk hv := (h2.block k (Nat.lt_of_lt_of_le hk h.size) (h.apart hk hv)).trans (h.block k hk hv)
 own := by
  rcases h2.own with e | ⟨g, e, hg⟩
  ·rw [e]; exact h.own
  ·exact .inr ⟨g, e, Nat.le_trans h.size hg⟩
theorem Aside.below {w w' : World} {v : Value} (h : Below w.heap.size w w') : Aside w v w' v := ⟨h.size, fun k hk _ => h.block k hk, .inl rfl⟩
theorem Aside.app {w w' : World} {v v' : Value} (hg : w.grownBy w' v.ownBlock) (h5 : v'.ownBlock = v.ownBlock ∨ v'.ownBlock = some w.heap.size) : Aside w v w' v' where
 size := hg.size
 block k hk hv := hg.block k hk (fun e => hv e.symm)
 own := by
  rcases h5 with e | e
  ·exact .inl e
  ·exact .inr ⟨_, e, Nat.le_refl _⟩
theorem Aside.cell {w w' : World} {v v' : Value} (h : Aside w v w' v') {p : Addr} (hp : p.block < w.heap.size) (hv : v.ownBlock ≠ some p.block) : w'.cell? p = w.cell? p := World.cell?_of_block (w := w) (h.block p.block hp hv)
end Go.Proofs.YtkpefjefodkddaaGreat
