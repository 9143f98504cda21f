/- Contracts of the law's helpers that mark relations and types: they change the blocks of these alone. -/
import Derived.Test.YtmghabcaakgjiaaGreatMark3
import Derived.Test.YtmghabcaakgjiaaGreatJ2
namespace Go.Proofs.YtmghabcaakgjiaaGreat
open Go.ChangeShapes Go.WideShapes Go.ChangeAt Go.RowKit
open Pl

/-- blocks that may be written -/
def FreeP (w : World) (P : Nat → Prop) : Prop := ∀ g, P g → g < w.heap.size ∧ Free w g
theorem FreeP.chg {S P : Nat → Prop} {w w' : World} (h : FreeP w P) (hc : Chg S w w') : FreeP w' P := fun g hg => ⟨Nat.lt_of_lt_of_le (h g hg).1 hc.size, hc.free g (h g hg).1 (h g hg).2⟩
theorem FreeP.mono {P Q : Nat → Prop} {w : World} (h : FreeP w P) (hq : ∀ g, Q g → P g) : FreeP w Q := fun g hg => h g (hq g hg)

theorem markExprS_nil (x : Int) (ad : Option Addr) (cap : Nat) (w : World) :
    Calls Tryz.prog 72 #[.slice ad 0 cap, .int .i64 x] w fun e w' => e = .returned (.int .i64 x) ∧ w' = w := by
  go_enter Tryz.func72, Tryz.ntmps72
  go_wp2
  go_loopw [1, 5] (fun kv i wr => kv = .int .i64 x ∧ i = .int .i64 0 ∧ wr = w) (fun _ _ _ => 0)
  case atStart => exact ⟨rfl, rfl, rfl⟩
  case round =>
    obtain ⟨rfl, rfl, rfl⟩ := hrel
    go_wp2
    go_ret
    exact ⟨rfl, rfl⟩
theorem markRelationS_nil (x : Int) (ad : Option Addr) (cap : Nat) (w : World) :
    Calls Tryz.prog 36 #[.slice ad 0 cap, .int .i64 x] w fun e w' => e = .returned (.int .i64 x) ∧ w' = w := by
  go_enter Tryz.func36, Tryz.ntmps36
  go_wp2
  go_loopw [1, 5] (fun kv i wr => kv = .int .i64 x ∧ i = .int .i64 0 ∧ wr = w) (fun _ _ _ => 0)
  case atStart => exact ⟨rfl, rfl, rfl⟩
  case round =>
    obtain ⟨rfl, rfl, rfl⟩ := hrel
    go_wp2
    go_ret
    exact ⟨rfl, rfl⟩
theorem markTypeS_nil (x : Int) (ad : Option Addr) (cap : Nat) (w : World) :
    Calls Tryz.prog 11 #[.slice ad 0 cap, .int .i64 x] w fun e w' => e = .returned (.int .i64 x) ∧ w' = w := by
  go_enter Tryz.func11, Tryz.ntmps11
  go_wp2
  go_loopw [1, 5] (fun kv i wr => kv = .int .i64 x ∧ i = .int .i64 0 ∧ wr = w) (fun _ _ _ => 0)
  case atStart => exact ⟨rfl, rfl, rfl⟩
  case round =>
    obtain ⟨rfl, rfl, rfl⟩ := hrel
    go_wp2
    go_ret
    exact ⟨rfl, rfl⟩

/-- the blocks of a relation -/
def blkR (r : RR) (g : Nat) : Prop := (r.rows ≠ [] ∧ r.ad = some ⟨g, 0, none⟩) ∨ ∃ q ∈ r.rows, inR q g
def GoodR (r : RR) : Prop := r.rows ≠ [] → ∃ b, r.ad = some ⟨b, 0, none⟩ ∧ SepE b r.rows
structure SepR (b : Nat) (rs : List RR) : Prop where
  good : ∀ r ∈ rs, GoodR r
  head : ∀ r ∈ rs, ¬ blkR r b
  two : ∀ (x y : Nat) (hx : x < rs.length) (hy : y < rs.length), x ≠ y → ∀ g, blkR rs[x] g → ¬ blkR rs[y] g
def insR (b : Nat) (rs : List RR) (g : Nat) : Prop := g = b ∨ ∃ r ∈ rs, blkR r g
def wR : List RR → Nat
  | [] => 0
  | r :: rs => (1 + wE r.rows) + wR rs
theorem wR_append : ∀ xs ys : List RR, wR (xs ++ ys) = wR xs + wR ys
  | [], ys => by simp [wR]
  | x :: xs, ys => by rw [List.cons_append]; simp only [wR]; rw [wR_append xs ys]; omega
theorem wR_take (rs : List RR) (j : Nat) (h : j < rs.length) : wR (rs.take (j + 1)) = wR (rs.take j) + (1 + wE rs[j].rows) := by
  rw [List.take_succ_eq_append_getElem h, wR_append]; simp [wR]
theorem wR_le (rs : List RR) (j : Nat) : wR (rs.take j) ≤ wR rs := by
  have := wR_append (rs.take j) (rs.drop j)
  rw [List.take_append_drop] at this
  omega
theorem RR.ok.chg {S : Nat → Prop} {w w' : World} {r : RR} (h : r.ok w) (hc : Chg S w w') (hg : GoodR r) (hn : ∀ g, blkR r g → ¬ S g) : r.ok w' := by
  by_cases hz : r.rows = []
  · exact .inl hz
  obtain ⟨b, e, hsep⟩ := hg hz
  rcases h with h | ⟨b', off, e', hb, hr, hk⟩
  · exact .inl h
  · rw [e] at e'; injection e' with e'; injection e' with e1 e2
    subst e1; subst e2
    refine .inr ⟨b, 0, e, Nat.lt_of_lt_of_le hb hc.size, fun i hi => (hr i hi).same fun o => hc.cell hb (hn b (.inl ⟨hz, e⟩)), fun q hq => ?_⟩
    refine (hk q hq).chg hc (fun g o hne e2 => ?_) (fun g o hne e2 => ?_)
    · obtain ⟨g0, e0⟩ := hsep.zeroA q hq hne
      rw [e0] at e2; injection e2 with e2; injection e2 with e3 e4
      subst e3
      exact hn g0 (.inr ⟨q, hq, .inl ⟨hne, e0⟩⟩)
    · obtain ⟨g0, e0⟩ := hsep.zeroK q hq hne
      rw [e0] at e2; injection e2 with e2; injection e2 with e3 e4
      subst e3
      exact hn g0 (.inr ⟨q, hq, .inr ⟨hne, e0⟩⟩)

/-- the blocks of a type -/
def blkT (r : TR) (g : Nat) : Prop := (r.rows ≠ [] ∧ r.ad = some ⟨g, 0, none⟩) ∨ ∃ q ∈ r.rows, blkR q g
def GoodT (r : TR) : Prop := r.rows ≠ [] → ∃ b, r.ad = some ⟨b, 0, none⟩ ∧ SepR b r.rows
structure SepT (b : Nat) (rs : List TR) : Prop where
  good : ∀ r ∈ rs, GoodT r
  head : ∀ r ∈ rs, ¬ blkT r b
  two : ∀ (x y : Nat) (hx : x < rs.length) (hy : y < rs.length), x ≠ y → ∀ g, blkT rs[x] g → ¬ blkT rs[y] g
def insT (b : Nat) (rs : List TR) (g : Nat) : Prop := g = b ∨ ∃ r ∈ rs, blkT r g
def wT : List TR → Nat
  | [] => 0
  | r :: rs => (1 + wR r.rows) + wT rs
theorem wT_append : ∀ xs ys : List TR, wT (xs ++ ys) = wT xs + wT ys
  | [], ys => by simp [wT]
  | x :: xs, ys => by rw [List.cons_append]; simp only [wT]; rw [wT_append xs ys]; omega
theorem wT_take (rs : List TR) (j : Nat) (h : j < rs.length) : wT (rs.take (j + 1)) = wT (rs.take j) + (1 + wR rs[j].rows) := by
  rw [List.take_succ_eq_append_getElem h, wT_append]; simp [wT]
theorem wT_le (rs : List TR) (j : Nat) : wT (rs.take j) ≤ wT rs := by
  have := wT_append (rs.take j) (rs.drop j)
  rw [List.take_append_drop] at this
  omega
theorem TR.ok.chg {S : Nat → Prop} {w w' : World} {r : TR} (h : r.ok w) (hc : Chg S w w') (hg : GoodT r) (hn : ∀ g, blkT r g → ¬ S g) : r.ok w' := by
  by_cases hz : r.rows = []
  · exact .inl hz
  obtain ⟨b, e, hsep⟩ := hg hz
  rcases h with h | ⟨b', off, e', hb, hr, hk⟩
  · exact .inl h
  · rw [e] at e'; injection e' with e'; injection e' with e1 e2
    subst e1; subst e2
    refine .inr ⟨b, 0, e, Nat.lt_of_lt_of_le hb hc.size, fun i hi => (hr i hi).same fun o => hc.cell hb (hn b (.inl ⟨hz, e⟩)), fun q hq => ?_⟩
    exact (hk q hq).chg hc (hsep.good q hq) fun g hg => hn g (.inr ⟨q, hq, hg⟩)

end Go.Proofs.YtmghabcaakgjiaaGreat
