/- Strata in memory, and the contract of the document's function that looks one up. -/
import Derived.Test.YtmghabcaakgjiaaGreatSpecSchema5
import Derived.Test.YtmghabcaakgjiaaGreatJ5
import Derived.OwnWalk
import Derived.Maps.AppendAt
import Derived.RegionTactic
import Derived.Deep.RegionHeld3
import Derived.Deep.AppendLies
namespace Go.Proofs.YtmghabcaakgjiaaGreat
open Go.ChangeShapes Go.WideShapes Go.ChangeAt Go.RowKit
open Pl

/-- a relation's stratum -/
structure St where
  typ : ByteArray
  rel : ByteArray
  n : Int
def At3 (w : World) (b off : Nat) (s : St) : Prop := w.cell? ⟨b, off, none⟩ = some (.string s.typ) ∧ w.cell? ⟨b, off + 1, none⟩ = some (.string s.rel) ∧ w.cell? ⟨b, off + 2, none⟩ = some (.int .i64 s.n)
def SlN (w : World) (ad : Option Addr) (xs : List St) : Prop := xs = [] ∨ ∃ b off, ad = some ⟨b, off, none⟩ ∧ b < w.heap.size ∧ ∀ (i : Nat) (h : i < xs.length), At3 w b (off + i * 3) xs[i]
theorem SlN.below {w w' : World} {ad : Option Addr} {xs : List St} (h : SlN w ad xs) (hB : Below w.heap.size w w') : SlN w' ad xs := by
  rcases h with h | ⟨b, off, e, hb, hr⟩
  · exact .inl h
  · refine .inr ⟨b, off, e, Nat.lt_of_lt_of_le hb hB.size, fun i hi => ?_⟩
    obtain ⟨h0, h1, h2⟩ := hr i hi
    exact ⟨kept5 hB hb h0, kept5 hB hb h1, kept5 hB hb h2⟩
def isSt (s : St) (typ rel : ByteArray) : Bool := (s.typ.toList == typ.toList) && (s.rel.toList == rel.toList)
/-- the place of the first, counted from k on -/
def atFrom (typ rel : ByteArray) : List St → Nat → Int
  | [], _ => -1
  | s :: xs, k => if isSt s typ rel then (k : Int) else atFrom typ rel xs (k + 1)
theorem atFrom_drop (typ rel : ByteArray) (xs : List St) (k : Nat) (h : k < xs.length) : atFrom typ rel (xs.drop k) k = if isSt xs[k] typ rel then (k : Int) else atFrom typ rel (xs.drop (k + 1)) (k + 1) := by
  rw [List.drop_eq_getElem_cons h]; rfl

set_option maxHeartbeats 1000000 in
theorem l2At_any (ad : Option Addr) (cap : Nat) (xs : List St) (typ rel : ByteArray) (w : World) (hlen : xs.length ≤ 1048576) (hs : SlN w ad xs) :
    Calls Tryz.prog 84 #[.slice ad xs.length cap, .string typ, .string rel] w fun e w' => e = .returned (.int .i64 (atFrom typ rel xs 0)) ∧ w' = w := by
  go_enter Tryz.func84, Tryz.ntmps84
  go_wp2
  go_loopw [7] (fun i wr => ∃ k : Nat, k ≤ xs.length ∧ i = .int .i64 k ∧ Hid (atFrom typ rel (xs.drop k) k = atFrom typ rel xs 0) ∧ wr = w) (fun i _ => xs.length - (intOf i).toNat)
  case atStart => exact ⟨0, Nat.zero_le _, rfl, rfl, rfl⟩
  case round =>
    obtain ⟨k, hk, rfl, HP, rfl⟩ := hrel
    by_cases hlt : k < xs.length
    · rcases hs with rfl | ⟨b, off, rfl, hb, hr⟩
      · simp at hlt
      obtain ⟨t0, t1, t2⟩ := hr k hlt
      have hk1 : (0 : Int) ≤ (k : Int) := by omega
      have hk2 : (k : Int) < (xs.length : Int) := by omega
      clear hr
      cases hq : (xs[k].typ.toList == typ.toList) with
      | true =>
        cases hp : (xs[k].rel.toList == rel.toList) with
        | true =>
          have HN : Hid (atFrom typ rel xs 0 = (k : Int)) := by show _ = _; rw [← HP.out, atFrom_drop _ _ _ _ hlt]; simp [isSt, hq, hp]
          go_wp2
          go_ret
          exact ⟨by rw [HN.out]; rfl, rfl⟩
        | false =>
          have HP2 : Hid (atFrom typ rel (xs.drop (k + 1)) (k + 1) = atFrom typ rel xs 0) := by show _ = _; rw [← HP.out, atFrom_drop _ _ _ _ hlt]; simp [isSt, hq, hp]
          go_wp2
          go_roundw
          case rel => exact ⟨k + 1, by omega, by go_num, HP2, by first | rfl | trivial⟩
          case measure => first | (simp [intOf]; done) | (simp [intOf]; omega)
      | false =>
        have HP2 : Hid (atFrom typ rel (xs.drop (k + 1)) (k + 1) = atFrom typ rel xs 0) := by show _ = _; rw [← HP.out, atFrom_drop _ _ _ _ hlt]; simp [isSt, hq]
        go_wp2
        go_roundw
        case rel => exact ⟨k + 1, by omega, by go_num, HP2, by first | rfl | trivial⟩
        case measure => first | (simp [intOf]; done) | (simp [intOf]; omega)
    · have HN : Hid (atFrom typ rel xs 0 = -1) := by show _ = _; rw [← HP.out, List.drop_of_length_le (by omega)]; rfl
      go_wp2
      go_ret
      exact ⟨by rw [HN.out]; rfl, rfl⟩

end Go.Proofs.YtmghabcaakgjiaaGreat

/- 'append' as an operation of a region that draws its order: to a row that the call owns. -/
namespace Go.Proofs.YtmghabcaakgjiaaGreat
open Go.RowKit

theorem wpOp_append_own {P : Program} {ops : Array Oper} {Q : Exit → Act → World → Prop} {k : Nat} {o : Oper} {K : Act → World → Prop} {a : Act} (w : World) (hop : ops[k]? = some o) (hgd : o.guard = none) (s x : Operand) (t : TypeId)
    (ho : o.op = .call { callee := .builtin .append, args := #[s, x], argTypes := #[t, t] })
    (base : Nat) (e : TypeId) (i : TypeInfo) (z : Value) (size bytes : Nat) (ht : P.underlying t = some (.slice e)) (hi : P.info? e = some i) (hz : i.zero = some z)
    (hsize : i.size = size) (hby : i.bytes = bytes) (hzs : z.cells.size = size) (hsz : 0 < size)
    (v : Value) (n : Nat) (xs : List Value) (hs : a.eval s = v) (hown : w.ownsRow base e size v n xs)
    (ad : Addr) (m c : Nat) (news : List Value) (hx : a.eval x = .slice (some ad) m c) (hl : news.length = m * size) (hnews : ∀ j u, news[j]? = some u → w.cell? (ad.add j) = some u) (h1 : ∀ u ∈ news, u.oneCell' = true)
    (h63 : n + m ≤ maxLen) (hbytes : (n + m) * bytes ≤ 140737488355328) (hbase : base ≤ w.heap.size)
    (h : ∀ v' w', w'.ownsRow base e size v' (n + m) (xs ++ news) → w.grownBy w' v.ownBlock → (v'.ownBlock = v.ownBlock ∨ v'.ownBlock = some w.heap.size) → K (a.put o.dst v') w') :
    wpOp P ops Q k K a w := by
  refine wpOp_step hop (fun K' hK => ?_)
  have hw : Region.wanted o (yielded ops a.tmps) = true := by simp [Region.wanted, hgd]
  rw [if_pos hw]
  obtain ⟨v', w', hr, h2, h3, h4, h5⟩ := run_append_own_at (P := P) w base t o.type e i z size bytes ht hi hz hsize hby hzs hsz v n xs hown ad m c news hl hnews h1 h63 hbytes hbase
  unfold Oper.wp execOp
  simp only [ho, resolve, invoke, builtin, Sem.run_bind, Sem.run_pure, Result.andThen_ok, List.map_toArray, List.map_cons, List.map_nil, hs, hx, hr]
  exact hK _ _ (h v' w' h2 h3 h5)

/-- all but the row that is appended to stays as it was; that row is the old one, or a new one -/
structure Aside (w : World) (v : Value) (w' : World) (v' : Value) : Prop where
  size : w.heap.size ≤ w'.heap.size
  block : ∀ k, k < w.heap.size → v.ownBlock ≠ some k → w'.heap[k]? = w.heap[k]?
  own : v'.ownBlock = v.ownBlock ∨ ∃ g, v'.ownBlock = some g ∧ w.heap.size ≤ g
theorem Aside.refl (w : World) (v : Value) : Aside w v w v := ⟨Nat.le_refl _, fun _ _ _ => rfl, .inl rfl⟩
theorem Aside.apart {w w' : World} {v v' : Value} {k : Nat} (h : Aside w v w' v') (hk : k < w.heap.size) (hv : v.ownBlock ≠ some k) : v'.ownBlock ≠ some k := by
  rcases h.own with e | ⟨g, e, hg⟩
  · rw [e]; exact hv
  · rw [e]; intro h2; injection h2 with h2; omega
theorem Aside.trans {w w1 w2 : World} {v v1 v2 : Value} (h : Aside w v w1 v1) (h2 : Aside w1 v1 w2 v2) : Aside w v w2 v2 where
  size := Nat.le_trans h.size h2.size
  block k hk hv := (h2.block k (Nat.lt_of_lt_of_le hk h.size) (h.apart hk hv)).trans (h.block k hk hv)
  own := by
    rcases h2.own with e | ⟨g, e, hg⟩
    · rw [e]; exact h.own
    · exact .inr ⟨g, e, Nat.le_trans h.size hg⟩
theorem Aside.below {w w' : World} {v : Value} (h : Below w.heap.size w w') : Aside w v w' v := ⟨h.size, fun k hk _ => h.block k hk, .inl rfl⟩
theorem Aside.app {w w' : World} {v v' : Value} (hg : w.grownBy w' v.ownBlock) (h5 : v'.ownBlock = v.ownBlock ∨ v'.ownBlock = some w.heap.size) : Aside w v w' v' where
  size := hg.size
  block k hk hv := hg.block k hk (fun e => hv e.symm)
  own := by
    rcases h5 with e | e
    · exact .inl e
    · exact .inr ⟨_, e, Nat.le_refl _⟩
theorem Aside.cell {w w' : World} {v v' : Value} (h : Aside w v w' v') {p : Addr} (hp : p.block < w.heap.size) (hv : v.ownBlock ≠ some p.block) : w'.cell? p = w.cell? p := World.cell?_of_block (w := w) (h.block p.block hp hv)

end Go.Proofs.YtmghabcaakgjiaaGreat

/- Contract of the document's function on what a relation leans on. -/
namespace Go.Proofs.YtmghabcaakgjiaaGreat
open Go.ChangeShapes Go.WideShapes Go.ChangeAt Go.RowKit
open Pl

/-- what a relation leans on, and whether that is taken away -/
structure Dp where
  typ : ByteArray
  rel : ByteArray
  neg : Bool
def Dp.cells (d : Dp) : List Value := [.string d.typ, .string d.rel, .bool d.neg]
def flatD : List Dp → List Value
  | [] => []
  | d :: ds => d.cells ++ flatD ds
theorem flatD_append (xs ys : List Dp) : flatD (xs ++ ys) = flatD xs ++ flatD ys := by
  induction xs with
  | nil => rfl
  | cons d ds ih => simp [flatD, ih]
theorem flatD_snoc (xs : List Dp) (d : Dp) : flatD (xs ++ [d]) = flatD xs ++ d.cells := by rw [flatD_append]; simp [flatD]
def depsA (neg : Bool) : List Al → List Dp
  | [] => []
  | a :: xs => if a.s.toList.isEmpty then depsA neg xs else ⟨a.t, a.s, neg⟩ :: depsA neg xs
def depsN (ts : List Ty) (typ : ByteArray) (neg : Bool) (e : Ex) : List Dp :=
  if e.kind = 2 then [⟨typ, e.name, neg⟩] else if e.kind = 3 then (goalsP ts typ e.over e.name).map fun g => ⟨g, e.name, neg⟩ else []
def depsAt (ts : List Ty) (typ : ByteArray) (es : List Ex) (k : Nat) : List Dp :=
  match es[k]? with
  | none => []
  | some e => depsA ((negP es).getD k false) e.allow ++ depsN ts typ ((negP es).getD k false) e
def depsUp (ts : List Ty) (typ : ByteArray) (es : List Ex) : Nat → List Dp
  | 0 => []
  | k + 1 => depsUp ts typ es k ++ depsAt ts typ es k
def depsP (ts : List Ty) (typ : ByteArray) (es : List Ex) : List Dp := depsUp ts typ es es.length
theorem depsA_append (neg : Bool) (xs ys : List Al) : depsA neg (xs ++ ys) = depsA neg xs ++ depsA neg ys := by
  induction xs with
  | nil => rfl
  | cons a xs ih => simp only [List.cons_append, depsA, ih]; split <;> simp
theorem depsA_no (neg : Bool) (xs : List Al) (k : Nat) (h : k < xs.length) (he : xs[k].s.toList.isEmpty = true) : depsA neg (xs.take (k + 1)) = depsA neg (xs.take k) := by
  rw [List.take_succ_eq_append_getElem h, depsA_append]; simp [depsA] at he ⊢; simp [he]
theorem depsA_yes (neg : Bool) (xs : List Al) (k : Nat) (h : k < xs.length) (he : xs[k].s.toList.isEmpty = false) : depsA neg (xs.take (k + 1)) = depsA neg (xs.take k) ++ [⟨xs[k].t, xs[k].s, neg⟩] := by
  rw [List.take_succ_eq_append_getElem h, depsA_append]; simp [depsA, he]
theorem depsA_len (neg : Bool) (xs : List Al) : (depsA neg xs).length ≤ xs.length := by
  induction xs with
  | nil => simp [depsA]
  | cons a xs ih => simp only [depsA]; split <;> simp <;> omega

theorem info_dep : (Tryz.prog.info? 126).map (fun i => (i.zero, i.size, i.bytes)) = some (some (.agg #[.string ⟨#[]⟩, .string ⟨#[]⟩, .bool false]), 3, 40) := by kernel_rfl
end Go.Proofs.YtmghabcaakgjiaaGreat
