/- Regions whose operations may stand late behind one another: only what binds in every order counts. -/
import Derived.Test.YtjmbgpdbnffkpaaRegionGen
import Derived.OwnWalk
import Derived.Maps.AppendAt
import Derived.RegionTactic
namespace Go.Proofs.Ytjmbgpdbnffkpaa
open Go.RowKit
variable {P : Program} {ops : Array Oper} {Q : Exit → Act → World → Prop}

/-- every operation waits for earlier ones alone, of those that bind in every order -/
def ordOkB (ops : Array Oper) : Bool := (List.range ops.size).all (fun i => (ops[i]?.map (fun o => o.after.all (fun e => !Region.binds .any e || decide (e.on < i)))).getD true)
theorem ordOkB_of {ops : Array Oper} (h : ordOkB ops = true) : ∀ (i : Nat) (o : Oper), ops[i]? = some o → ∀ e ∈ o.after, Region.binds .any e = true → e.on < i := by
  intro i o ho e he hb
  rw [ordOkB, List.all_eq_true] at h
  have h1 := h i (by simpa using (Array.getElem?_eq_some_iff.1 ho).1)
  rw [ho] at h1
  simp only [Option.map_some, Option.getD_some, Array.all_eq_true_iff_forall_mem] at h1
  have h2 := h1 e he
  rw [hb] at h2
  simpa using h2
theorem all_listedB {listed : Array Bool} {n : Nat} (hr : Region.ready .any ops listed = []) (hs : ops.size = n) (hord : ∀ (i : Nat) (o : Oper), ops[i]? = some o → ∀ e ∈ o.after, Region.binds .any e = true → e.on < i) (hsz : listed.size = n) : ∀ i, i < n → listed.getD i true = true := by
  intro i
  induction i using Nat.strongRecOn with
  | ind i ih =>
    intro hi
    cases hl : listed.getD i true with
    | true => rfl
    | false =>
      exfalso
      have hmem : i ∈ Region.ready .any ops listed := by
        refine mem_ready.2 ⟨hl, ops[i]'(by omega), Array.getElem?_eq_getElem (by omega), fun e he hb => ?_⟩
        have hlt := hord i _ (Array.getElem?_eq_getElem (by omega)) e he hb
        have := ih e.on hlt (by omega)
        rw [Array.getD_eq_getD_getElem?, Array.getElem?_eq_getElem (by omega)] at this ⊢
        simpa using this
      rw [hr] at hmem
      cases hmem

theorem wp_region_midB {id : Nat} {a : Act} {w : World} (L : Nat) (f0 : Nat → Value) (F : (Nat → Value) → Act) (V : Nat → Value → World → Prop) (G : World → Prop)
    (hm : P.follows .mixedOrders = true) (hsz : ops.size = L + 1) (hord : ordOkB ops = true) (hlo : lastOk ops L = true)
    (h0 : a = F f0) (hG0 : G w.drew)
    (hstep : ∀ i, i < L → ∀ o, ops[i]? = some o → ∀ f w', G w' → (∀ e ∈ o.after, Region.binds .any e = true → V e.on (f e.on) w') →
      wpOp P ops Q i (fun a' w'' => ∃ v, a' = F (upd f i v) ∧ G w'' ∧ V i v w'' ∧ ∀ k u, V k u w' → V k u w'') (F f) w')
    (hfin : ∀ o, ops[L]? = some o → ∀ f w', G w' → (∀ k, k < L → V k (f k) w') → wpOp P ops Q L (fun a' w'' => Q .normal a' w'') (F f) w') :
    (Code.region id ops true).wp P Q a w := by
  refine wp_region_inv (fun listed a' w' => listed.size = L + 1 ∧ ((listed.getD L false = false ∧ ∃ f, a' = F f ∧ G w' ∧ ∀ k, k < L → listed.getD k false = true → V k (f k) w') ∨ ((∀ j, j ≤ L → listed.getD j true = true) ∧ Q .normal a' w'))) hm ?_ ?_ ?_
  · refine ⟨by simpa using hsz, Or.inl ⟨?_, _, h0, hG0, fun k _ h => ?_⟩⟩
    · rw [Array.getD_eq_getD_getElem?, Array.getElem?_replicate]; split <;> rfl
    · rw [Array.getD_eq_getD_getElem?, Array.getElem?_replicate] at h; split at h <;> cases h
  · rintro listed a' w' ⟨hs, h⟩ i hi
    obtain ⟨hl, o, ho, hpre⟩ := mem_ready.1 hi
    have hiL : i < L + 1 := by have := (Array.getElem?_eq_some_iff.1 ho).1; omega
    rcases h with ⟨hn, f, rfl, hG, hV⟩ | ⟨hall, -⟩
    · by_cases e : i = L
      · subst e
        have hall : ∀ k, k < i → listed.getD k false = true := fun k hk => by
          obtain ⟨e, he, rfl, hb⟩ := lastOk_of hlo o ho k hk
          exact hpre e he hb
        refine wpOp_mono (fun a'' w'' hq => ⟨by simpa using hs, Or.inr ⟨fun j hj => ?_, hq⟩⟩) (hfin o ho f w' hG (fun k hk => hV k hk (hall k hk)))
        rw [getTF (by simp; omega), getF_set' _ _ _ (by omega)]
        by_cases e : j = i
        · simp [e]
        · rw [if_neg e]; exact hall j (by omega)
      · refine wpOp_mono ?_ (hstep i (by omega) o ho f w' hG (fun e he hb => hV e.on (by have := ordOkB_of hord i o ho e he hb; omega) (hpre e he hb)))
        rintro a'' w'' ⟨v, rfl, hG', hv, hmono⟩
        refine ⟨by simpa using hs, Or.inl ⟨?_, _, rfl, hG', fun k hk hkl => ?_⟩⟩
        · rw [getF_set' _ _ _ (by omega), if_neg (Ne.symm e)]; exact hn
        · rw [getF_set' _ _ _ (by omega)] at hkl
          by_cases ek : k = i
          · subst ek; simpa [upd] using hv
          · rw [if_neg ek] at hkl
            simp only [upd, if_neg ek]
            exact hmono _ _ (hV k hk hkl)
    · rw [hall i (by omega)] at hl; cases hl
  · rintro listed a' w' ⟨hs, h⟩ hr
    rcases h with ⟨hn, -⟩ | ⟨-, hq⟩
    · have := all_listedB hr hsz (ordOkB_of hord) hs L (by omega)
      rw [getTF (by omega)] at this
      rw [this] at hn; cases hn
    · exact hq

/-- the same where the world's invariant knows what has come up, and an operation may change what the world says of its own place -/
theorem wp_region_midN {id : Nat} {a : Act} {w : World} (L : Nat) (f0 : Nat → Value) (F : (Nat → Value) → Act) (V : Nat → Value → World → Prop) (G : Array Bool → World → Prop)
    (hm : P.follows .mixedOrders = true) (hsz : ops.size = L + 1) (hord : ordOkB ops = true) (hlo : lastOk ops L = true)
    (h0 : a = F f0) (hG0 : G (Array.replicate ops.size false) w.drew)
    (hstep : ∀ i, i < L → ∀ o, ops[i]? = some o → ∀ (listed : Array Bool) f w', listed.size = L + 1 → listed.getD i true = false → G listed w' → (∀ e ∈ o.after, Region.binds .any e = true → V e.on (f e.on) w') →
      wpOp P ops Q i (fun a' w'' => ∃ v, a' = F (upd f i v) ∧ G (listed.setIfInBounds i true) w'' ∧ V i v w'' ∧ ∀ k u, k ≠ i → V k u w' → V k u w'') (F f) w')
    (hfin : ∀ o, ops[L]? = some o → ∀ (listed : Array Bool) f w', G listed w' → (∀ k, k < L → V k (f k) w') → wpOp P ops Q L (fun a' w'' => Q .normal a' w'') (F f) w') :
    (Code.region id ops true).wp P Q a w := by
  refine wp_region_inv (fun listed a' w' => listed.size = L + 1 ∧ ((listed.getD L false = false ∧ ∃ f, a' = F f ∧ G listed w' ∧ ∀ k, k < L → listed.getD k false = true → V k (f k) w') ∨ ((∀ j, j ≤ L → listed.getD j true = true) ∧ Q .normal a' w'))) hm ?_ ?_ ?_
  · refine ⟨by simpa using hsz, Or.inl ⟨?_, _, h0, hG0, fun k _ h => ?_⟩⟩
    · rw [Array.getD_eq_getD_getElem?, Array.getElem?_replicate]; split <;> rfl
    · rw [Array.getD_eq_getD_getElem?, Array.getElem?_replicate] at h; split at h <;> cases h
  · rintro listed a' w' ⟨hs, h⟩ i hi
    obtain ⟨hl, o, ho, hpre⟩ := mem_ready.1 hi
    have hiL : i < L + 1 := by have := (Array.getElem?_eq_some_iff.1 ho).1; omega
    rcases h with ⟨hn, f, rfl, hG, hV⟩ | ⟨hall, -⟩
    · by_cases e : i = L
      · subst e
        have hall : ∀ k, k < i → listed.getD k false = true := fun k hk => by
          obtain ⟨e, he, rfl, hb⟩ := lastOk_of hlo o ho k hk
          exact hpre e he hb
        refine wpOp_mono (fun a'' w'' hq => ⟨by simpa using hs, Or.inr ⟨fun j hj => ?_, hq⟩⟩) (hfin o ho listed f w' hG (fun k hk => hV k hk (hall k hk)))
        rw [getTF (by simp; omega), getF_set' _ _ _ (by omega)]
        by_cases e : j = i
        · simp [e]
        · rw [if_neg e]; exact hall j (by omega)
      · refine wpOp_mono ?_ (hstep i (by omega) o ho listed f w' hs hl hG (fun e he hb => hV e.on (by have := ordOkB_of hord i o ho e he hb; omega) (hpre e he hb)))
        rintro a'' w'' ⟨v, rfl, hG', hv, hmono⟩
        refine ⟨by simpa using hs, Or.inl ⟨?_, _, rfl, hG', fun k hk hkl => ?_⟩⟩
        · rw [getF_set' _ _ _ (by omega), if_neg (Ne.symm e)]; exact hn
        · rw [getF_set' _ _ _ (by omega)] at hkl
          by_cases ek : k = i
          · subst ek; simpa [upd] using hv
          · rw [if_neg ek] at hkl
            simp only [upd, if_neg ek]
            exact hmono _ _ ek (hV k hk hkl)
    · rw [hall i (by omega)] at hl; cases hl
  · rintro listed a' w' ⟨hs, h⟩ hr
    rcases h with ⟨hn, -⟩ | ⟨-, hq⟩
    · have := all_listedB hr hsz (ordOkB_of hord) hs L (by omega)
      rw [getTF (by omega)] at this
      rw [this] at hn; cases hn
    · exact hq

/-- every operation but the last one has a later one that waits for it -/
def lastOkT (ops : Array Oper) (L : Nat) : Bool := (List.range L).all fun j => (List.range (L + 1)).any fun k => decide (j < k) && (ops[k]?.map (fun o => o.after.any (fun e => e.on == j && Region.binds .any e))).getD false
theorem lastOkT_of {ops : Array Oper} {L : Nat} (h : lastOkT ops L = true) : ∀ j, j < L → ∃ k o, j < k ∧ k ≤ L ∧ ops[k]? = some o ∧ ∃ e ∈ o.after, e.on = j ∧ Region.binds .any e = true := by
  intro j hj
  rw [lastOkT, List.all_eq_true] at h
  have h1 := h j (List.mem_range.2 hj)
  rw [List.any_eq_true] at h1
  obtain ⟨k, hk, h2⟩ := h1
  simp only [Bool.and_eq_true, decide_eq_true_eq] at h2
  cases ho : ops[k]? with
  | none => rw [ho] at h2; simp at h2
  | some o =>
    rw [ho] at h2
    simp only [Option.map_some, Option.getD_some] at h2
    obtain ⟨h3, h4⟩ := h2
    rw [Array.any_eq_true'] at h4
    obtain ⟨e, he, h5⟩ := h4
    simp only [Bool.and_eq_true, beq_iff_eq] at h5
    exact ⟨k, o, h3, by have := List.mem_range.1 hk; omega, ho, e, he, h5.1, h5.2⟩
/-- what is listed has all listed that it waits for -/
def Shut (ops : Array Oper) (listed : Array Bool) : Prop := ∀ (k : Nat) (o : Oper), ops[k]? = some o → listed.getD k false = true → ∀ e ∈ o.after, Region.binds .any e = true → listed.getD e.on false = true
theorem shut_all {ops : Array Oper} {listed : Array Bool} {L : Nat} (hlo : lastOkT ops L = true) (hS : Shut ops listed) {o : Oper} (ho : ops[L]? = some o) (hpre : ∀ e ∈ o.after, Region.binds .any e = true → listed.getD e.on false = true) : ∀ d j, j + d = L → j < L → listed.getD j false = true := by
  intro d
  induction d using Nat.strongRecOn with
  | ind d ih =>
    intro j hjd hj
    obtain ⟨k, o', h1, h2, h3, e, he, h4, h5⟩ := lastOkT_of hlo j hj
    by_cases hk : k = L
    · subst hk
      rw [ho] at h3; injection h3 with h3; subst h3
      rw [← h4]; exact hpre e he h5
    · have := ih (L - k) (by omega) k (by omega) (by omega)
      rw [← h4]; exact hS k o' h3 this e he h5

/-- the same where the last operation waits for all others by way of others -/
theorem wp_region_midT {id : Nat} {a : Act} {w : World} (L : Nat) (f0 : Nat → Value) (F : (Nat → Value) → Act) (V : Nat → Value → World → Prop) (G : Array Bool → World → Prop)
    (hm : P.follows .mixedOrders = true) (hsz : ops.size = L + 1) (hord : ordOkB ops = true) (hlo : lastOkT ops L = true)
    (h0 : a = F f0) (hG0 : G (Array.replicate ops.size false) w.drew)
    (hstep : ∀ i, i < L → ∀ o, ops[i]? = some o → ∀ (listed : Array Bool) f w', listed.size = L + 1 → listed.getD i true = false → G listed w' → (∀ e ∈ o.after, Region.binds .any e = true → V e.on (f e.on) w') →
      wpOp P ops Q i (fun a' w'' => ∃ v, a' = F (upd f i v) ∧ G (listed.setIfInBounds i true) w'' ∧ V i v w'' ∧ ∀ k u, k ≠ i → V k u w' → V k u w'') (F f) w')
    (hfin : ∀ o, ops[L]? = some o → ∀ (listed : Array Bool) f w', G listed w' → (∀ k, k < L → V k (f k) w') → wpOp P ops Q L (fun a' w'' => Q .normal a' w'') (F f) w') :
    (Code.region id ops true).wp P Q a w := by
  refine wp_region_inv (fun listed a' w' => listed.size = L + 1 ∧ ((listed.getD L false = false ∧ Shut ops listed ∧ ∃ f, a' = F f ∧ G listed w' ∧ ∀ k, k < L → listed.getD k false = true → V k (f k) w') ∨ ((∀ j, j ≤ L → listed.getD j true = true) ∧ Q .normal a' w'))) hm ?_ ?_ ?_
  · refine ⟨by simpa using hsz, Or.inl ⟨?_, fun k o _ h => ?_, _, h0, hG0, fun k _ h => ?_⟩⟩
    · rw [Array.getD_eq_getD_getElem?, Array.getElem?_replicate]; split <;> rfl
    · rw [Array.getD_eq_getD_getElem?, Array.getElem?_replicate] at h; split at h <;> cases h
    · rw [Array.getD_eq_getD_getElem?, Array.getElem?_replicate] at h; split at h <;> cases h
  · rintro listed a' w' ⟨hs, h⟩ i hi
    obtain ⟨hl, o, ho, hpre⟩ := mem_ready.1 hi
    have hiL : i < L + 1 := by have := (Array.getElem?_eq_some_iff.1 ho).1; omega
    rcases h with ⟨hn, hS, f, rfl, hG, hV⟩ | ⟨hall, -⟩
    · by_cases e : i = L
      · subst e
        have hall : ∀ k, k < i → listed.getD k false = true := fun k hk => shut_all hlo hS ho hpre (i - k) k (by omega) hk
        refine wpOp_mono (fun a'' w'' hq => ⟨by simpa using hs, Or.inr ⟨fun j hj => ?_, hq⟩⟩) (hfin o ho listed f w' hG (fun k hk => hV k hk (hall k hk)))
        rw [getTF (by simp; omega), getF_set' _ _ _ (by omega)]
        by_cases e : j = i
        · simp [e]
        · rw [if_neg e]; exact hall j (by omega)
      · refine wpOp_mono ?_ (hstep i (by omega) o ho listed f w' hs hl hG (fun e he hb => hV e.on (by have := ordOkB_of hord i o ho e he hb; omega) (hpre e he hb)))
        rintro a'' w'' ⟨v, rfl, hG', hv, hmono⟩
        refine ⟨by simpa using hs, Or.inl ⟨?_, fun k o' ho' hkl e' he' hb' => ?_, _, rfl, hG', fun k hk hkl => ?_⟩⟩
        · rw [getF_set' _ _ _ (by omega), if_neg (Ne.symm e)]; exact hn
        · rw [getF_set' _ _ _ (by omega)] at hkl ⊢
          by_cases ee : e'.on = i
          · rw [if_pos ee]
          · rw [if_neg ee]
            by_cases ek : k = i
            · subst ek
              rw [ho] at ho'; injection ho' with ho'; subst ho'
              exact hpre e' he' hb'
            · rw [if_neg ek] at hkl
              exact hS k o' ho' hkl e' he' hb'
        · rw [getF_set' _ _ _ (by omega)] at hkl
          by_cases ek : k = i
          · subst ek; simpa [upd] using hv
          · rw [if_neg ek] at hkl
            simp only [upd, if_neg ek]
            exact hmono _ _ ek (hV k hk hkl)
    · rw [hall i (by omega)] at hl; cases hl
  · rintro listed a' w' ⟨hs, h⟩ hr
    rcases h with ⟨hn, -⟩ | ⟨-, hq⟩
    · have := all_listedB hr hsz (ordOkB_of hord) hs L (by omega)
      rw [getTF (by omega)] at this
      rw [this] at hn; cases hn
    · exact hq
end Go.Proofs.Ytjmbgpdbnffkpaa

/- 'append' as an operation of a region that draws its order: to a row that the call owns. -/
namespace Go.Proofs.Ytjmbgpdbnffkpaa
open Go.RowKit

theorem wpOp_append_own {P : Program} {ops : Array Oper} {Q : Exit → Act → World → Prop} {k : Nat} {o : Oper} {K : Act → World → Prop} {a : Act} (w : World) (hop : ops[k]? = some o) (hgd : o.guard = none) (s x : Operand) (t : TypeId)
    (ho : o.op = .call { callee := .builtin .append, args := #[s, x], argTypes := #[t, t] })
    (base : Nat) (e : TypeId) (i : TypeInfo) (z : Value) (size bytes : Nat) (ht : P.underlying t = some (.slice e)) (hi : P.info? e = some i) (hz : i.zero = some z)
    (hsize : i.size = size) (hby : i.bytes = bytes) (hzs : z.cells.size = size) (hsz : 0 < size)
    (v : Value) (n : Nat) (xs : List Value) (hs : a.eval s = v) (hown : w.ownsRow base e size v n xs)
    (ad : Addr) (m c : Nat) (news : List Value) (hx : a.eval x = .slice (some ad) m c) (hl : news.length = m * size) (hnews : ∀ j u, news[j]? = some u → w.cell? (ad.add j) = some u) (h1 : ∀ u ∈ news, u.oneCell' = true)
    (h63 : n + m ≤ maxLen) (hbytes : (n + m) * bytes ≤ 140737488355328) (hbase : base ≤ w.heap.size)
    (h : ∀ v' w', w'.ownsRow base e size v' (n + m) (xs ++ news) → w.grownBy w' v.ownBlock → (v'.ownBlock = v.ownBlock ∨ v'.ownBlock = some w.heap.size) → K (a.put o.dst v') w') :
    wpOp P ops Q k K a w := by
  refine wpOp_step hop (fun K' hK => ?_)
  have hw : Region.wanted o (yielded ops a.tmps) = true := by simp [Region.wanted, hgd]
  rw [if_pos hw]
  obtain ⟨v', w', hr, h2, h3, h4, h5⟩ := run_append_own_at (P := P) w base t o.type e i z size bytes ht hi hz hsize hby hzs hsz v n xs hown ad m c news hl hnews h1 h63 hbytes hbase
  unfold Oper.wp execOp
  simp only [ho, resolve, invoke, builtin, Sem.run_bind, Sem.run_pure, Result.andThen_ok, List.map_toArray, List.map_cons, List.map_nil, hs, hx, hr]
  exact hK _ _ (h v' w' h2 h3 h5)

/-- all but the row that is appended to stays as it was; that row is the old one, or a new one -/
structure Aside (w : World) (v : Value) (w' : World) (v' : Value) : Prop where
  size : w.heap.size ≤ w'.heap.size
  block : ∀ k, k < w.heap.size → v.ownBlock ≠ some k → w'.heap[k]? = w.heap[k]?
  own : v'.ownBlock = v.ownBlock ∨ ∃ g, v'.ownBlock = some g ∧ w.heap.size ≤ g
theorem Aside.refl (w : World) (v : Value) : Aside w v w v := ⟨Nat.le_refl _, fun _ _ _ => rfl, .inl rfl⟩
theorem Aside.apart {w w' : World} {v v' : Value} {k : Nat} (h : Aside w v w' v') (hk : k < w.heap.size) (hv : v.ownBlock ≠ some k) : v'.ownBlock ≠ some k := by
  rcases h.own with e | ⟨g, e, hg⟩
  · rw [e]; exact hv
  · rw [e]; intro h2; injection h2 with h2; omega
theorem Aside.trans {w w1 w2 : World} {v v1 v2 : Value} (h : Aside w v w1 v1) (h2 : Aside w1 v1 w2 v2) : Aside w v w2 v2 where
  size := Nat.le_trans h.size h2.size
  block k hk hv := (h2.block k (Nat.lt_of_lt_of_le hk h.size) (h.apart hk hv)).trans (h.block k hk hv)
  own := by
    rcases h2.own with e | ⟨g, e, hg⟩
    · rw [e]; exact h.own
    · exact .inr ⟨g, e, Nat.le_trans h.size hg⟩
theorem Aside.below {w w' : World} {v : Value} (h : Below w.heap.size w w') : Aside w v w' v := ⟨h.size, fun k hk _ => h.block k hk, .inl rfl⟩
theorem Aside.app {w w' : World} {v v' : Value} (hg : w.grownBy w' v.ownBlock) (h5 : v'.ownBlock = v.ownBlock ∨ v'.ownBlock = some w.heap.size) : Aside w v w' v' where
  size := hg.size
  block k hk hv := hg.block k hk (fun e => hv e.symm)
  own := by
    rcases h5 with e | e
    · exact .inl e
    · exact .inr ⟨_, e, Nat.le_refl _⟩
theorem Aside.cell {w w' : World} {v v' : Value} (h : Aside w v w' v') {p : Addr} (hp : p.block < w.heap.size) (hv : v.ownBlock ≠ some p.block) : w'.cell? p = w.cell? p := World.cell?_of_block (w := w) (h.block p.block hp hv)

end Go.Proofs.Ytjmbgpdbnffkpaa
