/- A schema's text, in plain words, and how long it can be. -/
import Derived.Test.YtpmgkkbkficgpaaSpecText
import Derived.Test.YtpmgkkbkficgpaaPlainTable
import Derived.Test.YtpmgkkbkficgpaaRegionGen
import Derived.Test.YtpmgkkbkficgpaaImplExpr
import Derived.Test.YtpmgkkbkficgpaaShelf
import Derived.OwnWalk
import Derived.Maps.AppendAt
import Derived.Test.YtpmgkkbkficgpaaImplSchema
import Derived.Shelf.Strings.BuilderK
namespace Go.Proofs.Ytpmgkkbkficgpaa
open Pl

def sm : List Nat → Nat
  | [] => 0
  | x :: xs => x + sm xs
theorem sm_append : ∀ xs ys : List Nat, sm (xs ++ ys) = sm xs + sm ys
  | [], ys => by simp [sm]
  | x :: xs, ys => by rw [List.cons_append]; simp only [sm]; rw [sm_append xs ys]; omega
theorem sm_reverse : ∀ xs : List Nat, sm xs.reverse = sm xs
  | [] => rfl
  | x :: xs => by rw [List.reverse_cons, sm_append, sm_reverse xs]; simp only [sm]; omega
theorem joinB_sum (sep : ByteArray) (xs : List ByteArray) : (joinB sep xs).size ≤ sm (xs.map fun x => x.size + sep.size) := by
  suffices h : ∀ ys : List ByteArray, (joinB sep ys.reverse).size ≤ sm (ys.reverse.map fun x => x.size + sep.size) by
    have := h xs.reverse
    rwa [List.reverse_reverse] at this
  intro ys
  induction ys with
  | nil => exact Nat.le_refl _
  | cons y ys ih =>
    rw [List.reverse_cons, joinB_snoc, List.map_append, sm_append]
    simp only [List.map_cons, List.map_nil, sm]
    split
    · omega
    · simp only [ByteArray.size_append]; omega

/-- the nodes below those of a list -/
def spanS (f : Int → Int) : List Int → Int
  | [] => 0
  | k :: ks => (k - f k + 1) + spanS f ks
theorem spanS_append (f : Int → Int) : ∀ xs ys : List Int, spanS f (xs ++ ys) = spanS f xs + spanS f ys
  | [], ys => by simp [spanS]
  | x :: xs, ys => by rw [List.cons_append]; simp only [spanS]; rw [spanS_append f xs ys]; omega
theorem spanS_reverse (f : Int → Int) : ∀ xs : List Int, spanS f xs.reverse = spanS f xs
  | [] => rfl
  | x :: xs => by rw [List.reverse_cons, spanS_append, spanS_reverse f xs]; simp only [spanS]; omega
theorem treeGo_span {f : Int → Int} : ∀ (ks : List Int) (a : Int), 0 ≤ treeGo f ks a → spanS f ks = a + 1 - treeGo f ks a
  | [], a, _ => by simp [spanS, treeGo]
  | k :: ks, a, h => by
    unfold treeGo at h ⊢
    split at h
    · omega
    · rename_i h1
      rw [if_neg h1]
      split at h
      · omega
      · rename_i h2
        rw [if_neg h2]
        have hk : k = a := Decidable.byContradiction fun e => h1 (.inr e)
        subst hk
        simp only [spanS]
        rw [treeGo_span ks _ h]
        omega

theorem txt_lin {es : List Ex} (hes : okE es) (ht : ∀ j, j < es.length → 0 ≤ treeAt es j) (n : Nat) : n < es.length → ∀ i, ((txtAt es n i).size : Int) ≤ 250 * ((n : Int) - treeAt es n + 1) := by
  induction n using Nat.strongRecOn with
  | ind n ih =>
    intro hn i
    have hle := treeAt_le es n
    have h1 := inT_size (exAt es n) i (nodeT (txtF es n) (exAt es n))
    unfold txtAt
    suffices h : ((nodeT (txtF es n) (exAt es n)).size : Int) ≤ 250 * ((n : Int) - treeAt es n + 1) - 10 by omega
    have hnode := hes.2.1 n hn
    obtain ⟨hk5, -⟩ := nodeB_kids hnode
    rw [exAt_eq hn]
    unfold nodeT
    unfold nodeB at hnode
    split
    · rename_i k
      rw [if_pos k] at hnode
      simp only [Bool.and_eq_true] at hnode
      have := thisText_size hnode.1.1.1
      omega
    rename_i k1
    rw [if_neg k1] at hnode
    split
    · rename_i k2
      rw [if_pos k2] at hnode
      simp only [Bool.and_eq_true] at hnode
      have := nameB_small hnode.1.1.1
      omega
    rename_i k2
    rw [if_neg k2] at hnode
    split
    · rename_i k3
      rw [if_pos k3] at hnode
      simp only [Bool.and_eq_true] at hnode
      have h1 := nameB_small hnode.1.1.1
      have h2 := nameB_small hnode.1.1.2
      have e1 : (⟨#[45, 62]⟩ : ByteArray).size = 2 := rfl
      simp only [ByteArray.size_append]
      omega
    · have hj := joinB_sum (signB es[n].kind) (es[n].kids.map (txtF es n))
      rw [signB_size, List.map_map] at hj
      have hspan : spanS (treeF es n) es[n].kids = (n : Int) - treeAt es n := by
        have h0 := ht n hn
        rw [treeAt_eq] at h0
        have h2 := treeGo_span _ _ h0
        rw [spanS_reverse, ← treeAt_eq] at h2
        have e : kidsAt es n = es[n].kids := by simp [kidsAt, hn]
        rw [e] at h2
        omega
      have hsum : ∀ ks : List Int, (∀ k ∈ ks, 0 ≤ k ∧ k.toNat < n) → (sm (ks.map ((fun x : ByteArray => x.size + 3) ∘ txtF es n)) : Int) ≤ 250 * spanS (treeF es n) ks + 3 * (ks.length : Int) := by
        intro ks
        induction ks with
        | nil => intro _; simp [sm, spanS]
        | cons k ks ih2 =>
          intro hks
          obtain ⟨hk0, hk1⟩ := hks k (List.mem_cons_self ..)
          have h3 := ih2 fun x hx => hks x (List.mem_cons_of_mem _ hx)
          have h4 := ih k.toNat hk1 (by omega) true
          have e1 : txtF es n k = txtAt es k.toNat true := by unfold txtF; rw [if_pos hk1, txt_eq]
          have e2 : treeF es n k = treeAt es k.toNat := by unfold treeF; rw [if_pos ⟨hk0, hk1⟩]
          have e3 : ((k.toNat : Nat) : Int) = k := by omega
          simp only [List.map_cons, sm, spanS, Function.comp_apply, List.length_cons]
          rw [e1, e2]
          rw [e3] at h4
          omega
      have h5 := hsum es[n].kids (kids_lt hes hn)
      rw [hspan] at h5
      have : (es[n].kids.length : Int) ≤ 5 := by omega
      omega

theorem trees_of {es : List Ex} (h : specE es = true) : ∀ j, j < es.length → 0 ≤ treeAt es j := by
  rw [spec_impl] at h
  unfold implE at h
  simp only [Bool.and_eq_true, decide_eq_true_eq] at h
  have h1 := h.2.1
  unfold allTrees at h1
  rw [List.all_eq_true] at h1
  intro j hj
  simpa using h1 j (by simpa using hj)
theorem exText_small (es : List Ex) : (exText es).size ≤ 3750 := by
  by_cases h : specE es = true
  · have ht := trees_of h
    have hf := specE_few h
    have h1 := txt_lin (okE_of h) ht (es.length - 1) (by omega) false
    have h2 := ht (es.length - 1) (by omega)
    rw [exText_yes h]
    omega
  · rw [exText_no (by simpa using h)]
    show 0 ≤ 3750
    omega

/-- the line of a relation -/
def relTx (r : Rl) : ByteArray := ((r.name ++ ⟨#[32, 61, 32]⟩) ++ exText r.expr) ++ ⟨#[10]⟩
def relsTx : List Rl → ByteArray
  | [] => ⟨#[]⟩
  | r :: rs => relTx r ++ relsTx rs
/-- the first line of a type -/
def headTx (n : ByteArray) : ByteArray := (⟨#[116, 121, 112, 101, 32]⟩ ++ n) ++ ⟨#[10]⟩
def schTx : List Ty → ByteArray
  | [] => ⟨#[]⟩
  | t :: ts => (headTx t.name ++ relsTx t.rels) ++ schTx ts
/-- the text of a schema: nothing where it is not right -/
def schemaTx (ts : List Ty) : ByteArray := if schemaD ts then schTx ts else ⟨#[]⟩

theorem app_nil (a : ByteArray) : a ++ (⟨#[]⟩ : ByteArray) = a := by apply ext_data'; simp [ByteArray.data_append]
theorem relsTx_snoc : ∀ (xs : List Rl) (r : Rl), relsTx (xs ++ [r]) = relsTx xs ++ relTx r
  | [], r => by simp only [List.nil_append, relsTx, app_nil, empty_app]
  | x :: xs, r => by rw [List.cons_append]; simp only [relsTx]; rw [relsTx_snoc xs r, ← ByteArray.append_assoc]
theorem schTx_snoc : ∀ (xs : List Ty) (t : Ty), schTx (xs ++ [t]) = schTx xs ++ (headTx t.name ++ relsTx t.rels)
  | [], t => by simp only [List.nil_append, schTx, app_nil, empty_app]
  | x :: xs, t => by rw [List.cons_append]; simp only [schTx]; rw [schTx_snoc xs t, ← ByteArray.append_assoc]
theorem rls_takeS (rs : List RR) (k : Nat) (h : k < rs.length) : rls (rs.take (k + 1)) = rls (rs.take k) ++ [⟨rs[k].name, exs rs[k].rows⟩] := by
  rw [List.take_succ_eq_append_getElem h]; unfold rls; rw [List.map_append]; rfl
theorem tys_takeS (rs : List TR) (k : Nat) (h : k < rs.length) : tys (rs.take (k + 1)) = tys (rs.take k) ++ [⟨rs[k].name, rls rs[k].rows⟩] := by
  rw [List.take_succ_eq_append_getElem h]; unfold tys; rw [List.map_append]; rfl
theorem relTx_size {r : Rl} (h : r.name.size ≤ 12) : (relTx r).size ≤ 3770 := by
  have h1 := exText_small r.expr
  have e1 : (⟨#[32, 61, 32]⟩ : ByteArray).size = 3 := rfl
  have e2 : (⟨#[10]⟩ : ByteArray).size = 1 := rfl
  unfold relTx
  simp only [ByteArray.size_append]
  omega
theorem headTx_size (n : ByteArray) : (headTx n).size = n.size + 6 := by
  have e1 : (⟨#[116, 121, 112, 101, 32]⟩ : ByteArray).size = 5 := rfl
  have e2 : (⟨#[10]⟩ : ByteArray).size = 1 := rfl
  unfold headTx
  simp only [ByteArray.size_append]
  omega
end Go.Proofs.Ytpmgkkbkficgpaa

/- A region that draws its order, where no operation waits for all others and the world's invariant knows what has come up. -/
namespace Go.Proofs.Ytpmgkkbkficgpaa
open Go.RowKit
section
variable {P : Program} {ops : Array Oper} {Q : Exit → Act → World → Prop}
theorem wp_region_allL {id : Nat} {a : Act} {w : World} (N : Nat) (f0 : Nat → Value) (F : (Nat → Value) → Act) (V : Nat → Value → World → Prop) (G : Array Bool → World → Prop)
    (hm : P.follows .mixedOrders = true) (hsz : ops.size = N) (hord : ordOk ops = true)
    (h0 : a = F f0) (hG0 : G (Array.replicate ops.size false) w.drew)
    (hstep : ∀ i, i < N → ∀ o, ops[i]? = some o → ∀ (listed : Array Bool) f w', listed.size = N → listed.getD i true = false → G listed w' → (∀ e ∈ o.after, Region.binds .any e = true → V e.on (f e.on) w') →
      wpOp P ops Q i (fun a' w'' => ∃ v, a' = F (upd f i v) ∧ G (listed.setIfInBounds i true) w'' ∧ V i v w'' ∧ ∀ k u, V k u w' → V k u w'') (F f) w')
    (hend : ∀ (listed : Array Bool) f w', (∀ k, k < N → listed.getD k false = true) → G listed w' → (∀ k, k < N → V k (f k) w') → Q .normal (F f) w') :
    (Code.region id ops true).wp P Q a w := by
  refine wp_region_inv (fun listed a' w' => listed.size = N ∧ ∃ f, a' = F f ∧ G listed w' ∧ ∀ k, k < N → listed.getD k false = true → V k (f k) w') hm ?_ ?_ ?_
  · refine ⟨by simpa using hsz, _, h0, hG0, fun k _ h => ?_⟩
    rw [Array.getD_eq_getD_getElem?, Array.getElem?_replicate] at h; split at h <;> cases h
  · rintro listed a' w' ⟨hs, f, rfl, hG, hV⟩ i hi
    obtain ⟨hl, o, ho, hpre⟩ := mem_ready.1 hi
    have hiN : i < N := by have := (Array.getElem?_eq_some_iff.1 ho).1; omega
    refine wpOp_mono ?_ (hstep i hiN o ho listed f w' hs hl hG (fun e he hb => hV e.on (by have := ordOk_of hord i o ho e he; omega) (hpre e he hb)))
    rintro a'' w'' ⟨v, rfl, hG', hv, hmono⟩
    refine ⟨by simpa using hs, _, rfl, hG', fun k hk hkl => ?_⟩
    rw [getF_set' _ _ _ (by omega)] at hkl
    by_cases ek : k = i
    · subst ek; simpa [upd] using hv
    · rw [if_neg ek] at hkl
      simp only [upd, if_neg ek]
      exact hmono _ _ (hV k hk hkl)
  · rintro listed a' w' ⟨hs, f, rfl, hG, hV⟩ hr
    have hall : ∀ k, k < N → listed.getD k false = true := fun k hk => by
      have := all_listed hr hsz (ordOk_of hord) hs k hk
      rwa [getTF (by omega)] at this
    exact hend listed f w' hall hG fun k hk => hV k hk (hall k hk)
end
end Go.Proofs.Ytpmgkkbkficgpaa

/- Contracts of the program's functions that write a node's text. -/
namespace Go.Proofs.Ytpmgkkbkficgpaa
open Go.ChangeShapes Go.WideShapes Go.ChangeAt Go.RowKit
open Pl

theorem signOf_any (k : Int) (w : World) :
    Calls Try.prog 69 #[.int .i64 k] w fun e w' => e = .returned (.string (signB k)) ∧ w' = w := by
  by_cases h4 : k = 4
  · subst h4
    go_enter Try.func69, Try.ntmps69
    go_wp2
    go_ret
    exact ⟨rfl, rfl⟩
  by_cases h5 : k = 5
  · subst h5
    go_enter Try.func69, Try.ntmps69
    go_wp2
    go_ret
    exact ⟨rfl, rfl⟩
  · have HS : Hid (signB k = ⟨#[32, 45, 32]⟩) := by show _ = _; simp [signB, h4, h5]
    go_enter Try.func69, Try.ntmps69
    go_wp2
    go_ret
    exact ⟨by rw [HS.out]; rfl, rfl⟩

theorem app_assoc' (a b c : ByteArray) : a ++ (b ++ c) = a ++ b ++ c := by apply ext_data'; simp [ByteArray.data_append]
theorem info_str : (Try.prog.info? 9).map (fun i => (i.zero, i.size, i.bytes)) = some (some (.string ⟨#[]⟩), 1, 16) := by kernel_rfl
def strs (xs : List ByteArray) : List Value := xs.map Value.string
theorem strs_snoc (xs : List ByteArray) (k : Nat) (h : k < xs.length) : strs (xs.take (k + 1)) = strs (xs.take k) ++ [.string xs[k]] := by
  unfold strs; rw [List.take_succ_eq_append_getElem h, List.map_append]; rfl
theorem strs_len (xs : List ByteArray) (k : Nat) (h : k ≤ xs.length) : (strs (xs.take k)).length = k := by simp [strs]; omega

/-- a row of strings that the call owns: what Join asks of it -/
theorem own_cells {w : World} {base k : Nat} {v : Value} {xs : List ByteArray} (h : w.ownsRow base 9 1 v k (strs xs)) (hk : 0 < k) : ∃ g cp, v = .slice (some ⟨g, 0, none⟩) k cp ∧ k ≤ cp ∧ g < w.heap.size ∧ base ≤ g ∧ xs.length = k ∧ ∀ (j : Nat) x, xs[j]? = some x → w.cell? ⟨g, 0 + j, none⟩ = some (.string x) := by
  have hl : xs.length = k := by have := h.1; simpa [strs] using this
  have h2 := h
  rcases h.2 with ⟨rfl, h0⟩ | ⟨g, cp, cur, rfl, hbg, hg, hnc, -⟩
  · omega
  · have hlt := h2.lt g rfl
    refine ⟨g, cp, rfl, hnc, hlt.2, hbg, hl, fun j x hx => ?_⟩
    have := h2.cells (g := g) rfl j (.string x) (by simp [strs, hx])
    rw [Nat.zero_add]
    have e : (⟨g, 0, none⟩ : Addr).add j = ⟨g, j, none⟩ := by
      unfold Addr.add
      by_cases hj : j = 0
      · subst hj; simp
      · simp [hj]
    rwa [e] at this

set_option maxHeartbeats 2000000 in
theorem allowText_any (ad : Option Addr) (cap : Nat) (xs : List Al) (w : World) (hal : allowB xs = true) (hs : SlA w ad xs) :
    Calls Try.prog 67 #[.slice ad xs.length cap] w fun e w' => e = .returned (.string (thisText xs)) ∧ Below w.heap.size w w' := by
  have HS : Hid (SlA w ad xs) := hs
  have HAL : Hid (allowB xs = true) := hal
  have hts := thisText_size hal
  unfold thisText at hts
  simp only [ByteArray.size_append] at hts
  have hl : 1 ≤ xs.length ∧ xs.length ≤ 6 := by unfold allowB at hal; simp at hal; exact ⟨hal.1.1, hal.1.2⟩
  obtain ⟨hl1, hl6⟩ := hl
  clear hs hal
  obtain ⟨i0, hi, hz0, hz1, hz2⟩ := info_parts info_str
  go_enter Try.func67, Try.ntmps67
  go_wp2_with fail
  go_loopw [3, 9] (fun v i wr => ∃ k : Nat, k ≤ xs.length ∧ i = .int .i64 k ∧ wr.ownsRow w.heap.size 9 1 v k (strs ((xs.map alText).take k)) ∧ Below w.heap.size w wr) (fun _ i _ => xs.length - (intOf i).toNat)
  case atStart => exact ⟨0, Nat.zero_le _, rfl, by simpa [strs] using World.ownsRow_nil _ _ _ _, Below.refl _ _⟩
  case round =>
    obtain ⟨k, hk, rfl, hown, hB⟩ := hrel
    by_cases hlt : k < xs.length
    · rcases HS.out.below hB with rfl | ⟨b, off, rfl, hb, hr⟩
      · simp at hlt
      obtain ⟨t0, t1⟩ := hr k hlt
      have hab : alB xs[k] = true := by
        have := HAL.out
        unfold allowB at this
        simp only [Bool.and_eq_true] at this
        exact upA_all this.2 k hlt hlt
      have z2 := alText_size hab
      unfold alB at hab
      rw [Bool.and_eq_true] at hab
      have z0 := nameB_small hab.1
      have z1 := setB_small hab.2
      have hBs := hB.size
      have HX : Hid (strs ((xs.map alText).take (k + 1)) = strs ((xs.map alText).take k) ++ [.string (alText xs[k])]) := by show _ = _; rw [strs_snoc _ _ (by simpa using hlt), List.getElem_map]
      clear hr hab
      cases he : xs[k].s.toList.isEmpty with
      | true =>
        have HAT : Hid (alText xs[k] = xs[k].t) := by show _ = _; simp [alText, he]
        go_wp2_with (at_builtin; refine wpList_append_own _ rfl _ _ 57 rfl w.heap.size 9 i0 (.string ⟨#[]⟩) 1 16 Try.underlying57 hi hz0 hz1 hz2 rfl (by decide) _ _ _ rfl ((hown.alloc _).alloc _) ⟨wr.heap.size + 1, 0, none⟩ 1 1 [.string xs[k].t] rfl rfl (by have := cell_one_new (wr.alloc (.cells #[.string xs[k].t, .string xs[k].s] 100)) (.string xs[k].t) 9; rw [World.size_alloc] at this; exact this) (by intro u hu; simp at hu; subst hu; rfl) (by unfold maxLen; omega) (by omega) (by simp; omega) ?_)
        intro v' w3 hown3 hgrow _
        have hb3 : Below w.heap.size w w3 := ((hB.alloc hB.size _).alloc (by simp; omega) _).grown hgrow (by simp; omega) (fun i hi => (hown.lt i hi).1)
        rw [← HAT.out, ← HX.out] at hown3
        have HO3 : Hid (w3.ownsRow w.heap.size 9 1 v' (k + 1) (strs ((xs.map alText).take (k + 1)))) := hown3
        clear hown3 hgrow hown
        go_wp2
        go_roundw
        case rel => exact ⟨k + 1, by omega, by go_num, HO3.out, hb3⟩
        case measure => first | (simp [intOf]; done) | (simp [intOf]; omega)
      | false =>
        have HAT : Hid (alText xs[k] = xs[k].t ++ (⟨#[35]⟩ ++ xs[k].s)) := by show _ = _; rw [app_assoc']; simp [alText, he]
        go_wp2_with (at_builtin; refine wpList_append_own _ rfl _ _ 57 rfl w.heap.size 9 i0 (.string ⟨#[]⟩) 1 16 Try.underlying57 hi hz0 hz1 hz2 rfl (by decide) _ _ _ rfl ((hown.alloc _).alloc _) ⟨wr.heap.size + 1, 0, none⟩ 1 1 [.string (xs[k].t ++ (⟨#[35]⟩ ++ xs[k].s))] rfl rfl (by have := cell_one_new (wr.alloc (.cells #[.string xs[k].t, .string xs[k].s] 100)) (.string (xs[k].t ++ (⟨#[35]⟩ ++ xs[k].s))) 9; rw [World.size_alloc] at this; exact this) (by intro u hu; simp at hu; subst hu; rfl) (by unfold maxLen; omega) (by omega) (by simp; omega) ?_)
        intro v' w3 hown3 hgrow _
        have hb3 : Below w.heap.size w w3 := ((hB.alloc hB.size _).alloc (by simp; omega) _).grown hgrow (by simp; omega) (fun i hi => (hown.lt i hi).1)
        rw [← HAT.out, ← HX.out] at hown3
        have HO3 : Hid (w3.ownsRow w.heap.size 9 1 v' (k + 1) (strs ((xs.map alText).take (k + 1)))) := hown3
        clear hown3 hgrow hown
        go_wp2
        go_roundw
        case rel => exact ⟨k + 1, by omega, by go_num, HO3.out, hb3⟩
        case measure => first | (simp [intOf]; done) | (simp [intOf]; omega)
    · obtain rfl : k = xs.length := by omega
      have HE : Hid ((xs.map alText).take xs.length = xs.map alText) := by show _ = _; rw [List.take_of_length_le (by simp)]
      rw [HE.out] at hown
      obtain ⟨g, cp, rfl, hcp, hgl, -, hll, hc⟩ := own_cells hown (by omega)
      have hsz : (joinB ⟨#[44]⟩ (xs.map alText)).size ≤ 200 := by omega
      have HC : Hid (∀ (j : Nat) x, (xs.map alText)[j]? = some x → wr.cell? ⟨g, 0 + j, none⟩ = some (.string x)) := hc
      clear hc hown hi hz0 hz1 hz2
      go_wp2_with fail
      have HJ := Try.strings_Join g 0 cp (xs.map alText) ⟨#[44]⟩ wr HC.out hgl (by rw [hll]; omega) (by rw [hll]; exact hcp) (Nat.le_trans hsz (by omega))
      rw [hll] at HJ
      obtain ⟨J, hJ⟩ : ∃ J, J = joinB ⟨#[44]⟩ (xs.map alText) := ⟨_, rfl⟩
      have hsJ : J.size ≤ 200 := by rw [hJ]; exact hsz
      have HTT : Hid (thisText xs = ⟨#[116, 104, 105, 115, 40]⟩ ++ J ++ ⟨#[41]⟩) := by show _ = _; rw [hJ]; rfl
      refine HJ.mono ?_
      rintro e w1 ⟨he, hb1⟩
      have he' : e = .returned (.string J) := by rw [he, hJ]; rfl
      subst he'
      have HB1 : Hid (Below w.heap.size w w1) := hB.trans (hb1.mono hB.size)
      clear hb1 HJ he hJ hsz hts
      go_wp2
      go_ret
      exact ⟨by rw [HTT.out]; rfl, HB1.out⟩

/-- the texts that lie ready for a node's kids -/
def Ready (w : World) (g len : Nat) (f : Int → ByteArray) (ks : List Int) : Prop := g < w.heap.size ∧ ∀ k ∈ ks, 0 ≤ k ∧ k < (len : Int) ∧ w.cell? ⟨g, k.toNat, none⟩ = some (.string (f k)) ∧ (f k).size ≤ 20000000000000
theorem Ready.below {w w' : World} {g len : Nat} {f : Int → ByteArray} {ks : List Int} (h : Ready w g len f ks) (hb : Below w.heap.size w w') : Ready w' g len f ks :=
  ⟨Nat.lt_of_lt_of_le h.1 hb.size, fun k hk => by obtain ⟨h1, h2, h3, h4⟩ := h.2 k hk; exact ⟨h1, h2, kept hb h.1 h3, h4⟩⟩

set_option maxRecDepth 4000 in
set_option maxHeartbeats 4000000 in
theorem nodeText_any (r : ER) (g len cap : Nat) (f : Int → ByteArray) (w : World) (hnode : nodeB r.e = true) (hok : r.ok w) (hr : Ready w g len f r.e.kids) :
    Calls Try.prog 36 #[r.val, .slice (some ⟨g, 0, none⟩) len cap] w fun e w' => e = .returned (.string (nodeT f r.e)) ∧ Below w.heap.size w w' := by
  obtain ⟨⟨kind, allow, over, name, kids⟩, adA, capA, adK, capK⟩ := r
  obtain ⟨hA, hK⟩ := hok
  obtain ⟨hk5, hkind⟩ := nodeB_kids hnode
  simp only at hA hK hk5 hkind hr
  simp only [ER.val]
  have HN : Hid (nodeB ⟨kind, allow, over, name, kids⟩ = true) := hnode
  have HA : Hid (SlA w adA allow) := hA
  have HK : Hid (SlI w adK kids) := hK
  have HRY : Hid (Ready w g len f kids) := hr
  clear hA hK hnode hr
  by_cases k1 : kind = 1
  · subst k1
    have hal : allowB allow = true := by
      have := HN.out
      unfold nodeB at this
      rw [if_pos rfl] at this
      simp only [Bool.and_eq_true] at this
      exact this.1.1.1
    have HB0 : Hid (Below w.heap.size w (w.alloc (.cells #[.int .i64 1, .slice adA allow.length capA, .string over, .string name, .slice adK kids.length capK] 51))) := (Below.refl _ _).alloc (Nat.le_refl _) _
    go_enter Try.func36, Try.ntmps36
    go_wp2_with fail
    refine (allowText_any adA capA allow _ hal (HA.out.below HB0.out)).mono ?_
    rintro e w1 ⟨rfl, hb1⟩
    have HB1 : Hid (Below w.heap.size w w1) := HB0.out.trans (hb1.mono HB0.out.size)
    clear hb1
    go_wp2
    go_ret
    exact ⟨rfl, HB1.out⟩
  by_cases k2 : kind = 2
  · subst k2
    go_enter Try.func36, Try.ntmps36
    go_wp2
    go_ret
    exact ⟨rfl, (Below.refl _ _).alloc (Nat.le_refl _) _⟩
  by_cases k3 : kind = 3
  · subst k3
    have hsz : over.size ≤ 12 ∧ name.size ≤ 12 := by
      have := HN.out
      unfold nodeB at this
      rw [if_neg (by simp), if_neg (by simp), if_pos rfl] at this
      simp only [Bool.and_eq_true] at this
      exact ⟨nameB_small this.1.1.1, nameB_small this.1.1.2⟩
    obtain ⟨z0, z1⟩ := hsz
    go_enter Try.func36, Try.ntmps36
    go_wp2
    go_ret
    exact ⟨rfl, (Below.refl _ _).alloc (Nat.le_refl _) _⟩
  · have kb1 : (kind == 1) = false := by simpa using k1
    have kb2 : (kind == 2) = false := by simpa using k2
    have kb3 : (kind == 3) = false := by simpa using k3
    have HT : Hid (nodeT f ⟨kind, allow, over, name, kids⟩ = joinB (signB kind) (kids.map f)) := by show _ = _; simp [nodeT, k1, k2, k3]
    have hk2 : 2 ≤ kids.length := by
      have := HN.out
      unfold nodeB at this
      rw [if_neg k1, if_neg k2, if_neg k3] at this
      split at this
      · simp at this; omega
      · split at this
        · simp at this; omega
        · cases this
    have HTS : Hid (∀ x ∈ kids.map f, x.size ≤ 20000000000000) := fun x hx => by
      obtain ⟨k, hk, rfl⟩ := List.mem_map.1 hx
      exact (HRY.out.2 k hk).2.2.2
    obtain ⟨i0, hi, hz0, hz1, hz2⟩ := info_parts info_str
    obtain ⟨W, hW⟩ : ∃ W, W = w.alloc (.cells #[.int .i64 kind, .slice adA allow.length capA, .string over, .string name, .slice adK kids.length capK] 51) := ⟨_, rfl⟩
    have HB0 : Hid (Below w.heap.size w W) := by show Below _ _ _; rw [hW]; exact (Below.refl _ _).alloc (Nat.le_refl _) _
    have hgl : w.heap.size < W.heap.size := by rw [hW]; simp
    have g0 : W.cell? ⟨w.heap.size, 0, none⟩ = some (.int .i64 kind) := by rw [hW]; simp
    go_enter Try.func36, Try.ntmps36
    go_wp2_with fail
    rw [← hW]
    clear hW
    go_loopw [5, 30] (fun v i wr => ∃ k : Nat, k ≤ kids.length ∧ i = .int .i64 k ∧ wr.ownsRow W.heap.size 9 1 v k (strs ((kids.map f).take k)) ∧ Below W.heap.size W wr) (fun _ i _ => kids.length - (intOf i).toNat)
    case atStart => exact ⟨0, Nat.zero_le _, rfl, by simpa [strs] using World.ownsRow_nil _ _ _ _, Below.refl _ _⟩
    case round =>
      obtain ⟨k, hk, rfl, hown, hB⟩ := hrel
      have hBw : Below w.heap.size w wr := HB0.out.trans (hB.mono HB0.out.size)
      by_cases hlt : k < kids.length
      · rcases HK.out.below hBw with rfl | ⟨bk, offk, rfl, hbk, hrk⟩
        · simp at hlt
        have q0 := hrk k hlt
        obtain ⟨r1, r2, r3, r4⟩ := (HRY.out.below hBw).2 kids[k] (List.getElem_mem hlt)
        obtain ⟨m, hm⟩ : ∃ m : Nat, kids[k] = (m : Int) := ⟨kids[k].toNat, by omega⟩
        have HFm : Hid (f kids[k] = f (m : Int)) := by show _ = _; rw [hm]
        have HX : Hid (strs ((kids.map f).take (k + 1)) = strs ((kids.map f).take k) ++ [.string (f kids[k])]) := by show _ = _; rw [strs_snoc _ _ (by simpa using hlt), List.getElem_map]
        rw [hm] at q0 r2
        have r3' : wr.cell? ⟨g, m, none⟩ = some (.string (f kids[k])) := by rw [hm] at r3 ⊢; simpa using r3
        have hm1 : (0 : Int) ≤ (m : Int) := by omega
        have hBs := hB.size
        obtain ⟨fk, hfk⟩ : ∃ fk, fk = f kids[k] := ⟨_, rfl⟩
        rw [← hfk] at r3'
        have HFK : Hid (fk = f kids[k]) := hfk
        clear hrk r3 hm r1 hfk
        go_wp2_with (at_builtin; refine wpList_append_own _ rfl _ _ 57 rfl W.heap.size 9 i0 (.string ⟨#[]⟩) 1 16 Try.underlying57 hi hz0 hz1 hz2 rfl (by decide) _ _ _ rfl (hown.alloc _) ⟨wr.heap.size, 0, none⟩ 1 1 [.string fk] rfl rfl (cell_one_new _ _ _) (by intro u hu; simp at hu; subst hu; rfl) (by unfold maxLen; omega) (by omega) (by simp; omega) ?_)
        intro v' w3 hown3 hgrow _
        have hb3 : Below W.heap.size W w3 := (hB.alloc hB.size _).grown hgrow (by simp; omega) (fun i hi => (hown.lt i hi).1)
        rw [HFK.out, ← HX.out] at hown3
        have HO3 : Hid (w3.ownsRow W.heap.size 9 1 v' (k + 1) (strs ((kids.map f).take (k + 1)))) := hown3
        clear hown3 hgrow hown
        go_wp2
        go_roundw
        case rel => exact ⟨k + 1, by omega, by go_num, HO3.out, hb3⟩
        case measure => first | (simp [intOf]; done) | (simp [intOf]; omega)
      · obtain rfl : k = kids.length := by omega
        have HE : Hid ((kids.map f).take kids.length = kids.map f) := by show _ = _; rw [List.take_of_length_le (by simp)]
        rw [HE.out] at hown
        obtain ⟨gp, cp, rfl, hcp, hgpl, -, hll, hc⟩ := own_cells hown (by omega)
        have a0 := kept hB hgl g0
        have hsz : (joinB (signB kind) (kids.map f)).size ≤ 140737488355328 := by
          have h := joinB_size (signB kind) 20000000000000 _ (kids.map f) rfl HTS.out
          rw [signB_size, hll] at h
          omega
        have HC : Hid (∀ (j : Nat) x, (kids.map f)[j]? = some x → wr.cell? ⟨gp, 0 + j, none⟩ = some (.string x)) := hc
        clear hc hown hi hz0 hz1 hz2
        go_wp2_with fail
        refine (signOf_any _ _).mono ?_
        rintro e w' ⟨rfl, rfl⟩
        go_wp2_with fail
        have HJ := Try.strings_Join gp 0 cp (kids.map f) (signB kind) _ HC.out hgpl (by rw [hll]; omega) (by rw [hll]; exact hcp) hsz
        rw [hll] at HJ
        refine HJ.mono ?_
        rintro e w1 ⟨he, hb1⟩
        obtain ⟨J, hJ⟩ : ∃ J, J = joinB (signB kind) (kids.map f) := ⟨_, rfl⟩
        have he' : e = .returned (.string J) := by rw [he, hJ]; rfl
        subst he'
        have HJJ : Hid (nodeT f ⟨kind, allow, over, name, kids⟩ = J) := by show _ = _; rw [HT.out, hJ]
        have HB1 : Hid (Below w.heap.size w w1) := hBw.trans (hb1.mono hBw.size)
        clear hb1 HJ he hJ hsz
        go_wp2
        go_ret
        exact ⟨by rw [HJJ.out]; rfl, HB1.out⟩

end Go.Proofs.Ytpmgkkbkficgpaa

/- The contract of the program's writing of an expression's text. -/
namespace Go.Proofs.Ytpmgkkbkficgpaa
open Go.ChangeShapes Go.WideShapes Go.ChangeAt Go.RowKit
open Pl

/-- the text that stands at place j: the last one is the whole -/
def tAt (es : List Ex) (j : Nat) : ByteArray := if j + 1 < es.length then txt es j else txtAt es j false
def tUp (es : List Ex) (k : Nat) : List Value := strs ((List.range k).map (tAt es))
theorem tUp_succ (es : List Ex) (k : Nat) : tUp es (k + 1) = tUp es k ++ [.string (tAt es k)] := by simp [tUp, strs, List.range_succ]
theorem tUp_len (es : List Ex) (k : Nat) : (tUp es k).length = k := by simp [tUp, strs]
theorem tUp_at (es : List Ex) (k j : Nat) (h : j < (tUp es k).length) : (tUp es k)[j] = .string (tAt es j) := by simp [tUp, strs]

/-- the same place written twice -/
theorem Fil.put2 {w wr : World} {g n o : Nat} {xs : List Value} (h : Fil w wr g n xs) (a v : Value) (ho : o = xs.length) (hn : o < n) : Fil w ((wr.setCell ⟨g, o, none⟩ a).setCell ⟨g, o, none⟩ v) g n (xs ++ [v]) := by
  have h1 : Fil w (wr.setCell ⟨g, o, none⟩ a) g n xs := by
    refine ⟨h.below.setCell (p := ⟨g, o, none⟩) h.ge a, h.ge, by simpa using h.lt, fun j hj => ?_, fun j hj => ?_, fun j => by simpa using h.free j⟩
    · rw [setO' (by omega)]; exact h.done j hj
    · by_cases e : o = j
      · subst e
        obtain ⟨u, hu⟩ := Option.isSome_iff_exists.mp (h.there o hn)
        rw [setS' hu]; rfl
      · rw [setO' e]; exact h.there j hj
  exact h1.put v ho hn

set_option maxHeartbeats 4000000 in
theorem implExprText_row (b off cap : Nat) (rs : List ER) (w : World) (hlen : rs.length ≤ 1048576) (hl : ∀ r ∈ rs, r.e.light) (hf : ∀ r ∈ rs, r.e.fits) (hcp : ∀ r ∈ rs, r.capA = r.e.allow.length) (hb : b < w.heap.size) (hr : ∀ (i : Nat) (h : i < rs.length), At5 w b (off + i * 5) rs[i]) (hok : ∀ r ∈ rs, r.ok w) :
    Calls Try.prog 14 #[.slice (some ⟨b, off, none⟩) rs.length cap] w fun e w' => e = .returned (.string (exText (exs rs))) ∧ Below w.heap.size w w' := by
  have HEL : Hid ((exs rs).length = rs.length) := exs_len rs
  have HR : Hid (∀ (i : Nat) (h : i < rs.length), At5 w b (off + i * 5) rs[i]) := hr
  have HO : Hid (∀ r ∈ rs, r.ok w) := hok
  have HIM := implExprOk_row b off cap rs w hlen hl hf hcp hb hr hok
  clear hl hf hcp hr hok
  obtain ⟨inf, z, hi, hz0, hz1, hz2⟩ := infoOf (t := 9) (n := 1) (b := 16) (by kernel_rfl)
  go_enter Try.func14, Try.ntmps14
  go_wp2_with fail
  refine HIM.mono ?_
  rintro e w1 ⟨he, hb1⟩
  rw [← spec_impl] at he
  have HB1 : Hid (Below w.heap.size w w1) := hb1
  clear hb1 HIM
  cases hE : specE (exs rs) with
  | false =>
    rw [hE] at he
    subst he
    have HX : Hid (exText (exs rs) = ⟨#[]⟩) := exText_no hE
    clear hi hz0 hz1 hz2
    go_wp2
    go_ret
    exact ⟨by rw [HX.out]; rfl, HB1.out⟩
  | true =>
    rw [hE] at he
    subst he
    have hok := okE_of hE
    have HOK : Hid (okE (exs rs)) := hok
    have h15 : rs.length ≤ 15 := by have := hok.1; rw [exs_len] at this; exact this
    have h1 : 1 ≤ rs.length := by
      have := hE
      unfold specE at this
      simp only [Bool.and_eq_true, decide_eq_true_eq, exs_len] at this
      exact this.1.1.1.1.1
    have HX : Hid (exText (exs rs) = tAt (exs rs) (rs.length - 1)) := by show _ = _; rw [exText_yes hE]; unfold tAt; rw [exs_len, if_neg (by omega)]
    have hbw1 : b < w1.heap.size := Nat.lt_of_lt_of_le hb HB1.out.size
    have HR1 : Hid (∀ (i : Nat) (h : i < rs.length), At5 w1 b (off + i * 5) rs[i]) := fun i hi => (HR.out i hi).later hb HB1.out
    have HO1 : Hid (∀ r ∈ rs, r.ok w1) := fun r hr => (HO.out r hr).below HB1.out
    clear hok hE
    go_wp2_with (at_make; refine wpList_make_full _ rfl _ _ 57 rfl w1.heap.size 9 inf z 1 Try.underlying57 hi hz0 hz1 .i64 .i64 _ _ rs.length rfl rfl rfl rfl (by rw [hz2]; omega) (by unfold maxLen; omega) (Nat.le_refl _) ?_; intro w0 hown0 hgrow0)
    have F0 : Fil w1 w0 w1.heap.size (rs.length * 1) [] := fil_made hown0 hgrow0
    clear hown0 hgrow0 hi hz0 hz1 hz2
    go_loopw [14] (fun i wr => ∃ k : Nat, k ≤ rs.length ∧ i = .int .i64 k ∧ Hid (Fil w1 wr w1.heap.size (rs.length * 1) (tUp (exs rs) k))) (fun i _ => rs.length - (intOf i).toNat)
    case atStart => exact ⟨0, Nat.zero_le _, rfl, F0⟩
    case round =>
      obtain ⟨k, hk, rfl, HFI⟩ := hrel
      have hB := HFI.out.below
      have hgl := HFI.out.lt
      by_cases hlt : k < rs.length
      · have hltE : k < (exs rs).length := by rw [exs_len]; exact hlt
        have heE : (exs rs)[k] = rs[k].e := by simp [exs]
        obtain ⟨t0, t1, t2, t3, t4⟩ := (HR1.out k hlt).later hbw1 hB
        have hnode : nodeB rs[k].e = true := by rw [← heE]; exact HOK.out.2.1 k hltE
        have hkl := kids_lt HOK.out hltE
        rw [heE] at hkl
        have hk1 : (0 : Int) ≤ (k : Int) := by omega
        have hk2 : (k : Int) < (rs.length : Int) := by omega
        obtain ⟨W, hW⟩ : ∃ W, W = wr.alloc (.cells #[.int .i64 rs[k].e.kind, .slice rs[k].adA rs[k].e.allow.length rs[k].capA, .string rs[k].e.over, .string rs[k].e.name, .slice rs[k].adK rs[k].e.kids.length rs[k].capK] 51) := ⟨_, rfl⟩
        have hal : Below wr.heap.size wr W := by rw [hW]; exact (Below.refl _ _).alloc (Nat.le_refl _) _
        have hpl : wr.heap.size < W.heap.size := by rw [hW]; simp
        have g4 : W.cell? ⟨wr.heap.size, 4, none⟩ = some (.slice rs[k].adK rs[k].e.kids.length rs[k].capK) := by rw [hW]; simp
        have HFW := HFI.out.later hal
        have HRY : Hid (Ready W w1.heap.size rs.length (txtF (exs rs) k) rs[k].e.kids) := by
          refine ⟨HFW.lt, fun m hm => ?_⟩
          obtain ⟨m0, m1⟩ := hkl m hm
          refine ⟨m0, by omega, ?_, ?_⟩
          · rw [HFW.done m.toNat (by rw [tUp_len]; exact m1), tUp_at]
            unfold tAt txtF
            rw [if_pos (by rw [exs_len]; omega), if_pos m1]
          · unfold txtF
            rw [if_pos m1, txt_eq]
            exact txt_small HOK.out _ (by rw [exs_len]; omega) true
        have HOKr : Hid (rs[k].ok W) := ((HO1.out _ (List.getElem_mem hlt)).below hB).below hal
        have HNK := nodeText_any rs[k] w1.heap.size rs.length rs.length (txtF (exs rs) k) W hnode HOKr.out HRY.out
        obtain ⟨N, hN⟩ : ∃ N, N = nodeT (txtF (exs rs) k) rs[k].e := ⟨_, rfl⟩
        have hNs : N.size ≤ 20000000000000 + 2 := by
          have := txt_small HOK.out k hltE false
          unfold txtAt at this
          rw [exAt_eq hltE, heE] at this
          have e1 : inT rs[k].e false (nodeT (txtF (exs rs) k) rs[k].e) = N := by rw [hN]; simp [inT]
          rw [e1] at this
          omega
        have HTf : Hid (txtAt (exs rs) k false = N) := by show _ = _; unfold txtAt; rw [exAt_eq hltE, heE, hN]; simp [inT]
        have HTt : Hid (txt (exs rs) k = inT rs[k].e true N) := by show _ = _; rw [txt_eq]; unfold txtAt; rw [exAt_eq hltE, heE, hN]
        obtain ⟨-, hkind⟩ := nodeB_kids hnode
        have HNO : Hid (nodeB rs[k].e = true) := hnode
        rw [← hN] at HNK
        clear hN hkl heE HFW hnode
        go_wp2_with fail
        rw [← hW]
        refine HNK.mono ?_
        rintro e w2 ⟨rfl, hb2⟩
        have hF2 := (HFI.out.later hal).later hb2
        have hgp : w1.heap.size ≠ wr.heap.size := by omega
        have c4 := kept hb2 hpl g4
        have fz := hF2.free
        obtain ⟨v0, u0⟩ := Option.isSome_iff_exists.mp (hF2.there k (by omega))
        have HF2 : Hid (Fil w1 w2 w1.heap.size (rs.length * 1) (tUp (exs rs) k)) := hF2
        clear hb2 hal HNK hW t0 t1 t2 t3 t4 hF2 g4
        by_cases hkk : 0 < rs[k].e.kids.length
        · have hkk' : (0 : Int) < (rs[k].e.kids.length : Int) := by omega
          have hk456 : ¬ rs[k].e.kind = 1 ∧ ¬ rs[k].e.kind = 2 ∧ ¬ rs[k].e.kind = 3 := by
            have := HNO.out
            unfold nodeB at this
            refine ⟨fun h => ?_, fun h => ?_, fun h => ?_⟩
            · rw [if_pos h] at this; simp at this; rw [this.2] at hkk; simp at hkk
            · rw [h] at this; simp at this; rw [this.2] at hkk; simp at hkk
            · rw [h] at this; simp at this; rw [this.2] at hkk; simp at hkk
          by_cases hlast : k < rs.length - 1
          · have hl' : (k : Int) < (rs.length : Int) - 1 := by omega
            have HTA : Hid (tAt (exs rs) k = ⟨#[40]⟩ ++ N ++ ⟨#[41]⟩) := by
              show _ = _
              unfold tAt
              rw [if_pos (by rw [exs_len]; omega), HTt.out]
              simp [inT, hk456]
            have hF3 := HF2.out.put2 (.string N) (.string (⟨#[40]⟩ ++ N ++ ⟨#[41]⟩)) (o := k) (by rw [tUp_len]) (by omega)
            rw [← HTA.out, ← tUp_succ] at hF3
            rw [HTA.out] at hF3
            have HF3 : Hid (Fil w1 ((w2.setCell ⟨w1.heap.size, k, none⟩ (.string N)).setCell ⟨w1.heap.size, k, none⟩ (.string (⟨#[40]⟩ ++ N ++ ⟨#[41]⟩))) w1.heap.size (rs.length * 1) (tUp (exs rs) (k + 1))) := hF3
            clear hF3
            go_wp2
            go_roundw
            case rel => exact ⟨k + 1, by omega, by go_num, HF3⟩
            case measure => first | (simp [intOf]; done) | (simp [intOf]; omega)
          · have hl' : ¬ (k : Int) < (rs.length : Int) - 1 := by omega
            have HTA : Hid (tAt (exs rs) k = N) := by show _ = _; unfold tAt; rw [if_neg (by rw [exs_len]; omega), HTf.out]
            have hF3 := HF2.out.put (.string N) (o := k) (by rw [tUp_len]) (by omega)
            have e3 : tUp (exs rs) k ++ [.string N] = tUp (exs rs) (k + 1) := by rw [tUp_succ, HTA.out]
            rw [e3] at hF3
            have HF3 : Hid (Fil w1 (w2.setCell ⟨w1.heap.size, k, none⟩ (.string N)) w1.heap.size (rs.length * 1) (tUp (exs rs) (k + 1))) := hF3
            clear hF3 e3
            go_wp2
            go_roundw
            case rel => exact ⟨k + 1, by omega, by go_num, HF3⟩
            case measure => first | (simp [intOf]; done) | (simp [intOf]; omega)
        · have hkk' : ¬ (0 : Int) < (rs[k].e.kids.length : Int) := by omega
          have hk123 : rs[k].e.kind = 1 ∨ rs[k].e.kind = 2 ∨ rs[k].e.kind = 3 := by
            have := HNO.out
            unfold nodeB at this
            rcases hkind with h | h | h | h | h | h
            · exact .inl h
            · exact .inr (.inl h)
            · exact .inr (.inr h)
            · rw [h] at this; simp at this; omega
            · rw [h] at this; simp at this; omega
            · rw [h] at this; simp at this; omega
          have HTA : Hid (tAt (exs rs) k = N) := by
            show _ = _
            unfold tAt
            split
            · rw [HTt.out]; rcases hk123 with h | h | h <;> simp [inT, h]
            · exact HTf.out
          have hF3 := HF2.out.put (.string N) (o := k) (by rw [tUp_len]) (by omega)
          have e3 : tUp (exs rs) k ++ [.string N] = tUp (exs rs) (k + 1) := by rw [tUp_succ, HTA.out]
          rw [e3] at hF3
          have HF3 : Hid (Fil w1 (w2.setCell ⟨w1.heap.size, k, none⟩ (.string N)) w1.heap.size (rs.length * 1) (tUp (exs rs) (k + 1))) := hF3
          clear hF3 e3 hk123
          go_wp2
          go_roundw
          case rel => exact ⟨k + 1, by omega, by go_num, HF3⟩
          case measure => first | (simp [intOf]; done) | (simp [intOf]; omega)
      · obtain rfl : k = rs.length := by omega
        have a0 := HFI.out.done (rs.length - 1) (by rw [tUp_len]; omega)
        rw [tUp_at] at a0
        have hcast : ((rs.length : Int) - 1) = ((rs.length - 1 : Nat) : Int) := by omega
        have h00 : (0 : Int) ≤ ((rs.length - 1 : Nat) : Int) := by omega
        have h01 : ((rs.length - 1 : Nat) : Int) < (rs.length : Int) := by omega
        have HBB : Hid (Below w.heap.size w wr) := HB1.out.trans (hB.mono HB1.out.size)
        go_wp2
        go_ret
        exact ⟨by rw [HX.out]; rfl, HBB.out⟩

theorem implExprText_any (ad : Option Addr) (cap : Nat) (rs : List ER) (w : World) (hlen : rs.length ≤ 1048576) (hl : ∀ r ∈ rs, r.e.light) (hf : ∀ r ∈ rs, r.e.fits) (hcp : ∀ r ∈ rs, r.capA = r.e.allow.length) (hs : SlE w ad rs) :
    Calls Try.prog 14 #[.slice ad rs.length cap] w fun e w' => e = .returned (.string (exText (exs rs))) ∧ Below w.heap.size w w' := by
  rcases hs with rfl | ⟨b, off, rfl, hb, hr, hok⟩
  · have HIM := implExprOk_any ad cap [] w hlen hl hf hcp (.inl rfl)
    go_enter Try.func14, Try.ntmps14
    go_wp2_with fail
    refine HIM.mono ?_
    rintro e w1 ⟨he, hb1⟩
    have h0 : implE (exs []) = false := rfl
    rw [h0] at he
    subst he
    have HB1 : Hid (Below w.heap.size w w1) := hb1
    clear hb1 HIM h0
    go_wp2
    go_ret
    exact ⟨rfl, HB1.out⟩
  · exact implExprText_row b off cap rs w hlen hl hf hcp hb hr hok

end Go.Proofs.Ytpmgkkbkficgpaa

/- Contracts of both functions that write a schema's text. -/
namespace Go.Proofs.Ytpmgkkbkficgpaa
open Go.ChangeShapes Go.WideShapes Go.ChangeAt Go.RowKit
open Pl
theorem step3 (o n e : ByteArray) : (((o ++ n) ++ ⟨#[32, 61, 32]⟩) ++ e) ++ ⟨#[10]⟩ = o ++ (((n ++ ⟨#[32, 61, 32]⟩) ++ e) ++ ⟨#[10]⟩) := by
  simp only [ByteArray.append_assoc]
theorem head3 (o n : ByteArray) : ((o ++ ⟨#[116, 121, 112, 101, 32]⟩) ++ n) ++ ⟨#[10]⟩ = o ++ headTx n := by
  unfold headTx; simp only [ByteArray.append_assoc]
structure Small (rs : List TR) : Prop where
  six : rs.length ≤ 6
  rels : ∀ r ∈ rs, r.rows.length ≤ 6
  name : ∀ r ∈ rs, r.name.size ≤ 12
  names : ∀ r ∈ rs, ∀ q ∈ r.rows, q.name.size ≤ 12
theorem Small.of {rs : List TR} (h : SchemaP (tys rs)) : Small rs := by
  obtain ⟨h6, hr6, -⟩ := shape_facts h.1
  have hn : ∀ r ∈ rs, nameB r.name = true ∧ relsUp (rls r.rows) r.rows.length = true := by
    intro r hr
    obtain ⟨k, hk, rfl⟩ := List.getElem_of_mem hr
    exact ⟨(shape_typ h.1 k hk).1, (shape_typ h.1 k hk).2.2⟩
  refine ⟨h6, hr6, fun r hr => nameB_small (hn r hr).1, fun r hr q hq => ?_⟩
  obtain ⟨k, hk, rfl⟩ := List.getElem_of_mem hq
  exact nameB_small (shape_rel (hn r hr).2 k hk hk).1

set_option maxRecDepth 100000 in
set_option maxHeartbeats 4000000 in
theorem l3Print_any (ad : Option Addr) (cap : Nat) (rs : List TR) (w : World) (hm : Small rs) (hs : SlT w ad rs) (hl : ∀ r ∈ rs, r.light) (hf : ∀ r ∈ rs, r.fits) :
    Calls Try.prog 54 #[.slice ad rs.length cap] w fun e w' => e = .returned (.string (schTx (tys rs))) ∧ Below w.heap.size w w' := by
  have HS : Hid (SlT w ad rs) := hs
  have HL : Hid (∀ r ∈ rs, r.light) := hl
  have HFT : Hid (∀ r ∈ rs, r.fits) := hf
  have HM : Hid (Small rs) := hm
  have h6 := hm.six
  clear hs hl hf hm
  go_enter Try.func54, Try.ntmps54
  go_wp2
  go_loopw [3, 4] (fun o i wr => ∃ (k : Nat) (out : ByteArray), k ≤ rs.length ∧ o = .string out ∧ i = .int .i64 k ∧ Hid (out = schTx (tys (rs.take k))) ∧ out.size ≤ k * 23000 ∧ Hid (Below w.heap.size w wr)) (fun _ i _ => rs.length - (intOf i).toNat)
  case atStart => exact ⟨0, ⟨#[]⟩, Nat.zero_le _, rfl, rfl, rfl, Nat.zero_le _, Below.refl _ _⟩
  case round =>
    obtain ⟨k, out, hk, rfl, rfl, HP, hz, HB⟩ := hrel
    obtain ⟨wo, rfl⟩ : ∃ x, x = wr := ⟨_, rfl⟩
    by_cases hlt : k < rs.length
    · rcases HS.out.below HB.out with rfl | ⟨b, off, rfl, hb, hr, hok⟩
      · simp at hlt
      obtain ⟨t0, t1⟩ := hr k hlt
      have HOK : Hid (rs[k].ok wo) := hok rs[k] (List.getElem_mem hlt)
      have hn12 := HM.out.name rs[k] (List.getElem_mem hlt)
      have hr6 := HM.out.rels rs[k] (List.getElem_mem hlt)
      have HN12 : Hid (∀ q ∈ rs[k].rows, q.name.size ≤ 12) := HM.out.names rs[k] (List.getElem_mem hlt)
      have HLG : Hid (rs[k].light) := HL.out _ (List.getElem_mem hlt)
      have HFE : Hid (rs[k].fits) := HFT.out _ (List.getElem_mem hlt)
      have hk1 : (0 : Int) ≤ (k : Int) := by omega
      have hk2 : (k : Int) < (rs.length : Int) := by omega
      have hrl : (rs[k].rows.length : Int) ≤ 6 := by omega
      clear hr hok
      go_wp2
      go_loopw [3, 5] (fun o i wr => ∃ (j : Nat) (o2 : ByteArray), j ≤ rs[k].rows.length ∧ o = .string o2 ∧ i = .int .i64 j ∧ Hid (o2 = (out ++ headTx rs[k].name) ++ relsTx (rls (rs[k].rows.take j))) ∧ o2.size ≤ k * 23000 + 18 + j * 3770 ∧ Hid (Below wo.heap.size wo wr)) (fun _ i _ => rs[k].rows.length - (intOf i).toNat)
      case atStart => exact ⟨0, _, Nat.zero_le _, rfl, rfl, by show _ = _; rw [head3, List.take_zero, show rls [] = [] from rfl]; simp only [relsTx, app_nil], by rw [head3, ByteArray.size_append, headTx_size]; omega, Below.refl _ _⟩
      case round =>
        obtain ⟨j, o2, hj, rfl, rfl, HI, hz2, HB2⟩ := hrel
        replace t0 := kept5 HB2.out hb t0
        replace t1 := kept5 HB2.out hb t1
        have hbw : b < wr.heap.size := Nat.lt_of_lt_of_le hb HB2.out.size
        by_cases hjl : j < rs[k].rows.length
        · rcases HOK.out.below HB2.out with hnil | ⟨b2, off2, had, hb2, hr2, hok2⟩
          · rw [hnil] at hjl; simp at hjl
          rw [had] at t1
          obtain ⟨u0, u1⟩ := hr2 j hjl
          have HOQ : Hid (rs[k].rows[j].ok wr) := hok2 rs[k].rows[j] (List.getElem_mem hjl)
          have hj1 : (0 : Int) ≤ (j : Int) := by omega
          have hj2 : (j : Int) < (rs[k].rows.length : Int) := by omega
          have hq12 := HN12.out _ (List.getElem_mem hjl)
          have HQL : Hid (rs[k].rows[j].light) := HLG.out.2 _ (List.getElem_mem hjl)
          have HQF : Hid (rs[k].rows[j].fits) := HFE.out.2.2 _ (List.getElem_mem hjl)
          obtain ⟨ex, hex⟩ : ∃ ex, ex = exText (exs rs[k].rows[j].rows) := ⟨_, rfl⟩
          have HEX : Hid (ex = exText (exs rs[k].rows[j].rows)) := hex
          have hxs : ex.size ≤ 3750 := by rw [hex]; exact exText_small _
          have q1 : (9223372036854775807 < o2.size + rs[k].rows[j].name.size) = False := by simp; omega
          have q2 : (9223372036854775807 < o2.size + rs[k].rows[j].name.size + 3) = False := by simp; omega
          have q3 : (9223372036854775807 < o2.size + rs[k].rows[j].name.size + 3 + ex.size) = False := by simp; omega
          have q4 : (9223372036854775807 < o2.size + rs[k].rows[j].name.size + 3 + ex.size + 1) = False := by simp; omega
          have HI2 : Hid ((((o2 ++ rs[k].rows[j].name) ++ ⟨#[32, 61, 32]⟩) ++ ex) ++ ⟨#[10]⟩ = (out ++ headTx rs[k].name) ++ relsTx (rls (rs[k].rows.take (j + 1)))) := by
            show _ = _
            rw [step3, rls_takeS _ _ hjl, relsTx_snoc, HI.out, hex]
            simp only [ByteArray.append_assoc, relTx]
          have hz3 : ((((o2 ++ rs[k].rows[j].name) ++ ⟨#[32, 61, 32]⟩) ++ ex) ++ ⟨#[10]⟩ : ByteArray).size ≤ k * 23000 + 18 + (j + 1) * 3770 := by
            have e1 : (⟨#[32, 61, 32]⟩ : ByteArray).size = 3 := rfl
            have e2 : (⟨#[10]⟩ : ByteArray).size = 1 := rfl
            simp only [ByteArray.size_append]; omega
          have HZ3 : Hid (((((o2 ++ rs[k].rows[j].name) ++ ⟨#[32, 61, 32]⟩) ++ ex) ++ ⟨#[10]⟩ : ByteArray).size ≤ k * 23000 + 18 + (j + 1) * 3770) := hz3
          clear hr2 hok2 had hex hz3
          go_wp2_with fail
          refine wp_region_mid0 24 (fun n => (u31 :: u32 :: u33 :: u34 :: u35 :: u36 :: u37 :: u38 :: u39 :: u40 :: u41 :: u42 :: u43 :: u44 :: u45 :: u46 :: u47 :: u48 :: u49 :: u50 :: u51 :: u52 :: u53 :: u54 :: []).getD n undef) (fun fq => { tmps := List.toArray (Value.slice (some { block := b, off := off }) rs.length cap :: undef :: Value.string { data := #[] } :: Value.string o2 :: Value.int IntKind.i64 (k : Int) :: Value.int IntKind.i64 (j : Int) :: Value.int IntKind.i64 (k : Int) :: Value.slice (some { block := b, off := off }) rs.length cap :: Value.int IntKind.i64 (rs.length : Int) :: Value.bool true :: u10 :: u11 :: Value.string out :: Value.string (out ++ { data := #[116, 121, 112, 101, 32] }) :: Value.slice (some { block := b, off := off }) rs.length cap :: Value.int IntKind.i64 (k : Int) :: Value.pointer (some { block := b, off := off + k * 2 }) :: Value.pointer (some { block := b, off := off + k * 2 }) :: Value.string rs[k].name :: Value.string (out ++ { data := #[116, 121, 112, 101, 32] } ++ rs[k].name) :: Value.string (out ++ { data := #[116, 121, 112, 101, 32] } ++ rs[k].name ++ { data := #[10] }) :: Value.int IntKind.i64 (j : Int) :: Value.slice (some { block := b, off := off }) rs.length cap :: Value.int IntKind.i64 (k : Int) :: Value.pointer (some { block := b, off := off + k * 2 }) :: Value.pointer (some { block := b, off := off + k * 2 + 1 }) :: Value.slice (some { block := b2, off := off2 }) rs[k].rows.length rs[k].cap :: Value.int IntKind.i64 (rs[k].rows.length : Int) :: Value.bool true :: u29 :: u30 :: fq 0 :: fq 1 :: fq 2 :: fq 3 :: fq 4 :: fq 5 :: fq 6 :: fq 7 :: fq 8 :: fq 9 :: fq 10 :: fq 11 :: fq 12 :: fq 13 :: fq 14 :: fq 15 :: fq 16 :: fq 17 :: fq 18 :: fq 19 :: fq 20 :: fq 21 :: fq 22 :: fq 23 :: undef :: []), defers := [] }) (fun n v _ => v = (Value.string o2 :: Value.slice (some { block := b, off := off }) rs.length cap :: Value.int IntKind.i64 (k : Int) :: Value.pointer (some ⟨b, off + k * 2, none⟩) :: Value.pointer (some ⟨b, off + k * 2 + 1, none⟩) :: Value.slice (some ⟨b2, off2, none⟩) rs[k].rows.length rs[k].cap :: Value.int IntKind.i64 (j : Int) :: Value.pointer (some ⟨b2, off2 + j * 2, none⟩) :: Value.pointer (some ⟨b2, off2 + j * 2, none⟩) :: Value.string rs[k].rows[j].name :: Value.string (o2 ++ rs[k].rows[j].name) :: Value.string ((o2 ++ rs[k].rows[j].name) ++ ⟨#[32, 61, 32]⟩) :: Value.slice (some { block := b, off := off }) rs.length cap :: Value.int IntKind.i64 (k : Int) :: Value.pointer (some ⟨b, off + k * 2, none⟩) :: Value.pointer (some ⟨b, off + k * 2 + 1, none⟩) :: Value.slice (some ⟨b2, off2, none⟩) rs[k].rows.length rs[k].cap :: Value.int IntKind.i64 (j : Int) :: Value.pointer (some ⟨b2, off2 + j * 2, none⟩) :: Value.pointer (some ⟨b2, off2 + j * 2 + 1, none⟩) :: Value.slice rs[k].rows[j].ad rs[k].rows[j].rows.length rs[k].rows[j].cap :: Value.string ex :: Value.string (((o2 ++ rs[k].rows[j].name) ++ ⟨#[32, 61, 32]⟩) ++ ex) :: Value.string ((((o2 ++ rs[k].rows[j].name) ++ ⟨#[32, 61, 32]⟩) ++ ex) ++ ⟨#[10]⟩) :: []).getD n undef) (fun w' => Below wr.heap.size wr w') (by kernel_rfl) rfl (by kernel_rfl) (by kernel_rfl) rfl (Below.refl _ _).drew ?stepS ?finS
          case stepS =>
            rintro i hi o ho fq w' hG hpre
            have HG : Hid (Below wr.heap.size wr w') := hG
            replace t1 := kept5 hG hbw t1
            replace u0 := kept5 hG hb2 u0
            replace u1 := kept5 hG hb2 u1
            have HM : Hid (∀ e ∈ o.after, Region.binds .any e = true → _) := hpre
            clear hG hpre
            have hc : i = 0 ∨ i = 1 ∨ i = 2 ∨ i = 3 ∨ i = 4 ∨ i = 5 ∨ i = 6 ∨ i = 7 ∨ i = 8 ∨ i = 9 ∨ i = 10 ∨ i = 11 ∨ i = 12 ∨ i = 13 ∨ i = 14 ∨ i = 15 ∨ i = 16 ∨ i = 17 ∨ i = 18 ∨ i = 19 ∨ i = 20 ∨ i = 21 ∨ i = 22 ∨ i = 23 := by omega
            clear hi
            rcases hc with rfl | rfl | rfl | rfl | rfl | rfl | rfl | rfl | rfl | rfl | rfl | rfl | rfl | rfl | rfl | rfl | rfl | rfl | rfl | rfl | rfl | rfl | rfl | rfl
            · obtain rfl := Option.some.inj ho
              clear ho HM
              refine wpOp_step rfl (fun K hK => ?_)
              have HK : Hid (∀ a w, _ → K a w) := hK
              clear hK
              dsimp only
              go_simp
              exact HK.out _ _ ⟨Value.string o2, by simp [upd], HG.out, rfl, fun k u hu => hu⟩
            · obtain rfl := Option.some.inj ho
              clear ho HM
              refine wpOp_step rfl (fun K hK => ?_)
              have HK : Hid (∀ a w, _ → K a w) := hK
              clear hK
              dsimp only
              go_simp
              exact HK.out _ _ ⟨Value.slice (some { block := b, off := off }) rs.length cap, by simp [upd], HG.out, rfl, fun k u hu => hu⟩
            · obtain rfl := Option.some.inj ho
              clear ho HM
              refine wpOp_step rfl (fun K hK => ?_)
              have HK : Hid (∀ a w, _ → K a w) := hK
              clear hK
              dsimp only
              go_simp
              exact HK.out _ _ ⟨Value.int IntKind.i64 (k : Int), by simp [upd], HG.out, rfl, fun k u hu => hu⟩
            · obtain rfl := Option.some.inj ho
              have e1 : fq 1 = Value.slice (some { block := b, off := off }) rs.length cap := HM.out { on := 1, ground := .data } (by simp) rfl
              have e2 : fq 2 = Value.int IntKind.i64 (k : Int) := HM.out { on := 2, ground := .data } (by simp) rfl
              clear ho HM
              refine wpOp_step rfl (fun K hK => ?_)
              have HK : Hid (∀ a w, _ → K a w) := hK
              clear hK
              simp only [e1, e2]
              go_simp
              exact HK.out _ _ ⟨Value.pointer (some ⟨b, off + k * 2, none⟩), by simp [upd, e1, e2], HG.out, rfl, fun k u hu => hu⟩
            · obtain rfl := Option.some.inj ho
              have e3 : fq 3 = Value.pointer (some ⟨b, off + k * 2, none⟩) := HM.out { on := 3, ground := .data } (by simp) rfl
              clear ho HM
              refine wpOp_step rfl (fun K hK => ?_)
              have HK : Hid (∀ a w, _ → K a w) := hK
              clear hK
              simp only [e3]
              go_simp
              exact HK.out _ _ ⟨Value.pointer (some ⟨b, off + k * 2 + 1, none⟩), by simp [upd, e3], HG.out, rfl, fun k u hu => hu⟩
            · obtain rfl := Option.some.inj ho
              have e4 : fq 4 = Value.pointer (some ⟨b, off + k * 2 + 1, none⟩) := HM.out { on := 4, ground := .data } (by simp) rfl
              clear ho HM
              refine wpOp_step rfl (fun K hK => ?_)
              have HK : Hid (∀ a w, _ → K a w) := hK
              clear hK
              simp only [e4]
              go_simp
              exact HK.out _ _ ⟨Value.slice (some ⟨b2, off2, none⟩) rs[k].rows.length rs[k].cap, by simp [upd, e4], HG.out, rfl, fun k u hu => hu⟩
            · obtain rfl := Option.some.inj ho
              clear ho HM
              refine wpOp_step rfl (fun K hK => ?_)
              have HK : Hid (∀ a w, _ → K a w) := hK
              clear hK
              dsimp only
              go_simp
              exact HK.out _ _ ⟨Value.int IntKind.i64 (j : Int), by simp [upd], HG.out, rfl, fun k u hu => hu⟩
            · obtain rfl := Option.some.inj ho
              have e5 : fq 5 = Value.slice (some ⟨b2, off2, none⟩) rs[k].rows.length rs[k].cap := HM.out { on := 5, ground := .data } (by simp) rfl
              have e6 : fq 6 = Value.int IntKind.i64 (j : Int) := HM.out { on := 6, ground := .data } (by simp) rfl
              clear ho HM
              refine wpOp_step rfl (fun K hK => ?_)
              have HK : Hid (∀ a w, _ → K a w) := hK
              clear hK
              simp only [e5, e6]
              go_simp
              exact HK.out _ _ ⟨Value.pointer (some ⟨b2, off2 + j * 2, none⟩), by simp [upd, e5, e6], HG.out, rfl, fun k u hu => hu⟩
            · obtain rfl := Option.some.inj ho
              have e7 : fq 7 = Value.pointer (some ⟨b2, off2 + j * 2, none⟩) := HM.out { on := 7, ground := .data } (by simp) rfl
              clear ho HM
              refine wpOp_step rfl (fun K hK => ?_)
              have HK : Hid (∀ a w, _ → K a w) := hK
              clear hK
              simp only [e7]
              go_simp
              exact HK.out _ _ ⟨Value.pointer (some ⟨b2, off2 + j * 2, none⟩), by simp [upd, e7], HG.out, rfl, fun k u hu => hu⟩
            · obtain rfl := Option.some.inj ho
              have e8 : fq 8 = Value.pointer (some ⟨b2, off2 + j * 2, none⟩) := HM.out { on := 8, ground := .data } (by simp) rfl
              clear ho HM
              refine wpOp_step rfl (fun K hK => ?_)
              have HK : Hid (∀ a w, _ → K a w) := hK
              clear hK
              simp only [e8]
              go_simp
              exact HK.out _ _ ⟨Value.string rs[k].rows[j].name, by simp [upd, e8], HG.out, rfl, fun k u hu => hu⟩
            · obtain rfl := Option.some.inj ho
              have e0 : fq 0 = Value.string o2 := HM.out { on := 0, ground := .data } (by simp) rfl
              have e9 : fq 9 = Value.string rs[k].rows[j].name := HM.out { on := 9, ground := .data } (by simp) rfl
              clear ho HM
              refine wpOp_step rfl (fun K hK => ?_)
              have HK : Hid (∀ a w, _ → K a w) := hK
              clear hK
              simp only [e0, e9]
              go_simp
              exact HK.out _ _ ⟨Value.string (o2 ++ rs[k].rows[j].name), by simp [upd, e0, e9], HG.out, rfl, fun k u hu => hu⟩
            · obtain rfl := Option.some.inj ho
              have e10 : fq 10 = Value.string (o2 ++ rs[k].rows[j].name) := HM.out { on := 10, ground := .data } (by simp) rfl
              clear ho HM
              refine wpOp_step rfl (fun K hK => ?_)
              have HK : Hid (∀ a w, _ → K a w) := hK
              clear hK
              simp only [e10]
              go_simp
              exact HK.out _ _ ⟨Value.string ((o2 ++ rs[k].rows[j].name) ++ ⟨#[32, 61, 32]⟩), by simp [upd, e10], HG.out, rfl, fun k u hu => hu⟩
            · obtain rfl := Option.some.inj ho
              clear ho HM
              refine wpOp_step rfl (fun K hK => ?_)
              have HK : Hid (∀ a w, _ → K a w) := hK
              clear hK
              dsimp only
              go_simp
              exact HK.out _ _ ⟨Value.slice (some { block := b, off := off }) rs.length cap, by simp [upd], HG.out, rfl, fun k u hu => hu⟩
            · obtain rfl := Option.some.inj ho
              clear ho HM
              refine wpOp_step rfl (fun K hK => ?_)
              have HK : Hid (∀ a w, _ → K a w) := hK
              clear hK
              dsimp only
              go_simp
              exact HK.out _ _ ⟨Value.int IntKind.i64 (k : Int), by simp [upd], HG.out, rfl, fun k u hu => hu⟩
            · obtain rfl := Option.some.inj ho
              have e12 : fq 12 = Value.slice (some { block := b, off := off }) rs.length cap := HM.out { on := 12, ground := .data } (by simp) rfl
              have e13 : fq 13 = Value.int IntKind.i64 (k : Int) := HM.out { on := 13, ground := .data } (by simp) rfl
              clear ho HM
              refine wpOp_step rfl (fun K hK => ?_)
              have HK : Hid (∀ a w, _ → K a w) := hK
              clear hK
              simp only [e12, e13]
              go_simp
              exact HK.out _ _ ⟨Value.pointer (some ⟨b, off + k * 2, none⟩), by simp [upd, e12, e13], HG.out, rfl, fun k u hu => hu⟩
            · obtain rfl := Option.some.inj ho
              have e14 : fq 14 = Value.pointer (some ⟨b, off + k * 2, none⟩) := HM.out { on := 14, ground := .data } (by simp) rfl
              clear ho HM
              refine wpOp_step rfl (fun K hK => ?_)
              have HK : Hid (∀ a w, _ → K a w) := hK
              clear hK
              simp only [e14]
              go_simp
              exact HK.out _ _ ⟨Value.pointer (some ⟨b, off + k * 2 + 1, none⟩), by simp [upd, e14], HG.out, rfl, fun k u hu => hu⟩
            · obtain rfl := Option.some.inj ho
              have e15 : fq 15 = Value.pointer (some ⟨b, off + k * 2 + 1, none⟩) := HM.out { on := 15, ground := .data } (by simp) rfl
              clear ho HM
              refine wpOp_step rfl (fun K hK => ?_)
              have HK : Hid (∀ a w, _ → K a w) := hK
              clear hK
              simp only [e15]
              go_simp
              exact HK.out _ _ ⟨Value.slice (some ⟨b2, off2, none⟩) rs[k].rows.length rs[k].cap, by simp [upd, e15], HG.out, rfl, fun k u hu => hu⟩
            · obtain rfl := Option.some.inj ho
              clear ho HM
              refine wpOp_step rfl (fun K hK => ?_)
              have HK : Hid (∀ a w, _ → K a w) := hK
              clear hK
              dsimp only
              go_simp
              exact HK.out _ _ ⟨Value.int IntKind.i64 (j : Int), by simp [upd], HG.out, rfl, fun k u hu => hu⟩
            · obtain rfl := Option.some.inj ho
              have e16 : fq 16 = Value.slice (some ⟨b2, off2, none⟩) rs[k].rows.length rs[k].cap := HM.out { on := 16, ground := .data } (by simp) rfl
              have e17 : fq 17 = Value.int IntKind.i64 (j : Int) := HM.out { on := 17, ground := .data } (by simp) rfl
              clear ho HM
              refine wpOp_step rfl (fun K hK => ?_)
              have HK : Hid (∀ a w, _ → K a w) := hK
              clear hK
              simp only [e16, e17]
              go_simp
              exact HK.out _ _ ⟨Value.pointer (some ⟨b2, off2 + j * 2, none⟩), by simp [upd, e16, e17], HG.out, rfl, fun k u hu => hu⟩
            · obtain rfl := Option.some.inj ho
              have e18 : fq 18 = Value.pointer (some ⟨b2, off2 + j * 2, none⟩) := HM.out { on := 18, ground := .data } (by simp) rfl
              clear ho HM
              refine wpOp_step rfl (fun K hK => ?_)
              have HK : Hid (∀ a w, _ → K a w) := hK
              clear hK
              simp only [e18]
              go_simp
              exact HK.out _ _ ⟨Value.pointer (some ⟨b2, off2 + j * 2 + 1, none⟩), by simp [upd, e18], HG.out, rfl, fun k u hu => hu⟩
            · obtain rfl := Option.some.inj ho
              have e19 : fq 19 = Value.pointer (some ⟨b2, off2 + j * 2 + 1, none⟩) := HM.out { on := 19, ground := .data } (by simp) rfl
              clear ho HM
              refine wpOp_step rfl (fun K hK => ?_)
              have HK : Hid (∀ a w, _ → K a w) := hK
              clear hK
              simp only [e19]
              go_simp
              exact HK.out _ _ ⟨Value.slice rs[k].rows[j].ad rs[k].rows[j].rows.length rs[k].rows[j].cap, by simp [upd, e19], HG.out, rfl, fun k u hu => hu⟩
            · obtain rfl := Option.some.inj ho
              have e20 : fq 20 = Value.slice rs[k].rows[j].ad rs[k].rows[j].rows.length rs[k].rows[j].cap := HM.out { on := 20, ground := .data } (by simp) rfl
              clear ho HM
              refine wpOp_step rfl (fun K hK => ?_)
              have HK : Hid (∀ a w, _ → K a w) := hK
              clear hK
              simp only [e20]
              go_simp
              refine (specExprText_any _ _ rs[k].rows[j].rows _ HQL.out.1 HQL.out.2 HQF.out.2.2 (HOQ.out.below HG.out)).mono ?_
              rintro e w5 ⟨rfl, hb5⟩
              have HG5 : Hid (Below wr.heap.size wr w5) := HG.out.trans (hb5.mono HG.out.size)
              rw [← HEX.out]
              clear hb5
              go_wp2_with fail
              exact HK.out _ _ ⟨Value.string ex, by simp [upd, e20], HG5.out, rfl, fun k u hu => hu⟩
            · obtain rfl := Option.some.inj ho
              have e11 : fq 11 = Value.string ((o2 ++ rs[k].rows[j].name) ++ ⟨#[32, 61, 32]⟩) := HM.out { on := 11, ground := .data } (by simp) rfl
              have e21 : fq 21 = Value.string ex := HM.out { on := 21, ground := .data } (by simp) rfl
              clear ho HM
              refine wpOp_step rfl (fun K hK => ?_)
              have HK : Hid (∀ a w, _ → K a w) := hK
              clear hK
              simp only [e11, e21]
              go_simp
              exact HK.out _ _ ⟨Value.string (((o2 ++ rs[k].rows[j].name) ++ ⟨#[32, 61, 32]⟩) ++ ex), by simp [upd, e11, e21], HG.out, rfl, fun k u hu => hu⟩
            · obtain rfl := Option.some.inj ho
              have e22 : fq 22 = Value.string (((o2 ++ rs[k].rows[j].name) ++ ⟨#[32, 61, 32]⟩) ++ ex) := HM.out { on := 22, ground := .data } (by simp) rfl
              clear ho HM
              refine wpOp_step rfl (fun K hK => ?_)
              have HK : Hid (∀ a w, _ → K a w) := hK
              clear hK
              simp only [e22]
              go_simp
              exact HK.out _ _ ⟨Value.string ((((o2 ++ rs[k].rows[j].name) ++ ⟨#[32, 61, 32]⟩) ++ ex) ++ ⟨#[10]⟩), by simp [upd, e22], HG.out, rfl, fun k u hu => hu⟩
          case finS =>
            rintro o ho fq w' hG hall
            have e23 : fq 23 = Value.string ((((o2 ++ rs[k].rows[j].name) ++ ⟨#[32, 61, 32]⟩) ++ ex) ++ ⟨#[10]⟩) := hall 23 (by omega)
            have HG : Hid (Below wr.heap.size wr w') := hG
            clear hG hall
            obtain rfl := Option.some.inj ho
            clear ho
            refine wpOp_step rfl (fun K hK => ?_)
            have HK : Hid (∀ a w, _ → K a w) := hK
            clear hK
            simp only [e23]
            go_simp
            refine HK.out _ _ ?_
            clear HK
            have HB3 : Hid (Below wo.heap.size wo w') := HB2.out.trans (HG.out.mono HB2.out.size)
            go_wp2
            go_roundw
            case rel => exact ⟨j + 1, _, by omega, rfl, by go_num, HI2, HZ3.out, HB3⟩
            case measure => first | (simp [intOf]; done) | (simp [intOf]; omega)
        · obtain rfl : j = rs[k].rows.length := by omega
          have HP2 : Hid (o2 = schTx (tys (rs.take (k + 1)))) := by
            show _ = _
            rw [HI.out, tys_takeS _ _ hlt, schTx_snoc, HP.out, List.take_length, ByteArray.append_assoc]
          have hz4 : o2.size ≤ (k + 1) * 23000 := by omega
          have HB3 : Hid (Below w.heap.size w wr) := HB.out.trans (HB2.out.mono HB.out.size)
          go_wp2
          go_roundw
          case rel => exact ⟨k + 1, o2, by omega, rfl, by go_num, HP2, hz4, HB3⟩
          case measure => first | (simp [intOf]; done) | (simp [intOf]; omega)
    · obtain rfl : k = rs.length := by omega
      have HN : Hid (out = schTx (tys rs)) := by show _ = _; rw [HP.out, List.take_length]
      go_wp2
      go_ret
      exact ⟨by rw [HN.out]; rfl, HB.out⟩

set_option maxRecDepth 100000 in
theorem specSchemaText_any (ad : Option Addr) (cap : Nat) (rs : List TR) (w : World) (hlen : rs.length ≤ 1048576) (hs : SlT w ad rs) (hl : ∀ r ∈ rs, r.light) (hf : ∀ r ∈ rs, r.fits) :
    Calls Try.prog 25 #[.slice ad rs.length cap] w fun e w' => e = .returned (.string (schemaTx (tys rs))) ∧ Below w.heap.size w w' := by
  have HS : Hid (SlT w ad rs) := hs
  have HL : Hid (∀ r ∈ rs, r.light) := hl
  have HFT : Hid (∀ r ∈ rs, r.fits) := hf
  clear hs hl hf
  go_enter Try.func25, Try.ntmps25
  go_wp2_with fail
  refine (specSchemaOk_any ad cap rs _ hlen HS.out HL.out HFT.out).mono ?_
  rintro e w1 ⟨rfl, hb1⟩
  have HB1 : Hid (Below w.heap.size w w1) := hb1
  clear hb1
  cases hd : schemaD (tys rs) with
  | false =>
    have HN : Hid (schemaTx (tys rs) = ⟨#[]⟩) := by show _ = _; unfold schemaTx; rw [hd]; rfl
    go_wp2
    go_ret
    exact ⟨by rw [HN.out]; rfl, HB1.out⟩
  | true =>
    have HN : Hid (schemaTx (tys rs) = schTx (tys rs)) := by show _ = _; unfold schemaTx; rw [hd]; rfl
    have HM : Hid (Small rs) := Small.of (schemaD_iff.1 hd)
    clear hd
    go_wp2_with fail
    refine (l3Print_any ad cap rs _ HM.out (HS.out.below HB1.out) HL.out HFT.out).mono ?_
    rintro e w2 ⟨rfl, hb2⟩
    have HB2 : Hid (Below w.heap.size w w2) := HB1.out.trans (hb2.mono HB1.out.size)
    clear hb2
    go_wp2
    go_ret
    exact ⟨by rw [HN.out]; rfl, HB2.out⟩

theorem Try.lays166j : Go.Proofs.Lays.n166 Try.prog Try.lays156_ren := {
  mixed := Try.lays156.mixed
  f166 := Try.lays156.f166
  f240 := Try.lays156.f240
  f276 := Try.lays156.f276
  t0 := Try.lays156.t0
  a0 := Try.lays156.a0
  z0 := Try.lays156.z0
  v0 := Try.lays156.v0
  t3 := Try.lays156.t3
  a3 := Try.lays156.a3
  z3 := Try.lays156.z3
  v3 := Try.lays156.v3
  t4 := Try.lays156.t4
  a4 := Try.lays156.a4
  z4 := Try.lays156.z4
  v4 := Try.lays156.v4
  t9 := Try.lays156.t9
  a9 := Try.lays156.a9
  z9 := Try.lays156.z9
  v9 := Try.lays156.v9
  t20 := Try.lays156.t20
  a20 := Try.lays156.a20
  z20 := Try.lays156.z20
  v20 := Try.lays156.v20
  t37 := Try.lays156.t37
  a37 := Try.lays156.a37
  z37 := Try.lays156.z37
  v37 := Try.lays156.v37
  t70 := Try.lays156.t70
  a70 := Try.lays156.a70
  z70 := Try.lays156.z70
  v70 := Try.lays156.v70
  t72 := Try.lays156.t72
  a72 := Try.lays156.a72
  z72 := Try.lays156.z72
  v72 := Try.lays156.v72
  t75 := Try.lays156.t75
  a75 := Try.lays156.a75
  z75 := Try.lays156.z75
  v75 := Try.lays156.v75
  t164 := Try.lays156.t164
  a164 := Try.lays156.a164
  z164 := Try.lays156.z164
  v164 := Try.lays156.v164 }
abbrev BldF (b : Nat) (o : ByteArray) (w : World) : Prop := Lib.IsBuilderF 92 5 b b (Lib.byteCells o.data.toList) w
theorem builder_below {T e : TypeId} {B b : Nat} {bs : List Value} {w w' : World} (h : Lib.IsBuilderF T e B b bs w) (hb : Below w.heap.size w w') : Lib.IsBuilderF T e B b bs w' := by
  have one : ∀ p, Lib.BuilderAtF T e B b p bs w → Lib.BuilderAtF T e B b p bs w' := by
    rintro p ⟨h1, v, h2, h3, h4⟩
    have hlt := Lib.BuilderAtF.lt ⟨h1, v, h2, h3, h4⟩
    refine ⟨h1, v, (hb.block b hlt).trans h2, ⟨h3.1, ?_⟩, h4⟩
    rcases h3.2 with hn | ⟨g, cap, cur, fz, rfl, hg1, hg2, hg3⟩
    · exact .inl hn
    · have hgl : g < w.heap.size := by
        rcases Nat.lt_or_ge g w.heap.size with h' | h'
        · exact h'
        · simp [Array.getElem?_eq_none h'] at hg2
      exact .inr ⟨g, cap, cur, fz, rfl, hg1, (hb.block g hgl).trans hg2, hg3⟩
  rcases h with h | h
  · exact .inl (one _ h)
  · exact .inr (one _ h)
theorem bytes_app (a b : ByteArray) : Lib.byteCells a.data.toList ++ Lib.strCells b = Lib.byteCells (a ++ b).data.toList := by
  rw [Lib.strCells_eq, ← Lib.byteCells_append]; congr 1
theorem bytes_len (a : ByteArray) : (Lib.byteCells a.data.toList).length = a.size := by rw [Lib.byteCells_length, Array.length_toList]; rfl
theorem writeString_any (b : Nat) (o s : ByteArray) (w : World) (h : BldF b o w) (hl : o.size + s.size ≤ 1000000) (hbw : b ≤ w.heap.size) :
    Calls Try.prog 55 #[.pointer (some ⟨b, 0, none⟩), .string s] w fun e w' => e = .returned (.tuple #[.int .i64 s.size, .nilIface]) ∧ BldF b (o ++ s) w' ∧ Below b w w' ∧ Lib.OthersKept 5 (some b) w w' := by
  refine (Any.Builder_WriteString_k Try.lays166j Try.Builder_Extra_156 b b _ s w h (by rw [bytes_len]; omega) hbw).mono ?_
  rintro e w' ⟨rfl, h1, h2, h3⟩
  rw [bytes_app] at h1
  exact ⟨rfl, .inr h1, h2, h3⟩
theorem bstring_any (b : Nat) (o : ByteArray) (w : World) (h : BldF b o w) (hbw : b ≤ w.heap.size) :
    Calls Try.prog 56 #[.pointer (some ⟨b, 0, none⟩)] w fun e w' => e = .returned (.string o) ∧ Below b w w' := by
  refine (Any.Builder_String_any_k Try.lays169 Try.Builder_Extra_169 b b o.data.toList w h hbw).mono ?_
  rintro e w' ⟨rfl, -, h2, -⟩
  exact ⟨rfl, h2⟩
theorem box_kept {b g : Nat} {cs : Array Value} {T : TypeId} {fz : Nat × Nat} {w w' : World} (h : w.heap[g]? = some (.cells cs T fz)) (hk : Lib.OthersKept 5 (some b) w w') (hg : g ≠ b) (hT : T ≠ 5) : w'.heap[g]? = some (.cells cs T fz) :=
  hk g _ h (fun e => hg (Option.some.inj e)) (fun c f2 e => hT (by injection e))
theorem box_below {g : Nat} {o : Obj} {w w' : World} (h : w.heap[g]? = some o) (hb : Below w.heap.size w w') : w'.heap[g]? = some o := by
  have hgl : g < w.heap.size := by
    rcases Nat.lt_or_ge g w.heap.size with h' | h'
    · exact h'
    · simp [Array.getElem?_eq_none h'] at h
  exact (hb.block g hgl).trans h
/-- what holds all along a line's writing -/
def BG (w1 : World) (g : Nat) (cs : Array Value) (o2 o3 : ByteArray) (l : Array Bool) (w : World) : Prop := Below w1.heap.size w1 w ∧ BldF w1.heap.size (if l.getD 8 false = true then o3 else o2) w ∧ w.heap[g]? = some (.cells cs 68 (0, 0))
theorem BG.next {w1 : World} {g i : Nat} {cs : Array Value} {o2 o3 : ByteArray} {l : Array Bool} {w w' : World} (h : BG w1 g cs o2 o3 l w) (hi : 8 ≠ i) (hs : 8 < l.size) (hb : Below w.heap.size w w') : BG w1 g cs o2 o3 (l.setIfInBounds i true) w' := by
  refine ⟨h.1.trans (hb.mono h.1.size), ?_, box_below h.2.2 hb⟩
  have e : (l.setIfInBounds i true).getD 8 false = l.getD 8 false := by simp [Array.getD, hs, Ne.symm hi]
  rw [e]
  exact builder_below h.2.1 hb
theorem BG.line {w1 : World} {g : Nat} {cs : Array Value} {o2 o3 : ByteArray} {l : Array Bool} {w : World} (h : BG w1 g cs o2 o3 l w) (hs : 8 < l.size) (hl : l.getD 8 true = false) : BldF w1.heap.size o2 w := by
  have e : l.getD 8 false = false := by simp [Array.getD, hs] at hl ⊢; exact hl
  have := h.2.1
  rw [e] at this
  exact this
theorem BG.done {w1 : World} {g : Nat} {cs : Array Value} {o2 o3 : ByteArray} {l : Array Bool} {w w' : World} (h : BG w1 g cs o2 o3 l w) (hs : 8 < l.size) (hb : Below w1.heap.size w w') (hk : Lib.OthersKept 5 (some w1.heap.size) w w') (hg : g ≠ w1.heap.size) (hB : BldF w1.heap.size o3 w') : BG w1 g cs o2 o3 (l.setIfInBounds 8 true) w' := by
  refine ⟨h.1.trans hb, ?_, box_kept h.2.2 hk hg (by decide)⟩
  have e : (l.setIfInBounds 8 true).getD 8 false = true := by simp [Array.getD, hs]
  rw [e, if_pos rfl]
  exact hB
theorem ret_str2 {a b : ByteArray} (h : a = b) : Ending.returned (.string a) = .returned (.string b) := by rw [h]

set_option maxRecDepth 100000 in
set_option maxHeartbeats 4000000 in
theorem implSchemaText_any (ad : Option Addr) (cap : Nat) (rs : List TR) (w : World) (hlen : rs.length ≤ 1048576) (hs : SlT w ad rs) (hl : ∀ r ∈ rs, r.light) (hf : ∀ r ∈ rs, r.fits) (hcp : ∀ r ∈ rs, r.caps) :
    Calls Try.prog 26 #[.slice ad rs.length cap] w fun e w' => e = .returned (.string (schemaTx (tys rs))) ∧ Below w.heap.size w w' := by
  have HS : Hid (SlT w ad rs) := hs
  have HL : Hid (∀ r ∈ rs, r.light) := hl
  have HFT : Hid (∀ r ∈ rs, r.fits) := hf
  have HCP : Hid (∀ r ∈ rs, r.caps) := hcp
  clear hs hl hf hcp
  go_enter Try.func26, Try.ntmps26
  go_wp2_with fail
  refine (implSchemaOk_any ad cap rs _ hlen HS.out HL.out HFT.out HCP.out).mono ?_
  rintro e w1 ⟨rfl, hb1⟩
  have HB1 : Hid (Below w.heap.size w w1) := hb1
  clear hb1
  cases hd : schemaD (tys rs) with
  | false =>
    have HN : Hid (schemaTx (tys rs) = ⟨#[]⟩) := by show _ = _; unfold schemaTx; rw [hd]; rfl
    go_wp2
    go_ret
    exact ⟨by rw [HN.out]; rfl, HB1.out⟩
  | true =>
    have HN : Hid (schemaTx (tys rs) = schTx (tys rs)) := by show _ = _; unfold schemaTx; rw [hd]; rfl
    have hm := Small.of (schemaD_iff.1 hd)
    have HM : Hid (Small rs) := hm
    have h6 := hm.six
    clear hd hm
    obtain ⟨W1, hW1⟩ : ∃ W1, W1 = w1.alloc (.cells #[.pointer none, .slice none 0 0] 92) := ⟨_, rfl⟩
    have HA1 : Hid (Below w1.heap.size w1 W1) := by show Below _ _ _; rw [hW1]; exact (Below.refl _ _).alloc (Nat.le_refl _) _
    have HBD : Hid (BldF w1.heap.size ⟨#[]⟩ W1) :=
      .inl ⟨Nat.le_refl _, .slice none 0 0, by rw [hW1]; exact (Go.MapKept.heap_alloc w1 _).1, ⟨by simp [Lib.byteCells], .inl ⟨rfl, by simp [Lib.byteCells]⟩⟩, by simp [Value.ownBlock]⟩
    go_wp2_with fail
    go_wp2
    rw [← hW1]
    clear hW1
    go_loopw [13] (fun i wr => ∃ (k : Nat) (out : ByteArray), k ≤ rs.length ∧ i = .int .i64 k ∧ Hid (out = schTx (tys (rs.take k))) ∧ out.size ≤ k * 23000 ∧ Hid (Below w1.heap.size w1 wr) ∧ Hid (BldF w1.heap.size out wr)) (fun i _ => rs.length - (intOf i).toNat)
    case atStart => exact ⟨0, ⟨#[]⟩, Nat.zero_le _, rfl, rfl, Nat.zero_le _, HA1, HBD⟩
    case round =>
      clear HBD HA1
      obtain ⟨k, out, hk, rfl, HP, hz, HB, HBD⟩ := hrel
      have HBW : Hid (Below w.heap.size w wr) := HB1.out.trans (HB.out.mono HB1.out.size)
      by_cases hlt : k < rs.length
      · rcases HS.out.below HBW.out with hnil | ⟨b, off, hadr, hb, hr, hok⟩
        · rw [hnil] at hlt; simp at hlt
        obtain ⟨t0, t1⟩ := hr k hlt
        have HOK : Hid (rs[k].ok wr) := hok rs[k] (List.getElem_mem hlt)
        have hn12 := HM.out.name rs[k] (List.getElem_mem hlt)
        have hr6 := HM.out.rels rs[k] (List.getElem_mem hlt)
        have HN12 : Hid (∀ q ∈ rs[k].rows, q.name.size ≤ 12) := HM.out.names rs[k] (List.getElem_mem hlt)
        have HLG : Hid (rs[k].light) := HL.out _ (List.getElem_mem hlt)
        have HFE : Hid (rs[k].fits) := HFT.out _ (List.getElem_mem hlt)
        have HCE : Hid (rs[k].caps) := HCP.out _ (List.getElem_mem hlt)
        have hk1 : (0 : Int) ≤ (k : Int) := by omega
        have hk2 : (k : Int) < (rs.length : Int) := by omega
        have hrl : (rs[k].rows.length : Int) ≤ 6 := by omega
        obtain ⟨W2, hW2⟩ : ∃ W2, W2 = wr.alloc (.cells #[.string rs[k].name, .slice rs[k].ad rs[k].rows.length rs[k].cap] 66) := ⟨_, rfl⟩
        have hal : Below wr.heap.size wr W2 := by rw [hW2]; exact (Below.refl _ _).alloc (Nat.le_refl _) _
        have HAL : Hid (Below wr.heap.size wr W2) := hal
        have g0 : W2.cell? ⟨wr.heap.size, 0, none⟩ = some (.string rs[k].name) := by rw [hW2]; simp
        have g1 : W2.cell? ⟨wr.heap.size, 1, none⟩ = some (.slice rs[k].ad rs[k].rows.length rs[k].cap) := by rw [hW2]; simp
        have HW2 : Hid (W2.heap[wr.heap.size]? = some (.cells #[.string rs[k].name, .slice rs[k].ad rs[k].rows.length rs[k].cap] 66 (0, 0))) := by show _ = _; rw [hW2]; exact (Go.MapKept.heap_alloc wr _).1
        clear hr hok hal
        rw [hadr]
        go_wp2_with fail
        rw [← hW2]
        clear hW2
        have HBD2 : Hid (BldF w1.heap.size out W2) := builder_below HBD.out HAL.out
        have hgw : w1.heap.size ≤ W2.heap.size := Nat.le_trans HB.out.size HAL.out.size
        have HGT : Hid (w1.heap.size < wr.heap.size) := by
          rcases HBD.out with h | h
          · exact h.lt
          · exact h.lt
        refine (writeString_any w1.heap.size out _ _ HBD2.out (by
          have := headTx_size rs[k].name
          unfold headTx at this
          rw [this]; omega) hgw).mono ?_
        rintro e w3 ⟨rfl, hbd3, hb3, hk3⟩
        have HBD3 : Hid (BldF w1.heap.size (out ++ headTx rs[k].name) w3) := hbd3
        have HB3 : Hid (Below w1.heap.size w1 w3) := (HB.out.trans (HAL.out.mono HB.out.size)).trans hb3
        have hx := box_kept HW2.out hk3 (Nat.ne_of_gt HGT.out) (by decide)
        replace g0 : w3.cell? ⟨wr.heap.size, 0, none⟩ = some (.string rs[k].name) := by rw [Lib.cell_of_heap hx]; rfl
        replace g1 : w3.cell? ⟨wr.heap.size, 1, none⟩ = some (.slice rs[k].ad rs[k].rows.length rs[k].cap) := by rw [Lib.cell_of_heap hx]; rfl
        have HOK3 : Hid (rs[k].ok w3) := (HS.out.below (HB1.out.trans (HB3.out.mono HB1.out.size))).mem (List.getElem_mem hlt)
        clear hbd3 hb3 hk3 hx HW2 HBD2 HBD HAL hgw t0 t1 HOK
        obtain ⟨wo, rfl⟩ : ∃ x, x = wr := ⟨_, rfl⟩
        go_wp2
        go_loopw [25] (fun i wr => ∃ (j : Nat) (o2 : ByteArray), j ≤ rs[k].rows.length ∧ i = .int .i64 j ∧ Hid (o2 = (out ++ headTx rs[k].name) ++ relsTx (rls (rs[k].rows.take j))) ∧ o2.size ≤ k * 23000 + 18 + j * 3770 ∧ Hid (Below w1.heap.size w1 wr) ∧ Hid (BldF w1.heap.size o2 wr)) (fun i _ => rs[k].rows.length - (intOf i).toNat)
        case atStart => exact ⟨0, out ++ headTx rs[k].name, Nat.zero_le _, rfl, by show _ = _; rw [List.take_zero, show rls [] = [] from rfl]; simp only [relsTx, app_nil], by rw [ByteArray.size_append, headTx_size]; omega, HB3, HBD3⟩
        case round =>
          clear HB3 HBD3 HOK3 g0 g1
          obtain ⟨j, o2, hj, rfl, HI, hz2, HB3, HBD3⟩ := hrel
          have HBW3 : Hid (Below w.heap.size w wr) := HB1.out.trans (HB3.out.mono HB1.out.size)
          by_cases hjl : j < rs[k].rows.length
          · have hok3 : rs[k].ok wr := (HS.out.below HBW3.out).mem (List.getElem_mem hlt)
            rcases hok3 with hnil | ⟨b2, off2, had, hb2, hr2, hok2⟩
            · rw [hnil] at hjl; simp at hjl
            obtain ⟨u0, u1⟩ := hr2 j hjl
            have hj1 : (0 : Int) ≤ (j : Int) := by omega
            have hj2 : (j : Int) < (rs[k].rows.length : Int) := by omega
            have hq12 := HN12.out _ (List.getElem_mem hjl)
            have HQL : Hid (rs[k].rows[j].light) := HLG.out.2 _ (List.getElem_mem hjl)
            have HQF : Hid (rs[k].rows[j].fits) := HFE.out.2.2 _ (List.getElem_mem hjl)
            have HQC : Hid (rs[k].rows[j].caps) := HCE.out.2 _ (List.getElem_mem hjl)
            obtain ⟨ex, hex⟩ : ∃ ex, ex = exText (exs rs[k].rows[j].rows) := ⟨_, rfl⟩
            have HEX : Hid (ex = exText (exs rs[k].rows[j].rows)) := hex
            have hxs : ex.size ≤ 3750 := by rw [hex]; exact exText_small _
            have q2 : (9223372036854775807 < rs[k].rows[j].name.size + 3) = False := by simp; omega
            have q3 : (9223372036854775807 < rs[k].rows[j].name.size + 3 + ex.size) = False := by simp; omega
            have q4 : (9223372036854775807 < rs[k].rows[j].name.size + 3 + ex.size + 1) = False := by simp; omega
            have hls : ((((rs[k].rows[j].name) ++ ⟨#[32, 61, 32]⟩) ++ ex) ++ ⟨#[10]⟩ : ByteArray).size ≤ 3770 := by
              have e1 : (⟨#[32, 61, 32]⟩ : ByteArray).size = 3 := rfl
              have e2 : (⟨#[10]⟩ : ByteArray).size = 1 := rfl
              simp only [ByteArray.size_append]; omega
            have HLS : Hid (((((rs[k].rows[j].name) ++ ⟨#[32, 61, 32]⟩) ++ ex) ++ ⟨#[10]⟩ : ByteArray).size ≤ 3770) := hls
            have HI2 : Hid (o2 ++ ((((rs[k].rows[j].name) ++ ⟨#[32, 61, 32]⟩) ++ ex) ++ ⟨#[10]⟩) = (out ++ headTx rs[k].name) ++ relsTx (rls (rs[k].rows.take (j + 1)))) := by
              show _ = _
              rw [rls_takeS _ _ hjl, relsTx_snoc, HI.out, hex]
              simp only [ByteArray.append_assoc, relTx]
            have HZ3 : Hid ((o2 ++ ((((rs[k].rows[j].name) ++ ⟨#[32, 61, 32]⟩) ++ ex) ++ ⟨#[10]⟩)).size ≤ k * 23000 + 18 + (j + 1) * 3770) := by
              show _ ≤ _
              rw [ByteArray.size_append]; omega
            have HGT3 : Hid (w1.heap.size < wr.heap.size) := by
              rcases HBD3.out with h | h
              · exact h.lt
              · exact h.lt
            obtain ⟨W5, hW5⟩ : ∃ W5, W5 = wr.alloc (.cells #[.string rs[k].rows[j].name, .slice rs[k].rows[j].ad rs[k].rows[j].rows.length rs[k].rows[j].cap] 68) := ⟨_, rfl⟩
            have hal5 : Below wr.heap.size wr W5 := by rw [hW5]; exact (Below.refl _ _).alloc (Nat.le_refl _) _
            have HG0 : Hid (BG w1 wr.heap.size #[.string rs[k].rows[j].name, .slice rs[k].rows[j].ad rs[k].rows[j].rows.length rs[k].rows[j].cap] o2 (o2 ++ ((((rs[k].rows[j].name) ++ ⟨#[32, 61, 32]⟩) ++ ex) ++ ⟨#[10]⟩)) (Array.replicate 9 false) W5.drew) := by
              have hd : Below wr.heap.size wr W5.drew := hal5.drew
              refine ⟨HB3.out.trans (hd.mono HB3.out.size), ?_, ?_⟩
              · exact builder_below HBD3.out hd
              · show W5.heap[wr.heap.size]? = _
                rw [hW5]; exact (Go.MapKept.heap_alloc wr _).1
            clear hr2 hok2 hex hls hal5
            rw [had]
            go_wp2_with fail
            rw [← hW5]
            clear hW5
            refine wp_region_allL 9 (fun n => (u29 :: u30 :: u31 :: u32 :: u33 :: u34 :: u35 :: u36 :: u37 :: []).getD n undef) (fun fq => { tmps := List.toArray (Value.slice (some { block := b, off := off }) rs.length cap :: undef :: Value.string { data := #[] } :: Value.pointer (some { block := w1.heap.size, off := 0 }) :: undef :: Value.pointer (some { block := wo.heap.size, off := 0 }) :: undef :: Value.pointer (some { block := wr.heap.size, off := 0 }) :: Value.slice (some { block := b, off := off }) rs.length cap :: Value.bool true :: Value.bool false :: Value.slice (some { block := b, off := off }) rs.length cap :: Value.int IntKind.i64 (rs.length : Int) :: Value.int IntKind.i64 (k : Int) :: Value.bool true :: Value.pointer (some { block := b, off := off + k * 2 }) :: Value.agg #[Value.string rs[k].name, Value.slice (some { block := b2, off := off2 }) rs[k].rows.length rs[k].cap] :: Value.pointer (some { block := wo.heap.size, off := 0 }) :: Value.string rs[k].name :: Value.string ({ data := #[116, 121, 112, 101, 32] } ++ rs[k].name) :: Value.string ({ data := #[116, 121, 112, 101, 32] } ++ rs[k].name ++ { data := #[10] }) :: Value.tuple #[Value.int IntKind.i64 (5 + (rs[k].name.size : Int) + 1), Value.nilIface] :: Value.pointer (some { block := wo.heap.size, off := 1 }) :: Value.slice (some { block := b2, off := off2 }) rs[k].rows.length rs[k].cap :: Value.int IntKind.i64 (rs[k].rows.length : Int) :: Value.int IntKind.i64 (j : Int) :: Value.bool true :: Value.pointer (some { block := b2, off := off2 + j * 2 }) :: Value.agg #[Value.string rs[k].rows[j].name, Value.slice rs[k].rows[j].ad rs[k].rows[j].rows.length rs[k].rows[j].cap] :: fq 0 :: fq 1 :: fq 2 :: fq 3 :: fq 4 :: fq 5 :: fq 6 :: fq 7 :: fq 8 :: u38 :: u39 :: undef :: []), defers := [] }) (fun n v _ => v = (Value.pointer (some ⟨wr.heap.size, 0, none⟩) :: Value.string rs[k].rows[j].name :: Value.string (rs[k].rows[j].name ++ ⟨#[32, 61, 32]⟩) :: Value.pointer (some ⟨wr.heap.size, 1, none⟩) :: Value.slice rs[k].rows[j].ad rs[k].rows[j].rows.length rs[k].rows[j].cap :: Value.string ex :: Value.string ((rs[k].rows[j].name ++ ⟨#[32, 61, 32]⟩) ++ ex) :: Value.string (((rs[k].rows[j].name ++ ⟨#[32, 61, 32]⟩) ++ ex) ++ ⟨#[10]⟩) :: Value.tuple #[Value.int .i64 ((rs[k].rows[j].name.size : Int) + 3 + (ex.size : Int) + 1), Value.nilIface] :: []).getD n undef) (fun listed w' => BG w1 wr.heap.size #[.string rs[k].rows[j].name, .slice rs[k].rows[j].ad rs[k].rows[j].rows.length rs[k].rows[j].cap] o2 (o2 ++ (((rs[k].rows[j].name ++ ⟨#[32, 61, 32]⟩) ++ ex) ++ ⟨#[10]⟩)) listed w') (by kernel_rfl) rfl (by kernel_rfl) rfl HG0.out ?stepI ?finI
            case stepI =>
              rintro i hi o ho listed fq w' hsz hli hG hpre
              have HG : Hid (BG w1 wr.heap.size #[.string rs[k].rows[j].name, .slice rs[k].rows[j].ad rs[k].rows[j].rows.length rs[k].rows[j].cap] o2 (o2 ++ (((rs[k].rows[j].name ++ ⟨#[32, 61, 32]⟩) ++ ex) ++ ⟨#[10]⟩)) listed w') := hG
              have HLI : Hid (listed.getD i true = false) := hli
              have g0 : w'.cell? ⟨wr.heap.size, 0, none⟩ = some (.string rs[k].rows[j].name) := by rw [Lib.cell_of_heap hG.2.2]; rfl
              have g1 : w'.cell? ⟨wr.heap.size, 1, none⟩ = some (.slice rs[k].rows[j].ad rs[k].rows[j].rows.length rs[k].rows[j].cap) := by rw [Lib.cell_of_heap hG.2.2]; rfl
              have HM : Hid (∀ e ∈ o.after, Region.binds .any e = true → _) := hpre
              clear hG hpre hli
              have hc : i = 0 ∨ i = 1 ∨ i = 2 ∨ i = 3 ∨ i = 4 ∨ i = 5 ∨ i = 6 ∨ i = 7 ∨ i = 8 := by omega
              clear hi
              rcases hc with rfl | rfl | rfl | rfl | rfl | rfl | rfl | rfl | rfl
              · obtain rfl := Option.some.inj ho
                clear ho HM
                refine wpOp_step rfl (fun K hK => ?_)
                have HK : Hid (∀ a w, _ → K a w) := hK
                clear hK
                dsimp only
                go_simp
                exact HK.out _ _ ⟨Value.pointer (some ⟨wr.heap.size, 0, none⟩), by simp [upd], HG.out.next (by decide) (by omega) (Below.refl _ _), rfl, fun k u hu => hu⟩
              · obtain rfl := Option.some.inj ho
                have e0 : fq 0 = Value.pointer (some ⟨wr.heap.size, 0, none⟩) := HM.out { on := 0, ground := .data } (by simp) rfl
                clear ho HM
                refine wpOp_step rfl (fun K hK => ?_)
                have HK : Hid (∀ a w, _ → K a w) := hK
                clear hK
                simp only [e0]
                go_simp
                exact HK.out _ _ ⟨Value.string rs[k].rows[j].name, by simp [upd, e0], HG.out.next (by decide) (by omega) (Below.refl _ _), rfl, fun k u hu => hu⟩
              · obtain rfl := Option.some.inj ho
                have e1 : fq 1 = Value.string rs[k].rows[j].name := HM.out { on := 1, ground := .data } (by simp) rfl
                clear ho HM
                refine wpOp_step rfl (fun K hK => ?_)
                have HK : Hid (∀ a w, _ → K a w) := hK
                clear hK
                simp only [e1]
                go_simp
                exact HK.out _ _ ⟨Value.string (rs[k].rows[j].name ++ ⟨#[32, 61, 32]⟩), by simp [upd, e1], HG.out.next (by decide) (by omega) (Below.refl _ _), rfl, fun k u hu => hu⟩
              · obtain rfl := Option.some.inj ho
                clear ho HM
                refine wpOp_step rfl (fun K hK => ?_)
                have HK : Hid (∀ a w, _ → K a w) := hK
                clear hK
                dsimp only
                go_simp
                exact HK.out _ _ ⟨Value.pointer (some ⟨wr.heap.size, 1, none⟩), by simp [upd], HG.out.next (by decide) (by omega) (Below.refl _ _), rfl, fun k u hu => hu⟩
              · obtain rfl := Option.some.inj ho
                have e3 : fq 3 = Value.pointer (some ⟨wr.heap.size, 1, none⟩) := HM.out { on := 3, ground := .data } (by simp) rfl
                clear ho HM
                refine wpOp_step rfl (fun K hK => ?_)
                have HK : Hid (∀ a w, _ → K a w) := hK
                clear hK
                simp only [e3]
                go_simp
                exact HK.out _ _ ⟨Value.slice rs[k].rows[j].ad rs[k].rows[j].rows.length rs[k].rows[j].cap, by simp [upd, e3], HG.out.next (by decide) (by omega) (Below.refl _ _), rfl, fun k u hu => hu⟩
              · obtain rfl := Option.some.inj ho
                have e4 : fq 4 = Value.slice rs[k].rows[j].ad rs[k].rows[j].rows.length rs[k].rows[j].cap := HM.out { on := 4, ground := .data } (by simp) rfl
                clear ho HM
                refine wpOp_step rfl (fun K hK => ?_)
                have HK : Hid (∀ a w, _ → K a w) := hK
                clear hK
                simp only [e4]
                go_simp
                refine (implExprText_any _ _ rs[k].rows[j].rows _ HQL.out.1 HQL.out.2 HQF.out.2.2 HQC.out.2 (SlR.mem (SlT.mem (HS.out.below (HB1.out.trans (HG.out.1.mono HB1.out.size))) (List.getElem_mem hlt)) (List.getElem_mem hjl))).mono ?_
                rintro e w5 ⟨rfl, hb5⟩
                have HG5 : Hid (BG w1 wr.heap.size #[.string rs[k].rows[j].name, .slice rs[k].rows[j].ad rs[k].rows[j].rows.length rs[k].rows[j].cap] o2 (o2 ++ (((rs[k].rows[j].name ++ ⟨#[32, 61, 32]⟩) ++ ex) ++ ⟨#[10]⟩)) (listed.setIfInBounds 5 true) w5) := HG.out.next (i := 5) (by decide) (by omega) hb5
                rw [← HEX.out]
                clear hb5
                go_wp2_with fail
                exact HK.out _ _ ⟨Value.string ex, by simp [upd, e4], HG5.out, rfl, fun k u hu => hu⟩
              · obtain rfl := Option.some.inj ho
                have e2 : fq 2 = Value.string (rs[k].rows[j].name ++ ⟨#[32, 61, 32]⟩) := HM.out { on := 2, ground := .data } (by simp) rfl
                have e5 : fq 5 = Value.string ex := HM.out { on := 5, ground := .data } (by simp) rfl
                clear ho HM
                refine wpOp_step rfl (fun K hK => ?_)
                have HK : Hid (∀ a w, _ → K a w) := hK
                clear hK
                simp only [e2, e5]
                go_simp
                exact HK.out _ _ ⟨Value.string ((rs[k].rows[j].name ++ ⟨#[32, 61, 32]⟩) ++ ex), by simp [upd, e2, e5], HG.out.next (by decide) (by omega) (Below.refl _ _), rfl, fun k u hu => hu⟩
              · obtain rfl := Option.some.inj ho
                have e6 : fq 6 = Value.string ((rs[k].rows[j].name ++ ⟨#[32, 61, 32]⟩) ++ ex) := HM.out { on := 6, ground := .data } (by simp) rfl
                clear ho HM
                refine wpOp_step rfl (fun K hK => ?_)
                have HK : Hid (∀ a w, _ → K a w) := hK
                clear hK
                simp only [e6]
                go_simp
                exact HK.out _ _ ⟨Value.string (((rs[k].rows[j].name ++ ⟨#[32, 61, 32]⟩) ++ ex) ++ ⟨#[10]⟩), by simp [upd, e6], HG.out.next (by decide) (by omega) (Below.refl _ _), rfl, fun k u hu => hu⟩
              · obtain rfl := Option.some.inj ho
                have e7 : fq 7 = Value.string (((rs[k].rows[j].name ++ ⟨#[32, 61, 32]⟩) ++ ex) ++ ⟨#[10]⟩) := HM.out { on := 7, ground := .data } (by simp) rfl
                clear ho HM
                refine wpOp_step rfl (fun K hK => ?_)
                have HK : Hid (∀ a w, _ → K a w) := hK
                clear hK
                simp only [e7]
                go_simp
                refine (writeString_any w1.heap.size o2 _ _ (HG.out.line (by omega) HLI.out) (by have := HLS.out; omega) HG.out.1.size).mono ?_
                rintro e w5 ⟨rfl, hbd5, hb5, hk5⟩
                have HG5 : Hid (BG w1 wr.heap.size #[.string rs[k].rows[j].name, .slice rs[k].rows[j].ad rs[k].rows[j].rows.length rs[k].rows[j].cap] o2 (o2 ++ (((rs[k].rows[j].name ++ ⟨#[32, 61, 32]⟩) ++ ex) ++ ⟨#[10]⟩)) (listed.setIfInBounds 8 true) w5) := HG.out.done (by omega) hb5 hk5 (Nat.ne_of_gt HGT3.out) hbd5
                clear hbd5 hb5 hk5
                go_wp2_with fail
                exact HK.out _ _ ⟨Value.tuple #[Value.int .i64 ((rs[k].rows[j].name.size : Int) + 3 + (ex.size : Int) + 1), Value.nilIface], by simp [upd, e7], HG5.out, rfl, fun k u hu => hu⟩
            case finI =>
              rintro listed fq w' hll hG hall
              have e8 := hll 8 (by omega)
              have HBD4 : Hid (BldF w1.heap.size (o2 ++ (((rs[k].rows[j].name ++ ⟨#[32, 61, 32]⟩) ++ ex) ++ ⟨#[10]⟩)) w') := by have := hG.2.1; rw [e8, if_pos rfl] at this; exact this
              have HB4 : Hid (Below w1.heap.size w1 w') := hG.1
              clear hG hall hll e8
              go_wp2
              go_roundw
              case rel => exact ⟨j + 1, _, by omega, by go_num, HI2, HZ3.out, HB4, HBD4⟩
              case measure => first | (simp [intOf]; done) | (simp [intOf]; omega)
          · obtain rfl : j = rs[k].rows.length := by omega
            have HP2 : Hid (o2 = schTx (tys (rs.take (k + 1)))) := by
              show _ = _
              rw [HI.out, tys_takeS _ _ hlt, schTx_snoc, HP.out, List.take_length, ByteArray.append_assoc]
            have hz4 : o2.size ≤ (k + 1) * 23000 := by omega
            go_wp2
            go_roundw
            case rel => exact ⟨k + 1, o2, by omega, by go_num, HP2, hz4, HB3, HBD3⟩
            case measure => first | (simp [intOf]; done) | (simp [intOf]; omega)
      · obtain rfl : k = rs.length := by omega
        have HN2 : Hid (out = schTx (tys rs)) := by show _ = _; rw [HP.out, List.take_length]
        go_wp2_with fail
        refine (bstring_any w1.heap.size out _ HBD.out HB.out.size).mono ?_
        rintro e w3 ⟨rfl, hb3⟩
        have HB3 : Hid (Below w.heap.size w w3) := HBW.out.trans (hb3.mono HB1.out.size)
        clear hb3
        go_wp2
        go_ret
        exact ⟨by rw [HN.out, ← HN2.out]; rfl, HB3.out⟩
end Go.Proofs.Ytpmgkkbkficgpaa
