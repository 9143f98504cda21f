/- A right expression comes back from its text: the program's reader, told plainly. -/
import Derived.Test.YtjmbgpdbnffkpaaPlainIRd4
namespace Go.Proofs.Ytjmbgpdbnffkpaa
open Pl

def tailB (sep : ByteArray) : List ByteArray → ByteArray
  | [] => ⟨#[]⟩
  | y :: ys => sep ++ y ++ tailB sep ys
theorem tailB_data (sep : ByteArray) : ∀ xs : List ByteArray, (tailB sep xs).data.toList = Lib.joinTail sep.data.toList (xs.map (·.data.toList))
  | [] => by simp [tailB, Lib.joinTail]
  | y :: ys => by
    rw [tailB, ByteArray.data_append, ByteArray.data_append, Array.toList_append, Array.toList_append, tailB_data sep ys]
    simp [Lib.joinTail]
theorem joinB_cons (sep x : ByteArray) (xs : List ByteArray) : joinB sep (x :: xs) = x ++ tailB sep xs := by
  apply ext_data'
  rw [ByteArray.data_append, Array.toList_append, tailB_data]
  unfold joinB
  rw [List.map_cons, Lib.join_cons]
/-- a text stands at a place -/
def SegAt (s : ByteArray) (p : Nat) (t : ByteArray) : Prop := p + t.size ≤ s.size ∧ s.extract p (p + t.size) = t
theorem seg_data {s : ByteArray} {p : Nat} {t : ByteArray} (h : SegAt s p t) : s.data.toList.drop p = t.data.toList ++ s.data.toList.drop (p + t.size) := by
  have h1 := h.2
  have h2 : (s.extract p (p + t.size)).data.toList = t.data.toList := by rw [h1]
  rw [ex_data, List.drop_take] at h2
  have h3 : p + t.size - p = t.size := by omega
  rw [h3] at h2
  rw [← h2, ← List.drop_drop]
  exact (List.take_append_drop _ _).symm
theorem seg_of {s : ByteArray} {p : Nat} {t : ByteArray} (hp : p + t.size ≤ s.size) {r : List UInt8} (h : s.data.toList.drop p = t.data.toList ++ r) : SegAt s p t := by
  refine ⟨hp, ext_data' ?_⟩
  rw [ex_data, List.drop_take, h, show p + t.size - p = t.data.toList.length by simp]
  simp
theorem seg_app {s : ByteArray} {p : Nat} {a b : ByteArray} (h : SegAt s p (a ++ b)) : SegAt s p a ∧ SegAt s (p + a.size) b := by
  have h1 := h.1
  rw [ByteArray.size_append] at h1
  have h2 := seg_data h
  rw [ByteArray.data_append, Array.toList_append, List.append_assoc] at h2
  have ha : SegAt s p a := seg_of (by omega) h2
  refine ⟨ha, ?_⟩
  have h3 := seg_data ha
  rw [h2] at h3
  have h4 := List.append_cancel_left h3
  exact seg_of (by omega) h4.symm
theorem seg_lit {s : ByteArray} {p : Nat} {t : ByteArray} (h : SegAt s p t) : litAt s t p = true := by
  unfold litAt
  rw [decide_eq_true h.1, h.2]
  simp
theorem seg_head {s : ByteArray} {p : Nat} {t : ByteArray} (h : SegAt s p t) {c : UInt8} (hc : t.data.toList.head? = some c) : s.data.toList[p]? = some c := lit_head (seg_lit h) hc
theorem lit_off {s u : ByteArray} {p : Nat} {c d : UInt8} (h : s.data.toList[p]? = some c) (hu : u.data.toList.head? = some d) (hn : c ≠ d) : litAt s u p = false := by
  cases e : litAt s u p with
  | false => rfl
  | true =>
    have h1 := lit_head e hu
    rw [h] at h1
    injection h1 with h1
    exact absurd h1 hn
theorem lit_end {s u : ByteArray} {p : Nat} (h : s.data.toList[p]? = none) (hu : 0 < u.size) : litAt s u p = false := by
  cases e : litAt s u p with
  | false => rfl
  | true =>
    have h1 := litAt_le e
    rw [List.getElem?_eq_none_iff] at h
    have h2 : s.data.toList.length = s.size := by simp
    omega
/-- no letter stands at a place -/
def NoLet (s : ByteArray) (q : Nat) : Prop := ∀ c, s.data.toList[q]? = some c → letB c = false
theorem word_back {s : ByteArray} {p : Nat} {t : ByteArray} (h : SegAt s p t) (ht : t.data.toList.all letB = true) (hn : NoLet s (p + t.size)) : wordN s p = t.size ∧ wordP s p = t := by
  have h1 : wordN s p = t.size := by
    unfold wordN
    rw [seg_data h]
    have h2 : (t.data.toList ++ s.data.toList.drop (p + t.size)).takeWhile letB = t.data.toList := by
      rw [List.takeWhile_append_of_pos (fun a ha => List.all_eq_true.1 ht a ha)]
      have : (s.data.toList.drop (p + t.size)).takeWhile letB = [] := by
        cases e : s.data.toList.drop (p + t.size) with
        | nil => rfl
        | cons c l =>
          have h3 : s.data.toList[p + t.size]? = some c := by
            rw [← List.head?_drop, e]; rfl
          simp [List.takeWhile, hn c h3]
      rw [this, List.append_nil]
    rw [h2]; simp
  exact ⟨h1, by unfold wordP; rw [h1]; exact h.2⟩
theorem name_all {t : ByteArray} (h : nameB t = true) : t.data.toList.all letB = true := by
  simp only [nameB, signsB, allB, Bool.and_eq_true] at h
  exact h.1.2
theorem name_head {t : ByteArray} (h : nameB t = true) : ∃ c, t.data.toList.head? = some c ∧ letB c = true := by
  have h1 := nameB_one h
  have h2 : t.data.toList.length = t.size := by simp
  cases e : t.data.toList with
  | nil => rw [e] at h2; simp at h2; omega
  | cons c l =>
    have := name_all h
    rw [e] at this
    simp at this
    exact ⟨c, rfl, by simpa using this.1⟩
theorem let_ne {c d : UInt8} (h : letB c = true) (hd : letB d = false) : c ≠ d := fun e => by rw [e, hd] at h; cases h
theorem no_this {s : ByteArray} {p : Nat} (hw : nameB (wordP s p) = true) : litAt s tThis p = false := by
  cases e : litAt s tThis p with
  | false => rfl
  | true =>
    have hle := litAt_le e
    have e5 : tThis.size = 5 := rfl
    have hseg : SegAt s p tThis := ⟨hle, lit_is e⟩
    have h2 : tThis = (⟨#[116, 104, 105, 115]⟩ : ByteArray) ++ ⟨#[40]⟩ := by apply ext_data'; simp [ByteArray.data_append]; rfl
    rw [h2] at hseg
    obtain ⟨a1, a2⟩ := seg_app hseg
    have a3 := seg_head a2 (c := 40) rfl
    have hw2 := word_back a1 (by decide) (fun c hc => by rw [a3] at hc; injection hc with hc; rw [← hc]; decide)
    have hnt : notThis ⟨#[116, 104, 105, 115]⟩ = false := by unfold notThis; rw [Go.ByteArray.toList_eq]; rfl
    rw [hw2.2, nameB, hnt, Bool.and_false] at hw
    cases hw
theorem no_open {s : ByteArray} {p : Nat} {t : ByteArray} (h : SegAt s p t) (hn : nameB t = true) : litAt s tOpen p = false := by
  obtain ⟨c, h1, h2⟩ := name_head hn
  exact lit_off (seg_head h h1) (d := 40) rfl (let_ne h2 (by decide))
/-- what follows a side -/
def Fol (s : ByteArray) (q : Nat) : Prop := ∀ c, s.data.toList[q]? = some c → c = 32 ∨ c = 41
theorem Fol.nolet {s : ByteArray} {q : Nat} (h : Fol s q) : NoLet s q := fun c hc => by
  rcases h c hc with rfl | rfl <;> decide
theorem Fol.noarrow {s : ByteArray} {q : Nat} (h : Fol s q) : litAt s tArrow q = false := by
  cases e : s.data.toList[q]? with
  | none => exact lit_end e (by decide)
  | some c =>
    rcases h c e with rfl | rfl
    · exact lit_off e (d := 45) rfl (by decide)
    · exact lit_off e (d := 45) rfl (by decide)
/-- a pair comes back -/
theorem pair_back {s : ByteArray} {p : Nat} {y : Al} (hy : alB y = true) (h : SegAt s p (alText y)) (hn : NoLet s (p + (alText y).size)) (hh : litAt s tHash (p + (alText y).size) = false) : pairI s p = some (y, p + (alText y).size) := by
  unfold alB at hy
  rw [Bool.and_eq_true] at hy
  have he : (⟨#[]⟩ : ByteArray).toList.isEmpty = true := by rw [Go.ByteArray.toList_eq]; rfl
  unfold pairI
  cases hem : y.s.toList.isEmpty with
  | true =>
    have hs0 : y.s = ⟨#[]⟩ := by
      apply ext_data'
      rw [Go.ByteArray.toList_eq] at hem
      simpa using hem
    have ht : alText y = y.t := by unfold alText; rw [hem]; rfl
    rw [ht] at h hn hh ⊢
    obtain ⟨w1, w2⟩ := word_back h (name_all hy.1) hn
    rw [w2, w1, if_pos hy.1, if_neg (by rw [hh]; decide), ← hs0]
  | false =>
    have hu : nameB y.s = true := by
      have := hy.2
      unfold setB' at this
      rw [hem, Bool.false_or] at this
      exact this
    have ht : alText y = y.t ++ ⟨#[35]⟩ ++ y.s := by unfold alText; rw [hem]; rfl
    have hsz : (alText y).size = y.t.size + 1 + y.s.size := by rw [ht, ByteArray.size_append, ByteArray.size_append]; rfl
    rw [ht] at h
    obtain ⟨a1, a2⟩ := seg_app h
    obtain ⟨b1, b2⟩ := seg_app a1
    have e1 : (y.t ++ (⟨#[35]⟩ : ByteArray)).size = y.t.size + 1 := by rw [ByteArray.size_append]; rfl
    rw [e1] at a2
    have hc := seg_head b2 (c := 35) rfl
    obtain ⟨w1, w2⟩ := word_back b1 (name_all hy.1) (fun c hc2 => by rw [hc] at hc2; injection hc2 with hc2; rw [← hc2]; decide)
    obtain ⟨v1, v2⟩ := word_back a2 (name_all hu) (fun c hc2 => hn c (by rw [hsz]; rw [show p + (y.t.size + 1 + y.s.size) = p + (y.t.size + 1) + y.s.size by omega]; exact hc2))
    have hl : litAt s tHash (p + y.t.size) = true := seg_lit b2
    have e2 : p + (y.t.size + 1) = p + y.t.size + 1 := by omega
    rw [e2] at v1 v2
    rw [w2, w1, if_pos hy.1, if_pos hl, v2, v1, if_pos hu, hsz]
    congr 2
    omega
theorem pairs_back {s : ByteArray} : ∀ (ys : List Al) (y : Al) (n p : Nat) (acc : List Al), (∀ a ∈ y :: ys, alB a = true) → ys.length < n → SegAt s p (JA (y :: ys) ++ tClose) → pairsI s n acc p = some (acc ++ y :: ys, p + (JA (y :: ys)).size + 1)
  | [], y, n, p, acc, hv, hn, h => by
    obtain ⟨n, rfl⟩ : ∃ m, n = m + 1 := ⟨n - 1, by omega⟩
    have hJ : JA [y] = alText y := by
      have := JA_snoc [] y
      rw [List.nil_append] at this
      rw [this]; apply ext_data'; simp [preA, ByteArray.data_append]
    rw [hJ] at h ⊢
    obtain ⟨a1, a2⟩ := seg_app h
    have hc := seg_head a2 (c := 41) rfl
    have hp := pair_back (hv y (by simp)) a1 (fun c hc2 => by rw [hc] at hc2; injection hc2 with hc2; rw [← hc2]; decide) (lit_off hc (d := 35) rfl (by decide))
    rw [pairsI, hp]
    simp only
    rw [if_neg (by rw [close_no_comma (seg_lit a2)]; decide), if_pos (seg_lit a2)]
  | z :: zs, y, n, p, acc, hv, hn, h => by
    obtain ⟨n, rfl⟩ : ∃ m, n = m + 1 := ⟨n - 1, by simp at hn; omega⟩
    have hJ : JA (y :: z :: zs) = alText y ++ tComma ++ JA (z :: zs) := by
      unfold JA
      rw [List.map_cons, joinB_cons, List.map_cons, tailB, joinB_cons]
      simp only [ByteArray.append_assoc]
    have hJs : (JA (y :: z :: zs)).size = (alText y).size + 1 + (JA (z :: zs)).size := by rw [hJ, ByteArray.size_append, ByteArray.size_append]; rfl
    rw [hJ, ByteArray.append_assoc] at h
    obtain ⟨a1, a2⟩ := seg_app h
    obtain ⟨b1, b2⟩ := seg_app a1
    have hc := seg_head b2 (c := 44) rfl
    have hp := pair_back (hv y (by simp)) b1 (fun c hc2 => by rw [hc] at hc2; injection hc2 with hc2; rw [← hc2]; decide) (lit_off hc (d := 35) rfl (by decide))
    have e1 : (alText y ++ tComma).size = (alText y).size + 1 := by rw [ByteArray.size_append]; rfl
    rw [e1] at a2
    have ih := pairs_back zs z n (p + ((alText y).size + 1)) (acc ++ [y]) (fun a ha => hv a (by simp at ha ⊢; exact .inr ha)) (by simp at hn; omega) a2
    rw [pairsI, hp]
    simp only
    rw [if_pos (seg_lit b2), show p + (alText y).size + 1 = p + ((alText y).size + 1) by omega, ih, hJs]
    simp
    omega
/-- trees one behind another: from a up to b -/
def Chain (es : List Ex) : List Int → Nat → Nat → Prop
  | [], a, b => a = b
  | k :: ks, a, b => 0 ≤ k ∧ treeAt es k.toNat = (a : Int) ∧ Chain es ks (k.toNat + 1) b
theorem chain_snoc {es : List Ex} : ∀ (ks : List Int) (k : Int) (a m b : Nat), Chain es ks a m → 0 ≤ k → treeAt es k.toNat = (m : Int) → k.toNat + 1 = b → Chain es (ks ++ [k]) a b
  | [], k, a, m, b, h, h0, h1, h2 => by
    have : a = m := h
    subst this
    exact ⟨h0, h1, h2⟩
  | x :: ks, k, a, m, b, h, h0, h1, h2 => ⟨h.1, h.2.1, chain_snoc ks k _ m b h.2.2 h0 h1 h2⟩
theorem chain_go {es : List Ex} {n : Nat} : ∀ (rs : List Int) (b : Nat), b ≤ n → 0 ≤ treeGo (treeF es n) rs ((b : Int) - 1) → Chain es rs.reverse (treeGo (treeF es n) rs ((b : Int) - 1)).toNat b
  | [], b, _, h => by simp [treeGo, Chain]
  | k :: rs, b, hb, h => by
    unfold treeGo at h ⊢
    split at h
    · omega
    · rename_i c
      rw [if_neg c]
      split at h
      · omega
      · rename_i c2
        rw [if_neg c2]
        have h0 : 0 ≤ (b : Int) - 1 := by omega
        have hk : k = (b : Int) - 1 := by omega
        have hF : treeF es n ((b : Int) - 1) = treeAt es ((b : Int) - 1).toNat := by unfold treeF; rw [if_pos ⟨h0, by omega⟩]
        have hle := treeAt_le es ((b : Int) - 1).toNat
        rw [hF] at h c2 ⊢
        obtain ⟨m, hm⟩ : ∃ m : Nat, treeAt es ((b : Int) - 1).toNat = (m : Int) := ⟨(treeAt es ((b : Int) - 1).toNat).toNat, by omega⟩
        rw [hm] at h hle ⊢
        rw [List.reverse_cons]
        exact chain_snoc _ k _ m b (chain_go rs m (by omega) h) (by omega) (by rw [hk, hm]) (by omega)
theorem chain_of {es : List Ex} {n : Nat} (h : 0 ≤ treeAt es n) : Chain es (kidsAt es n) (treeAt es n).toNat n := by
  rw [treeAt_eq] at h ⊢
  have := chain_go (kidsAt es n).reverse n (Nat.le_refl _) h
  rw [List.reverse_reverse] at this
  exact this
theorem chain_le {es : List Ex} : ∀ (ks : List Int) (a b : Nat), Chain es ks a b → a ≤ b ∧ ∀ k ∈ ks, 0 ≤ k ∧ k.toNat < b
  | [], a, b, h => ⟨Nat.le_of_eq h, fun k hk => by cases hk⟩
  | x :: ks, a, b, h => by
    obtain ⟨h1, h2⟩ := chain_le ks _ b h.2.2
    have := treeAt_le es x.toNat
    have h3 := h.2.1
    refine ⟨by omega, fun k hk => ?_⟩
    rcases List.mem_cons.1 hk with rfl | hk
    · exact ⟨h.1, by omega⟩
    · exact h2 k hk
/-- right nodes, right trees -/
structure Good (es : List Ex) : Prop where
  nodes : ∀ e ∈ es, nodeB e = true
  trees : ∀ j, j < es.length → 0 ≤ treeAt es j
theorem good_of {es : List Ex} (h : specE es = true) : Good es := by
  simp only [specE, Bool.and_eq_true, decide_eq_true_eq] at h
  refine ⟨List.all_eq_true.1 h.1.1.1.2, fun j hj => ?_⟩
  exact treeAt_covers es (es.length - 1) (by rw [h.2]; exact Int.le_refl _) j (by rw [h.2]; omega) (by omega)
theorem exAt_get {es : List Ex} {i : Nat} (h : i < es.length) : exAt es i = es[i] := by simp [exAt, h]
theorem kidsAt_get {es : List Ex} {i : Nat} (h : i < es.length) : kidsAt es i = es[i].kids := by simp [kidsAt, h]
theorem take_next {es : List Ex} {i : Nat} (h : i < es.length) : es.take (i + 1) = es.take i ++ [es[i]] := List.take_succ_eq_append_getElem h
/-- a tree comes back from its text -/
def Back (es : List Ex) (s : ByteArray) (i : Nat) : Prop := ∀ (p f : Nat), SegAt s p (txt es i) → Fol s (p + (txt es i).size) → 2 * (s.size - p) < f → rdI s f false ⟨p, es.take (treeAt es i).toNat⟩ = some ((i : Int), ⟨p + (txt es i).size, es.take (i + 1)⟩)
theorem kids_back {es : List Ex} {s : ByteArray} {f : Nat} {kd : Int} : ∀ (ks : List Int) (a b m p : Nat) (zs : List Int), Chain es ks a b → (∀ k ∈ ks, Back es s k.toNat) → ks.length < m → SegAt s p (tailB (tSign kd) (ks.map fun k => txt es k.toNat)) → Fol s (p + (tailB (tSign kd) (ks.map fun k => txt es k.toNat)).size) → litAt s (tSign kd) (p + (tailB (tSign kd) (ks.map fun k => txt es k.toNat)).size) = false → 2 * (s.size - p) < f →
    kidsI s (rdI s f false) kd m zs ⟨p, es.take a⟩ = some (zs ++ ks, ⟨p + (tailB (tSign kd) (ks.map fun k => txt es k.toNat)).size, es.take b⟩)
  | [], a, b, m, p, zs, hc, _, hm, h, hF, hl, hf => by
    have : a = b := hc
    subst this
    have e0 : (tailB (tSign kd) (([] : List Int).map fun k => txt es k.toNat)).size = 0 := rfl
    rw [e0, Nat.add_zero] at hl ⊢
    obtain ⟨m, rfl⟩ : ∃ x, m = x + 1 := ⟨m - 1, by simp at hm; omega⟩
    rw [kidsI]
    simp only
    rw [if_neg (by rw [hl]; decide), List.append_nil]
  | k :: ks, a, b, m, p, zs, hc, hB, hm, h, hF, hl, hf => by
    obtain ⟨m, rfl⟩ : ∃ x, m = x + 1 := ⟨m - 1, by simp at hm; omega⟩
    have h3 := tSign_size kd
    rw [List.map_cons, tailB] at h hF hl ⊢
    obtain ⟨a1, a2⟩ := seg_app h
    obtain ⟨b1, b2⟩ := seg_app a1
    rw [h3] at b2
    have hsz : (tSign kd ++ txt es k.toNat).size = 3 + (txt es k.toNat).size := by rw [ByteArray.size_append, h3]
    have hsz2 : (tSign kd ++ txt es k.toNat ++ tailB (tSign kd) (ks.map fun k => txt es k.toNat)).size = 3 + (txt es k.toNat).size + (tailB (tSign kd) (ks.map fun k => txt es k.toNat)).size := by rw [ByteArray.size_append, hsz]
    rw [hsz] at a2
    rw [hsz2] at hF hl ⊢
    have hle := litAt_le (seg_lit b1)
    have hfol : Fol s (p + 3 + (txt es k.toNat).size) := by
      cases ks with
      | nil =>
        have e0 : (tailB (tSign kd) (([] : List Int).map fun k => txt es k.toNat)).size = 0 := rfl
        rw [e0] at hF
        rw [show p + 3 + (txt es k.toNat).size = p + (3 + (txt es k.toNat).size + 0) by omega]
        exact hF
      | cons k2 ks2 =>
        rw [List.map_cons, tailB] at a2
        obtain ⟨c1, -⟩ := seg_app a2
        obtain ⟨d1, -⟩ := seg_app c1
        have hh : s.data.toList[p + (3 + (txt es k.toNat).size)]? = some 32 := by
          refine seg_head d1 ?_
          unfold tSign
          split
          · rfl
          · split <;> rfl
        intro c hc2
        rw [show p + 3 + (txt es k.toNat).size = p + (3 + (txt es k.toNat).size) by omega, hh] at hc2
        injection hc2 with hc2
        exact .inl hc2.symm
    have hi := hB k (by simp) (p + 3) f b2 hfol (by omega)
    have hk0 : ((k.toNat : Nat) : Int) = k := by have := hc.1; omega
    rw [hc.2.1, hk0] at hi
    have ea : ((a : Int)).toNat = a := by omega
    rw [ea] at hi
    have ih := kids_back (f := f) (kd := kd) ks (k.toNat + 1) b m (p + 3 + (txt es k.toNat).size) (zs ++ [k]) hc.2.2 (fun x hx => hB x (by simp [hx])) (by simp at hm; omega) (by rw [show p + 3 + (txt es k.toNat).size = p + (3 + (txt es k.toNat).size) by omega]; exact a2) (by rw [show p + 3 + (txt es k.toNat).size + (tailB (tSign kd) (ks.map fun k => txt es k.toNat)).size = p + (3 + (txt es k.toNat).size + (tailB (tSign kd) (ks.map fun k => txt es k.toNat)).size) by omega]; exact hF) (by rw [show p + 3 + (txt es k.toNat).size + (tailB (tSign kd) (ks.map fun k => txt es k.toNat)).size = p + (3 + (txt es k.toNat).size + (tailB (tSign kd) (ks.map fun k => txt es k.toNat)).size) by omega]; exact hl) (by omega)
    rw [kidsI]
    simp only
    rw [if_pos (seg_lit b1), hi]
    simp only
    rw [ih, List.append_assoc, show p + 3 + (txt es k.toNat).size + (tailB (tSign kd) (ks.map fun k => txt es k.toNat)).size = p + (3 + (txt es k.toNat).size + (tailB (tSign kd) (ks.map fun k => txt es k.toNat)).size) by omega]
    rfl
end Go.Proofs.Ytjmbgpdbnffkpaa
