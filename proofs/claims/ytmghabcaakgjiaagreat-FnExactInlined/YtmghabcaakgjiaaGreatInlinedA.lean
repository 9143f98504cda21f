/- What the program's Inlined asks and calls: whether a node names the relation, or tuples; a leaf, or the relation's whole. -/
import Derived.Test.YtmghabcaakgjiaaGreatImplPruned
namespace Go.Proofs.YtmghabcaakgjiaaGreat
set_option maxRecDepth 100000
set_option linter.unusedVariables false
open Go.ChangeShapes Go.WideShapes Go.ChangeAt Go.RowKit Go.Maps
open Pl

def isNm (rel : ByteArray) (e : Ex) : Bool := decide (e.kind = 2) && (e.name.toList == rel.toList)
def isTs (e : Ex) : Bool := decide (e.kind = 1)
theorem run_nm (xs : Array Value) (u : World) : (callFunc 40 xs).run Tryz.prog u = .ok (.enter 40 xs) u := by kernel_rfl
theorem run_put (xs : Array Value) (u : World) : (callFunc 44 xs).run Tryz.prog u = .ok (.enter 44 xs) u := by kernel_rfl
theorem run_ts (xs : Array Value) (u : World) : (callFunc 42 xs).run Tryz.prog u = .ok (.enter 42 xs) u := by kernel_rfl
theorem isThis_any (x : ER) (w : World) : Calls Tryz.prog 42 #[x.val] w fun e w' => e = .returned (.bool (isTs x.e)) ∧ Below w.heap.size w w' := by
  have HB : Hid (Below w.heap.size w (w.alloc (.cells #[.int .i64 x.e.kind, .slice x.adA x.e.allow.length x.capA, .string x.e.over, .string x.e.name, .slice x.adK x.e.kids.length x.capK] 50))) := (Below.refl _ _).alloc (Nat.le_refl _) _
  go_enter Tryz.func42, Tryz.ntmps42
  unfold ER.val
  cases hk : (x.e.kind == 1) with
  | false =>
    have HR : Hid (isTs x.e = false) := decide_eq_false (by simpa using hk)
    have hk2 : decide (x.e.kind = 1) = false := decide_eq_false (by simpa using hk)
    go_wp2
    go_ret
    exact ⟨by rw [HR.out]; rfl, HB.out⟩
  | true =>
    have HR : Hid (isTs x.e = true) := decide_eq_true (by simpa using hk)
    have hk2 : decide (x.e.kind = 1) = true := decide_eq_true (by simpa using hk)
    go_wp2
    go_ret
    exact ⟨by rw [HR.out]; rfl, HB.out⟩
theorem names_any (g : Nat) (rel : ByteArray) (x : ER) (w : World) (hg : g < w.heap.size) (hc : w.cell? ⟨g, 0, none⟩ = some (.string rel)) :
    Calls Tryz.prog 40 #[x.val, .pointer (some ⟨g, 0, none⟩)] w fun e w' => e = .returned (.bool (isNm rel x.e)) ∧ Below w.heap.size w w' := by
  have HB : Hid (Below w.heap.size w (w.alloc (.cells #[.int .i64 x.e.kind, .slice x.adA x.e.allow.length x.capA, .string x.e.over, .string x.e.name, .slice x.adK x.e.kids.length x.capK] 50))) := (Below.refl _ _).alloc (Nat.le_refl _) _
  go_enter Tryz.func40, Tryz.ntmps40
  unfold ER.val
  cases hk : (x.e.kind == 2) with
  | false =>
    have hk2 : decide (x.e.kind = 2) = false := decide_eq_false (by simpa using hk)
    have HR : Hid (isNm rel x.e = false) := by show _ = _; unfold isNm; rw [hk2]; rfl
    go_wp2
    go_ret
    exact ⟨by rw [HR.out]; rfl, HB.out⟩
  | true =>
    have hk2 : decide (x.e.kind = 2) = true := decide_eq_true (by simpa using hk)
    have HR : Hid (isNm rel x.e = (x.e.name.toList == rel.toList)) := by show _ = _; unfold isNm; rw [hk2]; rfl
    cases hn : (x.e.name.toList == rel.toList) with
    | false =>
      have HR2 : Hid (isNm rel x.e = false) := HR.out.trans hn
      go_wp2
      go_ret
      exact ⟨by rw [HR2.out]; rfl, HB.out⟩
    | true =>
      have HR2 : Hid (isNm rel x.e = true) := HR.out.trans hn
      go_wp2
      go_ret
      exact ⟨by rw [HR2.out]; rfl, HB.out⟩

theorem SlE.rowI {w : World} {ad : Option Addr} {rs : List ER} (h : SlE w ad rs) {k : Nat} (hk : k < rs.length) : ∃ b off, ad = some ⟨b, off, none⟩ ∧ At5 w b (off + k * 5) rs[k] ∧ b < w.heap.size := by
  rcases h with h | ⟨b', off', e, hb, hr, -⟩
  · rw [h] at hk; simp at hk
  · exact ⟨b', off', e, hr k hk, hb⟩
set_option maxHeartbeats 1000000 in
theorem indexE_any (FC : Nat) (rc cp : Array Value) (p : Ex → Bool) (ad : Option Addr) (cap : Nat) (xs : List ER) (w : World) (hlen : xs.length ≤ 1048576) (hs : SlE w ad xs)
    (hrun : ∀ (ys : Array Value) (u : World), (callFunc FC ys).run Tryz.prog u = .ok (.enter FC ys) u) (hp : ∀ x ∈ xs, ∀ w1 : World, Below w.heap.size w w1 → Calls Tryz.prog FC (rc.push x.val ++ cp) w1 fun e w' => e = .returned (.bool (p x.e)) ∧ Below w1.heap.size w1 w') :
    Calls Tryz.prog 74 #[.slice ad xs.length cap, .func (Fn.func FC) rc cp] w fun e w' => (∃ r : Int, e = .returned (.int .i64 r) ∧ decide (0 ≤ r) = (exs xs).any p) ∧ Below w.heap.size w w' := by
  have HS := toHX hs
  have HRUN := toHX hrun
  have HP := toHX hp
  clear hs hrun hp
  have HD : Hid (∀ k (h : k < xs.length), ((exs xs).drop k).any p = (p xs[k].e || ((exs xs).drop (k + 1)).any p)) := fun k h => by
    rw [any_drop p (exs xs) k (by rw [exs_len]; exact h), exs_at h]
  go_enter Tryz.func74, Tryz.ntmps74
  go_wp2_with fail
  go_loopw [8] (fun i wr => ∃ k : Nat, k ≤ xs.length ∧ i = .int .i64 k ∧ Hid (((exs xs).drop k).any p = (exs xs).any p) ∧ Hid (Below w.heap.size w wr)) (fun i _ => xs.length - (intOf i).toNat)
  case atStart => exact ⟨0, Nat.zero_le _, rfl, rfl, Below.refl _ _⟩
  case round =>
    obtain ⟨k, hk, rfl, HQ, HB⟩ := hrel
    by_cases hlt : k < xs.length
    · obtain ⟨b, off, hadr, hrow, hbl⟩ := SlE.rowI HS.out hlt
      obtain ⟨t0, t1, t2, t3, t4⟩ := hrow.same fun o => HB.out.cell (p := ⟨b, o, none⟩) hbl
      have HM : Hid (xs[k] ∈ xs) := List.getElem_mem hlt
      have hk1 : (0 : Int) ≤ (k : Int) := by omega
      have hk2 : (k : Int) < (xs.length : Int) := by omega
      have HD2 := toHX (HD.out k hlt)
      rw [hadr]
      clear hrow hadr
      go_wp2_with fail
      rw [HRUN.out, Oper.upon_enter]
      refine (HP.out _ HM.out _ HB.out).mono ?_
      rintro e w1 ⟨rfl, hb1⟩
      have HB1 : Hid (Below w.heap.size w w1) := HB.out.trans (hb1.mono HB.out.size)
      clear hb1 t0 t1 t2 t3 t4
      cases he : p xs[k].e with
      | true =>
        have HN : Hid ((exs xs).any p = true) := by show _ = _; rw [← HQ.out, HD2.out, he]; rfl
        go_wp2
        go_ret
        exact ⟨⟨k, rfl, by rw [HN.out]; simp⟩, HB1.out⟩
      | false =>
        have HQ2 : Hid (((exs xs).drop (k + 1)).any p = (exs xs).any p) := by show _ = _; rw [← HQ.out, HD2.out, he]; rfl
        go_wp2
        go_roundw
        case rel => exact ⟨k + 1, by omega, by go_num, HQ2, HB1⟩
        case measure => first | (simp [intOf]; done) | (simp [intOf]; omega)
    · have HN : Hid ((exs xs).any p = false) := by show _ = _; rw [← HQ.out, List.drop_of_length_le (by rw [exs_len]; omega)]; rfl
      go_wp2
      go_ret
      exact ⟨⟨-1, rfl, by rw [HN.out]; simp⟩, HB.out⟩
theorem containsE_any (FC : Nat) (rc cp : Array Value) (p : Ex → Bool) (ad : Option Addr) (cap : Nat) (xs : List ER) (w : World) (hlen : xs.length ≤ 1048576) (hs : SlE w ad xs)
    (hrun : ∀ (ys : Array Value) (u : World), (callFunc FC ys).run Tryz.prog u = .ok (.enter FC ys) u) (hp : ∀ x ∈ xs, ∀ w1 : World, Below w.heap.size w w1 → Calls Tryz.prog FC (rc.push x.val ++ cp) w1 fun e w' => e = .returned (.bool (p x.e)) ∧ Below w1.heap.size w1 w') :
    Calls Tryz.prog 41 #[.slice ad xs.length cap, .func (Fn.func FC) rc cp] w fun e w' => e = .returned (.bool ((exs xs).any p)) ∧ Below w.heap.size w w' := by
  have HC := toHX (indexE_any FC rc cp p ad cap xs w hlen hs hrun hp)
  clear hs hrun hp
  go_enter Tryz.func41, Tryz.ntmps41
  go_wp2_with fail
  refine HC.out.mono ?_
  rintro e w' ⟨⟨r, rfl, hr⟩, hbx⟩
  have HR := toHX hr
  clear hr
  go_wp2
  go_ret
  exact ⟨by rw [← HR.out]; rfl, hbx⟩

/-- a leaf that names the relation becomes its whole -/
def inlF (typ rel : ByteArray) (body : List Ex) (tn : ByteArray) (e : Ex) : List Ex := if (tn.toList == typ.toList) && isNm rel e then body else [e]
theorem SlE.keepB {w w2 : World} {ad : Option Addr} {xs : List ER} (h : SlE w ad xs) (hs : w.heap.size ≤ w2.heap.size) (hb : ∀ g, g < w.heap.size → w2.heap[g]? = w.heap[g]?) : SlE w2 ad xs := by
  rcases h with h | ⟨b, off, e, hb', hr, hk⟩
  · exact .inl h
  · exact .inr ⟨b, off, e, Nat.lt_of_lt_of_le hb' hs, fun i hi => (hr i hi).same fun o => World.cell?_of_block (a := ⟨b, o, none⟩) (hb b hb'), fun q hq => ⟨(hk q hq).1.keepB hs hb, (hk q hq).2.keepB hs hb⟩⟩
set_option maxHeartbeats 4000000 in
theorem inlLeaf_c (gT gN gE gR : Nat) (typ rel tn : ByteArray) (r : ER) (adE : Option Addr) (capE : Nat) (rows : List ER) (w : World) (hok : r.ok w) (hl : gT < w.heap.size ∧ gN < w.heap.size ∧ gE < w.heap.size ∧ gR < w.heap.size)
    (hc : w.cell? ⟨gT, 0, none⟩ = some (.string typ) ∧ w.cell? ⟨gN, 0, none⟩ = some (.func (Fn.func 40) #[] #[.pointer (some ⟨gR, 0, none⟩)]) ∧ w.cell? ⟨gE, 0, none⟩ = some (.slice adE rows.length capE) ∧ w.cell? ⟨gR, 0, none⟩ = some (.string rel)) (hse : SlE w adE rows) :
    LeafC 44 #[] #[.pointer (some ⟨gT, 0, none⟩), .pointer (some ⟨gN, 0, none⟩), .pointer (some ⟨gE, 0, none⟩)] tn (inlF typ rel (exs rows) tn) w r := by
  intro w1 hb1
  have HOK := toHX hok
  have HB1 := toHX hb1
  have HSE := toHX hse
  obtain ⟨l1, l2, l3, l4⟩ := hl
  obtain ⟨c1, c2, c3, c4⟩ := hc
  replace c1 := kept hb1 l1 c1
  replace c2 := kept hb1 l2 c2
  replace c3 := kept hb1 l3 c3
  replace c4 := kept hb1 l4 c4
  replace l1 := Nat.lt_of_lt_of_le l1 hb1.size
  replace l2 := Nat.lt_of_lt_of_le l2 hb1.size
  replace l3 := Nat.lt_of_lt_of_le l3 hb1.size
  replace l4 := Nat.lt_of_lt_of_le l4 hb1.size
  obtain ⟨W2, hW2⟩ : ∃ W2, W2 = w1.alloc (.cells #[.int .i64 r.e.kind, .slice r.adA r.e.allow.length r.capA, .string r.e.over, .string r.e.name, .slice r.adK r.e.kids.length r.capK] 50) := ⟨_, rfl⟩
  have HB2 : Hid (Below w1.heap.size w1 W2) := by show Below _ _ _; rw [hW2]; exact (Below.refl _ _).alloc (Nat.le_refl _) _
  have HC2 : Hid (W2.cell? ⟨gR, 0, none⟩ = some (.string rel) ∧ W2.cell? ⟨gE, 0, none⟩ = some (.slice adE rows.length capE) ∧ gR < W2.heap.size ∧ gE < W2.heap.size) := ⟨kept HB2.out l4 c4, kept HB2.out l3 c3, Nat.lt_of_lt_of_le l4 HB2.out.size, Nat.lt_of_lt_of_le l3 HB2.out.size⟩
  have HD : Hid (W2.cell? ⟨w1.heap.size, 0, none⟩ = some (.int .i64 r.e.kind) ∧ W2.cell? ⟨w1.heap.size, 1, none⟩ = some (.slice r.adA r.e.allow.length r.capA) ∧ W2.cell? ⟨w1.heap.size, 2, none⟩ = some (.string r.e.over) ∧ W2.cell? ⟨w1.heap.size, 3, none⟩ = some (.string r.e.name) ∧ W2.cell? ⟨w1.heap.size, 4, none⟩ = some (.slice r.adK r.e.kids.length r.capK) ∧ w1.heap.size < W2.heap.size) := by
    show _ ∧ _; rw [hW2]; exact ⟨by simp, by simp, by simp, by simp, by simp, by simp⟩
  have HKB : Hid (∀ w2 w3 : World, Below w1.heap.size w1 w3 → w3.heap.size ≤ w2.heap.size → (∀ g, g < w3.heap.size → (g < w.heap.size ∨ w1.heap.size ≤ g) → w2.heap[g]? = w3.heap[g]?) → w.heap.size ≤ w2.heap.size ∧ ∀ g, g < w.heap.size → w2.heap[g]? = w.heap[g]?) := fun w2 w3 h3 hs hk => by
    have h1 := HB1.out.size
    have h2 := h3.size
    exact ⟨by omega, fun g hg => by rw [hk g (by omega) (.inl hg), h3.block g (by omega), HB1.out.block g hg]⟩
  clear hok hb1 hse
  show Calls Tryz.prog 44 #[.string tn, r.val, .pointer (some ⟨gT, 0, none⟩), .pointer (some ⟨gN, 0, none⟩), .pointer (some ⟨gE, 0, none⟩)] w1 _
  go_enter Tryz.func44, Tryz.ntmps44
  unfold ER.val
  cases ht : (tn.toList == typ.toList) with
  | false =>
    have HF : Hid (inlF typ rel (exs rows) tn r.e = [r.e]) := by show _ = _; unfold inlF; rw [ht]; rfl
    obtain ⟨W3, hW3⟩ : ∃ W3, W3 = (w1.alloc (.cells #[.int .i64 r.e.kind, .slice r.adA r.e.allow.length r.capA, .string r.e.over, .string r.e.name, .slice r.adK r.e.kids.length r.capK] 50)).alloc (.cells #[.int .i64 r.e.kind, .slice r.adA r.e.allow.length r.capA, .string r.e.over, .string r.e.name, .slice r.adK r.e.kids.length r.capK] 50) := ⟨_, rfl⟩
    have HB3 : Hid (Below w1.heap.size w1 W3) := by show Below _ _ _; rw [hW3]; exact ((Below.refl _ _).alloc (Nat.le_refl _) _).alloc (by simp) _
    have HN3 : Hid (W3.heap[w1.heap.size + 1]? = some (.cells #[.int .i64 r.e.kind, .slice r.adA r.e.allow.length r.capA, .string r.e.over, .string r.e.name, .slice r.adK r.e.kids.length r.capK] 50 (0, 0)) ∧ w1.heap.size + 1 < W3.heap.size) := by
      show _ ∧ _
      rw [hW3, ← hW2]
      have := heap_alloc_new W2 (.cells #[.int .i64 r.e.kind, .slice r.adA r.e.allow.length r.capA, .string r.e.over, .string r.e.name, .slice r.adK r.e.kids.length r.capK] 50)
      rw [show W2.heap.size = w1.heap.size + 1 by rw [hW2]; simp] at this
      exact ⟨this, by rw [hW2]; simp⟩
    clear hW2
    go_wp2
    rw [← hW3]
    go_ret
    refine ⟨_, _, [r], rfl, by rw [HF.out]; rfl, HB3.out, fun w2 hs hk => ?_⟩
    obtain ⟨k1, k2⟩ := HKB.out w2 _ HB3.out hs hk
    exact slE_one HN3.out.1 HN3.out.2 hs (hk _ HN3.out.2 (.inr (Nat.le_succ _))) ⟨HOK.out.1.keepB k1 k2, HOK.out.2.keepB k1 k2⟩
  | true =>
    go_wp2_with fail
    rw [← hW2]
    clear hW2 c1 c2 c3 c4
    refine (names_any gR rel r W2 HC2.out.2.2.1 HC2.out.1).mono ?_
    rintro e w3 ⟨rfl, hb3⟩
    have HB3 : Hid (Below w1.heap.size w1 w3) := HB2.out.trans (hb3.mono HB2.out.size)
    have e1 := kept hb3 HC2.out.2.2.2 HC2.out.2.1
    obtain ⟨d0, d1, d2, d3, d4, d5⟩ := HD.out
    replace d0 := kept hb3 d5 d0
    replace d1 := kept hb3 d5 d1
    replace d2 := kept hb3 d5 d2
    replace d3 := kept hb3 d5 d3
    replace d4 := kept hb3 d5 d4
    have HS3 : Hid (w1.heap.size ≤ w3.heap.size) := HB3.out.size
    clear hb3
    cases hn : isNm rel r.e with
    | true =>
      have HF : Hid (inlF typ rel (exs rows) tn r.e = exs rows) := by show _ = _; unfold inlF; rw [ht, hn]; rfl
      clear hn
      go_wp2
      go_ret
      refine ⟨adE, capE, rows, rfl, by rw [HF.out], HB3.out, fun w2 hs hk => ?_⟩
      obtain ⟨k1, k2⟩ := HKB.out w2 _ HB3.out hs hk
      exact HSE.out.keepB k1 k2
    | false =>
      have HF : Hid (inlF typ rel (exs rows) tn r.e = [r.e]) := by show _ = _; unfold inlF; rw [ht, hn]; rfl
      obtain ⟨W4, hW4⟩ : ∃ W4, W4 = w3.alloc (.cells #[.int .i64 r.e.kind, .slice r.adA r.e.allow.length r.capA, .string r.e.over, .string r.e.name, .slice r.adK r.e.kids.length r.capK] 50) := ⟨_, rfl⟩
      have HB4 : Hid (Below w1.heap.size w1 W4) := by show Below _ _ _; rw [hW4]; exact HB3.out.alloc HB3.out.size _
      have HN4 : Hid (W4.heap[w3.heap.size]? = some (.cells #[.int .i64 r.e.kind, .slice r.adA r.e.allow.length r.capA, .string r.e.over, .string r.e.name, .slice r.adK r.e.kids.length r.capK] 50 (0, 0)) ∧ w3.heap.size < W4.heap.size) := by
        show _ ∧ _
        rw [hW4]
        exact ⟨heap_alloc_new w3 _, by simp⟩
      clear hn
      go_wp2
      rw [← hW4]
      go_ret
      refine ⟨_, _, [r], rfl, by rw [HF.out]; rfl, HB4.out, fun w2 hs hk => ?_⟩
      obtain ⟨k1, k2⟩ := HKB.out w2 _ HB4.out hs hk
      exact slE_one HN4.out.1 HN4.out.2 hs (hk _ HN4.out.2 (.inr HS3.out)) ⟨HOK.out.1.keepB k1 k2, HOK.out.2.keepB k1 k2⟩
end Go.Proofs.YtmghabcaakgjiaaGreat
