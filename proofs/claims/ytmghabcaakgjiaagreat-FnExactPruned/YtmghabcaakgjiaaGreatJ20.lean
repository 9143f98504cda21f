/- What the program's Pruned asks and calls: a leaf that stays; whether a node asks for the relation; a schema if it is right. -/
import Derived.Test.YtmghabcaakgjiaaGreatSomeOver
import Derived.Test.YtmghabcaakgjiaaGreatJ14
import Derived.Test.YtmghabcaakgjiaaGreatImplSchema
import Derived.Deep.RegionHeld3
import Derived.Test.YtmghabcaakgjiaaGreatJ3
namespace Go.Proofs.YtmghabcaakgjiaaGreat
set_option maxRecDepth 100000
set_option linter.unusedVariables false
open Go.ChangeShapes Go.WideShapes Go.ChangeAt Go.RowKit Go.Maps
open Pl

theorem SlA.keepB {w w2 : World} {ad : Option Addr} {xs : List Al} (h : SlA w ad xs) (hs : w.heap.size ≤ w2.heap.size) (hb : ∀ g, g < w.heap.size → w2.heap[g]? = w.heap[g]?) : SlA w2 ad xs := by
  rcases h with h | ⟨b, off, e, hb', hr⟩
  · exact .inl h
  · exact .inr ⟨b, off, e, Nat.lt_of_lt_of_le hb' hs, fun i hi => (hr i hi).same fun o => World.cell?_of_block (a := ⟨b, o, none⟩) (hb b hb')⟩
theorem SlI.keepB {w w2 : World} {ad : Option Addr} {xs : List Int} (h : SlI w ad xs) (hs : w.heap.size ≤ w2.heap.size) (hb : ∀ g, g < w.heap.size → w2.heap[g]? = w.heap[g]?) : SlI w2 ad xs := by
  rcases h with h | ⟨b, off, e, hb', hr⟩
  · exact .inl h
  · exact .inr ⟨b, off, e, Nat.lt_of_lt_of_le hb' hs, fun i hi => (World.cell?_of_block (a := ⟨b, off + i, none⟩) (hb b hb')).trans (hr i hi)⟩
theorem run_same (xs : Array Value) (u : World) : (callFunc 52 xs).run Tryz.prog u = .ok (.enter 52 xs) u := by kernel_rfl
theorem run_asks (xs : Array Value) (u : World) : (callFunc 48 xs).run Tryz.prog u = .ok (.enter 48 xs) u := by kernel_rfl
/-- one node, laid in a row of one -/
theorem slE_one {w1 w2 : World} {r : ER} {b : Nat} (hb : w1.heap[b]? = some (.cells #[.int .i64 r.e.kind, .slice r.adA r.e.allow.length r.capA, .string r.e.over, .string r.e.name, .slice r.adK r.e.kids.length r.capK] 50 (0, 0))) (hlt : b < w1.heap.size) (hs : w1.heap.size ≤ w2.heap.size) (h2 : w2.heap[b]? = w1.heap[b]?) (hok : r.ok w2) : SlE w2 (some ⟨b, 0, none⟩) [r] := by
  refine .inr ⟨b, 0, rfl, Nat.lt_of_lt_of_le hlt hs, fun i hi => ?_, fun q hq => by rw [List.mem_singleton] at hq; subst hq; exact hok⟩
  have e : i = 0 := by simpa using hi
  subst e
  have hc : ∀ o, w2.cell? ⟨b, o, none⟩ = w1.cell? ⟨b, o, none⟩ := fun o => World.cell?_of_block (a := ⟨b, o, none⟩) h2
  refine ⟨?_, ?_, ?_, ?_, ?_⟩
  all_goals
    rw [hc]
    simp [World.cell?, hb]
theorem sameLeaf_c (typ : ByteArray) (r : ER) (w : World) (hok : r.ok w) : LeafC 52 #[] #[] typ (fun e => [e]) w r := by
  intro w1 hb1
  have HOK : Hid (r.ok w) := hok
  have HB1 : Hid (Below w.heap.size w w1) := hb1
  obtain ⟨W2, hW2⟩ : ∃ W2, W2 = (w1.alloc (.cells #[.int .i64 r.e.kind, .slice r.adA r.e.allow.length r.capA, .string r.e.over, .string r.e.name, .slice r.adK r.e.kids.length r.capK] 50)).alloc (.cells #[.int .i64 r.e.kind, .slice r.adA r.e.allow.length r.capA, .string r.e.over, .string r.e.name, .slice r.adK r.e.kids.length r.capK] 50) := ⟨_, rfl⟩
  have HB2 : Hid (Below w1.heap.size w1 W2) := by show Below _ _ _; rw [hW2]; exact ((Below.refl _ _).alloc (Nat.le_refl _) _).alloc (by simp) _
  have HC : Hid (W2.heap[w1.heap.size + 1]? = some (.cells #[.int .i64 r.e.kind, .slice r.adA r.e.allow.length r.capA, .string r.e.over, .string r.e.name, .slice r.adK r.e.kids.length r.capK] 50 (0, 0)) ∧ w1.heap.size + 1 < W2.heap.size) := by
    show _ ∧ _
    rw [hW2]
    have := heap_alloc_new (w1.alloc (.cells #[.int .i64 r.e.kind, .slice r.adA r.e.allow.length r.capA, .string r.e.over, .string r.e.name, .slice r.adK r.e.kids.length r.capK] 50)) (.cells #[.int .i64 r.e.kind, .slice r.adA r.e.allow.length r.capA, .string r.e.over, .string r.e.name, .slice r.adK r.e.kids.length r.capK] 50)
    rw [show (w1.alloc (.cells #[.int .i64 r.e.kind, .slice r.adA r.e.allow.length r.capA, .string r.e.over, .string r.e.name, .slice r.adK r.e.kids.length r.capK] 50)).heap.size = w1.heap.size + 1 by simp] at this
    exact ⟨this, by simp⟩
  clear hok hb1
  show Calls Tryz.prog 52 #[.string typ, r.val] w1 _
  go_enter Tryz.func52, Tryz.ntmps52
  unfold ER.val
  go_wp2
  rw [← hW2]
  go_ret
  refine ⟨_, _, [r], rfl, rfl, HB2.out, fun w2 hs hk => ?_⟩
  have hbw : ∀ g, g < w.heap.size → w2.heap[g]? = w.heap[g]? := fun g hg => by
    have h1 := HB1.out.size
    have h2 := HB2.out.size
    rw [hk g (by omega) (.inl hg), HB2.out.block g (by omega), HB1.out.block g hg]
  exact slE_one HC.out.1 HC.out.2 hs (hk _ HC.out.2 (.inr (Nat.le_succ _))) ⟨HOK.out.1.keepB (Nat.le_trans HB1.out.size (Nat.le_trans HB2.out.size hs)) hbw, HOK.out.2.keepB (Nat.le_trans HB1.out.size (Nat.le_trans HB2.out.size hs)) hbw⟩

theorem belowN {B : Nat} {w w' : World} (h : Below B w w') (n : Nat) : Below B w (w'.drewN n) := ⟨h.os, h.tape, h.output, h.size, h.block⟩
/-- does a node ask for the relation rel of the type typ as a goal? -/
def askI (ts : List Ty) (typ rel tn rn : ByteArray) (e : Ex) : Bool := !keyB tn rn typ rel && (e.name.toList == rel.toList) && inS (goalsI ts tn e.over e.name) typ
set_option maxHeartbeats 4000000 in
theorem asks_any (gK gR gT gY : Nat) (b n : Nat) (rs : List TR) (ad : Option Addr) (M : ByteArray × ByteArray → Option Value) (typ rel tn rn : ByteArray) (x : ER) (w : World) (hV : MapV encK Tryz.prog 73 w b n M) (hT : Tab rs M) (hs : SlT w ad rs) (hl : ∀ r ∈ rs, r.light) (hf : ∀ r ∈ rs, r.fits) (hg6 : (goalsI (tys rs) tn x.e.over x.e.name).length ≤ 1048576)
    (htn : tn.size ≤ maxLen) (ho : x.e.over.size ≤ maxLen) (hn : x.e.name.size ≤ maxLen) (hlt : gK < w.heap.size ∧ gR < w.heap.size ∧ gT < w.heap.size ∧ gY < w.heap.size)
    (hc : w.cell? ⟨gK, 0, none⟩ = some (.string typ) ∧ w.cell? ⟨gK, 1, none⟩ = some (.string rel) ∧ w.cell? ⟨gR, 0, none⟩ = some (.string rel) ∧ w.cell? ⟨gT, 0, none⟩ = some (.map (some b)) ∧ w.cell? ⟨gY, 0, none⟩ = some (.string typ)) :
    Calls Tryz.prog 48 #[.agg #[.string tn, .string rn], x.val, .pointer (some ⟨gK, 0, none⟩), .pointer (some ⟨gR, 0, none⟩), .pointer (some ⟨gT, 0, none⟩), .pointer (some ⟨gY, 0, none⟩)] w fun e w' => e = .returned (.bool (askI (tys rs) typ rel tn rn x.e)) ∧ Below w.heap.size w w' := by
  have HV := toHX hV
  have HT := toHX hT
  have HS := toHX hs
  have HL := toHX hl
  have HF := toHX hf
  have HC := toHX hc
  obtain ⟨W2, hW2⟩ : ∃ W2, W2 = (w.alloc (.cells #[.string tn, .string rn] 73)).alloc (.cells #[.int .i64 x.e.kind, .slice x.adA x.e.allow.length x.capA, .string x.e.over, .string x.e.name, .slice x.adK x.e.kids.length x.capK] 50) := ⟨_, rfl⟩
  have HB2 : Hid (Below w.heap.size w W2) := by show Below _ _ _; rw [hW2]; exact ((Below.refl _ _).alloc (Nat.le_refl _) _).alloc (by simp) _
  obtain ⟨l1, l2, l3, l4⟩ := hlt
  have hz : (w.alloc (.cells #[.string tn, .string rn] 73)).heap.size = w.heap.size + 1 := by simp
  have hxc := fun j => World.cell?_alloc_mark (w.alloc (.cells #[.string tn, .string rn] 73)) #[.int .i64 x.e.kind, .slice x.adA x.e.allow.length x.capA, .string x.e.over, .string x.e.name, .slice x.adK x.e.kids.length x.capK] 50 (0, 0) j
  rw [hz, ← hW2] at hxc
  have c0 : W2.cell? ⟨w.heap.size, 0, none⟩ = some (.string tn) := by rw [hW2]; simp
  have c1 : W2.cell? ⟨w.heap.size, 1, none⟩ = some (.string rn) := by rw [hW2]; simp
  have d0 : W2.cell? ⟨w.heap.size + 1, 0, none⟩ = some (.int .i64 x.e.kind) := by rw [hxc 0]; rfl
  have d1 : W2.cell? ⟨w.heap.size + 1, 1, none⟩ = some (.slice x.adA x.e.allow.length x.capA) := by rw [hxc 1]; rfl
  have d2 : W2.cell? ⟨w.heap.size + 1, 2, none⟩ = some (.string x.e.over) := by rw [hxc 2]; rfl
  have d3 : W2.cell? ⟨w.heap.size + 1, 3, none⟩ = some (.string x.e.name) := by rw [hxc 3]; rfl
  have d4 : W2.cell? ⟨w.heap.size + 1, 4, none⟩ = some (.slice x.adK x.e.kids.length x.capK) := by rw [hxc 4]; rfl
  have k0 := kept HB2.out l1 HC.out.1
  have k1 := kept HB2.out l1 HC.out.2.1
  have k2 := kept HB2.out l2 HC.out.2.2.1
  have k3 := kept HB2.out l3 HC.out.2.2.2.1
  have k4 := kept HB2.out l4 HC.out.2.2.2.2
  have m0 : w.heap.size + 1 < W2.heap.size := by rw [hW2]; simp
  clear hV hT hs hl hf hc hxc hz
  go_enter Tryz.func48, Tryz.ntmps48
  unfold ER.val
  cases hk : keyB tn rn typ rel with
  | true =>
    have HR : Hid (askI (tys rs) typ rel tn rn x.e = false) := by show _ = _; unfold askI; rw [hk]; rfl
    have h2 : tn.toList = typ.toList ∧ rn.toList = rel.toList := by unfold keyB at hk; simpa using hk
    have h3 : (tn.toList == typ.toList) = true := by simp [h2.1]
    have h4 : (rn.toList == rel.toList) = true := by simp [h2.2]
    clear h2 hk
    go_wp2_with fail
    rw [← hW2]
    clear hW2
    go_quiet (fail)
    go_wp2
    go_ret
    exact ⟨by rw [HR.out]; rfl, belowN HB2.out _⟩
  | false =>
    have HTK := keyB_no hk
    cases hn2 : (x.e.name.toList == rel.toList) with
    | false =>
      have HR : Hid (askI (tys rs) typ rel tn rn x.e = false) := by show _ = _; unfold askI; rw [hk, hn2]; rfl
      clear hk
      go_wp2_with fail
      rw [← hW2]
      clear hW2
      rcases HTK with ⟨h3, h4⟩ | h3
      all_goals
        go_quiet (fail)
        go_wp2
        go_ret
        exact ⟨by rw [HR.out]; rfl, belowN HB2.out _⟩
    | true =>
      have HR : Hid (askI (tys rs) typ rel tn rn x.e = inS (goalsI (tys rs) tn x.e.over x.e.name) typ) := by show _ = _; unfold askI; rw [hk, hn2]; rfl
      clear hk
      go_wp2_with fail
      rw [← hW2]
      clear hW2
      have n0 : w.heap.size < W2.heap.size := by omega
      have n1 : gK < W2.heap.size := by omega
      have n2 : gR < W2.heap.size := by omega
      have n3 : gT < W2.heap.size := by omega
      have n4 : gY < W2.heap.size := by omega
      have HKP : Hid (∀ w1 w3 : World, (w1.cell? ⟨w.heap.size, 0, none⟩ = some (.string tn) ∧ w1.cell? ⟨w.heap.size, 1, none⟩ = some (.string rn) ∧ w1.cell? ⟨w.heap.size + 1, 0, none⟩ = some (.int .i64 x.e.kind) ∧ w1.cell? ⟨w.heap.size + 1, 1, none⟩ = some (.slice x.adA x.e.allow.length x.capA) ∧ w1.cell? ⟨w.heap.size + 1, 2, none⟩ = some (.string x.e.over) ∧ w1.cell? ⟨w.heap.size + 1, 3, none⟩ = some (.string x.e.name) ∧ w1.cell? ⟨w.heap.size + 1, 4, none⟩ = some (.slice x.adK x.e.kids.length x.capK) ∧ w1.cell? ⟨gK, 0, none⟩ = some (.string typ) ∧ w1.cell? ⟨gK, 1, none⟩ = some (.string rel) ∧ w1.cell? ⟨gR, 0, none⟩ = some (.string rel) ∧ w1.cell? ⟨gT, 0, none⟩ = some (.map (some b)) ∧ w1.cell? ⟨gY, 0, none⟩ = some (.string typ) ∧ Below W2.heap.size W2 w1) → Below w1.heap.size w1 w3 → (w3.cell? ⟨w.heap.size, 0, none⟩ = some (.string tn) ∧ w3.cell? ⟨w.heap.size, 1, none⟩ = some (.string rn) ∧ w3.cell? ⟨w.heap.size + 1, 0, none⟩ = some (.int .i64 x.e.kind) ∧ w3.cell? ⟨w.heap.size + 1, 1, none⟩ = some (.slice x.adA x.e.allow.length x.capA) ∧ w3.cell? ⟨w.heap.size + 1, 2, none⟩ = some (.string x.e.over) ∧ w3.cell? ⟨w.heap.size + 1, 3, none⟩ = some (.string x.e.name) ∧ w3.cell? ⟨w.heap.size + 1, 4, none⟩ = some (.slice x.adK x.e.kids.length x.capK) ∧ w3.cell? ⟨gK, 0, none⟩ = some (.string typ) ∧ w3.cell? ⟨gK, 1, none⟩ = some (.string rel) ∧ w3.cell? ⟨gR, 0, none⟩ = some (.string rel) ∧ w3.cell? ⟨gT, 0, none⟩ = some (.map (some b)) ∧ w3.cell? ⟨gY, 0, none⟩ = some (.string typ) ∧ Below W2.heap.size W2 w3)) := fun w1 w3 h hb => by
        obtain ⟨q0, q1, q2, q3, q4, q5, q6, q7, q8, q9, q10, q11, hB⟩ := h
        have hz := hB.size
        exact ⟨kept hb (Nat.lt_of_lt_of_le n0 hz) q0, kept hb (Nat.lt_of_lt_of_le n0 hz) q1, kept hb (Nat.lt_of_lt_of_le m0 hz) q2, kept hb (Nat.lt_of_lt_of_le m0 hz) q3, kept hb (Nat.lt_of_lt_of_le m0 hz) q4, kept hb (Nat.lt_of_lt_of_le m0 hz) q5, kept hb (Nat.lt_of_lt_of_le m0 hz) q6, kept hb (Nat.lt_of_lt_of_le n1 hz) q7, kept hb (Nat.lt_of_lt_of_le n1 hz) q8, kept hb (Nat.lt_of_lt_of_le n2 hz) q9, kept hb (Nat.lt_of_lt_of_le n3 hz) q10, kept hb (Nat.lt_of_lt_of_le n4 hz) q11, hB.trans (hb.mono hz)⟩
      have HBS : Hid (∀ w1 : World, (w1.cell? ⟨w.heap.size, 0, none⟩ = some (.string tn) ∧ w1.cell? ⟨w.heap.size, 1, none⟩ = some (.string rn) ∧ w1.cell? ⟨w.heap.size + 1, 0, none⟩ = some (.int .i64 x.e.kind) ∧ w1.cell? ⟨w.heap.size + 1, 1, none⟩ = some (.slice x.adA x.e.allow.length x.capA) ∧ w1.cell? ⟨w.heap.size + 1, 2, none⟩ = some (.string x.e.over) ∧ w1.cell? ⟨w.heap.size + 1, 3, none⟩ = some (.string x.e.name) ∧ w1.cell? ⟨w.heap.size + 1, 4, none⟩ = some (.slice x.adK x.e.kids.length x.capK) ∧ w1.cell? ⟨gK, 0, none⟩ = some (.string typ) ∧ w1.cell? ⟨gK, 1, none⟩ = some (.string rel) ∧ w1.cell? ⟨gR, 0, none⟩ = some (.string rel) ∧ w1.cell? ⟨gT, 0, none⟩ = some (.map (some b)) ∧ w1.cell? ⟨gY, 0, none⟩ = some (.string typ) ∧ Below W2.heap.size W2 w1) → Below w.heap.size w w1) := fun w1 h => HB2.out.trans (h.2.2.2.2.2.2.2.2.2.2.2.2.mono HB2.out.size)
      have HGL := toHX hg6
      rcases HTK with ⟨h3, h4⟩ | h3
      · go_region_held3 (fun w' => w'.cell? ⟨w.heap.size, 0, none⟩ = some (.string tn) ∧ w'.cell? ⟨w.heap.size, 1, none⟩ = some (.string rn) ∧ w'.cell? ⟨w.heap.size + 1, 0, none⟩ = some (.int .i64 x.e.kind) ∧ w'.cell? ⟨w.heap.size + 1, 1, none⟩ = some (.slice x.adA x.e.allow.length x.capA) ∧ w'.cell? ⟨w.heap.size + 1, 2, none⟩ = some (.string x.e.over) ∧ w'.cell? ⟨w.heap.size + 1, 3, none⟩ = some (.string x.e.name) ∧ w'.cell? ⟨w.heap.size + 1, 4, none⟩ = some (.slice x.adK x.e.kids.length x.capK) ∧ w'.cell? ⟨gK, 0, none⟩ = some (.string typ) ∧ w'.cell? ⟨gK, 1, none⟩ = some (.string rel) ∧ w'.cell? ⟨gR, 0, none⟩ = some (.string rel) ∧ w'.cell? ⟨gT, 0, none⟩ = some (.map (some b)) ∧ w'.cell? ⟨gY, 0, none⟩ = some (.string typ) ∧ Below W2.heap.size W2 w')
          (first | assumption | exact HKP.out _ _ (by assumption) hbx | exact ⟨c0, c1, d0, d1, d2, d3, d4, k0, k1, k2, k3, k4, (Below.refl _ _).drew⟩)
          (first | (go_at_call 50; refine (goalsOf_any b n rs ad M tn x _ (HV.out.below (HBS.out _ (by assumption))) HT.out (HS.out.below (HBS.out _ (by assumption))) HL.out HF.out htn ho hn).mono ?_; rintro e w' ⟨⟨adg, capg, rfl, hsg, -⟩, hbx⟩) | (go_at_call 49; refine (containsS_any adg capg _ typ _ HGL.out hsg).mono ?_; rintro e w' ⟨rfl, rfl⟩))
        rename_i hH
        have HBE := toHX (HBS.out _ hH)
        clear hH
        go_wp2
        go_ret
        exact ⟨by rw [HR.out]; rfl, HBE.out⟩
      · go_region_held3 (fun w' => w'.cell? ⟨w.heap.size, 0, none⟩ = some (.string tn) ∧ w'.cell? ⟨w.heap.size, 1, none⟩ = some (.string rn) ∧ w'.cell? ⟨w.heap.size + 1, 0, none⟩ = some (.int .i64 x.e.kind) ∧ w'.cell? ⟨w.heap.size + 1, 1, none⟩ = some (.slice x.adA x.e.allow.length x.capA) ∧ w'.cell? ⟨w.heap.size + 1, 2, none⟩ = some (.string x.e.over) ∧ w'.cell? ⟨w.heap.size + 1, 3, none⟩ = some (.string x.e.name) ∧ w'.cell? ⟨w.heap.size + 1, 4, none⟩ = some (.slice x.adK x.e.kids.length x.capK) ∧ w'.cell? ⟨gK, 0, none⟩ = some (.string typ) ∧ w'.cell? ⟨gK, 1, none⟩ = some (.string rel) ∧ w'.cell? ⟨gR, 0, none⟩ = some (.string rel) ∧ w'.cell? ⟨gT, 0, none⟩ = some (.map (some b)) ∧ w'.cell? ⟨gY, 0, none⟩ = some (.string typ) ∧ Below W2.heap.size W2 w')
          (first | assumption | exact HKP.out _ _ (by assumption) hbx | exact ⟨c0, c1, d0, d1, d2, d3, d4, k0, k1, k2, k3, k4, (Below.refl _ _).drew⟩)
          (first | (go_at_call 50; refine (goalsOf_any b n rs ad M tn x _ (HV.out.below (HBS.out _ (by assumption))) HT.out (HS.out.below (HBS.out _ (by assumption))) HL.out HF.out htn ho hn).mono ?_; rintro e w' ⟨⟨adg, capg, rfl, hsg, -⟩, hbx⟩) | (go_at_call 49; refine (containsS_any adg capg _ typ _ HGL.out hsg).mono ?_; rintro e w' ⟨rfl, rfl⟩))
        rename_i hH
        have HBE := toHX (HBS.out _ hH)
        clear hH
        go_wp2
        go_ret
        exact ⟨by rw [HR.out]; rfl, HBE.out⟩
end Go.Proofs.YtmghabcaakgjiaaGreat

/- Two schemas in memory that hold the same: what is said of the one holds of the other. -/
namespace Go.Proofs.YtmghabcaakgjiaaGreat
open Pl
theorem exsP {rs rs' : List ER} {p : Ex → Prop} (h : exs rs' = exs rs) (hp : ∀ r ∈ rs, p r.e) : ∀ r ∈ rs', p r.e := by
  intro r hr
  have h1 : r.e ∈ exs rs' := List.mem_map.2 ⟨r, hr, rfl⟩
  rw [h] at h1
  obtain ⟨q, hq, e⟩ := List.mem_map.1 h1
  rw [← e]
  exact hp q hq
theorem rlsP {rs rs' : List RR} (h : rls rs' = rls rs) : ∀ r ∈ rs', ∃ q ∈ rs, q.name = r.name ∧ exs r.rows = exs q.rows := by
  intro r hr
  have h1 : r.p ∈ rls rs' := List.mem_map.2 ⟨r, hr, rfl⟩
  rw [h] at h1
  obtain ⟨q, hq, e⟩ := List.mem_map.1 h1
  injection e with e1 e2
  exact ⟨q, hq, e1, e2.symm⟩
theorem tysP {rs rs' : List TR} (h : tys rs' = tys rs) : ∀ r ∈ rs', ∃ q ∈ rs, q.name = r.name ∧ rls r.rows = rls q.rows := by
  intro r hr
  have h1 : r.p ∈ tys rs' := List.mem_map.2 ⟨r, hr, rfl⟩
  rw [h] at h1
  obtain ⟨q, hq, e⟩ := List.mem_map.1 h1
  injection e with e1 e2
  exact ⟨q, hq, e1, e2.symm⟩
theorem lightP {rs rs' : List TR} (h : tys rs' = tys rs) (hl : ∀ r ∈ rs, r.light) : ∀ r ∈ rs', r.light := by
  intro r hr
  obtain ⟨q, hq, -, e⟩ := tysP h r hr
  have h1 := hl q hq
  refine ⟨by rw [← rls_len, e, rls_len]; exact h1.1, fun x hx => ?_⟩
  obtain ⟨y, hy, -, e2⟩ := rlsP e x hx
  have h2 := h1.2 y hy
  exact ⟨by rw [← exs_len, e2, exs_len]; exact h2.1, exsP e2 h2.2⟩
theorem fitsP {rs rs' : List TR} (h : tys rs' = tys rs) (hl : ∀ r ∈ rs, r.fits) : ∀ r ∈ rs', r.fits := by
  intro r hr
  obtain ⟨q, hq, en, e⟩ := tysP h r hr
  have h1 := hl q hq
  refine ⟨by rw [← en]; exact h1.1, by rw [← rls_len, e, rls_len]; exact h1.2.1, fun x hx => ?_⟩
  obtain ⟨y, hy, en2, e2⟩ := rlsP e x hx
  have h2 := h1.2.2 y hy
  exact ⟨by rw [← en2]; exact h2.1, by rw [← exs_len, e2, exs_len]; exact h2.2.1, exsP e2 h2.2.2⟩
theorem lenP {rs rs' : List TR} (h : tys rs' = tys rs) : rs'.length = rs.length := by rw [← tys_len, h, tys_len]
end Go.Proofs.YtmghabcaakgjiaaGreat
