/- Contract of the program's leaf: a leaf with another name for a relation. -/
import Derived.Test.YtmghabcaakgjiaaGreatJ25
import Derived.Test.YtmghabcaakgjiaaGreatJ16
namespace Go.Proofs.YtmghabcaakgjiaaGreat
set_option maxRecDepth 100000
set_option linter.unusedVariables false
open Go.ChangeShapes Go.WideShapes Go.ChangeAt Go.RowKit Go.Maps
open Pl
theorem RnC.set {g b x y : Nat} {typ frm to : ByteArray} {w : World} {v : Value} (h : RnC g b typ frm to w) (hx : g ≠ x) : RnC g b typ frm to (w.setCell ⟨x, y, none⟩ v) := by
 have k : ∀ o, (w.setCell ⟨x, y, none⟩ v).cell? ⟨g, o, none⟩ = w.cell? ⟨g, o, none⟩ := fun o => World.cell?_of_block (a := ⟨g, o, none⟩) (Below.heap_setCell w _ _ g hx)
 exact ⟨by simpa using h.lt, (k 0).trans h.c0, (k 1).trans h.c1, (k 2).trans h.c2, (k 3).trans h.c3⟩
theorem leaf_end {w w1 w5 : World} {r q : ER} (hok : r.ok w) (hb1 : Below w.heap.size w w1) (hb5 : Below w1.heap.size w1 w5) (hK : q.adK = r.adK ∧ q.e.kids = r.e.kids)
  (hA : (q.adA = r.adA ∧ q.e.allow = r.e.allow) ∨ (SlA w5 q.adA q.e.allow ∧ (q.e.allow ≠ [] → ∃ g, q.adA = some ⟨g, 0, none⟩) ∧ ∀ g, q.e.allow ≠ [] → q.adA = some ⟨g, 0, none⟩ → w1.heap.size ≤ g ∧ g < w5.heap.size)) {W : World} (hW : W = w5.alloc (.cells #[.int .i64 q.e.kind, .slice q.adA q.e.allow.length q.capA, .string q.e.over, .string q.e.name, .slice q.adK q.e.kids.length q.capK] 50)) {n : Nat} (hnn : n = w5.heap.size) :
  Below w1.heap.size w1 W ∧ ∀ w2 : World, W.heap.size ≤ w2.heap.size → (∀ g, g < W.heap.size → (g < w.heap.size ∨ w1.heap.size ≤ g) → w2.heap[g]? = W.heap[g]?) → SlE w2 (some ⟨n, 0, none⟩) [q] := by
 subst hnn
 have hb6 : Below w5.heap.size w5 W := by rw [hW]; exact (Below.refl _ _).alloc (Nat.le_refl _) _
 have hbW : Below w1.heap.size w1 W := hb5.trans (hb6.mono hb5.size)
 refine ⟨hbW, fun w2 hs hk => ?_⟩
 have s1 := hb1.size
 have s5 := hb5.size
 have s6 := hb6.size
 have k1 : w.heap.size ≤ w2.heap.size := by omega
 have k2 : ∀ g, g < w.heap.size → w2.heap[g]? = w.heap[g]? := fun g hg => by rw [hk g (by omega) (.inl hg), hbW.block g (by omega), hb1.block g hg]
 have hn : w5.heap.size < W.heap.size := by rw [hW]; simp
 refine slE_one (w1 := W) (by rw [hW]; exact heap_alloc_new w5 _) hn hs (hk _ hn (.inr s5)) ⟨?_, ?_⟩
 ·rcases hA with ⟨e1, e2⟩ | ⟨h1, h2, h3⟩
  ·rw [e1, e2]; exact hok.1.keepB k1 k2
  ·refine h1.heap (by omega) h2 fun g hne e => ?_
   obtain ⟨h4, h5⟩ := h3 g hne e
   rw [hk g (by omega) (.inr h4), hb6.block g h5]
 ·rw [hK.1, hK.2]; exact hok.2.keepB k1 k2
theorem goal_is {ts : List Ty} {typ tn : ByteArray} {x : Ex} (h : directP (relOr ts tn x.over) = true) : inS (goalsI ts tn x.over x.name) typ = isGoal ts typ tn x := by
 unfold goalsI isGoal inS; rw [if_pos h]
theorem renN_self (typ frm to n : ByteArray) : renN typ frm to typ n = if n.toList == frm.toList then to else n := by
 unfold renN; simp
set_option maxHeartbeats 8000000 in
theorem renLeaf_c (b n : Nat) (rs : List TR) (ad : Option Addr) (M : ByteArray × ByteArray → Option Value) (typ frm to tn : ByteArray) (r : ER) (w : World) (hok : r.ok w) (hlA : r.e.allow.length ≤ 1048576) (hV : MapV encK Tryz.prog 73 w b n M) (hT : Tab rs M) (hs : SlT w ad rs) (hl : ∀ r ∈ rs, r.light) (hf : ∀ r ∈ rs, r.fits) (hg6 : (goalsI (tys rs) tn r.e.over r.e.name).length ≤ 1048576)
  (htn : tn.size ≤ maxLen) (ho : r.e.over.size ≤ maxLen) (hn : r.e.name.size ≤ maxLen) (hfr : frm.toList ≠ []) (hdir : r.e.kind = 3 → directP (relOr (tys rs) tn r.e.over) = true) :
  LeafC 32 #[.agg #[.map (some b), .string typ, .string frm, .string to]] #[] tn (fun x => [renX (tys rs) typ frm to tn x]) w r := by
 intro w1 hb1
 have HOK := toHX hok
 have HB1 := toHX hb1
 have HV := toHX (hV.below hb1)
 have HT := toHX hT
 have HS := toHX (hs.below hb1)
 have HL := toHX hl
 have HF := toHX hf
 have HFR := toHX hfr
 have HDIR := toHX hdir
 have HGL := toHX hg6
 obtain ⟨W1, hW1⟩ : ∃ W1, W1 = w1.alloc (.cells #[.map (some b), .string typ, .string frm, .string to] 59) := ⟨_, rfl⟩
 obtain ⟨W2, hW2⟩ : ∃ W2, W2 = W1.alloc (.cells #[.int .i64 r.e.kind, .slice r.adA r.e.allow.length r.capA, .string r.e.over, .string r.e.name, .slice r.adK r.e.kids.length r.capK] 50) := ⟨_, rfl⟩
 have z1 : W1.heap.size = w1.heap.size + 1 := by rw [hW1]; simp
 have z2 : W2.heap.size = w1.heap.size + 2 := by rw [hW2]; simp [z1]
 have b1 : Below w1.heap.size w1 W1 := by rw [hW1]; exact (Below.refl _ _).alloc (Nat.le_refl _) _
 have b2 : Below W1.heap.size W1 W2 := by rw [hW2]; exact (Below.refl _ _).alloc (Nat.le_refl _) _
 have HB2 : Hid (Below w1.heap.size w1 W2) := b1.trans (b2.mono b1.size)
 have r1 : RnC w1.heap.size b typ frm to W1 := by rw [hW1]; exact ⟨by simp, by simp, by simp, by simp, by simp⟩
 have HRN : Hid (RnC w1.heap.size b typ frm to W2) := r1.below b2
 have hxc := fun j => World.cell?_alloc_mark W1 #[.int .i64 r.e.kind, .slice r.adA r.e.allow.length r.capA, .string r.e.over, .string r.e.name, .slice r.adK r.e.kids.length r.capK] 50 (0, 0) j
 rw [← hW2, z1] at hxc
 have HBX : Hid (BX (w1.heap.size + 1) (.int .i64 r.e.kind) (.slice r.adA r.e.allow.length r.capA) (.string r.e.over) (.string r.e.name) (.slice r.adK r.e.kids.length r.capK) W2) := by
  refine ⟨by omega, by rw [hxc 0]; rfl, by rw [hxc 1]; rfl, by rw [hxc 2]; rfl, by rw [hxc 3]; rfl, by rw [hxc 4]; rfl, fun y => ?_⟩
  rw [hW2, ← z1]; simp
 have HSZ : Hid (W2.heap.size = w1.heap.size + 2) := z2
 have HWW : Hid ((w1.alloc (.cells #[.map (some b), .string typ, .string frm, .string to] 59)).alloc (.cells #[.int .i64 r.e.kind, .slice r.adA r.e.allow.length r.capA, .string r.e.over, .string r.e.name, .slice r.adK r.e.kids.length r.capK] 50) = W2) := by show _ = _; rw [hW2, hW1]
 have HSA2 : Hid (SlA W2 r.adA r.e.allow) := (hok.1.below hb1).below HB2.out
 have hrk : r.e.kind = 1 ∨ r.e.kind = 2 ∨ r.e.kind = 3 ∨ (r.e.kind ≠ 1 ∧ r.e.kind ≠ 2 ∧ r.e.kind ≠ 3) := by omega
 obtain ⟨q0, c0, c1, c2, c3⟩ := HRN.out
 obtain ⟨p0, d0, d1, d2, d3, d4, dz⟩ := HBX.out
 clear hok hb1 hV hT hs hl hf hfr hdir hg6 hW1 hW2 z1 z2 b1 b2 r1 hxc
 show Calls Tryz.prog 32 #[.agg #[.map (some b), .string typ, .string frm, .string to], .string tn, r.val] w1 _
 go_enter Tryz.func32, Tryz.ntmps32
 unfold ER.val
 rcases hrk with hk | hk | hk | ⟨hk1, hk2, hk3⟩
 ·have e1 : (r.e.kind == 1) = true := by simp [hk]
  have e2 : decide (r.e.kind = 1) = true := by simp [hk]
  have HX : Hid (renX (tys rs) typ frm to tn r.e = { r.e with allow := r.e.allow.map (renA typ frm to) }) := by show _ = _; unfold renX; rw [if_pos hk]
  clear hk
  go_wp2_with fail
  rw [HWW.out]
  refine (renAllow_any b typ frm to r.adA r.capA r.e.allow W2 hlA HSA2.out HFR.out).mono ?_
  rintro e w3 ⟨v3, rfl, hown3, hb3⟩
  obtain ⟨ad3, cap3, hv3, hs3, hz3, ho3⟩ := ownsA hown3 (by rw [List.length_map])
  rw [List.length_map] at hv3
  subst hv3
  have f1 := (HBX.out.below hb3).a1
  have f2 := (HBX.out.below hb3).fz
  have hbx := (HBX.out.below hb3).set1 (.slice ad3 r.e.allow.length cap3)
  have hbX : Below w1.heap.size w1 (w3.setCell ⟨w1.heap.size + 1, 1, none⟩ (.slice ad3 r.e.allow.length cap3)) := (HB2.out.trans (hb3.mono HB2.out.size)).setCell (by show _ ≤ w1.heap.size + 1; omega) _
  have hA : SlA (w3.setCell ⟨w1.heap.size + 1, 1, none⟩ (.slice ad3 r.e.allow.length cap3)) ad3 (r.e.allow.map (renA typ frm to)) ∧ (r.e.allow.map (renA typ frm to) ≠ [] → ∃ g, ad3 = some ⟨g, 0, none⟩) ∧ ∀ g, r.e.allow.map (renA typ frm to) ≠ [] → ad3 = some ⟨g, 0, none⟩ → w1.heap.size ≤ g ∧ g < (w3.setCell ⟨w1.heap.size + 1, 1, none⟩ (.slice ad3 r.e.allow.length cap3)).heap.size := by
   refine ⟨hs3.heap (by simp) hz3 fun g hne e => ?_, hz3, fun g hne e => ?_⟩
   ·refine Below.heap_setCell w3 _ _ g ?_
    have := (ho3 g hne e).1
    have := HSZ.out
    show g ≠ w1.heap.size + 1
    omega
   ·have h1 := (ho3 g hne e).1
    have h2 := (ho3 g hne e).2.1
    have := HSZ.out
    exact ⟨by omega, by simpa using h2⟩
  clear hown3 hs3 hz3 ho3 hb3 c0 c1 c2 c3 q0 d0 d1 d2 d3 d4 dz
  obtain ⟨W6, hW6⟩ : ∃ W6, W6 = (w3.setCell ⟨w1.heap.size + 1, 1, none⟩ (.slice ad3 r.e.allow.length cap3)).alloc (.cells #[.int .i64 r.e.kind, .slice ad3 r.e.allow.length cap3, .string r.e.over, .string r.e.name, .slice r.adK r.e.kids.length r.capK] 50) := ⟨_, rfl⟩
  have HEND := toHX (leaf_end (q := ⟨{ r.e with allow := r.e.allow.map (renA typ frm to) }, ad3, cap3, r.adK, r.capK⟩) HOK.out HB1.out hbX ⟨rfl, rfl⟩ (.inr hA) (W := W6) (by rw [hW6]; first | done | simp) (n := w3.heap.size) (by first | rfl | (simp; done) | (have := HSZ.out; omega)))
  obtain ⟨s0, t0, t1, t2, t3, t4, t5⟩ := hbx
  clear hbX
  go_wp2
  rw [← hW6]
  go_ret
  exact ⟨_, _, [⟨{ r.e with allow := r.e.allow.map (renA typ frm to) }, ad3, cap3, r.adK, r.capK⟩], rfl, by rw [HX.out]; rfl, HEND.out.1, HEND.out.2⟩
 ·have e1 : (r.e.kind == 1) = false := by simp [hk]
  have e2 : decide (r.e.kind = 1) = false := by simp [hk]
  have e3 : (r.e.kind == 2) = true := by simp [hk]
  have e4 : decide (r.e.kind = 2) = true := by simp [hk]
  have HX : Hid (renX (tys rs) typ frm to tn r.e = { r.e with name := renN typ frm to tn r.e.name }) := by show _ = _; unfold renX; rw [if_neg (by omega), if_pos hk]
  clear hk
  go_wp2_with fail
  rw [HWW.out]
  refine (renName_any (some b) typ frm to tn r.e.name W2 HFR.out).mono ?_
  rintro e w3 ⟨rfl, hb3⟩
  obtain ⟨nm, hnm⟩ : ∃ nm, nm = renN typ frm to tn r.e.name := ⟨_, rfl⟩
  rw [← hnm] at HX ⊢
  have f1 := (HBX.out.below hb3).a3
  have f2 := (HBX.out.below hb3).fz
  have hbx := (HBX.out.below hb3).set3 (.string nm)
  have hbX : Below w1.heap.size w1 (w3.setCell ⟨w1.heap.size + 1, 3, none⟩ (.string nm)) := (HB2.out.trans (hb3.mono HB2.out.size)).setCell (by show _ ≤ w1.heap.size + 1; omega) _
  clear hb3 hnm c0 c1 c2 c3 q0 d0 d1 d2 d3 d4 dz
  obtain ⟨W6, hW6⟩ : ∃ W6, W6 = (w3.setCell ⟨w1.heap.size + 1, 3, none⟩ (.string nm)).alloc (.cells #[.int .i64 r.e.kind, .slice r.adA r.e.allow.length r.capA, .string r.e.over, .string nm, .slice r.adK r.e.kids.length r.capK] 50) := ⟨_, rfl⟩
  have HEND := toHX (leaf_end (q := ⟨{ r.e with name := nm }, r.adA, r.capA, r.adK, r.capK⟩) HOK.out HB1.out hbX ⟨rfl, rfl⟩ (.inl ⟨rfl, rfl⟩) (W := W6) (by rw [hW6]; first | done | simp) (n := w3.heap.size) (by first | rfl | (simp; done) | (have := HSZ.out; omega)))
  obtain ⟨s0, t0, t1, t2, t3, t4, t5⟩ := hbx
  clear hbX
  go_wp2
  rw [← hW6]
  go_ret
  exact ⟨_, _, [⟨{ r.e with name := nm }, r.adA, r.capA, r.adK, r.capK⟩], rfl, by rw [HX.out]; rfl, HEND.out.1, HEND.out.2⟩
 ·have e1 : (r.e.kind == 1) = false := by simp [hk]
  have e2 : decide (r.e.kind = 1) = false := by simp [hk]
  have e3 : (r.e.kind == 2) = false := by simp [hk]
  have e4 : decide (r.e.kind = 2) = false := by simp [hk]
  have e5 : (r.e.kind == 3) = true := by simp [hk]
  have e6 : decide (r.e.kind = 3) = true := by simp [hk]
  have HGO : Hid (inS (goalsI (tys rs) tn r.e.over r.e.name) typ = isGoal (tys rs) typ tn r.e) := goal_is (HDIR.out hk)
  have HX0 : Hid (renX (tys rs) typ frm to tn r.e = { r.e with over := renN typ frm to tn r.e.over, name := if isGoal (tys rs) typ tn r.e && r.e.name.toList == frm.toList then to else r.e.name }) := by show _ = _; unfold renX; rw [if_neg (by omega), if_neg (by omega), if_pos hk]
  clear hk
  go_wp2_with fail
  rw [HWW.out]
  have HKP : Hid (∀ x1 x3 : World, (x1.cell? ⟨w1.heap.size, 0, none⟩ = some (.map (some b)) ∧ x1.cell? ⟨w1.heap.size, 1, none⟩ = some (.string typ) ∧ x1.cell? ⟨w1.heap.size + 1, 0, none⟩ = some (.int .i64 r.e.kind) ∧ x1.cell? ⟨w1.heap.size + 1, 1, none⟩ = some (.slice r.adA r.e.allow.length r.capA) ∧ x1.cell? ⟨w1.heap.size + 1, 2, none⟩ = some (.string r.e.over) ∧ x1.cell? ⟨w1.heap.size + 1, 3, none⟩ = some (.string r.e.name) ∧ x1.cell? ⟨w1.heap.size + 1, 4, none⟩ = some (.slice r.adK r.e.kids.length r.capK) ∧ Below W2.heap.size W2 x1) → Below x1.heap.size x1 x3 → (x3.cell? ⟨w1.heap.size, 0, none⟩ = some (.map (some b)) ∧ x3.cell? ⟨w1.heap.size, 1, none⟩ = some (.string typ) ∧ x3.cell? ⟨w1.heap.size + 1, 0, none⟩ = some (.int .i64 r.e.kind) ∧ x3.cell? ⟨w1.heap.size + 1, 1, none⟩ = some (.slice r.adA r.e.allow.length r.capA) ∧ x3.cell? ⟨w1.heap.size + 1, 2, none⟩ = some (.string r.e.over) ∧ x3.cell? ⟨w1.heap.size + 1, 3, none⟩ = some (.string r.e.name) ∧ x3.cell? ⟨w1.heap.size + 1, 4, none⟩ = some (.slice r.adK r.e.kids.length r.capK) ∧ Below W2.heap.size W2 x3)) := fun x1 x3 h hb => by
   obtain ⟨g0, g1, g2, g3, g4, g5, g6, hB⟩ := h
   have hz := hB.size
   exact ⟨kept hb (Nat.lt_of_lt_of_le q0 hz) g0, kept hb (Nat.lt_of_lt_of_le q0 hz) g1, kept hb (Nat.lt_of_lt_of_le p0 hz) g2, kept hb (Nat.lt_of_lt_of_le p0 hz) g3, kept hb (Nat.lt_of_lt_of_le p0 hz) g4, kept hb (Nat.lt_of_lt_of_le p0 hz) g5, kept hb (Nat.lt_of_lt_of_le p0 hz) g6, hB.trans (hb.mono hz)⟩
  have HBS : Hid (∀ x1 : World, (x1.cell? ⟨w1.heap.size, 0, none⟩ = some (.map (some b)) ∧ x1.cell? ⟨w1.heap.size, 1, none⟩ = some (.string typ) ∧ x1.cell? ⟨w1.heap.size + 1, 0, none⟩ = some (.int .i64 r.e.kind) ∧ x1.cell? ⟨w1.heap.size + 1, 1, none⟩ = some (.slice r.adA r.e.allow.length r.capA) ∧ x1.cell? ⟨w1.heap.size + 1, 2, none⟩ = some (.string r.e.over) ∧ x1.cell? ⟨w1.heap.size + 1, 3, none⟩ = some (.string r.e.name) ∧ x1.cell? ⟨w1.heap.size + 1, 4, none⟩ = some (.slice r.adK r.e.kids.length r.capK) ∧ Below W2.heap.size W2 x1) → Below w1.heap.size w1 x1) := fun x1 h => HB2.out.trans (h.2.2.2.2.2.2.2.mono HB2.out.size)
  go_region_held3 (fun w' => w'.cell? ⟨w1.heap.size, 0, none⟩ = some (.map (some b)) ∧ w'.cell? ⟨w1.heap.size, 1, none⟩ = some (.string typ) ∧ w'.cell? ⟨w1.heap.size + 1, 0, none⟩ = some (.int .i64 r.e.kind) ∧ w'.cell? ⟨w1.heap.size + 1, 1, none⟩ = some (.slice r.adA r.e.allow.length r.capA) ∧ w'.cell? ⟨w1.heap.size + 1, 2, none⟩ = some (.string r.e.over) ∧ w'.cell? ⟨w1.heap.size + 1, 3, none⟩ = some (.string r.e.name) ∧ w'.cell? ⟨w1.heap.size + 1, 4, none⟩ = some (.slice r.adK r.e.kids.length r.capK) ∧ Below W2.heap.size W2 w')
   (first | assumption | exact HKP.out _ _ (by assumption) hbx | exact ⟨c0, c1, d0, d1, d2, d3, d4, (Below.refl _ _).drew⟩)
   (first | (go_at_call 50; refine (goalsOf_any b n rs ad M tn r _ (HV.out.below (HBS.out _ (by assumption))) HT.out (HS.out.below (HBS.out _ (by assumption))) HL.out HF.out htn ho hn).mono ?_; rintro e w' ⟨⟨adg, capg, rfl, hsg, -⟩, hbx⟩) | (go_at_call 49; refine (containsS_any adg capg _ typ _ HGL.out hsg).mono ?_; rintro e w' ⟨rfl, rfl⟩))
  rename_i hH
  obtain ⟨-, -, -, -, -, -, -, hB3⟩ := hH
  have hrn3 := HRN.out.below hB3
  have hbx3 := HBX.out.below hB3
  have HB3 := toHX (HB2.out.trans (hB3.mono HB2.out.size))
  have HRN3 := toHX hrn3
  have HBX3 := toHX hbx3
  clear c0 c1 c2 c3 q0 d0 d1 d2 d3 d4 dz p0 hsg hbx hB3
  obtain ⟨q0, c0, c1, c2, c3⟩ := hrn3
  obtain ⟨p0, d0, d1, d2, d3, d4, dz⟩ := hbx3
  rw [HGO.out]
  go_wp2_with fail
  refine (renName_any (some b) typ frm to tn r.e.over _ HFR.out).mono ?_
  rintro e w4 ⟨rfl, hb4⟩
  obtain ⟨ov, hov⟩ : ∃ ov, ov = renN typ frm to tn r.e.over := ⟨_, rfl⟩
  rw [← hov] at HX0 ⊢
  have f1 := (HBX3.out.below hb4).a2
  have f2 := (HBX3.out.below hb4).fz
  have hbx := (HBX3.out.below hb4).set2 (.string ov)
  have hrn4 := (HRN3.out.below hb4).set (x := w1.heap.size + 1) (y := 2) (v := .string ov) (by omega)
  have hbX : Below w1.heap.size w1 (w4.setCell ⟨w1.heap.size + 1, 2, none⟩ (.string ov)) := (HB3.out.trans (hb4.mono HB3.out.size)).setCell (by show _ ≤ w1.heap.size + 1; omega) _
  clear hb4 hov c0 c1 c2 c3 q0 d0 d1 d2 d3 d4 dz p0
  cases hgo : isGoal (tys rs) typ tn r.e with
  | false =>
   have HX : Hid (renX (tys rs) typ frm to tn r.e = { r.e with over := ov }) := by show _ = _; rw [HX0.out, hgo]; rfl
   clear hgo hrn4
   obtain ⟨W6, hW6⟩ : ∃ W6, W6 = (w4.setCell ⟨w1.heap.size + 1, 2, none⟩ (.string ov)).alloc (.cells #[.int .i64 r.e.kind, .slice r.adA r.e.allow.length r.capA, .string ov, .string r.e.name, .slice r.adK r.e.kids.length r.capK] 50) := ⟨_, rfl⟩
   have HEND := toHX (leaf_end (q := ⟨{ r.e with over := ov }, r.adA, r.capA, r.adK, r.capK⟩) HOK.out HB1.out hbX ⟨rfl, rfl⟩ (.inl ⟨rfl, rfl⟩) (W := W6) (by rw [hW6]; first | done | simp) (n := w4.heap.size) (by first | rfl | (simp; done) | (have := HSZ.out; omega)))
   obtain ⟨s0, t0, t1, t2, t3, t4, t5⟩ := hbx
   clear hbX
   go_wp2
   rw [← hW6]
   go_ret
   exact ⟨_, _, [⟨{ r.e with over := ov }, r.adA, r.capA, r.adK, r.capK⟩], rfl, by rw [HX.out]; rfl, HEND.out.1, HEND.out.2⟩
  | true =>
   obtain ⟨nm, hnm⟩ : ∃ nm, nm = renN typ frm to typ r.e.name := ⟨_, rfl⟩
   have HX : Hid (renX (tys rs) typ frm to tn r.e = { r.e with over := ov, name := nm }) := by show _ = _; rw [HX0.out, hgo, hnm, renN_self]; rfl
   obtain ⟨X4, hX4⟩ : ∃ X4, X4 = w4.setCell ⟨w1.heap.size + 1, 2, none⟩ (.string ov) := ⟨_, rfl⟩
   have HBX4 : Hid (BX (w1.heap.size + 1) (.int .i64 r.e.kind) (.slice r.adA r.e.allow.length r.capA) (.string ov) (.string r.e.name) (.slice r.adK r.e.kids.length r.capK) X4) := by rw [hX4]; exact hbx
   have HB4 : Hid (Below w1.heap.size w1 X4) := by rw [hX4]; exact hbX
   obtain ⟨q0, c0, c1, c2, c3⟩ := hrn4
   obtain ⟨p0, d0, d1, d2, d3, d4, dz⟩ := hbx
   clear hgo hbX
   go_wp2_with fail
   rw [← hX4]
   clear hX4 c0 c1 c2 c3 q0 d0 d1 d2 d3 d4 dz p0 f1 f2
   refine (renName_any (some b) typ frm to typ r.e.name X4 HFR.out).mono ?_
   rintro e w5 ⟨rfl, hb5⟩
   rw [← hnm]
   have f1 := (HBX4.out.below hb5).a3
   have f2 := (HBX4.out.below hb5).fz
   have hbx := (HBX4.out.below hb5).set3 (.string nm)
   have hbX : Below w1.heap.size w1 (w5.setCell ⟨w1.heap.size + 1, 3, none⟩ (.string nm)) := (HB4.out.trans (hb5.mono HB4.out.size)).setCell (by show _ ≤ w1.heap.size + 1; omega) _
   clear hb5 hnm
   obtain ⟨W6, hW6⟩ : ∃ W6, W6 = (w5.setCell ⟨w1.heap.size + 1, 3, none⟩ (.string nm)).alloc (.cells #[.int .i64 r.e.kind, .slice r.adA r.e.allow.length r.capA, .string ov, .string nm, .slice r.adK r.e.kids.length r.capK] 50) := ⟨_, rfl⟩
   have HEND := toHX (leaf_end (q := ⟨{ r.e with over := ov, name := nm }, r.adA, r.capA, r.adK, r.capK⟩) HOK.out HB1.out hbX ⟨rfl, rfl⟩ (.inl ⟨rfl, rfl⟩) (W := W6) (by rw [hW6]; first | done | simp) (n := w5.heap.size) (by first | rfl | (simp; done) | (have := HSZ.out; omega)))
   obtain ⟨s0, t0, t1, t2, t3, t4, t5⟩ := hbx
   clear hbX
   go_wp2
   rw [← hW6]
   go_ret
   exact ⟨_, _, [⟨{ r.e with over := ov, name := nm }, r.adA, r.capA, r.adK, r.capK⟩], rfl, by rw [HX.out]; rfl, HEND.out.1, HEND.out.2⟩
 ·have e1 : (r.e.kind == 1) = false := by simp [hk1]
  have e2 : decide (r.e.kind = 1) = false := by simp [hk1]
  have e3 : (r.e.kind == 2) = false := by simp [hk2]
  have e4 : decide (r.e.kind = 2) = false := by simp [hk2]
  have e5 : (r.e.kind == 3) = false := by simp [hk3]
  have e6 : decide (r.e.kind = 3) = false := by simp [hk3]
  have HX : Hid (renX (tys rs) typ frm to tn r.e = r.e) := by show _ = _; unfold renX; rw [if_neg hk1, if_neg hk2, if_neg hk3]
  clear hk1 hk2 hk3
  have hbx := HBX.out
  have hbX := HB2.out
  clear c0 c1 c2 c3 q0 d0 d1 d2 d3 d4 dz
  obtain ⟨W6, hW6⟩ : ∃ W6, W6 = (W2).alloc (.cells #[.int .i64 r.e.kind, .slice r.adA r.e.allow.length r.capA, .string r.e.over, .string r.e.name, .slice r.adK r.e.kids.length r.capK] 50) := ⟨_, rfl⟩
  have HEND := toHX (leaf_end (q := r) HOK.out HB1.out hbX ⟨rfl, rfl⟩ (.inl ⟨rfl, rfl⟩) (W := W6) (by rw [hW6]; first | done | simp) (n := w1.heap.size + 1 + 1) (by first | rfl | (simp; done) | (have := HSZ.out; omega)))
  obtain ⟨s0, t0, t1, t2, t3, t4, t5⟩ := hbx
  clear hbX
  go_wp2
  rw [HWW.out]
  rw [← hW6]
  go_ret
  exact ⟨_, _, [r], rfl, by rw [HX.out]; rfl, HEND.out.1, HEND.out.2⟩
end Go.Proofs.YtmghabcaakgjiaaGreat
