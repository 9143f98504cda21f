/- The drawing of an expression: what is read of a drawn text, a node of it changed now and then. -/
import Derived.Test.YtjmbgpdbnffkpaaJ12
import Derived.Test.YtjmbgpdbnffkpaaJ7
import Derived.Test.YtjmbgpdbnffkpaaJ9
namespace Go.Proofs.Ytjmbgpdbnffkpaa
set_option maxRecDepth 100000
set_option linter.unusedVariables false
open Go.ChangeShapes Go.WideShapes Go.ChangeAt Go.RowKit
open Pl

def DXPost (w : World) (e : Ending) (w' : World) : Prop := ∃ adE capE qs, e = .returned (.slice adE qs.length capE) ∧ GoodQ qs ∧ SlE w' adE qs ∧ Below w.heap.size w w'
theorem dx_mk {w w' : World} {ad : Option Addr} {n cap : Nat} {qs : List ER} (hn : n = qs.length) (h1 : GoodQ qs) (h2 : SlE w' ad qs) (h3 : Below w.heap.size w w') : DXPost w (.returned (.slice ad n cap)) w' := ⟨ad, cap, qs, by rw [hn], h1, h2, h3⟩
theorem ok_far {w : World} {base g : Nat} {qs : List ER} (h : EQm w base g qs) {i : Nat} (hi : i < qs.length) (o : Nat) (v : Value) : qs[i].ok (w.setCell ⟨g, o, none⟩ v) := by
  have hm := List.getElem_mem hi
  exact ok_heap (h.ok _ hm) (by simp) (h.zA _ hm) (h.zK _ hm) fun k hk => Below.heap_setCell w ⟨g, _, none⟩ v k (h.lie _ hm k hk).2.2

theorem KidO.own {w : World} {base : Nat} {q : ER} (h : KidO w base q) : w.ownsRow base 2 1 (.slice q.adK q.e.kids.length q.capK) q.e.kids.length (ints q.e.kids) := by
  rcases h with ⟨h1, h2, h3⟩ | ⟨-, h⟩
  · rw [h1, h2, h3]; exact World.ownsRow_nil _ _ _ _
  · exact h
def kidsV (q : ER) : Value := .slice q.adK q.e.kids.length q.capK
theorem EQm.blk {w : World} {base g : Nat} {qs : List ER} (h : EQm w base g qs) {i : Nat} (hi : i < qs.length) : ∀ k, (kidsV qs[i]).ownBlock = some k → bK qs[i] k := by
  intro k hk
  have hm := List.getElem_mem hi
  by_cases e : qs[i].e.kids = []
  · rcases h.cK _ hm with ⟨h1, h2, h3⟩ | ⟨h1, -⟩
    · simp [kidsV, h2, Value.ownBlock] at hk
    · exact absurd e h1
  · obtain ⟨k', ek⟩ := h.zK _ hm e
    have : k' = k := by simpa [kidsV, ek, Value.ownBlock] using hk
    subst this
    exact ⟨e, ek⟩
structure FX (B base g : Nat) (qs : List ER) (i : Nat) (Q : ER) : Prop where
  low : ∀ k, (kidsV Q).ownBlock = some k → k < B
  ng : ∀ q ∈ qs, ∀ k, inR q k → k ≠ g
  at_ : ∀ k, (kidsV Q).ownBlock = some k → base ≤ k ∧ k ≠ g ∧ (∀ (x : Nat) (h : x < qs.length), x ≠ i → ¬ inR qs[x] k) ∧ ¬ bA Q k
  zA : ∀ q ∈ qs, q.e.allow ≠ [] → ∃ k, q.adA = some ⟨k, 0, none⟩
  zK : ∀ q ∈ qs, q.e.kids ≠ [] → ∃ k, q.adK = some ⟨k, 0, none⟩
  bg : base ≤ g
  mem : Q ∈ qs
theorem EQm.fx {w : World} {base g : Nat} {qs : List ER} (h : EQm w base g qs) {i : Nat} (hi : i < qs.length) : FX w.heap.size base g qs i qs[i] :=
  ⟨fun k hk => (h.lie _ (List.getElem_mem hi) k (.inr (h.blk hi k hk))).2.1, fun q hq k hk => (h.lie q hq k hk).2.2, fun k hk => by
    have hb := h.blk hi k hk
    have hl := h.lie _ (List.getElem_mem hi) k (.inr hb)
    exact ⟨hl.1, hl.2.2, fun x hx hne hin => h.two x i hx hi hne k hin (.inr hb), fun ha => h.one _ (List.getElem_mem hi) k ha hb⟩, h.zA, h.zK, h.lt.1, List.getElem_mem hi⟩
structure GX (R : Nat) (ad : Option Addr) (len cap : Nat) (W W6 : World) (base g : Nat) (qs : List ER) (i : Nat) (Q : ER) (listed : Array Bool) (w' : World) : Prop where
  rd : Rd w' R ad len cap
  bel : Below W.heap.size W w'
  sz : W6.heap.size ≤ w'.heap.size
  bs : base ≤ w'.heap.size
  lt : g < w'.heap.size
  free : Free w' g
  row : ∀ (x : Nat) (h : x < qs.length), At5 w' g (x * 5) qs[x]
  ok : ∀ (x : Nat) (h : x < qs.length), x ≠ i → qs[x].ok w'
  lie : ∀ q ∈ qs, ∀ k, inR q k → base ≤ k ∧ k < w'.heap.size
  alw : SlA w' Q.adA Q.e.allow
  own : listed.getD 11 false = false → w'.ownsRow base 2 1 (kidsV Q) Q.e.kids.length (ints Q.e.kids)
theorem GX.keep {R : Nat} {ad : Option Addr} {len cap : Nat} {W W6 : World} {base g : Nat} {qs : List ER} {i : Nat} {Q : ER} {listed listed' : Array Bool} {w' w'' : World} (h : GX R ad len cap W W6 base g qs i Q listed w') (F : FX W6.heap.size base g qs i Q) (hs : w'.heap.size ≤ w''.heap.size) (hh : ∀ k, base ≤ k → k < w'.heap.size → (kidsV Q).ownBlock ≠ some k → w''.heap[k]? = w'.heap[k]?) (hr : Rd w'' R ad len cap) (hb : Below W.heap.size W w'') (ho : listed'.getD 11 false = false → w''.ownsRow base 2 1 (kidsV Q) Q.e.kids.length (ints Q.e.kids)) : GX R ad len cap W W6 base g qs i Q listed' w'' := by
  have hg : w''.heap[g]? = w'.heap[g]? := hh g F.bg h.lt (fun e => (F.at_ g e).2.1 rfl)
  refine ⟨hr, hb, Nat.le_trans h.sz hs, Nat.le_trans h.bs hs, Nat.lt_of_lt_of_le h.lt hs, free_heap h.free hg, fun x hx => (h.row x hx).same fun o => World.cell?_of_block (w := w') (a := ⟨g, o, none⟩) hg, fun x hx hne => ?_, fun q hq k hk => ⟨(h.lie q hq k hk).1, Nat.lt_of_lt_of_le (h.lie q hq k hk).2 hs⟩, ?_, ho⟩
  · have hm := List.getElem_mem hx
    exact ok_heap (h.ok x hx hne) hs (F.zA _ hm) (F.zK _ hm) fun k hk => hh k (h.lie _ hm k hk).1 (h.lie _ hm k hk).2 (fun e => (F.at_ k e).2.2.1 x hx hne hk)
  · exact SlA.heap h.alw hs (F.zA _ F.mem) fun k hn hk => hh k (h.lie _ F.mem k (.inl ⟨hn, hk⟩)).1 (h.lie _ F.mem k (.inl ⟨hn, hk⟩)).2 (fun e => (F.at_ k e).2.2.2 ⟨hn, hk⟩)
theorem off11 {listed : Array Bool} {j : Nat} (hls : listed.size = 15) (hj : j < 15) (hne : j ≠ 11) (h : (listed.setIfInBounds j true).getD 11 false = false) : listed.getD 11 false = false := by
  rw [getF_set' _ _ _ (by omega), if_neg (Ne.symm hne)] at h; exact h
theorem GX.step {R : Nat} {ad : Option Addr} {len cap : Nat} {W W6 : World} {base g : Nat} {qs : List ER} {i : Nat} {Q : ER} {listed : Array Bool} {w' : World} (h : GX R ad len cap W W6 base g qs i Q listed w') (j : Nat) (hls : listed.size = 15) (hj : j < 15) (hne : j ≠ 11) : GX R ad len cap W W6 base g qs i Q (listed.setIfInBounds j true) w' :=
  ⟨h.rd, h.bel, h.sz, h.bs, h.lt, h.free, h.row, h.ok, h.lie, h.alw, fun k => h.own (off11 hls hj hne k)⟩
def VX (l : List Value) (R g : Nat) (kv : Value) (n : Nat) (k : Nat) (u : Value) (w' : World) : Prop :=
  (k ≠ 9 ∧ k ≠ 10 ∧ k ≠ 11 → u = l.getD k undef) ∧ (k = 9 → ∃ z : Int, u = .int .i64 z) ∧
  (k = 10 → ∃ c z, u = .slice (some ⟨c, 0, none⟩) 1 1 ∧ c < w'.heap.size ∧ c ≠ R ∧ kv.ownBlock ≠ some c ∧ w'.cell? ⟨c, 0, none⟩ = some (.int .i64 z)) ∧
  (k = 11 → ∃ b cp zs, u = .slice (some ⟨b, 0, none⟩) (n + 1) cp ∧ zs.length = n + 1 ∧ b ≠ R ∧ b ≠ g ∧ SlI w' (some ⟨b, 0, none⟩) zs)
theorem VX.at {l : List Value} {R g : Nat} {kv : Value} {n k : Nat} {u : Value} {w' : World} (h : k ≠ 9 ∧ k ≠ 10 ∧ k ≠ 11) (hu : u = l.getD k undef) : VX l R g kv n k u w' := ⟨fun _ => hu, fun e => absurd e h.1, fun e => absurd e h.2.1, fun e => absurd e h.2.2⟩
theorem VX.keep {l : List Value} {R g : Nat} {kv : Value} {n : Nat} {w' w'' : World} (hs : w'.heap.size ≤ w''.heap.size) (hc : ∀ b, b < w'.heap.size → b ≠ R → kv.ownBlock ≠ some b → w''.heap[b]? = w'.heap[b]?) {k : Nat} {u : Value} (h11 : k = 11 → ∀ b, b < w'.heap.size → b ≠ R → w''.heap[b]? = w'.heap[b]?) (h : VX l R g kv n k u w') : VX l R g kv n k u w'' := by
  refine ⟨h.1, h.2.1, fun e => ?_, fun e => ?_⟩
  · obtain ⟨c, z, e1, e2, e3, e4, e5⟩ := h.2.2.1 e
    exact ⟨c, z, e1, Nat.lt_of_lt_of_le e2 hs, e3, e4, (World.cell?_of_block (w := w') (a := ⟨c, 0, none⟩) (hc c e2 e3 e4)).trans e5⟩
  · obtain ⟨b, cp, zs, e1, e2, e3, e4, e5⟩ := h.2.2.2 e
    refine ⟨b, cp, zs, e1, e2, e3, e4, SlI.heap e5 hs (fun _ => ⟨b, rfl⟩) fun k hn hk => ?_⟩
    injection hk with hk; injection hk with hk
    subst hk
    rcases e5 with e5 | ⟨b', off, e6, e7, -⟩
    · exact absurd e5 hn
    · injection e6 with e6; injection e6 with e6
      subst e6
      exact h11 e b e7 e3

set_option maxHeartbeats 8000000 in
theorem drawExprOk_any (ad : Option Addr) (len cap : Nat) (w : World) (h : Bytes w ad len) :
    Calls Try.prog 37 #[.slice ad len cap] w (DXPost w) := by
  have H := toH h
  clear h
  go_enter Try.func37, Try.ntmps37
  go_wp2_with fail
  refine (open_any ad len cap _ H.out).mono ?_
  rintro e w1 ⟨rfl, hR1, hb1⟩
  have HR1 := toH hR1
  have HB1 := toH hb1
  clear hR1 hb1
  go_wp2_with fail
  refine (relText_190 w.heap.size ad len cap 2 _ (by omega) HR1.out).mono ?_
  rintro e w2 ⟨⟨s, rfl, hs⟩, hR2, hO2⟩
  have HR2 := toH hR2
  have HB2 : Hid (Below w.heap.size w w2) := Only.toBelow HB1.out hO2 HB1.out.size (Nat.le_refl _)
  have hRw2 := hR2.lt
  clear hR2 hO2 HR1 HB1
  go_wp2_with fail
  refine (specReadExpr_any s _).mono ?_
  rintro e w3 ⟨hb3, ⟨h1, rfl⟩ | ⟨h1, v, R3, qs, rfl, hF⟩⟩
  · have HR3 : Hid (Rd w3 w.heap.size ad len cap) := HR2.out.below hb3
    have HB3 : Hid (Below w.heap.size w w3) := HB2.out.trans (hb3.mono HB2.out.size)
    clear hb3 HR2 HB2 h1
    go_wp2_with fail
    refine (once_any w.heap.size ad len cap 4 _ HR3.out (by omega) (by omega)).mono ?_
    rintro e w4 ⟨⟨q, rfl⟩, hR4, hO4⟩
    have HB4 : Hid (Below w.heap.size w w4) := Only.toBelow HB3.out hO4 HB3.out.size (Nat.le_refl _)
    clear hR4 hO4 HR3 HB3
    cases q with
    | true =>
      go_wp2
      go_ret
      exact dx_mk (qs := []) rfl ⟨by simp, by simp⟩ (.inl rfl) HB4.out
    | false =>
      go_wp2
      go_ret
      exact dx_mk (qs := []) rfl ⟨by simp, by simp⟩ (.inl rfl) HB4.out
  have HR3 : Hid (Rd w3 w.heap.size ad len cap) := HR2.out.below hb3
  have HB3 : Hid (Below w.heap.size w w3) := HB2.out.trans (hb3.mono HB2.out.size)
  have hgd : GoodQ qs ∧ qs ≠ [] ∧ ∀ r ∈ qs, SmE s r.e := by
    unfold readB at h1
    simp only [Bool.and_eq_true, decide_eq_true_eq] at h1
    have hE := h1.1.2
    simp only [specE, Bool.and_eq_true, decide_eq_true_eq] at hE
    have hl : qs.length = (endR s).out.length := by rw [← hF.out, exs_len]
    have hm : ∀ r ∈ qs, SmE s r.e := fun r hr => rdP_sm (s := s) (2 * s.size + 2) true ⟨0, false, []⟩ (Nat.zero_le _) (fun e he => by cases he) r.e (by
      have : r.e ∈ exs qs := List.mem_map.2 ⟨r, hr, rfl⟩
      rw [hF.out] at this; exact this)
    refine ⟨⟨by rw [hl]; exact hE.1.1.1.1.2, fun r hr => ⟨((hm r hr).light (by omega)).1, ((hm r hr).light (by omega)).2, hF.cA r hr⟩⟩, fun e => ?_, hm⟩
    have := hE.1.1.1.1.1
    rw [← hl, e] at this
    simp at this
  obtain ⟨hG, hne, hSm⟩ := hgd
  have HG := toH hG
  have HSm := toH hSm
  obtain ⟨g, cp, rfl, hE⟩ := hF.eqm hne
  obtain ⟨base, hbs⟩ : ∃ base, base = w2.heap.size + 1 := ⟨_, rfl⟩
  rw [← hbs] at hE
  have HBS := toH hbs
  have hRb : w.heap.size < base := by omega
  have hlen : qs.length ≤ 15 := hG.1
  have hl0 : 0 < qs.length := List.length_pos_iff.2 hne
  have hl1 : decide ((0 : Int) < (qs.length : Int)) = true := by simp; omega
  have HE3 := toH hE
  have HRB := toH HR2.out
  clear hb3 HR2 HB2 h1 hF hG hSm hne hbs hE hRw2
  go_wp2_with fail
  refine (once_any w.heap.size ad len cap 4 _ HR3.out (by omega) (by omega)).mono ?_
  rintro e w4 ⟨⟨q, rfl⟩, hR4, hO4⟩
  have HR4 := toH hR4
  have HB4 : Hid (Below w.heap.size w w4) := Only.toBelow HB3.out hO4 HB3.out.size (Nat.le_refl _)
  have HE4 := toH (HE3.out.only hRb hO4)
  clear hR4 hO4 HR3 HB3 HE3
  cases q with
  | false =>
    have HSL : Hid (SlE w4 (some ⟨g, 0, none⟩) qs) := .inr ⟨g, 0, rfl, HE4.out.lt.2, fun x hx => by rw [Nat.zero_add]; exact HE4.out.row x hx, HE4.out.ok⟩
    go_wp2
    go_ret
    exact dx_mk rfl HG.out HSL.out HB4.out
  | true =>
    go_wp2_with fail
    refine (below_nat w.heap.size ad len cap qs.length _ HR4.out (by omega) (by omega)).mono ?_
    rintro e w5 ⟨⟨i, rfl, hi⟩, hR5, hO5⟩
    have HR5 := toH hR5
    have HB5 : Hid (Below w.heap.size w w5) := Only.toBelow HB4.out hO5 HB4.out.size (Nat.le_refl _)
    have HE5 := toH (HE4.out.only hRb hO5)
    clear hR5 hO5 HR4 HB4 HE4
    go_wp2_with fail
    refine (below_nat w.heap.size ad len cap 3 _ HR5.out (by omega) (by omega)).mono ?_
    rintro e w6 ⟨⟨y, rfl, hy⟩, hR6, hO6⟩
    have HR6 := toH hR6
    have HB6 : Hid (Below w.heap.size w w6) := Only.toBelow HB5.out hO6 HB5.out.size (Nat.le_refl _)
    have HE6 := toH (HE5.out.only hRb hO6)
    have hi0 : (0 : Int) ≤ (i : Int) := by omega
    have hi1 : (i : Int) < (qs.length : Int) := by omega
    have HI := toH hi
    clear hR6 hO6 HR5 HB5 HE5
    have hy3 : y = 0 ∨ y = 1 ∨ y = 2 := by omega
    clear hy
    rcases hy3 with rfl | rfl | rfl
    · go_wp2_with fail
      refine (off_any w.heap.size ad len cap _ HR6.out).mono ?_
      rintro e w7 ⟨⟨z, rfl⟩, hR7, hO7⟩
      have HB7 : Hid (Below w.heap.size w w7) := Only.toBelow HB6.out hO7 HB6.out.size (Nat.le_refl _)
      have HE7 := toH (HE6.out.only hRb hO7)
      obtain ⟨c0, c1, c2, c3, c4⟩ := HE7.out.row i hi
      have hfr := HE7.out.free (i * 5)
      have HSL : Hid (SlE (w7.setCell ⟨g, i * 5 + 0, none⟩ (.int .i64 z)) (some ⟨g, 0, none⟩) (qs.set i { qs[i] with e := { qs[i].e with kind := z } })) := by
        refine HE7.out.put hi (by omega) ⟨World.cell?_setCell_same _ _ _ c0, ?_, ?_, ?_, ?_⟩ (ok_far HE7.out hi _ _)
        · rw [cell_put (by omega)]; exact c1
        · rw [cell_put (by omega)]; exact c2
        · rw [cell_put (by omega)]; exact c3
        · rw [cell_put (by omega)]; exact c4
      have HGS : Hid (GoodQ (qs.set i { qs[i] with e := { qs[i].e with kind := z } })) := by
        obtain ⟨g1, g2, g3⟩ := HG.out.2 _ (List.getElem_mem hi)
        exact good_set HG.out ⟨g1, g2, g3⟩
      have HBS7 : Hid (Below w.heap.size w (w7.setCell ⟨g, i * 5, none⟩ (.int .i64 z))) := HB7.out.setCell (by have := HE7.out.lt.1; show _ ≤ g; omega) _
      clear hR7 hO7 HR6 HB6 HE6
      go_wp2
      go_ret
      exact dx_mk (by simp) HGS.out HSL.out HBS7.out
    · obtain ⟨Q, hQ⟩ : ∃ Q, Q = qs[i] := ⟨_, rfl⟩
      have HF : Hid (FX w6.heap.size base g qs i Q) := by show FX _ _ _ _ _ _; rw [hQ]; exact HE6.out.fx hi
      have HQR : Hid (∀ w' : World, (∀ (x : Nat) (h : x < qs.length), At5 w' g (x * 5) qs[x]) → At5 w' g (i * 5) Q) := fun w' h => by rw [hQ]; exact h i hi
      have HQS : Hid (SmE s Q.e ∧ Q.e.light ∧ Q.e.fits ∧ Q.e.allow.length ≤ Q.capA) := by show _ ∧ _; rw [hQ]; exact ⟨HSm.out _ (List.getElem_mem hi), HG.out.2 _ (List.getElem_mem hi)⟩
      have HGX0 : Hid (GX w.heap.size ad len cap w w6 base g qs i Q (Array.replicate 15 false) w6.drew) :=
        ⟨HR6.out.below ⟨rfl, rfl, rfl, Nat.le_refl _, fun _ _ => rfl⟩, HB6.out.trans ⟨rfl, rfl, rfl, Nat.le_refl _, fun _ _ => rfl⟩, Nat.le_refl _, by have := HE6.out.lt; show base ≤ w6.heap.size; omega, HE6.out.lt.2, HE6.out.free, HE6.out.row, fun x hx _ => HE6.out.ok _ (List.getElem_mem hx), fun q hq k hk => ⟨(HE6.out.lie q hq k hk).1, (HE6.out.lie q hq k hk).2.1⟩, by rw [hQ]; exact (HE6.out.ok _ (List.getElem_mem hi)).1, fun _ => by rw [hQ]; exact ((HE6.out.cK _ (List.getElem_mem hi)).own).drew⟩
      obtain ⟨iI, hiI, zI0, zI1, zI2⟩ := info_parts (P := Try.prog) (e := 2) (z := .int .i64 0) (size := 1) (bytes := 8) (by kernel_rfl)
      have HII : Hid (Try.prog.info? 2 = some iI ∧ iI.zero = some (.int .i64 0) ∧ iI.size = 1 ∧ iI.bytes = 8) := ⟨hiI, zI0, zI1, zI2⟩
      have hkl : Q.e.kids.length ≤ 200 := by have := HQS.out.1.2.2.2.2; omega
      clear hQ HE6 HB6 HR6 hiI zI0 zI1 zI2
      go_wp2_with fail
      refine wp_region_midT 14 (fun _ => undef) (fun f => { tmps := List.toArray (Value.slice ad len cap :: undef :: Value.slice none 0 0 :: Value.pointer (some ⟨w.heap.size, 0, none⟩) :: Value.slice (some ⟨g, 0, none⟩) qs.length cp :: Value.bool true :: Value.int .i64 (i : Int) :: Value.slice ad len cap :: Value.pointer (some ⟨w.heap.size, 0, none⟩) :: Value.tuple #[Value.slice (some ⟨g, 0, none⟩) qs.length cp, Value.bool true] :: Value.pointer (some ⟨w.heap.size, 0, none⟩) :: Value.string s :: Value.tuple #[Value.slice (some ⟨g, 0, none⟩) qs.length cp, Value.bool true] :: Value.slice (some ⟨g, 0, none⟩) qs.length cp :: Value.bool true :: Value.pointer (some ⟨w.heap.size, 0, none⟩) :: Value.bool true :: Value.bool true :: Value.slice (some ⟨g, 0, none⟩) qs.length cp :: Value.int .i64 (qs.length : Int) :: Value.bool true :: Value.bool true :: Value.pointer (some ⟨w.heap.size, 0, none⟩) :: Value.slice (some ⟨g, 0, none⟩) qs.length cp :: Value.int .i64 (qs.length : Int) :: Value.int .i64 (i : Int) :: Value.pointer (some ⟨w.heap.size, 0, none⟩) :: Value.int .i64 1 :: Value.bool false :: Value.bool false :: undef :: undef :: undef :: undef :: undef :: undef :: Value.bool true :: Value.bool true :: f 0 :: f 1 :: f 2 :: f 3 :: f 4 :: f 5 :: f 6 :: f 7 :: f 8 :: f 9 :: f 10 :: f 11 :: f 12 :: f 13 :: undef :: undef :: undef :: undef :: undef :: undef :: undef :: []), defers := [] }) (VX ((Value.slice (some ⟨g, 0, none⟩) qs.length cp) :: (Value.int .i64 (i : Int)) :: (Value.slice (some ⟨g, 0, none⟩) qs.length cp) :: (Value.int .i64 (i : Int)) :: (Value.pointer (some ⟨g, i * 5, none⟩)) :: (Value.pointer (some ⟨g, i * 5 + 4, none⟩)) :: (Value.slice Q.adK Q.e.kids.length Q.capK) :: (Value.pointer (some ⟨w.heap.size, 0, none⟩)) :: (Value.int .i64 (i : Int)) :: undef :: undef :: undef :: (Value.pointer (some ⟨g, i * 5, none⟩)) :: (Value.pointer (some ⟨g, i * 5 + 4, none⟩)) :: []) w.heap.size g (kidsV Q) Q.e.kids.length) (GX w.heap.size ad len cap w w6 base g qs i Q) (by kernel_rfl) rfl (by decide +kernel) (by decide +kernel) rfl HGX0.out ?stepA ?finA
      case stepA =>
        rintro i' hi' o ho listed f w' hls hli hG' hpre
        have HG' := toH hG'
        have HM : Hid (∀ e ∈ o.after, Region.binds .any e = true → _) := hpre
        clear hG' hpre HGX0
        have hc : i' = 0 ∨ i' = 1 ∨ i' = 2 ∨ i' = 3 ∨ i' = 4 ∨ i' = 5 ∨ i' = 6 ∨ i' = 7 ∨ i' = 8 ∨ i' = 9 ∨ i' = 10 ∨ i' = 11 ∨ i' = 12 ∨ i' = 13 := by omega
        clear hi'
        rcases hc with rfl | rfl | rfl | rfl | rfl | rfl | rfl | rfl | rfl | rfl | rfl | rfl | rfl | rfl
        · obtain rfl := Option.some.inj ho
          have HS := toH (HG'.out.step 0 hls (by decide) (by decide))
          refine wpOp_hid rfl fun K HK => ?_
          clear ho HM
          dsimp only
          go_simp
          exact HK.out _ _ ⟨Value.slice (some ⟨g, 0, none⟩) qs.length cp, by simp [upd], HS.out, VX.at (by decide) rfl, fun k u _ hu => hu⟩
        · obtain rfl := Option.some.inj ho
          have HS := toH (HG'.out.step 1 hls (by decide) (by decide))
          refine wpOp_hid rfl fun K HK => ?_
          clear ho HM
          dsimp only
          go_simp
          exact HK.out _ _ ⟨Value.int .i64 (i : Int), by simp [upd], HS.out, VX.at (by decide) rfl, fun k u _ hu => hu⟩
        · obtain rfl := Option.some.inj ho
          have HS := toH (HG'.out.step 2 hls (by decide) (by decide))
          refine wpOp_hid rfl fun K HK => ?_
          clear ho HM
          dsimp only
          go_simp
          exact HK.out _ _ ⟨Value.slice (some ⟨g, 0, none⟩) qs.length cp, by simp [upd], HS.out, VX.at (by decide) rfl, fun k u _ hu => hu⟩
        · obtain rfl := Option.some.inj ho
          have HS := toH (HG'.out.step 3 hls (by decide) (by decide))
          refine wpOp_hid rfl fun K HK => ?_
          clear ho HM
          dsimp only
          go_simp
          exact HK.out _ _ ⟨Value.int .i64 (i : Int), by simp [upd], HS.out, VX.at (by decide) rfl, fun k u _ hu => hu⟩
        · obtain rfl := Option.some.inj ho
          have e2 : f 2 = Value.slice (some ⟨g, 0, none⟩) qs.length cp := (HM.out ⟨2, .data⟩ (by simp) rfl).1 (by decide)
          have e3 : f 3 = Value.int .i64 (i : Int) := (HM.out ⟨3, .data⟩ (by simp) rfl).1 (by decide)
          have HS := toH (HG'.out.step 4 hls (by decide) (by decide))
          refine wpOp_hid rfl fun K HK => ?_
          clear ho HM
          simp only [e2, e3]
          go_simp
          exact HK.out _ _ ⟨Value.pointer (some ⟨g, i * 5, none⟩), by simp [upd, e2, e3], HS.out, VX.at (by decide) rfl, fun k u _ hu => hu⟩
        · obtain rfl := Option.some.inj ho
          have e4 : f 4 = Value.pointer (some ⟨g, i * 5, none⟩) := (HM.out ⟨4, .data⟩ (by simp) rfl).1 (by decide)
          have HS := toH (HG'.out.step 5 hls (by decide) (by decide))
          refine wpOp_hid rfl fun K HK => ?_
          clear ho HM
          simp only [e4]
          go_simp
          exact HK.out _ _ ⟨Value.pointer (some ⟨g, i * 5 + 4, none⟩), by simp [upd, e4], HS.out, VX.at (by decide) rfl, fun k u _ hu => hu⟩
        · obtain rfl := Option.some.inj ho
          have e5 : f 5 = Value.pointer (some ⟨g, i * 5 + 4, none⟩) := (HM.out ⟨5, .data⟩ (by simp) rfl).1 (by decide)
          have HS := toH (HG'.out.step 6 hls (by decide) (by decide))
          have c4 := (HQR.out _ HG'.out.row).2.2.2.2
          refine wpOp_hid rfl fun K HK => ?_
          clear ho HM
          simp only [e5]
          go_simp
          exact HK.out _ _ ⟨Value.slice Q.adK Q.e.kids.length Q.capK, by simp [upd, e5], HS.out, VX.at (by decide) rfl, fun k u _ hu => hu⟩
        · obtain rfl := Option.some.inj ho
          have HS := toH (HG'.out.step 7 hls (by decide) (by decide))
          refine wpOp_hid rfl fun K HK => ?_
          clear ho HM
          dsimp only
          go_simp
          exact HK.out _ _ ⟨Value.pointer (some ⟨w.heap.size, 0, none⟩), by simp [upd], HS.out, VX.at (by decide) rfl, fun k u _ hu => hu⟩
        · obtain rfl := Option.some.inj ho
          have HS := toH (HG'.out.step 8 hls (by decide) (by decide))
          refine wpOp_hid rfl fun K HK => ?_
          clear ho HM
          dsimp only
          go_simp
          exact HK.out _ _ ⟨Value.int .i64 (i : Int), by simp [upd], HS.out, VX.at (by decide) rfl, fun k u _ hu => hu⟩
        · obtain rfl := Option.some.inj ho
          have e7 : f 7 = Value.pointer (some ⟨w.heap.size, 0, none⟩) := (HM.out ⟨7, .data⟩ (by simp) rfl).1 (by decide)
          have e8 : f 8 = Value.int .i64 (i : Int) := (HM.out ⟨8, .data⟩ (by simp) rfl).1 (by decide)
          refine wpOp_hid rfl fun K HK => ?_
          clear ho HM
          simp only [e7, e8]
          go_simp
          refine (off0_any i (by omega) w.heap.size ad len cap _ HG'.out.rd).mono ?_
          rintro e w9 ⟨⟨z, rfl⟩, hR9, hO9⟩
          have hk9 : ∀ k, k < w'.heap.size → k ≠ w.heap.size → w9.heap[k]? = w'.heap[k]? := fun k h1 h2 => hO9.block k h1 (fun e => by injection e with e; omega)
          have HS : Hid (GX w.heap.size ad len cap w w6 base g qs i Q (listed.setIfInBounds 9 true) w9) := HG'.out.keep HF.out hO9.size (fun k h1 h2 _ => hk9 k h2 (by omega)) hR9 (Only.toBelow HG'.out.bel hO9 HG'.out.bel.size (Nat.le_refl _)) fun k => own_heap (HG'.out.own (off11 hls (by omega) (by omega) k)) fun k' hk' => hk9 k' ((HG'.out.own (off11 hls (by omega) (by omega) k)).lt k' hk').2 (by have := (HF.out.at_ k' hk').1; omega)
          have HV : Hid (∀ k u, k ≠ 9 → VX ((Value.slice (some ⟨g, 0, none⟩) qs.length cp) :: (Value.int .i64 (i : Int)) :: (Value.slice (some ⟨g, 0, none⟩) qs.length cp) :: (Value.int .i64 (i : Int)) :: (Value.pointer (some ⟨g, i * 5, none⟩)) :: (Value.pointer (some ⟨g, i * 5 + 4, none⟩)) :: (Value.slice Q.adK Q.e.kids.length Q.capK) :: (Value.pointer (some ⟨w.heap.size, 0, none⟩)) :: (Value.int .i64 (i : Int)) :: undef :: undef :: undef :: (Value.pointer (some ⟨g, i * 5, none⟩)) :: (Value.pointer (some ⟨g, i * 5 + 4, none⟩)) :: []) w.heap.size g (kidsV Q) Q.e.kids.length k u w' → VX ((Value.slice (some ⟨g, 0, none⟩) qs.length cp) :: (Value.int .i64 (i : Int)) :: (Value.slice (some ⟨g, 0, none⟩) qs.length cp) :: (Value.int .i64 (i : Int)) :: (Value.pointer (some ⟨g, i * 5, none⟩)) :: (Value.pointer (some ⟨g, i * 5 + 4, none⟩)) :: (Value.slice Q.adK Q.e.kids.length Q.capK) :: (Value.pointer (some ⟨w.heap.size, 0, none⟩)) :: (Value.int .i64 (i : Int)) :: undef :: undef :: undef :: (Value.pointer (some ⟨g, i * 5, none⟩)) :: (Value.pointer (some ⟨g, i * 5 + 4, none⟩)) :: []) w.heap.size g (kidsV Q) Q.e.kids.length k u w9) := fun k u _ hu => VX.keep hO9.size (fun b h1 h2 _ => hk9 b h1 h2) (fun _ => hk9) hu
          clear hR9 hO9 hk9
          go_wp2_with fail
          exact HK.out _ _ ⟨.int .i64 z, by simp [upd, e7, e8], HS.out, ⟨fun h => absurd rfl h.1, fun _ => ⟨z, rfl⟩, fun e => absurd e (by decide), fun e => absurd e (by decide)⟩, HV.out⟩
        · obtain rfl := Option.some.inj ho
          obtain ⟨z, e9⟩ := (HM.out ⟨9, .data⟩ (by simp) rfl).2.1 rfl
          replace e9 : f 9 = Value.int .i64 z := e9
          have hk9 : ∀ k, k < w'.heap.size → (w'.alloc (.cells #[.int .i64 z] 2)).heap[k]? = w'.heap[k]? := fun k h1 => (World.grownBy_alloc w' (.cells #[.int .i64 z] 2) none).block k h1 (by simp)
          have hsz : w'.heap.size ≤ (w'.alloc (.cells #[.int .i64 z] 2)).heap.size := by simp
          have HS : Hid (GX w.heap.size ad len cap w w6 base g qs i Q (listed.setIfInBounds 10 true) (w'.alloc (.cells #[.int .i64 z] 2))) := HG'.out.keep HF.out hsz (fun k h1 h2 _ => hk9 k h2) (HG'.out.rd.alloc _) (HG'.out.bel.alloc HG'.out.bel.size _) fun k => (HG'.out.own (off11 hls (by omega) (by omega) k)).alloc _
          have HV : Hid (∀ k u, k ≠ 10 → VX ((Value.slice (some ⟨g, 0, none⟩) qs.length cp) :: (Value.int .i64 (i : Int)) :: (Value.slice (some ⟨g, 0, none⟩) qs.length cp) :: (Value.int .i64 (i : Int)) :: (Value.pointer (some ⟨g, i * 5, none⟩)) :: (Value.pointer (some ⟨g, i * 5 + 4, none⟩)) :: (Value.slice Q.adK Q.e.kids.length Q.capK) :: (Value.pointer (some ⟨w.heap.size, 0, none⟩)) :: (Value.int .i64 (i : Int)) :: undef :: undef :: undef :: (Value.pointer (some ⟨g, i * 5, none⟩)) :: (Value.pointer (some ⟨g, i * 5 + 4, none⟩)) :: []) w.heap.size g (kidsV Q) Q.e.kids.length k u w' → VX ((Value.slice (some ⟨g, 0, none⟩) qs.length cp) :: (Value.int .i64 (i : Int)) :: (Value.slice (some ⟨g, 0, none⟩) qs.length cp) :: (Value.int .i64 (i : Int)) :: (Value.pointer (some ⟨g, i * 5, none⟩)) :: (Value.pointer (some ⟨g, i * 5 + 4, none⟩)) :: (Value.slice Q.adK Q.e.kids.length Q.capK) :: (Value.pointer (some ⟨w.heap.size, 0, none⟩)) :: (Value.int .i64 (i : Int)) :: undef :: undef :: undef :: (Value.pointer (some ⟨g, i * 5, none⟩)) :: (Value.pointer (some ⟨g, i * 5 + 4, none⟩)) :: []) w.heap.size g (kidsV Q) Q.e.kids.length k u (w'.alloc (.cells #[.int .i64 z] 2))) := fun k u _ hu => VX.keep hsz (fun b h1 h2 _ => hk9 b h1) (fun _ b h1 _ => hk9 b h1) hu
          have hown0 : (kidsV Q).ownBlock ≠ some w'.heap.size := fun e => by have := HF.out.low _ e; have := HG'.out.sz; omega
          have hRl := HG'.out.rd.lt
          have HC : Hid ((w'.alloc (.cells #[.int .i64 z] 2)).cell? ⟨w'.heap.size, 0, none⟩ = some (.int .i64 z)) := by show _ = _; simp
          have HVT : Hid (VX ((Value.slice (some ⟨g, 0, none⟩) qs.length cp) :: (Value.int .i64 (i : Int)) :: (Value.slice (some ⟨g, 0, none⟩) qs.length cp) :: (Value.int .i64 (i : Int)) :: (Value.pointer (some ⟨g, i * 5, none⟩)) :: (Value.pointer (some ⟨g, i * 5 + 4, none⟩)) :: (Value.slice Q.adK Q.e.kids.length Q.capK) :: (Value.pointer (some ⟨w.heap.size, 0, none⟩)) :: (Value.int .i64 (i : Int)) :: undef :: undef :: undef :: (Value.pointer (some ⟨g, i * 5, none⟩)) :: (Value.pointer (some ⟨g, i * 5 + 4, none⟩)) :: []) w.heap.size g (kidsV Q) Q.e.kids.length 10 (.slice (some ⟨w'.heap.size, 0, none⟩) 1 1) (w'.alloc (.cells #[.int .i64 z] 2))) := ⟨fun h => absurd rfl h.2.1, fun e => absurd e (by decide), fun _ => ⟨w'.heap.size, z, rfl, by simp, by omega, hown0, HC.out⟩, fun e => absurd e (by decide)⟩
          clear hk9 hsz hown0
          refine wpOp_hid rfl fun K HK => ?_
          clear ho HM
          simp only [e9]
          go_simp
          exact HK.out _ _ ⟨.slice (some ⟨w'.heap.size, 0, none⟩) 1 1, by simp [upd, e9], HS.out, HVT.out, HV.out⟩
        · obtain rfl := Option.some.inj ho
          have e6 : f 6 = Value.slice Q.adK Q.e.kids.length Q.capK := (HM.out ⟨6, .data⟩ (by simp) rfl).1 (by decide)
          obtain ⟨c, z, e10, hc1, hc2, hc3, hc4⟩ := (HM.out ⟨10, .data⟩ (by simp) rfl).2.2.1 rfl
          replace e10 : f 10 = Value.slice (some ⟨c, 0, none⟩) 1 1 := e10
          have hown := HG'.out.own (getTF' hli hls (by omega))
          clear ho HM
          refine wpOp_append_own _ rfl rfl _ _ 54 rfl base 2 iI (.int .i64 0) 1 8 Try.underlying54 HII.out.1 HII.out.2.1 HII.out.2.2.1 HII.out.2.2.2 rfl (by decide) (kidsV Q) Q.e.kids.length (ints Q.e.kids) e6 hown ⟨c, 0, none⟩ 1 1 [.int .i64 z] e10 rfl (fun j u hj => ?_) (fun u hu => by rw [List.mem_singleton] at hu; subst hu; rfl) (by unfold maxLen; omega) (by omega) HG'.out.bs ?_
          · have hj0 : j = 0 := by
              by_cases e : j = 0
              · exact e
              · obtain ⟨j', rfl⟩ : ∃ j', j = j' + 1 := ⟨j - 1, by omega⟩
                simp at hj
            subst hj0
            have : u = .int .i64 z := by simpa using hj.symm
            subst this
            simpa [Addr.add] using hc4
          intro v7 w7 hown7 hgr7 hat7
          rw [← ints_add] at hown7
          obtain ⟨ad7, c7, hv7, hsl7, hz7, hb7⟩ := ownsI hown7 (by simp)
          obtain ⟨b7, rfl⟩ := hz7 (by simp)
          have hb := hb7 b7 (by simp) rfl
          have hne : b7 ≠ g := fun e => by
            subst e
            rcases hat7 with e | e
            · exact (HF.out.at_ b7 (by rw [← e, hv7]; rfl)).2.1 rfl
            · rw [hv7] at e; have e2 : b7 = w'.heap.size := by simpa [Value.ownBlock] using e
              have := HG'.out.lt; omega
          have hk7 : ∀ k, k < w'.heap.size → (kidsV Q).ownBlock ≠ some k → w7.heap[k]? = w'.heap[k]? := fun k h1 h2 => hgr7.block k h1 (Ne.symm h2)
          have hRl := HG'.out.rd.lt
          have hnR : (kidsV Q).ownBlock ≠ some w.heap.size := fun e => by have := (HF.out.at_ _ e).1; omega
          refine ⟨v7, by simp [upd, e6, e10, Act.put], HG'.out.keep HF.out hgr7.size (fun k h1 h2 h3 => hk7 k h2 h3) ?_ ?_ (fun k => ?_), ⟨fun h => absurd rfl h.2.2, fun e => absurd e (by decide), fun e => absurd e (by decide), fun _ => ⟨b7, c7, Q.e.kids ++ [z], by rw [hv7]; simp, by simp, by have := hb.1; omega, hne, hsl7⟩⟩, fun k u hk hu => VX.keep hgr7.size (fun b h1 _ h3 => hk7 b h1 h3) (fun e => absurd e hk) hu⟩
          · exact HG'.out.rd.far HRB.out ((Below.refl _ _).grown hgr7 (by have := HG'.out.bs; have := HBS.out; omega) (fun k hk => by have := (HF.out.at_ k hk).1; have := HBS.out; omega))
          · exact HG'.out.bel.grown hgr7 HG'.out.bel.size (fun k hk => by have := (HF.out.at_ k hk).1; omega)
          · rw [getF_set' _ _ _ (by omega), if_pos rfl] at k; cases k
        · obtain rfl := Option.some.inj ho
          have e0 : f 0 = Value.slice (some ⟨g, 0, none⟩) qs.length cp := (HM.out ⟨0, .data⟩ (by simp) rfl).1 (by decide)
          have e1 : f 1 = Value.int .i64 (i : Int) := (HM.out ⟨1, .data⟩ (by simp) rfl).1 (by decide)
          have HS := toH (HG'.out.step 12 hls (by decide) (by decide))
          refine wpOp_hid rfl fun K HK => ?_
          clear ho HM
          simp only [e0, e1]
          go_simp
          exact HK.out _ _ ⟨Value.pointer (some ⟨g, i * 5, none⟩), by simp [upd, e0, e1], HS.out, VX.at (by decide) rfl, fun k u _ hu => hu⟩
        · obtain rfl := Option.some.inj ho
          have e12 : f 12 = Value.pointer (some ⟨g, i * 5, none⟩) := (HM.out ⟨12, .data⟩ (by simp) rfl).1 (by decide)
          have HS := toH (HG'.out.step 13 hls (by decide) (by decide))
          refine wpOp_hid rfl fun K HK => ?_
          clear ho HM
          simp only [e12]
          go_simp
          exact HK.out _ _ ⟨Value.pointer (some ⟨g, i * 5 + 4, none⟩), by simp [upd, e12], HS.out, VX.at (by decide) rfl, fun k u _ hu => hu⟩
      case finA =>
        rintro o ho listed f w' hG' hall
        obtain rfl := Option.some.inj ho
        obtain ⟨b7, c7, zs, e11, hz1, hz2, hz3, hz4⟩ := (hall 11 (by omega)).2.2.2 rfl
        have e13 : f 13 = Value.pointer (some ⟨g, i * 5 + 4, none⟩) := (hall 13 (by omega)).1 (by decide)
        obtain ⟨c0, c1, c2, c3, c4⟩ := HQR.out _ hG'.row
        have hfr := hG'.free (i * 5 + 4)
        obtain ⟨q1, q2, q3, q4⟩ := HQS.out
        obtain ⟨Q', hQ'⟩ : ∃ Q' : ER, Q' = { Q with e := { Q.e with kids := zs }, adK := some ⟨b7, 0, none⟩, capK := c7 } := ⟨_, rfl⟩
        have HGS : Hid (GoodQ (qs.set i Q')) := by
          rw [hQ']
          exact good_set HG.out ⟨⟨q2.1, by show zs.length ≤ _; omega⟩, ⟨q3.1, q3.2.1, q3.2.2.1, q3.2.2.2.1, by show zs.length ≤ maxLen; unfold maxLen; omega⟩, q4⟩
        have HSL : Hid (SlE (w'.setCell ⟨g, i * 5 + 4, none⟩ (.slice (some ⟨b7, 0, none⟩) (Q.e.kids.length + 1) c7)) (some ⟨g, 0, none⟩) (qs.set i Q')) := by
          have hsame : ∀ k, k ≠ g → (w'.setCell ⟨g, i * 5 + 4, none⟩ (.slice (some ⟨b7, 0, none⟩) (Q.e.kids.length + 1) c7)).heap[k]? = w'.heap[k]? := fun k hk => Below.heap_setCell w' ⟨g, _, none⟩ _ k hk
          refine put_sl HI.out (by simpa using hG'.lt) (fun x hx hne => ?_) (fun x hx hne => ?_) ?_ ?_
          · obtain ⟨h0, h1, h2, h3, h4⟩ := hG'.row x hx
            refine ⟨?_, ?_, ?_, ?_, ?_⟩
            · rw [cell_put (by omega)]; exact h0
            · rw [cell_put (by omega)]; exact h1
            · rw [cell_put (by omega)]; exact h2
            · rw [cell_put (by omega)]; exact h3
            · rw [cell_put (by omega)]; exact h4
          · have hm := List.getElem_mem hx
            exact ok_heap (hG'.ok x hx hne) (by simp) (HF.out.zA _ hm) (HF.out.zK _ hm) fun k hk => hsame k (HF.out.ng _ hm k hk)
          · rw [hQ']
            refine ⟨?_, ?_, ?_, ?_, ?_⟩
            · rw [cell_put (by omega)]; exact c0
            · rw [cell_put (by omega)]; exact c1
            · rw [cell_put (by omega)]; exact c2
            · rw [cell_put (by omega)]; exact c3
            · rw [World.cell?_setCell_same _ _ _ c4]; show _ = some (Value.slice (some ⟨b7, 0, none⟩) zs.length c7); rw [hz1]
          · rw [hQ']
            refine ⟨SlA.heap hG'.alw (by simp) (HF.out.zA Q HF.out.mem) fun k hn hk => hsame k (HF.out.ng Q HF.out.mem k (.inl ⟨hn, hk⟩)), SlI.heap hz4 (by simp) (fun _ => ⟨b7, rfl⟩) fun k hn hk => hsame k ?_⟩
            injection hk with hk; injection hk with hk; rw [← hk]; exact hz3
        have HBE : Hid (Below w.heap.size w (w'.setCell ⟨g, i * 5 + 4, none⟩ (.slice (some ⟨b7, 0, none⟩) (Q.e.kids.length + 1) c7))) := hG'.bel.setCell (by have := HF.out.bg; show _ ≤ g; omega) _
        have hln : qs.length = (qs.set i Q').length := by simp
        have HLN := toH hln
        clear ho hall hG' hz1 hz4 hQ' q1 q2 q3 q4 hln HGX0 c0 c1 c2 c3
        refine wpOp_step rfl (fun K hK => ?_)
        have HK : Hid (∀ a w, _ → K a w) := hK
        clear hK
        simp only [e11, e13]
        go_simp
        refine HK.out _ _ ?_
        clear HK
        go_wp2
        go_ret
        exact dx_mk HLN.out HGS.out HSL.out HBE.out
    · obtain ⟨c0, c1, c2, c3, c4⟩ := HE6.out.row i hi
      have hfr := HE6.out.free (i * 5 + 3)
      have HSL : Hid (SlE (w6.setCell ⟨g, i * 5 + 3, none⟩ (.string ⟨#[116, 104, 105, 115]⟩)) (some ⟨g, 0, none⟩) (qs.set i { qs[i] with e := { qs[i].e with name := ⟨#[116, 104, 105, 115]⟩ } })) := by
        refine HE6.out.put hi (by omega) ⟨?_, ?_, ?_, World.cell?_setCell_same _ _ _ c3, ?_⟩ (ok_far HE6.out hi _ _)
        · rw [cell_put (by omega)]; exact c0
        · rw [cell_put (by omega)]; exact c1
        · rw [cell_put (by omega)]; exact c2
        · rw [cell_put (by omega)]; exact c4
      have HGS : Hid (GoodQ (qs.set i { qs[i] with e := { qs[i].e with name := ⟨#[116, 104, 105, 115]⟩ } })) := by
        obtain ⟨g1, g2, g3⟩ := HG.out.2 _ (List.getElem_mem hi)
        exact good_set HG.out ⟨g1, ⟨g2.1, g2.2.1, by show (4 : Nat) ≤ maxLen; unfold maxLen; omega, g2.2.2.2⟩, g3⟩
      have HBS7 : Hid (Below w.heap.size w (w6.setCell ⟨g, i * 5 + 3, none⟩ (.string ⟨#[116, 104, 105, 115]⟩))) := HB6.out.setCell (by have := HE6.out.lt.1; show _ ≤ g; omega) _
      go_wp2
      go_ret
      exact dx_mk (by simp) HGS.out HSL.out HBS7.out
end Go.Proofs.Ytjmbgpdbnffkpaa
