/- Contracts of the law's helpers that mark expressions, and that look whether the marks are held. -/
import Derived.Test.YtmghabcaakgjiaaGreatJ7
import Derived.Test.YtmghabcaakgjiaaGreatJ2
namespace Go.Proofs.YtmghabcaakgjiaaGreat
open Go.ChangeShapes Go.WideShapes Go.ChangeAt Go.RowKit
open Pl
def wX (e : Ex) : Nat := 3 + 2 * e.allow.length + e.kids.length
def mkX (k : Nat) (e : Ex) : Ex := ⟨(k : Int), mkA (k + 1) e.allow, mtx (k + 1 + 2 * e.allow.length), mtx (k + 2 + 2 * e.allow.length), mkI (k + 3 + 2 * e.allow.length) e.kids⟩
def ER.mkd (k : Nat) (r : ER) : ER := { r with e := mkX k r.e }
def wE : List ER → Nat
 | [] => 0
 | r :: rs => wX r.e + wE rs
def mkE : Nat → List ER → List ER
 | _, [] => []
 | k, r :: rs => r.mkd k :: mkE (k + wX r.e) rs
theorem wE_append : ∀ xs ys : List ER, wE (xs ++ ys) = wE xs + wE ys
 | [], ys => by simp [wE]
 | x :: xs, ys => by rw [List.cons_append]; simp only [wE]; rw [wE_append xs ys]; omega
theorem wE_take (rs : List ER) (j : Nat) (h : j < rs.length) : wE (rs.take (j + 1)) = wE (rs.take j) + wX rs[j].e := by
 rw [List.take_succ_eq_append_getElem h, wE_append]; simp [wE]
theorem wE_le (rs : List ER) (j : Nat) : wE (rs.take j) ≤ wE rs := by
 have := wE_append (rs.take j) (rs.drop j)
 rw [List.take_append_drop] at this
 omega
theorem mkE_len : ∀ (k : Nat) (rs : List ER), (mkE k rs).length = rs.length
 | _, [] => rfl
 | k, r :: rs => by simp only [mkE, List.length_cons]; rw [mkE_len]
theorem mkE_at : ∀ (k : Nat) (rs : List ER) (i : Nat) (h : i < (mkE k rs).length) (h2 : i < rs.length), (mkE k rs)[i] = rs[i].mkd (k + wE (rs.take i))
 | _, [], i, h, _ => by simp [mkE] at h
 | k, r :: rs, 0, _, _ => by simp [mkE, wE]
 | k, r :: rs, i + 1, h, h2 => by
  simp only [mkE, List.getElem_cons_succ, List.take_succ_cons, wE]
  rw [mkE_at (k + wX r.e) rs i _ (by simpa using h2), Nat.add_assoc]
def bA (r : ER) (g : Nat) : Prop := r.e.allow ≠ [] ∧ r.adA = some ⟨g, 0, none⟩
def bK (r : ER) (g : Nat) : Prop := r.e.kids ≠ [] ∧ r.adK = some ⟨g, 0, none⟩
def inR (r : ER) (g : Nat) : Prop := bA r g ∨ bK r g
structure SepE (b : Nat) (rs : List ER) : Prop where
 zeroA : ∀ r ∈ rs, r.e.allow ≠ [] → ∃ g, r.adA = some ⟨g, 0, none⟩
 zeroK : ∀ r ∈ rs, r.e.kids ≠ [] → ∃ g, r.adK = some ⟨g, 0, none⟩
 head : ∀ r ∈ rs, ¬ inR r b
 one : ∀ r ∈ rs, ∀ g, bA r g → ¬ bK r g
 two : ∀ (x y : Nat) (hx : x < rs.length) (hy : y < rs.length), x ≠ y → ∀ g, inR rs[x] g → ¬ inR rs[y] g
def FreeE (w : World) (b : Nat) (rs : List ER) : Prop := (b < w.heap.size ∧ Free w b) ∧ ∀ r ∈ rs, ∀ g, inR r g → g < w.heap.size ∧ Free w g
theorem FreeE.chg {S : Nat → Prop} {w w' : World} {b : Nat} {rs : List ER} (h : FreeE w b rs) (hc : Chg S w w') : FreeE w' b rs :=
 ⟨⟨Nat.lt_of_lt_of_le h.1.1 hc.size, hc.free b h.1.1 h.1.2⟩, fun r hr g hg => ⟨Nat.lt_of_lt_of_le (h.2 r hr g hg).1 hc.size, hc.free g (h.2 r hr g hg).1 (h.2 r hr g hg).2⟩⟩
def inE (b : Nat) (rs : List ER) (g : Nat) : Prop := g = b ∨ ∃ r ∈ rs, inR r g
theorem ER.ok.chg {S : Nat → Prop} {w w' : World} {r : ER} (h : r.ok w) (hc : Chg S w w') (hA : ∀ g o, r.e.allow ≠ [] → r.adA = some ⟨g, o, none⟩ → ¬ S g) (hK : ∀ g o, r.e.kids ≠ [] → r.adK = some ⟨g, o, none⟩ → ¬ S g) : r.ok w' :=
 ⟨h.1.chg hc hA, h.2.chg hc hK⟩
theorem markAllowedS_at (x : Int) (ad : Option Addr) (cap : Nat) (xs : List Al) (k : Nat) (w : World) (hx : x = (k : Int)) (hs : SlA w ad xs) (hg : xs ≠ [] → ∃ g, ad = some ⟨g, 0, none⟩ ∧ Free w g) (h0 : 0 < k) (h1 : k + 2 * xs.length ≤ 1000000000) :
  Calls Tryz.prog 99 #[.slice ad xs.length cap, .int .i64 x] w fun e w' => e = .returned (.int .i64 ((k + 2 * xs.length : Nat) : Int)) ∧ SlA w' ad (mkA k xs) ∧ Chg (fun g => xs ≠ [] ∧ ad = some ⟨g, 0, none⟩) w w' := by
 rw [hx]; exact markAllowedS_any ad cap xs k w hs hg h0 h1
theorem markInt64S_at (x : Int) (ad : Option Addr) (cap : Nat) (zs : List Int) (k : Nat) (w : World) (hx : x = (k : Int)) (hs : SlI w ad zs) (hg : zs ≠ [] → ∃ g, ad = some ⟨g, 0, none⟩ ∧ Free w g) (h1 : k + zs.length ≤ 1000000000) :
  Calls Tryz.prog 100 #[.slice ad zs.length cap, .int .i64 x] w fun e w' => e = .returned (.int .i64 ((k + zs.length : Nat) : Int)) ∧ SlI w' ad (mkI k zs) ∧ Chg (fun g => zs ≠ [] ∧ ad = some ⟨g, 0, none⟩) w w' := by
 rw [hx]; exact markInt64S_any ad cap zs k w hs hg h1
def curE (k : Nat) (rs : List ER) (j x : Nat) (hx : x < rs.length) : ER := if x < j then rs[x].mkd (k + wE (rs.take x)) else rs[x]
theorem curE_ad (k : Nat) (rs : List ER) (j x : Nat) (hx : x < rs.length) : (curE k rs j x hx).adA = rs[x].adA ∧ (curE k rs j x hx).adK = rs[x].adK ∧ ((curE k rs j x hx).e.allow ≠ [] → rs[x].e.allow ≠ []) ∧ ((curE k rs j x hx).e.kids ≠ [] → rs[x].e.kids ≠ []) := by
 unfold curE
 split
 ·refine ⟨rfl, rfl, fun h e => h ?_, fun h e => h ?_⟩
  ·show mkA _ _ = []
   rw [mkA_nil]; exact e
  ·show mkI _ _ = []
   rw [mkI_nil]; exact e
 ·exact ⟨rfl, rfl, id, id⟩
set_option maxRecDepth 8000 in
set_option maxHeartbeats 4000000 in
theorem markExprS_any (b cap : Nat) (rs : List ER) (k : Nat) (w : World) (hb : b < w.heap.size) (hr : ∀ (x : Nat) (hx : x < rs.length), At5 w b (x * 5) rs[x] ∧ rs[x].ok w) (hsep : SepE b rs) (hfree : FreeE w b rs) (hl : ∀ r ∈ rs, r.e.light) (hlen : rs.length ≤ 1048576) (h0 : 0 < k) (h1 : k + wE rs ≤ 1000000000) :
  Calls Tryz.prog 72 #[.slice (some ⟨b, 0, none⟩) rs.length cap, .int .i64 (k : Int)] w fun e w' => e = .returned (.int .i64 ((k + wE rs : Nat) : Int)) ∧ (∀ (x : Nat) (hx : x < rs.length), At5 w' b (x * 5) (rs[x].mkd (k + wE (rs.take x))) ∧ (rs[x].mkd (k + wE (rs.take x))).ok w') ∧ Chg (inE b rs) w w' := by
 have HSEP : Hid (SepE b rs) := hsep
 have HFE : Hid (FreeE w b rs) := hfree
 have HL : Hid (∀ r ∈ rs, r.e.light) := hl
 clear hsep hfree hl
 go_enter Tryz.func72, Tryz.ntmps72
 go_wp2
 go_loopw [1, 5] (fun kv i wr => ∃ j K : Nat, j ≤ rs.length ∧ Hid (K = k + wE (rs.take j)) ∧ kv = .int .i64 (K : Int) ∧ i = .int .i64 (j : Int) ∧ Hid (∀ (x : Nat) (hx : x < rs.length), At5 wr b (x * 5) (curE k rs j x hx) ∧ (curE k rs j x hx).ok wr) ∧ Hid (Chg (inE b rs) w wr)) (fun _ i _ => rs.length - (intOf i).toNat)
 case atStart => exact ⟨0, k, Nat.zero_le _, by show _ = _; simp [wE], rfl, rfl, fun x hx => by simpa [curE] using hr x hx, Chg.refl _ _⟩
 case round =>
  clear hr
  obtain ⟨j, K, hj, HK, rfl, rfl, HC, HCH⟩ := hrel
  by_cases hlt : j < rs.length
  ·obtain ⟨⟨c0, c1, c2, c3, c4⟩, hok⟩ := HC.out j hlt
   have hcur : curE k rs j j hlt = rs[j] := by unfold curE; rw [if_neg (by omega)]
   rw [hcur] at c0 c1 c2 c3 c4 hok
   have HOK : Hid (rs[j].ok wr) := hok
   have hlg := HL.out rs[j] (List.getElem_mem hlt)
   have lA : rs[j].e.allow.length ≤ 1048576 := hlg.1
   have lK : rs[j].e.kids.length ≤ 1048576 := hlg.2
   have hKb : 0 < K ∧ K + wX rs[j].e ≤ 1000000000 := by
    have h2 := wE_le rs (j + 1)
    rw [wE_take _ _ hlt] at h2
    have := HK.out
    omega
   have hK0 := hKb.1
   have hK1 := hKb.2
   unfold wX at hK1
   have hgl : b < wr.heap.size := Nat.lt_of_lt_of_le hb HCH.out.size
   have HFW : Hid (FreeE wr b rs) := HFE.out.chg HCH.out
   have hfb : Free wr b := HFW.out.1.2
   have fz := hfb
   unfold Free at fz
   have hj1 : (0 : Int) ≤ (j : Int) := by omega
   have hj2 : (j : Int) < (rs.length : Int) := by omega
   have hnb : ¬ inR rs[j] b := HSEP.out.head _ (List.getElem_mem hlt)
   have HNB : Hid (¬ inR rs[j] b) := hnb
   have HZA : Hid (rs[j].e.allow ≠ [] → ∃ g, rs[j].adA = some ⟨g, 0, none⟩) := HSEP.out.zeroA _ (List.getElem_mem hlt)
   have HZK : Hid (rs[j].e.kids ≠ [] → ∃ g, rs[j].adK = some ⟨g, 0, none⟩) := HSEP.out.zeroK _ (List.getElem_mem hlt)
   clear hKb hlg hok hnb hcur
   obtain ⟨W1, hW1⟩ : ∃ W1, W1 = wr.setCell ⟨b, j * 5, none⟩ (.int .i64 (K : Int)) := ⟨_, rfl⟩
   have HD1 : Hid (Chg (fun g => g = b) wr W1) := by rw [hW1]; exact Chg.set _ rfl
   have HC1 : Hid (Chg (fun g => g = b ∨ inR rs[j] g) wr W1) := HD1.out.mono fun g hg => .inl hg
   have hgl1 : b < W1.heap.size := Nat.lt_of_lt_of_le hgl HC1.out.size
   have a0 : W1.cell? ⟨b, j * 5, none⟩ = some (.int .i64 (K : Int)) := by rw [hW1]; exact setS' c0
   have HO1 : Hid (∀ o, o ≠ j * 5 → W1.cell? ⟨b, o, none⟩ = wr.cell? ⟨b, o, none⟩) := fun o ho => by rw [hW1]; exact setO' (Ne.symm ho)
   have a1 : W1.cell? ⟨b, j * 5 + 1, none⟩ = some (.slice rs[j].adA rs[j].e.allow.length rs[j].capA) := by rw [HO1.out _ (by omega)]; exact c1
   have HB1 : Hid (∀ g, inR rs[j] g → g ≠ b) := fun g hg e => HNB.out (by rw [← e]; exact hg)
   have HSA1 : Hid (SlA W1 rs[j].adA rs[j].e.allow) := by
    rw [hW1]
    refine SlA.chg HOK.out.1 (Chg.set (S := fun g => g = b) (g := b) (j := j * 5) _ rfl) fun g o hne e => ?_
    obtain ⟨g0, e0⟩ := HZA.out hne
    rw [e0] at e; injection e with e; injection e with e1 e2
    subst e1
    exact HB1.out _ (.inl ⟨hne, e0⟩)
   have HFA1 : Hid (rs[j].e.allow ≠ [] → ∃ g, rs[j].adA = some ⟨g, 0, none⟩ ∧ Free W1 g) := fun hne => by
    obtain ⟨g0, e0⟩ := HZA.out hne
    exact ⟨g0, e0, ((HFW.out.chg HC1.out).2 _ (List.getElem_mem hlt) g0 (.inl ⟨hne, e0⟩)).2⟩
   go_wp2_with fail
   rw [← hW1]
   clear hW1 c0 c1
   refine (markAllowedS_at _ _ _ rs[j].e.allow (K + 1) _ (by omega) HSA1.out HFA1.out (by omega) (by omega)).mono ?_
   rintro e w2 ⟨rfl, hsa2, hc2⟩
   have HSA2 : Hid (SlA w2 rs[j].adA (mkA (K + 1) rs[j].e.allow)) := hsa2
   have HX2 : Hid (Chg (bA rs[j]) W1 w2) := hc2
   have HC2 : Hid (Chg (fun g => g = b ∨ inR rs[j] g) wr w2) := HC1.out.trans (hc2.mono fun g hg => .inr (.inl hg))
   have HO2 : Hid (∀ o, w2.cell? ⟨b, o, none⟩ = W1.cell? ⟨b, o, none⟩) := fun o => hc2.cell hgl1 fun h => HNB.out (.inl h)
   have hgl2 : b < w2.heap.size := Nat.lt_of_lt_of_le hgl HC2.out.size
   clear hsa2 hc2
   go_wp2_with fail
   refine (markText_at _ (K + 1 + 2 * rs[j].e.allow.length) _ (by omega) (by omega) (by omega)).mono ?_
   rintro e w3 ⟨rfl, hb3⟩
   have HB3 : Hid (Below w2.heap.size w2 w3) := hb3
   have HO3 : Hid (∀ o, w3.cell? ⟨b, o, none⟩ = W1.cell? ⟨b, o, none⟩) := fun o => (hb3.cell (p := ⟨b, o, none⟩) hgl2).trans (HO2.out o)
   have e2 : w3.cell? ⟨b, j * 5 + 2, none⟩ = some (.string rs[j].e.over) := by rw [HO3.out, HO1.out _ (by omega)]; exact c2
   have fz3 : ∀ y, w3.frozen? ⟨b, y, none⟩ = false := fun y => keptF hb3 hgl2 ((HFW.out.chg HC2.out).1.2 y)
   obtain ⟨W4, hW4⟩ : ∃ W4, W4 = w3.setCell ⟨b, j * 5 + 2, none⟩ (.string (mtx (K + 1 + 2 * rs[j].e.allow.length))) := ⟨_, rfl⟩
   have HC4 : Hid (Chg (fun g => g = b) w2 W4) := (Chg.of HB3.out).trans (by rw [hW4]; exact Chg.set _ rfl)
   have d2 : W4.cell? ⟨b, j * 5 + 2, none⟩ = some (.string (mtx (K + 1 + 2 * rs[j].e.allow.length))) := by rw [hW4]; exact setS' e2
   have HO4 : Hid (∀ o, o ≠ j * 5 + 2 → W4.cell? ⟨b, o, none⟩ = W1.cell? ⟨b, o, none⟩) := fun o ho => by rw [hW4, setO' (Ne.symm ho)]; exact HO3.out o
   have hgl4 : b < W4.heap.size := Nat.lt_of_lt_of_le hgl2 HC4.out.size
   clear hb3
   go_wp2_with fail
   rw [← hW4]
   clear hW4 e2 fz3 c2
   refine (markText_at _ (K + 2 + 2 * rs[j].e.allow.length) _ (by omega) (by omega) (by omega)).mono ?_
   rintro e w5 ⟨rfl, hb5⟩
   have HB5 : Hid (Below W4.heap.size W4 w5) := hb5
   have HO5 : Hid (∀ o, w5.cell? ⟨b, o, none⟩ = W4.cell? ⟨b, o, none⟩) := fun o => hb5.cell (p := ⟨b, o, none⟩) hgl4
   have e3 : w5.cell? ⟨b, j * 5 + 3, none⟩ = some (.string rs[j].e.name) := by rw [HO5.out, HO4.out _ (by omega), HO1.out _ (by omega)]; exact c3
   have e4 : w5.cell? ⟨b, j * 5 + 4, none⟩ = some (.slice rs[j].adK rs[j].e.kids.length rs[j].capK) := by rw [HO5.out, HO4.out _ (by omega), HO1.out _ (by omega)]; exact c4
   have fz5 : ∀ y, w5.frozen? ⟨b, y, none⟩ = false := fun y => keptF hb5 hgl4 (((HFW.out.chg HC2.out).chg HC4.out).1.2 y)
   obtain ⟨W6, hW6⟩ : ∃ W6, W6 = w5.setCell ⟨b, j * 5 + 3, none⟩ (.string (mtx (K + 2 + 2 * rs[j].e.allow.length))) := ⟨_, rfl⟩
   have HC6 : Hid (Chg (fun g => g = b) w2 W6) := HC4.out.trans ((Chg.of HB5.out).trans (by rw [hW6]; exact Chg.set _ rfl))
   have d3 : W6.cell? ⟨b, j * 5 + 3, none⟩ = some (.string (mtx (K + 2 + 2 * rs[j].e.allow.length))) := by rw [hW6]; exact setS' e3
   have d2' : W6.cell? ⟨b, j * 5 + 2, none⟩ = some (.string (mtx (K + 1 + 2 * rs[j].e.allow.length))) := by rw [hW6, setO' (by omega), HO5.out]; exact d2
   have HO6 : Hid (∀ o, o ≠ j * 5 + 2 → o ≠ j * 5 + 3 → W6.cell? ⟨b, o, none⟩ = W1.cell? ⟨b, o, none⟩) := fun o h2 h3 => by rw [hW6, setO' (Ne.symm h3), HO5.out]; exact HO4.out o h2
   have hgl6 : b < W6.heap.size := Nat.lt_of_lt_of_le hgl2 HC6.out.size
   have d4 : W6.cell? ⟨b, j * 5 + 4, none⟩ = some (.slice rs[j].adK rs[j].e.kids.length rs[j].capK) := by rw [HO6.out _ (by omega) (by omega), HO1.out _ (by omega)]; exact c4
   have HC26 : Hid (Chg (fun g => g = b ∨ inR rs[j] g) wr W6) := HC2.out.trans (HC6.out.mono fun g hg => .inl hg)
   have HONE : Hid (∀ g, bA rs[j] g → ¬ bK rs[j] g) := HSEP.out.one _ (List.getElem_mem hlt)
   have HSK6 : Hid (SlI W6 rs[j].adK rs[j].e.kids) := by
    refine SlI.chg (S := fun g => g = b ∨ bA rs[j] g) HOK.out.2 ((HD1.out.mono fun g hg => .inl hg).trans ((HX2.out.mono fun g hg => .inr hg).trans (HC6.out.mono fun g hg => .inl hg))) fun g o hne e => ?_
    obtain ⟨g0, e0⟩ := HZK.out hne
    rw [e0] at e; injection e with e; injection e with e1 e2
    subst e1
    rintro (h | h)
    ·exact HB1.out _ (.inr ⟨hne, e0⟩) h
    ·exact HONE.out _ h ⟨hne, e0⟩
   have HFK6 : Hid (rs[j].e.kids ≠ [] → ∃ g, rs[j].adK = some ⟨g, 0, none⟩ ∧ Free W6 g) := fun hne => by
    obtain ⟨g0, e0⟩ := HZK.out hne
    exact ⟨g0, e0, ((HFW.out.chg HC26.out).2 _ (List.getElem_mem hlt) g0 (.inr ⟨hne, e0⟩)).2⟩
   go_wp2_with fail
   rw [← hW6]
   clear hW6 e3 e4 fz5 c3 c4
   refine (markInt64S_at _ _ _ rs[j].e.kids (K + 3 + 2 * rs[j].e.allow.length) _ (by omega) HSK6.out HFK6.out (by omega)).mono ?_
   rintro e w7 ⟨rfl, hsk7, hc7⟩
   have hx7 : Chg (bK rs[j]) W6 w7 := hc7
   have HC7 : Hid (Chg (fun g => g = b ∨ inR rs[j] g) wr w7) := HC26.out.trans (hx7.mono fun g hg => .inr (.inr hg))
   have HO7 : Hid (∀ o, w7.cell? ⟨b, o, none⟩ = W6.cell? ⟨b, o, none⟩) := fun o => hc7.cell hgl6 fun h => HNB.out (.inr h)
   have HSA7 : Hid (SlA w7 rs[j].adA (mkA (K + 1) rs[j].e.allow)) := by
    refine SlA.chg (S := fun g => g = b ∨ bK rs[j] g) HSA2.out ((HC6.out.mono fun g hg => .inl hg).trans (hx7.mono fun g hg => .inr hg)) fun g o hne e => ?_
    rw [ne_eq, mkA_nil] at hne
    obtain ⟨g0, e0⟩ := HZA.out hne
    rw [e0] at e; injection e with e; injection e with e1 e2
    subst e1
    rintro (h | h)
    ·exact HB1.out _ (.inl ⟨hne, e0⟩) h
    ·exact HONE.out _ ⟨hne, e0⟩ h
   have HSK7 : Hid (SlI w7 rs[j].adK (mkI (K + 3 + 2 * rs[j].e.allow.length) rs[j].e.kids)) := hsk7
   have HCN : Hid (∀ (x : Nat) (hx : x < rs.length), At5 w7 b (x * 5) (curE k rs (j + 1) x hx) ∧ (curE k rs (j + 1) x hx).ok w7) := by
    intro x hx
    by_cases e : x = j
    ·subst e
     have hcur : curE k rs (x + 1) x hx = rs[x].mkd K := by unfold curE; rw [if_pos (by omega), HK.out]
     rw [hcur]
     refine ⟨⟨?_, ?_, ?_, ?_, ?_⟩, HSA7.out, HSK7.out⟩
     ·rw [HO7.out, HO6.out _ (by omega) (by omega)]; exact a0
     ·rw [HO7.out, HO6.out _ (by omega) (by omega), a1]
      show _ = some (Value.slice rs[x].adA (mkA _ _).length rs[x].capA)
      rw [mkA_len]
     ·rw [HO7.out]; exact d2'
     ·rw [HO7.out]; exact d3
     ·rw [HO7.out, d4]
      show _ = some (Value.slice rs[x].adK (mkI _ _).length rs[x].capK)
      rw [mkI_len]
    ·have hcur : curE k rs (j + 1) x hx = curE k rs j x hx := by
      unfold curE
      by_cases h2 : x < j
      ·rw [if_pos h2, if_pos (by omega)]
      ·rw [if_neg h2, if_neg (by omega)]
     rw [hcur]
     obtain ⟨⟨p0, p1, p2, p3, p4⟩, hok⟩ := HC.out x hx
     have hall : ∀ o, o ≠ j * 5 → o ≠ j * 5 + 2 → o ≠ j * 5 + 3 → w7.cell? ⟨b, o, none⟩ = wr.cell? ⟨b, o, none⟩ := fun o h0 h2 h3 => by rw [HO7.out, HO6.out _ h2 h3, HO1.out _ h0]
     obtain ⟨q1, q2, q3, q4⟩ := curE_ad k rs j x hx
     refine ⟨⟨?_, ?_, ?_, ?_, ?_⟩, hok.chg HC7.out ?_ ?_⟩
     ·rw [hall _ (by omega) (by omega) (by omega)]; exact p0
     ·rw [hall _ (by omega) (by omega) (by omega)]; exact p1
     ·rw [hall _ (by omega) (by omega) (by omega)]; exact p2
     ·rw [hall _ (by omega) (by omega) (by omega)]; exact p3
     ·rw [hall _ (by omega) (by omega) (by omega)]; exact p4
     ·intro g o hne e2
      obtain ⟨g0, e0⟩ := HSEP.out.zeroA _ (List.getElem_mem hx) (q3 hne)
      rw [q1, e0] at e2; injection e2 with e2; injection e2 with e3 e4
      subst e3
      have hin : inR rs[x] g0 := .inl ⟨q3 hne, e0⟩
      rintro (h | h)
      ·subst h; exact HSEP.out.head _ (List.getElem_mem hx) hin
      ·exact HSEP.out.two x j hx hlt e g0 hin h
     ·intro g o hne e2
      obtain ⟨g0, e0⟩ := HSEP.out.zeroK _ (List.getElem_mem hx) (q4 hne)
      rw [q2, e0] at e2; injection e2 with e2; injection e2 with e3 e4
      subst e3
      have hin : inR rs[x] g0 := .inr ⟨q4 hne, e0⟩
      rintro (h | h)
      ·subst h; exact HSEP.out.head _ (List.getElem_mem hx) hin
      ·exact HSEP.out.two x j hx hlt e g0 hin h
   have HCHN : Hid (Chg (inE b rs) w w7) := HCH.out.trans (HC7.out.mono fun g hg => hg.elim .inl fun h => .inr ⟨rs[j], List.getElem_mem hlt, h⟩)
   have HKN : Hid (K + 3 + 2 * rs[j].e.allow.length + rs[j].e.kids.length = k + wE (rs.take (j + 1))) := by
    show _ = _
    rw [wE_take _ _ hlt, HK.out]; unfold wX; omega
   clear hsk7 hc7 hx7 a0 a1 d2 d2' d3 d4
   go_wp2
   go_roundw
   case rel => exact ⟨j + 1, K + 3 + 2 * rs[j].e.allow.length + rs[j].e.kids.length, by omega, HKN, by go_num, by go_num, HCN, HCHN⟩
   case measure => first | (simp [intOf]; done) | (simp [intOf]; omega)
  ·obtain rfl : j = rs.length := by omega
   have HKE : Hid (K = k + wE rs) := by have := HK.out; rw [List.take_length] at this; exact this
   have HEND : Hid (∀ (x : Nat) (hx : x < rs.length), At5 wr b (x * 5) (rs[x].mkd (k + wE (rs.take x))) ∧ (rs[x].mkd (k + wE (rs.take x))).ok wr) := fun x hx => by
    have := HC.out x hx
    unfold curE at this
    rw [if_pos hx] at this
    exact this
   go_wp2
   go_ret
   exact ⟨by rw [← HKE.out]; rfl, HEND.out, HCH.out⟩
theorem mkE_sl {w : World} {b k : Nat} {rs : List ER} (hb : b < w.heap.size) (h : ∀ (x : Nat) (hx : x < rs.length), At5 w b (x * 5) (rs[x].mkd (k + wE (rs.take x))) ∧ (rs[x].mkd (k + wE (rs.take x))).ok w) : SlE w (some ⟨b, 0, none⟩) (mkE k rs) := by
 refine .inr ⟨b, 0, rfl, hb, fun i hi => ?_, fun r hr => ?_⟩
 ·have h2 : i < rs.length := by rw [mkE_len] at hi; exact hi
  rw [mkE_at k rs i hi h2, Nat.zero_add]
  exact (h i h2).1
 ·obtain ⟨i, hi, rfl⟩ := List.getElem_of_mem hr
  have h2 : i < rs.length := by rw [mkE_len] at hi; exact hi
  rw [mkE_at k rs i hi h2]
  exact (h i h2).2
end Go.Proofs.YtmghabcaakgjiaaGreat
namespace Go.Proofs.YtmghabcaakgjiaaGreat
open Go.ChangeShapes Go.WideShapes Go.ChangeAt Go.RowKit
open Pl
def FreeP (w : World) (P : Nat → Prop) : Prop := ∀ g, P g → g < w.heap.size ∧ Free w g
theorem FreeP.chg {S P : Nat → Prop} {w w' : World} (h : FreeP w P) (hc : Chg S w w') : FreeP w' P := fun g hg => ⟨Nat.lt_of_lt_of_le (h g hg).1 hc.size, hc.free g (h g hg).1 (h g hg).2⟩
theorem FreeP.mono {P Q : Nat → Prop} {w : World} (h : FreeP w P) (hq : ∀ g, Q g → P g) : FreeP w Q := fun g hg => h g (hq g hg)
theorem markExprS_nil (x : Int) (ad : Option Addr) (cap : Nat) (w : World) :
  Calls Tryz.prog 72 #[.slice ad 0 cap, .int .i64 x] w fun e w' => e = .returned (.int .i64 x) ∧ w' = w := by
 go_enter Tryz.func72, Tryz.ntmps72
 go_wp2
 go_loopw [1, 5] (fun kv i wr => kv = .int .i64 x ∧ i = .int .i64 0 ∧ wr = w) (fun _ _ _ => 0)
 case atStart => exact ⟨rfl, rfl, rfl⟩
 case round =>
  obtain ⟨rfl, rfl, rfl⟩ := hrel
  go_wp2
  go_ret
  exact ⟨rfl, rfl⟩
theorem markRelationS_nil (x : Int) (ad : Option Addr) (cap : Nat) (w : World) :
  Calls Tryz.prog 36 #[.slice ad 0 cap, .int .i64 x] w fun e w' => e = .returned (.int .i64 x) ∧ w' = w := by
 go_enter Tryz.func36, Tryz.ntmps36
 go_wp2
 go_loopw [1, 5] (fun kv i wr => kv = .int .i64 x ∧ i = .int .i64 0 ∧ wr = w) (fun _ _ _ => 0)
 case atStart => exact ⟨rfl, rfl, rfl⟩
 case round =>
  obtain ⟨rfl, rfl, rfl⟩ := hrel
  go_wp2
  go_ret
  exact ⟨rfl, rfl⟩
theorem markTypeS_nil (x : Int) (ad : Option Addr) (cap : Nat) (w : World) :
  Calls Tryz.prog 11 #[.slice ad 0 cap, .int .i64 x] w fun e w' => e = .returned (.int .i64 x) ∧ w' = w := by
 go_enter Tryz.func11, Tryz.ntmps11
 go_wp2
 go_loopw [1, 5] (fun kv i wr => kv = .int .i64 x ∧ i = .int .i64 0 ∧ wr = w) (fun _ _ _ => 0)
 case atStart => exact ⟨rfl, rfl, rfl⟩
 case round =>
  obtain ⟨rfl, rfl, rfl⟩ := hrel
  go_wp2
  go_ret
  exact ⟨rfl, rfl⟩
def blkR (r : RR) (g : Nat) : Prop := (r.rows ≠ [] ∧ r.ad = some ⟨g, 0, none⟩) ∨ ∃ q ∈ r.rows, inR q g
def GoodR (r : RR) : Prop := r.rows ≠ [] → ∃ b, r.ad = some ⟨b, 0, none⟩ ∧ SepE b r.rows
structure SepR (b : Nat) (rs : List RR) : Prop where
 good : ∀ r ∈ rs, GoodR r
 head : ∀ r ∈ rs, ¬ blkR r b
 two : ∀ (x y : Nat) (hx : x < rs.length) (hy : y < rs.length), x ≠ y → ∀ g, blkR rs[x] g → ¬ blkR rs[y] g
def insR (b : Nat) (rs : List RR) (g : Nat) : Prop := g = b ∨ ∃ r ∈ rs, blkR r g
def wR : List RR → Nat
 | [] => 0
 | r :: rs => (1 + wE r.rows) + wR rs
theorem wR_append : ∀ xs ys : List RR, wR (xs ++ ys) = wR xs + wR ys
 | [], ys => by simp [wR]
 | x :: xs, ys => by rw [List.cons_append]; simp only [wR]; rw [wR_append xs ys]; omega
theorem wR_take (rs : List RR) (j : Nat) (h : j < rs.length) : wR (rs.take (j + 1)) = wR (rs.take j) + (1 + wE rs[j].rows) := by
 rw [List.take_succ_eq_append_getElem h, wR_append]; simp [wR]
theorem wR_le (rs : List RR) (j : Nat) : wR (rs.take j) ≤ wR rs := by
 have := wR_append (rs.take j) (rs.drop j)
 rw [List.take_append_drop] at this
 omega
theorem RR.ok.chg {S : Nat → Prop} {w w' : World} {r : RR} (h : r.ok w) (hc : Chg S w w') (hg : GoodR r) (hn : ∀ g, blkR r g → ¬ S g) : r.ok w' := by
 by_cases hz : r.rows = []
 ·exact .inl hz
 obtain ⟨b, e, hsep⟩ := hg hz
 rcases h with h | ⟨b', off, e', hb, hr, hk⟩
 ·exact .inl h
 ·rw [e] at e'; injection e' with e'; injection e' with e1 e2
  subst e1; subst e2
  refine .inr ⟨b, 0, e, Nat.lt_of_lt_of_le hb hc.size, fun i hi => (hr i hi).same fun o => hc.cell hb (hn b (.inl ⟨hz, e⟩)), fun q hq => ?_⟩
  refine (hk q hq).chg hc (fun g o hne e2 => ?_) (fun g o hne e2 => ?_)
  ·obtain ⟨g0, e0⟩ := hsep.zeroA q hq hne
   rw [e0] at e2; injection e2 with e2; injection e2 with e3 e4
   subst e3
   exact hn g0 (.inr ⟨q, hq, .inl ⟨hne, e0⟩⟩)
  ·obtain ⟨g0, e0⟩ := hsep.zeroK q hq hne
   rw [e0] at e2; injection e2 with e2; injection e2 with e3 e4
   subst e3
   exact hn g0 (.inr ⟨q, hq, .inr ⟨hne, e0⟩⟩)
def blkT (r : TR) (g : Nat) : Prop := (r.rows ≠ [] ∧ r.ad = some ⟨g, 0, none⟩) ∨ ∃ q ∈ r.rows, blkR q g
def GoodT (r : TR) : Prop := r.rows ≠ [] → ∃ b, r.ad = some ⟨b, 0, none⟩ ∧ SepR b r.rows
structure SepT (b : Nat) (rs : List TR) : Prop where
 good : ∀ r ∈ rs, GoodT r
 head : ∀ r ∈ rs, ¬ blkT r b
 two : ∀ (x y : Nat) (hx : x < rs.length) (hy : y < rs.length), x ≠ y → ∀ g, blkT rs[x] g → ¬ blkT rs[y] g
def insT (b : Nat) (rs : List TR) (g : Nat) : Prop := g = b ∨ ∃ r ∈ rs, blkT r g
def wT : List TR → Nat
 | [] => 0
 | r :: rs => (1 + wR r.rows) + wT rs
theorem wT_append : ∀ xs ys : List TR, wT (xs ++ ys) = wT xs + wT ys
 | [], ys => by simp [wT]
 | x :: xs, ys => by rw [List.cons_append]; simp only [wT]; rw [wT_append xs ys]; omega
theorem wT_take (rs : List TR) (j : Nat) (h : j < rs.length) : wT (rs.take (j + 1)) = wT (rs.take j) + (1 + wR rs[j].rows) := by
 rw [List.take_succ_eq_append_getElem h, wT_append]; simp [wT]
theorem wT_le (rs : List TR) (j : Nat) : wT (rs.take j) ≤ wT rs := by
 have := wT_append (rs.take j) (rs.drop j)
 rw [List.take_append_drop] at this
 omega
theorem TR.ok.chg {S : Nat → Prop} {w w' : World} {r : TR} (h : r.ok w) (hc : Chg S w w') (hg : GoodT r) (hn : ∀ g, blkT r g → ¬ S g) : r.ok w' := by
 by_cases hz : r.rows = []
 ·exact .inl hz
 obtain ⟨b, e, hsep⟩ := hg hz
 rcases h with h | ⟨b', off, e', hb, hr, hk⟩
 ·exact .inl h
 ·rw [e] at e'; injection e' with e'; injection e' with e1 e2
  subst e1; subst e2
  refine .inr ⟨b, 0, e, Nat.lt_of_lt_of_le hb hc.size, fun i hi => (hr i hi).same fun o => hc.cell hb (hn b (.inl ⟨hz, e⟩)), fun q hq => ?_⟩
  exact (hk q hq).chg hc (hsep.good q hq) fun g hg => hn g (.inr ⟨q, hq, hg⟩)
end Go.Proofs.YtmghabcaakgjiaaGreat
