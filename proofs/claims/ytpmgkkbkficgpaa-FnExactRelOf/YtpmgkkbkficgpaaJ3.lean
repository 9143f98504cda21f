/- Contract of the program's copy of an expression: a new one that holds the same, in blocks of its own. -/
import Derived.Test.YtpmgkkbkficgpaaJ2
import Derived.OwnWalk
import Derived.Maps.AppendAt
import Derived.Test.YtpmgkkbkficgpaaImplSchema
namespace Go.Proofs.Ytpmgkkbkficgpaa
open Go.ChangeShapes Go.WideShapes Go.ChangeAt Go.RowKit Go.Maps
open Pl

theorem OwnE.add {S : Nat → Prop} {b : Nat} {wr wn : World} {qs : List ER} (h : OwnE b wr qs) (hc : Chg S wr wn) (hb : b < wr.heap.size) {q : ER} (zA : q.e.allow ≠ [] → ∃ g, q.adA = some ⟨g, 0, none⟩) (zK : q.e.kids ≠ [] → ∃ g, q.adK = some ⟨g, 0, none⟩) (hone : ∀ g, bA q g → ¬ bK q g) (hq : ∀ g, inR q g → wr.heap.size ≤ g ∧ g < wn.heap.size ∧ Free wn g) : OwnE b wn (qs ++ [q]) := by
  refine ⟨⟨?_, ?_, ?_, ?_, ?_⟩, ?_⟩
  · intro r hr; rw [List.mem_append, List.mem_singleton] at hr
    rcases hr with hr | rfl
    · exact h.1.zeroA r hr
    · exact zA
  · intro r hr; rw [List.mem_append, List.mem_singleton] at hr
    rcases hr with hr | rfl
    · exact h.1.zeroK r hr
    · exact zK
  · intro r hr; rw [List.mem_append, List.mem_singleton] at hr
    rcases hr with hr | rfl
    · exact h.1.head r hr
    · intro hg; have := (hq b hg).1; omega
  · intro r hr; rw [List.mem_append, List.mem_singleton] at hr
    rcases hr with hr | rfl
    · exact h.1.one r hr
    · exact hone
  · intro x y hx hy hne g hgx hgy
    rw [List.length_append, List.length_singleton] at hx hy
    by_cases ex : x < qs.length
    · rw [List.getElem_append_left ex] at hgx
      by_cases ey : y < qs.length
      · rw [List.getElem_append_left ey] at hgy
        exact h.1.two x y ex ey hne g hgx hgy
      · rw [List.getElem_append_right (by omega)] at hgy
        have e1 := (hq g (by simpa using hgy)).1
        have e2 := (h.2 _ (List.getElem_mem ex) g hgx).2.1
        omega
    · rw [List.getElem_append_right (by omega)] at hgx
      have e1 := (hq g (by simpa using hgx)).1
      have ey : y < qs.length := by omega
      rw [List.getElem_append_left ey] at hgy
      have e2 := (h.2 _ (List.getElem_mem ey) g hgy).2.1
      omega
  · intro r hr g hg; rw [List.mem_append, List.mem_singleton] at hr
    rcases hr with hr | rfl
    · obtain ⟨a1, a2, a3⟩ := h.2 r hr g hg
      exact ⟨a1, Nat.lt_of_lt_of_le a2 hc.size, hc.free g a2 a3⟩
    · obtain ⟨a1, a2, a3⟩ := hq g hg
      exact ⟨by omega, a2, a3⟩

theorem oneCells (xs : List Al) : ∀ u ∈ pairs xs, u.oneCell' = true := by
  intro u hu
  unfold pairs at hu
  rw [List.mem_flatMap] at hu
  obtain ⟨a, -, h⟩ := hu
  simp at h
  rcases h with rfl | rfl <;> rfl
theorem oneInts (zs : List Int) : ∀ u ∈ ints zs, u.oneCell' = true := by
  intro u hu
  unfold ints at hu
  rw [List.mem_map] at hu
  obtain ⟨a, -, rfl⟩ := hu
  rfl
theorem newsA {w : World} {g : Nat} {xs : List Al} (h : SlA w (some ⟨g, 0, none⟩) xs) : ∀ j u, (pairs xs)[j]? = some u → w.cell? ((⟨g, 0, none⟩ : Addr).add j) = some u := by
  intro j u hu
  have hj : j < (pairs xs).length := by
    rcases Nat.lt_or_ge j (pairs xs).length with h' | h'
    · exact h'
    · rw [List.getElem?_eq_none h'] at hu; cases hu
  rw [pairs_len] at hj
  rcases h with rfl | ⟨b, off, e, hb, hr⟩
  · simp at hj
  injection e with e; injection e with e1 e2
  subst e1; subst e2
  rw [show (⟨g, 0, none⟩ : Addr).add j = ⟨g, 0 + j, none⟩ by simp [Addr.add]; omega]
  obtain ⟨i, hi⟩ : ∃ i, j = i * 2 ∨ j = i * 2 + 1 := ⟨j / 2, by omega⟩
  rcases hi with rfl | rfl
  · rw [(pairs_at xs i (by omega)).1] at hu
    injection hu with hu; subst hu
    have := (hr i (by omega)).1
    exact this
  · rw [(pairs_at xs i (by omega)).2] at hu
    injection hu with hu; subst hu
    have := (hr i (by omega)).2
    rw [show 0 + i * 2 + 1 = 0 + (i * 2 + 1) by omega] at this
    exact this
theorem newsI {w : World} {g : Nat} {zs : List Int} (h : SlI w (some ⟨g, 0, none⟩) zs) : ∀ j u, (ints zs)[j]? = some u → w.cell? ((⟨g, 0, none⟩ : Addr).add j) = some u := by
  intro j u hu
  have hj : j < (ints zs).length := by
    rcases Nat.lt_or_ge j (ints zs).length with h' | h'
    · exact h'
    · rw [List.getElem?_eq_none h'] at hu; cases hu
  rcases h with rfl | ⟨b, off, e, hb, hr⟩
  · simp [ints] at hj
  injection e with e; injection e with e1 e2
  subst e1; subst e2
  have hj2 : j < zs.length := by simpa [ints] using hj
  have := hr j hj2
  unfold ints at hu
  rw [List.getElem?_map, List.getElem?_eq_getElem hj2] at hu
  simp at hu
  subst hu
  rw [show (⟨g, 0, none⟩ : Addr).add j = ⟨g, 0 + j, none⟩ by simp [Addr.add]; omega]
  exact this
theorem ownsA {w : World} {base n : Nat} {v : Value} {xs : List Al} (h : w.ownsRow base 100 2 v n (pairs xs)) (hn : n = xs.length) : ∃ ad cap, v = .slice ad xs.length cap ∧ SlA w ad xs ∧ (xs ≠ [] → ∃ g, ad = some ⟨g, 0, none⟩) ∧ ∀ g, xs ≠ [] → ad = some ⟨g, 0, none⟩ → base ≤ g ∧ g < w.heap.size ∧ Free w g := by
  subst hn
  have h2 := h
  rcases h.2 with ⟨rfl, h0⟩ | ⟨g, cap, cur, rfl, hbg, hg, hnc, -⟩
  · have hx : xs = [] := List.length_eq_zero_iff.1 h0
    subst hx
    exact ⟨none, 0, rfl, .inl rfl, fun h => absurd rfl h, fun _ h => absurd rfl h⟩
  · have hlt := h2.lt g rfl
    refine ⟨some ⟨g, 0, none⟩, cap, rfl, .inr ⟨g, 0, rfl, hlt.2, fun i hi => ?_⟩, fun _ => ⟨g, rfl⟩, fun g' _ e => ?_⟩
    · have hl := pairs_len xs
      obtain ⟨p0, p1⟩ := pairs_at xs i hi
      refine ⟨?_, ?_⟩
      · rw [h2.cellAt (0 + i * 2) (by omega), Nat.zero_add]; exact p0
      · rw [h2.cellAt (0 + i * 2 + 1) (by omega), Nat.zero_add]; exact p1
    · injection e with e; injection e with e1 e2
      subst e1
      exact ⟨hlt.1, hlt.2, fun y => h2.frozenAt y⟩
theorem ownsI {w : World} {base n : Nat} {v : Value} {zs : List Int} (h : w.ownsRow base 2 1 v n (ints zs)) (hn : n = zs.length) : ∃ ad cap, v = .slice ad zs.length cap ∧ SlI w ad zs ∧ (zs ≠ [] → ∃ g, ad = some ⟨g, 0, none⟩) ∧ ∀ g, zs ≠ [] → ad = some ⟨g, 0, none⟩ → base ≤ g ∧ g < w.heap.size ∧ Free w g := by
  subst hn
  have h2 := h
  rcases h.2 with ⟨rfl, h0⟩ | ⟨g, cap, cur, rfl, hbg, hg, hnc, -⟩
  · have hx : zs = [] := List.length_eq_zero_iff.1 h0
    subst hx
    exact ⟨none, 0, rfl, .inl rfl, fun h => absurd rfl h, fun _ h => absurd rfl h⟩
  · have hlt := h2.lt g rfl
    refine ⟨some ⟨g, 0, none⟩, cap, rfl, .inr ⟨g, 0, rfl, hlt.2, fun i hi => ?_⟩, fun _ => ⟨g, rfl⟩, fun g' _ e => ?_⟩
    · rw [h2.cellAt (0 + i) (by omega), Nat.zero_add]; simp [ints, hi]
    · injection e with e; injection e with e1 e2
      subst e1
      exact ⟨hlt.1, hlt.2, fun y => h2.frozenAt y⟩

/-- the lists of a node lie at the beginning of some block -/
def ER.atZero (r : ER) : Prop := ∃ gA gK : Nat, r.adA = some ⟨gA, 0, none⟩ ∧ r.adK = some ⟨gK, 0, none⟩

set_option maxRecDepth 8000 in
set_option maxHeartbeats 4000000 in
theorem copyExpr_any (ad : Option Addr) (cap : Nat) (rs : List ER) (w : World) (hlen : rs.length ≤ 15) (hs : SlE w ad rs) (hl : ∀ r ∈ rs, r.e.light) (hz : ∀ r ∈ rs, r.atZero) :
    Calls Try.prog 47 #[.slice ad rs.length cap] w fun e w' => ∃ rs' : List ER, e = .returned (.slice (some ⟨w.heap.size, 0, none⟩) rs'.length rs'.length) ∧ exs rs' = exs rs ∧ SlE w' (some ⟨w.heap.size, 0, none⟩) rs' ∧ OwnE w.heap.size w' rs' ∧ Free w' w.heap.size ∧ w.heap.size < w'.heap.size ∧ Below w.heap.size w w' := by
  obtain ⟨inf, z, hi, hz0, hz1, hz2⟩ := infoOf (t := 51) (n := 5) (b := 88) (by kernel_rfl)
  obtain ⟨iA, hiA, zA0, zA1, zA2⟩ := info_parts (P := Try.prog) (e := 100) (z := .agg #[.string ⟨#[]⟩, .string ⟨#[]⟩]) (size := 2) (bytes := 32) (by kernel_rfl)
  obtain ⟨iI, hiI, zI0, zI1, zI2⟩ := info_parts (P := Try.prog) (e := 2) (z := .int .i64 0) (size := 1) (bytes := 8) (by kernel_rfl)
  have HSL : Hid (SlE w ad rs) := hs
  have HLI : Hid (∀ r ∈ rs, r.e.light) := hl
  have HZR : Hid (∀ r ∈ rs, r.atZero) := hz
  have HIA : Hid (Try.prog.info? 100 = some iA ∧ iA.zero = some (.agg #[.string ⟨#[]⟩, .string ⟨#[]⟩]) ∧ iA.size = 2 ∧ iA.bytes = 32) := ⟨hiA, zA0, zA1, zA2⟩
  have HII : Hid (Try.prog.info? 2 = some iI ∧ iI.zero = some (.int .i64 0) ∧ iI.size = 1 ∧ iI.bytes = 8) := ⟨hiI, zI0, zI1, zI2⟩
  clear hs hl hz hiA zA0 zA1 zA2 hiI zI0 zI1 zI2
  go_enter Try.func47, Try.ntmps47
  go_wp2_with (at_make; refine wpList_make_full _ rfl _ _ 25 rfl w.heap.size 51 inf z 5 Try.underlying25 hi hz0 hz1 .i64 .i64 _ _ rs.length rfl rfl rfl rfl (by rw [hz2]; omega) (by unfold maxLen; omega) (Nat.le_refl _) ?_; intro w0 hown0 hgrow0)
  have F0 : Fil w w0 w.heap.size (rs.length * 5) [] := fil_made hown0 hgrow0
  clear hown0 hgrow0 hi hz0 hz1 hz2
  go_loopw [11] (fun i wr => ∃ (k : Nat) (qs : List ER), k ≤ rs.length ∧ i = .int .i64 k ∧ Hid (qs.length = k ∧ exs qs = (exs rs).take k ∧ (∀ q ∈ qs, q.ok wr)) ∧ Hid (OwnE w.heap.size wr qs) ∧ Hid (Fil w wr w.heap.size (rs.length * 5) (rows5 qs))) (fun i _ => rs.length - (intOf i).toNat)
  case atStart => exact ⟨0, [], Nat.zero_le _, rfl, ⟨rfl, by simp [exs], (fun q hq => by cases hq)⟩, OwnE.nil _ _, F0⟩
  case round =>
    clear F0
    obtain ⟨k, qs, hk, rfl, HQ, HO, HF⟩ := hrel
    by_cases hlt : k < rs.length
    · rcases HSL.out.below HF.out.below with hnil | ⟨b, off, hadr, hb, hr, hok⟩
      · rw [hnil] at hlt; simp at hlt
      obtain ⟨t0, t1, t2, t3, t4⟩ := hr k hlt
      have HOK : Hid (rs[k].ok wr) := hok rs[k] (List.getElem_mem hlt)
      have hlg := HLI.out rs[k] (List.getElem_mem hlt)
      have lA : rs[k].e.allow.length ≤ 1048576 := hlg.1
      have lK : rs[k].e.kids.length ≤ 1048576 := hlg.2
      obtain ⟨gA, gK, hA0, hK0⟩ := HZR.out rs[k] (List.getElem_mem hlt)
      have hk1 : (0 : Int) ≤ (k : Int) := by omega
      have hk2 : (k : Int) < (rs.length : Int) := by omega
      obtain ⟨W1, hW1⟩ : ∃ W1, W1 = wr.alloc (.cells #[.int .i64 rs[k].e.kind, .slice (some ⟨gA, 0, none⟩) rs[k].e.allow.length rs[k].capA, .string rs[k].e.over, .string rs[k].e.name, .slice (some ⟨gK, 0, none⟩) rs[k].e.kids.length rs[k].capK] 51) := ⟨_, rfl⟩
      have HB1 : Hid (Below wr.heap.size wr W1) := by show Below _ _ _; rw [hW1]; exact (Below.refl _ _).alloc (Nat.le_refl _) _
      have hgl : wr.heap.size < W1.heap.size := by rw [hW1]; simp
      have HSA1 : Hid (SlA W1 (some ⟨gA, 0, none⟩) rs[k].e.allow) := by rw [← hA0]; exact HOK.out.1.below HB1.out
      have p0 : W1.cell? ⟨wr.heap.size, 0, none⟩ = some (.int .i64 rs[k].e.kind) := by rw [hW1]; simp
      have p1 : W1.cell? ⟨wr.heap.size, 1, none⟩ = some (.slice (some ⟨gA, 0, none⟩) rs[k].e.allow.length rs[k].capA) := by rw [hW1]; simp
      have p2 : W1.cell? ⟨wr.heap.size, 2, none⟩ = some (.string rs[k].e.over) := by rw [hW1]; simp
      have p3 : W1.cell? ⟨wr.heap.size, 3, none⟩ = some (.string rs[k].e.name) := by rw [hW1]; simp
      have p4 : W1.cell? ⟨wr.heap.size, 4, none⟩ = some (.slice (some ⟨gK, 0, none⟩) rs[k].e.kids.length rs[k].capK) := by rw [hW1]; simp
      have fp : ∀ y, W1.frozen? ⟨wr.heap.size, y, none⟩ = false := fun y => by rw [hW1]; simp
      have HPS : Hid (W1.cell? ⟨wr.heap.size, 0, none⟩ = some (.int .i64 rs[k].e.kind) ∧ W1.cell? ⟨wr.heap.size, 1, none⟩ = some (.slice (some ⟨gA, 0, none⟩) rs[k].e.allow.length rs[k].capA) ∧ W1.cell? ⟨wr.heap.size, 2, none⟩ = some (.string rs[k].e.over) ∧ W1.cell? ⟨wr.heap.size, 3, none⟩ = some (.string rs[k].e.name) ∧ W1.cell? ⟨wr.heap.size, 4, none⟩ = some (.slice (some ⟨gK, 0, none⟩) rs[k].e.kids.length rs[k].capK) ∧ ∀ y, W1.frozen? ⟨wr.heap.size, y, none⟩ = false) := ⟨p0, p1, p2, p3, p4, fp⟩
      clear p0 p1 p2 p3 p4 fp
      rw [hadr]
      rw [hA0] at t1
      rw [hK0] at t4
      have HK0 : Hid (rs[k].adK = some ⟨gK, 0, none⟩) := hK0
      clear hr hok hlg hA0 hK0
      go_wp2_with (at_builtin; rw [← hW1]; clear hW1; refine wpList_append_own _ rfl _ _ 49 rfl W1.heap.size 100 iA (.agg #[.string ⟨#[]⟩, .string ⟨#[]⟩]) 2 32 Try.underlying49 HIA.out.1 HIA.out.2.1 HIA.out.2.2.1 HIA.out.2.2.2 rfl (by decide) (.slice none 0 0) 0 [] rfl (World.ownsRow_nil _ _ _ _) ⟨gA, 0, none⟩ rs[k].e.allow.length rs[k].capA (pairs rs[k].e.allow) rfl (pairs_len _) (newsA HSA1.out) (oneCells _) (by unfold maxLen; omega) (by omega) (Nat.le_refl _) ?_)
      intro v2 w2 hown2 hgr2 _
      have HB2 : Hid (Below W1.heap.size W1 w2) := (Below.refl _ _).grown hgr2 (Nat.le_refl _) (fun k hk => by cases hk)
      obtain ⟨adA, cpA, rfl, hsA, hzA, hoA⟩ := ownsA (by simpa using hown2) (by simp)
      have HSA2 : Hid (SlA w2 adA rs[k].e.allow) := hsA
      have HZA : Hid (rs[k].e.allow ≠ [] → ∃ g, adA = some ⟨g, 0, none⟩) := hzA
      have HOA : Hid (∀ g, rs[k].e.allow ≠ [] → adA = some ⟨g, 0, none⟩ → W1.heap.size ≤ g ∧ g < w2.heap.size ∧ Free w2 g) := hoA
      have x0 : w2.cell? ⟨wr.heap.size, 0, none⟩ = some (.int .i64 rs[k].e.kind) := kept HB2.out hgl HPS.out.1
      have x1 : w2.cell? ⟨wr.heap.size, 1, none⟩ = some (.slice (some ⟨gA, 0, none⟩) rs[k].e.allow.length rs[k].capA) := kept HB2.out hgl HPS.out.2.1
      have x2 : w2.cell? ⟨wr.heap.size, 2, none⟩ = some (.string rs[k].e.over) := kept HB2.out hgl HPS.out.2.2.1
      have x3 : w2.cell? ⟨wr.heap.size, 3, none⟩ = some (.string rs[k].e.name) := kept HB2.out hgl HPS.out.2.2.2.1
      have x4 : w2.cell? ⟨wr.heap.size, 4, none⟩ = some (.slice (some ⟨gK, 0, none⟩) rs[k].e.kids.length rs[k].capK) := kept HB2.out hgl HPS.out.2.2.2.2.1
      have fx : ∀ y, w2.frozen? ⟨wr.heap.size, y, none⟩ = false := fun y => keptF HB2.out hgl (HPS.out.2.2.2.2.2 y)
      clear hown2 hgr2 hsA hzA hoA
      obtain ⟨W3, hW3⟩ : ∃ W3, W3 = w2.setCell ⟨wr.heap.size, 1, none⟩ (.slice adA rs[k].e.allow.length cpA) := ⟨_, rfl⟩
      have HB3 : Hid (Below wr.heap.size wr W3) := by
        show Below _ _ _
        rw [hW3]
        exact (HB1.out.trans (HB2.out.mono (Nat.le_of_lt hgl))).setCell (Nat.le_refl _) _
      have HC3 : Hid (Chg (fun g => g = wr.heap.size) w2 W3) := by rw [hW3]; exact Chg.set _ rfl
      have HSK3 : Hid (SlI W3 (some ⟨gK, 0, none⟩) rs[k].e.kids) := by rw [← HK0.out]; exact HOK.out.2.below HB3.out
      have hgl3 : wr.heap.size < W3.heap.size := by rw [hW3]; simp only [World.size_setCell]; exact Nat.lt_of_lt_of_le hgl HB2.out.size
      have HXS : Hid (W3.cell? ⟨wr.heap.size, 0, none⟩ = some (.int .i64 rs[k].e.kind) ∧ W3.cell? ⟨wr.heap.size, 1, none⟩ = some (.slice adA rs[k].e.allow.length cpA) ∧ W3.cell? ⟨wr.heap.size, 2, none⟩ = some (.string rs[k].e.over) ∧ W3.cell? ⟨wr.heap.size, 3, none⟩ = some (.string rs[k].e.name) ∧ W3.cell? ⟨wr.heap.size, 4, none⟩ = some (.slice (some ⟨gK, 0, none⟩) rs[k].e.kids.length rs[k].capK) ∧ ∀ y, W3.frozen? ⟨wr.heap.size, y, none⟩ = false) := by
        rw [hW3]
        exact ⟨by rw [setO' (by omega)]; exact x0, setS' x1, by rw [setO' (by omega)]; exact x2, by rw [setO' (by omega)]; exact x3, by rw [setO' (by omega)]; exact x4, fun y => by simpa using fx y⟩
      go_wp2_with (at_builtin; rw [← hW3]; clear hW3; refine wpList_append_own _ rfl _ _ 45 rfl W3.heap.size 2 iI (.int .i64 0) 1 8 Try.underlying45 HII.out.1 HII.out.2.1 HII.out.2.2.1 HII.out.2.2.2 rfl (by decide) (.slice none 0 0) 0 [] rfl (World.ownsRow_nil _ _ _ _) ⟨gK, 0, none⟩ rs[k].e.kids.length rs[k].capK (ints rs[k].e.kids) rfl (by simp [ints]) (newsI HSK3.out) (oneInts _) (by unfold maxLen; omega) (by omega) (Nat.le_refl _) ?_)
      intro v4 w4 hown4 hgr4 _
      have HB4 : Hid (Below W3.heap.size W3 w4) := (Below.refl _ _).grown hgr4 (Nat.le_refl _) (fun k hk => by cases hk)
      obtain ⟨adK, cpK, rfl, hsK, hzK, hoK⟩ := ownsI (by simpa using hown4) (by simp)
      have HSK4 : Hid (SlI w4 adK rs[k].e.kids) := hsK
      have HZK : Hid (rs[k].e.kids ≠ [] → ∃ g, adK = some ⟨g, 0, none⟩) := hzK
      have HOKK : Hid (∀ g, rs[k].e.kids ≠ [] → adK = some ⟨g, 0, none⟩ → W3.heap.size ≤ g ∧ g < w4.heap.size ∧ Free w4 g) := hoK
      have y0 : w4.cell? ⟨wr.heap.size, 0, none⟩ = some (.int .i64 rs[k].e.kind) := kept HB4.out hgl3 HXS.out.1
      have y1 : w4.cell? ⟨wr.heap.size, 1, none⟩ = some (.slice adA rs[k].e.allow.length cpA) := kept HB4.out hgl3 HXS.out.2.1
      have y2 : w4.cell? ⟨wr.heap.size, 2, none⟩ = some (.string rs[k].e.over) := kept HB4.out hgl3 HXS.out.2.2.1
      have y3 : w4.cell? ⟨wr.heap.size, 3, none⟩ = some (.string rs[k].e.name) := kept HB4.out hgl3 HXS.out.2.2.2.1
      have y4 : w4.cell? ⟨wr.heap.size, 4, none⟩ = some (.slice (some ⟨gK, 0, none⟩) rs[k].e.kids.length rs[k].capK) := kept HB4.out hgl3 HXS.out.2.2.2.2.1
      have fy : ∀ y, w4.frozen? ⟨wr.heap.size, y, none⟩ = false := fun y => keptF HB4.out hgl3 (HXS.out.2.2.2.2.2 y)
      clear hown4 hgr4 hsK hzK hoK x0 x1 x2 x3 x4 fx t0 t1 t2 t3 t4
      obtain ⟨W5, hW5⟩ : ∃ W5, W5 = w4.setCell ⟨wr.heap.size, 4, none⟩ (.slice adK rs[k].e.kids.length cpK) := ⟨_, rfl⟩
      have HB5 : Hid (Below wr.heap.size wr W5) := by
        show Below _ _ _
        rw [hW5]
        exact (HB3.out.trans (HB4.out.mono HB3.out.size)).setCell (Nat.le_refl _) _
      have HC5 : Hid (Chg (fun g => g = wr.heap.size) w4 W5) := by rw [hW5]; exact Chg.set _ rfl
      obtain ⟨q, hq⟩ : ∃ q : ER, q = ⟨rs[k].e, adA, cpA, adK, cpK⟩ := ⟨_, rfl⟩
      have HCA5 : Hid (Chg (fun g => g = wr.heap.size) w2 W5) := HC3.out.trans ((Chg.of HB4.out).trans HC5.out)
      have HQOK : Hid (q.ok W5) := by
        rw [hq]
        refine ⟨HSA2.out.chg HCA5.out fun g o hne e => ?_, HSK4.out.chg HC5.out fun g o hne e => ?_⟩
        · obtain ⟨g0, e0⟩ := HZA.out hne
          rw [e0] at e; injection e with e; injection e with e1 e2
          have := (HOA.out g0 hne e0).1
          omega
        · obtain ⟨g0, e0⟩ := HZK.out hne
          rw [e0] at e; injection e with e; injection e with e1 e2
          have := (HOKK.out g0 hne e0).1
          omega
      have HQR : Hid (∀ g, inR q g → wr.heap.size < g ∧ g < W5.heap.size ∧ Free W5 g) := by
        rw [hq]
        rintro g (⟨hne, e⟩ | ⟨hne, e⟩)
        · obtain ⟨a1, a2, a3⟩ := HOA.out g hne e
          exact ⟨by omega, Nat.lt_of_lt_of_le a2 HCA5.out.size, HCA5.out.free g a2 a3⟩
        · obtain ⟨a1, a2, a3⟩ := HOKK.out g hne e
          exact ⟨by omega, Nat.lt_of_lt_of_le a2 HC5.out.size, HC5.out.free g a2 a3⟩
      have HQ1 : Hid (∀ g, bA q g → ¬ bK q g) := by
        rw [hq]
        rintro g ⟨hne, e⟩ ⟨hne2, e2⟩
        obtain ⟨a1, a2, a3⟩ := HOA.out g hne e
        obtain ⟨b1, b2, b3⟩ := HOKK.out g hne2 e2
        have := HC3.out.size
        omega
      have HQZ : Hid ((q.e.allow ≠ [] → ∃ g, q.adA = some ⟨g, 0, none⟩) ∧ (q.e.kids ≠ [] → ∃ g, q.adK = some ⟨g, 0, none⟩)) := by rw [hq]; exact ⟨HZA.out, HZK.out⟩
      have F1 := HF.out.later HB5.out
      have F4 := HF.out.later (HB3.out.trans (HB4.out.mono HB3.out.size))
      have fz := F4.free
      obtain ⟨v0, u0⟩ := Option.isSome_iff_exists.mp (F4.there (k * 5) (by omega))
      obtain ⟨v1, u1⟩ := Option.isSome_iff_exists.mp (F4.there (k * 5 + 1) (by omega))
      obtain ⟨v2, u2⟩ := Option.isSome_iff_exists.mp (F4.there (k * 5 + 2) (by omega))
      obtain ⟨v3, u3⟩ := Option.isSome_iff_exists.mp (F4.there (k * 5 + 3) (by omega))
      obtain ⟨v4, u4⟩ := Option.isSome_iff_exists.mp (F4.there (k * 5 + 4) (by omega))
      have hne1 : (wr.heap.size = w.heap.size) = False := by have := HF.out.lt; simp; omega
      have hne2 : (w.heap.size = wr.heap.size) = False := by have := HF.out.lt; simp; omega
      have hpl : (rows5 qs).length = k * 5 := by rw [rows5_len, HQ.out.1]
      have F2 := ((((F1.put (.int .i64 rs[k].e.kind) (o := k * 5) hpl.symm (by omega)).put (.slice adA rs[k].e.allow.length cpA) (o := k * 5 + 1) (by simp [hpl]) (by omega)).put (.string rs[k].e.over) (o := k * 5 + 2) (by simp [hpl]) (by omega)).put (.string rs[k].e.name) (o := k * 5 + 3) (by simp [hpl]) (by omega)).put (.slice adK rs[k].e.kids.length cpK) (o := k * 5 + 4) (by simp [hpl]) (by omega)
      have e5 : ((((rows5 qs ++ [.int .i64 rs[k].e.kind]) ++ [.slice adA rs[k].e.allow.length cpA]) ++ [.string rs[k].e.over]) ++ [.string rs[k].e.name]) ++ [.slice adK rs[k].e.kids.length cpK] = rows5 (qs ++ [q]) := by rw [hq]; simp [rows5, ER.row]
      rw [e5] at F2
      obtain ⟨wn, hwn⟩ : ∃ wn, wn = ((((W5.setCell ⟨w.heap.size, k * 5, none⟩ (.int .i64 rs[k].e.kind)).setCell ⟨w.heap.size, k * 5 + 1, none⟩ (.slice adA rs[k].e.allow.length cpA)).setCell ⟨w.heap.size, k * 5 + 2, none⟩ (.string rs[k].e.over)).setCell ⟨w.heap.size, k * 5 + 3, none⟩ (.string rs[k].e.name)).setCell ⟨w.heap.size, k * 5 + 4, none⟩ (.slice adK rs[k].e.kids.length cpK) := ⟨_, rfl⟩
      have HCW : Hid (Chg (fun g => g = w.heap.size) W5 wn) := by rw [hwn]; exact ((((Chg.set (S := fun g => g = w.heap.size) _ rfl).trans (Chg.set _ rfl)).trans (Chg.set _ rfl)).trans (Chg.set _ rfl)).trans (Chg.set _ rfl)
      have HO2 : Hid (OwnE w.heap.size wn (qs ++ [q])) := HO.out.add ((Chg.of HB5.out).trans HCW.out) HF.out.lt HQZ.out.1 HQZ.out.2 HQ1.out fun g hg => by
        obtain ⟨a1, a2, a3⟩ := HQR.out g hg
        exact ⟨by omega, Nat.lt_of_lt_of_le a2 HCW.out.size, HCW.out.free g a2 a3⟩
      have HQ2 : Hid ((qs ++ [q]).length = k + 1 ∧ exs (qs ++ [q]) = (exs rs).take (k + 1) ∧ ∀ p ∈ qs ++ [q], p.ok wn) := by
        obtain ⟨h1, h2, h3⟩ := HQ.out
        refine ⟨by simp [h1], ?_, ?_⟩
        · rw [List.take_succ_eq_append_getElem (by rw [exs_len]; exact hlt), ← h2]
          simp [exs, hq]
        · intro p hp
          have hin : ∀ g, inR p g → w.heap.size < g := fun g hg => (HO2.out.2 p hp g hg).1
          have hzA := HO2.out.1.zeroA p hp
          have hzK := HO2.out.1.zeroK p hp
          have hp5 : p.ok W5 := by
            rw [List.mem_append, List.mem_singleton] at hp
            rcases hp with hp | rfl
            · exact (h3 p hp).below HB5.out
            · exact HQOK.out
          refine hp5.chg HCW.out (fun g o hne e => ?_) (fun g o hne e => ?_)
          · obtain ⟨g0, e0⟩ := hzA hne
            have e' := e
            rw [e0] at e'; injection e' with e'; injection e' with e1 e2
            have := hin g0 (.inl ⟨hne, e0⟩)
            omega
          · obtain ⟨g0, e0⟩ := hzK hne
            have e' := e
            rw [e0] at e'; injection e' with e'; injection e' with e1 e2
            have := hin g0 (.inr ⟨hne, e0⟩)
            omega
      rw [← hwn] at F2
      have HF2 : Hid (Fil w wn w.heap.size (rs.length * 5) (rows5 (qs ++ [q]))) := F2
      have HWN : Hid (wn = ((((W5.setCell ⟨w.heap.size, k * 5, none⟩ (.int .i64 rs[k].e.kind)).setCell ⟨w.heap.size, k * 5 + 1, none⟩ (.slice adA rs[k].e.allow.length cpA)).setCell ⟨w.heap.size, k * 5 + 2, none⟩ (.string rs[k].e.over)).setCell ⟨w.heap.size, k * 5 + 3, none⟩ (.string rs[k].e.name)).setCell ⟨w.heap.size, k * 5 + 4, none⟩ (.slice adK rs[k].e.kids.length cpK)) := hwn
      have HW5 : Hid (W5 = w4.setCell ⟨wr.heap.size, 4, none⟩ (.slice adK rs[k].e.kids.length cpK)) := hW5
      clear F1 F2 F4 hpl e5 hq hwn hW5
      go_wp2
      rw [← HW5.out, ← HWN.out]
      go_roundw
      case rel => exact ⟨k + 1, qs ++ [q], by omega, by go_num, HQ2, HO2, HF2⟩
      case measure => simp [intOf]; omega
    · obtain rfl : k = rs.length := by omega
      obtain ⟨h1, h2, h3⟩ := HQ.out
      have HQ3 : Hid (qs.length = rs.length) := h1
      have HE3 : Hid (exs qs = exs rs) := by rw [← exs_len rs, List.take_length] at h2; exact h2
      have HS3 : Hid (SlE wr (some ⟨w.heap.size, 0, none⟩) qs) := by
        have F := HF.out
        rw [← h1] at F
        exact F.rows fun r hr => h3 r hr
      have HB3 : Hid (Below w.heap.size w wr) := HF.out.below
      have HFH : Hid (Free wr w.heap.size) := HF.out.free
      have HLT : Hid (w.heap.size < wr.heap.size) := HF.out.lt
      clear h1 h2 h3
      go_wp2
      go_ret
      exact ⟨qs, by rw [HQ3.out]; rfl, HE3.out, HS3.out, HO.out, HFH.out, HLT.out, HB3.out⟩
end Go.Proofs.Ytpmgkkbkficgpaa

/- Contract of the document's copy of an expression: a new one that holds the same. -/
namespace Go.Proofs.Ytpmgkkbkficgpaa
open Go.ChangeShapes Go.WideShapes Go.ChangeAt Go.RowKit Go.Maps
open Pl

theorem SlA.grown {w w' : World} {row : Option Nat} {ad : Option Addr} {xs : List Al} (h : SlA w ad xs) (hg : w.grownBy w' row) (hn : ∀ g o, xs ≠ [] → ad = some ⟨g, o, none⟩ → some g ≠ row) : SlA w' ad xs := by
  rcases h with h | ⟨b, off, e, hb, hr⟩
  · exact .inl h
  · by_cases hx : xs = []
    · exact .inl hx
    · exact .inr ⟨b, off, e, Nat.lt_of_lt_of_le hb hg.size, fun i hi => ⟨hg.cell (hr i hi).1 (hn b off hx e), hg.cell (hr i hi).2 (hn b off hx e)⟩⟩
theorem SlI.grown {w w' : World} {row : Option Nat} {ad : Option Addr} {zs : List Int} (h : SlI w ad zs) (hg : w.grownBy w' row) (hn : ∀ g o, zs ≠ [] → ad = some ⟨g, o, none⟩ → some g ≠ row) : SlI w' ad zs := by
  rcases h with h | ⟨b, off, e, hb, hr⟩
  · exact .inl h
  · by_cases hx : zs = []
    · exact .inl hx
    · exact .inr ⟨b, off, e, Nat.lt_of_lt_of_le hb hg.size, fun i hi => hg.cell (hr i hi) (hn b off hx e)⟩
/-- a copied node beside the row v: its lists lie elsewhere -/
structure Beside (w : World) (v : Value) (q : ER) : Prop where
  ok : q.ok w
  zA : q.e.allow ≠ [] → ∃ g, q.adA = some ⟨g, 0, none⟩
  zK : q.e.kids ≠ [] → ∃ g, q.adK = some ⟨g, 0, none⟩
  lt : ∀ g, inR q g → g < w.heap.size ∧ v.ownBlock ≠ some g
theorem Beside.below {w w' : World} {v : Value} {q : ER} (h : Beside w v q) (hb : Below w.heap.size w w') : Beside w' v q :=
  ⟨h.ok.below hb, h.zA, h.zK, fun g hg => ⟨Nat.lt_of_lt_of_le (h.lt g hg).1 hb.size, (h.lt g hg).2⟩⟩
theorem Beside.grown {w w' : World} {v v' : Value} {q : ER} (h : Beside w v q) (hg : w.grownBy w' v.ownBlock) (hv : v'.ownBlock = v.ownBlock ∨ v'.ownBlock = some w.heap.size) : Beside w' v' q := by
  refine ⟨⟨h.ok.1.grown hg fun g o hne e => ?_, h.ok.2.grown hg fun g o hne e => ?_⟩, h.zA, h.zK, fun g hi => ⟨Nat.lt_of_lt_of_le (h.lt g hi).1 hg.size, ?_⟩⟩
  · obtain ⟨g0, e0⟩ := h.zA hne
    rw [e0] at e; injection e with e; injection e with e1 e2
    subst e1
    exact fun e => (h.lt g0 (.inl ⟨hne, e0⟩)).2 e.symm
  · obtain ⟨g0, e0⟩ := h.zK hne
    rw [e0] at e; injection e with e; injection e with e1 e2
    subst e1
    exact fun e => (h.lt g0 (.inr ⟨hne, e0⟩)).2 e.symm
  · rcases hv with e | e
    · rw [e]; exact (h.lt g hi).2
    · rw [e]; intro e2; injection e2 with e2; have := (h.lt g hi).1; omega
theorem ownsE {w : World} {base n : Nat} {v : Value} {qs : List ER} (h : w.ownsRow base 51 5 v n (rows5 qs)) (hn : n = qs.length) (hok : ∀ q ∈ qs, q.ok w) : ∃ ad cap, v = .slice ad qs.length cap ∧ SlE w ad qs := by
  subst hn
  have h2 := h
  rcases h.2 with ⟨rfl, h0⟩ | ⟨g, cap, cur, rfl, hbg, hg, hnc, -⟩
  · exact ⟨none, 0, by rw [h0], .inl (List.length_eq_zero_iff.1 h0)⟩
  · have hlt := h2.lt g rfl
    refine ⟨some ⟨g, 0, none⟩, cap, rfl, .inr ⟨g, 0, rfl, hlt.2, fun i hi => ?_, hok⟩⟩
    have hl := rows5_len qs
    have key : ∀ j, j < 5 → w.cell? ⟨g, 0 + i * 5 + j, none⟩ = (qs[i]).row[j]? := fun j hj => by
      rw [h2.cellAt (0 + i * 5 + j) (by omega), ← rows5_at qs i hi j hj, Nat.zero_add]
    exact ⟨key 0 (by omega), key 1 (by omega), key 2 (by omega), key 3 (by omega), key 4 (by omega)⟩
theorem row5_news (w : World) (q : ER) : ∀ j u, q.row[j]? = some u → (w.alloc (.cells #[.int .i64 q.e.kind, .slice q.adA q.e.allow.length q.capA, .string q.e.over, .string q.e.name, .slice q.adK q.e.kids.length q.capK] 51)).cell? ((⟨w.heap.size, 0, none⟩ : Addr).add j) = some u := by
  intro j u hu
  rw [show (⟨w.heap.size, 0, none⟩ : Addr).add j = ⟨w.heap.size, 0 + j, none⟩ by simp [Addr.add]; omega, Nat.zero_add]
  have := World.cell?_alloc_mark w #[.int .i64 q.e.kind, .slice q.adA q.e.allow.length q.capA, .string q.e.over, .string q.e.name, .slice q.adK q.e.kids.length q.capK] 51 (0, 0) j
  rw [this]
  simpa [ER.row] using hu
theorem row5_one (q : ER) : ∀ u ∈ q.row, u.oneCell' = true := by
  intro u hu
  simp [ER.row] at hu
  rcases hu with rfl | rfl | rfl | rfl | rfl <;> rfl

set_option maxRecDepth 8000 in
set_option maxHeartbeats 4000000 in
theorem l2CopyExpr_any (ad : Option Addr) (cap : Nat) (rs : List ER) (w : World) (hlen : rs.length ≤ 15) (hs : SlE w ad rs) (hl : ∀ r ∈ rs, r.e.light) (hz : ∀ r ∈ rs, r.atZero) :
    Calls Try.prog 45 #[.slice ad rs.length cap] w fun e w' => ∃ (ad' : Option Addr) (cap' : Nat) (rs' : List ER), e = .returned (.slice ad' rs'.length cap') ∧ exs rs' = exs rs ∧ SlE w' ad' rs' ∧ Below w.heap.size w w' := by
  obtain ⟨iE, hiE, zE0, zE1, zE2⟩ := info_parts (P := Try.prog) (e := 51) (z := .agg #[.int .i64 0, .slice none 0 0, .string ⟨#[]⟩, .string ⟨#[]⟩, .slice none 0 0]) (size := 5) (bytes := 88) (by kernel_rfl)
  obtain ⟨iA, hiA, zA0, zA1, zA2⟩ := info_parts (P := Try.prog) (e := 100) (z := .agg #[.string ⟨#[]⟩, .string ⟨#[]⟩]) (size := 2) (bytes := 32) (by kernel_rfl)
  obtain ⟨iI, hiI, zI0, zI1, zI2⟩ := info_parts (P := Try.prog) (e := 2) (z := .int .i64 0) (size := 1) (bytes := 8) (by kernel_rfl)
  have HSL : Hid (SlE w ad rs) := hs
  have HLI : Hid (∀ r ∈ rs, r.e.light) := hl
  have HZR : Hid (∀ r ∈ rs, r.atZero) := hz
  have HIA : Hid (Try.prog.info? 100 = some iA ∧ iA.zero = some (.agg #[.string ⟨#[]⟩, .string ⟨#[]⟩]) ∧ iA.size = 2 ∧ iA.bytes = 32) := ⟨hiA, zA0, zA1, zA2⟩
  have HII : Hid (Try.prog.info? 2 = some iI ∧ iI.zero = some (.int .i64 0) ∧ iI.size = 1 ∧ iI.bytes = 8) := ⟨hiI, zI0, zI1, zI2⟩
  have HIE : Hid (Try.prog.info? 51 = some iE ∧ iE.zero = some (.agg #[.int .i64 0, .slice none 0 0, .string ⟨#[]⟩, .string ⟨#[]⟩, .slice none 0 0]) ∧ iE.size = 5 ∧ iE.bytes = 88) := ⟨hiE, zE0, zE1, zE2⟩
  clear hs hl hz hiA zA0 zA1 zA2 hiI zI0 zI1 zI2 hiE zE0 zE1 zE2
  go_enter Try.func45, Try.ntmps45
  go_wp2
  go_loopw [3, 4] (fun v i wr => ∃ (k : Nat) (qs : List ER), k ≤ rs.length ∧ i = .int .i64 k ∧ Hid (qs.length = k ∧ exs qs = (exs rs).take k ∧ (∀ q ∈ qs, Beside wr v q)) ∧ Hid (wr.ownsRow w.heap.size 51 5 v k (rows5 qs)) ∧ Hid (Below w.heap.size w wr)) (fun _ i _ => rs.length - (intOf i).toNat)
  case atStart => exact ⟨0, [], Nat.zero_le _, rfl, ⟨rfl, by simp [exs], (fun q hq => by cases hq)⟩, World.ownsRow_lit w #[] 0 (Nat.le_refl _) (by unfold maxLen; omega) (by simp), (Below.refl _ _).alloc (Nat.le_refl _) _⟩
  case round =>
    obtain ⟨k, qs, hk, rfl, HQ, HOW, HB⟩ := hrel
    by_cases hlt : k < rs.length
    · rcases HSL.out.below HB.out with hnil | ⟨b, off, hadr, hb, hr, hok⟩
      · rw [hnil] at hlt; simp at hlt
      obtain ⟨t0, t1, t2, t3, t4⟩ := hr k hlt
      have HOK : Hid (rs[k].ok wr) := hok rs[k] (List.getElem_mem hlt)
      have hlg := HLI.out rs[k] (List.getElem_mem hlt)
      have lA : rs[k].e.allow.length ≤ 1048576 := hlg.1
      have lK : rs[k].e.kids.length ≤ 1048576 := hlg.2
      obtain ⟨gA, gK, hA0, hK0⟩ := HZR.out rs[k] (List.getElem_mem hlt)
      have hk1 : (0 : Int) ≤ (k : Int) := by omega
      have hk2 : (k : Int) < (rs.length : Int) := by omega
      obtain ⟨W1, hW1⟩ : ∃ W1, W1 = wr.alloc (.cells #[.int .i64 rs[k].e.kind, .slice (some ⟨gA, 0, none⟩) rs[k].e.allow.length rs[k].capA, .string rs[k].e.over, .string rs[k].e.name, .slice (some ⟨gK, 0, none⟩) rs[k].e.kids.length rs[k].capK] 51) := ⟨_, rfl⟩
      have HB1 : Hid (Below wr.heap.size wr W1) := by show Below _ _ _; rw [hW1]; exact (Below.refl _ _).alloc (Nat.le_refl _) _
      have hgl : wr.heap.size < W1.heap.size := by rw [hW1]; simp
      have HSZ1 : Hid (W1.heap.size = wr.heap.size + 1) := by show _ = _; rw [hW1]; simp
      have HLIT1 : Hid ((W1.alloc (.cells #[] 100)).ownsRow W1.heap.size 100 2 (.slice (some ⟨wr.heap.size + 1, 0, none⟩) 0 0) 0 []) := by
        show World.ownsRow _ _ _ _ _ _ _
        rw [← HSZ1.out]
        exact World.ownsRow_lit W1 #[] 0 (Nat.le_refl _) (by unfold maxLen; omega) (by simp)
      have HSA1 : Hid (SlA W1 (some ⟨gA, 0, none⟩) rs[k].e.allow) := by rw [← hA0]; exact HOK.out.1.below HB1.out
      have p0 : W1.cell? ⟨wr.heap.size, 0, none⟩ = some (.int .i64 rs[k].e.kind) := by rw [hW1]; simp
      have p1 : W1.cell? ⟨wr.heap.size, 1, none⟩ = some (.slice (some ⟨gA, 0, none⟩) rs[k].e.allow.length rs[k].capA) := by rw [hW1]; simp
      have p2 : W1.cell? ⟨wr.heap.size, 2, none⟩ = some (.string rs[k].e.over) := by rw [hW1]; simp
      have p3 : W1.cell? ⟨wr.heap.size, 3, none⟩ = some (.string rs[k].e.name) := by rw [hW1]; simp
      have p4 : W1.cell? ⟨wr.heap.size, 4, none⟩ = some (.slice (some ⟨gK, 0, none⟩) rs[k].e.kids.length rs[k].capK) := by rw [hW1]; simp
      have fp : ∀ y, W1.frozen? ⟨wr.heap.size, y, none⟩ = false := fun y => by rw [hW1]; simp
      have HPS : Hid (W1.cell? ⟨wr.heap.size, 0, none⟩ = some (.int .i64 rs[k].e.kind) ∧ W1.cell? ⟨wr.heap.size, 1, none⟩ = some (.slice (some ⟨gA, 0, none⟩) rs[k].e.allow.length rs[k].capA) ∧ W1.cell? ⟨wr.heap.size, 2, none⟩ = some (.string rs[k].e.over) ∧ W1.cell? ⟨wr.heap.size, 3, none⟩ = some (.string rs[k].e.name) ∧ W1.cell? ⟨wr.heap.size, 4, none⟩ = some (.slice (some ⟨gK, 0, none⟩) rs[k].e.kids.length rs[k].capK) ∧ ∀ y, W1.frozen? ⟨wr.heap.size, y, none⟩ = false) := ⟨p0, p1, p2, p3, p4, fp⟩
      clear p0 p1 p2 p3 p4 fp
      rw [hadr]
      rw [hA0] at t1
      rw [hK0] at t4
      have HK0 : Hid (rs[k].adK = some ⟨gK, 0, none⟩) := hK0
      clear hr hok hlg hA0 hK0
      go_wp2_with (at_builtin; rw [← hW1]; clear hW1; refine wpList_append_own _ rfl _ _ 49 rfl W1.heap.size 100 iA (.agg #[.string ⟨#[]⟩, .string ⟨#[]⟩]) 2 32 Try.underlying49 HIA.out.1 HIA.out.2.1 HIA.out.2.2.1 HIA.out.2.2.2 rfl (by decide) _ 0 [] rfl HLIT1.out ⟨gA, 0, none⟩ rs[k].e.allow.length rs[k].capA (pairs rs[k].e.allow) rfl (pairs_len _) (newsA (HSA1.out.below ((Below.refl _ _).alloc (Nat.le_refl _) _))) (oneCells _) (by unfold maxLen; omega) (by omega) (by simp) ?_)
      intro v2 w2 hown2 hgr2 _
      have HB2 : Hid (Below W1.heap.size W1 w2) := ((Below.refl W1.heap.size W1).alloc (Nat.le_refl _) (.cells #[] 100)).grown hgr2 (by simp) (fun k hk => by simp [Value.ownBlock] at hk; have := HSZ1.out; omega)
      obtain ⟨adA, cpA, rfl, hsA, hzA, hoA⟩ := ownsA (by simpa using hown2) (by simp)
      have HSA2 : Hid (SlA w2 adA rs[k].e.allow) := hsA
      have HZA : Hid (rs[k].e.allow ≠ [] → ∃ g, adA = some ⟨g, 0, none⟩) := hzA
      have HOA : Hid (∀ g, rs[k].e.allow ≠ [] → adA = some ⟨g, 0, none⟩ → W1.heap.size ≤ g ∧ g < w2.heap.size ∧ Free w2 g) := hoA
      have x0 : w2.cell? ⟨wr.heap.size, 0, none⟩ = some (.int .i64 rs[k].e.kind) := kept HB2.out hgl HPS.out.1
      have x1 : w2.cell? ⟨wr.heap.size, 1, none⟩ = some (.slice (some ⟨gA, 0, none⟩) rs[k].e.allow.length rs[k].capA) := kept HB2.out hgl HPS.out.2.1
      have x2 : w2.cell? ⟨wr.heap.size, 2, none⟩ = some (.string rs[k].e.over) := kept HB2.out hgl HPS.out.2.2.1
      have x3 : w2.cell? ⟨wr.heap.size, 3, none⟩ = some (.string rs[k].e.name) := kept HB2.out hgl HPS.out.2.2.2.1
      have x4 : w2.cell? ⟨wr.heap.size, 4, none⟩ = some (.slice (some ⟨gK, 0, none⟩) rs[k].e.kids.length rs[k].capK) := kept HB2.out hgl HPS.out.2.2.2.2.1
      have fx : ∀ y, w2.frozen? ⟨wr.heap.size, y, none⟩ = false := fun y => keptF HB2.out hgl (HPS.out.2.2.2.2.2 y)
      clear hown2 hgr2 hsA hzA hoA
      obtain ⟨W3, hW3⟩ : ∃ W3, W3 = w2.setCell ⟨wr.heap.size, 1, none⟩ (.slice adA rs[k].e.allow.length cpA) := ⟨_, rfl⟩
      have HB3 : Hid (Below wr.heap.size wr W3) := by
        show Below _ _ _
        rw [hW3]
        exact (HB1.out.trans (HB2.out.mono (Nat.le_of_lt hgl))).setCell (Nat.le_refl _) _
      have HC3 : Hid (Chg (fun g => g = wr.heap.size) w2 W3) := by rw [hW3]; exact Chg.set _ rfl
      have HSK3 : Hid (SlI W3 (some ⟨gK, 0, none⟩) rs[k].e.kids) := by rw [← HK0.out]; exact HOK.out.2.below HB3.out
      have hgl3 : wr.heap.size < W3.heap.size := by rw [hW3]; simp only [World.size_setCell]; exact Nat.lt_of_lt_of_le hgl HB2.out.size
      have hx2 : wr.heap.size < w2.heap.size := Nat.lt_of_lt_of_le hgl HB2.out.size
      have hx3 : (wr.heap.size = w2.heap.size) = False := by simp; omega
      have HSZ3 : Hid (W3.heap.size = w2.heap.size) := by show _ = _; rw [hW3]; simp
      have HLIT3 : Hid ((W3.alloc (.cells #[] 2)).ownsRow W3.heap.size 2 1 (.slice (some ⟨w2.heap.size, 0, none⟩) 0 0) 0 []) := by
        show World.ownsRow _ _ _ _ _ _ _
        rw [← HSZ3.out]
        exact World.ownsRow_lit W3 #[] 0 (Nat.le_refl _) (by unfold maxLen; omega) (by simp)
      have HXS : Hid (W3.cell? ⟨wr.heap.size, 0, none⟩ = some (.int .i64 rs[k].e.kind) ∧ W3.cell? ⟨wr.heap.size, 1, none⟩ = some (.slice adA rs[k].e.allow.length cpA) ∧ W3.cell? ⟨wr.heap.size, 2, none⟩ = some (.string rs[k].e.over) ∧ W3.cell? ⟨wr.heap.size, 3, none⟩ = some (.string rs[k].e.name) ∧ W3.cell? ⟨wr.heap.size, 4, none⟩ = some (.slice (some ⟨gK, 0, none⟩) rs[k].e.kids.length rs[k].capK) ∧ ∀ y, W3.frozen? ⟨wr.heap.size, y, none⟩ = false) := by
        rw [hW3]
        exact ⟨by rw [setO' (by omega)]; exact x0, setS' x1, by rw [setO' (by omega)]; exact x2, by rw [setO' (by omega)]; exact x3, by rw [setO' (by omega)]; exact x4, fun y => by simpa using fx y⟩
      go_wp2_with (at_builtin; rw [← hW3]; clear hW3; refine wpList_append_own _ rfl _ _ 45 rfl W3.heap.size 2 iI (.int .i64 0) 1 8 Try.underlying45 HII.out.1 HII.out.2.1 HII.out.2.2.1 HII.out.2.2.2 rfl (by decide) _ 0 [] rfl HLIT3.out ⟨gK, 0, none⟩ rs[k].e.kids.length rs[k].capK (ints rs[k].e.kids) rfl (by simp [ints]) (newsI (HSK3.out.below ((Below.refl _ _).alloc (Nat.le_refl _) _))) (oneInts _) (by unfold maxLen; omega) (by omega) (by simp) ?_)
      intro v4 w4 hown4 hgr4 _
      have HB4 : Hid (Below W3.heap.size W3 w4) := ((Below.refl W3.heap.size W3).alloc (Nat.le_refl _) (.cells #[] 2)).grown hgr4 (by simp) (fun k hk => by simp [Value.ownBlock] at hk; have := HSZ3.out; omega)
      obtain ⟨adK, cpK, rfl, hsK, hzK, hoK⟩ := ownsI (by simpa using hown4) (by simp)
      have HSK4 : Hid (SlI w4 adK rs[k].e.kids) := hsK
      have HZK : Hid (rs[k].e.kids ≠ [] → ∃ g, adK = some ⟨g, 0, none⟩) := hzK
      have HOKK : Hid (∀ g, rs[k].e.kids ≠ [] → adK = some ⟨g, 0, none⟩ → W3.heap.size ≤ g ∧ g < w4.heap.size ∧ Free w4 g) := hoK
      have y0 : w4.cell? ⟨wr.heap.size, 0, none⟩ = some (.int .i64 rs[k].e.kind) := kept HB4.out hgl3 HXS.out.1
      have y1 : w4.cell? ⟨wr.heap.size, 1, none⟩ = some (.slice adA rs[k].e.allow.length cpA) := kept HB4.out hgl3 HXS.out.2.1
      have y2 : w4.cell? ⟨wr.heap.size, 2, none⟩ = some (.string rs[k].e.over) := kept HB4.out hgl3 HXS.out.2.2.1
      have y3 : w4.cell? ⟨wr.heap.size, 3, none⟩ = some (.string rs[k].e.name) := kept HB4.out hgl3 HXS.out.2.2.2.1
      have y4 : w4.cell? ⟨wr.heap.size, 4, none⟩ = some (.slice (some ⟨gK, 0, none⟩) rs[k].e.kids.length rs[k].capK) := kept HB4.out hgl3 HXS.out.2.2.2.2.1
      have fy : ∀ y, w4.frozen? ⟨wr.heap.size, y, none⟩ = false := fun y => keptF HB4.out hgl3 (HXS.out.2.2.2.2.2 y)
      clear hown4 hgr4 hsK hzK hoK x0 x1 x2 x3 x4 fx t0 t1 t2 t3 t4
      obtain ⟨W5, hW5⟩ : ∃ W5, W5 = w4.setCell ⟨wr.heap.size, 4, none⟩ (.slice adK rs[k].e.kids.length cpK) := ⟨_, rfl⟩
      have HB5 : Hid (Below wr.heap.size wr W5) := by
        show Below _ _ _
        rw [hW5]
        exact (HB3.out.trans (HB4.out.mono HB3.out.size)).setCell (Nat.le_refl _) _
      have HC5 : Hid (Chg (fun g => g = wr.heap.size) w4 W5) := by rw [hW5]; exact Chg.set _ rfl
      obtain ⟨q, hq⟩ : ∃ q : ER, q = ⟨rs[k].e, adA, cpA, adK, cpK⟩ := ⟨_, rfl⟩
      have HCA5 : Hid (Chg (fun g => g = wr.heap.size) w2 W5) := HC3.out.trans ((Chg.of HB4.out).trans HC5.out)
      have HBQ : Hid (Beside W5 u3 q) := by
        rw [hq]
        refine ⟨⟨HSA2.out.chg HCA5.out fun g o hne e => ?_, HSK4.out.chg HC5.out fun g o hne e => ?_⟩, HZA.out, HZK.out, ?_⟩
        · obtain ⟨g0, e0⟩ := HZA.out hne
          rw [e0] at e; injection e with e; injection e with e1 e2
          have := (HOA.out g0 hne e0).1
          omega
        · obtain ⟨g0, e0⟩ := HZK.out hne
          rw [e0] at e; injection e with e; injection e with e1 e2
          have := (HOKK.out g0 hne e0).1
          omega
        · rintro g (⟨hne, e⟩ | ⟨hne, e⟩)
          · obtain ⟨a1, a2, a3⟩ := HOA.out g hne e
            exact ⟨Nat.lt_of_lt_of_le a2 HCA5.out.size, fun e2 => by have := (HOW.out.lt g e2).2; omega⟩
          · obtain ⟨a1, a2, a3⟩ := HOKK.out g hne e
            exact ⟨Nat.lt_of_lt_of_le a2 HC5.out.size, fun e2 => by have := (HOW.out.lt g e2).2; omega⟩
      have HOW5 : Hid (W5.ownsRow w.heap.size 51 5 u3 k (rows5 qs)) := HOW.out.kept (row := none) ⟨HB5.out.os, HB5.out.tape, HB5.out.output, HB5.out.size, fun k hk _ => HB5.out.block k hk⟩ (by
        cases h : u3.ownBlock with
        | none => exact .inl rfl
        | some g => exact .inr (by simp))
      obtain ⟨W6, hW6⟩ : ∃ W6, W6 = W5.alloc (.cells #[.int .i64 q.e.kind, .slice q.adA q.e.allow.length q.capA, .string q.e.over, .string q.e.name, .slice q.adK q.e.kids.length q.capK] 51) := ⟨_, rfl⟩
      have HW6 : Hid (W6 = (w4.setCell ⟨wr.heap.size, 4, none⟩ (.slice adK rs[k].e.kids.length cpK)).alloc (.cells #[.int .i64 rs[k].e.kind, .slice adA rs[k].e.allow.length cpA, .string rs[k].e.over, .string rs[k].e.name, .slice adK rs[k].e.kids.length cpK] 51)) := by show _ = _; rw [hW6, hq, hW5]
      have HOW6 : Hid (W6.ownsRow w.heap.size 51 5 u3 k (rows5 qs)) := by rw [hW6]; exact HOW5.out.alloc _
      have HB6 : Hid (Below wr.heap.size wr W6) := by rw [hW6]; exact HB5.out.alloc HB5.out.size _
      have HNW : Hid (∀ j u, q.row[j]? = some u → W6.cell? ((⟨W5.heap.size, 0, none⟩ : Addr).add j) = some u) := by rw [hW6]; exact row5_news W5 q
      have HBQ6 : Hid (Beside W6 u3 q) := HBQ.out.below (by rw [hW6]; exact (Below.refl _ _).alloc (Nat.le_refl _) _)
      have HS5 : Hid (W5.heap.size = (w4.setCell ⟨wr.heap.size, 4, none⟩ (.slice adK rs[k].e.kids.length cpK)).heap.size) := by show _ = _; rw [hW5]
      have HQE : Hid (q.e = rs[k].e) := by show _ = _; rw [hq]
      have hsw : w4.heap.size = W5.heap.size := by rw [hW5]; simp
      clear hW5 hW6 hq
      go_wp2_with (at_builtin; rw [← HW6.out]; refine wpList_append_own_at _ rfl _ _ 25 rfl w.heap.size 51 iE (.agg #[.int .i64 0, .slice none 0 0, .string ⟨#[]⟩, .string ⟨#[]⟩, .slice none 0 0]) 5 88 Try.underlying25 HIE.out.1 HIE.out.2.1 HIE.out.2.2.1 HIE.out.2.2.2 rfl (by decide) u3 k (rows5 qs) rfl HOW6.out ⟨W5.heap.size, 0, none⟩ 1 1 q.row rfl rfl HNW.out (row5_one q) (by unfold maxLen; omega) (by omega) (Nat.le_trans HB.out.size HB6.out.size) ?_)
      intro v7 w7 hown7 hgr7 _ hv7
      have HB7 : Hid (Below w.heap.size w w7) := (HB.out.trans (HB6.out.mono HB.out.size)).grown hgr7 (Nat.le_trans HB.out.size HB6.out.size) (fun g hg => (HOW.out.lt g hg).1)
      have HOW7 : Hid (w7.ownsRow w.heap.size 51 5 v7 (k + 1) (rows5 (qs ++ [q]))) := by
        have e : rows5 (qs ++ [q]) = rows5 qs ++ q.row := by simp [rows5]
        rw [e]; exact hown7
      have HQ7 : Hid ((qs ++ [q]).length = k + 1 ∧ exs (qs ++ [q]) = (exs rs).take (k + 1) ∧ ∀ p ∈ qs ++ [q], Beside w7 v7 p) := by
        obtain ⟨h1, h2, h3⟩ := HQ.out
        refine ⟨by simp [h1], ?_, ?_⟩
        · rw [List.take_succ_eq_append_getElem (by rw [exs_len]; exact hlt), ← h2]
          simp [exs, HQE.out]
        · intro p hp
          rw [List.mem_append, List.mem_singleton] at hp
          rcases hp with hp | rfl
          · exact ((h3 p hp).below HB6.out).grown hgr7 hv7
          · exact HBQ6.out.grown hgr7 hv7
      clear hown7 hgr7 hv7
      go_wp2
      go_roundw
      case rel => exact ⟨k + 1, qs ++ [q], by omega, by go_num, HQ7, HOW7, HB7⟩
      case measure => simp [intOf]; omega
    · obtain rfl : k = rs.length := by omega
      obtain ⟨h1, h2, h3⟩ := HQ.out
      have HE3 : Hid (exs qs = exs rs) := by rw [← exs_len rs, List.take_length] at h2; exact h2
      obtain ⟨ad', cap', hv, hsl⟩ := ownsE HOW.out h1.symm (fun q hq => (h3 q hq).ok)
      subst hv
      have HS3 : Hid (SlE wr ad' qs) := hsl
      clear h1 h2 h3 hsl
      go_wp2
      go_ret
      exact ⟨ad', cap', qs, rfl, HE3.out, HS3.out, HB.out⟩
end Go.Proofs.Ytpmgkkbkficgpaa

/- Contracts of both functions that tell a relation's expression. -/
namespace Go.Proofs.Ytpmgkkbkficgpaa
open Go.ChangeShapes Go.WideShapes Go.ChangeAt Go.RowKit Go.Maps
open Pl

/-- the expression that is told; none where there is none -/
def relD (ts : List Ty) (typ rel : ByteArray) : List Ex := if schemaD ts then relOr ts typ rel else []
def Zeros (rs : List TR) : Prop := ∀ t ∈ rs, ∀ q ∈ t.rows, ∀ r ∈ q.rows, r.atZero
theorem zeros_of {rs : List TR} {B : Nat} (h : ∀ r ∈ rs, r.new B) : Zeros rs := fun t ht q hq r hr => by
  obtain ⟨gA, gK, e1, e2, -⟩ := ((h t ht).2 q hq).2 r hr
  exact ⟨gA, gK, e1, e2⟩

set_option maxRecDepth 100000 in
set_option maxHeartbeats 2000000 in
theorem specRelOf_any (ad : Option Addr) (cap : Nat) (rs : List TR) (typ rel : ByteArray) (w : World) (hlen : rs.length ≤ 1048576) (hs : SlT w ad rs) (hl : ∀ r ∈ rs, r.light) (hf : ∀ r ∈ rs, r.fits) (hz : Zeros rs) :
    Calls Try.prog 20 #[.slice ad rs.length cap, .string typ, .string rel] w fun e w' => ∃ (ad' : Option Addr) (cap' : Nat) (qs : List ER), e = .returned (.tuple #[.slice ad' qs.length cap', .bool (!(relD (tys rs) typ rel).isEmpty)]) ∧ exs qs = relD (tys rs) typ rel ∧ SlE w' ad' qs ∧ Below w.heap.size w w' := by
  have HS : Hid (SlT w ad rs) := hs
  have HL : Hid (∀ r ∈ rs, r.light) := hl
  have HFT : Hid (∀ r ∈ rs, r.fits) := hf
  have HZ : Hid (Zeros rs) := hz
  clear hs hl hf hz
  go_enter Try.func20, Try.ntmps20
  go_wp2_with fail
  refine (specSchemaOk_any ad cap rs _ hlen HS.out HL.out HFT.out).mono ?_
  rintro e w1 ⟨rfl, hb1⟩
  have HB1 : Hid (Below w.heap.size w w1) := hb1
  clear hb1
  cases hd : schemaD (tys rs) with
  | false =>
    have HN : Hid (relD (tys rs) typ rel = []) := by show _ = _; unfold relD; rw [hd]; rfl
    go_wp2
    refine bodyPost_ret (v := .tuple #[.slice none 0 0, .bool false]) ?_ rfl ⟨none, 0, [], by rw [HN.out]; rfl, by rw [HN.out]; rfl, .inl rfl, HB1.out⟩
    simp [results, Try.results20, go_sem]
  | true =>
    have HN : Hid (relD (tys rs) typ rel = relOr (tys rs) typ rel) := by show _ = _; unfold relD; rw [hd]; rfl
    have HEX : Hid (∀ r ∈ rs, ∀ q ∈ r.rows, specE (exs q.rows) = true ∧ q.rows.length ≤ 15 ∧ ∀ e ∈ q.rows, kidsRow q.rows.length e.e.kids) := (shape_facts (schemaD_iff.1 hd).1).2.2
    clear hd
    go_wp2_with fail
    refine (l2Rel_any ad cap rs typ rel _ hlen (HS.out.below HB1.out) HL.out).mono ?_
    rintro e w2 ⟨⟨rows, adE, capE, rfl, hex, hse, hfr⟩, hw2⟩
    replace hw2 := hw2.symm
    subst hw2
    have HX : Hid (exs rows = relOr (tys rs) typ rel) := hex
    have HSE : Hid (SlE w1 adE rows) := hse
    have HLE := hfr.light HL.out
    have HLG : Hid (∀ q ∈ rows, q.e.light) := HLE.2
    have hrl : rows.length ≤ 15 := by
      rcases hfr with h | ⟨t, ht, q, hq, h, -⟩
      · rw [h]; simp
      · rw [h]; exact (HEX.out t ht q hq).2.1
    have HZR : Hid (∀ r ∈ rows, r.atZero) := by
      rcases hfr with h | ⟨t, ht, q, hq, h, -⟩
      · rw [h]; intro r hr; cases hr
      · rw [h]; exact HZ.out t ht q hq
    clear hex hse hfr HLE
    by_cases hz : rows = []
    · have HN2 : Hid (relD (tys rs) typ rel = []) := by show _ = _; rw [HN.out, ← HX.out, hz]; rfl
      have hlz : (rows.length : Int) = 0 := by rw [hz]; rfl
      clear hz
      go_wp2
      refine bodyPost_ret (v := .tuple #[.slice none 0 0, .bool false]) ?_ rfl ⟨none, 0, [], by rw [HN2.out]; rfl, by rw [HN2.out]; rfl, .inl rfl, HB1.out⟩
      simp [results, Try.results20, go_sem]
    · have hlz : ¬ (rows.length : Int) = 0 := by
        intro h; exact hz (List.length_eq_zero_iff.1 (by omega))
      have HNE : Hid ((relD (tys rs) typ rel).isEmpty = false) := by
        show _ = _
        rw [HN.out, ← HX.out]
        cases rows with
        | nil => exact absurd rfl hz
        | cons a b => rfl
      clear hz
      go_wp2_with fail
      refine (l2Rel_any ad cap rs typ rel _ hlen (HS.out.below HB1.out) HL.out).mono ?_
      rintro e w2 ⟨⟨rows2, adE2, capE2, rfl, hex, hse, hfr⟩, hw2⟩
      replace hw2 := hw2.symm
      subst hw2
      have HX2 : Hid (exs rows2 = relOr (tys rs) typ rel) := hex
      have HSE2 : Hid (SlE w1 adE2 rows2) := hse
      have HLE := hfr.light HL.out
      have HLG2 : Hid (∀ q ∈ rows2, q.e.light) := HLE.2
      have hrl2 : rows2.length ≤ 15 := by
        rcases hfr with h | ⟨t, ht, q, hq, h, -⟩
        · rw [h]; simp
        · rw [h]; exact (HEX.out t ht q hq).2.1
      have HZR2 : Hid (∀ r ∈ rows2, r.atZero) := by
        rcases hfr with h | ⟨t, ht, q, hq, h, -⟩
        · rw [h]; intro r hr; cases hr
        · rw [h]; exact HZ.out t ht q hq
      clear hex hse hfr HLE
      go_wp2_with fail
      refine (l2CopyExpr_any adE2 capE2 rows2 _ hrl2 HSE2.out HLG2.out HZR2.out).mono ?_
      rintro e w3 ⟨ad', cap', qs, rfl, hqe, hqs, hb3⟩
      have HB3 : Hid (Below w.heap.size w w3) := HB1.out.trans (hb3.mono HB1.out.size)
      have HQE : Hid (exs qs = relD (tys rs) typ rel) := by show _ = _; rw [hqe, HX2.out, HN.out]
      have HQS : Hid (SlE w3 ad' qs) := hqs
      clear hqe hqs hb3
      go_wp2
      refine bodyPost_ret (v := .tuple #[.slice ad' qs.length cap', .bool true]) ?_ rfl ⟨ad', cap', qs, by rw [HNE.out]; rfl, HQE.out, HQS.out, HB3.out⟩
      simp [results, Try.results20, go_sem]

set_option maxRecDepth 100000 in
set_option maxHeartbeats 2000000 in
theorem implRelOf_any (ad : Option Addr) (cap : Nat) (rs : List TR) (typ rel : ByteArray) (w : World) (hlen : rs.length ≤ 1048576) (hs : SlT w ad rs) (hl : ∀ r ∈ rs, r.light) (hf : ∀ r ∈ rs, r.fits) (hcp : ∀ r ∈ rs, r.caps) (hz : Zeros rs) (ht : typ.size ≤ maxLen) (hr : rel.size ≤ maxLen) :
    Calls Try.prog 21 #[.slice ad rs.length cap, .string typ, .string rel] w fun e w' => ∃ (ad' : Option Addr) (cap' : Nat) (qs : List ER), e = .returned (.tuple #[.slice ad' qs.length cap', .bool (!(relD (tys rs) typ rel).isEmpty)]) ∧ exs qs = relD (tys rs) typ rel ∧ SlE w' ad' qs ∧ (qs ≠ [] → ∃ b, ad' = some ⟨b, 0, none⟩ ∧ w.heap.size ≤ b ∧ b < w'.heap.size ∧ OwnE b w' qs ∧ Free w' b) ∧ Below w.heap.size w w' := by
  obtain ⟨kl, hkl⟩ := relKeyOf (typ, rel) ht hr
  have HKL : Hid (keyOf Try.prog 84 (encK (typ, rel)) = some kl) := hkl
  have HS : Hid (SlT w ad rs) := hs
  have HL : Hid (∀ r ∈ rs, r.light) := hl
  have HFT : Hid (∀ r ∈ rs, r.fits) := hf
  have HCP : Hid (∀ r ∈ rs, r.caps) := hcp
  have HZ : Hid (Zeros rs) := hz
  clear hs hl hf hz hcp hkl
  go_enter Try.func21, Try.ntmps21
  go_wp2_with fail
  refine (implSchemaOk_any ad cap rs _ hlen HS.out HL.out HFT.out HCP.out).mono ?_
  rintro e w1 ⟨rfl, hb1⟩
  have HB1 : Hid (Below w.heap.size w w1) := hb1
  clear hb1
  cases hd : schemaD (tys rs) with
  | false =>
    have HN : Hid (relD (tys rs) typ rel = []) := by show _ = _; unfold relD; rw [hd]; rfl
    go_wp2
    refine bodyPost_ret (v := .tuple #[.slice none 0 0, .bool false]) ?_ rfl ⟨none, 0, [], by rw [HN.out]; rfl, by rw [HN.out]; rfl, .inl rfl, fun h => absurd rfl h, HB1.out⟩
    simp [results, Try.results21, go_sem]
  | true =>
    have HN : Hid (relD (tys rs) typ rel = relOr (tys rs) typ rel) := by show _ = _; unfold relD; rw [hd]; rfl
    have hSP := schemaD_iff.1 hd
    obtain ⟨h6, hr6, hex⟩ := shape_facts hSP.1
    have HR6 : Hid (∀ r ∈ rs, r.rows.length ≤ 6) := hr6
    have HEX : Hid (∀ r ∈ rs, ∀ q ∈ r.rows, specE (exs q.rows) = true ∧ q.rows.length ≤ 15 ∧ ∀ e ∈ q.rows, kidsRow q.rows.length e.e.kids) := hex
    have HTAB : Hid (Tab rs (tabM rs)) := tab_of hSP.1
    clear hd hSP hr6 hex
    go_wp2_with fail
    refine (tableOf_any ad cap rs _ h6 (HS.out.below HB1.out) HR6.out HFT.out).mono ?_
    rintro e w2 ⟨rfl, hmv, hb2⟩
    have HB2 : Hid (Below w.heap.size w w2) := HB1.out.trans (hb2.mono HB1.out.size)
    have HMV : Hid (MapV encK Try.prog 84 w2 w1.heap.size 36 (tabM rs)) := hmv
    clear hmv hb2
    cases hm : tabM rs (typ, rel) with
    | none =>
      have HN2 : Hid (relD (tys rs) typ rel = []) := by
        show _ = _
        rw [HN.out]; unfold relOr; rw [HTAB.out.no _ hm]; rfl
      go_wp2_with (at_lookup; refine wpList_lookV_ok _ rfl _ _ 81 rfl 84 25 relLaw Try.underlying81 (zeroExprs _) w1.heap.size 36 (tabM rs) rfl HMV.out (typ, rel) kl rfl HKL.out ?_; simp only [hm, Option.getD_none, Option.isSome_none])
      refine bodyPost_ret (v := .tuple #[.slice none 0 0, .bool false]) ?_ rfl ⟨none, 0, [], by rw [HN2.out]; rfl, by rw [HN2.out]; rfl, .inl rfl, fun h => absurd rfl h, HB2.out⟩
      simp [results, Try.results21, go_sem]
    | some v =>
      obtain ⟨t, htm, q, hq, -, rfl, e1, -⟩ := HTAB.out.yes _ v hm
      have HN2 : Hid (relD (tys rs) typ rel = exs q.rows) := by
        show _ = _
        rw [HN.out]; unfold relOr; rw [e1]; rfl
      have hsp := HEX.out t htm q hq
      have HNE : Hid ((relD (tys rs) typ rel).isEmpty = false) := by
        show _ = _
        rw [HN2.out]
        have := (specE_few hsp.1).1
        cases h : exs q.rows with
        | nil => rw [h] at this; simp at this
        | cons a b => rfl
      have hrl := hsp.2.1
      have HSE : Hid (SlE w2 q.ad q.rows) := SlR.mem (SlT.mem (HS.out.below HB2.out) htm) hq
      have HLG : Hid (∀ r ∈ q.rows, r.e.light) := ((HL.out t htm).2 q hq).2
      have HZR : Hid (∀ r ∈ q.rows, r.atZero) := HZ.out t htm q hq
      have HM : Hid (tabM rs (typ, rel) = some (.slice q.ad q.rows.length q.cap)) := hm
      clear e1 hsp hm
      go_wp2_with (at_lookup; refine wpList_lookV_ok _ rfl _ _ 81 rfl 84 25 relLaw Try.underlying81 (zeroExprs _) w1.heap.size 36 (tabM rs) rfl HMV.out (typ, rel) kl rfl HKL.out ?_; rw [HM.out]; simp only [Option.getD_some, Option.isSome_some])
      refine (copyExpr_any q.ad q.cap q.rows _ hrl HSE.out HLG.out HZR.out).mono ?_
      rintro e w3 ⟨qs, rfl, hqe, hqs, hqo, hqf, hql, hb3⟩
      have HB3 : Hid (Below w.heap.size w w3) := HB2.out.trans (hb3.mono HB2.out.size)
      have HQE : Hid (exs qs = relD (tys rs) typ rel) := by show _ = _; rw [hqe, HN2.out]
      have HQS : Hid (SlE w3 (some ⟨w2.heap.size, 0, none⟩) qs) := hqs
      have HQO : Hid (qs ≠ [] → ∃ b, (some ⟨w2.heap.size, 0, none⟩ : Option Addr) = some ⟨b, 0, none⟩ ∧ w.heap.size ≤ b ∧ b < w3.heap.size ∧ OwnE b w3 qs ∧ Free w3 b) := fun _ => ⟨w2.heap.size, rfl, HB2.out.size, hql, hqo, hqf⟩
      clear hqe hqs hqo hqf hql hb3
      go_wp2
      refine bodyPost_ret (v := .tuple #[.slice (some ⟨w2.heap.size, 0, none⟩) qs.length qs.length, .bool true]) ?_ rfl ⟨some ⟨w2.heap.size, 0, none⟩, qs.length, qs, by rw [HNE.out]; rfl, HQE.out, HQS.out, HQO.out, HB3.out⟩
      simp [results, Try.results21, go_sem]
end Go.Proofs.Ytpmgkkbkficgpaa
