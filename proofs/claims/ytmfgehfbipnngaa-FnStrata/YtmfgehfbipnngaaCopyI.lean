/- Contract of the program's copy of an expression: a new one that holds the same, in blocks of its own. -/
import Derived.Test.YtmfgehfbipnngaaToOwn
import Derived.OwnWalk
import Derived.Maps.AppendAt
namespace Go.Proofs.Ytmfgehfbipnngaa
open Go.ChangeShapes Go.WideShapes Go.ChangeAt Go.RowKit Go.Maps
open Pl
theorem OwnE.add {S : Nat → Prop} {b : Nat} {wr wn : World} {qs : List ER} (h : OwnE b wr qs) (hc : Chg S wr wn) (hb : b < wr.heap.size) {q : ER} (zA : q.e.allow ≠ [] → ∃ g, q.adA = some ⟨g, 0, none⟩) (zK : q.e.kids ≠ [] → ∃ g, q.adK = some ⟨g, 0, none⟩) (hone : ∀ g, bA q g → ¬ bK q g) (hq : ∀ g, inR q g → wr.heap.size ≤ g ∧ g < wn.heap.size ∧ Free wn g) : OwnE b wn (qs ++ [q]) := by
 refine ⟨⟨?_, ?_, ?_, ?_, ?_⟩, ?_⟩
 ·intro r hr; rw [List.mem_append, List.mem_singleton] at hr
  rcases hr with hr | rfl
  ·exact h.1.zeroA r hr
  ·exact zA
 ·intro r hr; rw [List.mem_append, List.mem_singleton] at hr
  rcases hr with hr | rfl
  ·exact h.1.zeroK r hr
  ·exact zK
 ·intro r hr; rw [List.mem_append, List.mem_singleton] at hr
  rcases hr with hr | rfl
  ·exact h.1.head r hr
  ·intro hg; have := (hq b hg).1; omega
 ·intro r hr; rw [List.mem_append, List.mem_singleton] at hr
  rcases hr with hr | rfl
  ·exact h.1.one r hr
  ·exact hone
 ·intro x y hx hy hne g hgx hgy
  rw [List.length_append, List.length_singleton] at hx hy
  by_cases ex : x < qs.length
  ·rw [List.getElem_append_left ex] at hgx
   by_cases ey : y < qs.length
   ·rw [List.getElem_append_left ey] at hgy
    exact h.1.two x y ex ey hne g hgx hgy
   ·rw [List.getElem_append_right (by omega)] at hgy
    have e1 := (hq g (by simpa using hgy)).1
    have e2 := (h.2 _ (List.getElem_mem ex) g hgx).2.1
    omega
  ·rw [List.getElem_append_right (by omega)] at hgx
   have e1 := (hq g (by simpa using hgx)).1
   have ey : y < qs.length := by omega
   rw [List.getElem_append_left ey] at hgy
   have e2 := (h.2 _ (List.getElem_mem ey) g hgy).2.1
   omega
 ·intro r hr g hg; rw [List.mem_append, List.mem_singleton] at hr
  rcases hr with hr | rfl
  ·obtain ⟨a1, a2, a3⟩ := h.2 r hr g hg
   exact ⟨a1, Nat.lt_of_lt_of_le a2 hc.size, hc.free g a2 a3⟩
  ·obtain ⟨a1, a2, a3⟩ := hq g hg
   exact ⟨by omega, a2, a3⟩
theorem oneCells (xs : List Al) : ∀ u ∈ pairs xs, u.oneCell' = true := by
 intro u hu
 unfold pairs at hu
 rw [List.mem_flatMap] at hu
 obtain ⟨a, -, h⟩ := hu
 simp at h
 rcases h with rfl | rfl <;> rfl
theorem oneInts (zs : List Int) : ∀ u ∈ ints zs, u.oneCell' = true := by
 intro u hu
 unfold ints at hu
 rw [List.mem_map] at hu
 obtain ⟨a, -, rfl⟩ := hu
 rfl
theorem ownsA {w : World} {base n : Nat} {v : Value} {xs : List Al} (h : w.ownsRow base 44 2 v n (pairs xs)) (hn : n = xs.length) : ∃ ad cap, v = .slice ad xs.length cap ∧ SlA w ad xs ∧ (xs ≠ [] → ∃ g, ad = some ⟨g, 0, none⟩) ∧ ∀ g, xs ≠ [] → ad = some ⟨g, 0, none⟩ → base ≤ g ∧ g < w.heap.size ∧ Free w g := by
 subst hn
 have h2 := h
 rcases h.2 with ⟨rfl, h0⟩ | ⟨g, cap, cur, rfl, hbg, hg, hnc, -⟩
 ·have hx : xs = [] := List.length_eq_zero_iff.1 h0
  subst hx
  exact ⟨none, 0, rfl, .inl rfl, fun h => absurd rfl h, fun _ h => absurd rfl h⟩
 ·have hlt := h2.lt g rfl
  refine ⟨some ⟨g, 0, none⟩, cap, rfl, .inr ⟨g, 0, rfl, hlt.2, fun i hi => ?_⟩, fun _ => ⟨g, rfl⟩, fun g' _ e => ?_⟩
  ·have hl := pairs_len xs
   obtain ⟨p0, p1⟩ := pairs_at xs i hi
   refine ⟨?_, ?_⟩
   ·rw [h2.cellAt (0 + i * 2) (by omega), Nat.zero_add]; exact p0
   ·rw [h2.cellAt (0 + i * 2 + 1) (by omega), Nat.zero_add]; exact p1
  ·injection e with e; injection e with e1 e2
   subst e1
   exact ⟨hlt.1, hlt.2, fun y => h2.frozenAt y⟩
theorem ownsI {w : World} {base n : Nat} {v : Value} {zs : List Int} (h : w.ownsRow base 2 1 v n (ints zs)) (hn : n = zs.length) : ∃ ad cap, v = .slice ad zs.length cap ∧ SlI w ad zs ∧ (zs ≠ [] → ∃ g, ad = some ⟨g, 0, none⟩) ∧ ∀ g, zs ≠ [] → ad = some ⟨g, 0, none⟩ → base ≤ g ∧ g < w.heap.size ∧ Free w g := by
 subst hn
 have h2 := h
 rcases h.2 with ⟨rfl, h0⟩ | ⟨g, cap, cur, rfl, hbg, hg, hnc, -⟩
 ·have hx : zs = [] := List.length_eq_zero_iff.1 h0
  subst hx
  exact ⟨none, 0, rfl, .inl rfl, fun h => absurd rfl h, fun _ h => absurd rfl h⟩
 ·have hlt := h2.lt g rfl
  refine ⟨some ⟨g, 0, none⟩, cap, rfl, .inr ⟨g, 0, rfl, hlt.2, fun i hi => ?_⟩, fun _ => ⟨g, rfl⟩, fun g' _ e => ?_⟩
  ·rw [h2.cellAt (0 + i) (by omega), Nat.zero_add]; simp [ints, hi]
  ·injection e with e; injection e with e1 e2
   subst e1
   exact ⟨hlt.1, hlt.2, fun y => h2.frozenAt y⟩
theorem wpList_append_copy {ops : Array Oper} {rest : List Oper} {o : Oper} {a : Act} {Q : Exit → Act → World → Prop} (w : World) (hgd : o.guard = none) (s x : Operand) (t : TypeId)
  (ho : o.op = .call { callee := .builtin .append, args := #[s, x], argTypes := #[t, t] })
  (e : TypeId) (i : TypeInfo) (z : Value) (size bytes : Nat) (ht : Try.prog.underlying t = some (.slice e)) (hi : Try.prog.info? e = some i) (hz : i.zero = some z)
  (hsize : i.size = size) (hby : i.bytes = bytes) (hzs : z.cells.size = size) (hsz : 0 < size)
  (hs : a.eval s = .slice none 0 0)
  (ad : Option Addr) (m c : Nat) (news : List Value) (hx : a.eval x = .slice ad m c) (hl : news.length = m * size) (hn0 : ad = none → m = 0) (hnews : ∀ A, ad = some A → ∀ j u, news[j]? = some u → w.cell? (A.add j) = some u) (h1 : ∀ u ∈ news, u.oneCell' = true)
  (h63 : 0 + m ≤ maxLen) (hbytes : (0 + m) * bytes ≤ 140737488355328)
  (h : ∀ v' w', w'.ownsRow w.heap.size e size v' (0 + m) ([] ++ news) → w.grownBy w' (Value.ownBlock (.slice none 0 0)) → wpList Try.prog ops Q rest (a.put o.dst v') w') : wpList Try.prog ops Q (o :: rest) a w := by
 cases ad with
 | some A => exact wpList_append_own w hgd s x t ho w.heap.size e i z size bytes ht hi hz hsize hby hzs hsz (.slice none 0 0) 0 [] hs (World.ownsRow_nil _ _ _ _) A m c news hx hl (hnews A rfl) h1 h63 hbytes (Nat.le_refl _) fun v' w' a b _ => h v' w' a b
 | none =>
  obtain rfl := hn0 rfl
  have hn : news = [] := List.eq_nil_of_length_eq_zero (by simpa using hl)
  subst hn
  refine wpList_plain hgd fun K hK => ?_
  have hr : (Builtin.append_ #[t, t] o.type #[.slice none 0 0, .slice none 0 c]).run Try.prog w = .ok (.slice none 0 0) w := by
   simp [Builtin.append_, run_underlying ht, sizeOf, typeInfo, hi, Builtin.lenOf, Builtin.firstCells]
  unfold Oper.wp execOp
  simp only [ho, resolve, invoke, builtin, Sem.run_bind, Sem.run_pure, Result.andThen_ok, List.map_toArray, List.map_cons, List.map_nil, hs, hx, hr]
  exact hK _ _ (h _ w (World.ownsRow_nil w _ e size) ⟨rfl, rfl, rfl, Nat.le_refl _, fun _ _ _ => rfl⟩)
theorem newsAn {w : World} {ad : Option Addr} {xs : List Al} (h : SlA w ad xs) : ∀ A, ad = some A → ∀ j u, (pairs xs)[j]? = some u → w.cell? (A.add j) = some u := by
 intro A hA j u hu
 subst hA
 have hl := pairs_len xs
 have hj : j < (pairs xs).length := by
  rcases Nat.lt_or_ge j (pairs xs).length with h' | h'
  ·exact h'
  ·rw [List.getElem?_eq_none h'] at hu; cases hu
 rcases h with rfl | ⟨b, off, e, hb, hr⟩
 ·simp [pairs] at hj
 injection e with e
 subst e
 obtain ⟨i, hi⟩ : ∃ i, j = i * 2 ∨ j = i * 2 + 1 := ⟨j / 2, by omega⟩
 rw [show (⟨b, off, none⟩ : Addr).add j = ⟨b, off + j, none⟩ by simp [Addr.add]]
 rcases hi with rfl | rfl
 ·rw [(pairs_at xs i (by omega)).1] at hu
  injection hu with hu; subst hu
  exact (hr i (by omega)).1
 ·rw [(pairs_at xs i (by omega)).2] at hu
  injection hu with hu; subst hu
  have := (hr i (by omega)).2
  rw [show off + i * 2 + 1 = off + (i * 2 + 1) by omega] at this
  exact this
theorem newsIn {w : World} {ad : Option Addr} {zs : List Int} (h : SlI w ad zs) : ∀ A, ad = some A → ∀ j u, (ints zs)[j]? = some u → w.cell? (A.add j) = some u := by
 intro A hA j u hu
 subst hA
 have hj : j < (ints zs).length := by
  rcases Nat.lt_or_ge j (ints zs).length with h' | h'
  ·exact h'
  ·rw [List.getElem?_eq_none h'] at hu; cases hu
 rcases h with rfl | ⟨b, off, e, hb, hr⟩
 ·simp [ints] at hj
 injection e with e
 subst e
 have hj2 : j < zs.length := by simpa [ints] using hj
 have := hr j hj2
 unfold ints at hu
 rw [List.getElem?_map, List.getElem?_eq_getElem hj2] at hu
 simp at hu
 subst hu
 rw [show (⟨b, off, none⟩ : Addr).add j = ⟨b, off + j, none⟩ by simp [Addr.add]]
 exact this
theorem SlA.none0 {w : World} {ad : Option Addr} {xs : List Al} (h : SlA w ad xs) : ad = none → xs.length = 0 := fun e => by
 rcases h with rfl | ⟨b, off, e', -⟩
 ·rfl
 ·rw [e'] at e; cases e
theorem SlI.none0 {w : World} {ad : Option Addr} {zs : List Int} (h : SlI w ad zs) : ad = none → zs.length = 0 := fun e => by
 rcases h with rfl | ⟨b, off, e', -⟩
 ·rfl
 ·rw [e'] at e; cases e
set_option maxRecDepth 8000 in
set_option maxHeartbeats 4000000 in
theorem copyExpr_any (ad : Option Addr) (cap : Nat) (rs : List ER) (w : World) (hlen : rs.length ≤ 15) (hs : SlE w ad rs) (hl : ∀ r ∈ rs, r.e.light) :
  Calls Try.prog 36 #[.slice ad rs.length cap] w fun e w' => ∃ rs' : List ER, e = .returned (.slice (some ⟨w.heap.size, 0, none⟩) rs'.length rs'.length) ∧ exs rs' = exs rs ∧ SlE w' (some ⟨w.heap.size, 0, none⟩) rs' ∧ OwnE w.heap.size w' rs' ∧ Free w' w.heap.size ∧ w.heap.size < w'.heap.size ∧ Below w.heap.size w w' := by
 obtain ⟨inf, z, hi, hz0, hz1, hz2⟩ := infoOf (t := 35) (n := 5) (b := 88) (by kernel_rfl)
 obtain ⟨iA, hiA, zA0, zA1, zA2⟩ := info_parts (P := Try.prog) (e := 44) (z := .agg #[.string ⟨#[]⟩, .string ⟨#[]⟩]) (size := 2) (bytes := 32) (by kernel_rfl)
 obtain ⟨iI, hiI, zI0, zI1, zI2⟩ := info_parts (P := Try.prog) (e := 2) (z := .int .i64 0) (size := 1) (bytes := 8) (by kernel_rfl)
 have HSL : Hid (SlE w ad rs) := hs
 have HLI : Hid (∀ r ∈ rs, r.e.light) := hl
 have HIA : Hid (Try.prog.info? 44 = some iA ∧ iA.zero = some (.agg #[.string ⟨#[]⟩, .string ⟨#[]⟩]) ∧ iA.size = 2 ∧ iA.bytes = 32) := ⟨hiA, zA0, zA1, zA2⟩
 have HII : Hid (Try.prog.info? 2 = some iI ∧ iI.zero = some (.int .i64 0) ∧ iI.size = 1 ∧ iI.bytes = 8) := ⟨hiI, zI0, zI1, zI2⟩
 clear hs hl hiA zA0 zA1 zA2 hiI zI0 zI1 zI2
 go_enter Try.func36, Try.ntmps36
 go_wp2_with (at_make; refine wpList_make_full _ rfl _ _ 28 rfl w.heap.size 35 inf z 5 Try.underlying28 hi hz0 hz1 .i64 .i64 _ _ rs.length rfl rfl rfl rfl (by rw [hz2]; omega) (by unfold maxLen; omega) (Nat.le_refl _) ?_; intro w0 hown0 hgrow0)
 have F0 : Fil w w0 w.heap.size (rs.length * 5) [] := fil_made hown0 hgrow0
 clear hown0 hgrow0 hi hz0 hz1 hz2
 go_loopw [11] (fun i wr => ∃ (k : Nat) (qs : List ER), k ≤ rs.length ∧ i = .int .i64 k ∧ Hid (qs.length = k ∧ exs qs = (exs rs).take k ∧ (∀ q ∈ qs, q.ok wr)) ∧ Hid (OwnE w.heap.size wr qs) ∧ Hid (Fil w wr w.heap.size (rs.length * 5) (rows5 qs))) (fun i _ => rs.length - (intOf i).toNat)
 case atStart => exact ⟨0, [], Nat.zero_le _, rfl, ⟨rfl, by simp [exs], (fun q hq => by cases hq)⟩, OwnE.nil _ _, F0⟩
 case round =>
  clear F0
  obtain ⟨k, qs, hk, rfl, HQ, HO, HF⟩ := hrel
  by_cases hlt : k < rs.length
  ·rcases HSL.out.below HF.out.below with hnil | ⟨b, off, hadr, hb, hr, hok⟩
   ·rw [hnil] at hlt; simp at hlt
   obtain ⟨t0, t1, t2, t3, t4⟩ := hr k hlt
   have HOK : Hid (rs[k].ok wr) := hok rs[k] (List.getElem_mem hlt)
   have hlg := HLI.out rs[k] (List.getElem_mem hlt)
   have lA : rs[k].e.allow.length ≤ 1048576 := hlg.1
   have lK : rs[k].e.kids.length ≤ 1048576 := hlg.2
   have hk1 : (0 : Int) ≤ (k : Int) := by omega
   have hk2 : (k : Int) < (rs.length : Int) := by omega
   obtain ⟨W1, hW1⟩ : ∃ W1, W1 = wr.alloc (.cells #[.int .i64 rs[k].e.kind, .slice rs[k].adA rs[k].e.allow.length rs[k].capA, .string rs[k].e.over, .string rs[k].e.name, .slice rs[k].adK rs[k].e.kids.length rs[k].capK] 35) := ⟨_, rfl⟩
   have HB1 : Hid (Below wr.heap.size wr W1) := by show Below _ _ _; rw [hW1]; exact (Below.refl _ _).alloc (Nat.le_refl _) _
   have hgl : wr.heap.size < W1.heap.size := by rw [hW1]; simp
   have HSA1 : Hid (SlA W1 rs[k].adA rs[k].e.allow) := HOK.out.1.below HB1.out
   have p0 : W1.cell? ⟨wr.heap.size, 0, none⟩ = some (.int .i64 rs[k].e.kind) := by rw [hW1]; simp
   have p1 : W1.cell? ⟨wr.heap.size, 1, none⟩ = some (.slice rs[k].adA rs[k].e.allow.length rs[k].capA) := by rw [hW1]; simp
   have p2 : W1.cell? ⟨wr.heap.size, 2, none⟩ = some (.string rs[k].e.over) := by rw [hW1]; simp
   have p3 : W1.cell? ⟨wr.heap.size, 3, none⟩ = some (.string rs[k].e.name) := by rw [hW1]; simp
   have p4 : W1.cell? ⟨wr.heap.size, 4, none⟩ = some (.slice rs[k].adK rs[k].e.kids.length rs[k].capK) := by rw [hW1]; simp
   have fp : ∀ y, W1.frozen? ⟨wr.heap.size, y, none⟩ = false := fun y => by rw [hW1]; simp
   have HPS : Hid (W1.cell? ⟨wr.heap.size, 0, none⟩ = some (.int .i64 rs[k].e.kind) ∧ W1.cell? ⟨wr.heap.size, 1, none⟩ = some (.slice rs[k].adA rs[k].e.allow.length rs[k].capA) ∧ W1.cell? ⟨wr.heap.size, 2, none⟩ = some (.string rs[k].e.over) ∧ W1.cell? ⟨wr.heap.size, 3, none⟩ = some (.string rs[k].e.name) ∧ W1.cell? ⟨wr.heap.size, 4, none⟩ = some (.slice rs[k].adK rs[k].e.kids.length rs[k].capK) ∧ ∀ y, W1.frozen? ⟨wr.heap.size, y, none⟩ = false) := ⟨p0, p1, p2, p3, p4, fp⟩
   clear p0 p1 p2 p3 p4 fp
   rw [hadr]
   clear hr hok hlg
   go_wp2_with (at_builtin; rw [← hW1]; clear hW1; refine wpList_append_copy _ rfl _ _ 32 rfl 44 iA (.agg #[.string ⟨#[]⟩, .string ⟨#[]⟩]) 2 32 Try.underlying32 HIA.out.1 HIA.out.2.1 HIA.out.2.2.1 HIA.out.2.2.2 rfl (by decide) rfl rs[k].adA rs[k].e.allow.length rs[k].capA (pairs rs[k].e.allow) rfl (pairs_len _) HSA1.out.none0 (newsAn HSA1.out) (oneCells _) (by unfold maxLen; omega) (by omega) ?_)
   intro v2 w2 hown2 hgr2
   have HB2 : Hid (Below W1.heap.size W1 w2) := (Below.refl _ _).grown hgr2 (Nat.le_refl _) (fun k hk => by cases hk)
   obtain ⟨adA, cpA, rfl, hsA, hzA, hoA⟩ := ownsA (by simpa using hown2) (by simp)
   have HSA2 : Hid (SlA w2 adA rs[k].e.allow) := hsA
   have HZA : Hid (rs[k].e.allow ≠ [] → ∃ g, adA = some ⟨g, 0, none⟩) := hzA
   have HOA : Hid (∀ g, rs[k].e.allow ≠ [] → adA = some ⟨g, 0, none⟩ → W1.heap.size ≤ g ∧ g < w2.heap.size ∧ Free w2 g) := hoA
   have x0 : w2.cell? ⟨wr.heap.size, 0, none⟩ = some (.int .i64 rs[k].e.kind) := kept HB2.out hgl HPS.out.1
   have x1 : w2.cell? ⟨wr.heap.size, 1, none⟩ = some (.slice rs[k].adA rs[k].e.allow.length rs[k].capA) := kept HB2.out hgl HPS.out.2.1
   have x2 : w2.cell? ⟨wr.heap.size, 2, none⟩ = some (.string rs[k].e.over) := kept HB2.out hgl HPS.out.2.2.1
   have x3 : w2.cell? ⟨wr.heap.size, 3, none⟩ = some (.string rs[k].e.name) := kept HB2.out hgl HPS.out.2.2.2.1
   have x4 : w2.cell? ⟨wr.heap.size, 4, none⟩ = some (.slice rs[k].adK rs[k].e.kids.length rs[k].capK) := kept HB2.out hgl HPS.out.2.2.2.2.1
   have fx : ∀ y, w2.frozen? ⟨wr.heap.size, y, none⟩ = false := fun y => keptF HB2.out hgl (HPS.out.2.2.2.2.2 y)
   clear hown2 hgr2 hsA hzA hoA
   obtain ⟨W3, hW3⟩ : ∃ W3, W3 = w2.setCell ⟨wr.heap.size, 1, none⟩ (.slice adA rs[k].e.allow.length cpA) := ⟨_, rfl⟩
   have HB3 : Hid (Below wr.heap.size wr W3) := by
    show Below _ _ _
    rw [hW3]
    exact (HB1.out.trans (HB2.out.mono (Nat.le_of_lt hgl))).setCell (Nat.le_refl _) _
   have HC3 : Hid (Chg (fun g => g = wr.heap.size) w2 W3) := by rw [hW3]; exact Chg.set _ rfl
   have HSK3 : Hid (SlI W3 rs[k].adK rs[k].e.kids) := HOK.out.2.below HB3.out
   have hgl3 : wr.heap.size < W3.heap.size := by rw [hW3]; simp only [World.size_setCell]; exact Nat.lt_of_lt_of_le hgl HB2.out.size
   have HXS : Hid (W3.cell? ⟨wr.heap.size, 0, none⟩ = some (.int .i64 rs[k].e.kind) ∧ W3.cell? ⟨wr.heap.size, 1, none⟩ = some (.slice adA rs[k].e.allow.length cpA) ∧ W3.cell? ⟨wr.heap.size, 2, none⟩ = some (.string rs[k].e.over) ∧ W3.cell? ⟨wr.heap.size, 3, none⟩ = some (.string rs[k].e.name) ∧ W3.cell? ⟨wr.heap.size, 4, none⟩ = some (.slice rs[k].adK rs[k].e.kids.length rs[k].capK) ∧ ∀ y, W3.frozen? ⟨wr.heap.size, y, none⟩ = false) := by
    rw [hW3]
    exact ⟨by rw [setO' (by omega)]; exact x0, setS' x1, by rw [setO' (by omega)]; exact x2, by rw [setO' (by omega)]; exact x3, by rw [setO' (by omega)]; exact x4, fun y => by simpa using fx y⟩
   go_wp2_with (at_builtin; rw [← hW3]; clear hW3; refine wpList_append_copy _ rfl _ _ 33 rfl 2 iI (.int .i64 0) 1 8 Try.underlying33 HII.out.1 HII.out.2.1 HII.out.2.2.1 HII.out.2.2.2 rfl (by decide) rfl rs[k].adK rs[k].e.kids.length rs[k].capK (ints rs[k].e.kids) rfl (by simp [ints]) HSK3.out.none0 (newsIn HSK3.out) (oneInts _) (by unfold maxLen; omega) (by omega) ?_)
   intro v4 w4 hown4 hgr4
   have HB4 : Hid (Below W3.heap.size W3 w4) := (Below.refl _ _).grown hgr4 (Nat.le_refl _) (fun k hk => by cases hk)
   obtain ⟨adK, cpK, rfl, hsK, hzK, hoK⟩ := ownsI (by simpa using hown4) (by simp)
   have HSK4 : Hid (SlI w4 adK rs[k].e.kids) := hsK
   have HZK : Hid (rs[k].e.kids ≠ [] → ∃ g, adK = some ⟨g, 0, none⟩) := hzK
   have HOKK : Hid (∀ g, rs[k].e.kids ≠ [] → adK = some ⟨g, 0, none⟩ → W3.heap.size ≤ g ∧ g < w4.heap.size ∧ Free w4 g) := hoK
   have y0 : w4.cell? ⟨wr.heap.size, 0, none⟩ = some (.int .i64 rs[k].e.kind) := kept HB4.out hgl3 HXS.out.1
   have y1 : w4.cell? ⟨wr.heap.size, 1, none⟩ = some (.slice adA rs[k].e.allow.length cpA) := kept HB4.out hgl3 HXS.out.2.1
   have y2 : w4.cell? ⟨wr.heap.size, 2, none⟩ = some (.string rs[k].e.over) := kept HB4.out hgl3 HXS.out.2.2.1
   have y3 : w4.cell? ⟨wr.heap.size, 3, none⟩ = some (.string rs[k].e.name) := kept HB4.out hgl3 HXS.out.2.2.2.1
   have y4 : w4.cell? ⟨wr.heap.size, 4, none⟩ = some (.slice rs[k].adK rs[k].e.kids.length rs[k].capK) := kept HB4.out hgl3 HXS.out.2.2.2.2.1
   have fy : ∀ y, w4.frozen? ⟨wr.heap.size, y, none⟩ = false := fun y => keptF HB4.out hgl3 (HXS.out.2.2.2.2.2 y)
   clear hown4 hgr4 hsK hzK hoK x0 x1 x2 x3 x4 fx t0 t1 t2 t3 t4
   obtain ⟨W5, hW5⟩ : ∃ W5, W5 = w4.setCell ⟨wr.heap.size, 4, none⟩ (.slice adK rs[k].e.kids.length cpK) := ⟨_, rfl⟩
   have HB5 : Hid (Below wr.heap.size wr W5) := by
    show Below _ _ _
    rw [hW5]
    exact (HB3.out.trans (HB4.out.mono HB3.out.size)).setCell (Nat.le_refl _) _
   have HC5 : Hid (Chg (fun g => g = wr.heap.size) w4 W5) := by rw [hW5]; exact Chg.set _ rfl
   obtain ⟨q, hq⟩ : ∃ q : ER, q = ⟨rs[k].e, adA, cpA, adK, cpK⟩ := ⟨_, rfl⟩
   have HCA5 : Hid (Chg (fun g => g = wr.heap.size) w2 W5) := HC3.out.trans ((Chg.of HB4.out).trans HC5.out)
   have HQOK : Hid (q.ok W5) := by
    rw [hq]
    refine ⟨HSA2.out.chg HCA5.out fun g o hne e => ?_, HSK4.out.chg HC5.out fun g o hne e => ?_⟩
    ·obtain ⟨g0, e0⟩ := HZA.out hne
     rw [e0] at e; injection e with e; injection e with e1 e2
     have := (HOA.out g0 hne e0).1
     omega
    ·obtain ⟨g0, e0⟩ := HZK.out hne
     rw [e0] at e; injection e with e; injection e with e1 e2
     have := (HOKK.out g0 hne e0).1
     omega
   have HQR : Hid (∀ g, inR q g → wr.heap.size < g ∧ g < W5.heap.size ∧ Free W5 g) := by
    rw [hq]
    rintro g (⟨hne, e⟩ | ⟨hne, e⟩)
    ·obtain ⟨a1, a2, a3⟩ := HOA.out g hne e
     exact ⟨by omega, Nat.lt_of_lt_of_le a2 HCA5.out.size, HCA5.out.free g a2 a3⟩
    ·obtain ⟨a1, a2, a3⟩ := HOKK.out g hne e
     exact ⟨by omega, Nat.lt_of_lt_of_le a2 HC5.out.size, HC5.out.free g a2 a3⟩
   have HQ1 : Hid (∀ g, bA q g → ¬ bK q g) := by
    rw [hq]
    rintro g ⟨hne, e⟩ ⟨hne2, e2⟩
    obtain ⟨a1, a2, a3⟩ := HOA.out g hne e
    obtain ⟨b1, b2, b3⟩ := HOKK.out g hne2 e2
    have := HC3.out.size
    omega
   have HQZ : Hid ((q.e.allow ≠ [] → ∃ g, q.adA = some ⟨g, 0, none⟩) ∧ (q.e.kids ≠ [] → ∃ g, q.adK = some ⟨g, 0, none⟩)) := by rw [hq]; exact ⟨HZA.out, HZK.out⟩
   have F1 := HF.out.later HB5.out
   have F4 := HF.out.later (HB3.out.trans (HB4.out.mono HB3.out.size))
   have fz := F4.free
   obtain ⟨v0, u0⟩ := Option.isSome_iff_exists.mp (F4.there (k * 5) (by omega))
   obtain ⟨v1, u1⟩ := Option.isSome_iff_exists.mp (F4.there (k * 5 + 1) (by omega))
   obtain ⟨v2, u2⟩ := Option.isSome_iff_exists.mp (F4.there (k * 5 + 2) (by omega))
   obtain ⟨v3, u3⟩ := Option.isSome_iff_exists.mp (F4.there (k * 5 + 3) (by omega))
   obtain ⟨v4, u4⟩ := Option.isSome_iff_exists.mp (F4.there (k * 5 + 4) (by omega))
   have hne1 : (wr.heap.size = w.heap.size) = False := by have := HF.out.lt; simp; omega
   have hne2 : (w.heap.size = wr.heap.size) = False := by have := HF.out.lt; simp; omega
   have hpl : (rows5 qs).length = k * 5 := by rw [rows5_len, HQ.out.1]
   have F2 := ((((F1.put (.int .i64 rs[k].e.kind) (o := k * 5) hpl.symm (by omega)).put (.slice adA rs[k].e.allow.length cpA) (o := k * 5 + 1) (by simp [hpl]) (by omega)).put (.string rs[k].e.over) (o := k * 5 + 2) (by simp [hpl]) (by omega)).put (.string rs[k].e.name) (o := k * 5 + 3) (by simp [hpl]) (by omega)).put (.slice adK rs[k].e.kids.length cpK) (o := k * 5 + 4) (by simp [hpl]) (by omega)
   have e5 : ((((rows5 qs ++ [.int .i64 rs[k].e.kind]) ++ [.slice adA rs[k].e.allow.length cpA]) ++ [.string rs[k].e.over]) ++ [.string rs[k].e.name]) ++ [.slice adK rs[k].e.kids.length cpK] = rows5 (qs ++ [q]) := by rw [hq]; simp [rows5, ER.row]
   rw [e5] at F2
   obtain ⟨wn, hwn⟩ : ∃ wn, wn = ((((W5.setCell ⟨w.heap.size, k * 5, none⟩ (.int .i64 rs[k].e.kind)).setCell ⟨w.heap.size, k * 5 + 1, none⟩ (.slice adA rs[k].e.allow.length cpA)).setCell ⟨w.heap.size, k * 5 + 2, none⟩ (.string rs[k].e.over)).setCell ⟨w.heap.size, k * 5 + 3, none⟩ (.string rs[k].e.name)).setCell ⟨w.heap.size, k * 5 + 4, none⟩ (.slice adK rs[k].e.kids.length cpK) := ⟨_, rfl⟩
   have HCW : Hid (Chg (fun g => g = w.heap.size) W5 wn) := by rw [hwn]; exact ((((Chg.set (S := fun g => g = w.heap.size) _ rfl).trans (Chg.set _ rfl)).trans (Chg.set _ rfl)).trans (Chg.set _ rfl)).trans (Chg.set _ rfl)
   have HO2 : Hid (OwnE w.heap.size wn (qs ++ [q])) := HO.out.add ((Chg.of HB5.out).trans HCW.out) HF.out.lt HQZ.out.1 HQZ.out.2 HQ1.out fun g hg => by
    obtain ⟨a1, a2, a3⟩ := HQR.out g hg
    exact ⟨by omega, Nat.lt_of_lt_of_le a2 HCW.out.size, HCW.out.free g a2 a3⟩
   have HQ2 : Hid ((qs ++ [q]).length = k + 1 ∧ exs (qs ++ [q]) = (exs rs).take (k + 1) ∧ ∀ p ∈ qs ++ [q], p.ok wn) := by
    obtain ⟨h1, h2, h3⟩ := HQ.out
    refine ⟨by simp [h1], ?_, ?_⟩
    ·rw [List.take_succ_eq_append_getElem (by rw [exs_len]; exact hlt), ← h2]
     simp [exs, hq]
    ·intro p hp
     have hin : ∀ g, inR p g → w.heap.size < g := fun g hg => (HO2.out.2 p hp g hg).1
     have hzA := HO2.out.1.zeroA p hp
     have hzK := HO2.out.1.zeroK p hp
     have hp5 : p.ok W5 := by
      rw [List.mem_append, List.mem_singleton] at hp
      rcases hp with hp | rfl
      ·exact (h3 p hp).below HB5.out
      ·exact HQOK.out
     refine hp5.chg HCW.out (fun g o hne e => ?_) (fun g o hne e => ?_)
     ·obtain ⟨g0, e0⟩ := hzA hne
      have e' := e
      rw [e0] at e'; injection e' with e'; injection e' with e1 e2
      have := hin g0 (.inl ⟨hne, e0⟩)
      omega
     ·obtain ⟨g0, e0⟩ := hzK hne
      have e' := e
      rw [e0] at e'; injection e' with e'; injection e' with e1 e2
      have := hin g0 (.inr ⟨hne, e0⟩)
      omega
   rw [← hwn] at F2
   have HF2 : Hid (Fil w wn w.heap.size (rs.length * 5) (rows5 (qs ++ [q]))) := F2
   have HWN : Hid (wn = ((((W5.setCell ⟨w.heap.size, k * 5, none⟩ (.int .i64 rs[k].e.kind)).setCell ⟨w.heap.size, k * 5 + 1, none⟩ (.slice adA rs[k].e.allow.length cpA)).setCell ⟨w.heap.size, k * 5 + 2, none⟩ (.string rs[k].e.over)).setCell ⟨w.heap.size, k * 5 + 3, none⟩ (.string rs[k].e.name)).setCell ⟨w.heap.size, k * 5 + 4, none⟩ (.slice adK rs[k].e.kids.length cpK)) := hwn
   have HW5 : Hid (W5 = w4.setCell ⟨wr.heap.size, 4, none⟩ (.slice adK rs[k].e.kids.length cpK)) := hW5
   clear F1 F2 F4 hpl e5 hq hwn hW5
   go_wp2
   rw [← HW5.out, ← HWN.out]
   go_roundw
   case rel => exact ⟨k + 1, qs ++ [q], by omega, by go_num, HQ2, HO2, HF2⟩
   case measure => simp [intOf]; omega
  ·obtain rfl : k = rs.length := by omega
   obtain ⟨h1, h2, h3⟩ := HQ.out
   have HQ3 : Hid (qs.length = rs.length) := h1
   have HE3 : Hid (exs qs = exs rs) := by rw [← exs_len rs, List.take_length] at h2; exact h2
   have HS3 : Hid (SlE wr (some ⟨w.heap.size, 0, none⟩) qs) := by
    have F := HF.out
    rw [← h1] at F
    exact F.rows fun r hr => h3 r hr
   have HB3 : Hid (Below w.heap.size w wr) := HF.out.below
   have HFH : Hid (Free wr w.heap.size) := HF.out.free
   have HLT : Hid (w.heap.size < wr.heap.size) := HF.out.lt
   clear h1 h2 h3
   go_wp2
   go_ret
   exact ⟨qs, by rw [HQ3.out]; rfl, HE3.out, HS3.out, HO.out, HFH.out, HLT.out, HB3.out⟩
end Go.Proofs.Ytmfgehfbipnngaa
