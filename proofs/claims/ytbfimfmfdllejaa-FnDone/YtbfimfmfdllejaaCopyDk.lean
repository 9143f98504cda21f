/- Copies of lists of files and of ops. -/
import Derived.Test.YtbfimfmfdllejaaOwnDk
import Derived.Test.YtbfimfmfdllejaaRegionRows
namespace Go.Proofs.Ytbfimfmfdllejaa
open Go.ChangeShapes Go.WideShapes Go.ChangeAt Go.RowKit Go.Maps

theorem newsF {w : World} {ad : Option Addr} {xs : List Fl} (h : SlF w ad xs) : ∀ A, ad = some A → ∀ j u, (rowsF xs)[j]? = some u → w.cell? (A.add j) = some u := by
  intro A hA j u hu
  subst hA
  have hl := rowsF_len xs
  have hj : j < (rowsF xs).length := by
    rcases Nat.lt_or_ge j (rowsF xs).length with h' | h'
    · exact h'
    · rw [List.getElem?_eq_none h'] at hu; cases hu
  rcases h with rfl | ⟨b, off, e, hb, hr⟩
  · simp [rowsF] at hj
  injection e with e
  subst e
  rw [add_noneD]
  obtain ⟨c0, c1⟩ := hr (j / 2) (by omega)
  have e1 : j = j / 2 * 2 + j % 2 := by omega
  rw [e1, rowsF_at xs (j / 2) (by omega) (j % 2) (by omega)] at hu
  rw [e1]
  rcases (show j % 2 = 0 ∨ j % 2 = 1 by omega) with h0 | h0
  · rw [h0] at hu ⊢
    simp only [Fl.row, List.getElem?_cons_zero, Option.some.injEq] at hu
    rw [← hu, ← c0]; rfl
  · rw [h0] at hu ⊢
    simp only [Fl.row, List.getElem?_cons_succ, List.getElem?_cons_zero, Option.some.injEq] at hu
    rw [← hu, ← c1]; rfl
theorem newsO {w : World} {ad : Option Addr} {xs : List Dop} (h : SlO w ad xs) : ∀ A, ad = some A → ∀ j u, (rowsO xs)[j]? = some u → w.cell? (A.add j) = some u := by
  intro A hA j u hu
  subst hA
  have hl := rowsO_len xs
  have hj : j < (rowsO xs).length := by
    rcases Nat.lt_or_ge j (rowsO xs).length with h' | h'
    · exact h'
    · rw [List.getElem?_eq_none h'] at hu; cases hu
  rcases h with rfl | ⟨b, off, e, hb, hr⟩
  · simp [rowsO] at hj
  injection e with e
  subst e
  rw [add_noneD]
  obtain ⟨c0, c1, c2, c3⟩ := hr (j / 4) (by omega)
  have e1 : j = j / 4 * 4 + j % 4 := by omega
  rw [e1, rowsO_at xs (j / 4) (by omega) (j % 4) (by omega)] at hu
  rw [e1]
  rcases (show j % 4 = 0 ∨ j % 4 = 1 ∨ j % 4 = 2 ∨ j % 4 = 3 by omega) with h0 | h0 | h0 | h0
  · rw [h0] at hu ⊢
    simp only [Dop.row, List.getElem?_cons_zero, Option.some.injEq] at hu
    rw [← hu, ← c0]; rfl
  · rw [h0] at hu ⊢
    simp only [Dop.row, List.getElem?_cons_succ, List.getElem?_cons_zero, Option.some.injEq] at hu
    rw [← hu, ← c1]; rfl
  · rw [h0] at hu ⊢
    simp only [Dop.row, List.getElem?_cons_succ, List.getElem?_cons_zero, Option.some.injEq] at hu
    rw [← hu, ← c2]; rfl
  · rw [h0] at hu ⊢
    simp only [Dop.row, List.getElem?_cons_succ, List.getElem?_cons_zero, Option.some.injEq] at hu
    rw [← hu, ← c3]; rfl
theorem SlF.none0 {w : World} {ad : Option Addr} {xs : List Fl} (h : SlF w ad xs) : ad = none → xs.length = 0 := fun e => by
  rcases h with h | ⟨b, off, e2, -⟩
  · rw [h]; rfl
  · rw [e] at e2; cases e2
theorem SlO.none0 {w : World} {ad : Option Addr} {xs : List Dop} (h : SlO w ad xs) : ad = none → xs.length = 0 := fun e => by
  rcases h with h | ⟨b, off, e2, -⟩
  · rw [h]; rfl
  · rw [e] at e2; cases e2
theorem rowF_ones (xs : List Fl) : ∀ u ∈ rowsF xs, u.oneCell' = true := fun u hu => by
  obtain ⟨f, -, h⟩ := List.mem_flatMap.1 hu; exact rowF_one f u h
theorem rowO_ones (xs : List Dop) : ∀ u ∈ rowsO xs, u.oneCell' = true := fun u hu => by
  obtain ⟨f, -, h⟩ := List.mem_flatMap.1 hu
  simp only [Dop.row, List.mem_cons, List.not_mem_nil, or_false] at h
  rcases h with rfl | rfl | rfl | rfl <;> rfl
/-- a list that nothing else shares: what is appended to an empty one is in a new block -/
structure NewF (w w' : World) (v : Value) (xs : List Fl) : Prop where
  is : ∃ ad cap, v = .slice ad xs.length cap ∧ (ad = none → cap = 0) ∧ SlF w' ad xs ∧ FrF w' w.heap.size ad (xs ≠ [])
structure NewO (w w' : World) (v : Value) (xs : List Dop) : Prop where
  is : ∃ ad cap, v = .slice ad xs.length cap ∧ SlO w' ad xs ∧ FrF w' w.heap.size ad (xs ≠ []) ∧ (xs = [] → cap = 0)
theorem own_ops {w : World} {base n : Nat} {e : TypeId} {v : Value} {xs : List Dop} (h : w.ownsRow base e 4 v n (rowsO xs)) (hn : n = xs.length) : ∃ ad cap, v = .slice ad xs.length cap ∧ SlO w ad xs ∧ FrF w base ad (xs ≠ []) := by
  subst hn
  have h2 := h
  rcases h.2 with ⟨rfl, h0⟩ | ⟨g, cp, cur, rfl, hbg, hg, hnc, -⟩
  · have : xs = [] := List.length_eq_zero_iff.1 h0
    subst this
    exact ⟨none, 0, rfl, .inl rfl, fun hn => absurd rfl hn⟩
  · have hlt := h2.lt g rfl
    have key : ∀ i (hi : i < xs.length) j, j < 4 → w.cell? ⟨g, 0 + i * 4 + j, none⟩ = (xs[i]).row[j]? := fun i hi j hj => by
      rw [h2.cellAt (0 + i * 4 + j) (by have := rowsO_len xs; omega), ← rowsO_at xs i hi j hj, Nat.zero_add]
    exact ⟨some ⟨g, 0, none⟩, cp, rfl, .inr ⟨g, 0, rfl, hlt.2, fun i hi => ⟨key i hi 0 (by omega), key i hi 1 (by omega), key i hi 2 (by omega), key i hi 3 (by omega)⟩⟩, fun _ => ⟨g, rfl, hlt.1, hlt.2, fun j => by simp [World.frozen?, hg]⟩⟩
theorem own_filesF {w : World} {base n : Nat} {e : TypeId} {v : Value} {xs : List Fl} (h : w.ownsRow base e 2 v n (rowsF xs)) (hn : n = xs.length) : ∃ ad cap, v = .slice ad xs.length cap ∧ (ad = none → cap = 0) ∧ SlF w ad xs ∧ FrF w base ad (xs ≠ []) := by
  obtain ⟨ad, cap, rfl, hs, hc⟩ := own_files2 h hn
  refine ⟨ad, cap, rfl, hc, hs, fun hne => ?_⟩
  rcases h.2 with ⟨e1, h0⟩ | ⟨g, cp, cur, e1, hbg, hg, -⟩
  · subst hn; exact absurd (List.length_eq_zero_iff.1 h0) hne
  · injection e1 with e2
    subst e2
    exact ⟨g, rfl, hbg, (Array.getElem?_eq_some_iff.1 hg).1, fun j => by simp [World.frozen?, hg]⟩
/-- 'append(v, x...)' where v is empty and x may be nil -/
theorem run_append_new (w : World) (t ty e : TypeId) (i : TypeInfo) (z : Value) (size bytes : Nat) (ht : Try.prog.underlying t = some (.slice e)) (hi : Try.prog.info? e = some i) (hz : i.zero = some z)
    (hsize : i.size = size) (hby : i.bytes = bytes) (hzs : z.cells.size = size) (hsz : 0 < size)
    (base : Nat) (hbase : base ≤ w.heap.size) (v : Value) (hv : v = .slice none 0 0 ∨ ∃ g, v = .slice (some ⟨g, 0, none⟩) 0 0 ∧ w.heap[g]? = some (.cells #[] e (0, 0)) ∧ base ≤ g)
    (ad : Option Addr) (m c : Nat) (news : List Value) (hl : news.length = m * size) (hn0 : ad = none → m = 0) (hnews : ∀ A, ad = some A → ∀ j u, news[j]? = some u → w.cell? (A.add j) = some u) (h1 : ∀ u ∈ news, u.oneCell' = true)
    (h63 : 0 + m ≤ maxLen) (hbytes : (0 + m) * bytes ≤ 140737488355328) :
    ∃ v' w', (Builtin.append_ #[t, t] ty #[v, .slice ad m c]).run Try.prog w = .ok v' w' ∧ Below w.heap.size w w' ∧ ((m = 0 ∧ ∃ ad', v' = .slice ad' 0 0) ∨ 0 < m ∧ w'.ownsRow w.heap.size e size v' m news) ∧ w'.ownsRow base e size v' m news := by
  by_cases hm : m = 0
  · subst hm
    have hn : news = [] := List.eq_nil_of_length_eq_zero (by simpa using hl)
    subst hn
    have hf : (Builtin.firstCells size 0 (.slice ad 0 c)).run Try.prog w = .ok #[] w := by
      cases ad with
      | none => simp [Builtin.firstCells]
      | some A => simpa using run_firstCells_some (P := Try.prog) w size 0 A 0 c [] (by simp) (by simp)
    rcases hv with rfl | ⟨g, rfl, hg, hgb⟩
    · refine ⟨.slice none 0 0, w, ?_, Below.refl _ _, .inl ⟨rfl, none, rfl⟩, World.ownsRow_nil _ _ _ _⟩
      simp [Builtin.append_, run_underlying ht, sizeOf, typeInfo, hi, hsize, Builtin.lenOf, hf]
    · refine ⟨.slice (some ⟨g, 0, none⟩) 0 0, w, ?_, Below.refl _ _, .inl ⟨rfl, _, rfl⟩, ⟨by simp, .inr ⟨g, 0, #[], rfl, hgb, hg, Nat.le_refl _, Nat.zero_le _, by simp, by simp⟩⟩⟩
      simp [Builtin.append_, run_underlying ht, sizeOf, typeInfo, hi, hsize, Builtin.lenOf, hf, storeCells]
  · cases ad with
    | none => exact absurd (hn0 rfl) hm
    | some A =>
      subst hsize
      subst hby
      have h62 : m ≤ maxLen := by omega
      have hge := grownCap_ge w m 0 e
      have hcm : grownCap w m 0 e ≤ maxLen := grownCap_le_maxLen w m 0 e h62
      have fin : (w.drew.alloc (.cells (news.toArray ++ Builtin.zeroCells z.cells (grownCap w m 0 e - m)) e)).ownsRow w.heap.size e i.size (.slice (some ⟨w.heap.size, 0, none⟩) m (grownCap w m 0 e)) m news := by
        refine ⟨hl, .inr ⟨w.heap.size, _, _, rfl, Nat.le_refl _, heap_alloc_new w.drew _, hge, hcm, ?_, ?_⟩⟩
        · simp only [Array.size_append, List.size_toArray, size_zeroCells, hzs, hl]
          rw [← Nat.add_mul, Nat.add_sub_cancel' hge]
        · rw [Array.toList_append, ← hl]; exact List.take_left
      have hB : Below w.heap.size w (w.drew.alloc (.cells (news.toArray ++ Builtin.zeroCells z.cells (grownCap w m 0 e - m)) e)) := (Below.refl _ _).drew.alloc (Nat.le_refl _) _
      rw [Nat.zero_add] at hbytes
      rcases hv with rfl | ⟨g, rfl, hg, hgb⟩
      · exact ⟨_, _, run_append_nil (P := Try.prog) w t ty e i z ht hi hz A m c news hl (hnews A rfl) (by omega) (by unfold maxLen at h62; omega) (by omega), hB, .inr ⟨by omega, fin⟩, own_base fin hbase⟩
      · have hr := run_append_grow (P := Try.prog) w t ty e i z ht hi hz ⟨g, 0, none⟩ 0 0 [] (by simp) (by simp) A m c news hl (hnews A rfl) (by omega) (by unfold maxLen at h62; omega) (growslice_fits (by omega) (by rw [Nat.zero_add]; exact hbytes))
        have e0 : ([] : List Value).toArray ++ news.toArray = news.toArray := by simp
        rw [Nat.zero_add, e0] at hr
        exact ⟨_, _, hr, hB, .inr ⟨by omega, fin⟩, own_base fin hbase⟩
theorem info_dop : (Try.prog.info? 37).map (fun i => (i.zero, i.size, i.bytes)) = some (some (.agg #[.int .i64 0, .string ⟨#[]⟩, .string ⟨#[]⟩, .string ⟨#[]⟩]), 4, 56) := by kernel_rfl
def Empt (w : World) (base : Nat) (e : TypeId) (v : Value) : Prop := v = .slice none 0 0 ∨ ∃ g, v = .slice (some ⟨g, 0, none⟩) 0 0 ∧ w.heap[g]? = some (.cells #[] e (0, 0)) ∧ base ≤ g
theorem Empt.below {w w' : World} {base : Nat} {e : TypeId} {v : Value} (h : Empt w base e v) (hB : Below w.heap.size w w') : Empt w' base e v := by
  rcases h with h | ⟨g, e1, hg, hb⟩
  · exact .inl h
  · exact .inr ⟨g, e1, by rw [hB.block g (Array.getElem?_eq_some_iff.1 hg).1]; exact hg, hb⟩
theorem appF (w : World) (ad : Option Addr) (cap : Nat) (xs : List Fl) (hS : SlF w ad xs) (hl : xs.length ≤ 1048576) (base : Nat) (hbase : base ≤ w.heap.size) (v : Value) (hv : Empt w base 93 v) (ty : TypeId) :
    ∃ v' w', (Builtin.append_ #[30, 30] ty #[v, .slice ad xs.length cap]).run Try.prog w = .ok v' w' ∧ Below w.heap.size w w' ∧ NewF w w' v' xs := by
  obtain ⟨iF, hiF, z0, z1, z2⟩ := info_parts info_file
  obtain ⟨v', w', hr, hB, h, -⟩ := run_append_new w 30 ty 93 iF (.agg #[.string ⟨#[]⟩, .string ⟨#[]⟩]) 2 32 Try.underlying30 hiF z0 z1 z2 rfl (by decide) base hbase v hv ad xs.length cap (rowsF xs) (rowsF_len xs) hS.none0 (newsF hS) (rowF_ones xs) (by unfold maxLen; omega) (by omega)
  refine ⟨v', w', hr, hB, ⟨?_⟩⟩
  rcases h with ⟨h0, ad', rfl⟩ | ⟨-, h⟩
  · have : xs = [] := List.length_eq_zero_iff.1 h0
    subst this
    exact ⟨ad', 0, rfl, fun _ => rfl, .inl rfl, fun hn => absurd rfl hn⟩
  · exact own_filesF h rfl
theorem appO (w : World) (ad : Option Addr) (cap : Nat) (xs : List Dop) (hS : SlO w ad xs) (hl : xs.length ≤ 1048576) (base : Nat) (hbase : base ≤ w.heap.size) (v : Value) (hv : Empt w base 37 v) (ty : TypeId) :
    ∃ v' w', (Builtin.append_ #[31, 31] ty #[v, .slice ad xs.length cap]).run Try.prog w = .ok v' w' ∧ Below w.heap.size w w' ∧ NewO w w' v' xs ∧ w'.ownsRow base 37 4 v' xs.length (rowsO xs) := by
  obtain ⟨iF, hiF, z0, z1, z2⟩ := info_parts info_dop
  obtain ⟨v', w', hr, hB, h, hown⟩ := run_append_new w 31 ty 37 iF (.agg #[.int .i64 0, .string ⟨#[]⟩, .string ⟨#[]⟩, .string ⟨#[]⟩]) 4 56 Try.underlying31 hiF z0 z1 z2 rfl (by decide) base hbase v hv ad xs.length cap (rowsO xs) (rowsO_len xs) hS.none0 (newsO hS) (rowO_ones xs) (by unfold maxLen; omega) (by omega)
  refine ⟨v', w', hr, hB, ⟨?_⟩, hown⟩
  rcases h with ⟨h0, ad', rfl⟩ | ⟨h0, h⟩
  · have : xs = [] := List.length_eq_zero_iff.1 h0
    subst this
    exact ⟨ad', 0, rfl, .inl rfl, fun hn => absurd rfl hn, fun _ => rfl⟩
  · obtain ⟨ad', cap', e1, e2, e3⟩ := own_ops h rfl
    exact ⟨ad', cap', e1, e2, e3, fun hn => by rw [hn] at h0; simp at h0⟩
theorem wpList_append_run {P : Program} {ops : Array Oper} {rest : List Oper} {Q : Exit → Act → World → Prop} {o : Oper} {a : Act} {w : World} (hgd : o.guard = none) (s x : Operand) (t u : TypeId)
    (ho : o.op = .call { callee := .builtin .append, args := #[s, x], argTypes := #[t, u] }) (v y v' : Value) (w' : World) (hs : a.eval s = v) (hx : a.eval x = y) (hr : (Builtin.append_ #[t, u] o.type #[v, y]).run P w = .ok v' w') (h : wpList P ops Q rest (a.put o.dst v') w') : wpList P ops Q (o :: rest) a w := by
  refine wpList_plain hgd fun K hK => ?_
  unfold Oper.wp execOp
  simp only [ho, resolve, invoke, builtin, Sem.run_bind, Sem.run_pure, Result.andThen_ok, List.map_toArray, List.map_cons, List.map_nil, hs, hx, hr]
  exact hK _ _ h
def CopyTo (w : World) (xs : List Fl) (e : Ending) (w' : World) : Prop := ∃ v, e = .returned v ∧ NewF w w' v xs ∧ Below w.heap.size w w'
set_option maxHeartbeats 1000000 in
theorem copyFiles_any (ad : Option Addr) (cap : Nat) (xs : List Fl) (w : World) (hS : SlF w ad xs) (hl : xs.length ≤ 1048576) :
    Calls Try.prog 73 #[.slice ad xs.length cap] w (CopyTo w xs) := by
  obtain ⟨v', w', hr, hB, hN⟩ := appF w ad cap xs hS hl 0 (Nat.zero_le _) (.slice none 0 0) (.inl rfl) 30
  have HR := HIDk hr
  have HN := HIDk hN
  have HB := HIDk hB
  clear hr hB hN hS
  go_enter Try.func73, Try.ntmps73
  go_wp2_with (at_builtin; refine wpList_append_run rfl _ _ 30 30 rfl (.slice none 0 0) (.slice ad xs.length cap) v' w' rfl rfl HR.out ?_)
  go_wp2
  go_ret
  exact ⟨v', rfl, HN.out, HB.out⟩
/-- one more op behind the ops of a copy -/
theorem appOp (W : World) (base : Nat) (adO : Option Addr) (capO : Nat) (os : List Dop) (o : Dop) (x : Nat) (ty : TypeId) (hown : W.ownsRow base 37 4 (.slice adO os.length capO) os.length (rowsO os)) (hb : base ≤ W.heap.size) (hz : os = [] → capO = 0)
    (hx : ∀ j u, o.row[j]? = some u → W.cell? ((⟨x, 0, none⟩ : Addr).add j) = some u) (hl : os.length ≤ 1048576) :
    ∃ ad' cap' w', (Builtin.append_ #[31, 31] ty #[.slice adO os.length capO, .slice (some ⟨x, 0, none⟩) 1 1]).run Try.prog W = .ok (.slice ad' (os ++ [o]).length cap') w' ∧ w'.ownsRow base 37 4 (.slice ad' (os ++ [o]).length cap') (os ++ [o]).length (rowsO (os ++ [o])) ∧
      (Below W.heap.size W w' ∧ (∃ g, ad' = some ⟨g, 0, none⟩ ∧ W.heap.size ≤ g) ∨ os ≠ [] ∧ W.grownBy w' (Value.ownBlock (.slice adO os.length capO)) ∧ (ad' = adO ∨ ∃ g, ad' = some ⟨g, 0, none⟩ ∧ W.heap.size ≤ g)) := by
  obtain ⟨iF, hiF, z0, z1, z2⟩ := info_parts info_dop
  have hone : ∀ u ∈ o.row, u.oneCell' = true := fun u hu => rowO_ones [o] u (by simpa [rowsO] using hu)
  have hlen : (os ++ [o]).length = os.length + 1 := by simp
  by_cases he : os = []
  · have hc := hz he
    subst he
    subst hc
    have hv : Value.slice adO ([] : List Dop).length 0 = .slice none 0 0 ∨ ∃ g, Value.slice adO ([] : List Dop).length 0 = .slice (some ⟨g, 0, none⟩) 0 0 ∧ W.heap[g]? = some (.cells #[] 37 (0, 0)) ∧ base ≤ g := by
      rcases hown.2 with ⟨h, -⟩ | ⟨g, cap, cur, e, hbg, hg, h1, -, h3, -⟩
      · exact .inl h
      · injection e with e1 e2 e3
        subst e3
        have : cur = #[] := Array.eq_empty_of_size_eq_zero (by omega)
        subst this
        exact .inr ⟨g, by rw [e1]; rfl, hg, hbg⟩
    obtain ⟨v', w', hr, hB, h, hO⟩ := run_append_new W 31 ty 37 iF (.agg #[.int .i64 0, .string ⟨#[]⟩, .string ⟨#[]⟩, .string ⟨#[]⟩]) 4 56 Try.underlying31 hiF z0 z1 z2 rfl (by decide) base hb _ hv (some ⟨x, 0, none⟩) 1 1 o.row rfl (fun h => by cases h) (fun A hA => by injection hA with hA; subst hA; exact hx) hone (by unfold maxLen; omega) (by omega)
    rcases h with ⟨h0, -⟩ | ⟨-, h⟩
    · omega
    · rcases h.2 with ⟨-, h0⟩ | ⟨g, cap, cur, rfl, hbg, -⟩
      · omega
      · exact ⟨_, cap, w', hr, by simpa [rowsO] using hO, .inl ⟨hB, g, rfl, hbg⟩⟩
  · obtain ⟨v', w', hr, h2, h3, h4, h5⟩ := run_append_own_at (P := Try.prog) W base 31 ty 37 iF (.agg #[.int .i64 0, .string ⟨#[]⟩, .string ⟨#[]⟩, .string ⟨#[]⟩]) 4 56 Try.underlying31 hiF z0 z1 z2 rfl (by decide) _ _ _ hown ⟨x, 0, none⟩ 1 1 o.row rfl hx hone (by unfold maxLen; omega) (by omega) hb
    rw [← rowsO_snoc] at h2
    obtain ⟨ad', cap', rfl, -, hf⟩ := own_ops h2 (by simp)
    refine ⟨ad', cap', w', hr, by rw [hlen]; rw [hlen] at h2; exact h2, ?_⟩
    obtain ⟨g, rfl, hg, -⟩ := hf (by simp)
    refine .inr ⟨he, h3, ?_⟩
    rcases h5 with h5 | h5
    · obtain ⟨aO, cO, e1, e2, e3⟩ := own_ops hown rfl
      injection e1 with e1 _ _
      subst e1
      obtain ⟨g', e4, -⟩ := e3 he
      subst e4
      simp only [Value.ownBlock, Option.some.injEq] at h5
      left; rw [h5]
    · right
      exact ⟨g, rfl, by simp only [Value.ownBlock, Option.some.injEq] at h5; omega⟩
end Go.Proofs.Ytbfimfmfdllejaa
