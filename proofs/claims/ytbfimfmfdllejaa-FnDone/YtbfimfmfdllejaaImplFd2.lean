/- Contracts of the program's ops on a folder: what they do. -/
import Derived.Test.YtbfimfmfdllejaaImplFd1
import Derived.Test.YtbfimfmfdllejaaRegionGen
import Derived.RegionTactic
namespace Go.Proofs.Ytbfimfmfdllejaa
open Go.ChangeShapes Go.WideShapes Go.ChangeAt Go.RowKit Go.Maps

/-- the folder holds these files now; what lies ahead of it is as it was -/
def FoldTo (w : World) (b n : Nat) (fs : List Fl) (w' : World) : Prop := (∃ M, Fold w' b n M fs) ∧ Below b w w'
theorem below_map {w w' w'' : World} {b : Nat} (h : Below b w w') (hg : w'.grownBy w'' (some b)) (hb : b ≤ w'.heap.size) : Below b w w'' :=
  ⟨hg.os.trans h.os, hg.tape.trans h.tape, hg.output.trans h.output, Nat.le_trans h.size hg.size, fun k hk => (hg.block k (by
    rcases Nat.lt_or_ge k w'.heap.size with h1 | h1
    · exact h1
    · omega) (fun e => by injection e with e; omega)).trans (h.block k hk)⟩
theorem Fold.rowsKept {w w' : World} {b n : Nat} {M : ByteArray → Option Value} {fs : List Fl} (h : Fold w b n M fs) (hg : w.grownBy w' (some b)) {k : ByteArray} {v : Value} (hk : M k = some v) {s : ByteArray} (ho : OwnB w (b + 1) v s) : OwnB w' (b + 1) v s :=
  ho.kept hg (by
    cases e : v.ownBlock with
    | none => exact .inl rfl
    | some g => right; have := (h.rowlt hk e).1; intro e3; injection e3 with e3; omega)

set_option maxHeartbeats 1000000 in
theorem doRem_any (o : Dop) (b n : Nat) (M : ByteArray → Option Value) (fs : List Fl) (w : World) (hx : o.n.size ≤ maxLen) (H : Fold w b n M fs) :
    Calls Try.prog 132 #[.agg #[.string o.n], .map (some b)] w fun e w' => (∃ v, e = .returned v) ∧ FoldTo w b n (cutF' fs o.n) w' := by
  obtain ⟨W, hW⟩ : ∃ W, W = w.alloc (.cells #[.string o.n] 123) := ⟨_, rfl⟩
  have HB : Hid (Below w.heap.size w W) := by rw [hW]; exact (Below.refl _ _).alloc (Nat.le_refl _) _
  have HL := HIDk H.lt
  have H1 := HIDk (H.below HB.out)
  have HV := HIDk H1.out.map
  have HK := HIDk (strKey o.n hx)
  clear H
  go_enter Try.func132, Try.ntmps132
  go_wp2_with (at_delete; rw [← hW]; clear hW; refine wpList_deleteS _ rfl _ _ 69 9 rfl 49 strLaw encS_inj Try.underlying69 b n M rfl HV.out o.n _ rfl HK.out ?_)
  intro w2 hV2 hg2
  have HF := HIDk (H1.out.cut hV2 hg2)
  have HB2 := HIDk (below_map (HB.out.mono (Nat.le_of_lt HL.out)) hg2 (Nat.le_trans (Nat.le_of_lt HL.out) HB.out.size))
  clear hV2 hg2 H1 HV HB
  go_wp2
  go_end0
  exact ⟨⟨_, rfl⟩, ⟨_, HF.out⟩, HB2.out⟩

set_option maxHeartbeats 1000000 in
theorem doRen_any (o : Dop) (b n : Nat) (M : ByteArray → Option Value) (fs : List Fl) (w : World) (hx : o.n.size ≤ maxLen) (hy : o.t.size ≤ maxLen) (hn : n < maxLen) (hu : UpL fs) (H : Fold w b n M fs) :
    Calls Try.prog 129 #[.agg #[.string o.n, .string o.t], .map (some b)] w fun e w' => (∃ v, e = .returned v) ∧ FoldTo w b (n + 1) (insF o.t (dataF fs o.n) (cutF' fs o.n)) w' := by
  obtain ⟨W, hW⟩ : ∃ W, W = w.alloc (.cells #[.string o.n, .string o.t] 121) := ⟨_, rfl⟩
  have HB : Hid (Below w.heap.size w W) := by rw [hW]; exact (Below.refl _ _).alloc (Nat.le_refl _) _
  have HL := HIDk H.lt
  have c0 : W.cell? ⟨w.heap.size, 0, none⟩ = some (.string o.n) := by rw [hW]; simp
  have c1 : W.cell? ⟨w.heap.size, 1, none⟩ = some (.string o.t) := by rw [hW]; simp
  have HS : Hid (w.heap.size < W.heap.size) := by rw [hW]; show _ < _; simp
  have H1 := HIDk (H.below HB.out)
  have HV := HIDk H1.out.map
  have HK := HIDk (strKey o.n hx)
  have HK2 := HIDk (strKey o.t hy)
  have HR := HIDk (H1.out.row hu o.n)
  obtain ⟨v, hv⟩ : ∃ v, (M o.n).getD (.slice none 0 0) = v := ⟨_, rfl⟩
  rw [hv] at HR
  clear H
  go_enter Try.func129, Try.ntmps129
  go_wp2_with (first | (at_lookup; rw [← hW]; clear hW; refine wpList_lookV _ rfl _ _ 69 rfl 9 49 strLaw Try.underlying69 (z := .slice none 0 0) (Try.zeroValue49 _) b n M rfl HV.out o.n _ rfl HK.out ?_; rw [hv]) | (at_delete; refine wpList_deleteS _ rfl _ _ 69 9 rfl 49 strLaw encS_inj Try.underlying69 b n M rfl HV.out o.n _ rfl HK.out ?_))
  intro w2 hV2 hg2
  have HF := HIDk (H1.out.cut hV2 hg2)
  have HB2 := HIDk (below_map (HB.out.mono (Nat.le_of_lt HL.out)) hg2 (Nat.le_trans (Nat.le_of_lt HL.out) HB.out.size))
  have HR2 : Hid (OwnB w2 (b + 1) v (dataF fs o.n)) := HR.out.kept hg2 (by
    cases e : v.ownBlock with
    | none => exact .inl rfl
    | some g => right; have := (HR.out.lt g e).1; intro e3; injection e3 with e3; omega)
  have HAP : Hid (∀ k u, updM M o.n none k = some u → ∀ g, u.ownBlock = some g → v.ownBlock ≠ some g) := fun k u hk g hg => by
    by_cases e : k = o.n
    · rw [e, updM_same] at hk; cases hk
    · rw [updM_other e] at hk
      cases e2 : M o.n with
      | none => rw [e2] at hv; subst hv; intro h; cases h
      | some v0 => rw [e2] at hv; simp only [Option.getD_some] at hv; subst hv; exact H1.out.apart k o.n u v0 e hk e2 g hg
  have hne : w.heap.size ≠ b := Nat.ne_of_gt HL.out
  have d1 : w2.cell? ⟨w.heap.size, 1, none⟩ = some (.string o.t) := hg2.cell c1 (fun e => by injection e with e; exact hne e)
  have HV2 := HIDk hV2
  clear hV2 hg2 H1 HV HB c0 c1 HR hv
  go_wp2_with (at_mapUpdate; refine wpList_storeV _ rfl _ _ _ 69 rfl 9 49 strLaw encS_inj Try.underlying69 b n _ rfl HV2.out hn o.t _ rfl HK2.out v rfl ?_)
  intro w3 hV3 hg3
  have HB3 := HIDk (below_map HB2.out hg3 (Nat.le_of_lt HF.out.lt))
  have HF3 := HIDk (HF.out.put hV3 (fun k u s _ hk ho => HF.out.rowsKept hg3 hk ho) (HR2.out.kept hg3 (by
    cases e : v.ownBlock with
    | none => exact .inl rfl
    | some g => right; have := (HR2.out.lt g e).1; intro e3; injection e3 with e3; omega)) (fun k u _ hk => HAP.out k u hk))
  clear hV3 hg3 HF HV2 HR2 HAP
  go_wp2
  go_end0
  exact ⟨⟨_, rfl⟩, ⟨_, HF3.out⟩, HB3.out⟩

theorem wpOp_append_run {P : Program} {ops : Array Oper} {Q : Exit → Act → World → Prop} {k : Nat} {o : Oper} {K : Act → World → Prop} {a : Act} {w : World} (hop : ops[k]? = some o) (hgd : o.guard = none) (s x : Operand) (t u : TypeId)
    (ho : o.op = .call { callee := .builtin .append, args := #[s, x], argTypes := #[t, u] }) (v y v' : Value) (w' : World) (hs : a.eval s = v) (hx : a.eval x = y) (hr : (Builtin.append_ #[t, u] o.type #[v, y]).run P w = .ok v' w') (h : K (a.put o.dst v') w') : wpOp P ops Q k K a w := by
  refine wpOp_step hop (fun K' hK => ?_)
  have hw : Region.wanted o (yielded ops a.tmps) = true := by simp [Region.wanted, hgd]
  rw [if_pos hw]
  unfold Oper.wp execOp
  simp only [ho, resolve, invoke, builtin, Sem.run_bind, Sem.run_pure, Result.andThen_ok, List.map_toArray, List.map_cons, List.map_nil, hs, hx, hr]
  exact hK _ _ h
set_option maxHeartbeats 1000000 in
theorem doAdd_any (o : Dop) (b n : Nat) (M : ByteArray → Option Value) (fs : List Fl) (w : World) (hx : o.n.size ≤ maxLen) (hn : n < maxLen) (hu : UpL fs) (H : Fold w b n M fs) (hsz : (dataF fs o.n).size + o.d.size ≤ 140737488355328) :
    Calls Try.prog 127 #[.agg #[.string o.n, .string o.d], .map (some b)] w fun e w' => (∃ v, e = .returned v) ∧ FoldTo w b (n + 1) (insF o.n (dataF fs o.n ++ o.d) fs) w' := by
  obtain ⟨W, hW⟩ : ∃ W, W = w.alloc (.cells #[.string o.n, .string o.d] 119) := ⟨_, rfl⟩
  have hb0 : Below w.heap.size w W := by rw [hW]; exact (Below.refl _ _).alloc (Nat.le_refl _) _
  have hL := H.lt
  have HWS : Hid (W.heap.size = w.heap.size + 1) := by rw [hW]; show _ = _; simp
  have x0 : W.drew.cell? ⟨w.heap.size, 0, none⟩ = some (.string o.n) := by rw [hW]; simp
  have x1 : W.drew.cell? ⟨w.heap.size, 1, none⟩ = some (.string o.d) := by rw [hW]; simp
  have HBD := HIDk hb0.drew
  have H1 := HIDk (H.below hb0.drew)
  obtain ⟨v, hv⟩ : ∃ v, (M o.n).getD (.slice none 0 0) = v := ⟨_, rfl⟩
  have HR : Hid (OwnB W.drew (b + 1) v (dataF fs o.n)) := by rw [← hv]; exact H1.out.row hu o.n
  have hWd : W.drew.heap.size = w.heap.size + 1 := HWS.out
  obtain ⟨v9, w9, hrun, hown, hgr, hloc⟩ := HR.out.append o.d 49 hsz (by omega)
  have hnb : v.ownBlock = none ∨ v.ownBlock ≠ some b := by
    cases e : v.ownBlock with
    | none => exact .inl rfl
    | some g => right; have := (HR.out.lt g e).1; intro e3; injection e3 with e3; omega
  have hnw : some w.heap.size ≠ v.ownBlock := fun e => by
    cases e2 : M o.n with
    | none => rw [e2] at hv; subst hv; cases e
    | some v0 => rw [e2] at hv; simp only [Option.getD_some] at hv; subst hv; have := (H.rowlt e2 e.symm).2; omega
  have HV : Hid (MapV encS Try.prog 9 W.drew b n M ∧ MapV encS Try.prog 9 w9 b n M) := ⟨H1.out.map, H1.out.map.kept hgr (fun e => by rcases hnb with h | h <;> rw [← e] at h <;> simp at h)⟩
  have y0 : w9.cell? ⟨w.heap.size, 0, none⟩ = some (.string o.n) := hgr.cell x0 hnw
  have y1 : w9.cell? ⟨w.heap.size, 1, none⟩ = some (.string o.d) := hgr.cell x1 hnw
  have HK := HIDk (strKey o.n hx)
  have HRUN := HIDk hrun
  have HFIN : Hid (∀ w3, MapV encS Try.prog 9 w3 b (n + 1) (updM M o.n (some v9)) → w9.grownBy w3 (some b) → FoldTo w b (n + 1) (insF o.n (dataF fs o.n ++ o.d) fs) w3) := fun w3 hV3 hg3 => by
    have hv9 : v9.ownBlock = none ∨ v9.ownBlock ≠ some b := by
      cases e : v9.ownBlock with
      | none => exact .inl rfl
      | some g => right; have := (hown.lt g e).1; intro e3; injection e3 with e3; omega
    have hap : ∀ k u, k ≠ o.n → M k = some u → ∀ g, u.ownBlock = some g → v.ownBlock ≠ some g := fun k u hk hku g hg => by
      cases e2 : M o.n with
      | none => rw [e2] at hv; subst hv; intro h; cases h
      | some v0 => rw [e2] at hv; simp only [Option.getD_some] at hv; subst hv; exact H.apart k o.n u v0 hk hku e2 g hg
    refine ⟨⟨_, H1.out.put hV3 (fun k u s hk hku ho => ?_) (hown.kept hg3 hv9) (fun k u hk hku g hg => ?_)⟩, ?_⟩
    · refine (ho.kept hgr ?_).kept hg3 ?_
      · cases e : u.ownBlock with
        | none => exact .inl rfl
        | some g => right; intro e2; exact hap k u hk hku g e e2.symm
      · cases e : u.ownBlock with
        | none => exact .inl rfl
        | some g => right; have := (H.rowlt hku e).1; intro e3; injection e3 with e3; omega
    · rcases hloc with e | e
      · rw [e]; exact hap k u hk hku g hg
      · rw [e]; intro e2; injection e2 with e2; have := (H.rowlt hku hg).2; omega
    · refine below_map ⟨hgr.os.trans HBD.out.os, hgr.tape.trans HBD.out.tape, hgr.output.trans HBD.out.output, Nat.le_trans HBD.out.size hgr.size, fun k hk => ?_⟩ hg3 (by have := hgr.size; omega)
      rw [hgr.block k (by omega) (fun e => by have := (HR.out.lt k e.symm).1; omega)]
      exact HBD.out.block k (by omega)
  clear hown hgr hloc hnb hnw hb0 H hrun HR H1 HBD HWS hWd
  go_enter Try.func127, Try.ntmps127
  go_wp2_with fail
  rw [← hW]
  clear hW
  refine wp_region_midL 10 (fun _ => undef) (fun f => { tmps := List.toArray (Value.agg #[Value.string o.n, Value.string o.d] :: Value.map (some b) :: Value.pointer (some ⟨w.heap.size, 0, none⟩) :: undef :: f 0 :: f 1 :: f 2 :: f 3 :: f 4 :: f 5 :: f 6 :: f 7 :: f 8 :: f 9 :: []), defers := [] })
    (fun k u w' => u = ([Value.map (some b), Value.pointer (some ⟨w.heap.size, 0, none⟩), Value.string o.n, Value.map (some b), Value.pointer (some ⟨w.heap.size, 0, none⟩), Value.string o.n, v, Value.pointer (some ⟨w.heap.size, 1, none⟩), Value.string o.d, v9]).getD k undef ∧ (k = 9 → w' = w9)) (fun listed w' => (listed.getD 9 false = false → w' = W.drew) ∧ (listed.getD 9 false = true → w' = w9)) (by kernel_rfl) rfl (by kernel_rfl) (by kernel_rfl) rfl ⟨fun _ => rfl, fun h => by rw [Array.getD_eq_getD_getElem?, Array.getElem?_replicate] at h; split at h <;> cases h⟩ ?_ ?_
  · rintro i hi op ho listed f w' hs hl hG hpre
    have hsame : i ≠ 9 → ((listed.setIfInBounds i true).getD 9 false = false → w' = W.drew) ∧ ((listed.setIfInBounds i true).getD 9 false = true → w' = w9) := fun hi9 => by
      rw [getF_set' _ _ _ (by omega), if_neg (Ne.symm hi9)]; exact hG
    have hthis : i = 9 → w' = W.drew := fun e => hG.1 (by rw [← getTF (by omega), ← e]; exact hl)
    have hafter : (listed.setIfInBounds 9 true).getD 9 false = true := by rw [getF_set' _ _ _ (by omega), if_pos rfl]
    have z0 : w'.cell? ⟨w.heap.size, 0, none⟩ = some (.string o.n) := by
      cases e : listed.getD 9 false with
      | false => rw [hG.1 e]; exact x0
      | true => rw [hG.2 e]; exact y0
    have z1 : w'.cell? ⟨w.heap.size, 1, none⟩ = some (.string o.d) := by
      cases e : listed.getD 9 false with
      | false => rw [hG.1 e]; exact x1
      | true => rw [hG.2 e]; exact y1
    have ZV : Hid (MapV encS Try.prog 9 w' b n M) := by
      cases e : listed.getD 9 false with
      | false => rw [hG.1 e]; exact HV.out.1
      | true => rw [hG.2 e]; exact HV.out.2
    have HS := HIDk hsame
    have HT := HIDk hthis
    have HA := HIDk hafter
    have HM : Hid (∀ e ∈ op.after, Region.binds .any e = true → _) := hpre
    clear hG hpre hsame hthis hafter x0 x1 y0 y1 hs hl
    have hc : i = 0 ∨ i = 1 ∨ i = 2 ∨ i = 3 ∨ i = 4 ∨ i = 5 ∨ i = 6 ∨ i = 7 ∨ i = 8 ∨ i = 9 := by omega
    clear hi
    rcases hc with rfl | rfl | rfl | rfl | rfl | rfl | rfl | rfl | rfl | rfl
    · obtain rfl := Option.some.inj ho
      clear ho HM
      refine wpOp_step rfl (fun K hK => ?_)
      have HQ : Hid (∀ a w, _ → K a w) := hK
      clear hK
      dsimp only
      go_simp
      exact HQ.out _ _ ⟨.map (some b), by simp [upd], HS.out (by decide), ⟨rfl, fun h => absurd h (by decide)⟩, fun k u hu => hu⟩
    · obtain rfl := Option.some.inj ho
      clear ho HM
      refine wpOp_step rfl (fun K hK => ?_)
      have HQ : Hid (∀ a w, _ → K a w) := hK
      clear hK
      dsimp only
      go_simp
      exact HQ.out _ _ ⟨.pointer (some ⟨w.heap.size, 0, none⟩), by simp [upd], HS.out (by decide), ⟨rfl, fun h => absurd h (by decide)⟩, fun k u hu => hu⟩
    · obtain rfl := Option.some.inj ho
      have e1 : f 1 = .pointer (some ⟨w.heap.size, 0, none⟩) := (HM.out { on := 1, ground := .data } (by simp) rfl).1
      clear ho HM
      refine wpOp_step rfl (fun K hK => ?_)
      have HQ : Hid (∀ a w, _ → K a w) := hK
      clear hK
      simp only [e1]
      go_simp
      exact HQ.out _ _ ⟨.string o.n, by simp [upd, e1], HS.out (by decide), ⟨rfl, fun h => absurd h (by decide)⟩, fun k u hu => hu⟩
    · obtain rfl := Option.some.inj ho
      clear ho HM
      refine wpOp_step rfl (fun K hK => ?_)
      have HQ : Hid (∀ a w, _ → K a w) := hK
      clear hK
      dsimp only
      go_simp
      exact HQ.out _ _ ⟨.map (some b), by simp [upd], HS.out (by decide), ⟨rfl, fun h => absurd h (by decide)⟩, fun k u hu => hu⟩
    · obtain rfl := Option.some.inj ho
      clear ho HM
      refine wpOp_step rfl (fun K hK => ?_)
      have HQ : Hid (∀ a w, _ → K a w) := hK
      clear hK
      dsimp only
      go_simp
      exact HQ.out _ _ ⟨.pointer (some ⟨w.heap.size, 0, none⟩), by simp [upd], HS.out (by decide), ⟨rfl, fun h => absurd h (by decide)⟩, fun k u hu => hu⟩
    · obtain rfl := Option.some.inj ho
      have e4 : f 4 = .pointer (some ⟨w.heap.size, 0, none⟩) := (HM.out { on := 4, ground := .data } (by simp) rfl).1
      clear ho HM
      refine wpOp_step rfl (fun K hK => ?_)
      have HQ : Hid (∀ a w, _ → K a w) := hK
      clear hK
      simp only [e4]
      go_simp
      exact HQ.out _ _ ⟨.string o.n, by simp [upd, e4], HS.out (by decide), ⟨rfl, fun h => absurd h (by decide)⟩, fun k u hu => hu⟩
    · obtain rfl := Option.some.inj ho
      have e3 : f 3 = .map (some b) := (HM.out { on := 3, ground := .data } (by simp) rfl).1
      have e5 : f 5 = .string o.n := (HM.out { on := 5, ground := .data } (by simp) rfl).1
      clear ho HM
      refine wpOp_step rfl (fun K hK => ?_)
      have HQ : Hid (∀ a w, _ → K a w) := hK
      clear hK
      have hrun : (Instr.lookup 69 (.map (some b)) (.string o.n) false).run Try.prog w' = .ok v w' := by rw [← hv]; exact ZV.out.look strLaw Try.underlying69 (Try.zeroValue49 _) HK.out
      simp only [e3, e5]
      go_simp
      exact HQ.out _ _ ⟨v, by simp [upd, e3, e5], HS.out (by decide), ⟨rfl, fun h => absurd h (by decide)⟩, fun k u hu => hu⟩
    · obtain rfl := Option.some.inj ho
      clear ho HM
      refine wpOp_step rfl (fun K hK => ?_)
      have HQ : Hid (∀ a w, _ → K a w) := hK
      clear hK
      dsimp only
      go_simp
      exact HQ.out _ _ ⟨.pointer (some ⟨w.heap.size, 1, none⟩), by simp [upd], HS.out (by decide), ⟨rfl, fun h => absurd h (by decide)⟩, fun k u hu => hu⟩
    · obtain rfl := Option.some.inj ho
      have e7 : f 7 = .pointer (some ⟨w.heap.size, 1, none⟩) := (HM.out { on := 7, ground := .data } (by simp) rfl).1
      clear ho HM
      refine wpOp_step rfl (fun K hK => ?_)
      have HQ : Hid (∀ a w, _ → K a w) := hK
      clear hK
      simp only [e7]
      go_simp
      exact HQ.out _ _ ⟨.string o.d, by simp [upd, e7], HS.out (by decide), ⟨rfl, fun h => absurd h (by decide)⟩, fun k u hu => hu⟩
    · obtain rfl := Option.some.inj ho
      have e6 : f 6 = v := (HM.out { on := 6, ground := .data } (by simp) rfl).1
      have e8 : f 8 = .string o.d := (HM.out { on := 8, ground := .data } (by simp) rfl).1
      clear ho HM
      obtain rfl := HT.out rfl
      refine wpOp_append_run rfl rfl (.tmp 10) (.tmp 12) 49 9 rfl v (.string o.d) v9 w9 e6 e8 HRUN.out ?_
      exact ⟨v9, by simp [upd, Act.put], ⟨fun h => (by rw [HA.out] at h; cases h), fun _ => rfl⟩, ⟨rfl, fun _ => rfl⟩, fun k u hu => ⟨hu.1, fun _ => rfl⟩⟩
  · rintro op ho listed f w' hG hV
    obtain rfl := Option.some.inj ho
    have e0 : f 0 = .map (some b) := (hV 0 (by omega)).1
    have e2 : f 2 = .string o.n := (hV 2 (by omega)).1
    have e9 : f 9 = v9 := (hV 9 (by omega)).1
    have hw9 : w' = w9 := (hV 9 (by omega)).2 rfl
    subst hw9
    clear hV hG ho x0 x1 y0 y1
    obtain ⟨w3, hr3, hM3, hg3⟩ := HV.out.2.store strLaw encS_inj Try.underlying69 hn HK.out v9
    have HF3 := HIDk (HFIN.out w3 hM3 hg3)
    have HR3 : Hid ((Instr.mapUpdate 69 (.map (some b)) (.string o.n) v9).run Try.prog w' = .ok () w3) := hr3
    clear hr3 hM3 hg3 HFIN HV HRUN
    refine wpOp_step rfl (fun K hK => ?_)
    have HQ : Hid (∀ a w, _ → K a w) := hK
    clear hK
    simp only [e0, e2, e9]
    have r3 := HR3.out
    go_simp
    refine HQ.out _ _ ?_
    go_wp2
    go_end0
    exact ⟨⟨_, rfl⟩, HF3.out⟩
end Go.Proofs.Ytbfimfmfdllejaa
