/- Contract of the program's Inlined. -/
import Derived.Test.YtmghabcaakgjiaaGreatInlinedA
namespace Go.Proofs.YtmghabcaakgjiaaGreat
set_option maxRecDepth 100000
set_option linter.unusedVariables false
open Go.ChangeShapes Go.WideShapes Go.ChangeAt Go.RowKit Go.Maps
open Pl

/-- the schema with a relation's name put in full, where it may be -/
def inlD (ts : List Ty) (typ rel : ByteArray) : Option (List Ty) := if schemaD ts && !(relOr ts typ rel).isEmpty && !(relOr ts typ rel).any (isNm rel) && !(relOr ts typ rel).any isTs && schemaD (chgS (inlF typ rel (relOr ts typ rel)) ts) then some (chgS (inlF typ rel (relOr ts typ rel)) ts) else none
theorem chg_mem (f : Ex → List Ex) (es : List Ex) : ∀ k, k ≤ es.length → ∀ m ∈ (chgUp f es k).1, ∃ (e' : Ex) (g : Int → Int), (e' ∈ es ∨ ∃ e ∈ es, e' ∈ f e) ∧ m = movX g e'
  | 0, _, m, hm => by rw [chgUp_zero] at hm; cases hm
  | k + 1, hk, m, hm => by
    rw [chgUp_succ f es k (by omega)] at hm
    have ih := chg_mem f es k (by omega)
    have hmem : es[k] ∈ es := List.getElem_mem _
    unfold chgStep at hm
    split at hm
    · rcases List.mem_append.1 hm with hm | hm
      · exact ih m hm
      · obtain ⟨e', he', rfl⟩ := List.mem_map.1 hm
        exact ⟨e', _, .inr ⟨_, hmem, he'⟩, rfl⟩
    · rcases List.mem_append.1 hm with hm | hm
      · exact ih m hm
      · rw [List.mem_singleton] at hm
        exact ⟨es[k], _, .inl hmem, hm⟩
/-- what is said of every node of a schema, and of what its leaves become, holds of the nodes of the changed one -/
theorem chg_nodes {f : ByteArray → Ex → List Ex} {rs qs : List TR} (h : tys qs = chgS f (tys rs)) (P : Ex → Prop) (hmv : ∀ e g, P e → P (movX g e)) (hP : ∀ t ∈ rs, ∀ q ∈ t.rows, ∀ x ∈ q.rows, P x.e ∧ ∀ e ∈ f t.name x.e, P e) : ∀ t ∈ qs, ∃ s ∈ rs, t.name = s.name ∧ t.rows.length = s.rows.length ∧ ∀ q ∈ t.rows, ∃ q' ∈ s.rows, q.name = q'.name ∧ q.rows.length = (chgE (f s.name) (exs q'.rows)).length ∧ ∀ x ∈ q.rows, P x.e := by
  intro t ht
  have h1 : t.p ∈ tys qs := List.mem_map_of_mem ht
  rw [h] at h1
  obtain ⟨s', hs', e⟩ := List.mem_map.1 h1
  obtain ⟨s, hs, rfl⟩ := List.mem_map.1 hs'
  injection e with e1 e2
  refine ⟨s, hs, e1.symm, ?_, fun q hq => ?_⟩
  · rw [← rls_len, ← e2, List.length_map]; show (rls s.rows).length = _; rw [rls_len]
  · have h2 : q.p ∈ rls t.rows := List.mem_map_of_mem hq
    rw [← e2] at h2
    obtain ⟨q0, hq0, e3⟩ := List.mem_map.1 h2
    obtain ⟨q', hq', rfl⟩ := List.mem_map.1 hq0
    injection e3 with e4 e5
    replace e5 : chgE (f s.name) (exs q'.rows) = exs q.rows := e5
    refine ⟨q', hq', e4.symm, by rw [e5, exs_len], fun x hx => ?_⟩
    have h3 : x.e ∈ exs q.rows := List.mem_map_of_mem hx
    rw [← e5] at h3
    obtain ⟨e', g, hor, e6⟩ := chg_mem (f s.name) (exs q'.rows) _ (Nat.le_refl _) _ h3
    rw [e6]
    refine hmv _ _ ?_
    rcases hor with h4 | ⟨y, hy, h4⟩
    · obtain ⟨x', hx', rfl⟩ := List.mem_map.1 h4
      exact (hP s hs q' hq' x' hx').1
    · obtain ⟨x', hx', rfl⟩ := List.mem_map.1 hy
      exact (hP s hs q' hq' x' hx').2 _ h4
/-- while the table is laid and asked, in whatever order -/
structure PJ (w2 : World) (C : Nat → Value) (M : ByteArray × ByteArray → Option Value) (ex : Value) (l : Nat → Bool) (f : Nat → Value) (w : World) : Prop where
  val : ∀ k, k < 9 → k ≠ 1 → l k = true → f k = C k
  bel : Below w2.heap.size w2 w
  c1 : l 1 = true → ∃ b, f 1 = .map (some b) ∧ MapV encK Tryz.prog 73 w b 36 M
  a9 : l 9 = true → ∃ g, f 9 = .pointer (some ⟨g, 0, none⟩) ∧ w2.heap.size ≤ g ∧ w.heap[g]? = some (.cells #[if l 10 = true then ex else .slice none 0 0] 38 (0, 0))
  o10 : l 10 = true → l 9 = true
section
variable {w2 w w' : World} {C : Nat → Value} {M : ByteArray × ByteArray → Option Value} {ex : Value} {l : Nat → Bool} {f : Nat → Value}
theorem PJ.later (h : PJ w2 C M ex l f w) (hb : Below w.heap.size w w') : PJ w2 C M ex l f w' where
  val := h.val
  bel := h.bel.trans (hb.mono h.bel.size)
  c1 hl := by obtain ⟨b, e, hm⟩ := h.c1 hl; exact ⟨b, e, hm.below hb⟩
  a9 hl := by obtain ⟨g, e, h1, h2⟩ := h.a9 hl; exact ⟨g, e, h1, (hb.block g (lt_of_some h2)).trans h2⟩
  o10 := h.o10
theorem PJ.put (h : PJ w2 C M ex l f w) {i : Nat} (hi : i < 9) (h1 : i ≠ 1) {v : Value} (hv : v = C i) : PJ w2 C M ex (fun k => if k = i then true else l k) (upd f i v) w := by
  have e1 : (if (1 : Nat) = i then true else l 1) = l 1 := if_neg (Ne.symm h1)
  have e9 : (if (9 : Nat) = i then true else l 9) = l 9 := if_neg (by omega)
  have e10 : (if (10 : Nat) = i then true else l 10) = l 10 := if_neg (by omega)
  refine ⟨fun k hk hk1 hl => ?_, h.bel, fun hl => ?_, fun hl => ?_, fun hl => ?_⟩
  · by_cases e : k = i
    · subst e; simp [upd, hv]
    · rw [if_neg e] at hl; simp only [upd, if_neg e]; exact h.val k hk hk1 hl
  · simp only [upd, if_neg (Ne.symm h1)]; exact h.c1 (e1.symm.trans hl)
  · simp only [e10, upd]; rw [if_neg (show (9 : Nat) ≠ i by omega)]; exact h.a9 (e9.symm.trans hl)
  · exact e9.trans (h.o10 (e10.symm.trans hl))
theorem PJ.call (h : PJ w2 C M ex l f w) {b : Nat} (hm : MapV encK Tryz.prog 73 w b 36 M) : PJ w2 C M ex (fun k => if k = 1 then true else l k) (upd f 1 (.map (some b))) w := by
  refine ⟨fun k hk hk1 hl => ?_, h.bel, fun _ => ⟨b, by simp [upd], hm⟩, fun hl => ?_, fun hl => ?_⟩
  · rw [if_neg hk1] at hl; simp only [upd, if_neg hk1]; exact h.val k hk hk1 hl
  · simpa [upd] using h.a9 hl
  · exact h.o10 hl
theorem PJ.alloc (h : PJ w2 C M ex l f w) (hl9 : l 9 = false) : PJ w2 C M ex (fun k => if k = 9 then true else l k) (upd f 9 (.pointer (some ⟨w.heap.size, 0, none⟩))) (w.alloc (.cells #[.slice none 0 0] 38)) := by
  have h2 := h.later ((Below.refl _ _).alloc (Nat.le_refl _) (.cells #[.slice none 0 0] 38))
  have h10 : l 10 = false := by
    cases e : l 10 with
    | false => rfl
    | true => have := h.o10 e; rw [hl9] at this; cases this
  refine ⟨fun k hk hk1 hl => ?_, h2.bel, fun hl => ?_, fun hl => ⟨w.heap.size, by simp [upd], h.bel.size, ?_⟩, fun hl => by simp⟩
  · rw [if_neg (show k ≠ 9 by omega)] at hl; simp only [upd]; rw [if_neg (show k ≠ 9 by omega)]; exact h.val k hk hk1 hl
  · simpa [upd] using h2.c1 hl
  · have e : (if (10 : Nat) = 9 then true else l 10) = false := h10
    simp only [e]
    exact heap_alloc_new w _
theorem PJ.store (h : PJ w2 C M ex l f w) (h9 : l 9 = true) {g : Nat} (hg : f 9 = .pointer (some ⟨g, 0, none⟩)) : PJ w2 C M ex (fun k => if k = 10 then true else l k) (upd f 10 undef) (w.setCell ⟨g, 0, none⟩ ex) := by
  obtain ⟨g', e1, e2, e3⟩ := h.a9 h9
  rw [hg] at e1; injection e1 with e1; injection e1 with e1; injection e1 with e1
  subst e1
  refine ⟨fun k hk hk1 hl => ?_, h.bel.setCell e2 _, fun hl => ?_, fun hl => ⟨g, by simpa [upd] using hg, e2, ?_⟩, fun _ => h9⟩
  · rw [if_neg (show k ≠ 10 by omega)] at hl; simp only [upd]; rw [if_neg (show k ≠ 10 by omega)]; exact h.val k hk hk1 hl
  · obtain ⟨b, q1, q3⟩ := h.c1 hl
    exact ⟨b, by simpa [upd] using q1, q3.setCell (fun e => mapV_cells (b := b) q3 (by rw [e]; exact e3)) _⟩
  · have e : (if (if (10 : Nat) = 10 then true else l 10) = true then ex else Value.slice none 0 0) = ex := by simp
    rw [e]; exact heap_set1 e3
end

set_option maxHeartbeats 8000000 in
theorem implInlined_any (ad : Option Addr) (cap : Nat) (rs : List TR) (typ rel : ByteArray) (w : World) (hlen : rs.length ≤ 1048576) (hs : SlT w ad rs) (hl : ∀ r ∈ rs, r.light) (hf : ∀ r ∈ rs, r.fits) (hcp : ∀ r ∈ rs, r.caps) (ht : typ.size ≤ maxLen) (hr : rel.size ≤ maxLen) :
    Calls Tryz.prog 14 #[.slice ad rs.length cap, .string typ, .string rel] w (AnsT w (inlD (tys rs) typ rel)) := by
  obtain ⟨kl, hkl⟩ := relKeyOf (typ, rel) ht hr
  have HKL : Hid (keyOf Tryz.prog 73 (encK (typ, rel)) = some kl) := hkl
  have HS := toHX hs
  have HL := toHX hl
  have HFT := toHX hf
  have HCP := toHX hcp
  obtain ⟨W1, hW1⟩ : ∃ W1, W1 = (w.alloc (.cells #[.string typ] 9)).alloc (.cells #[.string rel] 9) := ⟨_, rfl⟩
  have HB1 : Hid (Below w.heap.size w W1) := by show Below _ _ _; rw [hW1]; exact ((Below.refl _ _).alloc (Nat.le_refl _) _).alloc (by simp) _
  have HC1 : Hid (W1.cell? ⟨w.heap.size, 0, none⟩ = some (.string typ) ∧ W1.cell? ⟨w.heap.size + 1, 0, none⟩ = some (.string rel) ∧ w.heap.size + 1 < W1.heap.size) := by
    show _ ∧ _
    rw [hW1]
    have hc := World.cell?_alloc_mark (w.alloc (.cells #[.string typ] 9)) #[.string rel] 9 (0, 0) 0
    rw [show (w.alloc (.cells #[.string typ] 9)).heap.size = w.heap.size + 1 by simp] at hc
    exact ⟨by simp, by rw [hc]; rfl, by simp⟩
  clear hs hl hf hcp hkl
  go_enter Tryz.func14, Tryz.ntmps14
  go_wp2_with fail
  rw [← hW1]
  clear hW1
  refine (implSchemaOk_any ad cap rs _ hlen (HS.out.below HB1.out) HL.out HFT.out HCP.out).mono ?_
  rintro e w2 ⟨rfl, hb2⟩
  have HB2 : Hid (Below w.heap.size w w2) := HB1.out.trans (hb2.mono HB1.out.size)
  have HC2 : Hid (w2.cell? ⟨w.heap.size, 0, none⟩ = some (.string typ) ∧ w2.cell? ⟨w.heap.size + 1, 0, none⟩ = some (.string rel) ∧ w.heap.size + 1 < w2.heap.size) := ⟨kept hb2 (by have := HC1.out.2.2; omega) HC1.out.1, kept hb2 HC1.out.2.2 HC1.out.2.1, Nat.lt_of_lt_of_le HC1.out.2.2 hb2.size⟩
  clear hb2 HC1
  cases hd : schemaD (tys rs) with
  | false =>
    have HN : Hid (inlD (tys rs) typ rel = none) := by show _ = _; unfold inlD; rw [hd]; rfl
    clear hd
    go_wp2
    refine bodyPost_ret (v := .tuple #[.slice none 0 0, .bool false]) ?_ rfl (ansT_none HN.out HB2.out)
    simp [results, Tryz.results14, go_sem]
  | true =>
    have HD := toHX hd
    have hSP := schemaD_iff.1 hd
    obtain ⟨h6, hr6, hex⟩ := shape_facts hSP.1
    have HR6 := toHX hr6
    have HEX := toHX hex
    have HTAB : Hid (Tab rs (tabM rs)) := tab_of hSP.1
    obtain ⟨rows, adE, capE, th, HM, HTH, HREL, HFR⟩ : ∃ (rows : List ER) (adE : Option Addr) (capE : Nat) (th : Bool), Hid ((tabM rs (typ, rel)).getD (.slice none 0 0) = .slice adE rows.length capE) ∧ Hid ((tabM rs (typ, rel)).isSome = th) ∧ Hid (exs rows = relOr (tys rs) typ rel) ∧ Hid (FromS rs adE rows) := by
      cases e : tabM rs (typ, rel) with
      | none => exact ⟨[], none, 0, false, rfl, rfl, by show _ = _; unfold relOr; rw [HTAB.out.no _ e]; rfl, .inl rfl⟩
      | some v =>
        obtain ⟨t, htm, q, hq, -, rfl, e1, -⟩ := HTAB.out.yes _ v e
        exact ⟨q.rows, q.ad, q.cap, true, rfl, rfl, by show _ = _; unfold relOr; rw [e1]; rfl, .inr ⟨t, htm, q, hq, rfl, rfl⟩⟩
    clear hd hSP hr6 hex
    go_wp2_with fail
    obtain ⟨CV, hCV⟩ : ∃ C : Nat → Value, C = fun n => ((Value.slice ad rs.length cap) :: (undef) :: (Value.string typ) :: (Value.string rel) :: (Value.agg #[Value.string typ, Value.string rel]) :: (Value.tuple #[Value.slice adE rows.length capE, Value.bool th]) :: (Value.tuple #[Value.slice adE rows.length capE, Value.bool th]) :: (Value.slice adE rows.length capE) :: (Value.bool th) :: []).getD n undef := ⟨_, rfl⟩
    have HCV : Hid (CV 0 = Value.slice ad rs.length cap ∧ CV 1 = undef ∧ CV 2 = Value.string typ ∧ CV 3 = Value.string rel ∧ CV 4 = Value.agg #[Value.string typ, Value.string rel] ∧ CV 5 = Value.tuple #[Value.slice adE rows.length capE, Value.bool th] ∧ CV 6 = Value.tuple #[Value.slice adE rows.length capE, Value.bool th] ∧ CV 7 = Value.slice adE rows.length capE ∧ CV 8 = Value.bool th) := by show _ ∧ _; rw [hCV]; exact ⟨rfl, rfl, rfl, rfl, rfl, rfl, rfl, rfl, rfl⟩
    clear hCV
    refine wp_region_frame2 11 (fun _ => undef) (fun fq => { tmps := List.toArray (Value.slice ad rs.length cap :: Value.string typ :: Value.string rel :: undef :: Value.pointer (some { block := w.heap.size, off := 0 }) :: Value.pointer (some { block := w.heap.size + 1, off := 0 }) :: Value.slice none 0 0 :: Value.bool false :: (fq 9) :: undef :: undef :: Value.slice ad rs.length cap :: Value.bool true :: Value.bool false :: (fq 6) :: (fq 0) :: (fq 1) :: (fq 2) :: (fq 3) :: (fq 4) :: (fq 5) :: (fq 7) :: (fq 8) :: undef :: undef :: undef :: undef :: undef :: undef :: undef :: undef :: undef :: undef :: undef :: undef :: undef :: undef :: undef :: undef :: undef :: undef :: []), defers := [] }) (PJ w2 CV (tabM rs) (Value.slice adE rows.length capE)) (by kernel_rfl) rfl (by kernel_rfl) (fun o ho l fq w' hI hp => ?clR) rfl ⟨fun _ _ _ h => (by cases h), (Below.refl _ _).drew, fun h => (by cases h), fun h => (by cases h), fun h => (by cases h)⟩ ?stepR ?finR
    case clR =>
      obtain rfl := Option.some.inj ho
      intro k hk
      have hc : k = 0 ∨ k = 1 ∨ k = 2 ∨ k = 3 ∨ k = 4 ∨ k = 5 ∨ k = 6 ∨ k = 7 ∨ k = 8 ∨ k = 9 ∨ k = 10 := by omega
      rcases hc with rfl | rfl | rfl | rfl | rfl | rfl | rfl | rfl | rfl | rfl | rfl
      · exact hp { on := 0, ground := .phase } (by simp) rfl
      · exact hp { on := 1, ground := .phase } (by simp) rfl
      · exact hp { on := 2, ground := .phase } (by simp) rfl
      · exact hp { on := 3, ground := .phase } (by simp) rfl
      · exact hp { on := 4, ground := .phase } (by simp) rfl
      · exact hp { on := 5, ground := .phase } (by simp) rfl
      · exact hp { on := 6, ground := .phase } (by simp) rfl
      · exact hp { on := 7, ground := .phase } (by simp) rfl
      · exact hp { on := 8, ground := .phase } (by simp) rfl
      · exact hp { on := 9, ground := .phase } (by simp) rfl
      · exact hp { on := 10, ground := .phase } (by simp) rfl
    case stepR =>
      rintro i hi o ho l fq w' hli hI hpre
      have HI : Hid (PJ w2 CV (tabM rs) (Value.slice adE rows.length capE) l fq w') := hI
      have HPR : Hid (∀ e ∈ o.after, Region.binds .any e = true → l e.on = true) := hpre
      clear hI hpre
      have hc : i = 0 ∨ i = 1 ∨ i = 2 ∨ i = 3 ∨ i = 4 ∨ i = 5 ∨ i = 6 ∨ i = 7 ∨ i = 8 ∨ i = 9 ∨ i = 10 := by omega
      clear hi
      rcases hc with rfl | rfl | rfl | rfl | rfl | rfl | rfl | rfl | rfl | rfl | rfl
      · obtain rfl := Option.some.inj ho
        have HP := toHX (HI.out.put (i := 0) (by omega) (by decide) HCV.out.1.symm)
        refine wpOp_hid rfl fun K HK => ?_
        clear ho HPR HI
        dsimp only
        go_simp
        exact HK.out _ _ ⟨_, by simp [upd], HP.out⟩
      · obtain rfl := Option.some.inj ho
        have e0 : fq 0 = Value.slice ad rs.length cap := (HI.out.val 0 (by omega) (by decide) (HPR.out { on := 0, ground := .data } (by simp) rfl)).trans HCV.out.1
        have HB' := toHX HI.out.bel
        refine wpOp_hid rfl fun K HK => ?_
        clear ho HPR
        simp only [e0]
        go_simp
        refine (tableOf_any ad cap rs w' h6 (HS.out.below (HB2.out.trans (HB'.out.mono HB2.out.size))) HR6.out HFT.out).mono ?_
        rintro e w9 ⟨rfl, hm9, hb9⟩
        have HP := toHX ((HI.out.later hb9).call hm9)
        clear hm9 hb9 HI
        go_wp2_with fail
        exact HK.out _ _ ⟨_, by simp [upd, e0], HP.out⟩
      · obtain rfl := Option.some.inj ho
        have x1 : w'.cell? ⟨w.heap.size, 0, none⟩ = some (.string typ) := kept HI.out.bel (by have := HC2.out.2.2; omega) HC2.out.1
        have HP := toHX (HI.out.put (i := 2) (by omega) (by decide) HCV.out.2.2.1.symm)
        refine wpOp_hid rfl fun K HK => ?_
        clear ho HPR HI
        dsimp only
        go_simp
        exact HK.out _ _ ⟨_, by simp [upd], HP.out⟩
      · obtain rfl := Option.some.inj ho
        have x1 : w'.cell? ⟨w.heap.size + 1, 0, none⟩ = some (.string rel) := kept HI.out.bel HC2.out.2.2 HC2.out.2.1
        have HP := toHX (HI.out.put (i := 3) (by omega) (by decide) HCV.out.2.2.2.1.symm)
        refine wpOp_hid rfl fun K HK => ?_
        clear ho HPR HI
        dsimp only
        go_simp
        exact HK.out _ _ ⟨_, by simp [upd], HP.out⟩
      · obtain rfl := Option.some.inj ho
        have e2 : fq 2 = Value.string typ := (HI.out.val 2 (by omega) (by decide) (HPR.out { on := 2, ground := .data } (by simp) rfl)).trans HCV.out.2.2.1
        have e3 : fq 3 = Value.string rel := (HI.out.val 3 (by omega) (by decide) (HPR.out { on := 3, ground := .data } (by simp) rfl)).trans HCV.out.2.2.2.1
        have HP := toHX (HI.out.put (i := 4) (by omega) (by decide) HCV.out.2.2.2.2.1.symm)
        refine wpOp_hid rfl fun K HK => ?_
        clear ho HPR HI
        simp only [e2, e3]
        go_simp
        exact HK.out _ _ ⟨_, by simp [upd, e2, e3], HP.out⟩
      · obtain rfl := Option.some.inj ho
        have e4 : fq 4 = Value.agg #[Value.string typ, Value.string rel] := (HI.out.val 4 (by omega) (by decide) (HPR.out { on := 4, ground := .data } (by simp) rfl)).trans HCV.out.2.2.2.2.1
        obtain ⟨b, e1, hm⟩ := HI.out.c1 (HPR.out { on := 1, ground := .data } (by simp) rfl)
        have hlook := hm.look_ok relLaw Tryz.underlying56 (zeroExprs _) HKL.out
        rw [HM.out, HTH.out] at hlook
        have hlook2 : (Instr.lookup 56 (.map (some b)) (.agg #[.string typ, .string rel]) true).run Tryz.prog w' = .ok (.tuple #[Value.slice adE rows.length capE, .bool th]) w' := hlook
        clear hlook hm
        have HP := toHX (HI.out.put (i := 5) (by omega) (by decide) HCV.out.2.2.2.2.2.1.symm)
        refine wpOp_hid rfl fun K HK => ?_
        clear ho HPR HI
        simp only [e4, e1]
        go_simp
        exact HK.out _ _ ⟨_, by simp [upd, e4, e1], HP.out⟩
      · obtain rfl := Option.some.inj ho
        have e5 : fq 5 = Value.tuple #[Value.slice adE rows.length capE, Value.bool th] := (HI.out.val 5 (by omega) (by decide) (HPR.out { on := 5, ground := .data } (by simp) rfl)).trans HCV.out.2.2.2.2.2.1
        have HP := toHX (HI.out.put (i := 6) (by omega) (by decide) HCV.out.2.2.2.2.2.2.1.symm)
        refine wpOp_hid rfl fun K HK => ?_
        clear ho HPR HI
        simp only [e5]
        go_simp
        exact HK.out _ _ ⟨_, by simp [upd, e5], HP.out⟩
      · obtain rfl := Option.some.inj ho
        have e6 : fq 6 = Value.tuple #[Value.slice adE rows.length capE, Value.bool th] := (HI.out.val 6 (by omega) (by decide) (HPR.out { on := 6, ground := .data } (by simp) rfl)).trans HCV.out.2.2.2.2.2.2.1
        have HP := toHX (HI.out.put (i := 7) (by omega) (by decide) HCV.out.2.2.2.2.2.2.2.1.symm)
        refine wpOp_hid rfl fun K HK => ?_
        clear ho HPR HI
        simp only [e6]
        go_simp
        exact HK.out _ _ ⟨_, by simp [upd, e6], HP.out⟩
      · obtain rfl := Option.some.inj ho
        have e6 : fq 6 = Value.tuple #[Value.slice adE rows.length capE, Value.bool th] := (HI.out.val 6 (by omega) (by decide) (HPR.out { on := 6, ground := .data } (by simp) rfl)).trans HCV.out.2.2.2.2.2.2.1
        have HP := toHX (HI.out.put (i := 8) (by omega) (by decide) HCV.out.2.2.2.2.2.2.2.2.symm)
        refine wpOp_hid rfl fun K HK => ?_
        clear ho HPR HI
        simp only [e6]
        go_simp
        exact HK.out _ _ ⟨_, by simp [upd, e6], HP.out⟩
      · obtain rfl := Option.some.inj ho
        have HP := toHX (HI.out.alloc hli)
        refine wpOp_hid rfl fun K HK => ?_
        clear ho HPR HI
        dsimp only
        go_simp
        exact HK.out _ _ ⟨_, by simp [upd], HP.out⟩
      · obtain rfl := Option.some.inj ho
        have e7 : fq 7 = Value.slice adE rows.length capE := (HI.out.val 7 (by omega) (by decide) (HPR.out { on := 7, ground := .data } (by simp) rfl)).trans HCV.out.2.2.2.2.2.2.2.1
        have l9 := HPR.out { on := 9, ground := .data } (by simp) rfl
        obtain ⟨g, e9, -, hc9⟩ := HI.out.a9 l9
        rw [hli] at hc9
        have HP := toHX (HI.out.store l9 e9)
        have x1 : w'.cell? ⟨g, 0, none⟩ = some (.slice none 0 0) := by simp [World.cell?, hc9]
        have x2 : w'.frozen? ⟨g, 0, none⟩ = false := by simp [World.frozen?, hc9]
        refine wpOp_hid rfl fun K HK => ?_
        clear ho HPR HI hc9
        simp only [e7, e9]
        go_simp
        exact HK.out _ _ ⟨undef, by simp [upd, e7, e9], HP.out⟩
    case finR =>
      rintro o ho l fq w' hall hI
      obtain rfl := Option.some.inj ho
      obtain ⟨g, e9, hg9, hc9⟩ := hI.a9 (hall 9 (by omega))
      rw [hall 10 (by omega), if_pos rfl] at hc9
      have e8 : fq 8 = Value.bool th := (hI.val 8 (by omega) (by decide) (hall 8 (by omega))).trans HCV.out.2.2.2.2.2.2.2.2
      have HB9 : Hid (Below w2.heap.size w2 w') := hI.bel
      have HC9 : Hid (w'.cell? ⟨g, 0, none⟩ = some (.slice adE rows.length capE) ∧ g < w'.heap.size) := ⟨by simp [World.cell?, hc9], lt_of_some hc9⟩
      refine wpOp_hid rfl fun K HK => ?_
      clear hc9 hg9
      simp only [e8]
      go_simp
      refine HK.out _ _ ?_
      clear ho HK K hI e8 e9 hall HCV
      obtain ⟨y0, hy0⟩ : ∃ y, y = fq 0 := ⟨_, rfl⟩
      rw [← hy0]
      obtain ⟨y1, hy1⟩ : ∃ y, y = fq 1 := ⟨_, rfl⟩
      rw [← hy1]
      obtain ⟨y2, hy2⟩ : ∃ y, y = fq 2 := ⟨_, rfl⟩
      rw [← hy2]
      obtain ⟨y3, hy3⟩ : ∃ y, y = fq 3 := ⟨_, rfl⟩
      rw [← hy3]
      obtain ⟨y4, hy4⟩ : ∃ y, y = fq 4 := ⟨_, rfl⟩
      rw [← hy4]
      obtain ⟨y5, hy5⟩ : ∃ y, y = fq 5 := ⟨_, rfl⟩
      rw [← hy5]
      obtain ⟨y6, hy6⟩ : ∃ y, y = fq 6 := ⟨_, rfl⟩
      rw [← hy6]
      obtain ⟨y7, hy7⟩ : ∃ y, y = fq 7 := ⟨_, rfl⟩
      rw [← hy7]
      clear hy0 hy1 hy2 hy3 hy4 hy5 hy6 hy7 fq l CV
      have HBW : Hid (Below w.heap.size w w') := HB2.out.trans (HB9.out.mono HB2.out.size)
      have HCW : Hid (w'.cell? ⟨w.heap.size, 0, none⟩ = some (.string typ) ∧ w'.cell? ⟨w.heap.size + 1, 0, none⟩ = some (.string rel) ∧ w.heap.size + 1 < w'.heap.size) := ⟨kept HB9.out (by have := HC2.out.2.2; omega) HC2.out.1, kept HB9.out HC2.out.2.2 HC2.out.2.1, Nat.lt_of_lt_of_le HC2.out.2.2 HB9.out.size⟩
      obtain ⟨W5, hW5⟩ : ∃ W5, W5 = w'.alloc (.cells #[.func (Fn.func 40) #[] #[.pointer (some ⟨w.heap.size + 1, 0, none⟩)]] 74) := ⟨_, rfl⟩
      have HA5 : Hid (Below w'.heap.size w' W5) := by show Below _ _ _; rw [hW5]; exact (Below.refl _ _).alloc (Nat.le_refl _) _
      have HB5 : Hid (Below w.heap.size w W5) := HBW.out.trans (HA5.out.mono HBW.out.size)
      have HC5 : Hid ((W5.cell? ⟨w.heap.size, 0, none⟩ = some (.string typ) ∧ W5.cell? ⟨w'.heap.size, 0, none⟩ = some (.func (Fn.func 40) #[] #[.pointer (some ⟨w.heap.size + 1, 0, none⟩)]) ∧ W5.cell? ⟨g, 0, none⟩ = some (.slice adE rows.length capE) ∧ W5.cell? ⟨w.heap.size + 1, 0, none⟩ = some (.string rel)) ∧ w.heap.size < W5.heap.size ∧ w'.heap.size < W5.heap.size ∧ g < W5.heap.size ∧ w.heap.size + 1 < W5.heap.size) := by
        have h1 := HCW.out.2.2
        have h2 := HA5.out.size
        have h3 := HC9.out.2
        refine ⟨⟨kept HA5.out (by omega) HCW.out.1, by rw [hW5]; simp, kept HA5.out HC9.out.2 HC9.out.1, kept HA5.out HCW.out.2.2 HCW.out.2.1⟩, by omega, by rw [hW5]; simp, by omega, by omega⟩
      have HSE5 : Hid (SlE W5 adE rows) := HFR.out.sl (HS.out.below HB5.out)
      have hrl : rows.length ≤ 15 := by
        rcases HFR.out with h | ⟨t, ht, q, hq, h, -⟩
        · rw [h]; simp
        · rw [h]; exact (HEX.out t ht q hq).2.1
      have HTI := HTAB.out.some_iff (typ, rel)
      have z1 := HC9.out.1
      have z2 := HC9.out.2
      cases th with
      | false =>
        have HN : Hid (inlD (tys rs) typ rel = none) := by
          rw [HTH.out] at HTI
          replace HTI : false = !(relOr (tys rs) typ rel).isEmpty := HTI
          show _ = _; unfold inlD; rw [← HTI]; simp
        clear HTI
        go_wp2
        rw [← hW5]
        refine bodyPost_ret (v := .tuple #[.slice none 0 0, .bool false]) ?_ rfl (ansT_none HN.out HB5.out)
        simp [results, Tryz.results14, go_sem]
      | true =>
        have HNE : Hid ((!(relOr (tys rs) typ rel).isEmpty) = true) := by rw [HTH.out] at HTI; exact HTI.symm
        clear HTI
        go_wp2_with fail
        rw [← hW5]
        clear hW5 z1 z2
        refine (containsE_any 40 #[] #[.pointer (some ⟨w.heap.size + 1, 0, none⟩)] (isNm rel) adE capE rows W5 (by omega) HSE5.out run_nm (fun x hx w1 hb1 => names_any (w.heap.size + 1) rel x w1 (Nat.lt_of_lt_of_le HC5.out.2.2.2.2 hb1.size) (kept hb1 HC5.out.2.2.2.2 HC5.out.1.2.2.2))).mono ?_
        rintro e wA ⟨rfl, hbA⟩
        have HAA : Hid (Below W5.heap.size W5 wA) := hbA
        have HBA : Hid (Below w.heap.size w wA) := HB5.out.trans (hbA.mono HB5.out.size)
        have z1 := kept hbA HC5.out.2.2.2.1 HC5.out.1.2.2.1
        rw [HREL.out]
        clear hbA
        cases hn : (relOr (tys rs) typ rel).any (isNm rel) with
        | true =>
          have HN : Hid (inlD (tys rs) typ rel = none) := by show _ = _; unfold inlD; rw [hn]; simp
          clear hn
          go_wp2
          refine bodyPost_ret (v := .tuple #[.slice none 0 0, .bool false]) ?_ rfl (ansT_none HN.out HBA.out)
          simp [results, Tryz.results14, go_sem]
        | false =>
          have HNN := toHX hn
          clear hn
          go_wp2_with fail
          refine (containsE_any 42 #[] #[] isTs adE capE rows wA (by omega) (HSE5.out.below HAA.out) run_ts (fun x hx w1 hb1 => isThis_any x w1)).mono ?_
          rintro e wB ⟨rfl, hbB⟩
          have HAB : Hid (Below W5.heap.size W5 wB) := HAA.out.trans (hbB.mono HAA.out.size)
          have HBB : Hid (Below w.heap.size w wB) := HBA.out.trans (hbB.mono HBA.out.size)
          rw [HREL.out]
          clear hbB z1
          cases hts : (relOr (tys rs) typ rel).any isTs with
          | true =>
            have HN : Hid (inlD (tys rs) typ rel = none) := by show _ = _; unfold inlD; rw [hts]; simp
            clear hts
            go_wp2
            refine bodyPost_ret (v := .tuple #[.slice none 0 0, .bool false]) ?_ rfl (ansT_none HN.out HBB.out)
            simp [results, Tryz.results14, go_sem]
          | false =>
            have HPD : Hid (inlD (tys rs) typ rel = if schemaD (chgS (inlF typ rel (relOr (tys rs) typ rel)) (tys rs)) = true then some (chgS (inlF typ rel (relOr (tys rs) typ rel)) (tys rs)) else none) := by
              show _ = _; unfold inlD; rw [HD.out, HNE.out, HNN.out, hts]; simp
            clear hts
            have HBOD : Hid ((relOr (tys rs) typ rel).length ≤ 15 ∧ ∀ m ∈ relOr (tys rs) typ rel, m.light ∧ m.fits ∧ ∀ x ∈ m.kids, 0 ≤ x ∧ x < 1000) := by
              show _ ∧ _
              rw [← HREL.out]
              refine ⟨by rw [exs_len]; exact hrl, fun m hm => ?_⟩
              obtain ⟨x, hx, rfl⟩ := List.mem_map.1 hm
              rcases HFR.out with h | ⟨t, ht, q, hq, h, -⟩
              · rw [h] at hx; cases hx
              · rw [h] at hx
                have h1 := HEX.out t ht q hq
                refine ⟨((HL.out t ht).2 q hq).2 x hx, ((HFT.out t ht).2.2 q hq).2.2 x hx, fun y hy => ?_⟩
                have h2 := h1.2.2 x hx y hy
                have h3 := h1.2.1
                omega
            have HLF : Hid (∀ t ∈ rs, ∀ q ∈ t.rows, ∀ x ∈ q.rows, (inlF typ rel (relOr (tys rs) typ rel) t.name x.e).length ≤ 15 ∧ ∀ m ∈ inlF typ rel (relOr (tys rs) typ rel) t.name x.e, m.light ∧ m.fits ∧ ∀ y ∈ m.kids, 0 ≤ y ∧ y < 1000) := fun t ht q hq x hx => by
              unfold inlF
              split
              · exact HBOD.out
              · refine ⟨by simp, fun m hm => ?_⟩
                rw [List.mem_singleton] at hm; subst hm
                have h1 := HEX.out t ht q hq
                refine ⟨((HL.out t ht).2 q hq).2 x hx, ((HFT.out t ht).2.2 q hq).2.2 x hx, fun y hy => ?_⟩
                have h2 := h1.2.2 x hx y hy
                have h3 := h1.2.1
                omega
            have HSM : Hid (SmallS (inlF typ rel (relOr (tys rs) typ rel)) rs) := ⟨h6, HR6.out, fun t ht q hq => (HEX.out t ht q hq).2.1, fun t ht q hq => kidsLow_of (HEX.out t ht q hq).1, fun t ht q hq x hx => ⟨(HLF.out t ht q hq x hx).1, fun m hm => ⟨((HLF.out t ht q hq x hx).2 m hm).1, ((HLF.out t ht q hq x hx).2 m hm).2.2⟩⟩, fun t ht q hq => ((HL.out t ht).2 q hq).2⟩
            go_wp2_with fail
            refine (changedSchema_any 44 #[] #[.pointer (some ⟨w.heap.size, 0, none⟩), .pointer (some ⟨w'.heap.size, 0, none⟩), .pointer (some ⟨g, 0, none⟩)] (inlF typ rel (relOr (tys rs) typ rel)) ad cap rs wB (HS.out.below HBB.out) HSM.out run_put (fun t ht q hq x hx _ => ?leaf)).mono ?_
            case leaf =>
              have hox : x.ok wB := by
                rcases SlR.mem (SlT.mem (HS.out.below HBB.out) ht) hq with h0 | ⟨_, _, _, _, _, h0⟩
                · rw [h0] at hx; cases hx
                · exact h0 x hx
              have hz := HAB.out.size
              obtain ⟨⟨c1, c2, c3, c4⟩, k1, k2, k3, k4⟩ := HC5.out
              have := inlLeaf_c w.heap.size w'.heap.size g (w.heap.size + 1) typ rel t.name x adE capE rows wB hox ⟨by omega, by omega, by omega, by omega⟩ ⟨kept HAB.out k1 c1, kept HAB.out k2 c2, kept HAB.out k3 c3, kept HAB.out k4 c4⟩ (HSE5.out.below HAB.out)
              rw [HREL.out] at this
              exact this
            rintro e wC ⟨v2, q2, rfl, htm, htq, hbC⟩
            have HBC : Hid (Below w.heap.size w wC) := HBB.out.trans (hbC.mono HBB.out.size)
            obtain ⟨ad2, cap2, rfl, hs2, hc2⟩ := TypM.read htm
            have HTQ : Hid (tys q2 = chgS (inlF typ rel (relOr (tys rs) typ rel)) (tys rs)) := htq
            have hfrom := chg_nodes htq (fun e => e.light ∧ e.fits) (fun e g h => ⟨⟨h.1.1, by simpa [movX] using h.1.2⟩, by simpa [movX, Ex.fits] using h.2⟩) (fun t ht q hq x hx => ⟨⟨((HL.out t ht).2 q hq).2 x hx, ((HFT.out t ht).2.2 q hq).2.2 x hx⟩, fun m hm => ⟨((HLF.out t ht q hq x hx).2 m hm).1, ((HLF.out t ht q hq x hx).2 m hm).2.1⟩⟩)
            have hfew : ∀ t ∈ rs, ∀ q ∈ t.rows, (chgE (inlF typ rel (relOr (tys rs) typ rel) t.name) (exs q.rows)).length ≤ 225 := fun t ht q hq => by
              have h1 := chgUp_few (inlF typ rel (relOr (tys rs) typ rel) t.name) (exs q.rows) 15 (by omega) (fun e he => by
                obtain ⟨x, hx, rfl⟩ := List.mem_map.1 he
                exact (HLF.out t ht q hq x hx).1) _ (Nat.le_refl _)
              have h2 := (HEX.out t ht q hq).2.1
              rw [exs_len] at h1
              unfold chgE
              rw [exs_len]
              omega
            have HTM2 := toHX htm
            have HS2 := toHX hs2
            have HC2' := toHX hc2
            have HL2 : Hid (∀ r ∈ q2, r.light) := fun t ht => by
              obtain ⟨s, hs, e1, e2, e3⟩ := hfrom t ht
              refine ⟨by have := HR6.out s hs; omega, fun q hq => ?_⟩
              obtain ⟨q', hq', e4, e5, e6⟩ := e3 q hq
              have := hfew s hs q' hq'
              exact ⟨by omega, fun x hx => (e6 x hx).1⟩
            have HF2 : Hid (∀ r ∈ q2, r.fits) := fun t ht => by
              obtain ⟨s, hs, e1, e2, e3⟩ := hfrom t ht
              refine ⟨by rw [e1]; exact (HFT.out s hs).1, by have := HR6.out s hs; unfold maxLen; omega, fun q hq => ?_⟩
              obtain ⟨q', hq', e4, e5, e6⟩ := e3 q hq
              have := hfew s hs q' hq'
              exact ⟨by rw [e4]; exact ((HFT.out s hs).2.2 q' hq').1, by unfold maxLen; omega, fun x hx => (e6 x hx).2⟩
            have hlen2 : q2.length ≤ 1048576 := by
              have : q2.length = rs.length := by rw [← tys_len, htq]; simp [chgS, tys_len]
              omega
            have HWB : Hid (w.heap.size ≤ wB.heap.size) := HBB.out.size
            clear htm htq hbC hs2 hc2 hfrom hfew
            go_wp2_with fail
            refine (ifRight_any ad2 cap2 q2 wC hlen2 HS2.out HL2.out HF2.out HC2'.out).mono ?_
            rintro e wD ⟨rfl, hbD⟩
            have HBD : Hid (Below w.heap.size w wD) := HBC.out.trans (hbD.mono HBC.out.size)
            have HTD : Hid (TypM wD w.heap.size (.slice ad2 q2.length cap2) q2) := TypM.mono (LotM.below kidT HTM2.out hbD) HWB.out
            clear hbD
            cases hd2 : schemaD (tys q2) with
            | false =>
              have HN : Hid (inlD (tys rs) typ rel = none) := by show _ = _; rw [HPD.out, ← HTQ.out, hd2]; rfl
              clear hd2
              unfold ifR
              go_wp2
              refine bodyPost_ret (v := .tuple #[.slice none 0 0, .bool false]) ?_ rfl (ansT_none HN.out HBD.out)
              simp [results, Tryz.results14, go_sem]
            | true =>
              have HN : Hid (inlD (tys rs) typ rel = some (tys q2)) := by show _ = _; rw [HPD.out, ← HTQ.out, hd2]; rfl
              clear hd2
              unfold ifR
              go_wp2
              refine bodyPost_ret (v := .tuple #[.slice ad2 q2.length cap2, .bool true]) ?_ rfl ⟨.slice ad2 q2.length cap2, q2, by rw [HN.out]; rfl, by rw [HN.out]; rfl, HTD.out, HBD.out⟩
              simp [results, Tryz.results14, go_sem]
end Go.Proofs.YtmghabcaakgjiaaGreat
