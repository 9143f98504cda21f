/- Contract of the program's Pruned. -/
import Derived.Test.YtmghabcaakgjiaaGreatJ20
import Derived.Test.YtmghabcaakgjiaaGreatJ13
namespace Go.Proofs.YtmghabcaakgjiaaGreat
set_option maxRecDepth 100000
set_option linter.unusedVariables false
open Go.ChangeShapes Go.WideShapes Go.ChangeAt Go.RowKit Go.Maps
open Pl

/-- the schema without a relation, where it may be pruned -/
def prunD (ts : List Ty) (typ rel : ByteArray) : Option (List Ty) := if schemaD ts && !(relOr ts typ rel).isEmpty && !ovS (askI ts typ rel) ts && schemaD (cutP typ rel ts) then some (cutP typ rel ts) else none
/-- what both sides answer -/
def AnsT (w0 : World) (D : Option (List Ty)) (e : Ending) (w' : World) : Prop := ∃ (v : Value) (qs : List TR), e = .returned (.tuple #[v, .bool D.isSome]) ∧ tys qs = D.getD [] ∧ TypM w' w0.heap.size v qs ∧ Below w0.heap.size w0 w'
theorem ansT_none {w0 w' : World} {D : Option (List Ty)} (h : D = none) (hb : Below w0.heap.size w0 w') : AnsT w0 D (.returned (.tuple #[.slice none 0 0, .bool false])) w' := ⟨.slice none 0 0, [], by rw [h]; rfl, by rw [h]; rfl, lotM_nil _ _, hb⟩
/-- while the table and the key are laid, in whatever order -/
structure PI (w2 : World) (SLV : Value) (typ rel : ByteArray) (M : ByteArray × ByteArray → Option Value) (l : Nat → Bool) (f : Nat → Value) (w : World) : Prop where
  v0 : l 0 = true → f 0 = SLV
  v2 : l 2 = true → f 2 = .string typ
  v3 : l 3 = true → f 3 = .string rel
  v4 : l 4 = true → f 4 = .agg #[.string typ, .string rel]
  bel : Below w2.heap.size w2 w
  c1 : l 1 = true → ∃ b, f 1 = .map (some b) ∧ w2.heap.size ≤ b ∧ MapV encK Tryz.prog 73 w b 36 M
  a5 : l 5 = true → ∃ g, f 5 = .pointer (some ⟨g, 0, none⟩) ∧ w2.heap.size ≤ g ∧ w.heap[g]? = some (.cells #[if l 7 = true then f 1 else .map none] 56 (0, 0))
  a6 : l 6 = true → ∃ g, f 6 = .pointer (some ⟨g, 0, none⟩) ∧ w2.heap.size ≤ g ∧ w.heap[g]? = some (.cells #[.string ⟨#[]⟩, .string ⟨#[]⟩] 73 (0, 0))
  o7 : l 7 = true → l 1 = true ∧ l 5 = true
theorem lt_of_some {w : World} {g : Nat} {o : Obj} (h : w.heap[g]? = some o) : g < w.heap.size := (Array.getElem?_eq_some_iff.1 h).1
theorem PI.later {w2 w w' : World} {SLV : Value} {typ rel : ByteArray} {M : ByteArray × ByteArray → Option Value} {l : Nat → Bool} {f : Nat → Value} (h : PI w2 SLV typ rel M l f w) (hb : Below w.heap.size w w') : PI w2 SLV typ rel M l f w' where
  v0 := h.v0
  v2 := h.v2
  v3 := h.v3
  v4 := h.v4
  bel := h.bel.trans (hb.mono h.bel.size)
  c1 hl := by obtain ⟨b, e, hb2, hm⟩ := h.c1 hl; exact ⟨b, e, hb2, hm.below hb⟩
  a5 hl := by obtain ⟨g, e, h1, h2⟩ := h.a5 hl; exact ⟨g, e, h1, (hb.block g (lt_of_some h2)).trans h2⟩
  a6 hl := by obtain ⟨g, e, h1, h2⟩ := h.a6 hl; exact ⟨g, e, h1, (hb.block g (lt_of_some h2)).trans h2⟩
  o7 := h.o7
theorem PI.add {w2 w : World} {SLV : Value} {typ rel : ByteArray} {M : ByteArray × ByteArray → Option Value} {l : Nat → Bool} {f : Nat → Value} (h : PI w2 SLV typ rel M l f w) (i : Nat) (v : Value) (hl : l i = false) (h7 : i ≠ 7)
    (n0 : i = 0 → v = SLV) (n2 : i = 2 → v = .string typ) (n3 : i = 3 → v = .string rel) (n4 : i = 4 → v = .agg #[.string typ, .string rel]) (n1 : i = 1 → ∃ b, v = .map (some b) ∧ w2.heap.size ≤ b ∧ MapV encK Tryz.prog 73 w b 36 M)
    (n5 : i = 5 → ∃ g, v = .pointer (some ⟨g, 0, none⟩) ∧ w2.heap.size ≤ g ∧ w.heap[g]? = some (.cells #[.map none] 56 (0, 0))) (n6 : i = 6 → ∃ g, v = .pointer (some ⟨g, 0, none⟩) ∧ w2.heap.size ≤ g ∧ w.heap[g]? = some (.cells #[.string ⟨#[]⟩, .string ⟨#[]⟩] 73 (0, 0))) :
    PI w2 SLV typ rel M (fun k => if k = i then true else l k) (upd f i v) w := by
  have key : ∀ {k : Nat} {P : Value → Prop}, (l k = true → P (f k)) → (i = k → P v) → (if k = i then true else l k) = true → P (upd f i v k) := fun {k P} h1 h2 h3 => by
    by_cases e : k = i
    · subst e; simp only [upd, if_true]; exact h2 rfl
    · rw [if_neg e] at h3; simp only [upd, if_neg e]; exact h1 h3
  have e7 : (if (7 : Nat) = i then true else l 7) = l 7 := if_neg (Ne.symm h7)
  refine ⟨key (P := fun x => x = SLV) h.v0 n0, key (P := fun x => x = .string typ) h.v2 n2, key (P := fun x => x = .string rel) h.v3 n3, key (P := fun x => x = .agg #[.string typ, .string rel]) h.v4 n4, h.bel, key (P := fun x => ∃ b, x = .map (some b) ∧ w2.heap.size ≤ b ∧ MapV encK Tryz.prog 73 w b 36 M) h.c1 n1, fun h5 => ?_, key (P := fun x => ∃ g, x = .pointer (some ⟨g, 0, none⟩) ∧ w2.heap.size ≤ g ∧ w.heap[g]? = some (.cells #[.string ⟨#[]⟩, .string ⟨#[]⟩] 73 (0, 0))) h.a6 n6, fun h8 => ?_⟩
  · show ∃ g : Nat, upd f i v 5 = .pointer (some ⟨g, 0, none⟩) ∧ w2.heap.size ≤ g ∧ w.heap[g]? = some (Obj.cells #[if (if (7 : Nat) = i then true else l 7) = true then upd f i v 1 else .map none] 56 (0, 0))
    rw [e7]
    by_cases e : (5 : Nat) = i
    · have hf : l 7 = false := by
        cases h9 : l 7 with
        | false => rfl
        | true => have := (h.o7 h9).2; rw [← e] at hl; rw [hl] at this; cases this
      rw [hf]
      subst e
      simpa [upd] using n5 rfl
    · rw [if_neg e] at h5
      obtain ⟨g, e1, e2, e3⟩ := h.a5 h5
      refine ⟨g, by simp only [upd, if_neg e]; exact e1, e2, ?_⟩
      cases h9 : l 7 with
      | false => rw [h9] at e3; simpa using e3
      | true =>
        have h1 : (1 : Nat) ≠ i := fun e4 => by have := (h.o7 h9).1; rw [← e4] at hl; rw [hl] at this; cases this
        rw [h9] at e3
        simp only [upd, if_neg h1]
        exact e3
  · have h8 : (if (7 : Nat) = i then true else l 7) = true := h8
    rw [e7] at h8
    have := h.o7 h8
    exact ⟨by show (if (1 : Nat) = i then true else l 1) = true; rw [this.1]; split <;> rfl, by show (if (5 : Nat) = i then true else l 5) = true; rw [this.2]; split <;> rfl⟩
theorem heap_set1 {w : World} {g : Nat} {T : TypeId} {x y : Value} (h : w.heap[g]? = some (.cells #[x] T (0, 0))) : (w.setCell ⟨g, 0, none⟩ y).heap[g]? = some (.cells #[y] T (0, 0)) := by
  unfold World.setCell
  simp [Array.getElem?_modify, h]
theorem heap_set2 {w : World} {g : Nat} {T : TypeId} {x y x' y' : Value} (h : w.heap[g]? = some (.cells #[x, y] T (0, 0))) : ((w.setCell ⟨g, 0, none⟩ x').setCell ⟨g, 1, none⟩ y').heap[g]? = some (.cells #[x', y'] T (0, 0)) := by
  unfold World.setCell
  simp [Array.getElem?_modify, h]
theorem mapV_cells {w : World} {b n : Nat} {M : ByteArray × ByteArray → Option Value} {cs : Array Value} {T : TypeId} (h : MapV encK Tryz.prog 73 w b n M) (hc : w.heap[b]? = some (.cells cs T (0, 0))) : False := by
  obtain ⟨D, ⟨entries, ix, hb, -⟩, -⟩ := h
  rw [hb] at hc
  cases hc
theorem PI.seven {w2 w : World} {SLV : Value} {typ rel : ByteArray} {M : ByteArray × ByteArray → Option Value} {l : Nat → Bool} {f : Nat → Value} (h : PI w2 SLV typ rel M l f w) (hl : l 7 = false) (h1 : l 1 = true) (h5 : l 5 = true) {g : Nat} (hg : f 5 = .pointer (some ⟨g, 0, none⟩)) (v : Value) : PI w2 SLV typ rel M (fun k => if k = 7 then true else l k) (upd f 7 v) (w.setCell ⟨g, 0, none⟩ (f 1)) := by
  obtain ⟨g', e1, e2, e3⟩ := h.a5 h5
  rw [hg] at e1; injection e1 with e1; injection e1 with e1; injection e1 with e1
  subst e1
  have ho : ∀ k, k ≠ g → (w.setCell ⟨g, 0, none⟩ (f 1)).heap[k]? = w.heap[k]? := fun k hk => Below.heap_setCell w _ _ k hk
  refine ⟨fun a => h.v0 a, fun a => h.v2 a, fun a => h.v3 a, fun a => h.v4 a, h.bel.setCell e2 _, fun a => ?_, fun a => ⟨g, hg, e2, ?_⟩, fun a => ?_, fun _ => ⟨h1, h5⟩⟩
  · obtain ⟨b, q1, q2, q3⟩ := h.c1 a
    exact ⟨b, q1, q2, q3.setCell (fun e => mapV_cells (b := b) q3 (by rw [e]; exact e3)) _⟩
  · show (w.setCell ⟨g, 0, none⟩ (f 1)).heap[g]? = some (.cells #[if (if (7 : Nat) = 7 then true else l 7) = true then upd f 7 v 1 else .map none] _ _)
    rw [if_pos rfl, if_pos rfl]
    exact heap_set1 e3
  · obtain ⟨g6, q1, q2, q3⟩ := h.a6 a
    exact ⟨g6, q1, q2, (ho g6 fun e => by subst e; rw [e3] at q3; injection q3 with q3; injection q3 with _ q4; exact absurd q4 (by decide)).trans q3⟩

theorem TypM.mono {w : World} {base base' : Nat} {v : Value} {rs : List TR} (h : TypM w base v rs) (hb : base' ≤ base) : TypM w base' v rs := LotM.mono h hb fun q hq => RelM.mono hq hb
theorem goals_few {rs : List TR} (hl : ∀ r ∈ rs, r.light) (tn over nm : ByteArray) : (goalsI (tys rs) tn over nm).length ≤ 1048576 := by
  unfold goalsI
  split
  · unfold goalsP
    refine Nat.le_trans (gl_len _ _ _) ?_
    unfold relOr
    cases e : relP (tys rs) tn over with
    | none => exact Nat.zero_le _
    | some es =>
      obtain ⟨t, ht, q, hq, -, -, h⟩ := relP_row e
      show (allowP es).length ≤ _
      rw [← h]; exact allowP_len _ ((hl t ht).2 q hq).2
  · exact Nat.zero_le _
def ifR (b : Bool) (v : Value) : Value := if b = true then .tuple #[v, .bool true] else .tuple #[.slice none 0 0, .bool false]
theorem ifRight_any (ad : Option Addr) (cap : Nat) (rs : List TR) (w : World) (hlen : rs.length ≤ 1048576) (hs : SlT w ad rs) (hl : ∀ r ∈ rs, r.light) (hf : ∀ r ∈ rs, r.fits) (hcp : ∀ r ∈ rs, r.caps) :
    Calls Tryz.prog 43 #[.slice ad rs.length cap] w fun e w' => e = .returned (ifR (schemaD (tys rs)) (.slice ad rs.length cap)) ∧ Below w.heap.size w w' := by
  have HS := toHX hs
  have HL := toHX hl
  have HF := toHX hf
  have HC := toHX hcp
  clear hs hl hf hcp
  go_enter Tryz.func43, Tryz.ntmps43
  go_wp2_with fail
  refine (implSchemaOk_any ad cap rs _ hlen HS.out HL.out HF.out HC.out).mono ?_
  rintro e w2 ⟨rfl, hb2⟩
  have HB2 := toHX hb2
  clear hb2
  cases hd : schemaD (tys rs) with
  | false =>
    go_wp2
    refine bodyPost_ret (v := .tuple #[.slice none 0 0, .bool false]) ?_ rfl ⟨by first | rfl | (rw [hd]; rfl) | simp [ifR, hd], HB2.out⟩
    simp [results, Tryz.results43, go_sem]
  | true =>
    go_wp2
    refine bodyPost_ret (v := .tuple #[.slice ad rs.length cap, .bool true]) ?_ rfl ⟨by first | rfl | (rw [hd]; rfl) | simp [ifR, hd], HB2.out⟩
    simp [results, Tryz.results43, go_sem]
set_option maxHeartbeats 8000000 in
theorem implPruned_any (ad : Option Addr) (cap : Nat) (rs : List TR) (typ rel : ByteArray) (w : World) (hlen : rs.length ≤ 1048576) (hs : SlT w ad rs) (hl : ∀ r ∈ rs, r.light) (hf : ∀ r ∈ rs, r.fits) (hcp : ∀ r ∈ rs, r.caps) (ht : typ.size ≤ maxLen) (hr : rel.size ≤ maxLen) :
    Calls Tryz.prog 16 #[.slice ad rs.length cap, .string typ, .string rel] w (AnsT w (prunD (tys rs) typ rel)) := by
  have HS := toHX hs
  have HL := toHX hl
  have HFT := toHX hf
  have HCP := toHX hcp
  obtain ⟨W1, hW1⟩ : ∃ W1, W1 = (w.alloc (.cells #[.string typ] 9)).alloc (.cells #[.string rel] 9) := ⟨_, rfl⟩
  have HB1 : Hid (Below w.heap.size w W1) := by show Below _ _ _; rw [hW1]; exact ((Below.refl _ _).alloc (Nat.le_refl _) _).alloc (by simp) _
  have HC1 : Hid (W1.cell? ⟨w.heap.size, 0, none⟩ = some (.string typ) ∧ W1.cell? ⟨w.heap.size + 1, 0, none⟩ = some (.string rel) ∧ w.heap.size + 1 < W1.heap.size) := by
    show _ ∧ _
    rw [hW1]
    have hc := World.cell?_alloc_mark (w.alloc (.cells #[.string typ] 9)) #[.string rel] 9 (0, 0) 0
    rw [show (w.alloc (.cells #[.string typ] 9)).heap.size = w.heap.size + 1 by simp] at hc
    exact ⟨by simp, by rw [hc]; rfl, by simp⟩
  clear hs hl hf hcp
  go_enter Tryz.func16, Tryz.ntmps16
  go_wp2_with fail
  rw [← hW1]
  clear hW1
  refine (implSchemaOk_any ad cap rs _ hlen (HS.out.below HB1.out) HL.out HFT.out HCP.out).mono ?_
  rintro e w2 ⟨rfl, hb2⟩
  have HB2 : Hid (Below w.heap.size w w2) := HB1.out.trans (hb2.mono HB1.out.size)
  have HC2 : Hid (w2.cell? ⟨w.heap.size, 0, none⟩ = some (.string typ) ∧ w2.cell? ⟨w.heap.size + 1, 0, none⟩ = some (.string rel) ∧ w.heap.size + 1 < w2.heap.size) := ⟨kept hb2 (by have := HC1.out.2.2; omega) HC1.out.1, kept hb2 HC1.out.2.2 HC1.out.2.1, Nat.lt_of_lt_of_le HC1.out.2.2 hb2.size⟩
  clear hb2 HC1
  cases hd : schemaD (tys rs) with
  | false =>
    have HN : Hid (prunD (tys rs) typ rel = none) := by show _ = _; unfold prunD; rw [hd]; rfl
    clear hd
    go_wp2
    refine bodyPost_ret (v := .tuple #[.slice none 0 0, .bool false]) ?_ rfl (ansT_none HN.out HB2.out)
    simp [results, Tryz.results16, go_sem]
  | true =>
    have HD := toHX hd
    have hSP := schemaD_iff.1 hd
    obtain ⟨h6, hr6, hex⟩ := shape_facts hSP.1
    have HR6 := toHX hr6
    have HEX := toHX hex
    have HTAB : Hid (Tab rs (tabM rs)) := tab_of hSP.1
    clear hd hSP hr6 hex
    go_wp2_with fail
    have HB2W := toHX HB2.out.size
    refine wp_region_frame2 8 (fun _ => undef) (fun fq => { tmps := List.toArray (Value.slice ad rs.length cap :: Value.string typ :: Value.string rel :: undef :: Value.pointer (some { block := w.heap.size, off := 0 }) :: Value.pointer (some { block := w.heap.size + 1, off := 0 }) :: Value.slice none 0 0 :: Value.bool false :: (fq 5) :: (fq 6) :: undef :: Value.slice ad rs.length cap :: Value.bool true :: Value.bool false :: (fq 0) :: (fq 1) :: (fq 2) :: (fq 3) :: (fq 4) :: undef :: undef :: undef :: undef :: undef :: undef :: undef :: undef :: undef :: undef :: undef :: undef :: undef :: undef :: undef :: undef :: undef :: undef :: []), defers := [] }) (PI w2 (.slice ad rs.length cap) typ rel (tabM rs)) (by kernel_rfl) rfl (by kernel_rfl) (fun o ho l fq w' hI hp => ?clR) rfl ⟨fun h => (by cases h), fun h => (by cases h), fun h => (by cases h), fun h => (by cases h), (Below.refl _ _).drew, fun h => (by cases h), fun h => (by cases h), fun h => (by cases h), fun h => (by cases h)⟩ ?stepR ?finR
    case clR =>
      obtain rfl := Option.some.inj ho
      intro k hk
      have hc : k = 0 ∨ k = 1 ∨ k = 2 ∨ k = 3 ∨ k = 4 ∨ k = 5 ∨ k = 6 ∨ k = 7 := by omega
      rcases hc with rfl | rfl | rfl | rfl | rfl | rfl | rfl | rfl
      · exact hp { on := 0, ground := .phase } (by simp) rfl
      · exact hp { on := 1, ground := .phase } (by simp) rfl
      · exact hp { on := 2, ground := .phase } (by simp) rfl
      · exact hp { on := 3, ground := .phase } (by simp) rfl
      · exact hp { on := 4, ground := .phase } (by simp) rfl
      · exact hp { on := 5, ground := .phase } (by simp) rfl
      · exact hp { on := 6, ground := .phase } (by simp) rfl
      · exact hp { on := 7, ground := .phase } (by simp) rfl
    case stepR =>
      rintro i hi o ho l fq w' hli hI hpre
      have HI : Hid (PI w2 (.slice ad rs.length cap) typ rel (tabM rs) l fq w') := hI
      have HPR : Hid (∀ e ∈ o.after, Region.binds .any e = true → l e.on = true) := hpre
      clear hI hpre
      have hc : i = 0 ∨ i = 1 ∨ i = 2 ∨ i = 3 ∨ i = 4 ∨ i = 5 ∨ i = 6 ∨ i = 7 := by omega
      clear hi
      rcases hc with rfl | rfl | rfl | rfl | rfl | rfl | rfl | rfl
      · obtain rfl := Option.some.inj ho
        have HP0 := HI.out
        have HP := toHX (HP0.add 0 (.slice ad rs.length cap) hli (by decide) (fun _ => rfl) (fun h => absurd h (by decide)) (fun h => absurd h (by decide)) (fun h => absurd h (by decide)) (fun h => absurd h (by decide)) (fun h => absurd h (by decide)) (fun h => absurd h (by decide)))
        refine wpOp_hid rfl fun K HK => ?_
        clear ho HPR
        dsimp only
        go_simp
        exact HK.out _ _ ⟨_, by simp [upd], HP.out⟩
      · obtain rfl := Option.some.inj ho
        have e0 := HI.out.v0 (HPR.out { on := 0, ground := .data } (by simp) rfl)
        have HP0 := HI.out
        refine wpOp_hid rfl fun K HK => ?_
        clear ho HPR
        simp only [e0]
        go_simp
        refine (tableOf_any ad cap rs w' h6 (HS.out.below (HB2.out.trans (HI.out.bel.mono HB2.out.size))) HR6.out HFT.out).mono ?_
        rintro e w9 ⟨rfl, hm9, hb9⟩
        have HP0 := HI.out.later hb9
        have HP := toHX (HP0.add 1 (.map (some w'.heap.size)) hli (by decide) (fun h => absurd h (by decide)) (fun h => absurd h (by decide)) (fun h => absurd h (by decide)) (fun h => absurd h (by decide)) (fun _ => ⟨_, rfl, HI.out.bel.size, hm9⟩) (fun h => absurd h (by decide)) (fun h => absurd h (by decide)))
        clear hm9 hb9 HP0
        go_wp2_with fail
        exact HK.out _ _ ⟨_, by simp [upd, e0], HP.out⟩
      · obtain rfl := Option.some.inj ho
        have x1 : w'.cell? ⟨w.heap.size, 0, none⟩ = some (.string typ) := kept HI.out.bel (by have := HC2.out.2.2; omega) HC2.out.1
        have HP0 := HI.out
        have HP := toHX (HP0.add 2 (.string typ) hli (by decide) (fun h => absurd h (by decide)) (fun _ => rfl) (fun h => absurd h (by decide)) (fun h => absurd h (by decide)) (fun h => absurd h (by decide)) (fun h => absurd h (by decide)) (fun h => absurd h (by decide)))
        refine wpOp_hid rfl fun K HK => ?_
        clear ho HPR
        dsimp only
        go_simp
        exact HK.out _ _ ⟨_, by simp [upd], HP.out⟩
      · obtain rfl := Option.some.inj ho
        have x1 : w'.cell? ⟨w.heap.size + 1, 0, none⟩ = some (.string rel) := kept HI.out.bel HC2.out.2.2 HC2.out.2.1
        have HP0 := HI.out
        have HP := toHX (HP0.add 3 (.string rel) hli (by decide) (fun h => absurd h (by decide)) (fun h => absurd h (by decide)) (fun _ => rfl) (fun h => absurd h (by decide)) (fun h => absurd h (by decide)) (fun h => absurd h (by decide)) (fun h => absurd h (by decide)))
        refine wpOp_hid rfl fun K HK => ?_
        clear ho HPR
        dsimp only
        go_simp
        exact HK.out _ _ ⟨_, by simp [upd], HP.out⟩
      · obtain rfl := Option.some.inj ho
        have e2 := HI.out.v2 (HPR.out { on := 2, ground := .data } (by simp) rfl)
        have e3 := HI.out.v3 (HPR.out { on := 3, ground := .data } (by simp) rfl)
        have HP0 := HI.out
        have HP := toHX (HP0.add 4 (.agg #[.string typ, .string rel]) hli (by decide) (fun h => absurd h (by decide)) (fun h => absurd h (by decide)) (fun h => absurd h (by decide)) (fun _ => rfl) (fun h => absurd h (by decide)) (fun h => absurd h (by decide)) (fun h => absurd h (by decide)))
        refine wpOp_hid rfl fun K HK => ?_
        clear ho HPR
        simp only [e2, e3]
        go_simp
        exact HK.out _ _ ⟨_, by simp [upd, e2, e3], HP.out⟩
      · obtain rfl := Option.some.inj ho
        have hA : Below w'.heap.size w' (w'.alloc (.cells #[.map none] 56)) := (Below.refl _ _).alloc (Nat.le_refl _) _
        have HP0 := HI.out.later hA
        have HP := toHX (HP0.add 5 (.pointer (some ⟨w'.heap.size, 0, none⟩)) hli (by decide) (fun h => absurd h (by decide)) (fun h => absurd h (by decide)) (fun h => absurd h (by decide)) (fun h => absurd h (by decide)) (fun h => absurd h (by decide)) (fun _ => ⟨_, rfl, HI.out.bel.size, heap_alloc_new w' _⟩) (fun h => absurd h (by decide)))
        refine wpOp_hid rfl fun K HK => ?_
        clear ho HPR hA HP0
        dsimp only
        go_simp
        exact HK.out _ _ ⟨_, by simp [upd], HP.out⟩
      · obtain rfl := Option.some.inj ho
        have hA : Below w'.heap.size w' (w'.alloc (.cells #[.string ⟨#[]⟩, .string ⟨#[]⟩] 73)) := (Below.refl _ _).alloc (Nat.le_refl _) _
        have HP0 := HI.out.later hA
        have HP := toHX (HP0.add 6 (.pointer (some ⟨w'.heap.size, 0, none⟩)) hli (by decide) (fun h => absurd h (by decide)) (fun h => absurd h (by decide)) (fun h => absurd h (by decide)) (fun h => absurd h (by decide)) (fun h => absurd h (by decide)) (fun h => absurd h (by decide)) (fun _ => ⟨_, rfl, HI.out.bel.size, heap_alloc_new w' _⟩))
        refine wpOp_hid rfl fun K HK => ?_
        clear ho HPR hA HP0
        dsimp only
        go_simp
        exact HK.out _ _ ⟨_, by simp [upd], HP.out⟩
      · obtain rfl := Option.some.inj ho
        have l1 := HPR.out { on := 1, ground := .data } (by simp) rfl
        have l5 := HPR.out { on := 5, ground := .data } (by simp) rfl
        obtain ⟨b, e1, -, -⟩ := HI.out.c1 l1
        obtain ⟨g, e5, -, hc5⟩ := HI.out.a5 l5
        rw [hli] at hc5
        have HP := toHX (HI.out.seven hli l1 l5 e5 undef)
        rw [e1] at HP
        have x1 : w'.cell? ⟨g, 0, none⟩ = some (.map none) := by simp [World.cell?, hc5]
        have x2 : w'.frozen? ⟨g, 0, none⟩ = false := by simp [World.frozen?, hc5]
        refine wpOp_hid rfl fun K HK => ?_
        clear ho HPR HI hc5
        simp only [e1, e5]
        go_simp
        exact HK.out _ _ ⟨undef, by simp [upd, e1, e5], HP.out⟩
    case finR =>
      rintro o ho l fq w' hall hI
      obtain rfl := Option.some.inj ho
      obtain ⟨b, e1, hbb, hm⟩ := hI.c1 (hall 1 (by omega))
      obtain ⟨g5, e5, hg5, hc5⟩ := hI.a5 (hall 5 (by omega))
      obtain ⟨g6, e6, hg6, hc6⟩ := hI.a6 (hall 6 (by omega))
      have e4 := hI.v4 (hall 4 (by omega))
      rw [hall 7 (by omega), if_pos rfl, e1] at hc5
      have x1 : w'.cell? ⟨g6, 0, none⟩ = some (.string ⟨#[]⟩) := by simp [World.cell?, hc6]
      have x2 : w'.cell? ⟨g6, 1, none⟩ = some (.string ⟨#[]⟩) := by simp [World.cell?, hc6]
      have x3 : ∀ y, w'.frozen? ⟨g6, y, none⟩ = false := fun y => by simp [World.frozen?, hc6]
      have h56 : g5 ≠ g6 := fun e => by subst e; rw [hc5] at hc6; injection hc6 with hc6; injection hc6 with _ q4; exact absurd q4 (by decide)
      have hb6 : b ≠ g6 := fun e => mapV_cells (b := b) hm (by rw [e]; exact hc6)
      obtain ⟨W9, hW9⟩ : ∃ W9, W9 = (w'.setCell ⟨g6, 0, none⟩ (.string typ)).setCell ⟨g6, 1, none⟩ (.string rel) := ⟨_, rfl⟩
      have ho9 : ∀ k, k ≠ g6 → W9.heap[k]? = w'.heap[k]? := fun k hk => by rw [hW9, Below.heap_setCell _ _ _ k hk, Below.heap_setCell _ _ _ k hk]
      have HB9 : Hid (Below w2.heap.size w2 W9) := by show Below _ _ _; rw [hW9]; exact (hI.bel.setCell hg6 _).setCell hg6 _
      have HM9 : Hid (MapV encK Tryz.prog 73 W9 b 36 (tabM rs)) := by show MapV _ _ _ _ _ _ _; rw [hW9]; exact (hm.setCell hb6 _).setCell hb6 _
      have hc69 : W9.heap[g6]? = some (.cells #[.string typ, .string rel] 73 (0, 0)) := by rw [hW9]; exact heap_set2 hc6
      have hc59 := (ho9 g5 h56).trans hc5
      have HC9 : Hid ((W9.cell? ⟨g6, 0, none⟩ = some (.string typ) ∧ W9.cell? ⟨g6, 1, none⟩ = some (.string rel) ∧ W9.cell? ⟨g5, 0, none⟩ = some (.map (some b))) ∧ g5 < W9.heap.size ∧ g6 < W9.heap.size) := ⟨⟨by simp [World.cell?, hc69], by simp [World.cell?, hc69], by simp [World.cell?, hc59]⟩, lt_of_some hc59, lt_of_some hc69⟩
      refine wpOp_hid rfl fun K HK => ?_
      clear hc5 hc6 hc59 hc69 ho9 h56 hb6 hm hbb hg5 hg6
      simp only [e4, e6]
      go_simp
      refine HK.out _ _ ?_
      rw [← hW9]
      clear ho HK K hI hW9 e1 e4 e5 e6 x1 x2 x3 hall
      obtain ⟨y0, hy0⟩ : ∃ y, y = fq 0 := ⟨_, rfl⟩
      rw [← hy0]
      obtain ⟨y2, hy2⟩ : ∃ y, y = fq 2 := ⟨_, rfl⟩
      rw [← hy2]
      obtain ⟨y3, hy3⟩ : ∃ y, y = fq 3 := ⟨_, rfl⟩
      rw [← hy3]
      clear hy0 hy2 hy3 fq l
      have HBW9 : Hid (Below w.heap.size w W9) := HB2.out.trans (HB9.out.mono HB2.out.size)
      have HCW9 : Hid (W9.cell? ⟨w.heap.size, 0, none⟩ = some (.string typ) ∧ W9.cell? ⟨w.heap.size + 1, 0, none⟩ = some (.string rel) ∧ w.heap.size + 1 < W9.heap.size) := ⟨kept HB9.out (by have := HC2.out.2.2; omega) HC2.out.1, kept HB9.out HC2.out.2.2 HC2.out.2.1, Nat.lt_of_lt_of_le HC2.out.2.2 HB9.out.size⟩
      have z0 := HCW9.out.1
      have z1 := HCW9.out.2.1
      have z2 := HC9.out.1.1
      have z3 := HC9.out.1.2.1
      have z4 := HC9.out.1.2.2
      have HTM := HTAB.out.some_iff (typ, rel)
      go_wp2_with fail
      refine (has_any b 36 (tabM rs) typ rel _ ht hr HM9.out).mono ?_
      rintro e w9 ⟨rfl, hw9⟩
      replace hw9 := hw9.symm
      subst hw9
      cases hm : (tabM rs (typ, rel)).isSome with
      | false =>
        have HN : Hid (prunD (tys rs) typ rel = none) := by
          rw [hm] at HTM
          replace HTM : false = !(relOr (tys rs) typ rel).isEmpty := HTM
          show _ = _; unfold prunD; rw [← HTM]; simp
        clear hm HTM
        go_wp2
        refine bodyPost_ret (v := .tuple #[.slice none 0 0, .bool false]) ?_ rfl (ansT_none HN.out HBW9.out)
        simp [results, Tryz.results16, go_sem]
      | true =>
        have HNE : Hid ((!(relOr (tys rs) typ rel).isEmpty) = true) := by
          rw [hm] at HTM; exact HTM.symm
        clear hm HTM
        go_wp2_with fail
        refine (someOver_any 48 #[] #[.pointer (some ⟨g6, 0, none⟩), .pointer (some ⟨w.heap.size + 1, 0, none⟩), .pointer (some ⟨g5, 0, none⟩), .pointer (some ⟨w.heap.size, 0, none⟩)] (askI (tys rs) typ rel) ad cap rs W9 (HS.out.below HBW9.out) h6 HR6.out (fun t ht q hq => (HEX.out t ht q hq).2.1) run_asks (fun t htm q hqm x hx hk3 w1 hb1 => ?ask)).mono ?_
        case ask =>
          have hfx := ((HFT.out t htm).2.2 q hqm).2.2 x hx
          exact asks_any g6 (w.heap.size + 1) g5 w.heap.size b 36 rs ad (tabM rs) typ rel t.name q.name x w1 (HM9.out.below hb1) HTAB.out (HS.out.below (HBW9.out.trans (hb1.mono HBW9.out.size))) HL.out HFT.out (goals_few HL.out _ _ _) (HFT.out t htm).1 hfx.2.1 hfx.2.2.1 ⟨Nat.lt_of_lt_of_le HC9.out.2.2 hb1.size, Nat.lt_of_lt_of_le HCW9.out.2.2 hb1.size, Nat.lt_of_lt_of_le HC9.out.2.1 hb1.size, by have := HCW9.out.2.2; have := hb1.size; omega⟩ ⟨kept hb1 HC9.out.2.2 z2, kept hb1 HC9.out.2.2 z3, kept hb1 HCW9.out.2.2 z1, kept hb1 HC9.out.2.1 z4, kept hb1 (by have := HCW9.out.2.2; omega) z0⟩
        rintro e wA ⟨rfl, hbA⟩
        have HBA : Hid (Below w.heap.size w wA) := HBW9.out.trans (hbA.mono HBW9.out.size)
        replace z2 := kept hbA HC9.out.2.2 z2
        replace z3 := kept hbA HC9.out.2.2 z3
        clear hbA z0 z1 z4
        cases hov : ovS (askI (tys rs) typ rel) (tys rs) with
        | true =>
          have HN : Hid (prunD (tys rs) typ rel = none) := by show _ = _; unfold prunD; rw [hov]; simp
          clear hov
          go_wp2
          refine bodyPost_ret (v := .tuple #[.slice none 0 0, .bool false]) ?_ rfl (ansT_none HN.out HBA.out)
          simp [results, Tryz.results16, go_sem]
        | false =>
          have HPD : Hid (prunD (tys rs) typ rel = if schemaD (cutP typ rel (tys rs)) = true then some (cutP typ rel (tys rs)) else none) := by
            show _ = _; unfold prunD; rw [HD.out, HNE.out, hov]; simp
          clear hov
          go_wp2_with fail
          refine (without_any typ rel ad cap rs wA (HS.out.below HBA.out) h6 HR6.out).mono ?_
          rintro e wB ⟨v1, q1, rfl, hwm, hcut, hbB⟩
          have HBB : Hid (Below w.heap.size w wB) := HBA.out.trans (hbB.mono HBA.out.size)
          have HCUT := toHX hcut
          have hmem : ∀ t ∈ q1, ∃ s ∈ rs, t.name = s.name ∧ ∀ r ∈ t.rows, r ∈ s.rows := fun t ht => by
            obtain ⟨s, hs, e1, e2⟩ := hcut.mem t ht
            exact ⟨s, hs, e1, fun r hr => by rw [e2] at hr; exact (List.mem_filter.1 hr).1⟩
          have hokB : ∀ t ∈ q1, ∀ r ∈ t.rows, r.ok wB := fun t ht r hr => by
            obtain ⟨s, hs, -, e2⟩ := hmem t ht
            exact SlR.mem (SlT.mem (HS.out.below HBB.out) hs) (e2 r hr)
          obtain ⟨ad1, cap1, rfl, hs1⟩ := WoM.read hwm hokB
          have HOKB := toHX hokB
          have HS1 := toHX hs1
          have HMEM := toHX hmem
          have HSM : Hid (SmallS (fun _ e => [e]) q1) := by
            refine ⟨by rw [hcut.len]; exact h6, fun t ht => ?_, fun t ht q hq => ?_, fun t ht q hq => ?_, fun t ht q hq x hx => ?_, fun t ht q hq x hx => ?_⟩
            · obtain ⟨s, hs, -, e2⟩ := hcut.mem t ht
              rw [e2]; exact Nat.le_trans (List.length_filter_le _ _) (HR6.out s hs)
            all_goals
              obtain ⟨s, hs, -, e2⟩ := hmem t ht
              have hx0 := HEX.out s hs q (e2 q hq)
              have hl0 := ((HL.out s hs).2 q (e2 q hq)).2
            · exact hx0.2.1
            · exact kidsLow_of hx0.1
            · refine ⟨by simp, fun m hm => ?_⟩
              rw [List.mem_singleton] at hm; subst hm
              refine ⟨hl0 x hx, fun y hy => ?_⟩
              have h1 := hx0.2.2 x hx y hy
              have h2 := hx0.2.1
              omega
            · exact hl0 x hx
          clear hwm hcut hbB hmem hokB hs1 z2 z3
          go_wp2_with fail
          refine (changedSchema_any 52 #[] #[] (fun _ e => [e]) ad1 cap1 q1 wB HS1.out HSM.out run_same (fun t ht q hq x hx _ => sameLeaf_c t.name x wB ?okx)).mono ?_
          case okx =>
            have h0 := HOKB.out t ht q hq
            rcases h0 with h0 | ⟨_, _, _, _, _, h0⟩
            · rw [h0] at hx; cases hx
            · exact h0 x hx
          rintro e wC ⟨v2, q2, rfl, htm, htq, hbC⟩
          have HBC : Hid (Below w.heap.size w wC) := HBB.out.trans (hbC.mono HBB.out.size)
          obtain ⟨ad2, cap2, rfl, hs2, hc2⟩ := TypM.read htm
          have hq1 : chgS (fun _ e => [e]) (tys q1) = tys q1 := chgS_same fun t ht r hr => by
            obtain ⟨t', ht', rfl⟩ := List.mem_map.1 ht
            obtain ⟨r', hr', rfl⟩ := List.mem_map.1 hr
            exact HSM.out.low t' ht' r' hr'
          have hq12 : tys q2 = tys q1 := htq.trans hq1
          have hl1 : ∀ t ∈ q1, t.light := fun t ht => by
            obtain ⟨s, hs, -, e2⟩ := HMEM.out t ht
            exact ⟨Nat.le_trans (HSM.out.r6 t ht) (by omega), fun q hq => (HL.out s hs).2 q (e2 q hq)⟩
          have hf1 : ∀ t ∈ q1, t.fits := fun t ht => by
            obtain ⟨s, hs, e1, e2⟩ := HMEM.out t ht
            exact ⟨by rw [e1]; exact (HFT.out s hs).1, Nat.le_trans (HSM.out.r6 t ht) (by unfold maxLen; omega), fun q hq => (HFT.out s hs).2.2 q (e2 q hq)⟩
          have HTQ : Hid (tys q2 = cutP typ rel (tys rs)) := hq12.trans HCUT.out.eqT
          have HTM2 := toHX htm
          have HS2 := toHX hs2
          have HC2' := toHX hc2
          have HL2 := toHX (lightP hq12 hl1)
          have HF2 := toHX (fitsP hq12 hf1)
          have hlen2 : q2.length ≤ 1048576 := by rw [lenP hq12, HCUT.out.len]; omega
          have HWB : Hid (w.heap.size ≤ wB.heap.size) := HBB.out.size
          clear htm htq hbC hs2 hc2 hq1 hq12 hl1 hf1
          go_wp2_with fail
          refine (ifRight_any ad2 cap2 q2 wC hlen2 HS2.out HL2.out HF2.out HC2'.out).mono ?_
          rintro e wD ⟨rfl, hbD⟩
          have HBD : Hid (Below w.heap.size w wD) := HBC.out.trans (hbD.mono HBC.out.size)
          have HTD : Hid (TypM wD w.heap.size (.slice ad2 q2.length cap2) q2) := TypM.mono (LotM.below kidT HTM2.out hbD) HWB.out
          clear hbD
          cases hd2 : schemaD (tys q2) with
          | false =>
            have HN : Hid (prunD (tys rs) typ rel = none) := by show _ = _; rw [HPD.out, ← HTQ.out, hd2]; rfl
            clear hd2
            unfold ifR
            go_wp2
            refine bodyPost_ret (v := .tuple #[.slice none 0 0, .bool false]) ?_ rfl (ansT_none HN.out HBD.out)
            simp [results, Tryz.results16, go_sem]
          | true =>
            have HN : Hid (prunD (tys rs) typ rel = some (tys q2)) := by show _ = _; rw [HPD.out, ← HTQ.out, hd2]; rfl
            clear hd2
            unfold ifR
            go_wp2
            refine bodyPost_ret (v := .tuple #[.slice ad2 q2.length cap2, .bool true]) ?_ rfl ⟨.slice ad2 q2.length cap2, q2, by rw [HN.out]; rfl, by rw [HN.out]; rfl, HTD.out, HBD.out⟩
            simp [results, Tryz.results16, go_sem]
end Go.Proofs.YtmghabcaakgjiaaGreat
