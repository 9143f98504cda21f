/- Contract of the program's without: a schema without a relation; the expressions are shared. -/
import Derived.Test.YtmghabcaakgjiaaGreatChgSch
namespace Go.Proofs.YtmghabcaakgjiaaGreat
set_option maxRecDepth 100000
set_option linter.unusedVariables false
open Go.ChangeShapes Go.WideShapes Go.ChangeAt Go.RowKit Go.Maps
open Pl

def keyB (a b c d : ByteArray) : Bool := a.toList == c.toList && b.toList == d.toList
/-- the relations but one -/
def cutW (typ rel : ByteArray) (t : TR) : List RR := t.rows.filter fun r => !keyB typ rel t.name r.name
def cutR (typ rel : ByteArray) (t : Ty) : Ty := ⟨t.name, t.rels.filter fun r => !keyB typ rel t.name r.name⟩
def cutP (typ rel : ByteArray) (ts : List Ty) : List Ty := ts.map (cutR typ rel)
def kW (w : World) (base : Nat) (t : TR) : Prop := w.ownsRow base 46 2 t.vs t.rows.length (t.rows.flatMap RR.cells)
def iW (t : TR) (g : Nat) : Prop := t.vs.ownBlock = some g
theorem kidW : Kid kW iW where
  heap w w' base q h hs hh := own_heap h hh
  lt w base q h g hg := h.lt g hg
abbrev WoM := LotM 44 2 TR.cells kW iW
theorem cutW_rls (typ rel : ByteArray) (t : TR) : rls (cutW typ rel t) = (rls t.rows).filter fun r => !keyB typ rel t.name r.name := by
  unfold cutW rls; rw [List.filter_map]; rfl
theorem slR_own {w : World} {base cap : Nat} {ad : Option Addr} {rows : List RR} (h : w.ownsRow base 46 2 (.slice ad rows.length cap) rows.length (rows.flatMap RR.cells)) (hk : ∀ r ∈ rows, r.ok w) : SlR w ad rows := by
  by_cases hz : rows = []
  · exact .inl hz
  rcases h.2 with ⟨-, h0⟩ | ⟨g, cap, cur, e, -⟩
  · exact absurd (List.length_eq_zero_iff.1 h0) hz
  · injection e with e1 e2 e3
    rw [e1] at h ⊢
    refine .inr ⟨g, 0, rfl, (h.lt g rfl).2, fun i hi => ?_, hk⟩
    have hl : (rows.flatMap RR.cells).length = rows.length * 2 := cells2_len (fun _ => rfl) _
    have key : ∀ j, j < 2 → w.cell? ⟨g, 0 + i * 2 + j, none⟩ = (RR.cells rows[i])[j]? := fun j hj => by
      rw [h.cellAt (0 + i * 2 + j) (by omega), ← cells2_at (fun _ => rfl) rows i hi j hj, Nat.zero_add]
    exact ⟨key 0 (by omega), key 1 (by omega)⟩
theorem WoM.read {w : World} {base : Nat} {v : Value} {rs : List TR} (h : WoM w base v rs) (hk : ∀ t ∈ rs, ∀ r ∈ t.rows, r.ok w) : ∃ ad cap, v = .slice ad rs.length cap ∧ SlT w ad rs := by
  have hr : ∀ t ∈ rs, t.ok w := fun t ht => slR_own (h.kid t ht) (hk t ht)
  rcases h.own.2 with ⟨rfl, h0⟩ | ⟨g, cap, cur, rfl, -⟩
  · exact ⟨none, 0, by rw [h0], .inl (List.length_eq_zero_iff.1 h0)⟩
  · have h3 := h.own
    refine ⟨some ⟨g, 0, none⟩, cap, rfl, .inr ⟨g, 0, rfl, (h3.lt g rfl).2, fun i hi => ?_, hr⟩⟩
    have hl : (rs.flatMap TR.cells).length = rs.length * 2 := cells2_len (fun _ => rfl) _
    have key : ∀ j, j < 2 → w.cell? ⟨g, 0 + i * 2 + j, none⟩ = (TR.cells rs[i])[j]? := fun j hj => by
      rw [h3.cellAt (0 + i * 2 + j) (by omega), ← cells2_at (fun _ => rfl) rs i hi j hj, Nat.zero_add]
    exact ⟨key 0 (by omega), key 1 (by omega)⟩
/-- each type has its name and what is left of it -/
def CutOf (typ rel : ByteArray) (rs qs : List TR) : Prop := qs.map (fun t => (t.name, t.rows)) = rs.map fun t => (t.name, cutW typ rel t)
theorem CutOf.eqT {typ rel : ByteArray} {rs qs : List TR} (h : CutOf typ rel rs qs) : tys qs = cutP typ rel (tys rs) := by
  have e1 : ∀ qs : List TR, tys qs = (qs.map fun t => (t.name, t.rows)).map fun x => (⟨x.1, rls x.2⟩ : Ty) := fun qs => by simp [tys, TR.p]
  rw [e1, h, List.map_map]
  unfold cutP tys
  rw [List.map_map]
  refine List.map_congr_left fun t ht => ?_
  simp only [Function.comp, cutW_rls, cutR, TR.p]
theorem CutOf.mem {typ rel : ByteArray} {rs qs : List TR} (h : CutOf typ rel rs qs) : ∀ t ∈ qs, ∃ s ∈ rs, t.name = s.name ∧ t.rows = cutW typ rel s := by
  intro t ht
  have h1 : (t.name, t.rows) ∈ qs.map (fun t => (t.name, t.rows)) := List.mem_map.2 ⟨t, ht, rfl⟩
  rw [h] at h1
  obtain ⟨s, hs, e⟩ := List.mem_map.1 h1
  injection e with e1 e2
  exact ⟨s, hs, e1.symm, e2.symm⟩
theorem CutOf.len {typ rel : ByteArray} {rs qs : List TR} (h : CutOf typ rel rs qs) : qs.length = rs.length := by
  have := congrArg List.length h
  simpa using this

theorem own_mono {w : World} {base base' size n : Nat} {e : TypeId} {v : Value} {xs : List Value} (h : w.ownsRow base e size v n xs) (hb : base' ≤ base) : w.ownsRow base' e size v n xs := by
  refine ⟨h.1, ?_⟩
  rcases h.2 with hl | ⟨g, cap, cur, e, h1, h2⟩
  · exact .inl hl
  · exact .inr ⟨g, cap, cur, e, Nat.le_trans hb h1, h2⟩
theorem keyB_no {a b c d : ByteArray} (h : keyB a b c d = false) : ((a.toList == c.toList) = true ∧ (b.toList == d.toList) = false) ∨ (a.toList == c.toList) = false := by
  unfold keyB at h
  cases h1 : (a.toList == c.toList) with
  | false => exact .inr rfl
  | true => rw [h1] at h; exact .inl ⟨rfl, by simpa using h⟩
set_option maxHeartbeats 16000000 in
theorem without_any (typ rel : ByteArray) (ad : Option Addr) (cap : Nat) (rs : List TR) (w : World) (hs : SlT w ad rs) (hn6 : rs.length ≤ 6) (hr6 : ∀ t ∈ rs, t.rows.length ≤ 6) :
    Calls Tryz.prog 51 #[.slice ad rs.length cap, .agg #[.string typ, .string rel]] w fun e w' => ∃ (v : Value) (qs : List TR), e = .returned v ∧ WoM w' w.heap.size v qs ∧ CutOf typ rel rs qs ∧ Below w.heap.size w w' := by
  obtain ⟨iR, hiR, zR0, zR1, zR2⟩ := info_parts (P := Tryz.prog) (e := 46) (z := .agg #[.string ⟨#[]⟩, .slice none 0 0]) (size := 2) (bytes := 40) (by kernel_rfl)
  obtain ⟨iT, hiT, zT0, zT1, zT2⟩ := info_parts (P := Tryz.prog) (e := 44) (z := .agg #[.string ⟨#[]⟩, .slice none 0 0]) (size := 2) (bytes := 40) (by kernel_rfl)
  have HIR : Hid (Tryz.prog.info? 46 = some iR ∧ iR.zero = some (.agg #[.string ⟨#[]⟩, .slice none 0 0]) ∧ iR.size = 2 ∧ iR.bytes = 40) := ⟨hiR, zR0, zR1, zR2⟩
  have HIT : Hid (Tryz.prog.info? 44 = some iT ∧ iT.zero = some (.agg #[.string ⟨#[]⟩, .slice none 0 0]) ∧ iT.size = 2 ∧ iT.bytes = 40) := ⟨hiT, zT0, zT1, zT2⟩
  have HS : Hid (SlT w ad rs) := hs
  have HR6 : Hid (∀ t ∈ rs, t.rows.length ≤ 6) := hr6
  obtain ⟨w00, hw00⟩ : ∃ x, x = w := ⟨_, rfl⟩
  obtain ⟨W1, hW1⟩ : ∃ W1, W1 = w.alloc (.cells #[.string typ, .string rel] 73) := ⟨_, rfl⟩
  have HB1 : Hid (Below w.heap.size w W1) := by show Below _ _ _; rw [hW1]; exact (Below.refl _ _).alloc (Nat.le_refl _) _
  have HK1 : Hid (W1.cell? ⟨w.heap.size, 0, none⟩ = some (.string typ) ∧ W1.cell? ⟨w.heap.size, 1, none⟩ = some (.string rel) ∧ w.heap.size < W1.heap.size) := by show _ ∧ _; rw [hW1]; exact ⟨by simp, by simp, by simp⟩
  clear hs hr6 hw00 hiR zR0 zR1 zR2 hiT zT0 zT1 zT2
  go_enter Tryz.func51, Tryz.ntmps51
  go_wp2_with fail
  rw [← hW1]
  clear hW1
  go_loopw [5, 13] (fun v i wr => ∃ (k : Nat) (qs : List TR), k ≤ rs.length ∧ i = .int .i64 k ∧ Hid (WoM wr (w.heap.size + 1) v qs) ∧ Hid (CutOf typ rel (rs.take k) qs) ∧ Hid (Below (w.heap.size + 1) W1 wr)) (fun _ i _ => rs.length - (intOf i).toNat)
  case atStart => exact ⟨0, [], Nat.zero_le _, rfl, lotM_nil _ _, by show CutOf _ _ _ _; simp [CutOf], Below.refl _ _⟩
  case round =>
    obtain ⟨k, qs, hk, rfl, HX, HQ, HBK⟩ := hrel
    have HB : Hid (Below w.heap.size w wr) := HB1.out.trans (HBK.out.mono (Nat.le_succ _))
    have hkw : w.heap.size + 1 ≤ wr.heap.size := by have := HBK.out.size; have := HK1.out.2.2; omega
    obtain ⟨wo, hwo⟩ : ∃ wo, wo = wr := ⟨_, rfl⟩
    subst hwo
    have HQL : Hid (qs.length = k) := by
      show _ = _
      rw [HQ.out.len, List.length_take]; omega
    have hql6 : qs.length ≤ 6 := by rw [HQL.out]; omega
    by_cases hlt : k < rs.length
    · rcases HS.out.below HB.out with hnil | ⟨b, off, hadr, hb, hr, hok⟩
      · rw [hnil] at hlt; simp at hlt
      obtain ⟨t0, t1⟩ := hr k hlt
      have HTM : Hid (rs[k] ∈ rs) := List.getElem_mem hlt
      have HOK : Hid (rs[k].ok wo) := hok rs[k] (List.getElem_mem hlt)
      have hr6 : rs[k].rows.length ≤ 6 := HR6.out _ (List.getElem_mem hlt)
      have hk1 : (0 : Int) ≤ (k : Int) := by omega
      have hk2 : (k : Int) < (rs.length : Int) := by omega
      obtain ⟨W2, hW2⟩ : ∃ W2, W2 = (wo.alloc (.cells #[.string rs[k].name, .slice rs[k].ad rs[k].rows.length rs[k].cap] 44)).alloc (.cells #[.string rs[k].name, .slice none 0 0] 44) := ⟨_, rfl⟩
      have HB2 : Hid (Below wo.heap.size wo W2) := by show Below _ _ _; rw [hW2]; exact ((Below.refl _ _).alloc (Nat.le_refl _) _).alloc (by simp) _
      have HP2 : Hid (W2.cell? ⟨wo.heap.size, 0, none⟩ = some (.string rs[k].name) ∧ W2.cell? ⟨wo.heap.size, 1, none⟩ = some (.slice rs[k].ad rs[k].rows.length rs[k].cap) ∧ W2.cell? ⟨wo.heap.size + 1, 0, none⟩ = some (.string rs[k].name) ∧ W2.cell? ⟨wo.heap.size + 1, 1, none⟩ = some (.slice none 0 0) ∧ W2.frozen? ⟨wo.heap.size + 1, 1, none⟩ = false ∧ W2.heap.size = wo.heap.size + 2) := by
        show _ ∧ _
        rw [hW2]
        have hz : (wo.alloc (.cells #[.string rs[k].name, .slice rs[k].ad rs[k].rows.length rs[k].cap] 44)).heap.size = wo.heap.size + 1 := by simp
        have hc := fun j => World.cell?_alloc_mark (wo.alloc (.cells #[.string rs[k].name, .slice rs[k].ad rs[k].rows.length rs[k].cap] 44)) #[.string rs[k].name, .slice none 0 0] 44 (0, 0) j
        rw [hz] at hc
        exact ⟨by simp, by simp, by rw [hc 0]; rfl, by rw [hc 1]; rfl, by simp, by simp⟩
      have p1 := HP2.out.2.1
      rw [hadr]
      clear hr hok hadr hb
      go_wp2_with fail
      rw [← hW2]
      clear hW2 t0 t1
      have hTl : wo.heap.size < W2.heap.size := by have := HP2.out.2.2.2.2.2; omega
      go_loopw [23] (fun i wr => ∃ (j : Nat) (v2 : Value) (rows : List RR), j ≤ rs[k].rows.length ∧ i = .int .i64 j ∧ Hid (wr.cell? ⟨wo.heap.size + 1, 0, none⟩ = some (.string rs[k].name) ∧ wr.cell? ⟨wo.heap.size + 1, 1, none⟩ = some v2 ∧ wr.frozen? ⟨wo.heap.size + 1, 1, none⟩ = false) ∧ Hid (wr.ownsRow (wo.heap.size + 2) 46 2 v2 rows.length (rows.flatMap RR.cells)) ∧ Hid (rows = (rs[k].rows.take j).filter fun r => !keyB typ rel rs[k].name r.name) ∧ Hid (Below (wo.heap.size + 1) W2 wr)) (fun i _ => rs[k].rows.length - (intOf i).toNat)
      case atStart => exact ⟨0, .slice none 0 0, [], Nat.zero_le _, rfl, ⟨HP2.out.2.2.1, HP2.out.2.2.2.1, HP2.out.2.2.2.2.1⟩, World.ownsRow_nil _ _ _ _, by show _ = _; simp, Below.refl _ _⟩
      case round =>
        obtain ⟨j, v2, rows, hj, rfl, HN, HR, HRQ, HB3⟩ := hrel
        obtain ⟨wi, hwi⟩ : ∃ wi, wi = wr := ⟨_, rfl⟩
        subst hwi
        have HZ2 : Hid (W2.heap.size = wo.heap.size + 2) := HP2.out.2.2.2.2.2
        have HBO : Hid (Below wo.heap.size wo wi) := HB2.out.trans (HB3.out.mono (Nat.le_succ _))
        have HRL : Hid (rows.length ≤ j) := by
          show _ ≤ _
          rw [HRQ.out]; exact Nat.le_trans (List.length_filter_le _ _) (by rw [List.length_take]; omega)
        have hrl6 : rows.length ≤ 6 := by have := HRL.out; omega
        by_cases hjt : j < rs[k].rows.length
        · rcases HOK.out.below HBO.out with hnil | ⟨b2, off2, hadr2, hb2, hr2, hok2⟩
          · rw [hnil] at hjt; simp at hjt
          obtain ⟨s0, s1⟩ := hr2 j hjt
          have HQM : Hid (rs[k].rows[j] ∈ rs[k].rows) := List.getElem_mem hjt
          have HOE : Hid (SlE wi rs[k].rows[j].ad rs[k].rows[j].rows) := hok2 _ (List.getElem_mem hjt)
          have hj1 : (0 : Int) ≤ (j : Int) := by omega
          have hj2 : (j : Int) < (rs[k].rows.length : Int) := by omega
          obtain ⟨W3, hW3⟩ : ∃ W3, W3 = wi.alloc (.cells #[.string rs[k].rows[j].name, .slice rs[k].rows[j].ad rs[k].rows[j].rows.length rs[k].rows[j].cap] 46) := ⟨_, rfl⟩
          have HA3 : Hid (Below wi.heap.size wi W3) := by show Below _ _ _; rw [hW3]; exact (Below.refl _ _).alloc (Nat.le_refl _) _
          have hTw : wo.heap.size + 2 ≤ wi.heap.size := by have := HB3.out.size; have := HZ2.out; omega
          have HRF : Hid (RFs (wo.heap.size + 1) wi.heap.size wo.heap.size v2 rs[k].name rs[k].rows[j].name (.slice rs[k].rows[j].ad rs[k].rows[j].rows.length rs[k].rows[j].cap) W3) := by
            have h1 : wo.heap.size + 1 < wi.heap.size := by omega
            have h2 : wo.heap.size < wi.heap.size := by omega
            have ht : wi.cell? ⟨wo.heap.size, 0, none⟩ = some (.string rs[k].name) := by rw [HB3.out.cell (p := ⟨wo.heap.size, 0, none⟩) (Nat.lt_succ_self _)]; exact HP2.out.1
            refine ⟨kept HA3.out h1 HN.out.1, kept HA3.out h1 HN.out.2.1, keptF HA3.out h1 HN.out.2.2, by rw [hW3]; simp, by rw [hW3]; simp, kept HA3.out h2 ht, ?_⟩
            rw [hW3]; simp; omega
          have HRM : Hid (W3.ownsRow (wo.heap.size + 2) 46 2 v2 rows.length (rows.flatMap RR.cells)) := own_heap HR.out fun g hg => HA3.out.block g (HR.out.lt g hg).2
          have x0 : wi.cell? ⟨wo.heap.size, 0, none⟩ = some (.string rs[k].name) := by rw [HB3.out.cell (p := ⟨wo.heap.size, 0, none⟩) (Nat.lt_succ_self _)]; exact HP2.out.1
          have x3 := HN.out.2.1
          have x4 := HN.out.2.2
          have y0 : wo.heap.size < wi.heap.size := by omega
          have y1 : wo.heap.size + 1 < wi.heap.size := by omega
          have y2 : w.heap.size < wi.heap.size := by omega
          have HKW : Hid (∀ o, wi.cell? ⟨w.heap.size, o, none⟩ = W1.cell? ⟨w.heap.size, o, none⟩) := fun o => by
            rw [HBO.out.cell (p := ⟨w.heap.size, o, none⟩) (by show w.heap.size < _; omega), HBK.out.cell (p := ⟨w.heap.size, o, none⟩) (Nat.lt_succ_self _)]
          have k0 := (HKW.out 0).trans HK1.out.1
          have k1 := (HKW.out 1).trans HK1.out.2.1
          have HNW3 : Hid (wo.heap.size + 2 ≤ W3.heap.size) := by have := HA3.out.size; show _ ≤ _; omega
          rw [hadr2]
          clear hr2 hok2 hadr2 hb2
          have hW3s : wi.heap.size < W3.heap.size := HRF.out.lt.2.1
          cases he : keyB typ rel rs[k].name rs[k].rows[j].name with
          | true =>
            have HSTP : Hid (rows = (rs[k].rows.take (j + 1)).filter fun r => !keyB typ rel rs[k].name r.name) := by
              show _ = _
              rw [List.take_succ_eq_append_getElem hjt, List.filter_append, ← HRQ.out]
              simp [he]
            have h2 : typ.toList = rs[k].name.toList ∧ rel.toList = rs[k].rows[j].name.toList := by unfold keyB at he; simpa using he
            have h3 : (typ.toList == rs[k].name.toList) = true := by simp [h2.1]
            have h4 : (rel.toList == rs[k].rows[j].name.toList) = true := by simp [h2.2]
            have HBX : Hid (Below (wo.heap.size + 1) W2 W3) := HB3.out.trans (HA3.out.mono (by omega))
            have HNX : Hid (W3.cell? ⟨wo.heap.size + 1, 0, none⟩ = some (.string rs[k].name) ∧ W3.cell? ⟨wo.heap.size + 1, 1, none⟩ = some v2 ∧ W3.frozen? ⟨wo.heap.size + 1, 1, none⟩ = false) := ⟨HRF.out.n0, HRF.out.n1, HRF.out.fz⟩
            clear h2 he
            go_wp2
            rw [← hW3]
            go_roundw
            case rel => exact ⟨j + 1, v2, rows, by omega, by go_num, HNX, HRM, HSTP, HBX⟩
            case measure => first | (simp [intOf]; done) | (simp [intOf]; omega)
          | false =>
            have HSTP : Hid (rows ++ [rs[k].rows[j]] = (rs[k].rows.take (j + 1)).filter fun r => !keyB typ rel rs[k].name r.name) := by
              show _ = _
              rw [List.take_succ_eq_append_getElem hjt, List.filter_append, ← HRQ.out]
              simp [he]
            have HT := keyB_no he
            clear he
            obtain ⟨W4, hW4⟩ : ∃ W4, W4 = (wi.alloc (.cells #[.string rs[k].rows[j].name, .slice rs[k].rows[j].ad rs[k].rows[j].rows.length rs[k].rows[j].cap] 46)).alloc (.cells #[.string rs[k].rows[j].name, .slice rs[k].rows[j].ad rs[k].rows[j].rows.length rs[k].rows[j].cap] 46) := ⟨_, rfl⟩
            have HA4 : Hid (Below W3.heap.size W3 W4) := by show Below _ _ _; rw [hW4, ← hW3]; exact (Below.refl _ _).alloc (Nat.le_refl _) _
            have HNEW : Hid (∀ j' u, (RR.cells rs[k].rows[j])[j']? = some u → W4.cell? ((⟨wi.heap.size + 1, 0, none⟩ : Addr).add j') = some u) := by
              have hs : W3.heap.size = wi.heap.size + 1 := by rw [hW3]; simp
              rw [hW4, ← hW3, ← hs]; exact cells2_new W3 _ _ _
            have HOW4 : Hid (W4.ownsRow (wo.heap.size + 2) 46 2 v2 rows.length (rows.flatMap RR.cells)) := own_heap HRM.out fun g hg => HA4.out.block g (HRM.out.lt g hg).2
            have HRF4 : Hid (RFs (wo.heap.size + 1) wi.heap.size wo.heap.size v2 rs[k].name rs[k].rows[j].name (.slice rs[k].rows[j].ad rs[k].rows[j].rows.length rs[k].rows[j].cap) W4) := HRF.out.below HA4.out
            rcases HT with ⟨h3, h4⟩ | h3
            · go_wp2_with (at_builtin; go_must (rw [← hW4]; clear hW4; refine wpList_append_own_at _ rfl _ _ 42 rfl (wo.heap.size + 2) 46 iR (.agg #[.string ⟨#[]⟩, .slice none 0 0]) 2 40 Tryz.underlying42 HIR.out.1 HIR.out.2.1 HIR.out.2.2.1 HIR.out.2.2.2 rfl (by decide) v2 rows.length (rows.flatMap RR.cells) rfl HOW4.out ⟨wi.heap.size + 1, 0, none⟩ 1 1 (RR.cells rs[k].rows[j]) rfl rfl HNEW.out (by simp [RR.cells, RR.vs, Value.oneCell']) (by unfold maxLen; omega) (by omega) (Nat.le_trans HNW3.out HA4.out.size) ?_))
              intro v5 w5 hown5 hgr5 _ hv5
              obtain ⟨ad5, cap5, rfl⟩ := own_slice hown5
              have HRF5 : Hid (RFs (wo.heap.size + 1) wi.heap.size wo.heap.size v2 rs[k].name rs[k].rows[j].name (.slice rs[k].rows[j].ad rs[k].rows[j].rows.length rs[k].rows[j].cap) w5) := HRF4.out.heap hgr5.size fun g hg => hgr5.block g (by have := HRF4.out.lt; rcases hg with rfl | rfl | rfl <;> omega) (fun e => by have h1 := (HR.out.lt g e.symm).1; have h2 := (HR.out.lt g e.symm).2; rcases hg with rfl | rfl | rfl <;> omega)
              have z3 := HRF5.out.n1
              have z4 := HRF5.out.fz
              have HNX : Hid ((w5.setCell ⟨wo.heap.size + 1, 1, none⟩ (.slice ad5 (rows.length + 1) cap5)).cell? ⟨wo.heap.size + 1, 0, none⟩ = some (.string rs[k].name) ∧ (w5.setCell ⟨wo.heap.size + 1, 1, none⟩ (.slice ad5 (rows.length + 1) cap5)).cell? ⟨wo.heap.size + 1, 1, none⟩ = some (.slice ad5 (rows.length + 1) cap5) ∧ (w5.setCell ⟨wo.heap.size + 1, 1, none⟩ (.slice ad5 (rows.length + 1) cap5)).frozen? ⟨wo.heap.size + 1, 1, none⟩ = false) := ⟨by rw [setO' (by omega)]; exact HRF5.out.n0, setS' z3, by simpa using z4⟩
              have HRX : Hid ((w5.setCell ⟨wo.heap.size + 1, 1, none⟩ (.slice ad5 (rows.length + 1) cap5)).ownsRow (wo.heap.size + 2) 46 2 (.slice ad5 (rows.length + 1) cap5) (rows ++ [rs[k].rows[j]]).length ((rows ++ [rs[k].rows[j]]).flatMap RR.cells)) := by
                show World.ownsRow _ _ _ _ _ _ _
                rw [List.length_append, List.length_singleton, List.flatMap_append]
                simp only [List.flatMap_cons, List.flatMap_nil, List.append_nil]
                exact own_heap hown5 fun g hg => Below.heap_setCell _ _ _ g (by have := (hown5.lt g hg).1; show g ≠ wo.heap.size + 1; omega)
              have HBX : Hid (Below (wo.heap.size + 1) W2 (w5.setCell ⟨wo.heap.size + 1, 1, none⟩ (.slice ad5 (rows.length + 1) cap5))) := (((HB3.out.trans (HA3.out.mono (by omega))).trans (HA4.out.mono (by omega))).grown hgr5 (by have := HA4.out.size; have := HNW3.out; omega) (fun g hg => by have := (HR.out.lt g hg).1; omega)).setCell (by show _ ≤ wo.heap.size + 1; omega) _
              clear hown5 hgr5 hv5 x0 x3 x4 k0 k1 y0 y1 y2 hW3
              go_wp2
              go_roundw
              case rel => exact ⟨j + 1, .slice ad5 (rows.length + 1) cap5, rows ++ [rs[k].rows[j]], by omega, by go_num, HNX, HRX, HSTP, HBX⟩
              case measure => first | (simp [intOf]; done) | (simp [intOf]; omega)
            · go_wp2_with (at_builtin; go_must (rw [← hW4]; clear hW4; refine wpList_append_own_at _ rfl _ _ 42 rfl (wo.heap.size + 2) 46 iR (.agg #[.string ⟨#[]⟩, .slice none 0 0]) 2 40 Tryz.underlying42 HIR.out.1 HIR.out.2.1 HIR.out.2.2.1 HIR.out.2.2.2 rfl (by decide) v2 rows.length (rows.flatMap RR.cells) rfl HOW4.out ⟨wi.heap.size + 1, 0, none⟩ 1 1 (RR.cells rs[k].rows[j]) rfl rfl HNEW.out (by simp [RR.cells, RR.vs, Value.oneCell']) (by unfold maxLen; omega) (by omega) (Nat.le_trans HNW3.out HA4.out.size) ?_))
              intro v5 w5 hown5 hgr5 _ hv5
              obtain ⟨ad5, cap5, rfl⟩ := own_slice hown5
              have HRF5 : Hid (RFs (wo.heap.size + 1) wi.heap.size wo.heap.size v2 rs[k].name rs[k].rows[j].name (.slice rs[k].rows[j].ad rs[k].rows[j].rows.length rs[k].rows[j].cap) w5) := HRF4.out.heap hgr5.size fun g hg => hgr5.block g (by have := HRF4.out.lt; rcases hg with rfl | rfl | rfl <;> omega) (fun e => by have h1 := (HR.out.lt g e.symm).1; have h2 := (HR.out.lt g e.symm).2; rcases hg with rfl | rfl | rfl <;> omega)
              have z3 := HRF5.out.n1
              have z4 := HRF5.out.fz
              have HNX : Hid ((w5.setCell ⟨wo.heap.size + 1, 1, none⟩ (.slice ad5 (rows.length + 1) cap5)).cell? ⟨wo.heap.size + 1, 0, none⟩ = some (.string rs[k].name) ∧ (w5.setCell ⟨wo.heap.size + 1, 1, none⟩ (.slice ad5 (rows.length + 1) cap5)).cell? ⟨wo.heap.size + 1, 1, none⟩ = some (.slice ad5 (rows.length + 1) cap5) ∧ (w5.setCell ⟨wo.heap.size + 1, 1, none⟩ (.slice ad5 (rows.length + 1) cap5)).frozen? ⟨wo.heap.size + 1, 1, none⟩ = false) := ⟨by rw [setO' (by omega)]; exact HRF5.out.n0, setS' z3, by simpa using z4⟩
              have HRX : Hid ((w5.setCell ⟨wo.heap.size + 1, 1, none⟩ (.slice ad5 (rows.length + 1) cap5)).ownsRow (wo.heap.size + 2) 46 2 (.slice ad5 (rows.length + 1) cap5) (rows ++ [rs[k].rows[j]]).length ((rows ++ [rs[k].rows[j]]).flatMap RR.cells)) := by
                show World.ownsRow _ _ _ _ _ _ _
                rw [List.length_append, List.length_singleton, List.flatMap_append]
                simp only [List.flatMap_cons, List.flatMap_nil, List.append_nil]
                exact own_heap hown5 fun g hg => Below.heap_setCell _ _ _ g (by have := (hown5.lt g hg).1; show g ≠ wo.heap.size + 1; omega)
              have HBX : Hid (Below (wo.heap.size + 1) W2 (w5.setCell ⟨wo.heap.size + 1, 1, none⟩ (.slice ad5 (rows.length + 1) cap5))) := (((HB3.out.trans (HA3.out.mono (by omega))).trans (HA4.out.mono (by omega))).grown hgr5 (by have := HA4.out.size; have := HNW3.out; omega) (fun g hg => by have := (HR.out.lt g hg).1; omega)).setCell (by show _ ≤ wo.heap.size + 1; omega) _
              clear hown5 hgr5 hv5 x0 x3 x4 k0 k1 y0 y1 y2 hW3
              go_wp2
              go_roundw
              case rel => exact ⟨j + 1, .slice ad5 (rows.length + 1) cap5, rows ++ [rs[k].rows[j]], by omega, by go_num, HNX, HRX, HSTP, HBX⟩
              case measure => first | (simp [intOf]; done) | (simp [intOf]; omega)
        · obtain rfl : j = rs[k].rows.length := by omega
          have hown2 := HR.out
          obtain ⟨ad2, cap2, rfl⟩ := own_slice hown2
          obtain ⟨q, hq⟩ : ∃ q : TR, q = ⟨rs[k].name, rows, ad2, cap2⟩ := ⟨_, rfl⟩
          have HQP : Hid (q.name = rs[k].name ∧ q.rows = cutW typ rel rs[k]) := by
            show _ ∧ _
            rw [hq]
            have e := HRQ.out
            rw [List.take_length] at e
            exact ⟨rfl, e⟩
          obtain ⟨W4, hW4⟩ : ∃ W4, W4 = wi.alloc (.cells #[.string rs[k].name, .slice ad2 rows.length cap2] 44) := ⟨_, rfl⟩
          have HA4 : Hid (Below wi.heap.size wi W4) := by show Below _ _ _; rw [hW4]; exact (Below.refl _ _).alloc (Nat.le_refl _) _
          have HBO4 : Hid (Below wo.heap.size wo W4) := HBO.out.trans (HA4.out.mono HBO.out.size)
          have HNW : Hid (∀ j u, (TR.cells q)[j]? = some u → W4.cell? ((⟨wi.heap.size, 0, none⟩ : Addr).add j) = some u) := by rw [hW4, hq]; exact cells2_new wi _ _ _
          have HKQ : Hid (kW W4 (wo.heap.size + 2) q) := by rw [hq]; exact own_heap HR.out fun g hg => HA4.out.block g (HR.out.lt g hg).2
          have HOW4 : Hid (W4.ownsRow (w.heap.size + 1) 44 2 u5 qs.length (qs.flatMap TR.cells)) := own_heap HX.out.own fun g hg => HBO4.out.block g (HX.out.own.lt g hg).2
          have HWW : Hid (w.heap.size + 1 ≤ wo.heap.size) := hkw
          obtain ⟨n0, n1, -⟩ := HN.out
          clear hq hown2
          go_wp2_with (at_builtin; go_must (rw [← hW4]; clear hW4; refine wpList_append_own_at _ rfl _ _ 24 rfl (w.heap.size + 1) 44 iT (.agg #[.string ⟨#[]⟩, .slice none 0 0]) 2 40 Tryz.underlying24 HIT.out.1 HIT.out.2.1 HIT.out.2.2.1 HIT.out.2.2.2 rfl (by decide) u5 qs.length (qs.flatMap TR.cells) rfl HOW4.out ⟨wi.heap.size, 0, none⟩ 1 1 (TR.cells q) rfl rfl HNW.out (by simp [TR.cells, TR.vs, Value.oneCell']) (by unfold maxLen; omega) (by omega) (Nat.le_trans HWW.out HBO4.out.size) ?_))
          intro v5 w5 hown5 hgr5 _ hv5
          have HX5 : Hid (WoM w5 (w.heap.size + 1) v5 (qs ++ [q])) := LotM.snocN kidW HX.out HBO4.out hown5 hgr5 (hv5.imp id fun e => ⟨_, e, Nat.le_refl _⟩) (own_mono HKQ.out (by have := HWW.out; omega)) (fun g hg => by have := (kidW.lt W4 _ q HKQ.out g hg).1; omega)
          have HQ5 : Hid (CutOf typ rel (rs.take (k + 1)) (qs ++ [q])) := by
            show CutOf _ _ _ _
            unfold CutOf
            rw [List.take_succ_eq_append_getElem hlt, List.map_append, List.map_append, HQ.out]
            simp [HQP.out.1, HQP.out.2]
          have HB5 : Hid (Below (w.heap.size + 1) W1 w5) := (HBK.out.trans (HBO4.out.mono (by omega))).grown hgr5 (Nat.le_trans HWW.out HBO4.out.size) (fun g hg => (HX.out.own.lt g hg).1)
          clear hown5 hgr5 hv5 n0 n1 HOW4 HNW HKQ HN HR
          go_wp2
          go_roundw
          case rel => exact ⟨k + 1, qs ++ [q], by omega, by go_num, HX5, HQ5, HB5⟩
          case measure => first | (simp [intOf]; done) | (simp [intOf]; omega)
    · obtain rfl : k = rs.length := by omega
      have HF : Hid (CutOf typ rel rs qs) := by have := HQ.out; rwa [List.take_length] at this
      go_wp2
      go_ret
      exact ⟨_, qs, rfl, LotM.mono HX.out (Nat.le_succ _) (fun q hq => own_mono hq (Nat.le_succ _)), HF.out, HB.out⟩
end Go.Proofs.YtmghabcaakgjiaaGreat
