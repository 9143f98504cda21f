/- Contract of the document's Pruned. -/
import Derived.Test.YtmghabcaakgjiaaGreatImplPruned
import Derived.Test.YtmghabcaakgjiaaGreatCopyN
import Derived.Test.YtmghabcaakgjiaaGreatSpecSchema11
import Derived.Deep.DeepMust
namespace Go.Proofs.YtmghabcaakgjiaaGreat
set_option maxRecDepth 100000
set_option linter.unusedVariables false
open Go.ChangeShapes Go.WideShapes Go.ChangeAt Go.RowKit Go.Maps
open Pl

theorem toList_inj2 {a b : ByteArray} (h : a.toList = b.toList) : a = b := by
  rw [Go.ByteArray.toList_eq, Go.ByteArray.toList_eq] at h
  exact ByteArray.ext (Array.toList_inj.1 h)
theorem bytes_eq {a b : ByteArray} (h : (a.toList == b.toList) = true) : a = b := toList_inj2 (by simpa using h)
/-- a node that goes over asks just as the document says -/
theorem ask_eq {rs : List TR} (h : schemaD (tys rs) = true) {t : TR} (ht : t ∈ rs) {q : RR} (hq : q ∈ t.rows) {x : ER} (hx : x ∈ q.rows) (hk : x.e.kind = 3) {typ rel : ByteArray} (hkey : keyB t.name q.name typ rel = false) : ovN (askI (tys rs) typ rel) t.name q.name x.e = ((x.e.name.toList == rel.toList) && inS (goalsP (tys rs) t.name x.e.over rel) typ) := by
  have hSP := schemaD_iff.1 h
  have hr := hSP.2.1
  unfold refsAll at hr
  rw [List.all_eq_true] at hr
  have h2 := hr t.p (List.mem_map_of_mem ht)
  unfold refsT at h2
  rw [List.all_eq_true] at h2
  have h4 : refsP (tys rs) t.name (exs q.rows) = true := h2 q.p (List.mem_map_of_mem hq)
  have h5 := (refsP_all h4 x.e (List.mem_map_of_mem hx)).2
  unfold refN at h5
  rw [if_neg (by omega), if_pos hk, Bool.and_eq_true] at h5
  unfold ovN askI
  rw [hkey, decide_eq_true hk]
  cases hn : (x.e.name.toList == rel.toList) with
  | false => rfl
  | true =>
    rw [bytes_eq hn]
    unfold goalsI
    rw [if_pos h5.1]; rfl
theorem goalsP_few {rs : List TR} (hl : ∀ r ∈ rs, r.light) (tn over nm : ByteArray) : (goalsP (tys rs) tn over nm).length ≤ 1048576 := by
  unfold goalsP
  refine Nat.le_trans (gl_len _ _ _) ?_
  unfold relOr
  cases e : relP (tys rs) tn over with
  | none => exact Nat.zero_le _
  | some es =>
    obtain ⟨t, ht, q, hq, -, -, h⟩ := relP_row e
    show (allowP es).length ≤ _
    rw [← h]; exact allowP_len _ ((hl t ht).2 q hq).2
theorem keyB_comm (a b c d : ByteArray) : keyB a b c d = keyB c d a b := by
  unfold keyB; rw [Bool.beq_comm, Bool.beq_comm (a := b.toList)]
theorem ask_key {ts : List Ty} {typ rel tn rn : ByteArray} (h : keyB tn rn typ rel = true) (e : Ex) : ovN (askI ts typ rel) tn rn e = false := by
  unfold ovN askI; rw [h]; simp
theorem SlT.row {w : World} {b off : Nat} {rs : List TR} (h : SlT w (some ⟨b, off, none⟩) rs) {k : Nat} (hk : k < rs.length) : AtT w b (off + k * 2) rs[k] ∧ b < w.heap.size := by
  rcases h with h | ⟨b', off', e, hb, hr, -⟩
  · rw [h] at hk; simp at hk
  · injection e with e; injection e with e1 e2
    subst e1; subst e2
    exact ⟨hr k hk, hb⟩
theorem SlR.row {w : World} {ad : Option Addr} {rs : List RR} (h : SlR w ad rs) {k : Nat} (hk : k < rs.length) : ∃ b off, ad = some ⟨b, off, none⟩ ∧ AtR w b (off + k * 2) rs[k] ∧ b < w.heap.size := by
  rcases h with h | ⟨b', off', e, hb, hr, -⟩
  · rw [h] at hk; simp at hk
  · exact ⟨b', off', e, hr k hk, hb⟩
theorem SlE.row {w : World} {ad : Option Addr} {rs : List ER} (h : SlE w ad rs) {k : Nat} (hk : k < rs.length) : ∃ b off, ad = some ⟨b, off, none⟩ ∧ At5 w b (off + k * 5) rs[k] ∧ b < w.heap.size := by
  rcases h with h | ⟨b', off', e, hb, hr, -⟩
  · rw [h] at hk; simp at hk
  · exact ⟨b', off', e, hr k hk, hb⟩
theorem AtT.kept {w w' : World} {b off : Nat} {t : TR} (h : AtT w b off t) (hb : b < w.heap.size) (hB : Below w.heap.size w w') : AtT w' b off t := h.later hb hB

theorem cut_from {typ rel : ByteArray} {rs qs : List TR} (h : tys qs = cutP typ rel (tys rs)) : ∀ t ∈ qs, ∃ s ∈ rs, t.name = s.name ∧ t.rows.length ≤ s.rows.length ∧ ∀ q ∈ t.rows, ∃ q' ∈ s.rows, q.name = q'.name ∧ exs q.rows = exs q'.rows := by
  intro t ht
  have h1 : t.p ∈ tys qs := List.mem_map_of_mem ht
  rw [h] at h1
  obtain ⟨s', hs', e⟩ := List.mem_map.1 h1
  obtain ⟨s, hs, rfl⟩ := List.mem_map.1 hs'
  injection e with e1 e2
  refine ⟨s, hs, e1.symm, ?_, fun q hq => ?_⟩
  · rw [← rls_len, ← e2]; exact Nat.le_trans (List.length_filter_le _ _) (by show (rls s.rows).length ≤ _; rw [rls_len]; exact Nat.le_refl _)
  · have h2 : q.p ∈ rls t.rows := List.mem_map_of_mem hq
    rw [← e2] at h2
    obtain ⟨q', hq', e3⟩ := List.mem_map.1 (List.mem_filter.1 h2).1
    injection e3 with e4 e5
    exact ⟨q', hq', e4.symm, e5.symm⟩
theorem cut_light {typ rel : ByteArray} {rs qs : List TR} (h : tys qs = cutP typ rel (tys rs)) (hl : ∀ r ∈ rs, r.light) : ∀ r ∈ qs, r.light := fun t ht => by
  obtain ⟨s, hs, -, e2, e3⟩ := cut_from h t ht
  refine ⟨Nat.le_trans e2 (hl s hs).1, fun q hq => ?_⟩
  obtain ⟨q', hq', -, e5⟩ := e3 q hq
  have := (hl s hs).2 q' hq'
  exact ⟨by rw [← exs_len, e5, exs_len]; exact this.1, exsP e5 this.2⟩
theorem cut_fits {typ rel : ByteArray} {rs qs : List TR} (h : tys qs = cutP typ rel (tys rs)) (hl : ∀ r ∈ rs, r.fits) : ∀ r ∈ qs, r.fits := fun t ht => by
  obtain ⟨s, hs, e1, e2, e3⟩ := cut_from h t ht
  refine ⟨by rw [e1]; exact (hl s hs).1, Nat.le_trans e2 (hl s hs).2.1, fun q hq => ?_⟩
  obtain ⟨q', hq', e4, e5⟩ := e3 q hq
  have := (hl s hs).2.2 q' hq'
  exact ⟨by rw [e4]; exact this.1, by rw [← exs_len, e5, exs_len]; exact this.2.1, exsP e5 this.2.2⟩

set_option maxHeartbeats 16000000 in
theorem specPruned_any (ad : Option Addr) (cap : Nat) (rs : List TR) (typ rel : ByteArray) (w : World) (hlen : rs.length ≤ 1048576) (hs : SlT w ad rs) (hl : ∀ r ∈ rs, r.light) (hf : ∀ r ∈ rs, r.fits) (hz : ∀ t ∈ rs, ∀ q ∈ t.rows, ∀ r ∈ q.rows, r.atZero) :
    Calls Tryz.prog 15 #[.slice ad rs.length cap, .string typ, .string rel] w (AnsT w (prunD (tys rs) typ rel)) := by
  obtain ⟨iR, hiR, zR0, zR1, zR2⟩ := info_parts (P := Tryz.prog) (e := 46) (z := .agg #[.string ⟨#[]⟩, .slice none 0 0]) (size := 2) (bytes := 40) (by kernel_rfl)
  obtain ⟨iT, hiT, zT0, zT1, zT2⟩ := info_parts (P := Tryz.prog) (e := 44) (z := .agg #[.string ⟨#[]⟩, .slice none 0 0]) (size := 2) (bytes := 40) (by kernel_rfl)
  have HIR : Hid (Tryz.prog.info? 46 = some iR ∧ iR.zero = some (.agg #[.string ⟨#[]⟩, .slice none 0 0]) ∧ iR.size = 2 ∧ iR.bytes = 40) := ⟨hiR, zR0, zR1, zR2⟩
  have HIT : Hid (Tryz.prog.info? 44 = some iT ∧ iT.zero = some (.agg #[.string ⟨#[]⟩, .slice none 0 0]) ∧ iT.size = 2 ∧ iT.bytes = 40) := ⟨hiT, zT0, zT1, zT2⟩
  have HS := toHX hs
  have HL := toHX hl
  have HFT := toHX hf
  have HZ := toHX hz
  clear hs hl hf hz hiR zR0 zR1 zR2 hiT zT0 zT1 zT2
  go_enter Tryz.func15, Tryz.ntmps15
  go_wp2_with fail
  refine (specSchemaOk_any ad cap rs _ hlen HS.out HL.out HFT.out).mono ?_
  rintro e w1 ⟨rfl, hb1⟩
  have HB1 : Hid (Below w.heap.size w w1) := hb1
  clear hb1
  cases hd : schemaD (tys rs) with
  | false =>
    have HN : Hid (prunD (tys rs) typ rel = none) := by show _ = _; unfold prunD; rw [hd]; rfl
    clear hd
    go_wp2
    refine bodyPost_ret (v := .tuple #[.slice none 0 0, .bool false]) ?_ rfl (ansT_none HN.out HB1.out)
    simp [results, Tryz.results15, go_sem]
  | true =>
    have HD := toHX hd
    have hSP := schemaD_iff.1 hd
    obtain ⟨h6, hr6, hex⟩ := shape_facts hSP.1
    have HR6 := toHX hr6
    have HEX := toHX hex
    clear hd hSP hr6 hex
    go_wp2_with fail
    refine (l2Rel_any ad cap rs typ rel _ hlen (HS.out.below HB1.out) HL.out).mono ?_
    rintro e w2 ⟨⟨rows0, adE, capE, rfl, hex0, -, -⟩, hw2⟩
    replace hw2 := hw2.symm
    subst hw2
    replace hex0 : exs rows0 = relOr (tys rs) typ rel := hex0
    by_cases hz0 : rows0 = []
    · have HN : Hid (prunD (tys rs) typ rel = none) := by
        have e : relOr (tys rs) typ rel = [] := by rw [← hex0, hz0]; rfl
        show _ = _; unfold prunD; rw [e]; simp
      have hlz : (rows0.length : Int) = 0 := by rw [hz0]; rfl
      clear hz0 hex0
      go_wp2
      refine bodyPost_ret (v := .tuple #[.slice none 0 0, .bool false]) ?_ rfl (ansT_none HN.out HB1.out)
      simp [results, Tryz.results15, go_sem]
    have hlz : ¬ (rows0.length : Int) = 0 := fun h => hz0 (List.length_eq_zero_iff.1 (by omega))
    have hlz2 : ((rows0.length : Int) == 0) = false := by simpa using hlz
    have HNE : Hid ((!(relOr (tys rs) typ rel).isEmpty) = true) := by
      show _ = _
      rw [← hex0]
      cases rows0 with
      | nil => exact absurd rfl hz0
      | cons a b => rfl
    have HPD : Hid (ovS (askI (tys rs) typ rel) (tys rs) = false → prunD (tys rs) typ rel = if schemaD (cutP typ rel (tys rs)) = true then some (cutP typ rel (tys rs)) else none) := fun h => by
      unfold prunD; rw [HD.out, HNE.out, h]; simp
    have HPN : Hid (ovS (askI (tys rs) typ rel) (tys rs) = true → prunD (tys rs) typ rel = none) := fun h => by unfold prunD; rw [h]; simp
    have HYES : Hid (∀ t ∈ rs, ∀ q ∈ t.rows, ∀ x ∈ q.rows, ovN (askI (tys rs) typ rel) t.name q.name x.e = true → ovS (askI (tys rs) typ rel) (tys rs) = true) := fun t ht q hq x hx h => List.any_eq_true.2 ⟨t.p, List.mem_map_of_mem ht, List.any_eq_true.2 ⟨q.p, List.mem_map_of_mem hq, List.any_eq_true.2 ⟨x.e, List.mem_map_of_mem hx, h⟩⟩⟩
    have HNO : Hid ((∀ k (hk : k < rs.length), ∀ q ∈ rs[k].rows, ∀ x ∈ q.rows, ovN (askI (tys rs) typ rel) rs[k].name q.name x.e = false) → ovS (askI (tys rs) typ rel) (tys rs) = false) := fun h => by
      rw [ovS, List.any_eq_false]
      rintro t' ht'
      obtain ⟨t, ht, rfl⟩ := List.mem_map.1 ht'
      obtain ⟨k, hk, rfl⟩ := List.getElem_of_mem ht
      rw [Bool.not_eq_true, ovT, List.any_eq_false]
      rintro q' hq'
      obtain ⟨q, hq, rfl⟩ := List.mem_map.1 hq'
      rw [Bool.not_eq_true, ovR, List.any_eq_false]
      rintro x' hx'
      obtain ⟨x, hx, rfl⟩ := List.mem_map.1 hx'
      rw [Bool.not_eq_true]
      exact h k hk q hq x hx
    clear hz0 hex0
    obtain ⟨W0, hW0⟩ : ∃ W0, W0 = w1.alloc (.cells #[] 44) := ⟨_, rfl⟩
    have HX0 : Hid (TypM W0 w.heap.size (.slice (some ⟨w1.heap.size, 0, none⟩) 0 0) []) := by
      show LotM _ _ _ _ _ _ _ _ _
      rw [hW0]
      exact ⟨World.ownsRow_lit w1 #[] 0 HB1.out.size (by unfold maxLen; omega) (by simp), fun q hq => (by cases hq), fun q hq => (by cases hq), fun x y hx => absurd hx (by simp)⟩
    have HB0 : Hid (Below w.heap.size w W0) := by show Below _ _ _; rw [hW0]; exact HB1.out.alloc HB1.out.size _
    go_wp2_with fail
    rw [← hW0]
    clear hW0
    go_loopw [8, 9] (fun v i wr => ∃ (k : Nat) (qs : List TR), k ≤ rs.length ∧ i = .int .i64 k ∧ Hid (TypM wr w.heap.size v qs) ∧ Hid (tys qs = (cutP typ rel (tys rs)).take k) ∧ Hid (∀ k' (hk : k' < rs.length), k' < k → ∀ q ∈ rs[k'].rows, ∀ x ∈ q.rows, ovN (askI (tys rs) typ rel) rs[k'].name q.name x.e = false) ∧ Hid (Below w.heap.size w wr)) (fun _ i _ => rs.length - (intOf i).toNat)
    case atStart => exact ⟨0, [], Nat.zero_le _, rfl, HX0, by show _ = _; simp [tys], fun _ _ h => absurd h (Nat.not_lt_zero _), HB0⟩
    case round =>
      clear HX0 HB0
      obtain ⟨k, qs, hk, rfl, HX, HQ, HKN, HB⟩ := hrel
      obtain ⟨wo, hwo⟩ : ∃ wo, wo = wr := ⟨_, rfl⟩
      subst hwo
      have HQL : Hid (qs.length = k) := by
        show _ = _
        rw [← tys_len, HQ.out, List.length_take]; simp [cutP, tys_len]; omega
      have hql6 : qs.length ≤ 6 := by rw [HQL.out]; omega
      by_cases hlt : k < rs.length
      · rcases HS.out with hnil | ⟨b, off, hadr, hb0, -, -⟩
        · rw [hnil] at hlt; simp at hlt
        subst hadr
        have HTM : Hid (rs[k] ∈ rs) := List.getElem_mem hlt
        have hr6 : rs[k].rows.length ≤ 6 := HR6.out _ (List.getElem_mem hlt)
        have hk1 : (0 : Int) ≤ (k : Int) := by omega
        have hk2 : (k : Int) < (rs.length : Int) := by omega
        have HTR := toHX (HS.out.row hlt)
        obtain ⟨t0, t1⟩ := HTR.out.1.kept HTR.out.2 HB.out
        have HOK : Hid (rs[k].ok w) := SlT.mem HS.out (List.getElem_mem hlt)
        obtain ⟨W2, hW2⟩ : ∃ W2, W2 = wo.alloc (.cells #[.string rs[k].name, .slice none 0 0] 44) := ⟨_, rfl⟩
        have HB2 : Hid (Below wo.heap.size wo W2) := by show Below _ _ _; rw [hW2]; exact (Below.refl _ _).alloc (Nat.le_refl _) _
        have HP2 : Hid (W2.cell? ⟨wo.heap.size, 0, none⟩ = some (.string rs[k].name) ∧ W2.cell? ⟨wo.heap.size, 1, none⟩ = some (.slice none 0 0) ∧ W2.frozen? ⟨wo.heap.size, 1, none⟩ = false ∧ W2.heap.size = wo.heap.size + 1) := by
          show _ ∧ _
          rw [hW2]
          exact ⟨by simp, by simp, by simp, by simp⟩
        clear hb0
        go_wp2_with fail
        rw [← hW2]
        clear hW2 t0 t1
        go_loopw [11] (fun i wr => ∃ (j : Nat) (v2 : Value) (rows : List RR), j ≤ rs[k].rows.length ∧ i = .int .i64 j ∧ Hid (wr.cell? ⟨wo.heap.size, 0, none⟩ = some (.string rs[k].name) ∧ wr.cell? ⟨wo.heap.size, 1, none⟩ = some v2 ∧ wr.frozen? ⟨wo.heap.size, 1, none⟩ = false) ∧ Hid (RelM wr (wo.heap.size + 1) v2 rows) ∧ Hid (rls rows = ((rls rs[k].rows).take j).filter fun r => !keyB typ rel rs[k].name r.name) ∧ Hid (∀ j' (hj : j' < rs[k].rows.length), j' < j → ∀ x ∈ rs[k].rows[j'].rows, ovN (askI (tys rs) typ rel) rs[k].name rs[k].rows[j'].name x.e = false) ∧ Hid (Below wo.heap.size W2 wr)) (fun i _ => rs[k].rows.length - (intOf i).toNat)
        case atStart => exact ⟨0, .slice none 0 0, [], Nat.zero_le _, rfl, ⟨HP2.out.1, HP2.out.2.1, HP2.out.2.2.1⟩, lotM_nil _ _, by show _ = _; simp [rls], fun _ _ h => absurd h (Nat.not_lt_zero _), Below.refl _ _⟩
        case round =>
          obtain ⟨j, v2, rows, hj, rfl, HN, HR, HRQ, HJN, HB3⟩ := hrel
          obtain ⟨wi, hwi⟩ : ∃ wi, wi = wr := ⟨_, rfl⟩
          subst hwi
          have HZ2 : Hid (W2.heap.size = wo.heap.size + 1) := HP2.out.2.2.2
          have HBO : Hid (Below wo.heap.size wo wi) := HB2.out.trans HB3.out
          have HBI : Hid (Below w.heap.size w wi) := HB.out.trans (HBO.out.mono HB.out.size)
          have HRL : Hid (rows.length ≤ j) := by
            show _ ≤ _
            rw [← rls_len, HRQ.out]; exact Nat.le_trans (List.length_filter_le _ _) (by rw [List.length_take]; omega)
          have hrl6 : rows.length ≤ 6 := by have := HRL.out; omega
          obtain ⟨t0, t1⟩ := HTR.out.1.kept HTR.out.2 HBI.out
          have hTw : wo.heap.size + 1 ≤ wi.heap.size := by have := HB3.out.size; have := HZ2.out; omega
          by_cases hjt : j < rs[k].rows.length
          · obtain ⟨b2, off2, hadr2, hrow2, hbl2⟩ := SlR.row HOK.out hjt
            have HQM : Hid (rs[k].rows[j] ∈ rs[k].rows) := List.getElem_mem hjt
            have HOE : Hid (SlE w rs[k].rows[j].ad rs[k].rows[j].rows) := SlR.mem HOK.out (List.getElem_mem hjt)
            have hej : rs[k].rows[j].rows.length ≤ 15 := (HEX.out _ HTM.out _ HQM.out).2.1
            obtain ⟨s0, s1⟩ := hrow2.later hbl2 HBI.out
            rw [hadr2] at t1
            have yb : b < wi.heap.size := Nat.lt_of_lt_of_le HTR.out.2 HBI.out.size
            have yb2 : b2 < wi.heap.size := Nat.lt_of_lt_of_le hbl2 HBI.out.size
            have hj1 : (0 : Int) ≤ (j : Int) := by omega
            have hj2 : (j : Int) < (rs[k].rows.length : Int) := by omega
            obtain ⟨W3, hW3⟩ : ∃ W3, W3 = wi.alloc (.cells #[.string rs[k].rows[j].name, .slice rs[k].rows[j].ad rs[k].rows[j].rows.length rs[k].rows[j].cap] 46) := ⟨_, rfl⟩
            have HA3 : Hid (Below wi.heap.size wi W3) := by show Below _ _ _; rw [hW3]; exact (Below.refl _ _).alloc (Nat.le_refl _) _
            have HRF : Hid (RFs wo.heap.size wi.heap.size wo.heap.size v2 rs[k].name rs[k].rows[j].name (.slice rs[k].rows[j].ad rs[k].rows[j].rows.length rs[k].rows[j].cap) W3) := by
              have h1 : wo.heap.size < wi.heap.size := by omega
              refine ⟨kept HA3.out h1 HN.out.1, kept HA3.out h1 HN.out.2.1, keptF HA3.out h1 HN.out.2.2, by rw [hW3]; simp, by rw [hW3]; simp, kept HA3.out h1 HN.out.1, ?_⟩
              rw [hW3]; simp; omega
            have HRM : Hid (RelM W3 (wo.heap.size + 1) v2 rows) := LotM.below kidR HR.out HA3.out
            have HBW3 : Hid (Below w.heap.size w W3) := HBI.out.trans (HA3.out.mono HBI.out.size)
            have hNw : wo.heap.size < wi.heap.size := by omega
            cases hke : keyB rs[k].name rs[k].rows[j].name typ rel with
            | true =>
              have HRQ2 : Hid (rls rows = ((rls rs[k].rows).take (j + 1)).filter fun r => !keyB typ rel rs[k].name r.name) := by
                show _ = _
                rw [List.take_succ_eq_append_getElem (by rw [rls_len]; exact hjt), List.filter_append, ← HRQ.out]
                have e : (rls rs[k].rows)[j]'(by rw [rls_len]; exact hjt) = rs[k].rows[j].p := by simp [rls]
                rw [e]
                rw [keyB_comm] at hke
                simp [RR.p, hke]
              have HJN2 : Hid (∀ j' (hj : j' < rs[k].rows.length), j' < j + 1 → ∀ x ∈ rs[k].rows[j'].rows, ovN (askI (tys rs) typ rel) rs[k].name rs[k].rows[j'].name x.e = false) := fun j' hj' h x hx => by
                by_cases e : j' = j
                · subst e; exact ask_key hke x.e
                · exact HJN.out j' hj' (by omega) x hx
              have h3 : (rs[k].name.toList == typ.toList) = true := by unfold keyB at hke; rw [Bool.and_eq_true] at hke; exact hke.1
              have h4 : (rs[k].rows[j].name.toList == rel.toList) = true := by unfold keyB at hke; rw [Bool.and_eq_true] at hke; exact hke.2
              have HNX : Hid (W3.cell? ⟨wo.heap.size, 0, none⟩ = some (.string rs[k].name) ∧ W3.cell? ⟨wo.heap.size, 1, none⟩ = some v2 ∧ W3.frozen? ⟨wo.heap.size, 1, none⟩ = false) := ⟨HRF.out.n0, HRF.out.n1, HRF.out.fz⟩
              have HBX : Hid (Below wo.heap.size W2 W3) := HB3.out.trans (HA3.out.mono (by omega))
              clear hke
              go_wp2
              rw [← hW3]
              go_roundw
              case rel => exact ⟨j + 1, v2, rows, by omega, by go_num, HNX, HRM, HRQ2, HJN2, HBX⟩
              case measure => first | (simp [intOf]; done) | (simp [intOf]; omega)
            | false =>
              have HKE := toHX hke
              have hkn := keyB_no hke
              clear hke
              rcases hkn with ⟨h3, h4⟩ | h3
              · go_wp2_with fail
                rw [← hW3]
                clear hW3 t0 t1 s0 s1 h3
                try clear h4
                go_loopw [13] (fun i wr => ∃ m : Nat, m ≤ rs[k].rows[j].rows.length ∧ i = .int .i64 m ∧ Hid (∀ m' (hm : m' < rs[k].rows[j].rows.length), m' < m → ovN (askI (tys rs) typ rel) rs[k].name rs[k].rows[j].name rs[k].rows[j].rows[m'].e = false) ∧ Hid (Below W3.heap.size W3 wr)) (fun i _ => rs[k].rows[j].rows.length - (intOf i).toNat)
                case atStart => exact ⟨0, Nat.zero_le _, rfl, fun _ _ h => absurd h (Nat.not_lt_zero _), Below.refl _ _⟩
                case round =>
                  obtain ⟨m, hm, rfl, HM, HBM⟩ := hrel
                  have HRFM : Hid (RFs wo.heap.size wi.heap.size wo.heap.size v2 rs[k].name rs[k].rows[j].name (.slice rs[k].rows[j].ad rs[k].rows[j].rows.length rs[k].rows[j].cap) wr) := HRF.out.below HBM.out
                  have HBW : Hid (Below w.heap.size w wr) := HBW3.out.trans (HBM.out.mono HBW3.out.size)
                  have r1 := HRFM.out.r1
                  by_cases hmt : m < rs[k].rows[j].rows.length
                  · obtain ⟨b3, off3, hadr3, hrow3, hbl3⟩ := SlE.row HOE.out hmt
                    have HXM : Hid (rs[k].rows[j].rows[m] ∈ rs[k].rows[j].rows) := List.getElem_mem hmt
                    obtain ⟨q0, -, q2, q3, -⟩ := hrow3.same fun o => HBW.out.cell (p := ⟨b3, o, none⟩) hbl3
                    obtain ⟨t0, -⟩ := HTR.out.1.kept HTR.out.2 HBW.out
                    rw [hadr3] at r1
                    have hm1 : (0 : Int) ≤ (m : Int) := by omega
                    have hm2 : (m : Int) < (rs[k].rows[j].rows.length : Int) := by omega
                    have HSTEP : Hid (ovN (askI (tys rs) typ rel) rs[k].name rs[k].rows[j].name rs[k].rows[j].rows[m].e = false → ∀ m' (hm : m' < rs[k].rows[j].rows.length), m' < m + 1 → ovN (askI (tys rs) typ rel) rs[k].name rs[k].rows[j].name rs[k].rows[j].rows[m'].e = false) := fun h m' hm' hl => by
                      by_cases e : m' = m
                      · subst e; exact h
                      · exact HM.out m' hm' (by omega)
                    have HAE : Hid (rs[k].rows[j].rows[m].e.kind = 3 → ovN (askI (tys rs) typ rel) rs[k].name rs[k].rows[j].name rs[k].rows[j].rows[m].e = ((rs[k].rows[j].rows[m].e.name.toList == rel.toList) && inS (goalsP (tys rs) rs[k].name rs[k].rows[j].rows[m].e.over rel) typ)) := fun h => ask_eq HD.out HTM.out HQM.out HXM.out h HKE.out
                    clear hadr3 hrow3
                    by_cases hkind : rs[k].rows[j].rows[m].e.kind = 3
                    · have HAE2 := toHX (HAE.out hkind)
                      cases hnm : (rs[k].rows[j].rows[m].e.name.toList == rel.toList) with
                      | false =>
                        have HM2 := toHX (HSTEP.out (by rw [HAE2.out, hnm]; rfl))
                        go_wp2_with fail
                        go_quiet (fail)
                        have HBE := toHX (belowN HBM.out nq)
                        go_wp2
                        go_roundw
                        case rel => exact ⟨m + 1, by omega, by go_num, HM2, HBE⟩
                        case measure => first | (simp [intOf]; done) | (simp [intOf]; omega)
                      | true =>
                        have y1 : wi.heap.size < wr.heap.size := HRFM.out.lt.2.1
                        have y2 : b < wr.heap.size := Nat.lt_of_lt_of_le HTR.out.2 HBW.out.size
                        have y3 : b3 < wr.heap.size := Nat.lt_of_lt_of_le hbl3 HBW.out.size
                        have HKP : Hid (∀ w1 w3 : World, (w1.cell? ⟨b, off + k * 2, none⟩ = some (.string rs[k].name) ∧ w1.cell? ⟨wi.heap.size, 1, none⟩ = some (.slice (some ⟨b3, off3, none⟩) rs[k].rows[j].rows.length rs[k].rows[j].cap) ∧ w1.cell? ⟨b3, off3 + m * 5, none⟩ = some (.int .i64 3) ∧ w1.cell? ⟨b3, off3 + m * 5 + 2, none⟩ = some (.string rs[k].rows[j].rows[m].e.over) ∧ w1.cell? ⟨b3, off3 + m * 5 + 3, none⟩ = some (.string rs[k].rows[j].rows[m].e.name) ∧ Below wr.heap.size wr w1) → Below w1.heap.size w1 w3 → (w3.cell? ⟨b, off + k * 2, none⟩ = some (.string rs[k].name) ∧ w3.cell? ⟨wi.heap.size, 1, none⟩ = some (.slice (some ⟨b3, off3, none⟩) rs[k].rows[j].rows.length rs[k].rows[j].cap) ∧ w3.cell? ⟨b3, off3 + m * 5, none⟩ = some (.int .i64 3) ∧ w3.cell? ⟨b3, off3 + m * 5 + 2, none⟩ = some (.string rs[k].rows[j].rows[m].e.over) ∧ w3.cell? ⟨b3, off3 + m * 5 + 3, none⟩ = some (.string rs[k].rows[j].rows[m].e.name) ∧ Below wr.heap.size wr w3)) := fun w1 w3 h hb => by
                          obtain ⟨p0, p1, p2, p3, p4, hB⟩ := h
                          have hz := hB.size
                          exact ⟨kept hb (Nat.lt_of_lt_of_le y2 hz) p0, kept hb (Nat.lt_of_lt_of_le y1 hz) p1, kept hb (Nat.lt_of_lt_of_le y3 hz) p2, kept hb (Nat.lt_of_lt_of_le y3 hz) p3, kept hb (Nat.lt_of_lt_of_le y3 hz) p4, hB.trans (hb.mono hz)⟩
                        have HBS : Hid (∀ w1 : World, (w1.cell? ⟨b, off + k * 2, none⟩ = some (.string rs[k].name) ∧ w1.cell? ⟨wi.heap.size, 1, none⟩ = some (.slice (some ⟨b3, off3, none⟩) rs[k].rows[j].rows.length rs[k].rows[j].cap) ∧ w1.cell? ⟨b3, off3 + m * 5, none⟩ = some (.int .i64 3) ∧ w1.cell? ⟨b3, off3 + m * 5 + 2, none⟩ = some (.string rs[k].rows[j].rows[m].e.over) ∧ w1.cell? ⟨b3, off3 + m * 5 + 3, none⟩ = some (.string rs[k].rows[j].rows[m].e.name) ∧ Below wr.heap.size wr w1) → Below w.heap.size w w1) := fun w1 h => HBW.out.trans (h.2.2.2.2.2.mono HBW.out.size)
                        have HGF := toHX (goalsP_few HL.out rs[k].name rs[k].rows[j].rows[m].e.over rel)
                        cases hin : inS (goalsP (tys rs) rs[k].name rs[k].rows[j].rows[m].e.over rel) typ with
                        | false =>
                          have HM2 := toHX (HSTEP.out (by rw [HAE2.out, hnm, hin]; rfl))
                          rw [hkind] at q0
                          go_wp2_with fail
                          go_region_held3 (fun w' => w'.cell? ⟨b, off + k * 2, none⟩ = some (.string rs[k].name) ∧ w'.cell? ⟨wi.heap.size, 1, none⟩ = some (.slice (some ⟨b3, off3, none⟩) rs[k].rows[j].rows.length rs[k].rows[j].cap) ∧ w'.cell? ⟨b3, off3 + m * 5, none⟩ = some (.int .i64 3) ∧ w'.cell? ⟨b3, off3 + m * 5 + 2, none⟩ = some (.string rs[k].rows[j].rows[m].e.over) ∧ w'.cell? ⟨b3, off3 + m * 5 + 3, none⟩ = some (.string rs[k].rows[j].rows[m].e.name) ∧ Below wr.heap.size wr w')
                            (first | assumption | exact HKP.out _ _ (by assumption) hbx | exact ⟨t0, r1, q0, q2, q3, (Below.refl _ _).drew⟩)
                            (first | (go_at_call 46; refine (l2Goals_any _ cap rs rs[k].name rs[k].rows[j].rows[m].e.over rel _ hlen (HS.out.below (HBS.out _ (by assumption))) HL.out).mono ?_; rintro e w' ⟨⟨adg, capg, rfl, hsg, -⟩, hbx⟩) | (go_at_call 45; refine (l7In_any adg capg _ typ _ HGF.out hsg).mono ?_; rintro e w' ⟨rfl, rfl⟩))
                          rename_i hH
                          have HBE : Hid (Below W3.heap.size W3 _) := HBM.out.trans (hH.2.2.2.2.2.mono HBM.out.size)
                          clear hH
                          go_wp2
                          go_roundw
                          case rel => exact ⟨m + 1, by omega, by go_num, HM2, HBE⟩
                          case measure => first | (simp [intOf]; done) | (simp [intOf]; omega)
                        | true =>
                          have HNO2 := toHX (HPN.out (HYES.out _ HTM.out _ HQM.out _ HXM.out (by rw [HAE2.out, hnm, hin]; rfl)))
                          rw [hkind] at q0
                          go_wp2_with fail
                          go_region_held3 (fun w' => w'.cell? ⟨b, off + k * 2, none⟩ = some (.string rs[k].name) ∧ w'.cell? ⟨wi.heap.size, 1, none⟩ = some (.slice (some ⟨b3, off3, none⟩) rs[k].rows[j].rows.length rs[k].rows[j].cap) ∧ w'.cell? ⟨b3, off3 + m * 5, none⟩ = some (.int .i64 3) ∧ w'.cell? ⟨b3, off3 + m * 5 + 2, none⟩ = some (.string rs[k].rows[j].rows[m].e.over) ∧ w'.cell? ⟨b3, off3 + m * 5 + 3, none⟩ = some (.string rs[k].rows[j].rows[m].e.name) ∧ Below wr.heap.size wr w')
                            (first | assumption | exact HKP.out _ _ (by assumption) hbx | exact ⟨t0, r1, q0, q2, q3, (Below.refl _ _).drew⟩)
                            (first | (go_at_call 46; refine (l2Goals_any _ cap rs rs[k].name rs[k].rows[j].rows[m].e.over rel _ hlen (HS.out.below (HBS.out _ (by assumption))) HL.out).mono ?_; rintro e w' ⟨⟨adg, capg, rfl, hsg, -⟩, hbx⟩) | (go_at_call 45; refine (l7In_any adg capg _ typ _ HGF.out hsg).mono ?_; rintro e w' ⟨rfl, rfl⟩))
                          rename_i hH
                          have HBE := toHX (HBS.out _ hH)
                          clear hH
                          go_wp2
                          refine bodyPost_ret (v := .tuple #[.slice none 0 0, .bool false]) ?_ rfl (ansT_none HNO2.out HBE.out)
                          simp [results, Tryz.results15, go_sem]
                    · have HM2 := toHX (HSTEP.out (by unfold ovN; rw [decide_eq_false hkind]; rfl))
                      have hkd : (rs[k].rows[j].rows[m].e.kind == 3) = false := by simpa using hkind
                      have hkd2 : decide (rs[k].rows[j].rows[m].e.kind = 3) = false := decide_eq_false hkind
                      clear hkind
                      go_wp2_with fail
                      go_quiet (fail)
                      have HBE := toHX (belowN HBM.out nq)
                      go_wp2
                      go_roundw
                      case rel => exact ⟨m + 1, by omega, by go_num, HM2, HBE⟩
                      case measure => first | (simp [intOf]; done) | (simp [intOf]; omega)
                  · obtain rfl : m = rs[k].rows[j].rows.length := by omega
                    have HJN2 : Hid (∀ j' (hj : j' < rs[k].rows.length), j' < j + 1 → ∀ x ∈ rs[k].rows[j'].rows, ovN (askI (tys rs) typ rel) rs[k].name rs[k].rows[j'].name x.e = false) := fun j' hj' h x hx => by
                      by_cases e : j' = j
                      · subst e
                        obtain ⟨i, hi, rfl⟩ := List.getElem_of_mem hx
                        exact HM.out i hi hi
                      · exact HJN.out j' hj' (by omega) x hx
                    obtain ⟨wx, hwx⟩ : ∃ wx, wx = wr := ⟨_, rfl⟩
                    subst hwx
                    go_wp2_with fail
                    have HNW3 : Hid (wo.heap.size + 1 ≤ wx.heap.size) := by have := HA3.out.size; have := HBM.out.size; show _ ≤ _; omega
                    have HRO : Hid (RelM wi (wo.heap.size + 1) v2 rows) := HR.out
                    have HBWX : Hid (Below w.heap.size w wx) := HBW.out
                    have HRM2 : Hid (RelM wx (wo.heap.size + 1) v2 rows) := LotM.below kidR HRM.out HBM.out
                    clear HRM HRF
                    have HRM := HRM2
                    have HRF := HRFM
                    obtain ⟨CV, hCV⟩ : ∃ C : Nat → Value, C = fun n => ((Value.pointer (some { block := wo.heap.size, off := 1 })) :: (v2) :: (Value.pointer (some { block := wi.heap.size, off := 0 })) :: (Value.string rs[k].rows[j].name) :: (Value.pointer (some { block := wi.heap.size, off := 1 })) :: (Value.slice rs[k].rows[j].ad rs[k].rows[j].rows.length rs[k].rows[j].cap) :: (undef) :: (undef) :: (undef) :: (undef) :: (Value.pointer (some { block := wo.heap.size, off := 1 })) :: []).getD n undef := ⟨_, rfl⟩
                    have HCV : Hid (CV 0 = Value.pointer (some { block := wo.heap.size, off := 1 }) ∧ CV 1 = v2 ∧ CV 2 = Value.pointer (some { block := wi.heap.size, off := 0 }) ∧ CV 3 = Value.string rs[k].rows[j].name ∧ CV 4 = Value.pointer (some { block := wi.heap.size, off := 1 }) ∧ CV 5 = Value.slice rs[k].rows[j].ad rs[k].rows[j].rows.length rs[k].rows[j].cap ∧ CV 6 = undef ∧ CV 7 = undef ∧ CV 8 = undef ∧ CV 9 = undef ∧ CV 10 = Value.pointer (some { block := wo.heap.size, off := 1 })) := by show _ ∧ _; rw [hCV]; exact ⟨rfl, rfl, rfl, rfl, rfl, rfl, rfl, rfl, rfl, rfl, rfl⟩
                    clear hCV
                    refine wp_region_frame2 11 (fun | 0 => u111 | 1 => u112 | 2 => u113 | 3 => u114 | 4 => u115 | 5 => u116 | 6 => u117 | 7 => u118 | 8 => u119 | 9 => u120 | 10 => u121 | _ => undef) (fun fq => { tmps := List.toArray (Value.slice (some { block := b, off := off }) rs.length cap :: Value.string typ :: Value.string rel :: undef :: undef :: undef :: u6 :: u7 :: u8 :: Value.int IntKind.i64 (k : Int) :: Value.pointer (some { block := wo.heap.size, off := 0 }) :: Value.int IntKind.i64 (j : Int) :: Value.pointer (some { block := wi.heap.size, off := 0 }) :: Value.int IntKind.i64 (rs[k].rows[j].rows.length : Int) :: Value.slice (some { block := b, off := off }) rs.length cap :: Value.bool true :: Value.bool false :: Value.bool false :: Value.slice (some { block := b, off := off }) rs.length cap :: Value.string typ :: Value.string rel :: Value.slice adE rows0.length capE :: Value.int IntKind.i64 (rows0.length : Int) :: Value.bool false :: Value.bool false :: Value.slice (some { block := w1.heap.size, off := 0 }) 0 0 :: Value.int IntKind.i64 (k : Int) :: Value.slice (some { block := b, off := off }) rs.length cap :: Value.int IntKind.i64 (rs.length : Int) :: Value.bool true :: u30 :: u31 :: Value.slice (some { block := b, off := off }) rs.length cap :: Value.int IntKind.i64 (k : Int) :: Value.pointer (some { block := b, off := off + k * 2 }) :: Value.pointer (some { block := b, off := off + k * 2 }) :: Value.string rs[k].name :: Value.agg #[Value.string rs[k].name, Value.slice none 0 0] :: Value.int IntKind.i64 (j : Int) :: Value.slice (some { block := b, off := off }) rs.length cap :: Value.int IntKind.i64 (k : Int) :: Value.pointer (some { block := b, off := off + k * 2 }) :: Value.pointer (some { block := b, off := off + k * 2 + 1 }) :: Value.slice (some { block := b2, off := off2 }) rs[k].rows.length rs[k].cap :: Value.int IntKind.i64 (rs[k].rows.length : Int) :: Value.bool true :: u46 :: u47 :: Value.slice (some { block := b, off := off }) rs.length cap :: Value.int IntKind.i64 (k : Int) :: Value.pointer (some { block := b, off := off + k * 2 }) :: Value.pointer (some { block := b, off := off + k * 2 + 1 }) :: Value.slice (some { block := b2, off := off2 }) rs[k].rows.length rs[k].cap :: Value.int IntKind.i64 (j : Int) :: Value.pointer (some { block := b2, off := off2 + j * 2 }) :: Value.agg #[Value.string rs[k].rows[j].name, Value.slice rs[k].rows[j].ad rs[k].rows[j].rows.length rs[k].rows[j].cap] :: Value.slice (some { block := b, off := off }) rs.length cap :: Value.int IntKind.i64 (k : Int) :: Value.pointer (some { block := b, off := off + k * 2 }) :: Value.pointer (some { block := b, off := off + k * 2 }) :: Value.string rs[k].name :: Value.string typ :: Value.bool true :: Value.bool true :: Value.pointer (some { block := wi.heap.size, off := 0 }) :: Value.string rs[k].rows[j].name :: Value.string rel :: Value.bool false :: Value.bool false :: Value.int IntKind.i64 (rs[k].rows[j].rows.length : Int) :: Value.pointer (some { block := wi.heap.size, off := 1 }) :: Value.slice rs[k].rows[j].ad rs[k].rows[j].rows.length rs[k].rows[j].cap :: Value.int IntKind.i64 (rs[k].rows[j].rows.length : Int) :: Value.bool false :: u74 :: u75 :: u76 :: u77 :: u78 :: u79 :: u80 :: u81 :: u82 :: u83 :: u84 :: u85 :: u86 :: u87 :: u88 :: u89 :: u90 :: u91 :: u92 :: u93 :: u94 :: u95 :: u96 :: u97 :: u98 :: u99 :: u100 :: u101 :: u102 :: u103 :: u104 :: u105 :: u106 :: u107 :: u108 :: u109 :: u110 :: (fq 0) :: (fq 1) :: (fq 2) :: (fq 3) :: (fq 4) :: (fq 5) :: (fq 6) :: (fq 7) :: (fq 8) :: (fq 9) :: (fq 10) :: u122 :: u123 :: u124 :: u125 :: undef :: undef :: undef :: undef :: []), defers := [] }) (G.CH 6 (fun _ => []) CV (RFs wo.heap.size wi.heap.size wo.heap.size (v2) rs[k].name rs[k].rows[j].name (Value.slice rs[k].rows[j].ad rs[k].rows[j].rows.length rs[k].rows[j].cap)) (Below wx.heap.size wx) (C1 wx (exs rs[k].rows[j].rows)) (fun x => .agg #[.string rs[k].rows[j].name, x]) (C3 wx rs[k].rows[j].name (exs rs[k].rows[j].rows)) (C4 wx wo.heap.size rows rs[k].rows[j].name (exs rs[k].rows[j].rows))) (by kernel_rfl) rfl (by kernel_rfl) (fun o ho l fq w' hI hp => ?clR) rfl (G.ch_start (HRF.out.below (Below.refl _ _).drew) (Below.refl _ _).drew) ?stepR ?finR
                    case clR =>
                      obtain rfl := Option.some.inj ho
                      intro k hk
                      have hc : k = 0 ∨ k = 1 ∨ k = 2 ∨ k = 3 ∨ k = 4 ∨ k = 5 ∨ k = 6 ∨ k = 7 ∨ k = 8 ∨ k = 9 ∨ k = 10 := by omega
                      rcases hc with rfl | rfl | rfl | rfl | rfl | rfl | rfl | rfl | rfl | rfl | rfl
                      · exact hp { on := 0, ground := .phase } (by simp) rfl
                      · exact hp { on := 1, ground := .phase } (by simp) rfl
                      · exact hp { on := 2, ground := .phase } (by simp) rfl
                      · exact hp { on := 3, ground := .phase } (by simp) rfl
                      · exact hp { on := 4, ground := .phase } (by simp) rfl
                      · exact hp { on := 5, ground := .phase } (by simp) rfl
                      · exact hp { on := 6, ground := .phase } (by simp) rfl
                      · exact hp { on := 7, ground := .phase } (by simp) rfl
                      · exact hp { on := 8, ground := .phase } (by simp) rfl
                      · exact hp { on := 9, ground := .phase } (by simp) rfl
                      · exact hp { on := 10, ground := .data } (by simp) rfl
                    case stepR =>
                      rintro i hi o ho l fq w' hli hI hpre
                      have HI : Hid (G.CH 6 (fun _ => []) CV (RFs wo.heap.size wi.heap.size wo.heap.size (v2) rs[k].name rs[k].rows[j].name (Value.slice rs[k].rows[j].ad rs[k].rows[j].rows.length rs[k].rows[j].cap)) (Below wx.heap.size wx) (C1 wx (exs rs[k].rows[j].rows)) (fun x => .agg #[.string rs[k].rows[j].name, x]) (C3 wx rs[k].rows[j].name (exs rs[k].rows[j].rows)) (C4 wx wo.heap.size rows rs[k].rows[j].name (exs rs[k].rows[j].rows)) l fq w') := hI
                      have HPR : Hid (∀ e ∈ o.after, Region.binds .any e = true → l e.on = true) := hpre
                      have HRW : Hid (RFs wo.heap.size wi.heap.size wo.heap.size (v2) rs[k].name rs[k].rows[j].name (Value.slice rs[k].rows[j].ad rs[k].rows[j].rows.length rs[k].rows[j].cap) w') := hI.rf
                      clear hI hpre
                      have hc : i = 0 ∨ i = 1 ∨ i = 2 ∨ i = 3 ∨ i = 4 ∨ i = 5 ∨ i = 6 ∨ i = 7 ∨ i = 8 ∨ i = 9 ∨ i = 10 := by omega
                      clear hi
                      rcases hc with rfl | rfl | rfl | rfl | rfl | rfl | rfl | rfl | rfl | rfl | rfl
                      · obtain rfl := Option.some.inj ho
                        have HP := toHX (HI.out.put (i := 0) (by omega) (fun j hj => by cases hj) HCV.out.1.symm)
                        refine wpOp_hid rfl fun K HK => ?_
                        clear ho HPR HI
                        dsimp only
                        go_simp
                        exact HK.out _ _ ⟨_, by simp [upd], HP.out⟩
                      · obtain rfl := Option.some.inj ho
                        have e0 : fq 0 = Value.pointer (some { block := wo.heap.size, off := 1 }) := (HI.out.val 0 (by omega) (HPR.out { on := 0, ground := .data } (by simp) rfl)).trans HCV.out.1
                        have x1 := HRW.out.n1
                        have HP := toHX (HI.out.put (i := 1) (by omega) (fun j hj => by cases hj) HCV.out.2.1.symm)
                        refine wpOp_hid rfl fun K HK => ?_
                        clear ho HPR HI
                        simp only [e0]
                        go_simp
                        exact HK.out _ _ ⟨_, by simp [upd, e0], HP.out⟩
                      · obtain rfl := Option.some.inj ho
                        have HP := toHX (HI.out.put (i := 2) (by omega) (fun j hj => by cases hj) HCV.out.2.2.1.symm)
                        refine wpOp_hid rfl fun K HK => ?_
                        clear ho HPR HI
                        dsimp only
                        go_simp
                        exact HK.out _ _ ⟨_, by simp [upd], HP.out⟩
                      · obtain rfl := Option.some.inj ho
                        have e2 : fq 2 = Value.pointer (some { block := wi.heap.size, off := 0 }) := (HI.out.val 2 (by omega) (HPR.out { on := 2, ground := .data } (by simp) rfl)).trans HCV.out.2.2.1
                        have x1 := HRW.out.r0
                        have HP := toHX (HI.out.put (i := 3) (by omega) (fun j hj => by cases hj) HCV.out.2.2.2.1.symm)
                        refine wpOp_hid rfl fun K HK => ?_
                        clear ho HPR HI
                        simp only [e2]
                        go_simp
                        exact HK.out _ _ ⟨_, by simp [upd, e2], HP.out⟩
                      · obtain rfl := Option.some.inj ho
                        have HP := toHX (HI.out.put (i := 4) (by omega) (fun j hj => by cases hj) HCV.out.2.2.2.2.1.symm)
                        refine wpOp_hid rfl fun K HK => ?_
                        clear ho HPR HI
                        dsimp only
                        go_simp
                        exact HK.out _ _ ⟨_, by simp [upd], HP.out⟩
                      · obtain rfl := Option.some.inj ho
                        have e4 : fq 4 = Value.pointer (some { block := wi.heap.size, off := 1 }) := (HI.out.val 4 (by omega) (HPR.out { on := 4, ground := .data } (by simp) rfl)).trans HCV.out.2.2.2.2.1
                        have x1 := HRW.out.r1
                        have HP := toHX (HI.out.put (i := 5) (by omega) (fun j hj => by cases hj) HCV.out.2.2.2.2.2.1.symm)
                        refine wpOp_hid rfl fun K HK => ?_
                        clear ho HPR HI
                        simp only [e4]
                        go_simp
                        exact HK.out _ _ ⟨_, by simp [upd, e4], HP.out⟩
                      · obtain rfl := Option.some.inj ho
                        have e5 : fq 5 = Value.slice rs[k].rows[j].ad rs[k].rows[j].rows.length rs[k].rows[j].cap := (HI.out.val 5 (by omega) (HPR.out { on := 5, ground := .data } (by simp) rfl)).trans HCV.out.2.2.2.2.2.1
                        have HM0 := toHX (HI.out.m0 hli).1
                        refine wpOp_hid rfl fun K HK => ?_
                        clear ho HPR
                        simp only [e5]
                        go_simp
                        refine (l2CopyExpr_n _ _ rs[k].rows[j].rows w' hej (HOE.out.below (HBWX.out.trans (HM0.out.mono HBWX.out.size))) (((HL.out _ HTM.out).2 _ HQM.out).2) (HZ.out _ HTM.out _ HQM.out)).mono ?_
                        rintro e w9 ⟨v9, qs9, rfl, hn9, he9, hb9⟩
                        obtain ⟨ad9, cap9, rfl⟩ := own_slice hn9.own
                        have HP := toHX (HI.out.call hli (fun j hj => by cases hj) (HRW.out.below hb9) (show C1 wx (exs rs[k].rows[j].rows) (.slice ad9 qs9.length cap9) w9 from ⟨ad9, cap9, qs9, rfl, NodM.mono hn9 HM0.out.size, he9, HM0.out.trans (hb9.mono HM0.out.size)⟩))
                        clear hn9 he9 hb9 HI HRW HM0
                        go_wp2_with fail
                        exact HK.out _ _ ⟨_, by simp [upd, e5], HP.out⟩
                      · obtain rfl := Option.some.inj ho
                        have e3 : fq 3 = Value.string rs[k].rows[j].name := (HI.out.val 3 (by omega) (HPR.out { on := 3, ground := .data } (by simp) rfl)).trans HCV.out.2.2.2.1
                        have hc0 := HPR.out { on := 6, ground := .data } (by simp) rfl
                        obtain ⟨ad9, cap9, qs9, e6, -⟩ := (HI.out.m1 hc0 hli).1
                        have HP := toHX (HI.out.build hc0 hli (fun j hj => by cases hj) (v := .agg #[.string rs[k].rows[j].name, .slice ad9 qs9.length cap9]) (by rw [e6]))
                        refine wpOp_hid rfl fun K HK => ?_
                        clear ho HPR HI
                        simp only [e3, e6]
                        go_simp
                        exact HK.out _ _ ⟨_, by simp [upd, e3, e6], HP.out⟩
                      · obtain rfl := Option.some.inj ho
                        have hc1 := HPR.out { on := 7, ground := .data } (by simp) rfl
                        obtain ⟨eB, hM1, -, -⟩ := HI.out.m2 hc1 hli
                        have HC1 := toHX hM1
                        obtain ⟨ad9, cap9, qs9, e6, -⟩ := hM1
                        replace eB : fq 7 = .agg #[.string rs[k].rows[j].name, .slice ad9 qs9.length cap9] := by rw [eB, e6]
                        rw [e6] at HC1
                        have HP := toHX (HI.out.lay hc1 hli (fun j hj => by cases hj) (HRW.out.below ((Below.refl _ _).alloc (Nat.le_refl _) _)) (C1.lay (rn := rs[k].rows[j].name) HC1.out))
                        refine wpOp_hid rfl fun K HK => ?_
                        clear ho HPR HI HC1
                        simp only [eB]
                        go_simp
                        exact HK.out _ _ ⟨_, by simp [upd, eB, e6], HP.out⟩
                      · obtain rfl := Option.some.inj ho
                        have e1 : fq 1 = v2 := (HI.out.val 1 (by omega) (HPR.out { on := 1, ground := .data } (by simp) rfl)).trans HCV.out.2.1
                        have hc2 := HPR.out { on := 8, ground := .data } (by simp) rfl
                        obtain ⟨b9, q9, e8, hnew9, hk9, hp9, hb9⟩ := (HI.out.m3 hc2 hli).1
                        have hown : w'.ownsRow (wo.heap.size + 1) 46 2 (v2) rows.length (rows.flatMap RR.cells) := own_heap HRM.out.own fun g hg => hb9.block g (HRM.out.own.lt g hg).2
                        refine wpOp_append_own w' rfl rfl _ _ 42 rfl (wo.heap.size + 1) 46 iR _ 2 40 Tryz.underlying42 HIR.out.1 HIR.out.2.1 HIR.out.2.2.1 HIR.out.2.2.2 rfl (by decide) (v2) rows.length (rows.flatMap RR.cells) (by simp [Act.eval, e1]) hown ⟨b9, 0, none⟩ 1 1 (RR.cells q9) (by simp [Act.eval, e8]) rfl hnew9 (by simp [RR.cells, RR.vs, Value.oneCell']) (by unfold maxLen; omega) (by omega) (by have := hb9.size; have := HNW3.out; omega) ?_
                        intro v' w2 hown2 hgr2 hloc2
                        exact ⟨v', by simp [upd, Act.put], HI.out.app hc2 hli (fun j hj => by cases hj) (HRW.out.heap hgr2.size fun g hg => hgr2.block g (by have := HRW.out.lt; rcases hg with rfl | rfl | rfl <;> omega) (fun e => by have h1 := (HRM.out.own.lt g e.symm).1; have h2 := (HRO.out.own.lt g e.symm).2; rcases hg with rfl | rfl | rfl <;> omega)) (C3.app (W0 := wx) HRM.out HNW3.out hk9 hp9 hb9 hown2 hgr2 hloc2)⟩
                      · obtain rfl := Option.some.inj ho
                        have HP := toHX (HI.out.put (i := 10) (by omega) (fun j hj => by cases hj) HCV.out.2.2.2.2.2.2.2.2.2.2.symm)
                        refine wpOp_hid rfl fun K HK => ?_
                        clear ho HPR HI
                        dsimp only
                        go_simp
                        exact HK.out _ _ ⟨_, by simp [upd], HP.out⟩
                    case finR =>
                      rintro o ho l fq w' hall hI
                      obtain rfl := Option.some.inj ho
                      obtain ⟨ad4, cap4, q4, e9, hRM4, hqp4, hb4⟩ := (hI.m4 (hall 9 (by omega))).1
                      have e10 : fq 10 = Value.pointer (some { block := wo.heap.size, off := 1 }) := (hI.val 10 (.inr rfl) (hall 10 (by omega))).trans HCV.out.2.2.2.2.2.2.2.2.2.2
                      have n1 := hI.rf.n1
                      have fz := hI.rf.fz
                      have HRW := toHX hI.rf
                      rw [e9] at hRM4
                      have HRM4 := toHX hRM4
                      have HQP4 := toHX hqp4
                      have HB4 := toHX hb4
                      clear hRM4 hqp4 hb4 hall
                      refine wpOp_hid rfl fun K HK => ?_
                      simp only [e9, e10]
                      go_simp
                      refine HK.out _ _ ?_
                      clear ho HK K hI HCV e9 e10
                      obtain ⟨y0, hy0⟩ : ∃ y, y = fq 0 := ⟨_, rfl⟩
                      rw [← hy0]
                      obtain ⟨y1, hy1⟩ : ∃ y, y = fq 1 := ⟨_, rfl⟩
                      rw [← hy1]
                      obtain ⟨y2, hy2⟩ : ∃ y, y = fq 2 := ⟨_, rfl⟩
                      rw [← hy2]
                      obtain ⟨y3, hy3⟩ : ∃ y, y = fq 3 := ⟨_, rfl⟩
                      rw [← hy3]
                      obtain ⟨y4, hy4⟩ : ∃ y, y = fq 4 := ⟨_, rfl⟩
                      rw [← hy4]
                      obtain ⟨y5, hy5⟩ : ∃ y, y = fq 5 := ⟨_, rfl⟩
                      rw [← hy5]
                      obtain ⟨y6, hy6⟩ : ∃ y, y = fq 6 := ⟨_, rfl⟩
                      rw [← hy6]
                      obtain ⟨y7, hy7⟩ : ∃ y, y = fq 7 := ⟨_, rfl⟩
                      rw [← hy7]
                      obtain ⟨y8, hy8⟩ : ∃ y, y = fq 8 := ⟨_, rfl⟩
                      rw [← hy8]
                      clear hy0 hy1 hy2 hy3 hy4 hy5 hy6 hy7 hy8 fq l CV
                      have HNX : Hid ((w'.setCell ⟨wo.heap.size, 1, none⟩ (.slice ad4 (rows.length + 1) cap4)).cell? ⟨wo.heap.size, 0, none⟩ = some (.string rs[k].name) ∧ (w'.setCell ⟨wo.heap.size, 1, none⟩ (.slice ad4 (rows.length + 1) cap4)).cell? ⟨wo.heap.size, 1, none⟩ = some (.slice ad4 (rows.length + 1) cap4) ∧ (w'.setCell ⟨wo.heap.size, 1, none⟩ (.slice ad4 (rows.length + 1) cap4)).frozen? ⟨wo.heap.size, 1, none⟩ = false) := ⟨by rw [setO' (by omega)]; exact HRW.out.n0, setS' n1, by simpa using fz⟩
                      have HRX : Hid (RelM (w'.setCell ⟨wo.heap.size, 1, none⟩ (.slice ad4 (rows.length + 1) cap4)) (wo.heap.size + 1) (.slice ad4 (rows.length + 1) cap4) (rows ++ [q4])) := LotM.heap kidR HRM4.out (by simp) fun g hg => Below.heap_setCell _ _ _ g (by have := (LotM.lt kidR HRM4.out hg).1; show g ≠ wo.heap.size; omega)
                      have HQX : Hid (rls (rows ++ [q4]) = ((rls rs[k].rows).take (j + 1)).filter fun r => !keyB typ rel rs[k].name r.name) := by
                        show _ = _
                        have e : (rls rs[k].rows)[j]'(by rw [rls_len]; exact hjt) = rs[k].rows[j].p := by simp [rls]
                        have hke := HKE.out
                        rw [keyB_comm] at hke
                        rw [rls_snoc, HRQ.out, HQP4.out, List.take_succ_eq_append_getElem (by rw [rls_len]; exact hjt), List.filter_append, e]
                        simp [RR.p, hke]
                      have HBX : Hid (Below wo.heap.size W2 (w'.setCell ⟨wo.heap.size, 1, none⟩ (.slice ad4 (rows.length + 1) cap4))) := (((HB3.out.trans (HA3.out.mono (by omega))).trans (HBM.out.mono (by have := HA3.out.size; omega))).trans (HB4.out.mono (by omega))).setCell (by show _ ≤ wo.heap.size; omega) _
                      clear n1 fz HRW HRM4 HB4 HRF HRM HRO HN HR
                      go_wp2_with fail
                      go_roundw
                      case rel => exact ⟨j + 1, .slice ad4 (rows.length + 1) cap4, rows ++ [q4], by omega, by go_num, HNX, HRX, HQX, HJN2, HBX⟩
                      case measure => first | (simp [intOf]; done) | (simp [intOf]; omega)
              · go_wp2_with fail
                rw [← hW3]
                clear hW3 t0 t1 s0 s1 h3
                go_loopw [13] (fun i wr => ∃ m : Nat, m ≤ rs[k].rows[j].rows.length ∧ i = .int .i64 m ∧ Hid (∀ m' (hm : m' < rs[k].rows[j].rows.length), m' < m → ovN (askI (tys rs) typ rel) rs[k].name rs[k].rows[j].name rs[k].rows[j].rows[m'].e = false) ∧ Hid (Below W3.heap.size W3 wr)) (fun i _ => rs[k].rows[j].rows.length - (intOf i).toNat)
                case atStart => exact ⟨0, Nat.zero_le _, rfl, fun _ _ h => absurd h (Nat.not_lt_zero _), Below.refl _ _⟩
                case round =>
                  obtain ⟨m, hm, rfl, HM, HBM⟩ := hrel
                  have HRFM : Hid (RFs wo.heap.size wi.heap.size wo.heap.size v2 rs[k].name rs[k].rows[j].name (.slice rs[k].rows[j].ad rs[k].rows[j].rows.length rs[k].rows[j].cap) wr) := HRF.out.below HBM.out
                  have HBW : Hid (Below w.heap.size w wr) := HBW3.out.trans (HBM.out.mono HBW3.out.size)
                  have r1 := HRFM.out.r1
                  by_cases hmt : m < rs[k].rows[j].rows.length
                  · obtain ⟨b3, off3, hadr3, hrow3, hbl3⟩ := SlE.row HOE.out hmt
                    have HXM : Hid (rs[k].rows[j].rows[m] ∈ rs[k].rows[j].rows) := List.getElem_mem hmt
                    obtain ⟨q0, -, q2, q3, -⟩ := hrow3.same fun o => HBW.out.cell (p := ⟨b3, o, none⟩) hbl3
                    obtain ⟨t0, -⟩ := HTR.out.1.kept HTR.out.2 HBW.out
                    rw [hadr3] at r1
                    have hm1 : (0 : Int) ≤ (m : Int) := by omega
                    have hm2 : (m : Int) < (rs[k].rows[j].rows.length : Int) := by omega
                    have HSTEP : Hid (ovN (askI (tys rs) typ rel) rs[k].name rs[k].rows[j].name rs[k].rows[j].rows[m].e = false → ∀ m' (hm : m' < rs[k].rows[j].rows.length), m' < m + 1 → ovN (askI (tys rs) typ rel) rs[k].name rs[k].rows[j].name rs[k].rows[j].rows[m'].e = false) := fun h m' hm' hl => by
                      by_cases e : m' = m
                      · subst e; exact h
                      · exact HM.out m' hm' (by omega)
                    have HAE : Hid (rs[k].rows[j].rows[m].e.kind = 3 → ovN (askI (tys rs) typ rel) rs[k].name rs[k].rows[j].name rs[k].rows[j].rows[m].e = ((rs[k].rows[j].rows[m].e.name.toList == rel.toList) && inS (goalsP (tys rs) rs[k].name rs[k].rows[j].rows[m].e.over rel) typ)) := fun h => ask_eq HD.out HTM.out HQM.out HXM.out h HKE.out
                    clear hadr3 hrow3
                    by_cases hkind : rs[k].rows[j].rows[m].e.kind = 3
                    · have HAE2 := toHX (HAE.out hkind)
                      cases hnm : (rs[k].rows[j].rows[m].e.name.toList == rel.toList) with
                      | false =>
                        have HM2 := toHX (HSTEP.out (by rw [HAE2.out, hnm]; rfl))
                        go_wp2_with fail
                        go_quiet (fail)
                        have HBE := toHX (belowN HBM.out nq)
                        go_wp2
                        go_roundw
                        case rel => exact ⟨m + 1, by omega, by go_num, HM2, HBE⟩
                        case measure => first | (simp [intOf]; done) | (simp [intOf]; omega)
                      | true =>
                        have y1 : wi.heap.size < wr.heap.size := HRFM.out.lt.2.1
                        have y2 : b < wr.heap.size := Nat.lt_of_lt_of_le HTR.out.2 HBW.out.size
                        have y3 : b3 < wr.heap.size := Nat.lt_of_lt_of_le hbl3 HBW.out.size
                        have HKP : Hid (∀ w1 w3 : World, (w1.cell? ⟨b, off + k * 2, none⟩ = some (.string rs[k].name) ∧ w1.cell? ⟨wi.heap.size, 1, none⟩ = some (.slice (some ⟨b3, off3, none⟩) rs[k].rows[j].rows.length rs[k].rows[j].cap) ∧ w1.cell? ⟨b3, off3 + m * 5, none⟩ = some (.int .i64 3) ∧ w1.cell? ⟨b3, off3 + m * 5 + 2, none⟩ = some (.string rs[k].rows[j].rows[m].e.over) ∧ w1.cell? ⟨b3, off3 + m * 5 + 3, none⟩ = some (.string rs[k].rows[j].rows[m].e.name) ∧ Below wr.heap.size wr w1) → Below w1.heap.size w1 w3 → (w3.cell? ⟨b, off + k * 2, none⟩ = some (.string rs[k].name) ∧ w3.cell? ⟨wi.heap.size, 1, none⟩ = some (.slice (some ⟨b3, off3, none⟩) rs[k].rows[j].rows.length rs[k].rows[j].cap) ∧ w3.cell? ⟨b3, off3 + m * 5, none⟩ = some (.int .i64 3) ∧ w3.cell? ⟨b3, off3 + m * 5 + 2, none⟩ = some (.string rs[k].rows[j].rows[m].e.over) ∧ w3.cell? ⟨b3, off3 + m * 5 + 3, none⟩ = some (.string rs[k].rows[j].rows[m].e.name) ∧ Below wr.heap.size wr w3)) := fun w1 w3 h hb => by
                          obtain ⟨p0, p1, p2, p3, p4, hB⟩ := h
                          have hz := hB.size
                          exact ⟨kept hb (Nat.lt_of_lt_of_le y2 hz) p0, kept hb (Nat.lt_of_lt_of_le y1 hz) p1, kept hb (Nat.lt_of_lt_of_le y3 hz) p2, kept hb (Nat.lt_of_lt_of_le y3 hz) p3, kept hb (Nat.lt_of_lt_of_le y3 hz) p4, hB.trans (hb.mono hz)⟩
                        have HBS : Hid (∀ w1 : World, (w1.cell? ⟨b, off + k * 2, none⟩ = some (.string rs[k].name) ∧ w1.cell? ⟨wi.heap.size, 1, none⟩ = some (.slice (some ⟨b3, off3, none⟩) rs[k].rows[j].rows.length rs[k].rows[j].cap) ∧ w1.cell? ⟨b3, off3 + m * 5, none⟩ = some (.int .i64 3) ∧ w1.cell? ⟨b3, off3 + m * 5 + 2, none⟩ = some (.string rs[k].rows[j].rows[m].e.over) ∧ w1.cell? ⟨b3, off3 + m * 5 + 3, none⟩ = some (.string rs[k].rows[j].rows[m].e.name) ∧ Below wr.heap.size wr w1) → Below w.heap.size w w1) := fun w1 h => HBW.out.trans (h.2.2.2.2.2.mono HBW.out.size)
                        have HGF := toHX (goalsP_few HL.out rs[k].name rs[k].rows[j].rows[m].e.over rel)
                        cases hin : inS (goalsP (tys rs) rs[k].name rs[k].rows[j].rows[m].e.over rel) typ with
                        | false =>
                          have HM2 := toHX (HSTEP.out (by rw [HAE2.out, hnm, hin]; rfl))
                          rw [hkind] at q0
                          go_wp2_with fail
                          go_region_held3 (fun w' => w'.cell? ⟨b, off + k * 2, none⟩ = some (.string rs[k].name) ∧ w'.cell? ⟨wi.heap.size, 1, none⟩ = some (.slice (some ⟨b3, off3, none⟩) rs[k].rows[j].rows.length rs[k].rows[j].cap) ∧ w'.cell? ⟨b3, off3 + m * 5, none⟩ = some (.int .i64 3) ∧ w'.cell? ⟨b3, off3 + m * 5 + 2, none⟩ = some (.string rs[k].rows[j].rows[m].e.over) ∧ w'.cell? ⟨b3, off3 + m * 5 + 3, none⟩ = some (.string rs[k].rows[j].rows[m].e.name) ∧ Below wr.heap.size wr w')
                            (first | assumption | exact HKP.out _ _ (by assumption) hbx | exact ⟨t0, r1, q0, q2, q3, (Below.refl _ _).drew⟩)
                            (first | (go_at_call 46; refine (l2Goals_any _ cap rs rs[k].name rs[k].rows[j].rows[m].e.over rel _ hlen (HS.out.below (HBS.out _ (by assumption))) HL.out).mono ?_; rintro e w' ⟨⟨adg, capg, rfl, hsg, -⟩, hbx⟩) | (go_at_call 45; refine (l7In_any adg capg _ typ _ HGF.out hsg).mono ?_; rintro e w' ⟨rfl, rfl⟩))
                          rename_i hH
                          have HBE : Hid (Below W3.heap.size W3 _) := HBM.out.trans (hH.2.2.2.2.2.mono HBM.out.size)
                          clear hH
                          go_wp2
                          go_roundw
                          case rel => exact ⟨m + 1, by omega, by go_num, HM2, HBE⟩
                          case measure => first | (simp [intOf]; done) | (simp [intOf]; omega)
                        | true =>
                          have HNO2 := toHX (HPN.out (HYES.out _ HTM.out _ HQM.out _ HXM.out (by rw [HAE2.out, hnm, hin]; rfl)))
                          rw [hkind] at q0
                          go_wp2_with fail
                          go_region_held3 (fun w' => w'.cell? ⟨b, off + k * 2, none⟩ = some (.string rs[k].name) ∧ w'.cell? ⟨wi.heap.size, 1, none⟩ = some (.slice (some ⟨b3, off3, none⟩) rs[k].rows[j].rows.length rs[k].rows[j].cap) ∧ w'.cell? ⟨b3, off3 + m * 5, none⟩ = some (.int .i64 3) ∧ w'.cell? ⟨b3, off3 + m * 5 + 2, none⟩ = some (.string rs[k].rows[j].rows[m].e.over) ∧ w'.cell? ⟨b3, off3 + m * 5 + 3, none⟩ = some (.string rs[k].rows[j].rows[m].e.name) ∧ Below wr.heap.size wr w')
                            (first | assumption | exact HKP.out _ _ (by assumption) hbx | exact ⟨t0, r1, q0, q2, q3, (Below.refl _ _).drew⟩)
                            (first | (go_at_call 46; refine (l2Goals_any _ cap rs rs[k].name rs[k].rows[j].rows[m].e.over rel _ hlen (HS.out.below (HBS.out _ (by assumption))) HL.out).mono ?_; rintro e w' ⟨⟨adg, capg, rfl, hsg, -⟩, hbx⟩) | (go_at_call 45; refine (l7In_any adg capg _ typ _ HGF.out hsg).mono ?_; rintro e w' ⟨rfl, rfl⟩))
                          rename_i hH
                          have HBE := toHX (HBS.out _ hH)
                          clear hH
                          go_wp2
                          refine bodyPost_ret (v := .tuple #[.slice none 0 0, .bool false]) ?_ rfl (ansT_none HNO2.out HBE.out)
                          simp [results, Tryz.results15, go_sem]
                    · have HM2 := toHX (HSTEP.out (by unfold ovN; rw [decide_eq_false hkind]; rfl))
                      have hkd : (rs[k].rows[j].rows[m].e.kind == 3) = false := by simpa using hkind
                      have hkd2 : decide (rs[k].rows[j].rows[m].e.kind = 3) = false := decide_eq_false hkind
                      clear hkind
                      go_wp2_with fail
                      go_quiet (fail)
                      have HBE := toHX (belowN HBM.out nq)
                      go_wp2
                      go_roundw
                      case rel => exact ⟨m + 1, by omega, by go_num, HM2, HBE⟩
                      case measure => first | (simp [intOf]; done) | (simp [intOf]; omega)
                  · obtain rfl : m = rs[k].rows[j].rows.length := by omega
                    have HJN2 : Hid (∀ j' (hj : j' < rs[k].rows.length), j' < j + 1 → ∀ x ∈ rs[k].rows[j'].rows, ovN (askI (tys rs) typ rel) rs[k].name rs[k].rows[j'].name x.e = false) := fun j' hj' h x hx => by
                      by_cases e : j' = j
                      · subst e
                        obtain ⟨i, hi, rfl⟩ := List.getElem_of_mem hx
                        exact HM.out i hi hi
                      · exact HJN.out j' hj' (by omega) x hx
                    obtain ⟨wx, hwx⟩ : ∃ wx, wx = wr := ⟨_, rfl⟩
                    subst hwx
                    go_wp2_with fail
                    have HNW3 : Hid (wo.heap.size + 1 ≤ wx.heap.size) := by have := HA3.out.size; have := HBM.out.size; show _ ≤ _; omega
                    have HRO : Hid (RelM wi (wo.heap.size + 1) v2 rows) := HR.out
                    have HBWX : Hid (Below w.heap.size w wx) := HBW.out
                    have HRM2 : Hid (RelM wx (wo.heap.size + 1) v2 rows) := LotM.below kidR HRM.out HBM.out
                    clear HRM HRF
                    have HRM := HRM2
                    have HRF := HRFM
                    obtain ⟨CV, hCV⟩ : ∃ C : Nat → Value, C = fun n => ((Value.pointer (some { block := wo.heap.size, off := 1 })) :: (v2) :: (Value.pointer (some { block := wi.heap.size, off := 0 })) :: (Value.string rs[k].rows[j].name) :: (Value.pointer (some { block := wi.heap.size, off := 1 })) :: (Value.slice rs[k].rows[j].ad rs[k].rows[j].rows.length rs[k].rows[j].cap) :: (undef) :: (undef) :: (undef) :: (undef) :: (Value.pointer (some { block := wo.heap.size, off := 1 })) :: []).getD n undef := ⟨_, rfl⟩
                    have HCV : Hid (CV 0 = Value.pointer (some { block := wo.heap.size, off := 1 }) ∧ CV 1 = v2 ∧ CV 2 = Value.pointer (some { block := wi.heap.size, off := 0 }) ∧ CV 3 = Value.string rs[k].rows[j].name ∧ CV 4 = Value.pointer (some { block := wi.heap.size, off := 1 }) ∧ CV 5 = Value.slice rs[k].rows[j].ad rs[k].rows[j].rows.length rs[k].rows[j].cap ∧ CV 6 = undef ∧ CV 7 = undef ∧ CV 8 = undef ∧ CV 9 = undef ∧ CV 10 = Value.pointer (some { block := wo.heap.size, off := 1 })) := by show _ ∧ _; rw [hCV]; exact ⟨rfl, rfl, rfl, rfl, rfl, rfl, rfl, rfl, rfl, rfl, rfl⟩
                    clear hCV
                    refine wp_region_frame2 11 (fun | 0 => u111 | 1 => u112 | 2 => u113 | 3 => u114 | 4 => u115 | 5 => u116 | 6 => u117 | 7 => u118 | 8 => u119 | 9 => u120 | 10 => u121 | _ => undef) (fun fq => { tmps := List.toArray (Value.slice (some { block := b, off := off }) rs.length cap :: Value.string typ :: Value.string rel :: undef :: undef :: undef :: u6 :: u7 :: u8 :: Value.int IntKind.i64 (k : Int) :: Value.pointer (some { block := wo.heap.size, off := 0 }) :: Value.int IntKind.i64 (j : Int) :: Value.pointer (some { block := wi.heap.size, off := 0 }) :: Value.int IntKind.i64 (rs[k].rows[j].rows.length : Int) :: Value.slice (some { block := b, off := off }) rs.length cap :: Value.bool true :: Value.bool false :: Value.bool false :: Value.slice (some { block := b, off := off }) rs.length cap :: Value.string typ :: Value.string rel :: Value.slice adE rows0.length capE :: Value.int IntKind.i64 (rows0.length : Int) :: Value.bool false :: Value.bool false :: Value.slice (some { block := w1.heap.size, off := 0 }) 0 0 :: Value.int IntKind.i64 (k : Int) :: Value.slice (some { block := b, off := off }) rs.length cap :: Value.int IntKind.i64 (rs.length : Int) :: Value.bool true :: u30 :: u31 :: Value.slice (some { block := b, off := off }) rs.length cap :: Value.int IntKind.i64 (k : Int) :: Value.pointer (some { block := b, off := off + k * 2 }) :: Value.pointer (some { block := b, off := off + k * 2 }) :: Value.string rs[k].name :: Value.agg #[Value.string rs[k].name, Value.slice none 0 0] :: Value.int IntKind.i64 (j : Int) :: Value.slice (some { block := b, off := off }) rs.length cap :: Value.int IntKind.i64 (k : Int) :: Value.pointer (some { block := b, off := off + k * 2 }) :: Value.pointer (some { block := b, off := off + k * 2 + 1 }) :: Value.slice (some { block := b2, off := off2 }) rs[k].rows.length rs[k].cap :: Value.int IntKind.i64 (rs[k].rows.length : Int) :: Value.bool true :: u46 :: u47 :: Value.slice (some { block := b, off := off }) rs.length cap :: Value.int IntKind.i64 (k : Int) :: Value.pointer (some { block := b, off := off + k * 2 }) :: Value.pointer (some { block := b, off := off + k * 2 + 1 }) :: Value.slice (some { block := b2, off := off2 }) rs[k].rows.length rs[k].cap :: Value.int IntKind.i64 (j : Int) :: Value.pointer (some { block := b2, off := off2 + j * 2 }) :: Value.agg #[Value.string rs[k].rows[j].name, Value.slice rs[k].rows[j].ad rs[k].rows[j].rows.length rs[k].rows[j].cap] :: Value.slice (some { block := b, off := off }) rs.length cap :: Value.int IntKind.i64 (k : Int) :: Value.pointer (some { block := b, off := off + k * 2 }) :: Value.pointer (some { block := b, off := off + k * 2 }) :: Value.string rs[k].name :: Value.string typ :: Value.bool false :: Value.bool false :: undef :: undef :: undef :: undef :: Value.bool false :: Value.int IntKind.i64 (rs[k].rows[j].rows.length : Int) :: Value.pointer (some { block := wi.heap.size, off := 1 }) :: Value.slice rs[k].rows[j].ad rs[k].rows[j].rows.length rs[k].rows[j].cap :: Value.int IntKind.i64 (rs[k].rows[j].rows.length : Int) :: Value.bool false :: u74 :: u75 :: u76 :: u77 :: u78 :: u79 :: u80 :: u81 :: u82 :: u83 :: u84 :: u85 :: u86 :: u87 :: u88 :: u89 :: u90 :: u91 :: u92 :: u93 :: u94 :: u95 :: u96 :: u97 :: u98 :: u99 :: u100 :: u101 :: u102 :: u103 :: u104 :: u105 :: u106 :: u107 :: u108 :: u109 :: u110 :: (fq 0) :: (fq 1) :: (fq 2) :: (fq 3) :: (fq 4) :: (fq 5) :: (fq 6) :: (fq 7) :: (fq 8) :: (fq 9) :: (fq 10) :: u122 :: u123 :: u124 :: u125 :: undef :: undef :: undef :: undef :: []), defers := [] }) (G.CH 6 (fun _ => []) CV (RFs wo.heap.size wi.heap.size wo.heap.size (v2) rs[k].name rs[k].rows[j].name (Value.slice rs[k].rows[j].ad rs[k].rows[j].rows.length rs[k].rows[j].cap)) (Below wx.heap.size wx) (C1 wx (exs rs[k].rows[j].rows)) (fun x => .agg #[.string rs[k].rows[j].name, x]) (C3 wx rs[k].rows[j].name (exs rs[k].rows[j].rows)) (C4 wx wo.heap.size rows rs[k].rows[j].name (exs rs[k].rows[j].rows))) (by kernel_rfl) rfl (by kernel_rfl) (fun o ho l fq w' hI hp => ?clR) rfl (G.ch_start (HRF.out.below (Below.refl _ _).drew) (Below.refl _ _).drew) ?stepR ?finR
                    case clR =>
                      obtain rfl := Option.some.inj ho
                      intro k hk
                      have hc : k = 0 ∨ k = 1 ∨ k = 2 ∨ k = 3 ∨ k = 4 ∨ k = 5 ∨ k = 6 ∨ k = 7 ∨ k = 8 ∨ k = 9 ∨ k = 10 := by omega
                      rcases hc with rfl | rfl | rfl | rfl | rfl | rfl | rfl | rfl | rfl | rfl | rfl
                      · exact hp { on := 0, ground := .phase } (by simp) rfl
                      · exact hp { on := 1, ground := .phase } (by simp) rfl
                      · exact hp { on := 2, ground := .phase } (by simp) rfl
                      · exact hp { on := 3, ground := .phase } (by simp) rfl
                      · exact hp { on := 4, ground := .phase } (by simp) rfl
                      · exact hp { on := 5, ground := .phase } (by simp) rfl
                      · exact hp { on := 6, ground := .phase } (by simp) rfl
                      · exact hp { on := 7, ground := .phase } (by simp) rfl
                      · exact hp { on := 8, ground := .phase } (by simp) rfl
                      · exact hp { on := 9, ground := .phase } (by simp) rfl
                      · exact hp { on := 10, ground := .data } (by simp) rfl
                    case stepR =>
                      rintro i hi o ho l fq w' hli hI hpre
                      have HI : Hid (G.CH 6 (fun _ => []) CV (RFs wo.heap.size wi.heap.size wo.heap.size (v2) rs[k].name rs[k].rows[j].name (Value.slice rs[k].rows[j].ad rs[k].rows[j].rows.length rs[k].rows[j].cap)) (Below wx.heap.size wx) (C1 wx (exs rs[k].rows[j].rows)) (fun x => .agg #[.string rs[k].rows[j].name, x]) (C3 wx rs[k].rows[j].name (exs rs[k].rows[j].rows)) (C4 wx wo.heap.size rows rs[k].rows[j].name (exs rs[k].rows[j].rows)) l fq w') := hI
                      have HPR : Hid (∀ e ∈ o.after, Region.binds .any e = true → l e.on = true) := hpre
                      have HRW : Hid (RFs wo.heap.size wi.heap.size wo.heap.size (v2) rs[k].name rs[k].rows[j].name (Value.slice rs[k].rows[j].ad rs[k].rows[j].rows.length rs[k].rows[j].cap) w') := hI.rf
                      clear hI hpre
                      have hc : i = 0 ∨ i = 1 ∨ i = 2 ∨ i = 3 ∨ i = 4 ∨ i = 5 ∨ i = 6 ∨ i = 7 ∨ i = 8 ∨ i = 9 ∨ i = 10 := by omega
                      clear hi
                      rcases hc with rfl | rfl | rfl | rfl | rfl | rfl | rfl | rfl | rfl | rfl | rfl
                      · obtain rfl := Option.some.inj ho
                        have HP := toHX (HI.out.put (i := 0) (by omega) (fun j hj => by cases hj) HCV.out.1.symm)
                        refine wpOp_hid rfl fun K HK => ?_
                        clear ho HPR HI
                        dsimp only
                        go_simp
                        exact HK.out _ _ ⟨_, by simp [upd], HP.out⟩
                      · obtain rfl := Option.some.inj ho
                        have e0 : fq 0 = Value.pointer (some { block := wo.heap.size, off := 1 }) := (HI.out.val 0 (by omega) (HPR.out { on := 0, ground := .data } (by simp) rfl)).trans HCV.out.1
                        have x1 := HRW.out.n1
                        have HP := toHX (HI.out.put (i := 1) (by omega) (fun j hj => by cases hj) HCV.out.2.1.symm)
                        refine wpOp_hid rfl fun K HK => ?_
                        clear ho HPR HI
                        simp only [e0]
                        go_simp
                        exact HK.out _ _ ⟨_, by simp [upd, e0], HP.out⟩
                      · obtain rfl := Option.some.inj ho
                        have HP := toHX (HI.out.put (i := 2) (by omega) (fun j hj => by cases hj) HCV.out.2.2.1.symm)
                        refine wpOp_hid rfl fun K HK => ?_
                        clear ho HPR HI
                        dsimp only
                        go_simp
                        exact HK.out _ _ ⟨_, by simp [upd], HP.out⟩
                      · obtain rfl := Option.some.inj ho
                        have e2 : fq 2 = Value.pointer (some { block := wi.heap.size, off := 0 }) := (HI.out.val 2 (by omega) (HPR.out { on := 2, ground := .data } (by simp) rfl)).trans HCV.out.2.2.1
                        have x1 := HRW.out.r0
                        have HP := toHX (HI.out.put (i := 3) (by omega) (fun j hj => by cases hj) HCV.out.2.2.2.1.symm)
                        refine wpOp_hid rfl fun K HK => ?_
                        clear ho HPR HI
                        simp only [e2]
                        go_simp
                        exact HK.out _ _ ⟨_, by simp [upd, e2], HP.out⟩
                      · obtain rfl := Option.some.inj ho
                        have HP := toHX (HI.out.put (i := 4) (by omega) (fun j hj => by cases hj) HCV.out.2.2.2.2.1.symm)
                        refine wpOp_hid rfl fun K HK => ?_
                        clear ho HPR HI
                        dsimp only
                        go_simp
                        exact HK.out _ _ ⟨_, by simp [upd], HP.out⟩
                      · obtain rfl := Option.some.inj ho
                        have e4 : fq 4 = Value.pointer (some { block := wi.heap.size, off := 1 }) := (HI.out.val 4 (by omega) (HPR.out { on := 4, ground := .data } (by simp) rfl)).trans HCV.out.2.2.2.2.1
                        have x1 := HRW.out.r1
                        have HP := toHX (HI.out.put (i := 5) (by omega) (fun j hj => by cases hj) HCV.out.2.2.2.2.2.1.symm)
                        refine wpOp_hid rfl fun K HK => ?_
                        clear ho HPR HI
                        simp only [e4]
                        go_simp
                        exact HK.out _ _ ⟨_, by simp [upd, e4], HP.out⟩
                      · obtain rfl := Option.some.inj ho
                        have e5 : fq 5 = Value.slice rs[k].rows[j].ad rs[k].rows[j].rows.length rs[k].rows[j].cap := (HI.out.val 5 (by omega) (HPR.out { on := 5, ground := .data } (by simp) rfl)).trans HCV.out.2.2.2.2.2.1
                        have HM0 := toHX (HI.out.m0 hli).1
                        refine wpOp_hid rfl fun K HK => ?_
                        clear ho HPR
                        simp only [e5]
                        go_simp
                        refine (l2CopyExpr_n _ _ rs[k].rows[j].rows w' hej (HOE.out.below (HBWX.out.trans (HM0.out.mono HBWX.out.size))) (((HL.out _ HTM.out).2 _ HQM.out).2) (HZ.out _ HTM.out _ HQM.out)).mono ?_
                        rintro e w9 ⟨v9, qs9, rfl, hn9, he9, hb9⟩
                        obtain ⟨ad9, cap9, rfl⟩ := own_slice hn9.own
                        have HP := toHX (HI.out.call hli (fun j hj => by cases hj) (HRW.out.below hb9) (show C1 wx (exs rs[k].rows[j].rows) (.slice ad9 qs9.length cap9) w9 from ⟨ad9, cap9, qs9, rfl, NodM.mono hn9 HM0.out.size, he9, HM0.out.trans (hb9.mono HM0.out.size)⟩))
                        clear hn9 he9 hb9 HI HRW HM0
                        go_wp2_with fail
                        exact HK.out _ _ ⟨_, by simp [upd, e5], HP.out⟩
                      · obtain rfl := Option.some.inj ho
                        have e3 : fq 3 = Value.string rs[k].rows[j].name := (HI.out.val 3 (by omega) (HPR.out { on := 3, ground := .data } (by simp) rfl)).trans HCV.out.2.2.2.1
                        have hc0 := HPR.out { on := 6, ground := .data } (by simp) rfl
                        obtain ⟨ad9, cap9, qs9, e6, -⟩ := (HI.out.m1 hc0 hli).1
                        have HP := toHX (HI.out.build hc0 hli (fun j hj => by cases hj) (v := .agg #[.string rs[k].rows[j].name, .slice ad9 qs9.length cap9]) (by rw [e6]))
                        refine wpOp_hid rfl fun K HK => ?_
                        clear ho HPR HI
                        simp only [e3, e6]
                        go_simp
                        exact HK.out _ _ ⟨_, by simp [upd, e3, e6], HP.out⟩
                      · obtain rfl := Option.some.inj ho
                        have hc1 := HPR.out { on := 7, ground := .data } (by simp) rfl
                        obtain ⟨eB, hM1, -, -⟩ := HI.out.m2 hc1 hli
                        have HC1 := toHX hM1
                        obtain ⟨ad9, cap9, qs9, e6, -⟩ := hM1
                        replace eB : fq 7 = .agg #[.string rs[k].rows[j].name, .slice ad9 qs9.length cap9] := by rw [eB, e6]
                        rw [e6] at HC1
                        have HP := toHX (HI.out.lay hc1 hli (fun j hj => by cases hj) (HRW.out.below ((Below.refl _ _).alloc (Nat.le_refl _) _)) (C1.lay (rn := rs[k].rows[j].name) HC1.out))
                        refine wpOp_hid rfl fun K HK => ?_
                        clear ho HPR HI HC1
                        simp only [eB]
                        go_simp
                        exact HK.out _ _ ⟨_, by simp [upd, eB, e6], HP.out⟩
                      · obtain rfl := Option.some.inj ho
                        have e1 : fq 1 = v2 := (HI.out.val 1 (by omega) (HPR.out { on := 1, ground := .data } (by simp) rfl)).trans HCV.out.2.1
                        have hc2 := HPR.out { on := 8, ground := .data } (by simp) rfl
                        obtain ⟨b9, q9, e8, hnew9, hk9, hp9, hb9⟩ := (HI.out.m3 hc2 hli).1
                        have hown : w'.ownsRow (wo.heap.size + 1) 46 2 (v2) rows.length (rows.flatMap RR.cells) := own_heap HRM.out.own fun g hg => hb9.block g (HRM.out.own.lt g hg).2
                        refine wpOp_append_own w' rfl rfl _ _ 42 rfl (wo.heap.size + 1) 46 iR _ 2 40 Tryz.underlying42 HIR.out.1 HIR.out.2.1 HIR.out.2.2.1 HIR.out.2.2.2 rfl (by decide) (v2) rows.length (rows.flatMap RR.cells) (by simp [Act.eval, e1]) hown ⟨b9, 0, none⟩ 1 1 (RR.cells q9) (by simp [Act.eval, e8]) rfl hnew9 (by simp [RR.cells, RR.vs, Value.oneCell']) (by unfold maxLen; omega) (by omega) (by have := hb9.size; have := HNW3.out; omega) ?_
                        intro v' w2 hown2 hgr2 hloc2
                        exact ⟨v', by simp [upd, Act.put], HI.out.app hc2 hli (fun j hj => by cases hj) (HRW.out.heap hgr2.size fun g hg => hgr2.block g (by have := HRW.out.lt; rcases hg with rfl | rfl | rfl <;> omega) (fun e => by have h1 := (HRM.out.own.lt g e.symm).1; have h2 := (HRO.out.own.lt g e.symm).2; rcases hg with rfl | rfl | rfl <;> omega)) (C3.app (W0 := wx) HRM.out HNW3.out hk9 hp9 hb9 hown2 hgr2 hloc2)⟩
                      · obtain rfl := Option.some.inj ho
                        have HP := toHX (HI.out.put (i := 10) (by omega) (fun j hj => by cases hj) HCV.out.2.2.2.2.2.2.2.2.2.2.symm)
                        refine wpOp_hid rfl fun K HK => ?_
                        clear ho HPR HI
                        dsimp only
                        go_simp
                        exact HK.out _ _ ⟨_, by simp [upd], HP.out⟩
                    case finR =>
                      rintro o ho l fq w' hall hI
                      obtain rfl := Option.some.inj ho
                      obtain ⟨ad4, cap4, q4, e9, hRM4, hqp4, hb4⟩ := (hI.m4 (hall 9 (by omega))).1
                      have e10 : fq 10 = Value.pointer (some { block := wo.heap.size, off := 1 }) := (hI.val 10 (.inr rfl) (hall 10 (by omega))).trans HCV.out.2.2.2.2.2.2.2.2.2.2
                      have n1 := hI.rf.n1
                      have fz := hI.rf.fz
                      have HRW := toHX hI.rf
                      rw [e9] at hRM4
                      have HRM4 := toHX hRM4
                      have HQP4 := toHX hqp4
                      have HB4 := toHX hb4
                      clear hRM4 hqp4 hb4 hall
                      refine wpOp_hid rfl fun K HK => ?_
                      simp only [e9, e10]
                      go_simp
                      refine HK.out _ _ ?_
                      clear ho HK K hI HCV e9 e10
                      obtain ⟨y0, hy0⟩ : ∃ y, y = fq 0 := ⟨_, rfl⟩
                      rw [← hy0]
                      obtain ⟨y1, hy1⟩ : ∃ y, y = fq 1 := ⟨_, rfl⟩
                      rw [← hy1]
                      obtain ⟨y2, hy2⟩ : ∃ y, y = fq 2 := ⟨_, rfl⟩
                      rw [← hy2]
                      obtain ⟨y3, hy3⟩ : ∃ y, y = fq 3 := ⟨_, rfl⟩
                      rw [← hy3]
                      obtain ⟨y4, hy4⟩ : ∃ y, y = fq 4 := ⟨_, rfl⟩
                      rw [← hy4]
                      obtain ⟨y5, hy5⟩ : ∃ y, y = fq 5 := ⟨_, rfl⟩
                      rw [← hy5]
                      obtain ⟨y6, hy6⟩ : ∃ y, y = fq 6 := ⟨_, rfl⟩
                      rw [← hy6]
                      obtain ⟨y7, hy7⟩ : ∃ y, y = fq 7 := ⟨_, rfl⟩
                      rw [← hy7]
                      obtain ⟨y8, hy8⟩ : ∃ y, y = fq 8 := ⟨_, rfl⟩
                      rw [← hy8]
                      clear hy0 hy1 hy2 hy3 hy4 hy5 hy6 hy7 hy8 fq l CV
                      have HNX : Hid ((w'.setCell ⟨wo.heap.size, 1, none⟩ (.slice ad4 (rows.length + 1) cap4)).cell? ⟨wo.heap.size, 0, none⟩ = some (.string rs[k].name) ∧ (w'.setCell ⟨wo.heap.size, 1, none⟩ (.slice ad4 (rows.length + 1) cap4)).cell? ⟨wo.heap.size, 1, none⟩ = some (.slice ad4 (rows.length + 1) cap4) ∧ (w'.setCell ⟨wo.heap.size, 1, none⟩ (.slice ad4 (rows.length + 1) cap4)).frozen? ⟨wo.heap.size, 1, none⟩ = false) := ⟨by rw [setO' (by omega)]; exact HRW.out.n0, setS' n1, by simpa using fz⟩
                      have HRX : Hid (RelM (w'.setCell ⟨wo.heap.size, 1, none⟩ (.slice ad4 (rows.length + 1) cap4)) (wo.heap.size + 1) (.slice ad4 (rows.length + 1) cap4) (rows ++ [q4])) := LotM.heap kidR HRM4.out (by simp) fun g hg => Below.heap_setCell _ _ _ g (by have := (LotM.lt kidR HRM4.out hg).1; show g ≠ wo.heap.size; omega)
                      have HQX : Hid (rls (rows ++ [q4]) = ((rls rs[k].rows).take (j + 1)).filter fun r => !keyB typ rel rs[k].name r.name) := by
                        show _ = _
                        have e : (rls rs[k].rows)[j]'(by rw [rls_len]; exact hjt) = rs[k].rows[j].p := by simp [rls]
                        have hke := HKE.out
                        rw [keyB_comm] at hke
                        rw [rls_snoc, HRQ.out, HQP4.out, List.take_succ_eq_append_getElem (by rw [rls_len]; exact hjt), List.filter_append, e]
                        simp [RR.p, hke]
                      have HBX : Hid (Below wo.heap.size W2 (w'.setCell ⟨wo.heap.size, 1, none⟩ (.slice ad4 (rows.length + 1) cap4))) := (((HB3.out.trans (HA3.out.mono (by omega))).trans (HBM.out.mono (by have := HA3.out.size; omega))).trans (HB4.out.mono (by omega))).setCell (by show _ ≤ wo.heap.size; omega) _
                      clear n1 fz HRW HRM4 HB4 HRF HRM HRO HN HR
                      go_wp2_with fail
                      go_roundw
                      case rel => exact ⟨j + 1, .slice ad4 (rows.length + 1) cap4, rows ++ [q4], by omega, by go_num, HNX, HRX, HQX, HJN2, HBX⟩
                      case measure => first | (simp [intOf]; done) | (simp [intOf]; omega)
          · obtain rfl : j = rs[k].rows.length := by omega
            have HKN2 : Hid (∀ k' (hk : k' < rs.length), k' < k + 1 → ∀ q ∈ rs[k'].rows, ∀ x ∈ q.rows, ovN (askI (tys rs) typ rel) rs[k'].name q.name x.e = false) := fun k' hk' h q hq x hx => by
              by_cases e : k' = k
              · subst e
                obtain ⟨i, hi, rfl⟩ := List.getElem_of_mem hq
                exact HJN.out i hi hi x hx
              · exact HKN.out k' hk' (by omega) q hq x hx
            have hown2 := HR.out.own
            obtain ⟨ad2, cap2, rfl⟩ := own_slice hown2
            obtain ⟨q, hq⟩ : ∃ q : TR, q = ⟨rs[k].name, rows, ad2, cap2⟩ := ⟨_, rfl⟩
            have HQP : Hid (q.p = cutR typ rel rs[k].p) := by
              show _ = _
              rw [hq]
              have e := HRQ.out
              rw [List.take_of_length_le (by rw [rls_len]; exact Nat.le_refl _)] at e
              simp [TR.p, cutR, e]
            obtain ⟨W4, hW4⟩ : ∃ W4, W4 = wi.alloc (.cells #[.string rs[k].name, .slice ad2 rows.length cap2] 44) := ⟨_, rfl⟩
            have HA4 : Hid (Below wi.heap.size wi W4) := by show Below _ _ _; rw [hW4]; exact (Below.refl _ _).alloc (Nat.le_refl _) _
            have HBO4 : Hid (Below wo.heap.size wo W4) := HBO.out.trans (HA4.out.mono HBO.out.size)
            have HNW : Hid (∀ j u, (TR.cells q)[j]? = some u → W4.cell? ((⟨wi.heap.size, 0, none⟩ : Addr).add j) = some u) := by rw [hW4, hq]; exact cells2_new wi _ _ _
            have HKQ : Hid (kT W4 (wo.heap.size + 1) q) := by rw [hq]; exact LotM.below kidR HR.out HA4.out
            have HOW4 : Hid (W4.ownsRow w.heap.size 44 2 u8 qs.length (qs.flatMap TR.cells)) := own_heap HX.out.own fun g hg => HBO4.out.block g (HX.out.own.lt g hg).2
            have HWW : Hid (w.heap.size ≤ wo.heap.size) := HB.out.size
            obtain ⟨n0, n1, -⟩ := HN.out
            clear hq hown2
            go_wp2_with (at_builtin; go_must (rw [← hW4]; clear hW4; refine wpList_append_own_at _ rfl _ _ 24 rfl w.heap.size 44 iT (.agg #[.string ⟨#[]⟩, .slice none 0 0]) 2 40 Tryz.underlying24 HIT.out.1 HIT.out.2.1 HIT.out.2.2.1 HIT.out.2.2.2 rfl (by decide) u8 qs.length (qs.flatMap TR.cells) rfl HOW4.out ⟨wi.heap.size, 0, none⟩ 1 1 (TR.cells q) rfl rfl HNW.out (by simp [TR.cells, TR.vs, Value.oneCell']) (by unfold maxLen; omega) (by omega) (Nat.le_trans HWW.out HBO4.out.size) ?_))
            intro v5 w5 hown5 hgr5 _ hv5
            have HX5 : Hid (TypM w5 w.heap.size v5 (qs ++ [q])) := LotM.snocN kidT HX.out HBO4.out hown5 hgr5 (hv5.imp id fun e => ⟨_, e, Nat.le_refl _⟩) (RelM.mono HKQ.out (by have := HWW.out; omega)) (fun g hg => by have := (kidT.lt W4 _ q HKQ.out g hg).1; omega)
            have HQ5 : Hid (tys (qs ++ [q]) = (cutP typ rel (tys rs)).take (k + 1)) := by
              show _ = _
              rw [tys_snoc, HQ.out, HQP.out, List.take_succ_eq_append_getElem (by simp [cutP, tys_len]; exact hlt)]
              simp [cutP, tys]
            have HB5 : Hid (Below w.heap.size w w5) := (HB.out.trans (HBO4.out.mono HB.out.size)).grown hgr5 (Nat.le_trans HWW.out HBO4.out.size) (fun g hg => (HX.out.own.lt g hg).1)
            clear hown5 hgr5 hv5 n0 n1 t0 t1 HOW4 HNW HKQ HN HR
            go_wp2
            go_roundw
            case rel => exact ⟨k + 1, qs ++ [q], by omega, by go_num, HX5, HQ5, HKN2, HB5⟩
            case measure => first | (simp [intOf]; done) | (simp [intOf]; omega)
      · obtain rfl : k = rs.length := by omega
        have HTQ : Hid (tys qs = cutP typ rel (tys rs)) := by
          show _ = _
          rw [HQ.out, List.take_of_length_le (by simp [cutP, tys_len])]
        have HPD2 := toHX (HPD.out (HNO.out fun k' hk' => HKN.out k' hk' hk'))
        obtain ⟨adO, capO, rfl, hso, -⟩ := TypM.read HX.out
        have HSO := toHX hso
        have HLO := toHX (cut_light HTQ.out HL.out)
        have HFO := toHX (cut_fits HTQ.out HFT.out)
        clear hso
        go_wp2_with fail
        refine (specSchemaOk_any adO capO qs _ (by omega) HSO.out HLO.out HFO.out).mono ?_
        rintro e wD ⟨rfl, hbD⟩
        have HBD : Hid (Below w.heap.size w wD) := HB.out.trans (hbD.mono HB.out.size)
        have HTD : Hid (TypM wD w.heap.size (.slice adO qs.length capO) qs) := LotM.below kidT HX.out hbD
        clear hbD
        cases hd2 : schemaD (tys qs) with
        | false =>
          have HN : Hid (prunD (tys rs) typ rel = none) := by show _ = _; rw [HPD2.out, ← HTQ.out, hd2]; rfl
          clear hd2
          go_wp2
          refine bodyPost_ret (v := .tuple #[.slice none 0 0, .bool false]) ?_ rfl (ansT_none HN.out HBD.out)
          simp [results, Tryz.results15, go_sem]
        | true =>
          have HN : Hid (prunD (tys rs) typ rel = some (tys qs)) := by show _ = _; rw [HPD2.out, ← HTQ.out, hd2]; rfl
          clear hd2
          go_wp2
          refine bodyPost_ret (v := .tuple #[.slice adO qs.length capO, .bool true]) ?_ rfl ⟨.slice adO qs.length capO, qs, by rw [HN.out]; rfl, by rw [HN.out]; rfl, HTD.out, HBD.out⟩
          simp [results, Tryz.results15, go_sem]
end Go.Proofs.YtmghabcaakgjiaaGreat
