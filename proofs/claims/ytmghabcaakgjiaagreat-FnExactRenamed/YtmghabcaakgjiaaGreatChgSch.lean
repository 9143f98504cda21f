/- Contract of the program's changedSchema: a schema in new memory, its leaves as a function tells. -/
import Derived.Test.YtmghabcaakgjiaaGreatChgEx
import Derived.Test.YtmghabcaakgjiaaGreatJ15
import Derived.Deep.DeepMust
namespace Go.Proofs.YtmghabcaakgjiaaGreat
set_option maxRecDepth 100000
set_option linter.unusedVariables false
open Go.ChangeShapes Go.WideShapes Go.ChangeAt Go.RowKit Go.Maps
open Pl
theorem LeafC.mono {FC : Nat} {rc cp : Array Value} {typ : ByteArray} {f : Ex → List Ex} {w w' : World} {r : ER} (h : LeafC FC rc cp typ f w r) (hb : Below w.heap.size w w') : LeafC FC rc cp typ f w' r := fun w1 h1 => (h w1 (hb.trans (h1.mono hb.size))).mono fun e w2 ⟨ad', cap', ms, e1, e2, e3, e4⟩ => ⟨ad', cap', ms, e1, e2, e3, fun w3 h3 h4 => e4 w3 h3 fun g h5 h6 => h4 g h5 (h6.imp (fun h => Nat.lt_of_lt_of_le h hb.size) id)⟩
theorem LotM.mono {α : Type} {T : TypeId} {size : Nat} {cells : α → List Value} {K : World → Nat → α → Prop} {I : α → Nat → Prop} {w : World} {base base' : Nat} {v : Value} {rs : List α} (h : LotM T size cells K I w base v rs) (hb : base' ≤ base) (hk : ∀ q, K w base q → K w base' q) : LotM T size cells K I w base' v rs :=
 ⟨⟨h.own.1, by
  rcases h.own.2 with hl | ⟨g, cap, cur, e, h1, h2⟩
  ·exact .inl hl
  ·exact .inr ⟨g, cap, cur, e, Nat.le_trans hb h1, h2⟩⟩, fun q hq => hk q (h.kid q hq), h.head, h.two⟩
theorem RelM.mono {w : World} {base base' : Nat} {v : Value} {rs : List RR} (h : RelM w base v rs) (hb : base' ≤ base) : RelM w base' v rs := LotM.mono h hb fun q hq => NodM.mono hq hb
theorem rls_snoc (xs : List RR) (y : RR) : rls (xs ++ [y]) = rls xs ++ [y.p] := by simp [rls]
theorem tys_snoc (xs : List TR) (y : TR) : tys (xs ++ [y]) = tys xs ++ [y.p] := by simp [tys]
theorem cells2_new (w : World) (a b : Value) (T : TypeId) : ∀ j u, [a, b][j]? = some u → (w.alloc (.cells #[a, b] T)).cell? ((⟨w.heap.size, 0, none⟩ : Addr).add j) = some u := by
 intro j u hu
 rw [show (⟨w.heap.size, 0, none⟩ : Addr).add j = ⟨w.heap.size, 0 + j, none⟩ by simp [Addr.add]; omega, Nat.zero_add]
 rw [World.cell?_alloc_mark w #[a, b] T (0, 0) j]
 simpa using hu
structure SmallS (f : ByteArray → Ex → List Ex) (rs : List TR) : Prop where
 n6 : rs.length ≤ 6
 r6 : ∀ t ∈ rs, t.rows.length ≤ 6
 e15 : ∀ t ∈ rs, ∀ q ∈ t.rows, q.rows.length ≤ 15
 low : ∀ t ∈ rs, ∀ q ∈ t.rows, kidsLow (exs q.rows)
 lb : ∀ t ∈ rs, ∀ q ∈ t.rows, ∀ x ∈ q.rows, LeafB (f t.name) x.e
 light : ∀ t ∈ rs, ∀ q ∈ t.rows, ∀ x ∈ q.rows, x.e.light
structure RFs (N R T : Nat) (v2 : Value) (tn rn : ByteArray) (ex : Value) (w : World) : Prop where
 n0 : w.cell? ⟨N, 0, none⟩ = some (.string tn)
 n1 : w.cell? ⟨N, 1, none⟩ = some v2
 fz : w.frozen? ⟨N, 1, none⟩ = false
 r0 : w.cell? ⟨R, 0, none⟩ = some (.string rn)
 r1 : w.cell? ⟨R, 1, none⟩ = some ex
 t0 : w.cell? ⟨T, 0, none⟩ = some (.string tn)
 lt : N < w.heap.size ∧ R < w.heap.size ∧ T < w.heap.size
theorem RFs.heap {N R T : Nat} {v2 : Value} {tn rn : ByteArray} {ex : Value} {w w' : World} (h : RFs N R T v2 tn rn ex w) (hs : w.heap.size ≤ w'.heap.size) (hb : ∀ g, g = N ∨ g = R ∨ g = T → w'.heap[g]? = w.heap[g]?) : RFs N R T v2 tn rn ex w' :=
 ⟨(World.cell?_of_block (a := ⟨N, 0, none⟩) (hb N (.inl rfl))).trans h.n0, (World.cell?_of_block (a := ⟨N, 1, none⟩) (hb N (.inl rfl))).trans h.n1, (World.frozen?_of_block (a := ⟨N, 1, none⟩) (hb N (.inl rfl))).trans h.fz, (World.cell?_of_block (a := ⟨R, 0, none⟩) (hb R (.inr (.inl rfl)))).trans h.r0, (World.cell?_of_block (a := ⟨R, 1, none⟩) (hb R (.inr (.inl rfl)))).trans h.r1, (World.cell?_of_block (a := ⟨T, 0, none⟩) (hb T (.inr (.inr rfl)))).trans h.t0, by have := h.lt; omega⟩
theorem RFs.below {N R T : Nat} {v2 : Value} {tn rn : ByteArray} {ex : Value} {w w' : World} (h : RFs N R T v2 tn rn ex w) (hb : Below w.heap.size w w') : RFs N R T v2 tn rn ex w' :=
 h.heap hb.size fun g hg => hb.block g (by have := h.lt; rcases hg with rfl | rfl | rfl <;> omega)
def C1 (W : World) (E : List Ex) (x : Value) (w : World) : Prop := ∃ (ad : Option Addr) (cap : Nat) (qs : List ER), x = .slice ad qs.length cap ∧ NodM w W.heap.size x qs ∧ exs qs = E ∧ Below W.heap.size W w
def C3 (W : World) (rn : ByteArray) (E : List Ex) (u : Value) (w : World) : Prop := ∃ (b : Nat) (q : RR), u = .slice (some ⟨b, 0, none⟩) 1 1 ∧ (∀ j y, (RR.cells q)[j]? = some y → w.cell? ((⟨b, 0, none⟩ : Addr).add j) = some y) ∧ kR w W.heap.size q ∧ q.p = ⟨rn, E⟩ ∧ Below W.heap.size W w
def C4 (W : World) (N : Nat) (rows : List RR) (rn : ByteArray) (E : List Ex) (u : Value) (w : World) : Prop := ∃ (ad : Option Addr) (cap : Nat) (q : RR), u = .slice ad (rows.length + 1) cap ∧ RelM w (N + 1) u (rows ++ [q]) ∧ q.p = ⟨rn, E⟩ ∧ Below (N + 1) W w
theorem C1.lay {W w : World} {rn : ByteArray} {E : List Ex} {x : Value} (h : C1 W E x w) : C3 W rn E (.slice (some ⟨w.heap.size, 0, none⟩) 1 1) (w.alloc (.cells #[.string rn, x] 46)) := by
 obtain ⟨ad, cap, qs, rfl, hn, he, hb⟩ := h
 have hA : Below w.heap.size w (w.alloc (.cells #[.string rn, .slice ad qs.length cap] 46)) := (Below.refl _ _).alloc (Nat.le_refl _) _
 exact ⟨w.heap.size, ⟨rn, qs, ad, cap⟩, rfl, cells2_new w _ _ _, ExM.nod (hn.ex.below kidE hA), by simp [RR.p, he], hb.trans (hA.mono hb.size)⟩
theorem C3.app {W0 W w w' : World} {N : Nat} {rows : List RR} {rn : ByteArray} {E : List Ex} {v2 v' : Value} {q : RR} (h0 : RelM W (N + 1) v2 rows) (hN : N + 1 ≤ W.heap.size) (hq : kR w W.heap.size q) (hp : q.p = ⟨rn, E⟩) (hb : Below W.heap.size W w) (hown : w'.ownsRow (N + 1) 46 2 v' (rows.length + 1) (rows.flatMap RR.cells ++ RR.cells q)) (hg : w.grownBy w' v2.ownBlock) (hat : v'.ownBlock = v2.ownBlock ∨ v'.ownBlock = some w.heap.size) : C4 W N rows rn E v' w' := by
 have h1 : RelM w' (N + 1) v' (rows ++ [q]) := LotM.snocN kidR h0 hb hown hg (hat.imp id fun e => ⟨_, e, Nat.le_refl _⟩) (NodM.mono hq hN) (fun g hi => (kidR.lt w W.heap.size q hq g hi).1)
 obtain ⟨ad, cap, rfl⟩ := own_slice hown
 exact ⟨ad, cap, q, rfl, h1, hp, (hb.mono hN).grown hg (Nat.le_trans hN hb.size) (fun g hg => (h0.own.lt g hg).1)⟩
set_option maxHeartbeats 16000000 in
theorem changedSchema_any (FC : Nat) (rc cp : Array Value) (f : ByteArray → Ex → List Ex) (ad : Option Addr) (cap : Nat) (rs : List TR) (w : World) (hs : SlT w ad rs) (hsm : SmallS f rs)
  (hrun : ∀ (xs : Array Value) (u : World), (callFunc FC xs).run Tryz.prog u = .ok (.enter FC xs) u) (hch : ∀ t ∈ rs, ∀ q ∈ t.rows, ∀ x ∈ q.rows, x.e.kids = [] → LeafC FC rc cp t.name (f t.name) w x) :
  Calls Tryz.prog 31 #[.slice ad rs.length cap, .func (Fn.func FC) rc cp] w fun e w' => ∃ (v : Value) (qs : List TR), e = .returned v ∧ TypM w' w.heap.size v qs ∧ tys qs = chgS f (tys rs) ∧ Below w.heap.size w w' := by
 obtain ⟨iR, hiR, zR0, zR1, zR2⟩ := info_parts (P := Tryz.prog) (e := 46) (z := .agg #[.string ⟨#[]⟩, .slice none 0 0]) (size := 2) (bytes := 40) (by kernel_rfl)
 obtain ⟨iT, hiT, zT0, zT1, zT2⟩ := info_parts (P := Tryz.prog) (e := 44) (z := .agg #[.string ⟨#[]⟩, .slice none 0 0]) (size := 2) (bytes := 40) (by kernel_rfl)
 have HIR : Hid (Tryz.prog.info? 46 = some iR ∧ iR.zero = some (.agg #[.string ⟨#[]⟩, .slice none 0 0]) ∧ iR.size = 2 ∧ iR.bytes = 40) := ⟨hiR, zR0, zR1, zR2⟩
 have HIT : Hid (Tryz.prog.info? 44 = some iT ∧ iT.zero = some (.agg #[.string ⟨#[]⟩, .slice none 0 0]) ∧ iT.size = 2 ∧ iT.bytes = 40) := ⟨hiT, zT0, zT1, zT2⟩
 have HS : Hid (SlT w ad rs) := hs
 have HSM : Hid (SmallS f rs) := hsm
 have HRUN : Hid (∀ (xs : Array Value) (u : World), (callFunc FC xs).run Tryz.prog u = .ok (.enter FC xs) u) := hrun
 have HCH : Hid (∀ t ∈ rs, ∀ q ∈ t.rows, ∀ x ∈ q.rows, x.e.kids = [] → LeafC FC rc cp t.name (f t.name) w x) := hch
 have hn6 := hsm.n6
 clear hs hsm hrun hch hiR zR0 zR1 zR2 hiT zT0 zT1 zT2
 go_enter Tryz.func31, Tryz.ntmps31
 go_wp2_with fail
 go_loopw [5, 13] (fun v i wr => ∃ (k : Nat) (qs : List TR), k ≤ rs.length ∧ i = .int .i64 k ∧ Hid (TypM wr w.heap.size v qs) ∧ Hid (tys qs = (chgS f (tys rs)).take k) ∧ Hid (Below w.heap.size w wr)) (fun _ i _ => rs.length - (intOf i).toNat)
 case atStart => exact ⟨0, [], Nat.zero_le _, rfl, lotM_nil _ _, by show _ = _; simp [tys], Below.refl _ _⟩
 case round =>
  obtain ⟨k, qs, hk, rfl, HX, HQ, HB⟩ := hrel
  obtain ⟨wo, hwo⟩ : ∃ wo, wo = wr := ⟨_, rfl⟩
  subst hwo
  have HQL : Hid (qs.length = k) := by
   show _ = _
   rw [← tys_len, HQ.out, List.length_take]; simp [chgS, tys_len]; omega
  have hql6 : qs.length ≤ 6 := by rw [HQL.out]; omega
  by_cases hlt : k < rs.length
  ·rcases HS.out.below HB.out with hnil | ⟨b, off, hadr, hb, hr, hok⟩
   ·rw [hnil] at hlt; simp at hlt
   obtain ⟨t0, t1⟩ := hr k hlt
   have HTM : Hid (rs[k] ∈ rs) := List.getElem_mem hlt
   have HOK : Hid (rs[k].ok wo) := hok rs[k] (List.getElem_mem hlt)
   have hr6 : rs[k].rows.length ≤ 6 := HSM.out.r6 _ (List.getElem_mem hlt)
   have hk1 : (0 : Int) ≤ (k : Int) := by omega
   have hk2 : (k : Int) < (rs.length : Int) := by omega
   obtain ⟨W2, hW2⟩ : ∃ W2, W2 = (wo.alloc (.cells #[.string rs[k].name, .slice rs[k].ad rs[k].rows.length rs[k].cap] 44)).alloc (.cells #[.string rs[k].name, .slice none 0 0] 44) := ⟨_, rfl⟩
   have HB2 : Hid (Below wo.heap.size wo W2) := by show Below _ _ _; rw [hW2]; exact ((Below.refl _ _).alloc (Nat.le_refl _) _).alloc (by simp) _
   have HP2 : Hid (W2.cell? ⟨wo.heap.size, 0, none⟩ = some (.string rs[k].name) ∧ W2.cell? ⟨wo.heap.size, 1, none⟩ = some (.slice rs[k].ad rs[k].rows.length rs[k].cap) ∧ W2.cell? ⟨wo.heap.size + 1, 0, none⟩ = some (.string rs[k].name) ∧ W2.cell? ⟨wo.heap.size + 1, 1, none⟩ = some (.slice none 0 0) ∧ W2.frozen? ⟨wo.heap.size + 1, 1, none⟩ = false ∧ W2.heap.size = wo.heap.size + 2) := by
    show _ ∧ _
    rw [hW2]
    have hz : (wo.alloc (.cells #[.string rs[k].name, .slice rs[k].ad rs[k].rows.length rs[k].cap] 44)).heap.size = wo.heap.size + 1 := by simp
    have hc := fun j => World.cell?_alloc_mark (wo.alloc (.cells #[.string rs[k].name, .slice rs[k].ad rs[k].rows.length rs[k].cap] 44)) #[.string rs[k].name, .slice none 0 0] 44 (0, 0) j
    rw [hz] at hc
    exact ⟨by simp, by simp, by rw [hc 0]; rfl, by rw [hc 1]; rfl, by simp, by simp⟩
   have p1 := HP2.out.2.1
   rw [hadr]
   clear hr hok hadr hb
   go_wp2_with fail
   rw [← hW2]
   clear hW2 t0 t1
   have hTl : wo.heap.size < W2.heap.size := by have := HP2.out.2.2.2.2.2; omega
   go_loopw [23] (fun i wr => ∃ (j : Nat) (v2 : Value) (rows : List RR), j ≤ rs[k].rows.length ∧ i = .int .i64 j ∧ Hid (wr.cell? ⟨wo.heap.size + 1, 0, none⟩ = some (.string rs[k].name) ∧ wr.cell? ⟨wo.heap.size + 1, 1, none⟩ = some v2 ∧ wr.frozen? ⟨wo.heap.size + 1, 1, none⟩ = false) ∧ Hid (RelM wr (wo.heap.size + 2) v2 rows) ∧ Hid (rls rows = (((rls rs[k].rows).map (chgR f rs[k].name)).take j)) ∧ Hid (Below (wo.heap.size + 1) W2 wr)) (fun i _ => rs[k].rows.length - (intOf i).toNat)
   case atStart => exact ⟨0, .slice none 0 0, [], Nat.zero_le _, rfl, ⟨HP2.out.2.2.1, HP2.out.2.2.2.1, HP2.out.2.2.2.2.1⟩, lotM_nil _ _, by show _ = _; simp [rls], Below.refl _ _⟩
   case round =>
    obtain ⟨j, v2, rows, hj, rfl, HN, HR, HRQ, HB3⟩ := hrel
    obtain ⟨wi, hwi⟩ : ∃ wi, wi = wr := ⟨_, rfl⟩
    subst hwi
    have HZ2 : Hid (W2.heap.size = wo.heap.size + 2) := HP2.out.2.2.2.2.2
    have HBO : Hid (Below wo.heap.size wo wi) := HB2.out.trans (HB3.out.mono (Nat.le_succ _))
    have HRL : Hid (rows.length = j) := by
     show _ = _
     rw [← rls_len, HRQ.out, List.length_take, List.length_map, rls_len]; omega
    have hrl6 : rows.length ≤ 6 := by rw [HRL.out]; omega
    by_cases hjt : j < rs[k].rows.length
    ·rcases HOK.out.below HBO.out with hnil | ⟨b2, off2, hadr2, hb2, hr2, hok2⟩
     ·rw [hnil] at hjt; simp at hjt
     obtain ⟨s0, s1⟩ := hr2 j hjt
     have HQM : Hid (rs[k].rows[j] ∈ rs[k].rows) := List.getElem_mem hjt
     have HOE : Hid (SlE wi rs[k].rows[j].ad rs[k].rows[j].rows) := hok2 _ (List.getElem_mem hjt)
     have hj1 : (0 : Int) ≤ (j : Int) := by omega
     have hj2 : (j : Int) < (rs[k].rows.length : Int) := by omega
     obtain ⟨W3, hW3⟩ : ∃ W3, W3 = wi.alloc (.cells #[.string rs[k].rows[j].name, .slice rs[k].rows[j].ad rs[k].rows[j].rows.length rs[k].rows[j].cap] 46) := ⟨_, rfl⟩
     have HA3 : Hid (Below wi.heap.size wi W3) := by show Below _ _ _; rw [hW3]; exact (Below.refl _ _).alloc (Nat.le_refl _) _
     have hTw : wo.heap.size + 2 ≤ wi.heap.size := by have := HB3.out.size; have := HZ2.out; omega
     have HRF : Hid (RFs (wo.heap.size + 1) wi.heap.size wo.heap.size v2 rs[k].name rs[k].rows[j].name (.slice rs[k].rows[j].ad rs[k].rows[j].rows.length rs[k].rows[j].cap) W3) := by
      have h1 : wo.heap.size + 1 < wi.heap.size := by omega
      have h2 : wo.heap.size < wi.heap.size := by omega
      have ht : wi.cell? ⟨wo.heap.size, 0, none⟩ = some (.string rs[k].name) := by rw [HB3.out.cell (p := ⟨wo.heap.size, 0, none⟩) (Nat.lt_succ_self _)]; exact HP2.out.1
      refine ⟨kept HA3.out h1 HN.out.1, kept HA3.out h1 HN.out.2.1, keptF HA3.out h1 HN.out.2.2, by rw [hW3]; simp, by rw [hW3]; simp, kept HA3.out h2 ht, ?_⟩
      rw [hW3]; simp; omega
     have HRM : Hid (RelM W3 (wo.heap.size + 2) v2 rows) := LotM.below kidR HR.out HA3.out
     rw [hadr2]
     clear hr2 hok2 hadr2 hb2
     go_wp2_with fail
     rw [← hW3]
     clear hW3 s0 s1
     have HNW3 : Hid (wo.heap.size + 1 + 1 ≤ W3.heap.size) := by have := HA3.out.size; show _ ≤ _; omega
     have HRO : Hid (RelM wi (wo.heap.size + 2) v2 rows) := HR.out
     have HBW3 : Hid (Below w.heap.size w W3) := (HB.out.trans (HBO.out.mono HB.out.size)).trans (HA3.out.mono (Nat.le_trans HB.out.size HBO.out.size))
     obtain ⟨CV, hCV⟩ : ∃ C : Nat → Value, C = fun n => ((Value.pointer (some { block := wo.heap.size + 1, off := 1 })) :: (v2) :: (Value.pointer (some { block := wi.heap.size, off := 0 })) :: (Value.string rs[k].rows[j].name) :: (Value.pointer (some { block := wo.heap.size, off := 0 })) :: (Value.string rs[k].name) :: (Value.pointer (some { block := wi.heap.size, off := 1 })) :: (Value.slice rs[k].rows[j].ad rs[k].rows[j].rows.length rs[k].rows[j].cap) :: (Value.func (Fn.func FC) rc cp) :: (undef) :: (undef) :: (undef) :: (undef) :: (Value.pointer (some { block := wo.heap.size + 1, off := 1 })) :: []).getD n undef := ⟨_, rfl⟩
     have HCV : Hid (CV 0 = Value.pointer (some { block := wo.heap.size + 1, off := 1 }) ∧ CV 1 = v2 ∧ CV 2 = Value.pointer (some { block := wi.heap.size, off := 0 }) ∧ CV 3 = Value.string rs[k].rows[j].name ∧ CV 4 = Value.pointer (some { block := wo.heap.size, off := 0 }) ∧ CV 5 = Value.string rs[k].name ∧ CV 6 = Value.pointer (some { block := wi.heap.size, off := 1 }) ∧ CV 7 = Value.slice rs[k].rows[j].ad rs[k].rows[j].rows.length rs[k].rows[j].cap ∧ CV 8 = Value.func (Fn.func FC) rc cp ∧ CV 9 = undef ∧ CV 10 = undef ∧ CV 11 = undef ∧ CV 12 = undef ∧ CV 13 = Value.pointer (some { block := wo.heap.size + 1, off := 1 })) := by show _ ∧ _; rw [hCV]; exact ⟨rfl, rfl, rfl, rfl, rfl, rfl, rfl, rfl, rfl, rfl, rfl, rfl, rfl, rfl⟩
     clear hCV
     refine wp_region_frame2 14 (fun | 0 => u27 | 1 => u28 | 2 => u29 | 3 => u30 | 4 => u31 | 5 => u32 | 6 => u33 | 7 => u34 | 8 => u35 | 9 => u36 | 10 => u37 | 11 => u38 | 12 => u39 | 13 => u40 | _ => undef) (fun fq => { tmps := List.toArray (Value.slice (some { block := b, off := off }) rs.length cap :: Value.func (Fn.func FC) rc cp :: undef :: undef :: Value.slice none 0 0 :: u5 :: undef :: Value.pointer (some { block := wo.heap.size, off := 0 }) :: Value.pointer (some { block := wo.heap.size + 1, off := 0 }) :: undef :: Value.pointer (some { block := wi.heap.size, off := 0 }) :: Value.slice (some { block := b, off := off }) rs.length cap :: Value.int IntKind.i64 (rs.length : Int) :: Value.int IntKind.i64 (k : Int) :: Value.bool true :: Value.pointer (some { block := b, off := off + k * 2 }) :: Value.agg #[Value.string rs[k].name, Value.slice (some { block := b2, off := off2 }) rs[k].rows.length rs[k].cap] :: Value.pointer (some { block := wo.heap.size, off := 0 }) :: Value.string rs[k].name :: Value.agg #[Value.string rs[k].name, Value.slice none 0 0] :: Value.pointer (some { block := wo.heap.size, off := 1 }) :: Value.slice (some { block := b2, off := off2 }) rs[k].rows.length rs[k].cap :: Value.int IntKind.i64 (rs[k].rows.length : Int) :: Value.int IntKind.i64 (j : Int) :: Value.bool true :: Value.pointer (some { block := b2, off := off2 + j * 2 }) :: Value.agg #[Value.string rs[k].rows[j].name, Value.slice rs[k].rows[j].ad rs[k].rows[j].rows.length rs[k].rows[j].cap] :: (fq 0) :: (fq 1) :: (fq 2) :: (fq 3) :: (fq 4) :: (fq 5) :: (fq 6) :: (fq 7) :: (fq 8) :: (fq 9) :: (fq 10) :: (fq 11) :: (fq 12) :: (fq 13) :: u41 :: u42 :: u43 :: u44 :: u45 :: u46 :: undef :: []), defers := [] }) (G.CH 9 (fun _ => []) CV (RFs (wo.heap.size + 1) wi.heap.size wo.heap.size (v2) rs[k].name rs[k].rows[j].name (Value.slice rs[k].rows[j].ad rs[k].rows[j].rows.length rs[k].rows[j].cap)) (Below W3.heap.size W3) (C1 W3 (chgE (f rs[k].name) (exs rs[k].rows[j].rows))) (fun x => .agg #[.string rs[k].rows[j].name, x]) (C3 W3 rs[k].rows[j].name (chgE (f rs[k].name) (exs rs[k].rows[j].rows))) (C4 W3 (wo.heap.size + 1) rows rs[k].rows[j].name (chgE (f rs[k].name) (exs rs[k].rows[j].rows)))) (by kernel_rfl) rfl (by kernel_rfl) (fun o ho l fq w' hI hp => ?clR) rfl (G.ch_start (HRF.out.below (Below.refl _ _).drew) (Below.refl _ _).drew) ?stepR ?finR
     case clR =>
      obtain rfl := Option.some.inj ho
      intro k hk
      have hc : k = 0 ∨ k = 1 ∨ k = 2 ∨ k = 3 ∨ k = 4 ∨ k = 5 ∨ k = 6 ∨ k = 7 ∨ k = 8 ∨ k = 9 ∨ k = 10 ∨ k = 11 ∨ k = 12 ∨ k = 13 := by omega
      rcases hc with rfl | rfl | rfl | rfl | rfl | rfl | rfl | rfl | rfl | rfl | rfl | rfl | rfl | rfl
      ·exact hp { on := 0, ground := .phase } (by simp) rfl
      ·exact hp { on := 1, ground := .phase } (by simp) rfl
      ·exact hp { on := 2, ground := .phase } (by simp) rfl
      ·exact hp { on := 3, ground := .phase } (by simp) rfl
      ·exact hp { on := 4, ground := .phase } (by simp) rfl
      ·exact hp { on := 5, ground := .phase } (by simp) rfl
      ·exact hp { on := 6, ground := .phase } (by simp) rfl
      ·exact hp { on := 7, ground := .phase } (by simp) rfl
      ·exact hp { on := 8, ground := .phase } (by simp) rfl
      ·exact hp { on := 9, ground := .phase } (by simp) rfl
      ·exact hp { on := 10, ground := .phase } (by simp) rfl
      ·exact hp { on := 11, ground := .phase } (by simp) rfl
      ·exact hp { on := 12, ground := .phase } (by simp) rfl
      ·exact hp { on := 13, ground := .data } (by simp) rfl
     case stepR =>
      rintro i hi o ho l fq w' hli hI hpre
      have HI : Hid (G.CH 9 (fun _ => []) CV (RFs (wo.heap.size + 1) wi.heap.size wo.heap.size (v2) rs[k].name rs[k].rows[j].name (Value.slice rs[k].rows[j].ad rs[k].rows[j].rows.length rs[k].rows[j].cap)) (Below W3.heap.size W3) (C1 W3 (chgE (f rs[k].name) (exs rs[k].rows[j].rows))) (fun x => .agg #[.string rs[k].rows[j].name, x]) (C3 W3 rs[k].rows[j].name (chgE (f rs[k].name) (exs rs[k].rows[j].rows))) (C4 W3 (wo.heap.size + 1) rows rs[k].rows[j].name (chgE (f rs[k].name) (exs rs[k].rows[j].rows))) l fq w') := hI
      have HPR : Hid (∀ e ∈ o.after, Region.binds .any e = true → l e.on = true) := hpre
      have HRW : Hid (RFs (wo.heap.size + 1) wi.heap.size wo.heap.size (v2) rs[k].name rs[k].rows[j].name (Value.slice rs[k].rows[j].ad rs[k].rows[j].rows.length rs[k].rows[j].cap) w') := hI.rf
      clear hI hpre
      have hc : i = 0 ∨ i = 1 ∨ i = 2 ∨ i = 3 ∨ i = 4 ∨ i = 5 ∨ i = 6 ∨ i = 7 ∨ i = 8 ∨ i = 9 ∨ i = 10 ∨ i = 11 ∨ i = 12 ∨ i = 13 := by omega
      clear hi
      rcases hc with rfl | rfl | rfl | rfl | rfl | rfl | rfl | rfl | rfl | rfl | rfl | rfl | rfl | rfl
      ·obtain rfl := Option.some.inj ho
       have HP := toHX (HI.out.put (i := 0) (by omega) (fun j hj => by cases hj) HCV.out.1.symm)
       refine wpOp_hid rfl fun K HK => ?_
       clear ho HPR HI
       dsimp only
       go_simp
       exact HK.out _ _ ⟨_, by simp [upd], HP.out⟩
      ·obtain rfl := Option.some.inj ho
       have e0 : fq 0 = Value.pointer (some { block := wo.heap.size + 1, off := 1 }) := (HI.out.val 0 (by omega) (HPR.out { on := 0, ground := .data } (by simp) rfl)).trans HCV.out.1
       have x1 := HRW.out.n1
       have HP := toHX (HI.out.put (i := 1) (by omega) (fun j hj => by cases hj) HCV.out.2.1.symm)
       refine wpOp_hid rfl fun K HK => ?_
       clear ho HPR HI
       simp only [e0]
       go_simp
       exact HK.out _ _ ⟨_, by simp [upd, e0], HP.out⟩
      ·obtain rfl := Option.some.inj ho
       have HP := toHX (HI.out.put (i := 2) (by omega) (fun j hj => by cases hj) HCV.out.2.2.1.symm)
       refine wpOp_hid rfl fun K HK => ?_
       clear ho HPR HI
       dsimp only
       go_simp
       exact HK.out _ _ ⟨_, by simp [upd], HP.out⟩
      ·obtain rfl := Option.some.inj ho
       have e2 : fq 2 = Value.pointer (some { block := wi.heap.size, off := 0 }) := (HI.out.val 2 (by omega) (HPR.out { on := 2, ground := .data } (by simp) rfl)).trans HCV.out.2.2.1
       have x1 := HRW.out.r0
       have HP := toHX (HI.out.put (i := 3) (by omega) (fun j hj => by cases hj) HCV.out.2.2.2.1.symm)
       refine wpOp_hid rfl fun K HK => ?_
       clear ho HPR HI
       simp only [e2]
       go_simp
       exact HK.out _ _ ⟨_, by simp [upd, e2], HP.out⟩
      ·obtain rfl := Option.some.inj ho
       have HP := toHX (HI.out.put (i := 4) (by omega) (fun j hj => by cases hj) HCV.out.2.2.2.2.1.symm)
       refine wpOp_hid rfl fun K HK => ?_
       clear ho HPR HI
       dsimp only
       go_simp
       exact HK.out _ _ ⟨_, by simp [upd], HP.out⟩
      ·obtain rfl := Option.some.inj ho
       have e4 : fq 4 = Value.pointer (some { block := wo.heap.size, off := 0 }) := (HI.out.val 4 (by omega) (HPR.out { on := 4, ground := .data } (by simp) rfl)).trans HCV.out.2.2.2.2.1
       have x1 := HRW.out.t0
       have HP := toHX (HI.out.put (i := 5) (by omega) (fun j hj => by cases hj) HCV.out.2.2.2.2.2.1.symm)
       refine wpOp_hid rfl fun K HK => ?_
       clear ho HPR HI
       simp only [e4]
       go_simp
       exact HK.out _ _ ⟨_, by simp [upd, e4], HP.out⟩
      ·obtain rfl := Option.some.inj ho
       have HP := toHX (HI.out.put (i := 6) (by omega) (fun j hj => by cases hj) HCV.out.2.2.2.2.2.2.1.symm)
       refine wpOp_hid rfl fun K HK => ?_
       clear ho HPR HI
       dsimp only
       go_simp
       exact HK.out _ _ ⟨_, by simp [upd], HP.out⟩
      ·obtain rfl := Option.some.inj ho
       have e6 : fq 6 = Value.pointer (some { block := wi.heap.size, off := 1 }) := (HI.out.val 6 (by omega) (HPR.out { on := 6, ground := .data } (by simp) rfl)).trans HCV.out.2.2.2.2.2.2.1
       have x1 := HRW.out.r1
       have HP := toHX (HI.out.put (i := 7) (by omega) (fun j hj => by cases hj) HCV.out.2.2.2.2.2.2.2.1.symm)
       refine wpOp_hid rfl fun K HK => ?_
       clear ho HPR HI
       simp only [e6]
       go_simp
       exact HK.out _ _ ⟨_, by simp [upd, e6], HP.out⟩
      ·obtain rfl := Option.some.inj ho
       have HP := toHX (HI.out.put (i := 8) (by omega) (fun j hj => by cases hj) HCV.out.2.2.2.2.2.2.2.2.1.symm)
       refine wpOp_hid rfl fun K HK => ?_
       clear ho HPR HI
       dsimp only
       go_simp
       exact HK.out _ _ ⟨_, by simp [upd], HP.out⟩
      ·obtain rfl := Option.some.inj ho
       have e5 : fq 5 = Value.string rs[k].name := (HI.out.val 5 (by omega) (HPR.out { on := 5, ground := .data } (by simp) rfl)).trans HCV.out.2.2.2.2.2.1
       have e7 : fq 7 = Value.slice rs[k].rows[j].ad rs[k].rows[j].rows.length rs[k].rows[j].cap := (HI.out.val 7 (by omega) (HPR.out { on := 7, ground := .data } (by simp) rfl)).trans HCV.out.2.2.2.2.2.2.2.1
       have e8 : fq 8 = Value.func (Fn.func FC) rc cp := (HI.out.val 8 (by omega) (HPR.out { on := 8, ground := .data } (by simp) rfl)).trans HCV.out.2.2.2.2.2.2.2.2.1
       have HM0 := toHX (HI.out.m0 hli).1
       refine wpOp_hid rfl fun K HK => ?_
       clear ho HPR
       simp only [e5, e7, e8]
       go_simp
       refine (changedExpr_any FC rc cp rs[k].name (f rs[k].name) _ _ rs[k].rows[j].rows w' (HSM.out.e15 _ HTM.out _ HQM.out) ((HOE.out.below HA3.out).below HM0.out) (HSM.out.light _ HTM.out _ HQM.out) (HSM.out.low _ HTM.out _ HQM.out) (HSM.out.lb _ HTM.out _ HQM.out) HRUN.out (fun x hx hk => (HCH.out _ HTM.out _ HQM.out x hx hk).mono (HBW3.out.trans (HM0.out.mono HBW3.out.size)))).mono ?_
       rintro e w9 ⟨v9, qs9, rfl, hn9, he9, hb9⟩
       obtain ⟨ad9, cap9, rfl⟩ := own_slice hn9.own
       have HP := toHX (HI.out.call hli (fun j hj => by cases hj) (HRW.out.below hb9) (show C1 W3 (chgE (f rs[k].name) (exs rs[k].rows[j].rows)) (.slice ad9 qs9.length cap9) w9 from ⟨ad9, cap9, qs9, rfl, NodM.mono hn9 HM0.out.size, he9, HM0.out.trans (hb9.mono HM0.out.size)⟩))
       clear hn9 he9 hb9 HI HRW HM0
       go_wp2_with fail
       exact HK.out _ _ ⟨_, by simp [upd, e5, e7, e8], HP.out⟩
      ·obtain rfl := Option.some.inj ho
       have e3 : fq 3 = Value.string rs[k].rows[j].name := (HI.out.val 3 (by omega) (HPR.out { on := 3, ground := .data } (by simp) rfl)).trans HCV.out.2.2.2.1
       have hc0 := HPR.out { on := 9, ground := .data } (by simp) rfl
       obtain ⟨ad9, cap9, qs9, e9, -⟩ := (HI.out.m1 hc0 hli).1
       have HP := toHX (HI.out.build hc0 hli (fun j hj => by cases hj) (v := .agg #[.string rs[k].rows[j].name, .slice ad9 qs9.length cap9]) (by rw [e9]))
       refine wpOp_hid rfl fun K HK => ?_
       clear ho HPR HI
       simp only [e3, e9]
       go_simp
       exact HK.out _ _ ⟨_, by simp [upd, e3, e9], HP.out⟩
      ·obtain rfl := Option.some.inj ho
       have hc1 := HPR.out { on := 10, ground := .data } (by simp) rfl
       obtain ⟨eB, hM1, -, -⟩ := HI.out.m2 hc1 hli
       have HC1 := toHX hM1
       obtain ⟨ad9, cap9, qs9, e9, -⟩ := hM1
       replace eB : fq 10 = .agg #[.string rs[k].rows[j].name, .slice ad9 qs9.length cap9] := by rw [eB, e9]
       rw [e9] at HC1
       have HP := toHX (HI.out.lay hc1 hli (fun j hj => by cases hj) (HRW.out.below ((Below.refl _ _).alloc (Nat.le_refl _) _)) (C1.lay (rn := rs[k].rows[j].name) HC1.out))
       refine wpOp_hid rfl fun K HK => ?_
       clear ho HPR HI HC1
       simp only [eB]
       go_simp
       exact HK.out _ _ ⟨_, by simp [upd, eB, e9], HP.out⟩
      ·obtain rfl := Option.some.inj ho
       have e1 : fq 1 = v2 := (HI.out.val 1 (by omega) (HPR.out { on := 1, ground := .data } (by simp) rfl)).trans HCV.out.2.1
       have hc2 := HPR.out { on := 11, ground := .data } (by simp) rfl
       obtain ⟨b9, q9, e11, hnew9, hk9, hp9, hb9⟩ := (HI.out.m3 hc2 hli).1
       have hown : w'.ownsRow ((wo.heap.size + 1) + 1) 46 2 (v2) rows.length (rows.flatMap RR.cells) := own_heap HRM.out.own fun g hg => hb9.block g (HRM.out.own.lt g hg).2
       refine wpOp_append_own w' rfl rfl _ _ 42 rfl ((wo.heap.size + 1) + 1) 46 iR _ 2 40 Tryz.underlying42 HIR.out.1 HIR.out.2.1 HIR.out.2.2.1 HIR.out.2.2.2 rfl (by decide) (v2) rows.length (rows.flatMap RR.cells) (by simp [Act.eval, e1]) hown ⟨b9, 0, none⟩ 1 1 (RR.cells q9) (by simp [Act.eval, e11]) rfl hnew9 (by simp [RR.cells, RR.vs, Value.oneCell']) (by unfold maxLen; omega) (by omega) (by have := hb9.size; have := HNW3.out; omega) ?_
       intro v' w2 hown2 hgr2 hloc2
       exact ⟨v', by simp [upd, Act.put], HI.out.app hc2 hli (fun j hj => by cases hj) (HRW.out.heap hgr2.size fun g hg => hgr2.block g (by have := HRW.out.lt; rcases hg with rfl | rfl | rfl <;> omega) (fun e => by have h1 := (HRM.out.own.lt g e.symm).1; have h2 := (HRO.out.own.lt g e.symm).2; rcases hg with rfl | rfl | rfl <;> omega)) (C3.app (W0 := W3) HRM.out HNW3.out hk9 hp9 hb9 hown2 hgr2 hloc2)⟩
      ·obtain rfl := Option.some.inj ho
       have HP := toHX (HI.out.put (i := 13) (by omega) (fun j hj => by cases hj) HCV.out.2.2.2.2.2.2.2.2.2.2.2.2.2.symm)
       refine wpOp_hid rfl fun K HK => ?_
       clear ho HPR HI
       dsimp only
       go_simp
       exact HK.out _ _ ⟨_, by simp [upd], HP.out⟩
     case finR =>
      rintro o ho l fq w' hall hI
      obtain rfl := Option.some.inj ho
      obtain ⟨ad4, cap4, q4, e12, hRM4, hqp4, hb4⟩ := (hI.m4 (hall 12 (by omega))).1
      have e13 : fq 13 = Value.pointer (some { block := wo.heap.size + 1, off := 1 }) := (hI.val 13 (.inr rfl) (hall 13 (by omega))).trans HCV.out.2.2.2.2.2.2.2.2.2.2.2.2.2
      have n1 := hI.rf.n1
      have fz := hI.rf.fz
      have HRW := toHX hI.rf
      rw [e12] at hRM4
      have HRM4 := toHX hRM4
      have HQP4 := toHX hqp4
      have HB4 := toHX hb4
      clear hRM4 hqp4 hb4 hall
      refine wpOp_hid rfl fun K HK => ?_
      simp only [e12, e13]
      go_simp
      refine HK.out _ _ ?_
      clear ho HK K hI HCV e12 e13
      obtain ⟨y0, hy0⟩ : ∃ y, y = fq 0 := ⟨_, rfl⟩
      rw [← hy0]
      obtain ⟨y1, hy1⟩ : ∃ y, y = fq 1 := ⟨_, rfl⟩
      rw [← hy1]
      obtain ⟨y2, hy2⟩ : ∃ y, y = fq 2 := ⟨_, rfl⟩
      rw [← hy2]
      obtain ⟨y3, hy3⟩ : ∃ y, y = fq 3 := ⟨_, rfl⟩
      rw [← hy3]
      obtain ⟨y4, hy4⟩ : ∃ y, y = fq 4 := ⟨_, rfl⟩
      rw [← hy4]
      obtain ⟨y5, hy5⟩ : ∃ y, y = fq 5 := ⟨_, rfl⟩
      rw [← hy5]
      obtain ⟨y6, hy6⟩ : ∃ y, y = fq 6 := ⟨_, rfl⟩
      rw [← hy6]
      obtain ⟨y7, hy7⟩ : ∃ y, y = fq 7 := ⟨_, rfl⟩
      rw [← hy7]
      obtain ⟨y8, hy8⟩ : ∃ y, y = fq 8 := ⟨_, rfl⟩
      rw [← hy8]
      obtain ⟨y9, hy9⟩ : ∃ y, y = fq 9 := ⟨_, rfl⟩
      rw [← hy9]
      obtain ⟨y10, hy10⟩ : ∃ y, y = fq 10 := ⟨_, rfl⟩
      rw [← hy10]
      obtain ⟨y11, hy11⟩ : ∃ y, y = fq 11 := ⟨_, rfl⟩
      rw [← hy11]
      clear hy0 hy1 hy2 hy3 hy4 hy5 hy6 hy7 hy8 hy9 hy10 hy11 fq l CV
      have HNX : Hid ((w'.setCell ⟨wo.heap.size + 1, 1, none⟩ (.slice ad4 (rows.length + 1) cap4)).cell? ⟨wo.heap.size + 1, 0, none⟩ = some (.string rs[k].name) ∧ (w'.setCell ⟨wo.heap.size + 1, 1, none⟩ (.slice ad4 (rows.length + 1) cap4)).cell? ⟨wo.heap.size + 1, 1, none⟩ = some (.slice ad4 (rows.length + 1) cap4) ∧ (w'.setCell ⟨wo.heap.size + 1, 1, none⟩ (.slice ad4 (rows.length + 1) cap4)).frozen? ⟨wo.heap.size + 1, 1, none⟩ = false) := ⟨by rw [setO' (by omega)]; exact HRW.out.n0, setS' n1, by simpa using fz⟩
      have HRX : Hid (RelM (w'.setCell ⟨wo.heap.size + 1, 1, none⟩ (.slice ad4 (rows.length + 1) cap4)) (wo.heap.size + 2) (.slice ad4 (rows.length + 1) cap4) (rows ++ [q4])) := LotM.heap kidR HRM4.out (by simp) fun g hg => Below.heap_setCell _ _ _ g (by have := (LotM.lt kidR HRM4.out hg).1; show g ≠ wo.heap.size + 1; omega)
      have HQX : Hid (rls (rows ++ [q4]) = (((rls rs[k].rows).map (chgR f rs[k].name)).take (j + 1))) := by
       show _ = _
       rw [rls_snoc, HRQ.out, HQP4.out, List.take_succ_eq_append_getElem (by rw [List.length_map, rls_len]; exact hjt)]
       simp [rls, chgR, RR.p]
      have HBX : Hid (Below (wo.heap.size + 1) W2 (w'.setCell ⟨wo.heap.size + 1, 1, none⟩ (.slice ad4 (rows.length + 1) cap4))) := ((HB3.out.trans (HA3.out.mono (by omega))).trans (HB4.out.mono (by omega))).setCell (by show _ ≤ wo.heap.size + 1; omega) _
      clear n1 fz HRW HRM4 HB4 HRF HRM HRO HN HR
      go_wp2_with fail
      go_roundw
      case rel => exact ⟨j + 1, .slice ad4 (rows.length + 1) cap4, rows ++ [q4], by omega, by go_num, HNX, HRX, HQX, HBX⟩
      case measure => first | (simp [intOf]; done) | (simp [intOf]; omega)
    ·obtain rfl : j = rs[k].rows.length := by omega
     have hown2 := HR.out.own
     obtain ⟨ad2, cap2, rfl⟩ := own_slice hown2
     obtain ⟨q, hq⟩ : ∃ q : TR, q = ⟨rs[k].name, rows, ad2, cap2⟩ := ⟨_, rfl⟩
     have HQP : Hid (q.p = chgT f rs[k].p) := by
      show _ = _
      rw [hq]
      have e := HRQ.out
      rw [List.take_of_length_le (by rw [List.length_map, rls_len]; exact Nat.le_refl _)] at e
      simp [TR.p, chgT, e]
     obtain ⟨W4, hW4⟩ : ∃ W4, W4 = wi.alloc (.cells #[.string rs[k].name, .slice ad2 rows.length cap2] 44) := ⟨_, rfl⟩
     have HA4 : Hid (Below wi.heap.size wi W4) := by show Below _ _ _; rw [hW4]; exact (Below.refl _ _).alloc (Nat.le_refl _) _
     have HBO4 : Hid (Below wo.heap.size wo W4) := HBO.out.trans (HA4.out.mono HBO.out.size)
     have HNW : Hid (∀ j u, (TR.cells q)[j]? = some u → W4.cell? ((⟨wi.heap.size, 0, none⟩ : Addr).add j) = some u) := by rw [hW4, hq]; exact cells2_new wi _ _ _
     have HKQ : Hid (kT W4 (wo.heap.size + 2) q) := by rw [hq]; exact LotM.below kidR HR.out HA4.out
     have HOW4 : Hid (W4.ownsRow w.heap.size 44 2 u5 qs.length (qs.flatMap TR.cells)) := own_heap HX.out.own fun g hg => HBO4.out.block g (HX.out.own.lt g hg).2
     have HWW : Hid (w.heap.size ≤ wo.heap.size) := HB.out.size
     obtain ⟨n0, n1, -⟩ := HN.out
     clear hq hown2
     go_wp2_with (at_builtin; go_must (rw [← hW4]; clear hW4; refine wpList_append_own_at _ rfl _ _ 24 rfl w.heap.size 44 iT (.agg #[.string ⟨#[]⟩, .slice none 0 0]) 2 40 Tryz.underlying24 HIT.out.1 HIT.out.2.1 HIT.out.2.2.1 HIT.out.2.2.2 rfl (by decide) u5 qs.length (qs.flatMap TR.cells) rfl HOW4.out ⟨wi.heap.size, 0, none⟩ 1 1 (TR.cells q) rfl rfl HNW.out (by simp [TR.cells, TR.vs, Value.oneCell']) (by unfold maxLen; omega) (by omega) (Nat.le_trans HWW.out HBO4.out.size) ?_))
     intro v5 w5 hown5 hgr5 _ hv5
     have HX5 : Hid (TypM w5 w.heap.size v5 (qs ++ [q])) := LotM.snocN kidT HX.out HBO4.out hown5 hgr5 (hv5.imp id fun e => ⟨_, e, Nat.le_refl _⟩) (RelM.mono HKQ.out (by have := HWW.out; omega)) (fun g hg => by have := (kidT.lt W4 _ q HKQ.out g hg).1; omega)
     have HQ5 : Hid (tys (qs ++ [q]) = (chgS f (tys rs)).take (k + 1)) := by
      show _ = _
      rw [tys_snoc, HQ.out, HQP.out, List.take_succ_eq_append_getElem (by simp [chgS, tys_len]; exact hlt)]
      simp [chgS, tys]
     have HB5 : Hid (Below w.heap.size w w5) := (HB.out.trans (HBO4.out.mono HB.out.size)).grown hgr5 (Nat.le_trans HWW.out HBO4.out.size) (fun g hg => (HX.out.own.lt g hg).1)
     clear hown5 hgr5 hv5 n0 n1 HOW4 HNW HKQ HN HR
     go_wp2
     go_roundw
     case rel => exact ⟨k + 1, qs ++ [q], by omega, by go_num, HX5, HQ5, HB5⟩
     case measure => first | (simp [intOf]; done) | (simp [intOf]; omega)
  ·obtain rfl : k = rs.length := by omega
   have HF : Hid (tys qs = chgS f (tys rs)) := by
    show _ = _
    rw [HQ.out, List.take_of_length_le (by simp [chgS, tys_len])]
   go_wp2
   go_ret
   exact ⟨_, qs, rfl, HX.out, HF.out, HB.out⟩
end Go.Proofs.YtmghabcaakgjiaaGreat
