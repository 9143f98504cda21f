/- Contracts of the document's functions that put a file among others and that leave one out: new rows. -/
import Derived.Test.YtbfimfmfdllejaaSpecDk2
namespace Go.Proofs.Ytbfimfmfdllejaa
open Go.ChangeShapes Go.WideShapes Go.ChangeAt Go.RowKit Go.Maps

theorem rowF_one (f : Fl) : ∀ u ∈ f.row, u.oneCell' = true := by
  intro u hu
  simp only [Fl.row, List.mem_cons, List.not_mem_nil, or_false] at hu
  rcases hu with rfl | rfl <;> rfl
theorem rowF_news (w : World) (f : Fl) : ∀ j u, f.row[j]? = some u → (w.alloc (.cells #[.string f.n, .string f.d] 93)).cell? ((⟨w.heap.size, 0, none⟩ : Addr).add j) = some u := by
  intro j u hu
  rw [show (⟨w.heap.size, 0, none⟩ : Addr).add j = ⟨w.heap.size, 0 + j, none⟩ by simp [Addr.add]; omega, Nat.zero_add]
  have := World.cell?_alloc_mark w #[.string f.n, .string f.d] 93 (0, 0) j
  rw [this]
  simpa [Fl.row] using hu
theorem cutUp_len (fs : List Fl) (x : ByteArray) (k : Nat) : (cutUp fs x k).length ≤ fs.length := by
  unfold cutUp
  exact Nat.le_trans (List.length_filter_le _ _) (by rw [List.length_take]; omega)
theorem info_file : (Try.prog.info? 93).map (fun i => (i.zero, i.size, i.bytes)) = some (some (.agg #[.string ⟨#[]⟩, .string ⟨#[]⟩]), 2, 32) := by kernel_rfl

set_option maxRecDepth 8000 in
set_option maxHeartbeats 2000000 in
theorem l8Cut_any (ad : Option Addr) (cap : Nat) (fs : List Fl) (x : ByteArray) (w : World) (hlen : fs.length ≤ 1048576) (hs : SlF w ad fs) :
    Calls Try.prog 80 #[.slice ad fs.length cap, .string x] w fun e w' => ∃ v, e = .returned v ∧ w'.ownsRow w.heap.size 93 2 v (cutF' fs x).length (rowsF (cutF' fs x)) ∧ Below w.heap.size w w' := by
  obtain ⟨iF, hiF, z0, z1, z2⟩ := info_parts info_file
  have HIT : Hid (Try.prog.info? 93 = some iF ∧ iF.zero = some (.agg #[.string ⟨#[]⟩, .string ⟨#[]⟩]) ∧ iF.size = 2 ∧ iF.bytes = 32) := ⟨hiF, z0, z1, z2⟩
  clear hiF z0 z1 z2
  go_enter Try.func80, Try.ntmps80
  go_wp2
  go_loopw [5, 6] (fun v i wr => ∃ k : Nat, k ≤ fs.length ∧ i = .int .i64 (k : Int) ∧ Hid (wr.ownsRow w.heap.size 93 2 v (cutUp fs x k).length (rowsF (cutUp fs x k))) ∧ Hid (Below w.heap.size w wr)) (fun _ i _ => fs.length - (intOf i).toNat)
  case atStart => exact ⟨0, Nat.zero_le _, rfl, World.ownsRow_lit w #[] 0 (Nat.le_refl _) (by unfold maxLen; omega) (by simp), (Below.refl _ _).alloc (Nat.le_refl _) _⟩
  case round =>
    obtain ⟨k, hk, rfl, HOW, HBW⟩ := hrel
    by_cases hlt : k < fs.length
    · rcases hs.below HBW.out with rfl | ⟨b, off, rfl, hb, hr⟩
      · simp at hlt
      obtain ⟨t0, t1⟩ := hr k hlt
      clear hr hs
      have k0 : (0 : Int) ≤ (k : Int) := by omega
      have k1 : (k : Int) < (fs.length : Int) := by omega
      have hcl := cutUp_len fs x k
      cases he : (fs[k].n.toList == x.toList) with
      | true =>
        have HE : Hid (cutUp fs x (k + 1) = cutUp fs x k) := by show _ = _; rw [cutUp_succ fs x k hlt, if_pos (show eqS fs[k].n x = true from he)]
        go_wp2
        go_roundw
        case rel => exact ⟨k + 1, by omega, by go_num, by rw [HE.out]; exact HOW, HBW⟩
        case measure => simp [intOf]; omega
      | false =>
        have HE : Hid (cutUp fs x (k + 1) = cutUp fs x k ++ [fs[k]]) := by show _ = _; rw [cutUp_succ fs x k hlt, if_neg (by rw [eqS, he]; decide)]
        obtain ⟨W6, hW6⟩ : ∃ W6, W6 = wr.alloc (.cells #[.string fs[k].n, .string fs[k].d] 93) := ⟨_, rfl⟩
        have HO6 : Hid (W6.ownsRow w.heap.size 93 2 u5 (cutUp fs x k).length (rowsF (cutUp fs x k))) := by rw [hW6]; exact HOW.out.alloc _
        have HNW : Hid (∀ j u, fs[k].row[j]? = some u → W6.cell? ((⟨wr.heap.size, 0, none⟩ : Addr).add j) = some u) := by rw [hW6]; exact rowF_news wr fs[k]
        have HB6 : Hid (Below w.heap.size w W6) := by rw [hW6]; exact HBW.out.alloc HBW.out.size _
        go_wp2_with (at_builtin; rw [← hW6]; clear hW6; refine wpList_append_own_at _ rfl _ _ 30 rfl w.heap.size 93 iF (.agg #[.string ⟨#[]⟩, .string ⟨#[]⟩]) 2 32 Try.underlying30 HIT.out.1 HIT.out.2.1 HIT.out.2.2.1 HIT.out.2.2.2 rfl (by decide) u5 _ (rowsF (cutUp fs x k)) rfl HO6.out ⟨wr.heap.size, 0, none⟩ 1 1 fs[k].row rfl rfl HNW.out (rowF_one _) (by unfold maxLen; omega) (by omega) HB6.out.size ?_)
        intro v7 w7 hown7 hgr7 _ _
        have HB7 : Hid (Below w.heap.size w w7) := HB6.out.grown hgr7 HB6.out.size (fun g hg => (HOW.out.lt g hg).1)
        have HO7 : Hid (w7.ownsRow w.heap.size 93 2 v7 (cutUp fs x (k + 1)).length (rowsF (cutUp fs x (k + 1)))) := by
          show World.ownsRow _ _ _ _ _ _ _
          rw [HE.out, rowsF_snoc, List.length_append]; exact hown7
        clear hown7 hgr7 t0 t1
        go_wp2
        go_roundw
        case rel => exact ⟨k + 1, by omega, by go_num, HO7, HB7⟩
        case measure => simp [intOf]; omega
    · obtain rfl : k = fs.length := by omega
      go_wp2
      go_ret
      exact ⟨_, rfl, HOW.out, HBW.out⟩

theorem geqS_not (a b : List UInt8) : (Op.bytesLess b a || a == b) = !Op.bytesLess a b := by
  have h := leqS_not b a
  have e : (b == a) = (a == b) := by
    rw [Bool.eq_iff_iff, beq_iff_eq, beq_iff_eq]; exact eq_comm
  rw [e] at h
  exact h
theorem less_ne {a b : List UInt8} (h : Op.bytesLess a b = true) : (a == b) = false := by
  cases e : (a == b) with
  | false => rfl
  | true => rw [beq_iff_eq] at e; subst e; rw [Ls.lt_irrefl] at h; cases h

set_option maxRecDepth 8000 in
set_option maxHeartbeats 4000000 in
theorem l8Put_any (ad : Option Addr) (cap : Nat) (fs : List Fl) (x dt : ByteArray) (w : World) (hlen : fs.length ≤ 1048576) (hs : SlF w ad fs) :
    Calls Try.prog 79 #[.slice ad fs.length cap, .string x, .string dt] w fun e w' => ∃ v, e = .returned v ∧ w'.ownsRow w.heap.size 93 2 v (putF fs x dt).length (rowsF (putF fs x dt)) ∧ Below w.heap.size w w' := by
  obtain ⟨iF, hiF, z0, z1, z2⟩ := info_parts info_file
  have HIT : Hid (Try.prog.info? 93 = some iF ∧ iF.zero = some (.agg #[.string ⟨#[]⟩, .string ⟨#[]⟩]) ∧ iF.size = 2 ∧ iF.bytes = 32) := ⟨hiF, z0, z1, z2⟩
  clear hiF z0 z1 z2
  go_enter Try.func79, Try.ntmps79
  go_wp2
  go_loopw [7, 8, 9] (fun v dn i wr => ∃ (k : Nat) (P : List Fl × Bool), k ≤ fs.length ∧ i = .int .i64 (k : Int) ∧ dn = .bool P.2 ∧ Hid (P = putUp fs x dt k) ∧ Hid (wr.ownsRow w.heap.size 93 2 v P.1.length (rowsF P.1)) ∧ P.1.length ≤ 2 * k ∧ Hid (Below w.heap.size w wr)) (fun _ _ i _ => fs.length - (intOf i).toNat)
  case atStart => exact ⟨0, ([], false), Nat.zero_le _, rfl, rfl, rfl, World.ownsRow_lit w #[] 0 (Nat.le_refl _) (by unfold maxLen; omega) (by simp), by simp, (Below.refl _ _).alloc (Nat.le_refl _) _⟩
  case round =>
    obtain ⟨k, ⟨L, dn⟩, hk, rfl, rfl, HP, HOW, hll, HBW⟩ := hrel
    simp only at HOW hll
    by_cases hlt : k < fs.length
    · rcases hs with rfl | ⟨b, off, rfl, hb, hr⟩
      · simp at hlt
      have HR : Hid (∀ W, Below w.heap.size w W → AtF W b (off + k * 2) fs[k]) := fun W hW => (hr k hlt).same fun o => hW.cell (p := ⟨b, o, none⟩) hb
      obtain ⟨t0, t1⟩ := HR.out wr HBW.out
      have k0 : (0 : Int) ≤ (k : Int) := by omega
      have k1 : (k : Int) < (fs.length : Int) := by omega
      have hsu := putUp_succ fs x dt k hlt
      rw [← HP.out] at hsu
      have hgq := geqS_not fs[k].n.toList x.toList
      clear hr
      cases dn with
      | true =>
        cases he : (fs[k].n.toList == x.toList) with
        | true =>
          have HE : Hid ((L, true) = putUp fs x dt (k + 1)) := by show _ = _; rw [hsu]; simp [putG, eqS, he]
          clear hsu hgq
          go_wp2
          go_roundw
          case rel => exact ⟨k + 1, (L, true), by omega, by go_num, rfl, HE, HOW, by simp; omega, HBW⟩
          case measure => simp [intOf]; omega
        | false =>
          have HE : Hid ((L ++ [fs[k]], true) = putUp fs x dt (k + 1)) := by show _ = _; rw [hsu]; simp [putG, eqS, he]
          clear hsu hgq
          obtain ⟨X1, hX1⟩ : ∃ X1, X1 = wr.alloc (.cells #[.string fs[k].n, .string fs[k].d] 93) := ⟨_, rfl⟩
          have HO1 : Hid (X1.ownsRow w.heap.size 93 2 u7 (L).length (rowsF (L))) := by rw [hX1]; exact HOW.out.alloc _
          have HN1 : Hid (∀ j u, (Fl.row fs[k])[j]? = some u → X1.cell? ((⟨wr.heap.size, 0, none⟩ : Addr).add j) = some u) := by rw [hX1]; exact rowF_news wr fs[k]
          have HB1 : Hid (Below w.heap.size w X1) := by rw [hX1]; exact HBW.out.alloc HBW.out.size _
          go_wp2_with (at_builtin; rw [← hX1]; clear hX1; refine wpList_append_own_at _ rfl _ _ 30 rfl w.heap.size 93 iF (.agg #[.string ⟨#[]⟩, .string ⟨#[]⟩]) 2 32 Try.underlying30 HIT.out.1 HIT.out.2.1 HIT.out.2.2.1 HIT.out.2.2.2 rfl (by decide) u7 _ (rowsF (L)) rfl HO1.out ⟨wr.heap.size, 0, none⟩ 1 1 (Fl.row fs[k]) rfl rfl HN1.out (rowF_one _) (by unfold maxLen; first | omega | (simp; omega)) (by first | omega | (simp; omega)) HB1.out.size ?_)
          intro v1 w1 hown1 hgr1 _ _
          have HBW1 : Hid (Below w.heap.size w w1) := HB1.out.grown hgr1 HB1.out.size (fun g hg => (HO1.out.lt g hg).1)
          have HOW1 : Hid (w1.ownsRow w.heap.size 93 2 v1 (L ++ [fs[k]]).length (rowsF (L ++ [fs[k]]))) := by
            show World.ownsRow _ _ _ _ _ _ _
            rw [rowsF_snoc, List.length_append]; exact hown1
          clear hown1 hgr1 HO1 HN1 HB1
          go_wp2
          go_roundw
          case rel => exact ⟨k + 1, (L ++ [fs[k]], true), by omega, by go_num, rfl, HE, HOW1, by simp; omega, HBW1⟩
          case measure => simp [intOf]; omega
      | false =>
        cases hl : Op.bytesLess fs[k].n.toList x.toList with
        | true =>
          have he := less_ne hl
          have HE : Hid ((L ++ [fs[k]], false) = putUp fs x dt (k + 1)) := by show _ = _; rw [hsu]; simp [putG, eqS, he, lessS, hl]
          rw [hl] at hgq
          clear hsu
          obtain ⟨X1, hX1⟩ : ∃ X1, X1 = wr.alloc (.cells #[.string fs[k].n, .string fs[k].d] 93) := ⟨_, rfl⟩
          have HO1 : Hid (X1.ownsRow w.heap.size 93 2 u7 (L).length (rowsF (L))) := by rw [hX1]; exact HOW.out.alloc _
          have HN1 : Hid (∀ j u, (Fl.row fs[k])[j]? = some u → X1.cell? ((⟨wr.heap.size, 0, none⟩ : Addr).add j) = some u) := by rw [hX1]; exact rowF_news wr fs[k]
          have HB1 : Hid (Below w.heap.size w X1) := by rw [hX1]; exact HBW.out.alloc HBW.out.size _
          go_wp2_with (at_builtin; rw [← hX1]; clear hX1; refine wpList_append_own_at _ rfl _ _ 30 rfl w.heap.size 93 iF (.agg #[.string ⟨#[]⟩, .string ⟨#[]⟩]) 2 32 Try.underlying30 HIT.out.1 HIT.out.2.1 HIT.out.2.2.1 HIT.out.2.2.2 rfl (by decide) u7 _ (rowsF (L)) rfl HO1.out ⟨wr.heap.size, 0, none⟩ 1 1 (Fl.row fs[k]) rfl rfl HN1.out (rowF_one _) (by unfold maxLen; first | omega | (simp; omega)) (by first | omega | (simp; omega)) HB1.out.size ?_)
          intro v1 w1 hown1 hgr1 _ _
          have HBW1 : Hid (Below w.heap.size w w1) := HB1.out.grown hgr1 HB1.out.size (fun g hg => (HO1.out.lt g hg).1)
          have HOW1 : Hid (w1.ownsRow w.heap.size 93 2 v1 (L ++ [fs[k]]).length (rowsF (L ++ [fs[k]]))) := by
            show World.ownsRow _ _ _ _ _ _ _
            rw [rowsF_snoc, List.length_append]; exact hown1
          clear hown1 hgr1 HO1 HN1 HB1
          go_wp2
          go_roundw
          case rel => exact ⟨k + 1, (L ++ [fs[k]], false), by omega, by go_num, rfl, HE, HOW1, by simp; omega, HBW1⟩
          case measure => simp [intOf]; omega
        | false =>
          rw [hl] at hgq
          cases he : (fs[k].n.toList == x.toList) with
          | true =>
            have HE : Hid ((L ++ [(⟨x, dt⟩ : Fl)], true) = putUp fs x dt (k + 1)) := by show _ = _; rw [hsu]; simp [putG, eqS, he, lessS, hl]
            clear hsu
            obtain ⟨X1, hX1⟩ : ∃ X1, X1 = wr.alloc (.cells #[.string x, .string dt] 93) := ⟨_, rfl⟩
            have HO1 : Hid (X1.ownsRow w.heap.size 93 2 u7 (L).length (rowsF (L))) := by rw [hX1]; exact HOW.out.alloc _
            have HN1 : Hid (∀ j u, (Fl.row (⟨x, dt⟩ : Fl))[j]? = some u → X1.cell? ((⟨wr.heap.size, 0, none⟩ : Addr).add j) = some u) := by rw [hX1]; exact rowF_news wr (⟨x, dt⟩ : Fl)
            have HB1 : Hid (Below w.heap.size w X1) := by rw [hX1]; exact HBW.out.alloc HBW.out.size _
            go_wp2_with (at_builtin; rw [← hX1]; clear hX1; refine wpList_append_own_at _ rfl _ _ 30 rfl w.heap.size 93 iF (.agg #[.string ⟨#[]⟩, .string ⟨#[]⟩]) 2 32 Try.underlying30 HIT.out.1 HIT.out.2.1 HIT.out.2.2.1 HIT.out.2.2.2 rfl (by decide) u7 _ (rowsF (L)) rfl HO1.out ⟨wr.heap.size, 0, none⟩ 1 1 (Fl.row (⟨x, dt⟩ : Fl)) rfl rfl HN1.out (rowF_one _) (by unfold maxLen; first | omega | (simp; omega)) (by first | omega | (simp; omega)) HB1.out.size ?_)
            intro v1 w1 hown1 hgr1 _ _
            have HBW1 : Hid (Below w.heap.size w w1) := HB1.out.grown hgr1 HB1.out.size (fun g hg => (HO1.out.lt g hg).1)
            have HOW1 : Hid (w1.ownsRow w.heap.size 93 2 v1 (L ++ [(⟨x, dt⟩ : Fl)]).length (rowsF (L ++ [(⟨x, dt⟩ : Fl)]))) := by
              show World.ownsRow _ _ _ _ _ _ _
              rw [rowsF_snoc, List.length_append]; exact hown1
            clear hown1 hgr1 HO1 HN1 HB1
            obtain ⟨p0, p1⟩ := HR.out w1 HBW1.out
            clear t0 t1
            go_wp2
            go_roundw
            case rel => exact ⟨k + 1, (L ++ [(⟨x, dt⟩ : Fl)], true), by omega, by go_num, rfl, HE, HOW1, by simp; omega, HBW1⟩
            case measure => simp [intOf]; omega
          | false =>
            have HE : Hid (((L ++ [(⟨x, dt⟩ : Fl)]) ++ [fs[k]], true) = putUp fs x dt (k + 1)) := by show _ = _; rw [hsu]; simp [putG, eqS, he, lessS, hl]
            clear hsu
            obtain ⟨X1, hX1⟩ : ∃ X1, X1 = wr.alloc (.cells #[.string x, .string dt] 93) := ⟨_, rfl⟩
            have HO1 : Hid (X1.ownsRow w.heap.size 93 2 u7 (L).length (rowsF (L))) := by rw [hX1]; exact HOW.out.alloc _
            have HN1 : Hid (∀ j u, (Fl.row (⟨x, dt⟩ : Fl))[j]? = some u → X1.cell? ((⟨wr.heap.size, 0, none⟩ : Addr).add j) = some u) := by rw [hX1]; exact rowF_news wr (⟨x, dt⟩ : Fl)
            have HB1 : Hid (Below w.heap.size w X1) := by rw [hX1]; exact HBW.out.alloc HBW.out.size _
            go_wp2_with (at_builtin; rw [← hX1]; clear hX1; refine wpList_append_own_at _ rfl _ _ 30 rfl w.heap.size 93 iF (.agg #[.string ⟨#[]⟩, .string ⟨#[]⟩]) 2 32 Try.underlying30 HIT.out.1 HIT.out.2.1 HIT.out.2.2.1 HIT.out.2.2.2 rfl (by decide) u7 _ (rowsF (L)) rfl HO1.out ⟨wr.heap.size, 0, none⟩ 1 1 (Fl.row (⟨x, dt⟩ : Fl)) rfl rfl HN1.out (rowF_one _) (by unfold maxLen; first | omega | (simp; omega)) (by first | omega | (simp; omega)) HB1.out.size ?_)
            intro v1 w1 hown1 hgr1 _ _
            have HBW1 : Hid (Below w.heap.size w w1) := HB1.out.grown hgr1 HB1.out.size (fun g hg => (HO1.out.lt g hg).1)
            have HOW1 : Hid (w1.ownsRow w.heap.size 93 2 v1 (L ++ [(⟨x, dt⟩ : Fl)]).length (rowsF (L ++ [(⟨x, dt⟩ : Fl)]))) := by
              show World.ownsRow _ _ _ _ _ _ _
              rw [rowsF_snoc, List.length_append]; exact hown1
            clear hown1 hgr1 HO1 HN1 HB1
            obtain ⟨p0, p1⟩ := HR.out w1 HBW1.out
            clear t0 t1
            obtain ⟨X2, hX2⟩ : ∃ X2, X2 = w1.alloc (.cells #[.string fs[k].n, .string fs[k].d] 93) := ⟨_, rfl⟩
            have HO2 : Hid (X2.ownsRow w.heap.size 93 2 v1 (L ++ [(⟨x, dt⟩ : Fl)]).length (rowsF (L ++ [(⟨x, dt⟩ : Fl)]))) := by rw [hX2]; exact HOW1.out.alloc _
            have HN2 : Hid (∀ j u, (Fl.row fs[k])[j]? = some u → X2.cell? ((⟨w1.heap.size, 0, none⟩ : Addr).add j) = some u) := by rw [hX2]; exact rowF_news w1 fs[k]
            have HB2 : Hid (Below w.heap.size w X2) := by rw [hX2]; exact HBW1.out.alloc HBW1.out.size _
            go_wp2_with (at_builtin; rw [← hX2]; clear hX2; refine wpList_append_own_at _ rfl _ _ 30 rfl w.heap.size 93 iF (.agg #[.string ⟨#[]⟩, .string ⟨#[]⟩]) 2 32 Try.underlying30 HIT.out.1 HIT.out.2.1 HIT.out.2.2.1 HIT.out.2.2.2 rfl (by decide) v1 _ (rowsF (L ++ [(⟨x, dt⟩ : Fl)])) rfl HO2.out ⟨w1.heap.size, 0, none⟩ 1 1 (Fl.row fs[k]) rfl rfl HN2.out (rowF_one _) (by unfold maxLen; first | omega | (simp; omega)) (by first | omega | (simp; omega)) HB2.out.size ?_)
            intro v2 w2 hown2 hgr2 _ _
            have HBW2 : Hid (Below w.heap.size w w2) := HB2.out.grown hgr2 HB2.out.size (fun g hg => (HO2.out.lt g hg).1)
            have HOW2 : Hid (w2.ownsRow w.heap.size 93 2 v2 (L ++ [(⟨x, dt⟩ : Fl)] ++ [fs[k]]).length (rowsF (L ++ [(⟨x, dt⟩ : Fl)] ++ [fs[k]]))) := by
              show World.ownsRow _ _ _ _ _ _ _
              rw [rowsF_snoc, List.length_append, List.length_append]; exact hown2
            clear hown2 hgr2 HO2 HN2 HB2
            go_wp2
            go_roundw
            case rel => exact ⟨k + 1, ((L ++ [(⟨x, dt⟩ : Fl)]) ++ [fs[k]], true), by omega, by go_num, rfl, HE, HOW2, by simp; omega, HBW2⟩
            case measure => simp [intOf]; omega
    · obtain rfl : k = fs.length := by omega
      clear hs
      cases dn with
      | true =>
        have HE : Hid (putF fs x dt = L) := by show _ = _; rw [putF, ← HP.out]; rfl
        go_wp2
        go_ret
        exact ⟨_, rfl, by rw [HE.out]; exact HOW.out, HBW.out⟩
      | false =>
        have HE : Hid (putF fs x dt = L ++ [(⟨x, dt⟩ : Fl)]) := by show _ = _; rw [putF, ← HP.out]; rfl
        obtain ⟨X1, hX1⟩ : ∃ X1, X1 = wr.alloc (.cells #[.string x, .string dt] 93) := ⟨_, rfl⟩
        have HO1 : Hid (X1.ownsRow w.heap.size 93 2 u7 (L).length (rowsF (L))) := by rw [hX1]; exact HOW.out.alloc _
        have HN1 : Hid (∀ j u, (Fl.row (⟨x, dt⟩ : Fl))[j]? = some u → X1.cell? ((⟨wr.heap.size, 0, none⟩ : Addr).add j) = some u) := by rw [hX1]; exact rowF_news wr (⟨x, dt⟩ : Fl)
        have HB1 : Hid (Below w.heap.size w X1) := by rw [hX1]; exact HBW.out.alloc HBW.out.size _
        go_wp2_with (at_builtin; rw [← hX1]; clear hX1; refine wpList_append_own_at _ rfl _ _ 30 rfl w.heap.size 93 iF (.agg #[.string ⟨#[]⟩, .string ⟨#[]⟩]) 2 32 Try.underlying30 HIT.out.1 HIT.out.2.1 HIT.out.2.2.1 HIT.out.2.2.2 rfl (by decide) u7 _ (rowsF (L)) rfl HO1.out ⟨wr.heap.size, 0, none⟩ 1 1 (Fl.row (⟨x, dt⟩ : Fl)) rfl rfl HN1.out (rowF_one _) (by unfold maxLen; first | omega | (simp; omega)) (by first | omega | (simp; omega)) HB1.out.size ?_)
        intro v1 w1 hown1 hgr1 _ _
        have HBW1 : Hid (Below w.heap.size w w1) := HB1.out.grown hgr1 HB1.out.size (fun g hg => (HO1.out.lt g hg).1)
        have HOW1 : Hid (w1.ownsRow w.heap.size 93 2 v1 (L ++ [(⟨x, dt⟩ : Fl)]).length (rowsF (L ++ [(⟨x, dt⟩ : Fl)]))) := by
          show World.ownsRow _ _ _ _ _ _ _
          rw [rowsF_snoc, List.length_append]; exact hown1
        clear hown1 hgr1 HO1 HN1 HB1
        go_wp2
        go_ret
        exact ⟨_, rfl, by rw [HE.out]; exact HOW1.out, HBW1.out⟩
end Go.Proofs.Ytbfimfmfdllejaa
