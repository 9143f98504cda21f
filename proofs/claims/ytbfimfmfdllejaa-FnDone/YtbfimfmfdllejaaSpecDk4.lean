/- Contract of the document's function that does an op: what it makes of a list of files. -/
import Derived.Test.YtbfimfmfdllejaaSpecDk3
import Derived.Test.YtbfimfmfdllejaaRegionGen
import Derived.Laws.AppendOwnNone
namespace Go.Proofs.Ytbfimfmfdllejaa
open Go.ChangeShapes Go.WideShapes Go.ChangeAt Go.RowKit Go.Maps

theorem own_base {w : World} {b b' n size : Nat} {e : TypeId} {v : Value} {xs : List Value} (h : w.ownsRow b e size v n xs) (hb : b' ≤ b) : w.ownsRow b' e size v n xs := by
  refine ⟨h.1, ?_⟩
  rcases h.2 with h2 | ⟨g, cp, cur, h3, h4, h5⟩
  · exact .inl h2
  · exact .inr ⟨g, cp, cur, h3, Nat.le_trans hb h4, h5⟩
theorem rowsF_one (fs : List Fl) : ∀ u ∈ rowsF fs, u.oneCell' = true := by
  intro u hu
  obtain ⟨f, -, h⟩ := List.mem_flatMap.1 hu
  exact rowF_one f u h
theorem SlF.news {w : World} {A : Addr} {fs : List Fl} (h : SlF w (some A) fs) : ∀ j u, (rowsF fs)[j]? = some u → w.cell? (A.add j) = some u := by
  rcases h with rfl | ⟨b, off, e, hb, hr⟩
  · intro j u hj; simp [rowsF] at hj
  · injection e with e
    subst e
    intro j u hj
    have hl := rowsF_len fs
    have hjl : j < fs.length * 2 := by rw [← hl]; exact (List.getElem?_eq_some_iff.1 hj).1
    have hi : j / 2 < fs.length := by omega
    have key := rowsF_at fs (j / 2) hi (j % 2) (by omega)
    rw [show j / 2 * 2 + j % 2 = j by omega, hj] at key
    obtain ⟨h0, h1⟩ := hr (j / 2) hi
    have hm : j % 2 = 0 ∨ j % 2 = 1 := by omega
    rcases hm with h2 | h2
    · rw [h2] at key
      rw [show (⟨b, off, none⟩ : Addr).add j = ⟨b, off + j, none⟩ by simp [Addr.add], ← show off + j / 2 * 2 = off + j by omega, h0]
      exact key.symm
    · rw [h2] at key
      rw [show (⟨b, off, none⟩ : Addr).add j = ⟨b, off + j, none⟩ by simp [Addr.add], ← show off + j / 2 * 2 + 1 = off + j by omega, h1]
      exact key.symm
def VD (base : Nat) (L : List Fl) (l : List Value) (n : Nat) (v : Value) (w : World) : Prop := (n = 8 → ∃ v', v = v' ∧ w.ownsRow base 93 2 v' L.length (rowsF L)) ∧ (n ≠ 8 → v = l.getD n undef)
theorem VD.later {base : Nat} {L : List Fl} {l : List Value} {w w' : World} (hb : Below w.heap.size w w') : ∀ k u, VD base L l k u w → VD base L l k u w' := fun k u h => ⟨fun e => by
  obtain ⟨v, e1, e2⟩ := h.1 e
  exact ⟨v, e1, own_later e2 hb⟩, h.2⟩
theorem HIDk {p : Prop} (h : p) : Hid p := h
/-- what l8Do leaves -/
def DoPost (w : World) (fs : List Fl) (o : Dop) (e : Ending) (w' : World) : Prop :=
  ∃ v, e = .returned (.tuple #[v, .bool (doF fs o).2]) ∧ w'.ownsRow w.heap.size 93 2 v (doF fs o).1.length (rowsF (doF fs o).1) ∧ Below w.heap.size w w'
theorem do_mk {w w' : World} {fs L : List Fl} {o : Dop} {v : Value} {b : Bool} {n : Nat} (hE : doF fs o = (L, b)) (hn : w.heap.size ≤ n) (ho : w'.ownsRow n 93 2 v L.length (rowsF L)) (hb : Below w.heap.size w w') : DoPost w fs o (.returned (.tuple #[v, .bool b])) w' := by
  refine ⟨v, by rw [hE], ?_, hb⟩
  rw [hE]; exact own_base ho hn

set_option maxRecDepth 8000 in
set_option maxHeartbeats 4000000 in
theorem l8Do_any (ad : Option Addr) (cap : Nat) (fs : List Fl) (o : Dop) (w : World) (hlen : fs.length ≤ 1048576) (hs : SlF w ad fs) (hc : ad = none → cap = 0) (hsz : ∀ f ∈ fs, f.d.size + o.d.size ≤ maxLen) :
    Calls Try.prog 50 #[.slice ad fs.length cap, .agg #[.int .i64 o.k, .string o.n, .string o.t, .string o.d]] w (DoPost w fs o) := by
  obtain ⟨iF, hiF, z0, z1, z2⟩ := info_parts info_file
  have HIT : Hid (Try.prog.info? 93 = some iF ∧ iF.zero = some (.agg #[.string ⟨#[]⟩, .string ⟨#[]⟩]) ∧ iF.size = 2 ∧ iF.bytes = 32) := ⟨hiF, z0, z1, z2⟩
  clear hiF z0 z1 z2
  have HB : Hid (Below w.heap.size w (w.alloc (.cells #[.int .i64 o.k, .string o.n, .string o.t, .string o.d] 37))) := (Below.refl _ _).alloc (Nat.le_refl _) _
  have HS := HIDk (hs.below HB.out)
  have HS0 := HIDk hs
  have HC := HIDk hc
  have HZ := HIDk hsz
  have HW : Hid (w.heap.size ≤ (w.alloc (.cells #[.int .i64 o.k, .string o.n, .string o.t, .string o.d] 37)).heap.size) := by show _ ≤ _; simp
  have HOP : Hid ((w.alloc (.cells #[.int .i64 o.k, .string o.n, .string o.t, .string o.d] 37)).cell? ⟨w.heap.size, 0, none⟩ = some (.int .i64 o.k) ∧ (w.alloc (.cells #[.int .i64 o.k, .string o.n, .string o.t, .string o.d] 37)).cell? ⟨w.heap.size, 2, none⟩ = some (.string o.t)) := by
    show _ ∧ _
    constructor <;> simp
  have HLT : Hid (w.heap.size < (w.alloc (.cells #[.int .i64 o.k, .string o.n, .string o.t, .string o.d] 37)).heap.size) := by show _ < _; simp
  have HO : Hid (((w.alloc (.cells #[.int .i64 o.k, .string o.n, .string o.t, .string o.d] 37)).alloc (.cells #[] 93)).ownsRow w.heap.size 93 2 (.slice (some ⟨w.heap.size + 1, 0, none⟩) 0 0) 0 []) := by
    show World.ownsRow _ _ _ _ _ _ _
    have := World.ownsRow_lit (e := 93) (size := 2) (base := w.heap.size) (w.alloc (.cells #[.int .i64 o.k, .string o.n, .string o.t, .string o.d] 37)) #[] 0 HW.out (by unfold maxLen; omega) (by simp)
    simpa using this
  clear hs hc hsz
  go_enter Try.func50, Try.ntmps50
  go_wp2_with fail
  refine (l8At_any ad cap fs o.n _ hlen HS.out).mono ?_
  rintro e w' ⟨rfl, rfl⟩
  cases hat : atF fs o.n with
  | none =>
    have hai : atI fs o.n = -1 := by rw [atI, hat]
    rw [hai]
    by_cases k1 : o.k = 1
    · have kb : (o.k == 1) = true := by simpa using k1
      have HE : Hid (doF fs o = (putF fs o.n o.d, true)) := by show _ = _; rw [doF, if_pos k1, hat]
      clear k1 hat hai
      go_wp2_with fail
      refine (l8Put_any ad cap fs o.n o.d _ hlen HS.out).mono ?_
      rintro e w2 ⟨v, rfl, hown, hb⟩
      have HP := HIDk (do_mk HE.out HW.out hown (HB.out.trans (hb.mono HW.out)))
      clear hown hb
      go_wp2
      go_ret2
      exact HP.out
    · have kb : (o.k == 1) = false := by simpa using k1
      have HE : Hid (doF fs o = (fs, false)) := by show _ = _; rw [doF, if_neg k1, hat]
      clear k1 hat hai
      rcases ad with _ | A
      · have hfs : fs = [] := by
          rcases HS0.out with h | ⟨b, off, e, -⟩
          · exact h
          · cases e
        subst hfs
        obtain rfl := HC.out rfl
        go_wp2_with (at_builtin; refine wpList_append_own_none rfl _ _ 30 rfl w.heap.size 93 iF 2 Try.underlying30 HIT.out.1 _ 0 [] rfl HO.out rfl ?_)
        go_ret2
        exact do_mk HE.out (Nat.le_refl _) HO.out (HB.out.alloc HW.out _)
      · obtain ⟨W2, hW2⟩ : ∃ W2, W2 = (w.alloc (.cells #[.int .i64 o.k, .string o.n, .string o.t, .string o.d] 37)).alloc (.cells #[] 93) := ⟨_, rfl⟩
        have HB2 : Hid (Below w.heap.size w W2) := by rw [hW2]; exact HB.out.alloc HW.out _
        have HO2 : Hid (W2.ownsRow w.heap.size 93 2 (.slice (some ⟨w.heap.size + 1, 0, none⟩) 0 0) 0 []) := by rw [hW2]; exact HO.out
        have HS2 := HIDk (HS0.out.below HB2.out)
        go_wp2_with (at_builtin; rw [← hW2]; clear hW2; refine wpList_append_own_at _ rfl _ _ 30 rfl w.heap.size 93 iF (.agg #[.string ⟨#[]⟩, .string ⟨#[]⟩]) 2 32 Try.underlying30 HIT.out.1 HIT.out.2.1 HIT.out.2.2.1 HIT.out.2.2.2 rfl (by decide) _ 0 [] rfl HO2.out A fs.length cap (rowsF fs) rfl (rowsF_len fs) HS2.out.news (rowsF_one fs) (by unfold maxLen; omega) (by omega) HB2.out.size ?_)
        intro v7 w7 hown7 hgr7 _ _
        have HB7 : Hid (Below w.heap.size w w7) := HB2.out.grown hgr7 HB2.out.size (fun g hg => (HO2.out.lt g hg).1)
        have HP := HIDk (do_mk HE.out (Nat.le_refl _) (by simpa using hown7) HB7.out)
        clear hown7 hgr7
        go_wp2
        go_ret2
        exact HP.out
  | some j =>
    obtain ⟨hj, -⟩ := atF_lt hat
    have hai : atI fs o.n = (j : Int) := by rw [atI, hat]
    have hgd : fs.getD j noF = fs[j] := by rw [List.getD_eq_getElem?_getD, List.getElem?_eq_getElem hj]; rfl
    rw [hai]
    have k0 : (0 : Int) ≤ (j : Int) := by omega
    have k3 : (j : Int) < (fs.length : Int) := by omega
    obtain ⟨b, off, rfl, hb, t0, t1⟩ : ∃ b off, ad = some ⟨b, off, none⟩ ∧ b < w.heap.size ∧ AtF w b (off + j * 2) fs[j] := by
      rcases HS0.out with hnil | ⟨b, off, e, hb, hr⟩
      · rw [hnil] at hj; simp at hj
      · exact ⟨b, off, e, hb, hr j hj⟩
    have HT : Hid (∀ W, Below w.heap.size w W → W.cell? ⟨b, off + j * 2 + 1, none⟩ = some (.string fs[j].d)) := fun W hW => kept hW hb t1
    have t2 := HT.out _ HB.out
    have hov : (9223372036854775807 < fs[j].d.size + o.d.size) = False := by
      have hz := HZ.out fs[j] (List.getElem_mem hj)
      unfold maxLen at hz
      simp only [eq_iff_iff, iff_false]; omega
    clear t0 t1
    by_cases k1 : o.k = 1
    · have kb : (o.k == 1) = true := by simpa using k1
      have HE : Hid (doF fs o = (putF fs o.n (fs[j].d ++ o.d), true)) := by show _ = _; rw [doF, if_pos k1, hat, ← hgd]
      clear k1 hat hai hgd
      go_wp2_with fail
      refine (l8Put_any _ cap fs o.n (fs[j].d ++ o.d) _ hlen HS.out).mono ?_
      rintro e w2 ⟨v, rfl, hown, hb⟩
      have HP := HIDk (do_mk HE.out HW.out hown (HB.out.trans (hb.mono HW.out)))
      clear hown hb
      go_wp2
      go_ret2
      exact HP.out
    · have kb : (o.k == 1) = false := by simpa using k1
      by_cases k2 : o.k = 2
      · have kc : (o.k == 2) = true := by simpa using k2
        have HE : Hid (doF fs o = (putF (cutF' fs o.n) o.t fs[j].d, true)) := by show _ = _; rw [doF, if_neg k1, hat]; simp only [if_pos k2, hgd]
        clear k1 k2 hat hai hgd
        go_wp2_with fail
        refine (l8Cut_any _ cap fs o.n _ hlen HS.out).mono ?_
        rintro e w2 ⟨v, rfl, hown, hb2⟩
        obtain ⟨adC, capC, rfl, hsC, -⟩ := own_files hown rfl
        have HSC := HIDk hsC
        have x0 := kept hb2 HLT.out HOP.out.1
        have x2 := kept hb2 HLT.out HOP.out.2
        have HB3 := HIDk (HB.out.trans (hb2.mono HW.out))
        have t3 := HT.out _ HB3.out
        have hcl : (cutF' fs o.n).length ≤ 1048576 := Nat.le_trans (cutUp_len fs o.n fs.length) hlen
        have hx2 : w.heap.size < w2.heap.size := Nat.lt_of_lt_of_le HLT.out hb2.size
        have hbl : b < w2.heap.size := Nat.lt_trans hb hx2
        clear hown hb2 t2
        go_wp2_with fail
        refine wp_region_mid0 9 (fun n => (undef :: undef :: undef :: undef :: undef :: undef :: undef :: undef :: undef :: []).getD n undef) (fun fq => { tmps := List.toArray (Value.slice (some ⟨b, off, none⟩) fs.length cap :: Value.agg #[Value.int .i64 o.k, Value.string o.n, Value.string o.t, Value.string o.d] :: undef :: Value.pointer (some ⟨w.heap.size, 0, none⟩) :: Value.slice none 0 0 :: Value.bool false :: Value.int .i64 (j : Int) :: undef :: Value.slice adC (cutF' fs o.n).length capC :: Value.slice (some ⟨b, off, none⟩) fs.length cap :: Value.pointer (some ⟨w.heap.size, 1, none⟩) :: Value.string o.n :: Value.int .i64 (j : Int) :: Value.pointer (some ⟨w.heap.size, 0, none⟩) :: Value.int .i64 o.k :: Value.bool false :: undef :: undef :: undef :: undef :: undef :: undef :: undef :: undef :: undef :: undef :: undef :: undef :: undef :: undef :: undef :: undef :: Value.int .i64 (j : Int) :: Value.bool false :: undef :: undef :: undef :: Value.slice (some ⟨b, off, none⟩) fs.length cap :: Value.pointer (some ⟨w.heap.size, 1, none⟩) :: Value.string o.n :: Value.slice adC (cutF' fs o.n).length capC :: Value.pointer (some ⟨w.heap.size, 0, none⟩) :: Value.int .i64 o.k :: Value.bool true :: fq 0 :: fq 1 :: fq 2 :: fq 3 :: fq 4 :: fq 5 :: fq 6 :: fq 7 :: fq 8 :: undef :: []), defers := [] }) (VD w.heap.size (putF (cutF' fs o.n) o.t fs[j].d) (Value.slice adC (cutF' fs o.n).length capC :: Value.pointer (some ⟨w.heap.size, 2, none⟩) :: Value.string o.t :: Value.slice (some ⟨b, off, none⟩) fs.length cap :: Value.int .i64 (j : Int) :: Value.pointer (some ⟨b, off + j * 2, none⟩) :: Value.pointer (some ⟨b, off + j * 2 + 1, none⟩) :: Value.string fs[j].d :: undef :: [])) (fun w' => Below w2.heap.size w2 w') (by kernel_rfl) rfl (by kernel_rfl) (by kernel_rfl) rfl (Below.refl _ _).drew ?stepD ?finD
        case stepD =>
          rintro i hi o ho fq w' hG hpre
          have HG : Hid (Below w2.heap.size w2 w') := hG
          replace x2 := kept hG hx2 x2
          replace t3 := kept hG hbl t3
          have HM : Hid (∀ e ∈ o.after, Region.binds .any e = true → _) := hpre
          clear hG hpre
          have hc : i = 0 ∨ i = 1 ∨ i = 2 ∨ i = 3 ∨ i = 4 ∨ i = 5 ∨ i = 6 ∨ i = 7 ∨ i = 8 := by omega
          clear hi
          rcases hc with rfl | rfl | rfl | rfl | rfl | rfl | rfl | rfl | rfl
          · obtain rfl := Option.some.inj ho
            clear ho HM
            refine wpOp_step rfl (fun K hK => ?_)
            have HK : Hid (∀ a w, _ → K a w) := hK
            clear hK
            dsimp only
            go_simp
            exact HK.out _ _ ⟨Value.slice adC (cutF' fs o.n).length capC, by simp [upd], HG.out, ⟨fun h => absurd h (by decide), fun _ => rfl⟩, fun k u hu => hu⟩
          · obtain rfl := Option.some.inj ho
            clear ho HM
            refine wpOp_step rfl (fun K hK => ?_)
            have HK : Hid (∀ a w, _ → K a w) := hK
            clear hK
            dsimp only
            go_simp
            exact HK.out _ _ ⟨Value.pointer (some ⟨w.heap.size, 2, none⟩), by simp [upd], HG.out, ⟨fun h => absurd h (by decide), fun _ => rfl⟩, fun k u hu => hu⟩
          · obtain rfl := Option.some.inj ho
            have e1 : fq 1 = Value.pointer (some ⟨w.heap.size, 2, none⟩) := (HM.out { on := 1, ground := .data } (by simp) rfl).2 (by decide)
            clear ho HM
            refine wpOp_step rfl (fun K hK => ?_)
            have HK : Hid (∀ a w, _ → K a w) := hK
            clear hK
            simp only [e1]
            go_simp
            exact HK.out _ _ ⟨Value.string o.t, by simp [upd, e1], HG.out, ⟨fun h => absurd h (by decide), fun _ => rfl⟩, fun k u hu => hu⟩
          · obtain rfl := Option.some.inj ho
            clear ho HM
            refine wpOp_step rfl (fun K hK => ?_)
            have HK : Hid (∀ a w, _ → K a w) := hK
            clear hK
            dsimp only
            go_simp
            exact HK.out _ _ ⟨Value.slice (some ⟨b, off, none⟩) fs.length cap, by simp [upd], HG.out, ⟨fun h => absurd h (by decide), fun _ => rfl⟩, fun k u hu => hu⟩
          · obtain rfl := Option.some.inj ho
            clear ho HM
            refine wpOp_step rfl (fun K hK => ?_)
            have HK : Hid (∀ a w, _ → K a w) := hK
            clear hK
            dsimp only
            go_simp
            exact HK.out _ _ ⟨Value.int .i64 (j : Int), by simp [upd], HG.out, ⟨fun h => absurd h (by decide), fun _ => rfl⟩, fun k u hu => hu⟩
          · obtain rfl := Option.some.inj ho
            have e3 : fq 3 = Value.slice (some ⟨b, off, none⟩) fs.length cap := (HM.out { on := 3, ground := .data } (by simp) rfl).2 (by decide)
            have e4 : fq 4 = Value.int .i64 (j : Int) := (HM.out { on := 4, ground := .data } (by simp) rfl).2 (by decide)
            clear ho HM
            refine wpOp_step rfl (fun K hK => ?_)
            have HK : Hid (∀ a w, _ → K a w) := hK
            clear hK
            simp only [e3, e4]
            go_simp
            exact HK.out _ _ ⟨Value.pointer (some ⟨b, off + j * 2, none⟩), by simp [upd, e3, e4], HG.out, ⟨fun h => absurd h (by decide), fun _ => rfl⟩, fun k u hu => hu⟩
          · obtain rfl := Option.some.inj ho
            have e5 : fq 5 = Value.pointer (some ⟨b, off + j * 2, none⟩) := (HM.out { on := 5, ground := .data } (by simp) rfl).2 (by decide)
            clear ho HM
            refine wpOp_step rfl (fun K hK => ?_)
            have HK : Hid (∀ a w, _ → K a w) := hK
            clear hK
            simp only [e5]
            go_simp
            exact HK.out _ _ ⟨Value.pointer (some ⟨b, off + j * 2 + 1, none⟩), by simp [upd, e5], HG.out, ⟨fun h => absurd h (by decide), fun _ => rfl⟩, fun k u hu => hu⟩
          · obtain rfl := Option.some.inj ho
            have e6 : fq 6 = Value.pointer (some ⟨b, off + j * 2 + 1, none⟩) := (HM.out { on := 6, ground := .data } (by simp) rfl).2 (by decide)
            clear ho HM
            refine wpOp_step rfl (fun K hK => ?_)
            have HK : Hid (∀ a w, _ → K a w) := hK
            clear hK
            simp only [e6]
            go_simp
            exact HK.out _ _ ⟨Value.string fs[j].d, by simp [upd, e6], HG.out, ⟨fun h => absurd h (by decide), fun _ => rfl⟩, fun k u hu => hu⟩
          · obtain rfl := Option.some.inj ho
            have e0 : fq 0 = Value.slice adC (cutF' fs o.n).length capC := (HM.out { on := 0, ground := .data } (by simp) rfl).2 (by decide)
            have e2 : fq 2 = Value.string o.t := (HM.out { on := 2, ground := .data } (by simp) rfl).2 (by decide)
            have e7 : fq 7 = Value.string fs[j].d := (HM.out { on := 7, ground := .data } (by simp) rfl).2 (by decide)
            clear ho HM
            refine wpOp_step rfl (fun K hK => ?_)
            have HK : Hid (∀ a w, _ → K a w) := hK
            clear hK
            simp only [e0, e2, e7]
            go_simp
            refine (l8Put_any adC capC (cutF' fs o.n) o.t fs[j].d w' hcl (HSC.out.below HG.out)).mono ?_
            rintro e w5 ⟨v5, rfl, hown5, hb5⟩
            have HA : Hid (Below w'.heap.size w' w5) := hb5
            have HQ := HIDk (own_base hown5 (Nat.le_trans (Nat.le_of_lt hx2) HG.out.size))
            clear hown5 hb5
            go_wp2_with fail
            exact HK.out _ _ ⟨v5, by simp [upd, e0, e2, e7], HG.out.trans (HA.out.mono HG.out.size), ⟨fun _ => ⟨_, rfl, HQ.out⟩, fun h => absurd rfl h⟩, VD.later HA.out⟩
        case finD =>
          rintro o ho fq w' hG hall
          obtain ⟨v8, e8, hS⟩ := (hall 8 (by omega)).1 rfl
          have HG : Hid (Below w2.heap.size w2 w') := hG
          clear hG hall
          obtain rfl := Option.some.inj ho
          clear ho
          refine wpOp_step rfl (fun K hK => ?_)
          have HK : Hid (∀ a w, _ → K a w) := hK
          clear hK
          simp only [e8]
          go_simp
          refine HK.out _ _ ?_
          clear HK
          have HQ := HIDk hS
          have HP := HIDk (do_mk HE.out (Nat.le_refl _) HQ.out (HB3.out.trans (HG.out.mono HB3.out.size)))
          clear hS HQ
          go_wp2
          go_ret2
          exact HP.out
      · have kc : (o.k == 2) = false := by simpa using k2
        have HE : Hid (doF fs o = (cutF' fs o.n, true)) := by show _ = _; rw [doF, if_neg k1, hat]; simp only [if_neg k2]
        clear k1 k2 hat hai hgd
        go_wp2_with fail
        refine (l8Cut_any _ cap fs o.n _ hlen HS.out).mono ?_
        rintro e w2 ⟨v, rfl, hown, hb2⟩
        have x0 := kept hb2 HLT.out HOP.out.1
        have HP := HIDk (do_mk HE.out HW.out hown (HB.out.trans (hb2.mono HW.out)))
        clear hown hb2
        go_wp2
        go_ret2
        exact HP.out
end Go.Proofs.Ytbfimfmfdllejaa
