/- Contract of the program's op on a folder, behind its interface. -/
import Derived.Test.YtbfimfmfdllejaaImplFd4
namespace Go.Proofs.Ytbfimfmfdllejaa
open Go.ChangeShapes Go.WideShapes Go.ChangeAt Go.RowKit Go.Maps

def codeF (fs : List Fl) (o : Dop) : Int := if formB o = false then 2 else if (doF fs o).2 = false then 3 else if filesB (doF fs o).1 = true then 0 else 4
def DoTo (w : World) (b n : Nat) (fs : List Fl) (o : Dop) (e : Ending) (w' : World) : Prop := e = .returned (.int .i64 (codeF fs o)) ∧ Below b w w' ∧ (codeF fs o = 0 → ∃ M, Fold w' b (n + 1) M (doF fs o).1)
theorem doTo_no {w w' : World} {b n : Nat} {fs : List Fl} {o : Dop} {c : Int} (h : codeF fs o = c) (hc : c ≠ 0) (hB : Below b w w') : DoTo w b n fs o (.returned (.int .i64 c)) w' := ⟨by rw [h], hB, fun h0 => absurd (h.symm.trans h0) hc⟩

theorem doTo_yes {w w' : World} {b n : Nat} {fs : List Fl} {o : Dop} (h : codeF fs o = 0) (hB : Below b w w') (hF : ∃ M, Fold w' b (n + 1) M (doF fs o).1) : DoTo w b n fs o (.returned (.int .i64 0)) w' := ⟨by rw [h], hB, fun _ => hF⟩
/-- the name of a type's method, as the program has it -/
def mname (P : Program) (t : TypeId) (i : Nat) : String := ((P.info? t).bind fun q => (q.methods[i]?).map (·.name)).getD default
set_option maxRecDepth 100000 in
theorem meth_fa (n d : ByteArray) (w : World) {name : String} (h : name = mname Try.prog 119 1) : (method 269 119 (.agg #[.string n, .string d]) name).run Try.prog w = .ok (128, .agg #[.string n, .string d]) w := by subst h; kernel_rfl
set_option maxRecDepth 100000 in
theorem meth_fn (n d : ByteArray) (w : World) {name : String} (h : name = mname Try.prog 121 1) : (method 269 121 (.agg #[.string n, .string d]) name).run Try.prog w = .ok (130, .agg #[.string n, .string d]) w := by subst h; kernel_rfl
set_option maxRecDepth 100000 in
theorem meth_fm (n : ByteArray) (w : World) {name : String} (h : name = mname Try.prog 123 1) : (method 269 123 (.agg #[.string n]) name).run Try.prog w = .ok (133, .agg #[.string n]) w := by subst h; kernel_rfl
set_option maxRecDepth 100000 in
theorem meth_da (n d : ByteArray) (w : World) {name : String} (h : name = mname Try.prog 119 0) : (method 269 119 (.agg #[.string n, .string d]) name).run Try.prog w = .ok (127, .agg #[.string n, .string d]) w := by subst h; kernel_rfl
set_option maxRecDepth 100000 in
theorem meth_dn (n d : ByteArray) (w : World) {name : String} (h : name = mname Try.prog 121 0) : (method 269 121 (.agg #[.string n, .string d]) name).run Try.prog w = .ok (129, .agg #[.string n, .string d]) w := by subst h; kernel_rfl
set_option maxRecDepth 100000 in
theorem meth_dm (n : ByteArray) (w : World) {name : String} (h : name = mname Try.prog 123 0) : (method 269 123 (.agg #[.string n]) name).run Try.prog w = .ok (132, .agg #[.string n]) w := by subst h; kernel_rfl
theorem nm_le {s : ByteArray} (h : nmB s = true) : s.size ≤ 100 := by simp only [nmB, Bool.and_eq_true, decide_eq_true_eq] at h; exact h.2
/-- the code when all is done -/
theorem code_done {fs : List Fl} {o : Dop} (hf : formB o = true) (h2 : (doF fs o).2 = true) (hu : UpL fs) (hN : NamesL fs) : codeF fs o = if (decide ((doF fs o).1.length ≤ 60) && decide (sumF (doF fs o).1 ≤ 200000)) = true then 0 else 4 := by
  obtain ⟨a, b⟩ := doF_right hu hN hf
  rw [codeF, if_neg (by rw [hf]; decide), if_neg (by rw [h2]; decide), filesB_eq a b]
/-- what withinLimits asks of what an op makes -/
theorem limits_any (o : Dop) (b n : Nat) (M : ByteArray → Option Value) (fs gs : List Fl) (w : World) (hg : (doF fs o).1 = gs) (ho : o.small) (hf : formB o = true) (hu : UpL fs) (hN : NamesL fs) (hl : fs.length ≤ 60) (hd : ∀ f ∈ fs, f.d.size ≤ 200000) (H : Fold w b n M gs) :
    Calls Try.prog 54 #[.map (some b)] w fun e w' => e = .returned (.bool (decide (gs.length ≤ 60) && decide (sumF gs ≤ 200000))) ∧ Below w.heap.size w w' := by
  obtain ⟨a, c⟩ := doF_right hu hN hf
  obtain ⟨h1, h2⟩ := doF_small ho (fun f h => ⟨Nat.le_trans (nm_le (hN f h)) (by unfold maxLen; omega), hd f h⟩) hl
  rw [hg] at a c h1 h2
  exact withinLimits_any b n M gs w H a (fun f h => (h2 f h).1) (fun f h => Nat.le_trans (h2 f h).2 (by decide)) h1
set_option maxRecDepth 100000 in
set_option maxHeartbeats 4000000 in
theorem folderDo_any (o : Dop) (b n : Nat) (M : ByteArray → Option Value) (fs : List Fl) (w : World) (ho : o.small) (hn : n < maxLen) (hu : UpL fs) (hN : NamesL fs) (hl : fs.length ≤ 60) (hd : ∀ f ∈ fs, f.d.size ≤ 200000) (H : Fold w b n M fs) :
    Calls Try.prog 41 #[.map (some b), .agg #[.int .i64 o.k, .string o.n, .string o.t, .string o.d]] w (DoTo w b n fs o) := by
  obtain ⟨W, hW⟩ : ∃ W, W = w.alloc (.cells #[.int .i64 o.k, .string o.n, .string o.t, .string o.d] 37) := ⟨_, rfl⟩
  have HB : Hid (Below w.heap.size w W) := by rw [hW]; exact (Below.refl _ _).alloc (Nat.le_refl _) _
  have HL := HIDk H.lt
  have H1 := HIDk (H.below HB.out)
  have HO := HIDk ho
  have HFT := HIDk (small_fits ho)
  have HU := HIDk hu
  have HN := HIDk hN
  have HD := HIDk hd
  clear H ho hu hN hd
  go_enter Try.func41, Try.ntmps41
  go_wp2_with fail
  rw [← hW]
  clear hW
  refine (opOf_any o W HFT.out).mono ?_
  rintro e w1 ⟨⟨v, rfl, hv⟩, hb1⟩
  have H2 := HIDk (H1.out.below hb1)
  have HB1 := HIDk ((HB.out.mono (Nat.le_of_lt HL.out)).trans (hb1.mono (Nat.le_trans (Nat.le_of_lt HL.out) HB.out.size)))
  clear H1 HB hb1
  cases hf : formB o with
  | false =>
    have HC : Hid (codeF fs o = 2) := by show _ = _; rw [codeF, if_pos hf]
    go_wp2
    go_ret
    exact doTo_no HC.out (by decide) HB1.out
  | true =>
    obtain rfl := hv hf
    have HF := HIDk hf
    clear hv hf
    by_cases k1 : o.k = 1
    · have hv : opV o = .iface 119 (.agg #[.string o.n, .string o.d]) := by rw [opV, if_pos k1]
      have HG := HIDk (doF_add fs k1)
      rw [hv]
      clear hv k1
      go_wp2_with fail
      rw [meth_fa (h := ?_)]
      rotate_left
      · kernel_rfl
      go_wp2_with fail
      refine (findsAdd_any o b w1).mono ?_
      rintro e w2 ⟨rfl, hb2⟩
      have H3 := HIDk (H2.out.below hb2)
      have HB2 := HIDk (HB1.out.trans (hb2.mono (Nat.le_of_lt H2.out.lt)))
      clear H2 HB1 hb2
      go_wp2_with fail
      rw [meth_da (h := ?_)]
      rotate_left
      · kernel_rfl
      go_wp2_with fail
      refine (doAdd_any o b n M fs w2 HFT.out.1 hn HU.out H3.out (by have := dataF_le HD.out o.n; have := HO.out.2.2; omega)).mono ?_
      rintro e w3 ⟨⟨v3, rfl⟩, ⟨M3, h3⟩, hb3⟩
      have h4 : Fold w3 b (n + 1) M3 (doF fs o).1 := by rw [HG.out]; exact h3
      have H4 := HIDk h4
      have HB3 := HIDk (HB2.out.trans hb3)
      have HC := HIDk (code_done HF.out (by rw [HG.out]) HU.out HN.out)
      clear H3 HB2 h3 h4 hb3 HG
      go_wp2_with fail
      refine (limits_any o b (n + 1) M3 fs _ w3 rfl HO.out HF.out HU.out HN.out hl HD.out H4.out).mono ?_
      rintro e w4 ⟨rfl, hb4⟩
      have H5 := HIDk (H4.out.below hb4)
      have HB4 := HIDk (HB3.out.trans (hb4.mono (Nat.le_of_lt H4.out.lt)))
      clear H4 HB3 hb4
      cases hL : (decide ((doF fs o).1.length ≤ 60) && decide (sumF (doF fs o).1 ≤ 200000)) with
      | true =>
        have HC0 : Hid (codeF fs o = 0) := by show _ = _; rw [HC.out, hL]; rfl
        clear hL HC
        go_wp2
        go_ret
        exact doTo_yes HC0.out HB4.out ⟨_, H5.out⟩
      | false =>
        have HC4 : Hid (codeF fs o = 4) := by show _ = _; rw [HC.out, hL]; rfl
        clear hL HC
        go_wp2
        go_ret
        exact doTo_no HC4.out (by decide) HB4.out
    · by_cases k2 : o.k = 2
      · have hv : opV o = .iface 121 (.agg #[.string o.n, .string o.t]) := by rw [opV, if_neg k1, if_pos k2]
        rw [hv]
        go_wp2_with fail
        rw [meth_fn (h := ?_)]
        rotate_left
        · kernel_rfl
        go_wp2_with fail
        refine (findsRen_any o b n M fs w1 HFT.out.1 H2.out).mono ?_
        rintro e w2 ⟨rfl, hb2⟩
        have H3 := HIDk (H2.out.below hb2)
        have HB2 := HIDk (HB1.out.trans (hb2.mono (Nat.le_of_lt H2.out.lt)))
        clear H2 HB1 hb2 hv
        cases hh : hasF fs o.n with
        | false =>
          have HC : Hid (codeF fs o = 3) := by show _ = _; rw [codeF, if_neg (by rw [HF.out]; decide), if_pos (by rw [doF_none fs k1 hh])]
          clear k1 k2
          go_wp2
          go_ret
          exact doTo_no HC.out (by decide) HB2.out
        | true =>
          have HG := HIDk (doF_ren fs k2 hh)
          clear k1 k2
          go_wp2_with fail
          rw [meth_dn (h := ?_)]
          rotate_left
          · kernel_rfl
          go_wp2_with fail
          refine (doRen_any o b n M fs w2 HFT.out.1 HFT.out.2.1 hn HU.out H3.out).mono ?_
          rintro e w3 ⟨⟨v3, rfl⟩, ⟨M3, h3⟩, hb3⟩
          have h4 : Fold w3 b (n + 1) M3 (doF fs o).1 := by rw [HG.out]; exact h3
          have H4 := HIDk h4
          have HB3 := HIDk (HB2.out.trans hb3)
          have HC := HIDk (code_done HF.out (by rw [HG.out]) HU.out HN.out)
          clear H3 HB2 h3 h4 hb3 HG
          go_wp2_with fail
          refine (limits_any o b (n + 1) M3 fs _ w3 rfl HO.out HF.out HU.out HN.out hl HD.out H4.out).mono ?_
          rintro e w4 ⟨rfl, hb4⟩
          have H5 := HIDk (H4.out.below hb4)
          have HB4 := HIDk (HB3.out.trans (hb4.mono (Nat.le_of_lt H4.out.lt)))
          clear H4 HB3 hb4
          cases hL : (decide ((doF fs o).1.length ≤ 60) && decide (sumF (doF fs o).1 ≤ 200000)) with
          | true =>
            have HC0 : Hid (codeF fs o = 0) := by show _ = _; rw [HC.out, hL]; rfl
            clear hL HC
            go_wp2
            go_ret
            exact doTo_yes HC0.out HB4.out ⟨_, H5.out⟩
          | false =>
            have HC4 : Hid (codeF fs o = 4) := by show _ = _; rw [HC.out, hL]; rfl
            clear hL HC
            go_wp2
            go_ret
            exact doTo_no HC4.out (by decide) HB4.out
      · have hv : opV o = .iface 123 (.agg #[.string o.n]) := by rw [opV, if_neg k1, if_neg k2]
        rw [hv]
        go_wp2_with fail
        rw [meth_fm (h := ?_)]
        rotate_left
        · kernel_rfl
        go_wp2_with fail
        refine (findsRem_any o b n M fs w1 HFT.out.1 H2.out).mono ?_
        rintro e w2 ⟨rfl, hb2⟩
        have H3 := HIDk (H2.out.below hb2)
        have HB2 := HIDk (HB1.out.trans (hb2.mono (Nat.le_of_lt H2.out.lt)))
        clear H2 HB1 hb2 hv
        cases hh : hasF fs o.n with
        | false =>
          have HC : Hid (codeF fs o = 3) := by show _ = _; rw [codeF, if_neg (by rw [HF.out]; decide), if_pos (by rw [doF_none fs k1 hh])]
          clear k1 k2
          go_wp2
          go_ret
          exact doTo_no HC.out (by decide) HB2.out
        | true =>
          have HG := HIDk (doF_rem fs k1 k2 hh)
          clear k1 k2
          go_wp2_with fail
          rw [meth_dm (h := ?_)]
          rotate_left
          · kernel_rfl
          go_wp2_with fail
          refine (doRem_any o b n M fs w2 HFT.out.1 H3.out).mono ?_
          rintro e w3 ⟨⟨v3, rfl⟩, ⟨M3, h3'⟩, hb3⟩
          have h3 := h3'.mono (Nat.le_succ n)
          clear h3'
          have h4 : Fold w3 b (n + 1) M3 (doF fs o).1 := by rw [HG.out]; exact h3
          have H4 := HIDk h4
          have HB3 := HIDk (HB2.out.trans hb3)
          have HC := HIDk (code_done HF.out (by rw [HG.out]) HU.out HN.out)
          clear H3 HB2 h3 h4 hb3 HG
          go_wp2_with fail
          refine (limits_any o b (n + 1) M3 fs _ w3 rfl HO.out HF.out HU.out HN.out hl HD.out H4.out).mono ?_
          rintro e w4 ⟨rfl, hb4⟩
          have H5 := HIDk (H4.out.below hb4)
          have HB4 := HIDk (HB3.out.trans (hb4.mono (Nat.le_of_lt H4.out.lt)))
          clear H4 HB3 hb4
          cases hL : (decide ((doF fs o).1.length ≤ 60) && decide (sumF (doF fs o).1 ≤ 200000)) with
          | true =>
            have HC0 : Hid (codeF fs o = 0) := by show _ = _; rw [HC.out, hL]; rfl
            clear hL HC
            go_wp2
            go_ret
            exact doTo_yes HC0.out HB4.out ⟨_, H5.out⟩
          | false =>
            have HC4 : Hid (codeF fs o = 4) := by show _ = _; rw [HC.out, hL]; rfl
            clear hL HC
            go_wp2
            go_ret
            exact doTo_no HC4.out (by decide) HB4.out
end Go.Proofs.Ytbfimfmfdllejaa
