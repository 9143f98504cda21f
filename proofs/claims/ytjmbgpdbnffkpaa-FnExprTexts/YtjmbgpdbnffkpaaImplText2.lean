/- The contract of the program's writing of an expression's text. -/
import Derived.Test.YtjmbgpdbnffkpaaImplText
namespace Go.Proofs.Ytjmbgpdbnffkpaa
open Go.ChangeShapes Go.WideShapes Go.ChangeAt Go.RowKit
open Pl

/-- the text that stands at place j: the last one is the whole -/
def tAt (es : List Ex) (j : Nat) : ByteArray := if j + 1 < es.length then txt es j else txtAt es j false
def tUp (es : List Ex) (k : Nat) : List Value := strs ((List.range k).map (tAt es))
theorem tUp_succ (es : List Ex) (k : Nat) : tUp es (k + 1) = tUp es k ++ [.string (tAt es k)] := by simp [tUp, strs, List.range_succ]
theorem tUp_len (es : List Ex) (k : Nat) : (tUp es k).length = k := by simp [tUp, strs]
theorem tUp_at (es : List Ex) (k j : Nat) (h : j < (tUp es k).length) : (tUp es k)[j] = .string (tAt es j) := by simp [tUp, strs]

/-- the same place written twice -/
theorem Fil.put2 {w wr : World} {g n o : Nat} {xs : List Value} (h : Fil w wr g n xs) (a v : Value) (ho : o = xs.length) (hn : o < n) : Fil w ((wr.setCell ⟨g, o, none⟩ a).setCell ⟨g, o, none⟩ v) g n (xs ++ [v]) := by
  have h1 : Fil w (wr.setCell ⟨g, o, none⟩ a) g n xs := by
    refine ⟨h.below.setCell (p := ⟨g, o, none⟩) h.ge a, h.ge, by simpa using h.lt, fun j hj => ?_, fun j hj => ?_, fun j => by simpa using h.free j⟩
    · rw [setO' (by omega)]; exact h.done j hj
    · by_cases e : o = j
      · subst e
        obtain ⟨u, hu⟩ := Option.isSome_iff_exists.mp (h.there o hn)
        rw [setS' hu]; rfl
      · rw [setO' e]; exact h.there j hj
  exact h1.put v ho hn

set_option maxHeartbeats 4000000 in
theorem implExprText_row (b off cap : Nat) (rs : List ER) (w : World) (hlen : rs.length ≤ 1048576) (hl : ∀ r ∈ rs, r.e.light) (hf : ∀ r ∈ rs, r.e.fits) (hcp : ∀ r ∈ rs, r.e.allow.length ≤ r.capA) (hb : b < w.heap.size) (hr : ∀ (i : Nat) (h : i < rs.length), At5 w b (off + i * 5) rs[i]) (hok : ∀ r ∈ rs, r.ok w) :
    Calls Try.prog 14 #[.slice (some ⟨b, off, none⟩) rs.length cap] w fun e w' => e = .returned (.string (exText (exs rs))) ∧ Below w.heap.size w w' := by
  have HEL : Hid ((exs rs).length = rs.length) := exs_len rs
  have HR : Hid (∀ (i : Nat) (h : i < rs.length), At5 w b (off + i * 5) rs[i]) := hr
  have HO : Hid (∀ r ∈ rs, r.ok w) := hok
  have HIM := implExprOk_row b off cap rs w hlen hl hf hcp hb hr hok
  clear hl hf hcp hr hok
  obtain ⟨inf, z, hi, hz0, hz1, hz2⟩ := infoOf (t := 9) (n := 1) (b := 16) (by kernel_rfl)
  go_enter Try.func14, Try.ntmps14
  go_wp2_with fail
  refine HIM.mono ?_
  rintro e w1 ⟨he, hb1⟩
  rw [← spec_impl] at he
  have HB1 : Hid (Below w.heap.size w w1) := hb1
  clear hb1 HIM
  cases hE : specE (exs rs) with
  | false =>
    rw [hE] at he
    subst he
    have HX : Hid (exText (exs rs) = ⟨#[]⟩) := exText_no hE
    clear hi hz0 hz1 hz2
    go_wp2
    go_ret
    exact ⟨by rw [HX.out]; rfl, HB1.out⟩
  | true =>
    rw [hE] at he
    subst he
    have hok := okE_of hE
    have HOK : Hid (okE (exs rs)) := hok
    have h15 : rs.length ≤ 15 := by have := hok.1; rw [exs_len] at this; exact this
    have h1 : 1 ≤ rs.length := by
      have := hE
      unfold specE at this
      simp only [Bool.and_eq_true, decide_eq_true_eq, exs_len] at this
      exact this.1.1.1.1.1
    have HX : Hid (exText (exs rs) = tAt (exs rs) (rs.length - 1)) := by show _ = _; rw [exText_yes hE]; unfold tAt; rw [exs_len, if_neg (by omega)]
    have hbw1 : b < w1.heap.size := Nat.lt_of_lt_of_le hb HB1.out.size
    have HR1 : Hid (∀ (i : Nat) (h : i < rs.length), At5 w1 b (off + i * 5) rs[i]) := fun i hi => (HR.out i hi).later hb HB1.out
    have HO1 : Hid (∀ r ∈ rs, r.ok w1) := fun r hr => (HO.out r hr).below HB1.out
    clear hok hE
    go_wp2_with (at_make; refine wpList_make_full _ rfl _ _ 60 rfl w1.heap.size 9 inf z 1 Try.underlying60 hi hz0 hz1 .i64 .i64 _ _ rs.length rfl rfl rfl rfl (by rw [hz2]; omega) (by unfold maxLen; omega) (Nat.le_refl _) ?_; intro w0 hown0 hgrow0)
    have F0 : Fil w1 w0 w1.heap.size (rs.length * 1) [] := fil_made hown0 hgrow0
    clear hown0 hgrow0 hi hz0 hz1 hz2
    go_loopw [14] (fun i wr => ∃ k : Nat, k ≤ rs.length ∧ i = .int .i64 k ∧ Hid (Fil w1 wr w1.heap.size (rs.length * 1) (tUp (exs rs) k))) (fun i _ => rs.length - (intOf i).toNat)
    case atStart => exact ⟨0, Nat.zero_le _, rfl, F0⟩
    case round =>
      obtain ⟨k, hk, rfl, HFI⟩ := hrel
      have hB := HFI.out.below
      have hgl := HFI.out.lt
      by_cases hlt : k < rs.length
      · have hltE : k < (exs rs).length := by rw [exs_len]; exact hlt
        have heE : (exs rs)[k] = rs[k].e := by simp [exs]
        obtain ⟨t0, t1, t2, t3, t4⟩ := (HR1.out k hlt).later hbw1 hB
        have hnode : nodeB rs[k].e = true := by rw [← heE]; exact HOK.out.2.1 k hltE
        have hkl := kids_lt HOK.out hltE
        rw [heE] at hkl
        have hk1 : (0 : Int) ≤ (k : Int) := by omega
        have hk2 : (k : Int) < (rs.length : Int) := by omega
        obtain ⟨W, hW⟩ : ∃ W, W = wr.alloc (.cells #[.int .i64 rs[k].e.kind, .slice rs[k].adA rs[k].e.allow.length rs[k].capA, .string rs[k].e.over, .string rs[k].e.name, .slice rs[k].adK rs[k].e.kids.length rs[k].capK] 56) := ⟨_, rfl⟩
        have hal : Below wr.heap.size wr W := by rw [hW]; exact (Below.refl _ _).alloc (Nat.le_refl _) _
        have hpl : wr.heap.size < W.heap.size := by rw [hW]; simp
        have g4 : W.cell? ⟨wr.heap.size, 4, none⟩ = some (.slice rs[k].adK rs[k].e.kids.length rs[k].capK) := by rw [hW]; simp
        have HFW := HFI.out.later hal
        have HRY : Hid (Ready W w1.heap.size rs.length (txtF (exs rs) k) rs[k].e.kids) := by
          refine ⟨HFW.lt, fun m hm => ?_⟩
          obtain ⟨m0, m1⟩ := hkl m hm
          refine ⟨m0, by omega, ?_, ?_⟩
          · rw [HFW.done m.toNat (by rw [tUp_len]; exact m1), tUp_at]
            unfold tAt txtF
            rw [if_pos (by rw [exs_len]; omega), if_pos m1]
          · unfold txtF
            rw [if_pos m1, txt_eq]
            exact txt_small HOK.out _ (by rw [exs_len]; omega) true
        have HOKr : Hid (rs[k].ok W) := ((HO1.out _ (List.getElem_mem hlt)).below hB).below hal
        have HNK := nodeText_any rs[k] w1.heap.size rs.length rs.length (txtF (exs rs) k) W hnode HOKr.out HRY.out
        obtain ⟨N, hN⟩ : ∃ N, N = nodeT (txtF (exs rs) k) rs[k].e := ⟨_, rfl⟩
        have hNs : N.size ≤ 20000000000000 + 2 := by
          have := txt_small HOK.out k hltE false
          unfold txtAt at this
          rw [exAt_eq hltE, heE] at this
          have e1 : inT rs[k].e false (nodeT (txtF (exs rs) k) rs[k].e) = N := by rw [hN]; simp [inT]
          rw [e1] at this
          omega
        have HTf : Hid (txtAt (exs rs) k false = N) := by show _ = _; unfold txtAt; rw [exAt_eq hltE, heE, hN]; simp [inT]
        have HTt : Hid (txt (exs rs) k = inT rs[k].e true N) := by show _ = _; rw [txt_eq]; unfold txtAt; rw [exAt_eq hltE, heE, hN]
        obtain ⟨-, hkind⟩ := nodeB_kids hnode
        have HNO : Hid (nodeB rs[k].e = true) := hnode
        rw [← hN] at HNK
        clear hN hkl heE HFW hnode
        go_wp2_with fail
        rw [← hW]
        refine HNK.mono ?_
        rintro e w2 ⟨rfl, hb2⟩
        have hF2 := (HFI.out.later hal).later hb2
        have hgp : w1.heap.size ≠ wr.heap.size := by omega
        have c4 := kept hb2 hpl g4
        have fz := hF2.free
        obtain ⟨v0, u0⟩ := Option.isSome_iff_exists.mp (hF2.there k (by omega))
        have HF2 : Hid (Fil w1 w2 w1.heap.size (rs.length * 1) (tUp (exs rs) k)) := hF2
        clear hb2 hal HNK hW t0 t1 t2 t3 t4 hF2 g4
        by_cases hkk : 0 < rs[k].e.kids.length
        · have hkk' : (0 : Int) < (rs[k].e.kids.length : Int) := by omega
          have hk456 : ¬ rs[k].e.kind = 1 ∧ ¬ rs[k].e.kind = 2 ∧ ¬ rs[k].e.kind = 3 := by
            have := HNO.out
            unfold nodeB at this
            refine ⟨fun h => ?_, fun h => ?_, fun h => ?_⟩
            · rw [if_pos h] at this; simp at this; rw [this.2] at hkk; simp at hkk
            · rw [h] at this; simp at this; rw [this.2] at hkk; simp at hkk
            · rw [h] at this; simp at this; rw [this.2] at hkk; simp at hkk
          by_cases hlast : k < rs.length - 1
          · have hl' : (k : Int) < (rs.length : Int) - 1 := by omega
            have HTA : Hid (tAt (exs rs) k = ⟨#[40]⟩ ++ N ++ ⟨#[41]⟩) := by
              show _ = _
              unfold tAt
              rw [if_pos (by rw [exs_len]; omega), HTt.out]
              simp [inT, hk456]
            have hF3 := HF2.out.put2 (.string N) (.string (⟨#[40]⟩ ++ N ++ ⟨#[41]⟩)) (o := k) (by rw [tUp_len]) (by omega)
            rw [← HTA.out, ← tUp_succ] at hF3
            rw [HTA.out] at hF3
            have HF3 : Hid (Fil w1 ((w2.setCell ⟨w1.heap.size, k, none⟩ (.string N)).setCell ⟨w1.heap.size, k, none⟩ (.string (⟨#[40]⟩ ++ N ++ ⟨#[41]⟩))) w1.heap.size (rs.length * 1) (tUp (exs rs) (k + 1))) := hF3
            clear hF3
            go_wp2
            go_roundw
            case rel => exact ⟨k + 1, by omega, by go_num, HF3⟩
            case measure => first | (simp [intOf]; done) | (simp [intOf]; omega)
          · have hl' : ¬ (k : Int) < (rs.length : Int) - 1 := by omega
            have HTA : Hid (tAt (exs rs) k = N) := by show _ = _; unfold tAt; rw [if_neg (by rw [exs_len]; omega), HTf.out]
            have hF3 := HF2.out.put (.string N) (o := k) (by rw [tUp_len]) (by omega)
            have e3 : tUp (exs rs) k ++ [.string N] = tUp (exs rs) (k + 1) := by rw [tUp_succ, HTA.out]
            rw [e3] at hF3
            have HF3 : Hid (Fil w1 (w2.setCell ⟨w1.heap.size, k, none⟩ (.string N)) w1.heap.size (rs.length * 1) (tUp (exs rs) (k + 1))) := hF3
            clear hF3 e3
            go_wp2
            go_roundw
            case rel => exact ⟨k + 1, by omega, by go_num, HF3⟩
            case measure => first | (simp [intOf]; done) | (simp [intOf]; omega)
        · have hkk' : ¬ (0 : Int) < (rs[k].e.kids.length : Int) := by omega
          have hk123 : rs[k].e.kind = 1 ∨ rs[k].e.kind = 2 ∨ rs[k].e.kind = 3 := by
            have := HNO.out
            unfold nodeB at this
            rcases hkind with h | h | h | h | h | h
            · exact .inl h
            · exact .inr (.inl h)
            · exact .inr (.inr h)
            · rw [h] at this; simp at this; omega
            · rw [h] at this; simp at this; omega
            · rw [h] at this; simp at this; omega
          have HTA : Hid (tAt (exs rs) k = N) := by
            show _ = _
            unfold tAt
            split
            · rw [HTt.out]; rcases hk123 with h | h | h <;> simp [inT, h]
            · exact HTf.out
          have hF3 := HF2.out.put (.string N) (o := k) (by rw [tUp_len]) (by omega)
          have e3 : tUp (exs rs) k ++ [.string N] = tUp (exs rs) (k + 1) := by rw [tUp_succ, HTA.out]
          rw [e3] at hF3
          have HF3 : Hid (Fil w1 (w2.setCell ⟨w1.heap.size, k, none⟩ (.string N)) w1.heap.size (rs.length * 1) (tUp (exs rs) (k + 1))) := hF3
          clear hF3 e3 hk123
          go_wp2
          go_roundw
          case rel => exact ⟨k + 1, by omega, by go_num, HF3⟩
          case measure => first | (simp [intOf]; done) | (simp [intOf]; omega)
      · obtain rfl : k = rs.length := by omega
        have a0 := HFI.out.done (rs.length - 1) (by rw [tUp_len]; omega)
        rw [tUp_at] at a0
        have hcast : ((rs.length : Int) - 1) = ((rs.length - 1 : Nat) : Int) := by omega
        have h00 : (0 : Int) ≤ ((rs.length - 1 : Nat) : Int) := by omega
        have h01 : ((rs.length - 1 : Nat) : Int) < (rs.length : Int) := by omega
        have HBB : Hid (Below w.heap.size w wr) := HB1.out.trans (hB.mono HB1.out.size)
        go_wp2
        go_ret
        exact ⟨by rw [HX.out]; rfl, HBB.out⟩

theorem implExprText_any (ad : Option Addr) (cap : Nat) (rs : List ER) (w : World) (hlen : rs.length ≤ 1048576) (hl : ∀ r ∈ rs, r.e.light) (hf : ∀ r ∈ rs, r.e.fits) (hcp : ∀ r ∈ rs, r.e.allow.length ≤ r.capA) (hs : SlE w ad rs) :
    Calls Try.prog 14 #[.slice ad rs.length cap] w fun e w' => e = .returned (.string (exText (exs rs))) ∧ Below w.heap.size w w' := by
  rcases hs with rfl | ⟨b, off, rfl, hb, hr, hok⟩
  · have HIM := implExprOk_any ad cap [] w hlen hl hf hcp (.inl rfl)
    go_enter Try.func14, Try.ntmps14
    go_wp2_with fail
    refine HIM.mono ?_
    rintro e w1 ⟨he, hb1⟩
    have h0 : implE (exs []) = false := rfl
    rw [h0] at he
    subst he
    have HB1 : Hid (Below w.heap.size w w1) := hb1
    clear hb1 HIM h0
    go_wp2
    go_ret
    exact ⟨rfl, HB1.out⟩
  · exact implExprText_row b off cap rs w hlen hl hf hcp hb hr hok

end Go.Proofs.Ytjmbgpdbnffkpaa
