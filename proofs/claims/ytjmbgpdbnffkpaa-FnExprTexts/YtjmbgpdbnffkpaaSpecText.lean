/- Contracts of the document's functions that write an expression's text. -/
import Derived.Test.YtjmbgpdbnffkpaaPlainText
import Derived.Test.YtjmbgpdbnffkpaaSpecTree
namespace Go.Proofs.Ytjmbgpdbnffkpaa
open Go.ChangeShapes Go.WideShapes Go.ChangeAt Go.RowKit
open Pl

theorem ret_str' {a b : ByteArray} (h : a = b) : Ending.returned (.string a) = .returned (.string b) := by rw [h]
theorem empty_app (a : ByteArray) : (⟨#[]⟩ : ByteArray) ++ a = a := by apply ext_data'; simp [ByteArray.data_append]

theorem l3Allow_any (a : Al) (w : World) (h1 : a.t.size ≤ 12) (h2 : a.s.size ≤ 12) :
    Calls Try.prog 75 #[.agg #[.string a.t, .string a.s]] w fun e w' => e = .returned (.string (alText a)) ∧ Below w.heap.size w w' := by
  have hB := (Below.refl w.heap.size w).alloc (Nat.le_refl _) (.cells #[.string a.t, .string a.s] 102)
  cases he : a.s.toList.isEmpty with
  | true =>
    go_enter Try.func75, Try.ntmps75
    go_wp2
    go_ret
    exact ⟨ret_str' (by simp [alText, he]), hB⟩
  | false =>
    go_enter Try.func75, Try.ntmps75
    go_wp2
    go_ret
    exact ⟨ret_str' (by simp [alText, he]), hB⟩

theorem l3Sign_any (k : Int) (w : World) :
    Calls Try.prog 59 #[.int .i64 k] w fun e w' => e = .returned (.string (signB k)) ∧ w' = w := by
  by_cases h4 : k = 4
  · subst h4
    go_enter Try.func59, Try.ntmps59
    go_wp2
    go_ret
    exact ⟨rfl, rfl⟩
  by_cases h5 : k = 5
  · subst h5
    go_enter Try.func59, Try.ntmps59
    go_wp2
    go_ret
    exact ⟨rfl, rfl⟩
  · have HS : Hid (signB k = ⟨#[32, 45, 32]⟩) := by show _ = _; simp [signB, h4, h5]
    go_enter Try.func59, Try.ntmps59
    go_wp2
    go_ret
    exact ⟨by rw [HS.out]; rfl, rfl⟩

theorem take_nil_iff {α : Type} {xs : List α} {k : Nat} (h : k ≤ xs.length) : xs.take k = [] ↔ k = 0 := by
  constructor
  · intro e
    have := congrArg List.length e
    rw [List.length_take, List.length_nil] at this
    omega
  · rintro rfl; simp
theorem joinUp_zero (sep : ByteArray) (xs : List ByteArray) : joinB sep (xs.take 0) = ⟨#[]⟩ := by simp [joinB_nil]
theorem joinUp_one (sep : ByteArray) (xs : List ByteArray) (h : 0 < xs.length) : joinB sep (xs.take 1) = ⟨#[]⟩ ++ xs[0] := by
  rw [show (1 : Nat) = 0 + 1 from rfl, List.take_succ_eq_append_getElem h, joinB_snoc, if_pos (by simp), empty_app]
theorem joinUp_succ (sep : ByteArray) (xs : List ByteArray) (k : Nat) (h : k < xs.length) (hk : 0 < k) : joinB sep (xs.take (k + 1)) = joinB sep (xs.take k) ++ sep ++ xs[k] := by
  rw [List.take_succ_eq_append_getElem h, joinB_snoc, if_neg]
  rw [take_nil_iff (by omega)]; omega
theorem joinUp_size (sep : ByteArray) (xs : List ByteArray) (b k : Nat) (hx : ∀ x ∈ xs, x.size ≤ b) : (joinB sep (xs.take k)).size ≤ k * (b + sep.size) := by
  have h1 := joinB_size sep b _ (xs.take k) rfl (fun x h => hx x (List.mem_of_mem_take h))
  have h2 : (xs.take k).length * (b + sep.size) ≤ k * (b + sep.size) := Nat.mul_le_mul_right _ (by simp; omega)
  omega

theorem txt_small {es : List Ex} (hes : okE es) (n : Nat) (hn : n < es.length) (i : Bool) : (txtAt es n i).size ≤ 20000000000000 :=
  Nat.le_trans (txtAt_size hes n hn i) (Nat.le_trans (limT_mono (by have := hes.1; omega)) limT_14)

set_option maxRecDepth 4000 in
set_option maxHeartbeats 4000000 in
theorem l3Text_any (b off cap : Nat) (rs : List ER) (hes : okE (exs rs)) (hl : ∀ r ∈ rs, r.e.light) (n : Nat) : ∀ (inside : Bool) (w : World), n < rs.length → b < w.heap.size → (∀ (i : Nat) (h : i < rs.length), At5 w b (off + i * 5) rs[i]) → (∀ r ∈ rs, r.ok w) →
    Calls Try.prog 39 #[.slice (some ⟨b, off, none⟩) rs.length cap, .int .i64 (n : Int), .bool inside] w fun e w' => e = .returned (.string (txtAt (exs rs) n inside)) ∧ Below w.heap.size w w' := by
  have HES : Hid (okE (exs rs)) := hes
  have HL : Hid (∀ r ∈ rs, r.e.light) := hl
  have h15 : rs.length ≤ 15 := by have := hes.1; rw [exs_len] at this; exact this
  clear hes hl
  induction n using Nat.strongRecOn with
  | ind n ih =>
    intro inside w hn hb hr hok
    have IH : Hid (∀ m, m < n → ∀ (inside : Bool) (w : World), m < rs.length → b < w.heap.size → (∀ (i : Nat) (h : i < rs.length), At5 w b (off + i * 5) rs[i]) → (∀ r ∈ rs, r.ok w) →
      Calls Try.prog 39 #[.slice (some ⟨b, off, none⟩) rs.length cap, .int .i64 (m : Int), .bool inside] w fun e w' => e = .returned (.string (txtAt (exs rs) m inside)) ∧ Below w.heap.size w w') := ih
    have HR : Hid (∀ (i : Nat) (h : i < rs.length), At5 w b (off + i * 5) rs[i]) := hr
    have HO : Hid (∀ r ∈ rs, r.ok w) := hok
    obtain ⟨t0, t1, t2, t3, t4⟩ := hr n hn
    have hnE : n < (exs rs).length := by rw [exs_len]; exact hn
    have heE : (exs rs)[n] = rs[n].e := by simp [exs]
    have hnode : nodeB rs[n].e = true := by rw [← heE]; exact HES.out.2.1 n hnE
    have hkl := kids_lt HES.out hnE
    rw [heE] at hkl
    obtain ⟨hk5, hkind⟩ := nodeB_kids hnode
    have HT : Hid (txtAt (exs rs) n inside = inT rs[n].e inside (nodeT (txtF (exs rs) n) rs[n].e)) := by show _ = _; unfold txtAt; rw [exAt_eq hnE, heE]
    have HN : Hid (nodeB rs[n].e = true) := hnode
    have HKL : Hid (∀ k ∈ rs[n].e.kids, 0 ≤ k ∧ k.toNat < n) := hkl
    have hn1 : (0 : Int) ≤ (n : Int) := by omega
    have hn2 : (n : Int) < (rs.length : Int) := by omega
    clear ih hr hok hnode hkl heE
    by_cases k1 : rs[n].e.kind = 1
    · skip
      obtain ⟨W, hW⟩ : ∃ W, W = w.alloc (.cells #[.int .i64 1, .slice rs[n].adA rs[n].e.allow.length rs[n].capA, .string rs[n].e.over, .string rs[n].e.name, .slice rs[n].adK rs[n].e.kids.length rs[n].capK] 56) := ⟨_, rfl⟩
      have hB0 : Below w.heap.size w W := by rw [hW]; exact (Below.refl _ _).alloc (Nat.le_refl _) _
      have hgl : w.heap.size < W.heap.size := by rw [hW]; simp
      have g0 : W.cell? ⟨w.heap.size, 0, none⟩ = some (.int .i64 1) := by rw [hW]; simp
      have g1 : W.cell? ⟨w.heap.size, 1, none⟩ = some (.slice rs[n].adA rs[n].e.allow.length rs[n].capA) := by rw [hW]; simp
      have g2 : W.cell? ⟨w.heap.size, 2, none⟩ = some (.string rs[n].e.over) := by rw [hW]; simp
      have g3 : W.cell? ⟨w.heap.size, 3, none⟩ = some (.string rs[n].e.name) := by rw [hW]; simp
      have g4 : W.cell? ⟨w.heap.size, 4, none⟩ = some (.slice rs[n].adK rs[n].e.kids.length rs[n].capK) := by rw [hW]; simp
      have HB0 : Hid (Below w.heap.size w W) := hB0
      clear hB0
      have hal : allowB rs[n].e.allow = true := by
        have := HN.out
        unfold nodeB at this
        rw [if_pos k1] at this
        simp only [Bool.and_eq_true] at this
        exact this.1.1.1
      have hts := thisText_size hal
      have HAL : Hid (allowB rs[n].e.allow = true) := hal
      have HT1 : Hid (txtAt (exs rs) n inside = thisText rs[n].e.allow) := by show _ = _; rw [HT.out]; simp [inT, nodeT, k1]
      have hl6 : rs[n].e.allow.length ≤ 6 := by unfold allowB at hal; simp at hal; exact hal.1.2
      have HAS : Hid (∀ x ∈ rs[n].e.allow.map alText, x.size ≤ 25) := fun x hx => by
        obtain ⟨a, ha, rfl⟩ := List.mem_map.1 hx
        obtain ⟨i, hi, rfl⟩ := List.getElem_of_mem ha
        unfold allowB at hal
        simp only [Bool.and_eq_true] at hal
        exact alText_size (upA_all hal.2 i hi hi)
      clear hal HT
      go_enter Try.func39, Try.ntmps39
      go_wp2_with fail
      rw [← hW]
      clear hW t0 t1 t2 t3 t4
      go_loopw [8, 9] (fun s i wr => ∃ k : Nat, k ≤ rs[n].e.allow.length ∧ i = .int .i64 k ∧ s = .string (joinB ⟨#[44]⟩ ((rs[n].e.allow.map alText).take k)) ∧ Below W.heap.size W wr) (fun _ i _ => rs[n].e.allow.length - (intOf i).toNat)
      case atStart => exact ⟨0, Nat.zero_le _, rfl, by rw [joinUp_zero], Below.refl _ _⟩
      case round =>
        obtain ⟨k, hk, rfl, rfl, hB⟩ := hrel
        have hBw : Below w.heap.size w wr := HB0.out.trans (hB.mono HB0.out.size)
        have a1 := kept hB hgl g1
        have hsj : (joinB ⟨#[44]⟩ ((rs[n].e.allow.map alText).take k)).size ≤ 200 := by
          have h := joinUp_size ⟨#[44]⟩ (rs[n].e.allow.map alText) 25 k HAS.out
          have e1 : (⟨#[44]⟩ : ByteArray).size = 1 := rfl
          rw [e1] at h
          omega
        by_cases hlt : k < rs[n].e.allow.length
        · rcases (HO.out rs[n] (List.getElem_mem hn)).1.below hBw with hnil | ⟨ba, offa, hadA, hba, hra⟩
          · rw [hnil] at hlt; simp at hlt
          rw [hadA] at a1
          obtain ⟨q0, q1⟩ := hra k hlt
          have hab : alB rs[n].e.allow[k] = true := by
            have := HAL.out
            unfold allowB at this
            simp only [Bool.and_eq_true] at this
            exact upA_all this.2 k hlt hlt
          have z2 := alText_size hab
          unfold alB at hab
          rw [Bool.and_eq_true] at hab
          have z0 := nameB_small hab.1
          have z1 := setB_small hab.2
          have hk1 : (0 : Int) ≤ (k : Int) := by omega
          have hk2 : (k : Int) < (rs[n].e.allow.length : Int) := by omega
          clear hra hadA hab
          by_cases hk0 : 0 < k
          · have hk3 : (0 : Int) < (k : Int) := by omega
            have HJ : Hid (joinB ⟨#[44]⟩ ((rs[n].e.allow.map alText).take (k + 1)) = joinB ⟨#[44]⟩ ((rs[n].e.allow.map alText).take k) ++ ⟨#[44]⟩ ++ alText rs[n].e.allow[k]) := by show _ = _; rw [joinUp_succ _ _ _ (by simpa using hlt) hk0, List.getElem_map]
            go_wp2_with fail
            refine (l3Allow_any rs[n].e.allow[k] _ z0 z1).mono ?_
            rintro e w1 ⟨rfl, hb1⟩
            have hB1 : Below W.heap.size W w1 := hB.trans (hb1.mono hB.size)
            clear hb1
            go_wp2
            go_roundw
            case rel => exact ⟨k + 1, by omega, by go_num, by rw [HJ.out], hB1⟩
            case measure => first | (simp [intOf]; done) | (simp [intOf]; omega)
          · skip
            have hk3 : ¬ (0 : Int) < (k : Int) := by omega
            have HJ : Hid (joinB ⟨#[44]⟩ ((rs[n].e.allow.map alText).take (k + 1)) = joinB ⟨#[44]⟩ ((rs[n].e.allow.map alText).take k) ++ alText rs[n].e.allow[k]) := by
              show _ = _
              obtain rfl : k = 0 := by omega
              rw [joinUp_zero, joinUp_one _ _ (by simpa using hlt), List.getElem_map]
            go_wp2_with fail
            refine (l3Allow_any rs[n].e.allow[k] _ z0 z1).mono ?_
            rintro e w1 ⟨rfl, hb1⟩
            have hB1 : Below W.heap.size W w1 := hB.trans (hb1.mono hB.size)
            clear hb1
            go_wp2
            go_roundw
            case rel => exact ⟨k + 1, by omega, by go_num, by rw [HJ.out], hB1⟩
            case measure => first | (simp [intOf]; done) | (simp [intOf]; omega)
        · obtain rfl : k = rs[n].e.allow.length := by omega
          have HE : Hid ((rs[n].e.allow.map alText).take rs[n].e.allow.length = rs[n].e.allow.map alText) := by show _ = _; rw [List.take_of_length_le (by simp)]
          go_wp2
          go_ret
          exact ⟨by rw [HT1.out]; exact ret_str' (by rw [HE.out]; rfl), hBw⟩
    by_cases k2 : rs[n].e.kind = 2
    · have HT1 : Hid (txtAt (exs rs) n inside = rs[n].e.name) := by show _ = _; rw [HT.out]; simp [inT, nodeT, k2]
      clear HT
      go_enter Try.func39, Try.ntmps39
      go_wp2
      go_ret
      exact ⟨by rw [HT1.out]; rfl, (Below.refl _ _).alloc (Nat.le_refl _) _⟩
    by_cases k3 : rs[n].e.kind = 3
    · have HT1 : Hid (txtAt (exs rs) n inside = rs[n].e.over ++ ⟨#[45, 62]⟩ ++ rs[n].e.name) := by show _ = _; rw [HT.out]; simp [inT, nodeT, k3]
      have hsz : rs[n].e.over.size ≤ 12 ∧ rs[n].e.name.size ≤ 12 := by
        have := HN.out
        unfold nodeB at this
        rw [if_neg k1, if_neg k2, if_pos k3] at this
        simp only [Bool.and_eq_true] at this
        exact ⟨nameB_small this.1.1.1, nameB_small this.1.1.2⟩
      obtain ⟨z0, z1⟩ := hsz
      clear HT
      go_enter Try.func39, Try.ntmps39
      go_wp2
      go_ret
      exact ⟨by rw [HT1.out]; rfl, (Below.refl _ _).alloc (Nat.le_refl _) _⟩
    · skip
      obtain ⟨W, hW⟩ : ∃ W, W = w.alloc (.cells #[.int .i64 rs[n].e.kind, .slice rs[n].adA rs[n].e.allow.length rs[n].capA, .string rs[n].e.over, .string rs[n].e.name, .slice rs[n].adK rs[n].e.kids.length rs[n].capK] 56) := ⟨_, rfl⟩
      have hB0 : Below w.heap.size w W := by rw [hW]; exact (Below.refl _ _).alloc (Nat.le_refl _) _
      have hgl : w.heap.size < W.heap.size := by rw [hW]; simp
      have g0 : W.cell? ⟨w.heap.size, 0, none⟩ = some (.int .i64 rs[n].e.kind) := by rw [hW]; simp
      have g1 : W.cell? ⟨w.heap.size, 1, none⟩ = some (.slice rs[n].adA rs[n].e.allow.length rs[n].capA) := by rw [hW]; simp
      have g2 : W.cell? ⟨w.heap.size, 2, none⟩ = some (.string rs[n].e.over) := by rw [hW]; simp
      have g3 : W.cell? ⟨w.heap.size, 3, none⟩ = some (.string rs[n].e.name) := by rw [hW]; simp
      have g4 : W.cell? ⟨w.heap.size, 4, none⟩ = some (.slice rs[n].adK rs[n].e.kids.length rs[n].capK) := by rw [hW]; simp
      have HB0 : Hid (Below w.heap.size w W) := hB0
      clear hB0
      have HT1 : Hid (txtAt (exs rs) n inside = if inside then ⟨#[40]⟩ ++ joinB (signB rs[n].e.kind) (rs[n].e.kids.map (txtF (exs rs) n)) ++ ⟨#[41]⟩ else joinB (signB rs[n].e.kind) (rs[n].e.kids.map (txtF (exs rs) n))) := by
        show _ = _; rw [HT.out]; simp [inT, nodeT, k1, k2, k3]
      have HTS : Hid (∀ x ∈ rs[n].e.kids.map (txtF (exs rs) n), x.size ≤ 20000000000000) := fun x hx => by
        obtain ⟨k, hk, rfl⟩ := List.mem_map.1 hx
        have hlt := HKL.out k hk
        unfold txtF
        rw [if_pos hlt.2, txt_eq]
        exact txt_small HES.out _ (by rw [exs_len]; omega) true
      have kb1 : (rs[n].e.kind == 1) = false := by simpa using k1
      have kb2 : (rs[n].e.kind == 2) = false := by simpa using k2
      have kb3 : (rs[n].e.kind == 3) = false := by simpa using k3
      clear HT hkind
      go_enter Try.func39, Try.ntmps39
      go_wp2_with fail
      rw [← hW]
      clear hW t0 t1 t2 t3 t4
      go_loopw [8, 10] (fun s i wr => ∃ k : Nat, k ≤ rs[n].e.kids.length ∧ i = .int .i64 k ∧ s = .string (joinB (signB rs[n].e.kind) ((rs[n].e.kids.map (txtF (exs rs) n)).take k)) ∧ Below W.heap.size W wr) (fun _ i _ => rs[n].e.kids.length - (intOf i).toNat)
      case atStart => exact ⟨0, Nat.zero_le _, rfl, by rw [joinUp_zero], Below.refl _ _⟩
      case round =>
        obtain ⟨k, hk, rfl, rfl, hB⟩ := hrel
        have hBw : Below w.heap.size w wr := HB0.out.trans (hB.mono HB0.out.size)
        have hbw : b < wr.heap.size := Nat.lt_of_lt_of_le hb hBw.size
        have a0 := kept hB hgl g0
        have a4 := kept hB hgl g4
        have hsg := signB_size rs[n].e.kind
        have hsj : (joinB (signB rs[n].e.kind) ((rs[n].e.kids.map (txtF (exs rs) n)).take k)).size ≤ 100000000000100 := by
          have h := joinUp_size (signB rs[n].e.kind) (rs[n].e.kids.map (txtF (exs rs) n)) 20000000000000 k HTS.out
          rw [hsg] at h
          omega
        by_cases hlt : k < rs[n].e.kids.length
        · rcases (HO.out rs[n] (List.getElem_mem hn)).2.below hBw with hnil | ⟨bk, offk, hadK, hbk, hrk⟩
          · rw [hnil] at hlt; simp at hlt
          rw [hadK] at a4
          have q0 := hrk k hlt
          obtain ⟨hz0, hz1⟩ := HKL.out rs[n].e.kids[k] (List.getElem_mem hlt)
          obtain ⟨m, hm⟩ : ∃ m : Nat, rs[n].e.kids[k] = (m : Int) := ⟨rs[n].e.kids[k].toNat, by omega⟩
          rw [hm] at q0 hz1
          have hmn : m < n := by simpa using hz1
          have hmr : m < rs.length := by omega
          have HFm : Hid (txtF (exs rs) n rs[n].e.kids[k] = txtAt (exs rs) m true) := by show _ = _; rw [hm]; unfold txtF; rw [if_pos (by simpa using hmn), txt_eq]; simp
          have hsm := txt_small HES.out m (by rw [exs_len]; exact hmr) true
          have hk1 : (0 : Int) ≤ (k : Int) := by omega
          have hk2 : (k : Int) < (rs[n].e.kids.length : Int) := by omega
          clear hrk hadK hz0 hz1 hm
          by_cases hk0 : 0 < k
          · have hk3 : (0 : Int) < (k : Int) := by omega
            have HJ : Hid (joinB (signB rs[n].e.kind) ((rs[n].e.kids.map (txtF (exs rs) n)).take (k + 1)) = joinB (signB rs[n].e.kind) ((rs[n].e.kids.map (txtF (exs rs) n)).take k) ++ signB rs[n].e.kind ++ txtAt (exs rs) m true) := by show _ = _; rw [joinUp_succ _ _ _ (by simpa using hlt) hk0, List.getElem_map, HFm.out]
            go_wp2_with fail
            refine (l3Sign_any _ _).mono ?_
            rintro e w' ⟨rfl, rfl⟩
            go_wp2_with fail
            refine (IH.out m hmn true _ hmr hbw (fun i hi => (HR.out i hi).later hb hBw) (fun r hr => (HO.out r hr).below hBw)).mono ?_
            rintro e w1 ⟨rfl, hb1⟩
            have hB1 : Below W.heap.size W w1 := hB.trans (hb1.mono hB.size)
            clear hb1
            go_wp2
            go_roundw
            case rel => exact ⟨k + 1, by omega, by go_num, by rw [HJ.out], hB1⟩
            case measure => first | (simp [intOf]; done) | (simp [intOf]; omega)
          · skip
            have hk3 : ¬ (0 : Int) < (k : Int) := by omega
            have HJ : Hid (joinB (signB rs[n].e.kind) ((rs[n].e.kids.map (txtF (exs rs) n)).take (k + 1)) = joinB (signB rs[n].e.kind) ((rs[n].e.kids.map (txtF (exs rs) n)).take k) ++ txtAt (exs rs) m true) := by
              have h0 := HFm.out
              show _ = _
              obtain rfl : k = 0 := by omega
              rw [joinUp_zero, joinUp_one _ _ (by simpa using hlt), List.getElem_map, h0]
            go_wp2_with fail
            refine (IH.out m hmn true _ hmr hbw (fun i hi => (HR.out i hi).later hb hBw) (fun r hr => (HO.out r hr).below hBw)).mono ?_
            rintro e w1 ⟨rfl, hb1⟩
            have hB1 : Below W.heap.size W w1 := hB.trans (hb1.mono hB.size)
            clear hb1
            go_wp2
            go_roundw
            case rel => exact ⟨k + 1, by omega, by go_num, by rw [HJ.out], hB1⟩
            case measure => first | (simp [intOf]; done) | (simp [intOf]; omega)
        · obtain rfl : k = rs[n].e.kids.length := by omega
          have HE : Hid ((rs[n].e.kids.map (txtF (exs rs) n)).take rs[n].e.kids.length = rs[n].e.kids.map (txtF (exs rs) n)) := by show _ = _; rw [List.take_of_length_le (by simp)]
          cases inside with
          | true =>
            go_wp2
            go_ret
            exact ⟨by rw [HT1.out]; exact ret_str' (by rw [HE.out]; rfl), hBw⟩
          | false =>
            go_wp2
            go_ret
            exact ⟨by rw [HT1.out]; exact ret_str' (by rw [HE.out]; rfl), hBw⟩

/-- the text of an expression: nothing where it is not right -/
def exText (es : List Ex) : ByteArray := if specE es then txtAt es (es.length - 1) false else ⟨#[]⟩
theorem exText_no {es : List Ex} (h : specE es = false) : exText es = ⟨#[]⟩ := by simp [exText, h]
theorem exText_yes {es : List Ex} (h : specE es = true) : exText es = txtAt es (es.length - 1) false := by simp [exText, h]

theorem specExprText_any (ad : Option Addr) (cap : Nat) (rs : List ER) (w : World) (hlen : rs.length ≤ 1048576) (hl : ∀ r ∈ rs, r.e.light) (hf : ∀ r ∈ rs, r.e.fits) (hs : SlE w ad rs) :
    Calls Try.prog 15 #[.slice ad rs.length cap] w fun e w' => e = .returned (.string (exText (exs rs))) ∧ Below w.heap.size w w' := by
  have HS : Hid (SlE w ad rs) := hs
  have HL : Hid (∀ r ∈ rs, r.e.light) := hl
  have HF : Hid (∀ r ∈ rs, r.e.fits) := hf
  clear hs hl hf
  go_enter Try.func15, Try.ntmps15
  go_wp2_with fail
  refine (specExprOk_any ad cap rs _ hlen HL.out HF.out HS.out).mono ?_
  rintro e w1 ⟨he, hb1⟩
  have HB1 : Hid (Below w.heap.size w w1) := hb1
  clear hb1
  cases hE : specE (exs rs) with
  | false =>
    rw [hE] at he
    subst he
    have HX : Hid (exText (exs rs) = ⟨#[]⟩) := exText_no hE
    go_wp2
    go_ret
    exact ⟨by rw [HX.out]; rfl, HB1.out⟩
  | true =>
    rw [hE] at he
    subst he
    have h1 : 1 ≤ rs.length := by
      have := hE
      unfold specE at this
      simp only [Bool.and_eq_true, decide_eq_true_eq, exs_len] at this
      exact this.1.1.1.1.1
    rcases HS.out.below HB1.out with rfl | ⟨b, off, rfl, hb, hr, hok⟩
    · simp at h1
    have HR : Hid (∀ (i : Nat) (h : i < rs.length), At5 w1 b (off + i * 5) rs[i]) := hr
    have HO : Hid (∀ r ∈ rs, r.ok w1) := hok
    have HOK : Hid (okE (exs rs)) := okE_of hE
    have HX : Hid (exText (exs rs) = txtAt (exs rs) (rs.length - 1) false) := by show _ = _; rw [exText_yes hE, exs_len]
    have HCA : Hid (((rs.length : Int) - 1) = ((rs.length - 1 : Nat) : Int)) := by show _ = _; omega
    clear hr hok
    go_wp2_with fail
    rw [HCA.out]
    refine (l3Text_any b off cap rs HOK.out HL.out (rs.length - 1) false _ (by omega) hb HR.out HO.out).mono ?_
    rintro e w2 ⟨rfl, hb2⟩
    have HB2 : Hid (Below w.heap.size w w2) := HB1.out.trans (hb2.mono HB1.out.size)
    clear hb2
    go_wp2
    go_ret
    exact ⟨by rw [HX.out]; rfl, HB2.out⟩

end Go.Proofs.Ytjmbgpdbnffkpaa
