/- Plain facts on frames: texts whose frames stand one behind the other; what is read of them, and of a beginning of them. Nothing of the program is read here. -/
import Derived.Test.YtcecoddgmifgkaaPlainFr
namespace Go.Proofs.Ytcecoddgmifgkaa.Pl

/-- the frames of these texts, one behind the other -/
def catF : List ByteArray → ByteArray
  | [] => ⟨#[]⟩
  | d :: l => frameT d ++ catF l
theorem app_asc (a b c : ByteArray) : a ++ b ++ c = a ++ (b ++ c) := by apply ext_data; simp
theorem app_nil (a : ByteArray) : a ++ ⟨#[]⟩ = a := by apply ext_data; simp
theorem nil_app (a : ByteArray) : (⟨#[]⟩ : ByteArray) ++ a = a := by apply ext_data; simp
theorem catF_snoc (l : List ByteArray) (d : ByteArray) : catF (l ++ [d]) = catF l ++ frameT d := by
  induction l with
  | nil => simp [catF, app_nil, nil_app]
  | cons e l ih => simp only [List.cons_append, catF, ih, app_asc]

theorem behind (x y : ByteArray) : (x ++ y).extract x.size (x ++ y).size = y := by
  apply ext_data
  rw [from_list, appL]
  have : x.size = x.data.toList.length := by simp
  rw [this, List.drop_left]
theorem okF_app (x y : ByteArray) : okF (x ++ y) x.size = okF y 0 := by
  rw [← okF_from (x ++ y) x.size (by rw [ByteArray.size_append]; omega), behind]
theorem datA_app (x y : ByteArray) : datA (x ++ y) x.size = datA y 0 := by rw [← datA_from, behind]
theorem hor_app (x y : ByteArray) (i : Nat) : hor (x ++ y) x.size i = hor y 0 i := by rw [← hor_from, behind]

theorem frame_size {d : ByteArray} (h : d.size ≤ 100000) : (frameT d).size = 8 + d.size := by
  rw [frameT_yes (by omega), ByteArray.size_append, headT_size]
theorem frame_list {d : ByteArray} (h : d.size ≤ 100000) (r : ByteArray) : (frameT d ++ r).data.toList = (lenT d.size).data.toList ++ ((sumT (crcP d)).data.toList ++ (d.data.toList ++ r.data.toList)) := by
  rw [frameT_yes (by omega), headT]; simp
set_option maxRecDepth 100000 in
theorem hor_frame {d : ByteArray} (h : d.size ≤ 100000) (r : ByteArray) : hor (frameT d ++ r) 0 4 = d.size := by
  have hl := frame_list h r
  generalize hn : d.size = n at *
  have e0 : byA (frameT d ++ r) 0 = n / 16777216 % 256 := by rw [byA, hl]; simp [lenT, b8]
  have e1 : byA (frameT d ++ r) 1 = n / 65536 % 256 := by rw [byA, hl]; simp [lenT, b8]
  have e2 : byA (frameT d ++ r) 2 = n / 256 % 256 := by rw [byA, hl]; simp [lenT, b8]
  have e3 : byA (frameT d ++ r) 3 = n % 256 := by rw [byA, hl]; simp [lenT, b8]
  have z0 : n / 16777216 = 0 := Nat.div_eq_of_lt (by omega)
  have z1 : n / 65536 % 256 = n / 256 / 256 := by rw [Nat.div_div_eq_div_mul]; exact Nat.mod_eq_of_lt (by omega)
  simp only [hor, Nat.zero_add, e0, e1, e2, e3, z0, z1, Nat.zero_mod, Nat.mul_zero]
  omega
theorem okF_frame {d : ByteArray} (h : d.size ≤ 100000) (r : ByteArray) : okF (frameT d ++ r) 0 = true ∧ datA (frameT d ++ r) 0 = d := by
  have hh := hor_frame h r
  have hl := frame_list h r
  have hd : datA (frameT d ++ r) 0 = d := by
    apply ext_data
    rw [datA, hh, cut_list, hl]
    have e4 : (lenT d.size).data.toList.length = 4 := rfl
    have e5 : (sumT (crcP d)).data.toList.length = 4 := rfl
    have h8 : 0 + 8 = (lenT d.size).data.toList.length + (sumT (crcP d)).data.toList.length := by rw [e4, e5]
    rw [h8, ← List.drop_drop, List.drop_left, List.drop_left]
    have : (lenT d.size).data.toList.length + (sumT (crcP d)).data.toList.length + d.size - ((lenT d.size).data.toList.length + (sumT (crcP d)).data.toList.length) = d.data.toList.length := by simp
    rw [this, List.take_left]
  have hz : (frameT d ++ r).size = 8 + d.size + r.size := by rw [ByteArray.size_append, frame_size h]
  refine ⟨?_, hd⟩
  rw [okF_sum (by omega) (by omega) (by omega), hd, beq_iff_eq, Go.ByteArray.toList_eq, Go.ByteArray.toList_eq, cut_list, hl]
  have e4 : (lenT d.size).data.toList.length = 4 := rfl
  have e5 : (sumT (crcP d)).data.toList.length = 4 := rfl
  have h4 : 0 + 4 = (lenT d.size).data.toList.length := by rw [e4]
  have h8 : 0 + 8 - (0 + 4) = (sumT (crcP d)).data.toList.length := by rw [e5]
  rw [h8, h4, List.drop_left, List.take_left]

/-- texts that are short, their frames, and whatever behind them: they are read -/
theorem itF_cat : ∀ (n : Nat) (l : List ByteArray) (r : ByteArray), l.length = n → (∀ d ∈ l, d.size ≤ 100000) → itF (catF l ++ r) n = some (l, (catF l).size)
  | 0, l, r, hn, _ => by
    obtain rfl := List.length_eq_zero_iff.1 hn
    rfl
  | n + 1, l, r, hn, hs => by
    obtain ⟨l0, d, rfl⟩ : ∃ l0 d, l = l0 ++ [d] := by
      have hne : l ≠ [] := fun e => by rw [e] at hn; cases hn
      exact ⟨l.dropLast, l.getLast hne, (List.dropLast_concat_getLast hne).symm⟩
    have hn0 : l0.length = n := by simpa using hn
    have hd : d.size ≤ 100000 := hs d (by simp)
    have ih := itF_cat n l0 (frameT d ++ r) hn0 (fun e he => hs e (by simp [he]))
    obtain ⟨q1, q2⟩ := okF_frame hd r
    have e : catF (l0 ++ [d]) ++ r = catF l0 ++ (frameT d ++ r) := by rw [catF_snoc, app_asc]
    rw [e, itF_succ ih (by rw [okF_app]; exact q1), datA_app, hor_app, q2, hor_frame hd]
    rw [catF_snoc, ByteArray.size_append, frame_size hd]
    congr 2
    omega
/-- what is read of the frames of short texts -/
theorem end_cat {l : List ByteArray} (hs : ∀ d ∈ l, d.size ≤ 100000) : FrEnd (catF l) l (catF l).size := by
  have h := itF_cat l.length l ⟨#[]⟩ rfl hs
  rw [app_nil] at h
  exact ⟨⟨_, h⟩, okF_no1 (by omega)⟩
theorem itF_len {s : ByteArray} : ∀ (k : Nat) {l : List ByteArray} {a : Nat}, itF s k = some (l, a) → l.length = k
  | 0, l, a, h => by cases h; rfl
  | k + 1, l, a, h => by
    rw [itF] at h
    cases hp : itF s k with
    | none => rw [hp] at h; cases h
    | some p =>
      rw [hp] at h
      obtain ⟨l0, a0⟩ := p
      by_cases ho : okF s a0 = true
      · simp only [Option.bind_some, ho, if_true] at h
        injection h with h; injection h with h1 h2
        rw [← h1, List.length_append, itF_len k hp]; rfl
      · simp only [Option.bind_some, ho] at h; simp at h
theorem itF_pre {s : ByteArray} : ∀ (n m : Nat) {l : List ByteArray} {a : Nat}, m ≤ n → itF s n = some (l, a) → ∃ a', itF s m = some (l.take m, a')
  | n, m, l, a, hm, h => by
    rcases Nat.lt_or_ge m n with hlt | hge
    · match n, h, hlt with
      | n + 1, h, hlt =>
        rw [itF] at h
        cases hp : itF s n with
        | none => rw [hp] at h; cases h
        | some p =>
          rw [hp] at h
          obtain ⟨l0, a0⟩ := p
          by_cases ho : okF s a0 = true
          · simp only [Option.bind_some, ho, if_true] at h
            injection h with h; injection h with h1 h2
            obtain ⟨a', ha'⟩ := itF_pre n m (by omega) hp
            refine ⟨a', ?_⟩
            rw [ha', ← h1, List.take_append_of_le_length (by rw [itF_len n hp]; omega)]
          · simp only [Option.bind_some, ho] at h; simp at h
    · obtain rfl : m = n := by omega
      exact ⟨a, by rw [h, List.take_of_length_le (by rw [itF_len m h]; exact Nat.le_refl _)]⟩

/-- what is read of the frames, written again, has just the bytes that were read -/
theorem okF_bytes {s : ByteArray} {a : Nat} (h : okF s a = true) : (datA s a).size ≤ 100000 ∧ s.extract a (a + 8 + hor s a 4) = frameT (datA s a) := by
  obtain ⟨q1, q2, q3, q4⟩ := okF_parts h
  have hz := datA_size q3
  refine ⟨by omega, ?_⟩
  have hl : (s.extract a s.size).size = s.size - a := by rw [ByteArray.size_extract]; omega
  have h4 : lenT (hor s a 4) = s.extract a (a + 4) := by
    rw [← hor_from, lenT_hor (by omega), ext_from]; rfl
  rw [frameT_yes (by omega), headT, hz, h4, q4, datA]
  apply ext_data
  simp only [appL, cut_list]
  have e1 : a + 8 + hor s a 4 - a = 4 + (4 + hor s a 4) := by omega
  have e2 : a + 4 - a = 4 := by omega
  have e3 : a + 8 - (a + 4) = 4 := by omega
  have e4 : a + 8 + hor s a 4 - (a + 8) = hor s a 4 := by omega
  rw [e1, e2, e3, e4, List.take_add, List.take_add, List.drop_drop, List.drop_drop, List.append_assoc]
theorem itF_cat_of {s : ByteArray} : ∀ (k : Nat) {l : List ByteArray} {a : Nat}, itF s k = some (l, a) → catF l = s.extract 0 a
  | 0, l, a, h => by
    cases h
    apply ext_data
    rw [cut_list]; rfl
  | k + 1, l, a, h => by
    have hok := itF_ok (k + 1) h
    rw [itF] at h
    cases hp : itF s k with
    | none => rw [hp] at h; cases h
    | some p =>
      rw [hp] at h
      obtain ⟨l0, a0⟩ := p
      by_cases ho : okF s a0 = true
      · simp only [Option.bind_some, ho, if_true] at h
        injection h with h; injection h with h1 h2
        rw [← h1, catF_snoc, itF_cat_of k hp, ← (okF_bytes ho).2, ← h2]
        apply ext_data
        simp only [appL, cut_list]
        have e1 : a0 + 8 + hor s a0 4 - 0 = a0 + (8 + hor s a0 4) := by omega
        have e2 : a0 + 8 + hor s a0 4 - a0 = 8 + hor s a0 4 := by omega
        rw [e1, e2, List.drop_zero, Nat.sub_zero]
        exact (List.take_add ..).symm
      · simp only [Option.bind_some, ho] at h; simp at h

/-- a beginning of a text: its frames are frames of the whole -/
theorem byA_pre {z : ByteArray} {k i : Nat} (h : i < k) : byA (z.extract 0 k) i = byA z i := by
  rw [byA, byA, cut_list, List.getD_eq_getElem?_getD, List.getD_eq_getElem?_getD, List.drop_zero, List.getElem?_take, if_pos (by omega)]
theorem hor_pre {z : ByteArray} {k a : Nat} : ∀ (i : Nat), a + i ≤ k → hor (z.extract 0 k) a i = hor z a i
  | 0, _ => rfl
  | i + 1, h => by rw [hor, hor, hor_pre i (by omega), byA_pre (by omega)]
theorem ext_pre {z : ByteArray} {k a b : Nat} (h : b ≤ k) : (z.extract 0 k).extract a b = z.extract a b := by
  apply ext_data
  simp only [cut_list, List.drop_zero, Nat.sub_zero, List.drop_take, List.take_take]
  congr 1; omega
theorem okF_pre {z : ByteArray} {k a : Nat} (hk : k ≤ z.size) (h : okF (z.extract 0 k) a = true) : okF z a = true ∧ datA z a = datA (z.extract 0 k) a ∧ hor z a 4 = hor (z.extract 0 k) a 4 := by
  obtain ⟨q1, q2, q3, q4⟩ := okF_parts h
  have hz : (z.extract 0 k).size = k := by rw [ByteArray.size_extract]; omega
  rw [hz] at q1 q3
  have hh : hor (z.extract 0 k) a 4 = hor z a 4 := hor_pre 4 (by omega)
  have hd : datA (z.extract 0 k) a = datA z a := by rw [datA, datA, hh, ext_pre (by omega)]
  rw [hh] at q2 q3
  rw [hd, ext_pre (by omega)] at q4
  exact ⟨by rw [okF_sum (by omega) q2 (by omega), q4]; simp, hd.symm, hh.symm⟩
theorem itF_of_pre {z : ByteArray} {k : Nat} (hk : k ≤ z.size) : ∀ (m : Nat) {l : List ByteArray} {a : Nat}, itF (z.extract 0 k) m = some (l, a) → itF z m = some (l, a)
  | 0, l, a, h => h
  | m + 1, l, a, h => by
    rw [itF] at h
    cases hp : itF (z.extract 0 k) m with
    | none => rw [hp] at h; cases h
    | some p =>
      rw [hp] at h
      obtain ⟨l0, a0⟩ := p
      by_cases ho : okF (z.extract 0 k) a0 = true
      · simp only [Option.bind_some, ho, if_true] at h
        obtain ⟨r1, r2, r3⟩ := okF_pre hk ho
        rw [itF_succ (itF_of_pre hk m hp) r1, r2, r3]; exact h
      · simp only [Option.bind_some, ho] at h; simp at h
/-- of frames that are cut the first few come back -/
theorem few_pre {l few : List ByteArray} {k b : Nat} (hs : ∀ d ∈ l, d.size ≤ 100000) (hk : k ≤ (catF l).size) (h : FrEnd ((catF l).extract 0 k) few b) : few.length ≤ l.length ∧ few = l.take few.length := by
  obtain ⟨⟨m, hm⟩, -⟩ := h
  have h1 := itF_of_pre hk m hm
  have hl := itF_len m hm
  obtain ⟨⟨n, hn⟩, hno⟩ := end_cat hs
  have hnl := itF_len n hn
  have hmn : m ≤ n := by
    rcases Nat.lt_or_ge n m with h2 | h2
    · rw [itF_stop hn hno m h2] at h1; cases h1
    · exact h2
  obtain ⟨a', ha'⟩ := itF_pre n m hmn hn
  rw [ha'] at h1
  injection h1 with h1; injection h1 with h1 h2
  exact ⟨by omega, by rw [hl]; exact h1.symm⟩
end Go.Proofs.Ytcecoddgmifgkaa.Pl
