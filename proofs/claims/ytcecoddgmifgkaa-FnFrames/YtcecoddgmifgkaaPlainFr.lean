/- Plain functions on bytes: the frames with which a text begins. Nothing of the program is read here. -/
import Derived.Test.YtcecoddgmifgkaaPlainCrc
namespace Go.Proofs.Ytcecoddgmifgkaa.Pl

/-- the byte at a place -/
def byA (s : ByteArray) (i : Nat) : Nat := (s.data.toList.getD i 0).toNat
theorem byA_get (s : ByteArray) (i : Nat) (h : i < s.size) : s[i].toNat = byA s i := by
  have h2 : i < s.data.toList.length := by simpa using h
  rw [byA, List.getD_eq_getElem?_getD, List.getElem?_eq_getElem h2]
  simp [ByteArray.getElem_eq_getElem_data]
theorem byA_lt (s : ByteArray) (i : Nat) : byA s i < 256 := byte_lt _
/-- i bytes from a place on, read as a number, the highest first -/
def hor (s : ByteArray) (a : Nat) : Nat → Nat
  | 0 => 0
  | i + 1 => 256 * hor s a i + byA s (a + i)
theorem hor_lt (s : ByteArray) (a : Nat) : ∀ i, hor s a i < 256 ^ i
  | 0 => by simp [hor]
  | i + 1 => by have := hor_lt s a i; have := byA_lt s (a + i); rw [hor, Nat.pow_succ]; omega
theorem hor4_lt (s : ByteArray) (a : Nat) : hor s a 4 < 4294967296 := hor_lt s a 4
theorem hor_le (s : ByteArray) (a i : Nat) (h : i ≤ 4) : hor s a i < 4294967296 :=
  Nat.lt_of_lt_of_le (hor_lt s a i) (Nat.pow_le_pow_right (by omega) h : 256 ^ i ≤ 256 ^ 4)
def datA (s : ByteArray) (a : Nat) : ByteArray := s.extract (a + 8) (a + 8 + hor s a 4)
/-- a frame stands at that place -/
def okF (s : ByteArray) (a : Nat) : Bool := decide (a + 8 ≤ s.size) && decide (hor s a 4 ≤ 100000) && decide (a + 8 + hor s a 4 ≤ s.size) && ((sumT (crcP (datA s a))).toList == (s.extract (a + 4) (a + 8)).toList)
theorem okF_parts {s : ByteArray} {a : Nat} (h : okF s a = true) : a + 8 ≤ s.size ∧ hor s a 4 ≤ 100000 ∧ a + 8 + hor s a 4 ≤ s.size ∧ sumT (crcP (datA s a)) = s.extract (a + 4) (a + 8) := by
  simp only [okF, Bool.and_eq_true, decide_eq_true_eq, beq_iff_eq] at h
  refine ⟨h.1.1.1, h.1.1.2, h.1.2, ?_⟩
  have := h.2
  rw [Go.ByteArray.toList_eq, Go.ByteArray.toList_eq] at this
  exact ext_data this
theorem datA_size {s : ByteArray} {a : Nat} (h : a + 8 + hor s a 4 ≤ s.size) : (datA s a).size = hor s a 4 := by
  rw [datA, ByteArray.size_extract]; omega

/-- the frames and the place behind k of them; nothing where there are not so many -/
def itF (s : ByteArray) : Nat → Option (List ByteArray × Nat)
  | 0 => some ([], 0)
  | k + 1 => (itF s k).bind fun p => if okF s p.2 then some (p.1 ++ [datA s p.2], p.2 + 8 + hor s p.2 4) else none
theorem itF_succ {s : ByteArray} {k : Nat} {l : List ByteArray} {a : Nat} (h : itF s k = some (l, a)) (ho : okF s a = true) : itF s (k + 1) = some (l ++ [datA s a], a + 8 + hor s a 4) := by
  simp [itF, h, ho]
theorem itF_stop {s : ByteArray} {k : Nat} {l : List ByteArray} {a : Nat} (h : itF s k = some (l, a)) (ho : okF s a = false) : ∀ m, k < m → itF s m = none
  | 0, h => absurd h (Nat.not_lt_zero _)
  | m + 1, hm => by
    rcases Nat.lt_or_ge k m with h2 | h2
    · rw [itF, itF_stop h ho m h2]; rfl
    · obtain rfl : k = m := by omega
      simp [itF, h, ho]
/-- what is read as frames, and where they end -/
def FrEnd (s : ByteArray) (l : List ByteArray) (a : Nat) : Prop := (∃ k, itF s k = some (l, a)) ∧ okF s a = false
theorem FrEnd.one {s : ByteArray} {l l' : List ByteArray} {a a' : Nat} (h : FrEnd s l a) (h' : FrEnd s l' a') : l = l' ∧ a = a' := by
  obtain ⟨⟨k, hk⟩, ho⟩ := h
  obtain ⟨⟨k', hk'⟩, ho'⟩ := h'
  rcases Nat.lt_trichotomy k k' with e | e | e
  · rw [itF_stop hk ho k' e] at hk'; cases hk'
  · subst e; rw [hk] at hk'; cases hk'; exact ⟨rfl, rfl⟩
  · rw [itF_stop hk' ho' k e] at hk; cases hk
/-- what holds of the frames that were read -/
structure FrOk (s : ByteArray) (l : List ByteArray) (a : Nat) : Prop where
  le : a ≤ s.size
  len : 8 * l.length ≤ a
  small : ∀ d ∈ l, d.size ≤ 100000
theorem itF_ok {s : ByteArray} : ∀ (k : Nat) {l : List ByteArray} {a : Nat}, itF s k = some (l, a) → FrOk s l a
  | 0, l, a, h => by cases h; exact ⟨Nat.zero_le _, Nat.le_refl _, fun d hd => by cases hd⟩
  | k + 1, l, a, h => by
    rw [itF] at h
    cases hp : itF s k with
    | none => rw [hp] at h; cases h
    | some p =>
      rw [hp] at h
      obtain ⟨l0, a0⟩ := p
      have ih := itF_ok k hp
      by_cases ho : okF s a0 = true
      · simp only [Option.bind_some, ho, if_true] at h
        injection h with h; injection h with h1 h2
        subst h1 h2
        obtain ⟨q1, q2, q3, -⟩ := okF_parts ho
        refine ⟨q3, by have := ih.len; simp; omega, fun d hd => ?_⟩
        rcases List.mem_append.1 hd with hd | hd
        · exact ih.small d hd
        · rw [List.mem_singleton.1 hd, datA_size q3]; exact q2
      · simp only [Option.bind_some, ho] at h; simp at h

theorem appL (a b : ByteArray) : (a ++ b).data.toList = a.data.toList ++ b.data.toList := by simp [ByteArray.data_append]
/-- what stands behind a place, read from its own beginning -/
theorem cut_list (s : ByteArray) (a b : Nat) : (s.extract a b).data.toList = (s.data.toList.drop a).take (b - a) := by
  rw [ByteArray.data_extract, Array.toList_extract, List.extract_eq_take_drop]
theorem from_list (s : ByteArray) (e : Nat) : (s.extract e s.size).data.toList = s.data.toList.drop e := by
  rw [cut_list, List.take_of_length_le]; simp
theorem byA_from (s : ByteArray) (e i : Nat) : byA (s.extract e s.size) i = byA s (e + i) := by
  rw [byA, byA, from_list, List.getD_eq_getElem?_getD, List.getD_eq_getElem?_getD, List.getElem?_drop]
theorem hor_from (s : ByteArray) (e : Nat) : ∀ i, hor (s.extract e s.size) 0 i = hor s e i
  | 0 => rfl
  | i + 1 => by rw [hor, hor, hor_from s e i, byA_from]; simp
theorem ext_from (s : ByteArray) (e a b : Nat) : (s.extract e s.size).extract a b = s.extract (e + a) (e + b) := by
  apply ext_data
  rw [cut_list, from_list, cut_list, List.drop_drop, Nat.add_sub_add_left]
theorem datA_from (s : ByteArray) (e : Nat) : datA (s.extract e s.size) 0 = datA s e := by
  rw [datA, datA, ext_from, hor_from]; congr 1 <;> omega
theorem okF_from (s : ByteArray) (e : Nat) (he : e ≤ s.size) : okF (s.extract e s.size) 0 = okF s e := by
  have hz : (s.extract e s.size).size = s.size - e := by rw [ByteArray.size_extract]; omega
  have h1 : decide (0 + 8 ≤ (s.extract e s.size).size) = decide (e + 8 ≤ s.size) := by rw [hz]; congr 1; simp; omega
  have h3 : decide (0 + 8 + hor (s.extract e s.size) 0 4 ≤ (s.extract e s.size).size) = decide (e + 8 + hor s e 4 ≤ s.size) := by rw [hz, hor_from]; congr 1; simp; omega
  rw [okF, okF, h1, h3, hor_from, datA_from, ext_from]

/-- the length of a frame, written again, has just its bytes -/
theorem lenT_hor {t : ByteArray} (h : 8 ≤ t.size) : lenT (hor t 0 4) = t.extract 0 4 := by
  apply ext_data
  rw [cut_list]
  have hl : 8 ≤ t.data.toList.length := by simpa using h
  generalize hL : t.data.toList = L at hl
  match L, hl with
  | b0 :: b1 :: b2 :: b3 :: r, _ =>
    have e0 : byA t 0 = b0.toNat := by rw [byA, hL]; rfl
    have e1 : byA t 1 = b1.toNat := by rw [byA, hL]; rfl
    have e2 : byA t 2 = b2.toNat := by rw [byA, hL]; rfl
    have e3 : byA t 3 = b3.toNat := by rw [byA, hL]; rfl
    have eh : hor t 0 4 = 256 * (256 * (256 * b0.toNat + b1.toNat) + b2.toNat) + b3.toNat := by simp [hor, e0, e1, e2, e3]
    have l0 := byte_lt b0
    have l1 := byte_lt b1
    have l2 := byte_lt b2
    have l3 := byte_lt b3
    have u : ∀ (n : Nat) (b : UInt8), n % 256 = b.toNat → b8 n = b := fun n b h => by
      apply UInt8.toNat_inj.mp; rw [b8, UInt8.toNat_ofNat', ← h]
    rw [eh]
    show [b8 _, b8 _, b8 _, b8 _] = _
    rw [u _ b0 (by omega), u _ b1 (by omega), u _ b2 (by omega), u _ b3 (by omega)]
    rfl
/-- the program's test: the head held against the head of the data -/
theorem head_is {t : ByteArray} (h : 8 ≤ t.size) (h3 : 8 + hor t 0 4 ≤ t.size) : headT (t.extract 8 (8 + hor t 0 4)) = t.extract 0 8 ↔ sumT (crcP (datA t 0)) = t.extract 4 8 := by
  have e : t.extract 8 (8 + hor t 0 4) = datA t 0 := by rw [datA]
  have hs : (datA t 0).size = hor t 0 4 := datA_size (by omega)
  have e8 : t.extract 0 8 = t.extract 0 4 ++ t.extract 4 8 := by
    apply ext_data
    rw [appL, cut_list, cut_list, cut_list]
    have : (8 : Nat) - 0 = 4 + 4 := rfl
    rw [this, List.take_add, List.drop_drop]
  rw [e, headT, hs, lenT_hor h, e8]
  constructor
  · intro hh
    have := congrArg (fun x : ByteArray => x.data.toList) hh
    simp only [appL] at this
    exact ext_data (List.append_cancel_left this)
  · intro hh; rw [hh]
theorem okF_head {t : ByteArray} (h : 8 ≤ t.size) (h2 : hor t 0 4 ≤ 100000) (h3 : 8 + hor t 0 4 ≤ t.size) : okF t 0 = ((t.extract 0 8).toList == (headT (t.extract 8 (8 + hor t 0 4))).toList) := by
  have := head_is h h3
  have k1 : decide (0 + 8 ≤ t.size) = true := by simp; omega
  have k2 : decide (hor t 0 4 ≤ 100000) = true := by simpa using h2
  have k3 : decide (0 + 8 + hor t 0 4 ≤ t.size) = true := by simp; omega
  rw [okF, k1, k2, k3]
  rw [Bool.eq_iff_iff]
  simp only [Bool.true_and, beq_iff_eq, Go.ByteArray.toList_eq]
  constructor
  · intro hh
    exact (congrArg (fun x : ByteArray => x.data.toList) (this.2 (ext_data hh))).symm
  · intro hh
    exact congrArg (fun x : ByteArray => x.data.toList) (this.1 (ext_data hh.symm))
theorem okF_no1 {t : ByteArray} {a : Nat} (h : t.size < a + 8) : okF t a = false := by
  have k1 : decide (a + 8 ≤ t.size) = false := by simp; omega
  simp [okF, k1]
theorem okF_no2 {t : ByteArray} {a : Nat} (h : 100000 < hor t a 4) : okF t a = false := by
  have k1 : decide (hor t a 4 ≤ 100000) = false := by simp; omega
  simp [okF, k1]
theorem okF_no3 {t : ByteArray} {a : Nat} (h : t.size < a + 8 + hor t a 4) : okF t a = false := by
  have k1 : decide (a + 8 + hor t a 4 ≤ t.size) = false := by simp; omega
  simp [okF, k1]
theorem okF_sum {t : ByteArray} {a : Nat} (h1 : a + 8 ≤ t.size) (h2 : hor t a 4 ≤ 100000) (h3 : a + 8 + hor t a 4 ≤ t.size) : okF t a = ((sumT (crcP (datA t a))).toList == (t.extract (a + 4) (a + 8)).toList) := by
  have k1 : decide (a + 8 ≤ t.size) = true := by simpa using h1
  have k2 : decide (hor t a 4 ≤ 100000) = true := by simpa using h2
  have k3 : decide (a + 8 + hor t a 4 ≤ t.size) = true := by simpa using h3
  rw [okF, k1, k2, k3]; simp
theorem p24 : (2 : Nat) ^ 24 = 16777216 := by decide
theorem p16 : (2 : Nat) ^ 16 = 65536 := by decide
theorem p8 : (2 : Nat) ^ 8 = 256 := by decide
theorem or_add (a b i P : Nat) (hP : 2 ^ i = P) (h : b < P) : a * P ||| b = a * P + b := by
  subst hP
  have := Nat.shiftLeft_add_eq_or_of_lt (a := a) h
  rw [Nat.shiftLeft_eq] at this
  exact this.symm
set_option maxRecDepth 100000 in
/-- four bytes put together by shifts -/
theorem or4' (x0 x1 x2 x3 : Nat) (l1 : x1 < 256) (l2 : x2 < 256) (l3 : x3 < 256) : (((x0 * 16777216 ||| x1 * 65536) ||| x2 * 256) ||| x3) = 256 * (256 * (256 * x0 + x1) + x2) + x3 := by
  have d2 : 256 * 65536 = 16777216 := by decide
  have d3 : 256 * 256 = 65536 := by decide
  have q1 := or_add x0 (x1 * 65536) 24 16777216 p24 (by omega)
  have q2 : x0 * 16777216 + x1 * 65536 = (x0 * 256 + x1) * 65536 := by rw [Nat.add_mul, Nat.mul_assoc, d2]
  have q3 := or_add (x0 * 256 + x1) (x2 * 256) 16 65536 p16 (by omega)
  have q4 : (x0 * 256 + x1) * 65536 + x2 * 256 = ((x0 * 256 + x1) * 256 + x2) * 256 := by rw [Nat.add_mul ((x0 * 256 + x1) * 256), Nat.mul_assoc (x0 * 256 + x1), d3]
  have q5 := or_add ((x0 * 256 + x1) * 256 + x2) x3 8 256 p8 l3
  rw [q1, q2, q3, q4, q5]
  clear q1 q2 q3 q4 q5
  rw [Nat.mul_comm 256 (256 * (256 * x0 + x1) + x2), Nat.mul_comm 256 (256 * x0 + x1), Nat.mul_comm 256 x0]
set_option maxRecDepth 100000 in
theorem or4 (s : ByteArray) : (((byA s 0 * 16777216 ||| byA s 1 * 65536) ||| byA s 2 * 256) ||| byA s 3) = hor s 0 4 := by
  rw [or4' _ _ _ _ (byA_lt s 1) (byA_lt s 2) (byA_lt s 3)]
  simp [hor]
end Go.Proofs.Ytcecoddgmifgkaa.Pl
