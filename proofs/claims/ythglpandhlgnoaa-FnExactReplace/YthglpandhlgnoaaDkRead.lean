/- Contracts of the two functions that read a file off a disk. -/
import Derived.Test.YthglpandhlgnoaaDkEnd
namespace Go.Proofs.Ythglpandhlgnoaa
open Go.ChangeShapes Go.WideShapes Go.ChangeAt Go.RowKit Go.Maps

def readD (ls ss : List Fl) (os : List Dop) (x : ByteArray) : ByteArray := if diskB ls ss os then dataF ls x else ⟨#[]⟩
def readB (ls ss : List Fl) (os : List Dop) (x : ByteArray) : Bool := diskB ls ss os && hasF ls x
def ReadTo (w : World) (d : ByteArray) (f : Bool) (e : Ending) (w' : World) : Prop := e = .returned (.tuple #[.string d, .bool f]) ∧ Below w.heap.size w w'
theorem readTo_mk {w w' : World} {d d' : ByteArray} {f f' : Bool} (h : d' = d) (h2 : f' = f) (hB : Below w.heap.size w w') : ReadTo w d f (.returned (.tuple #[.string d', .bool f'])) w' := ⟨by rw [h, h2], hB⟩
theorem dataF_at {fs : List Fl} {x : ByteArray} {k : Nat} (h : k < fs.length) (hu : atUp fs x k) (e : eqS fs[k].n x = true) : dataF fs x = fs[k].d ∧ hasF fs x = true := by
  have := atF_some h hu e
  refine ⟨?_, by rw [hasF, this]; rfl⟩
  rw [dataF, this]
  simp only
  rw [List.getD_eq_getElem?_getD, List.getElem?_eq_getElem h]; rfl
theorem dataF_gone {fs : List Fl} {x : ByteArray} (hu : atUp fs x fs.length) : dataF fs x = ⟨#[]⟩ ∧ hasF fs x = false := by
  have := atF_none hu
  exact ⟨by rw [dataF, this], by rw [hasF, this]; rfl⟩

set_option maxHeartbeats 1000000 in
theorem dataIn_any (ad : Option Addr) (cap : Nat) (fs : List Fl) (x : ByteArray) (w : World) (hlen : fs.length ≤ 1048576) (hs : SlF w ad fs) :
    Calls Try.prog 47 #[.slice ad fs.length cap, .string x] w (ReadTo w (dataF fs x) (hasF fs x)) := by
  have HS0 := HIDk hs
  clear hs
  go_enter Try.func47, Try.ntmps47
  go_wp2_with fail
  go_loopw [10] (fun i wr => ∃ k : Nat, k ≤ fs.length ∧ i = .int .i64 (k : Int) ∧ Hid (atUp fs x k) ∧ Hid (Below w.heap.size w wr)) (fun i _ => fs.length - (intOf i).toNat)
  case atStart => exact ⟨0, Nat.zero_le _, rfl, fun j _ h => absurd h (by omega), Below.refl _ _⟩
  case round =>
    obtain ⟨k, hk, rfl, HU, HB⟩ := hrel
    by_cases hlt : k < fs.length
    · obtain ⟨b, off, rfl, hb, t0, t1⟩ : ∃ b off, ad = some ⟨b, off, none⟩ ∧ b < wr.heap.size ∧ AtF wr b (off + k * 2) fs[k] := by
        rcases HS0.out.below HB.out with hnil | ⟨b, off, e, hb, hr⟩
        · rw [hnil] at hlt; simp at hlt
        · exact ⟨b, off, e, hb, hr k hlt⟩
      have k0 : (0 : Int) ≤ (k : Int) := by omega
      have k1 : (k : Int) < (fs.length : Int) := by omega
      have HB2 := HIDk (HB.out.alloc HB.out.size (.cells #[.string fs[k].n, .string fs[k].d] 71))
      cases he : (fs[k].n.toList == x.toList) with
      | true =>
        have HD := HIDk (dataF_at hlt HU.out (show eqS fs[k].n x = true from he))
        go_wp2
        go_ret2
        exact readTo_mk HD.out.1.symm HD.out.2.symm HB2.out
      | false =>
        have HU2 : Hid (atUp fs x (k + 1)) := fun j hj hjk => by
          by_cases e : j = k
          · subst e; exact he
          · exact HU.out j hj (by omega)
        go_wp2
        go_roundw
        case rel => exact ⟨k + 1, by omega, by go_num, HU2, HB2⟩
        case measure => simp [intOf]; omega
    · obtain rfl : k = fs.length := by omega
      have HD := HIDk (dataF_gone HU.out)
      go_wp2
      go_ret2
      exact readTo_mk HD.out.1.symm HD.out.2.symm HB.out

set_option maxRecDepth 8000 in
set_option maxHeartbeats 1000000 in
theorem implReadFile_any (adL adS adO : Option Addr) (capL capS capO : Nat) (ls ss : List Fl) (os : List Dop) (x : ByteArray) (w : World) (hl : ls.length ≤ 1048576) (hs : ss.length ≤ 1048576) (ho : os.length ≤ 1048576)
    (H : Dk w adL adS adO ls ss os w) (fl : ∀ f ∈ ls, f.n.size ≤ maxLen ∧ f.d.size ≤ 4194304) (fs' : ∀ f ∈ ss, f.n.size ≤ maxLen ∧ f.d.size ≤ 4194304) (fo : ∀ o ∈ os, o.small) :
    Calls Try.prog 15 #[.agg #[.slice adL ls.length capL, .slice adS ss.length capS, .slice adO os.length capO], .string x] w (ReadTo w (readD ls ss os x) (readB ls ss os x)) := by
  obtain ⟨W, hW⟩ : ∃ W, W = w.alloc (.cells #[.slice adL ls.length capL, .slice adS ss.length capS, .slice adO os.length capO] 31) := ⟨_, rfl⟩
  have C0 : Hid (Cl w (.slice adL ls.length capL) (.slice adS ss.length capS) (.slice adO os.length capO) W) := by rw [hW]; exact cl_new _ _ _ _ _
  have K0 : Hid (Dk w adL adS adO ls ss os W) := H.later (by rw [hW]; exact (Below.refl _ _).alloc (Nat.le_refl _) _)
  have HFL := HIDk fl
  have HFS := HIDk fs'
  have HFO := HIDk fo
  clear H fl fs' fo
  go_enter Try.func15, Try.ntmps15
  go_wp2_with fail
  rw [← hW]
  clear hW
  refine (implDiskOk_any adL adS adO capL capS capO ls ss os W hl hs ho (dk_self K0.out) HFL.out HFS.out HFO.out).mono ?_
  rintro e w1 ⟨rfl, hb1⟩
  have K1 := HIDk (K0.out.later hb1)
  have C1 := HIDk (C0.out.later hb1)
  have y0 := C1.out.c0
  clear hb1 K0 C0
  cases hd : diskB ls ss os with
  | false =>
    have HD : Hid (readD ls ss os x = ⟨#[]⟩ ∧ readB ls ss os x = false) := ⟨by rw [readD, hd]; rfl, by rw [readB, hd]; rfl⟩
    clear hd
    go_wp2
    go_ret2
    exact readTo_mk HD.out.1.symm HD.out.2.symm K1.out.bel
  | true =>
    have HD : Hid (readD ls ss os x = dataF ls x ∧ readB ls ss os x = hasF ls x) := ⟨by rw [readD, hd]; rfl, by rw [readB, hd]; rfl⟩
    clear hd
    go_wp2_with fail
    refine (dataIn_any adL capL ls x w1 hl K1.out.live).mono ?_
    rintro e w2 ⟨rfl, hb2⟩
    have HB2 := HIDk (K1.out.bel.trans (hb2.mono K1.out.bel.size))
    clear hb2 K1 C1
    go_wp2
    go_ret2
    exact readTo_mk HD.out.1.symm HD.out.2.symm HB2.out

set_option maxRecDepth 8000 in
set_option maxHeartbeats 1000000 in
theorem specReadFile_any (adL adS adO : Option Addr) (capL capS capO : Nat) (ls ss : List Fl) (os : List Dop) (x : ByteArray) (w : World) (hl : ls.length ≤ 1048576) (hs : ss.length ≤ 1048576) (ho : os.length ≤ 1048576)
    (H : Dk w adL adS adO ls ss os w) (hcS : adS = none → capS = 0) (fl : ∀ f ∈ ls, f.n.size ≤ maxLen ∧ f.d.size ≤ 4194304) (fs' : ∀ f ∈ ss, f.n.size ≤ maxLen ∧ f.d.size ≤ 4194304) (fo : ∀ o ∈ os, o.small) :
    Calls Try.prog 14 #[.agg #[.slice adL ls.length capL, .slice adS ss.length capS, .slice adO os.length capO], .string x] w (ReadTo w (readD ls ss os x) (readB ls ss os x)) := by
  obtain ⟨W, hW⟩ : ∃ W, W = w.alloc (.cells #[.slice adL ls.length capL, .slice adS ss.length capS, .slice adO os.length capO] 31) := ⟨_, rfl⟩
  have C0 : Hid (Cl w (.slice adL ls.length capL) (.slice adS ss.length capS) (.slice adO os.length capO) W) := by rw [hW]; exact cl_new _ _ _ _ _
  have K0 : Hid (Dk w adL adS adO ls ss os W) := H.later (by rw [hW]; exact (Below.refl _ _).alloc (Nat.le_refl _) _)
  have HCS := HIDk hcS
  have HFL := HIDk fl
  have HFS := HIDk fs'
  have HFO := HIDk fo
  clear H fl fs' fo hcS
  go_enter Try.func14, Try.ntmps14
  go_wp2_with fail
  rw [← hW]
  clear hW
  refine (specDiskOk_any adL adS adO capL capS capO ls ss os W hl hs ho (dk_self K0.out) HCS.out HFL.out HFS.out HFO.out).mono ?_
  rintro e w1 ⟨rfl, hb1⟩
  have K1 := HIDk (K0.out.later hb1)
  have C1 := HIDk (C0.out.later hb1)
  have y0 := C1.out.c0
  clear hb1 K0 C0
  cases hd : diskB ls ss os with
  | false =>
    have HD : Hid (readD ls ss os x = ⟨#[]⟩ ∧ readB ls ss os x = false) := ⟨by rw [readD, hd]; rfl, by rw [readB, hd]; rfl⟩
    clear hd
    go_wp2
    go_ret2
    exact readTo_mk HD.out.1.symm HD.out.2.symm K1.out.bel
  | true =>
    have HD : Hid (readD ls ss os x = dataF ls x ∧ readB ls ss os x = hasF ls x) := ⟨by rw [readD, hd]; rfl, by rw [readB, hd]; rfl⟩
    clear hd
    go_wp2_with fail
    refine (l8At_any adL capL ls x w1 hl K1.out.live).mono ?_
    rintro e w2 ⟨rfl, rfl⟩
    cases ha : atF ls x with
    | none =>
      have HE : Hid (dataF ls x = ⟨#[]⟩ ∧ hasF ls x = false) := ⟨by rw [dataF, ha], by rw [hasF, ha]; rfl⟩
      have e1 : atI ls x = -1 := by rw [atI, ha]
      rw [e1]
      go_wp2
      go_ret2
      exact readTo_mk (HE.out.1.symm.trans HD.out.1.symm) (HE.out.2.symm.trans HD.out.2.symm) K1.out.bel
    | some j =>
      obtain ⟨hj, -⟩ := atF_lt ha
      have HE : Hid (dataF ls x = ls[j].d ∧ hasF ls x = true) := ⟨by rw [dataF, ha]; simp only; rw [List.getD_eq_getElem?_getD, List.getElem?_eq_getElem hj]; rfl, by rw [hasF, ha]; rfl⟩
      have e1 : atI ls x = (j : Int) := by rw [atI, ha]
      rw [e1]
      obtain ⟨b, off, rfl, hb, t0, t1⟩ : ∃ b off, adL = some ⟨b, off, none⟩ ∧ b < w2.heap.size ∧ AtF w2 b (off + j * 2) ls[j] := by
        rcases K1.out.live with hnil | ⟨b, off, e, hb, hr⟩
        · rw [hnil] at hj; simp at hj
        · exact ⟨b, off, e, hb, hr j hj⟩
      have k0 : (0 : Int) ≤ (j : Int) := by omega
      have k1 : (j : Int) < (ls.length : Int) := by omega
      have d0 : decide ((j : Int) < 0) = false := by simp
      clear ha e1
      go_wp2
      go_ret2
      exact readTo_mk (HE.out.1.symm.trans HD.out.1.symm) (HE.out.2.symm.trans HD.out.2.symm) K1.out.bel
end Go.Proofs.Ythglpandhlgnoaa
