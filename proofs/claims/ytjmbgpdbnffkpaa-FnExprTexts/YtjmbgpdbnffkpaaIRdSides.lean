/- Contracts of the program's reader: sides, and a side, whatever stands there. -/
import Derived.Test.YtjmbgpdbnffkpaaIRdSide
import Derived.Test.YtjmbgpdbnffkpaaRdxRow
namespace Go.Proofs.Ytjmbgpdbnffkpaa
set_option maxRecDepth 100000
set_option linter.unusedVariables false
open Go.ChangeShapes Go.WideShapes Go.ChangeAt Go.RowKit
open Pl

theorem RdG.heap {w w' : World} {R : Nat} {s : ByteArray} {st : IS} {base : Nat} {v : Value} {qs : List ER} (h : RdG w R s st base v qs) (hs : w.heap.size ≤ w'.heap.size) (h1 : w'.heap[R]? = w.heap[R]?) (h2 : ∀ g, v.ownBlock = some g → w'.heap[g]? = w.heap[g]?) (h3 : ∀ q ∈ qs, ∀ g, inR q g → w'.heap[g]? = w.heap[g]?) : RdG w' R s st base v qs where
  rd := h.rd.heap hs h1
  own := own_heap h.own h2
  out := h.out
  zA := h.zA
  zK := h.zK
  ok q hq := ok_heap (h.ok q hq) hs (h.zA q hq) (h.zK q hq) (h3 q hq)
  lie q hq g hg := by
    obtain ⟨a1, a2, a3, a4⟩ := h.lie q hq g hg
    exact ⟨a1, Nat.lt_of_lt_of_le a2 hs, free_heap a3 (h3 q hq g hg), a4⟩
  one := h.one
  two := h.two
  cA := h.cA
/-- the kids so far, beside the reader -/
structure KI (w wr : World) (R : Nat) (s : ByteArray) (st : IS) (base : Nat) (v v' : Value) (qs ns : List ER) (zs : List Int) (vK : Value) : Prop where
  rd : RdG wr R s st base v' (qs ++ ns)
  went : Went R v w v' wr
  new : ∀ q ∈ ns, ∀ g, inR q g → w.heap.size ≤ g
  own : wr.ownsRow w.heap.size 2 1 vK zs.length (ints zs)
  far : ∀ g, vK.ownBlock = some g → v'.ownBlock ≠ some g ∧ ∀ q ∈ qs ++ ns, ¬ inR q g
theorem KI.is {w wr w' : World} {R : Nat} {s : ByteArray} {st st' : IS} {base : Nat} {v v' : Value} {qs ns : List ER} {zs : List Int} {vK : Value} (h : KI w wr R s st base v v' qs ns zs vK) (hR : R < w.heap.size) (hg : wr.grownBy w' (some R)) (hF : RdG w' R s st' base v' (qs ++ ns)) : KI w w' R s st' base v v' qs ns zs vK :=
  ⟨hF, h.went.trans ((Onl.of_grown hg).any v'), h.new, h.own.kept hg (.inr (fun e => by have := (h.own.lt R e).1; omega)), h.far⟩
theorem KI.more {w wr w' : World} {R : Nat} {s : ByteArray} {st st' : IS} {base : Nat} {v v' v2 : Value} {qs ns ms : List ER} {zs : List Int} {vK : Value} (h : KI w wr R s st base v v' qs ns zs vK) (hR : R < w.heap.size) (hF : RdG w' R s st' base v2 ((qs ++ ns) ++ ms)) (hW : Went R v' wr v2 w') (hm : ∀ q ∈ ms, ∀ g, inR q g → wr.heap.size ≤ g) : KI w w' R s st' base v v2 qs (ns ++ ms) zs vK := by
  have hl : ∀ g, vK.ownBlock = some g → w.heap.size ≤ g ∧ g < wr.heap.size := fun g hg => h.own.lt g hg
  refine ⟨by rw [← List.append_assoc]; exact hF, h.went.trans hW, fun q hq g hg => ?_, own_heap h.own fun g hg => hW.onl.block g (hl g hg).2 (by have := (hl g hg).1; omega) (h.far g hg).1, fun g hg => ⟨hW.apart (hl g hg).2 (h.far g hg).1, fun q hq hi => ?_⟩⟩
  · rcases List.mem_append.1 hq with h1 | h1
    · exact h.new q h1 g hg
    · exact Nat.le_trans h.went.onl.size (hm q h1 g hg)
  · rw [← List.append_assoc] at hq
    rcases List.mem_append.1 hq with h1 | h1
    · exact (h.far g hg).2 q h1 hi
    · have := hm q h1 g hi; have := (hl g hg).2; omega
theorem KI.app {w wr w' : World} {R : Nat} {s : ByteArray} {st : IS} {base : Nat} {v v' : Value} {qs ns : List ER} {zs : List Int} {vK vN : Value} (h : KI w wr R s st base v v' qs ns zs vK) (hR : R < w.heap.size) (z : Int) (o : Obj) (hown : w'.ownsRow w.heap.size 2 1 vN (zs.length + 1) (ints zs ++ [.int .i64 z])) (hg : (wr.alloc o).grownBy w' vK.ownBlock) (hat : vN.ownBlock = vK.ownBlock ∨ vN.ownBlock = some (wr.alloc o).heap.size) : KI w w' R s st base v v' qs ns (zs ++ [z]) vN := by
  have hg0 := World.grownBy_alloc wr o none
  have keep : ∀ k, k < wr.heap.size → vK.ownBlock ≠ some k → w'.heap[k]? = wr.heap[k]? := fun k hk hne => (hg.block k (Nat.lt_of_lt_of_le hk hg0.size) (Ne.symm hne)).trans (hg0.block k hk (by simp))
  have hl : ∀ g, vK.ownBlock = some g → w.heap.size ≤ g ∧ g < wr.heap.size := fun g hg => h.own.lt g hg
  have hs : wr.heap.size ≤ w'.heap.size := Nat.le_trans hg0.size hg.size
  refine ⟨h.rd.heap hs (keep R h.rd.rd.lt (fun e => by have := (hl R e).1; omega)) (fun g hg => keep g (h.rd.own.lt g hg).2 (fun e => (h.far g e).1 hg)) (fun q hq g hi => keep g (h.rd.lie q hq g hi).2.1 (fun e => (h.far g e).2 q hq hi)), ?_, h.new, by rw [ints_add, List.length_append, List.length_singleton]; exact hown, fun g hgn => ?_⟩
  · refine ⟨⟨hg.os.trans (hg0.os.trans h.went.onl.os), hg.tape.trans (hg0.tape.trans h.went.onl.tape), hg.output.trans (hg0.output.trans h.went.onl.output), Nat.le_trans h.went.onl.size hs, fun k hk h1 h2 => (keep k (Nat.lt_of_lt_of_le hk h.went.onl.size) (fun e => by have := (hl k e).1; omega)).trans (h.went.onl.block k hk h1 h2)⟩, h.went.own⟩
  · rcases hat with e | e
    · exact h.far g (by rw [← e]; exact hgn)
    · rw [e] at hgn
      injection hgn with hgn
      have hsz : wr.heap.size ≤ g := by rw [← hgn]; exact hg0.size
      exact ⟨fun e2 => by have := (h.rd.own.lt g e2).2; omega, fun q hq hi => by have := (h.rd.lie q hq g hi).2.1; omega⟩
/-- a node over kids -/
theorem KI.node {w wr : World} {R : Nat} {s : ByteArray} {st : IS} {base : Nat} {v v' : Value} {qs ns : List ER} {zs : List Int} {vK : Value} (h : KI w wr R s st base v v' qs ns zs vK) (hb : base ≤ w.heap.size) (k : Int) : ∃ ad cap, vK = .slice ad zs.length cap ∧ NewQ base wr ⟨⟨k, [], ⟨#[]⟩, ⟨#[]⟩, zs⟩, none, 0, ad, cap⟩ ∧ ∀ g, inR ⟨⟨k, [], ⟨#[]⟩, ⟨#[]⟩, zs⟩, none, 0, ad, cap⟩ g → w.heap.size ≤ g ∧ v'.ownBlock ≠ some g ∧ ∀ q ∈ qs ++ ns, ¬ inR q g := by
  obtain ⟨ad, cap, e, h2, h3, h4⟩ := ownsI h.own rfl
  have hA : ∀ g, ¬ bA ⟨⟨k, [], ⟨#[]⟩, ⟨#[]⟩, zs⟩, none, 0, ad, cap⟩ g := fun g hg => hg.1 rfl
  have hK : ∀ g, inR ⟨⟨k, [], ⟨#[]⟩, ⟨#[]⟩, zs⟩, none, 0, ad, cap⟩ g → (w.heap.size ≤ g ∧ g < wr.heap.size ∧ Free wr g) ∧ vK.ownBlock = some g := by
    rintro g (hg | hg)
    · exact absurd hg (hA g)
    · exact ⟨h4 g hg.1 hg.2, by rw [e, show ad = some ⟨g, 0, none⟩ from hg.2]; rfl⟩
  refine ⟨ad, cap, e, ⟨fun h => absurd rfl h, h3, ⟨.inl rfl, h2⟩, fun g hg => ⟨Nat.le_trans hb (hK g hg).1.1, (hK g hg).1.2⟩, fun g hg => absurd hg (hA g), Nat.zero_le _⟩, fun g hg => ⟨(hK g hg).1.1, h.far g (hK g hg).2⟩⟩

/-- sides behind the first one -/
def sidesI (s : ByteArray) (it : IS → Option (Int × IS)) : Option (Int × IS) → Option (Int × IS)
  | none => none
  | some (i, st1) =>
    if signAt s st1.p = 0 then some (1, st1)
    else
      match kidsI s it (signAt s st1.p) (s.size + 1) [i] st1 with
      | none => none
      | some (zs, st2) => some ((zs.length : Int), ⟨st2.p, st2.out ++ [⟨signAt s st1.p, [], ⟨#[]⟩, ⟨#[]⟩, zs⟩]⟩)
theorem KI.drewN {w wr : World} {R : Nat} {s : ByteArray} {st : IS} {base : Nat} {v v' : Value} {qs ns : List ER} {zs : List Int} {vK : Value} (h : KI w wr R s st base v v' qs ns zs vK) (n : Nat) : KI w (wr.drewN n) R s st base v v' qs ns zs vK :=
  ⟨h.rd.heap (w' := wr.drewN n) (Nat.le_refl _) rfl (fun g _ => rfl) (fun q _ g _ => rfl), ⟨⟨h.went.onl.os, h.went.onl.tape, h.went.onl.output, h.went.onl.size, h.went.onl.block⟩, h.went.own⟩, h.new, own_heap h.own fun g _ => rfl, h.far⟩
def kStep (s : ByteArray) (it : IS → Option (Int × IS)) (k : Int) (m : Nat) (zs : List Int) : Option (Int × IS) → Option (List Int × IS)
  | none => none
  | some (i, st2) => kidsI s it k m (zs ++ [i]) st2
theorem kidsI_no {s : ByteArray} {it : IS → Option (Int × IS)} {k : Int} {n : Nat} {zs : List Int} {st : IS} (h : litAt s (tSign k) st.p = false) : kidsI s it k n zs st = some (zs, st) := by
  cases n with
  | zero => rfl
  | succ n => rw [kidsI, if_neg (by rw [h]; decide)]
set_option maxHeartbeats 4000000 in
theorem sides_any (R : Nat) (s : ByteArray) (st : IS) (base : Nat) (v : Value) (qs : List ER) (w : World) (h : RdG w R s st base v qs) (hR : R < base) (hB : base ≤ w.heap.size) (hs : s.size ≤ 1000) (r1 : Option (Int × IS))
    (hfirst : Calls Try.prog 93 #[.pointer (some ⟨R, 0, none⟩)] w (IPost R s base v qs w r1)) (it : IS → Option (Int × IS))
    (h1 : ∀ x st1, r1 = some (x, st1) → st1.p ≤ s.size ∧ st1.out.length ≤ st1.p)
    (hit : ∀ (st' : IS) (v' : Value) (qs' : List ER) (w' : World), RdG w' R s st' base v' qs' → base ≤ w'.heap.size → (∃ x st1, r1 = some (x, st1) ∧ st1.p + 3 ≤ st'.p) → st'.p ≤ s.size → st'.out.length ≤ st'.p → Calls Try.prog 93 #[.pointer (some ⟨R, 0, none⟩)] w' (IPost R s base v' qs' w' (it st')))
    (hmono : ∀ (st' : IS) (x : Int) (st2 : IS), st'.p ≤ s.size → it st' = some (x, st2) → st'.p ≤ st2.p ∧ st2.p ≤ s.size ∧ st2.out.length + st'.p ≤ st'.out.length + st2.p) :
    Calls Try.prog 67 #[.pointer (some ⟨R, 0, none⟩)] w (IPost R s base v qs w (sidesI s it r1)) := by
  obtain ⟨iI, hiI, zI0, zI1, zI2⟩ := info_parts (P := Try.prog) (e := 2) (z := .int .i64 0) (size := 1) (bytes := 8) (by kernel_rfl)
  have HII : Hid (Try.prog.info? 2 = some iI ∧ iI.zero = some (.int .i64 0) ∧ iI.size = 1 ∧ iI.bytes = 8) := ⟨hiI, zI0, zI1, zI2⟩
  have HITM := toHid hit
  have HMONO := toHid hmono
  have H1 := toHid h1
  have H := toHid h
  have HIT := toHid hfirst
  have HWB : Hid (R < w.heap.size) := h.rd.lt
  clear hiI zI0 zI1 zI2 hit hmono h1 h hfirst
  go_enter Try.func67, Try.ntmps67
  go_wp2_with fail
  refine HIT.out.mono ?_
  rintro e w1 (⟨x, st1, v1, ns, rfl, rfl, hF1, hW1, hns⟩ | ⟨rfl, he, hb1⟩)
  · have HF1 := toHid hF1
    have HW1 := toHid hW1
    have HNS := toHid hns
    have HLE := toHid (H1.out x st1 rfl)
    clear hF1 hW1 hns HIT H1
    obtain ⟨X2, hX2⟩ : ∃ X2, X2 = w1.alloc (.cells #[.int .i64 x] 2) := ⟨_, rfl⟩
    have HKI0 : Hid (KI w X2 R s st1 base v v1 qs ns [x] (.slice (some ⟨w1.heap.size, 0, none⟩) 1 1)) := by
      rw [hX2]
      have hg0 := World.grownBy_alloc w1 (.cells #[.int .i64 x] 2) none
      refine ⟨HF1.out.heap hg0.size (hg0.block R HF1.out.rd.lt (by simp)) (fun g hg => hg0.block g (HF1.out.own.lt g hg).2 (by simp)) (fun q hq g hi => hg0.block g (HF1.out.lie q hq g hi).2.1 (by simp)), HW1.out.trans ((Onl.of_below ((Below.refl _ _).alloc (Nat.le_refl _) _)).any v1), HNS.out, World.ownsRow_lit w1 #[.int .i64 x] 1 HW1.out.onl.size (by unfold maxLen; omega) (by simp), fun g hg => ?_⟩
      simp [Value.ownBlock] at hg
      subst hg
      exact ⟨fun e => by have := (HF1.out.own.lt _ e).2; omega, fun q hq hi => by have := (HF1.out.lie q hq _ hi).2.1; omega⟩
    clear HF1 HW1 HNS
    go_wp2_with fail
    rw [← hX2]
    clear hX2
    refine (nextKind_any R s st1.p v1 X2 HKI0.out.rd.rd hs).mono ?_
    rintro e w3 ⟨rfl, nn, hw3⟩
    have HK3 : Hid (KI w w3 R s st1 base v v1 qs ns [x] (.slice (some ⟨w1.heap.size, 0, none⟩) 1 1)) := by rw [hw3]; exact HKI0.out.drewN nn
    clear hw3 HKI0
    by_cases hk : signAt s st1.p = 0
    · have EQ : Hid (sidesI s it (some (x, st1)) = some (1, st1)) := by show _ = _; rw [sidesI, if_pos hk]
      rw [hk]
      clear hk
      go_wp2
      go_ret
      exact .inl ⟨1, st1, v1, ns, EQ.out, rfl, HK3.out.rd, HK3.out.went, HK3.out.new⟩
    · obtain ⟨kd, hkd⟩ : ∃ kd, kd = signAt s st1.p := ⟨_, rfl⟩
      rw [← hkd] at hk ⊢
      have hk0 : (kd == 0) = false := by simpa using hk
      have HKD := toHid hkd
      have HK0 := toHid hk
      obtain ⟨KK, hKK⟩ : ∃ KK, KK = kidsI s it kd (s.size + 1) [x] st1 := ⟨_, rfl⟩
      have HKK := toHid hKK
      clear hkd hk hKK
      go_wp2_with fail
      go_loopw [3] (fun vK wq => ∃ (n : Nat) (zs : List Int) (st' : IS) (v' : Value) (ms : List ER), Hid (st'.p ≤ s.size ∧ st1.p ≤ st'.p ∧ s.size - st'.p < n ∧ zs.length ≤ st'.p + 1 ∧ st'.out.length ≤ st'.p) ∧ Hid (kidsI s it kd n zs st' = KK) ∧ Hid (KI w wq R s st' base v v' qs ms zs vK)) (fun _ wq => restN R wq)
      case atStart => exact ⟨s.size + 1, [x], st1, v1, ns, ⟨HLE.out.1, Nat.le_refl _, by omega, by simp, HLE.out.2⟩, HKK.out.symm, HK3.out⟩
      case round =>
        obtain ⟨n, zs, st', v', ms, HB, HQ, HKL⟩ := hrel
        clear HK3
        go_wp2_with fail
        refine (signOf_any _ _).mono ?_
        rintro e w' ⟨rfl, rfl⟩
        go_wp2_with fail
        refine (skip_any R s (tSign kd) st'.p v' _ HKL.out.rd.rd hs (by rw [tSign_size]; omega)).mono ?_
        rintro e w5 ⟨rfl, hr5, hg5⟩
        cases hc : litAt s (tSign kd) st'.p with
        | false =>
          rw [hc] at hr5
          have HK5 : Hid (KI w w5 R s st' base v v' qs ms zs u3) := HKL.out.is HWB.out hg5 (HKL.out.rd.skip hR hr5 hg5)
          have EQ : Hid (sidesI s it (some (x, st1)) = some ((zs.length : Int), ⟨st'.p, st'.out ++ [⟨kd, [], ⟨#[]⟩, ⟨#[]⟩, zs⟩]⟩)) := by
            show _ = _
            have e1 : kidsI s it (signAt s st1.p) (s.size + 1) [x] st1 = some (zs, st') := by rw [← HKD.out, ← HKK.out, ← HQ.out]; exact kidsI_no hc
            rw [sidesI, if_neg (by rw [← HKD.out]; exact HK0.out), e1, HKD.out]
          obtain ⟨ad, cap, hvK, hnq, hin⟩ := HK5.out.node hB kd
          have HNQ := toHid hnq
          have HIN := toHid hin
          have hql : (qs ++ ms).length ≤ 100000 := by have := HK5.out.rd.len; have := HB.out.2.2.2.2; have := HB.out.1; omega
          have HADD := toHid (putF R s st' base v' (qs ++ ms) ⟨⟨kd, [], ⟨#[]⟩, ⟨#[]⟩, zs⟩, none, 0, ad, cap⟩ w5 HK5.out.rd hR (Nat.le_trans hB HK5.out.went.onl.size) hql HNQ.out (fun g hg => (HIN.out g hg).2))
          subst hvK
          clear hr5 hg5 hc hnq hin HKL hql
          go_wp2_with fail
          refine HADD.out.mono ?_
          rintro e w6 ⟨v6, rfl, hF6, hW6⟩
          have HW6 := toHid (HK5.out.went.trans hW6)
          have HNEW : Hid (∀ q ∈ ms ++ [(⟨⟨kd, [], ⟨#[]⟩, ⟨#[]⟩, zs⟩, none, 0, ad, cap⟩ : ER)], ∀ g, inR q g → w.heap.size ≤ g) := by
            intro q hq g hg
            rcases List.mem_append.1 hq with h1 | h1
            · exact HK5.out.new q h1 g hg
            · rw [List.mem_singleton] at h1; subst h1; exact (HIN.out g hg).1
          have HF6 : Hid (RdG w6 R s ⟨st'.p, st'.out ++ [⟨kd, [], ⟨#[]⟩, ⟨#[]⟩, zs⟩]⟩ base v6 (qs ++ (ms ++ [(⟨⟨kd, [], ⟨#[]⟩, ⟨#[]⟩, zs⟩, none, 0, ad, cap⟩ : ER)]))) := by rw [← List.append_assoc]; exact hF6
          clear hF6 hW6 HADD
          go_wp2
          go_ret
          exact .inl ⟨_, _, v6, _, EQ.out, rfl, HF6.out, HW6.out, HNEW.out⟩
        | true =>
          rw [hc] at hr5
          have hsz := tSign_size kd
          have HK5 : Hid (KI w w5 R s ⟨st'.p + 3, st'.out⟩ base v v' qs ms zs u3) := HKL.out.is HWB.out hg5 (HKL.out.rd.skip hR (by have h := hr5; rw [hsz] at h; exact h) hg5)
          have HPS : Hid (st'.p + 3 ≤ s.size) := by have := litAt_le hc; rw [hsz] at this; exact this
          have HPL := toHid HKL.out.rd.rd.restN
          obtain ⟨m, hm⟩ : ∃ m, n = m + 1 := ⟨n - 1, by have := HB.out.2.2.1; omega⟩
          subst hm
          have hcall := HITM.out ⟨st'.p + 3, st'.out⟩ v' (qs ++ ms) w5 HK5.out.rd (Nat.le_trans hB HK5.out.went.onl.size) ⟨x, st1, rfl, by have := HB.out.2.1; show _ ≤ st'.p + 3; omega⟩ HPS.out (by have := HB.out.2.2.2.2; show st'.out.length ≤ st'.p + 3; omega)
          have hmo := HMONO.out ⟨st'.p + 3, st'.out⟩
          obtain ⟨y, hy⟩ : ∃ y, y = it ⟨st'.p + 3, st'.out⟩ := ⟨_, rfl⟩
          rw [← hy] at hmo hcall
          have HCALL := toHid hcall
          have HMO := toHid hmo
          have EQ0 : Hid (kidsI s it kd (m + 1) zs st' = kStep s it kd m zs y) := by show _ = _; rw [kidsI, if_pos hc, hy]; cases it ⟨st'.p + 3, st'.out⟩ <;> rfl
          clear hr5 hg5 hc HKL hmo hcall hy hsz
          go_wp2_with fail
          refine HCALL.out.mono ?_
          rintro e w6 (⟨i, st2, v6, ns6, rfl, rfl, hF6, hW6, hn6⟩ | ⟨rfl, he, hb6⟩)
          · have HK6 := toHid (HK5.out.more HWB.out hF6 hW6 hn6)
            have HM2 := toHid (HMO.out i st2 HPS.out rfl)
            clear hF6 hW6 hn6 HCALL HK5
            obtain ⟨W7, hW7⟩ : ∃ W7, W7 = w6.alloc (.cells #[.int .i64 i] 2) := ⟨_, rfl⟩
            have HO7 : Hid (W7.ownsRow w.heap.size 2 1 u3 zs.length (ints zs)) := by rw [hW7]; exact HK6.out.own.alloc _
            have HN7 : Hid (∀ j u, [Value.int .i64 i][j]? = some u → W7.cell? ((⟨w6.heap.size, 0, none⟩ : Addr).add j) = some u) := by rw [hW7]; exact int_news w6 _ _ rfl
            have HS7 : Hid (w.heap.size ≤ W7.heap.size) := by show _ ≤ _; rw [hW7]; exact Nat.le_trans HK6.out.went.onl.size (World.grownBy_alloc w6 _ none).size
            have HW7 := toHid hW7
            have hzl : zs.length ≤ 1001 := by have := HB.out.2.2.2.1; have := HB.out.1; omega
            go_wp2_with (at_builtin; rw [← hW7]; clear hW7; refine wpList_append_own_at _ rfl _ _ 54 rfl w.heap.size 2 iI (.int .i64 0) 1 8 Try.underlying54 HII.out.1 HII.out.2.1 HII.out.2.2.1 HII.out.2.2.2 rfl (by decide) u3 zs.length (ints zs) rfl HO7.out ⟨w6.heap.size, 0, none⟩ 1 1 [Value.int .i64 i] rfl rfl HN7.out (by intro u hu; simp at hu; subst hu; rfl) (by unfold maxLen; omega) (by omega) HS7.out ?_)
            intro vN w8 hown8 hgr8 _ hat8
            have HK8 : Hid (KI w w8 R s st2 base v v6 qs (ms ++ ns6) (zs ++ [i]) vN) := by
              rw [HW7.out] at hgr8 hat8
              exact HK6.out.app HWB.out i _ hown8 hgr8 hat8
            have HM : Hid (restN R w8 < restN R w') := by
              show _ < _
              rw [HK8.out.rd.rd.restN, HPL.out]
              have h1 := HM2.out.1
              have h2 := HPS.out
              have h3 := HM2.out.2.1
              have h1' : st'.p + 3 ≤ st2.p := h1
              omega
            have HQ8 : Hid (kidsI s it kd m (zs ++ [i]) st2 = KK) := HQ.out ▸ EQ0.out.symm
            have HB8 : Hid (st2.p ≤ s.size ∧ st1.p ≤ st2.p ∧ s.size - st2.p < m ∧ (zs ++ [i]).length ≤ st2.p + 1 ∧ st2.out.length ≤ st2.p) := by
              obtain ⟨b1, b2, b3, b4, b5⟩ := HB.out
              have h1 := HM2.out.1
              have h2 := HPS.out
              have h3 := HM2.out.2.1
              have h4 := HM2.out.2.2
              have h1' : st'.p + 3 ≤ st2.p := h1
              have h4' : st2.out.length + (st'.p + 3) ≤ st'.out.length + st2.p := h4
              exact ⟨h3, by omega, by omega, by rw [List.length_append, List.length_singleton]; omega, by omega⟩
            clear hown8 hgr8 hat8 HK6 HO7 HN7 HS7 HW7
            go_wp2
            go_roundw
            case rel => exact ⟨m, zs ++ [i], st2, v6, ms ++ ns6, HB8, HQ8, HK8⟩
            case measure => exact HM.out
          · have EQ : Hid (sidesI s it (some (x, st1)) = none) := by
              show _ = _
              have e1 : kidsI s it (signAt s st1.p) (s.size + 1) [x] st1 = none := by rw [← HKD.out, ← HKK.out, ← HQ.out]; exact EQ0.out
              rw [sidesI, if_neg (by rw [← HKD.out]; exact HK0.out), e1]
            have HBe := toHid ((went_below H.out HK5.out.went hR).trans hb6)
            unfold Pans at he
            subst he
            clear hb6 HCALL
            go_wp2
            exact ⟨rfl, .inr ⟨EQ.out, rfl, HBe.out⟩⟩
  · have HBe := toHid hb1
    unfold Pans at he
    subst he
    clear hb1
    go_wp2
    exact ⟨rfl, .inr ⟨rfl, rfl, HBe.out⟩⟩
theorem rdI_open {s : ByteArray} {n : Nat} {st : IS} (h : litAt s tOpen st.p = true) : rdI s (n + 1) false st = openI s (rdI s n true ⟨st.p + 1, st.out⟩) := by
  rw [rdI, if_pos h]
  cases rdI s n true ⟨st.p + 1, st.out⟩ with
  | none => rfl
  | some cs => rfl
theorem rdI_this {s : ByteArray} {n : Nat} {st : IS} (h : litAt s tOpen st.p = false) (h2 : litAt s tThis st.p = true) : rdI s (n + 1) false st = thisI s st := by
  rw [rdI, if_neg (by rw [h]; decide), if_pos h2, thisI]
  cases pairsI s (s.size + 1) [] (st.p + 5) <;> rfl
theorem rdI_name {s : ByteArray} {n : Nat} {st : IS} (h : litAt s tOpen st.p = false) (h2 : litAt s tThis st.p = false) : rdI s (n + 1) false st = nameS s st := by
  rw [rdI, if_neg (by rw [h]; decide), if_neg (by rw [h2]; decide), nameS]
  cases nameI s st.p <;> rfl
theorem rdI_sides {s : ByteArray} {n : Nat} {st : IS} : rdI s (n + 1) true st = sidesI s (rdI s n false) (rdI s n false st) := by
  rw [rdI]
  cases rdI s n false st with
  | none => rfl
  | some cs => rfl
/-- the program's reader, whatever stands there -/
theorem readI_any (R : Nat) (s : ByteArray) (base : Nat) (hR : R < base) (hs : s.size ≤ 1000) : ∀ n : Nat,
    (∀ (st : IS) (v : Value) (qs : List ER) (w : World), RdG w R s st base v qs → base ≤ w.heap.size → st.p ≤ s.size → st.out.length ≤ st.p → 2 * (s.size - st.p) < n →
      Calls Try.prog 93 #[.pointer (some ⟨R, 0, none⟩)] w (IPost R s base v qs w (rdI s n false st))) ∧
    (∀ (st : IS) (v : Value) (qs : List ER) (w : World), RdG w R s st base v qs → base ≤ w.heap.size → st.p ≤ s.size → st.out.length ≤ st.p → 2 * (s.size - st.p) + 1 < n →
      Calls Try.prog 67 #[.pointer (some ⟨R, 0, none⟩)] w (IPost R s base v qs w (rdI s n true st)))
  | 0 => ⟨fun _ _ _ _ _ _ _ _ h => by omega, fun _ _ _ _ _ _ _ _ h => by omega⟩
  | n + 1 => by
    obtain ⟨ih1, ih2⟩ := readI_any R s base hR hs n
    refine ⟨fun st v qs w h hB hp hl hn => ?_, fun st v qs w h hB hp hl hn => ?_⟩
    · cases h0 : litAt s tOpen st.p with
      | true =>
        rw [rdI_open h0]
        have hle := litAt_le h0
        have e1 : tOpen.size = 1 := rfl
        refine side_open R s st base v qs w h hR hs h0 _ (fun x st' e => ?_) (fun w1 hF hz => ih2 _ v qs w1 hF (Nat.le_trans hB hz) (by show st.p + 1 ≤ _; omega) (by show st.out.length ≤ st.p + 1; omega) (by show 2 * (s.size - (st.p + 1)) + 1 < n; omega))
        obtain ⟨a1, a2, a3⟩ := few_rd s n true ⟨st.p + 1, st.out⟩ x st' (by show st.p + 1 ≤ _; omega) e
        simp only at a1 a3
        omega
      | false =>
        have hq : qs.length ≤ 100000 := by have := h.len; omega
        cases h2 : litAt s tThis st.p with
        | true => rw [rdI_this h0 h2]; exact side_this R s st base v qs w h hR hB hs hq h0 h2
        | false => rw [rdI_name h0 h2]; exact side_name R s st base v qs w h hR hB hs hq h0 h2
    · rw [rdI_sides]
      refine sides_any R s st base v qs w h hR hB hs _ (ih1 st v qs w h hB hp hl (by omega)) _ (fun x st1 e => ?_) (fun st' v' qs' w' hF hz h3 hp' hl' => ?_) (fun st' x st2 hp' e => few_rd s n false st' x st2 hp' e)
      · obtain ⟨a1, a2, a3⟩ := few_rd s n false st x st1 hp e
        exact ⟨a2, by omega⟩
      · obtain ⟨x, st1, e, h4⟩ := h3
        obtain ⟨a1, a2, a3⟩ := few_rd s n false st x st1 hp e
        exact ih1 st' v' qs' w' hF hz hp' hl' (by omega)
end Go.Proofs.Ytjmbgpdbnffkpaa
