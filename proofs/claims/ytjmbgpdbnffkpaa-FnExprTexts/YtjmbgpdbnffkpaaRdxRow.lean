/- Contract of the document's reader: a row of items. -/
import Derived.Test.YtjmbgpdbnffkpaaRdxThis
import Derived.Test.YtjmbgpdbnffkpaaSpecText
namespace Go.Proofs.Ytjmbgpdbnffkpaa
set_option maxRecDepth 100000
open Go.ChangeShapes Go.WideShapes Go.ChangeAt Go.RowKit
open Pl

theorem signB_is (k : Int) : signB k = tSign k := by
  unfold signB tSign
  rfl
/-- the sign among those below j -/
def signTo (s : ByteArray) (p : Nat) (j : Nat) : Int :=
  if 4 < j ∧ litAt s (tSign 4) p = true then 4 else if 5 < j ∧ litAt s (tSign 5) p = true then 5 else if 6 < j ∧ litAt s (tSign 6) p = true then 6 else 0
theorem signTo_4 (s : ByteArray) (p : Nat) : signTo s p 4 = 0 := by simp [signTo]
theorem signTo_7 (s : ByteArray) (p : Nat) : signTo s p 7 = signAt s p := by simp [signTo, signAt]
theorem signTo_kept {s : ByteArray} {p j : Nat} (h4 : 4 ≤ j) (h7 : j < 7) (h : signTo s p j ≠ 0) : signTo s p (j + 1) = signTo s p j := by
  have hj : j = 4 ∨ j = 5 ∨ j = 6 := by omega
  unfold signTo at h ⊢
  rcases hj with rfl | rfl | rfl <;> cases h1 : litAt s (tSign 4) p <;> cases h2 : litAt s (tSign 5) p <;> cases h3 : litAt s (tSign 6) p <;> simp_all
theorem signTo_no {s : ByteArray} {p j : Nat} (h4 : 4 ≤ j) (h7 : j < 7) (h : signTo s p j = 0) (hl : litAt s (tSign j) p = false) : signTo s p (j + 1) = 0 := by
  have hj : j = 4 ∨ j = 5 ∨ j = 6 := by omega
  unfold signTo at h ⊢
  rcases hj with rfl | rfl | rfl <;> cases h1 : litAt s (tSign 4) p <;> cases h2 : litAt s (tSign 5) p <;> cases h3 : litAt s (tSign 6) p <;> simp_all
theorem signTo_yes {s : ByteArray} {p j : Nat} (h4 : 4 ≤ j) (h7 : j < 7) (h : signTo s p j = 0) (hl : litAt s (tSign j) p = true) : signTo s p (j + 1) = (j : Int) := by
  have hj : j = 4 ∨ j = 5 ∨ j = 6 := by omega
  unfold signTo at h ⊢
  rcases hj with rfl | rfl | rfl <;> cases h1 : litAt s (tSign 4) p <;> cases h2 : litAt s (tSign 5) p <;> cases h3 : litAt s (tSign 6) p <;> simp_all
theorem tSign_size (k : Int) : (tSign k).size = 3 := by
  unfold tSign
  split
  · rfl
  · split <;> rfl
theorem litAt_sign {s : ByteArray} {p : Nat} (k : Int) (h : p + 3 ≤ s.size) : litAt s (tSign k) p = ((s.extract p (p + 3)).toList == (signB k).toList) := by
  unfold litAt
  rw [tSign_size, signB_is]
  simp [h]
theorem litAt_far {s : ByteArray} {p : Nat} (k : Int) (h : ¬ p + 3 ≤ s.size) : litAt s (tSign k) p = false := by
  unfold litAt
  rw [tSign_size]
  simp [h]

/-- kids behind the first one -/
def rowP (s : ByteArray) (it : RS → Int × RS) (x : Int × RS) : Int × RS :=
  if signAt s x.2.p = 0 ∨ x.2.bad = true then x
  else (((kidsP s it (signAt s x.2.p) (s.size + 1) [x.1] x.2).2.out.length : Int), addP ⟨signAt s x.2.p, [], ⟨#[]⟩, ⟨#[]⟩, (kidsP s it (signAt s x.2.p) (s.size + 1) [x.1] x.2).1⟩ (kidsP s it (signAt s x.2.p) (s.size + 1) [x.1] x.2).2)
theorem rowP_first {s : ByteArray} {it : RS → Int × RS} {x : Int × RS} (h : signAt s x.2.p = 0 ∨ x.2.bad = true) : rowP s it x = x := if_pos h
theorem rowP_kids {s : ByteArray} {it : RS → Int × RS} {x : Int × RS} (h : ¬ (signAt s x.2.p = 0 ∨ x.2.bad = true)) {zs : List Int} {st : RS} (hk : kidsP s it (signAt s x.2.p) (s.size + 1) [x.1] x.2 = (zs, st)) : rowP s it x = ((st.out.length : Int), addP ⟨signAt s x.2.p, [], ⟨#[]⟩, ⟨#[]⟩, zs⟩ st) := by
  unfold rowP
  rw [if_neg h, hk]
theorem kidsP_no {s : ByteArray} {it : RS → Int × RS} {k : Int} {n : Nat} {zs : List Int} {st : RS} (h : isB s (tSign k) st.p st.bad = false) : kidsP s it k n zs st = (zs, st) := by
  have e : isP s (tSign k) st = false := h
  cases n with
  | zero => rfl
  | succ n => unfold kidsP; rw [e]; rfl
theorem kidsP_yes {s : ByteArray} {it : RS → Int × RS} {k : Int} {n : Nat} {zs : List Int} {st : RS} (h : isB s (tSign k) st.p st.bad = true) : kidsP s it k (n + 1) zs st = kidsP s it k n (zs ++ [(it (onP (tSign k) st)).1]) (it (onP (tSign k) st)).2 := by
  have e : isP s (tSign k) st = true := h
  conv => lhs; unfold kidsP
  rw [e]; rfl
theorem RdC.heap {w w' : World} {R : Nat} {s : ByteArray} {p : Nat} {bad : Bool} {v : Value} (h : RdC w R s p bad v) (hs : w.heap.size ≤ w'.heap.size) (hh : w'.heap[R]? = w.heap[R]?) : RdC w' R s p bad v :=
  ⟨Nat.lt_of_lt_of_le h.lt hs, (World.cell?_of_block (w := w) (a := ⟨R, 0, none⟩) hh).trans h.c0, (World.cell?_of_block (w := w) (a := ⟨R, 1, none⟩) hh).trans h.c1, (World.cell?_of_block (w := w) (a := ⟨R, 2, none⟩) hh).trans h.c2, (World.cell?_of_block (w := w) (a := ⟨R, 3, none⟩) hh).trans h.c3, free_heap h.fr hh⟩
theorem RdF.heap {w w' : World} {R : Nat} {s : ByteArray} {st : RS} {base : Nat} {v : Value} {qs : List ER} (h : RdF w R s st base v qs) (hs : w.heap.size ≤ w'.heap.size) (h1 : w'.heap[R]? = w.heap[R]?) (h2 : ∀ g, v.ownBlock = some g → w'.heap[g]? = w.heap[g]?) (h3 : ∀ q ∈ qs, ∀ g, inR q g → w'.heap[g]? = w.heap[g]?) : RdF w' R s st base v qs where
  rd := h.rd.heap hs h1
  own := own_heap h.own h2
  out := h.out
  zA := h.zA
  zK := h.zK
  ok q hq := ok_heap (h.ok q hq) hs (h.zA q hq) (h.zK q hq) (h3 q hq)
  lie q hq g hg := by
    obtain ⟨a1, a2, a3, a4⟩ := h.lie q hq g hg
    exact ⟨a1, Nat.lt_of_lt_of_le a2 hs, free_heap a3 (h3 q hq g hg), a4⟩
  one := h.one
  two := h.two
  cA := h.cA
  cK q hq := (h.cK q hq).heap (h.zK q hq) (h3 q hq)
/-- the kids so far, beside the reader -/
structure KL (w wr : World) (R : Nat) (s : ByteArray) (st : RS) (base : Nat) (v v' : Value) (qs ns : List ER) (zs : List Int) (vK : Value) : Prop where
  rd : RdF wr R s st base v' (qs ++ ns)
  went : Went R v w v' wr
  new : ∀ q ∈ ns, ∀ g, inR q g → w.heap.size ≤ g
  own : wr.ownsRow w.heap.size 2 1 vK zs.length (ints zs)
  far : ∀ g, vK.ownBlock = some g → v'.ownBlock ≠ some g ∧ ∀ q ∈ qs ++ ns, ¬ inR q g
  ne : zs ≠ []
theorem KL.is {w wr w' : World} {R : Nat} {s : ByteArray} {st st' : RS} {base : Nat} {v v' : Value} {qs ns : List ER} {zs : List Int} {vK : Value} (h : KL w wr R s st base v v' qs ns zs vK) (hR : R < w.heap.size) (hg : wr.grownBy w' (some R)) (hF : RdF w' R s st' base v' (qs ++ ns)) : KL w w' R s st' base v v' qs ns zs vK :=
  ⟨hF, h.went.trans ((Onl.of_grown hg).any v'), h.new, h.own.kept hg (.inr (fun e => by have := (h.own.lt R e).1; omega)), h.far, h.ne⟩
theorem KL.more {w wr w' : World} {R : Nat} {s : ByteArray} {st st' : RS} {base : Nat} {v v' v2 : Value} {qs ns ms : List ER} {zs : List Int} {vK : Value} (h : KL w wr R s st base v v' qs ns zs vK) (hR : R < w.heap.size) (hF : RdF w' R s st' base v2 ((qs ++ ns) ++ ms)) (hW : Went R v' wr v2 w') (hm : ∀ q ∈ ms, ∀ g, inR q g → wr.heap.size ≤ g) : KL w w' R s st' base v v2 qs (ns ++ ms) zs vK := by
  have hl : ∀ g, vK.ownBlock = some g → w.heap.size ≤ g ∧ g < wr.heap.size := fun g hg => h.own.lt g hg
  refine ⟨by rw [← List.append_assoc]; exact hF, h.went.trans hW, fun q hq g hg => ?_, own_heap h.own fun g hg => hW.onl.block g (hl g hg).2 (by have := (hl g hg).1; omega) (h.far g hg).1, fun g hg => ⟨hW.apart (hl g hg).2 (h.far g hg).1, fun q hq hi => ?_⟩, h.ne⟩
  · rcases List.mem_append.1 hq with h1 | h1
    · exact h.new q h1 g hg
    · exact Nat.le_trans h.went.onl.size (hm q h1 g hg)
  · rw [← List.append_assoc] at hq
    rcases List.mem_append.1 hq with h1 | h1
    · exact (h.far g hg).2 q h1 hi
    · have := hm q h1 g hi; have := (hl g hg).2; omega
theorem ints_add (zs : List Int) (z : Int) : ints (zs ++ [z]) = ints zs ++ [.int .i64 z] := by simp [ints]
theorem KL.app {w wr w' : World} {R : Nat} {s : ByteArray} {st : RS} {base : Nat} {v v' : Value} {qs ns : List ER} {zs : List Int} {vK vN : Value} (h : KL w wr R s st base v v' qs ns zs vK) (hR : R < w.heap.size) (z : Int) (o : Obj) (hown : w'.ownsRow w.heap.size 2 1 vN (zs.length + 1) (ints zs ++ [.int .i64 z])) (hg : (wr.alloc o).grownBy w' vK.ownBlock) (hat : vN.ownBlock = vK.ownBlock ∨ vN.ownBlock = some (wr.alloc o).heap.size) : KL w w' R s st base v v' qs ns (zs ++ [z]) vN := by
  have hg0 := World.grownBy_alloc wr o none
  have keep : ∀ k, k < wr.heap.size → vK.ownBlock ≠ some k → w'.heap[k]? = wr.heap[k]? := fun k hk hne => (hg.block k (Nat.lt_of_lt_of_le hk hg0.size) (Ne.symm hne)).trans (hg0.block k hk (by simp))
  have hl : ∀ g, vK.ownBlock = some g → w.heap.size ≤ g ∧ g < wr.heap.size := fun g hg => h.own.lt g hg
  have hs : wr.heap.size ≤ w'.heap.size := Nat.le_trans hg0.size hg.size
  refine ⟨h.rd.heap hs (keep R h.rd.rd.lt (fun e => by have := (hl R e).1; omega)) (fun g hg => keep g (h.rd.own.lt g hg).2 (fun e => (h.far g e).1 hg)) (fun q hq g hi => keep g (h.rd.lie q hq g hi).2.1 (fun e => (h.far g e).2 q hq hi)), ?_, h.new, by rw [ints_add, List.length_append, List.length_singleton]; exact hown, fun g hgn => ?_, by simp⟩
  · refine ⟨⟨hg.os.trans (hg0.os.trans h.went.onl.os), hg.tape.trans (hg0.tape.trans h.went.onl.tape), hg.output.trans (hg0.output.trans h.went.onl.output), Nat.le_trans h.went.onl.size hs, fun k hk h1 h2 => (keep k (Nat.lt_of_lt_of_le hk h.went.onl.size) (fun e => by have := (hl k e).1; omega)).trans (h.went.onl.block k hk h1 h2)⟩, h.went.own⟩
  · rcases hat with e | e
    · exact h.far g (by rw [← e]; exact hgn)
    · rw [e] at hgn
      injection hgn with hgn
      have hsz : wr.heap.size ≤ g := by rw [← hgn]; exact hg0.size
      exact ⟨fun e2 => by have := (h.rd.own.lt g e2).2; omega, fun q hq hi => by have := (h.rd.lie q hq g hi).2.1; omega⟩
/-- a node over kids -/
theorem KL.node {w wr : World} {R : Nat} {s : ByteArray} {st : RS} {base : Nat} {v v' : Value} {qs ns : List ER} {zs : List Int} {vK : Value} (h : KL w wr R s st base v v' qs ns zs vK) (hb : base ≤ w.heap.size) (k : Int) : ∃ ad cap, vK = .slice ad zs.length cap ∧ NewQ base wr ⟨⟨k, [], ⟨#[]⟩, ⟨#[]⟩, zs⟩, none, 0, ad, cap⟩ ∧ ∀ g, inR ⟨⟨k, [], ⟨#[]⟩, ⟨#[]⟩, zs⟩, none, 0, ad, cap⟩ g → w.heap.size ≤ g ∧ v'.ownBlock ≠ some g ∧ ∀ q ∈ qs ++ ns, ¬ inR q g := by
  obtain ⟨ad, cap, e, h2, h3, h4⟩ := ownsI h.own rfl
  have hA : ∀ g, ¬ bA ⟨⟨k, [], ⟨#[]⟩, ⟨#[]⟩, zs⟩, none, 0, ad, cap⟩ g := fun g hg => hg.1 rfl
  have hK : ∀ g, inR ⟨⟨k, [], ⟨#[]⟩, ⟨#[]⟩, zs⟩, none, 0, ad, cap⟩ g → (w.heap.size ≤ g ∧ g < wr.heap.size ∧ Free wr g) ∧ vK.ownBlock = some g := by
    rintro g (hg | hg)
    · exact absurd hg (hA g)
    · exact ⟨h4 g hg.1 hg.2, by rw [e, show ad = some ⟨g, 0, none⟩ from hg.2]; rfl⟩
  refine ⟨ad, cap, e, ⟨fun h => absurd rfl h, h3, ⟨.inl rfl, h2⟩, fun g hg => ⟨Nat.le_trans hb (hK g hg).1.1, (hK g hg).1.2⟩, fun g hg => absurd hg (hA g), Nat.zero_le _⟩, fun g hg => ⟨(hK g hg).1.1, h.far g (hK g hg).2⟩⟩
theorem KL.kid {w wr : World} {R : Nat} {s : ByteArray} {st : RS} {base : Nat} {v v' : Value} {qs ns : List ER} {zs : List Int} {ad : Option Addr} {cap : Nat} (h : KL w wr R s st base v v' qs ns zs (.slice ad zs.length cap)) (hb : base ≤ w.heap.size) (k : Int) : KidO wr base ⟨⟨k, [], ⟨#[]⟩, ⟨#[]⟩, zs⟩, none, 0, ad, cap⟩ := KidO.mono (base := w.heap.size) (.inr ⟨h.ne, h.own⟩) hb
theorem int_news (w : World) (z : Int) (g : Nat) (hg : w.heap.size = g) : ∀ j u, [Value.int .i64 z][j]? = some u → (w.alloc (.cells #[.int .i64 z] 2)).cell? ((⟨g, 0, none⟩ : Addr).add j) = some u := by
  intro j u hu
  subst hg
  rw [show (⟨w.heap.size, 0, none⟩ : Addr).add j = ⟨w.heap.size, 0 + j, none⟩ by simp [Addr.add]; omega, Nat.zero_add]
  have := World.cell?_alloc_mark w #[.int .i64 z] 2 (0, 0) j
  rw [this]
  simpa using hu

set_option maxHeartbeats 8000000 in
theorem row_any (R : Nat) (s : ByteArray) (st : RS) (base : Nat) (v : Value) (qs : List ER) (w : World) (h : RdF w R s st base v qs) (hR : R < base) (hB : base ≤ w.heap.size) (hs : s.size ≤ 1000) (x : Int × RS) (hx : x.2.p ≤ s.size)
    (hfirst : Calls Try.prog 58 #[.pointer (some ⟨R, 0, none⟩)] w (RPost R s base v qs w x))
    (it : RS → Int × RS) (hlen : x.2.out.length + (s.size - x.2.p) ≤ 5001)
    (hit : ∀ (st' : RS) (v' : Value) (qs' : List ER) (w' : World), RdF w' R s st' base v' qs' → base ≤ w'.heap.size → x.2.p + 3 ≤ st'.p → st'.p ≤ s.size → st'.out.length + (s.size - st'.p) ≤ 5000 → Calls Try.prog 58 #[.pointer (some ⟨R, 0, none⟩)] w' (RPost R s base v' qs' w' (it st')))
    (hmono : ∀ st' : RS, x.2.p + 3 ≤ st'.p → st'.p ≤ s.size → st'.p ≤ (it st').2.p ∧ (it st').2.p ≤ s.size ∧ (it st').2.out.length + st'.p ≤ st'.out.length + 1 + (it st').2.p) :
    Calls Try.prog 26 #[.pointer (some ⟨R, 0, none⟩)] w (RPost R s base v qs w (rowP s it x)) := by
  obtain ⟨iI, hiI, zI0, zI1, zI2⟩ := info_parts (P := Try.prog) (e := 2) (z := .int .i64 0) (size := 1) (bytes := 8) (by kernel_rfl)
  have HII : Hid (Try.prog.info? 2 = some iI ∧ iI.zero = some (.int .i64 0) ∧ iI.size = 1 ∧ iI.bytes = 8) := ⟨hiI, zI0, zI1, zI2⟩
  have HLEN := toHid hlen
  have HITM := toHid hit
  have HMONO := toHid hmono
  clear hiI zI0 zI1 zI2 hlen hit hmono
  have H := toHid h
  have HX := toHid hx
  have HIT := toHid hfirst
  clear h hx hfirst
  go_enter Try.func26, Try.ntmps26
  go_wp2_with fail
  refine HIT.out.mono ?_
  rintro e w1 ⟨v1, ns, rfl, hF1, hW1, hns⟩
  have HF1 := toHid hF1
  have HW1 := toHid hW1
  have HNS := toHid hns
  clear hF1 hW1 hns HIT
  go_wp2_with fail
  go_loopw [4, 5] (fun kd k wr => ∃ (j nn : Nat), 4 ≤ j ∧ j ≤ 7 ∧ k = .int .i64 j ∧ kd = .int .i64 (signTo s x.2.p j) ∧ Hid (wr = w1.drewN nn)) (fun _ k _ => 7 - (intOf k).toNat)
  case atStart => exact ⟨4, 0, by omega, by omega, rfl, by rw [signTo_4], rfl⟩
  case round =>
    obtain ⟨j, nn, hj4, hj7, rfl, rfl, HWR⟩ := hrel
    have hrd : RdC wr R s x.2.p x.2.bad v1 := by rw [HWR.out]; exact HF1.out.rd.drewN nn
    have HRD := toHid hrd
    have c0 := HRD.out.c0
    have c1 := HRD.out.c1
    have c2 := HRD.out.c2
    clear hrd
    by_cases hlt : j < 7
    · have hle : decide ((j : Int) ≤ 6) = true := by simp; omega
      have hle2 : (j : Int) ≤ 6 := by omega
      have hwr : IntKind.i64.wrap ((x.2.p : Int) + 3) = (x.2.p : Int) + 3 := by have := HX.out; simp [IntKind.wrap, IntKind.bits, IntKind.signed]; omega
      by_cases hK : signTo s x.2.p j = 0
      · have hK0 : (signTo s x.2.p j == 0) = true := by simp [hK]
        by_cases hfar : x.2.p + 3 ≤ s.size
        · have hd : decide ((x.2.p : Int) + 3 ≤ (s.size : Int)) = true := by simp; omega
          have hd2 : (x.2.p : Int) + 3 ≤ (s.size : Int) := by omega
          have hnn : (0 : Int) ≤ (x.2.p : Int) := by omega
          have hp1 : (x.2.p : Int) ≤ (x.2.p : Int) + 3 := by omega
          rw [hK]
          cases he : (s.extract x.2.p (x.2.p + 3)).toList == (signB j).toList with
          | true =>
            have EQ := toHid (signTo_yes hj4 hlt hK (by rw [litAt_sign _ hfar]; exact he))
            clear hK hK0
            go_wp2_with fail
            go_quiet ((go_at_call 59; exact Calls.quiet_of_same (l3Sign_any _ _)))
            go_wp2
            go_roundw
            case rel => exact ⟨j + 1, nn + nq, by omega, by omega, by go_num, by rw [EQ.out], by show _ = _; rw [HWR.out, World.drewN_drewN]⟩
            case measure => first | (simp [intOf]; done) | (simp [intOf]; omega)
          | false =>
            have EQ := toHid (signTo_no hj4 hlt hK (by rw [litAt_sign _ hfar]; exact he))
            clear hK hK0
            go_wp2_with fail
            go_quiet ((go_at_call 59; exact Calls.quiet_of_same (l3Sign_any _ _)))
            go_wp2
            go_roundw
            case rel => exact ⟨j + 1, nn + nq, by omega, by omega, by go_num, by rw [EQ.out], by show _ = _; rw [HWR.out, World.drewN_drewN]⟩
            case measure => first | (simp [intOf]; done) | (simp [intOf]; omega)
        · have hd : decide ((x.2.p : Int) + 3 ≤ (s.size : Int)) = false := by simp; omega
          have EQ := toHid (signTo_no hj4 hlt hK (litAt_far _ hfar))
          rw [hK]
          clear hK hK0
          go_wp2_with fail
          go_quiet ((go_at_call 59; exact Calls.quiet_of_same (l3Sign_any _ _)))
          go_wp2
          go_roundw
          case rel => exact ⟨j + 1, nn + nq, by omega, by omega, by go_num, by rw [EQ.out], by show _ = _; rw [HWR.out, World.drewN_drewN]⟩
          case measure => first | (simp [intOf]; done) | (simp [intOf]; omega)
      · have hK0 : (signTo s x.2.p j == 0) = false := by simp [hK]
        have EQ := toHid (signTo_kept hj4 hlt hK)
        clear hK
        go_wp2_with fail
        go_quiet ((go_at_call 59; exact Calls.quiet_of_same (l3Sign_any _ _)))
        go_wp2
        go_roundw
        case rel => exact ⟨j + 1, nn + nq, by omega, by omega, by go_num, by rw [EQ.out], by show _ = _; rw [HWR.out, World.drewN_drewN]⟩
        case measure => first | (simp [intOf]; done) | (simp [intOf]; omega)
    · obtain rfl : j = 7 := by omega
      rw [signTo_7, show ((7 : Nat) : Int) = (7 : Int) from rfl]
      have hle : decide ((7 : Int) ≤ 6) = false := by decide
      obtain ⟨kd, hkd⟩ : ∃ kd, kd = signAt s x.2.p := ⟨_, rfl⟩
      have HKD := toHid hkd
      rw [← hkd]
      clear hkd
      by_cases hk : kd = 0
      · have hk0 : (kd == 0) = true := by simp [hk]
        have EQ := toHid (rowP_first (it := it) (.inl (HKD.out.symm.trans hk)))
        subst hk
        have HF := toHid (HF1.out.heap (w' := wr) (by rw [HWR.out]; exact Nat.le_refl _) (by rw [HWR.out]; rfl) (fun g _ => by rw [HWR.out]; rfl) (fun q _ g _ => by rw [HWR.out]; rfl))
        have HW : Hid (Went R v w v1 wr) := by rw [HWR.out]; exact ⟨⟨HW1.out.onl.os, HW1.out.onl.tape, HW1.out.onl.output, HW1.out.onl.size, HW1.out.onl.block⟩, HW1.out.own⟩
        go_wp2
        exact bodyPost_ret (v := .int .i64 x.1) (by simp [results, Try.results26, go_sem]) rfl (by rw [EQ.out]; exact ⟨v1, ns, rfl, HF.out, HW.out, HNS.out⟩)
      · have hk0 : (kd == 0) = false := by simp [hk]
        cases hb : x.2.bad with
        | true =>
          have EQ := toHid (rowP_first (it := it) (x := x) (s := s) (.inr hb))
          rw [hb] at c2
          have HF := toHid (HF1.out.heap (w' := wr) (by rw [HWR.out]; exact Nat.le_refl _) (by rw [HWR.out]; rfl) (fun g _ => by rw [HWR.out]; rfl) (fun q _ g _ => by rw [HWR.out]; rfl))
          have HW : Hid (Went R v w v1 wr) := by rw [HWR.out]; exact ⟨⟨HW1.out.onl.os, HW1.out.onl.tape, HW1.out.onl.output, HW1.out.onl.size, HW1.out.onl.block⟩, HW1.out.own⟩
          go_wp2
          exact bodyPost_ret (v := .int .i64 x.1) (by simp [results, Try.results26, go_sem]) rfl (by rw [EQ.out]; exact ⟨v1, ns, rfl, HF.out, HW.out, HNS.out⟩)
        | false =>
          rw [hb] at c2
          have HNO : Hid (¬ (signAt s x.2.p = 0 ∨ x.2.bad = true)) := by
            rintro (e | e)
            · exact hk (HKD.out.trans e)
            · rw [hb] at e; cases e
          have HF := toHid (HF1.out.heap (w' := wr) (by rw [HWR.out]; exact Nat.le_refl _) (by rw [HWR.out]; rfl) (fun g _ => by rw [HWR.out]; rfl) (fun q _ g _ => by rw [HWR.out]; rfl))
          have HW : Hid (Went R v w v1 wr) := by rw [HWR.out]; exact ⟨⟨HW1.out.onl.os, HW1.out.onl.tape, HW1.out.onl.output, HW1.out.onl.size, HW1.out.onl.block⟩, HW1.out.own⟩
          have HWB : Hid (R < w.heap.size) := H.out.rd.lt
          have HKL0 : Hid (KL w (wr.alloc (.cells #[.int .i64 x.1] 2)) R s x.2 base v v1 qs ns [x.1] (.slice (some ⟨wr.heap.size, 0, none⟩) 1 1)) := by
            have hg0 := World.grownBy_alloc wr (.cells #[.int .i64 x.1] 2) none
            refine ⟨HF.out.heap hg0.size (hg0.block R HF.out.rd.lt (by simp)) (fun g hg => hg0.block g (HF.out.own.lt g hg).2 (by simp)) (fun q hq g hi => hg0.block g (HF.out.lie q hq g hi).2.1 (by simp)), HW.out.trans ((Onl.of_below ((Below.refl _ _).alloc (Nat.le_refl _) _)).any v1), HNS.out, World.ownsRow_lit wr #[.int .i64 x.1] 1 HW.out.onl.size (by unfold maxLen; omega) (by simp), fun g hg => ?_, by simp⟩
            simp [Value.ownBlock] at hg
            subst hg
            exact ⟨fun e => by have := (HF.out.own.lt _ e).2; omega, fun q hq hi => by have := (HF.out.lie q hq _ hi).2.1; omega⟩
          clear HF HW HRD HWR HF1 HW1 HNS
          go_wp2_with fail
          clear c0 c1 c2
          go_loopw [6] (fun vK wq => ∃ (n : Nat) (zs : List Int) (st' : RS) (v' : Value) (ms : List ER), Hid (st'.p ≤ s.size ∧ x.2.p ≤ st'.p ∧ s.size - st'.p < n ∧ zs.length ≤ st'.p + 1 ∧ st'.out.length + (s.size - st'.p) ≤ 5001) ∧ Hid (kidsP s it kd n zs st' = kidsP s it kd (s.size + 1) [x.1] x.2) ∧ Hid (KL w wq R s st' base v v' qs ms zs vK)) (fun _ wq => s.size - wat R wq)
          case atStart => exact ⟨s.size + 1, [x.1], x.2, v1, ns, ⟨HX.out, Nat.le_refl _, by omega, by simp, HLEN.out⟩, rfl, HKL0.out⟩
          case round =>
            obtain ⟨n, zs, st', v', ms, HB, HQ, HKL⟩ := hrel
            clear HKL0
            go_wp2_with fail
            refine (l3Sign_any _ _).mono ?_
            rintro e w' ⟨rfl, rfl⟩
            go_wp2_with fail
            refine (is_any R s (signB kd) st'.p st'.bad v' _ HKL.out.rd.rd hs HB.out.1 (by simp [signB_size])).mono ?_
            rintro e w5 ⟨rfl, hr5, hg5⟩
            cases hc : isB s (signB kd) st'.p st'.bad with
            | false =>
              have HK5 := toHid (HKL.out.is HWB.out hg5 (HKL.out.rd.is_no hR hc hr5 hg5))
              rw [signB_is] at hc
              have EQ := toHid (rowP_kids (zs := zs) (st := st') HNO.out (by rw [← HKD.out]; exact HQ.out.symm.trans (kidsP_no hc)))
              obtain ⟨ad, cap, rfl, hnq, hin⟩ := HK5.out.node hB kd
              have HNQ := toHid hnq
              have HIN := toHid hin
              have hql : (qs ++ ms).length ≤ 100000 := by have h1 := HK5.out.rd.out; have h2 := congrArg List.length h1; simp only [exs, List.length_map] at h2; have := HB.out.2.2.2.2; omega
              clear hr5 hg5 hc hnq hin HKL
              go_wp2_with fail
              refine (addF R s st' base v' (qs ++ ms) ⟨⟨kd, [], ⟨#[]⟩, ⟨#[]⟩, zs⟩, none, 0, ad, cap⟩ w5 HK5.out.rd hR (Nat.le_trans hB HK5.out.went.onl.size) hql HNQ.out (HK5.out.kid hB kd) (fun g hg => (HIN.out g hg).2)).mono ?_
              rintro e w6 ⟨v6, rfl, hF6, hW6⟩
              have HF6 := toHid hF6
              have HW6 := toHid (HK5.out.went.trans hW6)
              clear hF6 hW6
              have HNEW : Hid (∀ q ∈ ms ++ [(⟨⟨kd, [], ⟨#[]⟩, ⟨#[]⟩, zs⟩, none, 0, ad, cap⟩ : ER)], ∀ g, inR q g → w.heap.size ≤ g) := by
                intro q hq g hg
                rcases List.mem_append.1 hq with h1 | h1
                · exact HK5.out.new q h1 g hg
                · rw [List.mem_singleton] at h1; subst h1; exact (HIN.out g hg).1
              replace HF6 : Hid (RdF w6 R s (addP ⟨kd, [], ⟨#[]⟩, ⟨#[]⟩, zs⟩ st') base v6 (qs ++ (ms ++ [(⟨⟨kd, [], ⟨#[]⟩, ⟨#[]⟩, zs⟩, none, 0, ad, cap⟩ : ER)]))) := by rw [← List.append_assoc]; exact HF6.out
              go_wp2
              exact bodyPost_ret (v := .int .i64 (st'.out.length : Int)) (by simp [results, Try.results26, go_sem]) rfl (by rw [EQ.out, ← HKD.out]; exact ⟨v6, _, rfl, HF6.out, HW6.out, HNEW.out⟩)
            | true =>
              have hk5 := HKL.out.is HWB.out hg5 (HKL.out.rd.is_yes hR hc hr5 hg5)
              rw [signB_is] at hk5
              have HK5 := toHid hk5
              have HPS : Hid (st'.p + 3 ≤ s.size) := by have := isB_le hc; rw [signB_size] at this; exact this
              have HPL := toHid HKL.out.rd.rd.place
              obtain ⟨m, hm⟩ : ∃ m, n = m + 1 := ⟨n - 1, by have := HB.out.2.2.1; omega⟩
              subst hm
              rw [signB_is] at hc
              have EQ := toHid ((kidsP_yes (it := it) (n := m) (zs := zs) hc).symm.trans HQ.out)
              have eP : (onP (tSign kd) st').p = st'.p + 3 := by unfold onP; rw [tSign_size]
              have eO : (onP (tSign kd) st').out = st'.out := rfl
              have a1 : x.2.p + 3 ≤ (onP (tSign kd) st').p := by rw [eP]; have := HB.out.2.1; omega
              have a2 : (onP (tSign kd) st').p ≤ s.size := by rw [eP]; exact HPS.out
              have a3 : (onP (tSign kd) st').out.length + (s.size - (onP (tSign kd) st').p) ≤ 5000 := by rw [eP, eO]; have := HB.out.2.2.2.2; have := HPS.out; omega
              have hmo := HMONO.out (onP (tSign kd) st') a1 a2
              rw [eP, eO] at hmo
              have hcall := HITM.out (onP (tSign kd) st') v' (qs ++ ms) w5 HK5.out.rd (Nat.le_trans hB HK5.out.went.onl.size) a1 a2 a3
              obtain ⟨y, hy⟩ : ∃ y, y = it (onP (tSign kd) st') := ⟨_, rfl⟩
              rw [← hy] at hmo hcall EQ
              have HMO := toHid hmo
              have HCALL := toHid hcall
              clear hr5 hg5 hk5 hc HKL eP eO a1 a2 a3 hmo hcall hy
              go_wp2_with fail
              refine HCALL.out.mono ?_
              rintro e w6 ⟨v6, ns6, rfl, hF6, hW6, hn6⟩
              have HK6 := toHid (HK5.out.more HWB.out hF6 hW6 hn6)
              clear hF6 hW6 hn6 HCALL HK5
              obtain ⟨W7, hW7⟩ : ∃ W7, W7 = w6.alloc (.cells #[.int .i64 y.1] 2) := ⟨_, rfl⟩
              have HO7 : Hid (W7.ownsRow w.heap.size 2 1 u6 zs.length (ints zs)) := by rw [hW7]; exact HK6.out.own.alloc _
              have HN7 : Hid (∀ j u, [Value.int .i64 y.1][j]? = some u → W7.cell? ((⟨w6.heap.size, 0, none⟩ : Addr).add j) = some u) := by rw [hW7]; exact int_news w6 _ _ rfl
              have HS7 : Hid (w.heap.size ≤ W7.heap.size) := by show _ ≤ _; rw [hW7]; exact Nat.le_trans HK6.out.went.onl.size (World.grownBy_alloc w6 _ none).size
              have HW7 := toHid hW7
              have hzl : zs.length ≤ 1001 := by have := HB.out.2.2.2.1; have := HB.out.1; omega
              go_wp2_with (at_builtin; rw [← hW7]; clear hW7; refine wpList_append_own_at _ rfl _ _ 54 rfl w.heap.size 2 iI (.int .i64 0) 1 8 Try.underlying54 HII.out.1 HII.out.2.1 HII.out.2.2.1 HII.out.2.2.2 rfl (by decide) u6 zs.length (ints zs) rfl HO7.out ⟨w6.heap.size, 0, none⟩ 1 1 [Value.int .i64 y.1] rfl rfl HN7.out (by intro u hu; simp at hu; subst hu; rfl) (by unfold maxLen; omega) (by omega) HS7.out ?_)
              intro vN w8 hown8 hgr8 _ hat8
              have HK8 : Hid (KL w w8 R s y.2 base v v6 qs (ms ++ ns6) (zs ++ [y.1]) vN) := by
                rw [HW7.out] at hgr8 hat8
                exact HK6.out.app HWB.out y.1 _ hown8 hgr8 hat8
              have HM : Hid (s.size - wat R w8 < s.size - wat R w') := by
                show _ < _
                rw [HK8.out.rd.rd.place, HPL.out]
                have := HMO.out.1
                have := HMO.out.2.1
                have := HPS.out
                omega
              clear hown8 hgr8 hat8 HO7 HN7 HS7 HW7 HK6
              go_wp2
              go_roundw
              case rel => exact ⟨m, zs ++ [y.1], y.2, v6, ms ++ ns6, ⟨HMO.out.2.1, by have := HMO.out.1; have := HB.out.2.1; omega, by have := HB.out.2.2.1; have := HMO.out.1; have := HMO.out.2.1; omega, by have := HB.out.2.2.2.1; have := HMO.out.1; rw [List.length_append, List.length_singleton]; omega, by have := HB.out.2.2.2.2; have := HMO.out; omega⟩, EQ.out, HK8.out⟩
              case measure => exact HM.out
end Go.Proofs.Ytjmbgpdbnffkpaa
