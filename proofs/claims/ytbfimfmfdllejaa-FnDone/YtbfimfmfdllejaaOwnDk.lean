/- A disk that owns its rows; its marks. -/
import Derived.Test.YtbfimfmfdllejaaDkEnd
import Derived.Test.YtbfimfmfdllejaaMarkFl
import Derived.Test.YtbfimfmfdllejaaMarkOp
namespace Go.Proofs.Ytbfimfmfdllejaa
open Go.ChangeShapes Go.WideShapes Go.ChangeAt Go.RowKit Go.Maps

/-- a row of files in a block of its own, free to be written -/
def FrF (w : World) (base : Nat) (ad : Option Addr) (ne : Prop) : Prop := ne → ∃ g, ad = some ⟨g, 0, none⟩ ∧ base ≤ g ∧ g < w.heap.size ∧ Free w g
structure OwnD (w : World) (base : Nat) (adL adS adO : Option Addr) (ls ss : List Fl) (os : List Dop) : Prop where
  live : SlF w adL ls
  safe : SlF w adS ss
  ops : SlO w adO os
  fl : FrF w base adL (ls ≠ [])
  fs : FrF w base adS (ss ≠ [])
  fo : FrF w base adO (os ≠ [])
  nLS : ls ≠ [] → ss ≠ [] → adL ≠ adS
  nLO : ls ≠ [] → os ≠ [] → adL ≠ adO
  nSO : ss ≠ [] → os ≠ [] → adS ≠ adO
/-- the blocks of its rows -/
def InD (adL adS adO : Option Addr) (ls ss : List Fl) (os : List Dop) (g : Nat) : Prop := (ls ≠ [] ∧ adL = some ⟨g, 0, none⟩) ∨ (ss ≠ [] ∧ adS = some ⟨g, 0, none⟩) ∨ (os ≠ [] ∧ adO = some ⟨g, 0, none⟩)
theorem FrF.below {w w' : World} {base : Nat} {ad : Option Addr} {ne : Prop} (h : FrF w base ad ne) (hB : Below w.heap.size w w') : FrF w' base ad ne := fun hn => by
  obtain ⟨g, e, h1, h2, h3⟩ := h hn
  exact ⟨g, e, h1, Nat.lt_of_lt_of_le h2 hB.size, fun j => keptF hB h2 (h3 j)⟩
theorem FrF.chg {S : Nat → Prop} {w w' : World} {base : Nat} {ad : Option Addr} {ne : Prop} (h : FrF w base ad ne) (hC : Chg S w w') : FrF w' base ad ne := fun hn => by
  obtain ⟨g, e, h1, h2, h3⟩ := h hn
  exact ⟨g, e, h1, Nat.lt_of_lt_of_le h2 hC.size, hC.free g h2 h3⟩
theorem FrF.mono {w : World} {base b' : Nat} {ad : Option Addr} {ne : Prop} (h : FrF w base ad ne) (hb : b' ≤ base) : FrF w b' ad ne := fun hn => by
  obtain ⟨g, e, h1, h2⟩ := h hn
  exact ⟨g, e, Nat.le_trans hb h1, h2⟩
theorem OwnD.below {w w' : World} {base : Nat} {adL adS adO : Option Addr} {ls ss : List Fl} {os : List Dop} (h : OwnD w base adL adS adO ls ss os) (hB : Below w.heap.size w w') : OwnD w' base adL adS adO ls ss os :=
  ⟨h.live.below hB, h.safe.below hB, h.ops.below hB, h.fl.below hB, h.fs.below hB, h.fo.below hB, h.nLS, h.nLO, h.nSO⟩
theorem OwnD.mono {w : World} {base b' : Nat} {adL adS adO : Option Addr} {ls ss : List Fl} {os : List Dop} (h : OwnD w base adL adS adO ls ss os) (hb : b' ≤ base) : OwnD w b' adL adS adO ls ss os :=
  ⟨h.live, h.safe, h.ops, h.fl.mono hb, h.fs.mono hb, h.fo.mono hb, h.nLS, h.nLO, h.nSO⟩
theorem OwnD.inD {w : World} {base : Nat} {adL adS adO : Option Addr} {ls ss : List Fl} {os : List Dop} (h : OwnD w base adL adS adO ls ss os) {g : Nat} (hg : InD adL adS adO ls ss os g) : base ≤ g ∧ g < w.heap.size := by
  rcases hg with ⟨hn, e⟩ | ⟨hn, e⟩ | ⟨hn, e⟩
  · obtain ⟨g', e', h1, h2, -⟩ := h.fl hn; rw [e] at e'; injection e' with e'; injection e' with e'; subst e'; exact ⟨h1, h2⟩
  · obtain ⟨g', e', h1, h2, -⟩ := h.fs hn; rw [e] at e'; injection e' with e'; injection e' with e'; subst e'; exact ⟨h1, h2⟩
  · obtain ⟨g', e', h1, h2, -⟩ := h.fo hn; rw [e] at e'; injection e' with e'; injection e' with e'; subst e'; exact ⟨h1, h2⟩
theorem FrF.at0 {w : World} {base : Nat} {ad : Option Addr} {ne : Prop} (h : FrF w base ad ne) (hn : ne) {g o : Nat} (e : ad = some ⟨g, o, none⟩) : o = 0 := by
  obtain ⟨g', e', -⟩ := h hn
  rw [e] at e'; injection e' with e'; injection e' with e1 e2
theorem SlO.lt0 {w : World} {g : Nat} {xs : List Dop} (h : SlO w (some ⟨g, 0, none⟩) xs) (hn : xs ≠ []) : g < w.heap.size := by
  rcases h with h | ⟨b, off, e, hb, -⟩
  · exact absurd h hn
  · injection e with e; injection e with e; omega
theorem someNe {g h : Nat} (hn : g ≠ h) : (some ⟨g, 0, none⟩ : Option Addr) ≠ some ⟨h, 0, none⟩ := fun e => by injection e with e; injection e with e; exact hn e
/-- what toDisk leaves owns its rows -/
theorem toPost_own {w w' : World} {ls ss : List Fl} {os : List Dop} {gL gS gO : Nat} (h1 : w.heap.size ≤ gL) (h2 : gL ≤ gS) (h3 : gS ≤ gO ∧ (ls ≠ [] → gL < gS ∧ Free w' gL) ∧ (ss ≠ [] → gS < gO ∧ Free w' gS) ∧ (os ≠ [] → Free w' gO)) (sL : SlF w' (some ⟨gL, 0, none⟩) ls) (sS : SlF w' (some ⟨gS, 0, none⟩) ss) (sO : SlO w' (some ⟨gO, 0, none⟩) os) :
    OwnD w' w.heap.size (some ⟨gL, 0, none⟩) (some ⟨gS, 0, none⟩) (some ⟨gO, 0, none⟩) ls ss os where
  live := sL
  safe := sS
  ops := sO
  fl hn := ⟨gL, rfl, h1, sL.lt0 hn, (h3.2.1 hn).2⟩
  fs hn := ⟨gS, rfl, by omega, sS.lt0 hn, (h3.2.2.1 hn).2⟩
  fo hn := ⟨gO, rfl, by omega, sO.lt0 hn, h3.2.2.2 hn⟩
  nLS hn _ := someNe (by have := (h3.2.1 hn).1; omega)
  nLO hn _ := someNe (by have := (h3.2.1 hn).1; omega)
  nSO hn _ := someNe (by have := (h3.2.2.1 hn).1; omega)
/-- another disk's marks leave it alone -/
theorem OwnD.chg {S : Nat → Prop} {w w' : World} {base : Nat} {adL adS adO : Option Addr} {ls ss : List Fl} {os : List Dop} (h : OwnD w base adL adS adO ls ss os) (hC : Chg S w w') (hn : ∀ g, InD adL adS adO ls ss os g → ¬ S g) : OwnD w' base adL adS adO ls ss os where
  live := h.live.chg hC fun g o hl e => by obtain rfl := h.fl.at0 hl e; exact hn g (.inl ⟨hl, e⟩)
  safe := h.safe.chg hC fun g o hl e => by obtain rfl := h.fs.at0 hl e; exact hn g (.inr (.inl ⟨hl, e⟩))
  ops := h.ops.chg hC fun g o hl e => by obtain rfl := h.fo.at0 hl e; exact hn g (.inr (.inr ⟨hl, e⟩))
  fl := h.fl.chg hC
  fs := h.fs.chg hC
  fo := h.fo.chg hC
  nLS := h.nLS
  nLO := h.nLO
  nSO := h.nSO
theorem cl_chg {S : Nat → Prop} {w w1 w2 : World} {a b c : Value} (h : Cl w a b c w1) (hC : Chg S w1 w2) (hn : ¬ S w.heap.size) : Cl w a b c w2 :=
  ⟨Nat.lt_of_lt_of_le h.lt hC.size, (hC.cell h.lt hn).trans h.c0, (hC.cell h.lt hn).trans h.c1, (hC.cell h.lt hn).trans h.c2⟩
/-- the marks are held -/
structure Mkd (w : World) (k : Nat) (adL adS adO : Option Addr) (ls ss : List Fl) (os : List Dop) : Prop where
  live : SlF w adL (mkF k ls)
  safe : SlF w adS (mkF (k + 2 * ls.length) ss)
  ops : SlO w adO (mkO (k + 2 * ls.length + 2 * ss.length) os)
theorem Mkd.below {w w' : World} {k : Nat} {adL adS adO : Option Addr} {ls ss : List Fl} {os : List Dop} (h : Mkd w k adL adS adO ls ss os) (hB : Below w.heap.size w w') : Mkd w' k adL adS adO ls ss os := ⟨h.live.below hB, h.safe.below hB, h.ops.below hB⟩

set_option maxRecDepth 8000 in
set_option maxHeartbeats 4000000 in
theorem markDisk_any (adL adS adO : Option Addr) (capL capS capO : Nat) (ls ss : List Fl) (os : List Dop) (k base : Nat) (w : World) (H : OwnD w base adL adS adO ls ss os) (h0 : 0 < k) (hk : k ≤ 1000) (hl : ls.length ≤ 1048576) (hs : ss.length ≤ 1048576) (ho : os.length ≤ 1048576) :
    Calls Try.prog 16 #[.agg #[.slice adL ls.length capL, .slice adS ss.length capS, .slice adO os.length capO], .int .i64 (k : Int)] w fun e w' => e = .returned (.int .i64 ((k + 2 * ls.length + 2 * ss.length + 4 * os.length : Nat) : Int)) ∧ Mkd w' k adL adS adO ls ss os ∧ Chg (InD adL adS adO ls ss os) w w' := by
  obtain ⟨W, hW⟩ : ∃ W, W = w.alloc (.cells #[.slice adL ls.length capL, .slice adS ss.length capS, .slice adO os.length capO] 33) := ⟨_, rfl⟩
  have C0 : Hid (Cl w (.slice adL ls.length capL) (.slice adS ss.length capS) (.slice adO os.length capO) W) := by rw [hW]; exact cl_new _ _ _ _ _
  have hb : Below w.heap.size w W := by rw [hW]; exact (Below.refl _ _).alloc (Nat.le_refl _) _
  have H0 := HIDk (H.below hb)
  have HC0 : Hid (Chg (InD adL adS adO ls ss os) w W) := Chg.of hb
  have hin : ∀ g, InD adL adS adO ls ss os g → g < w.heap.size := fun g hg => (H.inD hg).2
  have HIN := HIDk hin
  clear H hb hin
  go_enter Try.func16, Try.ntmps16
  go_wp2_with fail
  rw [← hW]
  clear hW
  refine (markFileS_any adL capL ls k W H0.out.live (fun hn => by obtain ⟨g, e, -, -, hf⟩ := H0.out.fl hn; exact ⟨g, e, hf⟩) h0 (by omega)).mono ?_
  rintro e w1 ⟨rfl, hm1, hc1⟩
  have C1 := HIDk (cl_chg C0.out hc1 (fun h => by have := HIN.out _ (.inl h); omega))
  have HM1 := HIDk hm1
  have HC1 := HIDk (HC0.out.trans (hc1.mono fun g hg => .inl hg))
  have HS1 : Hid (SlF w1 adS ss) := H0.out.safe.chg hc1 fun g o hn e hS => by obtain rfl := H0.out.fs.at0 hn e; exact H0.out.nLS hS.1 hn (hS.2.trans e.symm)
  have HO1 : Hid (SlO w1 adO os) := H0.out.ops.chg hc1 fun g o hn e hS => by obtain rfl := H0.out.fo.at0 hn e; exact H0.out.nLO hS.1 hn (hS.2.trans e.symm)
  have HF1 := HIDk (H0.out.fs.chg hc1)
  have HG1 := HIDk (H0.out.fo.chg hc1)
  have HL1 := HIDk (H0.out.fl.chg hc1)
  have y1 := C1.out.c1
  clear hm1 hc1 C0 HC0
  go_wp2_with fail
  refine (markFileS_any adS capS ss (k + 2 * ls.length) w1 HS1.out (fun hn => by obtain ⟨g, e, -, -, hf⟩ := HF1.out hn; exact ⟨g, e, hf⟩) (by omega) (by omega)).mono ?_
  rintro e w2 ⟨rfl, hm2, hc2⟩
  have C2 := HIDk (cl_chg C1.out hc2 (fun h => by have := HIN.out _ (.inr (.inl h)); omega))
  have HM2 := HIDk hm2
  have HC2 := HIDk (HC1.out.trans (hc2.mono fun g hg => .inr (.inl hg)))
  have HM1' : Hid (SlF w2 adL (mkF k ls)) := HM1.out.chg hc2 fun g o hn e hS => by
    have hn' : ls ≠ [] := fun h => hn (mkF_nil.2 h)
    obtain rfl := HL1.out.at0 hn' e; exact H0.out.nLS hn' hS.1 (e.trans hS.2.symm)
  have HO2 : Hid (SlO w2 adO os) := HO1.out.chg hc2 fun g o hn e hS => by obtain rfl := HG1.out.at0 hn e; exact H0.out.nSO hS.1 hn (hS.2.trans e.symm)
  have HG2 := HIDk (HG1.out.chg hc2)
  have HL2 := HIDk (HL1.out.chg hc2)
  have HF2 := HIDk (HF1.out.chg hc2)
  have y2 := C2.out.c2
  clear hm2 hc2 C1 HC1 HM1 HO1 HS1 HF1 HG1 HL1 y1
  go_wp2_with fail
  refine (markDOpS_any adO capO os (k + 2 * ls.length + 2 * ss.length) w2 HO2.out (fun hn => by obtain ⟨g, e, -, -, hf⟩ := HG2.out hn; exact ⟨g, e, hf⟩) (by omega) (by omega)).mono ?_
  rintro e w3 ⟨rfl, hm3, hc3⟩
  have HM3 := HIDk hm3
  have HC3 := HIDk (HC2.out.trans (hc3.mono fun g hg => .inr (.inr hg)))
  have HMA : Hid (SlF w3 adL (mkF k ls)) := HM1'.out.chg hc3 fun g o hn e hS => by
    have hn' : ls ≠ [] := fun h => hn (mkF_nil.2 h)
    obtain rfl := HL2.out.at0 hn' e; exact H0.out.nLO hn' hS.1 (e.trans hS.2.symm)
  have HMB : Hid (SlF w3 adS (mkF (k + 2 * ls.length) ss)) := HM2.out.chg hc3 fun g o hn e hS => by
    have hn' : ss ≠ [] := fun h => hn (mkF_nil.2 h)
    obtain rfl := HF2.out.at0 hn' e; exact H0.out.nSO hn' hS.1 (e.trans hS.2.symm)
  clear hm3 hc3 C2 HC2 HM1' HM2 HO2 HG2 HL2 HF2 y2
  go_wp2
  go_ret
  exact ⟨rfl, ⟨HMA.out, HMB.out, HM3.out⟩, HC3.out⟩

set_option maxRecDepth 8000 in
set_option maxHeartbeats 4000000 in
theorem heldDisk_any (adL adS adO : Option Addr) (capL capS capO : Nat) (ls ss : List Fl) (os : List Dop) (k : Nat) (w : World) (H : Mkd w k adL adS adO ls ss os) (h0 : 0 < k) (hk : k ≤ 1000) (hl : ls.length ≤ 1048576) (hs : ss.length ≤ 1048576) (ho : os.length ≤ 1048576) :
    Calls Try.prog 17 #[.agg #[.slice adL ls.length capL, .slice adS ss.length capS, .slice adO os.length capO], .int .i64 (k : Int)] w fun e w' => e = .returned (.int .i64 ((k + 2 * ls.length + 2 * ss.length + 4 * os.length : Nat) : Int)) ∧ Below w.heap.size w w' := by
  obtain ⟨W, hW⟩ : ∃ W, W = w.alloc (.cells #[.slice adL ls.length capL, .slice adS ss.length capS, .slice adO os.length capO] 33) := ⟨_, rfl⟩
  have C0 : Hid (Cl w (.slice adL ls.length capL) (.slice adS ss.length capS) (.slice adO os.length capO) W) := by rw [hW]; exact cl_new _ _ _ _ _
  have hb : Below w.heap.size w W := by rw [hW]; exact (Below.refl _ _).alloc (Nat.le_refl _) _
  have H0 := HIDk (H.below hb)
  have B0 := HIDk hb
  clear H hb
  go_enter Try.func17, Try.ntmps17
  go_wp2_with fail
  rw [← hW]
  clear hW
  refine (heldFileS_any adL capL ls k W H0.out.live h0 (by omega)).mono ?_
  rintro e w1 ⟨rfl, hb1⟩
  have H1 := HIDk (H0.out.below hb1)
  have B1 := HIDk (B0.out.trans (hb1.mono B0.out.size))
  have C1 := HIDk (C0.out.later hb1)
  have y1 := C1.out.c1
  have d1 : decide (((k + 2 * ls.length : Nat) : Int) < 0) = false := by simp; omega
  clear hb1 H0 B0 C0
  go_wp2_with fail
  refine (heldFileS_any adS capS ss (k + 2 * ls.length) w1 H1.out.safe (by omega) (by omega)).mono ?_
  rintro e w2 ⟨rfl, hb2⟩
  have H2 := HIDk (H1.out.below hb2)
  have B2 := HIDk (B1.out.trans (hb2.mono B1.out.size))
  have C2 := HIDk (C1.out.later hb2)
  have y2 := C2.out.c2
  have d2 : decide (((k + 2 * ls.length + 2 * ss.length : Nat) : Int) < 0) = false := by simp; omega
  clear hb2 H1 B1 C1 y1 d1
  go_wp2_with fail
  refine (heldDOpS_any adO capO os (k + 2 * ls.length + 2 * ss.length) w2 H2.out.ops (by omega) (by omega)).mono ?_
  rintro e w3 ⟨rfl, hb3⟩
  have B3 := HIDk (B2.out.trans (hb3.mono B2.out.size))
  have d3 : decide (((k + 2 * ls.length + 2 * ss.length + 4 * os.length : Nat) : Int) < 0) = false := by simp; omega
  clear hb3 H2 B2 C2 y2 d2
  go_wp2
  go_ret
  exact ⟨by go_num, B3.out⟩
end Go.Proofs.Ytbfimfmfdllejaa
