/- Contract of the program's list of a folder: its files by their names. -/
import Derived.Test.YtbfimfmfdllejaaImplFd5
import Derived.Test.YtbfimfmfdllejaaShelfK
namespace Go.Proofs
open Go.RowKit Go.Maps Go.Sort Go.Shelf
theorem Try.sortsF (m : Nat) : AnyZ.SortsIn Try.prog Try.sortedF_ren Fence.wide m :=
  ⟨fun blk off cap ss W hH hblk hsz => callsIn_wide.2 (AnyM.slices_Sort_string Try.sortF blk off cap ss W hH hblk hsz),
   fun p cap W => callsIn_wide.2 (AnyM.slices_Sort_string_none Try.sortF p cap W)⟩
theorem Try.keysF_any (mb : Option Nat) (W : World) : Calls Try.prog 75 #[.map mb] W fun e w' => e = .returned (.func (.func 89) #[] #[.pointer (some ⟨W.heap.size, 0, none⟩)]) ∧ w' = W.alloc (.cells #[.map mb] 69) :=
  callsIn_wide.1 (AnyZ.keys_in Try.keysF Fence.wide 5 trivial rfl mb W)
set_option maxHeartbeats 1000000 in
theorem Try.sortedF_any {H : Type} (b nn : Nat) (D0 : DataW H) (R : Value → Option (DataW H × List MemPlace)) (w : World) (hown : w.ownsMap Try.prog 9 R b nn D0) (hmax : Maps.size D0 ≤ maxLen) (hbytes : Maps.size D0 * 16 ≤ 140737488355328) :
    Calls Try.prog 74 #[.func (.func 89) #[] #[.pointer (some ⟨w.heap.size, 0, none⟩)]] (w.alloc (.cells #[.map (some b)] 69)) fun e w' => ∃ (v : Value) (ss : List (List UInt8)), e = .returned v ∧ ss.Perm (strKeys D0) ∧
      w'.ownsRow (w.alloc (.cells #[.map (some b)] 69)).heap.size 9 1 v ss.length ((ss.mergeSort (fun x y => decide (x ≤ y))).map encStr) ∧ (v = .slice none 0 0 ↔ ss = []) ∧ Below (w.alloc (.cells #[.map (some b)] 69)).heap.size (w.alloc (.cells #[.map (some b)] 69)) w' := by
  have hbl := hown.lt
  have hseq : SeqGives Fence.wide 2 Try.prog 89 #[.pointer (some ⟨w.heap.size, 0, none⟩)] encStr (fun ss => ss.Perm (strKeys D0)) (Maps.size D0) (w.alloc (.cells #[.map (some b)] 69)) :=
    AnyZ.keys_gives (ρ := Try.keysF_ren) { Try.keysF with } Fence.wide _ trivial rfl (by omega) w.heap.size b nn D0 _ (by simp) (by simp) (by
      obtain ⟨es, clock, hb, Ft, hs, hD⟩ := hown
      exact ⟨es, clock, (Below.heap_alloc _ _ b hbl).trans hb, Ft, hs, hD⟩)
  exact callsIn_wide.1 (AnyZ.sorted_in Try.sortedF Fence.wide 5 trivial trivial trivial trivial rfl (by omega) (Try.sortsF _) (enters_of Try.func88 (by kernel_rfl) rfl) 89 #[.pointer (some ⟨w.heap.size, 0, none⟩)] trivial (enters_of Try.func89 (by kernel_rfl) rfl) _ _ hmax hbytes _ hseq)
end Go.Proofs
namespace Go.Proofs.Ytbfimfmfdllejaa
open Go.ChangeShapes Go.WideShapes Go.ChangeAt Go.RowKit Go.Maps

/-- the names in a row -/
def SlN (w : World) (ad : Option Addr) (fs : List Fl) : Prop := fs = [] ∨ ∃ g, ad = some ⟨g, 0, none⟩ ∧ g < w.heap.size ∧ ∀ (i : Nat) (h : i < fs.length), w.cell? ⟨g, i, none⟩ = some (.string fs[i].n)
theorem SlN.below {w w' : World} {ad : Option Addr} {fs : List Fl} (h : SlN w ad fs) (hB : Below w.heap.size w w') : SlN w' ad fs := by
  rcases h with h | ⟨g, e, hb, hr⟩
  · exact .inl h
  · exact .inr ⟨g, e, Nat.lt_of_lt_of_le hb hB.size, fun i hi => by rw [hB.cell (p := ⟨g, i, none⟩) hb]; exact hr i hi⟩
theorem slN_own {w : World} {base : Nat} {e : TypeId} {v : Value} {fs : List Fl} (h : w.ownsRow base e 1 v fs.length (fs.map fun f => Value.string f.n)) : ∃ ad cap, v = .slice ad fs.length cap ∧ SlN w ad fs ∧ ∀ g, v.ownBlock = some g → base ≤ g := by
  have h2 := h
  rcases h.2 with ⟨rfl, h0⟩ | ⟨g, cp, cur, rfl, hbg, hg, hnc, -⟩
  · have : fs = [] := List.length_eq_zero_iff.1 h0
    subst this
    exact ⟨none, 0, rfl, .inl rfl, fun g e => by cases e⟩
  · refine ⟨_, cp, rfl, .inr ⟨g, rfl, (h2.lt g rfl).2, fun i hi => ?_⟩, fun g' e => by simp only [Value.ownBlock, Option.some.injEq] at e; omega⟩
    rw [h2.cellAt i (by omega)]
    simp [hi]

set_option maxRecDepth 8000 in
set_option maxHeartbeats 2000000 in
theorem list_any (b n : Nat) (M : ByteArray → Option Value) (fs : List Fl) (w : World) (H : Fold w b n M fs) (hu : UpL fs) (hs : ∀ f ∈ fs, f.n.size ≤ maxLen) (hl : fs.length ≤ 1048576) :
    Calls Try.prog 42 #[.map (some b)] w fun e w' => ∃ v, e = .returned v ∧ w'.ownsRow w.heap.size 93 2 v fs.length (rowsF fs) ∧ Below w.heap.size w w' := by
  obtain ⟨D, hown, -, hperm, hsize⟩ := H.keys hu hs
  have HS := HIDk (Try.sortedF_any b n D anyR w hown (by rw [hsize]; unfold maxLen; omega) (by rw [hsize]; omega))
  have HP := HIDk hperm
  have HU := HIDk hu
  have HSM := HIDk hs
  have HF := HIDk H
  clear H hu hs hown hperm hsize
  obtain ⟨iF, hiF, z0, z1, z2⟩ := info_parts info_file
  have HIT : Hid (Try.prog.info? 93 = some iF ∧ iF.zero = some (.agg #[.string ⟨#[]⟩, .string ⟨#[]⟩]) ∧ iF.size = 2 ∧ iF.bytes = 32) := ⟨hiF, z0, z1, z2⟩
  clear hiF z0 z1 z2
  go_enter Try.func42, Try.ntmps42
  go_wp2_with fail
  refine (Try.keysF_any (some b) w).mono ?_
  rintro e w1 ⟨rfl, rfl⟩
  go_wp2_with fail
  refine HS.out.mono ?_
  rintro e w2 ⟨v2, ss, rfl, hss, hrow, -, hb2⟩
  have hms := names_sorted HU.out (hss.trans HP.out.symm)
  have hlen : ss.length = fs.length := by have := (hss.trans HP.out.symm).length_eq; rw [List.length_map] at this; exact this
  rw [hms, List.map_map, hlen] at hrow
  have hrow2 : w2.ownsRow (w.alloc (.cells #[.map (some b)] 69)).heap.size 9 1 v2 fs.length (fs.map fun f => Value.string f.n) := by
    have e : (fs.map fun f => Value.string f.n) = fs.map ((fun l => Value.string ⟨l.toArray⟩) ∘ fun f => f.n.data.toList) := List.map_congr_left fun f _ => by simp
    rw [e]; exact hrow
  obtain ⟨ad, cap, rfl, hsl, -⟩ := slN_own hrow2
  have HB0 : Hid (Below w.heap.size w w2) := ((Below.refl _ _).alloc (Nat.le_refl _) _).trans (hb2.mono (by simp))
  have HSL := HIDk hsl
  have HF2 := HIDk (HF.out.below HB0.out)
  clear hss hrow hrow2 hms hlen hb2 hsl HF HS
  go_wp2_with fail
  go_loopw [3, 10] (fun v i wr => ∃ k : Nat, k ≤ fs.length ∧ i = .int .i64 (k : Int) ∧ Hid (wr.ownsRow w2.heap.size 93 2 v (fs.take k).length (rowsF (fs.take k))) ∧ Hid (Below w2.heap.size w2 wr)) (fun _ i _ => fs.length - (intOf i).toNat)
  case atStart => exact ⟨0, Nat.zero_le _, rfl, World.ownsRow_nil _ _ _ _, Below.refl _ _⟩
  case round =>
    obtain ⟨k, hk, rfl, HOW, HBW⟩ := hrel
    by_cases hlt : k < fs.length
    · obtain ⟨g, rfl, hg, t0⟩ : ∃ g, ad = some ⟨g, 0, none⟩ ∧ g < wr.heap.size ∧ wr.cell? ⟨g, k, none⟩ = some (.string fs[k].n) := by
        rcases HSL.out.below HBW.out with h | ⟨g, e, hg, hr⟩
        · rw [h] at hlt; simp at hlt
        · exact ⟨g, e, hg, hr k hlt⟩
      have hFd := HF2.out.below HBW.out
      have k0 : (0 : Int) ≤ (k : Int) := by omega
      have k1 : (k : Int) < (fs.length : Int) := by omega
      have HK := HIDk (strKey fs[k].n (HSM.out fs[k] (List.getElem_mem hlt)))
      obtain ⟨v, hv⟩ : ∃ v, (M fs[k].n).getD (.slice none 0 0) = v := ⟨_, rfl⟩
      have hrow := hFd.row HU.out fs[k].n
      rw [hv, dataF_of HU.out (List.getElem_mem hlt)] at hrow
      have hcv := hrow.text
      have HVM := HIDk hFd.map
      clear hFd hrow
      have hlk : (fs.take k).length = k := by rw [List.length_take]; omega
      have HE : Hid (fs.take (k + 1) = fs.take k ++ [fs[k]]) := List.take_succ_eq_append_getElem hlt
      obtain ⟨W6, hW6⟩ : ∃ W6, W6 = wr.alloc (.cells #[.string fs[k].n, .string fs[k].d] 93) := ⟨_, rfl⟩
      have HO6 : Hid (W6.ownsRow w2.heap.size 93 2 u3 (fs.take k).length (rowsF (fs.take k))) := by rw [hW6]; exact HOW.out.alloc _
      have HNW : Hid (∀ j u, fs[k].row[j]? = some u → W6.cell? ((⟨wr.heap.size, 0, none⟩ : Addr).add j) = some u) := by rw [hW6]; exact rowF_news wr fs[k]
      have HB6 : Hid (Below w2.heap.size w2 W6) := by rw [hW6]; exact HBW.out.alloc HBW.out.size _
      go_wp2_with (first | (at_lookup; refine wpList_lookV _ rfl _ _ 69 rfl 9 49 strLaw Try.underlying69 (z := .slice none 0 0) (Try.zeroValue49 _) b n M rfl HVM.out fs[k].n _ rfl HK.out ?_; rw [hv]) | (at_builtin; rw [← hW6]; clear hW6; refine wpList_append_own_at _ rfl _ _ 30 rfl w2.heap.size 93 iF (.agg #[.string ⟨#[]⟩, .string ⟨#[]⟩]) 2 32 Try.underlying30 HIT.out.1 HIT.out.2.1 HIT.out.2.2.1 HIT.out.2.2.2 rfl (by decide) u3 _ (rowsF (fs.take k)) rfl HO6.out ⟨wr.heap.size, 0, none⟩ 1 1 fs[k].row rfl rfl HNW.out (rowF_one _) (by unfold maxLen; omega) (by omega) HB6.out.size ?_))
      intro v7 w7 hown7 hgr7 _ _
      have HB7 : Hid (Below w2.heap.size w2 w7) := HB6.out.grown hgr7 HB6.out.size (fun g hg => (HOW.out.lt g hg).1)
      have HO7 : Hid (w7.ownsRow w2.heap.size 93 2 v7 (fs.take (k + 1)).length (rowsF (fs.take (k + 1)))) := by
        show World.ownsRow _ _ _ _ _ _ _
        rw [HE.out, rowsF_snoc, List.length_append, hlk]; exact hown7
      clear hown7 hgr7 t0 hcv HVM HK
      go_wp2
      go_roundw
      case rel => exact ⟨k + 1, by omega, by go_num, HO7, HB7⟩
      case measure => simp [intOf]; omega
    · obtain rfl : k = fs.length := by omega
      have HOe : Hid (wr.ownsRow w.heap.size 93 2 u3 fs.length (rowsF fs)) := own_base (by have := HOW.out; rw [List.take_length] at this; exact this) HB0.out.size
      have HBe : Hid (Below w.heap.size w wr) := HB0.out.trans (HBW.out.mono HB0.out.size)
      go_wp2
      go_ret
      exact ⟨_, rfl, HOe.out, HBe.out⟩
end Go.Proofs.Ytbfimfmfdllejaa
