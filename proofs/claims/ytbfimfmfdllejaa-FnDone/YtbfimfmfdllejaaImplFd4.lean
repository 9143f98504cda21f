/- Contracts of the program's folders: one out of a list of files. -/
import Derived.Test.YtbfimfmfdllejaaImplFd3
namespace Go.Proofs.Ytbfimfmfdllejaa
open Go.ChangeShapes Go.WideShapes Go.ChangeAt Go.RowKit Go.Maps

theorem up_take {fs : List Fl} (hu : UpL fs) (k : Nat) : UpL (fs.take k) := hu.sublist (List.take_sublist _ _)
theorem ins_take {fs : List Fl} (hu : UpL fs) {k : Nat} (hk : k < fs.length) : insF fs[k].n fs[k].d (fs.take k) = fs.take (k + 1) := by
  refine up_ext (insF_up _ _ (up_take hu k)) (up_take hu _) fun g => ?_
  have hlt : ∀ g ∈ fs.take k, lessS g.n fs[k].n = true := fun g hg => by
    obtain ⟨i, hi, rfl⟩ := List.mem_iff_getElem.1 hg
    rw [List.length_take] at hi
    rw [List.getElem_take]
    exact List.pairwise_iff_getElem.1 hu i k (by omega) hk (by omega)
  rw [insF_mem, List.take_succ_eq_append_getElem hk, List.mem_append, List.mem_singleton]
  constructor
  · rintro (rfl | h)
    · exact .inr rfl
    · exact .inl h.1
  · rintro (h | rfl)
    · exact .inr ⟨h, fun e => by have := hlt g h; rw [e, lessS_irrefl] at this; cases this⟩
    · exact .inl rfl

set_option maxHeartbeats 2000000 in
theorem folderOf_any (ad : Option Addr) (cap : Nat) (fs : List Fl) (w : World) (hl : fs.length ≤ 1048576) (hS : SlF w ad fs) (hf : ∀ f ∈ fs, f.n.size ≤ maxLen ∧ f.d.size ≤ maxLen) (hu : UpL fs) :
    Calls Try.prog 40 #[.slice ad fs.length cap] w fun e w' => e = .returned (.map (some w.heap.size)) ∧ (∃ M, Fold w' w.heap.size fs.length M fs) ∧ Below w.heap.size w w' := by
  have HF := HIDk hf
  have HU := HIDk hu
  have HBL : Hid (fs = [] ∨ ∀ b off, ad = some ⟨b, off, none⟩ → b < w.heap.size) := by
    rcases hS with h | ⟨b, off, e, hb, -⟩
    · exact .inl h
    · exact .inr fun b' off' e' => by rw [e] at e'; injection e' with e'; injection e' with e1; omega
  have HB0 : Hid (Below w.heap.size w (w.alloc (.map #[] 0))) := (Below.refl _ _).alloc (Nat.le_refl _) _
  have HS0 := HIDk (hS.below HB0.out)
  have HF0 : Hid (∃ M, Fold (w.alloc (.map #[] 0)) w.heap.size 0 M (fs.take 0)) := ⟨_, fold_made w⟩
  clear hf hu hS
  have hmm := @run_makeMap Try.prog
  go_enter Try.func40, Try.ntmps40
  go_wp2_with fail
  go_loopw [9] (fun i wr => ∃ k : Nat, k ≤ fs.length ∧ i = .int .i64 (k : Int) ∧ Hid (∃ M, Fold wr w.heap.size k M (fs.take k)) ∧ Hid (SlF wr ad fs) ∧ Hid (Below w.heap.size w wr)) (fun i _ => fs.length - (intOf i).toNat)
  case atStart => exact ⟨0, Nat.zero_le _, rfl, HF0, HS0, HB0⟩
  case round =>
    clear hmm HF0 HS0 HB0
    obtain ⟨k, hk, rfl, HFd, HS, HB⟩ := hrel
    by_cases hlt : k < fs.length
    · obtain ⟨b, off, rfl, hb, t0, t1⟩ : ∃ b off, ad = some ⟨b, off, none⟩ ∧ b < wr.heap.size ∧ AtF wr b (off + k * 2) fs[k] := by
        rcases HS.out with hnil | ⟨b, off, e, hb, hr⟩
        · rw [hnil] at hlt; simp at hlt
        · exact ⟨b, off, e, hb, hr k hlt⟩
      have k0 : (0 : Int) ≤ (k : Int) := by omega
      have k1 : (k : Int) < (fs.length : Int) := by omega
      obtain ⟨f1, f2⟩ := HF.out fs[k] (List.getElem_mem hlt)
      have HK := HIDk (strKey fs[k].n f1)
      obtain ⟨M, hFd⟩ := HFd.out
      have HVB : Hid (∀ W2, Below wr.heap.size wr W2 → MapV encS Try.prog 9 W2 w.heap.size k M) := fun W2 h => hFd.map.below h
      have kc := fun (W : World) (s : ByteArray) => run_bytes_of_string (P := Try.prog) W 9 49 5 s Try.underlying9 Try.underlying49 Try.underlying5
      have hkm : k < maxLen := by unfold maxLen; omega
      go_wp2_with (at_mapUpdate; refine wpList_storeV _ rfl _ _ _ 69 rfl 9 49 strLaw encS_inj Try.underlying69 w.heap.size k M rfl (HVB.out _ ?_) hkm fs[k].n _ rfl HK.out _ rfl ?_)
      · exact (((Below.refl _ _).alloc (Nat.le_refl _) _).drew.alloc (by simp) _)
      · intro w3 hV3 hg3
        have hX : (wr.alloc (.cells #[.string fs[k].n, .string fs[k].d] 93)).heap.size = wr.heap.size + 1 := by simp
        have hle := HB.out.size
        have hrow := ownB_new (wr.alloc (.cells #[.string fs[k].n, .string fs[k].d] 93)) (w.heap.size + 1) fs[k].d (by omega) f2
        rw [hX] at hrow
        have hbl : Below wr.heap.size wr ((wr.alloc (.cells #[.string fs[k].n, .string fs[k].d] 93)).drew.alloc (.cells (bytesRow fs[k].d (grownCap (wr.alloc (.cells #[.string fs[k].n, .string fs[k].d] 93)) fs[k].d.size 0 5)) 5 ((bytesRow fs[k].d (grownCap (wr.alloc (.cells #[.string fs[k].n, .string fs[k].d] 93)) fs[k].d.size 0 5)).size, (bytesRow fs[k].d (grownCap (wr.alloc (.cells #[.string fs[k].n, .string fs[k].d] 93)) fs[k].d.size 0 5)).size + 1))) := (((Below.refl _ _).alloc (Nat.le_refl _) _).drew.alloc (by simp) _)
        have hFd2 := hFd.below hbl
        have hFd3 := hFd2.put hV3 (fun q v s _ hq ho => hFd2.rowsKept hg3 hq ho) (hrow.kept hg3 (.inr (fun e => by injection e with e; simp at e; omega))) (fun q v _ hq g hg e => by
          have := (hFd.rowlt hq hg).2
          simp only [Value.ownBlock, Option.some.injEq] at e
          omega)
        have HFd3 : Hid (∃ M, Fold w3 w.heap.size (k + 1) M (fs.take (k + 1))) := ⟨_, by have := hFd3; rw [ins_take HU.out hlt] at this; exact this⟩
        have HB3 : Hid (Below w.heap.size w w3) := below_map (HB.out.trans (hbl.mono hle)) hg3 (Nat.le_trans hle hbl.size)
        have HS3 : Hid (SlF w3 (some ⟨b, off, none⟩) fs) := by
          rcases HS.out with h | ⟨b', off', e, hb', hr⟩
          · exact .inl h
          · injection e with e; injection e with e1 e2; subst e1; subst e2
            have hbw : b < w.heap.size := by
              rcases HBL.out with h | h
              · rw [h] at hlt; simp at hlt
              · exact h b off rfl
            refine .inr ⟨b, off, rfl, Nat.lt_of_lt_of_le hbw HB3.out.size, fun i hi => (hr i hi).same fun o' => ?_⟩
            rw [HB3.out.cell (p := ⟨b, o', none⟩) hbw, HB.out.cell (p := ⟨b, o', none⟩) hbw]
        clear hFd3 hFd2 hbl hrow hX hV3 hg3 HFd HS HB hFd HVB kc HK t0 t1
        go_wp2
        go_roundw
        case rel => exact ⟨k + 1, by omega, by go_num, HFd3, HS3, HB3⟩
        case measure => simp [intOf]; omega
    · obtain rfl : k = fs.length := by omega
      have HFe : Hid (∃ M, Fold wr w.heap.size fs.length M fs) := by have := HFd.out; rw [List.take_length] at this; exact this
      go_wp2
      go_ret
      exact ⟨rfl, HFe.out, HB.out⟩
end Go.Proofs.Ytbfimfmfdllejaa
