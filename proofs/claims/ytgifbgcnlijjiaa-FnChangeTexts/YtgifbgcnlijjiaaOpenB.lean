/- A slice of bytes that came in, and the reader that is opened over it. -/
import Derived.Test.YtgifbgcnlijjiaaDrawTuple
import Derived.ChangeSlices
import Derived.Deep.Slices
namespace Go.Proofs.Ytgifbgcnlijjiaa
open Go.ChangeShapes Go.WideShapes Go.ChangeAt Go.RowKit
open Pl


/-- a slice of bytes that came in -/
def Bytes (w : World) (ad : Option Addr) (len : Nat) : Prop := len ≤ maxLen ∧ (0 < len → ∃ b off, ad = some ⟨b, off, none⟩ ∧ b < w.heap.size ∧ ∀ i, i < len → ∃ c : Int, 0 ≤ c ∧ c ≤ 255 ∧ w.cell? ⟨b, off + i, none⟩ = some (.int .u8 c))
theorem Bytes.below {w w' : World} {ad : Option Addr} {len : Nat} (h : Bytes w ad len) (hb : Below w.heap.size w w') : Bytes w' ad len := by
  refine ⟨h.1, fun h0 => ?_⟩
  obtain ⟨b, off, e, hbl, hc⟩ := h.2 h0
  refine ⟨b, off, e, Nat.lt_of_lt_of_le hbl hb.size, fun i hi => ?_⟩
  obtain ⟨c, c0, c1, hcc⟩ := hc i hi
  exact ⟨c, c0, c1, by rw [hb.cell (p := ⟨b, off + i, none⟩) hbl]; exact hcc⟩

theorem open_bytes {H : Type} {enc : TypeId × Value → H} {W : World} {base : Nat} {sp : Nat → Bool} {held : Bool} {fuel : Nat} {ad : Option Addr} {len cap : Nat} {x : DataW H × List MemPlace}
    (h : DataW.trod enc Try.prog W base sp held fuel 22 [.slice ad len cap] = some x) : Bytes W ad len := by
  rcases open_ints Try.underlying22 Try.underlying5 (by kernel_rfl) h with ⟨hcs, -⟩ | ⟨a, l, c, zs, hcs, -, hlc, hcm, hm, -, hel, hwf⟩
  · simp at hcs
    obtain ⟨rfl, rfl, rfl⟩ := hcs
    exact ⟨by unfold maxLen; omega, fun h0 => by omega⟩
  · simp at hcs
    obtain ⟨rfl, rfl, rfl⟩ := hcs
    have hle : len ≤ zs.length := by rw [hm]; split <;> omega
    refine ⟨by omega, fun h0 => ?_⟩
    have hspot : a.spot = none := by
      have := hel 0 (by omega)
      have e : a.add 0 = a := by simp [Addr.add]
      rw [e] at this
      exact World.cell?_spot this
    obtain ⟨b, off, spot⟩ := a
    simp only at hspot
    subst hspot
    have add0 : ∀ x : Nat, (⟨b, off, none⟩ : Addr).add x = ⟨b, off + x, none⟩ := fun x => by
      unfold Addr.add
      by_cases h : x = 0
      · subst h; simp
      · simp [h]
    refine ⟨b, off, rfl, ?_, fun i hi => ?_⟩
    · have := hel 0 (by omega)
      rw [add0] at this
      exact World.block_lt_of_cell? W ⟨b, off + 0, none⟩ this
    · have h1 := hel i (by omega)
      rw [add0] at h1
      have h2 := hwf (zs.getD i 0) (by rw [List.getD_eq_getElem?_getD, List.getElem?_eq_getElem (by omega)]; simp)
      have h3 : IntKind.u8.min ≤ zs.getD i 0 ∧ zs.getD i 0 ≤ IntKind.u8.max := by simpa only [Lit.wf, Bool.and_eq_true, decide_eq_true_eq] using h2
      have e1 : IntKind.u8.min = 0 := by decide
      have e2 : IntKind.u8.max = 255 := by decide
      rw [e1, e2] at h3
      exact ⟨_, h3.1, h3.2, h1⟩

theorem rd_new {w : World} {ad : Option Addr} {len cap : Nat} {t : TypeId} (h : Bytes w ad len) : Rd (w.alloc (.cells #[.slice ad len cap, .int .i64 0] t)) w.heap.size ad len cap where
  lt := by simp
  code := by simp
  place := ⟨0, by simp, by omega⟩
  free := by simp
  bytes h0 := by
    obtain ⟨b, off, e, hbl, hc⟩ := h.2 h0
    refine ⟨b, off, e, by omega, by simp; omega, fun i hi => ?_⟩
    obtain ⟨c, c0, c1, hcc⟩ := hc i hi
    exact ⟨c, c0, c1, cell_al hcc _⟩
  small := h.1

theorem open_any (ad : Option Addr) (len cap : Nat) (w : World) (h : Bytes w ad len) :
    Calls Try.prog 35 #[.slice ad len cap] w fun e w' => e = .returned (.pointer (some ⟨w.heap.size, 0, none⟩)) ∧ Rd w' w.heap.size ad len cap ∧ Below w.heap.size w w' := by
  have H : Hid (Bytes w ad len) := h
  clear h
  go_enter Try.func35, Try.ntmps35
  go_wp2
  go_ret
  exact ⟨rfl, rd_new H.out, (Below.refl _ _).alloc (Nat.le_refl _) _⟩

theorem big_any (ad : Option Addr) (len cap : Nat) (w : World) :
    Calls Try.prog 8 #[.slice ad len cap] w fun e w' => e = .returned (.bool (decide ((1048576 : Int) < (len : Int)))) ∧ w' = w := by
  go_enter Try.func8, Try.ntmps8
  go_wp2
  go_ret
  exact ⟨rfl, rfl⟩

theorem res_new' {w : World} {R : Nat} (hR : w.heap.size ≠ R) (t : TypeId) : Res (w.alloc (.cells #[.string ⟨#[]⟩, .string ⟨#[]⟩, .string ⟨#[]⟩, .string ⟨#[]⟩, .string ⟨#[]⟩, .string ⟨#[]⟩] t)) R w.heap.size := by
  refine ⟨hR, by simp, fun o => by simp, fun o ho => ?_⟩
  have h6 : o = 0 ∨ o = 1 ∨ o = 2 ∨ o = 3 ∨ o = 4 ∨ o = 5 := by omega
  rcases h6 with rfl | rfl | rfl | rfl | rfl | rfl <;> simp
theorem below_set6 {B : Nat} {w w' : World} (h : Below B w w') {n : Nat} (hn : B ≤ n) (v0 v1 v2 v3 v4 v5 : Value) : Below B w ((((((w'.setCell ⟨n, 0, none⟩ v0).setCell ⟨n, 1, none⟩ v1).setCell ⟨n, 2, none⟩ v2).setCell ⟨n, 3, none⟩ v3).setCell ⟨n, 4, none⟩ v4).setCell ⟨n, 5, none⟩ v5) := by
  have st : ∀ (W : World) (o : Nat) (v : Value), Below B w W → Below B w (W.setCell ⟨n, o, none⟩ v) := fun W o v h => h.setCell hn v
  exact st _ _ _ (st _ _ _ (st _ _ _ (st _ _ _ (st _ _ _ (st _ _ _ h)))))

end Go.Proofs.Ytgifbgcnlijjiaa
