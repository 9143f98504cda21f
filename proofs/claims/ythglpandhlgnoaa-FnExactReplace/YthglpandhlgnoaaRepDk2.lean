/- Contracts of the program's Replace. -/
import Derived.Test.YthglpandhlgnoaaRepDk
import Derived.Test.YthglpandhlgnoaaDkRead
namespace Go.Proofs.Ythglpandhlgnoaa
open Go.ChangeShapes Go.WideShapes Go.ChangeAt Go.RowKit Go.Maps

theorem rowO_two (w : World) (a b : Dop) : ∀ j u, (rowsO [a, b])[j]? = some u → (w.alloc (.cells #[.int .i64 a.k, .string a.n, .string a.t, .string a.d, .int .i64 b.k, .string b.n, .string b.t, .string b.d] 45)).cell? ((⟨w.heap.size, 0, none⟩ : Addr).add j) = some u := by
  intro j u hu
  rw [add_noneD, Nat.zero_add]
  have := World.cell?_alloc_mark w #[.int .i64 a.k, .string a.n, .string a.t, .string a.d, .int .i64 b.k, .string b.n, .string b.t, .string b.d] 45 (0, 0) j
  rw [this]; simpa [rowsO, Dop.row] using hu
/-- two ops behind ops that the call owns -/
theorem appTwo (W : World) (base : Nat) (v : Value) (os : List Dop) (a b : Dop) (ty : TypeId) (g : Nat) (hown : W.ownsRow base 45 4 v os.length (rowsO os)) (hb : base ≤ W.heap.size) (hx : ∀ j u, (rowsO [a, b])[j]? = some u → W.cell? ((⟨g, 0, none⟩ : Addr).add j) = some u) (hl : os.length ≤ 1000) :
    ∃ v' w', (Builtin.append_ #[29, 29] ty #[v, .slice (some ⟨g, 0, none⟩) 2 2]).run Try.prog W = .ok v' w' ∧ w'.ownsRow base 45 4 v' (os ++ [a, b]).length (rowsO (os ++ [a, b])) ∧ Below base W w' := by
  obtain ⟨iF, hiF, z0, z1, z2⟩ := info_parts info_dop
  obtain ⟨v', w', hr, h2, h3, h4, h5⟩ := run_append_own_at (P := Try.prog) W base 29 ty 45 iF (.agg #[.int .i64 0, .string ⟨#[]⟩, .string ⟨#[]⟩, .string ⟨#[]⟩]) 4 56 Try.underlying29 hiF z0 z1 z2 rfl (by decide) v os.length (rowsO os) hown ⟨g, 0, none⟩ 2 2 (rowsO [a, b]) rfl hx (rowO_ones _) (by unfold maxLen; omega) (by omega) hb
  refine ⟨v', w', hr, ?_, ⟨h3.os, h3.tape, h3.output, h3.size, fun k hk => h3.block k (by omega) (fun e => by have := (hown.lt k e.symm).1; omega)⟩⟩
  have e1 : rowsO (os ++ [a, b]) = rowsO os ++ rowsO [a, b] := by simp [rowsO]
  rw [e1, List.length_append]; exact h2
def OpsTo (w : World) (ops : List Dop) (e : Ending) (w' : World) : Prop := ∃ v, e = .returned v ∧ w'.ownsRow w.heap.size 45 4 v ops.length (rowsO ops) ∧ Below w.heap.size w w'
theorem opsTo_mk {w w' : World} {ops ops' : List Dop} {v : Value} (h : ops' = ops) (ho : w'.ownsRow w.heap.size 45 4 v ops.length (rowsO ops)) (hB : Below w.heap.size w w') : OpsTo w ops' (.returned v) w' := by rw [h]; exact ⟨v, rfl, ho, hB⟩

set_option maxRecDepth 8000 in
set_option maxHeartbeats 2000000 in
theorem replaceOps_any (ad : Option Addr) (cap : Nat) (ls : List Fl) (x d : ByteArray) (w : World) (hl : ls.length ≤ 1048576) (hS : SlF w ad ls) (hx : x.size ≤ 1048576) :
    Calls Try.prog 60 #[.slice ad ls.length cap, .string x, .string d] w (OpsTo w (repOps ls x d)) := by
  have HS := HIDk hS
  have hxs : x.size + 4 ≤ 9223372036854775807 := by omega
  clear hS
  go_enter Try.func60, Try.ntmps60
  go_wp2_with fail
  refine (dataIn_any ad cap ls (x ++ dotNew) w hl HS.out).mono ?_
  rintro e w1 ⟨rfl, hb1⟩
  have HB1 := HIDk hb1
  clear hb1
  cases hh : hasF ls (x ++ dotNew) with
  | false =>
    have HR : Hid (repOps ls x d = [] ++ [opAdd x d, opRen x]) := by show _ = _; rw [repOps, hh]; rfl
    obtain ⟨X2, hX2⟩ : ∃ X, X = w1.alloc (.cells #[.int .i64 1, .string (x ++ dotNew), .string ⟨#[]⟩, .string d, .int .i64 2, .string (x ++ dotNew), .string x, .string ⟨#[]⟩] 45) := ⟨_, rfl⟩
    have hb2 : Below w1.heap.size w1 X2 := by rw [hX2]; exact (Below.refl _ _).alloc (Nat.le_refl _) _
    obtain ⟨v', w', hr, hO, hB⟩ := appTwo X2 w.heap.size (.slice none 0 0) [] (opAdd x d) (opRen x) 29 w1.heap.size (World.ownsRow_nil _ _ _ _) (Nat.le_trans HB1.out.size hb2.size) (by rw [hX2]; exact rowO_two w1 (opAdd x d) (opRen x)) (by simp)
    have HO := HIDk hO
    have HR2 := HIDk hr
    have HBe := HIDk ((HB1.out.trans (hb2.mono HB1.out.size)).trans hB)
    clear hO hr hB hb2 hh
    unfold dotNew at hX2
    go_wp2_with (at_builtin; rw [← hX2]; clear hX2; refine wpList_append_run rfl _ _ 29 29 rfl (.slice none 0 0) (.slice (some ⟨w1.heap.size, 0, none⟩) 2 2) v' w' rfl rfl HR2.out ?_)
    go_wp2
    go_ret
    exact opsTo_mk HR.out HO.out HBe.out
  | true =>
    have HR : Hid (repOps ls x d = [opRem x] ++ [opAdd x d, opRen x]) := by show _ = _; rw [repOps, if_pos hh]; rfl
    obtain ⟨X2, hX2⟩ : ∃ X, X = w1.alloc (.cells #[.int .i64 3, .string (x ++ dotNew), .string ⟨#[]⟩, .string ⟨#[]⟩] 45) := ⟨_, rfl⟩
    have hb2 : Below w1.heap.size w1 X2 := by rw [hX2]; exact (Below.refl _ _).alloc (Nat.le_refl _) _
    obtain ⟨ad3, cap3, w3, hr3, hO3, halt⟩ := appOp X2 w.heap.size none 0 [] (opRem x) w1.heap.size 29 (World.ownsRow_nil _ _ _ _) (Nat.le_trans HB1.out.size hb2.size) (fun _ => rfl) (by rw [hX2]; exact rowO_news w1 (opRem x)) (by simp)
    have hB3 : Below w.heap.size w w3 := (HB1.out.trans (hb2.mono HB1.out.size)).trans (app_below halt (Nat.le_trans HB1.out.size hb2.size) (fun k hk => by cases hk))
    obtain ⟨X4, hX4⟩ : ∃ X, X = w3.alloc (.cells #[.int .i64 1, .string (x ++ dotNew), .string ⟨#[]⟩, .string d, .int .i64 2, .string (x ++ dotNew), .string x, .string ⟨#[]⟩] 45) := ⟨_, rfl⟩
    have hb4 : Below w3.heap.size w3 X4 := by rw [hX4]; exact (Below.refl _ _).alloc (Nat.le_refl _) _
    obtain ⟨v', w', hr, hO, hB⟩ := appTwo X4 w.heap.size (.slice ad3 ([] ++ [opRem x]).length cap3) [opRem x] (opAdd x d) (opRen x) 29 w3.heap.size (own_later hO3 hb4) (Nat.le_trans hB3.size hb4.size) (by rw [hX4]; exact rowO_two w3 (opAdd x d) (opRen x)) (by simp)
    have HO := HIDk hO
    have HR3 := HIDk hr3
    have HR2 := HIDk hr
    have HBe := HIDk ((hB3.trans (hb4.mono hB3.size)).trans hB)
    clear hO hr hB hb2 hb4 hh hr3 hO3 halt hB3
    unfold dotNew at hX2 hX4
    go_wp2_with (first | (at_builtin; rw [← hX2]; clear hX2; refine wpList_append_run rfl _ _ 29 29 rfl (.slice none 0 0) (.slice (some ⟨w1.heap.size, 0, none⟩) 1 1) (.slice ad3 1 cap3) w3 rfl rfl HR3.out ?_) | (at_builtin; rw [← hX4]; clear hX4; refine wpList_append_run rfl _ _ 29 29 rfl (.slice ad3 1 cap3) (.slice (some ⟨w3.heap.size, 0, none⟩) 2 2) v' w' rfl rfl HR2.out ?_))
    go_ret
    exact opsTo_mk HR.out HO.out HBe.out

theorem drop_get {os : List Dop} {k : Nat} (h : k < os.length) : os.drop k = os[k] :: os.drop (k + 1) := List.drop_eq_getElem_cons h
theorem repOps_len (ls : List Fl) (x d : ByteArray) : (repOps ls x d).length ≤ 3 := by unfold repOps; split <;> simp
theorem repOps_small {ls : List Fl} {x d : ByteArray} (hx : x.size ≤ 1048576) (hd : d.size ≤ 1048576) : ∀ o ∈ repOps ls x d, o.small := fun o ho => by
  obtain ⟨h1, h2, h3⟩ := op_small hx hd
  unfold repOps at ho
  split at ho <;> simp at ho
  · rcases ho with rfl | rfl | rfl
    · exact h1
    · exact h2
    · exact h3
  · rcases ho with rfl | rfl
    · exact h2
    · exact h3
/-- the disk as it is now: right, in rows of its own, none of them the box -/
structure NowR (w : World) (m : Nat) (ls ss : List Fl) (os : List Dop) (x d : ByteArray) (k : Nat) (L : List Fl) (O : List Dop) (n1 n2 n3 : Option Addr) (c1 c2 : Nat) (W : World) : Prop where
  own : OwnD W (w.heap.size + 2) n1 n2 n3 L ss O
  ne : ∀ g, InD n1 n2 n3 L ss O g → g ≠ m
  nil : Nils n1 n2 c1 c2
  ok : diskB L ss O = true
  small : ∀ o ∈ O, o.small
  run : repR ls os x d = actRun ((repOps ls x d).drop k) L O
  bel : Below w.heap.size w W
theorem diskB_len {L ss : List Fl} {O : List Dop} (h : diskB L ss O = true) : L.length ≤ 60 ∧ (∀ f ∈ L, f.n.size ≤ maxLen ∧ f.d.size ≤ 200000) ∧ O.length ≤ 200 ∧ ss.length ≤ 60 ∧ (∀ f ∈ ss, f.n.size ≤ maxLen ∧ f.d.size ≤ 200000) := by
  obtain ⟨h1, h2, h3⟩ := diskB_facts h
  exact ⟨(filesB_facts h1).1, (filesB_facts h1).2, h3, (filesB_facts h2).1, (filesB_facts h2).2⟩
theorem d_yes {L ss : List Fl} {O : List Dop} {o : Dop} (h : diskB L ss O = true) : dL L ss O o = actL L O o ∧ dS L ss O = ss ∧ dO L ss O o = actO L O o ∧ dC L ss O o = actC L O o := ⟨by rw [dL, if_pos h], by rw [dS, if_pos h], by rw [dO, if_pos h], by rw [dC, if_pos h]⟩
end Go.Proofs.Ythglpandhlgnoaa
