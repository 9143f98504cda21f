/- Both readers of expressions take the same texts for the same expressions. -/
import Derived.Test.YtjmbgpdbnffkpaaPlainIRd2
namespace Go.Proofs.Ytjmbgpdbnffkpaa
open Pl

def TK (k : Int) (zs : List Int) (out : List Ex) : ByteArray := joinB (tSign k) (zs.map fun z => txt out z.toNat)
theorem TK_app {k : Int} {zs : List Int} {out new : List Ex} (h : ∀ z ∈ zs, z.toNat < out.length) : TK k zs (out ++ new) = TK k zs out := by
  unfold TK
  congr 1
  apply List.map_congr_left
  intro z hz
  exact txt_app _ _ _ (h z hz)
theorem TK_snoc {k : Int} {zs : List Int} {z : Int} {out : List Ex} (h : zs ≠ []) : TK k (zs ++ [z]) out = TK k zs out ++ tSign k ++ txt out z.toNat := by
  unfold TK
  rw [List.map_append, List.map_cons, List.map_nil, joinB_snoc, if_neg (by simpa using h)]
theorem TK_one (k z : Int) (out : List Ex) : TK k [z] out = txt out z.toNat := by
  have := joinB_snoc (tSign k) [] (txt out z.toNat)
  rw [if_pos rfl] at this
  exact this
theorem kidsP_bd (s : ByteArray) (it : RS → Int × RS) (k : Int) (n : Nat) (zs : List Int) (p : Nat) (out : List Ex) : kidsP s it k n zs ⟨p, true, out⟩ = (zs, ⟨p, true, out⟩) := by
  cases n with
  | zero => rfl
  | succ n => rw [kidsP, isP_bad]; rfl
/-- what reading one side has come to -/
structure SideG (s : ByteArray) (n p : Nat) (out : List Ex) (x : Int) (st : RS) : Prop where
  le1 : p ≤ st.p
  le2 : st.p ≤ s.size
  grow : ∃ new, st.out = out ++ new ∧ new ≠ []
  place : x = (st.out.length : Int) - 1
  size : (txt st.out (st.out.length - 1)).size + p ≤ st.p
  two : (rdI s n false ⟨p, out⟩ = some (x, ⟨st.p, st.out⟩) ∧ txt st.out (st.out.length - 1) = s.extract p st.p ∧ ((((exAt st.out (st.out.length - 1)).kind = 1 ∨ (exAt st.out (st.out.length - 1)).kind = 2 ∨ (exAt st.out (st.out.length - 1)).kind = 3) ∧ st.out.length = out.length + 1) ∨ (4 ≤ (exAt st.out (st.out.length - 1)).kind ∧ out.length + 2 ≤ st.out.length))) ∨ (rdI s n false ⟨p, out⟩ = none ∧ (txt st.out (st.out.length - 1)).size + p < st.p)
def SideOk (s : ByteArray) (n : Nat) : Prop := ∀ (p : Nat) (out : List Ex) (x : Int) (st : RS), p ≤ s.size → 2 * (s.size - p) < n → rdP s n false ⟨p, false, out⟩ = (x, st) → st.bad = false → (∀ e ∈ st.out, nodeB e = true) → SideG s n p out x st
/-- what reading sides has come to -/
structure SidesG (s : ByteArray) (n p : Nat) (out : List Ex) (x : Int) (st : RS) : Prop where
  le1 : p ≤ st.p
  le2 : st.p ≤ s.size
  grow : ∃ new, st.out = out ++ new ∧ new ≠ []
  place : x = (st.out.length : Int) - 1
  size : (txt st.out (st.out.length - 1)).size + p ≤ st.p ∨ (4 ≤ (exAt st.out (st.out.length - 1)).kind ∧ (txtAt st.out (st.out.length - 1) false).size + p ≤ st.p)
  two : (∃ c, rdI s n true ⟨p, out⟩ = some (c, ⟨st.p, st.out⟩) ∧ ((c = 1 ∧ txt st.out (st.out.length - 1) = s.extract p st.p ∧ ((((exAt st.out (st.out.length - 1)).kind = 1 ∨ (exAt st.out (st.out.length - 1)).kind = 2 ∨ (exAt st.out (st.out.length - 1)).kind = 3) ∧ st.out.length = out.length + 1) ∨ (4 ≤ (exAt st.out (st.out.length - 1)).kind ∧ out.length + 2 ≤ st.out.length))) ∨ (1 < c ∧ 4 ≤ (exAt st.out (st.out.length - 1)).kind ∧ out.length + 2 ≤ st.out.length ∧ txtAt st.out (st.out.length - 1) false = s.extract p st.p))) ∨ (rdI s n true ⟨p, out⟩ = none ∧ ((txt st.out (st.out.length - 1)).size + p < st.p ∨ (4 ≤ (exAt st.out (st.out.length - 1)).kind ∧ (txtAt st.out (st.out.length - 1) false).size + p < st.p)))
def SidesOk (s : ByteArray) (n : Nat) : Prop := ∀ (p : Nat) (out : List Ex) (x : Int) (st : RS), p ≤ s.size → 2 * (s.size - p) + 1 < n → rdP s n true ⟨p, false, out⟩ = (x, st) → st.bad = false → (∀ e ∈ st.out, nodeB e = true) → SidesG s n p out x st
theorem kids_two {s : ByteArray} {n : Nat} {k : Int} (hS : SideOk s n) : ∀ (m : Nat) (zs zs' : List Int) (p : Nat) (out : List Ex) (st : RS), p ≤ s.size → 2 * (s.size - p) < n → zs ≠ [] → (∀ z ∈ zs, z.toNat < out.length) → kidsP s (rdP s n false) k m zs ⟨p, false, out⟩ = (zs', st) → st.bad = false → (∀ e ∈ st.out, nodeB e = true) →
    p ≤ st.p ∧ st.p ≤ s.size ∧ (∃ new, st.out = out ++ new) ∧ (∀ z ∈ zs', z.toNat < st.out.length) ∧ (TK k zs' st.out).size + p ≤ (TK k zs out).size + st.p ∧
      ((kidsI s (rdI s n false) k m zs ⟨p, out⟩ = some (zs', ⟨st.p, st.out⟩) ∧ TK k zs' st.out = TK k zs out ++ s.extract p st.p) ∨ (kidsI s (rdI s n false) k m zs ⟨p, out⟩ = none ∧ (TK k zs' st.out).size + p < (TK k zs out).size + st.p))
  | 0, zs, zs', p, out, st, hp, _, _, hz, h, _, _ => by
    rw [kidsP] at h
    injection h with h1 h2
    subst h1 h2
    have e0 : s.extract p p = ⟨#[]⟩ := by apply ext_data'; rw [ex_data]; simp
    refine ⟨Nat.le_refl _, hp, ⟨[], by simp⟩, hz, Nat.le_refl _, .inl ⟨rfl, ?_⟩⟩
    show _ = _ ++ s.extract p p
    rw [e0]; apply ext_data'; simp [ByteArray.data_append]
  | m + 1, zs, zs', p, out, st, hp, hn, hne, hz, h, hb, hv => by
    rw [kidsP, isP_ok] at h
    have hs3 := tSign_size k
    by_cases hl : litAt s (tSign k) p = true
    · have hle := litAt_le hl
      rw [if_pos hl] at h
      have eo : onP (tSign k) ⟨p, false, out⟩ = ⟨p + 3, false, out⟩ := by unfold onP; rw [hs3]
      rw [eo] at h
      obtain ⟨x, st1, hr⟩ : ∃ x st1, rdP s n false ⟨p + 3, false, out⟩ = (x, st1) := ⟨_, _, rfl⟩
      rw [hr] at h
      have u1 : Up s ⟨p + 3, false, out⟩ st1 := by have := up_rd (s := s) n false ⟨p + 3, false, out⟩ (by show p + 3 ≤ _; omega); rw [hr] at this; exact this
      obtain ⟨p1, b1, o1⟩ := st1
      cases b1 with
      | true =>
        simp only at h
        rw [kidsP_bd] at h
        injection h with _ h2
        rw [← h2] at hb; cases hb
      | false =>
        simp only at h
        have u2 : Up s ⟨p1, false, o1⟩ st := by have := up_kids (k := k) (fun st h => up_rd (s := s) n false st h) m (zs ++ [x]) ⟨p1, false, o1⟩ u1.2.1; rw [h] at this; exact this
        obtain ⟨n2, e2⟩ := u2.2.2.1
        have hv1 : ∀ e ∈ o1, nodeB e = true := fun e he => hv e (by rw [e2]; exact List.mem_append_left _ he)
        have g := hS (p + 3) out x ⟨p1, false, o1⟩ (by omega) (by omega) hr rfl hv1
        obtain ⟨n1, e1, hn1⟩ := g.grow
        have gl := g.le1
        have gl2 := g.le2
        have gs := g.size
        have gp := g.place
        simp only at e1 gl gl2 gs gp
        have hlen : out.length + 1 ≤ o1.length := by
          rw [e1, List.length_append]
          have : n1.length ≠ 0 := fun h => hn1 (List.length_eq_zero_iff.1 h)
          omega
        have hx : x.toNat = o1.length - 1 := by omega
        have hz1 : ∀ z ∈ zs ++ [x], z.toNat < o1.length := by
          intro z hz'
          rcases List.mem_append.1 hz' with h1 | h1
          · have := hz z h1; omega
          · rw [List.mem_singleton.1 h1]; omega
        obtain ⟨i1, i2, ⟨n3, i3⟩, i4, i5, i6⟩ := kids_two hS m (zs ++ [x]) zs' p1 o1 st gl2 (by omega) (by simp) hz1 h hb hv
        have hT : TK k (zs ++ [x]) o1 = TK k zs out ++ tSign k ++ txt o1 (o1.length - 1) := by
          rw [TK_snoc hne, hx, e1, TK_app hz]
        have hTs : (TK k (zs ++ [x]) o1).size = (TK k zs out).size + 3 + (txt o1 (o1.length - 1)).size := by rw [hT, ByteArray.size_append, ByteArray.size_append, hs3]
        refine ⟨by omega, i2, ⟨n1 ++ n3, by rw [i3, e1, List.append_assoc]⟩, i4, by omega, ?_⟩
        rw [kidsI]
        simp only
        rw [if_pos hl]
        rcases g.two with ⟨t1, t2, -⟩ | ⟨t1, t2⟩
        · rw [t1]
          simp only
          rcases i6 with ⟨j1, j2⟩ | ⟨j1, j2⟩
          · refine .inl ⟨j1, ?_⟩
            have hli := lit_is hl
            rw [hs3] at hli
            simp only at t2
            rw [j2, hT, t2, ← hli, ByteArray.append_assoc, ByteArray.append_assoc, ex_app s (by omega) (by omega), ex_app s (by omega) (by omega)]
          · exact .inr ⟨j1, by omega⟩
        · rw [t1]
          simp only at t2
          exact .inr ⟨rfl, by omega⟩
    · rw [if_neg hl] at h
      injection h with h1 h2
      subst h1 h2
      have e0 : s.extract p p = ⟨#[]⟩ := by apply ext_data'; rw [ex_data]; simp
      refine ⟨Nat.le_refl _, hp, ⟨[], by simp⟩, hz, Nat.le_refl _, .inl ⟨?_, ?_⟩⟩
      · rw [kidsI]; simp only; rw [if_neg hl]
      · show _ = _ ++ s.extract p p
        rw [e0]; apply ext_data'; simp [ByteArray.data_append]
theorem sign_kind {s : ByteArray} {p : Nat} (h : signAt s p ≠ 0) : 4 ≤ signAt s p ∧ signAt s p ≤ 6 ∧ litAt s (tSign (signAt s p)) p = true := by
  unfold signAt at *
  split
  · rename_i h1; exact ⟨by decide, by decide, h1⟩
  · split
    · rename_i h1; exact ⟨by decide, by decide, h1⟩
    · split
      · rename_i h1; exact ⟨by decide, by decide, h1⟩
      · rename_i a b c
        simp [a, b, c] at h
theorem txt_this (es : List Ex) (xs : List Al) : txt (es ++ [⟨1, xs, ⟨#[]⟩, ⟨#[]⟩, []⟩]) es.length = thisText xs := by
  rw [txt_eq, txt_leaf (.inl rfl)]
  rfl
theorem two_all (s : ByteArray) : ∀ n : Nat, SideOk s n ∧ SidesOk s n
  | 0 => ⟨fun p _ _ _ _ h => by omega, fun p _ _ _ _ h => by omega⟩
  | n + 1 => by
    obtain ⟨ih1, ih2⟩ := two_all s n
    refine ⟨fun p out x st hp hn h hb hv => ?_, fun p out x st hp hn h hb hv => ?_⟩
    · -- one side
      rw [rdP, isP_ok, isP_ok] at h
      by_cases hT : litAt s tThis p = true
      · rw [if_pos hT] at h
        have hle := litAt_le hT
        have e5 : tThis.size = 5 := rfl
        have eo : onP tThis ⟨p, false, out⟩ = ⟨p + 5, false, out⟩ := rfl
        rw [eo] at h
        obtain ⟨o, st1, hr⟩ : ∃ o st1, pairsP s (s.size + 1) [] ⟨p + 5, false, out⟩ = (o, st1) := ⟨_, _, rfl⟩
        rw [hr] at h
        cases o with
        | none =>
          have := pairs_none s (s.size + 1) [] (p + 5) out st1 (by omega) (by omega) hr
          simp only at h
          injection h with _ h2
          rw [h2, hb] at this; cases this
        | some ys =>
          simp only at h
          injection h with h1 h2
          have ho : st.out = st1.out ++ [⟨1, ys, ⟨#[]⟩, ⟨#[]⟩, []⟩] := by rw [← h2]; rfl
          have hp' : st.p = st1.p := by rw [← h2]; rfl
          have hnd := hv ⟨1, ys, ⟨#[]⟩, ⟨#[]⟩, []⟩ (by rw [ho]; simp)
          have hal : ∀ a ∈ ys, alB a = true := by
            have h3 : allowB ys = true := by simp [nodeB] at hnd; exact hnd
            unfold allowB at h3
            simp only [Bool.and_eq_true, decide_eq_true_eq] at h3
            intro a ha
            obtain ⟨i, hi, rfl⟩ := List.getElem_of_mem ha
            exact upA_all h3.2 i hi hi
          obtain ⟨-, q2, q3, q4, -, q6, q7⟩ := pairs_two s (s.size + 1) [] ys (p + 5) out st1 (by omega) hr hal
          rw [q2] at ho h1
          have e0 : (preA []).size = 0 := rfl
          have hlast : st.out.length - 1 = out.length := by rw [ho]; simp
          have htx : txt st.out (st.out.length - 1) = thisText ys := by rw [hlast, ho, txt_this]
          have hsz : (thisText ys).size = (JA ys).size + 6 := by
            have : thisText ys = tThis ++ JA ys ++ tClose := rfl
            rw [this, ByteArray.size_append, ByteArray.size_append, e5]
            have : tClose.size = 1 := rfl
            omega
          have hk : (exAt st.out (st.out.length - 1)).kind = 1 := by rw [hlast, ho, exAt_last]
          refine ⟨by omega, by omega, ⟨_, ho, by simp⟩, by rw [← h1, ho]; simp, by rw [htx, hsz]; omega, ?_⟩
          rw [rdI]
          simp only
          rw [if_neg (by rw [this_no_open hT]; decide), if_pos hT]
          rcases q7 with ⟨k1, k2⟩ | ⟨k1, k2⟩
          · rw [k1]
            refine .inl ⟨by rw [← h1, ho, hp'], ?_, .inl ⟨.inl hk, by rw [ho]; simp⟩⟩
            have hli := lit_is hT
            rw [e5] at hli
            have e1 : thisText ys = tThis ++ (JA ys ++ tClose) := by rw [← ByteArray.append_assoc]; rfl
            have e2 : preA [] ++ s.extract (p + 5) st1.p = s.extract (p + 5) st1.p := by apply ext_data'; simp [preA, ByteArray.data_append]
            rw [htx, e1, k2, e2, ← hli, hp', ex_app s (by omega) (by omega)]
          · rw [k1]
            exact .inr ⟨rfl, by rw [htx, hsz]; omega⟩
      · rw [if_neg hT] at h
        by_cases hO : litAt s tOpen p = true
        · rw [if_pos hO] at h
          have hle := litAt_le hO
          have e1 : tOpen.size = 1 := rfl
          have e1c : tClose.size = 1 := rfl
          have eo : onP tOpen ⟨p, false, out⟩ = ⟨p + 1, false, out⟩ := rfl
          rw [eo] at h
          obtain ⟨x1, st1, hr⟩ : ∃ x1 st1, rdP s n true ⟨p + 1, false, out⟩ = (x1, st1) := ⟨_, _, rfl⟩
          rw [hr] at h
          obtain ⟨p1, b1, o1⟩ := st1
          cases b1 with
          | true =>
            simp only [isP_bad, Bool.false_eq_true, if_false] at h
            injection h with _ h2
            rw [← h2] at hb; cases hb
          | false =>
            simp only [isP_ok] at h
            by_cases hC : litAt s tClose p1 = true
            · rw [if_pos hC] at h
              injection h with h1 h2
              have ho : st.out = o1 := by rw [← h2]; rfl
              have hp' : st.p = p1 + 1 := by rw [← h2]; rfl
              have g := ih2 (p + 1) out x1 ⟨p1, false, o1⟩ (by omega) (by omega) hr rfl (fun e he => hv e (by rw [ho]; exact he))
              have hcl := litAt_le hC
              obtain ⟨g1, g2, g3, g4, g5, g6⟩ := g
              simp only at g1 g2 g3 g4 g5 g6
              have hop : ∀ (hk : 4 ≤ (exAt o1 (o1.length - 1)).kind), (txt o1 (o1.length - 1)).size = (txtAt o1 (o1.length - 1) false).size + 2 := fun hk => by
                rw [txt_op hk, ByteArray.size_append, ByteArray.size_append]
                have a1 : (⟨#[40]⟩ : ByteArray).size = 1 := rfl
                have a2 : (⟨#[41]⟩ : ByteArray).size = 1 := rfl
                omega
              rw [← h1]
              refine ⟨by omega, by omega, by rw [ho]; exact g3, by rw [ho]; exact g4, ?_, ?_⟩
              · rw [ho, hp']
                rcases g5 with h5 | ⟨k5, h5⟩
                · omega
                · have := hop k5; omega
              · rw [rdI]
                simp only
                rw [if_pos hO, ho, hp']
                rcases g6 with ⟨c, c1, c2⟩ | ⟨c1, c2⟩
                · rw [c1]
                  simp only
                  rcases c2 with ⟨rfl, t2, -⟩ | ⟨t1, t2, t3, t4⟩
                  · right
                    rw [if_neg (by decide)]
                    refine ⟨rfl, ?_⟩
                    rw [t2, ex_size s (by omega) (by omega)]; omega
                  · left
                    rw [if_pos t1, if_pos hC]
                    refine ⟨by rw [g4], ?_, .inr ⟨t2, t3⟩⟩
                    have hl1 := lit_is hO
                    have hl2 := lit_is hC
                    rw [e1] at hl1
                    rw [e1c] at hl2
                    have a1 : (⟨#[40]⟩ : ByteArray) = s.extract p (p + 1) := hl1.symm
                    have a2 : (⟨#[41]⟩ : ByteArray) = s.extract p1 (p1 + 1) := hl2.symm
                    rw [txt_op t2, t4, a1, a2, ex_app s (by omega) (by omega), ex_app s (by omega) (by omega)]
                · rw [c1]
                  right
                  refine ⟨rfl, ?_⟩
                  rcases c2 with c2 | ⟨k2, c2⟩
                  · omega
                  · have := hop k2; omega
            · rw [if_neg hC] at h
              injection h with _ h2
              rw [← h2] at hb; cases hb
        · rw [if_neg hO] at h
          injection h with h1 h2
          obtain ⟨e1, e2⟩ := nm_spec s p out
          rw [e1, e2] at h2
          obtain ⟨q1, q2⟩ := nmQ_le s p hp
          cases hnb : nodeB (nmX s p) with
          | false =>
            rw [judged, hnb] at h2
            rw [← h2] at hb
            simp [addP, endP] at hb
          | true =>
            rw [judged, hnb] at h2
            simp only [if_true] at h2
            have ho : st.out = out ++ [nmX s p] := by rw [← h2]; rfl
            have hp' : st.p = nmQ s p := by rw [← h2]; rfl
            obtain ⟨t1, t2, t3⟩ := name_two hp hnb
            have hlast : st.out.length - 1 = out.length := by rw [ho]; simp
            have htx : txt st.out (st.out.length - 1) = s.extract p st.p := by rw [hlast, ho, txt_eq, txt_leaf t3, t2, hp']
            have hk : exAt st.out (st.out.length - 1) = nmX s p := by rw [hlast, ho, exAt_last]
            refine ⟨by omega, by omega, ⟨_, ho, by simp⟩, by rw [← h1, ho]; simp, by rw [htx, ex_size s (by omega) (by omega)]; omega, .inl ⟨?_, htx, .inl ⟨by rw [hk]; exact t3, by rw [ho]; simp⟩⟩⟩
            rw [rdI]
            simp only
            rw [if_neg hO, if_neg hT, t1]
            simp only
            rw [← h1, ho, hp']
    · -- sides
      rw [rdP] at h
      obtain ⟨x1, st1, hr⟩ : ∃ x1 st1, rdP s n false ⟨p, false, out⟩ = (x1, st1) := ⟨_, _, rfl⟩
      rw [hr] at h
      simp only at h
      have u1 : Up s ⟨p, false, out⟩ st1 := by have := up_rd (s := s) n false ⟨p, false, out⟩ hp; rw [hr] at this; exact this
      by_cases hs : signAt s st1.p = 0 ∨ st1.bad = true
      · rw [if_pos hs] at h
        injection h with h1 h2
        subst h1 h2
        obtain ⟨g1, g2, g3, g4, g5, g6⟩ := ih1 p out x1 st1 hp (by omega) hr hb hv
        have hs0 : signAt s st1.p = 0 := by
          rcases hs with h | h
          · exact h
          · rw [hb] at h; cases h
        refine ⟨g1, g2, g3, g4, .inl g5, ?_⟩
        rw [rdI]
        rcases g6 with ⟨t1, t2, t3⟩ | ⟨t1, t2⟩
        · rw [t1]
          simp only
          rw [if_pos hs0]
          exact .inl ⟨1, rfl, .inl ⟨rfl, t2, t3⟩⟩
        · rw [t1]
          exact .inr ⟨rfl, .inl t2⟩
      · rw [if_neg hs] at h
        have hs0 : signAt s st1.p ≠ 0 := fun e => hs (.inl e)
        have hb1 : st1.bad = false := by
          cases e : st1.bad with
          | false => rfl
          | true => exact absurd (.inr e) hs
        obtain ⟨k4, k6, hlit⟩ := sign_kind hs0
        obtain ⟨p1, b1, o1⟩ := st1
        simp only at hb1
        subst hb1
        simp only at h k4 k6 hlit hs0
        obtain ⟨zs, st2, hr2⟩ : ∃ zs st2, kidsP s (rdP s n false) (signAt s p1) (s.size + 1) [x1] ⟨p1, false, o1⟩ = (zs, st2) := ⟨_, _, rfl⟩
        rw [hr2] at h
        simp only at h
        injection h with h1 h2
        have ho : st.out = st2.out ++ [⟨signAt s p1, [], ⟨#[]⟩, ⟨#[]⟩, zs⟩] := by rw [← h2]; rfl
        have hp' : st.p = st2.p := by rw [← h2]; rfl
        have hb2 : st2.bad = false := by
          cases e : st2.bad with
          | false => rfl
          | true => rw [← h2] at hb; simp [addP, e] at hb
        have u2 : Up s ⟨p1, false, o1⟩ st2 := by have := up_kids (k := signAt s p1) (fun st h => up_rd (s := s) n false st h) (s.size + 1) [x1] ⟨p1, false, o1⟩ u1.2.1; rw [hr2] at this; exact this
        obtain ⟨n2, e2⟩ := u2.2.2.1
        simp only at e2
        have hv2 : ∀ e ∈ st2.out, nodeB e = true := fun e he => hv e (by rw [ho]; exact List.mem_append_left _ he)
        have hv1 : ∀ e ∈ o1, nodeB e = true := fun e he => hv2 e (by rw [e2]; exact List.mem_append_left _ he)
        have hnd := hv ⟨signAt s p1, [], ⟨#[]⟩, ⟨#[]⟩, zs⟩ (by rw [ho]; simp)
        have hzl : 2 ≤ zs.length := by
          unfold nodeB at hnd
          simp only at hnd
          rw [if_neg (by omega), if_neg (by omega), if_neg (by omega)] at hnd
          split at hnd
          · simp only [Bool.and_eq_true, decide_eq_true_eq] at hnd; exact hnd.1.1.1.1
          split at hnd
          · simp only [Bool.and_eq_true, decide_eq_true_eq] at hnd; omega
          · cases hnd
        obtain ⟨g1, g2, ⟨n1, g3, gn⟩, g4, g5, g6⟩ := ih1 p out x1 ⟨p1, false, o1⟩ hp (by omega) hr rfl hv1
        simp only at g1 g2 g3 g4 g5 g6
        have hlen : out.length + 1 ≤ o1.length := by
          rw [g3, List.length_append]
          have : n1.length ≠ 0 := fun h => gn (List.length_eq_zero_iff.1 h)
          omega
        have hx : x1.toNat = o1.length - 1 := by omega
        obtain ⟨i1, i2, ⟨n3, i3⟩, i4, i5, i6⟩ := kids_two (k := signAt s p1) ih1 (s.size + 1) [x1] zs p1 o1 st2 g2 (by omega) (by simp) (fun z hz => by rw [List.mem_singleton.1 hz]; omega) hr2 hb2 hv2
        rw [TK_one, hx] at i5 i6
        have hlast : st.out.length - 1 = st2.out.length := by rw [ho]; simp
        have hk : exAt st.out (st.out.length - 1) = ⟨signAt s p1, [], ⟨#[]⟩, ⟨#[]⟩, zs⟩ := by rw [hlast, ho, exAt_last]
        have hk4 : 4 ≤ (exAt st.out (st.out.length - 1)).kind := by rw [hk]; exact k4
        have htx : txtAt st.out (st.out.length - 1) false = TK (signAt s p1) zs st2.out := by
          rw [txtAt, hk, inT_out]
          unfold nodeT
          simp only
          rw [if_neg (by omega), if_neg (by omega), if_neg (by omega)]
          unfold TK
          show joinB (signB _) _ = joinB (tSign _) _
          have : tSign (signAt s p1) = signB (signAt s p1) := rfl
          rw [this]
          congr 1
          apply List.map_congr_left
          intro z hz
          have := i4 z hz
          unfold txtF
          rw [hlast, if_pos this, ho, txt_app _ _ _ this]
        have hol : out.length + 2 ≤ st.out.length := by
          rw [ho, List.length_append, List.length_singleton, i3, List.length_append]; omega
        have hg : ∃ new, st.out = out ++ new ∧ new ≠ [] := ⟨n1 ++ n3 ++ [⟨signAt s p1, [], ⟨#[]⟩, ⟨#[]⟩, zs⟩], by rw [ho, i3, g3]; simp, by simp⟩
        refine ⟨by omega, by omega, hg, by rw [← h1, ho]; simp, .inr ⟨hk4, by rw [htx, hp']; omega⟩, ?_⟩
        rw [rdI]
        rcases g6 with ⟨t1, t2, -⟩ | ⟨t1, t2⟩
        · rw [t1]
          simp only
          rw [if_neg hs0]
          rcases i6 with ⟨j1, j2⟩ | ⟨j1, j2⟩
          · rw [j1]
            simp only
            refine .inl ⟨(zs.length : Int), by rw [ho, hp'], .inr ⟨by omega, hk4, hol, ?_⟩⟩
            rw [htx, j2, t2, hp', ex_app s (by omega) (by omega)]
          · rw [j1]
            exact .inr ⟨rfl, .inr ⟨hk4, by rw [htx, hp']; omega⟩⟩
        · rw [t1]
          exact .inr ⟨rfl, .inr ⟨hk4, by rw [htx, hp']; omega⟩⟩
end Go.Proofs.Ytjmbgpdbnffkpaa
