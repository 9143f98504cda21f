/- Contracts of both functions that tell a relation's stratum. -/
import Derived.Test.YtbafedmbkhdkgaaImplSchema
namespace Go.Proofs.Ytbafedmbkhdkgaa
open Go.ChangeShapes Go.WideShapes Go.ChangeAt Go.RowKit Go.Maps
open Pl

def least (m : Int) : List Int → Int
  | [] => m
  | x :: xs => least (if x < m then x else m) xs
theorem least_is {v : Int} : ∀ {l : List Int} {m : Int}, (∀ x ∈ l, v ≤ x) → v ≤ m → (v ∈ l ∨ m = v) → least m l = v
  | [], m, _, _, h => by
    rcases h with h | h
    · cases h
    · exact h
  | x :: xs, m, hl, hm, h => by
    have hx := hl x (List.mem_cons_self ..)
    simp only [least]
    refine least_is (fun y hy => hl y (List.mem_cons_of_mem _ hy)) (by split <;> omega) ?_
    rcases h with h | h
    · rcases List.mem_cons.1 h with h | h
      · subst h; right; split <;> omega
      · exact .inl h
    · subst h; right; split <;> omega
theorem any_key {ts : List Ty} {k : Ky} : ((ents ts).any fun y => decide (y = k)) = true ↔ k ∈ ents ts := by
  rw [List.any_eq_true]
  constructor
  · rintro ⟨x, hx, e⟩
    rw [decide_eq_true_eq] at e
    rw [← e]; exact hx
  · exact fun h => ⟨k, h, decide_eq_true rfl⟩
/-- the stratum that is told -/
def stratumP (ts : List Ty) (k : Ky) : Int := if (schemaD ts && (ents ts).any fun y => decide (y = k)) = true then least (ents ts).length ((solsB ts).map fun f => f k) else -1
theorem stratumP_is {ts : List Ty} {f : Ky → Int} (hS : SchemaP ts) (hL : Least ts f) {k : Ky} (hk : k ∈ ents ts) : stratumP ts k = f k := by
  unfold stratumP
  rw [if_pos (Bool.and_eq_true_iff.2 ⟨schemaD_iff.2 hS, any_key.2 hk⟩)]
  obtain ⟨g, hg, hb⟩ := hL.sol.few (found_of hS.2.1)
  have hfb : ∀ y ∈ ents ts, f y + 1 ≤ (ents ts).length := fun y hy => by
    have h1 := hL.low y hy g hg
    have h2 := hb y hy
    omega
  obtain ⟨f2, hf2, hfe⟩ := solsB_of (found_of hS.2.1) hL.sol hfb
  refine least_is (fun x hx => ?_) (by have := hfb k hk; omega) (.inl ?_)
  · obtain ⟨h, hh, rfl⟩ := List.mem_map.1 hx
    exact hL.low k hk h (solsB_sol hh)
  · exact List.mem_map.2 ⟨f2, hf2, hfe k hk⟩
theorem stratumP_no {ts : List Ty} {k : Ky} (h : ¬ SchemaP ts) : stratumP ts k = -1 := by
  unfold stratumP
  rw [if_neg (fun h2 => h (schemaD_iff.1 (Bool.and_eq_true_iff.1 h2).1))]
theorem stratumP_none {ts : List Ty} {k : Ky} (h : k ∉ ents ts) : stratumP ts k = -1 := by
  unfold stratumP
  rw [if_neg (fun h2 => h (any_key.1 (Bool.and_eq_true_iff.1 h2).2))]
theorem atFrom_no {k : Ky} : ∀ (out : List St) (j : Nat), k ∉ keysS out → atFrom k.1 k.2 out j = -1
  | [], _, _ => rfl
  | s :: xs, j, h => by
    have h1 : ¬ isSt s k.1 k.2 = true := fun e => h (by rw [isSt_iff] at e; simp [keysS, e])
    simp only [atFrom, h1]
    simp only [Bool.false_eq_true, if_false]
    exact atFrom_no xs (j + 1) fun hm => h (by simp only [keysS, List.map_cons, List.mem_cons]; exact .inr hm)

set_option maxRecDepth 100000 in
set_option maxHeartbeats 2000000 in
theorem specStratumOf_any (ad : Option Addr) (cap : Nat) (rs : List TR) (typ rel : ByteArray) (w : World) (hlen : rs.length ≤ 1048576) (hs : SlT w ad rs) (hl : ∀ r ∈ rs, r.light) (hf : ∀ r ∈ rs, r.fits) :
    Calls Try.prog 31 #[.slice ad rs.length cap, .string typ, .string rel] w fun e w' => e = .returned (.int .i64 (stratumP (tys rs) (typ, rel))) ∧ Below w.heap.size w w' := by
  have HS : Hid (SlT w ad rs) := hs
  have HL : Hid (∀ r ∈ rs, r.light) := hl
  have HFT : Hid (∀ r ∈ rs, r.fits) := hf
  clear hs hl hf
  go_enter Try.func31, Try.ntmps31
  go_wp2_with fail
  refine (specSchemaOk_any ad cap rs _ hlen HS.out HL.out HFT.out).mono ?_
  rintro e w1 ⟨rfl, hb1⟩
  have HB1 : Hid (Below w.heap.size w w1) := hb1
  clear hb1
  cases hd : schemaD (tys rs) with
  | false =>
    have HN : Hid (stratumP (tys rs) (typ, rel) = -1) := stratumP_no (fun h => by rw [schemaD_yes h] at hd; cases hd)
    go_wp2
    go_ret
    exact ⟨by rw [HN.out]; rfl, HB1.out⟩
  | true =>
    have hS := schemaD_iff.1 hd
    have HSP : Hid (SchemaP (tys rs)) := hS
    obtain ⟨h6, hr6, hex⟩ := shape_facts hS.1
    have HR6 : Hid (∀ r ∈ rs, r.rows.length ≤ 6) := hr6
    have HEX : Hid (∀ r ∈ rs, ∀ q ∈ r.rows, specE (exs q.rows) = true ∧ q.rows.length ≤ 15 ∧ ∀ e ∈ q.rows, kidsRow q.rows.length e.e.kids) := hex
    clear hd hS hr6 hex
    go_wp2_with fail
    refine (l2Strata_any ad cap rs _ h6 (HS.out.below HB1.out) HL.out HR6.out (fun r hr q hq => (HEX.out r hr q hq).2) (found_of HSP.out.2.1)).mono ?_
    rintro e w2 ⟨⟨ad', cap', out, rfl, hSN, hks, hLe⟩ | ⟨rfl, hno⟩, hb2⟩
    · have HB2 : Hid (Below w.heap.size w w2) := HB1.out.trans (hb2.mono HB1.out.size)
      have HSN : Hid (SlN w2 ad' out) := hSN
      have HKS : Hid (keysS out = ents (tys rs)) := hks
      have HLE : Hid (Least (tys rs) (strAt out)) := hLe
      have hol : out.length ≤ 36 := by
        have h1 : out.length = (keysS out).length := by simp [keysS]
        have h2 := entUp_len rs HR6.out rs.length
        have h3 : entUp rs rs.length = ents (tys rs) := by unfold entUp; rw [List.take_length]
        rw [h3] at h2
        rw [h1, hks]; omega
      clear hSN hks hLe hb2
      by_cases hk : (typ, rel) ∈ ents (tys rs)
      · obtain ⟨i, hi, hat, hke, hn⟩ := atFrom_found out 0 (k := (typ, rel)) (by rw [HKS.out]; exact hk)
        have HV : Hid (stratumP (tys rs) (typ, rel) = out[i].n) := by show _ = _; rw [stratumP_is HSP.out HLE.out hk, hn]
        have HAT : Hid (atFrom typ rel out 0 = (i : Int)) := by show _ = _; rw [hat]; simp
        rcases HSN.out with e | ⟨b, off, rfl, hb, hr⟩
        · rw [e] at hi; simp at hi
        obtain ⟨c0, c1, c2⟩ := hr i hi
        have hi1 : (0 : Int) ≤ (i : Int) := by omega
        have hi2 : (i : Int) < (out.length : Int) := by omega
        clear hr hat hke hn
        go_wp2_with fail
        refine (l2At_any (some ⟨b, off, none⟩) cap' out typ rel _ (by omega) HSN.out).mono ?_
        rintro e w3 ⟨he, rfl⟩
        rw [HAT.out] at he
        subst he
        go_wp2
        go_ret
        exact ⟨by rw [HV.out]; rfl, HB2.out⟩
      · have HV : Hid (stratumP (tys rs) (typ, rel) = -1) := stratumP_none hk
        have HAT : Hid (atFrom typ rel out 0 = -1) := atFrom_no (k := (typ, rel)) out 0 (by rw [HKS.out]; exact hk)
        go_wp2_with fail
        refine (l2At_any ad' cap' out typ rel _ (by omega) HSN.out).mono ?_
        rintro e w3 ⟨he, rfl⟩
        rw [HAT.out] at he
        subst he
        go_wp2
        go_ret
        exact ⟨by rw [HV.out]; rfl, HB2.out⟩
    · exact absurd HSP.out.2.2 hno

set_option maxRecDepth 100000 in
set_option maxHeartbeats 2000000 in
theorem implStratumOf_any (ad : Option Addr) (cap : Nat) (rs : List TR) (typ rel : ByteArray) (w : World) (hlen : rs.length ≤ 1048576) (hs : SlT w ad rs) (hl : ∀ r ∈ rs, r.light) (hf : ∀ r ∈ rs, r.fits) (hcp : ∀ r ∈ rs, r.caps) (ht : typ.size ≤ maxLen) (hr : rel.size ≤ maxLen) :
    Calls Try.prog 32 #[.slice ad rs.length cap, .string typ, .string rel] w fun e w' => e = .returned (.int .i64 (stratumP (tys rs) (typ, rel))) ∧ Below w.heap.size w w' := by
  have HC := strataOf_any ad cap rs w hlen hs hl hf hcp
  obtain ⟨kl, hkl⟩ := relKeyOf (typ, rel) ht hr
  have HKL : Hid (keyOf Try.prog 84 (encK (typ, rel)) = some kl) := hkl
  clear hs hl hf hcp hkl
  go_enter Try.func32, Try.ntmps32
  go_wp2_with fail
  refine HC.mono ?_
  rintro e w6 ⟨hL, hb6⟩
  have HB6 : Hid (Below w.heap.size w w6) := hb6
  clear HC hb6
  rcases hL with ⟨bS, nS, σ, rfl, hS, hM, hLe, hk⟩ | ⟨rfl, hno⟩
  · have HM : Hid (MapV encK Try.prog 84 w6 bS nS (intS σ)) := hM
    cases hs : σ (typ, rel) with
    | none =>
      have HV : Hid (stratumP (tys rs) (typ, rel) = -1) := stratumP_none (fun h => by obtain ⟨x, hx⟩ := (hk _).2 h; rw [hs] at hx; cases hx)
      have hlk : intS σ (typ, rel) = none := by unfold intS; rw [hs]; rfl
      clear hS hM hLe hk hs
      go_wp2_with (at_lookup; refine wpList_lookV_ok _ rfl _ _ 103 rfl 84 2 relLaw Try.underlying103 (zeroInt _) bS nS (intS σ) rfl HM.out (typ, rel) kl rfl HKL.out ?_; simp only [hlk, Option.getD_none, Option.isSome_none])
      go_ret
      exact ⟨by rw [HV.out]; rfl, HB6.out⟩
    | some x =>
      have HV : Hid (stratumP (tys rs) (typ, rel) = x) := by show _ = _; rw [stratumP_is hS hLe ((hk _).1 ⟨x, hs⟩), hs]; rfl
      have hlk : intS σ (typ, rel) = some (.int .i64 x) := by unfold intS; rw [hs]; rfl
      clear hS hM hLe hk hs
      go_wp2_with (at_lookup; refine wpList_lookV_ok _ rfl _ _ 103 rfl 84 2 relLaw Try.underlying103 (zeroInt _) bS nS (intS σ) rfl HM.out (typ, rel) kl rfl HKL.out ?_; simp only [hlk, Option.getD_some, Option.isSome_some])
      go_ret
      exact ⟨by rw [HV.out]; rfl, HB6.out⟩
  · have HV : Hid (stratumP (tys rs) (typ, rel) = -1) := stratumP_no hno
    clear hno
    go_wp2
    go_ret
    exact ⟨by rw [HV.out]; rfl, HB6.out⟩
end Go.Proofs.Ytbafedmbkhdkgaa
