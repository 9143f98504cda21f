/- Contract of the document's function that writes a schema's lines, right or not, where these are few bytes. -/
import Derived.Test.YtkpefjefodkddaaGreatJ15
import Derived.Test.YtkpefjefodkddaaGreatRegionGen
import Derived.Test.YtkpefjefodkddaaGreatJ9
import Derived.Test.YtkpefjefodkddaaGreatRows
import Derived.WalkKit
import Derived.WalkLawsBesides
import Derived.ProofKit
import Derived.Deep.QuietTactic
import Derived.BigQuiet
import Derived.WalkSmall
import Derived.WalkSpells
namespace Go.Proofs.YtkpefjefodkddaaGreat
open Go.ChangeShapes Go.WideShapes Go.ChangeAt Go.RowKit
open Pl
theorem step3w (o n e : ByteArray) : (((o ++ n) ++ ⟨#[32, 61, 32]⟩) ++ e) ++ ⟨#[10]⟩ = o ++ (((n ++ ⟨#[32, 61, 32]⟩) ++ e) ++ ⟨#[10]⟩) := by
 simp only [ByteArray.append_assoc]
theorem head3w (o n : ByteArray) : ((o ++ ⟨#[116, 121, 112, 101, 32]⟩) ++ n) ++ ⟨#[10]⟩ = o ++ headTx n := by
 unfold headTx; simp only [ByteArray.append_assoc]
structure Small3 (rs : List TR) : Prop where
 six : rs.length ≤ 500
 rels : ∀ r ∈ rs, r.rows.length ≤ 750
 name : ∀ r ∈ rs, r.name.size ≤ 3000
 names : ∀ r ∈ rs, ∀ q ∈ r.rows, q.name.size ≤ 3000
set_option maxRecDepth 100000 in
set_option maxHeartbeats 4000000 in
theorem l3Print_wide (ad : Option Addr) (cap : Nat) (rs : List TR) (w : World) (hm : Small3 rs) (hs : SlT w ad rs) (hl : ∀ r ∈ rs, r.light) (hf : ∀ r ∈ rs, r.fits) :
  Calls Tryz.prog 103 #[.slice ad rs.length cap] w fun e w' => e = .returned (.string (schTx (tys rs))) ∧ Below w.heap.size w w' := by
 have HS : Hid (SlT w ad rs) := hs
 have HL : Hid (∀ r ∈ rs, r.light) := hl
 have HFT : Hid (∀ r ∈ rs, r.fits) := hf
 have HM : Hid (Small3 rs) := hm
 have h6 := hm.six
 clear hs hl hf hm
 go_enter Tryz.func103, Tryz.ntmps103
 go_wp2
 go_loopw [3, 4] (fun o i wr => ∃ (k : Nat) (out : ByteArray), k ≤ rs.length ∧ o = .string out ∧ i = .int .i64 k ∧ Hid (out = schTx (tys (rs.take k))) ∧ out.size ≤ k * 5100000 ∧ Hid (Below w.heap.size w wr)) (fun _ i _ => rs.length - (intOf i).toNat)
 case atStart => exact ⟨0, ⟨#[]⟩, Nat.zero_le _, rfl, rfl, rfl, Nat.zero_le _, Below.refl _ _⟩
 case round =>
  obtain ⟨k, out, hk, rfl, rfl, HP, hz, HB⟩ := hrel
  obtain ⟨wo, rfl⟩ : ∃ x, x = wr := ⟨_, rfl⟩
  by_cases hlt : k < rs.length
  ·rcases HS.out.below HB.out with rfl | ⟨b, off, rfl, hb, hr, hok⟩
   ·simp at hlt
   obtain ⟨t0, t1⟩ := hr k hlt
   have HOK : Hid (rs[k].ok wo) := hok rs[k] (List.getElem_mem hlt)
   have hn12 := HM.out.name rs[k] (List.getElem_mem hlt)
   have hr6 := HM.out.rels rs[k] (List.getElem_mem hlt)
   have HN12 : Hid (∀ q ∈ rs[k].rows, q.name.size ≤ 3000) := HM.out.names rs[k] (List.getElem_mem hlt)
   have HLG : Hid (rs[k].light) := HL.out _ (List.getElem_mem hlt)
   have HFE : Hid (rs[k].fits) := HFT.out _ (List.getElem_mem hlt)
   have hk1 : (0 : Int) ≤ (k : Int) := by omega
   have hk2 : (k : Int) < (rs.length : Int) := by omega
   have hrl : (rs[k].rows.length : Int) ≤ 750 := by omega
   clear hr hok
   go_wp2
   go_loopw [3, 5] (fun o i wr => ∃ (j : Nat) (o2 : ByteArray), j ≤ rs[k].rows.length ∧ o = .string o2 ∧ i = .int .i64 j ∧ Hid (o2 = (out ++ headTx rs[k].name) ++ relsTx (rls (rs[k].rows.take j))) ∧ o2.size ≤ k * 5100000 + 3010 + j * 6760 ∧ Hid (Below wo.heap.size wo wr)) (fun _ i _ => rs[k].rows.length - (intOf i).toNat)
   case atStart => exact ⟨0, _, Nat.zero_le _, rfl, rfl, by show _ = _; rw [head3w, List.take_zero, show rls [] = [] from rfl]; simp only [relsTx, app_nil], by rw [head3w, ByteArray.size_append, headTx_size]; omega, Below.refl _ _⟩
   case round =>
    obtain ⟨j, o2, hj, rfl, rfl, HI, hz2, HB2⟩ := hrel
    replace t0 := kept5 HB2.out hb t0
    replace t1 := kept5 HB2.out hb t1
    have hbw : b < wr.heap.size := Nat.lt_of_lt_of_le hb HB2.out.size
    by_cases hjl : j < rs[k].rows.length
    ·rcases HOK.out.below HB2.out with hnil | ⟨b2, off2, had, hb2, hr2, hok2⟩
     ·rw [hnil] at hjl; simp at hjl
     rw [had] at t1
     obtain ⟨u0, u1⟩ := hr2 j hjl
     have HOQ : Hid (rs[k].rows[j].ok wr) := hok2 rs[k].rows[j] (List.getElem_mem hjl)
     have hj1 : (0 : Int) ≤ (j : Int) := by omega
     have hj2 : (j : Int) < (rs[k].rows.length : Int) := by omega
     have hq12 := HN12.out _ (List.getElem_mem hjl)
     have HQL : Hid (rs[k].rows[j].light) := HLG.out.2 _ (List.getElem_mem hjl)
     have HQF : Hid (rs[k].rows[j].fits) := HFE.out.2.2 _ (List.getElem_mem hjl)
     obtain ⟨ex, hex⟩ : ∃ ex, ex = exText (exs rs[k].rows[j].rows) := ⟨_, rfl⟩
     have HEX : Hid (ex = exText (exs rs[k].rows[j].rows)) := hex
     have hxs : ex.size ≤ 3750 := by rw [hex]; exact exText_small _
     have q1 : (9223372036854775807 < o2.size + rs[k].rows[j].name.size) = False := by simp; omega
     have q2 : (9223372036854775807 < o2.size + rs[k].rows[j].name.size + 3) = False := by simp; omega
     have q3 : (9223372036854775807 < o2.size + rs[k].rows[j].name.size + 3 + ex.size) = False := by simp; omega
     have q4 : (9223372036854775807 < o2.size + rs[k].rows[j].name.size + 3 + ex.size + 1) = False := by simp; omega
     have HI2 : Hid ((((o2 ++ rs[k].rows[j].name) ++ ⟨#[32, 61, 32]⟩) ++ ex) ++ ⟨#[10]⟩ = (out ++ headTx rs[k].name) ++ relsTx (rls (rs[k].rows.take (j + 1)))) := by
      show _ = _
      rw [step3w, rls_takeS _ _ hjl, relsTx_snoc, HI.out, hex]
      simp only [ByteArray.append_assoc, relTx]
     have hz3 : ((((o2 ++ rs[k].rows[j].name) ++ ⟨#[32, 61, 32]⟩) ++ ex) ++ ⟨#[10]⟩ : ByteArray).size ≤ k * 5100000 + 3010 + (j + 1) * 6760 := by
      have e1 : (⟨#[32, 61, 32]⟩ : ByteArray).size = 3 := rfl
      have e2 : (⟨#[10]⟩ : ByteArray).size = 1 := rfl
      simp only [ByteArray.size_append]; omega
     have HZ3 : Hid (((((o2 ++ rs[k].rows[j].name) ++ ⟨#[32, 61, 32]⟩) ++ ex) ++ ⟨#[10]⟩ : ByteArray).size ≤ k * 5100000 + 3010 + (j + 1) * 6760) := hz3
     clear hr2 hok2 had hex hz3
     go_wp2_with fail
     refine wp_region_mid0 24 (fun n => (u31 :: u32 :: u33 :: u34 :: u35 :: u36 :: u37 :: u38 :: u39 :: u40 :: u41 :: u42 :: u43 :: u44 :: u45 :: u46 :: u47 :: u48 :: u49 :: u50 :: u51 :: u52 :: u53 :: u54 :: []).getD n undef) (fun fq => { tmps := List.toArray (Value.slice (some { block := b, off := off }) rs.length cap :: undef :: Value.string { data := #[] } :: Value.string o2 :: Value.int IntKind.i64 (k : Int) :: Value.int IntKind.i64 (j : Int) :: Value.int IntKind.i64 (k : Int) :: Value.slice (some { block := b, off := off }) rs.length cap :: Value.int IntKind.i64 (rs.length : Int) :: Value.bool true :: u10 :: u11 :: Value.string out :: Value.string (out ++ { data := #[116, 121, 112, 101, 32] }) :: Value.slice (some { block := b, off := off }) rs.length cap :: Value.int IntKind.i64 (k : Int) :: Value.pointer (some { block := b, off := off + k * 2 }) :: Value.pointer (some { block := b, off := off + k * 2 }) :: Value.string rs[k].name :: Value.string (out ++ { data := #[116, 121, 112, 101, 32] } ++ rs[k].name) :: Value.string (out ++ { data := #[116, 121, 112, 101, 32] } ++ rs[k].name ++ { data := #[10] }) :: Value.int IntKind.i64 (j : Int) :: Value.slice (some { block := b, off := off }) rs.length cap :: Value.int IntKind.i64 (k : Int) :: Value.pointer (some { block := b, off := off + k * 2 }) :: Value.pointer (some { block := b, off := off + k * 2 + 1 }) :: Value.slice (some { block := b2, off := off2 }) rs[k].rows.length rs[k].cap :: Value.int IntKind.i64 (rs[k].rows.length : Int) :: Value.bool true :: u29 :: u30 :: fq 0 :: fq 1 :: fq 2 :: fq 3 :: fq 4 :: fq 5 :: fq 6 :: fq 7 :: fq 8 :: fq 9 :: fq 10 :: fq 11 :: fq 12 :: fq 13 :: fq 14 :: fq 15 :: fq 16 :: fq 17 :: fq 18 :: fq 19 :: fq 20 :: fq 21 :: fq 22 :: fq 23 :: undef :: []), defers := [] }) (fun n v _ => v = (Value.string o2 :: Value.slice (some { block := b, off := off }) rs.length cap :: Value.int IntKind.i64 (k : Int) :: Value.pointer (some ⟨b, off + k * 2, none⟩) :: Value.pointer (some ⟨b, off + k * 2 + 1, none⟩) :: Value.slice (some ⟨b2, off2, none⟩) rs[k].rows.length rs[k].cap :: Value.int IntKind.i64 (j : Int) :: Value.pointer (some ⟨b2, off2 + j * 2, none⟩) :: Value.pointer (some ⟨b2, off2 + j * 2, none⟩) :: Value.string rs[k].rows[j].name :: Value.string (o2 ++ rs[k].rows[j].name) :: Value.string ((o2 ++ rs[k].rows[j].name) ++ ⟨#[32, 61, 32]⟩) :: Value.slice (some { block := b, off := off }) rs.length cap :: Value.int IntKind.i64 (k : Int) :: Value.pointer (some ⟨b, off + k * 2, none⟩) :: Value.pointer (some ⟨b, off + k * 2 + 1, none⟩) :: Value.slice (some ⟨b2, off2, none⟩) rs[k].rows.length rs[k].cap :: Value.int IntKind.i64 (j : Int) :: Value.pointer (some ⟨b2, off2 + j * 2, none⟩) :: Value.pointer (some ⟨b2, off2 + j * 2 + 1, none⟩) :: Value.slice rs[k].rows[j].ad rs[k].rows[j].rows.length rs[k].rows[j].cap :: Value.string ex :: Value.string (((o2 ++ rs[k].rows[j].name) ++ ⟨#[32, 61, 32]⟩) ++ ex) :: Value.string ((((o2 ++ rs[k].rows[j].name) ++ ⟨#[32, 61, 32]⟩) ++ ex) ++ ⟨#[10]⟩) :: []).getD n undef) (fun w' => Below wr.heap.size wr w') (by kernel_rfl) rfl (by kernel_rfl) (by kernel_rfl) rfl (Below.refl _ _).drew ?stepS ?finS
     case stepS =>
      rintro i hi o ho fq w' hG hpre
      have HG : Hid (Below wr.heap.size wr w') := hG
      replace t1 := kept5 hG hbw t1
      replace u0 := kept5 hG hb2 u0
      replace u1 := kept5 hG hb2 u1
      have HM : Hid (∀ e ∈ o.after, Region.binds .any e = true → _) := hpre
      clear hG hpre
      have hc : i = 0 ∨ i = 1 ∨ i = 2 ∨ i = 3 ∨ i = 4 ∨ i = 5 ∨ i = 6 ∨ i = 7 ∨ i = 8 ∨ i = 9 ∨ i = 10 ∨ i = 11 ∨ i = 12 ∨ i = 13 ∨ i = 14 ∨ i = 15 ∨ i = 16 ∨ i = 17 ∨ i = 18 ∨ i = 19 ∨ i = 20 ∨ i = 21 ∨ i = 22 ∨ i = 23 := by omega
      clear hi
      rcases hc with rfl | rfl | rfl | rfl | rfl | rfl | rfl | rfl | rfl | rfl | rfl | rfl | rfl | rfl | rfl | rfl | rfl | rfl | rfl | rfl | rfl | rfl | rfl | rfl
      ·obtain rfl := Option.some.inj ho
       refine wpOp_hid rfl fun K HK => ?_
       clear ho HM
       dsimp only
       go_simp
       exact HK.out _ _ ⟨Value.string o2, by simp [upd], HG.out, rfl, fun k u hu => hu⟩
      ·obtain rfl := Option.some.inj ho
       refine wpOp_hid rfl fun K HK => ?_
       clear ho HM
       dsimp only
       go_simp
       exact HK.out _ _ ⟨Value.slice (some { block := b, off := off }) rs.length cap, by simp [upd], HG.out, rfl, fun k u hu => hu⟩
      ·obtain rfl := Option.some.inj ho
       refine wpOp_hid rfl fun K HK => ?_
       clear ho HM
       dsimp only
       go_simp
       exact HK.out _ _ ⟨Value.int IntKind.i64 (k : Int), by simp [upd], HG.out, rfl, fun k u hu => hu⟩
      ·obtain rfl := Option.some.inj ho
       have e1 : fq 1 = Value.slice (some { block := b, off := off }) rs.length cap := HM.out ⟨1, .data⟩ (by simp) rfl
       have e2 : fq 2 = Value.int IntKind.i64 (k : Int) := HM.out ⟨2, .data⟩ (by simp) rfl
       refine wpOp_hid rfl fun K HK => ?_
       clear ho HM
       simp only [e1, e2]
       go_simp
       exact HK.out _ _ ⟨Value.pointer (some ⟨b, off + k * 2, none⟩), by simp [upd, e1, e2], HG.out, rfl, fun k u hu => hu⟩
      ·obtain rfl := Option.some.inj ho
       have e3 : fq 3 = Value.pointer (some ⟨b, off + k * 2, none⟩) := HM.out ⟨3, .data⟩ (by simp) rfl
       refine wpOp_hid rfl fun K HK => ?_
       clear ho HM
       simp only [e3]
       go_simp
       exact HK.out _ _ ⟨Value.pointer (some ⟨b, off + k * 2 + 1, none⟩), by simp [upd, e3], HG.out, rfl, fun k u hu => hu⟩
      ·obtain rfl := Option.some.inj ho
       have e4 : fq 4 = Value.pointer (some ⟨b, off + k * 2 + 1, none⟩) := HM.out ⟨4, .data⟩ (by simp) rfl
       refine wpOp_hid rfl fun K HK => ?_
       clear ho HM
       simp only [e4]
       go_simp
       exact HK.out _ _ ⟨Value.slice (some ⟨b2, off2, none⟩) rs[k].rows.length rs[k].cap, by simp [upd, e4], HG.out, rfl, fun k u hu => hu⟩
      ·obtain rfl := Option.some.inj ho
       refine wpOp_hid rfl fun K HK => ?_
       clear ho HM
       dsimp only
       go_simp
       exact HK.out _ _ ⟨Value.int IntKind.i64 (j : Int), by simp [upd], HG.out, rfl, fun k u hu => hu⟩
      ·obtain rfl := Option.some.inj ho
       have e5 : fq 5 = Value.slice (some ⟨b2, off2, none⟩) rs[k].rows.length rs[k].cap := HM.out ⟨5, .data⟩ (by simp) rfl
       have e6 : fq 6 = Value.int IntKind.i64 (j : Int) := HM.out ⟨6, .data⟩ (by simp) rfl
       refine wpOp_hid rfl fun K HK => ?_
       clear ho HM
       simp only [e5, e6]
       go_simp
       exact HK.out _ _ ⟨Value.pointer (some ⟨b2, off2 + j * 2, none⟩), by simp [upd, e5, e6], HG.out, rfl, fun k u hu => hu⟩
      ·obtain rfl := Option.some.inj ho
       have e7 : fq 7 = Value.pointer (some ⟨b2, off2 + j * 2, none⟩) := HM.out ⟨7, .data⟩ (by simp) rfl
       refine wpOp_hid rfl fun K HK => ?_
       clear ho HM
       simp only [e7]
       go_simp
       exact HK.out _ _ ⟨Value.pointer (some ⟨b2, off2 + j * 2, none⟩), by simp [upd, e7], HG.out, rfl, fun k u hu => hu⟩
      ·obtain rfl := Option.some.inj ho
       have e8 : fq 8 = Value.pointer (some ⟨b2, off2 + j * 2, none⟩) := HM.out ⟨8, .data⟩ (by simp) rfl
       refine wpOp_hid rfl fun K HK => ?_
       clear ho HM
       simp only [e8]
       go_simp
       exact HK.out _ _ ⟨Value.string rs[k].rows[j].name, by simp [upd, e8], HG.out, rfl, fun k u hu => hu⟩
      ·obtain rfl := Option.some.inj ho
       have e0 : fq 0 = Value.string o2 := HM.out ⟨0, .data⟩ (by simp) rfl
       have e9 : fq 9 = Value.string rs[k].rows[j].name := HM.out ⟨9, .data⟩ (by simp) rfl
       refine wpOp_hid rfl fun K HK => ?_
       clear ho HM
       simp only [e0, e9]
       go_simp
       exact HK.out _ _ ⟨Value.string (o2 ++ rs[k].rows[j].name), by simp [upd, e0, e9], HG.out, rfl, fun k u hu => hu⟩
      ·obtain rfl := Option.some.inj ho
       have e10 : fq 10 = Value.string (o2 ++ rs[k].rows[j].name) := HM.out ⟨10, .data⟩ (by simp) rfl
       refine wpOp_hid rfl fun K HK => ?_
       clear ho HM
       simp only [e10]
       go_simp
       exact HK.out _ _ ⟨Value.string ((o2 ++ rs[k].rows[j].name) ++ ⟨#[32, 61, 32]⟩), by simp [upd, e10], HG.out, rfl, fun k u hu => hu⟩
      ·obtain rfl := Option.some.inj ho
       refine wpOp_hid rfl fun K HK => ?_
       clear ho HM
       dsimp only
       go_simp
       exact HK.out _ _ ⟨Value.slice (some { block := b, off := off }) rs.length cap, by simp [upd], HG.out, rfl, fun k u hu => hu⟩
      ·obtain rfl := Option.some.inj ho
       refine wpOp_hid rfl fun K HK => ?_
       clear ho HM
       dsimp only
       go_simp
       exact HK.out _ _ ⟨Value.int IntKind.i64 (k : Int), by simp [upd], HG.out, rfl, fun k u hu => hu⟩
      ·obtain rfl := Option.some.inj ho
       have e12 : fq 12 = Value.slice (some { block := b, off := off }) rs.length cap := HM.out ⟨12, .data⟩ (by simp) rfl
       have e13 : fq 13 = Value.int IntKind.i64 (k : Int) := HM.out ⟨13, .data⟩ (by simp) rfl
       refine wpOp_hid rfl fun K HK => ?_
       clear ho HM
       simp only [e12, e13]
       go_simp
       exact HK.out _ _ ⟨Value.pointer (some ⟨b, off + k * 2, none⟩), by simp [upd, e12, e13], HG.out, rfl, fun k u hu => hu⟩
      ·obtain rfl := Option.some.inj ho
       have e14 : fq 14 = Value.pointer (some ⟨b, off + k * 2, none⟩) := HM.out ⟨14, .data⟩ (by simp) rfl
       refine wpOp_hid rfl fun K HK => ?_
       clear ho HM
       simp only [e14]
       go_simp
       exact HK.out _ _ ⟨Value.pointer (some ⟨b, off + k * 2 + 1, none⟩), by simp [upd, e14], HG.out, rfl, fun k u hu => hu⟩
      ·obtain rfl := Option.some.inj ho
       have e15 : fq 15 = Value.pointer (some ⟨b, off + k * 2 + 1, none⟩) := HM.out ⟨15, .data⟩ (by simp) rfl
       refine wpOp_hid rfl fun K HK => ?_
       clear ho HM
       simp only [e15]
       go_simp
       exact HK.out _ _ ⟨Value.slice (some ⟨b2, off2, none⟩) rs[k].rows.length rs[k].cap, by simp [upd, e15], HG.out, rfl, fun k u hu => hu⟩
      ·obtain rfl := Option.some.inj ho
       refine wpOp_hid rfl fun K HK => ?_
       clear ho HM
       dsimp only
       go_simp
       exact HK.out _ _ ⟨Value.int IntKind.i64 (j : Int), by simp [upd], HG.out, rfl, fun k u hu => hu⟩
      ·obtain rfl := Option.some.inj ho
       have e16 : fq 16 = Value.slice (some ⟨b2, off2, none⟩) rs[k].rows.length rs[k].cap := HM.out ⟨16, .data⟩ (by simp) rfl
       have e17 : fq 17 = Value.int IntKind.i64 (j : Int) := HM.out ⟨17, .data⟩ (by simp) rfl
       refine wpOp_hid rfl fun K HK => ?_
       clear ho HM
       simp only [e16, e17]
       go_simp
       exact HK.out _ _ ⟨Value.pointer (some ⟨b2, off2 + j * 2, none⟩), by simp [upd, e16, e17], HG.out, rfl, fun k u hu => hu⟩
      ·obtain rfl := Option.some.inj ho
       have e18 : fq 18 = Value.pointer (some ⟨b2, off2 + j * 2, none⟩) := HM.out ⟨18, .data⟩ (by simp) rfl
       refine wpOp_hid rfl fun K HK => ?_
       clear ho HM
       simp only [e18]
       go_simp
       exact HK.out _ _ ⟨Value.pointer (some ⟨b2, off2 + j * 2 + 1, none⟩), by simp [upd, e18], HG.out, rfl, fun k u hu => hu⟩
      ·obtain rfl := Option.some.inj ho
       have e19 : fq 19 = Value.pointer (some ⟨b2, off2 + j * 2 + 1, none⟩) := HM.out ⟨19, .data⟩ (by simp) rfl
       refine wpOp_hid rfl fun K HK => ?_
       clear ho HM
       simp only [e19]
       go_simp
       exact HK.out _ _ ⟨Value.slice rs[k].rows[j].ad rs[k].rows[j].rows.length rs[k].rows[j].cap, by simp [upd, e19], HG.out, rfl, fun k u hu => hu⟩
      ·obtain rfl := Option.some.inj ho
       have e20 : fq 20 = Value.slice rs[k].rows[j].ad rs[k].rows[j].rows.length rs[k].rows[j].cap := HM.out ⟨20, .data⟩ (by simp) rfl
       refine wpOp_hid rfl fun K HK => ?_
       clear ho HM
       simp only [e20]
       go_simp
       refine (specExprText_any _ _ rs[k].rows[j].rows _ HQL.out.1 HQL.out.2 HQF.out.2.2 (HOQ.out.below HG.out)).mono ?_
       rintro e w5 ⟨rfl, hb5⟩
       have HG5 : Hid (Below wr.heap.size wr w5) := HG.out.trans (hb5.mono HG.out.size)
       rw [← HEX.out]
       clear hb5
       go_wp2_with fail
       exact HK.out _ _ ⟨Value.string ex, by simp [upd, e20], HG5.out, rfl, fun k u hu => hu⟩
      ·obtain rfl := Option.some.inj ho
       have e11 : fq 11 = Value.string ((o2 ++ rs[k].rows[j].name) ++ ⟨#[32, 61, 32]⟩) := HM.out ⟨11, .data⟩ (by simp) rfl
       have e21 : fq 21 = Value.string ex := HM.out ⟨21, .data⟩ (by simp) rfl
       refine wpOp_hid rfl fun K HK => ?_
       clear ho HM
       simp only [e11, e21]
       go_simp
       exact HK.out _ _ ⟨Value.string (((o2 ++ rs[k].rows[j].name) ++ ⟨#[32, 61, 32]⟩) ++ ex), by simp [upd, e11, e21], HG.out, rfl, fun k u hu => hu⟩
      ·obtain rfl := Option.some.inj ho
       have e22 : fq 22 = Value.string (((o2 ++ rs[k].rows[j].name) ++ ⟨#[32, 61, 32]⟩) ++ ex) := HM.out ⟨22, .data⟩ (by simp) rfl
       refine wpOp_hid rfl fun K HK => ?_
       clear ho HM
       simp only [e22]
       go_simp
       exact HK.out _ _ ⟨Value.string ((((o2 ++ rs[k].rows[j].name) ++ ⟨#[32, 61, 32]⟩) ++ ex) ++ ⟨#[10]⟩), by simp [upd, e22], HG.out, rfl, fun k u hu => hu⟩
     case finS =>
      rintro o ho fq w' hG hall
      have e23 : fq 23 = Value.string ((((o2 ++ rs[k].rows[j].name) ++ ⟨#[32, 61, 32]⟩) ++ ex) ++ ⟨#[10]⟩) := hall 23 (by omega)
      have HG : Hid (Below wr.heap.size wr w') := hG
      clear hG hall
      obtain rfl := Option.some.inj ho
      clear ho
      refine wpOp_step rfl (fun K hK => ?_)
      have HK : Hid (∀ a w, _ → K a w) := hK
      clear hK
      simp only [e23]
      go_simp
      refine HK.out _ _ ?_
      clear HK
      have HB3 : Hid (Below wo.heap.size wo w') := HB2.out.trans (HG.out.mono HB2.out.size)
      go_wp2
      go_roundw
      case rel => exact ⟨j + 1, _, by omega, rfl, by go_num, HI2, HZ3.out, HB3⟩
      case measure => first | (simp [intOf]; done) | (simp [intOf]; omega)
    ·obtain rfl : j = rs[k].rows.length := by omega
     have HP2 : Hid (o2 = schTx (tys (rs.take (k + 1)))) := by
      show _ = _
      rw [HI.out, tys_takeS _ _ hlt, schTx_snoc, HP.out, List.take_length, ByteArray.append_assoc]
     have hz4 : o2.size ≤ (k + 1) * 5100000 := by omega
     have HB3 : Hid (Below w.heap.size w wr) := HB.out.trans (HB2.out.mono HB.out.size)
     go_wp2
     go_roundw
     case rel => exact ⟨k + 1, o2, by omega, rfl, by go_num, HP2, hz4, HB3⟩
     case measure => first | (simp [intOf]; done) | (simp [intOf]; omega)
  ·obtain rfl : k = rs.length := by omega
   have HN : Hid (out = schTx (tys rs)) := by show _ = _; rw [HP.out, List.take_length]
   go_wp2
   go_ret
   exact ⟨by rw [HN.out]; rfl, HB.out⟩
end Go.Proofs.YtkpefjefodkddaaGreat
namespace Go.Proofs.YtkpefjefodkddaaGreat
open Go.ChangeShapes Go.WideShapes Go.ChangeAt Go.RowKit
open Pl
theorem ret_cut {a b a' b' : ByteArray} {f f' : Bool} (ha : a = a') (hb : b = b') (hf : f = f') : Ending.returned (.tuple #[.string a, .string b, .bool f]) = .returned (.tuple #[.string a', .string b', .bool f']) := by rw [ha, hb, hf]
set_option maxHeartbeats 1000000 in
theorem l1Cut_any (s : ByteArray) (c : UInt8) (w : World) (hs : s.size ≤ maxLen) :
  Calls Tryz.prog 101 #[.string s, .int .u8 c.toNat] w fun e w' => e = .returned (.tuple #[.string (cutA c s), .string (cutZ c s), .bool (cutF c s)]) ∧ ∃ n, w' = w.drewN n := by
 unfold maxLen at hs
 go_enter Tryz.func101, Tryz.ntmps101
 go_wp2
 go_loop [7] (fun i => ∃ k : Nat, k ≤ s.size ∧ i = .int .i64 k ∧ Hid (noB c s k)) (fun i => s.size - (intOf i).toNat)
 case atStart => exact ⟨0, Nat.zero_le _, rfl, noB_zero _ _⟩
 case round =>
  obtain ⟨k, hk, rfl, hu⟩ := hrel
  by_cases hlt : k < s.size
  ·by_cases hc : s[k] = c
   ·have HC : Hid (cutL c s.data.toList = _) := cut_at hlt hu.out hc
    have hcb : ((s[k].toNat : Int) == (c.toNat : Int)) = true := by simp [hc]
    have hk1 : (0 : Int) ≤ (k : Int) := by omega
    have hk2 : (k : Int) ≤ (s.size : Int) := by omega
    have hk3 : (k : Int) + 1 ≤ (s.size : Int) := by omega
    clear hc
    go_wp2
    go_quiet (fail)
    go_wp2
    go_ret3
    refine ⟨ret_cut (ext_data ?_) (ext_data ?_) (by simp [cutF, HC.out]), nq, rfl⟩
    ·rw [Lib.extract_data]; simp [cutA, HC.out]
    ·rw [Lib.extract_to_end]; simp [cutZ, HC.out]
   ·have HU : Hid (noB c s (k + 1)) := noB_succ hlt hu.out hc
    have hcb : ((s[k].toNat : Int) == (c.toNat : Int)) = false := by
     simp; intro h; exact hc (UInt8.toNat_inj.mp (by omega))
    clear hc
    go_wp2
    go_round
    case rel => exact ⟨k + 1, by omega, by go_num, HU⟩
    case measure => simp [intOf]; omega
  ·have HC : Hid (cutL c s.data.toList = _) := cut_none (Nat.le_of_not_lt hlt) hu.out
   go_wp2
   go_ret3
   exact ⟨ret_cut (by simp [cutA, HC.out]) (by simp [cutZ, HC.out]) (by simp [cutF, HC.out]), 0, rfl⟩
end Go.Proofs.YtkpefjefodkddaaGreat
