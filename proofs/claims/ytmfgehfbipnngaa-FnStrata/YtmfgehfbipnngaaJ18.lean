/- A slice of bytes that came in, and the reader that is opened over it. -/
import Derived.Test.YtmfgehfbipnngaaDrawTuple
import Derived.ChangeSlices
import Derived.Deep.Slices
import Derived.Test.YtmfgehfbipnngaaDrawSch
import Derived.Test.YtmfgehfbipnngaaJ7
namespace Go.Proofs.Ytmfgehfbipnngaa
open Go.ChangeShapes Go.WideShapes Go.ChangeAt Go.RowKit
open Pl
def Bytes (w : World) (ad : Option Addr) (len : Nat) : Prop := len ≤ maxLen ∧ (0 < len → ∃ b off, ad = some ⟨b, off, none⟩ ∧ b < w.heap.size ∧ ∀ i, i < len → ∃ c : Int, 0 ≤ c ∧ c ≤ 255 ∧ w.cell? ⟨b, off + i, none⟩ = some (.int .u8 c))
theorem Bytes.below {w w' : World} {ad : Option Addr} {len : Nat} (h : Bytes w ad len) (hb : Below w.heap.size w w') : Bytes w' ad len := by
 refine ⟨h.1, fun h0 => ?_⟩
 obtain ⟨b, off, e, hbl, hc⟩ := h.2 h0
 refine ⟨b, off, e, Nat.lt_of_lt_of_le hbl hb.size, fun i hi => ?_⟩
 obtain ⟨c, c0, c1, hcc⟩ := hc i hi
 exact ⟨c, c0, c1, by rw [hb.cell (p := ⟨b, off + i, none⟩) hbl]; exact hcc⟩
theorem open_bytes {H : Type} {enc : TypeId × Value → H} {W : World} {base : Nat} {sp : Nat → Bool} {held : Bool} {fuel : Nat} {ad : Option Addr} {len cap : Nat} {x : DataW H × List MemPlace}
  (h : DataW.trod enc Try.prog W base sp held fuel 22 [.slice ad len cap] = some x) : Bytes W ad len := by
 rcases open_ints Try.underlying22 Try.underlying5 (by kernel_rfl) h with ⟨hcs, -⟩ | ⟨a, l, c, zs, hcs, -, hlc, hcm, hm, -, hel, hwf⟩
 ·simp at hcs
  obtain ⟨rfl, rfl, rfl⟩ := hcs
  exact ⟨by unfold maxLen; omega, fun h0 => by omega⟩
 ·simp at hcs
  obtain ⟨rfl, rfl, rfl⟩ := hcs
  have hle : len ≤ zs.length := by rw [hm]; split <;> omega
  refine ⟨by omega, fun h0 => ?_⟩
  have hspot : a.spot = none := by
   have := hel 0 (by omega)
   have e : a.add 0 = a := by simp [Addr.add]
   rw [e] at this
   exact World.cell?_spot this
  obtain ⟨b, off, spot⟩ := a
  simp only at hspot
  subst hspot
  have add0 : ∀ x : Nat, (⟨b, off, none⟩ : Addr).add x = ⟨b, off + x, none⟩ := fun x => by
   unfold Addr.add
   by_cases h : x = 0
   ·subst h; simp
   ·simp [h]
  refine ⟨b, off, rfl, ?_, fun i hi => ?_⟩
  ·have := hel 0 (by omega)
   rw [add0] at this
   exact World.block_lt_of_cell? W ⟨b, off + 0, none⟩ this
  ·have h1 := hel i (by omega)
   rw [add0] at h1
   have h2 := hwf (zs.getD i 0) (by rw [List.getD_eq_getElem?_getD, List.getElem?_eq_getElem (by omega)]; simp)
   have h3 : IntKind.u8.min ≤ zs.getD i 0 ∧ zs.getD i 0 ≤ IntKind.u8.max := by simpa only [Lit.wf, Bool.and_eq_true, decide_eq_true_eq] using h2
   have e1 : IntKind.u8.min = 0 := by decide
   have e2 : IntKind.u8.max = 255 := by decide
   rw [e1, e2] at h3
   exact ⟨_, h3.1, h3.2, h1⟩
theorem rd_new {w : World} {ad : Option Addr} {len cap : Nat} {t : TypeId} (h : Bytes w ad len) : Rd (w.alloc (.cells #[.slice ad len cap, .int .i64 0] t)) w.heap.size ad len cap where
 lt := by simp
 code := by simp
 place := ⟨0, by simp, by omega⟩
 free := by simp
 bytes h0 := by
  obtain ⟨b, off, e, hbl, hc⟩ := h.2 h0
  refine ⟨b, off, e, by omega, by simp; omega, fun i hi => ?_⟩
  obtain ⟨c, c0, c1, hcc⟩ := hc i hi
  exact ⟨c, c0, c1, cell_al hcc _⟩
 small := h.1
theorem open_any (ad : Option Addr) (len cap : Nat) (w : World) (h : Bytes w ad len) :
  Calls Try.prog 30 #[.slice ad len cap] w fun e w' => e = .returned (.pointer (some ⟨w.heap.size, 0, none⟩)) ∧ Rd w' w.heap.size ad len cap ∧ Below w.heap.size w w' := by
 have H : Hid (Bytes w ad len) := h
 clear h
 go_enter Try.func30, Try.ntmps30
 go_wp2
 go_ret
 exact ⟨rfl, rd_new H.out, (Below.refl _ _).alloc (Nat.le_refl _) _⟩
theorem big_any (ad : Option Addr) (len cap : Nat) (w : World) :
  Calls Try.prog 8 #[.slice ad len cap] w fun e w' => e = .returned (.bool (decide ((1048576 : Int) < (len : Int)))) ∧ w' = w := by
 go_enter Try.func8, Try.ntmps8
 go_wp2
 go_ret
 exact ⟨rfl, rfl⟩
end Go.Proofs.Ytmfgehfbipnngaa
namespace Go.Proofs.Ytmfgehfbipnngaa
set_option maxRecDepth 100000
set_option linter.unusedVariables false
open Go.ChangeShapes Go.WideShapes Go.ChangeAt Go.RowKit
open Pl
theorem TypM.only {wc wd : World} {R base : Nat} {v : Value} {rs : List TR} (h : TypM wc base v rs) (hR : R < base) (ho : Only R wc wd) : TypM wd base v rs :=
 h.heap kidT ho.size fun g hg => ho.block g (h.lt kidT hg).2 (fun e => by injection e with e; have := (h.lt kidT hg).1; omega)
end Go.Proofs.Ytmfgehfbipnngaa
namespace Go.Proofs.Ytmfgehfbipnngaa
open Go.RowKit
section
variable {P : Program} {ops : Array Oper} {Q : Exit → Act → World → Prop}
theorem wp_region_allB {id : Nat} {a : Act} {w : World} (N : Nat) (f0 : Nat → Value) (F : (Nat → Value) → Act) (V : Nat → Value → World → Prop) (G : World → Prop)
  (hm : P.follows .mixedOrders = true) (hsz : ops.size = N) (hord : ordOkB ops = true)
  (h0 : a = F f0) (hG0 : G w.drew)
  (hstep : ∀ i, i < N → ∀ o, ops[i]? = some o → ∀ f w', G w' → (∀ e ∈ o.after, Region.binds .any e = true → V e.on (f e.on) w') →
   wpOp P ops Q i (fun a' w'' => ∃ v, a' = F (upd f i v) ∧ G w'' ∧ V i v w'' ∧ ∀ k u, V k u w' → V k u w'') (F f) w')
  (hend : ∀ f w', G w' → (∀ k, k < N → V k (f k) w') → Q .normal (F f) w') :
  (Code.region id ops true).wp P Q a w := by
 refine wp_region_inv (fun listed a' w' => listed.size = N ∧ ∃ f, a' = F f ∧ G w' ∧ ∀ k, k < N → listed.getD k false = true → V k (f k) w') hm ?_ ?_ ?_
 ·refine ⟨by simpa using hsz, _, h0, hG0, fun k _ h => ?_⟩
  rw [Array.getD_eq_getD_getElem?, Array.getElem?_replicate] at h; split at h <;> cases h
 ·rintro listed a' w' ⟨hs, f, rfl, hG, hV⟩ i hi
  obtain ⟨hl, o, ho, hpre⟩ := mem_ready.1 hi
  have hiN : i < N := by have := (Array.getElem?_eq_some_iff.1 ho).1; omega
  refine wpOp_mono ?_ (hstep i hiN o ho f w' hG (fun e he hb => hV e.on (by have := ordOkB_of hord i o ho e he hb; omega) (hpre e he hb)))
  rintro a'' w'' ⟨v, rfl, hG', hv, hmono⟩
  refine ⟨by simpa using hs, _, rfl, hG', fun k hk hkl => ?_⟩
  rw [getF_set' _ _ _ (by omega)] at hkl
  by_cases ek : k = i
  ·subst ek; simpa [upd] using hv
  ·rw [if_neg ek] at hkl
   simp only [upd, if_neg ek]
   exact hmono _ _ (hV k hk hkl)
 ·rintro listed a' w' ⟨hs, f, rfl, hG, hV⟩ hr
  refine hend f w' hG fun k hk => hV k hk ?_
  have := all_listedB hr hsz (ordOkB_of hord) hs k hk
  rwa [getTF (by omega)] at this
end
end Go.Proofs.Ytmfgehfbipnngaa
namespace Go.Proofs.Ytmfgehfbipnngaa
set_option maxRecDepth 100000
set_option linter.unusedVariables false
open Go.ChangeShapes Go.WideShapes Go.ChangeAt Go.RowKit
open Pl
def okD (R : Nat) (sv : Value) (w : World) (v : Value) : Nat × Nat → Prop
 | (0, n) => ∃ g, v = .slice (some ⟨g, 0, none⟩) n n ∧ StrB w R g n 70
 | (1, _) => v = .pointer (some ⟨R, 0, none⟩)
 | (2, n) => ∃ x : Nat, v = .int .i64 (x : Int) ∧ x < n
 | (3, n) => ∃ g x, v = .pointer (some ⟨g, x, none⟩) ∧ x < n ∧ StrB w R g n 70
 | (4, n) => ∃ t : ByteArray, v = .string t ∧ t.size ≤ n
 | (_, _) => v = sv
theorem okD.only {R : Nat} {sv : Value} {w w' : World} {v : Value} (h : Only R w w') (k : Nat × Nat) (hk : okD R sv w v k) : okD R sv w' v k := by
 match k, hk with
 | (0, n), hk => obtain ⟨g, e, hs⟩ := hk; exact ⟨g, e, hs.only h⟩
 | (1, n), hk => exact hk
 | (2, n), hk => exact hk
 | (3, n), hk => obtain ⟨g, x, e, hx, hs⟩ := hk; exact ⟨g, x, e, hx, hs.only h⟩
 | (4, n), hk => exact hk
 | (n + 5, m), hk => exact hk
def ksD : List (Nat × Nat) := [(5, 0), (0, 3), (1, 0), (2, 3), (3, 3), (4, 70), (0, 5), (1, 0), (2, 5), (3, 5), (4, 70), (5, 0), (4, 70), (4, 70)]
set_option maxHeartbeats 4000000 in
theorem drawStrat_any (ad : Option Addr) (len cap : Nat) (w : World) (h : Bytes w ad len) :
  Calls Try.prog 9 #[.slice ad len cap] w fun e w' => ∃ (v : Value) (rs : List TR) (ty n : ByteArray), e = .returned (.tuple #[v, .string ty, .string n]) ∧ (ty.size ≤ 70 ∧ n.size ≤ 70) ∧ TypM w' w.heap.size v rs ∧ GoodS rs ∧ Below w.heap.size w w' := by
 have H : Hid (Bytes w ad len) := h
 clear h
 go_enter Try.func9, Try.ntmps9
 go_wp2_with fail
 refine (open_any ad len cap _ H.out).mono ?_
 rintro e w1 ⟨rfl, hR1, hb1⟩
 have HB1 : Hid (Below w.heap.size w w1) := hb1
 have HR1 : Hid (Rd w1 w.heap.size ad len cap) := hR1
 clear hR1 hb1
 go_wp2_with fail
 refine (schema_any w.heap.size ad len cap _ HR1.out).mono ?_
 rintro e w2 ⟨sv, rs, rfl, hT2, hG, hR2, hO2⟩
 have hb := HR1.out.lt
 have HR2 : Hid (Rd w2 w.heap.size ad len cap) := hR2
 have HB2 : Hid (Below w.heap.size w w2) := Only.toBelow HB1.out hO2 HB1.out.size (by omega)
 have HT2 : Hid (TypM w2 w1.heap.size sv rs) := hT2
 have HG : Hid (GoodS rs) := hG
 clear hT2 hG hR2 hO2 HB1 HR1
 go_wp2_with fail
 refine wp_region_allB 14 (fun k => if k = 11 then .slice none 0 0 else if k = 12 then .string ⟨#[]⟩ else if k = 13 then .string ⟨#[]⟩ else undef) (fun f => { tmps := List.toArray (Value.slice ad len cap :: undef :: f 11 :: f 12 :: f 13 :: Value.pointer (some ⟨w.heap.size, 0, none⟩) :: sv :: Value.slice ad len cap :: Value.pointer (some ⟨w.heap.size, 0, none⟩) :: Value.pointer (some ⟨w.heap.size, 0, none⟩) :: sv :: f 0 :: f 1 :: f 2 :: f 3 :: f 4 :: f 5 :: f 6 :: f 7 :: f 8 :: f 9 :: f 10 :: []), defers := [] }) (fun k v w' => okD w.heap.size sv w' v (ksD.getD k (9, 0))) (fun w' => Rd w' w.heap.size ad len cap ∧ Only w.heap.size w2 w') (by kernel_rfl) rfl (by kernel_rfl) rfl ⟨HR2.out.below ((Below.refl _ _).drew), (Only.refl w.heap.size w2).drewN 1⟩ ?step ?fin
 case step =>
  rintro i hi o ho f w' ⟨hR', hO'⟩ hpre
  have HR : Hid (Rd w' w.heap.size ad len cap) := hR'
  have HO : Hid (Only w.heap.size w2 w') := hO'
  have hRl : w.heap.size < w'.heap.size := hR'.lt
  have HM : Hid (∀ e ∈ o.after, Region.binds .any e = true → _) := hpre
  clear hR' hO' hpre
  have hc : i = 0 ∨ i = 1 ∨ i = 2 ∨ i = 3 ∨ i = 4 ∨ i = 5 ∨ i = 6 ∨ i = 7 ∨ i = 8 ∨ i = 9 ∨ i = 10 ∨ i = 11 ∨ i = 12 ∨ i = 13 := by omega
  clear hi
  rcases hc with rfl | rfl | rfl | rfl | rfl | rfl | rfl | rfl | rfl | rfl | rfl | rfl | rfl | rfl
  ·obtain rfl := Option.some.inj ho
   refine wpOp_hid rfl fun K HK => ?_
   clear ho HM
   dsimp only
   go_simp
   exact HK.out _ _ ⟨sv, by simp [upd], ⟨HR.out, HO.out⟩, rfl, fun k u hu => hu⟩
  ·obtain rfl := Option.some.inj ho
   have K1 : Hid (Only w.heap.size w' (w'.alloc (.cells #[.string ⟨#[100, 111, 99]⟩, .string ⟨#[100, 111, 99]⟩, .string ⟨#[103, 114, 111, 117, 112]⟩] 9))) := (Only.refl w.heap.size w').alloc _
   refine wpOp_hid rfl fun K HK => ?_
   clear ho HM
   dsimp only
   go_simp
   exact HK.out _ _ ⟨.slice (some ⟨w'.heap.size, 0, none⟩) 3 3, by simp [upd], ⟨HR.out.alloc _, HO.out.alloc _⟩, ⟨_, rfl, strB_new w' w.heap.size 70 hRl (xs := [_, _, _]) (by decide)⟩, fun k u hu => okD.only K1.out _ hu⟩
  ·obtain rfl := Option.some.inj ho
   refine wpOp_hid rfl fun K HK => ?_
   clear ho HM
   dsimp only
   go_simp
   exact HK.out _ _ ⟨Value.pointer (some ⟨w.heap.size, 0, none⟩), by simp [upd], ⟨HR.out, HO.out⟩, rfl, fun k u hu => hu⟩
  ·obtain rfl := Option.some.inj ho
   have e1 : f 2 = Value.pointer (some ⟨w.heap.size, 0, none⟩) := HM.out ⟨2, .data⟩ (by simp) rfl
   refine wpOp_hid rfl fun K HK => ?_
   clear ho HM
   simp only [e1]
   go_simp
   refine (below_nat w.heap.size ad len cap 3 _ HR.out (by omega) (by omega)).mono ?_
   rintro e w5 ⟨⟨x, rfl, hx⟩, hR5, hO5⟩
   have HR5 := toH hR5
   have HO5 := toH hO5
   clear hR5 hO5
   go_wp2_with fail
   exact HK.out _ _ ⟨.int .i64 (x : Int), by simp [upd, e1], ⟨HR5.out, HO.out.trans HO5.out⟩, ⟨x, rfl, hx⟩, fun k u hu => okD.only HO5.out _ hu⟩
  ·obtain rfl := Option.some.inj ho
   obtain ⟨g, e1, hS⟩ := HM.out ⟨1, .data⟩ (by simp) rfl
   obtain ⟨x, e2, hx⟩ := HM.out ⟨3, .data⟩ (by simp) rfl
   replace e1 : f 1 = _ := e1
   replace e2 : f 3 = _ := e2
   have HS : Hid (StrB w' w.heap.size g 3 70) := hS
   clear hS
   have hx0 : (0 : Int) ≤ (x : Int) := by omega
   have hx1 : (x : Int) < 3 := by omega
   refine wpOp_hid rfl fun K HK => ?_
   clear ho HM
   simp only [e1, e2]
   go_simp
   exact HK.out _ _ ⟨.pointer (some ⟨g, x, none⟩), by simp [upd, e1, e2], ⟨HR.out, HO.out⟩, ⟨g, x, rfl, hx, HS.out⟩, fun k u hu => hu⟩
  ·obtain rfl := Option.some.inj ho
   obtain ⟨g, x, e1, hx, hS⟩ := HM.out ⟨4, .data⟩ (by simp) rfl
   replace e1 : f 4 = _ := e1
   obtain ⟨t, hcell, ht⟩ := hS.2.2 x hx
   clear hS
   refine wpOp_hid rfl fun K HK => ?_
   clear ho HM
   simp only [e1]
   go_simp
   exact HK.out _ _ ⟨.string t, by simp [upd, e1], ⟨HR.out, HO.out⟩, ⟨t, rfl, ht⟩, fun k u hu => hu⟩
  ·obtain rfl := Option.some.inj ho
   have K1 : Hid (Only w.heap.size w' (w'.alloc (.cells #[.string ⟨#[118, 105, 101, 119, 101, 114]⟩, .string ⟨#[98, 97, 110, 110, 101, 100]⟩, .string ⟨#[109, 101, 109, 98, 101, 114]⟩, .string ⟨#[101, 100, 105, 116, 111, 114]⟩, .string ⟨#[110, 111, 110, 101]⟩] 9))) := (Only.refl w.heap.size w').alloc _
   refine wpOp_hid rfl fun K HK => ?_
   clear ho HM
   dsimp only
   go_simp
   exact HK.out _ _ ⟨.slice (some ⟨w'.heap.size, 0, none⟩) 5 5, by simp [upd], ⟨HR.out.alloc _, HO.out.alloc _⟩, ⟨_, rfl, strB_new w' w.heap.size 70 hRl (xs := [_, _, _, _, _]) (by decide)⟩, fun k u hu => okD.only K1.out _ hu⟩
  ·obtain rfl := Option.some.inj ho
   refine wpOp_hid rfl fun K HK => ?_
   clear ho HM
   dsimp only
   go_simp
   exact HK.out _ _ ⟨Value.pointer (some ⟨w.heap.size, 0, none⟩), by simp [upd], ⟨HR.out, HO.out⟩, rfl, fun k u hu => hu⟩
  ·obtain rfl := Option.some.inj ho
   have e1 : f 7 = Value.pointer (some ⟨w.heap.size, 0, none⟩) := HM.out ⟨7, .data⟩ (by simp) rfl
   refine wpOp_hid rfl fun K HK => ?_
   clear ho HM
   simp only [e1]
   go_simp
   refine (below_nat w.heap.size ad len cap 5 _ HR.out (by omega) (by omega)).mono ?_
   rintro e w5 ⟨⟨x, rfl, hx⟩, hR5, hO5⟩
   have HR5 := toH hR5
   have HO5 := toH hO5
   clear hR5 hO5
   go_wp2_with fail
   exact HK.out _ _ ⟨.int .i64 (x : Int), by simp [upd, e1], ⟨HR5.out, HO.out.trans HO5.out⟩, ⟨x, rfl, hx⟩, fun k u hu => okD.only HO5.out _ hu⟩
  ·obtain rfl := Option.some.inj ho
   obtain ⟨g, e1, hS⟩ := HM.out ⟨6, .data⟩ (by simp) rfl
   obtain ⟨x, e2, hx⟩ := HM.out ⟨8, .data⟩ (by simp) rfl
   replace e1 : f 6 = _ := e1
   replace e2 : f 8 = _ := e2
   have HS : Hid (StrB w' w.heap.size g 5 70) := hS
   clear hS
   have hx0 : (0 : Int) ≤ (x : Int) := by omega
   have hx1 : (x : Int) < 5 := by omega
   refine wpOp_hid rfl fun K HK => ?_
   clear ho HM
   simp only [e1, e2]
   go_simp
   exact HK.out _ _ ⟨.pointer (some ⟨g, x, none⟩), by simp [upd, e1, e2], ⟨HR.out, HO.out⟩, ⟨g, x, rfl, hx, HS.out⟩, fun k u hu => hu⟩
  ·obtain rfl := Option.some.inj ho
   obtain ⟨g, x, e1, hx, hS⟩ := HM.out ⟨9, .data⟩ (by simp) rfl
   replace e1 : f 9 = _ := e1
   obtain ⟨t, hcell, ht⟩ := hS.2.2 x hx
   clear hS
   refine wpOp_hid rfl fun K HK => ?_
   clear ho HM
   simp only [e1]
   go_simp
   exact HK.out _ _ ⟨.string t, by simp [upd, e1], ⟨HR.out, HO.out⟩, ⟨t, rfl, ht⟩, fun k u hu => hu⟩
  ·obtain rfl := Option.some.inj ho
   have e1 : f 0 = sv := HM.out ⟨0, .data⟩ (by simp) rfl
   refine wpOp_hid rfl fun K HK => ?_
   clear ho HM
   simp only [e1]
   go_simp
   exact HK.out _ _ ⟨sv, by simp [upd, e1], ⟨HR.out, HO.out⟩, rfl, fun k u hu => hu⟩
  ·obtain rfl := Option.some.inj ho
   obtain ⟨t, e1, ht⟩ := HM.out ⟨5, .data⟩ (by simp) rfl
   replace e1 : f 5 = _ := e1
   refine wpOp_hid rfl fun K HK => ?_
   clear ho HM
   simp only [e1]
   go_simp
   exact HK.out _ _ ⟨.string t, by simp [upd, e1], ⟨HR.out, HO.out⟩, ⟨t, rfl, ht⟩, fun k u hu => hu⟩
  ·obtain rfl := Option.some.inj ho
   obtain ⟨t, e1, ht⟩ := HM.out ⟨10, .data⟩ (by simp) rfl
   replace e1 : f 10 = _ := e1
   refine wpOp_hid rfl fun K HK => ?_
   clear ho HM
   simp only [e1]
   go_simp
   exact HK.out _ _ ⟨.string t, by simp [upd, e1], ⟨HR.out, HO.out⟩, ⟨t, rfl, ht⟩, fun k u hu => hu⟩
 case fin =>
  rintro f w3 ⟨hR3, hO3⟩ hall
  have e0 : f 11 = sv := hall 11 (by omega)
  obtain ⟨ty, e1, h1⟩ := hall 12 (by omega)
  obtain ⟨n, e2, h2⟩ := hall 13 (by omega)
  replace e1 : f 12 = _ := e1
  replace e2 : f 13 = _ := e2
  have HB3 : Hid (Below w.heap.size w w3) := Only.toBelow HB2.out hO3 HB2.out.size (by omega)
  have HT3 : Hid (TypM w3 w1.heap.size sv rs) := HT2.out.only hb hO3
  clear hall hR3 hO3
  simp only [e0, e1, e2]
  go_wp2
  exact bodyPost_ret (v := .tuple #[sv, .string ty, .string n]) (by simp [results, Try.results9, go_sem]) rfl ⟨sv, rs, ty, n, rfl, ⟨h1, h2⟩, LotM.lower HT3.out (by omega), HG.out, HB3.out⟩
end Go.Proofs.Ytmfgehfbipnngaa
