/- Contracts of the drawing's short bytes and of a text that is hurt: some short string. -/
import Derived.Test.YtjmbgpdbnffkpaaJ11
import Derived.Test.YtjmbgpdbnffkpaaRegionGen
import Derived.Laws.BytesString
import Derived.Laws.IdiomStrings
import Derived.OwnWalk
import Derived.Maps.AppendAt
namespace Go.Proofs.Ytjmbgpdbnffkpaa
open Go.ChangeShapes Go.WideShapes Go.ChangeAt Go.RowKit
open Pl

theorem below1_any (R : Nat) (ad : Option Addr) (len cap : Nat) (n : Int) (w : World) (h : Rd w R ad len cap) (h1 : 1 ≤ n) (h2 : n ≤ 256) :
    Calls Try.prog 44 #[.pointer (some ⟨R, 0, none⟩), .int .i64 n] w fun e w' => (∃ x : Int, e = .returned (.int .i64 x) ∧ 0 ≤ x ∧ x < n) ∧ Rd w' R ad len cap ∧ Only R w w' := by
  by_cases h3 : 2 ≤ n
  · exact below_any R ad len cap n w h h3 h2
  · obtain rfl : n = 1 := by omega
    have H : Hid (Rd w R ad len cap) := h
    clear h
    go_enter Try.func44, Try.ntmps44
    go_wp2
    go_ret
    exact ⟨⟨0, rfl, by omega, by omega⟩, H.out, Only.refl _ _⟩

/-- what is done to new blocks alone leaves the reader -/
theorem Rd.far {w a b : World} {R : Nat} {ad : Option Addr} {len cap : Nat} (h : Rd a R ad len cap) (H : Rd w R ad len cap) (hb : Below w.heap.size a b) : Rd b R ad len cap where
  lt := Nat.lt_of_lt_of_le h.lt hb.size
  code := by rw [hb.cell (p := ⟨R, 0, none⟩) H.lt]; exact h.code
  place := by obtain ⟨p, hp, hl⟩ := h.place; exact ⟨p, by rw [hb.cell (p := ⟨R, 1, none⟩) H.lt]; exact hp, hl⟩
  free := by rw [hb.frozen (p := ⟨R, 1, none⟩) H.lt]; exact h.free
  bytes h0 := by
    obtain ⟨g, off, e, hne, hgl, hc⟩ := h.bytes h0
    obtain ⟨g', off', e', -, hgl', -⟩ := H.bytes h0
    rw [e] at e'; injection e' with e'; injection e' with e1 e2
    subst e1
    refine ⟨g, off, e, hne, Nat.lt_of_lt_of_le hgl hb.size, fun i hi => ?_⟩
    obtain ⟨c, c0, c1, hcc⟩ := hc i hi
    exact ⟨c, c0, c1, by rw [hb.cell (p := ⟨g, off + i, none⟩) hgl']; exact hcc⟩
  small := h.small
theorem Only.far {R : Nat} {w a b : World} (h : Only R w a) (hb : Below w.heap.size a b) : Only R w b :=
  ⟨hb.os.trans h.os, hb.tape.trans h.tape, hb.output.trans h.output, Nat.le_trans h.size hb.size, fun i hi hr => (hb.block i hi).trans (h.block i hi hr)⟩

theorem info_u8 : (Try.prog.info? 5).map (fun i => (i.zero, i.size, i.bytes)) = some (some (.int .u8 0), 1, 1) := by kernel_rfl

def bv (b : UInt8) : Value := .int .u8 (b.toNat : Int)

set_option maxHeartbeats 2000000 in
theorem bytes_any (R : Nat) (ad : Option Addr) (len cap : Nat) (w : World) (h : Rd w R ad len cap) :
    Calls Try.prog 80 #[.pointer (some ⟨R, 0, none⟩), .int .i64 2] w fun e w' => (∃ s : ByteArray, e = .returned (.string s) ∧ s.size ≤ 2) ∧ Rd w' R ad len cap ∧ Only R w w' := by
  have H : Hid (Rd w R ad len cap) := h
  have hRw := h.lt
  clear h
  obtain ⟨i0, hi, hz0, hz1, hz2⟩ := info_parts info_u8
  go_enter Try.func80, Try.ntmps80
  go_wp2_with fail
  refine (below_any R ad len cap 3 _ (H.out.alloc _) (by omega) (by omega)).mono ?_
  rintro e w1 ⟨⟨x, rfl, hx0, hx1⟩, hR1, hO1⟩
  obtain ⟨x, rfl⟩ : ∃ y : Nat, x = (y : Int) := ⟨x.toNat, by omega⟩
  have hown1 : w1.ownsRow w.heap.size 5 1 (.slice (some ⟨w.heap.size, 0, none⟩) 0 0) 0 [] := (World.ownsRow_made w #[] 0 (Nat.le_refl _) (by decide) rfl).kept hO1 (.inr (by simp [Value.ownBlock]; omega))
  have HR1 : Hid (Rd w1 R ad len cap) := hR1
  have HO1 : Hid (Only R w w1) := ((Only.refl R w).alloc _).trans hO1
  clear hR1 hO1
  go_wp2_with fail
  go_loopw [5, 6] (fun v i wr => ∃ (k : Nat) (l : List UInt8) (g cp : Nat), v = .slice (some ⟨g, 0, none⟩) l.length cp ∧ i = .int .i64 k ∧ l.length + k ≤ 2 ∧ wr.ownsRow w.heap.size 5 1 (.slice (some ⟨g, 0, none⟩) l.length cp) l.length (l.map bv) ∧ Hid (Rd wr R ad len cap) ∧ Hid (Only R w wr)) (fun _ i _ => (intOf i).toNat)
  case atStart => exact ⟨x, [], _, _, rfl, rfl, by simp; omega, hown1, HR1, HO1⟩
  case round =>
    obtain ⟨k, l, g, cp, rfl, rfl, hk, hown, HR, HO⟩ := hrel
    by_cases hk0 : 0 < k
    · have hki : (0 : Int) < (k : Int) := by omega
      have hgB : w.heap.size ≤ g := (hown.lt g rfl).1
      go_wp2_with fail
      refine (below_any R ad len cap 256 _ HR.out (by omega) (by omega)).mono ?_
      rintro e w2 ⟨⟨y, rfl, hy0, hy1⟩, hR2, hO2⟩
      obtain ⟨y, rfl⟩ : ∃ z : Nat, y = (z : Int) := ⟨y.toNat, by omega⟩
      have hw : IntKind.u8.wrap (y : Int) = y := by rw [IntKind.wrap_u8]; omega
      have hown2 := hown.kept hO2 (.inr (by simp [Value.ownBlock]; omega))
      have HR2 : Hid (Rd w2 R ad len cap) := hR2
      have HO2 : Hid (Only R w w2) := HO.out.trans hO2
      have hs2 : w.heap.size ≤ w2.heap.size := HO2.out.size
      clear hR2 hO2 hown
      go_wp2_with (at_builtin; refine wpList_append_own _ rfl _ _ 28 rfl w.heap.size 5 i0 (.int .u8 0) 1 1 Try.underlying28 hi hz0 hz1 hz2 rfl (by decide) _ _ _ rfl (hown2.alloc _) ⟨w2.heap.size, 0, none⟩ 1 1 [.int .u8 (y : Int)] rfl rfl (cell_one_new _ _ _) (by intro u hu; simp at hu; subst hu; rfl) (by unfold maxLen; omega) (by omega) (by simp; omega) ?_)
      intro v' w3 hown3 hgrow hnil
      have hb3 : Below w.heap.size (w2.alloc (.cells #[.int .u8 (y : Int)] 5)) w3 := (Below.refl _ _).grown hgrow (by simp; omega) (fun i hi => by simp [Value.ownBlock] at hi; omega)
      have hb2 : Below w.heap.size w2 w3 := ((Below.refl _ w2).alloc hs2 _).trans hb3
      have HR3 : Hid (Rd w3 R ad len cap) := HR2.out.far H.out hb2
      have HO3 : Hid (Only R w w3) := HO2.out.far hb2
      obtain ⟨g3, cp3, rfl⟩ : ∃ g3 cp3, v' = .slice (some ⟨g3, 0, none⟩) (l.length + 1) cp3 := by
        rcases hown3.2 with ⟨rfl, -⟩ | ⟨g3, cp3, cur, rfl, -⟩
        · exact absurd rfl hnil
        · exact ⟨g3, cp3, rfl⟩
      have hown4 : w3.ownsRow w.heap.size 5 1 (.slice (some ⟨g3, 0, none⟩) (l ++ [UInt8.ofNat y]).length cp3) (l ++ [UInt8.ofNat y]).length ((l ++ [UInt8.ofNat y]).map bv) := by
        have e1 : bv (UInt8.ofNat y) = .int .u8 (y : Int) := by
          simp only [bv, UInt8.toNat_ofNat']
          rw [Nat.mod_eq_of_lt (by omega)]
        simpa [e1] using hown3
      clear hown3 hgrow hnil hb3 hb2 hown2 HR2 HO2
      go_wp2
      go_roundw
      case rel => exact ⟨k - 1, l ++ [UInt8.ofNat y], g3, cp3, by simp, by simp; omega, by simp; omega, hown4, HR3, HO3⟩
      case measure => simp [intOf]; omega
    · have hk1 : k = 0 := by omega
      subst hk1
      have hc := hown.cells (g := g) rfl
      have HCV : (convert 28 9 (.slice (some ⟨g, 0, none⟩) l.length cp)).run Try.prog wr = .ok (.string ⟨l.toArray⟩) wr :=
        run_convert_bytes_back wr 28 9 5 ⟨g, 0, none⟩ cp l Try.underlying28 Try.underlying5 Try.underlying9 (fun j hj => hc j _ (by simp [bv, hj]))
      clear hc
      go_wp2
      go_ret
      exact ⟨⟨_, rfl, by rw [size_list]; omega⟩, HR.out, HO.out⟩

/-- what kind of value an operation leaves; a longer string -/
structure Kh where
  s : Kd ⊕ Nat
abbrev Kh.kd (k : Kd) : Kh := ⟨.inl k⟩
abbrev Kh.strN (n : Nat) : Kh := ⟨.inr n⟩
def Kh.ok (R : Nat) (w : World) (v : Value) : Kh → Prop
  | ⟨.inl k⟩ => k.ok R w v
  | ⟨.inr n⟩ => ∃ t : ByteArray, v = .string t ∧ t.size ≤ n
theorem Kh.only {R : Nat} {w w' : World} {v : Value} (h : Only R w w') (k : Kh) (hk : k.ok R w v) : k.ok R w' v := by
  match k, hk with
  | ⟨.inl k⟩, hk => exact Kd.only h k hk
  | ⟨.inr _⟩, hk => exact hk
def khAt (ks : List Kh) (k : Nat) : Kh := ks.getD k (.strN 0)

set_option maxHeartbeats 4000000 in
theorem hurt_190 (R : Nat) (ad : Option Addr) (len cap : Nat) (s : ByteArray) (w : World) (h : Rd w R ad len cap) (hs : s.size ≤ 190) :
    Calls Try.prog 45 #[.pointer (some ⟨R, 0, none⟩), .string s] w fun e w' => (∃ t : ByteArray, e = .returned (.string t) ∧ t.size ≤ 400) ∧ Rd w' R ad len cap ∧ Only R w w' := by
  have H : Hid (Rd w R ad len cap) := h
  have hRw := h.lt
  clear h
  go_enter Try.func45, Try.ntmps45
  go_wp2_with fail
  refine (below_any R ad len cap 6 _ H.out (by omega) (by omega)).mono ?_
  rintro e w1 ⟨⟨x, rfl, hx0, hx1⟩, hR1, hO1⟩
  obtain ⟨x, rfl⟩ : ∃ y : Nat, x = (y : Int) := ⟨x.toNat, by omega⟩
  have HR1 : Hid (Rd w1 R ad len cap) := hR1
  have HO1 : Hid (Only R w w1) := hO1
  clear hR1 hO1
  have hx6 : x = 0 ∨ x = 1 ∨ x = 2 ∨ x = 3 ∨ x = 4 ∨ x = 5 := by omega
  clear hx0 hx1
  rcases hx6 with rfl | rfl | rfl | rfl | rfl | rfl
  · go_wp2_with fail
    refine (bytes_any R ad len cap _ HR1.out).mono ?_
    rintro e w2 ⟨⟨t, rfl, ht⟩, hR2, hO2⟩
    have HR2 : Hid (Rd w2 R ad len cap) := hR2
    have HO2 : Hid (Only R w w2) := HO1.out.trans hO2
    clear hR2 hO2
    go_wp2
    go_ret
    exact ⟨⟨_, rfl, by rw [ByteArray.size_append]; omega⟩, HR2.out, HO2.out⟩
  · go_wp2_with fail
    refine (below1_any R ad len cap _ _ HR1.out (by omega) (by omega)).mono ?_
    rintro e w2 ⟨⟨y, rfl, hy0, hy1⟩, hR2, hO2⟩
    obtain ⟨y, rfl⟩ : ∃ z : Nat, y = (z : Int) := ⟨y.toNat, by omega⟩
    have HR2 : Hid (Rd w2 R ad len cap) := hR2
    have HO2 : Hid (Only R w w2) := HO1.out.trans hO2
    have hy2 : y ≤ s.size := by omega
    clear hR2 hO2
    go_wp2
    go_ret
    exact ⟨⟨_, rfl, by rw [ByteArray.size_extract]; omega⟩, HR2.out, HO2.out⟩
  · by_cases h0 : 0 < s.size
    · go_wp2_with fail
      refine (below1_any R ad len cap _ _ HR1.out (by omega) (by omega)).mono ?_
      rintro e w2 ⟨⟨y, rfl, hy0, hy1⟩, hR2, hO2⟩
      obtain ⟨y, rfl⟩ : ∃ z : Nat, y = (z : Int) := ⟨y.toNat, by omega⟩
      have HR2 : Hid (Rd w2 R ad len cap) := hR2
      have HO2 : Hid (Only R w w2) := HO1.out.trans hO2
      have hy2 : y < s.size := by omega
      clear hR2 hO2
      go_wp2_with fail
      refine wp_region_mid 14 (fun f => { tmps := #[Value.pointer (some ⟨R, 0, none⟩), Value.string s, undef, undef, Value.string ⟨#[]⟩, Value.int .i64 (y : Int), Value.pointer (some ⟨R, 0, none⟩), Value.int .i64 2, Value.bool false, Value.bool false, undef, undef, undef, undef, Value.bool false, Value.bool false, undef, undef, undef, undef, undef, undef, undef, Value.bool true, Value.bool true, Value.string s, Value.int .i64 (s.size : Int), Value.bool true, Value.pointer (some ⟨R, 0, none⟩), Value.string s, Value.int .i64 (s.size : Int), Value.int .i64 (y : Int), f 0, f 1, f 2, f 3, f 4, f 5, f 6, f 7, f 8, f 9, f 10, f 11, f 12, f 13, undef], defers := [] }) (fun k v w' => Kh.ok R w' v (khAt [.kd (.eq (.string s)), .kd (.eq (.int .i64 (y : Int))), .strN 190, .kd (.strs 5), .kd (.eq (Value.pointer (some ⟨R, 0, none⟩))), .kd (.idx 5), .kd (.elt 5), .kd .str, .strN 210, .kd (.eq (.string s)), .kd (.eq (.int .i64 (y : Int))), .kd (.eq (.int .i64 ((y : Int) + 1))), .strN 190, .strN 400] k)) (fun w' => Rd w' R ad len cap ∧ Only R w w') (by kernel_rfl) rfl (by kernel_rfl) (by kernel_rfl) rfl ⟨HR2.out.below (Below.refl _ _).drew, HO2.out.drewN 1⟩ ?step ?fin
      case step =>
        rintro i hi o ho f w' ⟨hR', hO'⟩ hpre
        have HR : Hid (Rd w' R ad len cap) := hR'
        have HO : Hid (Only R w w') := hO'
        have hRl : R < w'.heap.size := hR'.lt
        have HM : Hid (∀ e ∈ o.after, Region.binds .any e = true → _) := hpre
        clear hR' hO' hpre
        have hc : i = 0 ∨ i = 1 ∨ i = 2 ∨ i = 3 ∨ i = 4 ∨ i = 5 ∨ i = 6 ∨ i = 7 ∨ i = 8 ∨ i = 9 ∨ i = 10 ∨ i = 11 ∨ i = 12 ∨ i = 13 := by omega
        clear hi
        rcases hc with rfl | rfl | rfl | rfl | rfl | rfl | rfl | rfl | rfl | rfl | rfl | rfl | rfl | rfl
        · obtain rfl := Option.some.inj ho
          refine wpOp_hid rfl fun K HK => ?_
          clear ho HM
          dsimp only
          go_simp
          exact HK.out _ _ ⟨Value.string s, by simp [upd], ⟨HR.out, HO.out⟩, rfl, fun k u hu => hu⟩
        · obtain rfl := Option.some.inj ho
          refine wpOp_hid rfl fun K HK => ?_
          clear ho HM
          dsimp only
          go_simp
          exact HK.out _ _ ⟨Value.int .i64 (y : Int), by simp [upd], ⟨HR.out, HO.out⟩, rfl, fun k u hu => hu⟩
        · obtain rfl := Option.some.inj ho
          have e1 : f 0 = Value.string s := HM.out ⟨0, .data⟩ (by simp) rfl
          have e2 : f 1 = Value.int .i64 (y : Int) := HM.out ⟨1, .data⟩ (by simp) rfl
          refine wpOp_hid rfl fun K HK => ?_
          clear ho HM
          simp only [e1, e2]
          go_simp
          go_wp2_with fail
          exact HK.out _ _ ⟨.string (s.extract 0 y), by simp [upd, e1, e2], ⟨HR.out, HO.out⟩, ⟨_, rfl, by rw [ByteArray.size_extract]; omega⟩, fun k u hu => hu⟩
        · obtain rfl := Option.some.inj ho
          have k1 : Only R w' (w'.alloc (.cells #[.string ⟨#[97]⟩, .string ⟨#[35]⟩, .string ⟨#[58]⟩, .string ⟨#[64]⟩, .string ⟨#[32]⟩] 9)) := (Only.refl R w').alloc _
          have K1 : Hid (Only R w' (w'.alloc (.cells #[.string ⟨#[97]⟩, .string ⟨#[35]⟩, .string ⟨#[58]⟩, .string ⟨#[64]⟩, .string ⟨#[32]⟩] 9))) := k1
          clear k1
          refine wpOp_hid rfl fun K HK => ?_
          clear ho HM
          dsimp only
          go_simp
          exact HK.out _ _ ⟨.slice (some ⟨w'.heap.size, 0, none⟩) 5 5, by simp [upd], ⟨HR.out.alloc _, HO.out.alloc _⟩, ⟨_, rfl, strs_new w' R hRl (xs := [_, _, _, _, _]) (by decide)⟩, fun k u hu => Kh.only K1.out _ hu⟩
        · obtain rfl := Option.some.inj ho
          refine wpOp_hid rfl fun K HK => ?_
          clear ho HM
          dsimp only
          go_simp
          exact HK.out _ _ ⟨Value.pointer (some ⟨R, 0, none⟩), by simp [upd], ⟨HR.out, HO.out⟩, rfl, fun k u hu => hu⟩
        · obtain rfl := Option.some.inj ho
          have e1 : f 4 = Value.pointer (some ⟨R, 0, none⟩) := HM.out ⟨4, .data⟩ (by simp) rfl
          refine wpOp_hid rfl fun K HK => ?_
          clear ho HM
          simp only [e1]
          go_simp
          refine (below_any R ad len cap 5 _ HR.out (by omega) (by omega)).mono ?_
          rintro e w5 ⟨⟨x, rfl, hx0, hx1⟩, hR5, hO5⟩
          obtain ⟨x, rfl⟩ : ∃ y : Nat, x = (y : Int) := ⟨x.toNat, by omega⟩
          have HR5 : Hid (Rd w5 R ad len cap) := hR5
          have HO5 : Hid (Only R w' w5) := hO5
          clear hR5 hO5
          go_wp2_with fail
          exact HK.out _ _ ⟨.int .i64 (x : Int), by simp [upd, e1], ⟨HR5.out, HO.out.trans HO5.out⟩, ⟨x, rfl, by omega⟩, fun k u hu => Kh.only HO5.out _ hu⟩
        · obtain rfl := Option.some.inj ho
          obtain ⟨g, e1, hS⟩ := HM.out ⟨3, .data⟩ (by simp) rfl
          replace e1 : f 3 = _ := e1
          obtain ⟨x, e2, hx⟩ := HM.out ⟨5, .data⟩ (by simp) rfl
          replace e2 : f 5 = _ := e2
          have HS : Hid (Strs w' R g 5) := hS
          clear hS
          have hx0 : (0 : Int) ≤ (x : Int) := by omega
          have hx1 : (x : Int) < 5 := by omega
          refine wpOp_hid rfl fun K HK => ?_
          clear ho HM
          simp only [e1, e2]
          go_simp
          exact HK.out _ _ ⟨.pointer (some ⟨g, x, none⟩), by simp [upd, e1, e2], ⟨HR.out, HO.out⟩, ⟨g, x, rfl, hx, HS.out⟩, fun k u hu => hu⟩
        · obtain rfl := Option.some.inj ho
          obtain ⟨g, x, e1, hx, hS⟩ := HM.out ⟨6, .data⟩ (by simp) rfl
          replace e1 : f 6 = _ := e1
          obtain ⟨t, ht, hcell⟩ := hS.2.2 x hx
          clear hS
          refine wpOp_hid rfl fun K HK => ?_
          clear ho HM
          simp only [e1]
          go_simp
          exact HK.out _ _ ⟨.string t, by simp [upd, e1], ⟨HR.out, HO.out⟩, ⟨t, rfl, ht⟩, fun k u hu => hu⟩
        · obtain rfl := Option.some.inj ho
          obtain ⟨p, e1, hp⟩ := HM.out ⟨2, .data⟩ (by simp) rfl
          replace e1 : f 2 = _ := e1
          obtain ⟨q, e2, hq⟩ := HM.out ⟨7, .data⟩ (by simp) rfl
          replace e2 : f 7 = _ := e2
          refine wpOp_hid rfl fun K HK => ?_
          clear ho HM
          simp only [e1, e2]
          go_simp
          go_wp2_with fail
          exact HK.out _ _ ⟨.string (p ++ q), by simp [upd, e1, e2], ⟨HR.out, HO.out⟩, ⟨_, rfl, by rw [ByteArray.size_append]; omega⟩, fun k u hu => hu⟩
        · obtain rfl := Option.some.inj ho
          refine wpOp_hid rfl fun K HK => ?_
          clear ho HM
          dsimp only
          go_simp
          exact HK.out _ _ ⟨Value.string s, by simp [upd], ⟨HR.out, HO.out⟩, rfl, fun k u hu => hu⟩
        · obtain rfl := Option.some.inj ho
          refine wpOp_hid rfl fun K HK => ?_
          clear ho HM
          dsimp only
          go_simp
          exact HK.out _ _ ⟨Value.int .i64 (y : Int), by simp [upd], ⟨HR.out, HO.out⟩, rfl, fun k u hu => hu⟩
        · obtain rfl := Option.some.inj ho
          have e1 : f 10 = Value.int .i64 (y : Int) := HM.out ⟨10, .data⟩ (by simp) rfl
          have hwy : IntKind.i64.wrap ((y : Int) + 1) = (y : Int) + 1 := by rw [IntKind.wrap_i64]; omega
          refine wpOp_hid rfl fun K HK => ?_
          clear ho HM
          simp only [e1]
          go_simp
          exact HK.out _ _ ⟨.int .i64 ((y : Int) + 1), by simp [upd, e1], ⟨HR.out, HO.out⟩, rfl, fun k u hu => hu⟩
        · obtain rfl := Option.some.inj ho
          have e1 : f 9 = Value.string s := HM.out ⟨9, .data⟩ (by simp) rfl
          have e2 : f 11 = Value.int .i64 ((y : Int) + 1) := HM.out ⟨11, .data⟩ (by simp) rfl
          refine wpOp_hid rfl fun K HK => ?_
          clear ho HM
          simp only [e1, e2]
          go_simp
          go_wp2_with fail
          exact HK.out _ _ ⟨.string (s.extract (y + 1) s.size), by simp [upd, e1, e2], ⟨HR.out, HO.out⟩, ⟨_, rfl, by rw [ByteArray.size_extract]; omega⟩, fun k u hu => hu⟩
        · obtain rfl := Option.some.inj ho
          obtain ⟨p, e1, hp⟩ := HM.out ⟨8, .data⟩ (by simp) rfl
          replace e1 : f 8 = _ := e1
          obtain ⟨q, e2, hq⟩ := HM.out ⟨12, .data⟩ (by simp) rfl
          replace e2 : f 12 = _ := e2
          refine wpOp_hid rfl fun K HK => ?_
          clear ho HM
          simp only [e1, e2]
          go_simp
          go_wp2_with fail
          exact HK.out _ _ ⟨.string (p ++ q), by simp [upd, e1, e2], ⟨HR.out, HO.out⟩, ⟨_, rfl, by rw [ByteArray.size_append]; omega⟩, fun k u hu => hu⟩
      case fin =>
        rintro o ho f w' ⟨hR', hO'⟩ hall
        have HR : Hid (Rd w' R ad len cap) := hR'
        have HO : Hid (Only R w w') := hO'
        obtain ⟨p, e1, hp⟩ := hall 13 (by omega)
        replace e1 : f 13 = _ := e1
        clear hR' hO' hall
        obtain rfl := Option.some.inj ho
        clear ho
        refine wpOp_step rfl (fun K hK => ?_)
        have HK : Hid (∀ a w, _ → K a w) := hK
        clear hK
        simp only [e1]
        go_simp
        refine HK.out _ _ ?_
        clear HK
        go_wp2
        go_ret
        exact ⟨⟨_, rfl, by omega⟩, HR.out, HO.out⟩
    · go_wp2
      go_ret
      exact ⟨⟨s, rfl, by omega⟩, HR1.out, HO1.out⟩
  all_goals
    go_wp2
    go_ret
    exact ⟨⟨s, rfl, by omega⟩, HR1.out, HO1.out⟩

theorem hurt_any (R : Nat) (ad : Option Addr) (len cap : Nat) (s : ByteArray) (w : World) (h : Rd w R ad len cap) (hs : s.size ≤ 150) :
    Calls Try.prog 45 #[.pointer (some ⟨R, 0, none⟩), .string s] w fun e w' => (∃ t : ByteArray, e = .returned (.string t) ∧ t.size ≤ 400) ∧ Rd w' R ad len cap ∧ Only R w w' := hurt_190 R ad len cap s w h (by omega)
end Go.Proofs.Ytjmbgpdbnffkpaa
