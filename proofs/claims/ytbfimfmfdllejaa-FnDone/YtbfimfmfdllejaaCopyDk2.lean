/- Contracts of the copies of disks, and of the document's Sync. -/
import Derived.Test.YtbfimfmfdllejaaCopyDk
namespace Go.Proofs.Ytbfimfmfdllejaa
open Go.ChangeShapes Go.WideShapes Go.ChangeAt Go.RowKit Go.Maps

def RF (w : World) (base : Nat) (u : Value) (xs : List Fl) : Prop := ∃ ad cap, u = .slice ad xs.length cap ∧ (ad = none → cap = 0) ∧ SlF w ad xs ∧ FrF w base ad (xs ≠ [])
def RO (w : World) (base : Nat) (u : Value) (xs : List Dop) : Prop := ∃ ad cap, u = .slice ad xs.length cap ∧ (w.ownsRow base 37 4 u xs.length (rowsO xs) ∧ (xs = [] → cap = 0)) ∧ SlO w ad xs ∧ FrF w base ad (xs ≠ [])
def Nils (adL adS : Option Addr) (capL capS : Nat) : Prop := (adS = none → capS = 0) ∧ (adL = none → capL = 0)
def DB (w : World) (base : Nat) (u : Value) (ls ss : List Fl) (os : List Dop) : Prop := ∃ (adL adS adO : Option Addr) (capL capS capO : Nat), u = .agg #[.slice adL ls.length capL, .slice adS ss.length capS, .slice adO os.length capO] ∧ OwnD w base adL adS adO ls ss os ∧ Nils adL adS capL capS
def DB2 (w : World) (base : Nat) (u : Value) (ls ss : List Fl) (os : List Dop) : Prop := ∃ (adL adS adO : Option Addr) (capL capS capO : Nat), u = .agg #[.slice adL ls.length capL, .slice adS ss.length capS, .slice adO os.length capO] ∧ OwnD w base adL adS adO ls ss os ∧ Nils adL adS capL capS ∧ w.ownsRow base 37 4 (.slice adO os.length capO) os.length (rowsO os) ∧ (os = [] → capO = 0)
theorem DB2.below {w w' : World} {base : Nat} {u : Value} {ls ss : List Fl} {os : List Dop} (h : DB2 w base u ls ss os) (hB : Below w.heap.size w w') : DB2 w' base u ls ss os := by
  obtain ⟨a, b, c, d, e, f, g, h, i, j, k⟩ := h; exact ⟨a, b, c, d, e, f, g, h.below hB, i, own_later j hB, k⟩
theorem own_set {w : World} {base n size : Nat} {e : TypeId} {v : Value} {xs : List Value} (h : w.ownsRow base e size v n xs) {g : Nat} (hg : g < base) (o : Nat) (u : Value) : (w.setCell ⟨g, o, none⟩ u).ownsRow base e size v n xs := by
  have hb := (Below.refl 0 w).setCell (p := ⟨g, o, none⟩) (Nat.zero_le _) u
  refine h.kept (row := some g) ⟨hb.os, hb.tape, hb.output, hb.size, fun k _ hk => Below.heap_setCell _ _ _ _ (fun e2 => hk (by rw [e2]))⟩ ?_
  cases e3 : v.ownBlock with
  | none => exact .inl rfl
  | some k => right; have := (h.lt k e3).1; intro e4; injection e4 with e4; omega
theorem RF.below {w w' : World} {base : Nat} {u : Value} {xs : List Fl} (h : RF w base u xs) (hB : Below w.heap.size w w') : RF w' base u xs := by
  obtain ⟨ad, cap, e, hc, hs, hf⟩ := h; exact ⟨ad, cap, e, hc, hs.below hB, hf.below hB⟩
theorem RO.below {w w' : World} {base : Nat} {u : Value} {xs : List Dop} (h : RO w base u xs) (hB : Below w.heap.size w w') : RO w' base u xs := by
  obtain ⟨ad, cap, e, ho, hs, hf⟩ := h; exact ⟨ad, cap, e, ⟨own_later ho.1 hB, ho.2⟩, hs.below hB, hf.below hB⟩
theorem DB.below {w w' : World} {base : Nat} {u : Value} {ls ss : List Fl} {os : List Dop} (h : DB w base u ls ss os) (hB : Below w.heap.size w w') : DB w' base u ls ss os := by
  obtain ⟨a, b, c, d, e, f, g, h, i⟩ := h; exact ⟨a, b, c, d, e, f, g, h.below hB, i⟩
theorem RF.lt {w : World} {base : Nat} {u : Value} {xs : List Fl} (h : RF w base u xs) (hn : xs ≠ []) : ∃ g, u.ownBlock = some g ∧ g < w.heap.size := by
  obtain ⟨ad, cap, rfl, -, -, hf⟩ := h; obtain ⟨g, rfl, -, hg, -⟩ := hf hn; exact ⟨g, rfl, hg⟩
theorem RO.lt {w : World} {base : Nat} {u : Value} {xs : List Dop} (h : RO w base u xs) (hn : xs ≠ []) : ∃ g, u.ownBlock = some g ∧ g < w.heap.size := by
  obtain ⟨ad, cap, rfl, -, -, hf⟩ := h; obtain ⟨g, rfl, -, hg, -⟩ := hf hn; exact ⟨g, rfl, hg⟩
theorem newF {w w' : World} {v : Value} {xs : List Fl} (h : NewF w w' v xs) {base : Nat} (hb : base ≤ w.heap.size) : RF w' base v xs := by
  obtain ⟨ad, cap, e, hc, hs, hf⟩ := h.is; exact ⟨ad, cap, e, hc, hs, hf.mono hb⟩
theorem newO {w w' : World} {v : Value} {xs : List Dop} (h : NewO w w' v xs) {base : Nat} (ho : w'.ownsRow base 37 4 v xs.length (rowsO xs)) (hb : base ≤ w.heap.size) : RO w' base v xs := by
  obtain ⟨ad, cap, e, hs, hf, hz⟩ := h.is; exact ⟨ad, cap, e, ⟨ho, hz⟩, hs, hf.mono hb⟩
theorem newF_apart {w w' : World} {v u : Value} {xs : List Fl} (h : NewF w w' v xs) (hn : xs ≠ []) (hu : ∃ g, u.ownBlock = some g ∧ g < w.heap.size) : v.ownBlock ≠ u.ownBlock := by
  obtain ⟨ad, cap, rfl, -, -, hf⟩ := h.is
  obtain ⟨g, rfl, hg, -⟩ := hf hn
  obtain ⟨g', e, hl⟩ := hu
  rw [e]; intro h2; simp only [Value.ownBlock, Option.some.injEq] at h2; omega
theorem newO_apart {w w' : World} {v u : Value} {xs : List Dop} (h : NewO w w' v xs) (hn : xs ≠ []) (hu : ∃ g, u.ownBlock = some g ∧ g < w.heap.size) : v.ownBlock ≠ u.ownBlock := by
  obtain ⟨ad, cap, rfl, -, hf, -⟩ := h.is
  obtain ⟨g, rfl, hg, -⟩ := hf hn
  obtain ⟨g', e, hl⟩ := hu
  rw [e]; intro h2; simp only [Value.ownBlock, Option.some.injEq] at h2; omega
theorem own_box {w : World} {base : Nat} {adL adS adO : Option Addr} {ls ss : List Fl} {os : List Dop} (h : OwnD w base adL adS adO ls ss os) {g : Nat} (hg : g < base) (o : Nat) (v : Value) : OwnD (w.setCell ⟨g, o, none⟩ v) base adL adS adO ls ss os :=
  h.chg (S := fun y => y = g) (Chg.set v rfl) (fun y hy e => by have := (h.inD hy).1; omega)
theorem adNe {ad ad' : Option Addr} {n c n' c' : Nat} (h : (Value.slice ad n c).ownBlock ≠ (Value.slice ad' n' c').ownBlock) : ad ≠ ad' := fun e => h (by subst e; cases ad <;> rfl)
theorem own_mk {w : World} {base : Nat} {adL adS adO : Option Addr} {ls ss : List Fl} {os : List Dop} {nL cL nS cS nO cO : Nat} (sL : SlF w adL ls) (sS : SlF w adS ss) (sO : SlO w adO os) (gL : FrF w base adL (ls ≠ [])) (gS : FrF w base adS (ss ≠ [])) (gO : FrF w base adO (os ≠ []))
    (h1 : ls ≠ [] → ss ≠ [] → (Value.slice adL nL cL).ownBlock ≠ (Value.slice adS nS cS).ownBlock) (h2 : ls ≠ [] → os ≠ [] → (Value.slice adL nL cL).ownBlock ≠ (Value.slice adO nO cO).ownBlock) (h3 : ss ≠ [] → os ≠ [] → (Value.slice adS nS cS).ownBlock ≠ (Value.slice adO nO cO).ownBlock) :
    OwnD w base adL adS adO ls ss os := ⟨sL, sS, sO, gL, gS, gO, fun a b => adNe (h1 a b), fun a b => adNe (h2 a b), fun a b => adNe (h3 a b)⟩
theorem own_mk2 {w : World} {base : Nat} {adL adS : Option Addr} {ls ss : List Fl} {nL cL nS cS : Nat} (sL : SlF w adL ls) (sS : SlF w adS ss) (gL : FrF w base adL (ls ≠ [])) (gS : FrF w base adS (ss ≠ []))
    (h1 : ls ≠ [] → ss ≠ [] → (Value.slice adL nL cL).ownBlock ≠ (Value.slice adS nS cS).ownBlock) :
    OwnD w base adL adS none ls ss [] := ⟨sL, sS, .inl rfl, gL, gS, fun h => absurd rfl h, fun a b => adNe (h1 a b), fun _ h => absurd rfl h, fun _ h => absurd rfl h⟩
theorem box2 (w : World) (a b c : Value) (t t' : TypeId) : let W := (w.alloc (.cells #[a, b, c] t)).alloc (.cells #[.slice none 0 0, .slice none 0 0, .slice none 0 0] t')
    W.cell? ⟨w.heap.size, 0, none⟩ = some a ∧ W.cell? ⟨w.heap.size, 1, none⟩ = some b ∧ W.cell? ⟨w.heap.size, 2, none⟩ = some c ∧ W.cell? ⟨w.heap.size + 1, 0, none⟩ = some (.slice none 0 0) ∧ W.cell? ⟨w.heap.size + 1, 1, none⟩ = some (.slice none 0 0) ∧ W.cell? ⟨w.heap.size + 1, 2, none⟩ = some (.slice none 0 0) ∧ (∀ i, W.frozen? ⟨w.heap.size + 1, i, none⟩ = false) ∧ w.heap.size + 2 ≤ W.heap.size := by
  refine ⟨?_, ?_, ?_, ?_, ?_, ?_, ?_, ?_⟩
  · simp
  · simp
  · simp
  · have := World.cell?_alloc_mark (w.alloc (.cells #[a, b, c] t)) #[.slice none 0 0, .slice none 0 0, .slice none 0 0] t' (0, 0) 0
    rw [World.size_alloc] at this; exact this
  · have := World.cell?_alloc_mark (w.alloc (.cells #[a, b, c] t)) #[.slice none 0 0, .slice none 0 0, .slice none 0 0] t' (0, 0) 1
    rw [World.size_alloc] at this; exact this
  · have := World.cell?_alloc_mark (w.alloc (.cells #[a, b, c] t)) #[.slice none 0 0, .slice none 0 0, .slice none 0 0] t' (0, 0) 2
    rw [World.size_alloc] at this; exact this
  · intro i
    have := fz0 (w.alloc (.cells #[a, b, c] t)) #[.slice none 0 0, .slice none 0 0, .slice none 0 0] t' i
    rw [World.size_alloc] at this; exact this
  · simp only [World.size_alloc]; omega
def Vci (w : World) (adL adS adO : Option Addr) (capL capS capO : Nat) (ls ss : List Fl) (os : List Dop) (k : Nat) (u : Value) (W : World) : Prop :=
  match k with
  | 0 => u = .pointer (some ⟨w.heap.size, 0, none⟩)
  | 1 => u = .slice adL ls.length capL
  | 2 => RF W (w.heap.size + 2) u ls
  | 3 => u = .pointer (some ⟨w.heap.size, 1, none⟩)
  | 4 => u = .slice adS ss.length capS
  | 5 => RF W (w.heap.size + 2) u ss
  | 6 => u = .pointer (some ⟨w.heap.size, 2, none⟩)
  | 7 => u = .slice adO os.length capO
  | 8 => RO W (w.heap.size + 2) u os
  | 9 => DB2 W (w.heap.size + 2) u ls ss os
  | _ => True
def Nci (ls ss : List Fl) (os : List Dop) (k : Nat) : Prop :=
  match k with
  | 2 => ls ≠ []
  | 5 => ss ≠ []
  | 8 => os ≠ []
  | _ => False
theorem Vci_mono (w : World) (adL adS adO : Option Addr) (capL capS capO : Nat) (ls ss : List Fl) (os : List Dop) {W W' : World} (hB : Below W.heap.size W W') (k : Nat) (u : Value) (h : Vci w adL adS adO capL capS capO ls ss os k u W) : Vci w adL adS adO capL capS capO ls ss os k u W' :=
  match k, h with
  | 0, h => h
  | 1, h => h
  | 2, h => RF.below h hB
  | 3, h => h
  | 4, h => h
  | 5, h => RF.below h hB
  | 6, h => h
  | 7, h => h
  | 8, h => RO.below h hB
  | 9, h => DB2.below h hB
  | (_ + 10), _ => trivial
theorem Vci_lt (w : World) (adL adS adO : Option Addr) (capL capS capO : Nat) (ls ss : List Fl) (os : List Dop) {W : World} (k : Nat) (u : Value) (hn : Nci ls ss os k) (h : Vci w adL adS adO capL capS capO ls ss os k u W) : ∃ g, u.ownBlock = some g ∧ g < W.heap.size :=
  match k, hn, h with
  | 2, hn, h => RF.lt h hn
  | 5, hn, h => RF.lt h hn
  | 8, hn, h => RO.lt h hn
set_option maxRecDepth 8000 in
set_option maxHeartbeats 8000000 in
theorem copyDisk_any (adL adS adO : Option Addr) (capL capS capO : Nat) (ls ss : List Fl) (os : List Dop) (w : World) (hl : ls.length ≤ 1048576) (hs : ss.length ≤ 1048576) (ho : os.length ≤ 1048576) (H : Dk w adL adS adO ls ss os w) :
    Calls Try.prog 39 #[.agg #[.slice adL ls.length capL, .slice adS ss.length capS, .slice adO os.length capO]] w fun e w' => ∃ v, e = .returned v ∧ DB2 w' w.heap.size v ls ss os ∧ Below w.heap.size w w' := by
  obtain ⟨W2, hW2⟩ : ∃ W2, W2 = (w.alloc (.cells #[.slice adL ls.length capL, .slice adS ss.length capS, .slice adO os.length capO] 33)).alloc (.cells #[.slice none 0 0, .slice none 0 0, .slice none 0 0] 33) := ⟨_, rfl⟩
  obtain ⟨z0, z1, z2, q0, q1, q2, qf, hw2⟩ := box2 w (.slice adL ls.length capL) (.slice adS ss.length capS) (.slice adO os.length capO) 33 33
  rw [← hW2] at z0 z1 z2 q0 q1 q2 qf hw2
  have hb2 : Below w.heap.size w W2 := by rw [hW2]; exact ((Below.refl _ _).alloc (Nat.le_refl _) _).alloc (by simp) _
  have K2 := HIDk (H.later hb2)
  have HB2 := HIDk hb2
  have hx2 : w.heap.size < W2.heap.size := by omega
  have hx3 : w.heap.size + 1 < W2.heap.size := by omega
  clear H hb2
  go_enter Try.func39, Try.ntmps39
  go_wp2_with fail
  rw [← hW2]
  clear hW2
  refine wp_region_midR 10 (fun _ => undef) (fun fq => { tmps := List.toArray (Value.agg #[.slice adL ls.length capL, .slice adS ss.length capS, .slice adO os.length capO] :: Value.pointer (some ⟨w.heap.size, 0, none⟩) :: Value.pointer (some ⟨w.heap.size + 1, 0, none⟩) :: fq 0 :: fq 1 :: fq 2 :: fq 3 :: fq 4 :: fq 5 :: fq 6 :: fq 7 :: fq 8 :: fq 9 :: []), defers := [] }) (Vci w adL adS adO capL capS capO ls ss os) (fun w' => Below W2.heap.size W2 w') (Nci ls ss os) (by kernel_rfl) rfl (by kernel_rfl) (by kernel_rfl) rfl (Below.refl _ _).drew ?_ ?_
  · rintro i hi op ho fq w' hG hpre hap
    have HG : Hid (Below W2.heap.size W2 w') := hG
    have x0 : w'.cell? ⟨w.heap.size, 0, none⟩ = some (.slice adL ls.length capL) := kept hG hx2 z0
    have x1 : w'.cell? ⟨w.heap.size, 1, none⟩ = some (.slice adS ss.length capS) := kept hG hx2 z1
    have x2 : w'.cell? ⟨w.heap.size, 2, none⟩ = some (.slice adO os.length capO) := kept hG hx2 z2
    have HK := HIDk (K2.out.later hG)
    have hsz : w.heap.size + 2 ≤ w'.heap.size := Nat.le_trans hw2 hG.size
    have HM : Hid (∀ e ∈ op.after, Region.binds .any e = true → _) := hpre
    have HA : Hid (∀ e ∈ op.after, Region.binds .any e = true → _) := hap
    clear hG hpre hap z0 z1 z2
    have hc : i = 0 ∨ i = 1 ∨ i = 2 ∨ i = 3 ∨ i = 4 ∨ i = 5 ∨ i = 6 ∨ i = 7 ∨ i = 8 ∨ i = 9 := by omega
    clear hi
    rcases hc with rfl | rfl | rfl | rfl | rfl | rfl | rfl | rfl | rfl | rfl
    · obtain rfl := Option.some.inj ho
      clear ho HM HA
      refine wpOp_step rfl (fun K hK => ?_)
      have HQ : Hid (∀ a w, _ → K a w) := hK
      clear hK
      dsimp only
      go_simp
      exact HQ.out _ _ ⟨.pointer (some ⟨w.heap.size, 0, none⟩), by simp [upd], HG.out, rfl, fun k u hu => hu, fun hn => by cases hn⟩
    · obtain rfl := Option.some.inj ho
      have e0 : fq 0 = .pointer (some ⟨w.heap.size, 0, none⟩) := HM.out { on := 0, ground := .data } (by simp) rfl
      clear ho HM HA
      refine wpOp_step rfl (fun K hK => ?_)
      have HQ : Hid (∀ a w, _ → K a w) := hK
      clear hK
      simp only [e0]
      go_simp
      exact HQ.out _ _ ⟨.slice adL ls.length capL, by simp [upd, e0], HG.out, rfl, fun k u hu => hu, fun hn => by cases hn⟩
    · obtain rfl := Option.some.inj ho
      have e1 : fq 1 = .slice adL ls.length capL := HM.out { on := 1, ground := .data } (by simp) rfl
      clear ho HM HA
      refine wpOp_step rfl (fun K hK => ?_)
      have HQ : Hid (∀ a w, _ → K a w) := hK
      clear hK
      simp only [e1]
      go_simp
      refine (copyFiles_any adL capL ls w' HK.out.live hl).mono ?_
      rintro e w'' ⟨v', rfl, hN, hB⟩
      go_wp2_with fail
      exact HQ.out _ _ ⟨v', by simp [upd, e1], HG.out.trans (hB.mono HG.out.size), newF hN hsz, Vci_mono w adL adS adO capL capS capO ls ss os hB, fun hn k u hk hu => newF_apart hN hn (Vci_lt w adL adS adO capL capS capO ls ss os k u hk hu)⟩
    · obtain rfl := Option.some.inj ho
      clear ho HM HA
      refine wpOp_step rfl (fun K hK => ?_)
      have HQ : Hid (∀ a w, _ → K a w) := hK
      clear hK
      dsimp only
      go_simp
      exact HQ.out _ _ ⟨.pointer (some ⟨w.heap.size, 1, none⟩), by simp [upd], HG.out, rfl, fun k u hu => hu, fun hn => by cases hn⟩
    · obtain rfl := Option.some.inj ho
      have e3 : fq 3 = .pointer (some ⟨w.heap.size, 1, none⟩) := HM.out { on := 3, ground := .data } (by simp) rfl
      clear ho HM HA
      refine wpOp_step rfl (fun K hK => ?_)
      have HQ : Hid (∀ a w, _ → K a w) := hK
      clear hK
      simp only [e3]
      go_simp
      exact HQ.out _ _ ⟨.slice adS ss.length capS, by simp [upd, e3], HG.out, rfl, fun k u hu => hu, fun hn => by cases hn⟩
    · obtain rfl := Option.some.inj ho
      have e4 : fq 4 = .slice adS ss.length capS := HM.out { on := 4, ground := .data } (by simp) rfl
      clear ho HM HA
      refine wpOp_step rfl (fun K hK => ?_)
      have HQ : Hid (∀ a w, _ → K a w) := hK
      clear hK
      simp only [e4]
      go_simp
      refine (copyFiles_any adS capS ss w' HK.out.safe hs).mono ?_
      rintro e w'' ⟨v', rfl, hN, hB⟩
      go_wp2_with fail
      exact HQ.out _ _ ⟨v', by simp [upd, e4], HG.out.trans (hB.mono HG.out.size), newF hN hsz, Vci_mono w adL adS adO capL capS capO ls ss os hB, fun hn k u hk hu => newF_apart hN hn (Vci_lt w adL adS adO capL capS capO ls ss os k u hk hu)⟩
    · obtain rfl := Option.some.inj ho
      clear ho HM HA
      refine wpOp_step rfl (fun K hK => ?_)
      have HQ : Hid (∀ a w, _ → K a w) := hK
      clear hK
      dsimp only
      go_simp
      exact HQ.out _ _ ⟨.pointer (some ⟨w.heap.size, 2, none⟩), by simp [upd], HG.out, rfl, fun k u hu => hu, fun hn => by cases hn⟩
    · obtain rfl := Option.some.inj ho
      have e6 : fq 6 = .pointer (some ⟨w.heap.size, 2, none⟩) := HM.out { on := 6, ground := .data } (by simp) rfl
      clear ho HM HA
      refine wpOp_step rfl (fun K hK => ?_)
      have HQ : Hid (∀ a w, _ → K a w) := hK
      clear hK
      simp only [e6]
      go_simp
      exact HQ.out _ _ ⟨.slice adO os.length capO, by simp [upd, e6], HG.out, rfl, fun k u hu => hu, fun hn => by cases hn⟩
    · obtain rfl := Option.some.inj ho
      have e7 : fq 7 = .slice adO os.length capO := HM.out { on := 7, ground := .data } (by simp) rfl
      clear ho HM HA
      obtain ⟨v', w'', hr, hB, hN, hOw⟩ := appO w' adO capO os HK.out.ops ho (w.heap.size + 2) hsz (.slice none 0 0) (.inl rfl) _
      refine wpOp_append_run rfl rfl _ _ _ _ rfl (.slice none 0 0) (.slice adO os.length capO) v' w'' rfl e7 hr ?_
      exact ⟨v', by simp [upd, Act.put], HG.out.trans (hB.mono HG.out.size), newO hN hOw hsz, Vci_mono w adL adS adO capL capS capO ls ss os hB, fun hn k u hk hu => newO_apart hN hn (Vci_lt w adL adS adO capL capS capO ls ss os k u hk hu)⟩
    · obtain rfl := Option.some.inj ho
      have y2 : RF w' (w.heap.size + 2) (fq 2) ls := HM.out { on := 2, ground := .data } (by simp) rfl
      have y5 : RF w' (w.heap.size + 2) (fq 5) ss := HM.out { on := 5, ground := .data } (by simp) rfl
      have y8 : RO w' (w.heap.size + 2) (fq 8) os := HM.out { on := 8, ground := .data } (by simp) rfl
      have n01 := HA.out { on := 2, ground := .data } (by simp) rfl { on := 5, ground := .data } (by simp) rfl (by decide)
      have n02 := HA.out { on := 2, ground := .data } (by simp) rfl { on := 8, ground := .data } (by simp) rfl (by decide)
      have n12 := HA.out { on := 5, ground := .data } (by simp) rfl { on := 8, ground := .data } (by simp) rfl (by decide)
      clear ho HM HA
      refine wpOp_step rfl (fun K hK => ?_)
      have HQ : Hid (∀ a w, _ → K a w) := hK
      clear hK
      obtain ⟨ad2, cap2, e2, c2, s2, g2⟩ := y2
      obtain ⟨ad5, cap5, e5, c5, s5, g5⟩ := y5
      obtain ⟨ad8, cap8, e8, w8, s8, g8⟩ := y8
      rw [e2, e5] at n01
      rw [e2, e8] at n02
      rw [e5, e8] at n12
      have HS := HIDk (own_mk s2 s5 s8 g2 g5 g8 n01 n02 n12)
      clear s2 g2 s5 g5 s8 g8 n01 n02 n12
      obtain ⟨w8, t8⟩ := w8
      rw [e8] at w8
      have HW := HIDk w8
      clear w8
      simp only [e2, e5, e8]
      go_simp
      exact HQ.out _ _ ⟨.agg #[.slice ad2 ls.length cap2, .slice ad5 ss.length cap5, .slice ad8 os.length cap8], by simp [upd, e2, e5, e8], HG.out, ⟨_, _, _, _, _, _, rfl, HS.out, ⟨c5, c2⟩, HW.out, t8⟩, fun k u hu => hu, fun hn => by cases hn⟩
  · rintro op ho fq w' hG hV hR
    obtain rfl := Option.some.inj ho
    obtain ⟨a1, a2, a3, p1, p2, p3, e9, hS, hcS, hOw, hOz⟩ : DB2 w' (w.heap.size + 2) (fq 9) ls ss os := hV 9 (by omega)
    have HOw := HIDk hOw
    clear hOw
    have r0 : (w'.cell? ⟨w.heap.size + 1, 0, none⟩) = some (.slice none 0 0) := kept hG hx3 q0
    have r1 : (w'.cell? ⟨w.heap.size + 1, 1, none⟩) = some (.slice none 0 0) := kept hG hx3 q1
    have r2 : (w'.cell? ⟨w.heap.size + 1, 2, none⟩) = some (.slice none 0 0) := kept hG hx3 q2
    have fz : ∀ i, w'.frozen? ⟨w.heap.size + 1, i, none⟩ = false := fun i => keptF hG hx3 (qf i)
    have HS := HIDk hS
    have HG := HIDk hG
    clear hS hV hR hG ho q0 q1 q2 qf z0 z1 z2
    refine wpOp_step rfl (fun K hK => ?_)
    have HQ : Hid (∀ a w, _ → K a w) := hK
    clear hK
    simp only [e9]
    go_simp
    refine HQ.out _ _ ?_
    go_wp2
    refine bodyPost_ret (v := .agg #[.slice a1 ls.length p1, .slice a2 ss.length p2, .slice a3 os.length p3]) (by simp [results, Try.results39, go_sem, *]) rfl ⟨_, rfl, ⟨_, _, _, _, _, _, rfl, ?_, hcS, own_base (own_set (own_set (own_set HOw.out (by omega) _ _) (by omega) _ _) (by omega) _ _) (by omega), hOz⟩, ?_⟩
    · exact (own_box (own_box (own_box HS.out (by omega) _ _) (by omega) _ _) (by omega) _ _).mono (by omega)
    · exact (((HB2.out.trans (HG.out.mono HB2.out.size)).setCell (p := ⟨w.heap.size + 1, 0, none⟩) (by simp) _).setCell (p := ⟨w.heap.size + 1, 1, none⟩) (by simp) _).setCell (p := ⟨w.heap.size + 1, 2, none⟩) (by simp) _
def Vcs (w : World) (adL adS adO : Option Addr) (capL capS capO : Nat) (ls ss : List Fl) (os : List Dop) (k : Nat) (u : Value) (W : World) : Prop :=
  match k with
  | 0 => Empt W (w.heap.size + 2) 93 u
  | 1 => u = .pointer (some ⟨w.heap.size, 0, none⟩)
  | 2 => u = .slice adL ls.length capL
  | 3 => RF W (w.heap.size + 2) u ls
  | 4 => Empt W (w.heap.size + 2) 93 u
  | 5 => u = .pointer (some ⟨w.heap.size, 1, none⟩)
  | 6 => u = .slice adS ss.length capS
  | 7 => RF W (w.heap.size + 2) u ss
  | 8 => Empt W (w.heap.size + 2) 37 u
  | 9 => u = .pointer (some ⟨w.heap.size, 2, none⟩)
  | 10 => u = .slice adO os.length capO
  | 11 => RO W (w.heap.size + 2) u os
  | 12 => DB2 W (w.heap.size + 2) u ls ss os
  | _ => True
def Ncs (ls ss : List Fl) (os : List Dop) (k : Nat) : Prop :=
  match k with
  | 3 => ls ≠ []
  | 7 => ss ≠ []
  | 11 => os ≠ []
  | _ => False
theorem Vcs_mono (w : World) (adL adS adO : Option Addr) (capL capS capO : Nat) (ls ss : List Fl) (os : List Dop) {W W' : World} (hB : Below W.heap.size W W') (k : Nat) (u : Value) (h : Vcs w adL adS adO capL capS capO ls ss os k u W) : Vcs w adL adS adO capL capS capO ls ss os k u W' :=
  match k, h with
  | 0, h => Empt.below h hB
  | 1, h => h
  | 2, h => h
  | 3, h => RF.below h hB
  | 4, h => Empt.below h hB
  | 5, h => h
  | 6, h => h
  | 7, h => RF.below h hB
  | 8, h => Empt.below h hB
  | 9, h => h
  | 10, h => h
  | 11, h => RO.below h hB
  | 12, h => DB2.below h hB
  | (_ + 13), _ => trivial
theorem Vcs_lt (w : World) (adL adS adO : Option Addr) (capL capS capO : Nat) (ls ss : List Fl) (os : List Dop) {W : World} (k : Nat) (u : Value) (hn : Ncs ls ss os k) (h : Vcs w adL adS adO capL capS capO ls ss os k u W) : ∃ g, u.ownBlock = some g ∧ g < W.heap.size :=
  match k, hn, h with
  | 3, hn, h => RF.lt h hn
  | 7, hn, h => RF.lt h hn
  | 11, hn, h => RO.lt h hn
set_option maxRecDepth 8000 in
set_option maxHeartbeats 8000000 in
theorem l8Copy_any (adL adS adO : Option Addr) (capL capS capO : Nat) (ls ss : List Fl) (os : List Dop) (w : World) (hl : ls.length ≤ 1048576) (hs : ss.length ≤ 1048576) (ho : os.length ≤ 1048576) (H : Dk w adL adS adO ls ss os w) :
    Calls Try.prog 70 #[.agg #[.slice adL ls.length capL, .slice adS ss.length capS, .slice adO os.length capO]] w fun e w' => ∃ v, e = .returned v ∧ DB2 w' w.heap.size v ls ss os ∧ Below w.heap.size w w' := by
  obtain ⟨W2, hW2⟩ : ∃ W2, W2 = (w.alloc (.cells #[.slice adL ls.length capL, .slice adS ss.length capS, .slice adO os.length capO] 33)).alloc (.cells #[.slice none 0 0, .slice none 0 0, .slice none 0 0] 33) := ⟨_, rfl⟩
  obtain ⟨z0, z1, z2, q0, q1, q2, qf, hw2⟩ := box2 w (.slice adL ls.length capL) (.slice adS ss.length capS) (.slice adO os.length capO) 33 33
  rw [← hW2] at z0 z1 z2 q0 q1 q2 qf hw2
  have hb2 : Below w.heap.size w W2 := by rw [hW2]; exact ((Below.refl _ _).alloc (Nat.le_refl _) _).alloc (by simp) _
  have K2 := HIDk (H.later hb2)
  have HB2 := HIDk hb2
  have hx2 : w.heap.size < W2.heap.size := by omega
  have hx3 : w.heap.size + 1 < W2.heap.size := by omega
  clear H hb2
  go_enter Try.func70, Try.ntmps70
  go_wp2_with fail
  rw [← hW2]
  clear hW2
  refine wp_region_midR 13 (fun _ => undef) (fun fq => { tmps := List.toArray (Value.agg #[.slice adL ls.length capL, .slice adS ss.length capS, .slice adO os.length capO] :: Value.pointer (some ⟨w.heap.size, 0, none⟩) :: Value.pointer (some ⟨w.heap.size + 1, 0, none⟩) :: fq 0 :: fq 1 :: fq 2 :: fq 3 :: fq 4 :: fq 5 :: fq 6 :: fq 7 :: fq 8 :: fq 9 :: fq 10 :: fq 11 :: fq 12 :: []), defers := [] }) (Vcs w adL adS adO capL capS capO ls ss os) (fun w' => Below W2.heap.size W2 w') (Ncs ls ss os) (by kernel_rfl) rfl (by kernel_rfl) (by kernel_rfl) rfl (Below.refl _ _).drew ?_ ?_
  · rintro i hi op ho fq w' hG hpre hap
    have HG : Hid (Below W2.heap.size W2 w') := hG
    have x0 : w'.cell? ⟨w.heap.size, 0, none⟩ = some (.slice adL ls.length capL) := kept hG hx2 z0
    have x1 : w'.cell? ⟨w.heap.size, 1, none⟩ = some (.slice adS ss.length capS) := kept hG hx2 z1
    have x2 : w'.cell? ⟨w.heap.size, 2, none⟩ = some (.slice adO os.length capO) := kept hG hx2 z2
    have HK := HIDk (K2.out.later hG)
    have hsz : w.heap.size + 2 ≤ w'.heap.size := Nat.le_trans hw2 hG.size
    have HM : Hid (∀ e ∈ op.after, Region.binds .any e = true → _) := hpre
    have HA : Hid (∀ e ∈ op.after, Region.binds .any e = true → _) := hap
    clear hG hpre hap z0 z1 z2
    have hc : i = 0 ∨ i = 1 ∨ i = 2 ∨ i = 3 ∨ i = 4 ∨ i = 5 ∨ i = 6 ∨ i = 7 ∨ i = 8 ∨ i = 9 ∨ i = 10 ∨ i = 11 ∨ i = 12 := by omega
    clear hi
    rcases hc with rfl | rfl | rfl | rfl | rfl | rfl | rfl | rfl | rfl | rfl | rfl | rfl | rfl
    · obtain rfl := Option.some.inj ho
      clear ho HM HA
      refine wpOp_step rfl (fun K hK => ?_)
      have HQ : Hid (∀ a w, _ → K a w) := hK
      clear hK
      dsimp only
      go_simp
      have hB : Below w'.heap.size w' (w'.alloc (.cells #[] 93)) := (Below.refl _ _).alloc (Nat.le_refl _) _
      exact HQ.out _ _ ⟨_, by simp [upd], HG.out.trans (hB.mono HG.out.size), .inr ⟨_, rfl, heap_alloc_new _ _, hsz⟩, Vcs_mono w adL adS adO capL capS capO ls ss os hB, fun hn => by cases hn⟩
    · obtain rfl := Option.some.inj ho
      clear ho HM HA
      refine wpOp_step rfl (fun K hK => ?_)
      have HQ : Hid (∀ a w, _ → K a w) := hK
      clear hK
      dsimp only
      go_simp
      exact HQ.out _ _ ⟨.pointer (some ⟨w.heap.size, 0, none⟩), by simp [upd], HG.out, rfl, fun k u hu => hu, fun hn => by cases hn⟩
    · obtain rfl := Option.some.inj ho
      have e1 : fq 1 = .pointer (some ⟨w.heap.size, 0, none⟩) := HM.out { on := 1, ground := .data } (by simp) rfl
      clear ho HM HA
      refine wpOp_step rfl (fun K hK => ?_)
      have HQ : Hid (∀ a w, _ → K a w) := hK
      clear hK
      simp only [e1]
      go_simp
      exact HQ.out _ _ ⟨.slice adL ls.length capL, by simp [upd, e1], HG.out, rfl, fun k u hu => hu, fun hn => by cases hn⟩
    · obtain rfl := Option.some.inj ho
      have y0 : Empt w' (w.heap.size + 2) 93 (fq 0) := HM.out { on := 0, ground := .data } (by simp) rfl
      have e2 : fq 2 = .slice adL ls.length capL := HM.out { on := 2, ground := .data } (by simp) rfl
      clear ho HM HA
      obtain ⟨v', w'', hr, hB, hN⟩ := appF w' adL capL ls HK.out.live hl (w.heap.size + 2) hsz (fq 0) (y0) _
      refine wpOp_append_run rfl rfl _ _ _ _ rfl (fq 0) (.slice adL ls.length capL) v' w'' rfl e2 hr ?_
      exact ⟨v', by simp [upd, Act.put], HG.out.trans (hB.mono HG.out.size), newF hN hsz, Vcs_mono w adL adS adO capL capS capO ls ss os hB, fun hn k u hk hu => newF_apart hN hn (Vcs_lt w adL adS adO capL capS capO ls ss os k u hk hu)⟩
    · obtain rfl := Option.some.inj ho
      clear ho HM HA
      refine wpOp_step rfl (fun K hK => ?_)
      have HQ : Hid (∀ a w, _ → K a w) := hK
      clear hK
      dsimp only
      go_simp
      have hB : Below w'.heap.size w' (w'.alloc (.cells #[] 93)) := (Below.refl _ _).alloc (Nat.le_refl _) _
      exact HQ.out _ _ ⟨_, by simp [upd], HG.out.trans (hB.mono HG.out.size), .inr ⟨_, rfl, heap_alloc_new _ _, hsz⟩, Vcs_mono w adL adS adO capL capS capO ls ss os hB, fun hn => by cases hn⟩
    · obtain rfl := Option.some.inj ho
      clear ho HM HA
      refine wpOp_step rfl (fun K hK => ?_)
      have HQ : Hid (∀ a w, _ → K a w) := hK
      clear hK
      dsimp only
      go_simp
      exact HQ.out _ _ ⟨.pointer (some ⟨w.heap.size, 1, none⟩), by simp [upd], HG.out, rfl, fun k u hu => hu, fun hn => by cases hn⟩
    · obtain rfl := Option.some.inj ho
      have e5 : fq 5 = .pointer (some ⟨w.heap.size, 1, none⟩) := HM.out { on := 5, ground := .data } (by simp) rfl
      clear ho HM HA
      refine wpOp_step rfl (fun K hK => ?_)
      have HQ : Hid (∀ a w, _ → K a w) := hK
      clear hK
      simp only [e5]
      go_simp
      exact HQ.out _ _ ⟨.slice adS ss.length capS, by simp [upd, e5], HG.out, rfl, fun k u hu => hu, fun hn => by cases hn⟩
    · obtain rfl := Option.some.inj ho
      have y4 : Empt w' (w.heap.size + 2) 93 (fq 4) := HM.out { on := 4, ground := .data } (by simp) rfl
      have e6 : fq 6 = .slice adS ss.length capS := HM.out { on := 6, ground := .data } (by simp) rfl
      clear ho HM HA
      obtain ⟨v', w'', hr, hB, hN⟩ := appF w' adS capS ss HK.out.safe hs (w.heap.size + 2) hsz (fq 4) (y4) _
      refine wpOp_append_run rfl rfl _ _ _ _ rfl (fq 4) (.slice adS ss.length capS) v' w'' rfl e6 hr ?_
      exact ⟨v', by simp [upd, Act.put], HG.out.trans (hB.mono HG.out.size), newF hN hsz, Vcs_mono w adL adS adO capL capS capO ls ss os hB, fun hn k u hk hu => newF_apart hN hn (Vcs_lt w adL adS adO capL capS capO ls ss os k u hk hu)⟩
    · obtain rfl := Option.some.inj ho
      clear ho HM HA
      refine wpOp_step rfl (fun K hK => ?_)
      have HQ : Hid (∀ a w, _ → K a w) := hK
      clear hK
      dsimp only
      go_simp
      have hB : Below w'.heap.size w' (w'.alloc (.cells #[] 37)) := (Below.refl _ _).alloc (Nat.le_refl _) _
      exact HQ.out _ _ ⟨_, by simp [upd], HG.out.trans (hB.mono HG.out.size), .inr ⟨_, rfl, heap_alloc_new _ _, hsz⟩, Vcs_mono w adL adS adO capL capS capO ls ss os hB, fun hn => by cases hn⟩
    · obtain rfl := Option.some.inj ho
      clear ho HM HA
      refine wpOp_step rfl (fun K hK => ?_)
      have HQ : Hid (∀ a w, _ → K a w) := hK
      clear hK
      dsimp only
      go_simp
      exact HQ.out _ _ ⟨.pointer (some ⟨w.heap.size, 2, none⟩), by simp [upd], HG.out, rfl, fun k u hu => hu, fun hn => by cases hn⟩
    · obtain rfl := Option.some.inj ho
      have e9 : fq 9 = .pointer (some ⟨w.heap.size, 2, none⟩) := HM.out { on := 9, ground := .data } (by simp) rfl
      clear ho HM HA
      refine wpOp_step rfl (fun K hK => ?_)
      have HQ : Hid (∀ a w, _ → K a w) := hK
      clear hK
      simp only [e9]
      go_simp
      exact HQ.out _ _ ⟨.slice adO os.length capO, by simp [upd, e9], HG.out, rfl, fun k u hu => hu, fun hn => by cases hn⟩
    · obtain rfl := Option.some.inj ho
      have y8 : Empt w' (w.heap.size + 2) 37 (fq 8) := HM.out { on := 8, ground := .data } (by simp) rfl
      have e10 : fq 10 = .slice adO os.length capO := HM.out { on := 10, ground := .data } (by simp) rfl
      clear ho HM HA
      obtain ⟨v', w'', hr, hB, hN, hOw⟩ := appO w' adO capO os HK.out.ops ho (w.heap.size + 2) hsz (fq 8) (y8) _
      refine wpOp_append_run rfl rfl _ _ _ _ rfl (fq 8) (.slice adO os.length capO) v' w'' rfl e10 hr ?_
      exact ⟨v', by simp [upd, Act.put], HG.out.trans (hB.mono HG.out.size), newO hN hOw hsz, Vcs_mono w adL adS adO capL capS capO ls ss os hB, fun hn k u hk hu => newO_apart hN hn (Vcs_lt w adL adS adO capL capS capO ls ss os k u hk hu)⟩
    · obtain rfl := Option.some.inj ho
      have y3 : RF w' (w.heap.size + 2) (fq 3) ls := HM.out { on := 3, ground := .data } (by simp) rfl
      have y7 : RF w' (w.heap.size + 2) (fq 7) ss := HM.out { on := 7, ground := .data } (by simp) rfl
      have y11 : RO w' (w.heap.size + 2) (fq 11) os := HM.out { on := 11, ground := .data } (by simp) rfl
      have n01 := HA.out { on := 3, ground := .data } (by simp) rfl { on := 7, ground := .data } (by simp) rfl (by decide)
      have n02 := HA.out { on := 3, ground := .data } (by simp) rfl { on := 11, ground := .data } (by simp) rfl (by decide)
      have n12 := HA.out { on := 7, ground := .data } (by simp) rfl { on := 11, ground := .data } (by simp) rfl (by decide)
      clear ho HM HA
      refine wpOp_step rfl (fun K hK => ?_)
      have HQ : Hid (∀ a w, _ → K a w) := hK
      clear hK
      obtain ⟨ad3, cap3, e3, c3, s3, g3⟩ := y3
      obtain ⟨ad7, cap7, e7, c7, s7, g7⟩ := y7
      obtain ⟨ad11, cap11, e11, w11, s11, g11⟩ := y11
      rw [e3, e7] at n01
      rw [e3, e11] at n02
      rw [e7, e11] at n12
      have HS := HIDk (own_mk s3 s7 s11 g3 g7 g11 n01 n02 n12)
      clear s3 g3 s7 g7 s11 g11 n01 n02 n12
      obtain ⟨w11, t11⟩ := w11
      rw [e11] at w11
      have HW := HIDk w11
      clear w11
      simp only [e3, e7, e11]
      go_simp
      exact HQ.out _ _ ⟨.agg #[.slice ad3 ls.length cap3, .slice ad7 ss.length cap7, .slice ad11 os.length cap11], by simp [upd, e3, e7, e11], HG.out, ⟨_, _, _, _, _, _, rfl, HS.out, ⟨c7, c3⟩, HW.out, t11⟩, fun k u hu => hu, fun hn => by cases hn⟩
  · rintro op ho fq w' hG hV hR
    obtain rfl := Option.some.inj ho
    obtain ⟨a1, a2, a3, p1, p2, p3, e12, hS, hcS, hOw, hOz⟩ : DB2 w' (w.heap.size + 2) (fq 12) ls ss os := hV 12 (by omega)
    have HOw := HIDk hOw
    clear hOw
    have r0 : (w'.cell? ⟨w.heap.size + 1, 0, none⟩) = some (.slice none 0 0) := kept hG hx3 q0
    have r1 : (w'.cell? ⟨w.heap.size + 1, 1, none⟩) = some (.slice none 0 0) := kept hG hx3 q1
    have r2 : (w'.cell? ⟨w.heap.size + 1, 2, none⟩) = some (.slice none 0 0) := kept hG hx3 q2
    have fz : ∀ i, w'.frozen? ⟨w.heap.size + 1, i, none⟩ = false := fun i => keptF hG hx3 (qf i)
    have HS := HIDk hS
    have HG := HIDk hG
    clear hS hV hR hG ho q0 q1 q2 qf z0 z1 z2
    refine wpOp_step rfl (fun K hK => ?_)
    have HQ : Hid (∀ a w, _ → K a w) := hK
    clear hK
    simp only [e12]
    go_simp
    refine HQ.out _ _ ?_
    go_wp2
    refine bodyPost_ret (v := .agg #[.slice a1 ls.length p1, .slice a2 ss.length p2, .slice a3 os.length p3]) (by simp [results, Try.results70, go_sem, *]) rfl ⟨_, rfl, ⟨_, _, _, _, _, _, rfl, ?_, hcS, own_base (own_set (own_set (own_set HOw.out (by omega) _ _) (by omega) _ _) (by omega) _ _) (by omega), hOz⟩, ?_⟩
    · exact (own_box (own_box (own_box HS.out (by omega) _ _) (by omega) _ _) (by omega) _ _).mono (by omega)
    · exact (((HB2.out.trans (HG.out.mono HB2.out.size)).setCell (p := ⟨w.heap.size + 1, 0, none⟩) (by simp) _).setCell (p := ⟨w.heap.size + 1, 1, none⟩) (by simp) _).setCell (p := ⟨w.heap.size + 1, 2, none⟩) (by simp) _
end Go.Proofs.Ytbfimfmfdllejaa
