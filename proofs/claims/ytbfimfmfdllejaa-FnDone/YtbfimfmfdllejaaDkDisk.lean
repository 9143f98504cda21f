/- Contracts of the laws' own functions over a disk: its size, its copy, that it is as another. -/
import Derived.Test.YtbfimfmfdllejaaDkLaw
import Derived.Test.YtbfimfmfdllejaaSpecDk6
namespace Go.Proofs.Ytbfimfmfdllejaa
open Go.ChangeShapes Go.WideShapes Go.ChangeAt Go.RowKit Go.Maps

theorem cl_new (w : World) (a b c : Value) (t : TypeId) : Cl w a b c (w.alloc (.cells #[a, b, c] t)) := by
  refine ⟨?_, ?_, ?_, ?_⟩ <;> simp
/-- what a right size says of a disk -/
def SmallD (ls ss : List Fl) (os : List Dop) : Prop := (ls.length ≤ 1048576 ∧ ∀ a ∈ ls, a.small) ∧ (ss.length ≤ 1048576 ∧ ∀ a ∈ ss, a.small) ∧ os.length ≤ 1048576 ∧ ∀ a ∈ os, a.small
def SzPost (w : World) (left : Int) (P : Prop) (e : Ending) (w' : World) : Prop := (∃ n : Int, e = .returned (.int .i64 n) ∧ (n = -1 ∨ 0 ≤ n ∧ n ≤ left ∧ P)) ∧ Below w.heap.size w w'
theorem sz_bad {w w' : World} {left : Int} {P : Prop} (h : Below w.heap.size w w') : SzPost w left P (.returned (.int .i64 (-1))) w' := ⟨⟨-1, rfl, .inl rfl⟩, h⟩
theorem sz_good {w w' : World} {left n : Int} {P : Prop} (h0 : 0 ≤ n) (h1 : n ≤ left) (hp : P) (h : Below w.heap.size w w') : SzPost w left P (.returned (.int .i64 n)) w' := ⟨⟨n, rfl, .inr ⟨h0, h1, hp⟩⟩, h⟩

set_option maxHeartbeats 2000000 in
theorem szDisk_any (adL adS adO : Option Addr) (capL capS capO : Nat) (ls ss : List Fl) (os : List Dop) (left : Int) (w : World) (hl : ls.length ≤ maxLen) (hs : ss.length ≤ maxLen) (ho : os.length ≤ maxLen)
    (H : Dk w adL adS adO ls ss os w) (fl : ∀ f ∈ ls, f.fits) (fs : ∀ f ∈ ss, f.fits) (fo : ∀ o ∈ os, o.fits) (h0 : 0 ≤ left) (h1 : left ≤ 1048576) :
    Calls Try.prog 9 #[.agg #[.slice adL ls.length capL, .slice adS ss.length capS, .slice adO os.length capO], .int .i64 left] w (SzPost w left (SmallD ls ss os)) := by
  obtain ⟨W, hW⟩ : ∃ W, W = w.alloc (.cells #[.slice adL ls.length capL, .slice adS ss.length capS, .slice adO os.length capO] 25) := ⟨_, rfl⟩
  have C0 : Hid (Cl w (.slice adL ls.length capL) (.slice adS ss.length capS) (.slice adO os.length capO) W) := by rw [hW]; exact cl_new _ _ _ _ _
  have K0 : Hid (Dk w adL adS adO ls ss os W) := H.later (by rw [hW]; exact (Below.refl _ _).alloc (Nat.le_refl _) _)
  have HFL := HIDk fl
  have HFS := HIDk fs
  have HFO := HIDk fo
  clear H fl fs fo
  go_enter Try.func9, Try.ntmps9
  go_wp2_with fail
  rw [← hW]
  clear hW
  refine (szFileS_any adL capL ls left W hl K0.out.live HFL.out h0 h1).mono ?_
  rintro e w1 ⟨⟨n1, rfl, hn1⟩, hb1⟩
  have K1 := HIDk (K0.out.later hb1)
  have C1 := HIDk (C0.out.later hb1)
  have y1 := C1.out.c1
  clear hb1 K0 C0
  rcases hn1 with rfl | ⟨a0, a1, hp1⟩
  · go_wp2
    go_ret
    exact sz_bad K1.out.bel
  have HP1 := HIDk hp1
  have d1 : decide (n1 < 0) = false := by simp; omega
  clear hp1
  go_wp2_with fail
  refine (szFileS_any adS capS ss n1 w1 hs K1.out.safe HFS.out a0 (by omega)).mono ?_
  rintro e w2 ⟨⟨n2, rfl, hn2⟩, hb2⟩
  have K2 := HIDk (K1.out.later hb2)
  have C2 := HIDk (C1.out.later hb2)
  have y2 := C2.out.c2
  clear hb2 K1 C1 y1
  rcases hn2 with rfl | ⟨b0, b1, hp2⟩
  · go_wp2
    go_ret
    exact sz_bad K2.out.bel
  have HP2 := HIDk hp2
  have d2 : decide (n2 < 0) = false := by simp; omega
  clear hp2
  go_wp2_with fail
  refine (szDOpS_any adO capO os n2 w2 ho K2.out.ops HFO.out b0 (by omega)).mono ?_
  rintro e w3 ⟨⟨n3, rfl, hn3⟩, hb3⟩
  have K3 := HIDk (K2.out.later hb3)
  clear hb3 K2 C2 y2
  rcases hn3 with rfl | ⟨c0, c1, hp3⟩
  · go_wp2
    go_ret
    exact sz_bad K3.out.bel
  have HP3 := HIDk hp3
  have d3 : decide (n3 < 0) = false := by simp; omega
  clear hp3
  go_wp2
  go_ret
  exact sz_good c0 (by omega) ⟨HP1.out, HP2.out, HP3.out⟩ K3.out.bel

set_option maxHeartbeats 2000000 in
theorem eqDisk_same (adL adS adO adL' adS' adO' : Option Addr) (capL capS capO capL' capS' capO' : Nat) (ls ss : List Fl) (os : List Dop) (w : World) (hl : ls.length ≤ 1048576) (hs : ss.length ≤ 1048576) (ho : os.length ≤ 1048576)
    (H : Dk w adL adS adO ls ss os w) (H' : Dk w adL' adS' adO' ls ss os w) :
    Calls Try.prog 15 #[.agg #[.slice adL ls.length capL, .slice adS ss.length capS, .slice adO os.length capO], .agg #[.slice adL' ls.length capL', .slice adS' ss.length capS', .slice adO' os.length capO']] w fun e w' => e = .returned (.bool true) ∧ Below w.heap.size w w' := by
  obtain ⟨W, hW⟩ : ∃ W, W = w.alloc (.cells #[.slice adL ls.length capL, .slice adS ss.length capS, .slice adO os.length capO] 33) := ⟨_, rfl⟩
  obtain ⟨X, hX⟩ : ∃ X, X = W.alloc (.cells #[.slice adL' ls.length capL', .slice adS' ss.length capS', .slice adO' os.length capO'] 33) := ⟨_, rfl⟩
  have hWs : W.heap.size = w.heap.size + 1 := by rw [hW]; simp
  have hbX : Below W.heap.size W X := by rw [hX]; exact (Below.refl _ _).alloc (Nat.le_refl _) _
  have hbW : Below w.heap.size w W := by rw [hW]; exact (Below.refl _ _).alloc (Nat.le_refl _) _
  have C0 : Hid (Cl w (.slice adL ls.length capL) (.slice adS ss.length capS) (.slice adO os.length capO) X) := Cl.later (by rw [hW]; exact cl_new _ _ _ _ _) hbX
  have E0 : Hid (Cl W (.slice adL' ls.length capL') (.slice adS' ss.length capS') (.slice adO' os.length capO') X) := by rw [hX]; exact cl_new _ _ _ _ _
  have K0 : Hid (Dk w adL adS adO ls ss os X) := (H.later hbW).later hbX
  have L0 : Hid (Dk w adL' adS' adO' ls ss os X) := (H'.later hbW).later hbX
  clear H H' hbX hbW
  go_enter Try.func15, Try.ntmps15
  go_wp2_with fail
  rw [← hW, ← hX]
  clear hW hX
  refine (eqFileS_same adL adL' capL capL' ls X hl K0.out.live L0.out.live).mono ?_
  rintro e w1 ⟨rfl, hb1⟩
  have K1 := HIDk (K0.out.later hb1)
  have L1 := HIDk (L0.out.later hb1)
  have C1 := HIDk (C0.out.later hb1)
  have E1 := HIDk (E0.out.later hb1)
  have y1 := C1.out.c1
  have z1 := E1.out.c1
  rw [hWs] at z1
  clear hb1 K0 L0 C0 E0
  go_wp2_with fail
  refine (eqFileS_same adS adS' capS capS' ss w1 hs K1.out.safe L1.out.safe).mono ?_
  rintro e w2 ⟨rfl, hb2⟩
  have K2 := HIDk (K1.out.later hb2)
  have L2 := HIDk (L1.out.later hb2)
  have y2 := (C1.out.later hb2).c2
  have z2 := (E1.out.later hb2).c2
  rw [hWs] at z2
  clear hb2 K1 L1 C1 E1 y1 z1
  go_wp2_with fail
  refine (eqDOpS_same adO adO' capO capO' os w2 ho K2.out.ops L2.out.ops).mono ?_
  rintro e w3 ⟨rfl, hb3⟩
  have K3 := HIDk (K2.out.later hb3)
  clear hb3 K2 L2 y2 z2
  go_wp2
  go_ret
  exact ⟨rfl, K3.out.bel⟩

/-- what toDisk leaves: a disk in rows of its own, each free to be written -/
def ToPost (w : World) (ls ss : List Fl) (os : List Dop) (e : Ending) (w' : World) : Prop :=
  ∃ gL gS gO : Nat, e = .returned (.agg #[.slice (some ⟨gL, 0, none⟩) ls.length ls.length, .slice (some ⟨gS, 0, none⟩) ss.length ss.length, .slice (some ⟨gO, 0, none⟩) os.length os.length]) ∧ w.heap.size ≤ gL ∧ gL ≤ gS ∧ (gS ≤ gO ∧ (ls ≠ [] → gL < gS ∧ Free w' gL) ∧ (ss ≠ [] → gS < gO ∧ Free w' gS) ∧ (os ≠ [] → Free w' gO)) ∧ SlF w' (some ⟨gL, 0, none⟩) ls ∧ SlF w' (some ⟨gS, 0, none⟩) ss ∧ SlO w' (some ⟨gO, 0, none⟩) os ∧ Below w.heap.size w w'

theorem SlF.put {W : World} {b g o : Nat} {v : Value} {xs : List Fl} (h : SlF W (some ⟨b, 0, none⟩) xs) (hn : g ≠ b) : SlF (W.setCell ⟨g, o, none⟩ v) (some ⟨b, 0, none⟩) xs := by
  rcases h with h | ⟨b', off, e, hb, hr⟩
  · exact .inl h
  · injection e with e; injection e with e1 e2
    subst e1; subst e2
    exact .inr ⟨_, _, rfl, by simpa using hb, fun i hi => (hr i hi).same fun o' => setB2 hn⟩
theorem SlO.put {W : World} {b g o : Nat} {v : Value} {xs : List Dop} (h : SlO W (some ⟨b, 0, none⟩) xs) (hn : g ≠ b) : SlO (W.setCell ⟨g, o, none⟩ v) (some ⟨b, 0, none⟩) xs := by
  rcases h with h | ⟨b', off, e, hb, hr⟩
  · exact .inl h
  · injection e with e; injection e with e1 e2
    subst e1; subst e2
    exact .inr ⟨_, _, rfl, by simpa using hb, fun i hi => (hr i hi).same fun o' => setB2 hn⟩
theorem free_set {w : World} {g : Nat} (h : Free w g) (a : Addr) (v : Value) : Free (w.setCell a v) g := fun j => by simpa using h j
theorem SlF.lt0 {w : World} {g : Nat} {xs : List Fl} (h : SlF w (some ⟨g, 0, none⟩) xs) (hn : xs ≠ []) : g < w.heap.size := by
  rcases h with h | ⟨b, off, e, hb, -⟩
  · exact absurd h hn
  · injection e with e; injection e with e; omega
/-- the three blocks that toDisk works in: the disk that came, the answer, the disk that is filled in -/
structure B3 (n : Nat) (d0 d1 d2 a b c : Value) (W : World) : Prop where
  sz : n + 3 ≤ W.heap.size
  i0 : W.cell? ⟨n, 0, none⟩ = some d0
  i1 : W.cell? ⟨n, 1, none⟩ = some d1
  i2 : W.cell? ⟨n, 2, none⟩ = some d2
  r0 : (W.cell? ⟨n + 1, 0, none⟩).isSome = true
  r1 : (W.cell? ⟨n + 1, 1, none⟩).isSome = true
  r2 : (W.cell? ⟨n + 1, 2, none⟩).isSome = true
  o0 : W.cell? ⟨n + 1 + 1, 0, none⟩ = some a
  o1 : W.cell? ⟨n + 1 + 1, 1, none⟩ = some b
  o2 : W.cell? ⟨n + 1 + 1, 2, none⟩ = some c
  f1 : ∀ i, W.frozen? ⟨n + 1, i, none⟩ = false
  f2 : ∀ i, W.frozen? ⟨n + 1 + 1, i, none⟩ = false
theorem B3.later {n : Nat} {d0 d1 d2 a b c : Value} {W W' : World} (h : B3 n d0 d1 d2 a b c W) (hb : Below W.heap.size W W') : B3 n d0 d1 d2 a b c W' := by
  obtain ⟨s, i0, i1, i2, r0, r1, r2, o0, o1, o2, f1, f2⟩ := h
  have hc := fun (m o : Nat) (hm : m < W.heap.size) => hb.cell (p := ⟨m, o, none⟩) hm
  refine ⟨Nat.le_trans s hb.size, kept hb (by omega) i0, kept hb (by omega) i1, kept hb (by omega) i2, ?_, ?_, ?_, kept hb (by omega) o0, kept hb (by omega) o1, kept hb (by omega) o2, fun i => keptF hb (by omega) (f1 i), fun i => keptF hb (by omega) (f2 i)⟩
  · rw [hc _ _ (by omega)]; exact r0
  · rw [hc _ _ (by omega)]; exact r1
  · rw [hc _ _ (by omega)]; exact r2
theorem B3.set0 {n : Nat} {d0 d1 d2 a b c : Value} {W : World} (v : Value) (h : B3 n d0 d1 d2 a b c W) : B3 n d0 d1 d2 v b c (W.setCell ⟨n + 1 + 1, 0, none⟩ v) := by
  obtain ⟨s, i0, i1, i2, r0, r1, r2, o0, o1, o2, f1, f2⟩ := h
  exact ⟨by simpa using s, by rw [setB2 (by omega)]; exact i0, by rw [setB2 (by omega)]; exact i1, by rw [setB2 (by omega)]; exact i2, by rw [setB2 (by omega)]; exact r0, by rw [setB2 (by omega)]; exact r1, by rw [setB2 (by omega)]; exact r2, setS' o0, by rw [setO' (by omega)]; exact o1, by rw [setO' (by omega)]; exact o2, fun i => by simpa using f1 i, fun i => by simpa using f2 i⟩
theorem B3.set1 {n : Nat} {d0 d1 d2 a b c : Value} {W : World} (v : Value) (h : B3 n d0 d1 d2 a b c W) : B3 n d0 d1 d2 a v c (W.setCell ⟨n + 1 + 1, 1, none⟩ v) := by
  obtain ⟨s, i0, i1, i2, r0, r1, r2, o0, o1, o2, f1, f2⟩ := h
  exact ⟨by simpa using s, by rw [setB2 (by omega)]; exact i0, by rw [setB2 (by omega)]; exact i1, by rw [setB2 (by omega)]; exact i2, by rw [setB2 (by omega)]; exact r0, by rw [setB2 (by omega)]; exact r1, by rw [setB2 (by omega)]; exact r2, by rw [setO' (by omega)]; exact o0, setS' o1, by rw [setO' (by omega)]; exact o2, fun i => by simpa using f1 i, fun i => by simpa using f2 i⟩
theorem B3.set2 {n : Nat} {d0 d1 d2 a b c : Value} {W : World} (v : Value) (h : B3 n d0 d1 d2 a b c W) : B3 n d0 d1 d2 a b v (W.setCell ⟨n + 1 + 1, 2, none⟩ v) := by
  obtain ⟨s, i0, i1, i2, r0, r1, r2, o0, o1, o2, f1, f2⟩ := h
  exact ⟨by simpa using s, by rw [setB2 (by omega)]; exact i0, by rw [setB2 (by omega)]; exact i1, by rw [setB2 (by omega)]; exact i2, by rw [setB2 (by omega)]; exact r0, by rw [setB2 (by omega)]; exact r1, by rw [setB2 (by omega)]; exact r2, by rw [setO' (by omega)]; exact o0, by rw [setO' (by omega)]; exact o1, setS' o2, fun i => by simpa using f1 i, fun i => by simpa using f2 i⟩

theorem fz0 (w : World) (C : Array Value) (t : TypeId) (k : Nat) : (w.alloc (.cells C t)).frozen? ⟨w.heap.size, k, none⟩ = false := by simp
theorem b3_new (w : World) (d0 d1 d2 x a b c : Value) (t t' t'' : TypeId) : B3 w.heap.size d0 d1 d2 a b c (((w.alloc (.cells #[d0, d1, d2] t)).alloc (.cells #[x, x, x] t')).alloc (.cells #[a, b, c] t'')) := by
  have h0 : ∀ k v, #[d0, d1, d2][k]? = some v → (w.alloc (.cells #[d0, d1, d2] t)).cell? ⟨w.heap.size, k, none⟩ = some v := fun k v h => by
    have := World.cell?_alloc_mark w #[d0, d1, d2] t (0, 0) k
    rw [h] at this; exact this
  have h1 : ∀ k v, #[x, x, x][k]? = some v → ((w.alloc (.cells #[d0, d1, d2] t)).alloc (.cells #[x, x, x] t')).cell? ⟨w.heap.size + 1, k, none⟩ = some v := fun k v h => by
    have := World.cell?_alloc_mark (w.alloc (.cells #[d0, d1, d2] t)) #[x, x, x] t' (0, 0) k
    rw [World.size_alloc, h] at this; exact this
  have h2 : ∀ k v, #[a, b, c][k]? = some v → (((w.alloc (.cells #[d0, d1, d2] t)).alloc (.cells #[x, x, x] t')).alloc (.cells #[a, b, c] t'')).cell? ⟨w.heap.size + 1 + 1, k, none⟩ = some v := fun k v h => by
    have := World.cell?_alloc_mark ((w.alloc (.cells #[d0, d1, d2] t)).alloc (.cells #[x, x, x] t')) #[a, b, c] t'' (0, 0) k
    rw [World.size_alloc, World.size_alloc, h] at this; exact this
  have f1 : ∀ k, ((w.alloc (.cells #[d0, d1, d2] t)).alloc (.cells #[x, x, x] t')).frozen? ⟨w.heap.size + 1, k, none⟩ = false := fun k => by
    have : ((w.alloc (.cells #[d0, d1, d2] t)).alloc (.cells #[x, x, x] t')).frozen? ⟨(w.alloc (.cells #[d0, d1, d2] t)).heap.size, k, none⟩ = false := by simp
    rw [World.size_alloc] at this; exact this
  have f2 : ∀ k, (((w.alloc (.cells #[d0, d1, d2] t)).alloc (.cells #[x, x, x] t')).alloc (.cells #[a, b, c] t'')).frozen? ⟨w.heap.size + 1 + 1, k, none⟩ = false := fun k => by
    have := fz0 ((w.alloc (.cells #[d0, d1, d2] t)).alloc (.cells #[x, x, x] t')) #[a, b, c] t'' k
    rw [World.size_alloc, World.size_alloc] at this; exact this
  have b1 : Below (w.alloc (.cells #[d0, d1, d2] t)).heap.size (w.alloc (.cells #[d0, d1, d2] t)) ((w.alloc (.cells #[d0, d1, d2] t)).alloc (.cells #[x, x, x] t')) := (Below.refl _ _).alloc (Nat.le_refl _) _
  have b2 : Below ((w.alloc (.cells #[d0, d1, d2] t)).alloc (.cells #[x, x, x] t')).heap.size ((w.alloc (.cells #[d0, d1, d2] t)).alloc (.cells #[x, x, x] t')) (((w.alloc (.cells #[d0, d1, d2] t)).alloc (.cells #[x, x, x] t')).alloc (.cells #[a, b, c] t'')) := (Below.refl _ _).alloc (Nat.le_refl _) _
  refine ⟨by simp only [World.size_alloc]; omega, kept b2 (by simp only [World.size_alloc]; omega) (kept b1 (by simp only [World.size_alloc]; omega) (h0 0 _ rfl)), kept b2 (by simp only [World.size_alloc]; omega) (kept b1 (by simp only [World.size_alloc]; omega) (h0 1 _ rfl)), kept b2 (by simp only [World.size_alloc]; omega) (kept b1 (by simp only [World.size_alloc]; omega) (h0 2 _ rfl)), ?_, ?_, ?_, h2 0 _ rfl, h2 1 _ rfl, h2 2 _ rfl, fun i => keptF b2 (by simp only [World.size_alloc]; omega) (f1 i), f2⟩
  · rw [kept b2 (by simp only [World.size_alloc]; omega) (h1 0 _ rfl)]; rfl
  · rw [kept b2 (by simp only [World.size_alloc]; omega) (h1 1 _ rfl)]; rfl
  · rw [kept b2 (by simp only [World.size_alloc]; omega) (h1 2 _ rfl)]; rfl

set_option maxHeartbeats 2000000 in
theorem toDisk_any (adL adS adO : Option Addr) (capL capS capO : Nat) (ls ss : List Fl) (os : List Dop) (w : World) (hl : ls.length ≤ 1048576) (hs : ss.length ≤ 1048576) (ho : os.length ≤ 1048576)
    (H : Dk w adL adS adO ls ss os w) :
    Calls Try.prog 12 #[.agg #[.slice adL ls.length capL, .slice adS ss.length capS, .slice adO os.length capO]] w (ToPost w ls ss os) := by
  obtain ⟨W, hW⟩ : ∃ W, W = ((w.alloc (.cells #[.slice adL ls.length capL, .slice adS ss.length capS, .slice adO os.length capO] 25)).alloc (.cells #[.slice none 0 0, .slice none 0 0, .slice none 0 0] 33)).alloc (.cells #[.slice none 0 0, .slice none 0 0, .slice none 0 0] 33) := ⟨_, rfl⟩
  have hb0 : Below w.heap.size w W := by rw [hW]; exact (((Below.refl w.heap.size w).alloc (Nat.le_refl _) _).alloc (by simp) _).alloc (by simp; omega) _
  have T0 : Hid (B3 w.heap.size (.slice adL ls.length capL) (.slice adS ss.length capS) (.slice adO os.length capO) (.slice none 0 0) (.slice none 0 0) (.slice none 0 0) W) := by
    show B3 _ _ _ _ _ _ _ _
    rw [hW]
    exact b3_new _ _ _ _ _ _ _ _ _ _ _
  have HH := HIDk H
  have HB0 := HIDk hb0
  clear H hb0
  go_enter Try.func12, Try.ntmps12
  go_wp2_with fail
  rw [← hW]
  clear hW
  refine (toFileS_any adL capL ls W hl (HH.out.later HB0.out).live).mono ?_
  rintro e w1 ⟨rfl, hs1, hf1, hb1⟩
  have hz0 := T0.out.sz
  have T1 := HIDk (T0.out.later hb1)
  have HB1 : Hid (Below w.heap.size w w1) := HB0.out.trans (hb1.mono HB0.out.size)
  have x0 := T1.out.o0
  have f2 := T1.out.f2
  have gz1 := hb1.size
  obtain ⟨X1, hX1⟩ : ∃ X1, X1 = w1.setCell ⟨w.heap.size + 1 + 1, 0, none⟩ (.slice (some ⟨W.heap.size, 0, none⟩) ls.length ls.length) := ⟨_, rfl⟩
  have TX1 : Hid (B3 w.heap.size (.slice adL ls.length capL) (.slice adS ss.length capS) (.slice adO os.length capO) (.slice (some ⟨W.heap.size, 0, none⟩) ls.length ls.length) (.slice none 0 0) (.slice none 0 0) X1) := by rw [hX1]; exact T1.out.set0 _
  have S1 : Hid (SlF X1 (some ⟨W.heap.size, 0, none⟩) ls) := by rw [hX1]; exact hs1.put (by omega)
  have BX1 : Hid (Below w.heap.size w X1) := by rw [hX1]; exact HB1.out.setCell (p := ⟨w.heap.size + 1 + 1, 0, none⟩) (by simp; omega) _
  have gx1 : W.heap.size ≤ X1.heap.size := by rw [hX1]; simpa using gz1
  have E1 : Hid (ls ≠ [] → W.heap.size < X1.heap.size ∧ Free X1 W.heap.size) := fun hn => ⟨by rw [hX1]; simpa using hs1.lt0 hn, by rw [hX1]; exact free_set hf1 _ _⟩
  clear hs1 hf1 hb1 T0 T1 HB0 HB1
  have i1 := TX1.out.i1
  rw [hX1] at i1
  go_wp2_with fail
  rw [← hX1]
  clear hX1 x0 f2 i1
  refine (toFileS_any adS capS ss X1 hs (HH.out.later BX1.out).safe).mono ?_
  rintro e w2 ⟨rfl, hs2, hf2, hb2⟩
  have T2 := HIDk (TX1.out.later hb2)
  have HB2 : Hid (Below w.heap.size w w2) := BX1.out.trans (hb2.mono BX1.out.size)
  have x1 := T2.out.o1
  have f2 := T2.out.f2
  have gz2 := hb2.size
  obtain ⟨X2, hX2⟩ : ∃ X2, X2 = w2.setCell ⟨w.heap.size + 1 + 1, 1, none⟩ (.slice (some ⟨X1.heap.size, 0, none⟩) ss.length ss.length) := ⟨_, rfl⟩
  have TX2 : Hid (B3 w.heap.size (.slice adL ls.length capL) (.slice adS ss.length capS) (.slice adO os.length capO) (.slice (some ⟨W.heap.size, 0, none⟩) ls.length ls.length) (.slice (some ⟨X1.heap.size, 0, none⟩) ss.length ss.length) (.slice none 0 0) X2) := by rw [hX2]; exact T2.out.set1 _
  have S2 : Hid (SlF X2 (some ⟨X1.heap.size, 0, none⟩) ss) := by rw [hX2]; exact hs2.put (by omega)
  have S1' : Hid (SlF X2 (some ⟨W.heap.size, 0, none⟩) ls) := by rw [hX2]; exact (S1.out.below hb2).put (by omega)
  have BX2 : Hid (Below w.heap.size w X2) := by rw [hX2]; exact HB2.out.setCell (p := ⟨w.heap.size + 1 + 1, 1, none⟩) (by simp; omega) _
  have gx2 : X1.heap.size ≤ X2.heap.size := by rw [hX2]; simpa using gz2
  have E1' : Hid (ls ≠ [] → W.heap.size < X1.heap.size ∧ Free X2 W.heap.size) := fun hn => ⟨(E1.out hn).1, by rw [hX2]; exact free_set (fun j => keptF hb2 (E1.out hn).1 ((E1.out hn).2 j)) _ _⟩
  have E2 : Hid (ss ≠ [] → X1.heap.size < X2.heap.size ∧ Free X2 X1.heap.size) := fun hn => ⟨by rw [hX2]; simpa using hs2.lt0 hn, by rw [hX2]; exact free_set hf2 _ _⟩
  clear hs2 hf2 hb2 TX1 T2 HB2 S1 BX1 E1
  have i2 := TX2.out.i2
  rw [hX2] at i2
  go_wp2_with fail
  rw [← hX2]
  clear hX2 x1 f2 i2
  refine (toDOpS_any adO capO os X2 ho (HH.out.later BX2.out).ops).mono ?_
  rintro e w3 ⟨rfl, hs3, hf3, hb3⟩
  have T3 := HIDk (TX2.out.later hb3)
  have HB3 : Hid (Below w.heap.size w w3) := BX2.out.trans (hb3.mono BX2.out.size)
  have S3 : Hid (SlF w3 (some ⟨W.heap.size, 0, none⟩) ls ∧ SlF w3 (some ⟨X1.heap.size, 0, none⟩) ss ∧ SlO w3 (some ⟨X2.heap.size, 0, none⟩) os) := ⟨S1'.out.below hb3, S2.out.below hb3, hs3⟩
  have o0 := T3.out.o0
  have o1 := T3.out.o1
  have o2 := T3.out.o2
  have f1 := T3.out.f1
  have f2 := T3.out.f2
  obtain ⟨v0, r0⟩ := Option.isSome_iff_exists.mp T3.out.r0
  obtain ⟨v1, r1⟩ := Option.isSome_iff_exists.mp T3.out.r1
  obtain ⟨v2, r2⟩ := Option.isSome_iff_exists.mp T3.out.r2
  have E3 : Hid ((ls ≠ [] → W.heap.size < X1.heap.size ∧ Free w3 W.heap.size) ∧ (ss ≠ [] → X1.heap.size < X2.heap.size ∧ Free w3 X1.heap.size) ∧ (os ≠ [] → Free w3 X2.heap.size)) := ⟨fun hn => ⟨(E1'.out hn).1, fun j => keptF hb3 (by have := (E1'.out hn).1; omega) ((E1'.out hn).2 j)⟩, fun hn => ⟨(E2.out hn).1, fun j => keptF hb3 (E2.out hn).1 ((E2.out hn).2 j)⟩, fun _ => hf3⟩
  clear hs3 hf3 hb3 TX2 T3 S1' S2 BX2 E1' E2
  go_wp2
  refine bodyPost_ret (v := .agg #[.slice (some ⟨W.heap.size, 0, none⟩) ls.length ls.length, .slice (some ⟨X1.heap.size, 0, none⟩) ss.length ss.length, .slice (some ⟨X2.heap.size, 0, none⟩) os.length os.length]) (by simp [results, Try.results12, go_sem, *]) rfl ⟨_, _, _, rfl, by omega, gx1, ⟨gx2, fun hn => ⟨(E3.out.1 hn).1, free_set (free_set (free_set (free_set (E3.out.1 hn).2 _ _) _ _) _ _) _ _⟩, fun hn => ⟨(E3.out.2.1 hn).1, free_set (free_set (free_set (free_set (E3.out.2.1 hn).2 _ _) _ _) _ _) _ _⟩, fun hn => free_set (free_set (free_set (free_set (E3.out.2.2 hn) _ _) _ _) _ _) _ _⟩, ?_, ?_, ?_, ?_⟩
  · exact (((S3.out.1.put (by omega)).put (by omega)).put (by omega)).put (by omega)
  · exact (((S3.out.2.1.put (by omega)).put (by omega)).put (by omega)).put (by omega)
  · exact (((S3.out.2.2.put (by omega)).put (by omega)).put (by omega)).put (by omega)
  · exact (((HB3.out.setCell (p := ⟨w.heap.size + 1 + 1, 2, none⟩) (by simp; omega) _).setCell (p := ⟨w.heap.size + 1, 0, none⟩) (by simp) _).setCell (p := ⟨w.heap.size + 1, 1, none⟩) (by simp) _).setCell (p := ⟨w.heap.size + 1, 2, none⟩) (by simp) _
end Go.Proofs.Ytbfimfmfdllejaa
