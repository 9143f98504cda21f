/- Schemas in memory: relations and types, each a name and a slice of what stands below it. -/
import Derived.Test.YtjmbgpdbnffkpaaEqExpr
namespace Go.Proofs.Ytjmbgpdbnffkpaa
open Go.ChangeShapes Go.WideShapes Go.ChangeAt Go.RowKit
open Pl

theorem ER.new.mono {B B' : Nat} {r : ER} (h : r.new B) (hB : B' ≤ B) : r.new B' := by
  obtain ⟨gA, gK, e1, e2, h1, h2, h3⟩ := h
  exact ⟨gA, gK, e1, e2, by omega, by omega, h3⟩

/-- Relation: its name and what stands below it -/
structure Rl where
  name : ByteArray
  expr : List Ex
structure RR where
  name : ByteArray
  rows : List ER
  ad : Option Addr
  cap : Nat
def RR.p (r : RR) : Rl := ⟨r.name, exs r.rows⟩
def RR.val (r : RR) : Value := .agg #[.string r.name, .slice r.ad r.rows.length r.cap]
def RR.ok (w : World) (r : RR) : Prop := SlE w r.ad r.rows
def RR.fits (r : RR) : Prop := r.name.size ≤ maxLen ∧ r.rows.length ≤ maxLen ∧ ∀ q ∈ r.rows, q.e.fits
def RR.light (r : RR) : Prop := r.rows.length ≤ 1048576 ∧ ∀ q ∈ r.rows, q.e.light
def RR.caps (r : RR) : Prop := r.rows.length ≤ r.cap ∧ ∀ q ∈ r.rows, q.e.allow.length ≤ q.capA
def RR.new (B : Nat) (r : RR) : Prop := (∃ g : Nat, r.ad = some ⟨g, 0, none⟩ ∧ B < g) ∧ ∀ q ∈ r.rows, q.new B
theorem RR.ok.below {w w' : World} {r : RR} (h : r.ok w) (hB : Below w.heap.size w w') : r.ok w' := SlE.below h hB
def AtR (w : World) (b off : Nat) (r : RR) : Prop := w.cell? ⟨b, off, none⟩ = some (.string r.name) ∧ w.cell? ⟨b, off + 1, none⟩ = some (.slice r.ad r.rows.length r.cap)
theorem AtR.same {w w' : World} {b off : Nat} {r : RR} (h : AtR w b off r) (hc : ∀ o, w'.cell? ⟨b, o, none⟩ = w.cell? ⟨b, o, none⟩) : AtR w' b off r := ⟨(hc _).trans h.1, (hc _).trans h.2⟩
theorem AtR.later {w w' : World} {b off : Nat} {r : RR} (h : AtR w b off r) (hb : b < w.heap.size) (hB : Below w.heap.size w w') : AtR w' b off r := h.same fun o => hB.cell (p := ⟨b, o, none⟩) hb
def SlR (w : World) (ad : Option Addr) (rs : List RR) : Prop := rs = [] ∨ ∃ b off, ad = some ⟨b, off, none⟩ ∧ b < w.heap.size ∧ (∀ (i : Nat) (h : i < rs.length), AtR w b (off + i * 2) rs[i]) ∧ ∀ r ∈ rs, r.ok w
theorem SlR.below {w w' : World} {ad : Option Addr} {rs : List RR} (h : SlR w ad rs) (hB : Below w.heap.size w w') : SlR w' ad rs := by
  rcases h with h | ⟨b, off, e, hb, hr, hk⟩
  · exact .inl h
  · exact .inr ⟨b, off, e, Nat.lt_of_lt_of_le hb hB.size, fun i hi => (hr i hi).same fun o => hB.cell (p := ⟨b, o, none⟩) hb, fun r hr => (hk r hr).below hB⟩
def rls (rs : List RR) : List Rl := rs.map RR.p
theorem rls_len (rs : List RR) : (rls rs).length = rs.length := by simp [rls]
theorem RR.ok.set {w : World} {r : RR} {g o : Nat} {v : Value} (h : r.ok w) (hn : r.new g) : r.ok (w.setCell ⟨g, o, none⟩ v) := by
  obtain ⟨⟨gE, e1, h1⟩, h2⟩ := hn
  rcases h with h | ⟨b, off, e, hb, hr, hk⟩
  · exact .inl h
  · refine .inr ⟨b, off, e, by simpa using hb, fun i hi => (hr i hi).same fun o => setB2 ?_, fun q hq => (hk q hq).set (h2 q hq)⟩
    rw [e1] at e; injection e with e; injection e with e3 e4; omega
theorem RR.new.mono {B B' : Nat} {r : RR} (h : r.new B) (hB : B' ≤ B) : r.new B' := by
  obtain ⟨⟨g, e, hg⟩, h2⟩ := h
  exact ⟨⟨g, e, by omega⟩, fun q hq => (h2 q hq).mono hB⟩

/-- Type: its name and what stands below it -/
structure Ty where
  name : ByteArray
  rels : List Rl
structure TR where
  name : ByteArray
  rows : List RR
  ad : Option Addr
  cap : Nat
def TR.p (r : TR) : Ty := ⟨r.name, rls r.rows⟩
def TR.val (r : TR) : Value := .agg #[.string r.name, .slice r.ad r.rows.length r.cap]
def TR.ok (w : World) (r : TR) : Prop := SlR w r.ad r.rows
def TR.fits (r : TR) : Prop := r.name.size ≤ maxLen ∧ r.rows.length ≤ maxLen ∧ ∀ q ∈ r.rows, q.fits
def TR.light (r : TR) : Prop := r.rows.length ≤ 1048576 ∧ ∀ q ∈ r.rows, q.light
def TR.caps (r : TR) : Prop := r.rows.length ≤ r.cap ∧ ∀ q ∈ r.rows, q.caps
def TR.new (B : Nat) (r : TR) : Prop := (∃ g : Nat, r.ad = some ⟨g, 0, none⟩ ∧ B < g) ∧ ∀ q ∈ r.rows, q.new B
theorem TR.ok.below {w w' : World} {r : TR} (h : r.ok w) (hB : Below w.heap.size w w') : r.ok w' := SlR.below h hB
def AtT (w : World) (b off : Nat) (r : TR) : Prop := w.cell? ⟨b, off, none⟩ = some (.string r.name) ∧ w.cell? ⟨b, off + 1, none⟩ = some (.slice r.ad r.rows.length r.cap)
theorem AtT.same {w w' : World} {b off : Nat} {r : TR} (h : AtT w b off r) (hc : ∀ o, w'.cell? ⟨b, o, none⟩ = w.cell? ⟨b, o, none⟩) : AtT w' b off r := ⟨(hc _).trans h.1, (hc _).trans h.2⟩
theorem AtT.later {w w' : World} {b off : Nat} {r : TR} (h : AtT w b off r) (hb : b < w.heap.size) (hB : Below w.heap.size w w') : AtT w' b off r := h.same fun o => hB.cell (p := ⟨b, o, none⟩) hb
def SlT (w : World) (ad : Option Addr) (rs : List TR) : Prop := rs = [] ∨ ∃ b off, ad = some ⟨b, off, none⟩ ∧ b < w.heap.size ∧ (∀ (i : Nat) (h : i < rs.length), AtT w b (off + i * 2) rs[i]) ∧ ∀ r ∈ rs, r.ok w
theorem SlT.below {w w' : World} {ad : Option Addr} {rs : List TR} (h : SlT w ad rs) (hB : Below w.heap.size w w') : SlT w' ad rs := by
  rcases h with h | ⟨b, off, e, hb, hr, hk⟩
  · exact .inl h
  · exact .inr ⟨b, off, e, Nat.lt_of_lt_of_le hb hB.size, fun i hi => (hr i hi).same fun o => hB.cell (p := ⟨b, o, none⟩) hb, fun r hr => (hk r hr).below hB⟩
def tys (rs : List TR) : List Ty := rs.map TR.p
theorem tys_len (rs : List TR) : (tys rs).length = rs.length := by simp [tys]
theorem TR.ok.set {w : World} {r : TR} {g o : Nat} {v : Value} (h : r.ok w) (hn : r.new g) : r.ok (w.setCell ⟨g, o, none⟩ v) := by
  obtain ⟨⟨gE, e1, h1⟩, h2⟩ := hn
  rcases h with h | ⟨b, off, e, hb, hr, hk⟩
  · exact .inl h
  · refine .inr ⟨b, off, e, by simpa using hb, fun i hi => (hr i hi).same fun o => setB2 ?_, fun q hq => (hk q hq).set (h2 q hq)⟩
    rw [e1] at e; injection e with e; injection e with e3 e4; omega
theorem TR.new.mono {B B' : Nat} {r : TR} (h : r.new B) (hB : B' ≤ B) : r.new B' := by
  obtain ⟨⟨g, e, hg⟩, h2⟩ := h
  exact ⟨⟨g, e, by omega⟩, fun q hq => (h2 q hq).mono hB⟩

end Go.Proofs.Ytjmbgpdbnffkpaa

/- Contracts of the law's helpers that weigh a schema. -/
namespace Go.Proofs.Ytjmbgpdbnffkpaa
open Go.ChangeShapes Go.WideShapes Go.ChangeAt Go.RowKit
open Pl

set_option maxHeartbeats 800000 in
theorem szRelation_any (r : RR) (left : Int) (w : World) (hr : r.ok w) (hf : r.fits) (h0 : 0 ≤ left) (h1 : left ≤ 1048576) :
    Calls Try.prog 108 #[r.val, .int .i64 left] w fun e w' => (∃ n : Int, e = .returned (.int .i64 n) ∧ (n = -1 ∨ 0 ≤ n ∧ n ≤ left ∧ r.light)) ∧ Below w.heap.size w w' := by
  obtain ⟨name, rows, ad, cap⟩ := r
  obtain ⟨f1, f2, f3⟩ := hf
  have HO : Hid (SlE w ad rows) := hr
  have HF : Hid (∀ q ∈ rows, q.e.fits) := f3
  simp only at f1 f2
  have g1 := f1
  unfold maxLen at g1
  simp only [RR.val, RR.light]
  clear hr f3
  have HB : Hid (Below w.heap.size w (w.alloc (.cells #[.string name, .slice ad rows.length cap] 147))) := (Below.refl w.heap.size w).alloc (Nat.le_refl _) _
  by_cases h3 : left - name.size < 0
  · go_enter Try.func108, Try.ntmps108
    go_wp2
    go_ret
    exact ⟨⟨-1, rfl, .inl rfl⟩, HB.out⟩
  go_enter Try.func108, Try.ntmps108
  go_wp2_with fail
  refine (szExprS_any ad cap rows _ _ f2 (SlE.below HO.out HB.out) HF.out (by omega) (by omega)).mono ?_
  rintro e w1 ⟨⟨n, rfl, hn⟩, hb1⟩
  have HB1 : Hid (Below w.heap.size w w1) := HB.out.trans (hb1.mono HB.out.size)
  clear hb1 HB
  rcases hn with rfl | ⟨hn0, hn1, hn2, hn3⟩
  · go_wp2
    go_ret
    exact ⟨⟨-1, rfl, .inl rfl⟩, HB1.out⟩
  · have HL : Hid (∀ q ∈ rows, q.e.light) := hn3
    clear hn3
    go_wp2
    go_ret
    exact ⟨⟨n, rfl, .inr ⟨hn0, by omega, by omega, HL.out⟩⟩, HB1.out⟩

set_option maxHeartbeats 800000 in
theorem szRelationS_any (ad : Option Addr) (cap : Nat) (rs : List RR) (left : Int) (w : World) (hlen : rs.length ≤ maxLen) (hs : SlR w ad rs) (hf : ∀ r ∈ rs, r.fits) (h0 : 0 ≤ left) (h1 : left ≤ 1048576) :
    Calls Try.prog 85 #[.slice ad rs.length cap, .int .i64 left] w fun e w' => (∃ n : Int, e = .returned (.int .i64 n) ∧ (n = -1 ∨ 0 ≤ n ∧ n ≤ left ∧ (rs.length : Int) ≤ left ∧ ∀ r ∈ rs, r.light)) ∧ Below w.heap.size w w' := by
  unfold maxLen at hlen
  by_cases hneg : left - rs.length < 0
  · go_enter Try.func85, Try.ntmps85
    go_wp2
    go_ret
    exact ⟨⟨-1, rfl, .inl rfl⟩, Below.refl _ _⟩
  · go_enter Try.func85, Try.ntmps85
    go_wp2
    go_loopw [1, 5] (fun l i wr => ∃ (k : Nat) (x : Int), k ≤ rs.length ∧ i = .int .i64 k ∧ l = .int .i64 x ∧ 0 ≤ x ∧ x ≤ left ∧ Hid (∀ r ∈ rs.take k, r.light) ∧ Below w.heap.size w wr) (fun _ i _ => rs.length - (intOf i).toNat)
    case atStart => exact ⟨0, _, Nat.zero_le _, rfl, rfl, by omega, by omega, (by intro r hr; simp at hr), Below.refl _ _⟩
    case round =>
      obtain ⟨k, x, hk, rfl, rfl, hx0, hx1, HL, hB⟩ := hrel
      by_cases hlt : k < rs.length
      · rcases hs.below hB with rfl | ⟨b, off, rfl, hb, hr, hok⟩
        · simp at hlt
        obtain ⟨t0, t1⟩ := hr k hlt
        have ok := hok rs[k] (List.getElem_mem hlt)
        have ft := hf rs[k] (List.getElem_mem hlt)
        clear hr hs hok
        go_wp2_with fail
        refine (szRelation_any rs[k] x _ ok ft hx0 (by omega)).mono ?_
        rintro e w1 ⟨⟨n, rfl, hn⟩, hb1⟩
        rcases hn with rfl | ⟨hn0, hn1, hn2⟩
        · go_wp2
          go_ret
          exact ⟨⟨-1, rfl, .inl rfl⟩, hB.trans (hb1.mono hB.size)⟩
        · have HL2 : Hid (∀ r ∈ rs.take (k + 1), r.light) := by
            intro r hr
            rw [List.take_succ_eq_append_getElem hlt, List.mem_append, List.mem_singleton] at hr
            rcases hr with hr | rfl
            · exact HL.out r hr
            · exact hn2
          clear hn2 ok ft
          go_wp2
          go_roundw
          case rel => exact ⟨k + 1, _, by omega, by go_num, rfl, by omega, by omega, HL2, hB.trans (hb1.mono hB.size)⟩
          case measure => simp [intOf]; omega
      · have HL2 : Hid (∀ r ∈ rs, r.light) := fun r hr => HL.out r (by rw [List.take_of_length_le (by omega)]; exact hr)
        go_wp2
        go_ret
        exact ⟨⟨x, rfl, .inr ⟨hx0, hx1, by omega, HL2.out⟩⟩, hB⟩

set_option maxHeartbeats 800000 in
theorem szType_any (r : TR) (left : Int) (w : World) (hr : r.ok w) (hf : r.fits) (h0 : 0 ≤ left) (h1 : left ≤ 1048576) :
    Calls Try.prog 48 #[r.val, .int .i64 left] w fun e w' => (∃ n : Int, e = .returned (.int .i64 n) ∧ (n = -1 ∨ 0 ≤ n ∧ n ≤ left ∧ r.light)) ∧ Below w.heap.size w w' := by
  obtain ⟨name, rows, ad, cap⟩ := r
  obtain ⟨f1, f2, f3⟩ := hf
  have HO : Hid (SlR w ad rows) := hr
  have HF : Hid (∀ q ∈ rows, q.fits) := f3
  simp only at f1 f2
  have g1 := f1
  unfold maxLen at g1
  simp only [TR.val, TR.light]
  clear hr f3
  have HB : Hid (Below w.heap.size w (w.alloc (.cells #[.string name, .slice ad rows.length cap] 76))) := (Below.refl w.heap.size w).alloc (Nat.le_refl _) _
  by_cases h3 : left - name.size < 0
  · go_enter Try.func48, Try.ntmps48
    go_wp2
    go_ret
    exact ⟨⟨-1, rfl, .inl rfl⟩, HB.out⟩
  go_enter Try.func48, Try.ntmps48
  go_wp2_with fail
  refine (szRelationS_any ad cap rows _ _ f2 (SlR.below HO.out HB.out) HF.out (by omega) (by omega)).mono ?_
  rintro e w1 ⟨⟨n, rfl, hn⟩, hb1⟩
  have HB1 : Hid (Below w.heap.size w w1) := HB.out.trans (hb1.mono HB.out.size)
  clear hb1 HB
  rcases hn with rfl | ⟨hn0, hn1, hn2, hn3⟩
  · go_wp2
    go_ret
    exact ⟨⟨-1, rfl, .inl rfl⟩, HB1.out⟩
  · have HL : Hid (∀ q ∈ rows, q.light) := hn3
    clear hn3
    go_wp2
    go_ret
    exact ⟨⟨n, rfl, .inr ⟨hn0, by omega, by omega, HL.out⟩⟩, HB1.out⟩

set_option maxHeartbeats 800000 in
theorem szTypeS_any (ad : Option Addr) (cap : Nat) (rs : List TR) (left : Int) (w : World) (hlen : rs.length ≤ maxLen) (hs : SlT w ad rs) (hf : ∀ r ∈ rs, r.fits) (h0 : 0 ≤ left) (h1 : left ≤ 1048576) :
    Calls Try.prog 20 #[.slice ad rs.length cap, .int .i64 left] w fun e w' => (∃ n : Int, e = .returned (.int .i64 n) ∧ (n = -1 ∨ 0 ≤ n ∧ n ≤ left ∧ (rs.length : Int) ≤ left ∧ ∀ r ∈ rs, r.light)) ∧ Below w.heap.size w w' := by
  unfold maxLen at hlen
  by_cases hneg : left - rs.length < 0
  · go_enter Try.func20, Try.ntmps20
    go_wp2
    go_ret
    exact ⟨⟨-1, rfl, .inl rfl⟩, Below.refl _ _⟩
  · go_enter Try.func20, Try.ntmps20
    go_wp2
    go_loopw [1, 5] (fun l i wr => ∃ (k : Nat) (x : Int), k ≤ rs.length ∧ i = .int .i64 k ∧ l = .int .i64 x ∧ 0 ≤ x ∧ x ≤ left ∧ Hid (∀ r ∈ rs.take k, r.light) ∧ Below w.heap.size w wr) (fun _ i _ => rs.length - (intOf i).toNat)
    case atStart => exact ⟨0, _, Nat.zero_le _, rfl, rfl, by omega, by omega, (by intro r hr; simp at hr), Below.refl _ _⟩
    case round =>
      obtain ⟨k, x, hk, rfl, rfl, hx0, hx1, HL, hB⟩ := hrel
      by_cases hlt : k < rs.length
      · rcases hs.below hB with rfl | ⟨b, off, rfl, hb, hr, hok⟩
        · simp at hlt
        obtain ⟨t0, t1⟩ := hr k hlt
        have ok := hok rs[k] (List.getElem_mem hlt)
        have ft := hf rs[k] (List.getElem_mem hlt)
        clear hr hs hok
        go_wp2_with fail
        refine (szType_any rs[k] x _ ok ft hx0 (by omega)).mono ?_
        rintro e w1 ⟨⟨n, rfl, hn⟩, hb1⟩
        rcases hn with rfl | ⟨hn0, hn1, hn2⟩
        · go_wp2
          go_ret
          exact ⟨⟨-1, rfl, .inl rfl⟩, hB.trans (hb1.mono hB.size)⟩
        · have HL2 : Hid (∀ r ∈ rs.take (k + 1), r.light) := by
            intro r hr
            rw [List.take_succ_eq_append_getElem hlt, List.mem_append, List.mem_singleton] at hr
            rcases hr with hr | rfl
            · exact HL.out r hr
            · exact hn2
          clear hn2 ok ft
          go_wp2
          go_roundw
          case rel => exact ⟨k + 1, _, by omega, by go_num, rfl, by omega, by omega, HL2, hB.trans (hb1.mono hB.size)⟩
          case measure => simp [intOf]; omega
      · have HL2 : Hid (∀ r ∈ rs, r.light) := fun r hr => HL.out r (by rw [List.take_of_length_le (by omega)]; exact hr)
        go_wp2
        go_ret
        exact ⟨⟨x, rfl, .inr ⟨hx0, hx1, by omega, HL2.out⟩⟩, hB⟩

end Go.Proofs.Ytjmbgpdbnffkpaa
