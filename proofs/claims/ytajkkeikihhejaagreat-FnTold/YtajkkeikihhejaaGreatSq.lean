/- Small facts of worlds and numbers. -/
import Derived.Below
open Go.RowKit
namespace Go.Proofs.YtajkkeikihhejaaGreat
abbrev ag (w w':World):Prop:=Below w.heap.size w w'
abbrev af:=World
abbrev bH:=ByteArray
abbrev TP:=@Nat.lt_of_lt_of_le
abbrev TQ:=@List.getElem_mem
abbrev TS:=@Nat.le_refl
abbrev TT:=@Below.refl
abbrev TU:=@Bool.and_eq_true
abbrev TV:=@List.take_succ_eq_append_getElem
abbrev TW:=@Nat.zero_le
abbrev TY:=@List.getElem?_eq_getElem
abbrev TZ:=@Nat.le_trans
abbrev T9:=@List.length_append
abbrev Ua:=@List.mem_singleton
abbrev Ub:=@List.all_eq_true
abbrev Uc:=@List.mem_append
abbrev Ud:=@decide_eq_true_eq
abbrev Ue:=@List.mem_map
abbrev Uf:=@List.mem_flatMap
abbrev Ug:=@List.take_length
abbrev Uh:=@ByteArray.size_append
abbrev Ui:=@List.length_eq_zero_iff
abbrev Uj:=@Array.getD_eq_getD_getElem?
abbrev Uk:=@List.getElem_append_left
abbrev Ul:=@World.cell?_of_block
abbrev Um:=@Nat.zero_add
abbrev Un:=@List.drop_eq_getElem_cons
abbrev Uo:=@List.any_eq_true
abbrev Uq:=@List.mem_cons_of_mem
abbrev Ur:=@List.getElem_append_right
abbrev Us:=@List.mem_cons_self
abbrev Ut:=@List.length_take
abbrev Uu:=@List.getElem_of_mem
abbrev Uv:=@Array.getElem?_eq_getElem
abbrev Uw:=@Nat.not_lt_zero
abbrev Ux:=@List.mem_filter
abbrev Uy:=@List.length_map
abbrev Uz:=@List.filter_append
theorem az {p:Prop} (h:p):Hid p:=h
theorem jP {w W w':World} (h:Hid (Below w.heap.size w W)) (hb:Below W.heap.size W w'):Hid (Below w.heap.size w w'):=h.out.trans (hb.mono h.out.size)
theorem qY {w W:World} {o:_} (h:W=w.alloc o):Hid (Below w.heap.size w W):=by show Below _ _ _; rw [h]; exact (TT _ _).alloc (TS _) _
theorem bB (k:Nat):(0:Int)≤(k:Int):=by omega
theorem TI {i:Nat} (h:i < 6):i=0 ∨ i=1 ∨ i=2 ∨ i=3 ∨ i=4 ∨ i=5:=by omega
theorem Td {i:Nat} (h:i < 7):i=0 ∨ i=1 ∨ i=2 ∨ i=3 ∨ i=4 ∨ i=5 ∨ i=6:=by omega
theorem RP {i:Nat} (h:i < 8):i=0 ∨ i=1 ∨ i=2 ∨ i=3 ∨ i=4 ∨ i=5 ∨ i=6 ∨ i=7:=by omega
theorem uf {i:Nat} (h:i < 10):i=0 ∨ i=1 ∨ i=2 ∨ i=3 ∨ i=4 ∨ i=5 ∨ i=6 ∨ i=7 ∨ i=8 ∨ i=9:=by omega
theorem M9 {i:Nat} (h:i < 11):i=0 ∨ i=1 ∨ i=2 ∨ i=3 ∨ i=4 ∨ i=5 ∨ i=6 ∨ i=7 ∨ i=8 ∨ i=9 ∨ i=10:=by omega
theorem Te {i:Nat} (h:i < 12):i=0 ∨ i=1 ∨ i=2 ∨ i=3 ∨ i=4 ∨ i=5 ∨ i=6 ∨ i=7 ∨ i=8 ∨ i=9 ∨ i=10 ∨ i=11:=by omega
theorem Tf {i:Nat} (h:i < 14):i=0 ∨ i=1 ∨ i=2 ∨ i=3 ∨ i=4 ∨ i=5 ∨ i=6 ∨ i=7 ∨ i=8 ∨ i=9 ∨ i=10 ∨ i=11 ∨ i=12 ∨ i=13:=by omega
theorem J4 {i:Nat} (h:i < 19):i=0 ∨ i=1 ∨ i=2 ∨ i=3 ∨ i=4 ∨ i=5 ∨ i=6 ∨ i=7 ∨ i=8 ∨ i=9 ∨ i=10 ∨ i=11 ∨ i=12 ∨ i=13 ∨ i=14 ∨ i=15 ∨ i=16 ∨ i=17 ∨ i=18:=by omega
theorem Tg {i:Nat} (h:i < 24):i=0 ∨ i=1 ∨ i=2 ∨ i=3 ∨ i=4 ∨ i=5 ∨ i=6 ∨ i=7 ∨ i=8 ∨ i=9 ∨ i=10 ∨ i=11 ∨ i=12 ∨ i=13 ∨ i=14 ∨ i=15 ∨ i=16 ∨ i=17 ∨ i=18 ∨ i=19 ∨ i=20 ∨ i=21 ∨ i=22 ∨ i=23:=by omega
end Go.Proofs.YtajkkeikihhejaaGreat
