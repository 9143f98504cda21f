/- Small facts of worlds and numbers. -/
import Derived.Below
open Go.RowKit
namespace Go.Proofs.YtdmniljjnaebbaaGreatDoor
abbrev aa (w w':World):Prop:=Below w.heap.size w w'
abbrev af:=World
abbrev dB:=ByteArray
abbrev Sd:=@List.getElem_mem
abbrev Sg:=@Nat.lt_of_lt_of_le
abbrev Si:=@Below.refl
abbrev Sj:=@Nat.le_refl
abbrev Sk:=@List.take_succ_eq_append_getElem
abbrev Sm:=@Nat.zero_le
abbrev Sn:=@Bool.and_eq_true
abbrev Sq:=@Nat.le_trans
abbrev Sr:=@List.length_append
abbrev Su:=@List.take_length
abbrev Sw:=@List.getElem?_eq_getElem
abbrev Sy:=@List.mem_map
abbrev Sz:=@List.mem_append
abbrev SA:=@List.length_eq_zero_iff
abbrev SB:=@List.mem_flatMap
abbrev SC:=@List.all_eq_true
abbrev SE:=@decide_eq_true_eq
abbrev SF:=@List.mem_singleton
abbrev SG:=@Nat.zero_add
abbrev SH:=@List.drop_eq_getElem_cons
abbrev SI:=@World.cell?_of_block
abbrev SK:=@Array.getD_eq_getD_getElem?
abbrev SL:=@List.length_take
abbrev SN:=@List.getElem_append_left
abbrev SQ:=@List.mem_cons_of_mem
abbrev SS:=@Array.getElem?_eq_getElem
abbrev SV:=@Nat.not_lt_zero
abbrev SX:=@List.mem_filter
abbrev SY:=@List.any_eq_true
abbrev S9:=@List.mem_cons_self
abbrev Ta:=@List.length_map
abbrev Tc:=@List.getElem_append_right
abbrev Td:=@List.take_append_drop
abbrev Te:=@List.filter_append
abbrev Tf:=@Nat.le_of_lt
theorem ay {p:Prop} (h:p):Hid p:=h
theorem jb {w W w':World} (h:Hid (Below w.heap.size w W)) (hb:Below W.heap.size W w'):Hid (Below w.heap.size w w'):=h.out.trans (hb.mono h.out.size)
theorem mY {w W:World} {o:_} (h:W=w.alloc o):Hid (Below w.heap.size w W):=by show Below _ _ _; rw [h]; exact (Si _ _).alloc (Sj _) _
theorem bH (k:Nat):(0:Int)≤(k:Int):=by omega
theorem Rm {i:Nat} (h:i < 7):i=0 ∨ i=1 ∨ i=2 ∨ i=3 ∨ i=4 ∨ i=5 ∨ i=6:=by omega
theorem Aw {i:Nat} (h:i < 10):i=0 ∨ i=1 ∨ i=2 ∨ i=3 ∨ i=4 ∨ i=5 ∨ i=6 ∨ i=7 ∨ i=8 ∨ i=9:=by omega
theorem IW {i:Nat} (h:i < 11):i=0 ∨ i=1 ∨ i=2 ∨ i=3 ∨ i=4 ∨ i=5 ∨ i=6 ∨ i=7 ∨ i=8 ∨ i=9 ∨ i=10:=by omega
theorem LC {i:Nat} (h:i < 13):i=0 ∨ i=1 ∨ i=2 ∨ i=3 ∨ i=4 ∨ i=5 ∨ i=6 ∨ i=7 ∨ i=8 ∨ i=9 ∨ i=10 ∨ i=11 ∨ i=12:=by omega
theorem LD {i:Nat} (h:i < 19):i=0 ∨ i=1 ∨ i=2 ∨ i=3 ∨ i=4 ∨ i=5 ∨ i=6 ∨ i=7 ∨ i=8 ∨ i=9 ∨ i=10 ∨ i=11 ∨ i=12 ∨ i=13 ∨ i=14 ∨ i=15 ∨ i=16 ∨ i=17 ∨ i=18:=by omega
end Go.Proofs.YtdmniljjnaebbaaGreatDoor
