/- Small facts of worlds and numbers. -/
import Derived.Below
open Go.RowKit
namespace Go.Proofs.YtdaoiceeidoehaaGreat
abbrev RY:=@List.getElem_mem
abbrev RZ:=@Nat.lt_of_lt_of_le
abbrev R3:=@Below.refl
abbrev R4:=@Nat.le_refl
abbrev R5:=@List.take_succ_eq_append_getElem
abbrev R6:=@Nat.zero_le
abbrev R7:=@Bool.and_eq_true
abbrev R8:=@List.getElem?_eq_getElem
abbrev R9:=@List.length_append
abbrev Sa:=@List.mem_map
abbrev Sb:=@Nat.le_trans
abbrev Sc:=@List.take_length
abbrev Sd:=@List.mem_append
abbrev Sg:=@List.all_eq_true
abbrev Si:=@List.length_eq_zero_iff
abbrev Sj:=@decide_eq_true_eq
abbrev Sk:=@List.mem_flatMap
abbrev Sm:=@List.mem_singleton
abbrev Sn:=@Array.getD_eq_getD_getElem?
abbrev Sq:=@List.length_take
abbrev Sr:=@List.drop_eq_getElem_cons
abbrev Su:=@Nat.zero_add
abbrev Sv:=@List.length_map
abbrev Sw:=@List.any_eq_true
abbrev Sy:=@List.getElem_append_left
abbrev Sz:=@List.getElem_of_mem
abbrev SA:=@List.mem_cons_of_mem
abbrev SB:=@World.cell?_of_block
abbrev SC:=@List.mem_cons_self
abbrev SE:=@Nat.not_lt_zero
abbrev SF:=@List.getElem_append_right
abbrev SG:=@Array.getElem?_eq_getElem
abbrev SH:=@List.mem_filter
abbrev SI:=@List.filter_append
abbrev SK:=@List.take_append_drop
theorem aC {p:Prop} (h:p):Hid p:=h
theorem gY {w W w':World} (h:Hid (Below w.heap.size w W)) (hb:Below W.heap.size W w'):Hid (Below w.heap.size w w'):=h.out.trans (hb.mono h.out.size)
theorem pu {w W:World} {o:_} (h:W=w.alloc o):Hid (Below w.heap.size w W):=by show Below _ _ _; rw [h]; exact (R3 _ _).alloc (R4 _) _
theorem bn (k:Nat):(0:Int)≤(k:Int):=by omega
theorem Q9 {i:Nat} (h:i < 7):i=0 ∨ i=1 ∨ i=2 ∨ i=3 ∨ i=4 ∨ i=5 ∨ i=6:=by omega
theorem xk {i:Nat} (h:i < 10):i=0 ∨ i=1 ∨ i=2 ∨ i=3 ∨ i=4 ∨ i=5 ∨ i=6 ∨ i=7 ∨ i=8 ∨ i=9:=by omega
theorem PZ {i:Nat} (h:i < 11):i=0 ∨ i=1 ∨ i=2 ∨ i=3 ∨ i=4 ∨ i=5 ∨ i=6 ∨ i=7 ∨ i=8 ∨ i=9 ∨ i=10:=by omega
theorem P5 {i:Nat} (h:i < 13):i=0 ∨ i=1 ∨ i=2 ∨ i=3 ∨ i=4 ∨ i=5 ∨ i=6 ∨ i=7 ∨ i=8 ∨ i=9 ∨ i=10 ∨ i=11 ∨ i=12:=by omega
theorem Lt {i:Nat} (h:i < 19):i=0 ∨ i=1 ∨ i=2 ∨ i=3 ∨ i=4 ∨ i=5 ∨ i=6 ∨ i=7 ∨ i=8 ∨ i=9 ∨ i=10 ∨ i=11 ∨ i=12 ∨ i=13 ∨ i=14 ∨ i=15 ∨ i=16 ∨ i=17 ∨ i=18:=by omega
theorem Ra {i:Nat} (h:i < 20):i=0 ∨ i=1 ∨ i=2 ∨ i=3 ∨ i=4 ∨ i=5 ∨ i=6 ∨ i=7 ∨ i=8 ∨ i=9 ∨ i=10 ∨ i=11 ∨ i=12 ∨ i=13 ∨ i=14 ∨ i=15 ∨ i=16 ∨ i=17 ∨ i=18 ∨ i=19:=by omega
end Go.Proofs.YtdaoiceeidoehaaGreat
