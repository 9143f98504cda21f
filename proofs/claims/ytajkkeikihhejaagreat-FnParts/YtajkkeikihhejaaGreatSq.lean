/- Small facts of worlds and numbers. -/
import Derived.Below
open Go.RowKit
namespace Go.Proofs.YtajkkeikihhejaaGreat
abbrev ag (w w':World):Prop:=Below w.heap.size w w'
abbrev af:=World
abbrev bI:=ByteArray
abbrev Uc:=@Nat.lt_of_lt_of_le
abbrev Ud:=@List.getElem_mem
abbrev Ue:=@Nat.le_refl
abbrev Uf:=@Below.refl
abbrev Ug:=@Bool.and_eq_true
abbrev Uh:=@List.take_succ_eq_append_getElem
abbrev Ui:=@Nat.zero_le
abbrev Uj:=@List.getElem?_eq_getElem
abbrev Uk:=@Nat.le_trans
abbrev Ul:=@List.length_append
abbrev Um:=@decide_eq_true_eq
abbrev Un:=@List.all_eq_true
abbrev Uo:=@List.mem_singleton
abbrev Uq:=@List.mem_append
abbrev Ur:=@List.mem_map
abbrev Us:=@List.take_length
abbrev Ut:=@List.mem_flatMap
abbrev Uu:=@List.length_eq_zero_iff
abbrev Uv:=@ByteArray.size_append
abbrev Uw:=@Array.getD_eq_getD_getElem?
abbrev Ux:=@List.getElem_append_left
abbrev Uy:=@World.cell?_of_block
abbrev Uz:=@Nat.zero_add
abbrev UA:=@List.any_eq_true
abbrev UB:=@List.drop_eq_getElem_cons
abbrev UC:=@List.mem_cons_of_mem
abbrev UD:=@List.getElem_append_right
abbrev UE:=@List.getElem_of_mem
abbrev UF:=@List.length_take
abbrev UG:=@List.mem_cons_self
abbrev UH:=@Array.getElem?_eq_getElem
abbrev UI:=@Nat.not_lt_zero
abbrev UJ:=@List.mem_filter
abbrev UK:=@List.length_map
abbrev UL:=@List.filter_append
theorem aA {p:Prop}(h:p):Hid p:=h
theorem jP {w W w':World}(h:Hid (Below w.heap.size w W))(hb:Below W.heap.size W w'):Hid (Below w.heap.size w w'):=h.out.trans (hb.mono h.out.size)
theorem rV {w W:World}{o:_}(h:W=w.alloc o):Hid (Below w.heap.size w W):=by show Below _ _ _;rw [h];exact (Uf _ _).alloc (Ue _) _
theorem bF (k:Nat):(0:Int)<=(k:Int):=by omega
theorem Tw {i:Nat}(h:i<7):i=0\/i=1\/i=2\/i=3\/i=4\/i=5\/i=6:=by omega
theorem R7 {i:Nat}(h:i<8):i=0\/i=1\/i=2\/i=3\/i=4\/i=5\/i=6\/i=7:=by omega
theorem ul {i:Nat}(h:i<10):i=0\/i=1\/i=2\/i=3\/i=4\/i=5\/i=6\/i=7\/i=8\/i=9:=by omega
theorem Nj {i:Nat}(h:i<11):i=0\/i=1\/i=2\/i=3\/i=4\/i=5\/i=6\/i=7\/i=8\/i=9\/i=10:=by omega
theorem Tx {i:Nat}(h:i<12):i=0\/i=1\/i=2\/i=3\/i=4\/i=5\/i=6\/i=7\/i=8\/i=9\/i=10\/i=11:=by omega
theorem Tz {i:Nat}(h:i<14):i=0\/i=1\/i=2\/i=3\/i=4\/i=5\/i=6\/i=7\/i=8\/i=9\/i=10\/i=11\/i=12\/i=13:=by omega
theorem J5 {i:Nat}(h:i<19):i=0\/i=1\/i=2\/i=3\/i=4\/i=5\/i=6\/i=7\/i=8\/i=9\/i=10\/i=11\/i=12\/i=13\/i=14\/i=15\/i=16\/i=17\/i=18:=by omega
theorem TA {i:Nat}(h:i<24):i=0\/i=1\/i=2\/i=3\/i=4\/i=5\/i=6\/i=7\/i=8\/i=9\/i=10\/i=11\/i=12\/i=13\/i=14\/i=15\/i=16\/i=17\/i=18\/i=19\/i=20\/i=21\/i=22\/i=23:=by omega
end Go.Proofs.YtajkkeikihhejaaGreat
