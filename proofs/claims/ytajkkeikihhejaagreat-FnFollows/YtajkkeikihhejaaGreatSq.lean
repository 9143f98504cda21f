/- Small facts of worlds and numbers. -/
import Derived.Below
open Go.RowKit
namespace Go.Proofs.YtajkkeikihhejaaGreat
abbrev ae (w w':World):Prop:=Below w.heap.size w w'
abbrev af:=World
abbrev bQ:=ByteArray
abbrev UR:=@List.getElem_mem
abbrev UT:=@Nat.lt_of_lt_of_le
abbrev UU:=@Nat.le_refl
abbrev UV:=@Below.refl
abbrev UW:=@Bool.and_eq_true
abbrev UX:=@List.take_succ_eq_append_getElem
abbrev UY:=@Nat.zero_le
abbrev UZ:=@Array.getElem?_eq_some_iff
abbrev U0:=@Nat.le_trans
abbrev U1:=@List.getElem?_eq_getElem
abbrev U2:=@List.length_append
abbrev U3:=@decide_eq_true_eq
abbrev U4:=@List.mem_singleton
abbrev U5:=@List.all_eq_true
abbrev U6:=@List.mem_append
abbrev U7:=@List.mem_map
abbrev U8:=@List.mem_flatMap
abbrev U9:=@List.mem_cons
abbrev Va:=@List.take_length
abbrev Vb:=@List.length_eq_zero_iff
abbrev Vd:=@Bool.eq_iff_iff
abbrev Ve:=@ByteArray.size_append
abbrev Vf:=@List.drop_of_length_le
abbrev Vg:=@List.getElem_append_left
abbrev Vh:=@World.cell?_of_block
abbrev Vi:=@Array.getD_eq_getD_getElem?
abbrev Vj:=@Nat.zero_add
abbrev Vk:=@List.any_eq_true
abbrev Vl:=@List.drop_eq_getElem_cons
abbrev Vm:=@List.append_assoc
abbrev Vn:=@List.getD_eq_getElem?_getD
abbrev Vo:=@List.flatMap_cons
abbrev Vp:=@List.mem_map_of_mem
abbrev Vq:=@List.length_cons
abbrev Vr:=@List.length_singleton
abbrev Vs:=@List.take_of_length_le
abbrev Vt:=@List.length_map
abbrev Vu:=@List.getElem_append_right
abbrev Vv:=@List.mem_cons_of_mem
abbrev Vw:=@Option.getD_some
abbrev Vx:=@List.mem_iff_getElem
abbrev Vy:=@List.length_take
abbrev Vz:=@Array.getElem?_replicate
abbrev VC:=@List.cons_append
abbrev VD:=@List.mem_cons_self
abbrev VE:=@List.flatMap_append
abbrev VF:=@ByteArray.append_assoc
abbrev VG:=@List.map_append
abbrev VH:=@Array.getElem?_eq_getElem
abbrev VI:=@List.getElem_of_mem
abbrev VJ:=@List.mem_append_left
abbrev VK:=@List.append_nil
abbrev VL:=@Nat.not_lt_zero
abbrev VM:=@List.mem_filter
abbrev VN:=@List.getElem?_append_right
abbrev VO:=@ByteArray.data_append
abbrev VP:=@List.getElem?_append_left
abbrev VQ:=@List.mem_of_getElem?
abbrev VR:=@List.length_drop
abbrev VS:=@List.length_filterMap_le
abbrev VT:=@List.length_nil
abbrev VU:=@List.nil_append
abbrev VV:=@List.all_append
abbrev VW:=@List.filter_cons
abbrev VX:=@List.map_cons
abbrev VY:=@List.any_cons
abbrev VZ:=@List.filter_append
abbrev Q00:=ByteArray × ByteArray → Int
abbrev Q01:=ByteArray × ByteArray
abbrev Q02:=Option Addr
abbrev Q03:=List Value
theorem aC{p:Prop}(h:p):Hid p:=h
theorem jR{w W w':World}(h:Hid (Below w.heap.size w W))(hb:Below W.heap.size W w'):Hid (Below w.heap.size w w'):=h.out.trans (hb.mono h.out.size)
theorem mI{w W:World}{o:_}(h:W=w.alloc o):Hid (Below w.heap.size w W):=by show Below _ _ _;rw[h];exact(UV _ _).alloc (UU _) _
theorem bG(k:Nat):(0:Int)<=(k:Int):=by omega
theorem Ug{i:Nat}(h:i<7):i=0\/i=1\/i=2\/i=3\/i=4\/i=5\/i=6:=by omega
theorem SX{i:Nat}(h:i<8):i=0\/i=1\/i=2\/i=3\/i=4\/i=5\/i=6\/i=7:=by omega
theorem xU{i:Nat}(h:i<10):i=0\/i=1\/i=2\/i=3\/i=4\/i=5\/i=6\/i=7\/i=8\/i=9:=by omega
theorem NP{i:Nat}(h:i<11):i=0\/i=1\/i=2\/i=3\/i=4\/i=5\/i=6\/i=7\/i=8\/i=9\/i=10:=by omega
theorem Uh{i:Nat}(h:i<12):i=0\/i=1\/i=2\/i=3\/i=4\/i=5\/i=6\/i=7\/i=8\/i=9\/i=10\/i=11:=by omega
theorem Ui{i:Nat}(h:i<14):i=0\/i=1\/i=2\/i=3\/i=4\/i=5\/i=6\/i=7\/i=8\/i=9\/i=10\/i=11\/i=12\/i=13:=by omega
theorem KI{i:Nat}(h:i<19):i=0\/i=1\/i=2\/i=3\/i=4\/i=5\/i=6\/i=7\/i=8\/i=9\/i=10\/i=11\/i=12\/i=13\/i=14\/i=15\/i=16\/i=17\/i=18:=by omega
theorem Uj{i:Nat}(h:i<24):i=0\/i=1\/i=2\/i=3\/i=4\/i=5\/i=6\/i=7\/i=8\/i=9\/i=10\/i=11\/i=12\/i=13\/i=14\/i=15\/i=16\/i=17\/i=18\/i=19\/i=20\/i=21\/i=22\/i=23:=by omega
end Go.Proofs.YtajkkeikihhejaaGreat
