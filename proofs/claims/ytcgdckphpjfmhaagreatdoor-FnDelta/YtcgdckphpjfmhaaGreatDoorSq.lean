/- Small facts of worlds and numbers. -/
import Derived.Below
open Go.RowKit
namespace Go.Proofs.YtcgdckphpjfmhaaGreatDoor
abbrev af (w w':World):Prop:=Below w.heap.size w w'
abbrev ae:=World
abbrev bZ:=ByteArray
abbrev VY:=@Nat.lt_of_lt_of_le
abbrev VZ:=@List.getElem_mem
abbrev V4:=@Nat.le_refl
abbrev V5:=@Below.refl
abbrev V8:=@List.take_succ_eq_append_getElem
abbrev V9:=@Bool.and_eq_true
abbrev Wd:=@Nat.zero_le
abbrev We:=@Array.getElem?_eq_some_iff
abbrev Wh:=@Nat.le_trans
abbrev Wi:=@List.length_append
abbrev Wj:=@List.mem_append
abbrev Wl:=@List.mem_singleton
abbrev Wm:=@List.getElem?_eq_getElem
abbrev Wn:=@decide_eq_true_eq
abbrev Wo:=@List.take_length
abbrev Wp:=@List.mem_map
abbrev Wq:=@List.all_eq_true
abbrev Ws:=@List.mem_cons
abbrev Wt:=@World.cell?_of_block
abbrev Wu:=@List.length_eq_zero_iff
abbrev Wv:=@ByteArray.size_append
abbrev Ww:=@List.drop_of_length_le
abbrev Wx:=@List.mem_flatMap
abbrev Wy:=@Bool.eq_iff_iff
abbrev Wz:=@Array.getD_eq_getD_getElem?
abbrev WA:=@List.getElem_append_left
abbrev WB:=@Nat.zero_add
abbrev WC:=@List.drop_eq_getElem_cons
abbrev WE:=@List.append_assoc
abbrev WF:=@List.flatMap_cons
abbrev WG:=@List.mem_map_of_mem
abbrev WH:=@List.length_cons
abbrev WJ:=@List.length_singleton
abbrev WK:=@List.length_take
abbrev WL:=@List.take_of_length_le
abbrev WM:=@List.getElem_append_right
abbrev WN:=@List.mem_iff_getElem
abbrev WO:=@Option.getD_some
abbrev WP:=@List.flatMap_append
abbrev WQ:=@Array.getElem?_replicate
abbrev WR:=@List.length_drop
abbrev WS:=@List.append_nil
abbrev WT:=@List.mem_cons_of_mem
abbrev WU:=@List.cons_append
abbrev WV:=@ByteArray.append_assoc
abbrev WW:=@List.mem_filter
abbrev WX:=@Array.getElem?_eq_getElem
abbrev WY:=@List.getElem?_append_right
abbrev WZ:=@ByteArray.data_append
abbrev Xa:=@List.getElem?_append_left
abbrev Xb:=@List.map_append
abbrev Xc:=@List.length_map
abbrev Xd:=@List.getD_eq_getElem?_getD
abbrev Xe:=@List.any_eq_true
abbrev Xf:=@List.mem_cons_self
abbrev Xg:=@Nat.not_lt_zero
abbrev Xh:=@List.length_nil
abbrev Xi:=@List.nil_append
abbrev Xj:=@List.all_append
abbrev Xk:=@List.mem_of_getElem?
abbrev Xl:=@List.getElem_of_mem
abbrev Xm:=@List.filter_cons
abbrev Xn:=@List.filter_append
abbrev Xo:=@List.length_filterMap_le
abbrev Xp:=@List.map_cons
abbrev Xq:=@List.mem_append_left
abbrev Xr:=@Nat.le_of_lt
abbrev Xt:=@List.any_cons
abbrev Q00:=ByteArray × ByteArray → Int
abbrev Q01:=ByteArray × ByteArray
abbrev Q02:=Option Addr
abbrev Q03:=List Value
theorem aC{p:Prop}(h:p):Hid p:=h
theorem kv{w W w':World}(h:Hid (Below w.heap.size w W))(hb:Below W.heap.size W w'):Hid (Below w.heap.size w w'):=h.out.trans (hb.mono h.out.size)
theorem nC{w W:World}{o:_}(h:W=w.alloc o):Hid (Below w.heap.size w W):=by show Below _ _ _;rw[h];exact(V5 _ _).alloc (V4 _) _
theorem bC(k:Nat):(0:Int)<=(k:Int):=by omega
theorem Va{i:Nat}(h:i<7):i=0\/i=1\/i=2\/i=3\/i=4\/i=5\/i=6:=by omega
theorem VO{i:Nat}(h:i<8):i=0\/i=1\/i=2\/i=3\/i=4\/i=5\/i=6\/i=7:=by omega
theorem KZ{i:Nat}(h:i<10):i=0\/i=1\/i=2\/i=3\/i=4\/i=5\/i=6\/i=7\/i=8\/i=9:=by omega
theorem La{i:Nat}(h:i<11):i=0\/i=1\/i=2\/i=3\/i=4\/i=5\/i=6\/i=7\/i=8\/i=9\/i=10:=by omega
theorem Vb{i:Nat}(h:i<12):i=0\/i=1\/i=2\/i=3\/i=4\/i=5\/i=6\/i=7\/i=8\/i=9\/i=10\/i=11:=by omega
theorem Vd{i:Nat}(h:i<13):i=0\/i=1\/i=2\/i=3\/i=4\/i=5\/i=6\/i=7\/i=8\/i=9\/i=10\/i=11\/i=12:=by omega
theorem Ve{i:Nat}(h:i<14):i=0\/i=1\/i=2\/i=3\/i=4\/i=5\/i=6\/i=7\/i=8\/i=9\/i=10\/i=11\/i=12\/i=13:=by omega
theorem Ow{i:Nat}(h:i<19):i=0\/i=1\/i=2\/i=3\/i=4\/i=5\/i=6\/i=7\/i=8\/i=9\/i=10\/i=11\/i=12\/i=13\/i=14\/i=15\/i=16\/i=17\/i=18:=by omega
theorem Vf{i:Nat}(h:i<24):i=0\/i=1\/i=2\/i=3\/i=4\/i=5\/i=6\/i=7\/i=8\/i=9\/i=10\/i=11\/i=12\/i=13\/i=14\/i=15\/i=16\/i=17\/i=18\/i=19\/i=20\/i=21\/i=22\/i=23:=by omega
end Go.Proofs.YtcgdckphpjfmhaaGreatDoor
