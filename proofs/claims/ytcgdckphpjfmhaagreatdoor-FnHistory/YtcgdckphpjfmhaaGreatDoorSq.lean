/- Small facts of worlds and numbers. -/
import Derived.Below
open Go.RowKit
namespace Go.Proofs.YtcgdckphpjfmhaaGreatDoor
abbrev af (w w':World):Prop:=Below w.heap.size w w'
abbrev ae:=World
abbrev bW:=ByteArray
abbrev Vy:=@Nat.lt_of_lt_of_le
abbrev Vz:=@List.getElem_mem
abbrev VC:=@Nat.le_refl
abbrev VD:=@Below.refl
abbrev VE:=@List.take_succ_eq_append_getElem
abbrev VF:=@Bool.and_eq_true
abbrev VG:=@Nat.zero_le
abbrev VH:=@Array.getElem?_eq_some_iff
abbrev VI:=@List.length_append
abbrev VJ:=@Nat.le_trans
abbrev VK:=@List.mem_singleton
abbrev VL:=@List.mem_append
abbrev VM:=@decide_eq_true_eq
abbrev VN:=@List.all_eq_true
abbrev VO:=@List.getElem?_eq_getElem
abbrev VP:=@List.take_length
abbrev VQ:=@List.mem_map
abbrev VR:=@World.cell?_of_block
abbrev VS:=@List.length_eq_zero_iff
abbrev VT:=@ByteArray.size_append
abbrev VU:=@List.mem_cons
abbrev VV:=@Bool.eq_iff_iff
abbrev VW:=@List.drop_of_length_le
abbrev VX:=@Array.getD_eq_getD_getElem?
abbrev VY:=@List.getElem_append_left
abbrev VZ:=@List.mem_flatMap
abbrev V4:=@Nat.zero_add
abbrev V5:=@List.drop_eq_getElem_cons
abbrev V8:=@List.append_assoc
abbrev V9:=@List.length_take
abbrev Wd:=@List.mem_map_of_mem
abbrev We:=@List.length_cons
abbrev Wh:=@List.length_singleton
abbrev Wi:=@List.flatMap_cons
abbrev Wj:=@List.getElem_append_right
abbrev Wl:=@List.take_of_length_le
abbrev Wm:=@List.mem_iff_getElem
abbrev Wn:=@Option.getD_some
abbrev Wo:=@Array.getElem?_replicate
abbrev Wp:=@List.cons_append
abbrev Wq:=@List.length_drop
abbrev Ws:=@List.flatMap_append
abbrev Wt:=@ByteArray.append_assoc
abbrev Wu:=@List.getElem?_append_right
abbrev Wv:=@List.mem_cons_of_mem
abbrev Ww:=@List.append_nil
abbrev Wx:=@List.getElem?_append_left
abbrev Wy:=@Array.getElem?_eq_getElem
abbrev Wz:=@ByteArray.data_append
abbrev WA:=@List.map_append
abbrev WB:=@List.mem_cons_self
abbrev WC:=@List.length_map
abbrev WE:=@List.mem_filter
abbrev WF:=@List.getD_eq_getElem?_getD
abbrev WG:=@List.any_eq_true
abbrev WH:=@List.length_nil
abbrev WJ:=@Nat.not_lt_zero
abbrev WK:=@List.all_append
abbrev WL:=@List.mem_of_getElem?
abbrev WM:=@List.length_filterMap_le
abbrev WN:=@List.nil_append
abbrev WO:=@List.map_cons
abbrev WP:=@List.filter_append
abbrev WQ:=@List.mem_append_left
abbrev WR:=@List.getElem_of_mem
abbrev WS:=@Nat.le_of_lt
abbrev WT:=@List.any_cons
abbrev Q00:=ByteArray × ByteArray → Int
abbrev Q01:=ByteArray × ByteArray
abbrev Q02:=Option Addr
abbrev Q03:=List Value
theorem aC{p:Prop}(h:p):Hid p:=h
theorem kL{w W w':World}(h:Hid (Below w.heap.size w W))(hb:Below W.heap.size W w'):Hid (Below w.heap.size w w'):=h.out.trans (hb.mono h.out.size)
theorem oQ{w W:World}{o:_}(h:W=w.alloc o):Hid (Below w.heap.size w W):=by show Below _ _ _;rw[h];exact(VD _ _).alloc (VC _) _
theorem bq(k:Nat):(0:Int)<=(k:Int):=by omega
theorem UH{i:Nat}(h:i<7):i=0\/i=1\/i=2\/i=3\/i=4\/i=5\/i=6:=by omega
theorem Vp{i:Nat}(h:i<8):i=0\/i=1\/i=2\/i=3\/i=4\/i=5\/i=6\/i=7:=by omega
theorem Fy{i:Nat}(h:i<10):i=0\/i=1\/i=2\/i=3\/i=4\/i=5\/i=6\/i=7\/i=8\/i=9:=by omega
theorem Ku{i:Nat}(h:i<11):i=0\/i=1\/i=2\/i=3\/i=4\/i=5\/i=6\/i=7\/i=8\/i=9\/i=10:=by omega
theorem UI{i:Nat}(h:i<12):i=0\/i=1\/i=2\/i=3\/i=4\/i=5\/i=6\/i=7\/i=8\/i=9\/i=10\/i=11:=by omega
theorem UJ{i:Nat}(h:i<13):i=0\/i=1\/i=2\/i=3\/i=4\/i=5\/i=6\/i=7\/i=8\/i=9\/i=10\/i=11\/i=12:=by omega
theorem UK{i:Nat}(h:i<14):i=0\/i=1\/i=2\/i=3\/i=4\/i=5\/i=6\/i=7\/i=8\/i=9\/i=10\/i=11\/i=12\/i=13:=by omega
theorem Kv{i:Nat}(h:i<19):i=0\/i=1\/i=2\/i=3\/i=4\/i=5\/i=6\/i=7\/i=8\/i=9\/i=10\/i=11\/i=12\/i=13\/i=14\/i=15\/i=16\/i=17\/i=18:=by omega
theorem UL{i:Nat}(h:i<24):i=0\/i=1\/i=2\/i=3\/i=4\/i=5\/i=6\/i=7\/i=8\/i=9\/i=10\/i=11\/i=12\/i=13\/i=14\/i=15\/i=16\/i=17\/i=18\/i=19\/i=20\/i=21\/i=22\/i=23:=by omega
end Go.Proofs.YtcgdckphpjfmhaaGreatDoor
