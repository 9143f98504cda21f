/- Small facts of worlds and numbers. -/
import Derived.Below
open Go.RowKit
namespace Go.Proofs.YtojjoblnpldniaaGreat
abbrev ag (w w':World):Prop:=Below w.heap.size w w'
abbrev ae:=World
abbrev bQ:=ByteArray
abbrev Vp:=@List.getElem_mem
abbrev Vq:=@Nat.lt_of_lt_of_le
abbrev Vr:=@Nat.le_refl
abbrev Vs:=@Below.refl
abbrev Vt:=@Bool.and_eq_true
abbrev Vu:=@List.take_succ_eq_append_getElem
abbrev Vv:=@Nat.zero_le
abbrev Vw:=@Array.getElem?_eq_some_iff
abbrev Vx:=@List.length_append
abbrev Vy:=@List.getElem?_eq_getElem
abbrev Vz:=@Nat.le_trans
abbrev VC:=@List.all_eq_true
abbrev VD:=@List.mem_singleton
abbrev VE:=@List.mem_append
abbrev VF:=@decide_eq_true_eq
abbrev VG:=@List.mem_map
abbrev VH:=@List.mem_cons
abbrev VI:=@List.take_length
abbrev VJ:=@List.mem_flatMap
abbrev VK:=@ByteArray.size_append
abbrev VL:=@Bool.eq_iff_iff
abbrev VM:=@List.length_eq_zero_iff
abbrev VN:=@List.drop_of_length_le
abbrev VO:=@List.getElem_append_left
abbrev VP:=@Array.getD_eq_getD_getElem?
abbrev VQ:=@Nat.zero_add
abbrev VR:=@World.cell?_of_block
abbrev VS:=@List.length_cons
abbrev VT:=@List.any_eq_true
abbrev VU:=@List.append_assoc
abbrev VW:=@List.length_singleton
abbrev VX:=@List.flatMap_cons
abbrev VY:=@List.mem_map_of_mem
abbrev VZ:=@List.drop_eq_getElem_cons
abbrev V4:=@List.mem_cons_of_mem
abbrev V5:=@List.getElem_append_right
abbrev V6:=@List.getD_eq_getElem?_getD
abbrev V7:=@List.mem_iff_getElem
abbrev V8:=@List.take_of_length_le
abbrev V9:=@List.cons_append
abbrev Wd:=@Option.getD_some
abbrev We:=@List.mem_cons_self
abbrev Wh:=@Array.getElem?_replicate
abbrev Wi:=@List.length_take
abbrev Wj:=@List.flatMap_append
abbrev Wl:=@List.getElem_of_mem
abbrev Wm:=@ByteArray.append_assoc
abbrev Wn:=@Array.getElem?_eq_getElem
abbrev Wo:=@List.mem_append_left
abbrev Wp:=@List.append_nil
abbrev Wq:=@List.getElem?_append_right
abbrev Ws:=@ByteArray.data_append
abbrev Wt:=@List.getElem?_append_left
abbrev Wu:=@List.map_append
abbrev Wv:=@List.length_nil
abbrev Ww:=@List.nil_append
abbrev Wx:=@Nat.not_lt_zero
abbrev Wy:=@List.length_map
abbrev Wz:=@List.mem_filter
abbrev WA:=@List.mem_of_getElem?
abbrev WB:=@List.length_drop
abbrev WC:=@List.all_append
abbrev WE:=@List.length_filterMap_le
abbrev WF:=@List.map_cons
abbrev WG:=@List.filter_cons
abbrev WH:=@Nat.le_of_lt
abbrev WJ:=@List.filter_append
abbrev Q00:=ByteArray × ByteArray → Int
abbrev Q01:=ByteArray × ByteArray
abbrev Q02:=Option Addr
abbrev Q03:=List Value
theorem aC{p:Prop}(h:p):Hid p:=h
theorem iJ{w W w':World}(h:Hid (Below w.heap.size w W))(hb:Below W.heap.size W w'):Hid (Below w.heap.size w w'):=h.out.trans (hb.mono h.out.size)
theorem sH{w W:World}{o:_}(h:W=w.alloc o):Hid (Below w.heap.size w W):=by show Below _ _ _;rw[h];exact(Vs _ _).alloc (Vr _) _
theorem bC(k:Nat):(0:Int)<=(k:Int):=by omega
theorem UI{i:Nat}(h:i<7):i=0\/i=1\/i=2\/i=3\/i=4\/i=5\/i=6:=by omega
theorem Vj{i:Nat}(h:i<8):i=0\/i=1\/i=2\/i=3\/i=4\/i=5\/i=6\/i=7:=by omega
theorem KW{i:Nat}(h:i<10):i=0\/i=1\/i=2\/i=3\/i=4\/i=5\/i=6\/i=7\/i=8\/i=9:=by omega
theorem Oy{i:Nat}(h:i<11):i=0\/i=1\/i=2\/i=3\/i=4\/i=5\/i=6\/i=7\/i=8\/i=9\/i=10:=by omega
theorem KX{i:Nat}(h:i<12):i=0\/i=1\/i=2\/i=3\/i=4\/i=5\/i=6\/i=7\/i=8\/i=9\/i=10\/i=11:=by omega
theorem UJ{i:Nat}(h:i<14):i=0\/i=1\/i=2\/i=3\/i=4\/i=5\/i=6\/i=7\/i=8\/i=9\/i=10\/i=11\/i=12\/i=13:=by omega
theorem Oz{i:Nat}(h:i<19):i=0\/i=1\/i=2\/i=3\/i=4\/i=5\/i=6\/i=7\/i=8\/i=9\/i=10\/i=11\/i=12\/i=13\/i=14\/i=15\/i=16\/i=17\/i=18:=by omega
theorem UK{i:Nat}(h:i<24):i=0\/i=1\/i=2\/i=3\/i=4\/i=5\/i=6\/i=7\/i=8\/i=9\/i=10\/i=11\/i=12\/i=13\/i=14\/i=15\/i=16\/i=17\/i=18\/i=19\/i=20\/i=21\/i=22\/i=23:=by omega
end Go.Proofs.YtojjoblnpldniaaGreat
