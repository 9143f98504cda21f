/- Small facts of worlds and numbers. -/
import Derived.Below
open Go.RowKit
namespace Go.Proofs.YtajkkeikihhejaaGreat
abbrev ae (w w':World):Prop:=Below w.heap.size w w'
abbrev af:=World
abbrev bW:=ByteArray
abbrev U8:=@List.getElem_mem
abbrev U9:=@Nat.lt_of_lt_of_le
abbrev Va:=@Nat.le_refl
abbrev Vb:=@Below.refl
abbrev Vd:=@Bool.and_eq_true
abbrev Ve:=@List.take_succ_eq_append_getElem
abbrev Vf:=@Nat.zero_le
abbrev Vg:=@List.getElem?_eq_getElem
abbrev Vh:=@List.length_append
abbrev Vi:=@Array.getElem?_eq_some_iff
abbrev Vj:=@Nat.le_trans
abbrev Vk:=@decide_eq_true_eq
abbrev Vl:=@List.mem_singleton
abbrev Vm:=@List.all_eq_true
abbrev Vn:=@List.mem_append
abbrev Vo:=@List.mem_map
abbrev Vp:=@List.mem_flatMap
abbrev Vq:=@List.mem_cons
abbrev Vr:=@List.length_eq_zero_iff
abbrev Vs:=@List.take_length
abbrev Vt:=@List.drop_of_length_le
abbrev Vu:=@Bool.eq_iff_iff
abbrev Vv:=@ByteArray.size_append
abbrev Vw:=@List.getElem_append_left
abbrev Vx:=@World.cell?_of_block
abbrev Vy:=@Array.getD_eq_getD_getElem?
abbrev Vz:=@List.length_take
abbrev VC:=@Nat.zero_add
abbrev VD:=@List.append_assoc
abbrev VE:=@List.take_of_length_le
abbrev VF:=@List.any_eq_true
abbrev VG:=@List.drop_eq_getElem_cons
abbrev VH:=@List.getD_eq_getElem?_getD
abbrev VI:=@List.length_cons
abbrev VJ:=@List.flatMap_cons
abbrev VK:=@List.mem_map_of_mem
abbrev VL:=@List.length_singleton
abbrev VM:=@List.getElem_append_right
abbrev VN:=@List.length_map
abbrev VO:=@Option.getD_some
abbrev VP:=@List.mem_iff_getElem
abbrev VQ:=@List.mem_cons_of_mem
abbrev VR:=@Array.getElem?_replicate
abbrev VS:=@List.cons_append
abbrev VT:=@List.mem_cons_self
abbrev VU:=@List.flatMap_append
abbrev VV:=@List.getElem_of_mem
abbrev VW:=@ByteArray.append_assoc
abbrev VX:=@List.map_append
abbrev VY:=@Array.getElem?_eq_getElem
abbrev VZ:=@List.mem_append_left
abbrev V4:=@List.append_nil
abbrev V5:=@Nat.not_lt_zero
abbrev V6:=@List.mem_filter
abbrev V7:=@List.getElem?_append_right
abbrev V8:=@ByteArray.data_append
abbrev V9:=@List.getElem?_append_left
abbrev Wd:=@List.length_drop
abbrev We:=@List.mem_of_getElem?
abbrev Wh:=@List.nil_append
abbrev Wi:=@List.length_filterMap_le
abbrev Wj:=@List.length_nil
abbrev Wl:=@List.all_append
abbrev Wm:=@List.filter_cons
abbrev Wn:=@List.map_cons
abbrev Wo:=@List.any_cons
abbrev Wp:=@List.filter_append
abbrev Q00:=ByteArray × ByteArray → Int
abbrev Q01:=ByteArray × ByteArray
abbrev Q02:=Option Addr
abbrev Q03:=List Value
theorem aD{p:Prop}(h:p):Hid p:=h
theorem jF{w W w':World}(h:Hid (Below w.heap.size w W))(hb:Below W.heap.size W w'):Hid (Below w.heap.size w w'):=h.out.trans (hb.mono h.out.size)
theorem mi{w W:World}{o:_}(h:W=w.alloc o):Hid (Below w.heap.size w W):=by show Below _ _ _;rw[h];exact(Vb _ _).alloc (Va _) _
theorem bC(k:Nat):(0:Int)<=(k:Int):=by omega
theorem Uv{i:Nat}(h:i<7):i=0\/i=1\/i=2\/i=3\/i=4\/i=5\/i=6:=by omega
theorem Tt{i:Nat}(h:i<8):i=0\/i=1\/i=2\/i=3\/i=4\/i=5\/i=6\/i=7:=by omega
theorem uQ{i:Nat}(h:i<10):i=0\/i=1\/i=2\/i=3\/i=4\/i=5\/i=6\/i=7\/i=8\/i=9:=by omega
theorem N9{i:Nat}(h:i<11):i=0\/i=1\/i=2\/i=3\/i=4\/i=5\/i=6\/i=7\/i=8\/i=9\/i=10:=by omega
theorem Uw{i:Nat}(h:i<12):i=0\/i=1\/i=2\/i=3\/i=4\/i=5\/i=6\/i=7\/i=8\/i=9\/i=10\/i=11:=by omega
theorem Ux{i:Nat}(h:i<14):i=0\/i=1\/i=2\/i=3\/i=4\/i=5\/i=6\/i=7\/i=8\/i=9\/i=10\/i=11\/i=12\/i=13:=by omega
theorem KW{i:Nat}(h:i<19):i=0\/i=1\/i=2\/i=3\/i=4\/i=5\/i=6\/i=7\/i=8\/i=9\/i=10\/i=11\/i=12\/i=13\/i=14\/i=15\/i=16\/i=17\/i=18:=by omega
theorem Uy{i:Nat}(h:i<20):i=0\/i=1\/i=2\/i=3\/i=4\/i=5\/i=6\/i=7\/i=8\/i=9\/i=10\/i=11\/i=12\/i=13\/i=14\/i=15\/i=16\/i=17\/i=18\/i=19:=by omega
theorem Uz{i:Nat}(h:i<24):i=0\/i=1\/i=2\/i=3\/i=4\/i=5\/i=6\/i=7\/i=8\/i=9\/i=10\/i=11\/i=12\/i=13\/i=14\/i=15\/i=16\/i=17\/i=18\/i=19\/i=20\/i=21\/i=22\/i=23:=by omega
end Go.Proofs.YtajkkeikihhejaaGreat
