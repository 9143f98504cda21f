/- Small facts of worlds and numbers. -/
import Derived.Below
open Go.RowKit
namespace Go.Proofs.YtojjoblnpldniaaGreat
theorem eQx{α:Sort _}(t:α):∃x,x=t:=⟨_,rfl⟩
abbrev ag (w w':World):Prop:=Below w.heap.size w w'
abbrev af:=World
abbrev bi:=ByteArray
abbrev Vs:=@List.getElem_mem
abbrev Vt:=@Nat.lt_of_lt_of_le
abbrev Vu:=@Nat.le_refl
abbrev Vv:=@Below.refl
abbrev Vw:=@Bool.and_eq_true
abbrev Vx:=@List.take_succ_eq_append_getElem
abbrev Vy:=@Nat.zero_le
abbrev Vz:=@Nat.le_trans
abbrev VC:=@Array.getElem?_eq_some_iff
abbrev VD:=@List.length_append
abbrev VE:=@List.mem_map
abbrev VF:=@List.all_eq_true
abbrev VG:=@List.getElem?_eq_getElem
abbrev VH:=@decide_eq_true_eq
abbrev VI:=@List.take_length
abbrev VJ:=@List.mem_append
abbrev VK:=@ByteArray.size_append
abbrev VL:=@List.mem_cons
abbrev VM:=@List.length_eq_zero_iff
abbrev VN:=@World.cell?_of_block
abbrev VO:=@List.mem_singleton
abbrev VP:=@List.mem_flatMap
abbrev VQ:=@Array.getD_eq_getD_getElem?
abbrev VR:=@Bool.eq_iff_iff
abbrev VS:=@List.mem_map_of_mem
abbrev VT:=@List.length_singleton
abbrev VU:=@List.drop_of_length_le
abbrev VW:=@Nat.zero_add
abbrev VX:=@List.any_eq_true
abbrev VY:=@List.append_assoc
abbrev VZ:=@List.take_of_length_le
abbrev V4:=@List.getElem_of_mem
abbrev V5:=@ByteArray.append_assoc
abbrev V6:=@List.flatMap_cons
abbrev V7:=@List.mem_cons_of_mem
abbrev V8:=@List.length_cons
abbrev V9:=@List.length_take
abbrev Wd:=@List.getElem_append_left
abbrev We:=@List.getD_eq_getElem?_getD
abbrev Wh:=@Array.getElem?_replicate
abbrev Wi:=@List.drop_eq_getElem_cons
abbrev Wj:=@List.mem_iff_getElem
abbrev Wl:=@List.map_append
abbrev Wm:=@Nat.not_lt_zero
abbrev Wn:=@Option.getD_some
abbrev Wo:=@List.mem_filter
abbrev Wp:=@List.length_map
abbrev Wq:=@List.cons_append
abbrev Ws:=@List.mem_cons_self
abbrev Wt:=@List.append_nil
abbrev Wu:=@ByteArray.data_append
abbrev Wv:=@Array.getElem?_eq_getElem
abbrev Ww:=@List.mem_append_left
abbrev Wx:=@List.getElem?_append_right
abbrev Wy:=@List.getElem?_append_left
abbrev Wz:=@List.getElem_append_right
abbrev WA:=@List.flatMap_append
abbrev WB:=@List.mem_of_getElem?
abbrev WC:=@List.map_cons
abbrev WE:=@List.length_nil
abbrev WF:=@List.filter_append
abbrev WG:=@List.length_drop
abbrev WH:=@List.all_append
abbrev WJ:=@List.length_filterMap_le
abbrev WK:=@List.nil_append
abbrev WL:=@Nat.lt_succ_self
abbrev WM:=@List.filter_cons
abbrev Q00:=ByteArray × ByteArray → Int
abbrev Q01:=ByteArray × ByteArray
abbrev Q02:=Option Addr
abbrev Q03:=List Value
theorem az{p:Prop}(h:p):Hid p:=h
theorem iX{w W w':World}(h:Hid (Below w.heap.size w W))(hb:Below W.heap.size W w'):Hid (Below w.heap.size w w'):=h.out.trans (hb.mono h.out.size)
theorem qC{w W:World}{o:_}(h:W=w.alloc o):Hid (Below w.heap.size w W):=by show Below _ _ _;rw[h];exact(Vv _ _).alloc (Vu _) _
theorem bI(k:Nat):(0:Int)<=(k:Int):=by omega
theorem UH{i:Nat}(h:i<7):i=0\/i=1\/i=2\/i=3\/i=4\/i=5\/i=6:=by omega
theorem TK{i:Nat}(h:i<8):i=0\/i=1\/i=2\/i=3\/i=4\/i=5\/i=6\/i=7:=by omega
theorem UI{i:Nat}(h:i<9):i=0\/i=1\/i=2\/i=3\/i=4\/i=5\/i=6\/i=7\/i=8:=by omega
theorem Lh{i:Nat}(h:i<10):i=0\/i=1\/i=2\/i=3\/i=4\/i=5\/i=6\/i=7\/i=8\/i=9:=by omega
theorem F7{i:Nat}(h:i<11):i=0\/i=1\/i=2\/i=3\/i=4\/i=5\/i=6\/i=7\/i=8\/i=9\/i=10:=by omega
theorem Li{i:Nat}(h:i<12):i=0\/i=1\/i=2\/i=3\/i=4\/i=5\/i=6\/i=7\/i=8\/i=9\/i=10\/i=11:=by omega
theorem OG{i:Nat}(h:i<14):i=0\/i=1\/i=2\/i=3\/i=4\/i=5\/i=6\/i=7\/i=8\/i=9\/i=10\/i=11\/i=12\/i=13:=by omega
theorem OH{i:Nat}(h:i<19):i=0\/i=1\/i=2\/i=3\/i=4\/i=5\/i=6\/i=7\/i=8\/i=9\/i=10\/i=11\/i=12\/i=13\/i=14\/i=15\/i=16\/i=17\/i=18:=by omega
theorem Tj{i:Nat}(h:i<24):i=0\/i=1\/i=2\/i=3\/i=4\/i=5\/i=6\/i=7\/i=8\/i=9\/i=10\/i=11\/i=12\/i=13\/i=14\/i=15\/i=16\/i=17\/i=18\/i=19\/i=20\/i=21\/i=22\/i=23:=by omega
end Go.Proofs.YtojjoblnpldniaaGreat
