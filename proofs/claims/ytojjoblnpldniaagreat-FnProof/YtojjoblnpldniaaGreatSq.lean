/- Small facts of worlds and numbers. -/
import Derived.Below
import Derived.KernelRfl
import Derived.IntWalk
open Go.RowKit
namespace Go.Proofs.YtojjoblnpldniaaGreat
theorem eQx{α:Sort _}(t:α):∃x,x=t:=⟨_,rfl⟩
abbrev O:=Hid
abbrev ab(w:World)(g:Nat)(v:Value):Prop:=w.cell? ⟨g,0,none⟩=some v
abbrev ac(w:World)(g o:Nat)(v:Value):Prop:=w.cell? ⟨g,o,none⟩=some v
abbrev am(b:Nat):Addr:=⟨b,0,none⟩
abbrev ap(b o:Nat):Addr:=⟨b,o,none⟩
abbrev aq:Array Value:=#[.string ⟨#[]⟩,.string ⟨#[]⟩,.string ⟨#[]⟩,.string ⟨#[]⟩,.string ⟨#[]⟩,.string ⟨#[]⟩]
abbrev ar:Array Value:=#[.string ⟨#[]⟩,.string ⟨#[]⟩,.string ⟨#[]⟩,.string ⟨#[]⟩,.string ⟨#[]⟩]
abbrev aw:Array Value:=#[.string ⟨#[]⟩,.string ⟨#[]⟩]
abbrev aE(w:World):Addr:=⟨w.heap.size,0,none⟩
abbrev a6(w:World)(o:Nat):Addr:=⟨w.heap.size,o,none⟩
abbrev a7{α:Type}(l:List α):Prop:=l.length<=1048576
abbrev a8(w:World)(v:Value)(e:Ending)(w':World):Prop:=e=.returned v/\Below w.heap.size w w'
abbrev bh(w:World)(v:Value)(e:Ending)(w':World):Prop:=e=.returned v/\w'=w
abbrev bj(x w:World)(e:TypeId)(s:Nat)(v:Value)(n:Nat)(l:List Value):Prop:=w.ownsRow x.heap.size e s v n l
abbrev b9(a b c d e f:ByteArray):Array Value:=#[.string a,.string b,.string c,.string d,.string e,.string f]
abbrev cD(a b c d e:ByteArray):Array Value:=#[.string a,.string b,.string c,.string d,.string e]
abbrev cX(w w':World):Prop:=w.heap.size<w'.heap.size
abbrev cY(w w':World):Prop:=w.heap.size<=w'.heap.size
abbrev cW(n:Nat)(w:World):Prop:=n<w.heap.size
abbrev cV(n:Nat)(w:World):Prop:=n<=w.heap.size
theorem cq{p:Prop}(h:p:=by omega):p:=h
theorem ct{p:Prop}(h:p:=by simp):p:=h
theorem cv{p:Prop}(h:p:=by decide):p:=h
theorem cw{p:Prop}(h:p:=by kernel_rfl):p:=h
theorem cx{p:Prop}(h:p:=by go_num):p:=h
theorem cy{p:Prop}(h:p:=by unfold maxLen;omega):p:=h
theorem cE{p:Prop}(h:p:=by assumption):p:=h
abbrev ae (w w':World):Prop:=Below w.heap.size w w'
abbrev ag:=World
abbrev dw:=ByteArray
abbrev XI:=@List.getElem_mem
abbrev XJ:=@Nat.lt_of_lt_of_le
abbrev XK:=@Nat.le_refl
abbrev XL:=@Below.refl
abbrev XM:=@List.take_succ_eq_append_getElem
abbrev XN:=@Bool.and_eq_true
abbrev XO:=@Array.getElem?_eq_some_iff
abbrev XP:=@Nat.zero_le
abbrev XQ:=@List.getElem?_eq_getElem
abbrev XR:=@Nat.le_trans
abbrev XT:=@List.length_append
abbrev XU:=@decide_eq_true_eq
abbrev XV:=@List.mem_append
abbrev XW:=@List.mem_map
abbrev XX:=@List.mem_singleton
abbrev XY:=@List.all_eq_true
abbrev XZ:=@List.mem_flatMap
abbrev X0:=@List.length_eq_zero_iff
abbrev X7:=@List.mem_cons
abbrev X8:=@List.take_length
abbrev X9:=@Bool.eq_iff_iff
abbrev Ya:=@List.drop_of_length_le
abbrev Yb:=@ByteArray.size_append
abbrev Yc:=@List.length_take
abbrev Yd:=@Array.getD_eq_getD_getElem?
abbrev Ye:=@List.append_assoc
abbrev Yf:=@World.cell?_of_block
abbrev Yg:=@Nat.zero_add
abbrev Yh:=@List.length_cons
abbrev Yi:=@List.drop_eq_getElem_cons
abbrev Yj:=@List.take_of_length_le
abbrev Yk:=@List.getElem_of_mem
abbrev Yl:=@List.getD_eq_getElem?_getD
abbrev Ym:=@List.flatMap_cons
abbrev Yn:=@List.mem_map_of_mem
abbrev Yo:=@List.getElem_append_left
abbrev Yp:=@List.length_map
abbrev Yq:=@List.any_eq_true
abbrev Yr:=@List.length_singleton
abbrev Yt:=@List.mem_cons_of_mem
abbrev Yu:=@List.mem_iff_getElem
abbrev Yv:=@Option.getD_some
abbrev Yw:=@Array.getElem?_replicate
abbrev Yx:=@List.mem_cons_self
abbrev Yy:=@Array.getElem?_eq_getElem
abbrev Yz:=@List.cons_append
abbrev YA:=@List.getElem?_append_right
abbrev YB:=@List.append_nil
abbrev YC:=@List.getElem_append_right
abbrev YD:=@List.length_drop
abbrev YE:=@List.flatMap_append
abbrev YF:=@List.map_append
abbrev YG:=@Nat.not_lt_zero
abbrev YH:=@ByteArray.append_assoc
abbrev YI:=@List.nil_append
abbrev YJ:=@ByteArray.data_append
abbrev YK:=@List.getElem?_append_left
abbrev YL:=@List.mem_filter
abbrev YM:=@List.length_filterMap_le
abbrev YN:=@List.mem_append_left
abbrev YO:=@List.length_nil
abbrev YP:=@List.any_cons
abbrev YQ:=@List.all_append
abbrev YR:=@List.mem_of_getElem?
abbrev YS:=@List.filter_cons
abbrev YT:=@List.map_cons
abbrev YU:=@List.filter_append
abbrev YV:=@Nat.le_of_lt
abbrev Q00:=ByteArray × ByteArray → Int
abbrev Q01:=ByteArray × ByteArray
abbrev Q02:=Option Addr
abbrev Q03:=List Value
theorem aK{p:Prop}(h:p):Hid p:=h
theorem jr{w W w':World}(h:Hid (Below w.heap.size w W))(hb:Below W.heap.size W w'):Hid (Below w.heap.size w w'):=h.out.trans (hb.mono h.out.size)
theorem lX{w W:World}{o:_}(h:W=w.alloc o):Hid (Below w.heap.size w W):=by show Below _ _ _;rw[h];exact(XL _ _).alloc (XK _) _
theorem bG(k:Nat):(0:Int)<=(k:Int):=by omega
theorem WL{i:Nat}(h:i<7):i=0\/i=1\/i=2\/i=3\/i=4\/i=5\/i=6:=by omega
theorem XE{i:Nat}(h:i<8):i=0\/i=1\/i=2\/i=3\/i=4\/i=5\/i=6\/i=7:=by omega
theorem H8{i:Nat}(h:i<10):i=0\/i=1\/i=2\/i=3\/i=4\/i=5\/i=6\/i=7\/i=8\/i=9:=by omega
theorem P9{i:Nat}(h:i<11):i=0\/i=1\/i=2\/i=3\/i=4\/i=5\/i=6\/i=7\/i=8\/i=9\/i=10:=by omega
theorem WM{i:Nat}(h:i<12):i=0\/i=1\/i=2\/i=3\/i=4\/i=5\/i=6\/i=7\/i=8\/i=9\/i=10\/i=11:=by omega
theorem Vh{i:Nat}(h:i<13):i=0\/i=1\/i=2\/i=3\/i=4\/i=5\/i=6\/i=7\/i=8\/i=9\/i=10\/i=11\/i=12:=by omega
theorem WN{i:Nat}(h:i<14):i=0\/i=1\/i=2\/i=3\/i=4\/i=5\/i=6\/i=7\/i=8\/i=9\/i=10\/i=11\/i=12\/i=13:=by omega
theorem MU{i:Nat}(h:i<19):i=0\/i=1\/i=2\/i=3\/i=4\/i=5\/i=6\/i=7\/i=8\/i=9\/i=10\/i=11\/i=12\/i=13\/i=14\/i=15\/i=16\/i=17\/i=18:=by omega
theorem WO{i:Nat}(h:i<20):i=0\/i=1\/i=2\/i=3\/i=4\/i=5\/i=6\/i=7\/i=8\/i=9\/i=10\/i=11\/i=12\/i=13\/i=14\/i=15\/i=16\/i=17\/i=18\/i=19:=by omega
theorem WP{i:Nat}(h:i<24):i=0\/i=1\/i=2\/i=3\/i=4\/i=5\/i=6\/i=7\/i=8\/i=9\/i=10\/i=11\/i=12\/i=13\/i=14\/i=15\/i=16\/i=17\/i=18\/i=19\/i=20\/i=21\/i=22\/i=23:=by omega
end Go.Proofs.YtojjoblnpldniaaGreat
