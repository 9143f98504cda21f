/- Small facts of worlds and numbers. -/
import Derived.Below
import Derived.KernelRfl
import Derived.IntWalk
open Go.RowKit
namespace Go.Proofs.YtojjoblnpldniaaGreat
theorem eQx{α:Sort _}(t:α):∃x,x=t:=⟨_,rfl⟩
abbrev O:=Hid
abbrev ab(w:World)(g:Nat)(v:Value):Prop:=w.cell? ⟨g,0,none⟩=some v
abbrev ac(w:World)(g o:Nat)(v:Value):Prop:=w.cell? ⟨g,o,none⟩=some v
abbrev am(b:Nat):Addr:=⟨b,0,none⟩
abbrev aq(b o:Nat):Addr:=⟨b,o,none⟩
abbrev ar:Array Value:=#[.string ⟨#[]⟩,.string ⟨#[]⟩,.string ⟨#[]⟩,.string ⟨#[]⟩,.string ⟨#[]⟩,.string ⟨#[]⟩]
abbrev aw:Array Value:=#[.string ⟨#[]⟩,.string ⟨#[]⟩,.string ⟨#[]⟩,.string ⟨#[]⟩,.string ⟨#[]⟩]
abbrev aE:Array Value:=#[.string ⟨#[]⟩,.string ⟨#[]⟩]
abbrev a7(w:World):Addr:=⟨w.heap.size,0,none⟩
abbrev a8(w:World)(o:Nat):Addr:=⟨w.heap.size,o,none⟩
abbrev bh{α:Type}(l:List α):Prop:=l.length<=1048576
abbrev bj(w:World)(v:Value)(e:Ending)(w':World):Prop:=e=.returned v/\Below w.heap.size w w'
abbrev bx(w:World)(v:Value)(e:Ending)(w':World):Prop:=e=.returned v/\w'=w
abbrev cD(x w:World)(e:TypeId)(s:Nat)(v:Value)(n:Nat)(l:List Value):Prop:=w.ownsRow x.heap.size e s v n l
abbrev cX(a b c d e f:ByteArray):Array Value:=#[.string a,.string b,.string c,.string d,.string e,.string f]
abbrev cY(a b c d e:ByteArray):Array Value:=#[.string a,.string b,.string c,.string d,.string e]
abbrev cW(w w':World):Prop:=w.heap.size<w'.heap.size
abbrev cV(w w':World):Prop:=w.heap.size<=w'.heap.size
abbrev cU(n:Nat)(w:World):Prop:=n<w.heap.size
abbrev cd(n:Nat)(w:World):Prop:=n<=w.heap.size
theorem cq{p:Prop}(h:p:=by omega):p:=h
theorem ct{p:Prop}(h:p:=by simp):p:=h
theorem cv{p:Prop}(h:p:=by decide):p:=h
theorem cw{p:Prop}(h:p:=by kernel_rfl):p:=h
theorem cx{p:Prop}(h:p:=by go_num):p:=h
theorem cy{p:Prop}(h:p:=by unfold maxLen;omega):p:=h
theorem cE{p:Prop}(h:p:=by assumption):p:=h
abbrev ag (w w':World):Prop:=Below w.heap.size w w'
abbrev af:=World
abbrev bN:=ByteArray
abbrev WH:=@List.getElem_mem
abbrev WJ:=@Nat.lt_of_lt_of_le
abbrev WK:=@Nat.le_refl
abbrev WL:=@Below.refl
abbrev WM:=@Bool.and_eq_true
abbrev WN:=@List.take_succ_eq_append_getElem
abbrev WO:=@Nat.zero_le
abbrev WP:=@List.length_append
abbrev WQ:=@Array.getElem?_eq_some_iff
abbrev WR:=@Nat.le_trans
abbrev WS:=@List.getElem?_eq_getElem
abbrev WT:=@List.all_eq_true
abbrev WU:=@List.mem_append
abbrev WV:=@List.mem_map
abbrev WW:=@decide_eq_true_eq
abbrev WX:=@World.cell?_of_block
abbrev WY:=@ByteArray.size_append
abbrev WZ:=@List.mem_singleton
abbrev Xa:=@List.take_length
abbrev Xb:=@List.length_eq_zero_iff
abbrev Xc:=@List.mem_cons
abbrev Xd:=@List.mem_flatMap
abbrev Xe:=@Bool.eq_iff_iff
abbrev Xf:=@Array.getD_eq_getD_getElem?
abbrev Xg:=@List.append_assoc
abbrev Xh:=@List.getD_eq_getElem?_getD
abbrev Xi:=@List.length_singleton
abbrev Xj:=@List.any_eq_true
abbrev Xk:=@List.mem_map_of_mem
abbrev Xl:=@Nat.zero_add
abbrev Xm:=@List.drop_of_length_le
abbrev Xn:=@List.take_of_length_le
abbrev Xo:=@ByteArray.append_assoc
abbrev Xp:=@List.getElem_append_left
abbrev Xq:=@List.length_cons
abbrev Xr:=@List.flatMap_cons
abbrev Xt:=@List.getElem_of_mem
abbrev Xu:=@List.mem_cons_of_mem
abbrev Xv:=@List.length_map
abbrev Xw:=@List.drop_eq_getElem_cons
abbrev Xx:=@List.getElem?_append_right
abbrev Xy:=@List.map_append
abbrev Xz:=@Array.getElem?_replicate
abbrev XA:=@List.mem_iff_getElem
abbrev XB:=@List.cons_append
abbrev XC:=@List.length_take
abbrev XD:=@List.getElem?_append_left
abbrev XE:=@Nat.not_lt_zero
abbrev XF:=@Option.getD_some
abbrev XG:=@List.getElem_append_right
abbrev XH:=@List.mem_cons_self
abbrev XI:=@ByteArray.data_append
abbrev XJ:=@Array.getElem?_eq_getElem
abbrev XK:=@List.mem_append_left
abbrev XL:=@List.append_nil
abbrev XM:=@List.mem_filter
abbrev XN:=@List.map_cons
abbrev XO:=@List.mem_of_getElem?
abbrev XP:=@List.flatMap_append
abbrev XQ:=@List.length_nil
abbrev XR:=@List.nil_append
abbrev XT:=@List.length_drop
abbrev XU:=@List.all_append
abbrev XV:=@List.length_filterMap_le
abbrev XW:=@Nat.le_of_lt
abbrev XX:=@List.filter_cons
abbrev XY:=@List.any_cons
abbrev Q00:=ByteArray × ByteArray → Int
abbrev Q01:=ByteArray × ByteArray
abbrev Q02:=Option Addr
abbrev Q03:=List Value
theorem aB{p:Prop}(h:p):Hid p:=h
theorem iD{w W w':World}(h:Hid (Below w.heap.size w W))(hb:Below W.heap.size W w'):Hid (Below w.heap.size w w'):=h.out.trans (hb.mono h.out.size)
theorem tZ{w W:World}{o:_}(h:W=w.alloc o):Hid (Below w.heap.size w W):=by show Below _ _ _;rw[h];exact(WL _ _).alloc (WK _) _
theorem bY(k:Nat):(0:Int)<=(k:Int):=by omega
theorem VP{i:Nat}(h:i<7):i=0\/i=1\/i=2\/i=3\/i=4\/i=5\/i=6:=by omega
theorem Wx{i:Nat}(h:i<8):i=0\/i=1\/i=2\/i=3\/i=4\/i=5\/i=6\/i=7:=by omega
theorem SV{i:Nat}(h:i<9):i=0\/i=1\/i=2\/i=3\/i=4\/i=5\/i=6\/i=7\/i=8:=by omega
theorem Mv{i:Nat}(h:i<10):i=0\/i=1\/i=2\/i=3\/i=4\/i=5\/i=6\/i=7\/i=8\/i=9:=by omega
theorem GY{i:Nat}(h:i<11):i=0\/i=1\/i=2\/i=3\/i=4\/i=5\/i=6\/i=7\/i=8\/i=9\/i=10:=by omega
theorem Mw{i:Nat}(h:i<12):i=0\/i=1\/i=2\/i=3\/i=4\/i=5\/i=6\/i=7\/i=8\/i=9\/i=10\/i=11:=by omega
theorem PU{i:Nat}(h:i<14):i=0\/i=1\/i=2\/i=3\/i=4\/i=5\/i=6\/i=7\/i=8\/i=9\/i=10\/i=11\/i=12\/i=13:=by omega
theorem UF{i:Nat}(h:i<15):i=0\/i=1\/i=2\/i=3\/i=4\/i=5\/i=6\/i=7\/i=8\/i=9\/i=10\/i=11\/i=12\/i=13\/i=14:=by omega
theorem PV{i:Nat}(h:i<19):i=0\/i=1\/i=2\/i=3\/i=4\/i=5\/i=6\/i=7\/i=8\/i=9\/i=10\/i=11\/i=12\/i=13\/i=14\/i=15\/i=16\/i=17\/i=18:=by omega
theorem VQ{i:Nat}(h:i<21):i=0\/i=1\/i=2\/i=3\/i=4\/i=5\/i=6\/i=7\/i=8\/i=9\/i=10\/i=11\/i=12\/i=13\/i=14\/i=15\/i=16\/i=17\/i=18\/i=19\/i=20:=by omega
theorem UG{i:Nat}(h:i<24):i=0\/i=1\/i=2\/i=3\/i=4\/i=5\/i=6\/i=7\/i=8\/i=9\/i=10\/i=11\/i=12\/i=13\/i=14\/i=15\/i=16\/i=17\/i=18\/i=19\/i=20\/i=21\/i=22\/i=23:=by omega
theorem UH{i:Nat}(h:i<25):i=0\/i=1\/i=2\/i=3\/i=4\/i=5\/i=6\/i=7\/i=8\/i=9\/i=10\/i=11\/i=12\/i=13\/i=14\/i=15\/i=16\/i=17\/i=18\/i=19\/i=20\/i=21\/i=22\/i=23\/i=24:=by omega
end Go.Proofs.YtojjoblnpldniaaGreat
