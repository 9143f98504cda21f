/- Small facts of worlds and numbers. -/
import Derived.Below
open Go.RowKit
namespace Go.Proofs.YtajkkeikihhejaaGreat
abbrev af (w w':World):Prop:=Below w.heap.size w w'
abbrev ae:=World
abbrev aD:=ByteArray
abbrev Sv:=@Nat.lt_of_lt_of_le
abbrev Sw:=@List.getElem_mem
abbrev Sy:=@Nat.le_refl
abbrev Sz:=@Below.refl
abbrev SA:=@List.take_succ_eq_append_getElem
abbrev SB:=@Bool.and_eq_true
abbrev SC:=@Nat.zero_le
abbrev SE:=@List.length_append
abbrev SF:=@Nat.le_trans
abbrev SG:=@List.mem_singleton
abbrev SH:=@List.getElem?_eq_getElem
abbrev SI:=@List.mem_append
abbrev SK:=@List.mem_map
abbrev SN:=@decide_eq_true_eq
abbrev SQ:=@List.all_eq_true
abbrev SS:=@List.take_length
abbrev SV:=@ByteArray.size_append
abbrev SX:=@List.length_eq_zero_iff
abbrev SY:=@List.mem_flatMap
abbrev S9:=@Array.getD_eq_getD_getElem?
abbrev Ta:=@List.getElem_append_left
abbrev Tc:=@World.cell?_of_block
abbrev Td:=@Nat.zero_add
abbrev Te:=@List.drop_eq_getElem_cons
abbrev Tf:=@List.getElem_append_right
abbrev Tg:=@List.length_take
abbrev Ti:=@Array.getElem?_eq_getElem
abbrev Tj:=@List.mem_cons_of_mem
abbrev Tk:=@List.length_map
abbrev Tm:=@List.mem_filter
abbrev Tn:=@Nat.not_lt_zero
abbrev Tq:=@List.any_eq_true
abbrev Tt:=@List.mem_cons_self
abbrev Tu:=@List.filter_append
abbrev Tv:=@List.getElem_of_mem
theorem az {p:Prop} (h:p):Hid p:=h
theorem jI {w W w':World} (h:Hid (Below w.heap.size w W)) (hb:Below W.heap.size W w'):Hid (Below w.heap.size w w'):=h.out.trans (hb.mono h.out.size)
theorem nA {w W:World} {o:_} (h:W=w.alloc o):Hid (Below w.heap.size w W):=by show Below _ _ _; rw [h]; exact (Sz _ _).alloc (Sy _) _
theorem bq (k:Nat):(0:Int)≤(k:Int):=by omega
theorem RD {i:Nat} (h:i < 7):i=0 ∨ i=1 ∨ i=2 ∨ i=3 ∨ i=4 ∨ i=5 ∨ i=6:=by omega
theorem QI {i:Nat} (h:i < 8):i=0 ∨ i=1 ∨ i=2 ∨ i=3 ∨ i=4 ∨ i=5 ∨ i=6 ∨ i=7:=by omega
theorem wT {i:Nat} (h:i < 10):i=0 ∨ i=1 ∨ i=2 ∨ i=3 ∨ i=4 ∨ i=5 ∨ i=6 ∨ i=7 ∨ i=8 ∨ i=9:=by omega
theorem Mf {i:Nat} (h:i < 11):i=0 ∨ i=1 ∨ i=2 ∨ i=3 ∨ i=4 ∨ i=5 ∨ i=6 ∨ i=7 ∨ i=8 ∨ i=9 ∨ i=10:=by omega
theorem RF {i:Nat} (h:i < 12):i=0 ∨ i=1 ∨ i=2 ∨ i=3 ∨ i=4 ∨ i=5 ∨ i=6 ∨ i=7 ∨ i=8 ∨ i=9 ∨ i=10 ∨ i=11:=by omega
theorem RG {i:Nat} (h:i < 14):i=0 ∨ i=1 ∨ i=2 ∨ i=3 ∨ i=4 ∨ i=5 ∨ i=6 ∨ i=7 ∨ i=8 ∨ i=9 ∨ i=10 ∨ i=11 ∨ i=12 ∨ i=13:=by omega
theorem Jk {i:Nat} (h:i < 19):i=0 ∨ i=1 ∨ i=2 ∨ i=3 ∨ i=4 ∨ i=5 ∨ i=6 ∨ i=7 ∨ i=8 ∨ i=9 ∨ i=10 ∨ i=11 ∨ i=12 ∨ i=13 ∨ i=14 ∨ i=15 ∨ i=16 ∨ i=17 ∨ i=18:=by omega
theorem RH {i:Nat} (h:i < 24):i=0 ∨ i=1 ∨ i=2 ∨ i=3 ∨ i=4 ∨ i=5 ∨ i=6 ∨ i=7 ∨ i=8 ∨ i=9 ∨ i=10 ∨ i=11 ∨ i=12 ∨ i=13 ∨ i=14 ∨ i=15 ∨ i=16 ∨ i=17 ∨ i=18 ∨ i=19 ∨ i=20 ∨ i=21 ∨ i=22 ∨ i=23:=by omega
end Go.Proofs.YtajkkeikihhejaaGreat
