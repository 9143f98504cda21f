/- errors.Is, at an error that is nil, a sentinel, or a refusal that holds a sentinel: Go's own text is walked. -/
import Derived.Test.YtcgdckphpjfmhaaGreatDoorSq
import Derived.Test.YtcgdckphpjfmhaaGreatDoorJ14
import Derived.LaidEql
import Derived.Stop.Asserts
import Derived.RowKitTokens
import Derived.Test.YtcgdckphpjfmhaaGreatDoorJ18
import Derived.RangeFuncLeaves
import Derived.OwnWalkIn
import Derived.TacticsInMore
import Derived.LoopNIn
import Derived.LoopIn
import Derived.Laws.EntriesVeiled
open Go.Proofs.Tryz
set_option maxHeartbeats 80000000
namespace Go.Proofs.YtcgdckphpjfmhaaGreatDoor
set_option maxRecDepth 100000
set_option linter.unusedVariables false
open RowKit Go.Extern.Stop Go.Stop Go.Extern
theorem QP(v:Value)(w:ae):(ReflectliteType.typeOf #[.iface 350 v]).run prog w=.ok (.iface 204 (.agg #[.pointer (some ⟨8,350,none⟩)])) w:=by kernel_rfl
theorem QQ:∃g,find Tryz.f278=some g/\∀w:World,(g #[.agg #[.pointer (some ⟨8,350,none⟩)]]).run prog w=.ok (.bool true) w :=
 ⟨(find Tryz.f278).get (by kernel_rfl),(Option.some_get _).symm,fun w=>by kernel_rfl⟩
theorem QR (v : Value) (w : World) : (Go.method 481 204 v "Comparable").run Tryz.prog w = .ok (278, v) w := by kernel_rfl
theorem UK:(prog.info? 350).map (·.comparable)=some true:=by kernel_rfl
theorem QS:(prog.info? 369).map (·.size)=some 1:=by kernel_rfl
theorem UL(v:Value)(x:TypeId)(w:ae):(Instr.typeAssert (.iface 350 v) x 267 true).run prog w=.ok (.tuple #[.nilIface,.bool false]) w:=run_typeAssert_lacksB underlying267 (by kernel_rfl) (by kernel_rfl) v x w
theorem QT(v:Value)(x:TypeId)(w:ae):(Instr.typeAssert (.iface 350 v) x 212 true).run prog w=.ok (.tuple #[.nilIface,.bool false]) w:=run_typeAssert_lacksB underlying212 (by kernel_rfl) (by kernel_rfl) v x w
theorem QU(v:Value)(x:TypeId)(w:ae):(Instr.typeAssert (.iface 350 v) x 214 true).run prog w=.ok (.tuple #[.nilIface,.bool false]) w:=run_typeAssert_lacksB underlying214 (by kernel_rfl) (by kernel_rfl) v x w
theorem UM(v:Value)(x:TypeId)(w:ae):(Instr.typeAssert (.iface 76 v) x 267 true).run prog w=.ok (.tuple #[.nilIface,.bool false]) w:=run_typeAssert_lacksB underlying267 (by kernel_rfl) (by kernel_rfl) v x w
theorem UN(v:Value)(x:TypeId)(w:ae):(Instr.typeAssert (.iface 76 v) x 212 true).run prog w=.ok (.tuple #[.iface 76 v,.bool true]) w:=run_typeAssert_hasB underlying212 (by kernel_rfl) v x w
theorem QV (v : Value) (w : World) : (Go.method 481 76 v "Unwrap").run Tryz.prog w = .ok (272, v) w := by kernel_rfl
theorem xR(b:Addr)(w:ae):Calls prog 77 #[.nilIface,.iface 350 (.pointer (some b))] w fun e w'=>e=.returned (.bool false)/\w'=w:=by
 have hn:=run_eql_iface_nil_left (P:=prog) w 350 (.pointer (some b)) underlying73;go_enter func77,ntmps77;go_wp2;go_ret;exact⟨rfl,rfl⟩
theorem SI(b:Addr)(w:ae):Calls prog 77 #[.iface 350 (.pointer (some b)),.iface 350 (.pointer (some b))] w fun e w'=>e=.returned (.bool true)/\w'=w:=by
 obtain⟨i,hi,hcmp⟩:=Option.map_eq_some_iff.1 UK;obtain⟨j,hj,hjs⟩:=Option.map_eq_some_iff.1 QS;have x1:=@run_callFunc_extern prog 120 _ ReflectliteType.typeOf func120 (by kernel_rfl) (by kernel_rfl) (by kernel_rfl) (by kernel_rfl);obtain⟨gC,hgC,x4⟩:=QQ;have x2:=@run_callFunc_extern prog 278 _ gC func278 (by kernel_rfl) (by kernel_rfl) (by kernel_rfl) hgC;have x3:=QP;have x5:=QR;have x6:=UL;have x7:=QT;have x8:=QU;have x9:=UM;have x10:=UN;have x11:=QV;have heq:=run_eql_iface_ptr_same (P:=prog) w b underlying73 underlying350 hi hcmp hj;go_enter func77,ntmps77;go_wp2;refine wp_loop_rounds 1 ?_;rw[rounds_succ];go_wp2;go_ret;exact⟨rfl,rfl⟩
theorem kZ(p:Nat)(b:Addr)(w:ae)(h1:w.cell? ⟨p,0,none⟩=some (.iface 350 (.pointer (some b)))):Calls prog 77 #[.iface 76 (.pointer (some ⟨p,0,none⟩)),.iface 350 (.pointer (some b))] w fun e w'=>e=.returned (.bool true)/\w'=w:=by
 obtain⟨i,hi,hcmp⟩:=Option.map_eq_some_iff.1 UK;obtain⟨j,hj,hjs⟩:=Option.map_eq_some_iff.1 QS;have x1:=@run_callFunc_extern prog 120 _ ReflectliteType.typeOf func120 (by kernel_rfl) (by kernel_rfl) (by kernel_rfl) (by kernel_rfl);obtain⟨gC,hgC,x4⟩:=QQ;have x2:=@run_callFunc_extern prog 278 _ gC func278 (by kernel_rfl) (by kernel_rfl) (by kernel_rfl) hgC;have x3:=QP;have x5:=QR;have x6:=UL;have x7:=QT;have x8:=QU;have x9:=UM;have x10:=UN;have x11:=QV;have heq:=run_eql_iface_ptr_same (P:=prog) w b underlying73 underlying350 hi hcmp hj;have hty:=run_eql_iface_types (P:=prog) 76 350 (.pointer (some ⟨p,0,none⟩)) (.pointer (some b)) underlying73 (by decide) w;go_enter func77,ntmps77;go_wp2;refine wp_loop_rounds 2 ?_;rw[rounds_succ];go_wp2;rw[rounds_succ];go_wp2;go_ret;exact⟨rfl,rfl⟩
theorem bi(p:Nat)(a b:Addr)(ca cb:Array Value)(ta tb:TypeId)(w:ae)(h1:w.cell? ⟨p,0,none⟩=some (.iface 350 (.pointer (some a))))(hne:a≠b)(ha:w.heap[a.block]?=some (.cells ca ta (0,0)))(hb:w.heap[b.block]?=some (.cells cb tb (0,0))):Calls prog 77 #[.iface 76 (.pointer (some ⟨p,0,none⟩)),.iface 350 (.pointer (some b))] w fun e w'=>e=.returned (.bool false)/\w'=w:=by
 obtain⟨i,hi,hcmp⟩:=Option.map_eq_some_iff.1 UK;obtain⟨j,hj,hjs⟩:=Option.map_eq_some_iff.1 QS;have x1:=@run_callFunc_extern prog 120 _ ReflectliteType.typeOf func120 (by kernel_rfl) (by kernel_rfl) (by kernel_rfl) (by kernel_rfl);obtain⟨gC,hgC,x4⟩:=QQ;have x2:=@run_callFunc_extern prog 278 _ gC func278 (by kernel_rfl) (by kernel_rfl) (by kernel_rfl) hgC;have x3:=QP;have x5:=QR;have x6:=UL;have x7:=QT;have x8:=QU;have x9:=UM;have x10:=UN;have x11:=QV;have heq:=run_eql_iface_ptr_other (P:=prog) w underlying73 underlying350 hi hcmp hj (by rw[hjs];decide) hne ha hb;have hty:=run_eql_iface_types (P:=prog) 76 350 (.pointer (some ⟨p,0,none⟩)) (.pointer (some b)) underlying73 (by decide) w;go_enter func77,ntmps77;go_wp2;refine wp_loop_rounds 2 ?_;rw[rounds_succ];go_wp2;rw[rounds_succ];go_wp2;go_ret;exact⟨rfl,rfl⟩
theorem UO(t:Value)(w:ae):Calls prog 39 #[.nilIface,t] w fun e w'=>e=.returned (.bool false)/\w'=w:=by
 go_enter func39,ntmps39;go_wp2;go_ret;exact⟨rfl,rfl⟩
theorem VV:∃g,find Tryz.f73=some g/\(∀(t:Addr) (w:ae),(g #[.iface 78 (.pointer (some t))]).run prog w=.ok (.agg #[.pointer (some ⟨8,78,none⟩),.pointer (some ⟨w.heap.size,0,none⟩),.int .u64 150]) (w.alloc (.cells #[.pointer (some t)] 78)))/\∀(e:Addr) (w:ae),(g #[.iface 76 (.pointer (some e))]).run prog w=.ok (.agg #[.pointer (some ⟨8,76,none⟩),.pointer (some ⟨w.heap.size,0,none⟩),.int .u64 150]) (w.alloc (.cells #[.pointer (some e)] 76)) :=
 ⟨(find Tryz.f73).get (by kernel_rfl),(Option.some_get _).symm,fun t w=>by kernel_rfl,fun e w=>by kernel_rfl⟩
theorem VF:∃g,find Tryz.f74=some g/\∀(a:Addr) (w:ae),(g #[.agg #[.pointer (some ⟨8,78,none⟩),.pointer (some a),.int .u64 150]]).run prog w=.ok (.iface 204 (.agg #[.pointer (some ⟨8,78,none⟩)])) w :=
 ⟨(find Tryz.f74).get (by kernel_rfl),(Option.some_get _).symm,fun a w=>by kernel_rfl⟩
theorem TM (h : Value) (w : World) : (Go.method 481 204 (.agg #[h]) "Kind").run Tryz.prog w = .ok (268, h) w := by kernel_rfl
theorem TN (h : Value) (w : World) : (Go.method 481 204 (.agg #[h]) "Elem").run Tryz.prog w = .ok (279, .agg #[h]) w := by kernel_rfl
theorem TP (h : Value) (w : World) : (Go.method 481 204 (.agg #[h]) "Implements").run Tryz.prog w = .ok (280, .agg #[h]) w := by kernel_rfl
theorem TQ (h : Value) (w : World) : (Go.method 481 204 (.agg #[h]) "AssignableTo").run Tryz.prog w = .ok (277, .agg #[h]) w := by kernel_rfl
theorem TS:∃g,find Tryz.f268=some g/\(∀w:World,(g #[.pointer (some ⟨8,78,none⟩)]).run prog w=.ok (.int .u8 22) w)/\∀w:World,(g #[.pointer (some ⟨8,76,none⟩)]).run prog w=.ok (.int .u8 22) w :=
 ⟨(find Tryz.f268).get (by kernel_rfl),(Option.some_get _).symm,fun w=>by kernel_rfl,fun w=>by kernel_rfl⟩
theorem TT:∃g,find Tryz.f279=some g/\∀w:World,(g #[.agg #[.pointer (some ⟨8,78,none⟩)]]).run prog w=.ok (.iface 204 (.agg #[.pointer (some ⟨8,76,none⟩)])) w :=
 ⟨(find Tryz.f279).get (by kernel_rfl),(Option.some_get _).symm,fun w=>by kernel_rfl⟩
theorem TU:∃g,find Tryz.f280=some g/\∀w:World,(g #[.agg #[.pointer (some ⟨8,76,none⟩)],.iface 204 (.agg #[.pointer (some ⟨8,73,none⟩)])]).run prog w=.ok (.bool true) w :=
 ⟨(find Tryz.f280).get (by kernel_rfl),(Option.some_get _).symm,fun w=>by kernel_rfl⟩
theorem TV:∃g,find Tryz.f277=some g/\(∀w:World,(g #[.agg #[.pointer (some ⟨8,76,none⟩)],.iface 204 (.agg #[.pointer (some ⟨8,76,none⟩)])]).run prog w=.ok (.bool true) w)/\∀w:World,(g #[.agg #[.pointer (some ⟨8,350,none⟩)],.iface 204 (.agg #[.pointer (some ⟨8,76,none⟩)])]).run prog w=.ok (.bool false) w :=
 ⟨(find Tryz.f277).get (by kernel_rfl),(Option.some_get _).symm,fun w=>by kernel_rfl,fun w=>by kernel_rfl⟩
theorem VG(v:Value)(w:ae):(ReflectliteType.typeOf #[.iface 76 v]).run prog w=.ok (.iface 204 (.agg #[.pointer (some ⟨8,76,none⟩)])) w:=by kernel_rfl
theorem VH(v:Value)(x:TypeId)(w:ae):(Instr.typeAssert (.iface 350 v) x 209 true).run prog w=.ok (.tuple #[.nilIface,.bool false]) w:=run_typeAssert_lacksB underlying209 (by kernel_rfl) (by kernel_rfl) v x w
theorem QW(a:Addr)(w:ae):(ReflectliteValue.parts (.agg #[.pointer (some ⟨8,78,none⟩),.pointer (some a),.int .u64 150])).run prog w=.ok (some (78,a,150)) w:=by kernel_rfl
theorem UQ(a:Addr)(w:ae):(ReflectliteValue.parts (.agg #[.pointer (some ⟨8,76,none⟩),.pointer (some a),.int .u64 150])).run prog w=.ok (some (76,a,150)) w:=by kernel_rfl
theorem UR(a:Addr)(w:ae):(ReflectliteValue.parts (.agg #[.pointer (some ⟨8,76,none⟩),.pointer (some a),.int .u64 406])).run prog w=.ok (some (76,a,406)) w:=by kernel_rfl
theorem VI(w:ae):(Rtype.elem? 78).run prog w=.ok (some 76) w:=by kernel_rfl
theorem VW(p:Addr)(w:ae):(ReflectliteValue.mk 76 p ReflectliteValue.flagAddr).run prog w=.ok (.agg #[.pointer (some ⟨8,76,none⟩),.pointer (some p),.int .u64 406]) w:=by kernel_rfl
theorem VS(w:ae):(Rtype.directlyAssignable 76 76).run prog w=.ok true w:=by kernel_rfl
theorem QX (a p : Addr) (W : World) (ha : W.cell? a = some (.pointer (some p))) : (ReflectliteValue.method (ReflectliteValue.valueError "reflectlite.Value.IsNil" 0) ReflectliteValue.isNil #[.agg #[.pointer (some ⟨8, 78, none⟩), .pointer (some a), .int .u64 150]]).run Tryz.prog W = .ok (.bool false) W := by
 change Sem.run prog (ReflectliteValue.parts (.agg #[.pointer (some ⟨8,78,none⟩),.pointer (some a),.int .u64 150]) >>= _) W=_
 rw[Sem.run_bind,QW,Result.andThen_ok];simp[ ReflectliteValue.isNil,loadVar,isAgg,underlying,underlying78,ha,Result.andThen]
theorem UT (a p : Addr) (W : World) (ha : W.cell? a = some (.pointer (some p))) : (ReflectliteValue.method (ReflectliteValue.valueError "reflectlite.Value.Elem" 0) ReflectliteValue.elem #[.agg #[.pointer (some ⟨8, 78, none⟩), .pointer (some a), .int .u64 150]]).run Tryz.prog W = .ok (.agg #[.pointer (some ⟨8, 76, none⟩), .pointer (some p), .int .u64 406]) W := by
 change Sem.run prog (ReflectliteValue.parts (.agg #[.pointer (some ⟨8,78,none⟩),.pointer (some a),.int .u64 150]) >>= _) W=_
 rw[Sem.run_bind,QW,Result.andThen_ok];simp[ ReflectliteValue.elem,loadVar,isAgg,underlying,underlying78,ha,Result.andThen,VI,VW]
theorem VT(ta b e:Addr)(old:Value)(W:ae)(hb:W.cell? b=some (.pointer (some e)))(ht:W.cell? ta=some old)(hf:W.frozen? ta=false):
  (ReflectliteValue.set #[.agg #[.pointer (some ⟨8,76,none⟩),.pointer (some ta),.int .u64 406],.agg #[.pointer (some ⟨8,76,none⟩),.pointer (some b),.int .u64 150]]).run prog W=.ok (.tuple #[]) (W.setCell ta (.pointer (some e))):=by
 change Sem.run prog (ReflectliteValue.parts (.agg #[.pointer (some ⟨8,76,none⟩),.pointer (some ta),.int .u64 406]) >>= fun x=>ReflectliteValue.parts (.agg #[.pointer (some ⟨8,76,none⟩),.pointer (some b),.int .u64 150]) >>= _) W=_
 rw[Sem.run_bind,UR,Result.andThen_ok,Sem.run_bind,UQ,Result.andThen_ok];simp[ ReflectliteValue.flagAddr,loadVar,isAgg,underlying,underlying76,hb,Result.andThen,VS,storeVar,Value.cells,storeCells,Addr.add];rw[run_store prog W ta _ _ (by rfl)];simp[ht,hf]
theorem UU(e t:Addr)(old:Value)(w:ae)(hg:w.cell? ⟨1,0,none⟩=some (.iface 204 (.agg #[.pointer (some ⟨8,73,none⟩)])))(ht0:w.cell? t=some old)(hf0:w.frozen? t=false):
  Calls prog 39 #[.iface 76 (.pointer (some e)),.iface 78 (.pointer (some t))] w fun ev w'=>ev=.returned (.bool true)/\∃W1,af w W1/\w'=W1.setCell t (.pointer (some e)):=by
 obtain ⟨gV,hgV,v1,v2⟩:=VV;obtain ⟨gT,hgT,v3⟩:=VF;obtain ⟨gK,hgK,v4,v5⟩:=TS;obtain ⟨gE,hgE,v6⟩:=TT;obtain ⟨gI,hgI,v7⟩:=TU;obtain ⟨gA,hgA,v8,v9⟩:=TV;have y1:=@run_callFunc_extern prog 73 _ gV func73 (by kernel_rfl) (by kernel_rfl) (by kernel_rfl) hgV;have y2:=@run_callFunc_extern prog 74 _ gT func74 (by kernel_rfl) (by kernel_rfl) (by kernel_rfl) hgT;have y3:=@run_callFunc_extern prog 268 _ gK func268 (by kernel_rfl) (by kernel_rfl) (by kernel_rfl) hgK;have y4:=@run_callFunc_extern prog 279 _ gE func279 (by kernel_rfl) (by kernel_rfl) (by kernel_rfl) hgE;have y5:=@run_callFunc_extern prog 280 _ gI func280 (by kernel_rfl) (by kernel_rfl) (by kernel_rfl) hgI;have y6:=@run_callFunc_extern prog 277 _ gA func277 (by kernel_rfl) (by kernel_rfl) (by kernel_rfl) hgA;have y7 := @run_callFunc_extern Tryz.prog 75 _ (ReflectliteValue.method (ReflectliteValue.valueError "reflectlite.Value.IsNil" 0) ReflectliteValue.isNil) Tryz.func75 (by kernel_rfl) (by kernel_rfl) (by kernel_rfl) (by kernel_rfl);have y8:=@run_callFunc_extern prog 120 _ ReflectliteType.typeOf func120 (by kernel_rfl) (by kernel_rfl) (by kernel_rfl) (by kernel_rfl);have y9 := @run_callFunc_extern Tryz.prog 121 _ (ReflectliteValue.method (ReflectliteValue.valueError "reflectlite.Value.Elem" 0) ReflectliteValue.elem) Tryz.func121 (by kernel_rfl) (by kernel_rfl) (by kernel_rfl) (by kernel_rfl);have y10:=@run_callFunc_extern prog 122 _ ReflectliteValue.set func122 (by kernel_rfl) (by kernel_rfl) (by kernel_rfl) (by kernel_rfl);have z1:=TM;have z2:=TN;have z3:=TP;have z4:=TQ;have z5:=VG;have z6:=QP;have z7:=VH;have z8:=QT;have z9:=QU;have hlt:1 < w.heap.size:=World.block_lt_of_cell? w ⟨1,0,none⟩ hg;have n8:=QX ⟨w.heap.size,0,none⟩ t ((w.alloc (.cells #[.pointer (some t)] 78)).alloc (.cells #[.pointer (some ⟨8,78,none⟩),.pointer (some ⟨w.heap.size,0,none⟩),.int .u64 150] 130)) (by simp);have hg2:((w.alloc (.cells #[.pointer (some t)] 78)).alloc (.cells #[.pointer (some ⟨8,78,none⟩),.pointer (some ⟨w.heap.size,0,none⟩),.int .u64 150] 130)).cell? ⟨1,0,none⟩=some (.iface 204 (.agg #[.pointer (some ⟨8,73,none⟩)])):=by
  rw[World.cell?_alloc_lt _ _ ⟨1,0,none⟩ (by simp;omega),World.cell?_alloc_lt _ _ ⟨1,0,none⟩ hlt];exact hg
 have htl:t.block<w.heap.size:=World.block_lt_of_cell? w t ht0;have el:=UT ⟨w.heap.size,0,none⟩ t (((w.alloc (.cells #[.pointer (some t)] 78)).alloc (.cells #[.pointer (some ⟨8,78,none⟩),.pointer (some ⟨w.heap.size,0,none⟩),.int .u64 150] 130)).alloc (.cells #[.pointer (some ⟨8,78,none⟩),.pointer (some ⟨w.heap.size,0,none⟩),.int .u64 150] 130)) (by rw[World.cell?_alloc_lt _ _ ⟨w.heap.size,0,none⟩ (by simp;omega)];simp)
 have st:=VT t ⟨w.heap.size+1+1+1,0,none⟩ e old ((((w.alloc (.cells #[.pointer (some t)] 78)).alloc (.cells #[.pointer (some ⟨8,78,none⟩),.pointer (some ⟨w.heap.size,0,none⟩),.int .u64 150] 130)).alloc (.cells #[.pointer (some ⟨8,78,none⟩),.pointer (some ⟨w.heap.size,0,none⟩),.int .u64 150] 130)).alloc (.cells #[.pointer (some e)] 76))
  (by rw[World.cell?_alloc_at _ _ _ _ (by simp)];rfl)
  (by rw[World.cell?_alloc_lt _ _ t (by simp;omega),World.cell?_alloc_lt _ _ t (by simp;omega),World.cell?_alloc_lt _ _ t (by simp;omega),World.cell?_alloc_lt _ _ t htl];exact ht0)
  (by rw[World.frozen?_alloc_old _ _ t (by simp;omega),World.frozen?_alloc_old _ _ t (by simp;omega),World.frozen?_alloc_old _ _ t (by simp;omega),World.frozen?_alloc_old _ _ t (Nat.ne_of_lt htl)];exact hf0)
 go_enter func39,ntmps39;go_wp2;refine wp_loop_rounds 1 ?_;rw[rounds_succ];go_wp2;go_ret;exact⟨rfl,((((w.alloc (.cells #[.pointer (some t)] 78)).alloc (.cells #[.pointer (some ⟨8,78,none⟩),.pointer (some ⟨w.heap.size,0,none⟩),.int .u64 150] 130)).alloc (.cells #[.pointer (some ⟨8,78,none⟩),.pointer (some ⟨w.heap.size,0,none⟩),.int .u64 150] 130)).alloc (.cells #[.pointer (some e)] 76)),by
  repeat(first|exact V5 _ _|refine Below.alloc ?_ (by first|(simp;done)|(simp;omega)) _),rfl⟩
theorem SK(e t:Addr)(w:ae)(hg:w.cell? ⟨1,0,none⟩=some (.iface 204 (.agg #[.pointer (some ⟨8,73,none⟩)]))):
  Calls prog 39 #[.iface 350 (.pointer (some e)),.iface 78 (.pointer (some t))] w fun ev w'=>ev=.returned (.bool false)/\af w w':=by
 obtain ⟨gV,hgV,v1,v2⟩:=VV;obtain ⟨gT,hgT,v3⟩:=VF;obtain ⟨gK,hgK,v4,v5⟩:=TS;obtain ⟨gE,hgE,v6⟩:=TT;obtain ⟨gI,hgI,v7⟩:=TU;obtain ⟨gA,hgA,v8,v9⟩:=TV;have y1:=@run_callFunc_extern prog 73 _ gV func73 (by kernel_rfl) (by kernel_rfl) (by kernel_rfl) hgV;have y2:=@run_callFunc_extern prog 74 _ gT func74 (by kernel_rfl) (by kernel_rfl) (by kernel_rfl) hgT;have y3:=@run_callFunc_extern prog 268 _ gK func268 (by kernel_rfl) (by kernel_rfl) (by kernel_rfl) hgK;have y4:=@run_callFunc_extern prog 279 _ gE func279 (by kernel_rfl) (by kernel_rfl) (by kernel_rfl) hgE;have y5:=@run_callFunc_extern prog 280 _ gI func280 (by kernel_rfl) (by kernel_rfl) (by kernel_rfl) hgI;have y6:=@run_callFunc_extern prog 277 _ gA func277 (by kernel_rfl) (by kernel_rfl) (by kernel_rfl) hgA;have y7 := @run_callFunc_extern Tryz.prog 75 _ (ReflectliteValue.method (ReflectliteValue.valueError "reflectlite.Value.IsNil" 0) ReflectliteValue.isNil) Tryz.func75 (by kernel_rfl) (by kernel_rfl) (by kernel_rfl) (by kernel_rfl);have y8:=@run_callFunc_extern prog 120 _ ReflectliteType.typeOf func120 (by kernel_rfl) (by kernel_rfl) (by kernel_rfl) (by kernel_rfl);have y9 := @run_callFunc_extern Tryz.prog 121 _ (ReflectliteValue.method (ReflectliteValue.valueError "reflectlite.Value.Elem" 0) ReflectliteValue.elem) Tryz.func121 (by kernel_rfl) (by kernel_rfl) (by kernel_rfl) (by kernel_rfl);have y10:=@run_callFunc_extern prog 122 _ ReflectliteValue.set func122 (by kernel_rfl) (by kernel_rfl) (by kernel_rfl) (by kernel_rfl);have z1:=TM;have z2:=TN;have z3:=TP;have z4:=TQ;have z5:=VG;have z6:=QP;have z7:=VH;have z8:=QT;have z9:=QU;have hlt:1 < w.heap.size:=World.block_lt_of_cell? w ⟨1,0,none⟩ hg;have n8:=QX ⟨w.heap.size,0,none⟩ t ((w.alloc (.cells #[.pointer (some t)] 78)).alloc (.cells #[.pointer (some ⟨8,78,none⟩),.pointer (some ⟨w.heap.size,0,none⟩),.int .u64 150] 130)) (by simp);have hg2:((w.alloc (.cells #[.pointer (some t)] 78)).alloc (.cells #[.pointer (some ⟨8,78,none⟩),.pointer (some ⟨w.heap.size,0,none⟩),.int .u64 150] 130)).cell? ⟨1,0,none⟩=some (.iface 204 (.agg #[.pointer (some ⟨8,73,none⟩)])):=by
  rw[World.cell?_alloc_lt _ _ ⟨1,0,none⟩ (by simp;omega),World.cell?_alloc_lt _ _ ⟨1,0,none⟩ hlt];exact hg
 go_enter func39,ntmps39;go_wp2;refine wp_loop_rounds 1 ?_;rw[rounds_succ];go_wp2;go_ret;exact⟨rfl,by
  repeat(first|exact V5 _ _|refine Below.alloc ?_ (by first|(simp;done)|(simp;omega)) _)⟩
open ChangeAt ChangeShapes WideShapes Pl
def Sv(w:World)(ad:Q02)(cap:Nat)(ts:Q05):Prop:=(ad=none/\cap=0/\ts=[]) \/ ∃b off,ad=some ⟨b,off,none⟩/\b<w.heap.size/\ts.length<=cap/\dM w b off ts
theorem Sv.sl{w:ae}{ad:Q02}{cap:Nat}{ts:Q05}(h:Sv w ad cap ts):Sl w ad ts:=by
 rcases h with⟨_,_,h⟩|⟨b,off,e,hl,_,hr⟩
 ·exact .inl h
 exact .inr ⟨b,off,e,hl,hr⟩
theorem Sv.below{w w':ae}{ad:Q02}{cap:Nat}{ts:Q05}(h:Sv w ad cap ts)(hb:af w w'):Sv w' ad cap ts:=by
 rcases h with h|⟨b,off,e,hl,hc,hr⟩
 ·exact .inl h
 exact .inr ⟨b,off,e,VY hl hb.size,hc,hr.below hb hl⟩
def TW(w:World)(fit:Tp->Bool)(ts:Q05)(k:Int)(t:Tp)(e:Ending)(w':World):Prop :=
  af w w' /\
  ((bn fit ts k t=0/\∃ v,e=.returned (.tuple #[v,.nilIface])/\w'.ownsRow w.heap.size 29 6 v (gm ts k t).length (aF (gm ts k t))) \/
   (bn fit ts k t≠0/\∃(g:Nat) (T:TypeId) (u v:Value),e=.returned (.tuple #[.slice none 0 0,.iface 76 (.pointer (some ⟨g,0,none⟩))])/\w.heap.size<=g/\w'.cell? ⟨g,0,none⟩=some (.iface T u)/\w.cell? ⟨(bn fit ts k t).toNat,0,none⟩=some (.iface T u)/\w'.cell? ⟨g,1,none⟩=some v/\w'.ownsRow w.heap.size 29 6 v ts.length (aF ts)))
def V6(L:Value)(n:Nat)(s1 s2:Value)(p1 p2:Pt)(B:Nat)(N:Q05):Nat->Value->World->Prop
 | 0,v,_=>v=L
 | 1,v,_=>v=.int .i64 n
 | 2,v,_=>v=s1
 | 3,v,_=>v=L
 | 4,v,_=>v=.int .i64 n
 | 5,v,_=>v=.int .i64 ((n:Int)+1)
 | 6,v,_=>v=s2
 | 7,v,w=>∃g,v=.slice (some ⟨g,0,none⟩) 2 2/\PtsAt w g [p1,p2]
 | 8,v,w=>w.ownsRow B 29 6 v N.length (aF N)
 | 9,v,w=>w.ownsRow B 29 6 v N.length (aF N)
 | _,v,_=>v=.nilIface
theorem V6.below{L:Value}{n:Nat}{s1 s2:Value}{p1 p2:Pt}{B:Nat}{N:Q05}{w w':ae}(hb:af w w'):∀{k:Nat} {u:Value},V6 L n s1 s2 p1 p2 B N k u w->V6 L n s1 s2 p1 p2 B N k u w'
 | 0,_,h=>h
 | 1,_,h=>h
 | 2,_,h=>h
 | 3,_,h=>h
 | 4,_,h=>h
 | 5,_,h=>h
 | 6,_,h=>h
 | 7,_,⟨g,e,h⟩=>⟨g,e,h.below hb⟩
 | 8,_,h=>aH h hb
 | 9,_,h=>aH h hb
 | _+10,_,h=>h
def V7(L:Value)(n:Nat)(s1 P1 s3:Value)(p1 p3:Pt)(B:Nat)(t:Tp)(N:Q05):Nat->Value->World->Prop
 | 0,v,_=>v=L
 | 1,v,_=>v=.int .i64 n
 | 2,v,_=>v=s1
 | 3,v,_=>v=P1
 | 4,v,_=>v=.agg #[.string t.a,.string t.b,.string t.r,.string t.c,.string t.d,.string t.s]
 | 5,v,w=>∃g,v=.slice (some ⟨g,0,none⟩) 1 1/\g<w.heap.size/\dM w g 0 [t]
 | 6,v,_=>v=L
 | 7,v,_=>v=.int .i64 n
 | 8,v,_=>v=s3
 | 9,v,w=>∃g gt,v=.slice (some ⟨g,0,none⟩) 3 3/\PtsAt w g [p1,⟨some ⟨gt,0,none⟩,1,[t]⟩,p3]
 | 10,v,w=>w.ownsRow B 29 6 v N.length (aF N)
 | 11,v,w=>w.ownsRow B 29 6 v N.length (aF N)
 | _,v,_=>v=.nilIface
theorem V7.below{L:Value}{n:Nat}{s1 P1 s3:Value}{p1 p3:Pt}{B:Nat}{t:Tp}{N:Q05}{w w':ae}(hb:af w w'):∀{k:Nat} {u:Value},V7 L n s1 P1 s3 p1 p3 B t N k u w->V7 L n s1 P1 s3 p1 p3 B t N k u w'
 | 0,_,h=>h
 | 1,_,h=>h
 | 2,_,h=>h
 | 3,_,h=>h
 | 4,_,h=>h
 | 5,_,⟨g,e,hl,h⟩=>⟨g,e,VY hl hb.size,h.below hb hl⟩
 | 6,_,h=>h
 | 7,_,h=>h
 | 8,_,h=>h
 | 9,_,⟨g,gt,e,h⟩=>⟨g,gt,e,h.below hb⟩
 | 10,_,h=>aH h hb
 | 11,_,h=>aH h hb
 | _+12,_,h=>h
theorem QY{w w':ae}{p1 p2:Pt}{s1 s2:Value}(h1:p1.ok w)(h2:p2.ok w)(e1:p1.v=s1)(e2:p2.v=s2)(hb:af w w')(T:TypeId):PtsAt (w'.alloc (.cells #[s1,s2] T)) w'.heap.size [p1,p2]:=by
 have hb2:af w (w'.alloc (.cells #[s1,s2] T)):=hb.alloc hb.size _;refine⟨by simp,fun i hi=>?_,fun p hp=>?_⟩
 ·match i,hi with
  | 0,_=>simp[e1]
  | 1,_=>simp[e2]
 simp at hp;rcases hp with rfl|rfl
 ·exact h1.below hb2
 exact h2.below hb2
theorem QZ{w w':ae}{p1 p3:Pt}{s1 s3:Value}{gt:Nat}{t:Tp}(h1:p1.ok w)(h3:p3.ok w)(e1:p1.v=s1)(e3:p3.v=s3)(hb:af w w')(hg:gt<w'.heap.size/\dM w' gt 0 [t])(T:TypeId):PtsAt (w'.alloc (.cells #[s1,.slice (some ⟨gt,0,none⟩) 1 1,s3] T)) w'.heap.size [p1,⟨some ⟨gt,0,none⟩,1,[t]⟩,p3]:=by
 have hb1:af w' (w'.alloc (.cells #[s1,.slice (some ⟨gt,0,none⟩) 1 1,s3] T)):=(V5 _ _).alloc (V4 _) _;have hb2:af w (w'.alloc (.cells #[s1,.slice (some ⟨gt,0,none⟩) 1 1,s3] T)):=hb.alloc hb.size _;refine⟨by simp,fun i hi=>?_,fun p hp=>?_⟩
 ·match i,hi with
  | 0,_=>simp[e1]
  | 1,_=>simp[Pt.v]
  | 2,_=>simp[e3]
 simp at hp;rcases hp with rfl|rfl|rfl
 ·exact h1.below hb2
 ·exact .inr ⟨gt,0,rfl,fun _=>VY hg.1 hb1.size,hg.2.below hb1 hg.1⟩
 exact h3.below hb2
theorem Q0(w:ae)(t:Tp)(T:TypeId):w.heap.size<(w.alloc (.cells #[.string t.a,.string t.b,.string t.r,.string t.c,.string t.d,.string t.s] T)).heap.size/\dM (w.alloc (.cells #[.string t.a,.string t.b,.string t.r,.string t.c,.string t.d,.string t.s] T)) w.heap.size 0 [t]:=by
 refine⟨by simp,fun i hi=>?_⟩
 match i,hi with
 | 0,_=>refine⟨?_,?_,?_,?_,?_,?_⟩<;>simp
theorem wM{w:ae}{b off n:Nat}{ts:Q05}(h:dM w b off ts):dM w b off (ts.take n):=fun i hi=>by
 rw[List.getElem_take];exact h i (by rw[WK]at hi;omega)
theorem Ip{w:ae}{b off n:Nat}{ts:Q05}(h:dM w b off ts):dM w b (off+n*6) (ts.drop n):=fun i hi=>by
 rw[List.getElem_drop];have:=h (n+i) (by rw[WR]at hi;omega);rwa [show off+(n+i)*6=off+n*6+i*6 by omega]at this
theorem Iq{w:ae}{b off:Nat}{ts:Q05}(h:ts=[]):dM w b off ts:=fun i hi=>by rw[h]at hi;simp at hi
theorem Ir(tv:Value)(fit:Tp->Bool)(ad:Q02)(cap:Nat)(ts:Q05)(k:Int)(t:Tp)(w:ae)(hE:Nw w)
  (hfit:∀w1:World,t.ok=true->af w w1->Calls prog 80 #[tv,.agg #[.string t.a,.string t.b,.string t.r,.string t.c,.string t.d,.string t.s]] w1 fun e w'=>e=.returned (.bool (fit t))/\af w1 w')
  (hlen:ts.length<=40) (hs:Sv w ad cap ts) (hf:∀x∈ts,x.fits) (hu:Up ts) (hok:∀x∈ts,x.ok=true) (ht:t.fits) :
  Calls prog 52 #[tv,.slice ad ts.length cap,.agg #[.int .i64 k,.string t.a,.string t.b,.string t.r,.string t.c,.string t.d,.string t.s]] w (TW w fit ts k t):=by
 obtain⟨iT,h0,h1,h2,h3⟩:=BG;have HIT:=ax (And.intro h0 (And.intro h1 (And.intro h2 h3)));have HE:=aG hE;have XC:=aG hfit;have HS:=aG hs;have HF:=aG hf;have HU:=aG hu;have Yk:=aG hok;have HT:=aG ht;clear hE hfit hs hf hu hok ht h0 h1 h2 h3;obtain⟨W0,hW0⟩:∃W0,W0=w.alloc (.cells #[.int .i64 k,.string t.a,.string t.b,.string t.r,.string t.c,.string t.d,.string t.s] 31):=⟨_,rfl⟩;have HX0:Hid (oC W0 w.heap.size k t):=by show oC _ _ _ _;rw[hW0];refine⟨?_,?_,?_,?_,?_,?_,?_,?_⟩<;>simp
 have HB0:=nC hW0;go_enter func52,ntmps52;go_wp2_with fail;rw[<-hW0];clear hW0;refine(Kh tv fit ad cap ts k t _ (HE.out.below HB0.out) (fun w1 h hb=>XC.out w1 h (HB0.out.trans (hb.mono HB0.out.size))) hlen (HS.out.below HB0.out).sl HT.out).mono ?_;rintro e w1 ⟨hz,hb1⟩;have HB1:=aG (HB0.out.trans (hb1.mono HB0.out.size));have Yo:=aG (HX0.out.below hb1);rcases hz with⟨hz,rfl⟩|⟨g,T,u,hz,hg2,Zn,hc,rfl⟩
 ·have HZ:=aG hz;clear hz hb1 HX0 HB0;obtain⟨x0,x1,x2,x3,x4,x5,x6,xl⟩:=Yo.out;have HCZ:=aG (D9 HZ.out);go_wp2_with fail;refine(Hr ad cap ts t _ (by omega) (HS.out.below HB1.out).sl HF.out HT.out HU.out Yk.out HCZ.out.1).mono ?_;rintro e w2 ⟨⟨n,q,rfl,hlow⟩,hb2⟩;have HB2:=aG (HB1.out.trans (hb2.mono HB1.out.size));have YH:=aG (Yo.out.below hb2);have HLOW:=aG hlow;have hnl:n<=ts.length:=hlow.le;clear hb2 Yo x0 x1 x2 x3 x4 x5 x6 xl hlow;obtain⟨x0,x1,x2,x3,x4,x5,x6,xl⟩:=YH.out;rcases HCZ.out.2 with⟨rfl,hm⟩|⟨rfl,hft,hnm,h40⟩
  ·rcases HS.out.below HB2.out with⟨-,-,hnil⟩|⟨b,off,rfl,hb,hcap,hr⟩
   ·rw[hnil]at hm;cases hm
   obtain⟨hn,hni⟩:=Qs HLOW.out HU.out hm;have HNX:Hid (gm ts 2 t=ts.take n++ts.drop (n+1)):=by show _=_;unfold gm;rw[if_pos rfl];exact Qt HLOW.out HU.out hm
   have HR:=aG hr;clear hr hni hm;by_cases hcn:cap=n+1
   case' pos =>
    have Yh:=aG hcn;have HP1:Hid (Pt.ok w2 ⟨some ⟨b,off,none⟩,cap,ts.take n⟩):=.inr ⟨b,off,rfl,fun _=>hb,wM HR.out⟩;have XA:Hid (Pt.ok w2 ⟨some ⟨b,off,none⟩,cap-(n+1),ts.drop (n+1)⟩):=.inr ⟨b,off,rfl,fun _=>hb,Iq (List.drop_eq_nil_of_le (by omega))⟩;have HV1:Hid (Pt.v ⟨some ⟨b,off,none⟩,cap,ts.take n⟩=Value.slice (some ⟨b,off,none⟩) n cap):=by show _=_;unfold Pt.v;simp only[WK];rw[Nat.min_eq_left hnl]
    have HV2:Hid (Pt.v ⟨some ⟨b,off,none⟩,cap-(n+1),ts.drop (n+1)⟩=Value.slice (some ⟨b,off,none⟩) (ts.length-(n+1)) (cap-(n+1))):=by show _=_;unfold Pt.v;simp only[WR]
    have HJ:Hid (dJ [⟨some ⟨b,off,none⟩,cap,ts.take n⟩,⟨some ⟨b,off,none⟩,cap-(n+1),ts.drop (n+1)⟩]=ts.take n++ts.drop (n+1)):=by show _=_;simp[dJ]
    have HNL:Hid ((gm ts 2 t).length<=ts.length):=by show _<=_;rw[HNX.out,Wi,WK,WR];omega
    have hnl1:(0:Int)<=(n:Int)+1:=by omega
    have hnl2:(n:Int)+1<=(ts.length:Int):=by omega
    have hnl3:(n:Int)<=(cap:Int):=by omega
    have hite:∀x y:Option Addr,(if cap=n+1 then x else y)=x:=fun x y=>if_pos hcn;have hwr:IntKind.i64.wrap ((n:Int)+1)=(n:Int)+1:=by rw[IntKind.wrap_i64];omega
    clear hcn;go_wp2_with fail;refine dW 11 _ _ (V6 (Value.slice (some ⟨b,off,none⟩) ts.length cap) n (Value.slice (some ⟨b,off,none⟩) n cap) (Value.slice (some ⟨b,off,none⟩) (ts.length-(n+1)) (cap-(n+1))) ⟨some ⟨b,off,none⟩,cap,ts.take n⟩ ⟨some ⟨b,off,none⟩,cap-(n+1),ts.drop (n+1)⟩ w.heap.size (gm ts 2 t)) (fun w'=>af w2 w') (by kernel_rfl) rfl (by kernel_rfl) (Ck [(6,[9,10]),(33,[0,1,2,3,4,5,6,7,8])]) (V5 _ _).drew ?_ ?_<;>dsimp only[zo]
   case' neg =>
    have HP1:Hid (Pt.ok w2 ⟨some ⟨b,off,none⟩,cap,ts.take n⟩):=.inr ⟨b,off,rfl,fun _=>hb,wM HR.out⟩;have XA:Hid (Pt.ok w2 ⟨some ⟨b,off+(n+1)*6,none⟩,cap-(n+1),ts.drop (n+1)⟩):=.inr ⟨b,off+(n+1)*6,rfl,fun _=>hb,Ip HR.out⟩;have HV1:Hid (Pt.v ⟨some ⟨b,off,none⟩,cap,ts.take n⟩=Value.slice (some ⟨b,off,none⟩) n cap):=by show _=_;unfold Pt.v;simp only[WK];rw[Nat.min_eq_left hnl]
    have HV2:Hid (Pt.v ⟨some ⟨b,off+(n+1)*6,none⟩,cap-(n+1),ts.drop (n+1)⟩=Value.slice (some ⟨b,off+(n+1)*6,none⟩) (ts.length-(n+1)) (cap-(n+1))):=by show _=_;unfold Pt.v;simp only[WR]
    have HJ:Hid (dJ [⟨some ⟨b,off,none⟩,cap,ts.take n⟩,⟨some ⟨b,off+(n+1)*6,none⟩,cap-(n+1),ts.drop (n+1)⟩]=ts.take n++ts.drop (n+1)):=by show _=_;simp[dJ]
    have HNL:Hid ((gm ts 2 t).length<=ts.length):=by show _<=_;rw[HNX.out,Wi,WK,WR];omega
    have hnl1:(0:Int)<=(n:Int)+1:=by omega
    have hnl2:(n:Int)+1<=(ts.length:Int):=by omega
    have hnl3:(n:Int)<=(cap:Int):=by omega
    have hwr:IntKind.i64.wrap ((n:Int)+1)=(n:Int)+1:=by rw[IntKind.wrap_i64];omega
    go_wp2_with fail;refine dW 11 _ _ (V6 (Value.slice (some ⟨b,off,none⟩) ts.length cap) n (Value.slice (some ⟨b,off,none⟩) n cap) (Value.slice (some ⟨b,off+(n+1)*6,none⟩) (ts.length-(n+1)) (cap-(n+1))) ⟨some ⟨b,off,none⟩,cap,ts.take n⟩ ⟨some ⟨b,off+(n+1)*6,none⟩,cap-(n+1),ts.drop (n+1)⟩ w.heap.size (gm ts 2 t)) (fun w'=>af w2 w') (by kernel_rfl) rfl (by kernel_rfl) (Ck [(6,[9,10]),(33,[0,1,2,3,4,5,6,7,8])]) (V5 _ _).drew ?_ ?_<;>dsimp only[zo]
   iterate 2
    ·rintro i hi o ho fq w' hG hpre;have HG:Hid (af w2 w'):=hG;have HM:Hid (∀e∈o.after,Region.binds .any e=true->_):=hpre;have HX':=aG (YH.out.below hG);clear hG hpre x0 x1 x2 x3 x4 x5 x6 xl;obtain⟨x0,x1,x2,x3,x4,x5,x6,xl⟩:=HX'.out;have hc:=La (i:=i) (by omega);clear hi
     repeat' rcases hc with rfl|hc
     ·cases ho;clear HM;refine aa rfl fun K HK=>?_;go_simp;exact HK.out _ _ ⟨_,by simp[upd],HG.out,rfl,fun k u hu=>hu⟩
     ·cases ho;clear HM;refine aa rfl fun K HK=>?_;go_simp;exact HK.out _ _ ⟨_,by simp[upd],HG.out,rfl,fun k u hu=>hu⟩
     ·cases ho;have e0:fq 0=_:=HM.out ⟨0,.data⟩ (by simp) rfl;have e1:fq 1=_:=HM.out ⟨1,.data⟩ (by simp) rfl;clear HM;refine aa rfl fun K HK=>?_;simp only[e0,e1];go_simp;exact HK.out _ _ ⟨_,by simp[upd,e0,e1],HG.out,rfl,fun k u hu=>hu⟩
     ·cases ho;clear HM;refine aa rfl fun K HK=>?_;go_simp;exact HK.out _ _ ⟨_,by simp[upd],HG.out,rfl,fun k u hu=>hu⟩
     ·cases ho;clear HM;refine aa rfl fun K HK=>?_;go_simp;exact HK.out _ _ ⟨_,by simp[upd],HG.out,rfl,fun k u hu=>hu⟩
     ·cases ho;have e4:fq 4=_:=HM.out ⟨4,.data⟩ (by simp) rfl;clear HM;refine aa rfl fun K HK=>?_;simp only[e4];go_simp;exact HK.out _ _ ⟨_,by simp[upd,e4],HG.out,rfl,fun k u hu=>hu⟩
     ·cases ho;have e3:fq 3=_:=HM.out ⟨3,.data⟩ (by simp) rfl;have e5:fq 5=_:=HM.out ⟨5,.data⟩ (by simp) rfl;clear HM;refine aa rfl fun K HK=>?_;simp only[e3,e5];go_simp;exact HK.out _ _ ⟨_,by simp[upd,e3,e5],HG.out,rfl,fun k u hu=>hu⟩
     ·cases ho;have e2:fq 2=_:=HM.out ⟨2,.data⟩ (by simp) rfl;have e6:fq 6=_:=HM.out ⟨6,.data⟩ (by simp) rfl;clear HM;refine aa rfl fun K HK=>?_;simp only[e2,e6];go_simp;exact HK.out _ _ ⟨_,by simp[upd,e2,e6],HG.out.alloc HG.out.size _,⟨w'.heap.size,rfl,QY HP1.out XA.out HV1.out HV2.out HG.out _⟩,fun k u hu=>V6.below ((V5 _ _).alloc (V4 _) _) hu⟩
     ·cases ho;have q7:=HM.out ⟨7,.data⟩ (by simp) rfl;obtain⟨gb,e7,hPt⟩:=q7;clear HM;refine aa rfl fun K HK=>?_;simp only[e7];go_simp;refine(yH gb 2 _ w' hPt (by simp) (by rw[HJ.out,<-HNX.out];have:=HNL.out;omega)).mono ?_;rintro e w3 ⟨v,rfl,hown,hbx⟩;have hown2:=jK hown (Wh HB2.out.size HG.out.size);rw[HJ.out,<-HNX.out]at hown2;exact HK.out _ _ ⟨v,by simp[upd,e7],HG.out.trans (hbx.mono HG.out.size),hown2,fun k u hu=>V6.below hbx hu⟩
     ·cases ho;have q8:=HM.out ⟨8,.data⟩ (by simp) rfl;clear HM;refine aa rfl fun K HK=>?_;go_simp;exact HK.out _ _ ⟨fq 8,by simp[upd],HG.out,q8,fun k u hu=>hu⟩
     cases ho;clear HM;refine aa rfl fun K HK=>?_;go_simp;exact HK.out _ _ ⟨_,by simp[upd],HG.out,rfl,fun k u hu=>hu⟩
    rintro fq w' hG hall;have q9:=hall 9 (by omega);have e10:fq 10=.nilIface:=hall 10 (by omega);have HO:=aG q9;have HBE:=kv HB2 hG;clear hall hG q9;rw[e10];go_wp2;exact bodyPost_ret (v:=.tuple #[fq 9,.nilIface]) (by simp[results,Tryz.results52,go_sem]) rfl ⟨HBE.out,.inl ⟨HZ.out,_,rfl,HO.out⟩⟩
  have HNX:Hid (gm ts 1 t=ts.take n++t::ts.drop n):=by show _=_;unfold gm;rw[if_neg (by decide)];exact Sn HLOW.out
  have HNL:Hid ((gm ts 1 t).length=ts.length+1):=by show _=_;unfold gm;rw[if_neg (by decide),BD]
  rcases HS.out.below HB2.out with⟨rfl,rfl,rfl⟩|⟨b,off,rfl,hb,hcap,hr⟩
  case' inl =>
   obtain rfl:n=0:=by simpa using hnl
   have HP1:Hid (Pt.ok w2 ⟨none,0,([]:Q05).take 0⟩):=.inl ⟨rfl,rfl,rfl⟩;have HP3:Hid (Pt.ok w2 ⟨none,0,([]:Q05).drop 0⟩):=.inl ⟨rfl,rfl,rfl⟩;have HV1:Hid (Pt.v ⟨none,0,([]:Q05).take 0⟩=Value.slice none 0 0):=rfl;have HV3:Hid (Pt.v ⟨none,0,([]:Q05).drop 0⟩=Value.slice none 0 0):=rfl;have HJ:Hid (∀gt:Nat,dJ [⟨none,0,([]:Q05).take 0⟩,⟨some ⟨gt,0,none⟩,1,[t]⟩,⟨none,0,([]:Q05).drop 0⟩]=([]:Q05).take 0++t::([]:Q05).drop 0):=fun gt=>by simp[dJ]
   go_wp2_with fail;refine dW 13 _ _ (V7 (Value.slice none 0 0) 0 (Value.slice (none) 0 (0)) (Value.pointer (some ⟨w.heap.size,1,none⟩)) (Value.slice (none) (0) (0)) ⟨none,0,([]:Q05).take 0⟩ ⟨none,0,([]:Q05).drop 0⟩ w.heap.size t (gm [] 1 t)) (fun w'=>af w2 w') (by kernel_rfl) rfl (by kernel_rfl) (Ck [(6,[11,12]),(42,[0,1,2,3,4,5,6,7,8,9,10])]) (V5 _ _).drew ?_ ?_<;>dsimp only[zo]
  case' inr =>
   have HR:=aG hr;clear hr;by_cases hcn:cap=n
   case' pos =>
    subst hcn;have hlz:ts.length-cap=0:=by omega
    have HP1:Hid (Pt.ok w2 ⟨some ⟨b,off,none⟩,cap,ts.take cap⟩):=.inr ⟨b,off,rfl,fun _=>hb,wM HR.out⟩;have HP3:Hid (Pt.ok w2 ⟨some ⟨b,off,none⟩,0,ts.drop cap⟩):=.inr ⟨b,off,rfl,fun _=>hb,Iq (List.drop_eq_nil_of_le (by omega))⟩;have HV1:Hid (Pt.v ⟨some ⟨b,off,none⟩,cap,ts.take cap⟩=Value.slice (some ⟨b,off,none⟩) cap cap):=by show _=_;unfold Pt.v;simp only[WK];rw[Nat.min_eq_left hnl]
    have HV3:Hid (Pt.v ⟨some ⟨b,off,none⟩,0,ts.drop cap⟩=Value.slice (some ⟨b,off,none⟩) 0 0):=by show _=_;unfold Pt.v;simp only[WR];rw[hlz]
    have HJ:Hid (∀gt:Nat,dJ [⟨some ⟨b,off,none⟩,cap,ts.take cap⟩,⟨some ⟨gt,0,none⟩,1,[t]⟩,⟨some ⟨b,off,none⟩,0,ts.drop cap⟩]=ts.take cap++t::ts.drop cap):=fun gt=>by simp[dJ]
    have hnl2:(cap:Int)<=(ts.length:Int):=by omega
    go_wp2_with fail;refine dW 13 _ _ (V7 (Value.slice (some ⟨b,off,none⟩) ts.length cap) cap (Value.slice (some ⟨b,off,none⟩) cap (cap)) (Value.pointer (some ⟨w.heap.size,1,none⟩)) (Value.slice (some ⟨b,off,none⟩) (0) (0)) ⟨some ⟨b,off,none⟩,cap,ts.take cap⟩ ⟨some ⟨b,off,none⟩,0,ts.drop cap⟩ w.heap.size t (gm ts 1 t)) (fun w'=>af w2 w') (by kernel_rfl) rfl (by kernel_rfl) (Ck [(6,[11,12]),(42,[0,1,2,3,4,5,6,7,8,9,10])]) (V5 _ _).drew ?_ ?_<;>dsimp only[zo]
   case' neg =>
    have HP1:Hid (Pt.ok w2 ⟨some ⟨b,off,none⟩,cap,ts.take n⟩):=.inr ⟨b,off,rfl,fun _=>hb,wM HR.out⟩;have HP3:Hid (Pt.ok w2 ⟨some ⟨b,off+n*6,none⟩,cap-n,ts.drop n⟩):=.inr ⟨b,off+n*6,rfl,fun _=>hb,Ip HR.out⟩;have HV1:Hid (Pt.v ⟨some ⟨b,off,none⟩,cap,ts.take n⟩=Value.slice (some ⟨b,off,none⟩) n cap):=by show _=_;unfold Pt.v;simp only[WK];rw[Nat.min_eq_left hnl]
    have HV3:Hid (Pt.v ⟨some ⟨b,off+n*6,none⟩,cap-n,ts.drop n⟩=Value.slice (some ⟨b,off+n*6,none⟩) (ts.length-n) (cap-n)):=by show _=_;unfold Pt.v;simp only[WR]
    have HJ:Hid (∀gt:Nat,dJ [⟨some ⟨b,off,none⟩,cap,ts.take n⟩,⟨some ⟨gt,0,none⟩,1,[t]⟩,⟨some ⟨b,off+n*6,none⟩,cap-n,ts.drop n⟩]=ts.take n++t::ts.drop n):=fun gt=>by simp[dJ]
    have hnl2:(n:Int)<=(ts.length:Int):=by omega
    have hnl3:(n:Int)<=(cap:Int):=by omega
    go_wp2_with fail;refine dW 13 _ _ (V7 (Value.slice (some ⟨b,off,none⟩) ts.length cap) n (Value.slice (some ⟨b,off,none⟩) n (cap)) (Value.pointer (some ⟨w.heap.size,1,none⟩)) (Value.slice (some ⟨b,off+n*6,none⟩) (ts.length-n) (cap-n)) ⟨some ⟨b,off,none⟩,cap,ts.take n⟩ ⟨some ⟨b,off+n*6,none⟩,cap-n,ts.drop n⟩ w.heap.size t (gm ts 1 t)) (fun w'=>af w2 w') (by kernel_rfl) rfl (by kernel_rfl) (Ck [(6,[11,12]),(42,[0,1,2,3,4,5,6,7,8,9,10])]) (V5 _ _).drew ?_ ?_<;>dsimp only[zo]
  iterate 3
   ·rintro i hi o ho fq w' hG hpre;have HG:Hid (af w2 w'):=hG;have HM:Hid (∀e∈o.after,Region.binds .any e=true->_):=hpre;have HX':=aG (YH.out.below hG);clear hG hpre x0 x1 x2 x3 x4 x5 x6 xl;obtain⟨x0,x1,x2,x3,x4,x5,x6,xl⟩:=HX'.out;have hc:=Vd (i:=i) (by omega);clear hi
    repeat' rcases hc with rfl|hc
    ·cases ho;clear HM;refine aa rfl fun K HK=>?_;go_simp;exact HK.out _ _ ⟨_,by simp[upd],HG.out,rfl,fun k u hu=>hu⟩
    ·cases ho;clear HM;refine aa rfl fun K HK=>?_;go_simp;exact HK.out _ _ ⟨_,by simp[upd],HG.out,rfl,fun k u hu=>hu⟩
    ·cases ho;have e0:fq 0=_:=HM.out ⟨0,.data⟩ (by simp) rfl;have e1:fq 1=_:=HM.out ⟨1,.data⟩ (by simp) rfl;clear HM;refine aa rfl fun K HK=>?_;simp only[e0,e1];go_simp;exact HK.out _ _ ⟨_,by simp[upd,e0,e1],HG.out,rfl,fun k u hu=>hu⟩
    ·cases ho;clear HM;refine aa rfl fun K HK=>?_;go_simp;exact HK.out _ _ ⟨_,by simp[upd],HG.out,rfl,fun k u hu=>hu⟩
    ·cases ho;have e3:fq 3=_:=HM.out ⟨3,.data⟩ (by simp) rfl;clear HM;refine aa rfl fun K HK=>?_;simp only[e3];go_simp;exact HK.out _ _ ⟨_,by simp[upd,e3],HG.out,rfl,fun k u hu=>hu⟩
    ·cases ho;have e4:fq 4=_:=HM.out ⟨4,.data⟩ (by simp) rfl;clear HM;refine aa rfl fun K HK=>?_;simp only[e4];go_simp;exact HK.out _ _ ⟨_,by simp[upd,e4],HG.out.alloc HG.out.size _,⟨w'.heap.size,rfl,Q0 w' t _⟩,fun k u hu=>V7.below ((V5 _ _).alloc (V4 _) _) hu⟩
    ·cases ho;clear HM;refine aa rfl fun K HK=>?_;go_simp;exact HK.out _ _ ⟨_,by simp[upd],HG.out,rfl,fun k u hu=>hu⟩
    ·cases ho;clear HM;refine aa rfl fun K HK=>?_;go_simp;exact HK.out _ _ ⟨_,by simp[upd],HG.out,rfl,fun k u hu=>hu⟩
    ·cases ho;have e6:fq 6=_:=HM.out ⟨6,.data⟩ (by simp) rfl;have e7:fq 7=_:=HM.out ⟨7,.data⟩ (by simp) rfl;clear HM;refine aa rfl fun K HK=>?_;simp only[e6,e7];go_simp;exact HK.out _ _ ⟨_,by simp[upd,e6,e7],HG.out,rfl,fun k u hu=>hu⟩
    ·cases ho;have e2:fq 2=_:=HM.out ⟨2,.data⟩ (by simp) rfl;have q5:=HM.out ⟨5,.data⟩ (by simp) rfl;have e8:fq 8=_:=HM.out ⟨8,.data⟩ (by simp) rfl;obtain⟨gt,e5,hgt⟩:=q5;clear HM;refine aa rfl fun K HK=>?_;simp only[e2,e8,e5];go_simp;exact HK.out _ _ ⟨_,by simp[upd,e2,e5,e8],HG.out.alloc HG.out.size _,⟨w'.heap.size,gt,rfl,QZ HP1.out HP3.out HV1.out HV3.out HG.out hgt _⟩,fun k u hu=>V7.below ((V5 _ _).alloc (V4 _) _) hu⟩
    ·cases ho;have q9:=HM.out ⟨9,.data⟩ (by simp) rfl;obtain⟨gb,gt,e9,hPt⟩:=q9;clear HM;refine aa rfl fun K HK=>?_;simp only[e9];go_simp;refine(yH gb 3 _ w' hPt (by simp) (by rw[HJ.out gt,<-HNX.out,HNL.out];omega)).mono ?_;rintro e w3 ⟨v,rfl,hown,hbx⟩;have hown2:=jK hown (Wh HB2.out.size HG.out.size);rw[HJ.out gt,<-HNX.out]at hown2;exact HK.out _ _ ⟨v,by simp[upd,e9],HG.out.trans (hbx.mono HG.out.size),hown2,fun k u hu=>V7.below hbx hu⟩
    ·cases ho;have q10:=HM.out ⟨10,.data⟩ (by simp) rfl;clear HM;refine aa rfl fun K HK=>?_;go_simp;exact HK.out _ _ ⟨fq 10,by simp[upd],HG.out,q10,fun k u hu=>hu⟩
    cases ho;clear HM;refine aa rfl fun K HK=>?_;go_simp;exact HK.out _ _ ⟨_,by simp[upd],HG.out,rfl,fun k u hu=>hu⟩
   rintro fq w' hG hall;have q11:=hall 11 (by omega);have e12:fq 12=.nilIface:=hall 12 (by omega);have HO:=aG q11;have HBE:=kv HB2 hG;clear hall hG q11;rw[e12];go_wp2;exact bodyPost_ret (v:=.tuple #[fq 11,.nilIface]) (by simp[results,Tryz.results52,go_sem]) rfl ⟨HBE.out,.inl ⟨HZ.out,_,rfl,HO.out⟩⟩
 have HZ:Hid (bn fit ts k t≠0):=by show _≠_;rw[hz];omega
 have Z9:Hid (w.cell? ⟨(bn fit ts k t).toNat,0,none⟩=some (.iface T u)):=by
  show _=_;rw[hz,Int.toNat_natCast];exact(HB0.out.cell (p:=⟨g,0,none⟩) (HE.out g hg2 Zn).1).symm.trans hc
 clear hz hc hb1 HX0 HB0;have hsz1:w.heap.size<=w1.heap.size:=HB1.out.size;rcases HS.out.below HB1.out with⟨rfl,rfl,rfl⟩|⟨b,off,rfl,hb,hcap,hr⟩
 ·obtain⟨w4,hw4⟩:∃w4,w4=w1.alloc (.cells #[.iface T u,.slice none 0 0] 80):=⟨_,rfl⟩;have HBE:Hid (af w w4):=by show Below _ _ _;rw[hw4];exact HB1.out.alloc hsz1 _
  have HC4:Hid (w4.cell? ⟨w1.heap.size,0,none⟩=some (.iface T u)/\w4.cell? ⟨w1.heap.size,1,none⟩=some (.slice none 0 0)):=by show _/\_;rw[hw4];constructor<;>simp
  go_wp2_with(at_builtin;refine wpList_append_own_none rfl _ _ 25 rfl w1.heap.size 29 iT 6 underlying25 HIT.out.1 _ _ _ rfl (World.ownsRow_nil _ _ _ _) rfl ?_);go_wp2;rw[<-hw4];exact bodyPost_ret (v:=.tuple #[.slice none 0 0,.iface 76 (.pointer (some ⟨w1.heap.size,0,none⟩))]) (by simp[results,Tryz.results52,go_sem]) rfl ⟨HBE.out,.inr ⟨HZ.out,w1.heap.size,T,u,_,rfl,hsz1,HC4.out.1,Z9.out,HC4.out.2,World.ownsRow_nil _ _ _ _⟩⟩
 have HR:=aG hr;clear hr;go_wp2_with(at_builtin;refine wpList_append_own _ rfl _ _ 25 rfl w.heap.size 29 iT (.agg #[.string ⟨#[]⟩,.string ⟨#[]⟩,.string ⟨#[]⟩,.string ⟨#[]⟩,.string ⟨#[]⟩,.string ⟨#[]⟩]) 6 96 underlying25 HIT.out.1 HIT.out.2.1 HIT.out.2.2.1 HIT.out.2.2.2 rfl (by decide) _ 0 (aF []) rfl (World.ownsRow_nil _ _ _ _) ⟨b,off,none⟩ ts.length cap (aF ts) rfl (fB ts) (jZ HR.out) (j5 _) (by unfold maxLen;omega) (by omega) hsz1 ?_);intro v' w3 hown hgr _;have XG:Hid (w3.ownsRow w.heap.size 29 6 v' ts.length (aF ts)):=by
  show World.ownsRow _ _ _ _ _ _ _;simpa[aF] using hown
 have HB3:Hid (af w w3):=HB1.out.grown hgr hsz1 (fun g hg=>by simp[Value.ownBlock]at hg);have hsz3:w.heap.size<=w3.heap.size:=HB3.out.size;obtain⟨adv,cv,hv⟩:∃a c,v'=.slice a ts.length c:=by
  rcases XG.out.2 with⟨e,h0⟩|⟨g,c,cur,e,-⟩
  ·exact⟨none,0,by rw[e,h0]⟩
  exact⟨_,_,e⟩
 subst hv;obtain⟨w4,hw4⟩:∃w4,w4=w3.alloc (.cells #[.iface T u,.slice adv ts.length cv] 80):=⟨_,rfl⟩;have HBE:Hid (af w w4):=by show Below _ _ _;rw[hw4];exact HB3.out.alloc hsz3 _
 have HC4:Hid (w4.cell? ⟨w3.heap.size,0,none⟩=some (.iface T u)/\w4.cell? ⟨w3.heap.size,1,none⟩=some (.slice adv ts.length cv)):=by show _/\_;rw[hw4];constructor<;>simp
 have XE:Hid (w4.ownsRow w.heap.size 29 6 (.slice adv ts.length cv) ts.length (aF ts)):=by show World.ownsRow _ _ _ _ _ _ _;rw[hw4];exact XG.out.alloc _
 clear hown hgr;go_wp2;rw[<-hw4];exact bodyPost_ret (v:=.tuple #[.slice none 0 0,.iface 76 (.pointer (some ⟨w3.heap.size,0,none⟩))]) (by simp[results,Tryz.results52,go_sem]) rfl ⟨HBE.out,.inr ⟨HZ.out,w3.heap.size,T,u,_,rfl,hsz3,HC4.out.1,Z9.out,HC4.out.2,XE.out⟩⟩
structure ErrsD(w:World)(a:Nat->Addr):Prop where
 cell:∀g,g<=6->g≠1->g<w.heap.size/\w.cell? ⟨g,0,none⟩=some (.iface 350 (.pointer (some (a g))))/\(a g).block<w.heap.size/\∃c T,w.heap[(a g).block]?=some (.cells c T (0,0))
 apart:∀g h,g<=6->h<=6->g≠1->h≠1->g≠h->a g≠a h
 typ:1<w.heap.size/\w.cell? ⟨1,0,none⟩=some (.iface 204 (.agg #[.pointer (some ⟨8,73,none⟩)]))
theorem ErrsD.below{w w':ae}{a:Nat->Addr}(h:ErrsD w a)(hb:af w w'):ErrsD w' a where
 cell g h6 h1:=by
  obtain⟨hl,hc,hbl,c,T,e⟩:=h.cell g h6 h1;exact⟨VY hl hb.size,(hb.cell (p:=⟨g,0,none⟩) hl).trans hc,VY hbl hb.size,c,T,(hb.block _ hbl).trans e⟩
 apart:=h.apart
 typ:=⟨VY h.typ.1 hb.size,(hb.cell (p:=⟨1,0,none⟩) h.typ.1).trans h.typ.2⟩
theorem ErrsD.errs{w:ae}{a:Nat->Addr}(h:ErrsD w a):Nw w:=fun g h2 h6=>by
 obtain⟨hl,hc,_⟩:=h.cell g h6 (by omega);exact⟨hl,_,_,hc⟩
theorem KO(a:Nat->Addr)(w:ae)(h:ErrsD w a):Calls prog 40 #[.nilIface] w fun e w'=>e=.returned (.int .i64 0)/\w'=w:=by
 have H:=aC h;clear h;obtain⟨-,c0,-,k0,T0,b0⟩:=H.out.cell 0 (by omega) (by omega);obtain⟨-,c2,-,k2,T2,b2⟩:=H.out.cell 2 (by omega) (by omega);obtain⟨-,c3,-,k3,T3,b3⟩:=H.out.cell 3 (by omega) (by omega);obtain⟨-,c4,-,k4,T4,b4⟩:=H.out.cell 4 (by omega) (by omega);obtain⟨-,c5,-,k5,T5,b5⟩:=H.out.cell 5 (by omega) (by omega);obtain⟨-,c6,-,k6,T6,b6⟩:=H.out.cell 6 (by omega) (by omega);go_enter func40,ntmps40;go_wp2_with fail;refine(xR (a 0) _).mono ?_;rintro e w' ⟨rfl,rfl⟩;go_wp2_with fail;refine(xR (a 2) _).mono ?_;rintro e w' ⟨rfl,rfl⟩;go_wp2_with fail;refine(xR (a 3) _).mono ?_;rintro e w' ⟨rfl,rfl⟩;go_wp2_with fail;refine(xR (a 4) _).mono ?_;rintro e w' ⟨rfl,rfl⟩;go_wp2_with fail;refine(xR (a 5) _).mono ?_;rintro e w' ⟨rfl,rfl⟩;go_wp2_with fail;refine(xR (a 6) _).mono ?_;rintro e w' ⟨rfl,rfl⟩;go_wp2;go_ret;exact⟨rfl,rfl⟩
theorem FM(a:Nat->Addr)(w:ae)(h:ErrsD w a):Calls prog 40 #[.iface 350 (.pointer (some (a 0)))] w fun e w'=>e=.returned (.int .i64 1)/\w'=w:=by
 have H:=aC h;clear h;obtain⟨-,c0,-,k0,T0,b0⟩:=H.out.cell 0 (by omega) (by omega);obtain⟨-,c2,-,k2,T2,b2⟩:=H.out.cell 2 (by omega) (by omega);obtain⟨-,c3,-,k3,T3,b3⟩:=H.out.cell 3 (by omega) (by omega);obtain⟨-,c4,-,k4,T4,b4⟩:=H.out.cell 4 (by omega) (by omega);obtain⟨-,c5,-,k5,T5,b5⟩:=H.out.cell 5 (by omega) (by omega);obtain⟨-,c6,-,k6,T6,b6⟩:=H.out.cell 6 (by omega) (by omega);go_enter func40,ntmps40;go_wp2_with fail;refine(SI (a 0) _).mono ?_;rintro e w' ⟨rfl,rfl⟩;go_wp2;go_ret;exact⟨rfl,rfl⟩
theorem Q3(a:Nat->Addr)(p:Nat)(w:ae)(h:ErrsD w a)(h1:w.cell? ⟨p,0,none⟩=some (.iface 350 (.pointer (some (a 2))))):Calls prog 40 #[.iface 76 (.pointer (some ⟨p,0,none⟩))] w fun e w'=>e=.returned (.int .i64 2)/\w'=w:=by
 have H:=aC h;clear h;obtain⟨-,c0,-,k0,T0,b0⟩:=H.out.cell 0 (by omega) (by omega);obtain⟨-,c2,-,k2,T2,b2⟩:=H.out.cell 2 (by omega) (by omega);obtain⟨-,c3,-,k3,T3,b3⟩:=H.out.cell 3 (by omega) (by omega);obtain⟨-,c4,-,k4,T4,b4⟩:=H.out.cell 4 (by omega) (by omega);obtain⟨-,c5,-,k5,T5,b5⟩:=H.out.cell 5 (by omega) (by omega);obtain⟨-,c6,-,k6,T6,b6⟩:=H.out.cell 6 (by omega) (by omega);go_enter func40,ntmps40;go_wp2_with fail;refine(bi p (a 2) (a 0) _ _ _ _ _ h1 (H.out.apart 2 0 (by omega) (by omega) (by omega) (by omega) (by omega)) b2 b0).mono ?_;rintro e w' ⟨rfl,rfl⟩;go_wp2_with fail;refine(kZ p (a 2) _ h1).mono ?_;rintro e w' ⟨rfl,rfl⟩;go_wp2;go_ret;exact⟨rfl,rfl⟩
theorem Q4(a:Nat->Addr)(p:Nat)(w:ae)(h:ErrsD w a)(h1:w.cell? ⟨p,0,none⟩=some (.iface 350 (.pointer (some (a 3))))):Calls prog 40 #[.iface 76 (.pointer (some ⟨p,0,none⟩))] w fun e w'=>e=.returned (.int .i64 3)/\w'=w:=by
 have H:=aC h;clear h;obtain⟨-,c0,-,k0,T0,b0⟩:=H.out.cell 0 (by omega) (by omega);obtain⟨-,c2,-,k2,T2,b2⟩:=H.out.cell 2 (by omega) (by omega);obtain⟨-,c3,-,k3,T3,b3⟩:=H.out.cell 3 (by omega) (by omega);obtain⟨-,c4,-,k4,T4,b4⟩:=H.out.cell 4 (by omega) (by omega);obtain⟨-,c5,-,k5,T5,b5⟩:=H.out.cell 5 (by omega) (by omega);obtain⟨-,c6,-,k6,T6,b6⟩:=H.out.cell 6 (by omega) (by omega);go_enter func40,ntmps40;go_wp2_with fail;refine(bi p (a 3) (a 0) _ _ _ _ _ h1 (H.out.apart 3 0 (by omega) (by omega) (by omega) (by omega) (by omega)) b3 b0).mono ?_;rintro e w' ⟨rfl,rfl⟩;go_wp2_with fail;refine(bi p (a 3) (a 2) _ _ _ _ _ h1 (H.out.apart 3 2 (by omega) (by omega) (by omega) (by omega) (by omega)) b3 b2).mono ?_;rintro e w' ⟨rfl,rfl⟩;go_wp2_with fail;refine(kZ p (a 3) _ h1).mono ?_;rintro e w' ⟨rfl,rfl⟩;go_wp2;go_ret;exact⟨rfl,rfl⟩
theorem Q5(a:Nat->Addr)(p:Nat)(w:ae)(h:ErrsD w a)(h1:w.cell? ⟨p,0,none⟩=some (.iface 350 (.pointer (some (a 4))))):Calls prog 40 #[.iface 76 (.pointer (some ⟨p,0,none⟩))] w fun e w'=>e=.returned (.int .i64 4)/\w'=w:=by
 have H:=aC h;clear h;obtain⟨-,c0,-,k0,T0,b0⟩:=H.out.cell 0 (by omega) (by omega);obtain⟨-,c2,-,k2,T2,b2⟩:=H.out.cell 2 (by omega) (by omega);obtain⟨-,c3,-,k3,T3,b3⟩:=H.out.cell 3 (by omega) (by omega);obtain⟨-,c4,-,k4,T4,b4⟩:=H.out.cell 4 (by omega) (by omega);obtain⟨-,c5,-,k5,T5,b5⟩:=H.out.cell 5 (by omega) (by omega);obtain⟨-,c6,-,k6,T6,b6⟩:=H.out.cell 6 (by omega) (by omega);go_enter func40,ntmps40;go_wp2_with fail;refine(bi p (a 4) (a 0) _ _ _ _ _ h1 (H.out.apart 4 0 (by omega) (by omega) (by omega) (by omega) (by omega)) b4 b0).mono ?_;rintro e w' ⟨rfl,rfl⟩;go_wp2_with fail;refine(bi p (a 4) (a 2) _ _ _ _ _ h1 (H.out.apart 4 2 (by omega) (by omega) (by omega) (by omega) (by omega)) b4 b2).mono ?_;rintro e w' ⟨rfl,rfl⟩;go_wp2_with fail;refine(bi p (a 4) (a 3) _ _ _ _ _ h1 (H.out.apart 4 3 (by omega) (by omega) (by omega) (by omega) (by omega)) b4 b3).mono ?_;rintro e w' ⟨rfl,rfl⟩;go_wp2_with fail;refine(kZ p (a 4) _ h1).mono ?_;rintro e w' ⟨rfl,rfl⟩;go_wp2;go_ret;exact⟨rfl,rfl⟩
theorem Q6(a:Nat->Addr)(p:Nat)(w:ae)(h:ErrsD w a)(h1:w.cell? ⟨p,0,none⟩=some (.iface 350 (.pointer (some (a 5))))):Calls prog 40 #[.iface 76 (.pointer (some ⟨p,0,none⟩))] w fun e w'=>e=.returned (.int .i64 5)/\w'=w:=by
 have H:=aC h;clear h;obtain⟨-,c0,-,k0,T0,b0⟩:=H.out.cell 0 (by omega) (by omega);obtain⟨-,c2,-,k2,T2,b2⟩:=H.out.cell 2 (by omega) (by omega);obtain⟨-,c3,-,k3,T3,b3⟩:=H.out.cell 3 (by omega) (by omega);obtain⟨-,c4,-,k4,T4,b4⟩:=H.out.cell 4 (by omega) (by omega);obtain⟨-,c5,-,k5,T5,b5⟩:=H.out.cell 5 (by omega) (by omega);obtain⟨-,c6,-,k6,T6,b6⟩:=H.out.cell 6 (by omega) (by omega);go_enter func40,ntmps40;go_wp2_with fail;refine(bi p (a 5) (a 0) _ _ _ _ _ h1 (H.out.apart 5 0 (by omega) (by omega) (by omega) (by omega) (by omega)) b5 b0).mono ?_;rintro e w' ⟨rfl,rfl⟩;go_wp2_with fail;refine(bi p (a 5) (a 2) _ _ _ _ _ h1 (H.out.apart 5 2 (by omega) (by omega) (by omega) (by omega) (by omega)) b5 b2).mono ?_;rintro e w' ⟨rfl,rfl⟩;go_wp2_with fail;refine(bi p (a 5) (a 3) _ _ _ _ _ h1 (H.out.apart 5 3 (by omega) (by omega) (by omega) (by omega) (by omega)) b5 b3).mono ?_;rintro e w' ⟨rfl,rfl⟩;go_wp2_with fail;refine(bi p (a 5) (a 4) _ _ _ _ _ h1 (H.out.apart 5 4 (by omega) (by omega) (by omega) (by omega) (by omega)) b5 b4).mono ?_;rintro e w' ⟨rfl,rfl⟩;go_wp2_with fail;refine(kZ p (a 5) _ h1).mono ?_;rintro e w' ⟨rfl,rfl⟩;go_wp2;go_ret;exact⟨rfl,rfl⟩
theorem Q7(a:Nat->Addr)(p:Nat)(w:ae)(h:ErrsD w a)(h1:w.cell? ⟨p,0,none⟩=some (.iface 350 (.pointer (some (a 6))))):Calls prog 40 #[.iface 76 (.pointer (some ⟨p,0,none⟩))] w fun e w'=>e=.returned (.int .i64 6)/\w'=w:=by
 have H:=aC h;clear h;obtain⟨-,c0,-,k0,T0,b0⟩:=H.out.cell 0 (by omega) (by omega);obtain⟨-,c2,-,k2,T2,b2⟩:=H.out.cell 2 (by omega) (by omega);obtain⟨-,c3,-,k3,T3,b3⟩:=H.out.cell 3 (by omega) (by omega);obtain⟨-,c4,-,k4,T4,b4⟩:=H.out.cell 4 (by omega) (by omega);obtain⟨-,c5,-,k5,T5,b5⟩:=H.out.cell 5 (by omega) (by omega);obtain⟨-,c6,-,k6,T6,b6⟩:=H.out.cell 6 (by omega) (by omega);go_enter func40,ntmps40;go_wp2_with fail;refine(bi p (a 6) (a 0) _ _ _ _ _ h1 (H.out.apart 6 0 (by omega) (by omega) (by omega) (by omega) (by omega)) b6 b0).mono ?_;rintro e w' ⟨rfl,rfl⟩;go_wp2_with fail;refine(bi p (a 6) (a 2) _ _ _ _ _ h1 (H.out.apart 6 2 (by omega) (by omega) (by omega) (by omega) (by omega)) b6 b2).mono ?_;rintro e w' ⟨rfl,rfl⟩;go_wp2_with fail;refine(bi p (a 6) (a 3) _ _ _ _ _ h1 (H.out.apart 6 3 (by omega) (by omega) (by omega) (by omega) (by omega)) b6 b3).mono ?_;rintro e w' ⟨rfl,rfl⟩;go_wp2_with fail;refine(bi p (a 6) (a 4) _ _ _ _ _ h1 (H.out.apart 6 4 (by omega) (by omega) (by omega) (by omega) (by omega)) b6 b4).mono ?_;rintro e w' ⟨rfl,rfl⟩;go_wp2_with fail;refine(bi p (a 6) (a 5) _ _ _ _ _ h1 (H.out.apart 6 5 (by omega) (by omega) (by omega) (by omega) (by omega)) b6 b5).mono ?_;rintro e w' ⟨rfl,rfl⟩;go_wp2_with fail;refine(kZ p (a 6) _ h1).mono ?_;rintro e w' ⟨rfl,rfl⟩;go_wp2;go_ret;exact⟨rfl,rfl⟩
theorem KP(a:Nat->Addr)(p g:Nat)(w:ae)(h:ErrsD w a)(h2:2<=g)(h6:g<=6)(h1:w.cell? ⟨p,0,none⟩=some (.iface 350 (.pointer (some (a g))))):Calls prog 40 #[.iface 76 (.pointer (some ⟨p,0,none⟩))] w fun e w'=>e=.returned (.int .i64 (g:Int))/\w'=w:=by
 have hc:g=2\/g=3\/g=4\/g=5\/g=6:=by omega
 repeat' rcases hc with rfl|hc
 ·exact Q3 a p w h h1
 ·exact Q4 a p w h h1
 ·exact Q5 a p w h h1
 ·exact Q6 a p w h h1
 exact Q7 a p w h h1
end Go.Proofs.YtcgdckphpjfmhaaGreatDoor
namespace Go.Proofs.YtcgdckphpjfmhaaGreatDoor
set_option linter.unusedVariables false
set_option maxRecDepth 100000
open ChangeShapes WideShapes ChangeAt RowKit Maps Go.Shelf
open Pl
attribute [local go_sem] Oper.semAt_some
structure InM(W:World)(D br nr:Nat)(Mr:KL->Option Value)(Er:List (KL×RR))(Y8:Q02)(YU:Nat)(xo:Q0a)(gD gS gU:Nat)(sn:Int)(Yr:Q02)(XI:Nat)(us:Q0a):Prop where
 d2:W.cell? ⟨D,2,none⟩=some (.map (some br))
 d4:W.cell? ⟨D,4,none⟩=some (.slice Y8 xo.length YU)
 objs:lK W Y8 xo
 rel:FD W br nr Mr Er
 bD:W.cell? ⟨gD,0,none⟩=some (.pointer (some ⟨D,0,none⟩))
 bS:W.cell? ⟨gS,0,none⟩=some (.int .i64 sn)
 bU:W.cell? ⟨gU,0,none⟩=some (.slice Yr us.length XI)
 users:lK W Yr us
def Eo(x:Fc):Array Value:=#[.agg #[.string x.a,.string x.b,.string x.r,.string x.c,.string x.d]]
theorem Cb:∀(rs:Q07) (i:Nat) (h:i<rs.length) (j:Nat),j<2->(G.flatG Sm rs)[i*2+j]?=(Sm rs[i])[j]?
 | [],i,h,_,_=>by simp at h
 | r::rs,0,_,j,hj=>by
  simp only[G.flatG,WF,Nat.zero_mul,WB,List.getElem_cons_zero];rw[Xa (by simp[Sm];omega)]
 | r::rs,i+1,h,j,hj=>by
  have ih:=Cb rs i (by simpa using h) j hj;simp only[G.flatG,WF,List.getElem_cons_succ]at ih ⊢;rw[WY (by simp[Sm];omega)];have:(i+1)*2+j-(Sm r).length=i*2+j:=by simp[Sm];omega
  rw[this];exact ih
theorem LJ{W:ae}{br nr:Nat}{Mr:KL->Option Value}{Er:List (KL×RR)}(h:FD W br nr Mr Er)(k:KL):∃ad cap,(Mr k).getD (.slice none 0 0)=.slice ad (G.lookL Er k).length cap/\(∀i (hi:i<(G.lookL Er k).length),∃g,ad=some ⟨g,0,none⟩/\g<W.heap.size/\W.cell? ⟨g,i*2,none⟩=some (.string (G.lookL Er k)[i].name)/\W.cell? ⟨g,i*2+1,none⟩=some (G.lookL Er k)[i].sl):=by
 have ho:=Eg h k;rcases ho.2 with⟨e,h0⟩|⟨g,cap,cur,e,hbg,hg,hnc,-⟩
 ·exact⟨none,0,by rw[e,h0],fun i hi=>by omega⟩
 refine⟨_,cap,e,fun i hi=>⟨g,rfl,(ho.lt g (by rw[e];rfl)).2,?_,?_⟩⟩
 ·rw[e]at ho;rw[ho.cellAt (i*2) (by omega)];exact Cb _ i hi 0 (by omega)
 rw[e]at ho;rw[ho.cellAt (i*2+1) (by omega)];exact Cb _ i hi 1 (by omega)
def FN(W:World)(g:Nat)(o:Al):Prop:=W.heap[g]?=some (.cells #[.string o.t,.string o.s] 27 (0,0))
def Iu(W:World)(g:Nat)(r:RR):Prop:=W.heap[g]?=some (.cells #[.string r.name,r.sl] 149 (0,0))
theorem FN.c{W:ae}{g:Nat}{o:Al}(h:FN W g o):W.cell? ⟨g,0,none⟩=some (.string o.t)/\W.cell? ⟨g,1,none⟩=some (.string o.s)/\g<W.heap.size:=by
 have hl:=(We.1 h).1;unfold FN at h;exact⟨by simp[World.cell?,h],by simp[World.cell?,h],hl⟩
theorem Iu.c{W:ae}{g:Nat}{r:RR}(h:Iu W g r):W.cell? ⟨g,0,none⟩=some (.string r.name)/\W.cell? ⟨g,1,none⟩=some r.sl/\g<W.heap.size:=by
 have hl:=(We.1 h).1;unfold Iu at h;exact⟨by simp[World.cell?,h],by simp[World.cell?,h],hl⟩
theorem FN.kp{W W':ae}{g:Nat}{o:Al}(h:FN W g o)(hk:KpI W W'):FN W' g o:=hk.cells g _ _ _ h (.inl rfl)
theorem Iu.kp{W W':ae}{g:Nat}{r:RR}(h:Iu W g r)(hk:KpI W W'):Iu W' g r:=hk.cells g _ _ _ h (.inr rfl)
def iQ(rs:Q06)(st:Q00)(us:Q0a)(sn:Int)(xo:Q0a)(q:Nat):List Fc:=(xo.take q).flatMap (yZ (ag rs) st us sn)
def kQ(R:Q07)(us:Q0a)(o:Al)(k:Nat):List Fc:=(R.take k).flatMap fun r=>jO o r.name us
theorem SN{rs:Q06}{st:Q00}{us:Q0a}{sn:Int}{xo:Q0a}{q:Nat}(h:q<xo.length):iQ rs st us sn xo (q+1)=iQ rs st us sn xo q++kQ (G.lookL (eY st rs) (xo[q].t,sn)) us xo[q] (G.lookL (eY st rs) (xo[q].t,sn)).length:=by
 unfold iQ kQ;rw[V8 h,WP,Wo];congr 1;simp only[WF,List.flatMap_nil,WS];unfold yZ;rw[Ie,List.flatMap_map]
theorem SQ{R:Q07}{us:Q0a}{o:Al}{k:Nat}(h:k<R.length):kQ R us o (k+1)=kQ R us o k++jO o R[k].name us:=by
 unfold kQ;rw[V8 h,WP];simp
theorem NT(o:Al)(rel:bZ){xu:Q0a}{j:Nat}(h:j<xu.length):jO o rel (xu.take (j+1))=jO o rel (xu.take j)++[⟨o.t,o.s,rel,xu[j].t,xu[j].s⟩]:=by
 unfold jO;rw[V8 h,Xb];rfl
theorem NU{rs:Q06}{st:Q00}{xo us:Q0a}{sn:Int}{o:Al}{r:RR}{u:Al}(ho:o∈xo)(hr:r∈G.lookL (eY st rs) (o.t,sn))(hu:u∈us):(⟨o.t,o.s,r.name,u.t,u.s⟩:Fc)∈dw (ag rs) st xo us sn:=by
 unfold dw yZ;refine Wx.2 ⟨o,ho,Wx.2 ⟨(o.t,r.name),?_,Wp.2 ⟨u,hu,rfl⟩⟩⟩;rw[Ie];exact Wp.2 ⟨r,hr,rfl⟩
theorem Q8(n:Nat)(hn:1<=n)(D br nr:Nat)(Mr:KL->Option Value)(st:Q00)(rs:Q06)(Y8:Q02)(YU:Nat)(xo:Q0a)(gD gS gU:Nat)(sn:Int)(Yr:Q02)(XI:Nat)(us:Q0a)(w0:ae)(hs0:0<=sn)(hs1:sn<=1000)(hol:xo.length<=1000)(hul:us.length<=1000)(hrl:∀k,(G.lookL (eY st rs) k).length<=1000)(hof:∀o∈xo,o.t.size<=maxLen):
  Fa Fence.wide n prog 182 #[.pointer (some ⟨gD,0,none⟩),.pointer (some ⟨gS,0,none⟩),.pointer (some ⟨gU,0,none⟩)] Eo (fun _=>KpI) (fun _ W=>InM W D br nr Mr (eY st rs) Y8 YU xo gD gS gU sn Yr XI us) (fun _ x=>x∈dw (ag rs) st xo us sn) (fun xs=>xs=dw (ag rs) st xo us sn) w0:=by
 intro l J W _ _ _ hJ hT hY h0;have HJ:=ak hJ;have HT:=ak hT;have HY:=ak hY;have H0:=ak h0;have HOF:=ak hof;have hM:=hT _ _ h0;have HRL:=ak hrl;have bD:=hM.bD;have d4:=hM.d4;have lD:=aL bD;have lDD:=aL d4;clear hJ hT hY h0 hof hM hrl;refine callsIn_of_wp func182 rfl trivial ?_ rfl;simp only[ntmps182,List.size_toArray,WH,Xh,Nat.reduceAdd,Nat.reduceSub,Array.replicate_succ,Array.replicate_zero,List.push_toArray,List.append_toArray,Xi,WU];gi_wp2;clear bD d4 lD lDD
 gi_loopw [16] (fun i wr=>∃q:Nat,q<=xo.length/\i=.int .i64 q/\Hid (J (iQ rs st us sn xo q) wr)) (fun i _=>xo.length-(intOf i).toNat)
 case atStart=>exact⟨0,Wd _,rfl,H0⟩
 clear H0;obtain⟨q,hq,rfl,HJ1⟩:=hrel;by_cases hlq:q<xo.length
 ·have hM:=HT.out _ _ HJ1.out;obtain⟨bO,X7,hadO,⟨o0,o1⟩,hbO⟩:=lK.at0 hM.objs hlq;have HSQ:=ak (SN (rs:=rs) (st:=st) (us:=us) (sn:=sn) hlq);have HOS:=ak (HOF.out _ (VZ hlq));have HOM:Hid (xo[q]∈xo):=VZ hlq;obtain⟨o,ho⟩:∃o,o=xo[q]:=⟨_,rfl⟩;rw[<-ho]at o0 o1 HSQ HOS HOM;clear ho;have hq1:=bC q;have hq2:(q:Int)<(xo.length:Int):=by omega
  obtain⟨W1,hW1⟩:∃W1,W1=wr.alloc (.cells #[.string o.t,.string o.s] 27):=⟨_,rfl⟩;have HB1:=nC hW1;have HJ2:=ak (nW HJ.out HJ1.out HB1.out);have XU:Hid (FN W1 wr.heap.size o):=by rw[hW1];exact World.alloc_heap_new wr _
  have hM2:=HT.out _ _ HJ2.out;have bD:=hM2.bD;have bS:=hM2.bS;have d2:=hM2.d2;obtain⟨c0,c1,cl⟩:=XU.out.c;obtain⟨Y7,YM,hgd,-⟩:=LJ hM2.rel (o.t,sn);obtain⟨kl,hkl⟩:=Lh (o.t,sn) HOS.out hs0 (by show sn<=_;omega);obtain⟨R,hR⟩:∃R,R=G.lookL (eY st rs) (o.t,sn):=⟨_,rfl⟩;have hRl:R.length<=1000:=by rw[hR];exact HRL.out _
  rw[<-hR]at hgd HSQ;have HRE:=ak hR;have HGD:=ak hgd;have hlk:∀m,(Instr.lookup 122 (.map (some br)) (.agg #[.string o.t,.int .i64 sn]) false).run prog (W1.drewN m)=.ok (.slice Y7 R.length YM) (W1.drewN m):=fun m=>by
   have h:=(hM2.rel.map.below (below_drewN (V5 _ _) m)).look (t:=122) (e:=103) Vk underlying122 (QI _) (x:=(o.t,sn)) hkl;rw[hgd]at h;exact h
  subst hadO;clear hM hM2 hR hgd hkl;gi_wp2;rw[<-hW1];clear hW1;refine wpIn_wide.2 ?_;go_quiet (fail);obtain⟨W2,hW2⟩:∃W2,W2=W1.drewN nq:=⟨_,rfl⟩;have HB2:Hid (af W1 W2):=by show Below _ _ _;rw[hW2];exact below_drewN (V5 _ _) _
  have HJ3:=ak (nW HJ.out HJ2.out HB2.out);have HBX2:=ak (XU.out.kp (KpI.below HB2.out));obtain⟨gO,hgO⟩:∃g,g=wr.heap.size:=⟨_,rfl⟩;rw[<-hgO]at HBX2 ⊢;rw[<-hW2];clear hW2 hgO c0 c1 cl bD bS d2 hlk HB1 HJ2 XU HJ1 o0 o1 hbO;gi_wp2
  gi_loopw [30] (fun i w2=>∃k:Nat,k<=R.length/\i=.int .i64 k/\Hid (J (iQ rs st us sn xo q++kQ R us o k) w2)/\Hid (FN w2 gO o)) (fun i _=>R.length-(intOf i).toNat)
  case atStart=>exact⟨0,Wd _,rfl,by show J (_++[]) _;rw[WS];exact HJ3.out,HBX2⟩
  clear HJ3 HBX2 HB2;obtain⟨k,hk,rfl,HJ4,XU⟩:=hrel;by_cases hlk:k<R.length
  ·have hM:=HT.out _ _ HJ4.out;obtain⟨adR',capR',hgd',hrows⟩:=LJ hM.rel (o.t,sn);rw[<-HRE.out,HGD.out]at hgd';injection hgd' with ea eb ec;subst ea;clear eb ec;obtain⟨gq,hadR,hgl,r0,r1⟩:=hrows k (by rw[<-HRE.out];exact hlk);have HKS:=ak (SQ (us:=us) (o:=o) hlk);have hrr:(G.lookL (eY st rs) (o.t,sn))[k]'(by rw[<-HRE.out];exact hlk)=R[k]:=by simp only[HRE.out]
   rw[hrr]at r0 r1;have HRM:Hid (R[k]∈R):=VZ hlk;obtain⟨r,hr⟩:∃r,r=R[k]:=⟨_,rfl⟩;rw[<-hr]at r0 r1 HKS HRM;have hk1:=bC k;have hk2:(k:Int)<(R.length:Int):=by omega
   obtain⟨W3,hW3⟩:∃W3,W3=wr.alloc (.cells #[.string r.name,r.sl] 149):=⟨_,rfl⟩;have HB3:=nC hW3;have HJ5:=ak (nW HJ.out HJ4.out HB3.out);have HBO:=ak (XU.out.kp (KpI.below HB3.out));have ZV:Hid (Iu W3 wr.heap.size r):=by rw[hW3];exact World.alloc_heap_new wr _
   have hM3:=HT.out _ _ HJ5.out;have bU:=hM3.bU;have lU:=aL bU;have bU0:=hM.bU;have lU0:=aL bU0;unfold RR.sl at r1 hW3;obtain⟨gR,hgR⟩:∃g,g=wr.heap.size:=⟨_,rfl⟩;subst hadR;clear hM hM3 hr hrr hrows;gi_wp2;rw[<-hW3,<-hgR];rw[<-hgR]at ZV;clear hW3 hgR bU lU bU0 lU0 r0 r1 hgl HB3 HJ4 XU
   gi_loopw [36] (fun i w2=>∃j:Nat,j<=us.length/\i=.int .i64 j/\Hid (J (iQ rs st us sn xo q++kQ R us o k++jO o r.name (us.take j)) w2)/\Hid (FN w2 gO o)/\Hid (Iu w2 gR r)) (fun i _=>us.length-(intOf i).toNat)
   case atStart=>exact⟨0,Wd _,rfl,by show J (_++[]) _;rw[WS];exact HJ5.out,HBO,ZV⟩
   clear HJ5 HBO ZV;obtain⟨j,hj,rfl,HJ6,HBO,ZV⟩:=hrel;by_cases hlj:j<us.length
   ·have hM:=HT.out _ _ HJ6.out;obtain⟨bV,offV,hadU,⟨y0,y1⟩,hbV⟩:=lK.at0 hM.users hlj;have HAS:=ak (NT o r.name hlj);obtain⟨u,hu⟩:∃u,u=us[j]:=⟨_,rfl⟩;rw[<-hu]at y0 y1 HAS;have hj1:=bC j;have hj2:(j:Int)<(us.length:Int):=by omega
    obtain⟨W4,Yg⟩:∃W4,W4=wr.alloc (.cells #[.string u.t,.string u.s] 27):=⟨_,rfl⟩;have XM:=nC Yg;have HJ7:=nW HJ.out HJ6.out XM.out;have ZX:=ak (HBO.out.kp (KpI.below XM.out));have HBR2:=ak (ZV.out.kp (KpI.below XM.out));obtain⟨fn,tmps,assign,body,hy,hR⟩:=HY.out _ ⟨o.t,o.s,r.name,u.t,u.s⟩ W4 HJ7 (NU HOM.out (by rw[<-HRE.out];exact HRM.out) (by rw[hu];exact VZ hlj));obtain⟨c0,c1,cl⟩:=HBO.out.c;obtain⟨e0,e1,el⟩:=ZV.out.c;have HRR:=ak hR;unfold Eo at hy;subst hadU;subst Yg;clear hM hu HJ7 hR;gi_wp2;refine HRR.out.mono ?_;rintro e W5 ⟨rfl,hJ8,hK8⟩;have HJ8:Hid (J (iQ rs st us sn xo q++kQ R us o k++jO o r.name (us.take (j+1))) W5):=by show J _ _;rw[HAS.out,<-WE];exact hJ8
    have HBO3:=ak (ZX.out.kp hK8);have HBR3:=ak (HBR2.out.kp hK8);clear hJ8 hK8 hy y0 y1 c0 c1 cl e0 e1 el;gi_wp2;go_roundw;case rel=>exact⟨j+1,by omega,by go_num,HJ8,HBO3,HBR3⟩
    simp[intOf]<;>omega
   have HJ7:Hid (J (iQ rs st us sn xo q++kQ R us o (k+1)) wr):=by
    have h1:=HJ6.out;rw[WL (by omega),WE,<-HKS.out]at h1;exact h1
   gi_wp2;go_roundw;case rel=>exact⟨k+1,by omega,by go_num,HJ7,HBO⟩
   simp[intOf]<;>omega
  have HE2:Hid (iQ rs st us sn xo q++kQ R us o k=iQ rs st us sn xo (q+1)):=by show _=_;rw[HSQ.out,show k=R.length by omega]
  have HJ5:Hid (J (iQ rs st us sn xo (q+1)) wr):=by show J _ _;rw[<-HE2.out];exact HJ4.out
  gi_wp2;go_roundw;case rel=>exact⟨q+1,by omega,by go_num,HJ5⟩
  simp[intOf]<;>omega
 have HE:Hid (iQ rs st us sn xo q=dw (ag rs) st xo us sn):=by show _=_;unfold iQ dw;rw[WL (by omega)]
 have HJ2:Hid (J (dw (ag rs) st xo us sn) wr):=by show J _ _;rw[<-HE.out];exact HJ1.out
 gi_wp2
 go_end0
 exact⟨⟨_,rfl⟩,_,rfl,HJ2.out⟩
end Go.Proofs.YtcgdckphpjfmhaaGreatDoor
namespace Go.Proofs.YtcgdckphpjfmhaaGreatDoor
set_option linter.unusedVariables false
set_option maxRecDepth 100000
open ChangeShapes WideShapes ChangeAt RowKit Maps
open Pl
section
variable  {w:World}{rs:Q06}{D br bp bt bK nK:Nat}{n1:Int}{nr:Nat}{Mr:KL->Option Value}{Er:List (KL×RR)}{ts:Q05}{xo xu:Q0a}{np:Nat}{Mp:K3->Option Value}{vo vu:Value}{out:Q04}{f:Fc}{Xw:Q02}{capE:Nat}{rows:Q08}{n:Nat}
theorem NV(hn:n<rows.length)(hD:DatA w rs D br bp bt n1 nr Mr Er (dH ts) xo xu np Mp vo vu)(hK:aN kX prog 43 w bK nK (yI out))(hf:f.fits)(hts:∀t∈ts,t.fits)(htl:ts.length<=1000)(hex:jv w Xw rows)(hre:rows.length<=1000)(hk:rows[n].e.kind=1):
  Calls prog 183 #[.pointer (some ⟨D,0,none⟩),.slice Xw rows.length capE,.int .i64 (n:Int),.agg #[.string f.a,.string f.b,.string f.r,.string f.c,.string f.d],.map (some bK)] w fun e w'=>e=.returned (.bool (fG ts out f))/\af w w':=by
 obtain⟨b,off,Xx,⟨t0,t1,t2,t3,t4⟩,hbl,hok⟩:=jv.at0 hex hn;obtain⟨W0,hW0⟩:∃W0,W0=IX w D (.slice Xw rows.length capE) f bK rows[n]:=⟨_,rfl⟩;have HB0:Hid (af w W0):=by show Below _ _ _;rw[hW0];exact mg _ _ _ _ _ _
 have HN0:Hid (NdB W0 w.heap.size D (.slice Xw rows.length capE) f bK rows[n]):=by show NdB _ _ _ _ _ _ _;rw[hW0];exact mh _ _ _ _ _ _
 have hk1:(rows[n].e.kind==1)=true:=by rw[hk];rfl
 have hbl1:b<w.heap.size+1:=by omega
 have ZU:b<w.heap.size+1+1:=by omega
 have YT:b<w.heap.size+1+1+1:=by omega
 have hn1:=bC n;have hn2:(n:Int)<(rows.length:Int):=by omega
 unfold IX zb at hW0;have HC:=ak (CE (hD.below HB0.out) (hK.below HB0.out) hf hts htl);clear hD hK hts hex hk hok;subst Xx;go_enter func183,ntmps183;go_wp2_with fail;rw[<-hW0];clear hW0 t0 t1 t2 t3 t4;refine(HC.out).mono ?_;rintro e w1 ⟨rfl,hb1⟩;have HB1:=ak (HB0.out.trans (hb1.mono HB0.out.size));clear hb1;go_wp2;go_ret;exact⟨rfl,HB1.out⟩
theorem Q9(hn:n<rows.length)(hK:aN kX prog 43 w bK nK (yI out))(hf:f.fits)(hnm:rows[n].e.name.size<=maxLen)(hex:jv w Xw rows)(hre:rows.length<=1000)(hk:rows[n].e.kind=2):
  Calls prog 183 #[.pointer (some ⟨D,0,none⟩),.slice Xw rows.length capE,.int .i64 (n:Int),.agg #[.string f.a,.string f.b,.string f.r,.string f.c,.string f.d],.map (some bK)] w fun e w'=>e=.returned (.bool (bY out ⟨f.a,f.b,rows[n].e.name,f.c,f.d⟩))/\af w w':=by
 obtain⟨b,off,Xx,⟨t0,t1,t2,t3,t4⟩,hbl,hok⟩:=jv.at0 hex hn;obtain⟨W0,hW0⟩:∃W0,W0=IX w D (.slice Xw rows.length capE) f bK rows[n]:=⟨_,rfl⟩;have HB0:Hid (af w W0):=by show Below _ _ _;rw[hW0];exact mg _ _ _ _ _ _
 have HN0:Hid (NdB W0 w.heap.size D (.slice Xw rows.length capE) f bK rows[n]):=by show NdB _ _ _ _ _ _ _;rw[hW0];exact mh _ _ _ _ _ _
 have hk1:(rows[n].e.kind==1)=false:=by rw[hk];rfl
 have hk2:(rows[n].e.kind==2)=true:=by rw[hk];rfl
 have hbl1:b<w.heap.size+1:=by omega
 have ZU:b<w.heap.size+1+1:=by omega
 have YT:b<w.heap.size+1+1+1:=by omega
 have hn1:=bC n;have hn2:(n:Int)<(rows.length:Int):=by omega
 unfold IX zb at hW0;have HC:=ak (rR bK nK out ⟨f.a,f.b,rows[n].e.name,f.c,f.d⟩ W0 ⟨hf.1,hf.2.1,hnm,hf.2.2.2.1,hf.2.2.2.2⟩ (hK.below HB0.out));clear hK hex hk hok hf;subst Xx;go_enter func183,ntmps183;go_wp2_with fail;rw[<-hW0];clear hW0 t0 t1 t2 t3 t4;refine(HC.out).mono ?_;rintro e w1 ⟨rfl,hb1⟩;have HB1:=ak (HB0.out.trans (hb1.mono HB0.out.size));clear hb1;go_wp2;go_ret;exact⟨rfl,HB1.out⟩
theorem NW(hn:n<rows.length)(hD:DatA w rs D br bp bt n1 nr Mr Er (dH ts) xo xu np Mp vo vu)(hK:aN kX prog 43 w bK nK (yI out))(hf:f.fits)(hxf:rows[n].e.over.size<=maxLen/\rows[n].e.name.size<=maxLen)(hts:∀t∈ts,t.fits)(htl:ts.length<=1000)(hex:jv w Xw rows)(hre:rows.length<=1000)(hk:rows[n].e.kind=3):
  Calls prog 183 #[.pointer (some ⟨D,0,none⟩),.slice Xw rows.length capE,.int .i64 (n:Int),.agg #[.string f.a,.string f.b,.string f.r,.string f.c,.string f.d],.map (some bK)] w fun e w'=>e=.returned (.bool (gQ ts out rows[n].e.over rows[n].e.name f))/\af w w':=by
 obtain⟨b,off,Xx,⟨t0,t1,t2,t3,t4⟩,hbl,hok⟩:=jv.at0 hex hn;obtain⟨W0,hW0⟩:∃W0,W0=IX w D (.slice Xw rows.length capE) f bK rows[n]:=⟨_,rfl⟩;have HB0:Hid (af w W0):=by show Below _ _ _;rw[hW0];exact mg _ _ _ _ _ _
 have HN0:Hid (NdB W0 w.heap.size D (.slice Xw rows.length capE) f bK rows[n]):=by show NdB _ _ _ _ _ _ _;rw[hW0];exact mh _ _ _ _ _ _
 have hk1:(rows[n].e.kind==1)=false:=by rw[hk];rfl
 have hk2:(rows[n].e.kind==2)=false:=by rw[hk];rfl
 have hk3:(rows[n].e.kind==3)=true:=by rw[hk];rfl
 have hbl1:b<w.heap.size+1:=by omega
 have ZU:b<w.heap.size+1+1:=by omega
 have YT:b<w.heap.size+1+1+1:=by omega
 have hn1:=bC n;have hn2:(n:Int)<(rows.length:Int):=by omega
 unfold IX zb at hW0;have HC:=ak (CF (hD.below HB0.out) (hK.below HB0.out) rows[n] hxf hf hts htl);clear hD hK hts hex hk hok hxf hf;subst Xx;go_enter func183,ntmps183;go_wp2_with fail;rw[<-hW0];clear hW0 t0 t1 t2 t3 t4;refine(HC.out).mono ?_;rintro e w1 ⟨rfl,hb1⟩;have HB1:=ak (HB0.out.trans (hb1.mono HB0.out.size));clear hb1;go_wp2;go_ret;exact⟨rfl,HB1.out⟩
theorem KQ(hn:n<rows.length)(H:Int->Bool)(hkl:rows[n].e.kids.length<=1000)(hIH:∀i∈rows[n].e.kids,KG D (.slice Xw rows.length capE) f bK w i (H i))(hex:jv w Xw rows)(hre:rows.length<=1000)(hk:rows[n].e.kind=4):
  Calls prog 183 #[.pointer (some ⟨D,0,none⟩),.slice Xw rows.length capE,.int .i64 (n:Int),.agg #[.string f.a,.string f.b,.string f.r,.string f.c,.string f.d],.map (some bK)] w fun e w'=>e=.returned (.bool (rows[n].e.kids.any H))/\af w w':=by
 obtain⟨b,off,Xx,⟨t0,t1,t2,t3,t4⟩,hbl,hok⟩:=jv.at0 hex hn;obtain⟨W0,hW0⟩:∃W0,W0=IX w D (.slice Xw rows.length capE) f bK rows[n]:=⟨_,rfl⟩;have HB0:Hid (af w W0):=by show Below _ _ _;rw[hW0];exact mg _ _ _ _ _ _
 have HN0:Hid (NdB W0 w.heap.size D (.slice Xw rows.length capE) f bK rows[n]):=by show NdB _ _ _ _ _ _ _;rw[hW0];exact mh _ _ _ _ _ _
 have hk1:(rows[n].e.kind==1)=false:=by rw[hk];rfl
 have hk2:(rows[n].e.kind==2)=false:=by rw[hk];rfl
 have hk3:(rows[n].e.kind==3)=false:=by rw[hk];rfl
 have hk4:(rows[n].e.kind==4)=true:=by rw[hk];rfl
 have hbl1:b<w.heap.size+1:=by omega
 have ZU:b<w.heap.size+1+1:=by omega
 have YT:b<w.heap.size+1+1+1:=by omega
 have hn1:=bC n;have hn2:(n:Int)<(rows.length:Int):=by omega
 unfold IX zb at hW0;have HC:=ak (uf 216 #[] #[.pointer (some ⟨w.heap.size,0,none⟩),.pointer (some ⟨w.heap.size+1,0,none⟩),.pointer (some ⟨w.heap.size+1+1,0,none⟩),.pointer (some ⟨w.heap.size+1+1+1,0,none⟩)] H rows[n].adK rows[n].capK rows[n].e.kids W0 (by omega) (hok.2.below HB0.out) UG (fun i hi w1 hb=>qx (hIH i hi) (HB0.out.trans (hb.mono HB0.out.size)) (HN0.out.below hb)));clear hIH hex hk hok;subst Xx;go_enter func183,ntmps183;go_wp2_with fail;rw[<-hW0];clear hW0 t0 t1 t2 t3 t4;refine(HC.out).mono ?_;rintro e w1 ⟨rfl,hb1⟩;have HB1:=ak (HB0.out.trans (hb1.mono HB0.out.size));clear hb1;go_wp2;go_ret;exact⟨rfl,HB1.out⟩
theorem NY(hn:n<rows.length)(H:Int->Bool)(hkl:rows[n].e.kids.length<=1000)(hIH:∀i∈rows[n].e.kids,KG D (.slice Xw rows.length capE) f bK w i (H i))(hex:jv w Xw rows)(hre:rows.length<=1000)(hk:rows[n].e.kind=5):
  Calls prog 183 #[.pointer (some ⟨D,0,none⟩),.slice Xw rows.length capE,.int .i64 (n:Int),.agg #[.string f.a,.string f.b,.string f.r,.string f.c,.string f.d],.map (some bK)] w fun e w'=>e=.returned (.bool (rows[n].e.kids.all H))/\af w w':=by
 obtain⟨b,off,Xx,⟨t0,t1,t2,t3,t4⟩,hbl,hok⟩:=jv.at0 hex hn;obtain⟨W0,hW0⟩:∃W0,W0=IX w D (.slice Xw rows.length capE) f bK rows[n]:=⟨_,rfl⟩;have HB0:Hid (af w W0):=by show Below _ _ _;rw[hW0];exact mg _ _ _ _ _ _
 have HN0:Hid (NdB W0 w.heap.size D (.slice Xw rows.length capE) f bK rows[n]):=by show NdB _ _ _ _ _ _ _;rw[hW0];exact mh _ _ _ _ _ _
 have hk1:(rows[n].e.kind==1)=false:=by rw[hk];rfl
 have hk2:(rows[n].e.kind==2)=false:=by rw[hk];rfl
 have hk3:(rows[n].e.kind==3)=false:=by rw[hk];rfl
 have hk4:(rows[n].e.kind==4)=false:=by rw[hk];rfl
 have hk5:(rows[n].e.kind==5)=true:=by rw[hk];rfl
 have hbl1:b<w.heap.size+1:=by omega
 have ZU:b<w.heap.size+1+1:=by omega
 have YT:b<w.heap.size+1+1+1:=by omega
 have hn1:=bC n;have hn2:(n:Int)<(rows.length:Int):=by omega
 unfold IX zb at hW0;have HC:=ak (uf 217 #[] #[.pointer (some ⟨w.heap.size+1+1+1+1+1,0,none⟩)] (fun i=>!H i) rows[n].adK rows[n].capK rows[n].e.kids W0 (by omega) (hok.2.below HB0.out) UH (fun i hi w1 hb=>wI (hIH i hi) (HB0.out.trans (hb.mono HB0.out.size)) (HN0.out.below hb)));have XJ:Hid ((rows[n].e.kids.any fun i=>!H i)=!rows[n].e.kids.all H):=by show _=_;rw[List.not_all_eq_any_not]
 clear hIH hex hk hok;subst Xx;go_enter func183,ntmps183;go_wp2_with fail;rw[<-hW0];clear hW0 t0 t1 t2 t3 t4;refine(HC.out).mono ?_;rintro e w1 ⟨he,hb1⟩;rw[XJ.out]at he;subst he;have HB1:=ak (HB0.out.trans (hb1.mono HB0.out.size));clear hb1;go_wp2;go_ret;exact⟨by simp,HB1.out⟩
end
open Go.Sort
section
variable  {w:World}{rs:Q06}{D br bp bt bK nK:Nat}{n1:Int}{nr:Nat}{Mr:KL->Option Value}{Er:List (KL×RR)}{ts:Q05}{xo xu:Q0a}{np:Nat}{Mp:K3->Option Value}{vo vu:Value}{out:Q04}{f:Fc}{Xw:Q02}{capE:Nat}{rows:Q08}{n:Nat}
theorem Ra(hn:n<rows.length)(b0 b1:Bool)(hkl:rows[n].e.kids.length<=1000)(hk2l:2<=rows[n].e.kids.length)(hA:KG D (.slice Xw rows.length capE) f bK w (rows[n].e.kids.getD 0 0) b0)(hB:KG D (.slice Xw rows.length capE) f bK w (rows[n].e.kids.getD 1 0) b1)(hex:jv w Xw rows)(hre:rows.length<=1000)(hk:rows[n].e.kind=6):
  Calls prog 183 #[.pointer (some ⟨D,0,none⟩),.slice Xw rows.length capE,.int .i64 (n:Int),.agg #[.string f.a,.string f.b,.string f.r,.string f.c,.string f.d],.map (some bK)] w fun e w'=>e=.returned (.bool (b0 && !b1))/\af w w':=by
 obtain⟨b,off,Xx,⟨t0,t1,t2,t3,t4⟩,hbl,hok⟩:=jv.at0 hex hn;obtain⟨W0,hW0⟩:∃W0,W0=IX w D (.slice Xw rows.length capE) f bK rows[n]:=⟨_,rfl⟩;have HB0:Hid (af w W0):=by show Below _ _ _;rw[hW0];exact mg _ _ _ _ _ _
 have HN0:Hid (NdB W0 w.heap.size D (.slice Xw rows.length capE) f bK rows[n]):=by show NdB _ _ _ _ _ _ _;rw[hW0];exact mh _ _ _ _ _ _
 have hk1:(rows[n].e.kind==1)=false:=by rw[hk];rfl
 have hk2:(rows[n].e.kind==2)=false:=by rw[hk];rfl
 have hk3:(rows[n].e.kind==3)=false:=by rw[hk];rfl
 have hk4:(rows[n].e.kind==4)=false:=by rw[hk];rfl
 have hk5:(rows[n].e.kind==5)=false:=by rw[hk];rfl
 have hbl1:b<w.heap.size+1:=by omega
 have ZU:b<w.heap.size+1+1:=by omega
 have YT:b<w.heap.size+1+1+1:=by omega
 have hn1:=bC n;have hn2:(n:Int)<(rows.length:Int):=by omega
 unfold IX zb at hW0;have h0k:0<rows[n].e.kids.length:=by omega
 have h1k:1<rows[n].e.kids.length:=by omega
 obtain⟨bJ,offJ,XZ,z0,hbK⟩:=wS.at0 hok.2 h0k;have z1:w.cell? ⟨bJ,offJ+1,none⟩=some (.int .i64 rows[n].e.kids[1]):=by
  obtain⟨b',off',hadK',z1,-⟩:=wS.at0 hok.2 h1k;rw[XZ]at hadK';injection hadK' with e;injection e with e1 e2;rw[e1,e2];exact z1
 obtain⟨i0,hi0⟩:∃i,i=rows[n].e.kids[0]:=⟨_,rfl⟩;obtain⟨i1,hi1⟩:∃i,i=rows[n].e.kids[1]:=⟨_,rfl⟩;have g0:rows[n].e.kids.getD 0 0=i0:=by rw[hi0,Xd,Wm h0k];rfl
 have g1:rows[n].e.kids.getD 1 0=i1:=by rw[hi1,Xd,Wm h1k];rfl
 rw[g0]at hA;rw[g1]at hB;rw[<-hi0,Nat.add_zero]at z0;rw[<-hi1]at z1;obtain⟨kl,hkl'⟩:∃kl,kl=rows[n].e.kids.length:=⟨_,rfl⟩;obtain⟨cK,hcK⟩:∃c,c=rows[n].capK:=⟨_,rfl⟩;have hl0:(0:Int)<(kl:Int):=by omega
 have hl1:(1:Int)<(kl:Int):=by omega
 have h0k':0<kl:=by omega
 have h1k':1<kl:=by omega
 have HA:Hid (∀w1,af W0 w1->_):=fun w1 hb=>qx hA (HB0.out.trans (hb.mono HB0.out.size)) (HN0.out.below hb);have Y9:Hid (∀w1,af W0 w1->_):=fun w1 hb=>wI hB (HB0.out.trans (hb.mono HB0.out.size)) (HN0.out.below hb);have HZ:Hid (W0.cell? ⟨bJ,offJ,none⟩=some (.int .i64 i0)/\W0.cell? ⟨bJ,offJ+1,none⟩=some (.int .i64 i1)/\bJ<W0.heap.size):=⟨(HB0.out.cell (p:=⟨bJ,offJ,none⟩) hbK).trans z0,(HB0.out.cell (p:=⟨bJ,offJ+1,none⟩) hbK).trans z1,VY hbK HB0.out.size⟩;have HX4:Hid (W0.cell? ⟨w.heap.size+1+1+1+1,4,none⟩=some (.slice (some ⟨bJ,offJ,none⟩) kl cK)):=by show _=_;rw[HN0.out.x4,XZ,<-hkl',<-hcK]
 have HV5:Hid (W0.cell? ⟨w.heap.size+1+1+1+1+1,0,none⟩=some (.func (Fn.func 216) #[] #[.pointer (some ⟨w.heap.size,0,none⟩),.pointer (some ⟨w.heap.size+1,0,none⟩),.pointer (some ⟨w.heap.size+1+1,0,none⟩),.pointer (some ⟨w.heap.size+1+1+1,0,none⟩)])):=HN0.out.v;clear hA hB hex hk hok z0 z1 XZ h0k h1k g0 g1 hi0 hi1;subst Xx;go_enter func183,ntmps183;go_wp2_with fail;rw[<-hW0];clear hW0 t0 t1 t2 t3 t4;clear hk1 hk2 hk3 hk4 hk5 hkl' hcK;have HAA:Hid (∀d os,Calls prog 216 #[.int .i64 i0,.pointer (some ⟨w.heap.size,0,none⟩),.pointer (some ⟨w.heap.size+1,0,none⟩),.pointer (some ⟨w.heap.size+1+1,0,none⟩),.pointer (some ⟨w.heap.size+1+1+1,0,none⟩)] (grow (redrawn W0 d) os) fun e w''=>e=.returned (.bool b0)/\∃p:Regrown,w''=grow (redrawn W0 p.d) p.os):=by
  refine bq fun W' hb=>?_;exact HA.out _ hb
 have HBQ:Hid (∀d os,Calls prog 217 #[.int .i64 i1,.pointer (some ⟨w.heap.size+1+1+1+1+1,0,none⟩)] (grow (redrawn W0 d) os) fun e w''=>e=.returned (.bool (!b1))/\∃p:Regrown,w''=grow (redrawn W0 p.d) p.os):=by
  refine bq fun W' hb=>?_;exact Y9.out _ hb
 have x4:=cell_regrown HX4.out;have v5:=cell_regrown HV5.out;have z0:=cell_regrown HZ.out.1;have z1:=cell_regrown HZ.out.2.1;clear HA Y9 HN0;cases b0
 case' true =>
  skip
 case' false =>
  skip
 all_goals
  refine wp_region_quiet_below (by kernel_rfl) (by kernel_rfl) ?_
  repeat(go_big_quiet_step (first|exact HAA.out _ _|exact HBQ.out _ _))
  refine wpQuiet_nil ?_;rintro _ ⟨⟨dq,osq⟩,rfl⟩;go_wp2;go_ret;exact⟨rfl,HB0.out.trans ((below_regrown W0 dq osq).mono HB0.out.size)⟩
end
def SS(u:Al)(g:Fc):Bool:=Bh g.c g.d u.t u.s
theorem NZ(p:Fc->Bool){zs:Q04}{k:Nat}(h:k<zs.length):(zs.drop k).any p=(p zs[k] || (zs.drop (k+1)).any p):=by rw[WC h];rfl
theorem tT.at0{w:ae}{ad:Q02}{fs:Q04}(h:tT w ad fs){k:Nat}(hk:k<fs.length):∃b off,ad=some ⟨b,off,none⟩/\M7 w b (off+k*5) fs[k]/\b<w.heap.size:=by
 rcases h with h|⟨b',off',e,hb,hr⟩
 ·rw[h]at hk;simp at hk
 exact⟨b',off',e,hr k hk,hb⟩
theorem SV(g:Nat)(u:Al)(f:Fc)(w:ae)(hg:g<w.heap.size)(h0:w.cell? ⟨g,0,none⟩=some (.string u.t))(h1:w.cell? ⟨g,1,none⟩=some (.string u.s)):
  Calls prog 136 #[.agg #[.string f.a,.string f.b,.string f.r,.string f.c,.string f.d],.pointer (some ⟨g,0,none⟩)] w fun e w'=>e=.returned (.bool (SS u f))/\af w w':=by
 have HB:Hid (af w (w.alloc (.cells #[.string f.a,.string f.b,.string f.r,.string f.c,.string f.d] 43))):=(V5 _ _).alloc (V4 _) _;have heq:=jJ f.c f.d u.t u.s rfl;go_enter func136,ntmps136;go_wp2;go_ret;exact⟨rfl,HB.out⟩
theorem UV(xs:Array Value)(u:ae):(callFunc 136 xs).run prog u=.ok (.enter 136 xs) u:=by kernel_rfl
theorem Iw(FC:Nat)(rc cp:Array Value)(p:Fc->Bool)(ad:Q02)(cap:Nat)(xs:Q04)(w:ae)(hlen:xs.length<=1048576)(hs:tT w ad xs)
  (hrun:∀(ys:Array Value) (u:World),(callFunc FC ys).run prog u=.ok (.enter FC ys) u) (hp:∀x∈xs,∀w1:World,af w w1->Calls prog FC (rc.push (.agg #[.string x.a,.string x.b,.string x.r,.string x.c,.string x.d])++cp) w1 fun e w'=>e=.returned (.bool (p x))/\af w1 w') :
  Calls prog 184 #[.slice ad xs.length cap,.func (Fn.func FC) rc cp] w fun e w'=>(∃r:Int,e=.returned (.int .i64 r)/\decide (0<=r)=xs.any p)/\af w w':=by
 have HS:=ak hs;have HRUN:=ak hrun;have HP:=ak hp;clear hs hrun hp;have HD:Hid (∀k (h:k<xs.length),(xs.drop k).any p=(p xs[k] || (xs.drop (k+1)).any p)):=fun k h=>NZ p h;go_enter func184,ntmps184;go_wp2_with fail;go_loopw[8] (fun i wr=>∃k:Nat,k<=xs.length/\i=.int .i64 k/\Hid ((xs.drop k).any p=xs.any p)/\Hid (af w wr)) (fun i _=>xs.length-(intOf i).toNat);case atStart=>exact⟨0,Wd _,rfl,rfl,V5 _ _⟩
 obtain⟨k,hk,rfl,HQ,HB⟩:=hrel;by_cases hlt:k<xs.length
 ·obtain⟨b,off,Xx,⟨t0,t1,t2,t3,t4⟩,hbl⟩:=tT.at0 (HS.out.below HB.out) hlt;have HM:Hid (xs[k]∈xs):=VZ hlt;have hk1:=bC k;have hk2:(k:Int)<(xs.length:Int):=by omega
  have HD2:=ak (HD.out k hlt);subst Xx;go_wp2_with fail;rw[HRUN.out,Oper.upon_enter];refine(HP.out _ HM.out _ HB.out).mono ?_;rintro e w1 ⟨rfl,hb1⟩;have HB1:=kv HB hb1;clear hb1 t0 t1 t2 t3 t4;cases he:p xs[k];case true=>
   have HN:Hid (xs.any p=true):=by show _=_;rw[<-HQ.out,HD2.out,he];rfl
   go_wp2;go_ret;exact⟨⟨k,rfl,by rw[HN.out];simp⟩,HB1.out⟩
  have HQ2:Hid ((xs.drop (k+1)).any p=xs.any p):=by show _=_;rw[<-HQ.out,HD2.out,he];rfl
  go_wp2;go_roundw;case rel=>exact⟨k+1,by omega,by go_num,HQ2,HB1⟩
  simp[intOf]<;>omega
 have HN:Hid (xs.any p=false):=by show _=_;rw[<-HQ.out,Ww (by omega)];rfl
 go_wp2;go_ret;exact⟨⟨-1,rfl,by rw[HN.out];simp⟩,HB.out⟩
theorem Cc(FC:Nat)(rc cp:Array Value)(p:Fc->Bool)(ad:Q02)(cap:Nat)(xs:Q04)(w:ae)(hlen:xs.length<=1048576)(hs:tT w ad xs)
  (hrun:∀(ys:Array Value) (u:World),(callFunc FC ys).run prog u=.ok (.enter FC ys) u) (hp:∀x∈xs,∀w1:World,af w w1->Calls prog FC (rc.push (.agg #[.string x.a,.string x.b,.string x.r,.string x.c,.string x.d])++cp) w1 fun e w'=>e=.returned (.bool (p x))/\af w1 w') :
  Calls prog 135 #[.slice ad xs.length cap,.func (Fn.func FC) rc cp] w fun e w'=>e=.returned (.bool (xs.any p))/\af w w':=by
 have HC:=ak (Iw FC rc cp p ad cap xs w hlen hs hrun hp);clear hs hrun hp;go_enter func135,ntmps135;go_wp2_with fail;refine HC.out.mono ?_;rintro e w' ⟨⟨r,rfl,hr⟩,hbx⟩;have HR:=ak hr;clear hr;go_wp2;go_ret;exact⟨by rw[<-HR.out];rfl,hbx⟩
theorem KR{us:Q0a}{new:Q04}{k:Nat}(h:k<us.length):fo (us.take (k+1)) new=fo (us.take k) new++(if new.any (SS us[k]) then [us[k]] else []):=by
 unfold fo;rw[V8 h,Xn];congr 1;rw[Xm];rfl
theorem Ep(us:Q0a)(new:Q04):(fo us new).length<=us.length:=List.length_filter_le _ _
theorem rU(Yr:Q02)(XI:Nat)(us:Q0a)(adF:Q02)(YF:Nat)(new:Q04)(w:ae)(hul:us.length<=1000)(hnl:new.length<=1048576)(hu:lK w Yr us)(hf:tT w adF new):
  Calls prog 83 #[.slice Yr us.length XI,.slice adF new.length YF] w fun e w'=>(∃v,e=.returned v/\w'.ownsRow w.heap.size 27 2 v (fo us new).length (pairs (fo us new)))/\af w w':=by
 obtain⟨iO,h0,h1,h2,h3⟩:=Be;have HIO:=ax (And.intro h0 (And.intro h1 (And.intro h2 h3)));have HU:=ax hu;have HF:=ax hf;have Yz:Hid (w.ownsRow w.heap.size 27 2 (.slice none 0 0) (fo (us.take 0) new).length (pairs (fo (us.take 0) new))):=World.ownsRow_nil _ _ _ _;clear hu hf h0 h1 h2 h3;go_enter func83,ntmps83;go_wp2_with fail;go_loopw[5,10] (fun v i wr=>∃k:Nat,k<=us.length/\i=.int .i64 k/\Hid (wr.ownsRow w.heap.size 27 2 v (fo (us.take k) new).length (pairs (fo (us.take k) new)))/\Hid (af w wr)) (fun _ i _=>us.length-(intOf i).toNat);case atStart=>exact⟨0,Wd _,rfl,Yz,V5 _ _⟩
 clear Yz;obtain⟨k,hk,rfl,HO,HB⟩:=hrel;by_cases hlt:k<us.length
 ·obtain⟨b,off,Xx,⟨t0,t1⟩,hbl⟩:=lK.at0 (HU.out.below HB.out) hlt;have hi1:=bC k;have hi2:(k:Int)<(us.length:Int):=by omega
  have Zx:=ax (KR (new:=new) hlt);have hkl:=Ep (us.take k) new;rw[WK]at hkl;obtain⟨u,hu⟩:∃u,u=us[k]:=⟨_,rfl⟩;rw[<-hu]at t0 t1 Zx;clear hu;obtain⟨W1,hW1⟩:∃W1,W1=wr.alloc (.cells #[.string u.t,.string u.s] 27):=⟨_,rfl⟩;have Yj:=nC hW1;have HB1:=ax (HB.out.trans (Yj.out.mono HB.out.size));have d0:W1.cell? ⟨wr.heap.size,0,none⟩=some (.string u.t):=by rw[hW1];simp
  have d1:W1.cell? ⟨wr.heap.size,1,none⟩=some (.string u.s):=by rw[hW1];simp
  have dl:wr.heap.size<W1.heap.size:=aL d0;have XD:=ax (aH HO.out Yj.out);obtain⟨ys,hys⟩:∃ys,ys=fo (us.take k) new:=⟨_,rfl⟩;rw[<-hys]at XD Zx hkl;obtain⟨adV,YY,rfl,-⟩:=mU XD.out;have Yh:=ax (Cc 136 #[] #[.pointer (some ⟨wr.heap.size,0,none⟩)] (SS u) adF YF new W1 hnl (HF.out.below HB1.out) UV (fun x hx w1 hb=>SV wr.heap.size u x w1 (VY dl hb.size) (aU hb dl d0) (aU hb dl d1)));subst Xx;clear hys HO;go_wp2_with fail;rw[<-hW1];clear hW1 t0 t1;refine Yh.out.mono ?_;rintro e w2 ⟨rfl,hb2⟩;have HB2:=ax (HB1.out.trans (hb2.mono HB1.out.size));have Xv:=ax (aH XD.out hb2);replace d0:=aU hb2 dl d0;replace d1:=aU hb2 dl d1;replace dl:=VY dl hb2.size;clear hb2 Yh XD Yj;cases hh:new.any (SS u);case false=>
   have HR:Hid (w2.ownsRow w.heap.size 27 2 (.slice adV ys.length YY) (fo (us.take (k+1)) new).length (pairs (fo (us.take (k+1)) new))):=by
    show World.ownsRow _ _ _ _ _ _ _;rw[Zx.out,hh];simp only[Bool.false_eq_true,if_false,WS];exact Xv.out
   go_wp2;go_roundw;case rel=>exact⟨k+1,by omega,by go_num,HR,HB2⟩
   simp[intOf]<;>omega
  have HWE:Hid (fo (us.take (k+1)) new=ys++[u]):=by show _=_;rw[Zx.out,hh];rfl
  obtain⟨W4,Yg⟩:∃W4,W4=w2.alloc (.cells #[.string u.t,.string u.s] 27):=⟨_,rfl⟩;have XE:Hid (W4.ownsRow w.heap.size 27 2 (.slice adV ys.length YY) ys.length (pairs ys)):=by show World.ownsRow _ _ _ _ _ _ _;rw[Yg];exact Xv.out.alloc _
  have HN4:Hid (∀j x,[Value.string u.t,.string u.s][j]?=some x->W4.cell? ((⟨w2.heap.size,0,none⟩:Addr).add j)=some x):=by rw[Yg];exact TL w2 u
  have YA:Hid (af w W4):=by show Below _ _ _;rw[Yg];exact HB2.out.alloc HB2.out.size _
  have hsz4:w.heap.size<=W4.heap.size:=YA.out.size;clear hh;go_wp2_with(at_builtin;rw[<-Yg];clear Yg;refine wpList_append_own_at _ rfl _ _ 124 rfl w.heap.size 27 iO (.agg #[.string ⟨#[]⟩,.string ⟨#[]⟩]) 2 32 underlying124 HIO.out.1 HIO.out.2.1 HIO.out.2.2.1 HIO.out.2.2.2 rfl (by decide) _ ys.length (pairs ys) rfl XE.out ⟨w2.heap.size,0,none⟩ 1 1 [.string u.t,.string u.s] rfl rfl HN4.out (by simp[Value.oneCell']) (by unfold maxLen;omega) (by omega) hsz4 ?_);intro v' w5 hown hgr _ _;have HR:Hid (w5.ownsRow w.heap.size 27 2 v' (fo (us.take (k+1)) new).length (pairs (fo (us.take (k+1)) new))):=by
   show World.ownsRow _ _ _ _ _ _ _;rw[HWE.out,Wi];have:pairs (ys++[u])=pairs ys++[.string u.t,.string u.s]:=by simp[pairs]
   rw[this];exact hown
  have ZV:Hid (af w w5):=YA.out.grown hgr YA.out.size (fun g hg=>(XE.out.lt g hg).1);clear hown hgr d0 d1 dl;go_wp2;go_roundw;case rel=>exact⟨k+1,by omega,by go_num,HR,ZV⟩
  simp[intOf]<;>omega
 have HE:Hid (wr.ownsRow w.heap.size 27 2 u5 (fo us new).length (pairs (fo us new))):=by
  have h:=HO.out;rw[WL (by omega)]at h;exact h
 clear HO;go_wp2;go_ret;exact⟨⟨_,rfl,HE.out⟩,HB.out⟩
end Go.Proofs.YtcgdckphpjfmhaaGreatDoor
