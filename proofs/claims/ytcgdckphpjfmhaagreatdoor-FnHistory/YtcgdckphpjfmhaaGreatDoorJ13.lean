/- errors.Is, at an error that is nil, a sentinel, or a refusal that holds a sentinel: Go's own text is walked. -/
import Derived.Test.YtcgdckphpjfmhaaGreatDoorSq
import Derived.Test.YtcgdckphpjfmhaaGreatDoorJ12
import Derived.LaidEql
import Derived.Stop.Asserts
import Derived.RowKitTokens
open Go.Proofs.Tryz
set_option maxHeartbeats 80000000
namespace Go.Proofs.YtcgdckphpjfmhaaGreatDoor
set_option maxRecDepth 100000
set_option linter.unusedVariables false
open RowKit Go.Extern.Stop Go.Stop Go.Extern
theorem Pv(v:Value)(w:ae):(ReflectliteType.typeOf #[.iface 350 v]).run prog w=.ok (.iface 204 (.agg #[.pointer (some ⟨8,350,none⟩)])) w:=by kernel_rfl
theorem Pw:∃g,find Tryz.f278=some g/\∀w:World,(g #[.agg #[.pointer (some ⟨8,350,none⟩)]]).run prog w=.ok (.bool true) w :=
 ⟨(find Tryz.f278).get (by kernel_rfl),(Option.some_get _).symm,fun w=>by kernel_rfl⟩
theorem Px (v : Value) (w : World) : (Go.method 481 204 v "Comparable").run Tryz.prog w = .ok (278, v) w := by kernel_rfl
theorem TT:(prog.info? 350).map (·.comparable)=some true:=by kernel_rfl
theorem Py:(prog.info? 369).map (·.size)=some 1:=by kernel_rfl
theorem TU(v:Value)(x:TypeId)(w:ae):(Instr.typeAssert (.iface 350 v) x 267 true).run prog w=.ok (.tuple #[.nilIface,.bool false]) w:=run_typeAssert_lacksB underlying267 (by kernel_rfl) (by kernel_rfl) v x w
theorem Pz(v:Value)(x:TypeId)(w:ae):(Instr.typeAssert (.iface 350 v) x 212 true).run prog w=.ok (.tuple #[.nilIface,.bool false]) w:=run_typeAssert_lacksB underlying212 (by kernel_rfl) (by kernel_rfl) v x w
theorem PD(v:Value)(x:TypeId)(w:ae):(Instr.typeAssert (.iface 350 v) x 214 true).run prog w=.ok (.tuple #[.nilIface,.bool false]) w:=run_typeAssert_lacksB underlying214 (by kernel_rfl) (by kernel_rfl) v x w
theorem TV(v:Value)(x:TypeId)(w:ae):(Instr.typeAssert (.iface 76 v) x 267 true).run prog w=.ok (.tuple #[.nilIface,.bool false]) w:=run_typeAssert_lacksB underlying267 (by kernel_rfl) (by kernel_rfl) v x w
theorem TW(v:Value)(x:TypeId)(w:ae):(Instr.typeAssert (.iface 76 v) x 212 true).run prog w=.ok (.tuple #[.iface 76 v,.bool true]) w:=run_typeAssert_hasB underlying212 (by kernel_rfl) v x w
theorem PE (v : Value) (w : World) : (Go.method 481 76 v "Unwrap").run Tryz.prog w = .ok (272, v) w := by kernel_rfl
theorem wZ(b:Addr)(w:ae):Calls prog 77 #[.nilIface,.iface 350 (.pointer (some b))] w fun e w'=>e=.returned (.bool false)/\w'=w:=by
 have hn:=run_eql_iface_nil_left (P:=prog) w 350 (.pointer (some b)) underlying73;go_enter func77,ntmps77;go_wp2;go_ret;exact⟨rfl,rfl⟩
theorem RH(b:Addr)(w:ae):Calls prog 77 #[.iface 350 (.pointer (some b)),.iface 350 (.pointer (some b))] w fun e w'=>e=.returned (.bool true)/\w'=w:=by
 obtain⟨i,hi,hcmp⟩:=Option.map_eq_some_iff.1 TT;obtain⟨j,hj,hjs⟩:=Option.map_eq_some_iff.1 Py;have x1:=@run_callFunc_extern prog 120 _ ReflectliteType.typeOf func120 (by kernel_rfl) (by kernel_rfl) (by kernel_rfl) (by kernel_rfl);obtain⟨gC,hgC,x4⟩:=Pw;have x2:=@run_callFunc_extern prog 278 _ gC func278 (by kernel_rfl) (by kernel_rfl) (by kernel_rfl) hgC;have x3:=Pv;have x5:=Px;have x6:=TU;have x7:=Pz;have x8:=PD;have x9:=TV;have x10:=TW;have x11:=PE;have heq:=run_eql_iface_ptr_same (P:=prog) w b underlying73 underlying350 hi hcmp hj;go_enter func77,ntmps77;go_wp2;refine wp_loop_rounds 1 ?_;rw[rounds_succ];go_wp2;go_ret;exact⟨rfl,rfl⟩
theorem kH(p:Nat)(b:Addr)(w:ae)(h1:w.cell? ⟨p,0,none⟩=some (.iface 350 (.pointer (some b)))):Calls prog 77 #[.iface 76 (.pointer (some ⟨p,0,none⟩)),.iface 350 (.pointer (some b))] w fun e w'=>e=.returned (.bool true)/\w'=w:=by
 obtain⟨i,hi,hcmp⟩:=Option.map_eq_some_iff.1 TT;obtain⟨j,hj,hjs⟩:=Option.map_eq_some_iff.1 Py;have x1:=@run_callFunc_extern prog 120 _ ReflectliteType.typeOf func120 (by kernel_rfl) (by kernel_rfl) (by kernel_rfl) (by kernel_rfl);obtain⟨gC,hgC,x4⟩:=Pw;have x2:=@run_callFunc_extern prog 278 _ gC func278 (by kernel_rfl) (by kernel_rfl) (by kernel_rfl) hgC;have x3:=Pv;have x5:=Px;have x6:=TU;have x7:=Pz;have x8:=PD;have x9:=TV;have x10:=TW;have x11:=PE;have heq:=run_eql_iface_ptr_same (P:=prog) w b underlying73 underlying350 hi hcmp hj;have hty:=run_eql_iface_types (P:=prog) 76 350 (.pointer (some ⟨p,0,none⟩)) (.pointer (some b)) underlying73 (by decide) w;go_enter func77,ntmps77;go_wp2;refine wp_loop_rounds 2 ?_;rw[rounds_succ];go_wp2;rw[rounds_succ];go_wp2;go_ret;exact⟨rfl,rfl⟩
theorem bf(p:Nat)(a b:Addr)(ca cb:Array Value)(ta tb:TypeId)(w:ae)(h1:w.cell? ⟨p,0,none⟩=some (.iface 350 (.pointer (some a))))(hne:a≠b)(ha:w.heap[a.block]?=some (.cells ca ta (0,0)))(hb:w.heap[b.block]?=some (.cells cb tb (0,0))):Calls prog 77 #[.iface 76 (.pointer (some ⟨p,0,none⟩)),.iface 350 (.pointer (some b))] w fun e w'=>e=.returned (.bool false)/\w'=w:=by
 obtain⟨i,hi,hcmp⟩:=Option.map_eq_some_iff.1 TT;obtain⟨j,hj,hjs⟩:=Option.map_eq_some_iff.1 Py;have x1:=@run_callFunc_extern prog 120 _ ReflectliteType.typeOf func120 (by kernel_rfl) (by kernel_rfl) (by kernel_rfl) (by kernel_rfl);obtain⟨gC,hgC,x4⟩:=Pw;have x2:=@run_callFunc_extern prog 278 _ gC func278 (by kernel_rfl) (by kernel_rfl) (by kernel_rfl) hgC;have x3:=Pv;have x5:=Px;have x6:=TU;have x7:=Pz;have x8:=PD;have x9:=TV;have x10:=TW;have x11:=PE;have heq:=run_eql_iface_ptr_other (P:=prog) w underlying73 underlying350 hi hcmp hj (by rw[hjs];decide) hne ha hb;have hty:=run_eql_iface_types (P:=prog) 76 350 (.pointer (some ⟨p,0,none⟩)) (.pointer (some b)) underlying73 (by decide) w;go_enter func77,ntmps77;go_wp2;refine wp_loop_rounds 2 ?_;rw[rounds_succ];go_wp2;rw[rounds_succ];go_wp2;go_ret;exact⟨rfl,rfl⟩
theorem TY(t:Value)(w:ae):Calls prog 39 #[.nilIface,t] w fun e w'=>e=.returned (.bool false)/\w'=w:=by
 go_enter func39,ntmps39;go_wp2;go_ret;exact⟨rfl,rfl⟩
theorem Vv:∃g,find Tryz.f73=some g/\(∀(t:Addr) (w:ae),(g #[.iface 78 (.pointer (some t))]).run prog w=.ok (.agg #[.pointer (some ⟨8,78,none⟩),.pointer (some ⟨w.heap.size,0,none⟩),.int .u64 150]) (w.alloc (.cells #[.pointer (some t)] 78)))/\∀(e:Addr) (w:ae),(g #[.iface 76 (.pointer (some e))]).run prog w=.ok (.agg #[.pointer (some ⟨8,76,none⟩),.pointer (some ⟨w.heap.size,0,none⟩),.int .u64 150]) (w.alloc (.cells #[.pointer (some e)] 76)) :=
 ⟨(find Tryz.f73).get (by kernel_rfl),(Option.some_get _).symm,fun t w=>by kernel_rfl,fun e w=>by kernel_rfl⟩
theorem U1:∃g,find Tryz.f74=some g/\∀(a:Addr) (w:ae),(g #[.agg #[.pointer (some ⟨8,78,none⟩),.pointer (some a),.int .u64 150]]).run prog w=.ok (.iface 204 (.agg #[.pointer (some ⟨8,78,none⟩)])) w :=
 ⟨(find Tryz.f74).get (by kernel_rfl),(Option.some_get _).symm,fun a w=>by kernel_rfl⟩
theorem S9 (h : Value) (w : World) : (Go.method 481 204 (.agg #[h]) "Kind").run Tryz.prog w = .ok (268, h) w := by kernel_rfl
theorem Ta (h : Value) (w : World) : (Go.method 481 204 (.agg #[h]) "Elem").run Tryz.prog w = .ok (279, .agg #[h]) w := by kernel_rfl
theorem Tc (h : Value) (w : World) : (Go.method 481 204 (.agg #[h]) "Implements").run Tryz.prog w = .ok (280, .agg #[h]) w := by kernel_rfl
theorem Td (h : Value) (w : World) : (Go.method 481 204 (.agg #[h]) "AssignableTo").run Tryz.prog w = .ok (277, .agg #[h]) w := by kernel_rfl
theorem Te:∃g,find Tryz.f268=some g/\(∀w:World,(g #[.pointer (some ⟨8,78,none⟩)]).run prog w=.ok (.int .u8 22) w)/\∀w:World,(g #[.pointer (some ⟨8,76,none⟩)]).run prog w=.ok (.int .u8 22) w :=
 ⟨(find Tryz.f268).get (by kernel_rfl),(Option.some_get _).symm,fun w=>by kernel_rfl,fun w=>by kernel_rfl⟩
theorem Tf:∃g,find Tryz.f279=some g/\∀w:World,(g #[.agg #[.pointer (some ⟨8,78,none⟩)]]).run prog w=.ok (.iface 204 (.agg #[.pointer (some ⟨8,76,none⟩)])) w :=
 ⟨(find Tryz.f279).get (by kernel_rfl),(Option.some_get _).symm,fun w=>by kernel_rfl⟩
theorem Tg:∃g,find Tryz.f280=some g/\∀w:World,(g #[.agg #[.pointer (some ⟨8,76,none⟩)],.iface 204 (.agg #[.pointer (some ⟨8,73,none⟩)])]).run prog w=.ok (.bool true) w :=
 ⟨(find Tryz.f280).get (by kernel_rfl),(Option.some_get _).symm,fun w=>by kernel_rfl⟩
theorem Ti:∃g,find Tryz.f277=some g/\(∀w:World,(g #[.agg #[.pointer (some ⟨8,76,none⟩)],.iface 204 (.agg #[.pointer (some ⟨8,76,none⟩)])]).run prog w=.ok (.bool true) w)/\∀w:World,(g #[.agg #[.pointer (some ⟨8,350,none⟩)],.iface 204 (.agg #[.pointer (some ⟨8,76,none⟩)])]).run prog w=.ok (.bool false) w :=
 ⟨(find Tryz.f277).get (by kernel_rfl),(Option.some_get _).symm,fun w=>by kernel_rfl,fun w=>by kernel_rfl⟩
theorem U2(v:Value)(w:ae):(ReflectliteType.typeOf #[.iface 76 v]).run prog w=.ok (.iface 204 (.agg #[.pointer (some ⟨8,76,none⟩)])) w:=by kernel_rfl
theorem U3(v:Value)(x:TypeId)(w:ae):(Instr.typeAssert (.iface 350 v) x 209 true).run prog w=.ok (.tuple #[.nilIface,.bool false]) w:=run_typeAssert_lacksB underlying209 (by kernel_rfl) (by kernel_rfl) v x w
theorem PG(a:Addr)(w:ae):(ReflectliteValue.parts (.agg #[.pointer (some ⟨8,78,none⟩),.pointer (some a),.int .u64 150])).run prog w=.ok (some (78,a,150)) w:=by kernel_rfl
theorem TZ(a:Addr)(w:ae):(ReflectliteValue.parts (.agg #[.pointer (some ⟨8,76,none⟩),.pointer (some a),.int .u64 150])).run prog w=.ok (some (76,a,150)) w:=by kernel_rfl
theorem T9(a:Addr)(w:ae):(ReflectliteValue.parts (.agg #[.pointer (some ⟨8,76,none⟩),.pointer (some a),.int .u64 406])).run prog w=.ok (some (76,a,406)) w:=by kernel_rfl
theorem U4(w:ae):(Rtype.elem? 78).run prog w=.ok (some 76) w:=by kernel_rfl
theorem Vw(p:Addr)(w:ae):(ReflectliteValue.mk 76 p ReflectliteValue.flagAddr).run prog w=.ok (.agg #[.pointer (some ⟨8,76,none⟩),.pointer (some p),.int .u64 406]) w:=by kernel_rfl
theorem Vt(w:ae):(Rtype.directlyAssignable 76 76).run prog w=.ok true w:=by kernel_rfl
theorem PH (a p : Addr) (W : World) (ha : W.cell? a = some (.pointer (some p))) : (ReflectliteValue.method (ReflectliteValue.valueError "reflectlite.Value.IsNil" 0) ReflectliteValue.isNil #[.agg #[.pointer (some ⟨8, 78, none⟩), .pointer (some a), .int .u64 150]]).run Tryz.prog W = .ok (.bool false) W := by
 change Sem.run prog (ReflectliteValue.parts (.agg #[.pointer (some ⟨8,78,none⟩),.pointer (some a),.int .u64 150]) >>= _) W=_
 rw[Sem.run_bind,PG,Result.andThen_ok];simp[ ReflectliteValue.isNil,loadVar,isAgg,underlying,underlying78,ha,Result.andThen]
theorem Ua (a p : Addr) (W : World) (ha : W.cell? a = some (.pointer (some p))) : (ReflectliteValue.method (ReflectliteValue.valueError "reflectlite.Value.Elem" 0) ReflectliteValue.elem #[.agg #[.pointer (some ⟨8, 78, none⟩), .pointer (some a), .int .u64 150]]).run Tryz.prog W = .ok (.agg #[.pointer (some ⟨8, 76, none⟩), .pointer (some p), .int .u64 406]) W := by
 change Sem.run prog (ReflectliteValue.parts (.agg #[.pointer (some ⟨8,78,none⟩),.pointer (some a),.int .u64 150]) >>= _) W=_
 rw[Sem.run_bind,PG,Result.andThen_ok];simp[ ReflectliteValue.elem,loadVar,isAgg,underlying,underlying78,ha,Result.andThen,U4,Vw]
theorem Vu(ta b e:Addr)(old:Value)(W:ae)(hb:W.cell? b=some (.pointer (some e)))(ht:W.cell? ta=some old)(hf:W.frozen? ta=false):
  (ReflectliteValue.set #[.agg #[.pointer (some ⟨8,76,none⟩),.pointer (some ta),.int .u64 406],.agg #[.pointer (some ⟨8,76,none⟩),.pointer (some b),.int .u64 150]]).run prog W=.ok (.tuple #[]) (W.setCell ta (.pointer (some e))):=by
 change Sem.run prog (ReflectliteValue.parts (.agg #[.pointer (some ⟨8,76,none⟩),.pointer (some ta),.int .u64 406]) >>= fun x=>ReflectliteValue.parts (.agg #[.pointer (some ⟨8,76,none⟩),.pointer (some b),.int .u64 150]) >>= _) W=_
 rw[Sem.run_bind,T9,Result.andThen_ok,Sem.run_bind,TZ,Result.andThen_ok];simp[ ReflectliteValue.flagAddr,loadVar,isAgg,underlying,underlying76,hb,Result.andThen,Vt,storeVar,Value.cells,storeCells,Addr.add];rw[run_store prog W ta _ _ (by rfl)];simp[ht,hf]
theorem Ub(e t:Addr)(old:Value)(w:ae)(hg:w.cell? ⟨1,0,none⟩=some (.iface 204 (.agg #[.pointer (some ⟨8,73,none⟩)])))(ht0:w.cell? t=some old)(hf0:w.frozen? t=false):
  Calls prog 39 #[.iface 76 (.pointer (some e)),.iface 78 (.pointer (some t))] w fun ev w'=>ev=.returned (.bool true)/\∃W1,af w W1/\w'=W1.setCell t (.pointer (some e)):=by
 obtain ⟨gV,hgV,v1,v2⟩:=Vv;obtain ⟨gT,hgT,v3⟩:=U1;obtain ⟨gK,hgK,v4,v5⟩:=Te;obtain ⟨gE,hgE,v6⟩:=Tf;obtain ⟨gI,hgI,v7⟩:=Tg;obtain ⟨gA,hgA,v8,v9⟩:=Ti;have y1:=@run_callFunc_extern prog 73 _ gV func73 (by kernel_rfl) (by kernel_rfl) (by kernel_rfl) hgV;have y2:=@run_callFunc_extern prog 74 _ gT func74 (by kernel_rfl) (by kernel_rfl) (by kernel_rfl) hgT;have y3:=@run_callFunc_extern prog 268 _ gK func268 (by kernel_rfl) (by kernel_rfl) (by kernel_rfl) hgK;have y4:=@run_callFunc_extern prog 279 _ gE func279 (by kernel_rfl) (by kernel_rfl) (by kernel_rfl) hgE;have y5:=@run_callFunc_extern prog 280 _ gI func280 (by kernel_rfl) (by kernel_rfl) (by kernel_rfl) hgI;have y6:=@run_callFunc_extern prog 277 _ gA func277 (by kernel_rfl) (by kernel_rfl) (by kernel_rfl) hgA;have y7 := @run_callFunc_extern Tryz.prog 75 _ (ReflectliteValue.method (ReflectliteValue.valueError "reflectlite.Value.IsNil" 0) ReflectliteValue.isNil) Tryz.func75 (by kernel_rfl) (by kernel_rfl) (by kernel_rfl) (by kernel_rfl);have y8:=@run_callFunc_extern prog 120 _ ReflectliteType.typeOf func120 (by kernel_rfl) (by kernel_rfl) (by kernel_rfl) (by kernel_rfl);have y9 := @run_callFunc_extern Tryz.prog 121 _ (ReflectliteValue.method (ReflectliteValue.valueError "reflectlite.Value.Elem" 0) ReflectliteValue.elem) Tryz.func121 (by kernel_rfl) (by kernel_rfl) (by kernel_rfl) (by kernel_rfl);have y10:=@run_callFunc_extern prog 122 _ ReflectliteValue.set func122 (by kernel_rfl) (by kernel_rfl) (by kernel_rfl) (by kernel_rfl);have z1:=S9;have z2:=Ta;have z3:=Tc;have z4:=Td;have z5:=U2;have z6:=Pv;have z7:=U3;have z8:=Pz;have z9:=PD;have hlt:1 < w.heap.size:=World.block_lt_of_cell? w ⟨1,0,none⟩ hg;have n8:=PH ⟨w.heap.size,0,none⟩ t ((w.alloc (.cells #[.pointer (some t)] 78)).alloc (.cells #[.pointer (some ⟨8,78,none⟩),.pointer (some ⟨w.heap.size,0,none⟩),.int .u64 150] 130)) (by simp);have hg2:((w.alloc (.cells #[.pointer (some t)] 78)).alloc (.cells #[.pointer (some ⟨8,78,none⟩),.pointer (some ⟨w.heap.size,0,none⟩),.int .u64 150] 130)).cell? ⟨1,0,none⟩=some (.iface 204 (.agg #[.pointer (some ⟨8,73,none⟩)])):=by
  rw[World.cell?_alloc_lt _ _ ⟨1,0,none⟩ (by simp;omega),World.cell?_alloc_lt _ _ ⟨1,0,none⟩ hlt];exact hg
 have htl:t.block<w.heap.size:=World.block_lt_of_cell? w t ht0;have el:=Ua ⟨w.heap.size,0,none⟩ t (((w.alloc (.cells #[.pointer (some t)] 78)).alloc (.cells #[.pointer (some ⟨8,78,none⟩),.pointer (some ⟨w.heap.size,0,none⟩),.int .u64 150] 130)).alloc (.cells #[.pointer (some ⟨8,78,none⟩),.pointer (some ⟨w.heap.size,0,none⟩),.int .u64 150] 130)) (by rw[World.cell?_alloc_lt _ _ ⟨w.heap.size,0,none⟩ (by simp;omega)];simp)
 have st:=Vu t ⟨w.heap.size+1+1+1,0,none⟩ e old ((((w.alloc (.cells #[.pointer (some t)] 78)).alloc (.cells #[.pointer (some ⟨8,78,none⟩),.pointer (some ⟨w.heap.size,0,none⟩),.int .u64 150] 130)).alloc (.cells #[.pointer (some ⟨8,78,none⟩),.pointer (some ⟨w.heap.size,0,none⟩),.int .u64 150] 130)).alloc (.cells #[.pointer (some e)] 76))
  (by rw[World.cell?_alloc_at _ _ _ _ (by simp)];rfl)
  (by rw[World.cell?_alloc_lt _ _ t (by simp;omega),World.cell?_alloc_lt _ _ t (by simp;omega),World.cell?_alloc_lt _ _ t (by simp;omega),World.cell?_alloc_lt _ _ t htl];exact ht0)
  (by rw[World.frozen?_alloc_old _ _ t (by simp;omega),World.frozen?_alloc_old _ _ t (by simp;omega),World.frozen?_alloc_old _ _ t (by simp;omega),World.frozen?_alloc_old _ _ t (Nat.ne_of_lt htl)];exact hf0)
 go_enter func39,ntmps39;go_wp2;refine wp_loop_rounds 1 ?_;rw[rounds_succ];go_wp2;go_ret;exact⟨rfl,((((w.alloc (.cells #[.pointer (some t)] 78)).alloc (.cells #[.pointer (some ⟨8,78,none⟩),.pointer (some ⟨w.heap.size,0,none⟩),.int .u64 150] 130)).alloc (.cells #[.pointer (some ⟨8,78,none⟩),.pointer (some ⟨w.heap.size,0,none⟩),.int .u64 150] 130)).alloc (.cells #[.pointer (some e)] 76)),by
  repeat(first|exact VD _ _|refine Below.alloc ?_ (by first|(simp;done)|(simp;omega)) _),rfl⟩
theorem RI(e t:Addr)(w:ae)(hg:w.cell? ⟨1,0,none⟩=some (.iface 204 (.agg #[.pointer (some ⟨8,73,none⟩)]))):
  Calls prog 39 #[.iface 350 (.pointer (some e)),.iface 78 (.pointer (some t))] w fun ev w'=>ev=.returned (.bool false)/\af w w':=by
 obtain ⟨gV,hgV,v1,v2⟩:=Vv;obtain ⟨gT,hgT,v3⟩:=U1;obtain ⟨gK,hgK,v4,v5⟩:=Te;obtain ⟨gE,hgE,v6⟩:=Tf;obtain ⟨gI,hgI,v7⟩:=Tg;obtain ⟨gA,hgA,v8,v9⟩:=Ti;have y1:=@run_callFunc_extern prog 73 _ gV func73 (by kernel_rfl) (by kernel_rfl) (by kernel_rfl) hgV;have y2:=@run_callFunc_extern prog 74 _ gT func74 (by kernel_rfl) (by kernel_rfl) (by kernel_rfl) hgT;have y3:=@run_callFunc_extern prog 268 _ gK func268 (by kernel_rfl) (by kernel_rfl) (by kernel_rfl) hgK;have y4:=@run_callFunc_extern prog 279 _ gE func279 (by kernel_rfl) (by kernel_rfl) (by kernel_rfl) hgE;have y5:=@run_callFunc_extern prog 280 _ gI func280 (by kernel_rfl) (by kernel_rfl) (by kernel_rfl) hgI;have y6:=@run_callFunc_extern prog 277 _ gA func277 (by kernel_rfl) (by kernel_rfl) (by kernel_rfl) hgA;have y7 := @run_callFunc_extern Tryz.prog 75 _ (ReflectliteValue.method (ReflectliteValue.valueError "reflectlite.Value.IsNil" 0) ReflectliteValue.isNil) Tryz.func75 (by kernel_rfl) (by kernel_rfl) (by kernel_rfl) (by kernel_rfl);have y8:=@run_callFunc_extern prog 120 _ ReflectliteType.typeOf func120 (by kernel_rfl) (by kernel_rfl) (by kernel_rfl) (by kernel_rfl);have y9 := @run_callFunc_extern Tryz.prog 121 _ (ReflectliteValue.method (ReflectliteValue.valueError "reflectlite.Value.Elem" 0) ReflectliteValue.elem) Tryz.func121 (by kernel_rfl) (by kernel_rfl) (by kernel_rfl) (by kernel_rfl);have y10:=@run_callFunc_extern prog 122 _ ReflectliteValue.set func122 (by kernel_rfl) (by kernel_rfl) (by kernel_rfl) (by kernel_rfl);have z1:=S9;have z2:=Ta;have z3:=Tc;have z4:=Td;have z5:=U2;have z6:=Pv;have z7:=U3;have z8:=Pz;have z9:=PD;have hlt:1 < w.heap.size:=World.block_lt_of_cell? w ⟨1,0,none⟩ hg;have n8:=PH ⟨w.heap.size,0,none⟩ t ((w.alloc (.cells #[.pointer (some t)] 78)).alloc (.cells #[.pointer (some ⟨8,78,none⟩),.pointer (some ⟨w.heap.size,0,none⟩),.int .u64 150] 130)) (by simp);have hg2:((w.alloc (.cells #[.pointer (some t)] 78)).alloc (.cells #[.pointer (some ⟨8,78,none⟩),.pointer (some ⟨w.heap.size,0,none⟩),.int .u64 150] 130)).cell? ⟨1,0,none⟩=some (.iface 204 (.agg #[.pointer (some ⟨8,73,none⟩)])):=by
  rw[World.cell?_alloc_lt _ _ ⟨1,0,none⟩ (by simp;omega),World.cell?_alloc_lt _ _ ⟨1,0,none⟩ hlt];exact hg
 go_enter func39,ntmps39;go_wp2;refine wp_loop_rounds 1 ?_;rw[rounds_succ];go_wp2;go_ret;exact⟨rfl,by
  repeat(first|exact VD _ _|refine Below.alloc ?_ (by first|(simp;done)|(simp;omega)) _)⟩
open ChangeAt ChangeShapes WideShapes Pl
def Sv(w:World)(ad:Q02)(cap:Nat)(ts:Q05):Prop:=(ad=none/\cap=0/\ts=[]) \/ ∃b off,ad=some ⟨b,off,none⟩/\b<w.heap.size/\ts.length<=cap/\dE w b off ts
theorem Sv.sl{w:ae}{ad:Q02}{cap:Nat}{ts:Q05}(h:Sv w ad cap ts):Sl w ad ts:=by
 rcases h with⟨_,_,h⟩|⟨b,off,e,hl,_,hr⟩
 ·exact .inl h
 exact .inr ⟨b,off,e,hl,hr⟩
theorem Sv.below{w w':ae}{ad:Q02}{cap:Nat}{ts:Q05}(h:Sv w ad cap ts)(hb:af w w'):Sv w' ad cap ts:=by
 rcases h with h|⟨b,off,e,hl,hc,hr⟩
 ·exact .inl h
 exact .inr ⟨b,off,e,Vy hl hb.size,hc,hr.below hb hl⟩
def Tj(w:World)(fit:Tp->Bool)(ts:Q05)(k:Int)(t:Tp)(e:Ending)(w':World):Prop :=
  af w w' /\
  ((aQ fit ts k t=0/\∃ v,e=.returned (.tuple #[v,.nilIface])/\w'.ownsRow w.heap.size 29 6 v (bn ts k t).length (aF (bn ts k t))) \/
   (aQ fit ts k t≠0/\∃(g:Nat) (T:TypeId) (u v:Value),e=.returned (.tuple #[.slice none 0 0,.iface 76 (.pointer (some ⟨g,0,none⟩))])/\w.heap.size<=g/\w'.cell? ⟨g,0,none⟩=some (.iface T u)/\w.cell? ⟨(aQ fit ts k t).toNat,0,none⟩=some (.iface T u)/\w'.cell? ⟨g,1,none⟩=some v/\w'.ownsRow w.heap.size 29 6 v ts.length (aF ts)))
def V6(L:Value)(n:Nat)(s1 s2:Value)(p1 p2:Pt)(B:Nat)(N:Q05):Nat->Value->World->Prop
 | 0,v,_=>v=L
 | 1,v,_=>v=.int .i64 n
 | 2,v,_=>v=s1
 | 3,v,_=>v=L
 | 4,v,_=>v=.int .i64 n
 | 5,v,_=>v=.int .i64 ((n:Int)+1)
 | 6,v,_=>v=s2
 | 7,v,w=>∃g,v=.slice (some ⟨g,0,none⟩) 2 2/\PtsAt w g [p1,p2]
 | 8,v,w=>w.ownsRow B 29 6 v N.length (aF N)
 | 9,v,w=>w.ownsRow B 29 6 v N.length (aF N)
 | _,v,_=>v=.nilIface
theorem V6.below{L:Value}{n:Nat}{s1 s2:Value}{p1 p2:Pt}{B:Nat}{N:Q05}{w w':ae}(hb:af w w'):∀{k:Nat} {u:Value},V6 L n s1 s2 p1 p2 B N k u w->V6 L n s1 s2 p1 p2 B N k u w'
 | 0,_,h=>h
 | 1,_,h=>h
 | 2,_,h=>h
 | 3,_,h=>h
 | 4,_,h=>h
 | 5,_,h=>h
 | 6,_,h=>h
 | 7,_,⟨g,e,h⟩=>⟨g,e,h.below hb⟩
 | 8,_,h=>aJ h hb
 | 9,_,h=>aJ h hb
 | _+10,_,h=>h
def V7(L:Value)(n:Nat)(s1 P1 s3:Value)(p1 p3:Pt)(B:Nat)(t:Tp)(N:Q05):Nat->Value->World->Prop
 | 0,v,_=>v=L
 | 1,v,_=>v=.int .i64 n
 | 2,v,_=>v=s1
 | 3,v,_=>v=P1
 | 4,v,_=>v=.agg #[.string t.a,.string t.b,.string t.r,.string t.c,.string t.d,.string t.s]
 | 5,v,w=>∃g,v=.slice (some ⟨g,0,none⟩) 1 1/\g<w.heap.size/\dE w g 0 [t]
 | 6,v,_=>v=L
 | 7,v,_=>v=.int .i64 n
 | 8,v,_=>v=s3
 | 9,v,w=>∃g gt,v=.slice (some ⟨g,0,none⟩) 3 3/\PtsAt w g [p1,⟨some ⟨gt,0,none⟩,1,[t]⟩,p3]
 | 10,v,w=>w.ownsRow B 29 6 v N.length (aF N)
 | 11,v,w=>w.ownsRow B 29 6 v N.length (aF N)
 | _,v,_=>v=.nilIface
theorem V7.below{L:Value}{n:Nat}{s1 P1 s3:Value}{p1 p3:Pt}{B:Nat}{t:Tp}{N:Q05}{w w':ae}(hb:af w w'):∀{k:Nat} {u:Value},V7 L n s1 P1 s3 p1 p3 B t N k u w->V7 L n s1 P1 s3 p1 p3 B t N k u w'
 | 0,_,h=>h
 | 1,_,h=>h
 | 2,_,h=>h
 | 3,_,h=>h
 | 4,_,h=>h
 | 5,_,⟨g,e,hl,h⟩=>⟨g,e,Vy hl hb.size,h.below hb hl⟩
 | 6,_,h=>h
 | 7,_,h=>h
 | 8,_,h=>h
 | 9,_,⟨g,gt,e,h⟩=>⟨g,gt,e,h.below hb⟩
 | 10,_,h=>aJ h hb
 | 11,_,h=>aJ h hb
 | _+12,_,h=>h
theorem PK{w w':ae}{p1 p2:Pt}{s1 s2:Value}(h1:p1.ok w)(h2:p2.ok w)(e1:p1.v=s1)(e2:p2.v=s2)(hb:af w w')(T:TypeId):PtsAt (w'.alloc (.cells #[s1,s2] T)) w'.heap.size [p1,p2]:=by
 have hb2:af w (w'.alloc (.cells #[s1,s2] T)):=hb.alloc hb.size _;refine⟨by simp,fun i hi=>?_,fun p hp=>?_⟩
 ·match i,hi with
  | 0,_=>simp[e1]
  | 1,_=>simp[e2]
 simp at hp;rcases hp with rfl|rfl
 ·exact h1.below hb2
 exact h2.below hb2
theorem PM{w w':ae}{p1 p3:Pt}{s1 s3:Value}{gt:Nat}{t:Tp}(h1:p1.ok w)(h3:p3.ok w)(e1:p1.v=s1)(e3:p3.v=s3)(hb:af w w')(hg:gt<w'.heap.size/\dE w' gt 0 [t])(T:TypeId):PtsAt (w'.alloc (.cells #[s1,.slice (some ⟨gt,0,none⟩) 1 1,s3] T)) w'.heap.size [p1,⟨some ⟨gt,0,none⟩,1,[t]⟩,p3]:=by
 have hb1:af w' (w'.alloc (.cells #[s1,.slice (some ⟨gt,0,none⟩) 1 1,s3] T)):=(VD _ _).alloc (VC _) _;have hb2:af w (w'.alloc (.cells #[s1,.slice (some ⟨gt,0,none⟩) 1 1,s3] T)):=hb.alloc hb.size _;refine⟨by simp,fun i hi=>?_,fun p hp=>?_⟩
 ·match i,hi with
  | 0,_=>simp[e1]
  | 1,_=>simp[Pt.v]
  | 2,_=>simp[e3]
 simp at hp;rcases hp with rfl|rfl|rfl
 ·exact h1.below hb2
 ·exact .inr ⟨gt,0,rfl,fun _=>Vy hg.1 hb1.size,hg.2.below hb1 hg.1⟩
 exact h3.below hb2
theorem PN(w:ae)(t:Tp)(T:TypeId):w.heap.size<(w.alloc (.cells #[.string t.a,.string t.b,.string t.r,.string t.c,.string t.d,.string t.s] T)).heap.size/\dE (w.alloc (.cells #[.string t.a,.string t.b,.string t.r,.string t.c,.string t.d,.string t.s] T)) w.heap.size 0 [t]:=by
 refine⟨by simp,fun i hi=>?_⟩
 match i,hi with
 | 0,_=>refine⟨?_,?_,?_,?_,?_,?_⟩<;>simp
theorem vM{w:ae}{b off n:Nat}{ts:Q05}(h:dE w b off ts):dE w b off (ts.take n):=fun i hi=>by
 rw[List.getElem_take];exact h i (by rw[V9]at hi;omega)
theorem GK{w:ae}{b off n:Nat}{ts:Q05}(h:dE w b off ts):dE w b (off+n*6) (ts.drop n):=fun i hi=>by
 rw[List.getElem_drop];have:=h (n+i) (by rw[Wq]at hi;omega);rwa [show off+(n+i)*6=off+n*6+i*6 by omega]at this
theorem GL{w:ae}{b off:Nat}{ts:Q05}(h:ts=[]):dE w b off ts:=fun i hi=>by rw[h]at hi;simp at hi
theorem yh(tv:Value)(fit:Tp->Bool)(ad:Q02)(cap:Nat)(ts:Q05)(k:Int)(t:Tp)(w:ae)(hE:Ca w)
  (hfit:∀w1:World,t.ok=true->af w w1->Calls prog 80 #[tv,.agg #[.string t.a,.string t.b,.string t.r,.string t.c,.string t.d,.string t.s]] w1 fun e w'=>e=.returned (.bool (fit t))/\af w1 w')
  (hlen:ts.length<=40) (hs:Sv w ad cap ts) (hf:∀x∈ts,x.fits) (hu:Up ts) (hok:∀x∈ts,x.ok=true) (ht:t.fits) :
  Calls prog 52 #[tv,.slice ad ts.length cap,.agg #[.int .i64 k,.string t.a,.string t.b,.string t.r,.string t.c,.string t.d,.string t.s]] w (Tj w fit ts k t):=by
 obtain⟨iT,h0,h1,h2,h3⟩:=Ba;have HIT:=ax (And.intro h0 (And.intro h1 (And.intro h2 h3)));have HE:=ay hE;have Xd:=ay hfit;have HS:=ay hs;have HF:=ay hf;have HU:=ay hu;have XK:=ay hok;have HT:=ay ht;clear hE hfit hs hf hu hok ht h0 h1 h2 h3;obtain⟨W0,hW0⟩:∃W0,W0=w.alloc (.cells #[.int .i64 k,.string t.a,.string t.b,.string t.r,.string t.c,.string t.d,.string t.s] 31):=⟨_,rfl⟩;have HX0:Hid (nN W0 w.heap.size k t):=by show nN _ _ _ _;rw[hW0];refine⟨?_,?_,?_,?_,?_,?_,?_,?_⟩<;>simp
 have HB0:=oQ hW0;go_enter func52,ntmps52;go_wp2_with fail;rw[<-hW0];clear hW0;refine(JF tv fit ad cap ts k t _ (HE.out.below HB0.out) (fun w1 h hb=>Xd.out w1 h (HB0.out.trans (hb.mono HB0.out.size))) hlen (HS.out.below HB0.out).sl HT.out).mono ?_;rintro e w1 ⟨hz,hb1⟩;have HB1:=ay (HB0.out.trans (hb1.mono HB0.out.size));have Yo:=ay (HX0.out.below hb1);rcases hz with⟨hz,rfl⟩|⟨g,T,u,hz,hg2,Y4,hc,rfl⟩
 ·have HZ:=ay hz;clear hz hb1 HX0 HB0;obtain⟨x0,x1,x2,x3,x4,x5,x6,xl⟩:=Yo.out;have HCZ:=ay (wY HZ.out);go_wp2_with fail;refine(GH ad cap ts t _ (by omega) (HS.out.below HB1.out).sl HF.out HT.out HU.out XK.out HCZ.out.1).mono ?_;rintro e w2 ⟨⟨n,q,rfl,hlow⟩,hb2⟩;have HB2:=ay (HB1.out.trans (hb2.mono HB1.out.size));have Yt:=ay (Yo.out.below hb2);have HLOW:=ay hlow;have hnl:n<=ts.length:=hlow.le;clear hb2 Yo x0 x1 x2 x3 x4 x5 x6 xl hlow;obtain⟨x0,x1,x2,x3,x4,x5,x6,xl⟩:=Yt.out;rcases HCZ.out.2 with⟨rfl,hm⟩|⟨rfl,hft,hnm,h40⟩
  ·rcases HS.out.below HB2.out with⟨-,-,hnil⟩|⟨b,off,rfl,hb,hcap,hr⟩
   ·rw[hnil]at hm;cases hm
   obtain⟨hn,hni⟩:=Po HLOW.out HU.out hm;have HNX:Hid (bn ts 2 t=ts.take n++ts.drop (n+1)):=by show _=_;unfold bn;rw[if_pos rfl];exact Pp HLOW.out HU.out hm
   have HR:=ay hr;clear hr hni hm;by_cases hcn:cap=n+1
   case' pos =>
    have XJ:=ay hcn;have HP1:Hid (Pt.ok w2 ⟨some ⟨b,off,none⟩,cap,ts.take n⟩):=.inr ⟨b,off,rfl,fun _=>hb,vM HR.out⟩;have Xa:Hid (Pt.ok w2 ⟨some ⟨b,off,none⟩,cap-(n+1),ts.drop (n+1)⟩):=.inr ⟨b,off,rfl,fun _=>hb,GL (List.drop_eq_nil_of_le (by omega))⟩;have HV1:Hid (Pt.v ⟨some ⟨b,off,none⟩,cap,ts.take n⟩=Value.slice (some ⟨b,off,none⟩) n cap):=by show _=_;unfold Pt.v;simp only[V9];rw[Nat.min_eq_left hnl]
    have Zk:Hid (Pt.v ⟨some ⟨b,off,none⟩,cap-(n+1),ts.drop (n+1)⟩=Value.slice (some ⟨b,off,none⟩) (ts.length-(n+1)) (cap-(n+1))):=by show _=_;unfold Pt.v;simp only[Wq]
    have HJ:Hid (dH [⟨some ⟨b,off,none⟩,cap,ts.take n⟩,⟨some ⟨b,off,none⟩,cap-(n+1),ts.drop (n+1)⟩]=ts.take n++ts.drop (n+1)):=by show _=_;simp[dH]
    have HNL:Hid ((bn ts 2 t).length<=ts.length):=by show _<=_;rw[HNX.out,VI,V9,Wq];omega
    have hnl1:(0:Int)<=(n:Int)+1:=by omega
    have hnl2:(n:Int)+1<=(ts.length:Int):=by omega
    have hnl3:(n:Int)<=(cap:Int):=by omega
    have hite:∀x y:Option Addr,(if cap=n+1 then x else y)=x:=fun x y=>if_pos hcn;have hwr:IntKind.i64.wrap ((n:Int)+1)=(n:Int)+1:=by rw[IntKind.wrap_i64];omega
    clear hcn;go_wp2_with fail;refine dR 11 _ _ (V6 (Value.slice (some ⟨b,off,none⟩) ts.length cap) n (Value.slice (some ⟨b,off,none⟩) n cap) (Value.slice (some ⟨b,off,none⟩) (ts.length-(n+1)) (cap-(n+1))) ⟨some ⟨b,off,none⟩,cap,ts.take n⟩ ⟨some ⟨b,off,none⟩,cap-(n+1),ts.drop (n+1)⟩ w.heap.size (bn ts 2 t)) (fun w'=>af w2 w') (by kernel_rfl) rfl (by kernel_rfl) (BJ [(6,[9,10]),(33,[0,1,2,3,4,5,6,7,8])]) (VD _ _).drew ?_ ?_<;>dsimp only[yV]
   case' neg =>
    have HP1:Hid (Pt.ok w2 ⟨some ⟨b,off,none⟩,cap,ts.take n⟩):=.inr ⟨b,off,rfl,fun _=>hb,vM HR.out⟩;have Xa:Hid (Pt.ok w2 ⟨some ⟨b,off+(n+1)*6,none⟩,cap-(n+1),ts.drop (n+1)⟩):=.inr ⟨b,off+(n+1)*6,rfl,fun _=>hb,GK HR.out⟩;have HV1:Hid (Pt.v ⟨some ⟨b,off,none⟩,cap,ts.take n⟩=Value.slice (some ⟨b,off,none⟩) n cap):=by show _=_;unfold Pt.v;simp only[V9];rw[Nat.min_eq_left hnl]
    have Zk:Hid (Pt.v ⟨some ⟨b,off+(n+1)*6,none⟩,cap-(n+1),ts.drop (n+1)⟩=Value.slice (some ⟨b,off+(n+1)*6,none⟩) (ts.length-(n+1)) (cap-(n+1))):=by show _=_;unfold Pt.v;simp only[Wq]
    have HJ:Hid (dH [⟨some ⟨b,off,none⟩,cap,ts.take n⟩,⟨some ⟨b,off+(n+1)*6,none⟩,cap-(n+1),ts.drop (n+1)⟩]=ts.take n++ts.drop (n+1)):=by show _=_;simp[dH]
    have HNL:Hid ((bn ts 2 t).length<=ts.length):=by show _<=_;rw[HNX.out,VI,V9,Wq];omega
    have hnl1:(0:Int)<=(n:Int)+1:=by omega
    have hnl2:(n:Int)+1<=(ts.length:Int):=by omega
    have hnl3:(n:Int)<=(cap:Int):=by omega
    have hwr:IntKind.i64.wrap ((n:Int)+1)=(n:Int)+1:=by rw[IntKind.wrap_i64];omega
    go_wp2_with fail;refine dR 11 _ _ (V6 (Value.slice (some ⟨b,off,none⟩) ts.length cap) n (Value.slice (some ⟨b,off,none⟩) n cap) (Value.slice (some ⟨b,off+(n+1)*6,none⟩) (ts.length-(n+1)) (cap-(n+1))) ⟨some ⟨b,off,none⟩,cap,ts.take n⟩ ⟨some ⟨b,off+(n+1)*6,none⟩,cap-(n+1),ts.drop (n+1)⟩ w.heap.size (bn ts 2 t)) (fun w'=>af w2 w') (by kernel_rfl) rfl (by kernel_rfl) (BJ [(6,[9,10]),(33,[0,1,2,3,4,5,6,7,8])]) (VD _ _).drew ?_ ?_<;>dsimp only[yV]
   iterate 2
    ·rintro i hi o ho fq w' hG hpre;have HG:Hid (af w2 w'):=hG;have HM:Hid (∀e∈o.after,Region.binds .any e=true->_):=hpre;have HX':=ay (Yt.out.below hG);clear hG hpre x0 x1 x2 x3 x4 x5 x6 xl;obtain⟨x0,x1,x2,x3,x4,x5,x6,xl⟩:=HX'.out;have hc:=Ku (i:=i) (by omega);clear hi
     repeat' rcases hc with rfl|hc
     ·cases ho;clear HM;refine aa rfl fun K HK=>?_;go_simp;exact HK.out _ _ ⟨_,by simp[upd],HG.out,rfl,fun k u hu=>hu⟩
     ·cases ho;clear HM;refine aa rfl fun K HK=>?_;go_simp;exact HK.out _ _ ⟨_,by simp[upd],HG.out,rfl,fun k u hu=>hu⟩
     ·cases ho;have e0:fq 0=_:=HM.out ⟨0,.data⟩ (by simp) rfl;have e1:fq 1=_:=HM.out ⟨1,.data⟩ (by simp) rfl;clear HM;refine aa rfl fun K HK=>?_;simp only[e0,e1];go_simp;exact HK.out _ _ ⟨_,by simp[upd,e0,e1],HG.out,rfl,fun k u hu=>hu⟩
     ·cases ho;clear HM;refine aa rfl fun K HK=>?_;go_simp;exact HK.out _ _ ⟨_,by simp[upd],HG.out,rfl,fun k u hu=>hu⟩
     ·cases ho;clear HM;refine aa rfl fun K HK=>?_;go_simp;exact HK.out _ _ ⟨_,by simp[upd],HG.out,rfl,fun k u hu=>hu⟩
     ·cases ho;have e4:fq 4=_:=HM.out ⟨4,.data⟩ (by simp) rfl;clear HM;refine aa rfl fun K HK=>?_;simp only[e4];go_simp;exact HK.out _ _ ⟨_,by simp[upd,e4],HG.out,rfl,fun k u hu=>hu⟩
     ·cases ho;have e3:fq 3=_:=HM.out ⟨3,.data⟩ (by simp) rfl;have e5:fq 5=_:=HM.out ⟨5,.data⟩ (by simp) rfl;clear HM;refine aa rfl fun K HK=>?_;simp only[e3,e5];go_simp;exact HK.out _ _ ⟨_,by simp[upd,e3,e5],HG.out,rfl,fun k u hu=>hu⟩
     ·cases ho;have e2:fq 2=_:=HM.out ⟨2,.data⟩ (by simp) rfl;have e6:fq 6=_:=HM.out ⟨6,.data⟩ (by simp) rfl;clear HM;refine aa rfl fun K HK=>?_;simp only[e2,e6];go_simp;exact HK.out _ _ ⟨_,by simp[upd,e2,e6],HG.out.alloc HG.out.size _,⟨w'.heap.size,rfl,PK HP1.out Xa.out HV1.out Zk.out HG.out _⟩,fun k u hu=>V6.below ((VD _ _).alloc (VC _) _) hu⟩
     ·cases ho;have q7:=HM.out ⟨7,.data⟩ (by simp) rfl;obtain⟨gb,e7,hPt⟩:=q7;clear HM;refine aa rfl fun K HK=>?_;simp only[e7];go_simp;refine(yg gb 2 _ w' hPt (by simp) (by rw[HJ.out,<-HNX.out];have:=HNL.out;omega)).mono ?_;rintro e w3 ⟨v,rfl,hown,hbx⟩;have hown2:=fT hown (VJ HB2.out.size HG.out.size);rw[HJ.out,<-HNX.out]at hown2;exact HK.out _ _ ⟨v,by simp[upd,e7],HG.out.trans (hbx.mono HG.out.size),hown2,fun k u hu=>V6.below hbx hu⟩
     ·cases ho;have q8:=HM.out ⟨8,.data⟩ (by simp) rfl;clear HM;refine aa rfl fun K HK=>?_;go_simp;exact HK.out _ _ ⟨fq 8,by simp[upd],HG.out,q8,fun k u hu=>hu⟩
     cases ho;clear HM;refine aa rfl fun K HK=>?_;go_simp;exact HK.out _ _ ⟨_,by simp[upd],HG.out,rfl,fun k u hu=>hu⟩
    rintro fq w' hG hall;have q9:=hall 9 (by omega);have e10:fq 10=.nilIface:=hall 10 (by omega);have HO:=ay q9;have HBE:=kL HB2 hG;clear hall hG q9;rw[e10];go_wp2;exact bodyPost_ret (v:=.tuple #[fq 9,.nilIface]) (by simp[results,Tryz.results52,go_sem]) rfl ⟨HBE.out,.inl ⟨HZ.out,_,rfl,HO.out⟩⟩
  have HNX:Hid (bn ts 1 t=ts.take n++t::ts.drop n):=by show _=_;unfold bn;rw[if_neg (by decide)];exact RG HLOW.out
  have HNL:Hid ((bn ts 1 t).length=ts.length+1):=by show _=_;unfold bn;rw[if_neg (by decide),A9]
  rcases HS.out.below HB2.out with⟨rfl,rfl,rfl⟩|⟨b,off,rfl,hb,hcap,hr⟩
  case' inl =>
   obtain rfl:n=0:=by simpa using hnl
   have HP1:Hid (Pt.ok w2 ⟨none,0,([]:Q05).take 0⟩):=.inl ⟨rfl,rfl,rfl⟩;have HP3:Hid (Pt.ok w2 ⟨none,0,([]:Q05).drop 0⟩):=.inl ⟨rfl,rfl,rfl⟩;have HV1:Hid (Pt.v ⟨none,0,([]:Q05).take 0⟩=Value.slice none 0 0):=rfl;have HV3:Hid (Pt.v ⟨none,0,([]:Q05).drop 0⟩=Value.slice none 0 0):=rfl;have HJ:Hid (∀gt:Nat,dH [⟨none,0,([]:Q05).take 0⟩,⟨some ⟨gt,0,none⟩,1,[t]⟩,⟨none,0,([]:Q05).drop 0⟩]=([]:Q05).take 0++t::([]:Q05).drop 0):=fun gt=>by simp[dH]
   go_wp2_with fail;refine dR 13 _ _ (V7 (Value.slice none 0 0) 0 (Value.slice (none) 0 (0)) (Value.pointer (some ⟨w.heap.size,1,none⟩)) (Value.slice (none) (0) (0)) ⟨none,0,([]:Q05).take 0⟩ ⟨none,0,([]:Q05).drop 0⟩ w.heap.size t (bn [] 1 t)) (fun w'=>af w2 w') (by kernel_rfl) rfl (by kernel_rfl) (BJ [(6,[11,12]),(42,[0,1,2,3,4,5,6,7,8,9,10])]) (VD _ _).drew ?_ ?_<;>dsimp only[yV]
  case' inr =>
   have HR:=ay hr;clear hr;by_cases hcn:cap=n
   case' pos =>
    subst hcn;have hlz:ts.length-cap=0:=by omega
    have HP1:Hid (Pt.ok w2 ⟨some ⟨b,off,none⟩,cap,ts.take cap⟩):=.inr ⟨b,off,rfl,fun _=>hb,vM HR.out⟩;have HP3:Hid (Pt.ok w2 ⟨some ⟨b,off,none⟩,0,ts.drop cap⟩):=.inr ⟨b,off,rfl,fun _=>hb,GL (List.drop_eq_nil_of_le (by omega))⟩;have HV1:Hid (Pt.v ⟨some ⟨b,off,none⟩,cap,ts.take cap⟩=Value.slice (some ⟨b,off,none⟩) cap cap):=by show _=_;unfold Pt.v;simp only[V9];rw[Nat.min_eq_left hnl]
    have HV3:Hid (Pt.v ⟨some ⟨b,off,none⟩,0,ts.drop cap⟩=Value.slice (some ⟨b,off,none⟩) 0 0):=by show _=_;unfold Pt.v;simp only[Wq];rw[hlz]
    have HJ:Hid (∀gt:Nat,dH [⟨some ⟨b,off,none⟩,cap,ts.take cap⟩,⟨some ⟨gt,0,none⟩,1,[t]⟩,⟨some ⟨b,off,none⟩,0,ts.drop cap⟩]=ts.take cap++t::ts.drop cap):=fun gt=>by simp[dH]
    have hnl2:(cap:Int)<=(ts.length:Int):=by omega
    go_wp2_with fail;refine dR 13 _ _ (V7 (Value.slice (some ⟨b,off,none⟩) ts.length cap) cap (Value.slice (some ⟨b,off,none⟩) cap (cap)) (Value.pointer (some ⟨w.heap.size,1,none⟩)) (Value.slice (some ⟨b,off,none⟩) (0) (0)) ⟨some ⟨b,off,none⟩,cap,ts.take cap⟩ ⟨some ⟨b,off,none⟩,0,ts.drop cap⟩ w.heap.size t (bn ts 1 t)) (fun w'=>af w2 w') (by kernel_rfl) rfl (by kernel_rfl) (BJ [(6,[11,12]),(42,[0,1,2,3,4,5,6,7,8,9,10])]) (VD _ _).drew ?_ ?_<;>dsimp only[yV]
   case' neg =>
    have HP1:Hid (Pt.ok w2 ⟨some ⟨b,off,none⟩,cap,ts.take n⟩):=.inr ⟨b,off,rfl,fun _=>hb,vM HR.out⟩;have HP3:Hid (Pt.ok w2 ⟨some ⟨b,off+n*6,none⟩,cap-n,ts.drop n⟩):=.inr ⟨b,off+n*6,rfl,fun _=>hb,GK HR.out⟩;have HV1:Hid (Pt.v ⟨some ⟨b,off,none⟩,cap,ts.take n⟩=Value.slice (some ⟨b,off,none⟩) n cap):=by show _=_;unfold Pt.v;simp only[V9];rw[Nat.min_eq_left hnl]
    have HV3:Hid (Pt.v ⟨some ⟨b,off+n*6,none⟩,cap-n,ts.drop n⟩=Value.slice (some ⟨b,off+n*6,none⟩) (ts.length-n) (cap-n)):=by show _=_;unfold Pt.v;simp only[Wq]
    have HJ:Hid (∀gt:Nat,dH [⟨some ⟨b,off,none⟩,cap,ts.take n⟩,⟨some ⟨gt,0,none⟩,1,[t]⟩,⟨some ⟨b,off+n*6,none⟩,cap-n,ts.drop n⟩]=ts.take n++t::ts.drop n):=fun gt=>by simp[dH]
    have hnl2:(n:Int)<=(ts.length:Int):=by omega
    have hnl3:(n:Int)<=(cap:Int):=by omega
    go_wp2_with fail;refine dR 13 _ _ (V7 (Value.slice (some ⟨b,off,none⟩) ts.length cap) n (Value.slice (some ⟨b,off,none⟩) n (cap)) (Value.pointer (some ⟨w.heap.size,1,none⟩)) (Value.slice (some ⟨b,off+n*6,none⟩) (ts.length-n) (cap-n)) ⟨some ⟨b,off,none⟩,cap,ts.take n⟩ ⟨some ⟨b,off+n*6,none⟩,cap-n,ts.drop n⟩ w.heap.size t (bn ts 1 t)) (fun w'=>af w2 w') (by kernel_rfl) rfl (by kernel_rfl) (BJ [(6,[11,12]),(42,[0,1,2,3,4,5,6,7,8,9,10])]) (VD _ _).drew ?_ ?_<;>dsimp only[yV]
  iterate 3
   ·rintro i hi o ho fq w' hG hpre;have HG:Hid (af w2 w'):=hG;have HM:Hid (∀e∈o.after,Region.binds .any e=true->_):=hpre;have HX':=ay (Yt.out.below hG);clear hG hpre x0 x1 x2 x3 x4 x5 x6 xl;obtain⟨x0,x1,x2,x3,x4,x5,x6,xl⟩:=HX'.out;have hc:=UJ (i:=i) (by omega);clear hi
    repeat' rcases hc with rfl|hc
    ·cases ho;clear HM;refine aa rfl fun K HK=>?_;go_simp;exact HK.out _ _ ⟨_,by simp[upd],HG.out,rfl,fun k u hu=>hu⟩
    ·cases ho;clear HM;refine aa rfl fun K HK=>?_;go_simp;exact HK.out _ _ ⟨_,by simp[upd],HG.out,rfl,fun k u hu=>hu⟩
    ·cases ho;have e0:fq 0=_:=HM.out ⟨0,.data⟩ (by simp) rfl;have e1:fq 1=_:=HM.out ⟨1,.data⟩ (by simp) rfl;clear HM;refine aa rfl fun K HK=>?_;simp only[e0,e1];go_simp;exact HK.out _ _ ⟨_,by simp[upd,e0,e1],HG.out,rfl,fun k u hu=>hu⟩
    ·cases ho;clear HM;refine aa rfl fun K HK=>?_;go_simp;exact HK.out _ _ ⟨_,by simp[upd],HG.out,rfl,fun k u hu=>hu⟩
    ·cases ho;have e3:fq 3=_:=HM.out ⟨3,.data⟩ (by simp) rfl;clear HM;refine aa rfl fun K HK=>?_;simp only[e3];go_simp;exact HK.out _ _ ⟨_,by simp[upd,e3],HG.out,rfl,fun k u hu=>hu⟩
    ·cases ho;have e4:fq 4=_:=HM.out ⟨4,.data⟩ (by simp) rfl;clear HM;refine aa rfl fun K HK=>?_;simp only[e4];go_simp;exact HK.out _ _ ⟨_,by simp[upd,e4],HG.out.alloc HG.out.size _,⟨w'.heap.size,rfl,PN w' t _⟩,fun k u hu=>V7.below ((VD _ _).alloc (VC _) _) hu⟩
    ·cases ho;clear HM;refine aa rfl fun K HK=>?_;go_simp;exact HK.out _ _ ⟨_,by simp[upd],HG.out,rfl,fun k u hu=>hu⟩
    ·cases ho;clear HM;refine aa rfl fun K HK=>?_;go_simp;exact HK.out _ _ ⟨_,by simp[upd],HG.out,rfl,fun k u hu=>hu⟩
    ·cases ho;have e6:fq 6=_:=HM.out ⟨6,.data⟩ (by simp) rfl;have e7:fq 7=_:=HM.out ⟨7,.data⟩ (by simp) rfl;clear HM;refine aa rfl fun K HK=>?_;simp only[e6,e7];go_simp;exact HK.out _ _ ⟨_,by simp[upd,e6,e7],HG.out,rfl,fun k u hu=>hu⟩
    ·cases ho;have e2:fq 2=_:=HM.out ⟨2,.data⟩ (by simp) rfl;have q5:=HM.out ⟨5,.data⟩ (by simp) rfl;have e8:fq 8=_:=HM.out ⟨8,.data⟩ (by simp) rfl;obtain⟨gt,e5,hgt⟩:=q5;clear HM;refine aa rfl fun K HK=>?_;simp only[e2,e8,e5];go_simp;exact HK.out _ _ ⟨_,by simp[upd,e2,e5,e8],HG.out.alloc HG.out.size _,⟨w'.heap.size,gt,rfl,PM HP1.out HP3.out HV1.out HV3.out HG.out hgt _⟩,fun k u hu=>V7.below ((VD _ _).alloc (VC _) _) hu⟩
    ·cases ho;have q9:=HM.out ⟨9,.data⟩ (by simp) rfl;obtain⟨gb,gt,e9,hPt⟩:=q9;clear HM;refine aa rfl fun K HK=>?_;simp only[e9];go_simp;refine(yg gb 3 _ w' hPt (by simp) (by rw[HJ.out gt,<-HNX.out,HNL.out];omega)).mono ?_;rintro e w3 ⟨v,rfl,hown,hbx⟩;have hown2:=fT hown (VJ HB2.out.size HG.out.size);rw[HJ.out gt,<-HNX.out]at hown2;exact HK.out _ _ ⟨v,by simp[upd,e9],HG.out.trans (hbx.mono HG.out.size),hown2,fun k u hu=>V7.below hbx hu⟩
    ·cases ho;have q10:=HM.out ⟨10,.data⟩ (by simp) rfl;clear HM;refine aa rfl fun K HK=>?_;go_simp;exact HK.out _ _ ⟨fq 10,by simp[upd],HG.out,q10,fun k u hu=>hu⟩
    cases ho;clear HM;refine aa rfl fun K HK=>?_;go_simp;exact HK.out _ _ ⟨_,by simp[upd],HG.out,rfl,fun k u hu=>hu⟩
   rintro fq w' hG hall;have q11:=hall 11 (by omega);have e12:fq 12=.nilIface:=hall 12 (by omega);have HO:=ay q11;have HBE:=kL HB2 hG;clear hall hG q11;rw[e12];go_wp2;exact bodyPost_ret (v:=.tuple #[fq 11,.nilIface]) (by simp[results,Tryz.results52,go_sem]) rfl ⟨HBE.out,.inl ⟨HZ.out,_,rfl,HO.out⟩⟩
 have HZ:Hid (aQ fit ts k t≠0):=by show _≠_;rw[hz];omega
 have ZA:Hid (w.cell? ⟨(aQ fit ts k t).toNat,0,none⟩=some (.iface T u)):=by
  show _=_;rw[hz,Int.toNat_natCast];exact(HB0.out.cell (p:=⟨g,0,none⟩) (HE.out g hg2 Y4).1).symm.trans hc
 clear hz hc hb1 HX0 HB0;have hsz1:w.heap.size<=w1.heap.size:=HB1.out.size;rcases HS.out.below HB1.out with⟨rfl,rfl,rfl⟩|⟨b,off,rfl,hb,hcap,hr⟩
 ·obtain⟨w4,hw4⟩:∃w4,w4=w1.alloc (.cells #[.iface T u,.slice none 0 0] 80):=⟨_,rfl⟩;have HBE:Hid (af w w4):=by show Below _ _ _;rw[hw4];exact HB1.out.alloc hsz1 _
  have HC4:Hid (w4.cell? ⟨w1.heap.size,0,none⟩=some (.iface T u)/\w4.cell? ⟨w1.heap.size,1,none⟩=some (.slice none 0 0)):=by show _/\_;rw[hw4];constructor<;>simp
  go_wp2_with(at_builtin;refine wpList_append_own_none rfl _ _ 25 rfl w1.heap.size 29 iT 6 underlying25 HIT.out.1 _ _ _ rfl (World.ownsRow_nil _ _ _ _) rfl ?_);go_wp2;rw[<-hw4];exact bodyPost_ret (v:=.tuple #[.slice none 0 0,.iface 76 (.pointer (some ⟨w1.heap.size,0,none⟩))]) (by simp[results,Tryz.results52,go_sem]) rfl ⟨HBE.out,.inr ⟨HZ.out,w1.heap.size,T,u,_,rfl,hsz1,HC4.out.1,ZA.out,HC4.out.2,World.ownsRow_nil _ _ _ _⟩⟩
 have HR:=ay hr;clear hr;go_wp2_with(at_builtin;refine wpList_append_own _ rfl _ _ 25 rfl w.heap.size 29 iT (.agg #[.string ⟨#[]⟩,.string ⟨#[]⟩,.string ⟨#[]⟩,.string ⟨#[]⟩,.string ⟨#[]⟩,.string ⟨#[]⟩]) 6 96 underlying25 HIT.out.1 HIT.out.2.1 HIT.out.2.2.1 HIT.out.2.2.2 rfl (by decide) _ 0 (aF []) rfl (World.ownsRow_nil _ _ _ _) ⟨b,off,none⟩ ts.length cap (aF ts) rfl (fu ts) (jW HR.out) (jX _) (by unfold maxLen;omega) (by omega) hsz1 ?_);intro v' w3 hown hgr _;have Xm:Hid (w3.ownsRow w.heap.size 29 6 v' ts.length (aF ts)):=by
  show World.ownsRow _ _ _ _ _ _ _;simpa[aF] using hown
 have HB3:Hid (af w w3):=HB1.out.grown hgr hsz1 (fun g hg=>by simp[Value.ownBlock]at hg);have hsz3:w.heap.size<=w3.heap.size:=HB3.out.size;obtain⟨adv,cv,hv⟩:∃a c,v'=.slice a ts.length c:=by
  rcases Xm.out.2 with⟨e,h0⟩|⟨g,c,cur,e,-⟩
  ·exact⟨none,0,by rw[e,h0]⟩
  exact⟨_,_,e⟩
 subst hv;obtain⟨w4,hw4⟩:∃w4,w4=w3.alloc (.cells #[.iface T u,.slice adv ts.length cv] 80):=⟨_,rfl⟩;have HBE:Hid (af w w4):=by show Below _ _ _;rw[hw4];exact HB3.out.alloc hsz3 _
 have HC4:Hid (w4.cell? ⟨w3.heap.size,0,none⟩=some (.iface T u)/\w4.cell? ⟨w3.heap.size,1,none⟩=some (.slice adv ts.length cv)):=by show _/\_;rw[hw4];constructor<;>simp
 have Xk:Hid (w4.ownsRow w.heap.size 29 6 (.slice adv ts.length cv) ts.length (aF ts)):=by show World.ownsRow _ _ _ _ _ _ _;rw[hw4];exact Xm.out.alloc _
 clear hown hgr;go_wp2;rw[<-hw4];exact bodyPost_ret (v:=.tuple #[.slice none 0 0,.iface 76 (.pointer (some ⟨w3.heap.size,0,none⟩))]) (by simp[results,Tryz.results52,go_sem]) rfl ⟨HBE.out,.inr ⟨HZ.out,w3.heap.size,T,u,_,rfl,hsz3,HC4.out.1,ZA.out,HC4.out.2,Xk.out⟩⟩
structure ErrsD(w:World)(a:Nat->Addr):Prop where
 cell:∀g,g<=6->g≠1->g<w.heap.size/\w.cell? ⟨g,0,none⟩=some (.iface 350 (.pointer (some (a g))))/\(a g).block<w.heap.size/\∃c T,w.heap[(a g).block]?=some (.cells c T (0,0))
 apart:∀g h,g<=6->h<=6->g≠1->h≠1->g≠h->a g≠a h
 typ:1<w.heap.size/\w.cell? ⟨1,0,none⟩=some (.iface 204 (.agg #[.pointer (some ⟨8,73,none⟩)]))
theorem ErrsD.below{w w':ae}{a:Nat->Addr}(h:ErrsD w a)(hb:af w w'):ErrsD w' a where
 cell g h6 h1:=by
  obtain⟨hl,hc,hbl,c,T,e⟩:=h.cell g h6 h1;exact⟨Vy hl hb.size,(hb.cell (p:=⟨g,0,none⟩) hl).trans hc,Vy hbl hb.size,c,T,(hb.block _ hbl).trans e⟩
 apart:=h.apart
 typ:=⟨Vy h.typ.1 hb.size,(hb.cell (p:=⟨1,0,none⟩) h.typ.1).trans h.typ.2⟩
theorem ErrsD.errs{w:ae}{a:Nat->Addr}(h:ErrsD w a):Ca w:=fun g h2 h6=>by
 obtain⟨hl,hc,_⟩:=h.cell g h6 (by omega);exact⟨hl,_,_,hc⟩
theorem JG(a:Nat->Addr)(w:ae)(h:ErrsD w a):Calls prog 40 #[.nilIface] w fun e w'=>e=.returned (.int .i64 0)/\w'=w:=by
 have H:=aC h;clear h;obtain⟨-,c0,-,k0,T0,b0⟩:=H.out.cell 0 (by omega) (by omega);obtain⟨-,c2,-,k2,T2,b2⟩:=H.out.cell 2 (by omega) (by omega);obtain⟨-,c3,-,k3,T3,b3⟩:=H.out.cell 3 (by omega) (by omega);obtain⟨-,c4,-,k4,T4,b4⟩:=H.out.cell 4 (by omega) (by omega);obtain⟨-,c5,-,k5,T5,b5⟩:=H.out.cell 5 (by omega) (by omega);obtain⟨-,c6,-,k6,T6,b6⟩:=H.out.cell 6 (by omega) (by omega);go_enter func40,ntmps40;go_wp2_with fail;refine(wZ (a 0) _).mono ?_;rintro e w' ⟨rfl,rfl⟩;go_wp2_with fail;refine(wZ (a 2) _).mono ?_;rintro e w' ⟨rfl,rfl⟩;go_wp2_with fail;refine(wZ (a 3) _).mono ?_;rintro e w' ⟨rfl,rfl⟩;go_wp2_with fail;refine(wZ (a 4) _).mono ?_;rintro e w' ⟨rfl,rfl⟩;go_wp2_with fail;refine(wZ (a 5) _).mono ?_;rintro e w' ⟨rfl,rfl⟩;go_wp2_with fail;refine(wZ (a 6) _).mono ?_;rintro e w' ⟨rfl,rfl⟩;go_wp2;go_ret;exact⟨rfl,rfl⟩
theorem EM(a:Nat->Addr)(w:ae)(h:ErrsD w a):Calls prog 40 #[.iface 350 (.pointer (some (a 0)))] w fun e w'=>e=.returned (.int .i64 1)/\w'=w:=by
 have H:=aC h;clear h;obtain⟨-,c0,-,k0,T0,b0⟩:=H.out.cell 0 (by omega) (by omega);obtain⟨-,c2,-,k2,T2,b2⟩:=H.out.cell 2 (by omega) (by omega);obtain⟨-,c3,-,k3,T3,b3⟩:=H.out.cell 3 (by omega) (by omega);obtain⟨-,c4,-,k4,T4,b4⟩:=H.out.cell 4 (by omega) (by omega);obtain⟨-,c5,-,k5,T5,b5⟩:=H.out.cell 5 (by omega) (by omega);obtain⟨-,c6,-,k6,T6,b6⟩:=H.out.cell 6 (by omega) (by omega);go_enter func40,ntmps40;go_wp2_with fail;refine(RH (a 0) _).mono ?_;rintro e w' ⟨rfl,rfl⟩;go_wp2;go_ret;exact⟨rfl,rfl⟩
theorem PO(a:Nat->Addr)(p:Nat)(w:ae)(h:ErrsD w a)(h1:w.cell? ⟨p,0,none⟩=some (.iface 350 (.pointer (some (a 2))))):Calls prog 40 #[.iface 76 (.pointer (some ⟨p,0,none⟩))] w fun e w'=>e=.returned (.int .i64 2)/\w'=w:=by
 have H:=aC h;clear h;obtain⟨-,c0,-,k0,T0,b0⟩:=H.out.cell 0 (by omega) (by omega);obtain⟨-,c2,-,k2,T2,b2⟩:=H.out.cell 2 (by omega) (by omega);obtain⟨-,c3,-,k3,T3,b3⟩:=H.out.cell 3 (by omega) (by omega);obtain⟨-,c4,-,k4,T4,b4⟩:=H.out.cell 4 (by omega) (by omega);obtain⟨-,c5,-,k5,T5,b5⟩:=H.out.cell 5 (by omega) (by omega);obtain⟨-,c6,-,k6,T6,b6⟩:=H.out.cell 6 (by omega) (by omega);go_enter func40,ntmps40;go_wp2_with fail;refine(bf p (a 2) (a 0) _ _ _ _ _ h1 (H.out.apart 2 0 (by omega) (by omega) (by omega) (by omega) (by omega)) b2 b0).mono ?_;rintro e w' ⟨rfl,rfl⟩;go_wp2_with fail;refine(kH p (a 2) _ h1).mono ?_;rintro e w' ⟨rfl,rfl⟩;go_wp2;go_ret;exact⟨rfl,rfl⟩
theorem PP(a:Nat->Addr)(p:Nat)(w:ae)(h:ErrsD w a)(h1:w.cell? ⟨p,0,none⟩=some (.iface 350 (.pointer (some (a 3))))):Calls prog 40 #[.iface 76 (.pointer (some ⟨p,0,none⟩))] w fun e w'=>e=.returned (.int .i64 3)/\w'=w:=by
 have H:=aC h;clear h;obtain⟨-,c0,-,k0,T0,b0⟩:=H.out.cell 0 (by omega) (by omega);obtain⟨-,c2,-,k2,T2,b2⟩:=H.out.cell 2 (by omega) (by omega);obtain⟨-,c3,-,k3,T3,b3⟩:=H.out.cell 3 (by omega) (by omega);obtain⟨-,c4,-,k4,T4,b4⟩:=H.out.cell 4 (by omega) (by omega);obtain⟨-,c5,-,k5,T5,b5⟩:=H.out.cell 5 (by omega) (by omega);obtain⟨-,c6,-,k6,T6,b6⟩:=H.out.cell 6 (by omega) (by omega);go_enter func40,ntmps40;go_wp2_with fail;refine(bf p (a 3) (a 0) _ _ _ _ _ h1 (H.out.apart 3 0 (by omega) (by omega) (by omega) (by omega) (by omega)) b3 b0).mono ?_;rintro e w' ⟨rfl,rfl⟩;go_wp2_with fail;refine(bf p (a 3) (a 2) _ _ _ _ _ h1 (H.out.apart 3 2 (by omega) (by omega) (by omega) (by omega) (by omega)) b3 b2).mono ?_;rintro e w' ⟨rfl,rfl⟩;go_wp2_with fail;refine(kH p (a 3) _ h1).mono ?_;rintro e w' ⟨rfl,rfl⟩;go_wp2;go_ret;exact⟨rfl,rfl⟩
theorem PQ(a:Nat->Addr)(p:Nat)(w:ae)(h:ErrsD w a)(h1:w.cell? ⟨p,0,none⟩=some (.iface 350 (.pointer (some (a 4))))):Calls prog 40 #[.iface 76 (.pointer (some ⟨p,0,none⟩))] w fun e w'=>e=.returned (.int .i64 4)/\w'=w:=by
 have H:=aC h;clear h;obtain⟨-,c0,-,k0,T0,b0⟩:=H.out.cell 0 (by omega) (by omega);obtain⟨-,c2,-,k2,T2,b2⟩:=H.out.cell 2 (by omega) (by omega);obtain⟨-,c3,-,k3,T3,b3⟩:=H.out.cell 3 (by omega) (by omega);obtain⟨-,c4,-,k4,T4,b4⟩:=H.out.cell 4 (by omega) (by omega);obtain⟨-,c5,-,k5,T5,b5⟩:=H.out.cell 5 (by omega) (by omega);obtain⟨-,c6,-,k6,T6,b6⟩:=H.out.cell 6 (by omega) (by omega);go_enter func40,ntmps40;go_wp2_with fail;refine(bf p (a 4) (a 0) _ _ _ _ _ h1 (H.out.apart 4 0 (by omega) (by omega) (by omega) (by omega) (by omega)) b4 b0).mono ?_;rintro e w' ⟨rfl,rfl⟩;go_wp2_with fail;refine(bf p (a 4) (a 2) _ _ _ _ _ h1 (H.out.apart 4 2 (by omega) (by omega) (by omega) (by omega) (by omega)) b4 b2).mono ?_;rintro e w' ⟨rfl,rfl⟩;go_wp2_with fail;refine(bf p (a 4) (a 3) _ _ _ _ _ h1 (H.out.apart 4 3 (by omega) (by omega) (by omega) (by omega) (by omega)) b4 b3).mono ?_;rintro e w' ⟨rfl,rfl⟩;go_wp2_with fail;refine(kH p (a 4) _ h1).mono ?_;rintro e w' ⟨rfl,rfl⟩;go_wp2;go_ret;exact⟨rfl,rfl⟩
theorem PR(a:Nat->Addr)(p:Nat)(w:ae)(h:ErrsD w a)(h1:w.cell? ⟨p,0,none⟩=some (.iface 350 (.pointer (some (a 5))))):Calls prog 40 #[.iface 76 (.pointer (some ⟨p,0,none⟩))] w fun e w'=>e=.returned (.int .i64 5)/\w'=w:=by
 have H:=aC h;clear h;obtain⟨-,c0,-,k0,T0,b0⟩:=H.out.cell 0 (by omega) (by omega);obtain⟨-,c2,-,k2,T2,b2⟩:=H.out.cell 2 (by omega) (by omega);obtain⟨-,c3,-,k3,T3,b3⟩:=H.out.cell 3 (by omega) (by omega);obtain⟨-,c4,-,k4,T4,b4⟩:=H.out.cell 4 (by omega) (by omega);obtain⟨-,c5,-,k5,T5,b5⟩:=H.out.cell 5 (by omega) (by omega);obtain⟨-,c6,-,k6,T6,b6⟩:=H.out.cell 6 (by omega) (by omega);go_enter func40,ntmps40;go_wp2_with fail;refine(bf p (a 5) (a 0) _ _ _ _ _ h1 (H.out.apart 5 0 (by omega) (by omega) (by omega) (by omega) (by omega)) b5 b0).mono ?_;rintro e w' ⟨rfl,rfl⟩;go_wp2_with fail;refine(bf p (a 5) (a 2) _ _ _ _ _ h1 (H.out.apart 5 2 (by omega) (by omega) (by omega) (by omega) (by omega)) b5 b2).mono ?_;rintro e w' ⟨rfl,rfl⟩;go_wp2_with fail;refine(bf p (a 5) (a 3) _ _ _ _ _ h1 (H.out.apart 5 3 (by omega) (by omega) (by omega) (by omega) (by omega)) b5 b3).mono ?_;rintro e w' ⟨rfl,rfl⟩;go_wp2_with fail;refine(bf p (a 5) (a 4) _ _ _ _ _ h1 (H.out.apart 5 4 (by omega) (by omega) (by omega) (by omega) (by omega)) b5 b4).mono ?_;rintro e w' ⟨rfl,rfl⟩;go_wp2_with fail;refine(kH p (a 5) _ h1).mono ?_;rintro e w' ⟨rfl,rfl⟩;go_wp2;go_ret;exact⟨rfl,rfl⟩
theorem PS(a:Nat->Addr)(p:Nat)(w:ae)(h:ErrsD w a)(h1:w.cell? ⟨p,0,none⟩=some (.iface 350 (.pointer (some (a 6))))):Calls prog 40 #[.iface 76 (.pointer (some ⟨p,0,none⟩))] w fun e w'=>e=.returned (.int .i64 6)/\w'=w:=by
 have H:=aC h;clear h;obtain⟨-,c0,-,k0,T0,b0⟩:=H.out.cell 0 (by omega) (by omega);obtain⟨-,c2,-,k2,T2,b2⟩:=H.out.cell 2 (by omega) (by omega);obtain⟨-,c3,-,k3,T3,b3⟩:=H.out.cell 3 (by omega) (by omega);obtain⟨-,c4,-,k4,T4,b4⟩:=H.out.cell 4 (by omega) (by omega);obtain⟨-,c5,-,k5,T5,b5⟩:=H.out.cell 5 (by omega) (by omega);obtain⟨-,c6,-,k6,T6,b6⟩:=H.out.cell 6 (by omega) (by omega);go_enter func40,ntmps40;go_wp2_with fail;refine(bf p (a 6) (a 0) _ _ _ _ _ h1 (H.out.apart 6 0 (by omega) (by omega) (by omega) (by omega) (by omega)) b6 b0).mono ?_;rintro e w' ⟨rfl,rfl⟩;go_wp2_with fail;refine(bf p (a 6) (a 2) _ _ _ _ _ h1 (H.out.apart 6 2 (by omega) (by omega) (by omega) (by omega) (by omega)) b6 b2).mono ?_;rintro e w' ⟨rfl,rfl⟩;go_wp2_with fail;refine(bf p (a 6) (a 3) _ _ _ _ _ h1 (H.out.apart 6 3 (by omega) (by omega) (by omega) (by omega) (by omega)) b6 b3).mono ?_;rintro e w' ⟨rfl,rfl⟩;go_wp2_with fail;refine(bf p (a 6) (a 4) _ _ _ _ _ h1 (H.out.apart 6 4 (by omega) (by omega) (by omega) (by omega) (by omega)) b6 b4).mono ?_;rintro e w' ⟨rfl,rfl⟩;go_wp2_with fail;refine(bf p (a 6) (a 5) _ _ _ _ _ h1 (H.out.apart 6 5 (by omega) (by omega) (by omega) (by omega) (by omega)) b6 b5).mono ?_;rintro e w' ⟨rfl,rfl⟩;go_wp2_with fail;refine(kH p (a 6) _ h1).mono ?_;rintro e w' ⟨rfl,rfl⟩;go_wp2;go_ret;exact⟨rfl,rfl⟩
theorem JH(a:Nat->Addr)(p g:Nat)(w:ae)(h:ErrsD w a)(h2:2<=g)(h6:g<=6)(h1:w.cell? ⟨p,0,none⟩=some (.iface 350 (.pointer (some (a g))))):Calls prog 40 #[.iface 76 (.pointer (some ⟨p,0,none⟩))] w fun e w'=>e=.returned (.int .i64 (g:Int))/\w'=w:=by
 have hc:g=2\/g=3\/g=4\/g=5\/g=6:=by omega
 repeat' rcases hc with rfl|hc
 ·exact PO a p w h h1
 ·exact PP a p w h h1
 ·exact PQ a p w h h1
 ·exact PR a p w h h1
 exact PS a p w h h1
open Maps
def fM(u:Bool)(ts:Q05):List Al:=if u then fo ts else iJ ts
def iN(u:Bool)(xs:Q0a)(t:Tp):Nat->List Al
 | 0=>xs
 | 1=>if u then xs else eT xs ⟨t.a,t.b⟩
 | _=>if u then dA xs t else iB xs t
theorem GM(u:Bool){ts:Q05}{k:Nat}(h:k<ts.length):fM u (ts.take (k+1))=iN u (fM u (ts.take k)) ts[k] 2:=by
 rw[VE h];cases u
 ·exact Ap _ _
 exact xS _ _
theorem JI(u:Bool)(ts:Q05):(fM u ts).length<=2*ts.length:=by
 cases u
 ·have key:∀(ts:Q05) (xs:Q0a),(ts.foldl iB xs).length<=xs.length+2*ts.length:=by
   intro ts
   induction ts with
   | nil=>intro xs;simp
   | cons t ts ih=>intro xs;have h1:=ih (iB xs t);have h2:=qO xs t;simp only[List.foldl_cons,We];omega
  have:=key ts [];simpa[fM,iJ] using this
 have key:∀(ts:Q05) (xs:Q0a),(ts.foldl dA xs).length<=xs.length+ts.length:=by
  intro ts
  induction ts with
  | nil=>intro xs;simp
  | cons t ts ih=>intro xs;have h1:=ih (dA xs t);have h2:=qP xs t;simp only[List.foldl_cons,We];omega
 have:=key ts [];simp[fM,fo]at this ⊢;omega
theorem PT(u:Bool)(xs:Q0a)(t:Tp)(q:Nat):(iN u xs t q).length<=xs.length+2:=by
 match q with
 | 0=>simp[iN]
 | 1=>have:=oo xs ⟨t.a,t.b⟩;cases u<;>simp[iN];omega
 | q+2=>have h1:=qP xs t;have h2:=qO xs t;cases u<;>simp[iN]<;>omega
theorem JJ{xs:Q0a}{o:Al}{k:Nat}(h:k<xs.length):om (xs.take (k+1)) o=(om (xs.take k) o || Ar xs[k].t xs[k].s o.t o.s):=by
 unfold om;rw[VE h,List.any_append];simp[kz,Ar]
theorem Tk(w:ae)(o:Al):∀j u,[Value.string o.t,.string o.s][j]?=some u->(w.alloc (.cells #[.string o.t,.string o.s] 27)).cell? ((⟨w.heap.size,0,none⟩:Addr).add j)=some u:=fun j u hu=>by
 match j,hu with
 | 0,hu=>simp at hu;subst hu;simp[Addr.add]
 | 1,hu=>simp at hu;subst hu;simp[Addr.add]
theorem ll.at0{w:ae}{ad:Q02}{xs:Q0a}(h:ll w ad xs){k:Nat}(hk:k<xs.length):∃b off,ad=some ⟨b,off,none⟩/\Tu w b (off+k*2) xs[k]/\b<w.heap.size:=by
 rcases h with h|⟨b',off',e,hb,hr⟩
 ·rw[h]at hk;simp at hk
 exact⟨b',off',e,hr k hk,hb⟩
theorem sV(ad:Q02)(cap:Nat)(ts:Q05)(u:Bool)(w:ae)(hlt:ts.length<=40)(hst:Sl w ad ts):
  Calls prog 116 #[.slice ad ts.length cap,.bool u] w fun e w'=>(∃v,e=.returned v/\w'.ownsRow w.heap.size 27 2 v (fM u ts).length (pairs (fM u ts)))/\af w w':=by
 obtain⟨iO,h0,h1,h2,h3⟩:=Ao;have HIO:=ax (And.intro h0 (And.intro h1 (And.intro h2 h3)));have HST:=ax hst;obtain⟨W0,hW0⟩:∃W0,W0=w.alloc (.cells #[] 27):=⟨_,rfl⟩;have HB0:=oQ hW0;have XA:Hid (W0.ownsRow w.heap.size 27 2 (.slice (some ⟨w.heap.size,0,none⟩) 0 0) (fM u (ts.take 0)).length (pairs (fM u (ts.take 0)))):=by
  have e:fM u (ts.take 0)=[]:=by cases u<;>rfl
  show World.ownsRow _ _ _ _ _ _ _;rw[hW0,e];exact World.ownsRow_lit w #[] 0 (VC _) (by unfold maxLen;omega) (by simp)
 clear hst h0 h1 h2 h3;go_enter func116,ntmps116;go_wp2_with fail;rw[<-hW0];clear hW0;go_loopw[5,6] (fun v i wr=>∃k:Nat,k<=ts.length/\i=.int .i64 k/\Hid (wr.ownsRow w.heap.size 27 2 v (fM u (ts.take k)).length (pairs (fM u (ts.take k))))/\Hid (af w wr)) (fun _ i _=>ts.length-(intOf i).toNat);case atStart=>exact⟨0,VG _,rfl,XA,HB0⟩
 clear XA HB0;obtain⟨k,hk,rfl,HOW,WZ⟩:=hrel;by_cases hlt2:k<ts.length
 ·have HSU:=ax (GM u hlt2);obtain⟨x,hx⟩:∃x,x=ts[k]:=⟨_,rfl⟩;obtain⟨xs,hxs⟩:∃xs,xs=fM u (ts.take k):=⟨_,rfl⟩;have hxl:xs.length<=80:=by have:=JI u (ts.take k);rw[V9]at this;rw[hxs];omega
  rw[<-hx,<-hxs]at HSU;rw[<-hxs]at HOW;have HX:=ax hx;have hi1:=bq k;have hi2:(k:Int)<(ts.length:Int):=by omega
  clear hxs hx;go_wp2;go_loopw[5,7] (fun v i w2=>∃q:Nat,q<=2/\i=.int .i64 q/\Hid (w2.ownsRow w.heap.size 27 2 v (iN u xs x q).length (pairs (iN u xs x q)))/\Hid (af w w2)) (fun _ i _=>2-(intOf i).toNat);case atStart=>exact⟨0,by omega,rfl,HOW,WZ⟩
  obtain⟨w2,rfl⟩:∃w2,w2=wr:=⟨_,rfl⟩;obtain⟨q,hq,rfl,WV,HB2⟩:=hrel;have hi1:=bq k;have hi2:(k:Int)<(ts.length:Int):=by omega
  have hsl:=PT u xs x q;obtain⟨b,off,Xb,⟨t0,t1,t2,t3,t4,t5⟩,hb⟩:=Sl.at0 (HST.out.below HB2.out) hlt2;rw[<-HX.out]at t0 t1 t2 t3 t4 t5;subst Xb;by_cases hq2:q<2
  ·have hc:q=0\/q=1:=by omega
   rcases hc with rfl|rfl
   case' inl =>
    cases u;case true =>
     have HE:Hid (iN true xs x 1=iN true xs x 0):=rfl;have HR:Hid ((w2.alloc (.cells #[.string x.a,.string x.b] 27)).ownsRow w.heap.size 27 2 u5 (iN true xs x 1).length (pairs (iN true xs x 1))):=by show World.ownsRow _ _ _ _ _ _ _;rw[HE.out];exact WV.out.alloc _
     have HBR:Hid (af w (w2.alloc (.cells #[.string x.a,.string x.b] 27))):=HB2.out.alloc HB2.out.size _;go_wp2;exact⟨⟨1,by omega,rfl,HR,HBR⟩,by decide⟩
    obtain⟨o,ho⟩:∃o:Al,o=⟨x.a,x.b⟩:=⟨_,rfl⟩;have Y7:Hid (iN false xs x (0+1)=eT (iN false xs x 0) o):=by show _=_;rw[ho];rfl
    obtain⟨ys,hys⟩:∃ys,ys=iN false xs x 0:=⟨_,rfl⟩;rw[<-hys]at Y7 WV hsl;obtain⟨ns,hns⟩:∃ns,ns=iN false xs x (0+1):=⟨_,rfl⟩;have XG:Hid (∀(W:World) (v:Value),W.ownsRow w.heap.size 27 2 v ns.length (pairs ns)->W.ownsRow w.heap.size 27 2 v (iN false xs x (0+1)).length (pairs (iN false xs x (0+1)))):=fun W v h=>by rw[<-hns];exact h
    rw[<-hns]at Y7;clear hns;clear hys;have hx1:x.a=o.t:=by rw[ho]
    have hx2:x.b=o.s:=by rw[ho]
    clear ho;obtain⟨Yw,X0,rfl,hsO⟩:=mq WV.out;have HSO:=ax hsO;obtain⟨W1,hW1⟩:∃W1,W1=w2.alloc (.cells #[.string o.t,.string o.s] 27):=⟨_,rfl⟩;have Yf:=oQ hW1;have hz1:w2.heap.size<W1.heap.size:=by rw[hW1];simp
    have d0:W1.cell? ⟨w2.heap.size,0,none⟩=some (.string o.t):=by rw[hW1];simp
    have d1:W1.cell? ⟨w2.heap.size,1,none⟩=some (.string o.s):=by rw[hW1];simp
    clear hsO;go_wp2_with fail;rw[<-hW1];clear hW1 t0 t1 t2 t3 t4 t5 hx1 hx2
   case' inr =>
    cases u
    case' true =>
     cases hz:x.s.toList.isEmpty;case false =>
      have hs2:(x.s.toList==[])=false:=by rw[rV];exact hz
      have HE:Hid (iN true xs x 2=iN true xs x 1):=by show dA xs x=xs;unfold dA;rw[hs2];rfl
      have HR:Hid ((w2.alloc (.cells #[.string x.c,.string x.d] 27)).ownsRow w.heap.size 27 2 u5 (iN true xs x 2).length (pairs (iN true xs x 2))):=by show World.ownsRow _ _ _ _ _ _ _;rw[HE.out];exact WV.out.alloc _
      have HBR:Hid (af w (w2.alloc (.cells #[.string x.c,.string x.d] 27))):=HB2.out.alloc HB2.out.size _;go_wp2;exact⟨⟨2,by omega,rfl,HR,HBR⟩,by decide⟩
     have hs2:(x.s.toList==[])=true:=by rw[rV];exact hz
     obtain⟨o,ho⟩:∃o:Al,o=⟨x.c,x.d⟩:=⟨_,rfl⟩;have Y7:Hid (iN true xs x (1+1)=eT (iN true xs x 1) o):=by show _=_;rw[ho];show dA xs x=_;unfold dA;rw[hs2];rfl
     obtain⟨ys,hys⟩:∃ys,ys=iN true xs x 1:=⟨_,rfl⟩;rw[<-hys]at Y7 WV hsl;obtain⟨ns,hns⟩:∃ns,ns=iN true xs x (1+1):=⟨_,rfl⟩;have XG:Hid (∀(W:World) (v:Value),W.ownsRow w.heap.size 27 2 v ns.length (pairs ns)->W.ownsRow w.heap.size 27 2 v (iN true xs x (1+1)).length (pairs (iN true xs x (1+1)))):=fun W v h=>by rw[<-hns];exact h
     rw[<-hns]at Y7;clear hns;clear hys;have hx1:x.c=o.t:=by rw[ho]
     have hx2:x.d=o.s:=by rw[ho]
     clear ho;obtain⟨Yw,X0,rfl,hsO⟩:=mq WV.out;have HSO:=ax hsO;obtain⟨W1,hW1⟩:∃W1,W1=w2.alloc (.cells #[.string o.t,.string o.s] 27):=⟨_,rfl⟩;have Yf:=oQ hW1;have hz1:w2.heap.size<W1.heap.size:=by rw[hW1];simp
     have d0:W1.cell? ⟨w2.heap.size,0,none⟩=some (.string o.t):=by rw[hW1];simp
     have d1:W1.cell? ⟨w2.heap.size,1,none⟩=some (.string o.s):=by rw[hW1];simp
     clear hsO;go_wp2_with fail;rw[<-hW1];clear hW1 t0 t1 t2 t3 t4 t5 hx1 hx2
    case' false =>
     obtain⟨o,ho⟩:∃o:Al,o=⟨x.c,x.d⟩:=⟨_,rfl⟩;have Y7:Hid (iN false xs x (1+1)=eT (iN false xs x 1) o):=by show _=_;rw[ho];rfl
     obtain⟨ys,hys⟩:∃ys,ys=iN false xs x 1:=⟨_,rfl⟩;rw[<-hys]at Y7 WV hsl;obtain⟨ns,hns⟩:∃ns,ns=iN false xs x (1+1):=⟨_,rfl⟩;have XG:Hid (∀(W:World) (v:Value),W.ownsRow w.heap.size 27 2 v ns.length (pairs ns)->W.ownsRow w.heap.size 27 2 v (iN false xs x (1+1)).length (pairs (iN false xs x (1+1)))):=fun W v h=>by rw[<-hns];exact h
     rw[<-hns]at Y7;clear hns;clear hys;have hx1:x.c=o.t:=by rw[ho]
     have hx2:x.d=o.s:=by rw[ho]
     clear ho;obtain⟨Yw,X0,rfl,hsO⟩:=mq WV.out;have HSO:=ax hsO;obtain⟨W1,hW1⟩:∃W1,W1=w2.alloc (.cells #[.string o.t,.string o.s] 27):=⟨_,rfl⟩;have Yf:=oQ hW1;have hz1:w2.heap.size<W1.heap.size:=by rw[hW1];simp
     have d0:W1.cell? ⟨w2.heap.size,0,none⟩=some (.string o.t):=by rw[hW1];simp
     have d1:W1.cell? ⟨w2.heap.size,1,none⟩=some (.string o.s):=by rw[hW1];simp
     clear hsO;go_wp2_with fail;rw[<-hW1];clear hW1 t0 t1 t2 t3 t4 t5 hx1 hx2
   all_goals
    go_loopw[9,10] (fun ov j w3=>∃(m:Nat) (bb:Bool),m<=ys.length/\ov=.bool bb/\j=.int .i64 m/\Hid (bb=om (ys.take m) o)/\Hid (af W1 w3)) (fun _ j _=>ys.length-(intOf j).toNat);case atStart=>exact⟨0,false,VG _,rfl,rfl,rfl,VD _ _⟩
    obtain⟨m,bb,hm,rfl,rfl,YK,HB3⟩:=hrel;have HBx:Hid (af w2 wr):=Yf.out.trans (HB3.out.mono Yf.out.size);have HBw:Hid (af w wr):=HB2.out.trans (HBx.out.mono HB2.out.size);have HOx:=ax (aJ WV.out HBx.out);have c0:=mK HB3.out hz1 d0;have c1:=mK HB3.out hz1 d1;have hz3:w2.heap.size<wr.heap.size:=Vy hz1 HB3.out.size;by_cases hlm:m<ys.length
    ·obtain⟨bO,Xy,ZW,⟨s0,s1⟩,hbO⟩:=ll.at0 (HSO.out.below HBx.out) hlm;have hm1:=bq m;have hm2:(m:Int)<(ys.length:Int):=by omega
     have HTK:=ax (JJ (o:=o) hlm);cases bb;case true=>
      have HBB2:Hid (true=om (ys.take (m+1)) o):=by show _=_;rw[HTK.out,<-YK.out];rfl
      clear s0 s1 c0 c1;go_wp2_with fail;go_quiet (fail);go_wp2;go_roundw;case rel=>exact⟨m+1,true,by omega,rfl,by go_num,HBB2,below_drewN HB3.out _⟩
      simp[intOf]<;>omega
     cases hv:Ar ys[m].t ys[m].s o.t o.s;case true=>
      have heq:=jH _ _ _ _ hv;have HBB2:Hid (true=om (ys.take (m+1)) o):=by show _=_;rw[HTK.out,hv];simp
      clear hv;go_wp2_with fail;go_quiet (fail);go_wp2;go_roundw;case rel=>exact⟨m+1,true,by omega,rfl,by go_num,HBB2,below_drewN HB3.out _⟩
      simp[intOf]<;>omega
     have heq:=jH _ _ _ _ hv;have HBB2:Hid (false=om (ys.take (m+1)) o):=by show _=_;rw[HTK.out,hv,<-YK.out];rfl
     clear hv;go_wp2_with fail;go_quiet (fail);go_wp2;go_roundw;case rel=>exact⟨m+1,false,by omega,rfl,by go_num,HBB2,below_drewN HB3.out _⟩
     simp[intOf]<;>omega
    have Xl:Hid (bb=om ys o):=by show _=_;rw[YK.out,Wl (by omega)]
    cases bb;case true=>
     have HR:Hid (wr.ownsRow w.heap.size 27 2 (.slice Yw ys.length X0) (ns).length (pairs (ns))):=by
      show World.ownsRow _ _ _ _ _ _ _;rw[Y7.out];unfold eT;rw[<-Xl.out];exact HOx.out
     clear Xl c0 c1;go_wp2;have HR2:=ax (XG.out _ _ HR.out)
     first|exact⟨⟨0+1,by omega,rfl,HR2,HBw⟩,by decide⟩|exact⟨⟨1+1,by omega,rfl,HR2,HBw⟩,by decide⟩
    have HWE:Hid (eT ys o=ys++[o]):=by show _=_;unfold eT;rw[<-Xl.out];rfl
    obtain⟨W4,XX⟩:∃W4,W4=wr.alloc (.cells #[.string o.t,.string o.s] 27):=⟨_,rfl⟩;have Xk:Hid (W4.ownsRow w.heap.size 27 2 (.slice Yw ys.length X0) ys.length (pairs ys)):=by show World.ownsRow _ _ _ _ _ _ _;rw[XX];exact HOx.out.alloc _
    have HN4:Hid (∀j u,[Value.string o.t,.string o.s][j]?=some u->W4.cell? ((⟨wr.heap.size,0,none⟩:Addr).add j)=some u):=by rw[XX];exact Tk wr o
    have X7:Hid (af w W4):=by show Below _ _ _;rw[XX];exact HBw.out.alloc HBw.out.size _
    have hsz4:w.heap.size<=W4.heap.size:=X7.out.size;clear Xl;go_wp2_with(at_builtin;rw[<-XX];clear XX;refine wpList_append_own_at _ rfl _ _ 124 rfl w.heap.size 27 iO (.agg #[.string ⟨#[]⟩,.string ⟨#[]⟩]) 2 32 underlying124 HIO.out.1 HIO.out.2.1 HIO.out.2.2.1 HIO.out.2.2.2 rfl (by decide) _ ys.length (pairs ys) rfl Xk.out ⟨wr.heap.size,0,none⟩ 1 1 [.string o.t,.string o.s] rfl rfl HN4.out (by simp[Value.oneCell']) (by unfold maxLen;omega) (by omega) hsz4 ?_);intro v' w5 hown hgr _ _;have HR:Hid (w5.ownsRow w.heap.size 27 2 v' (ns).length (pairs (ns))):=by
     show World.ownsRow _ _ _ _ _ _ _;rw[Y7.out,HWE.out,VI];have:pairs (ys++[o])=pairs ys++[.string o.t,.string o.s]:=by simp[pairs]
     rw[this];exact hown
    have HBR:Hid (af w w5):=X7.out.grown hgr X7.out.size (fun g hg=>(Xk.out.lt g hg).1);clear hown hgr c0 c1;go_wp2;have HR2:=ax (XG.out _ _ HR.out)
    first|exact⟨⟨0+1,by omega,rfl,HR2,HBR⟩,by decide⟩|exact⟨⟨1+1,by omega,rfl,HR2,HBR⟩,by decide⟩
  have Xm:Hid (w2.ownsRow w.heap.size 27 2 u5 (fM u (ts.take (k+1))).length (pairs (fM u (ts.take (k+1))))):=by
   have e:q=2:=by omega
   have h2:=WV.out;rw[e]at h2;show World.ownsRow _ _ _ _ _ _ _;rw[HSU.out];exact h2
  go_wp2;go_roundw;case rel=>exact⟨k+1,by omega,by go_num,Xm,HB2⟩
  simp[intOf]<;>omega
 have HE:Hid (fM u (ts.take k)=fM u ts):=by show _=_;rw[Wl (by omega)]
 have Xm:Hid (wr.ownsRow w.heap.size 27 2 u5 (fM u ts).length (pairs (fM u ts))):=by show World.ownsRow _ _ _ _ _ _ _;rw[<-HE.out];exact HOW.out
 go_wp2;go_ret;exact⟨⟨_,rfl,Xm.out⟩,WZ.out⟩
end Go.Proofs.YtcgdckphpjfmhaaGreatDoor
