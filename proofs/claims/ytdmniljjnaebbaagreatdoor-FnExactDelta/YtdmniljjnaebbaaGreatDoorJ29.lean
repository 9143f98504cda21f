/- errors.Is, at an error that is nil, a sentinel, or a refusal that holds a sentinel: Go's own text is walked. -/
import Derived.Test.YtdmniljjnaebbaaGreatDoorSq
import Derived.Test.YtdmniljjnaebbaaGreatDoorJ17
import Derived.LaidEql
import Derived.Stop.Asserts
import Derived.RowKitTokens
import Derived.Test.YtdmniljjnaebbaaGreatDoorJ20
import Derived.Test.YtdmniljjnaebbaaGreatDoorShelfS
open Go.Proofs.Tryz
set_option maxHeartbeats 80000000
namespace Go.Proofs.YtdmniljjnaebbaaGreatDoor
set_option maxRecDepth 100000
set_option linter.unusedVariables false
open Go.RowKit Go.Extern.Stop Go.Stop Go.Extern
theorem NP (v:Value) (w:af):(ReflectliteType.typeOf #[.iface 321 v]).run prog w=.ok (.iface 213 (.agg #[.pointer (some ⟨8,321,none⟩)])) w:=by kernel_rfl
theorem NQ:∃ g,find Tryz.f244=some g∧∀ w:World,(g #[.agg #[.pointer (some ⟨8,321,none⟩)]]).run prog w=.ok (.bool true) w :=
 ⟨(find Tryz.f244).get (by kernel_rfl),(Option.some_get _).symm,fun w=>by kernel_rfl⟩
theorem NR (v : Value) (w : World) : (Go.method 454 213 v "Comparable").run Tryz.prog w = .ok (244, v) w := by kernel_rfl
theorem QX:(prog.info? 321).map (·.comparable)=some true:=by kernel_rfl
theorem NS:(prog.info? 342).map (·.size)=some 1:=by kernel_rfl
theorem QY (v:Value) (x:TypeId) (w:af):(Instr.typeAssert (.iface 321 v) x 266 true).run prog w=.ok (.tuple #[.nilIface,.bool false]) w:=run_typeAssert_lacksB underlying266 (by kernel_rfl) (by kernel_rfl) v x w
theorem NT (v:Value) (x:TypeId) (w:af):(Instr.typeAssert (.iface 321 v) x 221 true).run prog w=.ok (.tuple #[.nilIface,.bool false]) w:=run_typeAssert_lacksB underlying221 (by kernel_rfl) (by kernel_rfl) v x w
theorem NU (v:Value) (x:TypeId) (w:af):(Instr.typeAssert (.iface 321 v) x 223 true).run prog w=.ok (.tuple #[.nilIface,.bool false]) w:=run_typeAssert_lacksB underlying223 (by kernel_rfl) (by kernel_rfl) v x w
theorem QZ (v:Value) (x:TypeId) (w:af):(Instr.typeAssert (.iface 101 v) x 266 true).run prog w=.ok (.tuple #[.nilIface,.bool false]) w:=run_typeAssert_lacksB underlying266 (by kernel_rfl) (by kernel_rfl) v x w
theorem Q0 (v:Value) (x:TypeId) (w:af):(Instr.typeAssert (.iface 101 v) x 221 true).run prog w=.ok (.tuple #[.iface 101 v,.bool true]) w:=run_typeAssert_hasB underlying221 (by kernel_rfl) v x w
theorem NV (v : Value) (w : World) : (Go.method 454 101 v "Unwrap").run Tryz.prog w = .ok (238, v) w := by kernel_rfl
theorem uU (b:Addr) (w:af):Calls prog 91 #[.nilIface,.iface 321 (.pointer (some b))] w fun e w'=>e=.returned (.bool false)∧w'=w:=by
 have hn:=run_eql_iface_nil_left (P:=prog) w 321 (.pointer (some b)) underlying98;go_enter func91,ntmps91;go_wp2;go_ret;exact ⟨rfl,rfl⟩
theorem PE (b:Addr) (w:af):Calls prog 91 #[.iface 321 (.pointer (some b)),.iface 321 (.pointer (some b))] w fun e w'=>e=.returned (.bool true)∧w'=w:=by
 obtain ⟨i,hi,hcmp⟩:=Option.map_eq_some_iff.1 QX;obtain ⟨j,hj,hjs⟩:=Option.map_eq_some_iff.1 NS;have x1:=@run_callFunc_extern prog 120 _ ReflectliteType.typeOf func120 (by kernel_rfl) (by kernel_rfl) (by kernel_rfl) (by kernel_rfl);obtain ⟨gC,ZP,x4⟩:=NQ;have x2:=@run_callFunc_extern prog 244 _ gC func244 (by kernel_rfl) (by kernel_rfl) (by kernel_rfl) ZP;have x3:=NP;have x5:=NR;have x6:=QY;have x7:=NT;have x8:=NU;have x9:=QZ;have x10:=Q0;have x11:=NV;have heq:=run_eql_iface_ptr_same (P:=prog) w b underlying98 underlying321 hi hcmp hj;go_enter func91,ntmps91;go_wp2;refine wp_loop_rounds 1 ?_;rw [rounds_succ];go_wp2;go_ret;exact ⟨rfl,rfl⟩
theorem jM (p:Nat) (b:Addr) (w:af) (h1:w.cell? ⟨p,0,none⟩=some (.iface 321 (.pointer (some b)))):Calls prog 91 #[.iface 101 (.pointer (some ⟨p,0,none⟩)),.iface 321 (.pointer (some b))] w fun e w'=>e=.returned (.bool true)∧w'=w:=by
 obtain ⟨i,hi,hcmp⟩:=Option.map_eq_some_iff.1 QX;obtain ⟨j,hj,hjs⟩:=Option.map_eq_some_iff.1 NS;have x1:=@run_callFunc_extern prog 120 _ ReflectliteType.typeOf func120 (by kernel_rfl) (by kernel_rfl) (by kernel_rfl) (by kernel_rfl);obtain ⟨gC,ZP,x4⟩:=NQ;have x2:=@run_callFunc_extern prog 244 _ gC func244 (by kernel_rfl) (by kernel_rfl) (by kernel_rfl) ZP;have x3:=NP;have x5:=NR;have x6:=QY;have x7:=NT;have x8:=NU;have x9:=QZ;have x10:=Q0;have x11:=NV;have heq:=run_eql_iface_ptr_same (P:=prog) w b underlying98 underlying321 hi hcmp hj;have hty:=run_eql_iface_types (P:=prog) 101 321 (.pointer (some ⟨p,0,none⟩)) (.pointer (some b)) underlying98 (by decide) w;go_enter func91,ntmps91;go_wp2;refine wp_loop_rounds 2 ?_;rw [rounds_succ];go_wp2;rw [rounds_succ];go_wp2;go_ret;exact ⟨rfl,rfl⟩
theorem aV (p:Nat) (a b:Addr) (ca cb:Array Value) (ta tb:TypeId) (w:af) (h1:w.cell? ⟨p,0,none⟩=some (.iface 321 (.pointer (some a)))) (hne:a ≠ b) (ha:w.heap[a.block]?=some (.cells ca ta (0,0))) (hb:w.heap[b.block]?=some (.cells cb tb (0,0))):Calls prog 91 #[.iface 101 (.pointer (some ⟨p,0,none⟩)),.iface 321 (.pointer (some b))] w fun e w'=>e=.returned (.bool false)∧w'=w:=by
 obtain ⟨i,hi,hcmp⟩:=Option.map_eq_some_iff.1 QX;obtain ⟨j,hj,hjs⟩:=Option.map_eq_some_iff.1 NS;have x1:=@run_callFunc_extern prog 120 _ ReflectliteType.typeOf func120 (by kernel_rfl) (by kernel_rfl) (by kernel_rfl) (by kernel_rfl);obtain ⟨gC,ZP,x4⟩:=NQ;have x2:=@run_callFunc_extern prog 244 _ gC func244 (by kernel_rfl) (by kernel_rfl) (by kernel_rfl) ZP;have x3:=NP;have x5:=NR;have x6:=QY;have x7:=NT;have x8:=NU;have x9:=QZ;have x10:=Q0;have x11:=NV;have heq:=run_eql_iface_ptr_other (P:=prog) w underlying98 underlying321 hi hcmp hj (by rw [hjs]; decide) hne ha hb;have hty:=run_eql_iface_types (P:=prog) 101 321 (.pointer (some ⟨p,0,none⟩)) (.pointer (some b)) underlying98 (by decide) w;go_enter func91,ntmps91;go_wp2;refine wp_loop_rounds 2 ?_;rw [rounds_succ];go_wp2;rw [rounds_succ];go_wp2;go_ret;exact ⟨rfl,rfl⟩
theorem Q3 (t:Value) (w:af):Calls prog 57 #[.nilIface,t] w fun e w'=>e=.returned (.bool false)∧w'=w:=by
 go_enter func57,ntmps57;go_wp2;go_ret;exact ⟨rfl,rfl⟩
theorem Sa:∃ g,find Tryz.f87=some g∧(∀ (t:Addr) (w:af),(g #[.iface 103 (.pointer (some t))]).run prog w=.ok (.agg #[.pointer (some ⟨8,103,none⟩),.pointer (some ⟨w.heap.size,0,none⟩),.int .u64 150]) (w.alloc (.cells #[.pointer (some t)] 103)))∧∀ (e:Addr) (w:af),(g #[.iface 101 (.pointer (some e))]).run prog w=.ok (.agg #[.pointer (some ⟨8,101,none⟩),.pointer (some ⟨w.heap.size,0,none⟩),.int .u64 150]) (w.alloc (.cells #[.pointer (some e)] 101)) :=
 ⟨(find Tryz.f87).get (by kernel_rfl),(Option.some_get _).symm,fun t w=>by kernel_rfl,fun e w=>by kernel_rfl⟩
theorem RF:∃ g,find Tryz.f88=some g∧∀ (a:Addr) (w:af),(g #[.agg #[.pointer (some ⟨8,103,none⟩),.pointer (some a),.int .u64 150]]).run prog w=.ok (.iface 213 (.agg #[.pointer (some ⟨8,103,none⟩)])) w :=
 ⟨(find Tryz.f88).get (by kernel_rfl),(Option.some_get _).symm,fun a w=>by kernel_rfl⟩
theorem Qf (h : Value) (w : World) : (Go.method 454 213 (.agg #[h]) "Kind").run Tryz.prog w = .ok (234, h) w := by kernel_rfl
theorem Qg (h : Value) (w : World) : (Go.method 454 213 (.agg #[h]) "Elem").run Tryz.prog w = .ok (245, .agg #[h]) w := by kernel_rfl
theorem Qh (h : Value) (w : World) : (Go.method 454 213 (.agg #[h]) "Implements").run Tryz.prog w = .ok (246, .agg #[h]) w := by kernel_rfl
theorem Qi (h : Value) (w : World) : (Go.method 454 213 (.agg #[h]) "AssignableTo").run Tryz.prog w = .ok (243, .agg #[h]) w := by kernel_rfl
theorem Qj:∃ g,find Tryz.f234=some g∧(∀ w:World,(g #[.pointer (some ⟨8,103,none⟩)]).run prog w=.ok (.int .u8 22) w)∧∀ w:World,(g #[.pointer (some ⟨8,101,none⟩)]).run prog w=.ok (.int .u8 22) w :=
 ⟨(find Tryz.f234).get (by kernel_rfl),(Option.some_get _).symm,fun w=>by kernel_rfl,fun w=>by kernel_rfl⟩
theorem Qk:∃ g,find Tryz.f245=some g∧∀ w:World,(g #[.agg #[.pointer (some ⟨8,103,none⟩)]]).run prog w=.ok (.iface 213 (.agg #[.pointer (some ⟨8,101,none⟩)])) w :=
 ⟨(find Tryz.f245).get (by kernel_rfl),(Option.some_get _).symm,fun w=>by kernel_rfl⟩
theorem Ql:∃ g,find Tryz.f246=some g∧∀ w:World,(g #[.agg #[.pointer (some ⟨8,101,none⟩)],.iface 213 (.agg #[.pointer (some ⟨8,98,none⟩)])]).run prog w=.ok (.bool true) w :=
 ⟨(find Tryz.f246).get (by kernel_rfl),(Option.some_get _).symm,fun w=>by kernel_rfl⟩
theorem Qm:∃ g,find Tryz.f243=some g∧(∀ w:World,(g #[.agg #[.pointer (some ⟨8,101,none⟩)],.iface 213 (.agg #[.pointer (some ⟨8,101,none⟩)])]).run prog w=.ok (.bool true) w)∧∀ w:World,(g #[.agg #[.pointer (some ⟨8,321,none⟩)],.iface 213 (.agg #[.pointer (some ⟨8,101,none⟩)])]).run prog w=.ok (.bool false) w :=
 ⟨(find Tryz.f243).get (by kernel_rfl),(Option.some_get _).symm,fun w=>by kernel_rfl,fun w=>by kernel_rfl⟩
theorem RG (v:Value) (w:af):(ReflectliteType.typeOf #[.iface 101 v]).run prog w=.ok (.iface 213 (.agg #[.pointer (some ⟨8,101,none⟩)])) w:=by kernel_rfl
theorem RH (v:Value) (x:TypeId) (w:af):(Instr.typeAssert (.iface 321 v) x 218 true).run prog w=.ok (.tuple #[.nilIface,.bool false]) w:=run_typeAssert_lacksB underlying218 (by kernel_rfl) (by kernel_rfl) v x w
theorem NW (a:Addr) (w:af):(ReflectliteValue.parts (.agg #[.pointer (some ⟨8,103,none⟩),.pointer (some a),.int .u64 150])).run prog w=.ok (some (103,a,150)) w:=by kernel_rfl
theorem Q4 (a:Addr) (w:af):(ReflectliteValue.parts (.agg #[.pointer (some ⟨8,101,none⟩),.pointer (some a),.int .u64 150])).run prog w=.ok (some (101,a,150)) w:=by kernel_rfl
theorem Q5 (a:Addr) (w:af):(ReflectliteValue.parts (.agg #[.pointer (some ⟨8,101,none⟩),.pointer (some a),.int .u64 406])).run prog w=.ok (some (101,a,406)) w:=by kernel_rfl
theorem RI (w:af):(Rtype.elem? 103).run prog w=.ok (some 101) w:=by kernel_rfl
theorem Sc (p:Addr) (w:af):(ReflectliteValue.mk 101 p ReflectliteValue.flagAddr).run prog w=.ok (.agg #[.pointer (some ⟨8,101,none⟩),.pointer (some p),.int .u64 406]) w:=by kernel_rfl
theorem R6 (w:af):(Rtype.directlyAssignable 101 101).run prog w=.ok true w:=by kernel_rfl
theorem NY (a p : Addr) (W : World) (ha : W.cell? a = some (.pointer (some p))) : (ReflectliteValue.method (ReflectliteValue.valueError "reflectlite.Value.IsNil" 0) ReflectliteValue.isNil #[.agg #[.pointer (some ⟨8, 103, none⟩), .pointer (some a), .int .u64 150]]).run Tryz.prog W = .ok (.bool false) W := by
 change Sem.run prog (ReflectliteValue.parts (.agg #[.pointer (some ⟨8,103,none⟩),.pointer (some a),.int .u64 150]) >>= _) W=_
 rw [Sem.run_bind,NW,Result.andThen_ok];simp [ ReflectliteValue.isNil,loadVar,isAgg,underlying,underlying103,ha,Result.andThen]
theorem Q6 (a p : Addr) (W : World) (ha : W.cell? a = some (.pointer (some p))) : (ReflectliteValue.method (ReflectliteValue.valueError "reflectlite.Value.Elem" 0) ReflectliteValue.elem #[.agg #[.pointer (some ⟨8, 103, none⟩), .pointer (some a), .int .u64 150]]).run Tryz.prog W = .ok (.agg #[.pointer (some ⟨8, 101, none⟩), .pointer (some p), .int .u64 406]) W := by
 change Sem.run prog (ReflectliteValue.parts (.agg #[.pointer (some ⟨8,103,none⟩),.pointer (some a),.int .u64 150]) >>= _) W=_
 rw [Sem.run_bind,NW,Result.andThen_ok];simp [ ReflectliteValue.elem,loadVar,isAgg,underlying,underlying103,ha,Result.andThen,RI,Sc]
theorem R7 (ta b e:Addr) (old:Value) (W:af) (hb:W.cell? b=some (.pointer (some e))) (ht:W.cell? ta=some old) (hf:W.frozen? ta=false) :
  (ReflectliteValue.set #[.agg #[.pointer (some ⟨8,101,none⟩),.pointer (some ta),.int .u64 406],.agg #[.pointer (some ⟨8,101,none⟩),.pointer (some b),.int .u64 150]]).run prog W=.ok (.tuple #[]) (W.setCell ta (.pointer (some e))):=by
 change Sem.run prog (ReflectliteValue.parts (.agg #[.pointer (some ⟨8,101,none⟩),.pointer (some ta),.int .u64 406]) >>= fun x=>ReflectliteValue.parts (.agg #[.pointer (some ⟨8,101,none⟩),.pointer (some b),.int .u64 150]) >>= _) W=_
 rw [Sem.run_bind,Q5,Result.andThen_ok,Sem.run_bind,Q4,Result.andThen_ok];simp [ ReflectliteValue.flagAddr,loadVar,isAgg,underlying,underlying101,hb,Result.andThen,R6,storeVar,Value.cells,storeCells,Addr.add];rw [run_store prog W ta _ _ (by rfl)];simp [ht,hf]
theorem Q7 (e t:Addr) (old:Value) (w:af) (hg:w.cell? ⟨1,0,none⟩=some (.iface 213 (.agg #[.pointer (some ⟨8,98,none⟩)]))) (ht0:w.cell? t=some old) (hf0:w.frozen? t=false) :
  Calls prog 57 #[.iface 101 (.pointer (some e)),.iface 103 (.pointer (some t))] w fun ev w'=>ev=.returned (.bool true)∧∃ W1,aa w W1∧w'=W1.setCell t (.pointer (some e)):=by
 obtain ⟨gV,hgV,v1,v2⟩:=Sa;obtain ⟨gT,hgT,v3⟩:=RF;obtain ⟨gK,hgK,v4,v5⟩:=Qj;obtain ⟨gE,hgE,v6⟩:=Qk;obtain ⟨gI,hgI,v7⟩:=Ql;obtain ⟨gA,hgA,v8,v9⟩:=Qm;have y1:=@run_callFunc_extern prog 87 _ gV func87 (by kernel_rfl) (by kernel_rfl) (by kernel_rfl) hgV;have y2:=@run_callFunc_extern prog 88 _ gT func88 (by kernel_rfl) (by kernel_rfl) (by kernel_rfl) hgT;have y3:=@run_callFunc_extern prog 234 _ gK func234 (by kernel_rfl) (by kernel_rfl) (by kernel_rfl) hgK;have y4:=@run_callFunc_extern prog 245 _ gE func245 (by kernel_rfl) (by kernel_rfl) (by kernel_rfl) hgE;have y5:=@run_callFunc_extern prog 246 _ gI func246 (by kernel_rfl) (by kernel_rfl) (by kernel_rfl) hgI;have y6:=@run_callFunc_extern prog 243 _ gA func243 (by kernel_rfl) (by kernel_rfl) (by kernel_rfl) hgA;have y7 := @run_callFunc_extern Tryz.prog 89 _ (ReflectliteValue.method (ReflectliteValue.valueError "reflectlite.Value.IsNil" 0) ReflectliteValue.isNil) Tryz.func89 (by kernel_rfl) (by kernel_rfl) (by kernel_rfl) (by kernel_rfl);have y8:=@run_callFunc_extern prog 120 _ ReflectliteType.typeOf func120 (by kernel_rfl) (by kernel_rfl) (by kernel_rfl) (by kernel_rfl);have y9 := @run_callFunc_extern Tryz.prog 121 _ (ReflectliteValue.method (ReflectliteValue.valueError "reflectlite.Value.Elem" 0) ReflectliteValue.elem) Tryz.func121 (by kernel_rfl) (by kernel_rfl) (by kernel_rfl) (by kernel_rfl);have y10:=@run_callFunc_extern prog 122 _ ReflectliteValue.set func122 (by kernel_rfl) (by kernel_rfl) (by kernel_rfl) (by kernel_rfl);have z1:=Qf;have z2:=Qg;have z3:=Qh;have z4:=Qi;have z5:=RG;have z6:=NP;have z7:=RH;have z8:=NT;have z9:=NU;have hlt:1 < w.heap.size:=World.block_lt_of_cell? w ⟨1,0,none⟩ hg;have n8:=NY ⟨w.heap.size,0,none⟩ t ((w.alloc (.cells #[.pointer (some t)] 103)).alloc (.cells #[.pointer (some ⟨8,103,none⟩),.pointer (some ⟨w.heap.size,0,none⟩),.int .u64 150] 156)) (by simp);have hg2:((w.alloc (.cells #[.pointer (some t)] 103)).alloc (.cells #[.pointer (some ⟨8,103,none⟩),.pointer (some ⟨w.heap.size,0,none⟩),.int .u64 150] 156)).cell? ⟨1,0,none⟩=some (.iface 213 (.agg #[.pointer (some ⟨8,98,none⟩)])):=by
  rw [World.cell?_alloc_lt _ _ ⟨1,0,none⟩ (by simp; omega),World.cell?_alloc_lt _ _ ⟨1,0,none⟩ hlt]; exact hg
 have htl:t.block < w.heap.size:=World.block_lt_of_cell? w t ht0;have el:=Q6 ⟨w.heap.size,0,none⟩ t (((w.alloc (.cells #[.pointer (some t)] 103)).alloc (.cells #[.pointer (some ⟨8,103,none⟩),.pointer (some ⟨w.heap.size,0,none⟩),.int .u64 150] 156)).alloc (.cells #[.pointer (some ⟨8,103,none⟩),.pointer (some ⟨w.heap.size,0,none⟩),.int .u64 150] 156)) (by rw [World.cell?_alloc_lt _ _ ⟨w.heap.size,0,none⟩ (by simp; omega)]; simp)
 have st:=R7 t ⟨w.heap.size + 1 + 1 + 1,0,none⟩ e old ((((w.alloc (.cells #[.pointer (some t)] 103)).alloc (.cells #[.pointer (some ⟨8,103,none⟩),.pointer (some ⟨w.heap.size,0,none⟩),.int .u64 150] 156)).alloc (.cells #[.pointer (some ⟨8,103,none⟩),.pointer (some ⟨w.heap.size,0,none⟩),.int .u64 150] 156)).alloc (.cells #[.pointer (some e)] 101))
  (by rw [World.cell?_alloc_at _ _ _ _ (by simp)]; rfl)
  (by rw [World.cell?_alloc_lt _ _ t (by simp; omega),World.cell?_alloc_lt _ _ t (by simp; omega),World.cell?_alloc_lt _ _ t (by simp; omega),World.cell?_alloc_lt _ _ t htl]; exact ht0)
  (by rw [World.frozen?_alloc_old _ _ t (by simp; omega),World.frozen?_alloc_old _ _ t (by simp; omega),World.frozen?_alloc_old _ _ t (by simp; omega),World.frozen?_alloc_old _ _ t (Nat.ne_of_lt htl)]; exact hf0)
 go_enter func57,ntmps57;go_wp2;refine wp_loop_rounds 1 ?_;rw [rounds_succ];go_wp2;go_ret;exact ⟨rfl,((((w.alloc (.cells #[.pointer (some t)] 103)).alloc (.cells #[.pointer (some ⟨8,103,none⟩),.pointer (some ⟨w.heap.size,0,none⟩),.int .u64 150] 156)).alloc (.cells #[.pointer (some ⟨8,103,none⟩),.pointer (some ⟨w.heap.size,0,none⟩),.int .u64 150] 156)).alloc (.cells #[.pointer (some e)] 101)),by
  repeat (first | exact Si _ _ | refine Below.alloc ?_ (by first | (simp; done) | (simp; omega)) _),rfl⟩
theorem PG (e t:Addr) (w:af) (hg:w.cell? ⟨1,0,none⟩=some (.iface 213 (.agg #[.pointer (some ⟨8,98,none⟩)]))) :
  Calls prog 57 #[.iface 321 (.pointer (some e)),.iface 103 (.pointer (some t))] w fun ev w'=>ev=.returned (.bool false)∧aa w w':=by
 obtain ⟨gV,hgV,v1,v2⟩:=Sa;obtain ⟨gT,hgT,v3⟩:=RF;obtain ⟨gK,hgK,v4,v5⟩:=Qj;obtain ⟨gE,hgE,v6⟩:=Qk;obtain ⟨gI,hgI,v7⟩:=Ql;obtain ⟨gA,hgA,v8,v9⟩:=Qm;have y1:=@run_callFunc_extern prog 87 _ gV func87 (by kernel_rfl) (by kernel_rfl) (by kernel_rfl) hgV;have y2:=@run_callFunc_extern prog 88 _ gT func88 (by kernel_rfl) (by kernel_rfl) (by kernel_rfl) hgT;have y3:=@run_callFunc_extern prog 234 _ gK func234 (by kernel_rfl) (by kernel_rfl) (by kernel_rfl) hgK;have y4:=@run_callFunc_extern prog 245 _ gE func245 (by kernel_rfl) (by kernel_rfl) (by kernel_rfl) hgE;have y5:=@run_callFunc_extern prog 246 _ gI func246 (by kernel_rfl) (by kernel_rfl) (by kernel_rfl) hgI;have y6:=@run_callFunc_extern prog 243 _ gA func243 (by kernel_rfl) (by kernel_rfl) (by kernel_rfl) hgA;have y7 := @run_callFunc_extern Tryz.prog 89 _ (ReflectliteValue.method (ReflectliteValue.valueError "reflectlite.Value.IsNil" 0) ReflectliteValue.isNil) Tryz.func89 (by kernel_rfl) (by kernel_rfl) (by kernel_rfl) (by kernel_rfl);have y8:=@run_callFunc_extern prog 120 _ ReflectliteType.typeOf func120 (by kernel_rfl) (by kernel_rfl) (by kernel_rfl) (by kernel_rfl);have y9 := @run_callFunc_extern Tryz.prog 121 _ (ReflectliteValue.method (ReflectliteValue.valueError "reflectlite.Value.Elem" 0) ReflectliteValue.elem) Tryz.func121 (by kernel_rfl) (by kernel_rfl) (by kernel_rfl) (by kernel_rfl);have y10:=@run_callFunc_extern prog 122 _ ReflectliteValue.set func122 (by kernel_rfl) (by kernel_rfl) (by kernel_rfl) (by kernel_rfl);have z1:=Qf;have z2:=Qg;have z3:=Qh;have z4:=Qi;have z5:=RG;have z6:=NP;have z7:=RH;have z8:=NT;have z9:=NU;have hlt:1 < w.heap.size:=World.block_lt_of_cell? w ⟨1,0,none⟩ hg;have n8:=NY ⟨w.heap.size,0,none⟩ t ((w.alloc (.cells #[.pointer (some t)] 103)).alloc (.cells #[.pointer (some ⟨8,103,none⟩),.pointer (some ⟨w.heap.size,0,none⟩),.int .u64 150] 156)) (by simp);have hg2:((w.alloc (.cells #[.pointer (some t)] 103)).alloc (.cells #[.pointer (some ⟨8,103,none⟩),.pointer (some ⟨w.heap.size,0,none⟩),.int .u64 150] 156)).cell? ⟨1,0,none⟩=some (.iface 213 (.agg #[.pointer (some ⟨8,98,none⟩)])):=by
  rw [World.cell?_alloc_lt _ _ ⟨1,0,none⟩ (by simp; omega),World.cell?_alloc_lt _ _ ⟨1,0,none⟩ hlt]; exact hg
 go_enter func57,ntmps57;go_wp2;refine wp_loop_rounds 1 ?_;rw [rounds_succ];go_wp2;go_ret;exact ⟨rfl,by
  repeat (first | exact Si _ _ | refine Below.alloc ?_ (by first | (simp; done) | (simp; omega)) _)⟩
open Go.ChangeAt Go.ChangeShapes Go.Maps Go.Shelf Go.Sort Go.WideShapes Pl
theorem pJ (f:Fc) (w:af) :
  Calls prog 101 #[.agg #[.string f.a,.string f.b,.string f.r,.string f.c,.string f.d]] w fun e w'=>e=.returned (.agg #[.string f.a,.string f.b,.string f.r,.string f.c,.string f.d,.string ⟨#[]⟩])∧BelowD w.heap.size w w':=by
 go_enter func101,ntmps101;go_wp2;exact bodyPost_ret (v:=.agg #[.string f.a,.string f.b,.string f.r,.string f.c,.string f.d,.string ⟨#[]⟩]) (by simp [results,Tryz.results101,go_sem, *]) rfl ⟨rfl,⟨by
  repeat (first | exact Si _ _ | refine Below.setCell ?_ (by first | (simp; done) | (simp; omega)) _ | refine Below.alloc ?_ (by first | (simp; done) | (simp; omega)) _),Sj _⟩⟩
def PH (x y:Fc):Int:=D6 x.a x.b x.r x.c x.d ⟨#[]⟩ y.a y.b y.r y.c y.d ⟨#[]⟩
theorem PI {w W w':af} {n m:Nat} {x0 x1 x2 x3 x4 y0 y1 y2 y3 y4:Value} (h:W.cell? ⟨n,0,none⟩=some x0∧W.cell? ⟨n,1,none⟩=some x1∧W.cell? ⟨n,2,none⟩=some x2∧W.cell? ⟨n,3,none⟩=some x3∧W.cell? ⟨n,4,none⟩=some x4∧W.cell? ⟨m,0,none⟩=some y0∧W.cell? ⟨m,1,none⟩=some y1∧W.cell? ⟨m,2,none⟩=some y2∧W.cell? ⟨m,3,none⟩=some y3∧W.cell? ⟨m,4,none⟩=some y4∧BelowD w.heap.size w W) (hb:BelowD W.heap.size W w'):w'.cell? ⟨n,0,none⟩=some x0∧w'.cell? ⟨n,1,none⟩=some x1∧w'.cell? ⟨n,2,none⟩=some x2∧w'.cell? ⟨n,3,none⟩=some x3∧w'.cell? ⟨n,4,none⟩=some x4∧w'.cell? ⟨m,0,none⟩=some y0∧w'.cell? ⟨m,1,none⟩=some y1∧w'.cell? ⟨m,2,none⟩=some y2∧w'.cell? ⟨m,3,none⟩=some y3∧w'.cell? ⟨m,4,none⟩=some y4∧BelowD w.heap.size w w':=by
 obtain ⟨h0,h1,h2,h3,h4,g0,g1,g2,g3,g4,hB⟩:=h;exact ⟨aO hb.b (aC h0) h0,aO hb.b (aC h1) h1,aO hb.b (aC h2) h2,aO hb.b (aC h3) h3,aO hb.b (aC h4) h4,aO hb.b (aC g0) g0,aO hb.b (aC g1) g1,aO hb.b (aC g2) g2,aO hb.b (aC g3) g3,aO hb.b (aC g4) g4,hB.trans (hb.mono hB.size)⟩
theorem uV (x y:Fc) (w:af) (hx:x.fits) (hy:y.fits) :
  Calls prog 62 #[.agg #[.string x.a,.string x.b,.string x.r,.string x.c,.string x.d],.agg #[.string y.a,.string y.b,.string y.r,.string y.c,.string y.d]] w fun e w'=>e=.returned (.int .i64 (PH x y))∧BelowD w.heap.size w w':=by
 have he0:(⟨#[]⟩:ByteArray).size≤maxLen:=by decide
 obtain ⟨x0,x1,x2,x3,x4⟩:=hx;obtain ⟨y0,y1,y2,y3,y4⟩:=hy;obtain ⟨W0,hW0⟩:∃ W0,W0=(w.alloc (.cells #[.string x.a,.string x.b,.string x.r,.string x.c,.string x.d] 63)).alloc (.cells #[.string y.a,.string y.b,.string y.r,.string y.c,.string y.d] 63):=⟨_,rfl⟩;have HB0:BelowD w.heap.size w W0:=by rw [hW0]; exact Jh _ _ _
 have c0:W0.cell? ⟨w.heap.size,0,none⟩=some (.string x.a):=by rw [hW0]; simp
 have c1:W0.cell? ⟨w.heap.size,1,none⟩=some (.string x.b):=by rw [hW0]; simp
 have c2:W0.cell? ⟨w.heap.size,2,none⟩=some (.string x.r):=by rw [hW0]; simp
 have c3:W0.cell? ⟨w.heap.size,3,none⟩=some (.string x.c):=by rw [hW0]; simp
 have c4:W0.cell? ⟨w.heap.size,4,none⟩=some (.string x.d):=by rw [hW0]; simp
 have e0:W0.cell? ⟨w.heap.size + 1,0,none⟩=some (.string y.a):=by rw [hW0]; simp
 have e1:W0.cell? ⟨w.heap.size + 1,1,none⟩=some (.string y.b):=by rw [hW0]; simp
 have e2:W0.cell? ⟨w.heap.size + 1,2,none⟩=some (.string y.r):=by rw [hW0]; simp
 have e3:W0.cell? ⟨w.heap.size + 1,3,none⟩=some (.string y.c):=by rw [hW0]; simp
 have e4:W0.cell? ⟨w.heap.size + 1,4,none⟩=some (.string y.d):=by rw [hW0]; simp
 unfold PH;go_enter func62,ntmps62;go_wp2_with fail;rw [← hW0];clear hW0
 go_region_held3 (fun w'=>w'.cell? ⟨w.heap.size,0,none⟩=some (.string x.a)∧w'.cell? ⟨w.heap.size,1,none⟩=some (.string x.b)∧w'.cell? ⟨w.heap.size,2,none⟩=some (.string x.r)∧w'.cell? ⟨w.heap.size,3,none⟩=some (.string x.c)∧w'.cell? ⟨w.heap.size,4,none⟩=some (.string x.d)∧w'.cell? ⟨w.heap.size + 1,0,none⟩=some (.string y.a)∧w'.cell? ⟨w.heap.size + 1,1,none⟩=some (.string y.b)∧w'.cell? ⟨w.heap.size + 1,2,none⟩=some (.string y.r)∧w'.cell? ⟨w.heap.size + 1,3,none⟩=some (.string y.c)∧w'.cell? ⟨w.heap.size + 1,4,none⟩=some (.string y.d)∧BelowD w.heap.size w w')
  (first | assumption | exact PI (by assumption) hbx | exact ⟨c0,c1,c2,c3,c4,e0,e1,e2,e3,e4,HB0.drew⟩)
  (first | (go_at_call_of 101 (Value.agg #[.string x.a,.string x.b,.string x.r,.string x.c,.string x.d]); refine (pJ x _).mono ?_; rintro e w' ⟨rfl,hbx⟩) | (go_at_call_of 101 (Value.agg #[.string y.a,.string y.b,.string y.r,.string y.c,.string y.d]); refine (pJ y _).mono ?_; rintro e w' ⟨rfl,hbx⟩) | (go_at_call 100; refine (rz x.a x.b x.r x.c x.d ⟨#[]⟩ y.a y.b y.r y.c y.d ⟨#[]⟩ _ x0 x1 x2 x3 x4 he0 y0 y1 y2 y3 y4 he0).mono ?_; rintro e w' ⟨rfl,hbx⟩))
 all_goals (rename_i hJ; obtain ⟨-,-,-,-,-,-,-,-,-,-,gB⟩:=hJ; clear c0 c1 c2 c3 c4 e0 e1 e2 e3 e4; go_wp2; go_ret; exact ⟨rfl,gB⟩)
abbrev Jw:={ f:Fc // f.fits }
def mQ (x:Jw):List Value:=x.1.row
def RZ (x y:Jw):Int:=PH x.1 y.1
def DI (x:Fc):List UInt8:=(aU x.a x.b x.r x.c x.d ⟨#[]⟩).toList
def Qn (x y:Jw):Bool:=Op.bytesLess (DI x.1) (DI y.1)
theorem NZ:ltOf RZ=Qn:=by
 funext x y
 unfold ltOf RZ Qn PH D6 DI;rw [rT,Go.ByteArray.toList_eq,Go.ByteArray.toList_eq]
theorem PK:Go.Sort.SWO Qn where
 irrefl x:=Ls.lt_irrefl _
 trans x y z h k:=Ls.lt_trans _ _ _ h k
 ntrans x y z h k:=by
  cases e:Qn x z;case false=>rfl
  by_cases e1:DI y.1=DI x.1
  ·unfold Qn at *; rw [e1] at k; rw [k] at e; cases e
  rcases Ls.lt_total _ _ e1 with h1 | h1
  ·have:Qn y z=true:=Ls.lt_trans _ _ _ h1 e;rw [k] at this; cases this
  have h:Qn x y=false:=h;have h1:Qn x y=true:=h1;rw [h] at h1; cases h1
theorem N7 [Inhabited Jw] (blk off size:Nat) (w:af):CmpLays prog 62 #[] mQ 5 RZ blk off size w:=fun m os dk _ x y =>
 (uV x.1 y.1 _ x.2 y.2).mono fun e w' ⟨he,hb⟩=>⟨he,hb.grew⟩
def jT (xs:List Jw):List Fc:=xs.map (·.1)
theorem kC (xs:List Jw):(jT xs).length=xs.length:=by simp [jT]
theorem K8 [Inhabited Jw] (w:af) (blk off n:Nat) (d:Array Jw) (os:Array Obj):Chg (fun g=>g=blk) w (sortWorldK mQ 5 w blk off n d os):=by
 refine ⟨⟨rfl,rfl,rfl,?_,fun k hk=>absurd hk (SV _)⟩,fun k hk hne=>?_,fun g hg hf j=>?_⟩
 ·simp [sortWorldK,grow,putRowK,Sort.ahead]
 ·simp only [sortWorldK,putRowK];rw [heap_grow_old _ _ (by simpa [Sort.ahead] using hk)];have hne:blk ≠ k:=fun e=>hne e.symm;simp [putRow,mapBlock,Sort.ahead,Array.getElem?_modify,hne]
 simp only [sortWorldK,putRowK];rw [frozen?_grow _ _ _ (by simpa [Sort.ahead] using hg),frozen?_putRow,frozen?_ahead];exact hf j
theorem Jy [Inhabited Jw] {w:af} {base g cap:Nat} {xs:List Jw} (h:w.ownsRow base 63 5 (.slice (some ⟨g,0,none⟩) xs.length cap) xs.length (av (jT xs))):HoldsK mQ 5 w g 0 xs.toArray:=by
 intro t ht;rw [size_flatK] at ht;have ht':t < xs.length * 5:=by simpa using ht
 have hi:t / 5 < xs.length:=by omega
 have hr:t % 5 < 5:=Nat.mod_lt _ (by omega);refine ⟨?_,by rw [SG]; exact h.frozenAt t⟩;rw [SG,h.cellAt t ht',get_flatK _ _ _ _ ht];have e:t=t / 5 * 5 + t % 5:=by omega
 have h1:=pz (jT xs) (t / 5) (by rw [kC]; exact hi) (t % 5) hr;rw [← e] at h1;rw [h1];have h2:(xs.toArray)[t / 5]! = xs[t / 5]:=by rw [getElem!_pos xs.toArray _ (by simpa using hi)]; simp
 rw [h2];have h3:(jT xs)[t / 5]'(by rw [kC]; exact hi)=xs[t / 5].1:=by simp [jT]
 rw [h3];have hl:t % 5 < (Fc.row xs[t / 5].1).length:=hr;show _=some ((Fc.row xs[t / 5].1)[t % 5]!);rw [Sw hl,getElem!_pos (Fc.row xs[t / 5].1) (t % 5) hl]
theorem RJ [Inhabited Jw] {w:af} {base g n cap:Nat} {xs ys:List Jw} (h0:w.ownsRow base 63 5 (.slice (some ⟨g,0,none⟩) n cap) n (av (jT xs))) (hx:xs.length=n) (hl:ys.length=n) (m:Nat) (os:Array Obj):(sortWorldK mQ 5 w g 0 m ys.toArray os).ownsRow base 63 5 (.slice (some ⟨g,0,none⟩) n cap) n (av (jT ys)):=by
 subst hx;have hg:=(h0.lt g rfl).2;have hH:=holdsK_sortWorldK_c mQ 5 w g 0 xs.toArray ys.toArray m os (Jy h0) hg (by simpa using hl);have hlen:(av (jT ys)).length=xs.length * 5:=by rw [kr,kC,hl]
 refine ⟨hlen,.inr ?_⟩;rcases h0.2 with ⟨e,-⟩ | ⟨g',cap',cur,e,h1,h2,h3,h4,h5,-⟩
 ·cases e
 injection e with e1 e2 e3;injection e1 with e1; injection e1 with e1;subst e1; subst e3;have hb:(sortWorldK mQ 5 w g 0 m ys.toArray os).heap[g]?=some (.cells (putCells id 0 (flatK mQ 5 ys.toArray) cur) 63 (0,0)):=by
  simp only [sortWorldK,putRowK];rw [heap_grow_old _ _ (by simpa [Sort.ahead] using hg)];simp [putRow,mapBlock,Sort.ahead,Array.getElem?_modify,h2,onCells]
 refine ⟨g,cap,_,rfl,h1,hb,h3,h4,by simp only [putCells,Array.size_mapIdx]; exact h5,?_⟩;refine List.ext_getElem? fun j=>?_;by_cases hj:j < xs.length * 5
 ·rw [List.getElem?_take_of_lt hj];have hi:j / 5 < ys.length:=by omega
  have h6:=(hH j (by rw [size_flatK]; simpa [hl] using hj)).1;rw [SG,get_flatK _ _ _ _ (by simpa [hl] using hj)] at h6;replace h6:(sortWorldK mQ 5 w g 0 m ys.toArray os).cell? ⟨g,j,none⟩=some ((mQ (ys.toArray)[j / 5]!)[j % 5]!):=h6;have h7:(putCells id 0 (flatK mQ 5 ys.toArray) cur).toList[j]?=some ((mQ (ys.toArray)[j / 5]!)[j % 5]!):=by
   rw [← h6];simp [World.cell?,hb]
  rw [h7];have e:j=j / 5 * 5 + j % 5:=by omega
  have h8:=pz (jT ys) (j / 5) (by rw [kC]; exact hi) (j % 5) (Nat.mod_lt _ (by omega));rw [← e] at h8;rw [h8];have h9:(ys.toArray)[j / 5]! = ys[j / 5]:=by rw [getElem!_pos ys.toArray _ (by simpa using hi)]; simp
  have h10:(jT ys)[j / 5]'(by rw [kC]; exact hi)=ys[j / 5].1:=by simp [jT]
  rw [h9,h10];have hl2:j % 5 < (Fc.row ys[j / 5].1).length:=Nat.mod_lt _ (by omega);show some ((Fc.row ys[j / 5].1)[j % 5]!)=_;rw [Sw hl2,getElem!_pos (Fc.row ys[j / 5].1) (j % 5) hl2]
 rw [List.getElem?_eq_none (by rw [SL]; omega),List.getElem?_eq_none (by omega)]
theorem K9 (base g cap:Nat) (fs:List Fc) (w:af) (hf:∀ f ∈ fs,f.fits) (hR:w.ownsRow base 63 5 (.slice (some ⟨g,0,none⟩) fs.length cap) fs.length (av fs)) (hne:fs ≠ []) (h6:fs.length≤200000) :
  Calls prog 61 #[.slice (some ⟨g,0,none⟩) fs.length cap,.func (.func 62) #[] #[]] w fun e w'=>e=.returned (.tuple #[])∧∃ ys:List Fc,ys.Perm fs∧ys.Pairwise (fun x y=>Op.bytesLess (DI y) (DI x)=false)∧w'.ownsRow base 63 5 (.slice (some ⟨g,0,none⟩) fs.length cap) fs.length (av ys)∧Chg (fun k=>k=g) w w':=by
 obtain ⟨xs,hxs⟩:∃ xs:List Jw,jT xs=fs:=⟨fs.attach.map fun x=>⟨x.1,hf x.1 x.2⟩,by unfold jT; rw [List.map_map]; simp [Function.comp_def]⟩;subst hxs;rw [kC] at hR h6 ⊢;cases xs with
 | nil=>exact absurd rfl hne
 | cons x0 YZ =>
  letI:Inhabited Jw:=⟨x0⟩
  have hg:=hR.lt g rfl;have eg:∀ args w,(callFunc 62 args).run prog w=.ok (.enter 62 args) w:=enters_of func62 (by kernel_rfl) rfl;have hs:=AnyQ.slices_SortFunc Tryz.sortF 5 Tryz.isAgg63 Tryz.sizeOf63 mQ (fun _=>rfl) (fun x v hv=>by simp [mQ,Fc.row] at hv; rcases hv with rfl | rfl | rfl | rfl | rfl <;> rfl) RZ (by rw [NZ]; exact PK) 62 #[] g 0 cap (x0::YZ).toArray w eg (N7 g 0 _ w) (Jy hR) hg.2 (by simp at h6 ⊢; omega)
  change Calls prog 61 _ _ _ at hs
  rw [NZ] at hs;refine hs.mono fun e w' ⟨he,d',n,os,hp,hso,hw⟩=>⟨he,jT d'.toList,?_,?_,?_,?_⟩
  ·have:=hp.2.2;have h2:d'.toList.Perm (x0::YZ):=by simpa [Array.extract_eq_self_of_le,hp.1] using this
   exact h2.map _
  ·have hz:d'.size=YZ.length + 1:=by simpa using hp.1
   unfold jT;rw [List.pairwise_map,List.pairwise_iff_getElem];intro i j hi hj hij;have hi2:i < d'.size:=by simpa using hi
   have hj2:j < d'.size:=by simpa using hj
   have hlt:=hso i j (Sm _) hij (by rw [hz] at hj2; simpa using hj2);rw [getElem!_pos d' j hj2,getElem!_pos d' i hi2] at hlt;exact hlt
  ·rw [hw];have hz:d'.toList.length=(x0::YZ).length:=by simpa using hp.1
   have:=RJ hR rfl hz n os;simpa using this
  rw [hw]; exact K8 w g 0 n d' os
theorem FO (p:Option Addr) (cap:Nat) (fv:Value) (w:af) :
  Calls prog 137 #[.slice p 0 cap,.int .i64 0,.int .i64 0,fv] w fun e w'=>e=.returned (.tuple #[])∧w'=w:=by
 go_enter func137,ntmps137;go_wp2_with fail;go_loopw [8] (fun i wr=>i=.int .i64 1∧wr=w) (fun _ _=>0);case atStart=>exact ⟨rfl,rfl⟩
 obtain ⟨rfl,rfl⟩:=hrel;go_wp2
 go_end0
 exact ⟨rfl,rfl⟩
theorem N8 (p:Option Addr) (cap:Nat) (lim:Int) (fv:Value) (w:af) :
  Calls prog 98 #[.slice p 0 cap,.int .i64 0,.int .i64 0,.int .i64 lim,fv] w fun e w'=>e=.returned (.tuple #[])∧w'=w:=by
 go_enter func98,ntmps98;go_wp2_with fail;go_loopw [1,2] (fun a b wr=>a=.int .i64 0∧b=.int .i64 0∧wr=w) (fun _ _ _=>0);case atStart=>exact ⟨rfl,rfl,rfl⟩
 obtain ⟨rfl,rfl,rfl⟩:=hrel;go_wp2_with fail;refine (FO p cap fv _).mono ?_;rintro e w1 ⟨rfl,rfl⟩;go_wp2;refine bodyPost_ret (results_none rfl _ _ _) rfl ?_;exact ⟨rfl,rfl⟩
theorem La (p:Option Addr) (cap:Nat) (fv:Value) (w:af) :
  Calls prog 61 #[.slice p 0 cap,fv] w fun e w'=>e=.returned (.tuple #[])∧w'=w:=by
 go_enter func61,ntmps61;go_wp2_with fail;refine (Tryz.bits_Len 0 _ (by omega) (by omega)).mono ?_;rintro e w1 ⟨rfl,rfl⟩;go_wp2_with fail;refine (N8 p cap _ fv _).mono ?_;rintro e w1 ⟨rfl,rfl⟩;go_wp2
 go_end0
 exact ⟨rfl,rfl⟩
end Go.Proofs.YtdmniljjnaebbaaGreatDoor
