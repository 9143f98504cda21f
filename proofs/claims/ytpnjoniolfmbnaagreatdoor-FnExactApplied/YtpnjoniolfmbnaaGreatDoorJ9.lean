/- errors.Is, at an error that is nil, a sentinel, or a refusal that holds a sentinel: Go's own text is walked. -/
import Derived.Test.YtpnjoniolfmbnaaGreatDoorJ8
import Derived.LaidEql
import Derived.Stop.Asserts
import Derived.RowKitTokens
namespace Go.Proofs.YtpnjoniolfmbnaaGreatDoor
set_option maxRecDepth 100000
set_option linter.unusedVariables false
open Go.RowKit Go.Extern.Stop Go.Stop Go.Extern
theorem tOfE (v:Value) (w:World):(ReflectliteType.typeOf #[.iface 292 v]).run Tryz.prog w=.ok (.iface 178 (.agg #[.pointer (some ⟨8,292,none⟩)])) w:=by kernel_rfl
theorem compE:∃ g,find Tryz.f217=some g∧∀ w:World,(g #[.agg #[.pointer (some ⟨8,292,none⟩)]]).run Tryz.prog w=.ok (.bool true) w :=
 ⟨(find Tryz.f217).get (by kernel_rfl),(Option.some_get _).symm,fun w=>by kernel_rfl⟩
theorem methC (v : Value) (w : World) : (Go.method 428 178 v "Comparable").run Tryz.prog w = .ok (217, v) w := by kernel_rfl
theorem cmpE:(Tryz.prog.info? 292).map (·.comparable)=some true:=by kernel_rfl
theorem sizeE:(Tryz.prog.info? 313).map (·.size)=some 1:=by kernel_rfl
theorem nIsE (v:Value) (x:TypeId) (w:World):(Instr.typeAssert (.iface 292 v) x 234 true).run Tryz.prog w=.ok (.tuple #[.nilIface,.bool false]) w:=run_typeAssert_lacksB Tryz.underlying234 (by kernel_rfl) (by kernel_rfl) v x w
theorem nUnE (v:Value) (x:TypeId) (w:World):(Instr.typeAssert (.iface 292 v) x 186 true).run Tryz.prog w=.ok (.tuple #[.nilIface,.bool false]) w:=run_typeAssert_lacksB Tryz.underlying186 (by kernel_rfl) (by kernel_rfl) v x w
theorem nUsE (v:Value) (x:TypeId) (w:World):(Instr.typeAssert (.iface 292 v) x 188 true).run Tryz.prog w=.ok (.tuple #[.nilIface,.bool false]) w:=run_typeAssert_lacksB Tryz.underlying188 (by kernel_rfl) (by kernel_rfl) v x w
theorem nIsR (v:Value) (x:TypeId) (w:World):(Instr.typeAssert (.iface 73 v) x 234 true).run Tryz.prog w=.ok (.tuple #[.nilIface,.bool false]) w:=run_typeAssert_lacksB Tryz.underlying234 (by kernel_rfl) (by kernel_rfl) v x w
theorem hUnR (v:Value) (x:TypeId) (w:World):(Instr.typeAssert (.iface 73 v) x 186 true).run Tryz.prog w=.ok (.tuple #[.iface 73 v,.bool true]) w:=run_typeAssert_hasB Tryz.underlying186 (by kernel_rfl) v x w
theorem methU (v : Value) (w : World) : (Go.method 428 73 v "Unwrap").run Tryz.prog w = .ok (210, v) w := by kernel_rfl
theorem is_nil (b:Addr) (w:World):Calls Tryz.prog 67 #[.nilIface,.iface 292 (.pointer (some b))] w fun e w'=>e=.returned (.bool false)∧w'=w:=by
 have hn:=run_eql_iface_nil_left (P:=Tryz.prog) w 292 (.pointer (some b)) Tryz.underlying70
 go_enter Tryz.func67,Tryz.ntmps67
 go_wp2
 go_ret
 exact ⟨rfl,rfl⟩
theorem is_same (b:Addr) (w:World):Calls Tryz.prog 67 #[.iface 292 (.pointer (some b)),.iface 292 (.pointer (some b))] w fun e w'=>e=.returned (.bool true)∧w'=w:=by
 obtain ⟨i,hi,hcmp⟩:=Option.map_eq_some_iff.1 cmpE
 obtain ⟨j,hj,hjs⟩:=Option.map_eq_some_iff.1 sizeE
 have x1:=@run_callFunc_extern Tryz.prog 99 _ ReflectliteType.typeOf Tryz.func99 (by kernel_rfl) (by kernel_rfl) (by kernel_rfl) (by kernel_rfl)
 obtain ⟨gC,hgC,x4⟩:=compE
 have x2:=@run_callFunc_extern Tryz.prog 217 _ gC Tryz.func217 (by kernel_rfl) (by kernel_rfl) (by kernel_rfl) hgC
 have x3:=tOfE
 have x5:=methC
 have x6:=nIsE
 have x7:=nUnE
 have x8:=nUsE
 have x9:=nIsR
 have x10:=hUnR
 have x11:=methU
 have heq:=run_eql_iface_ptr_same (P:=Tryz.prog) w b Tryz.underlying70 Tryz.underlying292 hi hcmp hj
 go_enter Tryz.func67,Tryz.ntmps67
 go_wp2
 refine wp_loop_rounds 1 ?_
 rw [rounds_succ]
 go_wp2
 go_ret
 exact ⟨rfl,rfl⟩
theorem is_ref_same (p:Nat) (b:Addr) (w:World) (h1:w.cell? ⟨p,0,none⟩=some (.iface 292 (.pointer (some b)))):Calls Tryz.prog 67 #[.iface 73 (.pointer (some ⟨p,0,none⟩)),.iface 292 (.pointer (some b))] w fun e w'=>e=.returned (.bool true)∧w'=w:=by
 obtain ⟨i,hi,hcmp⟩:=Option.map_eq_some_iff.1 cmpE
 obtain ⟨j,hj,hjs⟩:=Option.map_eq_some_iff.1 sizeE
 have x1:=@run_callFunc_extern Tryz.prog 99 _ ReflectliteType.typeOf Tryz.func99 (by kernel_rfl) (by kernel_rfl) (by kernel_rfl) (by kernel_rfl)
 obtain ⟨gC,hgC,x4⟩:=compE
 have x2:=@run_callFunc_extern Tryz.prog 217 _ gC Tryz.func217 (by kernel_rfl) (by kernel_rfl) (by kernel_rfl) hgC
 have x3:=tOfE
 have x5:=methC
 have x6:=nIsE
 have x7:=nUnE
 have x8:=nUsE
 have x9:=nIsR
 have x10:=hUnR
 have x11:=methU
 have heq:=run_eql_iface_ptr_same (P:=Tryz.prog) w b Tryz.underlying70 Tryz.underlying292 hi hcmp hj
 have hty:=run_eql_iface_types (P:=Tryz.prog) 73 292 (.pointer (some ⟨p,0,none⟩)) (.pointer (some b)) Tryz.underlying70 (by decide) w
 go_enter Tryz.func67,Tryz.ntmps67
 go_wp2
 refine wp_loop_rounds 2 ?_
 rw [rounds_succ]
 go_wp2
 rw [rounds_succ]
 go_wp2
 go_ret
 exact ⟨rfl,rfl⟩
theorem is_ref_other (p:Nat) (a b:Addr) (ca cb:Array Value) (ta tb:TypeId) (w:World) (h1:w.cell? ⟨p,0,none⟩=some (.iface 292 (.pointer (some a)))) (hne:a ≠ b) (ha:w.heap[a.block]?=some (.cells ca ta (0,0))) (hb:w.heap[b.block]?=some (.cells cb tb (0,0))):Calls Tryz.prog 67 #[.iface 73 (.pointer (some ⟨p,0,none⟩)),.iface 292 (.pointer (some b))] w fun e w'=>e=.returned (.bool false)∧w'=w:=by
 obtain ⟨i,hi,hcmp⟩:=Option.map_eq_some_iff.1 cmpE
 obtain ⟨j,hj,hjs⟩:=Option.map_eq_some_iff.1 sizeE
 have x1:=@run_callFunc_extern Tryz.prog 99 _ ReflectliteType.typeOf Tryz.func99 (by kernel_rfl) (by kernel_rfl) (by kernel_rfl) (by kernel_rfl)
 obtain ⟨gC,hgC,x4⟩:=compE
 have x2:=@run_callFunc_extern Tryz.prog 217 _ gC Tryz.func217 (by kernel_rfl) (by kernel_rfl) (by kernel_rfl) hgC
 have x3:=tOfE
 have x5:=methC
 have x6:=nIsE
 have x7:=nUnE
 have x8:=nUsE
 have x9:=nIsR
 have x10:=hUnR
 have x11:=methU
 have heq:=run_eql_iface_ptr_other (P:=Tryz.prog) w Tryz.underlying70 Tryz.underlying292 hi hcmp hj (by rw [hjs]; decide) hne ha hb
 have hty:=run_eql_iface_types (P:=Tryz.prog) 73 292 (.pointer (some ⟨p,0,none⟩)) (.pointer (some b)) Tryz.underlying70 (by decide) w
 go_enter Tryz.func67,Tryz.ntmps67
 go_wp2
 refine wp_loop_rounds 2 ?_
 rw [rounds_succ]
 go_wp2
 rw [rounds_succ]
 go_wp2
 go_ret
 exact ⟨rfl,rfl⟩
end Go.Proofs.YtpnjoniolfmbnaaGreatDoor
namespace Go.Proofs.YtpnjoniolfmbnaaGreatDoor
set_option maxRecDepth 100000
set_option linter.unusedVariables false
open Go.RowKit Go.Extern.Stop Go.Stop Go.Extern
theorem as_nil (t:Value) (w:World):Calls Tryz.prog 34 #[.nilIface,t] w fun e w'=>e=.returned (.bool false)∧w'=w:=by
 go_enter Tryz.func34,Tryz.ntmps34
 go_wp2
 go_ret
 exact ⟨rfl,rfl⟩
theorem vOf:∃ g,find Tryz.f63=some g∧(∀ (t:Addr) (w:World),(g #[.iface 75 (.pointer (some t))]).run Tryz.prog w=.ok (.agg #[.pointer (some ⟨8,75,none⟩),.pointer (some ⟨w.heap.size,0,none⟩),.int .u64 150]) (w.alloc (.cells #[.pointer (some t)] 75)))∧∀ (e:Addr) (w:World),(g #[.iface 73 (.pointer (some e))]).run Tryz.prog w=.ok (.agg #[.pointer (some ⟨8,73,none⟩),.pointer (some ⟨w.heap.size,0,none⟩),.int .u64 150]) (w.alloc (.cells #[.pointer (some e)] 73)) :=
 ⟨(find Tryz.f63).get (by kernel_rfl),(Option.some_get _).symm,fun t w=>by kernel_rfl,fun e w=>by kernel_rfl⟩
theorem typQ:∃ g,find Tryz.f64=some g∧∀ (a:Addr) (w:World),(g #[.agg #[.pointer (some ⟨8,75,none⟩),.pointer (some a),.int .u64 150]]).run Tryz.prog w=.ok (.iface 178 (.agg #[.pointer (some ⟨8,75,none⟩)])) w :=
 ⟨(find Tryz.f64).get (by kernel_rfl),(Option.some_get _).symm,fun a w=>by kernel_rfl⟩
theorem mKind (h : Value) (w : World) : (Go.method 428 178 (.agg #[h]) "Kind").run Tryz.prog w = .ok (206, h) w := by kernel_rfl
theorem mElem (h : Value) (w : World) : (Go.method 428 178 (.agg #[h]) "Elem").run Tryz.prog w = .ok (218, .agg #[h]) w := by kernel_rfl
theorem mImpl (h : Value) (w : World) : (Go.method 428 178 (.agg #[h]) "Implements").run Tryz.prog w = .ok (219, .agg #[h]) w := by kernel_rfl
theorem mAssi (h : Value) (w : World) : (Go.method 428 178 (.agg #[h]) "AssignableTo").run Tryz.prog w = .ok (216, .agg #[h]) w := by kernel_rfl
theorem kindT:∃ g,find Tryz.f206=some g∧(∀ w:World,(g #[.pointer (some ⟨8,75,none⟩)]).run Tryz.prog w=.ok (.int .u8 22) w)∧∀ w:World,(g #[.pointer (some ⟨8,73,none⟩)]).run Tryz.prog w=.ok (.int .u8 22) w :=
 ⟨(find Tryz.f206).get (by kernel_rfl),(Option.some_get _).symm,fun w=>by kernel_rfl,fun w=>by kernel_rfl⟩
theorem elemT:∃ g,find Tryz.f218=some g∧∀ w:World,(g #[.agg #[.pointer (some ⟨8,75,none⟩)]]).run Tryz.prog w=.ok (.iface 178 (.agg #[.pointer (some ⟨8,73,none⟩)])) w :=
 ⟨(find Tryz.f218).get (by kernel_rfl),(Option.some_get _).symm,fun w=>by kernel_rfl⟩
theorem implT:∃ g,find Tryz.f219=some g∧∀ w:World,(g #[.agg #[.pointer (some ⟨8,73,none⟩)],.iface 178 (.agg #[.pointer (some ⟨8,70,none⟩)])]).run Tryz.prog w=.ok (.bool true) w :=
 ⟨(find Tryz.f219).get (by kernel_rfl),(Option.some_get _).symm,fun w=>by kernel_rfl⟩
theorem assiT:∃ g,find Tryz.f216=some g∧(∀ w:World,(g #[.agg #[.pointer (some ⟨8,73,none⟩)],.iface 178 (.agg #[.pointer (some ⟨8,73,none⟩)])]).run Tryz.prog w=.ok (.bool true) w)∧∀ w:World,(g #[.agg #[.pointer (some ⟨8,292,none⟩)],.iface 178 (.agg #[.pointer (some ⟨8,73,none⟩)])]).run Tryz.prog w=.ok (.bool false) w :=
 ⟨(find Tryz.f216).get (by kernel_rfl),(Option.some_get _).symm,fun w=>by kernel_rfl,fun w=>by kernel_rfl⟩
theorem tOfR (v:Value) (w:World):(ReflectliteType.typeOf #[.iface 73 v]).run Tryz.prog w=.ok (.iface 178 (.agg #[.pointer (some ⟨8,73,none⟩)])) w:=by kernel_rfl
theorem nAsE (v:Value) (x:TypeId) (w:World):(Instr.typeAssert (.iface 292 v) x 183 true).run Tryz.prog w=.ok (.tuple #[.nilIface,.bool false]) w:=run_typeAssert_lacksB Tryz.underlying183 (by kernel_rfl) (by kernel_rfl) v x w
theorem partsQ (a:Addr) (w:World):(ReflectliteValue.parts (.agg #[.pointer (some ⟨8,75,none⟩),.pointer (some a),.int .u64 150])).run Tryz.prog w=.ok (some (75,a,150)) w:=by kernel_rfl
theorem partsR (a:Addr) (w:World):(ReflectliteValue.parts (.agg #[.pointer (some ⟨8,73,none⟩),.pointer (some a),.int .u64 150])).run Tryz.prog w=.ok (some (73,a,150)) w:=by kernel_rfl
theorem partsA (a:Addr) (w:World):(ReflectliteValue.parts (.agg #[.pointer (some ⟨8,73,none⟩),.pointer (some a),.int .u64 406])).run Tryz.prog w=.ok (some (73,a,406)) w:=by kernel_rfl
theorem elemO (w:World):(Rtype.elem? 75).run Tryz.prog w=.ok (some 73) w:=by kernel_rfl
theorem mkR (p:Addr) (w:World):(ReflectliteValue.mk 73 p ReflectliteValue.flagAddr).run Tryz.prog w=.ok (.agg #[.pointer (some ⟨8,73,none⟩),.pointer (some p),.int .u64 406]) w:=by kernel_rfl
theorem dirR (w:World):(Rtype.directlyAssignable 73 73).run Tryz.prog w=.ok true w:=by kernel_rfl
theorem isNilQ (a p : Addr) (W : World) (ha : W.cell? a = some (.pointer (some p))) : (ReflectliteValue.method (ReflectliteValue.valueError "reflectlite.Value.IsNil" 0) ReflectliteValue.isNil #[.agg #[.pointer (some ⟨8, 75, none⟩), .pointer (some a), .int .u64 150]]).run Tryz.prog W = .ok (.bool false) W := by
 change Sem.run Tryz.prog (ReflectliteValue.parts (.agg #[.pointer (some ⟨8,75,none⟩),.pointer (some a),.int .u64 150]) >>= _) W=_
 rw [Sem.run_bind,partsQ,Result.andThen_ok]
 simp [ ReflectliteValue.isNil,loadVar,isAgg,underlying,Tryz.underlying75,ha,Result.andThen]
theorem elemVQ (a p : Addr) (W : World) (ha : W.cell? a = some (.pointer (some p))) : (ReflectliteValue.method (ReflectliteValue.valueError "reflectlite.Value.Elem" 0) ReflectliteValue.elem #[.agg #[.pointer (some ⟨8, 75, none⟩), .pointer (some a), .int .u64 150]]).run Tryz.prog W = .ok (.agg #[.pointer (some ⟨8, 73, none⟩), .pointer (some p), .int .u64 406]) W := by
 change Sem.run Tryz.prog (ReflectliteValue.parts (.agg #[.pointer (some ⟨8,75,none⟩),.pointer (some a),.int .u64 150]) >>= _) W=_
 rw [Sem.run_bind,partsQ,Result.andThen_ok]
 simp [ ReflectliteValue.elem,loadVar,isAgg,underlying,Tryz.underlying75,ha,Result.andThen,elemO,mkR]
theorem setR (ta b e:Addr) (old:Value) (W:World) (hb:W.cell? b=some (.pointer (some e))) (ht:W.cell? ta=some old) (hf:W.frozen? ta=false) :
  (ReflectliteValue.set #[.agg #[.pointer (some ⟨8,73,none⟩),.pointer (some ta),.int .u64 406],.agg #[.pointer (some ⟨8,73,none⟩),.pointer (some b),.int .u64 150]]).run Tryz.prog W=.ok (.tuple #[]) (W.setCell ta (.pointer (some e))):=by
 change Sem.run Tryz.prog (ReflectliteValue.parts (.agg #[.pointer (some ⟨8,73,none⟩),.pointer (some ta),.int .u64 406]) >>= fun x=>ReflectliteValue.parts (.agg #[.pointer (some ⟨8,73,none⟩),.pointer (some b),.int .u64 150]) >>= _) W=_
 rw [Sem.run_bind,partsA,Result.andThen_ok,Sem.run_bind,partsR,Result.andThen_ok]
 simp [ ReflectliteValue.flagAddr,loadVar,isAgg,underlying,Tryz.underlying73,hb,Result.andThen,dirR,storeVar,Value.cells,storeCells,Addr.add]
 rw [run_store Tryz.prog W ta _ _ (by rfl)]
 simp [ht,hf]
end Go.Proofs.YtpnjoniolfmbnaaGreatDoor
namespace Go.Proofs.YtpnjoniolfmbnaaGreatDoor
set_option maxRecDepth 100000
set_option linter.unusedVariables false
open Go.RowKit Go.Extern.Stop Go.Stop Go.Extern
set_option maxHeartbeats 8000000 in
theorem as_hit (e t:Addr) (old:Value) (w:World) (hg:w.cell? ⟨1,0,none⟩=some (.iface 178 (.agg #[.pointer (some ⟨8,70,none⟩)]))) (ht0:w.cell? t=some old) (hf0:w.frozen? t=false) :
  Calls Tryz.prog 34 #[.iface 73 (.pointer (some e)),.iface 75 (.pointer (some t))] w fun ev w'=>ev=.returned (.bool true)∧∃ W1,Below w.heap.size w W1∧w'=W1.setCell t (.pointer (some e)):=by
 obtain ⟨gV,hgV,v1,v2⟩:=vOf
 obtain ⟨gT,hgT,v3⟩:=typQ
 obtain ⟨gK,hgK,v4,v5⟩:=kindT
 obtain ⟨gE,hgE,v6⟩:=elemT
 obtain ⟨gI,hgI,v7⟩:=implT
 obtain ⟨gA,hgA,v8,v9⟩:=assiT
 have y1:=@run_callFunc_extern Tryz.prog 63 _ gV Tryz.func63 (by kernel_rfl) (by kernel_rfl) (by kernel_rfl) hgV
 have y2:=@run_callFunc_extern Tryz.prog 64 _ gT Tryz.func64 (by kernel_rfl) (by kernel_rfl) (by kernel_rfl) hgT
 have y3:=@run_callFunc_extern Tryz.prog 206 _ gK Tryz.func206 (by kernel_rfl) (by kernel_rfl) (by kernel_rfl) hgK
 have y4:=@run_callFunc_extern Tryz.prog 218 _ gE Tryz.func218 (by kernel_rfl) (by kernel_rfl) (by kernel_rfl) hgE
 have y5:=@run_callFunc_extern Tryz.prog 219 _ gI Tryz.func219 (by kernel_rfl) (by kernel_rfl) (by kernel_rfl) hgI
 have y6:=@run_callFunc_extern Tryz.prog 216 _ gA Tryz.func216 (by kernel_rfl) (by kernel_rfl) (by kernel_rfl) hgA
 have y7 := @run_callFunc_extern Tryz.prog 65 _ (ReflectliteValue.method (ReflectliteValue.valueError "reflectlite.Value.IsNil" 0) ReflectliteValue.isNil) Tryz.func65 (by kernel_rfl) (by kernel_rfl) (by kernel_rfl) (by kernel_rfl)
 have y8:=@run_callFunc_extern Tryz.prog 99 _ ReflectliteType.typeOf Tryz.func99 (by kernel_rfl) (by kernel_rfl) (by kernel_rfl) (by kernel_rfl)
 have y9 := @run_callFunc_extern Tryz.prog 100 _ (ReflectliteValue.method (ReflectliteValue.valueError "reflectlite.Value.Elem" 0) ReflectliteValue.elem) Tryz.func100 (by kernel_rfl) (by kernel_rfl) (by kernel_rfl) (by kernel_rfl)
 have y10:=@run_callFunc_extern Tryz.prog 101 _ ReflectliteValue.set Tryz.func101 (by kernel_rfl) (by kernel_rfl) (by kernel_rfl) (by kernel_rfl)
 have z1:=mKind
 have z2:=mElem
 have z3:=mImpl
 have z4:=mAssi
 have z5:=tOfR
 have z6:=tOfE
 have z7:=nAsE
 have z8:=nUnE
 have z9:=nUsE
 have hlt:1 < w.heap.size:=World.block_lt_of_cell? w ⟨1,0,none⟩ hg
 have n8:=isNilQ ⟨w.heap.size,0,none⟩ t ((w.alloc (.cells #[.pointer (some t)] 75)).alloc (.cells #[.pointer (some ⟨8,75,none⟩),.pointer (some ⟨w.heap.size,0,none⟩),.int .u64 150] 132)) (by simp)
 have hg2:((w.alloc (.cells #[.pointer (some t)] 75)).alloc (.cells #[.pointer (some ⟨8,75,none⟩),.pointer (some ⟨w.heap.size,0,none⟩),.int .u64 150] 132)).cell? ⟨1,0,none⟩=some (.iface 178 (.agg #[.pointer (some ⟨8,70,none⟩)])):=by
  rw [World.cell?_alloc_lt _ _ ⟨1,0,none⟩ (by simp; omega),World.cell?_alloc_lt _ _ ⟨1,0,none⟩ hlt]; exact hg
 have htl:t.block < w.heap.size:=World.block_lt_of_cell? w t ht0
 have el:=elemVQ ⟨w.heap.size,0,none⟩ t (((w.alloc (.cells #[.pointer (some t)] 75)).alloc (.cells #[.pointer (some ⟨8,75,none⟩),.pointer (some ⟨w.heap.size,0,none⟩),.int .u64 150] 132)).alloc (.cells #[.pointer (some ⟨8,75,none⟩),.pointer (some ⟨w.heap.size,0,none⟩),.int .u64 150] 132)) (by rw [World.cell?_alloc_lt _ _ ⟨w.heap.size,0,none⟩ (by simp; omega)]; simp)
 have st:=setR t ⟨w.heap.size + 1 + 1 + 1,0,none⟩ e old ((((w.alloc (.cells #[.pointer (some t)] 75)).alloc (.cells #[.pointer (some ⟨8,75,none⟩),.pointer (some ⟨w.heap.size,0,none⟩),.int .u64 150] 132)).alloc (.cells #[.pointer (some ⟨8,75,none⟩),.pointer (some ⟨w.heap.size,0,none⟩),.int .u64 150] 132)).alloc (.cells #[.pointer (some e)] 73))
  (by rw [World.cell?_alloc_at _ _ _ _ (by simp)]; rfl)
  (by rw [World.cell?_alloc_lt _ _ t (by simp; omega),World.cell?_alloc_lt _ _ t (by simp; omega),World.cell?_alloc_lt _ _ t (by simp; omega),World.cell?_alloc_lt _ _ t htl]; exact ht0)
  (by rw [World.frozen?_alloc_old _ _ t (by simp; omega),World.frozen?_alloc_old _ _ t (by simp; omega),World.frozen?_alloc_old _ _ t (by simp; omega),World.frozen?_alloc_old _ _ t (Nat.ne_of_lt htl)]; exact hf0)
 go_enter Tryz.func34,Tryz.ntmps34
 go_wp2
 refine wp_loop_rounds 1 ?_
 rw [rounds_succ]
 go_wp2
 go_ret
 exact ⟨rfl,((((w.alloc (.cells #[.pointer (some t)] 75)).alloc (.cells #[.pointer (some ⟨8,75,none⟩),.pointer (some ⟨w.heap.size,0,none⟩),.int .u64 150] 132)).alloc (.cells #[.pointer (some ⟨8,75,none⟩),.pointer (some ⟨w.heap.size,0,none⟩),.int .u64 150] 132)).alloc (.cells #[.pointer (some e)] 73)),by
  repeat (first | exact Below.refl _ _ | refine Below.alloc ?_ (by first | (simp; done) | (simp; omega)) _),rfl⟩
set_option maxHeartbeats 8000000 in
theorem as_miss (e t:Addr) (w:World) (hg:w.cell? ⟨1,0,none⟩=some (.iface 178 (.agg #[.pointer (some ⟨8,70,none⟩)]))) :
  Calls Tryz.prog 34 #[.iface 292 (.pointer (some e)),.iface 75 (.pointer (some t))] w fun ev w'=>ev=.returned (.bool false)∧Below w.heap.size w w':=by
 obtain ⟨gV,hgV,v1,v2⟩:=vOf
 obtain ⟨gT,hgT,v3⟩:=typQ
 obtain ⟨gK,hgK,v4,v5⟩:=kindT
 obtain ⟨gE,hgE,v6⟩:=elemT
 obtain ⟨gI,hgI,v7⟩:=implT
 obtain ⟨gA,hgA,v8,v9⟩:=assiT
 have y1:=@run_callFunc_extern Tryz.prog 63 _ gV Tryz.func63 (by kernel_rfl) (by kernel_rfl) (by kernel_rfl) hgV
 have y2:=@run_callFunc_extern Tryz.prog 64 _ gT Tryz.func64 (by kernel_rfl) (by kernel_rfl) (by kernel_rfl) hgT
 have y3:=@run_callFunc_extern Tryz.prog 206 _ gK Tryz.func206 (by kernel_rfl) (by kernel_rfl) (by kernel_rfl) hgK
 have y4:=@run_callFunc_extern Tryz.prog 218 _ gE Tryz.func218 (by kernel_rfl) (by kernel_rfl) (by kernel_rfl) hgE
 have y5:=@run_callFunc_extern Tryz.prog 219 _ gI Tryz.func219 (by kernel_rfl) (by kernel_rfl) (by kernel_rfl) hgI
 have y6:=@run_callFunc_extern Tryz.prog 216 _ gA Tryz.func216 (by kernel_rfl) (by kernel_rfl) (by kernel_rfl) hgA
 have y7 := @run_callFunc_extern Tryz.prog 65 _ (ReflectliteValue.method (ReflectliteValue.valueError "reflectlite.Value.IsNil" 0) ReflectliteValue.isNil) Tryz.func65 (by kernel_rfl) (by kernel_rfl) (by kernel_rfl) (by kernel_rfl)
 have y8:=@run_callFunc_extern Tryz.prog 99 _ ReflectliteType.typeOf Tryz.func99 (by kernel_rfl) (by kernel_rfl) (by kernel_rfl) (by kernel_rfl)
 have y9 := @run_callFunc_extern Tryz.prog 100 _ (ReflectliteValue.method (ReflectliteValue.valueError "reflectlite.Value.Elem" 0) ReflectliteValue.elem) Tryz.func100 (by kernel_rfl) (by kernel_rfl) (by kernel_rfl) (by kernel_rfl)
 have y10:=@run_callFunc_extern Tryz.prog 101 _ ReflectliteValue.set Tryz.func101 (by kernel_rfl) (by kernel_rfl) (by kernel_rfl) (by kernel_rfl)
 have z1:=mKind
 have z2:=mElem
 have z3:=mImpl
 have z4:=mAssi
 have z5:=tOfR
 have z6:=tOfE
 have z7:=nAsE
 have z8:=nUnE
 have z9:=nUsE
 have hlt:1 < w.heap.size:=World.block_lt_of_cell? w ⟨1,0,none⟩ hg
 have n8:=isNilQ ⟨w.heap.size,0,none⟩ t ((w.alloc (.cells #[.pointer (some t)] 75)).alloc (.cells #[.pointer (some ⟨8,75,none⟩),.pointer (some ⟨w.heap.size,0,none⟩),.int .u64 150] 132)) (by simp)
 have hg2:((w.alloc (.cells #[.pointer (some t)] 75)).alloc (.cells #[.pointer (some ⟨8,75,none⟩),.pointer (some ⟨w.heap.size,0,none⟩),.int .u64 150] 132)).cell? ⟨1,0,none⟩=some (.iface 178 (.agg #[.pointer (some ⟨8,70,none⟩)])):=by
  rw [World.cell?_alloc_lt _ _ ⟨1,0,none⟩ (by simp; omega),World.cell?_alloc_lt _ _ ⟨1,0,none⟩ hlt]; exact hg
 go_enter Tryz.func34,Tryz.ntmps34
 go_wp2
 refine wp_loop_rounds 1 ?_
 rw [rounds_succ]
 go_wp2
 go_ret
 exact ⟨rfl,by
  repeat (first | exact Below.refl _ _ | refine Below.alloc ?_ (by first | (simp; done) | (simp; omega)) _)⟩
end Go.Proofs.YtpnjoniolfmbnaaGreatDoor
