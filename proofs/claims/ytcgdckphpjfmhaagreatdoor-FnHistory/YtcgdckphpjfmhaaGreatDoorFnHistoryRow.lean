/- Proved here: FnHistory answers true for every slice of bytes and leaves it as it was, at the card: the six errors and the library's type of errors start as the text lays them. -/
import Derived.Test.YtcgdckphpjfmhaaGreatDoorSq
import Derived.Test.YtcgdckphpjfmhaaGreatDoorJ23
open Go.Proofs.Tryz
namespace Go.Proofs.YtcgdckphpjfmhaaGreatDoor.fnHistory
open ChangeShapes WideShapes ChangeAt RowKit
open Pl
set_option linter.unusedVariables false
theorem Q0{W:ae}{a0 a2 a3 a4 a5 a6:Addr}(ty:1<W.heap.size/\W.cell? ⟨1,0,none⟩=some (.iface 204 (.agg #[.pointer (some ⟨8,73,none⟩)])))(hn:[a0,a2,a3,a4,a5,a6].Nodup)(v0:W.var? prog (nm 5)=some #[.iface 350 (.pointer (some a0))])(v2:W.var? prog (nm 0)=some #[.iface 350 (.pointer (some a2))])(v3:W.var? prog (nm 2)=some #[.iface 350 (.pointer (some a3))])(v4:W.var? prog (nm 3)=some #[.iface 350 (.pointer (some a4))])(v5:W.var? prog (nm 1)=some #[.iface 350 (.pointer (some a5))])(v6:W.var? prog (nm 4)=some #[.iface 350 (.pointer (some a6))])(b0:∃c T,W.heap[a0.block]?=some (.cells c T (0,0)))(b2:∃c T,W.heap[a2.block]?=some (.cells c T (0,0)))(b3:∃c T,W.heap[a3.block]?=some (.cells c T (0,0)))(b4:∃c T,W.heap[a4.block]?=some (.cells c T (0,0)))(b5:∃c T,W.heap[a5.block]?=some (.cells c T (0,0)))(b6:∃c T,W.heap[a6.block]?=some (.cells c T (0,0))):ErrsD W (pick a0 a2 a3 a4 a5 a6) where
 cell g h6 h1:=by
  have key:∀{g:Nat} {n:String} {a:Addr},prog.globalNamed n=some g->W.var? prog n=some #[.iface 350 (.pointer (some a))]->(∃c T,W.heap[a.block]?=some (.cells c T (0,0))) ->
    g<W.heap.size/\W.cell? ⟨g,0,none⟩=some (.iface 350 (.pointer (some a)))/\a.block<W.heap.size/\∃c T,W.heap[a.block]?=some (.cells c T (0,0)):=by
   intro g n a hg hv hb;have hc:W.cell? ⟨g,0,none⟩=some (.iface 350 (.pointer (some a))):=by simpa using World.var?_cell hg hv 0
   obtain⟨c,T,e⟩:=hb;exact⟨World.block_lt_of_cell? W ⟨g,0,none⟩ hc,hc,(VH.1 e).1,c,T,e⟩
  have hc:g=0\/g=2\/g=3\/g=4\/g=5\/g=6:=by omega
  repeat' rcases hc with rfl|hc
  ·exact key n0 v0 b0
  ·exact key n2 v2 b2
  ·exact key n3 v3 b3
  ·exact key n4 v4 b4
  ·exact key n5 v5 b5
  exact key n6 v6 b6
 apart g h hg hh g1 h1 hne:=by
  have hc:g=0\/g=2\/g=3\/g=4\/g=5\/g=6:=by omega
  have hd:h=0\/h=2\/h=3\/h=4\/h=5\/h=6:=by omega
  simp only[List.nodup_cons,VU,List.not_mem_nil,or_false,not_or]at hn;obtain⟨⟨y1,y2,y3,y4,y5⟩,⟨z1,z2,z3,z4⟩,⟨u1,u2,u3⟩,⟨p1,p2⟩,r1,-⟩:=hn;rcases hc with rfl|rfl|rfl|rfl|rfl|rfl<;>rcases hd with rfl|rfl|rfl|rfl|rfl|rfl<;>first|exact absurd rfl hne|assumption|(apply Ne.symm;assumption)
 typ:=ty
theorem D6{H:Type}(enc:TypeId×Value->H){W:ae}{x0 x2 x5 x3 x4 x6:Value}(h0:W.var? prog (nm 5)=some #[x0])(h2:W.var? prog (nm 0)=some #[x2])(h5:W.var? prog (nm 1)=some #[x5])(h3:W.var? prog (nm 2)=some #[x3])(h4:W.var? prog (nm 3)=some #[x4])(h6:W.var? prog (nm 4)=some #[x6])(i0:IsIface x0)(i2:IsIface x2)(i5:IsIface x5)(i3:IsIface x3)(i4:IsIface x4)(i6:IsIface x6)(sp:Nat->Bool):
  DataW.TrodVars enc prog W sp Rows.fnHistorySpec.vars [tok enc x2,tok enc x5,tok enc x3,tok enc x4,tok enc x6,tok enc x0] [.cell 2 0,.cell 5 0,.cell 3 0,.cell 4 0,.cell 6 0,.cell 0 0] :=
 ⟨2,73,#[x2],1,[],_,n2,t2,h2,trod_held underlying73 i2 0,⟨5,73,#[x5],1,[],_,n5,t5,h5,trod_held underlying73 i5 0,⟨3,73,#[x3],1,[],_,n3,t3,h3,trod_held underlying73 i3 0,⟨4,73,#[x4],1,[],_,n4,t4,h4,trod_held underlying73 i4 0,⟨6,73,#[x6],1,[],_,n6,t6,h6,trod_held underlying73 i6 0,⟨0,73,#[x0],1,[],[],n0,t0,h0,trod_held underlying73 i0 0,rfl,rfl⟩,rfl⟩,rfl⟩,rfl⟩,rfl⟩,rfl⟩
theorem lW{W W':ae}{n:String}{cs:Array Value}(h:W.var? prog n=some cs)(hb:af W W'):W'.var? prog n=some cs:=by
 unfold World.var? at h⊢;cases hg:prog.globalNamed n with
 | none=>simp[hg]at h
 | some g =>
  simp only[hg,Option.bind_some]at h ⊢;have hlt:g<W.heap.size:=by
   rcases Nat.lt_or_ge g W.heap.size with h'|h'
   ·exact h'
   simp[Array.getElem?_eq_none h']at h
  rw[hb.block g hlt];exact h
theorem Q3(os:Os)(args:Array Value):laidMetH prog Rows.fnHistoryRow.laid ((World.doorLaid prog 400 os).forCall (fun _ _=>0) ⟨#[],args,[]⟩).memory :=
 laidMetH_of_parts3 (fuel:=8) (laidMet_of_run' 8 (by kernel_rfl) (by kernel_rfl)) (by kernel_rfl) (by kernel_rfl)
set_option maxRecDepth 100000 in
theorem lifted(os:Os)(started:os.Started)(H:Type)(enc:TypeId×Value->H):
  ReturnsInHanded {} Tryz.checked os 4 .any (fun w args=>(Rows.fnHistorySpec.pre enc prog Tryz.f4 Rows.fnHistoryRow.domain false w args/\laidMetH prog Rows.fnHistoryRow.laid w)/\sizedMet enc prog Tryz.f4 (OpenSpec.ofChange Rows.fnHistorySpec) false w args)
   (Rows.fnHistorySpec.post enc prog Tryz.f4 false true false false):=by
 refine returnsInHanded_of_change_and (C:=Tryz.checked) (X:=fun w _=>laidMetH prog Rows.fnHistoryRow.laid w) (fun _ _ _ hh h=>h.of_heap hh) own started (by kernel_rfl) func4
  (ChangeSpec.witness_shaped (enc:=enc) (C:=Tryz.checked) (os:=os) (X:=fun w _=>laidMetH prog Rows.fnHistoryRow.laid w) false (World.doorLaid prog 400 os) #[.slice none 0 0] 8 rfl
   (World.shaped_of_RefB (by kernel_rfl) (by kernel_rfl)) (by kernel_rfl) (by kernel_rfl) (by kernel_rfl) (Q3 os _)) ?_
 intro W base args ds gs before hval0 hW _ _ hL _;have hval:∀(j:Nat) t v,Tryz.f4.params[j]?=some t->args[j]?=some v->Value.okWide prog W .any base t v:=hval0;have hW':=hW;obtain⟨p,q,hA0,hV,rfl,hfz,hnd⟩:=hW;have hA:DataW.TrodAll enc prog W 0 (fun _=>true) true Tryz.f4.params.toList args.toList ds p:=hA0;rw[Tryz.params4]at hA hval;obtain⟨v0,vs0,d0,ds0,p0,q0,hargs,rfl,rfl,h0,r0⟩:=trodAll_cons hA;obtain⟨rfl,rfl,rfl⟩:=trodAll_nil r0;obtain rfl:args=#[v0]:=by cases args;simp_all
 obtain⟨a0,a2,a3,a4,a5,a6,hne,v_0,v_2,v_3,v_4,v_5,v_6,b_0,b_2,b_3,b_4,b_5,b_6⟩:=SB hL;obtain⟨rfl,rfl⟩:=hV.unique (D6  enc v_0 v_2 v_5 v_3 v_4 v_6 trivial trivial trivial trivial trivial trivial _);have k0:=h0;have lt0:∀x∈p0,x.block<W.heap.size:=by obtain⟨m,hm⟩:=k0;exact DataW.trod_lt m _ _ _ hm
 obtain⟨ad0,len0,cap0,hv0⟩:=okWide_slice underlying22 (hval 0 22 v0 rfl rfl);subst hv0;obtain⟨fuel0,hf0⟩:=h0;have hby0:=JY (by simpa[Value.cells] using hf0);have hE:=Q0 (UB hL) hne v_0 v_2 v_3 v_4 v_5 v_6 b_0 b_2 b_3 b_4 b_5 b_6;clear hA0 hval0
 haveI:DecidableEq Fc:=fun x y=>Classical.propDecidable (x=y)
 refine(walk ad0 len0 cap0 _ W hE hby0).mono fun e W' ⟨he,bel⟩=>?_;subst he;exact⟨_,rfl,_,_,_,[],_,_,hW',trodAll_mk1 (shut_bool underlying4 _),(trodAll_cons_mk (Below.trod laidOut (by kernel_rfl) (of_decide_eq_true (by kernel_rfl)) k0 bel lt0) trodAll_mk0),D6 enc (lW v_0 bel) (lW v_2 bel) (lW v_5 bel) (lW v_3 bel) (lW v_4 bel) (lW v_6 bel) trivial trivial trivial trivial trivial trivial _,bel.frame _,fun h=>by cases h⟩
theorem over:Rows.fnHistoryRow.holds Tryz.pinned (OpenSpec.ofChange Rows.fnHistorySpec) :=
 OpenClaim.holds_of_wide 4 Tryz.f4 rfl rfl rfl rfl rfl rfl rfl ⟨rfl,rfl,rfl,rfl,rfl⟩ rfl rfl rfl rfl rfl (by kernel_rfl) func4 (by kernel_rfl)
  (of_decide_eq_true (by kernel_rfl)) (by unfold Func.isWrapper;first|(rw[if_pos (by decide +kernel)];kernel_rfl)|(rw[if_neg (by decide +kernel)];exact⟨rfl,rfl⟩))
  (fun os started H enc _=>lifted os started H enc)
theorem card:Rows.FnHistoryCardSaid :=
 Claim7.holds_tied_plain_at .later [] [.handle,.sentinel,.sentinel,.sentinel,.sentinel,.sentinel,.sentinel] true _ true over (fun _ h=>by cases h) (by kernel_rfl) (fun _ h=>by cases h) fnHistory_row_tie rfl ⟨rfl,rfl⟩ (by kernel_rfl) rfl
  (fun f fn hf hfn=>by
   obtain rfl:f=4:=Option.some.inj ((show prog.funcNamed Rows.fnHistoryRow.func=some 4 by kernel_rfl).symm.trans hf) |>.symm;obtain rfl:fn=Tryz.f4:=(Option.some.inj (func4.symm.trans hfn)).symm;exact⟨by kernel_rfl,fun j t ht=>by
    rw[Tryz.params4]at ht;have hm:t∈[22]:=by simpa using Array.mem_of_getElem? ht
    have hall:([22].all fun u=>!prog.wantsStandIn u)=true:=by kernel_rfl
    exact(show prog.wantsStandIn t=false by simpa using VN.1 hall t hm)⟩)
  (by kernel_rfl)
end Go.Proofs.YtcgdckphpjfmhaaGreatDoor.fnHistory
namespace Go.Proofs.YtcgdckphpjfmhaaGreatDoor
theorem FnHistory_holds:Rows.FnHistoryCardSaid:=fnHistory.card
end Go.Proofs.YtcgdckphpjfmhaaGreatDoor
