/- Proved here: FnExactApplied answers true for every slice of types, every slice of tuples and every change and leaves them as they were, at the card: the six errors and the library's type of errors start as the text lays them. -/
import Derived.Test.YtpnjoniolfmbnaaGreatDoorJ32
namespace Go.Proofs.YtpnjoniolfmbnaaGreatDoor.fnExactApplied
open Go.ChangeShapes Go.WideShapes Go.ChangeAt Go.RowKit Go.Joins
open Pl
set_option linter.unusedVariables false
theorem errsD_of {W:World} {a0 a2 a3 a4 a5 a6:Addr} (ty:1 < W.heap.size∧W.cell? ⟨1,0,none⟩=some (.iface 178 (.agg #[.pointer (some ⟨8,70,none⟩)]))) (hn:[a0,a2,a3,a4,a5,a6].Nodup) (v0:W.var? Tryz.prog (nm 0)=some #[.iface 292 (.pointer (some a0))]) (v2:W.var? Tryz.prog (nm 1)=some #[.iface 292 (.pointer (some a2))]) (v3:W.var? Tryz.prog (nm 3)=some #[.iface 292 (.pointer (some a3))]) (v4:W.var? Tryz.prog (nm 4)=some #[.iface 292 (.pointer (some a4))]) (v5:W.var? Tryz.prog (nm 2)=some #[.iface 292 (.pointer (some a5))]) (v6:W.var? Tryz.prog (nm 5)=some #[.iface 292 (.pointer (some a6))]) (b0:∃ c T,W.heap[a0.block]?=some (.cells c T (0,0))) (b2:∃ c T,W.heap[a2.block]?=some (.cells c T (0,0))) (b3:∃ c T,W.heap[a3.block]?=some (.cells c T (0,0))) (b4:∃ c T,W.heap[a4.block]?=some (.cells c T (0,0))) (b5:∃ c T,W.heap[a5.block]?=some (.cells c T (0,0))) (b6:∃ c T,W.heap[a6.block]?=some (.cells c T (0,0))):ErrsD W (pick a0 a2 a3 a4 a5 a6) where
 cell g h6 h1:=by
  have key:∀ {g:Nat} {n:String} {a:Addr},Tryz.prog.globalNamed n=some g→W.var? Tryz.prog n=some #[.iface 292 (.pointer (some a))]→(∃ c T,W.heap[a.block]?=some (.cells c T (0,0))) →
    g < W.heap.size∧W.cell? ⟨g,0,none⟩=some (.iface 292 (.pointer (some a)))∧a.block < W.heap.size∧∃ c T,W.heap[a.block]?=some (.cells c T (0,0)):=by
   intro g n a hg hv hb
   have hc:W.cell? ⟨g,0,none⟩=some (.iface 292 (.pointer (some a))):=by simpa using World.var?_cell hg hv 0
   obtain ⟨c,T,e⟩:=hb
   exact ⟨World.block_lt_of_cell? W ⟨g,0,none⟩ hc,hc,(Array.getElem?_eq_some_iff.1 e).1,c,T,e⟩
  have hc:g=0 ∨ g=2 ∨ g=3 ∨ g=4 ∨ g=5 ∨ g=6:=by omega
  rcases hc with rfl | rfl | rfl | rfl | rfl | rfl
  ·exact key n0 v0 b0
  ·exact key n2 v2 b2
  ·exact key n3 v3 b3
  ·exact key n4 v4 b4
  ·exact key n5 v5 b5
  ·exact key n6 v6 b6
 apart g h hg hh g1 h1 hne:=by
  have hc:g=0 ∨ g=2 ∨ g=3 ∨ g=4 ∨ g=5 ∨ g=6:=by omega
  have hd:h=0 ∨ h=2 ∨ h=3 ∨ h=4 ∨ h=5 ∨ h=6:=by omega
  simp only [List.nodup_cons,List.mem_cons,List.not_mem_nil,or_false,not_or] at hn
  obtain ⟨⟨y1,y2,y3,y4,y5⟩,⟨z1,z2,z3,z4⟩,⟨u1,u2,u3⟩,⟨p1,p2⟩,r1,-⟩:=hn
  rcases hc with rfl | rfl | rfl | rfl | rfl | rfl <;> rcases hd with rfl | rfl | rfl | rfl | rfl | rfl <;> first | exact absurd rfl hne | assumption | (apply Ne.symm; assumption)
 typ:=ty
theorem vars_read {H:Type} (enc:TypeId × Value→H) {W:World} {x0 x2 x5 x3 x4 x6:Value} (h0:W.var? Tryz.prog (nm 0)=some #[x0]) (h2:W.var? Tryz.prog (nm 1)=some #[x2]) (h5:W.var? Tryz.prog (nm 2)=some #[x5]) (h3:W.var? Tryz.prog (nm 3)=some #[x3]) (h4:W.var? Tryz.prog (nm 4)=some #[x4]) (h6:W.var? Tryz.prog (nm 5)=some #[x6]) (i0:IsIface x0) (i2:IsIface x2) (i5:IsIface x5) (i3:IsIface x3) (i4:IsIface x4) (i6:IsIface x6) (sp:Nat→Bool) :
  DataW.TrodVars enc Tryz.prog W sp Rows.fnExactAppliedSpec.vars [tok enc x0,tok enc x2,tok enc x5,tok enc x3,tok enc x4,tok enc x6] [.cell 0 0,.cell 2 0,.cell 5 0,.cell 3 0,.cell 4 0,.cell 6 0] :=
 ⟨0,70,#[x0],1,[],_,n0,t0,h0,trod_held Tryz.underlying70 i0 0,⟨2,70,#[x2],1,[],_,n2,t2,h2,trod_held Tryz.underlying70 i2 0,⟨5,70,#[x5],1,[],_,n5,t5,h5,trod_held Tryz.underlying70 i5 0,⟨3,70,#[x3],1,[],_,n3,t3,h3,trod_held Tryz.underlying70 i3 0,⟨4,70,#[x4],1,[],_,n4,t4,h4,trod_held Tryz.underlying70 i4 0,⟨6,70,#[x6],1,[],[],n6,t6,h6,trod_held Tryz.underlying70 i6 0,rfl,rfl⟩,rfl⟩,rfl⟩,rfl⟩,rfl⟩,rfl⟩
theorem var_below {W W':World} {n:String} {cs:Array Value} (h:W.var? Tryz.prog n=some cs) (hb:Below W.heap.size W W'):W'.var? Tryz.prog n=some cs:=by
 unfold World.var? at h ⊢
 cases hg:Tryz.prog.globalNamed n with
 | none=>simp [hg] at h
 | some g =>
  simp only [hg,Option.bind_some] at h ⊢
  have hlt:g < W.heap.size:=by
   rcases Nat.lt_or_ge g W.heap.size with h' | h'
   ·exact h'
   ·simp [Array.getElem?_eq_none h'] at h
  rw [hb.block g hlt]
  exact h
theorem door_met (os:Os) (args:Array Value):laidMetH Tryz.prog Rows.fnExactAppliedRow.laid ((World.doorLaid Tryz.prog 400 os).forCall (fun _ _=>0) ⟨#[],args,[]⟩).memory :=
 laidMetH_of_parts3 (fuel:=8) (laidMet_of_run' 8 (by kernel_rfl) (by kernel_rfl)) (by kernel_rfl) (by kernel_rfl)
set_option maxRecDepth 100000 in
theorem lifted (os:Os) (started:os.Started) (H:Type) (enc:TypeId × Value→H) :
  ReturnsInHanded {} Tryz.checked os 4 .any (fun w args=>(Rows.fnExactAppliedSpec.pre enc Tryz.prog Tryz.f4 Rows.fnExactAppliedRow.domain false w args∧laidMetH Tryz.prog Rows.fnExactAppliedRow.laid w)∧sizedMet enc Tryz.prog Tryz.f4 (OpenSpec.ofChange Rows.fnExactAppliedSpec) false w args)
   (Rows.fnExactAppliedSpec.post enc Tryz.prog Tryz.f4 false true false false):=by
 refine returnsInHanded_of_change_and (C:=Tryz.checked) (X:=fun w _=>laidMetH Tryz.prog Rows.fnExactAppliedRow.laid w) (fun _ _ _ hh h=>h.of_heap hh) own started (by kernel_rfl) Tryz.func4
  (ChangeSpec.witness_shaped (enc:=enc) (C:=Tryz.checked) (os:=os) (X:=fun w _=>laidMetH Tryz.prog Rows.fnExactAppliedRow.laid w) false (World.doorLaid Tryz.prog 400 os) #[.slice none 0 0,.slice none 0 0,.agg #[.int .i64 0,.string ByteArray.empty,.string ByteArray.empty,.string ByteArray.empty,.string ByteArray.empty,.string ByteArray.empty,.string ByteArray.empty]] 8 rfl
   (World.shaped_of_RefB (by kernel_rfl) (by kernel_rfl)) (by kernel_rfl) (by kernel_rfl) (by kernel_rfl) (door_met os _)) ?_
 intro W base args ds gs before hval0 hW _ _ hL _
 have hval:∀ (j:Nat) t v,Tryz.f4.params[j]?=some t→args[j]?=some v→Value.okWide Tryz.prog W .any base t v:=hval0
 have hW':=hW
 obtain ⟨p,q,hA0,hV,rfl,hfz,hnd⟩:=hW
 have hA:DataW.TrodAll enc Tryz.prog W 0 (fun _=>true) true Tryz.f4.params.toList args.toList ds p:=hA0
 rw [Tryz.params4] at hA hval
 obtain ⟨v0,vs0,d0,ds0,p0,q0,hargs,rfl,rfl,h0,r0⟩:=trodAll_cons hA
 obtain ⟨v1,vs1,d1,ds1,p1,q1,rfl,rfl,rfl,h1,r1⟩:=trodAll_cons r0
 obtain ⟨v2,vs2,d2,ds2,p2,q2,rfl,rfl,rfl,h2,r2⟩:=trodAll_cons r1
 obtain ⟨rfl,rfl,rfl⟩:=trodAll_nil r2
 obtain rfl:args=#[v0,v1,v2]:=by cases args; simp_all
 obtain ⟨a0,a2,a3,a4,a5,a6,hne,v_0,v_2,v_3,v_4,v_5,v_6,b_0,b_2,b_3,b_4,b_5,b_6⟩:=sent_of hL
 obtain ⟨rfl,rfl⟩:=hV.unique (vars_read  enc v_0 v_2 v_5 v_3 v_4 v_6 trivial trivial trivial trivial trivial trivial _)
 have k0:=h0
 have lt0:∀ x ∈ p0,x.block < W.heap.size:=by obtain ⟨m,hm⟩:=k0; exact DataW.trod_lt m _ _ _ hm
 obtain ⟨ad0,len0,cap0,hv0⟩:=okWide_slice Tryz.underlying38 (hval 0 38 v0 rfl rfl)
 subst hv0
 obtain ⟨fuel0,hf0⟩:=h0
 obtain ⟨rs0,hl0,hsl0,hft0,hm0⟩:=open_types (by simpa [Value.cells] using hf0)
 subst hl0
 have k1:=h1
 have lt1:∀ x ∈ p1,x.block < W.heap.size:=by obtain ⟨m,hm⟩:=k1; exact DataW.trod_lt m _ _ _ hm
 obtain ⟨ad1,len1,cap1,hv1⟩:=okWide_slice Tryz.underlying39 (hval 1 39 v1 rfl rfl)
 subst hv1
 obtain ⟨fuel1,hf1⟩:=h1
 obtain ⟨ts1,hl1,hsl1,hft1,hm1⟩:=open_tups (by simpa [Value.cells] using hf1)
 subst hl1
 have k2:=h2
 have lt2:∀ x ∈ p2,x.block < W.heap.size:=by obtain ⟨m,hm⟩:=k2; exact DataW.trod_lt m _ _ _ hm
 obtain ⟨xk0,xa0,xb0,xr0,xc0,xd0,xs0,hv2,wa0,wb0,wr0,wc0,wd0,ws0⟩:=open_chg (hval 2 44 v2 rfl rfl) h2
 subst hv2
 have hE:=errsD_of (typ_of hL) hne v_0 v_2 v_3 v_4 v_5 v_6 b_0 b_2 b_3 b_4 b_5 b_6
 clear hA0 hval0
 refine (walk ad0 cap0 rs0 ad1 cap1 ts1 xk0 ⟨xa0,xb0,xr0,xc0,xd0,xs0⟩ _ W hE hm0 hsl0 hft0 hm1 hsl1 hft1 ⟨wa0,wb0,wr0,wc0,wd0,ws0⟩).mono fun e W' ⟨he,bel⟩=>?_
 subst he
 exact ⟨_,rfl,_,_,_,[],_,_,hW',trodAll_mk1 (shut_bool Tryz.underlying4 _),(trodAll_cons_mk (Below.trod laidOut (by kernel_rfl) (of_decide_eq_true (by kernel_rfl)) k0 bel lt0) (trodAll_cons_mk (Below.trod laidOut (by kernel_rfl) (of_decide_eq_true (by kernel_rfl)) k1 bel lt1) (trodAll_cons_mk (Below.trod laidOut (by kernel_rfl) (of_decide_eq_true (by kernel_rfl)) k2 bel lt2) trodAll_mk0))),vars_read enc (var_below v_0 bel) (var_below v_2 bel) (var_below v_5 bel) (var_below v_3 bel) (var_below v_4 bel) (var_below v_6 bel) trivial trivial trivial trivial trivial trivial _,bel.frame _,fun h=>by cases h⟩
theorem over:Rows.fnExactAppliedRow.holds Tryz.pinned (OpenSpec.ofChange Rows.fnExactAppliedSpec) :=
 OpenClaim.holds_of_wide 4 Tryz.f4 rfl rfl rfl rfl rfl rfl rfl ⟨rfl,rfl,rfl,rfl,rfl⟩ rfl rfl rfl rfl rfl (by kernel_rfl) Tryz.func4 (by kernel_rfl)
  (of_decide_eq_true (by kernel_rfl)) (by unfold Func.isWrapper; first | (rw [if_pos (by decide +kernel)]; kernel_rfl) | (rw [if_neg (by decide +kernel)]; exact ⟨rfl,rfl⟩))
  (fun os started H enc _=>lifted os started H enc)
theorem card:Rows.FnExactAppliedCardSaid :=
 Claim7.holds_tied_plain_at .later [] [.handle,.sentinel,.sentinel,.sentinel,.sentinel,.sentinel,.sentinel] true _ true over (fun _ h=>by cases h) (by kernel_rfl) (fun _ h=>by cases h) fnExactApplied_row_tie rfl ⟨rfl,rfl⟩ (by kernel_rfl) rfl
  (fun f fn hf hfn=>by
   obtain rfl:f=4:=Option.some.inj ((show Tryz.prog.funcNamed Rows.fnExactAppliedRow.func=some 4 by kernel_rfl).symm.trans hf) |>.symm
   obtain rfl:fn=Tryz.f4:=(Option.some.inj (Tryz.func4.symm.trans hfn)).symm
   exact ⟨by kernel_rfl,fun j t ht=>by
    rw [Tryz.params4] at ht
    have hm:t ∈ [38,39,44]:=by simpa using Array.mem_of_getElem? ht
    have hall:([38,39,44].all fun u=>!Tryz.prog.wantsStandIn u)=true:=by kernel_rfl
    exact (show Tryz.prog.wantsStandIn t=false by simpa using List.all_eq_true.1 hall t hm)⟩)
  (by kernel_rfl)
end Go.Proofs.YtpnjoniolfmbnaaGreatDoor.fnExactApplied
namespace Go.Proofs.YtpnjoniolfmbnaaGreatDoor
theorem FnExactApplied_holds:Rows.FnExactAppliedCardSaid:=fnExactApplied.card
end Go.Proofs.YtpnjoniolfmbnaaGreatDoor
