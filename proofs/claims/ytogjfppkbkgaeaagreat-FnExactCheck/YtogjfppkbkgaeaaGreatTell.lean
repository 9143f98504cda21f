/- One more tuple told to the program's data. -/
import Derived.Test.YtogjfppkbkgaeaaGreatJ12
import Derived.Test.YtogjfppkbkgaeaaGreatJ13
namespace Go.Proofs.YtogjfppkbkgaeaaGreat
set_option maxRecDepth 100000
set_option linter.unusedVariables false
open Go.ChangeShapes Go.WideShapes Go.ChangeAt Go.RowKit Go.Maps
open Pl
theorem infoTup4:∃ i,Tryz.prog.info? 73=some i∧i.zero=some (.agg #[.string ⟨#[]⟩,.string ⟨#[]⟩,.string ⟨#[]⟩,.string ⟨#[]⟩,.string ⟨#[]⟩,.string ⟨#[]⟩])∧i.size=6∧i.bytes=96 :=
 info_parts (P:=Tryz.prog) (e:=73) (z:=.agg #[.string ⟨#[]⟩,.string ⟨#[]⟩,.string ⟨#[]⟩,.string ⟨#[]⟩,.string ⟨#[]⟩,.string ⟨#[]⟩]) (size:=6) (bytes:=96) (by kernel_rfl)
theorem zeroTs (u:World):(zeroValue 30).run Tryz.prog u=.ok (.slice none 0 0) u:=by kernel_rfl
theorem grpT_row0 {w:World} {bp np:Nat} {Mp:K3→Option Value} {E:List (K3 × Tp)} (h:G.Grp encP Tryz.prog 162 73 6 Tp.row w bp np Mp E) (k:K3):w.ownsRow (bp + 1) 73 6 ((Mp k).getD (.slice none 0 0)) (G.lookL E k).length (G.flatG Tp.row (G.lookL E k)):=by
 rcases h.row k with ⟨e,e2⟩ | ⟨v,e,ho⟩
 ·rw [e,e2]; exact World.ownsRow_nil _ _ _ _
 ·rw [e]; exact ho
theorem news_of_block {w:World} {g:Nat} {cs:Array Value} {T:TypeId} (h:w.heap[g]?=some (.cells cs T (0,0))):∀ j u,cs.toList[j]?=some u→w.cell? ((⟨g,0,none⟩:Addr).add j)=some u:=by
 intro j u hu
 have e:(⟨g,0,none⟩:Addr).add j=⟨g,j,none⟩:=by
  unfold Addr.add
  by_cases hj:j=0
  ·subst hj; simp
  ·simp [hj]
 rw [e]
 simp [World.cell?,h]
 simpa using hu
theorem Six.block {w w':World} {g:Nat} {t:Tp} (h:Six w g t) (e:w'.heap[g]?=w.heap[g]?) (hl:g < w'.heap.size):Six w' g t:=by
 obtain ⟨h0,h1,h2,h3,h4,h5,_⟩:=h
 have hc:∀ o,w'.cell? ⟨g,o,none⟩=w.cell? ⟨g,o,none⟩:=fun o=>World.cell?_of_block (w:=w) (a:=⟨g,o,none⟩) e
 exact ⟨(hc _).trans h0,(hc _).trans h1,(hc _).trans h2,(hc _).trans h3,(hc _).trans h4,(hc _).trans h5,hl⟩
theorem frozen_of_block {w:World} {g:Nat} {cs:Array Value} {T:TypeId} (h:w.heap[g]?=some (.cells cs T (0,0))) (o:Nat):w.frozen? ⟨g,o,none⟩=false:=by
 simp [World.frozen?,h]
theorem Six.aside {w w':World} {g base n:Nat} {t:Tp} {v v':Value} {xs:List Value} (h:Six w g t) (hc:∃ cur,w.heap[g]?=some (.cells cur 73 (0,0))) (ho:w.ownsRow base 45 2 v n xs) (ha:Aside w v w' v'):Six w' g t∧∃ cur,w'.heap[g]?=some (.cells cur 73 (0,0)):=by
 obtain ⟨cur,e⟩:=hc
 have hl:=h.2.2.2.2.2.2
 have hb:=ha.block g hl fun hg=>absurd (own_kind ho hg e) (by decide)
 exact ⟨h.block hb (Nat.lt_of_lt_of_le hl ha.size),cur,hb.trans e⟩
set_option maxHeartbeats 16000000 in
theorem tell_any (D br bp:Nat) (tab:Value) (n1:Int) (E:List (K3 × Tp)) (xo xu:List Al) (np:Nat) (Mp:K3→Option Value) (vo vu:Value) (t:Tp) (w:World) (hd:DatT w D br bp tab n1 E xo xu np Mp vo vu) (hnp:np≤1000) (hE:E.length≤1000) (hxo:xo.length≤500) (hxu:xu.length≤500) (ht:t.fits) :
  Calls Tryz.prog 66 #[.pointer (some ⟨D,0,none⟩),.agg #[.string t.a,.string t.b,.string t.r,.string t.c,.string t.d,.string t.s]] w fun e w'=>e=.returned (.tuple #[])∧(∃ Mp' vo' vu',DatT w' D br bp tab n1 (E ++ [(plK t,t)]) (objStep xo t) (usrStep xu t) (np + 1) Mp' vo' vu')∧Below bp w w':=by
 obtain ⟨iT,h0,h1,h2,h3⟩:=infoTup4
 have HIT:=toHC (And.intro h0 (And.intro h1 (And.intro h2 h3)))
 obtain ⟨W,hW⟩:∃ W,W=(w.alloc (.cells #[.string t.a,.string t.b,.string t.r,.string t.c,.string t.d,.string t.s] 73)).alloc (.cells #[.string t.a,.string t.b,.string t.r] 162):=⟨_,rfl⟩
 have HBW:Hid (Below w.heap.size w W):=by show Below _ _ _; rw [hW]; exact ((Below.refl _ _).alloc (Nat.le_refl _) _).alloc (by simp) _
 have hWs:W.heap.size=w.heap.size + 2:=by rw [hW]; simp
 have HT6:Hid (Six W w.heap.size t):=by show Six _ _ _; rw [hW]; refine ⟨?_,?_,?_,?_,?_,?_,?_⟩ <;> first | (simp; done) | (simp; omega)
 have HK3:Hid (W.cell? ⟨w.heap.size + 1,0,none⟩=some (.string t.a)∧W.cell? ⟨w.heap.size + 1,1,none⟩=some (.string t.b)∧W.cell? ⟨w.heap.size + 1,2,none⟩=some (.string t.r)):=by show _∧_; rw [hW]; refine ⟨?_,?_,?_⟩ <;> simp
 have HD:=toHC (hd.below HBW.out)
 have hDl:D < w.heap.size:=hd.lt
 have HFB:Hid (G.FreeB Mp w.heap.size):=hd.told.fresh (Nat.le_refl _)
 have HBX:Hid (W.heap[w.heap.size]?=some (.cells #[.string t.a,.string t.b,.string t.r,.string t.c,.string t.d,.string t.s] 73 (0,0))):=by show _=_; rw [hW,Below.heap_alloc _ _ _ (by simp)]; exact heap_alloc_new w _
 have hbD:bp < D:=hd.gt
 have HLL:Hid ((G.lookL E (plK t)).length≤1000):=Nat.le_trans (List.length_filterMap_le _ _) hE
 obtain ⟨row0,hr0⟩:∃ r,r=(Mp (plK t)).getD (.slice none 0 0):=⟨_,rfl⟩
 obtain ⟨nn,hnn⟩:∃ n,n=(G.lookL E (plK t)).length:=⟨_,rfl⟩
 obtain ⟨xs,hxs⟩:∃ x,x=G.flatG Tp.row (G.lookL E (plK t)):=⟨_,rfl⟩
 have HR0:=toHC hr0
 have HNN:=toHC hnn
 have HXS:=toHC hxs
 have hnl:nn≤1000:=by rw [hnn]; exact HLL.out
 have HROW:Hid (∀ W0:World,Below W.heap.size W W0→W0.ownsRow (bp + 1) 73 6 row0 nn xs):=fun W0 hb=>by rw [hr0,hnn,hxs]; exact grpT_row0 (HD.out.told.below hb) _
 have HKEY:Hid (∃ kl,keyOf Tryz.prog 162 (encP (plK t))=some kl):=plKeyOf _ ht.1 ht.2.1 ht.2.2.1
 clear h0 h1 h2 h3 hr0 hnn hxs hd hE
 obtain ⟨C2,hC2⟩:∃ C:Nat→Value,C=fun n=>(Value.pointer (some { block:=D,off:=0 })::Value.pointer (some { block:=D,off:=0 })::Value.pointer (some { block:=D,off:=3 })::Value.map (some bp)::Value.agg #[Value.string t.a,Value.string t.b,Value.string t.r]::Value.agg #[Value.string t.a,Value.string t.b,Value.string t.r,Value.string t.c,Value.string t.d,Value.string t.s]::[]).getD n undef:=⟨_,rfl⟩
 have HC2:Hid (C2 0=Value.pointer (some { block:=D,off:=0 })∧C2 1=Value.pointer (some { block:=D,off:=0 })∧C2 2=Value.pointer (some { block:=D,off:=3 })∧C2 3=Value.map (some bp)∧C2 4=Value.agg #[Value.string t.a,Value.string t.b,Value.string t.r]∧C2 5=Value.agg #[Value.string t.a,Value.string t.b,Value.string t.r,Value.string t.c,Value.string t.d,Value.string t.s]):=by show _∧_; rw [hC2]; exact ⟨rfl,rfl,rfl,rfl,rfl,rfl⟩
 clear hC2
 go_enter Tryz.func66,Tryz.ntmps66
 go_wp2_with fail
 rw [← hW]
 clear hW
 refine wp_region_frame 11 (fun _=>undef) (fun fq=>{ tmps:=List.toArray (Value.pointer (some { block:=D,off:=0 })::Value.agg #[Value.string t.a,Value.string t.b,Value.string t.r,Value.string t.c,Value.string t.d,Value.string t.s]::undef::Value.pointer (some { block:=w.heap.size,off:=0 })::Value.pointer (some { block:=w.heap.size + 1,off:=0 })::Value.pointer (some { block:=w.heap.size,off:=0 })::Value.agg #[Value.string t.a,Value.string t.b]::Value.pointer (some { block:=w.heap.size,off:=2 })::Value.string t.r::Value.agg #[Value.string t.a,Value.string t.b,Value.string t.r]::(fq 0)::(fq 1)::(fq 2)::(fq 3)::(fq 4)::(fq 8)::(fq 5)::(fq 6)::(fq 7)::(fq 9)::(fq 10)::undef::undef::undef::undef::undef::undef::undef::undef::undef::undef::undef::undef::undef::undef::undef::undef::undef::undef::undef::undef::undef::undef::undef::undef::undef::undef::undef::undef::undef::undef::undef::undef::undef::[]),defers:=[] }) (G.EI C2 #[Value.string t.a,Value.string t.b,Value.string t.r,Value.string t.c,Value.string t.d,Value.string t.s] 73 6 W bp row0 nn xs (G.Back encP Tryz.prog 162 109 bp np Mp (plK t))) (by kernel_rfl) rfl (by kernel_rfl) (by kernel_rfl) rfl (G.ei_start W) ?stepA ?finA
 case stepA =>
  rintro i hi o ho l fq w' hli hI hpre
  have HI:Hid (G.EI C2 #[Value.string t.a,Value.string t.b,Value.string t.r,Value.string t.c,Value.string t.d,Value.string t.s] 73 6 W bp row0 nn xs (G.Back encP Tryz.prog 162 109 bp np Mp (plK t)) l fq w'):=hI
  have HPR:Hid (∀ e ∈ o.after,Region.binds .any e=true→l e.on=true):=hpre
  clear hI hpre
  have hc:i=0 ∨ i=1 ∨ i=2 ∨ i=3 ∨ i=4 ∨ i=5 ∨ i=6 ∨ i=7 ∨ i=8 ∨ i=9 ∨ i=10:=by omega
  clear hi
  rcases hc with rfl | rfl | rfl | rfl | rfl | rfl | rfl | rfl | rfl | rfl | rfl
  ·obtain rfl:=Option.some.inj ho
   have hA:=HI.out.early (i:=0) (by omega) hli
   clear ho HPR HI
   refine wpOp_hid rfl fun K HK=>?_
   go_simp
   exact HK.out _ _ ⟨Value.pointer (some { block:=D,off:=0 }),by simp [upd, *],hA.put (by omega) HC2.out.1.symm⟩
  ·obtain rfl:=Option.some.inj ho
   have hA:=HI.out.early (i:=1) (by omega) hli
   have e0:=(hA.val 0 (by omega) (HPR.out { on:=0,ground:=.data } (by simp) rfl)).trans HC2.out.1
   clear ho HPR HI
   refine wpOp_hid rfl fun K HK=>?_
   simp only [e0]
   go_simp
   exact HK.out _ _ ⟨Value.pointer (some { block:=D,off:=0 }),by simp [upd, *],hA.put (by omega) HC2.out.2.1.symm⟩
  ·obtain rfl:=Option.some.inj ho
   have hA:=HI.out.early (i:=2) (by omega) hli
   have e1:=(hA.val 1 (by omega) (HPR.out { on:=1,ground:=.data } (by simp) rfl)).trans HC2.out.2.1
   clear ho HPR HI
   refine wpOp_hid rfl fun K HK=>?_
   simp only [e1]
   go_simp
   exact HK.out _ _ ⟨Value.pointer (some { block:=D,off:=3 }),by simp [upd, *],hA.put (by omega) HC2.out.2.2.1.symm⟩
  ·obtain rfl:=Option.some.inj ho
   have hA:=HI.out.early (i:=3) (by omega) hli
   have e2:=(hA.val 2 (by omega) (HPR.out { on:=2,ground:=.data } (by simp) rfl)).trans HC2.out.2.2.1
   have hb':=hA.bel
   have d3:=(hb'.cell (p:=⟨D,3,none⟩) (by show D < _; omega)).trans HD.out.c3
   clear ho HPR HI
   refine wpOp_hid rfl fun K HK=>?_
   simp only [e2]
   go_simp
   exact HK.out _ _ ⟨Value.map (some bp),by simp [upd, *],hA.put (by omega) HC2.out.2.2.2.1.symm⟩
  ·obtain rfl:=Option.some.inj ho
   have hA:=HI.out.early (i:=4) (by omega) hli
   have hb':=hA.bel
   have k0:=(hb'.cell (p:=⟨w.heap.size + 1,0,none⟩) (by show w.heap.size + 1 < _; omega)).trans HK3.out.1
   have k1:=(hb'.cell (p:=⟨w.heap.size + 1,1,none⟩) (by show w.heap.size + 1 < _; omega)).trans HK3.out.2.1
   have k2:=(hb'.cell (p:=⟨w.heap.size + 1,2,none⟩) (by show w.heap.size + 1 < _; omega)).trans HK3.out.2.2
   clear ho HPR HI
   refine wpOp_hid rfl fun K HK=>?_
   go_simp
   exact HK.out _ _ ⟨Value.agg #[Value.string t.a,Value.string t.b,Value.string t.r],by simp [upd, *],hA.put (by omega) HC2.out.2.2.2.2.1.symm⟩
  ·obtain rfl:=Option.some.inj ho
   have hA:=HI.out.early (i:=5) (by omega) hli
   have hb':=hA.bel
   obtain ⟨t0,t1,t2,t3,t4,t5,tl⟩:=HT6.out.below hb'
   clear ho HPR HI
   refine wpOp_hid rfl fun K HK=>?_
   go_simp
   exact HK.out _ _ ⟨Value.agg #[Value.string t.a,Value.string t.b,Value.string t.r,Value.string t.c,Value.string t.d,Value.string t.s],by simp [upd, *],hA.put (by omega) HC2.out.2.2.2.2.2.symm⟩
  ·obtain rfl:=Option.some.inj ho
   have hA:=HI.out.early (i:=6) (by omega) hli
   have e5:=(hA.val 5 (by omega) (HPR.out { on:=5,ground:=.data } (by simp) rfl)).trans HC2.out.2.2.2.2.2
   clear ho HPR HI
   refine wpOp_hid rfl fun K HK=>?_
   simp only [e5]
   go_simp
   exact HK.out _ _ ⟨_,by simp [upd,e5],hA.lay⟩
  ·obtain rfl:=Option.some.inj ho
   have hA:=HI.out.early (i:=7) (by omega) hli
   have e3:=(hA.val 3 (by omega) (HPR.out { on:=3,ground:=.data } (by simp) rfl)).trans HC2.out.2.2.2.1
   have e4:=(hA.val 4 (by omega) (HPR.out { on:=4,ground:=.data } (by simp) rfl)).trans HC2.out.2.2.2.2.1
   have hall:∀ k,k≤6→l k=true:=fun k hk=>by
    have hc:k=0 ∨ k=1 ∨ k=2 ∨ k=3 ∨ k=4 ∨ k=5 ∨ k=6:=by omega
    rcases hc with rfl | rfl | rfl | rfl | rfl | rfl | rfl
    ·exact HPR.out { on:=0,ground:=.phase } (by simp) rfl
    ·exact HPR.out { on:=1,ground:=.phase } (by simp) rfl
    ·exact HPR.out { on:=2,ground:=.phase } (by simp) rfl
    ·exact HPR.out { on:=3,ground:=.phase } (by simp) rfl
    ·exact HPR.out { on:=4,ground:=.phase } (by simp) rfl
    ·exact HPR.out { on:=5,ground:=.phase } (by simp) rfl
    ·exact HPR.out { on:=6,ground:=.phase } (by simp) rfl
   have hD':=HD.out.below hA.bel
   obtain ⟨kl,hkl⟩:=HKEY.out
   obtain ⟨st,w1,hrun,hg,hback⟩:=hD'.told.map.entry plLaw0 encP_inj Tryz.underlying109 zeroTs (by unfold maxLen; omega) hkl
   rw [← HR0.out] at hrun
   have hrun':(Instr.mapEntry 109 (.map (some bp)) (Value.agg #[Value.string t.a,Value.string t.b,Value.string t.r])).run Tryz.prog w'=.ok (.tuple #[row0,goInt st]) w1:=hrun
   clear ho HPR HI
   refine wpOp_hid rfl fun K HK=>?_
   simp only [e3,e4]
   go_simp
   exact HK.out _ _ ⟨_,by simp [upd,e3,e4,goInt],hA.took hall hg hback⟩
  ·obtain rfl:=Option.some.inj ho
   have h7:=HPR.out { on:=7,ground:=.data } (by simp) rfl
   have hB:=HI.out.midB h7 (i:=8) (by omega) hli
   obtain ⟨st,e7⟩:=HI.out.seven h7
   clear ho HPR HI
   refine wpOp_hid rfl fun K HK=>?_
   simp only [e7]
   go_simp
   exact HK.out _ _ ⟨_,by simp [upd,e7,goInt],hB.first⟩
  ·obtain rfl:=Option.some.inj ho
   have h7:=HPR.out { on:=7,ground:=.chain } (by simp) rfl
   have h8:=HPR.out { on:=8,ground:=.data } (by simp) rfl
   have hB:=HI.out.midB h7 (i:=9) (by omega) hli
   obtain ⟨W0,st,g,hm1,hm2,hm3,hm4,hm5,e7,hm7,hm8,hm9⟩:=hB.mid
   have e8:=hm8 h8
   have hown:=(HROW.out W0 hm1).kept hm5 (by
    rcases h:row0.ownBlock with _ | g'
    ·exact .inl rfl
    ·right; intro e; injection e with e; have:=((HROW.out W0 hm1).lt g' h).1; omega)
   have hnew:w'.heap[g]?=some (.cells #[Value.string t.a,Value.string t.b,Value.string t.r,Value.string t.c,Value.string t.d,Value.string t.s] 73 (0,0)):=by
    have hgl:g < W0.heap.size:=by
     rcases Nat.lt_or_ge g W0.heap.size with h | h
     ·exact h
     ·rw [Array.getElem?_eq_none h] at hm4; cases hm4
    rw [hm5.block g hgl (fun e=>by injection e with e; omega)]; exact hm4
   clear ho HPR HI
   refine wpOp_append_own w' rfl rfl _ _ 30 rfl (bp + 1) 73 iT _ 6 96 Tryz.underlying30 HIT.out.1 HIT.out.2.1 HIT.out.2.2.1 HIT.out.2.2.2 rfl (by decide) row0 nn xs (by simp [Act.eval,e8]) hown ⟨g,0,none⟩ 1 1 [Value.string t.a,Value.string t.b,Value.string t.r,Value.string t.c,Value.string t.d,Value.string t.s] (by simp [Act.eval,hm2]) rfl (fun j u hu=>news_of_block hnew j u hu) (by simp [Value.oneCell']) (by unfold maxLen; omega) (by omega) (by have:=hm5.size; have:=hm1.size; omega) ?_
   intro v' w2 hown2 hgr2 hloc2
   exact ⟨v',by simp [upd,Act.put],hB.app h8 hgr2 hown2 hloc2⟩
  ·obtain rfl:=Option.some.inj ho
   have h7:=HPR.out { on:=7,ground:=.data } (by simp) rfl
   obtain ⟨st,e7⟩:=HI.out.seven h7
   have HI2:=HI.out.second h7 e7
   clear ho HPR HI
   refine wpOp_hid rfl fun K HK=>?_
   simp only [e7]
   go_simp
   exact HK.out _ _ ⟨_,by simp [upd,e7,goInt],HI2⟩
 case finA =>
  rintro o ho l fq w' hall hI
  obtain rfl:=Option.some.inj ho
  have hC:=hI.last hall
  obtain ⟨W0,w1,st,hm1,hm2,hm3,hm4,hm5,hm6,-,hm8⟩:=hC.mid
  have e10:=hm8 (hall 10 (by omega))
  have e3:=(hC.val 3 (by omega)).trans HC2.out.2.2.2.1
  obtain ⟨w3,hrun,hM3,hg3⟩:=hm6 w' (fq 9) (hm3.block bp (by have:=hm2.size; have:=hm1.size; omega) (fun e=>by have:=(HROW.out W0 hm1).lt bp e.symm; omega))
  have hst:=(HD.out.told.below hm1).step (y:=plK t) (s:=t) hm2 (by rw [← HNN.out,← HXS.out]; exact hm4) (by rw [← HR0.out]; exact hm3) (by rw [← HR0.out]; exact hm5) hg3 hM3
  have HD3:=toHC ((HD.out.below hm1).tell hst.1 hst.2)
  have HB3:Hid (Below bp w w3):=by
   have b0:Below bp w W0:=(HBW.out.trans (hm1.mono HBW.out.size)).mono (by omega)
   have b1:Below bp w w1:=b0.grown hm2 (by have:=hm1.size; omega) (fun i hi=>by injection hi with hi; omega)
   have b2:Below bp w w':=b1.grown hm3 (by have:=hm2.size; have:=hm1.size; omega) (fun i hi=>by have:=((HROW.out W0 hm1).lt i hi).1; omega)
   exact b2.grown hg3 (by have:=hm3.size; have:=hm2.size; have:=hm1.size; omega) (fun i hi=>by injection hi with hi; omega)
  have hz3:W.heap.size≤w3.heap.size:=by have:=hg3.size; have:=hm3.size; have:=hm2.size; have:=hm1.size; omega
  have hbx3:w3.heap[w.heap.size]?=some (.cells #[Value.string t.a,Value.string t.b,Value.string t.r,Value.string t.c,Value.string t.d,Value.string t.s] 73 (0,0)):=by
   rw [hst.2.block w.heap.size (by have:=hm1.size; omega) (by omega) HFB.out,hm1.block w.heap.size (by omega)]; exact HBX.out
  have HT3:Hid (Six w3 w.heap.size t∧∃ cur,w3.heap[w.heap.size]?=some (.cells cur 73 (0,0))):=⟨HT6.out.block (by rw [hbx3,HBX.out]) (by omega),_,hbx3⟩
  have hrun2:(Instr.entryStore 109 (.map (some bp)) (.int .i64 st) (fq 9)).run Tryz.prog w'=.ok () w3:=hrun
  obtain ⟨Mn,hMn⟩:∃ M,M=updM Mp (plK t) (some (fq 9)):=⟨_,rfl⟩
  rw [← hMn] at HD3
  refine wpOp_hid rfl fun K HK=>?_
  simp only [e3,e10]
  go_simp
  refine HK.out _ _ ?_
  clear hst hrun hrun2 hM3 hg3 hm1 hm2 hm3 hm4 hm5 hm6 hm8 hC hI hall ho HK K e3 e10 HD HT6 HK3 HBW HROW HBX HC2 HKEY HFB hMn HR0 HNN HXS hbx3
  obtain ⟨y0,hy0⟩:∃ y,y=fq 0:=⟨_,rfl⟩
  rw [← hy0]
  obtain ⟨y1,hy1⟩:∃ y,y=fq 1:=⟨_,rfl⟩
  rw [← hy1]
  obtain ⟨y2,hy2⟩:∃ y,y=fq 2:=⟨_,rfl⟩
  rw [← hy2]
  obtain ⟨y4,hy4⟩:∃ y,y=fq 4:=⟨_,rfl⟩
  rw [← hy4]
  obtain ⟨y8,hy8⟩:∃ y,y=fq 8:=⟨_,rfl⟩
  rw [← hy8]
  obtain ⟨y5,hy5⟩:∃ y,y=fq 5:=⟨_,rfl⟩
  rw [← hy5]
  obtain ⟨y6,hy6⟩:∃ y,y=fq 6:=⟨_,rfl⟩
  rw [← hy6]
  obtain ⟨y7,hy7⟩:∃ y,y=fq 7:=⟨_,rfl⟩
  rw [← hy7]
  obtain ⟨y9,hy9⟩:∃ y,y=fq 9:=⟨_,rfl⟩
  rw [← hy9]
  clear hy0 hy1 hy2 hy4 hy8 hy5 hy6 hy7 hy9 fq l hz3
  go_wp2_with fail
  have hbz:bp + 1≤w3.heap.size:=by have:=HD3.out.lt; have:=HD3.out.gt; omega
  have hx1:(withO xo ⟨t.a,t.b⟩).length≤501:=by have:=withO_len xo ⟨t.a,t.b⟩; omega
  obtain ⟨CB,hCB⟩:∃ C:Nat→Value,C=fun n=>(Value.pointer (some { block:=D,off:=0 })::Value.pointer (some { block:=D,off:=0 })::Value.pointer (some { block:=D,off:=0 })::Value.pointer (some { block:=D,off:=4 })::vo::Value.pointer (some { block:=w.heap.size,off:=0 })::Value.agg #[Value.string t.a,Value.string t.b]::undef::Value.pointer (some { block:=D,off:=0 })::Value.pointer (some { block:=D,off:=4 })::[]).getD n undef:=⟨_,rfl⟩
  have HCB:Hid (CB 0=Value.pointer (some { block:=D,off:=0 })∧CB 1=Value.pointer (some { block:=D,off:=0 })∧CB 2=Value.pointer (some { block:=D,off:=0 })∧CB 3=Value.pointer (some { block:=D,off:=4 })∧CB 4=vo∧CB 5=Value.pointer (some { block:=w.heap.size,off:=0 })∧CB 6=Value.agg #[Value.string t.a,Value.string t.b]∧CB 7=undef∧CB 8=Value.pointer (some { block:=D,off:=0 })∧CB 9=Value.pointer (some { block:=D,off:=4 })):=by show _∧_; rw [hCB]; exact ⟨rfl,rfl,rfl,rfl,rfl,rfl,rfl,rfl,rfl,rfl⟩
  clear hCB
  refine wp_region_frame2 10 (fun _=>undef) (fun fr=>{ tmps:=List.toArray (Value.pointer (some { block:=D,off:=0 })::Value.agg #[Value.string t.a,Value.string t.b,Value.string t.r,Value.string t.c,Value.string t.d,Value.string t.s]::undef::Value.pointer (some { block:=w.heap.size,off:=0 })::Value.pointer (some { block:=w.heap.size + 1,off:=0 })::Value.pointer (some { block:=w.heap.size,off:=0 })::Value.agg #[Value.string t.a,Value.string t.b]::Value.pointer (some { block:=w.heap.size,off:=2 })::Value.string t.r::Value.agg #[Value.string t.a,Value.string t.b,Value.string t.r]::y0::y1::y2::Value.map (some bp)::y4::y8::y5::y6::y7::y9::Value.int IntKind.i64 (st:Int)::(fr 0)::(fr 1)::(fr 2)::(fr 3)::(fr 4)::(fr 5)::(fr 6)::(fr 7)::(fr 8)::(fr 9)::undef::undef::undef::undef::undef::undef::undef::undef::undef::undef::undef::undef::undef::undef::undef::undef::undef::undef::undef::undef::undef::undef::undef::[]),defers:=[] }) (G.WI CB w3 (fun v' w'=>∃ w1,Below w3.heap.size w3 w1∧w'.ownsRow (bp + 1) 45 2 v' (withO xo ⟨t.a,t.b⟩).length (pairs (withO xo ⟨t.a,t.b⟩))∧Aside w1 vo w' v'∧∀ B',(∀ g,vo.ownBlock=some g→B'≤g)→B'≤w1.heap.size→Below B' w1 w')) (by kernel_rfl) rfl (by kernel_rfl) (fun o ho l f w' hI hp=>?clB) rfl (G.wi_start w3) ?stepB ?finB
  case clB =>
   obtain rfl:=Option.some.inj ho
   intro k hk
   have h9:=hp { on:=9,ground:=.data } (by simp) rfl
   have hc:k=0 ∨ k=1 ∨ k=2 ∨ k=3 ∨ k=4 ∨ k=5 ∨ k=6 ∨ k=7 ∨ k=8 ∨ k=9:=by omega
   rcases hc with rfl | rfl | rfl | rfl | rfl | rfl | rfl | rfl | rfl | rfl
   ·exact hp { on:=0,ground:=.phase } (by simp) rfl
   ·exact hp { on:=1,ground:=.phase } (by simp) rfl
   ·exact hp { on:=2,ground:=.phase } (by simp) rfl
   ·exact hp { on:=3,ground:=.phase } (by simp) rfl
   ·exact hp { on:=4,ground:=.phase } (by simp) rfl
   ·exact hp { on:=5,ground:=.phase } (by simp) rfl
   ·exact hp { on:=6,ground:=.phase } (by simp) rfl
   ·exact hp { on:=7,ground:=.phase } (by simp) rfl
   ·exact hI.nin h9
   ·exact h9
  case stepB =>
   rintro i hi o ho l fr w' hli hI hpre
   have HI:Hid (G.WI CB w3 (fun v' w'=>∃ w1,Below w3.heap.size w3 w1∧w'.ownsRow (bp + 1) 45 2 v' (withO xo ⟨t.a,t.b⟩).length (pairs (withO xo ⟨t.a,t.b⟩))∧Aside w1 vo w' v'∧∀ B',(∀ g,vo.ownBlock=some g→B'≤g)→B'≤w1.heap.size→Below B' w1 w') l fr w'):=hI
   have HPR:Hid (∀ e ∈ o.after,Region.binds .any e=true→l e.on=true):=hpre
   clear hI hpre
   have hc:i=0 ∨ i=1 ∨ i=2 ∨ i=3 ∨ i=4 ∨ i=5 ∨ i=6 ∨ i=7 ∨ i=8 ∨ i=9:=by omega
   clear hi
   rcases hc with rfl | rfl | rfl | rfl | rfl | rfl | rfl | rfl | rfl | rfl
   ·obtain rfl:=Option.some.inj ho
    have hW:=HI.out
    clear ho HPR HI
    refine wpOp_hid rfl fun K HK=>?_
    go_simp
    exact HK.out _ _ ⟨Value.pointer (some { block:=D,off:=0 }),by simp [upd, *],hW.put (by omega) (by omega) HCB.out.1.symm⟩
   ·obtain rfl:=Option.some.inj ho
    have hW:=HI.out
    clear ho HPR HI
    refine wpOp_hid rfl fun K HK=>?_
    go_simp
    exact HK.out _ _ ⟨Value.pointer (some { block:=D,off:=0 }),by simp [upd, *],hW.put (by omega) (by omega) HCB.out.2.1.symm⟩
   ·obtain rfl:=Option.some.inj ho
    have hW:=HI.out
    have e1:=(HI.out.val 1 (by omega) (by omega) (HPR.out { on:=1,ground:=.data } (by simp) rfl)).trans HCB.out.2.1
    clear ho HPR HI
    refine wpOp_hid rfl fun K HK=>?_
    simp only [e1]
    go_simp
    exact HK.out _ _ ⟨Value.pointer (some { block:=D,off:=0 }),by simp [upd, *],hW.put (by omega) (by omega) HCB.out.2.2.1.symm⟩
   ·obtain rfl:=Option.some.inj ho
    have hW:=HI.out
    have e2:=(HI.out.val 2 (by omega) (by omega) (HPR.out { on:=2,ground:=.data } (by simp) rfl)).trans HCB.out.2.2.1
    clear ho HPR HI
    refine wpOp_hid rfl fun K HK=>?_
    simp only [e2]
    go_simp
    exact HK.out _ _ ⟨Value.pointer (some { block:=D,off:=4 }),by simp [upd, *],hW.put (by omega) (by omega) HCB.out.2.2.2.1.symm⟩
   ·obtain rfl:=Option.some.inj ho
    have hW:=HI.out
    have e3:=(HI.out.val 3 (by omega) (by omega) (HPR.out { on:=3,ground:=.data } (by simp) rfl)).trans HCB.out.2.2.2.1
    have hb':=HI.out.early (.inl hli)
    have d4:=(hb'.cell (p:=⟨D,4,none⟩) HD3.out.lt).trans HD3.out.c4
    clear ho HPR HI
    refine wpOp_hid rfl fun K HK=>?_
    simp only [e3]
    go_simp
    exact HK.out _ _ ⟨vo,by simp [upd, *],hW.put (by omega) (by omega) HCB.out.2.2.2.2.1.symm⟩
   ·obtain rfl:=Option.some.inj ho
    have hW:=HI.out
    clear ho HPR HI
    refine wpOp_hid rfl fun K HK=>?_
    go_simp
    exact HK.out _ _ ⟨Value.pointer (some { block:=w.heap.size,off:=0 }),by simp [upd, *],hW.put (by omega) (by omega) HCB.out.2.2.2.2.2.1.symm⟩
   ·obtain rfl:=Option.some.inj ho
    have hW:=HI.out
    have e5:=(HI.out.val 5 (by omega) (by omega) (HPR.out { on:=5,ground:=.data } (by simp) rfl)).trans HCB.out.2.2.2.2.2.1
    have hb':=HI.out.early (.inr hli)
    obtain ⟨t0,t1,t2,t3,t4,t5,tl⟩:=HT3.out.1.below hb'
    clear ho HPR HI
    refine wpOp_hid rfl fun K HK=>?_
    simp only [e5]
    go_simp
    exact HK.out _ _ ⟨Value.agg #[Value.string t.a,Value.string t.b],by simp [upd, *],hW.put (by omega) (by omega) HCB.out.2.2.2.2.2.2.1.symm⟩
   ·obtain rfl:=Option.some.inj ho
    have hW:=HI.out
    have e4:=(HI.out.val 4 (by omega) (by omega) (HPR.out { on:=4,ground:=.data } (by simp) rfl)).trans HCB.out.2.2.2.2.1
    have e6:=(HI.out.val 6 (by omega) (by omega) (HPR.out { on:=6,ground:=.data } (by simp) rfl)).trans HCB.out.2.2.2.2.2.2.1
    have h4:=HPR.out { on:=4,ground:=.data } (by simp) rfl
    have h6:=HPR.out { on:=6,ground:=.data } (by simp) rfl
    have hb':=HI.out.before hli
    have hown:=own_belowA HD3.out.objs hb'
    clear ho HPR HI
    refine wpOp_hid rfl fun K HK=>?_
    simp only [e4,e6]
    go_simp
    refine (withObject_any (bp + 1) vo xo ⟨t.a,t.b⟩ w' (by omega) (Nat.le_trans hbz hb'.size) hown).mono ?_
    rintro e w2 ⟨v',rfl,hown2,has,hbl⟩
    exact HK.out _ _ ⟨v',by simp [upd,e4,e6],hW.call h4 h6 ⟨w',hb',hown2,has,hbl⟩⟩
   ·obtain rfl:=Option.some.inj ho
    have hW:=HI.out
    have e0:=(HI.out.val 0 (by omega) (by omega) (HPR.out { on:=0,ground:=.data } (by simp) rfl)).trans HCB.out.1
    clear ho HPR HI
    refine wpOp_hid rfl fun K HK=>?_
    simp only [e0]
    go_simp
    exact HK.out _ _ ⟨Value.pointer (some { block:=D,off:=0 }),by simp [upd, *],hW.put (by omega) (by omega) HCB.out.2.2.2.2.2.2.2.2.1.symm⟩
   ·obtain rfl:=Option.some.inj ho
    have hW:=HI.out
    have e8:=(HI.out.val 8 (by omega) (by omega) (HPR.out { on:=8,ground:=.data } (by simp) rfl)).trans HCB.out.2.2.2.2.2.2.2.2.1
    have h8:=HPR.out { on:=8,ground:=.data } (by simp) rfl
    clear ho HPR HI
    refine wpOp_hid rfl fun K HK=>?_
    simp only [e8]
    go_simp
    exact HK.out _ _ ⟨Value.pointer (some { block:=D,off:=4 }),by simp [upd, *],hW.put (by omega) (fun _=>h8) HCB.out.2.2.2.2.2.2.2.2.2.symm⟩
  case finB =>
   rintro o ho l fr w' hall hI
   obtain rfl:=Option.some.inj ho
   obtain ⟨hval,w1,hb1,hown,has,hbl⟩:=hI.last hall
   have e9:=(hval 9 (by omega) (by omega)).trans HCB.out.2.2.2.2.2.2.2.2.2
   have hDw:=HD3.out.below hb1
   have hDn:=hDw.newO hown has
   have hTn:=(HT3.out.1.below hb1).aside (by obtain ⟨cur,e⟩:=HT3.out.2; exact ⟨cur,(hb1.block _ HT3.out.1.2.2.2.2.2.2).trans e⟩) hDw.objs has
   obtain ⟨cur,hkd⟩:=hDw.kind
   have hDo:vo.ownBlock ≠ some D:=fun e=>absurd (own_kind hDw.objs e hkd) (by decide)
   have hkd':=(has.block D hDw.lt hDo).trans hkd
   have fz:=fun o=>frozen_of_block hkd' o
   have d4:=(World.cell?_of_block (w:=w1) (a:=⟨D,4,none⟩) (has.block D hDw.lt hDo)).trans hDw.c4
   obtain ⟨adn,cpn,e7,-⟩:=ownsO hown
   rw [e7] at hown has hDn
   obtain ⟨w4,hwn⟩:∃ x,x=w'.setCell ⟨D,4,none⟩ (Value.slice adn (withO xo ⟨t.a,t.b⟩).length cpn):=⟨_,rfl⟩
   rw [← hwn] at hDn
   have HD3n:=toHC hDn
   have HT3n:Hid (Six w4 w.heap.size t∧∃ cur,w4.heap[w.heap.size]?=some (.cells cur 73 (0,0))):=by
    have hh:w4.heap[w.heap.size]?=w'.heap[w.heap.size]?:=by rw [hwn]; exact heap_setCell_other w' ⟨D,4,none⟩ w.heap.size _ (by show w.heap.size ≠ D; omega)
    obtain ⟨cr,ecr⟩:=hTn.2
    exact ⟨hTn.1.block hh (by rw [hwn]; simpa using hTn.1.2.2.2.2.2.2),cr,hh.trans ecr⟩
   have HB3n:Hid (Below bp w w4):=by
    have b1:Below bp w w1:=HB3.out.trans (hb1.mono (by omega))
    have b2:Below bp w w':=b1.trans (hbl bp (fun g hg=>by have:=(hDw.objs.lt g hg).1; omega) (by have:=hb1.size; omega))
    show Below _ _ _; rw [hwn]; exact b2.setCell (by show bp≤D; omega) _
   have hsn:w3.heap.size≤w4.heap.size:=by rw [hwn]; have:=hb1.size; have:=has.size; simp; omega
   have hbzn:bp + 1≤w4.heap.size:=by omega
   clear hval
   refine wpOp_hid rfl fun K HK=>?_
   simp only [e9,e7]
   go_simp
   rw [← hwn]
   refine HK.out _ _ ?_
   obtain ⟨vo1,hvo1⟩:∃ v,v=Value.slice adn (withO xo ⟨t.a,t.b⟩).length cpn:=⟨_,rfl⟩
   rw [← hvo1] at HD3n ⊢
   clear hb1 hown has hbl hDw hDn hTn hkd hkd' hDo fz d4 HK K hI hall ho hwn e9 e7 hvo1 hsn hbz HD3 HT3 HB3 HCB
   obtain ⟨zB0,hz0⟩:∃ y,y=fr 0:=⟨_,rfl⟩
   rw [← hz0]
   obtain ⟨zB1,hz1⟩:∃ y,y=fr 1:=⟨_,rfl⟩
   rw [← hz1]
   obtain ⟨zB2,hz2⟩:∃ y,y=fr 2:=⟨_,rfl⟩
   rw [← hz2]
   obtain ⟨zB3,hz3⟩:∃ y,y=fr 3:=⟨_,rfl⟩
   rw [← hz3]
   obtain ⟨zB4,hz4⟩:∃ y,y=fr 4:=⟨_,rfl⟩
   rw [← hz4]
   obtain ⟨zB5,hz5⟩:∃ y,y=fr 5:=⟨_,rfl⟩
   rw [← hz5]
   obtain ⟨zB6,hz6⟩:∃ y,y=fr 6:=⟨_,rfl⟩
   rw [← hz6]
   obtain ⟨zB8,hz8⟩:∃ y,y=fr 8:=⟨_,rfl⟩
   rw [← hz8]
   clear hz0 hz1 hz2 hz3 hz4 hz5 hz6 hz8 fr l
   skip
   have hbz:=hbzn
   clear hbzn
   go_wp2_with fail
   obtain ⟨CC,hCC⟩:∃ C:Nat→Value,C=fun n=>(Value.pointer (some { block:=D,off:=0 })::Value.pointer (some { block:=D,off:=0 })::Value.pointer (some { block:=D,off:=0 })::Value.pointer (some { block:=D,off:=4 })::vo1::Value.pointer (some { block:=w.heap.size,off:=3 })::Value.agg #[Value.string t.c,Value.string t.d]::undef::Value.pointer (some { block:=D,off:=0 })::Value.pointer (some { block:=D,off:=4 })::[]).getD n undef:=⟨_,rfl⟩
   have HCC:Hid (CC 0=Value.pointer (some { block:=D,off:=0 })∧CC 1=Value.pointer (some { block:=D,off:=0 })∧CC 2=Value.pointer (some { block:=D,off:=0 })∧CC 3=Value.pointer (some { block:=D,off:=4 })∧CC 4=vo1∧CC 5=Value.pointer (some { block:=w.heap.size,off:=3 })∧CC 6=Value.agg #[Value.string t.c,Value.string t.d]∧CC 7=undef∧CC 8=Value.pointer (some { block:=D,off:=0 })∧CC 9=Value.pointer (some { block:=D,off:=4 })):=by show _∧_; rw [hCC]; exact ⟨rfl,rfl,rfl,rfl,rfl,rfl,rfl,rfl,rfl,rfl⟩
   clear hCC
   refine wp_region_frame2 10 (fun _=>undef) (fun fs=>{ tmps:=List.toArray (Value.pointer (some { block:=D,off:=0 })::Value.agg #[Value.string t.a,Value.string t.b,Value.string t.r,Value.string t.c,Value.string t.d,Value.string t.s]::undef::Value.pointer (some { block:=w.heap.size,off:=0 })::Value.pointer (some { block:=w.heap.size + 1,off:=0 })::Value.pointer (some { block:=w.heap.size,off:=0 })::Value.agg #[Value.string t.a,Value.string t.b]::Value.pointer (some { block:=w.heap.size,off:=2 })::Value.string t.r::Value.agg #[Value.string t.a,Value.string t.b,Value.string t.r]::y0::y1::y2::Value.map (some bp)::y4::y8::y5::y6::y7::y9::Value.int IntKind.i64 (st:Int)::zB0::zB1::zB2::zB3::zB4::zB5::zB6::vo1::zB8::Value.pointer (some { block:=D,off:=4 })::(fs 0)::(fs 1)::(fs 2)::(fs 3)::(fs 4)::(fs 5)::(fs 6)::(fs 7)::(fs 8)::(fs 9)::undef::undef::undef::undef::undef::undef::undef::undef::undef::undef::undef::undef::undef::[]),defers:=[] }) (G.WI CC w4 (fun v' w'=>∃ w1,Below w4.heap.size w4 w1∧w'.ownsRow (bp + 1) 45 2 v' (withO (withO xo ⟨t.a,t.b⟩) ⟨t.c,t.d⟩).length (pairs (withO (withO xo ⟨t.a,t.b⟩) ⟨t.c,t.d⟩))∧Aside w1 vo1 w' v'∧∀ B',(∀ g,vo1.ownBlock=some g→B'≤g)→B'≤w1.heap.size→Below B' w1 w')) (by kernel_rfl) rfl (by kernel_rfl) (fun o ho l f w' hI hp=>?clC) rfl (G.wi_start w4) ?stepC ?finC
   case clC =>
    obtain rfl:=Option.some.inj ho
    intro k hk
    have h9:=hp { on:=9,ground:=.data } (by simp) rfl
    have hc:k=0 ∨ k=1 ∨ k=2 ∨ k=3 ∨ k=4 ∨ k=5 ∨ k=6 ∨ k=7 ∨ k=8 ∨ k=9:=by omega
    rcases hc with rfl | rfl | rfl | rfl | rfl | rfl | rfl | rfl | rfl | rfl
    ·exact hp { on:=0,ground:=.phase } (by simp) rfl
    ·exact hp { on:=1,ground:=.phase } (by simp) rfl
    ·exact hp { on:=2,ground:=.phase } (by simp) rfl
    ·exact hp { on:=3,ground:=.phase } (by simp) rfl
    ·exact hp { on:=4,ground:=.phase } (by simp) rfl
    ·exact hp { on:=5,ground:=.phase } (by simp) rfl
    ·exact hp { on:=6,ground:=.phase } (by simp) rfl
    ·exact hp { on:=7,ground:=.phase } (by simp) rfl
    ·exact hI.nin h9
    ·exact h9
   case stepC =>
    rintro i hi o ho l fs w' hli hI hpre
    have HI:Hid (G.WI CC w4 (fun v' w'=>∃ w1,Below w4.heap.size w4 w1∧w'.ownsRow (bp + 1) 45 2 v' (withO (withO xo ⟨t.a,t.b⟩) ⟨t.c,t.d⟩).length (pairs (withO (withO xo ⟨t.a,t.b⟩) ⟨t.c,t.d⟩))∧Aside w1 vo1 w' v'∧∀ B',(∀ g,vo1.ownBlock=some g→B'≤g)→B'≤w1.heap.size→Below B' w1 w') l fs w'):=hI
    have HPR:Hid (∀ e ∈ o.after,Region.binds .any e=true→l e.on=true):=hpre
    clear hI hpre
    have hc:i=0 ∨ i=1 ∨ i=2 ∨ i=3 ∨ i=4 ∨ i=5 ∨ i=6 ∨ i=7 ∨ i=8 ∨ i=9:=by omega
    clear hi
    rcases hc with rfl | rfl | rfl | rfl | rfl | rfl | rfl | rfl | rfl | rfl
    ·obtain rfl:=Option.some.inj ho
     have hW:=HI.out
     clear ho HPR HI
     refine wpOp_hid rfl fun K HK=>?_
     go_simp
     exact HK.out _ _ ⟨Value.pointer (some { block:=D,off:=0 }),by simp [upd, *],hW.put (by omega) (by omega) HCC.out.1.symm⟩
    ·obtain rfl:=Option.some.inj ho
     have hW:=HI.out
     clear ho HPR HI
     refine wpOp_hid rfl fun K HK=>?_
     go_simp
     exact HK.out _ _ ⟨Value.pointer (some { block:=D,off:=0 }),by simp [upd, *],hW.put (by omega) (by omega) HCC.out.2.1.symm⟩
    ·obtain rfl:=Option.some.inj ho
     have hW:=HI.out
     have e1:=(HI.out.val 1 (by omega) (by omega) (HPR.out { on:=1,ground:=.data } (by simp) rfl)).trans HCC.out.2.1
     clear ho HPR HI
     refine wpOp_hid rfl fun K HK=>?_
     simp only [e1]
     go_simp
     exact HK.out _ _ ⟨Value.pointer (some { block:=D,off:=0 }),by simp [upd, *],hW.put (by omega) (by omega) HCC.out.2.2.1.symm⟩
    ·obtain rfl:=Option.some.inj ho
     have hW:=HI.out
     have e2:=(HI.out.val 2 (by omega) (by omega) (HPR.out { on:=2,ground:=.data } (by simp) rfl)).trans HCC.out.2.2.1
     clear ho HPR HI
     refine wpOp_hid rfl fun K HK=>?_
     simp only [e2]
     go_simp
     exact HK.out _ _ ⟨Value.pointer (some { block:=D,off:=4 }),by simp [upd, *],hW.put (by omega) (by omega) HCC.out.2.2.2.1.symm⟩
    ·obtain rfl:=Option.some.inj ho
     have hW:=HI.out
     have e3:=(HI.out.val 3 (by omega) (by omega) (HPR.out { on:=3,ground:=.data } (by simp) rfl)).trans HCC.out.2.2.2.1
     have hb':=HI.out.early (.inl hli)
     have d4:=(hb'.cell (p:=⟨D,4,none⟩) HD3n.out.lt).trans HD3n.out.c4
     clear ho HPR HI
     refine wpOp_hid rfl fun K HK=>?_
     simp only [e3]
     go_simp
     exact HK.out _ _ ⟨vo1,by simp [upd, *],hW.put (by omega) (by omega) HCC.out.2.2.2.2.1.symm⟩
    ·obtain rfl:=Option.some.inj ho
     have hW:=HI.out
     clear ho HPR HI
     refine wpOp_hid rfl fun K HK=>?_
     go_simp
     exact HK.out _ _ ⟨Value.pointer (some { block:=w.heap.size,off:=3 }),by simp [upd, *],hW.put (by omega) (by omega) HCC.out.2.2.2.2.2.1.symm⟩
    ·obtain rfl:=Option.some.inj ho
     have hW:=HI.out
     have e5:=(HI.out.val 5 (by omega) (by omega) (HPR.out { on:=5,ground:=.data } (by simp) rfl)).trans HCC.out.2.2.2.2.2.1
     have hb':=HI.out.early (.inr hli)
     obtain ⟨t0,t1,t2,t3,t4,t5,tl⟩:=HT3n.out.1.below hb'
     clear ho HPR HI
     refine wpOp_hid rfl fun K HK=>?_
     simp only [e5]
     go_simp
     exact HK.out _ _ ⟨Value.agg #[Value.string t.c,Value.string t.d],by simp [upd, *],hW.put (by omega) (by omega) HCC.out.2.2.2.2.2.2.1.symm⟩
    ·obtain rfl:=Option.some.inj ho
     have hW:=HI.out
     have e4:=(HI.out.val 4 (by omega) (by omega) (HPR.out { on:=4,ground:=.data } (by simp) rfl)).trans HCC.out.2.2.2.2.1
     have e6:=(HI.out.val 6 (by omega) (by omega) (HPR.out { on:=6,ground:=.data } (by simp) rfl)).trans HCC.out.2.2.2.2.2.2.1
     have h4:=HPR.out { on:=4,ground:=.data } (by simp) rfl
     have h6:=HPR.out { on:=6,ground:=.data } (by simp) rfl
     have hb':=HI.out.before hli
     have hown:=own_belowA HD3n.out.objs hb'
     clear ho HPR HI
     refine wpOp_hid rfl fun K HK=>?_
     simp only [e4,e6]
     go_simp
     refine (withObject_any (bp + 1) vo1 (withO xo ⟨t.a,t.b⟩) ⟨t.c,t.d⟩ w' (by omega) (Nat.le_trans hbz hb'.size) hown).mono ?_
     rintro e w2 ⟨v',rfl,hown2,has,hbl⟩
     exact HK.out _ _ ⟨v',by simp [upd,e4,e6],hW.call h4 h6 ⟨w',hb',hown2,has,hbl⟩⟩
    ·obtain rfl:=Option.some.inj ho
     have hW:=HI.out
     have e0:=(HI.out.val 0 (by omega) (by omega) (HPR.out { on:=0,ground:=.data } (by simp) rfl)).trans HCC.out.1
     clear ho HPR HI
     refine wpOp_hid rfl fun K HK=>?_
     simp only [e0]
     go_simp
     exact HK.out _ _ ⟨Value.pointer (some { block:=D,off:=0 }),by simp [upd, *],hW.put (by omega) (by omega) HCC.out.2.2.2.2.2.2.2.2.1.symm⟩
    ·obtain rfl:=Option.some.inj ho
     have hW:=HI.out
     have e8:=(HI.out.val 8 (by omega) (by omega) (HPR.out { on:=8,ground:=.data } (by simp) rfl)).trans HCC.out.2.2.2.2.2.2.2.2.1
     have h8:=HPR.out { on:=8,ground:=.data } (by simp) rfl
     clear ho HPR HI
     refine wpOp_hid rfl fun K HK=>?_
     simp only [e8]
     go_simp
     exact HK.out _ _ ⟨Value.pointer (some { block:=D,off:=4 }),by simp [upd, *],hW.put (by omega) (fun _=>h8) HCC.out.2.2.2.2.2.2.2.2.2.symm⟩
   case finC =>
    rintro o ho l fs w' hall hI
    obtain rfl:=Option.some.inj ho
    obtain ⟨hval,w1,hb1,hown,has,hbl⟩:=hI.last hall
    have e9:=(hval 9 (by omega) (by omega)).trans HCC.out.2.2.2.2.2.2.2.2.2
    have hDw:=HD3n.out.below hb1
    have hDn:=hDw.newO hown has
    have hTn:=(HT3n.out.1.below hb1).aside (by obtain ⟨cur,e⟩:=HT3n.out.2; exact ⟨cur,(hb1.block _ HT3n.out.1.2.2.2.2.2.2).trans e⟩) hDw.objs has
    obtain ⟨cur,hkd⟩:=hDw.kind
    have hDo:vo1.ownBlock ≠ some D:=fun e=>absurd (own_kind hDw.objs e hkd) (by decide)
    have hkd':=(has.block D hDw.lt hDo).trans hkd
    have fz:=fun o=>frozen_of_block hkd' o
    have d4:=(World.cell?_of_block (w:=w1) (a:=⟨D,4,none⟩) (has.block D hDw.lt hDo)).trans hDw.c4
    obtain ⟨adn,cpn,e7,-⟩:=ownsO hown
    rw [e7] at hown has hDn
    obtain ⟨w5,hwn⟩:∃ x,x=w'.setCell ⟨D,4,none⟩ (Value.slice adn (withO (withO xo ⟨t.a,t.b⟩) ⟨t.c,t.d⟩).length cpn):=⟨_,rfl⟩
    rw [← hwn] at hDn
    have HD3nn:=toHC hDn
    have HT3nn:Hid (Six w5 w.heap.size t∧∃ cur,w5.heap[w.heap.size]?=some (.cells cur 73 (0,0))):=by
     have hh:w5.heap[w.heap.size]?=w'.heap[w.heap.size]?:=by rw [hwn]; exact heap_setCell_other w' ⟨D,4,none⟩ w.heap.size _ (by show w.heap.size ≠ D; omega)
     obtain ⟨cr,ecr⟩:=hTn.2
     exact ⟨hTn.1.block hh (by rw [hwn]; simpa using hTn.1.2.2.2.2.2.2),cr,hh.trans ecr⟩
    have HB3nn:Hid (Below bp w w5):=by
     have b1:Below bp w w1:=HB3n.out.trans (hb1.mono (by omega))
     have b2:Below bp w w':=b1.trans (hbl bp (fun g hg=>by have:=(hDw.objs.lt g hg).1; omega) (by have:=hb1.size; omega))
     show Below _ _ _; rw [hwn]; exact b2.setCell (by show bp≤D; omega) _
    have hsn:w4.heap.size≤w5.heap.size:=by rw [hwn]; have:=hb1.size; have:=has.size; simp; omega
    have hbzn:bp + 1≤w5.heap.size:=by omega
    clear hval
    refine wpOp_hid rfl fun K HK=>?_
    simp only [e9,e7]
    go_simp
    rw [← hwn]
    refine HK.out _ _ ?_
    obtain ⟨vo2,hvo2⟩:∃ v,v=Value.slice adn (withO (withO xo ⟨t.a,t.b⟩) ⟨t.c,t.d⟩).length cpn:=⟨_,rfl⟩
    rw [← hvo2] at HD3nn ⊢
    clear hb1 hown has hbl hDw hDn hTn hkd hkd' hDo fz d4 HK K hI hall ho hwn e9 e7 hvo2 hsn hbz HD3n HT3n HB3n HCC
    obtain ⟨zC0,hz0⟩:∃ y,y=fs 0:=⟨_,rfl⟩
    rw [← hz0]
    obtain ⟨zC1,hz1⟩:∃ y,y=fs 1:=⟨_,rfl⟩
    rw [← hz1]
    obtain ⟨zC2,hz2⟩:∃ y,y=fs 2:=⟨_,rfl⟩
    rw [← hz2]
    obtain ⟨zC3,hz3⟩:∃ y,y=fs 3:=⟨_,rfl⟩
    rw [← hz3]
    obtain ⟨zC4,hz4⟩:∃ y,y=fs 4:=⟨_,rfl⟩
    rw [← hz4]
    obtain ⟨zC5,hz5⟩:∃ y,y=fs 5:=⟨_,rfl⟩
    rw [← hz5]
    obtain ⟨zC6,hz6⟩:∃ y,y=fs 6:=⟨_,rfl⟩
    rw [← hz6]
    obtain ⟨zC8,hz8⟩:∃ y,y=fs 8:=⟨_,rfl⟩
    rw [← hz8]
    clear hz0 hz1 hz2 hz3 hz4 hz5 hz6 hz8 fs l
    skip
    have hbz:=hbzn
    clear hbzn
    obtain ⟨t0,t1,t2,t3,t4,t5,tl⟩:=HT3nn.out.1
    cases hs:(t.s.toList == ([]:List UInt8)) with
    | false =>
     have HU:Hid (usrStep xu t=xu):=by show _=_; unfold usrStep; rw [hs]; rfl
     go_wp2
     go_end0
     exact ⟨rfl,⟨_,_,_,by rw [HU.out]; exact HD3nn.out⟩,HB3nn.out⟩
    | true =>
     have HU:Hid (usrStep xu t=withO xu ⟨t.c,t.d⟩):=by show _=_; unfold usrStep; rw [hs]; rfl
     clear t0 t1 t2 t3 t4 tl
     go_wp2_with fail
     clear t5 hs
     obtain ⟨CD,hCD⟩:∃ C:Nat→Value,C=fun n=>(Value.pointer (some { block:=D,off:=0 })::Value.pointer (some { block:=D,off:=0 })::Value.pointer (some { block:=D,off:=0 })::Value.pointer (some { block:=D,off:=5 })::vu::Value.pointer (some { block:=w.heap.size,off:=3 })::Value.agg #[Value.string t.c,Value.string t.d]::undef::Value.pointer (some { block:=D,off:=0 })::Value.pointer (some { block:=D,off:=5 })::[]).getD n undef:=⟨_,rfl⟩
     have HCD:Hid (CD 0=Value.pointer (some { block:=D,off:=0 })∧CD 1=Value.pointer (some { block:=D,off:=0 })∧CD 2=Value.pointer (some { block:=D,off:=0 })∧CD 3=Value.pointer (some { block:=D,off:=5 })∧CD 4=vu∧CD 5=Value.pointer (some { block:=w.heap.size,off:=3 })∧CD 6=Value.agg #[Value.string t.c,Value.string t.d]∧CD 7=undef∧CD 8=Value.pointer (some { block:=D,off:=0 })∧CD 9=Value.pointer (some { block:=D,off:=5 })):=by show _∧_; rw [hCD]; exact ⟨rfl,rfl,rfl,rfl,rfl,rfl,rfl,rfl,rfl,rfl⟩
     clear hCD
     refine wp_region_frame2 10 (fun _=>undef) (fun ft=>{ tmps:=List.toArray (Value.pointer (some { block:=D,off:=0 })::Value.agg #[Value.string t.a,Value.string t.b,Value.string t.r,Value.string t.c,Value.string t.d,Value.string t.s]::undef::Value.pointer (some { block:=w.heap.size,off:=0 })::Value.pointer (some { block:=w.heap.size + 1,off:=0 })::Value.pointer (some { block:=w.heap.size,off:=0 })::Value.agg #[Value.string t.a,Value.string t.b]::Value.pointer (some { block:=w.heap.size,off:=2 })::Value.string t.r::Value.agg #[Value.string t.a,Value.string t.b,Value.string t.r]::y0::y1::y2::Value.map (some bp)::y4::y8::y5::y6::y7::y9::Value.int IntKind.i64 (st:Int)::zB0::zB1::zB2::zB3::zB4::zB5::zB6::vo1::zB8::Value.pointer (some { block:=D,off:=4 })::zC0::zC1::zC2::zC3::zC4::zC5::zC6::vo2::zC8::Value.pointer (some { block:=D,off:=4 })::Value.pointer (some { block:=w.heap.size,off:=5 })::Value.string t.s::Value.bool true::(ft 0)::(ft 1)::(ft 2)::(ft 3)::(ft 4)::(ft 5)::(ft 6)::(ft 7)::(ft 8)::(ft 9)::[]),defers:=[] }) (G.WI CD w5 (fun v' w'=>∃ w1,Below w5.heap.size w5 w1∧w'.ownsRow (bp + 1) 45 2 v' (withO xu ⟨t.c,t.d⟩).length (pairs (withO xu ⟨t.c,t.d⟩))∧Aside w1 vu w' v'∧∀ B',(∀ g,vu.ownBlock=some g→B'≤g)→B'≤w1.heap.size→Below B' w1 w')) (by kernel_rfl) rfl (by kernel_rfl) (fun o ho l f w' hI hp=>?clD) rfl (G.wi_start w5) ?stepD ?finD
     case clD =>
      obtain rfl:=Option.some.inj ho
      intro k hk
      have h9:=hp { on:=9,ground:=.data } (by simp) rfl
      have hc:k=0 ∨ k=1 ∨ k=2 ∨ k=3 ∨ k=4 ∨ k=5 ∨ k=6 ∨ k=7 ∨ k=8 ∨ k=9:=by omega
      rcases hc with rfl | rfl | rfl | rfl | rfl | rfl | rfl | rfl | rfl | rfl
      ·exact hp { on:=0,ground:=.phase } (by simp) rfl
      ·exact hp { on:=1,ground:=.phase } (by simp) rfl
      ·exact hp { on:=2,ground:=.phase } (by simp) rfl
      ·exact hp { on:=3,ground:=.phase } (by simp) rfl
      ·exact hp { on:=4,ground:=.phase } (by simp) rfl
      ·exact hp { on:=5,ground:=.phase } (by simp) rfl
      ·exact hp { on:=6,ground:=.phase } (by simp) rfl
      ·exact hp { on:=7,ground:=.phase } (by simp) rfl
      ·exact hI.nin h9
      ·exact h9
     case stepD =>
      rintro i hi o ho l ft w' hli hI hpre
      have HI:Hid (G.WI CD w5 (fun v' w'=>∃ w1,Below w5.heap.size w5 w1∧w'.ownsRow (bp + 1) 45 2 v' (withO xu ⟨t.c,t.d⟩).length (pairs (withO xu ⟨t.c,t.d⟩))∧Aside w1 vu w' v'∧∀ B',(∀ g,vu.ownBlock=some g→B'≤g)→B'≤w1.heap.size→Below B' w1 w') l ft w'):=hI
      have HPR:Hid (∀ e ∈ o.after,Region.binds .any e=true→l e.on=true):=hpre
      clear hI hpre
      have hc:i=0 ∨ i=1 ∨ i=2 ∨ i=3 ∨ i=4 ∨ i=5 ∨ i=6 ∨ i=7 ∨ i=8 ∨ i=9:=by omega
      clear hi
      rcases hc with rfl | rfl | rfl | rfl | rfl | rfl | rfl | rfl | rfl | rfl
      ·obtain rfl:=Option.some.inj ho
       have hW:=HI.out
       clear ho HPR HI
       refine wpOp_hid rfl fun K HK=>?_
       go_simp
       exact HK.out _ _ ⟨Value.pointer (some { block:=D,off:=0 }),by simp [upd, *],hW.put (by omega) (by omega) HCD.out.1.symm⟩
      ·obtain rfl:=Option.some.inj ho
       have hW:=HI.out
       clear ho HPR HI
       refine wpOp_hid rfl fun K HK=>?_
       go_simp
       exact HK.out _ _ ⟨Value.pointer (some { block:=D,off:=0 }),by simp [upd, *],hW.put (by omega) (by omega) HCD.out.2.1.symm⟩
      ·obtain rfl:=Option.some.inj ho
       have hW:=HI.out
       have e1:=(HI.out.val 1 (by omega) (by omega) (HPR.out { on:=1,ground:=.data } (by simp) rfl)).trans HCD.out.2.1
       clear ho HPR HI
       refine wpOp_hid rfl fun K HK=>?_
       simp only [e1]
       go_simp
       exact HK.out _ _ ⟨Value.pointer (some { block:=D,off:=0 }),by simp [upd, *],hW.put (by omega) (by omega) HCD.out.2.2.1.symm⟩
      ·obtain rfl:=Option.some.inj ho
       have hW:=HI.out
       have e2:=(HI.out.val 2 (by omega) (by omega) (HPR.out { on:=2,ground:=.data } (by simp) rfl)).trans HCD.out.2.2.1
       clear ho HPR HI
       refine wpOp_hid rfl fun K HK=>?_
       simp only [e2]
       go_simp
       exact HK.out _ _ ⟨Value.pointer (some { block:=D,off:=5 }),by simp [upd, *],hW.put (by omega) (by omega) HCD.out.2.2.2.1.symm⟩
      ·obtain rfl:=Option.some.inj ho
       have hW:=HI.out
       have e3:=(HI.out.val 3 (by omega) (by omega) (HPR.out { on:=3,ground:=.data } (by simp) rfl)).trans HCD.out.2.2.2.1
       have hb':=HI.out.early (.inl hli)
       have d4:=(hb'.cell (p:=⟨D,5,none⟩) HD3nn.out.lt).trans HD3nn.out.c5
       clear ho HPR HI
       refine wpOp_hid rfl fun K HK=>?_
       simp only [e3]
       go_simp
       exact HK.out _ _ ⟨vu,by simp [upd, *],hW.put (by omega) (by omega) HCD.out.2.2.2.2.1.symm⟩
      ·obtain rfl:=Option.some.inj ho
       have hW:=HI.out
       clear ho HPR HI
       refine wpOp_hid rfl fun K HK=>?_
       go_simp
       exact HK.out _ _ ⟨Value.pointer (some { block:=w.heap.size,off:=3 }),by simp [upd, *],hW.put (by omega) (by omega) HCD.out.2.2.2.2.2.1.symm⟩
      ·obtain rfl:=Option.some.inj ho
       have hW:=HI.out
       have e5:=(HI.out.val 5 (by omega) (by omega) (HPR.out { on:=5,ground:=.data } (by simp) rfl)).trans HCD.out.2.2.2.2.2.1
       have hb':=HI.out.early (.inr hli)
       obtain ⟨t0,t1,t2,t3,t4,t5,tl⟩:=HT3nn.out.1.below hb'
       clear ho HPR HI
       refine wpOp_hid rfl fun K HK=>?_
       simp only [e5]
       go_simp
       exact HK.out _ _ ⟨Value.agg #[Value.string t.c,Value.string t.d],by simp [upd, *],hW.put (by omega) (by omega) HCD.out.2.2.2.2.2.2.1.symm⟩
      ·obtain rfl:=Option.some.inj ho
       have hW:=HI.out
       have e4:=(HI.out.val 4 (by omega) (by omega) (HPR.out { on:=4,ground:=.data } (by simp) rfl)).trans HCD.out.2.2.2.2.1
       have e6:=(HI.out.val 6 (by omega) (by omega) (HPR.out { on:=6,ground:=.data } (by simp) rfl)).trans HCD.out.2.2.2.2.2.2.1
       have h4:=HPR.out { on:=4,ground:=.data } (by simp) rfl
       have h6:=HPR.out { on:=6,ground:=.data } (by simp) rfl
       have hb':=HI.out.before hli
       have hown:=own_belowA HD3nn.out.users hb'
       clear ho HPR HI
       refine wpOp_hid rfl fun K HK=>?_
       simp only [e4,e6]
       go_simp
       refine (withObject_any (bp + 1) vu xu ⟨t.c,t.d⟩ w' (by omega) (Nat.le_trans hbz hb'.size) hown).mono ?_
       rintro e w2 ⟨v',rfl,hown2,has,hbl⟩
       exact HK.out _ _ ⟨v',by simp [upd,e4,e6],hW.call h4 h6 ⟨w',hb',hown2,has,hbl⟩⟩
      ·obtain rfl:=Option.some.inj ho
       have hW:=HI.out
       have e0:=(HI.out.val 0 (by omega) (by omega) (HPR.out { on:=0,ground:=.data } (by simp) rfl)).trans HCD.out.1
       clear ho HPR HI
       refine wpOp_hid rfl fun K HK=>?_
       simp only [e0]
       go_simp
       exact HK.out _ _ ⟨Value.pointer (some { block:=D,off:=0 }),by simp [upd, *],hW.put (by omega) (by omega) HCD.out.2.2.2.2.2.2.2.2.1.symm⟩
      ·obtain rfl:=Option.some.inj ho
       have hW:=HI.out
       have e8:=(HI.out.val 8 (by omega) (by omega) (HPR.out { on:=8,ground:=.data } (by simp) rfl)).trans HCD.out.2.2.2.2.2.2.2.2.1
       have h8:=HPR.out { on:=8,ground:=.data } (by simp) rfl
       clear ho HPR HI
       refine wpOp_hid rfl fun K HK=>?_
       simp only [e8]
       go_simp
       exact HK.out _ _ ⟨Value.pointer (some { block:=D,off:=5 }),by simp [upd, *],hW.put (by omega) (fun _=>h8) HCD.out.2.2.2.2.2.2.2.2.2.symm⟩
     case finD =>
      rintro o ho l ft w' hall hI
      obtain rfl:=Option.some.inj ho
      obtain ⟨hval,w1,hb1,hown,has,hbl⟩:=hI.last hall
      have e9:=(hval 9 (by omega) (by omega)).trans HCD.out.2.2.2.2.2.2.2.2.2
      have hDw:=HD3nn.out.below hb1
      have hDn:=hDw.newU hown has
      have hTn:=(HT3nn.out.1.below hb1).aside (by obtain ⟨cur,e⟩:=HT3nn.out.2; exact ⟨cur,(hb1.block _ HT3nn.out.1.2.2.2.2.2.2).trans e⟩) hDw.users has
      obtain ⟨cur,hkd⟩:=hDw.kind
      have hDo:vu.ownBlock ≠ some D:=fun e=>absurd (own_kind hDw.users e hkd) (by decide)
      have hkd':=(has.block D hDw.lt hDo).trans hkd
      have fz:=fun o=>frozen_of_block hkd' o
      have d4:=(World.cell?_of_block (w:=w1) (a:=⟨D,5,none⟩) (has.block D hDw.lt hDo)).trans hDw.c5
      obtain ⟨adn,cpn,e7,-⟩:=ownsO hown
      rw [e7] at hown has hDn
      obtain ⟨w6,hwn⟩:∃ x,x=w'.setCell ⟨D,5,none⟩ (Value.slice adn (withO xu ⟨t.c,t.d⟩).length cpn):=⟨_,rfl⟩
      rw [← hwn] at hDn
      have HD3nnn:=toHC hDn
      have HT3nnn:Hid (Six w6 w.heap.size t∧∃ cur,w6.heap[w.heap.size]?=some (.cells cur 73 (0,0))):=by
       have hh:w6.heap[w.heap.size]?=w'.heap[w.heap.size]?:=by rw [hwn]; exact heap_setCell_other w' ⟨D,5,none⟩ w.heap.size _ (by show w.heap.size ≠ D; omega)
       obtain ⟨cr,ecr⟩:=hTn.2
       exact ⟨hTn.1.block hh (by rw [hwn]; simpa using hTn.1.2.2.2.2.2.2),cr,hh.trans ecr⟩
      have HB3nnn:Hid (Below bp w w6):=by
       have b1:Below bp w w1:=HB3nn.out.trans (hb1.mono (by omega))
       have b2:Below bp w w':=b1.trans (hbl bp (fun g hg=>by have:=(hDw.users.lt g hg).1; omega) (by have:=hb1.size; omega))
       show Below _ _ _; rw [hwn]; exact b2.setCell (by show bp≤D; omega) _
      have hsn:w5.heap.size≤w6.heap.size:=by rw [hwn]; have:=hb1.size; have:=has.size; simp; omega
      have hbzn:bp + 1≤w6.heap.size:=by omega
      clear hval
      refine wpOp_hid rfl fun K HK=>?_
      simp only [e9,e7]
      go_simp
      rw [← hwn]
      refine HK.out _ _ ?_
      obtain ⟨vu2,hvu2⟩:∃ v,v=Value.slice adn (withO xu ⟨t.c,t.d⟩).length cpn:=⟨_,rfl⟩
      rw [← hvu2] at HD3nnn ⊢
      clear hb1 hown has hbl hDw hDn hTn hkd hkd' hDo fz d4 HK K hI hall ho hwn e9 e7 hvu2 hsn hbz HD3nn HT3nn HB3nn HCD
      obtain ⟨zD0,hz0⟩:∃ y,y=ft 0:=⟨_,rfl⟩
      rw [← hz0]
      obtain ⟨zD1,hz1⟩:∃ y,y=ft 1:=⟨_,rfl⟩
      rw [← hz1]
      obtain ⟨zD2,hz2⟩:∃ y,y=ft 2:=⟨_,rfl⟩
      rw [← hz2]
      obtain ⟨zD3,hz3⟩:∃ y,y=ft 3:=⟨_,rfl⟩
      rw [← hz3]
      obtain ⟨zD4,hz4⟩:∃ y,y=ft 4:=⟨_,rfl⟩
      rw [← hz4]
      obtain ⟨zD5,hz5⟩:∃ y,y=ft 5:=⟨_,rfl⟩
      rw [← hz5]
      obtain ⟨zD6,hz6⟩:∃ y,y=ft 6:=⟨_,rfl⟩
      rw [← hz6]
      obtain ⟨zD8,hz8⟩:∃ y,y=ft 8:=⟨_,rfl⟩
      rw [← hz8]
      clear hz0 hz1 hz2 hz3 hz4 hz5 hz6 hz8 ft l
      skip
      go_wp2
      go_end0
      exact ⟨rfl,⟨_,_,_,by rw [HU.out]; exact HD3nnn.out⟩,HB3nnn.out⟩
end Go.Proofs.YtogjfppkbkgaeaaGreat
