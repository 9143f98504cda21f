/- One more tuple told to the program's data. -/
import Derived.Test.YtajkkeikihhejaaGreatSq
import Derived.Test.YtajkkeikihhejaaGreatJ31
open Go.Proofs.Tryz
set_option maxHeartbeats 80000000
namespace Go.Proofs.YtajkkeikihhejaaGreat
set_option maxRecDepth 100000
set_option linter.unusedVariables false
open Go.ChangeShapes Go.WideShapes Go.ChangeAt Go.RowKit Go.Maps
open Pl
theorem Pn:∃ i,prog.info? 46=some i∧i.zero=some (.agg #[.string ⟨#[]⟩,.string ⟨#[]⟩,.string ⟨#[]⟩,.string ⟨#[]⟩,.string ⟨#[]⟩,.string ⟨#[]⟩])∧i.size=6∧i.bytes=96 :=
 info_parts (P:=prog) (e:=46) (z:=.agg #[.string ⟨#[]⟩,.string ⟨#[]⟩,.string ⟨#[]⟩,.string ⟨#[]⟩,.string ⟨#[]⟩,.string ⟨#[]⟩]) (size:=6) (bytes:=96) (by kernel_rfl)
theorem Jy (u:af):(zeroValue 25).run prog u=.ok (.slice none 0 0) u:=by kernel_rfl
theorem Dw {w:af} {bp np:Nat} {Mp:K3→Option Value} {E:List (K3 × Tp)} (h:G.Grp qO prog 223 46 6 Tp.row w bp np Mp E) (k:K3):w.ownsRow (bp + 1) 46 6 ((Mp k).getD (.slice none 0 0)) (G.lookL E k).length (G.flatG Tp.row (G.lookL E k)):=by
 rcases h.row k with ⟨e,e2⟩ | ⟨v,e,ho⟩
 ·rw [e,e2]; exact World.ownsRow_nil _ _ _ _
 rw [e]; exact ho
theorem news_of_block {w:af} {g:Nat} {cs:Array Value} {T:TypeId} (h:w.heap[g]?=some (.cells cs T (0,0))):∀ j u,cs.toList[j]?=some u→w.cell? ((⟨g,0,none⟩:Addr).add j)=some u:=by
 intro j u hu;have e:(⟨g,0,none⟩:Addr).add j=⟨g,j,none⟩:=by
  unfold Addr.add;by_cases hj:j=0
  ·subst hj; simp
  simp [hj]
 rw [e];simp [World.cell?,h];simpa using hu
theorem ug.block {w w':af} {g:Nat} {t:Tp} (h:ug w g t) (e:w'.heap[g]?=w.heap[g]?) (hl:g < w'.heap.size):ug w' g t:=by
 obtain ⟨h0,h1,h2,h3,h4,h5,_⟩:=h;have hc:∀ o,w'.cell? ⟨g,o,none⟩=w.cell? ⟨g,o,none⟩:=fun o=>Ul (w:=w) (a:=⟨g,o,none⟩) e;exact ⟨(hc _).trans h0,(hc _).trans h1,(hc _).trans h2,(hc _).trans h3,(hc _).trans h4,(hc _).trans h5,hl⟩
theorem gJ {w:af} {g:Nat} {cs:Array Value} {T:TypeId} (h:w.heap[g]?=some (.cells cs T (0,0))) (o:Nat):w.frozen? ⟨g,o,none⟩=false:=by
 simp [World.frozen?,h]
theorem ug.aside {w w':af} {g base n:Nat} {t:Tp} {v v':Value} {xs:List Value} (h:ug w g t) (hc:∃ cur,w.heap[g]?=some (.cells cur 46 (0,0))) (ho:w.ownsRow base 27 2 v n xs) (ha:Aside w v w' v'):ug w' g t∧∃ cur,w'.heap[g]?=some (.cells cur 46 (0,0)):=by
 obtain ⟨cur,e⟩:=hc;have hl:=h.2.2.2.2.2.2;have hb:=ha.block g hl fun hg=>absurd (dI ho hg e) (by decide);exact ⟨h.block hb (TP hl ha.size),cur,hb.trans e⟩
theorem Po (D br bp:Nat) (tab:Value) (n1:Int) (E:List (K3 × Tp)) (xo xu:List Al) (np:Nat) (Mp:K3→Option Value) (vo vu:Value) (t:Tp) (w:af) (hd:DatT w D br bp tab n1 E xo xu np Mp vo vu) (hnp:np≤1000) (hE:E.length≤1000) (hxo:xo.length≤500) (hxu:xu.length≤500) (ht:t.fits) :
  Calls prog 101 #[.pointer (some ⟨D,0,none⟩),.agg #[.string t.a,.string t.b,.string t.r,.string t.c,.string t.d,.string t.s]] w fun e w'=>e=.returned (.tuple #[])∧(∃ Mp' XK XM,DatT w' D br bp tab n1 (E ++ [(Mv t,t)]) (fP xo t) (cu xu t) (np + 1) Mp' XK XM)∧Below bp w w':=by
 obtain ⟨iT,h0,h1,h2,h3⟩:=Pn;have HIT:=aD (And.intro h0 (And.intro h1 (And.intro h2 h3)));obtain ⟨W,hW⟩:∃ W,W=(w.alloc (.cells #[.string t.a,.string t.b,.string t.r,.string t.c,.string t.d,.string t.s] 46)).alloc (.cells #[.string t.a,.string t.b,.string t.r] 223):=⟨_,rfl⟩;have UG:Hid (ag w W):=by show Below _ _ _; rw [hW]; exact ((TT _ _).alloc (TS _) _).alloc (by simp) _
 have hWs:W.heap.size=w.heap.size + 2:=by rw [hW]; simp
 have HT6:Hid (ug W w.heap.size t):=by show ug _ _ _; rw [hW]; refine ⟨?_,?_,?_,?_,?_,?_,?_⟩ <;> first | (simp; done) | (simp; omega)
 have HK3:Hid (W.cell? ⟨w.heap.size + 1,0,none⟩=some (.string t.a)∧W.cell? ⟨w.heap.size + 1,1,none⟩=some (.string t.b)∧W.cell? ⟨w.heap.size + 1,2,none⟩=some (.string t.r)):=by show _∧_; rw [hW]; refine ⟨?_,?_,?_⟩ <;> simp
 have HD:=aD (hd.below UG.out);have hDl:D < w.heap.size:=hd.lt;have HFB:Hid (G.FreeB Mp w.heap.size):=hd.told.fresh (TS _);have U4:Hid (W.heap[w.heap.size]?=some (.cells #[.string t.a,.string t.b,.string t.r,.string t.c,.string t.d,.string t.s] 46 (0,0))):=by show _=_; rw [hW,Below.heap_alloc _ _ _ (by simp)]; exact heap_alloc_new w _
 have hbD:bp < D:=hd.gt;have HLL:Hid ((G.lookL E (Mv t)).length≤1000):=TZ (List.length_filterMap_le _ _) hE;obtain ⟨row0,hr0⟩:∃ r,r=(Mp (Mv t)).getD (.slice none 0 0):=⟨_,rfl⟩;obtain ⟨nn,hnn⟩:∃ n,n=(G.lookL E (Mv t)).length:=⟨_,rfl⟩;obtain ⟨xs,hxs⟩:∃ x,x=G.flatG Tp.row (G.lookL E (Mv t)):=⟨_,rfl⟩;have VD:=aD hr0;have WC:=aD hnn;have Wq:=aD hxs;have hnl:nn≤1000:=by rw [hnn]; exact HLL.out
 have Vp:Hid (∀ W0:World,ag W W0→W0.ownsRow (bp + 1) 46 6 row0 nn xs):=fun W0 hb=>by rw [hr0,hnn,hxs]; exact Dw (HD.out.told.below hb) _
 have HKEY:Hid (∃ kl,keyOf prog 223 (qO (Mv t))=some kl):=EO _ ht.1 ht.2.1 ht.2.2.1;clear h0 h1 h2 h3 hr0 hnn hxs hd hE;obtain ⟨C2,hC2⟩:∃ C:Nat→Value,C=fun n=>(Value.pointer (some ⟨D,0,none⟩)::.pointer (some ⟨D,0,none⟩)::.pointer (some ⟨D,3,none⟩)::.map (some bp)::.agg #[.string t.a,.string t.b,.string t.r]::.agg #[.string t.a,.string t.b,.string t.r,.string t.c,.string t.d,.string t.s]::[]).getD n undef:=⟨_,rfl⟩;have Vd:Hid (C2 0=Value.pointer (some ⟨D,0,none⟩)∧C2 1=Value.pointer (some ⟨D,0,none⟩)∧C2 2=Value.pointer (some ⟨D,3,none⟩)∧C2 3=Value.map (some bp)∧C2 4=Value.agg #[.string t.a,.string t.b,.string t.r]∧C2 5=Value.agg #[.string t.a,.string t.b,.string t.r,.string t.c,.string t.d,.string t.s]):=by show _∧_; rw [hC2]; exact ⟨rfl,rfl,rfl,rfl,rfl,rfl⟩
 clear hC2;go_enter func101,ntmps101;go_wp2_with fail;rw [← hW];clear hW;refine pU 11 (fun _=>undef) (fun fq=>{ tmps:=List.toArray (Value.pointer (some ⟨D,0,none⟩)::.agg #[.string t.a,.string t.b,.string t.r,.string t.c,.string t.d,.string t.s]::undef::.pointer (some ⟨w.heap.size,0,none⟩)::.pointer (some ⟨w.heap.size + 1,0,none⟩)::.pointer (some ⟨w.heap.size,0,none⟩)::.agg #[.string t.a,.string t.b]::.pointer (some ⟨w.heap.size,2,none⟩)::.string t.r::.agg #[.string t.a,.string t.b,.string t.r]::(fq 0)::(fq 1)::(fq 2)::(fq 3)::(fq 4)::(fq 8)::(fq 5)::(fq 6)::(fq 7)::(fq 9)::(fq 10)::undef::undef::undef::undef::undef::undef::undef::undef::undef::undef::undef::undef::undef::undef::undef::undef::undef::undef::undef::undef::undef::undef::undef::undef::undef::undef::undef::undef::undef::undef::undef::undef::undef::[]),defers:=[] }) (G.EI C2 #[.string t.a,.string t.b,.string t.r,.string t.c,.string t.d,.string t.s] 46 6 W bp row0 nn xs (G.Back qO prog 223 166 bp np Mp (Mv t))) (by kernel_rfl) rfl (by kernel_rfl) (by kernel_rfl) rfl (G.ei_start W) ?stepA ?finA;case stepA =>
  rintro i hi o ho l fq w' Vn hI hpre;have HI:=az hI;have UC:Hid (∀ e ∈ o.after,Region.binds .any e=true→l e.on=true):=hpre;clear hI hpre;have hc:=M9 (i:=i) (by omega);clear hi
  repeat' rcases hc with rfl | hc
  ·cases ho;have hA:=HI.out.early (i:=0) (by omega) Vn;clear UC HI;refine aa rfl fun K HK=>?_;go_simp;exact HK.out _ _ ⟨Value.pointer (some ⟨D,0,none⟩),by simp [upd, *],hA.put (by omega) Vd.out.1.symm⟩
  ·cases ho;have hA:=HI.out.early (i:=1) (by omega) Vn;have e0:=(hA.val 0 (by omega) (UC.out ⟨0,.data⟩ (by simp) rfl)).trans Vd.out.1;clear UC HI;refine aa rfl fun K HK=>?_;simp only [e0];go_simp;exact HK.out _ _ ⟨Value.pointer (some ⟨D,0,none⟩),by simp [upd, *],hA.put (by omega) Vd.out.2.1.symm⟩
  ·cases ho;have hA:=HI.out.early (i:=2) (by omega) Vn;have e1:=(hA.val 1 (by omega) (UC.out ⟨1,.data⟩ (by simp) rfl)).trans Vd.out.2.1;clear UC HI;refine aa rfl fun K HK=>?_;simp only [e1];go_simp;exact HK.out _ _ ⟨Value.pointer (some ⟨D,3,none⟩),by simp [upd, *],hA.put (by omega) Vd.out.2.2.1.symm⟩
  ·cases ho;have hA:=HI.out.early (i:=3) (by omega) Vn;have e2:=(hA.val 2 (by omega) (UC.out ⟨2,.data⟩ (by simp) rfl)).trans Vd.out.2.2.1;have hb':=hA.bel;have d3:=(hb'.cell (p:=⟨D,3,none⟩) (by show D < _; omega)).trans HD.out.c3;clear UC HI;refine aa rfl fun K HK=>?_;simp only [e2];go_simp;exact HK.out _ _ ⟨Value.map (some bp),by simp [upd, *],hA.put (by omega) Vd.out.2.2.2.1.symm⟩
  ·cases ho;have hA:=HI.out.early (i:=4) (by omega) Vn;have hb':=hA.bel;have k0:=(hb'.cell (p:=⟨w.heap.size + 1,0,none⟩) (by show w.heap.size + 1 < _; omega)).trans HK3.out.1;have k1:=(hb'.cell (p:=⟨w.heap.size + 1,1,none⟩) (by show w.heap.size + 1 < _; omega)).trans HK3.out.2.1;have k2:=(hb'.cell (p:=⟨w.heap.size + 1,2,none⟩) (by show w.heap.size + 1 < _; omega)).trans HK3.out.2.2;clear UC HI;refine aa rfl fun K HK=>?_;go_simp;exact HK.out _ _ ⟨Value.agg #[.string t.a,.string t.b,.string t.r],by simp [upd, *],hA.put (by omega) Vd.out.2.2.2.2.1.symm⟩
  ·cases ho;have hA:=HI.out.early (i:=5) (by omega) Vn;have hb':=hA.bel;obtain ⟨t0,t1,t2,t3,t4,t5,tl⟩:=HT6.out.below hb';clear UC HI;refine aa rfl fun K HK=>?_;go_simp;exact HK.out _ _ ⟨Value.agg #[.string t.a,.string t.b,.string t.r,.string t.c,.string t.d,.string t.s],by simp [upd, *],hA.put (by omega) Vd.out.2.2.2.2.2.symm⟩
  ·cases ho;have hA:=HI.out.early (i:=6) (by omega) Vn;have e5:=(hA.val 5 (by omega) (UC.out ⟨5,.data⟩ (by simp) rfl)).trans Vd.out.2.2.2.2.2;clear UC HI;refine aa rfl fun K HK=>?_;simp only [e5];go_simp;exact HK.out _ _ ⟨_,by simp [upd,e5],hA.lay⟩
  ·cases ho;have hA:=HI.out.early (i:=7) (by omega) Vn;have e3:=(hA.val 3 (by omega) (UC.out ⟨3,.data⟩ (by simp) rfl)).trans Vd.out.2.2.2.1;have e4:=(hA.val 4 (by omega) (UC.out ⟨4,.data⟩ (by simp) rfl)).trans Vd.out.2.2.2.2.1;have hall:∀ k,k≤6→l k=true:=fun k hk=>by
    have hc:=Td (i:=k) (by omega)
    repeat' rcases hc with rfl | hc
    ·exact UC.out ⟨0,.phase⟩ (by simp) rfl
    ·exact UC.out ⟨1,.phase⟩ (by simp) rfl
    ·exact UC.out ⟨2,.phase⟩ (by simp) rfl
    ·exact UC.out ⟨3,.phase⟩ (by simp) rfl
    ·exact UC.out ⟨4,.phase⟩ (by simp) rfl
    ·exact UC.out ⟨5,.phase⟩ (by simp) rfl
    exact UC.out ⟨6,.phase⟩ (by simp) rfl
   have hD':=HD.out.below hA.bel;obtain ⟨kl,hkl⟩:=HKEY.out;obtain ⟨st,w1,hrun,hg,hback⟩:=hD'.told.map.entry Pi Ph underlying166 Jy (by unfold maxLen; omega) hkl;rw [← VD.out] at hrun;have hrun':(Instr.mapEntry 166 (.map (some bp)) (Value.agg #[.string t.a,.string t.b,.string t.r])).run prog w'=.ok (.tuple #[row0,goInt st]) w1:=hrun;clear UC HI;refine aa rfl fun K HK=>?_;simp only [e3,e4];go_simp;exact HK.out _ _ ⟨_,by simp [upd,e3,e4,goInt],hA.took hall hg hback⟩
  ·cases ho;have h7:=UC.out ⟨7,.data⟩ (by simp) rfl;have hB:=HI.out.midB h7 (i:=8) (by omega) Vn;obtain ⟨st,e7⟩:=HI.out.seven h7;clear UC HI;refine aa rfl fun K HK=>?_;simp only [e7];go_simp;exact HK.out _ _ ⟨_,by simp [upd,e7,goInt],hB.first⟩
  ·cases ho;have h7:=UC.out ⟨7,.chain⟩ (by simp) rfl;have h8:=UC.out ⟨8,.data⟩ (by simp) rfl;have hB:=HI.out.midB h7 (i:=9) (by omega) Vn;obtain ⟨W0,st,g,hm1,hm2,XH,YR,Xc,e7,hm7,hm8,hm9⟩:=hB.mid;have e8:=hm8 h8;have hown:=(Vp.out W0 hm1).kept Xc (by
    rcases h:row0.ownBlock with _ | g'
    ·exact .inl rfl
    right; intro e; injection e with e; have:=((Vp.out W0 hm1).lt g' h).1; omega)
   have hnew:w'.heap[g]?=some (.cells #[.string t.a,.string t.b,.string t.r,.string t.c,.string t.d,.string t.s] 46 (0,0)):=by
    have hgl:g < W0.heap.size:=by
     rcases Nat.lt_or_ge g W0.heap.size with h | h
     ·exact h
     rw [Array.getElem?_eq_none h] at YR; cases YR
    rw [Xc.block g hgl (fun e=>by injection e with e; omega)]; exact YR
   clear UC HI;refine kK w' rfl rfl _ _ 25 rfl (bp + 1) 46 iT _ 6 96 underlying25 HIT.out.1 HIT.out.2.1 HIT.out.2.2.1 HIT.out.2.2.2 rfl (by decide) row0 nn xs (by simp [Act.eval,e8]) hown ⟨g,0,none⟩ 1 1 [Value.string t.a,.string t.b,.string t.r,.string t.c,.string t.d,.string t.s] (by simp [Act.eval,hm2]) rfl (fun j u hu=>news_of_block hnew j u hu) (by simp [Value.oneCell']) (by unfold maxLen; omega) (by omega) (by have:=Xc.size; have:=hm1.size; omega) ?_;intro v' w2 hown2 U1 Zz;exact ⟨v',by simp [upd,Act.put],hB.app h8 U1 hown2 Zz⟩
  cases ho;have h7:=UC.out ⟨7,.data⟩ (by simp) rfl;obtain ⟨st,e7⟩:=HI.out.seven h7;have HI2:=HI.out.second h7 e7;clear UC HI;refine aa rfl fun K HK=>?_;simp only [e7];go_simp;exact HK.out _ _ ⟨_,by simp [upd,e7,goInt],HI2⟩
 case finA =>
  rintro o ho l fq w' hall hI;obtain rfl:=Option.some.inj ho;have hC:=hI.last hall;obtain ⟨W0,w1,st,hm1,hm2,XH,YR,Xc,hm6,-,hm8⟩:=hC.mid;have e10:=hm8 (hall 10 (by omega));have e3:=(hC.val 3 (by omega)).trans Vd.out.2.2.2.1;obtain ⟨w3,hrun,hM3,hg3⟩:=hm6 w' (fq 9) (XH.block bp (by have:=hm2.size; have:=hm1.size; omega) (fun e=>by have:=(Vp.out W0 hm1).lt bp e.symm; omega));have hst:=(HD.out.told.below hm1).step (y:=Mv t) (s:=t) hm2 (by rw [← WC.out,← Wq.out]; exact YR) (by rw [← VD.out]; exact XH) (by rw [← VD.out]; exact Xc) hg3 hM3;have HD3:=aD ((HD.out.below hm1).tell hst.1 hst.2);have HB3:Hid (Below bp w w3):=by
   have b0:Below bp w W0:=(UG.out.trans (hm1.mono UG.out.size)).mono (by omega);have b1:Below bp w w1:=b0.grown hm2 (by have:=hm1.size; omega) (fun i hi=>by injection hi with hi; omega);have b2:Below bp w w':=b1.grown XH (by have:=hm2.size; have:=hm1.size; omega) (fun i hi=>by have:=((Vp.out W0 hm1).lt i hi).1; omega);exact b2.grown hg3 (by have:=XH.size; have:=hm2.size; have:=hm1.size; omega) (fun i hi=>by injection hi with hi; omega)
  have hz3:W.heap.size≤w3.heap.size:=by have:=hg3.size; have:=XH.size; have:=hm2.size; have:=hm1.size; omega
  have hbx3:w3.heap[w.heap.size]?=some (.cells #[.string t.a,.string t.b,.string t.r,.string t.c,.string t.d,.string t.s] 46 (0,0)):=by
   rw [hst.2.block w.heap.size (by have:=hm1.size; omega) (by omega) HFB.out,hm1.block w.heap.size (by omega)]; exact U4.out
  have HT3:Hid (ug w3 w.heap.size t∧∃ cur,w3.heap[w.heap.size]?=some (.cells cur 46 (0,0))):=⟨HT6.out.block (by rw [hbx3,U4.out]) (by omega),_,hbx3⟩;have VV:(Instr.entryStore 166 (.map (some bp)) (.int .i64 st) (fq 9)).run prog w'=.ok () w3:=hrun;obtain ⟨Mn,hMn⟩:∃ M,M=lc Mp (Mv t) (some (fq 9)):=⟨_,rfl⟩;rw [← hMn] at HD3;refine aa rfl fun K HK=>?_;simp only [e3,e10];go_simp;refine HK.out _ _ ?_;clear hst hrun VV hM3 hg3 hm1 hm2 XH YR Xc hm6 hm8 hC hI hall ho HK K e3 e10 HD HT6 HK3 UG Vp U4 Vd HKEY HFB hMn VD WC Wq hbx3;obtain ⟨y0,hy0⟩:∃ y,y=fq 0:=⟨_,rfl⟩;rw [← hy0];obtain ⟨y1,hy1⟩:∃ y,y=fq 1:=⟨_,rfl⟩;rw [← hy1];obtain ⟨y2,hy2⟩:∃ y,y=fq 2:=⟨_,rfl⟩;rw [← hy2];obtain ⟨y4,hy4⟩:∃ y,y=fq 4:=⟨_,rfl⟩;rw [← hy4];obtain ⟨y8,hy8⟩:∃ y,y=fq 8:=⟨_,rfl⟩;rw [← hy8];obtain ⟨y5,hy5⟩:∃ y,y=fq 5:=⟨_,rfl⟩;rw [← hy5];obtain ⟨y6,hy6⟩:∃ y,y=fq 6:=⟨_,rfl⟩;rw [← hy6];obtain ⟨y7,hy7⟩:∃ y,y=fq 7:=⟨_,rfl⟩;rw [← hy7];obtain ⟨y9,hy9⟩:∃ y,y=fq 9:=⟨_,rfl⟩;rw [← hy9];clear hy0 hy1 hy2 hy4 hy8 hy5 hy6 hy7 hy9 fq l hz3;go_wp2_with fail;have hbz:bp + 1≤w3.heap.size:=by have:=HD3.out.lt; have:=HD3.out.gt; omega
  have hx1:(aZ xo ⟨t.a,t.b⟩).length≤501:=by have:=oo xo ⟨t.a,t.b⟩; omega
  obtain ⟨CB,hCB⟩:∃ C:Nat→Value,C=fun n=>(Value.pointer (some ⟨D,0,none⟩)::.pointer (some ⟨D,0,none⟩)::.pointer (some ⟨D,0,none⟩)::.pointer (some ⟨D,4,none⟩)::vo::.pointer (some ⟨w.heap.size,0,none⟩)::.agg #[.string t.a,.string t.b]::undef::.pointer (some ⟨D,0,none⟩)::.pointer (some ⟨D,4,none⟩)::[]).getD n undef:=⟨_,rfl⟩;have Xd:Hid (CB 0=Value.pointer (some ⟨D,0,none⟩)∧CB 1=Value.pointer (some ⟨D,0,none⟩)∧CB 2=Value.pointer (some ⟨D,0,none⟩)∧CB 3=Value.pointer (some ⟨D,4,none⟩)∧CB 4=vo∧CB 5=Value.pointer (some ⟨w.heap.size,0,none⟩)∧CB 6=Value.agg #[.string t.a,.string t.b]∧CB 7=undef∧CB 8=Value.pointer (some ⟨D,0,none⟩)∧CB 9=Value.pointer (some ⟨D,4,none⟩)):=by show _∧_; rw [hCB]; exact ⟨rfl,rfl,rfl,rfl,rfl,rfl,rfl,rfl,rfl,rfl⟩
  clear hCB;refine jW 10 (fun _=>undef) (fun fr=>{ tmps:=List.toArray (Value.pointer (some ⟨D,0,none⟩)::.agg #[.string t.a,.string t.b,.string t.r,.string t.c,.string t.d,.string t.s]::undef::.pointer (some ⟨w.heap.size,0,none⟩)::.pointer (some ⟨w.heap.size + 1,0,none⟩)::.pointer (some ⟨w.heap.size,0,none⟩)::.agg #[.string t.a,.string t.b]::.pointer (some ⟨w.heap.size,2,none⟩)::.string t.r::.agg #[.string t.a,.string t.b,.string t.r]::y0::y1::y2::.map (some bp)::y4::y8::y5::y6::y7::y9::.int .i64 st::(fr 0)::(fr 1)::(fr 2)::(fr 3)::(fr 4)::(fr 5)::(fr 6)::(fr 7)::(fr 8)::(fr 9)::undef::undef::undef::undef::undef::undef::undef::undef::undef::undef::undef::undef::undef::undef::undef::undef::undef::undef::undef::undef::undef::undef::undef::[]),defers:=[] }) (G.WI CB w3 (fun v' w'=>∃ w1,ag w3 w1∧w'.ownsRow (bp + 1) 27 2 v' (aZ xo ⟨t.a,t.b⟩).length (pairs (aZ xo ⟨t.a,t.b⟩))∧Aside w1 vo w' v'∧∀ B',(∀ g,vo.ownBlock=some g→B'≤g)→B'≤w1.heap.size→Below B' w1 w')) (by kernel_rfl) rfl (by kernel_rfl) (fun o ho l f w' hI hp=>?clB) rfl (G.wi_start w3) ?xY ?finB;case clB =>
   cases ho;intro k hk;have h9:=hp ⟨9,.data⟩ (by simp) rfl;have hc:=uh (i:=k) (by omega)
   repeat' rcases hc with rfl | hc
   ·exact hp ⟨0,.phase⟩ (by simp) rfl
   ·exact hp ⟨1,.phase⟩ (by simp) rfl
   ·exact hp ⟨2,.phase⟩ (by simp) rfl
   ·exact hp ⟨3,.phase⟩ (by simp) rfl
   ·exact hp ⟨4,.phase⟩ (by simp) rfl
   ·exact hp ⟨5,.phase⟩ (by simp) rfl
   ·exact hp ⟨6,.phase⟩ (by simp) rfl
   ·exact hp ⟨7,.phase⟩ (by simp) rfl
   ·exact hI.nin h9
   exact h9
  case xY =>
   rintro i hi o ho l fr w' Vn hI hpre;have HI:Hid (G.WI CB w3 (fun v' w'=>∃ w1,ag w3 w1∧w'.ownsRow (bp + 1) 27 2 v' (aZ xo ⟨t.a,t.b⟩).length (pairs (aZ xo ⟨t.a,t.b⟩))∧Aside w1 vo w' v'∧∀ B',(∀ g,vo.ownBlock=some g→B'≤g)→B'≤w1.heap.size→Below B' w1 w') l fr w'):=hI;have UC:Hid (∀ e ∈ o.after,Region.binds .any e=true→l e.on=true):=hpre;clear hI hpre;have hc:=uh (i:=i) (by omega);clear hi
   repeat' rcases hc with rfl | hc
   ·cases ho;have hW:=HI.out;clear UC HI;refine aa rfl fun K HK=>?_;go_simp;exact HK.out _ _ ⟨Value.pointer (some ⟨D,0,none⟩),by simp [upd, *],hW.put (by omega) (by omega) Xd.out.1.symm⟩
   ·cases ho;have hW:=HI.out;clear UC HI;refine aa rfl fun K HK=>?_;go_simp;exact HK.out _ _ ⟨Value.pointer (some ⟨D,0,none⟩),by simp [upd, *],hW.put (by omega) (by omega) Xd.out.2.1.symm⟩
   ·cases ho;have hW:=HI.out;have e1:=(HI.out.val 1 (by omega) (by omega) (UC.out ⟨1,.data⟩ (by simp) rfl)).trans Xd.out.2.1;clear UC HI;refine aa rfl fun K HK=>?_;simp only [e1];go_simp;exact HK.out _ _ ⟨Value.pointer (some ⟨D,0,none⟩),by simp [upd, *],hW.put (by omega) (by omega) Xd.out.2.2.1.symm⟩
   ·cases ho;have hW:=HI.out;have e2:=(HI.out.val 2 (by omega) (by omega) (UC.out ⟨2,.data⟩ (by simp) rfl)).trans Xd.out.2.2.1;clear UC HI;refine aa rfl fun K HK=>?_;simp only [e2];go_simp;exact HK.out _ _ ⟨Value.pointer (some ⟨D,4,none⟩),by simp [upd, *],hW.put (by omega) (by omega) Xd.out.2.2.2.1.symm⟩
   ·cases ho;have hW:=HI.out;have e3:=(HI.out.val 3 (by omega) (by omega) (UC.out ⟨3,.data⟩ (by simp) rfl)).trans Xd.out.2.2.2.1;have hb':=HI.out.early (.inl Vn);have d4:=(hb'.cell (p:=⟨D,4,none⟩) HD3.out.lt).trans HD3.out.c4;clear UC HI;refine aa rfl fun K HK=>?_;simp only [e3];go_simp;exact HK.out _ _ ⟨vo,by simp [upd, *],hW.put (by omega) (by omega) Xd.out.2.2.2.2.1.symm⟩
   ·cases ho;have hW:=HI.out;clear UC HI;refine aa rfl fun K HK=>?_;go_simp;exact HK.out _ _ ⟨Value.pointer (some ⟨w.heap.size,0,none⟩),by simp [upd, *],hW.put (by omega) (by omega) Xd.out.2.2.2.2.2.1.symm⟩
   ·cases ho;have hW:=HI.out;have e5:=(HI.out.val 5 (by omega) (by omega) (UC.out ⟨5,.data⟩ (by simp) rfl)).trans Xd.out.2.2.2.2.2.1;have hb':=HI.out.early (.inr Vn);obtain ⟨t0,t1,t2,t3,t4,t5,tl⟩:=HT3.out.1.below hb';clear UC HI;refine aa rfl fun K HK=>?_;simp only [e5];go_simp;exact HK.out _ _ ⟨Value.agg #[.string t.a,.string t.b],by simp [upd, *],hW.put (by omega) (by omega) Xd.out.2.2.2.2.2.2.1.symm⟩
   ·cases ho;have hW:=HI.out;have e4:=(HI.out.val 4 (by omega) (by omega) (UC.out ⟨4,.data⟩ (by simp) rfl)).trans Xd.out.2.2.2.2.1;have e6:=(HI.out.val 6 (by omega) (by omega) (UC.out ⟨6,.data⟩ (by simp) rfl)).trans Xd.out.2.2.2.2.2.2.1;have h4:=UC.out ⟨4,.data⟩ (by simp) rfl;have h6:=UC.out ⟨6,.data⟩ (by simp) rfl;have hb':=HI.out.before Vn;have hown:=cO HD3.out.objs hb';clear UC HI;refine aa rfl fun K HK=>?_;simp only [e4,e6];go_simp;refine (mE (bp + 1) vo xo ⟨t.a,t.b⟩ w' (by omega) (TZ hbz hb'.size) hown).mono ?_;rintro e w2 ⟨v',rfl,hown2,has,hbl⟩;exact HK.out _ _ ⟨v',by simp [upd,e4,e6],hW.call h4 h6 ⟨w',hb',hown2,has,hbl⟩⟩
   ·cases ho;have hW:=HI.out;have e0:=(HI.out.val 0 (by omega) (by omega) (UC.out ⟨0,.data⟩ (by simp) rfl)).trans Xd.out.1;clear UC HI;refine aa rfl fun K HK=>?_;simp only [e0];go_simp;exact HK.out _ _ ⟨Value.pointer (some ⟨D,0,none⟩),by simp [upd, *],hW.put (by omega) (by omega) Xd.out.2.2.2.2.2.2.2.2.1.symm⟩
   cases ho;have hW:=HI.out;have e8:=(HI.out.val 8 (by omega) (by omega) (UC.out ⟨8,.data⟩ (by simp) rfl)).trans Xd.out.2.2.2.2.2.2.2.2.1;have h8:=UC.out ⟨8,.data⟩ (by simp) rfl;clear UC HI;refine aa rfl fun K HK=>?_;simp only [e8];go_simp;exact HK.out _ _ ⟨Value.pointer (some ⟨D,4,none⟩),by simp [upd, *],hW.put (by omega) (fun _=>h8) Xd.out.2.2.2.2.2.2.2.2.2.symm⟩
  case finB =>
   rintro o ho l fr w' hall hI;obtain rfl:=Option.some.inj ho;obtain ⟨hval,w1,hb1,hown,has,hbl⟩:=hI.last hall;have e9:=(hval 9 (by omega) (by omega)).trans Xd.out.2.2.2.2.2.2.2.2.2;have VT:=HD3.out.below hb1;have hDn:=VT.newO hown has;have Yw:=(HT3.out.1.below hb1).aside (by obtain ⟨cur,e⟩:=HT3.out.2; exact ⟨cur,(hb1.block _ HT3.out.1.2.2.2.2.2.2).trans e⟩) VT.objs has;obtain ⟨cur,hkd⟩:=VT.kind;have XL:vo.ownBlock ≠ some D:=fun e=>absurd (dI VT.objs e hkd) (by decide);have XN:=(has.block D VT.lt XL).trans hkd;have fz:=fun o=>gJ XN o;have d4:=(Ul (w:=w1) (a:=⟨D,4,none⟩) (has.block D VT.lt XL)).trans VT.c4;obtain ⟨adn,cpn,e7,-⟩:=kE hown;rw [e7] at hown has hDn;obtain ⟨w4,hwn⟩:∃ x,x=w'.setCell ⟨D,4,none⟩ (Value.slice adn (aZ xo ⟨t.a,t.b⟩).length cpn):=⟨_,rfl⟩;rw [← hwn] at hDn;have YS:=aD hDn;have ZA:Hid (ug w4 w.heap.size t∧∃ cur,w4.heap[w.heap.size]?=some (.cells cur 46 (0,0))):=by
    have hh:w4.heap[w.heap.size]?=w'.heap[w.heap.size]?:=by rw [hwn]; exact heap_setCell_other w' ⟨D,4,none⟩ w.heap.size _ (by show w.heap.size ≠ D; omega)
    obtain ⟨cr,ecr⟩:=Yw.2;exact ⟨Yw.1.block hh (by rw [hwn]; simpa using Yw.1.2.2.2.2.2.2),cr,hh.trans ecr⟩
   have HB3n:Hid (Below bp w w4):=by
    have b1:Below bp w w1:=HB3.out.trans (hb1.mono (by omega));have b2:Below bp w w':=b1.trans (hbl bp (fun g hg=>by have:=(VT.objs.lt g hg).1; omega) (by have:=hb1.size; omega));show Below _ _ _; rw [hwn]; exact b2.setCell (by show bp≤D; omega) _
   have hsn:w3.heap.size≤w4.heap.size:=by rw [hwn]; have:=hb1.size; have:=has.size; simp; omega
   have YT:bp + 1≤w4.heap.size:=by omega
   clear hval;refine aa rfl fun K HK=>?_;simp only [e9,e7];go_simp;rw [← hwn];refine HK.out _ _ ?_;obtain ⟨ZB,hvo1⟩:∃ v,v=Value.slice adn (aZ xo ⟨t.a,t.b⟩).length cpn:=⟨_,rfl⟩;rw [← hvo1] at YS ⊢;clear hb1 hown has hbl VT hDn Yw hkd XN XL fz d4 HK K hI hall ho hwn e9 e7 hvo1 hsn hbz HD3 HT3 HB3 Xd;obtain ⟨zB0,hz0⟩:∃ y,y=fr 0:=⟨_,rfl⟩;rw [← hz0];obtain ⟨zB1,hz1⟩:∃ y,y=fr 1:=⟨_,rfl⟩;rw [← hz1];obtain ⟨zB2,hz2⟩:∃ y,y=fr 2:=⟨_,rfl⟩;rw [← hz2];obtain ⟨zB3,hz3⟩:∃ y,y=fr 3:=⟨_,rfl⟩;rw [← hz3];obtain ⟨zB4,Xl⟩:∃ y,y=fr 4:=⟨_,rfl⟩;rw [← Xl];obtain ⟨zB5,hz5⟩:∃ y,y=fr 5:=⟨_,rfl⟩;rw [← hz5];obtain ⟨zB6,hz6⟩:∃ y,y=fr 6:=⟨_,rfl⟩;rw [← hz6];obtain ⟨zB8,hz8⟩:∃ y,y=fr 8:=⟨_,rfl⟩;rw [← hz8];clear hz0 hz1 hz2 hz3 Xl hz5 hz6 hz8 fr l
   skip
   have hbz:=YT;clear YT;go_wp2_with fail;obtain ⟨CC,hCC⟩:∃ C:Nat→Value,C=fun n=>(Value.pointer (some ⟨D,0,none⟩)::.pointer (some ⟨D,0,none⟩)::.pointer (some ⟨D,0,none⟩)::.pointer (some ⟨D,4,none⟩)::ZB::.pointer (some ⟨w.heap.size,3,none⟩)::.agg #[.string t.c,.string t.d]::undef::.pointer (some ⟨D,0,none⟩)::.pointer (some ⟨D,4,none⟩)::[]).getD n undef:=⟨_,rfl⟩;have VJ:Hid (CC 0=Value.pointer (some ⟨D,0,none⟩)∧CC 1=Value.pointer (some ⟨D,0,none⟩)∧CC 2=Value.pointer (some ⟨D,0,none⟩)∧CC 3=Value.pointer (some ⟨D,4,none⟩)∧CC 4=ZB∧CC 5=Value.pointer (some ⟨w.heap.size,3,none⟩)∧CC 6=Value.agg #[.string t.c,.string t.d]∧CC 7=undef∧CC 8=Value.pointer (some ⟨D,0,none⟩)∧CC 9=Value.pointer (some ⟨D,4,none⟩)):=by show _∧_; rw [hCC]; exact ⟨rfl,rfl,rfl,rfl,rfl,rfl,rfl,rfl,rfl,rfl⟩
   clear hCC;refine jW 10 (fun _=>undef) (fun fs=>{ tmps:=List.toArray (Value.pointer (some ⟨D,0,none⟩)::.agg #[.string t.a,.string t.b,.string t.r,.string t.c,.string t.d,.string t.s]::undef::.pointer (some ⟨w.heap.size,0,none⟩)::.pointer (some ⟨w.heap.size + 1,0,none⟩)::.pointer (some ⟨w.heap.size,0,none⟩)::.agg #[.string t.a,.string t.b]::.pointer (some ⟨w.heap.size,2,none⟩)::.string t.r::.agg #[.string t.a,.string t.b,.string t.r]::y0::y1::y2::.map (some bp)::y4::y8::y5::y6::y7::y9::.int .i64 st::zB0::zB1::zB2::zB3::zB4::zB5::zB6::ZB::zB8::.pointer (some ⟨D,4,none⟩)::(fs 0)::(fs 1)::(fs 2)::(fs 3)::(fs 4)::(fs 5)::(fs 6)::(fs 7)::(fs 8)::(fs 9)::undef::undef::undef::undef::undef::undef::undef::undef::undef::undef::undef::undef::undef::[]),defers:=[] }) (G.WI CC w4 (fun v' w'=>∃ w1,ag w4 w1∧w'.ownsRow (bp + 1) 27 2 v' (aZ (aZ xo ⟨t.a,t.b⟩) ⟨t.c,t.d⟩).length (pairs (aZ (aZ xo ⟨t.a,t.b⟩) ⟨t.c,t.d⟩))∧Aside w1 ZB w' v'∧∀ B',(∀ g,ZB.ownBlock=some g→B'≤g)→B'≤w1.heap.size→Below B' w1 w')) (by kernel_rfl) rfl (by kernel_rfl) (fun o ho l f w' hI hp=>?clC) rfl (G.wi_start w4) ?stepC ?finC;case clC =>
    cases ho;intro k hk;have h9:=hp ⟨9,.data⟩ (by simp) rfl;have hc:=uh (i:=k) (by omega)
    repeat' rcases hc with rfl | hc
    ·exact hp ⟨0,.phase⟩ (by simp) rfl
    ·exact hp ⟨1,.phase⟩ (by simp) rfl
    ·exact hp ⟨2,.phase⟩ (by simp) rfl
    ·exact hp ⟨3,.phase⟩ (by simp) rfl
    ·exact hp ⟨4,.phase⟩ (by simp) rfl
    ·exact hp ⟨5,.phase⟩ (by simp) rfl
    ·exact hp ⟨6,.phase⟩ (by simp) rfl
    ·exact hp ⟨7,.phase⟩ (by simp) rfl
    ·exact hI.nin h9
    exact h9
   case stepC =>
    rintro i hi o ho l fs w' Vn hI hpre;have HI:Hid (G.WI CC w4 (fun v' w'=>∃ w1,ag w4 w1∧w'.ownsRow (bp + 1) 27 2 v' (aZ (aZ xo ⟨t.a,t.b⟩) ⟨t.c,t.d⟩).length (pairs (aZ (aZ xo ⟨t.a,t.b⟩) ⟨t.c,t.d⟩))∧Aside w1 ZB w' v'∧∀ B',(∀ g,ZB.ownBlock=some g→B'≤g)→B'≤w1.heap.size→Below B' w1 w') l fs w'):=hI;have UC:Hid (∀ e ∈ o.after,Region.binds .any e=true→l e.on=true):=hpre;clear hI hpre;have hc:=uh (i:=i) (by omega);clear hi
    repeat' rcases hc with rfl | hc
    ·cases ho;have hW:=HI.out;clear UC HI;refine aa rfl fun K HK=>?_;go_simp;exact HK.out _ _ ⟨Value.pointer (some ⟨D,0,none⟩),by simp [upd, *],hW.put (by omega) (by omega) VJ.out.1.symm⟩
    ·cases ho;have hW:=HI.out;clear UC HI;refine aa rfl fun K HK=>?_;go_simp;exact HK.out _ _ ⟨Value.pointer (some ⟨D,0,none⟩),by simp [upd, *],hW.put (by omega) (by omega) VJ.out.2.1.symm⟩
    ·cases ho;have hW:=HI.out;have e1:=(HI.out.val 1 (by omega) (by omega) (UC.out ⟨1,.data⟩ (by simp) rfl)).trans VJ.out.2.1;clear UC HI;refine aa rfl fun K HK=>?_;simp only [e1];go_simp;exact HK.out _ _ ⟨Value.pointer (some ⟨D,0,none⟩),by simp [upd, *],hW.put (by omega) (by omega) VJ.out.2.2.1.symm⟩
    ·cases ho;have hW:=HI.out;have e2:=(HI.out.val 2 (by omega) (by omega) (UC.out ⟨2,.data⟩ (by simp) rfl)).trans VJ.out.2.2.1;clear UC HI;refine aa rfl fun K HK=>?_;simp only [e2];go_simp;exact HK.out _ _ ⟨Value.pointer (some ⟨D,4,none⟩),by simp [upd, *],hW.put (by omega) (by omega) VJ.out.2.2.2.1.symm⟩
    ·cases ho;have hW:=HI.out;have e3:=(HI.out.val 3 (by omega) (by omega) (UC.out ⟨3,.data⟩ (by simp) rfl)).trans VJ.out.2.2.2.1;have hb':=HI.out.early (.inl Vn);have d4:=(hb'.cell (p:=⟨D,4,none⟩) YS.out.lt).trans YS.out.c4;clear UC HI;refine aa rfl fun K HK=>?_;simp only [e3];go_simp;exact HK.out _ _ ⟨ZB,by simp [upd, *],hW.put (by omega) (by omega) VJ.out.2.2.2.2.1.symm⟩
    ·cases ho;have hW:=HI.out;clear UC HI;refine aa rfl fun K HK=>?_;go_simp;exact HK.out _ _ ⟨Value.pointer (some ⟨w.heap.size,3,none⟩),by simp [upd, *],hW.put (by omega) (by omega) VJ.out.2.2.2.2.2.1.symm⟩
    ·cases ho;have hW:=HI.out;have e5:=(HI.out.val 5 (by omega) (by omega) (UC.out ⟨5,.data⟩ (by simp) rfl)).trans VJ.out.2.2.2.2.2.1;have hb':=HI.out.early (.inr Vn);obtain ⟨t0,t1,t2,t3,t4,t5,tl⟩:=ZA.out.1.below hb';clear UC HI;refine aa rfl fun K HK=>?_;simp only [e5];go_simp;exact HK.out _ _ ⟨Value.agg #[.string t.c,.string t.d],by simp [upd, *],hW.put (by omega) (by omega) VJ.out.2.2.2.2.2.2.1.symm⟩
    ·cases ho;have hW:=HI.out;have e4:=(HI.out.val 4 (by omega) (by omega) (UC.out ⟨4,.data⟩ (by simp) rfl)).trans VJ.out.2.2.2.2.1;have e6:=(HI.out.val 6 (by omega) (by omega) (UC.out ⟨6,.data⟩ (by simp) rfl)).trans VJ.out.2.2.2.2.2.2.1;have h4:=UC.out ⟨4,.data⟩ (by simp) rfl;have h6:=UC.out ⟨6,.data⟩ (by simp) rfl;have hb':=HI.out.before Vn;have hown:=cO YS.out.objs hb';clear UC HI;refine aa rfl fun K HK=>?_;simp only [e4,e6];go_simp;refine (mE (bp + 1) ZB (aZ xo ⟨t.a,t.b⟩) ⟨t.c,t.d⟩ w' (by omega) (TZ hbz hb'.size) hown).mono ?_;rintro e w2 ⟨v',rfl,hown2,has,hbl⟩;exact HK.out _ _ ⟨v',by simp [upd,e4,e6],hW.call h4 h6 ⟨w',hb',hown2,has,hbl⟩⟩
    ·cases ho;have hW:=HI.out;have e0:=(HI.out.val 0 (by omega) (by omega) (UC.out ⟨0,.data⟩ (by simp) rfl)).trans VJ.out.1;clear UC HI;refine aa rfl fun K HK=>?_;simp only [e0];go_simp;exact HK.out _ _ ⟨Value.pointer (some ⟨D,0,none⟩),by simp [upd, *],hW.put (by omega) (by omega) VJ.out.2.2.2.2.2.2.2.2.1.symm⟩
    cases ho;have hW:=HI.out;have e8:=(HI.out.val 8 (by omega) (by omega) (UC.out ⟨8,.data⟩ (by simp) rfl)).trans VJ.out.2.2.2.2.2.2.2.2.1;have h8:=UC.out ⟨8,.data⟩ (by simp) rfl;clear UC HI;refine aa rfl fun K HK=>?_;simp only [e8];go_simp;exact HK.out _ _ ⟨Value.pointer (some ⟨D,4,none⟩),by simp [upd, *],hW.put (by omega) (fun _=>h8) VJ.out.2.2.2.2.2.2.2.2.2.symm⟩
   case finC =>
    rintro o ho l fs w' hall hI;obtain rfl:=Option.some.inj ho;obtain ⟨hval,w1,hb1,hown,has,hbl⟩:=hI.last hall;have e9:=(hval 9 (by omega) (by omega)).trans VJ.out.2.2.2.2.2.2.2.2.2;have VT:=YS.out.below hb1;have hDn:=VT.newO hown has;have Yw:=(ZA.out.1.below hb1).aside (by obtain ⟨cur,e⟩:=ZA.out.2; exact ⟨cur,(hb1.block _ ZA.out.1.2.2.2.2.2.2).trans e⟩) VT.objs has;obtain ⟨cur,hkd⟩:=VT.kind;have XL:ZB.ownBlock ≠ some D:=fun e=>absurd (dI VT.objs e hkd) (by decide);have XN:=(has.block D VT.lt XL).trans hkd;have fz:=fun o=>gJ XN o;have d4:=(Ul (w:=w1) (a:=⟨D,4,none⟩) (has.block D VT.lt XL)).trans VT.c4;obtain ⟨adn,cpn,e7,-⟩:=kE hown;rw [e7] at hown has hDn;obtain ⟨w5,hwn⟩:∃ x,x=w'.setCell ⟨D,4,none⟩ (Value.slice adn (aZ (aZ xo ⟨t.a,t.b⟩) ⟨t.c,t.d⟩).length cpn):=⟨_,rfl⟩;rw [← hwn] at hDn;have WB:=aD hDn;have WU:Hid (ug w5 w.heap.size t∧∃ cur,w5.heap[w.heap.size]?=some (.cells cur 46 (0,0))):=by
     have hh:w5.heap[w.heap.size]?=w'.heap[w.heap.size]?:=by rw [hwn]; exact heap_setCell_other w' ⟨D,4,none⟩ w.heap.size _ (by show w.heap.size ≠ D; omega)
     obtain ⟨cr,ecr⟩:=Yw.2;exact ⟨Yw.1.block hh (by rw [hwn]; simpa using Yw.1.2.2.2.2.2.2),cr,hh.trans ecr⟩
    have ZC:Hid (Below bp w w5):=by
     have b1:Below bp w w1:=HB3n.out.trans (hb1.mono (by omega));have b2:Below bp w w':=b1.trans (hbl bp (fun g hg=>by have:=(VT.objs.lt g hg).1; omega) (by have:=hb1.size; omega));show Below _ _ _; rw [hwn]; exact b2.setCell (by show bp≤D; omega) _
    have hsn:w4.heap.size≤w5.heap.size:=by rw [hwn]; have:=hb1.size; have:=has.size; simp; omega
    have YT:bp + 1≤w5.heap.size:=by omega
    clear hval;refine aa rfl fun K HK=>?_;simp only [e9,e7];go_simp;rw [← hwn];refine HK.out _ _ ?_;obtain ⟨vo2,hvo2⟩:∃ v,v=Value.slice adn (aZ (aZ xo ⟨t.a,t.b⟩) ⟨t.c,t.d⟩).length cpn:=⟨_,rfl⟩;rw [← hvo2] at WB ⊢;clear hb1 hown has hbl VT hDn Yw hkd XN XL fz d4 HK K hI hall ho hwn e9 e7 hvo2 hsn hbz YS ZA HB3n VJ;obtain ⟨zC0,hz0⟩:∃ y,y=fs 0:=⟨_,rfl⟩;rw [← hz0];obtain ⟨zC1,hz1⟩:∃ y,y=fs 1:=⟨_,rfl⟩;rw [← hz1];obtain ⟨zC2,hz2⟩:∃ y,y=fs 2:=⟨_,rfl⟩;rw [← hz2];obtain ⟨zC3,hz3⟩:∃ y,y=fs 3:=⟨_,rfl⟩;rw [← hz3];obtain ⟨zC4,Xl⟩:∃ y,y=fs 4:=⟨_,rfl⟩;rw [← Xl];obtain ⟨zC5,hz5⟩:∃ y,y=fs 5:=⟨_,rfl⟩;rw [← hz5];obtain ⟨zC6,hz6⟩:∃ y,y=fs 6:=⟨_,rfl⟩;rw [← hz6];obtain ⟨zC8,hz8⟩:∃ y,y=fs 8:=⟨_,rfl⟩;rw [← hz8];clear hz0 hz1 hz2 hz3 Xl hz5 hz6 hz8 fs l
    skip
    have hbz:=YT;clear YT;obtain ⟨t0,t1,t2,t3,t4,t5,tl⟩:=WU.out.1;cases hs:(t.s.toList == ([]:List UInt8));case false=>
     have HU:Hid (cu xu t=xu):=by show _=_; unfold cu; rw [hs]; rfl
     go_wp2
     go_end0
     exact ⟨rfl,⟨_,_,_,by rw [HU.out]; exact WB.out⟩,ZC.out⟩
    have HU:Hid (cu xu t=aZ xu ⟨t.c,t.d⟩):=by show _=_; unfold cu; rw [hs]; rfl
    clear t0 t1 t2 t3 t4 tl;go_wp2_with fail;clear t5 hs;obtain ⟨CD,hCD⟩:∃ C:Nat→Value,C=fun n=>(Value.pointer (some ⟨D,0,none⟩)::.pointer (some ⟨D,0,none⟩)::.pointer (some ⟨D,0,none⟩)::.pointer (some ⟨D,5,none⟩)::vu::.pointer (some ⟨w.heap.size,3,none⟩)::.agg #[.string t.c,.string t.d]::undef::.pointer (some ⟨D,0,none⟩)::.pointer (some ⟨D,5,none⟩)::[]).getD n undef:=⟨_,rfl⟩;have Xe:Hid (CD 0=Value.pointer (some ⟨D,0,none⟩)∧CD 1=Value.pointer (some ⟨D,0,none⟩)∧CD 2=Value.pointer (some ⟨D,0,none⟩)∧CD 3=Value.pointer (some ⟨D,5,none⟩)∧CD 4=vu∧CD 5=Value.pointer (some ⟨w.heap.size,3,none⟩)∧CD 6=Value.agg #[.string t.c,.string t.d]∧CD 7=undef∧CD 8=Value.pointer (some ⟨D,0,none⟩)∧CD 9=Value.pointer (some ⟨D,5,none⟩)):=by show _∧_; rw [hCD]; exact ⟨rfl,rfl,rfl,rfl,rfl,rfl,rfl,rfl,rfl,rfl⟩
    clear hCD;refine jW 10 (fun _=>undef) (fun ft=>{ tmps:=List.toArray (Value.pointer (some ⟨D,0,none⟩)::.agg #[.string t.a,.string t.b,.string t.r,.string t.c,.string t.d,.string t.s]::undef::.pointer (some ⟨w.heap.size,0,none⟩)::.pointer (some ⟨w.heap.size + 1,0,none⟩)::.pointer (some ⟨w.heap.size,0,none⟩)::.agg #[.string t.a,.string t.b]::.pointer (some ⟨w.heap.size,2,none⟩)::.string t.r::.agg #[.string t.a,.string t.b,.string t.r]::y0::y1::y2::.map (some bp)::y4::y8::y5::y6::y7::y9::.int .i64 st::zB0::zB1::zB2::zB3::zB4::zB5::zB6::ZB::zB8::.pointer (some ⟨D,4,none⟩)::zC0::zC1::zC2::zC3::zC4::zC5::zC6::vo2::zC8::.pointer (some ⟨D,4,none⟩)::.pointer (some ⟨w.heap.size,5,none⟩)::.string t.s::.bool true::(ft 0)::(ft 1)::(ft 2)::(ft 3)::(ft 4)::(ft 5)::(ft 6)::(ft 7)::(ft 8)::(ft 9)::[]),defers:=[] }) (G.WI CD w5 (fun v' w'=>∃ w1,ag w5 w1∧w'.ownsRow (bp + 1) 27 2 v' (aZ xu ⟨t.c,t.d⟩).length (pairs (aZ xu ⟨t.c,t.d⟩))∧Aside w1 vu w' v'∧∀ B',(∀ g,vu.ownBlock=some g→B'≤g)→B'≤w1.heap.size→Below B' w1 w')) (by kernel_rfl) rfl (by kernel_rfl) (fun o ho l f w' hI hp=>?clD) rfl (G.wi_start w5) ?stepD ?finD;case clD =>
     cases ho;intro k hk;have h9:=hp ⟨9,.data⟩ (by simp) rfl;have hc:=uh (i:=k) (by omega)
     repeat' rcases hc with rfl | hc
     ·exact hp ⟨0,.phase⟩ (by simp) rfl
     ·exact hp ⟨1,.phase⟩ (by simp) rfl
     ·exact hp ⟨2,.phase⟩ (by simp) rfl
     ·exact hp ⟨3,.phase⟩ (by simp) rfl
     ·exact hp ⟨4,.phase⟩ (by simp) rfl
     ·exact hp ⟨5,.phase⟩ (by simp) rfl
     ·exact hp ⟨6,.phase⟩ (by simp) rfl
     ·exact hp ⟨7,.phase⟩ (by simp) rfl
     ·exact hI.nin h9
     exact h9
    case stepD =>
     rintro i hi o ho l ft w' Vn hI hpre;have HI:Hid (G.WI CD w5 (fun v' w'=>∃ w1,ag w5 w1∧w'.ownsRow (bp + 1) 27 2 v' (aZ xu ⟨t.c,t.d⟩).length (pairs (aZ xu ⟨t.c,t.d⟩))∧Aside w1 vu w' v'∧∀ B',(∀ g,vu.ownBlock=some g→B'≤g)→B'≤w1.heap.size→Below B' w1 w') l ft w'):=hI;have UC:Hid (∀ e ∈ o.after,Region.binds .any e=true→l e.on=true):=hpre;clear hI hpre;have hc:=uh (i:=i) (by omega);clear hi
     repeat' rcases hc with rfl | hc
     ·cases ho;have hW:=HI.out;clear UC HI;refine aa rfl fun K HK=>?_;go_simp;exact HK.out _ _ ⟨Value.pointer (some ⟨D,0,none⟩),by simp [upd, *],hW.put (by omega) (by omega) Xe.out.1.symm⟩
     ·cases ho;have hW:=HI.out;clear UC HI;refine aa rfl fun K HK=>?_;go_simp;exact HK.out _ _ ⟨Value.pointer (some ⟨D,0,none⟩),by simp [upd, *],hW.put (by omega) (by omega) Xe.out.2.1.symm⟩
     ·cases ho;have hW:=HI.out;have e1:=(HI.out.val 1 (by omega) (by omega) (UC.out ⟨1,.data⟩ (by simp) rfl)).trans Xe.out.2.1;clear UC HI;refine aa rfl fun K HK=>?_;simp only [e1];go_simp;exact HK.out _ _ ⟨Value.pointer (some ⟨D,0,none⟩),by simp [upd, *],hW.put (by omega) (by omega) Xe.out.2.2.1.symm⟩
     ·cases ho;have hW:=HI.out;have e2:=(HI.out.val 2 (by omega) (by omega) (UC.out ⟨2,.data⟩ (by simp) rfl)).trans Xe.out.2.2.1;clear UC HI;refine aa rfl fun K HK=>?_;simp only [e2];go_simp;exact HK.out _ _ ⟨Value.pointer (some ⟨D,5,none⟩),by simp [upd, *],hW.put (by omega) (by omega) Xe.out.2.2.2.1.symm⟩
     ·cases ho;have hW:=HI.out;have e3:=(HI.out.val 3 (by omega) (by omega) (UC.out ⟨3,.data⟩ (by simp) rfl)).trans Xe.out.2.2.2.1;have hb':=HI.out.early (.inl Vn);have d4:=(hb'.cell (p:=⟨D,5,none⟩) WB.out.lt).trans WB.out.c5;clear UC HI;refine aa rfl fun K HK=>?_;simp only [e3];go_simp;exact HK.out _ _ ⟨vu,by simp [upd, *],hW.put (by omega) (by omega) Xe.out.2.2.2.2.1.symm⟩
     ·cases ho;have hW:=HI.out;clear UC HI;refine aa rfl fun K HK=>?_;go_simp;exact HK.out _ _ ⟨Value.pointer (some ⟨w.heap.size,3,none⟩),by simp [upd, *],hW.put (by omega) (by omega) Xe.out.2.2.2.2.2.1.symm⟩
     ·cases ho;have hW:=HI.out;have e5:=(HI.out.val 5 (by omega) (by omega) (UC.out ⟨5,.data⟩ (by simp) rfl)).trans Xe.out.2.2.2.2.2.1;have hb':=HI.out.early (.inr Vn);obtain ⟨t0,t1,t2,t3,t4,t5,tl⟩:=WU.out.1.below hb';clear UC HI;refine aa rfl fun K HK=>?_;simp only [e5];go_simp;exact HK.out _ _ ⟨Value.agg #[.string t.c,.string t.d],by simp [upd, *],hW.put (by omega) (by omega) Xe.out.2.2.2.2.2.2.1.symm⟩
     ·cases ho;have hW:=HI.out;have e4:=(HI.out.val 4 (by omega) (by omega) (UC.out ⟨4,.data⟩ (by simp) rfl)).trans Xe.out.2.2.2.2.1;have e6:=(HI.out.val 6 (by omega) (by omega) (UC.out ⟨6,.data⟩ (by simp) rfl)).trans Xe.out.2.2.2.2.2.2.1;have h4:=UC.out ⟨4,.data⟩ (by simp) rfl;have h6:=UC.out ⟨6,.data⟩ (by simp) rfl;have hb':=HI.out.before Vn;have hown:=cO WB.out.users hb';clear UC HI;refine aa rfl fun K HK=>?_;simp only [e4,e6];go_simp;refine (mE (bp + 1) vu xu ⟨t.c,t.d⟩ w' (by omega) (TZ hbz hb'.size) hown).mono ?_;rintro e w2 ⟨v',rfl,hown2,has,hbl⟩;exact HK.out _ _ ⟨v',by simp [upd,e4,e6],hW.call h4 h6 ⟨w',hb',hown2,has,hbl⟩⟩
     ·cases ho;have hW:=HI.out;have e0:=(HI.out.val 0 (by omega) (by omega) (UC.out ⟨0,.data⟩ (by simp) rfl)).trans Xe.out.1;clear UC HI;refine aa rfl fun K HK=>?_;simp only [e0];go_simp;exact HK.out _ _ ⟨Value.pointer (some ⟨D,0,none⟩),by simp [upd, *],hW.put (by omega) (by omega) Xe.out.2.2.2.2.2.2.2.2.1.symm⟩
     cases ho;have hW:=HI.out;have e8:=(HI.out.val 8 (by omega) (by omega) (UC.out ⟨8,.data⟩ (by simp) rfl)).trans Xe.out.2.2.2.2.2.2.2.2.1;have h8:=UC.out ⟨8,.data⟩ (by simp) rfl;clear UC HI;refine aa rfl fun K HK=>?_;simp only [e8];go_simp;exact HK.out _ _ ⟨Value.pointer (some ⟨D,5,none⟩),by simp [upd, *],hW.put (by omega) (fun _=>h8) Xe.out.2.2.2.2.2.2.2.2.2.symm⟩
    case finD =>
     rintro o ho l ft w' hall hI;cases ho;obtain ⟨hval,w1,hb1,hown,has,hbl⟩:=hI.last hall;have e9:=(hval 9 (by omega) (by omega)).trans Xe.out.2.2.2.2.2.2.2.2.2;have VT:=WB.out.below hb1;have hDn:=VT.newU hown has;have Yw:=(WU.out.1.below hb1).aside (by obtain ⟨cur,e⟩:=WU.out.2; exact ⟨cur,(hb1.block _ WU.out.1.2.2.2.2.2.2).trans e⟩) VT.users has;obtain ⟨cur,hkd⟩:=VT.kind;have XL:vu.ownBlock ≠ some D:=fun e=>absurd (dI VT.users e hkd) (by decide);have XN:=(has.block D VT.lt XL).trans hkd;have fz:=fun o=>gJ XN o;have d4:=(Ul (w:=w1) (a:=⟨D,5,none⟩) (has.block D VT.lt XL)).trans VT.c5;obtain ⟨adn,cpn,e7,-⟩:=kE hown;rw [e7] at hown has hDn;obtain ⟨w6,hwn⟩:∃ x,x=w'.setCell ⟨D,5,none⟩ (Value.slice adn (aZ xu ⟨t.c,t.d⟩).length cpn):=⟨_,rfl⟩;rw [← hwn] at hDn;have ZE:=aD hDn;have HT3nnn:Hid (ug w6 w.heap.size t∧∃ cur,w6.heap[w.heap.size]?=some (.cells cur 46 (0,0))):=by
      have hh:w6.heap[w.heap.size]?=w'.heap[w.heap.size]?:=by rw [hwn]; exact heap_setCell_other w' ⟨D,5,none⟩ w.heap.size _ (by show w.heap.size ≠ D; omega)
      obtain ⟨cr,ecr⟩:=Yw.2;exact ⟨Yw.1.block hh (by rw [hwn]; simpa using Yw.1.2.2.2.2.2.2),cr,hh.trans ecr⟩
     have HB3nnn:Hid (Below bp w w6):=by
      have b1:Below bp w w1:=ZC.out.trans (hb1.mono (by omega));have b2:Below bp w w':=b1.trans (hbl bp (fun g hg=>by have:=(VT.users.lt g hg).1; omega) (by have:=hb1.size; omega));show Below _ _ _; rw [hwn]; exact b2.setCell (by show bp≤D; omega) _
     have hsn:w5.heap.size≤w6.heap.size:=by rw [hwn]; have:=hb1.size; have:=has.size; simp; omega
     have YT:bp + 1≤w6.heap.size:=by omega
     clear hval;refine aa rfl fun K HK=>?_;simp only [e9,e7];go_simp;rw [← hwn];refine HK.out _ _ ?_;obtain ⟨vu2,hvu2⟩:∃ v,v=Value.slice adn (aZ xu ⟨t.c,t.d⟩).length cpn:=⟨_,rfl⟩;rw [← hvu2] at ZE ⊢;clear hb1 hown has hbl VT hDn Yw hkd XN XL fz d4 HK K hI hall hwn e9 e7 hvu2 hsn hbz WB WU ZC Xe;obtain ⟨zD0,hz0⟩:∃ y,y=ft 0:=⟨_,rfl⟩;rw [← hz0];obtain ⟨zD1,hz1⟩:∃ y,y=ft 1:=⟨_,rfl⟩;rw [← hz1];obtain ⟨zD2,hz2⟩:∃ y,y=ft 2:=⟨_,rfl⟩;rw [← hz2];obtain ⟨zD3,hz3⟩:∃ y,y=ft 3:=⟨_,rfl⟩;rw [← hz3];obtain ⟨zD4,Xl⟩:∃ y,y=ft 4:=⟨_,rfl⟩;rw [← Xl];obtain ⟨zD5,hz5⟩:∃ y,y=ft 5:=⟨_,rfl⟩;rw [← hz5];obtain ⟨zD6,hz6⟩:∃ y,y=ft 6:=⟨_,rfl⟩;rw [← hz6];obtain ⟨zD8,hz8⟩:∃ y,y=ft 8:=⟨_,rfl⟩;rw [← hz8];clear hz0 hz1 hz2 hz3 Xl hz5 hz6 hz8 ft l
     skip
     go_wp2
     go_end0
     exact ⟨rfl,⟨_,_,_,by rw [HU.out]; exact ZE.out⟩,HB3nnn.out⟩
end Go.Proofs.YtajkkeikihhejaaGreat
