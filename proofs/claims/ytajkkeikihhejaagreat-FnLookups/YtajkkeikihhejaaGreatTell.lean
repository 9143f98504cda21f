/- One more tuple told to the program's data. -/
import Derived.Test.YtajkkeikihhejaaGreatSq
import Derived.Test.YtajkkeikihhejaaGreatJ32
open Go.Proofs.Tryz
set_option maxHeartbeats 80000000
namespace Go.Proofs.YtajkkeikihhejaaGreat
set_option maxRecDepth 100000
set_option linter.unusedVariables false
open Go.ChangeShapes Go.WideShapes Go.ChangeAt Go.RowKit Go.Maps
open Pl
theorem Oz:∃ i,prog.info? 46=some i∧i.zero=some (.agg #[.string ⟨#[]⟩,.string ⟨#[]⟩,.string ⟨#[]⟩,.string ⟨#[]⟩,.string ⟨#[]⟩,.string ⟨#[]⟩])∧i.size=6∧i.bytes=96 :=
 info_parts (P:=prog) (e:=46) (z:=.agg #[.string ⟨#[]⟩,.string ⟨#[]⟩,.string ⟨#[]⟩,.string ⟨#[]⟩,.string ⟨#[]⟩,.string ⟨#[]⟩]) (size:=6) (bytes:=96) (by kernel_rfl)
theorem IK (u:ae):(zeroValue 25).run prog u=.ok (.slice none 0 0) u:=by kernel_rfl
theorem CV {w:ae} {bp np:Nat} {Mp:K3→Option Value} {E:List (K3 × Tp)} (h:G.Grp qH prog 223 46 6 Tp.row w bp np Mp E) (k:K3):w.ownsRow (bp + 1) 46 6 ((Mp k).getD (.slice none 0 0)) (G.lookL E k).length (G.flatG Tp.row (G.lookL E k)):=by
 rcases h.row k with ⟨e,e2⟩ | ⟨v,e,ho⟩
 ·rw [e,e2]; exact World.ownsRow_nil _ _ _ _
 rw [e]; exact ho
theorem news_of_block {w:ae} {g:Nat} {cs:Array Value} {T:TypeId} (h:w.heap[g]?=some (.cells cs T (0,0))):∀ j u,cs.toList[j]?=some u→w.cell? ((⟨g,0,none⟩:Addr).add j)=some u:=by
 intro j u hu;have e:(⟨g,0,none⟩:Addr).add j=⟨g,j,none⟩:=by
  unfold Addr.add;by_cases hj:j=0
  ·subst hj; simp
  simp [hj]
 rw [e];simp [World.cell?,h];simpa using hu
theorem tQ.block {w w':ae} {g:Nat} {t:Tp} (h:tQ w g t) (e:w'.heap[g]?=w.heap[g]?) (hl:g < w'.heap.size):tQ w' g t:=by
 obtain ⟨h0,h1,h2,h3,h4,h5,_⟩:=h;have hc:∀ o,w'.cell? ⟨g,o,none⟩=w.cell? ⟨g,o,none⟩:=fun o=>Tc (w:=w) (a:=⟨g,o,none⟩) e;exact ⟨(hc _).trans h0,(hc _).trans h1,(hc _).trans h2,(hc _).trans h3,(hc _).trans h4,(hc _).trans h5,hl⟩
theorem gT {w:ae} {g:Nat} {cs:Array Value} {T:TypeId} (h:w.heap[g]?=some (.cells cs T (0,0))) (o:Nat):w.frozen? ⟨g,o,none⟩=false:=by
 simp [World.frozen?,h]
theorem tQ.aside {w w':ae} {g base n:Nat} {t:Tp} {v v':Value} {xs:List Value} (h:tQ w g t) (hc:∃ cur,w.heap[g]?=some (.cells cur 46 (0,0))) (ho:w.ownsRow base 27 2 v n xs) (ha:Aside w v w' v'):tQ w' g t∧∃ cur,w'.heap[g]?=some (.cells cur 46 (0,0)):=by
 obtain ⟨cur,e⟩:=hc;have hl:=h.2.2.2.2.2.2;have hb:=ha.block g hl fun hg=>absurd (dH ho hg e) (by decide);exact ⟨h.block hb (Sv hl ha.size),cur,hb.trans e⟩
theorem OA (D br bp:Nat) (tab:Value) (n1:Int) (E:List (K3 × Tp)) (xo xu:List Al) (np:Nat) (Mp:K3→Option Value) (vo vu:Value) (t:Tp) (w:ae) (hd:DatT w D br bp tab n1 E xo xu np Mp vo vu) (hnp:np≤1000) (hE:E.length≤1000) (hxo:xo.length≤500) (hxu:xu.length≤500) (ht:t.fits) :
  Calls prog 101 #[.pointer (some ⟨D,0,none⟩),.agg #[.string t.a,.string t.b,.string t.r,.string t.c,.string t.d,.string t.s]] w fun e w'=>e=.returned (.tuple #[])∧(∃ Mp' WT WV,DatT w' D br bp tab n1 (E ++ [(Lt t,t)]) (iE xo t) (dD xu t) (np + 1) Mp' WT WV)∧Below bp w w':=by
 obtain ⟨iT,h0,h1,h2,h3⟩:=Oz;have HIT:=ax (And.intro h0 (And.intro h1 (And.intro h2 h3)));obtain ⟨W,hW⟩:∃ W,W=(w.alloc (.cells #[.string t.a,.string t.b,.string t.r,.string t.c,.string t.d,.string t.s] 46)).alloc (.cells #[.string t.a,.string t.b,.string t.r] 223):=⟨_,rfl⟩;have TB:Hid (af w W):=by show Below _ _ _; rw [hW]; exact ((Sz _ _).alloc (Sy _) _).alloc (by simp) _
 have hWs:W.heap.size=w.heap.size + 2:=by rw [hW]; simp
 have HT6:Hid (tQ W w.heap.size t):=by show tQ _ _ _; rw [hW]; refine ⟨?_,?_,?_,?_,?_,?_,?_⟩ <;> first | (simp; done) | (simp; omega)
 have HK3:Hid (W.cell? ⟨w.heap.size + 1,0,none⟩=some (.string t.a)∧W.cell? ⟨w.heap.size + 1,1,none⟩=some (.string t.b)∧W.cell? ⟨w.heap.size + 1,2,none⟩=some (.string t.r)):=by show _∧_; rw [hW]; refine ⟨?_,?_,?_⟩ <;> simp
 have HD:=ax (hd.below TB.out);have hDl:D < w.heap.size:=hd.lt;have HFB:Hid (G.FreeB Mp w.heap.size):=hd.told.fresh (Sy _);have Uh:Hid (W.heap[w.heap.size]?=some (.cells #[.string t.a,.string t.b,.string t.r,.string t.c,.string t.d,.string t.s] 46 (0,0))):=by show _=_; rw [hW,Below.heap_alloc _ _ _ (by simp)]; exact heap_alloc_new w _
 have hbD:bp < D:=hd.gt;have Zm:Hid ((G.lookL E (Lt t)).length≤1000):=SF (List.length_filterMap_le _ _) hE;obtain ⟨row0,hr0⟩:∃ r,r=(Mp (Lt t)).getD (.slice none 0 0):=⟨_,rfl⟩;obtain ⟨nn,hnn⟩:∃ n,n=(G.lookL E (Lt t)).length:=⟨_,rfl⟩;obtain ⟨xs,hxs⟩:∃ x,x=G.flatG Tp.row (G.lookL E (Lt t)):=⟨_,rfl⟩;have UN:=ax hr0;have VN:=ax hnn;have WN:=ax hxs;have hnl:nn≤1000:=by rw [hnn]; exact Zm.out
 have UE:Hid (∀ W0:World,af W W0→W0.ownsRow (bp + 1) 46 6 row0 nn xs):=fun W0 hb=>by rw [hr0,hnn,hxs]; exact CV (HD.out.told.below hb) _
 have HKEY:Hid (∃ kl,keyOf prog 223 (qH (Lt t))=some kl):=Ed _ ht.1 ht.2.1 ht.2.2.1;clear h0 h1 h2 h3 hr0 hnn hxs hd hE;obtain ⟨C2,hC2⟩:∃ C:Nat→Value,C=fun n=>(Value.pointer (some ⟨D,0,none⟩)::.pointer (some ⟨D,0,none⟩)::.pointer (some ⟨D,3,none⟩)::.map (some bp)::.agg #[.string t.a,.string t.b,.string t.r]::.agg #[.string t.a,.string t.b,.string t.r,.string t.c,.string t.d,.string t.s]::[]).getD n undef:=⟨_,rfl⟩;have Us:Hid (C2 0=Value.pointer (some ⟨D,0,none⟩)∧C2 1=Value.pointer (some ⟨D,0,none⟩)∧C2 2=Value.pointer (some ⟨D,3,none⟩)∧C2 3=Value.map (some bp)∧C2 4=Value.agg #[.string t.a,.string t.b,.string t.r]∧C2 5=Value.agg #[.string t.a,.string t.b,.string t.r,.string t.c,.string t.d,.string t.s]):=by show _∧_; rw [hC2]; exact ⟨rfl,rfl,rfl,rfl,rfl,rfl⟩
 clear hC2;go_enter func101,ntmps101;go_wp2_with fail;rw [← hW];clear hW;refine pF 11 (fun _=>undef) (fun fq=>{ tmps:=List.toArray (Value.pointer (some ⟨D,0,none⟩)::.agg #[.string t.a,.string t.b,.string t.r,.string t.c,.string t.d,.string t.s]::undef::.pointer (some ⟨w.heap.size,0,none⟩)::.pointer (some ⟨w.heap.size + 1,0,none⟩)::.pointer (some ⟨w.heap.size,0,none⟩)::.agg #[.string t.a,.string t.b]::.pointer (some ⟨w.heap.size,2,none⟩)::.string t.r::.agg #[.string t.a,.string t.b,.string t.r]::(fq 0)::(fq 1)::(fq 2)::(fq 3)::(fq 4)::(fq 8)::(fq 5)::(fq 6)::(fq 7)::(fq 9)::(fq 10)::undef::undef::undef::undef::undef::undef::undef::undef::undef::undef::undef::undef::undef::undef::undef::undef::undef::undef::undef::undef::undef::undef::undef::undef::undef::undef::undef::undef::undef::undef::undef::undef::undef::[]),defers:=[] }) (G.EI C2 #[.string t.a,.string t.b,.string t.r,.string t.c,.string t.d,.string t.s] 46 6 W bp row0 nn xs (G.Back qH prog 223 166 bp np Mp (Lt t))) (by kernel_rfl) rfl (by kernel_rfl) (by kernel_rfl) rfl (G.ei_start W) ?stepA ?finA;case stepA =>
  rintro i hi o ho l fq w' UD hI hpre;have HI:=az hI;have Tz:Hid (∀ e ∈ o.after,Region.binds .any e=true→l e.on=true):=hpre;clear hI hpre;have hc:=Mf (i:=i) (by omega);clear hi
  repeat' rcases hc with rfl | hc
  ·cases ho;have hA:=HI.out.early (i:=0) (by omega) UD;clear Tz HI;refine aa rfl fun K HK=>?_;go_simp;exact HK.out _ _ ⟨Value.pointer (some ⟨D,0,none⟩),by simp [upd, *],hA.put (by omega) Us.out.1.symm⟩
  ·cases ho;have hA:=HI.out.early (i:=1) (by omega) UD;have e0:=(hA.val 0 (by omega) (Tz.out ⟨0,.data⟩ (by simp) rfl)).trans Us.out.1;clear Tz HI;refine aa rfl fun K HK=>?_;simp only [e0];go_simp;exact HK.out _ _ ⟨Value.pointer (some ⟨D,0,none⟩),by simp [upd, *],hA.put (by omega) Us.out.2.1.symm⟩
  ·cases ho;have hA:=HI.out.early (i:=2) (by omega) UD;have e1:=(hA.val 1 (by omega) (Tz.out ⟨1,.data⟩ (by simp) rfl)).trans Us.out.2.1;clear Tz HI;refine aa rfl fun K HK=>?_;simp only [e1];go_simp;exact HK.out _ _ ⟨Value.pointer (some ⟨D,3,none⟩),by simp [upd, *],hA.put (by omega) Us.out.2.2.1.symm⟩
  ·cases ho;have hA:=HI.out.early (i:=3) (by omega) UD;have e2:=(hA.val 2 (by omega) (Tz.out ⟨2,.data⟩ (by simp) rfl)).trans Us.out.2.2.1;have hb':=hA.bel;have d3:=(hb'.cell (p:=⟨D,3,none⟩) (by show D < _; omega)).trans HD.out.c3;clear Tz HI;refine aa rfl fun K HK=>?_;simp only [e2];go_simp;exact HK.out _ _ ⟨Value.map (some bp),by simp [upd, *],hA.put (by omega) Us.out.2.2.2.1.symm⟩
  ·cases ho;have hA:=HI.out.early (i:=4) (by omega) UD;have hb':=hA.bel;have k0:=(hb'.cell (p:=⟨w.heap.size + 1,0,none⟩) (by show w.heap.size + 1 < _; omega)).trans HK3.out.1;have k1:=(hb'.cell (p:=⟨w.heap.size + 1,1,none⟩) (by show w.heap.size + 1 < _; omega)).trans HK3.out.2.1;have k2:=(hb'.cell (p:=⟨w.heap.size + 1,2,none⟩) (by show w.heap.size + 1 < _; omega)).trans HK3.out.2.2;clear Tz HI;refine aa rfl fun K HK=>?_;go_simp;exact HK.out _ _ ⟨Value.agg #[.string t.a,.string t.b,.string t.r],by simp [upd, *],hA.put (by omega) Us.out.2.2.2.2.1.symm⟩
  ·cases ho;have hA:=HI.out.early (i:=5) (by omega) UD;have hb':=hA.bel;obtain ⟨t0,t1,t2,t3,t4,t5,tl⟩:=HT6.out.below hb';clear Tz HI;refine aa rfl fun K HK=>?_;go_simp;exact HK.out _ _ ⟨Value.agg #[.string t.a,.string t.b,.string t.r,.string t.c,.string t.d,.string t.s],by simp [upd, *],hA.put (by omega) Us.out.2.2.2.2.2.symm⟩
  ·cases ho;have hA:=HI.out.early (i:=6) (by omega) UD;have e5:=(hA.val 5 (by omega) (Tz.out ⟨5,.data⟩ (by simp) rfl)).trans Us.out.2.2.2.2.2;clear Tz HI;refine aa rfl fun K HK=>?_;simp only [e5];go_simp;exact HK.out _ _ ⟨_,by simp [upd,e5],hA.lay⟩
  ·cases ho;have hA:=HI.out.early (i:=7) (by omega) UD;have e3:=(hA.val 3 (by omega) (Tz.out ⟨3,.data⟩ (by simp) rfl)).trans Us.out.2.2.2.1;have e4:=(hA.val 4 (by omega) (Tz.out ⟨4,.data⟩ (by simp) rfl)).trans Us.out.2.2.2.2.1;have hall:∀ k,k≤6→l k=true:=fun k hk=>by
    have hc:=RD (i:=k) (by omega)
    repeat' rcases hc with rfl | hc
    ·exact Tz.out ⟨0,.phase⟩ (by simp) rfl
    ·exact Tz.out ⟨1,.phase⟩ (by simp) rfl
    ·exact Tz.out ⟨2,.phase⟩ (by simp) rfl
    ·exact Tz.out ⟨3,.phase⟩ (by simp) rfl
    ·exact Tz.out ⟨4,.phase⟩ (by simp) rfl
    ·exact Tz.out ⟨5,.phase⟩ (by simp) rfl
    exact Tz.out ⟨6,.phase⟩ (by simp) rfl
   have hD':=HD.out.below hA.bel;obtain ⟨kl,hkl⟩:=HKEY.out;obtain ⟨st,w1,hrun,hg,hback⟩:=hD'.told.map.entry Ov Ou underlying166 IK (by unfold maxLen; omega) hkl;rw [← UN.out] at hrun;have hrun':(Instr.mapEntry 166 (.map (some bp)) (Value.agg #[.string t.a,.string t.b,.string t.r])).run prog w'=.ok (.tuple #[row0,goInt st]) w1:=hrun;clear Tz HI;refine aa rfl fun K HK=>?_;simp only [e3,e4];go_simp;exact HK.out _ _ ⟨_,by simp [upd,e3,e4,goInt],hA.took hall hg hback⟩
  ·cases ho;have h7:=Tz.out ⟨7,.data⟩ (by simp) rfl;have hB:=HI.out.midB h7 (i:=8) (by omega) UD;obtain ⟨st,e7⟩:=HI.out.seven h7;clear Tz HI;refine aa rfl fun K HK=>?_;simp only [e7];go_simp;exact HK.out _ _ ⟨_,by simp [upd,e7,goInt],hB.first⟩
  ·cases ho;have h7:=Tz.out ⟨7,.chain⟩ (by simp) rfl;have h8:=Tz.out ⟨8,.data⟩ (by simp) rfl;have hB:=HI.out.midB h7 (i:=9) (by omega) UD;obtain ⟨W0,st,g,hm1,hm2,V7,X7,VO,e7,hm7,ZU,hm9⟩:=hB.mid;have e8:=ZU h8;have hown:=(UE.out W0 hm1).kept VO (by
    rcases h:row0.ownBlock with _ | g'
    ·exact .inl rfl
    right; intro e; injection e with e; have:=((UE.out W0 hm1).lt g' h).1; omega)
   have hnew:w'.heap[g]?=some (.cells #[.string t.a,.string t.b,.string t.r,.string t.c,.string t.d,.string t.s] 46 (0,0)):=by
    have hgl:g < W0.heap.size:=by
     rcases Nat.lt_or_ge g W0.heap.size with h | h
     ·exact h
     rw [Array.getElem?_eq_none h] at X7; cases X7
    rw [VO.block g hgl (fun e=>by injection e with e; omega)]; exact X7
   clear Tz HI;refine kP w' rfl rfl _ _ 25 rfl (bp + 1) 46 iT _ 6 96 underlying25 HIT.out.1 HIT.out.2.1 HIT.out.2.2.1 HIT.out.2.2.2 rfl (by decide) row0 nn xs (by simp [Act.eval,e8]) hown ⟨g,0,none⟩ 1 1 [Value.string t.a,.string t.b,.string t.r,.string t.c,.string t.d,.string t.s] (by simp [Act.eval,hm2]) rfl (fun j u hu=>news_of_block hnew j u hu) (by simp [Value.oneCell']) (by unfold maxLen; omega) (by omega) (by have:=VO.size; have:=hm1.size; omega) ?_;intro v' w2 hown2 Ug YO;exact ⟨v',by simp [upd,Act.put],hB.app h8 Ug hown2 YO⟩
  cases ho;have h7:=Tz.out ⟨7,.data⟩ (by simp) rfl;obtain ⟨st,e7⟩:=HI.out.seven h7;have HI2:=HI.out.second h7 e7;clear Tz HI;refine aa rfl fun K HK=>?_;simp only [e7];go_simp;exact HK.out _ _ ⟨_,by simp [upd,e7,goInt],HI2⟩
 case finA =>
  rintro o ho l fq w' hall hI;obtain rfl:=Option.some.inj ho;have hC:=hI.last hall;obtain ⟨W0,w1,st,hm1,hm2,V7,X7,VO,hm6,-,ZU⟩:=hC.mid;have e10:=ZU (hall 10 (by omega));have e3:=(hC.val 3 (by omega)).trans Us.out.2.2.2.1;obtain ⟨w3,hrun,hM3,hg3⟩:=hm6 w' (fq 9) (V7.block bp (by have:=hm2.size; have:=hm1.size; omega) (fun e=>by have:=(UE.out W0 hm1).lt bp e.symm; omega));have hst:=(HD.out.told.below hm1).step (y:=Lt t) (s:=t) hm2 (by rw [← VN.out,← WN.out]; exact X7) (by rw [← UN.out]; exact V7) (by rw [← UN.out]; exact VO) hg3 hM3;have HD3:=ax ((HD.out.below hm1).tell hst.1 hst.2);have HB3:Hid (Below bp w w3):=by
   have b0:Below bp w W0:=(TB.out.trans (hm1.mono TB.out.size)).mono (by omega);have b1:Below bp w w1:=b0.grown hm2 (by have:=hm1.size; omega) (fun i hi=>by injection hi with hi; omega);have b2:Below bp w w':=b1.grown V7 (by have:=hm2.size; have:=hm1.size; omega) (fun i hi=>by have:=((UE.out W0 hm1).lt i hi).1; omega);exact b2.grown hg3 (by have:=V7.size; have:=hm2.size; have:=hm1.size; omega) (fun i hi=>by injection hi with hi; omega)
  have hz3:W.heap.size≤w3.heap.size:=by have:=hg3.size; have:=V7.size; have:=hm2.size; have:=hm1.size; omega
  have hbx3:w3.heap[w.heap.size]?=some (.cells #[.string t.a,.string t.b,.string t.r,.string t.c,.string t.d,.string t.s] 46 (0,0)):=by
   rw [hst.2.block w.heap.size (by have:=hm1.size; omega) (by omega) HFB.out,hm1.block w.heap.size (by omega)]; exact Uh.out
  have HT3:Hid (tQ w3 w.heap.size t∧∃ cur,w3.heap[w.heap.size]?=some (.cells cur 46 (0,0))):=⟨HT6.out.block (by rw [hbx3,Uh.out]) (by omega),_,hbx3⟩;have Vb:(Instr.entryStore 166 (.map (some bp)) (.int .i64 st) (fq 9)).run prog w'=.ok () w3:=hrun;obtain ⟨Mn,ZV⟩:∃ M,M=lm Mp (Lt t) (some (fq 9)):=⟨_,rfl⟩;rw [← ZV] at HD3;refine aa rfl fun K HK=>?_;simp only [e3,e10];go_simp;refine HK.out _ _ ?_;clear hst hrun Vb hM3 hg3 hm1 hm2 V7 X7 VO hm6 ZU hC hI hall ho HK K e3 e10 HD HT6 HK3 TB UE Uh Us HKEY HFB ZV UN VN WN hbx3;obtain ⟨y0,hy0⟩:∃ y,y=fq 0:=⟨_,rfl⟩;rw [← hy0];obtain ⟨y1,hy1⟩:∃ y,y=fq 1:=⟨_,rfl⟩;rw [← hy1];obtain ⟨y2,hy2⟩:∃ y,y=fq 2:=⟨_,rfl⟩;rw [← hy2];obtain ⟨y4,hy4⟩:∃ y,y=fq 4:=⟨_,rfl⟩;rw [← hy4];obtain ⟨y8,hy8⟩:∃ y,y=fq 8:=⟨_,rfl⟩;rw [← hy8];obtain ⟨y5,hy5⟩:∃ y,y=fq 5:=⟨_,rfl⟩;rw [← hy5];obtain ⟨y6,hy6⟩:∃ y,y=fq 6:=⟨_,rfl⟩;rw [← hy6];obtain ⟨y7,hy7⟩:∃ y,y=fq 7:=⟨_,rfl⟩;rw [← hy7];obtain ⟨y9,hy9⟩:∃ y,y=fq 9:=⟨_,rfl⟩;rw [← hy9];clear hy0 hy1 hy2 hy4 hy8 hy5 hy6 hy7 hy9 fq l hz3;go_wp2_with fail;have hbz:bp + 1≤w3.heap.size:=by have:=HD3.out.lt; have:=HD3.out.gt; omega
  have hx1:(aW xo ⟨t.a,t.b⟩).length≤501:=by have:=nZ xo ⟨t.a,t.b⟩; omega
  obtain ⟨CB,hCB⟩:∃ C:Nat→Value,C=fun n=>(Value.pointer (some ⟨D,0,none⟩)::.pointer (some ⟨D,0,none⟩)::.pointer (some ⟨D,0,none⟩)::.pointer (some ⟨D,4,none⟩)::vo::.pointer (some ⟨w.heap.size,0,none⟩)::.agg #[.string t.a,.string t.b]::undef::.pointer (some ⟨D,0,none⟩)::.pointer (some ⟨D,4,none⟩)::[]).getD n undef:=⟨_,rfl⟩;have Wo:Hid (CB 0=Value.pointer (some ⟨D,0,none⟩)∧CB 1=Value.pointer (some ⟨D,0,none⟩)∧CB 2=Value.pointer (some ⟨D,0,none⟩)∧CB 3=Value.pointer (some ⟨D,4,none⟩)∧CB 4=vo∧CB 5=Value.pointer (some ⟨w.heap.size,0,none⟩)∧CB 6=Value.agg #[.string t.a,.string t.b]∧CB 7=undef∧CB 8=Value.pointer (some ⟨D,0,none⟩)∧CB 9=Value.pointer (some ⟨D,4,none⟩)):=by show _∧_; rw [hCB]; exact ⟨rfl,rfl,rfl,rfl,rfl,rfl,rfl,rfl,rfl,rfl⟩
  clear hCB;refine jX 10 (fun _=>undef) (fun fr=>{ tmps:=List.toArray (Value.pointer (some ⟨D,0,none⟩)::.agg #[.string t.a,.string t.b,.string t.r,.string t.c,.string t.d,.string t.s]::undef::.pointer (some ⟨w.heap.size,0,none⟩)::.pointer (some ⟨w.heap.size + 1,0,none⟩)::.pointer (some ⟨w.heap.size,0,none⟩)::.agg #[.string t.a,.string t.b]::.pointer (some ⟨w.heap.size,2,none⟩)::.string t.r::.agg #[.string t.a,.string t.b,.string t.r]::y0::y1::y2::.map (some bp)::y4::y8::y5::y6::y7::y9::.int .i64 st::(fr 0)::(fr 1)::(fr 2)::(fr 3)::(fr 4)::(fr 5)::(fr 6)::(fr 7)::(fr 8)::(fr 9)::undef::undef::undef::undef::undef::undef::undef::undef::undef::undef::undef::undef::undef::undef::undef::undef::undef::undef::undef::undef::undef::undef::undef::[]),defers:=[] }) (G.WI CB w3 (fun v' w'=>∃ w1,af w3 w1∧w'.ownsRow (bp + 1) 27 2 v' (aW xo ⟨t.a,t.b⟩).length (pairs (aW xo ⟨t.a,t.b⟩))∧Aside w1 vo w' v'∧∀ B',(∀ g,vo.ownBlock=some g→B'≤g)→B'≤w1.heap.size→Below B' w1 w')) (by kernel_rfl) rfl (by kernel_rfl) (fun o ho l f w' hI hp=>?clB) rfl (G.wi_start w3) ?xK ?finB;case clB =>
   cases ho;intro k hk;have h9:=hp ⟨9,.data⟩ (by simp) rfl;have hc:=wT (i:=k) (by omega)
   repeat' rcases hc with rfl | hc
   ·exact hp ⟨0,.phase⟩ (by simp) rfl
   ·exact hp ⟨1,.phase⟩ (by simp) rfl
   ·exact hp ⟨2,.phase⟩ (by simp) rfl
   ·exact hp ⟨3,.phase⟩ (by simp) rfl
   ·exact hp ⟨4,.phase⟩ (by simp) rfl
   ·exact hp ⟨5,.phase⟩ (by simp) rfl
   ·exact hp ⟨6,.phase⟩ (by simp) rfl
   ·exact hp ⟨7,.phase⟩ (by simp) rfl
   ·exact hI.nin h9
   exact h9
  case xK =>
   rintro i hi o ho l fr w' UD hI hpre;have HI:Hid (G.WI CB w3 (fun v' w'=>∃ w1,af w3 w1∧w'.ownsRow (bp + 1) 27 2 v' (aW xo ⟨t.a,t.b⟩).length (pairs (aW xo ⟨t.a,t.b⟩))∧Aside w1 vo w' v'∧∀ B',(∀ g,vo.ownBlock=some g→B'≤g)→B'≤w1.heap.size→Below B' w1 w') l fr w'):=hI;have Tz:Hid (∀ e ∈ o.after,Region.binds .any e=true→l e.on=true):=hpre;clear hI hpre;have hc:=wT (i:=i) (by omega);clear hi
   repeat' rcases hc with rfl | hc
   ·cases ho;have hW:=HI.out;clear Tz HI;refine aa rfl fun K HK=>?_;go_simp;exact HK.out _ _ ⟨Value.pointer (some ⟨D,0,none⟩),by simp [upd, *],hW.put (by omega) (by omega) Wo.out.1.symm⟩
   ·cases ho;have hW:=HI.out;clear Tz HI;refine aa rfl fun K HK=>?_;go_simp;exact HK.out _ _ ⟨Value.pointer (some ⟨D,0,none⟩),by simp [upd, *],hW.put (by omega) (by omega) Wo.out.2.1.symm⟩
   ·cases ho;have hW:=HI.out;have e1:=(HI.out.val 1 (by omega) (by omega) (Tz.out ⟨1,.data⟩ (by simp) rfl)).trans Wo.out.2.1;clear Tz HI;refine aa rfl fun K HK=>?_;simp only [e1];go_simp;exact HK.out _ _ ⟨Value.pointer (some ⟨D,0,none⟩),by simp [upd, *],hW.put (by omega) (by omega) Wo.out.2.2.1.symm⟩
   ·cases ho;have hW:=HI.out;have e2:=(HI.out.val 2 (by omega) (by omega) (Tz.out ⟨2,.data⟩ (by simp) rfl)).trans Wo.out.2.2.1;clear Tz HI;refine aa rfl fun K HK=>?_;simp only [e2];go_simp;exact HK.out _ _ ⟨Value.pointer (some ⟨D,4,none⟩),by simp [upd, *],hW.put (by omega) (by omega) Wo.out.2.2.2.1.symm⟩
   ·cases ho;have hW:=HI.out;have e3:=(HI.out.val 3 (by omega) (by omega) (Tz.out ⟨3,.data⟩ (by simp) rfl)).trans Wo.out.2.2.2.1;have hb':=HI.out.early (.inl UD);have d4:=(hb'.cell (p:=⟨D,4,none⟩) HD3.out.lt).trans HD3.out.c4;clear Tz HI;refine aa rfl fun K HK=>?_;simp only [e3];go_simp;exact HK.out _ _ ⟨vo,by simp [upd, *],hW.put (by omega) (by omega) Wo.out.2.2.2.2.1.symm⟩
   ·cases ho;have hW:=HI.out;clear Tz HI;refine aa rfl fun K HK=>?_;go_simp;exact HK.out _ _ ⟨Value.pointer (some ⟨w.heap.size,0,none⟩),by simp [upd, *],hW.put (by omega) (by omega) Wo.out.2.2.2.2.2.1.symm⟩
   ·cases ho;have hW:=HI.out;have e5:=(HI.out.val 5 (by omega) (by omega) (Tz.out ⟨5,.data⟩ (by simp) rfl)).trans Wo.out.2.2.2.2.2.1;have hb':=HI.out.early (.inr UD);obtain ⟨t0,t1,t2,t3,t4,t5,tl⟩:=HT3.out.1.below hb';clear Tz HI;refine aa rfl fun K HK=>?_;simp only [e5];go_simp;exact HK.out _ _ ⟨Value.agg #[.string t.a,.string t.b],by simp [upd, *],hW.put (by omega) (by omega) Wo.out.2.2.2.2.2.2.1.symm⟩
   ·cases ho;have hW:=HI.out;have e4:=(HI.out.val 4 (by omega) (by omega) (Tz.out ⟨4,.data⟩ (by simp) rfl)).trans Wo.out.2.2.2.2.1;have e6:=(HI.out.val 6 (by omega) (by omega) (Tz.out ⟨6,.data⟩ (by simp) rfl)).trans Wo.out.2.2.2.2.2.2.1;have h4:=Tz.out ⟨4,.data⟩ (by simp) rfl;have h6:=Tz.out ⟨6,.data⟩ (by simp) rfl;have hb':=HI.out.before UD;have hown:=aK HD3.out.objs hb';clear Tz HI;refine aa rfl fun K HK=>?_;simp only [e4,e6];go_simp;refine (mh (bp + 1) vo xo ⟨t.a,t.b⟩ w' (by omega) (SF hbz hb'.size) hown).mono ?_;rintro e w2 ⟨v',rfl,hown2,has,hbl⟩;exact HK.out _ _ ⟨v',by simp [upd,e4,e6],hW.call h4 h6 ⟨w',hb',hown2,has,hbl⟩⟩
   ·cases ho;have hW:=HI.out;have e0:=(HI.out.val 0 (by omega) (by omega) (Tz.out ⟨0,.data⟩ (by simp) rfl)).trans Wo.out.1;clear Tz HI;refine aa rfl fun K HK=>?_;simp only [e0];go_simp;exact HK.out _ _ ⟨Value.pointer (some ⟨D,0,none⟩),by simp [upd, *],hW.put (by omega) (by omega) Wo.out.2.2.2.2.2.2.2.2.1.symm⟩
   cases ho;have hW:=HI.out;have e8:=(HI.out.val 8 (by omega) (by omega) (Tz.out ⟨8,.data⟩ (by simp) rfl)).trans Wo.out.2.2.2.2.2.2.2.2.1;have h8:=Tz.out ⟨8,.data⟩ (by simp) rfl;clear Tz HI;refine aa rfl fun K HK=>?_;simp only [e8];go_simp;exact HK.out _ _ ⟨Value.pointer (some ⟨D,4,none⟩),by simp [upd, *],hW.put (by omega) (fun _=>h8) Wo.out.2.2.2.2.2.2.2.2.2.symm⟩
  case finB =>
   rintro o ho l fr w' hall hI;obtain rfl:=Option.some.inj ho;obtain ⟨hval,w1,hb1,hown,has,hbl⟩:=hI.last hall;have e9:=(hval 9 (by omega) (by omega)).trans Wo.out.2.2.2.2.2.2.2.2.2;have U8:=HD3.out.below hb1;have hDn:=U8.newO hown has;have XF:=(HT3.out.1.below hb1).aside (by obtain ⟨cur,e⟩:=HT3.out.2; exact ⟨cur,(hb1.block _ HT3.out.1.2.2.2.2.2.2).trans e⟩) U8.objs has;obtain ⟨cur,hkd⟩:=U8.kind;have WU:vo.ownBlock ≠ some D:=fun e=>absurd (dH U8.objs e hkd) (by decide);have WW:=(has.block D U8.lt WU).trans hkd;have fz:=fun o=>gT WW o;have d4:=(Tc (w:=w1) (a:=⟨D,4,none⟩) (has.block D U8.lt WU)).trans U8.c4;obtain ⟨adn,cpn,e7,-⟩:=gP hown;rw [e7] at hown has hDn;obtain ⟨w4,hwn⟩:∃ x,x=w'.setCell ⟨D,4,none⟩ (Value.slice adn (aW xo ⟨t.a,t.b⟩).length cpn):=⟨_,rfl⟩;rw [← hwn] at hDn;have X8:=ax hDn;have YP:Hid (tQ w4 w.heap.size t∧∃ cur,w4.heap[w.heap.size]?=some (.cells cur 46 (0,0))):=by
    have hh:w4.heap[w.heap.size]?=w'.heap[w.heap.size]?:=by rw [hwn]; exact heap_setCell_other w' ⟨D,4,none⟩ w.heap.size _ (by show w.heap.size ≠ D; omega)
    obtain ⟨cr,ecr⟩:=XF.2;exact ⟨XF.1.block hh (by rw [hwn]; simpa using XF.1.2.2.2.2.2.2),cr,hh.trans ecr⟩
   have HB3n:Hid (Below bp w w4):=by
    have b1:Below bp w w1:=HB3.out.trans (hb1.mono (by omega));have b2:Below bp w w':=b1.trans (hbl bp (fun g hg=>by have:=(U8.objs.lt g hg).1; omega) (by have:=hb1.size; omega));show Below _ _ _; rw [hwn]; exact b2.setCell (by show bp≤D; omega) _
   have hsn:w3.heap.size≤w4.heap.size:=by rw [hwn]; have:=hb1.size; have:=has.size; simp; omega
   have X9:bp + 1≤w4.heap.size:=by omega
   clear hval;refine aa rfl fun K HK=>?_;simp only [e9,e7];go_simp;rw [← hwn];refine HK.out _ _ ?_;obtain ⟨YQ,hvo1⟩:∃ v,v=Value.slice adn (aW xo ⟨t.a,t.b⟩).length cpn:=⟨_,rfl⟩;rw [← hvo1] at X8 ⊢;clear hb1 hown has hbl U8 hDn XF hkd WW WU fz d4 HK K hI hall ho hwn e9 e7 hvo1 hsn hbz HD3 HT3 HB3 Wo;obtain ⟨zB0,hz0⟩:∃ y,y=fr 0:=⟨_,rfl⟩;rw [← hz0];obtain ⟨zB1,hz1⟩:∃ y,y=fr 1:=⟨_,rfl⟩;rw [← hz1];obtain ⟨zB2,hz2⟩:∃ y,y=fr 2:=⟨_,rfl⟩;rw [← hz2];obtain ⟨zB3,hz3⟩:∃ y,y=fr 3:=⟨_,rfl⟩;rw [← hz3];obtain ⟨zB4,Ww⟩:∃ y,y=fr 4:=⟨_,rfl⟩;rw [← Ww];obtain ⟨zB5,hz5⟩:∃ y,y=fr 5:=⟨_,rfl⟩;rw [← hz5];obtain ⟨zB6,hz6⟩:∃ y,y=fr 6:=⟨_,rfl⟩;rw [← hz6];obtain ⟨zB8,hz8⟩:∃ y,y=fr 8:=⟨_,rfl⟩;rw [← hz8];clear hz0 hz1 hz2 hz3 Ww hz5 hz6 hz8 fr l
   skip
   have hbz:=X9;clear X9;go_wp2_with fail;obtain ⟨CC,hCC⟩:∃ C:Nat→Value,C=fun n=>(Value.pointer (some ⟨D,0,none⟩)::.pointer (some ⟨D,0,none⟩)::.pointer (some ⟨D,0,none⟩)::.pointer (some ⟨D,4,none⟩)::YQ::.pointer (some ⟨w.heap.size,3,none⟩)::.agg #[.string t.c,.string t.d]::undef::.pointer (some ⟨D,0,none⟩)::.pointer (some ⟨D,4,none⟩)::[]).getD n undef:=⟨_,rfl⟩;have UW:Hid (CC 0=Value.pointer (some ⟨D,0,none⟩)∧CC 1=Value.pointer (some ⟨D,0,none⟩)∧CC 2=Value.pointer (some ⟨D,0,none⟩)∧CC 3=Value.pointer (some ⟨D,4,none⟩)∧CC 4=YQ∧CC 5=Value.pointer (some ⟨w.heap.size,3,none⟩)∧CC 6=Value.agg #[.string t.c,.string t.d]∧CC 7=undef∧CC 8=Value.pointer (some ⟨D,0,none⟩)∧CC 9=Value.pointer (some ⟨D,4,none⟩)):=by show _∧_; rw [hCC]; exact ⟨rfl,rfl,rfl,rfl,rfl,rfl,rfl,rfl,rfl,rfl⟩
   clear hCC;refine jX 10 (fun _=>undef) (fun fs=>{ tmps:=List.toArray (Value.pointer (some ⟨D,0,none⟩)::.agg #[.string t.a,.string t.b,.string t.r,.string t.c,.string t.d,.string t.s]::undef::.pointer (some ⟨w.heap.size,0,none⟩)::.pointer (some ⟨w.heap.size + 1,0,none⟩)::.pointer (some ⟨w.heap.size,0,none⟩)::.agg #[.string t.a,.string t.b]::.pointer (some ⟨w.heap.size,2,none⟩)::.string t.r::.agg #[.string t.a,.string t.b,.string t.r]::y0::y1::y2::.map (some bp)::y4::y8::y5::y6::y7::y9::.int .i64 st::zB0::zB1::zB2::zB3::zB4::zB5::zB6::YQ::zB8::.pointer (some ⟨D,4,none⟩)::(fs 0)::(fs 1)::(fs 2)::(fs 3)::(fs 4)::(fs 5)::(fs 6)::(fs 7)::(fs 8)::(fs 9)::undef::undef::undef::undef::undef::undef::undef::undef::undef::undef::undef::undef::undef::[]),defers:=[] }) (G.WI CC w4 (fun v' w'=>∃ w1,af w4 w1∧w'.ownsRow (bp + 1) 27 2 v' (aW (aW xo ⟨t.a,t.b⟩) ⟨t.c,t.d⟩).length (pairs (aW (aW xo ⟨t.a,t.b⟩) ⟨t.c,t.d⟩))∧Aside w1 YQ w' v'∧∀ B',(∀ g,YQ.ownBlock=some g→B'≤g)→B'≤w1.heap.size→Below B' w1 w')) (by kernel_rfl) rfl (by kernel_rfl) (fun o ho l f w' hI hp=>?clC) rfl (G.wi_start w4) ?stepC ?finC;case clC =>
    cases ho;intro k hk;have h9:=hp ⟨9,.data⟩ (by simp) rfl;have hc:=wT (i:=k) (by omega)
    repeat' rcases hc with rfl | hc
    ·exact hp ⟨0,.phase⟩ (by simp) rfl
    ·exact hp ⟨1,.phase⟩ (by simp) rfl
    ·exact hp ⟨2,.phase⟩ (by simp) rfl
    ·exact hp ⟨3,.phase⟩ (by simp) rfl
    ·exact hp ⟨4,.phase⟩ (by simp) rfl
    ·exact hp ⟨5,.phase⟩ (by simp) rfl
    ·exact hp ⟨6,.phase⟩ (by simp) rfl
    ·exact hp ⟨7,.phase⟩ (by simp) rfl
    ·exact hI.nin h9
    exact h9
   case stepC =>
    rintro i hi o ho l fs w' UD hI hpre;have HI:Hid (G.WI CC w4 (fun v' w'=>∃ w1,af w4 w1∧w'.ownsRow (bp + 1) 27 2 v' (aW (aW xo ⟨t.a,t.b⟩) ⟨t.c,t.d⟩).length (pairs (aW (aW xo ⟨t.a,t.b⟩) ⟨t.c,t.d⟩))∧Aside w1 YQ w' v'∧∀ B',(∀ g,YQ.ownBlock=some g→B'≤g)→B'≤w1.heap.size→Below B' w1 w') l fs w'):=hI;have Tz:Hid (∀ e ∈ o.after,Region.binds .any e=true→l e.on=true):=hpre;clear hI hpre;have hc:=wT (i:=i) (by omega);clear hi
    repeat' rcases hc with rfl | hc
    ·cases ho;have hW:=HI.out;clear Tz HI;refine aa rfl fun K HK=>?_;go_simp;exact HK.out _ _ ⟨Value.pointer (some ⟨D,0,none⟩),by simp [upd, *],hW.put (by omega) (by omega) UW.out.1.symm⟩
    ·cases ho;have hW:=HI.out;clear Tz HI;refine aa rfl fun K HK=>?_;go_simp;exact HK.out _ _ ⟨Value.pointer (some ⟨D,0,none⟩),by simp [upd, *],hW.put (by omega) (by omega) UW.out.2.1.symm⟩
    ·cases ho;have hW:=HI.out;have e1:=(HI.out.val 1 (by omega) (by omega) (Tz.out ⟨1,.data⟩ (by simp) rfl)).trans UW.out.2.1;clear Tz HI;refine aa rfl fun K HK=>?_;simp only [e1];go_simp;exact HK.out _ _ ⟨Value.pointer (some ⟨D,0,none⟩),by simp [upd, *],hW.put (by omega) (by omega) UW.out.2.2.1.symm⟩
    ·cases ho;have hW:=HI.out;have e2:=(HI.out.val 2 (by omega) (by omega) (Tz.out ⟨2,.data⟩ (by simp) rfl)).trans UW.out.2.2.1;clear Tz HI;refine aa rfl fun K HK=>?_;simp only [e2];go_simp;exact HK.out _ _ ⟨Value.pointer (some ⟨D,4,none⟩),by simp [upd, *],hW.put (by omega) (by omega) UW.out.2.2.2.1.symm⟩
    ·cases ho;have hW:=HI.out;have e3:=(HI.out.val 3 (by omega) (by omega) (Tz.out ⟨3,.data⟩ (by simp) rfl)).trans UW.out.2.2.2.1;have hb':=HI.out.early (.inl UD);have d4:=(hb'.cell (p:=⟨D,4,none⟩) X8.out.lt).trans X8.out.c4;clear Tz HI;refine aa rfl fun K HK=>?_;simp only [e3];go_simp;exact HK.out _ _ ⟨YQ,by simp [upd, *],hW.put (by omega) (by omega) UW.out.2.2.2.2.1.symm⟩
    ·cases ho;have hW:=HI.out;clear Tz HI;refine aa rfl fun K HK=>?_;go_simp;exact HK.out _ _ ⟨Value.pointer (some ⟨w.heap.size,3,none⟩),by simp [upd, *],hW.put (by omega) (by omega) UW.out.2.2.2.2.2.1.symm⟩
    ·cases ho;have hW:=HI.out;have e5:=(HI.out.val 5 (by omega) (by omega) (Tz.out ⟨5,.data⟩ (by simp) rfl)).trans UW.out.2.2.2.2.2.1;have hb':=HI.out.early (.inr UD);obtain ⟨t0,t1,t2,t3,t4,t5,tl⟩:=YP.out.1.below hb';clear Tz HI;refine aa rfl fun K HK=>?_;simp only [e5];go_simp;exact HK.out _ _ ⟨Value.agg #[.string t.c,.string t.d],by simp [upd, *],hW.put (by omega) (by omega) UW.out.2.2.2.2.2.2.1.symm⟩
    ·cases ho;have hW:=HI.out;have e4:=(HI.out.val 4 (by omega) (by omega) (Tz.out ⟨4,.data⟩ (by simp) rfl)).trans UW.out.2.2.2.2.1;have e6:=(HI.out.val 6 (by omega) (by omega) (Tz.out ⟨6,.data⟩ (by simp) rfl)).trans UW.out.2.2.2.2.2.2.1;have h4:=Tz.out ⟨4,.data⟩ (by simp) rfl;have h6:=Tz.out ⟨6,.data⟩ (by simp) rfl;have hb':=HI.out.before UD;have hown:=aK X8.out.objs hb';clear Tz HI;refine aa rfl fun K HK=>?_;simp only [e4,e6];go_simp;refine (mh (bp + 1) YQ (aW xo ⟨t.a,t.b⟩) ⟨t.c,t.d⟩ w' (by omega) (SF hbz hb'.size) hown).mono ?_;rintro e w2 ⟨v',rfl,hown2,has,hbl⟩;exact HK.out _ _ ⟨v',by simp [upd,e4,e6],hW.call h4 h6 ⟨w',hb',hown2,has,hbl⟩⟩
    ·cases ho;have hW:=HI.out;have e0:=(HI.out.val 0 (by omega) (by omega) (Tz.out ⟨0,.data⟩ (by simp) rfl)).trans UW.out.1;clear Tz HI;refine aa rfl fun K HK=>?_;simp only [e0];go_simp;exact HK.out _ _ ⟨Value.pointer (some ⟨D,0,none⟩),by simp [upd, *],hW.put (by omega) (by omega) UW.out.2.2.2.2.2.2.2.2.1.symm⟩
    cases ho;have hW:=HI.out;have e8:=(HI.out.val 8 (by omega) (by omega) (Tz.out ⟨8,.data⟩ (by simp) rfl)).trans UW.out.2.2.2.2.2.2.2.2.1;have h8:=Tz.out ⟨8,.data⟩ (by simp) rfl;clear Tz HI;refine aa rfl fun K HK=>?_;simp only [e8];go_simp;exact HK.out _ _ ⟨Value.pointer (some ⟨D,4,none⟩),by simp [upd, *],hW.put (by omega) (fun _=>h8) UW.out.2.2.2.2.2.2.2.2.2.symm⟩
   case finC =>
    rintro o ho l fs w' hall hI;obtain rfl:=Option.some.inj ho;obtain ⟨hval,w1,hb1,hown,has,hbl⟩:=hI.last hall;have e9:=(hval 9 (by omega) (by omega)).trans UW.out.2.2.2.2.2.2.2.2.2;have U8:=X8.out.below hb1;have hDn:=U8.newO hown has;have XF:=(YP.out.1.below hb1).aside (by obtain ⟨cur,e⟩:=YP.out.2; exact ⟨cur,(hb1.block _ YP.out.1.2.2.2.2.2.2).trans e⟩) U8.objs has;obtain ⟨cur,hkd⟩:=U8.kind;have WU:YQ.ownBlock ≠ some D:=fun e=>absurd (dH U8.objs e hkd) (by decide);have WW:=(has.block D U8.lt WU).trans hkd;have fz:=fun o=>gT WW o;have d4:=(Tc (w:=w1) (a:=⟨D,4,none⟩) (has.block D U8.lt WU)).trans U8.c4;obtain ⟨adn,cpn,e7,-⟩:=gP hown;rw [e7] at hown has hDn;obtain ⟨w5,hwn⟩:∃ x,x=w'.setCell ⟨D,4,none⟩ (Value.slice adn (aW (aW xo ⟨t.a,t.b⟩) ⟨t.c,t.d⟩).length cpn):=⟨_,rfl⟩;rw [← hwn] at hDn;have VJ:=ax hDn;have V8:Hid (tQ w5 w.heap.size t∧∃ cur,w5.heap[w.heap.size]?=some (.cells cur 46 (0,0))):=by
     have hh:w5.heap[w.heap.size]?=w'.heap[w.heap.size]?:=by rw [hwn]; exact heap_setCell_other w' ⟨D,4,none⟩ w.heap.size _ (by show w.heap.size ≠ D; omega)
     obtain ⟨cr,ecr⟩:=XF.2;exact ⟨XF.1.block hh (by rw [hwn]; simpa using XF.1.2.2.2.2.2.2),cr,hh.trans ecr⟩
    have YR:Hid (Below bp w w5):=by
     have b1:Below bp w w1:=HB3n.out.trans (hb1.mono (by omega));have b2:Below bp w w':=b1.trans (hbl bp (fun g hg=>by have:=(U8.objs.lt g hg).1; omega) (by have:=hb1.size; omega));show Below _ _ _; rw [hwn]; exact b2.setCell (by show bp≤D; omega) _
    have hsn:w4.heap.size≤w5.heap.size:=by rw [hwn]; have:=hb1.size; have:=has.size; simp; omega
    have X9:bp + 1≤w5.heap.size:=by omega
    clear hval;refine aa rfl fun K HK=>?_;simp only [e9,e7];go_simp;rw [← hwn];refine HK.out _ _ ?_;obtain ⟨vo2,hvo2⟩:∃ v,v=Value.slice adn (aW (aW xo ⟨t.a,t.b⟩) ⟨t.c,t.d⟩).length cpn:=⟨_,rfl⟩;rw [← hvo2] at VJ ⊢;clear hb1 hown has hbl U8 hDn XF hkd WW WU fz d4 HK K hI hall ho hwn e9 e7 hvo2 hsn hbz X8 YP HB3n UW;obtain ⟨zC0,hz0⟩:∃ y,y=fs 0:=⟨_,rfl⟩;rw [← hz0];obtain ⟨zC1,hz1⟩:∃ y,y=fs 1:=⟨_,rfl⟩;rw [← hz1];obtain ⟨zC2,hz2⟩:∃ y,y=fs 2:=⟨_,rfl⟩;rw [← hz2];obtain ⟨zC3,hz3⟩:∃ y,y=fs 3:=⟨_,rfl⟩;rw [← hz3];obtain ⟨zC4,Ww⟩:∃ y,y=fs 4:=⟨_,rfl⟩;rw [← Ww];obtain ⟨zC5,hz5⟩:∃ y,y=fs 5:=⟨_,rfl⟩;rw [← hz5];obtain ⟨zC6,hz6⟩:∃ y,y=fs 6:=⟨_,rfl⟩;rw [← hz6];obtain ⟨zC8,hz8⟩:∃ y,y=fs 8:=⟨_,rfl⟩;rw [← hz8];clear hz0 hz1 hz2 hz3 Ww hz5 hz6 hz8 fs l
    skip
    have hbz:=X9;clear X9;obtain ⟨t0,t1,t2,t3,t4,t5,tl⟩:=V8.out.1;cases hs:(t.s.toList == ([]:List UInt8));case false=>
     have HU:Hid (dD xu t=xu):=by show _=_; unfold dD; rw [hs]; rfl
     go_wp2
     go_end0
     exact ⟨rfl,⟨_,_,_,by rw [HU.out]; exact VJ.out⟩,YR.out⟩
    have HU:Hid (dD xu t=aW xu ⟨t.c,t.d⟩):=by show _=_; unfold dD; rw [hs]; rfl
    clear t0 t1 t2 t3 t4 tl;go_wp2_with fail;clear t5 hs;obtain ⟨CD,hCD⟩:∃ C:Nat→Value,C=fun n=>(Value.pointer (some ⟨D,0,none⟩)::.pointer (some ⟨D,0,none⟩)::.pointer (some ⟨D,0,none⟩)::.pointer (some ⟨D,5,none⟩)::vu::.pointer (some ⟨w.heap.size,3,none⟩)::.agg #[.string t.c,.string t.d]::undef::.pointer (some ⟨D,0,none⟩)::.pointer (some ⟨D,5,none⟩)::[]).getD n undef:=⟨_,rfl⟩;have Wp:Hid (CD 0=Value.pointer (some ⟨D,0,none⟩)∧CD 1=Value.pointer (some ⟨D,0,none⟩)∧CD 2=Value.pointer (some ⟨D,0,none⟩)∧CD 3=Value.pointer (some ⟨D,5,none⟩)∧CD 4=vu∧CD 5=Value.pointer (some ⟨w.heap.size,3,none⟩)∧CD 6=Value.agg #[.string t.c,.string t.d]∧CD 7=undef∧CD 8=Value.pointer (some ⟨D,0,none⟩)∧CD 9=Value.pointer (some ⟨D,5,none⟩)):=by show _∧_; rw [hCD]; exact ⟨rfl,rfl,rfl,rfl,rfl,rfl,rfl,rfl,rfl,rfl⟩
    clear hCD;refine jX 10 (fun _=>undef) (fun ft=>{ tmps:=List.toArray (Value.pointer (some ⟨D,0,none⟩)::.agg #[.string t.a,.string t.b,.string t.r,.string t.c,.string t.d,.string t.s]::undef::.pointer (some ⟨w.heap.size,0,none⟩)::.pointer (some ⟨w.heap.size + 1,0,none⟩)::.pointer (some ⟨w.heap.size,0,none⟩)::.agg #[.string t.a,.string t.b]::.pointer (some ⟨w.heap.size,2,none⟩)::.string t.r::.agg #[.string t.a,.string t.b,.string t.r]::y0::y1::y2::.map (some bp)::y4::y8::y5::y6::y7::y9::.int .i64 st::zB0::zB1::zB2::zB3::zB4::zB5::zB6::YQ::zB8::.pointer (some ⟨D,4,none⟩)::zC0::zC1::zC2::zC3::zC4::zC5::zC6::vo2::zC8::.pointer (some ⟨D,4,none⟩)::.pointer (some ⟨w.heap.size,5,none⟩)::.string t.s::.bool true::(ft 0)::(ft 1)::(ft 2)::(ft 3)::(ft 4)::(ft 5)::(ft 6)::(ft 7)::(ft 8)::(ft 9)::[]),defers:=[] }) (G.WI CD w5 (fun v' w'=>∃ w1,af w5 w1∧w'.ownsRow (bp + 1) 27 2 v' (aW xu ⟨t.c,t.d⟩).length (pairs (aW xu ⟨t.c,t.d⟩))∧Aside w1 vu w' v'∧∀ B',(∀ g,vu.ownBlock=some g→B'≤g)→B'≤w1.heap.size→Below B' w1 w')) (by kernel_rfl) rfl (by kernel_rfl) (fun o ho l f w' hI hp=>?clD) rfl (G.wi_start w5) ?stepD ?finD;case clD =>
     cases ho;intro k hk;have h9:=hp ⟨9,.data⟩ (by simp) rfl;have hc:=wT (i:=k) (by omega)
     repeat' rcases hc with rfl | hc
     ·exact hp ⟨0,.phase⟩ (by simp) rfl
     ·exact hp ⟨1,.phase⟩ (by simp) rfl
     ·exact hp ⟨2,.phase⟩ (by simp) rfl
     ·exact hp ⟨3,.phase⟩ (by simp) rfl
     ·exact hp ⟨4,.phase⟩ (by simp) rfl
     ·exact hp ⟨5,.phase⟩ (by simp) rfl
     ·exact hp ⟨6,.phase⟩ (by simp) rfl
     ·exact hp ⟨7,.phase⟩ (by simp) rfl
     ·exact hI.nin h9
     exact h9
    case stepD =>
     rintro i hi o ho l ft w' UD hI hpre;have HI:Hid (G.WI CD w5 (fun v' w'=>∃ w1,af w5 w1∧w'.ownsRow (bp + 1) 27 2 v' (aW xu ⟨t.c,t.d⟩).length (pairs (aW xu ⟨t.c,t.d⟩))∧Aside w1 vu w' v'∧∀ B',(∀ g,vu.ownBlock=some g→B'≤g)→B'≤w1.heap.size→Below B' w1 w') l ft w'):=hI;have Tz:Hid (∀ e ∈ o.after,Region.binds .any e=true→l e.on=true):=hpre;clear hI hpre;have hc:=wT (i:=i) (by omega);clear hi
     repeat' rcases hc with rfl | hc
     ·cases ho;have hW:=HI.out;clear Tz HI;refine aa rfl fun K HK=>?_;go_simp;exact HK.out _ _ ⟨Value.pointer (some ⟨D,0,none⟩),by simp [upd, *],hW.put (by omega) (by omega) Wp.out.1.symm⟩
     ·cases ho;have hW:=HI.out;clear Tz HI;refine aa rfl fun K HK=>?_;go_simp;exact HK.out _ _ ⟨Value.pointer (some ⟨D,0,none⟩),by simp [upd, *],hW.put (by omega) (by omega) Wp.out.2.1.symm⟩
     ·cases ho;have hW:=HI.out;have e1:=(HI.out.val 1 (by omega) (by omega) (Tz.out ⟨1,.data⟩ (by simp) rfl)).trans Wp.out.2.1;clear Tz HI;refine aa rfl fun K HK=>?_;simp only [e1];go_simp;exact HK.out _ _ ⟨Value.pointer (some ⟨D,0,none⟩),by simp [upd, *],hW.put (by omega) (by omega) Wp.out.2.2.1.symm⟩
     ·cases ho;have hW:=HI.out;have e2:=(HI.out.val 2 (by omega) (by omega) (Tz.out ⟨2,.data⟩ (by simp) rfl)).trans Wp.out.2.2.1;clear Tz HI;refine aa rfl fun K HK=>?_;simp only [e2];go_simp;exact HK.out _ _ ⟨Value.pointer (some ⟨D,5,none⟩),by simp [upd, *],hW.put (by omega) (by omega) Wp.out.2.2.2.1.symm⟩
     ·cases ho;have hW:=HI.out;have e3:=(HI.out.val 3 (by omega) (by omega) (Tz.out ⟨3,.data⟩ (by simp) rfl)).trans Wp.out.2.2.2.1;have hb':=HI.out.early (.inl UD);have d4:=(hb'.cell (p:=⟨D,5,none⟩) VJ.out.lt).trans VJ.out.c5;clear Tz HI;refine aa rfl fun K HK=>?_;simp only [e3];go_simp;exact HK.out _ _ ⟨vu,by simp [upd, *],hW.put (by omega) (by omega) Wp.out.2.2.2.2.1.symm⟩
     ·cases ho;have hW:=HI.out;clear Tz HI;refine aa rfl fun K HK=>?_;go_simp;exact HK.out _ _ ⟨Value.pointer (some ⟨w.heap.size,3,none⟩),by simp [upd, *],hW.put (by omega) (by omega) Wp.out.2.2.2.2.2.1.symm⟩
     ·cases ho;have hW:=HI.out;have e5:=(HI.out.val 5 (by omega) (by omega) (Tz.out ⟨5,.data⟩ (by simp) rfl)).trans Wp.out.2.2.2.2.2.1;have hb':=HI.out.early (.inr UD);obtain ⟨t0,t1,t2,t3,t4,t5,tl⟩:=V8.out.1.below hb';clear Tz HI;refine aa rfl fun K HK=>?_;simp only [e5];go_simp;exact HK.out _ _ ⟨Value.agg #[.string t.c,.string t.d],by simp [upd, *],hW.put (by omega) (by omega) Wp.out.2.2.2.2.2.2.1.symm⟩
     ·cases ho;have hW:=HI.out;have e4:=(HI.out.val 4 (by omega) (by omega) (Tz.out ⟨4,.data⟩ (by simp) rfl)).trans Wp.out.2.2.2.2.1;have e6:=(HI.out.val 6 (by omega) (by omega) (Tz.out ⟨6,.data⟩ (by simp) rfl)).trans Wp.out.2.2.2.2.2.2.1;have h4:=Tz.out ⟨4,.data⟩ (by simp) rfl;have h6:=Tz.out ⟨6,.data⟩ (by simp) rfl;have hb':=HI.out.before UD;have hown:=aK VJ.out.users hb';clear Tz HI;refine aa rfl fun K HK=>?_;simp only [e4,e6];go_simp;refine (mh (bp + 1) vu xu ⟨t.c,t.d⟩ w' (by omega) (SF hbz hb'.size) hown).mono ?_;rintro e w2 ⟨v',rfl,hown2,has,hbl⟩;exact HK.out _ _ ⟨v',by simp [upd,e4,e6],hW.call h4 h6 ⟨w',hb',hown2,has,hbl⟩⟩
     ·cases ho;have hW:=HI.out;have e0:=(HI.out.val 0 (by omega) (by omega) (Tz.out ⟨0,.data⟩ (by simp) rfl)).trans Wp.out.1;clear Tz HI;refine aa rfl fun K HK=>?_;simp only [e0];go_simp;exact HK.out _ _ ⟨Value.pointer (some ⟨D,0,none⟩),by simp [upd, *],hW.put (by omega) (by omega) Wp.out.2.2.2.2.2.2.2.2.1.symm⟩
     cases ho;have hW:=HI.out;have e8:=(HI.out.val 8 (by omega) (by omega) (Tz.out ⟨8,.data⟩ (by simp) rfl)).trans Wp.out.2.2.2.2.2.2.2.2.1;have h8:=Tz.out ⟨8,.data⟩ (by simp) rfl;clear Tz HI;refine aa rfl fun K HK=>?_;simp only [e8];go_simp;exact HK.out _ _ ⟨Value.pointer (some ⟨D,5,none⟩),by simp [upd, *],hW.put (by omega) (fun _=>h8) Wp.out.2.2.2.2.2.2.2.2.2.symm⟩
    case finD =>
     rintro o ho l ft w' hall hI;cases ho;obtain ⟨hval,w1,hb1,hown,has,hbl⟩:=hI.last hall;have e9:=(hval 9 (by omega) (by omega)).trans Wp.out.2.2.2.2.2.2.2.2.2;have U8:=VJ.out.below hb1;have hDn:=U8.newU hown has;have XF:=(V8.out.1.below hb1).aside (by obtain ⟨cur,e⟩:=V8.out.2; exact ⟨cur,(hb1.block _ V8.out.1.2.2.2.2.2.2).trans e⟩) U8.users has;obtain ⟨cur,hkd⟩:=U8.kind;have WU:vu.ownBlock ≠ some D:=fun e=>absurd (dH U8.users e hkd) (by decide);have WW:=(has.block D U8.lt WU).trans hkd;have fz:=fun o=>gT WW o;have d4:=(Tc (w:=w1) (a:=⟨D,5,none⟩) (has.block D U8.lt WU)).trans U8.c5;obtain ⟨adn,cpn,e7,-⟩:=gP hown;rw [e7] at hown has hDn;obtain ⟨w6,hwn⟩:∃ x,x=w'.setCell ⟨D,5,none⟩ (Value.slice adn (aW xu ⟨t.c,t.d⟩).length cpn):=⟨_,rfl⟩;rw [← hwn] at hDn;have YS:=ax hDn;have HT3nnn:Hid (tQ w6 w.heap.size t∧∃ cur,w6.heap[w.heap.size]?=some (.cells cur 46 (0,0))):=by
      have hh:w6.heap[w.heap.size]?=w'.heap[w.heap.size]?:=by rw [hwn]; exact heap_setCell_other w' ⟨D,5,none⟩ w.heap.size _ (by show w.heap.size ≠ D; omega)
      obtain ⟨cr,ecr⟩:=XF.2;exact ⟨XF.1.block hh (by rw [hwn]; simpa using XF.1.2.2.2.2.2.2),cr,hh.trans ecr⟩
     have HB3nnn:Hid (Below bp w w6):=by
      have b1:Below bp w w1:=YR.out.trans (hb1.mono (by omega));have b2:Below bp w w':=b1.trans (hbl bp (fun g hg=>by have:=(U8.users.lt g hg).1; omega) (by have:=hb1.size; omega));show Below _ _ _; rw [hwn]; exact b2.setCell (by show bp≤D; omega) _
     have hsn:w5.heap.size≤w6.heap.size:=by rw [hwn]; have:=hb1.size; have:=has.size; simp; omega
     have X9:bp + 1≤w6.heap.size:=by omega
     clear hval;refine aa rfl fun K HK=>?_;simp only [e9,e7];go_simp;rw [← hwn];refine HK.out _ _ ?_;obtain ⟨vu2,hvu2⟩:∃ v,v=Value.slice adn (aW xu ⟨t.c,t.d⟩).length cpn:=⟨_,rfl⟩;rw [← hvu2] at YS ⊢;clear hb1 hown has hbl U8 hDn XF hkd WW WU fz d4 HK K hI hall hwn e9 e7 hvu2 hsn hbz VJ V8 YR Wp;obtain ⟨zD0,hz0⟩:∃ y,y=ft 0:=⟨_,rfl⟩;rw [← hz0];obtain ⟨zD1,hz1⟩:∃ y,y=ft 1:=⟨_,rfl⟩;rw [← hz1];obtain ⟨zD2,hz2⟩:∃ y,y=ft 2:=⟨_,rfl⟩;rw [← hz2];obtain ⟨zD3,hz3⟩:∃ y,y=ft 3:=⟨_,rfl⟩;rw [← hz3];obtain ⟨zD4,Ww⟩:∃ y,y=ft 4:=⟨_,rfl⟩;rw [← Ww];obtain ⟨zD5,hz5⟩:∃ y,y=ft 5:=⟨_,rfl⟩;rw [← hz5];obtain ⟨zD6,hz6⟩:∃ y,y=ft 6:=⟨_,rfl⟩;rw [← hz6];obtain ⟨zD8,hz8⟩:∃ y,y=ft 8:=⟨_,rfl⟩;rw [← hz8];clear hz0 hz1 hz2 hz3 Ww hz5 hz6 hz8 ft l
     skip
     go_wp2
     go_end0
     exact ⟨rfl,⟨_,_,_,by rw [HU.out]; exact YS.out⟩,HB3nnn.out⟩
end Go.Proofs.YtajkkeikihhejaaGreat
