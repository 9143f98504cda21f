/- One more tuple told to the program's data. -/
import Derived.Test.YtcgdckphpjfmhaaGreatDoorSq
import Derived.Test.YtcgdckphpjfmhaaGreatDoorJ8
open Go.Proofs.Tryz
set_option maxHeartbeats 80000000
namespace Go.Proofs.YtcgdckphpjfmhaaGreatDoor
set_option maxRecDepth 100000
set_option linter.unusedVariables false
open ChangeShapes WideShapes ChangeAt RowKit Maps
open Pl
theorem PU:∃i,prog.info? 29=some i/\i.zero=some (.agg #[.string ⟨#[]⟩,.string ⟨#[]⟩,.string ⟨#[]⟩,.string ⟨#[]⟩,.string ⟨#[]⟩,.string ⟨#[]⟩])/\i.size=6/\i.bytes=96 :=
 info_parts (P:=prog) (e:=29) (z:=.agg #[.string ⟨#[]⟩,.string ⟨#[]⟩,.string ⟨#[]⟩,.string ⟨#[]⟩,.string ⟨#[]⟩,.string ⟨#[]⟩]) (size:=6) (bytes:=96) (by kernel_rfl)
theorem JK(u:ae):(zeroValue 25).run prog u=.ok (.slice none 0 0) u:=by kernel_rfl
theorem Dq{w:ae}{bp np:Nat}{Mp:K3->Option Value}{E:List (K3×Tp)}(h:G.Grp qz prog 226 29 6 Tp.row w bp np Mp E)(k:K3):w.ownsRow (bp+1) 29 6 ((Mp k).getD (.slice none 0 0)) (G.lookL E k).length (G.flatG Tp.row (G.lookL E k)):=by
 rcases h.row k with⟨e,e2⟩|⟨v,e,ho⟩
 ·rw[e,e2];exact World.ownsRow_nil _ _ _ _
 rw[e];exact ho
theorem news_of_block{w:ae}{g:Nat}{cs:Array Value}{T:TypeId}(h:w.heap[g]?=some (.cells cs T (0,0))):∀j u,cs.toList[j]?=some u->w.cell? ((⟨g,0,none⟩:Addr).add j)=some u:=by
 intro j u hu;have e:(⟨g,0,none⟩:Addr).add j=⟨g,j,none⟩:=by
  unfold Addr.add;by_cases hj:j=0
  ·subst hj;simp
  simp[hj]
 rw[e];simp[World.cell?,h];simpa using hu
theorem wC.block{w w':ae}{g:Nat}{t:Tp}(h:wC w g t)(e:w'.heap[g]?=w.heap[g]?)(hl:g<w'.heap.size):wC w' g t:=by
 obtain⟨h0,h1,h2,h3,h4,h5,_⟩:=h;have hc:∀o,w'.cell? ⟨g,o,none⟩=w.cell? ⟨g,o,none⟩:=fun o=>VR (w:=w) (a:=⟨g,o,none⟩) e;exact⟨(hc _).trans h0,(hc _).trans h1,(hc _).trans h2,(hc _).trans h3,(hc _).trans h4,(hc _).trans h5,hl⟩
theorem kV{w:ae}{g:Nat}{cs:Array Value}{T:TypeId}(h:w.heap[g]?=some (.cells cs T (0,0)))(o:Nat):w.frozen? ⟨g,o,none⟩=false:=by
 simp[World.frozen?,h]
theorem wC.aside{w w':ae}{g base n:Nat}{t:Tp}{v v':Value}{xs:Q03}(h:wC w g t)(hc:∃cur,w.heap[g]?=some (.cells cur 29 (0,0)))(ho:w.ownsRow base 27 2 v n xs)(ha:Aside w v w' v'):wC w' g t/\∃cur,w'.heap[g]?=some (.cells cur 29 (0,0)):=by
 obtain⟨cur,e⟩:=hc;have hl:=h.2.2.2.2.2.2;have hb:=ha.block g hl fun hg=>absurd (d9 ho hg e) (by decide);exact⟨h.block hb (Vy hl ha.size),cur,hb.trans e⟩
theorem Uc{C:Nat->Value}{a b c d e f g h i j:Value}(q:C=fun n=>(a::b::c::d::e::f::g::h::i::j::[]).getD n undef):C 0=a/\C 1=b/\C 2=c/\C 3=d/\C 4=e/\C 5=f/\C 6=g/\C 7=h/\C 8=i/\C 9=j:=by
 rw[q];exact⟨rfl,rfl,rfl,rfl,rfl,rfl,rfl,rfl,rfl,rfl⟩
theorem KT{w w1:ae}{D c:Nat}{v:Value}(h:w.cell? ⟨D,c,none⟩=some v)(hD:D<w.heap.size)(hb:af w w1):w1.cell? ⟨D,c,none⟩=some v:=(hb.cell hD).trans h
theorem cell_of{w1 w':ae}{D c:Nat}{v:Value}(h:w1.cell? ⟨D,c,none⟩=some v)(e:w'.heap[D]?=w1.heap[D]?):w'.cell? ⟨D,c,none⟩=some v:=(VR (w:=w1) (a:=⟨D,c,none⟩) e).trans h
theorem DatT.named{w:ae}{p:Addr}{v:Value}{D br bp:Nat}{tab:Value}{n1:Int}{E:List (K3×Tp)}{xo xu:Q0a}{np:Nat}{Mp:K3->Option Value}{vo vu:Value}(h:DatT (w.setCell p v) D br bp tab n1 E xo xu np Mp vo vu):∃x,x=w.setCell p v/\DatT x D br bp tab n1 E xo xu np Mp vo vu:=⟨_,rfl,h⟩
def PV(bp:Nat)(w:World)(vo:Value)(X:Q0a)(v':Value)(w':World):Prop:=∃w1,af w w1/\w'.ownsRow (bp+1) 27 2 v' X.length (pairs X)/\Aside w1 vo w' v'/\∀B',(∀g,vo.ownBlock=some g->B'<=g)->B'<=w1.heap.size->Below B' w1 w'
theorem PW(D br bp:Nat)(tab:Value)(n1:Int)(E:List (K3×Tp))(xo xu:Q0a)(np:Nat)(Mp:K3->Option Value)(vo vu:Value)(t:Tp)(w:ae)(hd:DatT w D br bp tab n1 E xo xu np Mp vo vu)(hnp:np<=1000)(hE:E.length<=1000)(hxo:xo.length<=500)(hxu:xu.length<=500)(ht:t.fits):
    Calls prog 81 #[.pointer (some ⟨D,0,none⟩),.agg #[.string t.a,.string t.b,.string t.r,.string t.c,.string t.d,.string t.s]] w fun e w'=>e=.returned (.tuple #[])/\(∃Mp' ZL ZM,DatT w' D br bp tab n1 (E++[(L6 t,t)]) (iB xo t) (dA xu t) (np+1) Mp' ZL ZM)/\Below bp w w':=by
  obtain⟨iT,h0,h1,h2,h3⟩:=PU;have HIT:=ax (And.intro h0 (And.intro h1 (And.intro h2 h3)));obtain⟨W,hW⟩:∃W,W=(w.alloc (.cells #[.string t.a,.string t.b,.string t.r,.string t.c,.string t.d,.string t.s] 29)).alloc (.cells #[.string t.a,.string t.b,.string t.r] 226):=⟨_,rfl⟩;have WZ:Hid (af w W):=by show Below _ _ _;rw[hW];exact((VD _ _).alloc (VC _) _).alloc (by simp) _
  have hWs:W.heap.size=w.heap.size+2:=by rw[hW];simp
  have HT6:Hid (wC W w.heap.size t):=by show wC _ _ _;rw[hW];refine⟨?_,?_,?_,?_,?_,?_,?_⟩<;>first|(simp;done)|(simp;omega)
  have HK3:Hid (W.cell? ⟨w.heap.size+1,0,none⟩=some (.string t.a)/\W.cell? ⟨w.heap.size+1,1,none⟩=some (.string t.b)/\W.cell? ⟨w.heap.size+1,2,none⟩=some (.string t.r)):=by show _/\_;rw[hW];refine⟨?_,?_,?_⟩<;>simp
  have HD:=ax (hd.below WZ.out);have hDl:D<w.heap.size:=hd.lt;have HFB:Hid (G.FreeB Mp w.heap.size):=hd.told.fresh (VC _);have Yl:Hid (W.heap[w.heap.size]?=some (.cells #[.string t.a,.string t.b,.string t.r,.string t.c,.string t.d,.string t.s] 29 (0,0))):=by show _=_;rw[hW,Below.heap_alloc _ _ _ (by simp)];exact heap_alloc_new w _
  have hbD:bp<D:=hd.gt;have HLL:Hid ((G.lookL E (L6 t)).length<=1000):=VJ (WM _ _) hE;obtain⟨row0,hr0⟩:∃r,r=(Mp (L6 t)).getD (.slice none 0 0):=⟨_,rfl⟩;obtain⟨nn,hnn⟩:∃n,n=(G.lookL E (L6 t)).length:=⟨_,rfl⟩;obtain⟨xs,hxs⟩:∃x,x=G.flatG Tp.row (G.lookL E (L6 t)):=⟨_,rfl⟩;have XZ:=ax hr0;have Y9:=ax hnn;have ZH:=ax hxs;have hnl:nn<=1000:=by rw[hnn];exact HLL.out
  have Yn:Hid (∀W0:World,af W W0->W0.ownsRow (bp+1) 29 6 row0 nn xs):=fun W0 hb=>by rw[hr0,hnn,hxs];exact Dq (HD.out.told.below hb) _
  have HKEY:Hid (∃kl,keyOf prog 226 (qz (L6 t))=some kl):=Ea _ ht.1 ht.2.1 ht.2.2.1;clear h0 h1 h2 h3 hr0 hnn hxs hd hE;obtain⟨C2,hC2⟩:∃C:Nat->Value,C=fun n=>(Value.pointer (some ⟨D,0,none⟩)::.pointer (some ⟨D,0,none⟩)::.pointer (some ⟨D,3,none⟩)::.map (some bp)::.agg #[.string t.a,.string t.b,.string t.r]::.agg #[.string t.a,.string t.b,.string t.r,.string t.c,.string t.d,.string t.s]::[]).getD n undef:=⟨_,rfl⟩;have Xp:Hid (C2 0=Value.pointer (some ⟨D,0,none⟩)/\C2 1=Value.pointer (some ⟨D,0,none⟩)/\C2 2=Value.pointer (some ⟨D,3,none⟩)/\C2 3=Value.map (some bp)/\C2 4=Value.agg #[.string t.a,.string t.b,.string t.r]/\C2 5=Value.agg #[.string t.a,.string t.b,.string t.r,.string t.c,.string t.d,.string t.s]):=by show _/\_;rw[hC2];exact⟨rfl,rfl,rfl,rfl,rfl,rfl⟩
  clear hC2;go_enter func81,ntmps81;go_wp2_with fail;rw[<-hW];clear hW;refine pW 11 _ _ (G.EI C2 #[.string t.a,.string t.b,.string t.r,.string t.c,.string t.d,.string t.s] 29 6 W bp row0 nn xs (G.Back qz prog 226 123 bp np Mp (L6 t))) (by kernel_rfl) rfl (by kernel_rfl) (by kernel_rfl) (BJ [(10,[0,1,2,3,4,8,5,6,7,9,10])]) (G.ei_start W) ?stepA ?finA<;>dsimp only[yV];case stepA =>
    rintro i hi o ho l fq w' Yk hI hpre;have HI:=aC hI;have Xc:Hid (∀e∈o.after,Region.binds .any e=true->l e.on=true):=hpre;clear hI hpre;have hc:=Ku (i:=i) (by omega);clear hi
    repeat' rcases hc with rfl|hc
    · cases ho;have hA:=HI.out.early (i:=0) (by omega) Yk;clear Xc HI;refine aa rfl fun K HK=>?_;go_simp;exact HK.out _ _ ⟨Value.pointer (some ⟨D,0,none⟩),by simp[upd, *],hA.put (by omega) Xp.out.1.symm⟩
    · cases ho;have hA:=HI.out.early (i:=1) (by omega) Yk;have e0:=(hA.val 0 (by omega) (Xc.out ⟨0,.data⟩ (by simp) rfl)).trans Xp.out.1;clear Xc HI;refine aa rfl fun K HK=>?_;simp only[e0];go_simp;exact HK.out _ _ ⟨Value.pointer (some ⟨D,0,none⟩),by simp[upd, *],hA.put (by omega) Xp.out.2.1.symm⟩
    · cases ho;have hA:=HI.out.early (i:=2) (by omega) Yk;have e1:=(hA.val 1 (by omega) (Xc.out ⟨1,.data⟩ (by simp) rfl)).trans Xp.out.2.1;clear Xc HI;refine aa rfl fun K HK=>?_;simp only[e1];go_simp;exact HK.out _ _ ⟨Value.pointer (some ⟨D,3,none⟩),by simp[upd, *],hA.put (by omega) Xp.out.2.2.1.symm⟩
    · cases ho;have hA:=HI.out.early (i:=3) (by omega) Yk;have e2:=(hA.val 2 (by omega) (Xc.out ⟨2,.data⟩ (by simp) rfl)).trans Xp.out.2.2.1;have hb':=hA.bel;have d3:=(hb'.cell (p:=⟨D,3,none⟩) (by show D<_;omega)).trans HD.out.c3;clear Xc HI;refine aa rfl fun K HK=>?_;simp only[e2];go_simp;exact HK.out _ _ ⟨Value.map (some bp),by simp[upd, *],hA.put (by omega) Xp.out.2.2.2.1.symm⟩
    · cases ho;have hA:=HI.out.early (i:=4) (by omega) Yk;have hb':=hA.bel;have k0:=(hb'.cell (p:=⟨w.heap.size+1,0,none⟩) (by show w.heap.size+1<_;omega)).trans HK3.out.1;have k1:=(hb'.cell (p:=⟨w.heap.size+1,1,none⟩) (by show w.heap.size+1<_;omega)).trans HK3.out.2.1;have k2:=(hb'.cell (p:=⟨w.heap.size+1,2,none⟩) (by show w.heap.size+1<_;omega)).trans HK3.out.2.2;clear Xc HI;refine aa rfl fun K HK=>?_;go_simp;exact HK.out _ _ ⟨Value.agg #[.string t.a,.string t.b,.string t.r],by simp[upd, *],hA.put (by omega) Xp.out.2.2.2.2.1.symm⟩
    · cases ho;have hA:=HI.out.early (i:=5) (by omega) Yk;have hb':=hA.bel;obtain⟨t0,t1,t2,t3,t4,t5,tl⟩:=HT6.out.below hb';clear Xc HI;refine aa rfl fun K HK=>?_;go_simp;exact HK.out _ _ ⟨Value.agg #[.string t.a,.string t.b,.string t.r,.string t.c,.string t.d,.string t.s],by simp[upd, *],hA.put (by omega) Xp.out.2.2.2.2.2.symm⟩
    · cases ho;have hA:=HI.out.early (i:=6) (by omega) Yk;have e5:=(hA.val 5 (by omega) (Xc.out ⟨5,.data⟩ (by simp) rfl)).trans Xp.out.2.2.2.2.2;clear Xc HI;refine aa rfl fun K HK=>?_;simp only[e5];go_simp;exact HK.out _ _ ⟨_,by simp[upd,e5],hA.lay⟩
    · cases ho;have hA:=HI.out.early (i:=7) (by omega) Yk;have e3:=(hA.val 3 (by omega) (Xc.out ⟨3,.data⟩ (by simp) rfl)).trans Xp.out.2.2.2.1;have e4:=(hA.val 4 (by omega) (Xc.out ⟨4,.data⟩ (by simp) rfl)).trans Xp.out.2.2.2.2.1;have hall:∀k,k<=6->l k=true:=fun k hk=>by
        have hc:=UH (i:=k) (by omega)
        repeat' rcases hc with rfl|hc
        all_goals exact Xc.out ⟨_,.phase⟩ (by simp) rfl
      have hD':=HD.out.below hA.bel;obtain⟨kl,hkl⟩:=HKEY.out;obtain⟨st,w1,hrun,hg,hback⟩:=hD'.told.map.entry N8 N7 underlying123 JK (by unfold maxLen;omega) hkl;rw[<-XZ.out]at hrun;have hrun':(Instr.mapEntry 123 (.map (some bp)) (Value.agg #[.string t.a,.string t.b,.string t.r])).run prog w'=.ok (.tuple #[row0,goInt st]) w1:=hrun;clear Xc HI;refine aa rfl fun K HK=>?_;simp only[e3,e4];go_simp;exact HK.out _ _ ⟨_,by simp[upd,e3,e4,goInt],hA.took hall hg hback⟩
    · cases ho;have h7:=Xc.out ⟨7,.data⟩ (by simp) rfl;have hB:=HI.out.midB h7 (i:=8) (by omega) Yk;obtain⟨st,e7⟩:=HI.out.seven h7;clear Xc HI;refine aa rfl fun K HK=>?_;simp only[e7];go_simp;exact HK.out _ _ ⟨_,by simp[upd,e7,goInt],hB.first⟩
    · cases ho;have h7:=Xc.out ⟨7,.chain⟩ (by simp) rfl;have h8:=Xc.out ⟨8,.data⟩ (by simp) rfl;have hB:=HI.out.midB h7 (i:=9) (by omega) Yk;obtain ⟨W0,st,g,hm1,hm2,ZX,hm4,Zu,e7,hm7,hm8,hm9⟩:=hB.mid;have e8:=hm8 h8;have hown:=(Yn.out W0 hm1).kept Zu (by
        rcases h:row0.ownBlock with _|g'
        · exact .inl rfl
        · right;intro e;injection e with e;have:=((Yn.out W0 hm1).lt g' h).1;omega)
      have hnew:w'.heap[g]?=some (.cells #[.string t.a,.string t.b,.string t.r,.string t.c,.string t.d,.string t.s] 29 (0,0)):=by
        have hgl:g<W0.heap.size:=by
          rcases Nat.lt_or_ge g W0.heap.size with h|h
          · exact h
          · rw[Array.getElem?_eq_none h]at hm4;cases hm4
        rw[Zu.block g hgl (fun e=>by injection e with e;omega)];exact hm4
      clear Xc HI;refine kM w' rfl rfl _ _ 25 rfl (bp+1) 29 iT _ 6 96 underlying25 HIT.out.1 HIT.out.2.1 HIT.out.2.2.1 HIT.out.2.2.2 rfl (by decide) row0 nn xs (by simp[Act.eval,e8]) hown ⟨g,0,none⟩ 1 1 [Value.string t.a,.string t.b,.string t.r,.string t.c,.string t.d,.string t.s] (by simp[Act.eval,hm2]) rfl (fun j u hu=>news_of_block hnew j u hu) (by simp[Value.oneCell']) (by unfold maxLen;omega) (by omega) (by have:=Zu.size;have:=hm1.size;omega) ?_;intro v' w2 hown2 XC hloc2;exact⟨v',by simp[upd,Act.put],hB.app h8 XC hown2 hloc2⟩
    · cases ho;have h7:=Xc.out ⟨7,.data⟩ (by simp) rfl;obtain⟨st,e7⟩:=HI.out.seven h7;have HI2:=HI.out.second h7 e7;clear Xc HI;refine aa rfl fun K HK=>?_;simp only[e7];go_simp;exact HK.out _ _ ⟨_,by simp[upd,e7,goInt],HI2⟩
  case finA =>
    rintro o ho l fq w' hall hI;obtain rfl:=Option.some.inj ho;have hC:=hI.last hall;obtain⟨W0,w1,st,hm1,hm2,ZX,hm4,Zu,hm6,-,hm8⟩:=hC.mid;have e10:=hm8 (hall 10 (by omega));have e3:=(hC.val 3 (by omega)).trans Xp.out.2.2.2.1;obtain⟨w3,hrun,hM3,hg3⟩:=hm6 w' (fq 9) (ZX.block bp (by have:=hm2.size;have:=hm1.size;omega) (fun e=>by have:=(Yn.out W0 hm1).lt bp e.symm;omega));have hst:=(HD.out.told.below hm1).step (y:=L6 t) (s:=t) hm2 (by rw[<-Y9.out,<-ZH.out];exact hm4) (by rw[<-XZ.out];exact ZX) (by rw[<-XZ.out];exact Zu) hg3 hM3;have ZB:=ax ((HD.out.below hm1).tell hst.1 hst.2);have HBQ:Hid (Below bp w w3):=by
      have b0:Below bp w W0:=(WZ.out.trans (hm1.mono WZ.out.size)).mono (by omega);have b1:Below bp w w1:=b0.grown hm2 (by have:=hm1.size;omega) (fun i hi=>by injection hi with hi;omega);have b2:Below bp w w':=b1.grown ZX (by have:=hm2.size;have:=hm1.size;omega) (fun i hi=>by have:=((Yn.out W0 hm1).lt i hi).1;omega);exact b2.grown hg3 (by have:=ZX.size;have:=hm2.size;have:=hm1.size;omega) (fun i hi=>by injection hi with hi;omega)
    have hz3:W.heap.size<=w3.heap.size:=by have:=hg3.size;have:=ZX.size;have:=hm2.size;have:=hm1.size;omega
    have hbx3:w3.heap[w.heap.size]?=some (.cells #[.string t.a,.string t.b,.string t.r,.string t.c,.string t.d,.string t.s] 29 (0,0)):=by
      rw[hst.2.block w.heap.size (by have:=hm1.size;omega) (by omega) HFB.out,hm1.block w.heap.size (by omega)];exact Yl.out
    have HTQ:Hid (wC w3 w.heap.size t/\∃cur,w3.heap[w.heap.size]?=some (.cells cur 29 (0,0))):=⟨HT6.out.block (by rw[hbx3,Yl.out]) (by omega),_,hbx3⟩;have Ym:(Instr.entryStore 123 (.map (some bp)) (.int .i64 st) (fq 9)).run prog w'=.ok () w3:=hrun;obtain⟨Mn,hMn⟩:∃M,M=lq Mp (L6 t) (some (fq 9)):=⟨_,rfl⟩;rw[<-hMn]at ZB;refine aa rfl fun K HK=>?_;simp only[e3,e10];go_simp;refine HK.out _ _ ?_;clear hst hrun Ym hM3 hg3 hm1 hm2 ZX hm4 Zu hm6 hm8 hC hI hall ho HK K e3 e10 HD HT6 HK3 WZ Yn Yl Xp HKEY HFB hMn XZ Y9 ZH hbx3;obtain⟨y0,hy0⟩:∃y,y=fq 0:=⟨_,rfl⟩;rw[<-hy0];obtain⟨y1,hy1⟩:∃y,y=fq 1:=⟨_,rfl⟩;rw[<-hy1];obtain⟨y2,hy2⟩:∃y,y=fq 2:=⟨_,rfl⟩;rw[<-hy2];obtain⟨y4,hy4⟩:∃y,y=fq 4:=⟨_,rfl⟩;rw[<-hy4];obtain⟨y8,hy8⟩:∃y,y=fq 8:=⟨_,rfl⟩;rw[<-hy8];obtain⟨y5,hy5⟩:∃y,y=fq 5:=⟨_,rfl⟩;rw[<-hy5];obtain⟨y6,hy6⟩:∃y,y=fq 6:=⟨_,rfl⟩;rw[<-hy6];obtain⟨y7,hy7⟩:∃y,y=fq 7:=⟨_,rfl⟩;rw[<-hy7];obtain⟨y9,hy9⟩:∃y,y=fq 9:=⟨_,rfl⟩;rw[<-hy9];clear hy0 hy1 hy2 hy4 hy8 hy5 hy6 hy7 hy9 fq l hz3;go_wp2_with fail;have hbz:bp+1<=w3.heap.size:=by have:=ZB.out.lt;have:=ZB.out.gt;omega
    have hx1:(eT xo ⟨t.a,t.b⟩).length<=501:=by have:=oo xo ⟨t.a,t.b⟩;omega
    have m1:=trivial;obtain⟨CQ,hCQ⟩:∃C:Nat->Value,C=fun n=>(Value.pointer (some ⟨D,0,none⟩)::.pointer (some ⟨D,0,none⟩)::.pointer (some ⟨D,0,none⟩)::.pointer (some ⟨D,4,none⟩)::vo::.pointer (some ⟨w.heap.size,0,none⟩)::.agg #[.string t.a,.string t.b]::undef::.pointer (some ⟨D,0,none⟩)::.pointer (some ⟨D,4,none⟩)::[]).getD n undef:=⟨_,rfl⟩;have Zc:=ax (Uc hCQ);have HOB:=ax ZB.out.objs;have Z9:=ax ZB.out.c4;have HWO:=ax (mr (bp+1) vo xo ⟨t.a,t.b⟩);clear hCQ;refine jS 10 _ _ (G.WI CQ w3 (PV bp w3 vo (eT xo ⟨t.a,t.b⟩))) (by kernel_rfl) rfl (by kernel_rfl) (fun o ho l f w' hI hp=>?_) (BJ [(21,[0,1,2,3,4,5,6,7,8,9])]) (G.wi_start _) ?_ ?_<;>try dsimp only[yV]
    iterate 3
      · cases ho;intro k hk;have h9:=hp ⟨9,.data⟩ (by simp) rfl;have hc:=Fy (i:=k) (by omega)
        repeat' rcases hc with rfl|hc
        all_goals first|exact hI.nin h9|exact h9|exact hp ⟨_,.phase⟩ (by simp) rfl
      · rintro i hi o ho l fr w' Yk hI hpre;have HI:=ax hI;have Xc:Hid (∀e∈o.after,Region.binds .any e=true->l e.on=true):=hpre;clear hI hpre;have hc:=Fy (i:=i) (by omega);clear hi
        repeat' rcases hc with rfl|hc
        · cases ho;have hW:=HI.out;clear Xc HI;refine aa rfl fun K HK=>?_;go_simp;exact HK.out _ _ ⟨_,by simp[upd, *],hW.put (by omega) (by omega) Zc.out.1.symm⟩
        · cases ho;have hW:=HI.out;clear Xc HI;refine aa rfl fun K HK=>?_;go_simp;exact HK.out _ _ ⟨_,by simp[upd, *],hW.put (by omega) (by omega) Zc.out.2.1.symm⟩
        · cases ho;have hW:=HI.out;have e1:=(HI.out.val 1 (by omega) (by omega) (Xc.out ⟨1,.data⟩ (by simp) rfl)).trans Zc.out.2.1;clear Xc HI;refine aa rfl fun K HK=>?_;simp only[e1];go_simp;exact HK.out _ _ ⟨_,by simp[upd, *],hW.put (by omega) (by omega) Zc.out.2.2.1.symm⟩
        · cases ho;have hW:=HI.out;have e2:=(HI.out.val 2 (by omega) (by omega) (Xc.out ⟨2,.data⟩ (by simp) rfl)).trans Zc.out.2.2.1;clear Xc HI;refine aa rfl fun K HK=>?_;simp only[e2];go_simp;exact HK.out _ _ ⟨_,by simp[upd, *],hW.put (by omega) (by omega) Zc.out.2.2.2.1.symm⟩
        · cases ho;have hW:=HI.out;have e3:=(HI.out.val 3 (by omega) (by omega) (Xc.out ⟨3,.data⟩ (by simp) rfl)).trans Zc.out.2.2.2.1;have hb':=HI.out.early (.inl Yk);have d4:=KT Z9.out ZB.out.lt hb';clear Xc HI;refine aa rfl fun K HK=>?_;simp only[e3];go_simp;exact HK.out _ _ ⟨_,by simp[upd, *],hW.put (by omega) (by omega) Zc.out.2.2.2.2.1.symm⟩
        · cases ho;have hW:=HI.out;clear Xc HI;refine aa rfl fun K HK=>?_;go_simp;exact HK.out _ _ ⟨_,by simp[upd, *],hW.put (by omega) (by omega) Zc.out.2.2.2.2.2.1.symm⟩
        · cases ho;have hW:=HI.out;have e5:=(HI.out.val 5 (by omega) (by omega) (Xc.out ⟨5,.data⟩ (by simp) rfl)).trans Zc.out.2.2.2.2.2.1;have hb':=HI.out.early (.inr Yk);obtain⟨t0,t1,t2,t3,t4,t5,tl⟩:=HTQ.out.1.below hb';clear Xc HI;refine aa rfl fun K HK=>?_;simp only[e5];go_simp;exact HK.out _ _ ⟨_,by simp[upd, *],hW.put (by omega) (by omega) Zc.out.2.2.2.2.2.2.1.symm⟩
        · cases ho;have hW:=HI.out;have e4:=(HI.out.val 4 (by omega) (by omega) (Xc.out ⟨4,.data⟩ (by simp) rfl)).trans Zc.out.2.2.2.2.1;have e6:=(HI.out.val 6 (by omega) (by omega) (Xc.out ⟨6,.data⟩ (by simp) rfl)).trans Zc.out.2.2.2.2.2.2.1;have h4:=Xc.out ⟨4,.data⟩ (by simp) rfl;have h6:=Xc.out ⟨6,.data⟩ (by simp) rfl;have hb':=HI.out.before Yk;have hown:=aJ HOB.out hb';clear Xc HI;refine aa rfl fun K HK=>?_;simp only[e4,e6];go_simp;refine(HWO.out w' (by omega) (VJ hbz hb'.size) hown).mono ?_;rintro e w2 ⟨v',rfl,hown2,has,hbl⟩;exact HK.out _ _ ⟨v',by simp[upd,e4,e6],hW.call h4 h6 ⟨w',hb',hown2,has,hbl⟩⟩
        · cases ho;have hW:=HI.out;have e0:=(HI.out.val 0 (by omega) (by omega) (Xc.out ⟨0,.data⟩ (by simp) rfl)).trans Zc.out.1;clear Xc HI;refine aa rfl fun K HK=>?_;simp only[e0];go_simp;exact HK.out _ _ ⟨_,by simp[upd, *],hW.put (by omega) (by omega) Zc.out.2.2.2.2.2.2.2.2.1.symm⟩
        · cases ho;have hW:=HI.out;have e8:=(HI.out.val 8 (by omega) (by omega) (Xc.out ⟨8,.data⟩ (by simp) rfl)).trans Zc.out.2.2.2.2.2.2.2.2.1;have h8:=Xc.out ⟨8,.data⟩ (by simp) rfl;clear Xc HI;refine aa rfl fun K HK=>?_;simp only[e8];go_simp;exact HK.out _ _ ⟨_,by simp[upd, *],hW.put (by omega) (fun _=>h8) Zc.out.2.2.2.2.2.2.2.2.2.symm⟩
      rintro o ho l fr w' hall hI;obtain rfl:=Option.some.inj ho;obtain⟨hval,w1,hb1,hown,has,hbl⟩:=hI.last hall;have e9:=(hval 9 (by omega) (by omega)).trans Zc.out.2.2.2.2.2.2.2.2.2;have hDw:=ZB.out.below hb1;have hob:=aJ HOB.out hb1
      first|have hDn:=hDw.newO hown has|have hDn:=hDw.newU hown has
      have hTn:=(HTQ.out.1.below hb1).aside (by obtain⟨cur,e⟩:=HTQ.out.2;exact⟨cur,(hb1.block _ HTQ.out.1.2.2.2.2.2.2).trans e⟩) hob has;obtain⟨cur,hkd⟩:=hDw.kind;have hDo:¬_=some D:=fun e=>absurd (d9 hob e hkd) (by decide);have hkd':=(has.block D hDw.lt hDo).trans hkd;have fz:=fun o=>kV hkd' o;have d4:=cell_of (KT Z9.out ZB.out.lt hb1) (has.block D hDw.lt hDo);obtain⟨adn,cpn,e7,-⟩:=mq hown;rw[e7]at hown has hDn;obtain⟨wq,hwn,hDn⟩:=hDn.named;replace HTQ:Hid (wC wq w.heap.size t/\∃cur,wq.heap[w.heap.size]?=some (.cells cur 29 (0,0))):=by
        have hh:wq.heap[w.heap.size]?=w'.heap[w.heap.size]?:=by rw[hwn];exact heap_setCell_other w' _ w.heap.size _ (by show w.heap.size≠D;omega)
        obtain⟨cr,ecr⟩:=hTn.2;exact⟨hTn.1.block hh (by rw[hwn];simpa using hTn.1.2.2.2.2.2.2),cr,hh.trans ecr⟩
      replace HBQ:Hid (Below bp w wq):=by
        have b1:Below bp w w1:=HBQ.out.trans (hb1.mono (by omega));have b2:Below bp w w':=b1.trans (hbl bp (fun g hg=>by have:=(hob.lt g hg).1;omega) (by have:=hb1.size;omega));show Below _ _ _;rw[hwn];exact b2.setCell (by show bp<=D;omega) _
      replace ZB:=ax hDn;replace hbz:bp+1<=wq.heap.size:=by have:=ZB.out.lt;omega
      clear hval;refine aa rfl fun K HK=>?_;simp only[e9,e7];go_simp;rw[<-hwn];refine HK.out _ _ ?_;rw[<-e7]at ZB ⊢;clear hb1 hown has hbl hDw hDn hTn hkd hkd' hDo fz d4 HK K hI hall ho hwn e9 e7 Zc HOB Z9 HWO hob;obtain⟨vq,hvq⟩:∃y,y=fr 7:=⟨_,rfl⟩;rw[<-hvq]at ZB ⊢;generalize fr 0=z0,fr 1=z1,fr 2=z2,fr 3=z3,fr 4=z4,fr 5=z5,fr 6=z6,fr 8=z8;clear hvq fr l
      first
        | (clear m1
           go_wp2_with fail;have m2:=trivial;obtain⟨CQ,hCQ⟩:∃C:Nat->Value,C=fun n=>(Value.pointer (some ⟨D,0,none⟩)::.pointer (some ⟨D,0,none⟩)::.pointer (some ⟨D,0,none⟩)::.pointer (some ⟨D,4,none⟩)::vq::.pointer (some ⟨w.heap.size,3,none⟩)::.agg #[.string t.c,.string t.d]::undef::.pointer (some ⟨D,0,none⟩)::.pointer (some ⟨D,4,none⟩)::[]).getD n undef:=⟨_,rfl⟩;have Zc:=ax (Uc hCQ);have HOB:=ax ZB.out.objs;have Z9:=ax ZB.out.c4;have HWO:=ax (mr (bp+1) vq (eT xo ⟨t.a,t.b⟩) ⟨t.c,t.d⟩);clear hCQ;refine jS 10 _ _ (G.WI CQ wq (PV bp wq vq (eT (eT xo ⟨t.a,t.b⟩) ⟨t.c,t.d⟩))) (by kernel_rfl) rfl (by kernel_rfl) (fun o ho l f w' hI hp=>?_) (BJ [(31,[0,1,2,3,4,5,6,7,8,9])]) (G.wi_start _) ?_ ?_<;>try dsimp only[yV])
        | (clear m2
           obtain⟨t0,t1,t2,t3,t4,t5,tl⟩:=HTQ.out.1;cases hs:(t.s.toList==([]:List UInt8))
           · have HU:Hid (dA xu t=xu):=by show _=_;unfold dA;rw[hs];rfl
             go_wp2
             go_end0
             exact⟨rfl,⟨_,_,_,by rw[HU.out];exact ZB.out⟩,HBQ.out⟩
           have HU:Hid (dA xu t=eT xu ⟨t.c,t.d⟩):=by show _=_;unfold dA;rw[hs];rfl
           clear t0 t1 t2 t3 t4 tl;go_wp2_with fail;clear t5 hs;have m3:=trivial;obtain⟨CQ,hCQ⟩:∃C:Nat->Value,C=fun n=>(Value.pointer (some ⟨D,0,none⟩)::.pointer (some ⟨D,0,none⟩)::.pointer (some ⟨D,0,none⟩)::.pointer (some ⟨D,5,none⟩)::vu::.pointer (some ⟨w.heap.size,3,none⟩)::.agg #[.string t.c,.string t.d]::undef::.pointer (some ⟨D,0,none⟩)::.pointer (some ⟨D,5,none⟩)::[]).getD n undef:=⟨_,rfl⟩;have Zc:=ax (Uc hCQ);have HOB:=ax ZB.out.users;have Z9:=ax ZB.out.c5;have HWO:=ax (mr (bp+1) vu xu ⟨t.c,t.d⟩);clear hCQ;refine jS 10 _ _ (G.WI CQ wq (PV bp wq vu (eT xu ⟨t.c,t.d⟩))) (by kernel_rfl) rfl (by kernel_rfl) (fun o ho l f w' hI hp=>?_) (BJ [(44,[0,1,2,3,4,5,6,7,8,9])]) (G.wi_start _) ?_ ?_<;>try dsimp only[yV])
        | (clear m3
           go_wp2
           go_end0
           exact⟨rfl,⟨_,_,_,by rw[HU.out];exact ZB.out⟩,HBQ.out⟩)
theorem GN(v0:Value)(YE:Q02)(Yg:Nat)(ts:Q05)(WW:Q02)(capE:Nat)(rows:Q08)(n:Nat)(adK:Q02)(capK:Nat)(known:Q04)(YF:Q02)(Yh:Nat)(truth:Q04)(f:Fc)(w:ae)(hW:HW w YE ts WW rows adK known YF truth)(hn:n<rows.length)(hre:rows.length<=1000)(hkl:known.length<=1048576)(hk:rows[n].e.kind=2):
  Calls prog 119 #[v0,.slice YE ts.length Yg,.slice WW rows.length capE,.int .i64 (n:Int),.slice adK known.length capK,.slice YF truth.length Yh,.agg #[.string f.a,.string f.b,.string f.r,.string f.c,.string f.d]] w fun e w'=>e=.returned (.bool (bR known ⟨f.a,f.b,rows[n].e.name,f.c,f.d⟩))/\af w w':=by
 obtain⟨b,off,Xb,⟨t0,t1,t2,t3,t4⟩,hbl,-⟩:=jq.at0 hW.ex hn;have HW0:=aD hW;obtain⟨W0,hW0⟩:∃W0,W0=Gm w f rows[n]:=⟨_,rfl⟩;have HB0:Hid (af w W0):=by show Below _ _ _;rw[hW0];exact j3 _ _ _
 have hk1:(rows[n].e.kind==1)=false:=by rw[hk];rfl
 have hk2:(rows[n].e.kind==2)=true:=by rw[hk];rfl
 have hn1:=bq n;have hn2:(n:Int)<(rows.length:Int):=by omega
 unfold Gm at hW0;rw[Xb];clear Xb hW hk;go_enter func119,ntmps119;go_wp2_with fail;rw[<-hW0];refine(oq adK capK known ⟨f.a,f.b,rows[n].e.name,f.c,f.d⟩ W0 hkl (HW0.out.kn.below HB0.out)).mono ?_;rintro e w1 ⟨rfl,hb1⟩;have HB1:=aD (HB0.out.trans (hb1.mono HB0.out.size));clear hb1 hW0;go_wp2;go_ret;exact⟨rfl,HB1.out⟩
theorem JL(v0:Value)(YE:Q02)(Yg:Nat)(ts:Q05)(WW:Q02)(capE:Nat)(rows:Q08)(n:Nat)(vK vR:Value)(f:Fc)(w:ae)(hex:jq w WW rows)(hn:n<rows.length)(hre:rows.length<=1000)(k1:rows[n].e.kind≠1)(k2:rows[n].e.kind≠2)(k3:rows[n].e.kind≠3)(k4:rows[n].e.kind≠4)(k5:rows[n].e.kind≠5)(k6:rows[n].e.kind≠6):
  Calls prog 119 #[v0,.slice YE ts.length Yg,.slice WW rows.length capE,.int .i64 (n:Int),vK,vR,.agg #[.string f.a,.string f.b,.string f.r,.string f.c,.string f.d]] w fun e w'=>e=.returned (.bool false)/\af w w':=by
 obtain⟨b,off,Xb,⟨t0,t1,t2,t3,t4⟩,hbl,-⟩:=jq.at0 hex hn;have HB0:=aD (j3 w f rows[n]);unfold Gm at HB0;have hk1:(rows[n].e.kind==1)=false:=by simpa using k1
 have hk2:(rows[n].e.kind==2)=false:=by simpa using k2
 have hk3:(rows[n].e.kind==3)=false:=by simpa using k3
 have hk4:(rows[n].e.kind==4)=false:=by simpa using k4
 have hk5:(rows[n].e.kind==5)=false:=by simpa using k5
 have hk6:(rows[n].e.kind==6)=false:=by simpa using k6
 have hn1:=bq n;have hn2:(n:Int)<(rows.length:Int):=by omega
 rw[Xb];clear Xb hex k1 k2 k3 k4 k5 k6;go_enter func119,ntmps119;go_wp2;go_ret;exact⟨rfl,HB0.out⟩
theorem EN(v0:Value)(YE:Q02)(Yg:Nat)(ts:Q05)(WW:Q02)(capE:Nat)(rows:Q08)(n:Nat)(adK:Q02)(capK:Nat)(known:Q04)(YF:Q02)(Yh:Nat)(truth:Q04)(f:Fc)(w:ae)(hW:HW w YE ts WW rows adK known YF truth)(hn:n<rows.length)(hre:rows.length<=1000)(hkl:known.length<=1048576)(htl:ts.length<=1048576)(hk:rows[n].e.kind=1):
  Calls prog 119 #[v0,.slice YE ts.length Yg,.slice WW rows.length capE,.int .i64 (n:Int),.slice adK known.length capK,.slice YF truth.length Yh,.agg #[.string f.a,.string f.b,.string f.r,.string f.c,.string f.d]] w fun e w'=>e=.returned (.bool (fE ts known f))/\af w w':=by
 obtain⟨b,off,Xb,⟨t0,t1,t2,t3,t4⟩,hbl,-⟩:=jq.at0 hW.ex hn;have HW0:=aD hW;obtain⟨W0,hW0⟩:∃W0,W0=Gm w f rows[n]:=⟨_,rfl⟩;have HB0:Hid (af w W0):=by show Below _ _ _;rw[hW0];exact j3 _ _ _
 have Zb:Hid (EnB W0 w.heap.size f rows[n]):=by show EnB _ _ _ _;rw[hW0];exact ow _ _ _
 have hk1:(rows[n].e.kind==1)=true:=by rw[hk];rfl
 have hn1:=bq n;have hn2:(n:Int)<(rows.length:Int):=by omega
 unfold Gm at hW0;rw[Xb];clear Xb hW hk;go_enter func119,ntmps119;go_wp2_with fail;rw[<-hW0];clear hW0 t0 t1 t2 t3 t4;go_loopw[16] (fun i wr=>∃k:Nat,k<=ts.length/\i=.int .i64 k/\Hid (fE (ts.drop k) known f=fE ts known f)/\Hid (af W0 wr)) (fun i _=>ts.length-(intOf i).toNat);case atStart=>exact⟨0,VG _,rfl,rfl,VD _ _⟩
 obtain⟨k,hk,rfl,HP,HB⟩:=hrel;have WZ:Hid (af w wr):=HB0.out.trans (HB.out.mono HB0.out.size);by_cases hlt:k<ts.length
 ·obtain⟨bT,offT,Zv,⟨a0,a1,a2,a3,a4,a5⟩,hbT⟩:=Sl.at0 (HW0.out.tup.below WZ.out) hlt;have hE:=Zb.out.below HB.out;have e0:=hE.f0;have e1:=hE.f1;have e2:=hE.f2;have e3:=hE.f3;have e4:=hE.f4;have el:w.heap.size<wr.heap.size:=by have:=hE.lt;omega
  have hi1:=bq k;have hi2:(k:Int)<(ts.length:Int):=by omega
  obtain⟨W1,hW1⟩:∃W1,W1=wr.alloc (.cells #[.string ts[k].a,.string ts[k].b,.string ts[k].r,.string ts[k].c,.string ts[k].d,.string ts[k].s] 29):=⟨_,rfl⟩;have Yf:=oQ hW1;have HB1:Hid (af W0 W1):=HB.out.trans (Yf.out.mono HB.out.size);have XN:Hid (af w W1):=WZ.out.trans (Yf.out.mono WZ.out.size);have HD:Hid (fE ts known f=(Au known f ts[k] || fE (ts.drop (k+1)) known f)):=by show _=_;rw[<-HP.out];exact Ji hlt known f
  rw[Zv];clear Zv hE;cases ho:Ar ts[k].a ts[k].b f.a f.b;case false=>
   have hneq:=Gl _ _ _ _ ho;have Xa:Hid (fE (ts.drop (k+1)) known f=fE ts known f):=by
    show _=_;unfold Ar at ho;rw[HD.out];unfold Au;rw[ho];rfl
   clear ho;go_wp2;rw[<-hW1];clear hW1;go_roundw;case rel=>exact⟨k+1,by omega,by go_num,Xa,HB1⟩
   simp[intOf]<;>omega
  have hneq:=Gl _ _ _ _ ho;have HO:Hid (Ar ts[k].a ts[k].b f.a f.b=true):=ho;clear ho;cases hr:(ts[k].r.toList==f.r.toList);case false=>
   have Xa:Hid (fE (ts.drop (k+1)) known f=fE ts known f):=by
    show _=_;have h2:=HO.out;unfold Ar at h2;rw[HD.out];unfold Au;rw[h2,hr];rfl
   go_wp2;rw[<-hW1];clear hW1;go_roundw;case rel=>exact⟨k+1,by omega,by go_num,Xa,HB1⟩
   simp[intOf]<;>omega
  have HT:Hid (Au known f ts[k]=(if ts[k].s.toList.isEmpty then ts[k].c.toList==f.c.toList&&ts[k].d.toList==f.d.toList else bR known ⟨ts[k].c,ts[k].d,ts[k].s,f.c,f.d⟩)):=by
   show _=_;have h2:=HO.out;unfold Ar at h2;unfold Au;rw[h2,hr];rfl
  cases hs:ts[k].s.toList.isEmpty;case true=>
   have hs2:(ts[k].s.toList==[])=true:=by rw[rV];exact hs
   cases hu:Ar ts[k].c ts[k].d f.c f.d;case true=>
    have heq:=jH _ _ _ _ hu;have HN:Hid (fE ts known f=true):=by
     show _=_;unfold Ar at hu;rw[HD.out,HT.out,if_pos hs,hu];rfl
    clear hu hs;go_wp2;rw[<-hW1];go_ret;exact⟨by rw[HN.out];rfl,XN.out⟩
   have heq:=jH _ _ _ _ hu;have Xa:Hid (fE (ts.drop (k+1)) known f=fE ts known f):=by
    show _=_;unfold Ar at hu;rw[HD.out,HT.out,if_pos hs,hu];rfl
   clear hu hs;go_wp2;rw[<-hW1];clear hW1;go_roundw;case rel=>exact⟨k+1,by omega,by go_num,Xa,HB1⟩
   simp[intOf]<;>omega
  have hs2:(ts[k].s.toList==[])=false:=by rw[rV];exact hs
  have HT2:Hid (Au known f ts[k]=bR known ⟨ts[k].c,ts[k].d,ts[k].s,f.c,f.d⟩):=by show _=_;rw[HT.out,if_neg (by rw[hs];decide)]
  clear hs;go_wp2_with fail;rw[<-hW1];clear hW1;refine(oq adK capK known ⟨ts[k].c,ts[k].d,ts[k].s,f.c,f.d⟩ W1 hkl (HW0.out.kn.below XN.out)).mono ?_;rintro e w2 ⟨rfl,hb2⟩;have HB2:=kL HB1 hb2;have HBW2:=kL XN hb2;clear hb2;cases hh:bR known ⟨ts[k].c,ts[k].d,ts[k].s,f.c,f.d⟩;case true=>
   have HN:Hid (fE ts known f=true):=by show _=_;rw[HD.out,HT2.out,hh];rfl
   go_wp2;go_ret;exact⟨by rw[HN.out];rfl,HBW2.out⟩
  have Xa:Hid (fE (ts.drop (k+1)) known f=fE ts known f):=by show _=_;rw[HD.out,HT2.out,hh];rfl
  go_wp2;go_roundw;case rel=>exact⟨k+1,by omega,by go_num,Xa,HB2⟩
  simp[intOf]<;>omega
 have HN:Hid (fE ts known f=false):=by show _=_;rw[<-HP.out,VW (by omega)];rfl
 go_wp2;go_ret;exact⟨by rw[HN.out];rfl,WZ.out⟩
end Go.Proofs.YtcgdckphpjfmhaaGreatDoor
