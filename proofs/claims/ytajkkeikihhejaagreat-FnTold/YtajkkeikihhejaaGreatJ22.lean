/- Contract of the document's function that puts a tuple into its place. -/
import Derived.Test.YtajkkeikihhejaaGreatSq
import Derived.Test.YtajkkeikihhejaaGreatJ21
open Go.Proofs.Tryz
set_option maxHeartbeats 80000000
namespace Go.Proofs.YtajkkeikihhejaaGreat
open Go.ChangeShapes Go.WideShapes Go.ChangeAt Go.RowKit Go.Maps
open Pl
set_option maxRecDepth 8000 in
theorem LZ (b off cap:Nat) (ts:List Tp) (t:Tp) (w:af) (hlen:ts.length≤1000) (hcap:ts.length≤cap) (hs:kL w b off ts) (hb:b < w.heap.size) (hf:∀ x ∈ ts,x.fits) (ht:t.fits) :
  Calls prog 129 #[.slice (some ⟨b,off,none⟩) ts.length cap,.agg #[.string t.a,.string t.b,.string t.r,.string t.c,.string t.d,.string t.s]] w fun e w'=>∃ v:Value,e=.returned v∧w'.ownsRow w.heap.size 46 6 v (jL ts t).length (bF (jL ts t))∧ag w w':=by
 obtain ⟨iT,hiT,zT0,zT1,zT2⟩:=info_parts (P:=prog) (e:=46) (z:=.agg #[.string ⟨#[]⟩,.string ⟨#[]⟩,.string ⟨#[]⟩,.string ⟨#[]⟩,.string ⟨#[]⟩,.string ⟨#[]⟩]) (size:=6) (bytes:=96) (by kernel_rfl);have HIT:Hid (prog.info? 46=some iT∧iT.zero=some (.agg #[.string ⟨#[]⟩,.string ⟨#[]⟩,.string ⟨#[]⟩,.string ⟨#[]⟩,.string ⟨#[]⟩,.string ⟨#[]⟩])∧iT.size=6∧iT.bytes=96):=⟨hiT,zT0,zT1,zT2⟩;have HS:=az hs;have HF:=az hf;have HT:Hid t.fits:=ht;clear hs hf ht hiT zT0 zT1 zT2;obtain ⟨W0,hW0⟩:∃ W0,W0=w.alloc (.cells #[.string t.a,.string t.b,.string t.r,.string t.c,.string t.d,.string t.s] 46):=⟨_,rfl⟩;have HB0:=qZ hW0;have HX0:Hid (ug W0 w.heap.size t):=by show ug _ _ _; rw [hW0]; exact Ez w t _
 go_enter func129,ntmps129;go_wp2;rw [← hW0];clear hW0;go_loopw [5] (fun i wr=>∃ k:Nat,k≤ts.length∧i=.int .i64 k∧Hid (∀ i (h:i < ts.length),i < k→ts[i].ahead t=true)∧Hid (ag w wr)∧Hid (ug wr w.heap.size t)) (fun i _=>ts.length - (intOf i).toNat);case atStart=>exact ⟨0,TW _,rfl,fun i h hi=>by omega,HB0,HX0⟩
 clear HX0 HB0;obtain ⟨k,hk,rfl,HU,HB,HX⟩:=hrel;have hk1:=bB k;by_cases hlt:k < ts.length
 ·have hk2:(k:Int) < (ts.length:Int):=by omega
  obtain ⟨t0,t1,t2,t3,t4,t5⟩:=(HS.out.below HB.out hb) k hlt;obtain ⟨x0,x1,x2,x3,x4,x5,xl⟩:=HX.out;have hbr:b < wr.heap.size:=TP hb HB.out.size;obtain ⟨f0,f1,f2,f3,f4,f5⟩:=HF.out _ (TQ hlt);obtain ⟨e0,e1,e2,e3,e4,e5⟩:=HT.out;have HA:Hid (∀ W,Calls prog 137 #[.agg #[.string ts[k].a,.string ts[k].b,.string ts[k].r,.string ts[k].c,.string ts[k].d,.string ts[k].s],.agg #[.string t.a,.string t.b,.string t.r,.string t.c,.string t.d,.string t.s]] W fun e w'=>e=.returned (.bool (ts[k].ahead t))∧ag W w'):=fun W=>nD _ _ _ _ _ _ _ _ _ _ _ _ W f0 f1 f2 f3 f4 f5 e0 e1 e2 e3 e4 e5;clear f0 f1 f2 f3 f4 f5 e0 e1 e2 e3 e4 e5;have H0:wr.drew.cell? ⟨b,off + k * 6,none⟩=some (.string ts[k].a)∧wr.drew.cell? ⟨b,off + k * 6 + 1,none⟩=some (.string ts[k].b)∧wr.drew.cell? ⟨b,off + k * 6 + 2,none⟩=some (.string ts[k].r)∧wr.drew.cell? ⟨b,off + k * 6 + 3,none⟩=some (.string ts[k].c)∧wr.drew.cell? ⟨b,off + k * 6 + 4,none⟩=some (.string ts[k].d)∧wr.drew.cell? ⟨b,off + k * 6 + 5,none⟩=some (.string ts[k].s)∧wr.drew.cell? ⟨w.heap.size,0,none⟩=some (.string t.a)∧wr.drew.cell? ⟨w.heap.size,1,none⟩=some (.string t.b)∧wr.drew.cell? ⟨w.heap.size,2,none⟩=some (.string t.r)∧wr.drew.cell? ⟨w.heap.size,3,none⟩=some (.string t.c)∧wr.drew.cell? ⟨w.heap.size,4,none⟩=some (.string t.d)∧wr.drew.cell? ⟨w.heap.size,5,none⟩=some (.string t.s)∧b < wr.drew.heap.size∧w.heap.size < wr.drew.heap.size∧ag w wr.drew:=⟨t0,t1,t2,t3,t4,t5,x0,x1,x2,x3,x4,x5,hbr,xl,HB.out.drew⟩;clear t0 t1 t2 t3 t4 t5 x0 x1 x2 x3 x4 x5;generalize hq:ts[k].ahead t=q at HA;cases q;case true=>
   have HQ:Hid (ts[k].ahead t=true):=hq;clear hq;go_wp2_with fail
   go_region_held3 (fun w'=>w'.cell? ⟨b,off + k * 6,none⟩=some (.string ts[k].a)∧w'.cell? ⟨b,off + k * 6 + 1,none⟩=some (.string ts[k].b)∧w'.cell? ⟨b,off + k * 6 + 2,none⟩=some (.string ts[k].r)∧w'.cell? ⟨b,off + k * 6 + 3,none⟩=some (.string ts[k].c)∧w'.cell? ⟨b,off + k * 6 + 4,none⟩=some (.string ts[k].d)∧w'.cell? ⟨b,off + k * 6 + 5,none⟩=some (.string ts[k].s)∧w'.cell? ⟨w.heap.size,0,none⟩=some (.string t.a)∧w'.cell? ⟨w.heap.size,1,none⟩=some (.string t.b)∧w'.cell? ⟨w.heap.size,2,none⟩=some (.string t.r)∧w'.cell? ⟨w.heap.size,3,none⟩=some (.string t.c)∧w'.cell? ⟨w.heap.size,4,none⟩=some (.string t.d)∧w'.cell? ⟨w.heap.size,5,none⟩=some (.string t.s)∧b < w'.heap.size∧w.heap.size < w'.heap.size∧ag w w')
    (first | assumption | exact Km (by assumption) hbx | exact H0)
    (first | (go_at_call 137; refine (HA.out _).mono ?_; rintro e w' ⟨rfl,hbx⟩))
   rename_i hH;obtain ⟨-,-,-,-,-,-,x0,x1,x2,x3,x4,x5,-,xl,gB⟩:=hH;have HB2:=fE gB;have Xm:=fE (OJ x0 x1 x2 x3 x4 x5 xl);have YB:Hid (∀ i (h:i < ts.length),i < k + 1→ts[i].ahead t=true):=fun i h hi=>by
    by_cases e:i=k
    ·subst e; exact HQ.out
    exact HU.out i h (by omega)
   clear x0 x1 x2 x3 x4 x5 gB hbx H0 HA HQ HU HB HX;go_wp2;go_roundw;case rel=>exact ⟨k + 1,by omega,by go_num,YB,HB2,Xm⟩
   simp [intOf] <;> omega
  have HQ:Hid (ts[k].ahead t=false):=hq;clear hq;go_wp2_with fail
  go_region_held3 (fun w'=>w'.cell? ⟨b,off + k * 6,none⟩=some (.string ts[k].a)∧w'.cell? ⟨b,off + k * 6 + 1,none⟩=some (.string ts[k].b)∧w'.cell? ⟨b,off + k * 6 + 2,none⟩=some (.string ts[k].r)∧w'.cell? ⟨b,off + k * 6 + 3,none⟩=some (.string ts[k].c)∧w'.cell? ⟨b,off + k * 6 + 4,none⟩=some (.string ts[k].d)∧w'.cell? ⟨b,off + k * 6 + 5,none⟩=some (.string ts[k].s)∧w'.cell? ⟨w.heap.size,0,none⟩=some (.string t.a)∧w'.cell? ⟨w.heap.size,1,none⟩=some (.string t.b)∧w'.cell? ⟨w.heap.size,2,none⟩=some (.string t.r)∧w'.cell? ⟨w.heap.size,3,none⟩=some (.string t.c)∧w'.cell? ⟨w.heap.size,4,none⟩=some (.string t.d)∧w'.cell? ⟨w.heap.size,5,none⟩=some (.string t.s)∧b < w'.heap.size∧w.heap.size < w'.heap.size∧ag w w')
   (first | assumption | exact Km (by assumption) hbx | exact H0)
   (first | (go_at_call 137; refine (HA.out _).mono ?_; rintro e w' ⟨rfl,hbx⟩))
  rename_i hH;obtain ⟨-,-,-,-,-,-,x0,x1,x2,x3,x4,x5,-,xl,gB⟩:=hH;have HP:=fE (Kl ts t k hk HU.out (fun _=>HQ.out));have UG:=fE gB;have HXW:=fE (OJ x0 x1 x2 x3 x4 x5 xl);clear hbx H0 HA HQ HU HB HX gB x0 x1 x2 x3 x4 x5;obtain ⟨W1,hW1⟩:∃ W1,W1=w'.alloc (.cells #[] 46):=⟨_,rfl⟩;have Vi:Hid (W1.ownsRow w'.heap.size 46 6 (.slice (some ⟨w'.heap.size,0,none⟩) 0 0) 0 []):=by
   show World.ownsRow _ _ _ _ _ _ _;rw [hW1];exact World.ownsRow_lit w' #[] 0 (TS _) (by unfold maxLen; omega) (by simp)
  have Vq:=qZ hW1;have HR1:Hid (kL W1 b off ts):=(HS.out.below UG.out hb).below Vq.out (TP hb UG.out.size);have WF:=az (HXW.out.below Vq.out);have HB1:Hid (ag w W1):=UG.out.trans (Vq.out.mono UG.out.size);have hWs:w.heap.size < w'.heap.size:=HXW.out.2.2.2.2.2.2;have hb1:b < W1.heap.size:=TP hb HB1.out.size;have hkc:k≤cap:=by omega
  have hz1:w'.heap.size≤W1.heap.size:=Vq.out.size;clear UG HXW Vq;go_wp2_with (at_builtin; rw [← hW1]; clear hW1; refine wpList_append_own_at _ rfl _ _ 25 rfl w'.heap.size 46 iT (.agg #[.string ⟨#[]⟩,.string ⟨#[]⟩,.string ⟨#[]⟩,.string ⟨#[]⟩,.string ⟨#[]⟩,.string ⟨#[]⟩]) 6 96 underlying25 HIT.out.1 HIT.out.2.1 HIT.out.2.2.1 HIT.out.2.2.2 rfl (by decide) _ 0 [] rfl Vi.out ⟨b,off,none⟩ k cap (bF (ts.take k)) rfl (by rw [jf,Ut]; congr 1; omega) (tL (C9 HR1.out k)) (rG _) (by unfold maxLen; omega) (by omega) hz1 ?_);intro v2 w2 hown2 U1 _ _;have UB:Hid (w2.ownsRow w'.heap.size 46 6 v2 k (bF (ts.take k))):=by
   show World.ownsRow _ _ _ _ _ _ _
   first | exact hown2 | (rw [Um,List.nil_append] at hown2; exact hown2)
  have hne:some w.heap.size ≠ Value.ownBlock (.slice (some ⟨w'.heap.size,0,none⟩) 0 0):=fun e=>by simp [Value.ownBlock] at e; omega
  have hnb:some b ≠ Value.ownBlock (.slice (some ⟨w'.heap.size,0,none⟩) 0 0):=fun e=>by simp [Value.ownBlock] at e; omega
  have Xm:Hid (ug w2 w.heap.size t):=WF.out.grown U1 hne;have HR2:Hid (kL w2 b off ts):=pu HR1.out U1 hb1 hnb;have HB2:Hid (ag w w2):=HB1.out.grown U1 HB1.out.size (fun g hg=>by simp [Value.ownBlock] at hg; omega);have hz2:w'.heap.size≤w2.heap.size:=TZ hz1 U1.size;clear hown2 U1 Vi WF HR1 HB1 hne hnb;obtain ⟨x0,x1,x2,x3,x4,x5,xl2⟩:=Xm.out;obtain ⟨W3,hW3⟩:∃ W3,W3=w2.alloc (.cells #[.string t.a,.string t.b,.string t.r,.string t.c,.string t.d,.string t.s] 46):=⟨_,rfl⟩;have UY:Hid (W3.ownsRow w'.heap.size 46 6 v2 k (bF (ts.take k))):=by show World.ownsRow _ _ _ _ _ _ _; rw [hW3]; exact UB.out.alloc _
  have Wp:Hid (∀ j u,t.row[j]?=some u→W3.cell? ((⟨w2.heap.size,0,none⟩:Addr).add j)=some u):=by show ∀ j u,_; rw [hW3]; exact C8 w2 t
  have Xa:=qZ hW3;have HB3:Hid (ag w W3):=HB2.out.trans (Xa.out.mono HB2.out.size);have HR3:Hid (kL W3 b off ts):=HR2.out.below Xa.out (TP hb HB2.out.size);have hz3:w'.heap.size≤W3.heap.size:=TZ hz2 Xa.out.size;have hb3:b < W3.heap.size:=TP hb HB3.out.size;clear Xa HB2 HR2 Xm hb1 hz1 hz2;go_wp2_with (at_builtin; rw [← hW3]; clear hW3; refine wpList_append_own_at _ rfl _ _ 25 rfl w'.heap.size 46 iT (.agg #[.string ⟨#[]⟩,.string ⟨#[]⟩,.string ⟨#[]⟩,.string ⟨#[]⟩,.string ⟨#[]⟩,.string ⟨#[]⟩]) 6 96 underlying25 HIT.out.1 HIT.out.2.1 HIT.out.2.2.1 HIT.out.2.2.2 rfl (by decide) v2 k (bF (ts.take k)) rfl UY.out ⟨w2.heap.size,0,none⟩ 1 1 t.row rfl rfl Wp.out (Aq _) (by unfold maxLen; omega) (by omega) hz3 ?_);intro v4 w4 U2 Vr _ _;have hnb:some b ≠ v2.ownBlock:=fun e=>by have:=(UB.out.lt b e.symm).1; omega
  have HR4:Hid (kL w4 b off ts):=pu HR3.out Vr hb3 hnb;have Vk:Hid (ag w w4):=HB3.out.grown Vr HB3.out.size (fun g hg=>by have:=(UB.out.lt g hg).1; omega);have UT:=az U2;have Xl:w'.heap.size≤w4.heap.size:=TZ hz3 Vr.size;clear U2 Vr UY UB Wp HB3 HR3 hb3 hz3 hnb x0 x1 x2 x3 x4 x5 xl2;have hdl:(ts.drop k).length=ts.length - k:=List.length_drop;clear hdl;go_wp2_with (at_builtin; refine wpList_append_own_at _ rfl _ _ 25 rfl w'.heap.size 46 iT (.agg #[.string ⟨#[]⟩,.string ⟨#[]⟩,.string ⟨#[]⟩,.string ⟨#[]⟩,.string ⟨#[]⟩,.string ⟨#[]⟩]) 6 96 underlying25 HIT.out.1 HIT.out.2.1 HIT.out.2.2.1 HIT.out.2.2.2 rfl (by decide) v4 (k + 1) (bF (ts.take k) ++ t.row) rfl UT.out ⟨b,off + k * 6,none⟩ (ts.length - k) (cap - k) (bF (ts.drop k)) rfl (by rw [jf,List.length_drop]) (tL (LX HR4.out k)) (rG _) (by unfold maxLen; omega) (by omega) Xl ?_);intro v5 w5 hown5 hgr5 _ _;have VS:Hid (ag w w5):=Vk.out.grown hgr5 Vk.out.size (fun g hg=>by have:=(UT.out.lt g hg).1; omega);have hlp:(jL ts t).length=k + 1 + (ts.length - k):=by rw [HP.out]; simp; omega
  have hown6:w5.ownsRow w'.heap.size 46 6 v5 (jL ts t).length (bF (jL ts t)):=by
   rw [hlp,HP.out,show ts.take k ++ t::ts.drop k=(ts.take k ++ [t]) ++ ts.drop k by simp,uV,Ap]; first | exact hown5 | (rw [List.append_assoc]; exact hown5)
  have Vj:=fE (fB hown6 (Nat.le_of_lt hWs));clear hown5 hown6 hgr5 hlp;go_wp2;go_ret;exact ⟨v5,rfl,Vj.out,VS.out⟩
 have hd:decide ((k:Int) < (ts.length:Int))=false:=by simp; omega
 go_wp2_with fail;go_quiet (fail);have HP:=fE (Kl ts t k hk HU.out (fun h=>absurd h hlt));obtain ⟨W9,Yp⟩:∃ W9,wr.drewN nq=W9:=⟨_,rfl⟩;have UG:Hid (ag w W9):=by show Below _ _ _; rw [← Yp]; exact ⟨HB.out.os,HB.out.tape,HB.out.output,HB.out.size,HB.out.block⟩
 have HXW:Hid (ug W9 w.heap.size t):=by show ug _ _ _; rw [← Yp]; exact HX.out
 rw [Yp];clear Yp HU HB HX hd;obtain ⟨W1,hW1⟩:∃ W1,W1=W9.alloc (.cells #[] 46):=⟨_,rfl⟩;have Vi:Hid (W1.ownsRow W9.heap.size 46 6 (.slice (some ⟨W9.heap.size,0,none⟩) 0 0) 0 []):=by
  show World.ownsRow _ _ _ _ _ _ _;rw [hW1];exact World.ownsRow_lit W9 #[] 0 (TS _) (by unfold maxLen; omega) (by simp)
 have Vq:=qZ hW1;have HR1:Hid (kL W1 b off ts):=(HS.out.below UG.out hb).below Vq.out (TP hb UG.out.size);have WF:=az (HXW.out.below Vq.out);have HB1:Hid (ag w W1):=UG.out.trans (Vq.out.mono UG.out.size);have hWs:w.heap.size < W9.heap.size:=HXW.out.2.2.2.2.2.2;have hb1:b < W1.heap.size:=TP hb HB1.out.size;have hkc:k≤cap:=by omega
 have hz1:W9.heap.size≤W1.heap.size:=Vq.out.size;clear UG HXW Vq;go_wp2_with (at_builtin; rw [← hW1]; clear hW1; refine wpList_append_own_at _ rfl _ _ 25 rfl W9.heap.size 46 iT (.agg #[.string ⟨#[]⟩,.string ⟨#[]⟩,.string ⟨#[]⟩,.string ⟨#[]⟩,.string ⟨#[]⟩,.string ⟨#[]⟩]) 6 96 underlying25 HIT.out.1 HIT.out.2.1 HIT.out.2.2.1 HIT.out.2.2.2 rfl (by decide) _ 0 [] rfl Vi.out ⟨b,off,none⟩ k cap (bF (ts.take k)) rfl (by rw [jf,Ut]; congr 1; omega) (tL (C9 HR1.out k)) (rG _) (by unfold maxLen; omega) (by omega) hz1 ?_);intro v2 w2 hown2 U1 _ _;have UB:Hid (w2.ownsRow W9.heap.size 46 6 v2 k (bF (ts.take k))):=by
  show World.ownsRow _ _ _ _ _ _ _
  first | exact hown2 | (rw [Um,List.nil_append] at hown2; exact hown2)
 have hne:some w.heap.size ≠ Value.ownBlock (.slice (some ⟨W9.heap.size,0,none⟩) 0 0):=fun e=>by simp [Value.ownBlock] at e; omega
 have hnb:some b ≠ Value.ownBlock (.slice (some ⟨W9.heap.size,0,none⟩) 0 0):=fun e=>by simp [Value.ownBlock] at e; omega
 have Xm:Hid (ug w2 w.heap.size t):=WF.out.grown U1 hne;have HR2:Hid (kL w2 b off ts):=pu HR1.out U1 hb1 hnb;have HB2:Hid (ag w w2):=HB1.out.grown U1 HB1.out.size (fun g hg=>by simp [Value.ownBlock] at hg; omega);have hz2:W9.heap.size≤w2.heap.size:=TZ hz1 U1.size;clear hown2 U1 Vi WF HR1 HB1 hne hnb;obtain ⟨x0,x1,x2,x3,x4,x5,xl2⟩:=Xm.out;obtain ⟨W3,hW3⟩:∃ W3,W3=w2.alloc (.cells #[.string t.a,.string t.b,.string t.r,.string t.c,.string t.d,.string t.s] 46):=⟨_,rfl⟩;have UY:Hid (W3.ownsRow W9.heap.size 46 6 v2 k (bF (ts.take k))):=by show World.ownsRow _ _ _ _ _ _ _; rw [hW3]; exact UB.out.alloc _
 have Wp:Hid (∀ j u,t.row[j]?=some u→W3.cell? ((⟨w2.heap.size,0,none⟩:Addr).add j)=some u):=by show ∀ j u,_; rw [hW3]; exact C8 w2 t
 have Xa:=qZ hW3;have HB3:Hid (ag w W3):=HB2.out.trans (Xa.out.mono HB2.out.size);have HR3:Hid (kL W3 b off ts):=HR2.out.below Xa.out (TP hb HB2.out.size);have hz3:W9.heap.size≤W3.heap.size:=TZ hz2 Xa.out.size;have hb3:b < W3.heap.size:=TP hb HB3.out.size;clear Xa HB2 HR2 Xm hb1 hz1 hz2;go_wp2_with (at_builtin; rw [← hW3]; clear hW3; refine wpList_append_own_at _ rfl _ _ 25 rfl W9.heap.size 46 iT (.agg #[.string ⟨#[]⟩,.string ⟨#[]⟩,.string ⟨#[]⟩,.string ⟨#[]⟩,.string ⟨#[]⟩,.string ⟨#[]⟩]) 6 96 underlying25 HIT.out.1 HIT.out.2.1 HIT.out.2.2.1 HIT.out.2.2.2 rfl (by decide) v2 k (bF (ts.take k)) rfl UY.out ⟨w2.heap.size,0,none⟩ 1 1 t.row rfl rfl Wp.out (Aq _) (by unfold maxLen; omega) (by omega) hz3 ?_);intro v4 w4 U2 Vr _ _;have hnb:some b ≠ v2.ownBlock:=fun e=>by have:=(UB.out.lt b e.symm).1; omega
 have HR4:Hid (kL w4 b off ts):=pu HR3.out Vr hb3 hnb;have Vk:Hid (ag w w4):=HB3.out.grown Vr HB3.out.size (fun g hg=>by have:=(UB.out.lt g hg).1; omega);have UT:=az U2;have Xl:W9.heap.size≤w4.heap.size:=TZ hz3 Vr.size;clear U2 Vr UY UB Wp HB3 HR3 hb3 hz3 hnb x0 x1 x2 x3 x4 x5 xl2;have hdl:(ts.drop k).length=ts.length - k:=List.length_drop;clear hdl;by_cases hce:cap=k
 all_goals
  go_wp2_with (at_builtin; refine wpList_append_own_at _ rfl _ _ 25 rfl W9.heap.size 46 iT (.agg #[.string ⟨#[]⟩,.string ⟨#[]⟩,.string ⟨#[]⟩,.string ⟨#[]⟩,.string ⟨#[]⟩,.string ⟨#[]⟩]) 6 96 underlying25 HIT.out.1 HIT.out.2.1 HIT.out.2.2.1 HIT.out.2.2.2 rfl (by decide) v4 (k + 1) (bF (ts.take k) ++ t.row) rfl UT.out _ (ts.length - k) _ (bF (ts.drop k)) rfl (by rw [jf,List.length_drop]) (LY (by omega) _ _) (rG _) (by unfold maxLen; omega) (by omega) Xl ?_);intro v5 w5 hown5 hgr5 _ _;have VS:Hid (ag w w5):=Vk.out.grown hgr5 Vk.out.size (fun g hg=>by have:=(UT.out.lt g hg).1; omega);have hlp:(jL ts t).length=k + 1 + (ts.length - k):=by rw [HP.out]; simp; omega
  have hown6:w5.ownsRow W9.heap.size 46 6 v5 (jL ts t).length (bF (jL ts t)):=by
   rw [hlp,HP.out,show ts.take k ++ t::ts.drop k=(ts.take k ++ [t]) ++ ts.drop k by simp,uV,Ap]; first | exact hown5 | (rw [List.append_assoc]; exact hown5)
  have Vj:=fE (fB hown6 (Nat.le_of_lt hWs));clear hown5 hown6 hgr5 hlp;go_wp2;go_ret;exact ⟨v5,rfl,Vj.out,VS.out⟩
set_option maxRecDepth 8000 in
theorem L6 (ad:Option Addr) (cap:Nat) (ts:List Tp) (t:Tp) (w:af) (hlen:ts.length≤1048576) (hs:Sl w ad ts) :
  Calls prog 128 #[.slice ad ts.length cap,.agg #[.string t.a,.string t.b,.string t.r,.string t.c,.string t.d,.string t.s]] w fun e w'=>e=.returned (.bool (mq ts t))∧ag w w':=by
 have HS:=az hs;clear hs;obtain ⟨W0,hW0⟩:∃ W0,W0=w.alloc (.cells #[.string t.a,.string t.b,.string t.r,.string t.c,.string t.d,.string t.s] 46):=⟨_,rfl⟩;have HB0:=qZ hW0;have HX0:Hid (W0.cell? ⟨w.heap.size,0,none⟩=some (.string t.a)∧W0.cell? ⟨w.heap.size,1,none⟩=some (.string t.b)∧W0.cell? ⟨w.heap.size,2,none⟩=some (.string t.r)∧W0.cell? ⟨w.heap.size,3,none⟩=some (.string t.c)∧W0.cell? ⟨w.heap.size,4,none⟩=some (.string t.d)∧W0.cell? ⟨w.heap.size,5,none⟩=some (.string t.s)∧w.heap.size < W0.heap.size):=by show _∧_; rw [hW0]; refine ⟨?_,?_,?_,?_,?_,?_,?_⟩ <;> simp
 go_enter func128,ntmps128;go_wp2;rw [← hW0];clear hW0;go_loopw [5] (fun i wr=>∃ k:Nat,k≤ts.length∧i=.int .i64 k∧Hid (mq (ts.drop k) t=mq ts t)∧Hid (ag W0 wr)) (fun i _=>ts.length - (intOf i).toNat);case atStart=>exact ⟨0,TW _,rfl,rfl,TT _ _⟩
 obtain ⟨k,hk,rfl,HP,HB⟩:=hrel;have UG:Hid (ag w wr):=HB0.out.trans (HB.out.mono HB0.out.size);by_cases hlt:k < ts.length
 ·rcases HS.out.below UG.out with hnil | ⟨b,off,rfl,hb,hr⟩
  ·rw [hnil] at hlt; simp at hlt
  obtain ⟨t0,t1,t2,t3,t4,t5⟩:=hr k hlt;have x0:=mK HB.out HX0.out.2.2.2.2.2.2 HX0.out.1;have x1:=mK HB.out HX0.out.2.2.2.2.2.2 HX0.out.2.1;have x2:=mK HB.out HX0.out.2.2.2.2.2.2 HX0.out.2.2.1;have x3:=mK HB.out HX0.out.2.2.2.2.2.2 HX0.out.2.2.2.1;have x4:=mK HB.out HX0.out.2.2.2.2.2.2 HX0.out.2.2.2.2.1;have x5:=mK HB.out HX0.out.2.2.2.2.2.2 HX0.out.2.2.2.2.2.1;have hk1:=bB k;have hk2:(k:Int) < (ts.length:Int):=by omega
  have HD:Hid (mq ts t=(Ey ts[k] t || mq (ts.drop (k + 1)) t)):=by show _=_; rw [← HP.out]; exact CZ hlt
  clear hr;cases hq:Ey ts[k] t;case true=>
   have heq:=I8 ts[k] t hq;have HN:Hid (mq ts t=true):=by show _=_; rw [HD.out,hq]; rfl
   clear hq;go_wp2_with fail;go_region_held3 (fun w'=>w'.cell? ⟨b,off + k * 6,none⟩=some (.string ts[k].a)∧w'.cell? ⟨b,off + k * 6 + 1,none⟩=some (.string ts[k].b)∧w'.cell? ⟨b,off + k * 6 + 2,none⟩=some (.string ts[k].r)∧w'.cell? ⟨b,off + k * 6 + 3,none⟩=some (.string ts[k].c)∧w'.cell? ⟨b,off + k * 6 + 4,none⟩=some (.string ts[k].d)∧w'.cell? ⟨b,off + k * 6 + 5,none⟩=some (.string ts[k].s)∧w'.cell? ⟨w.heap.size,0,none⟩=some (.string t.a)∧w'.cell? ⟨w.heap.size,1,none⟩=some (.string t.b)∧w'.cell? ⟨w.heap.size,2,none⟩=some (.string t.r)∧w'.cell? ⟨w.heap.size,3,none⟩=some (.string t.c)∧w'.cell? ⟨w.heap.size,4,none⟩=some (.string t.d)∧w'.cell? ⟨w.heap.size,5,none⟩=some (.string t.s)∧ag wr w') (first | assumption | exact ⟨t0,t1,t2,t3,t4,t5,x0,x1,x2,x3,x4,x5,(TT _ _).drew⟩) (fail);rename_i hH;have HG:Hid (ag wr _):=hH.2.2.2.2.2.2.2.2.2.2.2.2;clear hH t0 t1 t2 t3 t4 t5 x0 x1 x2 x3 x4 x5 heq;go_wp2;go_ret;exact ⟨by rw [HN.out]; rfl,UG.out.trans (HG.out.mono UG.out.size)⟩
  have heq:=I8 ts[k] t hq;have UI:Hid (mq (ts.drop (k + 1)) t=mq ts t):=by show _=_; rw [HD.out,hq]; rfl
  clear hq;go_wp2_with fail;go_region_held3 (fun w'=>w'.cell? ⟨b,off + k * 6,none⟩=some (.string ts[k].a)∧w'.cell? ⟨b,off + k * 6 + 1,none⟩=some (.string ts[k].b)∧w'.cell? ⟨b,off + k * 6 + 2,none⟩=some (.string ts[k].r)∧w'.cell? ⟨b,off + k * 6 + 3,none⟩=some (.string ts[k].c)∧w'.cell? ⟨b,off + k * 6 + 4,none⟩=some (.string ts[k].d)∧w'.cell? ⟨b,off + k * 6 + 5,none⟩=some (.string ts[k].s)∧w'.cell? ⟨w.heap.size,0,none⟩=some (.string t.a)∧w'.cell? ⟨w.heap.size,1,none⟩=some (.string t.b)∧w'.cell? ⟨w.heap.size,2,none⟩=some (.string t.r)∧w'.cell? ⟨w.heap.size,3,none⟩=some (.string t.c)∧w'.cell? ⟨w.heap.size,4,none⟩=some (.string t.d)∧w'.cell? ⟨w.heap.size,5,none⟩=some (.string t.s)∧ag wr w') (first | assumption | exact ⟨t0,t1,t2,t3,t4,t5,x0,x1,x2,x3,x4,x5,(TT _ _).drew⟩) (fail);rename_i hH;have HG:Hid (ag W0 _):=HB.out.trans (hH.2.2.2.2.2.2.2.2.2.2.2.2.mono HB.out.size);clear hH t0 t1 t2 t3 t4 t5 x0 x1 x2 x3 x4 x5 heq;go_wp2;go_roundw;case rel=>exact ⟨k + 1,by omega,by go_num,UI,HG⟩
  simp [intOf] <;> omega
 have HN:Hid (mq ts t=false):=by show _=_; rw [← HP.out,List.drop_of_length_le (by omega)]; rfl
 go_wp2;go_ret;exact ⟨by rw [HN.out]; rfl,UG.out⟩
end Go.Proofs.YtajkkeikihhejaaGreat
namespace Go.Proofs.YtajkkeikihhejaaGreat
open Go.Sort
open Go.ChangeShapes Go.WideShapes Go.ChangeAt Go.RowKit
open Pl
attribute [local go_sem ↓] Go.wp_at_zero Go.wp_at_succ
theorem wD (b off cap:Nat) (ts:List Tp) (w:af) (hlen:ts.length≤maxLen) (hr:kL w b off ts) (hb:b < w.heap.size) (hf:∀ t ∈ ts,t.fits) :
    Calls prog 99 #[.slice (some ⟨b,off,none⟩) ts.length cap] w fun e w'=>e=.returned (.bool (dJ ts))∧ag w w':=by
  unfold maxLen at hlen;by_cases hbig:40 < ts.length
  · have HT:Hid (dJ ts=false):=by show _=_; simp [dJ]; omega
    go_enter func99,ntmps99;go_wp2;go_ret;exact ⟨ah HT.out.symm,TT _ _⟩
  · go_enter func99,ntmps99;go_wp2;go_loopw [10] (fun i wr=>∃ k:Nat,k≤ts.length∧i=.int .i64 k∧Hid (tH ts k=true)∧ag w wr) (fun i _=>ts.length - (intOf i).toNat);case atStart=>exact ⟨0,TW _,rfl,rfl,TT _ _⟩
    obtain ⟨k,hk,rfl,hu,hB⟩:=hrel;by_cases hlt:k < ts.length
    · have Xz:=pV (hr.below hB hb);have UL:=pV hf;obtain ⟨t0,t1,t2,t3,t4,t5⟩:=Xz.out k hlt;have hk1:=bB k;have hk2:(k:Int) < (ts.length:Int):=by omega
      clear hr hf;obtain ⟨W1,hW1⟩:∃ W1,W1=wr.alloc (.cells #[.string ts[k].a,.string ts[k].b,.string ts[k].r,.string ts[k].c,.string ts[k].d,.string ts[k].s] 46):=⟨_,rfl⟩;have hal:ag wr W1:=by rw [hW1]; exact (TT _ _).alloc (TS _) _
      have c0:∀ d os,(grow (redrawn W1 d) os).cell? ⟨wr.heap.size,0,none⟩=some (.string ts[k].a):=cell_regrown (by rw [hW1]; simp);have c1:∀ d os,(grow (redrawn W1 d) os).cell? ⟨wr.heap.size,1,none⟩=some (.string ts[k].b):=cell_regrown (by rw [hW1]; simp);have c2:∀ d os,(grow (redrawn W1 d) os).cell? ⟨wr.heap.size,2,none⟩=some (.string ts[k].r):=cell_regrown (by rw [hW1]; simp);have c3:∀ d os,(grow (redrawn W1 d) os).cell? ⟨wr.heap.size,3,none⟩=some (.string ts[k].c):=cell_regrown (by rw [hW1]; simp);have c4:∀ d os,(grow (redrawn W1 d) os).cell? ⟨wr.heap.size,4,none⟩=some (.string ts[k].d):=cell_regrown (by rw [hW1]; simp);have c5:∀ d os,(grow (redrawn W1 d) os).cell? ⟨wr.heap.size,5,none⟩=some (.string ts[k].s):=cell_regrown (by rw [hW1]; simp);have Ve:Hid (∀ d os,ag w (grow (redrawn W1 d) os)):=fun d os=>hB.trans ((hal.mono hB.size).trans ((below_regrown W1 d os).mono (TZ hB.size hal.size)));have HK:Hid (∀ p v,wr.cell? p=some v→W1.cell? p=some v):=fun p v h=>cell_later hal h;clear hal;go_wp2_with fail;rw [← hW1];clear hW1 t0 t1 t2 t3 t4 t5;have WZ:Hid (∀ d os,Calls prog 108 #[.agg #[.string ts[k].a,.string ts[k].b,.string ts[k].r,.string ts[k].c,.string ts[k].d,.string ts[k].s]] (grow (redrawn W1 d) os) fun e w''=>e=.returned (.bool ts[k].ok)∧∃ p:Regrown,w''=grow (redrawn W1 p.d) p.os):=by
        obtain ⟨f0,f1,f2,f3,f4,f5⟩:=UL.out ts[k] (TQ hlt);exact dm fun W' _=>gm _ _ _ _ _ _ _ f0 f1 f2 f3 f4 f5
      cases hok:ts[k].ok;case false=>
        have HT:Hid (dJ ts=false):=uS hlt (Kk hlt hok);rw [hok] at WZ;clear hok;refine wp_region_quiet_below (by kernel_rfl) (by kernel_rfl) ?_
        repeat (go_big_quiet_step (exact WZ.out _ _))
        refine wpQuiet_nil ?_;rintro _ ⟨⟨dq,osq⟩,rfl⟩;go_wp2;go_ret;exact ⟨ah HT.out.symm,Ve.out dq osq⟩
      rw [hok] at WZ;by_cases hz:k=0
      · have HU:Hid (tH ts (k + 1)=true):=by show _=_; rw [rE,hu.out]; subst hz; rw [wB hlt,hok]; rfl
        have hk8:decide ((0:Int) < (k:Int))=false:=by simp; omega
        have hk9:decide (0 < k)=false:=by simp; omega
        clear hok hz;refine wp_region_quiet_below (by kernel_rfl) (by kernel_rfl) ?_
        repeat (go_big_quiet_step (exact WZ.out _ _))
        refine wpQuiet_nil ?_;rintro _ ⟨⟨dq,osq⟩,rfl⟩;go_wp2;go_roundw;case rel=>exact ⟨k + 1,by omega,by go_num,HU,Ve.out dq osq⟩
        simp [intOf]; omega
      · obtain ⟨m,hm⟩:∃ m:Nat,k=m + 1:=⟨k - 1,by omega⟩;have U6:m < ts.length:=by omega
        obtain ⟨q0,q1,q2,q3,q4,q5⟩:=Xz.out m U6;replace q0:=cell_regrown (HK.out _ _ q0);replace q1:=cell_regrown (HK.out _ _ q1);replace q2:=cell_regrown (HK.out _ _ q2);replace q3:=cell_regrown (HK.out _ _ q3);replace q4:=cell_regrown (HK.out _ _ q4);replace q5:=cell_regrown (HK.out _ _ q5);have hkm:(k:Int) - 1=(m:Int):=by omega
        have hm1:=bB m;have hm2:(m:Int) < (ts.length:Int):=by omega
        have hpos:(0:Int) < (k:Int):=by omega
        have hposN:0 < k:=by omega
        have hwm:IntKind.i64.wrap (m:Int)=(m:Int):=by rw [IntKind.wrap_i64]; omega
        have HA:Hid (uR ts k=ts[m].ahead ts[k]):=by show _=_; subst hm; rw [rF hlt,hok]; rfl
        have YH:Hid (∀ d os,Calls prog 141 #[.agg #[.string ts[m].a,.string ts[m].b,.string ts[m].r,.string ts[m].c,.string ts[m].d,.string ts[m].s],.agg #[.string ts[k].a,.string ts[k].b,.string ts[k].r,.string ts[k].c,.string ts[k].d,.string ts[k].s]] (grow (redrawn W1 d) os) fun e w''=>e=.returned (.bool (ts[m].ahead ts[k]))∧∃ p:Regrown,w''=grow (redrawn W1 p.d) p.os):=by
          obtain ⟨f0,f1,f2,f3,f4,f5⟩:=UL.out ts[k] (TQ hlt);obtain ⟨g0,g1,g2,g3,g4,g5⟩:=UL.out ts[m] (TQ U6);exact dm fun W' _=>BG _ _ _ _ _ _ _ _ _ _ _ _ _ g0 g1 g2 g3 g4 g5 f0 f1 f2 f3 f4 f5
        clear hm hz hok;cases ha:ts[m].ahead ts[k];case false=>
          have HT:Hid (dJ ts=false):=uS hlt (by rw [HA.out,ha]);rw [ha] at YH;clear ha HA;refine wp_region_quiet_below (by kernel_rfl) (by kernel_rfl) ?_
          repeat (go_big_quiet_step (first | exact WZ.out _ _ | exact YH.out _ _))
          refine wpQuiet_nil ?_;rintro _ ⟨⟨dq,osq⟩,rfl⟩;go_wp2;go_ret;exact ⟨ah HT.out.symm,Ve.out dq osq⟩
        have HU:Hid (tH ts (k + 1)=true):=by show _=_; rw [rE,hu.out,HA.out,ha]; rfl
        rw [ha] at YH;clear ha HA;refine wp_region_quiet_below (by kernel_rfl) (by kernel_rfl) ?_
        repeat (go_big_quiet_step (first | exact WZ.out _ _ | exact YH.out _ _))
        refine wpQuiet_nil ?_;rintro _ ⟨⟨dq,osq⟩,rfl⟩;go_wp2;go_roundw;case rel=>exact ⟨k + 1,by omega,by go_num,HU,Ve.out dq osq⟩
        simp [intOf]; omega
    · go_wp2;go_ret;exact ⟨ah (by have e:k=ts.length:=(by omega);subst e;simp [dJ,hu.out]; omega),hB⟩
end Go.Proofs.YtajkkeikihhejaaGreat
