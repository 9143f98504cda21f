/- Contract of the document's function that puts a tuple into its place. -/
import Derived.Test.YtajkkeikihhejaaGreatSq
import Derived.Test.YtajkkeikihhejaaGreatJ19
import Derived.Test.YtajkkeikihhejaaGreatJ10
import Derived.Test.YtajkkeikihhejaaGreatJ24
open Go.Proofs.Tryz
set_option maxHeartbeats 80000000
namespace Go.Proofs.YtajkkeikihhejaaGreat
open Go.ChangeShapes Go.WideShapes Go.ChangeAt Go.RowKit Go.Maps
open Pl
set_option maxRecDepth 8000 in
theorem MC (b off cap:Nat) (ts:List Tp) (t:Tp) (w:af) (hlen:ts.length≤1000) (hcap:ts.length≤cap) (hs:kJ w b off ts) (hb:b < w.heap.size) (hf:∀ x ∈ ts,x.fits) (ht:t.fits) :
  Calls prog 129 #[.slice (some ⟨b,off,none⟩) ts.length cap,.agg #[.string t.a,.string t.b,.string t.r,.string t.c,.string t.d,.string t.s]] w fun e w'=>∃ v:Value,e=.returned v∧w'.ownsRow w.heap.size 46 6 v (jL ts t).length (bG (jL ts t))∧ag w w':=by
 obtain ⟨iT,hiT,zT0,zT1,zT2⟩:=info_parts (P:=prog) (e:=46) (z:=.agg #[.string ⟨#[]⟩,.string ⟨#[]⟩,.string ⟨#[]⟩,.string ⟨#[]⟩,.string ⟨#[]⟩,.string ⟨#[]⟩]) (size:=6) (bytes:=96) (by kernel_rfl);have HIT:Hid (prog.info? 46=some iT∧iT.zero=some (.agg #[.string ⟨#[]⟩,.string ⟨#[]⟩,.string ⟨#[]⟩,.string ⟨#[]⟩,.string ⟨#[]⟩,.string ⟨#[]⟩])∧iT.size=6∧iT.bytes=96):=⟨hiT,zT0,zT1,zT2⟩;have HS:=az hs;have HF:=az hf;have HT:Hid t.fits:=ht;clear hs hf ht hiT zT0 zT1 zT2;obtain ⟨W0,hW0⟩:∃ W0,W0=w.alloc (.cells #[.string t.a,.string t.b,.string t.r,.string t.c,.string t.d,.string t.s] 46):=⟨_,rfl⟩;have HB0:=qY hW0;have HX0:Hid (tZ W0 w.heap.size t):=by show tZ _ _ _; rw [hW0]; exact Ef w t _
 go_enter func129,ntmps129;go_wp2;rw [← hW0];clear hW0;go_loopw [5] (fun i wr=>∃ k:Nat,k≤ts.length∧i=.int .i64 k∧Hid (∀ i (h:i < ts.length),i < k→ts[i].ahead t=true)∧Hid (ag w wr)∧Hid (tZ wr w.heap.size t)) (fun i _=>ts.length - (intOf i).toNat);case atStart=>exact ⟨0,TW _,rfl,fun i h hi=>by omega,HB0,HX0⟩
 clear HX0 HB0;obtain ⟨k,hk,rfl,HU,HB,HX⟩:=hrel;have hk1:=bB k;by_cases hlt:k < ts.length
 ·have hk2:(k:Int) < (ts.length:Int):=by omega
  obtain ⟨t0,t1,t2,t3,t4,t5⟩:=(HS.out.below HB.out hb) k hlt;obtain ⟨x0,x1,x2,x3,x4,x5,xl⟩:=HX.out;have hbr:b < wr.heap.size:=TP hb HB.out.size;obtain ⟨f0,f1,f2,f3,f4,f5⟩:=HF.out _ (TQ hlt);obtain ⟨e0,e1,e2,e3,e4,e5⟩:=HT.out;have HA:Hid (∀ W,Calls prog 137 #[.agg #[.string ts[k].a,.string ts[k].b,.string ts[k].r,.string ts[k].c,.string ts[k].d,.string ts[k].s],.agg #[.string t.a,.string t.b,.string t.r,.string t.c,.string t.d,.string t.s]] W fun e w'=>e=.returned (.bool (ts[k].ahead t))∧ag W w'):=fun W=>nD _ _ _ _ _ _ _ _ _ _ _ _ W f0 f1 f2 f3 f4 f5 e0 e1 e2 e3 e4 e5;clear f0 f1 f2 f3 f4 f5 e0 e1 e2 e3 e4 e5;have H0:wr.drew.cell? ⟨b,off + k * 6,none⟩=some (.string ts[k].a)∧wr.drew.cell? ⟨b,off + k * 6 + 1,none⟩=some (.string ts[k].b)∧wr.drew.cell? ⟨b,off + k * 6 + 2,none⟩=some (.string ts[k].r)∧wr.drew.cell? ⟨b,off + k * 6 + 3,none⟩=some (.string ts[k].c)∧wr.drew.cell? ⟨b,off + k * 6 + 4,none⟩=some (.string ts[k].d)∧wr.drew.cell? ⟨b,off + k * 6 + 5,none⟩=some (.string ts[k].s)∧wr.drew.cell? ⟨w.heap.size,0,none⟩=some (.string t.a)∧wr.drew.cell? ⟨w.heap.size,1,none⟩=some (.string t.b)∧wr.drew.cell? ⟨w.heap.size,2,none⟩=some (.string t.r)∧wr.drew.cell? ⟨w.heap.size,3,none⟩=some (.string t.c)∧wr.drew.cell? ⟨w.heap.size,4,none⟩=some (.string t.d)∧wr.drew.cell? ⟨w.heap.size,5,none⟩=some (.string t.s)∧b < wr.drew.heap.size∧w.heap.size < wr.drew.heap.size∧ag w wr.drew:=⟨t0,t1,t2,t3,t4,t5,x0,x1,x2,x3,x4,x5,hbr,xl,HB.out.drew⟩;clear t0 t1 t2 t3 t4 t5 x0 x1 x2 x3 x4 x5;generalize hq:ts[k].ahead t=q at HA;cases q;case true=>
   have HQ:Hid (ts[k].ahead t=true):=hq;clear hq;go_wp2_with fail
   go_region_held3 (fun w'=>w'.cell? ⟨b,off + k * 6,none⟩=some (.string ts[k].a)∧w'.cell? ⟨b,off + k * 6 + 1,none⟩=some (.string ts[k].b)∧w'.cell? ⟨b,off + k * 6 + 2,none⟩=some (.string ts[k].r)∧w'.cell? ⟨b,off + k * 6 + 3,none⟩=some (.string ts[k].c)∧w'.cell? ⟨b,off + k * 6 + 4,none⟩=some (.string ts[k].d)∧w'.cell? ⟨b,off + k * 6 + 5,none⟩=some (.string ts[k].s)∧w'.cell? ⟨w.heap.size,0,none⟩=some (.string t.a)∧w'.cell? ⟨w.heap.size,1,none⟩=some (.string t.b)∧w'.cell? ⟨w.heap.size,2,none⟩=some (.string t.r)∧w'.cell? ⟨w.heap.size,3,none⟩=some (.string t.c)∧w'.cell? ⟨w.heap.size,4,none⟩=some (.string t.d)∧w'.cell? ⟨w.heap.size,5,none⟩=some (.string t.s)∧b < w'.heap.size∧w.heap.size < w'.heap.size∧ag w w')
    (first | assumption | exact Kt (by assumption) hbx | exact H0)
    (first | (go_at_call 137; refine (HA.out _).mono ?_; rintro e w' ⟨rfl,hbx⟩))
   rename_i hH;obtain ⟨-,-,-,-,-,-,x0,x1,x2,x3,x4,x5,-,xl,gB⟩:=hH;have HB2:=fE gB;have Xh:=fE (Om x0 x1 x2 x3 x4 x5 xl);have Yx:Hid (∀ i (h:i < ts.length),i < k + 1→ts[i].ahead t=true):=fun i h hi=>by
    by_cases e:i=k
    ·subst e; exact HQ.out
    exact HU.out i h (by omega)
   clear x0 x1 x2 x3 x4 x5 gB hbx H0 HA HQ HU HB HX;go_wp2;go_roundw;case rel=>exact ⟨k + 1,by omega,by go_num,Yx,HB2,Xh⟩
   simp [intOf] <;> omega
  have HQ:Hid (ts[k].ahead t=false):=hq;clear hq;go_wp2_with fail
  go_region_held3 (fun w'=>w'.cell? ⟨b,off + k * 6,none⟩=some (.string ts[k].a)∧w'.cell? ⟨b,off + k * 6 + 1,none⟩=some (.string ts[k].b)∧w'.cell? ⟨b,off + k * 6 + 2,none⟩=some (.string ts[k].r)∧w'.cell? ⟨b,off + k * 6 + 3,none⟩=some (.string ts[k].c)∧w'.cell? ⟨b,off + k * 6 + 4,none⟩=some (.string ts[k].d)∧w'.cell? ⟨b,off + k * 6 + 5,none⟩=some (.string ts[k].s)∧w'.cell? ⟨w.heap.size,0,none⟩=some (.string t.a)∧w'.cell? ⟨w.heap.size,1,none⟩=some (.string t.b)∧w'.cell? ⟨w.heap.size,2,none⟩=some (.string t.r)∧w'.cell? ⟨w.heap.size,3,none⟩=some (.string t.c)∧w'.cell? ⟨w.heap.size,4,none⟩=some (.string t.d)∧w'.cell? ⟨w.heap.size,5,none⟩=some (.string t.s)∧b < w'.heap.size∧w.heap.size < w'.heap.size∧ag w w')
   (first | assumption | exact Kt (by assumption) hbx | exact H0)
   (first | (go_at_call 137; refine (HA.out _).mono ?_; rintro e w' ⟨rfl,hbx⟩))
  rename_i hH;obtain ⟨-,-,-,-,-,-,x0,x1,x2,x3,x4,x5,-,xl,gB⟩:=hH;have HP:=fE (Kr ts t k hk HU.out (fun _=>HQ.out));have UG:=fE gB;have HXW:=fE (Om x0 x1 x2 x3 x4 x5 xl);clear hbx H0 HA HQ HU HB HX gB x0 x1 x2 x3 x4 x5;obtain ⟨W1,hW1⟩:∃ W1,W1=w'.alloc (.cells #[] 46):=⟨_,rfl⟩;have Vg:Hid (W1.ownsRow w'.heap.size 46 6 (.slice (some ⟨w'.heap.size,0,none⟩) 0 0) 0 []):=by
   show World.ownsRow _ _ _ _ _ _ _;rw [hW1];exact World.ownsRow_lit w' #[] 0 (TS _) (by unfold maxLen; omega) (by simp)
  have Vo:=qY hW1;have HR1:Hid (kJ W1 b off ts):=(HS.out.below UG.out hb).below Vo.out (TP hb UG.out.size);have Xk:=az (HXW.out.below Vo.out);have HB1:Hid (ag w W1):=UG.out.trans (Vo.out.mono UG.out.size);have hWs:w.heap.size < w'.heap.size:=HXW.out.2.2.2.2.2.2;have hb1:b < W1.heap.size:=TP hb HB1.out.size;have hkc:k≤cap:=by omega
  have hz1:w'.heap.size≤W1.heap.size:=Vo.out.size;clear UG HXW Vo;go_wp2_with (at_builtin; rw [← hW1]; clear hW1; refine wpList_append_own_at _ rfl _ _ 25 rfl w'.heap.size 46 iT (.agg #[.string ⟨#[]⟩,.string ⟨#[]⟩,.string ⟨#[]⟩,.string ⟨#[]⟩,.string ⟨#[]⟩,.string ⟨#[]⟩]) 6 96 underlying25 HIT.out.1 HIT.out.2.1 HIT.out.2.2.1 HIT.out.2.2.2 rfl (by decide) _ 0 [] rfl Vg.out ⟨b,off,none⟩ k cap (bG (ts.take k)) rfl (by rw [je,Ut]; congr 1; omega) (tK (CJ HR1.out k)) (rC _) (by unfold maxLen; omega) (by omega) hz1 ?_);intro v2 w2 hown2 U1 _ _;have UB:Hid (w2.ownsRow w'.heap.size 46 6 v2 k (bG (ts.take k))):=by
   show World.ownsRow _ _ _ _ _ _ _
   first | exact hown2 | (rw [Um,List.nil_append] at hown2; exact hown2)
  have hne:some w.heap.size ≠ Value.ownBlock (.slice (some ⟨w'.heap.size,0,none⟩) 0 0):=fun e=>by simp [Value.ownBlock] at e; omega
  have hnb:some b ≠ Value.ownBlock (.slice (some ⟨w'.heap.size,0,none⟩) 0 0):=fun e=>by simp [Value.ownBlock] at e; omega
  have Xh:Hid (tZ w2 w.heap.size t):=Xk.out.grown U1 hne;have HR2:Hid (kJ w2 b off ts):=o6 HR1.out U1 hb1 hnb;have HB2:Hid (ag w w2):=HB1.out.grown U1 HB1.out.size (fun g hg=>by simp [Value.ownBlock] at hg; omega);have hz2:w'.heap.size≤w2.heap.size:=TZ hz1 U1.size;clear hown2 U1 Vg Xk HR1 HB1 hne hnb;obtain ⟨x0,x1,x2,x3,x4,x5,xl2⟩:=Xh.out;obtain ⟨W3,hW3⟩:∃ W3,W3=w2.alloc (.cells #[.string t.a,.string t.b,.string t.r,.string t.c,.string t.d,.string t.s] 46):=⟨_,rfl⟩;have UX:Hid (W3.ownsRow w'.heap.size 46 6 v2 k (bG (ts.take k))):=by show World.ownsRow _ _ _ _ _ _ _; rw [hW3]; exact UB.out.alloc _
  have Wi:Hid (∀ j u,t.row[j]?=some u→W3.cell? ((⟨w2.heap.size,0,none⟩:Addr).add j)=some u):=by show ∀ j u,_; rw [hW3]; exact CE w2 t
  have Xc:=qY hW3;have HB3:Hid (ag w W3):=HB2.out.trans (Xc.out.mono HB2.out.size);have HR3:Hid (kJ W3 b off ts):=HR2.out.below Xc.out (TP hb HB2.out.size);have hz3:w'.heap.size≤W3.heap.size:=TZ hz2 Xc.out.size;have hb3:b < W3.heap.size:=TP hb HB3.out.size;clear Xc HB2 HR2 Xh hb1 hz1 hz2;go_wp2_with (at_builtin; rw [← hW3]; clear hW3; refine wpList_append_own_at _ rfl _ _ 25 rfl w'.heap.size 46 iT (.agg #[.string ⟨#[]⟩,.string ⟨#[]⟩,.string ⟨#[]⟩,.string ⟨#[]⟩,.string ⟨#[]⟩,.string ⟨#[]⟩]) 6 96 underlying25 HIT.out.1 HIT.out.2.1 HIT.out.2.2.1 HIT.out.2.2.2 rfl (by decide) v2 k (bG (ts.take k)) rfl UX.out ⟨w2.heap.size,0,none⟩ 1 1 t.row rfl rfl Wi.out (zM _) (by unfold maxLen; omega) (by omega) hz3 ?_);intro v4 w4 U0 Vp _ _;have hnb:some b ≠ v2.ownBlock:=fun e=>by have:=(UB.out.lt b e.symm).1; omega
  have HR4:Hid (kJ w4 b off ts):=o6 HR3.out Vp hb3 hnb;have Vi:Hid (ag w w4):=HB3.out.grown Vp HB3.out.size (fun g hg=>by have:=(UB.out.lt g hg).1; omega);have UR:=az U0;have Xj:w'.heap.size≤w4.heap.size:=TZ hz3 Vp.size;clear U0 Vp UX UB Wi HB3 HR3 hb3 hz3 hnb x0 x1 x2 x3 x4 x5 xl2;have hdl:(ts.drop k).length=ts.length - k:=List.length_drop;clear hdl;go_wp2_with (at_builtin; refine wpList_append_own_at _ rfl _ _ 25 rfl w'.heap.size 46 iT (.agg #[.string ⟨#[]⟩,.string ⟨#[]⟩,.string ⟨#[]⟩,.string ⟨#[]⟩,.string ⟨#[]⟩,.string ⟨#[]⟩]) 6 96 underlying25 HIT.out.1 HIT.out.2.1 HIT.out.2.2.1 HIT.out.2.2.2 rfl (by decide) v4 (k + 1) (bG (ts.take k) ++ t.row) rfl UR.out ⟨b,off + k * 6,none⟩ (ts.length - k) (cap - k) (bG (ts.drop k)) rfl (by rw [je,List.length_drop]) (tK (Lp HR4.out k)) (rC _) (by unfold maxLen; omega) (by omega) Xj ?_);intro v5 w5 hown5 hgr5 _ _;have VQ:Hid (ag w w5):=Vi.out.grown hgr5 Vi.out.size (fun g hg=>by have:=(UR.out.lt g hg).1; omega);have hlp:(jL ts t).length=k + 1 + (ts.length - k):=by rw [HP.out]; simp; omega
  have hown6:w5.ownsRow w'.heap.size 46 6 v5 (jL ts t).length (bG (jL ts t)):=by
   rw [hlp,HP.out,show ts.take k ++ t::ts.drop k=(ts.take k ++ [t]) ++ ts.drop k by simp,uQ,zL]; first | exact hown5 | (rw [List.append_assoc]; exact hown5)
  have Vh:=fE (fB hown6 (Nat.le_of_lt hWs));clear hown5 hown6 hgr5 hlp;go_wp2;go_ret;exact ⟨v5,rfl,Vh.out,VQ.out⟩
 have hd:decide ((k:Int) < (ts.length:Int))=false:=by simp; omega
 go_wp2_with fail;go_quiet (fail);have HP:=fE (Kr ts t k hk HU.out (fun h=>absurd h hlt));obtain ⟨W9,Yr⟩:∃ W9,wr.drewN nq=W9:=⟨_,rfl⟩;have UG:Hid (ag w W9):=by show Below _ _ _; rw [← Yr]; exact ⟨HB.out.os,HB.out.tape,HB.out.output,HB.out.size,HB.out.block⟩
 have HXW:Hid (tZ W9 w.heap.size t):=by show tZ _ _ _; rw [← Yr]; exact HX.out
 rw [Yr];clear Yr HU HB HX hd;obtain ⟨W1,hW1⟩:∃ W1,W1=W9.alloc (.cells #[] 46):=⟨_,rfl⟩;have Vg:Hid (W1.ownsRow W9.heap.size 46 6 (.slice (some ⟨W9.heap.size,0,none⟩) 0 0) 0 []):=by
  show World.ownsRow _ _ _ _ _ _ _;rw [hW1];exact World.ownsRow_lit W9 #[] 0 (TS _) (by unfold maxLen; omega) (by simp)
 have Vo:=qY hW1;have HR1:Hid (kJ W1 b off ts):=(HS.out.below UG.out hb).below Vo.out (TP hb UG.out.size);have Xk:=az (HXW.out.below Vo.out);have HB1:Hid (ag w W1):=UG.out.trans (Vo.out.mono UG.out.size);have hWs:w.heap.size < W9.heap.size:=HXW.out.2.2.2.2.2.2;have hb1:b < W1.heap.size:=TP hb HB1.out.size;have hkc:k≤cap:=by omega
 have hz1:W9.heap.size≤W1.heap.size:=Vo.out.size;clear UG HXW Vo;go_wp2_with (at_builtin; rw [← hW1]; clear hW1; refine wpList_append_own_at _ rfl _ _ 25 rfl W9.heap.size 46 iT (.agg #[.string ⟨#[]⟩,.string ⟨#[]⟩,.string ⟨#[]⟩,.string ⟨#[]⟩,.string ⟨#[]⟩,.string ⟨#[]⟩]) 6 96 underlying25 HIT.out.1 HIT.out.2.1 HIT.out.2.2.1 HIT.out.2.2.2 rfl (by decide) _ 0 [] rfl Vg.out ⟨b,off,none⟩ k cap (bG (ts.take k)) rfl (by rw [je,Ut]; congr 1; omega) (tK (CJ HR1.out k)) (rC _) (by unfold maxLen; omega) (by omega) hz1 ?_);intro v2 w2 hown2 U1 _ _;have UB:Hid (w2.ownsRow W9.heap.size 46 6 v2 k (bG (ts.take k))):=by
  show World.ownsRow _ _ _ _ _ _ _
  first | exact hown2 | (rw [Um,List.nil_append] at hown2; exact hown2)
 have hne:some w.heap.size ≠ Value.ownBlock (.slice (some ⟨W9.heap.size,0,none⟩) 0 0):=fun e=>by simp [Value.ownBlock] at e; omega
 have hnb:some b ≠ Value.ownBlock (.slice (some ⟨W9.heap.size,0,none⟩) 0 0):=fun e=>by simp [Value.ownBlock] at e; omega
 have Xh:Hid (tZ w2 w.heap.size t):=Xk.out.grown U1 hne;have HR2:Hid (kJ w2 b off ts):=o6 HR1.out U1 hb1 hnb;have HB2:Hid (ag w w2):=HB1.out.grown U1 HB1.out.size (fun g hg=>by simp [Value.ownBlock] at hg; omega);have hz2:W9.heap.size≤w2.heap.size:=TZ hz1 U1.size;clear hown2 U1 Vg Xk HR1 HB1 hne hnb;obtain ⟨x0,x1,x2,x3,x4,x5,xl2⟩:=Xh.out;obtain ⟨W3,hW3⟩:∃ W3,W3=w2.alloc (.cells #[.string t.a,.string t.b,.string t.r,.string t.c,.string t.d,.string t.s] 46):=⟨_,rfl⟩;have UX:Hid (W3.ownsRow W9.heap.size 46 6 v2 k (bG (ts.take k))):=by show World.ownsRow _ _ _ _ _ _ _; rw [hW3]; exact UB.out.alloc _
 have Wi:Hid (∀ j u,t.row[j]?=some u→W3.cell? ((⟨w2.heap.size,0,none⟩:Addr).add j)=some u):=by show ∀ j u,_; rw [hW3]; exact CE w2 t
 have Xc:=qY hW3;have HB3:Hid (ag w W3):=HB2.out.trans (Xc.out.mono HB2.out.size);have HR3:Hid (kJ W3 b off ts):=HR2.out.below Xc.out (TP hb HB2.out.size);have hz3:W9.heap.size≤W3.heap.size:=TZ hz2 Xc.out.size;have hb3:b < W3.heap.size:=TP hb HB3.out.size;clear Xc HB2 HR2 Xh hb1 hz1 hz2;go_wp2_with (at_builtin; rw [← hW3]; clear hW3; refine wpList_append_own_at _ rfl _ _ 25 rfl W9.heap.size 46 iT (.agg #[.string ⟨#[]⟩,.string ⟨#[]⟩,.string ⟨#[]⟩,.string ⟨#[]⟩,.string ⟨#[]⟩,.string ⟨#[]⟩]) 6 96 underlying25 HIT.out.1 HIT.out.2.1 HIT.out.2.2.1 HIT.out.2.2.2 rfl (by decide) v2 k (bG (ts.take k)) rfl UX.out ⟨w2.heap.size,0,none⟩ 1 1 t.row rfl rfl Wi.out (zM _) (by unfold maxLen; omega) (by omega) hz3 ?_);intro v4 w4 U0 Vp _ _;have hnb:some b ≠ v2.ownBlock:=fun e=>by have:=(UB.out.lt b e.symm).1; omega
 have HR4:Hid (kJ w4 b off ts):=o6 HR3.out Vp hb3 hnb;have Vi:Hid (ag w w4):=HB3.out.grown Vp HB3.out.size (fun g hg=>by have:=(UB.out.lt g hg).1; omega);have UR:=az U0;have Xj:W9.heap.size≤w4.heap.size:=TZ hz3 Vp.size;clear U0 Vp UX UB Wi HB3 HR3 hb3 hz3 hnb x0 x1 x2 x3 x4 x5 xl2;have hdl:(ts.drop k).length=ts.length - k:=List.length_drop;clear hdl;by_cases hce:cap=k
 all_goals
  go_wp2_with (at_builtin; refine wpList_append_own_at _ rfl _ _ 25 rfl W9.heap.size 46 iT (.agg #[.string ⟨#[]⟩,.string ⟨#[]⟩,.string ⟨#[]⟩,.string ⟨#[]⟩,.string ⟨#[]⟩,.string ⟨#[]⟩]) 6 96 underlying25 HIT.out.1 HIT.out.2.1 HIT.out.2.2.1 HIT.out.2.2.2 rfl (by decide) v4 (k + 1) (bG (ts.take k) ++ t.row) rfl UR.out _ (ts.length - k) _ (bG (ts.drop k)) rfl (by rw [je,List.length_drop]) (Lr (by omega) _ _) (rC _) (by unfold maxLen; omega) (by omega) Xj ?_);intro v5 w5 hown5 hgr5 _ _;have VQ:Hid (ag w w5):=Vi.out.grown hgr5 Vi.out.size (fun g hg=>by have:=(UR.out.lt g hg).1; omega);have hlp:(jL ts t).length=k + 1 + (ts.length - k):=by rw [HP.out]; simp; omega
  have hown6:w5.ownsRow W9.heap.size 46 6 v5 (jL ts t).length (bG (jL ts t)):=by
   rw [hlp,HP.out,show ts.take k ++ t::ts.drop k=(ts.take k ++ [t]) ++ ts.drop k by simp,uQ,zL]; first | exact hown5 | (rw [List.append_assoc]; exact hown5)
  have Vh:=fE (fB hown6 (Nat.le_of_lt hWs));clear hown5 hown6 hgr5 hlp;go_wp2;go_ret;exact ⟨v5,rfl,Vh.out,VQ.out⟩
set_option maxRecDepth 8000 in
theorem ME (ad:Option Addr) (cap:Nat) (ts:List Tp) (t:Tp) (w:af) (hlen:ts.length≤1048576) (hs:Sl w ad ts) :
  Calls prog 128 #[.slice ad ts.length cap,.agg #[.string t.a,.string t.b,.string t.r,.string t.c,.string t.d,.string t.s]] w fun e w'=>e=.returned (.bool (l7 ts t))∧ag w w':=by
 have HS:=az hs;clear hs;obtain ⟨W0,hW0⟩:∃ W0,W0=w.alloc (.cells #[.string t.a,.string t.b,.string t.r,.string t.c,.string t.d,.string t.s] 46):=⟨_,rfl⟩;have HB0:=qY hW0;have HX0:Hid (W0.cell? ⟨w.heap.size,0,none⟩=some (.string t.a)∧W0.cell? ⟨w.heap.size,1,none⟩=some (.string t.b)∧W0.cell? ⟨w.heap.size,2,none⟩=some (.string t.r)∧W0.cell? ⟨w.heap.size,3,none⟩=some (.string t.c)∧W0.cell? ⟨w.heap.size,4,none⟩=some (.string t.d)∧W0.cell? ⟨w.heap.size,5,none⟩=some (.string t.s)∧w.heap.size < W0.heap.size):=by show _∧_; rw [hW0]; refine ⟨?_,?_,?_,?_,?_,?_,?_⟩ <;> simp
 go_enter func128,ntmps128;go_wp2;rw [← hW0];clear hW0;go_loopw [5] (fun i wr=>∃ k:Nat,k≤ts.length∧i=.int .i64 k∧Hid (l7 (ts.drop k) t=l7 ts t)∧Hid (ag W0 wr)) (fun i _=>ts.length - (intOf i).toNat);case atStart=>exact ⟨0,TW _,rfl,rfl,TT _ _⟩
 obtain ⟨k,hk,rfl,HP,HB⟩:=hrel;have UG:Hid (ag w wr):=HB0.out.trans (HB.out.mono HB0.out.size);by_cases hlt:k < ts.length
 ·rcases HS.out.below UG.out with hnil | ⟨b,off,rfl,hb,hr⟩
  ·rw [hnil] at hlt; simp at hlt
  obtain ⟨t0,t1,t2,t3,t4,t5⟩:=hr k hlt;have x0:=mK HB.out HX0.out.2.2.2.2.2.2 HX0.out.1;have x1:=mK HB.out HX0.out.2.2.2.2.2.2 HX0.out.2.1;have x2:=mK HB.out HX0.out.2.2.2.2.2.2 HX0.out.2.2.1;have x3:=mK HB.out HX0.out.2.2.2.2.2.2 HX0.out.2.2.2.1;have x4:=mK HB.out HX0.out.2.2.2.2.2.2 HX0.out.2.2.2.2.1;have x5:=mK HB.out HX0.out.2.2.2.2.2.2 HX0.out.2.2.2.2.2.1;have hk1:=bB k;have hk2:(k:Int) < (ts.length:Int):=by omega
  have HD:Hid (l7 ts t=(Ee ts[k] t || l7 (ts.drop (k + 1)) t)):=by show _=_; rw [← HP.out]; exact Cz hlt
  clear hr;cases hq:Ee ts[k] t;case true=>
   have heq:=Iw ts[k] t hq;have HN:Hid (l7 ts t=true):=by show _=_; rw [HD.out,hq]; rfl
   clear hq;go_wp2_with fail;go_region_held3 (fun w'=>w'.cell? ⟨b,off + k * 6,none⟩=some (.string ts[k].a)∧w'.cell? ⟨b,off + k * 6 + 1,none⟩=some (.string ts[k].b)∧w'.cell? ⟨b,off + k * 6 + 2,none⟩=some (.string ts[k].r)∧w'.cell? ⟨b,off + k * 6 + 3,none⟩=some (.string ts[k].c)∧w'.cell? ⟨b,off + k * 6 + 4,none⟩=some (.string ts[k].d)∧w'.cell? ⟨b,off + k * 6 + 5,none⟩=some (.string ts[k].s)∧w'.cell? ⟨w.heap.size,0,none⟩=some (.string t.a)∧w'.cell? ⟨w.heap.size,1,none⟩=some (.string t.b)∧w'.cell? ⟨w.heap.size,2,none⟩=some (.string t.r)∧w'.cell? ⟨w.heap.size,3,none⟩=some (.string t.c)∧w'.cell? ⟨w.heap.size,4,none⟩=some (.string t.d)∧w'.cell? ⟨w.heap.size,5,none⟩=some (.string t.s)∧ag wr w') (first | assumption | exact ⟨t0,t1,t2,t3,t4,t5,x0,x1,x2,x3,x4,x5,(TT _ _).drew⟩) (fail);rename_i hH;have HG:Hid (ag wr _):=hH.2.2.2.2.2.2.2.2.2.2.2.2;clear hH t0 t1 t2 t3 t4 t5 x0 x1 x2 x3 x4 x5 heq;go_wp2;go_ret;exact ⟨by rw [HN.out]; rfl,UG.out.trans (HG.out.mono UG.out.size)⟩
  have heq:=Iw ts[k] t hq;have UI:Hid (l7 (ts.drop (k + 1)) t=l7 ts t):=by show _=_; rw [HD.out,hq]; rfl
  clear hq;go_wp2_with fail;go_region_held3 (fun w'=>w'.cell? ⟨b,off + k * 6,none⟩=some (.string ts[k].a)∧w'.cell? ⟨b,off + k * 6 + 1,none⟩=some (.string ts[k].b)∧w'.cell? ⟨b,off + k * 6 + 2,none⟩=some (.string ts[k].r)∧w'.cell? ⟨b,off + k * 6 + 3,none⟩=some (.string ts[k].c)∧w'.cell? ⟨b,off + k * 6 + 4,none⟩=some (.string ts[k].d)∧w'.cell? ⟨b,off + k * 6 + 5,none⟩=some (.string ts[k].s)∧w'.cell? ⟨w.heap.size,0,none⟩=some (.string t.a)∧w'.cell? ⟨w.heap.size,1,none⟩=some (.string t.b)∧w'.cell? ⟨w.heap.size,2,none⟩=some (.string t.r)∧w'.cell? ⟨w.heap.size,3,none⟩=some (.string t.c)∧w'.cell? ⟨w.heap.size,4,none⟩=some (.string t.d)∧w'.cell? ⟨w.heap.size,5,none⟩=some (.string t.s)∧ag wr w') (first | assumption | exact ⟨t0,t1,t2,t3,t4,t5,x0,x1,x2,x3,x4,x5,(TT _ _).drew⟩) (fail);rename_i hH;have HG:Hid (ag W0 _):=HB.out.trans (hH.2.2.2.2.2.2.2.2.2.2.2.2.mono HB.out.size);clear hH t0 t1 t2 t3 t4 t5 x0 x1 x2 x3 x4 x5 heq;go_wp2;go_roundw;case rel=>exact ⟨k + 1,by omega,by go_num,UI,HG⟩
  simp [intOf] <;> omega
 have HN:Hid (l7 ts t=false):=by show _=_; rw [← HP.out,List.drop_of_length_le (by omega)]; rfl
 go_wp2;go_ret;exact ⟨by rw [HN.out]; rfl,UG.out⟩
def rV (ts:List Tp) (t:Tp):Bool:=dJ ts && t.ok && !l7 ts t && !(ts.length == 40)
def BM (ts:List Tp) (t:Tp):List Tp:=if rV ts t then jL ts t else []
theorem Bd {ts:List Tp} {t:Tp} (h:rV ts t=true):BM ts t=jL ts t:=by simp [BM,h]
theorem rO {ts:List Tp} {t:Tp} (h:rV ts t=false):BM ts t=[]:=by simp [BM,h]
def SC (w w':World) (e:Ending) (L:List Tp) (f:Bool):Prop:=∃ v:Value,e=.returned (.tuple #[v,.bool f])∧w'.ownsRow w.heap.size 46 6 v L.length (bG L)∧ag w w'
theorem sw (b off cap:Nat) (ts:List Tp) (t:Tp) (w:af) (hlen:ts.length≤1048576) (hcap:ts.length≤cap) (hs:kJ w b off ts) (hb:b < w.heap.size) (hf:∀ x ∈ ts,x.fits) (ht:t.fits) :
  Calls prog 88 #[.slice (some ⟨b,off,none⟩) ts.length cap,.agg #[.string t.a,.string t.b,.string t.r,.string t.c,.string t.d,.string t.s]] w fun e w'=>SC w w' e (BM ts t) (rV ts t):=by
 have HF:=fE hf;have UL:=fE ht;obtain ⟨W0,hW0⟩:∃ W0,W0=w.alloc (.cells #[.string t.a,.string t.b,.string t.r,.string t.c,.string t.d,.string t.s] 46):=⟨_,rfl⟩;have HB0:=qY hW0;have HX0:Hid (tZ W0 w.heap.size t):=by show tZ _ _ _; rw [hW0]; exact Ef w t _
 have HS:=fE hs;have SL:Hid (∀ W:World,ag w W→Sl W (some ⟨b,off,none⟩) ts):=fun W hB=>.inr ⟨b,off,rfl,TP hb hB.size,HS.out.below hB hb⟩;have U5:ts.length≤maxLen:=by unfold maxLen; omega
 have HT:=fE (ow (some ⟨b,off,none⟩) cap ts W0 U5 (SL.out _ HB0.out) hf);clear hs hf U5 ht;go_enter func88,ntmps88;go_wp2_with fail;rw [← hW0]; clear hW0;refine HT.out.mono ?_;rintro e w1 ⟨he,hb1⟩;have HB1:=jP HB0 hb1;have Xk:=az (HX0.out.below hb1);clear HT HX0 HB0 hb1;cases h1:dJ ts;case false=>
  rw [h1] at he; subst he;have HR:Hid (rV ts t=false):=by show _=_; simp [rV,h1]
  have HL:Hid (BM ts t=[]):=rO HR.out;clear h1;go_wp2
  go_ret2
  exact ⟨.slice none 0 0,by rw [HR.out]; rfl,by rw [HL.out]; exact World.ownsRow_nil _ _ _ _,HB1.out⟩
 rw [h1] at he; subst he;obtain ⟨x0,x1,x2,x3,x4,x5,xl⟩:=Xk.out;have H1:=fE h1;obtain ⟨e0,e1,e2,e3,e4,e5⟩:=UL.out;have HH:=fE (dX t.a t.b t.r t.c t.d t.s w1 e0 e1 e2 e3 e4 e5);clear h1 e0 e1 e2 e3 e4 e5;go_wp2_with fail;refine HH.out.mono ?_;rintro e w2 ⟨he,hb2⟩;have HB2:=jP HB1 hb2;have Xh:=az (Xk.out.below hb2);clear HH Xk HB1 hb2 x0 x1 x2 x3 x4 x5 xl;cases h2:t.ok;case false=>
  have h2':bI t.a t.b t.r t.c t.d t.s=false:=h2;rw [h2'] at he; subst he;have HR:Hid (rV ts t=false):=by show _=_; simp [rV,H1.out,h2]
  have HL:Hid (BM ts t=[]):=rO HR.out;clear h2 h2';go_wp2
  go_ret2
  exact ⟨.slice none 0 0,by rw [HR.out]; rfl,by rw [HL.out]; exact World.ownsRow_nil _ _ _ _,HB2.out⟩
 have h2':bI t.a t.b t.r t.c t.d t.s=true:=h2;rw [h2'] at he; subst he;have H2:=fE h2;obtain ⟨x0,x1,x2,x3,x4,x5,xl⟩:=Xh.out;have HH:=fE (ME (some ⟨b,off,none⟩) cap ts t w2 hlen (SL.out _ HB2.out));clear h2 h2';go_wp2_with fail;refine HH.out.mono ?_;rintro e w3 ⟨he,hb3⟩;have HB3:=jP HB2 hb3;have HX3:=az (Xh.out.below hb3);clear HH Xh HB2 hb3 x0 x1 x2 x3 x4 x5 xl;cases h3:l7 ts t;case true=>
  rw [h3] at he; subst he;have HR:Hid (rV ts t=false):=by show _=_; simp [rV,H1.out,H2.out,h3]
  have HL:Hid (BM ts t=[]):=rO HR.out;clear h3;go_wp2
  go_ret2
  exact ⟨.slice none 0 0,by rw [HR.out]; rfl,by rw [HL.out]; exact World.ownsRow_nil _ _ _ _,HB3.out⟩
 rw [h3] at he; subst he;have H3:=fE h3;clear h3;by_cases h4:ts.length=40
 ·have HR:Hid (rV ts t=false):=by show _=_; simp [rV,H1.out,H2.out,H3.out,h4]
  have HL:Hid (BM ts t=[]):=rO HR.out;have h5:((ts.length:Int) == 40)=true:=by simp; omega
  have H4:=fE h4;clear h4;go_wp2
  go_ret2
  exact ⟨.slice none 0 0,by rw [HR.out]; rfl,by rw [HL.out]; exact World.ownsRow_nil _ _ _ _,HB3.out⟩
 have HR:Hid (rV ts t=true):=by show _=_; simp [rV,H1.out,H2.out,H3.out,h4]
 have HL:Hid (BM ts t=jL ts t):=Bd HR.out;have h5:((ts.length:Int) == 40)=false:=by simp; omega
 have h40:=Lm H1.out;obtain ⟨x0,x1,x2,x3,x4,x5,xl⟩:=HX3.out;have HP:=fE (MC b off cap ts t w3 (by omega) hcap (HS.out.below HB3.out hb) (TP hb HB3.out.size) HF.out UL.out);clear HX3;go_wp2_with fail;refine HP.out.mono ?_;rintro e w4 ⟨v4,rfl,hs4,hb4⟩;have HS4:=fE hs4;clear hs4 HP x0 x1 x2 x3 x4 x5 xl;go_wp2
 go_ret2
 exact ⟨v4,by rw [HR.out]; rfl,by rw [HL.out]; exact fB HS4.out HB3.out.size,HB3.out.trans (hb4.mono HB3.out.size)⟩
def Tp.short (t:Tp):Prop:=t.a.size≤20∧t.b.size≤20∧t.r.size≤20∧t.c.size≤20∧t.d.size≤20∧t.s.size≤20
theorem Tp.short.fits {t:Tp} (h:t.short):t.fits:=by unfold Tp.short at h; unfold Tp.fits maxLen; omega
def qU (ts:List Tp):Prop:=∀ t ∈ ts,t.short
theorem qU.fits {ts:List Tp} (h:qU ts):∀ t ∈ ts,t.fits:=fun t ht=>(h t ht).fits
theorem MF:qU []:=fun t ht=>by cases ht
theorem rP (ts:List Tp) (t:Tp):(jL ts t).length=ts.length + 1:=by
 induction ts with
 | nil=>rfl
 | cons x xs ih =>
  unfold jL;split
  ·simp [ih]
  simp
theorem qU.put {ts:List Tp} {t:Tp} (h:qU ts) (ht:t.short):qU (jL ts t):=fun x hx=>by
 rcases (Ol ts t x).1 hx with rfl | k
 ·exact ht
 exact h x k
theorem oF {w w':af} {R base n:Nat} {v:Value} {xs:List Value} (h:w.ownsRow base 46 6 v n xs) (hR:R < base) (hO:Only R w w'):w'.ownsRow base 46 6 v n xs :=
 h.kept hO (.inr fun e=>by have:=(h.lt R e).1; omega)
theorem nk {w:af} {base g n c:Nat} {ts:List Tp} (h:w.ownsRow base 46 6 (.slice (some ⟨g,0,none⟩) n c) n (bG ts)) (hn:n=ts.length):kJ w g 0 ts∧g < w.heap.size∧n≤c∧base≤g:=by
 have hlt:=h.lt g rfl;refine ⟨?_,hlt.2,?_,hlt.1⟩
 ·subst hn;intro i hi;have key:∀ j,j < 6→w.cell? ⟨g,0 + i * 6 + j,none⟩=(ts[i]).row[j]?:=fun j hj=>by
   rw [h.cellAt (0 + i * 6 + j) (by have:=je ts; omega),← uL ts i hi j hj,Um]
  exact ⟨key 0 (by omega),key 1 (by omega),key 2 (by omega),key 3 (by omega),key 4 (by omega),key 5 (by omega)⟩
 rcases h.2 with ⟨e,-⟩ | ⟨g',cap',cur,e,-,-,hle,-⟩
 ·cases e
 injection e with e1 e2 e3; omega
theorem sD {W:af} {base:Nat} {e:TypeId} {size:Nat} {v:Value} {k:Nat} {xs:List Value} (h:W.ownsRow base e size v (k + 1) xs):∃ g cap,v=.slice (some ⟨g,0,none⟩) (k + 1) cap:=by
 rcases h.2 with ⟨_,h0⟩ | ⟨g,cap,_,rfl,_⟩
 ·omega
 exact ⟨g,cap,rfl⟩
theorem Rd.grown {w w':af} {R:Nat} {ad:Option Addr} {len cap:Nat} {row:Option Nat} (h:Rd w R ad len cap) (hg:w.grownBy w' row) (hR:some R ≠ row) (hb:0 < len→∀ b off,ad=some ⟨b,off,none⟩→some b ≠ row):Rd w' R ad len cap where
 lt:=TP h.lt hg.size
 code:=hg.cell h.code hR
 place:=by obtain ⟨p,hp,hl⟩:=h.place; exact ⟨p,hg.cell hp hR,hl⟩
 free:=(World.frozen?_of_block (w:=w) (a:=⟨R,1,none⟩) (hg.block R h.lt hR)).trans h.free
 bytes h0:=by
  obtain ⟨b,off,e,hne,hbl,hc⟩:=h.bytes h0;refine ⟨b,off,e,hne,TP hbl hg.size,fun i hi=>?_⟩;obtain ⟨c,c0,c1,hcc⟩:=hc i hi;exact ⟨c,c0,c1,hg.cell hcc (hb h0 b off e)⟩
 small:=h.small
set_option linter.unusedVariables false
set_option maxRecDepth 100000
theorem oG {w w':af} {base:Nat} {e:TypeId} {size:Nat} {v:Value} {n:Nat} {xs:List Value} (h:w.ownsRow base e size v n xs) (hh:∀ g,v.ownBlock=some g→w'.heap[g]?=w.heap[g]?):w'.ownsRow base e size v n xs:=by
 refine ⟨h.1,?_⟩;rcases h.2 with hl | ⟨g,cap,cur,rfl,h1,h2,h3⟩
 ·exact .inl hl
 exact .inr ⟨g,cap,cur,rfl,h1,(hh g rfl).trans h2,h3⟩
theorem Be {w:af} {base size n:Nat} {e:TypeId} {v:Value} {xs:List Value} (h:w.ownsRow base e size v n xs):∃ ad cap,v=.slice ad n cap:=by
 rcases h.2 with ⟨rfl,h0⟩ | ⟨g,cap,cur,rfl,-⟩
 ·exact ⟨none,0,by rw [h0]⟩
 exact ⟨_,_,rfl⟩
theorem Dv {w:af} {base size n cap:Nat} {e:TypeId} {ad:Option Addr} {xs:List Value} (h:w.ownsRow base e size (.slice ad n cap) n xs) (hn:n ≠ 0):∃ g,ad=some ⟨g,0,none⟩∧(Value.slice ad n cap).ownBlock=some g:=by
 rcases h.2 with ⟨-,h0⟩ | ⟨g,cap',cur,e1,-⟩
 ·exact absurd h0 hn
 injection e1 with e1;exact ⟨g,e1,by rw [e1]; rfl⟩
theorem wX {w:af} {base base' size n:Nat} {e:TypeId} {v:Value} {xs:List Value} (h:w.ownsRow base e size v n xs) (hb:base'≤base):w.ownsRow base' e size v n xs:=by
 refine ⟨h.1,?_⟩;rcases h.2 with hl | ⟨g,cap,cur,e,h1,h2⟩
 ·exact .inl hl
 exact .inr ⟨g,cap,cur,e,TZ hb h1,h2⟩
theorem QV {w:af} {base size n cap:Nat} {e:TypeId} {ad:Option Addr} {xs:List Value} (h:w.ownsRow base e size (.slice ad n cap) n xs):n≤cap:=by
 rcases h.2 with ⟨e1,h0⟩ | ⟨g,cap',cur,e1,-,-,hnc,-⟩
 ·injection e1 with _ e2 e3; omega
 injection e1 with _ e2 e3; omega
theorem JL (xs:List Fc):∀ p,aH (xs.take p)=(aH xs).take (p * 5):=by
 induction xs with
 | nil=>intro p; simp [aH]
 | cons x xs ih =>
  intro p;cases p with
  | zero=>simp [aH]
  | succ p =>
   have ih:=ih p;unfold aH at ih ⊢;rw [List.take_succ_cons,List.flatMap_cons,List.flatMap_cons,ih,show (p + 1) * 5=p * 5 + 1 + 1 + 1 + 1 + 1 by omega];simp [Fc.row]
theorem JM (xs:List Fc):∀ p,aH (xs.drop p)=(aH xs).drop (p * 5):=by
 induction xs with
 | nil=>intro p; simp [aH]
 | cons x xs ih =>
  intro p;cases p with
  | zero=>simp [aH]
  | succ p =>
   have ih:=ih p;unfold aH at ih ⊢;rw [List.drop_succ_cons,List.flatMap_cons,ih,show (p + 1) * 5=p * 5 + 1 + 1 + 1 + 1 + 1 by omega];simp [Fc.row]
theorem Bf {w:af} {base g n cap:Nat} {xs:List Fc} (h:w.ownsRow base 29 5 (.slice (some ⟨g,0,none⟩) n cap) n (aH xs)) (p:Nat) (hp:p≤n):∀ j u,(aH (xs.take p))[j]?=some u→w.cell? ((⟨g,0,none⟩:Addr).add j)=some u:=fun j u hu=>by
 rw [JL,List.getElem?_take] at hu;split at hu
 ·rename_i hj;have:=h.cellAt j (by omega);rw [hu] at this;have e:(⟨g,0,none⟩:Addr).add j=⟨g,j,none⟩:=by unfold Addr.add; split <;> simp_all
  rw [e]; exact this
 cases hu
theorem JN {w:af} {base g n cap:Nat} {xs:List Fc} (h:w.ownsRow base 29 5 (.slice (some ⟨g,0,none⟩) n cap) n (aH xs)) (p:Nat) (hp:p≤n):∀ j u,(aH (xs.drop p))[j]?=some u→w.cell? ((⟨g,p * 5,none⟩:Addr).add j)=some u:=fun j u hu=>by
 rw [JM,List.getElem?_drop] at hu;have hl:=h.1;have hj:p * 5 + j < n * 5:=by
  rw [← hl]; exact (List.getElem?_eq_some_iff.1 hu).1
 have:=h.cellAt (p * 5 + j) hj;rw [hu] at this;have e:(⟨g,p * 5,none⟩:Addr).add j=⟨g,p * 5 + j,none⟩:=by unfold Addr.add; split <;> simp_all
 rw [e]; exact this
theorem vM (xs:List Fc):∀ u ∈ aH xs,u.oneCell'=true:=fun u hu=>by
 obtain ⟨q,-,h⟩:=Uf.1 hu;simp only [Fc.row,List.mem_cons,List.not_mem_nil,or_false] at h;rcases h with rfl | rfl | rfl | rfl | rfl <;> rfl
theorem JO {w:af} {a:Addr} {xs:List Fc} (h:xs=[]):∀ j u,(aH xs)[j]?=some u→w.cell? (a.add j)=some u:=fun j u hu=>by
 rw [h] at hu; simp [aH] at hu
end Go.Proofs.YtajkkeikihhejaaGreat
namespace Go.Proofs.YtajkkeikihhejaaGreat
open Go.ChangeShapes Go.WideShapes Go.ChangeAt Go.RowKit
open Pl
attribute [local go_sem ↓] Go.wp_at_zero Go.wp_at_succ
theorem MG (a b r c d:bH) (w:af) :
  Calls prog 181 #[.agg #[.string a,.string b,.string r,.string c,.string d]] w fun e w'=>e=.returned (.agg #[.string a,.string b,.string r,.string c,.string d,.string ⟨#[]⟩])∧ag w w':=by
 go_enter func181,ntmps181;go_wp2;exact bodyPost_ret (v:=.agg #[.string a,.string b,.string r,.string c,.string d,.string ⟨#[]⟩]) (by simp [results,Tryz.results181,go_sem, *]) rfl ⟨rfl,by
  repeat (first | exact TT _ _ | refine Below.setCell ?_ (by first | (simp; done) | (simp; omega)) _ | refine Below.alloc ?_ (by first | (simp; done) | (simp; omega)) _)⟩
theorem QW {w W w':af} {n m k:Nat} {x0 x1 x2 x3 x4 y0 y1 y2 y3 y4:Value} (hk:k≤n) (h:W.cell? ⟨n,0,none⟩=some x0∧W.cell? ⟨n,1,none⟩=some x1∧W.cell? ⟨n,2,none⟩=some x2∧W.cell? ⟨n,3,none⟩=some x3∧W.cell? ⟨n,4,none⟩=some x4∧W.cell? ⟨m,0,none⟩=some y0∧W.cell? ⟨m,1,none⟩=some y1∧W.cell? ⟨m,2,none⟩=some y2∧W.cell? ⟨m,3,none⟩=some y3∧W.cell? ⟨m,4,none⟩=some y4∧n < W.heap.size∧m < W.heap.size∧Below k w W) (hb:ag W w'):w'.cell? ⟨n,0,none⟩=some x0∧w'.cell? ⟨n,1,none⟩=some x1∧w'.cell? ⟨n,2,none⟩=some x2∧w'.cell? ⟨n,3,none⟩=some x3∧w'.cell? ⟨n,4,none⟩=some x4∧w'.cell? ⟨m,0,none⟩=some y0∧w'.cell? ⟨m,1,none⟩=some y1∧w'.cell? ⟨m,2,none⟩=some y2∧w'.cell? ⟨m,3,none⟩=some y3∧w'.cell? ⟨m,4,none⟩=some y4∧n < w'.heap.size∧m < w'.heap.size∧Below k w w':=by
 obtain ⟨h0,h1,h2,h3,h4,h5,h6,h7,h8,h9,hn,hm,hB⟩:=h;have hc:∀ o,w'.cell? ⟨n,o,none⟩=W.cell? ⟨n,o,none⟩:=fun o=>hb.cell (p:=⟨n,o,none⟩) hn;have hd:∀ o,w'.cell? ⟨m,o,none⟩=W.cell? ⟨m,o,none⟩:=fun o=>hb.cell (p:=⟨m,o,none⟩) hm;exact ⟨by rw [hc]; exact h0,by rw [hc]; exact h1,by rw [hc]; exact h2,by rw [hc]; exact h3,by rw [hc]; exact h4,by rw [hd]; exact h5,by rw [hd]; exact h6,by rw [hd]; exact h7,by rw [hd]; exact h8,by rw [hd]; exact h9,TP hn hb.size,TP hm hb.size,hB.trans (hb.mono (by omega))⟩
theorem TD (a b r c d a' b' r' c' d':bH) (w W:af) (hW:W=((w.alloc (.cells #[.string a,.string b,.string r,.string c,.string d] 29)).alloc (.cells #[.string a',.string b',.string r',.string c',.string d'] 29))):W.drew.cell? ⟨w.heap.size,0,none⟩=some (.string a)∧W.drew.cell? ⟨w.heap.size,1,none⟩=some (.string b)∧W.drew.cell? ⟨w.heap.size,2,none⟩=some (.string r)∧W.drew.cell? ⟨w.heap.size,3,none⟩=some (.string c)∧W.drew.cell? ⟨w.heap.size,4,none⟩=some (.string d)∧W.drew.cell? ⟨w.heap.size + 1,0,none⟩=some (.string a')∧W.drew.cell? ⟨w.heap.size + 1,1,none⟩=some (.string b')∧W.drew.cell? ⟨w.heap.size + 1,2,none⟩=some (.string r')∧W.drew.cell? ⟨w.heap.size + 1,3,none⟩=some (.string c')∧W.drew.cell? ⟨w.heap.size + 1,4,none⟩=some (.string d')∧w.heap.size < W.drew.heap.size∧w.heap.size + 1 < W.drew.heap.size∧ag w W.drew:=by
 subst hW;refine ⟨?_,?_,?_,?_,?_,?_,?_,?_,?_,?_,?_,?_,?_⟩
 all_goals first | exact (zP _ _ _).drew | (simp; done) | (simp; omega)
theorem vO (a b r c d a' b' r' c' d':bH) (w:af) (ha:a.size≤maxLen) (hb:b.size≤maxLen) (hr:r.size≤maxLen) (hc:c.size≤maxLen) (hd:d.size≤maxLen) (ga:a'.size≤maxLen) (gb:b'.size≤maxLen) (gr:r'.size≤maxLen) (gc:c'.size≤maxLen) (gd:d'.size≤maxLen) :
  Calls prog 130 #[.agg #[.string a,.string b,.string r,.string c,.string d],.agg #[.string a',.string b',.string r',.string c',.string d']] w fun e w'=>e=.returned (.bool (fU a b r c d ⟨#[]⟩ a' b' r' c' d' ⟨#[]⟩))∧ag w w':=by
 have he0:(⟨#[]⟩:ByteArray).size≤maxLen:=by decide
 have H0:=TD a b r c d a' b' r' c' d' w _ rfl;go_enter func130,ntmps130;go_wp2_with fail
 go_region_held3 (fun w'=>w'.cell? ⟨w.heap.size,0,none⟩=some (.string a)∧w'.cell? ⟨w.heap.size,1,none⟩=some (.string b)∧w'.cell? ⟨w.heap.size,2,none⟩=some (.string r)∧w'.cell? ⟨w.heap.size,3,none⟩=some (.string c)∧w'.cell? ⟨w.heap.size,4,none⟩=some (.string d)∧w'.cell? ⟨w.heap.size + 1,0,none⟩=some (.string a')∧w'.cell? ⟨w.heap.size + 1,1,none⟩=some (.string b')∧w'.cell? ⟨w.heap.size + 1,2,none⟩=some (.string r')∧w'.cell? ⟨w.heap.size + 1,3,none⟩=some (.string c')∧w'.cell? ⟨w.heap.size + 1,4,none⟩=some (.string d')∧w.heap.size < w'.heap.size∧w.heap.size + 1 < w'.heap.size∧ag w w')
  (first | assumption | exact QW (TS _) (by assumption) hbx | exact H0)
  (first | (go_at_call 181; refine (MG _ _ _ _ _ _).mono ?_; rintro e w' ⟨rfl,hbx⟩) | (go_at_call 137; refine (nD _ _ _ _ _ _ _ _ _ _ _ _ _ (by assumption) (by assumption) (by assumption) (by assumption) (by assumption) (by assumption) (by assumption) (by assumption) (by assumption) (by assumption) (by assumption) (by assumption)).mono ?_; rintro e w' ⟨rfl,hbx⟩))
 rename_i hJ;obtain ⟨-,-,-,-,-,-,-,-,-,-,-,-,gB⟩:=hJ;go_wp2;go_ret;exact ⟨rfl,gB⟩
end Go.Proofs.YtajkkeikihhejaaGreat
namespace Go.Proofs.YtajkkeikihhejaaGreat
set_option maxRecDepth 100000
set_option linter.unusedVariables false
open Go.ChangeShapes Go.WideShapes Go.ChangeAt Go.RowKit Go.Maps
open Pl
def oH (x y:Fc):Bool:=fU x.a x.b x.r x.c x.d ⟨#[]⟩ y.a y.b y.r y.c y.d ⟨#[]⟩
theorem KD {w W w':af} {n m i0 i1 i2 i3 i4 j0 j1 j2 j3 j4:Nat} {x0 x1 x2 x3 x4 y0 y1 y2 y3 y4:Value} (h:W.cell? ⟨n,i0,none⟩=some x0∧W.cell? ⟨n,i1,none⟩=some x1∧W.cell? ⟨n,i2,none⟩=some x2∧W.cell? ⟨n,i3,none⟩=some x3∧W.cell? ⟨n,i4,none⟩=some x4∧W.cell? ⟨m,j0,none⟩=some y0∧W.cell? ⟨m,j1,none⟩=some y1∧W.cell? ⟨m,j2,none⟩=some y2∧W.cell? ⟨m,j3,none⟩=some y3∧W.cell? ⟨m,j4,none⟩=some y4∧ag w W) (hb:ag W w'):w'.cell? ⟨n,i0,none⟩=some x0∧w'.cell? ⟨n,i1,none⟩=some x1∧w'.cell? ⟨n,i2,none⟩=some x2∧w'.cell? ⟨n,i3,none⟩=some x3∧w'.cell? ⟨n,i4,none⟩=some x4∧w'.cell? ⟨m,j0,none⟩=some y0∧w'.cell? ⟨m,j1,none⟩=some y1∧w'.cell? ⟨m,j2,none⟩=some y2∧w'.cell? ⟨m,j3,none⟩=some y3∧w'.cell? ⟨m,j4,none⟩=some y4∧ag w w':=by
 obtain ⟨h0,h1,h2,h3,h4,k0,k1,k2,k3,k4,hB⟩:=h;exact ⟨bf hb (aF h0) h0,bf hb (aF h1) h1,bf hb (aF h2) h2,bf hb (aF h3) h3,bf hb (aF h4) h4,bf hb (aF k0) k0,bf hb (aF k1) k1,bf hb (aF k2) k2,bf hb (aF k3) k3,bf hb (aF k4) k4,hB.trans (hb.mono hB.size)⟩
theorem JP (ad:Option Addr) (cap:Nat) (rows:List Fc) (w:af) (hlen:rows.length≤1048576) (hs:Bu w ad rows) (hfit:∀ x ∈ rows,x.fits) :
  Calls prog 89 #[.slice ad rows.length cap] w fun e w'=>(∃ v:Value,e=.returned v∧w'.ownsRow w.heap.size 29 5 v rows.length (aH (ku oH rows)))∧ag w w':=by
 obtain ⟨iR,Y0,zR0,zR1,zR2⟩:=Et;have Vx:Hid (prog.info? 29=some iR∧iR.zero=some (.agg #[.string ⟨#[]⟩,.string ⟨#[]⟩,.string ⟨#[]⟩,.string ⟨#[]⟩,.string ⟨#[]⟩])∧iR.size=5∧iR.bytes=80):=⟨Y0,zR0,zR1,zR2⟩;have HS:=aC hs;have UL:=aC hfit;clear hs hfit Y0 zR0 zR1 zR2;obtain ⟨W0,hW0⟩:∃ W0,W0=w.alloc (.cells #[] 29):=⟨_,rfl⟩;have HB0:=qY hW0;have VX:Hid (W0.ownsRow w.heap.size 29 5 (.slice (some ⟨w.heap.size,0,none⟩) 0 0) 0 []):=by
  show World.ownsRow _ _ _ _ _ _ _;rw [hW0];exact World.ownsRow_lit w #[] 0 (TS _) (by unfold maxLen; omega) (by simp)
 go_enter func89,ntmps89;go_wp2_with fail;rw [← hW0];clear hW0;go_loopw [3,4] (fun v i wr=>∃ (k g c:Nat),k≤rows.length∧i=.int .i64 k∧v=.slice (some ⟨g,0,none⟩) k c∧Hid (wr.ownsRow w.heap.size 29 5 (.slice (some ⟨g,0,none⟩) k c) k (aH (ku oH (rows.take k))))∧Hid (ag w wr)) (fun _ i _=>rows.length - (intOf i).toNat);case atStart=>exact ⟨0,w.heap.size,0,TW _,rfl,rfl,VX,HB0⟩
 clear VX HB0;obtain ⟨k,g,c,hk,rfl,rfl,HO,HB⟩:=hrel;by_cases hlt:k < rows.length
 ·obtain ⟨acc,hacc⟩:∃ acc,acc=ku oH (rows.take k):=⟨_,rfl⟩;obtain ⟨b,off,UF,hrow,hbl⟩:∃ b off,ad=some ⟨b,off,none⟩∧wL w b (off + k * 5) rows[k]∧b < w.heap.size:=by
   rcases HS.out with h | ⟨b',off',e,hb,hr⟩
   ·rw [h] at hlt; simp at hlt
   exact ⟨b',off',e,hr k hlt,hb⟩
  obtain ⟨x,hx⟩:∃ x,rows[k]=x:=⟨_,rfl⟩;have HNX:Hid (ku oH (rows.take (k + 1))=qp oH x acc):=by show _=_; rw [TV hlt,Ih,hacc,hx]
  have hal:acc.length=k:=by rw [hacc,(iZ _).length_eq,Ut]; omega
  have Xi:Hid x.fits:=by show Fc.fits x; rw [← hx]; exact UL.out _ (TQ hlt)
  have HAF:Hid (∀ z ∈ acc,z.fits):=fun z hz=>by
   rw [hacc] at hz;exact UL.out z (List.mem_of_mem_take ((iZ _).mem_iff.1 hz))
  rw [← hacc] at HO;rw [hx] at hrow;have UN:=aC hal;have hkc:k≤c:=QV HO.out;have hk1:=bB k;have hk2:(k:Int) < (rows.length:Int):=by omega
  have Vn:=aC hrow;have Yp:=aC hbl;obtain ⟨wo,hwo⟩:∃ wo,wo=wr:=⟨_,rfl⟩;subst hwo;subst UF;clear hacc hal hrow hbl hx;go_wp2_with fail;go_loopw [5] (fun i wr=>∃ p:Nat,p≤k∧i=.int .i64 p∧Hid (∀ (i:Nat) (h:i < acc.length),i < p→oH acc[i] x=true)∧Hid (ag wo wr)) (fun i _=>k - (intOf i).toNat);case atStart=>exact ⟨0,TW _,rfl,fun i h hi=>absurd hi (Uw _),TT _ _⟩
  obtain ⟨p,hp,rfl,HU,HBP⟩:=hrel;have HOP:Hid (wr.ownsRow w.heap.size 29 5 (.slice (some ⟨g,0,none⟩) k c) k (aH acc)):=oG HO.out fun z hz=>HBP.out.block z (HO.out.lt z hz).2;have HBWP:Hid (ag w wr):=HB.out.trans (HBP.out.mono HB.out.size);obtain ⟨y0,y1,y2,y3,y4⟩:=Vn.out.same (fun o=>HBWP.out.cell (p:=⟨b,o,none⟩) Yp.out);have hbr:b < wr.heap.size:=TP Yp.out HBWP.out.size;have hgr:g < wr.heap.size:=(HOP.out.lt g rfl).2;have hp1:=bB p;by_cases hpk:p < k
  ·have hp2:(p:Int) < (k:Int):=by omega
   have hd:decide ((p:Int) < (k:Int))=true:=by simp; omega
   have hpa:p < acc.length:=by rw [UN.out]; exact hpk
   obtain ⟨y,hy⟩:∃ y,acc[p]=y:=⟨_,rfl⟩;have hc5:∀ c,c < 5→wr.cell? ⟨g,p * 5 + c,none⟩=y.row[c]?:=fun c hc=>by
    rw [HOP.out.cellAt (p * 5 + c) (by omega),qH acc p hpa c hc,hy]
   have s0:wr.cell? ⟨g,p * 5,none⟩=some (.string y.a):=hc5 0 (by omega);have s1:wr.cell? ⟨g,p * 5 + 1,none⟩=some (.string y.b):=hc5 1 (by omega);have s2:wr.cell? ⟨g,p * 5 + 2,none⟩=some (.string y.r):=hc5 2 (by omega);have s3:wr.cell? ⟨g,p * 5 + 3,none⟩=some (.string y.c):=hc5 3 (by omega);have s4:wr.cell? ⟨g,p * 5 + 4,none⟩=some (.string y.d):=hc5 4 (by omega);have hyf:y.fits:=by rw [← hy]; exact HAF.out _ (TQ hpa)
   have HC:Hid (∀ W':World,Calls prog 130 #[.agg #[.string y.a,.string y.b,.string y.r,.string y.c,.string y.d],.agg #[.string x.a,.string x.b,.string x.r,.string x.c,.string x.d]] W' fun e w'=>e=.returned (.bool (oH y x))∧ag W' w'):=fun W'=>vO _ _ _ _ _ _ _ _ _ _ W' hyf.1 hyf.2.1 hyf.2.2.1 hyf.2.2.2.1 hyf.2.2.2.2 Xi.out.1 Xi.out.2.1 Xi.out.2.2.1 Xi.out.2.2.2.1 Xi.out.2.2.2.2;clear hc5 hyf;have HYE:=aC hy;clear hy;have hbp:=HBP.out;cases hq:oH y x;case true=>
    have Yx:Hid (∀ (i:Nat) (h:i < acc.length),i < p + 1→oH acc[i] x=true):=fun i h hi=>by
     by_cases e:i=p
     ·subst e; rw [HYE.out]; exact hq
     exact HU.out i h (by omega)
    rw [hq] at HC;clear hq;go_wp2_with fail
    go_region_held3 (fun w'=>w'.cell? ⟨g,p * 5,none⟩=some (.string y.a)∧w'.cell? ⟨g,p * 5 + 1,none⟩=some (.string y.b)∧w'.cell? ⟨g,p * 5 + 2,none⟩=some (.string y.r)∧w'.cell? ⟨g,p * 5 + 3,none⟩=some (.string y.c)∧w'.cell? ⟨g,p * 5 + 4,none⟩=some (.string y.d)∧w'.cell? ⟨b,off + k * 5,none⟩=some (.string x.a)∧w'.cell? ⟨b,off + k * 5 + 1,none⟩=some (.string x.b)∧w'.cell? ⟨b,off + k * 5 + 2,none⟩=some (.string x.r)∧w'.cell? ⟨b,off + k * 5 + 3,none⟩=some (.string x.c)∧w'.cell? ⟨b,off + k * 5 + 4,none⟩=some (.string x.d)∧ag wo w')
     (first | assumption | exact KD (by assumption) hbx | exact ⟨s0,s1,s2,s3,s4,y0,y1,y2,y3,y4,hbp.drew⟩)
     (first | (go_at_call 130; refine (HC.out _).mono ?_; rintro e w' ⟨rfl,hbx⟩))
    rename_i hJ;have HJB:=aC hJ.2.2.2.2.2.2.2.2.2.2;have Xy:Hid (wr.heap.size≤w'.heap.size):=by show _≤_; exact TZ (by first | exact TS _ | simp) hbx.size
    clear hJ s0 s1 s2 s3 s4 y0 y1 y2 y3 y4 hd;go_wp2;go_roundw;case rel=>exact ⟨p + 1,by omega,by go_num,Yx,HJB⟩
    simp [intOf] <;> omega
   have HPT:Hid (qp oH x acc=acc.take p ++ x::acc.drop p):=D8 (by rw [UN.out]; exact hp) HU.out (fun _=>by rw [HYE.out]; exact hq);rw [hq] at HC;clear hq;go_wp2_with fail
   go_region_held3 (fun w'=>w'.cell? ⟨g,p * 5,none⟩=some (.string y.a)∧w'.cell? ⟨g,p * 5 + 1,none⟩=some (.string y.b)∧w'.cell? ⟨g,p * 5 + 2,none⟩=some (.string y.r)∧w'.cell? ⟨g,p * 5 + 3,none⟩=some (.string y.c)∧w'.cell? ⟨g,p * 5 + 4,none⟩=some (.string y.d)∧w'.cell? ⟨b,off + k * 5,none⟩=some (.string x.a)∧w'.cell? ⟨b,off + k * 5 + 1,none⟩=some (.string x.b)∧w'.cell? ⟨b,off + k * 5 + 2,none⟩=some (.string x.r)∧w'.cell? ⟨b,off + k * 5 + 3,none⟩=some (.string x.c)∧w'.cell? ⟨b,off + k * 5 + 4,none⟩=some (.string x.d)∧ag wo w')
    (first | assumption | exact KD (by assumption) hbx | exact ⟨s0,s1,s2,s3,s4,y0,y1,y2,y3,y4,hbp.drew⟩)
    (first | (go_at_call 130; refine (HC.out _).mono ?_; rintro e w' ⟨rfl,hbx⟩))
   rename_i hJ;have HJB:=aC hJ.2.2.2.2.2.2.2.2.2.2;have Xy:Hid (wr.heap.size≤w'.heap.size):=by show _≤_; exact TZ (by first | exact TS _ | simp) hbx.size
   obtain ⟨X,hX⟩:∃ X,w'=X:=⟨_,rfl⟩;subst hX;have U3:=az HJB;have HSX:Hid (wr.heap.size≤w'.heap.size):=by show _≤_; exact Xy.out
   clear hJ s0 s1 s2 s3 s4 hd HC HYE hbp HJB Xy;clear y0 y1 y2 y3 y4 hbr HOP HBWP HBP HU;obtain ⟨W1,hW1⟩:∃ W1,W1=w'.alloc (.cells #[] 29):=⟨_,rfl⟩;have Vg:Hid (W1.ownsRow w'.heap.size 29 5 (.slice (some ⟨w'.heap.size,0,none⟩) 0 0) 0 []):=by
    show World.ownsRow _ _ _ _ _ _ _;rw [hW1];exact World.ownsRow_lit w' #[] 0 (TS _) (by unfold maxLen; omega) (by simp)
   have HB1:=qY hW1;have Zz:Hid (ag wo W1):=U3.out.trans (HB1.out.mono U3.out.size);have HR1:Hid (W1.ownsRow w.heap.size 29 5 (.slice (some ⟨g,0,none⟩) k c) k (aH acc)):=oG HO.out fun z hz=>Zz.out.block z (HO.out.lt z hz).2;have hz1:w'.heap.size≤W1.heap.size:=HB1.out.size;have hgX:g < w'.heap.size:=TP (HO.out.lt g rfl).2 U3.out.size;have hpc:p≤c:=by omega
   go_wp2_with (at_builtin; go_must (rw [← hW1]; clear hW1; refine wpList_append_own_at _ rfl _ _ 40 rfl w'.heap.size 29 iR (.agg #[.string ⟨#[]⟩,.string ⟨#[]⟩,.string ⟨#[]⟩,.string ⟨#[]⟩,.string ⟨#[]⟩]) 5 80 underlying40 Vx.out.1 Vx.out.2.1 Vx.out.2.2.1 Vx.out.2.2.2 rfl (by decide) _ 0 [] rfl Vg.out ⟨g,0,none⟩ p c (aH (acc.take p)) rfl (by rw [lF,Ut]; congr 1; have:=UN.out; omega) (Bf HR1.out p hp) (vM _) (by unfold maxLen; omega) (by omega) hz1 ?_));intro v2 w2 hown2 U1 _ _;have UB:Hid (w2.ownsRow w'.heap.size 29 5 v2 p (aH (acc.take p))):=by
    show World.ownsRow _ _ _ _ _ _ _
    first | exact hown2 | (rw [Um,List.nil_append] at hown2; exact hown2) | simpa using hown2
   have HB2:Hid (ag w' w2):=HB1.out.grown U1 HB1.out.size (fun z hz=>by simp [Value.ownBlock] at hz; omega);have hz2:w'.heap.size≤w2.heap.size:=HB2.out.size;have Xd:Hid (ag w w2):=(HB.out.trans (U3.out.mono HB.out.size)).trans (HB2.out.mono (TZ HB.out.size U3.out.size));obtain ⟨y0,y1,y2,y3,y4⟩:=Vn.out.same (fun o=>Xd.out.cell (p:=⟨b,o,none⟩) Yp.out);have hbr:b < w2.heap.size:=TP Yp.out Xd.out.size;obtain ⟨W3,hW3⟩:∃ W3,W3=w2.alloc (.cells #[.string x.a,.string x.b,.string x.r,.string x.c,.string x.d] 29):=⟨_,rfl⟩;have UX:Hid (W3.ownsRow w'.heap.size 29 5 v2 p (aH (acc.take p))):=by show World.ownsRow _ _ _ _ _ _ _; rw [hW3]; exact UB.out.alloc _
   have Wi:Hid (∀ j u,x.row[j]?=some u→W3.cell? ((⟨w2.heap.size,0,none⟩:Addr).add j)=some u):=by show ∀ j u,_; rw [hW3]; exact Kv w2 x
   have HB3:Hid (ag w' W3):=by show Below _ _ _; rw [hW3]; exact HB2.out.alloc HB2.out.size _
   have hz3:w'.heap.size≤W3.heap.size:=HB3.out.size;clear hown2 U1 Vg HB1 Zz HR1 hz1;go_wp2_with (at_builtin; go_must (rw [← hW3]; clear hW3; refine wpList_append_own_at _ rfl _ _ 40 rfl w'.heap.size 29 iR (.agg #[.string ⟨#[]⟩,.string ⟨#[]⟩,.string ⟨#[]⟩,.string ⟨#[]⟩,.string ⟨#[]⟩]) 5 80 underlying40 Vx.out.1 Vx.out.2.1 Vx.out.2.2.1 Vx.out.2.2.2 rfl (by decide) v2 p (aH (acc.take p)) rfl UX.out ⟨w2.heap.size,0,none⟩ 1 1 x.row rfl rfl Wi.out (by simp [Fc.row,Value.oneCell']) (by unfold maxLen; omega) (by omega) hz3 ?_));intro v4 w4 U0 Vp _ _;have UR:=az U0;have Vi:Hid (ag w' w4):=HB3.out.grown Vp HB3.out.size (fun z hz=>(UB.out.lt z hz).1);have Xj:w'.heap.size≤w4.heap.size:=Vi.out.size;have HBO4:Hid (ag wo w4):=U3.out.trans (Vi.out.mono U3.out.size);have HR4:Hid (w4.ownsRow w.heap.size 29 5 (.slice (some ⟨g,0,none⟩) k c) k (aH acc)):=oG HO.out fun z hz=>HBO4.out.block z (HO.out.lt z hz).2;clear U0 Vp UX UB Wi HB3 hz3 HB2 hz2 Xd y0 y1 y2 y3 y4 hbr;go_wp2_with (at_builtin; go_must (refine wpList_append_own_at _ rfl _ _ 40 rfl w'.heap.size 29 iR (.agg #[.string ⟨#[]⟩,.string ⟨#[]⟩,.string ⟨#[]⟩,.string ⟨#[]⟩,.string ⟨#[]⟩]) 5 80 underlying40 Vx.out.1 Vx.out.2.1 Vx.out.2.2.1 Vx.out.2.2.2 rfl (by decide) v4 (p + 1) (aH (acc.take p) ++ x.row) rfl UR.out ⟨g,p * 5,none⟩ (k - p) (c - p) (aH (acc.drop p)) rfl (by rw [lF,List.length_drop]; have:=UN.out; congr 1; omega) (JN HR4.out p hp) (vM _) (by unfold maxLen; omega) (by omega) Xj ?_));intro v5 w5 hown5 hgr5 _ _;have Y3:p + 1 + (k - p)=k + 1:=by omega
   have VQ:Hid (ag w' w5):=Vi.out.grown hgr5 Vi.out.size (fun z hz=>(UR.out.lt z hz).1);have hown6:w5.ownsRow w'.heap.size 29 5 v5 (k + 1) (aH (ku oH (rows.take (k + 1)))):=by
    rw [HNX.out,HPT.out,aH,List.flatMap_append,List.flatMap_cons,← Y3];exact hown5
   obtain ⟨ad5,c5,rfl⟩:=Be hown6;obtain ⟨g5,rfl,-⟩:=Dv hown6 (Nat.succ_ne_zero _);have Vh:=aC (wX hown6 (TZ HB.out.size U3.out.size));have WJ:Hid (ag w w5):=(HB.out.trans (U3.out.mono HB.out.size)).trans (VQ.out.mono (TZ HB.out.size U3.out.size));clear hown5 hown6 hgr5 Y3;go_wp2;go_roundw;case rel=>exact ⟨k + 1,g5,c5,by omega,by go_num,by first | rfl | simp,Vh,WJ⟩
   simp [intOf] <;> omega
  have hd:decide ((p:Int) < (k:Int))=false:=by simp; omega
  have hpe:¬ (p:Int) < (k:Int):=by omega
  have HPT:Hid (qp oH x acc=acc.take p ++ x::acc.drop p):=D8 (by rw [UN.out]; exact hp) HU.out (fun h=>absurd (by rw [UN.out] at h; exact h) hpk);go_wp2_with fail;go_quiet (fail);clear hd hpe;obtain ⟨X,hX⟩:∃ X,wr.drewN nq=X:=⟨_,rfl⟩;have U3:Hid (ag wo X):=by show Below _ _ _; rw [← hX]; exact below_drewN HBP.out _
  have HSX:Hid (wr.heap.size≤X.heap.size):=by show _≤_; rw [← hX]; exact TS _
  rw [hX];clear hX y0 y1 y2 y3 y4 hbr HOP HBWP HBP HU;obtain ⟨W1,hW1⟩:∃ W1,W1=X.alloc (.cells #[] 29):=⟨_,rfl⟩;have Vg:Hid (W1.ownsRow X.heap.size 29 5 (.slice (some ⟨X.heap.size,0,none⟩) 0 0) 0 []):=by
   show World.ownsRow _ _ _ _ _ _ _;rw [hW1];exact World.ownsRow_lit X #[] 0 (TS _) (by unfold maxLen; omega) (by simp)
  have HB1:=qY hW1;have Zz:Hid (ag wo W1):=U3.out.trans (HB1.out.mono U3.out.size);have HR1:Hid (W1.ownsRow w.heap.size 29 5 (.slice (some ⟨g,0,none⟩) k c) k (aH acc)):=oG HO.out fun z hz=>Zz.out.block z (HO.out.lt z hz).2;have hz1:X.heap.size≤W1.heap.size:=HB1.out.size;have hgX:g < X.heap.size:=TP (HO.out.lt g rfl).2 U3.out.size;have hpc:p≤c:=by omega
  go_wp2_with (at_builtin; go_must (rw [← hW1]; clear hW1; refine wpList_append_own_at _ rfl _ _ 40 rfl X.heap.size 29 iR (.agg #[.string ⟨#[]⟩,.string ⟨#[]⟩,.string ⟨#[]⟩,.string ⟨#[]⟩,.string ⟨#[]⟩]) 5 80 underlying40 Vx.out.1 Vx.out.2.1 Vx.out.2.2.1 Vx.out.2.2.2 rfl (by decide) _ 0 [] rfl Vg.out ⟨g,0,none⟩ p c (aH (acc.take p)) rfl (by rw [lF,Ut]; congr 1; have:=UN.out; omega) (Bf HR1.out p hp) (vM _) (by unfold maxLen; omega) (by omega) hz1 ?_));intro v2 w2 hown2 U1 _ _;have UB:Hid (w2.ownsRow X.heap.size 29 5 v2 p (aH (acc.take p))):=by
   show World.ownsRow _ _ _ _ _ _ _
   first | exact hown2 | (rw [Um,List.nil_append] at hown2; exact hown2) | simpa using hown2
  have HB2:Hid (ag X w2):=HB1.out.grown U1 HB1.out.size (fun z hz=>by simp [Value.ownBlock] at hz; omega);have hz2:X.heap.size≤w2.heap.size:=HB2.out.size;have Xd:Hid (ag w w2):=(HB.out.trans (U3.out.mono HB.out.size)).trans (HB2.out.mono (TZ HB.out.size U3.out.size));obtain ⟨y0,y1,y2,y3,y4⟩:=Vn.out.same (fun o=>Xd.out.cell (p:=⟨b,o,none⟩) Yp.out);have hbr:b < w2.heap.size:=TP Yp.out Xd.out.size;obtain ⟨W3,hW3⟩:∃ W3,W3=w2.alloc (.cells #[.string x.a,.string x.b,.string x.r,.string x.c,.string x.d] 29):=⟨_,rfl⟩;have UX:Hid (W3.ownsRow X.heap.size 29 5 v2 p (aH (acc.take p))):=by show World.ownsRow _ _ _ _ _ _ _; rw [hW3]; exact UB.out.alloc _
  have Wi:Hid (∀ j u,x.row[j]?=some u→W3.cell? ((⟨w2.heap.size,0,none⟩:Addr).add j)=some u):=by show ∀ j u,_; rw [hW3]; exact Kv w2 x
  have HB3:Hid (ag X W3):=by show Below _ _ _; rw [hW3]; exact HB2.out.alloc HB2.out.size _
  have hz3:X.heap.size≤W3.heap.size:=HB3.out.size;clear hown2 U1 Vg HB1 Zz HR1 hz1;go_wp2_with (at_builtin; go_must (rw [← hW3]; clear hW3; refine wpList_append_own_at _ rfl _ _ 40 rfl X.heap.size 29 iR (.agg #[.string ⟨#[]⟩,.string ⟨#[]⟩,.string ⟨#[]⟩,.string ⟨#[]⟩,.string ⟨#[]⟩]) 5 80 underlying40 Vx.out.1 Vx.out.2.1 Vx.out.2.2.1 Vx.out.2.2.2 rfl (by decide) v2 p (aH (acc.take p)) rfl UX.out ⟨w2.heap.size,0,none⟩ 1 1 x.row rfl rfl Wi.out (by simp [Fc.row,Value.oneCell']) (by unfold maxLen; omega) (by omega) hz3 ?_));intro v4 w4 U0 Vp _ _;have UR:=az U0;have Vi:Hid (ag X w4):=HB3.out.grown Vp HB3.out.size (fun z hz=>(UB.out.lt z hz).1);have Xj:X.heap.size≤w4.heap.size:=Vi.out.size;have HBO4:Hid (ag wo w4):=U3.out.trans (Vi.out.mono U3.out.size);have HR4:Hid (w4.ownsRow w.heap.size 29 5 (.slice (some ⟨g,0,none⟩) k c) k (aH acc)):=oG HO.out fun z hz=>HBO4.out.block z (HO.out.lt z hz).2;clear U0 Vp UX UB Wi HB3 hz3 HB2 hz2 Xd y0 y1 y2 y3 y4 hbr;obtain rfl:p=k:=by omega
  have YN:Hid (acc.drop p=[]):=List.drop_of_length_le (by rw [UN.out]; exact TS _);by_cases hce:c=p
  all_goals
   go_wp2_with (at_builtin; go_must (refine wpList_append_own_at _ rfl _ _ 40 rfl X.heap.size 29 iR (.agg #[.string ⟨#[]⟩,.string ⟨#[]⟩,.string ⟨#[]⟩,.string ⟨#[]⟩,.string ⟨#[]⟩]) 5 80 underlying40 Vx.out.1 Vx.out.2.1 Vx.out.2.2.1 Vx.out.2.2.2 rfl (by decide) v4 (p + 1) (aH (acc.take p) ++ x.row) rfl UR.out _ 0 _ (aH (acc.drop p)) rfl (by rw [YN.out]; rfl) (JO YN.out) (vM _) (by unfold maxLen; omega) (by omega) Xj ?_));intro v5 w5 hown5 hgr5 _ _;have Y3:p + 1 + 0=p + 1:=rfl;have VQ:Hid (ag X w5):=Vi.out.grown hgr5 Vi.out.size (fun z hz=>(UR.out.lt z hz).1);have hown6:w5.ownsRow X.heap.size 29 5 v5 (p + 1) (aH (ku oH (rows.take (p + 1)))):=by
    rw [HNX.out,HPT.out,aH,List.flatMap_append,List.flatMap_cons,← Y3];exact hown5
   obtain ⟨ad5,c5,rfl⟩:=Be hown6;obtain ⟨g5,rfl,-⟩:=Dv hown6 (Nat.succ_ne_zero _);have Vh:=aC (wX hown6 (TZ HB.out.size U3.out.size));have WJ:Hid (ag w w5):=(HB.out.trans (U3.out.mono HB.out.size)).trans (VQ.out.mono (TZ HB.out.size U3.out.size));clear hown5 hown6 hgr5 Y3;go_wp2;go_roundw;case rel=>exact ⟨p + 1,g5,c5,by omega,by go_num,by first | rfl | simp,Vh,WJ⟩
   simp [intOf] <;> omega
 obtain rfl:k=rows.length:=by omega
 have HE:Hid (wr.ownsRow w.heap.size 29 5 (.slice (some ⟨g,0,none⟩) rows.length c) rows.length (aH (ku oH rows))):=by have h:=HO.out; rw [Ug] at h; exact h
 go_wp2;go_ret;exact ⟨⟨_,rfl,HE.out⟩,HB.out⟩
theorem SE {P:Nat→Prop} (h:∃ n,P n):∃ n,P n∧∀ m,P m→n≤m:=by
 obtain ⟨n,hn⟩:=h
 induction n using Nat.strongRecOn with
 | ind n ih =>
  by_cases hx:∃ m,m < n∧P m
  ·obtain ⟨m,hm,hp⟩:=hx;exact ih m hm hp
  exact ⟨n,hn,fun m hm=>Nat.le_of_not_lt fun hlt=>hx ⟨m,hlt,hm⟩⟩
theorem PK {ts:List Ty} (h:∃ f,Sol ts f):∃ f,Least ts f:=by
 have key:∀ k,∃ n:Nat,(∃ g,Sol ts g∧g k=(n:Int))∧∀ m:Nat,(∃ g,Sol ts g∧g k=(m:Int))→n≤m:=fun k=>SE (by
  obtain ⟨f,hf⟩:=h;exact ⟨(f k).toNat,f,hf,by have:=hf.pos k; omega⟩)
 have low:∀ k g,Sol ts g→(((key k).choose:Nat):Int)≤g k:=fun k g hg=>by
  have h1:=(key k).choose_spec.2 (g k).toNat ⟨g,hg,by have:=hg.pos k; omega⟩;have:=hg.pos k;omega
 refine ⟨fun k=>(((key k).choose:Nat):Int),⟨fun k=>Int.natCast_nonneg _,fun k hk d hd=>?_⟩,fun k hk g hg=>low k g hg⟩;obtain ⟨g,hg,e⟩:=(key k).choose_spec.1;have h1:=low (d.typ,d.rel) g hg;have h2:=hg.up k hk d hd;show (((key (d.typ,d.rel)).choose:Nat):Int) + stepOf d≤(((key k).choose:Nat):Int);rw [← e];exact Int.le_trans (Int.add_le_add_right h1 _) h2
theorem RN (ts:List Ty):∃ st,aJ ts=true→Least ts st:=by
 by_cases h:aJ ts=true
 ·obtain ⟨st,hst⟩:=PK (aY.1 h).2.2;exact ⟨st,fun _=>hst⟩
 exact ⟨fun _=>0,fun h2=>absurd h2 h⟩
set_option maxRecDepth 8000 in
theorem ES (ad:Option Addr) (cap:Nat) (rs:List ER) (w:af) (hlen:rs.length≤15) (hs:iH w ad rs) (hl:∀ r ∈ rs,r.e.light) :
  Calls prog 54 #[.slice ad rs.length cap] w fun e w'=>∃ rs':List ER,e=.returned (.slice (some ⟨w.heap.size,0,none⟩) rs'.length rs'.length)∧aj rs'=aj rs∧iH w' (some ⟨w.heap.size,0,none⟩) rs'∧qx w.heap.size w' rs'∧gY w' w.heap.size∧w.heap.size < w'.heap.size∧ag w w':=by
 obtain ⟨inf,z,hi,hz0,hz1,hz2⟩:=RU (t:=39) (n:=5) (b:=88) (by kernel_rfl);obtain ⟨iA,hiA,zA0,zA1,zA2⟩:=info_parts (P:=prog) (e:=43) (z:=.agg #[.string ⟨#[]⟩,.string ⟨#[]⟩]) (size:=2) (bytes:=32) (by kernel_rfl);obtain ⟨iI,hiI,zI0,zI1,zI2⟩:=info_parts (P:=prog) (e:=2) (z:=.int .i64 0) (size:=1) (bytes:=8) (by kernel_rfl);have WG:=az hs;have XQ:=az hl;have YI:Hid (prog.info? 43=some iA∧iA.zero=some (.agg #[.string ⟨#[]⟩,.string ⟨#[]⟩])∧iA.size=2∧iA.bytes=32):=⟨hiA,zA0,zA1,zA2⟩;have HII:Hid (prog.info? 2=some iI∧iI.zero=some (.int .i64 0)∧iI.size=1∧iI.bytes=8):=⟨hiI,zI0,zI1,zI2⟩;clear hs hl hiA zA0 zA1 zA2 hiI zI0 zI1 zI2;go_enter func54,ntmps54;go_wp2_with (at_make; refine wpList_make_full _ rfl _ _ 33 rfl w.heap.size 39 inf z 5 underlying33 hi hz0 hz1 .i64 .i64 _ _ rs.length rfl rfl rfl rfl (by rw [hz2]; omega) (by unfold maxLen; omega) (TS _) ?_; intro w0 hown0 Vu);have F0:Fil w w0 w.heap.size (rs.length * 5) []:=Nb hown0 Vu;clear hown0 Vu hi hz0 hz1 hz2;go_loopw [11] (fun i wr=>∃ (k:Nat) (qs:List ER),k≤rs.length∧i=.int .i64 k∧Hid (qs.length=k∧aj qs=(aj rs).take k∧(∀ q ∈ qs,q.ok wr))∧Hid (qx w.heap.size wr qs)∧Hid (Fil w wr w.heap.size (rs.length * 5) (gZ qs))) (fun i _=>rs.length - (intOf i).toNat);case atStart=>exact ⟨0,[],TW _,rfl,⟨rfl,by simp [aj],(fun q hq=>by cases hq)⟩,qx.nil _ _,F0⟩
 clear F0;obtain ⟨k,qs,hk,rfl,HQ,HO,HF⟩:=hrel;by_cases hlt:k < rs.length
 ·rcases WG.out.below HF.out.below with hnil | ⟨b,off,UF,hb,hr,hok⟩
  ·rw [hnil] at hlt; simp at hlt
  obtain ⟨t0,t1,t2,t3,t4⟩:=hr k hlt;have Vz:Hid (rs[k].ok wr):=hok rs[k] (TQ hlt);have hlg:=XQ.out rs[k] (TQ hlt);have lA:rs[k].e.allow.length≤1048576:=hlg.1;have lK:rs[k].e.kids.length≤1048576:=hlg.2;have hk1:=bB k;have hk2:(k:Int) < (rs.length:Int):=by omega
  obtain ⟨W1,hW1⟩:∃ W1,W1=wr.alloc (.cells #[.int .i64 rs[k].e.kind,.slice rs[k].adA rs[k].e.allow.length rs[k].capA,.string rs[k].e.over,.string rs[k].e.name,.slice rs[k].adK rs[k].e.kids.length rs[k].capK] 39):=⟨_,rfl⟩;have HB1:=qY hW1;have hgl:wr.heap.size < W1.heap.size:=by rw [hW1]; simp
  have HSA1:Hid (jN W1 rs[k].adA rs[k].e.allow):=Vz.out.1.below HB1.out;have p0:W1.cell? ⟨wr.heap.size,0,none⟩=some (.int .i64 rs[k].e.kind):=by rw [hW1]; simp
  have p1:W1.cell? ⟨wr.heap.size,1,none⟩=some (.slice rs[k].adA rs[k].e.allow.length rs[k].capA):=by rw [hW1]; simp
  have p2:W1.cell? ⟨wr.heap.size,2,none⟩=some (.string rs[k].e.over):=by rw [hW1]; simp
  have p3:W1.cell? ⟨wr.heap.size,3,none⟩=some (.string rs[k].e.name):=by rw [hW1]; simp
  have p4:W1.cell? ⟨wr.heap.size,4,none⟩=some (.slice rs[k].adK rs[k].e.kids.length rs[k].capK):=by rw [hW1]; simp
  have fp:∀ y,W1.frozen? ⟨wr.heap.size,y,none⟩=false:=fun y=>by rw [hW1]; simp
  have WT:Hid (W1.cell? ⟨wr.heap.size,0,none⟩=some (.int .i64 rs[k].e.kind)∧W1.cell? ⟨wr.heap.size,1,none⟩=some (.slice rs[k].adA rs[k].e.allow.length rs[k].capA)∧W1.cell? ⟨wr.heap.size,2,none⟩=some (.string rs[k].e.over)∧W1.cell? ⟨wr.heap.size,3,none⟩=some (.string rs[k].e.name)∧W1.cell? ⟨wr.heap.size,4,none⟩=some (.slice rs[k].adK rs[k].e.kids.length rs[k].capK)∧∀ y,W1.frozen? ⟨wr.heap.size,y,none⟩=false):=⟨p0,p1,p2,p3,p4,fp⟩;clear p0 p1 p2 p3 p4 fp;rw [UF];clear hr hok hlg;go_wp2_with (at_builtin; rw [← hW1]; clear hW1; refine l5 _ rfl _ _ 36 rfl 43 iA (.agg #[.string ⟨#[]⟩,.string ⟨#[]⟩]) 2 32 underlying36 YI.out.1 YI.out.2.1 YI.out.2.2.1 YI.out.2.2.2 rfl (by decide) rfl rs[k].adA rs[k].e.allow.length rs[k].capA (pairs rs[k].e.allow) rfl (ll _) HSA1.out.none0 (Sc HSA1.out) (NV _) (by unfold maxLen; omega) (by omega) ?_);intro v2 w2 hown2 U1;have HB2:Hid (ag W1 w2):=(TT _ _).grown U1 (TS _) (fun k hk=>by cases hk);obtain ⟨adA,cpA,rfl,hsA,hzA,hoA⟩:=Rq (by simpa using hown2) (by simp);have HSA2:=az hsA;have HZA:Hid (rs[k].e.allow ≠ []→∃ g,adA=some ⟨g,0,none⟩):=hzA;have HOA:Hid (∀ g,rs[k].e.allow ≠ []→adA=some ⟨g,0,none⟩→W1.heap.size≤g∧g < w2.heap.size∧gY w2 g):=hoA;have x0:w2.cell? ⟨wr.heap.size,0,none⟩=some (.int .i64 rs[k].e.kind):=kept HB2.out hgl WT.out.1;have x1:w2.cell? ⟨wr.heap.size,1,none⟩=some (.slice rs[k].adA rs[k].e.allow.length rs[k].capA):=kept HB2.out hgl WT.out.2.1;have x2:w2.cell? ⟨wr.heap.size,2,none⟩=some (.string rs[k].e.over):=kept HB2.out hgl WT.out.2.2.1;have x3:w2.cell? ⟨wr.heap.size,3,none⟩=some (.string rs[k].e.name):=kept HB2.out hgl WT.out.2.2.2.1;have x4:w2.cell? ⟨wr.heap.size,4,none⟩=some (.slice rs[k].adK rs[k].e.kids.length rs[k].capK):=kept HB2.out hgl WT.out.2.2.2.2.1;have fx:∀ y,w2.frozen? ⟨wr.heap.size,y,none⟩=false:=fun y=>Nc HB2.out hgl (WT.out.2.2.2.2.2 y);clear hown2 U1 hsA hzA hoA;obtain ⟨W3,hW3⟩:∃ W3,W3=w2.setCell ⟨wr.heap.size,1,none⟩ (.slice adA rs[k].e.allow.length cpA):=⟨_,rfl⟩;have HB3:Hid (ag wr W3):=by
   show Below _ _ _;rw [hW3];exact (HB1.out.trans (HB2.out.mono (Nat.le_of_lt hgl))).setCell (TS _) _
  have Xu:Hid (Chg (fun g=>g=wr.heap.size) w2 W3):=by rw [hW3]; exact Chg.set _ rfl
  have HSK3:Hid (pX W3 rs[k].adK rs[k].e.kids):=Vz.out.2.below HB3.out;have YV:wr.heap.size < W3.heap.size:=by rw [hW3]; simp only [World.size_setCell]; exact TP hgl HB2.out.size
  have Wj:Hid (W3.cell? ⟨wr.heap.size,0,none⟩=some (.int .i64 rs[k].e.kind)∧W3.cell? ⟨wr.heap.size,1,none⟩=some (.slice adA rs[k].e.allow.length cpA)∧W3.cell? ⟨wr.heap.size,2,none⟩=some (.string rs[k].e.over)∧W3.cell? ⟨wr.heap.size,3,none⟩=some (.string rs[k].e.name)∧W3.cell? ⟨wr.heap.size,4,none⟩=some (.slice rs[k].adK rs[k].e.kids.length rs[k].capK)∧∀ y,W3.frozen? ⟨wr.heap.size,y,none⟩=false):=by
   rw [hW3];exact ⟨by rw [lN (by omega)]; exact x0,xm x1,by rw [lN (by omega)]; exact x2,by rw [lN (by omega)]; exact x3,by rw [lN (by omega)]; exact x4,fun y=>by simpa using fx y⟩
  go_wp2_with (at_builtin; rw [← hW3]; clear hW3; refine l5 _ rfl _ _ 37 rfl 2 iI (.int .i64 0) 1 8 underlying37 HII.out.1 HII.out.2.1 HII.out.2.2.1 HII.out.2.2.2 rfl (by decide) rfl rs[k].adK rs[k].e.kids.length rs[k].capK (ints rs[k].e.kids) rfl (by simp [ints]) HSK3.out.none0 (Sd HSK3.out) (Qp _) (by unfold maxLen; omega) (by omega) ?_);intro v4 w4 U0 Vp;have Vi:Hid (ag W3 w4):=(TT _ _).grown Vp (TS _) (fun k hk=>by cases hk);obtain ⟨adK,cpK,rfl,hsK,hzK,hoK⟩:=Rs (by simpa using U0) (by simp);have HSK4:=az hsK;have HZK:Hid (rs[k].e.kids ≠ []→∃ g,adK=some ⟨g,0,none⟩):=hzK;have HOKK:Hid (∀ g,rs[k].e.kids ≠ []→adK=some ⟨g,0,none⟩→W3.heap.size≤g∧g < w4.heap.size∧gY w4 g):=hoK;have y0:w4.cell? ⟨wr.heap.size,0,none⟩=some (.int .i64 rs[k].e.kind):=kept Vi.out YV Wj.out.1;have y1:w4.cell? ⟨wr.heap.size,1,none⟩=some (.slice adA rs[k].e.allow.length cpA):=kept Vi.out YV Wj.out.2.1;have y2:w4.cell? ⟨wr.heap.size,2,none⟩=some (.string rs[k].e.over):=kept Vi.out YV Wj.out.2.2.1;have y3:w4.cell? ⟨wr.heap.size,3,none⟩=some (.string rs[k].e.name):=kept Vi.out YV Wj.out.2.2.2.1;have y4:w4.cell? ⟨wr.heap.size,4,none⟩=some (.slice rs[k].adK rs[k].e.kids.length rs[k].capK):=kept Vi.out YV Wj.out.2.2.2.2.1;have fy:∀ y,w4.frozen? ⟨wr.heap.size,y,none⟩=false:=fun y=>Nc Vi.out YV (Wj.out.2.2.2.2.2 y);clear U0 Vp hsK hzK hoK x0 x1 x2 x3 x4 fx t0 t1 t2 t3 t4;obtain ⟨W5,Vb⟩:∃ W5,W5=w4.setCell ⟨wr.heap.size,4,none⟩ (.slice adK rs[k].e.kids.length cpK):=⟨_,rfl⟩;have VQ:Hid (ag wr W5):=by
   show Below _ _ _;rw [Vb];exact (HB3.out.trans (Vi.out.mono HB3.out.size)).setCell (TS _) _
  have Wy:Hid (Chg (fun g=>g=wr.heap.size) w4 W5):=by rw [Vb]; exact Chg.set _ rfl
  obtain ⟨q,hq⟩:∃ q:ER,q=⟨rs[k].e,adA,cpA,adK,cpK⟩:=⟨_,rfl⟩;have HCA5:Hid (Chg (fun g=>g=wr.heap.size) w2 W5):=Xu.out.trans ((Chg.of Vi.out).trans Wy.out);have HQOK:Hid (q.ok W5):=by
   rw [hq];refine ⟨HSA2.out.chg HCA5.out fun g o hne e=>?_,HSK4.out.chg Wy.out fun g o hne e=>?_⟩
   ·obtain ⟨g0,e0⟩:=HZA.out hne;rw [e0] at e; injection e with e; injection e with e1 e2;have:=(HOA.out g0 hne e0).1;omega
   obtain ⟨g0,e0⟩:=HZK.out hne;rw [e0] at e; injection e with e; injection e with e1 e2;have:=(HOKK.out g0 hne e0).1;omega
  have HQR:Hid (∀ g,oJ q g→wr.heap.size < g∧g < W5.heap.size∧gY W5 g):=by
   rw [hq];rintro g (⟨hne,e⟩ | ⟨hne,e⟩)
   ·obtain ⟨a1,a2,a3⟩:=HOA.out g hne e;exact ⟨by omega,TP a2 HCA5.out.size,HCA5.out.free g a2 a3⟩
   obtain ⟨a1,a2,a3⟩:=HOKK.out g hne e;exact ⟨by omega,TP a2 Wy.out.size,Wy.out.free g a2 a3⟩
  have HQ1:Hid (∀ g,bA q g→¬ bK q g):=by
   rw [hq];rintro g ⟨hne,e⟩ ⟨hne2,e2⟩;obtain ⟨a1,a2,a3⟩:=HOA.out g hne e;obtain ⟨b1,b2,b3⟩:=HOKK.out g hne2 e2;have:=Xu.out.size;omega
  have HQZ:Hid ((q.e.allow ≠ []→∃ g,q.adA=some ⟨g,0,none⟩)∧(q.e.kids ≠ []→∃ g,q.adK=some ⟨g,0,none⟩)):=by rw [hq]; exact ⟨HZA.out,HZK.out⟩
  have F1:=HF.out.later VQ.out;have F4:=HF.out.later (HB3.out.trans (Vi.out.mono HB3.out.size));have fz:=F4.free;obtain ⟨v0,u0⟩:=Option.isSome_iff_exists.mp (F4.there (k * 5) (by omega));obtain ⟨v1,u1⟩:=Option.isSome_iff_exists.mp (F4.there (k * 5 + 1) (by omega));obtain ⟨v2,u2⟩:=Option.isSome_iff_exists.mp (F4.there (k * 5 + 2) (by omega));obtain ⟨v3,u3⟩:=Option.isSome_iff_exists.mp (F4.there (k * 5 + 3) (by omega));obtain ⟨v4,u4⟩:=Option.isSome_iff_exists.mp (F4.there (k * 5 + 4) (by omega));have hne1:(wr.heap.size=w.heap.size)=False:=by have:=HF.out.lt; simp; omega
  have hne2:(w.heap.size=wr.heap.size)=False:=by have:=HF.out.lt; simp; omega
  have hpl:(gZ qs).length=k * 5:=by rw [qZ,HQ.out.1]
  have F2:=((((F1.put (.int .i64 rs[k].e.kind) (o:=k * 5) hpl.symm (by omega)).put (.slice adA rs[k].e.allow.length cpA) (o:=k * 5 + 1) (by simp [hpl]) (by omega)).put (.string rs[k].e.over) (o:=k * 5 + 2) (by simp [hpl]) (by omega)).put (.string rs[k].e.name) (o:=k * 5 + 3) (by simp [hpl]) (by omega)).put (.slice adK rs[k].e.kids.length cpK) (o:=k * 5 + 4) (by simp [hpl]) (by omega);have e5:((((gZ qs ++ [.int .i64 rs[k].e.kind]) ++ [.slice adA rs[k].e.allow.length cpA]) ++ [.string rs[k].e.over]) ++ [.string rs[k].e.name]) ++ [.slice adK rs[k].e.kids.length cpK]=gZ (qs ++ [q]):=by rw [hq]; simp [gZ,ER.row]
  rw [e5] at F2;obtain ⟨wn,hwn⟩:∃ wn,wn=((((W5.setCell ⟨w.heap.size,k * 5,none⟩ (.int .i64 rs[k].e.kind)).setCell ⟨w.heap.size,k * 5 + 1,none⟩ (.slice adA rs[k].e.allow.length cpA)).setCell ⟨w.heap.size,k * 5 + 2,none⟩ (.string rs[k].e.over)).setCell ⟨w.heap.size,k * 5 + 3,none⟩ (.string rs[k].e.name)).setCell ⟨w.heap.size,k * 5 + 4,none⟩ (.slice adK rs[k].e.kids.length cpK):=⟨_,rfl⟩;have HCW:Hid (Chg (fun g=>g=w.heap.size) W5 wn):=by rw [hwn]; exact ((((Chg.set (S:=fun g=>g=w.heap.size) _ rfl).trans (Chg.set _ rfl)).trans (Chg.set _ rfl)).trans (Chg.set _ rfl)).trans (Chg.set _ rfl)
  have UB:Hid (qx w.heap.size wn (qs ++ [q])):=HO.out.add ((Chg.of VQ.out).trans HCW.out) HF.out.lt HQZ.out.1 HQZ.out.2 HQ1.out fun g hg=>by
   obtain ⟨a1,a2,a3⟩:=HQR.out g hg;exact ⟨by omega,TP a2 HCW.out.size,HCW.out.free g a2 a3⟩
  have HQ2:Hid ((qs ++ [q]).length=k + 1∧aj (qs ++ [q])=(aj rs).take (k + 1)∧∀ p ∈ qs ++ [q],p.ok wn):=by
   obtain ⟨h1,h2,h3⟩:=HQ.out;refine ⟨by simp [h1],?_,?_⟩
   ·rw [TV (by rw [aT]; exact hlt),← h2];simp [aj,hq]
   intro p hp;have hin:∀ g,oJ p g→w.heap.size < g:=fun g hg=>(UB.out.2 p hp g hg).1;have hzA:=UB.out.1.zeroA p hp;have hzK:=UB.out.1.zeroK p hp;have hp5:p.ok W5:=by
    rw [Uc,Ua] at hp;rcases hp with hp | rfl
    ·exact (h3 p hp).below VQ.out
    exact HQOK.out
   refine hp5.chg HCW.out (fun g o hne e=>?_) (fun g o hne e=>?_)
   ·obtain ⟨g0,e0⟩:=hzA hne;have e':=e;rw [e0] at e'; injection e' with e'; injection e' with e1 e2;have:=hin g0 (.inl ⟨hne,e0⟩);omega
   obtain ⟨g0,e0⟩:=hzK hne;have e':=e;rw [e0] at e'; injection e' with e'; injection e' with e1 e2;have:=hin g0 (.inr ⟨hne,e0⟩);omega
  rw [← hwn] at F2;have VI:=az F2;have HWN:Hid (wn=((((W5.setCell ⟨w.heap.size,k * 5,none⟩ (.int .i64 rs[k].e.kind)).setCell ⟨w.heap.size,k * 5 + 1,none⟩ (.slice adA rs[k].e.allow.length cpA)).setCell ⟨w.heap.size,k * 5 + 2,none⟩ (.string rs[k].e.over)).setCell ⟨w.heap.size,k * 5 + 3,none⟩ (.string rs[k].e.name)).setCell ⟨w.heap.size,k * 5 + 4,none⟩ (.slice adK rs[k].e.kids.length cpK)):=hwn;have HW5:Hid (W5=w4.setCell ⟨wr.heap.size,4,none⟩ (.slice adK rs[k].e.kids.length cpK)):=Vb;clear F1 F2 F4 hpl e5 hq hwn Vb;go_wp2;rw [← HW5.out,← HWN.out];go_roundw;case rel=>exact ⟨k + 1,qs ++ [q],by omega,by go_num,HQ2,UB,VI⟩
  simp [intOf]; omega
 obtain rfl:k=rs.length:=by omega
 obtain ⟨h1,h2,h3⟩:=HQ.out;have HQ3:Hid (qs.length=rs.length):=h1;have HE3:Hid (aj qs=aj rs):=by rw [← aT rs,Ug] at h2; exact h2
 have HS3:Hid (iH wr (some ⟨w.heap.size,0,none⟩) qs):=by
  have F:=HF.out;rw [← h1] at F;exact F.rows fun r hr=>h3 r hr
 have HB3:Hid (ag w wr):=HF.out.below;have HFH:Hid (gY wr w.heap.size):=HF.out.free;have ZQ:Hid (w.heap.size < wr.heap.size):=HF.out.lt;clear h1 h2 h3;go_wp2;go_ret;exact ⟨qs,by rw [HQ3.out]; rfl,HE3.out,HS3.out,HO.out,HFH.out,ZQ.out,HB3.out⟩
open Go.Sort
theorem ET (ad:Option Addr) (cap:Nat) (ts:List Tp) (t:Tp) (w:af) (hlen:ts.length≤1048576) (hs:Sl w ad ts) :
  Calls prog 15 #[.slice ad ts.length cap,.agg #[.string t.a,.string t.b,.string t.r,.string t.c,.string t.d,.string t.s]] w fun e w'=>e=.returned (.bool (l7 ts t))∧ag w w':=by
 have HS:=pU hs;clear hs;obtain ⟨W0,hW0⟩:∃ W0,W0=w.alloc (.cells #[.string t.a,.string t.b,.string t.r,.string t.c,.string t.d,.string t.s] 46):=⟨_,rfl⟩;have HB0:=qY hW0;have HX0:Hid (∀ j (hj:j < 6),W0.cell? ⟨w.heap.size,j,none⟩=some (t.row[j]'hj)):=fun j hj=>by
  have hc:=TI (i:=j) (by omega);rw [hW0];rcases hc with rfl | rfl | rfl | rfl | rfl | rfl <;> simp [Tp.row]
 go_enter func15,ntmps15;go_wp2;rw [← hW0];clear hW0;go_loopw [5] (fun i wr=>∃ k:Nat,k≤ts.length∧i=.int .i64 k∧Hid (l7 (ts.drop k) t=l7 ts t)∧Hid (ag W0 wr)) (fun i _=>ts.length - (intOf i).toNat);case atStart=>exact ⟨0,TW _,rfl,rfl,TT _ _⟩
 obtain ⟨k,hk,rfl,HP,HB⟩:=hrel;have UG:Hid (ag w wr):=HB0.out.trans (HB.out.mono HB0.out.size);by_cases hlt:k < ts.length
 ·rcases HS.out.below UG.out with hnil | ⟨b,off,rfl,hb,hr⟩
  ·rw [hnil] at hlt; simp at hlt
  obtain ⟨t0,t1,t2,t3,t4,t5⟩:=hr k hlt;have x0:=cell_regrown (cell_later HB.out (HX0.out 0 (by omega)));have x1:=cell_regrown (cell_later HB.out (HX0.out 1 (by omega)));have x2:=cell_regrown (cell_later HB.out (HX0.out 2 (by omega)));have x3:=cell_regrown (cell_later HB.out (HX0.out 3 (by omega)));have x4:=cell_regrown (cell_later HB.out (HX0.out 4 (by omega)));have x5:=cell_regrown (cell_later HB.out (HX0.out 5 (by omega)));simp only [Tp.row,List.getElem_cons_zero,List.getElem_cons_succ] at x0 x1 x2 x3 x4 x5;replace t0:=cell_regrown t0;replace t1:=cell_regrown t1;replace t2:=cell_regrown t2;replace t3:=cell_regrown t3;replace t4:=cell_regrown t4;replace t5:=cell_regrown t5;have hk1:=bB k;have hk2:(k:Int) < (ts.length:Int):=by omega
  have HD:Hid (l7 ts t=(Ee ts[k] t || l7 (ts.drop (k + 1)) t)):=by show _=_; rw [← HP.out]; exact Cz hlt
  have U9:Hid (∀ d os,ag W0 (grow (redrawn wr d) os)):=fun d os=>HB.out.trans ((below_regrown wr d os).mono HB.out.size);clear hr;obtain ⟨q,hq⟩:∃ q,Ee ts[k] t=q:=⟨_,rfl⟩;have heq:=Iw ts[k] t hq;rw [hq] at HD;clear hq;go_wp2_with fail;refine wp_region_quiet_below (by kernel_rfl) (by kernel_rfl) ?_
  repeat (go_big_quiet_step (fail))
  refine wpQuiet_nil ?_;rintro _ ⟨⟨dq,osq⟩,rfl⟩;cases q;case true=>
   go_wp2;go_ret;exact ⟨by rw [HD.out]; rfl,HB0.out.trans ((U9.out dq osq).mono HB0.out.size)⟩
  go_wp2;go_roundw;case rel=>exact ⟨k + 1,by omega,by go_num,HD.out.symm,U9.out dq osq⟩
  simp [intOf] <;> omega
 have HE:Hid (l7 ts t=false):=by
  show _=_;rw [← HP.out,List.drop_of_length_le (by omega)]; rfl
 go_wp2;go_ret;exact ⟨by rw [HE.out]; rfl,UG.out⟩
end Go.Proofs.YtajkkeikihhejaaGreat
