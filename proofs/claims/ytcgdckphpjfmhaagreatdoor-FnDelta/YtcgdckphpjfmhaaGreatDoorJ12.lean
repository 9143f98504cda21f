/- Contract of the document's function that puts a tuple into its place. -/
import Derived.Test.YtcgdckphpjfmhaaGreatDoorSq
import Derived.Test.YtcgdckphpjfmhaaGreatDoorJ9
import Derived.Test.YtcgdckphpjfmhaaGreatDoorJ6
open Go.Proofs.Tryz
set_option maxHeartbeats 80000000
namespace Go.Proofs.YtcgdckphpjfmhaaGreatDoor
open ChangeShapes WideShapes ChangeAt RowKit Maps
open Pl
set_option maxRecDepth 8000 in
theorem DY(b off cap:Nat)(ts:Q05)(t:Tp)(w:ae)(hlen:ts.length<=1000)(hcap:ts.length<=cap)(hs:dM w b off ts)(hb:b<w.heap.size)(hf:∀x∈ts,x.fits)(ht:t.fits):
  Calls prog 114 #[.slice (some ⟨b,off,none⟩) ts.length cap,.agg #[.string t.a,.string t.b,.string t.r,.string t.c,.string t.d,.string t.s]] w fun e w'=>∃v:Value,e=.returned v/\w'.ownsRow w.heap.size 29 6 v (ik ts t).length (aF (ik ts t))/\af w w':=by
 obtain⟨iT,hiT,zT0,zT1,zT2⟩:=info_parts (P:=prog) (e:=29) (z:=.agg #[.string ⟨#[]⟩,.string ⟨#[]⟩,.string ⟨#[]⟩,.string ⟨#[]⟩,.string ⟨#[]⟩,.string ⟨#[]⟩]) (size:=6) (bytes:=96) (by kernel_rfl);have HIT:Hid (prog.info? 29=some iT/\iT.zero=some (.agg #[.string ⟨#[]⟩,.string ⟨#[]⟩,.string ⟨#[]⟩,.string ⟨#[]⟩,.string ⟨#[]⟩,.string ⟨#[]⟩])/\iT.size=6/\iT.bytes=96):=⟨hiT,zT0,zT1,zT2⟩;have HS:=aC hs;have HF:=aC hf;have HT:Hid t.fits:=ht;clear hs hf ht hiT zT0 zT1 zT2;obtain⟨W0,hW0⟩:∃W0,W0=w.alloc (.cells #[.string t.a,.string t.b,.string t.r,.string t.c,.string t.d,.string t.s] 29):=⟨_,rfl⟩;have HB0:=nC hW0;have HX0:Hid (uP W0 w.heap.size t):=by show uP _ _ _;rw[hW0];exact zy w t _
 go_enter func114,ntmps114;go_wp2;rw[<-hW0];clear hW0;go_loopw[5] (fun i wr=>∃k:Nat,k<=ts.length/\i=.int .i64 k/\Hid (∀i (h:i<ts.length),i<k->ts[i].ahead t=true)/\Hid (af w wr)/\Hid (uP wr w.heap.size t)) (fun i _=>ts.length-(intOf i).toNat);case atStart=>exact⟨0,Wd _,rfl,fun i h hi=>by omega,HB0,HX0⟩
 clear HX0 HB0;obtain⟨k,hk,rfl,HU,HB,HX⟩:=hrel;have hk1:=bC k;by_cases hlt:k<ts.length
 ·have hk2:(k:Int)<(ts.length:Int):=by omega
  obtain⟨t0,t1,t2,t3,t4,t5⟩:=(HS.out.below HB.out hb) k hlt;obtain⟨x0,x1,x2,x3,x4,x5,xl⟩:=HX.out;have hbr:b<wr.heap.size:=VY hb HB.out.size;obtain⟨f0,f1,f2,f3,f4,f5⟩:=HF.out _ (VZ hlt);obtain⟨e0,e1,e2,e3,e4,e5⟩:=HT.out;have HA:Hid (∀W,Calls prog 164 #[.agg #[.string ts[k].a,.string ts[k].b,.string ts[k].r,.string ts[k].c,.string ts[k].d,.string ts[k].s],.agg #[.string t.a,.string t.b,.string t.r,.string t.c,.string t.d,.string t.s]] W fun e w'=>e=.returned (.bool (ts[k].ahead t))/\af W w'):=fun W=>oo _ _ _ _ _ _ _ _ _ _ _ _ W f0 f1 f2 f3 f4 f5 e0 e1 e2 e3 e4 e5;clear f0 f1 f2 f3 f4 f5 e0 e1 e2 e3 e4 e5;have H0:wr.drew.cell? ⟨b,off+k*6,none⟩=some (.string ts[k].a)/\wr.drew.cell? ⟨b,off+k*6+1,none⟩=some (.string ts[k].b)/\wr.drew.cell? ⟨b,off+k*6+2,none⟩=some (.string ts[k].r)/\wr.drew.cell? ⟨b,off+k*6+3,none⟩=some (.string ts[k].c)/\wr.drew.cell? ⟨b,off+k*6+4,none⟩=some (.string ts[k].d)/\wr.drew.cell? ⟨b,off+k*6+5,none⟩=some (.string ts[k].s)/\wr.drew.cell? ⟨w.heap.size,0,none⟩=some (.string t.a)/\wr.drew.cell? ⟨w.heap.size,1,none⟩=some (.string t.b)/\wr.drew.cell? ⟨w.heap.size,2,none⟩=some (.string t.r)/\wr.drew.cell? ⟨w.heap.size,3,none⟩=some (.string t.c)/\wr.drew.cell? ⟨w.heap.size,4,none⟩=some (.string t.d)/\wr.drew.cell? ⟨w.heap.size,5,none⟩=some (.string t.s)/\b<wr.drew.heap.size/\w.heap.size<wr.drew.heap.size/\af w wr.drew:=⟨t0,t1,t2,t3,t4,t5,x0,x1,x2,x3,x4,x5,hbr,xl,HB.out.drew⟩;clear t0 t1 t2 t3 t4 t5 x0 x1 x2 x3 x4 x5;generalize hq:ts[k].ahead t=q at HA;cases q;case true=>
   have HQ:Hid (ts[k].ahead t=true):=hq;clear hq;go_wp2_with fail
   go_region_held3 (fun w'=>w'.cell? ⟨b,off+k*6,none⟩=some (.string ts[k].a)/\w'.cell? ⟨b,off+k*6+1,none⟩=some (.string ts[k].b)/\w'.cell? ⟨b,off+k*6+2,none⟩=some (.string ts[k].r)/\w'.cell? ⟨b,off+k*6+3,none⟩=some (.string ts[k].c)/\w'.cell? ⟨b,off+k*6+4,none⟩=some (.string ts[k].d)/\w'.cell? ⟨b,off+k*6+5,none⟩=some (.string ts[k].s)/\w'.cell? ⟨w.heap.size,0,none⟩=some (.string t.a)/\w'.cell? ⟨w.heap.size,1,none⟩=some (.string t.b)/\w'.cell? ⟨w.heap.size,2,none⟩=some (.string t.r)/\w'.cell? ⟨w.heap.size,3,none⟩=some (.string t.c)/\w'.cell? ⟨w.heap.size,4,none⟩=some (.string t.d)/\w'.cell? ⟨w.heap.size,5,none⟩=some (.string t.s)/\b<w'.heap.size/\w.heap.size<w'.heap.size/\af w w')
    (first|assumption|exact Lx (by assumption) hbx|exact H0)
    (first|(go_at_call 164;refine(HA.out _).mono ?_;rintro e w' ⟨rfl,hbx⟩))
   rename_i hH;obtain⟨-,-,-,-,-,-,x0,x1,x2,x3,x4,x5,-,xl,gB⟩:=hH;have HB2:=dm gB;have YH:=dm (PQ x0 x1 x2 x3 x4 x5 xl);have HU2:Hid (∀i (h:i<ts.length),i<k+1->ts[i].ahead t=true):=fun i h hi=>by
    by_cases e:i=k
    ·subst e;exact HQ.out
    exact HU.out i h (by omega)
   clear x0 x1 x2 x3 x4 x5 gB hbx H0 HA HQ HU HB HX;go_wp2;go_roundw;case rel=>exact⟨k+1,by omega,by go_num,HU2,HB2,YH⟩
   simp[intOf]<;>omega
  have HQ:Hid (ts[k].ahead t=false):=hq;clear hq;go_wp2_with fail
  go_region_held3 (fun w'=>w'.cell? ⟨b,off+k*6,none⟩=some (.string ts[k].a)/\w'.cell? ⟨b,off+k*6+1,none⟩=some (.string ts[k].b)/\w'.cell? ⟨b,off+k*6+2,none⟩=some (.string ts[k].r)/\w'.cell? ⟨b,off+k*6+3,none⟩=some (.string ts[k].c)/\w'.cell? ⟨b,off+k*6+4,none⟩=some (.string ts[k].d)/\w'.cell? ⟨b,off+k*6+5,none⟩=some (.string ts[k].s)/\w'.cell? ⟨w.heap.size,0,none⟩=some (.string t.a)/\w'.cell? ⟨w.heap.size,1,none⟩=some (.string t.b)/\w'.cell? ⟨w.heap.size,2,none⟩=some (.string t.r)/\w'.cell? ⟨w.heap.size,3,none⟩=some (.string t.c)/\w'.cell? ⟨w.heap.size,4,none⟩=some (.string t.d)/\w'.cell? ⟨w.heap.size,5,none⟩=some (.string t.s)/\b<w'.heap.size/\w.heap.size<w'.heap.size/\af w w')
   (first|assumption|exact Lx (by assumption) hbx|exact H0)
   (first|(go_at_call 164;refine(HA.out _).mono ?_;rintro e w' ⟨rfl,hbx⟩))
  rename_i hH;obtain⟨-,-,-,-,-,-,x0,x1,x2,x3,x4,x5,-,xl,gB⟩:=hH;have HP:=dm (Fg ts t k hk HU.out (fun _=>HQ.out));have Xz:=dm gB;have HXW:=dm (PQ x0 x1 x2 x3 x4 x5 xl);clear hbx H0 HA HQ HU HB HX gB x0 x1 x2 x3 x4 x5;obtain⟨W1,hW1⟩:∃W1,W1=w'.alloc (.cells #[] 29):=⟨_,rfl⟩;have XO:Hid (W1.ownsRow w'.heap.size 29 6 (.slice (some ⟨w'.heap.size,0,none⟩) 0 0) 0 []):=by
   show World.ownsRow _ _ _ _ _ _ _;rw[hW1];exact World.ownsRow_lit w' #[] 0 (V4 _) (by unfold maxLen;omega) (by simp)
  have Yq:=nC hW1;have HR1:Hid (dM W1 b off ts):=(HS.out.below Xz.out hb).below Yq.out (VY hb Xz.out.size);have Yo:=aC (HXW.out.below Yq.out);have HB1:Hid (af w W1):=Xz.out.trans (Yq.out.mono Xz.out.size);have hWs:w.heap.size<w'.heap.size:=HXW.out.2.2.2.2.2.2;have hb1:b<W1.heap.size:=VY hb HB1.out.size;have hkc:k<=cap:=by omega
  have hz1:w'.heap.size<=W1.heap.size:=Yq.out.size;clear Xz HXW Yq;go_wp2_with(at_builtin;rw[<-hW1];clear hW1;refine wpList_append_own_at _ rfl _ _ 25 rfl w'.heap.size 29 iT (.agg #[.string ⟨#[]⟩,.string ⟨#[]⟩,.string ⟨#[]⟩,.string ⟨#[]⟩,.string ⟨#[]⟩,.string ⟨#[]⟩]) 6 96 underlying25 HIT.out.1 HIT.out.2.1 HIT.out.2.2.1 HIT.out.2.2.2 rfl (by decide) _ 0 [] rfl XO.out ⟨b,off,none⟩ k cap (aF (ts.take k)) rfl (by rw[fB,WK];congr 1;omega) (jZ (DD HR1.out k)) (j5 _) (by unfold maxLen;omega) (by omega) hz1 ?_);intro v2 w2 hown2 XP _ _;have Xv:Hid (w2.ownsRow w'.heap.size 29 6 v2 k (aF (ts.take k))):=by
   show World.ownsRow _ _ _ _ _ _ _
   first|exact hown2|(rw[WB,Xi]at hown2;exact hown2)
  have hne:some w.heap.size≠Value.ownBlock (.slice (some ⟨w'.heap.size,0,none⟩) 0 0):=fun e=>by simp[Value.ownBlock]at e;omega
  have hnb:some b≠Value.ownBlock (.slice (some ⟨w'.heap.size,0,none⟩) 0 0):=fun e=>by simp[Value.ownBlock]at e;omega
  have YH:Hid (uP w2 w.heap.size t):=Yo.out.grown XP hne;have HR2:Hid (dM w2 b off ts):=qg HR1.out XP hb1 hnb;have HB2:Hid (af w w2):=HB1.out.grown XP HB1.out.size (fun g hg=>by simp[Value.ownBlock]at hg;omega);have hz2:w'.heap.size<=w2.heap.size:=Wh hz1 XP.size;clear hown2 XP XO Yo HR1 HB1 hne hnb;obtain⟨x0,x1,x2,x3,x4,x5,xl2⟩:=YH.out;obtain⟨W3,hW3⟩:∃W3,W3=w2.alloc (.cells #[.string t.a,.string t.b,.string t.r,.string t.c,.string t.d,.string t.s] 29):=⟨_,rfl⟩;have XG:Hid (W3.ownsRow w'.heap.size 29 6 v2 k (aF (ts.take k))):=by show World.ownsRow _ _ _ _ _ _ _;rw[hW3];exact Xv.out.alloc _
  have YZ:Hid (∀j u,t.row[j]?=some u->W3.cell? ((⟨w2.heap.size,0,none⟩:Addr).add j)=some u):=by show ∀j u,_;rw[hW3];exact xA w2 t
  have ZQ:=nC hW3;have HB3:Hid (af w W3):=HB2.out.trans (ZQ.out.mono HB2.out.size);have HR3:Hid (dM W3 b off ts):=HR2.out.below ZQ.out (VY hb HB2.out.size);have hz3:w'.heap.size<=W3.heap.size:=Wh hz2 ZQ.out.size;have hb3:b<W3.heap.size:=VY hb HB3.out.size;clear ZQ HB2 HR2 YH hb1 hz1 hz2;go_wp2_with(at_builtin;rw[<-hW3];clear hW3;refine wpList_append_own_at _ rfl _ _ 25 rfl w'.heap.size 29 iT (.agg #[.string ⟨#[]⟩,.string ⟨#[]⟩,.string ⟨#[]⟩,.string ⟨#[]⟩,.string ⟨#[]⟩,.string ⟨#[]⟩]) 6 96 underlying25 HIT.out.1 HIT.out.2.1 HIT.out.2.2.1 HIT.out.2.2.2 rfl (by decide) v2 k (aF (ts.take k)) rfl XG.out ⟨w2.heap.size,0,none⟩ 1 1 t.row rfl rfl YZ.out (vW _) (by unfold maxLen;omega) (by omega) hz3 ?_);intro v4 w4 X8 YK _ _;have hnb:some b≠v2.ownBlock:=fun e=>by have:=(Xv.out.lt b e.symm).1;omega
  have HR4:Hid (dM w4 b off ts):=qg HR3.out YK hb3 hnb;have XM:Hid (af w w4):=HB3.out.grown YK HB3.out.size (fun g hg=>by have:=(Xv.out.lt g hg).1;omega);have XE:=aC X8;have hz4:w'.heap.size<=w4.heap.size:=Wh hz3 YK.size;clear X8 YK XG Xv YZ HB3 HR3 hb3 hz3 hnb x0 x1 x2 x3 x4 x5 xl2;have hdl:(ts.drop k).length=ts.length-k:=WR;clear hdl;go_wp2_with(at_builtin;refine wpList_append_own_at _ rfl _ _ 25 rfl w'.heap.size 29 iT (.agg #[.string ⟨#[]⟩,.string ⟨#[]⟩,.string ⟨#[]⟩,.string ⟨#[]⟩,.string ⟨#[]⟩,.string ⟨#[]⟩]) 6 96 underlying25 HIT.out.1 HIT.out.2.1 HIT.out.2.2.1 HIT.out.2.2.2 rfl (by decide) v4 (k+1) (aF (ts.take k)++t.row) rfl XE.out ⟨b,off+k*6,none⟩ (ts.length-k) (cap-k) (aF (ts.drop k)) rfl (by rw[fB,WR]) (jZ (MX HR4.out k)) (j5 _) (by unfold maxLen;omega) (by omega) hz4 ?_);intro v5 w5 hown5 hgr5 _ _;have Yi:Hid (af w w5):=XM.out.grown hgr5 XM.out.size (fun g hg=>by have:=(XE.out.lt g hg).1;omega);have hlp:(ik ts t).length=k+1+(ts.length-k):=by rw[HP.out];simp;omega
  have hown6:w5.ownsRow w'.heap.size 29 6 v5 (ik ts t).length (aF (ik ts t)):=by
   rw[hlp,HP.out,show ts.take k++t::ts.drop k=(ts.take k++[t])++ts.drop k by simp,qd,uJ];first|exact hown5|(rw[WE];exact hown5)
  have Yf:=dm (dV hown6 (Xr hWs));clear hown5 hown6 hgr5 hlp;go_wp2;go_ret;exact⟨v5,rfl,Yf.out,Yi.out⟩
 have hd:decide ((k:Int)<(ts.length:Int))=false:=by simp;omega
 go_wp2_with fail;go_quiet (fail);have HP:=dm (Fg ts t k hk HU.out (fun h=>absurd h hlt));obtain⟨W9,hW9⟩:∃W9,wr.drewN nq=W9:=⟨_,rfl⟩;have Xz:Hid (af w W9):=by show Below _ _ _;rw[<-hW9];exact⟨HB.out.os,HB.out.tape,HB.out.output,HB.out.size,HB.out.block⟩
 have HXW:Hid (uP W9 w.heap.size t):=by show uP _ _ _;rw[<-hW9];exact HX.out
 rw[hW9];clear hW9 HU HB HX hd;obtain⟨W1,hW1⟩:∃W1,W1=W9.alloc (.cells #[] 29):=⟨_,rfl⟩;have XO:Hid (W1.ownsRow W9.heap.size 29 6 (.slice (some ⟨W9.heap.size,0,none⟩) 0 0) 0 []):=by
  show World.ownsRow _ _ _ _ _ _ _;rw[hW1];exact World.ownsRow_lit W9 #[] 0 (V4 _) (by unfold maxLen;omega) (by simp)
 have Yq:=nC hW1;have HR1:Hid (dM W1 b off ts):=(HS.out.below Xz.out hb).below Yq.out (VY hb Xz.out.size);have Yo:=aC (HXW.out.below Yq.out);have HB1:Hid (af w W1):=Xz.out.trans (Yq.out.mono Xz.out.size);have hWs:w.heap.size<W9.heap.size:=HXW.out.2.2.2.2.2.2;have hb1:b<W1.heap.size:=VY hb HB1.out.size;have hkc:k<=cap:=by omega
 have hz1:W9.heap.size<=W1.heap.size:=Yq.out.size;clear Xz HXW Yq;go_wp2_with(at_builtin;rw[<-hW1];clear hW1;refine wpList_append_own_at _ rfl _ _ 25 rfl W9.heap.size 29 iT (.agg #[.string ⟨#[]⟩,.string ⟨#[]⟩,.string ⟨#[]⟩,.string ⟨#[]⟩,.string ⟨#[]⟩,.string ⟨#[]⟩]) 6 96 underlying25 HIT.out.1 HIT.out.2.1 HIT.out.2.2.1 HIT.out.2.2.2 rfl (by decide) _ 0 [] rfl XO.out ⟨b,off,none⟩ k cap (aF (ts.take k)) rfl (by rw[fB,WK];congr 1;omega) (jZ (DD HR1.out k)) (j5 _) (by unfold maxLen;omega) (by omega) hz1 ?_);intro v2 w2 hown2 XP _ _;have Xv:Hid (w2.ownsRow W9.heap.size 29 6 v2 k (aF (ts.take k))):=by
  show World.ownsRow _ _ _ _ _ _ _
  first|exact hown2|(rw[WB,Xi]at hown2;exact hown2)
 have hne:some w.heap.size≠Value.ownBlock (.slice (some ⟨W9.heap.size,0,none⟩) 0 0):=fun e=>by simp[Value.ownBlock]at e;omega
 have hnb:some b≠Value.ownBlock (.slice (some ⟨W9.heap.size,0,none⟩) 0 0):=fun e=>by simp[Value.ownBlock]at e;omega
 have YH:Hid (uP w2 w.heap.size t):=Yo.out.grown XP hne;have HR2:Hid (dM w2 b off ts):=qg HR1.out XP hb1 hnb;have HB2:Hid (af w w2):=HB1.out.grown XP HB1.out.size (fun g hg=>by simp[Value.ownBlock]at hg;omega);have hz2:W9.heap.size<=w2.heap.size:=Wh hz1 XP.size;clear hown2 XP XO Yo HR1 HB1 hne hnb;obtain⟨x0,x1,x2,x3,x4,x5,xl2⟩:=YH.out;obtain⟨W3,hW3⟩:∃W3,W3=w2.alloc (.cells #[.string t.a,.string t.b,.string t.r,.string t.c,.string t.d,.string t.s] 29):=⟨_,rfl⟩;have XG:Hid (W3.ownsRow W9.heap.size 29 6 v2 k (aF (ts.take k))):=by show World.ownsRow _ _ _ _ _ _ _;rw[hW3];exact Xv.out.alloc _
 have YZ:Hid (∀j u,t.row[j]?=some u->W3.cell? ((⟨w2.heap.size,0,none⟩:Addr).add j)=some u):=by show ∀j u,_;rw[hW3];exact xA w2 t
 have ZQ:=nC hW3;have HB3:Hid (af w W3):=HB2.out.trans (ZQ.out.mono HB2.out.size);have HR3:Hid (dM W3 b off ts):=HR2.out.below ZQ.out (VY hb HB2.out.size);have hz3:W9.heap.size<=W3.heap.size:=Wh hz2 ZQ.out.size;have hb3:b<W3.heap.size:=VY hb HB3.out.size;clear ZQ HB2 HR2 YH hb1 hz1 hz2;go_wp2_with(at_builtin;rw[<-hW3];clear hW3;refine wpList_append_own_at _ rfl _ _ 25 rfl W9.heap.size 29 iT (.agg #[.string ⟨#[]⟩,.string ⟨#[]⟩,.string ⟨#[]⟩,.string ⟨#[]⟩,.string ⟨#[]⟩,.string ⟨#[]⟩]) 6 96 underlying25 HIT.out.1 HIT.out.2.1 HIT.out.2.2.1 HIT.out.2.2.2 rfl (by decide) v2 k (aF (ts.take k)) rfl XG.out ⟨w2.heap.size,0,none⟩ 1 1 t.row rfl rfl YZ.out (vW _) (by unfold maxLen;omega) (by omega) hz3 ?_);intro v4 w4 X8 YK _ _;have hnb:some b≠v2.ownBlock:=fun e=>by have:=(Xv.out.lt b e.symm).1;omega
 have HR4:Hid (dM w4 b off ts):=qg HR3.out YK hb3 hnb;have XM:Hid (af w w4):=HB3.out.grown YK HB3.out.size (fun g hg=>by have:=(Xv.out.lt g hg).1;omega);have XE:=aC X8;have hz4:W9.heap.size<=w4.heap.size:=Wh hz3 YK.size;clear X8 YK XG Xv YZ HB3 HR3 hb3 hz3 hnb x0 x1 x2 x3 x4 x5 xl2;have hdl:(ts.drop k).length=ts.length-k:=WR;clear hdl;by_cases hce:cap=k
 all_goals
  go_wp2_with(at_builtin;refine wpList_append_own_at _ rfl _ _ 25 rfl W9.heap.size 29 iT (.agg #[.string ⟨#[]⟩,.string ⟨#[]⟩,.string ⟨#[]⟩,.string ⟨#[]⟩,.string ⟨#[]⟩,.string ⟨#[]⟩]) 6 96 underlying25 HIT.out.1 HIT.out.2.1 HIT.out.2.2.1 HIT.out.2.2.2 rfl (by decide) v4 (k+1) (aF (ts.take k)++t.row) rfl XE.out _ (ts.length-k) _ (aF (ts.drop k)) rfl (by rw[fB,WR]) (MZ (by omega) _ _) (j5 _) (by unfold maxLen;omega) (by omega) hz4 ?_);intro v5 w5 hown5 hgr5 _ _;have Yi:Hid (af w w5):=XM.out.grown hgr5 XM.out.size (fun g hg=>by have:=(XE.out.lt g hg).1;omega);have hlp:(ik ts t).length=k+1+(ts.length-k):=by rw[HP.out];simp;omega
  have hown6:w5.ownsRow W9.heap.size 29 6 v5 (ik ts t).length (aF (ik ts t)):=by
   rw[hlp,HP.out,show ts.take k++t::ts.drop k=(ts.take k++[t])++ts.drop k by simp,qd,uJ];first|exact hown5|(rw[WE];exact hown5)
  have Yf:=dm (dV hown6 (Xr hWs));clear hown5 hown6 hgr5 hlp;go_wp2;go_ret;exact⟨v5,rfl,Yf.out,Yi.out⟩
end Go.Proofs.YtcgdckphpjfmhaaGreatDoor
namespace Go.Proofs.YtcgdckphpjfmhaaGreatDoor
open Go.Sort
open ChangeShapes WideShapes ChangeAt RowKit
open Pl
attribute [local go_sem ↓] Go.wp_at_zero Go.wp_at_succ
theorem xJ(b off cap:Nat)(ts:Q05)(w:ae)(hlen:ts.length<=maxLen)(hr:dM w b off ts)(hb:b<w.heap.size)(hf:∀t∈ts,t.fits):
    Calls prog 79 #[.slice (some ⟨b,off,none⟩) ts.length cap] w fun e w'=>e=.returned (.bool (dG ts))/\af w w':=by
  unfold maxLen at hlen;by_cases hbig:40<ts.length
  · have HT:Hid (dG ts=false):=by show _=_;simp[dG];omega
    go_enter func79,ntmps79;go_wp2;go_ret;exact⟨ah HT.out.symm,V5 _ _⟩
  · go_enter func79,ntmps79;go_wp2;go_loopw[10] (fun i wr=>∃k:Nat,k<=ts.length/\i=.int .i64 k/\Hid (vS ts k=true)/\af w wr) (fun i _=>ts.length-(intOf i).toNat);case atStart=>exact⟨0,Wd _,rfl,rfl,V5 _ _⟩
    obtain⟨k,hk,rfl,hu,hB⟩:=hrel;by_cases hlt:k<ts.length
    · have HRB:=ol (hr.below hB hb);have XC:=ol hf;obtain⟨t0,t1,t2,t3,t4,t5⟩:=HRB.out k hlt;have hk1:=bC k;have hk2:(k:Int)<(ts.length:Int):=by omega
      clear hr hf;obtain⟨W1,hW1⟩:∃W1,W1=wr.alloc (.cells #[.string ts[k].a,.string ts[k].b,.string ts[k].r,.string ts[k].c,.string ts[k].d,.string ts[k].s] 29):=⟨_,rfl⟩;have hal:af wr W1:=by rw[hW1];exact(V5 _ _).alloc (V4 _) _
      have c0:∀d os,(grow (redrawn W1 d) os).cell? ⟨wr.heap.size,0,none⟩=some (.string ts[k].a):=cell_regrown (by rw[hW1];simp);have c1:∀d os,(grow (redrawn W1 d) os).cell? ⟨wr.heap.size,1,none⟩=some (.string ts[k].b):=cell_regrown (by rw[hW1];simp);have c2:∀d os,(grow (redrawn W1 d) os).cell? ⟨wr.heap.size,2,none⟩=some (.string ts[k].r):=cell_regrown (by rw[hW1];simp);have c3:∀d os,(grow (redrawn W1 d) os).cell? ⟨wr.heap.size,3,none⟩=some (.string ts[k].c):=cell_regrown (by rw[hW1];simp);have c4:∀d os,(grow (redrawn W1 d) os).cell? ⟨wr.heap.size,4,none⟩=some (.string ts[k].d):=cell_regrown (by rw[hW1];simp);have c5:∀d os,(grow (redrawn W1 d) os).cell? ⟨wr.heap.size,5,none⟩=some (.string ts[k].s):=cell_regrown (by rw[hW1];simp);have Yb:Hid (∀d os,af w (grow (redrawn W1 d) os)):=fun d os=>hB.trans ((hal.mono hB.size).trans ((below_regrown W1 d os).mono (Wh hB.size hal.size)));have HK:Hid (∀p v,wr.cell? p=some v->W1.cell? p=some v):=fun p v h=>cell_later hal h;clear hal;go_wp2_with fail;rw[<-hW1];clear hW1 t0 t1 t2 t3 t4 t5;have ZN:Hid (∀d os,Calls prog 128 #[.agg #[.string ts[k].a,.string ts[k].b,.string ts[k].r,.string ts[k].c,.string ts[k].d,.string ts[k].s]] (grow (redrawn W1 d) os) fun e w''=>e=.returned (.bool ts[k].ok)/\∃p:Regrown,w''=grow (redrawn W1 p.d) p.os):=by
        obtain⟨f0,f1,f2,f3,f4,f5⟩:=XC.out ts[k] (VZ hlt);exact bq fun W' _=>fC _ _ _ _ _ _ _ f0 f1 f2 f3 f4 f5
      cases hok:ts[k].ok;case false=>
        have HT:Hid (dG ts=false):=vV hlt (Lv hlt hok);rw[hok]at ZN;clear hok;refine wp_region_quiet_below (by kernel_rfl) (by kernel_rfl) ?_
        repeat(go_big_quiet_step (exact ZN.out _ _))
        refine wpQuiet_nil ?_;rintro _ ⟨⟨dq,osq⟩,rfl⟩;go_wp2;go_ret;exact⟨ah HT.out.symm,Yb.out dq osq⟩
      rw[hok]at ZN;by_cases hz:k=0
      · have HU:Hid (vS ts (k+1)=true):=by show _=_;rw[sG,hu.out];subst hz;rw[xy hlt,hok];rfl
        have hk8:decide ((0:Int)<(k:Int))=false:=by simp;omega
        have hk9:decide (0<k)=false:=by simp;omega
        clear hok hz;refine wp_region_quiet_below (by kernel_rfl) (by kernel_rfl) ?_
        repeat(go_big_quiet_step (exact ZN.out _ _))
        refine wpQuiet_nil ?_;rintro _ ⟨⟨dq,osq⟩,rfl⟩;go_wp2;go_roundw;case rel=>exact⟨k+1,by omega,by go_num,HU,Yb.out dq osq⟩
        simp[intOf];omega
      · obtain⟨m,hm⟩:∃m:Nat,k=m+1:=⟨k-1,by omega⟩;have XQ:m<ts.length:=by omega
        obtain⟨q0,q1,q2,q3,q4,q5⟩:=HRB.out m XQ;replace q0:=cell_regrown (HK.out _ _ q0);replace q1:=cell_regrown (HK.out _ _ q1);replace q2:=cell_regrown (HK.out _ _ q2);replace q3:=cell_regrown (HK.out _ _ q3);replace q4:=cell_regrown (HK.out _ _ q4);replace q5:=cell_regrown (HK.out _ _ q5);have hkm:(k:Int)-1=(m:Int):=by omega
        have hm1:=bC m;have hm2:(m:Int)<(ts.length:Int):=by omega
        have hpos:(0:Int)<(k:Int):=by omega
        have hposN:0<k:=by omega
        have hwm:IntKind.i64.wrap (m:Int)=(m:Int):=by rw[IntKind.wrap_i64];omega
        have HA:Hid (xx ts k=ts[m].ahead ts[k]):=by show _=_;subst hm;rw[sH hlt,hok];rfl
        have ZY:Hid (∀d os,Calls prog 129 #[.agg #[.string ts[m].a,.string ts[m].b,.string ts[m].r,.string ts[m].c,.string ts[m].d,.string ts[m].s],.agg #[.string ts[k].a,.string ts[k].b,.string ts[k].r,.string ts[k].c,.string ts[k].d,.string ts[k].s]] (grow (redrawn W1 d) os) fun e w''=>e=.returned (.bool (ts[m].ahead ts[k]))/\∃p:Regrown,w''=grow (redrawn W1 p.d) p.os):=by
          obtain⟨f0,f1,f2,f3,f4,f5⟩:=XC.out ts[k] (VZ hlt);obtain⟨g0,g1,g2,g3,g4,g5⟩:=XC.out ts[m] (VZ XQ);exact bq fun W' _=>Ct _ _ _ _ _ _ _ _ _ _ _ _ _ g0 g1 g2 g3 g4 g5 f0 f1 f2 f3 f4 f5
        clear hm hz hok;cases ha:ts[m].ahead ts[k];case false=>
          have HT:Hid (dG ts=false):=vV hlt (by rw[HA.out,ha]);rw[ha]at ZY;clear ha HA;refine wp_region_quiet_below (by kernel_rfl) (by kernel_rfl) ?_
          repeat(go_big_quiet_step (first|exact ZN.out _ _|exact ZY.out _ _))
          refine wpQuiet_nil ?_;rintro _ ⟨⟨dq,osq⟩,rfl⟩;go_wp2;go_ret;exact⟨ah HT.out.symm,Yb.out dq osq⟩
        have HU:Hid (vS ts (k+1)=true):=by show _=_;rw[sG,hu.out,HA.out,ha];rfl
        rw[ha]at ZY;clear ha HA;refine wp_region_quiet_below (by kernel_rfl) (by kernel_rfl) ?_
        repeat(go_big_quiet_step (first|exact ZN.out _ _|exact ZY.out _ _))
        refine wpQuiet_nil ?_;rintro _ ⟨⟨dq,osq⟩,rfl⟩;go_wp2;go_roundw;case rel=>exact⟨k+1,by omega,by go_num,HU,Yb.out dq osq⟩
        simp[intOf];omega
    · go_wp2;go_ret;exact⟨ah (by have e:k=ts.length:=(by omega);subst e;simp[dG,hu.out];omega),hB⟩
end Go.Proofs.YtcgdckphpjfmhaaGreatDoor
namespace Go.Proofs.YtcgdckphpjfmhaaGreatDoor
open Go.Sort
open ChangeShapes WideShapes ChangeAt RowKit
open Pl
attribute [local go_sem ↓] Go.wp_at_zero Go.wp_at_succ
theorem xK(ad:Q02)(cap:Nat)(w:ae):
  Calls prog 109 #[.slice ad 0 cap] w fun e w'=>e=.returned (.bool (dG []))/\af w w':=by
 go_enter func109,ntmps109;go_wp2;go_loopw[3] (fun i wr=>∃k:Nat,k=0/\i=.int .i64 k/\af w wr) (fun i _=>(intOf i).toNat);case atStart=>exact⟨0,rfl,rfl,V5 _ _⟩
 obtain⟨k,rfl,rfl,hB⟩:=hrel;go_wp2;go_ret;exact⟨rfl,hB⟩
theorem xL(ad:Q02)(cap:Nat)(w:ae):
  Calls prog 79 #[.slice ad 0 cap] w fun e w'=>e=.returned (.bool (dG []))/\af w w':=by
 go_enter func79,ntmps79;go_wp2;go_loopw[10] (fun i wr=>∃k:Nat,k=0/\i=.int .i64 k/\af w wr) (fun i _=>(intOf i).toNat);case atStart=>exact⟨0,rfl,rfl,V5 _ _⟩
 obtain⟨k,rfl,rfl,hB⟩:=hrel;go_wp2;go_ret;exact⟨rfl,hB⟩
theorem ku(ad:Q02)(cap:Nat)(ts:Q05)(w:ae)(hlen:ts.length<=maxLen)(hs:Sl w ad ts)(hf:∀t∈ts,t.fits):
  Calls prog 109 #[.slice ad ts.length cap] w fun e w'=>e=.returned (.bool (dG ts))/\af w w':=by
 rcases hs with rfl|⟨b,off,rfl,hb,hr⟩
 ·exact xK ad cap w
 exact xz b off cap ts w hlen hr hb hf
theorem xM(ad:Q02)(cap:Nat)(ts:Q05)(w:ae)(hlen:ts.length<=maxLen)(hs:Sl w ad ts)(hf:∀t∈ts,t.fits):
  Calls prog 79 #[.slice ad ts.length cap] w fun e w'=>e=.returned (.bool (dG ts))/\af w w':=by
 rcases hs with rfl|⟨b,off,rfl,hb,hr⟩
 ·exact xL ad cap w
 exact xJ b off cap ts w hlen hr hb hf
end Go.Proofs.YtcgdckphpjfmhaaGreatDoor
namespace Go.Proofs.YtcgdckphpjfmhaaGreatDoor
open ChangeShapes WideShapes ChangeAt RowKit Maps
open Pl
def DZ(b:Bool):Int:=if b then 1 else 0
def BC(ts:Q0b)(t r:ByteArray)(ng:Bool)(e:Ex):List (Ky×St):=(jl ts t e).map fun a=>((a.t,a.s),⟨t,r,DZ ng⟩)
def relE(ts:Q0b)(t r:ByteArray)(es:Q09):Nat->List (Ky×St)
 | 0=>[]
 | i+1=>relE ts t r es i++(match es[i]? with|none=>[]|some e=>BC ts t r ((fE es).getD i false) e)
def jm(ts:Q0b)(t:ByteArray)(qs:Q07):List (Ky×St):=qs.flatMap fun q=>relE ts t q.name (aj q.rows) q.rows.length
def jo(ts:Q0b)(rs:Q06):List (Ky×St):=rs.flatMap fun t=>jm ts t.name t.rows
theorem J7(ts:Q0b)(t:bZ)(qs:Q07)(j:Nat)(h:j<qs.length):jm ts t (qs.take (j+1))=jm ts t (qs.take j)++relE ts t qs[j].name (aj qs[j].rows) qs[j].rows.length:=by
 unfold jm;rw[V8 h,WP,List.flatMap_singleton]
theorem J8(ts:Q0b)(rs:Q06)(k:Nat)(h:k<rs.length):jo ts (rs.take (k+1))=jo ts (rs.take k)++jm ts rs[k].name rs[k].rows:=by
 unfold jo;rw[V8 h,WP,List.flatMap_singleton]
theorem D5(ts:Q0b)(t r:bZ)(rows:Q08)(i:Nat)(h:i<rows.length)(ng:Bool)(hn:ng=(fE (aj rows)).getD i false):relE ts t r (aj rows) (i+1)=relE ts t r (aj rows) i++BC ts t r ng rows[i].e:=by
 have e:(aj rows)[i]?=some rows[i].e:=by simp[aj,h]
 simp only[relE,e,hn]
theorem D6(rs:Q06)(hl:∀r∈rs,∀q∈r.rows,∀e∈q.rows,e.e.allow.length<=6)(typ:bZ)(e:Ex)(he:e.allow.length<=6):(jl (ag rs) typ e).length<=6:=by
 unfold jl;split
 ·exact Wh (Dx _) he
 split
 ·simp
 split
 ·rw[Xc];unfold gy;split
  ·refine Wh (Ay _ _ _ _) ?_;unfold aM;cases h:gu (ag rs) typ e.over with
   | none=>simp[aW]
   | some es =>
    obtain⟨t,ht,q,hq,-,-,rfl⟩:=rz h;have h1:=hl t ht q hq;have:∀(xs:Q08),(∀q∈xs,q.e.allow.length<=6)->(aW (aj xs)).length<=6:=by
     intro xs
     induction xs with
     | nil=>intro _;simp[aj,aW]
     | cons x xs ih =>
      intro h;have e4:aj (x::xs)=x.e::aj xs:=rfl;rw[e4];simp only[aW];split
      ·exact h x (by simp)
      exact ih (fun q hq=>h q (by simp[hq]))
    exact this q.rows h1
  simp
 simp
theorem J9(rs:Q06)(hf:∀r∈rs,r.fits)(typ:bZ)(ht:typ.size<=maxLen)(e:Ex)(he:e.fits):∀a∈jl (ag rs) typ e,a.t.size<=maxLen/\a.s.size<=maxLen:=by
 have hA:∀(xs:Q0a),(∀a∈xs,a.fits)->∀a∈dF xs,a.t.size<=maxLen/\a.s.size<=maxLen:=by
  intro xs
  induction xs with
  | nil=>intro _ a ha;cases ha
  | cons b xs ih =>
   intro h a ha;simp only[dF]at ha;split at ha
   ·exact ih (fun q hq=>h q (by simp[hq])) a ha
   rcases Ws.1 ha with rfl|ha
   ·exact h a (by simp)
   exact ih (fun q hq=>h q (by simp[hq])) a ha
 have hG:∀(xs:Q0a) (rel:ByteArray),(∀a∈xs,a.fits)->∀g∈gl (ag rs) rel xs,g.size<=maxLen:=by
  intro xs rel
  induction xs with
  | nil=>intro _ a ha;cases ha
  | cons b xs ih =>
   intro h a ha;simp only[gl]at ha;split at ha
   ·exact ih (fun q hq=>h q (by simp[hq])) a ha
   rcases Ws.1 ha with rfl|ha
   ·exact(h b (by simp)).1
   exact ih (fun q hq=>h q (by simp[hq])) a ha
 unfold jl;split
 ·exact hA _ he.1
 split
 ·intro a ha;simp at ha;subst ha;exact⟨ht,he.2.2.1⟩
 split
 ·intro a ha;obtain⟨g,hg,rfl⟩:=Wp.1 ha;refine⟨?_,he.2.2.1⟩;unfold gy at hg;split at hg
  ·unfold iq at hg;refine hG _ _ ?_ g hg;unfold aM;cases e3:gu (ag rs) typ e.over with
   | none=>intro a ha;simp[aW]at ha
   | some es =>
    obtain⟨t,ht',q,hq,-,-,rfl⟩:=rz e3;have hq2:=((hf t ht').2.2 q hq).2.2;intro a ha;have:∀(xs:Q08),(∀q∈xs,q.e.fits)->∀a∈aW (aj xs),a.fits:=by
     intro xs
     induction xs with
     | nil=>intro _ a ha;simp[aj,aW]at ha
     | cons x xs ih =>
      intro h a ha;have e4:aj (x::xs)=x.e::aj xs:=rfl;rw[e4]at ha;simp only[aW]at ha;split at ha
      ·exact(h x (by simp)).1 a ha
      exact ih (fun q hq=>h q (by simp[hq])) a ha
    exact this q.rows hq2 a ha
  cases hg
 intro a ha;cases ha
theorem Sj:(prog.info? 278).map (fun i=>(i.zero,i.size,i.bytes))=some (some (.agg #[.string ⟨#[]⟩,.string ⟨#[]⟩,.int .i64 0]),3,40):=by kernel_rfl
theorem Ka(u:ae):(zeroValue 276).run prog u=.ok (.slice none 0 0) u:=by kernel_rfl
theorem wB{w:ae}{bL n:Nat}{M:Ky->Option Value}{E:List (Ky×St)}(h:Grp w bL n M E)(y:Ky):w.ownsRow (bL+1) 278 3 ((M y).getD (.slice none 0 0)) (lookL E y).length (iL (lookL E y)):=by
 rcases h.row y with⟨e,e2⟩|⟨v,e,ho⟩
 ·rw[e,e2];exact World.ownsRow_nil _ _ _ _
 rw[e];exact ho
theorem Qm{w:ae}{bL n:Nat}{M:Ky->Option Value}{E:List (Ky×St)}(h:Grp w bL n M E)(y:Ky):some bL≠((M y).getD (.slice none 0 0)).ownBlock:=by
 cases e:M y with
 | none=>simp[Value.ownBlock]
 | some v=>intro e2;have:=(h.lt e (g:=bL) (by simpa using e2.symm)).1;omega
theorem D7(E:List (Ky×St))(y:Ky):(lookL E y).length<=E.length:=Xo _ _
set_option maxRecDepth 100000 in
theorem Cw(ad:Q02)(cap:Nat)(rs:Q06)(bT nT:Nat)(T:Ky->Option Value)(w:ae)(hlen:rs.length<=6)(hs:lc w ad rs)(hl:∀r∈rs,r.light)(hf:∀r∈rs,r.fits)(hrl:∀r∈rs,r.rows.length<=6)(hel:∀r∈rs,∀q∈r.rows,q.rows.length<=15/\∀e∈q.rows,eH q.rows.length e.e.kids)(hal6:∀r∈rs,∀q∈r.rows,∀e∈q.rows,e.e.allow.length<=6)(hV:aN dU prog 151 w bT nT T)(hT:Tab rs T):
  Calls prog 127 #[.slice ad rs.length cap,.map (some bT)] w fun e w'=>e=.returned (.map (some w.heap.size))/\(∃n M,Grp w' w.heap.size n M (jo (ag rs) rs))/\af w w':=by
 have HS:=aC hs;have HL:=aC hl;have XC:=aC hf;have HRL:Hid (∀r∈rs,r.rows.length<=6):=hrl;have Y5:Hid (∀r∈rs,∀q∈r.rows,q.rows.length<=15/\∀e∈q.rows,eH q.rows.length e.e.kids):=hel;have HV:Hid (aN dU prog 151 w bT nT T):=hV;have HT:=aC hT;have HA6:Hid (∀r∈rs,∀q∈r.rows,∀e∈q.rows,e.e.allow.length<=6):=hal6;clear hs hl hf hrl hel hV hT hal6;obtain⟨i0,hi,hz0,hz1,hz2⟩:=info_parts Sj;have HG0:Hid (Grp (w.alloc (.map #[] 0)) w.heap.size 0 (fun _=>none) []):=grp_made w;have HB0:Hid (af w (w.alloc (.map #[] 0))):=(V5 _ _).alloc (V4 _) _;have hmm:=@run_makeMap prog;go_enter func127,ntmps127;go_wp2_with fail;go_loopw[19] (fun i wr=>∃k:Nat,k<=rs.length/\i=.int .i64 k/\Hid (∃n M,Grp wr w.heap.size n M (jo (ag rs) (rs.take k))/\n<=k*540/\(jo (ag rs) (rs.take k)).length<=k*540)/\Hid (af w wr)) (fun i _=>rs.length-(intOf i).toNat);case atStart=>exact⟨0,Wd _,rfl,⟨0,_,HG0.out,by omega,by simp[jo]⟩,HB0⟩
 clear HG0 HB0 hmm;obtain⟨k,hk,rfl,HG,HB⟩:=hrel;by_cases hlt:k<rs.length
 ·rcases HS.out.below HB.out with rfl|⟨b,off,rfl,hb,hr,-⟩
  ·simp at hlt
  obtain⟨t0,t1⟩:=hr k hlt;have hk1:=bC k;have hk2:(k:Int)<(rs.length:Int):=by omega
  have h6:rs[k].rows.length<=6:=HRL.out _ (VZ hlt);have z0:rs[k].name.size<=maxLen:=(XC.out _ (VZ hlt)).1;have Zq:Hid (∀q∈rs[k].rows,q.fits):=(XC.out _ (VZ hlt)).2.2;have HLR:Hid (∀q∈rs[k].rows,q.light):=(HL.out _ (VZ hlt)).2;have HER:Hid (∀q∈rs[k].rows,q.rows.length<=15/\∀e∈q.rows,eH q.rows.length e.e.kids):=Y5.out _ (VZ hlt);obtain⟨n1,M1,hG1,hn1,hE1⟩:=HG.out;obtain⟨E1,hE1d⟩:∃E1,E1=jo (ag rs) (rs.take k):=⟨_,rfl⟩;rw[<-hE1d]at hG1 hE1;have HE1D:Hid (E1=jo (ag rs) (rs.take k)):=hE1d;obtain⟨W1,hW1⟩:∃W1,W1=wr.alloc (.cells #[.string rs[k].name,.slice rs[k].ad rs[k].rows.length rs[k].cap] 105):=⟨_,rfl⟩;have hal:af wr W1:=by rw[hW1];exact(V5 _ _).alloc (V4 _) _
  have hbn:w.heap.size<wr.heap.size:=hG1.map.lt;have HC7:Hid (Cel W1 M1 w.heap.size wr.heap.size 0 (.string rs[k].name)):=⟨by rw[hW1];simp,by rw[hW1];simp,hG1.fresh (V4 _),by omega⟩;have HG1:=aC (hG1.below hal);have HB1:=kv HB hal;clear hr hal hG1 HG hE1d;go_wp2_with fail;rw[<-hW1];clear hW1 t0 t1 HB;obtain⟨g7,ZE⟩:∃g7,g7=wr.heap.size:=⟨_,rfl⟩;rw[<-ZE]at HC7 hbn ⊢;clear ZE;go_loopw[26] (fun i w2=>∃j:Nat,j<=rs[k].rows.length/\i=.int .i64 j/\Hid (∃n M,Grp w2 w.heap.size n M (E1++jm (ag rs) rs[k].name (rs[k].rows.take j))/\n<=k*540+j*90/\(E1++jm (ag rs) rs[k].name (rs[k].rows.take j)).length<=k*540+j*90/\Cel w2 M w.heap.size g7 0 (.string rs[k].name))/\Hid (af w w2)) (fun i _=>rs[k].rows.length-(intOf i).toNat);case atStart=>exact⟨0,Wd _,rfl,⟨n1,M1,by simpa[jm] using HG1.out,by omega,by have e:jm (ag rs) rs[k].name (rs[k].rows.take 0)=[]:=rfl;rw[e,WS];omega,HC7.out⟩,HB1⟩
  clear HG1 HB1 HC7;obtain⟨j,hj,rfl,HG,HB⟩:=hrel;by_cases hjl:j<rs[k].rows.length
  ·rcases HS.out.below HB.out with hnil|⟨b',off',he,hb2,hr,hok⟩
   ·rw[hnil]at hlt;simp at hlt
   injection he with he;injection he with he1 he2;subst he1;subst he2;have ok:=hok rs[k] (VZ hlt);rcases ok with hnil|⟨b2,XR,had,hbb,hr2,-⟩
   ·rw[hnil]at hjl;simp at hjl
   obtain⟨q0,q1⟩:=hr2 j hjl;have z1:rs[k].rows[j].name.size<=maxLen:=(Zq.out _ (VZ hjl)).1;have ZC:Hid (∀q∈rs[k].rows[j].rows,q.e.fits):=(Zq.out _ (VZ hjl)).2.2;have Yv:Hid (∀q∈rs[k].rows[j].rows,q.e.light):=(HLR.out _ (VZ hjl)).2;have h15:rs[k].rows[j].rows.length<=15:=(HER.out _ (VZ hjl)).1;have HKR:Hid (∀e∈rs[k].rows[j].rows,eH rs[k].rows[j].rows.length e.e.kids):=(HER.out _ (VZ hjl)).2;have Zr:Hid (jv w rs[k].rows[j].ad rs[k].rows[j].rows):=Oz.mem (HS.out.mem (VZ hlt)) (VZ hjl);have hj1:=bC j;have hj2:(j:Int)<(rs[k].rows.length:Int):=by omega
   obtain⟨n2,M2,hG2,hn2,hE2,hC7⟩:=HG.out;obtain⟨E2,hE2d⟩:∃E2,E2=E1++jm (ag rs) rs[k].name (rs[k].rows.take j):=⟨_,rfl⟩;rw[<-hE2d]at hG2 hE2;have HE2D:Hid (E2=E1++jm (ag rs) rs[k].name (rs[k].rows.take j)):=hE2d;obtain⟨W2,hW2⟩:∃W2,W2=wr.alloc (.cells #[.string rs[k].rows[j].name,.slice rs[k].rows[j].ad rs[k].rows[j].rows.length rs[k].rows[j].cap] 149):=⟨_,rfl⟩;have hal:af wr W2:=by rw[hW2];exact(V5 _ _).alloc (V4 _) _
   have hbn2:w.heap.size<wr.heap.size:=hG2.map.lt;have hC9:Cel W2 M2 w.heap.size wr.heap.size 0 (.string rs[k].rows[j].name):=⟨by rw[hW2];simp,by rw[hW2];simp,hG2.fresh (V4 _),by omega⟩;have hC9b:Cel W2 M2 w.heap.size wr.heap.size 1 (.slice rs[k].rows[j].ad rs[k].rows[j].rows.length rs[k].rows[j].cap):=⟨by rw[hW2];simp,by rw[hW2];simp,hG2.fresh (V4 _),by omega⟩;have HC7:Hid (Cel W2 M2 w.heap.size g7 0 (.string rs[k].name)):=hC7.stl (Stl.below hal);have HC9:Hid (Cel W2 M2 w.heap.size wr.heap.size 0 (.string rs[k].rows[j].name)):=hC9;have HC9b:=aC hC9b;have HG2:=aC (hG2.below hal);have HB2:=kv HB hal;rw[had];clear hr hok hr2 hG2 hC7 hC9 hC9b hal HG HB hE2d;go_wp2_with fail;rw[<-hW2];clear hW2 q0 q1;refine(Cs rs[k].rows[j].ad rs[k].rows[j].cap rs[k].rows[j].rows _ (by omega) (Zr.out.below HB2.out) Yv.out HKR.out).mono ?_;rintro e w3 ⟨rfl,hF3⟩;obtain⟨g9,hg9⟩:∃g9,g9=wr.heap.size:=⟨_,rfl⟩;rw[<-hg9]at HC9 HC9b hbn2 ⊢;have HB3:Hid (af w w3):=HB2.out.trans (hF3.below.mono HB2.out.size);have HG3:=aC (HG2.out.below hF3.below);have HCC:Hid (Cel w3 M2 w.heap.size g7 0 (.string rs[k].name)/\Cel w3 M2 w.heap.size g9 0 (.string rs[k].rows[j].name)/\∀(i:Nat) (h:i<rs[k].rows[j].rows.length),Cel w3 M2 w.heap.size W2.heap.size i (.bool ((fE (aj rs[k].rows[j].rows)).getD i false))):=by
    refine⟨HC7.out.stl (Stl.below hF3.below),HC9.out.stl (Stl.below hF3.below),fun i hi=>⟨?_,hF3.lt,HG2.out.fresh (V4 _),?_⟩⟩
    ·have hn:i<(fE (aj rs[k].rows[j].rows)).length:=by rw[Gp,bf];exact hi
     rw[hF3.done i (by simpa[bools] using hn)];simp[bools,hn]
    have:=HG2.out.map.lt;omega
   have c9:=(HC9b.out.stl (Stl.below (bL:=w.heap.size) (M:=M2) hF3.below)).cell;obtain⟨gA,hgA⟩:∃gA,gA=W2.heap.size:=⟨_,rfl⟩;rw[<-hgA]at HCC ⊢;clear hF3 HC7 HC9 HC9b HG2 HB2 hg9 hgA;go_wp2_with fail;clear c9;go_loopw[36] (fun i w4=>∃m:Nat,m<=rs[k].rows[j].rows.length/\i=.int .i64 m/\Hid (∃n M,Grp w4 w.heap.size n M (E2++relE (ag rs) rs[k].name rs[k].rows[j].name (aj rs[k].rows[j].rows) m)/\n<=k*540+j*90+m*6/\(E2++relE (ag rs) rs[k].name rs[k].rows[j].name (aj rs[k].rows[j].rows) m).length<=k*540+j*90+m*6/\(Cel w4 M w.heap.size g7 0 (.string rs[k].name)/\Cel w4 M w.heap.size g9 0 (.string rs[k].rows[j].name)/\∀(i:Nat) (h:i<rs[k].rows[j].rows.length),Cel w4 M w.heap.size gA i (.bool ((fE (aj rs[k].rows[j].rows)).getD i false))))/\Hid (af w w4)) (fun i _=>rs[k].rows[j].rows.length-(intOf i).toNat);case atStart=>exact⟨0,Wd _,rfl,⟨n2,M2,by simpa[relE] using HG3.out,by omega,by have e:relE (ag rs) rs[k].name rs[k].rows[j].name (aj rs[k].rows[j].rows) 0=[]:=rfl;rw[e,WS];omega,HCC.out⟩,HB3⟩
   clear HG3 HB3 HCC;obtain⟨m,hm,rfl,HG,HB⟩:=hrel;by_cases XQ:m<rs[k].rows[j].rows.length
   ·rcases Zr.out.below HB.out with hnil|⟨bE,offE,hadE,hbE,hrE,hok⟩
    ·rw[hnil]at XQ;simp at XQ
    obtain⟨t0,t1,t2,t3,t4⟩:=hrE m XQ;have hm1:=bC m;have hm2:(m:Int)<(rs[k].rows[j].rows.length:Int):=by omega
    have Zw:Hid (rs[k].rows[j].rows[m].e.fits):=ZC.out _ (VZ XQ);have HXL:Hid (rs[k].rows[j].rows[m].e.light):=Yv.out _ (VZ XQ);obtain⟨n3,M3,hG3,hn3,hE3,hC7,hC9,hCA⟩:=HG.out;obtain⟨E3,hE3d⟩:∃E3,E3=E2++relE (ag rs) rs[k].name rs[k].rows[j].name (aj rs[k].rows[j].rows) m:=⟨_,rfl⟩;rw[<-hE3d]at hG3 hE3;have HE3D:Hid (E3=E2++relE (ag rs) rs[k].name rs[k].rows[j].name (aj rs[k].rows[j].rows) m):=hE3d;have hbn3:w.heap.size<wr.heap.size:=hG3.map.lt;obtain⟨ng,hng⟩:∃ng,ng=(fE (aj rs[k].rows[j].rows)).getD m false:=⟨_,rfl⟩;have HNG:Hid (ng=(fE (aj rs[k].rows[j].rows)).getD m false):=hng;rw[hadE];clear hng hE3d hrE;cases ng
    case' true =>
     obtain⟨W3,hW3⟩:∃W3,W3=((wr.alloc (.cells #[.int .i64 rs[k].rows[j].rows[m].e.kind,.slice rs[k].rows[j].rows[m].adA rs[k].rows[j].rows[m].e.allow.length rs[k].rows[j].rows[m].capA,.string rs[k].rows[j].rows[m].e.over,.string rs[k].rows[j].rows[m].e.name,.slice rs[k].rows[j].rows[m].adK rs[k].rows[j].rows[m].e.kids.length rs[k].rows[j].rows[m].capK] 188)).alloc (.cells #[.string rs[k].name,.string rs[k].rows[j].name,.int .i64 1] 278)):=⟨_,rfl⟩;have hal:af wr W3:=by
      rw[hW3]
      repeat(first|exact V5 _ _|refine Below.setCell ?_ (by first|(simp;done)|(simp;omega)) _|refine Below.alloc ?_ (by first|(simp;done)|(simp;omega)) _)
     have hsz3:W3.heap.size=wr.heap.size+2:=by rw[hW3];simp
     have HB3:=kv HB hal;have HG3:=aC (hG3.below hal);have HC13:Hid (Cel W3 M3 w.heap.size (wr.heap.size+1) 0 (.string rs[k].name)/\Cel W3 M3 w.heap.size (wr.heap.size+1) 1 (.string rs[k].rows[j].name)/\Cel W3 M3 w.heap.size (wr.heap.size+1) 2 (.int .i64 1)):=by
      have hfr:FreeB M3 (wr.heap.size+1):=hG3.fresh (by omega);refine⟨⟨?_,by omega,hfr,by omega⟩,⟨?_,by omega,hfr,by omega⟩,⟨?_,by omega,hfr,by omega⟩⟩
      all_goals(rw[hW3];simp)
     obtain⟨dv,hdv⟩:∃dv:Int,dv=1:=⟨_,rfl⟩;rw[<-hdv]at HC13;have HDE:Hid (dv=1):=hdv;clear hdv;have HCC:Hid (Cel W3 M3 w.heap.size g7 0 (.string rs[k].name)/\Cel W3 M3 w.heap.size g9 0 (.string rs[k].rows[j].name)/\∀(i:Nat) (h:i<rs[k].rows[j].rows.length),Cel W3 M3 w.heap.size gA i (.bool ((fE (aj rs[k].rows[j].rows)).getD i false))):=⟨hC7.stl (Stl.below hal),hC9.stl (Stl.below hal),fun i h=>(hCA i h).stl (Stl.below hal)⟩;have HXO:Hid (rs[k].rows[j].rows[m].ok W3):=(hok rs[k].rows[j].rows[m] (VZ XQ)).below hal;have hc7:=hC7.cell;have hc9:=hC9.cell;have hl7:=hC7.lt;have hl9:=hC9.lt;have hcA:=(hCA m XQ).cell;have hlA:=(hCA m XQ).lt;rw[<-HNG.out]at hcA;clear hG3 hal hC7 hC9 hCA hok HG;go_wp2_with fail;rw[<-hW3];clear hW3 t0 t1 t2 t3 t4 hc7 hc9 hl7 hl9 hcA hlA
    case' false =>
     obtain⟨W3,hW3⟩:∃W3,W3=((wr.alloc (.cells #[.int .i64 rs[k].rows[j].rows[m].e.kind,.slice rs[k].rows[j].rows[m].adA rs[k].rows[j].rows[m].e.allow.length rs[k].rows[j].rows[m].capA,.string rs[k].rows[j].rows[m].e.over,.string rs[k].rows[j].rows[m].e.name,.slice rs[k].rows[j].rows[m].adK rs[k].rows[j].rows[m].e.kids.length rs[k].rows[j].rows[m].capK] 188)).alloc (.cells #[.string rs[k].name,.string rs[k].rows[j].name,.int .i64 0] 278)):=⟨_,rfl⟩;have hal:af wr W3:=by
      rw[hW3]
      repeat(first|exact V5 _ _|refine Below.setCell ?_ (by first|(simp;done)|(simp;omega)) _|refine Below.alloc ?_ (by first|(simp;done)|(simp;omega)) _)
     have hsz3:W3.heap.size=wr.heap.size+2:=by rw[hW3];simp
     have HB3:=kv HB hal;have HG3:=aC (hG3.below hal);have HC13:Hid (Cel W3 M3 w.heap.size (wr.heap.size+1) 0 (.string rs[k].name)/\Cel W3 M3 w.heap.size (wr.heap.size+1) 1 (.string rs[k].rows[j].name)/\Cel W3 M3 w.heap.size (wr.heap.size+1) 2 (.int .i64 0)):=by
      have hfr:FreeB M3 (wr.heap.size+1):=hG3.fresh (by omega);refine⟨⟨?_,by omega,hfr,by omega⟩,⟨?_,by omega,hfr,by omega⟩,⟨?_,by omega,hfr,by omega⟩⟩
      all_goals(rw[hW3];simp)
     obtain⟨dv,hdv⟩:∃dv:Int,dv=0:=⟨_,rfl⟩;rw[<-hdv]at HC13;have HDE:Hid (dv=0):=hdv;clear hdv;have HCC:Hid (Cel W3 M3 w.heap.size g7 0 (.string rs[k].name)/\Cel W3 M3 w.heap.size g9 0 (.string rs[k].rows[j].name)/\∀(i:Nat) (h:i<rs[k].rows[j].rows.length),Cel W3 M3 w.heap.size gA i (.bool ((fE (aj rs[k].rows[j].rows)).getD i false))):=⟨hC7.stl (Stl.below hal),hC9.stl (Stl.below hal),fun i h=>(hCA i h).stl (Stl.below hal)⟩;have HXO:Hid (rs[k].rows[j].rows[m].ok W3):=(hok rs[k].rows[j].rows[m] (VZ XQ)).below hal;have hc7:=hC7.cell;have hc9:=hC9.cell;have hl7:=hC7.lt;have hl9:=hC9.lt;have hcA:=(hCA m XQ).cell;have hlA:=(hCA m XQ).lt;rw[<-HNG.out]at hcA;clear hG3 hal hC7 hC9 hCA hok HG;go_wp2_with fail;rw[<-hW3];clear hW3 t0 t1 t2 t3 t4 hc7 hc9 hl7 hl9 hcA hlA
    all_goals
     refine(GD bT nT rs (some ⟨b,off,none⟩) T rs[k].name rs[k].rows[j].rows[m] _ (HV.out.below HB3.out) HT.out (HS.out.below HB3.out) HL.out XC.out z0 Zw.out HXL.out HXO.out).mono ?_;rintro e w5 ⟨⟨Y8,cpO,rfl,hSO,hNO⟩,hb5⟩;obtain⟨ks,hks⟩:∃ks,ks=jl (ag rs) rs[k].name rs[k].rows[j].rows[m].e:=⟨_,rfl⟩;rw[<-hks]at hSO ⊢;have HKS:Hid (ks=jl (ag rs) rs[k].name rs[k].rows[j].rows[m].e):=hks;have hkl6:ks.length<=6:=by rw[hks];exact D6 rs HA6.out _ _ (HA6.out _ (VZ hlt) _ (VZ hjl) _ (VZ XQ))
     have HKF:Hid (∀a∈ks,a.t.size<=maxLen/\a.s.size<=maxLen):=by show ∀_,_;rw[hks];exact J9 rs XC.out _ z0 _ Zw.out
     obtain⟨g13,hg13⟩:∃g13,g13=wr.heap.size+1:=⟨_,rfl⟩;have Yi:=kv HB3 hb5;have HG5:=aC (HG3.out.below hb5);have hS5:Stl W3 M3 w5 M3 w.heap.size:=Stl.below hb5;have HC5:Hid (Cel w5 M3 w.heap.size g7 0 (.string rs[k].name)/\Cel w5 M3 w.heap.size g9 0 (.string rs[k].rows[j].name)/\∀(i:Nat) (h:i<rs[k].rows[j].rows.length),Cel w5 M3 w.heap.size gA i (.bool ((fE (aj rs[k].rows[j].rows)).getD i false))):=⟨HCC.out.1.stl hS5,HCC.out.2.1.stl hS5,fun i h=>(HCC.out.2.2 i h).stl hS5⟩;have HD5:Hid (Cel w5 M3 w.heap.size g13 0 (.string rs[k].name)/\Cel w5 M3 w.heap.size g13 1 (.string rs[k].rows[j].name)/\Cel w5 M3 w.heap.size g13 2 (.int .i64 dv)):=by rw[hg13];exact⟨HC13.out.1.stl hS5,HC13.out.2.1.stl hS5,HC13.out.2.2.stl hS5⟩
     have XH:Hid (ks=[] \/ ∃gO X7,Y8=some ⟨gO,X7,none⟩/\∀(i:Nat) (h:i<ks.length),Cel w5 M3 w.heap.size gO (X7+i*2) (.string ks[i].t)/\Cel w5 M3 w.heap.size gO (X7+i*2+1) (.string ks[i].s)):=by
      rcases hSO with e|⟨gO,X7,e,hgO,hcO⟩
      ·exact .inl e
      have hN:=hNO _ e;have YT:=HG3.out.map.lt;have hfr:FreeB M3 gO:=HG3.out.fresh hN;refine .inr ⟨gO,X7,e,fun i hi=>⟨⟨(hcO i hi).1,hgO,hfr,?_⟩,⟨(hcO i hi).2,hgO,hfr,?_⟩⟩⟩
      all_goals(simp only at hN;omega)
     rw[<-hg13];clear hb5 hSO hNO hks hS5 HC13 HCC HG3 HB3 HXO hg13;go_wp2_with fail;go_loopw[58] (fun i w6=>∃q:Nat,q<=ks.length/\i=.int .i64 q/\Hid (∃n M,Grp w6 w.heap.size n M (E3++(ks.take q).map (fun a:Al=>(((a.t,a.s),⟨rs[k].name,rs[k].rows[j].name,dv⟩):Ky×St)))/\n<=k*540+j*90+m*6+q/\(E3++(ks.take q).map (fun a:Al=>(((a.t,a.s),⟨rs[k].name,rs[k].rows[j].name,dv⟩):Ky×St))).length<=k*540+j*90+m*6+q/\(Cel w6 M w.heap.size g7 0 (.string rs[k].name)/\Cel w6 M w.heap.size g9 0 (.string rs[k].rows[j].name)/\∀(i:Nat) (h:i<rs[k].rows[j].rows.length),Cel w6 M w.heap.size gA i (.bool ((fE (aj rs[k].rows[j].rows)).getD i false)))/\(Cel w6 M w.heap.size g13 0 (.string rs[k].name)/\Cel w6 M w.heap.size g13 1 (.string rs[k].rows[j].name)/\Cel w6 M w.heap.size g13 2 (.int .i64 dv))/\(ks=[] \/ ∃gO X7,Y8=some ⟨gO,X7,none⟩/\∀(i:Nat) (h:i<ks.length),Cel w6 M w.heap.size gO (X7+i*2) (.string ks[i].t)/\Cel w6 M w.heap.size gO (X7+i*2+1) (.string ks[i].s)))/\Hid (af w w6)) (fun i _=>ks.length-(intOf i).toNat);case atStart=>exact⟨0,Wd _,rfl,⟨n3,M3,by simpa using HG5.out,by omega,by simpa using hE3,HC5.out,HD5.out,XH.out⟩,Yi⟩
     clear HG5 Yi HC5 HD5 XH HB;obtain⟨q,hq,rfl,HG,HB⟩:=hrel;by_cases hql:q<ks.length
     ·obtain⟨n6,M6,hG6,hn6,hE6,hC6,hD6,Z6⟩:=HG.out;rcases Z6 with hnil|⟨gO,X7,hadO,hcO⟩
      ·rw[hnil]at hql;simp at hql
      have x0:=(hcO q hql).1.cell;have x1:=(hcO q hql).2.cell;have y0:=hD6.1.cell;have y1:=hD6.2.1.cell;have y2:=hD6.2.2.cell;have yl:=hD6.1.lt;have hq1:=bC q;have hq2:(q:Int)<(ks.length:Int):=by omega
      obtain⟨E6,hE6d⟩:∃E6,E6=E3++(ks.take q).map (fun a:Al=>(((a.t,a.s),⟨rs[k].name,rs[k].rows[j].name,dv⟩):Ky×St)):=⟨_,rfl⟩;rw[<-hE6d]at hG6 hE6;have HE6D:Hid (E6=E3++(ks.take q).map (fun a:Al=>(((a.t,a.s),⟨rs[k].name,rs[k].rows[j].name,dv⟩):Ky×St))):=hE6d;obtain⟨W6,hW6⟩:∃W6,W6=((wr.alloc (.cells #[.string ks[q].t,.string ks[q].s] 151)).alloc (.cells #[.string rs[k].name,.string rs[k].rows[j].name,.int .i64 dv] 278)):=⟨_,rfl⟩;have hal:af wr W6:=by
       rw[hW6]
       repeat(first|exact V5 _ _|refine Below.alloc ?_ (by first|(simp;done)|(simp;omega)) _)
      have hsz6:W6.heap.size=wr.heap.size+2:=by rw[hW6];simp
      have YB:=kv HB hal;have HG6:=aC (hG6.below hal);have HNB:Hid (W6.heap[wr.heap.size+1]?=some (.cells #[.string rs[k].name,.string rs[k].rows[j].name,.int .i64 dv] 278)):=by show _=_;rw[hW6];exact xq wr _ _
      have hbn6:w.heap.size<wr.heap.size:=hG6.map.lt;have HS6:Hid (Stl wr M6 W6 M6 w.heap.size):=Stl.below hal;have HCK:Hid ((Cel wr M6 w.heap.size g7 0 (.string rs[k].name)/\Cel wr M6 w.heap.size g9 0 (.string rs[k].rows[j].name)/\∀(i:Nat) (h:i<rs[k].rows[j].rows.length),Cel wr M6 w.heap.size gA i (.bool ((fE (aj rs[k].rows[j].rows)).getD i false)))/\(Cel wr M6 w.heap.size g13 0 (.string rs[k].name)/\Cel wr M6 w.heap.size g13 1 (.string rs[k].rows[j].name)/\Cel wr M6 w.heap.size g13 2 (.int .i64 dv))/\(ks=[] \/ ∃gO X7,Y8=some ⟨gO,X7,none⟩/\∀(i:Nat) (h:i<ks.length),Cel wr M6 w.heap.size gO (X7+i*2) (.string ks[i].t)/\Cel wr M6 w.heap.size gO (X7+i*2+1) (.string ks[i].s))):=⟨hC6,hD6,.inr ⟨gO,X7,hadO,hcO⟩⟩;have hzz:=HKF.out _ (VZ hql);obtain⟨kl,hkl⟩:=kJ (ks[q].t,ks[q].s) hzz.1 hzz.2;have Yp:Hid (keyOf prog 151 (dU (ks[q].t,ks[q].s))=some kl):=hkl;have hLL:=D7 E6 (ks[q].t,ks[q].s);have hn6b:n6<100000:=by omega
      have hLb:(lookL E6 (ks[q].t,ks[q].s)).length<100000:=by omega
      have HSZ:Hid (W6.heap.size=wr.heap.size+2):=hsz6;rw[hadO];clear hal hG6 hC6 hD6 hcO hkl HG hE6d hzz hLL hsz6
      go_wp2_with (first
       | (at_builtin;refine wpList_append_own_at _ rfl _ _ 276 rfl (w.heap.size+1) 278 i0 _ 3 40 underlying276 hi hz0 hz1 hz2 rfl (by decide) _ _ _ rfl ((wB HG6.out (ks[q].t,ks[q].s)).kept ZE (.inr (Ne.symm (Qm HG6.out (ks[q].t,ks[q].s))))) ⟨wr.heap.size+1,0,none⟩ 1 1 [.string rs[k].name,.string rs[k].rows[j].name,.int .i64 dv] rfl rfl (World.news_of_block (cs:=#[.string rs[k].name,.string rs[k].rows[j].name,.int .i64 dv]) (t:=278) (fr:=(0,0)) ((ZE.block (wr.heap.size+1) (by rw[HSZ.out];omega) (by simp;omega)).trans HNB.out)) (by simp[Value.oneCell']) (by unfold maxLen;omega) (by omega) (by have h1:=ZE.size;rw[HSZ.out]at h1;omega) ?_;intro v' w8 hown8 ZR hnil8 hloc8)
       | (rw[<-hW6];refine Cm _ rfl _ _ 220 rfl 151 276 Lb uX underlying220 Ka w.heap.size n6 M6 rfl HG6.out.map (by unfold maxLen;omega) (ks[q].t,ks[q].s) kl rfl Yp.out ?_;intro st7 w7 ZE hback;clear hW6 x0 x1 y0 y1 y2)
       | (refine uy _ rfl _ _ _ 220 rfl w.heap.size st7 rfl rfl v' rfl 151 (n6+1) (lQ M6 (ks[q].t,ks[q].s) (some v')) (hback w8 v' (ZR.block w.heap.size (by have h1:=ZE.size;rw[HSZ.out]at h1;omega) (Qm HG6.out (ks[q].t,ks[q].s)))) ?_;intro w9 hM9 hg9))
      have hst:=HG6.out.step (s:=(⟨rs[k].name,rs[k].rows[j].name,dv⟩:St)) ZE hown8 ZR hloc8 hg9 hM9;have HBN:Hid (af w w9):=by
       have hs1:=YB.out.size;have b7:af w w7:=YB.out.grown ZE hs1 (fun i hi=>by injection hi with hi;omega);have b8:af w w8:=b7.grown ZR b7.size (fun i hi=>by have:=((wB HG6.out (ks[q].t,ks[q].s)).lt i hi).1;omega);exact b8.grown hg9 b8.size (fun i hi=>by injection hi with hi;omega)
      have HGN:Hid (∃n M,Grp w9 w.heap.size n M (E3++(ks.take (q+1)).map (fun a:Al=>(((a.t,a.s),⟨rs[k].name,rs[k].rows[j].name,dv⟩):Ky×St)))/\n<=k*540+j*90+m*6+(q+1)/\(E3++(ks.take (q+1)).map (fun a:Al=>(((a.t,a.s),⟨rs[k].name,rs[k].rows[j].name,dv⟩):Ky×St))).length<=k*540+j*90+m*6+(q+1)/\(Cel w9 M w.heap.size g7 0 (.string rs[k].name)/\Cel w9 M w.heap.size g9 0 (.string rs[k].rows[j].name)/\∀(i:Nat) (h:i<rs[k].rows[j].rows.length),Cel w9 M w.heap.size gA i (.bool ((fE (aj rs[k].rows[j].rows)).getD i false)))/\(Cel w9 M w.heap.size g13 0 (.string rs[k].name)/\Cel w9 M w.heap.size g13 1 (.string rs[k].rows[j].name)/\Cel w9 M w.heap.size g13 2 (.int .i64 dv))/\(ks=[] \/ ∃gO X7,Y8=some ⟨gO,X7,none⟩/\∀(i:Nat) (h:i<ks.length),Cel w9 M w.heap.size gO (X7+i*2) (.string ks[i].t)/\Cel w9 M w.heap.size gO (X7+i*2+1) (.string ks[i].s))):=by
       have hS9:=HS6.out.trans hst.2;have e:E3++(ks.take (q+1)).map (fun a:Al=>(((a.t,a.s),⟨rs[k].name,rs[k].rows[j].name,dv⟩):Ky×St))=E6++[((ks[q].t,ks[q].s),(⟨rs[k].name,rs[k].rows[j].name,dv⟩:St))]:=by
        rw[V8 hql,Xb,<-WE,<-HE6D.out];rfl
       obtain⟨k1,k2,k3⟩:=HCK.out;refine⟨n6+1,_,by rw[e];exact hst.1,by omega,by rw[e,Wi];simp;omega,⟨k1.1.stl hS9,k1.2.1.stl hS9,fun i h=>(k1.2.2 i h).stl hS9⟩,⟨k2.1.stl hS9,k2.2.1.stl hS9,k2.2.2.stl hS9⟩,?_⟩;rcases k3 with hnil|⟨gO',offO',e1,hc⟩
       ·exact .inl hnil
       exact .inr ⟨gO',offO',e1,fun i h=>⟨(hc i h).1.stl hS9,(hc i h).2.stl hS9⟩⟩
      clear hst ZE hback hown8 ZR hnil8 hloc8 hg9 hM9;go_wp2;go_roundw;case rel=>exact⟨q+1,by omega,by go_num,(by rw[hadO]at HGN;exact HGN),HBN⟩
      simp[intOf]<;>omega
     obtain rfl:q=ks.length:=by omega
     have HGN:Hid (∃n M,Grp wr w.heap.size n M (E2++relE (ag rs) rs[k].name rs[k].rows[j].name (aj rs[k].rows[j].rows) (m+1))/\n<=k*540+j*90+(m+1)*6/\(E2++relE (ag rs) rs[k].name rs[k].rows[j].name (aj rs[k].rows[j].rows) (m+1)).length<=k*540+j*90+(m+1)*6/\(Cel wr M w.heap.size g7 0 (.string rs[k].name)/\Cel wr M w.heap.size g9 0 (.string rs[k].rows[j].name)/\∀(i:Nat) (h:i<rs[k].rows[j].rows.length),Cel wr M w.heap.size gA i (.bool ((fE (aj rs[k].rows[j].rows)).getD i false)))):=by
      obtain⟨n,M,h1,hn,h2,h3,-,-⟩:=HG.out;rw[Wo]at h1 h2;have e:E2++relE (ag rs) rs[k].name rs[k].rows[j].name (aj rs[k].rows[j].rows) (m+1)=E3++ks.map (fun a:Al=>(((a.t,a.s),⟨rs[k].name,rs[k].rows[j].name,dv⟩):Ky×St)):=by
       rw[D5 _ _ _ _ _ XQ _ HNG.out,<-WE,<-HE3D.out,HKS.out,HDE.out];rfl
      refine⟨n,M,by rw[e];exact h1,by omega,by rw[e];omega,h3⟩
     clear HG;go_wp2;go_roundw;case rel=>exact⟨m+1,by omega,by go_num,HGN,HB⟩
     simp[intOf]<;>omega
   obtain rfl:m=rs[k].rows[j].rows.length:=by omega
   have HGN:Hid (∃n M,Grp wr w.heap.size n M (E1++jm (ag rs) rs[k].name (rs[k].rows.take (j+1)))/\n<=k*540+(j+1)*90/\(E1++jm (ag rs) rs[k].name (rs[k].rows.take (j+1))).length<=k*540+(j+1)*90/\Cel wr M w.heap.size g7 0 (.string rs[k].name)):=by
    obtain⟨n,M,h1,hn,h2,h3⟩:=HG.out;have e:E1++jm (ag rs) rs[k].name (rs[k].rows.take (j+1))=E2++relE (ag rs) rs[k].name rs[k].rows[j].name (aj rs[k].rows[j].rows) rs[k].rows[j].rows.length:=by
     rw[J7 _ _ _ _ hjl,<-WE,<-HE2D.out]
    refine⟨n,M,?_,by omega,?_,h3.1⟩
    ·rw[e];exact h1
    rw[e];omega
   go_wp2;go_roundw;case rel=>exact⟨j+1,by omega,by go_num,HGN,HB⟩
   simp[intOf]<;>omega
  obtain rfl:j=rs[k].rows.length:=by omega
  have HGN:Hid (∃n M,Grp wr w.heap.size n M (jo (ag rs) (rs.take (k+1)))/\n<=(k+1)*540/\(jo (ag rs) (rs.take (k+1))).length<=(k+1)*540):=by
   obtain⟨n,M,h1,hn,h2,h3⟩:=HG.out;rw[Wo]at h1 h2;have e:jo (ag rs) (rs.take (k+1))=E1++jm (ag rs) rs[k].name rs[k].rows:=by rw[J8 _ _ _ hlt,<-HE1D.out]
   refine⟨n,M,?_,by omega,?_⟩
   ·rw[e];exact h1
   rw[e];omega
  go_wp2;go_roundw;case rel=>exact⟨k+1,by omega,by go_num,HGN,HB⟩
  simp[intOf]<;>omega
 obtain rfl:k=rs.length:=by omega
 have HGN:Hid (∃n M,Grp wr w.heap.size n M (jo (ag rs) rs)):=by
  obtain⟨n,M,h1,-⟩:=HG.out;rw[Wo]at h1;exact⟨n,M,h1⟩
 go_wp2;go_ret;exact⟨rfl,HGN.out,HB.out⟩
def Edge(ts:Q0b)(E:List (Ky×St)):Prop:=∀on t r s,(on,⟨t,r,s⟩)∈E↔(t,r)∈au ts/\∃d∈iw ts (t,r),(d.typ,d.rel)=on/\stepOf d=s
def xN:Option Int->Int
 | none=>0
 | some x=>x+1
def oZ(N:Nat)(σ:Ky->Option Int):List Ky->Int
 | []=>0
 | k::ks=>((N:Int)-xN (σ k))+oZ N σ ks
structure Rz(ts:Q0b)(N:Nat)(σ:Ky->Option Int):Prop where
 there:∀k x,σ k=some x->k∈au ts/\0<=x/\x<N/\qY ts k x
def IW(σ:Ky->Option Int)(k:Ky)(x:Int):Ky->Option Int:=fun y=>if y=k then some x else σ y
theorem o6(σ:Ky->Option Int)(k:Ky)(x:Int):IW σ k x k=some x:=by simp[IW]
theorem sN{σ:Ky->Option Int}{k y:Ky}{x:Int}(h:y≠k):IW σ k x y=σ y:=by simp[IW,h]
theorem Rz.val{ts:Q0b}{N:Nat}{σ:Ky->Option Int}(h:Rz ts N σ)(k:Ky):0<=xN (σ k)/\xN (σ k)<=N:=by
 cases e:σ k with
 | none=>simp[xN]
 | some x=>have:=h.there k x e;simp only[xN];omega
theorem Rz.mu_pos{ts:Q0b}{N:Nat}{σ:Ky->Option Int}(h:Rz ts N σ)(ks:List Ky):0<=oZ N σ ks:=by
 induction ks with
 | nil=>simp[oZ]
 | cons k ks ih=>have:=h.val k;simp only[oZ];omega
theorem Rz.set{ts:Q0b}{N:Nat}{σ:Ky->Option Int}(h:Rz ts N σ){k:Ky}{x:Int}(hk:k∈au ts)(h0:0<=x)(hN:x<N)(hl:qY ts k x):Rz ts N (IW σ k x):=⟨fun y z hz=>by
 by_cases e:y=k
 ·subst e;rw[o6]at hz;injection hz with hz;subst hz;exact⟨hk,h0,hN,hl⟩
 rw[sN e]at hz;exact h.there y z hz⟩
def wC(σ σ':Ky->Option Int):Prop:=∀k x,σ k=some x->∃y,σ' k=some y/\x<=y
theorem wC.refl(σ:Ky->Option Int):wC σ σ:=fun _ x h=>⟨x,h,Int.le_refl _⟩
theorem wC.trans{a b c:Ky->Option Int}(h:wC a b)(h2:wC b c):wC a c:=fun k x hx=>by
 obtain⟨y,hy,h3⟩:=h k x hx;obtain⟨z,hz,h4⟩:=h2 k y hy;exact⟨z,hz,by omega⟩
theorem wC.val{σ σ':Ky->Option Int}{ts:Q0b}{N:Nat}(h:wC σ σ')(hR:Rz ts N σ')(k:Ky):xN (σ k)<=xN (σ' k):=by
 cases e:σ k with
 | none=>exact(hR.val k).1
 | some x=>obtain⟨y,hy,h2⟩:=h k x e;rw[hy];simp only[xN];omega
theorem wC.mu{σ σ':Ky->Option Int}{ts:Q0b}{N:Nat}(h:wC σ σ')(hR:Rz ts N σ')(ks:List Ky):oZ N σ' ks<=oZ N σ ks:=by
 induction ks with
 | nil=>exact Int.le_refl _
 | cons k ks ih=>have:=h.val hR k;simp only[oZ];omega
theorem zz{σ:Ky->Option Int}{k:Ky}{x:Int}(h:∀y,σ k=some y->y<x):wC σ (IW σ k x):=fun y z hz=>by
 by_cases e:y=k
 ·subst e;exact⟨x,o6 _ _ _,by have:=h z hz;omega⟩
 exact⟨z,by rw[sN e];exact hz,Int.le_refl _⟩
theorem Vx{σ:Ky->Option Int}{ts:Q0b}{N:Nat}{k:Ky}{x:Int}(hR:Rz ts N (IW σ k x))(h:∀y,σ k=some y->y<x)(h0:0<=x)(ks:List Ky)(hk:k∈ks):oZ N (IW σ k x) ks+1<=oZ N σ ks:=by
 induction ks with
 | nil=>cases hk
 | cons y ks ih =>
  simp only[oZ];have hm:=(zz h).mu hR ks;have hv:=(zz h).val hR y;rcases Ws.1 hk with rfl|hk
  ·have:xN (σ k)+1<=xN (IW σ k x k):=by
    rw[o6];cases e:σ k with
    | none=>simp only[xN];omega
    | some z=>have:=h z e;simp only[xN];omega
   omega
  have:=ih hk;omega
def sO(E:List (Ky×St))(σ:Ky->Option Int)(k:Ky):Prop:=∀x,σ k=some x->∀s∈lookL E k,∃y,σ s.key=some y/\x+s.n<=y
structure Raised(E:List (Ky×St))(σ σ':Ky->Option Int):Prop where
 mono:wC σ σ'
 done:∀k,(sO E σ k\/σ' k≠σ k)->sO E σ' k
theorem Raised.refl(E:List (Ky×St))(σ:Ky->Option Int):Raised E σ σ:=⟨wC.refl _,fun _ h=>h.elim id (fun e=>absurd rfl e)⟩
theorem Raised.trans{E:List (Ky×St)}{a b c:Ky->Option Int}(h:Raised E a b)(h2:Raised E b c):Raised E a c:=⟨h.mono.trans h2.mono,fun k hk=>by
 by_cases e:c k=b k
 ·by_cases e2:b k=a k
  ·rcases hk with hk|hk
   ·exact h2.done k (.inl (h.done k (.inl hk)))
   exact absurd (e.trans e2) hk
  exact h2.done k (.inl (h.done k (.inr e2)))
 exact h2.done k (.inr e)⟩
structure Half(E:List (Ky×St))(σ:Ky->Option Int)(key:Ky)(x:Int)(j:Nat)(σ':Ky->Option Int):Prop where
 mono:wC σ σ'
 done:∀k,k≠key->(sO E σ k\/σ' k≠σ k)->sO E σ' k
 own:sO E σ' key\/(σ' key=some x/\∀s∈(lookL E key).take j,∃y,σ' s.key=some y/\x+s.n<=y)
 at':∃y,σ' key=some y/\x<=y
theorem Half.start{E:List (Ky×St)}{σ:Ky->Option Int}{key:Ky}{x:Int}(h:∀y,σ key=some y->y<x):Half E σ key x 0 (IW σ key x) where
 mono:=zz h
 done k hk hs:=by
  have e:IW σ key x k=σ k:=sN hk;rcases hs with hs|hs
  ·intro z hz s hm;rw[e]at hz;obtain⟨y,hy,hle⟩:=hs z hz s hm;obtain⟨y',hy',h2⟩:=zz h _ y hy;exact⟨y',hy',by omega⟩
  exact absurd e hs
 own:=.inr ⟨o6 _ _ _,fun s hs=>by simp at hs⟩
 at':=⟨x,o6 _ _ _,Int.le_refl _⟩
theorem Half.step{E:List (Ky×St)}{σ σ1 σ2:Ky->Option Int}{key:Ky}{x:Int}{j:Nat}(h:Half E σ key x j σ1)(hj:j<(lookL E key).length)(hR:Raised E σ1 σ2)(hy:∃y,σ2 (lookL E key)[j].key=some y/\x+(lookL E key)[j].n<=y):Half E σ key x (j+1) σ2 where
 mono:=h.mono.trans hR.mono
 done k hk hs:=by
  by_cases e:σ2 k=σ1 k
  ·by_cases e2:σ1 k=σ k
   ·rcases hs with hs|hs
    ·exact hR.done k (.inl (h.done k hk (.inl hs)))
    exact absurd (e.trans e2) hs
   exact hR.done k (.inl (h.done k hk (.inr e2)))
  exact hR.done k (.inr e)
 own:=by
  rcases h.own with ho|⟨h1,h2⟩
  ·exact .inl (hR.done key (.inl ho))
  by_cases e:σ2 key=σ1 key
  ·refine .inr ⟨e.trans h1,fun s hs=>?_⟩;rw[V8 hj]at hs;rcases Wj.1 hs with hs|hs
   ·obtain⟨y,hy1,hy2⟩:=h2 s hs;obtain⟨z,hz,h3⟩:=hR.mono _ y hy1;exact⟨z,hz,by omega⟩
   simp at hs;subst hs;exact hy
  exact .inl (hR.done key (.inr e))
 at':=by
  obtain⟨y,hy,h1⟩:=h.at';obtain⟨z,hz,h2⟩:=hR.mono key y hy;exact⟨z,hz,by omega⟩
theorem Half.full{E:List (Ky×St)}{σ σ':Ky->Option Int}{key:Ky}{x:Int}{j:Nat}(h:Half E σ key x j σ')(hj:(lookL E key).length<=j):Raised E σ σ' where
 mono:=h.mono
 done k hk:=by
  by_cases e:k=key
  ·subst e;rcases h.own with ho|⟨h1,h2⟩
   ·exact ho
   intro z hz s hs;rw[h1]at hz;injection hz with hz;subst hz;exact h2 s (by rw[WL hj];exact hs)
  exact h.done k e hk
theorem Fz{ts:Q0b}{N:Nat}{E:List (Ky×St)}{σ:Ky->Option Int}(hE:Edge ts E)(hF:Found ts)(hR:Rz ts N σ)(hall:∀k∈au ts,∃x,σ k=some x)(hs:∀k,sO E σ k):Least ts (fun k=>(σ k).getD 0) where
 sol:=⟨fun k=>by
   cases e:σ k with
   | none=>exact Int.le_refl _
   | some x=>exact(hR.there k x e).2.1,fun k hk d hd=>by
   obtain⟨x,hx⟩:=hall _ (hF k hk d hd);have hm:(⟨k.1,k.2,stepOf d⟩:St)∈lookL E (d.typ,d.rel):=mem_lookL.2 ((hE _ _ _ _).2 ⟨hk,d,hd,rfl,rfl⟩);obtain⟨y,hy,h2⟩:=hs _ x hx _ hm;have hy':σ k=some y:=hy;simp only[hx,hy',WO];exact h2⟩
 low k hk:=by
  obtain⟨x,hx⟩:=hall k hk;simp only[hx,WO];exact(hR.there k x hx).2.2.2
theorem Edge.low{ts:Q0b}{E:List (Ky×St)}(hE:Edge ts E){k:Ky}{x:Int}(hl:qY ts k x){s:St}(hs:s∈lookL E k):s.key∈au ts/\qY ts s.key (x+s.n)/\0<=s.n/\s.n<=1:=by
 obtain⟨h1,d,hd,e1,e2⟩:=(hE k s.typ s.rel s.n).1 (mem_lookL.1 hs);have:=Aw d;refine⟨h1,?_,by omega,by omega⟩;rw[<-e2];exact qY.step h1 hd (by rw[e1];exact hl)
def jb(σ:Ky->Option Int):Ky->Option Value:=fun k=>(σ k).map fun x=>Value.int .i64 x
theorem Sk(σ:Ky->Option Int)(k:Ky)(x:Int):lQ (jb σ) k (some (.int .i64 x))=jb (IW σ k x):=by
 funext y
 unfold jb;by_cases e:y=k
 ·subst e;rw[dY,o6];rfl
 rw[cu e,sN e]
theorem wD(u:ae):(zeroValue 2).run prog u=.ok (.int .i64 0) u:=by kernel_rfl
def FB(gS gC gL gR:Nat):Value:=.func (Fn.func 175) #[] #[.pointer (some ⟨gS,0,none⟩),.pointer (some ⟨gC,0,none⟩),.pointer (some ⟨gL,0,none⟩),.pointer (some ⟨gR,0,none⟩)]
structure Rw(w:World)(gS gC gL gR bS bL N n nL:Nat)(ML:Ky->Option Value)(E:List (Ky×St))(σ:Ky->Option Int):Prop where
 cS:w.cell? ⟨gS,0,none⟩=some (.map (some bS))
 cC:w.cell? ⟨gC,0,none⟩=some (.int .i64 N)
 cL:w.cell? ⟨gL,0,none⟩=some (.map (some bL))
 cR:w.cell? ⟨gR,0,none⟩=some (FB gS gC gL gR)
 lS:gS<w.heap.size/\gS≠bS
 lC:gC<w.heap.size/\gC≠bS
 lL:gL<w.heap.size/\gL≠bS
 lR:gR<w.heap.size/\gR≠bS
 map:aN dU prog 151 w bS n (jb σ)
 lean:Grp w bL nL ML E
 bne:bL≠bS
 free:FreeB ML bS
theorem kW{w w':ae}{b g:Nat}(hg:w.grownBy w' (some b))(hl:g<w.heap.size/\g≠b)(o:Nat):w'.cell? ⟨g,o,none⟩=w.cell? ⟨g,o,none⟩:=Wt (w:=w) (hg.block g hl.1 (fun e=>hl.2 (by injection e)))
theorem Grp.kept{w w':ae}{bL n b:Nat}{M:Ky->Option Value}{E:List (Ky×St)}(h:Grp w bL n M E)(hg:w.grownBy w' (some b))(hb:bL≠b)(hf:FreeB M b):Grp w' bL n M E where
 map:=h.map.kept hg (by intro e;injection e with e;exact hb e)
 row k:=by
  rcases h.row k with e|⟨v,e,ho⟩
  ·exact .inl e
  exact .inr ⟨v,e,ho.kept hg (.inr (hf k v e))⟩
 apart:=h.apart
theorem Rw.kept{w w':ae}{gS gC gL gR bS bL N n n' nL:Nat}{ML:Ky->Option Value}{E:List (Ky×St)}{σ σ':Ky->Option Int}(h:Rw w gS gC gL gR bS bL N n nL ML E σ)(hg:w.grownBy w' (some bS))(hM:aN dU prog 151 w' bS n' (jb σ')):Rw w' gS gC gL gR bS bL N n' nL ML E σ' where
 cS:=(kW hg h.lS 0).trans h.cS
 cC:=(kW hg h.lC 0).trans h.cC
 cL:=(kW hg h.lL 0).trans h.cL
 cR:=(kW hg h.lR 0).trans h.cR
 lS:=⟨VY h.lS.1 hg.size,h.lS.2⟩
 lC:=⟨VY h.lC.1 hg.size,h.lC.2⟩
 lL:=⟨VY h.lL.1 hg.size,h.lL.2⟩
 lR:=⟨VY h.lR.1 hg.size,h.lR.2⟩
 map:=hM
 lean:=h.lean.kept hg h.bne h.free
 bne:=h.bne
 free:=h.free
theorem jq{w w':ae}{b:Nat}(h:af w w'):w.grownBy w' (some b):=⟨h.os,h.tape,h.output,h.size,fun k hk _=>h.block k hk⟩
theorem Rw.below{w w':ae}{gS gC gL gR bS bL N n nL:Nat}{ML:Ky->Option Value}{E:List (Ky×St)}{σ:Ky->Option Int}(h:Rw w gS gC gL gR bS bL N n nL ML E σ)(hB:af w w'):Rw w' gS gC gL gR bS bL N n nL ML E σ:=h.kept (jq hB) (h.map.below hB)
theorem nV{a b c:ae}{r:Option Nat}(h:a.grownBy b r)(h2:b.grownBy c r):a.grownBy c r:=⟨h2.os.trans h.os,h2.tape.trans h.tape,h2.output.trans h.output,Wh h.size h2.size,fun k hk hr=>(h2.block k (VY hk h.size) hr).trans (h.block k hk hr)⟩
def Kb(ts:Q0b)(w:World)(gS gC gL gR bS bL N n nL:Nat)(ML:Ky->Option Value)(E:List (Ky×St))(σ:Ky->Option Int)(key:Ky)(lv:Int)(e:Ending)(w':World):Prop :=
 ∃(ok:Bool) (σ':Ky->Option Int) (n':Nat),e=.returned (.bool ok)/\w.grownBy w' (some bS)/\Rw w' gS gC gL gR bS bL N n' nL ML E σ'/\Rz ts N σ'/\(n':Int)+oZ N σ' (au ts)<=n+oZ N σ (au ts)/\oZ N σ' (au ts)<=oZ N σ (au ts) /\
  (ok=false->¬ ∃f,Sol ts f)/\(ok=true->Raised E σ σ'/\∃x,σ' key=some x/\lv<=x)
set_option maxRecDepth 100000 in
theorem Ns(ts:Q0b)(gS gC gL gR bS bL N nL:Nat)(ML:Ky->Option Value)(E:List (Ky×St))(hE:Edge ts E)(hF:Found ts)(hN:N=(au ts).length)(hN36:N<=36)(hsz:∀k∈au ts,k.1.size<=maxLen/\k.2.size<=maxLen)(hEl:E.length<=100000)(f:Nat):
  ∀(w:World) (σ:Ky->Option Int) (n:Nat) (key:Ky) (lv:Int),Rw w gS gC gL gR bS bL N n nL ML E σ->Rz ts N σ->oZ N σ (au ts)<=f->(n:Int)+oZ N σ (au ts)<=100000->key∈au ts->0<=lv->lv<=100->qY ts key lv ->
  Calls prog 175 #[.agg #[.string key.1,.string key.2],.int .i64 lv,.pointer (some ⟨gS,0,none⟩),.pointer (some ⟨gC,0,none⟩),.pointer (some ⟨gL,0,none⟩),.pointer (some ⟨gR,0,none⟩)] w (Kb ts w gS gC gL gR bS bL N n nL ML E σ key lv):=by
 have HE:=aC hE;have HF:=aC hF;have HSZ:Hid (∀k∈au ts,k.1.size<=maxLen/\k.2.size<=maxLen):=hsz;have Zu:Hid (N=(au ts).length):=hN;clear hE hF hsz hN
 induction f using Nat.strongRecOn with
 | _ f ih =>
 intro w σ n key lv hR hZ hmu hnm hk h0 h1 hl;have HIH:Hid (∀m<f,_):=ih;clear ih;obtain⟨hz1,hz2⟩:=HSZ.out key hk;obtain⟨kl,hkl⟩:=kJ key hz1 hz2;have Yp:Hid (keyOf prog 151 (dU key)=some kl):=hkl;have HR:=aC hR;have HZ:=aC hZ;have HLK:=aC hl;have HKM:=aC hk;have hmp:=hZ.mu_pos (au ts);have cS:=hR.cS;have cC:=hR.cC;have cL:=hR.cL;have lS:=hR.lS.1;have lC:=hR.lC.1;have lL:=hR.lL.1;have hbS:=hR.map.lt;have hal:af w (w.alloc (.cells #[.string key.1,.string key.2] 151)):=(V5 _ _).alloc (V4 _) _;have XJ:=aC hal;have HM1:Hid (aN dU prog 151 (w.alloc (.cells #[.string key.1,.string key.2] 151)) bS n (jb σ)):=hR.map.below hal;have HR1:=aC (hR.below hal);clear hR hZ hl hkl hal hk;by_cases hd:∃x,σ key=some x/\lv<=x
 ·obtain⟨x,hx,hle⟩:=hd;obtain⟨-,hx0,hxN,-⟩:=HZ.out.there key x hx;have hlk:jb σ key=some (.int .i64 x):=by unfold jb;rw[hx];rfl
  have HX:Hid (σ key=some x):=hx;clear hx;go_enter func175,ntmps175;go_wp2_with(at_lookup;refine dL _ rfl _ _ 141 rfl 151 2 jf underlying141 (wD _) bS n (jb σ) rfl HM1.out key kl rfl Yp.out ?_;simp only[hlk,WO,Option.isSome_some]);go_ret;exact⟨true,σ,n,rfl,jq XJ.out,HR1.out,HZ.out,Int.le_refl _,Int.le_refl _,by simp,fun _=>⟨Raised.refl _ _,x,HX.out,hle⟩⟩
 have HLT:Hid (∀y,σ key=some y->y<lv):=fun y hy=>by
  by_cases h:lv<=y
  ·exact absurd ⟨y,hy,h⟩ hd
  omega
 clear hd;by_cases hNt:(N:Int)<=lv
 ·have Zl:Hid (¬ ∃f,Sol ts f):=Pk HF.out HKM.out HLK.out (by have:=Zu.out;omega);cases hs:σ key with
  | none =>
   have hlk:jb σ key=none:=by unfold jb;rw[hs];rfl
   clear hs;go_enter func175,ntmps175;go_wp2_with(at_lookup;refine dL _ rfl _ _ 141 rfl 151 2 jf underlying141 (wD _) bS n (jb σ) rfl HM1.out key kl rfl Yp.out ?_;simp only[hlk,Option.getD_none,Option.isSome_none]);go_ret;exact⟨false,σ,n,rfl,jq XJ.out,HR1.out,HZ.out,Int.le_refl _,Int.le_refl _,fun _=>Zl.out,by simp⟩
  | some x =>
   have hxt:x<lv:=HLT.out x hs;obtain⟨-,hx0,hxN,-⟩:=HZ.out.there key x hs;have hlk:jb σ key=some (.int .i64 x):=by unfold jb;rw[hs];rfl
   clear hs;go_enter func175,ntmps175;go_wp2_with(at_lookup;refine dL _ rfl _ _ 141 rfl 151 2 jf underlying141 (wD _) bS n (jb σ) rfl HM1.out key kl rfl Yp.out ?_;simp only[hlk,WO,Option.isSome_some]);go_ret;exact⟨false,σ,n,rfl,jq XJ.out,HR1.out,HZ.out,Int.le_refl _,Int.le_refl _,fun _=>Zl.out,by simp⟩
 have hNt':lv<(N:Int):=by omega
 have HZ2:Hid (Rz ts N (IW σ key lv)):=HZ.out.set HKM.out h0 hNt' HLK.out;have HMU:Hid (oZ N (IW σ key lv) (au ts)+1<=oZ N σ (au ts)):=Vx HZ2.out HLT.out h0 _ HKM.out;obtain⟨adL,cpL,hvl,hrow⟩:=RX (wB HR.out.lean key);have HVL:Hid ((ML key).getD (.slice none 0 0)=.slice adL (lookL E key).length cpL):=hvl;have hll:(lookL E key).length<=100000:=Wh (D7 _ _) hEl;clear hvl hrow;cases hs:σ key
 case' none =>
  have hlk:jb σ key=none:=by unfold jb;rw[hs];rfl
  clear hs;go_enter func175,ntmps175
  go_wp2_with (first
   | (at_lookup;refine dL _ rfl _ _ 141 rfl 151 2 jf underlying141 (wD _) bS n (jb σ) rfl HM1.out key kl rfl Yp.out ?_;simp only[hlk,Option.getD_none,Option.isSome_none])
   | (at_mapUpdate;refine kw _ rfl _ _ _ 141 rfl 151 2 jf uX underlying141 bS n (jb σ) rfl HM1.out (by unfold maxLen;omega) key kl rfl Yp.out (.int .i64 lv) rfl ?_;intro w2 hV2 hg2;have cL2:w2.cell? ⟨gL,0,none⟩=some (.map (some bL)):=(kW hg2 HR1.out.lL 0).trans HR1.out.cL;have k0:w2.cell? ⟨w.heap.size,0,none⟩=some (.string key.1):=(kW hg2 ⟨by simp,by omega⟩ 0).trans (by simp);have k1:w2.cell? ⟨w.heap.size,1,none⟩=some (.string key.2):=(kW hg2 ⟨by simp,by omega⟩ 1).trans (by simp))
   | (at_lookup;refine jA _ rfl _ _ 220 rfl 151 276 jf underlying220 (Ka _) bL nL ML rfl ((HR1.out.lean.kept hg2 HR1.out.bne HR1.out.free).map) key kl rfl Yp.out ?_;rw[HVL.out]))
 case' some x =>
  have hxt:x<lv:=HLT.out x hs;obtain⟨-,hx0,hxN,-⟩:=HZ.out.there key x hs;have hlk:jb σ key=some (.int .i64 x):=by unfold jb;rw[hs];rfl
  clear hs;go_enter func175,ntmps175
  go_wp2_with (first
   | (at_lookup;refine dL _ rfl _ _ 141 rfl 151 2 jf underlying141 (wD _) bS n (jb σ) rfl HM1.out key kl rfl Yp.out ?_;simp only[hlk,WO,Option.isSome_some])
   | (at_mapUpdate;refine kw _ rfl _ _ _ 141 rfl 151 2 jf uX underlying141 bS n (jb σ) rfl HM1.out (by unfold maxLen;omega) key kl rfl Yp.out (.int .i64 lv) rfl ?_;intro w2 hV2 hg2;have cL2:w2.cell? ⟨gL,0,none⟩=some (.map (some bL)):=(kW hg2 HR1.out.lL 0).trans HR1.out.cL;have k0:w2.cell? ⟨w.heap.size,0,none⟩=some (.string key.1):=(kW hg2 ⟨by simp,by omega⟩ 0).trans (by simp);have k1:w2.cell? ⟨w.heap.size,1,none⟩=some (.string key.2):=(kW hg2 ⟨by simp,by omega⟩ 1).trans (by simp))
   | (at_lookup;refine jA _ rfl _ _ 220 rfl 151 276 jf underlying220 (Ka _) bL nL ML rfl ((HR1.out.lean.kept hg2 HR1.out.bne HR1.out.free).map) key kl rfl Yp.out ?_;rw[HVL.out]))
 all_goals
  have HR2:Hid (Rw w2 gS gC gL gR bS bL N (n+1) nL ML E (IW σ key lv)):=HR1.out.kept hg2 (by rw[<-Sk];exact hV2);have HG2:Hid (w.grownBy w2 (some bS)):=nV (jq XJ.out) hg2;clear hV2 hg2 cL2 k0 k1;go_loopw[35] (fun i w3=>∃j:Nat,j<=(lookL E key).length/\i=.int .i64 j/\Hid (∃(σ3:Ky->Option Int) (n3:Nat),Half E σ key lv j σ3/\Rw w3 gS gC gL gR bS bL N n3 nL ML E σ3/\Rz ts N σ3/\(n3:Int)+oZ N σ3 (au ts)<=n+oZ N σ (au ts)/\oZ N σ3 (au ts)+1<=oZ N σ (au ts)/\w.grownBy w3 (some bS))) (fun i _=>(lookL E key).length-(intOf i).toNat);case atStart=>exact⟨0,Wd _,rfl,⟨IW σ key lv,n+1,Half.start HLT.out,HR2.out,HZ2.out,by have:=HMU.out;push_cast;omega,HMU.out,HG2.out⟩⟩
  clear HR2 HG2 HZ2 HMU;obtain⟨j,hj,rfl,HI⟩:=hrel;by_cases hjl:j<(lookL E key).length
  ·obtain⟨σ3,n3,hH3,Y3,hZ3,hn3,hm3,hg3⟩:=HI.out;obtain⟨XB,cp',hv',hrow'⟩:=RX (wB Y3.lean key);rw[HVL.out]at hv';injection hv' with e1 e2 e3;subst e1;rcases hrow' with h|⟨gr,Xx,hgr1,XP,hcr⟩
   ·omega
   obtain⟨st,hst⟩:∃st,st=(lookL E key)[j]:=⟨_,rfl⟩;have r0:wr.cell? ⟨gr,j*3,none⟩=some (.string st.typ):=hcr _ _ (by have:=lY (lookL E key) j hjl 0 (by omega);rw[hst];simpa[St.cells] using this);have r1:wr.cell? ⟨gr,j*3+1,none⟩=some (.string st.rel):=hcr _ _ (by have:=lY (lookL E key) j hjl 1 (by omega);rw[hst];simpa[St.cells] using this);have r2:wr.cell? ⟨gr,j*3+2,none⟩=some (.int .i64 st.n):=hcr _ _ (by have:=lY (lookL E key) j hjl 2 (by omega);rw[hst];simpa[St.cells] using this);have HST:Hid (st=(lookL E key)[j]):=hst;obtain⟨hsk,hsl,hsn0,hsn1⟩:=HE.out.low HLK.out (s:=st) (by rw[hst];exact VZ hjl);have HSK:=aC hsk;have ZZ:=aC hsl;have hj1:=bC j;have hj2:(j:Int)<((lookL E key).length:Int):=by omega
   have cR3:=Y3.cR;unfold FB at cR3;have lR3:=Y3.lR.1;obtain⟨W3,hW3⟩:∃W3,W3=wr.alloc (.cells #[.string st.typ,.string st.rel,.int .i64 st.n] 278):=⟨_,rfl⟩;have hal3:af wr W3:=by rw[hW3];exact(V5 _ _).alloc (V4 _) _
   have HR3:=aC (Y3.below hal3);have HG3:Hid (w.grownBy W3 (some bS)):=nV hg3 (jq hal3);have HH3:=aC hH3;have HZ3:=aC hZ3;have hm3p:=hZ3.mu_pos (au ts);have HNM:Hid ((n3:Int)+oZ N σ3 (au ts)<=n+oZ N σ (au ts)/\oZ N σ3 (au ts)+1<=oZ N σ (au ts)):=⟨hn3,hm3⟩;rw[Xx];clear hcr hgr1 XP hsk hsl hst Y3 hal3 hH3 hZ3 hg3 HI e2 e3;go_wp2_with fail;rw[<-hW3];clear hW3 r0 r1 r2 cR3;refine(HIH.out (oZ N σ3 (au ts)).toNat (by omega) _ σ3 n3 st.key (lv+st.n) HR3.out HZ3.out (by omega) (by omega) HSK.out (by omega) (by omega) ZZ.out).mono ?_;rintro e w5 ⟨ok,σ5,n5,rfl,hg5,X9,hZ5,hn5,ZT,hf5,ht5⟩;cases ok;case false=>
    have HP:Hid (Kb ts w gS gC gL gR bS bL N n nL ML E σ key lv (.returned (.bool false)) w5):=by
     have h:=HNM.out;exact⟨false,σ5,n5,rfl,nV HG3.out hg5,X9,hZ5,by omega,by omega,fun _=>hf5 rfl,by simp⟩
    clear hg5 X9 hZ5 hn5 ZT hf5 ht5;go_wp2;go_ret;exact HP.out
   have HI2:Hid (∃(σ3:Ky->Option Int) (n3:Nat),Half E σ key lv (j+1) σ3/\Rw w5 gS gC gL gR bS bL N n3 nL ML E σ3/\Rz ts N σ3/\(n3:Int)+oZ N σ3 (au ts)<=n+oZ N σ (au ts)/\oZ N σ3 (au ts)+1<=oZ N σ (au ts)/\w.grownBy w5 (some bS)):=by
    have h:=HNM.out;obtain⟨hRa,y,hy,hle⟩:=ht5 rfl;refine⟨σ5,n5,HH3.out.step hjl hRa ⟨y,?_,?_⟩,X9,hZ5,by omega,by omega,nV HG3.out hg5⟩
    ·rw[<-HST.out];exact hy
    rw[<-HST.out];exact hle
   clear hg5 X9 hZ5 hn5 ZT hf5 ht5;go_wp2;go_roundw;case rel=>exact⟨j+1,by omega,by go_num,HI2⟩
   simp[intOf]<;>omega
  obtain rfl:j=(lookL E key).length:=by omega
  have HP:Hid (Kb ts w gS gC gL gR bS bL N n nL ML E σ key lv (.returned (.bool true)) wr):=by
   obtain⟨σ3,n3,hH3,Y3,hZ3,hn3,hm3,hg3⟩:=HI.out;exact⟨true,σ3,n3,rfl,hg3,Y3,hZ3,hn3,by omega,by simp,fun _=>⟨hH3.full (V4 _),hH3.at'⟩⟩
  clear HI;go_wp2;go_ret;exact HP.out
end Go.Proofs.YtcgdckphpjfmhaaGreatDoor
