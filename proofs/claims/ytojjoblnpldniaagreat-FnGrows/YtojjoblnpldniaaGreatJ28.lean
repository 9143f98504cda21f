/- Contract of the document's function that puts a tuple into its place. -/
import Derived.Test.YtojjoblnpldniaaGreatSq
import Derived.Test.YtojjoblnpldniaaGreatJ18
import Derived.Test.YtojjoblnpldniaaGreatJ7
import Derived.Test.YtojjoblnpldniaaGreatShelfT
open Go.Proofs.Tryz
set_option maxHeartbeats 80000000
namespace Go.Proofs.YtojjoblnpldniaaGreat
open ChangeShapes WideShapes ChangeAt RowKit Maps
open Pl
set_option maxRecDepth 8000 in
theorem Oa(b off cap:Nat)(ts:Q05)(t:Tp)(w:ae)(hlen:ts.length<=1000)(hcap:ts.length<=cap)(hs:jJ w b off ts)(hb:b<w.heap.size)(hf:∀x∈ts,x.fits)(ht:t.fits):
  Calls prog 132 #[.slice (some ⟨b,off,none⟩) ts.length cap,.agg #[.string t.a,.string t.b,.string t.r,.string t.c,.string t.d,.string t.s]] w fun e w'=>∃v:Value,e=.returned v/\w'.ownsRow w.heap.size 29 6 v (gJ ts t).length (aZ (gJ ts t))/\ag w w':=by
 obtain⟨iT,hiT,zT0,zT1,zT2⟩:=info_parts (P:=prog) (e:=29) (z:=.agg #[.string ⟨#[]⟩,.string ⟨#[]⟩,.string ⟨#[]⟩,.string ⟨#[]⟩,.string ⟨#[]⟩,.string ⟨#[]⟩]) (size:=6) (bytes:=96) (by kernel_rfl);have HIT:Hid (prog.info? 29=some iT/\iT.zero=some (.agg #[.string ⟨#[]⟩,.string ⟨#[]⟩,.string ⟨#[]⟩,.string ⟨#[]⟩,.string ⟨#[]⟩,.string ⟨#[]⟩])/\iT.size=6/\iT.bytes=96):=⟨hiT,zT0,zT1,zT2⟩;have HS:=aC hs;have HF:=aC hf;have HT:Hid t.fits:=ht;clear hs hf ht hiT zT0 zT1 zT2;obtain⟨W0,hW0⟩:∃W0,W0=w.alloc (.cells #[.string t.a,.string t.b,.string t.r,.string t.c,.string t.d,.string t.s] 29):=⟨_,rfl⟩;have HB0:=sH hW0;have HX0:Hid (uH W0 w.heap.size t):=by show uH _ _ _;rw[hW0];exact yY w t _
 go_enter func132,ntmps132;go_wp2;rw[<-hW0];clear hW0;go_loopw[5] (fun i wr=>∃k:Nat,k<=ts.length/\i=.int .i64 k/\Hid (∀i (h:i<ts.length),i<k->ts[i].ahead t=true)/\Hid (ag w wr)/\Hid (uH wr w.heap.size t)) (fun i _=>ts.length-(intOf i).toNat);case atStart=>exact⟨0,Vv _,rfl,fun i h hi=>by omega,HB0,HX0⟩
 clear HX0 HB0;obtain⟨k,hk,rfl,HU,HB,HX⟩:=hrel;have hk1:=bC k;by_cases hlt:k<ts.length
 ·have hk2:(k:Int)<(ts.length:Int):=by omega
  obtain⟨t0,t1,t2,t3,t4,t5⟩:=(HS.out.below HB.out hb) k hlt;obtain⟨x0,x1,x2,x3,x4,x5,xl⟩:=HX.out;have hbr:b<wr.heap.size:=Vq hb HB.out.size;obtain⟨f0,f1,f2,f3,f4,f5⟩:=HF.out _ (Vp hlt);obtain⟨e0,e1,e2,e3,e4,e5⟩:=HT.out;have HA:Hid (∀W,Calls prog 199 #[.agg #[.string ts[k].a,.string ts[k].b,.string ts[k].r,.string ts[k].c,.string ts[k].d,.string ts[k].s],.agg #[.string t.a,.string t.b,.string t.r,.string t.c,.string t.d,.string t.s]] W fun e w'=>e=.returned (.bool (ts[k].ahead t))/\ag W w'):=fun W=>nH _ _ _ _ _ _ _ _ _ _ _ _ W f0 f1 f2 f3 f4 f5 e0 e1 e2 e3 e4 e5;clear f0 f1 f2 f3 f4 f5 e0 e1 e2 e3 e4 e5;have H0:wr.drew.cell? ⟨b,off+k*6,none⟩=some (.string ts[k].a)/\wr.drew.cell? ⟨b,off+k*6+1,none⟩=some (.string ts[k].b)/\wr.drew.cell? ⟨b,off+k*6+2,none⟩=some (.string ts[k].r)/\wr.drew.cell? ⟨b,off+k*6+3,none⟩=some (.string ts[k].c)/\wr.drew.cell? ⟨b,off+k*6+4,none⟩=some (.string ts[k].d)/\wr.drew.cell? ⟨b,off+k*6+5,none⟩=some (.string ts[k].s)/\wr.drew.cell? ⟨w.heap.size,0,none⟩=some (.string t.a)/\wr.drew.cell? ⟨w.heap.size,1,none⟩=some (.string t.b)/\wr.drew.cell? ⟨w.heap.size,2,none⟩=some (.string t.r)/\wr.drew.cell? ⟨w.heap.size,3,none⟩=some (.string t.c)/\wr.drew.cell? ⟨w.heap.size,4,none⟩=some (.string t.d)/\wr.drew.cell? ⟨w.heap.size,5,none⟩=some (.string t.s)/\b<wr.drew.heap.size/\w.heap.size<wr.drew.heap.size/\ag w wr.drew:=⟨t0,t1,t2,t3,t4,t5,x0,x1,x2,x3,x4,x5,hbr,xl,HB.out.drew⟩;clear t0 t1 t2 t3 t4 t5 x0 x1 x2 x3 x4 x5;generalize hq:ts[k].ahead t=q at HA;cases q;case true=>
   have HQ:Hid (ts[k].ahead t=true):=hq;clear hq;go_wp2_with fail
   go_region_held3 (fun w'=>w'.cell? ⟨b,off+k*6,none⟩=some (.string ts[k].a)/\w'.cell? ⟨b,off+k*6+1,none⟩=some (.string ts[k].b)/\w'.cell? ⟨b,off+k*6+2,none⟩=some (.string ts[k].r)/\w'.cell? ⟨b,off+k*6+3,none⟩=some (.string ts[k].c)/\w'.cell? ⟨b,off+k*6+4,none⟩=some (.string ts[k].d)/\w'.cell? ⟨b,off+k*6+5,none⟩=some (.string ts[k].s)/\w'.cell? ⟨w.heap.size,0,none⟩=some (.string t.a)/\w'.cell? ⟨w.heap.size,1,none⟩=some (.string t.b)/\w'.cell? ⟨w.heap.size,2,none⟩=some (.string t.r)/\w'.cell? ⟨w.heap.size,3,none⟩=some (.string t.c)/\w'.cell? ⟨w.heap.size,4,none⟩=some (.string t.d)/\w'.cell? ⟨w.heap.size,5,none⟩=some (.string t.s)/\b<w'.heap.size/\w.heap.size<w'.heap.size/\ag w w')
    (first|assumption|exact LB (by assumption) hbx|exact H0)
    (first|(go_at_call 199;refine(HA.out _).mono ?_;rintro e w' ⟨rfl,hbx⟩))
   rename_i hH;obtain⟨-,-,-,-,-,-,x0,x1,x2,x3,x4,x5,-,xl,gB⟩:=hH;have HB2:=di gB;have YK:=di (PZ x0 x1 x2 x3 x4 x5 xl);have HU2:Hid (∀i (h:i<ts.length),i<k+1->ts[i].ahead t=true):=fun i h hi=>by
    by_cases e:i=k
    ·subst e;exact HQ.out
    exact HU.out i h (by omega)
   clear x0 x1 x2 x3 x4 x5 gB hbx H0 HA HQ HU HB HX;go_wp2;go_roundw;case rel=>exact⟨k+1,by omega,by go_num,HU2,HB2,YK⟩
   simp[intOf]<;>omega
  have HQ:Hid (ts[k].ahead t=false):=hq;clear hq;go_wp2_with fail
  go_region_held3 (fun w'=>w'.cell? ⟨b,off+k*6,none⟩=some (.string ts[k].a)/\w'.cell? ⟨b,off+k*6+1,none⟩=some (.string ts[k].b)/\w'.cell? ⟨b,off+k*6+2,none⟩=some (.string ts[k].r)/\w'.cell? ⟨b,off+k*6+3,none⟩=some (.string ts[k].c)/\w'.cell? ⟨b,off+k*6+4,none⟩=some (.string ts[k].d)/\w'.cell? ⟨b,off+k*6+5,none⟩=some (.string ts[k].s)/\w'.cell? ⟨w.heap.size,0,none⟩=some (.string t.a)/\w'.cell? ⟨w.heap.size,1,none⟩=some (.string t.b)/\w'.cell? ⟨w.heap.size,2,none⟩=some (.string t.r)/\w'.cell? ⟨w.heap.size,3,none⟩=some (.string t.c)/\w'.cell? ⟨w.heap.size,4,none⟩=some (.string t.d)/\w'.cell? ⟨w.heap.size,5,none⟩=some (.string t.s)/\b<w'.heap.size/\w.heap.size<w'.heap.size/\ag w w')
   (first|assumption|exact LB (by assumption) hbx|exact H0)
   (first|(go_at_call 199;refine(HA.out _).mono ?_;rintro e w' ⟨rfl,hbx⟩))
  rename_i hH;obtain⟨-,-,-,-,-,-,x0,x1,x2,x3,x4,x5,-,xl,gB⟩:=hH;have HP:=di (LA ts t k hk HU.out (fun _=>HQ.out));have WP:=di gB;have HXW:=di (PZ x0 x1 x2 x3 x4 x5 xl);clear hbx H0 HA HQ HU HB HX gB x0 x1 x2 x3 x4 x5;obtain⟨W1,hW1⟩:∃W1,W1=w'.alloc (.cells #[] 29):=⟨_,rfl⟩;have Xx:Hid (W1.ownsRow w'.heap.size 29 6 (.slice (some ⟨w'.heap.size,0,none⟩) 0 0) 0 []):=by
   show World.ownsRow _ _ _ _ _ _ _;rw[hW1];exact World.ownsRow_lit w' #[] 0 (Vr _) (by unfold maxLen;omega) (by simp)
  have XE:=sH hW1;have HR1:Hid (jJ W1 b off ts):=(HS.out.below WP.out hb).below XE.out (Vq hb WP.out.size);have YG:=aC (HXW.out.below XE.out);have HB1:Hid (ag w W1):=WP.out.trans (XE.out.mono WP.out.size);have hWs:w.heap.size<w'.heap.size:=HXW.out.2.2.2.2.2.2;have hb1:b<W1.heap.size:=Vq hb HB1.out.size;have hkc:k<=cap:=by omega
  have hz1:w'.heap.size<=W1.heap.size:=XE.out.size;clear WP HXW XE;go_wp2_with(at_builtin;rw[<-hW1];clear hW1;refine wpList_append_own_at _ rfl _ _ 25 rfl w'.heap.size 29 iT (.agg #[.string ⟨#[]⟩,.string ⟨#[]⟩,.string ⟨#[]⟩,.string ⟨#[]⟩,.string ⟨#[]⟩,.string ⟨#[]⟩]) 6 96 underlying25 HIT.out.1 HIT.out.2.1 HIT.out.2.2.1 HIT.out.2.2.2 rfl (by decide) _ 0 [] rfl Xx.out ⟨b,off,none⟩ k cap (aZ (ts.take k)) rfl (by rw[jk,Wi];congr 1;omega) (uA (Dx HR1.out k)) (rZ _) (by unfold maxLen;omega) (by omega) hz1 ?_);intro v2 w2 hown2 Xk _ _;have WL:Hid (w2.ownsRow w'.heap.size 29 6 v2 k (aZ (ts.take k))):=by
   show World.ownsRow _ _ _ _ _ _ _
   first|exact hown2|(rw[VQ,Ww]at hown2;exact hown2)
  have hne:some w.heap.size≠Value.ownBlock (.slice (some ⟨w'.heap.size,0,none⟩) 0 0):=fun e=>by simp[Value.ownBlock]at e;omega
  have hnb:some b≠Value.ownBlock (.slice (some ⟨w'.heap.size,0,none⟩) 0 0):=fun e=>by simp[Value.ownBlock]at e;omega
  have YK:Hid (uH w2 w.heap.size t):=YG.out.grown Xk hne;have HR2:Hid (jJ w2 b off ts):=pE HR1.out Xk hb1 hnb;have HB2:Hid (ag w w2):=HB1.out.grown Xk HB1.out.size (fun g hg=>by simp[Value.ownBlock]at hg;omega);have hz2:w'.heap.size<=w2.heap.size:=Vz hz1 Xk.size;clear hown2 Xk Xx YG HR1 HB1 hne hnb;obtain⟨x0,x1,x2,x3,x4,x5,xl2⟩:=YK.out;obtain⟨W3,hW3⟩:∃W3,W3=w2.alloc (.cells #[.string t.a,.string t.b,.string t.r,.string t.c,.string t.d,.string t.s] 29):=⟨_,rfl⟩;have Xc:Hid (W3.ownsRow w'.heap.size 29 6 v2 k (aZ (ts.take k))):=by show World.ownsRow _ _ _ _ _ _ _;rw[hW3];exact WL.out.alloc _
  have Yw:Hid (∀j u,t.row[j]?=some u->W3.cell? ((⟨w2.heap.size,0,none⟩:Addr).add j)=some u):=by show ∀j u,_;rw[hW3];exact wZ w2 t
  have Yh:=sH hW3;have HB3:Hid (ag w W3):=HB2.out.trans (Yh.out.mono HB2.out.size);have HR3:Hid (jJ W3 b off ts):=HR2.out.below Yh.out (Vq hb HB2.out.size);have hz3:w'.heap.size<=W3.heap.size:=Vz hz2 Yh.out.size;have hb3:b<W3.heap.size:=Vq hb HB3.out.size;clear Yh HB2 HR2 YK hb1 hz1 hz2;go_wp2_with(at_builtin;rw[<-hW3];clear hW3;refine wpList_append_own_at _ rfl _ _ 25 rfl w'.heap.size 29 iT (.agg #[.string ⟨#[]⟩,.string ⟨#[]⟩,.string ⟨#[]⟩,.string ⟨#[]⟩,.string ⟨#[]⟩,.string ⟨#[]⟩]) 6 96 underlying25 HIT.out.1 HIT.out.2.1 HIT.out.2.2.1 HIT.out.2.2.2 rfl (by decide) v2 k (aZ (ts.take k)) rfl Xc.out ⟨w2.heap.size,0,none⟩ 1 1 t.row rfl rfl Yw.out (qR _) (by unfold maxLen;omega) (by omega) hz3 ?_);intro v4 w4 Xp X7 _ _;have hnb:some b≠v2.ownBlock:=fun e=>by have:=(WL.out.lt b e.symm).1;omega
  have HR4:Hid (jJ w4 b off ts):=pE HR3.out X7 hb3 hnb;have Xt:Hid (ag w w4):=HB3.out.grown X7 HB3.out.size (fun g hg=>by have:=(WL.out.lt g hg).1;omega);have WZ:=aC Xp;have hz4:w'.heap.size<=w4.heap.size:=Vz hz3 X7.size;clear Xp X7 Xc WL Yw HB3 HR3 hb3 hz3 hnb x0 x1 x2 x3 x4 x5 xl2;have hdl:(ts.drop k).length=ts.length-k:=WB;clear hdl;go_wp2_with(at_builtin;refine wpList_append_own_at _ rfl _ _ 25 rfl w'.heap.size 29 iT (.agg #[.string ⟨#[]⟩,.string ⟨#[]⟩,.string ⟨#[]⟩,.string ⟨#[]⟩,.string ⟨#[]⟩,.string ⟨#[]⟩]) 6 96 underlying25 HIT.out.1 HIT.out.2.1 HIT.out.2.2.1 HIT.out.2.2.2 rfl (by decide) v4 (k+1) (aZ (ts.take k)++t.row) rfl WZ.out ⟨b,off+k*6,none⟩ (ts.length-k) (cap-k) (aZ (ts.drop k)) rfl (by rw[jk,WB]) (uA (M0 HR4.out k)) (rZ _) (by unfold maxLen;omega) (by omega) hz4 ?_);intro v5 w5 hown5 hgr5 _ _;have XD:Hid (ag w w5):=Xt.out.grown hgr5 Xt.out.size (fun g hg=>by have:=(WZ.out.lt g hg).1;omega);have hlp:(gJ ts t).length=k+1+(ts.length-k):=by rw[HP.out];simp;omega
  have hown6:w5.ownsRow w'.heap.size 29 6 v5 (gJ ts t).length (aZ (gJ ts t)):=by
   rw[hlp,HP.out,show ts.take k++t::ts.drop k=(ts.take k++[t])++ts.drop k by simp,vO,uu];first|exact hown5|(rw[VU];exact hown5)
  have XL:=di (dY hown6 (WH hWs));clear hown5 hown6 hgr5 hlp;go_wp2;go_ret;exact⟨v5,rfl,XL.out,XD.out⟩
 have hd:decide ((k:Int)<(ts.length:Int))=false:=by simp;omega
 go_wp2_with fail;go_quiet (fail);have HP:=di (LA ts t k hk HU.out (fun h=>absurd h hlt));obtain⟨W9,hW9⟩:∃W9,wr.drewN nq=W9:=⟨_,rfl⟩;have WP:Hid (ag w W9):=by show Below _ _ _;rw[<-hW9];exact⟨HB.out.os,HB.out.tape,HB.out.output,HB.out.size,HB.out.block⟩
 have HXW:Hid (uH W9 w.heap.size t):=by show uH _ _ _;rw[<-hW9];exact HX.out
 rw[hW9];clear hW9 HU HB HX hd;obtain⟨W1,hW1⟩:∃W1,W1=W9.alloc (.cells #[] 29):=⟨_,rfl⟩;have Xx:Hid (W1.ownsRow W9.heap.size 29 6 (.slice (some ⟨W9.heap.size,0,none⟩) 0 0) 0 []):=by
  show World.ownsRow _ _ _ _ _ _ _;rw[hW1];exact World.ownsRow_lit W9 #[] 0 (Vr _) (by unfold maxLen;omega) (by simp)
 have XE:=sH hW1;have HR1:Hid (jJ W1 b off ts):=(HS.out.below WP.out hb).below XE.out (Vq hb WP.out.size);have YG:=aC (HXW.out.below XE.out);have HB1:Hid (ag w W1):=WP.out.trans (XE.out.mono WP.out.size);have hWs:w.heap.size<W9.heap.size:=HXW.out.2.2.2.2.2.2;have hb1:b<W1.heap.size:=Vq hb HB1.out.size;have hkc:k<=cap:=by omega
 have hz1:W9.heap.size<=W1.heap.size:=XE.out.size;clear WP HXW XE;go_wp2_with(at_builtin;rw[<-hW1];clear hW1;refine wpList_append_own_at _ rfl _ _ 25 rfl W9.heap.size 29 iT (.agg #[.string ⟨#[]⟩,.string ⟨#[]⟩,.string ⟨#[]⟩,.string ⟨#[]⟩,.string ⟨#[]⟩,.string ⟨#[]⟩]) 6 96 underlying25 HIT.out.1 HIT.out.2.1 HIT.out.2.2.1 HIT.out.2.2.2 rfl (by decide) _ 0 [] rfl Xx.out ⟨b,off,none⟩ k cap (aZ (ts.take k)) rfl (by rw[jk,Wi];congr 1;omega) (uA (Dx HR1.out k)) (rZ _) (by unfold maxLen;omega) (by omega) hz1 ?_);intro v2 w2 hown2 Xk _ _;have WL:Hid (w2.ownsRow W9.heap.size 29 6 v2 k (aZ (ts.take k))):=by
  show World.ownsRow _ _ _ _ _ _ _
  first|exact hown2|(rw[VQ,Ww]at hown2;exact hown2)
 have hne:some w.heap.size≠Value.ownBlock (.slice (some ⟨W9.heap.size,0,none⟩) 0 0):=fun e=>by simp[Value.ownBlock]at e;omega
 have hnb:some b≠Value.ownBlock (.slice (some ⟨W9.heap.size,0,none⟩) 0 0):=fun e=>by simp[Value.ownBlock]at e;omega
 have YK:Hid (uH w2 w.heap.size t):=YG.out.grown Xk hne;have HR2:Hid (jJ w2 b off ts):=pE HR1.out Xk hb1 hnb;have HB2:Hid (ag w w2):=HB1.out.grown Xk HB1.out.size (fun g hg=>by simp[Value.ownBlock]at hg;omega);have hz2:W9.heap.size<=w2.heap.size:=Vz hz1 Xk.size;clear hown2 Xk Xx YG HR1 HB1 hne hnb;obtain⟨x0,x1,x2,x3,x4,x5,xl2⟩:=YK.out;obtain⟨W3,hW3⟩:∃W3,W3=w2.alloc (.cells #[.string t.a,.string t.b,.string t.r,.string t.c,.string t.d,.string t.s] 29):=⟨_,rfl⟩;have Xc:Hid (W3.ownsRow W9.heap.size 29 6 v2 k (aZ (ts.take k))):=by show World.ownsRow _ _ _ _ _ _ _;rw[hW3];exact WL.out.alloc _
 have Yw:Hid (∀j u,t.row[j]?=some u->W3.cell? ((⟨w2.heap.size,0,none⟩:Addr).add j)=some u):=by show ∀j u,_;rw[hW3];exact wZ w2 t
 have Yh:=sH hW3;have HB3:Hid (ag w W3):=HB2.out.trans (Yh.out.mono HB2.out.size);have HR3:Hid (jJ W3 b off ts):=HR2.out.below Yh.out (Vq hb HB2.out.size);have hz3:W9.heap.size<=W3.heap.size:=Vz hz2 Yh.out.size;have hb3:b<W3.heap.size:=Vq hb HB3.out.size;clear Yh HB2 HR2 YK hb1 hz1 hz2;go_wp2_with(at_builtin;rw[<-hW3];clear hW3;refine wpList_append_own_at _ rfl _ _ 25 rfl W9.heap.size 29 iT (.agg #[.string ⟨#[]⟩,.string ⟨#[]⟩,.string ⟨#[]⟩,.string ⟨#[]⟩,.string ⟨#[]⟩,.string ⟨#[]⟩]) 6 96 underlying25 HIT.out.1 HIT.out.2.1 HIT.out.2.2.1 HIT.out.2.2.2 rfl (by decide) v2 k (aZ (ts.take k)) rfl Xc.out ⟨w2.heap.size,0,none⟩ 1 1 t.row rfl rfl Yw.out (qR _) (by unfold maxLen;omega) (by omega) hz3 ?_);intro v4 w4 Xp X7 _ _;have hnb:some b≠v2.ownBlock:=fun e=>by have:=(WL.out.lt b e.symm).1;omega
 have HR4:Hid (jJ w4 b off ts):=pE HR3.out X7 hb3 hnb;have Xt:Hid (ag w w4):=HB3.out.grown X7 HB3.out.size (fun g hg=>by have:=(WL.out.lt g hg).1;omega);have WZ:=aC Xp;have hz4:W9.heap.size<=w4.heap.size:=Vz hz3 X7.size;clear Xp X7 Xc WL Yw HB3 HR3 hb3 hz3 hnb x0 x1 x2 x3 x4 x5 xl2;have hdl:(ts.drop k).length=ts.length-k:=WB;clear hdl;by_cases hce:cap=k
 all_goals
  go_wp2_with(at_builtin;refine wpList_append_own_at _ rfl _ _ 25 rfl W9.heap.size 29 iT (.agg #[.string ⟨#[]⟩,.string ⟨#[]⟩,.string ⟨#[]⟩,.string ⟨#[]⟩,.string ⟨#[]⟩,.string ⟨#[]⟩]) 6 96 underlying25 HIT.out.1 HIT.out.2.1 HIT.out.2.2.1 HIT.out.2.2.2 rfl (by decide) v4 (k+1) (aZ (ts.take k)++t.row) rfl WZ.out _ (ts.length-k) _ (aZ (ts.drop k)) rfl (by rw[jk,WB]) (M4 (by omega) _ _) (rZ _) (by unfold maxLen;omega) (by omega) hz4 ?_);intro v5 w5 hown5 hgr5 _ _;have XD:Hid (ag w w5):=Xt.out.grown hgr5 Xt.out.size (fun g hg=>by have:=(WZ.out.lt g hg).1;omega);have hlp:(gJ ts t).length=k+1+(ts.length-k):=by rw[HP.out];simp;omega
  have hown6:w5.ownsRow W9.heap.size 29 6 v5 (gJ ts t).length (aZ (gJ ts t)):=by
   rw[hlp,HP.out,show ts.take k++t::ts.drop k=(ts.take k++[t])++ts.drop k by simp,vO,uu];first|exact hown5|(rw[VU];exact hown5)
  have XL:=di (dY hown6 (WH hWs));clear hown5 hown6 hgr5 hlp;go_wp2;go_ret;exact⟨v5,rfl,XL.out,XD.out⟩
def iH(ts:Q05)(t:Tp):Bool:=dH ts&&t.ok && !qP ts t && !(ts.length==40)
def kM(ts:Q05)(t:Tp):List Tp:=if iH ts t then gJ ts t else []
theorem rC{ts:Q05}{t:Tp}(h:iH ts t=true):kM ts t=gJ ts t:=by simp[kM,h]
theorem j6{ts:Q05}{t:Tp}(h:iH ts t=false):kM ts t=[]:=by simp[kM,h]
def Uu(w w':World)(e:Ending)(L:Q05)(f:Bool):Prop:=∃v:Value,e=.returned (.tuple #[v,.bool f])/\w'.ownsRow w.heap.size 29 6 v L.length (aZ L)/\ag w w'
theorem tC(b off cap:Nat)(ts:Q05)(t:Tp)(w:ae)(hlen:ts.length<=1048576)(hcap:ts.length<=cap)(hs:jJ w b off ts)(hb:b<w.heap.size)(hf:∀x∈ts,x.fits)(ht:t.fits):
  Calls prog 183 #[.slice (some ⟨b,off,none⟩) ts.length cap,.agg #[.string t.a,.string t.b,.string t.r,.string t.c,.string t.d,.string t.s]] w fun e w'=>Uu w w' e (kM ts t) (iH ts t):=by
 have HF:=di hf;have WR:=di ht;obtain⟨W0,hW0⟩:∃W0,W0=w.alloc (.cells #[.string t.a,.string t.b,.string t.r,.string t.c,.string t.d,.string t.s] 29):=⟨_,rfl⟩;have HB0:=sH hW0;have HX0:Hid (uH W0 w.heap.size t):=by show uH _ _ _;rw[hW0];exact yY w t _
 have HS:=di hs;have SL:Hid (∀W:World,ag w W->Sl W (some ⟨b,off,none⟩) ts):=fun W hB=>.inr ⟨b,off,rfl,Vq hb hB.size,HS.out.below hB hb⟩;have Xa:ts.length<=maxLen:=by unfold maxLen;omega
 have HT:=di (oo (some ⟨b,off,none⟩) cap ts W0 Xa (SL.out _ HB0.out) hf);clear hs hf Xa ht;go_enter func183,ntmps183;go_wp2_with fail;rw[<-hW0];clear hW0;refine HT.out.mono ?_;rintro e w1 ⟨he,hb1⟩;have HB1:=iJ HB0 hb1;have YG:=aC (HX0.out.below hb1);clear HT HX0 HB0 hb1;cases h1:dH ts;case false=>
  rw[h1]at he;subst he;have HR:Hid (iH ts t=false):=by show _=_;simp[iH,h1]
  have HL:Hid (kM ts t=[]):=j6 HR.out;clear h1;go_wp2
  go_ret2
  exact⟨.slice none 0 0,by rw[HR.out];rfl,by rw[HL.out];exact World.ownsRow_nil _ _ _ _,HB1.out⟩
 rw[h1]at he;subst he;obtain⟨x0,x1,x2,x3,x4,x5,xl⟩:=YG.out;have H1:=di h1;obtain⟨e0,e1,e2,e3,e4,e5⟩:=WR.out;have HH:=di (d9 t.a t.b t.r t.c t.d t.s w1 e0 e1 e2 e3 e4 e5);clear h1 e0 e1 e2 e3 e4 e5;go_wp2_with fail;refine HH.out.mono ?_;rintro e w2 ⟨he,hb2⟩;have HB2:=iJ HB1 hb2;have YK:=aC (YG.out.below hb2);clear HH YG HB1 hb2 x0 x1 x2 x3 x4 x5 xl;cases h2:t.ok;case false=>
  have h2':bz t.a t.b t.r t.c t.d t.s=false:=h2;rw[h2']at he;subst he;have HR:Hid (iH ts t=false):=by show _=_;simp[iH,H1.out,h2]
  have HL:Hid (kM ts t=[]):=j6 HR.out;clear h2 h2';go_wp2
  go_ret2
  exact⟨.slice none 0 0,by rw[HR.out];rfl,by rw[HL.out];exact World.ownsRow_nil _ _ _ _,HB2.out⟩
 have h2':bz t.a t.b t.r t.c t.d t.s=true:=h2;rw[h2']at he;subst he;have H2:=di h2;obtain⟨x0,x1,x2,x3,x4,x5,xl⟩:=YK.out;have HH:=di (Ns (some ⟨b,off,none⟩) cap ts t w2 hlen (SL.out _ HB2.out));clear h2 h2';go_wp2_with fail;refine HH.out.mono ?_;rintro e w3 ⟨he,hb3⟩;have HB3:=iJ HB2 hb3;have HX3:=aC (YK.out.below hb3);clear HH YK HB2 hb3 x0 x1 x2 x3 x4 x5 xl;cases h3:qP ts t;case true=>
  rw[h3]at he;subst he;have HR:Hid (iH ts t=false):=by show _=_;simp[iH,H1.out,H2.out,h3]
  have HL:Hid (kM ts t=[]):=j6 HR.out;clear h3;go_wp2
  go_ret2
  exact⟨.slice none 0 0,by rw[HR.out];rfl,by rw[HL.out];exact World.ownsRow_nil _ _ _ _,HB3.out⟩
 rw[h3]at he;subst he;have H3:=di h3;clear h3;by_cases h4:ts.length=40
 ·have HR:Hid (iH ts t=false):=by show _=_;simp[iH,H1.out,H2.out,H3.out,h4]
  have HL:Hid (kM ts t=[]):=j6 HR.out;have h5:((ts.length:Int)==40)=true:=by simp;omega
  have H4:=di h4;clear h4;go_wp2
  go_ret2
  exact⟨.slice none 0 0,by rw[HR.out];rfl,by rw[HL.out];exact World.ownsRow_nil _ _ _ _,HB3.out⟩
 have HR:Hid (iH ts t=true):=by show _=_;simp[iH,H1.out,H2.out,H3.out,h4]
 have HL:Hid (kM ts t=gJ ts t):=rC HR.out;have h5:((ts.length:Int)==40)=false:=by simp;omega
 have h40:=Dv H1.out;obtain⟨x0,x1,x2,x3,x4,x5,xl⟩:=HX3.out;have HP:=di (Oa b off cap ts t w3 (by omega) hcap (HS.out.below HB3.out hb) (Vq hb HB3.out.size) HF.out WR.out);clear HX3;go_wp2_with fail;refine HP.out.mono ?_;rintro e w4 ⟨v4,rfl,hs4,hb4⟩;have HS4:=di hs4;clear hs4 HP x0 x1 x2 x3 x4 x5 xl;go_wp2
 go_ret2
 exact⟨v4,by rw[HR.out];rfl,by rw[HL.out];exact dY HS4.out HB3.out.size,HB3.out.trans (hb4.mono HB3.out.size)⟩
def Tp.short(t:Tp):Prop:=t.a.size<=20/\t.b.size<=20/\t.r.size<=20/\t.c.size<=20/\t.d.size<=20/\t.s.size<=20
theorem Tp.short.fits{t:Tp}(h:t.short):t.fits:=by unfold Tp.short at h;unfold Tp.fits maxLen;omega
def p8(ts:Q05):Prop:=∀t∈ts,t.short
theorem p8.fits{ts:Q05}(h:p8 ts):∀t∈ts,t.fits:=fun t ht=>(h t ht).fits
theorem Oc:p8 []:=fun t ht=>by cases ht
theorem sG(ts:Q05)(t:Tp):(gJ ts t).length=ts.length+1:=by
 induction ts with
 | nil=>rfl
 | cons x xs ih =>
  unfold gJ;split
  ·simp[ih]
  simp
theorem p8.put{ts:Q05}{t:Tp}(h:p8 ts)(ht:t.short):p8 (gJ ts t):=fun x hx=>by
 rcases (mq ts t x).1 hx with rfl|k
 ·exact ht
 exact h x k
theorem oM{w w':ae}{R base n:Nat}{v:Value}{xs:Q03}(h:w.ownsRow base 29 6 v n xs)(hR:R<base)(hO:Only R w w'):w'.ownsRow base 29 6 v n xs :=
 h.kept hO (.inr fun e=>by have:=(h.lt R e).1;omega)
theorem nz{w:ae}{base g n c:Nat}{ts:Q05}(h:w.ownsRow base 29 6 (.slice (some ⟨g,0,none⟩) n c) n (aZ ts))(hn:n=ts.length):jJ w g 0 ts/\g<w.heap.size/\n<=c/\base<=g:=by
 have hlt:=h.lt g rfl;refine⟨?_,hlt.2,?_,hlt.1⟩
 ·subst hn;intro i hi;have key:∀j,j<6->w.cell? ⟨g,0+i*6+j,none⟩=(ts[i]).row[j]?:=fun j hj=>by
   rw[h.cellAt (0+i*6+j) (by have:=jk ts;omega),<-qQ ts i hi j hj,VQ]
  exact⟨key 0 (by omega),key 1 (by omega),key 2 (by omega),key 3 (by omega),key 4 (by omega),key 5 (by omega)⟩
 rcases h.2 with⟨e,-⟩|⟨g',cap',cur,e,-,-,hle,-⟩
 ·cases e
 injection e with e1 e2 e3;omega
theorem tF{W:ae}{base:Nat}{e:TypeId}{size:Nat}{v:Value}{k:Nat}{xs:Q03}(h:W.ownsRow base e size v (k+1) xs):∃g cap,v=.slice (some ⟨g,0,none⟩) (k+1) cap:=by
 rcases h.2 with⟨_,h0⟩|⟨g,cap,_,rfl,_⟩
 ·omega
 exact⟨g,cap,rfl⟩
theorem Rd.grown{w w':ae}{R:Nat}{ad:Q02}{len cap:Nat}{row:Option Nat}(h:Rd w R ad len cap)(hg:w.grownBy w' row)(hR:some R≠row)(hb:0<len->∀b off,ad=some ⟨b,off,none⟩->some b≠row):Rd w' R ad len cap where
 lt:=Vq h.lt hg.size
 code:=hg.cell h.code hR
 place:=by obtain⟨p,hp,hl⟩:=h.place;exact⟨p,hg.cell hp hR,hl⟩
 free:=(World.frozen?_of_block (w:=w) (a:=⟨R,1,none⟩) (hg.block R h.lt hR)).trans h.free
 bytes h0:=by
  obtain⟨b,off,e,hne,hbl,hc⟩:=h.bytes h0;refine⟨b,off,e,hne,Vq hbl hg.size,fun i hi=>?_⟩;obtain⟨c,c0,c1,hcc⟩:=hc i hi;exact⟨c,c0,c1,hg.cell hcc (hb h0 b off e)⟩
 small:=h.small
theorem Od(R:Nat)(w:ae)(n:Int)(h:n<=1):
  Calls prog 90 #[.pointer (some ⟨R,0,none⟩),.int .i64 n] w fun e w'=>e=.returned (.int .i64 0)/\w'=w:=by
 go_enter func90,ntmps90;go_wp2;go_ret;exact⟨rfl,rfl⟩
theorem Oe(R:Nat)(ad:Q02)(len cap:Nat)(n:Nat)(w:ae)(h:Rd w R ad len cap)(h1:1<=n)(h2:n<=256):
  Calls prog 90 #[.pointer (some ⟨R,0,none⟩),.int .i64 (n:Int)] w fun e w'=>(∃x:Nat,e=.returned (.int .i64 (x:Int))/\x<n)/\Rd w' R ad len cap/\Only R w w':=by
 by_cases hn:n=1
 ·subst hn;exact(Od R w 1 (by omega)).mono fun e w' ⟨he,hw⟩=>⟨⟨0,by rw[he];rfl,by omega⟩,by rw[hw];exact h,by rw[hw];exact Only.refl _ _⟩
 exact(dD R ad len cap n w h (by omega) (by omega)).mono fun e w' ⟨⟨x,he,h0,h3⟩,hR,hO⟩=>⟨⟨x.toNat,by rw[he,Int.toNat_of_nonneg h0],by omega⟩,hR,hO⟩
def qg(w:World)(R n:Nat)(k:Int)(a b r c d s:ByteArray):Prop:=n≠R/\n<w.heap.size/\(∀o,w.frozen? ⟨n,o,none⟩=false)/\w.cell? ⟨n,0,none⟩=some (.int .i64 k)/\w.cell? ⟨n,1,none⟩=some (.string a)/\w.cell? ⟨n,2,none⟩=some (.string b)/\w.cell? ⟨n,3,none⟩=some (.string r)/\w.cell? ⟨n,4,none⟩=some (.string c)/\w.cell? ⟨n,5,none⟩=some (.string d)/\w.cell? ⟨n,6,none⟩=some (.string s)
theorem qg.only{w w':ae}{R n:Nat}{k:Int}{a b r c d s:ByteArray}(h:qg w R n k a b r c d s)(hO:Only R w w'):qg w' R n k a b r c d s:=by
 obtain⟨h1,h2,h3,c0,c1,c2,c3,c4,c5,c6⟩:=h;have hc:=fun o=>hO.cell (b:=n) (o:=o) h2 h1;exact⟨h1,Vq h2 hO.size,fun o=>(hO.frozen (o:=o) h2 h1).trans (h3 o),(hc 0).trans c0,(hc 1).trans c1,(hc 2).trans c2,(hc 3).trans c3,(hc 4).trans c4,(hc 5).trans c5,(hc 6).trans c6⟩
theorem qg.alloc{w:ae}{R n:Nat}{k:Int}{a b r c d s:ByteArray}(h:qg w R n k a b r c d s)(o:Obj):qg (w.alloc o) R n k a b r c d s:=h.only ((Only.refl R w).alloc o)
theorem LU{w:ae}{R:Nat}(hR:R<w.heap.size)(t:TypeId)(k:Int)(a b r c d s:bQ):qg (w.alloc (.cells #[.int .i64 k,.string a,.string b,.string r,.string c,.string d,.string s] t)) R w.heap.size k a b r c d s:=by
 refine⟨by omega,by simp,fun o=>by simp,?_,?_,?_,?_,?_,?_,?_⟩<;>simp
theorem Uv{w:ae}{n m i j:Nat}{v:Value}(h:n≠m\/i≠j):(w.setCell ⟨n,i,none⟩ v).cell? ⟨m,j,none⟩=w.cell? ⟨m,j,none⟩:=by
 apply World.cell?_setCell_other;intro e;have kc:=congrArg Addr.block e;have e2:=congrArg Addr.off e;rcases h with h|h
 ·exact h kc
 exact h e2
theorem SE{w:ae}{a:Addr}{v u:Value}(h:w.cell? a=some u):(w.setCell a v).cell? a=some v:=World.cell?_setCell_same _ _ _ h
theorem qg.set{w:ae}{R n:Nat}{k k':Int}{a b r c d s a' b' r' c' d' s':ByteArray}(h:qg w R n k a b r c d s):qg (((((((w.setCell ⟨n,0,none⟩ (.int .i64 k')).setCell ⟨n,1,none⟩ (.string a')).setCell ⟨n,2,none⟩ (.string b')).setCell ⟨n,3,none⟩ (.string r')).setCell ⟨n,4,none⟩ (.string c')).setCell ⟨n,5,none⟩ (.string d')).setCell ⟨n,6,none⟩ (.string s')) R n k' a' b' r' c' d' s':=by
 obtain⟨h1,h2,h3,c0,c1,c2,c3,c4,c5,c6⟩:=h;refine⟨h1,by simpa using h2,fun o=>by simpa using h3 o,?_,?_,?_,?_,?_,?_,?_⟩
 all_goals(repeat rw[Uv (.inr (by omega))])
 all_goals exact SE (u:=_) (by (repeat rw[Uv (.inr (by omega))]);assumption)
theorem qg.setOther{w:ae}{R n m:Nat}{k k':Int}{a b r c d s a' b' r' c' d' s':ByteArray}(h:qg w R m k a b r c d s)(hn:n≠m):qg (((((((w.setCell ⟨n,0,none⟩ (.int .i64 k')).setCell ⟨n,1,none⟩ (.string a')).setCell ⟨n,2,none⟩ (.string b')).setCell ⟨n,3,none⟩ (.string r')).setCell ⟨n,4,none⟩ (.string c')).setCell ⟨n,5,none⟩ (.string d')).setCell ⟨n,6,none⟩ (.string s')) R m k a b r c d s:=by
 obtain⟨h1,h2,h3,c0,c1,c2,c3,c4,c5,c6⟩:=h;refine⟨h1,by simpa using h2,fun o=>by simpa using h3 o,?_,?_,?_,?_,?_,?_,?_⟩
 all_goals((repeat rw[Uv (.inl hn)]);assumption)
theorem xH{w a0:ae}{R n:Nat}{k':Int}{a' b' r' c' d' s':ByteArray}(h:Only R a0 w)(hn:a0.heap.size<=n):Only R a0 (((((((w.setCell ⟨n,0,none⟩ (.int .i64 k')).setCell ⟨n,1,none⟩ (.string a')).setCell ⟨n,2,none⟩ (.string b')).setCell ⟨n,3,none⟩ (.string r')).setCell ⟨n,4,none⟩ (.string c')).setCell ⟨n,5,none⟩ (.string d')).setCell ⟨n,6,none⟩ (.string s')) :=
 ((((((h.setNew hn).setNew hn).setNew hn).setNew hn).setNew hn).setNew hn).setNew hn
theorem FI{w:ae}{R n:Nat}{ad:Q02}{len cap:Nat}{k':Int}{a' b' r' c' d' s':ByteArray}(h:Rd w R ad len cap)(hn:n≠R)(hb:0<len->∀b off,ad=some ⟨b,off,none⟩->b≠n):Rd (((((((w.setCell ⟨n,0,none⟩ (.int .i64 k')).setCell ⟨n,1,none⟩ (.string a')).setCell ⟨n,2,none⟩ (.string b')).setCell ⟨n,3,none⟩ (.string r')).setCell ⟨n,4,none⟩ (.string c')).setCell ⟨n,5,none⟩ (.string d')).setCell ⟨n,6,none⟩ (.string s')) R ad len cap :=
 ((((((h.setFar hn hb).setFar hn hb).setFar hn hb).setFar hn hb).setFar hn hb).setFar hn hb).setFar hn hb
def U8(R:Nat)(ad:Q02)(len cap:Nat)(w:World)(e:Ending)(w':World):Prop:=(∃(k:Int) (a b r c d s:ByteArray),e=.returned (.agg #[.int .i64 k,.string a,.string b,.string r,.string c,.string d,.string s])/\a.size<=20/\b.size<=20/\r.size<=20/\c.size<=20/\d.size<=20/\s.size<=20)/\Rd w' R ad len cap/\Only R w w'
theorem Ir{R:Nat}{ad:Q02}{len cap:Nat}{w w':ae}{k:Int}{a b r c d s:ByteArray}(ht:a.size<=20/\b.size<=20/\r.size<=20/\c.size<=20/\d.size<=20/\s.size<=20)(hR:Rd w' R ad len cap)(hO:Only R w w'):U8 R ad len cap w (.returned (.agg #[.int .i64 k,.string a,.string b,.string r,.string c,.string d,.string s])) w':=⟨⟨k,a,b,r,c,d,s,rfl,ht⟩,hR,hO⟩
theorem KM(R:Nat)(ad:Q02)(len cap g c0:Nat)(ts:Q05)(w:ae)(h:Rd w R ad len cap)(hlen:ts.length<=20)(hsh:p8 ts)(hrow:jJ w g 0 ts)(hg:g<w.heap.size)(hgR:g≠R):
  Calls prog 133 #[.pointer (some ⟨R,0,none⟩),.slice (some ⟨g,0,none⟩) ts.length c0] w fun e w'=>U8 R ad len cap w e w':=by
 have Zf:=h.lt;have HFAR:Hid (0<len->∀b off,ad=some ⟨b,off,none⟩->b<w.heap.size):=fun h0 b off e=>by
  obtain⟨b',off',e',-,hbl,-⟩:=h.bytes h0;rw[e]at e';injection e' with e';injection e' with e1 e2;omega
 obtain⟨W0,hW0⟩:∃W0,W0=w.alloc (.cells #[.int .i64 0,.string ⟨#[]⟩,.string ⟨#[]⟩,.string ⟨#[]⟩,.string ⟨#[]⟩,.string ⟨#[]⟩,.string ⟨#[]⟩] 31):=⟨_,rfl⟩;have Yc:Hid (qg W0 R w.heap.size 0 ⟨#[]⟩ ⟨#[]⟩ ⟨#[]⟩ ⟨#[]⟩ ⟨#[]⟩ ⟨#[]⟩):=by show qg _ _ _ _ _ _ _ _ _ _;rw[hW0];exact LU Zf _ _ _ _ _ _ _ _
 have XI:Hid (Rd W0 R ad len cap):=by show Rd _ _ _ _ _;rw[hW0];exact h.alloc _
 have Yd:Hid (Only R w W0):=by show Only _ _ _;rw[hW0];exact(Only.refl _ _).alloc _
 have HRow:Hid (∀W,Only R w W->jJ W g 0 ts):=fun W hO i hi=>by
  obtain⟨x0,x1,x2,x3,x4,x5⟩:=hrow i hi;have hc:=fun o=>hO.cell (b:=g) (o:=o) hg hgR;exact⟨(hc _).trans x0,(hc _).trans x1,(hc _).trans x2,(hc _).trans x3,(hc _).trans x4,(hc _).trans x5⟩
 have HSH:=aC hsh;clear h hrow hsh;go_enter func133,ntmps133;go_wp2_with fail;rw[<-hW0];clear hW0;refine(Db R ad len cap _ XI.out).mono ?_;rintro e w1 ⟨⟨a,b,r,c,d,s,rfl,ha,hb,hr,hc,hd,hs⟩,Xf,Xe⟩;have HT:Hid (a.size<=20/\b.size<=20/\r.size<=20/\c.size<=20/\d.size<=20/\s.size<=20):=⟨ha,hb,hr,hc,hd,hs⟩;obtain⟨W1,hW1⟩:∃W1,W1=w1.alloc (.cells #[.int .i64 1,.string a,.string b,.string r,.string c,.string d,.string s] 31):=⟨_,rfl⟩;have HS1:Hid (qg W1 R w.heap.size 0 ⟨#[]⟩ ⟨#[]⟩ ⟨#[]⟩ ⟨#[]⟩ ⟨#[]⟩ ⟨#[]⟩):=by show qg _ _ _ _ _ _ _ _ _ _;rw[hW1];exact(Yc.out.only Xe).alloc _
 have XC:Hid (qg W1 R w1.heap.size 1 a b r c d s):=by show qg _ _ _ _ _ _ _ _ _ _;rw[hW1];exact LU Xf.lt _ _ _ _ _ _ _ _
 have HR1:Hid (Rd W1 R ad len cap):=by show Rd _ _ _ _ _;rw[hW1];exact Xf.alloc _
 have Xb:Hid (Only R w W1):=by show Only _ _ _;rw[hW1];exact(Yd.out.trans Xe).alloc _
 have hBw:w.heap.size<w1.heap.size:=by have:=Yc.out.2.1;have:=Xe.size;omega
 clear ha hb hr hc hd hs Xf Xe XI Yd Yc;by_cases hts:ts.length=0
 case' pos =>
  have hdc:decide ((0:Int)<(ts.length:Int))=false:=by simp[hts]
  have hdc2:decide (0<ts.length)=false:=by simp[hts]
  clear hts;go_wp2_with fail;rw[<-hW1];clear hW1;obtain⟨wj,k1,ka,kb,kr,kc,kd,ks,hwj,HSJ,HCJ,HRJ,HOJ,HTJ⟩:∃(wj:World) (k1:Int) (ka kb kr kc kd ks:ByteArray),wj=W1/\Hid (qg wj R w.heap.size 0 ⟨#[]⟩ ⟨#[]⟩ ⟨#[]⟩ ⟨#[]⟩ ⟨#[]⟩ ⟨#[]⟩)/\Hid (qg wj R w1.heap.size k1 ka kb kr kc kd ks)/\Hid (Rd wj R ad len cap)/\Hid (Only R w wj)/\Hid (ka.size<=20/\kb.size<=20/\kr.size<=20/\kc.size<=20/\kd.size<=20/\ks.size<=20):=⟨_,_,_,_,_,_,_,_,rfl,HS1,XC,HR1,Xb,HT⟩;rw[<-hwj];clear hwj HS1 XC HR1 Xb HT
 case' neg =>
  have hdc:decide ((0:Int)<(ts.length:Int))=true:=by simp;omega
  have hdc2:decide (0<ts.length)=true:=by simp;omega
  go_wp2_with fail;rw[<-hW1];clear hW1;refine(iN R ad len cap 3 _ HR1.out (by omega) (by omega)).mono ?_;rintro e w2 ⟨⟨q1,rfl⟩,hR2,hO2⟩;have HS2:=di (HS1.out.only hO2);have Xg:=di (XC.out.only hO2);have HR2:=di hR2;have WL:Hid (Only R w w2):=Xb.out.trans hO2;clear hR2 hO2 HS1 XC HR1 Xb;cases q1
  case' false =>
   go_wp2_with fail;obtain⟨wj,k1,ka,kb,kr,kc,kd,ks,hwj,HSJ,HCJ,HRJ,HOJ,HTJ⟩:∃(wj:World) (k1:Int) (ka kb kr kc kd ks:ByteArray),wj=w2/\Hid (qg wj R w.heap.size 0 ⟨#[]⟩ ⟨#[]⟩ ⟨#[]⟩ ⟨#[]⟩ ⟨#[]⟩ ⟨#[]⟩)/\Hid (qg wj R w1.heap.size k1 ka kb kr kc kd ks)/\Hid (Rd wj R ad len cap)/\Hid (Only R w wj)/\Hid (ka.size<=20/\kb.size<=20/\kr.size<=20/\kc.size<=20/\kd.size<=20/\ks.size<=20):=⟨_,_,_,_,_,_,_,_,rfl,HS2,Xg,HR2,WL,HT⟩;rw[<-hwj];clear hwj HS2 Xg HR2 WL HT
  case' true =>
   go_wp2_with fail;refine(Oe R ad len cap ts.length _ HR2.out (by omega) (by omega)).mono ?_;rintro e w3 ⟨⟨x,rfl,hx⟩,Yi,hO3⟩;have HS3:=di (HS2.out.only hO3);have ZF:=di (Xg.out.only hO3);have HR3:=di Yi;have Xc:Hid (Only R w w3):=WL.out.trans hO3;obtain⟨x0,x1,x2,x3,x4,x5⟩:=HRow.out w3 Xc.out x hx;rw[VQ]at x0 x1 x2 x3 x4 x5;have HTX:Hid (ts[x].a.size<=20/\ts[x].b.size<=20/\ts[x].r.size<=20/\ts[x].c.size<=20/\ts[x].d.size<=20/\ts[x].s.size<=20):=HSH.out _ (Vp hx);have j0:=bC x;have j1:(x:Int)<(ts.length:Int):=by omega
   obtain⟨t1,t2,t3,e0,kc,e2,e3,e4,e5,e6⟩:=ZF.out;obtain⟨W3,hW3⟩:∃W3,W3=(((((((w3.setCell ⟨w1.heap.size,0,none⟩ (.int .i64 2)).setCell ⟨w1.heap.size,1,none⟩ (.string ts[x].a)).setCell ⟨w1.heap.size,2,none⟩ (.string ts[x].b)).setCell ⟨w1.heap.size,3,none⟩ (.string ts[x].r)).setCell ⟨w1.heap.size,4,none⟩ (.string ts[x].c)).setCell ⟨w1.heap.size,5,none⟩ (.string ts[x].d)).setCell ⟨w1.heap.size,6,none⟩ (.string ts[x].s)):=⟨_,rfl⟩;have HSW:Hid (qg W3 R w.heap.size 0 ⟨#[]⟩ ⟨#[]⟩ ⟨#[]⟩ ⟨#[]⟩ ⟨#[]⟩ ⟨#[]⟩):=by show qg _ _ _ _ _ _ _ _ _ _;rw[hW3];exact HS3.out.setOther (by omega)
   have HCW:Hid (qg W3 R w1.heap.size 2 ts[x].a ts[x].b ts[x].r ts[x].c ts[x].d ts[x].s):=by show qg _ _ _ _ _ _ _ _ _ _;rw[hW3];exact ZF.out.set
   have HRW:Hid (Rd W3 R ad len cap):=by show Rd _ _ _ _ _;rw[hW3];exact FI HR3.out t1 (fun h0 b off e eb=>by have:=HFAR.out h0 b off e;omega)
   have HOW:Hid (Only R w W3):=by show Only _ _ _;rw[hW3];exact xH Xc.out (by omega)
   clear Yi hO3 HS2 Xg HR2 WL;go_wp2_with fail;rw[<-hW3];clear hW3;obtain⟨wj,k1,ka,kb,kr,kc,kd,ks,hwj,HSJ,HCJ,HRJ,HOJ,HTJ⟩:∃(wj:World) (k1:Int) (ka kb kr kc kd ks:ByteArray),wj=W3/\Hid (qg wj R w.heap.size 0 ⟨#[]⟩ ⟨#[]⟩ ⟨#[]⟩ ⟨#[]⟩ ⟨#[]⟩ ⟨#[]⟩)/\Hid (qg wj R w1.heap.size k1 ka kb kr kc kd ks)/\Hid (Rd wj R ad len cap)/\Hid (Only R w wj)/\Hid (ka.size<=20/\kb.size<=20/\kr.size<=20/\kc.size<=20/\kd.size<=20/\ks.size<=20):=⟨_,_,_,_,_,_,_,_,rfl,HSW,HCW,HRW,HOW,HTX⟩;rw[<-hwj];clear hwj HSW HCW HRW HOW HTX
 all_goals
  refine(iN R ad len cap 20 _ HRJ.out (by omega) (by omega)).mono ?_;rintro e w5 ⟨⟨q2,rfl⟩,Xn,Xi⟩;have HS5:=di (HSJ.out.only Xi);have HC5:=di (HCJ.out.only Xi);have Xo:=di Xn;have WV:Hid (Only R w w5):=HOJ.out.trans Xi;clear Xn Xi HSJ HCJ HRJ HOJ;cases q2;case false=>
   obtain⟨z1,z2,z3,d0,u1,d2,d3,d4,d5,d6⟩:=HS5.out;obtain⟨t1,t2,t3,x0,x1,x2,x3,x4,x5,x6⟩:=HC5.out;go_wp2;exact bodyPost_ret (v:=.agg #[.int .i64 k1,.string ka,.string kb,.string kr,.string kc,.string kd,.string ks]) (by simp[results,Tryz.results133,go_sem, *]) rfl (Ir HTJ.out (FI Xo.out z1 (fun h0 b off e eb=>by have:=HFAR.out h0 b off e;omega)) (xH WV.out (Vr _)))
  go_wp2_with fail;refine(Ld R ad len cap 1 2 _ Xo.out (by decide) (by decide) (by decide)).mono ?_;rintro e w6 ⟨⟨z,rfl⟩,hR6,Zg⟩;have Ym:=di hR6;have XL:Hid (Only R w w6):=WV.out.trans Zg;obtain⟨z1,z2,z3,d0,u1,d2,d3,d4,d5,d6⟩:=HS5.out.only Zg;obtain⟨t1,t2,t3,x0,x1,x2,x3,x4,x5,x6⟩:=HC5.out.only Zg;clear hR6 Zg HS5 HC5 Xo WV;go_wp2;exact bodyPost_ret (v:=.agg #[.int .i64 z,.string ka,.string kb,.string kr,.string kc,.string kd,.string ks]) (by simp[results,Tryz.results133,go_sem, *]) rfl (Ir HTJ.out (FI (Ym.out.setFar t1 (fun h0 b off e eb=>by have:=HFAR.out h0 b off e;omega)) z1 (fun h0 b off e eb=>by have:=HFAR.out h0 b off e;omega)) (xH (XL.out.setNew (by omega)) (Vr _)))
open Go.Sort
set_option maxRecDepth 100000
theorem Iu(ad:Q02)(cap:Nat)(ts:Q04)(t:Fc)(w:ae)(hlen:ts.length<=1048576)(hs:Au w ad ts):
  Calls prog 16 #[.slice ad ts.length cap,.agg #[.string t.a,.string t.b,.string t.r,.string t.c,.string t.d]] w fun e w'=>e=.returned (.bool (df ts t))/\ag w w':=by
 have HS:=nE hs;clear hs;obtain⟨W0,hW0⟩:∃W0,W0=w.alloc (.cells #[.string t.a,.string t.b,.string t.r,.string t.c,.string t.d] 52):=⟨_,rfl⟩;have HB0:=sH hW0;have HX0:Hid (∀j (hj:j<5),W0.cell? ⟨w.heap.size,j,none⟩=some (t.row[j]'hj)):=fun j hj=>by
  have hc:j=0\/j=1\/j=2\/j=3\/j=4:=by omega
  rw[hW0];rcases hc with rfl|rfl|rfl|rfl|rfl<;>simp[Fc.row]
 go_enter func16,ntmps16;go_wp2;rw[<-hW0];clear hW0;go_loopw[5] (fun i wr=>∃k:Nat,k<=ts.length/\i=.int .i64 k/\Hid (df (ts.drop k) t=df ts t)/\Hid (ag W0 wr)) (fun i _=>ts.length-(intOf i).toNat);case atStart=>exact⟨0,Vv _,rfl,rfl,Vs _ _⟩
 obtain⟨k,hk,rfl,HP,HB⟩:=hrel;have WP:Hid (ag w wr):=HB0.out.trans (HB.out.mono HB0.out.size);by_cases hlt:k<ts.length
 ·rcases HS.out.below WP.out with hnil|⟨b,off,rfl,hb,hr⟩
  ·rw[hnil]at hlt;simp at hlt
  obtain⟨t0,t1,t2,t3,t4⟩:=hr k hlt;have x0:=cell_regrown (cell_later HB.out (HX0.out 0 (by omega)));have x1:=cell_regrown (cell_later HB.out (HX0.out 1 (by omega)));have x2:=cell_regrown (cell_later HB.out (HX0.out 2 (by omega)));have x3:=cell_regrown (cell_later HB.out (HX0.out 3 (by omega)));have x4:=cell_regrown (cell_later HB.out (HX0.out 4 (by omega)));simp only[Fc.row,List.getElem_cons_zero,List.getElem_cons_succ]at x0 x1 x2 x3 x4;replace t0:=cell_regrown t0;replace t1:=cell_regrown t1;replace t2:=cell_regrown t2;replace t3:=cell_regrown t3;replace t4:=cell_regrown t4;have hk1:=bC k;have hk2:(k:Int)<(ts.length:Int):=by omega
  have HD:Hid (df ts t=(xe ts[k] t || df (ts.drop (k+1)) t)):=by show _=_;rw[<-HP.out];exact Dr hlt
  have Xq:Hid (∀d os,ag W0 (grow (redrawn wr d) os)):=fun d os=>HB.out.trans ((below_regrown wr d os).mono HB.out.size);clear hr;obtain⟨q,hq⟩:∃q,xe ts[k] t=q:=⟨_,rfl⟩;have heq:=JI ts[k] t hq;rw[hq]at HD;clear hq;go_wp2_with fail;refine wp_region_quiet_below (by kernel_rfl) (by kernel_rfl) ?_
  repeat(go_big_quiet_step (fail))
  refine wpQuiet_nil ?_;rintro _ ⟨⟨dq,osq⟩,rfl⟩;cases q;case true=>
   go_wp2;go_ret;exact⟨by rw[HD.out];rfl,HB0.out.trans ((Xq.out dq osq).mono HB0.out.size)⟩
  go_wp2;go_roundw;case rel=>exact⟨k+1,by omega,by go_num,HD.out.symm,Xq.out dq osq⟩
  simp[intOf]<;>omega
 have HE:Hid (df ts t=false):=by
  show _=_;rw[<-HP.out,VN (by omega)];rfl
 go_wp2;go_ret;exact⟨by rw[HE.out];rfl,WP.out⟩
theorem Uw(x y:Fc){v:Bool}(h:(!xe x y)=v)(w:ae):
  (binOp .neq 52 (.agg #[.string x.a,.string x.b,.string x.r,.string x.c,.string x.d]) (.agg #[.string y.a,.string y.b,.string y.r,.string y.c,.string y.d])).run prog w=.ok (.bool v) w:=by
 subst h;go_simp;unfold xe
 (repeat' split)<;>simp_all
theorem tH(ad WS:Q02)(cap cap':Nat)(ts:Q04)(w:ae)(hlen:ts.length<=1048576)(hs:Au w ad ts)(hs':Au w WS ts):
  Calls prog 12 #[.slice ad ts.length cap,.slice WS ts.length cap'] w fun e w'=>e=.returned (.bool true)/\ag w w':=by
 have HS:=nE hs;have HS':=nE hs';clear hs hs';have hnn:((ts.length:Int) != (ts.length:Int))=false:=by simp
 go_enter func12,ntmps12;go_wp2;go_loopw[5] (fun i wr=>∃k:Nat,k<=ts.length/\i=.int .i64 k/\Hid (ag w wr)) (fun i _=>ts.length-(intOf i).toNat);case atStart=>exact⟨0,Vv _,rfl,Vs _ _⟩
 obtain⟨k,hk,rfl,HB⟩:=hrel;have hk1:=bC k;by_cases hlt:k<ts.length
 ·have hk2:(k:Int)<(ts.length:Int):=by omega
  rcases HS.out.below HB.out with hnil|⟨b,off,rfl,hb,hr⟩
  ·rw[hnil]at hlt;simp at hlt
  rcases HS'.out.below HB.out with hnil|⟨b',off',rfl,hb',hr'⟩
  ·rw[hnil]at hlt;simp at hlt
  obtain⟨t0,t1,t2,t3,t4⟩:=hr k hlt;obtain⟨u0,u1,u2,u3,u4⟩:=hr' k hlt;have heq:=Uw ts[k] ts[k] (v:=false) (by rw[Aq.2 rfl];rfl);replace t0:=cell_regrown t0;replace t1:=cell_regrown t1;replace t2:=cell_regrown t2;replace t3:=cell_regrown t3;replace t4:=cell_regrown t4;replace u0:=cell_regrown u0;replace u1:=cell_regrown u1;replace u2:=cell_regrown u2;replace u3:=cell_regrown u3;replace u4:=cell_regrown u4;clear hr hr';go_wp2_with fail;refine wp_region_quiet_below (by kernel_rfl) (by kernel_rfl) ?_
  repeat(go_big_quiet_step (fail))
  refine wpQuiet_nil ?_;rintro _ ⟨⟨dq,osq⟩,rfl⟩;have HB2:=nE (HB.out.trans ((below_regrown wr dq osq).mono HB.out.size));clear t0 t1 t2 t3 t4 u0 u1 u2 u3 u4 heq;go_wp2;go_roundw;case rel=>exact⟨k+1,by omega,by go_num,HB2⟩
  simp[intOf]<;>omega
 go_wp2;go_ret;exact⟨rfl,HB.out⟩
def BO(B:Nat)(w:World)(ad:Q02)(L:Q05):Prop:=Sl w ad L/\(L≠[]->∃g,ad=some ⟨g,0,none⟩/\B<=g/\jb w g)
theorem wI{B:Nat}{w:ae}{ad:Q02}{L:Q05}(h:L=[]):BO B w ad L:=⟨.inl h,fun k=>absurd h k⟩
theorem BO.mono{B B':Nat}{w:ae}{ad:Q02}{L:Q05}(h:BO B w ad L)(hB:B'<=B):BO B' w ad L:=⟨h.1,fun k=>by obtain⟨g,e,h1,h2⟩:=h.2 k;exact⟨g,e,Vz hB h1,h2⟩⟩
theorem U9{w:ae}{ad:Q02}{L:Q05}(h:Sl w ad L)(hne:L≠[]){g o:Nat}(e:ad=some ⟨g,o,none⟩):g<w.heap.size:=by
 rcases h with h|⟨b,off,e2,hb,-⟩
 ·exact absurd h hne
 rw[e]at e2;injection e2 with e2;injection e2 with e2 e3;omega
theorem BO.later{B:Nat}{w w':ae}{ad:Q02}{L:Q05}(h:BO B w ad L)(hb:ag w w'):BO B w' ad L:=⟨h.1.below hb,fun hne=>by
 obtain⟨g,e,h1,h2⟩:=h.2 hne;exact⟨g,e,h1,fun j=>mF hb (U9 h.1 hne e) (h2 j)⟩⟩
open Go.Shelf
def Iw(x:sj):List Value:=x.1.row
def Vi(x y:sj):Int:=Ev x.1.a x.1.b x.1.r x.1.c x.1.d x.1.s y.1.a y.1.b y.1.r y.1.c y.1.d y.1.s
theorem KN:ltOf Vi=AO:=by
 funext x y
 unfold ltOf Vi AO Ev Tp.text;rw[oV,Go.ByteArray.toList_eq,Go.ByteArray.toList_eq]
theorem Q6[Inhabited sj](blk off size:Nat)(w:ae):CmpLays prog 139 #[] Iw 6 Vi blk off size w:=fun m os dk _ x y=>by
 obtain⟨f0,f1,f2,f3,f4,f5⟩:=Fq x.2;obtain⟨e0,e1,e2,e3,e4,e5⟩:=Fq y.2;exact(mo x.1.a x.1.b x.1.r x.1.c x.1.d x.1.s y.1.a y.1.b y.1.r y.1.c y.1.d y.1.s _ f0 f1 f2 f3 f4 f5 e0 e1 e2 e3 e4 e5).mono fun e w' ⟨he,hb⟩=>⟨he,hb.grew⟩
theorem Iy[Inhabited sj]{B:Nat}(w:ae)(blk off n:Nat)(d:Array sj)(os:Array Obj)(hB:B<=blk)(hs:B<=w.heap.size):Below B w (sortWorldK Iw 6 w blk off n d os):=by
 refine⟨rfl,rfl,rfl,?_,fun k hk=>?_⟩
 ·simp[sortWorldK,grow,putRowK,Sort.ahead]
 have hlt:k<w.heap.size:=by omega
 simp only[sortWorldK,putRowK];rw[heap_grow_old _ _ (by simpa[Sort.ahead] using hlt)];have hne:blk≠k:=by omega
 simp[putRow,mapBlock,Sort.ahead,Array.getElem?_modify,hne]
theorem KO[Inhabited sj]{w:ae}{blk:Nat}(off n:Nat)(d:Array sj)(os:Array Obj)(hb:blk<w.heap.size)(h:jb w blk):jb (sortWorldK Iw 6 w blk off n d os) blk:=fun j=>by
 simp only[sortWorldK,putRowK];rw[frozen?_grow _ _ _ (by simpa[Sort.ahead] using hb),frozen?_putRow,frozen?_ahead];exact h j
theorem FJ[Inhabited sj]{w:ae}{base g cap:Nat}{xs:List sj}(h:w.ownsRow base 29 6 (.slice (some ⟨g,0,none⟩) xs.length cap) xs.length (aZ (vals xs))):HoldsK Iw 6 w g 0 xs.toArray:=by
 intro t ht;rw[size_flatK]at ht;have ht':t<xs.length*6:=by simpa using ht
 have hi:t / 6<xs.length:=by omega
 have hr:t%6<6:=Nat.mod_lt _ (by omega);refine⟨?_,by rw[VQ];exact h.frozenAt t⟩;rw[VQ,h.cellAt t ht',get_flatK _ _ _ _ ht];have e:t=t / 6*6+t%6:=by omega
 have h1:=qQ (vals xs) (t / 6) (by rw[Bp];exact hi) (t%6) hr;rw[<-e]at h1;rw[h1];have h2:(xs.toArray)[t / 6]! = xs[t / 6]:=by rw[getElem!_pos xs.toArray _ (by simpa using hi)];simp
 have h3:(vals xs)[t / 6]'(by rw[Bp];exact hi)=xs[t / 6].1:=by simp[vals]
 rw[h2,h3];show _=some ((xs[t / 6].1.row)[t%6]!);have hl:t%6<xs[t / 6].1.row.length:=hr;rw[Vy hl,getElem!_pos (xs[t / 6].1.row) (t%6) hl]
theorem FK[Inhabited sj]{w:ae}{g:Nat}{xs:List sj}(h:HoldsK Iw 6 w g 0 xs.toArray):jJ w g 0 (vals xs):=fun i hi=>by
 have hi':i<xs.length:=by rw[Bp]at hi;exact hi
 have h3:(vals xs)[i]=xs[i].1:=by simp[vals]
 rw[h3];have key:∀j,(hj:j<6)->w.cell? ⟨g,0+i*6+j,none⟩=some ((xs[i].1.row)[j]!):=fun j hj=>by
  have:=(h.cell (i:=i) (c:=j) (by simpa using hi') hj).1;rw[show(xs.toArray)[i]! = xs[i] by rw[getElem!_pos xs.toArray _ (by simpa using hi')];simp]at this;exact this
 exact⟨key 0 (by omega),key 1 (by omega),key 2 (by omega),key 3 (by omega),key 4 (by omega),key 5 (by omega)⟩
theorem Iz(Bm b nn:Nat)(M:Tp->Option Value)(L:Q05)(w:ae)(hBm:Bm<w.heap.size)(hm:w.cell? ⟨Bm,0,none⟩=some (.map (some b)))(hV:aJ jy prog 29 w b nn M)(hn:nn<=1000)(hL:Up L)(hok:∀t∈L,t.ok=true)(hML:∀t,(M t).isSome=true↔t∈L)(hll:L.length<=1000):
  Calls prog 150 #[.func (.func 224) #[] #[.pointer (some ⟨Bm,0,none⟩)],.func (.func 139) #[] #[]] w fun e w'=>∃(ad:Q02) (cap:Nat),e=.returned (.slice ad L.length cap)/\BO w.heap.size w' ad L/\ag w w':=by
 have hcol:=Qx Bm b nn M w hBm hm hV hn (fun x hx=>hok x ((hML x).1 hx));have HC:=di hcol;have HML:=di hML;clear hcol hV hm hML;go_enter func150,ntmps150;go_wp2_with fail;refine HC.out.mono ?_;rintro e w1 ⟨v,xs,rfl,hK,hrow,hnil,hb1⟩;have hval:(xs.mergeSort fun x y=>!AO y x).map (·.1)=L:=RY hK.1 (fun x=>(hK.2 x).trans (HML.out x.1)) hL hok;have HB:=di hb1;clear HC HML hK hb1;cases xs with
 | nil =>
  obtain rfl:v=.slice none 0 0:=hnil.2 rfl;have hL0:L=[]:=by rw[<-hval];simp
  subst hL0;have hs:=AnyF.slices_SortFunc_none Tryz.sortT none 0 (.func (.func 139) #[] #[]) w1
  change Calls prog 223 _ _ _ at hs
  have HS:=di hs;clear hs hrow hnil hval;go_wp2_with fail;refine HS.out.mono ?_;rintro e w2 ⟨rfl,rfl⟩;go_wp2;go_ret;exact⟨none,0,rfl,⟨.inl rfl,fun h=>absurd rfl h⟩,HB.out⟩
 | cons x0 YH =>
  letI:Inhabited sj:=⟨x0⟩
  obtain⟨g,cap,rfl⟩:=ownsRow_succ (k:=YH.length) hrow;have hg:=hrow.lt g rfl;have hH:=FJ hrow;have hF:jb w1 g:=fun j=>hrow.frozenAt j;have hlen:(x0::YH).length=L.length:=by rw[<-hval,Wy,List.length_mergeSort]
  have eg:∀args w,(callFunc 139 args).run prog w=.ok (.enter 139 args) w:=enters_of func139 (by kernel_rfl) rfl;have hs:=AnyQ.slices_SortFunc_total Tryz.sortT 6 Tryz.isAgg29 Tryz.sizeOf29 Iw (fun _=>rfl) (fun x=>qR x.1) Vi (by rw[KN];exact yX) 139 #[] g 0 cap (x0::YH).toArray w1 eg (Q6 g 0 _ w1) hH hg.2 (by simp at hlen⊢;omega) (by rw[KN];exact Dw)
  change Calls prog 223 _ _ _ at hs
  rw[KN]at hs;have HS:Hid (Calls prog 223 #[.slice (some ⟨g,0,none⟩) (YH.length+1) cap,.func (.func 139) #[] #[]] w1 fun e w'=>e=.returned (.tuple #[])/\BO w.heap.size w' (some ⟨g,0,none⟩) L/\ag w w'):=hs.mono fun e w' ⟨he,n,os,hw⟩=>by
   have hz:((x0::YH).mergeSort fun x y=>!AO y x).toArray.size=(x0::YH).toArray.size:=by simp
   have hH2:=holdsK_sortWorldK_c Iw 6 w1 g 0 (x0::YH).toArray ((x0::YH).mergeSort fun x y=>!AO y x).toArray n os hH hg.2 hz;have hr:=FK hH2;have hvals:vals ((x0::YH).mergeSort fun x y=>!AO y x)=L:=hval;rw[hvals]at hr;have hbs:=Iy (B:=w.heap.size) w1 g 0 n ((x0::YH).mergeSort fun x y=>!AO y x).toArray os hg.1 HB.out.size;have hgl:g<(sortWorldK Iw 6 w1 g 0 n ((x0::YH).mergeSort fun x y=>!AO y x).toArray os).heap.size:=Vq hg.2 hbs.size;subst hw;exact⟨he,⟨.inr ⟨g,0,rfl,hgl,hr⟩,fun _=>⟨g,rfl,hg.1,KO 0 n _ os hg.2 hF⟩⟩,HB.out.trans hbs⟩
  have hl2:L.length=YH.length+1:=by simpa using hlen.symm
  have HL:=di hl2;clear hs hrow hnil hval hH hF hlen hg hl2;go_wp2_with fail;refine HS.out.mono ?_;rintro e w2 ⟨rfl,hO,hB2⟩;have HO:=di hO;clear hO;go_wp2;go_ret;exact⟨some ⟨g,0,none⟩,cap,by rw[HL.out];rfl,HO.out,hB2⟩
theorem IA(b nn:Nat)(M:Tp->Option Value)(L:Q05)(w:ae)(hV:aJ jy prog 29 w b nn M)(hn:nn<=1000)(hL:Up L)(hok:∀t∈L,t.ok=true)(hML:∀t,(M t).isSome=true↔t∈L)(hll:L.length<=1000):
  Calls prog 66 #[.map (some b)] w fun e w'=>∃(ad:Q02) (cap:Nat),e=.returned (.slice ad L.length cap)/\BO w.heap.size w' ad L/\ag w w':=by
 have hk:Calls prog 151 #[.map (some b)] w fun e w'=>e=.returned (.func (.func 224) #[] #[.pointer (some ⟨w.heap.size,0,none⟩)])/\w'=w.alloc (.cells #[.map (some b)] 105):=(callsIn_wide (n:=3)).1 (Qv Fence.wide 3 trivial rfl (some b) w);have HK:=di hk;have hB1:ag w (w.alloc (.cells #[.map (some b)] 105)):=(Vs _ _).alloc (Vr _) _;have HS:=di (Iz w.heap.size b nn M L (w.alloc (.cells #[.map (some b)] 105)) (by simp) (by simp) (hV.below hB1) hn hL hok hML hll);have HB1:=di hB1;clear hk hV hB1 hML;go_enter func66,ntmps66;go_wp2_with fail;refine HK.out.mono ?_;rintro e w1 ⟨rfl,rfl⟩;go_wp2_with fail;refine HS.out.mono ?_;rintro e w2 ⟨ad,cap,rfl,hO,hB2⟩;have HO:=di hO;clear hO;go_wp2;go_ret;refine⟨ad,cap,rfl,⟨HO.out.1,fun h=>?_⟩,HB1.out.trans (hB2.mono (by simp))⟩;obtain⟨g,e,h1,h2⟩:=HO.out.2 h;exact⟨g,e,by simp at h1;omega,h2⟩
def Ux(w w':World)(e:Ending)(L:Q05)(f:Bool):Prop:=∃(ad:Q02) (cap:Nat),e=.returned (.tuple #[.slice ad L.length cap,.bool f])/\BO w.heap.size w' ad L/\ag w w'
theorem Uy[DecidableEq Tp](ts:Q05)(t:Tp):(dZ (fun _=>none) ts t).isSome=qP ts t:=by
 rw[VL,Br,AL];simp
theorem Og[DecidableEq Tp](ts:Q05):∀(M:Tp->Option Value),(∀x v,M x=some v->v=.agg #[])->∀x v,dZ M ts x=some v->v=.agg #[]:=by
 induction ts with
 | nil=>exact fun M h=>h
 | cons y ys ih =>
  intro M h;refine ih _ fun x v hx=>?_;unfold jO at hx;split at hx
  ·injection hx with hx;exact hx.symm
  exact h x v hx
theorem SF[DecidableEq Tp](ts:Q05)(t:Tp):(dZ (fun _=>none) ts t).getD (.agg #[])=.agg #[]:=by
 cases e:dZ (fun _=>none) ts t with
 | none=>rfl
 | some v=>exact Og ts _ (fun _ _ h=>by cases h) t v e
theorem Q7(ts:Q05)(t:Tp):(gJ ts t).length=ts.length+1:=by
 induction ts with
 | nil=>rfl
 | cons x xs ih =>
  unfold gJ;split
  ·simp[ih]
  simp
set_option maxRecDepth 100000 in
theorem CB(ad:Q02)(cap:Nat)(ts:Q05)(t:Tp)(w:ae)(hlen:ts.length<=1048576)(hs:Sl w ad ts)(hf:∀x∈ts,x.fits)(ht:t.fits):
  Calls prog 15 #[.slice ad ts.length cap,.agg #[.string t.a,.string t.b,.string t.r,.string t.c,.string t.d,.string t.s]] w fun e w'=>Ux w w' e (kM ts t) (iH ts t):=by
 letI:DecidableEq Tp:=fun x y=>decidable_of_iff (EW x y=true) Am
 have HF:=di hf;have WR:=di ht;obtain⟨W0,hW0⟩:∃W0,W0=w.alloc (.cells #[.string t.a,.string t.b,.string t.r,.string t.c,.string t.d,.string t.s] 29):=⟨_,rfl⟩;have HB0:=sH hW0;have HX0:Hid (uH W0 w.heap.size t):=by show uH _ _ _;rw[hW0];exact yY w t _
 have Yc:=aC (hs.below HB0.out);have Xa:ts.length<=maxLen:=by unfold maxLen;omega
 have HT:=di (oq ad cap ts W0 Xa Yc.out hf);clear hs hf Xa ht;go_enter func15,ntmps15;go_wp2_with fail;rw[<-hW0];clear hW0;refine HT.out.mono ?_;rintro e w1 ⟨he,hb1⟩;have HB1:=iJ HB0 hb1;have YG:=aC (HX0.out.below hb1);have HS1:=aC (Yc.out.below hb1);clear HT HX0 Yc HB0 hb1;cases h1:dH ts;case false=>
  rw[h1]at he;subst he;have HR:Hid (iH ts t=false):=by show _=_;simp[iH,h1]
  have HL:Hid (kM ts t=[]):=j6 HR.out;clear h1;go_wp2
  go_ret2
  exact⟨none,0,by rw[HL.out,HR.out];rfl,wI HL.out,HB1.out⟩
 rw[h1]at he;subst he;have H1:=di h1;have h40:=Dv h1;obtain⟨x0,x1,x2,x3,x4,x5,xl⟩:=YG.out;obtain⟨e0,e1,e2,e3,e4,e5⟩:=WR.out;have HH:=di (dI t.a t.b t.r t.c t.d t.s w1 e0 e1 e2 e3 e4 e5);clear h1 e0 e1 e2 e3 e4 e5;go_wp2_with fail;refine HH.out.mono ?_;rintro e w1b ⟨he,hb1b⟩;have HB1b:=iJ HB1 hb1b;have HX1b:=aC (YG.out.below hb1b);have HS1b:=aC (HS1.out.below hb1b);clear HH YG HB1 HS1 hb1b x0 x1 x2 x3 x4 x5 xl;cases hk:t.ok;case false=>
  have hk':bz t.a t.b t.r t.c t.d t.s=false:=hk;rw[hk']at he;subst he;have HR:Hid (iH ts t=false):=by show _=_;simp[iH,H1.out,hk]
  have HL:Hid (kM ts t=[]):=j6 HR.out;clear hk hk';go_wp2
  go_ret2
  exact⟨none,0,by rw[HL.out,HR.out];rfl,wI HL.out,HB1b.out⟩
 have hk':bz t.a t.b t.r t.c t.d t.s=true:=hk;rw[hk']at he;subst he;have H2:=di hk;clear hk hk';by_cases hfull:ts.length=40
 ·have HR:Hid (iH ts t=false):=by show _=_;simp[iH,hfull]
  have HL:Hid (kM ts t=[]):=j6 HR.out;have h5:(40:Int)<=(ts.length:Int):=by omega
  clear hfull;go_wp2
  go_ret2
  exact⟨none,0,by rw[HL.out,HR.out];rfl,wI HL.out,HB1b.out⟩
 have h5:¬(40:Int)<=(ts.length:Int):=by omega
 have H4:=di hfull;have HSet:=di (Nw ad cap ts w1b h40 HS1b.out HF.out);clear hfull;go_wp2_with fail;refine HSet.out.mono ?_;rintro e w2 ⟨rfl,hV,hb2⟩;have HV:=di hV;have HB2:=iJ HB1b hb2;have YK:=aC (HX1b.out.below hb2);have hw1:w.heap.size<=w1b.heap.size:=HB1b.out.size;obtain⟨kl,hkl⟩:=Bo t WR.out;have Xw:=di hkl;have hsa:=Uy ts t;have hsv:=SF ts t;obtain⟨x0,x1,x2,x3,x4,x5,xl⟩:=YK.out;clear HSet HX1b HS1b HB1b hb2 hV hkl;cases h2:qP ts t;case true=>
  rw[h2]at hsa;have HR:Hid (iH ts t=false):=by show _=_;simp[iH,h2]
  have HL:Hid (kM ts t=[]):=j6 HR.out;clear h2;go_wp2_with(at_lookup;refine bZ _ rfl _ _ 105 rfl 29 107 ru underlying105 (z:=.agg #[]) (Tryz.zeroValue107 _) w1b.heap.size ts.length _ rfl HV.out t kl rfl Xw.out ?_;rw[hsa,hsv])
  go_ret2
  exact⟨none,0,by rw[HL.out,HR.out];rfl,wI HL.out,HB2.out.alloc HB2.out.size _⟩
 rw[h2]at hsa;have HR:Hid (iH ts t=true):=by show _=_;simp[iH,H1.out,H2.out,h2,H4.out]
 have HL:Hid (kM ts t=gJ ts t):=rC HR.out;have HNM:Hid (t ∉ ts):=fun hm=>by rw[AL.2 hm]at h2;cases h2
 clear h2;obtain ⟨W3,hW3⟩:∃ W3,W3=w2.alloc (.cells #[] 107):=⟨_,rfl⟩;have Yh:=sH hW3;have HV3:Hid (aJ jy prog 29 W3 w1b.heap.size ts.length (dZ (fun _=>none) ts)):=HV.out.below Yh.out;have HB3:Hid (ag w W3):=HB2.out.trans (Yh.out.mono HB2.out.size);go_wp2_with (first|(at_lookup;refine bZ _ rfl _ _ 105 rfl 29 107 ru underlying105 (z:=.agg #[]) (Tryz.zeroValue107 _) w1b.heap.size ts.length _ rfl HV.out t kl rfl Xw.out ?_;rw [hsa,hsv])|(at_mapUpdate;rw [<-hW3];clear hW3;refine iK _ rfl _ _ _ 105 rfl 29 107 ru Bj underlying105 w1b.heap.size ts.length _ rfl HV3.out (by unfold maxLen;omega) t kl rfl Xw.out (.agg #[]) rfl ?_));intro w4 hV4 hg4;have hB4:ag w w4:=HB3.out.grown hg4 HB3.out.size (fun g e=>by injection e with e;omega);obtain ⟨hu,hok,-⟩:=Lv H1.out;have hio:=IA w1b.heap.size (ts.length+1) _ (gJ ts t) w4 hV4 (by omega) (Lx hu hok H2.out HNM.out) (fun x hx=>by
  rcases (mq ts t x).1 hx with rfl|h
  ·exact H2.out
  ·exact hok x h) (fun x=>by
  rw[mq];by_cases e:x=t
  ·subst e;simp[dM]
  rw[bG e,Br];simp[e]) (by rw[Q7];omega)
 have Zq:=di hio;have Xt:=di hB4;clear hio hB4 hV4 hg4 hu hok HV HV3 HB3 Yh HB2 YK hsa hsv x0 x1 x2 x3 x4 x5 xl;go_wp2_with fail;refine Zq.out.mono ?_;rintro e w5 ⟨WS,cap',rfl,hO,hb5⟩;have HO:=di hO;clear hO Zq;go_wp2
 go_ret2
 exact⟨WS,cap',by rw[HL.out,HR.out];rfl,by rw[HL.out];exact HO.out.mono Xt.out.size,Xt.out.trans (hb5.mono Xt.out.size)⟩
set_option linter.unusedVariables false
theorem BP{es:Q09}:∀(ks:List Int) (a b j:Nat),qG es ks a b->a<=j->j<b->∃k∈ks,ay es k.toNat<=(j:Int)/\j<=k.toNat/\(a:Int)<=ay es k.toNat
 | [],a,b,j,h,h1,h2=>by
  have:a=b:=h;omega
 | x::ks,a,b,j,h,h1,h2=>by
  obtain⟨h3,h4,h5⟩:=h;by_cases hj:j<=x.toNat
  ·exact⟨x,by simp,by omega,hj,by omega⟩
  obtain⟨k,hk,e1,e2,e3⟩:=BP ks _ b j h5 (by omega) h2;have:=il es x.toNat;exact⟨k,by simp[hk],e1,e2,by omega⟩
theorem BQ{es:Q09}:∀(ks:List Int) (a b:Nat),qG es ks a b->∀k∈ks,a<=k.toNat
 | [],_,_,_,k,hk=>by cases hk
 | x::ks,a,b,h,k,hk=>by
  obtain⟨h3,h4,h5⟩:=h;have:=il es x.toNat;rcases VH.1 hk with rfl|hk
  ·omega
  have:=BQ ks _ b h5 k hk;omega
theorem rD{es:Q09}:∀(ks:List Int) (a b:Nat),qG es ks a b->∀(p:Nat) (hp:p<ks.length),qG es (ks.drop (p+1)) (ks[p].toNat+1) b/\0<=ks[p]
 | [],_,_,_,p,hp=>by simp at hp
 | x::ks,a,b,h,0,_=>⟨h.2.2,h.1⟩
 | x::ks,a,b,h,p+1,hp=>by
  have:=rD ks _ b h.2.2 p (by simpa using hp);simpa using this
theorem Oh{es:Q09}(ht:∀j,j<es.length->0<=ay es j):∀(n:Nat),n<es.length->∀j:Nat,ay es n<=(j:Int)->j<=n->ay es n<=ay es j:=by
 intro n
 induction n using Nat.strongRecOn with
 | _ n ih =>
  intro hn j h1 h2;by_cases e:j=n
  ·rw[e];exact Int.le_refl _
  have hc:=nV (ht n hn);obtain⟨k,hk,e1,e2,e3⟩:=BP _ _ _ j hc (by have:=ht n hn;omega) (by omega);have hlt:=(nW _ _ _ hc).2 k hk;have:=ih k.toNat hlt.2 (by omega) j e1 e2;have:=ht n hn;omega
theorem KP{es:Q09}(ht:∀j,j<es.length->0<=ay es j){i j:Nat}(hi:i<es.length)(hj:j<i){x y:Int}(hx:x∈dC es i)(hy:y∈dC es j):x.toNat≠y.toNat:=by
 intro e;have ci:=nV (ht i hi);have cj:=nV (ht j (by omega));obtain⟨p,hp,rfl⟩:=Wl hx;obtain⟨h1,h2⟩:=rD _ _ _ ci p hp;have hyj:=(nW _ _ _ cj).2 y hy;have hyg:=BQ _ _ _ cj y hy;obtain⟨k,hk,e1,e2,e3⟩:=BP _ _ _ j h1 (by omega) hj;have hk2:=(nW _ _ _ ci).2 k (List.mem_of_mem_drop hk);have:=Oh ht k.toNat (by omega) j e1 e2;have:=ht j (by omega);omega
theorem KQ{es:Q09}{i:Nat}(h:0<=ay es i)(p q:Nat)(hp:p<(dC es i).length)(hq:q<(dC es i).length)(hpq:p<q):(dC es i)[p].toNat<(dC es i)[q].toNat:=by
 have h1:=(rD _ _ _ (nV h) p hp).1;refine BQ _ _ _ h1 _ ?_;rw[List.mem_drop_iff_getElem];exact⟨q-(p+1),by omega,by congr 1;omega⟩
theorem ko(i:Nat)(kind:Int):∀(xs:List Int) (k:Nat) (out:List Bool) (z:Nat),(∀x∈xs,x.toNat≠z)->(bf i kind xs k out).getD z false=out.getD z false
 | [],_,_,_,_=>rfl
 | x::xs,k,out,z,h=>by
  rw[bf,ko i kind xs (k+1) _ z fun y hy=>h y (V4 _ hy)];simp only[V6,List.getElem?_set_ne (h x (We ..))]
theorem BR(i:Nat)(kind:Int):∀(xs:List Int) (k:Nat) (out:List Bool),(∀(p q:Nat) (hp:p<xs.length) (hq:q<xs.length),p<q->xs[p].toNat≠xs[q].toNat)->(∀x∈xs,x.toNat≠i)->(∀x∈xs,x.toNat<out.length)->∀(p:Nat) (hp:p<xs.length),(bf i kind xs k out).getD xs[p].toNat false=(out.getD i false || (kind==6&&(k+p)==1))
 | [],_,_,_,_,_,p,hp=>by simp at hp
 | x::xs,k,out,hd,hi,hl,p,hp=>by
  have hxi:=hi x (We ..);have hxl:=hl x (We ..);have hgi:(out.set x.toNat (out.getD i false || (kind==6&&k==1))).getD i false=out.getD i false:=by
   rw[V6,V6,List.getElem?_set_ne hxi]
  rw[bf];cases p with
  | zero =>
   rw[List.getElem_cons_zero,ko i kind xs (k+1) _ x.toNat fun y hy=>?_]
   ·rw[V6,List.getElem?_set_self hxl];rfl
   obtain⟨q,hq,rfl⟩:=Wl hy;exact(hd 0 (q+1) (by simp) (by simpa using hq) (by omega)).symm
  | succ p =>
   have:=BR i kind xs (k+1) (out.set x.toNat (out.getD i false || (kind==6&&k==1))) (fun a b ha hb hab=>hd (a+1) (b+1) (by simpa using ha) (by simpa using hb) (by omega)) (fun y hy=>hi y (V4 _ hy)) (fun y hy=>by rw[List.length_set];exact hl y (V4 _ hy)) p (by simpa using hp);rw[List.getElem_cons_succ,this,hgi,show k+1+p=k+(p+1) by omega]
theorem pM(es:Q09):∀(m:Nat) (out:List Bool) (z:Nat),(∀j,j<m->∀x∈dC es j,x.toNat≠z)->(dX es m out).getD z false=out.getD z false
 | 0,_,_,_=>rfl
 | m+1,out,z,h=>by
  rw[dX,pM es m _ z fun j hj=>h j (by omega)];cases e:es[m]? with
  | none=>rfl
  | some x=>exact ko m x.kind x.kids 0 out z fun y hy=>h m (by omega) y (by unfold dC;rw[e];exact hy)
theorem wJ(es:Q09)(i:Nat):∀(d:Nat) (out:List Bool),∃out':List Bool,out'.length=out.length/\dX es (i+d) out=dX es i out'
 | 0,out=>⟨out,rfl,rfl⟩
 | d+1,out=>by
  obtain⟨o',h1,h2⟩:=wJ es i d (match es[i+d]? with|none=>out|some e=>bf (i+d) e.kind e.kids 0 out);refine⟨o',?_,h2⟩;rw[h1];cases es[i+d]? with
  | none=>rfl
  | some e=>exact xP _ _ _ _ _
theorem LV{es:Q09}(ht:∀j,j<es.length->0<=ay es j){i:Nat}(hi:i<es.length)(p:Nat)(hp:p<es[i].kids.length):(dz es).getD es[i].kids[p].toNat false=((dz es).getD i false || (es[i].kind==6&&p==1)):=by
 have hk:dC es i=es[i].kids:=by unfold dC;rw[Vy hi];rfl
 have hlow:∀j,j<es.length->∀x∈dC es j,x.toNat<j:=fun j hj x hx=>((nW _ _ _ (nV (ht j hj))).2 x hx).2;obtain⟨o',h1,h2⟩:=wJ es (i+1) (es.length-(i+1)) (List.replicate es.length false);rw[show i+1+(es.length-(i+1))=es.length by omega]at h2;have hN:dz es=dX es i (bf i es[i].kind es[i].kids 0 o'):=by
  unfold dz;rw[h2,dX,Vy hi]
 have hmem:es[i].kids[p]∈dC es i:=by rw[hk];exact Vp hp
 have hA:(dz es).getD es[i].kids[p].toNat false=(bf i es[i].kind es[i].kids 0 o').getD es[i].kids[p].toNat false:=by
  rw[hN];exact pM es i _ _ fun j hj x hx e=>KP ht hi hj hmem hx e.symm
 have hB:(dz es).getD i false=o'.getD i false:=by
  rw[hN,pM es i _ i fun j hj x hx=>by have:=hlow j (by omega) x hx;omega];exact ko i _ _ 0 o' i fun x hx=>by have:=hlow i hi x (by rw[hk];exact hx);omega
 rw [hA,hB,BR i es[i].kind es[i].kids 0 o' (fun a b ha hb hab=>by
   have:=KQ (ht i hi) a b (by rw[hk];exact ha) (by rw[hk];exact hb) hab;simp only[hk]at this;omega) (fun x hx=>by have:=hlow i hi x (by rw[hk];exact hx);omega) (fun x hx=>by have:=hlow i hi x (by rw[hk];exact hx);rw[h1];simp;omega) p hp,VQ]
def yK(es:Q09)(i:Nat):Int:=if (dz es).getD i false then 1 else 0
structure NodeR(l:Q05)(rk:Fc->Int)(es:Q09)(f:Fc):Prop where
 ht:∀j,j<es.length->0<=ay es j
 q1:∀i (hi:i<es.length),es[i].kind=1->∀t∈l,(t.a.toList==f.a.toList&&t.b.toList==f.b.toList&&t.r.toList==f.r.toList)=true->t.s.toList.isEmpty=false->rk ⟨t.c,t.d,t.s,f.c,f.d⟩+yK es i<=rk f
 q2:∀i (hi:i<es.length),es[i].kind=2->rk ⟨f.a,f.b,es[i].name,f.c,f.d⟩+yK es i<=rk f
 q3:∀i (hi:i<es.length),es[i].kind=3->∀t∈l,(t.a.toList==f.a.toList&&t.b.toList==f.b.toList&&t.r.toList==es[i].over.toList)=true->rk ⟨t.c,t.d,es[i].name,f.c,f.d⟩+yK es i<=rk f
 k6:∀i (hi:i<es.length),es[i].kind=6->es[i].kids.length=2
section
variable  {l:Q05}{rk:Fc->Int}{es:Q09}{f:Fc}
def Eg(rk:Fc->Int)(r:Int)(a b:Q04):Prop:=∀g:Fc,rk g<r->(g∈a↔g∈b)
def TF(rk:Fc->Int)(r:Int)(a b:Q04):Prop:=∀g:Fc,rk g<=r->g∈a->g∈b
theorem uD{a b:Q04}{r:Int}(h:Eg rk r a b){g:Fc}(hg:rk g<r):df a g=df b g:=by
 rw[VL,bY,bY];exact h g hg
theorem uE{a b:Q04}{r:Int}(h:TF rk r a b){g:Fc}(hg:rk g<=r)(hh:df a g=true):df b g=true:=bY.2 (h g hg (bY.1 hh))
theorem FL{α:Type}{p q:α->Bool}{xs:List α}(h:∀x∈xs,p x=q x):xs.any p=xs.any q:=by
 rw[VL,VT,VT];exact⟨fun⟨x,hx,e⟩=>⟨x,hx,by rw[<-h x hx];exact e⟩,fun⟨x,hx,e⟩=>⟨x,hx,by rw[h x hx];exact e⟩⟩
theorem SG{α:Type}{p q:α->Bool}{xs:List α}(h:∀x∈xs,p x=q x):xs.all p=xs.all q:=by
 rw[VL,VC,VC];exact⟨fun e x hx=>by rw[<-h x hx];exact e x hx,fun e x hx=>by rw[h x hx];exact e x hx⟩
theorem NodeR.kid(h:NodeR l rk es f){i:Nat}(hi:i<es.length){p:Nat}(hp:p<es[i].kids.length):es[i].kids[p].toNat<es.length:=by
 have hk:dC es i=es[i].kids:=by unfold dC;rw[Vy hi];rfl
 have:=((nW _ _ _ (nV (h.ht i hi))).2 es[i].kids[p] (by rw[hk];exact Vp hp)).2;omega
theorem NodeR.same(h:NodeR l rk es f){ta tb:Q04}(hT:Eg rk (rk f) ta tb):∀(k:Nat) (a b:Q04) (i:Nat),Eg rk (rk f) a b->i<es.length->(dz es).getD i false=true->dK l es ta f k a i=dK l es tb f k b i
 | 0,_,_,_,_,_,_=>rfl
 | k+1,a,b,i,hS,hi,hg=>by
  have hng:yK es i=1:=by unfold yK;rw[hg];rfl
  have Xv:∀x∈es[i].kids,∀a b,Eg rk (rk f) a b->dK l es ta f k a x.toNat=dK l es tb f k b x.toNat:=fun x hx a b hS=>by
   obtain⟨p,hp,rfl⟩:=Wl hx;exact h.same hT k a b _ hS (h.kid hi hp) (by rw[LV h.ht hi p hp,hg];rfl)
  unfold dK;rw[Vy hi];simp only;by_cases e1:es[i].kind=1
  ·rw[if_pos e1,if_pos e1];refine FL fun t ht=>?_;cases hm:(t.a.toList==f.a.toList&&t.b.toList==f.b.toList&&t.r.toList==f.r.toList);case false=>rfl
   cases hs:t.s.toList.isEmpty;case true=>rfl
   have:=h.q1 i hi e1 t ht hm hs;simp only[Bool.false_eq_true,if_false];rw[uD hS (g:=⟨t.c,t.d,t.s,f.c,f.d⟩) (by omega)]
  rw[if_neg e1,if_neg e1];by_cases e2:es[i].kind=2
  ·rw[if_pos e2,if_pos e2];have:=h.q2 i hi e2;exact uD hS (by omega)
  rw[if_neg e2,if_neg e2];by_cases e3:es[i].kind=3
  ·rw[if_pos e3,if_pos e3];refine FL fun t ht=>?_;cases hm:(t.a.toList==f.a.toList&&t.b.toList==f.b.toList&&t.r.toList==es[i].over.toList);case false=>rfl
   have:=h.q3 i hi e3 t ht hm;rw[uD hS (g:=⟨t.c,t.d,es[i].name,f.c,f.d⟩) (by omega)]
  rw[if_neg e3,if_neg e3];by_cases e4:es[i].kind=4
  ·rw[if_pos e4,if_pos e4];exact FL fun x hx=>Xv x hx a b hS
  rw[if_neg e4,if_neg e4];by_cases e5:es[i].kind=5
  ·rw[if_pos e5,if_pos e5];exact SG fun x hx=>Xv x hx a b hS
  rw[if_neg e5,if_neg e5];by_cases e6:es[i].kind=6
  ·rw[if_pos e6,if_pos e6];have hl:=h.k6 i hi e6;have hx:∀q,q<2->es[i].kids.getD q 0∈es[i].kids:=fun q hq=>by
    rw[V6,Vy (by omega)];exact Vp _
   rw[Xv _ (hx 0 (by omega)) a b hS,Xv _ (hx 1 (by omega)) ta tb hT]
  rw[if_neg e6,if_neg e6]
theorem NodeR.more(h:NodeR l rk es f){ta tb:Q04}(hT:Eg rk (rk f) ta tb):∀(k:Nat) (a b:Q04) (i:Nat),Eg rk (rk f) a b->TF rk (rk f) a b->i<es.length->dK l es ta f k a i=true->dK l es tb f k b i=true
 | 0,_,_,_,_,_,_,hh=>by cases hh
 | k+1,a,b,i,hS,hM,hi,hh=>by
  have hng:0<=yK es i:=by unfold yK;split<;>omega
  have Xv:∀x∈es[i].kids,dK l es ta f k a x.toNat=true->dK l es tb f k b x.toNat=true:=fun x hx=>by
   obtain⟨p,hp,rfl⟩:=Wl hx;exact h.more hT k a b _ hS hM (h.kid hi hp)
  unfold dK at hh⊢;rw[Vy hi]at hh⊢;simp only at hh⊢;by_cases e1:es[i].kind=1
  ·rw[if_pos e1]at hh ⊢;obtain⟨t,ht,e⟩:=VT.1 hh;refine VT.2 ⟨t,ht,?_⟩;rw[Vt]at e ⊢;refine⟨e.1,?_⟩;cases hs:t.s.toList.isEmpty;case true=>have:=e.2;rw[hs]at this;exact this
   have h2:=e.2;rw[hs]at h2;simp only[Bool.false_eq_true,if_false]at h2 ⊢;have:=h.q1 i hi e1 t ht e.1 hs;exact uE hM (by omega) h2
  rw[if_neg e1]at hh ⊢;by_cases e2:es[i].kind=2
  ·rw[if_pos e2]at hh ⊢;have:=h.q2 i hi e2;exact uE hM (by omega) hh
  rw[if_neg e2]at hh ⊢;by_cases e3:es[i].kind=3
  ·rw[if_pos e3]at hh ⊢;obtain⟨t,ht,e⟩:=VT.1 hh;refine VT.2 ⟨t,ht,?_⟩;rw[Vt]at e ⊢;have:=h.q3 i hi e3 t ht e.1;exact⟨e.1,uE hM (by omega) e.2⟩
  rw[if_neg e3]at hh ⊢;by_cases e4:es[i].kind=4
  ·rw[if_pos e4]at hh ⊢;obtain⟨x,hx,e⟩:=VT.1 hh;exact VT.2 ⟨x,hx,Xv x hx e⟩
  rw[if_neg e4]at hh ⊢;by_cases e5:es[i].kind=5
  ·rw[if_pos e5]at hh ⊢;exact VC.2 fun x hx=>Xv x hx (VC.1 hh x hx)
  rw[if_neg e5]at hh ⊢;by_cases e6:es[i].kind=6
  ·rw[if_pos e6]at hh ⊢;have hl:=h.k6 i hi e6;have hx:∀q (hq:q<2),es[i].kids.getD q 0=es[i].kids[q]'(by omega):=fun q hq=>by
    rw[V6,Vy (by omega)];rfl
   rw[Vt]at hh ⊢;refine⟨?_,?_⟩
   ·have h0:=hh.1;rw[hx 0 (by omega)]at h0 ⊢;exact Xv _ (Vp _) h0
   have h1:=hh.2;rw[hx 1 (by omega)]at h1 ⊢;have hf:(dz es).getD (es[i].kids[1]'(by omega)).toNat false=true:=by
    rw[LV h.ht hi 1 (by omega),e6];simp
   rw[<-h.same hT k ta tb _ hT (h.kid hi (by omega)) hf];exact h1
  rw[if_neg e6]at hh;cases hh
end
theorem Oi{ts:Q0b}{l:Q05}{rk:Fc->Int}(hn:∀f:Fc,az ts f.a f.r≠[]->NodeR l rk (az ts f.a f.r) f):Lay rk (fu ts l):=fun a b f h1 h2 hh=>by
 by_cases he:az ts f.a f.r=[]
 ·unfold fu at hh;rw[he]at hh;cases hh
 have hpos:(az ts f.a f.r).length-1<(az ts f.a f.r).length:=by
  have:(az ts f.a f.r).length≠0:=fun e=>he (VM.1 e);omega
 refine(hn f he).more h1 _ a b _ h1 (fun g hg hm=>?_) hpos hh;by_cases e:rk g=rk f
 ·exact h2 g e hm
 exact(h1 g (by omega)).1 hm
def Ro(ts:Q0b)(st:Q00)(g:Fc):Int:=if hasB ts g.a g.r then st (g.a,g.r) else -1
def Q8(ts:Q0b)(t:Tp):Bool:=(az ts t.a t.r).any fun e=>decide (e.kind=1)&&dG e.allow e.allow.length ⟨t.c,t.s⟩
theorem IB{ts:Q0b}{a r:ByteArray}:hasB ts a r=true↔az ts a r≠[]:=by
 unfold hasB;cases az ts a r<;>simp
theorem BS{ts:Q0b}{typ:ByteArray}{es:Q09}{i:Nat}{d:Dp}(h:d∈gX ts typ es i):∀k,i<k->d∈aM ts typ es k
 | 0,hi=>absurd hi (Wx _)
 | k+1,hi=>by
  unfold aM;by_cases e:i=k
  ·subst e;exact List.mem_append_right _ h
  exact Wo _ (BS h k (by omega))
theorem BU{ng:Bool}{a:Al}:∀{xs:Q0a},a∈xs->a.s.toList.isEmpty=false->(⟨a.t,a.s,ng⟩:Dp)∈cz ng xs
 | [],h,_=>by cases h
 | x::xs,h,hs=>by
  unfold cz;rcases VH.1 h with rfl|h
  ·rw[if_neg (by rw[hs];decide)];exact We ..
  split
  ·exact BU h hs
  exact V4 _ (BU h hs)
theorem Q9{ts:Q0b}{rel:ByteArray}{a:Al}:∀{xs:Q0a},a∈xs->hasB ts a.t rel=true->a.t∈gl ts rel xs
 | [],h,_=>by cases h
 | x::xs,h,hs=>by
  unfold gl;rcases VH.1 h with rfl|h
  ·rw[if_neg (by unfold hasB at hs;simpa using hs)];exact We ..
  split
  ·exact Q9 h hs
  exact V4 _ (Q9 h hs)
theorem Eh{xs:Q0a}{c s:ByteArray}(h:dG xs xs.length ⟨c,s⟩=true):(⟨c,s⟩:Al)∈xs:=by
 unfold dG at h;rw[VI]at h;obtain⟨a,ha,e⟩:=VT.1 h;unfold jV at e;rw[Vt,beq_iff_eq,beq_iff_eq]at e;have:a=⟨c,s⟩:=by
  cases a;simp only at e;rw[fZ e.1,fZ e.2]
 rw[<-this];exact ha
theorem SH{es:Q09}(h:own es<=1){i j:Nat}(hi:i<es.length)(hj:j<es.length)(ki:es[i].kind=1)(kj:es[j].kind=1):i=j:=by
 have key:∀(es:Q09) (i j:Nat) (hi:i<es.length) (hj:j<es.length),es[i].kind=1->es[j].kind=1->i<j->2<=own es:=by
  intro es
  induction es with
  | nil=>intro i j hi;simp at hi
  | cons e es ih =>
   intro i j hi hj ki kj hij;unfold own;rw[WG];cases j with
   | zero=>omega
   | succ j =>
    have kj':(es[j]'(by simpa using hj)).kind=1:=by simpa using kj
    cases i with
    | zero =>
     have ki':e.kind=1:=by simpa using ki
     have:0<(es.filter fun e=>decide (e.kind=1)).length:=List.length_pos_of_mem (a:=es[j]'(by simpa using hj)) (Wz.2 ⟨Vp _,by simpa using kj'⟩);simp[ki'];omega
    | succ i =>
     have:=ih i j (by simpa using hi) (by simpa using hj) (by simpa using ki) kj' (by omega);unfold own at this;split
     ·simp;omega
     exact this
 rcases Nat.lt_trichotomy i j with h1|h1|h1
 ·have:=key es i j hi hj ki kj h1;omega
 ·exact h1
 have:=key es j i hj hi kj ki h1;omega
theorem Ra{ts:Q0b}{l:Q05}{st:Q00}(hS:Sol ts st)(hsh:aY ts=true)(hrf:iq ts=true)(hfit:∀t∈l,Q8 ts t=true){f:Fc}(hf:az ts f.a f.r≠[]):NodeR l (Ro ts st) (az ts f.a f.r) f:=by
 obtain⟨es,hes⟩:∃es,es=az ts f.a f.r:=⟨_,rfl⟩;have hp:fF ts f.a f.r=some es:=by
  rw[hes];cases e:fF ts f.a f.r with
  | none=>unfold az at hf;rw[e]at hf;exact absurd rfl hf
  | some x=>unfold az;rw[e];rfl
 obtain⟨t0,ht0,r0,hr0,en,er,ee⟩:=nY hp;have hspec:=(uw hsh ht0 hr0).2;rw[ee]at hspec;have hk:(f.a,f.r)∈ak ts:=by
  unfold ak jI;exact VJ.2 ⟨t0,ht0,VG.2 ⟨r0,hr0,by rw[en,er]⟩⟩
 have hrk:Ro ts st f=st (f.a,f.r):=by unfold Ro;rw[if_pos (IB.2 hf)]
 have hup:∀i,i<es.length->∀d∈gX ts f.a es i,st (d.typ,d.rel)+stepOf d<=st (f.a,f.r):=fun i hi d hd=>hS.up _ hk d (by show d∈pX ts f.a (az ts f.a f.r);rw[<-hes];exact BS hd _ hi);have hpos:=hS.pos (f.a,f.r);have hng:∀i,0<=yK es i/\yK es i<=1:=fun i=>by unfold yK;split<;>omega
 -- whatever a node asks by a name that it leans on
 have ask:∀i (hi:i<es.length) (g:Fc),(hasB ts g.a g.r=true->(⟨g.a,g.r,(dz es).getD i false⟩:Dp)∈gX ts f.a es i)->Ro ts st g+yK es i<=Ro ts st f:=fun i hi g h=>by
  rw[hrk];have h1:=hng i;unfold Ro;split
  ·rename_i hb;have h2:=hup i hi _ (h hb);unfold stepOf at h2;unfold yK;exact h2
  omega
 rw[<-hes];have hdA:∀i (hi:i<es.length),gX ts f.a es i=cz ((dz es).getD i false) es[i].allow++kX ts f.a ((dz es).getD i false) es[i]:=fun i hi=>by unfold gX;rw[Vy hi]
 have aab:=hspec;unfold aK at aab;simp only[Vt,VF]at aab;obtain⟨⟨⟨⟨⟨-,-⟩,hnb⟩,hku⟩,hown⟩,htr⟩:=aab;refine⟨fun j hj=>?_,fun i hi k1 t ht hm hs=>?_,fun i hi k2=>?_,fun i hi k3 t ht hm=>?_,fun i hi k6=>?_⟩
 ·exact nG es (es.length-1) (by rw[htr];exact Int.le_refl _) j (by rw[htr];omega) (by omega)
 ·refine ask i hi _ fun hb=>?_;rw[Vt,Vt,beq_iff_eq,beq_iff_eq,beq_iff_eq]at hm;have h1:=hfit t ht;unfold Q8 at h1;rw[fZ hm.1.1,fZ hm.2,<-hes]at h1;obtain⟨e,he,h2⟩:=VT.1 h1;rw[Vt,VF]at h2;obtain⟨j,hj,rfl⟩:=Wl he;have:=SH hown hi hj k1 h2.1;subst this;rw[hdA i hi];exact Wo _ (BU (Eh h2.2) hs)
 ·refine ask i hi _ fun hb=>?_;rw[hdA i hi];refine List.mem_append_right _ ?_;unfold kX;rw[if_pos k2];exact VD.2 rfl
 ·refine ask i hi _ fun hb=>?_;rw[Vt,Vt,beq_iff_eq,beq_iff_eq,beq_iff_eq]at hm;have hrn:=(RU hrf ht0 hr0 (e:=es[i]) (by rw[ee];exact Vp hi)).2;unfold lG at hrn;rw[if_neg (by rw[k3];decide),if_pos k3]at hrn;simp only[Vt]at hrn;have ZK:=hrn.1;rw[en]at ZK;have h1:=hfit t ht;unfold Q8 at h1;rw[fZ hm.1.1,fZ hm.2]at h1;have hmem:(⟨t.c,t.s⟩:Al)∈aQ (az ts f.a es[i].over):=by
   rcases hre:az ts f.a es[i].over with _|⟨e,_|⟨e2,rest⟩⟩
   ·rw[hre]at ZK;simp[bi]at ZK
   ·rw[hre]at ZK h1;simp only[bi,Vt,VF]at ZK;obtain⟨e',he',h2⟩:=VT.1 h1;rw[VD]at he';subst he';rw[Vt]at h2;simp only[aQ,if_pos ZK.1];exact Eh h2.2
   rw[hre]at ZK;simp[bi]at ZK
  rw[hdA i hi];refine List.mem_append_right _ ?_;unfold kX;rw[if_neg (by rw[k3];decide),if_pos k3];exact VG.2 ⟨t.c,Q9 (a:=⟨t.c,t.s⟩) hmem hb,rfl⟩
 have h:=VC.1 hnb _ (Vp hi);unfold av at h;simp[k6]at h;exact h.1.1.1
theorem FM{ts:Q0b}{l:Q05}{st:Q00}(hS:Sol ts st)(hsh:aY ts=true)(hrf:iq ts=true)(hfit:∀t∈l,Q8 ts t=true):Lay (Ro ts st) (fu ts l):=Oi fun f hf=>Ra hS hsh hrf hfit hf
theorem KR{ts:Q0b}{st:Q00}{xo xu:Q0a}{n:Int}(hen:∀k∈ak ts,hasB ts k.1 k.2=true){f:Fc}(h:f∈bF ts st xo xu n):Ro ts st f=n:=by
 unfold bF vC jc Ar at h;obtain⟨o,-,h⟩:=VJ.1 h;obtain⟨k,hk,h⟩:=VJ.1 h;obtain⟨u,-,rfl⟩:=VG.1 h;obtain⟨hk1,hk2⟩:=Wz.1 hk;rw[Vt,beq_iff_eq,VF]at hk2;have e1:k.1=o.t:=fZ hk2.1;have hb:hasB ts o.t k.2=true:=by
  rw[<-e1];exact hen k hk1
 unfold Ro;rw[if_pos hb];show st (o.t,k.2)=n;rw[<-e1];exact hk2.2
theorem Uz{P:Nat->Prop}(h:∃n,P n):∃n,P n/\∀m,P m->n<=m:=by
 obtain⟨n,hn⟩:=h
 induction n using Nat.strongRecOn with
 | ind n ih =>
  by_cases hx:∃m,m<n/\P m
  ·obtain⟨m,hm,hp⟩:=hx;exact ih m hm hp
  exact⟨n,hn,fun m hm=>Nat.le_of_not_lt fun hlt=>hx ⟨m,hlt,hm⟩⟩
theorem Rb{ts:Q0b}(h:∃f,Sol ts f):∃f,Least ts f:=by
 have key:∀ k,∃ n:Nat,(∃ g,Sol ts g/\g k=(n:Int))/\∀ m:Nat,(∃ g,Sol ts g/\g k=(m:Int))->n<=m:=fun k=>Uz (by
  obtain⟨f,hf⟩:=h;exact⟨(f k).toNat,f,hf,by have:=hf.pos k;omega⟩)
 have low:∀k g,Sol ts g->(((key k).choose:Nat):Int)<=g k:=fun k g hg=>by
  have h1:=(key k).choose_spec.2 (g k).toNat ⟨g,hg,by have:=hg.pos k;omega⟩;have:=hg.pos k;omega
 refine⟨fun k=>(((key k).choose:Nat):Int),⟨fun k=>Int.natCast_nonneg _,fun k hk d hd=>?_⟩,fun k hk g hg=>low k g hg⟩;obtain⟨g,hg,e⟩:=(key k).choose_spec.1;have h1:=low (d.typ,d.rel) g hg;have h2:=hg.up k hk d hd;show(((key (d.typ,d.rel)).choose:Nat):Int)+stepOf d<=(((key k).choose:Nat):Int);rw[<-e];exact Int.le_trans (Int.add_le_add_right h1 _) h2
theorem Va(ts:Q0b):∃st,aN ts=true->Least ts st:=by
 by_cases h:aN ts=true
 ·obtain⟨st,hst⟩:=Rb (bu.1 h).2.2;exact⟨st,fun _=>hst⟩
 exact⟨fun _=>0,fun h2=>absurd h2 h⟩
end Go.Proofs.YtojjoblnpldniaaGreat
