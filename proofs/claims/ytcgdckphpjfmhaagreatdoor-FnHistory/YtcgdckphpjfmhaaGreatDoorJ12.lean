/- Contract of the document's function that puts a tuple into its place. -/
import Derived.Test.YtcgdckphpjfmhaaGreatDoorSq
import Derived.Test.YtcgdckphpjfmhaaGreatDoorJ8
import Derived.Test.YtcgdckphpjfmhaaGreatDoorShelfW
import Derived.Laws.AppendOwnNone
open Go.Proofs.Tryz
set_option maxHeartbeats 80000000
namespace Go.Proofs.YtcgdckphpjfmhaaGreatDoor
open ChangeShapes WideShapes ChangeAt RowKit Maps
open Pl
set_option maxRecDepth 8000 in
theorem MC(b off cap:Nat)(ts:Q05)(t:Tp)(w:ae)(hlen:ts.length<=1000)(hcap:ts.length<=cap)(hs:dE w b off ts)(hb:b<w.heap.size)(hf:∀x∈ts,x.fits)(ht:t.fits):
  Calls prog 114 #[.slice (some ⟨b,off,none⟩) ts.length cap,.agg #[.string t.a,.string t.b,.string t.r,.string t.c,.string t.d,.string t.s]] w fun e w'=>∃v:Value,e=.returned v/\w'.ownsRow w.heap.size 29 6 v (jV ts t).length (aF (jV ts t))/\af w w':=by
 obtain⟨iT,hiT,zT0,zT1,zT2⟩:=info_parts (P:=prog) (e:=29) (z:=.agg #[.string ⟨#[]⟩,.string ⟨#[]⟩,.string ⟨#[]⟩,.string ⟨#[]⟩,.string ⟨#[]⟩,.string ⟨#[]⟩]) (size:=6) (bytes:=96) (by kernel_rfl);have HIT:Hid (prog.info? 29=some iT/\iT.zero=some (.agg #[.string ⟨#[]⟩,.string ⟨#[]⟩,.string ⟨#[]⟩,.string ⟨#[]⟩,.string ⟨#[]⟩,.string ⟨#[]⟩])/\iT.size=6/\iT.bytes=96):=⟨hiT,zT0,zT1,zT2⟩;have HS:=aC hs;have HF:=aC hf;have HT:Hid t.fits:=ht;clear hs hf ht hiT zT0 zT1 zT2;obtain⟨W0,hW0⟩:∃W0,W0=w.alloc (.cells #[.string t.a,.string t.b,.string t.r,.string t.c,.string t.d,.string t.s] 29):=⟨_,rfl⟩;have HB0:=oQ hW0;have HX0:Hid (wC W0 w.heap.size t):=by show wC _ _ _;rw[hW0];exact Et w t _
 go_enter func114,ntmps114;go_wp2;rw[<-hW0];clear hW0;go_loopw[5] (fun i wr=>∃k:Nat,k<=ts.length/\i=.int .i64 k/\Hid (∀i (h:i<ts.length),i<k->ts[i].ahead t=true)/\Hid (af w wr)/\Hid (wC wr w.heap.size t)) (fun i _=>ts.length-(intOf i).toNat);case atStart=>exact⟨0,VG _,rfl,fun i h hi=>by omega,HB0,HX0⟩
 clear HX0 HB0;obtain⟨k,hk,rfl,HU,HB,HX⟩:=hrel;have hk1:=bq k;by_cases hlt:k<ts.length
 ·have hk2:(k:Int)<(ts.length:Int):=by omega
  obtain⟨t0,t1,t2,t3,t4,t5⟩:=(HS.out.below HB.out hb) k hlt;obtain⟨x0,x1,x2,x3,x4,x5,xl⟩:=HX.out;have hbr:b<wr.heap.size:=Vy hb HB.out.size;obtain⟨f0,f1,f2,f3,f4,f5⟩:=HF.out _ (Vz hlt);obtain⟨e0,e1,e2,e3,e4,e5⟩:=HT.out;have HA:Hid (∀W,Calls prog 164 #[.agg #[.string ts[k].a,.string ts[k].b,.string ts[k].r,.string ts[k].c,.string ts[k].d,.string ts[k].s],.agg #[.string t.a,.string t.b,.string t.r,.string t.c,.string t.d,.string t.s]] W fun e w'=>e=.returned (.bool (ts[k].ahead t))/\af W w'):=fun W=>sP _ _ _ _ _ _ _ _ _ _ _ _ W f0 f1 f2 f3 f4 f5 e0 e1 e2 e3 e4 e5;clear f0 f1 f2 f3 f4 f5 e0 e1 e2 e3 e4 e5;have H0:wr.drew.cell? ⟨b,off+k*6,none⟩=some (.string ts[k].a)/\wr.drew.cell? ⟨b,off+k*6+1,none⟩=some (.string ts[k].b)/\wr.drew.cell? ⟨b,off+k*6+2,none⟩=some (.string ts[k].r)/\wr.drew.cell? ⟨b,off+k*6+3,none⟩=some (.string ts[k].c)/\wr.drew.cell? ⟨b,off+k*6+4,none⟩=some (.string ts[k].d)/\wr.drew.cell? ⟨b,off+k*6+5,none⟩=some (.string ts[k].s)/\wr.drew.cell? ⟨w.heap.size,0,none⟩=some (.string t.a)/\wr.drew.cell? ⟨w.heap.size,1,none⟩=some (.string t.b)/\wr.drew.cell? ⟨w.heap.size,2,none⟩=some (.string t.r)/\wr.drew.cell? ⟨w.heap.size,3,none⟩=some (.string t.c)/\wr.drew.cell? ⟨w.heap.size,4,none⟩=some (.string t.d)/\wr.drew.cell? ⟨w.heap.size,5,none⟩=some (.string t.s)/\b<wr.drew.heap.size/\w.heap.size<wr.drew.heap.size/\af w wr.drew:=⟨t0,t1,t2,t3,t4,t5,x0,x1,x2,x3,x4,x5,hbr,xl,HB.out.drew⟩;clear t0 t1 t2 t3 t4 t5 x0 x1 x2 x3 x4 x5;generalize hq:ts[k].ahead t=q at HA;cases q;case true=>
   have HQ:Hid (ts[k].ahead t=true):=hq;clear hq;go_wp2_with fail
   go_region_held3 (fun w'=>w'.cell? ⟨b,off+k*6,none⟩=some (.string ts[k].a)/\w'.cell? ⟨b,off+k*6+1,none⟩=some (.string ts[k].b)/\w'.cell? ⟨b,off+k*6+2,none⟩=some (.string ts[k].r)/\w'.cell? ⟨b,off+k*6+3,none⟩=some (.string ts[k].c)/\w'.cell? ⟨b,off+k*6+4,none⟩=some (.string ts[k].d)/\w'.cell? ⟨b,off+k*6+5,none⟩=some (.string ts[k].s)/\w'.cell? ⟨w.heap.size,0,none⟩=some (.string t.a)/\w'.cell? ⟨w.heap.size,1,none⟩=some (.string t.b)/\w'.cell? ⟨w.heap.size,2,none⟩=some (.string t.r)/\w'.cell? ⟨w.heap.size,3,none⟩=some (.string t.c)/\w'.cell? ⟨w.heap.size,4,none⟩=some (.string t.d)/\w'.cell? ⟨w.heap.size,5,none⟩=some (.string t.s)/\b<w'.heap.size/\w.heap.size<w'.heap.size/\af w w')
    (first|assumption|exact KO (by assumption) hbx|exact H0)
    (first|(go_at_call 164;refine(HA.out _).mono ?_;rintro e w' ⟨rfl,hbx⟩))
   rename_i hH;obtain⟨-,-,-,-,-,-,x0,x1,x2,x3,x4,x5,-,xl,gB⟩:=hH;have HB2:=fe gB;have Yt:=fe (OV x0 x1 x2 x3 x4 x5 xl);have HU2:Hid (∀i (h:i<ts.length),i<k+1->ts[i].ahead t=true):=fun i h hi=>by
    by_cases e:i=k
    ·subst e;exact HQ.out
    exact HU.out i h (by omega)
   clear x0 x1 x2 x3 x4 x5 gB hbx H0 HA HQ HU HB HX;go_wp2;go_roundw;case rel=>exact⟨k+1,by omega,by go_num,HU2,HB2,Yt⟩
   simp[intOf]<;>omega
  have HQ:Hid (ts[k].ahead t=false):=hq;clear hq;go_wp2_with fail
  go_region_held3 (fun w'=>w'.cell? ⟨b,off+k*6,none⟩=some (.string ts[k].a)/\w'.cell? ⟨b,off+k*6+1,none⟩=some (.string ts[k].b)/\w'.cell? ⟨b,off+k*6+2,none⟩=some (.string ts[k].r)/\w'.cell? ⟨b,off+k*6+3,none⟩=some (.string ts[k].c)/\w'.cell? ⟨b,off+k*6+4,none⟩=some (.string ts[k].d)/\w'.cell? ⟨b,off+k*6+5,none⟩=some (.string ts[k].s)/\w'.cell? ⟨w.heap.size,0,none⟩=some (.string t.a)/\w'.cell? ⟨w.heap.size,1,none⟩=some (.string t.b)/\w'.cell? ⟨w.heap.size,2,none⟩=some (.string t.r)/\w'.cell? ⟨w.heap.size,3,none⟩=some (.string t.c)/\w'.cell? ⟨w.heap.size,4,none⟩=some (.string t.d)/\w'.cell? ⟨w.heap.size,5,none⟩=some (.string t.s)/\b<w'.heap.size/\w.heap.size<w'.heap.size/\af w w')
   (first|assumption|exact KO (by assumption) hbx|exact H0)
   (first|(go_at_call 164;refine(HA.out _).mono ?_;rintro e w' ⟨rfl,hbx⟩))
  rename_i hH;obtain⟨-,-,-,-,-,-,x0,x1,x2,x3,x4,x5,-,xl,gB⟩:=hH;have HP:=fe (Es ts t k hk HU.out (fun _=>HQ.out));have WZ:=fe gB;have HXW:=fe (OV x0 x1 x2 x3 x4 x5 xl);clear hbx H0 HA HQ HU HB HX gB x0 x1 x2 x3 x4 x5;obtain⟨W1,hW1⟩:∃W1,W1=w'.alloc (.cells #[] 29):=⟨_,rfl⟩;have XA:Hid (W1.ownsRow w'.heap.size 29 6 (.slice (some ⟨w'.heap.size,0,none⟩) 0 0) 0 []):=by
   show World.ownsRow _ _ _ _ _ _ _;rw[hW1];exact World.ownsRow_lit w' #[] 0 (VC _) (by unfold maxLen;omega) (by simp)
  have XN:=oQ hW1;have HR1:Hid (dE W1 b off ts):=(HS.out.below WZ.out hb).below XN.out (Vy hb WZ.out.size);have Yo:=aC (HXW.out.below XN.out);have HB1:Hid (af w W1):=WZ.out.trans (XN.out.mono WZ.out.size);have hWs:w.heap.size<w'.heap.size:=HXW.out.2.2.2.2.2.2;have hb1:b<W1.heap.size:=Vy hb HB1.out.size;have hkc:k<=cap:=by omega
  have hz1:w'.heap.size<=W1.heap.size:=XN.out.size;clear WZ HXW XN;go_wp2_with(at_builtin;rw[<-hW1];clear hW1;refine wpList_append_own_at _ rfl _ _ 25 rfl w'.heap.size 29 iT (.agg #[.string ⟨#[]⟩,.string ⟨#[]⟩,.string ⟨#[]⟩,.string ⟨#[]⟩,.string ⟨#[]⟩,.string ⟨#[]⟩]) 6 96 underlying25 HIT.out.1 HIT.out.2.1 HIT.out.2.2.1 HIT.out.2.2.2 rfl (by decide) _ 0 [] rfl XA.out ⟨b,off,none⟩ k cap (aF (ts.take k)) rfl (by rw[fu,V9];congr 1;omega) (jW (CV HR1.out k)) (jX _) (by unfold maxLen;omega) (by omega) hz1 ?_);intro v2 w2 hown2 XC _ _;have WV:Hid (w2.ownsRow w'.heap.size 29 6 v2 k (aF (ts.take k))):=by
   show World.ownsRow _ _ _ _ _ _ _
   first|exact hown2|(rw[V4,WN]at hown2;exact hown2)
  have hne:some w.heap.size≠Value.ownBlock (.slice (some ⟨w'.heap.size,0,none⟩) 0 0):=fun e=>by simp[Value.ownBlock]at e;omega
  have hnb:some b≠Value.ownBlock (.slice (some ⟨w'.heap.size,0,none⟩) 0 0):=fun e=>by simp[Value.ownBlock]at e;omega
  have Yt:Hid (wC w2 w.heap.size t):=Yo.out.grown XC hne;have HR2:Hid (dE w2 b off ts):=pF HR1.out XC hb1 hnb;have HB2:Hid (af w w2):=HB1.out.grown XC HB1.out.size (fun g hg=>by simp[Value.ownBlock]at hg;omega);have hz2:w'.heap.size<=w2.heap.size:=VJ hz1 XC.size;clear hown2 XC XA Yo HR1 HB1 hne hnb;obtain⟨x0,x1,x2,x3,x4,x5,xl2⟩:=Yt.out;obtain⟨W3,hW3⟩:∃W3,W3=w2.alloc (.cells #[.string t.a,.string t.b,.string t.r,.string t.c,.string t.d,.string t.s] 29):=⟨_,rfl⟩;have Xm:Hid (W3.ownsRow w'.heap.size 29 6 v2 k (aF (ts.take k))):=by show World.ownsRow _ _ _ _ _ _ _;rw[hW3];exact WV.out.alloc _
  have Ze:Hid (∀j u,t.row[j]?=some u->W3.cell? ((⟨w2.heap.size,0,none⟩:Addr).add j)=some u):=by show ∀j u,_;rw[hW3];exact wL w2 t
  have Zq:=oQ hW3;have HB3:Hid (af w W3):=HB2.out.trans (Zq.out.mono HB2.out.size);have HR3:Hid (dE W3 b off ts):=HR2.out.below Zq.out (Vy hb HB2.out.size);have hz3:w'.heap.size<=W3.heap.size:=VJ hz2 Zq.out.size;have hb3:b<W3.heap.size:=Vy hb HB3.out.size;clear Zq HB2 HR2 Yt hb1 hz1 hz2;go_wp2_with(at_builtin;rw[<-hW3];clear hW3;refine wpList_append_own_at _ rfl _ _ 25 rfl w'.heap.size 29 iT (.agg #[.string ⟨#[]⟩,.string ⟨#[]⟩,.string ⟨#[]⟩,.string ⟨#[]⟩,.string ⟨#[]⟩,.string ⟨#[]⟩]) 6 96 underlying25 HIT.out.1 HIT.out.2.1 HIT.out.2.2.1 HIT.out.2.2.2 rfl (by decide) v2 k (aF (ts.take k)) rfl Xm.out ⟨w2.heap.size,0,none⟩ 1 1 t.row rfl rfl Ze.out (uY _) (by unfold maxLen;omega) (by omega) hz3 ?_);intro v4 w4 YB Zr _ _;have hnb:some b≠v2.ownBlock:=fun e=>by have:=(WV.out.lt b e.symm).1;omega
  have HR4:Hid (dE w4 b off ts):=pF HR3.out Zr hb3 hnb;have XR:Hid (af w w4):=HB3.out.grown Zr HB3.out.size (fun g hg=>by have:=(WV.out.lt g hg).1;omega);have Xk:=aC YB;have hz4:w'.heap.size<=w4.heap.size:=VJ hz3 Zr.size;clear YB Zr Xm WV Ze HB3 HR3 hb3 hz3 hnb x0 x1 x2 x3 x4 x5 xl2;have hdl:(ts.drop k).length=ts.length-k:=Wq;clear hdl;go_wp2_with(at_builtin;refine wpList_append_own_at _ rfl _ _ 25 rfl w'.heap.size 29 iT (.agg #[.string ⟨#[]⟩,.string ⟨#[]⟩,.string ⟨#[]⟩,.string ⟨#[]⟩,.string ⟨#[]⟩,.string ⟨#[]⟩]) 6 96 underlying25 HIT.out.1 HIT.out.2.1 HIT.out.2.2.1 HIT.out.2.2.2 rfl (by decide) v4 (k+1) (aF (ts.take k)++t.row) rfl Xk.out ⟨b,off+k*6,none⟩ (ts.length-k) (cap-k) (aF (ts.drop k)) rfl (by rw[fu,Wq]) (jW (LX HR4.out k)) (jX _) (by unfold maxLen;omega) (by omega) hz4 ?_);intro v5 w5 hown5 hgr5 _ _;have Yd:Hid (af w w5):=XR.out.grown hgr5 XR.out.size (fun g hg=>by have:=(Xk.out.lt g hg).1;omega);have hlp:(jV ts t).length=k+1+(ts.length-k):=by rw[HP.out];simp;omega
  have hown6:w5.ownsRow w'.heap.size 29 6 v5 (jV ts t).length (aF (jV ts t)):=by
   rw[hlp,HP.out,show ts.take k++t::ts.drop k=(ts.take k++[t])++ts.drop k by simp,pE,tY];first|exact hown5|(rw[V8];exact hown5)
  have XD:=fe (lG hown6 (WS hWs));clear hown5 hown6 hgr5 hlp;go_wp2;go_ret;exact⟨v5,rfl,XD.out,Yd.out⟩
 have hd:decide ((k:Int)<(ts.length:Int))=false:=by simp;omega
 go_wp2_with fail;go_quiet (fail);have HP:=fe (Es ts t k hk HU.out (fun h=>absurd h hlt));obtain⟨W9,Y6⟩:∃W9,wr.drewN nq=W9:=⟨_,rfl⟩;have WZ:Hid (af w W9):=by show Below _ _ _;rw[<-Y6];exact⟨HB.out.os,HB.out.tape,HB.out.output,HB.out.size,HB.out.block⟩
 have HXW:Hid (wC W9 w.heap.size t):=by show wC _ _ _;rw[<-Y6];exact HX.out
 rw[Y6];clear Y6 HU HB HX hd;obtain⟨W1,hW1⟩:∃W1,W1=W9.alloc (.cells #[] 29):=⟨_,rfl⟩;have XA:Hid (W1.ownsRow W9.heap.size 29 6 (.slice (some ⟨W9.heap.size,0,none⟩) 0 0) 0 []):=by
  show World.ownsRow _ _ _ _ _ _ _;rw[hW1];exact World.ownsRow_lit W9 #[] 0 (VC _) (by unfold maxLen;omega) (by simp)
 have XN:=oQ hW1;have HR1:Hid (dE W1 b off ts):=(HS.out.below WZ.out hb).below XN.out (Vy hb WZ.out.size);have Yo:=aC (HXW.out.below XN.out);have HB1:Hid (af w W1):=WZ.out.trans (XN.out.mono WZ.out.size);have hWs:w.heap.size<W9.heap.size:=HXW.out.2.2.2.2.2.2;have hb1:b<W1.heap.size:=Vy hb HB1.out.size;have hkc:k<=cap:=by omega
 have hz1:W9.heap.size<=W1.heap.size:=XN.out.size;clear WZ HXW XN;go_wp2_with(at_builtin;rw[<-hW1];clear hW1;refine wpList_append_own_at _ rfl _ _ 25 rfl W9.heap.size 29 iT (.agg #[.string ⟨#[]⟩,.string ⟨#[]⟩,.string ⟨#[]⟩,.string ⟨#[]⟩,.string ⟨#[]⟩,.string ⟨#[]⟩]) 6 96 underlying25 HIT.out.1 HIT.out.2.1 HIT.out.2.2.1 HIT.out.2.2.2 rfl (by decide) _ 0 [] rfl XA.out ⟨b,off,none⟩ k cap (aF (ts.take k)) rfl (by rw[fu,V9];congr 1;omega) (jW (CV HR1.out k)) (jX _) (by unfold maxLen;omega) (by omega) hz1 ?_);intro v2 w2 hown2 XC _ _;have WV:Hid (w2.ownsRow W9.heap.size 29 6 v2 k (aF (ts.take k))):=by
  show World.ownsRow _ _ _ _ _ _ _
  first|exact hown2|(rw[V4,WN]at hown2;exact hown2)
 have hne:some w.heap.size≠Value.ownBlock (.slice (some ⟨W9.heap.size,0,none⟩) 0 0):=fun e=>by simp[Value.ownBlock]at e;omega
 have hnb:some b≠Value.ownBlock (.slice (some ⟨W9.heap.size,0,none⟩) 0 0):=fun e=>by simp[Value.ownBlock]at e;omega
 have Yt:Hid (wC w2 w.heap.size t):=Yo.out.grown XC hne;have HR2:Hid (dE w2 b off ts):=pF HR1.out XC hb1 hnb;have HB2:Hid (af w w2):=HB1.out.grown XC HB1.out.size (fun g hg=>by simp[Value.ownBlock]at hg;omega);have hz2:W9.heap.size<=w2.heap.size:=VJ hz1 XC.size;clear hown2 XC XA Yo HR1 HB1 hne hnb;obtain⟨x0,x1,x2,x3,x4,x5,xl2⟩:=Yt.out;obtain⟨W3,hW3⟩:∃W3,W3=w2.alloc (.cells #[.string t.a,.string t.b,.string t.r,.string t.c,.string t.d,.string t.s] 29):=⟨_,rfl⟩;have Xm:Hid (W3.ownsRow W9.heap.size 29 6 v2 k (aF (ts.take k))):=by show World.ownsRow _ _ _ _ _ _ _;rw[hW3];exact WV.out.alloc _
 have Ze:Hid (∀j u,t.row[j]?=some u->W3.cell? ((⟨w2.heap.size,0,none⟩:Addr).add j)=some u):=by show ∀j u,_;rw[hW3];exact wL w2 t
 have Zq:=oQ hW3;have HB3:Hid (af w W3):=HB2.out.trans (Zq.out.mono HB2.out.size);have HR3:Hid (dE W3 b off ts):=HR2.out.below Zq.out (Vy hb HB2.out.size);have hz3:W9.heap.size<=W3.heap.size:=VJ hz2 Zq.out.size;have hb3:b<W3.heap.size:=Vy hb HB3.out.size;clear Zq HB2 HR2 Yt hb1 hz1 hz2;go_wp2_with(at_builtin;rw[<-hW3];clear hW3;refine wpList_append_own_at _ rfl _ _ 25 rfl W9.heap.size 29 iT (.agg #[.string ⟨#[]⟩,.string ⟨#[]⟩,.string ⟨#[]⟩,.string ⟨#[]⟩,.string ⟨#[]⟩,.string ⟨#[]⟩]) 6 96 underlying25 HIT.out.1 HIT.out.2.1 HIT.out.2.2.1 HIT.out.2.2.2 rfl (by decide) v2 k (aF (ts.take k)) rfl Xm.out ⟨w2.heap.size,0,none⟩ 1 1 t.row rfl rfl Ze.out (uY _) (by unfold maxLen;omega) (by omega) hz3 ?_);intro v4 w4 YB Zr _ _;have hnb:some b≠v2.ownBlock:=fun e=>by have:=(WV.out.lt b e.symm).1;omega
 have HR4:Hid (dE w4 b off ts):=pF HR3.out Zr hb3 hnb;have XR:Hid (af w w4):=HB3.out.grown Zr HB3.out.size (fun g hg=>by have:=(WV.out.lt g hg).1;omega);have Xk:=aC YB;have hz4:W9.heap.size<=w4.heap.size:=VJ hz3 Zr.size;clear YB Zr Xm WV Ze HB3 HR3 hb3 hz3 hnb x0 x1 x2 x3 x4 x5 xl2;have hdl:(ts.drop k).length=ts.length-k:=Wq;clear hdl;by_cases hce:cap=k
 all_goals
  go_wp2_with(at_builtin;refine wpList_append_own_at _ rfl _ _ 25 rfl W9.heap.size 29 iT (.agg #[.string ⟨#[]⟩,.string ⟨#[]⟩,.string ⟨#[]⟩,.string ⟨#[]⟩,.string ⟨#[]⟩,.string ⟨#[]⟩]) 6 96 underlying25 HIT.out.1 HIT.out.2.1 HIT.out.2.2.1 HIT.out.2.2.2 rfl (by decide) v4 (k+1) (aF (ts.take k)++t.row) rfl Xk.out _ (ts.length-k) _ (aF (ts.drop k)) rfl (by rw[fu,Wq]) (LY (by omega) _ _) (jX _) (by unfold maxLen;omega) (by omega) hz4 ?_);intro v5 w5 hown5 hgr5 _ _;have Yd:Hid (af w w5):=XR.out.grown hgr5 XR.out.size (fun g hg=>by have:=(Xk.out.lt g hg).1;omega);have hlp:(jV ts t).length=k+1+(ts.length-k):=by rw[HP.out];simp;omega
  have hown6:w5.ownsRow W9.heap.size 29 6 v5 (jV ts t).length (aF (jV ts t)):=by
   rw[hlp,HP.out,show ts.take k++t::ts.drop k=(ts.take k++[t])++ts.drop k by simp,pE,tY];first|exact hown5|(rw[V8];exact hown5)
  have XD:=fe (lG hown6 (WS hWs));clear hown5 hown6 hgr5 hlp;go_wp2;go_ret;exact⟨v5,rfl,XD.out,Yd.out⟩
def aQ(fit:Tp->Bool)(ts:Q05)(k:Int)(t:Tp):Int :=
  if (k=1\/k=2)/\t.ok=true then
    (if k=2 then (if iL ts t then 0 else 5)
     else if fit t then (if iL ts t then 4 else if 40<=ts.length then 6 else 0) else 3)
  else 2
def bn(ts:Q05)(k:Int)(t:Tp):List Tp:=if k=2 then dY ts t else jV ts t
theorem lN{fit:Tp->Bool}{ts:Q05}{k:Int}{t:Tp}(h:¬((k=1\/k=2)/\t.ok=true)):aQ fit ts k t=2:=by unfold aQ;rw[if_neg h]
theorem r9{fit:Tp->Bool}{ts:Q05}{t:Tp}(ht:t.ok=true):aQ fit ts 2 t=if iL ts t then 0 else 5:=by unfold aQ;rw[if_pos ⟨.inr rfl,ht⟩,if_pos rfl]
theorem oF{fit:Tp->Bool}{ts:Q05}{t:Tp}(ht:t.ok=true):aQ fit ts 1 t=if fit t then (if iL ts t then 4 else if 40<=ts.length then 6 else 0) else 3:=by unfold aQ;rw[if_pos ⟨.inl rfl,ht⟩,if_neg (by decide)]
theorem wY{fit:Tp->Bool}{ts:Q05}{k:Int}{t:Tp}(h:aQ fit ts k t=0):t.ok=true/\((k=2/\t∈ts)\/(k=1/\fit t=true/\t ∉ ts/\ts.length<40)):=by
 by_cases hf:(k=1\/k=2)/\t.ok=true
 ·refine⟨hf.2,?_⟩;rcases hf.1 with rfl|rfl
  ·rw[oF hf.2]at h;cases h1:fit t;case false=>rw[h1]at h;simp at h
   rw[h1]at h;cases h2:iL ts t;case true=>rw[h2]at h;simp at h
   rw[h2]at h;by_cases h3:40<=ts.length
   ·rw[if_pos h3]at h;simp at h
   exact .inr ⟨rfl,rfl,fun hm=>absurd (Gf.2 hm) (by rw[h2];decide),by omega⟩
  rw[r9 hf.2]at h;cases h2:iL ts t;case true=>exact .inl ⟨rfl,Gf.1 h2⟩
  rw[h2]at h;simp at h
 rw[lN hf]at h;cases h
theorem A9(ts:Q05)(t:Tp):(jV ts t).length=ts.length+1:=by
 induction ts with
 | nil=>rfl
 | cons x xs ih =>
  unfold jV;cases x.ahead t;case true=>simp only[if_true,We,ih]
  simp
theorem pJ{fit:Tp->Bool}{ts:Q05}{k:Int}{t:Tp}(hu:Up ts)(hok:∀x∈ts,x.ok=true)(hl:ts.length<=40)(h:aQ fit ts k t=0):
  Up (bn ts k t)/\(∀x∈bn ts k t,x.ok=true)/\(bn ts k t).length<=40:=by
 obtain⟨ht,⟨rfl,hm⟩|⟨rfl,hf,hn,hlt⟩⟩:=wY h
 ·unfold bn;rw[if_pos rfl];exact⟨Gd t hu,fun x hx=>hok x ((lJ ts t x).1 hx).1,VJ (List.length_filter_le _ _) hl⟩
 unfold bn;rw[if_neg (by decide)];refine⟨Rp hu hok ht hn,fun x hx=>?_,by rw[A9];omega⟩;rcases (mo ts t x).1 hx with rfl|h1
 ·exact ht
 exact hok x h1
theorem ME{fit:Tp->Bool}{ts:Q05}{k:Int}{t:Tp}(hf:∀x∈ts,fit x=true)(h:aQ fit ts k t=0):∀x∈bn ts k t,fit x=true:=by
 obtain⟨ht,⟨rfl,hm⟩|⟨rfl,hft,hn,hlt⟩⟩:=wY h
 ·unfold bn;rw[if_pos rfl];exact fun x hx=>hf x ((lJ ts t x).1 hx).1
 unfold bn;rw[if_neg (by decide)];intro x hx;rcases (mo ts t x).1 hx with rfl|h1
 ·exact hft
 exact hf x h1
structure LowT(ts:Q05)(t:Tp)(n:Nat):Prop where
 le:n<=ts.length
 low:∀i (h:i<ts.length),i<n->ts[i].ahead t=true
 high:∀i (h:i<ts.length),n<=i->ts[i].ahead t=false
theorem Pm{ts:Q05}(hu:Up ts){i j:Nat}(hi:i<ts.length)(hj:j<ts.length)(hij:i<j):ts[i].ahead ts[j]=true:=(List.pairwise_iff_getElem.1 hu) i j hi hj hij
theorem Pn{ts:Q05}{t:Tp}(hu:Up ts){m:Nat}(hm:m<ts.length)(h:ts[m].ahead t=true):∀i (hi:i<ts.length),i<m+1->ts[i].ahead t=true:=fun i hi him=>by
 by_cases e:i=m
 ·subst e;exact h
 exact kF (Pm hu hi hm (by omega)) h
theorem MF{ts:Q05}{t:Tp}(hu:Up ts){m:Nat}(hm:m<ts.length)(h:ts[m].ahead t=false):∀i (hi:i<ts.length),m<=i->ts[i].ahead t=false:=fun i hi him=>by
 by_cases e:i=m
 ·subst e;exact h
 cases hc:ts[i].ahead t;case false=>rfl
 rw[kF (Pm hu hm hi (by omega)) hc]at h;cases h
theorem RG{ts:Q05}{t:Tp}{n:Nat}(h:LowT ts t n):jV ts t=ts.take n++t::ts.drop n :=
 Es ts t n h.le h.low fun hn=>h.high n hn (VC _)
theorem Po{ts:Q05}{t:Tp}{n:Nat}(h:LowT ts t n)(hu:Up ts)(hm:t∈ts):∃hn:n<ts.length,ts[n]=t:=by
 obtain⟨i,hi,e⟩:=WR hm;have h1:¬i<n:=fun hl=>by
  have:=h.low i hi hl;rw[e,jE]at this;cases this
 refine⟨by omega,?_⟩;by_cases e2:n=i
 ·subst e2;exact e
 have h2:=Pm hu (i:=n) (j:=i) (by omega) hi (by omega);rw[e,h.high n (by omega) (VC _)]at h2;cases h2
theorem Pp{ts:Q05}{t:Tp}{n:Nat}(h:LowT ts t n)(hu:Up ts)(hm:t∈ts):dY ts t=ts.take n++ts.drop (n+1):=by
 obtain⟨hn,e⟩:=Po h hu hm;refine TN (Gd t hu) ?_ fun x=>?_
 ·have:(ts.take n++ts.drop (n+1)).Sublist ts:=by
   conv=>rhs;rw[<-List.take_append_drop n ts]
   exact(List.Sublist.refl _).append (List.drop_sublist_drop_left ts (by omega))
  exact List.Pairwise.sublist this hu
 rw[lJ];have hsp:ts=ts.take n++t::ts.drop (n+1):=by rw[<-e,<-V5 hn,List.take_append_drop]
 have hnd:t ∉ ts.take n/\t ∉ ts.drop (n+1):=by
  have hu2:=hu;rw[hsp]at hu2;have hp:=List.pairwise_append.1 hu2;have hp2:=List.pairwise_cons.1 hp.2.1;refine⟨fun hx=>?_,fun hx=>?_⟩
  ·have:=hp.2.2 t hx t (by simp);rw[jE]at this;cases this
  have:=hp2.1 t hx;rw[jE]at this;cases this
 constructor
 ·rintro⟨h1,h2⟩;rw[hsp]at h1;rcases VL.1 h1 with h3|h3
  ·exact VL.2 (.inl h3)
  rcases VU.1 h3 with h4|h4
  ·exact absurd h4 h2
  exact VL.2 (.inr h4)
 intro h1;rcases VL.1 h1 with h3|h3
 ·exact⟨List.mem_of_mem_take h3,fun e=>hnd.1 (e ▸ h3)⟩
 exact⟨List.mem_of_mem_drop h3,fun e=>hnd.2 (e ▸ h3)⟩
def jd(fit:Tp->Bool):List Tp->List (Int×Tp)->Option (List Tp)
 | ts,[]=>some ts
 | ts,c::cs=>if aQ fit ts c.1 c.2=0 then jd fit (bn ts c.1 c.2) cs else none
theorem GG{fit:Tp->Bool}{cs:List (Int×Tp)}{ts:Q05}{i n:Nat}(hi:i<cs.length)(hin:i<n):jd fit ts ((cs.take n).drop i)=if aQ fit ts cs[i].1 cs[i].2=0 then jd fit (bn ts cs[i].1 cs[i].2) ((cs.take n).drop (i+1)) else none:=by
 have h:i<(cs.take n).length:=by rw[V9];omega
 rw[V5 h,List.getElem_take];rfl
set_option maxRecDepth 100000
theorem Dm(x y:Tp):nM x y=nM y x:=by
 rw[VV,mh,mh];exact⟨Eq.symm,Eq.symm⟩
theorem MG{ts:Q05}{t:Tp}{k:Nat}(h:k<ts.length):iL (ts.take (k+1)) t=(iL (ts.take k) t || nM ts[k] t):=by
 rw[VE h];unfold iL;rw[List.any_append];simp only[WT,List.any_nil,Bool.or_false]
theorem Pq{ts:Q05}{t:Tp}{k:Nat}(h:k<ts.length)(he:nM ts[k] t=true):iL ts t=true:=WG.2 ⟨ts[k],Vz h,he⟩
theorem JE(ad:Q02)(cap:Nat)(ts:Q05)(t:Tp)(w:ae)(hlen:ts.length<=1048576)(hs:Sl w ad ts):
  Calls prog 198 #[.slice ad ts.length cap,.agg #[.string t.a,.string t.b,.string t.r,.string t.c,.string t.d,.string t.s]] w fun e w'=>(∃r:Int,e=.returned (.int .i64 r)/\decide (0<=r)=iL ts t)/\af w w':=by
 obtain⟨W,hW⟩:∃W,W=w.alloc (.cells #[.string t.a,.string t.b,.string t.r,.string t.c,.string t.d,.string t.s] 29):=⟨_,rfl⟩;have HB0:Hid (af w W):=by show Below _ _ _;rw[hW];exact(VD w.heap.size w).alloc (VC _) _
 have hz:w.heap.size<W.heap.size:=by rw[hW];simp
 have b0:W.cell? ⟨w.heap.size,0,none⟩=some (.string t.a):=by rw[hW];simp
 have b1:W.cell? ⟨w.heap.size,1,none⟩=some (.string t.b):=by rw[hW];simp
 have b2:W.cell? ⟨w.heap.size,2,none⟩=some (.string t.r):=by rw[hW];simp
 have b3:W.cell? ⟨w.heap.size,3,none⟩=some (.string t.c):=by rw[hW];simp
 have b4:W.cell? ⟨w.heap.size,4,none⟩=some (.string t.d):=by rw[hW];simp
 have b5:W.cell? ⟨w.heap.size,5,none⟩=some (.string t.s):=by rw[hW];simp
 have HS:=aC (hs.below HB0.out);clear hs;go_enter func198,ntmps198;go_wp2_with fail;rw[<-hW];clear hW;go_loopw[8] (fun i wr=>∃k:Nat,k<=ts.length/\i=.int .i64 k/\Hid (iL (ts.take k) t=false)/\af W wr) (fun i _=>ts.length-(intOf i).toNat);case atStart=>exact⟨0,VG _,rfl,rfl,VD _ _⟩
 obtain⟨k,hk,rfl,HP,hB⟩:=hrel;have a0:=bP hB hz b0;have a1:=bP hB hz b1;have a2:=bP hB hz b2;have a3:=bP hB hz b3;have a4:=bP hB hz b4;have a5:=bP hB hz b5;by_cases hlt:k<ts.length
 ·rcases HS.out.below hB with hnil|⟨b,off,rfl,hb,hr⟩
  ·rw[hnil]at hlt;simp at hlt
  obtain⟨t0,t1,t2,t3,t4,t5⟩:=hr k hlt;have hk1:=bq k;have hk2:(k:Int)<(ts.length:Int):=by omega
  clear hr;cases hq:nM t ts[k];case true=>
   have HE:=En t ts[k] hq;have HN:Hid (iL ts t=true):=Pq hlt (by rw[Dm];exact hq);go_wp2_with fail;go_quiet (fail);go_wp2;go_ret;exact⟨⟨_,rfl,by rw[HN.out];simp⟩,HB0.out.trans (below_drewN (hB.mono HB0.out.size) _)⟩
  have HE:=En t ts[k] hq;have Xa:Hid (iL (ts.take (k+1)) t=false):=by show _=_;rw[MG hlt,HP.out,Dm,hq];rfl
  go_wp2_with fail;go_quiet (fail);go_wp2;go_roundw;case rel=>exact⟨k+1,by omega,by go_num,Xa,below_drewN hB _⟩
  simp[intOf]<;>omega
 obtain rfl:k=ts.length:=by omega
 have HN:Hid (iL ts t=false):=by have:=HP.out;rw[VP]at this;exact this
 go_wp2;go_ret;exact⟨⟨-1,rfl,by rw[HN.out];rfl⟩,HB0.out.trans (hB.mono HB0.out.size)⟩
theorem BZ(ad:Q02)(cap:Nat)(ts:Q05)(t:Tp)(w:ae)(hlen:ts.length<=1048576)(hs:Sl w ad ts):
  Calls prog 154 #[.slice ad ts.length cap,.agg #[.string t.a,.string t.b,.string t.r,.string t.c,.string t.d,.string t.s]] w fun e w'=>e=.returned (.bool (iL ts t))/\af w w':=by
 have HB0:Hid (af w (w.alloc (.cells #[.string t.a,.string t.b,.string t.r,.string t.c,.string t.d,.string t.s] 29))):=(VD w.heap.size w).alloc (VC _) _;have HS:=ax hs;clear hs;go_enter func154,ntmps154;go_wp2_with fail;refine(JE ad cap ts t _ hlen (HS.out.below HB0.out)).mono ?_;rintro e w1 ⟨⟨r,rfl,hr⟩,hb1⟩;have HR:=ax hr;have HB1:=ax (HB0.out.trans (hb1.mono HB0.out.size));clear hr hb1;go_wp2;go_ret;exact⟨ah HR.out,HB1.out⟩
set_option linter.unusedVariables false
def KS(x t:Tp):Int:=F7 x.a x.b x.r x.c x.d x.s t.a t.b t.r t.c t.d t.s
theorem MH{x t:Tp}(hx:x.ok=true)(ht:t.ok=true):x.ahead t=decide (KS x t<0):=Ac hx ht
theorem Dn(x t:Tp)(w:ae)(hx:x.fits)(ht:t.fits):
  Calls prog 86 #[.agg #[.string x.a,.string x.b,.string x.r,.string x.c,.string x.d,.string x.s],.agg #[.string t.a,.string t.b,.string t.r,.string t.c,.string t.d,.string t.s]] w fun e w'=>e=.returned (.int .i64 (KS x t))/\af w w':=by
 obtain⟨f0,f1,f2,f3,f4,f5⟩:=hx;obtain⟨g0,g1,g2,g3,g4,g5⟩:=ht;exact nz _ _ _ _ _ _ _ _ _ _ _ _ w f0 f1 f2 f3 f4 f5 g0 g1 g2 g3 g4 g5
theorem EL{w W w':ae}{n m p:Nat}{x0 x1 x2 x3 x4 x5 y0 y1 y2 y3 y4 y5:Value}(h:W.cell? ⟨n,p,none⟩=some x0/\W.cell? ⟨n,p+1,none⟩=some x1/\W.cell? ⟨n,p+2,none⟩=some x2/\W.cell? ⟨n,p+3,none⟩=some x3/\W.cell? ⟨n,p+4,none⟩=some x4/\W.cell? ⟨n,p+5,none⟩=some x5/\W.cell? ⟨m,0,none⟩=some y0/\W.cell? ⟨m,1,none⟩=some y1/\W.cell? ⟨m,2,none⟩=some y2/\W.cell? ⟨m,3,none⟩=some y3/\W.cell? ⟨m,4,none⟩=some y4/\W.cell? ⟨m,5,none⟩=some y5/\n<W.heap.size/\m<W.heap.size/\af w W)(hb:af W w'):w'.cell? ⟨n,p,none⟩=some x0/\w'.cell? ⟨n,p+1,none⟩=some x1/\w'.cell? ⟨n,p+2,none⟩=some x2/\w'.cell? ⟨n,p+3,none⟩=some x3/\w'.cell? ⟨n,p+4,none⟩=some x4/\w'.cell? ⟨n,p+5,none⟩=some x5/\w'.cell? ⟨m,0,none⟩=some y0/\w'.cell? ⟨m,1,none⟩=some y1/\w'.cell? ⟨m,2,none⟩=some y2/\w'.cell? ⟨m,3,none⟩=some y3/\w'.cell? ⟨m,4,none⟩=some y4/\w'.cell? ⟨m,5,none⟩=some y5/\n<w'.heap.size/\m<w'.heap.size/\af w w':=by
 obtain⟨h0,h1,h2,h3,h4,h5,g0,g1,g2,g3,g4,g5,hn,hm,hB⟩:=h;have hc:∀o,w'.cell? ⟨n,o,none⟩=W.cell? ⟨n,o,none⟩:=fun o=>hb.cell (p:=⟨n,o,none⟩) hn;have hd:∀o,w'.cell? ⟨m,o,none⟩=W.cell? ⟨m,o,none⟩:=fun o=>hb.cell (p:=⟨m,o,none⟩) hm;exact⟨(hc _).trans h0,(hc _).trans h1,(hc _).trans h2,(hc _).trans h3,(hc _).trans h4,(hc _).trans h5,(hd _).trans g0,(hd _).trans g1,(hd _).trans g2,(hd _).trans g3,(hd _).trans g4,(hd _).trans g5,Vy hn hb.size,Vy hm hb.size,hB.trans (hb.mono hB.size)⟩
theorem GH(ad:Q02)(cap:Nat)(ts:Q05)(t:Tp)(w:ae)(hlen:ts.length<=1048576)(hs:Sl w ad ts)(hf:∀x∈ts,x.fits)(htf:t.fits)(hu:Up ts)(hok:∀x∈ts,x.ok=true)(ht:t.ok=true):
  Calls prog 94 #[.slice ad ts.length cap,.agg #[.string t.a,.string t.b,.string t.r,.string t.c,.string t.d,.string t.s],.func (.func 86) #[] #[]] w fun e w'=>(∃(n:Nat) (q:Bool),e=.returned (.tuple #[.int .i64 n,.bool q])/\LowT ts t n)/\af w w':=by
 have HS:=ax hs;have HF:=ax hf;have HU:=ax hu;have XK:=ax hok;clear hs hf hu hok;obtain⟨W,hW⟩:∃W,W=w.alloc (.cells #[.string t.a,.string t.b,.string t.r,.string t.c,.string t.d,.string t.s] 29):=⟨_,rfl⟩;have HB0:Hid (af w W):=by show Below _ _ _;rw[hW];exact(VD w.heap.size w).alloc (VC _) _
 have HX0:Hid (wC W w.heap.size t):=by show wC _ _ _;rw[hW];exact Et w t _
 go_enter func94,ntmps94;go_wp2_with fail;rw[<-hW];clear hW;go_loopw[9,10] (fun a b wr=>∃lo hi:Nat,a=.int .i64 lo/\b=.int .i64 hi/\lo<=hi/\hi<=ts.length/\Hid (af W wr)/\Hid ((∀i (h:i<ts.length),i<lo->ts[i].ahead t=true)/\∀i (h:i<ts.length),hi<=i->ts[i].ahead t=false)) (fun a b _=>(intOf b).toNat-(intOf a).toNat);case atStart=>exact⟨0,ts.length,rfl,rfl,VG _,VC _,VD _ _,fun i h hl=>absurd hl (WJ _),fun i h hl=>by omega⟩
 obtain⟨lo,hi,rfl,rfl,hlh,hin,HB,HI⟩:=hrel;have WZ:=ax (HB0.out.trans (HB.out.mono HB0.out.size));obtain⟨a0,a1,a2,a3,a4,a5,al⟩:=HX0.out.below HB.out;by_cases hlt:lo<hi
 ·have hm:(lo+hi) / 2<ts.length:=by omega
  rcases HS.out.below WZ.out with hnil|⟨b,off,rfl,hb,hr⟩
  ·rw[hnil]at hm;simp at hm
  obtain⟨m,hmm⟩:∃m,m=(lo+hi) / 2:=⟨_,rfl⟩;rw[<-hmm]at hm;obtain⟨t0,t1,t2,t3,t4,t5⟩:=hr m hm;have HC:=fun W=>ax (Dn ts[m] t W (HF.out _ (Vz hm)) htf);have HA:=ax (MH (XK.out _ (Vz hm)) ht);have hm0:=bq m;have hm1:(m:Int)<(ts.length:Int):=by omega
  have hmi:((lo:Int)+(hi:Int)) / 2=(m:Int):=by omega
  have hlm:lo<=m/\m<hi:=by omega
  clear hr hmm;have H0:Hid ((fun w'=>w'.cell? ⟨b,off+m*6,none⟩=some (.string ts[m].a)/\w'.cell? ⟨b,off+m*6+1,none⟩=some (.string ts[m].b)/\w'.cell? ⟨b,off+m*6+2,none⟩=some (.string ts[m].r)/\w'.cell? ⟨b,off+m*6+3,none⟩=some (.string ts[m].c)/\w'.cell? ⟨b,off+m*6+4,none⟩=some (.string ts[m].d)/\w'.cell? ⟨b,off+m*6+5,none⟩=some (.string ts[m].s)/\w'.cell? ⟨w.heap.size,0,none⟩=some (.string t.a)/\w'.cell? ⟨w.heap.size,1,none⟩=some (.string t.b)/\w'.cell? ⟨w.heap.size,2,none⟩=some (.string t.r)/\w'.cell? ⟨w.heap.size,3,none⟩=some (.string t.c)/\w'.cell? ⟨w.heap.size,4,none⟩=some (.string t.d)/\w'.cell? ⟨w.heap.size,5,none⟩=some (.string t.s)/\b<w'.heap.size/\w.heap.size<w'.heap.size/\af W w') wr.drew):=⟨t0,t1,t2,t3,t4,t5,a0,a1,a2,a3,a4,a5,hb,al,HB.out.drew⟩;clear t0 t1 t2 t3 t4 t5 a0 a1 a2 a3 a4 a5 al;by_cases hc:KS ts[m] t<0
  ·go_wp2_with fail
   go_region_held3 (fun w'=>w'.cell? ⟨b,off+m*6,none⟩=some (.string ts[m].a)/\w'.cell? ⟨b,off+m*6+1,none⟩=some (.string ts[m].b)/\w'.cell? ⟨b,off+m*6+2,none⟩=some (.string ts[m].r)/\w'.cell? ⟨b,off+m*6+3,none⟩=some (.string ts[m].c)/\w'.cell? ⟨b,off+m*6+4,none⟩=some (.string ts[m].d)/\w'.cell? ⟨b,off+m*6+5,none⟩=some (.string ts[m].s)/\w'.cell? ⟨w.heap.size,0,none⟩=some (.string t.a)/\w'.cell? ⟨w.heap.size,1,none⟩=some (.string t.b)/\w'.cell? ⟨w.heap.size,2,none⟩=some (.string t.r)/\w'.cell? ⟨w.heap.size,3,none⟩=some (.string t.c)/\w'.cell? ⟨w.heap.size,4,none⟩=some (.string t.d)/\w'.cell? ⟨w.heap.size,5,none⟩=some (.string t.s)/\b<w'.heap.size/\w.heap.size<w'.heap.size/\af W w')
    (first|assumption|exact EL (by assumption) hbx|exact H0.out)
    (first|(go_at_call 86;refine(HC _).out.mono ?_;rintro e w' ⟨rfl,hbx⟩))
   rename_i hH;have HBN:=ax hH.2.2.2.2.2.2.2.2.2.2.2.2.2.2;have HIN:Hid ((∀i (h:i<ts.length),i<m+1->ts[i].ahead t=true)/\∀i (h:i<ts.length),hi<=i->ts[i].ahead t=false):=⟨Pn HU.out hm (by rw[HA.out];exact decide_eq_true hc),HI.out.2⟩;clear hH;go_wp2;go_roundw;case rel=>exact⟨m+1,hi,by go_num,rfl,by omega,hin,HBN,HIN⟩
   simp[intOf];omega
  go_wp2_with fail
  go_region_held3 (fun w'=>w'.cell? ⟨b,off+m*6,none⟩=some (.string ts[m].a)/\w'.cell? ⟨b,off+m*6+1,none⟩=some (.string ts[m].b)/\w'.cell? ⟨b,off+m*6+2,none⟩=some (.string ts[m].r)/\w'.cell? ⟨b,off+m*6+3,none⟩=some (.string ts[m].c)/\w'.cell? ⟨b,off+m*6+4,none⟩=some (.string ts[m].d)/\w'.cell? ⟨b,off+m*6+5,none⟩=some (.string ts[m].s)/\w'.cell? ⟨w.heap.size,0,none⟩=some (.string t.a)/\w'.cell? ⟨w.heap.size,1,none⟩=some (.string t.b)/\w'.cell? ⟨w.heap.size,2,none⟩=some (.string t.r)/\w'.cell? ⟨w.heap.size,3,none⟩=some (.string t.c)/\w'.cell? ⟨w.heap.size,4,none⟩=some (.string t.d)/\w'.cell? ⟨w.heap.size,5,none⟩=some (.string t.s)/\b<w'.heap.size/\w.heap.size<w'.heap.size/\af W w')
   (first|assumption|exact EL (by assumption) hbx|exact H0.out)
   (first|(go_at_call 86;refine(HC _).out.mono ?_;rintro e w' ⟨rfl,hbx⟩))
  rename_i hH;have HBN:=ax hH.2.2.2.2.2.2.2.2.2.2.2.2.2.2;have HIN:Hid ((∀i (h:i<ts.length),i<lo->ts[i].ahead t=true)/\∀i (h:i<ts.length),m<=i->ts[i].ahead t=false):=⟨HI.out.1,MF HU.out hm (by rw[HA.out];exact decide_eq_false (by omega))⟩;clear hH;go_wp2;go_roundw;case rel=>exact⟨lo,m,rfl,by go_num,by omega,by omega,HBN,HIN⟩
  simp[intOf];omega
 obtain rfl:hi=lo:=by omega
 have HLOW:Hid (LowT ts t hi):=⟨hin,HI.out.1,HI.out.2⟩;by_cases hlt2:hi<ts.length
 ·rcases HS.out.below WZ.out with hnil|⟨b,off,rfl,hb,hr⟩
  ·rw[hnil]at hlt2;simp at hlt2
  obtain⟨t0,t1,t2,t3,t4,t5⟩:=hr hi hlt2;have HC:=fun W=>ax (Dn ts[hi] t W (HF.out _ (Vz hlt2)) htf);have hm0:=bq hi;have hm1:(hi:Int)<(ts.length:Int):=by omega
  have hd:decide ((hi:Int)<(ts.length:Int))=true:=decide_eq_true hm1;have hdh:decide ((hi:Int)<(hi:Int))=false:=by simp
  clear hr;have H0:Hid ((fun w'=>w'.cell? ⟨b,off+hi*6,none⟩=some (.string ts[hi].a)/\w'.cell? ⟨b,off+hi*6+1,none⟩=some (.string ts[hi].b)/\w'.cell? ⟨b,off+hi*6+2,none⟩=some (.string ts[hi].r)/\w'.cell? ⟨b,off+hi*6+3,none⟩=some (.string ts[hi].c)/\w'.cell? ⟨b,off+hi*6+4,none⟩=some (.string ts[hi].d)/\w'.cell? ⟨b,off+hi*6+5,none⟩=some (.string ts[hi].s)/\w'.cell? ⟨w.heap.size,0,none⟩=some (.string t.a)/\w'.cell? ⟨w.heap.size,1,none⟩=some (.string t.b)/\w'.cell? ⟨w.heap.size,2,none⟩=some (.string t.r)/\w'.cell? ⟨w.heap.size,3,none⟩=some (.string t.c)/\w'.cell? ⟨w.heap.size,4,none⟩=some (.string t.d)/\w'.cell? ⟨w.heap.size,5,none⟩=some (.string t.s)/\b<w'.heap.size/\w.heap.size<w'.heap.size/\af W w') wr.drew):=⟨t0,t1,t2,t3,t4,t5,a0,a1,a2,a3,a4,a5,hb,al,HB.out.drew⟩;clear t0 t1 t2 t3 t4 t5 a0 a1 a2 a3 a4 a5 al;go_wp2_with fail
  go_region_held3 (fun w'=>w'.cell? ⟨b,off+hi*6,none⟩=some (.string ts[hi].a)/\w'.cell? ⟨b,off+hi*6+1,none⟩=some (.string ts[hi].b)/\w'.cell? ⟨b,off+hi*6+2,none⟩=some (.string ts[hi].r)/\w'.cell? ⟨b,off+hi*6+3,none⟩=some (.string ts[hi].c)/\w'.cell? ⟨b,off+hi*6+4,none⟩=some (.string ts[hi].d)/\w'.cell? ⟨b,off+hi*6+5,none⟩=some (.string ts[hi].s)/\w'.cell? ⟨w.heap.size,0,none⟩=some (.string t.a)/\w'.cell? ⟨w.heap.size,1,none⟩=some (.string t.b)/\w'.cell? ⟨w.heap.size,2,none⟩=some (.string t.r)/\w'.cell? ⟨w.heap.size,3,none⟩=some (.string t.c)/\w'.cell? ⟨w.heap.size,4,none⟩=some (.string t.d)/\w'.cell? ⟨w.heap.size,5,none⟩=some (.string t.s)/\b<w'.heap.size/\w.heap.size<w'.heap.size/\af W w')
   (first|assumption|exact EL (by assumption) hbx|exact H0.out)
   (first|(go_at_call 86;refine(HC _).out.mono ?_;rintro e w' ⟨rfl,hbx⟩))
  rename_i hH;have HBN:=ax hH.2.2.2.2.2.2.2.2.2.2.2.2.2.2;go_wp2;exact bodyPost_ret (v:=.tuple #[.int .i64 hi,.bool (KS ts[hi] t==0)]) (by simp[results,Tryz.results94,go_sem]) rfl ⟨⟨hi,_,rfl,HLOW.out⟩,HB0.out.trans (HBN.out.mono HB0.out.size)⟩
 have hd:decide ((hi:Int)<(ts.length:Int))=false:=by simp;omega
 have hdh:decide ((hi:Int)<(hi:Int))=false:=by simp
 go_wp2_with fail;go_quiet (fail);go_wp2;exact bodyPost_ret (v:=.tuple #[.int .i64 hi,.bool false]) (by simp[results,Tryz.results94,go_sem]) rfl ⟨⟨hi,_,rfl,HLOW.out⟩,HB0.out.trans (below_drewN (HB.out.mono HB0.out.size) _)⟩
theorem ay{p:Prop}(h:p):Hid p:=h
def mI(fit:Tp->Bool)(ts:Q05)(k:Int)(t:Tp):List Tp:=if aQ fit ts k t=0 then bn ts k t else ts
def nN(w:World)(n:Nat)(k:Int)(t:Tp):Prop:=w.cell? ⟨n,0,none⟩=some (.int .i64 k)/\w.cell? ⟨n,1,none⟩=some (.string t.a)/\w.cell? ⟨n,2,none⟩=some (.string t.b)/\w.cell? ⟨n,3,none⟩=some (.string t.r)/\w.cell? ⟨n,4,none⟩=some (.string t.c)/\w.cell? ⟨n,5,none⟩=some (.string t.d)/\w.cell? ⟨n,6,none⟩=some (.string t.s)/\n<w.heap.size
theorem nN.below{w w':ae}{n:Nat}{k:Int}{t:Tp}(h:nN w n k t)(hb:af w w'):nN w' n k t:=by
 obtain⟨h0,h1,h2,h3,h4,h5,h6,hl⟩:=h;exact⟨(hb.cell (p:=⟨n,0,none⟩) hl).trans h0,(hb.cell (p:=⟨n,1,none⟩) hl).trans h1,(hb.cell (p:=⟨n,2,none⟩) hl).trans h2,(hb.cell (p:=⟨n,3,none⟩) hl).trans h3,(hb.cell (p:=⟨n,4,none⟩) hl).trans h4,(hb.cell (p:=⟨n,5,none⟩) hl).trans h5,(hb.cell (p:=⟨n,6,none⟩) hl).trans h6,Vy hl hb.size⟩
theorem fT{w:ae}{base base':Nat}{e:TypeId}{size:Nat}{v:Value}{n:Nat}{xs:Q03}(h:w.ownsRow base e size v n xs)(hb:base'<=base):w.ownsRow base' e size v n xs:=by
 refine⟨h.1,?_⟩;rcases h.2 with h0|⟨g,cap,cur,e1,h1,h2⟩
 ·exact .inl h0
 exact .inr ⟨g,cap,cur,e1,VJ hb h1,h2⟩
theorem GI{w:ae}{base:Nat}{e:TypeId}{size:Nat}{v:Value}{n:Nat}{xs:Q03}(h:w.ownsRow base e size v n xs){g:Nat}(hg:v.ownBlock=some g):∃g c,v=.slice (some ⟨g,0,none⟩) n c:=by
 rcases h.2 with⟨e1,h0⟩|⟨g,cap,cur,rfl,-⟩
 ·rw[e1]at hg;cases hg
 exact⟨g,cap,rfl⟩
theorem nN.grown{w w':ae}{n:Nat}{k:Int}{t:Tp}{o:Option Nat}(h:nN w n k t)(hg:w.grownBy w' o)(hne:o≠some n):nN w' n k t:=by
 obtain⟨h0,h1,h2,h3,h4,h5,h6,hl⟩:=h;have hs:w'.heap[n]?=w.heap[n]?:=hg.block n hl (Ne.symm hne);exact⟨(VR (w:=w) (a:=⟨n,0,none⟩) hs).trans h0,(VR (w:=w) (a:=⟨n,1,none⟩) hs).trans h1,(VR (w:=w) (a:=⟨n,2,none⟩) hs).trans h2,(VR (w:=w) (a:=⟨n,3,none⟩) hs).trans h3,(VR (w:=w) (a:=⟨n,4,none⟩) hs).trans h4,(VR (w:=w) (a:=⟨n,5,none⟩) hs).trans h5,(VR (w:=w) (a:=⟨n,6,none⟩) hs).trans h6,Vy hl hg.size⟩
def SY(w:World)(fit:Tp->Bool)(ts:Q05)(k:Int)(t:Tp)(e:Ending)(w':World):Prop :=
 ∃g c,e=.returned (.tuple #[.slice (some ⟨g,0,none⟩) (mI fit ts k t).length c,.int .i64 (aQ fit ts k t)])/\w'.ownsRow w.heap.size 29 6 (.slice (some ⟨g,0,none⟩) (mI fit ts k t).length c) (mI fit ts k t).length (aF (mI fit ts k t))/\af w w'
theorem yf{w w':ae}{fit:Tp->Bool}{ts:Q05}{k:Int}{t:Tp}{g c n:Nat}{L:Q05}{z:Int}(hz:aQ fit ts k t=z)(hL:mI fit ts k t=L)(hn:n=L.length)(ho:w'.ownsRow w.heap.size 29 6 (.slice (some ⟨g,0,none⟩) L.length c) L.length (aF L))(hb:af w w'):SY w fit ts k t (.returned (.tuple #[.slice (some ⟨g,0,none⟩) n c,.int .i64 z])) w':=by
 subst hz;subst hL;subst hn;exact⟨g,c,rfl,ho,hb⟩
theorem pK{fit:Tp->Bool}{ts:Q05}{k:Int}{t:Tp}{z:Int}(h:aQ fit ts k t=z)(hz:z≠0):mI fit ts k t=ts:=by unfold mI;rw[if_neg (by rw[h];exact hz)]
theorem qX{fit:Tp->Bool}{ts:Q05}{k:Int}{t:Tp}(h:aQ fit ts k t=0):mI fit ts k t=bn ts k t:=by unfold mI;rw[if_pos h]
theorem sU(sv:Value)(fit:Tp->Bool)(b off cap:Nat)(ts:Q05)(k:Int)(t:Tp)(w:ae)(hfit:∀w1:World,af w w1->Calls prog 110 #[sv,.agg #[.string t.a,.string t.b,.string t.r,.string t.c,.string t.d,.string t.s]] w1 fun e w'=>e=.returned (.bool (fit t))/\af w1 w')(hts:ts.length<=40)(hcap:ts.length<=cap)(hrow:dE w b off ts)(hb:b<w.heap.size)(hf:∀x∈ts,x.fits)(ht:t.fits):
  Calls prog 69 #[sv,.slice (some ⟨b,off,none⟩) ts.length cap,.agg #[.int .i64 k,.string t.a,.string t.b,.string t.r,.string t.c,.string t.d,.string t.s]] w (SY w fit ts k t):=by
 obtain⟨iT,hiT,zT0,zT1,zT2⟩:=info_parts (P:=prog) (e:=29) (z:=.agg #[.string ⟨#[]⟩,.string ⟨#[]⟩,.string ⟨#[]⟩,.string ⟨#[]⟩,.string ⟨#[]⟩,.string ⟨#[]⟩]) (size:=6) (bytes:=96) (by kernel_rfl);have HIT:Hid (prog.info? 29=some iT/\iT.zero=some (.agg #[.string ⟨#[]⟩,.string ⟨#[]⟩,.string ⟨#[]⟩,.string ⟨#[]⟩,.string ⟨#[]⟩,.string ⟨#[]⟩])/\iT.size=6/\iT.bytes=96):=⟨hiT,zT0,zT1,zT2⟩;have Xd:=ay hfit;have HR:=ay hrow;have HF:=ay hf;have HT:=ay ht;clear hfit hrow hf ht hiT zT0 zT1 zT2;obtain⟨W0,hW0⟩:∃W0,W0=w.alloc (.cells #[.int .i64 k,.string t.a,.string t.b,.string t.r,.string t.c,.string t.d,.string t.s] 31):=⟨_,rfl⟩;obtain⟨W1,hW1⟩:∃W1,W1=W0.alloc (.cells #[] 29):=⟨_,rfl⟩;have HX0:Hid (nN W0 w.heap.size k t):=by show nN _ _ _ _;rw[hW0];refine⟨?_,?_,?_,?_,?_,?_,?_,?_⟩<;>simp
 have HB0:=oQ hW0;have HB01:=oQ hW1;have HB1:Hid (af w W1):=HB0.out.trans (HB01.out.mono HB0.out.size);have Yo:=aC (HX0.out.below HB01.out);have XA:Hid (W1.ownsRow w.heap.size 29 6 (.slice (some ⟨w.heap.size+1,0,none⟩) 0 0) 0 []):=by
  show World.ownsRow _ _ _ _ _ _ _;rw[hW1,<-show W0.heap.size=w.heap.size+1 by rw[hW0];simp];exact World.ownsRow_lit W0 #[] 0 HB0.out.size (by unfold maxLen;omega) (by simp)
 have hz1:w.heap.size<=W1.heap.size:=HB1.out.size;have HR1:Hid (dE W1 b off ts):=HR.out.below HB1.out hb;go_enter func69,ntmps69;go_wp2_with(at_builtin;rw[<-hW0,<-hW1];clear hW0 hW1;refine wpList_append_own_at _ rfl _ _ 25 rfl w.heap.size 29 iT (.agg #[.string ⟨#[]⟩,.string ⟨#[]⟩,.string ⟨#[]⟩,.string ⟨#[]⟩,.string ⟨#[]⟩,.string ⟨#[]⟩]) 6 96 underlying25 HIT.out.1 HIT.out.2.1 HIT.out.2.2.1 HIT.out.2.2.2 rfl (by decide) _ 0 [] rfl XA.out ⟨b,off,none⟩ ts.length cap (aF ts) rfl (fu ts) (jW HR1.out) (jX _) (by unfold maxLen;omega) (by omega) hz1 ?_);intro v2 w2 hown2 XC _ hat2;have hsome:∃g c,v2=.slice (some ⟨g,0,none⟩) ts.length c:=by
  rcases hat2 with e|e
  ·exact GI hown2 (g:=w.heap.size+1) (by rw[e];rfl)
  exact GI hown2 e
 obtain⟨gO,cO,rfl⟩:=hsome;have HB2:Hid (af w w2):=HB1.out.grown XC HB1.out.size (fun g hg=>by have:=(XA.out.lt g hg).1;omega);have Yt:Hid (nN w2 w.heap.size k t):=Yo.out.grown XC (fun e=>by simp[Value.ownBlock]at e);have WV:=ay hown2;have HRB2:Hid (dE w2 b off ts):=HR.out.below HB2.out hb;have Zt:b<w2.heap.size:=Vy hb HB2.out.size;clear hown2 XC hat2 HB0 HB01 HB1 HX0 Yo XA HR1 hz1 HR;obtain⟨c0,c1,c2,c3,c4,c5,c6,cl⟩:=Yt.out;obtain⟨f0,f1,f2,f3,f4,f5⟩:=HT.out;by_cases hk:k=1\/k=2
 ·have hin:(decide (1<=k)&&decide (k<=2))=true:=by rcases hk with rfl|rfl<;>decide
  go_wp2_with fail;refine(qD k 1 2 _).mono ?_;rintro e w' ⟨rfl,rfl⟩;rw[hin];go_wp2_with fail;refine(dU t.a t.b t.r t.c t.d t.s _ f0 f1 f2 f3 f4 f5).mono ?_;rintro e w3 ⟨rfl,hb3⟩;have HB3:=ay (HB2.out.trans (hb3.mono HB2.out.size));have HX3:=ay (Yt.out.below hb3);have Xm:=ay (aJ WV.out hb3);have HR3:=ay (HRB2.out.below hb3 Zt);have Yp:b<w3.heap.size:=Vy Zt hb3.size;clear hb3 HB2 Yt WV HRB2 Zt c0 c1 c2 c3 c4 c5 c6 cl;have HRB3:=HR3;obtain⟨c0,c1,c2,c3,c4,c5,c6,cl⟩:=HX3.out;cases hok:bF t.a t.b t.r t.c t.d t.s;case false=>
   have HC:Hid (aQ fit ts k t=2):=lN (fun h=>by have h2:bF t.a t.b t.r t.c t.d t.s=true:=h.2;rw[hok]at h2;cases h2);go_wp2;exact bodyPost_ret (v:=.tuple #[.slice (some ⟨gO,0,none⟩) ts.length cO,.int .i64 2]) (by simp[results,Tryz.results69,go_sem]) rfl (yf HC.out (pK HC.out (by decide)) rfl Xm.out HB3.out)
  have hto:t.ok=true:=hok;rcases hk with rfl|rfl
  ·go_wp2_with fail;refine(Xd.out _ HB3.out).mono ?_;rintro e w4 ⟨rfl,hb4⟩;have XR:=ay (HB3.out.trans (hb4.mono HB3.out.size));have HX4:=ay (HX3.out.below hb4);have Xk:=ay (aJ Xm.out hb4);have HR4:=ay (HRB3.out.below hb4 Yp);have hbl4:b<w4.heap.size:=Vy Yp hb4.size;clear hb4 HB3 HX3 Xm HRB3 Yp c0 c1 c2 c3 c4 c5 c6 cl;have HRB4:=HR4;obtain⟨c0,c1,c2,c3,c4,c5,c6,cl⟩:=HX4.out;cases hfi:fit t;case false=>
    have HC:Hid (aQ fit ts 1 t=3):=by show _=_;rw[oF hto,hfi];rfl
    go_wp2;exact bodyPost_ret (v:=.tuple #[.slice (some ⟨gO,0,none⟩) ts.length cO,.int .i64 3]) (by simp[results,Tryz.results69,go_sem]) rfl (yf HC.out (pK HC.out (by decide)) rfl Xk.out XR.out)
   go_wp2_with fail;refine(CO _ _ ts t _ (by omega) (.inr ⟨b,off,rfl,hbl4,HRB4.out⟩)).mono ?_;rintro e w5 ⟨rfl,hb5⟩;have Yd:=ay (XR.out.trans (hb5.mono XR.out.size));have HX5:=ay (HX4.out.below hb5);have Xi:=ay (aJ Xk.out hb5);have Xt:=ay (HRB4.out.below hb5 hbl4);have hbl5:b<w5.heap.size:=Vy hbl4 hb5.size;clear hb5 XR HX4 Xk HRB4 hbl4 c0 c1 c2 c3 c4 c5 c6 cl;have HRB5:=Xt;obtain⟨c0,c1,c2,c3,c4,c5,c6,cl⟩:=HX5.out;cases hha:iL ts t;case true=>
    have HC:Hid (aQ fit ts 1 t=4):=by show _=_;rw[oF hto,hfi,hha];rfl
    go_wp2;exact bodyPost_ret (v:=.tuple #[.slice (some ⟨gO,0,none⟩) ts.length cO,.int .i64 4]) (by simp[results,Tryz.results69,go_sem]) rfl (yf HC.out (pK HC.out (by decide)) rfl Xi.out Yd.out)
   by_cases h40:ts.length=40
   ·have hd:((ts.length:Int)==40)=true:=by simp;omega
    have HC:Hid (aQ fit ts 1 t=6):=by show _=_;rw[oF hto,hfi,hha,if_pos rfl,if_neg (by decide),if_pos (by omega)]
    go_wp2;exact bodyPost_ret (v:=.tuple #[.slice (some ⟨gO,0,none⟩) ts.length cO,.int .i64 6]) (by simp[results,Tryz.results69,go_sem,h40]) rfl (yf HC.out (pK HC.out (by decide)) rfl Xi.out Yd.out)
   have hd:((ts.length:Int)==40)=false:=by simp;omega
   have HC:Hid (aQ fit ts 1 t=0):=by show _=_;rw[oF hto,hfi,hha,if_pos rfl,if_neg (by decide),if_neg (by omega)]
   go_wp2_with fail;refine(MC b off cap ts t _ (by omega) hcap HRB5.out hbl5 HF.out HT.out).mono ?_;rintro e w6 ⟨v6,rfl,hown6,hb6⟩;obtain⟨g6,c6',rfl⟩:∃g c,v6=.slice (some ⟨g,0,none⟩) (jV ts t).length c:=by
    rcases hown6.2 with⟨-,h0⟩|⟨g,cp,cur,e,-⟩
    ·rw[A9]at h0;omega
    exact⟨g,cp,e⟩
   have XD:=ay (fT hown6 Yd.out.size);have Yq:=ay (Yd.out.trans (hb6.mono Yd.out.size));clear hown6 hb6;go_wp2;exact bodyPost_ret (v:=.tuple #[.slice (some ⟨g6,0,none⟩) (jV ts t).length c6',.int .i64 0]) (by simp[results,Tryz.results69,go_sem]) rfl (yf HC.out (qX HC.out) rfl XD.out Yq.out)
  go_wp2_with fail;refine(CO _ _ ts t _ (by omega) (.inr ⟨b,off,rfl,Yp,HRB3.out⟩)).mono ?_;rintro e w4 ⟨rfl,hb4⟩;have XR:=ay (HB3.out.trans (hb4.mono HB3.out.size));have HX4:=ay (HX3.out.below hb4);have Xk:=ay (aJ Xm.out hb4);have HR4:=ay (HRB3.out.below hb4 Yp);have hbl4:b<w4.heap.size:=Vy Yp hb4.size;clear hb4 HB3 HX3 Xm HRB3 Yp c0 c1 c2 c3 c4 c5 c6 cl;have HRB4:=HR4;obtain⟨c0,c1,c2,c3,c4,c5,c6,cl⟩:=HX4.out;cases hha:iL ts t;case false=>
   have HC:Hid (aQ fit ts 2 t=5):=by show _=_;rw[r9 hto,hha];rfl
   go_wp2;exact bodyPost_ret (v:=.tuple #[.slice (some ⟨gO,0,none⟩) ts.length cO,.int .i64 5]) (by simp[results,Tryz.results69,go_sem]) rfl (yf HC.out (pK HC.out (by decide)) rfl Xk.out XR.out)
  have HC:Hid (aQ fit ts 2 t=0):=by show _=_;rw[r9 hto,hha];rfl
  go_wp2_with fail;refine(I4 _ _ ts t _ (by omega) (.inr ⟨b,off,rfl,hbl4,HRB4.out⟩)).mono ?_;rintro e w6 ⟨g6,c6',rfl,hown6,hb6⟩;have XD:=ay (fT hown6 (VJ XR.out.size (Nat.le_succ _)));have Yq:=ay (XR.out.trans (hb6.mono XR.out.size));clear hown6 hb6;go_wp2;exact bodyPost_ret (v:=.tuple #[.slice (some ⟨g6,0,none⟩) (dY ts t).length c6',.int .i64 0]) (by simp[results,Tryz.results69,go_sem]) rfl (yf HC.out (qX HC.out) rfl XD.out Yq.out)
 have hin:(decide (1<=k)&&decide (k<=2))=false:=by
  rw[Bool.and_eq_false_iff,decide_eq_false_iff_not,decide_eq_false_iff_not];omega
 have HC:Hid (aQ fit ts k t=2):=lN (fun h=>hk h.1);go_wp2_with fail;refine(qD k 1 2 _).mono ?_;rintro e w' ⟨rfl,rfl⟩;rw[hin];go_wp2;exact bodyPost_ret (v:=.tuple #[.slice (some ⟨gO,0,none⟩) ts.length cO,.int .i64 2]) (by simp[results,Tryz.results69,go_sem]) rfl (yf HC.out (pK HC.out (by decide)) rfl WV.out HB2.out)
def Ca(w:World):Prop:=∀g:Nat,2<=g->g<=6->g<w.heap.size/\∃(T:TypeId) (u:Value),w.cell? ⟨g,0,none⟩=some (.iface T u)
theorem Ca.below{w w':ae}(h:Ca w)(hb:af w w'):Ca w':=fun g h2 h6=>by
 obtain⟨hl,T,u,e⟩:=h g h2 h6;exact⟨Vy hl hb.size,T,u,(hb.cell (p:=⟨g,0,none⟩) hl).trans e⟩
def Ps(w:World)(z:Int)(e:Ending)(w':World):Prop :=
 ((z=0/\e=.returned .nilIface) \/ ∃(g:Nat) (T:TypeId) (u:Value),z=g/\2<=g/\g<=6/\w.cell? ⟨g,0,none⟩=some (.iface T u)/\e=.returned (.iface T u))/\af w w'
theorem JF(tv:Value)(fit:Tp->Bool)(ad:Q02)(cap:Nat)(ts:Q05)(k:Int)(t:Tp)(w:ae)(hE:Ca w)
  (hfit:∀w1:World,t.ok=true->af w w1->Calls prog 80 #[tv,.agg #[.string t.a,.string t.b,.string t.r,.string t.c,.string t.d,.string t.s]] w1 fun e w'=>e=.returned (.bool (fit t))/\af w1 w')
  (hlen:ts.length<=40) (hs:Sl w ad ts) (ht:t.fits) :
  Calls prog 93 #[tv,.slice ad ts.length cap,.agg #[.int .i64 k,.string t.a,.string t.b,.string t.r,.string t.c,.string t.d,.string t.s]] w (Ps w (aQ fit ts k t)):=by
 have HE:=ay hE;have Xd:=ay hfit;have HS:=ay hs;have HT:=ay ht;clear hE hfit hs ht;obtain⟨W0,hW0⟩:∃W0,W0=w.alloc (.cells #[.int .i64 k,.string t.a,.string t.b,.string t.r,.string t.c,.string t.d,.string t.s] 31):=⟨_,rfl⟩;have HX0:Hid (nN W0 w.heap.size k t):=by show nN _ _ _ _;rw[hW0];refine⟨?_,?_,?_,?_,?_,?_,?_,?_⟩<;>simp
 have HB0:=oQ hW0;go_enter func93,ntmps93;go_wp2_with fail;rw[<-hW0];clear hW0;refine(BZ ad cap ts t _ (by omega) (HS.out.below HB0.out)).mono ?_;rintro e w1 ⟨rfl,hb1⟩;have HB1:=ay (HB0.out.trans (hb1.mono HB0.out.size));have Yo:=ay (HX0.out.below hb1);clear hb1 HB0 HX0;have HE1:=ay (HE.out.below HB1.out);have RET0:Hid (∀{w':World},aQ fit ts k t=0->af w w'->Ps w (aQ fit ts k t) (.returned .nilIface) w'):=fun h hb=>⟨.inl ⟨h,rfl⟩,hb⟩;have RETE:Hid (∀(g:Nat) {wx w':World} {T:TypeId} {u:Value},aQ fit ts k t=g->2<=g->g<=6->wx.cell? ⟨g,0,none⟩=some (.iface T u)->af w wx->af w w'->Ps w (aQ fit ts k t) (.returned (.iface T u)) w'):=fun g {wx w' T u} h h2 h6 hc hbx hb=>by
  obtain⟨hl,T',u',e⟩:=HE.out g h2 h6;have e2:=(hbx.cell (p:=⟨g,0,none⟩) hl).symm.trans hc;exact⟨.inr ⟨g,T,u,h,h2,h6,e2,rfl⟩,hb⟩
 obtain⟨q2,T2,u2,g2⟩:=HE1.out 2 (by omega) (by omega);obtain⟨q3,T3,u3,g3⟩:=HE1.out 3 (by omega) (by omega);obtain⟨q4,T4,u4,g4⟩:=HE1.out 4 (by omega) (by omega);obtain⟨q5,T5,u5,g5⟩:=HE1.out 5 (by omega) (by omega);obtain⟨q6,T6,u6,g6⟩:=HE1.out 6 (by omega) (by omega);obtain⟨x0,x1,x2,x3,x4,x5,x6,xl⟩:=Yo.out;by_cases hk:¬(k=1\/k=2)
 ·have hk1:¬k=1:=fun h=>hk (.inl h);have hk2:¬k=2:=fun h=>hk (.inr h);have HN:=ay (lN (fit:=fit) (ts:=ts) (k:=k) (t:=t) fun h=>hk h.1);have hb1':(k != 1)=true:=by simp[hk1]
  have hb2':(k != 2)=true:=by simp[hk2]
  clear hk;go_wp2;go_ret;exact RETE.out 2 HN.out (by omega) (by omega) g2 HB1.out HB1.out
 have hk':k=1\/k=2:=Classical.not_not.1 hk;clear hk;obtain⟨f0,f1,f2,f3,f4,f5⟩:=HT.out;have HTK:=ay (fun W=>fD t.a t.b t.r t.c t.d t.s W f0 f1 f2 f3 f4 f5);clear f0 f1 f2 f3 f4 f5;rcases hk' with rfl|rfl
 ·go_wp2_with fail;refine(HTK.out _).mono ?_;rintro e w2 ⟨he,hb2⟩;have HB2:=ay (HB1.out.trans (hb2.mono HB1.out.size));have Xp:Hid (∀g o v,g<w1.heap.size->w1.cell? ⟨g,o,none⟩=some v->w2.cell? ⟨g,o,none⟩=some v):=fun g o v hg h=>(hb2.cell (p:=⟨g,o,none⟩) hg).trans h;have Yt:=ay (Yo.out.below hb2);have hz2:=hb2.size;replace g2:=Xp.out _ _ _ q2 g2;replace g3:=Xp.out _ _ _ q3 g3;replace g4:=Xp.out _ _ _ q4 g4;replace g6:=Xp.out _ _ _ q6 g6;clear hb2 x0 x1 x2 x3 x4 x5 x6 g5;obtain⟨x0,x1,x2,x3,x4,x5,x6,xl2⟩:=Yt.out;cases hok:bF t.a t.b t.r t.c t.d t.s;case false=>
   rw[hok]at he;subst he;have HN:=ay (lN (fit:=fit) (ts:=ts) (k:=1) (t:=t) fun h=>by have h2:bF t.a t.b t.r t.c t.d t.s=true:=h.2;rw[hok]at h2;cases h2);clear hok;go_wp2;go_ret;exact RETE.out 2 HN.out (by omega) (by omega) g2 HB2.out HB2.out
  rw[hok]at he;subst he;have XK:Hid (t.ok=true):=hok;have Zy:=ay (oF (fit:=fit) (ts:=ts) XK.out);have HFI:=ay (Xd.out w2 XK.out HB2.out);clear hok;go_wp2_with fail;refine HFI.out.mono ?_;rintro e w3 ⟨he,hb3⟩;have HB3:=ay (HB2.out.trans (hb3.mono HB2.out.size));replace g3:=(hb3.cell (p:=⟨3,0,none⟩) (by show 3<_;omega)).trans g3;replace g4:=(hb3.cell (p:=⟨4,0,none⟩) (by show 4<_;omega)).trans g4;replace g6:=(hb3.cell (p:=⟨6,0,none⟩) (by show 6<_;omega)).trans g6;clear hb3 x0 x1 x2 x3 x4 x5 x6 g2;cases hft:fit t;case false=>
   rw[hft]at he;subst he;have HN:Hid (aQ fit ts 1 t=3):=by show _=_;rw[Zy.out,hft];rfl
   clear hft;go_wp2;go_ret;exact RETE.out 3 HN.out (by omega) (by omega) g3 HB3.out HB3.out
  rw[hft]at he;subst he;cases hh:iL ts t;case true=>
   have HN:Hid (aQ fit ts 1 t=4):=by show _=_;rw[Zy.out,hft,hh];rfl
   clear hft;go_wp2;go_ret;exact RETE.out 4 HN.out (by omega) (by omega) g4 HB3.out HB3.out
  by_cases h40:40<=ts.length
  ·have HN:Hid (aQ fit ts 1 t=6):=by show _=_;rw[Zy.out,hft,hh];simp[h40]
   have h40':(40:Int)<=(ts.length:Int):=by omega
   clear hft;go_wp2;go_ret;exact RETE.out 6 HN.out (by omega) (by omega) g6 HB3.out HB3.out
  have HN:Hid (aQ fit ts 1 t=0):=by show _=_;rw[Zy.out,hft,hh];simp[h40]
  have h40':decide ((40:Int)<=(ts.length:Int))=false:=by simp;omega
  clear hft;go_wp2;go_ret;exact RET0.out HN.out HB3.out
 go_wp2_with fail;refine(HTK.out _).mono ?_;rintro e w2 ⟨he,hb2⟩;have HB2:=ay (HB1.out.trans (hb2.mono HB1.out.size));have Xp:Hid (∀g o v,g<w1.heap.size->w1.cell? ⟨g,o,none⟩=some v->w2.cell? ⟨g,o,none⟩=some v):=fun g o v hg h=>(hb2.cell (p:=⟨g,o,none⟩) hg).trans h;have Yt:=ay (Yo.out.below hb2);have hz2:=hb2.size;replace g2:=Xp.out _ _ _ q2 g2;replace g5:=Xp.out _ _ _ q5 g5;clear hb2 x0 x1 x2 x3 x4 x5 x6 g3 g4 g6;obtain⟨x0,x1,x2,x3,x4,x5,x6,xl2⟩:=Yt.out;cases hok:bF t.a t.b t.r t.c t.d t.s;case false=>
  rw[hok]at he;subst he;have HN:=ay (lN (fit:=fit) (ts:=ts) (k:=2) (t:=t) fun h=>by have h2:bF t.a t.b t.r t.c t.d t.s=true:=h.2;rw[hok]at h2;cases h2);clear hok;go_wp2;go_ret;exact RETE.out 2 HN.out (by omega) (by omega) g2 HB2.out HB2.out
 rw[hok]at he;subst he;have XK:Hid (t.ok=true):=hok;have HCD:=ay (r9 (fit:=fit) (ts:=ts) XK.out);clear hok;cases hh:iL ts t;case true=>
  have HN:Hid (aQ fit ts 2 t=0):=by show _=_;rw[HCD.out,hh];rfl
  go_wp2;go_ret;exact RET0.out HN.out HB2.out
 have HN:Hid (aQ fit ts 2 t=5):=by show _=_;rw[HCD.out,hh];rfl
 go_wp2;go_ret;exact RETE.out 5 HN.out (by omega) (by omega) g5 HB2.out HB2.out
structure Pt where
 ad:Option Addr
 cap:Nat
 ts:List Tp
def Pt.v(p:Pt):Value:=.slice p.ad p.ts.length p.cap
def Pt.ok(w:World)(p:Pt):Prop:=(p.ad=none/\p.ts=[]/\p.cap=0) \/ ∃b off,p.ad=some ⟨b,off,none⟩/\(p.ts≠[]->b<w.heap.size)/\dE w b off p.ts
theorem Pt.ok.below{w w':ae}{p:Pt}(h:p.ok w)(hb:af w w'):p.ok w':=by
 rcases h with h|⟨b,off,e,hl,hr⟩
 ·exact .inl h
 refine .inr ⟨b,off,e,fun hne=>Vy (hl hne) hb.size,fun i hi=>?_⟩;have hne:p.ts≠[]:=fun e=>by rw[e]at hi;simp at hi
 exact(hr i hi).same fun o=>hb.cell (p:=⟨b,o,none⟩) (hl hne)
def dH(ps:List Pt):List Tp:=ps.flatMap (·.ts)
theorem uw{ps:List Pt}{k:Nat}(h:k<ps.length):dH (ps.take (k+1))=dH (ps.take k)++ps[k].ts:=by
 unfold dH;rw[VE h,Ws];simp
theorem GJ(ps:List Pt)(k:Nat):(dH (ps.take k)).length<=(dH ps).length:=by
 have:dH ps=dH (ps.take k)++dH (ps.drop k):=by unfold dH;rw[<-Ws,List.take_append_drop]
 rw[this,VI];omega
structure PtsAt(w:World)(b:Nat)(ps:List Pt):Prop where
 lt:b<w.heap.size
 cell:∀i (h:i<ps.length),w.cell? ⟨b,i,none⟩=some ps[i].v
 ok:∀p∈ps,p.ok w
theorem PtsAt.below{w w':ae}{b:Nat}{ps:List Pt}(h:PtsAt w b ps)(hb:af w w'):PtsAt w' b ps :=
 ⟨Vy h.lt hb.size,fun i hi=>(hb.cell (p:=⟨b,i,none⟩) h.lt).trans (h.cell i hi),fun p hp=>(h.ok p hp).below hb⟩
theorem Ba:∃i,prog.info? 29=some i/\i.zero=some (.agg #[.string ⟨#[]⟩,.string ⟨#[]⟩,.string ⟨#[]⟩,.string ⟨#[]⟩,.string ⟨#[]⟩,.string ⟨#[]⟩])/\i.size=6/\i.bytes=96 :=
 info_parts (P:=prog) (e:=29) (z:=.agg #[.string ⟨#[]⟩,.string ⟨#[]⟩,.string ⟨#[]⟩,.string ⟨#[]⟩,.string ⟨#[]⟩,.string ⟨#[]⟩]) (size:=6) (bytes:=96) (by kernel_rfl)
theorem MI(n:Nat)(w:ae)(hn:n<=1048576):
  Calls prog 155 #[.slice none 0 0,.int .i64 n] w fun e w'=>∃v,e=.returned v/\w'.ownsRow w.heap.size 29 6 v 0 (aF [])/\af w w':=by
 obtain⟨iT,h0,h1,h2,h3⟩:=Ba;by_cases hz:n=0
 ·subst hz;refine(Any8.slices_Grow_room Tryz.growT none 0 0 0 w (by omega) (by omega) (by omega) (by omega)).mono ?_;rintro e w' ⟨rfl,rfl⟩;exact⟨_,rfl,World.ownsRow_nil _ _ _ _,VD _ _⟩
 refine(Any8.slices_Grow_grow Tryz.growT iT _ h0 h1 (by omega) none 0 0 n [] w (by omega) (by omega) (by rw[h3];omega) (by omega) (by simp) (fun _=>rfl) (fun a ha=>by cases ha)).mono ?_;rintro e w' ⟨rfl,rfl⟩;have hge:=grownCap_ge w (0+n) 0 (Tryz.growT_ren.t 25);have hm:grownCap w (0+n) 0 (Tryz.growT_ren.t 25)<=maxLen:=grownCap_le_maxLen _ _ _ _ (by unfold maxLen;omega);obtain⟨gc,hgc⟩:∃gc,gc=grownCap w (0+n) 0 (Tryz.growT_ren.t 25):=⟨_,rfl⟩;rw[<-hgc]at hge hm ⊢;exact⟨_,rfl,World.ownsRow_made w.drew _ gc (VC _) hm (by simp[size_zeroCells,Value.cells];omega),(VD _ _).drew.alloc (VC _) _⟩
theorem yg(b cap:Nat)(ps:List Pt)(w:ae)(hp:PtsAt w b ps)(hn:ps.length<=1000)(hlen:(dH ps).length<=1048576):
  Calls prog 95 #[.slice (some ⟨b,0,none⟩) ps.length cap] w fun e w'=>∃v,e=.returned v/\w'.ownsRow w.heap.size 29 6 v (dH ps).length (aF (dH ps))/\af w w':=by
 obtain⟨iT,h0,h1,h2,h3⟩:=Ba;have HIT:=ax (And.intro h0 (And.intro h1 (And.intro h2 h3)));have HP:=ax hp;clear h0 h1 h2 h3 hp;go_enter func95,ntmps95;go_wp2;go_loopw[3,11] (fun sz i wr=>∃k:Nat,k<=ps.length/\sz=.int .i64 ((dH (ps.take k)).length:Nat)/\i=.int .i64 (k:Int)/\w=wr) (fun _ i _=>ps.length-(intOf i).toNat);case atStart=>exact⟨0,VG _,rfl,rfl,rfl⟩
 obtain⟨k,hk,rfl,rfl,rfl⟩:=hrel;by_cases hlt:k<ps.length
 ·have c0:=HP.out.cell k hlt;have hk1:=bq k;have hk2:(k:Int)<(ps.length:Int):=by omega
  have hle:=GJ ps (k+1);have hst:(dH (ps.take (k+1))).length=(dH (ps.take k)).length+ps[k].ts.length:=by rw[uw hlt,VI]
  rw[hst]at hle;unfold Pt.v at c0;obtain⟨J,hJ⟩:∃J,J=(dH (ps.take k)).length:=⟨_,rfl⟩;rw[<-hJ]at hst hle⊢;obtain⟨q,hq⟩:∃q,q=ps[k].ts.length:=⟨_,rfl⟩;rw[<-hq]at hst hle c0;have HST:=ax hst;clear hJ hst hq;have hng:decide ((J:Int)+(q:Int)<0)=false:=by simp;omega
  go_wp2;go_roundw;case rel=>exact⟨k+1,by omega,by rw[HST.out];go_num,by go_num,by trivial⟩
  simp[intOf];omega
 obtain rfl:k=ps.length:=by omega
 rw[VP];obtain⟨N,hN⟩:∃N,N=(dH ps).length:=⟨_,rfl⟩;rw[<-hN];have hNl:N<=1048576:=by omega
 have Y9:=ax hN;clear hN;go_wp2_with fail;refine(MI N w hNl).mono ?_;rintro e w1 ⟨v,rfl,hown,hb1⟩;have Xj:=ax hown;have HB1:=ax hb1;clear hown hb1;go_wp2;go_loopw[6,27] (fun v i wr=>∃k:Nat,k<=ps.length/\i=.int .i64 (k:Int)/\Hid (wr.ownsRow w.heap.size 29 6 v (dH (ps.take k)).length (aF (dH (ps.take k))))/\Hid (af w wr)) (fun _ i _=>ps.length-(intOf i).toNat);case atStart=>exact⟨0,VG _,rfl,Xj,HB1⟩
 clear Xj HB1;obtain⟨k,hk,rfl,HO,HB⟩:=hrel;by_cases hlt:k<ps.length
 ·have hP2:=HP.out.below HB.out;have c0:=hP2.cell k hlt;have hpk:=hP2.ok ps[k] (Vz hlt);have hk1:=bq k;have hk2:(k:Int)<(ps.length:Int):=by omega
  have hle:=GJ ps (k+1);rw[uw hlt,VI]at hle;have HST:=ax (uw hlt);have hB0:w.heap.size<=wr.heap.size:=HB.out.size;unfold Pt.v at c0;obtain⟨J,hJ⟩:∃J,J=dH (ps.take k):=⟨_,rfl⟩;rw[<-hJ]at hle HST HO;obtain⟨p,hq⟩:∃p,p=ps[k]:=⟨_,rfl⟩;rw[<-hq]at hle c0 hpk HST;clear hJ hq hP2;rcases hpk with⟨e1,e2,e3⟩|⟨pb,po,e1,-,hrow⟩
  ·rw[e1,e2,e3]at c0;have WV:Hid (wr.ownsRow w.heap.size 29 6 u6 (dH (ps.take (k+1))).length (aF (dH (ps.take (k+1))))):=by
    show World.ownsRow _ _ _ _ _ _ _;rw[HST.out,e2,Ww];exact HO.out
   go_wp2_with(at_builtin;refine wpList_append_own_none rfl _ _ 25 rfl w.heap.size 29 iT 6 underlying25 HIT.out.1 _ _ _ rfl HO.out rfl ?_);go_wp2;go_roundw;case rel=>exact⟨k+1,by omega,by go_num,WV,HB⟩
   simp[intOf];omega
  rw[e1]at c0;have HR:=ax hrow;clear hrow;go_wp2_with(at_builtin;refine wpList_append_own _ rfl _ _ 25 rfl w.heap.size 29 iT (.agg #[.string ⟨#[]⟩,.string ⟨#[]⟩,.string ⟨#[]⟩,.string ⟨#[]⟩,.string ⟨#[]⟩,.string ⟨#[]⟩]) 6 96 underlying25 HIT.out.1 HIT.out.2.1 HIT.out.2.2.1 HIT.out.2.2.2 rfl (by decide) _ J.length (aF J) rfl HO.out ⟨pb,po,none⟩ p.ts.length p.cap (aF p.ts) rfl (fu p.ts) (jW HR.out) (jX _) (by unfold maxLen;omega) (by omega) hB0 ?_);intro v' w3 hown hgr _;have Xm:Hid (w3.ownsRow w.heap.size 29 6 v' (dH (ps.take (k+1))).length (aF (dH (ps.take (k+1))))):=by
   show World.ownsRow _ _ _ _ _ _ _;rw[HST.out,pE,VI];exact hown
  have HB3:Hid (af w w3):=HB.out.grown hgr HB.out.size (fun g hg=>by have:=(HO.out.lt g hg).1;omega);clear hown hgr;go_wp2;go_roundw;case rel=>exact⟨k+1,by omega,by go_num,Xm,HB3⟩
  simp[intOf];omega
 obtain rfl:k=ps.length:=by omega
 have Y7:=HO.out;rw[VP]at Y7;have HE:=ax Y7;clear Y7;go_wp2;go_ret;exact⟨_,rfl,HE.out,HB.out⟩
end Go.Proofs.YtcgdckphpjfmhaaGreatDoor
