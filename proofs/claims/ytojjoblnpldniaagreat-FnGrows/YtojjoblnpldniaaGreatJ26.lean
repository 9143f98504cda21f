/- The iterator over what is asked at a stratum. -/
import Derived.Test.YtojjoblnpldniaaGreatSq
import Derived.Test.YtojjoblnpldniaaGreatJ25
import Derived.Test.YtojjoblnpldniaaGreatJ18
open Go.Proofs.Tryz
set_option maxHeartbeats 80000000
namespace Go.Proofs.YtojjoblnpldniaaGreat
set_option linter.unusedVariables false
set_option maxRecDepth 100000
open ChangeShapes WideShapes ChangeAt RowKit Maps Go.Shelf
open Pl
attribute [local go_sem] Oper.semAt_some
structure InM(W:World)(D br nr:Nat)(Mr:KL->Option Value)(Er:List (KL×RR))(Yp:Q02)(Ye:Nat)(xo:Q0a)(gD gS gU:Nat)(sn:Int)(XF:Q02)(WU:Nat)(us:Q0a):Prop where
 d2:W.cell? ⟨D,2,none⟩=some (.map (some br))
 d4:W.cell? ⟨D,4,none⟩=some (.slice Yp xo.length Ye)
 objs:lu W Yp xo
 rel:Fw W br nr Mr Er
 bD:W.cell? ⟨gD,0,none⟩=some (.pointer (some ⟨D,0,none⟩))
 bS:W.cell? ⟨gS,0,none⟩=some (.int .i64 sn)
 bU:W.cell? ⟨gU,0,none⟩=some (.slice XF us.length WU)
 users:lu W XF us
def Ed(x:Fc):Array Value:=#[.agg #[.string x.a,.string x.b,.string x.r,.string x.c,.string x.d]]
theorem BL:∀(rs:Q07) (i:Nat) (h:i<rs.length) (j:Nat),j<2->(G.flatG Sc rs)[i*2+j]?=(Sc rs[i])[j]?
 | [],i,h,_,_=>by simp at h
 | r::rs,0,_,j,hj=>by
  simp only[G.flatG,VX,Nat.zero_mul,VQ,List.getElem_cons_zero];rw[Wt (by simp[Sc];omega)]
 | r::rs,i+1,h,j,hj=>by
  have ih:=BL rs i (by simpa using h) j hj;simp only[G.flatG,VX,List.getElem_cons_succ]at ih ⊢;rw[Wq (by simp[Sc];omega)];have:(i+1)*2+j-(Sc r).length=i*2+j:=by simp[Sc];omega
  rw[this];exact ih
theorem LJ{W:ae}{br nr:Nat}{Mr:KL->Option Value}{Er:List (KL×RR)}(h:Fw W br nr Mr Er)(k:KL):∃ad cap,(Mr k).getD (.slice none 0 0)=.slice ad (G.lookL Er k).length cap/\(∀i (hi:i<(G.lookL Er k).length),∃g,ad=some ⟨g,0,none⟩/\g<W.heap.size/\W.cell? ⟨g,i*2,none⟩=some (.string (G.lookL Er k)[i].name)/\W.cell? ⟨g,i*2+1,none⟩=some (G.lookL Er k)[i].sl):=by
 have ho:=D8 h k;rcases ho.2 with⟨e,h0⟩|⟨g,cap,cur,e,hbg,hg,hnc,-⟩
 ·exact⟨none,0,by rw[e,h0],fun i hi=>by omega⟩
 refine⟨_,cap,e,fun i hi=>⟨g,rfl,(ho.lt g (by rw[e];rfl)).2,?_,?_⟩⟩
 ·rw[e]at ho;rw[ho.cellAt (i*2) (by omega)];exact BL _ i hi 0 (by omega)
 rw[e]at ho;rw[ho.cellAt (i*2+1) (by omega)];exact BL _ i hi 1 (by omega)
def FE(W:World)(g:Nat)(o:Al):Prop:=W.heap[g]?=some (.cells #[.string o.t,.string o.s] 27 (0,0))
def Im(W:World)(g:Nat)(r:RR):Prop:=W.heap[g]?=some (.cells #[.string r.name,r.sl] 39 (0,0))
theorem FE.c{W:ae}{g:Nat}{o:Al}(h:FE W g o):W.cell? ⟨g,0,none⟩=some (.string o.t)/\W.cell? ⟨g,1,none⟩=some (.string o.s)/\g<W.heap.size:=by
 have hl:=(Vw.1 h).1;unfold FE at h;exact⟨by simp[World.cell?,h],by simp[World.cell?,h],hl⟩
theorem Im.c{W:ae}{g:Nat}{r:RR}(h:Im W g r):W.cell? ⟨g,0,none⟩=some (.string r.name)/\W.cell? ⟨g,1,none⟩=some r.sl/\g<W.heap.size:=by
 have hl:=(Vw.1 h).1;unfold Im at h;exact⟨by simp[World.cell?,h],by simp[World.cell?,h],hl⟩
theorem FE.kp{W W':ae}{g:Nat}{o:Al}(h:FE W g o)(hk:KpI W W'):FE W' g o:=hk.cells g _ _ _ h (.inl rfl)
theorem Im.kp{W W':ae}{g:Nat}{r:RR}(h:Im W g r)(hk:KpI W W'):Im W' g r:=hk.cells g _ _ _ h (.inr rfl)
def iQ(rs:Q06)(st:Q00)(us:Q0a)(sn:Int)(xo:Q0a)(q:Nat):List Fc:=(xo.take q).flatMap (vC (af rs) st us sn)
def kQ(R:Q07)(us:Q0a)(o:Al)(k:Nat):List Fc:=(R.take k).flatMap fun r=>jc o r.name us
theorem Sw{rs:Q06}{st:Q00}{us:Q0a}{sn:Int}{xo:Q0a}{q:Nat}(h:q<xo.length):iQ rs st us sn xo (q+1)=iQ rs st us sn xo q++kQ (G.lookL (fe st rs) (xo[q].t,sn)) us xo[q] (G.lookL (fe st rs) (xo[q].t,sn)).length:=by
 unfold iQ kQ;rw[Vu h,Wj,VI];congr 1;simp only[VX,List.flatMap_nil,Wp];unfold vC;rw[Ig,List.flatMap_map]
theorem Sy{R:Q07}{us:Q0a}{o:Al}{k:Nat}(h:k<R.length):kQ R us o (k+1)=kQ R us o k++jc o R[k].name us:=by
 unfold kQ;rw[Vu h,Wj];simp
theorem NT(o:Al)(rel:bQ){xu:Q0a}{j:Nat}(h:j<xu.length):jc o rel (xu.take (j+1))=jc o rel (xu.take j)++[⟨o.t,o.s,rel,xu[j].t,xu[j].s⟩]:=by
 unfold jc;rw[Vu h,Wu];rfl
theorem NU{rs:Q06}{st:Q00}{xo us:Q0a}{sn:Int}{o:Al}{r:RR}{u:Al}(ho:o∈xo)(hr:r∈G.lookL (fe st rs) (o.t,sn))(hu:u∈us):(⟨o.t,o.s,r.name,u.t,u.s⟩:Fc)∈bF (af rs) st xo us sn:=by
 unfold bF vC;refine VJ.2 ⟨o,ho,VJ.2 ⟨(o.t,r.name),?_,VG.2 ⟨u,hu,rfl⟩⟩⟩;rw[Ig];exact VG.2 ⟨r,hr,rfl⟩
theorem QY(n:Nat)(hn:1<=n)(D br nr:Nat)(Mr:KL->Option Value)(st:Q00)(rs:Q06)(Yp:Q02)(Ye:Nat)(xo:Q0a)(gD gS gU:Nat)(sn:Int)(XF:Q02)(WU:Nat)(us:Q0a)(w0:ae)(hs0:0<=sn)(hs1:sn<=1000)(hol:xo.length<=1000)(ZU:us.length<=1000)(hrl:∀k,(G.lookL (fe st rs) k).length<=1000)(hof:∀o∈xo,o.t.size<=maxLen):
  EE Fence.wide n prog 269 #[.pointer (some ⟨gD,0,none⟩),.pointer (some ⟨gS,0,none⟩),.pointer (some ⟨gU,0,none⟩)] Ed (fun _=>KpI) (fun _ W=>InM W D br nr Mr (fe st rs) Yp Ye xo gD gS gU sn XF WU us) (fun _ x=>x∈bF (af rs) st xo us sn) (fun xs=>xs=bF (af rs) st xo us sn) w0:=by
 intro l J W _ _ _ hJ hT hY h0;have HJ:=aF hJ;have HT:=aF hT;have HY:=aF hY;have H0:=aF h0;have HOF:=aF hof;have hM:=hT _ _ h0;have HRL:=aF hrl;have bD:=hM.bD;have d4:=hM.d4;have lD:=aI bD;have lDD:=aI d4;clear hJ hT hY h0 hof hM hrl;refine callsIn_of_wp func269 rfl trivial ?_ rfl;simp only[ntmps269,List.size_toArray,VS,Wv,Nat.reduceAdd,Nat.reduceSub,Array.replicate_succ,Array.replicate_zero,List.push_toArray,List.append_toArray,Ww,V9];gi_wp2;clear bD d4 lD lDD
 gi_loopw [16] (fun i wr=>∃q:Nat,q<=xo.length/\i=.int .i64 q/\Hid (J (iQ rs st us sn xo q) wr)) (fun i _=>xo.length-(intOf i).toNat)
 case atStart=>exact⟨0,Vv _,rfl,H0⟩
 clear H0;obtain⟨q,hq,rfl,HJ1⟩:=hrel;by_cases hlq:q<xo.length
 ·have hM:=HT.out _ _ HJ1.out;obtain⟨bO,Xm,ZE,⟨o0,o1⟩,hbO⟩:=lu.at0 hM.objs hlq;have HSQ:=aF (Sw (rs:=rs) (st:=st) (us:=us) (sn:=sn) hlq);have HOS:=aF (HOF.out _ (Vp hlq));have HOM:Hid (xo[q]∈xo):=Vp hlq;obtain⟨o,ho⟩:∃o,o=xo[q]:=⟨_,rfl⟩;rw[<-ho]at o0 o1 HSQ HOS HOM;clear ho;have hq1:=bC q;have hq2:(q:Int)<(xo.length:Int):=by omega
  obtain⟨W1,hW1⟩:∃W1,W1=wr.alloc (.cells #[.string o.t,.string o.s] 27):=⟨_,rfl⟩;have HB1:=sH hW1;have HJ2:=aF (ni HJ.out HJ1.out HB1.out);have Xh:Hid (FE W1 wr.heap.size o):=by rw[hW1];exact World.alloc_heap_new wr _
  have hM2:=HT.out _ _ HJ2.out;have bD:=hM2.bD;have bS:=hM2.bS;have d2:=hM2.d2;obtain⟨c0,c1,cl⟩:=Xh.out.c;obtain⟨Yr,X0,hgd,-⟩:=LJ hM2.rel (o.t,sn);obtain⟨kl,hkl⟩:=Lc (o.t,sn) HOS.out hs0 (by show sn<=_;omega);obtain⟨R,hR⟩:∃R,R=G.lookL (fe st rs) (o.t,sn):=⟨_,rfl⟩;have hRl:R.length<=1000:=by rw[hR];exact HRL.out _
  rw[<-hR]at hgd HSQ;have HRE:=aF hR;have HGD:=aF hgd;have hlk:∀m,(Instr.lookup 190 (.map (some br)) (.agg #[.string o.t,.int .i64 sn]) false).run prog (W1.drewN m)=.ok (.slice Yr R.length X0) (W1.drewN m):=fun m=>by
   have h:=(hM2.rel.map.below (below_drewN (Vs _ _) m)).look (t:=190) (e:=34) UO underlying190 (QS _) (x:=(o.t,sn)) hkl;rw[hgd]at h;exact h
  subst ZE;clear hM hM2 hR hgd hkl;gi_wp2;rw[<-hW1];clear hW1;refine wpIn_wide.2 ?_;go_quiet (fail);obtain⟨W2,hW2⟩:∃W2,W2=W1.drewN nq:=⟨_,rfl⟩;have HB2:Hid (ag W1 W2):=by show Below _ _ _;rw[hW2];exact below_drewN (Vs _ _) _
  have HJ3:=aF (ni HJ.out HJ2.out HB2.out);have HBX2:=aF (Xh.out.kp (KpI.below HB2.out));obtain⟨gO,hgO⟩:∃g,g=wr.heap.size:=⟨_,rfl⟩;rw[<-hgO]at HBX2 ⊢;rw[<-hW2];clear hW2 hgO c0 c1 cl bD bS d2 hlk HB1 HJ2 Xh HJ1 o0 o1 hbO;gi_wp2
  gi_loopw [30] (fun i w2=>∃k:Nat,k<=R.length/\i=.int .i64 k/\Hid (J (iQ rs st us sn xo q++kQ R us o k) w2)/\Hid (FE w2 gO o)) (fun i _=>R.length-(intOf i).toNat)
  case atStart=>exact⟨0,Vv _,rfl,by show J (_++[]) _;rw[Wp];exact HJ3.out,HBX2⟩
  clear HJ3 HBX2 HB2;obtain⟨k,hk,rfl,HJ4,Xh⟩:=hrel;by_cases hlk:k<R.length
  ·have hM:=HT.out _ _ HJ4.out;obtain⟨adR',capR',hgd',hrows⟩:=LJ hM.rel (o.t,sn);rw[<-HRE.out,HGD.out]at hgd';injection hgd' with ea eb ec;subst ea;clear eb ec;obtain⟨gq,hadR,hgl,r0,r1⟩:=hrows k (by rw[<-HRE.out];exact hlk);have HKS:=aF (Sy (us:=us) (o:=o) hlk);have hrr:(G.lookL (fe st rs) (o.t,sn))[k]'(by rw[<-HRE.out];exact hlk)=R[k]:=by simp only[HRE.out]
   rw[hrr]at r0 r1;have HRM:Hid (R[k]∈R):=Vp hlk;obtain⟨r,hr⟩:∃r,r=R[k]:=⟨_,rfl⟩;rw[<-hr]at r0 r1 HKS HRM;have hk1:=bC k;have hk2:(k:Int)<(R.length:Int):=by omega
   obtain⟨W3,hW3⟩:∃W3,W3=wr.alloc (.cells #[.string r.name,r.sl] 39):=⟨_,rfl⟩;have HB3:=sH hW3;have HJ5:=aF (ni HJ.out HJ4.out HB3.out);have Zk:=aF (Xh.out.kp (KpI.below HB3.out));have Z5:Hid (Im W3 wr.heap.size r):=by rw[hW3];exact World.alloc_heap_new wr _
   have hM3:=HT.out _ _ HJ5.out;have bU:=hM3.bU;have lU:=aI bU;have bU0:=hM.bU;have lU0:=aI bU0;unfold RR.sl at r1 hW3;obtain⟨gR,hgR⟩:∃g,g=wr.heap.size:=⟨_,rfl⟩;subst hadR;clear hM hM3 hr hrr hrows;gi_wp2;rw[<-hW3,<-hgR];rw[<-hgR]at Z5;clear hW3 hgR bU lU bU0 lU0 r0 r1 hgl HB3 HJ4 Xh
   gi_loopw [36] (fun i w2=>∃j:Nat,j<=us.length/\i=.int .i64 j/\Hid (J (iQ rs st us sn xo q++kQ R us o k++jc o r.name (us.take j)) w2)/\Hid (FE w2 gO o)/\Hid (Im w2 gR r)) (fun i _=>us.length-(intOf i).toNat)
   case atStart=>exact⟨0,Vv _,rfl,by show J (_++[]) _;rw[Wp];exact HJ5.out,Zk,Z5⟩
   clear HJ5 Zk Z5;obtain⟨j,hj,rfl,HJ6,Zk,Z5⟩:=hrel;by_cases hlj:j<us.length
   ·have hM:=HT.out _ _ HJ6.out;obtain⟨bV,offV,hadU,⟨y0,y1⟩,hbV⟩:=lu.at0 hM.users hlj;have HAS:=aF (NT o r.name hlj);obtain⟨u,hu⟩:∃u,u=us[j]:=⟨_,rfl⟩;rw[<-hu]at y0 y1 HAS;have hj1:=bC j;have hj2:(j:Int)<(us.length:Int):=by omega
    obtain⟨W4,XT⟩:∃W4,W4=wr.alloc (.cells #[.string u.t,.string u.s] 27):=⟨_,rfl⟩;have Xt:=sH XT;have HJ7:=ni HJ.out HJ6.out Xt.out;have Zb:=aF (Zk.out.kp (KpI.below Xt.out));have HBR2:=aF (Z5.out.kp (KpI.below Xt.out));obtain⟨fn,tmps,assign,body,hy,hR⟩:=HY.out _ ⟨o.t,o.s,r.name,u.t,u.s⟩ W4 HJ7 (NU HOM.out (by rw[<-HRE.out];exact HRM.out) (by rw[hu];exact Vp hlj));obtain⟨c0,c1,cl⟩:=Zk.out.c;obtain⟨e0,e1,el⟩:=Z5.out.c;have HRR:=aF hR;unfold Ed at hy;subst hadU;subst XT;clear hM hu HJ7 hR;gi_wp2;refine HRR.out.mono ?_;rintro e W5 ⟨rfl,hJ8,hK8⟩;have HJ8:Hid (J (iQ rs st us sn xo q++kQ R us o k++jc o r.name (us.take (j+1))) W5):=by show J _ _;rw[HAS.out,<-VU];exact hJ8
    have HBO3:=aF (Zb.out.kp hK8);have HBR3:=aF (HBR2.out.kp hK8);clear hJ8 hK8 hy y0 y1 c0 c1 cl e0 e1 el;gi_wp2;go_roundw;case rel=>exact⟨j+1,by omega,by go_num,HJ8,HBO3,HBR3⟩
    simp[intOf]<;>omega
   have HJ7:Hid (J (iQ rs st us sn xo q++kQ R us o (k+1)) wr):=by
    have h1:=HJ6.out;rw[V8 (by omega),VU,<-HKS.out]at h1;exact h1
   gi_wp2;go_roundw;case rel=>exact⟨k+1,by omega,by go_num,HJ7,Zk⟩
   simp[intOf]<;>omega
  have HE2:Hid (iQ rs st us sn xo q++kQ R us o k=iQ rs st us sn xo (q+1)):=by show _=_;rw[HSQ.out,show k=R.length by omega]
  have HJ5:Hid (J (iQ rs st us sn xo (q+1)) wr):=by show J _ _;rw[<-HE2.out];exact HJ4.out
  gi_wp2;go_roundw;case rel=>exact⟨q+1,by omega,by go_num,HJ5⟩
  simp[intOf]<;>omega
 have HE:Hid (iQ rs st us sn xo q=bF (af rs) st xo us sn):=by show _=_;unfold iQ bF;rw[V8 (by omega)]
 have HJ2:Hid (J (bF (af rs) st xo us sn) wr):=by show J _ _;rw[<-HE.out];exact HJ1.out
 gi_wp2
 go_end0
 exact⟨⟨_,rfl⟩,_,rfl,HJ2.out⟩
end Go.Proofs.YtojjoblnpldniaaGreat
namespace Go.Proofs.YtojjoblnpldniaaGreat
set_option linter.unusedVariables false
set_option maxRecDepth 100000
open ChangeShapes WideShapes ChangeAt RowKit Maps
open Pl
section
variable  {w:World}{rs:Q06}{D br bp bt bK nK:Nat}{n1:Int}{nr:Nat}{Mr:KL->Option Value}{Er:List (KL×RR)}{ts:Q05}{xo xu:Q0a}{np:Nat}{Mp:K3->Option Value}{vo vu:Value}{out:Q04}{f:Fc}{WM:Q02}{capE:Nat}{rows:Q08}{n:Nat}
theorem NV(hn:n<rows.length)(hD:DatA w rs D br bp bt n1 nr Mr Er (dN ts) xo xu np Mp vo vu)(hK:aJ oG prog 52 w bK nK (Cx out))(hf:f.fits)(hts:∀t∈ts,t.fits)(htl:ts.length<=1000)(hex:jw w WM rows)(hre:rows.length<=1000)(hk:rows[n].e.kind=1):
  Calls prog 232 #[.pointer (some ⟨D,0,none⟩),.slice WM rows.length capE,.int .i64 (n:Int),.agg #[.string f.a,.string f.b,.string f.r,.string f.c,.string f.d],.map (some bK)] w fun e w'=>e=.returned (.bool (eG ts out f))/\ag w w':=by
 obtain⟨b,off,WO,⟨t0,t1,t2,t3,t4⟩,hbl,hok⟩:=jw.at0 hex hn;obtain⟨W0,hW0⟩:∃W0,W0=IX w D (.slice WM rows.length capE) f bK rows[n]:=⟨_,rfl⟩;have HB0:Hid (ag w W0):=by show Below _ _ _;rw[hW0];exact lQ _ _ _ _ _ _
 have HN0:Hid (NdB W0 w.heap.size D (.slice WM rows.length capE) f bK rows[n]):=by show NdB _ _ _ _ _ _ _;rw[hW0];exact lT _ _ _ _ _ _
 have hk1:(rows[n].e.kind==1)=true:=by rw[hk];rfl
 have hbl1:b<w.heap.size+1:=by omega
 have hbl2:b<w.heap.size+1+1:=by omega
 have hbl3:b<w.heap.size+1+1+1:=by omega
 have hn1:=bC n;have hn2:(n:Int)<(rows.length:Int):=by omega
 unfold IX yJ at hW0;have HC:=aF (Cy (hD.below HB0.out) (hK.below HB0.out) hf hts htl);clear hD hK hts hex hk hok;subst WO;go_enter func232,ntmps232;go_wp2_with fail;rw[<-hW0];clear hW0 t0 t1 t2 t3 t4;refine(HC.out).mono ?_;rintro e w1 ⟨rfl,hb1⟩;have HB1:=aF (HB0.out.trans (hb1.mono HB0.out.size));clear hb1;go_wp2;go_ret;exact⟨rfl,HB1.out⟩
theorem QZ(hn:n<rows.length)(hK:aJ oG prog 52 w bK nK (Cx out))(hf:f.fits)(hnm:rows[n].e.name.size<=maxLen)(hex:jw w WM rows)(hre:rows.length<=1000)(hk:rows[n].e.kind=2):
  Calls prog 232 #[.pointer (some ⟨D,0,none⟩),.slice WM rows.length capE,.int .i64 (n:Int),.agg #[.string f.a,.string f.b,.string f.r,.string f.c,.string f.d],.map (some bK)] w fun e w'=>e=.returned (.bool (df out ⟨f.a,f.b,rows[n].e.name,f.c,f.d⟩))/\ag w w':=by
 obtain⟨b,off,WO,⟨t0,t1,t2,t3,t4⟩,hbl,hok⟩:=jw.at0 hex hn;obtain⟨W0,hW0⟩:∃W0,W0=IX w D (.slice WM rows.length capE) f bK rows[n]:=⟨_,rfl⟩;have HB0:Hid (ag w W0):=by show Below _ _ _;rw[hW0];exact lQ _ _ _ _ _ _
 have HN0:Hid (NdB W0 w.heap.size D (.slice WM rows.length capE) f bK rows[n]):=by show NdB _ _ _ _ _ _ _;rw[hW0];exact lT _ _ _ _ _ _
 have hk1:(rows[n].e.kind==1)=false:=by rw[hk];rfl
 have hk2:(rows[n].e.kind==2)=true:=by rw[hk];rfl
 have hbl1:b<w.heap.size+1:=by omega
 have hbl2:b<w.heap.size+1+1:=by omega
 have hbl3:b<w.heap.size+1+1+1:=by omega
 have hn1:=bC n;have hn2:(n:Int)<(rows.length:Int):=by omega
 unfold IX yJ at hW0;have HC:=aF (wF bK nK out ⟨f.a,f.b,rows[n].e.name,f.c,f.d⟩ W0 ⟨hf.1,hf.2.1,hnm,hf.2.2.2.1,hf.2.2.2.2⟩ (hK.below HB0.out));clear hK hex hk hok hf;subst WO;go_enter func232,ntmps232;go_wp2_with fail;rw[<-hW0];clear hW0 t0 t1 t2 t3 t4;refine(HC.out).mono ?_;rintro e w1 ⟨rfl,hb1⟩;have HB1:=aF (HB0.out.trans (hb1.mono HB0.out.size));clear hb1;go_wp2;go_ret;exact⟨rfl,HB1.out⟩
theorem NW(hn:n<rows.length)(hD:DatA w rs D br bp bt n1 nr Mr Er (dN ts) xo xu np Mp vo vu)(hK:aJ oG prog 52 w bK nK (Cx out))(hf:f.fits)(hxf:rows[n].e.over.size<=maxLen/\rows[n].e.name.size<=maxLen)(hts:∀t∈ts,t.fits)(htl:ts.length<=1000)(hex:jw w WM rows)(hre:rows.length<=1000)(hk:rows[n].e.kind=3):
  Calls prog 232 #[.pointer (some ⟨D,0,none⟩),.slice WM rows.length capE,.int .i64 (n:Int),.agg #[.string f.a,.string f.b,.string f.r,.string f.c,.string f.d],.map (some bK)] w fun e w'=>e=.returned (.bool (fQ ts out rows[n].e.over rows[n].e.name f))/\ag w w':=by
 obtain⟨b,off,WO,⟨t0,t1,t2,t3,t4⟩,hbl,hok⟩:=jw.at0 hex hn;obtain⟨W0,hW0⟩:∃W0,W0=IX w D (.slice WM rows.length capE) f bK rows[n]:=⟨_,rfl⟩;have HB0:Hid (ag w W0):=by show Below _ _ _;rw[hW0];exact lQ _ _ _ _ _ _
 have HN0:Hid (NdB W0 w.heap.size D (.slice WM rows.length capE) f bK rows[n]):=by show NdB _ _ _ _ _ _ _;rw[hW0];exact lT _ _ _ _ _ _
 have hk1:(rows[n].e.kind==1)=false:=by rw[hk];rfl
 have hk2:(rows[n].e.kind==2)=false:=by rw[hk];rfl
 have hk3:(rows[n].e.kind==3)=true:=by rw[hk];rfl
 have hbl1:b<w.heap.size+1:=by omega
 have hbl2:b<w.heap.size+1+1:=by omega
 have hbl3:b<w.heap.size+1+1+1:=by omega
 have hn1:=bC n;have hn2:(n:Int)<(rows.length:Int):=by omega
 unfold IX yJ at hW0;have HC:=aF (Cz (hD.below HB0.out) (hK.below HB0.out) rows[n] hxf hf hts htl);clear hD hK hts hex hk hok hxf hf;subst WO;go_enter func232,ntmps232;go_wp2_with fail;rw[<-hW0];clear hW0 t0 t1 t2 t3 t4;refine(HC.out).mono ?_;rintro e w1 ⟨rfl,hb1⟩;have HB1:=aF (HB0.out.trans (hb1.mono HB0.out.size));clear hb1;go_wp2;go_ret;exact⟨rfl,HB1.out⟩
theorem KE(hn:n<rows.length)(H:Int->Bool)(hkl:rows[n].e.kids.length<=1000)(hIH:∀i∈rows[n].e.kids,KC D (.slice WM rows.length capE) f bK w i (H i))(hex:jw w WM rows)(hre:rows.length<=1000)(hk:rows[n].e.kind=4):
  Calls prog 232 #[.pointer (some ⟨D,0,none⟩),.slice WM rows.length capE,.int .i64 (n:Int),.agg #[.string f.a,.string f.b,.string f.r,.string f.c,.string f.d],.map (some bK)] w fun e w'=>e=.returned (.bool (rows[n].e.kids.any H))/\ag w w':=by
 obtain⟨b,off,WO,⟨t0,t1,t2,t3,t4⟩,hbl,hok⟩:=jw.at0 hex hn;obtain⟨W0,hW0⟩:∃W0,W0=IX w D (.slice WM rows.length capE) f bK rows[n]:=⟨_,rfl⟩;have HB0:Hid (ag w W0):=by show Below _ _ _;rw[hW0];exact lQ _ _ _ _ _ _
 have HN0:Hid (NdB W0 w.heap.size D (.slice WM rows.length capE) f bK rows[n]):=by show NdB _ _ _ _ _ _ _;rw[hW0];exact lT _ _ _ _ _ _
 have hk1:(rows[n].e.kind==1)=false:=by rw[hk];rfl
 have hk2:(rows[n].e.kind==2)=false:=by rw[hk];rfl
 have hk3:(rows[n].e.kind==3)=false:=by rw[hk];rfl
 have hk4:(rows[n].e.kind==4)=true:=by rw[hk];rfl
 have hbl1:b<w.heap.size+1:=by omega
 have hbl2:b<w.heap.size+1+1:=by omega
 have hbl3:b<w.heap.size+1+1+1:=by omega
 have hn1:=bC n;have hn2:(n:Int)<(rows.length:Int):=by omega
 unfold IX yJ at hW0;have HC:=aF (sZ 282 #[] #[.pointer (some ⟨w.heap.size,0,none⟩),.pointer (some ⟨w.heap.size+1,0,none⟩),.pointer (some ⟨w.heap.size+1+1,0,none⟩),.pointer (some ⟨w.heap.size+1+1+1,0,none⟩)] H rows[n].adK rows[n].capK rows[n].e.kids W0 (by omega) (hok.2.below HB0.out) Ur (fun i hi w1 hb=>pK (hIH i hi) (HB0.out.trans (hb.mono HB0.out.size)) (HN0.out.below hb)));clear hIH hex hk hok;subst WO;go_enter func232,ntmps232;go_wp2_with fail;rw[<-hW0];clear hW0 t0 t1 t2 t3 t4;refine(HC.out).mono ?_;rintro e w1 ⟨rfl,hb1⟩;have HB1:=aF (HB0.out.trans (hb1.mono HB0.out.size));clear hb1;go_wp2;go_ret;exact⟨rfl,HB1.out⟩
theorem NY(hn:n<rows.length)(H:Int->Bool)(hkl:rows[n].e.kids.length<=1000)(hIH:∀i∈rows[n].e.kids,KC D (.slice WM rows.length capE) f bK w i (H i))(hex:jw w WM rows)(hre:rows.length<=1000)(hk:rows[n].e.kind=5):
  Calls prog 232 #[.pointer (some ⟨D,0,none⟩),.slice WM rows.length capE,.int .i64 (n:Int),.agg #[.string f.a,.string f.b,.string f.r,.string f.c,.string f.d],.map (some bK)] w fun e w'=>e=.returned (.bool (rows[n].e.kids.all H))/\ag w w':=by
 obtain⟨b,off,WO,⟨t0,t1,t2,t3,t4⟩,hbl,hok⟩:=jw.at0 hex hn;obtain⟨W0,hW0⟩:∃W0,W0=IX w D (.slice WM rows.length capE) f bK rows[n]:=⟨_,rfl⟩;have HB0:Hid (ag w W0):=by show Below _ _ _;rw[hW0];exact lQ _ _ _ _ _ _
 have HN0:Hid (NdB W0 w.heap.size D (.slice WM rows.length capE) f bK rows[n]):=by show NdB _ _ _ _ _ _ _;rw[hW0];exact lT _ _ _ _ _ _
 have hk1:(rows[n].e.kind==1)=false:=by rw[hk];rfl
 have hk2:(rows[n].e.kind==2)=false:=by rw[hk];rfl
 have hk3:(rows[n].e.kind==3)=false:=by rw[hk];rfl
 have hk4:(rows[n].e.kind==4)=false:=by rw[hk];rfl
 have hk5:(rows[n].e.kind==5)=true:=by rw[hk];rfl
 have hbl1:b<w.heap.size+1:=by omega
 have hbl2:b<w.heap.size+1+1:=by omega
 have hbl3:b<w.heap.size+1+1+1:=by omega
 have hn1:=bC n;have hn2:(n:Int)<(rows.length:Int):=by omega
 unfold IX yJ at hW0;have HC:=aF (sZ 283 #[] #[.pointer (some ⟨w.heap.size+1+1+1+1+1,0,none⟩)] (fun i=>!H i) rows[n].adK rows[n].capK rows[n].e.kids W0 (by omega) (hok.2.below HB0.out) Us (fun i hi w1 hb=>wG (hIH i hi) (HB0.out.trans (hb.mono HB0.out.size)) (HN0.out.below hb)));have WX:Hid ((rows[n].e.kids.any fun i=>!H i)=!rows[n].e.kids.all H):=by show _=_;rw[List.not_all_eq_any_not]
 clear hIH hex hk hok;subst WO;go_enter func232,ntmps232;go_wp2_with fail;rw[<-hW0];clear hW0 t0 t1 t2 t3 t4;refine(HC.out).mono ?_;rintro e w1 ⟨he,hb1⟩;rw[WX.out]at he;subst he;have HB1:=aF (HB0.out.trans (hb1.mono HB0.out.size));clear hb1;go_wp2;go_ret;exact⟨by simp,HB1.out⟩
end
end Go.Proofs.YtojjoblnpldniaaGreat
