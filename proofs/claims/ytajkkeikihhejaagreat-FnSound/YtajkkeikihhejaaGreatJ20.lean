/- The iterator over what is asked at a stratum. -/
import Derived.Test.YtajkkeikihhejaaGreatSq
import Derived.Test.YtajkkeikihhejaaGreatJ18
import Derived.RangeFuncLeaves
import Derived.OwnWalkIn
import Derived.TacticsInMore
import Derived.LoopNIn
import Derived.LoopIn
open Go.Proofs.Tryz
set_option maxHeartbeats 80000000
namespace Go.Proofs.YtajkkeikihhejaaGreat
set_option linter.unusedVariables false
set_option maxRecDepth 100000
open ChangeShapes WideShapes ChangeAt RowKit Maps Go.Shelf
open Pl
attribute [local go_sem] Oper.semAt_some
structure InM(W:World)(D br nr:Nat)(Mr:KL->Option Value)(Er:List (KL×RR))(Yp:Q02)(Yc:Nat)(xo:Q0a)(gD gS gU:Nat)(sn:Int)(Xw:Q02)(WH:Nat)(us:Q0a):Prop where
 d2:W.cell? ⟨D,2,none⟩=some (.map (some br))
 d4:W.cell? ⟨D,4,none⟩=some (.slice Yp xo.length Yc)
 objs:lK W Yp xo
 rel:FL W br nr Mr Er
 bD:W.cell? ⟨gD,0,none⟩=some (.pointer (some ⟨D,0,none⟩))
 bS:W.cell? ⟨gS,0,none⟩=some (.int .i64 sn)
 bU:W.cell? ⟨gU,0,none⟩=some (.slice Xw us.length WH)
 users:lK W Xw us
def Ew(x:Fc):Array Value:=#[.agg #[.string x.a,.string x.b,.string x.r,.string x.c,.string x.d]]
theorem Ce:∀(rs:Q07) (i:Nat) (h:i<rs.length) (j:Nat),j<2->(G.flatG R9 rs)[i*2+j]?=(R9 rs[i])[j]?
 | [],i,h,_,_=>by simp at h
 | r::rs,0,_,j,hj=>by
  simp only[G.flatG,VJ,Nat.zero_mul,VC,List.getElem_cons_zero];rw[V9 (by simp[R9];omega)]
 | r::rs,i+1,h,j,hj=>by
  have ih:=Ce rs i (by simpa using h) j hj;simp only[G.flatG,VJ,List.getElem_cons_succ]at ih ⊢;rw[V7 (by simp[R9];omega)];have:(i+1)*2+j-(R9 r).length=i*2+j:=by simp[R9];omega
  rw[this];exact ih
theorem Lr{W:af}{br nr:Nat}{Mr:KL->Option Value}{Er:List (KL×RR)}(h:FL W br nr Mr Er)(k:KL):∃ad cap,(Mr k).getD (.slice none 0 0)=.slice ad (G.lookL Er k).length cap/\(∀i (hi:i<(G.lookL Er k).length),∃g,ad=some ⟨g,0,none⟩/\g<W.heap.size/\W.cell? ⟨g,i*2,none⟩=some (.string (G.lookL Er k)[i].name)/\W.cell? ⟨g,i*2+1,none⟩=some (G.lookL Er k)[i].sl):=by
 have ho:=Ei h k;rcases ho.2 with⟨e,h0⟩|⟨g,cap,cur,e,hbg,hg,hnc,-⟩
 ·exact⟨none,0,by rw[e,h0],fun i hi=>by omega⟩
 refine⟨_,cap,e,fun i hi=>⟨g,rfl,(ho.lt g (by rw[e];rfl)).2,?_,?_⟩⟩
 ·rw[e]at ho;rw[ho.cellAt (i*2) (by omega)];exact Ce _ i hi 0 (by omega)
 rw[e]at ho;rw[ho.cellAt (i*2+1) (by omega)];exact Ce _ i hi 1 (by omega)
def FP(W:World)(g:Nat)(o:Al):Prop:=W.heap[g]?=some (.cells #[.string o.t,.string o.s] 27 (0,0))
def Iw(W:World)(g:Nat)(r:RR):Prop:=W.heap[g]?=some (.cells #[.string r.name,r.sl] 147 (0,0))
theorem FP.c{W:af}{g:Nat}{o:Al}(h:FP W g o):W.cell? ⟨g,0,none⟩=some (.string o.t)/\W.cell? ⟨g,1,none⟩=some (.string o.s)/\g<W.heap.size:=by
 have hl:=(Vi.1 h).1;unfold FP at h;exact⟨by simp[World.cell?,h],by simp[World.cell?,h],hl⟩
theorem Iw.c{W:af}{g:Nat}{r:RR}(h:Iw W g r):W.cell? ⟨g,0,none⟩=some (.string r.name)/\W.cell? ⟨g,1,none⟩=some r.sl/\g<W.heap.size:=by
 have hl:=(Vi.1 h).1;unfold Iw at h;exact⟨by simp[World.cell?,h],by simp[World.cell?,h],hl⟩
theorem FP.kp{W W':af}{g:Nat}{o:Al}(h:FP W g o)(hk:KpI W W'):FP W' g o:=hk.cells g _ _ _ h (.inl rfl)
theorem Iw.kp{W W':af}{g:Nat}{r:RR}(h:Iw W g r)(hk:KpI W W'):Iw W' g r:=hk.cells g _ _ _ h (.inr rfl)
def iQ(rs:Q06)(st:Q00)(us:Q0a)(sn:Int)(xo:Q0a)(q:Nat):List Fc:=(xo.take q).flatMap (vQ (ag rs) st us sn)
def kQ(R:Q07)(us:Q0a)(o:Al)(k:Nat):List Fc:=(R.take k).flatMap fun r=>jl o r.name us
theorem Sn{rs:Q06}{st:Q00}{us:Q0a}{sn:Int}{xo:Q0a}{q:Nat}(h:q<xo.length):iQ rs st us sn xo (q+1)=iQ rs st us sn xo q++kQ (G.lookL (dH st rs) (xo[q].t,sn)) us xo[q] (G.lookL (dH st rs) (xo[q].t,sn)).length:=by
 unfold iQ kQ;rw[Ve h,VU,Vs];congr 1;simp only[VJ,List.flatMap_nil,V4];unfold vQ;rw[Ib,List.flatMap_map]
theorem Sq{R:Q07}{us:Q0a}{o:Al}{k:Nat}(h:k<R.length):kQ R us o (k+1)=kQ R us o k++jl o R[k].name us:=by
 unfold kQ;rw[Ve h,VU];simp
theorem NF(o:Al)(rel:bW){xu:Q0a}{j:Nat}(h:j<xu.length):jl o rel (xu.take (j+1))=jl o rel (xu.take j)++[⟨o.t,o.s,rel,xu[j].t,xu[j].s⟩]:=by
 unfold jl;rw[Ve h,VX];rfl
theorem NG{rs:Q06}{st:Q00}{xo us:Q0a}{sn:Int}{o:Al}{r:RR}{u:Al}(ho:o∈xo)(hr:r∈G.lookL (dH st rs) (o.t,sn))(hu:u∈us):(⟨o.t,o.s,r.name,u.t,u.s⟩:Fc)∈cZ (ag rs) st xo us sn:=by
 unfold cZ vQ;refine Vp.2 ⟨o,ho,Vp.2 ⟨(o.t,r.name),?_,Vo.2 ⟨u,hu,rfl⟩⟩⟩;rw[Ib];exact Vo.2 ⟨r,hr,rfl⟩
theorem QD(n:Nat)(hn:1<=n)(D br nr:Nat)(Mr:KL->Option Value)(st:Q00)(rs:Q06)(Yp:Q02)(Yc:Nat)(xo:Q0a)(gD gS gU:Nat)(sn:Int)(Xw:Q02)(WH:Nat)(us:Q0a)(w0:af)(hs0:0<=sn)(hs1:sn<=1000)(hol:xo.length<=1000)(ZV:us.length<=1000)(hrl:∀k,(G.lookL (dH st rs) k).length<=1000)(hof:∀o∈xo,o.t.size<=maxLen):
  EZ Fence.wide n prog 199 #[.pointer (some ⟨gD,0,none⟩),.pointer (some ⟨gS,0,none⟩),.pointer (some ⟨gU,0,none⟩)] Ew (fun _=>KpI) (fun _ W=>InM W D br nr Mr (dH st rs) Yp Yc xo gD gS gU sn Xw WH us) (fun _ x=>x∈cZ (ag rs) st xo us sn) (fun xs=>xs=cZ (ag rs) st xo us sn) w0:=by
 intro l J W _ _ _ hJ hT hY h0;have HJ:=ai hJ;have HT:=ai hT;have HY:=ai hY;have H0:=ai h0;have HOF:=ai hof;have hM:=hT _ _ h0;have HRL:=ai hrl;have bD:=hM.bD;have d4:=hM.d4;have lD:=aC bD;have lDD:=aC d4;clear hJ hT hY h0 hof hM hrl;refine callsIn_of_wp func199 rfl trivial ?_ rfl;simp only[ntmps199,List.size_toArray,VI,Wj,Nat.reduceAdd,Nat.reduceSub,Array.replicate_succ,Array.replicate_zero,List.push_toArray,List.append_toArray,Wh,VS];gi_wp2;clear bD d4 lD lDD
 gi_loopw [16] (fun i wr=>∃q:Nat,q<=xo.length/\i=.int .i64 q/\Hid (J (iQ rs st us sn xo q) wr)) (fun i _=>xo.length-(intOf i).toNat)
 case atStart=>exact⟨0,Vf _,rfl,H0⟩
 clear H0;obtain⟨q,hq,rfl,HJ1⟩:=hrel;by_cases hlq:q<xo.length
 ·have hM:=HT.out _ _ HJ1.out;obtain⟨bO,Xn,ZW,⟨o0,o1⟩,hbO⟩:=lK.at0 hM.objs hlq;have HSQ:=ai (Sn (rs:=rs) (st:=st) (us:=us) (sn:=sn) hlq);have HOS:=ai (HOF.out _ (U8 hlq));have HOM:Hid (xo[q]∈xo):=U8 hlq;obtain⟨o,ho⟩:∃o,o=xo[q]:=⟨_,rfl⟩;rw[<-ho]at o0 o1 HSQ HOS HOM;clear ho;have hq1:=bC q;have hq2:(q:Int)<(xo.length:Int):=by omega
  obtain⟨W1,hW1⟩:∃W1,W1=wr.alloc (.cells #[.string o.t,.string o.s] 27):=⟨_,rfl⟩;have HB1:=mi hW1;have HJ2:=ai (nM HJ.out HJ1.out HB1.out);have WT:Hid (FP W1 wr.heap.size o):=by rw[hW1];exact World.alloc_heap_new wr _
  have hM2:=HT.out _ _ HJ2.out;have bD:=hM2.bD;have bS:=hM2.bS;have d2:=hM2.d2;obtain⟨c0,c1,cl⟩:=WT.out.c;obtain⟨Xf,WJ,hgd,-⟩:=Lr hM2.rel (o.t,sn);obtain⟨kl,hkl⟩:=Le (o.t,sn) HOS.out hs0 (by show sn<=_;omega);obtain⟨R,hR⟩:∃R,R=G.lookL (dH st rs) (o.t,sn):=⟨_,rfl⟩;have hRl:R.length<=1000:=by rw[hR];exact HRL.out _
  rw[<-hR]at hgd HSQ;have HRE:=ai hR;have HGD:=ai hgd;have hlk:∀m,(Instr.lookup 165 (.map (some br)) (.agg #[.string o.t,.int .i64 sn]) false).run prog (W1.drewN m)=.ok (.slice Xf R.length WJ) (W1.drewN m):=fun m=>by
   have h:=(hM2.rel.map.below (below_drewN (Vb _ _) m)).look (t:=165) (e:=125) UI underlying165 (Qn _) (x:=(o.t,sn)) hkl;rw[hgd]at h;exact h
  subst ZW;clear hM hM2 hR hgd hkl;gi_wp2;rw[<-hW1];clear hW1;refine wpIn_wide.2 ?_;go_quiet (fail);obtain⟨W2,hW2⟩:∃W2,W2=W1.drewN nq:=⟨_,rfl⟩;have HB2:Hid (ae W1 W2):=by show Below _ _ _;rw[hW2];exact below_drewN (Vb _ _) _
  have HJ3:=ai (nM HJ.out HJ2.out HB2.out);have HBX2:=ai (WT.out.kp (KpI.below HB2.out));obtain⟨gO,hgO⟩:∃g,g=wr.heap.size:=⟨_,rfl⟩;rw[<-hgO]at HBX2 ⊢;rw[<-hW2];clear hW2 hgO c0 c1 cl bD bS d2 hlk HB1 HJ2 WT HJ1 o0 o1 hbO;gi_wp2
  gi_loopw [30] (fun i w2=>∃k:Nat,k<=R.length/\i=.int .i64 k/\Hid (J (iQ rs st us sn xo q++kQ R us o k) w2)/\Hid (FP w2 gO o)) (fun i _=>R.length-(intOf i).toNat)
  case atStart=>exact⟨0,Vf _,rfl,by show J (_++[]) _;rw[V4];exact HJ3.out,HBX2⟩
  clear HJ3 HBX2 HB2;obtain⟨k,hk,rfl,HJ4,WT⟩:=hrel;by_cases hlk:k<R.length
  ·have hM:=HT.out _ _ HJ4.out;obtain⟨adR',capR',hgd',hrows⟩:=Lr hM.rel (o.t,sn);rw[<-HRE.out,HGD.out]at hgd';injection hgd' with ea eb ec;subst ea;clear eb ec;obtain⟨gq,hadR,hgl,r0,r1⟩:=hrows k (by rw[<-HRE.out];exact hlk);have HKS:=ai (Sq (us:=us) (o:=o) hlk);have hrr:(G.lookL (dH st rs) (o.t,sn))[k]'(by rw[<-HRE.out];exact hlk)=R[k]:=by simp only[HRE.out]
   rw[hrr]at r0 r1;have HRM:Hid (R[k]∈R):=U8 hlk;obtain⟨r,hr⟩:∃r,r=R[k]:=⟨_,rfl⟩;rw[<-hr]at r0 r1 HKS HRM;have hk1:=bC k;have hk2:(k:Int)<(R.length:Int):=by omega
   obtain⟨W3,hW3⟩:∃W3,W3=wr.alloc (.cells #[.string r.name,r.sl] 147):=⟨_,rfl⟩;have HB3:=mi hW3;have HJ5:=ai (nM HJ.out HJ4.out HB3.out);have Zw:=ai (WT.out.kp (KpI.below HB3.out));have YZ:Hid (Iw W3 wr.heap.size r):=by rw[hW3];exact World.alloc_heap_new wr _
   have hM3:=HT.out _ _ HJ5.out;have bU:=hM3.bU;have lU:=aC bU;have bU0:=hM.bU;have lU0:=aC bU0;unfold RR.sl at r1 hW3;obtain⟨gR,hgR⟩:∃g,g=wr.heap.size:=⟨_,rfl⟩;subst hadR;clear hM hM3 hr hrr hrows;gi_wp2;rw[<-hW3,<-hgR];rw[<-hgR]at YZ;clear hW3 hgR bU lU bU0 lU0 r0 r1 hgl HB3 HJ4 WT
   gi_loopw [36] (fun i w2=>∃j:Nat,j<=us.length/\i=.int .i64 j/\Hid (J (iQ rs st us sn xo q++kQ R us o k++jl o r.name (us.take j)) w2)/\Hid (FP w2 gO o)/\Hid (Iw w2 gR r)) (fun i _=>us.length-(intOf i).toNat)
   case atStart=>exact⟨0,Vf _,rfl,by show J (_++[]) _;rw[V4];exact HJ5.out,Zw,YZ⟩
   clear HJ5 Zw YZ;obtain⟨j,hj,rfl,HJ6,Zw,YZ⟩:=hrel;by_cases hlj:j<us.length
   ·have hM:=HT.out _ _ HJ6.out;obtain⟨bV,offV,hadU,⟨y0,y1⟩,hbV⟩:=lK.at0 hM.users hlj;have HAS:=ai (NF o r.name hlj);obtain⟨u,hu⟩:∃u,u=us[j]:=⟨_,rfl⟩;rw[<-hu]at y0 y1 HAS;have hj1:=bC j;have hj2:(j:Int)<(us.length:Int):=by omega
    obtain⟨W4,WP⟩:∃W4,W4=wr.alloc (.cells #[.string u.t,.string u.s] 27):=⟨_,rfl⟩;have Xu:=mi WP;have HJ7:=nM HJ.out HJ6.out Xu.out;have Zn:=ai (Zw.out.kp (KpI.below Xu.out));have HBR2:=ai (YZ.out.kp (KpI.below Xu.out));obtain⟨fn,tmps,assign,body,hy,hR⟩:=HY.out _ ⟨o.t,o.s,r.name,u.t,u.s⟩ W4 HJ7 (NG HOM.out (by rw[<-HRE.out];exact HRM.out) (by rw[hu];exact U8 hlj));obtain⟨c0,c1,cl⟩:=Zw.out.c;obtain⟨e0,e1,el⟩:=YZ.out.c;have HRR:=ai hR;unfold Ew at hy;subst hadU;subst WP;clear hM hu HJ7 hR;gi_wp2;refine HRR.out.mono ?_;rintro e W5 ⟨rfl,hJ8,hK8⟩;have HJ8:Hid (J (iQ rs st us sn xo q++kQ R us o k++jl o r.name (us.take (j+1))) W5):=by show J _ _;rw[HAS.out,<-VD];exact hJ8
    have HBO3:=ai (Zn.out.kp hK8);have HBR3:=ai (HBR2.out.kp hK8);clear hJ8 hK8 hy y0 y1 c0 c1 cl e0 e1 el;gi_wp2;go_roundw;case rel=>exact⟨j+1,by omega,by go_num,HJ8,HBO3,HBR3⟩
    simp[intOf]<;>omega
   have HJ7:Hid (J (iQ rs st us sn xo q++kQ R us o (k+1)) wr):=by
    have h1:=HJ6.out;rw[VE (by omega),VD,<-HKS.out]at h1;exact h1
   gi_wp2;go_roundw;case rel=>exact⟨k+1,by omega,by go_num,HJ7,Zw⟩
   simp[intOf]<;>omega
  have HE2:Hid (iQ rs st us sn xo q++kQ R us o k=iQ rs st us sn xo (q+1)):=by show _=_;rw[HSQ.out,show k=R.length by omega]
  have HJ5:Hid (J (iQ rs st us sn xo (q+1)) wr):=by show J _ _;rw[<-HE2.out];exact HJ4.out
  gi_wp2;go_roundw;case rel=>exact⟨q+1,by omega,by go_num,HJ5⟩
  simp[intOf]<;>omega
 have HE:Hid (iQ rs st us sn xo q=cZ (ag rs) st xo us sn):=by show _=_;unfold iQ cZ;rw[VE (by omega)]
 have HJ2:Hid (J (cZ (ag rs) st xo us sn) wr):=by show J _ _;rw[<-HE.out];exact HJ1.out
 gi_wp2
 go_end0
 exact⟨⟨_,rfl⟩,_,rfl,HJ2.out⟩
end Go.Proofs.YtajkkeikihhejaaGreat
namespace Go.Proofs.YtajkkeikihhejaaGreat
set_option linter.unusedVariables false
set_option maxRecDepth 100000
open ChangeShapes WideShapes ChangeAt RowKit Maps
open Pl
section
variable  {w:World}{rs:Q06}{D br bp bt bK nK:Nat}{n1:Int}{nr:Nat}{Mr:KL->Option Value}{Er:List (KL×RR)}{ts:Q05}{xo xu:Q0a}{np:Nat}{Mp:K3->Option Value}{vo vu:Value}{out:Q04}{f:Fc}{Ws:Q02}{capE:Nat}{rows:Q08}{n:Nat}
theorem NH(hn:n<rows.length)(hD:DatA w rs D br bp bt n1 nr Mr Er (bn ts) xo xu np Mp vo vu)(hK:aM jf prog 29 w bK nK (uK out))(hf:f.fits)(hts:∀t∈ts,t.fits)(htl:ts.length<=1000)(hex:ik w Ws rows)(hre:rows.length<=1000)(hk:rows[n].e.kind=1):
  Calls prog 167 #[.pointer (some ⟨D,0,none⟩),.slice Ws rows.length capE,.int .i64 (n:Int),.agg #[.string f.a,.string f.b,.string f.r,.string f.c,.string f.d],.map (some bK)] w fun e w'=>e=.returned (.bool (eQ ts out f))/\ae w w':=by
 obtain⟨b,off,Wt,⟨t0,t1,t2,t3,t4⟩,hbl,hok⟩:=ik.at0 hex hn;obtain⟨W0,hW0⟩:∃W0,W0=IW w D (.slice Ws rows.length capE) f bK rows[n]:=⟨_,rfl⟩;have HB0:Hid (ae w W0):=by show Below _ _ _;rw[hW0];exact l7 _ _ _ _ _ _
 have Yj:Hid (NdB W0 w.heap.size D (.slice Ws rows.length capE) f bK rows[n]):=by show NdB _ _ _ _ _ _ _;rw[hW0];exact l8 _ _ _ _ _ _
 have hk1:(rows[n].e.kind==1)=true:=by rw[hk];rfl
 have YN:b<w.heap.size+1:=by omega
 have hbl2:b<w.heap.size+1+1:=by omega
 have hbl3:b<w.heap.size+1+1+1:=by omega
 have hn1:=bC n;have hn2:(n:Int)<(rows.length:Int):=by omega
 unfold IW zg at hW0;have HC:=ai (CK (hD.below HB0.out) (hK.below HB0.out) hf hts htl);clear hD hK hts hex hk hok;subst Wt;go_enter func167,ntmps167;go_wp2_with fail;rw[<-hW0];clear hW0 t0 t1 t2 t3 t4;refine(HC.out).mono ?_;rintro e w1 ⟨rfl,hb1⟩;have HB1:=ai (HB0.out.trans (hb1.mono HB0.out.size));clear hb1;go_wp2;go_ret;exact⟨rfl,HB1.out⟩
theorem QE(hn:n<rows.length)(hK:aM jf prog 29 w bK nK (uK out))(hf:f.fits)(hnm:rows[n].e.name.size<=maxLen)(hex:ik w Ws rows)(hre:rows.length<=1000)(hk:rows[n].e.kind=2):
  Calls prog 167 #[.pointer (some ⟨D,0,none⟩),.slice Ws rows.length capE,.int .i64 (n:Int),.agg #[.string f.a,.string f.b,.string f.r,.string f.c,.string f.d],.map (some bK)] w fun e w'=>e=.returned (.bool (bB out ⟨f.a,f.b,rows[n].e.name,f.c,f.d⟩))/\ae w w':=by
 obtain⟨b,off,Wt,⟨t0,t1,t2,t3,t4⟩,hbl,hok⟩:=ik.at0 hex hn;obtain⟨W0,hW0⟩:∃W0,W0=IW w D (.slice Ws rows.length capE) f bK rows[n]:=⟨_,rfl⟩;have HB0:Hid (ae w W0):=by show Below _ _ _;rw[hW0];exact l7 _ _ _ _ _ _
 have Yj:Hid (NdB W0 w.heap.size D (.slice Ws rows.length capE) f bK rows[n]):=by show NdB _ _ _ _ _ _ _;rw[hW0];exact l8 _ _ _ _ _ _
 have hk1:(rows[n].e.kind==1)=false:=by rw[hk];rfl
 have hk2:(rows[n].e.kind==2)=true:=by rw[hk];rfl
 have YN:b<w.heap.size+1:=by omega
 have hbl2:b<w.heap.size+1+1:=by omega
 have hbl3:b<w.heap.size+1+1+1:=by omega
 have hn1:=bC n;have hn2:(n:Int)<(rows.length:Int):=by omega
 unfold IW zg at hW0;have HC:=ai (rD bK nK out ⟨f.a,f.b,rows[n].e.name,f.c,f.d⟩ W0 ⟨hf.1,hf.2.1,hnm,hf.2.2.2.1,hf.2.2.2.2⟩ (hK.below HB0.out));clear hK hex hk hok hf;subst Wt;go_enter func167,ntmps167;go_wp2_with fail;rw[<-hW0];clear hW0 t0 t1 t2 t3 t4;refine(HC.out).mono ?_;rintro e w1 ⟨rfl,hb1⟩;have HB1:=ai (HB0.out.trans (hb1.mono HB0.out.size));clear hb1;go_wp2;go_ret;exact⟨rfl,HB1.out⟩
theorem NI(hn:n<rows.length)(hD:DatA w rs D br bp bt n1 nr Mr Er (bn ts) xo xu np Mp vo vu)(hK:aM jf prog 29 w bK nK (uK out))(hf:f.fits)(hxf:rows[n].e.over.size<=maxLen/\rows[n].e.name.size<=maxLen)(hts:∀t∈ts,t.fits)(htl:ts.length<=1000)(hex:ik w Ws rows)(hre:rows.length<=1000)(hk:rows[n].e.kind=3):
  Calls prog 167 #[.pointer (some ⟨D,0,none⟩),.slice Ws rows.length capE,.int .i64 (n:Int),.agg #[.string f.a,.string f.b,.string f.r,.string f.c,.string f.d],.map (some bK)] w fun e w'=>e=.returned (.bool (gp ts out rows[n].e.over rows[n].e.name f))/\ae w w':=by
 obtain⟨b,off,Wt,⟨t0,t1,t2,t3,t4⟩,hbl,hok⟩:=ik.at0 hex hn;obtain⟨W0,hW0⟩:∃W0,W0=IW w D (.slice Ws rows.length capE) f bK rows[n]:=⟨_,rfl⟩;have HB0:Hid (ae w W0):=by show Below _ _ _;rw[hW0];exact l7 _ _ _ _ _ _
 have Yj:Hid (NdB W0 w.heap.size D (.slice Ws rows.length capE) f bK rows[n]):=by show NdB _ _ _ _ _ _ _;rw[hW0];exact l8 _ _ _ _ _ _
 have hk1:(rows[n].e.kind==1)=false:=by rw[hk];rfl
 have hk2:(rows[n].e.kind==2)=false:=by rw[hk];rfl
 have hk3:(rows[n].e.kind==3)=true:=by rw[hk];rfl
 have YN:b<w.heap.size+1:=by omega
 have hbl2:b<w.heap.size+1+1:=by omega
 have hbl3:b<w.heap.size+1+1+1:=by omega
 have hn1:=bC n;have hn2:(n:Int)<(rows.length:Int):=by omega
 unfold IW zg at hW0;have HC:=ai (CL (hD.below HB0.out) (hK.below HB0.out) rows[n] hxf hf hts htl);clear hD hK hts hex hk hok hxf hf;subst Wt;go_enter func167,ntmps167;go_wp2_with fail;rw[<-hW0];clear hW0 t0 t1 t2 t3 t4;refine(HC.out).mono ?_;rintro e w1 ⟨rfl,hb1⟩;have HB1:=ai (HB0.out.trans (hb1.mono HB0.out.size));clear hb1;go_wp2;go_ret;exact⟨rfl,HB1.out⟩
theorem KC(hn:n<rows.length)(H:Int->Bool)(hkl:rows[n].e.kids.length<=1000)(ZJ:∀i∈rows[n].e.kids,FO D (.slice Ws rows.length capE) f bK w i (H i))(hex:ik w Ws rows)(hre:rows.length<=1000)(hk:rows[n].e.kind=4):
  Calls prog 167 #[.pointer (some ⟨D,0,none⟩),.slice Ws rows.length capE,.int .i64 (n:Int),.agg #[.string f.a,.string f.b,.string f.r,.string f.c,.string f.d],.map (some bK)] w fun e w'=>e=.returned (.bool (rows[n].e.kids.any H))/\ae w w':=by
 obtain⟨b,off,Wt,⟨t0,t1,t2,t3,t4⟩,hbl,hok⟩:=ik.at0 hex hn;obtain⟨W0,hW0⟩:∃W0,W0=IW w D (.slice Ws rows.length capE) f bK rows[n]:=⟨_,rfl⟩;have HB0:Hid (ae w W0):=by show Below _ _ _;rw[hW0];exact l7 _ _ _ _ _ _
 have Yj:Hid (NdB W0 w.heap.size D (.slice Ws rows.length capE) f bK rows[n]):=by show NdB _ _ _ _ _ _ _;rw[hW0];exact l8 _ _ _ _ _ _
 have hk1:(rows[n].e.kind==1)=false:=by rw[hk];rfl
 have hk2:(rows[n].e.kind==2)=false:=by rw[hk];rfl
 have hk3:(rows[n].e.kind==3)=false:=by rw[hk];rfl
 have hk4:(rows[n].e.kind==4)=true:=by rw[hk];rfl
 have YN:b<w.heap.size+1:=by omega
 have hbl2:b<w.heap.size+1+1:=by omega
 have hbl3:b<w.heap.size+1+1+1:=by omega
 have hn1:=bC n;have hn2:(n:Int)<(rows.length:Int):=by omega
 unfold IW zg at hW0;have HC:=ai (tO 211 #[] #[.pointer (some ⟨w.heap.size,0,none⟩),.pointer (some ⟨w.heap.size+1,0,none⟩),.pointer (some ⟨w.heap.size+1+1,0,none⟩),.pointer (some ⟨w.heap.size+1+1+1,0,none⟩)] H rows[n].adK rows[n].capK rows[n].e.kids W0 (by omega) (hok.2.below HB0.out) T9 (fun i hi w1 hb=>pV (ZJ i hi) (HB0.out.trans (hb.mono HB0.out.size)) (Yj.out.below hb)));clear ZJ hex hk hok;subst Wt;go_enter func167,ntmps167;go_wp2_with fail;rw[<-hW0];clear hW0 t0 t1 t2 t3 t4;refine(HC.out).mono ?_;rintro e w1 ⟨rfl,hb1⟩;have HB1:=ai (HB0.out.trans (hb1.mono HB0.out.size));clear hb1;go_wp2;go_ret;exact⟨rfl,HB1.out⟩
theorem NJ(hn:n<rows.length)(H:Int->Bool)(hkl:rows[n].e.kids.length<=1000)(ZJ:∀i∈rows[n].e.kids,FO D (.slice Ws rows.length capE) f bK w i (H i))(hex:ik w Ws rows)(hre:rows.length<=1000)(hk:rows[n].e.kind=5):
  Calls prog 167 #[.pointer (some ⟨D,0,none⟩),.slice Ws rows.length capE,.int .i64 (n:Int),.agg #[.string f.a,.string f.b,.string f.r,.string f.c,.string f.d],.map (some bK)] w fun e w'=>e=.returned (.bool (rows[n].e.kids.all H))/\ae w w':=by
 obtain⟨b,off,Wt,⟨t0,t1,t2,t3,t4⟩,hbl,hok⟩:=ik.at0 hex hn;obtain⟨W0,hW0⟩:∃W0,W0=IW w D (.slice Ws rows.length capE) f bK rows[n]:=⟨_,rfl⟩;have HB0:Hid (ae w W0):=by show Below _ _ _;rw[hW0];exact l7 _ _ _ _ _ _
 have Yj:Hid (NdB W0 w.heap.size D (.slice Ws rows.length capE) f bK rows[n]):=by show NdB _ _ _ _ _ _ _;rw[hW0];exact l8 _ _ _ _ _ _
 have hk1:(rows[n].e.kind==1)=false:=by rw[hk];rfl
 have hk2:(rows[n].e.kind==2)=false:=by rw[hk];rfl
 have hk3:(rows[n].e.kind==3)=false:=by rw[hk];rfl
 have hk4:(rows[n].e.kind==4)=false:=by rw[hk];rfl
 have hk5:(rows[n].e.kind==5)=true:=by rw[hk];rfl
 have YN:b<w.heap.size+1:=by omega
 have hbl2:b<w.heap.size+1+1:=by omega
 have hbl3:b<w.heap.size+1+1+1:=by omega
 have hn1:=bC n;have hn2:(n:Int)<(rows.length:Int):=by omega
 unfold IW zg at hW0;have HC:=ai (tO 212 #[] #[.pointer (some ⟨w.heap.size+1+1+1+1+1,0,none⟩)] (fun i=>!H i) rows[n].adK rows[n].capK rows[n].e.kids W0 (by omega) (hok.2.below HB0.out) Ua (fun i hi w1 hb=>wX (ZJ i hi) (HB0.out.trans (hb.mono HB0.out.size)) (Yj.out.below hb)));have WM:Hid ((rows[n].e.kids.any fun i=>!H i)=!rows[n].e.kids.all H):=by show _=_;rw[List.not_all_eq_any_not]
 clear ZJ hex hk hok;subst Wt;go_enter func167,ntmps167;go_wp2_with fail;rw[<-hW0];clear hW0 t0 t1 t2 t3 t4;refine(HC.out).mono ?_;rintro e w1 ⟨he,hb1⟩;rw[WM.out]at he;subst he;have HB1:=ai (HB0.out.trans (hb1.mono HB0.out.size));clear hb1;go_wp2;go_ret;exact⟨by simp,HB1.out⟩
end
theorem Cf{e:Ex}(h:ay e=true):(e.kind=2->e.name.size<=maxLen)/\(e.kind=3->e.over.size<=maxLen/\e.name.size<=maxLen)/\(e.kind=1\/e.kind=2\/e.kind=3\/e.kind=4\/e.kind=5\/e.kind=6):=by
 unfold ay at h;have hle:∀s:ByteArray,aU s=true->s.size<=maxLen:=fun s hs=>by have:=(ol hs).2;unfold maxLen;omega
 by_cases k1:e.kind=1
 ·exact⟨fun h2=>by omega,fun h3=>by omega,.inl k1⟩
 by_cases k2:e.kind=2
 ·rw[if_neg k1,if_pos k2]at h;simp only[Vd]at h;exact⟨fun _=>hle _ h.1.1.1,fun h3=>by omega,.inr (.inl k2)⟩
 by_cases k3:e.kind=3
 ·rw[if_neg k1,if_neg k2,if_pos k3]at h;simp only[Vd]at h;exact⟨fun h2=>by omega,fun _=>⟨hle _ h.1.1.1,hle _ h.1.1.2⟩,.inr (.inr (.inl k3))⟩
 refine⟨fun h2=>absurd h2 k2,fun h3=>absurd h3 k3,?_⟩;by_cases k4:e.kind=4\/e.kind=5
 ·rcases k4 with k4|k4
  ·exact .inr (.inr (.inr (.inl k4)))
  exact .inr (.inr (.inr (.inr (.inl k4))))
 by_cases k6:e.kind=6
 ·exact .inr (.inr (.inr (.inr (.inr k6))))
 rw[if_neg k1,if_neg k2,if_neg k3,if_neg k4,if_neg k6]at h;cases h
section
variable  {rs:Q06}{D br bp bt bK nK:Nat}{n1:Int}{nr:Nat}{Mr:KL->Option Value}{Er:List (KL×RR)}{ts:Q05}{xo xu:Q0a}{np:Nat}{Mp:K3->Option Value}{vo vu:Value}{out:Q04}{f:Fc}{Ws:Q02}{capE:Nat}{rows:Q08}
theorem nV(hN:Ym rows)(hnb:∀e∈ak rows,ay e=true)(hf:f.fits)(hts:∀t∈ts,t.fits)(htl:ts.length<=1000):
  ∀(k n:Nat) (w:World),n<k->n<rows.length->DatA w rs D br bp bt n1 nr Mr Er (bn ts) xo xu np Mp vo vu->aM jf prog 29 w bK nK (uK out)->ik w Ws rows ->
  Calls prog 167 #[.pointer (some ⟨D,0,none⟩),.slice Ws rows.length capE,.int .i64 (n:Int),.agg #[.string f.a,.string f.b,.string f.r,.string f.c,.string f.d],.map (some bK)] w fun e w'=>e=.returned (.bool (dh ts (ak rows) out f k out n))/\ae w w'
 | 0,_,_,h,_,_,_,_=>absurd h (V5 _)
 | k+1,n,w,hk,hn,hD,hK,hex=>by
  have e:(ak rows)[n]?=some rows[n].e:=by simp[ak,hn]
  have Xg:∀i∈rows[n].e.kids,FO D (.slice Ws rows.length capE) f bK w i (dh ts (ak rows) out f k out i.toNat):=fun i hi w1 hb1=>by
   have h1:=hN.kid hn hi;have h2:=nV hN hnb hf hts htl k i.toNat w1 (by omega) (by omega) (hD.below hb1) (hK.below hb1) (hex.below hb1);have e2:((i.toNat:Nat):Int)=i:=by omega
   rw[e2]at h2;exact h2
  have hm:rows[n]∈rows:=U8 hn;have hme:rows[n].e∈ak rows:=Vo.2 ⟨_,hm,rfl⟩;obtain⟨hn2,hn3,hkd⟩:=Cf (hnb _ hme);unfold dh;rw[e];by_cases k1:rows[n].e.kind=1
  ·simp only[if_pos k1];exact NH hn hD hK hf hts htl hex hN.len k1
  by_cases k2:rows[n].e.kind=2
  ·simp only[if_neg k1,if_pos k2];exact QE hn hK hf (hn2 k2) hex hN.len k2
  by_cases k3:rows[n].e.kind=3
  ·simp only[if_neg k1,if_neg k2,if_pos k3];exact NI hn hD hK hf (hn3 k3) hts htl hex hN.len k3
  by_cases k4:rows[n].e.kind=4
  ·simp only[if_neg k1,if_neg k2,if_neg k3,if_pos k4];exact KC hn (fun i=>dh ts (ak rows) out f k out i.toNat) (hN.kids _ hm) Xg hex hN.len k4
  by_cases k5:rows[n].e.kind=5
  ·simp only[if_neg k1,if_neg k2,if_neg k3,if_neg k4,if_pos k5];exact NJ hn (fun i=>dh ts (ak rows) out f k out i.toNat) (hN.kids _ hm) Xg hex hN.len k5
  have k6:rows[n].e.kind=6:=by omega
  simp only[if_neg k1,if_neg k2,if_neg k3,if_neg k4,if_neg k5,if_pos k6];have h2:=hN.two _ hme k6;have hg:∀q,q<2->rows[n].e.kids.getD q 0∈rows[n].e.kids:=fun q hq=>by
   rw[VH,Vg (by omega)];exact U8 _
  exact Qz hn _ _ (hN.kids _ hm) h2 (Xg _ (hg 0 (by omega))) (Xg _ (hg 1 (by omega))) hex hN.len k6
theorem Lt{rs:Q06}(h:bq (ag rs)=true){k:Q01}(hk:k∈au (ag rs)):∃t∈rs,∃q∈t.rows,pJ rs k=some q.sl/\ak q.rows=aB (ag rs) k.1 k.2/\aN (ak q.rows)=true:=by
 have hk':=hk;unfold au at hk;obtain⟨T,hT,hk⟩:=Vp.1 hk;obtain⟨t,ht,rfl⟩:=Vo.1 hT;unfold jN at hk;obtain⟨r,hr,rfl⟩:=Vo.1 hk;obtain⟨q,hq,rfl⟩:=Vo.1 hr;have hrel:=pU h ht hq;cases e:pJ rs (t.p.name,q.p.name) with
 | none =>
  have h1:=(pK h).no _ e;have h2:eD (ag rs) t.name q.name=none:=h1;rw[hrel]at h2;cases h2
 | some v =>
  obtain⟨t',ht',q',hq',-,rfl,e1,-⟩:=(pK h).yes _ v e;refine⟨t',ht',q',hq',rfl,?_,((bG h).2.2 t' ht' q' hq').1⟩;unfold aB;rw[e1];rfl
theorem NK{w:af}{ad:Q02}(hD:DatA w rs D br bp bt n1 nr Mr Er (bn ts) xo xu np Mp vo vu)(hK:aM jf prog 29 w bK nK (uK out))(hf:f.fits)(hts:∀t∈ts,t.fits)(htl:ts.length<=1000)(hsh:bq (ag rs)=true)(hkey:(f.a,f.r)∈au (ag rs))(hs:j5 w ad rs):
  Calls prog 146 #[.pointer (some ⟨D,0,none⟩),.agg #[.string f.a,.string f.b,.string f.r,.string f.c,.string f.d],.map (some bK)] w fun e w'=>e=.returned (.bool (fU (ag rs) ts out f))/\ae w w':=by
 obtain⟨t,htm,q,hq,htab,hrx,hsp⟩:=Lt hsh hkey;obtain⟨hN,hr1⟩:=zC hsp;have hnb:=iK hsp;have Yg:nY rs q.ad q.rows:=.inr ⟨t,htm,q,hq,rfl,rfl⟩;obtain⟨kl,hkl⟩:=jL (f.a,f.r) hf.1 hf.2.2.1;obtain⟨W0,hW0⟩:∃W0,W0=w.alloc (.cells #[.string f.a,.string f.b,.string f.r,.string f.c,.string f.d] 29):=⟨_,rfl⟩;have HB0:=mi hW0;have c0:W0.cell? ⟨w.heap.size,0,none⟩=some (.string f.a):=by rw[hW0];simp
 have c1:W0.cell? ⟨w.heap.size,1,none⟩=some (.string f.b):=by rw[hW0];simp
 have c2:W0.cell? ⟨w.heap.size,2,none⟩=some (.string f.r):=by rw[hW0];simp
 have c3:W0.cell? ⟨w.heap.size,3,none⟩=some (.string f.c):=by rw[hW0];simp
 have c4:W0.cell? ⟨w.heap.size,4,none⟩=some (.string f.d):=by rw[hW0];simp
 have d0:=HB0.out.cell (p:=⟨D,0,none⟩) hD.dat.lt |>.trans hD.dat.c0;obtain⟨Ws,YL⟩:∃a,a=q.ad:=⟨_,rfl⟩;obtain⟨capE,ZZ⟩:∃a,a=q.cap:=⟨_,rfl⟩;obtain⟨rows,hrows⟩:∃a,a=q.rows:=⟨_,rfl⟩;have hsl:q.sl=.slice Ws rows.length capE:=by rw[YL,ZZ,hrows];rfl
 rw[<-hrows]at hN hnb hr1 hrx;rw[<-hrows,<-YL]at Yg;have hlk:∀m,(Instr.lookup 91 (.map (some bt)) (.agg #[.string f.a,.string f.r]) false).run prog (W0.drewN m)=.ok (.slice Ws rows.length capE) (W0.drewN m):=fun m=>by
  have h:=((hD.tab.below HB0.out).below (below_drewN (Vb _ _) m)).look (t:=91) (e:=33) iW underlying91 (oF _) (x:=(f.a,f.r)) hkl;rw[htab,hsl]at h;exact h
 have hr1000:=hN.len;have hwr:IntKind.i64.wrap ((rows.length:Int)-1)=((rows.length-1:Nat):Int):=by rw[IntKind.wrap_i64];omega
 have HC:Hid (∀nq,Calls prog 167 #[.pointer (some ⟨D,0,none⟩),.slice Ws rows.length capE,.int .i64 ((rows.length-1:Nat):Int),.agg #[.string f.a,.string f.b,.string f.r,.string f.c,.string f.d],.map (some bK)] (W0.drewN nq) fun e w'=>e=.returned (.bool (fU (ag rs) ts out f))/\Below (W0.drewN nq).heap.size (W0.drewN nq) w'):=fun nq=>by
  have hb:ae w (W0.drewN nq):=below_drewN HB0.out nq;have h:=nV (capE:=capE) hN hnb hf hts htl rows.length (rows.length-1) (W0.drewN nq) (by omega) (by omega) (hD.below hb) (hK.below hb) (Yg.sl (hs.below hb));unfold fU;rw[<-hrx,aR];exact h
 clear hD hK hs hsp hkl htab hsl hN hnb hf YL ZZ hrows Yg hrx hkey;go_enter func146,ntmps146;go_wp2_with fail;rw[<-hW0];clear hW0;go_quiet (fail);clear d0 hlk;go_wp2_with fail;refine(HC.out _).mono ?_;rintro e w1 ⟨rfl,hb1⟩;have HB1:=ai ((below_drewN HB0.out _).trans (hb1.mono HB0.out.size));clear hb1 c0 c1 c2 c3 c4;go_wp2;go_ret;exact⟨rfl,HB1.out⟩
end
def Cg(w:World)(S:Nat->Prop)(P:Value->Ru->Prop)(ad:Q02)(Gs:List Ru):Prop:=Gs=[] \/ ∃g,ad=some ⟨g,0,none⟩/\S g/\g<w.heap.size/\∀(i:Nat) (h:i<Gs.length),∃u,w.cell? ⟨g,i,none⟩=some u/\P u Gs[i]
def aP(w:World)(S:Nat->Prop):Nat->Value->Ru->Prop
 | 0,_,_=>False
 | n+1,v,G =>
  (∃b:Bool,v=.iface 183 (.agg #[.bool b])/\G=fun _=>b) \/
  (∃(ad:Q02) (cap:Nat) (fs:Q04),v=.iface 242 (.agg #[.slice ad fs.length cap])/\(fs=[] \/ ∃g,ad=some ⟨g,0,none⟩/\S g)/\kw w ad fs/\(fs.length<=40/\(ad=none->cap=0))/\(∀x∈fs,x.fits)/\G=fun K=>fs.any K) \/
  (∃(ad:Q02) (cap:Nat) (Gs:List Ru),v=.iface 247 (.agg #[.slice ad Gs.length cap])/\Gs.length<=5/\Cg w S (aP w S n) ad Gs/\G=fun K=>Gs.any fun H=>H K) \/
  (∃(ad:Q02) (cap:Nat) (Gs:List Ru),v=.iface 248 (.agg #[.slice ad Gs.length cap])/\Gs.length<=5/\Cg w S (aP w S n) ad Gs/\G=fun K=>Gs.all fun H=>H K)
theorem kw.blockF{w w':af}{ad:Q02}{fs:Q04}(h:kw w ad fs)(hs:w.heap.size<=w'.heap.size)(hz:fs≠[]->∃g,ad=some ⟨g,0,none⟩/\(g<w.heap.size->w'.heap[g]?=w.heap[g]?)):kw w' ad fs:=by
 by_cases hx:fs=[]
 ·exact .inl hx
 rcases h with h|⟨b,off,e,hb,hr⟩
 ·exact absurd h hx
 obtain⟨g,e2,hg⟩:=hz hx;rw[e]at e2;injection e2 with e2;injection e2 with e2 e3;subst e2;exact .inr ⟨b,off,e,U9 hb hs,fun i hi=>(hr i hi).same fun o=>Vx (w:=w) (a:=⟨b,o,none⟩) (hg hb)⟩
theorem aP.keep{w w':af}{S T:Nat->Prop}(hs:w.heap.size<=w'.heap.size)(hk:∀g,S g->g<w.heap.size->T g/\w'.heap[g]?=w.heap[g]?):∀(n:Nat) (v:Value) (G:Ru),aP w S n v G->aP w' T n v G
 | 0,_,_,h=>h
 | n+1,v,G,h=>by
  have row:∀{ad:Q02} {Gs:List Ru},Cg w S (aP w S n) ad Gs->Cg w' T (aP w' T n) ad Gs:=fun {ad Gs} h=>by
   rcases h with h|⟨g,e,h1,h2,h3⟩
   ·exact .inl h
   obtain⟨k1,k2⟩:=hk g h1 h2;refine .inr ⟨g,e,k1,U9 h2 hs,fun i hi=>?_⟩;obtain⟨u,hu,hp⟩:=h3 i hi;exact⟨u,(Vx (w:=w) (a:=⟨g,i,none⟩) k2).trans hu,aP.keep hs hk n u _ hp⟩
  rcases h with h|⟨ad,cap,fs,e,hz,h1,h2,h3,h4⟩|⟨ad,cap,Gs,e,h1,h2,h3⟩|⟨ad,cap,Gs,e,h1,h2,h3⟩
  ·exact .inl h
  ·refine .inr (.inl ⟨ad,cap,fs,e,?_,?_,h2,h3,h4⟩)
   ·rcases hz with hz|⟨g,e1,hg⟩
    ·exact .inl hz
    by_cases hx:fs=[]
    ·exact .inl hx
    rcases h1 with h1|⟨b,off,e2,hb,-⟩
    ·exact absurd h1 hx
    rw[e1]at e2;injection e2 with e2;injection e2 with e2 e3;exact .inr ⟨g,e1,(hk g hg (by omega)).1⟩
   refine h1.blockF hs fun hne=>?_;rcases hz with hz|⟨g,e1,hg⟩
   ·exact absurd hz hne
   exact⟨g,e1,fun hl=>(hk g hg hl).2⟩
  ·exact .inr (.inr (.inl ⟨ad,cap,Gs,e,h1,row h2,h3⟩))
  exact .inr (.inr (.inr ⟨ad,cap,Gs,e,h1,row h2,h3⟩))
theorem aP.below{w w':af}{S:Nat->Prop}{n:Nat}{v:Value}{G:Ru}(h:aP w S n v G)(hb:ae w w'):aP w' S n v G:=aP.keep hb.size (fun g h1 h2=>⟨h1,hb.block g h2⟩) n v G h
theorem aP.more{w:af}{S:Nat->Prop}:∀(n:Nat) (v:Value) (G:Ru),aP w S n v G->aP w S (n+1) v G
 | 0,_,_,h=>h.elim
 | n+1,v,G,h=>by
  have row:∀{ad:Q02} {Gs:List Ru},Cg w S (aP w S n) ad Gs->Cg w S (aP w S (n+1)) ad Gs:=fun {ad Gs} h=>by
   rcases h with h|⟨g,e,h1,h2,h3⟩
   ·exact .inl h
   refine .inr ⟨g,e,h1,h2,fun i hi=>?_⟩;obtain⟨u,hu,hp⟩:=h3 i hi;exact⟨u,hu,aP.more n u _ hp⟩
  rcases h with h|h|⟨ad,cap,Gs,e,h1,h2,h3⟩|⟨ad,cap,Gs,e,h1,h2,h3⟩
  ·exact .inl h
  ·exact .inr (.inl h)
  ·exact .inr (.inr (.inl ⟨ad,cap,Gs,e,h1,row h2,h3⟩))
  exact .inr (.inr (.inr ⟨ad,cap,Gs,e,h1,row h2,h3⟩))
theorem aP.up{w:af}{S:Nat->Prop}{v:Value}{G:Ru}{n m:Nat}(h:aP w S n v G)(hm:n<=m):aP w S m v G:=by
 induction m with
 | zero =>
  have e:n=0:=by omega
  rw[e]at h;exact h
 | succ m ih =>
  by_cases e:n=m+1
  ·rw[<-e];exact h
  exact aP.more m v G (ih (by omega))
def jT(B:Nat)(g:Nat):Prop:=B<=g
theorem xe{w:af}{B:Nat}{v:Value}{fs:Q04}(h:w.ownsRow B 29 5 v fs.length (av fs))(hl:fs.length<=40)(hf:∀x∈fs,x.fits){G:Ru}(hG:G=fun K=>fs.any K):aP w (jT B) 1 (.iface 242 (.agg #[v])) G:=by
 obtain⟨ad,cap,e,hs⟩:=gI h;subst e;refine .inr (.inl ⟨ad,cap,fs,rfl,?_,hs,⟨hl,fun e=>?_⟩,hf,hG⟩);rotate_left
 ·subst e;rcases h.2 with⟨e2,-⟩|⟨g,cap2,cur,e2,-⟩
  ·injection e2
  cases e2
 by_cases hx:fs=[]
 ·exact .inl hx
 rcases h.2 with⟨-,h0⟩|⟨g,cap2,cur,e2,hbg,-⟩
 ·exact absurd (Vr.1 h0) hx
 injection e2 with e2;exact .inr ⟨g,e2,hbg⟩
theorem pX{w:af}{S:Nat->Prop}(b:Bool){G:Ru}(hG:G=fun _=>b):aP w S 1 (.iface 183 (.agg #[.bool b])) G:=.inl ⟨b,rfl,hG⟩
def uP(f:Fc)(L:Q05):List Fc:=(L.filter fun t=>!t.s.toList.isEmpty).map fun t=>⟨t.c,t.d,t.s,f.c,f.d⟩
def zD(f:Fc)(name:ByteArray)(L:Q05):List Fc:=L.map fun t=>⟨t.c,t.d,name,f.c,f.d⟩
theorem QF(f:Fc){L:Q05}{k:Nat}(h:k<L.length):uP f (L.take (k+1))=uP f (L.take k)++(if L[k].s.toList.isEmpty then [] else [⟨L[k].c,L[k].d,L[k].s,f.c,f.d⟩]):=by
 unfold uP;rw[Ve h,Wp,VX];congr 1;rw[Wm];cases L[k].s.toList.isEmpty<;>rfl
theorem QG(f:Fc)(name:bW){L:Q05}{k:Nat}(h:k<L.length):zD f name (L.take (k+1))=zD f name (L.take k)++[⟨L[k].c,L[k].d,name,f.c,f.d⟩]:=by
 unfold zD;rw[Ve h,VX];rfl
theorem Lu(f:Fc)(L:Q05):(uP f L).length<=L.length:=by unfold uP;rw[VN];exact List.length_filter_le _ _
theorem QH{f:Fc}{L:Q05}(hf:f.fits)(h:∀t∈L,t.fits):∀x∈uP f L,x.fits:=fun x hx=>by
 unfold uP at hx;obtain⟨t,ht,rfl⟩:=Vo.1 hx;have h1:=h t (V6.1 ht).1;exact⟨h1.2.2.2.1,h1.2.2.2.2.1,h1.2.2.2.2.2,hf.2.2.2.1,hf.2.2.2.2⟩
theorem QI{f:Fc}{name:ByteArray}{L:Q05}(hf:f.fits)(hn:name.size<=maxLen)(h:∀t∈L,t.fits):∀x∈zD f name L,x.fits:=fun x hx=>by
 unfold zD at hx;obtain⟨t,ht,rfl⟩:=Vo.1 hx;have h1:=h t ht;exact⟨h1.2.2.2.1,h1.2.2.2.2.1,hn,hf.2.2.2.1,hf.2.2.2.2⟩
def qy(f:Fc)(t:Tp):Bool:=t.s.toList.isEmpty&&yz t.c t.d f.c f.d
theorem Ch(f:Fc)(L:Q05)(K:Fc->Bool):L.any (Io K f)=(L.any (qy f) || (uP f L).any K):=by
 induction L with
 | nil=>rfl
 | cons t L ih =>
  have e:uP f (t::L)=(if t.s.toList.isEmpty then [] else [⟨t.c,t.d,t.s,f.c,f.d⟩])++uP f L:=by
   unfold uP;rw[Wm];cases t.s.toList.isEmpty<;>rfl
  rw[Wo,Wo,e,List.any_append,ih];unfold Io qy;cases hs:t.s.toList.isEmpty
  ·simp only[Bool.false_eq_true,if_false,Bool.false_and,Wo,List.any_nil,Bool.or_false,Bool.false_or];rw[<-Bool.or_assoc,Bool.or_comm (K _),Bool.or_assoc]
  simp only[if_true,Bool.true_and,List.any_nil,Bool.false_or];unfold yz;rw[Bool.or_assoc]
theorem QJ{ts:Q05}{f:Fc}(h:(G.lookL (bn ts) (f.a,f.b,f.r)).any (qy f)=true):rH ts f=fun _=>true:=by
 funext K
 unfold rH;rw[<-rA ts (f.a,f.b,f.r) (Io K f),Ch,h];rfl
theorem Sr{ts:Q05}{f:Fc}(h:(G.lookL (bn ts) (f.a,f.b,f.r)).any (qy f)=false):rH ts f=fun K=>(uP f (G.lookL (bn ts) (f.a,f.b,f.r))).any K:=by
 funext K
 unfold rH;rw[<-rA ts (f.a,f.b,f.r) (Io K f),Ch,h];rfl
theorem Su{ts:Q05}{f:Fc}{over name:ByteArray}:Eu ts over name f=fun K=>(zD f name (G.lookL (bn ts) (f.a,f.b,over))).any K:=by
 funext K
 unfold Eu zD;rw[<-rA ts (f.a,f.b,over) (fun t=>K ⟨t.c,t.d,name,f.c,f.d⟩),List.any_map];rfl
structure PrM(w:World)(P D:Nat)(Xq:Q02)(WC:Nat)(out:Q04)(bK nK:Nat):Prop where
 lt:P<w.heap.size
 c0:w.cell? ⟨P,0,none⟩=some (.pointer (some ⟨D,0,none⟩))
 c1:w.cell? ⟨P,1,none⟩=some (.slice Xq out.length WC)
 c2:w.cell? ⟨P,2,none⟩=some (.map (some bK))
 found:kw w Xq out
 set:aM jf prog 29 w bK nK (uK out)
theorem PrM.below{w w':af}{P D:Nat}{Xq:Q02}{WC:Nat}{out:Q04}{bK nK:Nat}(h:PrM w P D Xq WC out bK nK)(hb:ae w w'):PrM w' P D Xq WC out bK nK :=
 ⟨U9 h.lt hb.size,aI hb h.lt h.c0,aI hb h.lt h.c1,aI hb h.lt h.c2,h.found.below hb,h.set.below hb⟩
section
variable  {w:World}{rs:Q06}{P D br bp bt bK nK:Nat}{n1:Int}{nr:Nat}{Mr:KL->Option Value}{Er:List (KL×RR)}{ts:Q05}{xo xu:Q0a}{np:Nat}{Mp:K3->Option Value}{vo vu:Value}{out:Q04}{f:Fc}{Xq:Q02}{WC:Nat}
theorem FQ(hP:PrM w P D Xq WC out bK nK)(hD:DatA w rs D br bp bt n1 nr Mr Er (bn ts) xo xu np Mp vo vu)(hf:f.fits)(hts:∀t∈ts,t.fits)(htl:ts.length<=40):
  Calls prog 164 #[.pointer (some ⟨P,0,none⟩),.agg #[.string f.a,.string f.b,.string f.r,.string f.c,.string f.d]] w fun e w'=>(∃v,e=.returned v/\aP w' (jT w.heap.size) 1 v (rH ts f))/\ae w w':=by
 obtain⟨iF,i0,i1,i2,i3⟩:=pQ;have Zo:=ai (And.intro i0 (And.intro i1 (And.intro i2 i3)));obtain⟨kl,hkl⟩:=vS (f.a,f.b,f.r) hf.1 hf.2.1 hf.2.2.1;obtain⟨WY,Wz,hgd,hsl⟩:=wU hD.dat.told (f.a,f.b,f.r);have hll:=wW ts (f.a,f.b,f.r);have HFL:Hid (∀t∈G.lookL (bn ts) (f.a,f.b,f.r),t.fits):=fun t ht=>hts t (wV ht);have HHIT:Hid ((G.lookL (bn ts) (f.a,f.b,f.r)).any (qy f)=true->rH ts f=fun _=>true):=QJ;have XI:Hid ((G.lookL (bn ts) (f.a,f.b,f.r)).any (qy f)=false->rH ts f=fun K=>(uP f (G.lookL (bn ts) (f.a,f.b,f.r))).any K):=Sr;obtain⟨L,X7⟩:∃L,L=G.lookL (bn ts) (f.a,f.b,f.r):=⟨_,rfl⟩;rw[<-X7]at hgd hsl hll HFL XI HHIT;obtain⟨W0,hW0⟩:∃W0,W0=w.alloc (.cells #[.string f.a,.string f.b,.string f.r,.string f.c,.string f.d] 29):=⟨_,rfl⟩;have HB0:=mi hW0;have c0:W0.cell? ⟨w.heap.size,0,none⟩=some (.string f.a):=by rw[hW0];simp
 have c1:W0.cell? ⟨w.heap.size,1,none⟩=some (.string f.b):=by rw[hW0];simp
 have c2:W0.cell? ⟨w.heap.size,2,none⟩=some (.string f.r):=by rw[hW0];simp
 have c3:W0.cell? ⟨w.heap.size,3,none⟩=some (.string f.c):=by rw[hW0];simp
 have c4:W0.cell? ⟨w.heap.size,4,none⟩=some (.string f.d):=by rw[hW0];simp
 have d3:=HB0.out.cell (p:=⟨D,3,none⟩) hD.dat.lt |>.trans hD.dat.c3;have p0:=aI HB0.out hP.lt hP.c0;have hlk:∀m,(Instr.lookup 166 (.map (some bp)) (.agg #[.string f.a,.string f.b,.string f.r]) false).run prog (W0.drewN m)=.ok (.slice WY L.length Wz) (W0.drewN m):=fun m=>by
  have h:=((hD.dat.told.map.below HB0.out).below (below_drewN (Vb _ _) m)).look (t:=166) (e:=25) Lb underlying166 (Bu _) (x:=(f.a,f.b,f.r)) hkl;rw[hgd]at h;exact h
 have YQ:=ai (hsl.below HB0.out);have HF:=ai hf;have XC:Hid (W0.cell? ⟨w.heap.size,3,none⟩=some (.string f.c)/\W0.cell? ⟨w.heap.size,4,none⟩=some (.string f.d)/\w.heap.size<W0.heap.size):=⟨c3,c4,aC c3⟩;have XO:∀m,Hid ((W0.drewN m).ownsRow W0.heap.size 29 5 (.slice none 0 0) (uP f (L.take 0)).length (av (uP f (L.take 0)))):=fun m=>World.ownsRow_nil _ _ _ _;have HH0:Hid ((L.take 0).any (qy f)=false):=rfl;clear hsl hf X7 hgd hkl i0 i1 i2 i3 hP hts;go_enter func164,ntmps164;go_wp2_with fail;rw[<-hW0];clear hW0;go_quiet (fail);clear c0 c1 c2 c3 c4 d3 p0 hlk;go_wp2;go_loopw[5,22] (fun v i wr=>∃k:Nat,k<=L.length/\i=.int .i64 k/\Hid (wr.ownsRow W0.heap.size 29 5 v (uP f (L.take k)).length (av (uP f (L.take k))))/\Hid (ae W0 wr)/\Hid ((L.take k).any (qy f)=false)) (fun _ i _=>L.length-(intOf i).toNat);case atStart=>exact⟨0,Vf _,rfl,XO _,below_drewN (Vb _ _) _,HH0⟩
 clear XO HH0;obtain⟨k,hk,rfl,HO,HB,HH⟩:=hrel;by_cases hlt:k<L.length
 ·obtain⟨bT,offT,Yh,⟨a0,a1,a2,a3,a4,a5⟩,hbT⟩:=Sl.at0 (YQ.out.below HB.out) hlt;obtain⟨c3,c4,cl⟩:=XC.out;replace c3:=aI HB.out cl c3;replace c4:=aI HB.out cl c4;replace cl:=U9 cl HB.out.size;have hi1:=bC k;have hi2:(k:Int)<(L.length:Int):=by omega
  have Zu:=ai (QF f hlt);have hkl:(uP f (L.take k)).length<=k:=by
   have h:=Lu f (L.take k);rw[Vz]at h;omega
  have HHT:Hid ((L.take (k+1)).any (qy f)=((L.take k).any (qy f) || qy f L[k])):=by show _=_;rw[Ve hlt,List.any_append];simp
  have HHA:Hid (qy f L[k]=true->L.any (qy f)=true):=fun h=>VF.2 ⟨_,U8 hlt,h⟩;obtain⟨t,ht⟩:∃t,t=L[k]:=⟨_,rfl⟩;rw[<-ht]at a0 a1 a2 a3 a4 a5 Zu HHT HHA;clear ht;obtain⟨W1,hW1⟩:∃W1,W1=wr.alloc (.cells #[.string t.a,.string t.b,.string t.r,.string t.c,.string t.d,.string t.s] 46):=⟨_,rfl⟩;have WZ:=mi hW1;have Wx:=ai (HB.out.trans (WZ.out.mono HB.out.size));have hz1:W1.heap.size=wr.heap.size+1:=by rw[hW1];simp
  have WK:=ai (bu HO.out WZ.out);obtain⟨ys,hys⟩:∃ys,ys=uP f (L.take k):=⟨_,rfl⟩;rw[<-hys]at WK Zu hkl;obtain⟨adV,Yu,rfl,-⟩:=gI WK.out;subst Yh;clear hys HO WZ;cases hs:t.s.toList.isEmpty;case true=>
   have hs2:(t.s.toList==[])=true:=by rw[nG];exact hs
   have HKE:Hid (uP f (L.take (k+1))=ys):=by show _=_;rw[Zu.out,hs];simp
   cases hu:yz t.c t.d f.c f.d;case true=>
    have heq:=iH _ _ _ _ hu;have HN:Hid (rH ts f=fun _=>true):=HHIT.out (HHA.out (by unfold qy;rw[hs,hu];rfl));have YM:Hid (ae w W1):=HB0.out.trans (Wx.out.mono HB0.out.size);clear hu hs;go_wp2;rw[<-hW1];go_ret;exact⟨⟨_,rfl,pX true HN.out⟩,YM.out⟩
   have heq:=iH _ _ _ _ hu;have HH2:Hid ((L.take (k+1)).any (qy f)=false):=by show _=_;rw[HHT.out,HH.out];unfold qy;rw[hu];simp
   have HR:Hid (W1.ownsRow W0.heap.size 29 5 (.slice adV ys.length Yu) (uP f (L.take (k+1))).length (av (uP f (L.take (k+1))))):=by show World.ownsRow _ _ _ _ _ _ _;rw[HKE.out];exact WK.out
   clear hu hs;go_wp2;rw[<-hW1];clear hW1;go_roundw;case rel=>exact⟨k+1,by omega,by go_num,HR,Wx,HH2⟩
   simp[intOf]<;>omega
  have hs2:(t.s.toList==[])=false:=by rw[nG];exact hs
  have HWE:Hid (uP f (L.take (k+1))=ys++[⟨t.c,t.d,t.s,f.c,f.d⟩]):=by show _=_;rw[Zu.out,hs];rfl
  have HH2:Hid ((L.take (k+1)).any (qy f)=false):=by show _=_;rw[HHT.out,HH.out];unfold qy;rw[hs];rfl
  clear hs;obtain⟨W4,WP⟩:∃W4,W4=W1.alloc (.cells #[.string t.c,.string t.d,.string t.s,.string f.c,.string f.d] 29):=⟨_,rfl⟩;have WG:Hid (W4.ownsRow W0.heap.size 29 5 (.slice adV ys.length Yu) ys.length (av ys)):=by show World.ownsRow _ _ _ _ _ _ _;rw[WP];exact WK.out.alloc _
  have HN4:Hid (∀j u,(Fc.row ⟨t.c,t.d,t.s,f.c,f.d⟩)[j]?=some u->W4.cell? ((⟨wr.heap.size+1,0,none⟩:Addr).add j)=some u):=by rw[<-hz1,WP];exact wM W1 ⟨t.c,t.d,t.s,f.c,f.d⟩
  have Xp:Hid (ae W0 W4):=by show Below _ _ _;rw[WP];exact Wx.out.alloc Wx.out.size _
  have Zm:W0.heap.size<=W4.heap.size:=Xp.out.size;go_wp2_with(at_builtin;rw[<-hW1];rw[<-WP];clear WP;refine wpList_append_own_at _ rfl _ _ 40 rfl W0.heap.size 29 iF (.agg #[.string ⟨#[]⟩,.string ⟨#[]⟩,.string ⟨#[]⟩,.string ⟨#[]⟩,.string ⟨#[]⟩]) 5 80 underlying40 Zo.out.1 Zo.out.2.1 Zo.out.2.2.1 Zo.out.2.2.2 rfl (by decide) _ ys.length (av ys) rfl WG.out ⟨wr.heap.size+1,0,none⟩ 1 1 (Fc.row ⟨t.c,t.d,t.s,f.c,f.d⟩) rfl rfl HN4.out (by simp[Fc.row,Value.oneCell']) (by unfold maxLen;omega) (by omega) Zm ?_);intro v' w5 hown hgr _ _;have HR:Hid (w5.ownsRow W0.heap.size 29 5 v' (uP f (L.take (k+1))).length (av (uP f (L.take (k+1))))):=by
   show World.ownsRow _ _ _ _ _ _ _;rw[HWE.out,Vh,kC];exact hown
  have YZ:Hid (ae W0 w5):=Xp.out.grown hgr Xp.out.size (fun g hg=>(WG.out.lt g hg).1);clear hown hgr c3 c4 cl;go_wp2;go_roundw;case rel=>exact⟨k+1,by omega,by go_num,HR,YZ,HH2⟩
  simp[intOf]<;>omega
 have HE:Hid (wr.ownsRow w.heap.size 29 5 u5 (uP f L).length (av (uP f L))):=by
  have h:=HO.out;rw[VE (by omega)]at h;exact dJ h HB0.out.size
 have XR:Hid (rH ts f=fun K=>(uP f L).any K):=XI.out (by have h:=HH.out;rw[VE (by omega)]at h;exact h);have HFF:Hid (∀y∈uP f L,y.fits):=QH HF.out HFL.out;have Xl:Hid ((uP f L).length<=40):=by show _<=_;have:=Lu f L;omega
 have YM:Hid (ae w wr):=HB0.out.trans (HB.out.mono HB0.out.size);clear HO;obtain⟨Xw,WH,rfl,-⟩:=gI HE.out;go_wp2;go_ret;exact⟨⟨_,rfl,xe HE.out Xl.out HFF.out XR.out⟩,YM.out⟩
theorem FR(x:ER)(hP:PrM w P D Xq WC out bK nK)(hD:DatA w rs D br bp bt n1 nr Mr Er (bn ts) xo xu np Mp vo vu)(hf:f.fits)(hov:x.e.over.size<=maxLen)(hnm:x.e.name.size<=maxLen)(hts:∀t∈ts,t.fits)(htl:ts.length<=40):
  Calls prog 165 #[.pointer (some ⟨P,0,none⟩),.agg #[.int .i64 x.e.kind,.slice x.adA x.e.allow.length x.capA,.string x.e.over,.string x.e.name,.slice x.adK x.e.kids.length x.capK],.agg #[.string f.a,.string f.b,.string f.r,.string f.c,.string f.d]] w fun e w'=>(∃v,e=.returned v/\aP w' (jT w.heap.size) 1 v (Eu ts x.e.over x.e.name f))/\ae w w':=by
 obtain⟨iF,i0,i1,i2,i3⟩:=pQ;have Zo:=ai (And.intro i0 (And.intro i1 (And.intro i2 i3)));obtain⟨kl,hkl⟩:=vS (f.a,f.b,x.e.over) hf.1 hf.2.1 hov;obtain⟨WY,Wz,hgd,hsl⟩:=wU hD.dat.told (f.a,f.b,x.e.over);have hll:=wW ts (f.a,f.b,x.e.over);have HFL:Hid (∀t∈G.lookL (bn ts) (f.a,f.b,x.e.over),t.fits):=fun t ht=>hts t (wV ht);have XI:Hid (Eu ts x.e.over x.e.name f=fun K=>(zD f x.e.name (G.lookL (bn ts) (f.a,f.b,x.e.over))).any K):=Su;obtain⟨L,X7⟩:∃L,L=G.lookL (bn ts) (f.a,f.b,x.e.over):=⟨_,rfl⟩;rw[<-X7]at hgd hsl hll HFL XI;obtain⟨W0,hW0⟩:∃W0,W0=(w.alloc (.cells #[.int .i64 x.e.kind,.slice x.adA x.e.allow.length x.capA,.string x.e.over,.string x.e.name,.slice x.adK x.e.kids.length x.capK] 39)).alloc (.cells #[.string f.a,.string f.b,.string f.r,.string f.c,.string f.d] 29):=⟨_,rfl⟩;have HB0:Hid (ae w W0):=by show Below _ _ _;rw[hW0];exact((Vb _ _).alloc (Va _) _).alloc (by simp) _
 have x2:W0.cell? ⟨w.heap.size,2,none⟩=some (.string x.e.over):=by rw[hW0];simp
 have x3:W0.cell? ⟨w.heap.size,3,none⟩=some (.string x.e.name):=by rw[hW0];simp
 have hbx:w.heap.size+1<W0.heap.size:=by rw[hW0];simp
 have c0:W0.cell? ⟨w.heap.size+1,0,none⟩=some (.string f.a):=by rw[hW0];simp
 have c1:W0.cell? ⟨w.heap.size+1,1,none⟩=some (.string f.b):=by rw[hW0];simp
 have c2:W0.cell? ⟨w.heap.size+1,2,none⟩=some (.string f.r):=by rw[hW0];simp
 have c3:W0.cell? ⟨w.heap.size+1,3,none⟩=some (.string f.c):=by rw[hW0];simp
 have c4:W0.cell? ⟨w.heap.size+1,4,none⟩=some (.string f.d):=by rw[hW0];simp
 have d3:=HB0.out.cell (p:=⟨D,3,none⟩) hD.dat.lt |>.trans hD.dat.c3;have p0:=aI HB0.out hP.lt hP.c0;have hlk:∀m,(Instr.lookup 166 (.map (some bp)) (.agg #[.string f.a,.string f.b,.string x.e.over]) false).run prog (W0.drewN m)=.ok (.slice WY L.length Wz) (W0.drewN m):=fun m=>by
  have h:=((hD.dat.told.map.below HB0.out).below (below_drewN (Vb _ _) m)).look (t:=166) (e:=25) Lb underlying166 (Bu _) (x:=(f.a,f.b,x.e.over)) hkl;rw[hgd]at h;exact h
 have YQ:=ai (hsl.below HB0.out);have HF:=ai hf;have XC:Hid (W0.cell? ⟨w.heap.size+1,3,none⟩=some (.string f.c)/\W0.cell? ⟨w.heap.size+1,4,none⟩=some (.string f.d)/\w.heap.size+1<W0.heap.size):=⟨c3,c4,aC c3⟩;have HX0:Hid (W0.cell? ⟨w.heap.size,3,none⟩=some (.string x.e.name)/\w.heap.size<W0.heap.size):=⟨x3,aC x3⟩;have XO:∀m,Hid ((W0.drewN m).ownsRow W0.heap.size 29 5 (.slice none 0 0) (zD f x.e.name (L.take 0)).length (av (zD f x.e.name (L.take 0)))):=fun m=>World.ownsRow_nil _ _ _ _;clear hsl hf X7 hgd hkl i0 i1 i2 i3 hP hts;go_enter func165,ntmps165;go_wp2_with fail;rw[<-hW0];clear hW0;go_quiet (fail);clear c0 c1 c2 c3 c4 d3 p0 hlk x2 x3;go_wp2;go_loopw[7,24] (fun v i wr=>∃k:Nat,k<=L.length/\i=.int .i64 k/\Hid (wr.ownsRow W0.heap.size 29 5 v (zD f x.e.name (L.take k)).length (av (zD f x.e.name (L.take k))))/\Hid (ae W0 wr)) (fun _ i _=>L.length-(intOf i).toNat);case atStart=>exact⟨0,Vf _,rfl,XO _,below_drewN (Vb _ _) _⟩
 clear XO;obtain⟨k,hk,rfl,HO,HB⟩:=hrel;by_cases hlt:k<L.length
 ·obtain⟨bT,offT,Yh,⟨a0,a1,a2,a3,a4,a5⟩,hbT⟩:=Sl.at0 (YQ.out.below HB.out) hlt;obtain⟨c3,c4,cl⟩:=XC.out;replace c3:=aI HB.out cl c3;replace c4:=aI HB.out cl c4;replace cl:=U9 cl HB.out.size;obtain⟨x3,xl⟩:=HX0.out;replace x3:=aI HB.out xl x3;replace xl:=U9 xl HB.out.size;have hi1:=bC k;have hi2:(k:Int)<(L.length:Int):=by omega
  have Zu:=ai (QG f x.e.name hlt);have hkl:(zD f x.e.name (L.take k)).length<=k:=by
   have h:=(show(zD f x.e.name (L.take k)).length=(L.take k).length from by unfold zD;rw[VN]);rw[Vz]at h;omega
  obtain⟨t,ht⟩:∃t,t=L[k]:=⟨_,rfl⟩;rw[<-ht]at a0 a1 a2 a3 a4 a5 Zu;clear ht;obtain⟨W1,hW1⟩:∃W1,W1=wr.alloc (.cells #[.string t.a,.string t.b,.string t.r,.string t.c,.string t.d,.string t.s] 46):=⟨_,rfl⟩;have WZ:=mi hW1;have Wx:=ai (HB.out.trans (WZ.out.mono HB.out.size));have hz1:W1.heap.size=wr.heap.size+1:=by rw[hW1];simp
  have WK:=ai (bu HO.out WZ.out);obtain⟨ys,hys⟩:∃ys,ys=zD f x.e.name (L.take k):=⟨_,rfl⟩;rw[<-hys]at WK Zu hkl;obtain⟨adV,Yu,rfl,-⟩:=gI WK.out;subst Yh;clear hys HO WZ;have HWE:Hid (zD f x.e.name (L.take (k+1))=ys++[⟨t.c,t.d,x.e.name,f.c,f.d⟩]):=Zu.out;obtain⟨W4,WP⟩:∃W4,W4=W1.alloc (.cells #[.string t.c,.string t.d,.string x.e.name,.string f.c,.string f.d] 29):=⟨_,rfl⟩;have WG:Hid (W4.ownsRow W0.heap.size 29 5 (.slice adV ys.length Yu) ys.length (av ys)):=by show World.ownsRow _ _ _ _ _ _ _;rw[WP];exact WK.out.alloc _
  have HN4:Hid (∀j u,(Fc.row ⟨t.c,t.d,x.e.name,f.c,f.d⟩)[j]?=some u->W4.cell? ((⟨wr.heap.size+1,0,none⟩:Addr).add j)=some u):=by rw[<-hz1,WP];exact wM W1 ⟨t.c,t.d,x.e.name,f.c,f.d⟩
  have Xp:Hid (ae W0 W4):=by show Below _ _ _;rw[WP];exact Wx.out.alloc Wx.out.size _
  have Zm:W0.heap.size<=W4.heap.size:=Xp.out.size;go_wp2_with(at_builtin;rw[<-hW1];rw[<-WP];clear WP;refine wpList_append_own_at _ rfl _ _ 40 rfl W0.heap.size 29 iF (.agg #[.string ⟨#[]⟩,.string ⟨#[]⟩,.string ⟨#[]⟩,.string ⟨#[]⟩,.string ⟨#[]⟩]) 5 80 underlying40 Zo.out.1 Zo.out.2.1 Zo.out.2.2.1 Zo.out.2.2.2 rfl (by decide) _ ys.length (av ys) rfl WG.out ⟨wr.heap.size+1,0,none⟩ 1 1 (Fc.row ⟨t.c,t.d,x.e.name,f.c,f.d⟩) rfl rfl HN4.out (by simp[Fc.row,Value.oneCell']) (by unfold maxLen;omega) (by omega) Zm ?_);intro v' w5 hown hgr _ _;have HR:Hid (w5.ownsRow W0.heap.size 29 5 v' (zD f x.e.name (L.take (k+1))).length (av (zD f x.e.name (L.take (k+1))))):=by
   show World.ownsRow _ _ _ _ _ _ _;rw[HWE.out,Vh,kC];exact hown
  have YZ:Hid (ae W0 w5):=Xp.out.grown hgr Xp.out.size (fun g hg=>(WG.out.lt g hg).1);clear hown hgr c3 c4 cl x3 xl;go_wp2;go_roundw;case rel=>exact⟨k+1,by omega,by go_num,HR,YZ⟩
  simp[intOf]<;>omega
 have HE:Hid (wr.ownsRow w.heap.size 29 5 u7 (zD f x.e.name L).length (av (zD f x.e.name L))):=by
  have h:=HO.out;rw[VE (by omega)]at h;exact dJ h HB0.out.size
 have XR:=XI;have HFF:Hid (∀y∈zD f x.e.name L,y.fits):=QI HF.out hnm HFL.out;have Xl:Hid ((zD f x.e.name L).length<=40):=by show _<=_;unfold zD;rw[VN];omega
 have YM:Hid (ae w wr):=HB0.out.trans (HB.out.mono HB0.out.size);clear HO;obtain⟨Xw,WH,rfl,-⟩:=gI HE.out;go_wp2;go_ret;exact⟨⟨_,rfl,xe HE.out Xl.out HFF.out XR.out⟩,YM.out⟩
end
end Go.Proofs.YtajkkeikihhejaaGreat
