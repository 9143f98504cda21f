/- The iterator over what is asked at a stratum. -/
import Derived.Test.YtojjoblnpldniaaGreatSq
import Derived.Test.YtojjoblnpldniaaGreatJ8
import Derived.Test.YtojjoblnpldniaaGreatJ10
import Derived.RangeFuncLeaves
import Derived.OwnWalkIn
import Derived.TacticsInMore
import Derived.LoopNIn
import Derived.LoopIn
open Go.Proofs.Tryz
set_option maxHeartbeats 80000000
set_option linter.defProp false
namespace Go.Proofs.YtojjoblnpldniaaGreat
set_option linter.unusedVariables false
set_option maxRecDepth 100000
open ChangeShapes WideShapes ChangeAt RowKit Maps Go.Shelf
open Pl
attribute [local go_sem] Oper.semAt_some
structure InM(W:World)(D br nr:Nat)(Mr:KL->Option Value)(Er:List<|KL×RR)(adO:Q02)(capO:Nat)(xo:Q0a)(gD gS gU:Nat)(sn:Int)(Z6:Q02)(Zh:Nat)(us:Q0a):Prop where
 d2:W.cell? ⟨D,2,none⟩=some (.map<|some br)
 d4:W.cell? ⟨D,4,none⟩=some (.slice adO xo.length capO)
 objs:mJ W adO xo
 rel:GK W br nr Mr Er
 bD:W.cell? ⟨gD,0,none⟩=some (.pointer<|some ⟨D,0,none⟩)
 bS:W.cell? ⟨gS,0,none⟩=some (.int .i64 sn)
 bU:W.cell? ⟨gU,0,none⟩=some (.slice Z6 us.length Zh)
 users:mJ W Z6 us
def FJ(x:Fc):Array Value:=#[.agg #[.string x.a,.string x.b,.string x.r,.string x.c,.string x.d]]
def CO:∀(rs:Q07) (i:Nat) (h:i<rs.length) (j:Nat),j<2->(G.flatG Uf rs)[i*2+j]?=(Uf rs[i])[j]?
 | [],i,h,_,_=>by simp at h
 | r::rs,0,_,j,hj=>by
  simp only[G.flatG,Ym,Nat.zero_mul,Yg,List.getElem_cons_zero];rw[YK (by simp[Uf];omega)]
 | r::rs,i+1,h,j,hj=>by
  have ih:=CO rs i (by simpa using h) j hj;simp only[G.flatG,Ym,List.getElem_cons_succ]at ih ⊢;rw[YA (by simp[Uf];omega)];have:(i+1)*2+j-(Uf r).length=i*2+j:=by simp[Uf];omega
  rw[this];exact ih
def Np{W:ag}{br nr:Nat}{Mr:KL->Option Value}{Er:List<|KL×RR}(h:GK W br nr Mr Er)(k:KL):∃ad cap,(Mr k).getD (.slice none 0 0)=.slice ad (G.lookL Er k).length cap/\(∀i (hi:i<(G.lookL Er k).length),∃g,ad=some (am g)/\g<W.heap.size/\W.cell? (ap g<|i*2)=some (.string (G.lookL Er k)[i].name)/\W.cell? (ap g<|i*2+1)=some (G.lookL Er k)[i].sl):=by
 have ho:=Fy h k;rcases ho.2 with⟨e,h0⟩|⟨g,cap,cur,e,hbg,hg,hnc,-⟩
 ·exact⟨none,0,by rw[e,h0],fun i hi=>cq⟩
 refine⟨_,cap,e,fun i hi=>⟨g,rfl,(ho.lt g<|by rw[e];rfl).2,?_,?_⟩⟩
 ·rw[e]at ho;rw[ho.cellAt (i*2) cq];exact CO _ i hi 0 cq
 rw[e]at ho;rw[ho.cellAt (i*2+1) cq];exact CO _ i hi 1 cq
def GY(W:World)(g:Nat)(o:Al):Prop:=W.heap[g]?=some (.cells #[.string o.t,.string o.s] 27 (0,0))
def Jq(W:World)(g:Nat)(r:RR):Prop:=W.heap[g]?=some (.cells #[.string r.name,r.sl] 39 (0,0))
def GY.c{W:ag}{g:Nat}{o:Al}(h:GY W g o):W.cell? (am g)=some (.string o.t)/\W.cell? (ap g 1)=some (.string o.s)/\g<W.heap.size:=by
 have hl:=(XO.1 h).1;unfold GY at h;exact⟨by simp[World.cell?,h],by simp[World.cell?,h],hl⟩
def Jq.c{W:ag}{g:Nat}{r:RR}(h:Jq W g r):W.cell? (am g)=some (.string r.name)/\W.cell? (ap g 1)=some r.sl/\g<W.heap.size:=by
 have hl:=(XO.1 h).1;unfold Jq at h;exact⟨by simp[World.cell?,h],by simp[World.cell?,h],hl⟩
def GY.kp{W W':ag}{g:Nat}{o:Al}(h:GY W g o)(hk:KpI W W'):GY W' g o:=hk.cells g _ _ _ h<|.inl rfl
def Jq.kp{W W':ag}{g:Nat}{r:RR}(h:Jq W g r)(hk:KpI W W'):Jq W' g r:=hk.cells g _ _ _ h<|.inr rfl
def iQ(rs:Q06)(st:Q00)(us:Q0a)(sn:Int)(xo:Q0a)(q:Nat):List Fc:=(xo.take q).flatMap<|yN (ai rs) st us sn
def kQ(R:Q07)(us:Q0a)(o:Al)(k:Nat):List Fc:=(R.take k).flatMap fun r=>jH o r.name us
def Uw{rs:Q06}{st:Q00}{us:Q0a}{sn:Int}{xo:Q0a}{q:Nat}(h:q<xo.length):iQ rs st us sn xo (q+1)=iQ rs st us sn xo q++kQ (G.lookL (dP st rs) (xo[q].t,sn)) us xo[q] (G.lookL (dP st rs) (xo[q].t,sn)).length:=by
 unfold iQ kQ;rw[XM h,YE,X8];congr 1;simp only[Ym,List.flatMap_nil,YB];unfold yN;rw[Jk,List.flatMap_map]
def Ux{R:Q07}{us:Q0a}{o:Al}{k:Nat}(h:k<R.length):kQ R us o (k+1)=kQ R us o k++jH o R[k].name us:=by
 unfold kQ;rw[XM h,YE];simp
def OQ(o:Al)(rel:dw){xu:Q0a}{j:Nat}(h:j<xu.length):jH o rel (xu.take<|j+1)=jH o rel (xu.take j)++[⟨o.t,o.s,rel,xu[j].t,xu[j].s⟩]:=by
 unfold jH;rw[XM h,YF];rfl
def OT{rs:Q06}{st:Q00}{xo us:Q0a}{sn:Int}{o:Al}{r:RR}{u:Al}(ho:o∈xo)(hr:r∈G.lookL (dP st rs) (o.t,sn))(hu:u∈us):(⟨o.t,o.s,r.name,u.t,u.s⟩:Fc)∈di (ai rs) st xo us sn:=by
 unfold di yN;refine XZ.2 ⟨o,ho,XZ.2 ⟨(o.t,r.name),?_,XW.2 ⟨u,hu,rfl⟩⟩⟩;rw[Jk];exact XW.2 ⟨r,hr,rfl⟩
def RJ(n:Nat)(hn:1<=n)(D br nr:Nat)(Mr:KL->Option Value)(st:Q00)(rs:Q06)(adO:Q02)(capO:Nat)(xo:Q0a)(gD gS gU:Nat)(sn:Int)(Z6:Q02)(Zh:Nat)(us:Q0a)(w0:ag)(hs0:0<=sn)(hs1:sn<=1000)(hol:xo.length<=1000)(hul:us.length<=1000)(hrl:∀k,(G.lookL (dP st rs) k).length<=1000)(hof:∀o∈xo,o.t.size<=maxLen):
  AO Fence.wide n prog 269 #[.pointer (some<|am gD),.pointer<|some<|am gS,.pointer<|some<|am gU] FJ (fun _=>KpI) (fun _ W=>InM W D br nr Mr (dP st rs) adO capO xo gD gS gU sn Z6 Zh us) (fun _ x=>x∈di (ai rs) st xo us sn) (fun xs=>xs=di (ai rs) st xo us sn) w0:=by
 intro l J W _ _ _ hJ hT hY h0;have HJ:=ah hJ;have HT:=ah hT;have HY:=ah hY;have H0:=ah h0;have HOF:=ah hof;have hM:=hT _ _ h0;have HRL:=ah hrl;have bD:=hM.bD;have d4:=hM.d4;have lD:=ax bD;have lDD:=ax d4;clear hJ hT hY h0 hof hM hrl;refine callsIn_of_wp func269 rfl trivial ?_ rfl;simp only[ntmps269,List.size_toArray,Yh,YO,Nat.reduceAdd,Nat.reduceSub,Array.replicate_succ,Array.replicate_zero,List.push_toArray,List.append_toArray,YI,Yz];gi_wp2;clear bD d4 lD lDD
 gi_loopw [16] (fun i wr=>∃q:Nat,q<=xo.length/\i=.int .i64 q/\O (J (iQ rs st us sn xo q) wr)) (fun i _=>xo.length-(intOf i).toNat)
 case atStart=>exact⟨0,XP _,rfl,H0⟩
 clear H0;obtain⟨q,hq,rfl,HJ1⟩:=hrel;by_cases hlq:q<xo.length
 ·have hM:=HT _ _ HJ1;obtain⟨bO,ZU,hadO,⟨o0,o1⟩,hbO⟩:=mJ.at0 hM.objs hlq;have HSQ:=ah<|Uw (rs:=rs) (st:=st) (us:=us) (sn:=sn) hlq;have HOS:=ah<|HOF _<|XI hlq;have HOM:O (xo[q]∈xo):=XI hlq;obtain⟨o,ho⟩:=eQx<|xo[q];rw[<-ho]at o0 o1 HSQ HOS HOM;clear ho;have hq1:=bG q;have hq2:(q:Int)<(xo.length:Int):=cq;obtain⟨W1,hW1⟩:=eQx<|wr.alloc<|.cells #[.string o.t,.string o.s] 27;have HB1:=lX hW1;have HJ2:=ah<|oC HJ HJ1 HB1;have Zv:O (GY W1 wr.heap.size o):=by rw[hW1];exact World.alloc_heap_new wr _
  have hM2:=HT _ _ HJ2;have bD:=hM2.bD;have bS:=hM2.bS;have d2:=hM2.d2;obtain⟨c0,c1,cl⟩:=Zv.c;obtain⟨ZV,Zn,hgd,-⟩:=Np hM2.rel (o.t,sn);obtain⟨kl,hkl⟩:=M8 (o.t,sn) HOS hs0 (by show sn<=_;omega);obtain⟨R,hR⟩:=eQx<|G.lookL (dP st rs) (o.t,sn);have hRl:R.length<=1000:=by rw[hR];exact HRL _
  rw[<-hR]at hgd HSQ;have HRE:=ah hR;have HGD:=ah hgd;have hlk:∀m,(Instr.lookup 190 (.map<|some br) (.agg #[.string o.t,.int .i64 sn]) false).run prog (W1.drewN m)=.ok (.slice ZV R.length Zn) (W1.drewN m):=fun m=>by
   have h:=(hM2.rel.map.below<|below_drewN (XL _ _) m).look (t:=190) (e:=34) WU underlying190 (RB _) (x:=(o.t,sn)) hkl;rw[hgd]at h;exact h
  subst hadO;clear hM hM2 hR hgd hkl;gi_wp2;rw[<-hW1];clear hW1;refine wpIn_wide.2 ?_;go_quiet (fail);obtain⟨W2,hW2⟩:=eQx<|W1.drewN nq;have HB2:O (ae W1 W2):=by show Below _ _ _;rw[hW2];exact below_drewN (XL _ _) _
  have HJ3:=ah<|oC HJ HJ2 HB2;have HBX2:=ah<|Zv.kp<|KpI.below HB2;obtain⟨gO,hgO⟩:∃g,g=wr.heap.size:=⟨_,rfl⟩;rw[<-hgO]at HBX2 ⊢;rw[<-hW2];clear hW2 hgO c0 c1 cl bD bS d2 hlk HB1 HJ2 Zv HJ1 o0 o1 hbO;gi_wp2
  gi_loopw [30] (fun i w2=>∃k:Nat,k<=R.length/\i=.int .i64 k/\O (J (iQ rs st us sn xo q++kQ R us o k) w2)/\O (GY w2 gO o)) (fun i _=>R.length-(intOf i).toNat)
  case atStart=>exact⟨0,XP _,rfl,by show J (_++[]) _;rw[YB];exact HJ3,HBX2⟩
  clear HJ3 HBX2 HB2;obtain⟨k,hk,rfl,HJ4,Zv⟩:=hrel;by_cases hlk:k<R.length
  ·have hM:=HT _ _ HJ4;obtain⟨adR',capR',hgd',hrows⟩:=Np hM.rel (o.t,sn);rw[<-HRE,HGD]at hgd';injection hgd' with ea eb ec;subst ea;clear eb ec;obtain⟨gq,hadR,hgl,r0,r1⟩:=hrows k (by rw[<-HRE];exact hlk);have HKS:=ah<|Ux (us:=us) (o:=o) hlk;have hrr:(G.lookL (dP st rs) (o.t,sn))[k]'(by rw[<-HRE];exact hlk)=R[k]:=by simp only[HRE.out]
   rw[hrr]at r0 r1;have HRM:O (R[k]∈R):=XI hlk;obtain⟨r,hr⟩:=eQx<|R[k];rw[<-hr]at r0 r1 HKS HRM;have hk1:=bG k;have hk2:(k:Int)<(R.length:Int):=cq;obtain⟨W3,hW3⟩:=eQx<|wr.alloc<|.cells #[.string r.name,r.sl] 39;have HB3:=lX hW3;have HJ5:=ah<|oC HJ HJ4 HB3;have HBO:=ah<|Zv.kp<|KpI.below HB3;have HBR:O (Jq W3 wr.heap.size r):=by rw[hW3];exact World.alloc_heap_new wr _
   have hM3:=HT _ _ HJ5;have bU:=hM3.bU;have lU:=ax bU;have bU0:=hM.bU;have lU0:=ax bU0;unfold RR.sl at r1 hW3;obtain⟨gR,hgR⟩:∃g,g=wr.heap.size:=⟨_,rfl⟩;subst hadR;clear hM hM3 hr hrr hrows;gi_wp2;rw[<-hW3,<-hgR];rw[<-hgR]at HBR;clear hW3 hgR bU lU bU0 lU0 r0 r1 hgl HB3 HJ4 Zv
   gi_loopw [36] (fun i w2=>∃j:Nat,j<=us.length/\i=.int .i64 j/\O (J (iQ rs st us sn xo q++kQ R us o k++jH o r.name (us.take j)) w2)/\O (GY w2 gO o)/\O (Jq w2 gR r)) (fun i _=>us.length-(intOf i).toNat)
   case atStart=>exact⟨0,XP _,rfl,by show J (_++[]) _;rw[YB];exact HJ5,HBO,HBR⟩
   clear HJ5 HBO HBR;obtain⟨j,hj,rfl,HJ6,HBO,HBR⟩:=hrel;by_cases hlj:j<us.length
   ·have hM:=HT _ _ HJ6;obtain⟨bV,offV,hadU,⟨y0,y1⟩,hbV⟩:=mJ.at0 hM.users hlj;have HAS:=ah<|OQ o r.name hlj;obtain⟨u,hu⟩:=eQx<|us[j];rw[<-hu]at y0 y1 HAS;have hj1:=bG j;have hj2:(j:Int)<(us.length:Int):=cq;obtain⟨W4,Zw⟩:=eQx<|wr.alloc<|.cells #[.string u.t,.string u.s] 27;have Z7:=lX Zw;have HJ7:=oC HJ HJ6 Z7;have HBO2:=ah<|HBO.kp<|KpI.below Z7;have HBR2:=ah<|HBR.kp<|KpI.below Z7;obtain⟨fn,tmps,assign,body,hy,hR⟩:=HY _ ⟨o.t,o.s,r.name,u.t,u.s⟩ W4 HJ7 (OT HOM (by rw[<-HRE];exact HRM) (by rw[hu];exact XI hlj));obtain⟨c0,c1,cl⟩:=HBO.c;obtain⟨e0,e1,el⟩:=HBR.c;have HRR:=ah hR;unfold FJ at hy;subst hadU;subst Zw;clear hM hu HJ7 hR;gi_wp2;refine HRR.mono ?_;rintro e W5 ⟨rfl,hJ8,hK8⟩;have HJ8:O (J (iQ rs st us sn xo q++kQ R us o k++jH o r.name (us.take<|j+1)) W5):=by show J _ _;rw[HAS,<-Ye];exact hJ8
    have HBO3:=ah<|HBO2.kp hK8;have HBR3:=ah<|HBR2.kp hK8;clear hJ8 hK8 hy y0 y1 c0 c1 cl e0 e1 el;gi_wp2;go_roundw;case rel=>exact⟨j+1,cq,cx,HJ8,HBO3,HBR3⟩
    simp[intOf]<;>omega
   have HJ7:O (J (iQ rs st us sn xo q++kQ R us o (k+1)) wr):=by
    have h1:=HJ6.out;rw[Yj cq,Ye,<-HKS]at h1;exact h1
   gi_wp2;go_roundw;case rel=>exact⟨k+1,cq,cx,HJ7,HBO⟩
   simp[intOf]<;>omega
  have HE2:O (iQ rs st us sn xo q++kQ R us o k=iQ rs st us sn xo (q+1)):=by show _=_;rw[HSQ,show k=R.length by omega]
  have HJ5:O (J (iQ rs st us sn xo<|q+1) wr):=by show J _ _;rw[<-HE2];exact HJ4
  gi_wp2;go_roundw;case rel=>exact⟨q+1,cq,cx,HJ5⟩
  simp[intOf]<;>omega
 have HE:O (iQ rs st us sn xo q=di (ai rs) st xo us sn):=by show _=_;unfold iQ di;rw[Yj cq]
 have HJ2:O (J (di (ai rs) st xo us sn) wr):=by show J _ _;rw[<-HE];exact HJ1
 gi_wp2
 go_end0
 exact⟨⟨_,rfl⟩,_,rfl,HJ2⟩
end Go.Proofs.YtojjoblnpldniaaGreat
namespace Go.Proofs.YtojjoblnpldniaaGreat
set_option linter.unusedVariables false
set_option maxRecDepth 100000
open ChangeShapes WideShapes ChangeAt RowKit Maps
open Pl
section
variable  {w:World}{rs:Q06}{D br bp bt bK nK:Nat}{n1:Int}{nr:Nat}{Mr:KL->Option Value}{Er:List (KL×RR)}{ts:Q05}{xo xu:Q0a}{np:Nat}{Mp:K3->Option Value}{vo vu:Value}{out:Q04}{f:Fc}{YY:Q02}{capE:Nat}{rows:Q08}{n:Nat}
def OU(hn:n<rows.length)(hD:DatA w rs D br bp bt n1 nr Mr Er (bB ts) xo xu np Mp vo vu)(hK:aL dM prog 52 w bK nK<|vV out)(hf:f.fits)(hts:∀t∈ts,t.fits)(htl:ts.length<=1000)(hex:iE w YY rows)(hre:rows.length<=1000)(hk:rows[n].e.kind=1):
  Calls prog 232 #[.pointer (some<|am D),.slice YY rows.length capE,.int .i64 (n:Int),.agg<|cf f,.map<|some bK] w (a8 w<|.bool<|fO ts out f):=by
 obtain⟨b,off,YW,⟨t0,t1,t2,t3,t4⟩,hbl,hok⟩:=iE.at0 hex hn;obtain⟨W0,hW0⟩:=eQx<|Ka w D (.slice YY rows.length capE) f bK rows[n];have HB0:O (ae w W0):=by show Below _ _ _;rw[hW0];exact mQ _ _ _ _ _ _
 have HN0:O (NdB W0 w.heap.size D (.slice YY rows.length capE) f bK rows[n]):=by show NdB _ _ _ _ _ _ _;rw[hW0];exact mR _ _ _ _ _ _
 have hk1:(rows[n].e.kind==1)=true:=by rw[hk];rfl
 have hbl1:b<w.heap.size+1:=cq;have hbl2:b<w.heap.size+1+1:=cq;have hbl3:b<w.heap.size+1+1+1:=cq;have hn1:=bG n;have hn2:(n:Int)<(rows.length:Int):=cq;unfold Ka Ak at hW0;have HC:=ah<|Eb (hD.below HB0) (hK.below HB0) hf hts htl;clear hD hK hts hex hk hok;subst YW;go_enter func232,ntmps232;go_wp2_with fail;rw[<-hW0];clear hW0 t0 t1 t2 t3 t4;refine(HC).mono ?_;rintro e w1 ⟨rfl,hb1⟩;have HB1:=ah<|HB0.trans<|hb1.mono HB0.size;clear hb1;go_wp2;go_ret;exact⟨rfl,HB1⟩
def RL(hn:n<rows.length)(hK:aL dM prog 52 w bK nK<|vV out)(hf:f.fits)(hnm:rows[n].e.name.size<=maxLen)(hex:iE w YY rows)(hre:rows.length<=1000)(hk:rows[n].e.kind=2):
  Calls prog 232 #[.pointer (some<|am D),.slice YY rows.length capE,.int .i64 (n:Int),.agg<|cf f,.map<|some bK] w (a8 w<|.bool<|aR out ⟨f.a,f.b,rows[n].e.name,f.c,f.d⟩):=by
 obtain⟨b,off,YW,⟨t0,t1,t2,t3,t4⟩,hbl,hok⟩:=iE.at0 hex hn;obtain⟨W0,hW0⟩:=eQx<|Ka w D (.slice YY rows.length capE) f bK rows[n];have HB0:O (ae w W0):=by show Below _ _ _;rw[hW0];exact mQ _ _ _ _ _ _
 have HN0:O (NdB W0 w.heap.size D (.slice YY rows.length capE) f bK rows[n]):=by show NdB _ _ _ _ _ _ _;rw[hW0];exact mR _ _ _ _ _ _
 have hk1:(rows[n].e.kind==1)=false:=by rw[hk];rfl
 have hk2:(rows[n].e.kind==2)=true:=by rw[hk];rfl
 have hbl1:b<w.heap.size+1:=cq;have hbl2:b<w.heap.size+1+1:=cq;have hbl3:b<w.heap.size+1+1+1:=cq;have hn1:=bG n;have hn2:(n:Int)<(rows.length:Int):=cq;unfold Ka Ak at hW0;have HC:=ah<|sw bK nK out ⟨f.a,f.b,rows[n].e.name,f.c,f.d⟩ W0 ⟨hf.1,hf.2.1,hnm,hf.2.2.2.1,hf.2.2.2.2⟩<|hK.below HB0;clear hK hex hk hok hf;subst YW;go_enter func232,ntmps232;go_wp2_with fail;rw[<-hW0];clear hW0 t0 t1 t2 t3 t4;refine(HC).mono ?_;rintro e w1 ⟨rfl,hb1⟩;have HB1:=ah<|HB0.trans<|hb1.mono HB0.size;clear hb1;go_wp2;go_ret;exact⟨rfl,HB1⟩
def OV(hn:n<rows.length)(hD:DatA w rs D br bp bt n1 nr Mr Er (bB ts) xo xu np Mp vo vu)(hK:aL dM prog 52 w bK nK<|vV out)(hf:f.fits)(hxf:rows[n].e.over.size<=maxLen/\rows[n].e.name.size<=maxLen)(hts:∀t∈ts,t.fits)(htl:ts.length<=1000)(hex:iE w YY rows)(hre:rows.length<=1000)(hk:rows[n].e.kind=3):
  Calls prog 232 #[.pointer (some<|am D),.slice YY rows.length capE,.int .i64 (n:Int),.agg<|cf f,.map<|some bK] w (a8 w<|.bool<|gY ts out rows[n].e.over rows[n].e.name f):=by
 obtain⟨b,off,YW,⟨t0,t1,t2,t3,t4⟩,hbl,hok⟩:=iE.at0 hex hn;obtain⟨W0,hW0⟩:=eQx<|Ka w D (.slice YY rows.length capE) f bK rows[n];have HB0:O (ae w W0):=by show Below _ _ _;rw[hW0];exact mQ _ _ _ _ _ _
 have HN0:O (NdB W0 w.heap.size D (.slice YY rows.length capE) f bK rows[n]):=by show NdB _ _ _ _ _ _ _;rw[hW0];exact mR _ _ _ _ _ _
 have hk1:(rows[n].e.kind==1)=false:=by rw[hk];rfl
 have hk2:(rows[n].e.kind==2)=false:=by rw[hk];rfl
 have hk3:(rows[n].e.kind==3)=true:=by rw[hk];rfl
 have hbl1:b<w.heap.size+1:=cq;have hbl2:b<w.heap.size+1+1:=cq;have hbl3:b<w.heap.size+1+1+1:=cq;have hn1:=bG n;have hn2:(n:Int)<(rows.length:Int):=cq;unfold Ka Ak at hW0;have HC:=ah<|Ec (hD.below HB0) (hK.below HB0) rows[n] hxf hf hts htl;clear hD hK hts hex hk hok hxf hf;subst YW;go_enter func232,ntmps232;go_wp2_with fail;rw[<-hW0];clear hW0 t0 t1 t2 t3 t4;refine(HC).mono ?_;rintro e w1 ⟨rfl,hb1⟩;have HB1:=ah<|HB0.trans<|hb1.mono HB0.size;clear hb1;go_wp2;go_ret;exact⟨rfl,HB1⟩
def LZ(hn:n<rows.length)(H:Int->Bool)(hkl:rows[n].e.kids.length<=1000)(hIH:∀i∈rows[n].e.kids,GX D (.slice YY rows.length capE) f bK w i<|H i)(hex:iE w YY rows)(hre:rows.length<=1000)(hk:rows[n].e.kind=4):
  Calls prog 232 #[.pointer (some<|am D),.slice YY rows.length capE,.int .i64 (n:Int),.agg<|cf f,.map<|some bK] w (a8 w<|.bool<|rows[n].e.kids.any H):=by
 obtain⟨b,off,YW,⟨t0,t1,t2,t3,t4⟩,hbl,hok⟩:=iE.at0 hex hn;obtain⟨W0,hW0⟩:=eQx<|Ka w D (.slice YY rows.length capE) f bK rows[n];have HB0:O (ae w W0):=by show Below _ _ _;rw[hW0];exact mQ _ _ _ _ _ _
 have HN0:O (NdB W0 w.heap.size D (.slice YY rows.length capE) f bK rows[n]):=by show NdB _ _ _ _ _ _ _;rw[hW0];exact mR _ _ _ _ _ _
 have hk1:(rows[n].e.kind==1)=false:=by rw[hk];rfl
 have hk2:(rows[n].e.kind==2)=false:=by rw[hk];rfl
 have hk3:(rows[n].e.kind==3)=false:=by rw[hk];rfl
 have hk4:(rows[n].e.kind==4)=true:=by rw[hk];rfl
 have hbl1:b<w.heap.size+1:=cq;have hbl2:b<w.heap.size+1+1:=cq;have hbl3:b<w.heap.size+1+1+1:=cq;have hn1:=bG n;have hn2:(n:Int)<(rows.length:Int):=cq;unfold Ka Ak at hW0;have HC:=ah<|uL 282 #[] #[.pointer (some<|aE w),.pointer<|some<|am<|w.heap.size+1,.pointer<|some<|am<|w.heap.size+1+1,.pointer<|some<|am<|w.heap.size+1+1+1] H rows[n].adK rows[n].capK rows[n].e.kids W0 cq (hok.2.below HB0) VX fun i hi w1 hb=>qJ (hIH i hi) (HB0.trans<|hb.mono HB0.size)<|HN0.below hb;clear hIH hex hk hok;subst YW;go_enter func232,ntmps232;go_wp2_with fail;rw[<-hW0];clear hW0 t0 t1 t2 t3 t4;refine(HC).mono ?_;rintro e w1 ⟨rfl,hb1⟩;have HB1:=ah<|HB0.trans<|hb1.mono HB0.size;clear hb1;go_wp2;go_ret;exact⟨rfl,HB1⟩
def OW(hn:n<rows.length)(H:Int->Bool)(hkl:rows[n].e.kids.length<=1000)(hIH:∀i∈rows[n].e.kids,GX D (.slice YY rows.length capE) f bK w i<|H i)(hex:iE w YY rows)(hre:rows.length<=1000)(hk:rows[n].e.kind=5):
  Calls prog 232 #[.pointer (some<|am D),.slice YY rows.length capE,.int .i64 (n:Int),.agg<|cf f,.map<|some bK] w (a8 w<|.bool<|rows[n].e.kids.all H):=by
 obtain⟨b,off,YW,⟨t0,t1,t2,t3,t4⟩,hbl,hok⟩:=iE.at0 hex hn;obtain⟨W0,hW0⟩:=eQx<|Ka w D (.slice YY rows.length capE) f bK rows[n];have HB0:O (ae w W0):=by show Below _ _ _;rw[hW0];exact mQ _ _ _ _ _ _
 have HN0:O (NdB W0 w.heap.size D (.slice YY rows.length capE) f bK rows[n]):=by show NdB _ _ _ _ _ _ _;rw[hW0];exact mR _ _ _ _ _ _
 have hk1:(rows[n].e.kind==1)=false:=by rw[hk];rfl
 have hk2:(rows[n].e.kind==2)=false:=by rw[hk];rfl
 have hk3:(rows[n].e.kind==3)=false:=by rw[hk];rfl
 have hk4:(rows[n].e.kind==4)=false:=by rw[hk];rfl
 have hk5:(rows[n].e.kind==5)=true:=by rw[hk];rfl
 have hbl1:b<w.heap.size+1:=cq;have hbl2:b<w.heap.size+1+1:=cq;have hbl3:b<w.heap.size+1+1+1:=cq;have hn1:=bG n;have hn2:(n:Int)<(rows.length:Int):=cq;unfold Ka Ak at hW0;have HC:=ah<|uL 283 #[] #[.pointer (some<|am<|w.heap.size+1+1+1+1+1)] (fun i=>!H i) rows[n].adK rows[n].capK rows[n].e.kids W0 cq (hok.2.below HB0) VY (fun i hi w1 hb=>xH (hIH i hi) (HB0.trans<|hb.mono HB0.size)<|HN0.below hb);have Zl:O ((rows[n].e.kids.any fun i=>!H i)=!rows[n].e.kids.all H):=by show _=_;rw[List.not_all_eq_any_not]
 clear hIH hex hk hok;subst YW;go_enter func232,ntmps232;go_wp2_with fail;rw[<-hW0];clear hW0 t0 t1 t2 t3 t4;refine(HC).mono ?_;rintro e w1 ⟨he,hb1⟩;rw[Zl]at he;subst he;have HB1:=ah<|HB0.trans<|hb1.mono HB0.size;clear hb1;go_wp2;go_ret;exact⟨ct,HB1⟩
end
open Go.Sort
section
variable  {w:World}{rs:Q06}{D br bp bt bK nK:Nat}{n1:Int}{nr:Nat}{Mr:KL->Option Value}{Er:List (KL×RR)}{ts:Q05}{xo xu:Q0a}{np:Nat}{Mp:K3->Option Value}{vo vu:Value}{out:Q04}{f:Fc}{YY:Q02}{capE:Nat}{rows:Q08}{n:Nat}
def RN(hn:n<rows.length)(b0 b1:Bool)(hkl:rows[n].e.kids.length<=1000)(hk2l:2<=rows[n].e.kids.length)(hA:GX D (.slice YY rows.length capE) f bK w (rows[n].e.kids.getD 0 0) b0)(hB:GX D (.slice YY rows.length capE) f bK w (rows[n].e.kids.getD 1 0) b1)(hex:iE w YY rows)(hre:rows.length<=1000)(hk:rows[n].e.kind=6):
  Calls prog 232 #[.pointer (some<|am D),.slice YY rows.length capE,.int .i64 (n:Int),.agg<|cf f,.map<|some bK] w (a8 w<|.bool<|b0 && !b1):=by
 obtain⟨b,off,YW,⟨t0,t1,t2,t3,t4⟩,hbl,hok⟩:=iE.at0 hex hn;obtain⟨W0,hW0⟩:=eQx<|Ka w D (.slice YY rows.length capE) f bK rows[n];have HB0:O (ae w W0):=by show Below _ _ _;rw[hW0];exact mQ _ _ _ _ _ _
 have HN0:O (NdB W0 w.heap.size D (.slice YY rows.length capE) f bK rows[n]):=by show NdB _ _ _ _ _ _ _;rw[hW0];exact mR _ _ _ _ _ _
 have hk1:(rows[n].e.kind==1)=false:=by rw[hk];rfl
 have hk2:(rows[n].e.kind==2)=false:=by rw[hk];rfl
 have hk3:(rows[n].e.kind==3)=false:=by rw[hk];rfl
 have hk4:(rows[n].e.kind==4)=false:=by rw[hk];rfl
 have hk5:(rows[n].e.kind==5)=false:=by rw[hk];rfl
 have hbl1:b<w.heap.size+1:=cq;have hbl2:b<w.heap.size+1+1:=cq;have hbl3:b<w.heap.size+1+1+1:=cq;have hn1:=bG n;have hn2:(n:Int)<(rows.length:Int):=cq;unfold Ka Ak at hW0;have h0k:0<rows[n].e.kids.length:=cq;have h1k:1<rows[n].e.kids.length:=cq;obtain⟨bJ,offJ,ZC,z0,hbK⟩:=uW.at0 hok.2 h0k;have z1:w.cell? (ap bJ<|offJ+1)=some (.int .i64 rows[n].e.kids[1]):=by
  obtain⟨b',off',hadK',z1,-⟩:=uW.at0 hok.2 h1k;rw[ZC]at hadK';injection hadK' with e;injection e with e1 e2;rw[e1,e2];exact z1
 obtain⟨i0,hi0⟩:∃i,i=rows[n].e.kids[0]:=⟨_,rfl⟩;obtain⟨i1,hi1⟩:∃i,i=rows[n].e.kids[1]:=⟨_,rfl⟩;have g0:rows[n].e.kids.getD 0 0=i0:=by rw[hi0,Yl,XQ h0k];rfl
 have g1:rows[n].e.kids.getD 1 0=i1:=by rw[hi1,Yl,XQ h1k];rfl
 rw[g0]at hA;rw[g1]at hB;rw[<-hi0,Nat.add_zero]at z0;rw[<-hi1]at z1;obtain⟨kl,hkl'⟩:∃kl,kl=rows[n].e.kids.length:=⟨_,rfl⟩;obtain⟨cK,hcK⟩:∃c,c=rows[n].capK:=⟨_,rfl⟩;have hl0:(0:Int)<(kl:Int):=cq;have hl1:(1:Int)<(kl:Int):=cq;have h0k':0<kl:=cq;have h1k':1<kl:=cq;have HA:O (∀w1,ae W0 w1->_):=fun w1 hb=>qJ hA (HB0.trans<|hb.mono HB0.size)<|HN0.below hb;have HBB:O (∀w1,ae W0 w1->_):=fun w1 hb=>xH hB (HB0.trans<|hb.mono HB0.size)<|HN0.below hb;have HZ:O (ac W0 bJ offJ (.int .i64 i0)/\ac W0 bJ (offJ+1) (.int .i64 i1)/\bJ<W0.heap.size):=⟨(HB0.cell (p:=⟨bJ,offJ,none⟩) hbK).trans z0,(HB0.cell (p:=⟨bJ,offJ+1,none⟩) hbK).trans z1,XJ hbK HB0.size⟩;have HX4:O (W0.cell? (ap (w.heap.size+1+1+1+1) 4)=some (.slice (some<|ap bJ offJ) kl cK)):=by show _=_;rw[HN0.x4,ZC,<-hkl',<-hcK]
 have HV5:O (ab W0 (w.heap.size+1+1+1+1+1)<|.func (Fn.func 282) #[] #[.pointer (some<|aE w),.pointer<|some<|am<|w.heap.size+1,.pointer<|some<|am<|w.heap.size+1+1,.pointer<|some<|am<|w.heap.size+1+1+1]):=HN0.v;clear hA hB hex hk hok z0 z1 ZC h0k h1k g0 g1 hi0 hi1;subst YW;go_enter func232,ntmps232;go_wp2_with fail;rw[<-hW0];clear hW0 t0 t1 t2 t3 t4;clear hk1 hk2 hk3 hk4 hk5 hkl' hcK;have HAA:O (∀d os,Calls prog 282 #[.int .i64 i0,.pointer<|some<|aE w,.pointer<|some<|am<|w.heap.size+1,.pointer<|some<|am<|w.heap.size+1+1,.pointer<|some<|am<|w.heap.size+1+1+1] (grow (redrawn W0 d) os) fun e w''=>e=.returned (.bool b0)/\∃p:Regrown,w''=grow (redrawn W0 p.d) p.os):=by
  refine dz fun W' hb=>?_;exact HA _ hb
 have HBQ:O (∀d os,Calls prog 283 #[.int .i64 i1,.pointer<|some<|am<|w.heap.size+1+1+1+1+1] (grow (redrawn W0 d) os) fun e w''=>e=.returned (.bool<|!b1)/\∃p:Regrown,w''=grow (redrawn W0 p.d) p.os):=by
  refine dz fun W' hb=>?_;exact HBB _ hb
 have x4:=cell_regrown HX4;have v5:=cell_regrown HV5;have z0:=cell_regrown HZ.1;have z1:=cell_regrown HZ.2.1;clear HA HBB HN0;cases b0
 case' true =>
  skip
 case' false =>
  skip
 all_goals
  refine wp_region_quiet_below cw cw ?_
  repeat(go_big_quiet_step (first|exact HAA _ _|exact HBQ _ _))
  refine wpQuiet_nil ?_;rintro _ ⟨⟨dq,osq⟩,rfl⟩;go_wp2;go_ret;exact⟨rfl,HB0.trans<|(below_regrown W0 dq osq).mono HB0.size⟩
end
def CP{e:Ex}(h:aD e=true):(e.kind=2->e.name.size<=maxLen)/\(e.kind=3->e.over.size<=maxLen/\e.name.size<=maxLen)/\(e.kind=1\/e.kind=2\/e.kind=3\/e.kind=4\/e.kind=5\/e.kind=6):=by
 unfold aD at h;have hle:∀s:ByteArray,aW s=true->s.size<=maxLen:=fun s hs=>by have:=(o9 hs).2;unfold maxLen;omega
 by_cases k1:e.kind=1
 ·exact⟨fun h2=>cq,fun h3=>cq,.inl k1⟩
 by_cases k2:e.kind=2
 ·rw[if_neg k1,if_pos k2]at h;simp only[XN]at h;exact⟨fun _=>hle _ h.1.1.1,fun h3=>cq,.inr<|.inl k2⟩
 by_cases k3:e.kind=3
 ·rw[if_neg k1,if_neg k2,if_pos k3]at h;simp only[XN]at h;exact⟨fun h2=>cq,fun _=>⟨hle _ h.1.1.1,hle _ h.1.1.2⟩,.inr<|.inr<|.inl k3⟩
 refine⟨fun h2=>absurd h2 k2,fun h3=>absurd h3 k3,?_⟩;by_cases k4:e.kind=4\/e.kind=5
 ·rcases k4 with k4|k4
  ·exact .inr<|.inr<|.inr<|.inl k4
  exact .inr<|.inr<|.inr<|.inr<|.inl k4
 by_cases k6:e.kind=6
 ·exact .inr<|.inr<|.inr<|.inr<|.inr k6
 rw[if_neg k1,if_neg k2,if_neg k3,if_neg k4,if_neg k6]at h;cases h
section
variable  {rs:Q06}{D br bp bt bK nK:Nat}{n1:Int}{nr:Nat}{Mr:KL->Option Value}{Er:List (KL×RR)}{ts:Q05}{xo xu:Q0a}{np:Nat}{Mp:K3->Option Value}{vo vu:Value}{out:Q04}{f:Fc}{YY:Q02}{capE:Nat}{rows:Q08}
def oP(hN:NodOk rows)(hnb:∀e∈au rows,aD e=true)(hf:f.fits)(hts:∀t∈ts,t.fits)(htl:ts.length<=1000):
  ∀(k n:Nat) (w:World),n<k->n<rows.length->DatA w rs D br bp bt n1 nr Mr Er (bB ts) xo xu np Mp vo vu->aL dM prog 52 w bK nK (vV out)->iE w YY rows ->
  Calls prog 232 #[.pointer (some<|am D),.slice YY rows.length capE,.int .i64 (n:Int),.agg<|cf f,.map<|some bK] w fun e w'=>e=.returned (.bool<|dC ts (au rows) out f k out n)/\ae w w'
 | 0,_,_,h,_,_,_,_=>absurd h<|YG _
 | k+1,n,w,hk,hn,hD,hK,hex=>by
  have e:(au rows)[n]?=some rows[n].e:=by simp[au,hn]
  have ZL:∀i∈rows[n].e.kids,GX D (.slice YY rows.length capE) f bK w i (dC ts (au rows) out f k out i.toNat):=fun i hi w1 hb1=>by
   have h1:=hN.kid hn hi;have h2:=oP hN hnb hf hts htl k i.toNat w1 cq cq (hD.below hb1) (hK.below hb1)<|hex.below hb1;have e2:((i.toNat:Nat):Int)=i:=cq;rw[e2]at h2;exact h2
  have hm:rows[n]∈rows:=XI hn;have hme:rows[n].e∈au rows:=XW.2 ⟨_,hm,rfl⟩;obtain⟨hn2,hn3,hkd⟩:=CP<|hnb _ hme;unfold dC;rw[e];by_cases k1:rows[n].e.kind=1
  ·simp only[if_pos k1];exact OU hn hD hK hf hts htl hex hN.len k1
  by_cases k2:rows[n].e.kind=2
  ·simp only[if_neg k1,if_pos k2];exact RL hn hK hf (hn2 k2) hex hN.len k2
  by_cases k3:rows[n].e.kind=3
  ·simp only[if_neg k1,if_neg k2,if_pos k3];exact OV hn hD hK hf (hn3 k3) hts htl hex hN.len k3
  by_cases k4:rows[n].e.kind=4
  ·simp only[if_neg k1,if_neg k2,if_neg k3,if_pos k4];exact LZ hn (fun i=>dC ts (au rows) out f k out i.toNat) (hN.kids _ hm) ZL hex hN.len k4
  by_cases k5:rows[n].e.kind=5
  ·simp only[if_neg k1,if_neg k2,if_neg k3,if_neg k4,if_pos k5];exact OW hn (fun i=>dC ts (au rows) out f k out i.toNat) (hN.kids _ hm) ZL hex hN.len k5
  have k6:rows[n].e.kind=6:=cq;simp only[if_neg k1,if_neg k2,if_neg k3,if_neg k4,if_neg k5,if_pos k6];have h2:=hN.two _ hme k6;have hg:∀q,q<2->rows[n].e.kids.getD q 0∈rows[n].e.kids:=fun q hq=>by
   rw[Yl,XQ cq];exact XI _
  exact RN hn _ _ (hN.kids _ hm) h2 (ZL _<|hg 0 cq) (ZL _<|hg 1 cq) hex hN.len k6
def Nq{rs:Q06}(h:bz (ai rs)=true){k:Q01}(hk:k∈ay (ai rs)):∃t∈rs,∃q∈t.rows,qD rs k=some q.sl/\au q.rows=aH (ai rs) k.1 k.2/\aS (au q.rows)=true:=by
 have hk':=hk;unfold ay at hk;obtain⟨T,hT,hk⟩:=XZ.1 hk;obtain⟨t,ht,rfl⟩:=XW.1 hT;unfold jN at hk;obtain⟨r,hr,rfl⟩:=XW.1 hk;obtain⟨q,hq,rfl⟩:=XW.1 hr;have hrel:=qI h ht hq;cases e:qD rs (t.p.name,q.p.name) with
 | none =>
  have h1:=(qE h).no _ e;have h2:fI (ai rs) t.name q.name=none:=h1;rw[hrel]at h2;cases h2
 | some v =>
  obtain⟨t',ht',q',hq',-,rfl,e1,-⟩:=(qE h).yes _ v e;refine⟨t',ht',q',hq',rfl,?_,((bI h).2.2 t' ht' q' hq').1⟩;unfold aH;rw[e1];rfl
def OX{w:ag}{ad:Q02}(hD:DatA w rs D br bp bt n1 nr Mr Er (bB ts) xo xu np Mp vo vu)(hK:aL dM prog 52 w bK nK<|vV out)(hf:f.fits)(hts:∀t∈ts,t.fits)(htl:ts.length<=1000)(hsh:bz (ai rs)=true)(hkey:(f.a,f.r)∈ay (ai rs))(hs:kI w ad rs):
  Calls prog 203 #[.pointer (some<|am D),.agg<|cf f,.map<|some bK] w (a8 w<|.bool<|iC (ai rs) ts out f):=by
 obtain⟨t,htm,q,hq,htab,hrx,hsp⟩:=Nq hsh hkey;obtain⟨hN,hr1⟩:=AU hsp;have hnb:=iY hsp;have HFR:oZ rs q.ad q.rows:=.inr ⟨t,htm,q,hq,rfl,rfl⟩;obtain⟨kl,hkl⟩:=j5 (f.a,f.r) hf.1 hf.2.2.1;obtain⟨W0,hW0⟩:=eQx<|w.alloc<|.cells (cf f) 52;have HB0:=lX hW0;have c0:W0.cell? (aE w)=some (.string f.a):=by rw[hW0];simp
 have c1:W0.cell? (a6 w 1)=some (.string f.b):=by rw[hW0];simp
 have c2:W0.cell? (a6 w 2)=some (.string f.r):=by rw[hW0];simp
 have c3:W0.cell? (a6 w 3)=some (.string f.c):=by rw[hW0];simp
 have c4:W0.cell? (a6 w 4)=some (.string f.d):=by rw[hW0];simp
 have d0:=HB0.cell (p:=⟨D,0,none⟩) hD.dat.lt |>.trans hD.dat.c0;obtain⟨YY,hadE⟩:∃a,a=q.ad:=⟨_,rfl⟩;obtain⟨capE,hcapE⟩:∃a,a=q.cap:=⟨_,rfl⟩;obtain⟨rows,hrows⟩:∃a,a=q.rows:=⟨_,rfl⟩;have hsl:q.sl=.slice YY rows.length capE:=by rw[hadE,hcapE,hrows];rfl
 rw[<-hrows]at hN hnb hr1 hrx;rw[<-hrows,<-hadE]at HFR;have hlk:∀m,(Instr.lookup 102 (.map<|some bt) (.agg #[.string f.a,.string f.r]) false).run prog (W0.drewN m)=.ok (.slice YY rows.length capE) (W0.drewN m):=fun m=>by
  have h:=((hD.tab.below HB0).below<|below_drewN (XL _ _) m).look (t:=102) (e:=37) ji underlying102 (pz _) (x:=(f.a,f.r)) hkl;rw[htab,hsl]at h;exact h
 have hr1000:=hN.len;have hwr:IntKind.i64.wrap ((rows.length:Int)-1)=((rows.length-1:Nat):Int):=by rw[IntKind.wrap_i64];omega
 have HC:O (∀nq,Calls prog 232 #[.pointer (some<|am D),.slice YY rows.length capE,.int .i64 ((rows.length-1:Nat):Int),.agg<|cf f,.map<|some bK] (W0.drewN nq) fun e w'=>e=.returned (.bool<|iC (ai rs) ts out f)/\Below (W0.drewN nq).heap.size (W0.drewN nq) w'):=fun nq=>by
  have hb:ae w (W0.drewN nq):=below_drewN HB0 nq;have h:=oP (capE:=capE) hN hnb hf hts htl rows.length (rows.length-1) (W0.drewN nq) cq cq (hD.below hb) (hK.below hb)<|HFR.sl<|hs.below hb;unfold iC;rw[<-hrx,aX];exact h
 clear hD hK hs hsp hkl htab hsl hN hnb hf hadE hcapE hrows HFR hrx hkey;go_enter func203,ntmps203;go_wp2_with fail;rw[<-hW0];clear hW0;go_quiet (fail);clear d0 hlk;go_wp2_with fail;refine(HC _).mono ?_;rintro e w1 ⟨rfl,hb1⟩;have HB1:=ah<|(below_drewN HB0 _).trans<|hb1.mono HB0.size;clear hb1 c0 c1 c2 c3 c4;go_wp2;go_ret;exact⟨rfl,HB1⟩
end
def Uy(u:Al)(g:Fc):Bool:=zH g.c g.d u.t u.s
def OY(p:Fc->Bool){zs:Q04}{k:Nat}(h:k<zs.length):(zs.drop k).any p=(p zs[k] || (zs.drop<|k+1).any p):=by rw[Yi h];rfl
def jX.at0{w:ag}{ad:Q02}{fs:Q04}(h:jX w ad fs){k:Nat}(hk:k<fs.length):∃b off,ad=some (ap b off)/\yP w b (off+k*5) fs[k]/\b<w.heap.size:=by
 rcases h with h|⟨b',off',e,hb,hr⟩
 ·rw[h]at hk;simp at hk
 exact⟨b',off',e,hr k hk,hb⟩
def Uz(g:Nat)(u:Al)(f:Fc)(w:ag)(hg:cW g w)(h0:w.cell? (am g)=some (.string u.t))(h1:w.cell? (ap g 1)=some (.string u.s)):
  Calls prog 205 #[.agg (cf f),.pointer<|some<|am g] w (a8 w<|.bool<|Uy u f):=by
 have HB:O (ae w<|w.alloc<|.cells (cf f) 52):=(XL _ _).alloc (XK _) _;have heq:=iW f.c f.d u.t u.s rfl;go_enter func205,ntmps205;go_wp2;go_ret;exact⟨rfl,HB⟩
def V7(xs:Array Value)(u:ag):(callFunc 205 xs).run prog u=.ok (.enter 205 xs) u:=cw
def Jr(FC:Nat)(rc cp:Array Value)(p:Fc->Bool)(ad:Q02)(cap:Nat)(xs:Q04)(w:ag)(hlen:a7 xs)(hs:jX w ad xs)
  (hrun:∀(ys:Array Value) (u:World),(callFunc FC ys).run prog u=.ok (.enter FC ys) u) (hp:∀x∈xs,∀w1:World,ae w w1->Calls prog FC (rc.push (.agg<|cf x)++cp) w1 (a8 w1<|.bool<|p x)) :
  Calls prog 270 #[.slice ad xs.length cap,.func (Fn.func FC) rc cp] w fun e w'=>(∃r:Int,e=.returned (.int .i64 r)/\decide (0<=r)=xs.any p)/\ae w w':=by
 have HS:=ah hs;have HRUN:=ah hrun;have HP:=ah hp;clear hs hrun hp;have HD:O (∀k (h:k<xs.length),(xs.drop k).any p=(p xs[k] || (xs.drop<|k+1).any p)):=fun k h=>OY p h;go_enter func270,ntmps270;go_wp2_with fail;go_loopw[8] (fun i wr=>∃k:Nat,k<=xs.length/\i=.int .i64 k/\O ((xs.drop k).any p=xs.any p)/\O (ae w wr)) (fun i _=>xs.length-(intOf i).toNat);case atStart=>exact⟨0,XP _,rfl,rfl,XL _ _⟩
 obtain⟨k,hk,rfl,HQ,HB⟩:=hrel;by_cases hlt:k<xs.length
 ·obtain⟨b,off,YW,⟨t0,t1,t2,t3,t4⟩,hbl⟩:=jX.at0 (HS.below HB) hlt;have HM:O (xs[k]∈xs):=XI hlt;have hk1:=bG k;have hk2:(k:Int)<(xs.length:Int):=cq;have HD2:=ah<|HD k hlt;subst YW;go_wp2_with fail;rw[HRUN.out,Oper.upon_enter];refine(HP _ HM _ HB).mono ?_;rintro e w1 ⟨rfl,hb1⟩;have HB1:=jr HB hb1;clear hb1 t0 t1 t2 t3 t4;cases he:p xs[k];case true=>
   have HN:O (xs.any p=true):=by show _=_;rw[<-HQ,HD2,he];rfl
   go_wp2;go_ret;exact⟨⟨k,rfl,by rw[HN];simp⟩,HB1⟩
  have HQ2:O ((xs.drop<|k+1).any p=xs.any p):=by show _=_;rw[<-HQ,HD2,he];rfl
  go_wp2;go_roundw;case rel=>exact⟨k+1,cq,cx,HQ2,HB1⟩
  simp[intOf]<;>omega
 have HN:O (xs.any p=false):=by show _=_;rw[<-HQ,Ya cq];rfl
 go_wp2;go_ret;exact⟨⟨-1,rfl,by rw[HN];simp⟩,HB⟩
def sF(FC:Nat)(rc cp:Array Value)(p:Fc->Bool)(ad:Q02)(cap:Nat)(xs:Q04)(w:ag)(hlen:a7 xs)(hs:jX w ad xs)
  (hrun:∀(ys:Array Value) (u:World),(callFunc FC ys).run prog u=.ok (.enter FC ys) u) (hp:∀x∈xs,∀w1:World,ae w w1->Calls prog FC (rc.push (.agg<|cf x)++cp) w1 (a8 w1<|.bool<|p x)) :
  Calls prog 204 #[.slice ad xs.length cap,.func (Fn.func FC) rc cp] w (a8 w<|.bool<|xs.any p):=by
 have HC:=ah<|Jr FC rc cp p ad cap xs w hlen hs hrun hp;clear hs hrun hp;go_enter func204,ntmps204;go_wp2_with fail;refine HC.mono ?_;rintro e w' ⟨⟨r,rfl,hr⟩,hbx⟩;have HR:=ah hr;clear hr;go_wp2;go_ret;exact⟨by rw[<-HR];rfl,hbx⟩
def L6{us:Q0a}{new:Q04}{k:Nat}(h:k<us.length):fP (us.take<|k+1) new=fP (us.take k) new++(if new.any (Uy us[k]) then [us[k]] else []):=by
 unfold fP;rw[XM h,YU];congr 1;rw[YS];rfl
def FK(us:Q0a)(new:Q04):(fP us new).length<=us.length:=List.length_filter_le _ _
def sG(Z6:Q02)(Zh:Nat)(us:Q0a)(ZG:Q02)(Za:Nat)(new:Q04)(w:ag)(hul:us.length<=1000)(hnl:a7 new)(hu:mJ w Z6 us)(hf:jX w ZG new):
  Calls prog 136 #[.slice Z6 us.length Zh,.slice ZG new.length Za] w fun e w'=>(∃v,e=.returned v/\bj w w' 27 2 v (fP us new).length (pairs<|fP us new))/\ae w w':=by
 obtain⟨iO,h0,h1,h2,h3⟩:=Cj;have HIO:=aJ<|And.intro h0<|And.intro h1<|And.intro h2 h3;have HU:=aJ hu;have HF:=aJ hf;have HO0:O (bj w w 27 2 (.slice none 0 0) (fP (us.take 0) new).length<|pairs<|fP (us.take 0) new):=World.ownsRow_nil _ _ _ _;clear hu hf h0 h1 h2 h3;go_enter func136,ntmps136;go_wp2_with fail;go_loopw[5,10] (fun v i wr=>∃k:Nat,k<=us.length/\i=.int .i64 k/\O (bj w wr 27 2 v (fP (us.take k) new).length<|pairs<|fP (us.take k) new)/\O (ae w wr)) (fun _ i _=>us.length-(intOf i).toNat);case atStart=>exact⟨0,XP _,rfl,HO0,XL _ _⟩
 clear HO0;obtain⟨k,hk,rfl,HO,HB⟩:=hrel;by_cases hlt:k<us.length
 ·obtain⟨b,off,YW,⟨t0,t1⟩,hbl⟩:=mJ.at0 (HU.below HB) hlt;have hi1:=bG k;have hi2:(k:Int)<(us.length:Int):=cq;have HKT:=aJ<|L6 (new:=new) hlt;have hkl:=FK (us.take k) new;rw[Yc]at hkl;obtain⟨u,hu⟩:=eQx<|us[k];rw[<-hu]at t0 t1 HKT;clear hu;obtain⟨W1,hW1⟩:=eQx<|wr.alloc<|.cells #[.string u.t,.string u.s] 27;have ZF:=lX hW1;have HB1:=aJ<|HB.trans<|ZF.mono HB.size;have d0:W1.cell? (aE wr)=some (.string u.t):=by rw[hW1];simp
  have d1:W1.cell? (a6 wr 1)=some (.string u.s):=by rw[hW1];simp
  have dl:cX wr W1:=ax d0;have Zj:=aJ<|aP HO ZF;obtain⟨ys,hys⟩:=eQx<|fP (us.take k) new;rw[<-hys]at Zj HKT hkl;obtain⟨adV,capV,rfl,-⟩:=nI Zj;have Z9:=aJ<|sF 205 #[] #[.pointer (some<|aE wr)] (Uy u) ZG Za new W1 hnl (HF.below HB1) V7 fun x hx w1 hb=>Uz wr.heap.size u x w1 (XJ dl hb.size) (az hb dl d0)<|az hb dl d1;subst YW;clear hys HO;go_wp2_with fail;rw[<-hW1];clear hW1 t0 t1;refine Z9.mono ?_;rintro e w2 ⟨rfl,hb2⟩;have HB2:=aJ<|HB1.trans<|hb2.mono HB1.size;have YZ:=aJ<|aP Zj hb2;replace d0:=az hb2 dl d0;replace d1:=az hb2 dl d1;replace dl:=XJ dl hb2.size;clear hb2 Z9 Zj ZF;cases hh:new.any (Uy u);case false=>
   have HR:O (bj w w2 27 2 (.slice adV ys.length capV) (fP (us.take<|k+1) new).length<|pairs<|fP (us.take<|k+1) new):=by
    show World.ownsRow _ _ _ _ _ _ _;rw[HKT,hh];simp only[Bool.false_eq_true,if_false,YB];exact YZ
   go_wp2;go_roundw;case rel=>exact⟨k+1,cq,cx,HR,HB2⟩
   simp[intOf]<;>omega
  have HWE:O (fP (us.take<|k+1) new=ys++[u]):=by show _=_;rw[HKT,hh];rfl
  obtain⟨W4,Zw⟩:=eQx<|w2.alloc<|.cells #[.string u.t,.string u.s] 27;have Zg:O (bj w W4 27 2 (.slice adV ys.length capV) ys.length<|pairs ys):=by show World.ownsRow _ _ _ _ _ _ _;rw[Zw];exact YZ.alloc _
  have HN4:O (∀j x,[Value.string u.t,.string u.s][j]?=some x->W4.cell? ((⟨w2.heap.size,0,none⟩:Addr).add j)=some x):=by rw[Zw];exact Vr w2 u
  have ZX:O (ae w W4):=by show Below _ _ _;rw[Zw];exact HB2.alloc HB2.size _
  have hsz4:cY w W4:=ZX.size;clear hh;go_wp2_with(at_builtin;rw[<-Zw];clear Zw;refine wpList_append_own_at _ rfl _ _ 192 rfl w.heap.size 27 iO (.agg aw) 2 32 underlying192 HIO.1 HIO.2.1 HIO.2.2.1 HIO.2.2.2 rfl cv _ ys.length (pairs ys) rfl Zg ⟨w2.heap.size,0,none⟩ 1 1 [.string u.t,.string u.s] rfl rfl HN4 (by simp[Value.oneCell']) cy cq hsz4 ?_);intro v' w5 hown hgr _ _;have HR:O (bj w w5 27 2 v' (fP (us.take<|k+1) new).length<|pairs<|fP (us.take<|k+1) new):=by
   show World.ownsRow _ _ _ _ _ _ _;rw[HWE,XT];have:pairs (ys++[u])=pairs ys++[.string u.t,.string u.s]:=by simp[pairs]
   rw[this];exact hown
  have HBR:O (ae w w5):=ZX.grown hgr ZX.size fun g hg=>(Zg.lt g hg).1;clear hown hgr d0 d1 dl;go_wp2;go_roundw;case rel=>exact⟨k+1,cq,cx,HR,HBR⟩
  simp[intOf]<;>omega
 have HE:O (bj w wr 27 2 u5 (fP us new).length<|pairs<|fP us new):=by
  have h:=HO.out;rw[Yj cq]at h;exact h
 clear HO;go_wp2;go_ret;exact⟨⟨_,rfl,HE⟩,HB⟩
def Js(K:Fc->Bool)(f:Fc)(t:Tp):Bool:=if t.s.toList.isEmpty then t.c.toList==f.c.toList&&t.d.toList==f.d.toList else K ⟨t.c,t.d,t.s,f.c,f.d⟩
abbrev Ru:=(Fc->Bool)->Bool
def sH(l:Q05)(f:Fc):Ru:=fun K=>l.any fun t=>(t.a.toList==f.a.toList&&t.b.toList==f.b.toList&&t.r.toList==f.r.toList)&&Js K f t
def FL(l:Q05)(over name:ByteArray)(f:Fc):Ru:=fun K=>l.any fun t=>(t.a.toList==f.a.toList&&t.b.toList==f.b.toList&&t.r.toList==over.toList)&&K ⟨t.c,t.d,name,f.c,f.d⟩
def gN(l:Q05)(es:Q09)(truth:Q04)(f:Fc):Nat->Nat->Ru
 | 0,_=>fun _=>false
 | k+1,n=>match es[n]? with
  | none=>fun _=>false
  | some x =>
   if x.kind=1 then sH l f
   else if x.kind=2 then fun K=>K ⟨f.a,f.b,x.name,f.c,f.d⟩
   else if x.kind=3 then FL l x.over x.name f
   else if x.kind=4 then fun K=>x.kids.any fun i=>gN l es truth f k i.toNat K
   else if x.kind=5 then fun K=>x.kids.all fun i=>gN l es truth f k i.toNat K
   else if x.kind=6 then if dC l es truth f k truth (x.kids.getD 1 0).toNat then fun _=>false else gN l es truth f k (x.kids.getD 0 0).toNat
   else fun _=>false
def RO(l:Q05)(es:Q09)(truth known:Q04)(f:Fc):∀k n,gN l es truth f k n (aR known)=dC l es truth f k known n
 | 0,_=>rfl
 | k+1,n=>by
  unfold gN
  conv=>rhs;unfold dC
  cases es[n]? with
  | none=>rfl
  | some x =>
   dsimp only;by_cases k1:x.kind=1
   ·rw[if_pos k1,if_pos k1];rfl
   rw[if_neg k1,if_neg k1];by_cases k2:x.kind=2
   ·rw[if_pos k2,if_pos k2]
   rw[if_neg k2,if_neg k2];by_cases k3:x.kind=3
   ·rw[if_pos k3,if_pos k3];rfl
   rw[if_neg k3,if_neg k3];have key:∀i:Int,gN l es truth f k i.toNat (aR known)=dC l es truth f k known i.toNat:=fun i=>RO l es truth known f k i.toNat;by_cases k4:x.kind=4
   ·rw[if_pos k4,if_pos k4];exact congrArg (fun p=>x.kids.any p) (funext key)
   rw[if_neg k4,if_neg k4];by_cases k5:x.kind=5
   ·rw[if_pos k5,if_pos k5];exact congrArg (fun p=>x.kids.all p) (funext key)
   rw[if_neg k5,if_neg k5];by_cases k6:x.kind=6
   ·rw[if_pos k6,if_pos k6];cases h:dC l es truth f k truth (x.kids.getD 1 0).toNat;case true=>rw[if_pos rfl];simp
    rw[if_neg cv,key];simp
   rw[if_neg k6,if_neg k6]
def qM(w:World)(S:Nat->Prop)(P:Value->Ru->Prop)(ad:Q02)(Gs:List Ru):Prop:=Gs=[] \/ ∃g,ad=some ⟨g,0,none⟩/\S g/\g<w.heap.size/\∀(i:Nat) (h:i<Gs.length),∃u,w.cell? ⟨g,i,none⟩=some u/\P u Gs[i]
def aG(w:World)(S:Nat->Prop):Nat->Value->Ru->Prop
 | 0,_,_=>False
 | n+1,v,G =>
  (∃b:Bool,v=.iface 239 (.agg #[.bool b])/\G=fun _=>b) \/
  (∃(ad:Q02) (cap:Nat) (fs:Q04),v=.iface 301 (.agg #[.slice ad fs.length cap])/\(fs=[] \/ ∃g,ad=some ⟨g,0,none⟩/\S g)/\jX w ad fs/\(fs.length<=40/\(ad=none->cap=0))/\(∀x∈fs,x.fits)/\G=fun K=>fs.any K) \/
  (∃(ad:Q02) (cap:Nat) (Gs:List Ru),v=.iface 304 (.agg #[.slice ad Gs.length cap])/\Gs.length<=5/\qM w S (aG w S n) ad Gs/\G=fun K=>Gs.any fun H=>H K) \/
  (∃(ad:Q02) (cap:Nat) (Gs:List Ru),v=.iface 306 (.agg #[.slice ad Gs.length cap])/\Gs.length<=5/\qM w S (aG w S n) ad Gs/\G=fun K=>Gs.all fun H=>H K)
def jX.blockF{w w':ag}{ad:Q02}{fs:Q04}(h:jX w ad fs)(hs:cY w w')(hz:fs≠[]->∃g,ad=some (am g)/\(g<w.heap.size->w'.heap[g]?=w.heap[g]?)):jX w' ad fs:=by
 by_cases hx:fs=[]
 ·exact .inl hx
 rcases h with h|⟨b,off,e,hb,hr⟩
 ·exact absurd h hx
 obtain⟨g,e2,hg⟩:=hz hx;rw[e]at e2;injection e2 with e2;injection e2 with e2 e3;subst e2;exact .inr ⟨b,off,e,XJ hb hs,fun i hi=>(hr i hi).same fun o=>Yf (w:=w) (a:=⟨b,o,none⟩)<|hg hb⟩
def aG.keep{w w':ag}{S T:Nat->Prop}(hs:cY w w')(hk:∀g,S g->g<w.heap.size->T g/\w'.heap[g]?=w.heap[g]?):∀(n:Nat) (v:Value) (G:Ru),aG w S n v G->aG w' T n v G
 | 0,_,_,h=>h
 | n+1,v,G,h=>by
  have row:∀{ad:Q02} {Gs:List Ru},qM w S (aG w S n) ad Gs->qM w' T (aG w' T n) ad Gs:=fun {ad Gs} h=>by
   rcases h with h|⟨g,e,h1,h2,h3⟩
   ·exact .inl h
   obtain⟨k1,k2⟩:=hk g h1 h2;refine .inr ⟨g,e,k1,XJ h2 hs,fun i hi=>?_⟩;obtain⟨u,hu,hp⟩:=h3 i hi;exact⟨u,(Yf (w:=w) (a:=⟨g,i,none⟩) k2).trans hu,aG.keep hs hk n u _ hp⟩
  rcases h with h|⟨ad,cap,fs,e,hz,h1,h2,h3,h4⟩|⟨ad,cap,Gs,e,h1,h2,h3⟩|⟨ad,cap,Gs,e,h1,h2,h3⟩
  ·exact .inl h
  ·refine .inr<|.inl ⟨ad,cap,fs,e,?_,?_,h2,h3,h4⟩
   ·rcases hz with hz|⟨g,e1,hg⟩
    ·exact .inl hz
    by_cases hx:fs=[]
    ·exact .inl hx
    rcases h1 with h1|⟨b,off,e2,hb,-⟩
    ·exact absurd h1 hx
    rw[e1]at e2;injection e2 with e2;injection e2 with e2 e3;exact .inr ⟨g,e1,(hk g hg cq).1⟩
   refine h1.blockF hs fun hne=>?_;rcases hz with hz|⟨g,e1,hg⟩
   ·exact absurd hz hne
   exact⟨g,e1,fun hl=>(hk g hg hl).2⟩
  ·exact .inr<|.inr<|.inl ⟨ad,cap,Gs,e,h1,row h2,h3⟩
  exact .inr<|.inr<|.inr ⟨ad,cap,Gs,e,h1,row h2,h3⟩
def aG.below{w w':ag}{S:Nat->Prop}{n:Nat}{v:Value}{G:Ru}(h:aG w S n v G)(hb:ae w w'):aG w' S n v G:=aG.keep hb.size (fun g h1 h2=>⟨h1,hb.block g h2⟩) n v G h
def aG.more{w:ag}{S:Nat->Prop}:∀(n:Nat) (v:Value) (G:Ru),aG w S n v G->aG w S (n+1) v G
 | 0,_,_,h=>h.elim
 | n+1,v,G,h=>by
  have row:∀{ad:Q02} {Gs:List Ru},qM w S (aG w S n) ad Gs->qM w S (aG w S<|n+1) ad Gs:=fun {ad Gs} h=>by
   rcases h with h|⟨g,e,h1,h2,h3⟩
   ·exact .inl h
   refine .inr ⟨g,e,h1,h2,fun i hi=>?_⟩;obtain⟨u,hu,hp⟩:=h3 i hi;exact⟨u,hu,aG.more n u _ hp⟩
  rcases h with h|h|⟨ad,cap,Gs,e,h1,h2,h3⟩|⟨ad,cap,Gs,e,h1,h2,h3⟩
  ·exact .inl h
  ·exact .inr<|.inl h
  ·exact .inr<|.inr<|.inl ⟨ad,cap,Gs,e,h1,row h2,h3⟩
  exact .inr<|.inr<|.inr ⟨ad,cap,Gs,e,h1,row h2,h3⟩
def aG.up{w:ag}{S:Nat->Prop}{v:Value}{G:Ru}{n m:Nat}(h:aG w S n v G)(hm:n<=m):aG w S m v G:=by
 induction m with
 | zero =>
  have e:n=0:=cq;rw[e]at h;exact h
 | succ m ih =>
  by_cases e:n=m+1
  ·rw[<-e];exact h
  exact aG.more m v G<|ih cq
def jo(B:Nat)(g:Nat):Prop:=B<=g
def xL{w:ag}{B:Nat}{v:Value}{fs:Q04}(h:w.ownsRow B 52 5 v fs.length<|av fs)(hl:fs.length<=40)(hf:∀x∈fs,x.fits){G:Ru}(hG:G=fun K=>fs.any K):aG w (jo B) 1 (.iface 301<|.agg #[v]) G:=by
 obtain⟨ad,cap,e,hs⟩:=gV h;subst e;refine .inr<|.inl ⟨ad,cap,fs,rfl,?_,hs,⟨hl,fun e=>?_⟩,hf,hG⟩;rotate_left
 ·subst e;rcases h.2 with⟨e2,-⟩|⟨g,cap2,cur,e2,-⟩
  ·injection e2
  cases e2
 by_cases hx:fs=[]
 ·exact .inl hx
 rcases h.2 with⟨-,h0⟩|⟨g,cap2,cur,e2,hbg,-⟩
 ·exact absurd (X0.1 h0) hx
 injection e2 with e2;exact .inr ⟨g,e2,hbg⟩
def qN{w:ag}{S:Nat->Prop}(b:Bool){G:Ru}(hG:G=fun _=>b):aG w S 1 (.iface 239<|.agg #[.bool b]) G:=.inl ⟨b,rfl,hG⟩
def wm(f:Fc)(L:Q05):List Fc:=(L.filter fun t=>!t.s.toList.isEmpty).map fun t=>⟨t.c,t.d,t.s,f.c,f.d⟩
def AV(f:Fc)(name:ByteArray)(L:Q05):List Fc:=L.map fun t=>⟨t.c,t.d,name,f.c,f.d⟩
def RP(f:Fc){L:Q05}{k:Nat}(h:k<L.length):wm f (L.take<|k+1)=wm f (L.take k)++(if L[k].s.toList.isEmpty then [] else [⟨L[k].c,L[k].d,L[k].s,f.c,f.d⟩]):=by
 unfold wm;rw[XM h,YU,YF];congr 1;rw[YS];cases L[k].s.toList.isEmpty<;>rfl
def RQ(f:Fc)(name:dw){L:Q05}{k:Nat}(h:k<L.length):AV f name (L.take<|k+1)=AV f name (L.take k)++[⟨L[k].c,L[k].d,name,f.c,f.d⟩]:=by
 unfold AV;rw[XM h,YF];rfl
def Nr(f:Fc)(L:Q05):(wm f L).length<=L.length:=by unfold wm;rw[Yp];exact List.length_filter_le _ _
def RU{f:Fc}{L:Q05}(hf:f.fits)(h:∀t∈L,t.fits):∀x∈wm f L,x.fits:=fun x hx=>by
 unfold wm at hx;obtain⟨t,ht,rfl⟩:=XW.1 hx;have h1:=h t (YL.1 ht).1;exact⟨h1.2.2.2.1,h1.2.2.2.2.1,h1.2.2.2.2.2,hf.2.2.2.1,hf.2.2.2.2⟩
def RV{f:Fc}{name:ByteArray}{L:Q05}(hf:f.fits)(hn:name.size<=maxLen)(h:∀t∈L,t.fits):∀x∈AV f name L,x.fits:=fun x hx=>by
 unfold AV at hx;obtain⟨t,ht,rfl⟩:=XW.1 hx;have h1:=h t ht;exact⟨h1.2.2.2.1,h1.2.2.2.2.1,hn,hf.2.2.2.1,hf.2.2.2.2⟩
def ry(f:Fc)(t:Tp):Bool:=t.s.toList.isEmpty&&zH t.c t.d f.c f.d
def CR(f:Fc)(L:Q05)(K:Fc->Bool):L.any (Js K f)=(L.any (ry f) || (wm f L).any K):=by
 induction L with
 | nil=>rfl
 | cons t L ih =>
  have e:wm f (t::L)=(if t.s.toList.isEmpty then [] else [⟨t.c,t.d,t.s,f.c,f.d⟩])++wm f L:=by
   unfold wm;rw[YS];cases t.s.toList.isEmpty<;>rfl
  rw[YP,YP,e,List.any_append,ih];unfold Js ry;cases hs:t.s.toList.isEmpty
  ·simp only[Bool.false_eq_true,if_false,Bool.false_and,YP,List.any_nil,Bool.or_false,Bool.false_or];rw[<-Bool.or_assoc,Bool.or_comm<|K _,Bool.or_assoc]
  simp only[if_true,Bool.true_and,List.any_nil,Bool.false_or];unfold zH;rw[Bool.or_assoc]
def RX{ts:Q05}{f:Fc}(h:(G.lookL (bB ts) (f.a,f.b,f.r)).any (ry f)=true):sH ts f=fun _=>true:=by
 funext K
 unfold sH;rw[<-su ts (f.a,f.b,f.r) (Js K f),CR,h];rfl
def UA{ts:Q05}{f:Fc}(h:(G.lookL (bB ts) (f.a,f.b,f.r)).any (ry f)=false):sH ts f=fun K=>(wm f<|G.lookL (bB ts) (f.a,f.b,f.r)).any K:=by
 funext K
 unfold sH;rw[<-su ts (f.a,f.b,f.r) (Js K f),CR,h];rfl
def UB{ts:Q05}{f:Fc}{over name:ByteArray}:FL ts over name f=fun K=>(AV f name<|G.lookL (bB ts) (f.a,f.b,over)).any K:=by
 funext K
 unfold FL AV;rw[<-su ts (f.a,f.b,over) (fun t=>K ⟨t.c,t.d,name,f.c,f.d⟩),List.any_map];rfl
structure PrM(w:World)(P D:Nat)(ZG:Q02)(Za:Nat)(out:Q04)(bK nK:Nat):Prop where
 lt:P<w.heap.size
 c0:w.cell? ⟨P,0,none⟩=some (.pointer<|some ⟨D,0,none⟩)
 c1:w.cell? ⟨P,1,none⟩=some (.slice ZG out.length Za)
 c2:w.cell? ⟨P,2,none⟩=some (.map<|some bK)
 found:jX w ZG out
 set:aL dM prog 52 w bK nK (vV out)
def PrM.below{w w':ag}{P D:Nat}{ZG:Q02}{Za:Nat}{out:Q04}{bK nK:Nat}(h:PrM w P D ZG Za out bK nK)(hb:ae w w'):PrM w' P D ZG Za out bK nK :=
 ⟨XJ h.lt hb.size,az hb h.lt h.c0,az hb h.lt h.c1,az hb h.lt h.c2,h.found.below hb,h.set.below hb⟩
section
variable  {w:World}{rs:Q06}{P D br bp bt bK nK:Nat}{n1:Int}{nr:Nat}{Mr:KL->Option Value}{Er:List (KL×RR)}{ts:Q05}{xo xu:Q0a}{np:Nat}{Mp:K3->Option Value}{vo vu:Value}{out:Q04}{f:Fc}{ZG:Q02}{Za:Nat}
def GZ(hP:PrM w P D ZG Za out bK nK)(hD:DatA w rs D br bp bt n1 nr Mr Er (bB ts) xo xu np Mp vo vu)(hf:f.fits)(hts:∀t∈ts,t.fits)(htl:ts.length<=40):
  Calls prog 229 #[.pointer (some<|am P),.agg<|cf f] w fun e w'=>(∃v,e=.returned v/\aG w' (jo w.heap.size) 1 v (sH ts f))/\ae w w':=by
 obtain⟨iF,i0,i1,i2,i3⟩:=mI;have HIF:=ah<|And.intro i0<|And.intro i1<|And.intro i2 i3;obtain⟨kl,hkl⟩:=wI (f.a,f.b,f.r) hf.1 hf.2.1 hf.2.2.1;obtain⟨Zo,Y0,hgd,hsl⟩:=xD hD.dat.told (f.a,f.b,f.r);have hll:=xG ts (f.a,f.b,f.r);have HFL:O (∀t∈G.lookL (bB ts) (f.a,f.b,f.r),t.fits):=fun t ht=>hts t<|xE ht;have HHIT:O ((G.lookL (bB ts) (f.a,f.b,f.r)).any (ry f)=true->sH ts f=fun _=>true):=RX;have ZQ:O ((G.lookL (bB ts) (f.a,f.b,f.r)).any (ry f)=false->sH ts f=fun K=>(wm f<|G.lookL (bB ts) (f.a,f.b,f.r)).any K):=UA;obtain⟨L,hLe⟩:=eQx<|G.lookL (bB ts) (f.a,f.b,f.r);rw[<-hLe]at hgd hsl hll HFL ZQ HHIT;obtain⟨W0,hW0⟩:=eQx<|w.alloc<|.cells (cf f) 52;have HB0:=lX hW0;have c0:W0.cell? (aE w)=some (.string f.a):=by rw[hW0];simp
 have c1:W0.cell? (a6 w 1)=some (.string f.b):=by rw[hW0];simp
 have c2:W0.cell? (a6 w 2)=some (.string f.r):=by rw[hW0];simp
 have c3:W0.cell? (a6 w 3)=some (.string f.c):=by rw[hW0];simp
 have c4:W0.cell? (a6 w 4)=some (.string f.d):=by rw[hW0];simp
 have d3:=HB0.cell (p:=⟨D,3,none⟩) hD.dat.lt |>.trans hD.dat.c3;have p0:=az HB0.out hP.lt hP.c0;have hlk:∀m,(Instr.lookup 191 (.map<|some bp) (.agg #[.string f.a,.string f.b,.string f.r]) false).run prog (W0.drewN m)=.ok (.slice Zo L.length Y0) (W0.drewN m):=fun m=>by
  have h:=((hD.dat.told.map.below HB0).below<|below_drewN (XL _ _) m).look (t:=191) (e:=25) M4 underlying191 (Cm _) (x:=(f.a,f.b,f.r)) hkl;rw[hgd]at h;exact h
 have HSL:=ah<|hsl.below HB0;have HF:=ah hf;have HC0:O (ac W0 w.heap.size 3 (.string f.c)/\ac W0 w.heap.size 4 (.string f.d)/\w.heap.size<W0.heap.size):=⟨c3,c4,ax c3⟩;have HO0:∀m,O ((W0.drewN m).ownsRow W0.heap.size 52 5 (.slice none 0 0) (wm f<|L.take 0).length<|av<|wm f<|L.take 0):=fun m=>World.ownsRow_nil _ _ _ _;have HH0:O ((L.take 0).any (ry f)=false):=rfl;clear hsl hf hLe hgd hkl i0 i1 i2 i3 hP hts;go_enter func229,ntmps229;go_wp2_with fail;rw[<-hW0];clear hW0;go_quiet (fail);clear c0 c1 c2 c3 c4 d3 p0 hlk;go_wp2;go_loopw[5,22] (fun v i wr=>∃k:Nat,k<=L.length/\i=.int .i64 k/\O (bj W0 wr 52 5 v (wm f<|L.take k).length<|av<|wm f<|L.take k)/\O (ae W0 wr)/\O ((L.take k).any (ry f)=false)) (fun _ i _=>L.length-(intOf i).toNat);case atStart=>exact⟨0,XP _,rfl,HO0 _,below_drewN (XL _ _) _,HH0⟩
 clear HO0 HH0;obtain⟨k,hk,rfl,HO,HB,HH⟩:=hrel;by_cases hlt:k<L.length
 ·obtain⟨bT,offT,hadT,⟨a0,a1,a2,a3,a4,a5⟩,hbT⟩:=Sl.at0 (HSL.below HB) hlt;obtain⟨c3,c4,cl⟩:=HC0.out;replace c3:=az HB.out cl c3;replace c4:=az HB.out cl c4;replace cl:=XJ cl HB.size;have hi1:=bG k;have hi2:(k:Int)<(L.length:Int):=cq;have HKT:=ah<|RP f hlt;have hkl:(wm f<|L.take k).length<=k:=by
   have h:=Nr f<|L.take k;rw[Yc]at h;omega
  have HHT:O ((L.take<|k+1).any (ry f)=((L.take k).any (ry f) || ry f L[k])):=by show _=_;rw[XM hlt,List.any_append];simp
  have HHA:O (ry f L[k]=true->L.any (ry f)=true):=fun h=>Yq.2 ⟨_,XI hlt,h⟩;obtain⟨t,ht⟩:=eQx<|L[k];rw[<-ht]at a0 a1 a2 a3 a4 a5 HKT HHT HHA;clear ht;obtain⟨W1,hW1⟩:=eQx<|wr.alloc<|.cells (cg t) 29;have ZF:=lX hW1;have Y9:=ah<|HB.trans<|ZF.mono HB.size;have hz1:W1.heap.size=wr.heap.size+1:=by rw[hW1];simp
  have Zj:=ah<|aP HO ZF;obtain⟨ys,hys⟩:=eQx<|wm f<|L.take k;rw[<-hys]at Zj HKT hkl;obtain⟨adV,capV,rfl,-⟩:=gV Zj;subst hadT;clear hys HO ZF;cases hs:t.s.toList.isEmpty;case true=>
   have hs2:(t.s.toList==[])=true:=by rw[oz];exact hs
   have HKE:O (wm f (L.take<|k+1)=ys):=by show _=_;rw[HKT,hs];simp
   cases hu:zH t.c t.d f.c f.d;case true=>
    have heq:=iW _ _ _ _ hu;have HN:O (sH ts f=fun _=>true):=HHIT (HHA<|by unfold ry;rw[hs,hu];rfl);have HBE:O (ae w W1):=HB0.trans<|Y9.mono HB0.size;clear hu hs;go_wp2;rw[<-hW1];go_ret;exact⟨⟨_,rfl,qN true HN⟩,HBE⟩
   have heq:=iW _ _ _ _ hu;have HH2:O ((L.take<|k+1).any (ry f)=false):=by show _=_;rw[HHT,HH];unfold ry;rw[hu];simp
   have HR:O (bj W0 W1 52 5 (.slice adV ys.length capV) (wm f<|L.take<|k+1).length<|av<|wm f<|L.take<|k+1):=by show World.ownsRow _ _ _ _ _ _ _;rw[HKE];exact Zj
   clear hu hs;go_wp2;rw[<-hW1];clear hW1;go_roundw;case rel=>exact⟨k+1,cq,cx,HR,Y9,HH2⟩
   simp[intOf]<;>omega
  have hs2:(t.s.toList==[])=false:=by rw[oz];exact hs
  have HWE:O (wm f (L.take<|k+1)=ys++[⟨t.c,t.d,t.s,f.c,f.d⟩]):=by show _=_;rw[HKT,hs];rfl
  have HH2:O ((L.take<|k+1).any (ry f)=false):=by show _=_;rw[HHT,HH];unfold ry;rw[hs];rfl
  clear hs;obtain⟨W4,Zw⟩:=eQx<|W1.alloc<|.cells #[.string t.c,.string t.d,.string t.s,.string f.c,.string f.d] 52;have Zg:O (bj W0 W4 52 5 (.slice adV ys.length capV) ys.length<|av ys):=by show World.ownsRow _ _ _ _ _ _ _;rw[Zw];exact Zj.alloc _
  have HN4:O (∀j u,(Fc.row ⟨t.c,t.d,t.s,f.c,f.d⟩)[j]?=some u->W4.cell? ((⟨wr.heap.size+1,0,none⟩:Addr).add j)=some u):=by rw[<-hz1,Zw];exact xm W1 ⟨t.c,t.d,t.s,f.c,f.d⟩
  have ZX:O (ae W0 W4):=by show Below _ _ _;rw[Zw];exact Y9.alloc Y9.size _
  have hsz4:cY W0 W4:=ZX.size;go_wp2_with(at_builtin;rw[<-hW1];rw[<-Zw];clear Zw;refine wpList_append_own_at _ rfl _ _ 44 rfl W0.heap.size 52 iF (.agg ar) 5 80 underlying44 HIF.1 HIF.2.1 HIF.2.2.1 HIF.2.2.2 rfl cv _ ys.length (av ys) rfl Zg ⟨wr.heap.size+1,0,none⟩ 1 1 (Fc.row ⟨t.c,t.d,t.s,f.c,f.d⟩) rfl rfl HN4 (by simp[Fc.row,Value.oneCell']) cy cq hsz4 ?_);intro v' w5 hown hgr _ _;have HR:O (bj W0 w5 52 5 v' (wm f<|L.take<|k+1).length<|av<|wm f<|L.take<|k+1):=by
   show World.ownsRow _ _ _ _ _ _ _;rw[HWE,XT,kX];exact hown
  have HBR:O (ae W0 w5):=ZX.grown hgr ZX.size fun g hg=>(Zg.lt g hg).1;clear hown hgr c3 c4 cl;go_wp2;go_roundw;case rel=>exact⟨k+1,cq,cx,HR,HBR,HH2⟩
  simp[intOf]<;>omega
 have HE:O (bj w wr 52 5 u5 (wm f L).length<|av<|wm f L):=by
  have h:=HO.out;rw[Yj cq]at h;exact bW h HB0.size
 have HNN:O (sH ts f=fun K=>(wm f L).any K):=ZQ (by have h:=HH.out;rw[Yj cq]at h;exact h);have HFF:O (∀y∈wm f L,y.fits):=RU HF HFL;have ZH:O ((wm f L).length<=40):=by show _<=_;have:=Nr f L;omega
 have HBE:O (ae w wr):=HB0.trans<|HB.mono HB0.size;clear HO;obtain⟨Z6,Zh,rfl,-⟩:=gV HE;go_wp2;go_ret;exact⟨⟨_,rfl,xL HE ZH HFF HNN⟩,HBE⟩
def G5(x:ER)(hP:PrM w P D ZG Za out bK nK)(hD:DatA w rs D br bp bt n1 nr Mr Er (bB ts) xo xu np Mp vo vu)(hf:f.fits)(hov:x.e.over.size<=maxLen)(hnm:x.e.name.size<=maxLen)(hts:∀t∈ts,t.fits)(htl:ts.length<=40):
  Calls prog 230 #[.pointer (some<|am P),.agg<|cU x,.agg<|cf f] w fun e w'=>(∃v,e=.returned v/\aG w' (jo w.heap.size) 1 v (FL ts x.e.over x.e.name f))/\ae w w':=by
 obtain⟨iF,i0,i1,i2,i3⟩:=mI;have HIF:=ah<|And.intro i0<|And.intro i1<|And.intro i2 i3;obtain⟨kl,hkl⟩:=wI (f.a,f.b,x.e.over) hf.1 hf.2.1 hov;obtain⟨Zo,Y0,hgd,hsl⟩:=xD hD.dat.told (f.a,f.b,x.e.over);have hll:=xG ts (f.a,f.b,x.e.over);have HFL:O (∀t∈G.lookL (bB ts) (f.a,f.b,x.e.over),t.fits):=fun t ht=>hts t<|xE ht;have ZQ:O (FL ts x.e.over x.e.name f=fun K=>(AV f x.e.name<|G.lookL (bB ts) (f.a,f.b,x.e.over)).any K):=UB;obtain⟨L,hLe⟩:=eQx<|G.lookL (bB ts) (f.a,f.b,x.e.over);rw[<-hLe]at hgd hsl hll HFL ZQ;obtain⟨W0,hW0⟩:=eQx<|(w.alloc<|.cells (cU x) 43).alloc<|.cells (cf f) 52;have HB0:O (ae w W0):=by show Below _ _ _;rw[hW0];exact((XL _ _).alloc (XK _) _).alloc ct _
 have x2:W0.cell? (a6 w 2)=some (.string x.e.over):=by rw[hW0];simp
 have x3:W0.cell? (a6 w 3)=some (.string x.e.name):=by rw[hW0];simp
 have hbx:w.heap.size+1<W0.heap.size:=by rw[hW0];simp
 have c0:W0.cell? (am<|w.heap.size+1)=some (.string f.a):=by rw[hW0];simp
 have c1:W0.cell? (ap (w.heap.size+1) 1)=some (.string f.b):=by rw[hW0];simp
 have c2:W0.cell? (ap (w.heap.size+1) 2)=some (.string f.r):=by rw[hW0];simp
 have c3:W0.cell? (ap (w.heap.size+1) 3)=some (.string f.c):=by rw[hW0];simp
 have c4:W0.cell? (ap (w.heap.size+1) 4)=some (.string f.d):=by rw[hW0];simp
 have d3:=HB0.cell (p:=⟨D,3,none⟩) hD.dat.lt |>.trans hD.dat.c3;have p0:=az HB0.out hP.lt hP.c0;have hlk:∀m,(Instr.lookup 191 (.map<|some bp) (.agg #[.string f.a,.string f.b,.string x.e.over]) false).run prog (W0.drewN m)=.ok (.slice Zo L.length Y0) (W0.drewN m):=fun m=>by
  have h:=((hD.dat.told.map.below HB0).below<|below_drewN (XL _ _) m).look (t:=191) (e:=25) M4 underlying191 (Cm _) (x:=(f.a,f.b,x.e.over)) hkl;rw[hgd]at h;exact h
 have HSL:=ah<|hsl.below HB0;have HF:=ah hf;have HC0:O (ac W0 (w.heap.size+1) 3 (.string f.c)/\ac W0 (w.heap.size+1) 4 (.string f.d)/\w.heap.size+1<W0.heap.size):=⟨c3,c4,ax c3⟩;have HX0:O (ac W0 w.heap.size 3 (.string x.e.name)/\w.heap.size<W0.heap.size):=⟨x3,ax x3⟩;have HO0:∀m,O ((W0.drewN m).ownsRow W0.heap.size 52 5 (.slice none 0 0) (AV f x.e.name<|L.take 0).length<|av<|AV f x.e.name<|L.take 0):=fun m=>World.ownsRow_nil _ _ _ _;clear hsl hf hLe hgd hkl i0 i1 i2 i3 hP hts;go_enter func230,ntmps230;go_wp2_with fail;rw[<-hW0];clear hW0;go_quiet (fail);clear c0 c1 c2 c3 c4 d3 p0 hlk x2 x3;go_wp2;go_loopw[7,24] (fun v i wr=>∃k:Nat,k<=L.length/\i=.int .i64 k/\O (bj W0 wr 52 5 v (AV f x.e.name<|L.take k).length<|av<|AV f x.e.name<|L.take k)/\O (ae W0 wr)) (fun _ i _=>L.length-(intOf i).toNat);case atStart=>exact⟨0,XP _,rfl,HO0 _,below_drewN (XL _ _) _⟩
 clear HO0;obtain⟨k,hk,rfl,HO,HB⟩:=hrel;by_cases hlt:k<L.length
 ·obtain⟨bT,offT,hadT,⟨a0,a1,a2,a3,a4,a5⟩,hbT⟩:=Sl.at0 (HSL.below HB) hlt;obtain⟨c3,c4,cl⟩:=HC0.out;replace c3:=az HB.out cl c3;replace c4:=az HB.out cl c4;replace cl:=XJ cl HB.size;obtain⟨x3,xl⟩:=HX0.out;replace x3:=az HB.out xl x3;replace xl:=XJ xl HB.size;have hi1:=bG k;have hi2:(k:Int)<(L.length:Int):=cq;have HKT:=ah<|RQ f x.e.name hlt;have hkl:(AV f x.e.name<|L.take k).length<=k:=by
   have h:=(show(AV f x.e.name<|L.take k).length=(L.take k).length from by unfold AV;rw[Yp]);rw[Yc]at h;omega
  obtain⟨t,ht⟩:=eQx<|L[k];rw[<-ht]at a0 a1 a2 a3 a4 a5 HKT;clear ht;obtain⟨W1,hW1⟩:=eQx<|wr.alloc<|.cells (cg t) 29;have ZF:=lX hW1;have Y9:=ah<|HB.trans<|ZF.mono HB.size;have hz1:W1.heap.size=wr.heap.size+1:=by rw[hW1];simp
  have Zj:=ah<|aP HO ZF;obtain⟨ys,hys⟩:=eQx<|AV f x.e.name<|L.take k;rw[<-hys]at Zj HKT hkl;obtain⟨adV,capV,rfl,-⟩:=gV Zj;subst hadT;clear hys HO ZF;have HWE:O (AV f x.e.name (L.take<|k+1)=ys++[⟨t.c,t.d,x.e.name,f.c,f.d⟩]):=HKT;obtain⟨W4,Zw⟩:=eQx<|W1.alloc<|.cells #[.string t.c,.string t.d,.string x.e.name,.string f.c,.string f.d] 52;have Zg:O (bj W0 W4 52 5 (.slice adV ys.length capV) ys.length<|av ys):=by show World.ownsRow _ _ _ _ _ _ _;rw[Zw];exact Zj.alloc _
  have HN4:O (∀j u,(Fc.row ⟨t.c,t.d,x.e.name,f.c,f.d⟩)[j]?=some u->W4.cell? ((⟨wr.heap.size+1,0,none⟩:Addr).add j)=some u):=by rw[<-hz1,Zw];exact xm W1 ⟨t.c,t.d,x.e.name,f.c,f.d⟩
  have ZX:O (ae W0 W4):=by show Below _ _ _;rw[Zw];exact Y9.alloc Y9.size _
  have hsz4:cY W0 W4:=ZX.size;go_wp2_with(at_builtin;rw[<-hW1];rw[<-Zw];clear Zw;refine wpList_append_own_at _ rfl _ _ 44 rfl W0.heap.size 52 iF (.agg ar) 5 80 underlying44 HIF.1 HIF.2.1 HIF.2.2.1 HIF.2.2.2 rfl cv _ ys.length (av ys) rfl Zg ⟨wr.heap.size+1,0,none⟩ 1 1 (Fc.row ⟨t.c,t.d,x.e.name,f.c,f.d⟩) rfl rfl HN4 (by simp[Fc.row,Value.oneCell']) cy cq hsz4 ?_);intro v' w5 hown hgr _ _;have HR:O (bj W0 w5 52 5 v' (AV f x.e.name<|L.take<|k+1).length<|av<|AV f x.e.name<|L.take<|k+1):=by
   show World.ownsRow _ _ _ _ _ _ _;rw[HWE,XT,kX];exact hown
  have HBR:O (ae W0 w5):=ZX.grown hgr ZX.size fun g hg=>(Zg.lt g hg).1;clear hown hgr c3 c4 cl x3 xl;go_wp2;go_roundw;case rel=>exact⟨k+1,cq,cx,HR,HBR⟩
  simp[intOf]<;>omega
 have HE:O (bj w wr 52 5 u7 (AV f x.e.name L).length<|av<|AV f x.e.name L):=by
  have h:=HO.out;rw[Yj cq]at h;exact bW h HB0.size
 have HNN:=ZQ;have HFF:O (∀y∈AV f x.e.name L,y.fits):=RV HF hnm HFL;have ZH:O ((AV f x.e.name L).length<=40):=by show _<=_;unfold AV;rw[Yp];omega
 have HBE:O (ae w wr):=HB0.trans<|HB.mono HB0.size;clear HO;obtain⟨Z6,Zh,rfl,-⟩:=gV HE;go_wp2;go_ret;exact⟨⟨_,rfl,xL HE ZH HFF HNN⟩,HBE⟩
end
def aG.is{w:ag}{S:Nat->Prop}{n:Nat}{v:Value}{G:Ru}(h:aG w S n v G):∃T a,v=.iface T a:=by
 match n,h with
 | 0,h=>exact h.elim
 | n+1,h =>
  rcases h with⟨b,e,-⟩|⟨ad,cap,fs,e,-⟩|⟨ad,cap,Gs,e,-⟩|⟨ad,cap,Gs,e,-⟩<;>exact⟨_,_,e⟩
def RY(P:Nat)(vE:Value)(f:Fc)(w:World)(m:Nat)(i:Int)(G:Ru):Prop:=∀w1:World,ae w w1->Calls prog 162 #[.pointer (some ⟨P,0,none⟩),vE,.int .i64 i,.agg #[.string f.a,.string f.b,.string f.r,.string f.c,.string f.d]] w1 fun e w'=>(∃v,e=.returned v/\aG w' (jo w1.heap.size) m v G)/\ae w1 w'
def Sx(B:Nat)(v:Value)(g:Nat):Prop:=B<=g/\some g≠v.ownBlock
def RZ:∃i,prog.info? 121=some i/\i.zero=some .nilIface/\i.size=1/\i.bytes=16 :=
 info_parts (P:=prog) (e:=121) (z:=.nilIface) (size:=1) (bytes:=16) cw
def uM{P:Nat}{vE:Value}{f:Fc}{w:ag}(m:Nat)(ks:List Int)(Gk:Int->Ru)(adK:Q02)(capK:Nat)(hkl:ks.length<=5)(hs:uW w adK ks)(hK:∀i∈ks,RY P vE f w m i<|Gk i):
  Calls prog 231 #[.pointer (some<|am P),vE,.slice adK ks.length capK,.agg<|cf f] w fun e w'=>(∃ad cap,e=.returned (.slice ad ks.length cap)/\qM w' (jo w.heap.size) (aG w' (jo w.heap.size) m) ad (ks.map Gk))/\ae w w':=by
 obtain⟨iR,h0,h1,h2,h3⟩:=RZ;have Zk:=ah<|And.intro h0<|And.intro h1<|And.intro h2 h3;obtain⟨W0,hW0⟩:=eQx<|w.alloc<|.cells (cf f) 52;have HB0:=lX hW0;have HC0:O (W0.cell? (aE w)=some (.string f.a)/\W0.cell? (a6 w 1)=some (.string f.b)/\W0.cell? (a6 w 2)=some (.string f.r)/\W0.cell? (a6 w 3)=some (.string f.c)/\W0.cell? (a6 w 4)=some (.string f.d)):=by
  show _/\_;rw[hW0];refine⟨?_,?_,?_,?_,?_⟩<;>simp
 have HS:=ah<|hs.below HB0;have HKR:=ah hK;clear hs hK h0 h1 h2 h3;go_enter func231,ntmps231;go_wp2_with fail;rw[<-hW0];clear hW0;go_loopw[9,14] (fun v i wr=>∃(k:Nat) (us:Q03),k<=ks.length/\us.length=k/\i=.int .i64 k/\O (bj W0 wr 121 1 v k us)/\O (∀(j:Nat) (h1:j<us.length) (h2:j<ks.length),aG wr (Sx W0.heap.size v) m us[j]<|Gk ks[j])/\O (ae W0 wr)) (fun _ i _=>ks.length-(intOf i).toNat);case atStart=>exact⟨0,[],XP _,rfl,rfl,World.ownsRow_nil _ _ _ _,fun j h1 _=>absurd h1<|YG _,XL _ _⟩
 obtain⟨k,us,hk,hul,rfl,HO,HM,HB⟩:=hrel;by_cases hlt:k<ks.length
 ·obtain⟨bJ,offJ,YW,t0,hbJ⟩:=uW.at0 (HS.below HB) hlt;obtain⟨c0,c1,c2,c3,c4⟩:=HC0.out;have cl:cX w W0:=ax c0;replace c0:=az HB.out cl c0;replace c1:=az HB.out cl c1;replace c2:=az HB.out cl c2;replace c3:=az HB.out cl c3;replace c4:=az HB.out cl c4;have hi1:=bG k;have hi2:(k:Int)<(ks.length:Int):=cq;have HC:=ah<|HKR ks[k] (XI hlt) wr<|HB0.trans<|HB.mono HB0.size;obtain⟨i0,hi0⟩:∃i0,ks[k]=i0:=⟨_,rfl⟩;have HI0:=ah hi0;rw[hi0]at t0 HC;clear hi0;subst YW;go_wp2_with fail;refine HC.mono ?_;rintro e w2 ⟨⟨u,rfl,hru⟩,hb2⟩;obtain⟨uT,ua,hue⟩:=hru.is;subst hue;obtain⟨u,hu⟩:=eQx<|Value.iface uT ua;rw[<-hu]at hru;have HB2:=ah<|HB.trans<|hb2.mono HB.size;have YZ:=ah<|aP HO hb2;have ZT:O (∀(j:Nat) (h1:j<us.length) (h2:j<ks.length),aG w2 (Sx W0.heap.size u9) m us[j]<|Gk ks[j]):=fun j h1 h2=>(HM j h1 h2).below hb2;have HU2:O (aG w2 (Sx W0.heap.size u9) m u<|Gk i0):=aG.keep (XK _) (fun g hg _=>⟨⟨XR HB.size hg,fun e=>by have:=(HO.lt g e.symm).2;have:wr.heap.size<=g:=hg;omega⟩,rfl⟩) m u _ hru;have hsw:cY W0 w2:=HB2.size;clear hru hb2 HO HM HB t0 c0 c1 c2 c3 c4 cl;obtain⟨W4,Zw⟩:=eQx<|w2.alloc<|.cells #[.iface uT ua] 121;have ZF:=lX Zw;have Zg:O (bj W0 W4 121 1 u9 k us):=aP YZ ZF;have HN4:O (∀j x,[u][j]?=some x->W4.cell? ((⟨w2.heap.size,0,none⟩:Addr).add j)=some x):=fun j x hx=>by
   match j,hx with
   | 0,hx=>simp at hx;subst hx;rw[Zw,hu];simp[Addr.add]
  have ZX:=ah<|HB2.trans<|ZF.mono HB2.size;have HM4:O (∀(j:Nat) (h1:j<us.length) (h2:j<ks.length),aG W4 (Sx W0.heap.size u9) m us[j]<|Gk ks[j]):=fun j h1 h2=>(ZT j h1 h2).below ZF;have HU4:=aK<|HU2.below ZF;have hsz4:cY W0 W4:=ZX.size;clear ZT HU2 HB2;go_wp2_with(at_builtin;rw[<-Zw];clear Zw;rw[<-hu];refine wpList_append_own_at _ rfl _ _ 302 rfl W0.heap.size 121 iR .nilIface 1 16 underlying302 Zk.1 Zk.2.1 Zk.2.2.1 Zk.2.2.2 rfl cv _ k us rfl Zg ⟨w2.heap.size,0,none⟩ 1 1 [u] rfl rfl HN4 (by rw[hu];simp[Value.oneCell']) cy cq hsz4 ?_);intro v' w5 hown hgr _ hat;have HR:O (bj W0 w5 121 1 v' (k+1)<|us++[u]):=by show World.ownsRow _ _ _ _ _ _ _;first|exact hown|(rw[hu];exact hown)
  have HT:O (∀g,Sx W0.heap.size u9 g->g<W4.heap.size->Sx W0.heap.size v' g/\w5.heap[g]?=W4.heap[g]?):=fun g hg hl=>⟨⟨hg.1,by
   rcases hat with e|e
   ·rw[e];exact hg.2
   rw[e];intro e2;injection e2 with e2;omega⟩,hgr.block g hl hg.2⟩
  have HM5:O (∀(j:Nat) (h1:j<(us++[u]).length) (h2:j<ks.length),aG w5 (Sx W0.heap.size v') m (us++[u])[j]<|Gk ks[j]):=fun j h1 h2=>by
   by_cases hj:j<us.length
   ·rw[Yo hj];exact aG.keep hgr.size HT m _ _<|HM4 j hj h2
   have e:j=us.length:=by simp at h1;omega
   subst e;have e2:ks[us.length]=i0:=by simp only[hul];exact HI0
   rw[YC (XK _),e2];simpa using aG.keep hgr.size HT m _ _ HU4
  have HBR:O (ae W0 w5):=ZX.grown hgr ZX.size fun g hg=>(Zg.lt g hg).1;clear hown hgr hat HM4 HU4 HT;go_wp2;go_roundw;case rel=>exact⟨k+1,us++[u],cq,by simp;omega,cx,HR,HM5,HBR⟩
  simp[intOf]<;>omega
 obtain rfl:k=ks.length:=cq;have HBE:O (ae w wr):=HB0.trans<|HB.mono HB0.size;have HE:O (∃ad cap,u9=.slice ad ks.length cap/\qM wr (jo w.heap.size) (aG wr (jo w.heap.size) m) ad (ks.map Gk)):=by
  by_cases hz:ks=[]
  ·rcases HO.out.2 with⟨e,h⟩|⟨g,cap,cur,e,-⟩
   ·exact⟨none,0,by rw[e,h],.inl<|by rw[hz];rfl⟩
   exact⟨_,cap,e,.inl<|by rw[hz];rfl⟩
  have hO:=HO.out;rcases hO.2 with⟨e,h⟩|⟨g,cap,cur,e,hbg,-⟩
  ·exact absurd (X0.1 h) hz
  refine⟨_,cap,e,.inr ⟨g,rfl,XR HB0.size hbg,(hO.lt g<|by rw[e];rfl).2,fun i hi=>?_⟩⟩;have hi2:i<ks.length:=by simpa using hi
  have hi3:i<us.length:=cq;refine⟨us[i],?_,?_⟩
  ·have hO2:=hO;rw[e]at hO2;rw[hO2.cellAt i cq];exact XQ hi3
  rw[List.getElem_map];exact aG.keep (XK _) (fun g2 h2 _=>⟨XR HB0.size h2.1,rfl⟩) m _ _ (HM i hi3 hi2)
 obtain⟨Z6,Zh,rfl,hrow⟩:=HE.out;have Z0:=ah hrow;clear hrow HE HO HM;go_wp2;go_ret;exact⟨⟨_,_,rfl,Z0⟩,HBE⟩
def aG.old{w:ag}{B B' n m:Nat}{v:Value}{G:Ru}(h:aG w (jo B') n v G)(hb:B<=B')(hm:n<=m):aG w (jo B) m v G:=aG.up (aG.keep (XK _) (fun g hg _=>⟨XR hb hg,rfl⟩) n v G h) hm
section
variable  {w:World}{rs:Q06}{P D br bp bt bK nK n k:Nat}{n1:Int}{nr:Nat}{Mr:KL->Option Value}{Er:List (KL×RR)}{ts:Q05}{xo xu:Q0a}{np:Nat}{Mp:K3->Option Value}{vo vu:Value}{out:Q04}{f:Fc}{ZG:Q02}{Za:Nat}{YY:Q02}{capE:Nat}{rows:Q08}
def UC(hn:n<rows.length)(hP:PrM w P D ZG Za out bK nK)(hD:DatA w rs D br bp bt n1 nr Mr Er (bB ts) xo xu np Mp vo vu)(hf:f.fits)(hts:∀t∈ts,t.fits)(htl:ts.length<=40)(hex:iE w YY rows)(hre:rows.length<=1000)(hk:rows[n].e.kind=1):
  Calls prog 162 #[.pointer (some<|am P),.slice YY rows.length capE,.int .i64 (n:Int),.agg<|cf f] w fun e w'=>(∃v,e=.returned v/\aG w' (jo w.heap.size) (k+1) v (sH ts f))/\ae w w':=by
 obtain⟨b,off,YW,⟨t0,t1,t2,t3,t4⟩,hbl,hok⟩:=iE.at0 hex hn;obtain⟨W0,hW0⟩:=eQx<|xh w f rows[n];have HB0:O (ae w W0):=by show Below _ _ _;rw[hW0];exact eZ _ _ _
 have HN0:O (EnB W0 w.heap.size f rows[n]):=by show EnB _ _ _ _;rw[hW0];exact gT _ _ _
 have hk1:(rows[n].e.kind==1)=true:=by rw[hk];rfl
 have hbl1:b<w.heap.size+1:=cq;have hn1:=bG n;have hn2:(n:Int)<(rows.length:Int):=cq;unfold xh at hW0;have HC:=ah<|GZ (hP.below HB0) (hD.below HB0) hf hts htl;clear hP hD hf hex hk hok;subst YW;go_enter func162,ntmps162;go_wp2_with fail;rw[<-hW0];clear hW0 t0 t1 t2 t3 t4;refine HC.mono ?_;rintro e w1 ⟨⟨v,rfl,hr⟩,hb1⟩;have HB1:=ah<|HB0.trans<|hb1.mono HB0.size;have HR:=ah (hr.old HB0.size (by omega:1<=k+1));clear hb1 hr;go_wp2;go_ret;exact⟨⟨v,rfl,HR⟩,HB1⟩
def V8(hn:n<rows.length)(hf:f.fits)(hnm:rows[n].e.name.size<=maxLen)(hex:iE w YY rows)(hre:rows.length<=1000)(hk:rows[n].e.kind=2):
  Calls prog 162 #[.pointer (some<|am P),.slice YY rows.length capE,.int .i64 (n:Int),.agg<|cf f] w fun e w'=>(∃v,e=.returned v/\aG w' (jo w.heap.size) (k+1) v (fun K=>K ⟨f.a,f.b,rows[n].e.name,f.c,f.d⟩))/\ae w w':=by
 obtain⟨b,off,YW,⟨t0,t1,t2,t3,t4⟩,hbl,hok⟩:=iE.at0 hex hn;obtain⟨W0,hW0⟩:=eQx<|xh w f rows[n];have HB0:O (ae w W0):=by show Below _ _ _;rw[hW0];exact eZ _ _ _
 have HN0:O (EnB W0 w.heap.size f rows[n]):=by show EnB _ _ _ _;rw[hW0];exact gT _ _ _
 have hk1:(rows[n].e.kind==1)=false:=by rw[hk];rfl
 have hk2:(rows[n].e.kind==2)=true:=by rw[hk];rfl
 have hbl1:b<w.heap.size+1:=cq;have hn1:=bG n;have hn2:(n:Int)<(rows.length:Int):=cq;unfold xh at hW0;obtain⟨W1,hW1⟩:=eQx<|W0.alloc<|.cells #[.string f.a,.string f.b,.string rows[n].e.name,.string f.c,.string f.d] 52;have HB1:O (ae w W1):=by show Below _ _ _;rw[hW1];exact HB0.alloc HB0.size _
 have hz0:W0.heap.size=w.heap.size+1+1:=by rw[hW0];simp
 have HR:O (aG W1 (jo w.heap.size) (k+1) (.iface 301<|.agg #[.slice (some<|am<|w.heap.size+1+1) 1 1]) fun K=>K ⟨f.a,f.b,rows[n].e.name,f.c,f.d⟩):=by
  refine .inr (.inl ⟨_,1,[⟨f.a,f.b,rows[n].e.name,f.c,f.d⟩],rfl,.inr ⟨_,rfl,by show _<=_;omega⟩,.inr ⟨_,0,rfl,by rw[hW1];simp;omega,fun i hi=>?_⟩,ct,fun x hx=>?_,by funext K;simp⟩)
  ·have e:i=0:=by simp at hi;omega
   subst e;have hc:∀o v,(Fc.row ⟨f.a,f.b,rows[n].e.name,f.c,f.d⟩)[o]?=some v->ac W1 (w.heap.size+1+1) o v:=fun o v h=>by
    have:=xm W0 ⟨f.a,f.b,rows[n].e.name,f.c,f.d⟩ o v h;rw[<-hW1,hz0]at this;by_cases ho:o=0
    ·subst ho;simpa[Addr.add] using this
    simpa[Addr.add,ho] using this
   exact⟨hc 0 _ rfl,hc 1 _ rfl,hc 2 _ rfl,hc 3 _ rfl,hc 4 _ rfl⟩
  simp at hx;subst hx;exact⟨hf.1,hf.2.1,hnm,hf.2.2.2.1,hf.2.2.2.2⟩
 clear hex hk hok hf hz0;subst YW;go_enter func162,ntmps162;go_wp2;rw[<-hW0];rw[<-hW1];go_ret;exact⟨⟨_,rfl,HR⟩,HB1⟩
def UD(hn:n<rows.length)(hP:PrM w P D ZG Za out bK nK)(hD:DatA w rs D br bp bt n1 nr Mr Er (bB ts) xo xu np Mp vo vu)(hf:f.fits)(hts:∀t∈ts,t.fits)(htl:ts.length<=40)(hov:rows[n].e.over.size<=maxLen/\rows[n].e.name.size<=maxLen)(hex:iE w YY rows)(hre:rows.length<=1000)(hk:rows[n].e.kind=3):
  Calls prog 162 #[.pointer (some<|am P),.slice YY rows.length capE,.int .i64 (n:Int),.agg<|cf f] w fun e w'=>(∃v,e=.returned v/\aG w' (jo w.heap.size) (k+1) v (FL ts rows[n].e.over rows[n].e.name f))/\ae w w':=by
 obtain⟨b,off,YW,⟨t0,t1,t2,t3,t4⟩,hbl,hok⟩:=iE.at0 hex hn;obtain⟨W0,hW0⟩:=eQx<|xh w f rows[n];have HB0:O (ae w W0):=by show Below _ _ _;rw[hW0];exact eZ _ _ _
 have HN0:O (EnB W0 w.heap.size f rows[n]):=by show EnB _ _ _ _;rw[hW0];exact gT _ _ _
 have hk1:(rows[n].e.kind==1)=false:=by rw[hk];rfl
 have hk2:(rows[n].e.kind==2)=false:=by rw[hk];rfl
 have hk3:(rows[n].e.kind==3)=true:=by rw[hk];rfl
 have hbl1:b<w.heap.size+1:=cq;have hn1:=bG n;have hn2:(n:Int)<(rows.length:Int):=cq;unfold xh at hW0;have HC:=ah<|G5 rows[n] (hP.below HB0) (hD.below HB0) hf hov.1 hov.2 hts htl;clear hP hD hf hex hk hok;subst YW;go_enter func162,ntmps162;go_wp2_with fail;rw[<-hW0];clear hW0 t0 t1 t2 t3 t4;refine HC.mono ?_;rintro e w1 ⟨⟨v,rfl,hr⟩,hb1⟩;have HB1:=ah<|HB0.trans<|hb1.mono HB0.size;have HR:=ah (hr.old HB0.size (by omega:1<=k+1));clear hb1 hr;go_wp2;go_ret;exact⟨⟨v,rfl,HR⟩,HB1⟩
def R3(hn:n<rows.length)(Gk:Int->Ru)(hkl:rows[n].e.kids.length<=5)(hIH:∀i∈rows[n].e.kids,RY P (.slice YY rows.length capE) f w k i<|Gk i)(hex:iE w YY rows)(hre:rows.length<=1000)(hk:rows[n].e.kind=4):
  Calls prog 162 #[.pointer (some<|am P),.slice YY rows.length capE,.int .i64 (n:Int),.agg<|cf f] w fun e w'=>(∃v,e=.returned v/\aG w' (jo w.heap.size) (k+1) v (fun K=>rows[n].e.kids.any fun i=>Gk i K))/\ae w w':=by
 obtain⟨b,off,YW,⟨t0,t1,t2,t3,t4⟩,hbl,hok⟩:=iE.at0 hex hn;obtain⟨W0,hW0⟩:=eQx<|xh w f rows[n];have HB0:O (ae w W0):=by show Below _ _ _;rw[hW0];exact eZ _ _ _
 have HN0:O (EnB W0 w.heap.size f rows[n]):=by show EnB _ _ _ _;rw[hW0];exact gT _ _ _
 have hk1:(rows[n].e.kind==1)=false:=by rw[hk];rfl
 have hk2:(rows[n].e.kind==2)=false:=by rw[hk];rfl
 have hk3:(rows[n].e.kind==3)=false:=by rw[hk];rfl
 have hk4:(rows[n].e.kind==4)=true:=by rw[hk];rfl
 have hbl1:b<w.heap.size+1:=cq;have hn1:=bG n;have hn2:(n:Int)<(rows.length:Int):=cq;unfold xh at hW0;have HC:=ah<|uM k rows[n].e.kids Gk rows[n].adK rows[n].capK hkl (hok.2.below HB0) fun i hi w1 hb=>hIH i hi w1<|HB0.trans<|hb.mono HB0.size;clear hIH hex hk hok;subst YW;go_enter func162,ntmps162;go_wp2_with fail;rw[<-hW0];clear hW0 t0 t1 t2 t3 t4;refine HC.mono ?_;rintro e w1 ⟨⟨Zp,Zt,rfl,hr⟩,hb1⟩;have HB1:=ah<|HB0.trans<|hb1.mono HB0.size;have hr2:qM w1 (jo w.heap.size) (aG w1 (jo w.heap.size) k) Zp (rows[n].e.kids.map Gk):=by
  rcases hr with h|⟨g,e,h1,h2,h3⟩
  ·exact .inl h
  exact .inr ⟨g,e,XR HB0.size h1,h2,fun i hi=>by obtain⟨u,hu,hp⟩:=h3 i hi;exact⟨u,hu,hp.old HB0.size<|XK _⟩⟩
 have HR:O (aG w1 (jo w.heap.size) (k+1) (.iface 304<|.agg #[.slice Zp rows[n].e.kids.length Zt]) fun K=>rows[n].e.kids.any fun i=>Gk i K):=.inr (.inr<|.inl ⟨Zp,Zt,rows[n].e.kids.map Gk,by rw[Yp],by rw[Yp];exact hkl,hr2,by funext K;rw[List.any_map];rfl⟩);clear hb1 hr hr2;go_wp2;go_ret;exact⟨⟨_,rfl,HR⟩,HB1⟩
def UE(hn:n<rows.length)(Gk:Int->Ru)(hkl:rows[n].e.kids.length<=5)(hIH:∀i∈rows[n].e.kids,RY P (.slice YY rows.length capE) f w k i<|Gk i)(hex:iE w YY rows)(hre:rows.length<=1000)(hk:rows[n].e.kind=5):
  Calls prog 162 #[.pointer (some<|am P),.slice YY rows.length capE,.int .i64 (n:Int),.agg<|cf f] w fun e w'=>(∃v,e=.returned v/\aG w' (jo w.heap.size) (k+1) v (fun K=>rows[n].e.kids.all fun i=>Gk i K))/\ae w w':=by
 obtain⟨b,off,YW,⟨t0,t1,t2,t3,t4⟩,hbl,hok⟩:=iE.at0 hex hn;obtain⟨W0,hW0⟩:=eQx<|xh w f rows[n];have HB0:O (ae w W0):=by show Below _ _ _;rw[hW0];exact eZ _ _ _
 have HN0:O (EnB W0 w.heap.size f rows[n]):=by show EnB _ _ _ _;rw[hW0];exact gT _ _ _
 have hk1:(rows[n].e.kind==1)=false:=by rw[hk];rfl
 have hk2:(rows[n].e.kind==2)=false:=by rw[hk];rfl
 have hk3:(rows[n].e.kind==3)=false:=by rw[hk];rfl
 have hk4:(rows[n].e.kind==4)=false:=by rw[hk];rfl
 have hk5:(rows[n].e.kind==5)=true:=by rw[hk];rfl
 have hbl1:b<w.heap.size+1:=cq;have hn1:=bG n;have hn2:(n:Int)<(rows.length:Int):=cq;unfold xh at hW0;have HC:=ah<|uM k rows[n].e.kids Gk rows[n].adK rows[n].capK hkl (hok.2.below HB0) fun i hi w1 hb=>hIH i hi w1<|HB0.trans<|hb.mono HB0.size;clear hIH hex hk hok;subst YW;go_enter func162,ntmps162;go_wp2_with fail;rw[<-hW0];clear hW0 t0 t1 t2 t3 t4;refine HC.mono ?_;rintro e w1 ⟨⟨Zp,Zt,rfl,hr⟩,hb1⟩;have HB1:=ah<|HB0.trans<|hb1.mono HB0.size;have hr2:qM w1 (jo w.heap.size) (aG w1 (jo w.heap.size) k) Zp (rows[n].e.kids.map Gk):=by
  rcases hr with h|⟨g,e,h1,h2,h3⟩
  ·exact .inl h
  exact .inr ⟨g,e,XR HB0.size h1,h2,fun i hi=>by obtain⟨u,hu,hp⟩:=h3 i hi;exact⟨u,hu,hp.old HB0.size<|XK _⟩⟩
 have HR:O (aG w1 (jo w.heap.size) (k+1) (.iface 306<|.agg #[.slice Zp rows[n].e.kids.length Zt]) fun K=>rows[n].e.kids.all fun i=>Gk i K):=.inr (.inr<|.inr ⟨Zp,Zt,rows[n].e.kids.map Gk,by rw[Yp],by rw[Yp];exact hkl,hr2,by funext K;rw[List.all_map];rfl⟩);clear hb1 hr hr2;go_wp2;go_ret;exact⟨⟨_,rfl,HR⟩,HB1⟩
end
def V9{W0 W w':ag}(h:ae W0 W)(hb:ae W w'):ae W0 w':=h.trans<|hb.mono h.size
section
variable  {w:World}{rs:Q06}{P D br bp bt bK nK n k:Nat}{n1:Int}{nr:Nat}{Mr:KL->Option Value}{Er:List (KL×RR)}{ts:Q05}{xo xu:Q0a}{np:Nat}{Mp:K3->Option Value}{vo vu:Value}{out:Q04}{f:Fc}{ZG:Q02}{Za:Nat}{YY:Q02}{capE:Nat}{rows:Q08}
def Wd(hn:n<rows.length)(b1:Bool)(G0:Ru)(hkl:rows[n].e.kids.length<=1000)(hk2l:2<=rows[n].e.kids.length)(hP:PrM w P D ZG Za out bK nK)(hH:GX D (.slice YY rows.length capE) f bK w (rows[n].e.kids.getD 1 0) b1)(hR:RY P (.slice YY rows.length capE) f w k (rows[n].e.kids.getD 0 0) G0)(hex:iE w YY rows)(hre:rows.length<=1000)(hk:rows[n].e.kind=6):
  Calls prog 162 #[.pointer (some<|am P),.slice YY rows.length capE,.int .i64 (n:Int),.agg<|cf f] w fun e w'=>(∃v,e=.returned v/\aG w' (jo w.heap.size) (k+1) v (if b1 then fun _=>false else G0))/\ae w w':=by
 obtain⟨b,off,YW,⟨t0,t1,t2,t3,t4⟩,hbl,hok⟩:=iE.at0 hex hn;obtain⟨W0,hW0⟩:=eQx<|xh w f rows[n];have HB0:O (ae w W0):=by show Below _ _ _;rw[hW0];exact eZ _ _ _
 have HN0:O (EnB W0 w.heap.size f rows[n]):=by show EnB _ _ _ _;rw[hW0];exact gT _ _ _
 have hk1:(rows[n].e.kind==1)=false:=by rw[hk];rfl
 have hk2:(rows[n].e.kind==2)=false:=by rw[hk];rfl
 have hk3:(rows[n].e.kind==3)=false:=by rw[hk];rfl
 have hk4:(rows[n].e.kind==4)=false:=by rw[hk];rfl
 have hk5:(rows[n].e.kind==5)=false:=by rw[hk];rfl
 have hbl1:b<w.heap.size+1:=cq;have hn1:=bG n;have hn2:(n:Int)<(rows.length:Int):=cq;unfold xh at hW0;have h0k:0<rows[n].e.kids.length:=cq;have h1k:1<rows[n].e.kids.length:=cq;obtain⟨bJ,offJ,ZC,z0,hbK⟩:=uW.at0 hok.2 h0k;have z1:w.cell? (ap bJ<|offJ+1)=some (.int .i64 rows[n].e.kids[1]):=by
  obtain⟨b',off',hadK',z1,-⟩:=uW.at0 hok.2 h1k;rw[ZC]at hadK';injection hadK' with e;injection e with e1 e2;rw[e1,e2];exact z1
 obtain⟨i0,hi0⟩:∃i,i=rows[n].e.kids[0]:=⟨_,rfl⟩;obtain⟨i1,hi1⟩:∃i,i=rows[n].e.kids[1]:=⟨_,rfl⟩;have g0:rows[n].e.kids.getD 0 0=i0:=by rw[hi0,Yl,XQ h0k];rfl
 have g1:rows[n].e.kids.getD 1 0=i1:=by rw[hi1,Yl,XQ h1k];rfl
 rw[g0]at hR;rw[g1]at hH;rw[<-hi0,Nat.add_zero]at z0;rw[<-hi1]at z1;obtain⟨kl,hkl'⟩:∃kl,kl=rows[n].e.kids.length:=⟨_,rfl⟩;obtain⟨cK,hcK⟩:∃c,c=rows[n].capK:=⟨_,rfl⟩;have hl0:(0:Int)<(kl:Int):=cq;have hl1:(1:Int)<(kl:Int):=cq;have h0k':0<kl:=cq;have h1k':1<kl:=cq;have HH:O (∀w1,ae W0 w1->Calls prog 232 #[.pointer (some<|am D),.slice YY rows.length capE,.int .i64 i1,.agg<|cf f,.map<|some bK] w1 (a8 w1<|.bool b1)):=fun w1 hb=>hH w1<|HB0.trans<|hb.mono HB0.size;have HR:O (∀w1,ae W0 w1->Calls prog 162 #[.pointer (some<|am P),.slice YY rows.length capE,.int .i64 i0,.agg<|cf f] w1 fun e w'=>(∃v,e=.returned v/\aG w' (jo w.heap.size) (k+1) v G0)/\ae w1 w'):=fun w1 hb=>(hR w1<|HB0.trans<|hb.mono HB0.size).mono fun e w' ⟨⟨v,he,hr⟩,hb2⟩=>⟨⟨v,he,hr.old (XR HB0.size hb.size) cq⟩,hb2⟩;have HSA:O (∀w':World,ae W0 w'->ae W0 w'/\ab w' P (.pointer<|some<|am D)/\ac w' P 2 (.map<|some bK)/\ac w' (w.heap.size+1) 4 (.slice (some<|ap bJ offJ) kl cK)/\ac w' bJ offJ (.int .i64 i0)/\ac w' bJ (offJ+1) (.int .i64 i1)/\ab w' w.heap.size (.string f.a)/\ac w' w.heap.size 1 (.string f.b)/\ac w' w.heap.size 2 (.string f.r)/\ac w' w.heap.size 3 (.string f.c)/\ac w' w.heap.size 4 (.string f.d)):=fun w' h=>by
  have hl:=HN0.lt;have hs:=HB0.size;have hx:∀o v,ac W0 w.heap.size o v->ac w' w.heap.size o v:=fun o v hv=>az h cq hv;have hw:∀g o v,g<w.heap.size->ac w g o v->ac w' g o v:=fun g o v hg hv=>az h cq<|az HB0.out hg hv;refine⟨h,hw _ _ _ hP.lt hP.c0,hw _ _ _ hP.lt hP.c2,?_,hw _ _ _ hbK z0,hw _ _ _ hbK z1,hx _ _ HN0.f0,hx _ _ HN0.f1,hx _ _ HN0.f2,hx _ _ HN0.f3,hx _ _ HN0.f4⟩;refine az h hl ?_;rw[HN0.x4,ZC,<-hkl',<-hcK]
 clear hH hR hex hk hok z0 z1 ZC h0k h1k g0 g1 hi0 hi1 hP hkl' hcK;subst YW;go_enter func162,ntmps162;go_wp2_with fail;rw[<-hW0];clear hW0 t0 t1 t2 t3 t4 hk1 hk2 hk3 hk4 hk5
 go_region_held3 (fun w'=>ae W0 w'/\w'.cell? (am P)=some (.pointer<|some<|am D)/\w'.cell? (ap P 2)=some (.map<|some bK)/\w'.cell? (ap (w.heap.size+1) 4)=some (.slice (some<|ap bJ offJ) kl cK)/\w'.cell? (ap bJ offJ)=some (.int .i64 i0)/\w'.cell? (ap bJ<|offJ+1)=some (.int .i64 i1)/\w'.cell? (aE w)=some (.string f.a)/\w'.cell? (a6 w 1)=some (.string f.b)/\w'.cell? (a6 w 2)=some (.string f.r)/\w'.cell? (a6 w 3)=some (.string f.c)/\w'.cell? (a6 w 4)=some (.string f.d))
  (first|assumption|exact HSA _ (V9 (And.left cE) hbx)|exact HSA _ (XL _ _).drew)
  (first|(go_at_call 232;refine(HH _<|And.left cE).mono ?_;rintro e w2 ⟨rfl,hbx⟩))
 rename_i hJ;have HB2:=ah hJ.1;clear hJ;cases b1;case true=>
  have HBE:O (ae w w2):=HB0.trans<|HB2.mono HB0.size;have HRU:O (aG w2 (jo w.heap.size) (k+1) (.iface 239<|.agg #[.bool false]) (if true=true then fun _=>false else G0)):=(qN (S:=jo w.heap.size) false<|by rw[if_pos rfl]).up cq;go_wp2;go_ret;exact⟨⟨_,rfl,HRU⟩,HBE⟩
 go_wp2_with fail
 go_region_held3 (fun w'=>ae W0 w'/\w'.cell? (am P)=some (.pointer<|some<|am D)/\w'.cell? (ap P 2)=some (.map<|some bK)/\w'.cell? (ap (w.heap.size+1) 4)=some (.slice (some<|ap bJ offJ) kl cK)/\w'.cell? (ap bJ offJ)=some (.int .i64 i0)/\w'.cell? (ap bJ<|offJ+1)=some (.int .i64 i1)/\w'.cell? (aE w)=some (.string f.a)/\w'.cell? (a6 w 1)=some (.string f.b)/\w'.cell? (a6 w 2)=some (.string f.r)/\w'.cell? (a6 w 3)=some (.string f.c)/\w'.cell? (a6 w 4)=some (.string f.d))
  (first|assumption|exact HSA _ (V9 (And.left cE) hbx)|exact HSA _ HB2.drew)
  (first|(go_at_call 162;refine(HR _<|And.left cE).mono ?_;rintro e w3 ⟨⟨v,rfl,hru⟩,hbx⟩;have HRV:=ah hru;clear hru))
 rename_i hJ;have HB3:=ah hJ.1;clear hJ;have HBE:O (ae w w3):=HB0.trans<|HB3.mono HB0.size;go_wp2;go_ret;exact⟨⟨v,rfl,HRV⟩,HBE⟩
def FM{e:Ex}(h:aD e=true)(hk:e.kind=4\/e.kind=5):2<=e.kids.length:=by
 unfold aD at h;rw[if_neg cq,if_neg cq,if_neg cq,if_pos hk]at h;simp only[XN,XU]at h;exact h.1.1.1.1
def xM(hN:NodOk rows)(hnb:∀e∈au rows,aD e=true)(hf:f.fits)(hts:∀t∈ts,t.fits)(htl:ts.length<=40)(htr:∀j,j<(au rows).length->0<=aC (au rows) j):
  ∀(k d n:Nat) (w:World),n<k->n<rows.length->(n:Int)-aC (au rows) n+1<2*(d:Int)->PrM w P D ZG Za out bK nK->DatA w rs D br bp bt n1 nr Mr Er (bB ts) xo xu np Mp vo vu->iE w YY rows ->
  Calls prog 162 #[.pointer (some<|am P),.slice YY rows.length capE,.int .i64 (n:Int),.agg<|cf f] w fun e w'=>(∃v,e=.returned v/\aG w' (jo w.heap.size) d v (gN ts (au rows) out f k n))/\ae w w'
 | 0,_,_,_,h,_,_,_,_,_=>absurd h<|YG _
 | k+1,d0,n,w,hk,hn,hsp,hP,hD,hex=>by
  obtain⟨d,rfl⟩:∃d,d0=d+1:=⟨d0-1,by have:=gJ (au rows) n;omega⟩;have hka:dx (au rows) n=rows[n].e.kids:=by simp[dx,au,hn]
  have e:(au rows)[n]?=some rows[n].e:=by simp[au,hn]
  have ZL:2<=rows[n].e.kids.length->∀i∈rows[n].e.kids,RY P (.slice YY rows.length capE) f w d i (gN ts (au rows) out f k i.toNat):=fun h2k i hi w1 hb1=>by
   have h1:=hN.kid hn hi;have h2:=xM hN hnb hf hts htl htr k d i.toNat w1 cq cq (QX (htr n<|by rw[aX];exact hn) (by rw[hka];exact h2k) hsp i (by rw[hka];exact hi)) (hP.below hb1) (hD.below hb1) (hex.below hb1);have e2:((i.toNat:Nat):Int)=i:=cq
   rw[e2]at h2;exact h2
  have hkidH:∀i∈rows[n].e.kids,GX D (.slice YY rows.length capE) f bK w i (dC ts (au rows) out f k out i.toNat):=fun i hi w1 hb1=>by
   have h1:=hN.kid hn hi;have h2:=oP (capE:=capE) hN hnb hf hts cq k i.toNat w1 cq cq (hD.below hb1) (hP.set.below hb1)<|hex.below hb1;have e2:((i.toNat:Nat):Int)=i:=cq;rw[e2]at h2;exact h2
  have hm:rows[n]∈rows:=XI hn;have hme:rows[n].e∈au rows:=XW.2 ⟨_,hm,rfl⟩;obtain⟨hn2,hn3,hkd⟩:=CP<|hnb _ hme;unfold gN;rw[e];dsimp only;by_cases k1:rows[n].e.kind=1
  ·rw[if_pos k1];exact UC hn hP hD hf hts htl hex hN.len k1
  rw[if_neg k1];by_cases k2:rows[n].e.kind=2
  ·rw[if_pos k2];exact V8 hn hf (hn2 k2) hex hN.len k2
  rw[if_neg k2];by_cases k3:rows[n].e.kind=3
  ·rw[if_pos k3];exact UD hn hP hD hf hts htl (hn3 k3) hex hN.len k3
  rw[if_neg k3];by_cases k4:rows[n].e.kind=4
  ·rw[if_pos k4];exact R3 hn (fun i=>gN ts (au rows) out f k i.toNat) (qK<|hnb _ hme).1 (ZL<|FM (hnb _ hme)<|.inl k4) hex hN.len k4
  rw[if_neg k4];by_cases k5:rows[n].e.kind=5
  ·rw[if_pos k5];exact UE hn (fun i=>gN ts (au rows) out f k i.toNat) (qK<|hnb _ hme).1 (ZL<|FM (hnb _ hme)<|.inr k5) hex hN.len k5
  rw[if_neg k5];have k6:rows[n].e.kind=6:=cq;rw[if_pos k6];have h2:=hN.two _ hme k6;have hg:∀q,q<2->rows[n].e.kids.getD q 0∈rows[n].e.kids:=fun q hq=>by
   rw[Yl,XQ cq];exact XI _
  exact Wd hn _ _ (hN.kids _ hm) h2 hP (hkidH _<|hg 1 cq) (ZL h2 _<|hg 0 cq) hex hN.len k6
end
def iZ(G:Ru)(qs:Q04):Prop:=∀K K':Fc->Bool,(∀x∈qs,K x=K' x)->G K=G K'
def OZ(b:Bool):iZ (fun _=>b) []:=fun _ _ _=>rfl
def Ma{α:Type}{p q:α->Bool}:∀{xs:List α},(∀x∈xs,p x=q x)->xs.any p=xs.any q
 | [],_=>rfl
 | x::xs,h=>by rw[YP,YP,h x<|Yx ..,Ma fun y hy=>h y<|Yt _ hy]
def R4{α:Type}{p q:α->Bool}:∀{xs:List α},(∀x∈xs,p x=q x)->xs.all p=xs.all q
 | [],_=>rfl
 | x::xs,h=>by rw[List.all_cons,List.all_cons,h x<|Yx ..,R4 fun y hy=>h y<|Yt _ hy]
def O0(fs:Q04):iZ (fun K=>fs.any K) fs:=fun K K' h=>Ma h
def O1{Gs:List Ru}{qs:Q04}(h:∀G∈Gs,iZ G qs):iZ (fun K=>Gs.any fun H=>H K) qs:=fun K K' hk=>Ma fun G hG=>h G hG K K' hk
def O3{Gs:List Ru}{qs:Q04}(h:∀G∈Gs,iZ G qs):iZ (fun K=>Gs.all fun H=>H K) qs:=fun K K' hk=>R4 fun G hG=>h G hG K K' hk
def iZ.more{G:Ru}{qs bs:Q04}(h:iZ G qs)(hs:∀x∈qs,x∈bs):iZ G bs:=fun K K' hk=>h K K' fun x hx=>hk x<|hs x hx
def uC(R:Fc->Ru)(L:Q04):Prop:=∀(i:Nat) (h:i<L.length),R L[i] (aR<|L.take i)=true
def FN{α:Type}(A B:List α)(j:Nat):(A++B).take (A.length+j)=A++B.take j:=by
 rw[List.take_append,Yj cq,Nat.add_sub_cancel_left]
def Jt{α:Type}(A B:List α)(j:Nat)(h:A.length+j<(A++B).length)(hj:j<B.length):(A++B)[A.length+j]=B[j]:=by
 rw[YC cq];simp
def uC.from{R:Fc->Ru}{A B:Q04}(h:uC R<|A++B){j:Nat}(hj:j<B.length):R B[j] (aR<|A++B.take j)=true:=by
 have:=h (A.length+j) (by rw[XT];omega);rw[Jt A B j _ hj,FN]at this;exact this
def uC.left{R:Fc->Ru}{A B:Q04}(h:uC R<|A++B):uC R A:=fun i hi=>by
 have:=h i (by rw[XT];omega);rw[Yo hi,List.take_append_of_le_length cq]at this;exact this
def R5{R:Fc->Ru}{A B:Q04}(hA:uC R A)(hB:∀j (hj:j<B.length),R B[j] (aR<|A++B.take j)=true):uC R (A++B):=fun i hi=>by
 by_cases h:i<A.length
 ·rw[Yo h,List.take_append_of_le_length cq];exact hA i h
 obtain⟨j,rfl⟩:∃j,i=A.length+j:=⟨i-A.length,cq⟩;have hj:j<B.length:=by rw[XT]at hi;omega
 rw[Jt A B j _ hj,FN];exact hB j hj
def Ju{R:Fc->Ru}{qs:Fc->List Fc}{A B:Q04}{f:Fc}(hH:∀x∈B,iZ (R x)<|qs x)(hP:uC R (A++f::B)):
  uC R (A++B) ↔ ∀j (hj:j<B.length),f∈qs B[j]->R B[j] (aR<|A++B.take j)=true:=by
 refine⟨fun h j hj _=>h.from hj,fun h=>R5 hP.left fun j hj=>?_⟩;by_cases hf:f∈qs B[j]
 ·exact h j hj hf
 have h2:=hP.from (j:=j+1) (by rw[Yh];omega);rw[List.getElem_cons_succ,List.take_succ_cons]at h2;rw[<-h2];refine hH _ (XI hj) _ _ fun x hx=>?_;have hne:x≠f:=fun e=>hf<|e ▸ hx;rw[X9,aU,aU];simp[hne]
def ja(test:Nat->List Fc->Bool)(L:Q04):Nat->List Fc->List Fc
 | 0,kept=>kept
 | i+1,kept=>match L[i]? with
  | none=>kept
  | some f=>if test i kept then ja test L i kept else ja test L i (f::kept)
def pV{test:Nat->List Fc->Bool}{L kept:Q04}{i:Nat}(hi:i<L.length)(h:test i kept=true):ja test L (i+1) kept=ja test L i kept:=by
 unfold ja;rw[XQ hi];simp[h];cases i<;>rfl
def sI{test:Nat->List Fc->Bool}{L kept:Q04}{i:Nat}(hi:i<L.length)(h:test i kept=false):ja test L (i+1) kept=ja test L i (L[i]::kept):=by
 conv=>lhs;unfold ja
 rw[XQ hi];simp[h]
def uN(L:Q04)(k:Nat):List (Nat×Fc):=(List.range k).filterMap fun j=>(L[L.length-1-j]?).map fun x=>(L.length-1-j,x)
def CS{L:Q04}{k:Nat}(h:k<L.length):uN L (k+1)=uN L k++[(L.length-1-k,L[L.length-1-k])]:=by
 unfold uN;rw[List.range_succ,List.filterMap_append];simp[XQ (show L.length-1-k<L.length by omega)]
def R6(x:Nat×Fc):Array Value:=#[.int .i64 (x.1:Int),.agg #[.string x.2.a,.string x.2.b,.string x.2.r,.string x.2.c,.string x.2.d]]
structure BkM(W:World)(gB:Nat)(Zo:Q02)(Y0:Nat)(L:Q04):Prop where
 bx:W.cell? ⟨gB,0,none⟩=some (.slice Zo L.length Y0)
 sl:jX W Zo L
def O4(n:Nat)(hn:1<=n)(gB:Nat)(Zo:Q02)(Y0:Nat)(L:Q04)(hl:a7 L)(Kp:Nat->World->World->Prop)(w0:ag):
  AO Fence.wide n prog 225 #[.pointer (some<|am gB)] R6 Kp (fun _ W=>BkM W gB Zo Y0 L) (fun pre x=>∃h:pre.length<L.length,x=(L.length-1-pre.length,L[L.length-1-pre.length])) (fun xs=>xs=uN L L.length) w0:=by
 intro l J W _ _ _ hJ hT hY h0;have HT:=ah hT;have HY:=ah hY;have H0:=ah h0;have hM:=hT _ _ h0;have b0:=hM.bx;have bl:=ax b0;clear hJ hT hY h0 hM;refine callsIn_of_wp func225 rfl trivial ?_ rfl;simp only[ntmps225,List.size_toArray,Yh,YO,Nat.reduceAdd,Nat.reduceSub,Array.replicate_succ,Array.replicate_zero,List.push_toArray,List.append_toArray,YI,Yz];gi_wp2;clear b0 bl
 gi_loopw [3] (fun i wr=>∃q:Nat,q<=L.length/\i=.int .i64 ((L.length:Int)-1-(q:Int))/\O ((uN L q).length=q)/\O (J (uN L q) wr)) (fun i _=>(intOf i+1).toNat)
 case atStart=>exact⟨0,XP _,cx,rfl,H0⟩
 clear H0;obtain⟨q,hq,rfl,HLQ,HJ1⟩:=hrel;by_cases hlq:q<L.length
 ·obtain⟨m,hm⟩:=eQx<|L.length-1-q;have e0:(L.length:Int)-1-(q:Int)=(m:Int):=cq;rw[e0];have ZA:m<L.length:=cq;have hM:=HT _ _ HJ1;obtain⟨b,off,YW,⟨t0,t1,t2,t3,t4⟩,hbl⟩:=jX.at0 hM.sl ZA;have b0:=hM.bx;have hm0:=bG m;have hm1:(m:Int)<(L.length:Int):=cq;have HSQ:=ah<|CS hlq;obtain⟨fn,tmps,assign,body,hy,hR⟩:=HY _ (m,L[m]) wr HJ1 ⟨by rw[HLQ];exact hlq,by simp only[HLQ.out,<-hm]⟩;have HRR:=ah hR;unfold R6 at hy;have HME:=ah hm;subst YW;clear hM hR hm e0;gi_wp2;refine HRR.mono ?_;rintro e W5 ⟨rfl,hJ8,hK8⟩;have HJ8:O (J (uN L<|q+1) W5):=by
   show J _ _;rw[HSQ];have e:=HME.out;subst e;exact hJ8
  have HL8:O ((uN L<|q+1).length=q+1):=by show _=_;rw[HSQ,XT,HLQ];rfl
  have HM1:O ((m:Int)=(L.length:Int)-1-(q:Int)):=by show _=_;have:=HME.out;omega
  clear hJ8 hK8 hy t0 t1 t2 t3 t4 b0;gi_wp2;go_roundw;case rel=>exact⟨q+1,cq,by rw[HM1];go_num,HL8,HJ8⟩
  simp[intOf]<;>omega
 have e0:(L.length:Int)-1-(q:Int)=-1:=cq;rw[e0];have HE:O (J (uN L L.length) wr):=by
  have e:q=L.length:=cq;rw[<-e];exact HJ1
 gi_wp2
 go_end0
 exact⟨⟨_,rfl⟩,_,rfl,HE⟩
end Go.Proofs.YtojjoblnpldniaaGreat
