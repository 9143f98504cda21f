/- The iterator over what is asked at a stratum. -/
import Derived.Test.YtajkkeikihhejaaGreatSq
import Derived.Test.YtajkkeikihhejaaGreatJ24
import Derived.RangeFuncLeaves
import Derived.OwnWalkIn
import Derived.TacticsInMore
import Derived.LoopNIn
import Derived.LoopIn
import Derived.Test.YtajkkeikihhejaaGreatJ31
import Derived.Maps.OwnIn
open Go.Proofs.Tryz
set_option maxHeartbeats 80000000
namespace Go.Proofs.YtajkkeikihhejaaGreat
set_option linter.unusedVariables false
set_option maxRecDepth 100000
open ChangeShapes WideShapes ChangeAt RowKit Maps Go.Shelf
open Pl
attribute [local go_sem] Oper.semAt_some
structure InM(W:World)(D br nr:Nat)(Mr:KL->Option Value)(Er:List (KL×RR))(X7:Q02)(XM:Nat)(xo:Q0a)(gD gS gU:Nat)(sn:Int)(Xc:Q02)(Wn:Nat)(us:Q0a):Prop where
 d2:W.cell? ⟨D,2,none⟩=some (.map (some br))
 d4:W.cell? ⟨D,4,none⟩=some (.slice X7 xo.length XM)
 objs:lq W X7 xo
 rel:Fx W br nr Mr Er
 bD:W.cell? ⟨gD,0,none⟩=some (.pointer (some ⟨D,0,none⟩))
 bS:W.cell? ⟨gS,0,none⟩=some (.int .i64 sn)
 bU:W.cell? ⟨gU,0,none⟩=some (.slice Xc us.length Wn)
 users:lq W Xc us
def Ef(x:Fc):Array Value:=#[.agg #[.string x.a,.string x.b,.string x.r,.string x.c,.string x.d]]
theorem BU:∀(rs:Q07) (i:Nat) (h:i<rs.length) (j:Nat),j<2->(G.flatG RL rs)[i*2+j]?=(RL rs[i])[j]?
 | [],i,h,_,_=>by simp at h
 | r::rs,0,_,j,hj=>by
  simp only[G.flatG,Vo,Nat.zero_mul,Vj,List.getElem_cons_zero];rw[VP (by simp[RL];omega)]
 | r::rs,i+1,h,j,hj=>by
  have ih:=BU rs i (by simpa using h) j hj;simp only[G.flatG,Vo,List.getElem_cons_succ]at ih ⊢;rw[VN (by simp[RL];omega)];have:(i+1)*2+j-(RL r).length=i*2+j:=by simp[RL];omega
  rw[this];exact ih
theorem Lg{W:af}{br nr:Nat}{Mr:KL->Option Value}{Er:List (KL×RR)}(h:Fx W br nr Mr Er)(k:KL):∃ad cap,(Mr k).getD (.slice none 0 0)=.slice ad (G.lookL Er k).length cap/\(∀i (hi:i<(G.lookL Er k).length),∃g,ad=some ⟨g,0,none⟩/\g<W.heap.size/\W.cell? ⟨g,i*2,none⟩=some (.string (G.lookL Er k)[i].name)/\W.cell? ⟨g,i*2+1,none⟩=some (G.lookL Er k)[i].sl):=by
 have ho:=D5 h k;rcases ho.2 with⟨e,h0⟩|⟨g,cap,cur,e,hbg,hg,hnc,-⟩
 ·exact⟨none,0,by rw[e,h0],fun i hi=>by omega⟩
 refine⟨_,cap,e,fun i hi=>⟨g,rfl,(ho.lt g (by rw[e];rfl)).2,?_,?_⟩⟩
 ·rw[e]at ho;rw[ho.cellAt (i*2) (by omega)];exact BU _ i hi 0 (by omega)
 rw[e]at ho;rw[ho.cellAt (i*2+1) (by omega)];exact BU _ i hi 1 (by omega)
def Fz(W:World)(g:Nat)(o:Al):Prop:=W.heap[g]?=some (.cells #[.string o.t,.string o.s] 27 (0,0))
def Ie(W:World)(g:Nat)(r:RR):Prop:=W.heap[g]?=some (.cells #[.string r.name,r.sl] 147 (0,0))
theorem Fz.c{W:af}{g:Nat}{o:Al}(h:Fz W g o):W.cell? ⟨g,0,none⟩=some (.string o.t)/\W.cell? ⟨g,1,none⟩=some (.string o.s)/\g<W.heap.size:=by
 have hl:=(UZ.1 h).1;unfold Fz at h;exact⟨by simp[World.cell?,h],by simp[World.cell?,h],hl⟩
theorem Ie.c{W:af}{g:Nat}{r:RR}(h:Ie W g r):W.cell? ⟨g,0,none⟩=some (.string r.name)/\W.cell? ⟨g,1,none⟩=some r.sl/\g<W.heap.size:=by
 have hl:=(UZ.1 h).1;unfold Ie at h;exact⟨by simp[World.cell?,h],by simp[World.cell?,h],hl⟩
theorem Fz.kp{W W':af}{g:Nat}{o:Al}(h:Fz W g o)(hk:KpI W W'):Fz W' g o:=hk.cells g _ _ _ h (.inl rfl)
theorem Ie.kp{W W':af}{g:Nat}{r:RR}(h:Ie W g r)(hk:KpI W W'):Ie W' g r:=hk.cells g _ _ _ h (.inr rfl)
def iQ(rs:Q06)(st:Q00)(us:Q0a)(sn:Int)(xo:Q0a)(q:Nat):List Fc:=(xo.take q).flatMap (vQ (ag rs) st us sn)
def kQ(R:Q07)(us:Q0a)(o:Al)(k:Nat):List Fc:=(R.take k).flatMap fun r=>jg o r.name us
theorem R5{rs:Q06}{st:Q00}{us:Q0a}{sn:Int}{xo:Q0a}{q:Nat}(h:q<xo.length):iQ rs st us sn xo (q+1)=iQ rs st us sn xo q++kQ (G.lookL (dH st rs) (xo[q].t,sn)) us xo[q] (G.lookL (dH st rs) (xo[q].t,sn)).length:=by
 unfold iQ kQ;rw[UX h,VE,Va];congr 1;simp only[Vo,List.flatMap_nil,VK];unfold vQ;rw[Hz,List.flatMap_map]
theorem R6{R:Q07}{us:Q0a}{o:Al}{k:Nat}(h:k<R.length):kQ R us o (k+1)=kQ R us o k++jg o R[k].name us:=by
 unfold kQ;rw[UX h,VE];simp
theorem NC(o:Al)(rel:bQ){xu:Q0a}{j:Nat}(h:j<xu.length):jg o rel (xu.take (j+1))=jg o rel (xu.take j)++[⟨o.t,o.s,rel,xu[j].t,xu[j].s⟩]:=by
 unfold jg;rw[UX h,VG];rfl
theorem ND{rs:Q06}{st:Q00}{xo us:Q0a}{sn:Int}{o:Al}{r:RR}{u:Al}(ho:o∈xo)(hr:r∈G.lookL (dH st rs) (o.t,sn))(hu:u∈us):(⟨o.t,o.s,r.name,u.t,u.s⟩:Fc)∈df (ag rs) st xo us sn:=by
 unfold df vQ;refine U8.2 ⟨o,ho,U8.2 ⟨(o.t,r.name),?_,U7.2 ⟨u,hu,rfl⟩⟩⟩;rw[Hz];exact U7.2 ⟨r,hr,rfl⟩
theorem QA(n:Nat)(hn:1<=n)(D br nr:Nat)(Mr:KL->Option Value)(st:Q00)(rs:Q06)(X7:Q02)(XM:Nat)(xo:Q0a)(gD gS gU:Nat)(sn:Int)(Xc:Q02)(Wn:Nat)(us:Q0a)(w0:af)(hs0:0<=sn)(hs1:sn<=1000)(hol:xo.length<=1000)(Zt:us.length<=1000)(hrl:∀k,(G.lookL (dH st rs) k).length<=1000)(hof:∀o∈xo,o.t.size<=maxLen):
  EY Fence.wide n prog 199 #[.pointer (some ⟨gD,0,none⟩),.pointer (some ⟨gS,0,none⟩),.pointer (some ⟨gU,0,none⟩)] Ef (fun _=>KpI) (fun _ W=>InM W D br nr Mr (dH st rs) X7 XM xo gD gS gU sn Xc Wn us) (fun _ x=>x∈df (ag rs) st xo us sn) (fun xs=>xs=df (ag rs) st xo us sn) w0:=by
 intro l J W _ _ _ hJ hT hY h0;have HJ:=aj hJ;have HT:=aj hT;have HY:=aj hY;have H0:=aj h0;have HOF:=aj hof;have hM:=hT _ _ h0;have HRL:=aj hrl;have bD:=hM.bD;have d4:=hM.d4;have lD:=aF bD;have lDD:=aF d4;clear hJ hT hY h0 hof hM hrl;refine callsIn_of_wp func199 rfl trivial ?_ rfl;simp only[ntmps199,List.size_toArray,Vq,VT,Nat.reduceAdd,Nat.reduceSub,Array.replicate_succ,Array.replicate_zero,List.push_toArray,List.append_toArray,VU,VC];gi_wp2;clear bD d4 lD lDD
 gi_loopw [16] (fun i wr=>∃q:Nat,q<=xo.length/\i=.int .i64 q/\Hid (J (iQ rs st us sn xo q) wr)) (fun i _=>xo.length-(intOf i).toNat)
 case atStart=>exact⟨0,UY _,rfl,H0⟩
 clear H0;obtain⟨q,hq,rfl,HJ1⟩:=hrel;by_cases hlq:q<xo.length
 ·have hM:=HT.out _ _ HJ1.out;obtain⟨bO,WT,Zh,⟨o0,o1⟩,hbO⟩:=lq.at0 hM.objs hlq;have HSQ:=aj (R5 (rs:=rs) (st:=st) (us:=us) (sn:=sn) hlq);have ZY:=aj (HOF.out _ (UR hlq));have HOM:Hid (xo[q]∈xo):=UR hlq;obtain⟨o,ho⟩:∃o,o=xo[q]:=⟨_,rfl⟩;rw[<-ho]at o0 o1 HSQ ZY HOM;clear ho;have hq1:=bG q;have hq2:(q:Int)<(xo.length:Int):=by omega
  obtain⟨W1,hW1⟩:∃W1,W1=wr.alloc (.cells #[.string o.t,.string o.s] 27):=⟨_,rfl⟩;have HB1:=mI hW1;have HJ2:=aj (nz HJ.out HJ1.out HB1.out);have Wx:Hid (Fz W1 wr.heap.size o):=by rw[hW1];exact World.alloc_heap_new wr _
  have hM2:=HT.out _ _ HJ2.out;have bD:=hM2.bD;have bS:=hM2.bS;have d2:=hM2.d2;obtain⟨c0,c1,cl⟩:=Wx.out.c;obtain⟨Xl,WO,hgd,-⟩:=Lg hM2.rel (o.t,sn);obtain⟨kl,hkl⟩:=KU (o.t,sn) ZY.out hs0 (by show sn<=_;omega);obtain⟨R,hR⟩:∃R,R=G.lookL (dH st rs) (o.t,sn):=⟨_,rfl⟩;have hRl:R.length<=1000:=by rw[hR];exact HRL.out _
  rw[<-hR]at hgd HSQ;have HRE:=aj hR;have HGD:=aj hgd;have hlk:∀m,(Instr.lookup 165 (.map (some br)) (.agg #[.string o.t,.int .i64 sn]) false).run prog (W1.drewN m)=.ok (.slice Xl R.length WO) (W1.drewN m):=fun m=>by
   have h:=(hM2.rel.map.below (below_drewN (UV _ _) m)).look (t:=165) (e:=125) Uo underlying165 (Qi _) (x:=(o.t,sn)) hkl;rw[hgd]at h;exact h
  subst Zh;clear hM hM2 hR hgd hkl;gi_wp2;rw[<-hW1];clear hW1;refine wpIn_wide.2 ?_;go_quiet (fail);obtain⟨W2,hW2⟩:∃W2,W2=W1.drewN nq:=⟨_,rfl⟩;have HB2:Hid (ae W1 W2):=by show Below _ _ _;rw[hW2];exact below_drewN (UV _ _) _
  have HJ3:=aj (nz HJ.out HJ2.out HB2.out);have HBX2:=aj (Wx.out.kp (KpI.below HB2.out));obtain⟨gO,hgO⟩:∃g,g=wr.heap.size:=⟨_,rfl⟩;rw[<-hgO]at HBX2 ⊢;rw[<-hW2];clear hW2 hgO c0 c1 cl bD bS d2 hlk HB1 HJ2 Wx HJ1 o0 o1 hbO;gi_wp2
  gi_loopw [30] (fun i w2=>∃k:Nat,k<=R.length/\i=.int .i64 k/\Hid (J (iQ rs st us sn xo q++kQ R us o k) w2)/\Hid (Fz w2 gO o)) (fun i _=>R.length-(intOf i).toNat)
  case atStart=>exact⟨0,UY _,rfl,by show J (_++[]) _;rw[VK];exact HJ3.out,HBX2⟩
  clear HJ3 HBX2 HB2;obtain⟨k,hk,rfl,HJ4,Wx⟩:=hrel;by_cases hlk:k<R.length
  ·have hM:=HT.out _ _ HJ4.out;obtain⟨adR',capR',hgd',hrows⟩:=Lg hM.rel (o.t,sn);rw[<-HRE.out,HGD.out]at hgd';injection hgd' with ea eb ec;subst ea;clear eb ec;obtain⟨gq,hadR,hgl,r0,r1⟩:=hrows k (by rw[<-HRE.out];exact hlk);have HKS:=aj (R6 (us:=us) (o:=o) hlk);have hrr:(G.lookL (dH st rs) (o.t,sn))[k]'(by rw[<-HRE.out];exact hlk)=R[k]:=by simp only[HRE.out]
   rw[hrr]at r0 r1;have HRM:Hid (R[k]∈R):=UR hlk;obtain⟨r,hr⟩:∃r,r=R[k]:=⟨_,rfl⟩;rw[<-hr]at r0 r1 HKS HRM;have hk1:=bG k;have hk2:(k:Int)<(R.length:Int):=by omega
   obtain⟨W3,hW3⟩:∃W3,W3=wr.alloc (.cells #[.string r.name,r.sl] 147):=⟨_,rfl⟩;have HB3:=mI hW3;have HJ5:=aj (nz HJ.out HJ4.out HB3.out);have Y7:=aj (Wx.out.kp (KpI.below HB3.out));have YC:Hid (Ie W3 wr.heap.size r):=by rw[hW3];exact World.alloc_heap_new wr _
   have hM3:=HT.out _ _ HJ5.out;have bU:=hM3.bU;have lU:=aF bU;have bU0:=hM.bU;have lU0:=aF bU0;unfold RR.sl at r1 hW3;obtain⟨gR,hgR⟩:∃g,g=wr.heap.size:=⟨_,rfl⟩;subst hadR;clear hM hM3 hr hrr hrows;gi_wp2;rw[<-hW3,<-hgR];rw[<-hgR]at YC;clear hW3 hgR bU lU bU0 lU0 r0 r1 hgl HB3 HJ4 Wx
   gi_loopw [36] (fun i w2=>∃j:Nat,j<=us.length/\i=.int .i64 j/\Hid (J (iQ rs st us sn xo q++kQ R us o k++jg o r.name (us.take j)) w2)/\Hid (Fz w2 gO o)/\Hid (Ie w2 gR r)) (fun i _=>us.length-(intOf i).toNat)
   case atStart=>exact⟨0,UY _,rfl,by show J (_++[]) _;rw[VK];exact HJ5.out,Y7,YC⟩
   clear HJ5 Y7 YC;obtain⟨j,hj,rfl,HJ6,Y7,YC⟩:=hrel;by_cases hlj:j<us.length
   ·have hM:=HT.out _ _ HJ6.out;obtain⟨bV,offV,hadU,⟨y0,y1⟩,hbV⟩:=lq.at0 hM.users hlj;have HAS:=aj (NC o r.name hlj);obtain⟨u,hu⟩:∃u,u=us[j]:=⟨_,rfl⟩;rw[<-hu]at y0 y1 HAS;have hj1:=bG j;have hj2:(j:Int)<(us.length:Int):=by omega
    obtain⟨W4,WE⟩:∃W4,W4=wr.alloc (.cells #[.string u.t,.string u.s] 27):=⟨_,rfl⟩;have XF:=mI WE;have HJ7:=nz HJ.out HJ6.out XF.out;have YW:=aj (Y7.out.kp (KpI.below XF.out));have HBR2:=aj (YC.out.kp (KpI.below XF.out));obtain⟨fn,tmps,assign,body,hy,hR⟩:=HY.out _ ⟨o.t,o.s,r.name,u.t,u.s⟩ W4 HJ7 (ND HOM.out (by rw[<-HRE.out];exact HRM.out) (by rw[hu];exact UR hlj));obtain⟨c0,c1,cl⟩:=Y7.out.c;obtain⟨e0,e1,el⟩:=YC.out.c;have HRR:=aj hR;unfold Ef at hy;subst hadU;subst WE;clear hM hu HJ7 hR;gi_wp2;refine HRR.out.mono ?_;rintro e W5 ⟨rfl,hJ8,hK8⟩;have HJ8:Hid (J (iQ rs st us sn xo q++kQ R us o k++jg o r.name (us.take (j+1))) W5):=by show J _ _;rw[HAS.out,<-Vm];exact hJ8
    have HBO3:=aj (YW.out.kp hK8);have HBR3:=aj (HBR2.out.kp hK8);clear hJ8 hK8 hy y0 y1 c0 c1 cl e0 e1 el;gi_wp2;go_roundw;case rel=>exact⟨j+1,by omega,by go_num,HJ8,HBO3,HBR3⟩
    simp[intOf]<;>omega
   have HJ7:Hid (J (iQ rs st us sn xo q++kQ R us o (k+1)) wr):=by
    have h1:=HJ6.out;rw[Vs (by omega),Vm,<-HKS.out]at h1;exact h1
   gi_wp2;go_roundw;case rel=>exact⟨k+1,by omega,by go_num,HJ7,Y7⟩
   simp[intOf]<;>omega
  have HE2:Hid (iQ rs st us sn xo q++kQ R us o k=iQ rs st us sn xo (q+1)):=by show _=_;rw[HSQ.out,show k=R.length by omega]
  have HJ5:Hid (J (iQ rs st us sn xo (q+1)) wr):=by show J _ _;rw[<-HE2.out];exact HJ4.out
  gi_wp2;go_roundw;case rel=>exact⟨q+1,by omega,by go_num,HJ5⟩
  simp[intOf]<;>omega
 have HE:Hid (iQ rs st us sn xo q=df (ag rs) st xo us sn):=by show _=_;unfold iQ df;rw[Vs (by omega)]
 have HJ2:Hid (J (df (ag rs) st xo us sn) wr):=by show J _ _;rw[<-HE.out];exact HJ1.out
 gi_wp2
 go_end0
 exact⟨⟨_,rfl⟩,_,rfl,HJ2.out⟩
end Go.Proofs.YtajkkeikihhejaaGreat
namespace Go.Proofs.YtajkkeikihhejaaGreat
set_option linter.unusedVariables false
set_option maxRecDepth 100000
open ChangeShapes WideShapes ChangeAt RowKit Maps Go.Shelf
open Pl
attribute [local go_sem] Oper.semAt_some
theorem Km{n m:Nat}{P:Program}{l:Nat}{f:FuncId}{tmps:Array Value}{assign body:Code}{w:af}{R:Ending->World->Prop}(h:RoundIn Fence.wide n P l f tmps assign body w R):RoundIn Fence.wide m P l f tmps assign body w R :=
 ⟨h.1,fun c cs _=>h.2 c cs (room_wide _)⟩
theorem BV(D:Nat)(sn:Int)(Xc:Q02)(nU Wn:Nat)(w:af):
  Calls prog 145 #[.pointer (some ⟨D,0,none⟩),.int .i64 sn,.slice Xc nU Wn] w fun e w'=>e=.returned (.func (.func 199) #[] #[.pointer (some ⟨w.heap.size,0,none⟩),.pointer (some ⟨w.heap.size+1,0,none⟩),.pointer (some ⟨w.heap.size+1+1,0,none⟩)])/\w'=((w.alloc (.cells #[.pointer (some ⟨D,0,none⟩)] 97)).alloc (.cells #[.int .i64 sn] 2)).alloc (.cells #[.slice Xc nU Wn] 49):=by
 go_enter func145,ntmps145;go_wp2;go_ret;exact⟨rfl,rfl⟩
theorem FB(D:Nat)(sn:Int)(Xc:Q02)(nU Wn:Nat)(bK:Nat)(w:af):
  Calls prog 102 #[.pointer (some ⟨D,0,none⟩),.int .i64 sn,.slice Xc nU Wn,.map (some bK)] w fun e w'=>e=.returned (.func (.func 144) #[] #[.pointer (some ⟨w.heap.size,0,none⟩),.pointer (some ⟨w.heap.size+1,0,none⟩),.pointer (some ⟨w.heap.size+1+1,0,none⟩),.pointer (some ⟨w.heap.size+1+1+1,0,none⟩)])/\w'=(((w.alloc (.cells #[.pointer (some ⟨D,0,none⟩)] 97)).alloc (.cells #[.int .i64 sn] 2)).alloc (.cells #[.slice Xc nU Wn] 49)).alloc (.cells #[.map (some bK)] 107):=by
 go_enter func102,ntmps102;go_wp2;go_ret;exact⟨rfl,rfl⟩
structure NewM(W:World)(rs:Q06)(WQ:Q02)(D br bp bt:Nat)(n1:Int)(nr:Nat)(Mr:KL->Option Value)(Er:List (KL×RR))(ts:Q05)(xo xu:Q0a)(np:Nat)(Mp:K3->Option Value)(vo vu:Value)(bK:Nat)(out:Q04)(hD hS hU hK:Nat)(sn:Int)(Xc:Q02)(Wn:Nat)(us:Q0a):Prop where
 dat:DatA W rs D br bp bt n1 nr Mr Er (bn ts) xo xu np Mp vo vu
 sch:kU W WQ rs
 map:∃nK,aK jO prog 29 W bK nK (wL out)
 bD:W.cell? ⟨hD,0,none⟩=some (.pointer (some ⟨D,0,none⟩))
 bS:W.cell? ⟨hS,0,none⟩=some (.int .i64 sn)
 bU:W.cell? ⟨hU,0,none⟩=some (.slice Xc us.length Wn)
 bM:W.cell? ⟨hK,0,none⟩=some (.map (some bK))
 users:lq W Xc us
def TS(l:Nat):Value:=.func (.yield l) #[] #[]
def ik(W:World)(g:Nat)(v:Value)(T:TypeId):Prop:=W.heap[g]?=some (.cells #[v] T (0,0))
theorem ik.c{W:af}{g:Nat}{v:Value}{T:TypeId}(h:ik W g v T):W.cell? ⟨g,0,none⟩=some v:=by
 unfold ik at h;simp[World.cell?,h]
theorem ik.kp{b l:Nat}{W W':af}{g:Nat}{v:Value}{T:TypeId}(h:ik W g v T)(hk:KpO b l W W')(h1:T≠29)(h2:T≠40):ik W' g v T:=hk.cells g _ _ _ h h1 h2
theorem ik.bel{W W':af}{g:Nat}{v:Value}{T:TypeId}(h:ik W g v T)(hb:ae W W'):ik W' g v T:=(hb.block g (UZ.1 h).1).trans h
structure NBx(W:World)(B l D:Nat)(sn:Int)(vU:Value):Prop where
 y:ik W B (TS l) 108
 d:ik W (B+1) (.pointer (some ⟨D,0,none⟩)) 97
 s:ik W (B+1+1) (.int .i64 sn) 2
 u:ik W (B+1+1+1) vU 49
theorem NBx.kp{b l0:Nat}{W W':af}{B l D:Nat}{sn:Int}{vU:Value}(h:NBx W B l D sn vU)(hk:KpO b l0 W W'):NBx W' B l D sn vU :=
 ⟨h.y.kp hk (by decide) (by decide),h.d.kp hk (by decide) (by decide),h.s.kp hk (by decide) (by decide),h.u.kp hk (by decide) (by decide)⟩
theorem NBx.bel{W W':af}{B l D:Nat}{sn:Int}{vU:Value}(h:NBx W B l D sn vU)(hb:ae W W'):NBx W' B l D sn vU:=⟨h.y.bel hb,h.d.bel hb,h.s.bel hb,h.u.bel hb⟩
theorem R7{β:Type}{B0 B l D:Nat}{sn:Int}{vU:Value}(hB:B+1+1+1<B0):OwnFrom B0 (fun(_:β) W=>NBx W B l D sn vU):=fun s X Y row hs hg hr=>by
 have key:∀g v T,g<B0->ik X g v T->ik Y g v T:=fun g v T hl h=>(hg.block g (UZ.1 h).1 fun e=>by have:=(hr g e.symm).1;omega).trans h;exact⟨key _ _ _ (by omega) hs.y,key _ _ _ (by omega) hs.d,key _ _ _ (by omega) hs.s,key _ _ _ (by omega) hs.u⟩
def xO(W:World)(g:Nat)(x:Fc):Prop:=W.heap[g]?=some (.cells #[.string x.a,.string x.b,.string x.r,.string x.c,.string x.d] 29 (0,0))
theorem xO.c{W:af}{g:Nat}{x:Fc}(h:xO W g x):W.cell? ⟨g,0,none⟩=some (.string x.a)/\W.cell? ⟨g,1,none⟩=some (.string x.b)/\W.cell? ⟨g,2,none⟩=some (.string x.r)/\W.cell? ⟨g,3,none⟩=some (.string x.c)/\W.cell? ⟨g,4,none⟩=some (.string x.d)/\g<W.heap.size:=by
 have hl:=(UZ.1 h).1;unfold xO at h;exact⟨by simp[World.cell?,h],by simp[World.cell?,h],by simp[World.cell?,h],by simp[World.cell?,h],by simp[World.cell?,h],hl⟩
theorem xO.bel{W W':af}{g:Nat}{x:Fc}(h:xO W g x)(hb:ae W W'):xO W' g x:=(hb.block g (UZ.1 h).1).trans h
theorem Ig{B0 g:Nat}{x:Fc}:OwnFrom B0 (fun(_:Unit) W=>xO W g x):=fun s X Y row hs hg hr=>by
 refine(hg.block g (UZ.1 hs).1 fun e=>?_).trans hs;obtain⟨-,o,ho,hc⟩:=hr g e.symm;rw[show X.heap[g]?=_ from hs]at ho;cases ho;cases hc
theorem QB{l' m:Nat}{P:Program}{f:FuncId}{args:Array Value}{w:af}{R:Ending->World->Prop}(h:Calls P f args w R):CallsIn (Fence.wide.inRound l') m P f args w R:=(callsIn_wide (n:=m)).2 h
theorem TT{l' n m:Nat}{P:Program}{l:Nat}{f:FuncId}{tmps:Array Value}{assign body:Code}{w:af}{R:Ending->World->Prop}(h:RoundIn Fence.wide n P l f tmps assign body w R):RoundIn (Fence.wide.inRound l') m P l f tmps assign body w R:=Km (m:=m) h
theorem yI{B:Nat}{W W':af}(h:ae W W'):KeepsFrom B W W':=⟨h.size,fun k o _ hk _=>(h.block k (UZ.1 hk).1).trans hk⟩
theorem QC{B b l:Nat}{W W':af}(h:KpO b l W W')(hl:l<B)(hb:b<B):KeepsFrom B W W':=⟨h.size,fun k o hB hk hc=>h.other k o hk hc (by omega) (by omega)⟩
theorem Ih{rs:Q06}{st:Q00}{xo us:Q0a}{sn:Int}{x:Fc}(hof:∀o∈xo,o.t.size<=maxLen/\o.s.size<=maxLen)(huf:∀o∈us,o.t.size<=maxLen/\o.s.size<=maxLen)(hrf:∀k∈au (ag rs),k.2.size<=maxLen)(h:x∈df (ag rs) st xo us sn):(x.a,x.r)∈au (ag rs)/\x.fits:=by
 unfold df vQ at h;obtain⟨o,ho,h⟩:=U8.1 h;obtain⟨k,hk,h⟩:=U8.1 h;obtain⟨u,hu,rfl⟩:=U7.1 h;obtain⟨h1,h2⟩:=VM.1 hk;rw[UW,fE]at h2;have e:(o.t,k.2)=k:=Prod.ext h2.1.symm rfl;refine⟨?_,(hof o ho).1,(hof o ho).2,hrf k h1,(huf u hu).1,(huf u hu).2⟩;show(o.t,k.2)∈_;rw[e];exact h1
theorem NE[DecidableEq Fc](n:Nat)(hn:4<=n)(rs:Q06)(WQ:Q02)(D br bp bt:Nat)(n1:Int)(nr:Nat)(Mr:KL->Option Value)(st:Q00)(ts:Q05)(X7:Q02)(XM:Nat)(xo xu:Q0a)(np:Nat)(Mp:K3->Option Value)(vu:Value)(bK:Nat)(XD:Q04)(hD hS hU hK:Nat)(sn:Int)(Xc:Q02)(Wn:Nat)(us:Q0a)(w0:af)(hs0:0<=sn)(hs1:sn<=1000)(hol:xo.length<=1000)(Zt:us.length<=1000)(hrl:∀k,(G.lookL (dH st rs) k).length<=1000)(hsh:bu (ag rs)=true)(hts:∀t∈ts,t.fits)(htl:ts.length<=1000)(hof:∀o∈xo,o.t.size<=maxLen/\o.s.size<=maxLen)(huf:∀o∈us,o.t.size<=maxLen/\o.s.size<=maxLen)(hrf:∀k∈au (ag rs),k.2.size<=maxLen):
  EY Fence.wide n prog 144 #[.pointer (some ⟨hD,0,none⟩),.pointer (some ⟨hS,0,none⟩),.pointer (some ⟨hU,0,none⟩),.pointer (some ⟨hK,0,none⟩)] Ef (KpO bK) (fun pre W=>NewM W rs WQ D br bp bt n1 nr Mr (dH st rs) ts xo xu np Mp (.slice X7 xo.length XM) vu bK (XD++pre) hD hS hU hK sn Xc Wn us) (fun pre x=>x∈df (ag rs) st xo us sn/\x ∉ XD++pre) (fun xs=>bR (fT (ag rs) ts) (df (ag rs) st xo us sn) XD=XD++xs) w0:=by
 intro l J W _ hlW _ hJ hT hY h0;have hM:=hT _ _ h0;obtain⟨nK0,hmap0⟩:=hM.map;have hbK:=hmap0.lt;have bD:=hM.bD;have bS:=hM.bS;have bU:=hM.bU;have lD:=aF bD;have lS:=aF bS;have lU:=aF bU;obtain⟨W1,hW1⟩:∃W1,W1=W.alloc (.cells #[.func (.yield l) #[] #[]] 108):=⟨_,rfl⟩;have hB1:ae W W1:=by rw[hW1];exact(UV _ _).alloc (UU _) _
 have s1:W1.heap.size=W.heap.size+1:=by rw[hW1,World.size_alloc]
 have y1:ik W1 W.heap.size (TS l) 108:=by rw[hW1];exact World.alloc_heap_new W _
 have bD1:=aJ hB1 lD bD;have bS1:=aJ hB1 lS bS;have bU1:=aJ hB1 lU bU;clear hM hmap0;refine callsIn_of_wp_marks func144 rfl trivial ?_ rfl;simp only[ntmps144,List.size_toArray,Vq,VT,Nat.reduceAdd,Nat.reduceSub,Array.replicate_succ,Array.replicate_zero,List.push_toArray,List.append_toArray,VU,VC]
 gi_wp2_with fail
 rw[<-hW1];clear hW1;refine⟨trivial,fun _=>by omega,(callsIn_wide.2 (BV D sn Xc us.length Wn W1)).mono ?_⟩;rintro e W2 ⟨rfl,hW2⟩;have hB2:ae W1 W2:=by rw[hW2];exact(((UV _ _).alloc (UU _) _).alloc (by simp) _).alloc (by simp;omega) _
 have s2:W2.heap.size=W.heap.size+1+1+1+1:=by rw[hW2,World.size_alloc,World.size_alloc,World.size_alloc,s1]
 have NB:NBx W2 W.heap.size l D sn (.slice Xc us.length Wn):=by
  obtain⟨V1,e1⟩:∃V,V=W1.alloc (.cells #[.pointer (some ⟨D,0,none⟩)] 97):=⟨_,rfl⟩;obtain⟨V2,e2⟩:∃V,V=V1.alloc (.cells #[.int .i64 sn] 2):=⟨_,rfl⟩;rw[<-e1,<-e2]at hW2;have t1:V1.heap.size=W.heap.size+1+1:=by rw[e1,World.size_alloc,s1]
  have t2:V2.heap.size=W.heap.size+1+1+1:=by rw[e2,World.size_alloc,t1]
  have f1:ae W1 V1:=by rw[e1];exact(UV _ _).alloc (UU _) _
  have f2:ae V1 V2:=by rw[e2];exact(UV _ _).alloc (UU _) _
  have f3:ae V2 W2:=by rw[hW2];exact(UV _ _).alloc (UU _) _
  have g1:ik V1 (W.heap.size+1) (.pointer (some ⟨D,0,none⟩)) 97:=by rw[e1,<-s1];exact World.alloc_heap_new W1 _
  have g2:ik V2 (W.heap.size+1+1) (.int .i64 sn) 2:=by rw[e2,<-t1];exact World.alloc_heap_new V1 _
  have g3:ik W2 (W.heap.size+1+1+1) (.slice Xc us.length Wn) 49:=by rw[hW2,<-t2];exact World.alloc_heap_new V2 _
  exact⟨((y1.bel f1).bel f2).bel f3,(g1.bel f2).bel f3,g2.bel f3,g3⟩
 have hB02:ae W W2:=hB1.trans (hB2.mono hB1.size);have J2:=nz hJ h0 hB02;rw[s1];clear hW2 y1 bD bS bU bD1 bS1 bU1 hB1 hB2 lD lS lU;gi_wp2
 refine qL (α:=Fc) rfl (by omega) (gf:=199) (lb:=#[.pointer (some ⟨W.heap.size+1,0,none⟩),.pointer (some ⟨W.heap.size+1+1,0,none⟩),.pointer (some ⟨W.heap.size+1+1+1,0,none⟩)]) rfl trivial (enters_of func199 (by kernel_rfl) rfl)
  (QA (n-1) (by omega) D br nr Mr st rs X7 XM xo (W.heap.size+1) (W.heap.size+1+1) (W.heap.size+1+1+1) sn Xc Wn us W2 hs0 hs1 hol Zt hrl (fun o ho=>(hof o ho).1)) (UV _ _) (fun _=>rfl) (fun h k=>h.trans k) (fun X lx o o' h1 h2=>KpI.put h1 h2)
  (fun pre X=>(∃xs,bR (fT (ag rs) ts) pre XD=XD++xs/\J xs X)/\NBx X W.heap.size l D sn (.slice Xc us.length Wn))
  ?own ?tell ⟨⟨[],by rw[VK];rfl,J2⟩,NB⟩
  (fun x a' X=>∃Bx,xO X Bx x/\a'={ tmps:=#[.func (.yield l) #[] #[],.pointer (some ⟨hD,0,none⟩),.pointer (some ⟨hS,0,none⟩),.pointer (some ⟨hU,0,none⟩),.pointer (some ⟨hK,0,none⟩),.pointer (some ⟨W.heap.size,0,none⟩),.pointer (some ⟨Bx,0,none⟩),.pointer (some ⟨D,0,none⟩),.int .i64 sn,.slice Xc us.length Wn,.func (.func 199) #[] #[.pointer (some ⟨W.heap.size+1,0,none⟩),.pointer (some ⟨W.heap.size+1+1,0,none⟩),.pointer (some ⟨W.heap.size+1+1+1,0,none⟩)],.agg #[.string x.a,.string x.b,.string x.r,.string x.c,.string x.d],undef,undef,undef,undef,undef,undef,undef,undef,undef,undef,undef,undef,undef,undef,undef,undef],defers:=[] })
  (fun x a' s X Y row hs hg hr=>by obtain⟨Bx,h,e⟩:=hs;exact⟨Bx,Ig (B0:=W2.heap.size) (g:=Bx) (x:=x) () X Y row h hg hr,e⟩) ?assign ?body ?done
 case own =>
  refine OwnFrom.and (fun pre X Y row hs hg hr=>?_) (R7 (by omega));obtain⟨xs,h1,h2⟩:=hs;exact⟨xs,h1,hJ xs X Y row h2 hg fun r e=>⟨by have:=(hr r e).1;have:=hB02.size;omega,(hr r e).2⟩⟩
 case tell =>
  rintro pre X ⟨⟨xs,h1,h2⟩,hb⟩;have hm:=hT _ _ h2;obtain⟨We,cap',e,hso⟩:=kK hm.dat.dat.objs;injection e with ea eb ec;exact⟨hm.dat.dat.c2,hm.dat.dat.c4,by rw[ea];exact hso,hm.dat.rel,hb.d.c,hb.s.c,hb.u.c,hm.users⟩
 case assign =>
  rintro l' pre x X K ⟨⟨xs,h1,h2⟩,hb⟩ hKK;unfold Ef;gi_wp2;have hbl:ae X (X.alloc (.cells #[.string x.a,.string x.b,.string x.r,.string x.c,.string x.d] 29)):=(UV _ _).alloc (UU _) _;exact hKK _ _ ((KeepsOthers.alloc _ _).from _) (KpI.below hbl) ⟨⟨xs,h1,nz hJ h2 hbl⟩,hb.bel hbl⟩ ⟨X.heap.size,World.alloc_heap_new X _,rfl⟩
 case body =>
  rintro l' pre x a' X hl hEx ⟨⟨xs,hrun,hJx⟩,NBX⟩ ⟨Bx,bX,rfl⟩;have hm:=hT _ _ hJx;obtain⟨nK,hmap⟩:=hm.map;obtain⟨c0,c1,c2,c3,c4,cl⟩:=bX.c;have bM:=hm.bM;have lM:=aF bM;obtain⟨hkey,hxf⟩:=Ih hof huf hrf hEx
  gi_wp2_with fail
  refine⟨trivial,fun _=>by omega,(QB (rq bK nK (XD++xs) x X hxf hmap)).mono ?_⟩;rintro e X2 ⟨rfl,hb2⟩;have J2':=nz hJ hJx hb2;have NB2:=NBX.bel hb2;cases hh:bB (XD++xs) x;case true=>
   have hr2:bR (fT (ag rs) ts) (pre++[x]) XD=XD++xs:=by rw[sj,hrun,wJ (.inl hh)]
   clear c0 c1 c2 c3 c4 cl bM lM hm;gi_wp2;refine⟨trivial,?_⟩;gi_wp2;refine⟨fun f h=>(by cases h),?_⟩;gi_wp2;exact⟨yI hb2,KpI.below hb2,⟨xs,hr2,J2'⟩,NB2⟩
  have bX2:=bX.bel hb2;have hm2:=hT _ _ J2';obtain⟨nK2,hmap2⟩:=hm2.map;have bM2:=hm2.bM;have bD2:=hm2.bD;obtain⟨d0,d1,d2,d3,d4,dl⟩:=bX2.c;clear c0 c1 c2 c3 c4 cl bM lM hm
  gi_wp2_with fail
  refine⟨trivial,fun _=>by omega,(QB (Nz hm2.dat hmap2 hxf hts htl hsh hkey hm2.sch)).mono ?_⟩;rintro e X3 ⟨rfl,hb3⟩;have ZB:ae X X3:=hb2.trans (hb3.mono hb2.size);have J3':=nz hJ J2' hb3;have NB3:=NB2.bel hb3;clear hm2;cases hv:fT (ag rs) ts (XD++xs) x;case false=>
   have hr2:bR (fT (ag rs) ts) (pre++[x]) XD=XD++xs:=by rw[sj,hrun,wJ (.inr hv)]
   clear d0 d1 d2 d3 d4 dl bM2 bD2;gi_wp2;refine⟨fun f h=>(by cases h),?_⟩;gi_wp2;exact⟨yI ZB,KpI.below ZB,⟨xs,hr2,J3'⟩,NB3⟩
  have hr2:bR (fT (ag rs) ts) (pre++[x]) XD=XD++(xs++[x]):=by rw[sj,hrun,Ea hh hv,Vm]
  obtain⟨fn,tmps,assign,body,hy,hR⟩:=hY xs x X3 J3' ⟨hEx,fun hm=>by rw[cZ.2 hm]at hh;cases hh⟩;unfold Ef at hy;obtain⟨f0,f1,f2,f3,f4,fl⟩:=(bX2.bel hb3).c;have yc:=NB3.y.c;have yl:=aF yc;unfold TS at yc;clear d0 d1 d2 d3 d4 dl bM2 bD2;gi_wp2;refine⟨fun _=>by omega,(TT hR).mono ?_⟩;rintro e X4 ⟨rfl,hJ4,hK4⟩;have hk24:KpO bK l X X4:=(KpO.below ZB).trans hK4;have NB4:=NB3.kp hK4;clear f0 f1 f2 f3 f4 fl yc yl hy;gi_wp2;exact⟨QC hk24 (by omega) (by omega),hk24.toI,⟨xs++[x],hr2,hJ4⟩,NB4⟩
 case done =>
  rintro Dd ys X hDd hS ⟨⟨xs,h1,h2⟩,-⟩ hKd;rw[hS]at h1;gi_wp2;refine⟨by simp,.inl ⟨_,_,rfl,run_takeDeferred hKd,?_⟩⟩;exact⟨_,results_none rfl _ _ _,⟨_,rfl⟩,xs,h1,hJ.putObj _ h2 (by have:=hB02.size;omega) hKd rfl⟩
end Go.Proofs.YtajkkeikihhejaaGreat
namespace Go.Proofs.YtajkkeikihhejaaGreat
set_option linter.unusedVariables false
set_option maxRecDepth 100000
open ChangeShapes WideShapes ChangeAt RowKit Maps Go.Shelf
open Pl
theorem yX{K:Type}{enc:K->Value}{P:Program}{F:Fence}{nF:Nat}(w:af){ops:Array Oper}{rest:List Oper}{o:Oper}{a:Act}{Q:Exit->Act->World->Prop}[DecidableEq K](hg:o.guard=none)(m x v:Operand)(t:TypeId)(hop:o.op=Op.mapUpdate t m x v)(k e:TypeId)(L:Keyed P k)(hinj:∀x y,enc x=enc y->x=y)(ht:P.underlying t=some (.map k e))(b n:Nat)(M:K->Option Value)
  (hm:a.eval m=.map (some b)) (hV:aK enc P k w b n M) (hn:n<maxLen) (y:K) (kl:Lit) (hx:a.eval x=enc y) (hkey:keyOf P k (enc y)=some kl) (u:Value) (hv:a.eval v=u)
  (hK:∀w',aK enc P k w' b (n+1) (lu M y (some u))->w.grownBy w' (some b)->wpListIn F nF P ops Q rest (a.put o.dst undef) w'):wpListIn F nF P ops Q (o::rest) a w:=by
 refine wpListIn_plain hg fun K' hK'=>?_;obtain⟨w',hrun,r1,r2⟩:=hV.store L hinj ht hn hkey u;unfold Oper.wpIn;refine⟨by simp[Oper.about,hop],?_⟩;rw[Oper.semAt_plain F _ _ (by rw[hop];intro c hc';cases hc')];simp[execOp,hop,hm,hx,hv,hrun,Result.andThen];exact hK' _ _ (hK w' r1 r2)
theorem Lh[DecidableEq Fc](out:Q04)(f:Fc):lu (wL out) f (some (.agg #[]))=wL (out++[f]):=by
 funext y
 by_cases e:y=f
 ·subst e;rw[ed];unfold wL;rw[if_pos (cZ.2 (by simp))]
 rw[dw e];unfold wL;have:bB (out++[f]) y=bB out y:=by
  rw[Vd,cZ,cZ];simp[e]
 rw[this]
def marks(rl:List Nat):List Deferred:=rl.map fun r=>{ target:=.collected r,args:=#[] }
def je(W:World)(rl:List Nat):Prop:=rl.Nodup/\∀r∈rl,W.heap[r]?=some (.deferred (some []))
theorem je.kp{b l:Nat}{W W':af}{rl:List Nat}(h:je W rl)(hk:KpO b l W W')(hl:l ∉ rl)(hb:b ∉ rl):je W' rl :=
 ⟨h.1,fun r hr=>hk.other r _ (h.2 r hr) rfl (fun e=>hl (e ▸ hr)) (fun e=>hb (e ▸ hr))⟩
theorem je.bel{W W':af}{rl:List Nat}(h:je W rl)(hb:ae W W'):je W' rl :=
 ⟨h.1,fun r hr=>(hb.block r (UZ.1 (h.2 r hr)).1).trans (h.2 r hr)⟩
theorem je.lt{W:af}{rl:List Nat}(h:je W rl){r:Nat}(hr:r∈rl):r<W.heap.size:=(UZ.1 (h.2 r hr)).1
theorem wR{n:Nat}{P:Program}{fn:Func}{tmps:Array Value}{R:Ending->World->Prop}(B:Nat)(Inv:World->Prop)(hinv:∀W r,B<r->Inv W->W.heap[r]?=some (.deferred (some []))->Inv (W.putObj r (.deferred none)))(hend:∀W,Inv W->LeavesIn Fence.wide n P fn tmps R [] .returning W):∀(rl:List Nat) (W:af),je W rl->(∀r∈rl,B<r)->Inv W->LeavesInM Fence.wide n P fn tmps R (marks rl) .returning W
 | [],W,_,_,hI=>hend W hI
 | r::rl,W,hm,hB,hI=>by
  have hr:=hm.2 r (by simp);obtain⟨h1,h2⟩:=List.nodup_cons.1 hm.1;refine⟨by simp,.inl ⟨r,_,rfl,run_takeDeferred hr,wR B Inv hinv hend rl _ ⟨h2,fun q hq=>?_⟩ (fun q hq=>hB q (by simp[hq])) (hinv W r (hB r (by simp)) hI hr)⟩⟩;have hne:q≠r:=fun e=>h1 (e ▸ hq);rw[oq hne];exact hm.2 q (by simp[hq])
theorem Li{b l:Nat}{W W':af}{base size n:Nat}{T:TypeId}{v:Value}{xs:Q03}(h:W.ownsRow base T size v n xs)(hk:KpO b l W W')(h1:T≠29)(h2:T≠40):W'.ownsRow base T size v n xs :=
 eB h fun g hg=>by
  obtain⟨cur,e⟩:=jN h hg;rw[hk.cells g _ _ _ e h1 h2,e]
structure FBx(W:World)(B D:Nat)(sn:Int)(vU:Value)(bK:Nat):Prop where
 d:ik W B (.pointer (some ⟨D,0,none⟩)) 97
 s:ik W (B+1) (.int .i64 sn) 2
 u:ik W (B+1+1) vU 49
 k:ik W (B+1+1+1) (.map (some bK)) 107
theorem FBx.kp{b l0:Nat}{W W':af}{B D:Nat}{sn:Int}{vU:Value}{bK:Nat}(h:FBx W B D sn vU bK)(hk:KpO b l0 W W'):FBx W' B D sn vU bK :=
 ⟨h.d.kp hk (by decide) (by decide),h.s.kp hk (by decide) (by decide),h.u.kp hk (by decide) (by decide),h.k.kp hk (by decide) (by decide)⟩
theorem R8(w:af)(D:Nat)(sn:Int)(vU:Value)(bK:Nat){W:af}(hW:W=(((w.alloc (.cells #[.pointer (some ⟨D,0,none⟩)] 97)).alloc (.cells #[.int .i64 sn] 2)).alloc (.cells #[vU] 49)).alloc (.cells #[.map (some bK)] 107)):FBx W w.heap.size D sn vU bK/\ae w W/\W.heap.size=w.heap.size+1+1+1+1:=by
 obtain⟨V1,e1⟩:∃V,V=w.alloc (.cells #[.pointer (some ⟨D,0,none⟩)] 97):=⟨_,rfl⟩;obtain⟨V2,e2⟩:∃V,V=V1.alloc (.cells #[.int .i64 sn] 2):=⟨_,rfl⟩;obtain⟨V3,e3⟩:∃V,V=V2.alloc (.cells #[vU] 49):=⟨_,rfl⟩;rw[<-e1,<-e2,<-e3]at hW;have t1:V1.heap.size=w.heap.size+1:=by rw[e1,World.size_alloc]
 have t2:V2.heap.size=w.heap.size+1+1:=by rw[e2,World.size_alloc,t1]
 have t3:V3.heap.size=w.heap.size+1+1+1:=by rw[e3,World.size_alloc,t2]
 have f1:ae w V1:=by rw[e1];exact(UV _ _).alloc (UU _) _
 have f2:ae V1 V2:=by rw[e2];exact(UV _ _).alloc (UU _) _
 have f3:ae V2 V3:=by rw[e3];exact(UV _ _).alloc (UU _) _
 have f4:ae V3 W:=by rw[hW];exact(UV _ _).alloc (UU _) _
 have g1:ik V1 w.heap.size (.pointer (some ⟨D,0,none⟩)) 97:=by rw[e1];exact World.alloc_heap_new w _
 have g2:ik V2 (w.heap.size+1) (.int .i64 sn) 2:=by rw[e2,<-t1];exact World.alloc_heap_new V1 _
 have g3:ik V3 (w.heap.size+1+1) vU 49:=by rw[e3,<-t2];exact World.alloc_heap_new V2 _
 have g4:ik W (w.heap.size+1+1+1) (.map (some bK)) 107:=by rw[hW,<-t3];exact World.alloc_heap_new V3 _
 have f12:=f1.trans (f2.mono f1.size);have f13:=f12.trans (f3.mono f12.size);exact⟨⟨((g1.bel f2).bel f3).bel f4,(g2.bel f3).bel f4,g3.bel f4,g4⟩,f13.trans (f4.mono f13.size),by rw[hW,World.size_alloc,t3]⟩
theorem R9{β:Type}{b l:Nat}{X:af}:OwnFrom X.heap.size (fun(_:β) Y=>KpO b l X Y):=fun s Y Z row hs hg hr=>by
 have key:∀ (g:Nat) (o:Obj),X.heap[g]?=some o->Y.heap[g]?=some o->Z.heap[g]?=some o:=fun g o h1 h2=>(hg.block g (UZ.1 h2).1 fun e=>by
  have h3:=(hr g e.symm).1;have h4:=(UZ.1 h1).1;omega).trans h2
 exact⟨U0 hs.size hg.size,fun g cs T m h h1 h2=>key g _ h (hs.cells g cs T m h h1 h2),fun g o h hc n1 n2=>key g _ h (hs.other g o h hc n1 n2)⟩
structure FoW(w X:World)(v:Value)(out:Q04):Prop where
 bel:ae w X
 box:ik X w.heap.size v 40
 row:X.ownsRow (w.heap.size+1) 29 5 v out.length (aA out)
 map:aK jO prog 29 X (w.heap.size+1) out.length (wL out)
theorem FoW.below{w X X':af}{v:Value}{out:Q04}(h:FoW w X v out)(hb:ae X X'):FoW w X' v out :=
 ⟨h.bel.trans (hb.mono h.bel.size),h.box.bel hb,aY h.row hb,h.map.below hb⟩
theorem FoW.kept{w X X':af}{v:Value}{out:Q04}(h:FoW w X v out){row:Option Nat}(hg:X.grownBy X' row)(hr:∀r,row=some r->w.heap.size+1<r/\(∃o,X.heap[r]?=some o/\o.isCells=false)):FoW w X' v out where
 bel:=h.bel.grown hg h.bel.size (fun g e=>by have:=(hr g e).1;omega)
 box:=(hg.block _ (UZ.1 h.box).1 fun e=>by have:=(hr _ e.symm).1;omega).trans h.box
 row:=eB h.row fun g hg2=>hg.block g (h.row.lt g hg2).2 fun e=>by
  obtain⟨-,o,ho,hc⟩:=hr g e.symm;obtain⟨cur,e2⟩:=jN h.row hg2;rw[e2]at ho;cases ho;cases hc
 map:=h.map.kept hg (fun e=>by have:=(hr _ e.symm).1;omega)
theorem FoW.step{w X Y V:af}{v v':Value}{out:Q04}{f:Fc}[DecidableEq Fc](h:FoW w X v out)(hM:aK jO prog 29 Y (w.heap.size+1) (out.length+1) (lu (wL out) f (some (.agg #[]))))(hg1:X.grownBy Y (some (w.heap.size+1)))
  {Y':World} (hY':ae Y Y') (hown:V.ownsRow (w.heap.size+1) 29 5 v' (out.length+1) (aA out++f.row)) (hg2:Y'.grownBy V v.ownBlock) (hat:v'.ownBlock=v.ownBlock\/v'.ownBlock=some Y'.heap.size) (l:Nat) :
  FoW w (V.setCell ⟨w.heap.size,0,none⟩ v') v' (out++[f])/\KpO (w.heap.size+1) l X (V.setCell ⟨w.heap.size,0,none⟩ v')/\KeepsFrom (w.heap.size+1+1) X (V.setCell ⟨w.heap.size,0,none⟩ v'):=by
 obtain⟨es,c,hmb⟩:=pu h.map;have hlB:w.heap.size<X.heap.size:=(UZ.1 h.box).1;have hvB:v.ownBlock≠some w.heap.size:=fun e=>by have:=(h.row.lt _ e).1;omega
 have hvM:v.ownBlock≠some (w.heap.size+1):=fun e=>Fe h.row e hmb;have key:∀(g:Nat) (o:Obj),X.heap[g]?=some o->g≠w.heap.size+1->g≠w.heap.size->v.ownBlock≠some g->(V.setCell ⟨w.heap.size,0,none⟩ v').heap[g]?=some o:=fun g o hg n1 n2 n3=>by
  have hl:=(UZ.1 hg).1;have y1:Y.heap[g]?=some o:=(hg1.block g hl (fun e=>n1 (by injection e))).trans hg;have hl1:=(UZ.1 y1).1;have y2:Y'.heap[g]?=some o:=(hY'.block g hl1).trans y1;have hl2:=(UZ.1 y2).1;have y3:V.heap[g]?=some o:=(hg2.block g hl2 (fun e=>n3 e.symm)).trans y2;exact(heap_setCell_other V ⟨w.heap.size,0,none⟩ g v' n2).trans y3
 have hVB:V.heap[w.heap.size]?=some (.cells #[v] 40 (0,0)):=by
  have y1:Y.heap[w.heap.size]?=_:=(hg1.block _ hlB (fun e=>by injection e with e;omega)).trans h.box;have y2:Y'.heap[w.heap.size]?=_:=(hY'.block _ (UZ.1 y1).1).trans y1;exact(hg2.block _ (UZ.1 y2).1 (fun e=>hvB e.symm)).trans y2
 have b1:ae w Y:=h.bel.grown hg1 h.bel.size (fun g e=>by injection e with e;omega);have b2:ae w Y':=b1.trans (hY'.mono b1.size);have b3:ae w V:=b2.grown hg2 b2.size (fun g e=>by have:=(h.row.lt g e).1;omega);have sz:X.heap.size<=(V.setCell ⟨w.heap.size,0,none⟩ v').heap.size:=by
  have e1:=hg1.size;have e2:=hY'.size;have e3:=hg2.size;simp;omega
 refine⟨⟨b3.setCell (UU _) _,?_,?_,?_⟩,⟨sz,fun g cs T m hg h1 h2=>?_,fun g o hg hc n1 n2=>?_⟩,⟨sz,fun g o hB hg hc=>?_⟩⟩
 ·have:=heap_setCell_same V w.heap.size 0 #[v] _ v' hVB;unfold ik;simpa using this
 ·rw[ko,U2];exact eB hown fun g hg=>heap_setCell_other V ⟨w.heap.size,0,none⟩ g v' (fun(e:g=w.heap.size)=>by have:=(hown.lt g hg).1;omega)
 ·rw[U2,<-Lh];exact((hM.below hY').kept hg2 (fun e=>hvM e.symm)).setCell (by show w.heap.size+1≠w.heap.size;omega) _
 ·refine key g _ hg (fun e=>?_) (fun e=>?_) (fun e=>?_)
  ·rw[e,hmb]at hg;cases hg
  ·rw[e,h.box]at hg;injection hg with hg;injection hg with _ hT;exact h2 hT.symm
  obtain⟨cur,e2⟩:=jN h.row e;rw[e2]at hg;injection hg with hg;injection hg with _ hT;exact h1 hT.symm
 ·refine key g _ hg n2 (fun e=>?_) (fun e=>?_)
  ·rw[e,h.box]at hg;injection hg with hg;subst hg;cases hc
  obtain⟨cur,e2⟩:=jN h.row e;rw[e2]at hg;injection hg with hg;subst hg;cases hc
 refine key g _ hg (by omega) (by omega) (fun e=>?_);obtain⟨cur,e2⟩:=jN h.row e;rw[e2]at hg;injection hg with hg;subst hg;cases hc
theorem o8.dropF{w:af}{ad:Q02}{fs:Q04}(h:o8 w ad fs)(k:Nat):o8 w (Option.map (fun x=>Addr.add x (k*5)) ad) (fs.drop k):=by
 rcases h with h|⟨b,off,e,hb,hr⟩
 ·exact .inl (by rw[h];simp)
 have ea:Option.map (fun x=>Addr.add x (k*5)) ad=some ⟨b,off+k*5,none⟩:=by
  rw[e];simp[Addr.add]
 refine .inr ⟨b,off+k*5,ea,hb,fun i hi=>?_⟩;have hi2:k+i<fs.length:=by rw[VR]at hi;omega
 have h1:=hr (k+i) hi2;have e2:(fs.drop k)[i]=fs[k+i]:=by simp
 rw[e2];have e3:off+k*5+i*5=off+(k+i)*5:=by omega
 rw[e3];exact h1
theorem Lj{w:af}{base size n cap:Nat}{T:TypeId}{ad:Q02}{xs:Q03}(h:w.ownsRow base T size (.slice ad n cap) n xs):n<=cap:=by
 rcases h.2 with⟨e,h0⟩|⟨g,cap',cur,e,h1,h2,h3,h4,h5,-⟩
 ·omega
 injection e with _ _ e3;omega
theorem QD{Y Y1 Y2 V:af}{B:Nat}{v:Value}{T:TypeId}(h:ik Y B v T)(hg1:Y.grownBy Y1 (some (B+1)))(hY2:ae Y1 Y2)(hg2:Y2.grownBy V v.ownBlock)(hv:v.ownBlock≠some B):ik V B v T:=by
 have y1:Y1.heap[B]?=_:=(hg1.block _ (UZ.1 h).1 (fun e=>by injection e with e;omega)).trans h;have y2:Y2.heap[B]?=_:=(hY2.block _ (UZ.1 y1).1).trans y1;exact(hg2.block _ (UZ.1 y2).1 (fun e=>hv e.symm)).trans y2
theorem QE{B B':Nat}{W W':af}(h:KeepsFrom B W W')(hB:B<=B'):KeepsFrom B' W W':=⟨h.size,fun k o hk h1 h2=>h.same k o (U0 hB hk) h1 h2⟩
theorem KpO.after{b l l':Nat}{X Y Z:af}(h:KpO b l X Y)(k:KpO b l' Y Z)(hl:X.heap.size<=l'):KpO b l X Z :=
 ⟨U0 h.size k.size,fun g cs T m hg h1 h2=>k.cells g cs T m (h.cells g cs T m hg h1 h2) h1 h2,fun g o hg hc h1 h2=>k.other g o (h.other g o hg hc h1 h2) hc (fun e=>by have:=(UZ.1 hg).1;omega) h2⟩
end Go.Proofs.YtajkkeikihhejaaGreat
