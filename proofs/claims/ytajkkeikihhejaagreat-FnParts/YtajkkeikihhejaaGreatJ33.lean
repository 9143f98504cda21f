/- The iterator over what is asked at a stratum. -/
import Derived.Test.YtajkkeikihhejaaGreatSq
import Derived.Test.YtajkkeikihhejaaGreatJ22
import Derived.Test.YtajkkeikihhejaaGreatJ32
import Derived.RangeFuncLeaves
import Derived.OwnWalkIn
import Derived.TacticsInMore
import Derived.LoopNIn
import Derived.LoopIn
import Derived.Laws.EntriesVeiled
open Go.Proofs.Tryz
set_option maxHeartbeats 80000000
namespace Go.Proofs.YtajkkeikihhejaaGreat
set_option linter.unusedVariables false
set_option maxRecDepth 100000
open Go.ChangeShapes Go.WideShapes Go.ChangeAt Go.RowKit Go.Maps Go.Shelf
open Pl
attribute [local go_sem] Oper.semAt_some
structure InM (W:World)(D br nr:Nat)(Mr:KL->Option Value)(Er:List (KL×RR))(Wv:Option Addr)(Wh:Nat)(xo:List Al)(gD gS gU:Nat)(sn:Int)(VH:Option Addr)(U0:Nat)(us:List Al):Prop where
 d2:W.cell? ⟨D,2,none⟩=some (.map (some br))
 d4:W.cell? ⟨D,4,none⟩=some (.slice Wv xo.length Wh)
 objs:jM W Wv xo
 rel:EL W br nr Mr Er
 bD:W.cell? ⟨gD,0,none⟩=some (.pointer (some ⟨D,0,none⟩))
 bS:W.cell? ⟨gS,0,none⟩=some (.int .i64 sn)
 bU:W.cell? ⟨gU,0,none⟩=some (.slice VH us.length U0)
 users:jM W VH us
def DJ (x:Fc):Array Value:=#[.agg #[.string x.a,.string x.b,.string x.r,.string x.c,.string x.d]]
theorem Bp:∀ (rs:List RR) (i:Nat) (h:i<rs.length) (j:Nat),j<2->(G.flatG QT rs)[i*2+j]?=(QT rs[i])[j]?
 | [],i,h,_,_=>by simp at h
 | r::rs,0,_,j,hj=>by
  simp only [G.flatG,List.flatMap_cons,Nat.zero_mul,Uz,List.getElem_cons_zero];rw [List.getElem?_append_left (by simp [QT];omega)]
 | r::rs,i+1,h,j,hj=>by
  have ih:=Bp rs i (by simpa using h) j hj;simp only [G.flatG,List.flatMap_cons,List.getElem_cons_succ]at ih ⊢;rw [List.getElem?_append_right (by simp [QT];omega)];have:(i+1)*2+j-(QT r).length=i*2+j:=by simp [QT];omega
  rw [this];exact ih
theorem KD {W:af}{br nr:Nat}{Mr:KL->Option Value}{Er:List (KL×RR)}(h:EL W br nr Mr Er)(k:KL):∃ ad cap,(Mr k).getD (.slice none 0 0)=.slice ad (G.lookL Er k).length cap/\(∀ i (hi:i<(G.lookL Er k).length),∃ g,ad=some ⟨g,0,none⟩/\g<W.heap.size/\W.cell? ⟨g,i*2,none⟩=some (.string (G.lookL Er k)[i].name)/\W.cell? ⟨g,i*2+1,none⟩=some (G.lookL Er k)[i].sl):=by
 have ho:=Dr h k;rcases ho.2 with ⟨e,h0⟩|⟨g,cap,cur,e,hbg,hg,hnc,-⟩
 ·exact ⟨none,0,by rw [e,h0],fun i hi=>by omega⟩
 refine ⟨_,cap,e,fun i hi=>⟨g,rfl,(ho.lt g (by rw [e];rfl)).2,?_,?_⟩⟩
 ·rw [e]at ho;rw [ho.cellAt (i*2) (by omega)];exact Bp _ i hi 0 (by omega)
 rw [e]at ho;rw [ho.cellAt (i*2+1) (by omega)];exact Bp _ i hi 1 (by omega)
def EX (W:World)(g:Nat)(o:Al):Prop:=W.heap[g]?=some (.cells #[.string o.t,.string o.s] 27 (0,0))
def G9 (W:World)(g:Nat)(r:RR):Prop:=W.heap[g]?=some (.cells #[.string r.name,r.sl] 147 (0,0))
theorem EX.c {W:af}{g:Nat}{o:Al}(h:EX W g o):W.cell? ⟨g,0,none⟩=some (.string o.t)/\W.cell? ⟨g,1,none⟩=some (.string o.s)/\g<W.heap.size:=by
 have hl:=(Array.getElem?_eq_some_iff.1 h).1;unfold EX at h;exact ⟨by simp [World.cell?,h],by simp [World.cell?,h],hl⟩
theorem G9.c {W:af}{g:Nat}{r:RR}(h:G9 W g r):W.cell? ⟨g,0,none⟩=some (.string r.name)/\W.cell? ⟨g,1,none⟩=some r.sl/\g<W.heap.size:=by
 have hl:=(Array.getElem?_eq_some_iff.1 h).1;unfold G9 at h;exact ⟨by simp [World.cell?,h],by simp [World.cell?,h],hl⟩
theorem EX.kp {W W':af}{g:Nat}{o:Al}(h:EX W g o)(hk:KpI W W'):EX W' g o:=hk.cells g _ _ _ h (.inl rfl)
theorem G9.kp {W W':af}{g:Nat}{r:RR}(h:G9 W g r)(hk:KpI W W'):G9 W' g r:=hk.cells g _ _ _ h (.inr rfl)
def iQ (rs:List TR)(st:ByteArray×ByteArray->Int)(us:List Al)(sn:Int)(xo:List Al)(q:Nat):List Fc:=(xo.take q).flatMap (vC (ae rs) st us sn)
def kQ (R:List RR)(us:List Al)(o:Al)(k:Nat):List Fc:=(R.take k).flatMap fun r=>jc o r.name us
theorem Re {rs:List TR}{st:ByteArray×ByteArray->Int}{us:List Al}{sn:Int}{xo:List Al}{q:Nat}(h:q<xo.length):iQ rs st us sn xo (q+1)=iQ rs st us sn xo q++kQ (G.lookL (eY st rs) (xo[q].t,sn)) us xo[q] (G.lookL (eY st rs) (xo[q].t,sn)).length:=by
 unfold iQ kQ;rw [Uh h,List.flatMap_append,Us];congr 1;simp only [List.flatMap_cons,List.flatMap_nil,List.append_nil];unfold vC;rw [GR,List.flatMap_map]
theorem Rf {R:List RR}{us:List Al}{o:Al}{k:Nat}(h:k<R.length):kQ R us o (k+1)=kQ R us o k++jc o R[k].name us:=by
 unfold kQ;rw [Uh h,List.flatMap_append];simp
theorem MP (o:Al)(rel:bI){xu:List Al}{j:Nat}(h:j<xu.length):jc o rel (xu.take (j+1))=jc o rel (xu.take j)++[⟨o.t,o.s,rel,xu[j].t,xu[j].s⟩]:=by
 unfold jc;rw [Uh h,List.map_append];rfl
theorem MQ {rs:List TR}{st:ByteArray×ByteArray->Int}{xo us:List Al}{sn:Int}{o:Al}{r:RR}{u:Al}(ho:o∈xo)(hr:r∈G.lookL (eY st rs) (o.t,sn))(hu:u∈us):(⟨o.t,o.s,r.name,u.t,u.s⟩:Fc)∈bZ (ae rs) st xo us sn:=by
 unfold bZ vC;refine Ut.2 ⟨o,ho,Ut.2 ⟨(o.t,r.name),?_,Ur.2 ⟨u,hu,rfl⟩⟩⟩;rw [GR];exact Ur.2 ⟨r,hr,rfl⟩
theorem PV (n:Nat)(hn:1<=n)(D br nr:Nat)(Mr:KL->Option Value)(st:ByteArray×ByteArray->Int)(rs:List TR)(Wv:Option Addr)(Wh:Nat)(xo:List Al)(gD gS gU:Nat)(sn:Int)(VH:Option Addr)(U0:Nat)(us:List Al)(w0:af)(hs0:0<=sn)(hs1:sn<=1000)(hol:xo.length<=1000)(Yo:us.length<=1000)(hrl:∀ k,(G.lookL (eY st rs) k).length<=1000)(hof:∀ o∈xo,o.t.size<=maxLen) :
  Ea Fence.wide n prog 199 #[.pointer (some ⟨gD,0,none⟩),.pointer (some ⟨gS,0,none⟩),.pointer (some ⟨gU,0,none⟩)] DJ (fun _=>KpI) (fun _ W=>InM W D br nr Mr (eY st rs) Wv Wh xo gD gS gU sn VH U0 us) (fun _ x=>x∈bZ (ae rs) st xo us sn) (fun xs=>xs=bZ (ae rs) st xo us sn) w0:=by
 intro l J W _ _ _ hJ hT hY h0;have HJ:=aD hJ;have HT:=aD hT;have HY:=aD hY;have H0:=aD h0;have HOF:=aD hof;have hM:=hT _ _ h0;have YS:=aD hrl;have bD:=hM.bD;have d4:=hM.d4;have lD:=aG bD;have lDD:=aG d4;clear hJ hT hY h0 hof hM hrl;refine callsIn_of_wp func199 rfl trivial ?_ rfl;simp only [ntmps199,List.size_toArray,List.length_cons,List.length_nil,Nat.reduceAdd,Nat.reduceSub,Array.replicate_succ,Array.replicate_zero,List.push_toArray,List.append_toArray,List.nil_append,List.cons_append];gi_wp2;clear bD d4 lD lDD
 gi_loopw [16] (fun i wr=>∃ q:Nat,q<=xo.length/\i=.int .i64 q/\Hid (J (iQ rs st us sn xo q) wr)) (fun i _=>xo.length-(intOf i).toNat)
 case atStart=>exact ⟨0,Ui _,rfl,H0⟩
 clear H0;obtain ⟨q,hq,rfl,HJ1⟩:=hrel;by_cases hlq:q<xo.length
 ·have hM:=HT.out _ _ HJ1.out;obtain ⟨bO,Vp,XX,⟨o0,o1⟩,hbO⟩:=jM.at0 hM.objs hlq;have HSQ:=aD (Re (rs:=rs) (st:=st) (us:=us) (sn:=sn) hlq);have HOS:=aD (HOF.out _ (Ud hlq));have HOM:Hid (xo[q]∈xo):=Ud hlq;obtain ⟨o,ho⟩:∃ o,o=xo[q]:=⟨_,rfl⟩;rw [<-ho]at o0 o1 HSQ HOS HOM;clear ho;have hq1:=bF q;have hq2:(q:Int)<(xo.length:Int):=by omega
  obtain ⟨W1,hW1⟩:∃ W1,W1=wr.alloc (.cells #[.string o.t,.string o.s] 27):=⟨_,rfl⟩;have HB1:=rV hW1;have HJ2:=aD (mZ HJ.out HJ1.out HB1.out);have Vg:Hid (EX W1 wr.heap.size o):=by rw [hW1];exact World.alloc_heap_new wr _
  have hM2:=HT.out _ _ HJ2.out;have bD:=hM2.bD;have bS:=hM2.bS;have d2:=hM2.d2;obtain ⟨c0,c1,cl⟩:=Vg.out.c;obtain ⟨Wy,V6,hgd,-⟩:=KD hM2.rel (o.t,sn);obtain ⟨kl,hkl⟩:=Ke (o.t,sn) HOS.out hs0 (by show sn<=_;omega);obtain ⟨R,hR⟩:∃ R,R=G.lookL (eY st rs) (o.t,sn):=⟨_,rfl⟩;have hRl:R.length<=1000:=by rw [hR];exact YS.out _
  rw [<-hR]at hgd HSQ;have HRE:=aD hR;have HGD:=aD hgd;have hlk:∀ m,(Instr.lookup 165 (.map (some br)) (.agg #[.string o.t,.int .i64 sn]) false).run prog (W1.drewN m)=.ok (.slice Wy R.length V6) (W1.drewN m):=fun m=>by
   have h:=(hM2.rel.map.below (below_drewN (Uf _ _) m)).look (t:=165) (e:=125) TE underlying165 (Pt _) (x:=(o.t,sn)) hkl;rw [hgd]at h;exact h
  subst XX;clear hM hM2 hR hgd hkl;gi_wp2;rw [<-hW1];clear hW1;refine wpIn_wide.2 ?_;go_quiet (fail);obtain ⟨W2,hW2⟩:∃ W2,W2=W1.drewN nq:=⟨_,rfl⟩;have HB2:Hid (ag W1 W2):=by show Below _ _ _;rw [hW2];exact below_drewN (Uf _ _) _
  have HJ3:=aD (mZ HJ.out HJ2.out HB2.out);have HBX2:=aD (Vg.out.kp (KpI.below HB2.out));obtain ⟨gO,hgO⟩:∃ g,g=wr.heap.size:=⟨_,rfl⟩;rw [<-hgO]at HBX2 ⊢;rw [<-hW2];clear hW2 hgO c0 c1 cl bD bS d2 hlk HB1 HJ2 Vg HJ1 o0 o1 hbO;gi_wp2
  gi_loopw [30] (fun i w2=>∃ k:Nat,k<=R.length/\i=.int .i64 k/\Hid (J (iQ rs st us sn xo q++kQ R us o k) w2)/\Hid (EX w2 gO o)) (fun i _=>R.length-(intOf i).toNat)
  case atStart=>exact ⟨0,Ui _,rfl,by show J (_++[]) _;rw [List.append_nil];exact HJ3.out,HBX2⟩
  clear HJ3 HBX2 HB2;obtain ⟨k,hk,rfl,HJ4,Vg⟩:=hrel;by_cases hlk:k<R.length
  ·have hM:=HT.out _ _ HJ4.out;obtain ⟨adR',capR',hgd',hrows⟩:=KD hM.rel (o.t,sn);rw [<-HRE.out,HGD.out]at hgd';injection hgd' with ea eb ec;subst ea;clear eb ec;obtain ⟨gq,hadR,hgl,r0,r1⟩:=hrows k (by rw [<-HRE.out];exact hlk);have HKS:=aD (Rf (us:=us) (o:=o) hlk);have hrr:(G.lookL (eY st rs) (o.t,sn))[k]'(by rw [<-HRE.out];exact hlk)=R[k]:=by simp only [HRE.out]
   rw [hrr]at r0 r1;have HRM:Hid (R[k]∈R):=Ud hlk;obtain ⟨r,hr⟩:∃ r,r=R[k]:=⟨_,rfl⟩;rw [<-hr]at r0 r1 HKS HRM;have hk1:=bF k;have hk2:(k:Int)<(R.length:Int):=by omega
   obtain ⟨W3,hW3⟩:∃ W3,W3=wr.alloc (.cells #[.string r.name,r.sl] 147):=⟨_,rfl⟩;have HB3:=rV hW3;have HJ5:=aD (mZ HJ.out HJ4.out HB3.out);have XL:=aD (Vg.out.kp (KpI.below HB3.out));have VZ:Hid (G9 W3 wr.heap.size r):=by rw [hW3];exact World.alloc_heap_new wr _
   have hM3:=HT.out _ _ HJ5.out;have bU:=hM3.bU;have lU:=aG bU;have bU0:=hM.bU;have lU0:=aG bU0;unfold RR.sl at r1 hW3;obtain ⟨gR,hgR⟩:∃ g,g=wr.heap.size:=⟨_,rfl⟩;subst hadR;clear hM hM3 hr hrr hrows;gi_wp2;rw [<-hW3,<-hgR];rw [<-hgR]at VZ;clear hW3 hgR bU lU bU0 lU0 r0 r1 hgl HB3 HJ4 Vg
   gi_loopw [36] (fun i w2=>∃ j:Nat,j<=us.length/\i=.int .i64 j/\Hid (J (iQ rs st us sn xo q++kQ R us o k++jc o r.name (us.take j)) w2)/\Hid (EX w2 gO o)/\Hid (G9 w2 gR r)) (fun i _=>us.length-(intOf i).toNat)
   case atStart=>exact ⟨0,Ui _,rfl,by show J (_++[]) _;rw [List.append_nil];exact HJ5.out,XL,VZ⟩
   clear HJ5 XL VZ;obtain ⟨j,hj,rfl,HJ6,XL,VZ⟩:=hrel;by_cases hlj:j<us.length
   ·have hM:=HT.out _ _ HJ6.out;obtain ⟨bV,offV,hadU,⟨y0,y1⟩,hbV⟩:=jM.at0 hM.users hlj;have HAS:=aD (MP o r.name hlj);obtain ⟨u,hu⟩:∃ u,u=us[j]:=⟨_,rfl⟩;rw [<-hu]at y0 y1 HAS;have hj1:=bF j;have hj2:(j:Int)<(us.length:Int):=by omega
    obtain ⟨W4,Wi⟩:∃ W4,W4=wr.alloc (.cells #[.string u.t,.string u.s] 27):=⟨_,rfl⟩;have Vx:=rV Wi;have HJ7:=mZ HJ.out HJ6.out Vx.out;have Xu:=aD (XL.out.kp (KpI.below Vx.out));have HBR2:=aD (VZ.out.kp (KpI.below Vx.out));obtain ⟨fn,tmps,assign,body,hy,hR⟩:=HY.out _ ⟨o.t,o.s,r.name,u.t,u.s⟩ W4 HJ7 (MQ HOM.out (by rw [<-HRE.out];exact HRM.out) (by rw [hu];exact Ud hlj));obtain ⟨c0,c1,cl⟩:=XL.out.c;obtain ⟨e0,e1,el⟩:=VZ.out.c;have HRR:=aD hR;unfold DJ at hy;subst hadU;subst Wi;clear hM hu HJ7 hR;gi_wp2;refine HRR.out.mono ?_;rintro e W5 ⟨rfl,hJ8,hK8⟩;have HJ8:Hid (J (iQ rs st us sn xo q++kQ R us o k++jc o r.name (us.take (j+1))) W5):=by show J _ _;rw [HAS.out,<-List.append_assoc];exact hJ8
    have HBO3:=aD (Xu.out.kp hK8);have HBR3:=aD (HBR2.out.kp hK8);clear hJ8 hK8 hy y0 y1 c0 c1 cl e0 e1 el;gi_wp2;go_roundw;case rel=>exact ⟨j+1,by omega,by go_num,HJ8,HBO3,HBR3⟩
    simp [intOf] <;> omega
   have HJ7:Hid (J (iQ rs st us sn xo q++kQ R us o (k+1)) wr):=by
    have h1:=HJ6.out;rw [List.take_of_length_le (by omega),List.append_assoc,<-HKS.out]at h1;exact h1
   gi_wp2;go_roundw;case rel=>exact ⟨k+1,by omega,by go_num,HJ7,XL⟩
   simp [intOf] <;> omega
  have HE2:Hid (iQ rs st us sn xo q++kQ R us o k=iQ rs st us sn xo (q+1)):=by show _=_;rw [HSQ.out,show k=R.length by omega]
  have HJ5:Hid (J (iQ rs st us sn xo (q+1)) wr):=by show J _ _;rw [<-HE2.out];exact HJ4.out
  gi_wp2;go_roundw;case rel=>exact ⟨q+1,by omega,by go_num,HJ5⟩
  simp [intOf] <;> omega
 have HE:Hid (iQ rs st us sn xo q=bZ (ae rs) st xo us sn):=by show _=_;unfold iQ bZ;rw [List.take_of_length_le (by omega)]
 have HJ2:Hid (J (bZ (ae rs) st xo us sn) wr):=by show J _ _;rw [<-HE.out];exact HJ1.out
 gi_wp2
 go_end0
 exact ⟨⟨_,rfl⟩,_,rfl,HJ2.out⟩
end Go.Proofs.YtajkkeikihhejaaGreat
namespace Go.Proofs.YtajkkeikihhejaaGreat
set_option linter.unusedVariables false
set_option maxRecDepth 100000
open Go.ChangeShapes Go.WideShapes Go.ChangeAt Go.RowKit Go.Maps
open Pl
section
variable  {w:World}{rs:List TR}{D br bp bt bK nK:Nat}{n1:Int}{nr:Nat}{Mr:KL->Option Value}{Er:List (KL×RR)}{ts:List Tp}{xo xu:List Al}{np:Nat}{Mp:K3->Option Value}{vo vu:Value}{out:List Fc}{f:Fc}{UO:Option Addr}{capE:Nat}{rows:List ER}{n:Nat}
theorem MR (hn:n<rows.length)(hD:DatA w rs D br bp bt n1 nr Mr Er (dM ts) xo xu np Mp vo vu)(hK:aO oF prog 29 w bK nK (BQ out))(hf:f.fits)(hts:∀ t∈ts,t.fits)(htl:ts.length<=1000)(hex:iC w UO rows)(hre:rows.length<=1000)(hk:rows[n].e.kind=1) :
  Calls prog 167 #[.pointer (some ⟨D,0,none⟩),.slice UO rows.length capE,.int .i64 (n:Int),.agg #[.string f.a,.string f.b,.string f.r,.string f.c,.string f.d],.map (some bK)] w fun e w'=>e=.returned (.bool (eB ts out f))/\ag w w':=by
 obtain ⟨b,off,UT,⟨t0,t1,t2,t3,t4⟩,hbl,hok⟩:=iC.at0 hex hn;obtain ⟨W0,hW0⟩:∃ W0,W0=Hy w D (.slice UO rows.length capE) f bK rows[n]:=⟨_,rfl⟩;have HB0:Hid (ag w W0):=by show Below _ _ _;rw [hW0];exact lH _ _ _ _ _ _
 have YM:Hid (NdB W0 w.heap.size D (.slice UO rows.length capE) f bK rows[n]):=by show NdB _ _ _ _ _ _ _;rw [hW0];exact lI _ _ _ _ _ _
 have hk1:(rows[n].e.kind==1)=true:=by rw [hk];rfl
 have ZP:b<w.heap.size+1:=by omega
 have ZQ:b<w.heap.size+1+1:=by omega
 have Y3:b<w.heap.size+1+1+1:=by omega
 have hn1:=bF n;have hn2:(n:Int)<(rows.length:Int):=by omega
 unfold Hy yD at hW0;have HC:=aD (BR (hD.below HB0.out) (hK.below HB0.out) hf hts htl);clear hD hK hts hex hk hok;subst UT;go_enter func167,ntmps167;go_wp2_with fail;rw [<-hW0];clear hW0 t0 t1 t2 t3 t4;refine (HC.out).mono ?_;rintro e w1 ⟨rfl,hb1⟩;have HB1:=aD (HB0.out.trans (hb1.mono HB0.out.size));clear hb1;go_wp2;go_ret;exact ⟨rfl,HB1.out⟩
theorem PW (hn:n<rows.length)(hK:aO oF prog 29 w bK nK (BQ out))(hf:f.fits)(hnm:rows[n].e.name.size<=maxLen)(hex:iC w UO rows)(hre:rows.length<=1000)(hk:rows[n].e.kind=2) :
  Calls prog 167 #[.pointer (some ⟨D,0,none⟩),.slice UO rows.length capE,.int .i64 (n:Int),.agg #[.string f.a,.string f.b,.string f.r,.string f.c,.string f.d],.map (some bK)] w fun e w'=>e=.returned (.bool (bn out ⟨f.a,f.b,rows[n].e.name,f.c,f.d⟩))/\ag w w':=by
 obtain ⟨b,off,UT,⟨t0,t1,t2,t3,t4⟩,hbl,hok⟩:=iC.at0 hex hn;obtain ⟨W0,hW0⟩:∃ W0,W0=Hy w D (.slice UO rows.length capE) f bK rows[n]:=⟨_,rfl⟩;have HB0:Hid (ag w W0):=by show Below _ _ _;rw [hW0];exact lH _ _ _ _ _ _
 have YM:Hid (NdB W0 w.heap.size D (.slice UO rows.length capE) f bK rows[n]):=by show NdB _ _ _ _ _ _ _;rw [hW0];exact lI _ _ _ _ _ _
 have hk1:(rows[n].e.kind==1)=false:=by rw [hk];rfl
 have hk2:(rows[n].e.kind==2)=true:=by rw [hk];rfl
 have ZP:b<w.heap.size+1:=by omega
 have ZQ:b<w.heap.size+1+1:=by omega
 have Y3:b<w.heap.size+1+1+1:=by omega
 have hn1:=bF n;have hn2:(n:Int)<(rows.length:Int):=by omega
 unfold Hy yD at hW0;have HC:=aD (vZ bK nK out ⟨f.a,f.b,rows[n].e.name,f.c,f.d⟩ W0 ⟨hf.1,hf.2.1,hnm,hf.2.2.2.1,hf.2.2.2.2⟩ (hK.below HB0.out));clear hK hex hk hok hf;subst UT;go_enter func167,ntmps167;go_wp2_with fail;rw [<-hW0];clear hW0 t0 t1 t2 t3 t4;refine (HC.out).mono ?_;rintro e w1 ⟨rfl,hb1⟩;have HB1:=aD (HB0.out.trans (hb1.mono HB0.out.size));clear hb1;go_wp2;go_ret;exact ⟨rfl,HB1.out⟩
theorem MS (hn:n<rows.length)(hD:DatA w rs D br bp bt n1 nr Mr Er (dM ts) xo xu np Mp vo vu)(hK:aO oF prog 29 w bK nK (BQ out))(hf:f.fits)(Y0:rows[n].e.over.size<=maxLen/\rows[n].e.name.size<=maxLen)(hts:∀ t∈ts,t.fits)(htl:ts.length<=1000)(hex:iC w UO rows)(hre:rows.length<=1000)(hk:rows[n].e.kind=3) :
  Calls prog 167 #[.pointer (some ⟨D,0,none⟩),.slice UO rows.length capE,.int .i64 (n:Int),.agg #[.string f.a,.string f.b,.string f.r,.string f.c,.string f.d],.map (some bK)] w fun e w'=>e=.returned (.bool (fU ts out rows[n].e.over rows[n].e.name f))/\ag w w':=by
 obtain ⟨b,off,UT,⟨t0,t1,t2,t3,t4⟩,hbl,hok⟩:=iC.at0 hex hn;obtain ⟨W0,hW0⟩:∃ W0,W0=Hy w D (.slice UO rows.length capE) f bK rows[n]:=⟨_,rfl⟩;have HB0:Hid (ag w W0):=by show Below _ _ _;rw [hW0];exact lH _ _ _ _ _ _
 have YM:Hid (NdB W0 w.heap.size D (.slice UO rows.length capE) f bK rows[n]):=by show NdB _ _ _ _ _ _ _;rw [hW0];exact lI _ _ _ _ _ _
 have hk1:(rows[n].e.kind==1)=false:=by rw [hk];rfl
 have hk2:(rows[n].e.kind==2)=false:=by rw [hk];rfl
 have hk3:(rows[n].e.kind==3)=true:=by rw [hk];rfl
 have ZP:b<w.heap.size+1:=by omega
 have ZQ:b<w.heap.size+1+1:=by omega
 have Y3:b<w.heap.size+1+1+1:=by omega
 have hn1:=bF n;have hn2:(n:Int)<(rows.length:Int):=by omega
 unfold Hy yD at hW0;have HC:=aD (BS (hD.below HB0.out) (hK.below HB0.out) rows[n] Y0 hf hts htl);clear hD hK hts hex hk hok Y0 hf;subst UT;go_enter func167,ntmps167;go_wp2_with fail;rw [<-hW0];clear hW0 t0 t1 t2 t3 t4;refine (HC.out).mono ?_;rintro e w1 ⟨rfl,hb1⟩;have HB1:=aD (HB0.out.trans (hb1.mono HB0.out.size));clear hb1;go_wp2;go_ret;exact ⟨rfl,HB1.out⟩
theorem JU (hn:n<rows.length)(H:Int->Bool)(hkl:rows[n].e.kids.length<=1000)(ZM:∀ i∈rows[n].e.kids,JR D (.slice UO rows.length capE) f bK w i (H i))(hex:iC w UO rows)(hre:rows.length<=1000)(hk:rows[n].e.kind=4) :
  Calls prog 167 #[.pointer (some ⟨D,0,none⟩),.slice UO rows.length capE,.int .i64 (n:Int),.agg #[.string f.a,.string f.b,.string f.r,.string f.c,.string f.d],.map (some bK)] w fun e w'=>e=.returned (.bool (rows[n].e.kids.any H))/\ag w w':=by
 obtain ⟨b,off,UT,⟨t0,t1,t2,t3,t4⟩,hbl,hok⟩:=iC.at0 hex hn;obtain ⟨W0,hW0⟩:∃ W0,W0=Hy w D (.slice UO rows.length capE) f bK rows[n]:=⟨_,rfl⟩;have HB0:Hid (ag w W0):=by show Below _ _ _;rw [hW0];exact lH _ _ _ _ _ _
 have YM:Hid (NdB W0 w.heap.size D (.slice UO rows.length capE) f bK rows[n]):=by show NdB _ _ _ _ _ _ _;rw [hW0];exact lI _ _ _ _ _ _
 have hk1:(rows[n].e.kind==1)=false:=by rw [hk];rfl
 have hk2:(rows[n].e.kind==2)=false:=by rw [hk];rfl
 have hk3:(rows[n].e.kind==3)=false:=by rw [hk];rfl
 have hk4:(rows[n].e.kind==4)=true:=by rw [hk];rfl
 have ZP:b<w.heap.size+1:=by omega
 have ZQ:b<w.heap.size+1+1:=by omega
 have Y3:b<w.heap.size+1+1+1:=by omega
 have hn1:=bF n;have hn2:(n:Int)<(rows.length:Int):=by omega
 unfold Hy yD at hW0;have HC:=aD (sI 211 #[] #[.pointer (some ⟨w.heap.size,0,none⟩),.pointer (some ⟨w.heap.size+1,0,none⟩),.pointer (some ⟨w.heap.size+1+1,0,none⟩),.pointer (some ⟨w.heap.size+1+1+1,0,none⟩)] H rows[n].adK rows[n].capK rows[n].e.kids W0 (by omega) (hok.2.below HB0.out) SY (fun i hi w1 hb=>pK (ZM i hi) (HB0.out.trans (hb.mono HB0.out.size)) (YM.out.below hb)));clear ZM hex hk hok;subst UT;go_enter func167,ntmps167;go_wp2_with fail;rw [<-hW0];clear hW0 t0 t1 t2 t3 t4;refine (HC.out).mono ?_;rintro e w1 ⟨rfl,hb1⟩;have HB1:=aD (HB0.out.trans (hb1.mono HB0.out.size));clear hb1;go_wp2;go_ret;exact ⟨rfl,HB1.out⟩
theorem MU (hn:n<rows.length)(H:Int->Bool)(hkl:rows[n].e.kids.length<=1000)(ZM:∀ i∈rows[n].e.kids,JR D (.slice UO rows.length capE) f bK w i (H i))(hex:iC w UO rows)(hre:rows.length<=1000)(hk:rows[n].e.kind=5) :
  Calls prog 167 #[.pointer (some ⟨D,0,none⟩),.slice UO rows.length capE,.int .i64 (n:Int),.agg #[.string f.a,.string f.b,.string f.r,.string f.c,.string f.d],.map (some bK)] w fun e w'=>e=.returned (.bool (rows[n].e.kids.all H))/\ag w w':=by
 obtain ⟨b,off,UT,⟨t0,t1,t2,t3,t4⟩,hbl,hok⟩:=iC.at0 hex hn;obtain ⟨W0,hW0⟩:∃ W0,W0=Hy w D (.slice UO rows.length capE) f bK rows[n]:=⟨_,rfl⟩;have HB0:Hid (ag w W0):=by show Below _ _ _;rw [hW0];exact lH _ _ _ _ _ _
 have YM:Hid (NdB W0 w.heap.size D (.slice UO rows.length capE) f bK rows[n]):=by show NdB _ _ _ _ _ _ _;rw [hW0];exact lI _ _ _ _ _ _
 have hk1:(rows[n].e.kind==1)=false:=by rw [hk];rfl
 have hk2:(rows[n].e.kind==2)=false:=by rw [hk];rfl
 have hk3:(rows[n].e.kind==3)=false:=by rw [hk];rfl
 have hk4:(rows[n].e.kind==4)=false:=by rw [hk];rfl
 have hk5:(rows[n].e.kind==5)=true:=by rw [hk];rfl
 have ZP:b<w.heap.size+1:=by omega
 have ZQ:b<w.heap.size+1+1:=by omega
 have Y3:b<w.heap.size+1+1+1:=by omega
 have hn1:=bF n;have hn2:(n:Int)<(rows.length:Int):=by omega
 unfold Hy yD at hW0;have HC:=aD (sI 212 #[] #[.pointer (some ⟨w.heap.size+1+1+1+1+1,0,none⟩)] (fun i=>!H i) rows[n].adK rows[n].capK rows[n].e.kids W0 (by omega) (hok.2.below HB0.out) S9 (fun i hi w1 hb=>wh (ZM i hi) (HB0.out.trans (hb.mono HB0.out.size)) (YM.out.below hb)));have U2:Hid ((rows[n].e.kids.any fun i=>!H i)=!rows[n].e.kids.all H):=by show _=_;rw [List.not_all_eq_any_not]
 clear ZM hex hk hok;subst UT;go_enter func167,ntmps167;go_wp2_with fail;rw [<-hW0];clear hW0 t0 t1 t2 t3 t4;refine (HC.out).mono ?_;rintro e w1 ⟨he,hb1⟩;rw [U2.out]at he;subst he;have HB1:=aD (HB0.out.trans (hb1.mono HB0.out.size));clear hb1;go_wp2;go_ret;exact ⟨by simp,HB1.out⟩
end
end Go.Proofs.YtajkkeikihhejaaGreat
