/- The iterator over what is asked at a stratum. -/
import Derived.Test.YtajkkeikihhejaaGreatSq
import Derived.Test.YtajkkeikihhejaaGreatJ34
import Derived.RangeFuncLeaves
import Derived.OwnWalkIn
import Derived.TacticsInMore
import Derived.LoopNIn
import Derived.LoopIn
open Go.Proofs.Tryz
set_option maxHeartbeats 80000000
namespace Go.Proofs.YtajkkeikihhejaaGreat
set_option linter.unusedVariables false
set_option maxRecDepth 100000
open Go.ChangeShapes Go.WideShapes Go.ChangeAt Go.RowKit Go.Maps Go.Shelf
open Pl
attribute [local go_sem] Oper.semAt_some
structure InM (W:World) (D br nr:Nat) (Mr:KL→Option Value) (Er:List (KL × RR)) (Wj:Option Addr) (VW:Nat) (xo:List Al) (gD gS gU:Nat) (sn:Int) (Vt:Option Addr) (UM:Nat) (us:List Al):Prop where
 d2:W.cell? ⟨D,2,none⟩=some (.map (some br))
 d4:W.cell? ⟨D,4,none⟩=some (.slice Wj xo.length VW)
 objs:jM W Wj xo
 rel:ES W br nr Mr Er
 bD:W.cell? ⟨gD,0,none⟩=some (.pointer (some ⟨D,0,none⟩))
 bS:W.cell? ⟨gS,0,none⟩=some (.int .i64 sn)
 bU:W.cell? ⟨gU,0,none⟩=some (.slice Vt us.length UM)
 users:jM W Vt us
def DF (x:Fc):Array Value:=#[.agg #[.string x.a,.string x.b,.string x.r,.string x.c,.string x.d]]
theorem Bb:∀ (rs:List RR) (i:Nat) (h:i < rs.length) (j:Nat),j < 2→(G.flatG QM rs)[i * 2 + j]?=(QM rs[i])[j]?
 | [],i,h,_,_=>by simp at h
 | r::rs,0,_,j,hj=>by
  simp only [G.flatG,List.flatMap_cons,Nat.zero_mul,Um,List.getElem_cons_zero];rw [List.getElem?_append_left (by simp [QM]; omega)]
 | r::rs,i + 1,h,j,hj=>by
  have ih:=Bb rs i (by simpa using h) j hj;simp only [G.flatG,List.flatMap_cons,List.getElem_cons_succ] at ih ⊢;rw [List.getElem?_append_right (by simp [QM]; omega)];have:(i + 1) * 2 + j - (QM r).length=i * 2 + j:=by simp [QM]; omega
  rw [this]; exact ih
theorem Kv {W:af} {br nr:Nat} {Mr:KL→Option Value} {Er:List (KL × RR)} (h:ES W br nr Mr Er) (k:KL):∃ ad cap,(Mr k).getD (.slice none 0 0)=.slice ad (G.lookL Er k).length cap∧(∀ i (hi:i < (G.lookL Er k).length),∃ g,ad=some ⟨g,0,none⟩∧g < W.heap.size∧W.cell? ⟨g,i * 2,none⟩=some (.string (G.lookL Er k)[i].name)∧W.cell? ⟨g,i * 2 + 1,none⟩=some (G.lookL Er k)[i].sl):=by
 have ho:=Dx h k;rcases ho.2 with ⟨e,h0⟩ | ⟨g,cap,cur,e,hbg,hg,hnc,-⟩
 ·exact ⟨none,0,by rw [e,h0],fun i hi=>by omega⟩
 refine ⟨_,cap,e,fun i hi=>⟨g,rfl,(ho.lt g (by rw [e]; rfl)).2,?_,?_⟩⟩
 ·rw [e] at ho;rw [ho.cellAt (i * 2) (by omega)];exact Bb _ i hi 0 (by omega)
 rw [e] at ho;rw [ho.cellAt (i * 2 + 1) (by omega)];exact Bb _ i hi 1 (by omega)
def ET (W:World) (g:Nat) (o:Al):Prop:=W.heap[g]?=some (.cells #[.string o.t,.string o.s] 27 (0,0))
def GX (W:World) (g:Nat) (r:RR):Prop:=W.heap[g]?=some (.cells #[.string r.name,r.sl] 147 (0,0))
theorem ET.c {W:af} {g:Nat} {o:Al} (h:ET W g o):W.cell? ⟨g,0,none⟩=some (.string o.t)∧W.cell? ⟨g,1,none⟩=some (.string o.s)∧g < W.heap.size:=by
 have hl:=(Array.getElem?_eq_some_iff.1 h).1;unfold ET at h;exact ⟨by simp [World.cell?,h],by simp [World.cell?,h],hl⟩
theorem GX.c {W:af} {g:Nat} {r:RR} (h:GX W g r):W.cell? ⟨g,0,none⟩=some (.string r.name)∧W.cell? ⟨g,1,none⟩=some r.sl∧g < W.heap.size:=by
 have hl:=(Array.getElem?_eq_some_iff.1 h).1;unfold GX at h;exact ⟨by simp [World.cell?,h],by simp [World.cell?,h],hl⟩
theorem ET.kp {W W':af} {g:Nat} {o:Al} (h:ET W g o) (hk:KpI W W'):ET W' g o:=hk.cells g _ _ _ h (.inl rfl)
theorem GX.kp {W W':af} {g:Nat} {r:RR} (h:GX W g r) (hk:KpI W W'):GX W' g r:=hk.cells g _ _ _ h (.inr rfl)
def iQ (rs:List TR) (st:ByteArray × ByteArray→Int) (us:List Al) (sn:Int) (xo:List Al) (q:Nat):List Fc:=(xo.take q).flatMap (vD (ae rs) st us sn)
def kQ (R:List RR) (us:List Al) (o:Al) (k:Nat):List Fc:=(R.take k).flatMap fun r=>iZ o r.name us
theorem QR {rs:List TR} {st:ByteArray × ByteArray→Int} {us:List Al} {sn:Int} {xo:List Al} {q:Nat} (h:q < xo.length):iQ rs st us sn xo (q + 1)=iQ rs st us sn xo q ++ kQ (G.lookL (eY st rs) (xo[q].t,sn)) us xo[q] (G.lookL (eY st rs) (xo[q].t,sn)).length:=by
 unfold iQ kQ;rw [TV h,List.flatMap_append,Ug];congr 1;simp only [List.flatMap_cons,List.flatMap_nil,List.append_nil];unfold vD;rw [GK,List.flatMap_map]
theorem QS {R:List RR} {us:List Al} {o:Al} {k:Nat} (h:k < R.length):kQ R us o (k + 1)=kQ R us o k ++ iZ o R[k].name us:=by
 unfold kQ;rw [TV h,List.flatMap_append];simp
theorem MB (o:Al) (rel:bH) {xu:List Al} {j:Nat} (h:j < xu.length):iZ o rel (xu.take (j + 1))=iZ o rel (xu.take j) ++ [⟨o.t,o.s,rel,xu[j].t,xu[j].s⟩]:=by
 unfold iZ;rw [TV h,List.map_append]; rfl
theorem MC {rs:List TR} {st:ByteArray × ByteArray→Int} {xo us:List Al} {sn:Int} {o:Al} {r:RR} {u:Al} (ho:o ∈ xo) (hr:r ∈ G.lookL (eY st rs) (o.t,sn)) (hu:u ∈ us):(⟨o.t,o.s,r.name,u.t,u.s⟩:Fc) ∈ bY (ae rs) st xo us sn:=by
 unfold bY vD;refine Uf.2 ⟨o,ho,Uf.2 ⟨(o.t,r.name),?_,Ue.2 ⟨u,hu,rfl⟩⟩⟩;rw [GK];exact Ue.2 ⟨r,hr,rfl⟩
theorem PD (n:Nat) (hn:1≤n) (D br nr:Nat) (Mr:KL→Option Value) (st:ByteArray × ByteArray→Int) (rs:List TR) (Wj:Option Addr) (VW:Nat) (xo:List Al) (gD gS gU:Nat) (sn:Int) (Vt:Option Addr) (UM:Nat) (us:List Al) (w0:af) (hs0:0≤sn) (hs1:sn≤1000) (hol:xo.length≤1000) (Yd:us.length≤1000) (hrl:∀ k,(G.lookL (eY st rs) k).length≤1000) (hof:∀ o ∈ xo,o.t.size≤maxLen) :
  EM Fence.wide n prog 199 #[.pointer (some ⟨gD,0,none⟩),.pointer (some ⟨gS,0,none⟩),.pointer (some ⟨gU,0,none⟩)] DF (fun _=>KpI) (fun _ W=>InM W D br nr Mr (eY st rs) Wj VW xo gD gS gU sn Vt UM us) (fun _ x=>x ∈ bY (ae rs) st xo us sn) (fun xs=>xs=bY (ae rs) st xo us sn) w0:=by
 intro l J W _ _ _ hJ hT hY h0;have HJ:=aC hJ;have HT:=aC hT;have HY:=aC hY;have H0:=aC h0;have HOF:=aC hof;have hM:=hT _ _ h0;have YI:=aC hrl;have bD:=hM.bD;have d4:=hM.d4;have lD:=aF bD;have lDD:=aF d4;clear hJ hT hY h0 hof hM hrl;refine callsIn_of_wp func199 rfl trivial ?_ rfl;simp only [ntmps199,List.size_toArray,List.length_cons,List.length_nil,Nat.reduceAdd,Nat.reduceSub,Array.replicate_succ,Array.replicate_zero,List.push_toArray,List.append_toArray,List.nil_append,List.cons_append];gi_wp2;clear bD d4 lD lDD
 gi_loopw [16] (fun i wr=>∃ q:Nat,q≤xo.length∧i=.int .i64 q∧Hid (J (iQ rs st us sn xo q) wr)) (fun i _=>xo.length - (intOf i).toNat)
 case atStart=>exact ⟨0,TW _,rfl,H0⟩
 clear H0;obtain ⟨q,hq,rfl,HJ1⟩:=hrel;by_cases hlq:q < xo.length
 ·have hM:=HT.out _ _ HJ1.out;obtain ⟨bO,U9,XG,⟨o0,o1⟩,hbO⟩:=jM.at0 hM.objs hlq;have HSQ:=aC (QR (rs:=rs) (st:=st) (us:=us) (sn:=sn) hlq);have HOS:=aC (HOF.out _ (TQ hlq));have HOM:Hid (xo[q] ∈ xo):=TQ hlq;obtain ⟨o,ho⟩:∃ o,o=xo[q]:=⟨_,rfl⟩;rw [← ho] at o0 o1 HSQ HOS HOM;clear ho;have hq1:=bB q;have hq2:(q:Int) < (xo.length:Int):=by omega
  obtain ⟨W1,hW1⟩:∃ W1,W1=wr.alloc (.cells #[.string o.t,.string o.s] 27):=⟨_,rfl⟩;have HB1:=qZ hW1;have HJ2:=aC (mY HJ.out HJ1.out HB1.out);have U4:Hid (ET W1 wr.heap.size o):=by rw [hW1]; exact World.alloc_heap_new wr _
  have hM2:=HT.out _ _ HJ2.out;have bD:=hM2.bD;have bS:=hM2.bS;have d2:=hM2.d2;obtain ⟨c0,c1,cl⟩:=U4.out.c;obtain ⟨Wm,VP,hgd,-⟩:=Kv hM2.rel (o.t,sn);obtain ⟨kl,hkl⟩:=Ku (o.t,sn) HOS.out hs0 (by show sn≤_; omega);obtain ⟨R,hR⟩:∃ R,R=G.lookL (eY st rs) (o.t,sn):=⟨_,rfl⟩;have hRl:R.length≤1000:=by rw [hR]; exact YI.out _
  rw [← hR] at hgd HSQ;have HRE:=aC hR;have HGD:=aC hgd;have hlk:∀ m,(Instr.lookup 165 (.map (some br)) (.agg #[.string o.t,.int .i64 sn]) false).run prog (W1.drewN m)=.ok (.slice Wm R.length VP) (W1.drewN m):=fun m=>by
   have h:=(hM2.rel.map.below (below_drewN (TT _ _) m)).look (t:=165) (e:=125) Tz underlying165 (Pv _) (x:=(o.t,sn)) hkl;rw [hgd] at h;exact h
  subst XG;clear hM hM2 hR hgd hkl;gi_wp2;rw [← hW1];clear hW1;refine wpIn_wide.2 ?_;go_quiet (fail);obtain ⟨W2,hW2⟩:∃ W2,W2=W1.drewN nq:=⟨_,rfl⟩;have HB2:Hid (ag W1 W2):=by show Below _ _ _; rw [hW2]; exact below_drewN (TT _ _) _
  have HJ3:=aC (mY HJ.out HJ2.out HB2.out);have HBX2:=aC (U4.out.kp (KpI.below HB2.out));obtain ⟨gO,hgO⟩:∃ g,g=wr.heap.size:=⟨_,rfl⟩;rw [← hgO] at HBX2 ⊢;rw [← hW2];clear hW2 hgO c0 c1 cl bD bS d2 hlk HB1 HJ2 U4 HJ1 o0 o1 hbO;gi_wp2
  gi_loopw [30] (fun i w2=>∃ k:Nat,k≤R.length∧i=.int .i64 k∧Hid (J (iQ rs st us sn xo q ++ kQ R us o k) w2)∧Hid (ET w2 gO o)) (fun i _=>R.length - (intOf i).toNat)
  case atStart=>exact ⟨0,TW _,rfl,by show J (_ ++ []) _; rw [List.append_nil]; exact HJ3.out,HBX2⟩
  clear HJ3 HBX2 HB2;obtain ⟨k,hk,rfl,HJ4,U4⟩:=hrel;by_cases hlk:k < R.length
  ·have hM:=HT.out _ _ HJ4.out;obtain ⟨adR',capR',hgd',hrows⟩:=Kv hM.rel (o.t,sn);rw [← HRE.out,HGD.out] at hgd';injection hgd' with ea eb ec;subst ea;clear eb ec;obtain ⟨gq,hadR,hgl,r0,r1⟩:=hrows k (by rw [← HRE.out]; exact hlk);have HKS:=aC (QS (us:=us) (o:=o) hlk);have hrr:(G.lookL (eY st rs) (o.t,sn))[k]'(by rw [← HRE.out]; exact hlk)=R[k]:=by simp only [HRE.out]
   rw [hrr] at r0 r1;have HRM:Hid (R[k] ∈ R):=TQ hlk;obtain ⟨r,hr⟩:∃ r,r=R[k]:=⟨_,rfl⟩;rw [← hr] at r0 r1 HKS HRM;have hk1:=bB k;have hk2:(k:Int) < (R.length:Int):=by omega
   obtain ⟨W3,hW3⟩:∃ W3,W3=wr.alloc (.cells #[.string r.name,r.sl] 147):=⟨_,rfl⟩;have HB3:=qZ hW3;have HJ5:=aC (mY HJ.out HJ4.out HB3.out);have XA:=aC (U4.out.kp (KpI.below HB3.out));have Yj:Hid (GX W3 wr.heap.size r):=by rw [hW3]; exact World.alloc_heap_new wr _
   have hM3:=HT.out _ _ HJ5.out;have bU:=hM3.bU;have lU:=aF bU;have bU0:=hM.bU;have lU0:=aF bU0;unfold RR.sl at r1 hW3;obtain ⟨gR,hgR⟩:∃ g,g=wr.heap.size:=⟨_,rfl⟩;subst hadR;clear hM hM3 hr hrr hrows;gi_wp2;rw [← hW3,← hgR];rw [← hgR] at Yj;clear hW3 hgR bU lU bU0 lU0 r0 r1 hgl HB3 HJ4 U4
   gi_loopw [36] (fun i w2=>∃ j:Nat,j≤us.length∧i=.int .i64 j∧Hid (J (iQ rs st us sn xo q ++ kQ R us o k ++ iZ o r.name (us.take j)) w2)∧Hid (ET w2 gO o)∧Hid (GX w2 gR r)) (fun i _=>us.length - (intOf i).toNat)
   case atStart=>exact ⟨0,TW _,rfl,by show J (_ ++ []) _; rw [List.append_nil]; exact HJ5.out,XA,Yj⟩
   clear HJ5 XA Yj;obtain ⟨j,hj,rfl,HJ6,XA,Yj⟩:=hrel;by_cases hlj:j < us.length
   ·have hM:=HT.out _ _ HJ6.out;obtain ⟨bV,offV,hadU,⟨y0,y1⟩,hbV⟩:=jM.at0 hM.users hlj;have HAS:=aC (MB o r.name hlj);obtain ⟨u,hu⟩:∃ u,u=us[j]:=⟨_,rfl⟩;rw [← hu] at y0 y1 HAS;have hj1:=bB j;have hj2:(j:Int) < (us.length:Int):=by omega
    obtain ⟨W4,VX⟩:∃ W4,W4=wr.alloc (.cells #[.string u.t,.string u.s] 27):=⟨_,rfl⟩;have Vk:=qZ VX;have HJ7:=mY HJ.out HJ6.out Vk.out;have Xi:=aC (XA.out.kp (KpI.below Vk.out));have HBR2:=aC (Yj.out.kp (KpI.below Vk.out));obtain ⟨fn,tmps,assign,body,hy,hR⟩:=HY.out _ ⟨o.t,o.s,r.name,u.t,u.s⟩ W4 HJ7 (MC HOM.out (by rw [← HRE.out]; exact HRM.out) (by rw [hu]; exact TQ hlj));obtain ⟨c0,c1,cl⟩:=XA.out.c;obtain ⟨e0,e1,el⟩:=Yj.out.c;have HRR:=aC hR;unfold DF at hy;subst hadU;subst VX;clear hM hu HJ7 hR;gi_wp2;refine HRR.out.mono ?_;rintro e W5 ⟨rfl,hJ8,hK8⟩;have HJ8:Hid (J (iQ rs st us sn xo q ++ kQ R us o k ++ iZ o r.name (us.take (j + 1))) W5):=by show J _ _; rw [HAS.out,← List.append_assoc]; exact hJ8
    have HBO3:=aC (Xi.out.kp hK8);have HBR3:=aC (HBR2.out.kp hK8);clear hJ8 hK8 hy y0 y1 c0 c1 cl e0 e1 el;gi_wp2;go_roundw;case rel=>exact ⟨j + 1,by omega,by go_num,HJ8,HBO3,HBR3⟩
    simp [intOf] <;> omega
   have HJ7:Hid (J (iQ rs st us sn xo q ++ kQ R us o (k + 1)) wr):=by
    have h1:=HJ6.out;rw [List.take_of_length_le (by omega),List.append_assoc,← HKS.out] at h1;exact h1
   gi_wp2;go_roundw;case rel=>exact ⟨k + 1,by omega,by go_num,HJ7,XA⟩
   simp [intOf] <;> omega
  have HE2:Hid (iQ rs st us sn xo q ++ kQ R us o k=iQ rs st us sn xo (q + 1)):=by show _=_; rw [HSQ.out,show k=R.length by omega]
  have HJ5:Hid (J (iQ rs st us sn xo (q + 1)) wr):=by show J _ _; rw [← HE2.out]; exact HJ4.out
  gi_wp2;go_roundw;case rel=>exact ⟨q + 1,by omega,by go_num,HJ5⟩
  simp [intOf] <;> omega
 have HE:Hid (iQ rs st us sn xo q=bY (ae rs) st xo us sn):=by show _=_; unfold iQ bY; rw [List.take_of_length_le (by omega)]
 have HJ2:Hid (J (bY (ae rs) st xo us sn) wr):=by show J _ _; rw [← HE.out]; exact HJ1.out
 gi_wp2
 go_end0
 exact ⟨⟨_,rfl⟩,_,rfl,HJ2.out⟩
end Go.Proofs.YtajkkeikihhejaaGreat
namespace Go.Proofs.YtajkkeikihhejaaGreat
set_option linter.unusedVariables false
set_option maxRecDepth 100000
open Go.ChangeShapes Go.WideShapes Go.ChangeAt Go.RowKit Go.Maps
open Pl
theorem GY (v0:Value) (Wl:Option Addr) (VQ:Nat) (ts:List Tp) (UD:Option Addr) (capE:Nat) (rows:List ER) (n:Nat) (adK:Option Addr) (capK:Nat) (known:List Fc) (Wm:Option Addr) (VP:Nat) (truth:List Fc) (f:Fc) (w:af) (hW:HW w Wl ts UD rows adK known Wm truth) (hn:n < rows.length) (hre:rows.length≤1000) (hkl:known.length≤1048576) (hk:rows[n].e.kind=2) :
  Calls prog 98 #[v0,.slice Wl ts.length VQ,.slice UD rows.length capE,.int .i64 (n:Int),.slice adK known.length capK,.slice Wm truth.length VP,.agg #[.string f.a,.string f.b,.string f.r,.string f.c,.string f.d]] w fun e w'=>e=.returned (.bool (bP known ⟨f.a,f.b,rows[n].e.name,f.c,f.d⟩))∧ag w w':=by
 obtain ⟨b,off,UF,⟨t0,t1,t2,t3,t4⟩,hbl,-⟩:=iH.at0 hW.ex hn;have HW0:=aC hW;obtain ⟨W0,hW0⟩:∃ W0,W0=GN w f rows[n]:=⟨_,rfl⟩;have HB0:Hid (ag w W0):=by show Below _ _ _; rw [hW0]; exact jX _ _ _
 have hk1:(rows[n].e.kind == 1)=false:=by rw [hk]; rfl
 have hk2:(rows[n].e.kind == 2)=true:=by rw [hk]; rfl
 have hn1:=bB n;have hn2:(n:Int) < (rows.length:Int):=by omega
 unfold GN at hW0;rw [UF];clear UF hW hk;go_enter func98,ntmps98;go_wp2_with fail;rw [← hW0];refine (ow adK capK known ⟨f.a,f.b,rows[n].e.name,f.c,f.d⟩ W0 hkl (HW0.out.kn.below HB0.out)).mono ?_;rintro e w1 ⟨rfl,hb1⟩;have HB1:=aC (HB0.out.trans (hb1.mono HB0.out.size));clear hb1 hW0;go_wp2;go_ret;exact ⟨rfl,HB1.out⟩
theorem JK (v0:Value) (Wl:Option Addr) (VQ:Nat) (ts:List Tp) (UD:Option Addr) (capE:Nat) (rows:List ER) (n:Nat) (vK vR:Value) (f:Fc) (w:af) (hex:iH w UD rows) (hn:n < rows.length) (hre:rows.length≤1000) (k1:rows[n].e.kind ≠ 1) (k2:rows[n].e.kind ≠ 2) (k3:rows[n].e.kind ≠ 3) (k4:rows[n].e.kind ≠ 4) (k5:rows[n].e.kind ≠ 5) (k6:rows[n].e.kind ≠ 6) :
  Calls prog 98 #[v0,.slice Wl ts.length VQ,.slice UD rows.length capE,.int .i64 (n:Int),vK,vR,.agg #[.string f.a,.string f.b,.string f.r,.string f.c,.string f.d]] w fun e w'=>e=.returned (.bool false)∧ag w w':=by
 obtain ⟨b,off,UF,⟨t0,t1,t2,t3,t4⟩,hbl,-⟩:=iH.at0 hex hn;have HB0:=aC (jX w f rows[n]);unfold GN at HB0;have hk1:(rows[n].e.kind == 1)=false:=by simpa using k1
 have hk2:(rows[n].e.kind == 2)=false:=by simpa using k2
 have hk3:(rows[n].e.kind == 3)=false:=by simpa using k3
 have hk4:(rows[n].e.kind == 4)=false:=by simpa using k4
 have hk5:(rows[n].e.kind == 5)=false:=by simpa using k5
 have hk6:(rows[n].e.kind == 6)=false:=by simpa using k6
 have hn1:=bB n;have hn2:(n:Int) < (rows.length:Int):=by omega
 rw [UF];clear UF hex k1 k2 k3 k4 k5 k6;go_enter func98,ntmps98;go_wp2;go_ret;exact ⟨rfl,HB0.out⟩
theorem EU (v0:Value) (Wl:Option Addr) (VQ:Nat) (ts:List Tp) (UD:Option Addr) (capE:Nat) (rows:List ER) (n:Nat) (adK:Option Addr) (capK:Nat) (known:List Fc) (Wm:Option Addr) (VP:Nat) (truth:List Fc) (f:Fc) (w:af) (hW:HW w Wl ts UD rows adK known Wm truth) (hn:n < rows.length) (hre:rows.length≤1000) (hkl:known.length≤1048576) (htl:ts.length≤1048576) (hk:rows[n].e.kind=1) :
  Calls prog 98 #[v0,.slice Wl ts.length VQ,.slice UD rows.length capE,.int .i64 (n:Int),.slice adK known.length capK,.slice Wm truth.length VP,.agg #[.string f.a,.string f.b,.string f.r,.string f.c,.string f.d]] w fun e w'=>e=.returned (.bool (dZ ts known f))∧ag w w':=by
 obtain ⟨b,off,UF,⟨t0,t1,t2,t3,t4⟩,hbl,-⟩:=iH.at0 hW.ex hn;have HW0:=aC hW;obtain ⟨W0,hW0⟩:∃ W0,W0=GN w f rows[n]:=⟨_,rfl⟩;have HB0:Hid (ag w W0):=by show Below _ _ _; rw [hW0]; exact jX _ _ _
 have WJ:Hid (EnB W0 w.heap.size f rows[n]):=by show EnB _ _ _ _; rw [hW0]; exact oz _ _ _
 have hk1:(rows[n].e.kind == 1)=true:=by rw [hk]; rfl
 have hn1:=bB n;have hn2:(n:Int) < (rows.length:Int):=by omega
 unfold GN at hW0;rw [UF];clear UF hW hk;go_enter func98,ntmps98;go_wp2_with fail;rw [← hW0];clear hW0 t0 t1 t2 t3 t4;go_loopw [16] (fun i wr=>∃ k:Nat,k≤ts.length∧i=.int .i64 k∧Hid (dZ (ts.drop k) known f=dZ ts known f)∧Hid (ag W0 wr)) (fun i _=>ts.length - (intOf i).toNat);case atStart=>exact ⟨0,TW _,rfl,rfl,TT _ _⟩
 obtain ⟨k,hk,rfl,HP,HB⟩:=hrel;have UG:Hid (ag w wr):=HB0.out.trans (HB.out.mono HB0.out.size);by_cases hlt:k < ts.length
 ·obtain ⟨bT,offT,Xh,⟨a0,a1,a2,a3,a4,a5⟩,hbT⟩:=Sl.at0 (HW0.out.tup.below UG.out) hlt;have hE:=WJ.out.below HB.out;have e0:=hE.f0;have e1:=hE.f1;have e2:=hE.f2;have e3:=hE.f3;have e4:=hE.f4;have el:w.heap.size < wr.heap.size:=by have:=hE.lt; omega
  have hi1:=bB k;have hi2:(k:Int) < (ts.length:Int):=by omega
  obtain ⟨W1,hW1⟩:∃ W1,W1=wr.alloc (.cells #[.string ts[k].a,.string ts[k].b,.string ts[k].r,.string ts[k].c,.string ts[k].d,.string ts[k].s] 46):=⟨_,rfl⟩;have VO:=qZ hW1;have HB1:Hid (ag W0 W1):=HB.out.trans (VO.out.mono HB.out.size);have Vq:Hid (ag w W1):=UG.out.trans (VO.out.mono UG.out.size);have HD:Hid (dZ ts known f=(Ba known f ts[k] || dZ (ts.drop (k + 1)) known f)):=by show _=_; rw [← HP.out]; exact JG hlt known f
  rw [Xh];clear Xh hE;cases ho:A9 ts[k].a ts[k].b f.a f.b;case false=>
   have hneq:=GM _ _ _ _ ho;have UI:Hid (dZ (ts.drop (k + 1)) known f=dZ ts known f):=by
    show _=_;unfold A9 at ho;rw [HD.out]; unfold Ba; rw [ho]; rfl
   clear ho;go_wp2;rw [← hW1];clear hW1;go_roundw;case rel=>exact ⟨k + 1,by omega,by go_num,UI,HB1⟩
   simp [intOf] <;> omega
  have hneq:=GM _ _ _ _ ho;have HO:Hid (A9 ts[k].a ts[k].b f.a f.b=true):=ho;clear ho;cases hr:(ts[k].r.toList == f.r.toList);case false=>
   have UI:Hid (dZ (ts.drop (k + 1)) known f=dZ ts known f):=by
    show _=_;have h2:=HO.out;unfold A9 at h2;rw [HD.out]; unfold Ba; rw [h2,hr]; rfl
   go_wp2;rw [← hW1];clear hW1;go_roundw;case rel=>exact ⟨k + 1,by omega,by go_num,UI,HB1⟩
   simp [intOf] <;> omega
  have HT:Hid (Ba known f ts[k]=(if ts[k].s.toList.isEmpty then ts[k].c.toList == f.c.toList && ts[k].d.toList == f.d.toList else bP known ⟨ts[k].c,ts[k].d,ts[k].s,f.c,f.d⟩)):=by
   show _=_;have h2:=HO.out;unfold A9 at h2;unfold Ba; rw [h2,hr]; rfl
  cases hs:ts[k].s.toList.isEmpty;case true=>
   have hs2:(ts[k].s.toList == [])=true:=by rw [nk]; exact hs
   cases hu:A9 ts[k].c ts[k].d f.c f.d;case true=>
    have heq:=jJ _ _ _ _ hu;have HN:Hid (dZ ts known f=true):=by
     show _=_;unfold A9 at hu;rw [HD.out,HT.out,if_pos hs,hu]; rfl
    clear hu hs;go_wp2;rw [← hW1];go_ret;exact ⟨by rw [HN.out]; rfl,Vq.out⟩
   have heq:=jJ _ _ _ _ hu;have UI:Hid (dZ (ts.drop (k + 1)) known f=dZ ts known f):=by
    show _=_;unfold A9 at hu;rw [HD.out,HT.out,if_pos hs,hu]; rfl
   clear hu hs;go_wp2;rw [← hW1];clear hW1;go_roundw;case rel=>exact ⟨k + 1,by omega,by go_num,UI,HB1⟩
   simp [intOf] <;> omega
  have hs2:(ts[k].s.toList == [])=false:=by rw [nk]; exact hs
  have HT2:Hid (Ba known f ts[k]=bP known ⟨ts[k].c,ts[k].d,ts[k].s,f.c,f.d⟩):=by show _=_; rw [HT.out,if_neg (by rw [hs]; decide)]
  clear hs;go_wp2_with fail;rw [← hW1];clear hW1;refine (ow adK capK known ⟨ts[k].c,ts[k].d,ts[k].s,f.c,f.d⟩ W1 hkl (HW0.out.kn.below Vq.out)).mono ?_;rintro e w2 ⟨rfl,hb2⟩;have HB2:=jP HB1 hb2;have YQ:=jP Vq hb2;clear hb2;cases hh:bP known ⟨ts[k].c,ts[k].d,ts[k].s,f.c,f.d⟩;case true=>
   have HN:Hid (dZ ts known f=true):=by show _=_; rw [HD.out,HT2.out,hh]; rfl
   go_wp2;go_ret;exact ⟨by rw [HN.out]; rfl,YQ.out⟩
  have UI:Hid (dZ (ts.drop (k + 1)) known f=dZ ts known f):=by show _=_; rw [HD.out,HT2.out,hh]; rfl
  go_wp2;go_roundw;case rel=>exact ⟨k + 1,by omega,by go_num,UI,HB2⟩
  simp [intOf] <;> omega
 have HN:Hid (dZ ts known f=false):=by show _=_; rw [← HP.out,List.drop_of_length_le (by omega)]; rfl
 go_wp2;go_ret;exact ⟨by rw [HN.out]; rfl,UG.out⟩
end Go.Proofs.YtajkkeikihhejaaGreat
