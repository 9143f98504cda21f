/- The iterator over what is asked at a stratum. -/
import Derived.Test.YtajkkeikihhejaaGreatSq
import Derived.Test.YtajkkeikihhejaaGreatThisI
import Derived.Test.YtajkkeikihhejaaGreatJ21
import Derived.RangeFuncLeaves
import Derived.OwnWalkIn
import Derived.TacticsInMore
import Derived.LoopNIn
import Derived.LoopIn
open Go.Proofs.Tryz
set_option maxHeartbeats 80000000
namespace Go.Proofs.YtajkkeikihhejaaGreat
set_option linter.unusedVariables false
set_option maxRecDepth 100000
open Go.ChangeShapes Go.WideShapes Go.ChangeAt Go.RowKit Go.Maps Go.Shelf
open Pl
attribute [local go_sem] Oper.semAt_some
structure InM (W:World) (D br nr:Nat) (Mr:KL→Option Value) (Er:List (KL × RR)) (V7:Option Addr) (VT:Nat) (xo:List Al) (gD gS gU:Nat) (sn:Int) (Vq:Option Addr) (UM:Nat) (us:List Al):Prop where
 d2:W.cell? ⟨D,2,none⟩=some (.map (some br))
 d4:W.cell? ⟨D,4,none⟩=some (.slice V7 xo.length VT)
 objs:jN W V7 xo
 rel:Ew W br nr Mr Er
 bD:W.cell? ⟨gD,0,none⟩=some (.pointer (some ⟨D,0,none⟩))
 bS:W.cell? ⟨gS,0,none⟩=some (.int .i64 sn)
 bU:W.cell? ⟨gU,0,none⟩=some (.slice Vq us.length UM)
 users:jN W Vq us
def DF (x:Fc):Array Value:=#[.agg #[.string x.a,.string x.b,.string x.r,.string x.c,.string x.d]]
theorem Bl:∀ (rs:List RR) (i:Nat) (h:i < rs.length) (j:Nat),j < 2→(G.flatG QA rs)[i * 2 + j]?=(QA rs[i])[j]?
 | [],i,h,_,_=>by simp at h
 | r::rs,0,_,j,hj=>by
  simp only [G.flatG,List.flatMap_cons,Nat.zero_mul,Um,List.getElem_cons_zero];rw [List.getElem?_append_left (by simp [QA]; omega)]
 | r::rs,i + 1,h,j,hj=>by
  have ih:=Bl rs i (by simpa using h) j hj;simp only [G.flatG,List.flatMap_cons,List.getElem_cons_succ] at ih ⊢;rw [List.getElem?_append_right (by simp [QA]; omega)];have:(i + 1) * 2 + j - (QA r).length=i * 2 + j:=by simp [QA]; omega
  rw [this]; exact ih
theorem KG {W:af} {br nr:Nat} {Mr:KL→Option Value} {Er:List (KL × RR)} (h:Ew W br nr Mr Er) (k:KL):∃ ad cap,(Mr k).getD (.slice none 0 0)=.slice ad (G.lookL Er k).length cap∧(∀ i (hi:i < (G.lookL Er k).length),∃ g,ad=some ⟨g,0,none⟩∧g < W.heap.size∧W.cell? ⟨g,i * 2,none⟩=some (.string (G.lookL Er k)[i].name)∧W.cell? ⟨g,i * 2 + 1,none⟩=some (G.lookL Er k)[i].sl):=by
 have ho:=Dn h k;rcases ho.2 with ⟨e,h0⟩ | ⟨g,cap,cur,e,hbg,hg,hnc,-⟩
 ·exact ⟨none,0,by rw [e,h0],fun i hi=>by omega⟩
 refine ⟨_,cap,e,fun i hi=>⟨g,rfl,(ho.lt g (by rw [e]; rfl)).2,?_,?_⟩⟩
 ·rw [e] at ho;rw [ho.cellAt (i * 2) (by omega)];exact Bl _ i hi 0 (by omega)
 rw [e] at ho;rw [ho.cellAt (i * 2 + 1) (by omega)];exact Bl _ i hi 1 (by omega)
def EX (W:World) (g:Nat) (o:Al):Prop:=W.heap[g]?=some (.cells #[.string o.t,.string o.s] 27 (0,0))
def Ha (W:World) (g:Nat) (r:RR):Prop:=W.heap[g]?=some (.cells #[.string r.name,r.sl] 147 (0,0))
theorem EX.c {W:af} {g:Nat} {o:Al} (h:EX W g o):W.cell? ⟨g,0,none⟩=some (.string o.t)∧W.cell? ⟨g,1,none⟩=some (.string o.s)∧g < W.heap.size:=by
 have hl:=(Array.getElem?_eq_some_iff.1 h).1;unfold EX at h;exact ⟨by simp [World.cell?,h],by simp [World.cell?,h],hl⟩
theorem Ha.c {W:af} {g:Nat} {r:RR} (h:Ha W g r):W.cell? ⟨g,0,none⟩=some (.string r.name)∧W.cell? ⟨g,1,none⟩=some r.sl∧g < W.heap.size:=by
 have hl:=(Array.getElem?_eq_some_iff.1 h).1;unfold Ha at h;exact ⟨by simp [World.cell?,h],by simp [World.cell?,h],hl⟩
theorem EX.kp {W W':af} {g:Nat} {o:Al} (h:EX W g o) (hk:KpI W W'):EX W' g o:=hk.cells g _ _ _ h (.inl rfl)
theorem Ha.kp {W W':af} {g:Nat} {r:RR} (h:Ha W g r) (hk:KpI W W'):Ha W' g r:=hk.cells g _ _ _ h (.inr rfl)
def iQ (rs:List TR) (st:ByteArray × ByteArray→Int) (us:List Al) (sn:Int) (xo:List Al) (q:Nat):List Fc:=(xo.take q).flatMap (uZ (ae rs) st us sn)
def kQ (R:List RR) (us:List Al) (o:Al) (k:Nat):List Fc:=(R.take k).flatMap fun r=>ja o r.name us
theorem Q5 {rs:List TR} {st:ByteArray × ByteArray→Int} {us:List Al} {sn:Int} {xo:List Al} {q:Nat} (h:q < xo.length):iQ rs st us sn xo (q + 1)=iQ rs st us sn xo q ++ kQ (G.lookL (eT st rs) (xo[q].t,sn)) us xo[q] (G.lookL (eT st rs) (xo[q].t,sn)).length:=by
 unfold iQ kQ;rw [TV h,List.flatMap_append,Ug];congr 1;simp only [List.flatMap_cons,List.flatMap_nil,List.append_nil];unfold uZ;rw [Gv,List.flatMap_map]
theorem Q6 {R:List RR} {us:List Al} {o:Al} {k:Nat} (h:k < R.length):kQ R us o (k + 1)=kQ R us o k ++ ja o R[k].name us:=by
 unfold kQ;rw [TV h,List.flatMap_append];simp
theorem MQ (o:Al) (rel:bH) {xu:List Al} {j:Nat} (h:j < xu.length):ja o rel (xu.take (j + 1))=ja o rel (xu.take j) ++ [⟨o.t,o.s,rel,xu[j].t,xu[j].s⟩]:=by
 unfold ja;rw [TV h,List.map_append]; rfl
theorem MR {rs:List TR} {st:ByteArray × ByteArray→Int} {xo us:List Al} {sn:Int} {o:Al} {r:RR} {u:Al} (ho:o ∈ xo) (hr:r ∈ G.lookL (eT st rs) (o.t,sn)) (hu:u ∈ us):(⟨o.t,o.s,r.name,u.t,u.s⟩:Fc) ∈ bY (ae rs) st xo us sn:=by
 unfold bY uZ;refine Uf.2 ⟨o,ho,Uf.2 ⟨(o.t,r.name),?_,Ue.2 ⟨u,hu,rfl⟩⟩⟩;rw [Gv];exact Ue.2 ⟨r,hr,rfl⟩
theorem PU (n:Nat) (hn:1≤n) (D br nr:Nat) (Mr:KL→Option Value) (st:ByteArray × ByteArray→Int) (rs:List TR) (V7:Option Addr) (VT:Nat) (xo:List Al) (gD gS gU:Nat) (sn:Int) (Vq:Option Addr) (UM:Nat) (us:List Al) (w0:af) (hs0:0≤sn) (hs1:sn≤1000) (hol:xo.length≤1000) (XX:us.length≤1000) (hrl:∀ k,(G.lookL (eT st rs) k).length≤1000) (hof:∀ o ∈ xo,o.t.size≤maxLen) :
  D7 Fence.wide n prog 199 #[.pointer (some ⟨gD,0,none⟩),.pointer (some ⟨gS,0,none⟩),.pointer (some ⟨gU,0,none⟩)] DF (fun _=>KpI) (fun _ W=>InM W D br nr Mr (eT st rs) V7 VT xo gD gS gU sn Vq UM us) (fun _ x=>x ∈ bY (ae rs) st xo us sn) (fun xs=>xs=bY (ae rs) st xo us sn) w0:=by
 intro l J W _ _ _ hJ hT hY h0;have HJ:=aC hJ;have HT:=aC hT;have HY:=aC hY;have H0:=aC h0;have HOF:=aC hof;have hM:=hT _ _ h0;have Yz:=aC hrl;have bD:=hM.bD;have d4:=hM.d4;have lD:=aF bD;have lDD:=aF d4;clear hJ hT hY h0 hof hM hrl;refine callsIn_of_wp func199 rfl trivial ?_ rfl;simp only [ntmps199,List.size_toArray,List.length_cons,List.length_nil,Nat.reduceAdd,Nat.reduceSub,Array.replicate_succ,Array.replicate_zero,List.push_toArray,List.append_toArray,List.nil_append,List.cons_append];gi_wp2;clear bD d4 lD lDD
 gi_loopw [16] (fun i wr=>∃ q:Nat,q≤xo.length∧i=.int .i64 q∧Hid (J (iQ rs st us sn xo q) wr)) (fun i _=>xo.length - (intOf i).toNat)
 case atStart=>exact ⟨0,TW _,rfl,H0⟩
 clear H0;obtain ⟨q,hq,rfl,HJ1⟩:=hrel;by_cases hlq:q < xo.length
 ·have hM:=HT.out _ _ HJ1.out;obtain ⟨bO,U8,Xx,⟨o0,o1⟩,hbO⟩:=jN.at0 hM.objs hlq;have HSQ:=aC (Q5 (rs:=rs) (st:=st) (us:=us) (sn:=sn) hlq);have HOS:=aC (HOF.out _ (TQ hlq));have HOM:Hid (xo[q] ∈ xo):=TQ hlq;obtain ⟨o,ho⟩:∃ o,o=xo[q]:=⟨_,rfl⟩;rw [← ho] at o0 o1 HSQ HOS HOM;clear ho;have hq1:=bB q;have hq2:(q:Int) < (xo.length:Int):=by omega
  obtain ⟨W1,hW1⟩:∃ W1,W1=wr.alloc (.cells #[.string o.t,.string o.s] 27):=⟨_,rfl⟩;have HB1:=qY hW1;have HJ2:=aC (mV HJ.out HJ1.out HB1.out);have U3:Hid (EX W1 wr.heap.size o):=by rw [hW1]; exact World.alloc_heap_new wr _
  have hM2:=HT.out _ _ HJ2.out;have bD:=hM2.bD;have bS:=hM2.bS;have d2:=hM2.d2;obtain ⟨c0,c1,cl⟩:=U3.out.c;obtain ⟨V9,VO,hgd,-⟩:=KG hM2.rel (o.t,sn);obtain ⟨kl,hkl⟩:=Kc (o.t,sn) HOS.out hs0 (by show sn≤_; omega);obtain ⟨R,hR⟩:∃ R,R=G.lookL (eT st rs) (o.t,sn):=⟨_,rfl⟩;have hRl:R.length≤1000:=by rw [hR]; exact Yz.out _
  rw [← hR] at hgd HSQ;have HRE:=aC hR;have HGD:=aC hgd;have hlk:∀ m,(Instr.lookup 165 (.map (some br)) (.agg #[.string o.t,.int .i64 sn]) false).run prog (W1.drewN m)=.ok (.slice V9 R.length VO) (W1.drewN m):=fun m=>by
   have h:=(hM2.rel.map.below (below_drewN (TT _ _) m)).look (t:=165) (e:=125) Tm underlying165 (O9 _) (x:=(o.t,sn)) hkl;rw [hgd] at h;exact h
  subst Xx;clear hM hM2 hR hgd hkl;gi_wp2;rw [← hW1];clear hW1;refine wpIn_wide.2 ?_;go_quiet (fail);obtain ⟨W2,hW2⟩:∃ W2,W2=W1.drewN nq:=⟨_,rfl⟩;have HB2:Hid (ag W1 W2):=by show Below _ _ _; rw [hW2]; exact below_drewN (TT _ _) _
  have HJ3:=aC (mV HJ.out HJ2.out HB2.out);have HBX2:=aC (U3.out.kp (KpI.below HB2.out));obtain ⟨gO,hgO⟩:∃ g,g=wr.heap.size:=⟨_,rfl⟩;rw [← hgO] at HBX2 ⊢;rw [← hW2];clear hW2 hgO c0 c1 cl bD bS d2 hlk HB1 HJ2 U3 HJ1 o0 o1 hbO;gi_wp2
  gi_loopw [30] (fun i w2=>∃ k:Nat,k≤R.length∧i=.int .i64 k∧Hid (J (iQ rs st us sn xo q ++ kQ R us o k) w2)∧Hid (EX w2 gO o)) (fun i _=>R.length - (intOf i).toNat)
  case atStart=>exact ⟨0,TW _,rfl,by show J (_ ++ []) _; rw [List.append_nil]; exact HJ3.out,HBX2⟩
  clear HJ3 HBX2 HB2;obtain ⟨k,hk,rfl,HJ4,U3⟩:=hrel;by_cases hlk:k < R.length
  ·have hM:=HT.out _ _ HJ4.out;obtain ⟨adR',capR',hgd',hrows⟩:=KG hM.rel (o.t,sn);rw [← HRE.out,HGD.out] at hgd';injection hgd' with ea eb ec;subst ea;clear eb ec;obtain ⟨gq,hadR,hgl,r0,r1⟩:=hrows k (by rw [← HRE.out]; exact hlk);have HKS:=aC (Q6 (us:=us) (o:=o) hlk);have hrr:(G.lookL (eT st rs) (o.t,sn))[k]'(by rw [← HRE.out]; exact hlk)=R[k]:=by simp only [HRE.out]
   rw [hrr] at r0 r1;have HRM:Hid (R[k] ∈ R):=TQ hlk;obtain ⟨r,hr⟩:∃ r,r=R[k]:=⟨_,rfl⟩;rw [← hr] at r0 r1 HKS HRM;have hk1:=bB k;have hk2:(k:Int) < (R.length:Int):=by omega
   obtain ⟨W3,hW3⟩:∃ W3,W3=wr.alloc (.cells #[.string r.name,r.sl] 147):=⟨_,rfl⟩;have HB3:=qY hW3;have HJ5:=aC (mV HJ.out HJ4.out HB3.out);have Xp:=aC (U3.out.kp (KpI.below HB3.out));have Yd:Hid (Ha W3 wr.heap.size r):=by rw [hW3]; exact World.alloc_heap_new wr _
   have hM3:=HT.out _ _ HJ5.out;have bU:=hM3.bU;have lU:=aF bU;have bU0:=hM.bU;have lU0:=aF bU0;unfold RR.sl at r1 hW3;obtain ⟨gR,hgR⟩:∃ g,g=wr.heap.size:=⟨_,rfl⟩;subst hadR;clear hM hM3 hr hrr hrows;gi_wp2;rw [← hW3,← hgR];rw [← hgR] at Yd;clear hW3 hgR bU lU bU0 lU0 r0 r1 hgl HB3 HJ4 U3
   gi_loopw [36] (fun i w2=>∃ j:Nat,j≤us.length∧i=.int .i64 j∧Hid (J (iQ rs st us sn xo q ++ kQ R us o k ++ ja o r.name (us.take j)) w2)∧Hid (EX w2 gO o)∧Hid (Ha w2 gR r)) (fun i _=>us.length - (intOf i).toNat)
   case atStart=>exact ⟨0,TW _,rfl,by show J (_ ++ []) _; rw [List.append_nil]; exact HJ5.out,Xp,Yd⟩
   clear HJ5 Xp Yd;obtain ⟨j,hj,rfl,HJ6,Xp,Yd⟩:=hrel;by_cases hlj:j < us.length
   ·have hM:=HT.out _ _ HJ6.out;obtain ⟨bV,offV,hadU,⟨y0,y1⟩,hbV⟩:=jN.at0 hM.users hlj;have HAS:=aC (MQ o r.name hlj);obtain ⟨u,hu⟩:∃ u,u=us[j]:=⟨_,rfl⟩;rw [← hu] at y0 y1 HAS;have hj1:=bB j;have hj2:(j:Int) < (us.length:Int):=by omega
    obtain ⟨W4,VU⟩:∃ W4,W4=wr.alloc (.cells #[.string u.t,.string u.s] 27):=⟨_,rfl⟩;have Vi:=qY VU;have HJ7:=mV HJ.out HJ6.out Vi.out;have Xd:=aC (Xp.out.kp (KpI.below Vi.out));have HBR2:=aC (Yd.out.kp (KpI.below Vi.out));obtain ⟨fn,tmps,assign,body,hy,hR⟩:=HY.out _ ⟨o.t,o.s,r.name,u.t,u.s⟩ W4 HJ7 (MR HOM.out (by rw [← HRE.out]; exact HRM.out) (by rw [hu]; exact TQ hlj));obtain ⟨c0,c1,cl⟩:=Xp.out.c;obtain ⟨e0,e1,el⟩:=Yd.out.c;have HRR:=aC hR;unfold DF at hy;subst hadU;subst VU;clear hM hu HJ7 hR;gi_wp2;refine HRR.out.mono ?_;rintro e W5 ⟨rfl,hJ8,hK8⟩;have HJ8:Hid (J (iQ rs st us sn xo q ++ kQ R us o k ++ ja o r.name (us.take (j + 1))) W5):=by show J _ _; rw [HAS.out,← List.append_assoc]; exact hJ8
    have HBO3:=aC (Xd.out.kp hK8);have HBR3:=aC (HBR2.out.kp hK8);clear hJ8 hK8 hy y0 y1 c0 c1 cl e0 e1 el;gi_wp2;go_roundw;case rel=>exact ⟨j + 1,by omega,by go_num,HJ8,HBO3,HBR3⟩
    simp [intOf] <;> omega
   have HJ7:Hid (J (iQ rs st us sn xo q ++ kQ R us o (k + 1)) wr):=by
    have h1:=HJ6.out;rw [List.take_of_length_le (by omega),List.append_assoc,← HKS.out] at h1;exact h1
   gi_wp2;go_roundw;case rel=>exact ⟨k + 1,by omega,by go_num,HJ7,Xp⟩
   simp [intOf] <;> omega
  have HE2:Hid (iQ rs st us sn xo q ++ kQ R us o k=iQ rs st us sn xo (q + 1)):=by show _=_; rw [HSQ.out,show k=R.length by omega]
  have HJ5:Hid (J (iQ rs st us sn xo (q + 1)) wr):=by show J _ _; rw [← HE2.out]; exact HJ4.out
  gi_wp2;go_roundw;case rel=>exact ⟨q + 1,by omega,by go_num,HJ5⟩
  simp [intOf] <;> omega
 have HE:Hid (iQ rs st us sn xo q=bY (ae rs) st xo us sn):=by show _=_; unfold iQ bY; rw [List.take_of_length_le (by omega)]
 have HJ2:Hid (J (bY (ae rs) st xo us sn) wr):=by show J _ _; rw [← HE.out]; exact HJ1.out
 gi_wp2
 go_end0
 exact ⟨⟨_,rfl⟩,_,rfl,HJ2.out⟩
end Go.Proofs.YtajkkeikihhejaaGreat
