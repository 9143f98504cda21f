/- The iterator over what is asked at a stratum. -/
import Derived.Test.YtdmniljjnaebbaaGreatDoorSq
import Derived.Test.YtdmniljjnaebbaaGreatDoorJ17
import Derived.Test.YtdmniljjnaebbaaGreatDoorThisI
import Derived.Test.YtdmniljjnaebbaaGreatDoorL4Obj
import Derived.RangeFuncLeaves
import Derived.OwnWalkIn
import Derived.TacticsInMore
import Derived.LoopNIn
import Derived.LoopIn
open Go.Proofs.Tryz
set_option maxHeartbeats 80000000
namespace Go.Proofs.YtdmniljjnaebbaaGreatDoor
set_option linter.unusedVariables false
set_option maxRecDepth 100000
open Go.ChangeShapes Go.WideShapes Go.ChangeAt Go.RowKit Go.Maps Go.Shelf
open Pl
attribute [local go_sem] Oper.semAt_some
structure InM (W:World) (D br nr:Nat) (Mr:KL→Option Value) (Er:List (KL × RR)) (U1:Option Addr) (UG:Nat) (xo:List Al) (gD gS gU:Nat) (sn:Int) (Ua:Option Addr) (Tw:Nat) (us:List Al):Prop where
 d2:W.cell? ⟨D,2,none⟩=some (.map (some br))
 d4:W.cell? ⟨D,4,none⟩=some (.slice U1 xo.length UG)
 objs:gP W U1 xo
 rel:CR W br nr Mr Er
 bD:W.cell? ⟨gD,0,none⟩=some (.pointer (some ⟨D,0,none⟩))
 bS:W.cell? ⟨gS,0,none⟩=some (.int .i64 sn)
 bU:W.cell? ⟨gU,0,none⟩=some (.slice Ua us.length Tw)
 users:gP W Ua us
def BR (x:Fc):Array Value:=#[.agg #[.string x.a,.string x.b,.string x.r,.string x.c,.string x.d]]
theorem zx:∀ (rs:List RR) (i:Nat) (h:i < rs.length) (j:Nat),j < 2→(G.flatG OV rs)[i * 2 + j]?=(OV rs[i])[j]?
 | [],i,h,_,_=>by simp at h
 | r::rs,0,_,j,hj=>by
  simp only [G.flatG,List.flatMap_cons,Nat.zero_mul,SG,List.getElem_cons_zero];rw [List.getElem?_append_left (by simp [OV]; omega)]
 | r::rs,i + 1,h,j,hj=>by
  have ih:=zx rs i (by simpa using h) j hj;simp only [G.flatG,List.flatMap_cons,List.getElem_cons_succ] at ih ⊢;rw [List.getElem?_append_right (by simp [OV]; omega)];have:(i + 1) * 2 + j - (OV r).length=i * 2 + j:=by simp [OV]; omega
  rw [this]; exact ih
theorem Jp {W:af} {br nr:Nat} {Mr:KL→Option Value} {Er:List (KL × RR)} (h:CR W br nr Mr Er) (k:KL):∃ ad cap,(Mr k).getD (.slice none 0 0)=.slice ad (G.lookL Er k).length cap∧(∀ i (hi:i < (G.lookL Er k).length),∃ g,ad=some ⟨g,0,none⟩∧g < W.heap.size∧W.cell? ⟨g,i * 2,none⟩=some (.string (G.lookL Er k)[i].name)∧W.cell? ⟨g,i * 2 + 1,none⟩=some (G.lookL Er k)[i].sl):=by
 have ho:=BF h k;rcases ho.2 with ⟨e,h0⟩ | ⟨g,cap,cur,e,hbg,hg,hnc,-⟩
 ·exact ⟨none,0,by rw [e,h0],fun i hi=>by omega⟩
 refine ⟨_,cap,e,fun i hi=>⟨g,rfl,(ho.lt g (by rw [e]; rfl)).2,?_,?_⟩⟩
 ·rw [e] at ho;rw [ho.cellAt (i * 2) (by omega)];exact zx _ i hi 0 (by omega)
 rw [e] at ho;rw [ho.cellAt (i * 2 + 1) (by omega)];exact zx _ i hi 1 (by omega)
def Di (W:World) (g:Nat) (o:Al):Prop:=W.heap[g]?=some (.cells #[.string o.t,.string o.s] 40 (0,0))
def Fz (W:World) (g:Nat) (r:RR):Prop:=W.heap[g]?=some (.cells #[.string r.name,r.sl] 122 (0,0))
theorem Di.c {W:af} {g:Nat} {o:Al} (h:Di W g o):W.cell? ⟨g,0,none⟩=some (.string o.t)∧W.cell? ⟨g,1,none⟩=some (.string o.s)∧g < W.heap.size:=by
 have hl:=(Array.getElem?_eq_some_iff.1 h).1;unfold Di at h;exact ⟨by simp [World.cell?,h],by simp [World.cell?,h],hl⟩
theorem Fz.c {W:af} {g:Nat} {r:RR} (h:Fz W g r):W.cell? ⟨g,0,none⟩=some (.string r.name)∧W.cell? ⟨g,1,none⟩=some r.sl∧g < W.heap.size:=by
 have hl:=(Array.getElem?_eq_some_iff.1 h).1;unfold Fz at h;exact ⟨by simp [World.cell?,h],by simp [World.cell?,h],hl⟩
theorem Di.kp {W W':af} {g:Nat} {o:Al} (h:Di W g o) (hk:KpI W W'):Di W' g o:=hk.cells g _ _ _ h (.inl rfl)
theorem Fz.kp {W W':af} {g:Nat} {r:RR} (h:Fz W g r) (hk:KpI W W'):Fz W' g r:=hk.cells g _ _ _ h (.inr rfl)
def iQ (rs:List TR) (st:ByteArray × ByteArray→Int) (us:List Al) (sn:Int) (xo:List Al) (q:Nat):List Fc:=(xo.take q).flatMap (wC (ag rs) st us sn)
def kQ (R:List RR) (us:List Al) (o:Al) (k:Nat):List Fc:=(R.take k).flatMap fun r=>ja o r.name us
theorem Pn {rs:List TR} {st:ByteArray × ByteArray→Int} {us:List Al} {sn:Int} {xo:List Al} {q:Nat} (h:q < xo.length):iQ rs st us sn xo (q + 1)=iQ rs st us sn xo q ++ kQ (G.lookL (dU st rs) (xo[q].t,sn)) us xo[q] (G.lookL (dU st rs) (xo[q].t,sn)).length:=by
 unfold iQ kQ;rw [Sk h,List.flatMap_append,Su];congr 1;simp only [List.flatMap_cons,List.flatMap_nil,List.append_nil];unfold wC;rw [E5,List.flatMap_map]
theorem Po {R:List RR} {us:List Al} {o:Al} {k:Nat} (h:k < R.length):kQ R us o (k + 1)=kQ R us o k ++ ja o R[k].name us:=by
 unfold kQ;rw [Sk h,List.flatMap_append];simp
theorem KJ (o:Al) (rel:dB) {xu:List Al} {j:Nat} (h:j < xu.length):ja o rel (xu.take (j + 1))=ja o rel (xu.take j) ++ [⟨o.t,o.s,rel,xu[j].t,xu[j].s⟩]:=by
 unfold ja;rw [Sk h,List.map_append]; rfl
theorem KM {rs:List TR} {st:ByteArray × ByteArray→Int} {xo us:List Al} {sn:Int} {o:Al} {r:RR} {u:Al} (ho:o ∈ xo) (hr:r ∈ G.lookL (dU st rs) (o.t,sn)) (hu:u ∈ us):(⟨o.t,o.s,r.name,u.t,u.s⟩:Fc) ∈ cB (ag rs) st xo us sn:=by
 unfold cB wC;refine SB.2 ⟨o,ho,SB.2 ⟨(o.t,r.name),?_,Sy.2 ⟨u,hu,rfl⟩⟩⟩;rw [E5];exact Sy.2 ⟨r,hr,rfl⟩
theorem NA (n:Nat) (hn:1≤n) (D br nr:Nat) (Mr:KL→Option Value) (st:ByteArray × ByteArray→Int) (rs:List TR) (U1:Option Addr) (UG:Nat) (xo:List Al) (gD gS gU:Nat) (sn:Int) (Ua:Option Addr) (Tw:Nat) (us:List Al) (w0:af) (hs0:0≤sn) (hs1:sn≤1000) (hol:xo.length≤1000) (XV:us.length≤1000) (hrl:∀ k,(G.lookL (dU st rs) k).length≤1000) (hof:∀ o ∈ xo,o.t.size≤maxLen) :
  Cj Fence.wide n prog 174 #[.pointer (some ⟨gD,0,none⟩),.pointer (some ⟨gS,0,none⟩),.pointer (some ⟨gU,0,none⟩)] BR (fun _=>KpI) (fun _ W=>InM W D br nr Mr (dU st rs) U1 UG xo gD gS gU sn Ua Tw us) (fun _ x=>x ∈ cB (ag rs) st xo us sn) (fun xs=>xs=cB (ag rs) st xo us sn) w0:=by
 intro l J W _ _ _ hJ hT hY h0;have HJ:=aj hJ;have HT:=aj hT;have HY:=aj hY;have H0:=aj h0;have HOF:=aj hof;have hM:=hT _ _ h0;have Xp:=aj hrl;have bD:=hM.bD;have d4:=hM.d4;have lD:=aC bD;have lDD:=aC d4;clear hJ hT hY h0 hof hM hrl;refine callsIn_of_wp func174 rfl trivial ?_ rfl;simp only [ntmps174,List.size_toArray,List.length_cons,List.length_nil,Nat.reduceAdd,Nat.reduceSub,Array.replicate_succ,Array.replicate_zero,List.push_toArray,List.append_toArray,List.nil_append,List.cons_append];gi_wp2;clear bD d4 lD lDD
 gi_loopw [16] (fun i wr=>∃ q:Nat,q≤xo.length∧i=.int .i64 q∧Hid (J (iQ rs st us sn xo q) wr)) (fun i _=>xo.length - (intOf i).toNat)
 case atStart=>exact ⟨0,Sm _,rfl,H0⟩
 clear H0;obtain ⟨q,hq,rfl,HJ1⟩:=hrel;by_cases hlq:q < xo.length
 ·have hM:=HT.out _ _ HJ1.out;obtain ⟨bO,TK,Wm,⟨o0,o1⟩,hbO⟩:=gP.at0 hM.objs hlq;have HSQ:=aj (Pn (rs:=rs) (st:=st) (us:=us) (sn:=sn) hlq);have HOS:=aj (HOF.out _ (Sd hlq));have HOM:Hid (xo[q] ∈ xo):=Sd hlq;obtain ⟨o,ho⟩:∃ o,o=xo[q]:=⟨_,rfl⟩;rw [← ho] at o0 o1 HSQ HOS HOM;clear ho;have hq1:=bH q;have hq2:(q:Int) < (xo.length:Int):=by omega
  obtain ⟨W1,hW1⟩:∃ W1,W1=wr.alloc (.cells #[.string o.t,.string o.s] 40):=⟨_,rfl⟩;have HB1:=mY hW1;have HJ2:=aj (lc HJ.out HJ1.out HB1.out);have TH:Hid (Di W1 wr.heap.size o):=by rw [hW1]; exact World.alloc_heap_new wr _
  have hM2:=HT.out _ _ HJ2.out;have bD:=hM2.bD;have bS:=hM2.bS;have d2:=hM2.d2;obtain ⟨c0,c1,cl⟩:=TH.out.c;obtain ⟨UI,Ui,hgd,-⟩:=Jp hM2.rel (o.t,sn);obtain ⟨kl,hkl⟩:=I6 (o.t,sn) HOS.out hs0 (by show sn≤_; omega);obtain ⟨R,hR⟩:∃ R,R=G.lookL (dU st rs) (o.t,sn):=⟨_,rfl⟩;have hRl:R.length≤1000:=by rw [hR]; exact Xp.out _
  rw [← hR] at hgd HSQ;have HRE:=aj hR;have HGD:=aj hgd;have hlk:∀ m,(Instr.lookup 149 (.map (some br)) (.agg #[.string o.t,.int .i64 sn]) false).run prog (W1.drewN m)=.ok (.slice UI R.length Ui) (W1.drewN m):=fun m=>by
   have h:=(hM2.rel.map.below (below_drewN (Si _ _) m)).look (t:=149) (e:=76) Rq underlying149 (Nl _) (x:=(o.t,sn)) hkl;rw [hgd] at h;exact h
  subst Wm;clear hM hM2 hR hgd hkl;gi_wp2;rw [← hW1];clear hW1;refine wpIn_wide.2 ?_;go_quiet (fail);obtain ⟨W2,hW2⟩:∃ W2,W2=W1.drewN nq:=⟨_,rfl⟩;have HB2:Hid (aa W1 W2):=by show Below _ _ _; rw [hW2]; exact below_drewN (Si _ _) _
  have HJ3:=aj (lc HJ.out HJ2.out HB2.out);have HBX2:=aj (TH.out.kp (KpI.below HB2.out));obtain ⟨gO,hgO⟩:∃ g,g=wr.heap.size:=⟨_,rfl⟩;rw [← hgO] at HBX2 ⊢;rw [← hW2];clear hW2 hgO c0 c1 cl bD bS d2 hlk HB1 HJ2 TH HJ1 o0 o1 hbO;gi_wp2
  gi_loopw [30] (fun i w2=>∃ k:Nat,k≤R.length∧i=.int .i64 k∧Hid (J (iQ rs st us sn xo q ++ kQ R us o k) w2)∧Hid (Di w2 gO o)) (fun i _=>R.length - (intOf i).toNat)
  case atStart=>exact ⟨0,Sm _,rfl,by show J (_ ++ []) _; rw [List.append_nil]; exact HJ3.out,HBX2⟩
  clear HJ3 HBX2 HB2;obtain ⟨k,hk,rfl,HJ4,TH⟩:=hrel;by_cases hlk:k < R.length
  ·have hM:=HT.out _ _ HJ4.out;obtain ⟨adR',capR',hgd',hrows⟩:=Jp hM.rel (o.t,sn);rw [← HRE.out,HGD.out] at hgd';injection hgd' with ea eb ec;subst ea;clear eb ec;obtain ⟨gq,hadR,hgl,r0,r1⟩:=hrows k (by rw [← HRE.out]; exact hlk);have HKS:=aj (Po (us:=us) (o:=o) hlk);have hrr:(G.lookL (dU st rs) (o.t,sn))[k]'(by rw [← HRE.out]; exact hlk)=R[k]:=by simp only [HRE.out]
   rw [hrr] at r0 r1;have HRM:Hid (R[k] ∈ R):=Sd hlk;obtain ⟨r,hr⟩:∃ r,r=R[k]:=⟨_,rfl⟩;rw [← hr] at r0 r1 HKS HRM;have hk1:=bH k;have hk2:(k:Int) < (R.length:Int):=by omega
   obtain ⟨W3,hW3⟩:∃ W3,W3=wr.alloc (.cells #[.string r.name,r.sl] 122):=⟨_,rfl⟩;have HB3:=mY hW3;have HJ5:=aj (lc HJ.out HJ4.out HB3.out);have V5:=aj (TH.out.kp (KpI.below HB3.out));have VI:Hid (Fz W3 wr.heap.size r):=by rw [hW3]; exact World.alloc_heap_new wr _
   have hM3:=HT.out _ _ HJ5.out;have bU:=hM3.bU;have lU:=aC bU;have bU0:=hM.bU;have lU0:=aC bU0;unfold RR.sl at r1 hW3;obtain ⟨gR,hgR⟩:∃ g,g=wr.heap.size:=⟨_,rfl⟩;subst hadR;clear hM hM3 hr hrr hrows;gi_wp2;rw [← hW3,← hgR];rw [← hgR] at VI;clear hW3 hgR bU lU bU0 lU0 r0 r1 hgl HB3 HJ4 TH
   gi_loopw [36] (fun i w2=>∃ j:Nat,j≤us.length∧i=.int .i64 j∧Hid (J (iQ rs st us sn xo q ++ kQ R us o k ++ ja o r.name (us.take j)) w2)∧Hid (Di w2 gO o)∧Hid (Fz w2 gR r)) (fun i _=>us.length - (intOf i).toNat)
   case atStart=>exact ⟨0,Sm _,rfl,by show J (_ ++ []) _; rw [List.append_nil]; exact HJ5.out,V5,VI⟩
   clear HJ5 V5 VI;obtain ⟨j,hj,rfl,HJ6,V5,VI⟩:=hrel;by_cases hlj:j < us.length
   ·have hM:=HT.out _ _ HJ6.out;obtain ⟨bV,offV,hadU,⟨y0,y1⟩,hbV⟩:=gP.at0 hM.users hlj;have HAS:=aj (KJ o r.name hlj);obtain ⟨u,hu⟩:∃ u,u=us[j]:=⟨_,rfl⟩;rw [← hu] at y0 y1 HAS;have hj1:=bH j;have hj2:(j:Int) < (us.length:Int):=by omega
    obtain ⟨W4,TV⟩:∃ W4,W4=wr.alloc (.cells #[.string u.t,.string u.s] 40):=⟨_,rfl⟩;have TA:=mY TV;have HJ7:=lc HJ.out HJ6.out TA.out;have VJ:=aj (V5.out.kp (KpI.below TA.out));have HBR2:=aj (VI.out.kp (KpI.below TA.out));obtain ⟨fn,tmps,assign,body,hy,hR⟩:=HY.out _ ⟨o.t,o.s,r.name,u.t,u.s⟩ W4 HJ7 (KM HOM.out (by rw [← HRE.out]; exact HRM.out) (by rw [hu]; exact Sd hlj));obtain ⟨c0,c1,cl⟩:=V5.out.c;obtain ⟨e0,e1,el⟩:=VI.out.c;have HRR:=aj hR;unfold BR at hy;subst hadU;subst TV;clear hM hu HJ7 hR;gi_wp2;refine HRR.out.mono ?_;rintro e W5 ⟨rfl,hJ8,hK8⟩;have HJ8:Hid (J (iQ rs st us sn xo q ++ kQ R us o k ++ ja o r.name (us.take (j + 1))) W5):=by show J _ _; rw [HAS.out,← List.append_assoc]; exact hJ8
    have HBO3:=aj (VJ.out.kp hK8);have HBR3:=aj (HBR2.out.kp hK8);clear hJ8 hK8 hy y0 y1 c0 c1 cl e0 e1 el;gi_wp2;go_roundw;case rel=>exact ⟨j + 1,by omega,by go_num,HJ8,HBO3,HBR3⟩
    simp [intOf] <;> omega
   have HJ7:Hid (J (iQ rs st us sn xo q ++ kQ R us o (k + 1)) wr):=by
    have h1:=HJ6.out;rw [List.take_of_length_le (by omega),List.append_assoc,← HKS.out] at h1;exact h1
   gi_wp2;go_roundw;case rel=>exact ⟨k + 1,by omega,by go_num,HJ7,V5⟩
   simp [intOf] <;> omega
  have HE2:Hid (iQ rs st us sn xo q ++ kQ R us o k=iQ rs st us sn xo (q + 1)):=by show _=_; rw [HSQ.out,show k=R.length by omega]
  have HJ5:Hid (J (iQ rs st us sn xo (q + 1)) wr):=by show J _ _; rw [← HE2.out]; exact HJ4.out
  gi_wp2;go_roundw;case rel=>exact ⟨q + 1,by omega,by go_num,HJ5⟩
  simp [intOf] <;> omega
 have HE:Hid (iQ rs st us sn xo q=cB (ag rs) st xo us sn):=by show _=_; unfold iQ cB; rw [List.take_of_length_le (by omega)]
 have HJ2:Hid (J (cB (ag rs) st xo us sn) wr):=by show J _ _; rw [← HE.out]; exact HJ1.out
 gi_wp2
 go_end0
 exact ⟨⟨_,rfl⟩,_,rfl,HJ2.out⟩
end Go.Proofs.YtdmniljjnaebbaaGreatDoor
