/- The iterator over what is asked at a stratum. -/
import Derived.Test.YtdaoiceeidoehaaGreatL4Obj
import Derived.RangeFuncLeaves
import Derived.OwnWalkIn
import Derived.TacticsInMore
import Derived.LoopNIn
import Derived.LoopIn
open Go.Proofs.Tryz
set_option maxHeartbeats 80000000
namespace Go.Proofs.YtdaoiceeidoehaaGreat
set_option linter.unusedVariables false
set_option maxRecDepth 100000
open Go.ChangeShapes Go.WideShapes Go.ChangeAt Go.RowKit Go.Maps Go.Shelf
open Pl
attribute [local go_sem] Oper.semAt_some
structure InM (W:World) (D br nr:Nat) (Mr:KL→Option Value) (Er:List (KL × RR)) (adO:Option Addr) (capO:Nat) (xo:List Al) (gD gS gU:Nat) (sn:Int) (adU:Option Addr) (capU:Nat) (us:List Al):Prop where
 d2:W.cell? ⟨D,2,none⟩=some (.map (some br))
 d4:W.cell? ⟨D,4,none⟩=some (.slice adO xo.length capO)
 objs:fV W adO xo
 rel:zq W br nr Mr Er
 bD:W.cell? ⟨gD,0,none⟩=some (.pointer (some ⟨D,0,none⟩))
 bS:W.cell? ⟨gS,0,none⟩=some (.int .i64 sn)
 bU:W.cell? ⟨gU,0,none⟩=some (.slice adU us.length capU)
 users:fV W adU us
def yf (x:Fc):Array Value:=#[.agg #[.string x.a,.string x.b,.string x.r,.string x.c,.string x.d]]
theorem vI:∀ (rs:List RR) (i:Nat) (h:i < rs.length) (j:Nat),j < 2→(G.flatG J3 rs)[i * 2 + j]?=(J3 rs[i])[j]?
 | [],i,h,_,_=>by simp at h
 | r::rs,0,_,j,hj=>by
  simp only [G.flatG,List.flatMap_cons,Nat.zero_mul,Nat.zero_add,List.getElem_cons_zero];rw [List.getElem?_append_left (by simp [J3]; omega)]
 | r::rs,i + 1,h,j,hj=>by
  have ih:=vI rs i (by simpa using h) j hj;simp only [G.flatG,List.flatMap_cons,List.getElem_cons_succ] at ih ⊢;rw [List.getElem?_append_right (by simp [J3]; omega)];have:(i + 1) * 2 + j - (J3 r).length=i * 2 + j:=by simp [J3]; omega
  rw [this]; exact ih
theorem EX {W:World} {br nr:Nat} {Mr:KL→Option Value} {Er:List (KL × RR)} (h:zq W br nr Mr Er) (k:KL):∃ ad cap,(Mr k).getD (.slice none 0 0)=.slice ad (G.lookL Er k).length cap∧(∀ i (hi:i < (G.lookL Er k).length),∃ g,ad=some ⟨g,0,none⟩∧g < W.heap.size∧W.cell? ⟨g,i * 2,none⟩=some (.string (G.lookL Er k)[i].name)∧W.cell? ⟨g,i * 2 + 1,none⟩=some (G.lookL Er k)[i].sl):=by
 have ho:=xV h k;rcases ho.2 with ⟨e,h0⟩ | ⟨g,cap,cur,e,hbg,hg,hnc,-⟩
 ·exact ⟨none,0,by rw [e,h0],fun i hi=>by omega⟩
 ·refine ⟨_,cap,e,fun i hi=>⟨g,rfl,(ho.lt g (by rw [e]; rfl)).2,?_,?_⟩⟩
  ·rw [e] at ho;rw [ho.cellAt (i * 2) (by omega)];exact vI _ i hi 0 (by omega)
  ·rw [e] at ho;rw [ho.cellAt (i * 2 + 1) (by omega)];exact vI _ i hi 1 (by omega)
def zC (W:World) (g:Nat) (o:Al):Prop:=W.heap[g]?=some (.cells #[.string o.t,.string o.s] 40 (0,0))
def Bv (W:World) (g:Nat) (r:RR):Prop:=W.heap[g]?=some (.cells #[.string r.name,r.sl] 152 (0,0))
theorem zC.c {W:World} {g:Nat} {o:Al} (h:zC W g o):W.cell? ⟨g,0,none⟩=some (.string o.t)∧W.cell? ⟨g,1,none⟩=some (.string o.s)∧g < W.heap.size:=by
 have hl:=(Array.getElem?_eq_some_iff.1 h).1;unfold zC at h;exact ⟨by simp [World.cell?,h],by simp [World.cell?,h],hl⟩
theorem Bv.c {W:World} {g:Nat} {r:RR} (h:Bv W g r):W.cell? ⟨g,0,none⟩=some (.string r.name)∧W.cell? ⟨g,1,none⟩=some r.sl∧g < W.heap.size:=by
 have hl:=(Array.getElem?_eq_some_iff.1 h).1;unfold Bv at h;exact ⟨by simp [World.cell?,h],by simp [World.cell?,h],hl⟩
theorem zC.kp {W W':World} {g:Nat} {o:Al} (h:zC W g o) (hk:KpI W W'):zC W' g o:=hk.cells g _ _ _ h (.inl rfl)
theorem Bv.kp {W W':World} {g:Nat} {r:RR} (h:Bv W g r) (hk:KpI W W'):Bv W' g r:=hk.cells g _ _ _ h (.inr rfl)
def iQ (rs:List TR) (st:ByteArray × ByteArray→Int) (us:List Al) (sn:Int) (xo:List Al) (q:Nat):List Fc:=(xo.take q).flatMap (su (ae rs) st us sn)
def kQ (R:List RR) (us:List Al) (o:Al) (k:Nat):List Fc:=(R.take k).flatMap fun r=>iw o r.name us
theorem Kb {rs:List TR} {st:ByteArray × ByteArray→Int} {us:List Al} {sn:Int} {xo:List Al} {q:Nat} (h:q < xo.length):iQ rs st us sn xo (q + 1)=iQ rs st us sn xo q ++ kQ (G.lookL (dF st rs) (xo[q].t,sn)) us xo[q] (G.lookL (dF st rs) (xo[q].t,sn)).length:=by
 unfold iQ kQ;rw [List.take_succ_eq_append_getElem h,List.flatMap_append,List.take_length];congr 1;simp only [List.flatMap_cons,List.flatMap_nil,List.append_nil];unfold su;rw [Bp,List.flatMap_map]
theorem Kc {R:List RR} {us:List Al} {o:Al} {k:Nat} (h:k < R.length):kQ R us o (k + 1)=kQ R us o k ++ iw o R[k].name us:=by
 unfold kQ;rw [List.take_succ_eq_append_getElem h,List.flatMap_append];simp
theorem Ga (o:Al) (rel:ByteArray) {xu:List Al} {j:Nat} (h:j < xu.length):iw o rel (xu.take (j + 1))=iw o rel (xu.take j) ++ [⟨o.t,o.s,rel,xu[j].t,xu[j].s⟩]:=by
 unfold iw;rw [List.take_succ_eq_append_getElem h,List.map_append]; rfl
theorem Gb {rs:List TR} {st:ByteArray × ByteArray→Int} {xo us:List Al} {sn:Int} {o:Al} {r:RR} {u:Al} (ho:o ∈ xo) (hr:r ∈ G.lookL (dF st rs) (o.t,sn)) (hu:u ∈ us):(⟨o.t,o.s,r.name,u.t,u.s⟩:Fc) ∈ bF (ae rs) st xo us sn:=by
 unfold bF su;refine List.mem_flatMap.2 ⟨o,ho,List.mem_flatMap.2 ⟨(o.t,r.name),?_,List.mem_map.2 ⟨u,hu,rfl⟩⟩⟩;rw [Bp];exact List.mem_map.2 ⟨r,hr,rfl⟩
theorem I1 (n:Nat) (hn:1≤n) (D br nr:Nat) (Mr:KL→Option Value) (st:ByteArray × ByteArray→Int) (rs:List TR) (adO:Option Addr) (capO:Nat) (xo:List Al) (gD gS gU:Nat) (sn:Int) (adU:Option Addr) (capU:Nat) (us:List Al) (w0:World) (hs0:0≤sn) (hs1:sn≤1000) (hol:xo.length≤1000) (hul:us.length≤1000) (hrl:∀ k,(G.lookL (dF st rs) k).length≤1000) (hof:∀ o ∈ xo,o.t.size≤maxLen) :
  yH Fence.wide n prog 151 #[.pointer (some ⟨gD,0,none⟩),.pointer (some ⟨gS,0,none⟩),.pointer (some ⟨gU,0,none⟩)] yf (fun _=>KpI) (fun _ W=>InM W D br nr Mr (dF st rs) adO capO xo gD gS gU sn adU capU us) (fun _ x=>x ∈ bF (ae rs) st xo us sn) (fun xs=>xs=bF (ae rs) st xo us sn) w0:=by
 intro l J W _ _ _ hJ hT hY h0;have HJ:=ag hJ;have HT:=ag hT;have HY:=ag hY;have H0:=ag h0;have HOF:=ag hof;have hM:=hT _ _ h0;have HRL:=ag hrl;have bD:=hM.bD;have d4:=hM.d4;have lD:=ax bD;have lDD:=ax d4;clear hJ hT hY h0 hof hM hrl;refine callsIn_of_wp func151 rfl trivial ?_ rfl;simp only [ntmps151,List.size_toArray,List.length_cons,List.length_nil,Nat.reduceAdd,Nat.reduceSub,Array.replicate_succ,Array.replicate_zero,List.push_toArray,List.append_toArray,List.nil_append,List.cons_append];gi_wp2;clear bD d4 lD lDD
 gi_loopw [16] (fun i wr=>∃ q:Nat,q≤xo.length∧i=.int .i64 q∧Hid (J (iQ rs st us sn xo q) wr)) (fun i _=>xo.length - (intOf i).toNat)
 case atStart=>exact ⟨0,Nat.zero_le _,rfl,H0⟩
 case round =>
  clear H0;obtain ⟨q,hq,rfl,HJ1⟩:=hrel;by_cases hlq:q < xo.length
  ·have hM:=HT.out _ _ HJ1.out;obtain ⟨bO,offO,hadO,⟨o0,o1⟩,hbO⟩:=fV.at0 hM.objs hlq;have HSQ:=ag (Kb (rs:=rs) (st:=st) (us:=us) (sn:=sn) hlq);have HOS:=ag (HOF.out _ (List.getElem_mem hlq));have HOM:Hid (xo[q] ∈ xo):=List.getElem_mem hlq;obtain ⟨o,ho⟩:∃ o,o=xo[q]:=⟨_,rfl⟩;rw [← ho] at o0 o1 HSQ HOS HOM;clear ho;have hq1:=aY q;have hq2:(q:Int) < (xo.length:Int):=by omega
   obtain ⟨W1,hW1⟩:∃ W1,W1=wr.alloc (.cells #[.string o.t,.string o.s] 40):=⟨_,rfl⟩;have HB1:=nX hW1;have HJ2:=ag (jF HJ.out HJ1.out HB1.out);have HBX:Hid (zC W1 wr.heap.size o):=by rw [hW1]; exact World.alloc_heap_new wr _
   have hM2:=HT.out _ _ HJ2.out;have bD:=hM2.bD;have bS:=hM2.bS;have d2:=hM2.d2;obtain ⟨c0,c1,cl⟩:=HBX.out.c;obtain ⟨adR,capR,hgd,-⟩:=EX hM2.rel (o.t,sn);obtain ⟨kl,hkl⟩:=EO (o.t,sn) HOS.out hs0 (by show sn≤_; omega);obtain ⟨R,hR⟩:∃ R,R=G.lookL (dF st rs) (o.t,sn):=⟨_,rfl⟩;have hRl:R.length≤1000:=by rw [hR]; exact HRL.out _
   rw [← hR] at hgd HSQ;have HRE:=ag hR;have HGD:=ag hgd;have hlk:∀ m,(Instr.lookup 125 (.map (some br)) (.agg #[.string o.t,.int .i64 sn]) false).run prog (W1.drewN m)=.ok (.slice adR R.length capR) (W1.drewN m):=fun m=>by
    have h:=(hM2.rel.map.below (below_drewN (Below.refl _ _) m)).look (t:=125) (e:=68) L6 underlying125 (IV _) (x:=(o.t,sn)) hkl;rw [hgd] at h;exact h
   subst hadO;clear hM hM2 hR hgd hkl;gi_wp2;rw [← hW1];clear hW1;refine wpIn_wide.2 ?_;go_quiet (fail);obtain ⟨W2,hW2⟩:∃ W2,W2=W1.drewN nq:=⟨_,rfl⟩;have HB2:Hid (Below W1.heap.size W1 W2):=by show Below _ _ _; rw [hW2]; exact below_drewN (Below.refl _ _) _
   have HJ3:=ag (jF HJ.out HJ2.out HB2.out);have HBX2:=ag (HBX.out.kp (KpI.below HB2.out));obtain ⟨gO,hgO⟩:∃ g,g=wr.heap.size:=⟨_,rfl⟩;rw [← hgO] at HBX2 ⊢;rw [← hW2];clear hW2 hgO c0 c1 cl bD bS d2 hlk HB1 HJ2 HBX HJ1 o0 o1 hbO;gi_wp2
   gi_loopw [30] (fun i w2=>∃ k:Nat,k≤R.length∧i=.int .i64 k∧Hid (J (iQ rs st us sn xo q ++ kQ R us o k) w2)∧Hid (zC w2 gO o)) (fun i _=>R.length - (intOf i).toNat)
   case atStart=>exact ⟨0,Nat.zero_le _,rfl,by show J (_ ++ []) _; rw [List.append_nil]; exact HJ3.out,HBX2⟩
   case round =>
    clear HJ3 HBX2 HB2;obtain ⟨k,hk,rfl,HJ4,HBX⟩:=hrel;by_cases hlk:k < R.length
    ·have hM:=HT.out _ _ HJ4.out;obtain ⟨adR',capR',hgd',hrows⟩:=EX hM.rel (o.t,sn);rw [← HRE.out,HGD.out] at hgd';injection hgd' with ea eb ec;subst ea;clear eb ec;obtain ⟨gq,hadR,hgl,r0,r1⟩:=hrows k (by rw [← HRE.out]; exact hlk);have HKS:=ag (Kc (us:=us) (o:=o) hlk);have hrr:(G.lookL (dF st rs) (o.t,sn))[k]'(by rw [← HRE.out]; exact hlk)=R[k]:=by simp only [HRE.out]
     rw [hrr] at r0 r1;have HRM:Hid (R[k] ∈ R):=List.getElem_mem hlk;obtain ⟨r,hr⟩:∃ r,r=R[k]:=⟨_,rfl⟩;rw [← hr] at r0 r1 HKS HRM;have hk1:=aY k;have hk2:(k:Int) < (R.length:Int):=by omega
     obtain ⟨W3,hW3⟩:∃ W3,W3=wr.alloc (.cells #[.string r.name,r.sl] 152):=⟨_,rfl⟩;have HB3:=nX hW3;have HJ5:=ag (jF HJ.out HJ4.out HB3.out);have HBO:=ag (HBX.out.kp (KpI.below HB3.out));have HBR:Hid (Bv W3 wr.heap.size r):=by rw [hW3]; exact World.alloc_heap_new wr _
     have hM3:=HT.out _ _ HJ5.out;have bU:=hM3.bU;have lU:=ax bU;have bU0:=hM.bU;have lU0:=ax bU0;unfold RR.sl at r1 hW3;obtain ⟨gR,hgR⟩:∃ g,g=wr.heap.size:=⟨_,rfl⟩;subst hadR;clear hM hM3 hr hrr hrows;gi_wp2;rw [← hW3,← hgR];rw [← hgR] at HBR;clear hW3 hgR bU lU bU0 lU0 r0 r1 hgl HB3 HJ4 HBX
     gi_loopw [36] (fun i w2=>∃ j:Nat,j≤us.length∧i=.int .i64 j∧Hid (J (iQ rs st us sn xo q ++ kQ R us o k ++ iw o r.name (us.take j)) w2)∧Hid (zC w2 gO o)∧Hid (Bv w2 gR r)) (fun i _=>us.length - (intOf i).toNat)
     case atStart=>exact ⟨0,Nat.zero_le _,rfl,by show J (_ ++ []) _; rw [List.append_nil]; exact HJ5.out,HBO,HBR⟩
     case round =>
      clear HJ5 HBO HBR;obtain ⟨j,hj,rfl,HJ6,HBO,HBR⟩:=hrel;by_cases hlj:j < us.length
      ·have hM:=HT.out _ _ HJ6.out;obtain ⟨bV,offV,hadU,⟨y0,y1⟩,hbV⟩:=fV.at0 hM.users hlj;have HAS:=ag (Ga o r.name hlj);obtain ⟨u,hu⟩:∃ u,u=us[j]:=⟨_,rfl⟩;rw [← hu] at y0 y1 HAS;have hj1:=aY j;have hj2:(j:Int) < (us.length:Int):=by omega
       obtain ⟨W4,hW4⟩:∃ W4,W4=wr.alloc (.cells #[.string u.t,.string u.s] 40):=⟨_,rfl⟩;have HB4:=nX hW4;have HJ7:=jF HJ.out HJ6.out HB4.out;have HBO2:=ag (HBO.out.kp (KpI.below HB4.out));have HBR2:=ag (HBR.out.kp (KpI.below HB4.out));obtain ⟨fn,tmps,assign,body,hy,hR⟩:=HY.out _ ⟨o.t,o.s,r.name,u.t,u.s⟩ W4 HJ7 (Gb HOM.out (by rw [← HRE.out]; exact HRM.out) (by rw [hu]; exact List.getElem_mem hlj));obtain ⟨c0,c1,cl⟩:=HBO.out.c;obtain ⟨e0,e1,el⟩:=HBR.out.c;have HRR:=ag hR;unfold yf at hy;subst hadU;subst hW4;clear hM hu HJ7 hR;gi_wp2;refine HRR.out.mono ?_;rintro e W5 ⟨rfl,hJ8,hK8⟩;have HJ8:Hid (J (iQ rs st us sn xo q ++ kQ R us o k ++ iw o r.name (us.take (j + 1))) W5):=by show J _ _; rw [HAS.out,← List.append_assoc]; exact hJ8
       have HBO3:=ag (HBO2.out.kp hK8);have HBR3:=ag (HBR2.out.kp hK8);clear hJ8 hK8 hy y0 y1 c0 c1 cl e0 e1 el;gi_wp2;go_roundw;case rel=>exact ⟨j + 1,by omega,by go_num,HJ8,HBO3,HBR3⟩
       case measure=>simp [intOf] <;> omega
      ·have HJ7:Hid (J (iQ rs st us sn xo q ++ kQ R us o (k + 1)) wr):=by
        have h1:=HJ6.out;rw [List.take_of_length_le (by omega),List.append_assoc,← HKS.out] at h1;exact h1
       gi_wp2;go_roundw;case rel=>exact ⟨k + 1,by omega,by go_num,HJ7,HBO⟩
       case measure=>simp [intOf] <;> omega
    ·have HE2:Hid (iQ rs st us sn xo q ++ kQ R us o k=iQ rs st us sn xo (q + 1)):=by show _=_; rw [HSQ.out,show k=R.length by omega]
     have HJ5:Hid (J (iQ rs st us sn xo (q + 1)) wr):=by show J _ _; rw [← HE2.out]; exact HJ4.out
     gi_wp2;go_roundw;case rel=>exact ⟨q + 1,by omega,by go_num,HJ5⟩
     case measure=>simp [intOf] <;> omega
  ·have HE:Hid (iQ rs st us sn xo q=bF (ae rs) st xo us sn):=by show _=_; unfold iQ bF; rw [List.take_of_length_le (by omega)]
   have HJ2:Hid (J (bF (ae rs) st xo us sn) wr):=by show J _ _; rw [← HE.out]; exact HJ1.out
   gi_wp2
   go_end0
   exact ⟨⟨_,rfl⟩,_,rfl,HJ2.out⟩
end Go.Proofs.YtdaoiceeidoehaaGreat
namespace Go.Proofs.YtdaoiceeidoehaaGreat
set_option linter.unusedVariables false
set_option maxRecDepth 100000
open Go.ChangeShapes Go.WideShapes Go.ChangeAt Go.RowKit Go.Maps
open Pl
theorem Bw (v0:Value) (adT:Option Addr) (capT:Nat) (ts:List Tp) (adE:Option Addr) (capE:Nat) (rows:List ER) (n:Nat) (adK:Option Addr) (capK:Nat) (known:List Fc) (adR:Option Addr) (capR:Nat) (truth:List Fc) (f:Fc) (w:World) (hW:HW w adT ts adE rows adK known adR truth) (hn:n < rows.length) (hre:rows.length≤1000) (hkl:known.length≤1048576) (hk:rows[n].e.kind=2) :
  Calls prog 58 #[v0,.slice adT ts.length capT,.slice adE rows.length capE,.int .i64 (n:Int),.slice adK known.length capK,.slice adR truth.length capR,.agg #[.string f.a,.string f.b,.string f.r,.string f.c,.string f.d]] w fun e w'=>e=.returned (.bool (df known ⟨f.a,f.b,rows[n].e.name,f.c,f.d⟩))∧Below w.heap.size w w':=by
 obtain ⟨b,off,hadr,⟨t0,t1,t2,t3,t4⟩,hbl,-⟩:=dw.at0 hW.ex hn;have HW0:=ag hW;obtain ⟨W0,hW0⟩:∃ W0,W0=p9 w f rows[n]:=⟨_,rfl⟩;have HB0:Hid (Below w.heap.size w W0):=by show Below _ _ _; rw [hW0]; exact dm _ _ _
 have hk1:(rows[n].e.kind == 1)=false:=by rw [hk]; rfl
 have hk2:(rows[n].e.kind == 2)=true:=by rw [hk]; rfl
 have hn1:=aY n;have hn2:(n:Int) < (rows.length:Int):=by omega
 unfold p9 at hW0;rw [hadr];clear hadr hW hk;go_enter func58,ntmps58;go_wp2_with fail;rw [← hW0];refine (mZ adK capK known ⟨f.a,f.b,rows[n].e.name,f.c,f.d⟩ W0 hkl (HW0.out.kn.below HB0.out)).mono ?_;rintro e w1 ⟨rfl,hb1⟩;have HB1:=ag (HB0.out.trans (hb1.mono HB0.out.size));clear hb1 hW0;go_wp2;go_ret;exact ⟨rfl,HB1.out⟩
theorem DU (v0:Value) (adT:Option Addr) (capT:Nat) (ts:List Tp) (adE:Option Addr) (capE:Nat) (rows:List ER) (n:Nat) (vK vR:Value) (f:Fc) (w:World) (hex:dw w adE rows) (hn:n < rows.length) (hre:rows.length≤1000) (k1:rows[n].e.kind ≠ 1) (k2:rows[n].e.kind ≠ 2) (k3:rows[n].e.kind ≠ 3) (k4:rows[n].e.kind ≠ 4) (k5:rows[n].e.kind ≠ 5) (k6:rows[n].e.kind ≠ 6) :
  Calls prog 58 #[v0,.slice adT ts.length capT,.slice adE rows.length capE,.int .i64 (n:Int),vK,vR,.agg #[.string f.a,.string f.b,.string f.r,.string f.c,.string f.d]] w fun e w'=>e=.returned (.bool false)∧Below w.heap.size w w':=by
 obtain ⟨b,off,hadr,⟨t0,t1,t2,t3,t4⟩,hbl,-⟩:=dw.at0 hex hn;have HB0:=ag (dm w f rows[n]);unfold p9 at HB0;have hk1:(rows[n].e.kind == 1)=false:=by simpa using k1
 have hk2:(rows[n].e.kind == 2)=false:=by simpa using k2
 have hk3:(rows[n].e.kind == 3)=false:=by simpa using k3
 have hk4:(rows[n].e.kind == 4)=false:=by simpa using k4
 have hk5:(rows[n].e.kind == 5)=false:=by simpa using k5
 have hk6:(rows[n].e.kind == 6)=false:=by simpa using k6
 have hn1:=aY n;have hn2:(n:Int) < (rows.length:Int):=by omega
 rw [hadr];clear hadr hex k1 k2 k3 k4 k5 k6;go_enter func58,ntmps58;go_wp2;go_ret;exact ⟨rfl,HB0.out⟩
theorem zD (v0:Value) (adT:Option Addr) (capT:Nat) (ts:List Tp) (adE:Option Addr) (capE:Nat) (rows:List ER) (n:Nat) (adK:Option Addr) (capK:Nat) (known:List Fc) (adR:Option Addr) (capR:Nat) (truth:List Fc) (f:Fc) (w:World) (hW:HW w adT ts adE rows adK known adR truth) (hn:n < rows.length) (hre:rows.length≤1000) (hkl:known.length≤1048576) (htl:ts.length≤1048576) (hk:rows[n].e.kind=1) :
  Calls prog 58 #[v0,.slice adT ts.length capT,.slice adE rows.length capE,.int .i64 (n:Int),.slice adK known.length capK,.slice adR truth.length capR,.agg #[.string f.a,.string f.b,.string f.r,.string f.c,.string f.d]] w fun e w'=>e=.returned (.bool (dP ts known f))∧Below w.heap.size w w':=by
 obtain ⟨b,off,hadr,⟨t0,t1,t2,t3,t4⟩,hbl,-⟩:=dw.at0 hW.ex hn;have HW0:=ag hW;obtain ⟨W0,hW0⟩:∃ W0,W0=p9 w f rows[n]:=⟨_,rfl⟩;have HB0:Hid (Below w.heap.size w W0):=by show Below _ _ _; rw [hW0]; exact dm _ _ _
 have HE0:Hid (EnB W0 w.heap.size f rows[n]):=by show EnB _ _ _ _; rw [hW0]; exact dY _ _ _
 have hk1:(rows[n].e.kind == 1)=true:=by rw [hk]; rfl
 have hn1:=aY n;have hn2:(n:Int) < (rows.length:Int):=by omega
 unfold p9 at hW0;rw [hadr];clear hadr hW hk;go_enter func58,ntmps58;go_wp2_with fail;rw [← hW0];clear hW0 t0 t1 t2 t3 t4;go_loopw [16] (fun i wr=>∃ k:Nat,k≤ts.length∧i=.int .i64 k∧Hid (dP (ts.drop k) known f=dP ts known f)∧Hid (Below W0.heap.size W0 wr)) (fun i _=>ts.length - (intOf i).toNat);case atStart=>exact ⟨0,Nat.zero_le _,rfl,rfl,Below.refl _ _⟩
 case round =>
  obtain ⟨k,hk,rfl,HP,HB⟩:=hrel;have HBW:Hid (Below w.heap.size w wr):=HB0.out.trans (HB.out.mono HB0.out.size);by_cases hlt:k < ts.length
  ·obtain ⟨bT,offT,hadT,⟨a0,a1,a2,a3,a4,a5⟩,hbT⟩:=Sl.at0 (HW0.out.tup.below HBW.out) hlt;have hE:=HE0.out.below HB.out;have e0:=hE.f0;have e1:=hE.f1;have e2:=hE.f2;have e3:=hE.f3;have e4:=hE.f4;have el:w.heap.size < wr.heap.size:=by have:=hE.lt; omega
   have hi1:=aY k;have hi2:(k:Int) < (ts.length:Int):=by omega
   obtain ⟨W1,hW1⟩:∃ W1,W1=wr.alloc (.cells #[.string ts[k].a,.string ts[k].b,.string ts[k].r,.string ts[k].c,.string ts[k].d,.string ts[k].s] 73):=⟨_,rfl⟩;have HBr:=nX hW1;have HB1:Hid (Below W0.heap.size W0 W1):=HB.out.trans (HBr.out.mono HB.out.size);have HBW1:Hid (Below w.heap.size w W1):=HBW.out.trans (HBr.out.mono HBW.out.size);have HD:Hid (dP ts known f=(vH known f ts[k] || dP (ts.drop (k + 1)) known f)):=by show _=_; rw [← HP.out]; exact DN hlt known f
   rw [hadT];clear hadT hE;cases ho:qx ts[k].a ts[k].b f.a f.b with
   | false =>
    have hneq:=Bt _ _ _ _ ho;have HP2:Hid (dP (ts.drop (k + 1)) known f=dP ts known f):=by
     show _=_;unfold qx at ho;rw [HD.out]; unfold vH; rw [ho]; rfl
    clear ho;go_wp2;rw [← hW1];clear hW1;go_roundw;case rel=>exact ⟨k + 1,by omega,by go_num,HP2,HB1⟩
    case measure=>simp [intOf] <;> omega
   | true =>
    have hneq:=Bt _ _ _ _ ho;have HO:Hid (qx ts[k].a ts[k].b f.a f.b=true):=ho;clear ho;cases hr:(ts[k].r.toList == f.r.toList) with
    | false =>
     have HP2:Hid (dP (ts.drop (k + 1)) known f=dP ts known f):=by
      show _=_;have h2:=HO.out;unfold qx at h2;rw [HD.out]; unfold vH; rw [h2,hr]; rfl
     go_wp2;rw [← hW1];clear hW1;go_roundw;case rel=>exact ⟨k + 1,by omega,by go_num,HP2,HB1⟩
     case measure=>simp [intOf] <;> omega
    | true =>
     have HT:Hid (vH known f ts[k]=(if ts[k].s.toList.isEmpty then ts[k].c.toList == f.c.toList && ts[k].d.toList == f.d.toList else df known ⟨ts[k].c,ts[k].d,ts[k].s,f.c,f.d⟩)):=by
      show _=_;have h2:=HO.out;unfold qx at h2;unfold vH; rw [h2,hr]; rfl
     cases hs:ts[k].s.toList.isEmpty with
     | true =>
      have hs2:(ts[k].s.toList == [])=true:=by rw [jI]; exact hs
      cases hu:qx ts[k].c ts[k].d f.c f.d with
      | true =>
       have heq:=dD _ _ _ _ hu;have HN:Hid (dP ts known f=true):=by
        show _=_;unfold qx at hu;rw [HD.out,HT.out,if_pos hs,hu]; rfl
       clear hu hs;go_wp2;rw [← hW1];go_ret;exact ⟨by rw [HN.out]; rfl,HBW1.out⟩
      | false =>
       have heq:=dD _ _ _ _ hu;have HP2:Hid (dP (ts.drop (k + 1)) known f=dP ts known f):=by
        show _=_;unfold qx at hu;rw [HD.out,HT.out,if_pos hs,hu]; rfl
       clear hu hs;go_wp2;rw [← hW1];clear hW1;go_roundw;case rel=>exact ⟨k + 1,by omega,by go_num,HP2,HB1⟩
       case measure=>simp [intOf] <;> omega
     | false =>
      have hs2:(ts[k].s.toList == [])=false:=by rw [jI]; exact hs
      have HT2:Hid (vH known f ts[k]=df known ⟨ts[k].c,ts[k].d,ts[k].s,f.c,f.d⟩):=by show _=_; rw [HT.out,if_neg (by rw [hs]; decide)]
      clear hs;go_wp2_with fail;rw [← hW1];clear hW1;refine (mZ adK capK known ⟨ts[k].c,ts[k].d,ts[k].s,f.c,f.d⟩ W1 hkl (HW0.out.kn.below HBW1.out)).mono ?_;rintro e w2 ⟨rfl,hb2⟩;have HB2:=fK HB1 hb2;have HBW2:=fK HBW1 hb2;clear hb2;cases hh:df known ⟨ts[k].c,ts[k].d,ts[k].s,f.c,f.d⟩ with
      | true =>
       have HN:Hid (dP ts known f=true):=by show _=_; rw [HD.out,HT2.out,hh]; rfl
       go_wp2;go_ret;exact ⟨by rw [HN.out]; rfl,HBW2.out⟩
      | false =>
       have HP2:Hid (dP (ts.drop (k + 1)) known f=dP ts known f):=by show _=_; rw [HD.out,HT2.out,hh]; rfl
       go_wp2;go_roundw;case rel=>exact ⟨k + 1,by omega,by go_num,HP2,HB2⟩
       case measure=>simp [intOf] <;> omega
  ·have HN:Hid (dP ts known f=false):=by show _=_; rw [← HP.out,List.drop_of_length_le (by omega)]; rfl
   go_wp2;go_ret;exact ⟨by rw [HN.out]; rfl,HBW.out⟩
theorem zF (v0:Value) (adT:Option Addr) (capT:Nat) (ts:List Tp) (adE:Option Addr) (capE:Nat) (rows:List ER) (n:Nat) (adK:Option Addr) (capK:Nat) (known:List Fc) (adR:Option Addr) (capR:Nat) (truth:List Fc) (f:Fc) (w:World) (hW:HW w adT ts adE rows adK known adR truth) (hn:n < rows.length) (hre:rows.length≤1000) (hkl:known.length≤1048576) (htl:ts.length≤1048576) (hk:rows[n].e.kind=3) :
  Calls prog 58 #[v0,.slice adT ts.length capT,.slice adE rows.length capE,.int .i64 (n:Int),.slice adK known.length capK,.slice adR truth.length capR,.agg #[.string f.a,.string f.b,.string f.r,.string f.c,.string f.d]] w fun e w'=>e=.returned (.bool (eO ts known rows[n].e.over rows[n].e.name f))∧Below w.heap.size w w':=by
 obtain ⟨b,off,hadr,⟨t0,t1,t2,t3,t4⟩,hbl,-⟩:=dw.at0 hW.ex hn;have HW0:=ag hW;obtain ⟨W0,hW0⟩:∃ W0,W0=p9 w f rows[n]:=⟨_,rfl⟩;have HB0:Hid (Below w.heap.size w W0):=by show Below _ _ _; rw [hW0]; exact dm _ _ _
 have HE0:Hid (EnB W0 w.heap.size f rows[n]):=by show EnB _ _ _ _; rw [hW0]; exact dY _ _ _
 have hk1:(rows[n].e.kind == 1)=false:=by rw [hk]; rfl
 have hk2:(rows[n].e.kind == 2)=false:=by rw [hk]; rfl
 have hk3:(rows[n].e.kind == 3)=true:=by rw [hk]; rfl
 have hn1:=aY n;have hn2:(n:Int) < (rows.length:Int):=by omega
 unfold p9 at hW0;rw [hadr];clear hadr hW hk;go_enter func58,ntmps58;go_wp2_with fail;rw [← hW0];clear hW0 t0 t1 t2 t3 t4;go_loopw [18] (fun i wr=>∃ k:Nat,k≤ts.length∧i=.int .i64 k∧Hid (eO (ts.drop k) known rows[n].e.over rows[n].e.name f=eO ts known rows[n].e.over rows[n].e.name f)∧Hid (Below W0.heap.size W0 wr)) (fun i _=>ts.length - (intOf i).toNat);case atStart=>exact ⟨0,Nat.zero_le _,rfl,rfl,Below.refl _ _⟩
 case round =>
  obtain ⟨k,hk,rfl,HP,HB⟩:=hrel;have HBW:Hid (Below w.heap.size w wr):=HB0.out.trans (HB.out.mono HB0.out.size);by_cases hlt:k < ts.length
  ·obtain ⟨bT,offT,hadT,⟨a0,a1,a2,a3,a4,a5⟩,hbT⟩:=Sl.at0 (HW0.out.tup.below HBW.out) hlt;have hE:=HE0.out.below HB.out;have e0:=hE.f0;have e1:=hE.f1;have e2:=hE.f2;have e3:=hE.f3;have e4:=hE.f4;have el:w.heap.size < wr.heap.size:=by have:=hE.lt; omega
   have el2:w.heap.size + 1 < wr.heap.size:=hE.lt;have g2:=hE.x2;have g3:=hE.x3;have hi1:=aY k;have hi2:(k:Int) < (ts.length:Int):=by omega
   obtain ⟨W1,hW1⟩:∃ W1,W1=wr.alloc (.cells #[.string ts[k].a,.string ts[k].b,.string ts[k].r,.string ts[k].c,.string ts[k].d,.string ts[k].s] 73):=⟨_,rfl⟩;have HBr:=nX hW1;have HB1:Hid (Below W0.heap.size W0 W1):=HB.out.trans (HBr.out.mono HB.out.size);have HBW1:Hid (Below w.heap.size w W1):=HBW.out.trans (HBr.out.mono HBW.out.size);have HD:Hid (eO ts known rows[n].e.over rows[n].e.name f=(xY known rows[n].e.over rows[n].e.name f ts[k] || eO (ts.drop (k + 1)) known rows[n].e.over rows[n].e.name f)):=by show _=_; rw [← HP.out]; exact DR hlt known _ _ f
   rw [hadT];clear hadT hE;cases ho:qx ts[k].a ts[k].b f.a f.b with
   | false =>
    have hoeq:=dD _ _ _ _ ho;have HP2:Hid (eO (ts.drop (k + 1)) known rows[n].e.over rows[n].e.name f=eO ts known rows[n].e.over rows[n].e.name f):=by
     show _=_;unfold qx at ho;rw [HD.out]; unfold xY; rw [ho]; rfl
    clear ho;go_wp2;rw [← hW1];clear hW1;go_roundw;case rel=>exact ⟨k + 1,by omega,by go_num,HP2,HB1⟩
    case measure=>simp [intOf] <;> omega
   | true =>
    have hoeq:=dD _ _ _ _ ho;have HO:Hid (qx ts[k].a ts[k].b f.a f.b=true):=ho;clear ho;cases hr:(ts[k].r.toList == rows[n].e.over.toList) with
    | false =>
     have HP2:Hid (eO (ts.drop (k + 1)) known rows[n].e.over rows[n].e.name f=eO ts known rows[n].e.over rows[n].e.name f):=by
      show _=_;have h2:=HO.out;unfold qx at h2;rw [HD.out]; unfold xY; rw [h2,hr]; rfl
     go_wp2;rw [← hW1];clear hW1;go_roundw;case rel=>exact ⟨k + 1,by omega,by go_num,HP2,HB1⟩
     case measure=>simp [intOf] <;> omega
    | true =>
     have HT2:Hid (xY known rows[n].e.over rows[n].e.name f ts[k]=df known ⟨ts[k].c,ts[k].d,rows[n].e.name,f.c,f.d⟩):=by
      show _=_;have h2:=HO.out;unfold qx at h2;unfold xY; rw [h2,hr]; rfl
     go_wp2_with fail;rw [← hW1];clear hW1;refine (mZ adK capK known ⟨ts[k].c,ts[k].d,rows[n].e.name,f.c,f.d⟩ W1 hkl (HW0.out.kn.below HBW1.out)).mono ?_;rintro e w2 ⟨rfl,hb2⟩;have HB2:=fK HB1 hb2;have HBW2:=fK HBW1 hb2;clear hb2;cases hh:df known ⟨ts[k].c,ts[k].d,rows[n].e.name,f.c,f.d⟩ with
     | true =>
      have HN:Hid (eO ts known rows[n].e.over rows[n].e.name f=true):=by show _=_; rw [HD.out,HT2.out,hh]; rfl
      go_wp2;go_ret;exact ⟨by rw [HN.out]; rfl,HBW2.out⟩
     | false =>
      have HP2:Hid (eO (ts.drop (k + 1)) known rows[n].e.over rows[n].e.name f=eO ts known rows[n].e.over rows[n].e.name f):=by show _=_; rw [HD.out,HT2.out,hh]; rfl
      go_wp2;go_roundw;case rel=>exact ⟨k + 1,by omega,by go_num,HP2,HB2⟩
      case measure=>simp [intOf] <;> omega
  ·have HN:Hid (eO ts known rows[n].e.over rows[n].e.name f=false):=by show _=_; rw [← HP.out,List.drop_of_length_le (by omega)]; rfl
   go_wp2;go_ret;exact ⟨by rw [HN.out]; rfl,HBW.out⟩
end Go.Proofs.YtdaoiceeidoehaaGreat
