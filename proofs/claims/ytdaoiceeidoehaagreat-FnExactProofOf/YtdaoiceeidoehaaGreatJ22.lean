/- The iterator over what is asked at a stratum. -/
import Derived.Test.YtdaoiceeidoehaaGreatL4Obj
import Derived.RangeFuncLeaves
import Derived.OwnWalkIn
import Derived.TacticsInMore
import Derived.LoopNIn
import Derived.LoopIn
open Go.Proofs.Tryz
set_option maxHeartbeats 80000000
namespace Go.Proofs.YtdaoiceeidoehaaGreat
set_option linter.unusedVariables false
set_option maxRecDepth 100000
open Go.ChangeShapes Go.WideShapes Go.ChangeAt Go.RowKit Go.Maps Go.Shelf
open Pl
attribute [local go_sem] Oper.semAt_some
structure InM (W:World) (D br nr:Nat) (Mr:KL→Option Value) (Er:List (KL × RR)) (Ua:Option Addr) (TV:Nat) (xo:List Al) (gD gS gU:Nat) (sn:Int) (TL:Option Addr) (Tf:Nat) (us:List Al):Prop where
 d2:W.cell? ⟨D,2,none⟩=some (.map (some br))
 d4:W.cell? ⟨D,4,none⟩=some (.slice Ua xo.length TV)
 objs:iy W Ua xo
 rel:CE W br nr Mr Er
 bD:W.cell? ⟨gD,0,none⟩=some (.pointer (some ⟨D,0,none⟩))
 bS:W.cell? ⟨gS,0,none⟩=some (.int .i64 sn)
 bU:W.cell? ⟨gU,0,none⟩=some (.slice TL us.length Tf)
 users:iy W TL us
def Bq (x:Fc):Array Value:=#[.agg #[.string x.a,.string x.b,.string x.r,.string x.c,.string x.d]]
theorem yQ:∀ (rs:List RR) (i:Nat) (h:i < rs.length) (j:Nat),j < 2→(G.flatG OW rs)[i * 2 + j]?=(OW rs[i])[j]?
 | [],i,h,_,_=>by simp at h
 | r::rs,0,_,j,hj=>by
  simp only [G.flatG,List.flatMap_cons,Nat.zero_mul,Su,List.getElem_cons_zero];rw [List.getElem?_append_left (by simp [OW]; omega)]
 | r::rs,i + 1,h,j,hj=>by
  have ih:=yQ rs i (by simpa using h) j hj;simp only [G.flatG,List.flatMap_cons,List.getElem_cons_succ] at ih ⊢;rw [List.getElem?_append_right (by simp [OW]; omega)];have:(i + 1) * 2 + j - (OW r).length=i * 2 + j:=by simp [OW]; omega
  rw [this]; exact ih
theorem Jk {W:World} {br nr:Nat} {Mr:KL→Option Value} {Er:List (KL × RR)} (h:CE W br nr Mr Er) (k:KL):∃ ad cap,(Mr k).getD (.slice none 0 0)=.slice ad (G.lookL Er k).length cap∧(∀ i (hi:i < (G.lookL Er k).length),∃ g,ad=some ⟨g,0,none⟩∧g < W.heap.size∧W.cell? ⟨g,i * 2,none⟩=some (.string (G.lookL Er k)[i].name)∧W.cell? ⟨g,i * 2 + 1,none⟩=some (G.lookL Er k)[i].sl):=by
 have ho:=Bf h k;rcases ho.2 with ⟨e,h0⟩ | ⟨g,cap,cur,e,hbg,hg,hnc,-⟩
 ·exact ⟨none,0,by rw [e,h0],fun i hi=>by omega⟩
 ·refine ⟨_,cap,e,fun i hi=>⟨g,rfl,(ho.lt g (by rw [e]; rfl)).2,?_,?_⟩⟩
  ·rw [e] at ho;rw [ho.cellAt (i * 2) (by omega)];exact yQ _ i hi 0 (by omega)
  ·rw [e] at ho;rw [ho.cellAt (i * 2 + 1) (by omega)];exact yQ _ i hi 1 (by omega)
def CR (W:World) (g:Nat) (o:Al):Prop:=W.heap[g]?=some (.cells #[.string o.t,.string o.s] 40 (0,0))
def E5 (W:World) (g:Nat) (r:RR):Prop:=W.heap[g]?=some (.cells #[.string r.name,r.sl] 152 (0,0))
theorem CR.c {W:World} {g:Nat} {o:Al} (h:CR W g o):W.cell? ⟨g,0,none⟩=some (.string o.t)∧W.cell? ⟨g,1,none⟩=some (.string o.s)∧g < W.heap.size:=by
 have hl:=(Array.getElem?_eq_some_iff.1 h).1;unfold CR at h;exact ⟨by simp [World.cell?,h],by simp [World.cell?,h],hl⟩
theorem E5.c {W:World} {g:Nat} {r:RR} (h:E5 W g r):W.cell? ⟨g,0,none⟩=some (.string r.name)∧W.cell? ⟨g,1,none⟩=some r.sl∧g < W.heap.size:=by
 have hl:=(Array.getElem?_eq_some_iff.1 h).1;unfold E5 at h;exact ⟨by simp [World.cell?,h],by simp [World.cell?,h],hl⟩
theorem CR.kp {W W':World} {g:Nat} {o:Al} (h:CR W g o) (hk:KpI W W'):CR W' g o:=hk.cells g _ _ _ h (.inl rfl)
theorem E5.kp {W W':World} {g:Nat} {r:RR} (h:E5 W g r) (hk:KpI W W'):E5 W' g r:=hk.cells g _ _ _ h (.inr rfl)
def iQ (rs:List TR) (st:ByteArray × ByteArray→Int) (us:List Al) (sn:Int) (xo:List Al) (q:Nat):List Fc:=(xo.take q).flatMap (sZ (ae rs) st us sn)
def kQ (R:List RR) (us:List Al) (o:Al) (k:Nat):List Fc:=(R.take k).flatMap fun r=>iJ o r.name us
theorem Pf {rs:List TR} {st:ByteArray × ByteArray→Int} {us:List Al} {sn:Int} {xo:List Al} {q:Nat} (h:q < xo.length):iQ rs st us sn xo (q + 1)=iQ rs st us sn xo q ++ kQ (G.lookL (dY st rs) (xo[q].t,sn)) us xo[q] (G.lookL (dY st rs) (xo[q].t,sn)).length:=by
 unfold iQ kQ;rw [R5 h,List.flatMap_append,Sc];congr 1;simp only [List.flatMap_cons,List.flatMap_nil,List.append_nil];unfold sZ;rw [EO,List.flatMap_map]
theorem Pg {R:List RR} {us:List Al} {o:Al} {k:Nat} (h:k < R.length):kQ R us o (k + 1)=kQ R us o k ++ iJ o R[k].name us:=by
 unfold kQ;rw [R5 h,List.flatMap_append];simp
theorem Kn (o:Al) (rel:ByteArray) {xu:List Al} {j:Nat} (h:j < xu.length):iJ o rel (xu.take (j + 1))=iJ o rel (xu.take j) ++ [⟨o.t,o.s,rel,xu[j].t,xu[j].s⟩]:=by
 unfold iJ;rw [R5 h,List.map_append]; rfl
theorem Ko {rs:List TR} {st:ByteArray × ByteArray→Int} {xo us:List Al} {sn:Int} {o:Al} {r:RR} {u:Al} (ho:o ∈ xo) (hr:r ∈ G.lookL (dY st rs) (o.t,sn)) (hu:u ∈ us):(⟨o.t,o.s,r.name,u.t,u.s⟩:Fc) ∈ bR (ae rs) st xo us sn:=by
 unfold bR sZ;refine Sk.2 ⟨o,ho,Sk.2 ⟨(o.t,r.name),?_,Sa.2 ⟨u,hu,rfl⟩⟩⟩;rw [EO];exact Sa.2 ⟨r,hr,rfl⟩
theorem Ni (n:Nat) (hn:1≤n) (D br nr:Nat) (Mr:KL→Option Value) (st:ByteArray × ByteArray→Int) (rs:List TR) (Ua:Option Addr) (TV:Nat) (xo:List Al) (gD gS gU:Nat) (sn:Int) (TL:Option Addr) (Tf:Nat) (us:List Al) (w0:World) (hs0:0≤sn) (hs1:sn≤1000) (hol:xo.length≤1000) (Xo:us.length≤1000) (hrl:∀ k,(G.lookL (dY st rs) k).length≤1000) (hof:∀ o ∈ xo,o.t.size≤maxLen) :
  wZ Fence.wide n prog 151 #[.pointer (some ⟨gD,0,none⟩),.pointer (some ⟨gS,0,none⟩),.pointer (some ⟨gU,0,none⟩)] Bq (fun _=>KpI) (fun _ W=>InM W D br nr Mr (dY st rs) Ua TV xo gD gS gU sn TL Tf us) (fun _ x=>x ∈ bR (ae rs) st xo us sn) (fun xs=>xs=bR (ae rs) st xo us sn) w0:=by
 intro l J W _ _ _ hJ hT hY h0;have HJ:=ag hJ;have HT:=ag hT;have HY:=ag hY;have H0:=ag h0;have HOF:=ag hof;have hM:=hT _ _ h0;have XG:=ag hrl;have bD:=hM.bD;have d4:=hM.d4;have lD:=ay bD;have lDD:=ay d4;clear hJ hT hY h0 hof hM hrl;refine callsIn_of_wp func151 rfl trivial ?_ rfl;simp only [ntmps151,List.size_toArray,List.length_cons,List.length_nil,Nat.reduceAdd,Nat.reduceSub,Array.replicate_succ,Array.replicate_zero,List.push_toArray,List.append_toArray,List.nil_append,List.cons_append];gi_wp2;clear bD d4 lD lDD
 gi_loopw [16] (fun i wr=>∃ q:Nat,q≤xo.length∧i=.int .i64 q∧Hid (J (iQ rs st us sn xo q) wr)) (fun i _=>xo.length - (intOf i).toNat)
 case atStart=>exact ⟨0,R6 _,rfl,H0⟩
 case round =>
  clear H0;obtain ⟨q,hq,rfl,HJ1⟩:=hrel;by_cases hlq:q < xo.length
  ·have hM:=HT.out _ _ HJ1.out;obtain ⟨bO,Tc,Uv,⟨o0,o1⟩,hbO⟩:=iy.at0 hM.objs hlq;have HSQ:=ag (Pf (rs:=rs) (st:=st) (us:=us) (sn:=sn) hlq);have HOS:=ag (HOF.out _ (RY hlq));have HOM:Hid (xo[q] ∈ xo):=RY hlq;obtain ⟨o,ho⟩:∃ o,o=xo[q]:=⟨_,rfl⟩;rw [← ho] at o0 o1 HSQ HOS HOM;clear ho;have hq1:=bn q;have hq2:(q:Int) < (xo.length:Int):=by omega
   obtain ⟨W1,hW1⟩:∃ W1,W1=wr.alloc (.cells #[.string o.t,.string o.s] 40):=⟨_,rfl⟩;have HB1:=pu hW1;have HJ2:=ag (kW HJ.out HJ1.out HB1.out);have T9:Hid (CR W1 wr.heap.size o):=by rw [hW1]; exact World.alloc_heap_new wr _
   have hM2:=HT.out _ _ HJ2.out;have bD:=hM2.bD;have bS:=hM2.bS;have d2:=hM2.d2;obtain ⟨c0,c1,cl⟩:=T9.out.c;obtain ⟨TE,Tk,hgd,-⟩:=Jk hM2.rel (o.t,sn);obtain ⟨kl,hkl⟩:=Jb (o.t,sn) HOS.out hs0 (by show sn≤_; omega);obtain ⟨R,hR⟩:∃ R,R=G.lookL (dY st rs) (o.t,sn):=⟨_,rfl⟩;have hRl:R.length≤1000:=by rw [hR]; exact XG.out _
   rw [← hR] at hgd HSQ;have HRE:=ag hR;have HGD:=ag hgd;have hlk:∀ m,(Instr.lookup 125 (.map (some br)) (.agg #[.string o.t,.int .i64 sn]) false).run prog (W1.drewN m)=.ok (.slice TE R.length Tk) (W1.drewN m):=fun m=>by
    have h:=(hM2.rel.map.below (below_drewN (R3 _ _) m)).look (t:=125) (e:=68) Rf underlying125 (M5 _) (x:=(o.t,sn)) hkl;rw [hgd] at h;exact h
   subst Uv;clear hM hM2 hR hgd hkl;gi_wp2;rw [← hW1];clear hW1;refine wpIn_wide.2 ?_;go_quiet (fail);obtain ⟨W2,hW2⟩:∃ W2,W2=W1.drewN nq:=⟨_,rfl⟩;have HB2:Hid (Below W1.heap.size W1 W2):=by show Below _ _ _; rw [hW2]; exact below_drewN (R3 _ _) _
   have HJ3:=ag (kW HJ.out HJ2.out HB2.out);have HBX2:=ag (T9.out.kp (KpI.below HB2.out));obtain ⟨gO,hgO⟩:∃ g,g=wr.heap.size:=⟨_,rfl⟩;rw [← hgO] at HBX2 ⊢;rw [← hW2];clear hW2 hgO c0 c1 cl bD bS d2 hlk HB1 HJ2 T9 HJ1 o0 o1 hbO;gi_wp2
   gi_loopw [30] (fun i w2=>∃ k:Nat,k≤R.length∧i=.int .i64 k∧Hid (J (iQ rs st us sn xo q ++ kQ R us o k) w2)∧Hid (CR w2 gO o)) (fun i _=>R.length - (intOf i).toNat)
   case atStart=>exact ⟨0,R6 _,rfl,by show J (_ ++ []) _; rw [List.append_nil]; exact HJ3.out,HBX2⟩
   case round =>
    clear HJ3 HBX2 HB2;obtain ⟨k,hk,rfl,HJ4,T9⟩:=hrel;by_cases hlk:k < R.length
    ·have hM:=HT.out _ _ HJ4.out;obtain ⟨adR',capR',hgd',hrows⟩:=Jk hM.rel (o.t,sn);rw [← HRE.out,HGD.out] at hgd';injection hgd' with ea eb ec;subst ea;clear eb ec;obtain ⟨gq,hadR,hgl,r0,r1⟩:=hrows k (by rw [← HRE.out]; exact hlk);have HKS:=ag (Pg (us:=us) (o:=o) hlk);have hrr:(G.lookL (dY st rs) (o.t,sn))[k]'(by rw [← HRE.out]; exact hlk)=R[k]:=by simp only [HRE.out]
     rw [hrr] at r0 r1;have HRM:Hid (R[k] ∈ R):=RY hlk;obtain ⟨r,hr⟩:∃ r,r=R[k]:=⟨_,rfl⟩;rw [← hr] at r0 r1 HKS HRM;have hk1:=bn k;have hk2:(k:Int) < (R.length:Int):=by omega
     obtain ⟨W3,hW3⟩:∃ W3,W3=wr.alloc (.cells #[.string r.name,r.sl] 152):=⟨_,rfl⟩;have HB3:=pu hW3;have HJ5:=ag (kW HJ.out HJ4.out HB3.out);have We:=ag (T9.out.kp (KpI.below HB3.out));have U0:Hid (E5 W3 wr.heap.size r):=by rw [hW3]; exact World.alloc_heap_new wr _
     have XD:=HT.out _ _ HJ5.out;have bU:=XD.bU;have lU:=ay bU;have bU0:=hM.bU;have lU0:=ay bU0;unfold RR.sl at r1 hW3;obtain ⟨gR,hgR⟩:∃ g,g=wr.heap.size:=⟨_,rfl⟩;subst hadR;clear hM XD hr hrr hrows;gi_wp2;rw [← hW3,← hgR];rw [← hgR] at U0;clear hW3 hgR bU lU bU0 lU0 r0 r1 hgl HB3 HJ4 T9
     gi_loopw [36] (fun i w2=>∃ j:Nat,j≤us.length∧i=.int .i64 j∧Hid (J (iQ rs st us sn xo q ++ kQ R us o k ++ iJ o r.name (us.take j)) w2)∧Hid (CR w2 gO o)∧Hid (E5 w2 gR r)) (fun i _=>us.length - (intOf i).toNat)
     case atStart=>exact ⟨0,R6 _,rfl,by show J (_ ++ []) _; rw [List.append_nil]; exact HJ5.out,We,U0⟩
     case round =>
      clear HJ5 We U0;obtain ⟨j,hj,rfl,HJ6,We,U0⟩:=hrel;by_cases hlj:j < us.length
      ·have hM:=HT.out _ _ HJ6.out;obtain ⟨bV,offV,hadU,⟨y0,y1⟩,hbV⟩:=iy.at0 hM.users hlj;have HAS:=ag (Kn o r.name hlj);obtain ⟨u,hu⟩:∃ u,u=us[j]:=⟨_,rfl⟩;rw [← hu] at y0 y1 HAS;have hj1:=bn j;have hj2:(j:Int) < (us.length:Int):=by omega
       obtain ⟨W4,Tg⟩:∃ W4,W4=wr.alloc (.cells #[.string u.t,.string u.s] 40):=⟨_,rfl⟩;have Uo:=pu Tg;have HJ7:=kW HJ.out HJ6.out Uo.out;have HBO2:=ag (We.out.kp (KpI.below Uo.out));have HBR2:=ag (U0.out.kp (KpI.below Uo.out));obtain ⟨fn,tmps,assign,body,hy,hR⟩:=HY.out _ ⟨o.t,o.s,r.name,u.t,u.s⟩ W4 HJ7 (Ko HOM.out (by rw [← HRE.out]; exact HRM.out) (by rw [hu]; exact RY hlj));obtain ⟨c0,c1,cl⟩:=We.out.c;obtain ⟨e0,e1,el⟩:=U0.out.c;have HRR:=ag hR;unfold Bq at hy;subst hadU;subst Tg;clear hM hu HJ7 hR;gi_wp2;refine HRR.out.mono ?_;rintro e W5 ⟨rfl,hJ8,hK8⟩;have HJ8:Hid (J (iQ rs st us sn xo q ++ kQ R us o k ++ iJ o r.name (us.take (j + 1))) W5):=by show J _ _; rw [HAS.out,← List.append_assoc]; exact hJ8
       have HBO3:=ag (HBO2.out.kp hK8);have HBR3:=ag (HBR2.out.kp hK8);clear hJ8 hK8 hy y0 y1 c0 c1 cl e0 e1 el;gi_wp2;go_roundw;case rel=>exact ⟨j + 1,by omega,by go_num,HJ8,HBO3,HBR3⟩
       case measure=>simp [intOf] <;> omega
      ·have HJ7:Hid (J (iQ rs st us sn xo q ++ kQ R us o (k + 1)) wr):=by
        have h1:=HJ6.out;rw [List.take_of_length_le (by omega),List.append_assoc,← HKS.out] at h1;exact h1
       gi_wp2;go_roundw;case rel=>exact ⟨k + 1,by omega,by go_num,HJ7,We⟩
       case measure=>simp [intOf] <;> omega
    ·have HE2:Hid (iQ rs st us sn xo q ++ kQ R us o k=iQ rs st us sn xo (q + 1)):=by show _=_; rw [HSQ.out,show k=R.length by omega]
     have HJ5:Hid (J (iQ rs st us sn xo (q + 1)) wr):=by show J _ _; rw [← HE2.out]; exact HJ4.out
     gi_wp2;go_roundw;case rel=>exact ⟨q + 1,by omega,by go_num,HJ5⟩
     case measure=>simp [intOf] <;> omega
  ·have HE:Hid (iQ rs st us sn xo q=bR (ae rs) st xo us sn):=by show _=_; unfold iQ bR; rw [List.take_of_length_le (by omega)]
   have HJ2:Hid (J (bR (ae rs) st xo us sn) wr):=by show J _ _; rw [← HE.out]; exact HJ1.out
   gi_wp2
   go_end0
   exact ⟨⟨_,rfl⟩,_,rfl,HJ2.out⟩
end Go.Proofs.YtdaoiceeidoehaaGreat
namespace Go.Proofs.YtdaoiceeidoehaaGreat
set_option linter.unusedVariables false
set_option maxRecDepth 100000
open Go.ChangeShapes Go.WideShapes Go.ChangeAt Go.RowKit Go.Maps
open Pl
theorem E8 (v0:Value) (UR:Option Addr) (Um:Nat) (ts:List Tp) (SN:Option Addr) (capE:Nat) (rows:List ER) (n:Nat) (adK:Option Addr) (capK:Nat) (known:List Fc) (TE:Option Addr) (Tk:Nat) (truth:List Fc) (f:Fc) (w:World) (hW:HW w UR ts SN rows adK known TE truth) (hn:n < rows.length) (hre:rows.length≤1000) (hkl:known.length≤1048576) (hk:rows[n].e.kind=2) :
  Calls prog 58 #[v0,.slice UR ts.length Um,.slice SN rows.length capE,.int .i64 (n:Int),.slice adK known.length capK,.slice TE truth.length Tk,.agg #[.string f.a,.string f.b,.string f.r,.string f.c,.string f.d]] w fun e w'=>e=.returned (.bool (aO known ⟨f.a,f.b,rows[n].e.name,f.c,f.d⟩))∧Below w.heap.size w w':=by
 obtain ⟨b,off,SL,⟨t0,t1,t2,t3,t4⟩,hbl,-⟩:=eX.at0 hW.ex hn;have HW0:=ag hW;obtain ⟨W0,hW0⟩:∃ W0,W0=rT w f rows[n]:=⟨_,rfl⟩;have HB0:Hid (Below w.heap.size w W0):=by show Below _ _ _; rw [hW0]; exact dN _ _ _
 have hk1:(rows[n].e.kind == 1)=false:=by rw [hk]; rfl
 have hk2:(rows[n].e.kind == 2)=true:=by rw [hk]; rfl
 have hn1:=bn n;have hn2:(n:Int) < (rows.length:Int):=by omega
 unfold rT at hW0;rw [SL];clear SL hW hk;go_enter func58,ntmps58;go_wp2_with fail;rw [← hW0];refine (lZ adK capK known ⟨f.a,f.b,rows[n].e.name,f.c,f.d⟩ W0 hkl (HW0.out.kn.below HB0.out)).mono ?_;rintro e w1 ⟨rfl,hb1⟩;have HB1:=ag (HB0.out.trans (hb1.mono HB0.out.size));clear hb1 hW0;go_wp2;go_ret;exact ⟨rfl,HB1.out⟩
theorem Hy (v0:Value) (UR:Option Addr) (Um:Nat) (ts:List Tp) (SN:Option Addr) (capE:Nat) (rows:List ER) (n:Nat) (vK vR:Value) (f:Fc) (w:World) (hex:eX w SN rows) (hn:n < rows.length) (hre:rows.length≤1000) (k1:rows[n].e.kind ≠ 1) (k2:rows[n].e.kind ≠ 2) (k3:rows[n].e.kind ≠ 3) (k4:rows[n].e.kind ≠ 4) (k5:rows[n].e.kind ≠ 5) (k6:rows[n].e.kind ≠ 6) :
  Calls prog 58 #[v0,.slice UR ts.length Um,.slice SN rows.length capE,.int .i64 (n:Int),vK,vR,.agg #[.string f.a,.string f.b,.string f.r,.string f.c,.string f.d]] w fun e w'=>e=.returned (.bool false)∧Below w.heap.size w w':=by
 obtain ⟨b,off,SL,⟨t0,t1,t2,t3,t4⟩,hbl,-⟩:=eX.at0 hex hn;have HB0:=ag (dN w f rows[n]);unfold rT at HB0;have hk1:(rows[n].e.kind == 1)=false:=by simpa using k1
 have hk2:(rows[n].e.kind == 2)=false:=by simpa using k2
 have hk3:(rows[n].e.kind == 3)=false:=by simpa using k3
 have hk4:(rows[n].e.kind == 4)=false:=by simpa using k4
 have hk5:(rows[n].e.kind == 5)=false:=by simpa using k5
 have hk6:(rows[n].e.kind == 6)=false:=by simpa using k6
 have hn1:=bn n;have hn2:(n:Int) < (rows.length:Int):=by omega
 rw [SL];clear SL hex k1 k2 k3 k4 k5 k6;go_enter func58,ntmps58;go_wp2;go_ret;exact ⟨rfl,HB0.out⟩
theorem CS (v0:Value) (UR:Option Addr) (Um:Nat) (ts:List Tp) (SN:Option Addr) (capE:Nat) (rows:List ER) (n:Nat) (adK:Option Addr) (capK:Nat) (known:List Fc) (TE:Option Addr) (Tk:Nat) (truth:List Fc) (f:Fc) (w:World) (hW:HW w UR ts SN rows adK known TE truth) (hn:n < rows.length) (hre:rows.length≤1000) (hkl:known.length≤1048576) (htl:ts.length≤1048576) (hk:rows[n].e.kind=1) :
  Calls prog 58 #[v0,.slice UR ts.length Um,.slice SN rows.length capE,.int .i64 (n:Int),.slice adK known.length capK,.slice TE truth.length Tk,.agg #[.string f.a,.string f.b,.string f.r,.string f.c,.string f.d]] w fun e w'=>e=.returned (.bool (eG ts known f))∧Below w.heap.size w w':=by
 obtain ⟨b,off,SL,⟨t0,t1,t2,t3,t4⟩,hbl,-⟩:=eX.at0 hW.ex hn;have HW0:=ag hW;obtain ⟨W0,hW0⟩:∃ W0,W0=rT w f rows[n]:=⟨_,rfl⟩;have HB0:Hid (Below w.heap.size w W0):=by show Below _ _ _; rw [hW0]; exact dN _ _ _
 have Vp:Hid (EnB W0 w.heap.size f rows[n]):=by show EnB _ _ _ _; rw [hW0]; exact eT _ _ _
 have hk1:(rows[n].e.kind == 1)=true:=by rw [hk]; rfl
 have hn1:=bn n;have hn2:(n:Int) < (rows.length:Int):=by omega
 unfold rT at hW0;rw [SL];clear SL hW hk;go_enter func58,ntmps58;go_wp2_with fail;rw [← hW0];clear hW0 t0 t1 t2 t3 t4;go_loopw [16] (fun i wr=>∃ k:Nat,k≤ts.length∧i=.int .i64 k∧Hid (eG (ts.drop k) known f=eG ts known f)∧Hid (Below W0.heap.size W0 wr)) (fun i _=>ts.length - (intOf i).toNat);case atStart=>exact ⟨0,R6 _,rfl,rfl,R3 _ _⟩
 case round =>
  obtain ⟨k,hk,rfl,HP,HB⟩:=hrel;have S9:Hid (Below w.heap.size w wr):=HB0.out.trans (HB.out.mono HB0.out.size);by_cases hlt:k < ts.length
  ·obtain ⟨bT,YK,UH,⟨a0,a1,a2,a3,a4,a5⟩,hbT⟩:=Sl.at0 (HW0.out.tup.below S9.out) hlt;have hE:=Vp.out.below HB.out;have e0:=hE.f0;have e1:=hE.f1;have e2:=hE.f2;have e3:=hE.f3;have e4:=hE.f4;have el:w.heap.size < wr.heap.size:=by have:=hE.lt; omega
   have hi1:=bn k;have hi2:(k:Int) < (ts.length:Int):=by omega
   obtain ⟨W1,hW1⟩:∃ W1,W1=wr.alloc (.cells #[.string ts[k].a,.string ts[k].b,.string ts[k].r,.string ts[k].c,.string ts[k].d,.string ts[k].s] 73):=⟨_,rfl⟩;have Tu:=pu hW1;have HB1:Hid (Below W0.heap.size W0 W1):=HB.out.trans (Tu.out.mono HB.out.size);have XQ:Hid (Below w.heap.size w W1):=S9.out.trans (Tu.out.mono S9.out.size);have HD:Hid (eG ts known f=(yP known f ts[k] || eG (ts.drop (k + 1)) known f)):=by show _=_; rw [← HP.out]; exact Ht hlt known f
   rw [UH];clear UH hE;cases ho:sI ts[k].a ts[k].b f.a f.b with
   | false =>
    have hneq:=EY _ _ _ _ ho;have Td:Hid (eG (ts.drop (k + 1)) known f=eG ts known f):=by
     show _=_;unfold sI at ho;rw [HD.out]; unfold yP; rw [ho]; rfl
    clear ho;go_wp2;rw [← hW1];clear hW1;go_roundw;case rel=>exact ⟨k + 1,by omega,by go_num,Td,HB1⟩
    case measure=>simp [intOf] <;> omega
   | true =>
    have hneq:=EY _ _ _ _ ho;have HO:Hid (sI ts[k].a ts[k].b f.a f.b=true):=ho;clear ho;cases hr:(ts[k].r.toList == f.r.toList) with
    | false =>
     have Td:Hid (eG (ts.drop (k + 1)) known f=eG ts known f):=by
      show _=_;have h2:=HO.out;unfold sI at h2;rw [HD.out]; unfold yP; rw [h2,hr]; rfl
     go_wp2;rw [← hW1];clear hW1;go_roundw;case rel=>exact ⟨k + 1,by omega,by go_num,Td,HB1⟩
     case measure=>simp [intOf] <;> omega
    | true =>
     have HT:Hid (yP known f ts[k]=(if ts[k].s.toList.isEmpty then ts[k].c.toList == f.c.toList && ts[k].d.toList == f.d.toList else aO known ⟨ts[k].c,ts[k].d,ts[k].s,f.c,f.d⟩)):=by
      show _=_;have h2:=HO.out;unfold sI at h2;unfold yP; rw [h2,hr]; rfl
     cases hs:ts[k].s.toList.isEmpty with
     | true =>
      have hs2:(ts[k].s.toList == [])=true:=by rw [kX]; exact hs
      cases hu:sI ts[k].c ts[k].d f.c f.d with
      | true =>
       have heq:=dS _ _ _ _ hu;have HN:Hid (eG ts known f=true):=by
        show _=_;unfold sI at hu;rw [HD.out,HT.out,if_pos hs,hu]; rfl
       clear hu hs;go_wp2;rw [← hW1];go_ret;exact ⟨by rw [HN.out]; rfl,XQ.out⟩
      | false =>
       have heq:=dS _ _ _ _ hu;have Td:Hid (eG (ts.drop (k + 1)) known f=eG ts known f):=by
        show _=_;unfold sI at hu;rw [HD.out,HT.out,if_pos hs,hu]; rfl
       clear hu hs;go_wp2;rw [← hW1];clear hW1;go_roundw;case rel=>exact ⟨k + 1,by omega,by go_num,Td,HB1⟩
       case measure=>simp [intOf] <;> omega
     | false =>
      have hs2:(ts[k].s.toList == [])=false:=by rw [kX]; exact hs
      have HT2:Hid (yP known f ts[k]=aO known ⟨ts[k].c,ts[k].d,ts[k].s,f.c,f.d⟩):=by show _=_; rw [HT.out,if_neg (by rw [hs]; decide)]
      clear hs;go_wp2_with fail;rw [← hW1];clear hW1;refine (lZ adK capK known ⟨ts[k].c,ts[k].d,ts[k].s,f.c,f.d⟩ W1 hkl (HW0.out.kn.below XQ.out)).mono ?_;rintro e w2 ⟨rfl,hb2⟩;have HB2:=gY HB1 hb2;have XB:=gY XQ hb2;clear hb2;cases hh:aO known ⟨ts[k].c,ts[k].d,ts[k].s,f.c,f.d⟩ with
      | true =>
       have HN:Hid (eG ts known f=true):=by show _=_; rw [HD.out,HT2.out,hh]; rfl
       go_wp2;go_ret;exact ⟨by rw [HN.out]; rfl,XB.out⟩
      | false =>
       have Td:Hid (eG (ts.drop (k + 1)) known f=eG ts known f):=by show _=_; rw [HD.out,HT2.out,hh]; rfl
       go_wp2;go_roundw;case rel=>exact ⟨k + 1,by omega,by go_num,Td,HB2⟩
       case measure=>simp [intOf] <;> omega
  ·have HN:Hid (eG ts known f=false):=by show _=_; rw [← HP.out,List.drop_of_length_le (by omega)]; rfl
   go_wp2;go_ret;exact ⟨by rw [HN.out]; rfl,S9.out⟩
theorem CU (v0:Value) (UR:Option Addr) (Um:Nat) (ts:List Tp) (SN:Option Addr) (capE:Nat) (rows:List ER) (n:Nat) (adK:Option Addr) (capK:Nat) (known:List Fc) (TE:Option Addr) (Tk:Nat) (truth:List Fc) (f:Fc) (w:World) (hW:HW w UR ts SN rows adK known TE truth) (hn:n < rows.length) (hre:rows.length≤1000) (hkl:known.length≤1048576) (htl:ts.length≤1048576) (hk:rows[n].e.kind=3) :
  Calls prog 58 #[v0,.slice UR ts.length Um,.slice SN rows.length capE,.int .i64 (n:Int),.slice adK known.length capK,.slice TE truth.length Tk,.agg #[.string f.a,.string f.b,.string f.r,.string f.c,.string f.d]] w fun e w'=>e=.returned (.bool (fG ts known rows[n].e.over rows[n].e.name f))∧Below w.heap.size w w':=by
 obtain ⟨b,off,SL,⟨t0,t1,t2,t3,t4⟩,hbl,-⟩:=eX.at0 hW.ex hn;have HW0:=ag hW;obtain ⟨W0,hW0⟩:∃ W0,W0=rT w f rows[n]:=⟨_,rfl⟩;have HB0:Hid (Below w.heap.size w W0):=by show Below _ _ _; rw [hW0]; exact dN _ _ _
 have Vp:Hid (EnB W0 w.heap.size f rows[n]):=by show EnB _ _ _ _; rw [hW0]; exact eT _ _ _
 have hk1:(rows[n].e.kind == 1)=false:=by rw [hk]; rfl
 have hk2:(rows[n].e.kind == 2)=false:=by rw [hk]; rfl
 have hk3:(rows[n].e.kind == 3)=true:=by rw [hk]; rfl
 have hn1:=bn n;have hn2:(n:Int) < (rows.length:Int):=by omega
 unfold rT at hW0;rw [SL];clear SL hW hk;go_enter func58,ntmps58;go_wp2_with fail;rw [← hW0];clear hW0 t0 t1 t2 t3 t4;go_loopw [18] (fun i wr=>∃ k:Nat,k≤ts.length∧i=.int .i64 k∧Hid (fG (ts.drop k) known rows[n].e.over rows[n].e.name f=fG ts known rows[n].e.over rows[n].e.name f)∧Hid (Below W0.heap.size W0 wr)) (fun i _=>ts.length - (intOf i).toNat);case atStart=>exact ⟨0,R6 _,rfl,rfl,R3 _ _⟩
 case round =>
  obtain ⟨k,hk,rfl,HP,HB⟩:=hrel;have S9:Hid (Below w.heap.size w wr):=HB0.out.trans (HB.out.mono HB0.out.size);by_cases hlt:k < ts.length
  ·obtain ⟨bT,YK,UH,⟨a0,a1,a2,a3,a4,a5⟩,hbT⟩:=Sl.at0 (HW0.out.tup.below S9.out) hlt;have hE:=Vp.out.below HB.out;have e0:=hE.f0;have e1:=hE.f1;have e2:=hE.f2;have e3:=hE.f3;have e4:=hE.f4;have el:w.heap.size < wr.heap.size:=by have:=hE.lt; omega
   have ZY:w.heap.size + 1 < wr.heap.size:=hE.lt;have g2:=hE.x2;have g3:=hE.x3;have hi1:=bn k;have hi2:(k:Int) < (ts.length:Int):=by omega
   obtain ⟨W1,hW1⟩:∃ W1,W1=wr.alloc (.cells #[.string ts[k].a,.string ts[k].b,.string ts[k].r,.string ts[k].c,.string ts[k].d,.string ts[k].s] 73):=⟨_,rfl⟩;have Tu:=pu hW1;have HB1:Hid (Below W0.heap.size W0 W1):=HB.out.trans (Tu.out.mono HB.out.size);have XQ:Hid (Below w.heap.size w W1):=S9.out.trans (Tu.out.mono S9.out.size);have HD:Hid (fG ts known rows[n].e.over rows[n].e.name f=(Bo known rows[n].e.over rows[n].e.name f ts[k] || fG (ts.drop (k + 1)) known rows[n].e.over rows[n].e.name f)):=by show _=_; rw [← HP.out]; exact Hu hlt known _ _ f
   rw [UH];clear UH hE;cases ho:sI ts[k].a ts[k].b f.a f.b with
   | false =>
    have hoeq:=dS _ _ _ _ ho;have Td:Hid (fG (ts.drop (k + 1)) known rows[n].e.over rows[n].e.name f=fG ts known rows[n].e.over rows[n].e.name f):=by
     show _=_;unfold sI at ho;rw [HD.out]; unfold Bo; rw [ho]; rfl
    clear ho;go_wp2;rw [← hW1];clear hW1;go_roundw;case rel=>exact ⟨k + 1,by omega,by go_num,Td,HB1⟩
    case measure=>simp [intOf] <;> omega
   | true =>
    have hoeq:=dS _ _ _ _ ho;have HO:Hid (sI ts[k].a ts[k].b f.a f.b=true):=ho;clear ho;cases hr:(ts[k].r.toList == rows[n].e.over.toList) with
    | false =>
     have Td:Hid (fG (ts.drop (k + 1)) known rows[n].e.over rows[n].e.name f=fG ts known rows[n].e.over rows[n].e.name f):=by
      show _=_;have h2:=HO.out;unfold sI at h2;rw [HD.out]; unfold Bo; rw [h2,hr]; rfl
     go_wp2;rw [← hW1];clear hW1;go_roundw;case rel=>exact ⟨k + 1,by omega,by go_num,Td,HB1⟩
     case measure=>simp [intOf] <;> omega
    | true =>
     have HT2:Hid (Bo known rows[n].e.over rows[n].e.name f ts[k]=aO known ⟨ts[k].c,ts[k].d,rows[n].e.name,f.c,f.d⟩):=by
      show _=_;have h2:=HO.out;unfold sI at h2;unfold Bo; rw [h2,hr]; rfl
     go_wp2_with fail;rw [← hW1];clear hW1;refine (lZ adK capK known ⟨ts[k].c,ts[k].d,rows[n].e.name,f.c,f.d⟩ W1 hkl (HW0.out.kn.below XQ.out)).mono ?_;rintro e w2 ⟨rfl,hb2⟩;have HB2:=gY HB1 hb2;have XB:=gY XQ hb2;clear hb2;cases hh:aO known ⟨ts[k].c,ts[k].d,rows[n].e.name,f.c,f.d⟩ with
     | true =>
      have HN:Hid (fG ts known rows[n].e.over rows[n].e.name f=true):=by show _=_; rw [HD.out,HT2.out,hh]; rfl
      go_wp2;go_ret;exact ⟨by rw [HN.out]; rfl,XB.out⟩
     | false =>
      have Td:Hid (fG (ts.drop (k + 1)) known rows[n].e.over rows[n].e.name f=fG ts known rows[n].e.over rows[n].e.name f):=by show _=_; rw [HD.out,HT2.out,hh]; rfl
      go_wp2;go_roundw;case rel=>exact ⟨k + 1,by omega,by go_num,Td,HB2⟩
      case measure=>simp [intOf] <;> omega
  ·have HN:Hid (fG ts known rows[n].e.over rows[n].e.name f=false):=by show _=_; rw [← HP.out,List.drop_of_length_le (by omega)]; rfl
   go_wp2;go_ret;exact ⟨by rw [HN.out]; rfl,S9.out⟩
end Go.Proofs.YtdaoiceeidoehaaGreat
