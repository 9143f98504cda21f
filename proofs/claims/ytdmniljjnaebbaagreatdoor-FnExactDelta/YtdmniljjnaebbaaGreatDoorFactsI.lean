/- The program's facts: right data's, sorted; none else. -/
import Derived.Test.YtdmniljjnaebbaaGreatDoorSq
import Derived.Test.YtdmniljjnaebbaaGreatDoorFactsQ
import Derived.Test.YtdmniljjnaebbaaGreatDoorJ29
open Go.Proofs.Tryz
set_option maxHeartbeats 80000000
namespace Go.Proofs.YtdmniljjnaebbaaGreatDoor
set_option maxRecDepth 100000
set_option linter.unusedVariables false
set_option linter.unusedSectionVars false
open Go.ChangeShapes Go.WideShapes Go.ChangeAt Go.RowKit Go.Maps
open Pl
section
variable [DecidableEq Fc]
def FU (L0:List Fc) (w:World) (e:Ending) (w':World):Prop:=(∃ (L:List Fc) (v:Value),e=.returned v∧L.Perm L0∧L.Pairwise (fun x y=>Op.bytesLess (DI y) (DI x)=false)∧w'.ownsRow w.heap.size 63 5 v L.length (av L))∧aa w w'
theorem qE (st:ByteArray × ByteArray→Int) (ad:Option Addr) (cap:Nat) (rs:List TR) (Ti:Option Addr) (cap':Nat) (ts:List Tp) (w:af) (hlen:rs.length≤1048576) (hs:iN w ad rs) (hl:∀ r ∈ rs,r.light) (hfr:∀ r ∈ rs,r.fits) (hcp:∀ r ∈ rs,r.caps) (hlt:ts.length≤1048576) (hst:Sl w Ti ts) (hft:∀ x ∈ ts,x.fits) (hle:aF (ag rs)=true→Least (ag rs) st) :
  Calls prog 35 #[.slice ad rs.length cap,.slice Ti ts.length cap'] w (FU (eF st rs ts) w):=by
 have HC:=aj (za (il rs) ad cap rs Ti cap' ts w hlen hs hl hfr (sZ ad cap rs w hlen hs hl hfr hcp) (fun h t ht=>KW h ht) hlt hst hft);have HS:=aj hs;have Tv:=aj hft;have TP:=aj hfr;have Uk:=aj hle;clear hs hl hfr hcp hst hft hle;go_enter func35,ntmps35;go_wp2_with fail;refine HC.out.mono ?_;rintro e w1 ⟨hb1,⟨hr,rfl⟩ | ⟨hr,D,br,bp,bt,nr,np,Mr,Mp,vo,vu,f,rfl,hbt,hLf,Ut⟩⟩
 ·have HP:Hid (FU (eF st rs ts) w (.returned (.slice none 0 0)) w1):=⟨⟨[],_,rfl,by rw [kz hr],List.Pairwise.nil,World.ownsRow_nil _ _ _ _⟩,hb1⟩;clear hb1 HC hr;go_wp2;go_ret;exact HP.out
 have hsd:aF (ag rs)=true∧ts.length≤40:=by
  unfold aW dO at hr;simp only [Sn,SE] at hr;exact ⟨hr.1.1,hr.1.2.1⟩
 obtain ⟨hsd,ht40⟩:=hsd;have hSP:=bW.1 hsd;obtain ⟨h6,Xh,-⟩:=bR hSP.1;have WU:=xg h6 Xh;have hfk:∀ k ∈ ak (ag rs),f k + 1≤(ak (ag rs)).length:=fun k hk=>by
  obtain ⟨g,hg,hb⟩:=hLf.sol.few (kH hSP.2.1);have h1:=hLf.low k hk g hg;have h2:=hb k hk;omega
 have hc0:0≤iZ (dU f rs):=(Dr (dU f rs) 0).1;have hcl:iZ (dU f rs)≤(ak (ag rs)).length:=Jv _ _ _ (by omega) fun x hx=>by
  obtain ⟨k,hk,e,-⟩:=QW hx;rw [e]; exact hfk k hk
 obtain ⟨N,hN⟩:∃ N:Nat,iZ (dU f rs)=N:=⟨(iZ (dU f rs)).toNat,by omega⟩;have hkN:∀ k ∈ ak (ag rs),f k < (N:Int):=fun k hk=>by
  obtain ⟨x,hx,e⟩:=Pz (f:=f) hk;have h2:=(Dr (dU f rs) 0).2 x hx;have h3:x.1.2 + 1≤iZ (dU f rs):=h2;rw [e,hN] at h3;omega
 have hLs:kR (ag rs) ts f (fG ts) (dA ts) N=eF st rs ts:=by
  rw [kM hr];unfold nY;rw [← uF (fun k hk=>hLf.same (Uk.out hsd) k hk)];exact (Kj hkN _ (by omega)).symm
 rw [hN] at Ut;have VT:=aj (K7 w1 rs ad D br bp bt N nr Mr f ts (fG ts) (dA ts) np Mp vo vu Ut (HS.out.below hb1) (by omega) (by have:=mJ ts; omega) (by have:=kK ts; omega) WU (fun k=>by
  have:(G.lookL (dU f rs) k).length≤(dU f rs).length:=List.length_filterMap_le _ _;rw [PD] at this; omega) hSP.1 Tv.out (by omega) (nZ Tv.out) (lm Tv.out) (uT TP.out))
 rw [hLs] at VT;have hGO:=kL f rs ts (fG ts) (dA ts) N;rw [hLs] at hGO;have HB1:=aj hb1;have hll:=hGO.len (by have:=mJ ts; omega) WU (by have:=kK ts; omega);have HFF:Hid (∀ x ∈ eF st rs ts,x.fits):=fun x hx=>by
  have h1:=hGO.sub x hx;unfold C8 at h1;obtain ⟨o,ho,h1⟩:=SB.1 h1;obtain ⟨k,hk,h1⟩:=SB.1 h1;obtain ⟨u,hu,rfl⟩:=Sy.1 h1;exact ⟨(nZ Tv.out o ho).1,(nZ Tv.out o ho).2,uT TP.out k hk,(lm Tv.out u hu).1,(lm Tv.out u hu).2⟩
 obtain ⟨L0,hL0⟩:∃ L0,L0=eF st rs ts:=⟨_,rfl⟩;rw [← hL0] at VT hll HFF;have HL0:=aj hL0;clear HC hb1 Ut hLf hfk hc0 hcl hN hkN hLs hGO hSP hsd h6 Xh WU hr hbt hL0;go_wp2_with fail;refine VT.out.mono ?_;rintro e w2 ⟨⟨v,rfl,hown⟩,hb2⟩;have HB2:=aj (HB1.out.trans (hb2.mono HB1.out.size));have Tj:=aj (j5 hown HB1.out.size);clear VT hown hb2 HB1;cases L0 with
 | nil =>
  obtain ⟨Xj,Un,rfl,-⟩:=iD Tj.out;have HSN:=aj (La Xj Un (.func (.func 62) #[] #[]) w2);have HP:Hid (FU [] w (.returned (.slice Xj 0 Un)) w2):=⟨⟨[],_,rfl,List.Perm.refl _,List.Pairwise.nil,Tj.out⟩,HB2.out⟩;clear Tj HB2;go_wp2_with fail;refine HSN.out.mono ?_;rintro e w3 ⟨rfl,rfl⟩;go_wp2;go_ret;rw [← HL0.out]; exact HP.out
 | cons x0 YZ =>
  obtain ⟨L1,hL1⟩:∃ L1,L1=x0::YZ:=⟨_,rfl⟩;obtain ⟨g,Un,rfl⟩:=ownsRow_succ (k:=YZ.length) Tj.out;have hgl:=(Tj.out.lt g rfl).1;have WQ:=aj (K9 w.heap.size g Un (x0::YZ) w2 HFF.out Tj.out (by simp) (by omega));rw [← hL1] at WQ;have hlL:YZ.length + 1=L1.length:=by rw [hL1]; rfl
  rw [← hL1] at HL0;rw [hlL];clear Tj HFF hll hL1 hlL;go_wp2_with fail;refine WQ.out.mono ?_;rintro e w3 ⟨rfl,ys,hp,hso,hrow,hcg⟩;have HP:Hid (FU L1 w (.returned (.slice (some ⟨g,0,none⟩) L1.length Un)) w3):=⟨⟨ys,_,rfl,hp,hso,by rw [hp.length_eq]; exact hrow⟩,HB2.out.trans (hcg.below (fun k hk=>by rw [hk]; exact hgl) HB2.out.size)⟩;clear hp hso hrow hcg HB2 WQ;go_wp2;go_ret;rw [← HL0.out]; exact HP.out
end
end Go.Proofs.YtdmniljjnaebbaaGreatDoor
