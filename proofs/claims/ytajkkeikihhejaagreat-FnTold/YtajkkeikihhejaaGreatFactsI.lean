/- The program's facts: right data's, sorted; none else. -/
import Derived.Test.YtajkkeikihhejaaGreatSq
import Derived.Test.YtajkkeikihhejaaGreatFactsQ
open Go.Proofs.Tryz
set_option maxHeartbeats 80000000
namespace Go.Proofs.YtajkkeikihhejaaGreat
set_option maxRecDepth 100000
set_option linter.unusedVariables false
set_option linter.unusedSectionVars false
open Go.ChangeShapes Go.WideShapes Go.ChangeAt Go.RowKit Go.Maps
open Pl
section
variable [DecidableEq Fc]
def DJ (L0:List Fc) (w:World) (e:Ending) (w':World):Prop:=(∃ (L:List Fc) (v:Value),e=.returned v∧L.Perm L0∧L.Pairwise (fun x y=>Op.bytesLess (Fb y) (Fb x)=false)∧w'.ownsRow w.heap.size 29 5 v L.length (aH L))∧ag w w'
theorem sI (st:ByteArray × ByteArray→Int) (ad:Option Addr) (cap:Nat) (rs:List TR) (UJ:Option Addr) (cap':Nat) (ts:List Tp) (w:af) (hlen:rs.length≤1048576) (hs:kW w ad rs) (hl:∀ r ∈ rs,r.light) (hfr:∀ r ∈ rs,r.fits) (hcp:∀ r ∈ rs,r.caps) (hlt:ts.length≤1048576) (hst:Sl w UJ ts) (hft:∀ x ∈ ts,x.fits) (hle:aJ (ae rs)=true→Least (ae rs) st) :
  Calls prog 14 #[.slice ad rs.length cap,.slice UJ ts.length cap'] w (DJ (bC st rs ts) w):=by
 have HC:=aC (Jw (gV rs) ad cap rs UJ cap' ts w hlen hs hl hfr (vQ ad cap rs w hlen hs hl hfr hcp) (fun h t ht=>wY h ht) hlt hst hft);have HS:=aC hs;have UL:=aC hft;have WK:=aC hfr;have Vj:=aC hle;clear hs hl hfr hcp hst hft hle;go_enter func14,ntmps14;go_wp2_with fail;refine HC.out.mono ?_;rintro e w1 ⟨hb1,⟨hr,rfl⟩ | ⟨hr,D,br,bp,bt,nr,np,Mr,Mp,vo,vu,f,rfl,hbt,hLf,V4⟩⟩
 ·have HP:Hid (DJ (bC st rs ts) w (.returned (.slice none 0 0)) w1):=⟨⟨[],_,rfl,by rw [jo hr],List.Pairwise.nil,World.ownsRow_nil _ _ _ _⟩,hb1⟩;clear hb1 HC hr;go_wp2;go_ret;exact HP.out
 have hsd:aJ (ae rs)=true∧ts.length≤40:=by
  unfold aQ dJ at hr;simp only [TU,Ud] at hr;exact ⟨hr.1.1,hr.1.2.1⟩
 obtain ⟨hsd,ht40⟩:=hsd;have hSP:=aY.1 hsd;obtain ⟨h6,Wd,-⟩:=bq hSP.1;have Yk:=yK h6 Wd;have hfk:∀ k ∈ ak (ae rs),f k + 1≤(ak (ae rs)).length:=fun k hk=>by
  obtain ⟨g,hg,hb⟩:=hLf.sol.few (kw hSP.2.1);have h1:=hLf.low k hk g hg;have h2:=hb k hk;omega
 have hc0:0≤jJ (eT f rs):=(E8 (eT f rs) 0).1;have hcl:jJ (eT f rs)≤(ak (ae rs)).length:=KJ _ _ _ (by omega) fun x hx=>by
  obtain ⟨k,hk,e,-⟩:=SV hx;rw [e]; exact hfk k hk
 obtain ⟨N,hN⟩:∃ N:Nat,jJ (eT f rs)=N:=⟨(jJ (eT f rs)).toNat,by omega⟩;have hkN:∀ k ∈ ak (ae rs),f k < (N:Int):=fun k hk=>by
  obtain ⟨x,hx,e⟩:=Re (f:=f) hk;have h2:=(E8 (eT f rs) 0).2 x hx;have h3:x.1.2 + 1≤jJ (eT f rs):=h2;rw [e,hN] at h3;omega
 have hLs:ma (ae rs) ts f (eB ts) (cZ ts) N=bC st rs ts:=by
  rw [iw hr];unfold qX;rw [← wT (fun k hk=>hLf.same (Vj.out hsd) k hk)];exact (LA hkN _ (by omega)).symm
 rw [hN] at V4;have VH:=aC (M0 w1 rs ad D br bp bt N nr Mr f ts (eB ts) (cZ ts) np Mp vo vu V4 (HS.out.below hb1) (by omega) (by have:=oz ts; omega) (by have:=mr ts; omega) Yk (fun k=>by
  have:(G.lookL (eT f rs) k).length≤(eT f rs).length:=List.length_filterMap_le _ _;rw [Rf] at this; omega) hSP.1 UL.out (by omega) (pG UL.out) (nu UL.out) (xg WK.out))
 rw [hLs] at VH;have hGO:=kF f rs ts (eB ts) (cZ ts) N;rw [hLs] at hGO;have HB1:=aC hb1;have hll:=hGO.len (by have:=oz ts; omega) Yk (by have:=mr ts; omega);have ZY:Hid (∀ x ∈ bC st rs ts,x.fits):=fun x hx=>by
  have h1:=hGO.sub x hx;unfold BI at h1;obtain ⟨o,ho,h1⟩:=Uf.1 h1;obtain ⟨k,hk,h1⟩:=Uf.1 h1;obtain ⟨u,hu,rfl⟩:=Ue.1 h1;exact ⟨(pG UL.out o ho).1,(pG UL.out o ho).2,xg WK.out k hk,(nu UL.out u hu).1,(nu UL.out u hu).2⟩
 obtain ⟨L0,hL0⟩:∃ L0,L0=bC st rs ts:=⟨_,rfl⟩;rw [← hL0] at VH hll ZY;have HL0:=aC hL0;clear HC hb1 V4 hLf hfk hc0 hcl hN hkN hLs hGO hSP hsd h6 Wd Yk hr hbt hL0;go_wp2_with fail;refine VH.out.mono ?_;rintro e w2 ⟨⟨v,rfl,hown⟩,hb2⟩;have HB2:=aC (HB1.out.trans (hb2.mono HB1.out.size));have UB:=aC (fB hown HB1.out.size);clear VH hown hb2 HB1;cases L0 with
 | nil =>
  obtain ⟨XU,Vr,rfl,-⟩:=mW UB.out;have HSN:=aC (Mk XU Vr (.func (.func 61) #[] #[]) w2);have HP:Hid (DJ [] w (.returned (.slice XU 0 Vr)) w2):=⟨⟨[],_,rfl,List.Perm.refl _,List.Pairwise.nil,UB.out⟩,HB2.out⟩;clear UB HB2;go_wp2_with fail;refine HSN.out.mono ?_;rintro e w3 ⟨rfl,rfl⟩;go_wp2;go_ret;rw [← HL0.out]; exact HP.out
 | cons x0 xs0 =>
  obtain ⟨L1,hL1⟩:∃ L1,L1=x0::xs0:=⟨_,rfl⟩;obtain ⟨g,Vr,rfl⟩:=ownsRow_succ (k:=xs0.length) UB.out;have hgl:=(UB.out.lt g rfl).1;have Y7:=aC (Mj w.heap.size g Vr (x0::xs0) w2 ZY.out UB.out (by simp) (by omega));rw [← hL1] at Y7;have hlL:xs0.length + 1=L1.length:=by rw [hL1]; rfl
  rw [← hL1] at HL0;rw [hlL];clear UB ZY hll hL1 hlL;go_wp2_with fail;refine Y7.out.mono ?_;rintro e w3 ⟨rfl,ys,hp,hso,hrow,hcg⟩;have HP:Hid (DJ L1 w (.returned (.slice (some ⟨g,0,none⟩) L1.length Vr)) w3):=⟨⟨ys,_,rfl,hp,hso,by rw [hp.length_eq]; exact hrow⟩,HB2.out.trans (hcg.below (fun k hk=>by rw [hk]; exact hgl) HB2.out.size)⟩;clear hp hso hrow hcg HB2 Y7;go_wp2;go_ret;rw [← HL0.out]; exact HP.out
end
end Go.Proofs.YtajkkeikihhejaaGreat
