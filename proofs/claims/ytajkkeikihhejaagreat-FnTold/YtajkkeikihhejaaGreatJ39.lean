/- The program's facts: right data's, sorted; none else. -/
import Derived.Test.YtajkkeikihhejaaGreatSq
import Derived.Test.YtajkkeikihhejaaGreatFactsQ
import Derived.Test.YtajkkeikihhejaaGreatJ38
open Go.Proofs.Tryz
set_option maxHeartbeats 80000000
namespace Go.Proofs.YtajkkeikihhejaaGreat
set_option maxRecDepth 100000
set_option linter.unusedVariables false
set_option linter.unusedSectionVars false
open Go.ChangeShapes Go.WideShapes Go.ChangeAt Go.RowKit Go.Maps
open Pl
section
variable [DecidableEq Fc]
def DJ (L0:List Fc) (w:World) (e:Ending) (w':World):Prop:=(∃ (L:List Fc) (v:Value),e=.returned v∧L.Perm L0∧L.Pairwise (fun x y=>Op.bytesLess (Fb y) (Fb x)=false)∧w'.ownsRow w.heap.size 29 5 v L.length (aH L))∧ag w w'
theorem sI (st:ByteArray × ByteArray→Int) (ad:Option Addr) (cap:Nat) (rs:List TR) (UJ:Option Addr) (cap':Nat) (ts:List Tp) (w:af) (hlen:rs.length≤1048576) (hs:kW w ad rs) (hl:∀ r ∈ rs,r.light) (hfr:∀ r ∈ rs,r.fits) (hcp:∀ r ∈ rs,r.caps) (hlt:ts.length≤1048576) (hst:Sl w UJ ts) (hft:∀ x ∈ ts,x.fits) (hle:aJ (ae rs)=true→Least (ae rs) st) :
  Calls prog 14 #[.slice ad rs.length cap,.slice UJ ts.length cap'] w (DJ (bC st rs ts) w):=by
 have HC:=aC (JC (gV rs) ad cap rs UJ cap' ts w hlen hs hl hfr (vL ad cap rs w hlen hs hl hfr hcp) (fun h t ht=>wU h ht) hlt hst hft);have HS:=aC hs;have UL:=aC hft;have WK:=aC hfr;have Vj:=aC hle;clear hs hl hfr hcp hst hft hle;go_enter func14,ntmps14;go_wp2_with fail;refine HC.out.mono ?_;rintro e w1 ⟨hb1,⟨hr,rfl⟩ | ⟨hr,D,br,bp,bt,nr,np,Mr,Mp,vo,vu,f,rfl,hbt,hLf,V4⟩⟩
 ·have HP:Hid (DJ (bC st rs ts) w (.returned (.slice none 0 0)) w1):=⟨⟨[],_,rfl,by rw [jo hr],List.Pairwise.nil,World.ownsRow_nil _ _ _ _⟩,hb1⟩;clear hb1 HC hr;go_wp2;go_ret;exact HP.out
 have hsd:aJ (ae rs)=true∧ts.length≤40:=by
  unfold aQ dJ at hr;simp only [TU,Ud] at hr;exact ⟨hr.1.1,hr.1.2.1⟩
 obtain ⟨hsd,ht40⟩:=hsd;have hSP:=aY.1 hsd;obtain ⟨h6,We,-⟩:=bq hSP.1;have Yj:=yJ h6 We;have hfk:∀ k ∈ ak (ae rs),f k + 1≤(ak (ae rs)).length:=fun k hk=>by
  obtain ⟨g,hg,hb⟩:=hLf.sol.few (kw hSP.2.1);have h1:=hLf.low k hk g hg;have h2:=hb k hk;omega
 have hc0:0≤jJ (eT f rs):=(E5 (eT f rs) 0).1;have hcl:jJ (eT f rs)≤(ak (ae rs)).length:=KF _ _ _ (by omega) fun x hx=>by
  obtain ⟨k,hk,e,-⟩:=SQ hx;rw [e]; exact hfk k hk
 obtain ⟨N,hN⟩:∃ N:Nat,jJ (eT f rs)=N:=⟨(jJ (eT f rs)).toNat,by omega⟩;have hkN:∀ k ∈ ak (ae rs),f k < (N:Int):=fun k hk=>by
  obtain ⟨x,hx,e⟩:=Q6 (f:=f) hk;have h2:=(E5 (eT f rs) 0).2 x hx;have h3:x.1.2 + 1≤jJ (eT f rs):=h2;rw [e,hN] at h3;omega
 have hLs:ma (ae rs) ts f (eB ts) (cZ ts) N=bC st rs ts:=by
  rw [iw hr];unfold qV;rw [← wW (fun k hk=>hLf.same (Vj.out hsd) k hk)];exact (LD hkN _ (by omega)).symm
 rw [hN] at V4;have VH:=aC (MU w1 rs ad D br bp bt N nr Mr f ts (eB ts) (cZ ts) np Mp vo vu V4 (HS.out.below hb1) (by omega) (by have:=oD ts; omega) (by have:=mF ts; omega) Yj (fun k=>by
  have:(G.lookL (eT f rs) k).length≤(eT f rs).length:=List.length_filterMap_le _ _;rw [Q7] at this; omega) hSP.1 UL.out (by omega) (pF UL.out) (nu UL.out) (wY WK.out))
 rw [hLs] at VH;have hGO:=kF f rs ts (eB ts) (cZ ts) N;rw [hLs] at hGO;have HB1:=aC hb1;have hll:=hGO.len (by have:=oD ts; omega) Yj (by have:=mF ts; omega);have ZY:Hid (∀ x ∈ bC st rs ts,x.fits):=fun x hx=>by
  have h1:=hGO.sub x hx;unfold BO at h1;obtain ⟨o,ho,h1⟩:=Uf.1 h1;obtain ⟨k,hk,h1⟩:=Uf.1 h1;obtain ⟨u,hu,rfl⟩:=Ue.1 h1;exact ⟨(pF UL.out o ho).1,(pF UL.out o ho).2,wY WK.out k hk,(nu UL.out u hu).1,(nu UL.out u hu).2⟩
 obtain ⟨L0,hL0⟩:∃ L0,L0=bC st rs ts:=⟨_,rfl⟩;rw [← hL0] at VH hll ZY;have HL0:=aC hL0;clear HC hb1 V4 hLf hfk hc0 hcl hN hkN hLs hGO hSP hsd h6 We Yj hr hbt hL0;go_wp2_with fail;refine VH.out.mono ?_;rintro e w2 ⟨⟨v,rfl,hown⟩,hb2⟩;have HB2:=aC (HB1.out.trans (hb2.mono HB1.out.size));have UB:=aC (fB hown HB1.out.size);clear VH hown hb2 HB1;cases L0 with
 | nil =>
  obtain ⟨XU,Vs,rfl,-⟩:=mY UB.out;have HSN:=aC (MX XU Vs (.func (.func 61) #[] #[]) w2);have HP:Hid (DJ [] w (.returned (.slice XU 0 Vs)) w2):=⟨⟨[],_,rfl,List.Perm.refl _,List.Pairwise.nil,UB.out⟩,HB2.out⟩;clear UB HB2;go_wp2_with fail;refine HSN.out.mono ?_;rintro e w3 ⟨rfl,rfl⟩;go_wp2;go_ret;rw [← HL0.out]; exact HP.out
 | cons x0 xs0 =>
  obtain ⟨L1,hL1⟩:∃ L1,L1=x0::xs0:=⟨_,rfl⟩;obtain ⟨g,Vs,rfl⟩:=ownsRow_succ (k:=xs0.length) UB.out;have hgl:=(UB.out.lt g rfl).1;have Y6:=aC (MW w.heap.size g Vs (x0::xs0) w2 ZY.out UB.out (by simp) (by omega));rw [← hL1] at Y6;have hlL:xs0.length + 1=L1.length:=by rw [hL1]; rfl
  rw [← hL1] at HL0;rw [hlL];clear UB ZY hll hL1 hlL;go_wp2_with fail;refine Y6.out.mono ?_;rintro e w3 ⟨rfl,ys,hp,hso,hrow,hcg⟩;have HP:Hid (DJ L1 w (.returned (.slice (some ⟨g,0,none⟩) L1.length Vs)) w3):=⟨⟨ys,_,rfl,hp,hso,by rw [hp.length_eq]; exact hrow⟩,HB2.out.trans (hcg.below (fun k hk=>by rw [hk]; exact hgl) HB2.out.size)⟩;clear hp hso hrow hcg HB2 Y6;go_wp2;go_ret;rw [← HL0.out]; exact HP.out
end
def okF (x:Fc):Prop:=bI x.a x.b x.r x.c x.d ⟨#[]⟩=true
theorem Rh {a b:ByteArray} (h:a.toList=b.toList):a=b:=by
 rw [Go.ByteArray.toList_eq,Go.ByteArray.toList_eq] at h;cases a; cases b; congr; exact Array.toList_inj.1 h
theorem ny {x y:Fc} (hx:okF x) (hy:okF y):oI x y=Op.bytesLess (Fb x) (Fb y):=by
 unfold okF at hx hy;unfold oI fU Fb;rw [hx,hy];rfl
theorem KM {x y:Fc} (hx:okF x) (hy:okF y) (h:Fb x=Fb y):x=y:=by
 obtain ⟨h1,h2,h3,h4,h5,-⟩:=xm hx hy (Rh h);cases x; cases y;simp only at h1 h2 h3 h4 h5;subst h1 h2 h3 h4 h5;rfl
theorem TM {L:List Fc} (h:∀ x ∈ L,okF x):OrdO oI L where
 trans x hx y hy z hz h1 h2:=by
  rw [ny (h x hx) (h y hy)] at h1;rw [ny (h y hy) (h z hz)] at h2;rw [ny (h x hx) (h z hz)];exact Ls.lt_trans _ _ _ h1 h2
 asymm x hx y hy h1:=by
  rw [ny (h x hx) (h y hy)] at h1;rw [ny (h y hy) (h x hx)];exact Ls.lt_asymm _ _ h1
 total x hx y hy hne:=by
  rw [ny (h x hx) (h y hy),ny (h y hy) (h x hx)];exact Ls.lt_total _ _ fun e=>hne (KM (h x hx) (h y hy) e)
theorem Ri {L L0:List Fc} (hp:L.Perm L0) (hn:L0.Nodup) (hok:∀ x ∈ L0,okF x) (hs:L.Pairwise (fun x y=>Op.bytesLess (Fb y) (Fb x)=false)):L=ko oI L0:=by
 refine (NH (TM hok) hn ?_ hp).symm;have hd:L.Nodup:=hp.nodup_iff.2 hn;refine (List.Pairwise.and hd hs).imp_of_mem fun {x y} hx hy h=>?_;have ox:=hok x (hp.mem_iff.1 hx);have oy:=hok y (hp.mem_iff.1 hy);rw [ny ox oy];rcases Ls.lt_total (Fb x) (Fb y) (fun e=>h.1 (KM ox oy e)) with h1 | h1
 ·exact h1
 rw [h.2] at h1; cases h1
theorem Rj {ts:List Tp} (h:dJ ts=true):∀ t ∈ ts,t.ok=true:=fun t ht=>by
 unfold dJ at h;have h:=(Bool.and_eq_true_iff.1 h).2;unfold tH at h;rw [Ub] at h;obtain ⟨i,hi,rfl⟩:=List.mem_iff_getElem.1 ht;have h1:=h i (List.mem_range.2 hi);unfold uN at h1;rw [TY hi] at h1;exact (Bool.and_eq_true_iff.1 h1).1
theorem RO {ts:List Tp} (hf:∀ t ∈ ts,t.ok=true) {o:Al} (h:∃ t ∈ ts,o=⟨t.a,t.b⟩ ∨ o=⟨t.c,t.d⟩):eH o.t o.s=true:=by
 obtain ⟨t,ht,h⟩:=h;have h1:=hf t ht;unfold Tp.ok bI at h1;simp only [TU] at h1;rcases h with rfl | rfl
 ·exact h1.1.1.1
 exact h1.1.2
theorem Rk {rs:List TR} (hs:bf (ae rs)=true) {k:ByteArray × ByteArray} (hk:k ∈ ak (ae rs)):aP k.2=true:=by
 unfold ak at hk;obtain ⟨T,hT,hk⟩:=Uf.1 hk;unfold jF at hk;obtain ⟨r,hr,rfl⟩:=Ue.1 hk;exact (tT hs hT hr).1
section
variable [DecidableEq Fc]
theorem Bq {st:ByteArray × ByteArray→Int} {rs:List TR} {ts:List Tp} {x:Fc} (hx:x ∈ bC st rs ts):∃ o ∈ eB ts,∃ k ∈ ak (ae rs),∃ u ∈ cZ ts,x=⟨o.t,o.s,k.2,u.t,u.s⟩:=by
 cases hr:aQ (gV rs) rs ts;case false=>rw [jo hr] at hx; cases hx
 rw [iw hr] at hx;have h1:=(kF st rs ts (eB ts) (cZ ts) _).sub x hx;unfold BO at h1;obtain ⟨o,ho,h1⟩:=Uf.1 h1;obtain ⟨k,hk,h1⟩:=Uf.1 h1;unfold ja at h1;obtain ⟨u,hu,rfl⟩:=Ue.1 h1;exact ⟨o,ho,k,hk,u,hu,rfl⟩
theorem Hg {st:ByteArray × ByteArray→Int} {rs:List TR} {ts:List Tp}:(bC st rs ts).Nodup:=by
 cases hr:aQ (gV rs) rs ts;case false=>rw [jo hr]; exact List.nodup_nil
 rw [iw hr]; exact (kF st rs ts (eB ts) (cZ ts) _).once
theorem M4 {st:ByteArray × ByteArray→Int} {rs:List TR} {ts:List Tp}:∀ x ∈ bC st rs ts,okF x:=fun x hx=>by
 cases hr:aQ (gV rs) rs ts;case false=>rw [jo hr] at hx; cases hx
 obtain ⟨o,ho,k,hk,u,hu,rfl⟩:=Bq hx;unfold aQ at hr;simp only [TU] at hr;have hts:=Rj hr.1.2;have ho1:eH o.t o.s=true:=by
  rcases Bf ts [] o ho with h | h
  ·cases h
  exact RO hts h
 have hu1:eH u.t u.s=true:=by
  rcases Bg ts [] u hu with h | h
  ·cases h
  exact RO hts h
 have hn:=Rk (aY.1 hr.1.1).1 hk;show bI o.t o.s k.2 u.t u.s ⟨#[]⟩=true;unfold bI;rw [ho1,hu1,hn];unfold uj;rw [Go.ByteArray.toList_eq];rfl
theorem xZ {st:ByteArray × ByteArray→Int} {rs:List TR} {ts:List Tp} (hfr:∀ r ∈ rs,r.fits) (hft:∀ x ∈ ts,x.fits):∀ x ∈ bC st rs ts,x.fits:=fun x hx=>by
 obtain ⟨o,ho,k,hk,u,hu,rfl⟩:=Bq hx;have h1:=pF hft o ho;have h2:=nu hft u hu;exact ⟨h1.1,h1.2,wY hfr k hk,h2.1,h2.2⟩
def iy (st:ByteArray × ByteArray→Int) (rs:List TR) (ts:List Tp):List Fc:=ko oI (bC st rs ts)
theorem Br (st:ByteArray × ByteArray→Int) (rs:List TR) (ts:List Tp):(iy st rs ts).length=(bC st rs ts).length:=(iZ _).length_eq
theorem BS {st:ByteArray × ByteArray→Int} {rs:List TR} {ts:List Tp} {w:af} {e:Ending} {w':af} (h:DJ (bC st rs ts) w e w'):(∃ v,e=.returned v∧w'.ownsRow w.heap.size 29 5 v (iy st rs ts).length (aH (iy st rs ts)))∧ag w w':=by
 obtain ⟨⟨L,v,he,hp,hs,hown⟩,hb⟩:=h;obtain rfl:=Ri hp Hg M4 hs;exact ⟨⟨v,he,hown⟩,hb⟩
end
end Go.Proofs.YtajkkeikihhejaaGreat
