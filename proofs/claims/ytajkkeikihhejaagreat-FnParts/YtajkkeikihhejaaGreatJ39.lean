/- The program's facts: right data's, sorted; none else. -/
import Derived.Test.YtajkkeikihhejaaGreatSq
import Derived.Test.YtajkkeikihhejaaGreatJ35
import Derived.Test.YtajkkeikihhejaaGreatJ36
import Derived.Test.YtajkkeikihhejaaGreatJ27
open Go.Proofs.Tryz
set_option maxHeartbeats 80000000
namespace Go.Proofs.YtajkkeikihhejaaGreat
set_option maxRecDepth 100000
set_option linter.unusedVariables false
set_option linter.unusedSectionVars false
open Go.ChangeShapes Go.WideShapes Go.ChangeAt Go.RowKit Go.Maps
open Pl
section
variable  [DecidableEq Fc]
def DN (L0:List Fc)(w:World)(e:Ending)(w':World):Prop:=(∃ (L:List Fc) (v:Value),e=.returned v/\L.Perm L0/\L.Pairwise (fun x y=>Op.bytesLess (Fg y) (Fg x)=false)/\w'.ownsRow w.heap.size 29 5 v L.length (aI L))/\ag w w'
theorem sN (st:ByteArray×ByteArray->Int)(ad:Option Addr)(cap:Nat)(rs:List TR)(UX:Option Addr)(cap':Nat)(ts:List Tp)(w:af)(hlen:rs.length<=1048576)(hs:kX w ad rs)(hl:∀ r∈rs,r.light)(hfr:∀ r∈rs,r.fits)(hcp:∀ r∈rs,r.caps)(hlt:ts.length<=1048576)(hst:Sl w UX ts)(hft:∀ x∈ts,x.fits)(hle:aL (ae rs)=true->Least (ae rs) st) :
  Calls prog 14 #[.slice ad rs.length cap,.slice UX ts.length cap'] w (DN (ax st rs ts) w):=by
 have HC:=aD (Jy (gW rs) ad cap rs UX cap' ts w hlen hs hl hfr (vY ad cap rs w hlen hs hl hfr hcp) (fun h t ht=>DL h ht) hlt hst hft);have HS:=aD hs;have UY:=aD hft;have Xb:=aD hfr;have Vs:=aD hle;clear hs hl hfr hcp hst hft hle;go_enter func14,ntmps14;go_wp2_with fail;refine HC.out.mono ?_;rintro e w1 ⟨hb1,⟨hr,rfl⟩|⟨hr,D,br,bp,bt,nr,np,Mr,Mp,vo,vu,f,rfl,hbt,hLf,Ws⟩⟩
 ·have HP:Hid (DN (ax st rs ts) w (.returned (.slice none 0 0)) w1):=⟨⟨[],_,rfl,by rw [jq hr],List.Pairwise.nil,World.ownsRow_nil _ _ _ _⟩,hb1⟩;clear hb1 HC hr;go_wp2;go_ret;exact HP.out
 have hsd:aL (ae rs)=true/\ts.length<=40:=by
  unfold aV dL at hr;simp only [Ug,Um]at hr;exact ⟨hr.1.1,hr.1.2.1⟩
 obtain ⟨hsd,ht40⟩:=hsd;have hSP:=aZ.1 hsd;obtain ⟨h6,Ww,-⟩:=bu hSP.1;have YA:=yP h6 Ww;have hfk:∀ k∈ak (ae rs),f k+1<=(ak (ae rs)).length:=fun k hk=>by
  obtain ⟨g,hg,hb⟩:=hLf.sol.few (kz hSP.2.1);have h1:=hLf.low k hk g hg;have h2:=hb k hk;omega
 have hc0:0<=jJ (eY f rs):=(E8 (eY f rs) 0).1;have hcl:jJ (eY f rs)<=(ak (ae rs)).length:=KH _ _ _ (by omega) fun x hx=>by
  obtain ⟨k,hk,e,-⟩:=Te hx;rw [e];exact hfk k hk
 obtain ⟨N,hN⟩:∃ N:Nat,jJ (eY f rs)=N:=⟨(jJ (eY f rs)).toNat,by omega⟩;have hkN:∀ k∈ak (ae rs),f k<(N:Int):=fun k hk=>by
  obtain ⟨x,hx,e⟩:=Ro (f:=f) hk;have h2:=(E8 (eY f rs) 0).2 x hx;have h3:x.1.2+1<=jJ (eY f rs):=h2;rw [e,hN]at h3;omega
 have hLs:mg (ae rs) ts f (eD ts) (dh ts) N=ax st rs ts:=by
  rw [iy hr];unfold qY;rw [<-xk (fun k hk=>hLf.same (Vs.out hsd) k hk)];exact (LV hkN _ (by omega)).symm
 rw [hN]at Ws;have VJ:=aD (MX w1 rs ad D br bp bt N nr Mr f ts (eD ts) (dh ts) np Mp vo vu Ws (HS.out.below hb1) (by omega) (by have:=oD ts;omega) (by have:=mG ts;omega) YA (fun k=>by
  have:(G.lookL (eY f rs) k).length<=(eY f rs).length:=List.length_filterMap_le _ _;rw [Rp]at this;omega) hSP.1 UY.out (by omega) (pM UY.out) (ny UY.out) (xq Xb.out))
 rw [hLs]at VJ;have hGO:=kG f rs ts (eD ts) (dh ts) N;rw [hLs]at hGO;have HB1:=aD hb1;have hll:=hGO.len (by have:=oD ts;omega) YA (by have:=mG ts;omega);have HFF:Hid (∀ x∈ax st rs ts,x.fits):=fun x hx=>by
  have h1:=hGO.sub x hx;unfold BP at h1;obtain ⟨o,ho,h1⟩:=Ut.1 h1;obtain ⟨k,hk,h1⟩:=Ut.1 h1;obtain ⟨u,hu,rfl⟩:=Ur.1 h1;exact ⟨(pM UY.out o ho).1,(pM UY.out o ho).2,xq Xb.out k hk,(ny UY.out u hu).1,(ny UY.out u hu).2⟩
 obtain ⟨L0,hL0⟩:∃ L0,L0=ax st rs ts:=⟨_,rfl⟩;rw [<-hL0]at VJ hll HFF;have HL0:=aD hL0;clear HC hb1 Ws hLf hfk hc0 hcl hN hkN hLs hGO hSP hsd h6 Ww YA hr hbt hL0;go_wp2_with fail;refine VJ.out.mono ?_;rintro e w2 ⟨⟨v,rfl,hown⟩,hb2⟩;have HB2:=aD (HB1.out.trans (hb2.mono HB1.out.size));have UN:=aD (fD hown HB1.out.size);clear VJ hown hb2 HB1;cases L0 with
 | nil =>
  obtain ⟨Yj,VI,rfl,-⟩:=ni UN.out;have HSN:=aD (M8 Yj VI (.func (.func 61) #[] #[]) w2);have HP:Hid (DN [] w (.returned (.slice Yj 0 VI)) w2):=⟨⟨[],_,rfl,List.Perm.refl _,List.Pairwise.nil,UN.out⟩,HB2.out⟩;clear UN HB2;go_wp2_with fail;refine HSN.out.mono ?_;rintro e w3 ⟨rfl,rfl⟩;go_wp2;go_ret;rw [<-HL0.out];exact HP.out
 | cons x0 xs0 =>
  obtain ⟨L1,hL1⟩:∃ L1,L1=x0::xs0:=⟨_,rfl⟩;obtain ⟨g,VI,rfl⟩:=ownsRow_succ (k:=xs0.length) UN.out;have hgl:=(UN.out.lt g rfl).1;have Zi:=aD (M7 w.heap.size g VI (x0::xs0) w2 HFF.out UN.out (by simp) (by omega));rw [<-hL1]at Zi;have hlL:xs0.length+1=L1.length:=by rw [hL1];rfl
  rw [<-hL1]at HL0;rw [hlL];clear UN HFF hll hL1 hlL;go_wp2_with fail;refine Zi.out.mono ?_;rintro e w3 ⟨rfl,ys,hp,hso,hrow,hcg⟩;have HP:Hid (DN L1 w (.returned (.slice (some ⟨g,0,none⟩) L1.length VI)) w3):=⟨⟨ys,_,rfl,hp,hso,by rw [hp.length_eq];exact hrow⟩,HB2.out.trans (hcg.below (fun k hk=>by rw [hk];exact hgl) HB2.out.size)⟩;clear hp hso hrow hcg HB2 Zi;go_wp2;go_ret;rw [<-HL0.out];exact HP.out
end
def okF (x:Fc):Prop:=bQ x.a x.b x.r x.c x.d ⟨#[]⟩=true
theorem Ru {a b:ByteArray}(h:a.toList=b.toList):a=b:=by
 rw [Go.ByteArray.toList_eq,Go.ByteArray.toList_eq]at h;cases a;cases b;congr;exact Array.toList_inj.1 h
theorem nA {x y:Fc}(hx:okF x)(hy:okF y):oH x y=Op.bytesLess (Fg x) (Fg y):=by
 unfold okF at hx hy;unfold oH fT Fg;rw [hx,hy];rfl
theorem KM {x y:Fc}(hx:okF x)(hy:okF y)(h:Fg x=Fg y):x=y:=by
 obtain ⟨h1,h2,h3,h4,h5,-⟩:=xD hx hy (Ru h);cases x;cases y;simp only at h1 h2 h3 h4 h5;subst h1 h2 h3 h4 h5;rfl
theorem Ua {L:List Fc}(h:∀ x∈L,okF x):OrdO oH L where
 trans x hx y hy z hz h1 h2:=by
  rw [nA (h x hx) (h y hy)]at h1;rw [nA (h y hy) (h z hz)]at h2;rw [nA (h x hx) (h z hz)];exact Ls.lt_trans _ _ _ h1 h2
 asymm x hx y hy h1:=by
  rw [nA (h x hx) (h y hy)]at h1;rw [nA (h y hy) (h x hx)];exact Ls.lt_asymm _ _ h1
 total x hx y hy hne:=by
  rw [nA (h x hx) (h y hy),nA (h y hy) (h x hx)];exact Ls.lt_total _ _ fun e=>hne (KM (h x hx) (h y hy) e)
theorem Rv {L L0:List Fc}(hp:L.Perm L0)(hn:L0.Nodup)(hok:∀ x∈L0,okF x)(hs:L.Pairwise (fun x y=>Op.bytesLess (Fg y) (Fg x)=false)):L=kv oH L0:=by
 refine (N9 (Ua hok) hn ?_ hp).symm;have hd:L.Nodup:=hp.nodup_iff.2 hn;refine (List.Pairwise.and hd hs).imp_of_mem fun {x y} hx hy h=>?_;have ox:=hok x (hp.mem_iff.1 hx);have oy:=hok y (hp.mem_iff.1 hy);rw [nA ox oy];rcases Ls.lt_total (Fg x) (Fg y) (fun e=>h.1 (KM ox oy e)) with h1|h1
 ·exact h1
 rw [h.2]at h1;cases h1
theorem Rx {ts:List Tp}(h:dL ts=true):∀ t∈ts,t.ok=true:=fun t ht=>by
 unfold dL at h;have h:=(Bool.and_eq_true_iff.1 h).2;unfold tO at h;rw [Un]at h;obtain ⟨i,hi,rfl⟩:=List.mem_iff_getElem.1 ht;have h1:=h i (List.mem_range.2 hi);unfold uX at h1;rw [Uj hi]at h1;exact (Bool.and_eq_true_iff.1 h1).1
theorem R6 {ts:List Tp}(hf:∀ t∈ts,t.ok=true){o:Al}(h:∃ t∈ts,o=⟨t.a,t.b⟩\/o=⟨t.c,t.d⟩):eT o.t o.s=true:=by
 obtain ⟨t,ht,h⟩:=h;have h1:=hf t ht;unfold Tp.ok bQ at h1;simp only [Ug]at h1;rcases h with rfl|rfl
 ·exact h1.1.1.1
 exact h1.1.2
theorem Ry {rs:List TR}(hs:bi (ae rs)=true){k:ByteArray×ByteArray}(hk:k∈ak (ae rs)):aR k.2=true:=by
 unfold ak at hk;obtain ⟨T,hT,hk⟩:=Ut.1 hk;unfold jH at hk;obtain ⟨r,hr,rfl⟩:=Ur.1 hk;exact (tY hs hT hr).1
section
variable  [DecidableEq Fc]
theorem Bv {st:ByteArray×ByteArray->Int}{rs:List TR}{ts:List Tp}{x:Fc}(hx:x∈ax st rs ts):∃ o∈eD ts,∃ k∈ak (ae rs),∃ u∈dh ts,x=⟨o.t,o.s,k.2,u.t,u.s⟩:=by
 cases hr:aV (gW rs) rs ts;case false=>rw [jq hr]at hx;cases hx
 rw [iy hr]at hx;have h1:=(kG st rs ts (eD ts) (dh ts) _).sub x hx;unfold BP at h1;obtain ⟨o,ho,h1⟩:=Ut.1 h1;obtain ⟨k,hk,h1⟩:=Ut.1 h1;unfold jc at h1;obtain ⟨u,hu,rfl⟩:=Ur.1 h1;exact ⟨o,ho,k,hk,u,hu,rfl⟩
theorem Hm {st:ByteArray×ByteArray->Int}{rs:List TR}{ts:List Tp}:(ax st rs ts).Nodup:=by
 cases hr:aV (gW rs) rs ts;case false=>rw [jq hr];exact List.nodup_nil
 rw [iy hr];exact (kG st rs ts (eD ts) (dh ts) _).once
theorem Na {st:ByteArray×ByteArray->Int}{rs:List TR}{ts:List Tp}:∀ x∈ax st rs ts,okF x:=fun x hx=>by
 cases hr:aV (gW rs) rs ts;case false=>rw [jq hr]at hx;cases hx
 obtain ⟨o,ho,k,hk,u,hu,rfl⟩:=Bv hx;unfold aV at hr;simp only [Ug]at hr;have hts:=Rx hr.1.2;have ho1:eT o.t o.s=true:=by
  rcases Br ts [] o ho with h|h
  ·cases h
  exact R6 hts h
 have hu1:eT u.t u.s=true:=by
  rcases Bt ts [] u hu with h|h
  ·cases h
  exact R6 hts h
 have hn:=Ry (aZ.1 hr.1.1).1 hk;show bQ o.t o.s k.2 u.t u.s ⟨#[]⟩=true;unfold bQ;rw [ho1,hu1,hn];unfold uI;rw [Go.ByteArray.toList_eq];rfl
theorem yj {st:ByteArray×ByteArray->Int}{rs:List TR}{ts:List Tp}(hfr:∀ r∈rs,r.fits)(hft:∀ x∈ts,x.fits):∀ x∈ax st rs ts,x.fits:=fun x hx=>by
 obtain ⟨o,ho,k,hk,u,hu,rfl⟩:=Bv hx;have h1:=pM hft o ho;have h2:=ny hft u hu;exact ⟨h1.1,h1.2,xq hfr k hk,h2.1,h2.2⟩
def iB (st:ByteArray×ByteArray->Int)(rs:List TR)(ts:List Tp):List Fc:=kv oH (ax st rs ts)
theorem Bw (st:ByteArray×ByteArray->Int)(rs:List TR)(ts:List Tp):(iB st rs ts).length=(ax st rs ts).length:=(jb _).length_eq
theorem BX {st:ByteArray×ByteArray->Int}{rs:List TR}{ts:List Tp}{w:af}{e:Ending}{w':af}(h:DN (ax st rs ts) w e w'):(∃ v,e=.returned v/\w'.ownsRow w.heap.size 29 5 v (iB st rs ts).length (aI (iB st rs ts)))/\ag w w':=by
 obtain ⟨⟨L,v,he,hp,hs,hown⟩,hb⟩:=h;obtain rfl:=Rv hp Hm Na hs;exact ⟨⟨v,he,hown⟩,hb⟩
end
end Go.Proofs.YtajkkeikihhejaaGreat
