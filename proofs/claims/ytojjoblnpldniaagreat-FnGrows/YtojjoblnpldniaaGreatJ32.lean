/- The program's facts: right data's, sorted; none else. -/
import Derived.Test.YtojjoblnpldniaaGreatSq
import Derived.Test.YtojjoblnpldniaaGreatFactsQ
import Derived.Test.YtojjoblnpldniaaGreatJ27
open Go.Proofs.Tryz
set_option maxHeartbeats 80000000
namespace Go.Proofs.YtojjoblnpldniaaGreat
set_option maxRecDepth 100000
set_option linter.unusedVariables false
set_option linter.unusedSectionVars false
open ChangeShapes WideShapes ChangeAt RowKit Maps
open Pl
section
variable  [DecidableEq Fc]
def IL(L0:Q04)(w:World)(e:Ending)(w':World):Prop:=(∃(L:Q04) (v:Value),e=.returned v/\L.Perm L0/\L.Pairwise (fun x y=>Op.bytesLess (FX y) (FX x)=false)/\w'.ownsRow w.heap.size 52 5 v L.length (aH L))/\ag w w'
theorem tK(st:Q00)(ad:Q02)(cap:Nat)(rs:Q06)(WS:Q02)(cap':Nat)(ts:Q05)(w:ae)(hlen:rs.length<=1048576)(hs:mP w ad rs)(hl:∀r∈rs,r.light)(hfr:∀r∈rs,r.fits)(hcp:∀r∈rs,r.caps)(hlt:ts.length<=1048576)(hst:Sl w WS ts)(hft:∀x∈ts,x.fits)(hle:aN (af rs)=true->Least (af rs) st):
  Calls prog 11 #[.slice ad rs.length cap,.slice WS ts.length cap'] w (IL (dh st rs ts) w):=by
 have HC:=aF (Kq (gV rs) ad cap rs WS cap' ts w hlen hs hl hfr (wC ad cap rs w hlen hs hl hfr hcp) (fun h t ht=>Ee h ht) hlt hst hft);have HS:=aF hs;have WR:=aF hft;have YQ:=aF hfr;have XA:=aF hle;clear hs hl hfr hcp hst hft hle;go_enter func11,ntmps11;go_wp2_with fail;refine HC.out.mono ?_;rintro e w1 ⟨hb1,⟨hr,rfl⟩|⟨hr,D,br,bp,bt,nr,np,Mr,Mp,vo,vu,f,rfl,hbt,hLf,Yl⟩⟩
 ·have HP:Hid (IL (dh st rs ts) w (.returned (.slice none 0 0)) w1):=⟨⟨[],_,rfl,by rw[jv hr],List.Pairwise.nil,World.ownsRow_nil _ _ _ _⟩,hb1⟩;clear hb1 HC hr;go_wp2;go_ret;exact HP.out
 have hsd:aN (af rs)=true/\ts.length<=40:=by
  unfold aW dH at hr;simp only[Vt,VF]at hr;exact⟨hr.1.1,hr.1.2.1⟩
 obtain⟨hsd,ht40⟩:=hsd;have hSP:=bu.1 hsd;obtain⟨h6,Yt,-⟩:=bq hSP.1;have aaa:=za h6 Yt;have hfk:∀k∈ak (af rs),f k+1<=(ak (af rs)).length:=fun k hk=>by
  obtain⟨g,hg,hb⟩:=hLf.sol.few (kG hSP.2.1);have h1:=hLf.low k hk g hg;have h2:=hb k hk;omega
 have hc0:0<=jN (fe f rs):=(FT (fe f rs) 0).1;have hcl:jN (fe f rs)<=(ak (af rs)).length:=L6 _ _ _ (by omega) fun x hx=>by
  obtain⟨k,hk,e,-⟩:=UD hx;rw[e];exact hfk k hk
 obtain⟨N,hN⟩:∃N:Nat,jN (fe f rs)=N:=⟨(jN (fe f rs)).toNat,by omega⟩;have hkN:∀k∈ak (af rs),f k<(N:Int):=fun k hk=>by
  obtain⟨x,hx,e⟩:=Ta (f:=f) hk;have h2:=(FT (fe f rs) 0).2 x hx;have h3:x.1.2+1<=jN (fe f rs):=h2;rw[e,hN]at h3;omega
 have hLs:kV (af rs) ts f (dW ts) (bH ts) N=dh st rs ts:=by
  rw[ig hr];unfold rz;rw[<-xD (fun k hk=>hLf.same (XA.out hsd) k hk)];exact(MN hkN _ (by omega)).symm
 rw [hN]at Yl;have XU:=aF (Oq w1 rs ad D br bp bt N nr Mr f ts (dW ts) (bH ts) np Mp vo vu Yl (HS.out.below hb1) (by omega) (by have:=oH ts;omega) (by have:=mM ts;omega) aaa (fun k=>by
  have:(G.lookL (fe f rs) k).length<=(fe f rs).length:=WE _ _;rw[Tc]at this;omega) hSP.1 WR.out (by omega) (pO WR.out) (nA WR.out) (xJ YQ.out))
 rw[hLs]at XU;have hGO:=kL f rs ts (dW ts) (bH ts) N;rw[hLs]at hGO;have HB1:=aF hb1;have hll:=hGO.len (by have:=oH ts;omega) aaa (by have:=mM ts;omega);have HFF:Hid (∀x∈dh st rs ts,x.fits):=fun x hx=>by
  have h1:=hGO.sub x hx;unfold Cw at h1;obtain⟨o,ho,h1⟩:=VJ.1 h1;obtain⟨k,hk,h1⟩:=VJ.1 h1;obtain⟨u,hu,rfl⟩:=VG.1 h1;exact⟨(pO WR.out o ho).1,(pO WR.out o ho).2,xJ YQ.out k hk,(nA WR.out u hu).1,(nA WR.out u hu).2⟩
 obtain⟨L0,hL0⟩:∃L0,L0=dh st rs ts:=⟨_,rfl⟩;rw[<-hL0]at XU hll HFF;have HL0:=aF hL0;clear HC hb1 Yl hLf hfk hc0 hcl hN hkN hLs hGO hSP hsd h6 Yt aaa hr hbt hL0;go_wp2_with fail;refine XU.out.mono ?_;rintro e w2 ⟨⟨v,rfl,hown⟩,hb2⟩;have HB2:=aF (HB1.out.trans (hb2.mono HB1.out.size));have WL:=aF (dY hown HB1.out.size);clear XU hown hb2 HB1;cases L0 with
 | nil =>
  obtain⟨adF,XQ,rfl,-⟩:=oC WL.out;have HSN:=aF (N9 adF XQ (.func (.func 58) #[] #[]) w2);have HP:Hid (IL [] w (.returned (.slice adF 0 XQ)) w2):=⟨⟨[],_,rfl,List.Perm.refl _,List.Pairwise.nil,WL.out⟩,HB2.out⟩;clear WL HB2;go_wp2_with fail;refine HSN.out.mono ?_;rintro e w3 ⟨rfl,rfl⟩;go_wp2;go_ret;rw[<-HL0.out];exact HP.out
 | cons x0 YH =>
  obtain⟨L1,hL1⟩:∃L1,L1=x0::YH:=⟨_,rfl⟩;obtain⟨g,XQ,rfl⟩:=ownsRow_succ (k:=YH.length) WL.out;have hgl:=(WL.out.lt g rfl).1;have HSF:=aF (N8 w.heap.size g XQ (x0::YH) w2 HFF.out WL.out (by simp) (by omega));rw[<-hL1]at HSF;have hlL:YH.length+1=L1.length:=by rw[hL1];rfl
  rw[<-hL1]at HL0;rw[hlL];clear WL HFF hll hL1 hlL;go_wp2_with fail;refine HSF.out.mono ?_;rintro e w3 ⟨rfl,ys,hp,hso,hrow,hcg⟩;have HP:Hid (IL L1 w (.returned (.slice (some ⟨g,0,none⟩) L1.length XQ)) w3):=⟨⟨ys,_,rfl,hp,hso,by rw[hp.length_eq];exact hrow⟩,HB2.out.trans (hcg.below (fun k hk=>by rw[hk];exact hgl) HB2.out.size)⟩;clear hp hso hrow hcg HB2 HSF;go_wp2;go_ret;rw[<-HL0.out];exact HP.out
end
def okF(x:Fc):Prop:=bz x.a x.b x.r x.c x.d ⟨#[]⟩=true
theorem Td{a b:ByteArray}(h:a.toList=b.toList):a=b:=by
 rw[Go.ByteArray.toList_eq,Go.ByteArray.toList_eq]at h;cases a;cases b;congr;exact Array.toList_inj.1 h
theorem nC{x y:Fc}(hx:okF x)(hy:okF y):oL x y=Op.bytesLess (FX x) (FX y):=by
 unfold okF at hx hy;unfold oL fO FX;rw[hx,hy];rfl
theorem L8{x y:Fc}(hx:okF x)(hy:okF y)(h:FX x=FX y):x=y:=by
 obtain⟨h1,h2,h3,h4,h5,-⟩:=qo hx hy (Td h);cases x;cases y;simp only at h1 h2 h3 h4 h5;subst h1 h2 h3 h4 h5;rfl
theorem Vn{L:Q04}(h:∀x∈L,okF x):OrdO oL L where
 trans x hx y hy z hz h1 h2:=by
  rw[nC (h x hx) (h y hy)]at h1;rw[nC (h y hy) (h z hz)]at h2;rw[nC (h x hx) (h z hz)];exact Ls.lt_trans _ _ _ h1 h2
 asymm x hx y hy h1:=by
  rw[nC (h x hx) (h y hy)]at h1;rw[nC (h y hy) (h x hx)];exact Ls.lt_asymm _ _ h1
 total x hx y hy hne:=by
  rw[nC (h x hx) (h y hy),nC (h y hy) (h x hx)];exact Ls.lt_total _ _ fun e=>hne (L8 (h x hx) (h y hy) e)
theorem Te{L L0:Q04}(hp:L.Perm L0)(hn:L0.Nodup)(hok:∀x∈L0,okF x)(hs:L.Pairwise (fun x y=>Op.bytesLess (FX y) (FX x)=false)):L=kC oL L0:=by
 refine(Pk (Vn hok) hn ?_ hp).symm;have hd:L.Nodup:=hp.nodup_iff.2 hn;refine(List.Pairwise.and hd hs).imp_of_mem fun {x y} hx hy h=>?_;have ox:=hok x (hp.mem_iff.1 hx);have oy:=hok y (hp.mem_iff.1 hy);rw[nC ox oy];rcases Ls.lt_total (FX x) (FX y) (fun e=>h.1 (L8 ox oy e)) with h1|h1
 ·exact h1
 rw[h.2]at h1;cases h1
theorem Tf{ts:Q05}(h:dH ts=true):∀t∈ts,t.ok=true:=fun t ht=>by
 unfold dH at h;have h:=(Bool.and_eq_true_iff.1 h).2;unfold sM at h;rw[VC]at h;obtain⟨i,hi,rfl⟩:=V7.1 ht;have h1:=h i (List.mem_range.2 hi);unfold vL at h1;rw[Vy hi]at h1;exact(Bool.and_eq_true_iff.1 h1).1
theorem TG{ts:Q05}(hf:∀t∈ts,t.ok=true){o:Al}(h:∃t∈ts,o=⟨t.a,t.b⟩\/o=⟨t.c,t.d⟩):eZ o.t o.s=true:=by
 obtain⟨t,ht,h⟩:=h;have h1:=hf t ht;unfold Tp.ok bz at h1;simp only[Vt]at h1;rcases h with rfl|rfl
 ·exact h1.1.1.1
 exact h1.1.2
theorem Tg{rs:Q06}(hs:aY (af rs)=true){k:Q01}(hk:k∈ak (af rs)):aP k.2=true:=by
 unfold ak at hk;obtain⟨T,hT,hk⟩:=VJ.1 hk;unfold jI at hk;obtain⟨r,hr,rfl⟩:=VG.1 hk;exact(uw hs hT hr).1
section
variable  [DecidableEq Fc]
theorem Cc{st:Q00}{rs:Q06}{ts:Q05}{x:Fc}(hx:x∈dh st rs ts):∃o∈dW ts,∃k∈ak (af rs),∃u∈bH ts,x=⟨o.t,o.s,k.2,u.t,u.s⟩:=by
 cases hr:aW (gV rs) rs ts;case false=>rw[jv hr]at hx;cases hx
 rw[ig hr]at hx;have h1:=(kL st rs ts (dW ts) (bH ts) _).sub x hx;unfold Cw at h1;obtain⟨o,ho,h1⟩:=VJ.1 h1;obtain⟨k,hk,h1⟩:=VJ.1 h1;unfold jc at h1;obtain⟨u,hu,rfl⟩:=VG.1 h1;exact⟨o,ho,k,hk,u,hu,rfl⟩
theorem IM{st:Q00}{rs:Q06}{ts:Q05}:(dh st rs ts).Nodup:=by
 cases hr:aW (gV rs) rs ts;case false=>rw[jv hr];exact List.nodup_nil
 rw[ig hr];exact(kL st rs ts (dW ts) (bH ts) _).once
theorem Ot{st:Q00}{rs:Q06}{ts:Q05}:∀x∈dh st rs ts,okF x:=fun x hx=>by
 cases hr:aW (gV rs) rs ts;case false=>rw[jv hr]at hx;cases hx
 obtain⟨o,ho,k,hk,u,hu,rfl⟩:=Cc hx;unfold aW at hr;simp only[Vt]at hr;have hts:=Tf hr.1.2;have ho1:eZ o.t o.s=true:=by
  rcases Ca ts [] o ho with h|h
  ·cases h
  exact TG hts h
 have hu1:eZ u.t u.s=true:=by
  rcases Cb ts [] u hu with h|h
  ·cases h
  exact TG hts h
 have hn:=Tg (bu.1 hr.1.1).1 hk;show bz o.t o.s k.2 u.t u.s ⟨#[]⟩=true;unfold bz;rw[ho1,hu1,hn];unfold uL;rw[Go.ByteArray.toList_eq];rfl
theorem IP{st:Q00}{rs:Q06}{ts:Q05}(hfr:∀r∈rs,r.fits)(hft:∀x∈ts,x.fits):∀x∈dh st rs ts,x.fits:=fun x hx=>by
 obtain⟨o,ho,k,hk,u,hu,rfl⟩:=Cc hx;have h1:=pO hft o ho;have h2:=nA hft u hu;exact⟨h1.1,h1.2,xJ hfr k hk,h2.1,h2.2⟩
def je(st:Q00)(rs:Q06)(ts:Q05):List Fc:=kC oL (dh st rs ts)
theorem Ce(st:Q00)(rs:Q06)(ts:Q05):(je st rs ts).length=(dh st rs ts).length:=(gY _).length_eq
theorem tL{st:Q00}{rs:Q06}{ts:Q05}{w:ae}{e:Ending}{w':ae}(h:IL (dh st rs ts) w e w'):(∃v,e=.returned v/\w'.ownsRow w.heap.size 52 5 v (je st rs ts).length (aH (je st rs ts)))/\ag w w':=by
 obtain⟨⟨L,v,he,hp,hs,hown⟩,hb⟩:=h;obtain rfl:=Te hp IM Ot hs;exact⟨⟨v,he,hown⟩,hb⟩
end
end Go.Proofs.YtojjoblnpldniaaGreat
