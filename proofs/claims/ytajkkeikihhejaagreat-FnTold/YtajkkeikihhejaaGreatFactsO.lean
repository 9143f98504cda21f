/- Facts in their order: the one list that both sides come to. -/
import Derived.Test.YtajkkeikihhejaaGreatSq
import Derived.Test.YtajkkeikihhejaaGreatFactsI
import Derived.Test.YtajkkeikihhejaaGreatJ28
namespace Go.Proofs.YtajkkeikihhejaaGreat
set_option linter.unusedVariables false
set_option linter.unusedSectionVars false
open Go.ChangeShapes Go.WideShapes Go.ChangeAt Go.RowKit Go.Maps
open Pl
def okF (x:Fc):Prop:=bI x.a x.b x.r x.c x.d ⟨#[]⟩=true
theorem Rh {a b:ByteArray} (h:a.toList=b.toList):a=b:=by
 rw [Go.ByteArray.toList_eq,Go.ByteArray.toList_eq] at h;cases a; cases b; congr; exact Array.toList_inj.1 h
theorem ny {x y:Fc} (hx:okF x) (hy:okF y):oH x y=Op.bytesLess (Fb x) (Fb y):=by
 unfold okF at hx hy;unfold oH fU Fb;rw [hx,hy];rfl
theorem KM {x y:Fc} (hx:okF x) (hy:okF y) (h:Fb x=Fb y):x=y:=by
 obtain ⟨h1,h2,h3,h4,h5,-⟩:=xx hx hy (Rh h);cases x; cases y;simp only at h1 h2 h3 h4 h5;subst h1 h2 h3 h4 h5;rfl
theorem TM {L:List Fc} (h:∀ x ∈ L,okF x):OrdO oH L where
 trans x hx y hy z hz h1 h2:=by
  rw [ny (h x hx) (h y hy)] at h1;rw [ny (h y hy) (h z hz)] at h2;rw [ny (h x hx) (h z hz)];exact Ls.lt_trans _ _ _ h1 h2
 asymm x hx y hy h1:=by
  rw [ny (h x hx) (h y hy)] at h1;rw [ny (h y hy) (h x hx)];exact Ls.lt_asymm _ _ h1
 total x hx y hy hne:=by
  rw [ny (h x hx) (h y hy),ny (h y hy) (h x hx)];exact Ls.lt_total _ _ fun e=>hne (KM (h x hx) (h y hy) e)
theorem Ri {L L0:List Fc} (hp:L.Perm L0) (hn:L0.Nodup) (hok:∀ x ∈ L0,okF x) (hs:L.Pairwise (fun x y=>Op.bytesLess (Fb y) (Fb x)=false)):L=ku oH L0:=by
 refine (NT (TM hok) hn ?_ hp).symm;have hd:L.Nodup:=hp.nodup_iff.2 hn;refine (List.Pairwise.and hd hs).imp_of_mem fun {x y} hx hy h=>?_;have ox:=hok x (hp.mem_iff.1 hx);have oy:=hok y (hp.mem_iff.1 hy);rw [ny ox oy];rcases Ls.lt_total (Fb x) (Fb y) (fun e=>h.1 (KM ox oy e)) with h1 | h1
 ·exact h1
 rw [h.2] at h1; cases h1
theorem Rj {ts:List Tp} (h:dJ ts=true):∀ t ∈ ts,t.ok=true:=fun t ht=>by
 unfold dJ at h;have h:=(Bool.and_eq_true_iff.1 h).2;unfold tH at h;rw [Ub] at h;obtain ⟨i,hi,rfl⟩:=List.mem_iff_getElem.1 ht;have h1:=h i (List.mem_range.2 hi);unfold uO at h1;rw [TY hi] at h1;exact (Bool.and_eq_true_iff.1 h1).1
theorem RO {ts:List Tp} (hf:∀ t ∈ ts,t.ok=true) {o:Al} (h:∃ t ∈ ts,o=⟨t.a,t.b⟩ ∨ o=⟨t.c,t.d⟩):eH o.t o.s=true:=by
 obtain ⟨t,ht,h⟩:=h;have h1:=hf t ht;unfold Tp.ok bI at h1;simp only [TU] at h1;rcases h with rfl | rfl
 ·exact h1.1.1.1
 exact h1.1.2
theorem Rk {rs:List TR} (hs:bi (ae rs)=true) {k:ByteArray × ByteArray} (hk:k ∈ ak (ae rs)):aP k.2=true:=by
 unfold ak at hk;obtain ⟨T,hT,hk⟩:=Uf.1 hk;unfold jG at hk;obtain ⟨r,hr,rfl⟩:=Ue.1 hk;exact (tO hs hT hr).1
section
variable [DecidableEq Fc]
theorem Bq {st:ByteArray × ByteArray→Int} {rs:List TR} {ts:List Tp} {x:Fc} (hx:x ∈ bC st rs ts):∃ o ∈ eB ts,∃ k ∈ ak (ae rs),∃ u ∈ cZ ts,x=⟨o.t,o.s,k.2,u.t,u.s⟩:=by
 cases hr:aQ (gV rs) rs ts;case false=>rw [jo hr] at hx; cases hx
 rw [iw hr] at hx;have h1:=(kF st rs ts (eB ts) (cZ ts) _).sub x hx;unfold BI at h1;obtain ⟨o,ho,h1⟩:=Uf.1 h1;obtain ⟨k,hk,h1⟩:=Uf.1 h1;unfold ja at h1;obtain ⟨u,hu,rfl⟩:=Ue.1 h1;exact ⟨o,ho,k,hk,u,hu,rfl⟩
theorem Hg {st:ByteArray × ByteArray→Int} {rs:List TR} {ts:List Tp}:(bC st rs ts).Nodup:=by
 cases hr:aQ (gV rs) rs ts;case false=>rw [jo hr]; exact List.nodup_nil
 rw [iw hr]; exact (kF st rs ts (eB ts) (cZ ts) _).once
theorem M4 {st:ByteArray × ByteArray→Int} {rs:List TR} {ts:List Tp}:∀ x ∈ bC st rs ts,okF x:=fun x hx=>by
 cases hr:aQ (gV rs) rs ts;case false=>rw [jo hr] at hx; cases hx
 obtain ⟨o,ho,k,hk,u,hu,rfl⟩:=Bq hx;unfold aQ at hr;simp only [TU] at hr;have hts:=Rj hr.1.2;have ho1:eH o.t o.s=true:=by
  rcases Bo ts [] o ho with h | h
  ·cases h
  exact RO hts h
 have hu1:eH u.t u.s=true:=by
  rcases Bp ts [] u hu with h | h
  ·cases h
  exact RO hts h
 have hn:=Rk (aY.1 hr.1.1).1 hk;show bI o.t o.s k.2 u.t u.s ⟨#[]⟩=true;unfold bI;rw [ho1,hu1,hn];unfold uC;rw [Go.ByteArray.toList_eq];rfl
theorem xZ {st:ByteArray × ByteArray→Int} {rs:List TR} {ts:List Tp} (hfr:∀ r ∈ rs,r.fits) (hft:∀ x ∈ ts,x.fits):∀ x ∈ bC st rs ts,x.fits:=fun x hx=>by
 obtain ⟨o,ho,k,hk,u,hu,rfl⟩:=Bq hx;have h1:=pG hft o ho;have h2:=nu hft u hu;exact ⟨h1.1,h1.2,xg hfr k hk,h2.1,h2.2⟩
def iy (st:ByteArray × ByteArray→Int) (rs:List TR) (ts:List Tp):List Fc:=ku oH (bC st rs ts)
theorem Br (st:ByteArray × ByteArray→Int) (rs:List TR) (ts:List Tp):(iy st rs ts).length=(bC st rs ts).length:=(iZ _).length_eq
theorem BS {st:ByteArray × ByteArray→Int} {rs:List TR} {ts:List Tp} {w:af} {e:Ending} {w':af} (h:DJ (bC st rs ts) w e w'):(∃ v,e=.returned v∧w'.ownsRow w.heap.size 29 5 v (iy st rs ts).length (aH (iy st rs ts)))∧ag w w':=by
 obtain ⟨⟨L,v,he,hp,hs,hown⟩,hb⟩:=h;obtain rfl:=Ri hp Hg M4 hs;exact ⟨⟨v,he,hown⟩,hb⟩
end
end Go.Proofs.YtajkkeikihhejaaGreat
