/- Facts in their order: the one list that both sides come to. -/
import Derived.Test.YtdmniljjnaebbaaGreatDoorSq
import Derived.Test.YtdmniljjnaebbaaGreatDoorFactsI
import Derived.Test.YtdmniljjnaebbaaGreatDoorJ31
import Derived.Test.YtdmniljjnaebbaaGreatDoorChkS
open Go.Proofs.Tryz
set_option maxHeartbeats 80000000
namespace Go.Proofs.YtdmniljjnaebbaaGreatDoor
set_option linter.unusedVariables false
set_option linter.unusedSectionVars false
open Go.ChangeShapes Go.WideShapes Go.ChangeAt Go.RowKit Go.Maps
open Pl
def okF (x:Fc):Prop:=bn x.a x.b x.r x.c x.d ⟨#[]⟩=true
theorem PT {a b:ByteArray} (h:a.toList=b.toList):a=b:=by
 rw [Go.ByteArray.toList_eq,Go.ByteArray.toList_eq] at h;cases a; cases b; congr; exact Array.toList_inj.1 h
theorem lu {x y:Fc} (hx:okF x) (hy:okF y):mU x y=Op.bytesLess (DI x) (DI y):=by
 unfold okF at hx hy;unfold mU eQ DI;rw [hx,hy];rfl
theorem JG {x y:Fc} (hx:okF x) (hy:okF y) (h:DI x=DI y):x=y:=by
 obtain ⟨h1,h2,h3,h4,h5,-⟩:=oJ hx hy (PT h);cases x; cases y;simp only at h1 h2 h3 h4 h5;subst h1 h2 h3 h4 h5;rfl
theorem R8 {L:List Fc} (h:∀ x ∈ L,okF x):OrdO mU L where
 trans x hx y hy z hz h1 h2:=by
  rw [lu (h x hx) (h y hy)] at h1;rw [lu (h y hy) (h z hz)] at h2;rw [lu (h x hx) (h z hz)];exact Ls.lt_trans _ _ _ h1 h2
 asymm x hx y hy h1:=by
  rw [lu (h x hx) (h y hy)] at h1;rw [lu (h y hy) (h x hx)];exact Ls.lt_asymm _ _ h1
 total x hx y hy hne:=by
  rw [lu (h x hx) (h y hy),lu (h y hy) (h x hx)];exact Ls.lt_total _ _ fun e=>hne (JG (h x hx) (h y hy) e)
theorem PU {L L0:List Fc} (hp:L.Perm L0) (hn:L0.Nodup) (hok:∀ x ∈ L0,okF x) (hs:L.Pairwise (fun x y=>Op.bytesLess (DI y) (DI x)=false)):L=jD mU L0:=by
 refine (Ml (R8 hok) hn ?_ hp).symm;have hd:L.Nodup:=hp.nodup_iff.2 hn;refine (List.Pairwise.and hd hs).imp_of_mem fun {x y} hx hy h=>?_;have ox:=hok x (hp.mem_iff.1 hx);have oy:=hok y (hp.mem_iff.1 hy);rw [lu ox oy];rcases Ls.lt_total (DI x) (DI y) (fun e=>h.1 (JG ox oy e)) with h1 | h1
 ·exact h1
 rw [h.2] at h1; cases h1
theorem PV {ts:List Tp} (h:dO ts=true):∀ t ∈ ts,t.ok=true:=fun t ht=>by
 unfold dO at h;have h:=(Bool.and_eq_true_iff.1 h).2;unfold rY at h;rw [SC] at h;obtain ⟨i,hi,rfl⟩:=List.mem_iff_getElem.1 ht;have h1:=h i (List.mem_range.2 hi);unfold tZ at h1;rw [Sw hi] at h1;exact (Bool.and_eq_true_iff.1 h1).1
theorem Qr {ts:List Tp} (hf:∀ t ∈ ts,t.ok=true) {o:Al} (h:∃ t ∈ ts,o=⟨t.a,t.b⟩ ∨ o=⟨t.c,t.d⟩):dS o.t o.s=true:=by
 obtain ⟨t,ht,h⟩:=h;have h1:=hf t ht;unfold Tp.ok bn at h1;simp only [Sn] at h1;rcases h with rfl | rfl
 ·exact h1.1.1.1
 exact h1.1.2
theorem PW {rs:List TR} (hs:bq (ag rs)=true) {k:ByteArray × ByteArray} (hk:k ∈ ak (ag rs)):aR k.2=true:=by
 unfold ak at hk;obtain ⟨T,hT,hk⟩:=SB.1 hk;unfold jd at hk;obtain ⟨r,hr,rfl⟩:=Sy.1 hk;exact (Hf hs hT hr).1
section
variable [DecidableEq Fc]
theorem zL {st:ByteArray × ByteArray→Int} {rs:List TR} {ts:List Tp} {x:Fc} (hx:x ∈ eF st rs ts):∃ o ∈ fG ts,∃ k ∈ ak (ag rs),∃ u ∈ dA ts,x=⟨o.t,o.s,k.2,u.t,u.s⟩:=by
 cases hr:aW (il rs) rs ts;case false=>rw [kz hr] at hx; cases hx
 rw [kM hr] at hx;have h1:=(kL st rs ts (fG ts) (dA ts) _).sub x hx;unfold C8 at h1;obtain ⟨o,ho,h1⟩:=SB.1 h1;obtain ⟨k,hk,h1⟩:=SB.1 h1;unfold ja at h1;obtain ⟨u,hu,rfl⟩:=Sy.1 h1;exact ⟨o,ho,k,hk,u,hu,rfl⟩
theorem F6 {st:ByteArray × ByteArray→Int} {rs:List TR} {ts:List Tp}:(eF st rs ts).Nodup:=by
 cases hr:aW (il rs) rs ts;case false=>rw [kz hr]; exact List.nodup_nil
 rw [kM hr]; exact (kL st rs ts (fG ts) (dA ts) _).once
theorem Lt {st:ByteArray × ByteArray→Int} {rs:List TR} {ts:List Tp}:∀ x ∈ eF st rs ts,okF x:=fun x hx=>by
 cases hr:aW (il rs) rs ts;case false=>rw [kz hr] at hx; cases hx
 obtain ⟨o,ho,k,hk,u,hu,rfl⟩:=zL hx;unfold aW at hr;simp only [Sn] at hr;have hts:=PV hr.1.2;have ho1:dS o.t o.s=true:=by
  rcases zF ts [] o ho with h | h
  ·cases h
  exact Qr hts h
 have hu1:dS u.t u.s=true:=by
  rcases zG ts [] u hu with h | h
  ·cases h
  exact Qr hts h
 have hn:=PW (bW.1 hr.1.1).1 hk;show bn o.t o.s k.2 u.t u.s ⟨#[]⟩=true;unfold bn;rw [ho1,hu1,hn];unfold rH;rw [Go.ByteArray.toList_eq];rfl
theorem vX {st:ByteArray × ByteArray→Int} {rs:List TR} {ts:List Tp} (hfr:∀ r ∈ rs,r.fits) (hft:∀ x ∈ ts,x.fits):∀ x ∈ eF st rs ts,x.fits:=fun x hx=>by
 obtain ⟨o,ho,k,hk,u,hu,rfl⟩:=zL hx;have h1:=nZ hft o ho;have h2:=lm hft u hu;exact ⟨h1.1,h1.2,uT hfr k hk,h2.1,h2.2⟩
def bi (st:ByteArray × ByteArray→Int) (rs:List TR) (ts:List Tp):List Fc:=jD mU (eF st rs ts)
theorem kN (st:ByteArray × ByteArray→Int) (rs:List TR) (ts:List Tp):(bi st rs ts).length=(eF st rs ts).length:=(ik _).length_eq
theorem qG {st:ByteArray × ByteArray→Int} {rs:List TR} {ts:List Tp} {w:af} {e:Ending} {w':af} (h:FU (eF st rs ts) w e w'):(∃ v,e=.returned v∧w'.ownsRow w.heap.size 63 5 v (bi st rs ts).length (av (bi st rs ts)))∧aa w w':=by
 obtain ⟨⟨L,v,he,hp,hs,hown⟩,hb⟩:=h;obtain rfl:=PU hp F6 Lt hs;exact ⟨⟨v,he,hown⟩,hb⟩
end
set_option maxRecDepth 100000
section
variable [DecidableEq Fc]
end
section
variable [DecidableEq Fc]
theorem qH (st:ByteArray × ByteArray→Int) (ad:Option Addr) (cap:Nat) (rs:List TR) (Ti:Option Addr) (cap':Nat) (ts:List Tp) (w:af) (hlen:rs.length≤1048576) (hs:iN w ad rs) (hl:∀ r ∈ rs,r.light) (hfr:∀ r ∈ rs,r.fits) (hlt:ts.length≤1048576) (hst:Sl w Ti ts) (hft:∀ x ∈ ts,x.fits) (hle:aF (ag rs)=true→Least (ag rs) st) :
  Calls prog 30 #[.slice ad rs.length cap,.slice Ti ts.length cap'] w fun e w'=>(∃ v,e=.returned v∧w'.ownsRow w.heap.size 63 5 v (bi st rs ts).length (av (bi st rs ts)))∧aa w w':=by
 have ZY:=jo st (rs:=rs) (ts:=ts);have HFQ:=aj (vX (st:=st) hfr hft);have HRC:=aj (FL ad cap rs Ti cap' ts w hlen hs hl hfr hlt hst hft);have HAC:Hid (aW (il rs) rs ts=true→∀ W':World,aa w W'→Calls prog 53 #[.slice ad rs.length cap,.slice Ti ts.length cap'] W' fun e w'=>(∃ v,e=.returned v∧w'.ownsRow W'.heap.size 63 5 v (eF st rs ts).length (av (eF st rs ts)))∧aa W' w'):=fun hr W' hb=>by
  have hsd:aF (ag rs)=true∧ts.length≤40:=by
   unfold aW dO at hr;simp only [Sn,SE] at hr;exact ⟨hr.1.1,hr.1.2.1⟩
  have:=K6 st ad cap rs Ti cap' ts W' (bW.1 hsd.1) (hle hsd.1) (hs.below hb) hl hsd.2 (hst.below hb);rw [← kM hr] at this;exact this
 clear hs hl hfr hst hft hle;go_enter func30,ntmps30;go_wp2_with fail;refine HRC.out.mono ?_;rintro e w1 ⟨rfl,hb1⟩;have HB1:=aj hb1;clear hb1 HRC;cases hr:aW (il rs) rs ts;case false=>
  have HN:Hid (bi st rs ts=[]):=by show _=_; unfold bi; rw [kz hr]; rfl
  clear hr HAC;obtain ⟨W2,hW2⟩:∃ W2,W2=w1.alloc (.cells #[] 63):=⟨_,rfl⟩;have Tj:Hid (W2.ownsRow w.heap.size 63 5 (.slice (some ⟨w1.heap.size,0,none⟩) 0 0) 0 []):=by
   show World.ownsRow _ _ _ _ _ _ _;rw [hW2];exact World.ownsRow_lit w1 #[] 0 HB1.out.size (by unfold maxLen; omega) (by simp)
  have HB2:Hid (aa w W2):=by show Below _ _ _; rw [hW2]; exact HB1.out.alloc HB1.out.size _
  go_wp2;rw [← hW2];go_ret;exact ⟨⟨_,rfl,by rw [HN.out]; exact Tj.out⟩,HB2.out⟩
 have HA:=aj (HAC.out hr);clear HAC hr;obtain ⟨L,hL⟩:∃ L,eF st rs ts=L:=⟨_,rfl⟩;have Uj:Hid (bi st rs ts=jD mU L):=by show _=_; unfold bi; rw [hL]
 rw [hL] at HA HFQ ZY;clear hL;go_wp2_with fail;refine (HA.out _ HB1.out).mono ?_;rintro e w2 ⟨⟨v,rfl,hown⟩,hb2⟩;obtain ⟨Wz,VG,rfl,hsl⟩:=iD hown;have WQ:=aj hsl;have HB2:=jb HB1 hb2;clear hown hsl hb2 HB1 HA;have Xn:Hid (L.length≤1048576):=Sq ZY (by decide);clear ZY;go_wp2_with fail;refine (IM Wz VG L _ Xn.out WQ.out HFQ.out).mono ?_;rintro e w3 ⟨⟨v,rfl,hown⟩,hb3⟩;have HB3:=jb HB2 hb3;have TD:Hid (w3.ownsRow w.heap.size 63 5 v (bi st rs ts).length (av (bi st rs ts))):=by
  show World.ownsRow _ _ _ _ _ _ _;rw [Uj.out,(ik L).length_eq];exact kD hown HB2.out.size
 clear hown hb3;go_wp2;go_ret;exact ⟨⟨v,rfl,TD.out⟩,HB3.out⟩
end
section
variable [DecidableEq Fc]
theorem zM {st:ByteArray × ByteArray→Int} {rs rs':List TR} {ts:List Tp} (h:ag rs'=ag rs):bi st rs' ts=bi st rs ts:=by
 have e:il rs'=il rs:=by funext t; unfold il; rw [h]
 unfold bi eF aW nY;rw [e,h]
end
end Go.Proofs.YtdmniljjnaebbaaGreatDoor
