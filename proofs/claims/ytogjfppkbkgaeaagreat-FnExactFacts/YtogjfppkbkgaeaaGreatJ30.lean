/- Facts in their order: the one list that both sides come to. -/
import Derived.Test.YtogjfppkbkgaeaaGreatJ29
import Derived.Test.YtogjfppkbkgaeaaGreatL4Sort
import Derived.Test.YtogjfppkbkgaeaaGreatJ12
import Derived.Test.YtogjfppkbkgaeaaGreatJ6
import Derived.Test.YtogjfppkbkgaeaaGreatJ4
import Derived.BigQuiet
namespace Go.Proofs.YtogjfppkbkgaeaaGreat
set_option linter.unusedVariables false
set_option linter.unusedSectionVars false
open Go.ChangeShapes Go.WideShapes Go.ChangeAt Go.RowKit Go.Maps
open Pl
def okF (x:Fc):Prop:=aU x.a x.b x.r x.c x.d ⟨#[]⟩=true
theorem Lf {a b:ByteArray} (h:a.toList=b.toList):a=b:=by
 rw [Go.ByteArray.toList_eq,Go.ByteArray.toList_eq] at h;cases a; cases b; congr; exact Array.toList_inj.1 h
theorem jQ {x y:Fc} (hx:okF x) (hy:okF y):kH x y=Op.bytesLess (Bf x) (Bf y):=by
 unfold okF at hx hy;unfold kH di Bf;rw [hx,hy];rfl
theorem FT {x y:Fc} (hx:okF x) (hy:okF y) (h:Bf x=Bf y):x=y:=by
 obtain ⟨h1,h2,h3,h4,h5,-⟩:=sS hx hy (Lf h);cases x; cases y;simp only at h1 h2 h3 h4 h5;subst h1 h2 h3 h4 h5;rfl
theorem Nl {L:List Fc} (h:∀ x ∈ L,okF x):OrdO kH L where
 trans x hx y hy z hz h1 h2:=by
  rw [jQ (h x hx) (h y hy)] at h1;rw [jQ (h y hy) (h z hz)] at h2;rw [jQ (h x hx) (h z hz)];exact Ls.lt_trans _ _ _ h1 h2
 asymm x hx y hy h1:=by
  rw [jQ (h x hx) (h y hy)] at h1;rw [jQ (h y hy) (h x hx)];exact Ls.lt_asymm _ _ h1
 total x hx y hy hne:=by
  rw [jQ (h x hx) (h y hy),jQ (h y hy) (h x hx)];exact Ls.lt_total _ _ fun e=>hne (FT (h x hx) (h y hy) e)
theorem Lg {L L0:List Fc} (hp:L.Perm L0) (hn:L0.Nodup) (hok:∀ x ∈ L0,okF x) (hs:L.Pairwise (fun x y=>Op.bytesLess (Bf y) (Bf x)=false)):L=iU kH L0:=by
 refine (J5 (Nl hok) hn ?_ hp).symm;have hd:L.Nodup:=hp.nodup_iff.2 hn;refine (List.Pairwise.and hd hs).imp_of_mem fun {x y} hx hy h=>?_;have ox:=hok x (hp.mem_iff.1 hx);have oy:=hok y (hp.mem_iff.1 hy);rw [jQ ox oy];rcases Ls.lt_total (Bf x) (Bf y) (fun e=>h.1 (FT ox oy e)) with h1 | h1
 ·exact h1
 ·rw [h.2] at h1; cases h1
theorem Lh {ts:List Tp} (h:dR ts=true):∀ t ∈ ts,t.ok=true:=fun t ht=>by
 unfold dR at h;have h:=(Bool.and_eq_true_iff.1 h).2;unfold qc at h;rw [List.all_eq_true] at h;obtain ⟨i,hi,rfl⟩:=List.mem_iff_getElem.1 ht;have h1:=h i (List.mem_range.2 hi);unfold qX at h1;rw [List.getElem?_eq_getElem hi] at h1;exact (Bool.and_eq_true_iff.1 h1).1
theorem LM {ts:List Tp} (hf:∀ t ∈ ts,t.ok=true) {o:Al} (h:∃ t ∈ ts,o=⟨t.a,t.b⟩ ∨ o=⟨t.c,t.d⟩):dC o.t o.s=true:=by
 obtain ⟨t,ht,h⟩:=h;have h1:=hf t ht;unfold Tp.ok aU at h1;simp only [Bool.and_eq_true] at h1;rcases h with rfl | rfl
 ·exact h1.1.1.1
 ·exact h1.1.2
theorem Li {rs:List TR} (hs:aS (af rs)=true) {k:ByteArray × ByteArray} (hk:k ∈ ai (af rs)):aL k.2=true:=by
 unfold ai at hk;obtain ⟨T,hT,hk⟩:=List.mem_flatMap.1 hk;unfold iq at hk;obtain ⟨r,hr,rfl⟩:=List.mem_map.1 hk;exact (Dy hs hT hr).1
section
variable [DecidableEq Fc]
theorem xk {st:ByteArray × ByteArray→Int} {rs:List TR} {ts:List Tp} {x:Fc} (hx:x ∈ dP st rs ts):∃ o ∈ eP ts,∃ k ∈ ai (af rs),∃ u ∈ cO ts,x=⟨o.t,o.s,k.2,u.t,u.s⟩:=by
 cases hr:aV (gp rs) rs ts with
 | false=>rw [jl hr] at hx; cases hx
 | true =>
  rw [jB hr] at hx;have h1:=(jA st rs ts (eP ts) (cO ts) _).sub x hx;unfold Aq at h1;obtain ⟨o,ho,h1⟩:=List.mem_flatMap.1 h1;obtain ⟨k,hk,h1⟩:=List.mem_flatMap.1 h1;unfold ik at h1;obtain ⟨u,hu,rfl⟩:=List.mem_map.1 h1;exact ⟨o,ho,k,hk,u,hu,rfl⟩
theorem CW {st:ByteArray × ByteArray→Int} {rs:List TR} {ts:List Tp}:(dP st rs ts).Nodup:=by
 cases hr:aV (gp rs) rs ts with
 | false=>rw [jl hr]; exact List.nodup_nil
 | true=>rw [jB hr]; exact (jA st rs ts (eP ts) (cO ts) _).once
theorem H5 {st:ByteArray × ByteArray→Int} {rs:List TR} {ts:List Tp}:∀ x ∈ dP st rs ts,okF x:=fun x hx=>by
 cases hr:aV (gp rs) rs ts with
 | false=>rw [jl hr] at hx; cases hx
 | true =>
  obtain ⟨o,ho,k,hk,u,hu,rfl⟩:=xk hx;unfold aV at hr;simp only [Bool.and_eq_true] at hr;have hts:=Lh hr.1.2;have ho1:dC o.t o.s=true:=by
   rcases wW ts [] o ho with h | h
   ·cases h
   ·exact LM hts h
  have hu1:dC u.t u.s=true:=by
   rcases wY ts [] u hu with h | h
   ·cases h
   ·exact LM hts h
  have hn:=Li (bR.1 hr.1.1).1 hk;show aU o.t o.s k.2 u.t u.s ⟨#[]⟩=true;unfold aU;rw [ho1,hu1,hn];unfold pR;rw [Go.ByteArray.toList_eq];rfl
theorem CX {st:ByteArray × ByteArray→Int} {rs:List TR} {ts:List Tp} (hfr:∀ r ∈ rs,r.fits) (hft:∀ x ∈ ts,x.fits):∀ x ∈ dP st rs ts,x.fits:=fun x hx=>by
 obtain ⟨o,ho,k,hk,u,hu,rfl⟩:=xk hx;have h1:=lu hft o ho;have h2:=jP hft u hu;exact ⟨h1.1,h1.2,rV hfr k hk,h2.1,h2.2⟩
def gu (st:ByteArray × ByteArray→Int) (rs:List TR) (ts:List Tp):List Fc:=iU kH (dP st rs ts)
theorem E5 (st:ByteArray × ByteArray→Int) (rs:List TR) (ts:List Tp):(gu st rs ts).length=(dP st rs ts).length:=(iD _).length_eq
theorem oq {st:ByteArray × ByteArray→Int} {rs:List TR} {ts:List Tp} {w:World} {e:Ending} {w':World} (h:CU (dP st rs ts) w e w'):(∃ v,e=.returned v∧w'.ownsRow w.heap.size 47 5 v (gu st rs ts).length (aA (gu st rs ts)))∧Below w.heap.size w w':=by
 obtain ⟨⟨L,v,he,hp,hs,hown⟩,hb⟩:=h;obtain rfl:=Lg hp CW H5 hs;exact ⟨⟨v,he,hown⟩,hb⟩
end
set_option maxRecDepth 100000
section
variable [DecidableEq Fc]
theorem xm (st:ByteArray × ByteArray→Int) {rs:List TR} {ts:List Tp}:(dP st rs ts).length≤115200:=by
 cases hr:aV (gp rs) rs ts with
 | false=>rw [jl hr]; simp
 | true =>
  rw [jB hr];have hsd:dh (af rs)=true∧ts.length≤40:=by
   unfold aV dR at hr;simp only [Bool.and_eq_true,decide_eq_true_eq] at hr;exact ⟨hr.1.1,hr.1.2.1⟩
  obtain ⟨h6,hr6,-⟩:=bn (bR.1 hsd.1).1;exact (jA st rs ts (eP ts) (cO ts) _).len (by have:=kD ts; omega) (uE h6 hr6) (by have:=jy ts; omega)
end
end Go.Proofs.YtogjfppkbkgaeaaGreat
