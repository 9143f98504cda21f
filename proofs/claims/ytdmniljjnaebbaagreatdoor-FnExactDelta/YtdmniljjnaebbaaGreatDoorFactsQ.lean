/- Facts of right data, in plain words: how many, and that they fit. -/
import Derived.Test.YtdmniljjnaebbaaGreatDoorJ28
import Derived.Test.YtdmniljjnaebbaaGreatDoorJ25
namespace Go.Proofs.YtdmniljjnaebbaaGreatDoor
set_option maxRecDepth 100000
set_option linter.unusedVariables false
set_option linter.unusedSectionVars false
open Go.ChangeShapes Go.WideShapes Go.ChangeAt Go.RowKit Go.Maps
open Pl
theorem uS {xs:List Al} {o x:Al} (h:x ∈ aZ xs o):x ∈ xs ∨ x=o:=by
 unfold aZ at h;split at h
 ·exact .inl h
 rcases Sz.1 h with h | h
 ·exact .inl h
 exact .inr (by simpa using h)
theorem zF:∀ (ts:List Tp) (xs:List Al) (o:Al),o ∈ ts.foldl gp xs→o ∈ xs ∨ ∃ t ∈ ts,o=⟨t.a,t.b⟩ ∨ o=⟨t.c,t.d⟩
 | [],xs,o,h=>.inl h
 | t::ts,xs,o,h=>by
  rcases zF ts (gp xs t) o h with h | ⟨u,hu,h⟩
  ·unfold gp at h;rcases uS h with h | h
   ·rcases uS h with h | h
    ·exact .inl h
    exact .inr ⟨t,by simp,.inl h⟩
   exact .inr ⟨t,by simp,.inr h⟩
  exact .inr ⟨u,by simp [hu],h⟩
theorem zG:∀ (ts:List Tp) (xs:List Al) (o:Al),o ∈ ts.foldl cZ xs→o ∈ xs ∨ ∃ t ∈ ts,o=⟨t.a,t.b⟩ ∨ o=⟨t.c,t.d⟩
 | [],xs,o,h=>.inl h
 | t::ts,xs,o,h=>by
  rcases zG ts (cZ xs t) o h with h | ⟨u,hu,h⟩
  ·unfold cZ at h;split at h
   ·rcases uS h with h | h
    ·exact .inl h
    exact .inr ⟨t,by simp,.inr h⟩
   exact .inl h
  exact .inr ⟨u,by simp [hu],h⟩
theorem Ju {ts:List Tp} (hf:∀ t ∈ ts,t.fits) {o:Al} (h:∃ t ∈ ts,o=⟨t.a,t.b⟩ ∨ o=⟨t.c,t.d⟩):o.t.size≤maxLen∧o.s.size≤maxLen:=by
 obtain ⟨t,ht,h⟩:=h;obtain ⟨h0,h1,h2,h3,h4,h5⟩:=hf t ht;rcases h with rfl | rfl
 ·exact ⟨h0,h1⟩
 exact ⟨h3,h4⟩
theorem nZ {ts:List Tp} (hf:∀ t ∈ ts,t.fits):∀ o ∈ fG ts,o.t.size≤maxLen∧o.s.size≤maxLen:=fun o ho=>by
 rcases zF ts [] o ho with h | h
 ·cases h
 exact Ju hf h
theorem lm {ts:List Tp} (hf:∀ t ∈ ts,t.fits):∀ o ∈ dA ts,o.t.size≤maxLen∧o.s.size≤maxLen:=fun o ho=>by
 rcases zG ts [] o ho with h | h
 ·cases h
 exact Ju hf h
theorem Dr:∀ (E:List (KL × RR)) (m:Int),m≤E.foldl (fun m x=>max m (x.1.2 + 1)) m∧∀ x ∈ E,x.1.2 + 1≤E.foldl (fun m x=>max m (x.1.2 + 1)) m
 | [],m=>⟨Int.le_refl _,fun x hx=>by cases hx⟩
 | y::E,m=>by
  obtain ⟨h1,h2⟩:=Dr E (max m (y.1.2 + 1));simp only [List.foldl_cons];refine ⟨by omega,fun x hx=>?_⟩;rcases List.mem_cons.1 hx with rfl | hx
  ·omega
  exact h2 x hx
theorem Jv:∀ (E:List (KL × RR)) (m B:Int),m≤B→(∀ x ∈ E,x.1.2 + 1≤B)→E.foldl (fun m x=>max m (x.1.2 + 1)) m≤B
 | [],m,B,h,_=>h
 | y::E,m,B,h,hx=>Jv E _ B (Int.max_le.2 ⟨h,hx y (by simp)⟩) fun x h2=>hx x (by simp [h2])
theorem Pz {f:ByteArray × ByteArray→Int} {rs:List TR} {k:ByteArray × ByteArray} (hk:k ∈ ak (ag rs)):∃ x ∈ dU f rs,x.1.2=f k:=by
 unfold ak at hk;obtain ⟨T,hT,hk⟩:=SB.1 hk;obtain ⟨t,ht,rfl⟩:=Sy.1 hT;unfold jd at hk;obtain ⟨r,hr,rfl⟩:=Sy.1 hk;obtain ⟨q,hq,rfl⟩:=Sy.1 hr;exact ⟨((t.name,f (t.name,q.name)),q),SB.2 ⟨t,ht,Sy.2 ⟨q,hq,rfl⟩⟩,rfl⟩
theorem QW {f:ByteArray × ByteArray→Int} {rs:List TR} {x:KL × RR} (hx:x ∈ dU f rs):∃ k ∈ ak (ag rs),x.1.2=f k∧∃ t ∈ rs,∃ q ∈ t.rows,k=(t.name,q.name):=by
 unfold dU at hx;obtain ⟨t,ht,hx⟩:=SB.1 hx;obtain ⟨q,hq,rfl⟩:=Sy.1 hx;refine ⟨(t.name,q.name),?_,rfl,t,ht,q,hq,rfl⟩;unfold ak jd;exact SB.2 ⟨t.p,Sy.2 ⟨t,ht,rfl⟩,Sy.2 ⟨q.p,Sy.2 ⟨q,hq,rfl⟩,rfl⟩⟩
theorem uT {rs:List TR} (hf:∀ r ∈ rs,r.fits):∀ k ∈ ak (ag rs),k.2.size≤maxLen:=fun k hk=>by
 unfold ak at hk;obtain ⟨T,hT,hk⟩:=SB.1 hk;obtain ⟨t,ht,rfl⟩:=Sy.1 hT;unfold jd at hk;obtain ⟨r,hr,rfl⟩:=Sy.1 hk;obtain ⟨q,hq,rfl⟩:=Sy.1 hr;exact ((hf t ht).2.2 q hq).1
theorem PD (f:ByteArray × ByteArray→Int) (rs:List TR):(dU f rs).length=(ak (ag rs)).length:=by
 induction rs with
 | nil=>rfl
 | cons t rs ih =>
  have e1:ak (ag (t::rs))=jd t.p ++ ak (ag rs):=by simp [ak,ag]
  have e2:dU f (t::rs)=(t.rows.map fun r=>((t.name,f (t.name,r.name)),r)) ++ dU f rs:=rfl;have e3:(jd t.p).length=t.rows.length:=by unfold jd; rw [Ta]; exact fB _
  rw [e1,e2,Sr,Sr,ih,e3,Ta]
section
variable [DecidableEq Fc]
def eF (st:ByteArray × ByteArray→Int) (rs:List TR) (ts:List Tp):List Fc:=if aW (il rs) rs ts then nY st rs ts else []
theorem kM {st:ByteArray × ByteArray→Int} {rs:List TR} {ts:List Tp} (h:aW (il rs) rs ts=true):eF st rs ts=nY st rs ts:=by unfold eF; rw [if_pos h]
theorem kz {st:ByteArray × ByteArray→Int} {rs:List TR} {ts:List Tp} (h:aW (il rs) rs ts=false):eF st rs ts=[]:=by unfold eF; rw [if_neg (by rw [h]; decide)]
theorem jo (st:ByteArray × ByteArray→Int) {rs:List TR} {ts:List Tp}:(eF st rs ts).length≤115200:=by
 cases hr:aW (il rs) rs ts;case false=>rw [kz hr]; simp
 rw [kM hr];have hsd:aF (ag rs)=true∧ts.length≤40:=by
  unfold aW dO at hr;simp only [Sn,SE] at hr;exact ⟨hr.1.1,hr.1.2.1⟩
 obtain ⟨h6,Xh,-⟩:=bR (bW.1 hsd.1).1;exact (kL st rs ts (fG ts) (dA ts) _).len (by have:=mJ ts; omega) (xg h6 Xh) (by have:=kK ts; omega)
end
end Go.Proofs.YtdmniljjnaebbaaGreatDoor
