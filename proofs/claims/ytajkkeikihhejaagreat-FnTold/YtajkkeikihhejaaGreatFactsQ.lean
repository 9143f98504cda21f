/- Facts of right data, in plain words: how many, and that they fit. -/
import Derived.Test.YtajkkeikihhejaaGreatSq
import Derived.Test.YtajkkeikihhejaaGreatJ34
import Derived.Test.YtajkkeikihhejaaGreatJ30
namespace Go.Proofs.YtajkkeikihhejaaGreat
set_option maxRecDepth 100000
set_option linter.unusedVariables false
set_option linter.unusedSectionVars false
open Go.ChangeShapes Go.WideShapes Go.ChangeAt Go.RowKit Go.Maps
open Pl
theorem xe {xs:List Al} {o x:Al} (h:x ∈ aZ xs o):x ∈ xs ∨ x=o:=by
 unfold aZ at h;split at h
 ·exact .inl h
 rcases Uc.1 h with h | h
 ·exact .inl h
 exact .inr (by simpa using h)
theorem Bo:∀ (ts:List Tp) (xs:List Al) (o:Al),o ∈ ts.foldl fP xs→o ∈ xs ∨ ∃ t ∈ ts,o=⟨t.a,t.b⟩ ∨ o=⟨t.c,t.d⟩
 | [],xs,o,h=>.inl h
 | t::ts,xs,o,h=>by
  rcases Bo ts (fP xs t) o h with h | ⟨u,hu,h⟩
  ·unfold fP at h;rcases xe h with h | h
   ·rcases xe h with h | h
    ·exact .inl h
    exact .inr ⟨t,by simp,.inl h⟩
   exact .inr ⟨t,by simp,.inr h⟩
  exact .inr ⟨u,by simp [hu],h⟩
theorem Bp:∀ (ts:List Tp) (xs:List Al) (o:Al),o ∈ ts.foldl cu xs→o ∈ xs ∨ ∃ t ∈ ts,o=⟨t.a,t.b⟩ ∨ o=⟨t.c,t.d⟩
 | [],xs,o,h=>.inl h
 | t::ts,xs,o,h=>by
  rcases Bp ts (cu xs t) o h with h | ⟨u,hu,h⟩
  ·unfold cu at h;split at h
   ·rcases xe h with h | h
    ·exact .inl h
    exact .inr ⟨t,by simp,.inr h⟩
   exact .inl h
  exact .inr ⟨u,by simp [hu],h⟩
theorem KI {ts:List Tp} (hf:∀ t ∈ ts,t.fits) {o:Al} (h:∃ t ∈ ts,o=⟨t.a,t.b⟩ ∨ o=⟨t.c,t.d⟩):o.t.size≤maxLen∧o.s.size≤maxLen:=by
 obtain ⟨t,ht,h⟩:=h;obtain ⟨h0,h1,h2,h3,h4,h5⟩:=hf t ht;rcases h with rfl | rfl
 ·exact ⟨h0,h1⟩
 exact ⟨h3,h4⟩
theorem pG {ts:List Tp} (hf:∀ t ∈ ts,t.fits):∀ o ∈ eB ts,o.t.size≤maxLen∧o.s.size≤maxLen:=fun o ho=>by
 rcases Bo ts [] o ho with h | h
 ·cases h
 exact KI hf h
theorem nu {ts:List Tp} (hf:∀ t ∈ ts,t.fits):∀ o ∈ cZ ts,o.t.size≤maxLen∧o.s.size≤maxLen:=fun o ho=>by
 rcases Bp ts [] o ho with h | h
 ·cases h
 exact KI hf h
theorem E8:∀ (E:List (KL × RR)) (m:Int),m≤E.foldl (fun m x=>max m (x.1.2 + 1)) m∧∀ x ∈ E,x.1.2 + 1≤E.foldl (fun m x=>max m (x.1.2 + 1)) m
 | [],m=>⟨Int.le_refl _,fun x hx=>by cases hx⟩
 | y::E,m=>by
  obtain ⟨h1,h2⟩:=E8 E (max m (y.1.2 + 1));simp only [List.foldl_cons];refine ⟨by omega,fun x hx=>?_⟩;rcases List.mem_cons.1 hx with rfl | hx
  ·omega
  exact h2 x hx
theorem KJ:∀ (E:List (KL × RR)) (m B:Int),m≤B→(∀ x ∈ E,x.1.2 + 1≤B)→E.foldl (fun m x=>max m (x.1.2 + 1)) m≤B
 | [],m,B,h,_=>h
 | y::E,m,B,h,hx=>KJ E _ B (Int.max_le.2 ⟨h,hx y (by simp)⟩) fun x h2=>hx x (by simp [h2])
theorem Re {f:ByteArray × ByteArray→Int} {rs:List TR} {k:ByteArray × ByteArray} (hk:k ∈ ak (ae rs)):∃ x ∈ eT f rs,x.1.2=f k:=by
 unfold ak at hk;obtain ⟨T,hT,hk⟩:=Uf.1 hk;obtain ⟨t,ht,rfl⟩:=Ue.1 hT;unfold jG at hk;obtain ⟨r,hr,rfl⟩:=Ue.1 hk;obtain ⟨q,hq,rfl⟩:=Ue.1 hr;exact ⟨((t.name,f (t.name,q.name)),q),Uf.2 ⟨t,ht,Ue.2 ⟨q,hq,rfl⟩⟩,rfl⟩
theorem SV {f:ByteArray × ByteArray→Int} {rs:List TR} {x:KL × RR} (hx:x ∈ eT f rs):∃ k ∈ ak (ae rs),x.1.2=f k∧∃ t ∈ rs,∃ q ∈ t.rows,k=(t.name,q.name):=by
 unfold eT at hx;obtain ⟨t,ht,hx⟩:=Uf.1 hx;obtain ⟨q,hq,rfl⟩:=Ue.1 hx;refine ⟨(t.name,q.name),?_,rfl,t,ht,q,hq,rfl⟩;unfold ak jG;exact Uf.2 ⟨t.p,Ue.2 ⟨t,ht,rfl⟩,Ue.2 ⟨q.p,Ue.2 ⟨q,hq,rfl⟩,rfl⟩⟩
theorem xg {rs:List TR} (hf:∀ r ∈ rs,r.fits):∀ k ∈ ak (ae rs),k.2.size≤maxLen:=fun k hk=>by
 unfold ak at hk;obtain ⟨T,hT,hk⟩:=Uf.1 hk;obtain ⟨t,ht,rfl⟩:=Ue.1 hT;unfold jG at hk;obtain ⟨r,hr,rfl⟩:=Ue.1 hk;obtain ⟨q,hq,rfl⟩:=Ue.1 hr;exact ((hf t ht).2.2 q hq).1
theorem Rf (f:ByteArray × ByteArray→Int) (rs:List TR):(eT f rs).length=(ak (ae rs)).length:=by
 induction rs with
 | nil=>rfl
 | cons t rs ih =>
  have e1:ak (ae (t::rs))=jG t.p ++ ak (ae rs):=by simp [ak,ae]
  have e2:eT f (t::rs)=(t.rows.map fun r=>((t.name,f (t.name,r.name)),r)) ++ eT f rs:=rfl;have e3:(jG t.p).length=t.rows.length:=by unfold jG; rw [Uy]; exact q8 _
  rw [e1,e2,T9,T9,ih,e3,Uy]
theorem P6 {w W w':af} {n:Nat} {x0 x1 x2 x3 x4:Value} (h:W.cell? ⟨n,0,none⟩=some x0∧W.cell? ⟨n,1,none⟩=some x1∧W.cell? ⟨n,2,none⟩=some x2∧W.cell? ⟨n,3,none⟩=some x3∧W.cell? ⟨n,4,none⟩=some x4∧ag w W) (hb:ag W w'):w'.cell? ⟨n,0,none⟩=some x0∧w'.cell? ⟨n,1,none⟩=some x1∧w'.cell? ⟨n,2,none⟩=some x2∧w'.cell? ⟨n,3,none⟩=some x3∧w'.cell? ⟨n,4,none⟩=some x4∧ag w w':=by
 obtain ⟨h0,h1,h2,h3,h4,hB⟩:=h;exact ⟨bf hb (aF h0) h0,bf hb (aF h1) h1,bf hb (aF h2) h2,bf hb (aF h3) h3,bf hb (aF h4) h4,hB.trans (hb.mono hB.size)⟩
section
variable [DecidableEq Fc]
def bC (st:ByteArray × ByteArray→Int) (rs:List TR) (ts:List Tp):List Fc:=if aQ (gV rs) rs ts then qX st rs ts else []
theorem iw {st:ByteArray × ByteArray→Int} {rs:List TR} {ts:List Tp} (h:aQ (gV rs) rs ts=true):bC st rs ts=qX st rs ts:=by unfold bC; rw [if_pos h]
theorem jo {st:ByteArray × ByteArray→Int} {rs:List TR} {ts:List Tp} (h:aQ (gV rs) rs ts=false):bC st rs ts=[]:=by unfold bC; rw [if_neg (by rw [h]; decide)]
theorem pI (st:ByteArray × ByteArray→Int) {rs:List TR} {ts:List Tp}:(bC st rs ts).length≤115200:=by
 cases hr:aQ (gV rs) rs ts;case false=>rw [jo hr]; simp
 rw [iw hr];have hsd:aJ (ae rs)=true∧ts.length≤40:=by
  unfold aQ dJ at hr;simp only [TU,Ud] at hr;exact ⟨hr.1.1,hr.1.2.1⟩
 obtain ⟨h6,Wd,-⟩:=bq (aY.1 hsd.1).1;exact (kF st rs ts (eB ts) (cZ ts) _).len (by have:=oz ts; omega) (yK h6 Wd) (by have:=mr ts; omega)
end
end Go.Proofs.YtajkkeikihhejaaGreat
