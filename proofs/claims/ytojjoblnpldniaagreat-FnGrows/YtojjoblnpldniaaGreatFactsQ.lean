/- Facts of right data, in plain words: how many, and that they fit. -/
import Derived.Test.YtojjoblnpldniaaGreatJ31
import Derived.Test.YtojjoblnpldniaaGreatRightS
namespace Go.Proofs.YtojjoblnpldniaaGreat
set_option maxRecDepth 100000
set_option linter.unusedVariables false
set_option linter.unusedSectionVars false
open ChangeShapes WideShapes ChangeAt RowKit Maps
open Pl
theorem xI{xs:Q0a}{o x:Al}(h:x∈eu xs o):x∈xs\/x=o:=by
 unfold eu at h;split at h
 ·exact .inl h
 rcases VE.1 h with h|h
 ·exact .inl h
 exact .inr (by simpa using h)
theorem Ca:∀(ts:Q05) (xs:Q0a) (o:Al),o∈ts.foldl fM xs->o∈xs \/ ∃t∈ts,o=⟨t.a,t.b⟩\/o=⟨t.c,t.d⟩
 | [],xs,o,h=>.inl h
 | t::ts,xs,o,h=>by
  rcases Ca ts (fM xs t) o h with h|⟨u,hu,h⟩
  ·unfold fM at h;rcases xI h with h|h
   ·rcases xI h with h|h
    ·exact .inl h
    exact .inr ⟨t,by simp,.inl h⟩
   exact .inr ⟨t,by simp,.inr h⟩
  exact .inr ⟨u,by simp[hu],h⟩
theorem Cb:∀(ts:Q05) (xs:Q0a) (o:Al),o∈ts.foldl cu xs->o∈xs \/ ∃t∈ts,o=⟨t.a,t.b⟩\/o=⟨t.c,t.d⟩
 | [],xs,o,h=>.inl h
 | t::ts,xs,o,h=>by
  rcases Cb ts (cu xs t) o h with h|⟨u,hu,h⟩
  ·unfold cu at h;split at h
   ·rcases xI h with h|h
    ·exact .inl h
    exact .inr ⟨t,by simp,.inr h⟩
   exact .inl h
  exact .inr ⟨u,by simp[hu],h⟩
theorem LZ{ts:Q05}(hf:∀t∈ts,t.fits){o:Al}(h:∃t∈ts,o=⟨t.a,t.b⟩\/o=⟨t.c,t.d⟩):o.t.size<=maxLen/\o.s.size<=maxLen:=by
 obtain⟨t,ht,h⟩:=h;obtain⟨h0,h1,h2,h3,h4,h5⟩:=hf t ht;rcases h with rfl|rfl
 ·exact⟨h0,h1⟩
 exact⟨h3,h4⟩
theorem pO{ts:Q05}(hf:∀t∈ts,t.fits):∀o∈dW ts,o.t.size<=maxLen/\o.s.size<=maxLen:=fun o ho=>by
 rcases Ca ts [] o ho with h|h
 ·cases h
 exact LZ hf h
theorem nA{ts:Q05}(hf:∀t∈ts,t.fits):∀o∈bH ts,o.t.size<=maxLen/\o.s.size<=maxLen:=fun o ho=>by
 rcases Cb ts [] o ho with h|h
 ·cases h
 exact LZ hf h
theorem FT:∀(E:List (KL×RR)) (m:Int),m<=E.foldl (fun m x=>max m (x.1.2+1)) m/\∀x∈E,x.1.2+1<=E.foldl (fun m x=>max m (x.1.2+1)) m
 | [],m=>⟨Int.le_refl _,fun x hx=>by cases hx⟩
 | y::E,m=>by
  obtain⟨h1,h2⟩:=FT E (max m (y.1.2+1));simp only[List.foldl_cons];refine⟨by omega,fun x hx=>?_⟩;rcases VH.1 hx with rfl|hx
  ·omega
  exact h2 x hx
theorem L6:∀(E:List (KL×RR)) (m B:Int),m<=B->(∀x∈E,x.1.2+1<=B)->E.foldl (fun m x=>max m (x.1.2+1)) m<=B
 | [],m,B,h,_=>h
 | y::E,m,B,h,hx=>L6 E _ B (Int.max_le.2 ⟨h,hx y (by simp)⟩) fun x h2=>hx x (by simp[h2])
theorem Ta{f:Q00}{rs:Q06}{k:Q01}(hk:k∈ak (af rs)):∃x∈fe f rs,x.1.2=f k:=by
 unfold ak at hk;obtain⟨T,hT,hk⟩:=VJ.1 hk;obtain⟨t,ht,rfl⟩:=VG.1 hT;unfold jI at hk;obtain⟨r,hr,rfl⟩:=VG.1 hk;obtain⟨q,hq,rfl⟩:=VG.1 hr;exact⟨((t.name,f (t.name,q.name)),q),VJ.2 ⟨t,ht,VG.2 ⟨q,hq,rfl⟩⟩,rfl⟩
theorem UD{f:Q00}{rs:Q06}{x:KL×RR}(hx:x∈fe f rs):∃k∈ak (af rs),x.1.2=f k/\∃t∈rs,∃q∈t.rows,k=(t.name,q.name):=by
 unfold fe at hx;obtain⟨t,ht,hx⟩:=VJ.1 hx;obtain⟨q,hq,rfl⟩:=VG.1 hx;refine⟨(t.name,q.name),?_,rfl,t,ht,q,hq,rfl⟩;unfold ak jI;exact VJ.2 ⟨t.p,VG.2 ⟨t,ht,rfl⟩,VG.2 ⟨q.p,VG.2 ⟨q,hq,rfl⟩,rfl⟩⟩
theorem xJ{rs:Q06}(hf:∀r∈rs,r.fits):∀k∈ak (af rs),k.2.size<=maxLen:=fun k hk=>by
 unfold ak at hk;obtain⟨T,hT,hk⟩:=VJ.1 hk;obtain⟨t,ht,rfl⟩:=VG.1 hT;unfold jI at hk;obtain⟨r,hr,rfl⟩:=VG.1 hk;obtain⟨q,hq,rfl⟩:=VG.1 hr;exact((hf t ht).2.2 q hq).1
theorem Tc(f:Q00)(rs:Q06):(fe f rs).length=(ak (af rs)).length:=by
 induction rs with
 | nil=>rfl
 | cons t rs ih =>
  have e1:ak (af (t::rs))=jI t.p++ak (af rs):=by simp[ak,af]
  have e2:fe f (t::rs)=(t.rows.map fun r=>((t.name,f (t.name,r.name)),r))++fe f rs:=rfl;have e3:(jI t.p).length=t.rows.length:=by unfold jI;rw[Wy];exact rM _
  rw[e1,e2,Vx,Vx,ih,e3,Wy]
section
variable  [DecidableEq Fc]
def dh(st:Q00)(rs:Q06)(ts:Q05):List Fc:=if aW (gV rs) rs ts then rz st rs ts else []
theorem ig{st:Q00}{rs:Q06}{ts:Q05}(h:aW (gV rs) rs ts=true):dh st rs ts=rz st rs ts:=by unfold dh;rw[if_pos h]
theorem jv{st:Q00}{rs:Q06}{ts:Q05}(h:aW (gV rs) rs ts=false):dh st rs ts=[]:=by unfold dh;rw[if_neg (by rw[h];decide)]
theorem uF(st:Q00){rs:Q06}{ts:Q05}:(dh st rs ts).length<=115200:=by
 cases hr:aW (gV rs) rs ts;case false=>rw[jv hr];simp
 rw[ig hr];have hsd:aN (af rs)=true/\ts.length<=40:=by
  unfold aW dH at hr;simp only[Vt,VF]at hr;exact⟨hr.1.1,hr.1.2.1⟩
 obtain⟨h6,Yt,-⟩:=bq (bu.1 hsd.1).1;exact(kL st rs ts (dW ts) (bH ts) _).len (by have:=oH ts;omega) (za h6 Yt) (by have:=mM ts;omega)
end
end Go.Proofs.YtojjoblnpldniaaGreat
