/- Facts of right data, in plain words: how many, and that they fit. -/
import Derived.Test.YtojjoblnpldniaaGreatSq
import Derived.Test.YtojjoblnpldniaaGreatJ19
import Derived.Test.YtojjoblnpldniaaGreatJ17
import Derived.Test.YtojjoblnpldniaaGreatJ18
import Derived.OpenShut
import Derived.ShutString
import Derived.HandedShaped
open Go.Proofs.Tryz
set_option maxHeartbeats 80000000
namespace Go.Proofs.YtojjoblnpldniaaGreat
set_option maxRecDepth 100000
set_option linter.unusedVariables false
set_option linter.unusedSectionVars false
open ChangeShapes WideShapes ChangeAt RowKit Maps
open Pl
theorem yn{xs:Q0a}{o x:Al}(h:x∈ib xs o):x∈xs\/x=o:=by
 unfold ib at h;split at h
 ·exact .inl h
 rcases VJ.1 h with h|h
 ·exact .inl h
 exact .inr (by simpa using h)
theorem Cf:∀(ts:Q05) (xs:Q0a) (o:Al),o∈ts.foldl iV xs->o∈xs \/ ∃t∈ts,o=⟨t.a,t.b⟩\/o=⟨t.c,t.d⟩
 | [],xs,o,h=>.inl h
 | t::ts,xs,o,h=>by
  rcases Cf ts (iV xs t) o h with h|⟨u,hu,h⟩
  ·unfold iV at h;rcases yn h with h|h
   ·rcases yn h with h|h
    ·exact .inl h
    exact .inr ⟨t,by simp,.inl h⟩
   exact .inr ⟨t,by simp,.inr h⟩
  exact .inr ⟨u,by simp[hu],h⟩
theorem Cg:∀(ts:Q05) (xs:Q0a) (o:Al),o∈ts.foldl fw xs->o∈xs \/ ∃t∈ts,o=⟨t.a,t.b⟩\/o=⟨t.c,t.d⟩
 | [],xs,o,h=>.inl h
 | t::ts,xs,o,h=>by
  rcases Cg ts (fw xs t) o h with h|⟨u,hu,h⟩
  ·unfold fw at h;split at h
   ·rcases yn h with h|h
    ·exact .inl h
    exact .inr ⟨t,by simp,.inr h⟩
   exact .inl h
  exact .inr ⟨u,by simp[hu],h⟩
theorem Mf{ts:Q05}(hf:∀t∈ts,t.fits){o:Al}(h:∃t∈ts,o=⟨t.a,t.b⟩\/o=⟨t.c,t.d⟩):o.t.size<=maxLen/\o.s.size<=maxLen:=by
 obtain⟨t,ht,h⟩:=h;obtain⟨h0,h1,h2,h3,h4,h5⟩:=hf t ht;rcases h with rfl|rfl
 ·exact⟨h0,h1⟩
 exact⟨h3,h4⟩
theorem uS{ts:Q05}(hf:∀t∈ts,t.fits):∀o∈fF ts,o.t.size<=maxLen/\o.s.size<=maxLen:=fun o ho=>by
 rcases Cf ts [] o ho with h|h
 ·cases h
 exact Mf hf h
theorem rQ{ts:Q05}(hf:∀t∈ts,t.fits):∀o∈di ts,o.t.size<=maxLen/\o.s.size<=maxLen:=fun o ho=>by
 rcases Cg ts [] o ho with h|h
 ·cases h
 exact Mf hf h
theorem FZ:∀(E:List (KL×RR)) (m:Int),m<=E.foldl (fun m x=>max m (x.1.2+1)) m/\∀x∈E,x.1.2+1<=E.foldl (fun m x=>max m (x.1.2+1)) m
 | [],m=>⟨Int.le_refl _,fun x hx=>by cases hx⟩
 | y::E,m=>by
  obtain⟨h1,h2⟩:=FZ E (max m (y.1.2+1));simp only[List.foldl_cons];refine⟨by omega,fun x hx=>?_⟩;rcases VL.1 hx with rfl|hx
  ·omega
  exact h2 x hx
theorem Mg:∀(E:List (KL×RR)) (m B:Int),m<=B->(∀x∈E,x.1.2+1<=B)->E.foldl (fun m x=>max m (x.1.2+1)) m<=B
 | [],m,B,h,_=>h
 | y::E,m,B,h,hx=>Mg E _ B (Int.max_le.2 ⟨h,hx y (by simp)⟩) fun x h2=>hx x (by simp[h2])
theorem Tc{f:Q00}{rs:Q06}{k:Q01}(hk:k∈au (ae rs)):∃x∈fC f rs,x.1.2=f k:=by
 unfold au at hk;obtain⟨T,hT,hk⟩:=VP.1 hk;obtain⟨t,ht,rfl⟩:=VE.1 hT;unfold jZ at hk;obtain⟨r,hr,rfl⟩:=VE.1 hk;obtain⟨q,hq,rfl⟩:=VE.1 hr;exact⟨((t.name,f (t.name,q.name)),q),VP.2 ⟨t,ht,VE.2 ⟨q,hq,rfl⟩⟩,rfl⟩
theorem UB{f:Q00}{rs:Q06}{x:KL×RR}(hx:x∈fC f rs):∃k∈au (ae rs),x.1.2=f k/\∃t∈rs,∃q∈t.rows,k=(t.name,q.name):=by
 unfold fC at hx;obtain⟨t,ht,hx⟩:=VP.1 hx;obtain⟨q,hq,rfl⟩:=VE.1 hx;refine⟨(t.name,q.name),?_,rfl,t,ht,q,hq,rfl⟩;unfold au jZ;exact VP.2 ⟨t.p,VE.2 ⟨t,ht,rfl⟩,VE.2 ⟨q.p,VE.2 ⟨q,hq,rfl⟩,rfl⟩⟩
theorem Ep{rs:Q06}(hf:∀r∈rs,r.fits):∀k∈au (ae rs),k.2.size<=maxLen:=fun k hk=>by
 unfold au at hk;obtain⟨T,hT,hk⟩:=VP.1 hk;obtain⟨t,ht,rfl⟩:=VE.1 hT;unfold jZ at hk;obtain⟨r,hr,rfl⟩:=VE.1 hk;obtain⟨q,hq,rfl⟩:=VE.1 hr;exact((hf t ht).2.2 q hq).1
theorem Td(f:Q00)(rs:Q06):(fC f rs).length=(au (ae rs)).length:=by
 induction rs with
 | nil=>rfl
 | cons t rs ih =>
  have e1:au (ae (t::rs))=jZ t.p++au (ae rs):=by simp[au,ae]
  have e2:fC f (t::rs)=(t.rows.map fun r=>((t.name,f (t.name,r.name)),r))++fC f rs:=rfl;have e3:(jZ t.p).length=t.rows.length:=by unfold jZ;rw[Wp];exact dz _
  rw[e1,e2,VD,VD,ih,e3,Wp]
section
variable  [DecidableEq Fc]
def dM(st:Q00)(rs:Q06)(ts:Q05):List Fc:=if cz (rO rs) rs ts then Ld st rs ts else []
theorem jw{st:Q00}{rs:Q06}{ts:Q05}(h:cz (rO rs) rs ts=true):dM st rs ts=Ld st rs ts:=by unfold dM;rw[if_pos h]
theorem o8{st:Q00}{rs:Q06}{ts:Q05}(h:cz (rO rs) rs ts=false):dM st rs ts=[]:=by unfold dM;rw[if_neg (by rw[h];decide)]
theorem Ch(st:Q00){rs:Q06}{ts:Q05}:(dM st rs ts).length<=115200:=by
 cases hr:cz (rO rs) rs ts;case false=>rw[o8 hr];simp
 rw[jw hr];have hsd:aD (ae rs)=true/\ts.length<=40:=by
  unfold cz dX at hr;simp only[Vw,VH]at hr;exact⟨hr.1.1,hr.1.2.1⟩
 obtain⟨h6,XA,-⟩:=aW (aG.1 hsd.1).1;exact(ny st rs ts (fF ts) (di ts) _).len (by have:=sM ts;omega) (FK h6 XA) (by have:=qo ts;omega)
end
theorem yo{xs:Q0a}{o x:Al}:x∈ib xs o↔x∈xs\/x=o:=by
 unfold ib;split
 ·rename_i h;exact⟨.inl,fun h'=>h'.elim id fun e=>e ▸ Qs.1 h⟩
 simp
theorem F3:∀(ts:Q05) (xs:Q0a) (o:Al),(o∈xs \/ ∃t∈ts,o=⟨t.a,t.b⟩\/o=⟨t.c,t.d⟩)->o∈ts.foldl iV xs
 | [],xs,o,h=>h.elim id fun⟨t,ht,_⟩=>by cases ht
 | t::ts,xs,o,h=>by
  refine F3 ts (iV xs t) o ?_;unfold iV;simp only[yo];rcases h with h|⟨u,hu,h⟩
  ·exact .inl (.inl (.inl h))
  rcases VL.1 hu with rfl|hu
  ·rcases h with h|h
   ·exact .inl (.inl (.inr h))
   exact .inl (.inr h)
  exact .inr ⟨u,hu,h⟩
theorem Mh:∀(ts:Q05) (xs:Q0a) (o:Al),(o∈xs \/ ∃t∈ts,t.s.toList.isEmpty=true/\o=⟨t.c,t.d⟩)->o∈ts.foldl fw xs
 | [],xs,o,h=>h.elim id fun⟨t,ht,_⟩=>by cases ht
 | t::ts,xs,o,h=>by
  refine Mh ts (fw xs t) o ?_;rcases h with h|⟨u,hu,hs,h⟩
  ·refine .inl ?_;unfold fw;split
   ·exact yo.2 (.inl h)
   exact h
  rcases VL.1 hu with rfl|hu
  ·refine .inl ?_;unfold fw;rw[if_pos (by simpa using hs)];exact yo.2 (.inr h)
  exact .inr ⟨u,hu,hs,h⟩
theorem qw{l:Q05}{es:Q09}{truth known:Q04}{f:Fc}(h5:∀e∈es,e.kind=5->e.kids≠[])(hkn:∀g∈known,(⟨g.a,g.b⟩:Al)∈fF l/\(⟨g.c,g.d⟩:Al)∈di l):∀(k n:Nat),fJ l es truth f k known n=true->(⟨f.a,f.b⟩:Al)∈fF l/\(⟨f.c,f.d⟩:Al)∈di l
 | 0,n,h=>by cases h
 | k+1,n,h=>by
  unfold fJ at h;cases e:es[n]? with
  | none=>rw[e]at h;cases h
  | some x =>
   rw[e]at h;simp only at h;by_cases k1:x.kind=1
   ·rw[if_pos k1]at h;unfold qY at h;obtain⟨t,ht,h⟩:=VX.1 h;simp only[Vw,beq_iff_eq]at h;obtain⟨⟨⟨h1,h2⟩,h3⟩,h4⟩:=h;refine⟨F3 _ _ _ (.inr ⟨t,ht,.inl (by rw[gH h1,gH h2])⟩),?_⟩;split at h4
    ·rename_i hs;simp only[Vw,beq_iff_eq]at h4;exact Mh _ _ _ (.inr ⟨t,ht,hs,by rw[gH h4.1,gH h4.2]⟩)
    exact(hkn _ (bW.1 h4)).2
   rw[if_neg k1]at h;by_cases k2:x.kind=2
   ·rw[if_pos k2]at h;have h2:=hkn _ (bW.1 h);exact h2
   rw[if_neg k2]at h;by_cases k3:x.kind=3
   ·rw[if_pos k3]at h;unfold tF at h;obtain⟨t,ht,h⟩:=VX.1 h;simp only[Vw,beq_iff_eq]at h;obtain⟨⟨⟨h1,h2⟩,h3⟩,h4⟩:=h;exact⟨F3 _ _ _ (.inr ⟨t,ht,.inl (by rw[gH h1,gH h2])⟩),(hkn _ (bW.1 h4)).2⟩
   rw[if_neg k3]at h;by_cases k4:x.kind=4
   ·rw[if_pos k4]at h;obtain⟨i,-,h⟩:=VX.1 h;exact qw h5 hkn k _ h
   rw[if_neg k4]at h;by_cases k5:x.kind=5
   ·rw[if_pos k5]at h;obtain⟨i,hi⟩:=List.exists_mem_of_ne_nil _ (h5 x (WB e) k5);exact qw h5 hkn k _ (VF.1 h i hi)
   rw[if_neg k5]at h;by_cases k6:x.kind=6
   ·rw[if_pos k6]at h;exact qw h5 hkn k _ (Bool.and_eq_true_iff.1 h).1
   rw[if_neg k6]at h;cases h
theorem Ci{ts:Q05}(h:dX ts=true):∀t∈ts,t.ok=true:=fun t ht=>by
 unfold dX at h;simp only[Vw]at h;obtain⟨i,hi,rfl⟩:=V4 ht;have h1:=h.2;unfold uA at h1;have h2:=VF.1 h1 i (by simpa using hi);unfold vI at h2;rw[VG hi]at h2;exact(Bool.and_eq_true_iff.1 h2).1
section
variable  [DecidableEq Fc]
theorem I7(ts:Q0b)(l:Q05)(st:Q00)(xo xu:Q0a):∀N,iG ts l st xo xu N=rW (dO ts l) (fun n=>bP ts st xo xu (n:Int)) N
 | 0=>rfl
 | N+1=>by rw[jD,I7 ts l st xo xu N];rfl
theorem OA{rs:Q06}(hsh:aZ (ae rs)=true)(a r:bi):∀e∈ak (ae rs) a r,e.kind=5->e.kids≠[]:=by
 intro e he k5;cases hp:dZ (ae rs) a r with
 | none=>unfold ak at he;rw[hp]at he;cases he
 | some es =>
  unfold ak at he;rw[hp]at he;obtain⟨t0,ht0,r0,hr0,en,er,ee⟩:=oI hp;have hspec:=(uE hsh ht0 hr0).2;rw[ee]at hspec;have h4:es.all av=true:=by simp only[aI,Vw]at hspec;exact hspec.1.1.1.2
  have:=VF.1 h4 e he;unfold av at this;rw[if_neg (by omega),if_neg (by omega),if_neg (by omega),if_pos (.inr k5)]at this;simp only[Vw,VH]at this;intro h0;rw[h0]at this;simp at this
theorem lT{st:Q00}{rs:Q06}{ts:Q05}(hle:aD (ae rs)=true->Least (ae rs) st)(hr:cz (rO rs) rs ts=true)(f:Fc):gZ (dM st rs ts) f=dO (ae rs) ts (dM st rs ts) f:=by
 have hr2:=hr;unfold cz at hr2;simp only[Vw]at hr2;have hSP:=aG.1 hr2.1.1;have Zm:=hle hr2.1.1;have hfit:∀t∈ts,H5 (ae rs) t=true:=fun t ht=>by
  have h1:=VF.1 hr2.2 t ht;rw[<-sN hr2.1.1 (Ci hr2.1.2 t ht)]at h1;exact h1
 have hL:=FB Zm.sol hSP.1 hSP.2.1 hfit;have hen:∀k∈au (ae rs),hasB (ae rs) k.1 k.2=true:=fun k hk=>by
  obtain⟨es,h1,h2⟩:=Ce hSP.1 hk;rw[rF];unfold ak;rw[h1];intro e;have e2:es=[]:=e;rw[e2]at h2;simp[aI]at h2
 have hq:∀n:Nat,∀g∈bP (ae rs) st (fF ts) (di ts) (n:Int),Kv (ae rs) st g=(n:Int):=fun n g hg=>BB hen hg;have hsub:∀g∈dM st rs ts,(⟨g.a,g.b⟩:Al)∈fF ts/\(⟨g.c,g.d⟩:Al)∈di ts:=fun g hg=>by
  rw[jw hr]at hg;have h1:=(ny st rs ts (fF ts) (di ts) _).sub g hg;unfold KU at h1;obtain⟨o,ho,h1⟩:=VP.1 h1;obtain⟨k,hk,h1⟩:=VP.1 h1;unfold sS at h1;obtain⟨u,hu,rfl⟩:=VE.1 h1;exact⟨ho,hu⟩
 rw[VR,bW];have e:dM st rs ts=rW (dO (ae rs) ts) (fun n=>bP (ae rs) st (fF ts) (di ts) (n:Int)) ((au (ae rs)).length+1):=by
  rw[jw hr];exact I7 _ _ _ _ _ _
 constructor
 ·intro h;rw[e]at h ⊢;exact MQ hL hq h
 intro h;obtain⟨ho,hu⟩:=qw (OA hSP.1 f.a f.r) hsub _ _ h;have hne:ak (ae rs) f.a f.r≠[]:=fun h0=>by
  unfold dO at h;rw[h0]at h;cases h
 have hk:(f.a,f.r)∈au (ae rs):=lX (by simpa using hne);have hp:=Zm.sol.pos (f.a,f.r);have hlt:st (f.a,f.r)<((au (ae rs)).length:Int):=by
  refine Classical.byContradiction fun hc=>?_;exact absurd ⟨st,Zm.sol⟩ (Jr (kJ hSP.2.1) hk (Zm.low _ hk) (by omega))
 rw[e]at h ⊢;refine PE hL hq (n:=(st (f.a,f.r)).toNat) (by omega) ?_ h;unfold bP xM EZ sS;refine VP.2 ⟨_,ho,VP.2 ⟨(f.a,f.r),Wo.2 ⟨hk,?_⟩,VE.2 ⟨_,hu,rfl⟩⟩⟩;simp only[BEq.rfl,Bool.true_and,VH];omega
end
structure Sys(l:Q05)(D:Fc->Prop)(E:Fc->List Ex)(A:Q04):Prop where
 seq:∀(i:Nat) (hi:i<A.length),D A[i]->fJ l (E A[i]) A A[i] (E A[i]).length (A.take i) ((E A[i]).length-1)=true
 all:∀f,D f->fJ l (E f) A f (E f).length A ((E f).length-1)=true->f∈A
theorem I8{l:Q05}{D:Fc->Prop}{E:Fc->List Ex}{A B:Q04}{rk:Fc->Int}(hA:Sys l D E A)(hB:Sys l D E B)
  (hN:∀f,D f->f∈A->NodeR l rk (E f) f/\(E f).length-1<(E f).length) (hD:∀f g,D f->f∈A->rk g<=rk f->D g) {m:Int} (hm:∀g,D g->rk g<m->(g∈A↔g∈B)):∀(i:Nat) (hi:i<A.length),D A[i]->rk A[i]=m->A[i]∈B:=by
 intro i
 induction i using Nat.strongRecOn with
 | ind i ih =>
  intro hi hd hr;have hf:A[i]∈A:=Vs hi;obtain⟨hn,hl⟩:=hN _ hd hf;refine hB.all _ hd (hn.more (ta:=A) (fun g hg=>?_) _ (A.take i) B _ (fun g hg hx=>?_) hl (hA.seq i hi hd))
  ·exact hm g (hD _ g hd hf (by omega)) (by omega)
  have hdg:=hD _ g hd hf hg;by_cases e:rk g=m
  ·obtain⟨j,hj,rfl⟩:=List.mem_take_iff_getElem.1 hx;exact ih j (by omega) (by omega) hdg e
  exact(hm g hdg (by omega)).1 (List.mem_of_mem_take hx)
theorem Rm{l:Q05}{D:Fc->Prop}{E:Fc->List Ex}{A B:Q04}{rk:Fc->Int}(hA:Sys l D E A)(hB:Sys l D E B)
  (hN:∀f,D f->(f∈A\/f∈B)->NodeR l rk (E f) f/\(E f).length-1<(E f).length) (hD:∀f g,D f->(f∈A\/f∈B)->rk g<=rk f->D g) (hp:∀f,D f->(f∈A\/f∈B)->0<=rk f):∀f,D f->(f∈A↔f∈B):=by
 have key:∀m:Nat,∀f,D f->rk f<(m:Int)->(f∈A↔f∈B):=by
  intro m
  induction m with
  | zero =>
   intro f hd hr;exact⟨fun h=>by have:=hp f hd (.inl h);omega,fun h=>by have:=hp f hd (.inr h);omega⟩
  | succ m ih =>
   intro f hd hr;by_cases e:rk f=(m:Int)
   ·constructor
    ·intro h;obtain⟨i,hi,rfl⟩:=V4 h;exact I8 hA hB (fun f h1 h2=>hN f h1 (.inl h2)) (fun f g h1 h2=>hD f g h1 (.inl h2)) ih i hi hd e
    intro h;obtain⟨i,hi,rfl⟩:=V4 h;exact I8 hB hA (fun f h1 h2=>hN f h1 (.inr h2)) (fun f g h1 h2=>hD f g h1 (.inr h2)) (fun g h1 h2=>(ih g h1 h2).symm) i hi hd e
   exact ih f hd (by omega)
 intro f hd;exact key (rk f+1).toNat f hd (by omega)
section
variable  [DecidableEq Fc]
theorem Es{st:Q00}{rs:Q06}{ts:Q05}(hle:aD (ae rs)=true->Least (ae rs) st)(hr:cz (rO rs) rs ts=true){D:Fc->Prop}{E:Fc->List Ex}(hE:∀f,D f->ak (ae rs) f.a f.r=E f):Sys ts D E (dM st rs ts) where
 seq i hi hd:=by
  have hr2:=hr;unfold cz at hr2;simp only[Vw]at hr2;have hSP:=aG.1 hr2.1.1;have hen:∀k∈au (ae rs),hasB (ae rs) k.1 k.2=true:=fun k hk=>by
   obtain⟨es,h1,h2⟩:=Ce hSP.1 hk;rw[rF];unfold ak;rw[h1];intro e;have e2:es=[]:=e;rw[e2]at h2;simp[aI]at h2
  have hfit:∀t∈ts,H5 (ae rs) t=true:=fun t ht=>by
   have h1:=VF.1 hr2.2 t ht;rw[<-sN hr2.1.1 (Ci hr2.1.2 t ht)]at h1;exact h1
  have e:dM st rs ts=iG (ae rs) ts st (fF ts) (di ts) ((au (ae rs)).length+1):=by rw[jw hr];rfl
  have h:=I6 (hle hr2.1.1).sol hSP.1 hSP.2.1 hfit hen ((au (ae rs)).length+1) (xo:=fF ts) (xu:=di ts) (i:=i) (by rw[<-e];exact hi);simp only[<-e]at h;rw[hE _ hd]at h;exact h
 all f hd h:=by
  refine bW.1 ?_;rw[lT hle hr];unfold dO;rw[hE f hd];exact h
end
def UG(typ rel:ByteArray)(f:Fc):Prop:=f.a=typ/\f.r=rel
theorem nz{a b c d:ByteArray}:fM a b c d=true↔a=c/\b=d:=by
 unfold fM;rw[Vw];exact⟨fun h=>⟨oZ h.1,oZ h.2⟩,fun h=>by rw[h.1,h.2];simp⟩
theorem Et(typ rel tn n:bi):∀rs:List Rl,iy (rs.filter fun r=>!fM typ rel tn r.name) n=if fM typ rel tn n then none else iy rs n
 | []=>by simp[iy]
 | r::rs=>by
  have ih:=Et typ rel tn n rs;by_cases h:fM typ rel tn r.name=true
  ·rw[List.filter_cons_of_neg (by simp[h]),ih];by_cases h2:fM typ rel tn n=true
   ·rw[if_pos h2,if_pos h2]
   rw[if_neg h2,if_neg h2];simp only[iy];rw[if_neg (fun e=>h2 (by rw[<-oZ e];exact h))]
  rw[List.filter_cons_of_pos (by simpa using h)];simp only[iy];by_cases e:(r.name.toList==n.toList)=true
  ·rw[if_pos e,if_pos e,if_neg (fun h2=>h (by rw[oZ e];exact h2))]
  rw[if_neg e,if_neg e,ih]
theorem I9(typ rel a n:bi):∀ts:List Ty,dZ (jc typ rel ts) a n=if fM typ rel a n then none else dZ ts a n
 | []=>by simp[jc,dZ]
 | t::ts=>by
  have ih:=I9 typ rel a n ts;show dZ (Q3 typ rel t::jc typ rel ts) a n=_;simp only[dZ,ih];show(if (t.name.toList==a.toList)=true then (iy (t.rels.filter fun r=>!fM typ rel t.name r.name) n).or _ else _)=_;rw[Et];by_cases e:(t.name.toList==a.toList)=true
  ·rw[if_pos e,if_pos e,oZ e];by_cases h:fM typ rel a n=true
   ·rw[if_pos h,if_pos h,if_pos h];rfl
   rw[if_neg h,if_neg h,if_neg h]
  rw[if_neg e,if_neg e]
theorem sO(typ rel a n:bi)(ts:Q0b):ak (jc typ rel ts) a n=if fM typ rel a n then [] else ak ts a n:=by
 unfold ak;rw[I9];split<;>rfl
theorem yU{typ rel:ByteArray}{ts:Q0b}{f:Fc}(h:¬UG typ rel f):ak (jc typ rel ts) f.a f.r=ak ts f.a f.r:=by
 rw[sO,if_neg fun e=>h ⟨(nz.1 e).1.symm,(nz.1 e).2.symm⟩]
theorem OB{typ rel:ByteArray}{ts:Q0b}{a n:ByteArray}(h:fM typ rel a n=false):ak (jc typ rel ts) a n=ak ts a n:=by rw[sO,if_neg (by rw[h];decide)]
theorem Le{rs:Q06}{qs:Q06}{typ rel:ByteArray}(hd:aD (ae rs)=true)(hd2:aD (ae qs)=true)(hq:ae qs=jc typ rel (ae rs))(ho:FQ (iM (ae rs) typ rel) (ae rs)=false){k:Q01}(hk:k∈au (ae rs))(hne:k≠(typ,rel)):∀d∈fZ (ae rs) k,(d.typ,d.rel)≠(typ,rel):=by
 intro d hdm e;have h2:fM typ rel k.1 k.2=false:=by
  cases h:fM typ rel k.1 k.2;case false=>rfl
  exact absurd (Prod.ext (nz.1 h).1.symm (nz.1 h).2.symm) hne
 have hes:ak (ae qs) k.1 k.2=ak (ae rs) k.1 k.2:=by rw[hq];exact OB h2
 have hno:(typ,rel) ∉ au (ae qs):=fun hm=>by
  rw[hq]at hm;obtain⟨t,ht,r,hr,e2⟩:=oJ.1 hm;obtain⟨t0,ht0,rfl⟩:=VE.1 ht;have:=(Wo.1 hr).2;injection e2 with e3 e4;have e3':typ=t0.name:=e3;rw[e3',e4]at this;simp[fM]at this
 have hkq:k∈au (ae qs):=by
  have hF:=aG.1 hd;obtain⟨es,h3,h4⟩:=Ce hF.1 hk;refine lX (ts:=ae qs) (ty:=k.1) (n:=k.2) ?_;rw[hes];unfold ak;rw[h3];cases es with
  | nil=>simp[aI]at h4
  | cons x xs=>rfl
 have hFq:=kJ (aG.1 hd2).2.1
 -- a dependency that the smaller schema has,too,is there in it
 have hsame:d ∉ fZ (ae qs) k:=fun hm=>hno (by rw[<-e];exact hFq k hkq d hm);unfold fZ oH at hdm hsame;rw[hes]at hsame;obtain⟨i,hi,hdi⟩:=pK hdm;have hnot:d ∉ gG (ae qs) k.1 (ak (ae rs) k.1 k.2) i:=fun hm=>hsame (uN hm _ hi);unfold gG at hdi hnot;rw[VG hi]at hdi hnot;simp only at hdi hnot;rcases VJ.1 hdi with h3|h3
 ·exact hnot (VJ.2 (.inl h3))
 unfold kH at h3 hnot;split at h3
 ·rename_i k2;rw[if_pos k2]at hnot;exact hnot (VJ.2 (.inr h3))
 rename_i k2;split at h3
 ·rename_i k3;obtain⟨g,hg,rfl⟩:=VE.1 h3;injection e with e1 e2;have hg2:g=typ:=e1;subst hg2
  -- the node's place in memory
  cases hp:dZ (ae rs) k.1 k.2 with
  | none=>unfold ak at hi;rw[hp]at hi;exact absurd hi (Wm _)
  | some es =>
   obtain⟨t0,ht0,r0,hr0,n1,n2,n3⟩:=oI hp;obtain⟨t,ht,rfl⟩:=VE.1 ht0;obtain⟨q,hqm,rfl⟩:=VE.1 hr0;have hes2:ak (ae rs) k.1 k.2=ai q.rows:=by unfold ak;rw[hp];exact n3.symm
   have hx:(ak (ae rs) k.1 k.2)[i]∈ai q.rows:=by rw[<-hes2];exact Vs hi
   obtain⟨x,hxm,hxe⟩:=VE.1 hx;have n1':t.name=k.1:=n1;have n2':q.name=k.2:=n2;have hkey:fM t.name q.name g rel=false:=by rw[n1',n2',yj];exact h2
   have ha:=Q8 hd ht hqm hxm (by rw[hxe];exact k3) hkey;have hf:xe (iM (ae rs) g rel) t.name q.name x.e=false:=by
    rw[FQ,List.any_eq_false]at ho;have h5:=ho t.p (VS ht);rw[Bool.not_eq_true,Rp,List.any_eq_false]at h5;have h6:=h5 q.p (VS hqm);rw[Bool.not_eq_true,Ro,List.any_eq_false]at h6;have h7:=h6 x.e (VS hxm);have h8:xe (iM (ae rs) g rel) t.p.name q.p.name x.e=false:=by simpa using h7
    exact h8
   rw[hf,hxe]at ha;have e2':((ak (ae rs) k.1 k.2)[i]).name=rel:=e2;rw[e2',n1']at ha;have hin:yP (d9 (ae rs) k.1 ((ak (ae rs) k.1 k.2)[i]).over rel) g=true:=by
    unfold yP;rw[e2']at hg;exact VX.2 ⟨g,hg,by simp⟩
   rw[hin]at ha;simp at ha
 cases h3
theorem Ja(f:Q00):∀L:List (ByteArray×ByteArray),∃B:Int,∀k∈L,f k<B
 | []=>⟨0,fun k hk=>by cases hk⟩
 | x::xs=>by
  obtain⟨B,hB⟩:=Ja f xs;refine⟨max B (f x+1),fun k hk=>?_⟩;rcases VL.1 hk with rfl|h
  ·omega
  have:=hB k h;omega
section
variable  [DecidableEq Fc]
theorem F4{st st2:Q00}{rs qs:Q06}{ts:Q05}{typ rel:ByteArray}(hle:aD (ae rs)=true->Least (ae rs) st)(hle2:aD (ae qs)=true->Least (ae qs) st2)(hq:ae qs=jc typ rel (ae rs))(ho:FQ (iM (ae rs) typ rel) (ae rs)=false)(hin:ak (ae rs) typ rel≠[])(hr:cz (rO rs) rs ts=true)(hr2:cz (rO qs) qs ts=true):
  (∀f∈dM st2 qs ts,¬UG typ rel f)/\∀f,¬UG typ rel f->(f∈dM st rs ts↔f∈dM st2 qs ts):=by
 have hrA:=hr;have hrB:=hr2;unfold cz at hrA hrB;simp only[Vw]at hrA hrB;have hSP:=aG.1 hrA.1.1;have hL:=(hle hrA.1.1).sol;have hfit:∀t∈ts,H5 (ae rs) t=true:=fun t ht=>by
  have h1:=VF.1 hrA.2 t ht;rw[<-sN hrA.1.1 (Ci hrA.1.2 t ht)]at h1;exact h1
 -- strata with the relation that is taken out above all others
 obtain⟨B,hB⟩:=Ja st ((typ,rel)::au (ae rs));have hB0:0<=B:=by have:=hB (typ,rel) (by simp);have:=hL.pos (typ,rel);omega
 let sB:ByteArray×ByteArray->Int:=fun k=>if k=(typ,rel) then B else st k
 have hsol:Sol (ae rs) sB:=by
  refine⟨fun k=>?_,fun k hk d hd=>?_⟩
  ·show 0<=if k=(typ,rel) then B else st k
   split
   ·exact hB0
   exact hL.pos k
  have h1:=hL.up k hk d hd;show(if (d.typ,d.rel)=(typ,rel) then B else st (d.typ,d.rel))+stepOf d<=if k=(typ,rel) then B else st k
  by_cases hkk:k=(typ,rel)
  ·rw[if_pos hkk];have h3:=hB k (by rw[hkk];simp);by_cases hdd:(d.typ,d.rel)=(typ,rel)
   ·rw[hdd,hkk]at h1;rw[if_pos hdd];omega
   rw[if_neg hdd];omega
  rw[if_neg hkk,if_neg (Le hrA.1.1 hrB.1.1 hq ho hk hkk d hd)];exact h1
 have hn2:∀f∈dM st2 qs ts,¬UG typ rel f:=fun f hf hp=>by
  have h1:=bW.2 hf;rw[lT hle2 hr2]at h1;unfold dO at h1;rw[hq,sO,if_pos (nz.2 ⟨hp.1.symm,hp.2.symm⟩)]at h1;cases h1
 refine⟨hn2,Rm (rk:=Kv (ae rs) sB) (Es hle hr (E:=fun f=>ak (ae rs) f.a f.r) fun f _=>rfl) (Es hle2 hr2 fun f hf=>by rw[hq];exact yU hf) (fun f hf hm=>?_) (fun f g hf hm hg hpg=>?_) (fun f hf hm=>?_)⟩
 all_goals
  have hex:ak (ae rs) f.a f.r≠[]:=fun e=>by
   rcases hm with h|h
   ·have h1:=bW.2 h;rw[lT hle hr]at h1;unfold dO at h1;rw[e]at h1;cases h1
   have h1:=bW.2 h;rw[lT hle2 hr2]at h1;unfold dO at h1;rw[hq,yU hf,e]at h1;cases h1
  have hhas:hasB (ae rs) f.a f.r=true:=rF.2 hex;have Zx:Kv (ae rs) sB f=st (f.a,f.r):=by
   unfold Kv;rw[if_pos hhas];show(if (f.a,f.r)=(typ,rel) then B else st (f.a,f.r))=_;rw[if_neg fun e=>hf ⟨congrArg Prod.fst e,congrArg Prod.snd e⟩]
 ·have hpos:(ak (ae rs) f.a f.r).length-1<(ak (ae rs) f.a f.r).length:=by
   have:(ak (ae rs) f.a f.r).length≠0:=fun e=>hex (VM.1 e);omega
  exact⟨BA hsol hSP.1 hSP.2.1 hfit hex,hpos⟩
 ·rw[Zx]at hg;have hfm:(f.a,f.r)∈au (ae rs):=lX (by cases h:ak (ae rs) f.a f.r with|nil=>exact absurd h hex|cons x xs=>rfl);have h1:=hB _ (V7 _ hfm);unfold Kv at hg;obtain⟨p1,p2⟩:=hpg;rw[p1,p2]at hg;split at hg
  ·have:sB (typ,rel)=B:=if_pos rfl;omega
  rename_i hno;exact hno (rF.2 hin)
 rw[Zx];exact hL.pos _
end
section
variable  [DecidableEq Fc]
def Jb(L0:Q04)(w:World)(e:Ending)(w':World):Prop:=(∃(L:Q04) (v:Value),e=.returned v/\L.Perm L0/\L.Pairwise (fun x y=>Op.bytesLess (F6 y) (F6 x)=false)/\w'.ownsRow w.heap.size 52 5 v L.length (iC L))/\ag w w'
theorem tY(st:Q00)(ad:Q02)(cap:Nat)(rs:Q06)(Xe:Q02)(cap':Nat)(ts:Q05)(w:af)(hlen:rs.length<=1048576)(hs:jK w ad rs)(hl:∀r∈rs,r.light)(hfr:∀r∈rs,r.fits)(hcp:∀r∈rs,r.caps)(hlt:ts.length<=1048576)(hst:Sl w Xe ts)(hft:∀x∈ts,x.fits)(hle:aD (ae rs)=true->Least (ae rs) st):
  Calls prog 11 #[.slice ad rs.length cap,.slice Xe ts.length cap'] w (Jb (dM st rs ts) w):=by
 have HC:=aY (KM (rO rs) ad cap rs Xe cap' ts w hlen hs hl hfr (wG ad cap rs w hlen hs hl hfr hcp) (fun h t ht=>sN h ht) hlt hst hft);have HS:=aY hs;have WT:=aY hft;have ZK:=aY hfr;have Yf:=aY hle;clear hs hl hfr hcp hst hft hle;go_enter func11,ntmps11;go_wp2_with fail;refine HC.out.mono ?_;rintro e w1 ⟨hb1,⟨hr,rfl⟩|⟨hr,D,br,bp,bt,nr,np,Mr,Mp,vo,vu,f,rfl,hbt,hLf,Yw⟩⟩
 ·have HP:Hid (Jb (dM st rs ts) w (.returned (.slice none 0 0)) w1):=⟨⟨[],_,rfl,by rw[o8 hr],List.Pairwise.nil,World.ownsRow_nil _ _ _ _⟩,hb1⟩;clear hb1 HC hr;go_wp2;go_ret;exact HP.out
 have hsd:aD (ae rs)=true/\ts.length<=40:=by
  unfold cz dX at hr;simp only[Vw,VH]at hr;exact⟨hr.1.1,hr.1.2.1⟩
 obtain⟨hsd,ht40⟩:=hsd;have hSP:=aG.1 hsd;obtain⟨h6,XA,-⟩:=aW hSP.1;have hE36:=FK h6 XA;have hfk:∀k∈au (ae rs),f k+1<=(au (ae rs)).length:=fun k hk=>by
  obtain⟨g,hg,hb⟩:=hLf.sol.few (kJ hSP.2.1);have h1:=hLf.low k hk g hg;have h2:=hb k hk;omega
 have hc0:0<=jT (fC f rs):=(FZ (fC f rs) 0).1;have hcl:jT (fC f rs)<=(au (ae rs)).length:=Mg _ _ _ (by omega) fun x hx=>by
  obtain⟨k,hk,e,-⟩:=UB hx;rw[e];exact hfk k hk
 obtain⟨N,hN⟩:∃N:Nat,jT (fC f rs)=N:=⟨(jT (fC f rs)).toNat,by omega⟩;have hkN:∀k∈au (ae rs),f k<(N:Int):=fun k hk=>by
  obtain⟨x,hx,e⟩:=Tc (f:=f) hk;have h2:=(FZ (fC f rs) 0).2 x hx;have h3:x.1.2+1<=jT (fC f rs):=h2;rw[e,hN]at h3;omega
 have hLs:iG (ae rs) ts f (fF ts) (di ts) N=dM st rs ts:=by
  rw[jw hr];unfold Ld;rw[<-Ei (fun k hk=>hLf.same (Yf.out hsd) k hk)];exact(MV hkN _ (by omega)).symm
 rw [hN]at Yw;have Ya:=aY (Ox w1 rs ad D br bp bt N nr Mr f ts (fF ts) (di ts) np Mp vo vu Yw (HS.out.below hb1) (by omega) (by have:=sM ts;omega) (by have:=qo ts;omega) hE36 (fun k=>by
  have:(G.lookL (fC f rs) k).length<=(fC f rs).length:=WJ _ _;rw[Td]at this;omega) hSP.1 WT.out (by omega) (uS WT.out) (rQ WT.out) (Ep ZK.out))
 rw[hLs]at Ya;have hGO:=ny f rs ts (fF ts) (di ts) N;rw[hLs]at hGO;have HB1:=aY hb1;have hll:=hGO.len (by have:=sM ts;omega) hE36 (by have:=qo ts;omega);have HFF:Hid (∀x∈dM st rs ts,x.fits):=fun x hx=>by
  have h1:=hGO.sub x hx;unfold KU at h1;obtain⟨o,ho,h1⟩:=VP.1 h1;obtain⟨k,hk,h1⟩:=VP.1 h1;obtain⟨u,hu,rfl⟩:=VE.1 h1;exact⟨(uS WT.out o ho).1,(uS WT.out o ho).2,Ep ZK.out k hk,(rQ WT.out u hu).1,(rQ WT.out u hu).2⟩
 obtain⟨L0,hL0⟩:=eQx (dM st rs ts);rw[<-hL0]at Ya hll HFF;have HL0:=aY hL0;clear HC hb1 Yw hLf hfk hc0 hcl hN hkN hLs hGO hSP hsd h6 XA hE36 hr hbt hL0;go_wp2_with fail;refine Ya.out.mono ?_;rintro e w2 ⟨⟨v,rfl,hown⟩,hb2⟩;have HB2:=aY (HB1.out.trans (hb2.mono HB1.out.size));have WY:=aY (fI hown HB1.out.size);clear Ya hown hb2 HB1;cases L0 with
 | nil =>
  obtain⟨adF,Yl,rfl,-⟩:=BC WY.out;have HSN:=aY (NN adF Yl (.func (.func 58) #[] #[]) w2);have HP:Hid (Jb [] w (.returned (.slice adF 0 Yl)) w2):=⟨⟨[],_,rfl,List.Perm.refl _,List.Pairwise.nil,WY.out⟩,HB2.out⟩;clear WY HB2;go_wp2_with fail;refine HSN.out.mono ?_;rintro e w3 ⟨rfl,rfl⟩;go_wp2;go_ret;rw[<-HL0.out];exact HP.out
 | cons x0 xs0 =>
  obtain⟨L1,hL1⟩:=eQx (x0::xs0);obtain⟨g,Yl,rfl⟩:=ownsRow_succ (k:=xs0.length) WY.out;have hgl:=(WY.out.lt g rfl).1;have HSF:=aY (NM w.heap.size g Yl (x0::xs0) w2 HFF.out WY.out (by simp) (by omega));rw[<-hL1]at HSF;have hlL:xs0.length+1=L1.length:=by rw[hL1];rfl
  rw[<-hL1]at HL0;rw[hlL];clear WY HFF hll hL1 hlL;go_wp2_with fail;refine HSF.out.mono ?_;rintro e w3 ⟨rfl,ys,hp,hso,hrow,hcg⟩;have HP:Hid (Jb L1 w (.returned (.slice (some ⟨g,0,none⟩) L1.length Yl)) w3):=⟨⟨ys,_,rfl,hp,hso,by rw[hp.length_eq];exact hrow⟩,HB2.out.trans (hcg.below (fun k hk=>by rw[hk];exact hgl) HB2.out.size)⟩;clear hp hso hrow hcg HB2 HSF;go_wp2;go_ret;rw[<-HL0.out];exact HP.out
end
def okF(x:Fc):Prop:=bH x.a x.b x.r x.c x.d ⟨#[]⟩=true
theorem Te{a b:ByteArray}(h:a.toList=b.toList):a=b:=by
 rw[Go.ByteArray.toList_eq,Go.ByteArray.toList_eq]at h;cases a;cases b;congr;exact Array.toList_inj.1 h
theorem nY{x y:Fc}(hx:okF x)(hy:okF y):QM x y=Op.bytesLess (F6 x) (F6 y):=by
 unfold okF at hx hy;unfold QM gJ F6;rw[hx,hy];rfl
theorem Mi{x y:Fc}(hx:okF x)(hy:okF y)(h:F6 x=F6 y):x=y:=by
 obtain⟨h1,h2,h3,h4,h5,-⟩:=yw hx hy (Te h);cases x;cases y;simp only at h1 h2 h3 h4 h5;subst h1 h2 h3 h4 h5;rfl
theorem Vq{L:Q04}(h:∀x∈L,okF x):OrdO QM L where
 trans x hx y hy z hz h1 h2:=by
  rw[nY (h x hx) (h y hy)]at h1;rw[nY (h y hy) (h z hz)]at h2;rw[nY (h x hx) (h z hz)];exact Ls.lt_trans _ _ _ h1 h2
 asymm x hx y hy h1:=by
  rw[nY (h x hx) (h y hy)]at h1;rw[nY (h y hy) (h x hx)];exact Ls.lt_asymm _ _ h1
 total x hx y hy hne:=by
  rw[nY (h x hx) (h y hy),nY (h y hy) (h x hx)];exact Ls.lt_total _ _ fun e=>hne (Mi (h x hx) (h y hy) e)
theorem Tf{L L0:Q04}(hp:L.Perm L0)(hn:L0.Nodup)(hok:∀x∈L0,okF x)(hs:L.Pairwise (fun x y=>Op.bytesLess (F6 y) (F6 x)=false)):L=Dr QM L0:=by
 refine(PK (Vq hok) hn ?_ hp).symm;have hd:L.Nodup:=hp.nodup_iff.2 hn;refine(List.Pairwise.and hd hs).imp_of_mem fun {x y} hx hy h=>?_;have ox:=hok x (hp.mem_iff.1 hx);have oy:=hok y (hp.mem_iff.1 hy);rw[nY ox oy];rcases Ls.lt_total (F6 x) (F6 y) (fun e=>h.1 (Mi ox oy e)) with h1|h1
 ·exact h1
 rw[h.2]at h1;cases h1
theorem Tg{ts:Q05}(h:dX ts=true):∀t∈ts,t.ok=true:=fun t ht=>by
 unfold dX at h;have h:=(Bool.and_eq_true_iff.1 h).2;unfold uA at h;rw[VF]at h;obtain⟨i,hi,rfl⟩:=Wj.1 ht;have h1:=h i (List.mem_range.2 hi);unfold vI at h1;rw[VG hi]at h1;exact(Bool.and_eq_true_iff.1 h1).1
theorem TJ{ts:Q05}(hf:∀t∈ts,t.ok=true){o:Al}(h:∃t∈ts,o=⟨t.a,t.b⟩\/o=⟨t.c,t.d⟩):fB o.t o.s=true:=by
 obtain⟨t,ht,h⟩:=h;have h1:=hf t ht;unfold Tp.ok bH at h1;simp only[Vw]at h1;rcases h with rfl|rfl
 ·exact h1.1.1.1
 exact h1.1.2
theorem Ti{rs:Q06}(hs:aZ (ae rs)=true){k:Q01}(hk:k∈au (ae rs)):aP k.2=true:=by
 unfold au at hk;obtain⟨T,hT,hk⟩:=VP.1 hk;unfold jZ at hk;obtain⟨r,hr,rfl⟩:=VE.1 hk;exact(uE hs hT hr).1
section
variable  [DecidableEq Fc]
theorem Lf{st:Q00}{rs:Q06}{ts:Q05}{x:Fc}(hx:x∈dM st rs ts):∃o∈fF ts,∃k∈au (ae rs),∃u∈di ts,x=⟨o.t,o.s,k.2,u.t,u.s⟩:=by
 cases hr:cz (rO rs) rs ts;case false=>rw[o8 hr]at hx;cases hx
 rw[jw hr]at hx;have h1:=(ny st rs ts (fF ts) (di ts) _).sub x hx;unfold KU at h1;obtain⟨o,ho,h1⟩:=VP.1 h1;obtain⟨k,hk,h1⟩:=VP.1 h1;unfold sS at h1;obtain⟨u,hu,rfl⟩:=VE.1 h1;exact⟨o,ho,k,hk,u,hu,rfl⟩
theorem rR{st:Q00}{rs:Q06}{ts:Q05}:(dM st rs ts).Nodup:=by
 cases hr:cz (rO rs) rs ts;case false=>rw[o8 hr];exact List.nodup_nil
 rw[jw hr];exact(ny st rs ts (fF ts) (di ts) _).once
theorem OC{st:Q00}{rs:Q06}{ts:Q05}:∀x∈dM st rs ts,okF x:=fun x hx=>by
 cases hr:cz (rO rs) rs ts;case false=>rw[o8 hr]at hx;cases hx
 obtain⟨o,ho,k,hk,u,hu,rfl⟩:=Lf hx;unfold cz at hr;simp only[Vw]at hr;have hts:=Tg hr.1.2;have ho1:fB o.t o.s=true:=by
  rcases Cf ts [] o ho with h|h
  ·cases h
  exact TJ hts h
 have hu1:fB u.t u.s=true:=by
  rcases Cg ts [] u hu with h|h
  ·cases h
  exact TJ hts h
 have hn:=Ti (aG.1 hr.1.1).1 hk;show bH o.t o.s k.2 u.t u.s ⟨#[]⟩=true;unfold bH;rw[ho1,hu1,hn];unfold uW;rw[Go.ByteArray.toList_eq];rfl
def lu(st:Q00)(rs:Q06)(ts:Q05):List Fc:=Dr QM (dM st rs ts)
theorem Cj(st:Q00)(rs:Q06)(ts:Q05):(lu st rs ts).length=(dM st rs ts).length:=(jr _).length_eq
theorem tZ{st:Q00}{rs:Q06}{ts:Q05}{w:af}{e:Ending}{w':af}(h:Jb (dM st rs ts) w e w'):(∃v,e=.returned v/\w'.ownsRow w.heap.size 52 5 v (lu st rs ts).length (iC (lu st rs ts)))/\ag w w':=by
 obtain⟨⟨L,v,he,hp,hs,hown⟩,hb⟩:=h;obtain rfl:=Tf hp rR OC hs;exact⟨⟨v,he,hown⟩,hb⟩
end
end Go.Proofs.YtojjoblnpldniaaGreat
namespace Go.Proofs.YtojjoblnpldniaaGreat.fnPruned
open Go.Sort
open ChangeShapes WideShapes ChangeAt RowKit
open Pl
set_option linter.unusedVariables false
def kY(rs qs:Q06)(t:Tp):Bool:=jU (ae qs) t.a t.b t.r t.c t.d t.s&&jU (ae rs) t.a t.b t.r t.c t.d t.s
def other(typ rel:ByteArray)(f:Fc):Bool:=!fM f.a f.r typ rel
theorem Ck{ts:Q0b}{typ rel:ByteArray}{D:Option (List Ty)}(hD:D=ic ts typ rel)(h:true=D.isSome):D=some (jc typ rel ts)/\ak ts typ rel≠[]/\FQ (iM ts typ rel) ts=false/\aD ts=true/\aD (jc typ rel ts)=true:=by
 rw[hD]at h⊢;unfold ic at h⊢;by_cases hc:(aD ts && !(ak ts typ rel).isEmpty && !FQ (iM ts typ rel) ts&&aD (jc typ rel ts))=true
 ·rw[if_pos hc];simp only[Vw,Bool.not_eq_true']at hc;obtain⟨⟨⟨h1,h2⟩,h3⟩,h4⟩:=hc;exact⟨rfl,(fun e=>by rw[e]at h2;cases h2),h3,h1,h4⟩
 rw[if_neg hc]at h;cases h
theorem Cm{rs:Q06}{ts:Q05}(hd:aD (ae rs)=true)(ht:dX ts=true)(h:∀t∈ts,jU (ae rs) t.a t.b t.r t.c t.d t.s=true):cz (rO rs) rs ts=true:=by
 unfold cz;rw[hd,ht,Bool.true_and,Bool.true_and,VF];intro t hm;have:=h t hm;unfold jU at this;rw[Vw]at this;exact this.2
theorem OD{typ rel:ByteArray}{f:Fc}:other typ rel f=true↔¬UG typ rel f:=by
 unfold other UG;rw[Bool.not_eq_true',<-Bool.not_eq_true,nz]
theorem Lg{A B:Q04}{p:Fc->Bool}(hA:A.Nodup)(hB:B.Nodup)(h:∀x,x∈B↔x∈A/\p x=true):(A.filter p).length=B.length :=
 ((List.perm_ext_iff_of_nodup (hA.filter _) hB).2 fun x=>by rw[Wo,h]).length_eq
theorem yV{α:Type}{p:α->Bool}{xs:List α}{k:Nat}(h:k<xs.length):(xs.take (k+1)).filter p=(xs.take k).filter p++if p xs[k] then [xs[k]] else []:=by
 rw[Vx h,WF];cases hp:p xs[k]<;>simp[hp]
theorem Eu{w w':af}{base n:Nat}{v:Value}{xs:Q03}(h:w.ownsRow base 29 6 v n xs)(hb:ag w w'):w'.ownsRow base 29 6 v n xs :=
 h.kept (row:=none) ⟨hb.os,hb.tape,hb.output,hb.size,fun i hi _=>hb.block i hi⟩ (by
  cases h:v.ownBlock with
  | none=>exact .inl rfl
  | some g=>exact .inr (by simp))
structure St(w:World)(Yk adN:Q02)(rs qs:Q06)(W:World):Prop where
 bel:ag w W
 sl:jK W Yk rs
 sn:jK W adN qs
theorem St.later{w W W':af}{Yk adN:Q02}{rs qs:Q06}(h:St w Yk adN rs qs W)(hb:ag W W'):St w Yk adN rs qs W' :=
 ⟨h.bel.trans (hb.mono h.bel.size),h.sl.below hb,h.sn.below hb⟩
set_option maxRecDepth 100000 in
theorem walk[DecidableEq Fc](ad:Q02)(len cap:Nat)(w:af)(h:Bytes w ad len):
  Calls prog 6 #[.slice ad len cap] w fun e w'=>e=.returned (.bool true)/\ag w w':=by
 obtain⟨iT,Zg,Zh,Zi,Zj⟩:=info_parts (P:=prog) (e:=29) (z:=.agg #[.string ⟨#[]⟩,.string ⟨#[]⟩,.string ⟨#[]⟩,.string ⟨#[]⟩,.string ⟨#[]⟩,.string ⟨#[]⟩]) (size:=6) (bytes:=96) (by kernel_rfl);have HIT:Hid (prog.info? 29=some iT/\iT.zero=some (.agg #[.string ⟨#[]⟩,.string ⟨#[]⟩,.string ⟨#[]⟩,.string ⟨#[]⟩,.string ⟨#[]⟩,.string ⟨#[]⟩])/\iT.size=6/\iT.bytes=96):=⟨Zg,Zh,Zi,Zj⟩;have H:=dG h;clear h Zg Zh Zi Zj;go_enter func6,ntmps6;go_wp2_with fail;refine(RQ ad len cap w).mono ?_;rintro e w0 ⟨rfl,rfl⟩;by_cases hbig:(1048576:Int)<(len:Int)
 ·go_wp2;go_ret;exact⟨rfl,Vv _ _⟩
 go_wp2_with fail;refine(BR ad len cap _ H.out).mono ?_;rintro e w1 ⟨v,rs,typ,rel,rfl,hT,⟨hG1,hG2,hG3⟩,ht20,hr20,hb1⟩;obtain⟨Yk,YA,rfl,hs1,hcp⟩:=hT.read;have HB1:=dG hb1;have HS1:=dG hs1;have hlen:rs.length<=1048576:=by omega
 have hrm:rel.size<=maxLen:=by unfold maxLen;omega
 have ZL:typ.size<=maxLen:=by unfold maxLen;omega
 have HL:=dG hG2;have HF:=dG hG3;have HC:=dG hcp;obtain⟨D,hD⟩:=eQx (ic (ae rs) typ rel);have HDD:=dG hD;clear hT hG2 hG3 hcp hb1 hs1 hbig hr20 ht20 hD;go_wp2_with fail;refine(BU Yk YA rs typ rel _ hlen HS1.out HL.out HF.out HC.out ZL hrm).mono ?_;rintro e w2 ⟨vn,qs,rfl,hqs,hTn,hb2⟩;rw[<-HDD.out]at hqs ⊢;obtain⟨adN,capN,rfl,hsn,hcn⟩:=hTn.read;have K2:Hid (St w0 Yk adN rs qs w2):=⟨HB1.out.trans (hb2.mono HB1.out.size),HS1.out.below hb2,hsn⟩;have Xy:=dG hcn;have HQS:=dG hqs;clear hTn hsn hcn hqs hb2 HB1 HS1;go_wp2_with fail;refine(BV Yk YA rs typ rel _ hlen K2.out.sl HL.out HF.out).mono ?_;rintro e w3 ⟨vm,ms,rfl,hms,hTm,hb3⟩;rw[<-HDD.out]at hms ⊢;obtain⟨adM,capM,rfl,hsm,-⟩:=hTm.read;have K3:=dG (K2.out.later hb3);have YL:=dG hsm;have HMS:=dG hms;have HQM:Hid (ae qs=ae ms):=HQS.out.trans hms.symm;have HLQ:Hid (ms.length=qs.length):=by show _=_;rw[<-df ms,<-df qs,HQM.out]
 obtain⟨b,hbD⟩:=eQx D.isSome;have YO:=dG hbD
 -- both answers are light and fit
 have hgood:∀zs:List TR,ae zs=D.getD []->zs.length<=1048576/\(∀r∈zs,r.light)/\∀r∈zs,r.fits:=by
  intro zs hz;cases b;case false=>
   have:D=none:=by cases hD:D with
    | none=>rfl
    | some x=>rw[hD]at hbD;cases hbD
   rw[this]at hz;have hz0:zs=[]:=VM.1 (by rw[<-df zs,hz];rfl);subst hz0;exact⟨Vy _,(fun r hr=>by cases hr),(fun r hr=>by cases hr)⟩
  have h1:=(Ck HDD.out hbD).1;rw[h1]at hz;refine⟨?_,Eg hz HL.out,IL hz HF.out⟩;rw[<-df zs,hz];show(jc typ rel (ae rs)).length<=_;unfold jc;rw[Wp,df];exact hlen
 obtain⟨hnl,hn1,hn2⟩:=hgood qs HQS.out;obtain⟨Xh,hm1,hm2⟩:=hgood ms HMS.out;have HNL:=dG hn1;have HNF:=dG hn2;have HML:=dG hm1;have HMF:=dG hm2;rw[<-hbD];clear hTm hsm hms hb3 K2 hbD hgood hn1 hn2 hm1 hm2;have hbb:(b != b)=false:=by simp
 go_wp2_with fail;refine(uR adN capN qs _ hnl K3.out.sn HNL.out HNF.out Xy.out).mono ?_;rintro e w4 ⟨rfl,hb4⟩;have K4:=dG (K3.out.later hb4);have HSM4:=dG (YL.out.below hb4);clear hb4 K3 YL;go_wp2_with fail;refine(uQ adM capM ms _ Xh HSM4.out HML.out HMF.out).mono ?_;rintro e w5 ⟨rfl,hb5⟩;have K5:=dG (K4.out.later hb5);clear hb5 K4 HSM4;rw[<-HQM.out];obtain⟨X,hX⟩:=eQx (iL (ae qs));rw[<-hX];clear hX;have hxx:(X.toList != X.toList)=false:=by simp
 cases b;case false=>
  have HBe:=dG K5.out.bel;rw[HLQ.out];go_wp2;go_ret;exact⟨by simp,HBe.out⟩
 obtain⟨hD1,hin,hno,hsd,hsd2⟩:=Ck HDD.out YO.out;have HCUT:Hid (ae qs=jc typ rel (ae rs)):=by show _=_;rw[HQS.out,hD1];rfl
 have HIN:=dG hin;have Yp:=dG hno;have HSD:=dG hsd;have HSD2:Hid (aD (ae qs)=true):=by show _=_;rw[HCUT.out];exact hsd2
 clear hD1 hin hno hsd hsd2;go_wp2_with fail;refine(CG ad len cap _ (H.out.below K5.out.bel)).mono ?_;rintro e w6 ⟨v',rs',g,c,ts,rfl,-,-,hl12,hsh,hown,hb6⟩;obtain⟨hrow,hg,hgc,-⟩:=qd hown rfl;obtain⟨W7,Z6⟩:=eQx (w6.alloc (.cells #[] 29));have hb7:ag w6 W7:=by rw[Z6];exact(Vv _ _).alloc (Vu _) _
 have HTU:Hid (Sl w6 (some ⟨g,0,none⟩) ts):=.inr ⟨g,0,rfl,hg,hrow⟩;have K6:=dG (K5.out.later hb6);have HB7:=dG hb7;have WT:=dG hsh.fits;have HOW:Hid (W7.ownsRow w6.heap.size 29 6 (.slice (some ⟨w6.heap.size,0,none⟩) 0 0) ((ts.take 0).filter (kY rs qs)).length (bq ((ts.take 0).filter (kY rs qs)))):=by
  show World.ownsRow _ _ _ _ _ _ _;rw[Z6];exact World.ownsRow_lit w6 #[] 0 (Vu _) (by unfold maxLen;omega) (by simp)
 clear hsh hown hb6 hrow hg hgc hb7 K5;go_wp2_with fail;rw[<-Z6];clear Z6;go_loopw[12,13] (fun v i wr=>∃k:Nat,k<=ts.length/\i=.int .i64 k/\Hid (wr.ownsRow w6.heap.size 29 6 v ((ts.take k).filter (kY rs qs)).length (bq ((ts.take k).filter (kY rs qs))))/\Hid (ag w6 wr)) (fun _ i _=>ts.length-(intOf i).toNat);case atStart=>exact⟨0,Vy _,rfl,HOW,HB7⟩
 clear HOW HB7;obtain⟨k,hk,rfl,HO,HB⟩:=hrel;have hk1:=bI k;by_cases hkl:k<ts.length
 ·have hk2:(k:Int)<(ts.length:Int):=by omega
  rcases HTU.out.below HB.out with hnil|⟨b,off,WR,hb,hr⟩
  ·rw[hnil]at hkl;simp at hkl
  injection WR with WR;injection WR with e1 e2;subst e1;subst e2;obtain⟨t0,t1,t2,t3,t4,t5⟩:=hr k hkl;simp only[VW]at t0 t1 t2 t3 t4 t5;obtain⟨f0,f1,f2,f3,f4,f5⟩:=WT.out _ (Vs hkl);have HUP:=dG (yV (p:=kY rs qs) hkl);have hdl:((ts.take k).filter (kY rs qs)).length<=12:=Vz (List.length_filter_le _ _) (by rw[V9];omega);obtain⟨x,hx⟩:=eQx (ts[k]);rw[<-hx]at t0 t1 t2 t3 t4 t5 f0 f1 f2 f3 f4 f5 HUP;have K8:=dG (K6.out.later HB.out);clear hr hx;go_wp2_with fail;refine(wS adN capN qs x.a x.b x.r x.c x.d x.s _ hnl K8.out.sn HNL.out HNF.out Xy.out f0 f1 f2 f3 f4 f5).mono ?_;rintro e w8 ⟨rfl,hb8⟩;have K9:=dG (K8.out.later hb8);have HB8:=iX HB hb8;have HO8:=dG (Eu HO.out hb8);have hg8:g<w8.heap.size:=Vt hb hb8.size;replace t0:=(hb8.cell (p:=⟨g,_,none⟩) hb).trans t0;replace t1:=(hb8.cell (p:=⟨g,_,none⟩) hb).trans t1;replace t2:=(hb8.cell (p:=⟨g,_,none⟩) hb).trans t2;replace t3:=(hb8.cell (p:=⟨g,_,none⟩) hb).trans t3;replace t4:=(hb8.cell (p:=⟨g,_,none⟩) hb).trans t4;replace t5:=(hb8.cell (p:=⟨g,_,none⟩) hb).trans t5;clear hb8 HB HO K8 hb;cases h1:jU (ae qs) x.a x.b x.r x.c x.d x.s;case false=>
   have HE:Hid ((ts.take (k+1)).filter (kY rs qs)=(ts.take k).filter (kY rs qs)):=by show _=_;rw[HUP.out,if_neg (by unfold kY;rw[h1];simp),Wt]
   clear h1;go_wp2;go_roundw;case rel=>exact⟨k+1,by omega,by go_num,by rw[HE.out];exact HO8,HB8⟩
   simp[intOf]<;>omega
  have H1:=dG h1;clear h1;go_wp2_with fail;refine(wS Yk YA rs x.a x.b x.r x.c x.d x.s _ hlen K9.out.sl HL.out HF.out HC.out f0 f1 f2 f3 f4 f5).mono ?_;rintro e w9 ⟨rfl,XZ⟩;have HB9:=iX HB8 XZ;have HO9:=dG (Eu HO8.out XZ);replace t0:=(XZ.cell (p:=⟨g,_,none⟩) hg8).trans t0;replace t1:=(XZ.cell (p:=⟨g,_,none⟩) hg8).trans t1;replace t2:=(XZ.cell (p:=⟨g,_,none⟩) hg8).trans t2;replace t3:=(XZ.cell (p:=⟨g,_,none⟩) hg8).trans t3;replace t4:=(XZ.cell (p:=⟨g,_,none⟩) hg8).trans t4;replace t5:=(XZ.cell (p:=⟨g,_,none⟩) hg8).trans t5;clear XZ HB8 HO8 K9 hg8;cases h2:jU (ae rs) x.a x.b x.r x.c x.d x.s;case false=>
   have HE:Hid ((ts.take (k+1)).filter (kY rs qs)=(ts.take k).filter (kY rs qs)):=by show _=_;rw[HUP.out,if_neg (by unfold kY;rw[h2];simp),Wt]
   clear h2;go_wp2;go_roundw;case rel=>exact⟨k+1,by omega,by go_num,by rw[HE.out];exact HO9,HB9⟩
   simp[intOf]<;>omega
  have HE:Hid ((ts.take (k+1)).filter (kY rs qs)=(ts.take k).filter (kY rs qs)++[x]):=by show _=_;rw[HUP.out,if_pos (by unfold kY;rw[h2,H1.out];rfl)]
  clear h2;obtain⟨W6,YH⟩:=eQx (w9.alloc (.cells #[.string x.a,.string x.b,.string x.r,.string x.c,.string x.d,.string x.s] 29));have Yy:Hid (W6.ownsRow w6.heap.size 29 6 u12 ((ts.take k).filter (kY rs qs)).length (bq ((ts.take k).filter (kY rs qs)))):=by show World.ownsRow _ _ _ _ _ _ _;rw[YH];exact HO9.out.alloc _
  have XM:Hid (∀j u,x.row[j]?=some u->W6.cell? ((⟨w9.heap.size,0,none⟩:Addr).add j)=some u):=by rw[YH];exact xC w9 x
  have ZR:Hid (ag w9 W6):=by rw[YH];exact(Vv _ _).alloc (Vu _) _
  have HBD6:Hid (ag w6 W6):=HB9.out.trans (ZR.out.mono HB9.out.size);have Z4:Hid (w6.heap.size<=W6.heap.size):=HBD6.out.size;go_wp2_with(at_builtin;rw[<-YH];clear YH;refine wpList_append_own_at _ rfl _ _ 25 rfl w6.heap.size 29 iT (.agg #[.string ⟨#[]⟩,.string ⟨#[]⟩,.string ⟨#[]⟩,.string ⟨#[]⟩,.string ⟨#[]⟩,.string ⟨#[]⟩]) 6 96 underlying25 HIT.out.1 HIT.out.2.1 HIT.out.2.2.1 HIT.out.2.2.2 rfl (by decide) u12 _ (bq ((ts.take k).filter (kY rs qs))) rfl Yy.out ⟨w9.heap.size,0,none⟩ 1 1 x.row rfl rfl XM.out (vH _) (by unfold maxLen;omega) (by omega) Z4.out ?_);intro v7 w7 XK Zu _ _;have HB7:Hid (ag w6 w7):=HBD6.out.grown Zu HBD6.out.size (fun j hj=>(Yy.out.lt j hj).1);have HO7:Hid (w7.ownsRow w6.heap.size 29 6 v7 ((ts.take (k+1)).filter (kY rs qs)).length (bq ((ts.take (k+1)).filter (kY rs qs)))):=by
   show World.ownsRow _ _ _ _ _ _ _;rw[HE.out,uz,VD];exact XK
  clear XK Zu t0 t1 t2 t3 t4 t5;go_wp2;go_roundw;case rel=>exact⟨k+1,by omega,by go_num,HO7,HB7⟩
  simp[intOf]<;>omega
 obtain rfl:k=ts.length:=by omega
 have hown:=HO.out;rw[VI]at hown;have hks:(ts.filter (kY rs qs)).length<=12:=Vz (List.length_filter_le _ _) hl12;have HKF:Hid (∀t∈ts.filter (kY rs qs),t∈ts/\kY rs qs t=true):=fun t ht=>Wo.1 ht;obtain⟨ks,hkk⟩:=eQx (ts.filter (kY rs qs));rw[<-hkk]at hown hks HKF;obtain⟨ad7,cap7,hv,hsl,-⟩:=LA hown rfl;subst hv;have Y4:=dG hsl;have K8:=dG (K6.out.later HB.out);have HKT:Hid (∀t∈ks,t.fits):=fun t ht=>WT.out t (HKF.out t ht).1;obtain⟨w8,hw8⟩:=eQx wr;rw[<-hw8]at K8 Y4 ⊢;clear hown hsl hkk hw8 HO HB K6 HTU hk1 hl12;go_wp2_with fail;refine(oM ad7 cap7 ks _ (by unfold maxLen;omega) Y4.out HKT.out).mono ?_;rintro e w9 ⟨rfl,XZ⟩;have K9:=dG (K8.out.later XZ);have HSL9:=dG (Y4.out.below XZ);clear XZ K8 Y4;cases htb:dX ks;case false=>
  have HBe:=dG K9.out.bel;clear htb;go_wp2;go_ret;exact⟨rfl,HBe.out⟩
 have HR1:Hid (cz (rO rs) rs ks=true):=Cm HSD.out htb fun t ht=>by have:=(HKF.out t ht).2;unfold kY at this;rw[Vw]at this;exact this.2
 have HR2:Hid (cz (rO qs) qs ks=true):=Cm HSD2.out htb fun t ht=>by have:=(HKF.out t ht).2;unfold kY at this;rw[Vw]at this;exact this.1
 obtain⟨st,hst⟩:=TF (ae rs);obtain⟨st2,hst2⟩:=TF (ae qs);obtain⟨hP1,hP2⟩:=F4 hst hst2 HCUT.out Yp.out HIN.out HR1.out HR2.out;have HST:=dG hst;have HST2:=dG hst2;have HAB:Hid (∀x,x∈lu st2 qs ks↔x∈lu st rs ks/\other typ rel x=true):=by
  intro x;unfold lu;rw[(jr _).mem_iff,(jr _).mem_iff,OD];exact⟨fun h=>⟨(hP2 x (hP1 x h)).2 h,hP1 x h⟩,fun h=>(hP2 x h.2).1 h.1⟩
 have hlA:(lu st rs ks).length<=115200:=by rw[Cj];exact Ch st
 have hlB:(lu st2 qs ks).length<=115200:=by rw[Cj];exact Ch st2
 have HNA:Hid (lu st rs ks).Nodup:=(jr _).nodup_iff.2 rR;have HNB:Hid (lu st2 qs ks).Nodup:=(jr _).nodup_iff.2 rR;clear htb hst hst2 hP1 hP2 HR1 HR2 HKF;go_wp2_with fail;refine(tY st Yk YA rs ad7 cap7 ks _ hlen K9.out.sl HL.out HF.out HC.out (by omega) HSL9.out HKT.out HST.out).mono ?_;intro e w10 hp10;obtain⟨⟨v10,rfl,ho10⟩,hb10⟩:=tZ hp10;obtain⟨A,hA⟩:=eQx (lu st rs ks);rw[<-hA]at ho10 hlA HAB HNA;obtain⟨adA,capA,rfl,hsA⟩:=BC ho10;have K10:=dG (K9.out.later hb10);have HSL10:=dG (HSL9.out.below hb10);have HSA:=dG hsA;clear hb10 hp10 ho10 hsA hA K9 HSL9;go_wp2_with fail;refine(tY st2 adN capN qs ad7 cap7 ks _ hnl K10.out.sn HNL.out HNF.out Xy.out (by omega) HSL10.out HKT.out HST2.out).mono ?_;intro e w11 hp11;obtain⟨⟨v11,rfl,ho11⟩,hb11⟩:=tZ hp11;obtain⟨B,hB⟩:=eQx (lu st2 qs ks);rw[<-hB]at ho11 hlB HAB HNB;obtain⟨adB,capB,rfl,hsB⟩:=BC ho11;have K11:=dG (K10.out.later hb11);have HSA11:=dG (HSA.out.below hb11);have HSB:=dG hsB;clear hb11 hp11 ho11 hsB hB K10 HSL10 HSA;go_wp2_with fail;go_loopw[16,17] (fun v i wr=>∃k:Nat,k<=A.length/\i=.int .i64 k/\v=.int .i64 (((A.take k).filter (other typ rel)).length:Int)/\Hid (ag w11 wr)) (fun _ i _=>A.length-(intOf i).toNat);case atStart=>exact⟨0,Vy _,rfl,by simp,Vv _ _⟩
 obtain⟨k,hk,rfl,rfl,HB⟩:=hrel;have hk1:=bI k;have hnk:((A.take k).filter (other typ rel)).length<=115200:=Vz (List.length_filter_le _ _) (by rw[V9];omega);by_cases hkl:k<A.length
 ·have hk2:(k:Int)<(A.length:Int):=by omega
  obtain⟨b,off,WR,⟨t0,t1,t2,t3,t4⟩,hbl⟩:=E5.at0 (HSA11.out.below HB.out) hkl;have HUP:=dG (yV (p:=other typ rel) hkl);have HMEM:Hid (other typ rel A[k]=true->gZ B A[k]=true):=fun h=>bW.2 ((HAB.out _).2 ⟨Vs hkl,h⟩);obtain⟨x,hx⟩:=eQx (A[k]);rw[<-hx]at t0 t1 t2 t3 t4 HUP HMEM;subst WR;obtain⟨n,hn⟩:=eQx (((A.take k).filter (other typ rel)).length);rw[<-hn]at hnk;have HN:=dG hn;rw[<-hn];clear hx hn hbl;have hca:(fM x.a x.r typ rel=true/\(x.a.toList==typ.toList)=true/\(x.r.toList==rel.toList)=true)\/(fM x.a x.r typ rel=false/\(x.a.toList==typ.toList)=false)\/(fM x.a x.r typ rel=false/\(x.a.toList==typ.toList)=true/\(x.r.toList==rel.toList)=false):=by
   unfold fM;cases (x.a.toList==typ.toList)<;>cases (x.r.toList==rel.toList)<;>simp
  rcases hca with⟨hc,h3,h4⟩|hc
  ·have HE:Hid (((A.take (k+1)).filter (other typ rel)).length=n):=by show _=_;rw[HUP.out,if_neg (by unfold other;rw[hc];simp),Wt,HN.out]
   clear hc;go_wp2;go_roundw;case rel=>exact⟨k+1,by omega,by go_num,by rw[HE.out],HB⟩
   simp[intOf]<;>omega
  have HO:Hid (other typ rel x=true):=by show _=_;unfold other;rcases hc with⟨hc,-⟩|⟨hc,-⟩<;>rw[hc]<;>rfl
  have HE:Hid (((A.take (k+1)).filter (other typ rel)).length=n+1):=by show _=_;rw[HUP.out,if_pos HO.out,VD,<-HN.out];rfl
  have HHF:=dG (HMEM.out HO.out);have hw:IntKind.i64.wrap ((n:Int)+1)=((n+1:Nat):Int):=by rw[IntKind.wrap_i64]<;>omega
  have XX:=dG (Ih adB capB B x wr (by omega) (HSB.out.below HB.out));rw[HHF.out]at XX;rcases hc with⟨-,h3⟩|⟨-,h3,h4⟩
  all_goals
   go_wp2_with fail;refine XX.out.mono ?_;rintro e w12 ⟨rfl,hb12⟩;have HB12:=dG (HB.out.trans (hb12.mono HB.out.size));clear hb12 HB XX t0 t1 t2 t3 t4;go_wp2;go_roundw;case rel=>exact⟨k+1,by omega,by go_num,by rw[HE.out];rfl,HB12⟩
   simp[intOf]<;>omega
 obtain rfl:k=A.length:=by omega
 have hcnt:=Lg HNA.out HNB.out HAB.out;rw[VI,hcnt];have K12:=dG (K11.out.later HB.out);obtain⟨w12,hw12⟩:=eQx wr;rw[<-hw12]at K12 ⊢;clear hcnt hw12 HB hnk K11;go_wp2_with fail;refine(CJ adN capN qs typ rel _ hnl K12.out.sn HNL.out HNF.out Xy.out ZL hrm HSD2.out (by rw[HCUT.out,sO,if_pos (nz.2 ⟨rfl,rfl⟩)])).mono ?_;rintro e w13 ⟨rfl,hb13⟩;have K13:=dG (K12.out.later hb13);clear hb13 K12;go_wp2_with fail;refine(cZ adN capN qs _ hnl K13.out.sn HNL.out HNF.out Xy.out).mono ?_;rintro e w14 ⟨rfl,hb14⟩;rw[HSD2.out];have HBe:=dG (K13.out.later hb14).bel;clear hb14 K13;go_wp2;go_ret;exact⟨by simp,HBe.out⟩
end Go.Proofs.YtojjoblnpldniaaGreat.fnPruned
