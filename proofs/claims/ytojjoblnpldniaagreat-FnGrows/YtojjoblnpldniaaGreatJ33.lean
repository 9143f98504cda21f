/- What is there is just what holds by all that is there. -/
import Derived.Test.YtojjoblnpldniaaGreatSq
import Derived.Test.YtojjoblnpldniaaGreatFactsQ
namespace Go.Proofs.YtojjoblnpldniaaGreat
set_option linter.unusedVariables false
set_option linter.unusedSectionVars false
open Pl
theorem xK{xs:Q0a}{o x:Al}:x∈eu xs o↔x∈xs\/x=o:=by
 unfold eu;split
 ·rename_i h;exact⟨.inl,fun h'=>h'.elim id fun e=>e ▸ PT.1 h⟩
 simp
theorem FU:∀(ts:Q05) (xs:Q0a) (o:Al),(o∈xs \/ ∃t∈ts,o=⟨t.a,t.b⟩\/o=⟨t.c,t.d⟩)->o∈ts.foldl fM xs
 | [],xs,o,h=>h.elim id fun⟨t,ht,_⟩=>by cases ht
 | t::ts,xs,o,h=>by
  refine FU ts (fM xs t) o ?_;unfold fM;simp only[xK];rcases h with h|⟨u,hu,h⟩
  ·exact .inl (.inl (.inl h))
  rcases VH.1 hu with rfl|hu
  ·rcases h with h|h
   ·exact .inl (.inl (.inr h))
   exact .inl (.inr h)
  exact .inr ⟨u,hu,h⟩
theorem L9:∀(ts:Q05) (xs:Q0a) (o:Al),(o∈xs \/ ∃t∈ts,t.s.toList.isEmpty=true/\o=⟨t.c,t.d⟩)->o∈ts.foldl cu xs
 | [],xs,o,h=>h.elim id fun⟨t,ht,_⟩=>by cases ht
 | t::ts,xs,o,h=>by
  refine L9 ts (cu xs t) o ?_;rcases h with h|⟨u,hu,hs,h⟩
  ·refine .inl ?_;unfold cu;split
   ·exact xK.2 (.inl h)
   exact h
  rcases VH.1 hu with rfl|hu
  ·refine .inl ?_;unfold cu;rw[if_pos (by simpa using hs)];exact xK.2 (.inr h)
  exact .inr ⟨u,hu,hs,h⟩
theorem pQ{l:Q05}{es:Q09}{truth known:Q04}{f:Fc}(h5:∀e∈es,e.kind=5->e.kids≠[])(hkn:∀g∈known,(⟨g.a,g.b⟩:Al)∈dW l/\(⟨g.c,g.d⟩:Al)∈bH l):∀(k n:Nat),dK l es truth f k known n=true->(⟨f.a,f.b⟩:Al)∈dW l/\(⟨f.c,f.d⟩:Al)∈bH l
 | 0,n,h=>by cases h
 | k+1,n,h=>by
  unfold dK at h;cases e:es[n]? with
  | none=>rw[e]at h;cases h
  | some x =>
   rw[e]at h;simp only at h;by_cases k1:x.kind=1
   ·rw[if_pos k1]at h;unfold eG at h;obtain⟨t,ht,h⟩:=VT.1 h;simp only[Vt,beq_iff_eq]at h;obtain⟨⟨⟨h1,h2⟩,h3⟩,h4⟩:=h;refine⟨FU _ _ _ (.inr ⟨t,ht,.inl (by rw[fZ h1,fZ h2])⟩),?_⟩;split at h4
    ·rename_i hs;simp only[Vt,beq_iff_eq]at h4;exact L9 _ _ _ (.inr ⟨t,ht,hs,by rw[fZ h4.1,fZ h4.2]⟩)
    exact(hkn _ (bY.1 h4)).2
   rw[if_neg k1]at h;by_cases k2:x.kind=2
   ·rw[if_pos k2]at h;have h2:=hkn _ (bY.1 h);exact h2
   rw[if_neg k2]at h;by_cases k3:x.kind=3
   ·rw[if_pos k3]at h;unfold fQ at h;obtain⟨t,ht,h⟩:=VT.1 h;simp only[Vt,beq_iff_eq]at h;obtain⟨⟨⟨h1,h2⟩,h3⟩,h4⟩:=h;exact⟨FU _ _ _ (.inr ⟨t,ht,.inl (by rw[fZ h1,fZ h2])⟩),(hkn _ (bY.1 h4)).2⟩
   rw[if_neg k3]at h;by_cases k4:x.kind=4
   ·rw[if_pos k4]at h;obtain⟨i,-,h⟩:=VT.1 h;exact pQ h5 hkn k _ h
   rw[if_neg k4]at h;by_cases k5:x.kind=5
   ·rw[if_pos k5]at h;obtain⟨i,hi⟩:=List.exists_mem_of_ne_nil _ (h5 x (WA e) k5);exact pQ h5 hkn k _ (VC.1 h i hi)
   rw[if_neg k5]at h;by_cases k6:x.kind=6
   ·rw[if_pos k6]at h;exact pQ h5 hkn k _ (Bool.and_eq_true_iff.1 h).1
   rw[if_neg k6]at h;cases h
theorem Rm{ts:Q05}(h:dH ts=true):∀t∈ts,t.ok=true:=fun t ht=>by
 unfold dH at h;simp only[Vt]at h;obtain⟨i,hi,rfl⟩:=Wl ht;have h1:=h.2;unfold sM at h1;have h2:=VC.1 h1 i (by simpa using hi);unfold vL at h2;rw[Vy hi]at h2;exact(Bool.and_eq_true_iff.1 h2).1
section
variable  [DecidableEq Fc]
theorem IQ(ts:Q0b)(l:Q05)(st:Q00)(xo xu:Q0a):∀N,kV ts l st xo xu N=ui (fu ts l) (fun n=>bF ts st xo xu (n:Int)) N
 | 0=>rfl
 | N+1=>by rw[iw,IQ ts l st xo xu N];rfl
theorem Ou{rs:Q06}(hsh:aY (af rs)=true)(a r:bQ):∀e∈az (af rs) a r,e.kind=5->e.kids≠[]:=by
 intro e he k5;cases hp:fF (af rs) a r with
 | none=>unfold az at he;rw[hp]at he;cases he
 | some es =>
  unfold az at he;rw[hp]at he;obtain⟨t0,ht0,r0,hr0,en,er,ee⟩:=nY hp;have hspec:=(uw hsh ht0 hr0).2;rw[ee]at hspec;have h4:es.all av=true:=by simp only[aK,Vt]at hspec;exact hspec.1.1.1.2
  have:=VC.1 h4 e he;unfold av at this;rw[if_neg (by omega),if_neg (by omega),if_neg (by omega),if_pos (.inr k5)]at this;simp only[Vt,VF]at this;intro h0;rw[h0]at this;simp at this
theorem FV{st:Q00}{rs:Q06}{ts:Q05}(hle:aN (af rs)=true->Least (af rs) st)(hr:aW (gV rs) rs ts=true)(f:Fc):df (dh st rs ts) f=fu (af rs) ts (dh st rs ts) f:=by
 have hr2:=hr;unfold aW at hr2;simp only[Vt]at hr2;have hSP:=bu.1 hr2.1.1;have YV:=hle hr2.1.1;have hfit:∀t∈ts,Q8 (af rs) t=true:=fun t ht=>by
  have h1:=VC.1 hr2.2 t ht;rw[<-Ee hr2.1.1 (Rm hr2.1.2 t ht)]at h1;exact h1
 have hL:=FM YV.sol hSP.1 hSP.2.1 hfit;have hen:∀k∈ak (af rs),hasB (af rs) k.1 k.2=true:=fun k hk=>by
  obtain⟨es,h1,h2⟩:=Io hSP.1 hk;rw[IB];unfold az;rw[h1];intro e;have e2:es=[]:=e;rw[e2]at h2;simp[aK]at h2
 have hq:∀n:Nat,∀g∈bF (af rs) st (dW ts) (bH ts) (n:Int),Ro (af rs) st g=(n:Int):=fun n g hg=>KR hen hg;have hsub:∀g∈dh st rs ts,(⟨g.a,g.b⟩:Al)∈dW ts/\(⟨g.c,g.d⟩:Al)∈bH ts:=fun g hg=>by
  rw[ig hr]at hg;have h1:=(kL st rs ts (dW ts) (bH ts) _).sub g hg;unfold Cw at h1;obtain⟨o,ho,h1⟩:=VJ.1 h1;obtain⟨k,hk,h1⟩:=VJ.1 h1;unfold jc at h1;obtain⟨u,hu,rfl⟩:=VG.1 h1;exact⟨ho,hu⟩
 rw[VL,bY];have e:dh st rs ts=ui (fu (af rs) ts) (fun n=>bF (af rs) st (dW ts) (bH ts) (n:Int)) ((ak (af rs)).length+1):=by
  rw[ig hr];exact IQ _ _ _ _ _ _
 constructor
 ·intro h;rw[e]at h ⊢;exact Mt hL hq h
 intro h;obtain⟨ho,hu⟩:=pQ (Ou hSP.1 f.a f.r) hsub _ _ h;have hne:az (af rs) f.a f.r≠[]:=fun h0=>by
  unfold fu at h;rw[h0]at h;cases h
 have hk:(f.a,f.r)∈ak (af rs):=rQ (by simpa using hne);have hp:=YV.sol.pos (f.a,f.r);have hlt:st (f.a,f.r)<((ak (af rs)).length:Int):=by
  refine Classical.byContradiction fun hc=>?_;exact absurd ⟨st,YV.sol⟩ (Jr (kG hSP.2.1) hk (YV.low _ hk) (by omega))
 rw[e]at h ⊢;refine Pm hL hq (n:=(st (f.a,f.r)).toNat) (by omega) ?_ h;unfold bF vC Ar jc;refine VJ.2 ⟨_,ho,VJ.2 ⟨(f.a,f.r),Wz.2 ⟨hk,?_⟩,VG.2 ⟨_,hu,rfl⟩⟩⟩;simp only[BEq.rfl,Bool.true_and,VF];omega
end
theorem Ma(ts:Q05)(t:Tp):(gJ ts t).length=ts.length+1:=by
 induction ts with
 | nil=>rfl
 | cons x xs ih =>
  unfold gJ;split
  ·simp[ih]
  simp
theorem Cf{x y:Q04}{f:Fc}(h:∀g∈x,g∈y)(hf:df x f=true):df y f=true:=bY.2 (h f (bY.1 hf))
theorem FW{α:Type}{p q:α->Bool}{xs ys:List α}(hs:∀x∈xs,x∈ys)(h:∀x,p x=true->q x=true)(ha:xs.any p=true):ys.any q=true:=by
 obtain⟨x,hx,hp⟩:=VT.1 ha;exact VT.2 ⟨x,hs x hx,h x hp⟩
theorem uG{l l':Q05}{es:Q09}{truth truth':Q04}{f:Fc}(hl:∀t∈l,t∈l')(h6:∀e∈es,e.kind≠6):∀(k:Nat) (x y:Q04) (n:Nat),(∀g∈x,g∈y)->dK l es truth f k x n=true->dK l' es truth' f k y n=true
 | 0,_,_,_,_,h=>by cases h
 | k+1,x,y,n,hs,h=>by
  unfold dK at h⊢;cases e:es[n]? with
  | none=>rw[e]at h;cases h
  | some q =>
   rw[e]at h;simp only at h⊢;by_cases k1:q.kind=1
   ·rw[if_pos k1]at h⊢;unfold eG at h⊢;refine FW hl (fun t ht=>?_) h;simp only[Vt]at ht⊢;refine⟨ht.1,?_⟩;have h2:=ht.2;split at h2
    ·rename_i he;rw[if_pos he];exact h2
    rename_i he;rw[if_neg he];exact Cf hs h2
   rw[if_neg k1]at h ⊢;by_cases k2:q.kind=2
   ·rw[if_pos k2]at h ⊢;exact Cf hs h
   rw[if_neg k2]at h ⊢;by_cases k3:q.kind=3
   ·rw[if_pos k3]at h⊢;unfold fQ at h⊢;refine FW hl (fun t ht=>?_) h;simp only[Vt]at ht⊢;exact⟨ht.1,Cf hs ht.2⟩
   rw[if_neg k3]at h ⊢;by_cases k4:q.kind=4
   ·rw[if_pos k4]at h ⊢;exact FW (fun _ h=>h) (fun i hi=>uG hl h6 k x y _ hs hi) h
   rw[if_neg k4]at h ⊢;by_cases k5:q.kind=5
   ·rw[if_pos k5]at h ⊢;rw[VC]at h ⊢;exact fun i hi=>uG hl h6 k x y _ hs (h i hi)
   rw[if_neg k5,if_neg (h6 q (WA e))]at h;cases h
def IR(rs:Q06):Prop:=∀t∈rs,∀q∈t.rows,∀y∈q.rows,y.e.kind≠6
theorem Rn{rs:Q06}(h:IR rs)(a r:bQ):∀e∈az (af rs) a r,e.kind≠6:=by
 intro e he;cases hp:fF (af rs) a r with
 | none=>unfold az at he;rw[hp]at he;cases he
 | some es =>
  unfold az at he;rw[hp]at he;obtain⟨t0,ht0,r0,hr0,en,er,ee⟩:=nY hp;obtain⟨t,ht,rfl⟩:=VG.1 ht0;obtain⟨q,hq,rfl⟩:=VG.1 hr0;have he2:e∈aj q.rows:=by rw[show aj q.rows=es from ee];exact he
  obtain⟨y,hy,rfl⟩:=VG.1 he2;exact h t ht q hq y hy
section
variable  [DecidableEq Fc]
theorem KV{st:Q00}{rs:Q06}{ts ts':Q05}(hle:aN (af rs)=true->Least (af rs) st)(hr':aW (gV rs) rs ts'=true)(hsub:∀t∈ts,t∈ts')(hb:IR rs):∀f∈dh st rs ts,df (dh st rs ts') f=true:=by
 cases hr:aW (gV rs) rs ts;case false=>rw[jv hr];intro f hf;cases hf
 have hs:=LW (H:=fu (af rs) ts) (qs:=fun n=>bF (af rs) st (dW ts) (bH ts) (n:Int)) ((ak (af rs)).length+1);rw[<-LX,show kV (af rs) ts st (dW ts) (bH ts) ((ak (af rs)).length+1)=dh st rs ts by rw[ig hr];rfl]at hs;have key:∀(i:Nat) (hi:i<(dh st rs ts).length),df (dh st rs ts') (dh st rs ts)[i]=true:=by
  intro i
  induction i using Nat.strongRecOn with
  | ind i ih =>
   intro hi;have h1:=hs i hi;rw[FV hle hr'];refine uG hsub (Rn hb _ _) _ _ _ _ (fun g hg=>?_) h1;obtain⟨j,hj,rfl⟩:=List.mem_take_iff_getElem.1 hg;exact bY.1 (ih j (by omega) (by omega))
 intro f hf;obtain⟨i,hi,rfl⟩:=Wl hf;exact key i hi
theorem Ov{rs:Q06}{ts:Q05}{t:Tp}(h:aW (gV rs) rs ts=true)(hf:gV rs t=true)(ha:iH ts t=true):aW (gV rs) rs (kM ts t)=true/\∀x∈ts,x∈kM ts t:=by
 have hr:=h;unfold aW at hr⊢;unfold iH at ha;simp only[Vt]at hr ha;have hn:t ∉ ts:=fun hm=>by have:=ha.1.2;rw[AL.2 hm]at this;cases this
 obtain⟨hu,hok,hl⟩:=Lv hr.1.2;have h40:ts.length≠40:=by simpa using ha.2
 have hB:iH ts t=true:=by unfold iH;simp only[Vt];exact ha
 rw[rC hB];have hm:∀x∈gJ ts t,x=t\/x∈ts:=fun x hx=>(mq ts t x).1 hx;refine⟨?_,fun x hx=>(mq ts t x).2 (.inr hx)⟩;rw[hr.1.1,Qy (Lx hu hok ha.1.1.2 hn) (fun x hx=>?_) (by rw[Ma];omega),VC.2 fun x hx=>?_]
 ·rfl
 ·rcases hm x hx with rfl|h1
  ·exact hf
  exact VC.1 hr.2 x h1
 rcases hm x hx with rfl|h1
 ·exact ha.1.1.2
 exact hok x h1
end
end Go.Proofs.YtojjoblnpldniaaGreat
