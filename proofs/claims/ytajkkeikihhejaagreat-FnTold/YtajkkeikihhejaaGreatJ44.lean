/- Facts stratum by stratum, in plain words: where a fact leans on facts of its own stratum or below, and takes away facts of strata below alone, what is found is just what holds by all that is found. -/
import Derived.Test.YtajkkeikihhejaaGreatSq
import Derived.Test.YtajkkeikihhejaaGreatJ40
namespace Go.Proofs.YtajkkeikihhejaaGreat
set_option linter.unusedVariables false
section
variable {φ:Type} [DecidableEq φ] {rk:φ→Int} {H:List φ→φ→Bool} {qs:Nat→List φ}
def Lay (rk:φ→Int) (H:List φ→φ→Bool):Prop:=∀ (a b:List φ) (f:φ),(∀ g,rk g < rk f→(g ∈ a ↔ g ∈ b))→(∀ g,rk g=rk f→g ∈ a→g ∈ b)→H a f=true→H b f=true
def vW (H:List φ→φ→Bool) (qs:Nat→List φ):Nat→List φ
 | 0=>[]
 | n + 1=>kD H (qs n) (vW H qs n)
theorem vX (q out:List φ):∃ new,kD H q out=out ++ new∧∀ g ∈ new,g ∈ q:=wP q _ out
theorem Hg (hq:∀ n,∀ f ∈ qs n,rk f=(n:Int)):∀ N,∀ f ∈ vW H qs N,rk f < (N:Int)
 | 0,f,h=>by cases h
 | N + 1,f,h=>by
  obtain ⟨new,e,hn⟩:=vX (H:=H) (qs N) (vW H qs N);rw [vW,e] at h;rcases Uc.1 h with h | h
  ·have:=Hg hq N f h; omega
  have:=hq N f (hn f h); omega
theorem Fe {n:Nat} {f:φ} (h:f ∈ vW H qs n):∀ d,f ∈ vW H qs (n + d)
 | 0=>h
 | d + 1=>by
  obtain ⟨new,e,-⟩:=vX (H:=H) (qs (n + d)) (vW H qs (n + d));show f ∈ kD H (qs (n + d)) (vW H qs (n + d));rw [e]; exact List.mem_append_left _ (Fe h d)
theorem Bq (hq:∀ n,∀ f ∈ qs n,rk f=(n:Int)) {n:Nat} {f:φ} (hr:rk f < (n:Int)):∀ d,f ∈ vW H qs (n + d)→f ∈ vW H qs n
 | 0,h=>h
 | d + 1,h=>by
  obtain ⟨new,e,hn⟩:=vX (H:=H) (qs (n + d)) (vW H qs (n + d));have h:f ∈ kD H (qs (n + d)) (vW H qs (n + d)):=h;rw [e] at h;rcases Uc.1 h with h | h
  ·exact Bq hq hr d h
  have:=hq _ f (hn f h); omega
def Good (rk:φ→Int) (H:List φ→φ→Bool) (n:Int) (s:List φ):Prop:=∀ g ∈ s,rk g=n→H s g=true
theorem good_step (hL:Lay rk H) {n:Int} {s:List φ} {f:φ} (h:Good rk H n s) (hf:rk f=n):Good rk H n (dR H s f):=by
 unfold dR;split
 ·exact h
 rename_i hn;have hH:H s f=true:=by
  cases e:H s f;case true=>rfl
  exact absurd (.inr e) hn
 have low:∀ g:φ,rk g=n→∀ x,rk x < rk g→(x ∈ s ↔ x ∈ s ++ [f]):=fun g hg x hx=>by
  refine ⟨fun h=>List.mem_append_left _ h,fun h=>?_⟩;rcases Uc.1 h with h | h
  ·exact h
  rw [Ua] at h;rw [h] at hx; omega
 intro g hg hgn;rcases Uc.1 hg with hg | hg
 ·exact hL s _ g (low g hgn) (fun x _ hx=>List.mem_append_left _ hx) (h g hg hgn)
 rw [Ua] at hg;subst hg;exact hL s _ g (low g hgn) (fun x _ hx=>List.mem_append_left _ hx) hH
theorem Hl (hL:Lay rk H) {n:Int}:∀ (q:List φ) {s:List φ},(∀ f ∈ q,rk f=n)→Good rk H n s→Good rk H n (bG H q s)
 | [],_,_,h=>h
 | f::q,s,hq,h=>Hl hL q (fun g hg=>hq g (Uq _ hg)) (good_step hL h (hq f (Us ..)))
theorem DT (hL:Lay rk H) {n:Int} (q:List φ) (hq:∀ f ∈ q,rk f=n):∀ (k:Nat) {s:List φ},Good rk H n s→Good rk H n (jG H q k s)
 | 0,_,h=>h
 | k + 1,s,h=>by
  unfold jG;split
  ·exact h
  exact DT hL q hq k (Hl hL q hq h)
theorem Ri (hL:Lay rk H) (hq:∀ n,∀ f ∈ qs n,rk f=(n:Int)) (n:Nat):Good rk H (n:Int) (vW H qs (n + 1)):=by
 refine DT hL (qs n) (hq n) _ fun g hg hgn=>?_;have:=Hg hq n g hg;omega
theorem KM (hL:Lay rk H) (hq:∀ n,∀ f ∈ qs n,rk f=(n:Int)) {n:Nat} {f:φ} (hf:rk f=(n:Int)) (d:Nat):H (vW H qs (n + 1)) f=true ↔ H (vW H qs (n + 1 + d)) f=true:=by
 have same:∀ g,rk g≤(n:Int)→(g ∈ vW H qs (n + 1) ↔ g ∈ vW H qs (n + 1 + d)):=fun g hg=>⟨fun h=>Fe h d,fun h=>Bq hq (by omega) d h⟩;refine ⟨hL _ _ f (fun g hg=>same g (by omega)) (fun g hg h=>(same g (by omega)).1 h),hL _ _ f (fun g hg=>(same g (by omega)).symm) (fun g hg h=>(same g (by omega)).2 h)⟩
theorem KN (hq:∀ n,∀ f ∈ qs n,rk f=(n:Int)):∀ N,∀ f ∈ vW H qs N,∃ n,n < N∧f ∈ qs n
 | 0,f,h=>by cases h
 | N + 1,f,h=>by
  obtain ⟨new,e,hn⟩:=vX (H:=H) (qs N) (vW H qs N);rw [vW,e] at h;rcases Uc.1 h with h | h
  ·obtain ⟨n,h1,h2⟩:=KN hq N f h;exact ⟨n,by omega,h2⟩
  exact ⟨N,by omega,hn f h⟩
theorem M0 (hL:Lay rk H) (hq:∀ n,∀ f ∈ qs n,rk f=(n:Int)) {N:Nat} {f:φ} (h:f ∈ vW H qs N):H (vW H qs N) f=true:=by
 obtain ⟨n,hn,hf⟩:=KN hq N f h;have hr:=hq n f hf;obtain ⟨d,rfl⟩:∃ d,N=n + 1 + d:=⟨N - (n + 1),by omega⟩;rw [← KM hL hq hr d];exact Ri hL hq n f (Bq hq (by omega) d h) hr
theorem PZ (hL:Lay rk H) (hq:∀ n,∀ f ∈ qs n,rk f=(n:Int)) {N n:Nat} (hn:n < N) {f:φ} (hf:f ∈ qs n) (h:H (vW H qs N) f=true):f ∈ vW H qs N:=by
 have hr:=hq n f hf;obtain ⟨d,rfl⟩:∃ d,N=n + 1 + d:=⟨N - (n + 1),by omega⟩;rw [← KM hL hq hr d] at h;have hfix:=O3 (H:=H) (qs n) (vW H qs n);rcases (BO.1 hfix) f hf with h1 | h1
 ·exact Fe (show f ∈ vW H qs (n + 1) from h1) d
 have h:H (kD H (qs n) (vW H qs n)) f=true:=h;rw [h1] at h; cases h
end
open Pl
def qX (es:List Ex):List Int→Nat→Nat→Prop
 | [],a,b=>a=b
 | k::ks,a,b=>0≤k∧ay es k.toNat=(a:Int)∧qX es ks (k.toNat + 1) b
theorem Br {es:List Ex}:∀ (ks:List Int) (k:Int) (a m b:Nat),qX es ks a m→0≤k→ay es k.toNat=(m:Int)→k.toNat + 1=b→qX es (ks ++ [k]) a b
 | [],k,a,m,b,h,h0,h1,h2=>by
  have:a=m:=h;subst this;exact ⟨h0,h1,h2⟩
 | x::ks,k,a,m,b,h,h0,h1,h2=>⟨h.1,h.2.1,Br ks k _ m b h.2.2 h0 h1 h2⟩
theorem Hm {es:List Ex} {n:Nat}:∀ (rs:List Int) (b:Nat),b≤n→0≤di (dx es n) rs ((b:Int) - 1)→qX es rs.reverse (di (dx es n) rs ((b:Int) - 1)).toNat b
 | [],b,_,h=>by simp [di,qX]
 | k::rs,b,hb,h=>by
  unfold di at h ⊢;split at h
  ·omega
  rename_i c;rw [if_neg c];split at h
  ·omega
  rename_i c2;rw [if_neg c2];have h0:0≤(b:Int) - 1:=by omega
  have hk:k=(b:Int) - 1:=by omega
  have hF:dx es n ((b:Int) - 1)=ay es ((b:Int) - 1).toNat:=by unfold dx; rw [if_pos ⟨h0,by omega⟩]
  have hle:=iB es ((b:Int) - 1).toNat;rw [hF] at h c2 ⊢;obtain ⟨m,hm⟩:∃ m:Nat,ay es ((b:Int) - 1).toNat=(m:Int):=⟨(ay es ((b:Int) - 1).toNat).toNat,by omega⟩;rw [hm] at h hle ⊢;rw [List.reverse_cons];exact Br _ k _ m b (Hm rs m (by omega) h) (by omega) (by rw [hk,hm]) (by omega)
theorem oH {es:List Ex} {n:Nat} (h:0≤ay es n):qX es (dC es n) (ay es n).toNat n:=by
 rw [jb] at h ⊢;have:=Hm (dC es n).reverse n (TS _) h;rw [List.reverse_reverse] at this;exact this
theorem oI {es:List Ex}:∀ (ks:List Int) (a b:Nat),qX es ks a b→a≤b∧∀ k ∈ ks,0≤k∧k.toNat < b
 | [],a,b,h=>⟨Nat.le_of_eq h,fun k hk=>by cases hk⟩
 | x::ks,a,b,h=>by
  obtain ⟨h1,h2⟩:=oI ks _ b h.2.2;have:=iB es x.toNat;have h3:=h.2.1;refine ⟨by omega,fun k hk=>?_⟩;rcases List.mem_cons.1 hk with rfl | hk
  ·exact ⟨h.1,by omega⟩
  exact h2 k hk
theorem Bt {es:List Ex}:∀ (ks:List Int) (a b j:Nat),qX es ks a b→a≤j→j < b→∃ k ∈ ks,ay es k.toNat≤(j:Int)∧j≤k.toNat∧(a:Int)≤ay es k.toNat
 | [],a,b,j,h,h1,h2=>by
  have:a=b:=h;omega
 | x::ks,a,b,j,h,h1,h2=>by
  obtain ⟨h3,h4,h5⟩:=h;by_cases hj:j≤x.toNat
  ·exact ⟨x,by simp,by omega,hj,by omega⟩
  obtain ⟨k,hk,e1,e2,e3⟩:=Bt ks _ b j h5 (by omega) h2;have:=iB es x.toNat;exact ⟨k,by simp [hk],e1,e2,by omega⟩
theorem Bu {es:List Ex}:∀ (ks:List Int) (a b:Nat),qX es ks a b→∀ k ∈ ks,a≤k.toNat
 | [],_,_,_,k,hk=>by cases hk
 | x::ks,a,b,h,k,hk=>by
  obtain ⟨h3,h4,h5⟩:=h;have:=iB es x.toNat;rcases List.mem_cons.1 hk with rfl | hk
  ·omega
  have:=Bu ks _ b h5 k hk; omega
theorem qY {es:List Ex}:∀ (ks:List Int) (a b:Nat),qX es ks a b→∀ (p:Nat) (hp:p < ks.length),qX es (ks.drop (p + 1)) (ks[p].toNat + 1) b∧0≤ks[p]
 | [],_,_,_,p,hp=>by simp at hp
 | x::ks,a,b,h,0,_=>⟨h.2.2,h.1⟩
 | x::ks,a,b,h,p + 1,hp=>by
  have:=qY ks _ b h.2.2 p (by simpa using hp);simpa using this
theorem M4 {es:List Ex} (ht:∀ j,j < es.length→0≤ay es j):∀ (n:Nat),n < es.length→∀ j:Nat,ay es n≤(j:Int)→j≤n→ay es n≤ay es j:=by
 intro n
 induction n using Nat.strongRecOn with
 | _ n ih =>
  intro hn j h1 h2;by_cases e:j=n
  ·rw [e]; exact Int.le_refl _
  have hc:=oH (ht n hn);obtain ⟨k,hk,e1,e2,e3⟩:=Bt _ _ _ j hc (by have:=ht n hn; omega) (by omega);have hlt:=(oI _ _ _ hc).2 k hk;have:=ih k.toNat hlt.2 (by omega) j e1 e2;have:=ht n hn;omega
theorem JZ {es:List Ex} (ht:∀ j,j < es.length→0≤ay es j) {i j:Nat} (hi:i < es.length) (hj:j < i) {x y:Int} (hx:x ∈ dC es i) (hy:y ∈ dC es j):x.toNat ≠ y.toNat:=by
 intro e;have ci:=oH (ht i hi);have cj:=oH (ht j (by omega));obtain ⟨p,hp,rfl⟩:=Uu hx;obtain ⟨h1,h2⟩:=qY _ _ _ ci p hp;have hyj:=(oI _ _ _ cj).2 y hy;have hyg:=Bu _ _ _ cj y hy;obtain ⟨k,hk,e1,e2,e3⟩:=Bt _ _ _ j h1 (by omega) hj;have hk2:=(oI _ _ _ ci).2 k (List.mem_of_mem_drop hk);have:=M4 ht k.toNat (by omega) j e1 e2;have:=ht j (by omega);omega
theorem J3 {es:List Ex} {i:Nat} (h:0≤ay es i) (p q:Nat) (hp:p < (dC es i).length) (hq:q < (dC es i).length) (hpq:p < q):(dC es i)[p].toNat < (dC es i)[q].toNat:=by
 have h1:=(qY _ _ _ (oH h) p hp).1;refine Bu _ _ _ h1 _ ?_;rw [List.mem_drop_iff_getElem];exact ⟨q - (p + 1),by omega,by congr 1; omega⟩
theorem j5 (i:Nat) (kind:Int):∀ (xs:List Int) (k:Nat) (out:List Bool) (z:Nat),(∀ x ∈ xs,x.toNat ≠ z)→(bn i kind xs k out).getD z false=out.getD z false
 | [],_,_,_,_=>rfl
 | x::xs,k,out,z,h=>by
  rw [bn,j5 i kind xs (k + 1) _ z fun y hy=>h y (Uq _ hy)];simp only [List.getD_eq_getElem?_getD,List.getElem?_set_ne (h x (Us ..))]
theorem Bv (i:Nat) (kind:Int):∀ (xs:List Int) (k:Nat) (out:List Bool),(∀ (p q:Nat) (hp:p < xs.length) (hq:q < xs.length),p < q→xs[p].toNat ≠ xs[q].toNat)→(∀ x ∈ xs,x.toNat ≠ i)→(∀ x ∈ xs,x.toNat < out.length)→∀ (p:Nat) (hp:p < xs.length),(bn i kind xs k out).getD xs[p].toNat false=(out.getD i false || (kind == 6 && (k + p) == 1))
 | [],_,_,_,_,_,p,hp=>by simp at hp
 | x::xs,k,out,hd,hi,hl,p,hp=>by
  have hxi:=hi x (Us ..);have hxl:=hl x (Us ..);have hgi:(out.set x.toNat (out.getD i false || (kind == 6 && k == 1))).getD i false=out.getD i false:=by
   rw [List.getD_eq_getElem?_getD,List.getD_eq_getElem?_getD,List.getElem?_set_ne hxi]
  rw [bn];cases p with
  | zero =>
   rw [List.getElem_cons_zero,j5 i kind xs (k + 1) _ x.toNat fun y hy=>?_]
   ·rw [List.getD_eq_getElem?_getD,List.getElem?_set_self hxl]; rfl
   obtain ⟨q,hq,rfl⟩:=Uu hy;exact (hd 0 (q + 1) (by simp) (by simpa using hq) (by omega)).symm
  | succ p =>
   have:=Bv i kind xs (k + 1) (out.set x.toNat (out.getD i false || (kind == 6 && k == 1))) (fun a b ha hb hab=>hd (a + 1) (b + 1) (by simpa using ha) (by simpa using hb) (by omega)) (fun y hy=>hi y (Uq _ hy)) (fun y hy=>by rw [List.length_set]; exact hl y (Uq _ hy)) p (by simpa using hp);rw [List.getElem_cons_succ,this,hgi,show k + 1 + p=k + (p + 1) by omega]
theorem pJ (es:List Ex):∀ (m:Nat) (out:List Bool) (z:Nat),(∀ j,j < m→∀ x ∈ dC es j,x.toNat ≠ z)→(dV es m out).getD z false=out.getD z false
 | 0,_,_,_=>rfl
 | m + 1,out,z,h=>by
  rw [dV,pJ es m _ z fun j hj=>h j (by omega)];cases e:es[m]? with
  | none=>rfl
  | some x=>exact j5 m x.kind x.kids 0 out z fun y hy=>h m (by omega) y (by unfold dC; rw [e]; exact hy)
theorem vY (es:List Ex) (i:Nat):∀ (d:Nat) (out:List Bool),∃ out':List Bool,out'.length=out.length∧dV es (i + d) out=dV es i out'
 | 0,out=>⟨out,rfl,rfl⟩
 | d + 1,out=>by
  obtain ⟨o',h1,h2⟩:=vY es i d (match es[i + d]? with | none=>out | some e=>bn (i + d) e.kind e.kids 0 out);refine ⟨o',?_,h2⟩;rw [h1];cases es[i + d]? with
  | none=>rfl
  | some e=>exact xH _ _ _ _ _
theorem KO {es:List Ex} (ht:∀ j,j < es.length→0≤ay es j) {i:Nat} (hi:i < es.length) (p:Nat) (hp:p < es[i].kids.length):(dz es).getD es[i].kids[p].toNat false=((dz es).getD i false || (es[i].kind == 6 && p == 1)):=by
 have hk:dC es i=es[i].kids:=by unfold dC; rw [TY hi]; rfl
 have hlow:∀ j,j < es.length→∀ x ∈ dC es j,x.toNat < j:=fun j hj x hx=>((oI _ _ _ (oH (ht j hj))).2 x hx).2;obtain ⟨o',h1,h2⟩:=vY es (i + 1) (es.length - (i + 1)) (List.replicate es.length false);rw [show i + 1 + (es.length - (i + 1))=es.length by omega] at h2;have hN:dz es=dV es i (bn i es[i].kind es[i].kids 0 o'):=by
  unfold dz;rw [h2,dV,TY hi]
 have hmem:es[i].kids[p] ∈ dC es i:=by rw [hk]; exact TQ hp
 have hA:(dz es).getD es[i].kids[p].toNat false=(bn i es[i].kind es[i].kids 0 o').getD es[i].kids[p].toNat false:=by
  rw [hN];exact pJ es i _ _ fun j hj x hx e=>JZ ht hi hj hmem hx e.symm
 have hB:(dz es).getD i false=o'.getD i false:=by
  rw [hN,pJ es i _ i fun j hj x hx=>by have:=hlow j (by omega) x hx; omega];exact j5 i _ _ 0 o' i fun x hx=>by have:=hlow i hi x (by rw [hk]; exact hx); omega
 rw [hA,hB,Bv i es[i].kind es[i].kids 0 o' (fun a b ha hb hab=>by
   have:=J3 (ht i hi) a b (by rw [hk]; exact ha) (by rw [hk]; exact hb) hab;simp only [hk] at this;omega) (fun x hx=>by have:=hlow i hi x (by rw [hk]; exact hx); omega) (fun x hx=>by have:=hlow i hi x (by rw [hk]; exact hx); rw [h1]; simp; omega) p hp,Um]
def yC (es:List Ex) (i:Nat):Int:=if (dz es).getD i false then 1 else 0
structure NodeR (l:List Tp) (rk:Fc→Int) (es:List Ex) (f:Fc):Prop where
 ht:∀ j,j < es.length→0≤ay es j
 q1:∀ i (hi:i < es.length),es[i].kind=1→∀ t ∈ l,(t.a.toList == f.a.toList && t.b.toList == f.b.toList && t.r.toList == f.r.toList)=true→t.s.toList.isEmpty=false→rk ⟨t.c,t.d,t.s,f.c,f.d⟩ + yC es i≤rk f
 q2:∀ i (hi:i < es.length),es[i].kind=2→rk ⟨f.a,f.b,es[i].name,f.c,f.d⟩ + yC es i≤rk f
 q3:∀ i (hi:i < es.length),es[i].kind=3→∀ t ∈ l,(t.a.toList == f.a.toList && t.b.toList == f.b.toList && t.r.toList == es[i].over.toList)=true→rk ⟨t.c,t.d,es[i].name,f.c,f.d⟩ + yC es i≤rk f
 k6:∀ i (hi:i < es.length),es[i].kind=6→es[i].kids.length=2
section
variable {l:List Tp} {rk:Fc→Int} {es:List Ex} {f:Fc}
def DU (rk:Fc→Int) (r:Int) (a b:List Fc):Prop:=∀ g:Fc,rk g < r→(g ∈ a ↔ g ∈ b)
def RO (rk:Fc→Int) (r:Int) (a b:List Fc):Prop:=∀ g:Fc,rk g≤r→g ∈ a→g ∈ b
theorem tZ {a b:List Fc} {r:Int} (h:DU rk r a b) {g:Fc} (hg:rk g < r):bP a g=bP b g:=by
 rw [Bool.eq_iff_iff,dB,dB]; exact h g hg
theorem uf {a b:List Fc} {r:Int} (h:RO rk r a b) {g:Fc} (hg:rk g≤r) (hh:bP a g=true):bP b g=true:=dB.2 (h g hg (dB.1 hh))
theorem yP {α:Type} {p q:α→Bool} {xs:List α} (h:∀ x ∈ xs,p x=q x):xs.any p=xs.any q:=by
 rw [Bool.eq_iff_iff,Uo,Uo];exact ⟨fun ⟨x,hx,e⟩=>⟨x,hx,by rw [← h x hx]; exact e⟩,fun ⟨x,hx,e⟩=>⟨x,hx,by rw [h x hx]; exact e⟩⟩
theorem Rj {α:Type} {p q:α→Bool} {xs:List α} (h:∀ x ∈ xs,p x=q x):xs.all p=xs.all q:=by
 rw [Bool.eq_iff_iff,Ub,Ub];exact ⟨fun e x hx=>by rw [← h x hx]; exact e x hx,fun e x hx=>by rw [h x hx]; exact e x hx⟩
theorem NodeR.kid (h:NodeR l rk es f) {i:Nat} (hi:i < es.length) {p:Nat} (hp:p < es[i].kids.length):es[i].kids[p].toNat < es.length:=by
 have hk:dC es i=es[i].kids:=by unfold dC; rw [TY hi]; rfl
 have:=((oI _ _ _ (oH (h.ht i hi))).2 es[i].kids[p] (by rw [hk]; exact TQ hp)).2;omega
theorem NodeR.same (h:NodeR l rk es f) {ta tb:List Fc} (hT:DU rk (rk f) ta tb):∀ (k:Nat) (a b:List Fc) (i:Nat),DU rk (rk f) a b→i < es.length→(dz es).getD i false=true→dS l es ta f k a i=dS l es tb f k b i
 | 0,_,_,_,_,_,_=>rfl
 | k + 1,a,b,i,hS,hi,hg=>by
  have ZV:yC es i=1:=by unfold yC; rw [hg]; rfl
  have Vh:∀ x ∈ es[i].kids,∀ a b,DU rk (rk f) a b→dS l es ta f k a x.toNat=dS l es tb f k b x.toNat:=fun x hx a b hS=>by
   obtain ⟨p,hp,rfl⟩:=Uu hx;exact h.same hT k a b _ hS (h.kid hi hp) (by rw [KO h.ht hi p hp,hg]; rfl)
  unfold dS;rw [TY hi];simp only;by_cases e1:es[i].kind=1
  ·rw [if_pos e1,if_pos e1];refine yP fun t ht=>?_;cases hm:(t.a.toList == f.a.toList && t.b.toList == f.b.toList && t.r.toList == f.r.toList);case false=>rfl
   cases hs:t.s.toList.isEmpty;case true=>rfl
   have:=h.q1 i hi e1 t ht hm hs;simp only [Bool.false_eq_true,if_false];rw [tZ hS (g:=⟨t.c,t.d,t.s,f.c,f.d⟩) (by omega)]
  rw [if_neg e1,if_neg e1];by_cases e2:es[i].kind=2
  ·rw [if_pos e2,if_pos e2];have:=h.q2 i hi e2;exact tZ hS (by omega)
  rw [if_neg e2,if_neg e2];by_cases e3:es[i].kind=3
  ·rw [if_pos e3,if_pos e3];refine yP fun t ht=>?_;cases hm:(t.a.toList == f.a.toList && t.b.toList == f.b.toList && t.r.toList == es[i].over.toList);case false=>rfl
   have:=h.q3 i hi e3 t ht hm;rw [tZ hS (g:=⟨t.c,t.d,es[i].name,f.c,f.d⟩) (by omega)]
  rw [if_neg e3,if_neg e3];by_cases e4:es[i].kind=4
  ·rw [if_pos e4,if_pos e4]; exact yP fun x hx=>Vh x hx a b hS
  rw [if_neg e4,if_neg e4];by_cases e5:es[i].kind=5
  ·rw [if_pos e5,if_pos e5]; exact Rj fun x hx=>Vh x hx a b hS
  rw [if_neg e5,if_neg e5];by_cases e6:es[i].kind=6
  ·rw [if_pos e6,if_pos e6];have hl:=h.k6 i hi e6;have hx:∀ q,q < 2→es[i].kids.getD q 0 ∈ es[i].kids:=fun q hq=>by
    rw [List.getD_eq_getElem?_getD,TY (by omega)];exact TQ _
   rw [Vh _ (hx 0 (by omega)) a b hS,Vh _ (hx 1 (by omega)) ta tb hT]
  rw [if_neg e6,if_neg e6]
theorem NodeR.more (h:NodeR l rk es f) {ta tb:List Fc} (hT:DU rk (rk f) ta tb):∀ (k:Nat) (a b:List Fc) (i:Nat),DU rk (rk f) a b→RO rk (rk f) a b→i < es.length→dS l es ta f k a i=true→dS l es tb f k b i=true
 | 0,_,_,_,_,_,_,hh=>by cases hh
 | k + 1,a,b,i,hS,hM,hi,hh=>by
  have ZV:0≤yC es i:=by unfold yC; split <;> omega
  have Vh:∀ x ∈ es[i].kids,dS l es ta f k a x.toNat=true→dS l es tb f k b x.toNat=true:=fun x hx=>by
   obtain ⟨p,hp,rfl⟩:=Uu hx;exact h.more hT k a b _ hS hM (h.kid hi hp)
  unfold dS at hh ⊢;rw [TY hi] at hh ⊢;simp only at hh ⊢;by_cases e1:es[i].kind=1
  ·rw [if_pos e1] at hh ⊢;obtain ⟨t,ht,e⟩:=Uo.1 hh;refine Uo.2 ⟨t,ht,?_⟩;rw [TU] at e ⊢;refine ⟨e.1,?_⟩;cases hs:t.s.toList.isEmpty;case true=>have:=e.2; rw [hs] at this; exact this
   have h2:=e.2;rw [hs] at h2;simp only [Bool.false_eq_true,if_false] at h2 ⊢;have:=h.q1 i hi e1 t ht e.1 hs;exact uf hM (by omega) h2
  rw [if_neg e1] at hh ⊢;by_cases e2:es[i].kind=2
  ·rw [if_pos e2] at hh ⊢;have:=h.q2 i hi e2;exact uf hM (by omega) hh
  rw [if_neg e2] at hh ⊢;by_cases e3:es[i].kind=3
  ·rw [if_pos e3] at hh ⊢;obtain ⟨t,ht,e⟩:=Uo.1 hh;refine Uo.2 ⟨t,ht,?_⟩;rw [TU] at e ⊢;have:=h.q3 i hi e3 t ht e.1;exact ⟨e.1,uf hM (by omega) e.2⟩
  rw [if_neg e3] at hh ⊢;by_cases e4:es[i].kind=4
  ·rw [if_pos e4] at hh ⊢;obtain ⟨x,hx,e⟩:=Uo.1 hh;exact Uo.2 ⟨x,hx,Vh x hx e⟩
  rw [if_neg e4] at hh ⊢;by_cases e5:es[i].kind=5
  ·rw [if_pos e5] at hh ⊢;exact Ub.2 fun x hx=>Vh x hx (Ub.1 hh x hx)
  rw [if_neg e5] at hh ⊢;by_cases e6:es[i].kind=6
  ·rw [if_pos e6] at hh ⊢;have hl:=h.k6 i hi e6;have hx:∀ q (hq:q < 2),es[i].kids.getD q 0=es[i].kids[q]'(by omega):=fun q hq=>by
    rw [List.getD_eq_getElem?_getD,TY (by omega)]; rfl
   rw [TU] at hh ⊢;refine ⟨?_,?_⟩
   ·have h0:=hh.1;rw [hx 0 (by omega)] at h0 ⊢;exact Vh _ (TQ _) h0
   have h1:=hh.2;rw [hx 1 (by omega)] at h1 ⊢;have hf:(dz es).getD (es[i].kids[1]'(by omega)).toNat false=true:=by
    rw [KO h.ht hi 1 (by omega),e6]; simp
   rw [← h.same hT k ta tb _ hT (h.kid hi (by omega)) hf];exact h1
  rw [if_neg e6] at hh;cases hh
end
theorem M5 {ts:List Ty} {l:List Tp} {rk:Fc→Int} (hn:∀ f:Fc,aA ts f.a f.r ≠ []→NodeR l rk (aA ts f.a f.r) f):Lay rk (fC ts l):=fun a b f h1 h2 hh=>by
 by_cases he:aA ts f.a f.r=[]
 ·unfold fC at hh;rw [he] at hh;cases hh
 have hpos:(aA ts f.a f.r).length - 1 < (aA ts f.a f.r).length:=by
  have:(aA ts f.a f.r).length ≠ 0:=fun e=>he (Ui.1 e);omega
 refine (hn f he).more h1 _ a b _ h1 (fun g hg hm=>?_) hpos hh;by_cases e:rk g=rk f
 ·exact h2 g e hm
 exact (h1 g (by omega)).1 hm
def P9 (ts:List Ty) (st:ByteArray × ByteArray→Int) (g:Fc):Int:=if hasB ts g.a g.r then st (g.a,g.r) else -1
def J4 (ts:List Ty) (t:Tp):Bool:=(aA ts t.a t.r).any fun e=>decide (e.kind=1) && dF e.allow e.allow.length ⟨t.c,t.s⟩
theorem Ho {ts:List Ty} {a r:ByteArray}:hasB ts a r=true ↔ aA ts a r ≠ []:=by
 unfold hasB;cases aA ts a r <;> simp
theorem Bw {ts:List Ty} {typ:ByteArray} {es:List Ex} {i:Nat} {d:Dp} (h:d ∈ ik ts typ es i):∀ k,i < k→d ∈ aN ts typ es k
 | 0,hi=>absurd hi (Uw _)
 | k + 1,hi=>by
  unfold aN;by_cases e:i=k
  ·subst e; exact List.mem_append_right _ h
  exact List.mem_append_left _ (Bw h k (by omega))
theorem Bz {ng:Bool} {a:Al}:∀ {xs:List Al},a ∈ xs→a.s.toList.isEmpty=false→(⟨a.t,a.s,ng⟩:Dp) ∈ dh ng xs
 | [],h,_=>by cases h
 | x::xs,h,hs=>by
  unfold dh;rcases List.mem_cons.1 h with rfl | h
  ·rw [if_neg (by rw [hs]; decide)]; exact Us ..
  split
  ·exact Bz h hs
  exact Uq _ (Bz h hs)
theorem P5 {ts:List Ty} {rel:ByteArray} {a:Al}:∀ {xs:List Al},a ∈ xs→hasB ts a.t rel=true→a.t ∈ gl ts rel xs
 | [],h,_=>by cases h
 | x::xs,h,hs=>by
  unfold gl;rcases List.mem_cons.1 h with rfl | h
  ·rw [if_neg (by unfold hasB at hs; simpa using hs)]; exact Us ..
  split
  ·exact P5 h hs
  exact Uq _ (P5 h hs)
theorem xk {xs:List Al} {c s:ByteArray} (h:dF xs xs.length ⟨c,s⟩=true):(⟨c,s⟩:Al) ∈ xs:=by
 unfold dF at h;rw [Ug] at h;obtain ⟨a,ha,e⟩:=Uo.1 h;unfold jQ at e;rw [TU,beq_iff_eq,beq_iff_eq] at e;have:a=⟨c,s⟩:=by
  cases a;simp only at e;rw [fJ e.1,fJ e.2]
 rw [← this]; exact ha
theorem Rk {es:List Ex} (h:own es≤1) {i j:Nat} (hi:i < es.length) (hj:j < es.length) (ki:es[i].kind=1) (kj:es[j].kind=1):i=j:=by
 have key:∀ (es:List Ex) (i j:Nat) (hi:i < es.length) (hj:j < es.length),es[i].kind=1→es[j].kind=1→i < j→2≤own es:=by
  intro es
  induction es with
  | nil=>intro i j hi; simp at hi
  | cons e es ih =>
   intro i j hi hj ki kj hij;unfold own;rw [List.filter_cons];cases j with
   | zero=>omega
   | succ j =>
    have kj':(es[j]'(by simpa using hj)).kind=1:=by simpa using kj
    cases i with
    | zero =>
     have ki':e.kind=1:=by simpa using ki
     have:0 < (es.filter fun e=>decide (e.kind=1)).length:=List.length_pos_of_mem (a:=es[j]'(by simpa using hj)) (Ux.2 ⟨TQ _,by simpa using kj'⟩);simp [ki']; omega
    | succ i =>
     have:=ih i j (by simpa using hi) (by simpa using hj) (by simpa using ki) kj' (by omega);unfold own at this;split
     ·simp; omega
     exact this
 rcases Nat.lt_trichotomy i j with h1 | h1 | h1
 ·have:=key es i j hi hj ki kj h1; omega
 ·exact h1
 have:=key es j i hj hi kj ki h1; omega
theorem P6 {ts:List Ty} {l:List Tp} {st:ByteArray × ByteArray→Int} (hS:Sol ts st) (hsh:bf ts=true) (hrf:iC ts=true) (hfit:∀ t ∈ l,J4 ts t=true) {f:Fc} (hf:aA ts f.a f.r ≠ []):NodeR l (P9 ts st) (aA ts f.a f.r) f:=by
 obtain ⟨es,hes⟩:∃ es,es=aA ts f.a f.r:=⟨_,rfl⟩;have hp:fI ts f.a f.r=some es:=by
  rw [hes];cases e:fI ts f.a f.r with
  | none=>unfold aA at hf; rw [e] at hf; exact absurd rfl hf
  | some x=>unfold aA; rw [e]; rfl
 obtain ⟨t0,ht0,r0,hr0,en,er,ee⟩:=qz hp;have hspec:=(tT hsh ht0 hr0).2;rw [ee] at hspec;have hk:(f.a,f.r) ∈ au ts:=by
  unfold au jE;exact Uf.2 ⟨t0,ht0,Ue.2 ⟨r0,hr0,by rw [en,er]⟩⟩
 have YG:P9 ts st f=st (f.a,f.r):=by unfold P9; rw [if_pos (Ho.2 hf)]
 have hup:∀ i,i < es.length→∀ d ∈ ik ts f.a es i,st (d.typ,d.rel) + stepOf d≤st (f.a,f.r):=fun i hi d hd=>hS.up _ hk d (by show d ∈ pR ts f.a (aA ts f.a f.r); rw [← hes]; exact Bw hd _ hi);have hpos:=hS.pos (f.a,f.r);have ZV:∀ i,0≤yC es i∧yC es i≤1:=fun i=>by unfold yC; split <;> omega
 -- whatever a node asks by a name that it leans on
 have ask:∀ i (hi:i < es.length) (g:Fc),(hasB ts g.a g.r=true→(⟨g.a,g.r,(dz es).getD i false⟩:Dp) ∈ ik ts f.a es i)→P9 ts st g + yC es i≤P9 ts st f:=fun i hi g h=>by
  rw [YG];have h1:=ZV i;unfold P9;split
  ·rename_i hb;have h2:=hup i hi _ (h hb);unfold stepOf at h2;unfold yC;exact h2
  omega
 rw [← hes];have hdA:∀ i (hi:i < es.length),ik ts f.a es i=dh ((dz es).getD i false) es[i].allow ++ kP ts f.a ((dz es).getD i false) es[i]:=fun i hi=>by unfold ik; rw [TY hi]
 have Yn:=hspec;unfold aK at Yn;simp only [TU,Ud] at Yn;obtain ⟨⟨⟨⟨⟨-,-⟩,hnb⟩,hku⟩,hown⟩,htr⟩:=Yn;refine ⟨fun j hj=>?_,fun i hi k1 t ht hm hs=>?_,fun i hi k2=>?_,fun i hi k3 t ht hm=>?_,fun i hi k6=>?_⟩
 ·exact nA es (es.length - 1) (by rw [htr]; exact Int.le_refl _) j (by rw [htr]; omega) (by omega)
 ·refine ask i hi _ fun hb=>?_;rw [TU,TU,beq_iff_eq,beq_iff_eq,beq_iff_eq] at hm;have h1:=hfit t ht;unfold J4 at h1;rw [fJ hm.1.1,fJ hm.2,← hes] at h1;obtain ⟨e,he,h2⟩:=Uo.1 h1;rw [TU,Ud] at h2;obtain ⟨j,hj,rfl⟩:=Uu he;have:=Rk hown hi hj k1 h2.1;subst this;rw [hdA i hi];exact List.mem_append_left _ (Bz (xk h2.2) hs)
 ·refine ask i hi _ fun hb=>?_;rw [hdA i hi];refine List.mem_append_right _ ?_;unfold kP;rw [if_pos k2]; exact Ua.2 rfl
 ·refine ask i hi _ fun hb=>?_;rw [TU,TU,beq_iff_eq,beq_iff_eq,beq_iff_eq] at hm;have hrn:=(QG hrf ht0 hr0 (e:=es[i]) (by rw [ee]; exact TQ hi)).2;unfold ll at hrn;rw [if_neg (by rw [k3]; decide),if_pos k3] at hrn;simp only [TU] at hrn;have XR:=hrn.1;rw [en] at XR;have h1:=hfit t ht;unfold J4 at h1;rw [fJ hm.1.1,fJ hm.2] at h1;have hmem:(⟨t.c,t.s⟩:Al) ∈ aU (aA ts f.a es[i].over):=by
   rcases hre:aA ts f.a es[i].over with _ | ⟨e,_ | ⟨e2,rest⟩⟩
   ·rw [hre] at XR; simp [bu] at XR
   ·rw [hre] at XR h1;simp only [bu,TU,Ud] at XR;obtain ⟨e',he',h2⟩:=Uo.1 h1;rw [Ua] at he';subst he';rw [TU] at h2;simp only [aU,if_pos XR.1];exact xk h2.2
   rw [hre] at XR; simp [bu] at XR
  rw [hdA i hi];refine List.mem_append_right _ ?_;unfold kP;rw [if_neg (by rw [k3]; decide),if_pos k3];exact Ue.2 ⟨t.c,P5 (a:=⟨t.c,t.s⟩) hmem hb,rfl⟩
 have h:=Ub.1 hnb _ (TQ hi);unfold ax at h;simp [k6] at h;exact h.1.1.1
theorem Ff {ts:List Ty} {l:List Tp} {st:ByteArray × ByteArray→Int} (hS:Sol ts st) (hsh:bf ts=true) (hrf:iC ts=true) (hfit:∀ t ∈ l,J4 ts t=true):Lay (P9 ts st) (fC ts l):=M5 fun f hf=>P6 hS hsh hrf hfit hf
theorem J5 {ts:List Ty} {st:ByteArray × ByteArray→Int} {xo xu:List Al} {n:Int} (hen:∀ k ∈ au ts,hasB ts k.1 k.2=true) {f:Fc} (h:f ∈ bY ts st xo xu n):P9 ts st f=n:=by
 unfold bY vD iZ AR at h;obtain ⟨o,-,h⟩:=Uf.1 h;obtain ⟨k,hk,h⟩:=Uf.1 h;obtain ⟨u,-,rfl⟩:=Ue.1 h;obtain ⟨hk1,hk2⟩:=Ux.1 hk;rw [TU,beq_iff_eq,Ud] at hk2;have e1:k.1=o.t:=fJ hk2.1;have hb:hasB ts o.t k.2=true:=by
  rw [← e1]; exact hen k hk1
 unfold P9;rw [if_pos hb];show st (o.t,k.2)=n;rw [← e1];exact hk2.2
set_option linter.unusedSectionVars false
theorem xm {xs:List Al} {o x:Al}:x ∈ aZ xs o ↔ x ∈ xs ∨ x=o:=by
 unfold aZ;split
 ·rename_i h;exact ⟨.inl,fun h'=>h'.elim id fun e=>e ▸ O9.1 h⟩
 simp
theorem Fg:∀ (ts:List Tp) (xs:List Al) (o:Al),(o ∈ xs ∨ ∃ t ∈ ts,o=⟨t.a,t.b⟩ ∨ o=⟨t.c,t.d⟩)→o ∈ ts.foldl fP xs
 | [],xs,o,h=>h.elim id fun ⟨t,ht,_⟩=>by cases ht
 | t::ts,xs,o,h=>by
  refine Fg ts (fP xs t) o ?_;unfold fP;simp only [xm];rcases h with h | ⟨u,hu,h⟩
  ·exact .inl (.inl (.inl h))
  rcases List.mem_cons.1 hu with rfl | hu
  ·rcases h with h | h
   ·exact .inl (.inl (.inr h))
   exact .inl (.inr h)
  exact .inr ⟨u,hu,h⟩
theorem KP:∀ (ts:List Tp) (xs:List Al) (o:Al),(o ∈ xs ∨ ∃ t ∈ ts,t.s.toList.isEmpty=true∧o=⟨t.c,t.d⟩)→o ∈ ts.foldl cu xs
 | [],xs,o,h=>h.elim id fun ⟨t,ht,_⟩=>by cases ht
 | t::ts,xs,o,h=>by
  refine KP ts (cu xs t) o ?_;rcases h with h | ⟨u,hu,hs,h⟩
  ·refine .inl ?_;unfold cu;split
   ·exact xm.2 (.inl h)
   exact h
  rcases List.mem_cons.1 hu with rfl | hu
  ·refine .inl ?_;unfold cu;rw [if_pos (by simpa using hs)];exact xm.2 (.inr h)
  exact .inr ⟨u,hu,hs,h⟩
theorem pK {l:List Tp} {es:List Ex} {truth known:List Fc} {f:Fc} (h5:∀ e ∈ es,e.kind=5→e.kids ≠ []) (hkn:∀ g ∈ known,(⟨g.a,g.b⟩:Al) ∈ eD l∧(⟨g.c,g.d⟩:Al) ∈ cZ l):∀ (k n:Nat),dS l es truth f k known n=true→(⟨f.a,f.b⟩:Al) ∈ eD l∧(⟨f.c,f.d⟩:Al) ∈ cZ l
 | 0,n,h=>by cases h
 | k + 1,n,h=>by
  unfold dS at h;cases e:es[n]? with
  | none=>rw [e] at h; cases h
  | some x =>
   rw [e] at h;simp only at h;by_cases k1:x.kind=1
   ·rw [if_pos k1] at h;unfold dZ at h;obtain ⟨t,ht,h⟩:=Uo.1 h;simp only [TU,beq_iff_eq] at h;obtain ⟨⟨⟨h1,h2⟩,h3⟩,h4⟩:=h;refine ⟨Fg _ _ _ (.inr ⟨t,ht,.inl (by rw [fJ h1,fJ h2])⟩),?_⟩;split at h4
    ·rename_i hs;simp only [TU,beq_iff_eq] at h4;exact KP _ _ _ (.inr ⟨t,ht,hs,by rw [fJ h4.1,fJ h4.2]⟩)
    exact (hkn _ (dB.1 h4)).2
   rw [if_neg k1] at h;by_cases k2:x.kind=2
   ·rw [if_pos k2] at h;have h2:=hkn _ (dB.1 h);exact h2
   rw [if_neg k2] at h;by_cases k3:x.kind=3
   ·rw [if_pos k3] at h;unfold gp at h;obtain ⟨t,ht,h⟩:=Uo.1 h;simp only [TU,beq_iff_eq] at h;obtain ⟨⟨⟨h1,h2⟩,h3⟩,h4⟩:=h;exact ⟨Fg _ _ _ (.inr ⟨t,ht,.inl (by rw [fJ h1,fJ h2])⟩),(hkn _ (dB.1 h4)).2⟩
   rw [if_neg k3] at h;by_cases k4:x.kind=4
   ·rw [if_pos k4] at h;obtain ⟨i,-,h⟩:=Uo.1 h;exact pK h5 hkn k _ h
   rw [if_neg k4] at h;by_cases k5:x.kind=5
   ·rw [if_pos k5] at h;obtain ⟨i,hi⟩:=List.exists_mem_of_ne_nil _ (h5 x (List.mem_of_getElem? e) k5);exact pK h5 hkn k _ (Ub.1 h i hi)
   rw [if_neg k5] at h;by_cases k6:x.kind=6
   ·rw [if_pos k6] at h;exact pK h5 hkn k _ (Bool.and_eq_true_iff.1 h).1
   rw [if_neg k6] at h; cases h
theorem Hq {ts:List Tp} (h:dJ ts=true):∀ t ∈ ts,t.ok=true:=fun t ht=>by
 unfold dJ at h;simp only [TU] at h;obtain ⟨i,hi,rfl⟩:=Uu ht;have h1:=h.2;unfold tH at h1;have h2:=Ub.1 h1 i (by simpa using hi);unfold uR at h2;rw [TY hi] at h2;exact (Bool.and_eq_true_iff.1 h2).1
section
variable [DecidableEq Fc]
theorem Hr (ts:List Ty) (l:List Tp) (st:ByteArray × ByteArray→Int) (xo xu:List Al):∀ N,mD ts l st xo xu N=vW (fC ts l) (fun n=>bY ts st xo xu (n:Int)) N
 | 0=>rfl
 | N + 1=>by rw [jm,Hr ts l st xo xu N]; rfl
theorem M7 {rs:List TR} (hsh:bf (ae rs)=true) (a r:bH):∀ e ∈ aA (ae rs) a r,e.kind=5→e.kids ≠ []:=by
 intro e he k5;cases hp:fI (ae rs) a r with
 | none=>unfold aA at he; rw [hp] at he; cases he
 | some es =>
  unfold aA at he; rw [hp] at he;obtain ⟨t0,ht0,r0,hr0,en,er,ee⟩:=qz hp;have hspec:=(tT hsh ht0 hr0).2;rw [ee] at hspec;have h4:es.all ax=true:=by simp only [aK,TU] at hspec; exact hspec.1.1.1.2
  have:=Ub.1 h4 e he;unfold ax at this;rw [if_neg (by omega),if_neg (by omega),if_neg (by omega),if_pos (.inr k5)] at this;simp only [TU,Ud] at this;intro h0;rw [h0] at this;simp at this
theorem Fh {st:ByteArray × ByteArray→Int} {rs:List TR} {ts:List Tp} (hle:aJ (ae rs)=true→Least (ae rs) st) (hr:aQ (gW rs) rs ts=true) (f:Fc):bP (bC st rs ts) f=fC (ae rs) ts (bC st rs ts) f:=by
 have hr2:=hr;unfold aQ at hr2;simp only [TU] at hr2;have hSP:=aY.1 hr2.1.1;have Ws:=hle hr2.1.1;have hfit:∀ t ∈ ts,J4 (ae rs) t=true:=fun t ht=>by
  have h1:=Ub.1 hr2.2 t ht;rw [← wV hr2.1.1 (Hq hr2.1.2 t ht)] at h1;exact h1
 have hL:=Ff Ws.sol hSP.1 hSP.2.1 hfit;have hen:∀ k ∈ au (ae rs),hasB (ae rs) k.1 k.2=true:=fun k hk=>by
  obtain ⟨es,h1,h2⟩:=G9 hSP.1 hk;rw [Ho];unfold aA;rw [h1];intro e;have e2:es=[]:=e;rw [e2] at h2;simp [aK] at h2
 have hq:∀ n:Nat,∀ g ∈ bY (ae rs) st (eD ts) (cZ ts) (n:Int),P9 (ae rs) st g=(n:Int):=fun n g hg=>J5 hen hg;have hsub:∀ g ∈ bC st rs ts,(⟨g.a,g.b⟩:Al) ∈ eD ts∧(⟨g.c,g.d⟩:Al) ∈ cZ ts:=fun g hg=>by
  rw [iw hr] at hg;have h1:=(kG st rs ts (eD ts) (cZ ts) _).sub g hg;unfold BQ at h1;obtain ⟨o,ho,h1⟩:=Uf.1 h1;obtain ⟨k,hk,h1⟩:=Uf.1 h1;unfold iZ at h1;obtain ⟨u,hu,rfl⟩:=Ue.1 h1;exact ⟨ho,hu⟩
 rw [Bool.eq_iff_iff,dB];have e:bC st rs ts=vW (fC (ae rs) ts) (fun n=>bY (ae rs) st (eD ts) (cZ ts) (n:Int)) ((au (ae rs)).length + 1):=by
  rw [iw hr]; exact Hr _ _ _ _ _ _
 constructor
 ·intro h;rw [e] at h ⊢;exact M0 hL hq h
 intro h;obtain ⟨ho,hu⟩:=pK (M7 hSP.1 f.a f.r) hsub _ _ h;have hne:aA (ae rs) f.a f.r ≠ []:=fun h0=>by
  unfold fC at h; rw [h0] at h; cases h
 have hk:(f.a,f.r) ∈ au (ae rs):=rA (by simpa using hne);have hp:=Ws.sol.pos (f.a,f.r);have hlt:st (f.a,f.r) < ((au (ae rs)).length:Int):=by
  refine Classical.byContradiction fun hc=>?_;exact absurd ⟨st,Ws.sol⟩ (IB (kw hSP.2.1) hk (Ws.low _ hk) (by omega))
 rw [e] at h ⊢;refine PZ hL hq (n:=(st (f.a,f.r)).toNat) (by omega) ?_ h;unfold bY vD AR iZ;refine Uf.2 ⟨_,ho,Uf.2 ⟨(f.a,f.r),Ux.2 ⟨hk,?_⟩,Ue.2 ⟨_,hu,rfl⟩⟩⟩;simp only [BEq.rfl,Bool.true_and,Ud];omega
end
section
variable [DecidableEq Fc]
theorem Rm {rs:List TR} {ts:List Tp} (hr:aQ (gW rs) rs ts=true):∀ t ∈ ts,J4 (ae rs) t=true:=fun t ht=>by
 unfold aQ at hr;simp only [TU] at hr;have h1:=Ub.1 hr.2 t ht;rw [← wV hr.1.1 (Hq hr.1.2 t ht)] at h1;exact h1
theorem told_plain {st:ByteArray × ByteArray→Int} {rs:List TR} {ts:List Tp} (hle:aJ (ae rs)=true→Least (ae rs) st) (hr:aQ (gW rs) rs ts=true) (f:Fc) {x:Ex} (hx:aA (ae rs) f.a f.r=[x]) (hk:x.kind=1) (ha:∀ a ∈ x.allow,a.s.toList.isEmpty=true):bP (bC st rs ts) f=mq ts ⟨f.a,f.b,f.r,f.c,f.d,⟨#[]⟩⟩:=by
 rw [Fh hle hr];unfold fC;rw [hx];show dS ts [x] _ f 1 _ 0=_;unfold dS;show (if x.kind=1 then dZ ts _ f else _)=_;rw [if_pos hk];have he:(⟨#[]⟩:ByteArray).toList=[]:=by rw [Go.ByteArray.toList_eq]
 unfold dZ mq;refine yP fun t ht=>?_;unfold Ey;simp only [he];by_cases h:(t.a.toList == f.a.toList && t.b.toList == f.b.toList && t.r.toList == f.r.toList)=true
 ·have hf:=Rm hr t ht;unfold J4 at hf;simp only [TU,beq_iff_eq] at h;obtain ⟨⟨h1,h2⟩,h3⟩:=h;rw [fJ h1,fJ h3,hx] at hf;simp only [List.any_cons,List.any_nil,Bool.or_false,TU] at hf;have hs:=ha _ (xk hf.2);have hs':t.s.toList=[]:=by simpa using hs
  simp only [h1,h2,h3,hs',BEq.rfl,Bool.true_and,List.isEmpty_nil,if_true,Bool.and_true]
 have h0:(t.a.toList == f.a.toList && t.b.toList == f.b.toList && t.r.toList == f.r.toList)=false:=by simpa using h
 rw [h0]; rfl
end
end Go.Proofs.YtajkkeikihhejaaGreat
