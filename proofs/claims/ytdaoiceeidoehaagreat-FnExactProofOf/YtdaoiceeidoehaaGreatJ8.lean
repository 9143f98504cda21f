/- Which nodes stand in what is taken away, in plain words: a node's kids stand where it stands, and the second side of a taking away stands in it. -/
import Derived.Test.YtdaoiceeidoehaaGreatJ7
import Derived.Test.YtdaoiceeidoehaaGreatSpecSchema8
import Derived.Maps.OwnSet
import Derived.DeepKeys4
import Derived.WideKeyEntry
open Go.Proofs.Tryz
namespace Go.Proofs.YtdaoiceeidoehaaGreat
set_option linter.unusedVariables false
open Pl
theorem xU {es:List Ex}:∀ (ks:List Int) (a b j:Nat),nI es ks a b→a≤j→j < b→∃ k ∈ ks,ak es k.toNat≤(j:Int)∧j≤k.toNat∧(a:Int)≤ak es k.toNat
 | [],a,b,j,h,h1,h2=>by
  have:a=b:=h;omega
 | x::ks,a,b,j,h,h1,h2=>by
  obtain ⟨h3,h4,h5⟩:=h;by_cases hj:j≤x.toNat
  ·exact ⟨x,by simp,by omega,hj,by omega⟩
  ·obtain ⟨k,hk,e1,e2,e3⟩:=xU ks _ b j h5 (by omega) h2;have:=fJ es x.toNat;exact ⟨k,by simp [hk],e1,e2,by omega⟩
theorem xV {es:List Ex}:∀ (ks:List Int) (a b:Nat),nI es ks a b→∀ k ∈ ks,a≤k.toNat
 | [],_,_,_,k,hk=>by cases hk
 | x::ks,a,b,h,k,hk=>by
  obtain ⟨h3,h4,h5⟩:=h;have:=fJ es x.toNat;rcases List.mem_cons.1 hk with rfl | hk
  ·omega
  ·have:=xV ks _ b h5 k hk; omega
theorem oD {es:List Ex}:∀ (ks:List Int) (a b:Nat),nI es ks a b→∀ (p:Nat) (hp:p < ks.length),nI es (ks.drop (p + 1)) (ks[p].toNat + 1) b∧0≤ks[p]
 | [],_,_,_,p,hp=>by simp at hp
 | x::ks,a,b,h,0,_=>⟨h.2.2,h.1⟩
 | x::ks,a,b,h,p + 1,hp=>by
  have:=oD ks _ b h.2.2 p (by simpa using hp);simpa using this
theorem JZ {es:List Ex} (ht:∀ j,j < es.length→0≤ak es j):∀ (n:Nat),n < es.length→∀ j:Nat,ak es n≤(j:Int)→j≤n→ak es n≤ak es j:=by
 intro n
 induction n using Nat.strongRecOn with
 | _ n ih =>
  intro hn j h1 h2;by_cases e:j=n
  ·rw [e]; exact Int.le_refl _
  ·have hc:=kG (ht n hn);obtain ⟨k,hk,e1,e2,e3⟩:=xU _ _ _ j hc (by have:=ht n hn; omega) (by omega);have hlt:=(lQ _ _ _ hc).2 k hk;have:=ih k.toNat hlt.2 (by omega) j e1 e2;have:=ht n hn;omega
theorem Gv {es:List Ex} (ht:∀ j,j < es.length→0≤ak es j) {i j:Nat} (hi:i < es.length) (hj:j < i) {x y:Int} (hx:x ∈ cZ es i) (hy:y ∈ cZ es j):x.toNat ≠ y.toNat:=by
 intro e;have ci:=kG (ht i hi);have cj:=kG (ht j (by omega));obtain ⟨p,hp,rfl⟩:=Sz hx;obtain ⟨h1,h2⟩:=oD _ _ _ ci p hp;have hyj:=(lQ _ _ _ cj).2 y hy;have hyg:=xV _ _ _ cj y hy;obtain ⟨k,hk,e1,e2,e3⟩:=xU _ _ _ j h1 (by omega) hj;have hk2:=(lQ _ _ _ ci).2 k (List.mem_of_mem_drop hk);have:=JZ ht k.toNat (by omega) j e1 e2;have:=ht j (by omega);omega
theorem Gw {es:List Ex} {i:Nat} (h:0≤ak es i) (p q:Nat) (hp:p < (cZ es i).length) (hq:q < (cZ es i).length) (hpq:p < q):(cZ es i)[p].toNat < (cZ es i)[q].toNat:=by
 have h1:=(oD _ _ _ (kG h) p hp).1;refine xV _ _ _ h1 _ ?_;rw [List.mem_drop_iff_getElem];exact ⟨q - (p + 1),by omega,by congr 1; omega⟩
theorem jA (i:Nat) (kind:Int):∀ (xs:List Int) (k:Nat) (out:List Bool) (z:Nat),(∀ x ∈ xs,x.toNat ≠ z)→(aZ i kind xs k out).getD z false=out.getD z false
 | [],_,_,_,_=>rfl
 | x::xs,k,out,z,h=>by
  rw [aZ,jA i kind xs (k + 1) _ z fun y hy=>h y (SA _ hy)];simp only [List.getD_eq_getElem?_getD,List.getElem?_set_ne (h x (SC ..))]
theorem xW (i:Nat) (kind:Int):∀ (xs:List Int) (k:Nat) (out:List Bool),(∀ (p q:Nat) (hp:p < xs.length) (hq:q < xs.length),p < q→xs[p].toNat ≠ xs[q].toNat)→(∀ x ∈ xs,x.toNat ≠ i)→(∀ x ∈ xs,x.toNat < out.length)→∀ (p:Nat) (hp:p < xs.length),(aZ i kind xs k out).getD xs[p].toNat false=(out.getD i false || (kind == 6 && (k + p) == 1))
 | [],_,_,_,_,_,p,hp=>by simp at hp
 | x::xs,k,out,hd,hi,hl,p,hp=>by
  have hxi:=hi x (SC ..);have hxl:=hl x (SC ..);have hgi:(out.set x.toNat (out.getD i false || (kind == 6 && k == 1))).getD i false=out.getD i false:=by
   rw [List.getD_eq_getElem?_getD,List.getD_eq_getElem?_getD,List.getElem?_set_ne hxi]
  rw [aZ];cases p with
  | zero =>
   rw [List.getElem_cons_zero,jA i kind xs (k + 1) _ x.toNat fun y hy=>?_]
   ·rw [List.getD_eq_getElem?_getD,List.getElem?_set_self hxl]; rfl
   ·obtain ⟨q,hq,rfl⟩:=Sz hy;exact (hd 0 (q + 1) (by simp) (by simpa using hq) (by omega)).symm
  | succ p =>
   have:=xW i kind xs (k + 1) (out.set x.toNat (out.getD i false || (kind == 6 && k == 1))) (fun a b ha hb hab=>hd (a + 1) (b + 1) (by simpa using ha) (by simpa using hb) (by omega)) (fun y hy=>hi y (SA _ hy)) (fun y hy=>by rw [List.length_set]; exact hl y (SA _ hy)) p (by simpa using hp);rw [List.getElem_cons_succ,this,hgi,show k + 1 + p=k + (p + 1) by omega]
theorem mG (es:List Ex):∀ (m:Nat) (out:List Bool) (z:Nat),(∀ j,j < m→∀ x ∈ cZ es j,x.toNat ≠ z)→(dK es m out).getD z false=out.getD z false
 | 0,_,_,_=>rfl
 | m + 1,out,z,h=>by
  rw [dK,mG es m _ z fun j hj=>h j (by omega)];cases e:es[m]? with
  | none=>rfl
  | some x=>exact jA m x.kind x.kids 0 out z fun y hy=>h m (by omega) y (by unfold cZ; rw [e]; exact hy)
theorem ry (es:List Ex) (i:Nat):∀ (d:Nat) (out:List Bool),∃ out':List Bool,out'.length=out.length∧dK es (i + d) out=dK es i out'
 | 0,out=>⟨out,rfl,rfl⟩
 | d + 1,out=>by
  obtain ⟨o',h1,h2⟩:=ry es i d (match es[i + d]? with | none=>out | some e=>aZ (i + d) e.kind e.kids 0 out);refine ⟨o',?_,h2⟩;rw [h1];cases es[i + d]? with
  | none=>rfl
  | some e=>exact uX _ _ _ _ _
theorem I7 {es:List Ex} (ht:∀ j,j < es.length→0≤ak es j) {i:Nat} (hi:i < es.length) (p:Nat) (hp:p < es[i].kids.length):(cu es).getD es[i].kids[p].toNat false=((cu es).getD i false || (es[i].kind == 6 && p == 1)):=by
 have hk:cZ es i=es[i].kids:=by unfold cZ; rw [R8 hi]; rfl
 have hlow:∀ j,j < es.length→∀ x ∈ cZ es j,x.toNat < j:=fun j hj x hx=>((lQ _ _ _ (kG (ht j hj))).2 x hx).2;obtain ⟨o',h1,h2⟩:=ry es (i + 1) (es.length - (i + 1)) (List.replicate es.length false);rw [show i + 1 + (es.length - (i + 1))=es.length by omega] at h2;have hN:cu es=dK es i (aZ i es[i].kind es[i].kids 0 o'):=by
  unfold cu;rw [h2,dK,R8 hi]
 have hmem:es[i].kids[p] ∈ cZ es i:=by rw [hk]; exact RY hp
 have hA:(cu es).getD es[i].kids[p].toNat false=(aZ i es[i].kind es[i].kids 0 o').getD es[i].kids[p].toNat false:=by
  rw [hN];exact mG es i _ _ fun j hj x hx e=>Gv ht hi hj hmem hx e.symm
 have hB:(cu es).getD i false=o'.getD i false:=by
  rw [hN,mG es i _ i fun j hj x hx=>by have:=hlow j (by omega) x hx; omega];exact jA i _ _ 0 o' i fun x hx=>by have:=hlow i hi x (by rw [hk]; exact hx); omega
 rw [hA,hB,xW i es[i].kind es[i].kids 0 o' (fun a b ha hb hab=>by
   have:=Gw (ht i hi) a b (by rw [hk]; exact ha) (by rw [hk]; exact hb) hab;simp only [hk] at this;omega) (fun x hx=>by have:=hlow i hi x (by rw [hk]; exact hx); omega) (fun x hx=>by have:=hlow i hi x (by rw [hk]; exact hx); rw [h1]; simp; omega) p hp,Su]
def vX (es:List Ex) (i:Nat):Int:=if (cu es).getD i false then 1 else 0
structure NodeR (l:List Tp) (rk:Fc→Int) (es:List Ex) (f:Fc):Prop where
 ht:∀ j,j < es.length→0≤ak es j
 q1:∀ i (hi:i < es.length),es[i].kind=1→∀ t ∈ l,(t.a.toList == f.a.toList && t.b.toList == f.b.toList && t.r.toList == f.r.toList)=true→t.s.toList.isEmpty=false→rk ⟨t.c,t.d,t.s,f.c,f.d⟩ + vX es i≤rk f
 q2:∀ i (hi:i < es.length),es[i].kind=2→rk ⟨f.a,f.b,es[i].name,f.c,f.d⟩ + vX es i≤rk f
 q3:∀ i (hi:i < es.length),es[i].kind=3→∀ t ∈ l,(t.a.toList == f.a.toList && t.b.toList == f.b.toList && t.r.toList == es[i].over.toList)=true→rk ⟨t.c,t.d,es[i].name,f.c,f.d⟩ + vX es i≤rk f
 k6:∀ i (hi:i < es.length),es[i].kind=6→es[i].kids.length=2
section
variable {l:List Tp} {rk:Fc→Int} {es:List Ex} {f:Fc}
def AJ (rk:Fc→Int) (r:Int) (a b:List Fc):Prop:=∀ g:Fc,rk g < r→(g ∈ a ↔ g ∈ b)
def P7 (rk:Fc→Int) (r:Int) (a b:List Fc):Prop:=∀ g:Fc,rk g≤r→g ∈ a→g ∈ b
theorem qE {a b:List Fc} {r:Int} (h:AJ rk r a b) {g:Fc} (hg:rk g < r):aO a g=aO b g:=by
 rw [Bool.eq_iff_iff,aX,aX]; exact h g hg
theorem qF {a b:List Fc} {r:Int} (h:P7 rk r a b) {g:Fc} (hg:rk g≤r) (hh:aO a g=true):aO b g=true:=aX.2 (h g hg (aX.1 hh))
theorem Cj {α:Type} {p q:α→Bool} {xs:List α} (h:∀ x ∈ xs,p x=q x):xs.any p=xs.any q:=by
 rw [Bool.eq_iff_iff,Sw,Sw];exact ⟨fun ⟨x,hx,e⟩=>⟨x,hx,by rw [← h x hx]; exact e⟩,fun ⟨x,hx,e⟩=>⟨x,hx,by rw [h x hx]; exact e⟩⟩
theorem OI {α:Type} {p q:α→Bool} {xs:List α} (h:∀ x ∈ xs,p x=q x):xs.all p=xs.all q:=by
 rw [Bool.eq_iff_iff,Sg,Sg];exact ⟨fun e x hx=>by rw [← h x hx]; exact e x hx,fun e x hx=>by rw [h x hx]; exact e x hx⟩
theorem NodeR.kid (h:NodeR l rk es f) {i:Nat} (hi:i < es.length) {p:Nat} (hp:p < es[i].kids.length):es[i].kids[p].toNat < es.length:=by
 have hk:cZ es i=es[i].kids:=by unfold cZ; rw [R8 hi]; rfl
 have:=((lQ _ _ _ (kG (h.ht i hi))).2 es[i].kids[p] (by rw [hk]; exact RY hp)).2;omega
theorem NodeR.same (h:NodeR l rk es f) {ta tb:List Fc} (hT:AJ rk (rk f) ta tb):∀ (k:Nat) (a b:List Fc) (i:Nat),AJ rk (rk f) a b→i < es.length→(cu es).getD i false=true→cO l es ta f k a i=cO l es tb f k b i
 | 0,_,_,_,_,_,_=>rfl
 | k + 1,a,b,i,hS,hi,hg=>by
  have hng:vX es i=1:=by unfold vX; rw [hg]; rfl
  have TB:∀ x ∈ es[i].kids,∀ a b,AJ rk (rk f) a b→cO l es ta f k a x.toNat=cO l es tb f k b x.toNat:=fun x hx a b hS=>by
   obtain ⟨p,hp,rfl⟩:=Sz hx;exact h.same hT k a b _ hS (h.kid hi hp) (by rw [I7 h.ht hi p hp,hg]; rfl)
  unfold cO;rw [R8 hi];simp only;by_cases e1:es[i].kind=1
  ·rw [if_pos e1,if_pos e1];refine Cj fun t ht=>?_;cases hm:(t.a.toList == f.a.toList && t.b.toList == f.b.toList && t.r.toList == f.r.toList) with
   | false=>rfl
   | true =>
    cases hs:t.s.toList.isEmpty with
    | true=>rfl
    | false =>
     have:=h.q1 i hi e1 t ht hm hs;simp only [Bool.false_eq_true,if_false];rw [qE hS (g:=⟨t.c,t.d,t.s,f.c,f.d⟩) (by omega)]
  rw [if_neg e1,if_neg e1];by_cases e2:es[i].kind=2
  ·rw [if_pos e2,if_pos e2];have:=h.q2 i hi e2;exact qE hS (by omega)
  rw [if_neg e2,if_neg e2];by_cases e3:es[i].kind=3
  ·rw [if_pos e3,if_pos e3];refine Cj fun t ht=>?_;cases hm:(t.a.toList == f.a.toList && t.b.toList == f.b.toList && t.r.toList == es[i].over.toList) with
   | false=>rfl
   | true =>
    have:=h.q3 i hi e3 t ht hm;rw [qE hS (g:=⟨t.c,t.d,es[i].name,f.c,f.d⟩) (by omega)]
  rw [if_neg e3,if_neg e3];by_cases e4:es[i].kind=4
  ·rw [if_pos e4,if_pos e4]; exact Cj fun x hx=>TB x hx a b hS
  rw [if_neg e4,if_neg e4];by_cases e5:es[i].kind=5
  ·rw [if_pos e5,if_pos e5]; exact OI fun x hx=>TB x hx a b hS
  rw [if_neg e5,if_neg e5];by_cases e6:es[i].kind=6
  ·rw [if_pos e6,if_pos e6];have hl:=h.k6 i hi e6;have hx:∀ q,q < 2→es[i].kids.getD q 0 ∈ es[i].kids:=fun q hq=>by
    rw [List.getD_eq_getElem?_getD,R8 (by omega)];exact RY _
   rw [TB _ (hx 0 (by omega)) a b hS,TB _ (hx 1 (by omega)) ta tb hT]
  rw [if_neg e6,if_neg e6]
theorem NodeR.more (h:NodeR l rk es f) {ta tb:List Fc} (hT:AJ rk (rk f) ta tb):∀ (k:Nat) (a b:List Fc) (i:Nat),AJ rk (rk f) a b→P7 rk (rk f) a b→i < es.length→cO l es ta f k a i=true→cO l es tb f k b i=true
 | 0,_,_,_,_,_,_,hh=>by cases hh
 | k + 1,a,b,i,hS,hM,hi,hh=>by
  have hng:0≤vX es i:=by unfold vX; split <;> omega
  have TB:∀ x ∈ es[i].kids,cO l es ta f k a x.toNat=true→cO l es tb f k b x.toNat=true:=fun x hx=>by
   obtain ⟨p,hp,rfl⟩:=Sz hx;exact h.more hT k a b _ hS hM (h.kid hi hp)
  unfold cO at hh ⊢;rw [R8 hi] at hh ⊢;simp only at hh ⊢;by_cases e1:es[i].kind=1
  ·rw [if_pos e1] at hh ⊢;obtain ⟨t,ht,e⟩:=Sw.1 hh;refine Sw.2 ⟨t,ht,?_⟩;rw [R7] at e ⊢;refine ⟨e.1,?_⟩;cases hs:t.s.toList.isEmpty with
   | true=>have:=e.2; rw [hs] at this; exact this
   | false =>
    have h2:=e.2;rw [hs] at h2;simp only [Bool.false_eq_true,if_false] at h2 ⊢;have:=h.q1 i hi e1 t ht e.1 hs;exact qF hM (by omega) h2
  rw [if_neg e1] at hh ⊢;by_cases e2:es[i].kind=2
  ·rw [if_pos e2] at hh ⊢;have:=h.q2 i hi e2;exact qF hM (by omega) hh
  rw [if_neg e2] at hh ⊢;by_cases e3:es[i].kind=3
  ·rw [if_pos e3] at hh ⊢;obtain ⟨t,ht,e⟩:=Sw.1 hh;refine Sw.2 ⟨t,ht,?_⟩;rw [R7] at e ⊢;have:=h.q3 i hi e3 t ht e.1;exact ⟨e.1,qF hM (by omega) e.2⟩
  rw [if_neg e3] at hh ⊢;by_cases e4:es[i].kind=4
  ·rw [if_pos e4] at hh ⊢;obtain ⟨x,hx,e⟩:=Sw.1 hh;exact Sw.2 ⟨x,hx,TB x hx e⟩
  rw [if_neg e4] at hh ⊢;by_cases e5:es[i].kind=5
  ·rw [if_pos e5] at hh ⊢;exact Sg.2 fun x hx=>TB x hx (Sg.1 hh x hx)
  rw [if_neg e5] at hh ⊢;by_cases e6:es[i].kind=6
  ·rw [if_pos e6] at hh ⊢;have hl:=h.k6 i hi e6;have hx:∀ q (hq:q < 2),es[i].kids.getD q 0=es[i].kids[q]'(by omega):=fun q hq=>by
    rw [List.getD_eq_getElem?_getD,R8 (by omega)]; rfl
   rw [R7] at hh ⊢;refine ⟨?_,?_⟩
   ·have h0:=hh.1;rw [hx 0 (by omega)] at h0 ⊢;exact TB _ (RY _) h0
   ·have h1:=hh.2;rw [hx 1 (by omega)] at h1 ⊢;have hf:(cu es).getD (es[i].kids[1]'(by omega)).toNat false=true:=by
     rw [I7 h.ht hi 1 (by omega),e6]; simp
    rw [← h.same hT k ta tb _ hT (h.kid hi (by omega)) hf];exact h1
  rw [if_neg e6] at hh;cases hh
end
def OJ (ts:List Ty) (st:ByteArray × ByteArray→Int) (g:Fc):Int:=if hasB ts g.a g.r then st (g.a,g.r) else -1
def OL (ts:List Ty) (t:Tp):Bool:=(ax ts t.a t.r).any fun e=>decide (e.kind=1) && dh e.allow e.allow.length ⟨t.c,t.s⟩
theorem El {ts:List Ty} {a r:ByteArray}:hasB ts a r=true ↔ ax ts a r ≠ []:=by
 unfold hasB;cases ax ts a r <;> simp
theorem xX {ts:List Ty} {typ:ByteArray} {es:List Ex} {i:Nat} {d:Dp} (h:d ∈ fU ts typ es i):∀ k,i < k→d ∈ aK ts typ es k
 | 0,hi=>absurd hi (SE _)
 | k + 1,hi=>by
  unfold aK;by_cases e:i=k
  ·subst e; exact List.mem_append_right _ h
  ·exact List.mem_append_left _ (xX h k (by omega))
theorem xY {ng:Bool} {a:Al}:∀ {xs:List Al},a ∈ xs→a.s.toList.isEmpty=false→(⟨a.t,a.s,ng⟩:Dp) ∈ bY ng xs
 | [],h,_=>by cases h
 | x::xs,h,hs=>by
  unfold bY;rcases List.mem_cons.1 h with rfl | h
  ·rw [if_neg (by rw [hs]; decide)]; exact SC ..
  ·split
   ·exact xY h hs
   ·exact SA _ (xY h hs)
theorem Mf {ts:List Ty} {rel:ByteArray} {a:Al}:∀ {xs:List Al},a ∈ xs→hasB ts a.t rel=true→a.t ∈ gl ts rel xs
 | [],h,_=>by cases h
 | x::xs,h,hs=>by
  unfold gl;rcases List.mem_cons.1 h with rfl | h
  ·rw [if_neg (by unfold hasB at hs; simpa using hs)]; exact SC ..
  ·split
   ·exact Mf h hs
   ·exact SA _ (Mf h hs)
theorem AL {xs:List Al} {c s:ByteArray} (h:dh xs xs.length ⟨c,s⟩=true):(⟨c,s⟩:Al) ∈ xs:=by
 unfold dh at h;rw [Sc] at h;obtain ⟨a,ha,e⟩:=Sw.1 h;unfold je at e;rw [R7,beq_iff_eq,beq_iff_eq] at e;have:a=⟨c,s⟩:=by
  cases a;simp only at e;rw [jk e.1,jk e.2]
 rw [← this]; exact ha
theorem OM {es:List Ex} (h:own es≤1) {i j:Nat} (hi:i < es.length) (hj:j < es.length) (ki:es[i].kind=1) (kj:es[j].kind=1):i=j:=by
 have key:∀ (es:List Ex) (i j:Nat) (hi:i < es.length) (hj:j < es.length),es[i].kind=1→es[j].kind=1→i < j→2≤own es:=by
  intro es
  induction es with
  | nil=>intro i j hi; simp at hi
  | cons e es ih =>
   intro i j hi hj ki kj hij;unfold own;rw [List.filter_cons];cases j with
   | zero=>omega
   | succ j =>
    have kj':(es[j]'(by simpa using hj)).kind=1:=by simpa using kj
    cases i with
    | zero =>
     have ki':e.kind=1:=by simpa using ki
     have:0 < (es.filter fun e=>decide (e.kind=1)).length:=List.length_pos_of_mem (a:=es[j]'(by simpa using hj)) (SH.2 ⟨RY _,by simpa using kj'⟩);simp [ki']; omega
    | succ i =>
     have:=ih i j (by simpa using hi) (by simpa using hj) (by simpa using ki) kj' (by omega);unfold own at this;split
     ·simp; omega
     ·exact this
 rcases Nat.lt_trichotomy i j with h1 | h1 | h1
 ·have:=key es i j hi hj ki kj h1; omega
 ·exact h1
 ·have:=key es j i hj hi kj ki h1; omega
theorem Mg {ts:List Ty} {l:List Tp} {st:ByteArray × ByteArray→Int} (hS:Sol ts st) (hsh:aV ts=true) (hrf:gH ts=true) (hfit:∀ t ∈ l,OL ts t=true) {f:Fc} (hf:ax ts f.a f.r ≠ []):NodeR l (OJ ts st) (ax ts f.a f.r) f:=by
 obtain ⟨es,hes⟩:∃ es,es=ax ts f.a f.r:=⟨_,rfl⟩;have hp:dX ts f.a f.r=some es:=by
  rw [hes];cases e:dX ts f.a f.r with
  | none=>unfold ax at hf; rw [e] at hf; exact absurd rfl hf
  | some x=>unfold ax; rw [e]; rfl
 obtain ⟨t0,ht0,r0,hr0,en,er,ee⟩:=q8 hp;have hspec:=(Gj hsh ht0 hr0).2;rw [ee] at hspec;have hk:(f.a,f.r) ∈ ai ts:=by
  unfold ai iB;exact Sk.2 ⟨t0,ht0,Sa.2 ⟨r0,hr0,by rw [en,er]⟩⟩
 have Xg:OJ ts st f=st (f.a,f.r):=by unfold OJ; rw [if_pos (El.2 hf)]
 have hup:∀ i,i < es.length→∀ d ∈ fU ts f.a es i,st (d.typ,d.rel) + stepOf d≤st (f.a,f.r):=fun i hi d hd=>hS.up _ hk d (by show d ∈ nH ts f.a (ax ts f.a f.r); rw [← hes]; exact xX hd _ hi);have hpos:=hS.pos (f.a,f.r);have hng:∀ i,0≤vX es i∧vX es i≤1:=fun i=>by unfold vX; split <;> omega
 -- whatever a node asks by a name that it leans on
 have ask:∀ i (hi:i < es.length) (g:Fc),(hasB ts g.a g.r=true→(⟨g.a,g.r,(cu es).getD i false⟩:Dp) ∈ fU ts f.a es i)→OJ ts st g + vX es i≤OJ ts st f:=fun i hi g h=>by
  rw [Xg];have h1:=hng i;unfold OJ;split
  ·rename_i hb;have h2:=hup i hi _ (h hb);unfold stepOf at h2;unfold vX;exact h2
  ·omega
 rw [← hes];have hdA:∀ i (hi:i < es.length),fU ts f.a es i=bY ((cu es).getD i false) es[i].allow ++ jP ts f.a ((cu es).getD i false) es[i]:=fun i hi=>by unfold fU; rw [R8 hi]
 have WJ:=hspec;unfold aU at WJ;simp only [R7,Sj] at WJ;obtain ⟨⟨⟨⟨⟨-,-⟩,hnb⟩,hku⟩,hown⟩,htr⟩:=WJ;refine ⟨fun j hj=>?_,fun i hi k1 t ht hm hs=>?_,fun i hi k2=>?_,fun i hi k3 t ht hm=>?_,fun i hi k6=>?_⟩
 ·exact lh es (es.length - 1) (by rw [htr]; exact Int.le_refl _) j (by rw [htr]; omega) (by omega)
 ·refine ask i hi _ fun hb=>?_;rw [R7,R7,beq_iff_eq,beq_iff_eq,beq_iff_eq] at hm;have h1:=hfit t ht;unfold OL at h1;rw [jk hm.1.1,jk hm.2,← hes] at h1;obtain ⟨e,he,h2⟩:=Sw.1 h1;rw [R7,Sj] at h2;obtain ⟨j,hj,rfl⟩:=Sz he;have:=OM hown hi hj k1 h2.1;subst this;rw [hdA i hi];exact List.mem_append_left _ (xY (AL h2.2) hs)
 ·refine ask i hi _ fun hb=>?_;rw [hdA i hi];refine List.mem_append_right _ ?_;unfold jP;rw [if_pos k2]; exact Sm.2 rfl
 ·refine ask i hi _ fun hb=>?_;rw [R7,R7,beq_iff_eq,beq_iff_eq,beq_iff_eq] at hm;have hrn:=(OG hrf ht0 hr0 (e:=es[i]) (by rw [ee]; exact RY hi)).2;unfold jV at hrn;rw [if_neg (by rw [k3]; decide),if_pos k3] at hrn;simp only [R7] at hrn;have Wi:=hrn.1;rw [en] at Wi;have h1:=hfit t ht;unfold OL at h1;rw [jk hm.1.1,jk hm.2] at h1;have hmem:(⟨t.c,t.s⟩:Al) ∈ aQ (ax ts f.a es[i].over):=by
   rcases hre:ax ts f.a es[i].over with _ | ⟨e,_ | ⟨e2,rest⟩⟩
   ·rw [hre] at Wi; simp [bi] at Wi
   ·rw [hre] at Wi h1;simp only [bi,R7,Sj] at Wi;obtain ⟨e',he',h2⟩:=Sw.1 h1;rw [Sm] at he';subst he';rw [R7] at h2;simp only [aQ,if_pos Wi.1];exact AL h2.2
   ·rw [hre] at Wi; simp [bi] at Wi
  rw [hdA i hi];refine List.mem_append_right _ ?_;unfold jP;rw [if_neg (by rw [k3]; decide),if_pos k3];exact Sa.2 ⟨t.c,Mf (a:=⟨t.c,t.s⟩) hmem hb,rfl⟩
 ·have h:=Sg.1 hnb _ (RY hi);unfold az at h;simp [k6] at h;exact h.1.1.1
theorem Gx {ts:List Ty} {st:ByteArray × ByteArray→Int} {xo xu:List Al} {n:Int} (hen:∀ k ∈ ai ts,hasB ts k.1 k.2=true) {f:Fc} (h:f ∈ bR ts st xo xu n):OJ ts st f=n:=by
 unfold bR sZ iJ zG at h;obtain ⟨o,-,h⟩:=Sk.1 h;obtain ⟨k,hk,h⟩:=Sk.1 h;obtain ⟨u,-,rfl⟩:=Sa.1 h;obtain ⟨hk1,hk2⟩:=SH.1 hk;rw [R7,beq_iff_eq,Sj] at hk2;have e1:k.1=o.t:=jk hk2.1;have hb:hasB ts o.t k.2=true:=by
  rw [← e1]; exact hen k hk1
 unfold OJ;rw [if_pos hb];show st (o.t,k.2)=n;rw [← e1];exact hk2.2
open Go.ChangeAt Go.ChangeShapes Go.Maps Go.RowKit Go.WideShapes
def Mh (v:Value):Option (DataW Value × List MemPlace):=some (.held v,[])
section
variable {K:Type} (enc:K→Value) (P:Program) (k:TypeId)
def Ql (D:DataW Value) (kl:Lit):Option Value→Prop
 | none=>Maps.has D kl=false∧∀ z,D.atKey kl z=z
 | some v=>Maps.has D kl=true∧∀ z,D.atKey kl z=.held v
def aD (w:World) (b n:Nat) (M:K→Option Value):Prop :=
 ∃ D:DataW Value,w.ownsMap P k Mh b n D∧∀ x kl,keyOf P k (enc x)=some kl→Ql D kl (M x)
def fw [DecidableEq K] (M:K→Option Value) (x:K) (v:Option Value):K→Option Value:=fun y=>if y=x then v else M y
end
section
variable {K:Type} {enc:K→Value} {P:Program} {k:TypeId} {w:World} {b n:Nat} {M:K→Option Value}
theorem cB [DecidableEq K] (M:K→Option Value) (x:K) (v:Option Value):fw M x v x=v:=by simp [fw]
theorem bf [DecidableEq K] {M:K→Option Value} {x y:K} {v:Option Value} (h:y ≠ x):fw M x v y=M y:=by simp [fw,h]
theorem jl (enc:K→Value) (P:Program) (k:TypeId) (w:World):aD enc P k (w.alloc (.map #[] 0)) w.heap.size 0 (fun _=>none) :=
 ⟨.map [],World.ownsMap_made w P k Mh,fun _ kl _=>⟨rfl,fun z=>by simp [DataW.atKey]⟩⟩
theorem aD.lt (h:aD enc P k w b n M):b < w.heap.size:=by obtain ⟨D,h1,-⟩:=h; exact h1.lt
theorem aD.mono (h:aD enc P k w b n M) {n':Nat} (hn:n≤n'):aD enc P k w b n' M:=by obtain ⟨D,h1,h2⟩:=h; exact ⟨D,h1.mono hn,h2⟩
theorem aD.kept {w':World} {row:Option Nat} (h:aD enc P k w b n M) (hg:w.grownBy w' row) (hne:some b ≠ row):aD enc P k w' b n M:=by
 obtain ⟨D,h1,h2⟩:=h; exact ⟨D,h1.kept hg hne,h2⟩
theorem aD.below {w':World} (h:aD enc P k w b n M) (hB:Below w.heap.size w w'):aD enc P k w' b n M :=
 h.kept (row:=none) ⟨hB.os,hB.tape,hB.output,hB.size,fun k hk _=>hB.block k hk⟩ (by simp)
theorem aD.setCell (h:aD enc P k w b n M) {a:Addr} (ha:b ≠ a.block) (u:Value):aD enc P k (w.setCell a u) b n M:=by
 obtain ⟨D,h1,h2⟩:=h; exact ⟨D,h1.setCell ha u,h2⟩
theorem aD.look {t e:TypeId} (h:aD enc P k w b n M) (L:Keyed P k) (ht:P.underlying t=some (.map k e)) {z:Value} (hz:(zeroValue e).run P w=.ok z w) {x:K} {kl:Lit} (hkey:keyOf P k (enc x)=some kl) :
  (Instr.lookup t (.map (some b)) (enc x) false).run P w=.ok ((M x).getD z) w:=by
 obtain ⟨D,h1,h2⟩:=h;obtain ⟨v,ps,hrun,hv⟩:=h1.lookup L ht hz (zd:=.held z) (zp:=[]) rfl hkey;have h3:=h2 x kl hkey;rw [hrun];have:v=(M x).getD z:=by
  simp only [Mh,Option.some.injEq,Prod.mk.injEq] at hv;cases e:M x with
  | none=>rw [e] at h3; rw [h3.2] at hv; injection hv.1 with h4
  | some u=>rw [e] at h3; rw [h3.2] at hv; injection hv.1 with h4
 rw [this]
theorem aD.look_ok {t e:TypeId} (h:aD enc P k w b n M) (L:Keyed P k) (ht:P.underlying t=some (.map k e)) {z:Value} (hz:(zeroValue e).run P w=.ok z w) {x:K} {kl:Lit} (hkey:keyOf P k (enc x)=some kl) :
  (Instr.lookup t (.map (some b)) (enc x) true).run P w=.ok (.tuple #[(M x).getD z,.bool (M x).isSome]) w:=by
 obtain ⟨D,h1,h2⟩:=h;obtain ⟨v,ps,hrun,hv⟩:=h1.look_ok L ht hz (zd:=.held z) (zp:=[]) rfl hkey;have h3:=h2 x kl hkey;rw [hrun];simp only [Mh,Option.some.injEq,Prod.mk.injEq] at hv;cases e:M x with
 | none=>rw [e] at h3; rw [h3.2] at hv; injection hv.1 with h4; rw [h4,h3.1]; rfl
 | some u=>rw [e] at h3; rw [h3.2] at hv; injection hv.1 with h4; rw [h4,h3.1]; rfl
theorem aD.store [DecidableEq K] {t e:TypeId} (h:aD enc P k w b n M) (L:Keyed P k) (hinj:∀ x y,enc x=enc y→x=y) (ht:P.underlying t=some (.map k e)) (hn:n < maxLen) {x:K} {kl:Lit} (hkey:keyOf P k (enc x)=some kl) (v:Value) :
  ∃ w',(Instr.mapUpdate t (.map (some b)) (enc x) v).run P w=.ok () w'∧aD enc P k w' b (n + 1) (fw M x (some v))∧w.grownBy w' (some b):=by
 obtain ⟨D,h1,h2⟩:=h;obtain ⟨w',hrun,h3,h4⟩:=h1.update L ht hn hkey (val:=v) (d:=.held v) (ps:=[]) rfl;refine ⟨w',hrun,⟨D.put kl (.held v),h3,fun y ky hy=>?_⟩,h4⟩;by_cases e:y=x
 ·subst e;obtain rfl:ky=kl:=by rw [hkey] at hy; injection hy with hy; exact hy.symm
  rw [cB];exact ⟨has_put_same h1.isMap (L.key hkey) _,fun z=>atKey_put_same h1.isMap (L.key hkey) _ z⟩
 ·have hne:ky ≠ kl:=fun e2=>e (hinj _ _ (L.inj (by rw [e2] at hy; exact hy) hkey));rw [bf e];have h5:=h2 y ky hy;cases e3:M y with
  | none=>rw [e3] at h5; exact ⟨by rw [has_put_other hne]; exact h5.1,fun z=>by rw [atKey_put_other hne]; exact h5.2 z⟩
  | some u=>rw [e3] at h5; exact ⟨by rw [has_put_other hne]; exact h5.1,fun z=>by rw [atKey_put_other hne]; exact h5.2 z⟩
end
section
variable {K:Type} {enc:K→Value} {P:Program} (w:World) {ops:Array Oper} {rest:List Oper} {o:Oper} {a:Act} {Q:Exit→Act→World→Prop}
theorem iY (hg:o.guard=none) (m x:Operand) (t:TypeId) (hop:o.op=Op.lookup t m x false) (k e:TypeId) (L:Keyed P k) (ht:P.underlying t=some (.map k e)) {z:Value} (hz:(zeroValue e).run P w=.ok z w) (b n:Nat) (M:K→Option Value)
  (hm:a.eval m=.map (some b)) (hV:aD enc P k w b n M) (y:K) (kl:Lit) (hx:a.eval x=enc y) (hkey:keyOf P k (enc y)=some kl)
  (hK:wpList P ops Q rest (a.put o.dst ((M y).getD z)) w):wpList P ops Q (o::rest) a w:=by
 refine wpList_plain hg fun K' hK'=>?_;have hrun:=hV.look L ht hz hkey;unfold Oper.wp;simp [execOp,hop,hm,hx,hrun,Result.andThen];exact hK' _ _ hK
theorem bW (hg:o.guard=none) (m x:Operand) (t:TypeId) (hop:o.op=Op.lookup t m x true) (k e:TypeId) (L:Keyed P k) (ht:P.underlying t=some (.map k e)) {z:Value} (hz:(zeroValue e).run P w=.ok z w) (b n:Nat) (M:K→Option Value)
  (hm:a.eval m=.map (some b)) (hV:aD enc P k w b n M) (y:K) (kl:Lit) (hx:a.eval x=enc y) (hkey:keyOf P k (enc y)=some kl)
  (hK:wpList P ops Q rest (a.put o.dst (.tuple #[(M y).getD z,.bool (M y).isSome])) w):wpList P ops Q (o::rest) a w:=by
 refine wpList_plain hg fun K' hK'=>?_;have hrun:=hV.look_ok L ht hz hkey;unfold Oper.wp;simp [execOp,hop,hm,hx,hrun,Result.andThen];exact hK' _ _ hK
theorem jB [DecidableEq K] (hg:o.guard=none) (m x v:Operand) (t:TypeId) (hop:o.op=Op.mapUpdate t m x v) (k e:TypeId) (L:Keyed P k) (hinj:∀ x y,enc x=enc y→x=y) (ht:P.underlying t=some (.map k e)) (b n:Nat) (M:K→Option Value)
  (hm:a.eval m=.map (some b)) (hV:aD enc P k w b n M) (hn:n < maxLen) (y:K) (kl:Lit) (hx:a.eval x=enc y) (hkey:keyOf P k (enc y)=some kl) (u:Value) (hv:a.eval v=u)
  (hK:∀ w',aD enc P k w' b (n + 1) (fw M y (some u))→w.grownBy w' (some b)→wpList P ops Q rest (a.put o.dst undef) w'):wpList P ops Q (o::rest) a w:=by
 refine wpList_plain hg fun K' hK'=>?_;obtain ⟨w',hrun,r1,r2⟩:=hV.store L hinj ht hn hkey u;unfold Oper.wp;simp [execOp,hop,hm,hx,hv,hrun,Result.andThen];exact hK' _ _ (hK w' r1 r2)
end
def dJ (k:ByteArray × ByteArray):Value:=.agg #[.string k.1,.string k.2]
theorem oF (x y:ByteArray × ByteArray) (h:dJ x=dJ y):x=y:=by
 unfold dJ at h;injection h with h;have h1:=congrArg Array.toList h;simp at h1;exact Prod.ext h1.1 h1.2
theorem xZ:laidOutB prog=true:=by kernel_rfl
theorem Mi:(130:TypeId) < prog.types.size:=of_decide_eq_true (by kernel_rfl)
theorem OO:(match prog.underlying 130 with | some (.array _ _) | some (.struct _)=>true | _=>false)=true:=by rw [underlying130]
set_option maxRecDepth 100000 in
theorem Ck:WideMaps.KeyLaw prog 130:=deep_law_laid xZ (m:=2) (by omega) Mi (by kernel_rfl) OO
theorem ib:Keyed prog 130:=Keyed.of_law Ck
theorem OP:prog.keyType 130=true:=by kernel_rfl
theorem Em:prog.cellsOf 130=2:=by kernel_rfl
theorem strCells:prog.cellsOf 9=1:=by kernel_rfl
theorem J3:∃ n,prog.types.size=n + 1:=Nat.exists_eq_succ_of_ne_zero (Nat.ne_of_gt (Nat.lt_of_le_of_lt (R6 _) Mi))
theorem ik (k:ByteArray × ByteArray) (h1:k.1.size≤maxLen) (h2:k.2.size≤maxLen):∃ kl,keyOf prog 130 (dJ k)=some kl:=by
 obtain ⟨n,hn⟩:=J3;refine ⟨.string (keyBytes [.string k.1.data.toList,.string k.2.data.toList]),?_⟩;unfold keyOf;rw [underlying130];simp only [OP,dJ,Value.formed,underlying130,Em,hn,Value.cells];simp [Program.keyLits,underlying130,underlying9,Em,strCells,h1,h2]
open Go.ChangeMaps (setBlock heap_setBlock_same heap_setBlock_other)
section
variable {K:Type} {enc:K→Value} {P:Program} {k:TypeId} {w:World} {b n:Nat} {M:K→Option Value}
theorem aD.of_block {w':World} (h:aD enc P k w b n M) (e:w'.heap[b]?=w.heap[b]?):aD enc P k w' b n M:=by
 obtain ⟨D,⟨es,clock,hb,r⟩,h2⟩:=h;exact ⟨D,⟨es,clock,e.trans hb,r⟩,h2⟩
theorem oG {w:World} {b:Nat} {es es':Array MapEntry} {c c':Nat} (hb:w.heap[b]?=some (.map es c)):w.grownBy (setBlock w b (.map es' c')) (some b) :=
 ⟨rfl,rfl,rfl,by simp [setBlock],fun i _ hi=>heap_setBlock_other hb _ (fun e=>hi (by rw [e]))⟩
theorem aD.entry [DecidableEq K] {t e:TypeId} (h:aD enc P k w b n M) (L:WideMaps.KeyLaw P k) (hinj:∀ x y,enc x=enc y→x=y) (ht:P.underlying t=some (.map k e)) {z:Value} (hz:∀ u:World,(zeroValue e).run P u=.ok z u) (hn:n < maxLen) {x:K} {kl:Lit} (hkey:keyOf P k (enc x)=some kl) :
  ∃ (st:Nat) (w1:World),(Instr.mapEntry t (.map (some b)) (enc x)).run P w=.ok (.tuple #[(M x).getD z,goInt st]) w1∧w.grownBy w1 (some b) ∧
   ∀ (w2:World) (val:Value),w2.heap[b]?=w1.heap[b]?→∃ w3,(Instr.entryStore t (.map (some b)) (goInt st) val).run P w2=.ok () w3∧aD enc P k w3 b (n + 1) (fw M x (some val))∧w2.grownBy w3 (some b):=by
 have LK:=Keyed.of_law L;have hlook:=h.look LK ht (hz w) hkey;have hst:=fun v=>h.store LK hinj ht hn hkey v;obtain ⟨D,⟨es,clock,hb,F,hs,hD⟩,h2⟩:=h;obtain ⟨v0,st,es1,clock1,hrun,hv0,hback⟩:=WideElems.entry_then_store L ht hz hb F hkey;have hb1:(setBlock w b (.map es1 clock1)).heap[b]?=some (.map es1 clock1):=heap_setBlock_same hb _;have ev:v0=(M x).getD z:=by
  have hl:=hlook;rcases Maps.fit_look false LK ht (hz w) hb F hkey with ⟨Uu,hno,-⟩ | ⟨e0,y,hmem,hek,Uu,-,-,-⟩
  ·rw [hl] at Uu;injection Uu with e1;rcases hv0 with ⟨e0,hm,hk0,-⟩ | ⟨-,hz0⟩
   ·exact absurd hk0 (hno e0 hm)
   ·rw [hz0,e1]; rfl
  ·rw [hl] at Uu;injection Uu with e1;rcases hv0 with ⟨e1',hm,hk0,hv⟩ | ⟨hno,-⟩
   ·have hnd:=F.stamped.2.2;have:e1'=e0:=by
     have h3:e1'.key=e0.key:=by rw [hk0,hek]
     obtain ⟨i,hi,hie⟩:=List.mem_iff_getElem.1 hm;obtain ⟨j,hj,hje⟩:=List.mem_iff_getElem.1 hmem;have h4:(es.toList.map (·.key))[i]'(by simpa using hi)=(es.toList.map (·.key))[j]'(by simpa using hj):=by simp only [List.getElem_map,hie,hje]; exact h3
     have h6:=List.pairwise_iff_getElem.1 hnd;have h5:i=j:=by
      rcases Nat.lt_trichotomy i j with hl | hl | hl
      ·exact absurd h4 (h6 i j _ _ hl)
      ·exact hl
      ·exact absurd h4.symm (h6 j i _ _ hl)
     subst h5;rw [← hie,← hje]
    rw [hv,this,e1]; rfl
   ·exact absurd hek (hno e0 hmem)
 refine ⟨st,_,by rw [hrun,ev],oG hb,fun w2 val hw2=>?_⟩;have hw2':w2.heap[b]?=some (.map es1 clock1):=hw2.trans hb1;obtain ⟨es',clock',hr1,hr2⟩:=hback w2 val hw2';obtain ⟨w',hr3,hM',-⟩:=hst val;rw [hr2] at hr3;injection hr3 with _ e3;refine ⟨_,hr1,hM'.of_block ?_,oG hw2'⟩;rw [← e3,heap_setBlock_same hb,heap_setBlock_same hw2']
end
section
variable {K:Type} {enc:K→Value} {P:Program} (w:World) {ops:Array Oper} {rest:List Oper} {o:Oper} {a:Act} {Q:Exit→Act→World→Prop}
theorem qc [DecidableEq K] (hg:o.guard=none) (m x:Operand) (t:TypeId) (hop:o.op=Op.mapEntry t m x) (k e:TypeId) (L:WideMaps.KeyLaw P k) (hinj:∀ x y,enc x=enc y→x=y) (ht:P.underlying t=some (.map k e)) {z:Value} (hz:∀ u:World,(zeroValue e).run P u=.ok z u) (b n:Nat) (M:K→Option Value)
  (hm:a.eval m=.map (some b)) (hV:aD enc P k w b n M) (hn:n < maxLen) (y:K) (kl:Lit) (hx:a.eval x=enc y) (hkey:keyOf P k (enc y)=some kl)
  (hK:∀ (st:Nat) (w1:World),w.grownBy w1 (some b)→(∀ (w2:World) (val:Value),w2.heap[b]?=w1.heap[b]?→∃ w3,(Instr.entryStore t (.map (some b)) (goInt st) val).run P w2=.ok () w3∧aD enc P k w3 b (n + 1) (fw M y (some val))∧w2.grownBy w3 (some b)) →
   wpList P ops Q rest (a.put o.dst (.tuple #[(M y).getD z,goInt st])) w1):wpList P ops Q (o::rest) a w:=by
 refine wpList_plain hg fun K' hK'=>?_;obtain ⟨st,w1,hrun,h1,h2⟩:=hV.entry L hinj ht hz hn hkey;unfold Oper.wp;simp [execOp,hop,hm,hx,hrun,Result.andThen];exact hK' _ _ (hK st w1 h1 h2)
theorem kH (hg:o.guard=none) (m s v:Operand) (t:TypeId) (hop:o.op=Op.entryStore t m s v) (b st:Nat) (hm:a.eval m=.map (some b)) (hs:a.eval s=goInt st) (u:Value) (hv:a.eval v=u) (k:TypeId) (n:Nat) (M:K→Option Value)
  (hback:∃ w3,(Instr.entryStore t (.map (some b)) (goInt st) u).run P w=.ok () w3∧aD enc P k w3 b n M∧w.grownBy w3 (some b))
  (hK:∀ w',aD enc P k w' b n M→w.grownBy w' (some b)→wpList P ops Q rest (a.put o.dst undef) w'):wpList P ops Q (o::rest) a w:=by
 refine wpList_plain hg fun K' hK'=>?_;obtain ⟨w3,hrun,h1,h2⟩:=hback;unfold Oper.wp;simp [execOp,hop,hm,hs,hv,hrun,Result.andThen];exact hK' _ _ (hK w3 h1 h2)
end
end Go.Proofs.YtdaoiceeidoehaaGreat
