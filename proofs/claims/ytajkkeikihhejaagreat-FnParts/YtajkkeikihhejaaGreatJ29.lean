/- What leans on what, in the program's list and in the document's words: the same. -/
import Derived.Test.YtajkkeikihhejaaGreatSq
import Derived.Test.YtajkkeikihhejaaGreatJ25
import Derived.Test.YtajkkeikihhejaaGreatJ28
namespace Go.Proofs.YtajkkeikihhejaaGreat
open Pl
theorem ME (ng:Bool)(xs:List Al):dm ng xs=(dJ xs).map fun a=>(⟨a.t,a.s,ng⟩:Dp):=by
 induction xs with
 | nil=>rfl
 | cons a xs ih=>simp only [dm,dJ];split <;> simp [ih]
theorem Dw (ts:List Ty)(typ:bI)(ng:Bool)(e:Ex)(hn:av e=true)(hd:e.kind=3->bz (aB ts typ e.over)=true):dm ng e.allow++kN ts typ ng e=(ji ts typ e).map fun a=>(⟨a.t,a.s,ng⟩:Dp):=by
 by_cases h1:e.kind=1
 ·unfold kN ji;rw [if_neg (by omega),if_neg (by omega),if_pos h1,List.append_nil,ME]
 rw [uf hn h1];unfold kN ji;rw [if_neg h1];by_cases h2:e.kind=2
 ·rw [if_pos h2,if_pos h2];rfl
 rw [if_neg h2,if_neg h2];by_cases h3:e.kind=3
 ·rw [if_pos h3,if_pos h3];unfold gy;rw [if_pos (hd h3),List.map_map];rfl
 rw [if_neg h3,if_neg h3];rfl
theorem Dx {ts:List Ty}{typ:ByteArray}{es:List Ex}{d:Dp}{i:Nat}(hd:d∈ik ts typ es i):∀ {k:Nat},i<k->d∈aP ts typ es k
 | 0,h=>by omega
 | k+1,h=>by
  simp only [aP];by_cases e:i=k
  ·subst e;exact Uq.2 (.inr hd)
  exact Uq.2 (.inl (Dx hd (by omega)))
theorem Bh {ts:List Ty}{t r:ByteArray}{es:List Ex}{x:Ky×St}:∀ {k:Nat},x∈relE ts t r es k ↔ ∃ i,i<k/\∃ e,es[i]?=some e/\x∈Az ts t r ((dC es).getD i false) e
 | 0=>by simp [relE]
 | k+1=>by
  simp only [relE,Uq];rw [Bh];constructor
  ·rintro (⟨i,hi,h⟩|h)
   ·exact ⟨i,by omega,h⟩
   cases e:es[k]? with
   | none=>rw [e]at h;cases h
   | some y=>rw [e]at h;exact ⟨k,by omega,y,e,h⟩
  rintro ⟨i,hi,e,he,h⟩;by_cases ek:i=k
  ·subst ek;right;rw [he];exact h
  exact .inl ⟨i,by omega,e,he,h⟩
theorem pJ {rs:List TR}(h:bi (ae rs)=true){t:TR}(ht:t∈rs){q:RR}(hq:q∈t.rows):fH (ae rs) t.name q.name=some (aj q.rows):=by
 have hT:=wK h;have hs:=sD (M:=fun _=>none) (rs:=rs) (k:=(t.name,q.name)) (.inr ⟨t,ht,q,hq,rfl⟩);obtain ⟨v,hv⟩:=Option.isSome_iff_exists.1 hs;obtain ⟨t',ht',q',hq',e,-,e2,-⟩:=hT.yes _ v hv;injection e with e3 e4;have h1:t=t':=F3 h ht ht' e3;subst h1;obtain ⟨i,hi,rfl⟩:=List.mem_iff_getElem.1 ht;have h2:q=q':=F5 (lw h i hi).2.2 hq hq' e4;subst h2;exact e2
theorem jo {es:List Ex}(h:aK es=true):∀ e∈es,av e=true:=by
 simp only [aK,Ug]at h;exact Un.1 h.1.1.1.2
theorem GN (t r:bI)(ng:Bool):stepOf ⟨t,r,ng⟩=xR ng:=by cases ng <;> rfl
theorem Q6 {rs:List TR}(h:bi (ae rs)=true)(hr:iH (ae rs)=true):Edge (ae rs) (jl (ae rs) rs):=by
 have UM:∀ t∈rs,∀ q∈t.rows,∀ e∈aj q.rows,av e=true/\(e.kind=3->bz (aB (ae rs) t.name e.over)=true):=by
  intro t ht q hq e he;have h1:=((bu h).2.2 t ht q hq).1;refine ⟨jo h1 e he,fun h3=>?_⟩;unfold iH at hr;rw [Un]at hr;have h2:=hr t.p (List.mem_map_of_mem ht);unfold qH at h2;rw [Un]at h2;have h4:aS (ae rs) t.name (aj q.rows)=true:=h2 q.p (List.mem_map_of_mem hq);have h5:=(CK h4 e he).2;unfold ll at h5;rw [if_neg (by omega),if_pos h3,Ug]at h5;exact h5.1
 intro on t0 r0 s;constructor
 ·intro hm;unfold jl jk at hm;rw [Ut]at hm;obtain ⟨t,ht,hm⟩:=hm;rw [Ut]at hm;obtain ⟨q,hq,hm⟩:=hm;obtain ⟨i,hi,e,he,hm⟩:=Bh.1 hm;unfold Az at hm;obtain ⟨a,ha,e1⟩:=Ur.1 hm;injection e1 with e2 e3;injection e3 with e4 e5 e6;subst e4;subst e5;refine ⟨qJ.2 ⟨t.p,List.mem_map_of_mem ht,q.p,List.mem_map_of_mem hq,rfl⟩,⟨a.t,a.s,(dC (aj q.rows)).getD i false⟩,?_,e2,by rw [GN];exact e6⟩;unfold il pX;have ero:aB (ae rs) t.name q.name=aj q.rows:=by unfold aB;rw [pJ h ht hq];rfl
  simp only [ero];have hi2:i<(aj q.rows).length:=(List.getElem?_eq_some_iff.1 he).1;refine Dx (i:=i) ?_ hi2;unfold ik;rw [he];obtain ⟨n1,n2⟩:=UM t ht q hq e (List.mem_of_getElem? he);simp only;rw [Dw _ _ _ _ n1 n2];exact List.mem_map_of_mem (f:=fun a:Al=>(⟨a.t,a.s,(dC (aj q.rows)).getD i false⟩:Dp)) ha
 rintro ⟨hk,d,hd,e1,e2⟩;obtain ⟨t',ht',r',hr',e3⟩:=qJ.1 hk;obtain ⟨t,ht,rfl⟩:=Ur.1 ht';obtain ⟨q,hq,rfl⟩:=Ur.1 hr';injection e3 with e4 e5;subst e4;subst e5;unfold il pX at hd;have ero:aB (ae rs) t.p.name q.p.name=aj q.rows:=by
  have:=pJ h ht hq;show aB (ae rs) t.name q.name=_;unfold aB;rw [this];rfl
 simp only [ero]at hd;obtain ⟨i,hi,hd⟩:=tK hd;unfold ik at hd;split at hd
 ·cases hd
 rename_i e he;obtain ⟨n1,n2⟩:=UM t ht q hq e (List.mem_of_getElem? he);have hdn:dm ((dC (aj q.rows)).getD i false) e.allow++kN (ae rs) t.p.name ((dC (aj q.rows)).getD i false) e=_:=Dw (ae rs) t.name _ e n1 n2;rw [hdn]at hd;obtain ⟨a,ha,rfl⟩:=Ur.1 hd;unfold jl jk;rw [Ut];refine ⟨t,ht,?_⟩;rw [Ut];refine ⟨q,hq,Bh.2 ⟨i,by rw [aN]at hi;exact hi,e,he,?_⟩⟩;unfold Az;rw [Ur];refine ⟨a,ha,?_⟩;rw [<-e1,<-e2,GN];rfl
theorem PO {rs:List TR}(h:bi (ae rs)=true):∀ r∈rs,∀ q∈r.rows,∀ e∈q.rows,e.e.allow.length<=6:=by
 intro r hr q hq e he;have h1:=jo ((bu h).2.2 r hr q hq).1 e.e (by unfold aj;exact List.mem_map_of_mem he);by_cases h2:e.e.kind=1
 ·unfold av at h1;rw [if_pos h2]at h1;simp only [Ug,ed,Um]at h1;exact h1.1.1.1.1.2
 rw [uf h1 h2];simp
theorem qW {α β:Type}(f:α->List β)(B:Nat):∀ (xs:List α),(∀ x∈xs,(f x).length<=B)->(xs.flatMap f).length<=xs.length*B
 | [],_=>by simp
 | x::xs,h=>by
  rw [List.flatMap_cons,Ul,List.length_cons,Nat.succ_mul];have h1:=h x (by simp);have h2:=qW f B xs fun q hq=>h q (by simp [hq]);omega
theorem MF (rs:List TR)(h6:∀ r∈rs,r.rows.length<=6)(hex:∀ r∈rs,∀ q∈r.rows,aK (aj q.rows)=true/\q.rows.length<=15/\∀ e∈q.rows,dW q.rows.length e.e.kids)(h66:∀ r∈rs,∀ q∈r.rows,∀ e∈q.rows,e.e.allow.length<=6)(hl:rs.length<=6:=by omega):(jl (ae rs) rs).length<=100000:=by
 have h1:∀ t∈rs,(jk (ae rs) t.name t.rows).length<=540:=by
  intro t ht;have h2:∀ q∈t.rows,(relE (ae rs) t.name q.name (aj q.rows) q.rows.length).length<=90:=by
   intro q hq;have h3:∀ k,k<=q.rows.length->(relE (ae rs) t.name q.name (aj q.rows) k).length<=k*6:=by
    intro k
    induction k with
    | zero=>intro _;simp [relE]
    | succ k ih =>
     intro hk;rw [Dc _ _ _ _ _ (by omega) _ rfl,Ul];have h4:=ih (by omega);have h5:(Az (ae rs) t.name q.name ((dC (aj q.rows)).getD k false) q.rows[k].e).length<=6:=by
      unfold Az;rw [UK];exact De rs h66 _ _ (h66 t ht q hq _ (Ud (by omega)))
     omega
   have h4:=h3 q.rows.length (Ue _);have h5:=(hex t ht q hq).2.1;omega
  have h3:=qW (fun q:RR=>relE (ae rs) t.name q.name (aj q.rows) q.rows.length) 90 t.rows h2;have h4:=h6 t ht;unfold jk;omega
 have h2:=qW (fun t:TR=>jk (ae rs) t.name t.rows) 540 rs h1;unfold jl;omega
open Go.ChangeAt Go.ChangeShapes Go.Maps Go.RowKit Go.WideShapes
set_option linter.unusedVariables false
def nu (known:List Fc)(f:Fc)(t:Tp):Bool:=if t.s.toList.isEmpty then t.c.toList==f.c.toList&&t.d.toList==f.d.toList else bn known ⟨t.c,t.d,t.s,f.c,f.d⟩
def vW (known:List Fc)(name:ByteArray)(f:Fc)(t:Tp):Bool:=bn known ⟨t.c,t.d,name,f.c,f.d⟩
theorem GQ (l:List Tp)(k:K3)(p:Tp->Bool):(G.lookL (dM l) k).any p=l.any fun t=>(t.a.toList==k.1.toList&&t.b.toList==k.2.1.toList&&t.r.toList==k.2.2.toList)&&p t:=by
 induction l with
 | nil=>rfl
 | cons t l ih =>
  have e:dM (t::l)=[(LZ t,t)]++dM l:=rfl;rw [e,G.lookL_append,List.any_append,ih,List.any_cons];congr 1;unfold G.lookL LZ;by_cases h:(t.a,t.b,t.r)=k
  ·subst h;simp
  have h2:(t.a.toList==k.1.toList&&t.b.toList==k.2.1.toList&&t.r.toList==k.2.2.toList)=false:=by
   cases hb:(t.a.toList==k.1.toList&&t.b.toList==k.2.1.toList&&t.r.toList==k.2.2.toList);case false=>rfl
   rw [Ug,Ug,fw,fw,fw]at hb;exact absurd (Prod.ext hb.1.1 (Prod.ext hb.1.2 hb.2)) h
  simp [h,h2]
theorem JJ (l:List Tp)(known:List Fc)(f:Fc):eB l known f=(G.lookL (dM l) (f.a,f.b,f.r)).any (nu known f):=by rw [GQ];rfl
theorem JK (l:List Tp)(known:List Fc)(over name:bI)(f:Fc):fU l known over name f=(G.lookL (dM l) (f.a,f.b,over)).any (vW known name f):=by rw [GQ];rfl
theorem MG (st:ByteArray×ByteArray->Int)(n:Int)(o:Al)(tn:bI)(rows:List RR):((rows.map fun r=>(tn,r.name)).filter fun k=>k.1.toList==o.t.toList&&decide (st k=n))=(G.lookL (rows.map fun r=>((tn,st (tn,r.name)),r)) (o.t,n)).map fun r=>(o.t,r.name):=by
 induction rows with
 | nil=>rfl
 | cons r rows ih =>
  have e:((r::rows).map fun r=>((tn,st (tn,r.name)),r))=[((tn,st (tn,r.name)),r)]++rows.map fun r=>((tn,st (tn,r.name)),r):=rfl;rw [e,G.lookL_append,List.map_append,<-ih,List.map_cons,List.filter_cons];unfold G.lookL;by_cases h:tn=o.t/\st (tn,r.name)=n
  ·obtain ⟨rfl,rfl⟩:=h;simp
  have h1:(tn.toList==o.t.toList&&decide (st (tn,r.name)=n))=false:=by
   cases hb:(tn.toList==o.t.toList&&decide (st (tn,r.name)=n));case false=>rfl
   rw [Ug,fw,Um]at hb;exact absurd hb h
  have h2:¬ ((tn,st (tn,r.name))=(o.t,n)):=fun e=>h ⟨congrArg Prod.fst e,congrArg Prod.snd e⟩;simp [h1,h2]
theorem GR (st:ByteArray×ByteArray->Int)(n:Int)(o:Al)(rs:List TR):Ap (ae rs) st n o=(G.lookL (eY st rs) (o.t,n)).map fun r=>(o.t,r.name):=by
 unfold Ap
 induction rs with
 | nil=>rfl
 | cons t rs ih =>
  have e1:ak (ae (t::rs))=(t.rows.map fun r=>(t.name,r.name))++ak (ae rs):=by
   have:jH t.p=t.rows.map fun r=>(t.name,r.name):=by unfold jH;show List.map _ (eF t.rows)=_;unfold eF;rw [List.map_map];rfl
   simp [ak,ae,this]
  have e2:eY st (t::rs)=(t.rows.map fun r=>((t.name,st (t.name,r.name)),r))++eY st rs:=rfl;rw [e1,e2,G.lookL_append,UL,List.map_append,ih,MG]
theorem Bi {s:St}:∀ {sts:List St},(iJ sts).Nodup->s∈sts->fM sts s.key=s.n
 | [],_,h=>by cases h
 | x::xs,hd,h=>by
  have hd2:x.key ∉ iJ xs/\(iJ xs).Nodup:=List.nodup_cons.1 hd;unfold fM;by_cases e:zP x s.key.1 s.key.2=true
  ·rw [if_pos e];have ek:=qG.1 e;rcases List.mem_cons.1 h with rfl|h
   ·rfl
   exact absurd (by rw [ek];exact List.mem_map_of_mem h) hd2.1
  rw [if_neg e];rcases List.mem_cons.1 h with rfl|h
  ·exact absurd (qG.2 rfl) e
  exact Bi hd2.2 h
def TQ (sts:List St)(n:Int)(o:Al):List St:=sts.filter fun s=>s.typ.toList==o.t.toList&&decide (s.n=n)
theorem Q7 {ts:List Ty}{sts:List St}(hk:iJ sts=ak ts)(hn:(ak ts).Nodup)(n:Int)(o:Al):Ap ts (fM sts) n o=(TQ sts n o).map St.key:=by
 unfold Ap TQ;rw [<-hk];rw [<-hk]at hn;unfold iJ;rw [List.filter_map];congr 1;refine List.filter_congr fun s hs=>?_;show (s.key.1.toList==o.t.toList&&decide (fM sts s.key=n))=_;rw [Bi hn hs];rfl
theorem JL {rs:List TR}(h:bi (ae rs)=true):(ak (ae rs)).Nodup:=by
 have e:ak (ae rs)=rs.flatMap fun t=>t.rows.map fun r=>(t.name,r.name):=by
  unfold ak ae;rw [List.flatMap_map];congr 1
  funext t
  unfold jH;show List.map _ (eF t.rows)=_;unfold eF;rw [List.map_map];rfl
 rw [e,List.Nodup,List.pairwise_flatMap];constructor
 ·intro t ht;obtain ⟨i,hi,rfl⟩:=List.mem_iff_getElem.1 ht;have hu:=(lw h i hi).2.2;rw [List.pairwise_map,List.pairwise_iff_getElem];intro a b ha hb hab e;have hne:=rD (f:=fun k=>(rs[i].rows[k]?.map RR.name).getD ByteArray.empty) (n:=rs[i].rows.length) (fun k hk=>by
   have h0:k<rs[i].rows.length:=by omega
   simp only [Uj hk,Uj h0,Option.map_some,Option.getD_some];exact (CP hu (k+1) hk hk).2.1 k h0 rfl)
  have:=hne a b hab hb;simp [ha,hb]at this;exact this (congrArg Prod.snd e)
 rw [List.pairwise_iff_getElem];intro a b ha hb hab x hx y hy e;obtain ⟨r,hr,rfl⟩:=Ur.1 hx;obtain ⟨q,hq,rfl⟩:=Ur.1 hy;have hne:=rD (f:=fun k=>(rs[k]?.map TR.name).getD ByteArray.empty) (n:=rs.length) (fun k hk=>by
  have h0:k<rs.length:=by omega
  simp only [Uj hk,Uj h0,Option.map_some,Option.getD_some];exact (lw h (k+1) hk).2.1 k h0 rfl)
 have:=hne a b hab hb;simp [ha,hb]at this;exact this (congrArg Prod.fst e)
theorem GU {α:Type}[DecidableEq α]:∀ {a b:List α},a.Nodup->(∀ x∈a,x∈b)->a.length<=b.length
 | [],_,_,_=>Ui _
 | x::a,b,hd,hs=>by
  obtain ⟨h1,h2⟩:=List.nodup_cons.1 hd;have hx:=hs x (by simp);have:=GU (a:=a) (b:=b.erase x) h2 fun y hy=>(List.mem_erase_of_ne (fun e:y=x=>h1 (by rw [<-e];exact hy))).2 (hs y (by simp [hy]));rw [List.length_erase_of_mem hx]at this;have hp:0<b.length:=List.length_pos_of_mem hx;simp only [List.length_cons];omega
def BP (ts:List Ty)(xo xu:List Al):List Fc:=xo.flatMap fun o=>(ak ts).flatMap fun k=>jc o k.2 xu
theorem Dy {ts:List Ty}{st:ByteArray×ByteArray->Int}{xo xu:List Al}{n:Int}{f:Fc}(h:f∈bZ ts st xo xu n):f∈BP ts xo xu:=by
 unfold bZ vC at h;obtain ⟨o,ho,h⟩:=Ut.1 h;obtain ⟨k,hk,h⟩:=Ut.1 h;exact Ut.2 ⟨o,ho,Ut.2 ⟨k,(UJ.1 hk).1,h⟩⟩
theorem Bj {α β:Type}(f:α->List β)(m:Nat)(hf:∀ a,(f a).length<=m):∀ l:List α,(l.flatMap f).length<=l.length*m
 | []=>by simp
 | a::l=>by
  have h1:=Bj f m hf l;have h2:=hf a;simp only [List.flatMap_cons,Ul,List.length_cons,Nat.add_mul];omega
theorem PP (ts:List Ty)(xo xu:List Al):(BP ts xo xu).length<=xo.length*((ak ts).length*xu.length) :=
 Bj _ _ (fun o=>Bj _ _ (fun k=>by unfold jc;rw [UK];exact Ue _) _) _
structure GoodO (ts:List Ty)(xo xu:List Al)(out:List Fc):Prop where
 once:out.Nodup
 sub:∀ g∈out,g∈BP ts xo xu
def Tu (us:List Al):List (ByteArray×ByteArray):=us.map fun u=>(u.t,u.s)
def Tv (us:List Al)(x:ByteArray×ByteArray):Bool:=us.any fun u=>u.t.toList==x.1.toList&&u.s.toList==x.2.toList
theorem yQ {us:List Al}{x:ByteArray×ByteArray}:Tv us x=true ↔ x∈Tu us:=by
 unfold Tv Tu;rw [UA,Ur];constructor
 ·rintro ⟨u,hu,h⟩;rw [Ug,fw,fw]at h;exact ⟨u,hu,Prod.ext h.1 h.2⟩
 rintro ⟨u,hu,rfl⟩;exact ⟨u,hu,by simp⟩
def fo (us:List Al)(new:List Fc):List Al:=us.filter fun u=>new.any fun g=>g.c.toList==u.t.toList&&g.d.toList==u.s.toList
theorem Dz {us:List Al}{new:List Fc}{x:ByteArray×ByteArray}:x∈Tu (fo us new) ↔ x∈Tu us/\∃ g∈new,g.u=x:=by
 unfold Tu fo;constructor
 ·intro h;obtain ⟨u,hu,rfl⟩:=Ur.1 h;obtain ⟨h1,h2⟩:=UJ.1 hu;obtain ⟨g,hg,h3⟩:=UA.1 h2;rw [Ug,fw,fw]at h3;exact ⟨List.mem_map_of_mem (f:=fun u:Al=>(u.t,u.s)) h1,g,hg,Prod.ext h3.1 h3.2⟩
 rintro ⟨h,g,hg,hx⟩;obtain ⟨u,hu,rfl⟩:=Ur.1 h;refine Ur.2 ⟨u,UJ.2 ⟨hu,UA.2 ⟨g,hg,?_⟩⟩,rfl⟩;rw [Ug,fw,fw];exact ⟨congrArg Prod.fst hx,congrArg Prod.snd hx⟩
theorem JM (us:List Al):fo us []=[]:=by unfold fo;rw [List.filter_eq_nil_iff];simp
theorem JN {ts:List Ty}{xo xu:List Al}{n:Int}{st st':ByteArray×ByteArray->Int}(h:∀ k∈ak ts,st k=st' k):bZ ts st xo xu n=bZ ts st' xo xu n:=by
 unfold bZ vC;congr 1
 funext o
 have:Ap ts st n o=Ap ts st' n o:=List.filter_congr fun k hk=>by rw [h k hk]
 rw [this]
set_option linter.unusedSectionVars false
section
variable  [DecidableEq Fc]
theorem GoodO.run {ts:List Ty}{xo xu:List Al}{out:List Fc}(h:GoodO ts xo xu out){H:List Fc->Fc->Bool}{qs:List Fc}(hq:∀ g∈qs,g∈BP ts xo xu):GoodO ts xo xu (bG H qs out):=by
 refine ⟨wE qs h.once,fun g hg=>?_⟩;obtain ⟨n,e,hn⟩:=jD (H:=H) qs out;rw [e]at hg;rcases Uq.1 hg with hg|hg
 ·exact h.sub g hg
 exact hq g (hn g hg).1
theorem GoodO.len {ts:List Ty}{xo xu:List Al}{out:List Fc}(h:GoodO ts xo xu out)(h1:xo.length<=80)(h2:(ak ts).length<=36)(h3:xu.length<=40):out.length<=115200:=by
 have a1:=GU h.once h.sub;have a2:=PP ts xo xu;have a3:(ak ts).length*xu.length<=36*40:=Nat.mul_le_mul h2 h3;have a4:xo.length*((ak ts).length*xu.length)<=80*(36*40):=Nat.mul_le_mul h1 a3;omega
structure FewA (ts:List Ty)(l:List Tp)(st:ByteArray×ByteArray->Int)(xo xu:List Al)(n:Int)(us:List Al)(out:List Fc):Prop where
 sub:us=xu.filter fun u:Al=>Tv us (u.t,u.s)
 few:Few Fc.u (fe ts l) (bZ ts st xo xu n) (Tu us) out
variable  {ts:List Ty}{l:List Tp}{st:ByteArray×ByteArray->Int}{xo xu:List Al}{n:Int}
theorem FewA.start (out:List Fc):FewA ts l st xo xu n xu out:=by
 refine ⟨(List.filter_eq_self.2 fun u hu=>yQ.2 (List.mem_map_of_mem (f:=fun u:Al=>(u.t,u.s)) hu)).symm,Few.start fun f hf=>Jb hf⟩
theorem JO {φ υ:Type}[DecidableEq φ]{us:φ->υ}{H:List φ->φ->Bool}(hL:Loc us H){qs:List φ}{users:List υ}{out:List φ}(h:Few us H qs users out)(P:υ->Bool)(hP:∀ u,P u=true ↔ u∈users):bG H (qs.filter fun f=>P (us f)) out=bG H qs out :=
 (mV hL P qs out fun f hf hp=>h.set f hf fun hm=>by rw [(hP _).2 hm]at hp;cases hp).symm
theorem FewA.round {us:List Al}{out:List Fc}(h:FewA ts l st xo xu n us out):bG (fe ts l) (bZ ts st xo us n) out=bG (fe ts l) (bZ ts st xo xu n) out:=by
 have h2:=Gm ts st xo xu n (Tv us);rw [<-h.sub]at h2;rw [<-h2];exact JO (CY ts l) h.few (Tv us) fun u=>yQ
theorem FewA.next {us:List Al}{out new:List Fc}(h:FewA ts l st xo xu n us out)(hn:bG (fe ts l) (bZ ts st xo us n) out=out++new):FewA ts l st xo xu n (fo us new) (out++new):=by
 refine ⟨?_,h.few.next (CY ts l) (h.round.symm.trans hn) fun u=>Dz⟩;have h1:fo us new=(xu.filter fun u:Al=>Tv us (u.t,u.s)).filter fun u=>new.any fun g=>g.c.toList==u.t.toList&&g.d.toList==u.s.toList:=by rw [<-h.sub];rfl
 rw [List.filter_filter]at h1;refine h1.trans (List.filter_congr fun u hu=>?_);rw [Bool.eq_iff_iff,yQ,Dz,Ug,yQ,UA,and_comm];refine and_congr Iff.rfl ⟨fun ⟨g,hg,h3⟩=>⟨g,hg,?_⟩,fun ⟨g,hg,h3⟩=>⟨g,hg,?_⟩⟩
 ·rw [Ug,fw,fw]at h3;exact Prod.ext h3.1 h3.2
 rw [Ug,fw,fw];exact ⟨congrArg Prod.fst h3,congrArg Prod.snd h3⟩
theorem FewA.done {out:List Fc}(h:FewA ts l st xo xu n [] out):ku (fe ts l) (bZ ts st xo xu n) out=out:=h.few.done
theorem xk {st st':ByteArray×ByteArray->Int}(h:∀ k∈ak ts,st k=st' k):∀ N,mg ts l st xo xu N=mg ts l st' xo xu N
 | 0=>rfl
 | N+1=>by rw [jh,jh,xk h N,JN h]
end
set_option linter.unusedSectionVars false
def kF (sts:List St)(xu:List Al)(n:Int)(o:Al)(k:Nat):List Fc:=((sts.take k).filter fun s=>s.typ.toList==o.t.toList&&decide (s.n=n)).flatMap fun s=>jc o s.rel xu
def SS (sts:List St)(xu:List Al)(n:Int)(o:Al):List Fc:=kF sts xu n o sts.length
def rZ (sts:List St)(xo xu:List Al)(n:Int)(i:Nat):List Fc:=(xo.take i).flatMap (SS sts xu n)
theorem MH (sts:List St)(xu:List Al)(n:Int)(o:Al):kF sts xu n o 0=[]:=rfl
theorem Q8 {sts:List St}{xu:List Al}{n:Int}{o:Al}{k:Nat}(h:k<sts.length)(hc:(sts[k].typ.toList==o.t.toList&&decide (sts[k].n=n))=false):kF sts xu n o (k+1)=kF sts xu n o k:=by
 unfold kF;rw [Uh h,UL,List.flatMap_append];simp [hc]
theorem PQ {sts:List St}{xu:List Al}{n:Int}{o:Al}{k:Nat}(h:k<sts.length)(hc:(sts[k].typ.toList==o.t.toList&&decide (sts[k].n=n))=true):kF sts xu n o (k+1)=kF sts xu n o k++jc o sts[k].rel xu:=by
 unfold kF;rw [Uh h,UL,List.flatMap_append];simp [hc]
theorem MI {sts:List St}{xo xu:List Al}{n:Int}{i:Nat}(h:i<xo.length):rZ sts xo xu n (i+1)=rZ sts xo xu n i++kF sts xu n xo[i] sts.length:=by
 unfold rZ;rw [Uh h,List.flatMap_append];simp [SS]
theorem PR {ts:List Ty}{sts:List St}(hk:iJ sts=ak ts)(hn:(ak ts).Nodup)(xo xu:List Al)(n:Int):rZ sts xo xu n xo.length=bZ ts (fM sts) xo xu n:=by
 unfold rZ bZ;rw [Us];congr 1
 funext o
 unfold SS kF vC;rw [Us,Q7 hk hn,List.flatMap_map];rfl
theorem MJ (o:Al)(rel:bI){xu:List Al}{j:Nat}(h:j<xu.length):jc o rel (xu.take (j+1))=jc o rel (xu.take j)++[⟨o.t,o.s,rel,xu[j].t,xu[j].s⟩]:=by
 unfold jc;rw [Uh h,List.map_append];rfl
theorem Bl {e:Ex}(h:av e=true):e.kids.length<=5/\(e.kind=6->2<=e.kids.length):=by
 unfold av at h;by_cases k1:e.kind=1
 ·rw [if_pos k1]at h;simp only [Ug,Um]at h;exact ⟨by omega,fun h6=>by omega⟩
 by_cases k2:e.kind=2
 ·rw [if_neg k1,if_pos k2]at h;simp only [Ug,Um]at h;exact ⟨by omega,fun h6=>by omega⟩
 by_cases k3:e.kind=3
 ·rw [if_neg k1,if_neg k2,if_pos k3]at h;simp only [Ug,Um]at h;exact ⟨by omega,fun h6=>by omega⟩
 by_cases k4:e.kind=4\/e.kind=5
 ·rw [if_neg k1,if_neg k2,if_neg k3,if_pos k4]at h;simp only [Ug,Um]at h;exact ⟨by omega,fun h6=>by omega⟩
 by_cases k6:e.kind=6
 ·rw [if_neg k1,if_neg k2,if_neg k3,if_neg k4,if_pos k6]at h;simp only [Ug,Um]at h;exact ⟨by omega,fun h6=>by omega⟩
 rw [if_neg k1,if_neg k2,if_neg k3,if_neg k4,if_neg k6]at h;cases h
theorem EW {rows:List ER}(h:aK (aj rows)=true):Xg rows/\1<=rows.length:=by
 have hl:1<=rows.length/\rows.length<=15:=by
  unfold aK at h;simp only [Ug,Um,aN]at h;exact ⟨h.1.1.1.1.1,h.1.1.1.1.2⟩
 have hlow:=I8 h;have hkl:∀ q∈rows,q.e.kids.length<=1000:=fun q hq=>by
  have:=(Bl (jo h q.e (Ur.2 ⟨q,hq,rfl⟩))).1;omega
 refine ⟨⟨by omega,hkl,hlow,fun e he h6=>?_⟩,hl.1⟩;exact (Bl (jo h e he)).2 h6
section
variable  [DecidableEq Fc]
theorem rR (H:List Fc->Fc->Bool)(qs:List Fc)(f:Fc)(out:List Fc):bG H (qs++[f]) out=dU H (bG H qs out) f:=by rw [FD];rfl
theorem vX {H:List Fc->Fc->Bool}{out:List Fc}{f:Fc}(h:bn out f=true\/H out f=false):dU H out f=out:=by
 unfold dU;rw [if_pos];rcases h with h|h
 ·exact .inl (dE.1 h)
 exact .inr h
theorem DC {H:List Fc->Fc->Bool}{out:List Fc}{f:Fc}(h1:bn out f=false)(h2:H out f=true):dU H out f=out++[f]:=by
 unfold dU;rw [if_neg];rintro (h|h)
 ·rw [dE.2 h]at h1;cases h1
 rw [h2]at h;cases h
theorem GV (H:List Fc->Fc->Bool)(qs out:List Fc):out.length<=(bG H qs out).length:=by
 obtain ⟨n,e,-⟩:=jD (H:=H) qs out;rw [e,Ul];omega
theorem JP {H:List Fc->Fc->Bool}{qs out:List Fc}(h:decide (out.length<(bG H qs out).length)=false):bG H qs out=out:=by
 obtain ⟨n,e,-⟩:=jD (H:=H) qs out;rw [e,Ul,decide_eq_false_iff_not]at h;have:n=[]:=Uu.1 (by omega);rw [e,this,List.append_nil]
end
end Go.Proofs.YtajkkeikihhejaaGreat
