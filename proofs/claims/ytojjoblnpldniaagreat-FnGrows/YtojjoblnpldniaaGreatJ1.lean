/- A region that draws its order, by what holds whichever operations have come up: each operation is run once, from what those that it waits for have left. -/
import Derived.Test.YtojjoblnpldniaaGreatSq
import Derived.Test.YtojjoblnpldniaaGreatRows
import Derived.WalkKit
import Derived.Deep.RegionWith
import Derived.OwnWalk
import Derived.Maps.AppendAt
import Derived.RegionTactic
import Derived.Lib.QuietBelow
import Derived.BigQuiet
namespace Go.Proofs.YtojjoblnpldniaaGreat
open RowKit
theorem OA{α:Type}(p q:α->Bool)(l:List α)(h:∀x∈l,q x=true->p x=true)(y:α)(hy:y∈l)(hp:p y=true)(hq:q y=false):l.countP q<l.countP p:=by
 induction l with
 | nil=>cases hy
 | cons a l ih =>
  rw[List.countP_cons,List.countP_cons];rcases VH.1 hy with rfl|hy
  ·have:=List.countP_mono_left (p:=q) (q:=p) (l:=l) (fun x hx=>h x (V4 _ hx));simp[hp,hq];omega
  have h1:=ih (fun x hx=>h x (V4 _ hx)) hy;have h2:=h a (We ..);cases hqa:q a;case true=>simp[h2 hqa];omega
  simp;omega
section
variable  {P:Program}{ops:Array Oper}{Q:Exit->Act->World->Prop}{md:Region.Mode}
theorem aa{i:Nat}{o:Oper}{K:Act->World->Prop}{a:Act}{w:ae}(ho:ops[i]?=some o)
  (h:∀K':Act->World->Prop,Hid (∀a w,K a w->K' a w)->if Region.wanted o (yielded ops a.tmps)=true then Oper.wp P o a w K' Q else K' (a.put o.dst undef) w):wpOp P ops Q i K a w:=wpOp_step ho h
def left(ops:Array Oper)(listed:Array Bool):Nat:=(List.range ops.size).countP (fun i=>!(listed.getD i true))
theorem FY(listed:Array Bool)(i j:Nat):(listed.setIfInBounds i true).getD j true=if j=i then true else listed.getD j true:=by
 rw[VP,VP,Array.getElem?_setIfInBounds];by_cases e:i=j
 ·subst e;by_cases h:i<listed.size<;>simp[h]
 simp[e,Ne.symm e]
theorem FZ{listed:Array Bool}{i:Nat}(hi:i<ops.size)(hl:listed.getD i true=false):left ops (listed.setIfInBounds i true)<left ops listed:=by
 refine OA _ _ _ ?_ i (by simpa using hi) (by simp[hl]) (by rw[FY];simp);intro x _ hx;simp only[FY,Bool.not_eq_true']at hx ⊢;by_cases e:x=i
 ·simp[e]at hx
 simpa[e] using hx
theorem Mc(Inv:Array Bool->Act->World->Prop)
  (hstep:∀listed a w,Inv listed a w->∀i∈Region.ready md ops listed,wpOp P ops Q i (Inv (listed.setIfInBounds i true)) a w)
  (hend:∀listed a w,Inv listed a w->Region.ready md ops listed=[]->Q .normal a w) :
  ∀(fuel:Nat) (listed:Array Bool) (a:Act) (w:World),left ops listed<=fuel->Inv listed a w->wpAny P md ops Q fuel listed a w:=by
 intro fuel
 induction fuel with
 | zero =>
  intro listed a w hc hI;have hr:Region.ready md ops listed=[]:=by
   rw[List.eq_nil_iff_forall_not_mem];intro i hi;obtain⟨h1,o,h2,-⟩:=mem_ready.1 hi;have:=FZ (ops:=ops) (Vw.1 h2).1 h1;omega
  exact⟨hr,hend _ _ _ hI hr⟩
 | succ n ih =>
  intro listed a w hc hI;refine⟨fun hr=>hend _ _ _ hI hr,fun i hi=>wpOp_mono (fun a' w' h=>ih _ _ _ ?_ h) (hstep _ _ _ hI i hi)⟩;obtain⟨h1,o,h2,-⟩:=mem_ready.1 hi;have:=FZ (ops:=ops) (Vw.1 h2).1 h1;omega
theorem Rp(ops:Array Oper)(listed:Array Bool):left ops listed<=ops.size:=by
 unfold left;exact Vz List.countP_le_length (by simp)
theorem gG{id:Nat}{a:Act}{w:ae}(Inv:Array Bool->Act->World->Prop)(hm:P.follows .mixedOrders=true)
  (h0:Inv (Array.replicate ops.size false) a w.drew)
  (hstep:∀listed a w,Inv listed a w->∀i∈Region.ready .any ops listed,wpOp P ops Q i (Inv (listed.setIfInBounds i true)) a w)
  (hend:∀listed a w,Inv listed a w->Region.ready .any ops listed=[]->Q .normal a w):(Code.region id ops true).wp P Q a w :=
 wp_region_any hm (Mc Inv hstep hend _ _ _ _ (Rp _ _) h0)
theorem tO{listed:Array Bool}{n:Nat}(hr:Region.ready md ops listed=[])(hs:ops.size=n)(Xz:∀(i:Nat) (o:Oper),ops[i]?=some o->∀e∈o.after,e.on<i)(hsz:listed.size=n):∀i,i<n->listed.getD i true=true:=by
 intro i
 induction i using Nat.strongRecOn with
 | ind i ih =>
  intro hi;cases hl:listed.getD i true;case true=>rfl
  exfalso;have hmem:i∈Region.ready md ops listed:=by
   refine mem_ready.2 ⟨hl,ops[i]'(by omega),Wn (by omega),fun e he _=>?_⟩;have hlt:=Xz i _ (Wn (by omega)) e he;have:=ih e.on hlt (by omega);rw[VP,Wn (by omega)]at this ⊢;simpa using this
  rw[hr]at hmem;cases hmem
end
def upd(f:Nat->Value)(i:Nat)(v:Value):Nat->Value:=fun k=>if k=i then v else f k
section
variable  {P:Program}{ops:Array Oper}{Q:Exit->Act->World->Prop}
theorem aO(listed:Array Bool)(i j:Nat)(hi:i<listed.size):(listed.setIfInBounds i true).getD j false=if j=i then true else listed.getD j false:=by
 rw[VP,VP,Array.getElem?_setIfInBounds];by_cases e:i=j
 ·subst e;simp[hi]
 simp[e,Ne.symm e]
theorem ku{listed:Array Bool}{i:Nat}(hi:i<listed.size):listed.getD i true=listed.getD i false:=by
 rw[VP,VP,Wn hi];rfl
def F3(ops:Array Oper):Bool:=(List.range ops.size).all (fun i=>(ops[i]?.map (fun o=>o.after.all (fun e=>decide (e.on<i)))).getD true)
def El(ops:Array Oper)(L:Nat):Bool:=(List.range L).all (fun j=>(ops[L]?.map (fun o=>o.after.any (fun e=>e.on==j&&Region.binds .any e))).getD false)
theorem qh{ops:Array Oper}(h:F3 ops=true):∀(i:Nat) (o:Oper),ops[i]?=some o->∀e∈o.after,e.on<i:=by
 intro i o ho e he;rw[F3,VC]at h;have h1:=h i (by simpa using (Vw.1 ho).1);rw[ho]at h1;simp only[Option.map_some,Wd,Array.all_eq_true_iff_forall_mem]at h1;simpa using h1 e he
theorem CG{ops:Array Oper}{L:Nat}(h:El ops L=true):∀(o:Oper),ops[L]?=some o->∀j,j<L->∃e∈o.after,e.on=j/\Region.binds .any e=true:=by
 intro o ho j hj;rw[El,VC]at h;have h1:=h j (by simpa using hj);rw[ho]at h1;simp only[Option.map_some,Wd]at h1;rw[Array.any_eq_true']at h1;obtain⟨e,he,h2⟩:=h1;simp only[Vt,beq_iff_eq]at h2;exact⟨e,he,h2.1,h2.2⟩
theorem bR{id:Nat}{a:Act}{w:ae}(L:Nat)(f0:Nat->Value)(F:(Nat->Value)->Act)(V:Nat->Value->World->Prop)(G:World->Prop)
  (hm:P.follows .mixedOrders=true) (hsz:ops.size=L+1) (Xz:F3 ops=true) (hlo:El ops L=true)
  (h0:a=F f0) (hG0:G w.drew)
  (hstep:∀ i,i<L->∀ o,ops[i]?=some o->∀ f w',G w'->(∀ e∈o.after,Region.binds .any e=true->V e.on (f e.on) w') ->
   wpOp P ops Q i (fun a' w''=>∃v,a'=F (upd f i v)/\G w''/\V i v w''/\∀k u,V k u w'->V k u w'') (F f) w')
  (hfin:∀o,ops[L]?=some o->∀f w',G w'->(∀k,k<L->V k (f k) w')->wpOp P ops Q L (fun a' w''=>Q .normal a' w'') (F f) w') :
  (Code.region id ops true).wp P Q a w:=by
 refine gG (fun listed a' w'=>listed.size=L+1/\((listed.getD L false=false/\∃f,a'=F f/\G w'/\∀k,k<L->listed.getD k false=true->V k (f k) w')\/((∀j,j<=L->listed.getD j true=true)/\Q .normal a' w'))) hm ?_ ?_ ?_
 ·refine⟨by simpa using hsz,Or.inl ⟨?_,_,h0,hG0,fun k _ h=>?_⟩⟩
  ·rw[VP,Wh];split<;>rfl
  rw[VP,Wh]at h;split at h<;>cases h
 ·rintro listed a' w' ⟨hs,h⟩ i hi;obtain⟨hl,o,ho,hpre⟩:=mem_ready.1 hi;have hiL:i<L+1:=by have:=(Vw.1 ho).1;omega
  rcases h with⟨hn,f,rfl,hG,hV⟩|⟨hall,-⟩
  ·by_cases e:i=L
   ·subst e;have hall:∀k,k<i->listed.getD k false=true:=fun k hk=>by
     obtain⟨e,he,rfl,hb⟩:=CG hlo o ho k hk;exact hpre e he hb
    refine wpOp_mono (fun a'' w'' hq=>⟨by simpa using hs,Or.inr ⟨fun j hj=>?_,hq⟩⟩) (hfin o ho f w' hG (fun k hk=>hV k hk (hall k hk)));rw[ku (by simp;omega),aO _ _ _ (by omega)];by_cases e:j=i
    ·simp[e]
    rw[if_neg e];exact hall j (by omega)
   refine wpOp_mono ?_ (hstep i (by omega) o ho f w' hG (fun e he hb=>hV e.on (by have:=qh Xz i o ho e he;omega) (hpre e he hb)));rintro a'' w'' ⟨v,rfl,hG',hv,hmono⟩;refine⟨by simpa using hs,Or.inl ⟨?_,_,rfl,hG',fun k hk hkl=>?_⟩⟩
   ·rw[aO _ _ _ (by omega),if_neg (Ne.symm e)];exact hn
   rw[aO _ _ _ (by omega)]at hkl;by_cases ek:k=i
   ·subst ek;simpa[upd] using hv
   rw[if_neg ek]at hkl;simp only[upd,if_neg ek];exact hmono _ _ (hV k hk hkl)
  rw[hall i (by omega)]at hl;cases hl
 rintro listed a' w' ⟨hs,h⟩ hr;rcases h with⟨hn,-⟩|⟨-,hq⟩
 ·have:=tO hr hsz (qh Xz) hs L (by omega);rw[ku (by omega)]at this;rw[this]at hn;cases hn
 exact hq
theorem nD{id:Nat}{a:Act}{w:ae}(N:Nat)(f0:Nat->Value)(F:(Nat->Value)->Act)(V:Nat->Value->World->Prop)(G:World->Prop)
  (hm:P.follows .mixedOrders=true) (hsz:ops.size=N) (Xz:F3 ops=true)
  (h0:a=F f0) (hG0:G w.drew)
  (hstep:∀ i,i<N->∀ o,ops[i]?=some o->∀ f w',G w'->(∀ e∈o.after,Region.binds .any e=true->V e.on (f e.on) w') ->
   wpOp P ops Q i (fun a' w''=>∃v,a'=F (upd f i v)/\G w''/\V i v w''/\∀k u,V k u w'->V k u w'') (F f) w')
  (hend:∀f w',G w'->(∀k,k<N->V k (f k) w')->Q .normal (F f) w') :
  (Code.region id ops true).wp P Q a w:=by
 refine gG (fun listed a' w'=>listed.size=N/\∃f,a'=F f/\G w'/\∀k,k<N->listed.getD k false=true->V k (f k) w') hm ?_ ?_ ?_
 ·refine⟨by simpa using hsz,_,h0,hG0,fun k _ h=>?_⟩;rw[VP,Wh]at h;split at h<;>cases h
 ·rintro listed a' w' ⟨hs,f,rfl,hG,hV⟩ i hi;obtain⟨hl,o,ho,hpre⟩:=mem_ready.1 hi;have hiN:i<N:=by have:=(Vw.1 ho).1;omega
  refine wpOp_mono ?_ (hstep i hiN o ho f w' hG (fun e he hb=>hV e.on (by have:=qh Xz i o ho e he;omega) (hpre e he hb)));rintro a'' w'' ⟨v,rfl,hG',hv,hmono⟩;refine⟨by simpa using hs,_,rfl,hG',fun k hk hkl=>?_⟩;rw[aO _ _ _ (by omega)]at hkl;by_cases ek:k=i
  ·subst ek;simpa[upd] using hv
  rw[if_neg ek]at hkl;simp only[upd,if_neg ek];exact hmono _ _ (hV k hk hkl)
 rintro listed a' w' ⟨hs,f,rfl,hG,hV⟩ hr;refine hend f w' hG fun k hk=>hV k hk ?_;have:=tO hr hsz (qh Xz) hs k hk;rwa [ku (by omega)]at this
end
theorem kN{P:Program}{ops:Array Oper}{Q:Exit->Act->World->Prop}{k:Nat}{o:Oper}{K:Act->World->Prop}{a:Act}(w:ae)(hop:ops[k]?=some o)(hgd:o.guard=none)(s x:Operand)(t:TypeId)
  (ho:o.op=.call { callee:=.builtin .append,args:=#[s,x],argTypes:=#[t,t] })
  (base:Nat) (e:TypeId) (i:TypeInfo) (z:Value) (size bytes:Nat) (ht:P.underlying t=some (.slice e)) (hi:P.info? e=some i) (hz:i.zero=some z)
  (hsize:i.size=size) (hby:i.bytes=bytes) (hzs:z.cells.size=size) (hsz:0<size)
  (v:Value) (n:Nat) (xs:Q03) (hs:a.eval s=v) (hown:w.ownsRow base e size v n xs)
  (ad:Addr) (m c:Nat) (news:Q03) (hx:a.eval x=.slice (some ad) m c) (hl:news.length=m*size) (hnews:∀j u,news[j]?=some u->w.cell? (ad.add j)=some u) (h1:∀u∈news,u.oneCell'=true)
  (h63:n+m<=maxLen) (hbytes:(n+m)*bytes<=140737488355328) (hbase:base<=w.heap.size)
  (h:∀v' w',w'.ownsRow base e size v' (n+m) (xs++news)->w.grownBy w' v.ownBlock->(v'.ownBlock=v.ownBlock\/v'.ownBlock=some w.heap.size)->K (a.put o.dst v') w') :
  wpOp P ops Q k K a w:=by
 refine wpOp_step hop (fun K' hK=>?_);have hw:Region.wanted o (yielded ops a.tmps)=true:=by simp[Region.wanted,hgd]
 rw[if_pos hw];obtain⟨v',w',hr,h2,h3,h4,h5⟩:=run_append_own_at (P:=P) w base t o.type e i z size bytes ht hi hz hsize hby hzs hsz v n xs hown ad m c news hl hnews h1 h63 hbytes hbase;unfold Oper.wp execOp;simp only[ho,resolve,invoke,builtin,Sem.run_bind,Sem.run_pure,Result.andThen_ok,List.map_toArray,WF,List.map_nil,hs,hx,hr];exact hK _ _ (h v' w' h2 h3 h5)
structure Aside(w:World)(v:Value)(w':World)(v':Value):Prop where
 size:w.heap.size<=w'.heap.size
 block:∀k,k<w.heap.size->v.ownBlock≠some k->w'.heap[k]?=w.heap[k]?
 own:v'.ownBlock=v.ownBlock \/ ∃g,v'.ownBlock=some g/\w.heap.size<=g
theorem Aside.refl(w:ae)(v:Value):Aside w v w v:=⟨Vr _,fun _ _ _=>rfl,.inl rfl⟩
theorem Aside.apart{w w':ae}{v v':Value}{k:Nat}(h:Aside w v w' v')(hk:k<w.heap.size)(hv:v.ownBlock≠some k):v'.ownBlock≠some k:=by
 rcases h.own with e|⟨g,e,hg⟩
 ·rw[e];exact hv
 rw[e];intro h2;injection h2 with h2;omega
theorem Aside.trans{w w1 w2:ae}{v v1 v2:Value}(h:Aside w v w1 v1)(h2:Aside w1 v1 w2 v2):Aside w v w2 v2 where
 size:=Vz h.size h2.size
 block k hk hv:=(h2.block k (Vq hk h.size) (h.apart hk hv)).trans (h.block k hk hv)
 own:=by
  rcases h2.own with e|⟨g,e,hg⟩
  ·rw[e];exact h.own
  exact .inr ⟨g,e,Vz h.size hg⟩
theorem Aside.below{w w':ae}{v:Value}(h:ag w w'):Aside w v w' v:=⟨h.size,fun k hk _=>h.block k hk,.inl rfl⟩
theorem Aside.app{w w':ae}{v v':Value}(hg:w.grownBy w' v.ownBlock)(h5:v'.ownBlock=v.ownBlock\/v'.ownBlock=some w.heap.size):Aside w v w' v' where
 size:=hg.size
 block k hk hv:=hg.block k hk (fun e=>hv e.symm)
 own:=by
  rcases h5 with e|e
  ·exact .inl e
  exact .inr ⟨_,e,Vr _⟩
theorem Aside.cell{w w':ae}{v v':Value}(h:Aside w v w' v'){p:Addr}(hp:p.block<w.heap.size)(hv:v.ownBlock≠some p.block):w'.cell? p=w.cell? p:=VR (w:=w) (h.block p.block hp hv)
open Go.Sort
theorem nE{p:Prop}(h:p):Hid p:=h
theorem jT{P:Program}{f:FuncId}{args:Array Value}{W:ae}{v:Value}(h:∀W',Calls P f args W' fun e w'=>e=.returned v/\w'=W'):∀d os,Calls P f args (grow (redrawn W d) os) fun e w''=>e=.returned v/\∃p:Regrown,w''=grow (redrawn W p.d) p.os:=fun d os=>(h _).mono fun _ _ ⟨he,hw⟩=>⟨he,⟨d,os⟩,hw⟩
theorem dm{P:Program}{f:FuncId}{args:Array Value}{W:ae}{v:Value}(h:∀W',ag W W'->Calls P f args W' fun e w'=>e=.returned v/\ag W' w'):∀d os,Calls P f args (grow (redrawn W d) os) fun e w''=>e=.returned v/\∃p:Regrown,w''=grow (redrawn W p.d) p.os:=fun d os=>Calls.regrown_of (h _ (below_regrown W d os))
def lm(ops:Array Oper)(m k:Nat):Bool:=(ops[m]?.map fun o=>o.after.any fun e=>e.on==k&&Region.binds .any e).getD false
def UL(ops:Array Oper)(i:Nat):List Nat:=(List.range i).reverse.foldl (fun acc k=>if acc.any (fun m=>lm ops m k) then k::acc else acc) [i]
def KY(ops:Array Oper)(L N:Nat):Bool:=(List.range N).all fun i=>decide (i<L) || (List.range i).all fun j=>(UL ops i).contains j
def Rq(l:List Oper)(L:Nat):Bool:=l.all fun o=>match o.guard with|some (g,_)=>decide (g<L)|none=>true
def nM(P:Program)(ops:Array Oper)(Q:Exit->Act->World->Prop):Nat->Nat->Act->World->Prop
 | 0,_,a,w=>Q .normal a w
 | n+1,i,a,w=>wpOp P ops Q i (nM P ops Q n (i+1)) a w
theorem xL{ops:Array Oper}{m k:Nat}(h:lm ops m k=true):∃o,ops[m]?=some o/\∃e∈o.after,e.on=k/\Region.binds .any e=true:=by
 unfold lm at h;cases ho:ops[m]? with
 | none=>rw[ho]at h;cases h
 | some o =>
  rw[ho]at h;simp only[Option.map_some,Wd]at h;rw[Array.any_eq_true']at h;obtain⟨e,he,h2⟩:=h;simp only[Vt,beq_iff_eq]at h2;exact⟨o,rfl,e,he,h2.1,h2.2⟩
theorem F4{ops:Array Oper}{i:Nat}{lst:Nat->Prop}(hcl:∀m k,m=i\/lst m->lm ops m k=true->lst k):∀m∈UL ops i,m=i\/lst m:=by
 have key:∀(ks acc:List Nat),(∀m∈acc,m=i\/lst m)->∀m∈ks.foldl (fun acc k=>if acc.any (fun m=>lm ops m k) then k::acc else acc) acc,m=i\/lst m:=by
  intro ks
  induction ks with
  | nil=>intro acc h;exact h
  | cons k ks ih =>
   intro acc h;refine ih _ ?_;dsimp only;split
   ·rename_i ha;obtain⟨m,hm,hb⟩:=VT.1 ha;intro x hx;rcases VH.1 hx with rfl|hx
    ·exact .inr (hcl m _ (h m hm) hb)
    exact h x hx
   exact h
 exact key _ _ fun m hm=>.inl (by simpa using hm)
theorem CJ{ops:Array Oper}{L N i:Nat}(h:KY ops L N=true)(hi:i<N)(hL:L<=i){lst:Nat->Prop}(hcl:∀m k,m=i\/lst m->lm ops m k=true->lst k):∀j,j<i->lst j:=fun j hj=>by
 have h1:=VC.1 h i (by simpa using hi);simp only[Bool.or_eq_true,VF]at h1;have h2:=VC.1 (h1.resolve_left (by omega)) j (by simpa using hj);exact(F4 hcl j (by simpa using h2)).resolve_left (by omega)
theorem p9{P:Program}{id:Nat}{Q:Exit->Act->World->Prop}{a:Act}{w:ae}{l:List Oper}(L n:Nat)(hm:P.follows .mixedOrders=true)(hlen:l.length=L+n)
  (hB:(Region.noSelect (l.take L).toArray&&Region.lexFrom .any (l.take L).toArray L 0 (Array.replicate (L+n) false)&&Rq (l.take L) L&&F3 l.toArray&&KY l.toArray L (L+n))=true)
  (h:wpQuiet P (l.take L).toArray (fun w'=>∃p:Regrown,w'=grow (redrawn w p.d) p.os) (fun a'=>∀w',(∃p:Regrown,w'=grow (redrawn w p.d) p.os)->nM P l.toArray Q n L a' w') (l.take L) a):(Code.region id l.toArray true).wp P Q a w:=by
 obtain⟨C,hC⟩:∃C:World->Prop,C=fun w'=>∃p:Regrown,w'=grow (redrawn w p.d) p.os:=⟨_,rfl⟩;have h':wpQuiet P (l.take L).toArray C (fun a'=>∀w',C w'->nM P l.toArray Q n L a' w') (l.take L) a:=by simpa[hC] using h
 clear h;have hC0:C w.drew:=by rw[hC];exact⟨⟨w.drawn+1,#[]⟩,by rw[grow_empty];rfl⟩
 clear hC;simp only[Vt]at hB;obtain⟨⟨⟨⟨hns,hlx⟩,hgd⟩,Xz⟩,hch⟩:=hB;have htl:(l.take L).length=L:=by rw[Wi];omega
 have hat:∀i,i<L->(l.take L).toArray[i]?=l.toArray[i]?:=fun i hi=>by simp[hi]
 have hsz:l.toArray.size=L+n:=by simpa using hlen
 have hwant:∀(i:Nat) (o:Oper) (a':Act),i<L->l.toArray[i]?=some o->Region.wanted o (yielded (l.take L).toArray a'.tmps)=Region.wanted o (yielded l.toArray a'.tmps):=by
  intro i o a' hi ho;have hmem:o∈l.take L:=by
   rw[<-hat i hi]at ho;exact WA (by simpa using ho)
  have:=VC.1 hgd o hmem;unfold Region.wanted;cases hg:o.guard with
  | none=>rfl
  | some x =>
   obtain⟨g,bw⟩:=x;rw[hg]at this;have hgl:g<L:=by simpa using this
   simp only[yielded,hat g hgl]
 have h1:=wpAnyQ_lex (C:=C) (md:=.any) hns (l.take L) 0 (Array.replicate (L+n) false) a (fun j=>by simp) (by rw[htl];exact hlx) h';rw[htl]at h1;refine gG (fun listed a' w'=>listed.size=L+n/\(∀m k,listed.getD m false=true->lm l.toArray m k=true->listed.getD k false=true)/\(((∀j,L<=j->listed.getD j false=false)/\C w'/\∃fuel,wpAnyQ P .any (l.take L).toArray C (fun a'=>∀w',C w'->nM P l.toArray Q n L a' w') fuel listed a') \/ ∃d,d<=n/\(∀j,j<L+d->listed.getD j false=true)/\(∀j,L+d<=j->listed.getD j false=false)/\nM P l.toArray Q (n-d) (L+d) a' w')) hm ?_ ?_ ?_
 ·have hf:∀j,(Array.replicate l.toArray.size false).getD j false=false:=fun j=>by
   rw[VP,Wh];split<;>rfl
  exact⟨by simpa using hsz,fun m k hm=>absurd hm (by rw[hf];decide),Or.inl ⟨fun j _=>hf j,hC0,L,by rw[hsz];exact h1⟩⟩
 ·rintro listed a' w' ⟨hs,hcl,hh⟩ i hi;obtain⟨hl,o,ho,hpre⟩:=mem_ready.1 hi;have hiL:i<L+n:=by have:=(Vw.1 ho).1;omega
  have hcl2:∀m k,(listed.setIfInBounds i true).getD m false=true->lm l.toArray m k=true->(listed.setIfInBounds i true).getD k false=true:=fun m k hm hb=>by
   rw[aO _ _ _ (by omega)]at hm ⊢;by_cases hk:k=i
   ·rw[if_pos hk]
   rw[if_neg hk];by_cases e:m=i
   ·subst e;obtain⟨o',ho',e,he,rfl,hbe⟩:=xL hb;rw[ho]at ho';obtain rfl:=Option.some.inj ho';exact hpre e he hbe
   rw[if_neg e]at hm;exact hcl m k hm hb
  have hup:L<=i->∀j,j<i->listed.getD j false=true:=fun hLi=>CJ hch hiL hLi fun m k hm hb=>by
   rcases hm with rfl|hm
   ·obtain⟨o',ho',e,he,rfl,hbe⟩:=xL hb;rw[ho]at ho';obtain rfl:=Option.some.inj ho';exact hpre e he hbe
   exact hcl m k hm hb
  have hsq:∀d,L+d=i->nM P l.toArray Q (n-d) (L+d) a' w'->wpOp P l.toArray Q i (fun a'' w''=>(listed.setIfInBounds i true).size=L+n/\(∀m k,(listed.setIfInBounds i true).getD m false=true->lm l.toArray m k=true->(listed.setIfInBounds i true).getD k false=true)/\(((∀j,L<=j->(listed.setIfInBounds i true).getD j false=false)/\C w''/\∃fuel,wpAnyQ P .any (l.take L).toArray C (fun a'=>∀w',C w'->nM P l.toArray Q n L a' w') fuel (listed.setIfInBounds i true) a'') \/ ∃d,d<=n/\(∀j,j<L+d->(listed.setIfInBounds i true).getD j false=true)/\(∀j,L+d<=j->(listed.setIfInBounds i true).getD j false=false)/\nM P l.toArray Q (n-d) (L+d) a'' w'')) a' w':=fun d hd hw=>by
   obtain⟨r,hr⟩:∃r,n-d=r+1:=⟨n-d-1,by omega⟩;rw[hr,hd]at hw;have Zj:∀j,i<j->listed.getD j false=false:=fun j hj=>by
    cases hlj:listed.getD j false;case false=>rfl
    have hjn:j<L+n:=by
     rcases Nat.lt_or_ge j (L+n) with h|h
     ·exact h
     rw[VP,Array.getElem?_eq_none (by omega)]at hlj;cases hlj
    have:=CJ hch hjn (by omega) (lst:=fun k=>listed.getD k false=true) (fun m k hm hb=>by
     rcases hm with rfl|hm
     ·exact hcl _ k hlj hb
     exact hcl m k hm hb) i hj
    rw[ku (by omega)]at hl;rw[hl]at this;cases this
   refine wpOp_mono (fun a'' w'' hq=>⟨by simpa using hs,hcl2,.inr ⟨d+1,by omega,fun j hj=>?_,fun j hj=>?_,?_⟩⟩) hw
   ·rw[aO _ _ _ (by omega)];by_cases e:j=i
    ·rw[if_pos e]
    rw[if_neg e];exact hup (by omega) j (by omega)
   ·rw[aO _ _ _ (by omega),if_neg (by omega)];exact Zj j (by omega)
   have e1:n-(d+1)=r:=by omega
   have e2:L+(d+1)=i+1:=by omega
   rw[e1,e2];exact hq
  rcases hh with⟨hn,hCw,fuel,hq⟩|⟨d,hdn,hlow,hhigh,hw⟩
  ·by_cases e:i<L
   ·have hr:i∈Region.ready .any (l.take L).toArray listed:=mem_ready.2 ⟨hl,o,by rw[hat i e];exact ho,hpre⟩;cases fuel with
    | zero=>have:=hq.1;rw[this]at hr;cases hr
    | succ nn =>
     have hk:=hq.2 i hr;have:=wpOp_of_qOp (K':=fun a'' w''=>C w''/\wpAnyQ P .any (l.take L).toArray C (fun a'=>∀w',C w'->nM P l.toArray Q n L a' w') nn (listed.setIfInBounds i true) a'') (Q':=Q) hCw (fun _ _ h1 h2=>⟨h1,h2⟩) hk;have h3:wpOp P l.toArray Q i (fun a'' w''=>C w''/\wpAnyQ P .any (l.take L).toArray C (fun a'=>∀w',C w'->nM P l.toArray Q n L a' w') nn (listed.setIfInBounds i true) a'') a' w':=by
      unfold wpOp at this⊢;rw[hat i e,ho]at this;rw[ho];simp only[hwant i o a' e ho]at this;exact this
     refine wpOp_mono (fun a'' w'' hh=>⟨by simpa using hs,hcl2,Or.inl ⟨fun j hj=>?_,hh.1,nn,hh.2⟩⟩) h3;rw[aO _ _ _ (by omega),if_neg (by omega)];exact hn j hj
   have hiE:i=L:=by
    rcases Nat.lt_or_ge L i with h|h
    ·have:=hup (by omega) L h;rw[hn L (Vr _)]at this;cases this
    omega
   have hnr:Region.ready .any (l.take L).toArray listed=[]:=by
    rw[List.eq_nil_iff_forall_not_mem];intro j hj;obtain⟨g1,oj,g2,-⟩:=mem_ready.1 hj;have hji:j<L:=by have:=(Vw.1 g2).1;simp at this;omega
    rw[ku (by omega),hup (by omega) j (by omega)]at g1;cases g1
   have hQ:nM P l.toArray Q n L a' w':=by
    cases fuel with
    | zero=>exact hq.2 _ hCw
    | succ n=>exact hq.1 hnr _ hCw
   exact hsq 0 (by omega) (by simpa using hQ)
  have hid:L+d=i:=by
   rcases Nat.lt_or_ge i (L+d) with h|h
   ·have:=hlow i h;rw[ku (by omega)]at hl;rw[hl]at this;cases this
   rcases Nat.lt_or_ge (L+d) i with h2|h2
   ·have:=hup (by omega) (L+d) h2;rw[hhigh _ (Vr _)]at this;cases this
   omega
  exact hsq d hid hw
 rintro listed a' w' ⟨hs,hcl,hh⟩ hr;have hall:=tO hr hsz (qh Xz) hs;rcases hh with⟨hn,hCw,fuel,hq⟩|⟨d,hdn,hlow,hhigh,hw⟩
 ·have hn0:n=0:=by
   rcases Nat.eq_zero_or_pos n with h|h
   ·exact h
   have:=hall L (by omega);rw[ku (by omega),hn L (Vr _)]at this;cases this
  subst hn0;have hnr:Region.ready .any (l.take L).toArray listed=[]:=by
   rw[List.eq_nil_iff_forall_not_mem];intro j hj;obtain⟨g1,oj,g2,-⟩:=mem_ready.1 hj;have hji:j<L:=by have:=(Vw.1 g2).1;simp at this;omega
   rw[hall j (by omega)]at g1;cases g1
  have hQ:nM P l.toArray Q 0 L a' w':=by
   cases fuel with
   | zero=>exact hq.2 _ hCw
   | succ n=>exact hq.1 hnr _ hCw
  exact hQ
 have hd:d=n:=by
  rcases Nat.lt_or_ge d n with h|h
  ·have:=hall (L+d) (by omega);rw[ku (by omega),hhigh _ (Vr _)]at this;cases this
  omega
 subst hd;rw[Nat.sub_self]at hw;exact hw
end Go.Proofs.YtojjoblnpldniaaGreat
