/- A region that draws its order, by what holds whichever operations have come up: each operation is run once, from what those that it waits for have left. -/
import Derived.Test.YtajkkeikihhejaaGreatSq
import Derived.Deep.RegionWith
import Derived.OwnWalk
import Derived.Maps.AppendAt
import Derived.RegionTactic
import Derived.Lib.QuietBelow
import Derived.BigQuiet
import Derived.Test.YtajkkeikihhejaaGreatNamesL
import Derived.Below
open Go.Proofs.Tryz
set_option maxHeartbeats 80000000
namespace Go.Proofs.YtajkkeikihhejaaGreat
open Go.RowKit
theorem Na {α:Type} (p q:α→Bool) (l:List α) (h:∀ x ∈ l,q x=true→p x=true) (y:α) (hy:y ∈ l) (hp:p y=true) (hq:q y=false):l.countP q < l.countP p:=by
 induction l with
 | nil=>cases hy
 | cons a l ih =>
  rw [List.countP_cons,List.countP_cons];rcases List.mem_cons.1 hy with rfl | hy
  ·have:=List.countP_mono_left (p:=q) (q:=p) (l:=l) (fun x hx=>h x (Uq _ hx));simp [hp,hq]; omega
  have h1:=ih (fun x hx=>h x (Uq _ hx)) hy;have h2:=h a (Us ..);cases hqa:q a;case true=>simp [h2 hqa]; omega
  simp; omega
section
variable {P:Program} {ops:Array Oper} {Q:Exit→Act→World→Prop} {md:Region.Mode}
theorem aa {i:Nat} {o:Oper} {K:Act→World→Prop} {a:Act} {w:af} (ho:ops[i]?=some o)
  (h:∀ K':Act→World→Prop,Hid (∀ a w,K a w→K' a w)→if Region.wanted o (yielded ops a.tmps)=true then Oper.wp P o a w K' Q else K' (a.put o.dst undef) w):wpOp P ops Q i K a w:=wpOp_step ho h
def left (ops:Array Oper) (listed:Array Bool):Nat:=(List.range ops.size).countP (fun i=>!(listed.getD i true))
theorem Fe (listed:Array Bool) (i j:Nat):(listed.setIfInBounds i true).getD j true=if j=i then true else listed.getD j true:=by
 rw [Uj,Uj,Array.getElem?_setIfInBounds];by_cases e:i=j
 ·subst e;by_cases h:i < listed.size <;> simp [h]
 simp [e,Ne.symm e]
theorem Ff {listed:Array Bool} {i:Nat} (hi:i < ops.size) (hl:listed.getD i true=false):left ops (listed.setIfInBounds i true) < left ops listed:=by
 refine Na _ _ _ ?_ i (by simpa using hi) (by simp [hl]) (by rw [Fe]; simp);intro x _ hx;simp only [Fe,Bool.not_eq_true'] at hx ⊢;by_cases e:x=i
 ·simp [e] at hx
 simpa [e] using hx
theorem KO (Inv:Array Bool→Act→World→Prop)
  (hstep:∀ listed a w,Inv listed a w→∀ i ∈ Region.ready md ops listed,wpOp P ops Q i (Inv (listed.setIfInBounds i true)) a w)
  (hend:∀ listed a w,Inv listed a w→Region.ready md ops listed=[]→Q .normal a w) :
  ∀ (fuel:Nat) (listed:Array Bool) (a:Act) (w:World),left ops listed≤fuel→Inv listed a w→wpAny P md ops Q fuel listed a w:=by
 intro fuel
 induction fuel with
 | zero =>
  intro listed a w hc hI;have hr:Region.ready md ops listed=[]:=by
   rw [List.eq_nil_iff_forall_not_mem];intro i hi;obtain ⟨h1,o,h2,-⟩:=mem_ready.1 hi;have:=Ff (ops:=ops) (Array.getElem?_eq_some_iff.1 h2).1 h1;omega
  exact ⟨hr,hend _ _ _ hI hr⟩
 | succ n ih =>
  intro listed a w hc hI;refine ⟨fun hr=>hend _ _ _ hI hr,fun i hi=>wpOp_mono (fun a' w' h=>ih _ _ _ ?_ h) (hstep _ _ _ hI i hi)⟩;obtain ⟨h1,o,h2,-⟩:=mem_ready.1 hi;have:=Ff (ops:=ops) (Array.getElem?_eq_some_iff.1 h2).1 h1;omega
theorem Qa (ops:Array Oper) (listed:Array Bool):left ops listed≤ops.size:=by
 unfold left;exact TZ List.countP_le_length (by simp)
theorem gM {id:Nat} {a:Act} {w:af} (Inv:Array Bool→Act→World→Prop) (hm:P.follows .mixedOrders=true)
  (h0:Inv (Array.replicate ops.size false) a w.drew)
  (hstep:∀ listed a w,Inv listed a w→∀ i ∈ Region.ready .any ops listed,wpOp P ops Q i (Inv (listed.setIfInBounds i true)) a w)
  (hend:∀ listed a w,Inv listed a w→Region.ready .any ops listed=[]→Q .normal a w):(Code.region id ops true).wp P Q a w :=
 wp_region_any hm (KO Inv hstep hend _ _ _ _ (Qa _ _) h0)
theorem sK {listed:Array Bool} {n:Nat} (hr:Region.ready md ops listed=[]) (hs:ops.size=n) (Ve:∀ (i:Nat) (o:Oper),ops[i]?=some o→∀ e ∈ o.after,e.on < i) (hsz:listed.size=n):∀ i,i < n→listed.getD i true=true:=by
 intro i
 induction i using Nat.strongRecOn with
 | ind i ih =>
  intro hi;cases hl:listed.getD i true;case true=>rfl
  exfalso;have hmem:i ∈ Region.ready md ops listed:=by
   refine mem_ready.2 ⟨hl,ops[i]'(by omega),Uv (by omega),fun e he _=>?_⟩;have hlt:=Ve i _ (Uv (by omega)) e he;have:=ih e.on hlt (by omega);rw [Uj,Uv (by omega)] at this ⊢;simpa using this
  rw [hr] at hmem;cases hmem
end
def upd (f:Nat→Value) (i:Nat) (v:Value):Nat→Value:=fun k=>if k=i then v else f k
section
variable {P:Program} {ops:Array Oper} {Q:Exit→Act→World→Prop}
theorem aO (listed:Array Bool) (i j:Nat) (hi:i < listed.size):(listed.setIfInBounds i true).getD j false=if j=i then true else listed.getD j false:=by
 rw [Uj,Uj,Array.getElem?_setIfInBounds];by_cases e:i=j
 ·subst e; simp [hi]
 simp [e,Ne.symm e]
theorem jZ {listed:Array Bool} {i:Nat} (hi:i < listed.size):listed.getD i true=listed.getD i false:=by
 rw [Uj,Uj,Uv hi]; rfl
def Ca (ops:Array Oper):Bool:=(List.range ops.size).all (fun i=>(ops[i]?.map (fun o=>o.after.all (fun e=>decide (e.on < i)))).getD true)
def yN (ops:Array Oper) (L:Nat):Bool:=(List.range L).all (fun j=>(ops[L]?.map (fun o=>o.after.any (fun e=>e.on == j && Region.binds .any e))).getD false)
theorem pW {ops:Array Oper} (h:Ca ops=true):∀ (i:Nat) (o:Oper),ops[i]?=some o→∀ e ∈ o.after,e.on < i:=by
 intro i o ho e he;rw [Ca,Ub] at h;have h1:=h i (by simpa using (Array.getElem?_eq_some_iff.1 ho).1);rw [ho] at h1;simp only [Option.map_some,Option.getD_some,Array.all_eq_true_iff_forall_mem] at h1;simpa using h1 e he
theorem Cb {ops:Array Oper} {L:Nat} (h:yN ops L=true):∀ (o:Oper),ops[L]?=some o→∀ j,j < L→∃ e ∈ o.after,e.on=j∧Region.binds .any e=true:=by
 intro o ho j hj;rw [yN,Ub] at h;have h1:=h j (by simpa using hj);rw [ho] at h1;simp only [Option.map_some,Option.getD_some] at h1;rw [Array.any_eq_true'] at h1;obtain ⟨e,he,h2⟩:=h1;simp only [TU,beq_iff_eq] at h2;exact ⟨e,he,h2.1,h2.2⟩
theorem lJ {id:Nat} {a:Act} {w:af} (L:Nat) (f0:Nat→Value) (F:(Nat→Value)→Act) (V:Nat→Value→World→Prop) (G:World→Prop)
  (hm:P.follows .mixedOrders=true) (hsz:ops.size=L + 1) (Ve:Ca ops=true) (hlo:yN ops L=true)
  (h0:a=F f0) (hG0:G w.drew)
  (hstep:∀ i,i < L→∀ o,ops[i]?=some o→∀ f w',G w'→(∀ e ∈ o.after,Region.binds .any e=true→V e.on (f e.on) w') →
   wpOp P ops Q i (fun a' w''=>∃ v,a'=F (upd f i v)∧G w''∧V i v w''∧∀ k u,V k u w'→V k u w'') (F f) w')
  (hfin:∀ o,ops[L]?=some o→∀ f w',G w'→(∀ k,k < L→V k (f k) w')→wpOp P ops Q L (fun a' w''=>Q .normal a' w'') (F f) w') :
  (Code.region id ops true).wp P Q a w:=by
 refine gM (fun listed a' w'=>listed.size=L + 1∧((listed.getD L false=false∧∃ f,a'=F f∧G w'∧∀ k,k < L→listed.getD k false=true→V k (f k) w') ∨ ((∀ j,j≤L→listed.getD j true=true)∧Q .normal a' w'))) hm ?_ ?_ ?_
 ·refine ⟨by simpa using hsz,Or.inl ⟨?_,_,h0,hG0,fun k _ h=>?_⟩⟩
  ·rw [Uj,Array.getElem?_replicate]; split <;> rfl
  rw [Uj,Array.getElem?_replicate] at h; split at h <;> cases h
 ·rintro listed a' w' ⟨hs,h⟩ i hi;obtain ⟨hl,o,ho,hpre⟩:=mem_ready.1 hi;have hiL:i < L + 1:=by have:=(Array.getElem?_eq_some_iff.1 ho).1; omega
  rcases h with ⟨hn,f,rfl,hG,hV⟩ | ⟨hall,-⟩
  ·by_cases e:i=L
   ·subst e;have hall:∀ k,k < i→listed.getD k false=true:=fun k hk=>by
     obtain ⟨e,he,rfl,hb⟩:=Cb hlo o ho k hk;exact hpre e he hb
    refine wpOp_mono (fun a'' w'' hq=>⟨by simpa using hs,Or.inr ⟨fun j hj=>?_,hq⟩⟩) (hfin o ho f w' hG (fun k hk=>hV k hk (hall k hk)));rw [jZ (by simp; omega),aO _ _ _ (by omega)];by_cases e:j=i
    ·simp [e]
    rw [if_neg e]; exact hall j (by omega)
   refine wpOp_mono ?_ (hstep i (by omega) o ho f w' hG (fun e he hb=>hV e.on (by have:=pW Ve i o ho e he; omega) (hpre e he hb)));rintro a'' w'' ⟨v,rfl,hG',hv,hmono⟩;refine ⟨by simpa using hs,Or.inl ⟨?_,_,rfl,hG',fun k hk hkl=>?_⟩⟩
   ·rw [aO _ _ _ (by omega),if_neg (Ne.symm e)]; exact hn
   rw [aO _ _ _ (by omega)] at hkl;by_cases ek:k=i
   ·subst ek; simpa [upd] using hv
   rw [if_neg ek] at hkl;simp only [upd,if_neg ek];exact hmono _ _ (hV k hk hkl)
  rw [hall i (by omega)] at hl; cases hl
 rintro listed a' w' ⟨hs,h⟩ hr;rcases h with ⟨hn,-⟩ | ⟨-,hq⟩
 ·have:=sK hr hsz (pW Ve) hs L (by omega);rw [jZ (by omega)] at this;rw [this] at hn; cases hn
 exact hq
theorem fF {id:Nat} {a:Act} {w:af} (L:Nat) (F:(Nat→Value)→Act) (V:Nat→Value→World→Prop) (G:World→Prop)
  (hm:P.follows .mixedOrders=true) (hsz:ops.size=L + 1) (Ve:Ca ops=true) (hlo:yN ops L=true)
  (h0:a=F (fun _=>undef)) (hG0:G w.drew)
  (hstep:∀ i,i < L→∀ o,ops[i]?=some o→∀ f w',G w'→(∀ e ∈ o.after,Region.binds .any e=true→V e.on (f e.on) w') →
   wpOp P ops Q i (fun a' w''=>∃ v,a'=F (upd f i v)∧G w''∧V i v w''∧∀ k u,V k u w'→V k u w'') (F f) w')
  (hfin:∀ o,ops[L]?=some o→∀ f w',G w'→(∀ k,k < L→V k (f k) w')→wpOp P ops Q L (fun a' w''=>Q .normal a' w'') (F f) w') :
  (Code.region id ops true).wp P Q a w :=
 lJ L (fun _=>undef) F V G hm hsz Ve hlo h0 hG0 hstep hfin
theorem nz {id:Nat} {a:Act} {w:af} (N:Nat) (f0:Nat→Value) (F:(Nat→Value)→Act) (V:Nat→Value→World→Prop) (G:World→Prop)
  (hm:P.follows .mixedOrders=true) (hsz:ops.size=N) (Ve:Ca ops=true)
  (h0:a=F f0) (hG0:G w.drew)
  (hstep:∀ i,i < N→∀ o,ops[i]?=some o→∀ f w',G w'→(∀ e ∈ o.after,Region.binds .any e=true→V e.on (f e.on) w') →
   wpOp P ops Q i (fun a' w''=>∃ v,a'=F (upd f i v)∧G w''∧V i v w''∧∀ k u,V k u w'→V k u w'') (F f) w')
  (hend:∀ f w',G w'→(∀ k,k < N→V k (f k) w')→Q .normal (F f) w') :
  (Code.region id ops true).wp P Q a w:=by
 refine gM (fun listed a' w'=>listed.size=N∧∃ f,a'=F f∧G w'∧∀ k,k < N→listed.getD k false=true→V k (f k) w') hm ?_ ?_ ?_
 ·refine ⟨by simpa using hsz,_,h0,hG0,fun k _ h=>?_⟩;rw [Uj,Array.getElem?_replicate] at h; split at h <;> cases h
 ·rintro listed a' w' ⟨hs,f,rfl,hG,hV⟩ i hi;obtain ⟨hl,o,ho,hpre⟩:=mem_ready.1 hi;have hiN:i < N:=by have:=(Array.getElem?_eq_some_iff.1 ho).1; omega
  refine wpOp_mono ?_ (hstep i hiN o ho f w' hG (fun e he hb=>hV e.on (by have:=pW Ve i o ho e he; omega) (hpre e he hb)));rintro a'' w'' ⟨v,rfl,hG',hv,hmono⟩;refine ⟨by simpa using hs,_,rfl,hG',fun k hk hkl=>?_⟩;rw [aO _ _ _ (by omega)] at hkl;by_cases ek:k=i
  ·subst ek; simpa [upd] using hv
  rw [if_neg ek] at hkl;simp only [upd,if_neg ek];exact hmono _ _ (hV k hk hkl)
 rintro listed a' w' ⟨hs,f,rfl,hG,hV⟩ hr;refine hend f w' hG fun k hk=>hV k hk ?_;have:=sK hr hsz (pW Ve) hs k hk;rwa [jZ (by omega)] at this
end
theorem kG {P:Program} {ops:Array Oper} {Q:Exit→Act→World→Prop} {k:Nat} {o:Oper} {K:Act→World→Prop} {a:Act} (w:af) (hop:ops[k]?=some o) (hgd:o.guard=none) (s x:Operand) (t:TypeId)
  (ho:o.op=.call { callee:=.builtin .append,args:=#[s,x],argTypes:=#[t,t] })
  (base:Nat) (e:TypeId) (i:TypeInfo) (z:Value) (size bytes:Nat) (ht:P.underlying t=some (.slice e)) (hi:P.info? e=some i) (hz:i.zero=some z)
  (hsize:i.size=size) (hby:i.bytes=bytes) (hzs:z.cells.size=size) (hsz:0 < size)
  (v:Value) (n:Nat) (xs:List Value) (hs:a.eval s=v) (hown:w.ownsRow base e size v n xs)
  (ad:Addr) (m c:Nat) (news:List Value) (hx:a.eval x=.slice (some ad) m c) (hl:news.length=m * size) (hnews:∀ j u,news[j]?=some u→w.cell? (ad.add j)=some u) (h1:∀ u ∈ news,u.oneCell'=true)
  (h63:n + m≤maxLen) (hbytes:(n + m) * bytes≤140737488355328) (hbase:base≤w.heap.size)
  (h:∀ v' w',w'.ownsRow base e size v' (n + m) (xs ++ news)→w.grownBy w' v.ownBlock→(v'.ownBlock=v.ownBlock ∨ v'.ownBlock=some w.heap.size)→K (a.put o.dst v') w') :
  wpOp P ops Q k K a w:=by
 refine wpOp_step hop (fun K' hK=>?_);have hw:Region.wanted o (yielded ops a.tmps)=true:=by simp [Region.wanted,hgd]
 rw [if_pos hw];obtain ⟨v',w',hr,h2,h3,h4,h5⟩:=run_append_own_at (P:=P) w base t o.type e i z size bytes ht hi hz hsize hby hzs hsz v n xs hown ad m c news hl hnews h1 h63 hbytes hbase;unfold Oper.wp execOp;simp only [ho,resolve,invoke,builtin,Sem.run_bind,Sem.run_pure,Result.andThen_ok,List.map_toArray,List.map_cons,List.map_nil,hs,hx,hr];exact hK _ _ (h v' w' h2 h3 h5)
structure Aside (w:World) (v:Value) (w':World) (v':Value):Prop where
 size:w.heap.size≤w'.heap.size
 block:∀ k,k < w.heap.size→v.ownBlock ≠ some k→w'.heap[k]?=w.heap[k]?
 own:v'.ownBlock=v.ownBlock ∨ ∃ g,v'.ownBlock=some g∧w.heap.size≤g
theorem Aside.refl (w:af) (v:Value):Aside w v w v:=⟨TS _,fun _ _ _=>rfl,.inl rfl⟩
theorem Aside.apart {w w':af} {v v':Value} {k:Nat} (h:Aside w v w' v') (hk:k < w.heap.size) (hv:v.ownBlock ≠ some k):v'.ownBlock ≠ some k:=by
 rcases h.own with e | ⟨g,e,hg⟩
 ·rw [e]; exact hv
 rw [e]; intro h2; injection h2 with h2; omega
theorem Aside.trans {w w1 w2:af} {v v1 v2:Value} (h:Aside w v w1 v1) (h2:Aside w1 v1 w2 v2):Aside w v w2 v2 where
 size:=TZ h.size h2.size
 block k hk hv:=(h2.block k (TP hk h.size) (h.apart hk hv)).trans (h.block k hk hv)
 own:=by
  rcases h2.own with e | ⟨g,e,hg⟩
  ·rw [e]; exact h.own
  exact .inr ⟨g,e,TZ h.size hg⟩
theorem Aside.below {w w':af} {v:Value} (h:ag w w'):Aside w v w' v:=⟨h.size,fun k hk _=>h.block k hk,.inl rfl⟩
theorem Aside.app {w w':af} {v v':Value} (hg:w.grownBy w' v.ownBlock) (h5:v'.ownBlock=v.ownBlock ∨ v'.ownBlock=some w.heap.size):Aside w v w' v' where
 size:=hg.size
 block k hk hv:=hg.block k hk (fun e=>hv e.symm)
 own:=by
  rcases h5 with e | e
  ·exact .inl e
  exact .inr ⟨_,e,TS _⟩
theorem Aside.cell {w w':af} {v v':Value} (h:Aside w v w' v') {p:Addr} (hp:p.block < w.heap.size) (hv:v.ownBlock ≠ some p.block):w'.cell? p=w.cell? p:=Ul (w:=w) (h.block p.block hp hv)
open Go.Sort
theorem pU {p:Prop} (h:p):Hid p:=h
theorem jQ {P:Program} {f:FuncId} {args:Array Value} {W:af} {v:Value} (h:∀ W',Calls P f args W' fun e w'=>e=.returned v∧w'=W'):∀ d os,Calls P f args (grow (redrawn W d) os) fun e w''=>e=.returned v∧∃ p:Regrown,w''=grow (redrawn W p.d) p.os:=fun d os=>(h _).mono fun _ _ ⟨he,hw⟩=>⟨he,⟨d,os⟩,hw⟩
theorem dm {P:Program} {f:FuncId} {args:Array Value} {W:af} {v:Value} (h:∀ W',ag W W'→Calls P f args W' fun e w'=>e=.returned v∧ag W' w'):∀ d os,Calls P f args (grow (redrawn W d) os) fun e w''=>e=.returned v∧∃ p:Regrown,w''=grow (redrawn W p.d) p.os:=fun d os=>Calls.regrown_of (h _ (below_regrown W d os))
def kV (ops:Array Oper) (m k:Nat):Bool:=(ops[m]?.map fun o=>o.after.any fun e=>e.on == k && Region.binds .any e).getD false
def Ti (ops:Array Oper) (i:Nat):List Nat:=(List.range i).reverse.foldl (fun acc k=>if acc.any (fun m=>kV ops m k) then k::acc else acc) [i]
def J5 (ops:Array Oper) (L N:Nat):Bool:=(List.range N).all fun i=>decide (i < L) || (List.range i).all fun j=>(Ti ops i).contains j
def Qb (l:List Oper) (L:Nat):Bool:=l.all fun o=>match o.guard with | some (g,_)=>decide (g < L) | none=>true
def nH (P:Program) (ops:Array Oper) (Q:Exit→Act→World→Prop):Nat→Nat→Act→World→Prop
 | 0,_,a,w=>Q .normal a w
 | n + 1,i,a,w=>wpOp P ops Q i (nH P ops Q n (i + 1)) a w
theorem xk {ops:Array Oper} {m k:Nat} (h:kV ops m k=true):∃ o,ops[m]?=some o∧∃ e ∈ o.after,e.on=k∧Region.binds .any e=true:=by
 unfold kV at h;cases ho:ops[m]? with
 | none=>rw [ho] at h; cases h
 | some o =>
  rw [ho] at h;simp only [Option.map_some,Option.getD_some] at h;rw [Array.any_eq_true'] at h;obtain ⟨e,he,h2⟩:=h;simp only [TU,beq_iff_eq] at h2;exact ⟨o,rfl,e,he,h2.1,h2.2⟩
theorem Fg {ops:Array Oper} {i:Nat} {lst:Nat→Prop} (hcl:∀ m k,m=i ∨ lst m→kV ops m k=true→lst k):∀ m ∈ Ti ops i,m=i ∨ lst m:=by
 have key:∀ (ks acc:List Nat),(∀ m ∈ acc,m=i ∨ lst m)→∀ m ∈ ks.foldl (fun acc k=>if acc.any (fun m=>kV ops m k) then k::acc else acc) acc,m=i ∨ lst m:=by
  intro ks
  induction ks with
  | nil=>intro acc h; exact h
  | cons k ks ih =>
   intro acc h;refine ih _ ?_;dsimp only;split
   ·rename_i ha;obtain ⟨m,hm,hb⟩:=Uo.1 ha;intro x hx;rcases List.mem_cons.1 hx with rfl | hx
    ·exact .inr (hcl m _ (h m hm) hb)
    exact h x hx
   exact h
 exact key _ _ fun m hm=>.inl (by simpa using hm)
theorem Cc {ops:Array Oper} {L N i:Nat} (h:J5 ops L N=true) (hi:i < N) (hL:L≤i) {lst:Nat→Prop} (hcl:∀ m k,m=i ∨ lst m→kV ops m k=true→lst k):∀ j,j < i→lst j:=fun j hj=>by
 have h1:=Ub.1 h i (by simpa using hi);simp only [Bool.or_eq_true,Ud] at h1;have h2:=Ub.1 (h1.resolve_left (by omega)) j (by simpa using hj);exact (Fg hcl j (by simpa using h2)).resolve_left (by omega)
theorem pV {P:Program} {id:Nat} {Q:Exit→Act→World→Prop} {a:Act} {w:af} {l:List Oper} (L n:Nat) (hm:P.follows .mixedOrders=true) (hlen:l.length=L + n)
  (hB:(Region.noSelect (l.take L).toArray && Region.lexFrom .any (l.take L).toArray L 0 (Array.replicate (L + n) false) && Qb (l.take L) L && Ca l.toArray && J5 l.toArray L (L + n))=true)
  (h:wpQuiet P (l.take L).toArray (fun w'=>∃ p:Regrown,w'=grow (redrawn w p.d) p.os) (fun a'=>∀ w',(∃ p:Regrown,w'=grow (redrawn w p.d) p.os)→nH P l.toArray Q n L a' w') (l.take L) a):(Code.region id l.toArray true).wp P Q a w:=by
 obtain ⟨C,hC⟩:∃ C:World→Prop,C=fun w'=>∃ p:Regrown,w'=grow (redrawn w p.d) p.os:=⟨_,rfl⟩;have h':wpQuiet P (l.take L).toArray C (fun a'=>∀ w',C w'→nH P l.toArray Q n L a' w') (l.take L) a:=by simpa [hC] using h
 clear h;have hC0:C w.drew:=by rw [hC]; exact ⟨⟨w.drawn + 1,#[]⟩,by rw [grow_empty]; rfl⟩
 clear hC;simp only [TU] at hB;obtain ⟨⟨⟨⟨hns,hlx⟩,hgd⟩,Ve⟩,hch⟩:=hB;have htl:(l.take L).length=L:=by rw [Ut]; omega
 have hat:∀ i,i < L→(l.take L).toArray[i]?=l.toArray[i]?:=fun i hi=>by simp [hi]
 have hsz:l.toArray.size=L + n:=by simpa using hlen
 have hwant:∀ (i:Nat) (o:Oper) (a':Act),i < L→l.toArray[i]?=some o→Region.wanted o (yielded (l.take L).toArray a'.tmps)=Region.wanted o (yielded l.toArray a'.tmps):=by
  intro i o a' hi ho;have hmem:o ∈ l.take L:=by
   rw [← hat i hi] at ho;exact List.mem_of_getElem? (by simpa using ho)
  have:=Ub.1 hgd o hmem;unfold Region.wanted;cases hg:o.guard with
  | none=>rfl
  | some x =>
   obtain ⟨g,bw⟩:=x;rw [hg] at this;have hgl:g < L:=by simpa using this
   simp only [yielded,hat g hgl]
 have h1:=wpAnyQ_lex (C:=C) (md:=.any) hns (l.take L) 0 (Array.replicate (L + n) false) a (fun j=>by simp) (by rw [htl]; exact hlx) h';rw [htl] at h1;refine gM (fun listed a' w'=>listed.size=L + n∧(∀ m k,listed.getD m false=true→kV l.toArray m k=true→listed.getD k false=true)∧(((∀ j,L≤j→listed.getD j false=false)∧C w'∧∃ fuel,wpAnyQ P .any (l.take L).toArray C (fun a'=>∀ w',C w'→nH P l.toArray Q n L a' w') fuel listed a') ∨ ∃ d,d≤n∧(∀ j,j < L + d→listed.getD j false=true)∧(∀ j,L + d≤j→listed.getD j false=false)∧nH P l.toArray Q (n - d) (L + d) a' w')) hm ?_ ?_ ?_
 ·have hf:∀ j,(Array.replicate l.toArray.size false).getD j false=false:=fun j=>by
   rw [Uj,Array.getElem?_replicate]; split <;> rfl
  exact ⟨by simpa using hsz,fun m k hm=>absurd hm (by rw [hf]; decide),Or.inl ⟨fun j _=>hf j,hC0,L,by rw [hsz]; exact h1⟩⟩
 ·rintro listed a' w' ⟨hs,hcl,hh⟩ i hi;obtain ⟨hl,o,ho,hpre⟩:=mem_ready.1 hi;have hiL:i < L + n:=by have:=(Array.getElem?_eq_some_iff.1 ho).1; omega
  have hcl2:∀ m k,(listed.setIfInBounds i true).getD m false=true→kV l.toArray m k=true→(listed.setIfInBounds i true).getD k false=true:=fun m k hm hb=>by
   rw [aO _ _ _ (by omega)] at hm ⊢;by_cases hk:k=i
   ·rw [if_pos hk]
   rw [if_neg hk];by_cases e:m=i
   ·subst e;obtain ⟨o',ho',e,he,rfl,hbe⟩:=xk hb;rw [ho] at ho'; obtain rfl:=Option.some.inj ho';exact hpre e he hbe
   rw [if_neg e] at hm;exact hcl m k hm hb
  have hup:L≤i→∀ j,j < i→listed.getD j false=true:=fun hLi=>Cc hch hiL hLi fun m k hm hb=>by
   rcases hm with rfl | hm
   ·obtain ⟨o',ho',e,he,rfl,hbe⟩:=xk hb;rw [ho] at ho'; obtain rfl:=Option.some.inj ho';exact hpre e he hbe
   exact hcl m k hm hb
  have hsq:∀ d,L + d=i→nH P l.toArray Q (n - d) (L + d) a' w'→wpOp P l.toArray Q i (fun a'' w''=>(listed.setIfInBounds i true).size=L + n∧(∀ m k,(listed.setIfInBounds i true).getD m false=true→kV l.toArray m k=true→(listed.setIfInBounds i true).getD k false=true)∧(((∀ j,L≤j→(listed.setIfInBounds i true).getD j false=false)∧C w''∧∃ fuel,wpAnyQ P .any (l.take L).toArray C (fun a'=>∀ w',C w'→nH P l.toArray Q n L a' w') fuel (listed.setIfInBounds i true) a'') ∨ ∃ d,d≤n∧(∀ j,j < L + d→(listed.setIfInBounds i true).getD j false=true)∧(∀ j,L + d≤j→(listed.setIfInBounds i true).getD j false=false)∧nH P l.toArray Q (n - d) (L + d) a'' w'')) a' w':=fun d hd hw=>by
   obtain ⟨r,hr⟩:∃ r,n - d=r + 1:=⟨n - d - 1,by omega⟩;rw [hr,hd] at hw;have Xl:∀ j,i < j→listed.getD j false=false:=fun j hj=>by
    cases hlj:listed.getD j false;case false=>rfl
    have hjn:j < L + n:=by
     rcases Nat.lt_or_ge j (L + n) with h | h
     ·exact h
     rw [Uj,Array.getElem?_eq_none (by omega)] at hlj; cases hlj
    have:=Cc hch hjn (by omega) (lst:=fun k=>listed.getD k false=true) (fun m k hm hb=>by
     rcases hm with rfl | hm
     ·exact hcl _ k hlj hb
     exact hcl m k hm hb) i hj
    rw [jZ (by omega)] at hl;rw [hl] at this; cases this
   refine wpOp_mono (fun a'' w'' hq=>⟨by simpa using hs,hcl2,.inr ⟨d + 1,by omega,fun j hj=>?_,fun j hj=>?_,?_⟩⟩) hw
   ·rw [aO _ _ _ (by omega)];by_cases e:j=i
    ·rw [if_pos e]
    rw [if_neg e]; exact hup (by omega) j (by omega)
   ·rw [aO _ _ _ (by omega),if_neg (by omega)];exact Xl j (by omega)
   have e1:n - (d + 1)=r:=by omega
   have e2:L + (d + 1)=i + 1:=by omega
   rw [e1,e2];exact hq
  rcases hh with ⟨hn,hCw,fuel,hq⟩ | ⟨d,hdn,hlow,hhigh,hw⟩
  ·by_cases e:i < L
   ·have hr:i ∈ Region.ready .any (l.take L).toArray listed:=mem_ready.2 ⟨hl,o,by rw [hat i e]; exact ho,hpre⟩;cases fuel with
    | zero=>have:=hq.1; rw [this] at hr; cases hr
    | succ nn =>
     have hk:=hq.2 i hr;have:=wpOp_of_qOp (K':=fun a'' w''=>C w''∧wpAnyQ P .any (l.take L).toArray C (fun a'=>∀ w',C w'→nH P l.toArray Q n L a' w') nn (listed.setIfInBounds i true) a'') (Q':=Q) hCw (fun _ _ h1 h2=>⟨h1,h2⟩) hk;have h3:wpOp P l.toArray Q i (fun a'' w''=>C w''∧wpAnyQ P .any (l.take L).toArray C (fun a'=>∀ w',C w'→nH P l.toArray Q n L a' w') nn (listed.setIfInBounds i true) a'') a' w':=by
      unfold wpOp at this ⊢;rw [hat i e,ho] at this;rw [ho];simp only [hwant i o a' e ho] at this;exact this
     refine wpOp_mono (fun a'' w'' hh=>⟨by simpa using hs,hcl2,Or.inl ⟨fun j hj=>?_,hh.1,nn,hh.2⟩⟩) h3;rw [aO _ _ _ (by omega),if_neg (by omega)]; exact hn j hj
   have hiE:i=L:=by
    rcases Nat.lt_or_ge L i with h | h
    ·have:=hup (by omega) L h;rw [hn L (TS _)] at this; cases this
    omega
   have hnr:Region.ready .any (l.take L).toArray listed=[]:=by
    rw [List.eq_nil_iff_forall_not_mem];intro j hj;obtain ⟨g1,oj,g2,-⟩:=mem_ready.1 hj;have hji:j < L:=by have:=(Array.getElem?_eq_some_iff.1 g2).1; simp at this; omega
    rw [jZ (by omega),hup (by omega) j (by omega)] at g1; cases g1
   have hQ:nH P l.toArray Q n L a' w':=by
    cases fuel with
    | zero=>exact hq.2 _ hCw
    | succ n=>exact hq.1 hnr _ hCw
   exact hsq 0 (by omega) (by simpa using hQ)
  have hid:L + d=i:=by
   rcases Nat.lt_or_ge i (L + d) with h | h
   ·have:=hlow i h;rw [jZ (by omega)] at hl; rw [hl] at this; cases this
   rcases Nat.lt_or_ge (L + d) i with h2 | h2
   ·have:=hup (by omega) (L + d) h2;rw [hhigh _ (TS _)] at this; cases this
   omega
  exact hsq d hid hw
 rintro listed a' w' ⟨hs,hcl,hh⟩ hr;have hall:=sK hr hsz (pW Ve) hs;rcases hh with ⟨hn,hCw,fuel,hq⟩ | ⟨d,hdn,hlow,hhigh,hw⟩
 ·have hn0:n=0:=by
   rcases Nat.eq_zero_or_pos n with h | h
   ·exact h
   have:=hall L (by omega);rw [jZ (by omega),hn L (TS _)] at this; cases this
  subst hn0;have hnr:Region.ready .any (l.take L).toArray listed=[]:=by
   rw [List.eq_nil_iff_forall_not_mem];intro j hj;obtain ⟨g1,oj,g2,-⟩:=mem_ready.1 hj;have hji:j < L:=by have:=(Array.getElem?_eq_some_iff.1 g2).1; simp at this; omega
   rw [hall j (by omega)] at g1; cases g1
  have hQ:nH P l.toArray Q 0 L a' w':=by
   cases fuel with
   | zero=>exact hq.2 _ hCw
   | succ n=>exact hq.1 hnr _ hCw
  exact hQ
 have hd:d=n:=by
  rcases Nat.lt_or_ge d n with h | h
  ·have:=hall (L + d) (by omega);rw [jZ (by omega),hhigh _ (TS _)] at this; cases this
  omega
 subst hd;rw [Nat.sub_self] at hw;exact hw
open Go.ChangeAt Go.ChangeShapes Go.WideShapes Pl
theorem ui (c:UInt8) (w:af) :
  Calls prog 229 #[.int .u8 c.toNat] w fun e w'=>e=.returned (.bool (yz c))∧w'=w:=by
 by_cases hl:eG c=true
 ·go_enter func229,ntmps229;go_wp2_with (go_at_call 210; refine (kU _ _).mono ?_; rintro e w' ⟨rfl,rfl⟩);go_ret;exact ⟨ah (by simp [yz,hl]),rfl⟩
 have hf:eG c=false:=by simpa using hl
 clear hl;go_enter func229,ntmps229;go_wp2_with (go_at_call 210; refine (kU _ _).mono ?_; rintro e w' ⟨rfl,rfl⟩)
 all_goals go_ret
 all_goals refine ⟨ah ?_,rfl⟩
 all_goals (rw [Bool.eq_iff_iff]; simp [yz,hf]; omega)
theorem Hw (s:bH) (w:af) (hs:s.size≤maxLen) :
  Calls prog 168 #[.string s] w fun e w'=>e=.returned (.bool (pK s))∧w'=w:=by
 unfold maxLen at hs;by_cases h1:1≤s.size∧s.size≤12
 ·obtain ⟨ha,hb⟩:=h1;go_enter func168,ntmps168;go_wp2
  go_loop [3] (fun i=>∃ k:Nat,k≤s.size∧i=.int .i64 k∧Hid (Hu yz s k=true)) (fun i=>s.size - (intOf i).toNat)
  case atStart=>exact ⟨0,TW _,rfl,ug _ _⟩
  obtain ⟨k,hk,rfl,hu⟩:=hrel;by_cases hlt:k < s.size
  ·by_cases hc:yz s[k]=true
   ·have hd:(97≤s[k].toNat∧s[k].toNat≤122) ∨ (48≤s[k].toNat∧s[k].toNat≤57) ∨ s[k].toNat=95:=by simp [yz,eG] at hc; omega
    have HU:Hid (Hu yz s (k + 1)=true):=by show _=_; rw [uh _ _ _ hlt,hc,hu.out]; rfl
    clear hc;rcases hd with ⟨hd1,hd2⟩ | ⟨hd1,hd2⟩ | hd1
    all_goals
     go_wp2;go_round;case rel=>exact ⟨k + 1,by omega,by go_num,HU⟩
     simp [intOf]; omega
   have hc':yz s[k]=false:=by simpa using hc
   have HB:Hid (rR yz s=false):=yC _ _ _ hlt hc';have hd:s[k].toNat < 48 ∨ (57 < s[k].toNat∧s[k].toNat < 95) ∨ (95 < s[k].toNat∧s[k].toNat < 97) ∨ 122 < s[k].toNat:=by simp [yz,eG] at hc'; omega
   clear hc hc';rcases hd with hd | ⟨hd,hd2⟩ | ⟨hd,hd2⟩ | hd
   all_goals
    have h95:((s[k].toNat:Int) != 95)=true:=by simp; omega
    go_wp2;go_ret;exact ⟨ah (by simp [pK,dL,HB.out]),rfl⟩
  go_wp2;go_ret;refine ⟨ah ?_,rfl⟩;have hall:rR yz s=true:=by rw [← yB yz s k (by omega)]; exact hu.out
  have hl:nG s=true:=by simp [nG]; omega
  simp [pK,dL,hall,hl]
 have hn:nG s=false:=by simp [nG]; omega
 have HN:Hid (pK s=false):=by show _=_; simp [pK,dL,hn]
 clear hn;by_cases ha:1≤s.size
 ·have hb:12 < s.size:=by omega
  clear h1;go_enter func168,ntmps168;go_wp2;go_ret;exact ⟨ah HN.out.symm,rfl⟩
 have ha':s.size < 1:=by omega
 clear h1;go_enter func168,ntmps168;go_wp2;go_ret;exact ⟨ah HN.out.symm,rfl⟩
theorem yO (s:bH) (w:af) (hs:s.size≤maxLen) :
  Calls prog 209 #[.string s,.func (Fn.func 229) #[] #[]] w fun e w'=>e=.returned (.bool (dL yz s))∧w'=w:=by
 unfold maxLen at hs;by_cases h1:1≤s.size∧s.size≤12
 ·obtain ⟨ha,hb⟩:=h1;go_enter func209,ntmps209;go_wp2
  go_loop [16] (fun i=>∃ k:Nat,k≤s.size∧i=.int .i64 k∧Hid (Hu yz s k=true)) (fun i=>s.size - (intOf i).toNat)
  case atStart=>exact ⟨0,TW _,rfl,ug _ _⟩
  obtain ⟨k,hk,rfl,hu⟩:=hrel;by_cases hlt:k < s.size
  ·by_cases hc:yz s[k]=true
   ·have HU:Hid (Hu yz s (k + 1)=true):=by show _=_; rw [uh _ _ _ hlt,hc,hu.out]; rfl
    go_wp2_with (go_at_call 229; refine (ui _ _).mono ?_; rintro e w' ⟨rfl,rfl⟩);go_round;case rel=>exact ⟨k + 1,by omega,by go_num,HU⟩
    simp [intOf]; omega
   have hc':yz s[k]=false:=by simpa using hc
   have HB:Hid (rR yz s=false):=yC _ _ _ hlt hc';clear hc;go_wp2_with (go_at_call 229; refine (ui _ _).mono ?_; rintro e w' ⟨rfl,rfl⟩);go_ret;exact ⟨ah (by simp [dL,HB.out]),rfl⟩
  go_wp2;go_ret;refine ⟨ah ?_,rfl⟩;have hall:rR yz s=true:=by rw [← yB yz s k (by omega)]; exact hu.out
  have hl:nG s=true:=by simp [nG]; omega
  simp [dL,hall,hl]
 have hn:nG s=false:=by simp [nG]; omega
 have HN:Hid (dL yz s=false):=by show _=_; simp [dL,hn]
 clear hn;by_cases ha:1≤s.size
 ·have hb:12 < s.size:=by omega
  clear h1;go_enter func209,ntmps209;go_wp2;go_ret;exact ⟨ah HN.out.symm,rfl⟩
 have ha':s.size < 1:=by omega
 clear h1;go_enter func209,ntmps209;go_wp2;go_ret;exact ⟨ah HN.out.symm,rfl⟩
theorem yP (s:bH) (w:af) (hs:s.size≤maxLen) :
  Calls prog 208 #[.string s] w fun e w'=>e=.returned (.bool (pK s))∧w'=w:=by
 go_enter func208,ntmps208;go_wp2_with (go_at_call 209; refine (yO _ _ hs).mono ?_; rintro e w' ⟨rfl,rfl⟩);go_ret;exact ⟨rfl,rfl⟩
theorem jM {W w1:af} (hb:ag W w1):(∀ b o,b < W.heap.size→w1.cell? ⟨b,o,none⟩=W.cell? ⟨b,o,none⟩)∧(∀ b o,b < W.heap.size→w1.frozen? ⟨b,o,none⟩=W.frozen? ⟨b,o,none⟩) :=
 ⟨fun b o h=>hb.cell (p:=⟨b,o,none⟩) h,fun b o h=>hb.frozen (p:=⟨b,o,none⟩) h⟩
theorem fV (t i:bH) (w:af) (ht:t.size≤maxLen) (hi:i.size≤maxLen) :
  Calls prog 110 #[.agg #[.string t,.string i]] w fun e w'=>e=.returned (.bool (eH t i))∧ag w w':=by
 by_cases hn:aP t=true
 all_goals
  go_enter func110,ntmps110;go_wp2_with (first | (go_at_call 111; refine (aS _ _ ht).mono ?_; rintro e w' ⟨rfl,rfl⟩) | (go_at_call 168; refine (Hw _ _ hi).mono ?_; rintro e w' ⟨rfl,rfl⟩));go_ret;exact ⟨ah (by simp [eH,hn]),(TT _ _).alloc (TS _) _⟩
theorem fZ (t i:bH) (w:af) (ht:t.size≤maxLen) (hi:i.size≤maxLen) :
  Calls prog 161 #[.agg #[.string t,.string i]] w fun e w'=>e=.returned (.bool (eH t i))∧ag w w':=by
 by_cases hn:aP t=true
 all_goals
  go_enter func161,ntmps161;go_wp2_with (first | (go_at_call 162; refine (aL _ _ ht).mono ?_; rintro e w' ⟨rfl,rfl⟩) | (go_at_call 208; refine (yP _ _ hi).mono ?_; rintro e w' ⟨rfl,rfl⟩));go_ret;exact ⟨ah (by simp [eH,hn]),(TT _ _).alloc (TS _) _⟩
end Go.Proofs.YtajkkeikihhejaaGreat
