/- Regions whose operations may stand late behind one another: only what binds in every order counts. -/
import Derived.Test.YtajkkeikihhejaaGreatSq
import Derived.RegionTactic
import Derived.Test.YtajkkeikihhejaaGreatJ7
open Go.Proofs.Tryz
set_option maxHeartbeats 80000000
namespace Go.Proofs.YtajkkeikihhejaaGreat
open Go.RowKit
variable {P:Program} {ops:Array Oper} {Q:Exit→Act→World→Prop}
def zf (ops:Array Oper):Bool:=(List.range ops.size).all (fun i=>(ops[i]?.map (fun o=>o.after.all (fun e=>!Region.binds .any e || decide (e.on < i)))).getD true)
theorem ru {ops:Array Oper} (h:zf ops=true):∀ (i:Nat) (o:Oper),ops[i]?=some o→∀ e ∈ o.after,Region.binds .any e=true→e.on < i:=by
 intro i o ho e he hb;rw [zf,Ub] at h;have h1:=h i (by simpa using (Array.getElem?_eq_some_iff.1 ho).1);rw [ho] at h1;simp only [Option.map_some,Option.getD_some,Array.all_eq_true_iff_forall_mem] at h1;have h2:=h1 e he;rw [hb] at h2;simpa using h2
theorem qg {listed:Array Bool} {n:Nat} (hr:Region.ready .any ops listed=[]) (hs:ops.size=n) (Vg:∀ (i:Nat) (o:Oper),ops[i]?=some o→∀ e ∈ o.after,Region.binds .any e=true→e.on < i) (hsz:listed.size=n):∀ i,i < n→listed.getD i true=true:=by
 intro i
 induction i using Nat.strongRecOn with
 | ind i ih =>
  intro hi;cases hl:listed.getD i true;case true=>rfl
  exfalso;have hmem:i ∈ Region.ready .any ops listed:=by
   refine mem_ready.2 ⟨hl,ops[i]'(by omega),Uv (by omega),fun e he hb=>?_⟩;have hlt:=Vg i _ (Uv (by omega)) e he hb;have:=ih e.on hlt (by omega);rw [Uj,Uv (by omega)] at this ⊢;simpa using this
  rw [hr] at hmem;cases hmem
def yI (ops:Array Oper) (L:Nat):Bool:=(List.range L).all fun j=>(List.range (L + 1)).any fun k=>decide (j < k) && (ops[k]?.map (fun o=>o.after.any (fun e=>e.on == j && Region.binds .any e))).getD false
theorem Ib {ops:Array Oper} {L:Nat} (h:yI ops L=true):∀ j,j < L→∃ k o,j < k∧k≤L∧ops[k]?=some o∧∃ e ∈ o.after,e.on=j∧Region.binds .any e=true:=by
 intro j hj;rw [yI,Ub] at h;have h1:=h j (List.mem_range.2 hj);rw [Uo] at h1;obtain ⟨k,hk,h2⟩:=h1;simp only [TU,Ud] at h2;cases ho:ops[k]? with
 | none=>rw [ho] at h2; simp at h2
 | some o =>
  rw [ho] at h2;simp only [Option.map_some,Option.getD_some] at h2;obtain ⟨h3,h4⟩:=h2;rw [Array.any_eq_true'] at h4;obtain ⟨e,he,h5⟩:=h4;simp only [TU,beq_iff_eq] at h5;exact ⟨k,o,h3,by have:=List.mem_range.1 hk; omega,ho,e,he,h5.1,h5.2⟩
def Shut (ops:Array Oper) (listed:Array Bool):Prop:=∀ (k:Nat) (o:Oper),ops[k]?=some o→listed.getD k false=true→∀ e ∈ o.after,Region.binds .any e=true→listed.getD e.on false=true
theorem Nw {ops:Array Oper} {listed:Array Bool} {L:Nat} (hlo:yI ops L=true) (hS:Shut ops listed) {o:Oper} (ho:ops[L]?=some o) (hpre:∀ e ∈ o.after,Region.binds .any e=true→listed.getD e.on false=true):∀ d j,j + d=L→j < L→listed.getD j false=true:=by
 intro d
 induction d using Nat.strongRecOn with
 | ind d ih =>
  intro j hjd hj;obtain ⟨k,o',h1,h2,h3,e,he,h4,h5⟩:=Ib hlo j hj;by_cases hk:k=L
  ·subst hk;rw [ho] at h3; injection h3 with h3; subst h3;rw [← h4]; exact hpre e he h5
  have:=ih (L - k) (by omega) k (by omega) (by omega);rw [← h4]; exact hS k o' h3 this e he h5
theorem lZ {id:Nat} {a:Act} {w:af} (L:Nat) (f0:Nat→Value) (F:(Nat→Value)→Act) (V:Nat→Value→World→Prop) (G:Array Bool→World→Prop)
  (hm:P.follows .mixedOrders=true) (hsz:ops.size=L + 1) (Vg:zf ops=true) (hlo:yI ops L=true)
  (h0:a=F f0) (hG0:G (Array.replicate ops.size false) w.drew)
  (hstep:∀ i,i < L→∀ o,ops[i]?=some o→∀ (listed:Array Bool) f w',listed.size=L + 1→listed.getD i true=false→G listed w'→(∀ e ∈ o.after,Region.binds .any e=true→V e.on (f e.on) w') →
   wpOp P ops Q i (fun a' w''=>∃ v,a'=F (upd f i v)∧G (listed.setIfInBounds i true) w''∧V i v w''∧∀ k u,k ≠ i→V k u w'→V k u w'') (F f) w')
  (hfin:∀ o,ops[L]?=some o→∀ (listed:Array Bool) f w',G listed w'→(∀ k,k < L→V k (f k) w')→wpOp P ops Q L (fun a' w''=>Q .normal a' w'') (F f) w') :
  (Code.region id ops true).wp P Q a w:=by
 refine gM (fun listed a' w'=>listed.size=L + 1∧((listed.getD L false=false∧Shut ops listed∧∃ f,a'=F f∧G listed w'∧∀ k,k < L→listed.getD k false=true→V k (f k) w') ∨ ((∀ j,j≤L→listed.getD j true=true)∧Q .normal a' w'))) hm ?_ ?_ ?_
 ·refine ⟨by simpa using hsz,Or.inl ⟨?_,fun k o _ h=>?_,_,h0,hG0,fun k _ h=>?_⟩⟩
  ·rw [Uj,Array.getElem?_replicate]; split <;> rfl
  ·rw [Uj,Array.getElem?_replicate] at h; split at h <;> cases h
  rw [Uj,Array.getElem?_replicate] at h; split at h <;> cases h
 ·rintro listed a' w' ⟨hs,h⟩ i hi;obtain ⟨hl,o,ho,hpre⟩:=mem_ready.1 hi;have hiL:i < L + 1:=by have:=(Array.getElem?_eq_some_iff.1 ho).1; omega
  rcases h with ⟨hn,hS,f,rfl,hG,hV⟩ | ⟨hall,-⟩
  ·by_cases e:i=L
   ·subst e;have hall:∀ k,k < i→listed.getD k false=true:=fun k hk=>Nw hlo hS ho hpre (i - k) k (by omega) hk;refine wpOp_mono (fun a'' w'' hq=>⟨by simpa using hs,Or.inr ⟨fun j hj=>?_,hq⟩⟩) (hfin o ho listed f w' hG (fun k hk=>hV k hk (hall k hk)));rw [j6 (by simp; omega),aO _ _ _ (by omega)];by_cases e:j=i
    ·simp [e]
    rw [if_neg e]; exact hall j (by omega)
   refine wpOp_mono ?_ (hstep i (by omega) o ho listed f w' hs hl hG (fun e he hb=>hV e.on (by have:=ru Vg i o ho e he hb; omega) (hpre e he hb)));rintro a'' w'' ⟨v,rfl,hG',hv,hmono⟩;refine ⟨by simpa using hs,Or.inl ⟨?_,fun k o' ho' hkl e' he' hb'=>?_,_,rfl,hG',fun k hk hkl=>?_⟩⟩
   ·rw [aO _ _ _ (by omega),if_neg (Ne.symm e)]; exact hn
   ·rw [aO _ _ _ (by omega)] at hkl ⊢;by_cases ee:e'.on=i
    ·rw [if_pos ee]
    rw [if_neg ee];by_cases ek:k=i
    ·subst ek;rw [ho] at ho'; injection ho' with ho'; subst ho';exact hpre e' he' hb'
    rw [if_neg ek] at hkl;exact hS k o' ho' hkl e' he' hb'
   rw [aO _ _ _ (by omega)] at hkl;by_cases ek:k=i
   ·subst ek; simpa [upd] using hv
   rw [if_neg ek] at hkl;simp only [upd,if_neg ek];exact hmono _ _ ek (hV k hk hkl)
  rw [hall i (by omega)] at hl; cases hl
 rintro listed a' w' ⟨hs,h⟩ hr;rcases h with ⟨hn,-⟩ | ⟨-,hq⟩
 ·have:=qg hr hsz (ru Vg) hs L (by omega);rw [j6 (by omega)] at this;rw [this] at hn; cases hn
 exact hq
theorem kK {P:Program} {ops:Array Oper} {Q:Exit→Act→World→Prop} {k:Nat} {o:Oper} {K:Act→World→Prop} {a:Act} (w:af) (hop:ops[k]?=some o) (hgd:o.guard=none) (s x:Operand) (t:TypeId)
  (ho:o.op=.call { callee:=.builtin .append,args:=#[s,x],argTypes:=#[t,t] })
  (base:Nat) (e:TypeId) (i:TypeInfo) (z:Value) (size bytes:Nat) (ht:P.underlying t=some (.slice e)) (hi:P.info? e=some i) (hz:i.zero=some z)
  (hsize:i.size=size) (hby:i.bytes=bytes) (hzs:z.cells.size=size) (hsz:0 < size)
  (v:Value) (n:Nat) (xs:List Value) (hs:a.eval s=v) (hown:w.ownsRow base e size v n xs)
  (ad:Addr) (m c:Nat) (news:List Value) (hx:a.eval x=.slice (some ad) m c) (hl:news.length=m * size) (hnews:∀ j u,news[j]?=some u→w.cell? (ad.add j)=some u) (h1:∀ u ∈ news,u.oneCell'=true)
  (h63:n + m≤maxLen) (hbytes:(n + m) * bytes≤140737488355328) (hbase:base≤w.heap.size)
  (h:∀ v' w',w'.ownsRow base e size v' (n + m) (xs ++ news)→w.grownBy w' v.ownBlock→(v'.ownBlock=v.ownBlock ∨ v'.ownBlock=some w.heap.size)→K (a.put o.dst v') w') :
  wpOp P ops Q k K a w:=by
 refine wpOp_step hop (fun K' hK=>?_);have hw:Region.wanted o (yielded ops a.tmps)=true:=by simp [Region.wanted,hgd]
 rw [if_pos hw];obtain ⟨v',w',hr,h2,h3,h4,h5⟩:=run_append_own_at (P:=P) w base t o.type e i z size bytes ht hi hz hsize hby hzs hsz v n xs hown ad m c news hl hnews h1 h63 hbytes hbase;unfold Oper.wp execOp;simp only [ho,resolve,invoke,builtin,Sem.run_bind,Sem.run_pure,Result.andThen_ok,List.map_toArray,List.map_cons,List.map_nil,hs,hx,hr];exact hK _ _ (h v' w' h2 h3 h5)
structure Aside (w:World) (v:Value) (w':World) (v':Value):Prop where
 size:w.heap.size≤w'.heap.size
 block:∀ k,k < w.heap.size→v.ownBlock ≠ some k→w'.heap[k]?=w.heap[k]?
 own:v'.ownBlock=v.ownBlock ∨ ∃ g,v'.ownBlock=some g∧w.heap.size≤g
theorem Aside.refl (w:af) (v:Value):Aside w v w v:=⟨TS _,fun _ _ _=>rfl,.inl rfl⟩
theorem Aside.apart {w w':af} {v v':Value} {k:Nat} (h:Aside w v w' v') (hk:k < w.heap.size) (hv:v.ownBlock ≠ some k):v'.ownBlock ≠ some k:=by
 rcases h.own with e | ⟨g,e,hg⟩
 ·rw [e]; exact hv
 rw [e]; intro h2; injection h2 with h2; omega
theorem Aside.trans {w w1 w2:af} {v v1 v2:Value} (h:Aside w v w1 v1) (h2:Aside w1 v1 w2 v2):Aside w v w2 v2 where
 size:=TZ h.size h2.size
 block k hk hv:=(h2.block k (TP hk h.size) (h.apart hk hv)).trans (h.block k hk hv)
 own:=by
  rcases h2.own with e | ⟨g,e,hg⟩
  ·rw [e]; exact h.own
  exact .inr ⟨g,e,TZ h.size hg⟩
theorem Aside.below {w w':af} {v:Value} (h:ag w w'):Aside w v w' v:=⟨h.size,fun k hk _=>h.block k hk,.inl rfl⟩
theorem Aside.app {w w':af} {v v':Value} (hg:w.grownBy w' v.ownBlock) (h5:v'.ownBlock=v.ownBlock ∨ v'.ownBlock=some w.heap.size):Aside w v w' v' where
 size:=hg.size
 block k hk hv:=hg.block k hk (fun e=>hv e.symm)
 own:=by
  rcases h5 with e | e
  ·exact .inl e
  exact .inr ⟨_,e,TS _⟩
theorem Aside.cell {w w':af} {v v':Value} (h:Aside w v w' v') {p:Addr} (hp:p.block < w.heap.size) (hv:v.ownBlock ≠ some p.block):w'.cell? p=w.cell? p:=Ul (w:=w) (h.block p.block hp hv)
open Go.ChangeAt Go.ChangeShapes Go.WideShapes Pl
set_option maxRecDepth 100000
structure Onl (R:Nat) (v:Value) (w w':World):Prop where
 os:w'.os=w.os
 tape:w'.tape=w.tape
 output:w'.output=w.output
 size:w.heap.size≤w'.heap.size
 block:∀ k,k < w.heap.size→k ≠ R→v.ownBlock ≠ some k→w'.heap[k]?=w.heap[k]?
def ER.cells (q:ER):Array Value:=#[.int .i64 q.e.kind,.slice q.adA q.e.allow.length q.capA,.string q.e.over,.string q.e.name,.slice q.adK q.e.kids.length q.capK]
theorem zg {w:af} {a:Addr} {v:Value} (h:w.cell? a=some v) (o:Obj):(w.alloc o).cell? a=some v:=by
 have hlt:=World.block_lt_of_cell? w a h;rw [((TT w.heap.size w).alloc (TS _) o).cell hlt]; exact h
def ym (w:World) (g:Nat) (q:ER):Prop:=w.cell? ⟨g,0,none⟩=some (.int .i64 q.e.kind)∧w.cell? ⟨g,1,none⟩=some (.slice q.adA q.e.allow.length q.capA)∧w.cell? ⟨g,2,none⟩=some (.string q.e.over)∧w.cell? ⟨g,3,none⟩=some (.string q.e.name)∧w.cell? ⟨g,4,none⟩=some (.slice q.adK q.e.kids.length q.capK)∧g < w.heap.size
theorem ym.grown {w w':af} {g:Nat} {q:ER} {row:Option Nat} (h:ym w g q) (hg:w.grownBy w' row) (hne:some g ≠ row):ym w' g q :=
 ⟨hg.cell h.1 hne,hg.cell h.2.1 hne,hg.cell h.2.2.1 hne,hg.cell h.2.2.2.1 hne,hg.cell h.2.2.2.2.1 hne,TP h.2.2.2.2.2 hg.size⟩
theorem Onl.grown {R:Nat} {v:Value} {w w' w'':af} {row:Option Nat} (h:Onl R v w w') (hg:w'.grownBy w'' row) (hr:∀ k,k < w.heap.size→k ≠ R→v.ownBlock ≠ some k→some k ≠ row):Onl R v w w'' :=
 ⟨hg.os.trans h.os,hg.tape.trans h.tape,hg.output.trans h.output,TZ h.size hg.size,fun k hk h1 h2=>(hg.block k (TP hk h.size) (hr k hk h1 h2)).trans (h.block k hk h1 h2)⟩
theorem fH {W:af} {base:Nat} {e:TypeId} {size:Nat} {v:Value} {k:Nat} {xs:List Value} (h:W.ownsRow base e size v (k + 1) xs):∃ g cap,v=.slice (some ⟨g,0,none⟩) (k + 1) cap:=by
 rcases h.2 with ⟨_,h0⟩ | ⟨g,cap,_,rfl,_⟩
 ·omega
 exact ⟨g,cap,rfl⟩
theorem Onl.at_own {R:Nat} {v:Value} {w w':af} (h:Onl R v w w') (o:Nat) (u:Value):Onl R v w (w'.setCell ⟨R,o,none⟩ u) :=
 ⟨h.os,h.tape,h.output,by simpa using h.size,fun k hk h1 h2=>(Below.heap_setCell w' _ _ k h1).trans (h.block k hk h1 h2)⟩
theorem RdC.put {w:af} {R:Nat} {s:ByteArray} {p:Nat} {bad:Bool} {v:Value} (h:RdC w R s p bad v) (u:Value):RdC (w.setCell ⟨R,3,none⟩ u) R s p bad u :=
 ⟨by simpa using h.lt,by rw [mO (by omega)]; exact h.c0,by rw [mO (by omega)]; exact h.c1,by rw [mO (by omega)]; exact h.c2,mS h.c3,fun j=>by simpa using h.fr j⟩
theorem RdC.hurt {w:af} {R:Nat} {s:ByteArray} {p:Nat} {bad:Bool} {v:Value} (h:RdC w R s p bad v):RdC (w.setCell ⟨R,2,none⟩ (.bool true)) R s p true v :=
 ⟨by simpa using h.lt,by rw [mO (by omega)]; exact h.c0,by rw [mO (by omega)]; exact h.c1,mS h.c2,by rw [mO (by omega)]; exact h.c3,fun j=>by simpa using h.fr j⟩
structure GA (R:Nat) (s:ByteArray) (p:Nat) (bad:Bool) (v:Value) (base n:Nat) (xs:List Value) (q:ER) (w:World) (listed:Array Bool) (w':World):Prop where
 rd:RdC w' R s p bad v
 box:ym w' w.heap.size q
 onl:Onl R v w w'
 own:listed.getD 7 false=false→w'.ownsRow base 39 5 v n xs
 small:listed.getD 6 false=false→w'.heap.size=w.heap.size + 1
theorem Ic {listed:Array Bool} {i L:Nat} (h:listed.getD i true=false) (hs:listed.size=L) (hi:i < L):listed.getD i false=false:=by
 rw [← j6 (by omega)]; exact h
theorem GA.step {R:Nat} {s:ByteArray} {p:Nat} {bad:Bool} {v:Value} {base n:Nat} {xs:List Value} {q:ER} {w w':af} {listed:Array Bool} (h:GA R s p bad v base n xs q w listed w') {i:Nat} (hls:listed.size=11) (h6:i ≠ 6) (h7:i ≠ 7):GA R s p bad v base n xs q w (listed.setIfInBounds i true) w' :=
 ⟨h.rd,h.box,h.onl,fun k=>h.own (by
  by_cases hi:i < 11
  ·rw [aO _ _ _ (by omega),if_neg (Ne.symm h7)] at k; exact k
  ·rw [show listed.setIfInBounds i true=listed by rw [Array.setIfInBounds_eq_of_size_le (by omega)]] at k; exact k),fun k=>h.small (by
  by_cases hi:i < 11
  ·rw [aO _ _ _ (by omega),if_neg (Ne.symm h6)] at k; exact k
  rw [show listed.setIfInBounds i true=listed by rw [Array.setIfInBounds_eq_of_size_le (by omega)]] at k; exact k)⟩
theorem GA.made {R:Nat} {s:ByteArray} {p:Nat} {bad:Bool} {v:Value} {base n:Nat} {xs:List Value} {q:ER} {w w':af} {listed:Array Bool} (h:GA R s p bad v base n xs q w listed w') {i:Nat} (hls:listed.size=11) {o:Obj} (hi:i=6:=by rfl):GA R s p bad v base n xs q w (listed.setIfInBounds i true) (w'.alloc o):=by
 subst hi;have hg:=World.grownBy_alloc w' o none;refine ⟨h.rd.grown hg (by simp),h.box.grown hg (by simp),h.onl.grown hg (by simp),fun k=>(h.own ?_).alloc _,fun k=>?_⟩
 ·rw [aO _ _ _ (by omega),if_neg (by omega)] at k; exact k
 rw [aO _ _ _ (by omega),if_pos rfl] at k; cases k
def VA (l:List Value) (base n:Nat) (v:Value) (q:ER) (xs:List Value) (w:World) (k:Nat) (u:Value) (w':World):Prop :=
 (k ≠ 6∧k ≠ 7→u=l.getD k undef) ∧
 (k=6→u=.slice (some ⟨w.heap.size + 1,0,none⟩) 1 1∧(∀ j x,q.row[j]?=some x→w'.cell? ((⟨w.heap.size + 1,0,none⟩:Addr).add j)=some x)∧w.heap.size + 1 < w'.heap.size) ∧
 (k=7→∃ g cap,u=.slice (some ⟨g,0,none⟩) (n + 1) cap∧w'.ownsRow base 39 5 (.slice (some ⟨g,0,none⟩) (n + 1) cap) (n + 1) (xs ++ q.row)∧(v.ownBlock=some g ∨ w.heap.size≤g))
theorem VA.at {l:List Value} {base n:Nat} {v:Value} {q:ER} {xs:List Value} {w:af} {k:Nat} {u:Value} {w':af} (h:k ≠ 6∧k ≠ 7) (hu:u=l.getD k undef):VA l base n v q xs w k u w':=⟨fun _=>hu,fun e=>absurd e h.1,fun e=>absurd e h.2⟩
theorem VA.alloc {l:List Value} {base n:Nat} {v:Value} {q:ER} {xs:List Value} {w w':af} {i:Nat} {o:Obj}:∀ k u,k ≠ i→VA l base n v q xs w k u w'→VA l base n v q xs w k u (w'.alloc o):=fun k u _ h =>
 ⟨h.1,fun e=>⟨(h.2.1 e).1,fun j x hj=>zg ((h.2.1 e).2.1 j x hj) o,TP (h.2.1 e).2.2 (by simp)⟩,fun e=>by obtain ⟨g,cap,e1,e2,e3⟩:=h.2.2 e; exact ⟨g,cap,e1,e2.alloc _,e3⟩⟩
theorem GA.appended {R:Nat} {s:ByteArray} {p:Nat} {bad:Bool} {v:Value} {base n:Nat} {xs:List Value} {q:ER} {w w' w'':af} {listed:Array Bool} (h:GA R s p bad v base n xs q w listed w') (hls:listed.size=11) (hg:w'.grownBy w'' v.ownBlock) (hR:v.ownBlock ≠ some R) (hX:v.ownBlock ≠ some w.heap.size) (hb6:w.heap.size + 1 < w'.heap.size):GA R s p bad v base n xs q w (listed.setIfInBounds 7 true) w'':=by
 refine ⟨h.rd.grown hg (Ne.symm hR),h.box.grown hg (Ne.symm hX),h.onl.grown hg (fun k _ _ h2=>Ne.symm h2),fun k=>?_,fun k=>?_⟩
 ·rw [aO _ _ _ (by omega),if_pos rfl] at k; cases k
 rw [aO _ _ _ (by omega),if_neg (by omega)] at k; have:=h.small k; omega
theorem VA.app {l:List Value} {base n:Nat} {v:Value} {q:ER} {xs:List Value} {w w' w'':af} (hg:w'.grownBy w'' v.ownBlock) (hX:v.ownBlock ≠ some (w.heap.size + 1)):∀ k u,k ≠ 7→VA l base n v q xs w k u w'→VA l base n v q xs w k u w'':=fun k u hk h =>
 ⟨h.1,fun e=>⟨(h.2.1 e).1,fun j x hj=>hg.cell ((h.2.1 e).2.1 j x hj) (by rw [show ((⟨w.heap.size + 1,0,none⟩:Addr).add j).block=w.heap.size + 1 by unfold Addr.add; split <;> rfl]; exact Ne.symm hX),TP (h.2.1 e).2.2 hg.size⟩,fun e=>absurd e hk⟩
theorem Qh (R:Nat) (s:bH) (p:Nat) (bad:Bool) (v:Value) (base n:Nat) (xs:List Value) (q:ER) (w:af) (h:RdC w R s p bad v) (hown:w.ownsRow base 39 5 v n xs) (hR:R < base) (hB:base≤w.heap.size) (hn:n≤100000) :
  Calls prog 237 #[.pointer (some ⟨R,0,none⟩),q.val] w fun e w'=>∃ (g cap:Nat),e=.returned (.int .i64 (n:Int))∧RdC w' R s p (bad || decide (15 < n + 1)) (.slice (some ⟨g,0,none⟩) (n + 1) cap)∧w'.ownsRow base 39 5 (.slice (some ⟨g,0,none⟩) (n + 1) cap) (n + 1) (xs ++ q.row)∧Onl R v w w'∧(v.ownBlock=some g ∨ w.heap.size≤g):=by
 obtain ⟨iT,hiT,zT0,zT1,zT2⟩:=info_parts (P:=prog) (e:=39) (z:=.agg #[.int .i64 0,.slice none 0 0,.string ⟨#[]⟩,.string ⟨#[]⟩,.slice none 0 0]) (size:=5) (bytes:=88) (by kernel_rfl);have HIT:=ai (And.intro hiT (And.intro zT0 (And.intro zT1 zT2)));have H:=ai h;have HO:=ai hown;have hlt:=h.lt;clear h hown hiT zT0 zT1 zT2;have hne:v.ownBlock ≠ some R:=fun e=>by have:=(HO.out.lt R e).1; omega
 have HNE:=ai hne;have HNX:Hid (v.ownBlock ≠ some w.heap.size):=fun e=>by have:=(HO.out.lt _ e).2; omega
 have HNX1:Hid (v.ownBlock ≠ some (w.heap.size + 1)):=fun e=>by have:=(HO.out.lt _ e).2; omega
 clear hne;unfold ER.val;obtain ⟨W0,hW0⟩:∃ W0,W0=w.alloc (.cells #[.int .i64 q.e.kind,.slice q.adA q.e.allow.length q.capA,.string q.e.over,.string q.e.name,.slice q.adK q.e.kids.length q.capK] 39):=⟨_,rfl⟩;have HG0:Hid (GA R s p bad v base n xs q w (Array.replicate 11 false) W0.drew):=by
  have hg:=World.grownBy_alloc w (.cells #[.int .i64 q.e.kind,.slice q.adA q.e.allow.length q.capA,.string q.e.over,.string q.e.name,.slice q.adK q.e.kids.length q.capK] 39) none;show GA _ _ _ _ _ _ _ _ _ _ _ _;rw [hW0];refine ⟨(H.out.grown hg (by simp)).drewN 1,⟨?_,?_,?_,?_,?_,?_⟩,⟨rfl,rfl,rfl,by simp [World.drew],fun k hk _ _=>hg.block k hk (by simp)⟩,fun _=>(HO.out.alloc _).drew,fun _=>by simp [World.drew]⟩ <;> simp
 go_enter func237,ntmps237;go_wp2_with fail;rw [← hW0];clear hW0;refine lZ 10 (fun _=>undef) (fun f=>{ tmps:=List.toArray (Value.pointer (some ⟨R,0,none⟩)::.agg #[.int .i64 q.e.kind,.slice q.adA q.e.allow.length q.capA,.string q.e.over,.string q.e.name,.slice q.adK q.e.kids.length q.capK]::undef::.pointer (some ⟨w.heap.size,0,none⟩)::.int .i64 0::f 0::f 1::f 2::f 3::f 4::f 5::f 6::f 7::f 8::f 9::undef::undef::undef::undef::undef::undef::undef::undef::undef::undef::undef::undef::undef::undef::undef::[]),defers:=[] }) (VA (Value.pointer (some ⟨R,0,none⟩)::.pointer (some ⟨R,0,none⟩)::.pointer (some ⟨R,0,none⟩)::.pointer (some ⟨R,3,none⟩)::v::.agg #[.int .i64 q.e.kind,.slice q.adA q.e.allow.length q.capA,.string q.e.over,.string q.e.name,.slice q.adK q.e.kids.length q.capK]::.slice (some ⟨w.heap.size + 1,0,none⟩) 1 1::undef::.pointer (some ⟨R,0,none⟩)::.pointer (some ⟨R,3,none⟩)::[]) base n v q xs w) (GA R s p bad v base n xs q w) (by kernel_rfl) rfl (by decide +kernel) (by decide +kernel) rfl HG0.out ?stepA ?finA;case stepA =>
  rintro i hi o ho listed f w' hls Vn hG hpre;have HG:=ai hG;have HM:Hid (∀ e ∈ o.after,Region.binds .any e=true→_):=hpre;clear hG hpre;have hc:=uh (i:=i) (by omega);clear hi
  repeat' rcases hc with rfl | hc
  ·cases ho;have HS:=ai (HG.out.step (i:=0) hls (by decide) (by decide));refine aa rfl fun K HK=>?_;clear HM;dsimp only;go_simp;exact HK.out _ _ ⟨Value.pointer (some ⟨R,0,none⟩),by simp [upd],HS.out,VA.at (by decide) rfl,fun k u _ hu=>hu⟩
  ·cases ho;have HS:=ai (HG.out.step (i:=1) hls (by decide) (by decide));refine aa rfl fun K HK=>?_;clear HM;dsimp only;go_simp;exact HK.out _ _ ⟨Value.pointer (some ⟨R,0,none⟩),by simp [upd],HS.out,VA.at (by decide) rfl,fun k u _ hu=>hu⟩
  ·cases ho;have e1:f 1=Value.pointer (some ⟨R,0,none⟩):=(HM.out ⟨1,.data⟩ (by simp) rfl).1 (by decide);have HS:=ai (HG.out.step (i:=2) hls (by decide) (by decide));refine aa rfl fun K HK=>?_;clear HM;simp only [e1];go_simp;exact HK.out _ _ ⟨Value.pointer (some ⟨R,0,none⟩),by simp [upd,e1],HS.out,VA.at (by decide) rfl,fun k u _ hu=>hu⟩
  ·cases ho;have e2:f 2=Value.pointer (some ⟨R,0,none⟩):=(HM.out ⟨2,.data⟩ (by simp) rfl).1 (by decide);have HS:=ai (HG.out.step (i:=3) hls (by decide) (by decide));refine aa rfl fun K HK=>?_;clear HM;simp only [e2];go_simp;exact HK.out _ _ ⟨Value.pointer (some ⟨R,3,none⟩),by simp [upd,e2],HS.out,VA.at (by decide) rfl,fun k u _ hu=>hu⟩
  ·cases ho;have e3:f 3=Value.pointer (some ⟨R,3,none⟩):=(HM.out ⟨3,.data⟩ (by simp) rfl).1 (by decide);have c3:=HG.out.rd.c3;have HS:=ai (HG.out.step (i:=4) hls (by decide) (by decide));refine aa rfl fun K HK=>?_;clear HM;simp only [e3];go_simp;exact HK.out _ _ ⟨v,by simp [upd,e3],HS.out,VA.at (by decide) rfl,fun k u _ hu=>hu⟩
  ·cases ho;obtain ⟨x0,x1,x2,x3,x4,xl⟩:=HG.out.box;have HS:=ai (HG.out.step (i:=5) hls (by decide) (by decide));refine aa rfl fun K HK=>?_;clear HM;dsimp only;go_simp;exact HK.out _ _ ⟨Value.agg #[.int .i64 q.e.kind,.slice q.adA q.e.allow.length q.capA,.string q.e.over,.string q.e.name,.slice q.adK q.e.kids.length q.capK],by simp [upd],HS.out,VA.at (by decide) rfl,fun k u _ hu=>hu⟩
  ·cases ho;have e5:f 5=Value.agg #[.int .i64 q.e.kind,.slice q.adA q.e.allow.length q.capA,.string q.e.over,.string q.e.name,.slice q.adK q.e.kids.length q.capK]:=(HM.out ⟨5,.data⟩ (by simp) rfl).1 (by decide);have hz:=HG.out.small (Ic Vn hls (by omega));have HS:Hid (∀ o,GA R s p bad v base n xs q w (listed.setIfInBounds 6 true) (w'.alloc o)):=fun o=>HG.out.made (i:=6) hls;refine aa rfl fun K HK=>?_;clear HM;simp only [e5];go_simp;exact HK.out _ _ ⟨.slice (some ⟨w'.heap.size,0,none⟩) 1 1,by simp [upd,e5],HS.out _,⟨fun h=>absurd rfl h.1,fun _=>⟨by rw [hz],fun j u hj=>by have:=KU w' q j u hj; rw [hz] at this; exact this,by simp; omega⟩,fun h=>absurd h (by decide)⟩,VA.alloc⟩
  ·cases ho;have e4:f 4=v:=(HM.out ⟨4,.data⟩ (by simp) rfl).1 (by decide);obtain ⟨e6,hnews,hb6⟩:=(HM.out ⟨6,.data⟩ (by simp) rfl).2.1 rfl;replace e6:f 6=Value.slice (some ⟨w.heap.size + 1,0,none⟩) 1 1:=e6;have hown:=HG.out.own (Ic Vn hls (by omega));clear HM;refine kK _ rfl rfl _ _ 33 rfl base 39 iT (.agg #[.int .i64 0,.slice none 0 0,.string ⟨#[]⟩,.string ⟨#[]⟩,.slice none 0 0]) 5 88 underlying33 HIT.out.1 HIT.out.2.1 HIT.out.2.2.1 HIT.out.2.2.2 rfl (by decide) v n xs e4 hown ⟨w.heap.size + 1,0,none⟩ 1 1 q.row e6 rfl hnews (Nl q) (by unfold maxLen; omega) (by omega) (by have:=HG.out.onl.size; omega) ?_;intro v7 w7 Xr hgr7 hat7;obtain ⟨g7,c7,rfl⟩:=fH Xr;refine ⟨.slice (some ⟨g7,0,none⟩) (n + 1) c7,by simp [upd,e4,e6,Act.put],HG.out.appended hls hgr7 HNE.out HNX.out hb6,⟨fun h=>absurd rfl h.2,fun h=>absurd h (by decide),fun _=>⟨g7,c7,rfl,Xr,?_⟩⟩,VA.app hgr7 HNX1.out⟩;rcases hat7 with e | e
   ·exact .inl e.symm
   simp [Value.ownBlock] at e; exact .inr (by have:=HG.out.onl.size; omega)
  ·cases ho;have e0:f 0=Value.pointer (some ⟨R,0,none⟩):=(HM.out ⟨0,.data⟩ (by simp) rfl).1 (by decide);have HS:=ai (HG.out.step (i:=8) hls (by decide) (by decide));refine aa rfl fun K HK=>?_;clear HM;simp only [e0];go_simp;exact HK.out _ _ ⟨Value.pointer (some ⟨R,0,none⟩),by simp [upd,e0],HS.out,VA.at (by decide) rfl,fun k u _ hu=>hu⟩
  cases ho;have e8:f 8=Value.pointer (some ⟨R,0,none⟩):=(HM.out ⟨8,.data⟩ (by simp) rfl).1 (by decide);have HS:=ai (HG.out.step (i:=9) hls (by decide) (by decide));refine aa rfl fun K HK=>?_;clear HM;simp only [e8];go_simp;exact HK.out _ _ ⟨Value.pointer (some ⟨R,3,none⟩),by simp [upd,e8],HS.out,VA.at (by decide) rfl,fun k u _ hu=>hu⟩
 case finA =>
  rintro o ho listed f w' hG hall;cases ho;obtain ⟨g,cap,e7,Xr,hat⟩:=(hall 7 (by omega)).2.2 rfl;have e9:f 9=Value.pointer (some ⟨R,3,none⟩):=(hall 9 (by omega)).1 (by decide);have HR:=ai hG.rd;have HN:=ai hG.onl;have HW:=ai Xr;have HA:=ai hat;have c3:=hG.rd.c3;have f3:=hG.rd.fr 3;have hl3:=hG.rd.lt;clear hall hG Xr hat;refine wpOp_step rfl (fun K hK=>?_);have HK:Hid (∀ a w,_→K a w):=hK;clear hK;simp only [e7,e9];go_simp;refine HK.out _ _ ?_;clear HK;obtain ⟨W8,Wu⟩:∃ W8,W8=w'.setCell ⟨R,3,none⟩ (.slice (some ⟨g,0,none⟩) (n + 1) cap):=⟨_,rfl⟩;have HR8:Hid (RdC W8 R s p bad (.slice (some ⟨g,0,none⟩) (n + 1) cap)):=by rw [Wu]; exact HR.out.put _
  have HN8:Hid (Onl R v w W8):=by rw [Wu]; exact HN.out.at_own _ _
  have HW8:Hid (W8.ownsRow base 39 5 (.slice (some ⟨g,0,none⟩) (n + 1) cap) (n + 1) (xs ++ q.row)):=by rw [Wu]; exact ownsRow_setCell_below HW.out hR _
  rw [← Wu];clear Wu HR HN HW c3 f3 hl3 e7 e9;have c2:=HR8.out.c2;have c3:=HR8.out.c3;have f2:=HR8.out.fr 2;have hl8:=HR8.out.lt;have hwr:IntKind.i64.wrap (((n:Int) + 1) - 1)=(n:Int):=by simp [IntKind.wrap,IntKind.bits,IntKind.signed]; omega
  by_cases hbig:15 < n + 1
  ·have hd:decide ((15:Int) < (n:Int) + 1)=true:=by simp; omega
   have HB:=ai hbig;clear hbig;go_wp2;exact bodyPost_ret (v:=.int .i64 (n:Int)) (by simp [results,Tryz.results237,go_sem]) rfl ⟨g,cap,rfl,by rw [show decide (15 < n + 1)=true from decide_eq_true HB.out,Bool.or_true]; exact HR8.out.hurt,ownsRow_setCell_below HW8.out hR _,HN8.out.at_own _ _,HA.out⟩
  have hd:decide ((15:Int) < (n:Int) + 1)=false:=by simp; omega
  have HB:=ai hbig;clear hbig;go_wp2;exact bodyPost_ret (v:=.int .i64 (n:Int)) (by simp [results,Tryz.results237,go_sem]) rfl ⟨g,cap,rfl,by rw [show decide (15 < n + 1)=false from decide_eq_false HB.out,Bool.or_false]; exact HR8.out,HW8.out,HN8.out,HA.out⟩
end Go.Proofs.YtajkkeikihhejaaGreat
