/- Regions whose operations may stand late behind one another: only what binds in every order counts. -/
import Derived.Test.YtajkkeikihhejaaGreatSq
import Derived.Test.YtajkkeikihhejaaGreatJ5
import Derived.Test.YtajkkeikihhejaaGreatSpecExpr
import Derived.Lib.IndexMore
import Derived.Lib.IndexBytes
import Derived.Lib.Strings
import Derived.WalkArith
open Go.Proofs.Tryz
set_option maxHeartbeats 80000000
namespace Go.Proofs.YtajkkeikihhejaaGreat
open RowKit
variable  {P:Program}{ops:Array Oper}{Q:Exit->Act->World->Prop}
def Ap(ops:Array Oper):Bool:=(List.range ops.size).all (fun i=>(ops[i]?.map (fun o=>o.after.all (fun e=>!Region.binds .any e || decide (e.on<i)))).getD true)
theorem rU{ops:Array Oper}(h:Ap ops=true):∀(i:Nat) (o:Oper),ops[i]?=some o->∀e∈o.after,Region.binds .any e=true->e.on<i:=by
 intro i o ho e he hb;rw[Ap,Vm]at h;have h1:=h i (by simpa using (Vi.1 ho).1);rw[ho]at h1;simp only[Option.map_some,VO,Array.all_eq_true_iff_forall_mem]at h1;have h2:=h1 e he;rw[hb]at h2;simpa using h2
theorem qI{listed:Array Bool}{n:Nat}(hr:Region.ready .any ops listed=[])(hs:ops.size=n)(Xr:∀(i:Nat) (o:Oper),ops[i]?=some o->∀e∈o.after,Region.binds .any e=true->e.on<i)(hsz:listed.size=n):∀i,i<n->listed.getD i true=true:=by
 intro i
 induction i using Nat.strongRecOn with
 | ind i ih =>
  intro hi;cases hl:listed.getD i true;case true=>rfl
  exfalso;have hmem:i∈Region.ready .any ops listed:=by
   refine mem_ready.2 ⟨hl,ops[i]'(by omega),VY (by omega),fun e he hb=>?_⟩;have hlt:=Xr i _ (VY (by omega)) e he hb;have:=ih e.on hlt (by omega);rw[Vy,VY (by omega)]at this ⊢;simpa using this
  rw[hr]at hmem;cases hmem
def zw(ops:Array Oper)(L:Nat):Bool:=(List.range L).all fun j=>(List.range (L+1)).any fun k=>decide (j<k)&&(ops[k]?.map (fun o=>o.after.any (fun e=>e.on==j&&Region.binds .any e))).getD false
theorem Jg{ops:Array Oper}{L:Nat}(h:zw ops L=true):∀j,j<L->∃k o,j<k/\k<=L/\ops[k]?=some o/\∃e∈o.after,e.on=j/\Region.binds .any e=true:=by
 intro j hj;rw[zw,Vm]at h;have h1:=h j (List.mem_range.2 hj);rw[VF]at h1;obtain⟨k,hk,h2⟩:=h1;simp only[Vd,Vk]at h2;cases ho:ops[k]? with
 | none=>rw[ho]at h2;simp at h2
 | some o =>
  rw[ho]at h2;simp only[Option.map_some,VO]at h2;obtain⟨h3,h4⟩:=h2;rw[Array.any_eq_true']at h4;obtain⟨e,he,h5⟩:=h4;simp only[Vd,beq_iff_eq]at h5;exact⟨k,o,h3,by have:=List.mem_range.1 hk;omega,ho,e,he,h5.1,h5.2⟩
def Shut(ops:Array Oper)(listed:Array Bool):Prop:=∀(k:Nat) (o:Oper),ops[k]?=some o->listed.getD k false=true->∀e∈o.after,Region.binds .any e=true->listed.getD e.on false=true
theorem OH{ops:Array Oper}{listed:Array Bool}{L:Nat}(hlo:zw ops L=true)(hS:Shut ops listed){o:Oper}(ho:ops[L]?=some o)(hpre:∀e∈o.after,Region.binds .any e=true->listed.getD e.on false=true):∀d j,j+d=L->j<L->listed.getD j false=true:=by
 intro d
 induction d using Nat.strongRecOn with
 | ind d ih =>
  intro j hjd hj;obtain⟨k,o',h1,h2,h3,e,he,h4,h5⟩:=Jg hlo j hj;by_cases hk:k=L
  ·subst hk;rw[ho]at h3;injection h3 with h3;subst h3;rw[<-h4];exact hpre e he h5
  have:=ih (L-k) (by omega) k (by omega) (by omega);rw[<-h4];exact hS k o' h3 this e he h5
theorem mG{id:Nat}{a:Act}{w:af}(L:Nat)(f0:Nat->Value)(F:(Nat->Value)->Act)(V:Nat->Value->World->Prop)(G:Array Bool->World->Prop)
  (hm:P.follows .mixedOrders=true) (hsz:ops.size=L+1) (Xr:Ap ops=true) (hlo:zw ops L=true)
  (h0:a=F f0) (hG0:G (Array.replicate ops.size false) w.drew)
  (hstep:∀ i,i<L->∀ o,ops[i]?=some o->∀ (listed:Array Bool) f w',listed.size=L+1->listed.getD i true=false->G listed w'->(∀ e∈o.after,Region.binds .any e=true->V e.on (f e.on) w') ->
   wpOp P ops Q i (fun a' w''=>∃v,a'=F (upd f i v)/\G (listed.setIfInBounds i true) w''/\V i v w''/\∀k u,k≠i->V k u w'->V k u w'') (F f) w')
  (hfin:∀o,ops[L]?=some o->∀(listed:Array Bool) f w',G listed w'->(∀k,k<L->V k (f k) w')->wpOp P ops Q L (fun a' w''=>Q .normal a' w'') (F f) w') :
  (Code.region id ops true).wp P Q a w:=by
 refine ig (fun listed a' w'=>listed.size=L+1/\((listed.getD L false=false/\Shut ops listed/\∃f,a'=F f/\G listed w'/\∀k,k<L->listed.getD k false=true->V k (f k) w')\/((∀j,j<=L->listed.getD j true=true)/\Q .normal a' w'))) hm ?_ ?_ ?_
 ·refine⟨by simpa using hsz,Or.inl ⟨?_,fun k o _ h=>?_,_,h0,hG0,fun k _ h=>?_⟩⟩
  ·rw[Vy,VR];split<;>rfl
  ·rw[Vy,VR]at h;split at h<;>cases h
  rw[Vy,VR]at h;split at h<;>cases h
 ·rintro listed a' w' ⟨hs,h⟩ i hi;obtain⟨hl,o,ho,hpre⟩:=mem_ready.1 hi;have hiL:i<L+1:=by have:=(Vi.1 ho).1;omega
  rcases h with⟨hn,hS,f,rfl,hG,hV⟩|⟨hall,-⟩
  ·by_cases e:i=L
   ·subst e;have hall:∀k,k<i->listed.getD k false=true:=fun k hk=>OH hlo hS ho hpre (i-k) k (by omega) hk;refine wpOp_mono (fun a'' w'' hq=>⟨by simpa using hs,Or.inr ⟨fun j hj=>?_,hq⟩⟩) (hfin o ho listed f w' hG (fun k hk=>hV k hk (hall k hk)));rw[kK (by simp;omega),aV _ _ _ (by omega)];by_cases e:j=i
    ·simp[e]
    rw[if_neg e];exact hall j (by omega)
   refine wpOp_mono ?_ (hstep i (by omega) o ho listed f w' hs hl hG (fun e he hb=>hV e.on (by have:=rU Xr i o ho e he hb;omega) (hpre e he hb)));rintro a'' w'' ⟨v,rfl,hG',hv,hmono⟩;refine⟨by simpa using hs,Or.inl ⟨?_,fun k o' ho' hkl e' he' hb'=>?_,_,rfl,hG',fun k hk hkl=>?_⟩⟩
   ·rw[aV _ _ _ (by omega),if_neg (Ne.symm e)];exact hn
   ·rw[aV _ _ _ (by omega)]at hkl ⊢;by_cases ee:e'.on=i
    ·rw[if_pos ee]
    rw[if_neg ee];by_cases ek:k=i
    ·subst ek;rw[ho]at ho';injection ho' with ho';subst ho';exact hpre e' he' hb'
    rw[if_neg ek]at hkl;exact hS k o' ho' hkl e' he' hb'
   rw[aV _ _ _ (by omega)]at hkl;by_cases ek:k=i
   ·subst ek;simpa[upd] using hv
   rw[if_neg ek]at hkl;simp only[upd,if_neg ek];exact hmono _ _ ek (hV k hk hkl)
  rw[hall i (by omega)]at hl;cases hl
 rintro listed a' w' ⟨hs,h⟩ hr;rcases h with⟨hn,-⟩|⟨-,hq⟩
 ·have:=qI hr hsz (rU Xr) hs L (by omega);rw[kK (by omega)]at this;rw[this]at hn;cases hn
 exact hq
open ChangeAt ChangeShapes WideShapes Pl
set_option maxRecDepth 100000
structure Onl(R:Nat)(v:Value)(w w':World):Prop where
 os:w'.os=w.os
 tape:w'.tape=w.tape
 output:w'.output=w.output
 size:w.heap.size<=w'.heap.size
 block:∀k,k<w.heap.size->k≠R->v.ownBlock≠some k->w'.heap[k]?=w.heap[k]?
def ER.cells(q:ER):Array Value:=#[.int .i64 q.e.kind,.slice q.adA q.e.allow.length q.capA,.string q.e.over,.string q.e.name,.slice q.adK q.e.kids.length q.capK]
theorem Aq{w:af}{a:Addr}{v:Value}(h:w.cell? a=some v)(o:Obj):(w.alloc o).cell? a=some v:=by
 have hlt:=World.block_lt_of_cell? w a h;rw[((Vb w.heap.size w).alloc (Va _) o).cell hlt];exact h
def za(w:World)(g:Nat)(q:ER):Prop:=w.cell? ⟨g,0,none⟩=some (.int .i64 q.e.kind)/\w.cell? ⟨g,1,none⟩=some (.slice q.adA q.e.allow.length q.capA)/\w.cell? ⟨g,2,none⟩=some (.string q.e.over)/\w.cell? ⟨g,3,none⟩=some (.string q.e.name)/\w.cell? ⟨g,4,none⟩=some (.slice q.adK q.e.kids.length q.capK)/\g<w.heap.size
theorem za.grown{w w':af}{g:Nat}{q:ER}{row:Option Nat}(h:za w g q)(hg:w.grownBy w' row)(hne:some g≠row):za w' g q :=
 ⟨hg.cell h.1 hne,hg.cell h.2.1 hne,hg.cell h.2.2.1 hne,hg.cell h.2.2.2.1 hne,hg.cell h.2.2.2.2.1 hne,U9 h.2.2.2.2.2 hg.size⟩
theorem Onl.grown{R:Nat}{v:Value}{w w' w'':af}{row:Option Nat}(h:Onl R v w w')(hg:w'.grownBy w'' row)(hr:∀k,k<w.heap.size->k≠R->v.ownBlock≠some k->some k≠row):Onl R v w w'' :=
 ⟨hg.os.trans h.os,hg.tape.trans h.tape,hg.output.trans h.output,Vj h.size hg.size,fun k hk h1 h2=>(hg.block k (U9 hk h.size) (hr k hk h1 h2)).trans (h.block k hk h1 h2)⟩
theorem fM{W:af}{base:Nat}{e:TypeId}{size:Nat}{v:Value}{k:Nat}{xs:Q03}(h:W.ownsRow base e size v (k+1) xs):∃g cap,v=.slice (some ⟨g,0,none⟩) (k+1) cap:=by
 rcases h.2 with⟨_,h0⟩|⟨g,cap,_,rfl,_⟩
 ·omega
 exact⟨g,cap,rfl⟩
theorem Onl.at_own{R:Nat}{v:Value}{w w':af}(h:Onl R v w w')(o:Nat)(u:Value):Onl R v w (w'.setCell ⟨R,o,none⟩ u) :=
 ⟨h.os,h.tape,h.output,by simpa using h.size,fun k hk h1 h2=>(Below.heap_setCell w' _ _ k h1).trans (h.block k hk h1 h2)⟩
theorem RdC.put{w:af}{R:Nat}{s:ByteArray}{p:Nat}{bad:Bool}{v:Value}(h:RdC w R s p bad v)(u:Value):RdC (w.setCell ⟨R,3,none⟩ u) R s p bad u :=
 ⟨by simpa using h.lt,by rw[mO (by omega)];exact h.c0,by rw[mO (by omega)];exact h.c1,by rw[mO (by omega)];exact h.c2,mS h.c3,fun j=>by simpa using h.fr j⟩
theorem RdC.hurt{w:af}{R:Nat}{s:ByteArray}{p:Nat}{bad:Bool}{v:Value}(h:RdC w R s p bad v):RdC (w.setCell ⟨R,2,none⟩ (.bool true)) R s p true v :=
 ⟨by simpa using h.lt,by rw[mO (by omega)];exact h.c0,by rw[mO (by omega)];exact h.c1,mS h.c2,by rw[mO (by omega)];exact h.c3,fun j=>by simpa using h.fr j⟩
structure GA(R:Nat)(s:ByteArray)(p:Nat)(bad:Bool)(v:Value)(base n:Nat)(xs:Q03)(q:ER)(w:World)(listed:Array Bool)(w':World):Prop where
 rd:RdC w' R s p bad v
 box:za w' w.heap.size q
 onl:Onl R v w w'
 own:listed.getD 7 false=false->w'.ownsRow base 39 5 v n xs
 small:listed.getD 6 false=false->w'.heap.size=w.heap.size+1
theorem Jh{listed:Array Bool}{i L:Nat}(h:listed.getD i true=false)(hs:listed.size=L)(hi:i<L):listed.getD i false=false:=by
 rw[<-kK (by omega)];exact h
theorem GA.step{R:Nat}{s:ByteArray}{p:Nat}{bad:Bool}{v:Value}{base n:Nat}{xs:Q03}{q:ER}{w w':af}{listed:Array Bool}(h:GA R s p bad v base n xs q w listed w'){i:Nat}(hls:listed.size=11)(h6:i≠6)(h7:i≠7):GA R s p bad v base n xs q w (listed.setIfInBounds i true) w' :=
 ⟨h.rd,h.box,h.onl,fun k=>h.own (by
  by_cases hi:i<11
  ·rw[aV _ _ _ (by omega),if_neg (Ne.symm h7)]at k;exact k
  ·rw[show listed.setIfInBounds i true=listed by rw[Array.setIfInBounds_eq_of_size_le (by omega)]]at k;exact k),fun k=>h.small (by
  by_cases hi:i<11
  ·rw[aV _ _ _ (by omega),if_neg (Ne.symm h6)]at k;exact k
  rw[show listed.setIfInBounds i true=listed by rw[Array.setIfInBounds_eq_of_size_le (by omega)]]at k;exact k)⟩
theorem GA.made{R:Nat}{s:ByteArray}{p:Nat}{bad:Bool}{v:Value}{base n:Nat}{xs:Q03}{q:ER}{w w':af}{listed:Array Bool}(h:GA R s p bad v base n xs q w listed w'){i:Nat}(hls:listed.size=11){o:Obj}(hi:i=6:=by rfl):GA R s p bad v base n xs q w (listed.setIfInBounds i true) (w'.alloc o):=by
 subst hi;have hg:=World.grownBy_alloc w' o none;refine⟨h.rd.grown hg (by simp),h.box.grown hg (by simp),h.onl.grown hg (by simp),fun k=>(h.own ?_).alloc _,fun k=>?_⟩
 ·rw[aV _ _ _ (by omega),if_neg (by omega)]at k;exact k
 rw[aV _ _ _ (by omega),if_pos rfl]at k;cases k
def VA(l:Q03)(base n:Nat)(v:Value)(q:ER)(xs:Q03)(w:World)(k:Nat)(u:Value)(w':World):Prop :=
 (k≠6/\k≠7->u=l.getD k undef) /\
 (k=6->u=.slice (some ⟨w.heap.size+1,0,none⟩) 1 1/\(∀j x,q.row[j]?=some x->w'.cell? ((⟨w.heap.size+1,0,none⟩:Addr).add j)=some x)/\w.heap.size+1<w'.heap.size) /\
 (k=7->∃g cap,u=.slice (some ⟨g,0,none⟩) (n+1) cap/\w'.ownsRow base 39 5 (.slice (some ⟨g,0,none⟩) (n+1) cap) (n+1) (xs++q.row)/\(v.ownBlock=some g\/w.heap.size<=g))
theorem VA.at{l:Q03}{base n:Nat}{v:Value}{q:ER}{xs:Q03}{w:af}{k:Nat}{u:Value}{w':af}(h:k≠6/\k≠7)(hu:u=l.getD k undef):VA l base n v q xs w k u w':=⟨fun _=>hu,fun e=>absurd e h.1,fun e=>absurd e h.2⟩
theorem VA.alloc{l:Q03}{base n:Nat}{v:Value}{q:ER}{xs:Q03}{w w':af}{i:Nat}{o:Obj}:∀k u,k≠i->VA l base n v q xs w k u w'->VA l base n v q xs w k u (w'.alloc o):=fun k u _ h =>
 ⟨h.1,fun e=>⟨(h.2.1 e).1,fun j x hj=>Aq ((h.2.1 e).2.1 j x hj) o,U9 (h.2.1 e).2.2 (by simp)⟩,fun e=>by obtain⟨g,cap,e1,e2,e3⟩:=h.2.2 e;exact⟨g,cap,e1,e2.alloc _,e3⟩⟩
theorem GA.appended{R:Nat}{s:ByteArray}{p:Nat}{bad:Bool}{v:Value}{base n:Nat}{xs:Q03}{q:ER}{w w' w'':af}{listed:Array Bool}(h:GA R s p bad v base n xs q w listed w')(hls:listed.size=11)(hg:w'.grownBy w'' v.ownBlock)(hR:v.ownBlock≠some R)(hX:v.ownBlock≠some w.heap.size)(hb6:w.heap.size+1<w'.heap.size):GA R s p bad v base n xs q w (listed.setIfInBounds 7 true) w'':=by
 refine⟨h.rd.grown hg (Ne.symm hR),h.box.grown hg (Ne.symm hX),h.onl.grown hg (fun k _ _ h2=>Ne.symm h2),fun k=>?_,fun k=>?_⟩
 ·rw[aV _ _ _ (by omega),if_pos rfl]at k;cases k
 rw[aV _ _ _ (by omega),if_neg (by omega)]at k;have:=h.small k;omega
theorem VA.app{l:Q03}{base n:Nat}{v:Value}{q:ER}{xs:Q03}{w w' w'':af}(hg:w'.grownBy w'' v.ownBlock)(hX:v.ownBlock≠some (w.heap.size+1)):∀k u,k≠7->VA l base n v q xs w k u w'->VA l base n v q xs w k u w'':=fun k u hk h =>
 ⟨h.1,fun e=>⟨(h.2.1 e).1,fun j x hj=>hg.cell ((h.2.1 e).2.1 j x hj) (by rw[show((⟨w.heap.size+1,0,none⟩:Addr).add j).block=w.heap.size+1 by unfold Addr.add;split<;>rfl];exact Ne.symm hX),U9 (h.2.1 e).2.2 hg.size⟩,fun e=>absurd e hk⟩
theorem Rn(R:Nat)(s:bW)(p:Nat)(bad:Bool)(v:Value)(base n:Nat)(xs:Q03)(q:ER)(w:af)(h:RdC w R s p bad v)(hown:w.ownsRow base 39 5 v n xs)(hR:R<base)(hB:base<=w.heap.size)(hn:n<=100000):
  Calls prog 237 #[.pointer (some ⟨R,0,none⟩),q.val] w fun e w'=>∃(g cap:Nat),e=.returned (.int .i64 (n:Int))/\RdC w' R s p (bad || decide (15<n+1)) (.slice (some ⟨g,0,none⟩) (n+1) cap)/\w'.ownsRow base 39 5 (.slice (some ⟨g,0,none⟩) (n+1) cap) (n+1) (xs++q.row)/\Onl R v w w'/\(v.ownBlock=some g\/w.heap.size<=g):=by
 obtain⟨iT,hiT,zT0,zT1,zT2⟩:=info_parts (P:=prog) (e:=39) (z:=.agg #[.int .i64 0,.slice none 0 0,.string ⟨#[]⟩,.string ⟨#[]⟩,.slice none 0 0]) (size:=5) (bytes:=88) (by kernel_rfl);have HIT:=aj (And.intro hiT (And.intro zT0 (And.intro zT1 zT2)));have H:=aj h;have HO:=aj hown;have hlt:=h.lt;clear h hown hiT zT0 zT1 zT2;have hne:v.ownBlock≠some R:=fun e=>by have:=(HO.out.lt R e).1;omega
 have HNE:=aj hne;have HNX:Hid (v.ownBlock≠some w.heap.size):=fun e=>by have:=(HO.out.lt _ e).2;omega
 have HNX1:Hid (v.ownBlock≠some (w.heap.size+1)):=fun e=>by have:=(HO.out.lt _ e).2;omega
 clear hne;unfold ER.val;obtain⟨W0,hW0⟩:∃W0,W0=w.alloc (.cells #[.int .i64 q.e.kind,.slice q.adA q.e.allow.length q.capA,.string q.e.over,.string q.e.name,.slice q.adK q.e.kids.length q.capK] 39):=⟨_,rfl⟩;have HG0:Hid (GA R s p bad v base n xs q w (Array.replicate 11 false) W0.drew):=by
  have hg:=World.grownBy_alloc w (.cells #[.int .i64 q.e.kind,.slice q.adA q.e.allow.length q.capA,.string q.e.over,.string q.e.name,.slice q.adK q.e.kids.length q.capK] 39) none;show GA _ _ _ _ _ _ _ _ _ _ _ _;rw[hW0];refine⟨(H.out.grown hg (by simp)).drewN 1,⟨?_,?_,?_,?_,?_,?_⟩,⟨rfl,rfl,rfl,by simp[World.drew],fun k hk _ _=>hg.block k hk (by simp)⟩,fun _=>(HO.out.alloc _).drew,fun _=>by simp[World.drew]⟩<;>simp
 go_enter func237,ntmps237;go_wp2_with fail;rw[<-hW0];clear hW0;refine mG 10 (fun _=>undef) (fun f=>{ tmps:=List.toArray (Value.pointer (some ⟨R,0,none⟩)::.agg #[.int .i64 q.e.kind,.slice q.adA q.e.allow.length q.capA,.string q.e.over,.string q.e.name,.slice q.adK q.e.kids.length q.capK]::undef::.pointer (some ⟨w.heap.size,0,none⟩)::.int .i64 0::f 0::f 1::f 2::f 3::f 4::f 5::f 6::f 7::f 8::f 9::undef::undef::undef::undef::undef::undef::undef::undef::undef::undef::undef::undef::undef::undef::undef::[]),defers:=[] }) (VA (Value.pointer (some ⟨R,0,none⟩)::.pointer (some ⟨R,0,none⟩)::.pointer (some ⟨R,0,none⟩)::.pointer (some ⟨R,3,none⟩)::v::.agg #[.int .i64 q.e.kind,.slice q.adA q.e.allow.length q.capA,.string q.e.over,.string q.e.name,.slice q.adK q.e.kids.length q.capK]::.slice (some ⟨w.heap.size+1,0,none⟩) 1 1::undef::.pointer (some ⟨R,0,none⟩)::.pointer (some ⟨R,3,none⟩)::[]) base n v q xs w) (GA R s p bad v base n xs q w) (by kernel_rfl) rfl (by decide +kernel) (by decide +kernel) rfl HG0.out ?stepA ?finA;case stepA =>
  rintro i hi o ho listed f w' hls XB hG hpre;have HG:=aj hG;have HM:Hid (∀e∈o.after,Region.binds .any e=true->_):=hpre;clear hG hpre;have hc:=uQ (i:=i) (by omega);clear hi
  repeat' rcases hc with rfl|hc
  ·cases ho;have HS:=aj (HG.out.step (i:=0) hls (by decide) (by decide));refine aa rfl fun K HK=>?_;clear HM;dsimp only;go_simp;exact HK.out _ _ ⟨Value.pointer (some ⟨R,0,none⟩),by simp[upd],HS.out,VA.at (by decide) rfl,fun k u _ hu=>hu⟩
  ·cases ho;have HS:=aj (HG.out.step (i:=1) hls (by decide) (by decide));refine aa rfl fun K HK=>?_;clear HM;dsimp only;go_simp;exact HK.out _ _ ⟨Value.pointer (some ⟨R,0,none⟩),by simp[upd],HS.out,VA.at (by decide) rfl,fun k u _ hu=>hu⟩
  ·cases ho;have e1:f 1=Value.pointer (some ⟨R,0,none⟩):=(HM.out ⟨1,.data⟩ (by simp) rfl).1 (by decide);have HS:=aj (HG.out.step (i:=2) hls (by decide) (by decide));refine aa rfl fun K HK=>?_;clear HM;simp only[e1];go_simp;exact HK.out _ _ ⟨Value.pointer (some ⟨R,0,none⟩),by simp[upd,e1],HS.out,VA.at (by decide) rfl,fun k u _ hu=>hu⟩
  ·cases ho;have e2:f 2=Value.pointer (some ⟨R,0,none⟩):=(HM.out ⟨2,.data⟩ (by simp) rfl).1 (by decide);have HS:=aj (HG.out.step (i:=3) hls (by decide) (by decide));refine aa rfl fun K HK=>?_;clear HM;simp only[e2];go_simp;exact HK.out _ _ ⟨Value.pointer (some ⟨R,3,none⟩),by simp[upd,e2],HS.out,VA.at (by decide) rfl,fun k u _ hu=>hu⟩
  ·cases ho;have e3:f 3=Value.pointer (some ⟨R,3,none⟩):=(HM.out ⟨3,.data⟩ (by simp) rfl).1 (by decide);have c3:=HG.out.rd.c3;have HS:=aj (HG.out.step (i:=4) hls (by decide) (by decide));refine aa rfl fun K HK=>?_;clear HM;simp only[e3];go_simp;exact HK.out _ _ ⟨v,by simp[upd,e3],HS.out,VA.at (by decide) rfl,fun k u _ hu=>hu⟩
  ·cases ho;obtain⟨x0,x1,x2,x3,x4,xl⟩:=HG.out.box;have HS:=aj (HG.out.step (i:=5) hls (by decide) (by decide));refine aa rfl fun K HK=>?_;clear HM;dsimp only;go_simp;exact HK.out _ _ ⟨Value.agg #[.int .i64 q.e.kind,.slice q.adA q.e.allow.length q.capA,.string q.e.over,.string q.e.name,.slice q.adK q.e.kids.length q.capK],by simp[upd],HS.out,VA.at (by decide) rfl,fun k u _ hu=>hu⟩
  ·cases ho;have e5:f 5=Value.agg #[.int .i64 q.e.kind,.slice q.adA q.e.allow.length q.capA,.string q.e.over,.string q.e.name,.slice q.adK q.e.kids.length q.capK]:=(HM.out ⟨5,.data⟩ (by simp) rfl).1 (by decide);have hz:=HG.out.small (Jh XB hls (by omega));have HS:Hid (∀o,GA R s p bad v base n xs q w (listed.setIfInBounds 6 true) (w'.alloc o)):=fun o=>HG.out.made (i:=6) hls;refine aa rfl fun K HK=>?_;clear HM;simp only[e5];go_simp;exact HK.out _ _ ⟨.slice (some ⟨w'.heap.size,0,none⟩) 1 1,by simp[upd,e5],HS.out _,⟨fun h=>absurd rfl h.1,fun _=>⟨by rw[hz],fun j u hj=>by have:=L8 w' q j u hj;rw[hz]at this;exact this,by simp;omega⟩,fun h=>absurd h (by decide)⟩,VA.alloc⟩
  ·cases ho;have e4:f 4=v:=(HM.out ⟨4,.data⟩ (by simp) rfl).1 (by decide);obtain⟨e6,hnews,hb6⟩:=(HM.out ⟨6,.data⟩ (by simp) rfl).2.1 rfl;replace e6:f 6=Value.slice (some ⟨w.heap.size+1,0,none⟩) 1 1:=e6;have hown:=HG.out.own (Jh XB hls (by omega));clear HM;refine lh _ rfl rfl _ _ 33 rfl base 39 iT (.agg #[.int .i64 0,.slice none 0 0,.string ⟨#[]⟩,.string ⟨#[]⟩,.slice none 0 0]) 5 88 underlying33 HIT.out.1 HIT.out.2.1 HIT.out.2.2.1 HIT.out.2.2.2 rfl (by decide) v n xs e4 hown ⟨w.heap.size+1,0,none⟩ 1 1 q.row e6 rfl hnews (OG q) (by unfold maxLen;omega) (by omega) (by have:=HG.out.onl.size;omega) ?_;intro v7 w7 ZA hgr7 hat7;obtain⟨g7,c7,rfl⟩:=fM ZA;refine⟨.slice (some ⟨g7,0,none⟩) (n+1) c7,by simp[upd,e4,e6,Act.put],HG.out.appended hls hgr7 HNE.out HNX.out hb6,⟨fun h=>absurd rfl h.2,fun h=>absurd h (by decide),fun _=>⟨g7,c7,rfl,ZA,?_⟩⟩,VA.app hgr7 HNX1.out⟩;rcases hat7 with e|e
   ·exact .inl e.symm
   simp[Value.ownBlock]at e;exact .inr (by have:=HG.out.onl.size;omega)
  ·cases ho;have e0:f 0=Value.pointer (some ⟨R,0,none⟩):=(HM.out ⟨0,.data⟩ (by simp) rfl).1 (by decide);have HS:=aj (HG.out.step (i:=8) hls (by decide) (by decide));refine aa rfl fun K HK=>?_;clear HM;simp only[e0];go_simp;exact HK.out _ _ ⟨Value.pointer (some ⟨R,0,none⟩),by simp[upd,e0],HS.out,VA.at (by decide) rfl,fun k u _ hu=>hu⟩
  cases ho;have e8:f 8=Value.pointer (some ⟨R,0,none⟩):=(HM.out ⟨8,.data⟩ (by simp) rfl).1 (by decide);have HS:=aj (HG.out.step (i:=9) hls (by decide) (by decide));refine aa rfl fun K HK=>?_;clear HM;simp only[e8];go_simp;exact HK.out _ _ ⟨Value.pointer (some ⟨R,3,none⟩),by simp[upd,e8],HS.out,VA.at (by decide) rfl,fun k u _ hu=>hu⟩
 case finA =>
  rintro o ho listed f w' hG hall;cases ho;obtain⟨g,cap,e7,ZA,hat⟩:=(hall 7 (by omega)).2.2 rfl;have e9:f 9=Value.pointer (some ⟨R,3,none⟩):=(hall 9 (by omega)).1 (by decide);have HR:=aj hG.rd;have HN:=aj hG.onl;have HW:=aj ZA;have HA:=aj hat;have c3:=hG.rd.c3;have f3:=hG.rd.fr 3;have hl3:=hG.rd.lt;clear hall hG ZA hat;refine wpOp_step rfl (fun K hK=>?_);have HK:Hid (∀a w,_->K a w):=hK;clear hK;simp only[e7,e9];go_simp;refine HK.out _ _ ?_;clear HK;obtain⟨W8,YE⟩:∃W8,W8=w'.setCell ⟨R,3,none⟩ (.slice (some ⟨g,0,none⟩) (n+1) cap):=⟨_,rfl⟩;have HR8:Hid (RdC W8 R s p bad (.slice (some ⟨g,0,none⟩) (n+1) cap)):=by rw[YE];exact HR.out.put _
  have HN8:Hid (Onl R v w W8):=by rw[YE];exact HN.out.at_own _ _
  have HW8:Hid (W8.ownsRow base 39 5 (.slice (some ⟨g,0,none⟩) (n+1) cap) (n+1) (xs++q.row)):=by rw[YE];exact ownsRow_setCell_below HW.out hR _
  rw[<-YE];clear YE HR HN HW c3 f3 hl3 e7 e9;have c2:=HR8.out.c2;have c3:=HR8.out.c3;have f2:=HR8.out.fr 2;have hl8:=HR8.out.lt;have hwr:IntKind.i64.wrap (((n:Int)+1)-1)=(n:Int):=by simp[IntKind.wrap,IntKind.bits,IntKind.signed];omega
  by_cases hbig:15<n+1
  ·have hd:decide ((15:Int)<(n:Int)+1)=true:=by simp;omega
   have HB:=aj hbig;clear hbig;go_wp2;exact bodyPost_ret (v:=.int .i64 (n:Int)) (by simp[results,Tryz.results237,go_sem]) rfl ⟨g,cap,rfl,by rw[show decide (15<n+1)=true from decide_eq_true HB.out,Bool.or_true];exact HR8.out.hurt,ownsRow_setCell_below HW8.out hR _,HN8.out.at_own _ _,HA.out⟩
  have hd:decide ((15:Int)<(n:Int)+1)=false:=by simp;omega
  have HB:=aj hbig;clear hbig;go_wp2;exact bodyPost_ret (v:=.int .i64 (n:Int)) (by simp[results,Tryz.results237,go_sem]) rfl ⟨g,cap,rfl,by rw[show decide (15<n+1)=false from decide_eq_false HB.out,Bool.or_false];exact HR8.out,HW8.out,HN8.out,HA.out⟩
structure Went(R:Nat)(v:Value)(w:World)(v':Value)(w':World):Prop where
 onl:Onl R v w w'
 own:v'.ownBlock=v.ownBlock \/ ∃g,v'.ownBlock=some g/\w.heap.size<=g
theorem Onl.refl(R:Nat)(v:Value)(w:af):Onl R v w w:=⟨rfl,rfl,rfl,Va _,fun _ _ _ _=>rfl⟩
theorem Went.refl(R:Nat)(v:Value)(w:af):Went R v w v w:=⟨Onl.refl R v w,.inl rfl⟩
theorem Went.apart{R:Nat}{v v':Value}{w w':af}(h:Went R v w v' w'){k:Nat}(hk:k<w.heap.size)(hv:v.ownBlock≠some k):v'.ownBlock≠some k:=by
 rcases h.own with e|⟨g,e,hg⟩
 ·rw[e];exact hv
 rw[e];intro h2;injection h2 with h2;omega
theorem Went.trans{R:Nat}{v v1 v2:Value}{w w1 w2:af}(h:Went R v w v1 w1)(h2:Went R v1 w1 v2 w2):Went R v w v2 w2:=by
 refine⟨⟨h2.onl.os.trans h.onl.os,h2.onl.tape.trans h.onl.tape,h2.onl.output.trans h.onl.output,Vj h.onl.size h2.onl.size,fun k hk h3 h4=>(h2.onl.block k (U9 hk h.onl.size) h3 (h.apart hk h4)).trans (h.onl.block k hk h3 h4)⟩,?_⟩;rcases h2.own with e|⟨g,e,hg⟩
 ·rw[e];exact h.own
 exact .inr ⟨g,e,Vj h.onl.size hg⟩
abbrev om:Value:=.slice none 0 0
theorem Onl.any{R:Nat}{w w':af}(h:Onl R om w w')(v:Value):Went R v w v w':=⟨⟨h.os,h.tape,h.output,h.size,fun k hk h1 _=>h.block k hk h1 (by simp[Value.ownBlock])⟩,.inl rfl⟩
theorem Onl.of_grown{R:Nat}{w w':af}(h:w.grownBy w' (some R)):Onl R om w w':=⟨h.os,h.tape,h.output,h.size,fun k hk h1 _=>h.block k hk (fun e=>h1 (by injection e))⟩
theorem Onl.trans0{R:Nat}{w w1 w2:af}(h:Onl R om w w1)(h2:Onl R om w1 w2):Onl R om w w2:=((h.any om).trans (h2.any om)).onl
theorem Onl.of_below{R:Nat}{w w':af}(h:ae w w'):Onl R om w w':=⟨h.os,h.tape,h.output,h.size,fun k hk _ _=>h.block k hk⟩
def Cu(w:World)(base:Nat)(q:ER):Prop:=(q.e.kids=[]/\q.adK=none/\q.capK=0)\/(q.e.kids≠[]/\w.ownsRow base 2 1 (.slice q.adK q.e.kids.length q.capK) q.e.kids.length (ints q.e.kids))
structure RdF(w:World)(R:Nat)(s:ByteArray)(st:RS)(base:Nat)(v:Value)(qs:Q08):Prop where
 rd:RdC w R s st.p st.bad v
 own:w.ownsRow base 39 5 v qs.length (jW qs)
 out:ak qs=st.out
 zA:∀q∈qs,q.e.allow≠[]->∃g,q.adA=some ⟨g,0,none⟩
 zK:∀q∈qs,q.e.kids≠[]->∃g,q.adK=some ⟨g,0,none⟩
 ok:∀q∈qs,q.ok w
 lie:∀q∈qs,∀g,qw q g->base<=g/\g<w.heap.size/\jZ w g/\v.ownBlock≠some g
 one:∀q∈qs,∀g,bA q g->¬bK q g
 two:∀(x y:Nat) (hx:x<qs.length) (hy:y<qs.length),x≠y->∀g,qw qs[x] g->¬qw qs[y] g
 cA:∀q∈qs,q.e.allow.length<=q.capA
 cK:∀q∈qs,Cu w base q
theorem Cu.heap{w w':af}{base:Nat}{q:ER}(h:Cu w base q)(hz:q.e.kids≠[]->∃g,q.adK=some ⟨g,0,none⟩)(hh:∀g,qw q g->w'.heap[g]?=w.heap[g]?):Cu w' base q:=by
 rcases h with h|⟨hne,h⟩
 ·exact .inl h
 obtain⟨g,eg⟩:=hz hne;refine .inr ⟨hne,jM h fun g' hg'=>?_⟩;rw[eg]at hg';have:g=g':=by simpa[Value.ownBlock] using hg'
 subst this;exact hh g (.inr ⟨hne,eg⟩)
theorem Cu.mono{w:af}{base base':Nat}{q:ER}(h:Cu w base q)(hb:base'<=base):Cu w base' q:=by
 rcases h with h|⟨hne,h⟩
 ·exact .inl h
 refine .inr ⟨hne,h.1,?_⟩;rcases h.2 with hl|⟨g,cap,cur,e,h1,h2⟩
 ·exact .inl hl
 exact .inr ⟨g,cap,cur,e,Vj hb h1,h2⟩
theorem RdF.over{w w':af}{R:Nat}{s:ByteArray}{st:RS}{base:Nat}{v:Value}{qs:Q08}(h:RdF w R s st base v qs)(hR:R<base)(ho:Onl R om w w'){p:Nat}{bad:Bool}(hr:RdC w' R s p bad v):RdF w' R s ⟨p,bad,st.out⟩ base v qs where
 rd:=hr
 own:=jM h.own fun g hg=>ho.block g (h.own.lt g hg).2 (by have:=(h.own.lt g hg).1;omega) (by simp[Value.ownBlock])
 out:=h.out
 zA:=h.zA
 zK:=h.zK
 ok q hq:=rT (h.ok q hq) ho.size (h.zA q hq) (h.zK q hq) fun g hg=>ho.block g (h.lie q hq g hg).2.1 (by have:=(h.lie q hq g hg).1;omega) (by simp[Value.ownBlock])
 lie q hq g hg:=by
  obtain⟨h1,h2,h3,h4⟩:=h.lie q hq g hg;exact⟨h1,U9 h2 ho.size,dx h3 (ho.block g h2 (by omega) (by simp[Value.ownBlock])),h4⟩
 one:=h.one
 two:=h.two
 cA:=h.cA
 cK q hq:=(h.cK q hq).heap (h.zK q hq) fun g hg=>ho.block g (h.lie q hq g hg).2.1 (by have:=(h.lie q hq g hg).1;omega) (by simp[Value.ownBlock])
theorem L9(R:Nat)(s:bW)(st:RS)(base:Nat)(v:Value)(qs:Q08)(q:ER)(w:af)(h:RdF w R s st base v qs)(hR:R<base)(hB:base<=w.heap.size)(hn:qs.length<=100000)
  (hq:NewQ base w q) (Xg:Cu w base q) (ha:∀g,qw q g->v.ownBlock≠some g/\∀q'∈qs,¬qw q' g) :
  Calls prog 237 #[.pointer (some ⟨R,0,none⟩),q.val] w fun e w'=>∃v',e=.returned (.int .i64 (st.out.length:Int))/\RdF w' R s (sP q.e st) base v' (qs++[q])/\Went R v w v' w':=by
 have hlen:qs.length=st.out.length:=by rw[<-h.out];simp[ak]
 refine(Rn R s st.p st.bad v base qs.length (jW qs) q w h.rd h.own hR hB hn).mono ?_;rintro e w' ⟨g,cap,rfl,hrd,hown,honl,hat⟩;have hW:Went R v w (.slice (some ⟨g,0,none⟩) (qs.length+1) cap) w':=⟨honl,by
  rcases hat with e|e
  ·exact .inl (by rw[e];rfl)
  exact .inr ⟨g,rfl,e⟩⟩
 have keep:∀k,k<w.heap.size->base<=k->v.ownBlock≠some k->w'.heap[k]?=w.heap[k]?:=fun k h1 h2 h3=>honl.block k h1 (by omega) h3;refine⟨.slice (some ⟨g,0,none⟩) (qs.length+1) cap,by rw[hlen],?_,hW⟩;refine⟨by unfold sP;rw[<-hlen];exact hrd,?_,?_,?_,?_,?_,?_,?_,?_,?_,?_⟩
 ·rw[Vh,VL,Jc];exact hown
 ·simp[ak,sP,<-h.out]
 ·intro q' hq';rcases Vn.1 hq' with h1|h1
  ·exact h.zA q' h1
  rw[Vl]at h1;subst h1;exact hq.zA
 ·intro q' hq';rcases Vn.1 hq' with h1|h1
  ·exact h.zK q' h1
  rw[Vl]at h1;subst h1;exact hq.zK
 ·intro q' hq';rcases Vn.1 hq' with h1|h1
  ·exact rT (h.ok q' h1) honl.size (h.zA q' h1) (h.zK q' h1) fun k hk=>keep k (h.lie q' h1 k hk).2.1 (h.lie q' h1 k hk).1 (h.lie q' h1 k hk).2.2.2
  rw[Vl]at h1;subst h1;exact rT hq.ok honl.size hq.zA hq.zK fun k hk=>keep k (hq.lie k hk).2.1 (hq.lie k hk).1 (ha k hk).1
 ·intro q' hq' k hk;rcases Vn.1 hq' with h1|h1
  ·obtain⟨a1,a2,a3,a4⟩:=h.lie q' h1 k hk;exact⟨a1,U9 a2 honl.size,dx a3 (keep k a2 a1 a4),hW.apart a2 a4⟩
  rw[Vl]at h1;subst h1;obtain⟨a1,a2,a3⟩:=hq.lie k hk;exact⟨a1,U9 a2 honl.size,dx a3 (keep k a2 a1 (ha k hk).1),hW.apart a2 (ha k hk).1⟩
 ·intro q' hq';rcases Vn.1 hq' with h1|h1
  ·exact h.one q' h1
  rw[Vl]at h1;subst h1;exact hq.one
 ·intro x y hx hy hxy k hkx hky;rw[Vh,VL]at hx hy;by_cases ex:x<qs.length
  ·rw[Vw ex]at hkx;by_cases ey:y<qs.length
   ·rw[Vw ey]at hky;exact h.two x y ex ey hxy k hkx hky
   have:y=qs.length:=by omega
   subst this;rw[VM (Va _)]at hky;simp at hky;exact(ha k hky).2 _ (U8 ex) hkx
  have:x=qs.length:=by omega
  subst this;rw[VM (Va _)]at hkx;simp at hkx;have ey:y<qs.length:=by omega
  rw[Vw ey]at hky;exact(ha k hkx).2 _ (U8 ey) hky
 ·intro q' hq';rcases Vn.1 hq' with h1|h1
  ·exact h.cA q' h1
  rw[Vl]at h1;subst h1;exact hq.cA
 intro q' hq';rcases Vn.1 hq' with h1|h1
 ·exact(h.cK q' h1).heap (h.zK q' h1) fun k hk=>keep k (h.lie q' h1 k hk).2.1 (h.lie q' h1 k hk).1 (h.lie q' h1 k hk).2.2.2
 rw[Vl]at h1;subst h1;exact Xg.heap hq.zK fun k hk=>keep k (hq.lie k hk).2.1 (hq.lie k hk).1 (ha k hk).1
def vI(R:Nat)(s:ByteArray)(base:Nat)(v:Value)(qs:Q08)(w:World)(x:Int×RS)(e:Ending)(w':World):Prop :=
 ∃v' ns,e=.returned (.int .i64 x.1)/\RdF w' R s x.2 base v' (qs++ns)/\Went R v w v' w'/\∀q∈ns,∀g,qw q g->w.heap.size<=g
def uq(s:ByteArray)(x:Int×RS):Int×RS:=if lW s fC x.2 then (x.1,kM fC x.2) else (x.1,vv x.2)
theorem Ji{s:ByteArray}{x:Int×RS}(h:nz s fC x.2.p x.2.bad=true):uq s x=(x.1,kM fC x.2):=if_pos h
theorem Ma{s:ByteArray}{x:Int×RS}(h:nz s fC x.2.p x.2.bad=false):uq s x=(x.1,vv x.2):=if_neg (fun e=>by rw[lW,<-nz,h]at e;cases e)
theorem RdF.is_no{w w':af}{R:Nat}{s t:ByteArray}{st:RS}{base:Nat}{v:Value}{qs:Q08}(h:RdF w R s st base v qs)(hR:R<base)(hb:nz s t st.p st.bad=false)(hr:RdC w' R s (Ri s t st.p st.bad) st.bad v)(hg:w.grownBy w' (some R)):RdF w' R s st base v qs:=by
 rw[zZ hb]at hr;exact h.over hR (Onl.of_grown hg) hr
theorem RdF.is_yes{w w':af}{R:Nat}{s t:ByteArray}{st:RS}{base:Nat}{v:Value}{qs:Q08}(h:RdF w R s st base v qs)(hR:R<base)(hb:nz s t st.p st.bad=true)(hr:RdC w' R s (Ri s t st.p st.bad) st.bad v)(hg:w.grownBy w' (some R)):RdF w' R s (kM t st) base v qs:=by
 rw[vw hb]at hr;exact h.over hR (Onl.of_grown hg) hr
theorem Ar{s t:ByteArray}{p:Nat}{bad:Bool}(h:nz s t p bad=true):p+t.size<=s.size:=by
 unfold nz at h;simp only[Vd]at h;exact Gi h.2
theorem OI(R:Nat)(s:bW)(st:RS)(base:Nat)(v:Value)(qs:Q08)(w:af)(h:RdF w R s st base v qs)(hR:R<base)(hs:s.size<=1000)(hp:st.p<=s.size)
  (h0:nz s gm st.p st.bad=false) (h1:nz s jJ st.p st.bad=true) (x:Int×RS) (hx:x.2.p<=s.size)
  (hrow:∀w1,RdF w1 R s (kM jJ st) base v qs->w.heap.size<=w1.heap.size->Calls prog 219 #[.pointer (some ⟨R,0,none⟩)] w1 (vI R s base v qs w1 x)) :
  Calls prog 234 #[.pointer (some ⟨R,0,none⟩)] w (vI R s base v qs w (uq s x)):=by
 have H:=aj h;have Xt:=aj hrow;have HX:=aj hx;have HP:=aj hp;clear h hrow hx hp;go_enter func234,ntmps234;go_wp2_with fail;refine(mE R s gm st.p st.bad v w H.out.rd hs HP.out (by decide)).mono ?_;rintro e w1 ⟨rfl,hr1,hg1⟩;have Xx:=aj (H.out.is_no hR h0 hr1 hg1);have WK:=aj (Onl.of_grown hg1);rw[h0];clear hr1 hg1 h0;go_wp2_with fail;refine(mE R s jJ st.p st.bad v w1 Xx.out.rd hs HP.out (by decide)).mono ?_;rintro e w2 ⟨rfl,hr2,hg2⟩;have X9:=aj (Xx.out.is_yes hR h1 hr2 hg2);have Wu:=aj (WK.out.trans0 (Onl.of_grown hg2));rw[h1];clear hr2 hg2 h1;go_wp2_with fail;refine(Xt.out w2 X9.out Wu.out.size).mono ?_;rintro e w3 ⟨v3,ns,rfl,hF3,hW3,hns⟩;have HF3:=aj hF3;have HW3:=aj ((Wu.out.any v).trans hW3);have HNS:Hid (∀q∈ns,∀g,qw q g->w.heap.size<=g):=fun q hq g hg=>Vj Wu.out.size (hns q hq g hg);clear hF3 hW3 hns Xx WK X9 Wu Xt;go_wp2_with fail;refine(mE R s fC x.2.p x.2.bad v3 w3 HF3.out.rd hs HX.out (by decide)).mono ?_;rintro e w4 ⟨rfl,hr4,hg4⟩;cases hc:nz s fC x.2.p x.2.bad;case true=>
  have YC:=aj (HF3.out.is_yes hR hc hr4 hg4);have HW4:=aj (HW3.out.trans ((Onl.of_grown hg4).any v3));have EQ:=aj (Ji (x:=x) hc);clear hr4 hg4 hc;go_wp2;exact bodyPost_ret (v:=.int .i64 x.1) (by simp[results,Tryz.results234,go_sem]) rfl (by rw[EQ.out];exact⟨v3,ns,rfl,YC.out,HW4.out,HNS.out⟩)
 have YC:=aj (HF3.out.is_no hR hc hr4 hg4);have HW4:=aj (HW3.out.trans ((Onl.of_grown hg4).any v3));have c2:=YC.out.rd.c2;have f2:=YC.out.rd.fr 2;have hl:=YC.out.rd.lt;have EQ:=aj (Ma (x:=x) hc);clear hr4 hg4 hc;go_wp2;exact bodyPost_ret (v:=.int .i64 x.1) (by simp[results,Tryz.results234,go_sem]) rfl (by rw[EQ.out];exact⟨v3,ns,rfl,YC.out.over hR ((Onl.refl R om w4).at_own _ _) YC.out.rd.hurt,HW4.out.trans (((Onl.refl R om w4).at_own _ _).any v3),HNS.out⟩)
theorem o8(rs:Q08)(n:Nat)(h:n<rs.length):di (ak rs) n=rs[n].e.kids:=by simp[di,ak,h]
theorem Jj(b off cap:Nat)(rs:Q08)(hlen:rs.length<=1048576)(hl:∀r∈rs,r.e.light)(n:Nat):∀(w:af),n<rs.length->b<w.heap.size->(∀(i:Nat) (h:i<rs.length),yT w b (off+i*5) rs[i])->(∀r∈rs,r.ok w) ->
  Calls prog 191 #[.slice (some ⟨b,off,none⟩) rs.length cap,.int .i64 (n:Int)] w fun e w'=>e=.returned (.int .i64 (az (ak rs) n))/\ae w w':=by
 induction n using Nat.strongRecOn with
 | ind n ih =>
  intro w hn hb hr hok
  have IH:Hid (∀ m,m<n->∀ (w:World),m<rs.length->b<w.heap.size->(∀ (i:Nat) (h:i<rs.length),yT w b (off+i*5) rs[i])->(∀ r∈rs,r.ok w) ->
   Calls prog 191 #[.slice (some ⟨b,off,none⟩) rs.length cap,.int .i64 (m:Int)] w fun e w'=>e=.returned (.int .i64 (az (ak rs) m))/\ae w w'):=ih
  have HR:Hid (∀(i:Nat) (h:i<rs.length),yT w b (off+i*5) rs[i]):=hr;have HO:=aD hok;obtain⟨t0,t1,t2,t3,t4⟩:=hr n hn;obtain⟨l1,l2⟩:=hl rs[n] (U8 hn);have hn1:=bC n;have hn2:(n:Int)<(rs.length:Int):=by omega
  have HT:Hid (az (ak rs) n=dz (dD (ak rs) n) rs[n].e.kids.reverse ((n:Int)-1)):=by show _=_;rw[jq,o8 rs n hn]
  have HL:=aD hl;clear ih hr hok hl l1;go_enter func191,ntmps191;go_wp2_with fail;go_loopw[5,6] (fun a i wr=>∃(j:Nat) (x:Int),j<=rs[n].e.kids.length/\i=.int .i64 ((j:Int)-1)/\a=.int .i64 x∧-1<=x/\x<n/\Hid (dz (dD (ak rs) n) (rs[n].e.kids.take j).reverse x=az (ak rs) n)/\ae w wr) (fun _ i _=>(intOf i+1).toNat);case atStart=>exact⟨rs[n].e.kids.length,(n:Int)-1,Va _,rfl,rfl,by omega,by omega,(by show _=_;rw[Vs];exact HT.out.symm),Vb _ _⟩
  obtain⟨j,x,hj,rfl,rfl,hx0,hx1,HG,hB⟩:=hrel;have s4:=kept hB hb t4;by_cases hj0:0<j
  ·obtain⟨j,rfl⟩:∃i,j=i+1:=⟨j-1,by omega⟩;have hjl:j<rs[n].e.kids.length:=by omega
   rcases (HO.out rs[n] (U8 hn)).2.below hB with hnil|⟨bk,offk,ZB,hbk,hrk⟩
   ·rw[hnil]at hjl;simp at hjl
   rw[ZB]at s4;have k0:=hrk j hjl;clear hrk;have hji:((j+1:Nat):Int)-1=(j:Int):=by omega
   have hj1:=bC j;have hj2:(j:Int)<(rs[n].e.kids.length:Int):=by omega
   have HG2:Hid ((if x<0\/rs[n].e.kids[j]≠x then -1 else if dD (ak rs) n x<0 then -1 else dz (dD (ak rs) n) (rs[n].e.kids.take j).reverse (dD (ak rs) n x-1))=az (ak rs) n):=by
    have:=HG.out;rw[Ve hjl,List.reverse_append]at this;exact this
   rw[hji];clear HG ZB t0 t1 t2 t3 t4;by_cases hxn:x<0
   ·have HT1:Hid (az (ak rs) n=-1):=by show _=_;rw[<-HG2.out,if_pos (Or.inl hxn)]
    go_wp2;go_ret;exact⟨by rw[HT1.out];rfl,hB⟩
   by_cases hkx:rs[n].e.kids[j]=x
   ·obtain⟨m,rfl⟩:∃m:Nat,x=(m:Int):=⟨x.toNat,by omega⟩;have hF:dD (ak rs) n (m:Int)=az (ak rs) m:=by unfold dD;rw[if_pos ⟨by omega,by simp;omega⟩];simp
    have HF:Hid (dD (ak rs) n (m:Int)=az (ak rs) m):=hF;have hle:=fZ (ak rs) m;clear hF;go_wp2_with fail;refine(IH.out m (by omega) _ (by omega) (U9 hb hB.size) (fun i hi=>(HR.out i hi).same fun o=>hB.cell (p:=⟨b,o,none⟩) hb) (fun r hr=>(HO.out r hr).below hB)).mono ?_;rintro e w1 ⟨rfl,hb1⟩;have hB1:ae w w1:=hB.trans (hb1.mono hB.size);clear hb1;by_cases hneg:az (ak rs) m<0
    ·have HT1:Hid (az (ak rs) n=-1):=by show _=_;rw[<-HG2.out,if_neg (by omega),HF.out,if_pos hneg]
     go_wp2;go_ret;exact⟨by rw[HT1.out];rfl,hB1⟩
    have ZC:Hid (dz (dD (ak rs) n) (rs[n].e.kids.take j).reverse (az (ak rs) m-1)=az (ak rs) n):=by
     show _=_;rw[<-HG2.out,if_neg (by omega),HF.out,if_neg hneg]
    go_wp2;go_roundw;case rel=>exact⟨j,az (ak rs) m-1,by omega,by go_num,rfl,by omega,by omega,ZC,hB1⟩
    simp[intOf]<;>omega
   have HT1:Hid (az (ak rs) n=-1):=by show _=_;rw[<-HG2.out,if_pos (Or.inr hkx)]
   go_wp2;go_ret;exact⟨by rw[HT1.out];rfl,hB⟩
  obtain rfl:j=0:=by omega
  have HT1:Hid (az (ak rs) n=x+1):=by show _=_;have:=HG.out;simp[dz]at this;exact this.symm
  clear HG t0 t1 t2 t3 t4;go_wp2;go_ret;exact⟨by rw[HT1.out];rfl,hB⟩
theorem yT.later{w w':af}{b off:Nat}{r:ER}(h:yT w b off r)(hb:b<w.heap.size)(hB:ae w w'):yT w' b off r:=h.same fun o=>hB.cell (p:=⟨b,o,none⟩) hb
theorem Dj{es:Q09}(h:¬(1<=es.length/\es.length<=15)):aN es=false:=by
 unfold aN;by_cases h1:1<=es.length
 ·have h2:¬es.length<=15:=fun h2=>h ⟨h1,h2⟩;simp[h2]
 simp[h1]
theorem Jk{es:Q09}(k:Nat)(h:k<es.length)(hb:ay es[k]=false):aN es=false:=by simp[aN,Dc es k h hb]
theorem Jl{es:Q09}(k:Nat)(h:k<es.length)(hb:ll es k=false):aN es=false:=by simp[aN,Oq es k h hb]
def o9(zs:List Int)(i j:Nat):Bool:=(zs.take j).all fun k=>decide (0<=k)&&decide (k<=(i:Int)-1)
theorem ET(zs:List Int)(i j:Nat)(h:j<zs.length):o9 zs i (j+1)=(o9 zs i j&&(decide (0<=zs[j])&&decide (zs[j]<=(i:Int)-1))):=by
 unfold o9;rw[Ve h,Wl];simp
theorem Gv(zs:List Int)(i j:Nat)(h:j<zs.length)(hb:(decide (0<=zs[j])&&decide (zs[j]<=(i:Int)-1))=false):(zs.all fun k=>decide (0<=k)&&decide (k<=(i:Int)-1))=false:=by
 rw[Bool.eq_false_iff];intro h2;rw[Vm]at h2;have:=h2 zs[j] (U8 h);rw[hb]at this;cases this
set_option maxRecDepth 4000 in
theorem Au(b off cap:Nat)(rs:Q08)(w:af)(hlen:rs.length<=1048576)(hl:∀r∈rs,r.e.light)(hf:∀r∈rs,r.e.fits)(hb:b<w.heap.size)(hr:∀(i:Nat) (h:i<rs.length),yT w b (off+i*5) rs[i])(hok:∀r∈rs,r.ok w):
  Calls prog 135 #[.slice (some ⟨b,off,none⟩) rs.length cap] w fun e w'=>e=.returned (.bool (aN (ak rs)))/\ae w w':=by
 have hel:=aR rs;have Yn:Hid ((ak rs).length=rs.length):=hel;have HL:=aD hl;have HF:=aD hf;have HR:Hid (∀(i:Nat) (h:i<rs.length),yT w b (off+i*5) rs[i]):=hr;have HO:=aD hok;clear hel hl hf hr hok;by_cases hn:1<=rs.length/\rs.length<=15
 ·obtain⟨hn1,hn2⟩:=hn;go_enter func135,ntmps135;go_wp2_with fail;go_loopw[3,4] (fun o i wr=>∃k:Nat,k<=rs.length/\i=.int .i64 k/\o=.int .i64 (gX (ak rs) k:Nat)/\Hid (jH (ak rs) k=true/\jk (ak rs) k=true)/\ae w wr) (fun _ i _=>rs.length-(intOf i).toNat);case atStart=>exact⟨0,Vf _,rfl,rfl,⟨by simp[jH],by simp[jk]⟩,Vb _ _⟩
  obtain⟨k,hk,rfl,rfl,HU,hB⟩:=hrel;by_cases hlt:k<rs.length
  ·have YF:k<(ak rs).length:=by rw[Yn.out];exact hlt
   have hek:(ak rs)[k]=rs[k].e:=by simp[ak]
   have HEK:Hid ((ak rs)[k]=rs[k].e):=hek;obtain⟨t0,t1,t2,t3,t4⟩:=(HR.out k hlt).later hb hB;clear hek;have hk1:=bC k;have hk2:(k:Int)<(rs.length:Int):=by omega
   have hol:=uY (ak rs) k;go_wp2_with fail;refine(EP rs[k] _ (HF.out _ (U8 hlt)) ((HO.out _ (U8 hlt)).below hB)).mono ?_;rintro e w1 ⟨rfl,hb1⟩;cases Wq:ay rs[k].e;case false=>
    have HN:Hid (aN (ak rs)=false):=Jk k YF (by rw[HEK.out];exact Wq);go_wp2;go_ret;exact⟨by rw[HN.out];rfl,hB.trans (hb1.mono hB.size)⟩
   have hB1:ae w w1:=hB.trans (hb1.mono hB.size);have hbw:b<wr.heap.size:=U9 hb hB.size;replace t0:=kept hb1 hbw t0;replace t4:=kept hb1 hbw t4;have hbw1:b<w1.heap.size:=U9 hbw hb1.size;clear t1 t2 t3 hb1 hB hbw;go_wp2_with fail;go_loopw[5] (fun i w2=>∃j:Nat,j<=rs[k].e.kids.length/\i=.int .i64 j/\Hid (o9 rs[k].e.kids k j=true)/\w2=w1) (fun i _=>rs[k].e.kids.length-(intOf i).toNat);case atStart=>exact⟨0,Vf _,rfl,(by show _=_;simp[o9]),rfl⟩
   obtain⟨j,hj,rfl,HP,rfl⟩:=hrel;by_cases hjl:j<rs[k].e.kids.length
   ·rcases (HO.out rs[k] (U8 hlt)).2.below hB1 with hnil|⟨bk,offk,ZB,hbk,hrk⟩
    ·rw[hnil]at hjl;simp at hjl
    have t4':=t4;rw[ZB]at t4';have k0:=hrk j hjl;have hj1:=bC j;have hj2:(j:Int)<(rs[k].e.kids.length:Int):=by omega
    obtain⟨-,lk⟩:=HL.out rs[k] (U8 hlt);clear hrk ZB t4;go_wp2_with fail;refine(Ow _ _ _ _).mono ?_;rintro e w' ⟨rfl,rfl⟩;cases hin:(decide (0<=rs[k].e.kids[j])&&decide (rs[k].e.kids[j]<=(k:Int)-1));case false=>
     have HN:Hid (aN (ak rs)=false):=Jl k YF (by unfold ll;rw[o8 rs k hlt];exact Gv _ k j hjl hin);go_wp2;go_ret;exact⟨by rw[HN.out];rfl,hB1⟩
    have WB:Hid (o9 rs[k].e.kids k (j+1)=true):=by show _=_;rw[ET _ _ _ hjl,HP.out,hin];rfl
    go_wp2;go_roundw;case rel=>exact⟨j+1,by omega,by go_num,WB,by first|rfl|trivial⟩
    simp[intOf]<;>omega
   obtain rfl:j=rs[k].e.kids.length:=by omega
   have Z6:Hid (jH (ak rs) (k+1)=true/\jk (ak rs) (k+1)=true):=by
    refine⟨?_,?_⟩
    ·rw[uZ _ _ YF,HU.out.1,HEK.out,Wq];rfl
    rw[Gg,HU.out.2];unfold ll;rw[o8 rs k hlt];have:=HP.out;unfold o9 at this;rw[Vs]at this;rw[this];rfl
   have HOW:Hid (gX (ak rs) (k+1)=gX (ak rs) k+(if rs[k].e.kind=1 then 1 else 0)):=by show _=_;rw[zT _ _ YF,HEK.out]
   by_cases hk1':rs[k].e.kind=1
   ·have HOW2:Hid (gX (ak rs) (k+1)=gX (ak rs) k+1):=by show _=_;rw[HOW.out,if_pos hk1']
    clear HOW;go_wp2;go_roundw;case rel=>exact⟨k+1,by omega,by go_num,by rw[HOW2.out];go_num,Z6,hB1⟩
    simp[intOf]<;>omega
   have HOW2:Hid (gX (ak rs) (k+1)=gX (ak rs) k):=by show _=_;rw[HOW.out,if_neg hk1'];rfl
   clear HOW;go_wp2;go_roundw;case rel=>exact⟨k+1,by omega,by go_num,by rw[HOW2.out],Z6,hB1⟩
   simp[intOf]<;>omega
  obtain rfl:k=rs.length:=by omega
  have HN:Hid ((ak rs).all ay=true):=by
   have:=HU.out.1;unfold jH at this;rwa [<-Yn.out,Vs]at this
  have HKU:Hid (jk (ak rs) rs.length=true):=HU.out.2;have HOW:Hid (gX (ak rs) rs.length=own (ak rs)):=by show _=_;unfold gX;rw[<-Yn.out,Vs]
  have hol:=uY (ak rs) rs.length;by_cases ho:gX (ak rs) rs.length<=1
  ·have HS:Hid (aN (ak rs)=decide (az (ak rs) (rs.length-1)=0)):=by
    show _=_;have h1:own (ak rs)<=1:=by rw[<-HOW.out];exact ho
    have e1:=Yn.out;unfold aN;rw[e1,HN.out,HKU.out];simp[h1,hn1,hn2]
   have hcast:((rs.length:Int)-1)=((rs.length-1:Nat):Int):=by omega
   have HCA:Hid (((rs.length:Int)-1)=((rs.length-1:Nat):Int)):=hcast;clear hcast;go_wp2_with fail;rw[HCA.out];refine(Jj b off cap rs hlen HL.out (rs.length-1) _ (by omega) (U9 hb hB.size) (fun i hi=>(HR.out i hi).later hb hB) (fun r hr=>(HO.out r hr).below hB)).mono ?_;rintro e w1 ⟨rfl,hb1⟩;go_wp2;go_ret;exact⟨by rw[HS.out];exact ah (by rw[Vu];simp),hB.trans (hb1.mono hB.size)⟩
  have HS:Hid (aN (ak rs)=false):=by
   show _=_;have h1:¬own (ak rs)<=1:=by rw[<-HOW.out];exact ho
   simp[aN,h1]
  go_wp2;go_ret;exact⟨by rw[HS.out];rfl,hB⟩
 have HN:Hid (aN (ak rs)=false):=Dj (by rw[Yn.out];exact hn);go_enter func135,ntmps135;go_wp2_with fail
 all_goals go_ret
 all_goals exact⟨by rw[HN.out];rfl,Vb _ _⟩
theorem mH(ad:Q02)(cap:Nat)(rs:Q08)(w:af)(hlen:rs.length<=1048576)(hl:∀r∈rs,r.e.light)(hf:∀r∈rs,r.e.fits)(hs:ik w ad rs):
  Calls prog 135 #[.slice ad rs.length cap] w fun e w'=>e=.returned (.bool (aN (ak rs)))/\ae w w':=by
 rcases hs with rfl|⟨b,off,rfl,hb,hr,hok⟩
 ·go_enter func135,ntmps135;go_wp2_with fail;go_ret;exact⟨rfl,Vb _ _⟩
 exact Au b off cap rs w hlen hl hf hb hr hok
theorem gQ{a b:ByteArray}(h:a.toList=b.toList):a=b:=by
 rw[Go.ByteArray.toList_eq,Go.ByteArray.toList_eq]at h;cases a with|mk x=>cases b with|mk y =>
 congr;exact Array.ext' h
theorem fD{a b:ByteArray}:(a.toList==b.toList)=true↔a=b:=⟨fun h=>gQ (by simpa using h),fun h=>by simp[h]⟩
def jN(t:Ty):List (ByteArray×ByteArray):=t.rels.map fun r=>(t.name,r.name)
def au(ts:Q0b):List (ByteArray×ByteArray):=ts.flatMap jN
def stepOf(d:Dp):Int:=if d.neg then 1 else 0
def iG(ts:Q0b)(k:Q01):List Dp:=qh ts k.1 (aB ts k.1 k.2)
structure Sol(ts:Q0b)(f:Q00):Prop where
 pos:∀k,0<=f k
 up:∀k∈au ts,∀d∈iG ts k,f (d.typ,d.rel)+stepOf d<=f k
def Found(ts:Q0b):Prop:=∀k∈au ts,∀d∈iG ts k,(d.typ,d.rel)∈au ts
theorem yu(vs:List Int)(x y:Int)(h:x<=y):vs.countP (fun v=>decide (v<x))<=vs.countP (fun v=>decide (v<y)) :=
 List.countP_mono_left fun v _ hv=>by simp at hv⊢;omega
theorem Mc(vs:List Int)(x y:Int)(h:x+1<=y)(hx:x∈vs):vs.countP (fun v=>decide (v<x))+1<=vs.countP (fun v=>decide (v<y)):=by
 induction vs with
 | nil=>cases hx
 | cons v vs ih =>
  simp only[List.countP_cons];rcases Vq.1 hx with rfl|hm
  ·have:=yu vs x y (by omega);have h1:decide (x<x)=false:=by simp
   have h2:decide (x<y)=true:=by simp;omega
   simp only[h1,h2];simp;omega
  have:=ih hm;by_cases h1:v<x
  ·have h2:v<y:=by omega
   simp[h1,h2];omega
  simp only[h1];simp;omega
theorem Jm(vs:List Int)(x:Int)(hx:x∈vs):vs.countP (fun v=>decide (v<x))+1<=vs.length:=by
 induction vs with
 | nil=>cases hx
 | cons v vs ih =>
  simp only[List.countP_cons,VI];rcases Vq.1 hx with rfl|hm
  ·have:=List.countP_le_length (p:=fun v=>decide (v<x)) (l:=vs);have h1:decide (x<x)=false:=by simp
   simp only[h1];simp;omega
  have:=ih hm;split<;>omega
theorem Sol.few{ts:Q0b}{f:Q00}(h:Sol ts f)(hF:Found ts):∃g,Sol ts g/\∀k∈au ts,g k+1<=(au ts).length:=by
 refine⟨fun k=>((((au ts).map f).countP (fun v=>decide (v<f k)):Nat):Int),⟨fun k=>by omega,fun k hk d hd=>?_⟩,fun k hk=>?_⟩
 ·have h1:=h.up k hk d hd;have h2:f (d.typ,d.rel)∈(au ts).map f:=VK (hF k hk d hd);unfold stepOf at h1⊢;split at h1
  ·rename_i hn;have:=Mc ((au ts).map f) _ _ h1 h2;simp only[hn,if_true];omega
  rename_i hn;have:=yu ((au ts).map f) _ _ (show f (d.typ,d.rel)<=f k by omega);have e0:(if d.neg=true then (1:Int) else 0)=0:=if_neg hn;rw[e0];omega
 have:=Jm ((au ts).map f) (f k) (VK hk);simp at this⊢;omega
def qJ(ts:Q0b)(k:Q01)(n:Int):Prop:=∀f,Sol ts f->n<=f k
theorem Jn{ts:Q0b}(hF:Found ts){k:Q01}(hk:k∈au ts){n:Int}(hl:qJ ts k n)(hn:((au ts).length:Int)<=n):¬ ∃f,Sol ts f:=by
 rintro⟨f,hf⟩;obtain⟨g,hg,hb⟩:=hf.few hF;have:=hl g hg;have:=hb k hk;omega
theorem qJ.step{ts:Q0b}{k:Q01}(hk:k∈au ts){d:Dp}(hd:d∈iG ts k){n:Int}(hl:qJ ts (d.typ,d.rel) n):qJ ts k (n+stepOf d):=fun f hf=>by
 have h1:=hl f hf;have h2:=hf.up k hk d hd;omega
theorem qJ.zero(ts:Q0b)(k:Q01):qJ ts k 0:=fun _ hf=>hf.pos k
structure Least(ts:Q0b)(f:Q00):Prop where
 sol:Sol ts f
 low:∀k∈au ts,qJ ts k (f k)
theorem Least.same{ts:Q0b}{f g:Q00}(hf:Least ts f)(hg:Least ts g)(k:Q01)(hk:k∈au ts):f k=g k:=by
 have h1:=hf.low k hk g hg.sol;have h2:=hg.low k hk f hf.sol;omega
def St.key(s:St):ByteArray×ByteArray:=(s.typ,s.rel)
def iU(out:List St):List (ByteArray×ByteArray):=out.map St.key
theorem qK{s:St}{k:Q01}:zR s k.1 k.2=true↔s.key=k:=by
 unfold zR St.key;rw[Vd,fD,fD];constructor
 ·rintro⟨h1,h2⟩;rw[h1,h2]
 rintro rfl;exact⟨rfl,rfl⟩
def fT(out:List St)(k:Q01):Int :=
 match out with
 | []=>0
 | s::xs=>if zR s k.1 k.2 then s.n else fT xs k
theorem pg{k:Q01}:∀(out:List St) (j:Nat),k∈iU out->∃i:Nat,∃h:i<out.length,il k.1 k.2 out j=((j+i:Nat):Int)/\out[i].key=k/\out[i].n=fT out k
 | [],_,h=>by cases h
 | s::xs,j,h=>by
  by_cases hs:zR s k.1 k.2=true
  ·exact⟨0,by simp,by simp[il,hs],qK.1 hs,by simp[fT,hs]⟩
  have hm:k∈iU xs:=by
   rcases Vq.1 h with e|hm
   ·exact absurd (qK.2 e.symm) hs
   exact hm
  obtain⟨i,hi,h1,h2,h3⟩:=pg xs (j+1) hm;refine⟨i+1,by simp;omega,?_,by simpa using h2,by simpa[fT,hs] using h3⟩;simp only[il,hs];simp only[Bool.false_eq_true,if_false];rw[h1];congr 1;omega
theorem Dk{k:Q01}(out:List St)(h:k∈iU out):∃s∈out,s.key=k/\s.n=fT out k:=by
 obtain⟨i,hi,-,h2,h3⟩:=pg out 0 h;exact⟨out[i],U8 hi,h2,h3⟩
theorem OJ{k:Q01}(out:List St)(h:k ∉ iU out):fT out k=0:=by
 induction out with
 | nil=>rfl
 | cons s xs ih =>
  have h1:¬zR s k.1 k.2=true:=fun e=>h (by rw[qK]at e;simp[iU,e]);simp only[fT,h1];simp only[Bool.false_eq_true,if_false];exact ih fun hm=>h (by simp only[iU,Wn,Vq];exact .inr hm)
def ni:List St->Int
 | []=>0
 | s::xs=>s.n+ni xs
theorem OL(out:List St)(i:Nat)(h:i<out.length)(n:Int):ni (out.set i ⟨out[i].typ,out[i].rel,n⟩)=ni out-out[i].n+n:=by
 induction out generalizing i with
 | nil=>simp at h
 | cons s xs ih =>
  cases i with
  | zero=>simp[ni];omega
  | succ i=>simp only[List.set_cons_succ,ni,List.getElem_cons_succ];rw[ih i (by simpa using h)];omega
theorem Md(out:List St)(i:Nat)(h:i<out.length)(n:Int):iU (out.set i ⟨out[i].typ,out[i].rel,n⟩)=iU out:=by
 unfold iU;rw[List.map_set];show(List.map St.key out).set i (out[i].key)=_;have:out[i].key=(List.map St.key out)[i]'(by simpa using h):=by simp
 rw[this,List.set_getElem_self]
structure Round(ts:Q0b)(out:List St):Prop where
 keys:iU out=au ts
 pos:∀s∈out,0<=s.n
 low:∀s∈out,qJ ts s.key s.n
def Ro(ts:Q0b)(out:List St)(s:St)(k:Nat):Prop:=∀d∈(iG ts s.key).take k,fT out (d.typ,d.rel)+stepOf d<=s.n
theorem Round.mem{ts:Q0b}{out:List St}(h:Round ts out){s:St}(hs:s∈out):s.key∈au ts:=by rw[<-h.keys];exact VK hs
theorem Round.at{ts:Q0b}{out:List St}(h:Round ts out){k:Q01}(hk:k∈au ts):0<=fT out k/\qJ ts k (fT out k):=by
 obtain⟨s,hs,e,en⟩:=Dk out (by rw[h.keys];exact hk);rw[<-en,<-e];exact⟨h.pos s hs,h.low s hs⟩
theorem Round.set{ts:Q0b}{out:List St}(h:Round ts out)(hF:Found ts){i:Nat}(hi:i<out.length){d:Dp}(hd:d∈iG ts out[i].key):Round ts (out.set i ⟨out[i].typ,out[i].rel,fT out (d.typ,d.rel)+stepOf d⟩):=by
 have hk:out[i].key∈au ts:=h.mem (U8 hi);have hdk:=hF _ hk d hd;obtain⟨h0,hl⟩:=h.at hdk;have hs0:0<=stepOf d:=by unfold stepOf;split<;>omega
 refine⟨(Md out i hi _).trans h.keys,fun s hs=>?_,fun s hs=>?_⟩
 ·rcases List.mem_or_eq_of_mem_set hs with hs|rfl
  ·exact h.pos s hs
  show 0<=fT out (d.typ,d.rel)+stepOf d;omega
 rcases List.mem_or_eq_of_mem_set hs with hs|rfl
 ·exact h.low s hs
 exact hl.step hk hd
theorem Round.done{ts:Q0b}{out:List St}(h:Round ts out)(hs:∀s∈out,Ro ts out s (iG ts s.key).length):Least ts (fT out) where
 sol:=⟨fun k=>by
   by_cases hk:k∈au ts
   ·exact(h.at hk).1
   ·rw[OJ out (by rw[h.keys];exact hk)];exact Int.le_refl _,fun k hk d hd=>by
   obtain⟨s,hm,e,en⟩:=Dk out (by rw[h.keys];exact hk);have:=hs s hm d (by rw[Vs,e];exact hd);rw[<-en];exact this⟩
 low k hk:=(h.at hk).2
def jw(a b:ByteArray):Bool:=Op.bytesLess a.toList b.toList
def mI(rs:List Rl)(j:Nat):Bool :=
 match rs[j]? with
 | none=>true
 | some r=>aU r.name&&(match j with|0=>true|i+1=>(rs[i]?.map fun p=>jw p.name r.name).getD true)&&aN r.expr
def dL(rs:List Rl):Nat->Bool
 | 0=>true
 | k+1=>dL rs k&&mI rs k
def kP(ts:Q0b)(j:Nat):Bool :=
 match ts[j]? with
 | none=>true
 | some t=>aU t.name&&(match j with|0=>true|i+1=>(ts[i]?.map fun p=>jw p.name t.name).getD true)&&decide (t.rels.length<=6)&&dL t.rels t.rels.length
def iX(ts:Q0b):Nat->Bool
 | 0=>true
 | k+1=>iX ts k&&kP ts k
theorem ut(rs:List Rl)(k:Nat)(hb:mI rs k=false):∀n,k<n->dL rs n=false
 | 0,hn=>by omega
 | n+1,hn=>by
  by_cases e:n=k
  ·subst e;simp[dL,hb]
  simp[dL,ut rs k hb n (by omega)]
theorem uu(ts:Q0b)(k:Nat)(hb:kP ts k=false):∀n,k<n->iX ts n=false
 | 0,hn=>by omega
 | n+1,hn=>by
  by_cases e:n=k
  ·subst e;simp[iX,hb]
  simp[iX,uu ts k hb n (by omega)]
theorem pq{rs:List Rl}:∀{n:Nat},dL rs n=true->∀j,j<n->mI rs j=true
 | 0,_,j,hj=>by omega
 | n+1,h,j,hj=>by
  simp only[dL,Vd]at h;by_cases e:j=n
  ·subst e;exact h.2
  exact pq h.1 j (by omega)
theorem pu{ts:Q0b}:∀{n:Nat},iX ts n=true->∀j,j<n->kP ts j=true
 | 0,_,j,hj=>by omega
 | n+1,h,j,hj=>by
  simp only[iX,Vd]at h;by_cases e:j=n
  ·subst e;exact h.2
  exact pu h.1 j (by omega)
def bq(ts:Q0b):Bool:=decide (ts.length<=6)&&iX ts ts.length
def qL(ts:Q0b)(t:Ty):Bool:=t.rels.all fun r=>aX ts t.name r.expr
def iP(ts:Q0b):Bool:=ts.all (qL ts)
def cz(ts:Q0b):Prop:=bq ts=true/\iP ts=true/\∃f,Sol ts f
theorem Me{rs:List Rl}{n:ByteArray}{es:Q09}(h:jX rs n=some es):∃r∈rs,r.name=n/\r.expr=es:=by
 induction rs with
 | nil=>simp[jX]at h
 | cons r rs ih =>
  simp only[jX]at h;split at h
  ·rename_i hn;injection h with h;exact⟨r,by simp,fD.1 hn,h⟩
  obtain⟨q,hq,e⟩:=ih h;exact⟨q,by simp[hq],e⟩
theorem qM{ts:Q0b}{ty n:ByteArray}{es:Q09}(h:eD ts ty n=some es):∃t∈ts,∃r∈t.rels,t.name=ty/\r.name=n/\r.expr=es:=by
 induction ts with
 | nil=>simp[eD]at h
 | cons t ts ih =>
  simp only[eD]at h;split at h
  ·rename_i hn;rcases Option.or_eq_some_iff.1 h with h|⟨-,h⟩
   ·obtain⟨r,hr,e⟩:=Me h;exact⟨t,by simp,r,hr,fD.1 hn,e⟩
   obtain⟨t',ht,e⟩:=ih h;exact⟨t',by simp[ht],e⟩
  obtain⟨t',ht,e⟩:=ih h;exact⟨t',by simp[ht],e⟩
theorem qN{ts:Q0b}{k:Q01}:k∈au ts ↔ ∃t∈ts,∃r∈t.rels,k=(t.name,r.name):=by
 simp only[au,jN,Vp,Vo];constructor
 ·rintro⟨t,ht,r,hr,e⟩;exact⟨t,ht,r,hr,e.symm⟩
 rintro⟨t,ht,r,hr,e⟩;exact⟨t,ht,r,hr,e.symm⟩
theorem rV{ts:Q0b}{ty n:ByteArray}(h:(aB ts ty n).isEmpty=false):(ty,n)∈au ts:=by
 unfold aB at h;cases e:eD ts ty n with
 | none=>rw[e]at h;simp at h
 | some es =>
  obtain⟨t,ht,r,hr,h1,h2,-⟩:=qM e;exact qN.2 ⟨t,ht,r,hr,by rw[h1,h2]⟩
theorem TA{ts:Q0b}{rel:ByteArray}{xs:Q0a}{g:ByteArray}(h:g∈gl ts rel xs):(aB ts g rel).isEmpty=false:=by
 induction xs with
 | nil=>simp[gl]at h
 | cons a xs ih =>
  simp only[gl]at h;split at h
  ·exact ih h
  rename_i hn;rcases Vq.1 h with rfl|h
  ·simpa using hn
  exact ih h
theorem Mf{neg:Bool}{xs:Q0a}{d:Dp}(h:d∈dw neg xs):∃a∈xs,a.s.toList.isEmpty=false/\d.typ=a.t/\d.rel=a.s:=by
 induction xs with
 | nil=>simp[dw]at h
 | cons a xs ih =>
  simp only[dw]at h;split at h
  ·obtain⟨b,hb,e⟩:=ih h;exact⟨b,by simp[hb],e⟩
  rename_i hn;rcases Vq.1 h with rfl|h
  ·exact⟨a,by simp,by simpa using hn,rfl,rfl⟩
  obtain⟨b,hb,e⟩:=ih h;exact⟨b,by simp[hb],e⟩
theorem uw{ts:Q0b}{typ:ByteArray}{es:Q09}{d:Dp}:∀{k:Nat},d∈aS ts typ es k->∃i,i<k/\d∈iD ts typ es i
 | 0,h=>by simp[aS]at h
 | k+1,h=>by
  simp only[aS]at h;rcases Vn.1 h with h|h
  ·obtain⟨i,hi,e⟩:=uw h;exact⟨i,by omega,e⟩
  exact⟨k,by omega,h⟩
theorem Dl{ts:Q0b}{typ:ByteArray}{es:Q09}(h:aX ts typ es=true):∀e∈es,oU ts e.allow=true/\lT ts typ e=true:=by
 induction es with
 | nil=>intro e he;cases he
 | cons e es ih =>
  simp only[aX]at h;split at h
  ·rename_i hn;rw[Vd]at hn;intro q hq;rcases Vq.1 hq with rfl|hq
   ·exact hn
   exact ih h q hq
  cases h
theorem jO{ts:Q0b}(h:iP ts=true):Found ts:=by
 intro k hk d hd;unfold iG qh at hd;have hne:(aB ts k.1 k.2).length≠0:=by
  intro e;rw[e]at hd;simp[aS]at hd
 obtain⟨es,hes⟩:∃es,eD ts k.1 k.2=some es:=by
  cases e:eD ts k.1 k.2 with
  | none=>unfold aB at hne;rw[e]at hne;simp at hne
  | some es=>exact⟨es,rfl⟩
 have ero:aB ts k.1 k.2=es:=by unfold aB;rw[hes];rfl
 rw[ero]at hd;obtain⟨t,ht,r,hr,h1,h2,h3⟩:=qM hes;have hr1:aX ts k.1 es=true:=by
  unfold iP at h;rw[Vm]at h;have:=h t ht;unfold qL at this;rw[Vm]at this;have:=this r hr;rw[h1,h3]at this;exact this
 obtain⟨i,hi,hdi⟩:=uw hd;unfold iD at hdi;split at hdi
 ·cases hdi
 rename_i e he;obtain⟨ra,rn⟩:=Dl hr1 e (We he);rcases Vn.1 hdi with hdi|hdi
 ·obtain⟨a,ha,hs,e1,e2⟩:=Mf hdi;unfold oU at ra;rw[Vm]at ra;have:=ra a ha;unfold qg at this;rw[hs,Bool.false_or,Vd]at this;rw[e1,e2];exact rV (by simpa using this.2)
 unfold lw at hdi;unfold lT at rn;split at hdi
 ·rename_i h2;rw[if_pos h2]at rn;simp at hdi;subst hdi;exact rV (by simpa using rn)
 split at hdi
 ·obtain⟨g,hg,rfl⟩:=Vo.1 hdi;exact rV (TA hg)
 cases hdi
theorem oo{es:Q09}(h:aN es=true):1<=es.length/\es.length<=15:=by
 simp only[aN,Vd,Vk]at h;exact⟨h.1.1.1.1.1,h.1.1.1.1.2⟩
theorem Mg{es:Q09}(h:aN es=true)(i:Nat)(hi:i<es.length):eZ es.length es[i].kids:=by
 simp only[aN,Vd,Vk]at h;have h1:=h.1.1.2;unfold jk at h1;rw[Vm]at h1;have h2:=h1 i (by simpa using hi);unfold ll di at h2;rw[Vg hi]at h2;simp only[Option.map_some,VO,Vm,Vd,Vk]at h2;intro x hx;have:=h2 x hx;omega
theorem bG{rs:Q06}(h:bq (ag rs)=true):rs.length<=6/\(∀r∈rs,r.rows.length<=6)/\∀r∈rs,∀q∈r.rows,aN (ak q.rows)=true/\q.rows.length<=15/\∀e∈q.rows,eZ q.rows.length e.e.kids:=by
 simp only[bq,Vd,Vk]at h;rw[lN]at h;have hT:∀r∈rs,r.rows.length<=6/\dL (eT r.rows) r.rows.length=true:=by
  intro r hr;obtain⟨j,hj,rfl⟩:=VP.1 hr;have h1:=pu h.2 j hj;unfold kP at h1;have e:(ag rs)[j]?=some rs[j].p:=by simp[ag,hj]
  rw[e]at h1;simp only[Vd,Vk]at h1;have e2:rs[j].p.rels.length=rs[j].rows.length:=by simp[TR.p,eT]
  rw[e2]at h1;exact⟨h1.1.2,h1.2⟩
 refine⟨h.1,fun r hr=>(hT r hr).1,fun r hr q hq=>?_⟩;obtain⟨j,hj,rfl⟩:=VP.1 hq;have h1:=pq (hT r hr).2 j hj;unfold mI at h1;have e:(eT r.rows)[j]?=some r.rows[j].p:=by simp[eT,hj]
 rw[e]at h1;simp only[Vd]at h1;have h2:aN (ak r.rows[j].rows)=true:=h1.2;have h3:=oo h2;rw[aR]at h3;refine⟨h2,h3.2,fun e he=>?_⟩;obtain⟨i,hi,rfl⟩:=VP.1 he;have:=Mg h2 i (by rw[aR];exact hi);have e1:(ak r.rows[j].rows)[i]'(by rw[aR];exact hi)=r.rows[j].rows[i].e:=by simp[ak]
 rw[e1]at this;simpa[ak] using this
def assigns(n:Nat):List (ByteArray×ByteArray)->List (ByteArray×ByteArray->Int)
 | []=>[fun _=>0]
 | k::ks=>(assigns n ks).flatMap fun f=>(List.range n).map fun v=>fun y=>if y=k then ((v:Nat):Int) else f y
theorem yw{n:Nat}:∀{ks:List (ByteArray×ByteArray)} {f:Q00},f∈assigns n ks->∀k,0<=f k
 | [],f,h,k=>by simp only[assigns,Vl]at h;rw[h];exact Int.le_refl _
 | x::ks,f,h,k=>by
  simp only[assigns,Vp,Vo]at h;obtain⟨g,hg,v,-,rfl⟩:=h;show 0<=(if k=x then ((v:Nat):Int) else g k);split
  ·omega
  exact yw hg k
theorem yx{n:Nat}(g:Q00):∀(ks:List (ByteArray×ByteArray)),(∀k∈ks,0<=g k/\g k<n)->∃f∈assigns n ks,∀k∈ks,f k=g k
 | [],_=>⟨fun _=>0,by simp[assigns],fun k hk=>by cases hk⟩
 | x::ks,h=>by
  obtain⟨f,hf,hfg⟩:=yx g ks fun k hk=>h k (VQ _ hk);obtain⟨h0,h1⟩:=h x (VT ..);refine⟨fun y=>if y=x then (((g x).toNat:Nat):Int) else f y,?_,fun k hk=>?_⟩
  ·simp only[assigns,Vp,Vo];exact⟨f,hf,(g x).toNat,List.mem_range.2 (by omega),rfl⟩
  show(if k=x then (((g x).toNat:Nat):Int) else f k)=g k;by_cases e:k=x
  ·rw[if_pos e,e];omega
  rw[if_neg e];rcases Vq.1 hk with h2|h2
  ·exact absurd h2 e
  exact hfg k h2
def TB(ts:Q0b)(f:Q00):Bool:=(au ts).all fun k=>(iG ts k).all fun d=>decide (f (d.typ,d.rel)+stepOf d<=f k)
theorem K7{ts:Q0b}{f:Q00}:TB ts f=true ↔ ∀k∈au ts,∀d∈iG ts k,f (d.typ,d.rel)+stepOf d<=f k:=by
 unfold TB;simp only[Vm,Vk]
def Av(ts:Q0b):List (ByteArray×ByteArray->Int):=(assigns (au ts).length (au ts)).filter (TB ts)
theorem Mh{ts:Q0b}{f:Q00}(h:f∈Av ts):Sol ts f:=by
 unfold Av at h;rw[V6]at h;exact⟨yw h.1,K7.1 h.2⟩
theorem OM{ts:Q0b}{g:Q00}(hF:Found ts)(h:Sol ts g)(hb:∀k∈au ts,g k+1<=(au ts).length):∃f∈Av ts,∀k∈au ts,f k=g k:=by
 obtain⟨f,hf,hfg⟩:=yx (n:=(au ts).length) g (au ts) fun k hk=>⟨h.pos k,by have:=hb k hk;omega⟩;refine⟨f,?_,hfg⟩;unfold Av;rw[V6];refine⟨hf,K7.2 fun k hk d hd=>?_⟩;rw[hfg k hk,hfg _ (hF k hk d hd)];exact h.up k hk d hd
def aK(ts:Q0b):Bool:=bq ts&&iP ts && !(Av ts).isEmpty
theorem aW{ts:Q0b}:aK ts=true↔cz ts:=by
 unfold aK cz;simp only[Vd,Bool.not_eq_true'];constructor
 ·rintro⟨⟨h1,h2⟩,h3⟩;refine⟨h1,h2,?_⟩;cases e:Av ts with
  | nil=>rw[e]at h3;cases h3
  | cons f fs=>exact⟨f,Mh (by rw[e];exact VT ..)⟩
 rintro⟨h1,h2,f,hf⟩;refine⟨⟨h1,h2⟩,?_⟩;obtain⟨g,hg,hb⟩:=hf.few (jO h2);obtain⟨f2,hf2,-⟩:=OM (jO h2) hg hb;cases e:Av ts with
 | nil=>rw[e]at hf2;cases hf2
 | cons f fs=>rfl
theorem Gw{ts:Q0b}(h:cz ts):aK ts=true:=aW.2 h
theorem eH{ts:Q0b}(h:¬cz ts):aK ts=false:=by
 cases e:aK ts;case false=>rfl
 exact absurd (aW.1 e) h
end Go.Proofs.YtajkkeikihhejaaGreat
namespace Go.Proofs.YtajkkeikihhejaaGreat.Pl
def je(c:UInt8):List UInt8->List UInt8×List UInt8×Bool
 | []=>([],[],false)
 | b::l=>if b=c then ([],l,true) else (b::(je c l).1,(je c l).2.1,(je c l).2.2)
theorem Rp{c:UInt8}{l:List UInt8}{k:Nat}(hk:k<l.length)(hn:∀x∈l.take k,x≠c)(hc:l[k]=c):je c l=(l.take k,l.drop (k+1),true):=by
 induction l generalizing k with
 | nil=>simp at hk
 | cons b l ih =>
  cases k with
  | zero=>simp at hc;simp[je,hc]
  | succ k =>
   have hb:b≠c:=hn b (by simp);have:=ih (k:=k) (by simpa using hk) (fun x hx=>hn x (by simp[hx])) (by simpa using hc);simp[je,hb,this]
theorem rW{c:UInt8}{l:List UInt8}(hn:∀x∈l,x≠c):je c l=(l,[],false):=by
 induction l with
 | nil=>rfl
 | cons b l ih =>
  have hb:b≠c:=hn b (by simp);have:=ih (fun x hx=>hn x (by simp[hx]));simp[je,hb,this]
theorem Gx(c:UInt8)(l:List UInt8):(je c l).1.length<=l.length/\(je c l).2.1.length<=l.length:=by
 induction l with
 | nil=>simp[je]
 | cons b l ih =>
  unfold je;split
  ·simp
  simp;omega
def kS(c:UInt8)(s:ByteArray):ByteArray:=⟨(je c s.data.toList).1.toArray⟩
def iY(c:UInt8)(s:ByteArray):ByteArray:=⟨(je c s.data.toList).2.1.toArray⟩
def pz(c:UInt8)(s:ByteArray):Bool:=(je c s.data.toList).2.2
theorem Dm(l:List UInt8):(ByteArray.mk l.toArray).size=l.length:=rfl
theorem Rq(c:UInt8)(s:bW):(kS c s).size<=s.size:=by
 unfold kS;rw[Dm];exact(Gx c s.data.toList).1
theorem K8(c:UInt8)(s:bW):(iY c s).size<=s.size:=by
 unfold iY;rw[Dm];exact(Gx c s.data.toList).2
theorem ib{a b:ByteArray}(h:a.data.toList=b.data.toList):a=b:=by
 cases a;cases b;simp at h;simp[h]
def TC(c:UInt8)(s:ByteArray)(k:Nat):Prop:=∀x∈s.data.toList.take k,x≠c
theorem OO(c:UInt8)(s:bW):TC c s 0:=by intro x hx;simp at hx
theorem OP{c:UInt8}{s:ByteArray}{k:Nat}(h:k<s.size)(hn:TC c s k)(hc:s[k]≠c):TC c s (k+1):=by
 intro x hx;rw[CW s k h]at hx;simp at hx;rcases hx with hx|hx
 ·exact hn x (by simpa using hx)
 subst hx;exact hc
theorem TD{c:UInt8}{s:ByteArray}{k:Nat}(h:k<s.size)(hn:TC c s k)(hc:s[k]=c):je c s.data.toList=(s.data.toList.take k,s.data.toList.drop (k+1),true) :=
 Rp (by simpa using h) hn (by simpa[ByteArray.getElem_eq_getElem_data] using hc)
theorem OQ{c:UInt8}{s:ByteArray}{k:Nat}(h:s.size<=k)(hn:TC c s k):je c s.data.toList=(s.data.toList,[],false) :=
 rW (fun x hx=>hn x (by rw[VE (by simpa using h)];exact hx))
def Us(s:ByteArray):Bool:=fu (kS 58 s) (iY 58 s)
def U4(s:ByteArray):ByteArray:=if Us s then kS 58 s else ⟨#[]⟩
def U5(s:ByteArray):ByteArray:=if Us s then iY 58 s else ⟨#[]⟩
theorem Mi{c:UInt8}{l:List UInt8}(h:(je c l).2.2=false):(je c l).2.1=[]:=by
 induction l with
 | nil=>rfl
 | cons b l ih =>
  unfold je at h⊢;split
  ·rename_i hb;simp[hb]at h
  rename_i hb;simp[hb]at h;simpa[hb] using ih h
theorem OT{c:UInt8}{s:ByteArray}(h:pz c s=false):iY c s=⟨#[]⟩:=by
 unfold pz at h;unfold iY;rw[Mi h]
theorem OU{s:ByteArray}(h:Us s=true):U4 s=kS 58 s/\U5 s=iY 58 s:=by simp[U4,U5,h]
end Go.Proofs.YtajkkeikihhejaaGreat.Pl
namespace Go.Proofs.YtajkkeikihhejaaGreat
open Go.Sort
open ChangeShapes WideShapes ChangeAt RowKit
open Pl
attribute [local go_sem ↓] Go.wp_at_zero Go.wp_at_succ
def Tp.ok(t:Tp):Bool:=cO t.a t.b t.r t.c t.d t.s
def Tp.ahead(t u:Tp):Bool:=gM t.a t.b t.r t.c t.d t.s u.a u.b u.r u.c u.d u.s
def xx(ts:Q05)(i:Nat):Bool:=match ts[i]? with
 | none=>true
 | some t=>t.ok&&(match i with
  | 0=>true
  | j+1=>match ts[j]? with
   | none=>true
   | some u=>u.ahead t)
def vJ(ts:Q05)(k:Nat):Bool:=(List.range k).all (xx ts)
def dI(ts:Q05):Bool:=decide (ts.length<=40)&&vJ ts ts.length
theorem rX(ts:Q05)(k:Nat):vJ ts (k+1)=(vJ ts k&&xx ts k):=by simp[vJ,List.range_succ]
theorem vL{ts:Q05}{k:Nat}(hk:k<ts.length)(h:xx ts k=false):dI ts=false:=by
 have:vJ ts ts.length=false:=by
  unfold vJ;rw[List.all_eq_false];exact⟨k,by simpa using hk,by simp[h]⟩
 simp[dI,this]
theorem xy{ts:Q05}(h:0<ts.length):xx ts 0=ts[0].ok:=by simp[xx,Vg h]
theorem rY{ts:Q05}{j:Nat}(h:j+1<ts.length):xx ts (j+1)=(ts[j+1].ok&&ts[j].ahead ts[j+1]):=by
 have h':j<ts.length:=by omega
 simp[xx,Vg h,Vg h']
theorem K9{ts:Q05}{k:Nat}(h:k<ts.length)(hn:ts[k].ok=false):xx ts k=false:=by
 simp[xx,Vg h,hn]
theorem xz(b off cap:Nat)(ts:Q05)(w:af)(hlen:ts.length<=maxLen)(hr:lq w b off ts)(hb:b<w.heap.size)(hf:∀t∈ts,t.fits):
    Calls prog 93 #[.slice (some ⟨b,off,none⟩) ts.length cap] w fun e w'=>e=.returned (.bool (dI ts))/\ae w w':=by
  unfold maxLen at hlen;by_cases hbig:40<ts.length
  · have HT:Hid (dI ts=false):=by show _=_;simp[dI];omega
    go_enter func93,ntmps93;go_wp2;go_ret;exact⟨ah HT.out.symm,Vb _ _⟩
  · go_enter func93,ntmps93;go_wp2;go_loopw[3] (fun i wr=>∃k:Nat,k<=ts.length/\i=.int .i64 k/\Hid (vJ ts k=true)/\ae w wr) (fun i _=>ts.length-(intOf i).toNat);case atStart=>exact⟨0,Vf _,rfl,rfl,Vb _ _⟩
    obtain⟨k,hk,rfl,hu,hB⟩:=hrel;by_cases hlt:k<ts.length
    · have ZE:=qC (hr.below hB hb);have WE:=qC hf;obtain⟨t0,t1,t2,t3,t4,t5⟩:=ZE.out k hlt;have hk1:=bC k;have hk2:(k:Int)<(ts.length:Int):=by omega
      clear hr hf;have c0:=cell_regrown t0;have c1:=cell_regrown t1;have c2:=cell_regrown t2;have c3:=cell_regrown t3;have c4:=cell_regrown t4;have c5:=cell_regrown t5;have Xv:Hid (∀d os,ae w (grow (redrawn wr d) os)):=fun d os=>hB.trans ((below_regrown wr d os).mono hB.size);clear t0 t1 t2 t3 t4 t5;go_wp2_with fail;have Zc:Hid (∀d os,Calls prog 127 #[.agg #[.string ts[k].a,.string ts[k].b,.string ts[k].r,.string ts[k].c,.string ts[k].d,.string ts[k].s]] (grow (redrawn wr d) os) fun e w''=>e=.returned (.bool ts[k].ok)/\∃p:Regrown,w''=grow (redrawn wr p.d) p.os):=by
        obtain⟨f0,f1,f2,f3,f4,f5⟩:=WE.out ts[k] (U8 hlt);exact dA fun W' _=>d9 _ _ _ _ _ _ _ f0 f1 f2 f3 f4 f5
      cases hok:ts[k].ok;case false=>
        have HT:Hid (dI ts=false):=vL hlt (K9 hlt hok);rw[hok]at Zc;clear hok;refine wp_region_quiet_below (by kernel_rfl) (by kernel_rfl) ?_
        repeat(go_big_quiet_step (exact Zc.out _ _))
        refine wpQuiet_nil ?_;rintro _ ⟨⟨dq,osq⟩,rfl⟩;go_wp2;go_ret;exact⟨ah HT.out.symm,Xv.out dq osq⟩
      rw[hok]at Zc;by_cases hz:k=0
      · have HU:Hid (vJ ts (k+1)=true):=by show _=_;rw[rX,hu.out];subst hz;rw[xy hlt,hok];rfl
        have hk8:decide ((0:Int)<(k:Int))=false:=by simp;omega
        have hk9:decide (0<k)=false:=by simp;omega
        clear hok hz;refine wp_region_quiet_below (by kernel_rfl) (by kernel_rfl) ?_
        repeat(go_big_quiet_step (exact Zc.out _ _))
        refine wpQuiet_nil ?_;rintro _ ⟨⟨dq,osq⟩,rfl⟩;go_wp2;go_roundw;case rel=>exact⟨k+1,by omega,by go_num,HU,Xv.out dq osq⟩
        simp[intOf];omega
      · obtain⟨m,hm⟩:∃m:Nat,k=m+1:=⟨k-1,by omega⟩;have Xd:m<ts.length:=by omega
        obtain⟨q0,q1,q2,q3,q4,q5⟩:=ZE.out m Xd;replace q0:=cell_regrown q0;replace q1:=cell_regrown q1;replace q2:=cell_regrown q2;replace q3:=cell_regrown q3;replace q4:=cell_regrown q4;replace q5:=cell_regrown q5;have hkm:(k:Int)-1=(m:Int):=by omega
        have hm1:=bC m;have hm2:(m:Int)<(ts.length:Int):=by omega
        have hpos:(0:Int)<(k:Int):=by omega
        have hposN:0<k:=by omega
        have hwm:IntKind.i64.wrap (m:Int)=(m:Int):=by rw[IntKind.wrap_i64];omega
        have HA:Hid (xx ts k=ts[m].ahead ts[k]):=by show _=_;subst hm;rw[rY hlt,hok];rfl
        have HCA:Hid (∀d os,Calls prog 137 #[.agg #[.string ts[m].a,.string ts[m].b,.string ts[m].r,.string ts[m].c,.string ts[m].d,.string ts[m].s],.agg #[.string ts[k].a,.string ts[k].b,.string ts[k].r,.string ts[k].c,.string ts[k].d,.string ts[k].s]] (grow (redrawn wr d) os) fun e w''=>e=.returned (.bool (ts[m].ahead ts[k]))/\∃p:Regrown,w''=grow (redrawn wr p.d) p.os):=by
          obtain⟨f0,f1,f2,f3,f4,f5⟩:=WE.out ts[k] (U8 hlt);obtain⟨g0,g1,g2,g3,g4,g5⟩:=WE.out ts[m] (U8 Xd);exact dA fun W' _=>nQ _ _ _ _ _ _ _ _ _ _ _ _ _ g0 g1 g2 g3 g4 g5 f0 f1 f2 f3 f4 f5
        clear hm hz hok;cases ha:ts[m].ahead ts[k];case false=>
          have HT:Hid (dI ts=false):=vL hlt (by rw[HA.out,ha]);rw[ha]at HCA;clear ha HA;refine wp_region_quiet_below (by kernel_rfl) (by kernel_rfl) ?_
          repeat(go_big_quiet_step (first|exact Zc.out _ _|exact HCA.out _ _))
          refine wpQuiet_nil ?_;rintro _ ⟨⟨dq,osq⟩,rfl⟩;go_wp2;go_ret;exact⟨ah HT.out.symm,Xv.out dq osq⟩
        have HU:Hid (vJ ts (k+1)=true):=by show _=_;rw[rX,hu.out,HA.out,ha];rfl
        rw[ha]at HCA;clear ha HA;refine wp_region_quiet_below (by kernel_rfl) (by kernel_rfl) ?_
        repeat(go_big_quiet_step (first|exact Zc.out _ _|exact HCA.out _ _))
        refine wpQuiet_nil ?_;rintro _ ⟨⟨dq,osq⟩,rfl⟩;go_wp2;go_roundw;case rel=>exact⟨k+1,by omega,by go_num,HU,Xv.out dq osq⟩
        simp[intOf];omega
    · go_wp2;go_ret;exact⟨ah (by have e:k=ts.length:=(by omega);subst e;simp[dI,hu.out];omega),hB⟩
end Go.Proofs.YtajkkeikihhejaaGreat
namespace Go.Proofs.YtajkkeikihhejaaGreat.Pl
theorem OV{c:UInt8}{l m:List UInt8}(h:∀x∈l,x≠c):je c (l++c::m)=(l,m,true):=by
 induction l with
 | nil=>simp[je]
 | cons b l ih =>
  have hb:b≠c:=h b (by simp);have:=ih (fun x hx=>h x (by simp[hx]));simp[je,hb,this]
theorem Dn(c:UInt8)(s:bW):(kS c s).data.toList=(je c s.data.toList).1:=by simp[kS]
theorem Dq(c:UInt8)(s:bW):(iY c s).data.toList=(je c s.data.toList).2.1:=by simp[iY]
theorem Gy(a b:bW):(a++b).data.toList=a.data.toList++b.data.toList:=by simp[ByteArray.data_append]
theorem zx{c:UInt8}{s:ByteArray}{l m:List UInt8}(hs:s.data.toList=l++c::m)(h:∀x∈l,x≠c):(kS c s).data.toList=l/\(iY c s).data.toList=m/\pz c s=true:=by
 rw[Dn,Dq,pz,hs,OV h];exact⟨rfl,rfl,rfl⟩
theorem Rs{c:UInt8}{s:ByteArray}(h:∀x∈s.data.toList,x≠c):kS c s=s/\iY c s=⟨#[]⟩/\pz c s=false:=by
 refine⟨ib ?_,ib ?_,?_⟩
 ·rw[Dn,rW h]
 ·rw[Dq,rW h]
 rw[pz,rW h]
def OW(l:List UInt8):Prop:=∀x∈l,x≠35/\x≠58/\x≠64
theorem Dr{x:UInt8}(h:zm x=true):x≠35/\x≠58/\x≠64:=by
 refine⟨?_,?_,?_⟩<;>(rintro rfl;revert h;decide)
theorem Jo{x:UInt8}(h:fo x=true):x≠35/\x≠58/\x≠64:=Dr (by simp[zm,h])
theorem qO{s:ByteArray}(h:aU s=true):OW s.data.toList:=by
 simp only[aU,dP,sO,Vd,Vm]at h;exact fun x hx=>Jo (h.1.2 x hx)
theorem Gz{s:ByteArray}(h:qd s=true):OW s.data.toList:=by
 simp only[qd,dP,sO,Vd,Vm]at h;exact fun x hx=>Dr (h.2 x hx)
theorem uy{a b:ByteArray}(h:fu a b=true):aU a=true/\qd b=true:=by simpa[fu] using h
theorem vM{a b:ByteArray}(h:fu a b=true):(aF a b).data.toList=a.data.toList++58::b.data.toList:=by
 rw[nA h,Gy,Gy];simp
theorem tC{a b:ByteArray}(h:fu a b=true):∀x∈(aF a b).data.toList,x≠35/\x≠64:=by
 intro x hx;rw[vM h]at hx;have h1:=qO (uy h).1;have h2:=Gz (uy h).2;simp only[Vn,Vq]at hx;rcases hx with hx|hx|hx
 ·exact⟨(h1 x hx).1,(h1 x hx).2.2⟩
 ·subst hx;decide
 exact⟨(h2 x hx).1,(h2 x hx).2.2⟩
theorem pE{a b:ByteArray}(h:fu a b=true):Us (aF a b)=true/\U4 (aF a b)=a/\U5 (aF a b)=b:=by
 obtain⟨h1,h2,-⟩:=zx (c:=58) (vM h) (fun x hx=>(qO (uy h).1 x hx).2.1);have e1:kS 58 (aF a b)=a:=ib h1;have e2:iY 58 (aF a b)=b:=ib h2;have hb:Us (aF a b)=true:=by rw[Us,e1,e2];exact h
 exact⟨hb,by rw[(OU hb).1,e1],by rw[(OU hb).2,e2]⟩
def Dt(s:ByteArray):List UInt8:=if s.toList.isEmpty then [] else 35::s.data.toList
theorem EU{a b r c d s:ByteArray}(h:cO a b r c d s=true):
  (bi a b r c d s).data.toList=(aF a b).data.toList++35::(r.data.toList++64::((aF c d).data.toList++Dt s)):=by
 by_cases hs:s.toList.isEmpty=true
 ·rw[nC h hs,Dt,if_pos hs];simp
 have hs':s.toList.isEmpty=false:=by simpa using hs
 rw[nD h hs',Dt,if_neg hs];simp
theorem OX{s:ByteArray}(h:s.toList.isEmpty=true):s=⟨#[]⟩:=by
 refine ib ?_;rw[Go.ByteArray.toList_eq]at h;simpa using h
theorem OY{o s x:ByteArray}(ho:∀y∈o.data.toList,y≠35)(hx:x.data.toList=o.data.toList++Dt s):
  kS 35 x=o/\iY 35 x=s/\pz 35 x=!s.toList.isEmpty:=by
 by_cases hs:s.toList.isEmpty=true
 ·have e:x=o:=ib (by rw[hx,Dt,if_pos hs];simp);subst e;obtain⟨h1,h2,h3⟩:=Rs (c:=35) (s:=x) ho;exact⟨h1,by rw[h2,OX hs],by rw[h3,hs];rfl⟩
 rw[Dt,if_neg hs]at hx;obtain⟨h1,h2,h3⟩:=zx hx ho;have hs':s.toList.isEmpty=false:=by simpa using hs
 exact⟨ib h1,ib h2,by rw[h3,hs'];rfl⟩
def i1(s:ByteArray):=iY 35 s
def i2(s:ByteArray):=iY 64 (i1 s)
theorem Aw{a b r c d t s:ByteArray}(h:cO a b r c d t=true)(hs:bi a b r c d t=s):
  kS 35 s=aF a b/\kS 64 (i1 s)=r/\kS 35 (i2 s)=aF c d/\iY 35 (i2 s)=t:=by
 obtain⟨h1,h2,h3,h4⟩:=ku h;have hl:=EU h;rw[hs]at hl;obtain⟨c1,c2,-⟩:=zx hl (fun x hx=>(tC h1 x hx).1);obtain⟨d1,d2,-⟩:=zx (s:=i1 s) c2 (fun x hx=>(qO h2 x hx).2.2);obtain⟨e1,e2,-⟩:=OY (o:=aF c d) (s:=t) (x:=i2 s) (fun x hx=>(tC h3 x hx).1) d2;exact⟨ib c1,ib d1,e1,e2⟩
def Jp(s a b r c d t:ByteArray)(f:Bool):Prop :=
 (f=true/\cO a b r c d t=true/\bi a b r c d t=s) \/
 (f=false/\(a=⟨#[]⟩/\b=⟨#[]⟩/\r=⟨#[]⟩/\c=⟨#[]⟩/\d=⟨#[]⟩/\t=⟨#[]⟩)/\∀a b r c d t,cO a b r c d t=true->bi a b r c d t≠s)
theorem GD{a b r c d t a' b' r' c' d' t':ByteArray}(h:cO a b r c d t=true)(h':cO a' b' r' c' d' t'=true)(e:bi a b r c d t=bi a' b' r' c' d' t'):
  a=a'/\b=b'/\r=r'/\c=c'/\d=d'/\t=t':=by
 obtain⟨x1,x2,x3,x4⟩:=Aw h e;obtain⟨y1,y2,y3,y4⟩:=Aw h' rfl;obtain⟨p1,p2,p3,p4⟩:=ku h;obtain⟨q1,q2,q3,q4⟩:=ku h';have o1:aF a b=aF a' b':=x1.symm.trans y1;have o2:aF c d=aF c' d':=x3.symm.trans y3;obtain⟨-,u1,u2⟩:=pE p1;obtain⟨-,v1,v2⟩:=pE q1;obtain⟨-,u3,u4⟩:=pE p3;obtain⟨-,v3,v4⟩:=pE q3;rw[o1]at u1 u2;rw[o2]at u3 u4;exact⟨u1.symm.trans v1,u2.symm.trans v2,x2.symm.trans y2,u3.symm.trans v3,u4.symm.trans v4,x4.symm.trans y4⟩
theorem Jp.one{s a b r c d t a' b' r' c' d' t':ByteArray}{f f':Bool}(h:Jp s a b r c d t f)(h':Jp s a' b' r' c' d' t' f'):
  (a=a'/\b=b'/\r=r'/\c=c'/\d=d'/\t=t')/\f=f':=by
 rcases h with⟨rfl,h1,h2⟩|⟨rfl,h1,h2⟩
 ·rcases h' with⟨rfl,k1,k2⟩|⟨rfl,k1,k2⟩
  ·exact⟨GD h1 k1 (h2.trans k2.symm),rfl⟩
  exact absurd h2 (k2 _ _ _ _ _ _ h1)
 rcases h' with⟨rfl,k1,k2⟩|⟨rfl,k1,k2⟩
 ·exact absurd k2 (h2 _ _ _ _ _ _ k1)
 obtain⟨rfl,rfl,rfl,rfl,rfl,rfl⟩:=h1;obtain⟨rfl,rfl,rfl,rfl,rfl,rfl⟩:=k1;exact⟨⟨rfl,rfl,rfl,rfl,rfl,rfl⟩,rfl⟩
end Go.Proofs.YtajkkeikihhejaaGreat.Pl
namespace Go.Proofs.YtajkkeikihhejaaGreat
open ChangeShapes WideShapes ChangeAt RowKit
open Pl
set_option maxRecDepth 100000 in
theorem Cv(ad:Q02)(cap:Nat)(rs:Q08)(w:af)(hlen:rs.length<=1048576)(hs:ik w ad rs)(hl:∀r∈rs,r.e.light)(hk:∀r∈rs,eZ rs.length r.e.kids):
  Calls prog 187 #[.slice ad rs.length cap] w fun e w'=>e=.returned (.slice (some ⟨w.heap.size,0,none⟩) rs.length rs.length)/\Fil w w' w.heap.size rs.length (bools (dC (ak rs))):=by
 have HS:=aD hs;have HL:=aD hl;have HK:=aD hk;clear hs hl hk;obtain⟨inf,hi,hz0,hz1,hz2⟩:=info_parts zP;go_enter func187,ntmps187;go_wp2_with(at_make;refine wpList_make_full _ rfl _ _ 275 rfl w.heap.size 4 inf (.bool false) 1 underlying275 hi hz0 hz1 .i64 .i64 _ _ rs.length rfl rfl rfl rfl (by rw[hz2];omega) (by unfold maxLen;omega) (Va _) ?_;intro w0 hown0 YB);have HF0:Hid (Fil w w0 w.heap.size rs.length (bools (List.replicate rs.length false))):=by
  have:=C9 (v:=.bool false) hown0 YB;show Fil _ _ _ _ _;simpa[bools] using this
 clear hown0 YB hi hz0 hz1 hz2;go_loopw[4] (fun i wr=>∃(m:Nat) (out:List Bool),m<=rs.length/\i=.int .i64 ((m:Int)-1)/\out.length=rs.length/\Hid (dW (ak rs) m out=dC (ak rs))/\Hid (Fil w wr w.heap.size rs.length (bools out))) (fun i _=>(intOf i+1).toNat);case atStart=>exact⟨rs.length,List.replicate rs.length false,Va _,by go_num,by simp,(by show _=_;unfold dC;rw[aR]),HF0⟩
 obtain⟨m,out,hm,rfl,hol,HN,HF⟩:=hrel;by_cases hm0:0<m
 ·obtain⟨m,rfl⟩:∃m',m=m'+1:=⟨m-1,by omega⟩;have hmi:(((m+1:Nat):Int)-1)=(m:Int):=by omega
  rw[hmi];have hlt:m<rs.length:=by omega
  rcases HS.out.below HF.out.below with rfl|⟨b,off,rfl,hb,hr,hok⟩
  ·simp at hlt
  obtain⟨t0,t1,t2,t3,t4⟩:=hr m hlt;have X0:Hid (rs[m].ok _):=hok rs[m] (U8 hlt);have lg:=(HL.out rs[m] (U8 hlt)).2;have HKI:Hid (eZ rs.length rs[m].e.kids):=HK.out rs[m] (U8 hlt);have hk1:=bC m;have hk2:(m:Int)<(rs.length:Int):=by omega
  have hbw:b<w.heap.size:=by
   rcases HS.out with h|⟨b',off',h1,h2,-⟩
   ·rw[h]at hlt;simp at hlt
   injection h1 with h1;injection h1 with h1;omega
  have HR:Hid (yT wr b (off+m*5) rs[m]):=hr m hlt;have HNX:Hid (dW (ak rs) m (bF m rs[m].e.kind rs[m].e.kids 0 out)=dC (ak rs)):=by
   show _=_;rw[<-HN.out,zQ _ _ _ (by rw[aR];exact hlt)];simp[ak]
  clear hr hok t0 t1 t2 t3;go_wp2_with fail;clear t4;go_loopw[23] (fun i w2=>∃(j:Nat) (Wy:List Bool),j<=rs[m].e.kids.length/\i=.int .i64 j/\Wy.length=rs.length/\Hid (bF m rs[m].e.kind (rs[m].e.kids.drop j) j Wy=bF m rs[m].e.kind rs[m].e.kids 0 out)/\Hid (Fil w w2 w.heap.size rs.length (bools Wy))) (fun i _=>rs[m].e.kids.length-(intOf i).toNat);case atStart=>exact⟨0,out,Vf _,rfl,hol,rfl,HF⟩
  obtain⟨j,Wy,hj,rfl,ho2,HJ,X9⟩:=hrel;have hE2:ik wr _ rs:=HS.out.below X9.out.below;have ht:yT wr b (off+m*5) rs[m]:=by
   rcases hE2 with h|⟨b',off',h1,h2,h3,-⟩
   ·exact absurd hlt (by rw[h];simp)
   injection h1 with h1;injection h1 with h1 h1';subst h1;subst h1';exact h3 m hlt
  obtain⟨t0,t1,t2,t3,t4⟩:=ht;by_cases hjl:j<rs[m].e.kids.length
  ·have hK2:sZ wr rs[m].adK rs[m].e.kids:=(hE2.mem (U8 hlt)).2;rcases hK2 with hnil|⟨ba,Yz,WX,hba,hra⟩
   ·rw[hnil]at hjl;simp at hjl
   rw[WX];have q0:=hra j hjl;have hj1:=bC j;have hj2:(j:Int)<(rs[m].e.kids.length:Int):=by omega
   obtain⟨x0,x1⟩:=HKI.out _ (U8 hjl);obtain⟨x,hx⟩:∃x:Nat,rs[m].e.kids[j]=(x:Int):=⟨rs[m].e.kids[j].toNat,by omega⟩;rw[hx]at q0 x0 x1;have c0:=X9.out.done m (by simp[bools];omega);have fz:=X9.out.free;obtain⟨v0,u0⟩:=Option.isSome_iff_exists.mp (X9.out.there x (by omega));have hbr:b<wr.heap.size:=U9 hbw X9.out.below.size;obtain⟨bo,hbo⟩:∃bo,bo=(bools Wy)[m]'(by simp[bools];omega):=⟨_,rfl⟩;rw[<-hbo]at c0;clear hra WX hE2 t1 t2 t3;have hm2:m<Wy.length:=by omega
   have hbo1:bo=.bool Wy[m]:=by rw[hbo];simp[bools]
   have hbo':Wy[m]?.getD false=Wy[m]:=by simp[hm2]
   rw[hbo1]at c0;clear hbo hbo1;cases hb0:Wy[m];case true=>
    rw[hb0]at c0 hbo';have YC:Hid (Fil w (wr.setCell ⟨w.heap.size,x,none⟩ (.bool true)) w.heap.size rs.length (bools (Wy.set x true))):=by show Fil _ _ _ _ _;rw[oh];exact X9.out.set _ (by simp[bools];omega) (by omega)
    have HJ2:Hid (bF m rs[m].e.kind (rs[m].e.kids.drop (j+1)) (j+1) (Wy.set x true)=bF m rs[m].e.kind rs[m].e.kids 0 out):=by
     show _=_;rw[<-HJ.out,jG _ _ _ _ _ hjl,hx];simp[*]
    go_wp2;go_roundw;case rel=>exact⟨j+1,Wy.set x true,by omega,by go_num,by simp[ho2],HJ2,YC⟩
    simp[intOf]<;>omega
   rw[hb0]at c0 hbo';cases hkb:(rs[m].e.kind==6);case false=>
    have YC:Hid (Fil w (wr.setCell ⟨w.heap.size,x,none⟩ (.bool false)) w.heap.size rs.length (bools (Wy.set x false))):=by show Fil _ _ _ _ _;rw[oh];exact X9.out.set _ (by simp[bools];omega) (by omega)
    have HJ2:Hid (bF m rs[m].e.kind (rs[m].e.kids.drop (j+1)) (j+1) (Wy.set x false)=bF m rs[m].e.kind rs[m].e.kids 0 out):=by
     show _=_;rw[<-HJ.out,jG _ _ _ _ _ hjl,hx];simp[*]
    go_wp2;go_roundw;case rel=>exact⟨j+1,Wy.set x false,by omega,by go_num,by simp[ho2],HJ2,YC⟩
    simp[intOf]<;>omega
   cases hjb:((j:Int)==1);case true=>
    have hjn:(j==1)=true:=by simp at hjb⊢;omega
    have YC:Hid (Fil w (wr.setCell ⟨w.heap.size,x,none⟩ (.bool true)) w.heap.size rs.length (bools (Wy.set x true))):=by show Fil _ _ _ _ _;rw[oh];exact X9.out.set _ (by simp[bools];omega) (by omega)
    have HJ2:Hid (bF m rs[m].e.kind (rs[m].e.kids.drop (j+1)) (j+1) (Wy.set x true)=bF m rs[m].e.kind rs[m].e.kids 0 out):=by
     show _=_;rw[<-HJ.out,jG _ _ _ _ _ hjl,hx];simp[*]
    go_wp2;go_roundw;case rel=>exact⟨j+1,Wy.set x true,by omega,by go_num,by simp[ho2],HJ2,YC⟩
    simp[intOf]<;>omega
   have hjn:(j==1)=false:=by simp at hjb⊢;omega
   have YC:Hid (Fil w (wr.setCell ⟨w.heap.size,x,none⟩ (.bool false)) w.heap.size rs.length (bools (Wy.set x false))):=by show Fil _ _ _ _ _;rw[oh];exact X9.out.set _ (by simp[bools];omega) (by omega)
   have HJ2:Hid (bF m rs[m].e.kind (rs[m].e.kids.drop (j+1)) (j+1) (Wy.set x false)=bF m rs[m].e.kind rs[m].e.kids 0 out):=by
    show _=_;rw[<-HJ.out,jG _ _ _ _ _ hjl,hx];simp[*]
   go_wp2;go_roundw;case rel=>exact⟨j+1,Wy.set x false,by omega,by go_num,by simp[ho2],HJ2,YC⟩
   simp[intOf]<;>omega
  have Zy:Hid (dW (ak rs) m Wy=dC (ak rs)):=by
   show _=_;rw[<-HNX.out,<-HJ.out,Vt (by omega)];rfl
  go_wp2;go_roundw;case rel=>exact⟨m,Wy,by omega,by go_num,ho2,Zy,X9⟩
  simp[intOf]<;>omega
 obtain rfl:m=0:=by omega
 have Y5:Hid (Fil w wr w.heap.size rs.length (bools (dC (ak rs)))):=by
  show Fil _ _ _ _ _;rw[<-HN.out];exact HF.out
 go_wp2;go_ret;exact⟨rfl,Y5.out⟩
set_option linter.unusedVariables false
structure Few{φ υ:Type}(us:φ->υ)(H:List φ->φ->Bool)(qs:List φ)(users:List υ)(out:List φ):Prop where
 set:∀f∈qs,us f ∉ users->f∈out\/H out f=false
theorem Few.start{φ υ:Type}{us:φ->υ}{H:List φ->φ->Bool}{qs:List φ}{users:List υ}{out:List φ}(h:∀f∈qs,us f∈users):Few us H qs users out:=⟨fun f hf hn=>absurd (h f hf) hn⟩
section
variable  {φ υ:Type}[DecidableEq φ]{us:φ->υ}{H:List φ->φ->Bool}
def Loc(us:φ->υ)(H:List φ->φ->Bool):Prop:=∀(a b:List φ) (f:φ),(∀g,us g=us f->(g∈a↔g∈b))->H a f=H b f
def dV(H:List φ->φ->Bool)(out:List φ)(f:φ):List φ:=if f∈out\/H out f=false then out else out++[f]
def bZ(H:List φ->φ->Bool)(qs:List φ)(out:List φ):List φ:=qs.foldl (dV H) out
theorem OZ(out:List φ):bZ H [] out=out:=rfl
theorem oq(q:φ)(qs out:List φ):bZ H (q::qs) out=bZ H qs (dV H out q):=rfl
theorem GG(zas bs out:List φ):bZ H (zas++bs) out=bZ H bs (bZ H zas out):=by unfold bZ;rw[List.foldl_append]
theorem xA(out:List φ)(f:φ):∃new,dV H out f=out++new/\∀g∈new,g=f/\g ∉ out/\H out f=true:=by
 unfold dV;split
 ·exact⟨[],by simp,fun g hg=>by cases hg⟩
 rename_i h;refine⟨[f],rfl,fun g hg=>?_⟩;rw[Vl]at hg;subst hg;refine⟨rfl,fun e=>h (.inl e),?_⟩;cases e:H out g;case true=>rfl
 exact absurd (.inr e) h
theorem jP:∀(qs out:List φ),∃new,bZ H qs out=out++new/\∀g∈new,g∈qs/\g ∉ out
 | [],out=>⟨[],by simp[OZ],fun g hg=>by cases hg⟩
 | q::qs,out=>by
  obtain⟨n1,e1,h1⟩:=xA (H:=H) out q;obtain⟨n2,e2,h2⟩:=jP qs (dV H out q);refine⟨n1++n2,by rw[oq,e2,e1,VD],fun g hg=>?_⟩;rcases Vn.1 hg with hg|hg
  ·exact⟨by rw[(h1 g hg).1];exact VT ..,(h1 g hg).2.1⟩
  obtain⟨h3,h4⟩:=h2 g hg;exact⟨VQ _ h3,fun e=>h4 (by rw[e1];exact VZ _ e)⟩
theorem qP{qs out:List φ}{g:φ}(h:g∈out):g∈bZ H qs out:=by
 obtain⟨n,e,-⟩:=jP (H:=H) qs out;rw[e];exact VZ _ h
theorem xB{out:List φ}{f g:φ}(h:g∈out):g∈dV H out f:=by
 obtain⟨n,e,-⟩:=xA (H:=H) out f;rw[e];exact VZ _ h
theorem Jq{out:List φ}(h:out.Nodup)(f:φ):(dV H out f).Nodup:=by
 unfold dV;split
 ·exact h
 rename_i hn;refine List.nodup_append.2 ⟨h,by simp,fun a ha b hb e=>?_⟩;rw[Vl]at hb;subst hb;subst e;exact hn (.inl ha)
theorem xC:∀(qs:List φ) {out:List φ},out.Nodup->(bZ H qs out).Nodup
 | [],_,h=>h
 | q::qs,_,h=>xC qs (Jq h q)
theorem Du{qs out:List φ}(h:∀f∈qs,f∈out\/H out f=false):bZ H qs out=out:=by
 induction qs with
 | nil=>rfl
 | cons q qs ih =>
  have e:dV H out q=out:=if_pos (h q (VT ..));rw[oq,e];exact ih fun f hf=>h f (VQ _ hf)
theorem Cw{qs out:List φ}:bZ H qs out=out ↔ ∀f∈qs,f∈out\/H out f=false:=by
 refine⟨fun h=>?_,Du⟩
 induction qs with
 | nil=>intro f hf;cases hf
 | cons q qs ih =>
  rw[oq]at h;by_cases hq:q∈out\/H out q=false
  ·have e:dV H out q=out:=if_pos hq;rw[e]at h;intro f hf;rcases Vq.1 hf with rfl|hf
   ·exact hq
   exact ih h f hf
  have e:dV H out q=out++[q]:=if_neg hq;obtain⟨n,e2,-⟩:=jP (H:=H) qs (dV H out q);rw[h,e]at e2;have:=congrArg List.length e2;simp at this
theorem nE(hL:Loc us H)(P:υ->Bool):∀(qs out:List φ),(∀f∈qs,P (us f)=false->f∈out\/H out f=false)->bZ H qs out=bZ H (qs.filter fun f=>P (us f)) out
 | [],_,_=>rfl
 | q::qs,out,h=>by
  rw[oq,Wm];cases hp:P (us q);case false=>
   have e:dV H out q=out:=if_pos (h q (VT ..) hp);rw[e];exact nE hL P qs out fun f hf=>h f (VQ _ hf)
  rw[if_pos rfl,oq];refine nE hL P qs _ fun f hf hpf=>?_;have hne:us f≠us q:=fun e=>by rw[e,hp]at hpf;cases hpf
  obtain⟨n,e,hn⟩:=xA (H:=H) out q;have hm:∀g,us g=us f->(g∈out↔g∈dV H out q):=fun g hg=>by
   rw[e];refine⟨fun h=>VZ _ h,fun h=>?_⟩;rcases Vn.1 h with h|h
   ·exact h
   exact absurd (by rw[(hn g h).1]at hg;exact hg.symm) hne
  rcases h f (VQ _ hf) hpf with h1|h1
  ·exact .inl ((hm f rfl).1 h1)
  exact .inr (by rw[<-hL out _ f hm];exact h1)
theorem vO(hL:Loc us H)(u:υ):∀(qs out:List φ),(∀g∈bZ H qs out,us g=u->g∈out)->∀f∈qs,us f=u->f∈bZ H qs out\/H (bZ H qs out) f=false
 | [],_,_,f,hf,_=>by cases hf
 | q::qs,out,h,f,hf,hu=>by
  have hsame:∀g,us g=u->(g∈dV H out q↔g∈bZ H qs (dV H out q)):=fun g hg=>⟨fun h1=>qP h1,fun h1=>xB (h g h1 hg)⟩;have hrest:∀g∈bZ H qs (dV H out q),us g=u->g∈dV H out q:=fun g h1 h2=>(hsame g h2).2 h1;rcases Vq.1 hf with rfl|hf
  ·show f∈bZ H qs (dV H out f)\/H (bZ H qs (dV H out f)) f=false;by_cases hq:f∈out\/H out f=false
   ·rcases hq with h1|h1
    ·exact .inl (qP (xB h1))
    refine .inr ?_;rw[<-hL out _ f fun g hg=>?_]
    ·exact h1
    exact⟨fun h2=>qP (xB h2),fun h2=>h g h2 (hg.trans hu)⟩
   have e:dV H out f=out++[f]:=if_neg hq;exact .inl (qP (by rw[e];simp))
  exact vO hL u qs _ hrest f hf hu
def jQ(H:List φ->φ->Bool)(qs:List φ):Nat->List φ->List φ
 | 0,out=>out
 | k+1,out=>if bZ H qs out=out then out else jQ H qs k (bZ H qs out)
def mJ(qs out:List φ):Nat:=(qs.filter fun f=>decide (f ∉ out)).length
theorem O0(qs:List φ){a b:List φ}(h:∀g∈a,g∈b):mJ qs b<=mJ qs a:=by
 unfold mJ
 induction qs with
 | nil=>simp
 | cons q qs ih =>
  simp only[Wm];by_cases hb:q∈b
  ·by_cases ha:q∈a
   ·simp[ha,hb];simpa using ih
   simp[ha,hb];have:=ih;simp at this;omega
  have ha:q ∉ a:=fun e=>hb (h q e);simp[ha,hb];simpa using ih
theorem O1(qs:List φ){a b:List φ}(h:∀g∈a,g∈b){x:φ}(hx:x∈qs)(ha:x ∉ a)(hb:x∈b):mJ qs b<mJ qs a:=by
 induction qs with
 | nil=>cases hx
 | cons q qs ih =>
  have hle:=O0 qs h;unfold mJ at ih hle⊢;simp only[Wm];rcases Vq.1 hx with rfl|hx
  ·simp[ha,hb];simp at hle;omega
  have:=ih hx;by_cases h1:q∈b
  ·by_cases h2:q∈a
   ·simp[h1,h2];simpa using this
   simp[h1,h2];simp at this;omega
  have h2:q ∉ a:=fun e=>h1 (h q e);simp[h1,h2];simpa using this
theorem xD{qs out:List φ}(h:bZ H qs out≠out):mJ qs (bZ H qs out)<mJ qs out:=by
 obtain⟨n,e,hn⟩:=jP (H:=H) qs out;cases n with
 | nil=>exact absurd (by simpa using e) h
 | cons x n =>
  obtain⟨h1,h2⟩:=hn x (VT ..);exact O1 qs (fun g hg=>qP hg) h1 h2 (by rw[e];simp)
theorem Ay(qs:List φ):∀(k j:Nat) (out:List φ),mJ qs out<k->mJ qs out<j->jQ H qs k out=jQ H qs j out
 | 0,_,_,h,_=>absurd h (V5 _)
 | _+1,0,_,_,h=>absurd h (V5 _)
 | k+1,j+1,out,h1,h2=>by
  unfold jQ;by_cases e:bZ H qs out=out
  ·rw[if_pos e,if_pos e]
  rw[if_neg e,if_neg e];have:=xD (H:=H) e;exact Ay qs k j _ (by omega) (by omega)
def kU(H:List φ->φ->Bool)(qs out:List φ):List φ:=jQ H qs (mJ qs out+1) out
theorem xE{qs out:List φ}(h:bZ H qs out=out):kU H qs out=out:=by
 unfold kU jQ;rw[if_pos h]
theorem Dv(qs out:List φ):kU H qs (bZ H qs out)=kU H qs out:=by
 by_cases h:bZ H qs out=out
 ·rw[h]
 have hlt:=xD (H:=H) h;have e:kU H qs out=jQ H qs (mJ qs out) (bZ H qs out):=by
  show jQ H qs (mJ qs out+1) out=_;rw[jQ,if_neg h]
 rw[e];unfold kU;exact Ay qs _ _ _ (Nat.lt_succ_self _) hlt
theorem O3(out:List φ):kU H [] out=out:=xE rfl
theorem xG(qs:List φ):∀(k:Nat) (out:List φ),∃new,jQ H qs k out=out++new/\∀g∈new,g∈qs
 | 0,out=>⟨[],by simp[jQ],fun g hg=>by cases hg⟩
 | k+1,out=>by
  unfold jQ;split
  ·exact⟨[],by simp,fun g hg=>by cases hg⟩
  obtain⟨n1,e1,h1⟩:=jP (H:=H) qs out;obtain⟨n2,e2,h2⟩:=xG qs k (bZ H qs out);refine⟨n1++n2,by rw[e2,e1,VD],fun g hg=>?_⟩;rcases Vn.1 hg with hg|hg
  ·exact(h1 g hg).1
  exact h2 g hg
theorem GH(qs:List φ):∀(k:Nat) (out:List φ),mJ qs out<k->bZ H qs (jQ H qs k out)=jQ H qs k out
 | 0,_,h=>absurd h (V5 _)
 | k+1,out,h=>by
  unfold jQ;split
  ·rename_i e;exact e
  rename_i e;have:=xD (H:=H) e;exact GH qs k _ (by omega)
theorem O4(qs out:List φ):bZ H qs (kU H qs out)=kU H qs out:=GH qs _ out (Nat.lt_succ_self _)
theorem Az(qs:List φ):∀(k:Nat) {out:List φ},out.Nodup->(jQ H qs k out).Nodup
 | 0,_,h=>h
 | k+1,out,h=>by
  unfold jQ;split
  ·exact h
  exact Az qs k (xC qs h)
theorem Mj(qs:List φ){out:List φ}(h:out.Nodup):(kU H qs out).Nodup:=Az qs _ h
theorem Few.round[DecidableEq υ](hL:Loc us H){qs:List φ}{users:List υ}{out:List φ}(h:Few us H qs users out):bZ H (qs.filter fun f=>decide (us f∈users)) out=bZ H qs out :=
 (nE hL (fun u=>decide (u∈users)) qs out fun f hf hp=>h.set f hf (by simpa using hp)).symm
theorem Few.next[DecidableEq υ](hL:Loc us H){qs:List φ}{users users':List υ}{out new:List φ}(h:Few us H qs users out)(hn:bZ H qs out=out++new)(hu:∀u,u∈users'↔u∈users/\∃g∈new,us g=u):Few us H qs users' (out++new):=by
 refine⟨fun f hf hnf=>?_⟩;have key:∀g∈bZ H qs out,us g=us f->g∈out:=fun g hg hgu=>by
  rw[hn]at hg;rcases Vn.1 hg with hg|hg
  ·exact hg
  by_cases hin:us f∈users
  ·exact absurd ((hu _).2 ⟨hin,g,hg,hgu⟩) hnf
  -- a user that was left out before finds none
  have e:=h.round hL;obtain⟨n2,e2,h2⟩:=jP (H:=H) (qs.filter fun f=>decide (us f∈users)) out;rw[e,hn]at e2;have e3:new=n2:=List.append_cancel_left e2;rw[e3]at hg;have h3:=(h2 g hg).1;rw[V6]at h3;have h4:us g∈users:=by simpa using h3.2
  rw[hgu]at h4;exact absurd h4 hin
 have:=vO hL (us f) qs out key f hf rfl;rw[hn]at this;exact this
theorem Few.done{qs:List φ}{out:List φ}(h:Few us H qs [] out):kU H qs out=out:=xE (Du fun f hf=>h.set f hf List.not_mem_nil)
end
def La(es:Q09):Prop:=∀(i:Nat) (h:i<es.length),∀x∈es[i].kids,0<=x/\x<(i:Int)
theorem Jr{es:Q09}(h:aN es=true):La es:=by
 intro i hi x hx;unfold aN at h;simp only[Vd,Vk]at h;have h1:=h.1.1.2;unfold jk at h1;rw[Vm]at h1;have h2:=h1 i (by simpa using hi);unfold ll di at h2;rw[Vg hi]at h2;simp only[Option.map_some,VO,Vm,Vd,Vk]at h2;have:=h2 x hx;omega
def hasB(ts:Q0b)(t r:ByteArray):Bool:=!(aB ts t r).isEmpty
theorem AA{ts:Q0b}(h:bq ts=true){t:Ty}(ht:t∈ts){r:Rl}(hr:r∈t.rels):aU r.name=true/\aN r.expr=true:=by
 unfold bq at h;simp only[Vd]at h;obtain⟨j,hj,rfl⟩:=VV ht;have h1:=pu h.2 j hj;unfold kP at h1;rw[Vg hj]at h1;simp only[Vd]at h1;obtain⟨k,hk,rfl⟩:=VV hr;have h2:=pq h1.2 k hk;unfold mI at h2;rw[Vg hk]at h2;simp only[Vd]at h2;exact⟨h2.1.1,h2.2⟩
theorem AB{ts:Q0b}{typ:ByteArray}:∀{es:Q09},aX ts typ es=true->∀e∈es,oU ts e.allow=true/\lT ts typ e=true
 | [],_,e,he=>by cases he
 | x::es,h,e,he=>by
  unfold aX at h;split at h
  ·rename_i hc;simp only[Vd]at hc;rcases Vq.1 he with rfl|he
   ·exact hc
   exact AB h e he
  cases h
theorem Rt{ts:Q0b}(h:iP ts=true){t:Ty}(ht:t∈ts){r:Rl}(hr:r∈t.rels){e:Ex}(he:e∈r.expr):oU ts e.allow=true/\lT ts t.name e=true:=by
 have h1:=Vm.1 h t ht;have h2:=Vm.1 h1 r hr;exact AB h2 e he
structure Fc where
 a:ByteArray
 b:ByteArray
 r:ByteArray
 c:ByteArray
 d:ByteArray
abbrev Q04:=List Fc
def Fc.u(f:Fc):ByteArray×ByteArray:=(f.c,f.d)
def vP(x y:Fc):Bool:=x.a.toList==y.a.toList&&x.b.toList==y.b.toList&&x.r.toList==y.r.toList&&x.c.toList==y.c.toList&&x.d.toList==y.d.toList
theorem ow{x y:Fc}:vP x y=true↔x=y:=by
 constructor
 ·intro h;unfold vP at h;simp only[Vd,beq_iff_eq]at h;obtain⟨⟨⟨⟨h1,h2⟩,h3⟩,h4⟩,h5⟩:=h;cases x;cases y;simp only at h1 h2 h3 h4 h5;rw[gQ h1,gQ h2,gQ h3,gQ h4,gQ h5]
 rintro rfl;unfold vP;simp
def bB(out:Q04)(f:Fc):Bool:=out.any fun g=>vP g f
theorem bP{out:Q04}{f:Fc}:bB out f=true↔f∈out:=by
 unfold bB;rw[VF];constructor
 ·rintro⟨g,hg,h⟩;rw[<-ow.1 h];exact hg
 intro h;exact⟨f,h,ow.2 rfl⟩
def GI(u:Q01)(x y:Q04):Prop:=∀g:Fc,g.u=u->(g∈x↔g∈y)
theorem xH{x y:Q04}{f:Fc}(h:GI f.u x y):bB x f=bB y f:=by
 rw[Vu,bP,bP];exact h f rfl
def eQ(l:Q05)(known:Q04)(f:Fc):Bool:=l.any fun t=>(t.a.toList==f.a.toList&&t.b.toList==f.b.toList&&t.r.toList==f.r.toList)&&(if t.s.toList.isEmpty then t.c.toList==f.c.toList&&t.d.toList==f.d.toList else bB known ⟨t.c,t.d,t.s,f.c,f.d⟩)
def gp(l:Q05)(known:Q04)(over name:ByteArray)(f:Fc):Bool:=l.any fun t=>(t.a.toList==f.a.toList&&t.b.toList==f.b.toList&&t.r.toList==over.toList)&&bB known ⟨t.c,t.d,name,f.c,f.d⟩
def dh(l:Q05)(es:Q09)(truth:Q04)(f:Fc):Nat->List Fc->Nat->Bool
 | 0,_,_=>false
 | k+1,known,n=>match es[n]? with
  | none=>false
  | some x =>
   if x.kind=1 then eQ l known f
   else if x.kind=2 then bB known ⟨f.a,f.b,x.name,f.c,f.d⟩
   else if x.kind=3 then gp l known x.over x.name f
   else if x.kind=4 then x.kids.any fun i=>dh l es truth f k known i.toNat
   else if x.kind=5 then x.kids.all fun i=>dh l es truth f k known i.toNat
   else if x.kind=6 then dh l es truth f k known (x.kids.getD 0 0).toNat && !dh l es truth f k truth (x.kids.getD 1 0).toNat
   else false
theorem Js{l:Q05}{x y:Q04}{f:Fc}(h:GI f.u x y):eQ l x f=eQ l y f:=by
 unfold eQ;congr 1
 funext t
 rw[xH (x:=x) (y:=y) (f:=⟨t.c,t.d,t.s,f.c,f.d⟩) h]
theorem Jt{l:Q05}{x y:Q04}{ov nm:ByteArray}{f:Fc}(h:GI f.u x y):gp l x ov nm f=gp l y ov nm f:=by
 unfold gp;congr 1
 funext t
 rw[xH (x:=x) (y:=y) (f:=⟨t.c,t.d,nm,f.c,f.d⟩) h]
theorem uz{l:Q05}{es:Q09}{f:Fc}{t1 t2:Q04}(ht:GI f.u t1 t2):∀(k:Nat) (x y:Q04) (n:Nat),GI f.u x y->dh l es t1 f k x n=dh l es t2 f k y n
 | 0,_,_,_,_=>rfl
 | k+1,x,y,n,h=>by
  unfold dh;cases es[n]? with
  | none=>rfl
  | some e =>
   simp only[Js h,xH (x:=x) (y:=y) (f:=⟨f.a,f.b,e.name,f.c,f.d⟩) h,Jt h,uz ht k x y _ h,uz ht k t1 t2 _ ht]
def fU(ts:Q0b)(l:Q05)(out:Q04)(f:Fc):Bool:=dh l (aB ts f.a f.r) out f (aB ts f.a f.r).length out ((aB ts f.a f.r).length-1)
theorem Dw(ts:Q0b)(l:Q05):Loc Fc.u (fU ts l):=fun x y f h=>uz h _ x y _ h
def AC(ts:Q0b)(st:Q00)(n:Int)(o:Al):List (ByteArray×ByteArray):=(au ts).filter fun k=>k.1.toList==o.t.toList&&decide (st k=n)
def jl(o:Al)(rel:ByteArray)(xu:Q0a):List Fc:=xu.map fun u=>⟨o.t,o.s,rel,u.t,u.s⟩
def vQ(ts:Q0b)(st:Q00)(xu:Q0a)(n:Int)(o:Al):List Fc:=(AC ts st n o).flatMap fun k=>jl o k.2 xu
def cZ(ts:Q0b)(st:Q00)(xo xu:Q0a)(n:Int):List Fc:=xo.flatMap (vQ ts st xu n)
theorem Ju{ts:Q0b}{st:Q00}{xo xu:Q0a}{n:Int}{f:Fc}(h:f∈cZ ts st xo xu n):f.u∈xu.map fun u=>(u.t,u.s):=by
 unfold cZ vQ jl at h;obtain⟨o,-,h⟩:=Vp.1 h;obtain⟨k,-,h⟩:=Vp.1 h;obtain⟨u,hu,rfl⟩:=Vo.1 h;exact Vo.2 ⟨u,hu,rfl⟩
theorem GJ(ts:Q0b)(st:Q00)(xo xu:Q0a)(n:Int)(p:ByteArray×ByteArray->Bool):(cZ ts st xo xu n).filter (fun f=>p f.u)=cZ ts st xo (xu.filter fun u=>p (u.t,u.s)) n:=by
 unfold cZ vQ jl;rw[List.filter_flatMap];congr 1
 funext o
 rw[List.filter_flatMap];congr 1
 funext k
 rw[List.filter_map];rfl
theorem Jv{ts:Q0b}{st:Q00}{xo xu:Q0a}{n:Int}(h:∀k∈au ts,st k≠n):cZ ts st xo xu n=[]:=by
 have:∀o,AC ts st n o=[]:=fun o=>by
  unfold AC;rw[List.filter_eq_nil_iff];intro k hk;simp[h k hk]
 unfold cZ vQ;simp[this]
section
variable  [DecidableEq Fc]
def lY(ts:Q0b)(l:Q05)(st:Q00)(xo xu:Q0a)(N:Nat):List Fc:=(List.range N).foldl (fun out (n:Nat)=>kU (fU ts l) (cZ ts st xo xu (n:Int)) out) []
theorem jy(ts:Q0b)(l:Q05)(st:Q00)(xo xu:Q0a)(N:Nat):lY ts l st xo xu (N+1)=kU (fU ts l) (cZ ts st xo xu (N:Int)) (lY ts l st xo xu N):=by
 unfold lY;rw[List.range_succ,List.foldl_append];rfl
theorem Dx{ts:Q0b}{l:Q05}{st:Q00}{xo xu:Q0a}{N:Nat}(h:∀k∈au ts,st k<(N:Int)):∀M,N<=M->lY ts l st xo xu M=lY ts l st xo xu N:=by
 intro M hM;obtain⟨d,rfl⟩:∃d,M=N+d:=⟨M-N,by omega⟩
 induction d with
 | zero=>rfl
 | succ d ih =>
  rw[Nat.add_succ,jy,ih (by omega),Jv fun k hk=>by have:=h k hk;omega];exact O3 _
theorem Dy(ts:Q0b)(l:Q05)(st:Q00)(xo xu:Q0a):∀N,(lY ts l st xo xu N).Nodup
 | 0=>List.nodup_nil
 | N+1=>by rw[jy];exact Mj _ (Dy ts l st xo xu N)
end
end Go.Proofs.YtajkkeikihhejaaGreat
namespace Go.Proofs.YtajkkeikihhejaaGreat.G
open ChangeShapes WideShapes ChangeAt RowKit Maps
open Pl
variable  {K α:Type}{enc:K->Value}{P:Program}{kt et:TypeId}{sz:Nat}{cl:α->List Value}
def FreeB(M:K->Option Value)(g:Nat):Prop:=∀k v,M k=some v->v.ownBlock≠some g
structure Stl(W:World)(M:K->Option Value)(w2:World)(M2:K->Option Value)(bL:Nat):Prop where
 size:W.heap.size<=w2.heap.size
 block:∀g,g<W.heap.size->g≠bL->FreeB M g->w2.heap[g]?=W.heap[g]?
 free:∀g,g<W.heap.size->FreeB M g->FreeB M2 g
theorem Stl.refl(W:af)(M:K->Option Value)(bL:Nat):Stl W M W M bL:=⟨Va _,fun _ _ _ _=>rfl,fun _ _ h=>h⟩
theorem Stl.trans{W w2 w3:af}{M M2 M3:K->Option Value}{bL:Nat}(h:Stl W M w2 M2 bL)(h2:Stl w2 M2 w3 M3 bL):Stl W M w3 M3 bL where
 size:=Vj h.size h2.size
 block g hg hb hf:=(h2.block g (U9 hg h.size) hb (h.free g hg hf)).trans (h.block g hg hb hf)
 free g hg hf:=h2.free g (U9 hg h.size) (h.free g hg hf)
theorem Stl.below{W w2:af}{M:K->Option Value}{bL:Nat}(hB:ae W w2):Stl W M w2 M bL:=⟨hB.size,fun g hg _ _=>hB.block g hg,fun _ _ h=>h⟩
structure Cel(w:World)(M:K->Option Value)(bL g o:Nat)(u:Value):Prop where
 cell:w.cell? ⟨g,o,none⟩=some u
 lt:g<w.heap.size
 free:FreeB M g
 ne:g≠bL
theorem Cel.stl{w w2:af}{M M2:K->Option Value}{bL g o:Nat}{u:Value}(h:Cel w M bL g o u)(hS:Stl w M w2 M2 bL):Cel w2 M2 bL g o u where
 cell:=(Vx (w:=w) (hS.block g h.lt h.ne h.free)).trans h.cell
 lt:=U9 h.lt hS.size
 free:=hS.free g h.lt h.free
 ne:=h.ne
theorem Jw{w w':af}{base:Nat}{e:TypeId}{size:Nat}{v:Value}{n:Nat}{xs:Q03}(h:w.ownsRow base e size v n xs)(hb:ae w w'):w'.ownsRow base e size v n xs:=by
 have hl:=fun g hg=>(h.lt g hg).2;refine⟨h.1,?_⟩;rcases h.2 with h0|⟨g,cap,cur,rfl,h1,h2,h3⟩
 ·exact .inl h0
 exact .inr ⟨g,cap,cur,rfl,h1,(hb.block g (hl g rfl)).trans h2,h3⟩
variable  [DecidableEq K]
def flatG(cl:α->List Value)(xs:List α):List Value:=xs.flatMap cl
theorem Jy(cl:α->List Value)(xs:List α)(x:α):flatG cl (xs++[x])=flatG cl xs++cl x:=by simp[flatG]
def lookL(E:List (K×α))(k:K):List α:=E.filterMap fun p=>if p.1=k then some p.2 else none
theorem lookL_append(E F:List (K×α))(k:K):lookL (E++F) k=lookL E k++lookL F k:=by unfold lookL;rw[List.filterMap_append]
theorem uA(E:List (K×α))(k:K)(s:α):lookL (E++[(k,s)]) k=lookL E k++[s]:=by rw[lookL_append];simp[lookL]
theorem qQ(E:List (K×α)){k y:K}(s:α)(h:k≠y):lookL (E++[(y,s)]) k=lookL E k:=by rw[lookL_append];simp[lookL,Ne.symm h]
theorem mem_lookL{E:List (K×α)}{k:K}{s:α}:s∈lookL E k↔(k,s)∈E:=by
 unfold lookL;rw[List.mem_filterMap];constructor
 ·rintro⟨⟨a,b⟩,h1,h2⟩;simp only at h2;split at h2
  ·rename_i e;injection h2 with h2;rw[<-e,<-h2];exact h1
  cases h2
 intro h;exact⟨(k,s),h,by simp⟩
structure Grp(enc:K->Value)(P:Program)(kt et:TypeId)(sz:Nat)(cl:α->List Value)(w:World)(bL n:Nat)(M:K->Option Value)(E:List (K×α)):Prop where
 map:aM enc P kt w bL n M
 row:∀k,(M k=none/\lookL E k=[]) \/ ∃v,M k=some v/\w.ownsRow (bL+1) et sz v (lookL E k).length (flatG cl (lookL E k))
 apart:∀k k' v v',k≠k'->M k=some v->M k'=some v'->∀g,v.ownBlock=some g->v'.ownBlock≠some g
theorem Grp.lt{w:af}{bL n:Nat}{M:K->Option Value}{E:List (K×α)}(h:Grp enc P kt et sz cl w bL n M E){k:K}{v:Value}(hk:M k=some v){g:Nat}(hg:v.ownBlock=some g):bL<g/\g<w.heap.size:=by
 rcases h.row k with⟨e,-⟩|⟨v',e,ho⟩
 ·rw[e]at hk;cases hk
 rw[e]at hk;injection hk with hk;subst hk;have:=ho.lt g hg;exact⟨by omega,this.2⟩
theorem Grp.fresh{w:af}{bL n:Nat}{M:K->Option Value}{E:List (K×α)}(h:Grp enc P kt et sz cl w bL n M E){g:Nat}(hg:w.heap.size<=g):FreeB M g:=fun k v hk e=>by
 have:=(h.lt hk e).2;omega
theorem Grp.mono{w:af}{bL n n':Nat}{M:K->Option Value}{E:List (K×α)}(h:Grp enc P kt et sz cl w bL n M E)(hn:n<=n'):Grp enc P kt et sz cl w bL n' M E:=⟨h.map.mono hn,h.row,h.apart⟩
theorem Grp.below{w w':af}{bL n:Nat}{M:K->Option Value}{E:List (K×α)}(h:Grp enc P kt et sz cl w bL n M E)(hB:ae w w'):Grp enc P kt et sz cl w' bL n M E where
 map:=h.map.below hB
 row k:=by
  rcases h.row k with e|⟨v,e,ho⟩
  ·exact .inl e
  exact .inr ⟨v,e,Jw ho hB⟩
 apart:=h.apart
theorem grp_made(w:af):Grp enc P kt et sz cl (w.alloc (.map #[] 0)) w.heap.size 0 (fun _=>none) [] where
 map:=kr _ _ _ w
 row k:=.inl ⟨rfl,rfl⟩
 apart k k' v v' _ h:=by cases h
theorem Grp.step{W0 w1 w2 w3:af}{bL n:Nat}{M:K->Option Value}{E:List (K×α)}{y:K}{v':Value}{s:α}(h:Grp enc P kt et sz cl W0 bL n M E)(hg1:W0.grownBy w1 (some bL))(hown:w2.ownsRow (bL+1) et sz v' ((lookL E y).length+1) (flatG cl (lookL E y)++cl s))
  (hg2:w1.grownBy w2 ((M y).getD (.slice none 0 0)).ownBlock) (hloc:v'.ownBlock=((M y).getD (.slice none 0 0)).ownBlock\/v'.ownBlock=some w1.heap.size) (hg3:w2.grownBy w3 (some bL)) (hM:aM enc P kt w3 bL (n+1) (lX M y (some v'))) :
  Grp enc P kt et sz cl w3 bL (n+1) (lX M y (some v')) (E++[(y,s)])/\Stl W0 M w3 (lX M y (some v')) bL:=by
 have hrow0:∀k v,M k=some v->∃xs m,W0.ownsRow (bL+1) et sz v m xs:=fun k v hk=>by
  rcases h.row k with⟨e,-⟩|⟨v1,e,ho⟩
  ·rw[e]at hk;cases hk
  rw[e]at hk;injection hk with hk;subst hk;exact⟨_,_,ho⟩
 have hne2:∀k v,k≠y->M k=some v->v.ownBlock=none\/v.ownBlock≠((M y).getD (.slice none 0 0)).ownBlock:=fun k v hky hk=>by
  cases e:v.ownBlock with
  | none=>exact .inl rfl
  | some g =>
   right;cases ey:M y with
   | none=>simp[Value.ownBlock]
   | some vy=>intro e2;exact h.apart k y v vy hky hk ey g e (by simpa using e2.symm)
 have hnb:∀v,(∃k,M k=some v)->v.ownBlock=none\/v.ownBlock≠some bL:=fun v ⟨k,hk⟩=>by
  cases e:v.ownBlock with
  | none=>exact .inl rfl
  | some g=>right;have:=(h.lt hk e).1;intro e2;injection e2 with e2;omega
 have hnew:∀g,v'.ownBlock=some g->bL<g:=fun g e=>by have:=(hown.lt g e).1;omega
 have hv'b:v'.ownBlock=none\/v'.ownBlock≠some bL:=by
  cases e:v'.ownBlock with
  | none=>exact .inl rfl
  | some g=>right;have:=hnew g e;intro e2;injection e2 with e2;omega
 constructor
 ·refine⟨hM,fun k=>?_,fun k k' v u hkk hk hk' g e=>?_⟩
  ·by_cases ek:k=y
   ·subst ek;rw[ed,uA];refine .inr ⟨v',rfl,?_⟩;rw[Jy,Vh];exact hown.kept hg3 hv'b
   rw[dm ek,qQ _ _ ek];rcases h.row k with e|⟨v,e,ho⟩
   ·exact .inl e
   exact .inr ⟨v,e,((ho.kept hg1 (hnb v ⟨k,e⟩)).kept hg2 (hne2 k v ek e)).kept hg3 (hnb v ⟨k,e⟩)⟩
  by_cases ek:k=y
  ·subst ek;rw[ed]at hk;injection hk with hk;subst hk;rw[dm (Ne.symm hkk)]at hk';intro e2;rcases hloc with el|el
   ·rw[e]at el;cases ey:M k with
    | none=>rw[ey]at el;simp[Value.ownBlock]at el
    | some vy=>rw[ey]at el;exact h.apart k k' vy u hkk ey hk' g (by simpa using el.symm) e2
   rw[e]at el;injection el with el;have:=(h.lt hk' e2).2;have:=hg1.size;omega
  rw[dm ek]at hk;by_cases ek':k'=y
  ·subst ek';rw[ed]at hk';injection hk' with hk';subst hk';intro e2;rcases hloc with el|el
   ·rw[e2]at el;cases ey:M k' with
    | none=>rw[ey]at el;simp[Value.ownBlock]at el
    | some vy=>rw[ey]at el;exact h.apart k k' v vy hkk hk ey g e (by simpa using el.symm)
   rw[e2]at el;injection el with el;have:=(h.lt hk e).2;have:=hg1.size;omega
  rw[dm ek']at hk';exact h.apart k k' v u hkk hk hk' g e
 refine⟨Vj hg1.size (Vj hg2.size hg3.size),fun g hg hb hf=>?_,fun g hg hf k v hk=>?_⟩
 ·have h1:=hg1.block g hg (fun e=>hb (by injection e));have h2:=hg2.block g (U9 hg hg1.size) (fun e=>by
   cases ey:M y with
   | none=>rw[ey]at e;simp[Value.ownBlock]at e
   | some vy=>rw[ey]at e;exact hf y vy ey (by simpa using e.symm))
  have h3:=hg3.block g (U9 hg (Vj hg1.size hg2.size)) (fun e=>hb (by injection e));rw[h3,h2,h1]
 by_cases ek:k=y
 ·subst ek;rw[ed]at hk;injection hk with hk;subst hk;intro e2;rcases hloc with el|el
  ·rw[e2]at el;cases ey:M k with
   | none=>rw[ey]at el;simp[Value.ownBlock]at el
   | some vy=>rw[ey]at el;exact hf k vy ey (by simpa using el.symm)
  rw[e2]at el;injection el with el;have:=hg1.size;omega
 rw[dm ek]at hk;exact hf k v hk
end Go.Proofs.YtajkkeikihhejaaGreat.G
namespace Go.Proofs.YtajkkeikihhejaaGreat
open RowKit
section
variable  {P:Program}{ops:Array Oper}{Q:Exit->Act->World->Prop}
theorem qi{id:Nat}{a:Act}{w:af}(L:Nat)(f0:Nat->Value)(F:(Nat->Value)->Act)(I:(Nat->Bool)->(Nat->Value)->World->Prop)
  (hm:P.follows .mixedOrders=true) (hsz:ops.size=L+1) (Xr:Ap ops=true) (hlo:zI ops L=true)
  (h0:a=F f0) (hI0:I (fun _=>false) f0 w.drew)
  (hstep:∀ i,i<L->∀ o,ops[i]?=some o->∀ (l:Nat->Bool) f w',l i=false->I l f w'->(∀ e∈o.after,Region.binds .any e=true->l e.on=true) ->
   wpOp P ops Q i (fun a' w''=>∃v,a'=F (upd f i v)/\I (fun k=>if k=i then true else l k) (upd f i v) w'') (F f) w')
  (hfin:∀o,ops[L]?=some o->∀(l:Nat->Bool) f w',(∀k,k<L->l k=true)->I l f w'->wpOp P ops Q L (fun a' w''=>Q .normal a' w'') (F f) w') :
  (Code.region id ops true).wp P Q a w:=by
 refine ig (fun listed a' w'=>listed.size=L+1/\((listed.getD L false=false/\∃f,a'=F f/\I (fun k=>listed.getD k false) f w')\/((∀j,j<=L->listed.getD j true=true)/\Q .normal a' w'))) hm ?_ ?_ ?_
 ·refine⟨by simpa using hsz,Or.inl ⟨?_,_,h0,?_⟩⟩
  ·rw[Vy,VR];split<;>rfl
  have:(fun k=>(Array.replicate ops.size false).getD k false)=fun _=>false:=funext fun k=>by rw[Vy,VR];split<;>rfl
  rw[this];exact hI0
 ·rintro listed a' w' ⟨hs,h⟩ i hi;obtain⟨hl,o,ho,hpre⟩:=mem_ready.1 hi;have hiL:i<L+1:=by have:=(Vi.1 ho).1;omega
  rcases h with⟨hn,f,rfl,hI⟩|⟨hall,-⟩
  ·by_cases e:i=L
   ·subst e;have hall:∀k,k<i->listed.getD k false=true:=fun k hk=>by
     obtain⟨e,he,rfl,hb⟩:=CY hlo o ho k hk;exact hpre e he hb
    refine wpOp_mono (fun a'' w'' hq=>⟨by simpa using hs,Or.inr ⟨fun j hj=>?_,hq⟩⟩) (hfin o ho _ f w' hall hI);rw[kK (by simp;omega),aV _ _ _ (by omega)];by_cases e:j=i
    ·simp[e]
    rw[if_neg e];exact hall j (by omega)
   refine wpOp_mono ?_ (hstep i (by omega) o ho _ f w' (by rw[<-kK (by omega)];exact hl) hI (fun e he hb=>hpre e he hb));rintro a'' w'' ⟨v,rfl,hI'⟩;refine⟨by simpa using hs,Or.inl ⟨?_,_,rfl,?_⟩⟩
   ·rw[aV _ _ _ (by omega),if_neg (Ne.symm e)];exact hn
   have:(fun k=>(listed.setIfInBounds i true).getD k false)=fun k=>if k=i then true else listed.getD k false:=funext fun k=>aV _ _ _ (by omega)
   rw[this];exact hI'
  rw[hall i (by omega)]at hl;cases hl
 rintro listed a' w' ⟨hs,h⟩ hr;rcases h with⟨hn,-⟩|⟨-,hq⟩
 ·have:=qI hr hsz (rU Xr) hs L (by omega);rw[kK (by omega)]at this;rw[this]at hn;cases hn
 exact hq
end
end Go.Proofs.YtajkkeikihhejaaGreat
namespace Go.Proofs.YtajkkeikihhejaaGreat.G
set_option linter.unusedVariables false
open ChangeShapes WideShapes ChangeAt RowKit Maps
open Pl
def Back{K:Type}[DecidableEq K](enc:K->Value)(P:Program)(kt t:TypeId)(bp n:Nat)(M:K->Option Value)(y:K)(st:Nat)(w:World):Prop :=
 ∀(w2:World) (val:Value),w2.heap[bp]?=w.heap[bp]?→∃w3,(Instr.entryStore t (.map (some bp)) (goInt st) val).run P w2=.ok () w3/\aM enc P kt w3 bp (n+1) (lX M y (some val))/\w2.grownBy w3 (some bp)
def put(l:Nat->Bool)(i:Nat):Nat->Bool:=fun k=>if k=i then true else l k
structure EA(C:Nat->Value)(NEW:Array Value)(et:TypeId)(W:World)(l:Nat->Bool)(f:Nat->Value)(w:World):Prop where
 late:∀k,7<=k->k<=10->l k=false
 bel:ae W w
 val:∀k,k<=5->l k=true->f k=C k
 row:l 6=true->∃g,f 6=.slice (some ⟨g,0,none⟩) 1 1/\W.heap.size<=g/\w.heap[g]?=some (.cells NEW et (0,0))
structure EB(C:Nat->Value)(NEW:Array Value)(et:TypeId)(W:World)(bp:Nat)(row0:Value)(BK:Nat->World->Prop)(l:Nat->Bool)(f:Nat->Value)(w:World):Prop where
 low:∀k,k<=7->l k=true
 l9:l 9=false
 val:∀k,k<=5->f k=C k
 mid:∃(W0:World) (st g:Nat),ae W W0/\f 6=.slice (some ⟨g,0,none⟩) 1 1/\W.heap.size<=g/\W0.heap[g]?=some (.cells NEW et (0,0))/\W0.grownBy w (some bp)/\f 7=.tuple #[row0,goInt st]/\BK st w/\(l 8=true->f 8=row0)/\(l 10=true->f 10=goInt st)
structure EC(C:Nat->Value)(NEW:Array Value)(et:TypeId)(sz:Nat)(W:World)(bp:Nat)(row0:Value)(nn:Nat)(xs:Q03)(BK:Nat->World->Prop)(l:Nat->Bool)(f:Nat->Value)(w:World):Prop where
 low:∀k,k<=9->l k=true
 val:∀k,k<=5->f k=C k
 mid:∃(W0 w1:World) (st:Nat),ae W W0/\W0.grownBy w1 (some bp)/\w1.grownBy w row0.ownBlock/\w.ownsRow (bp+1) et sz (f 9) (nn+1) (xs++NEW.toList)/\((f 9).ownBlock=row0.ownBlock\/(f 9).ownBlock=some w1.heap.size)/\BK st w1/\f 7=.tuple #[row0,goInt st]/\(l 10=true->f 10=goInt st)
def EI(C:Nat->Value)(NEW:Array Value)(et:TypeId)(sz:Nat)(W:World)(bp:Nat)(row0:Value)(nn:Nat)(xs:Q03)(BK:Nat->World->Prop)(l:Nat->Bool)(f:Nat->Value)(w:World):Prop :=
 EA C NEW et W l f w\/EB C NEW et W bp row0 BK l f w\/EC C NEW et sz W bp row0 nn xs BK l f w
section
variable  {C:Nat->Value}{NEW:Array Value}{et:TypeId}{sz:Nat}{W:World}{bp:Nat}{row0:Value}{nn:Nat}{xs:Q03}{BK:Nat->World->Prop}{l:Nat->Bool}{f:Nat->Value}{w:World}
theorem ei_start(W:af):EI C NEW et sz W bp row0 nn xs BK (fun _=>false) f W.drew:=.inl ⟨fun _ _ _=>rfl,(Vb _ _).drew,fun _ _ h=>(by cases h),fun h=>(by cases h)⟩
theorem EI.early(h:EI C NEW et sz W bp row0 nn xs BK l f w){i:Nat}(hi:i<=7)(hl:l i=false):EA C NEW et W l f w:=by
 rcases h with h|h|h
 ·exact h
 ·rw[h.low i hi]at hl;cases hl
 rw[h.low i (by omega)]at hl;cases hl
theorem EA.put{i:Nat}(h:EA C NEW et W l f w)(hi:i<=5){v:Value}(hv:v=C i):EI C NEW et sz W bp row0 nn xs BK (fun k=>if k=i then true else l k) (upd f i v) w:=by
 refine .inl ⟨fun k h7 h10=>?_,h.bel,fun k hk hl=>?_,fun hl=>?_⟩
 ·show(if _=_ then true else _)=_;rw[if_neg (by omega)];exact h.late k h7 h10
 ·by_cases e:k=i
  ·subst e;simp[upd,hv]
  simp only[if_neg e]at hl;simp only[upd,if_neg e];exact h.val k hk hl
 replace hl:(if _=_ then true else _)=true:=hl;rw[if_neg (by omega)]at hl;simp only[upd];rw[if_neg (by omega)];exact h.row hl
theorem EA.lay(h:EA C NEW et W l f w):EI C NEW et sz W bp row0 nn xs BK (fun k=>if k=6 then true else l k) (upd f 6 (.slice (some ⟨w.heap.size,0,none⟩) 1 1)) (w.alloc (.cells NEW et)):=by
 refine .inl ⟨fun k h7 h10=>?_,h.bel.alloc h.bel.size _,fun k hk hl=>?_,fun _=>⟨w.heap.size,by simp[upd],h.bel.size,heap_alloc_new w _⟩⟩
 ·show(if _=_ then true else _)=_;rw[if_neg (by omega)];exact h.late k h7 h10
 replace hl:(if _=_ then true else _)=true:=hl;rw[if_neg (by omega)]at hl;simp only[upd];rw[if_neg (by omega)];exact h.val k hk hl
theorem EA.took(h:EA C NEW et W l f w)(hall:∀k,k<=6->l k=true){st:Nat}{w1:af}(hg:w.grownBy w1 (some bp))(hb:BK st w1):EI C NEW et sz W bp row0 nn xs BK (fun k=>if k=7 then true else l k) (upd f 7 (.tuple #[row0,goInt st])) w1:=by
 obtain⟨g,e6,hg6,hc⟩:=h.row (hall 6 (by omega));refine .inr (.inl ⟨fun k hk=>?_,?_,fun k hk=>?_,w,st,g,h.bel,?_,hg6,hc,hg,?_,hb,fun h8=>?_,fun h10=>?_⟩)
 ·by_cases e:k=7
  ·simp[e]
  simp only[if_neg e];exact hall k (by omega)
 ·show(if (9:Nat)=7 then true else l 9)=false;rw[if_neg (by omega)];exact h.late 9 (by omega) (by omega)
 ·simp only[upd];rw[if_neg (by omega)];exact h.val k hk (hall k (by omega))
 ·simp only[upd];rw[if_neg (by omega)];exact e6
 ·simp[upd]
 ·have:(if (8:Nat)=7 then true else l 8)=true:=h8;rw[if_neg (by omega),h.late 8 (by omega) (by omega)]at this;cases this
 have:(if (10:Nat)=7 then true else l 10)=true:=h10;rw[if_neg (by omega),h.late 10 (by omega) (by omega)]at this;cases this
theorem EI.midB(h:EI C NEW et sz W bp row0 nn xs BK l f w)(h7:l 7=true){i:Nat}(hi:i<=9)(hl:l i=false):EB C NEW et W bp row0 BK l f w:=by
 rcases h with h|h|h
 ·rw[h.late 7 (by omega) (by omega)]at h7;cases h7
 ·exact h
 rw[h.low i hi]at hl;cases hl
theorem EI.seven(h:EI C NEW et sz W bp row0 nn xs BK l f w)(h7:l 7=true):∃st:Nat,f 7=.tuple #[row0,goInt st]:=by
 rcases h with h|h|h
 ·rw[h.late 7 (by omega) (by omega)]at h7;cases h7
 ·obtain⟨_,st,_,_,_,_,_,_,e,_⟩:=h.mid;exact⟨st,e⟩
 obtain⟨_,_,st,_,_,_,_,_,_,e,_⟩:=h.mid;exact⟨st,e⟩
theorem EB.first(h:EB C NEW et W bp row0 BK l f w):EI C NEW et sz W bp row0 nn xs BK (fun k=>if k=8 then true else l k) (upd f 8 row0) w:=by
 obtain⟨W0,st,g,h1,h2,h3,h4,h5,h6,h7,h8,h9⟩:=h.mid;refine .inr (.inl ⟨fun k hk=>?_,?_,fun k hk=>?_,W0,st,g,h1,?_,h3,h4,h5,?_,h7,fun _=>?_,fun h10=>?_⟩)
 ·show(if _=_ then true else _)=_;rw[if_neg (by omega)];exact h.low k hk
 ·show(if (9:Nat)=8 then true else l 9)=false;rw[if_neg (by omega)];exact h.l9
 ·simp only[upd];rw[if_neg (by omega)];exact h.val k hk
 ·simp only[upd];rw[if_neg (by omega)];exact h2
 ·simp only[upd];rw[if_neg (by omega)];exact h6
 ·simp[upd]
 have h10':(if (10:Nat)=8 then true else l 10)=true:=h10;rw[if_neg (by omega)]at h10';simp only[upd];rw[if_neg (by omega)];exact h9 h10'
theorem EI.second(h:EI C NEW et sz W bp row0 nn xs BK l f w)(h7:l 7=true){st:Nat}(e:f 7=.tuple #[row0,goInt st]):EI C NEW et sz W bp row0 nn xs BK (fun k=>if k=10 then true else l k) (upd f 10 (goInt st)) w:=by
 have same:∀st':Nat,.tuple #[row0,goInt st']=Value.tuple #[row0,goInt st]->goInt st'=goInt st:=fun st' e=>by
  injection e with e;have:=congrArg Array.toList e;simp only[List.cons.injEq]at this;exact this.2.1
 rcases h with h|h|h
 ·rw[h.late 7 (by omega) (by omega)]at h7;cases h7
 ·obtain⟨W0,st',g,h1,h2,h3,h4,h5,h6,hb,h8,h9⟩:=h.mid;have es:=same st' (h6.symm.trans e);refine .inr (.inl ⟨fun k hk=>?_,?_,fun k hk=>?_,W0,st',g,h1,?_,h3,h4,h5,?_,hb,fun h8'=>?_,fun _=>?_⟩)
  ·show(if _=_ then true else _)=_;rw[if_neg (by omega)];exact h.low k hk
  ·show(if (9:Nat)=10 then true else l 9)=false;rw[if_neg (by omega)];exact h.l9
  ·simp only[upd];rw[if_neg (by omega)];exact h.val k hk
  ·simp only[upd];rw[if_neg (by omega)];exact h2
  ·simp only[upd];rw[if_neg (by omega)];exact h6
  ·have h8'':(if (8:Nat)=10 then true else l 8)=true:=h8';rw[if_neg (by omega)]at h8'';simp only[upd];rw[if_neg (by omega)];exact h8 h8''
  simp[upd,es]
 obtain⟨W0,w1,st',h1,h2,h3,h4,h5,hb,h6,h9⟩:=h.mid;have es:=same st' (h6.symm.trans e);refine .inr (.inr ⟨fun k hk=>?_,fun k hk=>?_,W0,w1,st',h1,h2,h3,?_,?_,hb,?_,fun _=>?_⟩)
 ·show(if _=_ then true else _)=_;rw[if_neg (by omega)];exact h.low k hk
 ·simp only[upd];rw[if_neg (by omega)];exact h.val k hk
 ·simp only[upd];rw[if_neg (by omega)];exact h4
 ·simp only[upd];rw[if_neg (by omega)];exact h5
 ·simp only[upd];rw[if_neg (by omega)];exact h6
 simp[upd,es]
theorem EB.app(h:EB C NEW et W bp row0 BK l f w)(h8:l 8=true){v':Value}{w':af}(hg:w.grownBy w' row0.ownBlock)(ho:w'.ownsRow (bp+1) et sz v' (nn+1) (xs++NEW.toList))(hloc:v'.ownBlock=row0.ownBlock\/v'.ownBlock=some w.heap.size):EI C NEW et sz W bp row0 nn xs BK (fun k=>if k=9 then true else l k) (upd f 9 v') w':=by
 obtain⟨W0,st,g,h1,h2,h3,h4,h5,h6,hb,_,h9⟩:=h.mid;refine .inr (.inr ⟨fun k hk=>?_,fun k hk=>?_,W0,w,st,h1,h5,hg,?_,?_,hb,?_,fun h10=>?_⟩)
 ·by_cases e:k=9
  ·simp[e]
  by_cases e8:k=8
  ·simp only[if_neg e];rw[e8];exact h8
  simp only[if_neg e];exact h.low k (by omega)
 ·simp only[upd];rw[if_neg (by omega)];exact h.val k hk
 ·simp only[upd,if_true];exact ho
 ·simp only[upd,if_true];exact hloc
 ·simp only[upd];rw[if_neg (by omega)];exact h6
 have h10':(if (10:Nat)=9 then true else l 10)=true:=h10;rw[if_neg (by omega)]at h10';simp only[upd];rw[if_neg (by omega)];exact h9 h10'
theorem EI.last(h:EI C NEW et sz W bp row0 nn xs BK l f w)(hall:∀k,k<11->l k=true):EC C NEW et sz W bp row0 nn xs BK l f w:=by
 rcases h with h|h|h
 ·have:=hall 7 (by omega);rw[h.late 7 (by omega) (by omega)]at this;cases this
 ·have:=hall 9 (by omega);rw[h.l9]at this;cases this
 exact h
end
end Go.Proofs.YtajkkeikihhejaaGreat.G
namespace Go.Proofs.YtajkkeikihhejaaGreat
open ChangeShapes WideShapes ChangeAt RowKit Maps
abbrev K3:=ByteArray×ByteArray×ByteArray
def qR(k:K3):Value:=.agg #[.string k.1,.string k.2.1,.string k.2.2]
theorem O5(x y:K3)(h:qR x=qR y):x=y:=by
 unfold qR at h;injection h with h;have h1:=congrArg Array.toList h;simp at h1;exact Prod.ext h1.1 (Prod.ext h1.2.1 h1.2.2)
theorem UG:(223:TypeId)<prog.types.size:=of_decide_eq_true (by kernel_rfl)
theorem TE:(match prog.underlying 223 with|some (.array _ _)|some (.struct _)=>true|_=>false)=true:=by rw[underlying223]
set_option maxRecDepth 100000 in
theorem O6:WideMaps.KeyLaw prog 223:=deep_law_laid z8 (m:=3) (by omega) UG (by kernel_rfl) TE
theorem Lb:Keyed prog 223:=Keyed.of_law O6
theorem TF:prog.keyType 223=true:=by kernel_rfl
theorem Lc:prog.cellsOf 223=3:=by kernel_rfl
theorem Mk:prog.cellsOf 27=2:=by kernel_rfl
theorem Ml:2<=prog.types.size:=of_decide_eq_true (by kernel_rfl)
theorem AJ:∃n,prog.types.size=n+2:=⟨prog.types.size-2,by have:=Ml;omega⟩
set_option maxRecDepth 100000 in
theorem vS(k:K3)(h0:k.1.size<=maxLen)(h1:k.2.1.size<=maxLen)(h2:k.2.2.size<=maxLen):∃kl,keyOf prog 223 (qR k)=some kl:=by
 obtain⟨n,hn⟩:=AJ;refine⟨.string (keyBytes [.string k.1.data.toList,.string k.2.1.data.toList,.string k.2.2.data.toList]),?_⟩;unfold keyOf;rw[underlying223];simp only[TF,qR,Value.formed,underlying223,Lc,hn,Value.cells];simp +decide [Program.keyLits,underlying223,underlying27,underlying9,Lc,Mk,strCells,h0,h1,h2]
abbrev KL:=ByteArray×Int
def GK(k:KL):Value:=.agg #[.string k.1,.int .i64 k.2]
theorem O7(x y:KL)(h:GK x=GK y):x=y:=by
 unfold GK at h;injection h with h;have h1:=congrArg Array.toList h;simp at h1;exact Prod.ext h1.1 h1.2
theorem UH:(172:TypeId)<prog.types.size:=of_decide_eq_true (by kernel_rfl)
theorem TG:(match prog.underlying 172 with|some (.array _ _)|some (.struct _)=>true|_=>false)=true:=by rw[underlying172]
set_option maxRecDepth 100000 in
theorem O8:WideMaps.KeyLaw prog 172:=deep_law_laid z8 (m:=2) (by omega) UH (by kernel_rfl) TG
theorem UI:Keyed prog 172:=Keyed.of_law O8
theorem TH:prog.keyType 172=true:=by kernel_rfl
theorem Ld:prog.cellsOf 172=2:=by kernel_rfl
theorem O9:prog.cellsOf 2=1:=by kernel_rfl
set_option maxRecDepth 100000 in
theorem Le(k:KL)(h0:k.1.size<=maxLen)(h1:0<=k.2)(h2:k.2<=1000000):∃kl,keyOf prog 172 (GK k)=some kl:=by
 have hw:(Lit.int .i64 k.2).wf=true:=WalkArith.wf_i64 ⟨by omega,by omega⟩;obtain⟨n,hn⟩:=AJ;refine⟨.string (keyBytes [.string k.1.data.toList,.int .i64 k.2]),?_⟩;unfold keyOf;rw[underlying172];simp only[TH,GK,Value.formed,underlying172,Ld,hn,Value.cells];simp +decide [Program.keyLits,underlying172,underlying2,underlying9,Ld,O9,strCells,h0,hw]
section
variable  {P:Program}{ops:Array Oper}{Q:Exit->Act->World->Prop}
theorem kv{id:Nat}{a:Act}{w:af}(L:Nat)(f0:Nat->Value)(F:(Nat->Value)->Act)(I:(Nat->Bool)->(Nat->Value)->World->Prop)
  (hm:P.follows .mixedOrders=true) (hsz:ops.size=L+1) (Xr:Ap ops=true)
  (hcl:∀o,ops[L]?=some o->∀(l:Nat->Bool) f w',I l f w'->(∀e∈o.after,Region.binds .any e=true->l e.on=true)->∀k,k<L->l k=true)
  (h0:a=F f0) (hI0:I (fun _=>false) f0 w.drew)
  (hstep:∀ i,i<L->∀ o,ops[i]?=some o->∀ (l:Nat->Bool) f w',l i=false->I l f w'->(∀ e∈o.after,Region.binds .any e=true->l e.on=true) ->
   wpOp P ops Q i (fun a' w''=>∃v,a'=F (upd f i v)/\I (fun k=>if k=i then true else l k) (upd f i v) w'') (F f) w')
  (hfin:∀o,ops[L]?=some o->∀(l:Nat->Bool) f w',(∀k,k<L->l k=true)->I l f w'->wpOp P ops Q L (fun a' w''=>Q .normal a' w'') (F f) w') :
  (Code.region id ops true).wp P Q a w:=by
 refine ig (fun listed a' w'=>listed.size=L+1/\((listed.getD L false=false/\∃f,a'=F f/\I (fun k=>listed.getD k false) f w')\/((∀j,j<=L->listed.getD j true=true)/\Q .normal a' w'))) hm ?_ ?_ ?_
 ·refine⟨by simpa using hsz,Or.inl ⟨?_,_,h0,?_⟩⟩
  ·rw[Vy,VR];split<;>rfl
  have:(fun k=>(Array.replicate ops.size false).getD k false)=fun _=>false:=funext fun k=>by rw[Vy,VR];split<;>rfl
  rw[this];exact hI0
 ·rintro listed a' w' ⟨hs,h⟩ i hi;obtain⟨hl,o,ho,hpre⟩:=mem_ready.1 hi;have hiL:i<L+1:=by have:=(Vi.1 ho).1;omega
  rcases h with⟨hn,f,rfl,hI⟩|⟨hall,-⟩
  ·by_cases e:i=L
   ·subst e;have hall:∀k,k<i->listed.getD k false=true:=hcl o ho _ f w' hI (fun e he hb=>hpre e he hb);refine wpOp_mono (fun a'' w'' hq=>⟨by simpa using hs,Or.inr ⟨fun j hj=>?_,hq⟩⟩) (hfin o ho _ f w' hall hI);rw[kK (by simp;omega),aV _ _ _ (by omega)];by_cases e:j=i
    ·simp[e]
    rw[if_neg e];exact hall j (by omega)
   refine wpOp_mono ?_ (hstep i (by omega) o ho _ f w' (by rw[<-kK (by omega)];exact hl) hI (fun e he hb=>hpre e he hb));rintro a'' w'' ⟨v,rfl,hI'⟩;refine⟨by simpa using hs,Or.inl ⟨?_,_,rfl,?_⟩⟩
   ·rw[aV _ _ _ (by omega),if_neg (Ne.symm e)];exact hn
   have:(fun k=>(listed.setIfInBounds i true).getD k false)=fun k=>if k=i then true else listed.getD k false:=funext fun k=>aV _ _ _ (by omega)
   rw[this];exact hI'
  rw[hall i (by omega)]at hl;cases hl
 rintro listed a' w' ⟨hs,h⟩ hr;rcases h with⟨hn,-⟩|⟨-,hq⟩
 ·have:=qI hr hsz (rU Xr) hs L (by omega);rw[kK (by omega)]at this;rw[this]at hn;cases hn
 exact hq
end
end Go.Proofs.YtajkkeikihhejaaGreat
namespace Go.Proofs.YtajkkeikihhejaaGreat.G
set_option linter.unusedVariables false
open ChangeShapes WideShapes ChangeAt RowKit
structure WI(C:Nat->Value)(W:World)(CD:Value->World->Prop)(l:Nat->Bool)(f:Nat->Value)(w:World):Prop where
 val:∀k,k<=9->k≠7->l k=true->f k=C k
 seq:l 7=true->l 4=true/\l 6=true
 nin:l 9=true->l 8=true
 mid:(l 7=false/\ae W w)\/(l 7=true/\CD (f 7) w)
section
variable  {C:Nat->Value}{W:World}{CD:Value->World->Prop}{l:Nat->Bool}{f:Nat->Value}{w:World}
theorem wi_start(W:af):WI C W CD (fun _=>false) f W.drew:=⟨fun _ _ _ h=>(by cases h),fun h=>(by cases h),fun h=>(by cases h),.inl ⟨rfl,(Vb _ _).drew⟩⟩
theorem WI.put(h:WI C W CD l f w){i:Nat}(hi:i≠7)(h9:i=9->l 8=true){v:Value}(hv:v=C i):WI C W CD (fun k=>if k=i then true else l k) (upd f i v) w:=by
 refine⟨fun k hk h7 hl=>?_,fun hl=>?_,fun hl=>?_,?_⟩
 ·by_cases e:k=i
  ·subst e;simp[upd,hv]
  simp only[if_neg e]at hl;simp only[upd,if_neg e];exact h.val k hk h7 hl
 ·have hl':(if (7:Nat)=i then true else l 7)=true:=hl;rw[if_neg (Ne.symm hi)]at hl';have:=h.seq hl';constructor
  ·show(if (4:Nat)=i then true else l 4)=true;rw[this.1];split<;>rfl
  show(if (6:Nat)=i then true else l 6)=true;rw[this.2];split<;>rfl
 ·have hl':(if (9:Nat)=i then true else l 9)=true:=hl;show(if (8:Nat)=i then true else l 8)=true;by_cases e:(9:Nat)=i
  ·rw[h9 e.symm];split<;>rfl
  rw[if_neg e]at hl';rw[h.nin hl'];split<;>rfl
 have e7:(if (7:Nat)=i then true else l 7)=l 7:=if_neg (Ne.symm hi);have f7:upd f i v 7=f 7:=by simp only[upd];rw[if_neg (Ne.symm hi)]
 rcases h.mid with⟨h1,h2⟩|⟨h1,h2⟩
 ·exact .inl ⟨e7.trans h1,h2⟩
 exact .inr ⟨e7.trans h1,by rw[f7];exact h2⟩
theorem WI.before(h:WI C W CD l f w)(hl:l 7=false):ae W w:=by
 rcases h.mid with⟨_,h2⟩|⟨h1,_⟩
 ·exact h2
 rw[h1]at hl;cases hl
theorem WI.early(h:WI C W CD l f w)(hl:l 4=false\/l 6=false):ae W w:=by
 refine h.before ?_;cases h7:l 7;case false=>rfl
 obtain⟨h4,h6⟩:=h.seq h7;rcases hl with e|e
 ·rw[h4]at e;cases e
 rw[h6]at e;cases e
theorem WI.call(h:WI C W CD l f w)(h4:l 4=true)(h6:l 6=true){v:Value}{w':af}(hc:CD v w'):WI C W CD (fun k=>if k=7 then true else l k) (upd f 7 v) w':=by
 refine⟨fun k hk h7 hl=>?_,fun _=>⟨by simp[h4],by simp[h6]⟩,fun hl=>h.nin hl,.inr ⟨by simp,by simp only[upd,if_true];exact hc⟩⟩;simp only[if_neg h7]at hl;simp only[upd,if_neg h7];exact h.val k hk h7 hl
theorem WI.last(h:WI C W CD l f w)(hall:∀k,k<10->l k=true):(∀k,k<=9->k≠7->f k=C k)/\CD (f 7) w:=by
 refine⟨fun k hk h7=>h.val k hk h7 (hall k (by omega)),?_⟩;rcases h.mid with⟨h1,_⟩|⟨_,h2⟩
 ·rw[hall 7 (by omega)]at h1;cases h1
 exact h2
end
end Go.Proofs.YtajkkeikihhejaaGreat.G
