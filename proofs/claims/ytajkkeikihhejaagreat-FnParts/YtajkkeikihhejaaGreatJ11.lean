/- Contracts of the law's helpers that copy a schema: each list lies in a block of its own. -/
import Derived.Test.YtajkkeikihhejaaGreatSq
import Derived.Test.YtajkkeikihhejaaGreatJ5
import Derived.Test.YtajkkeikihhejaaGreatJ6
import Derived.Test.YtajkkeikihhejaaGreatJ10
open Go.Proofs.Tryz
set_option maxHeartbeats 80000000
namespace Go.Proofs.YtajkkeikihhejaaGreat
open Go.ChangeShapes Go.WideShapes Go.ChangeAt Go.RowKit
open Pl
def qC (b:Nat)(w:World)(qs:List ER):Prop:=SepE b qs/\∀ q∈qs,∀ g,oM q g->b<g/\g<w.heap.size/\gY w g
theorem qC.nil (b:Nat)(w:af):qC b w []:=by
 refine ⟨⟨?_,?_,?_,?_,?_⟩,?_⟩
 ·intro r hr;cases hr
 ·intro r hr;cases hr
 ·intro r hr;cases hr
 ·intro r hr;cases hr
 ·intro x y hx;exact absurd hx (UI _)
 intro r hr;cases hr
theorem Kl {q:ER}{gA gK g:Nat}(hA:q.adA=some ⟨gA,0,none⟩)(hK:q.adK=some ⟨gK,0,none⟩)(h:oM q g):g=gA\/g=gK:=by
 rcases h with ⟨-,e⟩|⟨-,e⟩
 ·rw [hA]at e;injection e with e;injection e with e1 e2;exact .inl e1.symm
 rw [hK]at e;injection e with e;injection e with e1 e2;exact .inr e1.symm
theorem qC.snoc {S:Nat->Prop}{b:Nat}{wr wn:af}{qs:List ER}(h:qC b wr qs)(hc:Chg S wr wn)(hb:b<wr.heap.size){q:ER}{gA gK:Nat}(hA:q.adA=some ⟨gA,0,none⟩)(hK:q.adK=some ⟨gK,0,none⟩)(h1:wr.heap.size<=gA)(h2:gA<gK)(h3:gK<wn.heap.size)(fA:gY wn gA)(fK:gY wn gK):qC b wn (qs++[q]):=by
 have hq:∀ g,oM q g->wr.heap.size<=g:=fun g hg=>by rcases Kl hA hK hg with rfl|rfl <;> omega
 refine ⟨⟨?_,?_,?_,?_,?_⟩,?_⟩
 ·intro r hr;rw [Uq,Uo]at hr;rcases hr with hr|rfl
  ·exact h.1.zeroA r hr
  exact fun _=>⟨gA,hA⟩
 ·intro r hr;rw [Uq,Uo]at hr;rcases hr with hr|rfl
  ·exact h.1.zeroK r hr
  exact fun _=>⟨gK,hK⟩
 ·intro r hr;rw [Uq,Uo]at hr;rcases hr with hr|rfl
  ·exact h.1.head r hr
  intro hg;have:=hq b hg;omega
 ·intro r hr;rw [Uq,Uo]at hr;rcases hr with hr|rfl
  ·exact h.1.one r hr
  rintro g ⟨-,e1⟩ ⟨-,e2⟩;rw [hA]at e1;rw [hK]at e2;injection e1 with e1;injection e1 with e1 _;injection e2 with e2;injection e2 with e2 _;omega
 ·intro x y hx hy hne g hgx Wj;rw [Ul,List.length_singleton]at hx hy;by_cases ex:x<qs.length
  ·rw [Ux ex]at hgx;by_cases ey:y<qs.length
   ·rw [Ux ey]at Wj;exact h.1.two x y ex ey hne g hgx Wj
   rw [UD (by omega)]at Wj;have e1:=hq g (by simpa using Wj);have e2:=(h.2 _ (Ud ex) g hgx).2.1;omega
  rw [UD (by omega)]at hgx;have e1:=hq g (by simpa using hgx);have ey:y<qs.length:=by omega
  rw [Ux ey]at Wj;have e2:=(h.2 _ (Ud ey) g Wj).2.1;omega
 intro r hr g hg;rw [Uq,Uo]at hr;rcases hr with hr|rfl
 ·obtain ⟨a1,a2,a3⟩:=h.2 r hr g hg;exact ⟨a1,Uc a2 hc.size,hc.free g a2 a3⟩
 rcases Kl hA hK hg with rfl|rfl
 ·exact ⟨by omega,by omega,fA⟩
 exact ⟨by omega,by omega,fK⟩
theorem qC.chg {S:Nat->Prop}{b:Nat}{w w':af}{qs:List ER}(h:qC b w qs)(hc:Chg S w w'):qC b w' qs:=⟨h.1,fun q hq g hg=>⟨(h.2 q hq g hg).1,Uc (h.2 q hq g hg).2.1 hc.size,hc.free g (h.2 q hq g hg).2.1 (h.2 q hq g hg).2.2⟩⟩
def Km (m:Nat)(w:World)(r:RR):Prop:=Nu r/\∀ g,H7 r g->m<=g/\g<w.heap.size/\gY w g
theorem Km.chg {S:Nat->Prop}{m:Nat}{w w':af}{r:RR}(h:Km m w r)(hc:Chg S w w'):Km m w' r:=⟨h.1,fun g hg=>⟨(h.2 g hg).1,Uc (h.2 g hg).2.1 hc.size,hc.free g (h.2 g hg).2.1 (h.2 g hg).2.2⟩⟩
def FQ (b:Nat)(w:World)(qs:List RR):Prop:=SepR b qs/\∀ q∈qs,∀ g,H7 q g->b<g/\g<w.heap.size/\gY w g
theorem FQ.nil (b:Nat)(w:af):FQ b w []:=by
 refine ⟨⟨?_,?_,?_⟩,?_⟩
 ·intro r hr;cases hr
 ·intro r hr;cases hr
 ·intro x y hx;exact absurd hx (UI _)
 intro r hr;cases hr
theorem FQ.chg {S:Nat->Prop}{b:Nat}{w w':af}{qs:List RR}(h:FQ b w qs)(hc:Chg S w w'):FQ b w' qs:=⟨h.1,fun q hq g hg=>⟨(h.2 q hq g hg).1,Uc (h.2 q hq g hg).2.1 hc.size,hc.free g (h.2 q hq g hg).2.1 (h.2 q hq g hg).2.2⟩⟩
theorem FQ.snoc {S:Nat->Prop}{b:Nat}{wr wn:af}{qs:List RR}(h:FQ b wr qs)(hc:Chg S wr wn)(hb:b<wr.heap.size){q:RR}(hq:Km wr.heap.size wn q):FQ b wn (qs++[q]):=by
 refine ⟨⟨?_,?_,?_⟩,?_⟩
 ·intro r hr;rw [Uq,Uo]at hr;rcases hr with hr|rfl
  ·exact h.1.good r hr
  exact hq.1
 ·intro r hr;rw [Uq,Uo]at hr;rcases hr with hr|rfl
  ·exact h.1.head r hr
  intro hg;have:=(hq.2 b hg).1;omega
 ·intro x y hx hy hne g hgx Wj;rw [Ul,List.length_singleton]at hx hy;by_cases ex:x<qs.length
  ·rw [Ux ex]at hgx;by_cases ey:y<qs.length
   ·rw [Ux ey]at Wj;exact h.1.two x y ex ey hne g hgx Wj
   rw [UD (by omega)]at Wj;have e1:=(hq.2 g (by simpa using Wj)).1;have e2:=(h.2 _ (Ud ex) g hgx).2.1;omega
  rw [UD (by omega)]at hgx;have e1:=(hq.2 g (by simpa using hgx)).1;have ey:y<qs.length:=by omega
  rw [Ux ey]at Wj;have e2:=(h.2 _ (Ud ey) g Wj).2.1;omega
 intro r hr g hg;rw [Uq,Uo]at hr;rcases hr with hr|rfl
 ·obtain ⟨a1,a2,a3⟩:=h.2 r hr g hg;exact ⟨a1,Uc a2 hc.size,hc.free g a2 a3⟩
 obtain ⟨a1,a2,a3⟩:=hq.2 g hg;exact ⟨by omega,a2,a3⟩
def Kn (m:Nat)(w:World)(r:TR):Prop:=Nv r/\∀ g,KQ r g->m<=g/\g<w.heap.size/\gY w g
theorem Kn.chg {S:Nat->Prop}{m:Nat}{w w':af}{r:TR}(h:Kn m w r)(hc:Chg S w w'):Kn m w' r:=⟨h.1,fun g hg=>⟨(h.2 g hg).1,Uc (h.2 g hg).2.1 hc.size,hc.free g (h.2 g hg).2.1 (h.2 g hg).2.2⟩⟩
def FR (b:Nat)(w:World)(qs:List TR):Prop:=SepT b qs/\∀ q∈qs,∀ g,KQ q g->b<g/\g<w.heap.size/\gY w g
theorem FR.nil (b:Nat)(w:af):FR b w []:=by
 refine ⟨⟨?_,?_,?_⟩,?_⟩
 ·intro r hr;cases hr
 ·intro r hr;cases hr
 ·intro x y hx;exact absurd hx (UI _)
 intro r hr;cases hr
theorem FR.chg {S:Nat->Prop}{b:Nat}{w w':af}{qs:List TR}(h:FR b w qs)(hc:Chg S w w'):FR b w' qs:=⟨h.1,fun q hq g hg=>⟨(h.2 q hq g hg).1,Uc (h.2 q hq g hg).2.1 hc.size,hc.free g (h.2 q hq g hg).2.1 (h.2 q hq g hg).2.2⟩⟩
theorem FR.snoc {S:Nat->Prop}{b:Nat}{wr wn:af}{qs:List TR}(h:FR b wr qs)(hc:Chg S wr wn)(hb:b<wr.heap.size){q:TR}(hq:Kn wr.heap.size wn q):FR b wn (qs++[q]):=by
 refine ⟨⟨?_,?_,?_⟩,?_⟩
 ·intro r hr;rw [Uq,Uo]at hr;rcases hr with hr|rfl
  ·exact h.1.good r hr
  exact hq.1
 ·intro r hr;rw [Uq,Uo]at hr;rcases hr with hr|rfl
  ·exact h.1.head r hr
  intro hg;have:=(hq.2 b hg).1;omega
 ·intro x y hx hy hne g hgx Wj;rw [Ul,List.length_singleton]at hx hy;by_cases ex:x<qs.length
  ·rw [Ux ex]at hgx;by_cases ey:y<qs.length
   ·rw [Ux ey]at Wj;exact h.1.two x y ex ey hne g hgx Wj
   rw [UD (by omega)]at Wj;have e1:=(hq.2 g (by simpa using Wj)).1;have e2:=(h.2 _ (Ud ex) g hgx).2.1;omega
  rw [UD (by omega)]at hgx;have e1:=(hq.2 g (by simpa using hgx)).1;have ey:y<qs.length:=by omega
  rw [Ux ey]at Wj;have e2:=(h.2 _ (Ud ey) g Wj).2.1;omega
 intro r hr g hg;rw [Uq,Uo]at hr;rcases hr with hr|rfl
 ·obtain ⟨a1,a2,a3⟩:=h.2 r hr g hg;exact ⟨a1,Uc a2 hc.size,hc.free g a2 a3⟩
 obtain ⟨a1,a2,a3⟩:=hq.2 g hg;exact ⟨by omega,a2,a3⟩
open Go.Maps
theorem qC.add {S:Nat->Prop}{b:Nat}{wr wn:af}{qs:List ER}(h:qC b wr qs)(hc:Chg S wr wn)(hb:b<wr.heap.size){q:ER}(zA:q.e.allow≠[]->∃ g,q.adA=some ⟨g,0,none⟩)(zK:q.e.kids≠[]->∃ g,q.adK=some ⟨g,0,none⟩)(hone:∀ g,bA q g->¬ bK q g)(hq:∀ g,oM q g->wr.heap.size<=g/\g<wn.heap.size/\gY wn g):qC b wn (qs++[q]):=by
 refine ⟨⟨?_,?_,?_,?_,?_⟩,?_⟩
 ·intro r hr;rw [Uq,Uo]at hr;rcases hr with hr|rfl
  ·exact h.1.zeroA r hr
  exact zA
 ·intro r hr;rw [Uq,Uo]at hr;rcases hr with hr|rfl
  ·exact h.1.zeroK r hr
  exact zK
 ·intro r hr;rw [Uq,Uo]at hr;rcases hr with hr|rfl
  ·exact h.1.head r hr
  intro hg;have:=(hq b hg).1;omega
 ·intro r hr;rw [Uq,Uo]at hr;rcases hr with hr|rfl
  ·exact h.1.one r hr
  exact hone
 ·intro x y hx hy hne g hgx Wj;rw [Ul,List.length_singleton]at hx hy;by_cases ex:x<qs.length
  ·rw [Ux ex]at hgx;by_cases ey:y<qs.length
   ·rw [Ux ey]at Wj;exact h.1.two x y ex ey hne g hgx Wj
   rw [UD (by omega)]at Wj;have e1:=(hq g (by simpa using Wj)).1;have e2:=(h.2 _ (Ud ex) g hgx).2.1;omega
  rw [UD (by omega)]at hgx;have e1:=(hq g (by simpa using hgx)).1;have ey:y<qs.length:=by omega
  rw [Ux ey]at Wj;have e2:=(h.2 _ (Ud ey) g Wj).2.1;omega
 intro r hr g hg;rw [Uq,Uo]at hr;rcases hr with hr|rfl
 ·obtain ⟨a1,a2,a3⟩:=h.2 r hr g hg;exact ⟨a1,Uc a2 hc.size,hc.free g a2 a3⟩
 obtain ⟨a1,a2,a3⟩:=hq g hg;exact ⟨by omega,a2,a3⟩
theorem Oh (xs:List Al):∀ u∈pairs xs,u.oneCell'=true:=by
 intro u hu;unfold pairs at hu;rw [Ut]at hu;obtain ⟨a,-,h⟩:=hu;simp at h;rcases h with rfl|rfl <;> rfl
theorem QA (zs:List Int):∀ u∈ints zs,u.oneCell'=true:=by
 intro u hu;unfold ints at hu;rw [Ur]at hu;obtain ⟨a,-,rfl⟩:=hu;rfl
theorem RH {w:af}{base n:Nat}{v:Value}{xs:List Al}(h:w.ownsRow base 43 2 v n (pairs xs))(hn:n=xs.length):∃ ad cap,v=.slice ad xs.length cap/\jM w ad xs/\(xs≠[]->∃ g,ad=some ⟨g,0,none⟩)/\∀ g,xs≠[]->ad=some ⟨g,0,none⟩->base<=g/\g<w.heap.size/\gY w g:=by
 subst hn;have h2:=h;rcases h.2 with ⟨rfl,h0⟩|⟨g,cap,cur,rfl,hbg,hg,hnc,-⟩
 ·have hx:xs=[]:=Uu.1 h0;subst hx;exact ⟨none,0,rfl,.inl rfl,fun h=>absurd rfl h,fun _ h=>absurd rfl h⟩
 have hlt:=h2.lt g rfl;refine ⟨some ⟨g,0,none⟩,cap,rfl,.inr ⟨g,0,rfl,hlt.2,fun i hi=>?_⟩,fun _=>⟨g,rfl⟩,fun g' _ e=>?_⟩
 ·have hl:=lm xs;obtain ⟨p0,p1⟩:=nM xs i hi;refine ⟨?_,?_⟩
  ·rw [h2.cellAt (0+i*2) (by omega),Uz];exact p0
  rw [h2.cellAt (0+i*2+1) (by omega),Uz];exact p1
 injection e with e;injection e with e1 e2;subst e1;exact ⟨hlt.1,hlt.2,fun y=>h2.frozenAt y⟩
theorem RI {w:af}{base n:Nat}{v:Value}{zs:List Int}(h:w.ownsRow base 2 1 v n (ints zs))(hn:n=zs.length):∃ ad cap,v=.slice ad zs.length cap/\p8 w ad zs/\(zs≠[]->∃ g,ad=some ⟨g,0,none⟩)/\∀ g,zs≠[]->ad=some ⟨g,0,none⟩->base<=g/\g<w.heap.size/\gY w g:=by
 subst hn;have h2:=h;rcases h.2 with ⟨rfl,h0⟩|⟨g,cap,cur,rfl,hbg,hg,hnc,-⟩
 ·have hx:zs=[]:=Uu.1 h0;subst hx;exact ⟨none,0,rfl,.inl rfl,fun h=>absurd rfl h,fun _ h=>absurd rfl h⟩
 have hlt:=h2.lt g rfl;refine ⟨some ⟨g,0,none⟩,cap,rfl,.inr ⟨g,0,rfl,hlt.2,fun i hi=>?_⟩,fun _=>⟨g,rfl⟩,fun g' _ e=>?_⟩
 ·rw [h2.cellAt (0+i) (by omega),Uz];simp [ints,hi]
 injection e with e;injection e with e1 e2;subst e1;exact ⟨hlt.1,hlt.2,fun y=>h2.frozenAt y⟩
theorem l8 {ops:Array Oper}{rest:List Oper}{o:Oper}{a:Act}{Q:Exit->Act->World->Prop}(w:af)(hgd:o.guard=none)(s x:Operand)(t:TypeId)
  (ho:o.op=.call { callee:=.builtin .append,args:=#[s,x],argTypes:=#[t,t] })
  (e:TypeId) (i:TypeInfo) (z:Value) (size bytes:Nat) (ht:prog.underlying t=some (.slice e)) (hi:prog.info? e=some i) (hz:i.zero=some z)
  (hsize:i.size=size) (hby:i.bytes=bytes) (hzs:z.cells.size=size) (hsz:0<size)
  (hs:a.eval s=.slice none 0 0)
  (ad:Option Addr) (m c:Nat) (news:List Value) (hx:a.eval x=.slice ad m c) (hl:news.length=m*size) (hn0:ad=none->m=0) (hnews:∀ A,ad=some A->∀ j u,news[j]?=some u->w.cell? (A.add j)=some u) (h1:∀ u∈news,u.oneCell'=true)
  (h63:0+m<=maxLen) (hbytes:(0+m)*bytes<=140737488355328)
  (h:∀ v' w',w'.ownsRow w.heap.size e size v' (0+m) ([]++news)->w.grownBy w' (Value.ownBlock (.slice none 0 0))->wpList prog ops Q rest (a.put o.dst v') w'):wpList prog ops Q (o::rest) a w:=by
 cases ad;case some A=>exact wpList_append_own w hgd s x t ho w.heap.size e i z size bytes ht hi hz hsize hby hzs hsz (.slice none 0 0) 0 [] hs (World.ownsRow_nil _ _ _ _) A m c news hx hl (hnews A rfl) h1 h63 hbytes (Ue _) fun v' w' a b _=>h v' w' a b
 obtain rfl:=hn0 rfl;have hn:news=[]:=List.eq_nil_of_length_eq_zero (by simpa using hl);subst hn;refine wpList_plain hgd fun K hK=>?_;have hr:(Builtin.append_ #[t,t] o.type #[.slice none 0 0,.slice none 0 c]).run prog w=.ok (.slice none 0 0) w:=by
  simp [Builtin.append_,run_underlying ht,sizeOf,typeInfo,hi,Builtin.lenOf,Builtin.firstCells]
 unfold Oper.wp execOp;simp only [ho,resolve,invoke,builtin,Sem.run_bind,Sem.run_pure,Result.andThen_ok,List.map_toArray,List.map_cons,List.map_nil,hs,hx,hr];exact hK _ _ (h _ w (World.ownsRow_nil w _ e size) ⟨rfl,rfl,rfl,Ue _,fun _ _ _=>rfl⟩)
theorem Sw {w:af}{ad:Option Addr}{xs:List Al}(h:jM w ad xs):∀ A,ad=some A->∀ j u,(pairs xs)[j]?=some u->w.cell? (A.add j)=some u:=by
 intro A hA j u hu;subst hA;have hl:=lm xs;have hj:j<(pairs xs).length:=by
  rcases Nat.lt_or_ge j (pairs xs).length with h'|h'
  ·exact h'
  rw [List.getElem?_eq_none h']at hu;cases hu
 rcases h with rfl|⟨b,off,e,hb,hr⟩
 ·simp [pairs]at hj
 injection e with e;subst e;obtain ⟨i,hi⟩:∃ i,j=i*2\/j=i*2+1:=⟨j / 2,by omega⟩;rw [show (⟨b,off,none⟩:Addr).add j=⟨b,off+j,none⟩ by simp [Addr.add]];rcases hi with rfl|rfl
 ·rw [(nM xs i (by omega)).1]at hu;injection hu with hu;subst hu;exact (hr i (by omega)).1
 rw [(nM xs i (by omega)).2]at hu;injection hu with hu;subst hu;have:=(hr i (by omega)).2;rw [show off+i*2+1=off+(i*2+1) by omega]at this;exact this
theorem Sy {w:af}{ad:Option Addr}{zs:List Int}(h:p8 w ad zs):∀ A,ad=some A->∀ j u,(ints zs)[j]?=some u->w.cell? (A.add j)=some u:=by
 intro A hA j u hu;subst hA;have hj:j<(ints zs).length:=by
  rcases Nat.lt_or_ge j (ints zs).length with h'|h'
  ·exact h'
  rw [List.getElem?_eq_none h']at hu;cases hu
 rcases h with rfl|⟨b,off,e,hb,hr⟩
 ·simp [ints]at hj
 injection e with e;subst e;have hj2:j<zs.length:=by simpa [ints] using hj
 have:=hr j hj2;unfold ints at hu;rw [List.getElem?_map,Uj hj2]at hu;simp at hu;subst hu;rw [show (⟨b,off,none⟩:Addr).add j=⟨b,off+j,none⟩ by simp [Addr.add]];exact this
theorem jM.none0 {w:af}{ad:Option Addr}{xs:List Al}(h:jM w ad xs):ad=none->xs.length=0:=fun e=>by
 rcases h with rfl|⟨b,off,e',-⟩
 ·rfl
 rw [e']at e;cases e
theorem p8.none0 {w:af}{ad:Option Addr}{zs:List Int}(h:p8 w ad zs):ad=none->zs.length=0:=fun e=>by
 rcases h with rfl|⟨b,off,e',-⟩
 ·rfl
 rw [e']at e;cases e
theorem jM.grown {w w':af}{row:Option Nat}{ad:Option Addr}{xs:List Al}(h:jM w ad xs)(hg:w.grownBy w' row)(hn:∀ g o,xs≠[]->ad=some ⟨g,o,none⟩->some g≠row):jM w' ad xs:=by
 rcases h with h|⟨b,off,e,hb,hr⟩
 ·exact .inl h
 by_cases hx:xs=[]
 ·exact .inl hx
 exact .inr ⟨b,off,e,Uc hb hg.size,fun i hi=>⟨hg.cell (hr i hi).1 (hn b off hx e),hg.cell (hr i hi).2 (hn b off hx e)⟩⟩
theorem p8.grown {w w':af}{row:Option Nat}{ad:Option Addr}{zs:List Int}(h:p8 w ad zs)(hg:w.grownBy w' row)(hn:∀ g o,zs≠[]->ad=some ⟨g,o,none⟩->some g≠row):p8 w' ad zs:=by
 rcases h with h|⟨b,off,e,hb,hr⟩
 ·exact .inl h
 by_cases hx:zs=[]
 ·exact .inl hx
 exact .inr ⟨b,off,e,Uc hb hg.size,fun i hi=>hg.cell (hr i hi) (hn b off hx e)⟩
structure Beside (w:World)(v:Value)(q:ER):Prop where
 ok:q.ok w
 zA:q.e.allow≠[]->∃ g,q.adA=some ⟨g,0,none⟩
 zK:q.e.kids≠[]->∃ g,q.adK=some ⟨g,0,none⟩
 lt:∀ g,oM q g->g<w.heap.size/\v.ownBlock≠some g
theorem Beside.below {w w':af}{v:Value}{q:ER}(h:Beside w v q)(hb:ag w w'):Beside w' v q :=
 ⟨h.ok.below hb,h.zA,h.zK,fun g hg=>⟨Uc (h.lt g hg).1 hb.size,(h.lt g hg).2⟩⟩
theorem Beside.grown {w w':af}{v v':Value}{q:ER}(h:Beside w v q)(hg:w.grownBy w' v.ownBlock)(hv:v'.ownBlock=v.ownBlock\/v'.ownBlock=some w.heap.size):Beside w' v' q:=by
 refine ⟨⟨h.ok.1.grown hg fun g o hne e=>?_,h.ok.2.grown hg fun g o hne e=>?_⟩,h.zA,h.zK,fun g hi=>⟨Uc (h.lt g hi).1 hg.size,?_⟩⟩
 ·obtain ⟨g0,e0⟩:=h.zA hne;rw [e0]at e;injection e with e;injection e with e1 e2;subst e1;exact fun e=>(h.lt g0 (.inl ⟨hne,e0⟩)).2 e.symm
 ·obtain ⟨g0,e0⟩:=h.zK hne;rw [e0]at e;injection e with e;injection e with e1 e2;subst e1;exact fun e=>(h.lt g0 (.inr ⟨hne,e0⟩)).2 e.symm
 rcases hv with e|e
 ·rw [e];exact (h.lt g hi).2
 rw [e];intro e2;injection e2 with e2;have:=(h.lt g hi).1;omega
theorem RJ {w:af}{base n:Nat}{v:Value}{qs:List ER}(h:w.ownsRow base 39 5 v n (gZ qs))(hn:n=qs.length)(hok:∀ q∈qs,q.ok w):∃ ad cap,v=.slice ad qs.length cap/\iC w ad qs:=by
 subst hn;have h2:=h;rcases h.2 with ⟨rfl,h0⟩|⟨g,cap,cur,rfl,hbg,hg,hnc,-⟩
 ·exact ⟨none,0,by rw [h0],.inl (Uu.1 h0)⟩
 have hlt:=h2.lt g rfl;refine ⟨some ⟨g,0,none⟩,cap,rfl,.inr ⟨g,0,rfl,hlt.2,fun i hi=>?_,hok⟩⟩;have hl:=rf qs;have key:∀ j,j<5->w.cell? ⟨g,0+i*5+j,none⟩=(qs[i]).row[j]?:=fun j hj=>by
  rw [h2.cellAt (0+i*5+j) (by omega),<-yT qs i hi j hj,Uz]
 exact ⟨key 0 (by omega),key 1 (by omega),key 2 (by omega),key 3 (by omega),key 4 (by omega)⟩
theorem Ld (w:af)(q:ER):∀ j u,q.row[j]?=some u->(w.alloc (.cells #[.int .i64 q.e.kind,.slice q.adA q.e.allow.length q.capA,.string q.e.over,.string q.e.name,.slice q.adK q.e.kids.length q.capK] 39)).cell? ((⟨w.heap.size,0,none⟩:Addr).add j)=some u:=by
 intro j u hu;rw [show (⟨w.heap.size,0,none⟩:Addr).add j=⟨w.heap.size,0+j,none⟩ by simp [Addr.add];omega,Uz];have:=World.cell?_alloc_mark w #[.int .i64 q.e.kind,.slice q.adA q.e.allow.length q.capA,.string q.e.over,.string q.e.name,.slice q.adK q.e.kids.length q.capK] 39 (0,0) j;rw [this];simpa [ER.row] using hu
theorem Oi (q:ER):∀ u∈q.row,u.oneCell'=true:=by
 intro u hu;simp [ER.row]at hu;rcases hu with rfl|rfl|rfl|rfl|rfl <;> rfl
set_option maxRecDepth 100000
theorem jM.heap {w w':af}{ad:Option Addr}{xs:List Al}(h:jM w ad xs)(hs:w.heap.size<=w'.heap.size)(hz:xs≠[]->∃ g,ad=some ⟨g,0,none⟩)(hn:∀ g,xs≠[]->ad=some ⟨g,0,none⟩->w'.heap[g]?=w.heap[g]?):jM w' ad xs:=by
 rcases h with h|⟨b,off,e,hb,hr⟩
 ·exact .inl h
 by_cases hx:xs=[]
 ·exact .inl hx
 obtain ⟨g,eg⟩:=hz hx;have e2:=e;rw [eg]at e;injection e with e;injection e with e1 e3;subst e1;have hh:=hn g hx eg;exact .inr ⟨g,off,e2,Uc hb hs,fun i hi=>⟨(Uy (w:=w) (a:=⟨g,_,none⟩) hh).trans (hr i hi).1,(Uy (w:=w) (a:=⟨g,_,none⟩) hh).trans (hr i hi).2⟩⟩
theorem p8.heap {w w':af}{ad:Option Addr}{xs:List Int}(h:p8 w ad xs)(hs:w.heap.size<=w'.heap.size)(hz:xs≠[]->∃ g,ad=some ⟨g,0,none⟩)(hn:∀ g,xs≠[]->ad=some ⟨g,0,none⟩->w'.heap[g]?=w.heap[g]?):p8 w' ad xs:=by
 rcases h with h|⟨b,off,e,hb,hr⟩
 ·exact .inl h
 by_cases hx:xs=[]
 ·exact .inl hx
 obtain ⟨g,eg⟩:=hz hx;have e2:=e;rw [eg]at e;injection e with e;injection e with e1 e3;subst e1;have hh:=hn g hx eg;exact .inr ⟨g,off,e2,Uc hb hs,fun i hi=>(Uy (w:=w) (a:=⟨g,_,none⟩) hh).trans (hr i hi)⟩
theorem rA {w w':af}{q:ER}(h:q.ok w)(hs:w.heap.size<=w'.heap.size)(zA:q.e.allow≠[]->∃ g,q.adA=some ⟨g,0,none⟩)(zK:q.e.kids≠[]->∃ g,q.adK=some ⟨g,0,none⟩)(hn:∀ g,oM q g->w'.heap[g]?=w.heap[g]?):q.ok w' :=
 ⟨h.1.heap hs zA fun g h1 h2=>hn g (.inl ⟨h1,h2⟩),h.2.heap hs zK fun g h1 h2=>hn g (.inr ⟨h1,h2⟩)⟩
theorem di {w w':af}{g:Nat}(h:gY w g)(hh:w'.heap[g]?=w.heap[g]?):gY w' g:=fun j=>(World.frozen?_of_block (w:=w) (a:=⟨g,j,none⟩) hh).trans (h j)
theorem jG {w w':af}{base:Nat}{e:TypeId}{size:Nat}{v:Value}{n:Nat}{xs:List Value}(h:w.ownsRow base e size v n xs)(hh:∀ g,v.ownBlock=some g->w'.heap[g]?=w.heap[g]?):w'.ownsRow base e size v n xs:=by
 refine ⟨h.1,?_⟩;rcases h.2 with hl|⟨g,cap,cur,rfl,h1,h2,h3⟩
 ·exact .inl hl
 exact .inr ⟨g,cap,cur,rfl,h1,(hh g rfl).trans h2,h3⟩
structure NewQ (X:Nat)(w:World)(q:ER):Prop where
 zA:q.e.allow≠[]->∃ g,q.adA=some ⟨g,0,none⟩
 zK:q.e.kids≠[]->∃ g,q.adK=some ⟨g,0,none⟩
 ok:q.ok w
 lie:∀ g,oM q g->X<=g/\g<w.heap.size/\gY w g
 one:∀ g,bA q g->¬ bK q g
 cA:q.e.allow.length<=q.capA
theorem Iw (qs:List ER)(q:ER):gZ (qs++[q])=gZ qs++q.row:=by simp [gZ]
structure Onl (R:Nat)(v:Value)(w w':World):Prop where
 os:w'.os=w.os
 tape:w'.tape=w.tape
 output:w'.output=w.output
 size:w.heap.size<=w'.heap.size
 block:∀ k,k<w.heap.size->k≠R->v.ownBlock≠some k->w'.heap[k]?=w.heap[k]?
def ER.cells (q:ER):Array Value:=#[.int .i64 q.e.kind,.slice q.adA q.e.allow.length q.capA,.string q.e.over,.string q.e.name,.slice q.adK q.e.kids.length q.capK]
theorem zL {w:af}{a:Addr}{v:Value}(h:w.cell? a=some v)(o:Obj):(w.alloc o).cell? a=some v:=by
 have hlt:=World.block_lt_of_cell? w a h;rw [((Uf w.heap.size w).alloc (Ue _) o).cell hlt];exact h
def yo (w:World)(g:Nat)(q:ER):Prop:=w.cell? ⟨g,0,none⟩=some (.int .i64 q.e.kind)/\w.cell? ⟨g,1,none⟩=some (.slice q.adA q.e.allow.length q.capA)/\w.cell? ⟨g,2,none⟩=some (.string q.e.over)/\w.cell? ⟨g,3,none⟩=some (.string q.e.name)/\w.cell? ⟨g,4,none⟩=some (.slice q.adK q.e.kids.length q.capK)/\g<w.heap.size
theorem yo.grown {w w':af}{g:Nat}{q:ER}{row:Option Nat}(h:yo w g q)(hg:w.grownBy w' row)(hne:some g≠row):yo w' g q :=
 ⟨hg.cell h.1 hne,hg.cell h.2.1 hne,hg.cell h.2.2.1 hne,hg.cell h.2.2.2.1 hne,hg.cell h.2.2.2.2.1 hne,Uc h.2.2.2.2.2 hg.size⟩
theorem Onl.grown {R:Nat}{v:Value}{w w' w'':af}{row:Option Nat}(h:Onl R v w w')(hg:w'.grownBy w'' row)(hr:∀ k,k<w.heap.size->k≠R->v.ownBlock≠some k->some k≠row):Onl R v w w'' :=
 ⟨hg.os.trans h.os,hg.tape.trans h.tape,hg.output.trans h.output,Uk h.size hg.size,fun k hk h1 h2=>(hg.block k (Uc hk h.size) (hr k hk h1 h2)).trans (h.block k hk h1 h2)⟩
theorem fI {W:af}{base:Nat}{e:TypeId}{size:Nat}{v:Value}{k:Nat}{xs:List Value}(h:W.ownsRow base e size v (k+1) xs):∃ g cap,v=.slice (some ⟨g,0,none⟩) (k+1) cap:=by
 rcases h.2 with ⟨_,h0⟩|⟨g,cap,_,rfl,_⟩
 ·omega
 exact ⟨g,cap,rfl⟩
theorem Onl.at_own {R:Nat}{v:Value}{w w':af}(h:Onl R v w w')(o:Nat)(u:Value):Onl R v w (w'.setCell ⟨R,o,none⟩ u) :=
 ⟨h.os,h.tape,h.output,by simpa using h.size,fun k hk h1 h2=>(Below.heap_setCell w' _ _ k h1).trans (h.block k hk h1 h2)⟩
theorem RdC.put {w:af}{R:Nat}{s:ByteArray}{p:Nat}{bad:Bool}{v:Value}(h:RdC w R s p bad v)(u:Value):RdC (w.setCell ⟨R,3,none⟩ u) R s p bad u :=
 ⟨by simpa using h.lt,by rw [mO (by omega)];exact h.c0,by rw [mO (by omega)];exact h.c1,by rw [mO (by omega)];exact h.c2,mS h.c3,fun j=>by simpa using h.fr j⟩
theorem RdC.hurt {w:af}{R:Nat}{s:ByteArray}{p:Nat}{bad:Bool}{v:Value}(h:RdC w R s p bad v):RdC (w.setCell ⟨R,2,none⟩ (.bool true)) R s p true v :=
 ⟨by simpa using h.lt,by rw [mO (by omega)];exact h.c0,by rw [mO (by omega)];exact h.c1,mS h.c2,by rw [mO (by omega)];exact h.c3,fun j=>by simpa using h.fr j⟩
structure GA (R:Nat)(s:ByteArray)(p:Nat)(bad:Bool)(v:Value)(base n:Nat)(xs:List Value)(q:ER)(w:World)(listed:Array Bool)(w':World):Prop where
 rd:RdC w' R s p bad v
 box:yo w' w.heap.size q
 onl:Onl R v w w'
 own:listed.getD 7 false=false->w'.ownsRow base 39 5 v n xs
 small:listed.getD 6 false=false->w'.heap.size=w.heap.size+1
theorem Iy {listed:Array Bool}{i L:Nat}(h:listed.getD i true=false)(hs:listed.size=L)(hi:i<L):listed.getD i false=false:=by
 rw [<-j5 (by omega)];exact h
theorem GA.step {R:Nat}{s:ByteArray}{p:Nat}{bad:Bool}{v:Value}{base n:Nat}{xs:List Value}{q:ER}{w w':af}{listed:Array Bool}(h:GA R s p bad v base n xs q w listed w'){i:Nat}(hls:listed.size=11)(h6:i≠6)(h7:i≠7):GA R s p bad v base n xs q w (listed.setIfInBounds i true) w' :=
 ⟨h.rd,h.box,h.onl,fun k=>h.own (by
  by_cases hi:i<11
  ·rw [aQ _ _ _ (by omega),if_neg (Ne.symm h7)]at k;exact k
  ·rw [show listed.setIfInBounds i true=listed by rw [Array.setIfInBounds_eq_of_size_le (by omega)]]at k;exact k),fun k=>h.small (by
  by_cases hi:i<11
  ·rw [aQ _ _ _ (by omega),if_neg (Ne.symm h6)]at k;exact k
  rw [show listed.setIfInBounds i true=listed by rw [Array.setIfInBounds_eq_of_size_le (by omega)]]at k;exact k)⟩
theorem GA.made {R:Nat}{s:ByteArray}{p:Nat}{bad:Bool}{v:Value}{base n:Nat}{xs:List Value}{q:ER}{w w':af}{listed:Array Bool}(h:GA R s p bad v base n xs q w listed w'){i:Nat}(hls:listed.size=11){o:Obj}(hi:i=6:=by rfl):GA R s p bad v base n xs q w (listed.setIfInBounds i true) (w'.alloc o):=by
 subst hi;have hg:=World.grownBy_alloc w' o none;refine ⟨h.rd.grown hg (by simp),h.box.grown hg (by simp),h.onl.grown hg (by simp),fun k=>(h.own ?_).alloc _,fun k=>?_⟩
 ·rw [aQ _ _ _ (by omega),if_neg (by omega)]at k;exact k
 rw [aQ _ _ _ (by omega),if_pos rfl]at k;cases k
def VA (l:List Value)(base n:Nat)(v:Value)(q:ER)(xs:List Value)(w:World)(k:Nat)(u:Value)(w':World):Prop :=
 (k≠6/\k≠7->u=l.getD k undef) /\
 (k=6->u=.slice (some ⟨w.heap.size+1,0,none⟩) 1 1/\(∀ j x,q.row[j]?=some x->w'.cell? ((⟨w.heap.size+1,0,none⟩:Addr).add j)=some x)/\w.heap.size+1<w'.heap.size) /\
 (k=7->∃ g cap,u=.slice (some ⟨g,0,none⟩) (n+1) cap/\w'.ownsRow base 39 5 (.slice (some ⟨g,0,none⟩) (n+1) cap) (n+1) (xs++q.row)/\(v.ownBlock=some g\/w.heap.size<=g))
theorem VA.at {l:List Value}{base n:Nat}{v:Value}{q:ER}{xs:List Value}{w:af}{k:Nat}{u:Value}{w':af}(h:k≠6/\k≠7)(hu:u=l.getD k undef):VA l base n v q xs w k u w':=⟨fun _=>hu,fun e=>absurd e h.1,fun e=>absurd e h.2⟩
theorem VA.alloc {l:List Value}{base n:Nat}{v:Value}{q:ER}{xs:List Value}{w w':af}{i:Nat}{o:Obj}:∀ k u,k≠i->VA l base n v q xs w k u w'->VA l base n v q xs w k u (w'.alloc o):=fun k u _ h =>
 ⟨h.1,fun e=>⟨(h.2.1 e).1,fun j x hj=>zL ((h.2.1 e).2.1 j x hj) o,Uc (h.2.1 e).2.2 (by simp)⟩,fun e=>by obtain ⟨g,cap,e1,e2,e3⟩:=h.2.2 e;exact ⟨g,cap,e1,e2.alloc _,e3⟩⟩
theorem GA.appended {R:Nat}{s:ByteArray}{p:Nat}{bad:Bool}{v:Value}{base n:Nat}{xs:List Value}{q:ER}{w w' w'':af}{listed:Array Bool}(h:GA R s p bad v base n xs q w listed w')(hls:listed.size=11)(hg:w'.grownBy w'' v.ownBlock)(hR:v.ownBlock≠some R)(hX:v.ownBlock≠some w.heap.size)(hb6:w.heap.size+1<w'.heap.size):GA R s p bad v base n xs q w (listed.setIfInBounds 7 true) w'':=by
 refine ⟨h.rd.grown hg (Ne.symm hR),h.box.grown hg (Ne.symm hX),h.onl.grown hg (fun k _ _ h2=>Ne.symm h2),fun k=>?_,fun k=>?_⟩
 ·rw [aQ _ _ _ (by omega),if_pos rfl]at k;cases k
 rw [aQ _ _ _ (by omega),if_neg (by omega)]at k;have:=h.small k;omega
theorem VA.app {l:List Value}{base n:Nat}{v:Value}{q:ER}{xs:List Value}{w w' w'':af}(hg:w'.grownBy w'' v.ownBlock)(hX:v.ownBlock≠some (w.heap.size+1)):∀ k u,k≠7->VA l base n v q xs w k u w'->VA l base n v q xs w k u w'':=fun k u hk h =>
 ⟨h.1,fun e=>⟨(h.2.1 e).1,fun j x hj=>hg.cell ((h.2.1 e).2.1 j x hj) (by rw [show ((⟨w.heap.size+1,0,none⟩:Addr).add j).block=w.heap.size+1 by unfold Addr.add;split <;> rfl];exact Ne.symm hX),Uc (h.2.1 e).2.2 hg.size⟩,fun e=>absurd e hk⟩
theorem QB (R:Nat)(s:bI)(p:Nat)(bad:Bool)(v:Value)(base n:Nat)(xs:List Value)(q:ER)(w:af)(h:RdC w R s p bad v)(hown:w.ownsRow base 39 5 v n xs)(hR:R<base)(hB:base<=w.heap.size)(hn:n<=100000) :
  Calls prog 237 #[.pointer (some ⟨R,0,none⟩),q.val] w fun e w'=>∃ (g cap:Nat),e=.returned (.int .i64 (n:Int))/\RdC w' R s p (bad || decide (15<n+1)) (.slice (some ⟨g,0,none⟩) (n+1) cap)/\w'.ownsRow base 39 5 (.slice (some ⟨g,0,none⟩) (n+1) cap) (n+1) (xs++q.row)/\Onl R v w w'/\(v.ownBlock=some g\/w.heap.size<=g):=by
 obtain ⟨iT,hiT,zT0,zT1,zT2⟩:=info_parts (P:=prog) (e:=39) (z:=.agg #[.int .i64 0,.slice none 0 0,.string ⟨#[]⟩,.string ⟨#[]⟩,.slice none 0 0]) (size:=5) (bytes:=88) (by kernel_rfl);have HIT:=ai (And.intro hiT (And.intro zT0 (And.intro zT1 zT2)));have H:=ai h;have HO:=ai hown;have hlt:=h.lt;clear h hown hiT zT0 zT1 zT2;have hne:v.ownBlock≠some R:=fun e=>by have:=(HO.out.lt R e).1;omega
 have HNE:=ai hne;have HNX:Hid (v.ownBlock≠some w.heap.size):=fun e=>by have:=(HO.out.lt _ e).2;omega
 have HNX1:Hid (v.ownBlock≠some (w.heap.size+1)):=fun e=>by have:=(HO.out.lt _ e).2;omega
 clear hne;unfold ER.val;obtain ⟨W0,hW0⟩:∃ W0,W0=w.alloc (.cells #[.int .i64 q.e.kind,.slice q.adA q.e.allow.length q.capA,.string q.e.over,.string q.e.name,.slice q.adK q.e.kids.length q.capK] 39):=⟨_,rfl⟩;have HG0:Hid (GA R s p bad v base n xs q w (Array.replicate 11 false) W0.drew):=by
  have hg:=World.grownBy_alloc w (.cells #[.int .i64 q.e.kind,.slice q.adA q.e.allow.length q.capA,.string q.e.over,.string q.e.name,.slice q.adK q.e.kids.length q.capK] 39) none;show GA _ _ _ _ _ _ _ _ _ _ _ _;rw [hW0];refine ⟨(H.out.grown hg (by simp)).drewN 1,⟨?_,?_,?_,?_,?_,?_⟩,⟨rfl,rfl,rfl,by simp [World.drew],fun k hk _ _=>hg.block k hk (by simp)⟩,fun _=>(HO.out.alloc _).drew,fun _=>by simp [World.drew]⟩ <;> simp
 go_enter func237,ntmps237;go_wp2_with fail;rw [<-hW0];clear hW0;refine lY 10 (fun _=>undef) (fun f=>{ tmps:=List.toArray (Value.pointer (some ⟨R,0,none⟩)::.agg #[.int .i64 q.e.kind,.slice q.adA q.e.allow.length q.capA,.string q.e.over,.string q.e.name,.slice q.adK q.e.kids.length q.capK]::undef::.pointer (some ⟨w.heap.size,0,none⟩)::.int .i64 0::f 0::f 1::f 2::f 3::f 4::f 5::f 6::f 7::f 8::f 9::undef::undef::undef::undef::undef::undef::undef::undef::undef::undef::undef::undef::undef::undef::undef::[]),defers:=[] }) (VA (Value.pointer (some ⟨R,0,none⟩)::.pointer (some ⟨R,0,none⟩)::.pointer (some ⟨R,0,none⟩)::.pointer (some ⟨R,3,none⟩)::v::.agg #[.int .i64 q.e.kind,.slice q.adA q.e.allow.length q.capA,.string q.e.over,.string q.e.name,.slice q.adK q.e.kids.length q.capK]::.slice (some ⟨w.heap.size+1,0,none⟩) 1 1::undef::.pointer (some ⟨R,0,none⟩)::.pointer (some ⟨R,3,none⟩)::[]) base n v q xs w) (GA R s p bad v base n xs q w) (by kernel_rfl) rfl (by decide +kernel) (by decide +kernel) rfl HG0.out ?stepA ?finA;case stepA =>
  rintro i hi o ho listed f w' hls VC hG hpre;have HG:=ai hG;have HM:Hid (∀ e∈o.after,Region.binds .any e=true->_):=hpre;clear hG hpre;have hc:=ul (i:=i) (by omega);clear hi
  repeat' rcases hc with rfl|hc
  ·cases ho;have HS:=ai (HG.out.step (i:=0) hls (by decide) (by decide));refine aa rfl fun K HK=>?_;clear HM;dsimp only;go_simp;exact HK.out _ _ ⟨Value.pointer (some ⟨R,0,none⟩),by simp [upd],HS.out,VA.at (by decide) rfl,fun k u _ hu=>hu⟩
  ·cases ho;have HS:=ai (HG.out.step (i:=1) hls (by decide) (by decide));refine aa rfl fun K HK=>?_;clear HM;dsimp only;go_simp;exact HK.out _ _ ⟨Value.pointer (some ⟨R,0,none⟩),by simp [upd],HS.out,VA.at (by decide) rfl,fun k u _ hu=>hu⟩
  ·cases ho;have e1:f 1=Value.pointer (some ⟨R,0,none⟩):=(HM.out ⟨1,.data⟩ (by simp) rfl).1 (by decide);have HS:=ai (HG.out.step (i:=2) hls (by decide) (by decide));refine aa rfl fun K HK=>?_;clear HM;simp only [e1];go_simp;exact HK.out _ _ ⟨Value.pointer (some ⟨R,0,none⟩),by simp [upd,e1],HS.out,VA.at (by decide) rfl,fun k u _ hu=>hu⟩
  ·cases ho;have e2:f 2=Value.pointer (some ⟨R,0,none⟩):=(HM.out ⟨2,.data⟩ (by simp) rfl).1 (by decide);have HS:=ai (HG.out.step (i:=3) hls (by decide) (by decide));refine aa rfl fun K HK=>?_;clear HM;simp only [e2];go_simp;exact HK.out _ _ ⟨Value.pointer (some ⟨R,3,none⟩),by simp [upd,e2],HS.out,VA.at (by decide) rfl,fun k u _ hu=>hu⟩
  ·cases ho;have e3:f 3=Value.pointer (some ⟨R,3,none⟩):=(HM.out ⟨3,.data⟩ (by simp) rfl).1 (by decide);have c3:=HG.out.rd.c3;have HS:=ai (HG.out.step (i:=4) hls (by decide) (by decide));refine aa rfl fun K HK=>?_;clear HM;simp only [e3];go_simp;exact HK.out _ _ ⟨v,by simp [upd,e3],HS.out,VA.at (by decide) rfl,fun k u _ hu=>hu⟩
  ·cases ho;obtain ⟨x0,x1,x2,x3,x4,xl⟩:=HG.out.box;have HS:=ai (HG.out.step (i:=5) hls (by decide) (by decide));refine aa rfl fun K HK=>?_;clear HM;dsimp only;go_simp;exact HK.out _ _ ⟨Value.agg #[.int .i64 q.e.kind,.slice q.adA q.e.allow.length q.capA,.string q.e.over,.string q.e.name,.slice q.adK q.e.kids.length q.capK],by simp [upd],HS.out,VA.at (by decide) rfl,fun k u _ hu=>hu⟩
  ·cases ho;have e5:f 5=Value.agg #[.int .i64 q.e.kind,.slice q.adA q.e.allow.length q.capA,.string q.e.over,.string q.e.name,.slice q.adK q.e.kids.length q.capK]:=(HM.out ⟨5,.data⟩ (by simp) rfl).1 (by decide);have hz:=HG.out.small (Iy VC hls (by omega));have HS:Hid (∀ o,GA R s p bad v base n xs q w (listed.setIfInBounds 6 true) (w'.alloc o)):=fun o=>HG.out.made (i:=6) hls;refine aa rfl fun K HK=>?_;clear HM;simp only [e5];go_simp;exact HK.out _ _ ⟨.slice (some ⟨w'.heap.size,0,none⟩) 1 1,by simp [upd,e5],HS.out _,⟨fun h=>absurd rfl h.1,fun _=>⟨by rw [hz],fun j u hj=>by have:=Ld w' q j u hj;rw [hz]at this;exact this,by simp;omega⟩,fun h=>absurd h (by decide)⟩,VA.alloc⟩
  ·cases ho;have e4:f 4=v:=(HM.out ⟨4,.data⟩ (by simp) rfl).1 (by decide);obtain ⟨e6,hnews,hb6⟩:=(HM.out ⟨6,.data⟩ (by simp) rfl).2.1 rfl;replace e6:f 6=Value.slice (some ⟨w.heap.size+1,0,none⟩) 1 1:=e6;have hown:=HG.out.own (Iy VC hls (by omega));clear HM;refine kH _ rfl rfl _ _ 33 rfl base 39 iT (.agg #[.int .i64 0,.slice none 0 0,.string ⟨#[]⟩,.string ⟨#[]⟩,.slice none 0 0]) 5 88 underlying33 HIT.out.1 HIT.out.2.1 HIT.out.2.2.1 HIT.out.2.2.2 rfl (by decide) v n xs e4 hown ⟨w.heap.size+1,0,none⟩ 1 1 q.row e6 rfl hnews (Oi q) (by unfold maxLen;omega) (by omega) (by have:=HG.out.onl.size;omega) ?_;intro v7 w7 XN hgr7 hat7;obtain ⟨g7,c7,rfl⟩:=fI XN;refine ⟨.slice (some ⟨g7,0,none⟩) (n+1) c7,by simp [upd,e4,e6,Act.put],HG.out.appended hls hgr7 HNE.out HNX.out hb6,⟨fun h=>absurd rfl h.2,fun h=>absurd h (by decide),fun _=>⟨g7,c7,rfl,XN,?_⟩⟩,VA.app hgr7 HNX1.out⟩;rcases hat7 with e|e
   ·exact .inl e.symm
   simp [Value.ownBlock]at e;exact .inr (by have:=HG.out.onl.size;omega)
  ·cases ho;have e0:f 0=Value.pointer (some ⟨R,0,none⟩):=(HM.out ⟨0,.data⟩ (by simp) rfl).1 (by decide);have HS:=ai (HG.out.step (i:=8) hls (by decide) (by decide));refine aa rfl fun K HK=>?_;clear HM;simp only [e0];go_simp;exact HK.out _ _ ⟨Value.pointer (some ⟨R,0,none⟩),by simp [upd,e0],HS.out,VA.at (by decide) rfl,fun k u _ hu=>hu⟩
  cases ho;have e8:f 8=Value.pointer (some ⟨R,0,none⟩):=(HM.out ⟨8,.data⟩ (by simp) rfl).1 (by decide);have HS:=ai (HG.out.step (i:=9) hls (by decide) (by decide));refine aa rfl fun K HK=>?_;clear HM;simp only [e8];go_simp;exact HK.out _ _ ⟨Value.pointer (some ⟨R,3,none⟩),by simp [upd,e8],HS.out,VA.at (by decide) rfl,fun k u _ hu=>hu⟩
 case finA =>
  rintro o ho listed f w' hG hall;cases ho;obtain ⟨g,cap,e7,XN,hat⟩:=(hall 7 (by omega)).2.2 rfl;have e9:f 9=Value.pointer (some ⟨R,3,none⟩):=(hall 9 (by omega)).1 (by decide);have HR:=ai hG.rd;have HN:=ai hG.onl;have HW:=ai XN;have HA:=ai hat;have c3:=hG.rd.c3;have f3:=hG.rd.fr 3;have hl3:=hG.rd.lt;clear hall hG XN hat;refine wpOp_step rfl (fun K hK=>?_);have HK:Hid (∀ a w,_->K a w):=hK;clear hK;simp only [e7,e9];go_simp;refine HK.out _ _ ?_;clear HK;obtain ⟨W8,WL⟩:∃ W8,W8=w'.setCell ⟨R,3,none⟩ (.slice (some ⟨g,0,none⟩) (n+1) cap):=⟨_,rfl⟩;have HR8:Hid (RdC W8 R s p bad (.slice (some ⟨g,0,none⟩) (n+1) cap)):=by rw [WL];exact HR.out.put _
  have HN8:Hid (Onl R v w W8):=by rw [WL];exact HN.out.at_own _ _
  have HW8:Hid (W8.ownsRow base 39 5 (.slice (some ⟨g,0,none⟩) (n+1) cap) (n+1) (xs++q.row)):=by rw [WL];exact ownsRow_setCell_below HW.out hR _
  rw [<-WL];clear WL HR HN HW c3 f3 hl3 e7 e9;have c2:=HR8.out.c2;have c3:=HR8.out.c3;have f2:=HR8.out.fr 2;have hl8:=HR8.out.lt;have hwr:IntKind.i64.wrap (((n:Int)+1)-1)=(n:Int):=by simp [IntKind.wrap,IntKind.bits,IntKind.signed];omega
  by_cases hbig:15<n+1
  ·have hd:decide ((15:Int)<(n:Int)+1)=true:=by simp;omega
   have HB:=ai hbig;clear hbig;go_wp2;exact bodyPost_ret (v:=.int .i64 (n:Int)) (by simp [results,Tryz.results237,go_sem]) rfl ⟨g,cap,rfl,by rw [show decide (15<n+1)=true from decide_eq_true HB.out,Bool.or_true];exact HR8.out.hurt,ownsRow_setCell_below HW8.out hR _,HN8.out.at_own _ _,HA.out⟩
  have hd:decide ((15:Int)<(n:Int)+1)=false:=by simp;omega
  have HB:=ai hbig;clear hbig;go_wp2;exact bodyPost_ret (v:=.int .i64 (n:Int)) (by simp [results,Tryz.results237,go_sem]) rfl ⟨g,cap,rfl,by rw [show decide (15<n+1)=false from decide_eq_false HB.out,Bool.or_false];exact HR8.out,HW8.out,HN8.out,HA.out⟩
structure Went (R:Nat)(v:Value)(w:World)(v':Value)(w':World):Prop where
 onl:Onl R v w w'
 own:v'.ownBlock=v.ownBlock \/ ∃ g,v'.ownBlock=some g/\w.heap.size<=g
theorem Onl.refl (R:Nat)(v:Value)(w:af):Onl R v w w:=⟨rfl,rfl,rfl,Ue _,fun _ _ _ _=>rfl⟩
theorem Went.refl (R:Nat)(v:Value)(w:af):Went R v w v w:=⟨Onl.refl R v w,.inl rfl⟩
theorem Went.apart {R:Nat}{v v':Value}{w w':af}(h:Went R v w v' w'){k:Nat}(hk:k<w.heap.size)(hv:v.ownBlock≠some k):v'.ownBlock≠some k:=by
 rcases h.own with e|⟨g,e,hg⟩
 ·rw [e];exact hv
 rw [e];intro h2;injection h2 with h2;omega
theorem Went.trans {R:Nat}{v v1 v2:Value}{w w1 w2:af}(h:Went R v w v1 w1)(h2:Went R v1 w1 v2 w2):Went R v w v2 w2:=by
 refine ⟨⟨h2.onl.os.trans h.onl.os,h2.onl.tape.trans h.onl.tape,h2.onl.output.trans h.onl.output,Uk h.onl.size h2.onl.size,fun k hk h3 h4=>(h2.onl.block k (Uc hk h.onl.size) h3 (h.apart hk h4)).trans (h.onl.block k hk h3 h4)⟩,?_⟩;rcases h2.own with e|⟨g,e,hg⟩
 ·rw [e];exact h.own
 exact .inr ⟨g,e,Uk h.onl.size hg⟩
abbrev nY:Value:=.slice none 0 0
theorem Onl.any {R:Nat}{w w':af}(h:Onl R nY w w')(v:Value):Went R v w v w':=⟨⟨h.os,h.tape,h.output,h.size,fun k hk h1 _=>h.block k hk h1 (by simp [Value.ownBlock])⟩,.inl rfl⟩
theorem Onl.of_grown {R:Nat}{w w':af}(h:w.grownBy w' (some R)):Onl R nY w w':=⟨h.os,h.tape,h.output,h.size,fun k hk h1 _=>h.block k hk (fun e=>h1 (by injection e))⟩
theorem Onl.trans0 {R:Nat}{w w1 w2:af}(h:Onl R nY w w1)(h2:Onl R nY w1 w2):Onl R nY w w2:=((h.any nY).trans (h2.any nY)).onl
theorem Onl.of_below {R:Nat}{w w':af}(h:ag w w'):Onl R nY w w':=⟨h.os,h.tape,h.output,h.size,fun k hk _ _=>h.block k hk⟩
def BF (w:World)(base:Nat)(q:ER):Prop:=(q.e.kids=[]/\q.adK=none/\q.capK=0)\/(q.e.kids≠[]/\w.ownsRow base 2 1 (.slice q.adK q.e.kids.length q.capK) q.e.kids.length (ints q.e.kids))
structure RdF (w:World)(R:Nat)(s:ByteArray)(st:RS)(base:Nat)(v:Value)(qs:List ER):Prop where
 rd:RdC w R s st.p st.bad v
 own:w.ownsRow base 39 5 v qs.length (gZ qs)
 out:aj qs=st.out
 zA:∀ q∈qs,q.e.allow≠[]->∃ g,q.adA=some ⟨g,0,none⟩
 zK:∀ q∈qs,q.e.kids≠[]->∃ g,q.adK=some ⟨g,0,none⟩
 ok:∀ q∈qs,q.ok w
 lie:∀ q∈qs,∀ g,oM q g->base<=g/\g<w.heap.size/\gY w g/\v.ownBlock≠some g
 one:∀ q∈qs,∀ g,bA q g->¬ bK q g
 two:∀ (x y:Nat) (hx:x<qs.length) (hy:y<qs.length),x≠y->∀ g,oM qs[x] g->¬ oM qs[y] g
 cA:∀ q∈qs,q.e.allow.length<=q.capA
 cK:∀ q∈qs,BF w base q
theorem BF.heap {w w':af}{base:Nat}{q:ER}(h:BF w base q)(hz:q.e.kids≠[]->∃ g,q.adK=some ⟨g,0,none⟩)(hh:∀ g,oM q g->w'.heap[g]?=w.heap[g]?):BF w' base q:=by
 rcases h with h|⟨hne,h⟩
 ·exact .inl h
 obtain ⟨g,eg⟩:=hz hne;refine .inr ⟨hne,jG h fun g' hg'=>?_⟩;rw [eg]at hg';have:g=g':=by simpa [Value.ownBlock] using hg'
 subst this;exact hh g (.inr ⟨hne,eg⟩)
theorem BF.mono {w:af}{base base':Nat}{q:ER}(h:BF w base q)(hb:base'<=base):BF w base' q:=by
 rcases h with h|⟨hne,h⟩
 ·exact .inl h
 refine .inr ⟨hne,h.1,?_⟩;rcases h.2 with hl|⟨g,cap,cur,e,h1,h2⟩
 ·exact .inl hl
 exact .inr ⟨g,cap,cur,e,Uk hb h1,h2⟩
theorem RdF.over {w w':af}{R:Nat}{s:ByteArray}{st:RS}{base:Nat}{v:Value}{qs:List ER}(h:RdF w R s st base v qs)(hR:R<base)(ho:Onl R nY w w'){p:Nat}{bad:Bool}(hr:RdC w' R s p bad v):RdF w' R s ⟨p,bad,st.out⟩ base v qs where
 rd:=hr
 own:=jG h.own fun g hg=>ho.block g (h.own.lt g hg).2 (by have:=(h.own.lt g hg).1;omega) (by simp [Value.ownBlock])
 out:=h.out
 zA:=h.zA
 zK:=h.zK
 ok q hq:=rA (h.ok q hq) ho.size (h.zA q hq) (h.zK q hq) fun g hg=>ho.block g (h.lie q hq g hg).2.1 (by have:=(h.lie q hq g hg).1;omega) (by simp [Value.ownBlock])
 lie q hq g hg:=by
  obtain ⟨h1,h2,h3,h4⟩:=h.lie q hq g hg;exact ⟨h1,Uc h2 ho.size,di h3 (ho.block g h2 (by omega) (by simp [Value.ownBlock])),h4⟩
 one:=h.one
 two:=h.two
 cA:=h.cA
 cK q hq:=(h.cK q hq).heap (h.zK q hq) fun g hg=>ho.block g (h.lie q hq g hg).2.1 (by have:=(h.lie q hq g hg).1;omega) (by simp [Value.ownBlock])
theorem Le (R:Nat)(s:bI)(st:RS)(base:Nat)(v:Value)(qs:List ER)(q:ER)(w:af)(h:RdF w R s st base v qs)(hR:R<base)(hB:base<=w.heap.size)(hn:qs.length<=100000)
  (hq:NewQ base w q) (Vj:BF w base q) (ha:∀ g,oM q g->v.ownBlock≠some g/\∀ q'∈qs,¬ oM q' g) :
  Calls prog 237 #[.pointer (some ⟨R,0,none⟩),q.val] w fun e w'=>∃ v',e=.returned (.int .i64 (st.out.length:Int))/\RdF w' R s (rX q.e st) base v' (qs++[q])/\Went R v w v' w':=by
 have hlen:qs.length=st.out.length:=by rw [<-h.out];simp [aj]
 refine (QB R s st.p st.bad v base qs.length (gZ qs) q w h.rd h.own hR hB hn).mono ?_;rintro e w' ⟨g,cap,rfl,hrd,hown,YR,hat⟩;have hW:Went R v w (.slice (some ⟨g,0,none⟩) (qs.length+1) cap) w':=⟨YR,by
  rcases hat with e|e
  ·exact .inl (by rw [e];rfl)
  exact .inr ⟨g,rfl,e⟩⟩
 have keep:∀ k,k<w.heap.size->base<=k->v.ownBlock≠some k->w'.heap[k]?=w.heap[k]?:=fun k h1 h2 h3=>YR.block k h1 (by omega) h3;refine ⟨.slice (some ⟨g,0,none⟩) (qs.length+1) cap,by rw [hlen],?_,hW⟩;refine ⟨by unfold rX;rw [<-hlen];exact hrd,?_,?_,?_,?_,?_,?_,?_,?_,?_,?_⟩
 ·rw [Ul,List.length_singleton,Iw];exact hown
 ·simp [aj,rX,<-h.out]
 ·intro q' hq';rcases Uq.1 hq' with h1|h1
  ·exact h.zA q' h1
  rw [Uo]at h1;subst h1;exact hq.zA
 ·intro q' hq';rcases Uq.1 hq' with h1|h1
  ·exact h.zK q' h1
  rw [Uo]at h1;subst h1;exact hq.zK
 ·intro q' hq';rcases Uq.1 hq' with h1|h1
  ·exact rA (h.ok q' h1) YR.size (h.zA q' h1) (h.zK q' h1) fun k hk=>keep k (h.lie q' h1 k hk).2.1 (h.lie q' h1 k hk).1 (h.lie q' h1 k hk).2.2.2
  rw [Uo]at h1;subst h1;exact rA hq.ok YR.size hq.zA hq.zK fun k hk=>keep k (hq.lie k hk).2.1 (hq.lie k hk).1 (ha k hk).1
 ·intro q' hq' k hk;rcases Uq.1 hq' with h1|h1
  ·obtain ⟨a1,a2,a3,a4⟩:=h.lie q' h1 k hk;exact ⟨a1,Uc a2 YR.size,di a3 (keep k a2 a1 a4),hW.apart a2 a4⟩
  rw [Uo]at h1;subst h1;obtain ⟨a1,a2,a3⟩:=hq.lie k hk;exact ⟨a1,Uc a2 YR.size,di a3 (keep k a2 a1 (ha k hk).1),hW.apart a2 (ha k hk).1⟩
 ·intro q' hq';rcases Uq.1 hq' with h1|h1
  ·exact h.one q' h1
  rw [Uo]at h1;subst h1;exact hq.one
 ·intro x y hx hy hxy k hkx Zp;rw [Ul,List.length_singleton]at hx hy;by_cases ex:x<qs.length
  ·rw [Ux ex]at hkx;by_cases ey:y<qs.length
   ·rw [Ux ey]at Zp;exact h.two x y ex ey hxy k hkx Zp
   have:y=qs.length:=by omega
   subst this;rw [UD (Ue _)]at Zp;simp at Zp;exact (ha k Zp).2 _ (Ud ex) hkx
  have:x=qs.length:=by omega
  subst this;rw [UD (Ue _)]at hkx;simp at hkx;have ey:y<qs.length:=by omega
  rw [Ux ey]at Zp;exact (ha k hkx).2 _ (Ud ey) Zp
 ·intro q' hq';rcases Uq.1 hq' with h1|h1
  ·exact h.cA q' h1
  rw [Uo]at h1;subst h1;exact hq.cA
 intro q' hq';rcases Uq.1 hq' with h1|h1
 ·exact (h.cK q' h1).heap (h.zK q' h1) fun k hk=>keep k (h.lie q' h1 k hk).2.1 (h.lie q' h1 k hk).1 (h.lie q' h1 k hk).2.2.2
 rw [Uo]at h1;subst h1;exact Vj.heap hq.zK fun k hk=>keep k (hq.lie k hk).2.1 (hq.lie k hk).1 (ha k hk).1
def uQ (R:Nat)(s:ByteArray)(base:Nat)(v:Value)(qs:List ER)(w:World)(x:Int×RS)(e:Ending)(w':World):Prop :=
 ∃ v' ns,e=.returned (.int .i64 x.1)/\RdF w' R s x.2 base v' (qs++ns)/\Went R v w v' w'/\∀ q∈ns,∀ g,oM q g->w.heap.size<=g
def tC (s:ByteArray)(x:Int×RS):Int×RS:=if kZ s fu x.2 then (x.1,j6 fu x.2) else (x.1,uE x.2)
theorem Iz {s:ByteArray}{x:Int×RS}(h:mP s fu x.2.p x.2.bad=true):tC s x=(x.1,j6 fu x.2):=if_pos h
theorem Lf {s:ByteArray}{x:Int×RS}(h:mP s fu x.2.p x.2.bad=false):tC s x=(x.1,uE x.2):=if_neg (fun e=>by rw [kZ,<-mP,h]at e;cases e)
theorem RdF.is_no {w w':af}{R:Nat}{s t:ByteArray}{st:RS}{base:Nat}{v:Value}{qs:List ER}(h:RdF w R s st base v qs)(hR:R<base)(hb:mP s t st.p st.bad=false)(hr:RdC w' R s (Qo s t st.p st.bad) st.bad v)(hg:w.grownBy w' (some R)):RdF w' R s st base v qs:=by
 rw [zg hb]at hr;exact h.over hR (Onl.of_grown hg) hr
theorem RdF.is_yes {w w':af}{R:Nat}{s t:ByteArray}{st:RS}{base:Nat}{v:Value}{qs:List ER}(h:RdF w R s st base v qs)(hR:R<base)(hb:mP s t st.p st.bad=true)(hr:RdC w' R s (Qo s t st.p st.bad) st.bad v)(hg:w.grownBy w' (some R)):RdF w' R s (j6 t st) base v qs:=by
 rw [uF hb]at hr;exact h.over hR (Onl.of_grown hg) hr
theorem zM {s t:ByteArray}{p:Nat}{bad:Bool}(h:mP s t p bad=true):p+t.size<=s.size:=by
 unfold mP at h;simp only [Ug]at h;exact Fv h.2
theorem Oj (R:Nat)(s:bI)(st:RS)(base:Nat)(v:Value)(qs:List ER)(w:af)(h:RdF w R s st base v qs)(hR:R<base)(hs:s.size<=1000)(hp:st.p<=s.size)
  (h0:mP s fP st.p st.bad=false) (h1:mP s jA st.p st.bad=true) (x:Int×RS) (hx:x.2.p<=s.size)
  (hrow:∀ w1,RdF w1 R s (j6 jA st) base v qs->w.heap.size<=w1.heap.size->Calls prog 219 #[.pointer (some ⟨R,0,none⟩)] w1 (uQ R s base v qs w1 x)) :
  Calls prog 234 #[.pointer (some ⟨R,0,none⟩)] w (uQ R s base v qs w (tC s x)):=by
 have H:=ai h;have VE:=ai hrow;have HX:=ai hx;have HP:=ai hp;clear h hrow hx hp;go_enter func234,ntmps234;go_wp2_with fail;refine (lX R s fP st.p st.bad v w H.out.rd hs HP.out (by decide)).mono ?_;rintro e w1 ⟨rfl,hr1,hg1⟩;have VJ:=ai (H.out.is_no hR h0 hr1 hg1);have U7:=ai (Onl.of_grown hg1);rw [h0];clear hr1 hg1 h0;go_wp2_with fail;refine (lX R s jA st.p st.bad v w1 VJ.out.rd hs HP.out (by decide)).mono ?_;rintro e w2 ⟨rfl,hr2,hg2⟩;have VV:=ai (VJ.out.is_yes hR h1 hr2 hg2);have UN:=ai (U7.out.trans0 (Onl.of_grown hg2));rw [h1];clear hr2 hg2 h1;go_wp2_with fail;refine (VE.out w2 VV.out UN.out.size).mono ?_;rintro e w3 ⟨v3,ns,rfl,Ym,hW3,hns⟩;have Zw:=ai Ym;have HW3:=ai ((UN.out.any v).trans hW3);have HNS:Hid (∀ q∈ns,∀ g,oM q g->w.heap.size<=g):=fun q hq g hg=>Uk UN.out.size (hns q hq g hg);clear Ym hW3 hns VJ U7 VV UN VE;go_wp2_with fail;refine (lX R s fu x.2.p x.2.bad v3 w3 Zw.out.rd hs HX.out (by decide)).mono ?_;rintro e w4 ⟨rfl,hr4,hg4⟩;cases hc:mP s fu x.2.p x.2.bad;case true=>
  have WK:=ai (Zw.out.is_yes hR hc hr4 hg4);have HW4:=ai (HW3.out.trans ((Onl.of_grown hg4).any v3));have EQ:=ai (Iz (x:=x) hc);clear hr4 hg4 hc;go_wp2;exact bodyPost_ret (v:=.int .i64 x.1) (by simp [results,Tryz.results234,go_sem]) rfl (by rw [EQ.out];exact ⟨v3,ns,rfl,WK.out,HW4.out,HNS.out⟩)
 have WK:=ai (Zw.out.is_no hR hc hr4 hg4);have HW4:=ai (HW3.out.trans ((Onl.of_grown hg4).any v3));have c2:=WK.out.rd.c2;have f2:=WK.out.rd.fr 2;have hl:=WK.out.rd.lt;have EQ:=ai (Lf (x:=x) hc);clear hr4 hg4 hc;go_wp2;exact bodyPost_ret (v:=.int .i64 x.1) (by simp [results,Tryz.results234,go_sem]) rfl (by rw [EQ.out];exact ⟨v3,ns,rfl,WK.out.over hR ((Onl.refl R nY w4).at_own _ _) WK.out.rd.hurt,HW4.out.trans (((Onl.refl R nY w4).at_own _ _).any v3),HNS.out⟩)
set_option maxRecDepth 100000 in
theorem BG (ad:Option Addr)(cap:Nat)(rs:List ER)(w:af)(hlen:rs.length<=1048576)(hs:iC w ad rs)(hl:∀ r∈rs,r.e.light)(hk:∀ r∈rs,dW rs.length r.e.kids) :
  Calls prog 187 #[.slice ad rs.length cap] w fun e w'=>e=.returned (.slice (some ⟨w.heap.size,0,none⟩) rs.length rs.length)/\Fil w w' w.heap.size rs.length (bools (dC (aj rs))):=by
 have HS:=aA hs;have HL:=aA hl;have HK:=aA hk;clear hs hl hk;obtain ⟨inf,hi,hz0,hz1,hz2⟩:=info_parts zI;go_enter func187,ntmps187;go_wp2_with (at_make;refine wpList_make_full _ rfl _ _ 275 rfl w.heap.size 4 inf (.bool false) 1 underlying275 hi hz0 hz1 .i64 .i64 _ _ rs.length rfl rfl rfl rfl (by rw [hz2];omega) (by unfold maxLen;omega) (Ue _) ?_;intro w0 hown0 VL);have HF0:Hid (Fil w w0 w.heap.size rs.length (bools (List.replicate rs.length false))):=by
  have:=CF (v:=.bool false) hown0 VL;show Fil _ _ _ _ _;simpa [bools] using this
 clear hown0 VL hi hz0 hz1 hz2;go_loopw [4] (fun i wr=>∃ (m:Nat) (out:List Bool),m<=rs.length/\i=.int .i64 ((m:Int)-1)/\out.length=rs.length/\Hid (dV (aj rs) m out=dC (aj rs))/\Hid (Fil w wr w.heap.size rs.length (bools out))) (fun i _=>(intOf i+1).toNat);case atStart=>exact ⟨rs.length,List.replicate rs.length false,Ue _,by go_num,by simp,(by show _=_;unfold dC;rw [aN]),HF0⟩
 obtain ⟨m,out,hm,rfl,hol,HN,HF⟩:=hrel;by_cases hm0:0<m
 ·obtain ⟨m,rfl⟩:∃ m',m=m'+1:=⟨m-1,by omega⟩;have hmi:(((m+1:Nat):Int)-1)=(m:Int):=by omega
  rw [hmi];have hlt:m<rs.length:=by omega
  rcases HS.out.below HF.out.below with rfl|⟨b,off,rfl,hb,hr,hok⟩
  ·simp at hlt
  obtain ⟨t0,t1,t2,t3,t4⟩:=hr m hlt;have VP:Hid (rs[m].ok _):=hok rs[m] (Ud hlt);have lg:=(HL.out rs[m] (Ud hlt)).2;have HKI:Hid (dW rs.length rs[m].e.kids):=HK.out rs[m] (Ud hlt);have hk1:=bF m;have hk2:(m:Int)<(rs.length:Int):=by omega
  have hbw:b<w.heap.size:=by
   rcases HS.out with h|⟨b',off',h1,h2,-⟩
   ·rw [h]at hlt;simp at hlt
   injection h1 with h1;injection h1 with h1;omega
  have HR:Hid (ym wr b (off+m*5) rs[m]):=hr m hlt;have HNX:Hid (dV (aj rs) m (bq m rs[m].e.kind rs[m].e.kids 0 out)=dC (aj rs)):=by
   show _=_;rw [<-HN.out,zJ _ _ _ (by rw [aN];exact hlt)];simp [aj]
  clear hr hok t0 t1 t2 t3;go_wp2_with fail;clear t4;go_loopw [23] (fun i w2=>∃ (j:Nat) (UR:List Bool),j<=rs[m].e.kids.length/\i=.int .i64 j/\UR.length=rs.length/\Hid (bq m rs[m].e.kind (rs[m].e.kids.drop j) j UR=bq m rs[m].e.kind rs[m].e.kids 0 out)/\Hid (Fil w w2 w.heap.size rs.length (bools UR))) (fun i _=>rs[m].e.kids.length-(intOf i).toNat);case atStart=>exact ⟨0,out,Ui _,rfl,hol,rfl,HF⟩
  obtain ⟨j,UR,hj,rfl,ho2,HJ,VV⟩:=hrel;have hE2:iC wr _ rs:=HS.out.below VV.out.below;have ht:ym wr b (off+m*5) rs[m]:=by
   rcases hE2 with h|⟨b',off',h1,h2,h3,-⟩
   ·exact absurd hlt (by rw [h];simp)
   injection h1 with h1;injection h1 with h1 h1';subst h1;subst h1';exact h3 m hlt
  obtain ⟨t0,t1,t2,t3,t4⟩:=ht;by_cases hjl:j<rs[m].e.kids.length
  ·have hK2:p8 wr rs[m].adK rs[m].e.kids:=(hE2.mem (Ud hlt)).2;rcases hK2 with hnil|⟨ba,WH,Vi,WA,hra⟩
   ·rw [hnil]at hjl;simp at hjl
   rw [Vi];have q0:=hra j hjl;have hj1:=bF j;have hj2:(j:Int)<(rs[m].e.kids.length:Int):=by omega
   obtain ⟨x0,x1⟩:=HKI.out _ (Ud hjl);obtain ⟨x,hx⟩:∃ x:Nat,rs[m].e.kids[j]=(x:Int):=⟨rs[m].e.kids[j].toNat,by omega⟩;rw [hx]at q0 x0 x1;have c0:=VV.out.done m (by simp [bools];omega);have fz:=VV.out.free;obtain ⟨v0,u0⟩:=Option.isSome_iff_exists.mp (VV.out.there x (by omega));have hbr:b<wr.heap.size:=Uc hbw VV.out.below.size;obtain ⟨bo,hbo⟩:∃ bo,bo=(bools UR)[m]'(by simp [bools];omega):=⟨_,rfl⟩;rw [<-hbo]at c0;clear hra Vi hE2 t1 t2 t3;have hm2:m<UR.length:=by omega
   have Zu:bo=.bool UR[m]:=by rw [hbo];simp [bools]
   have Zv:UR[m]?.getD false=UR[m]:=by simp [hm2]
   rw [Zu]at c0;clear hbo Zu;cases hb0:UR[m];case true=>
    rw [hb0]at c0 Zv;have WK:Hid (Fil w (wr.setCell ⟨w.heap.size,x,none⟩ (.bool true)) w.heap.size rs.length (bools (UR.set x true))):=by show Fil _ _ _ _ _;rw [nX];exact VV.out.set _ (by simp [bools];omega) (by omega)
    have HJ2:Hid (bq m rs[m].e.kind (rs[m].e.kids.drop (j+1)) (j+1) (UR.set x true)=bq m rs[m].e.kind rs[m].e.kids 0 out):=by
     show _=_;rw [<-HJ.out,jF _ _ _ _ _ hjl,hx];simp [*]
    go_wp2;go_roundw;case rel=>exact ⟨j+1,UR.set x true,by omega,by go_num,by simp [ho2],HJ2,WK⟩
    simp [intOf] <;> omega
   rw [hb0]at c0 Zv;cases hkb:(rs[m].e.kind==6);case false=>
    have WK:Hid (Fil w (wr.setCell ⟨w.heap.size,x,none⟩ (.bool false)) w.heap.size rs.length (bools (UR.set x false))):=by show Fil _ _ _ _ _;rw [nX];exact VV.out.set _ (by simp [bools];omega) (by omega)
    have HJ2:Hid (bq m rs[m].e.kind (rs[m].e.kids.drop (j+1)) (j+1) (UR.set x false)=bq m rs[m].e.kind rs[m].e.kids 0 out):=by
     show _=_;rw [<-HJ.out,jF _ _ _ _ _ hjl,hx];simp [*]
    go_wp2;go_roundw;case rel=>exact ⟨j+1,UR.set x false,by omega,by go_num,by simp [ho2],HJ2,WK⟩
    simp [intOf] <;> omega
   cases hjb:((j:Int)==1);case true=>
    have hjn:(j==1)=true:=by simp at hjb ⊢;omega
    have WK:Hid (Fil w (wr.setCell ⟨w.heap.size,x,none⟩ (.bool true)) w.heap.size rs.length (bools (UR.set x true))):=by show Fil _ _ _ _ _;rw [nX];exact VV.out.set _ (by simp [bools];omega) (by omega)
    have HJ2:Hid (bq m rs[m].e.kind (rs[m].e.kids.drop (j+1)) (j+1) (UR.set x true)=bq m rs[m].e.kind rs[m].e.kids 0 out):=by
     show _=_;rw [<-HJ.out,jF _ _ _ _ _ hjl,hx];simp [*]
    go_wp2;go_roundw;case rel=>exact ⟨j+1,UR.set x true,by omega,by go_num,by simp [ho2],HJ2,WK⟩
    simp [intOf] <;> omega
   have hjn:(j==1)=false:=by simp at hjb ⊢;omega
   have WK:Hid (Fil w (wr.setCell ⟨w.heap.size,x,none⟩ (.bool false)) w.heap.size rs.length (bools (UR.set x false))):=by show Fil _ _ _ _ _;rw [nX];exact VV.out.set _ (by simp [bools];omega) (by omega)
   have HJ2:Hid (bq m rs[m].e.kind (rs[m].e.kids.drop (j+1)) (j+1) (UR.set x false)=bq m rs[m].e.kind rs[m].e.kids 0 out):=by
    show _=_;rw [<-HJ.out,jF _ _ _ _ _ hjl,hx];simp [*]
   go_wp2;go_roundw;case rel=>exact ⟨j+1,UR.set x false,by omega,by go_num,by simp [ho2],HJ2,WK⟩
   simp [intOf] <;> omega
  have XM:Hid (dV (aj rs) m UR=dC (aj rs)):=by
   show _=_;rw [<-HNX.out,<-HJ.out,List.drop_of_length_le (by omega)];rfl
  go_wp2;go_roundw;case rel=>exact ⟨m,UR,by omega,by go_num,ho2,XM,VV⟩
  simp [intOf] <;> omega
 obtain rfl:m=0:=by omega
 have WZ:Hid (Fil w wr w.heap.size rs.length (bools (dC (aj rs)))):=by
  show Fil _ _ _ _ _;rw [<-HN.out];exact HF.out
 go_wp2;go_ret;exact ⟨rfl,WZ.out⟩
end Go.Proofs.YtajkkeikihhejaaGreat
