/- Rows that are copied: what stays theirs. -/
import Derived.Test.YtajkkeikihhejaaGreatSq
import Derived.Test.YtajkkeikihhejaaGreatToOwn
import Derived.OwnWalk
import Derived.Maps.AppendAt
open Go.Proofs.Tryz
namespace Go.Proofs.YtajkkeikihhejaaGreat
open Go.ChangeShapes Go.WideShapes Go.ChangeAt Go.RowKit Go.Maps
open Pl
theorem p9.add {S:Nat→Prop} {b:Nat} {wr wn:af} {qs:List ER} (h:p9 b wr qs) (hc:Chg S wr wn) (hb:b < wr.heap.size) {q:ER} (zA:q.e.allow ≠ []→∃ g,q.adA=some ⟨g,0,none⟩) (zK:q.e.kids ≠ []→∃ g,q.adK=some ⟨g,0,none⟩) (hone:∀ g,bA q g→¬ bK q g) (hq:∀ g,oJ q g→wr.heap.size≤g∧g < wn.heap.size∧gY wn g):p9 b wn (qs ++ [q]):=by
 refine ⟨⟨?_,?_,?_,?_,?_⟩,?_⟩
 ·intro r hr; rw [Uc,Ua] at hr;rcases hr with hr | rfl
  ·exact h.1.zeroA r hr
  exact zA
 ·intro r hr; rw [Uc,Ua] at hr;rcases hr with hr | rfl
  ·exact h.1.zeroK r hr
  exact zK
 ·intro r hr; rw [Uc,Ua] at hr;rcases hr with hr | rfl
  ·exact h.1.head r hr
  intro hg; have:=(hq b hg).1; omega
 ·intro r hr; rw [Uc,Ua] at hr;rcases hr with hr | rfl
  ·exact h.1.one r hr
  exact hone
 ·intro x y hx hy hne g hgx VY;rw [T9,List.length_singleton] at hx hy;by_cases ex:x < qs.length
  ·rw [Uk ex] at hgx;by_cases ey:y < qs.length
   ·rw [Uk ey] at VY;exact h.1.two x y ex ey hne g hgx VY
   rw [Ur (by omega)] at VY;have e1:=(hq g (by simpa using VY)).1;have e2:=(h.2 _ (TQ ex) g hgx).2.1;omega
  rw [Ur (by omega)] at hgx;have e1:=(hq g (by simpa using hgx)).1;have ey:y < qs.length:=by omega
  rw [Uk ey] at VY;have e2:=(h.2 _ (TQ ey) g VY).2.1;omega
 intro r hr g hg; rw [Uc,Ua] at hr;rcases hr with hr | rfl
 ·obtain ⟨a1,a2,a3⟩:=h.2 r hr g hg;exact ⟨a1,TP a2 hc.size,hc.free g a2 a3⟩
 obtain ⟨a1,a2,a3⟩:=hq g hg;exact ⟨by omega,a2,a3⟩
theorem Nk (xs:List Al):∀ u ∈ pairs xs,u.oneCell'=true:=by
 intro u hu;unfold pairs at hu;rw [Uf] at hu;obtain ⟨a,-,h⟩:=hu;simp at h;rcases h with rfl | rfl <;> rfl
theorem Qe (zs:List Int):∀ u ∈ ints zs,u.oneCell'=true:=by
 intro u hu;unfold ints at hu;rw [Ue] at hu;obtain ⟨a,-,rfl⟩:=hu;rfl
theorem Rn {w:af} {base n:Nat} {v:Value} {xs:List Al} (h:w.ownsRow base 43 2 v n (pairs xs)) (hn:n=xs.length):∃ ad cap,v=.slice ad xs.length cap∧jM w ad xs∧(xs ≠ []→∃ g,ad=some ⟨g,0,none⟩)∧∀ g,xs ≠ []→ad=some ⟨g,0,none⟩→base≤g∧g < w.heap.size∧gY w g:=by
 subst hn;have h2:=h;rcases h.2 with ⟨rfl,h0⟩ | ⟨g,cap,cur,rfl,hbg,hg,hnc,-⟩
 ·have hx:xs=[]:=Ui.1 h0;subst hx;exact ⟨none,0,rfl,.inl rfl,fun h=>absurd rfl h,fun _ h=>absurd rfl h⟩
 have hlt:=h2.lt g rfl;refine ⟨some ⟨g,0,none⟩,cap,rfl,.inr ⟨g,0,rfl,hlt.2,fun i hi=>?_⟩,fun _=>⟨g,rfl⟩,fun g' _ e=>?_⟩
 ·have hl:=lq xs;obtain ⟨p0,p1⟩:=nH xs i hi;refine ⟨?_,?_⟩
  ·rw [h2.cellAt (0 + i * 2) (by omega),Um]; exact p0
  rw [h2.cellAt (0 + i * 2 + 1) (by omega),Um]; exact p1
 injection e with e; injection e with e1 e2;subst e1;exact ⟨hlt.1,hlt.2,fun y=>h2.frozenAt y⟩
theorem Ro {w:af} {base n:Nat} {v:Value} {zs:List Int} (h:w.ownsRow base 2 1 v n (ints zs)) (hn:n=zs.length):∃ ad cap,v=.slice ad zs.length cap∧p8 w ad zs∧(zs ≠ []→∃ g,ad=some ⟨g,0,none⟩)∧∀ g,zs ≠ []→ad=some ⟨g,0,none⟩→base≤g∧g < w.heap.size∧gY w g:=by
 subst hn;have h2:=h;rcases h.2 with ⟨rfl,h0⟩ | ⟨g,cap,cur,rfl,hbg,hg,hnc,-⟩
 ·have hx:zs=[]:=Ui.1 h0;subst hx;exact ⟨none,0,rfl,.inl rfl,fun h=>absurd rfl h,fun _ h=>absurd rfl h⟩
 have hlt:=h2.lt g rfl;refine ⟨some ⟨g,0,none⟩,cap,rfl,.inr ⟨g,0,rfl,hlt.2,fun i hi=>?_⟩,fun _=>⟨g,rfl⟩,fun g' _ e=>?_⟩
 ·rw [h2.cellAt (0 + i) (by omega),Um]; simp [ints,hi]
 injection e with e; injection e with e1 e2;subst e1;exact ⟨hlt.1,hlt.2,fun y=>h2.frozenAt y⟩
theorem lW {ops:Array Oper} {rest:List Oper} {o:Oper} {a:Act} {Q:Exit→Act→World→Prop} (w:af) (hgd:o.guard=none) (s x:Operand) (t:TypeId)
  (ho:o.op=.call { callee:=.builtin .append,args:=#[s,x],argTypes:=#[t,t] })
  (e:TypeId) (i:TypeInfo) (z:Value) (size bytes:Nat) (ht:prog.underlying t=some (.slice e)) (hi:prog.info? e=some i) (hz:i.zero=some z)
  (hsize:i.size=size) (hby:i.bytes=bytes) (hzs:z.cells.size=size) (hsz:0 < size)
  (hs:a.eval s=.slice none 0 0)
  (ad:Option Addr) (m c:Nat) (news:List Value) (hx:a.eval x=.slice ad m c) (hl:news.length=m * size) (hn0:ad=none→m=0) (hnews:∀ A,ad=some A→∀ j u,news[j]?=some u→w.cell? (A.add j)=some u) (h1:∀ u ∈ news,u.oneCell'=true)
  (h63:0 + m≤maxLen) (hbytes:(0 + m) * bytes≤140737488355328)
  (h:∀ v' w',w'.ownsRow w.heap.size e size v' (0 + m) ([] ++ news)→w.grownBy w' (Value.ownBlock (.slice none 0 0))→wpList prog ops Q rest (a.put o.dst v') w'):wpList prog ops Q (o::rest) a w:=by
 cases ad;case some A=>exact wpList_append_own w hgd s x t ho w.heap.size e i z size bytes ht hi hz hsize hby hzs hsz (.slice none 0 0) 0 [] hs (World.ownsRow_nil _ _ _ _) A m c news hx hl (hnews A rfl) h1 h63 hbytes (TS _) fun v' w' a b _=>h v' w' a b
 obtain rfl:=hn0 rfl;have hn:news=[]:=List.eq_nil_of_length_eq_zero (by simpa using hl);subst hn;refine wpList_plain hgd fun K hK=>?_;have hr:(Builtin.append_ #[t,t] o.type #[.slice none 0 0,.slice none 0 c]).run prog w=.ok (.slice none 0 0) w:=by
  simp [Builtin.append_,run_underlying ht,sizeOf,typeInfo,hi,Builtin.lenOf,Builtin.firstCells]
 unfold Oper.wp execOp;simp only [ho,resolve,invoke,builtin,Sem.run_bind,Sem.run_pure,Result.andThen_ok,List.map_toArray,List.map_cons,List.map_nil,hs,hx,hr];exact hK _ _ (h _ w (World.ownsRow_nil w _ e size) ⟨rfl,rfl,rfl,TS _,fun _ _ _=>rfl⟩)
theorem RZ {w:af} {ad:Option Addr} {xs:List Al} (h:jM w ad xs):∀ A,ad=some A→∀ j u,(pairs xs)[j]?=some u→w.cell? (A.add j)=some u:=by
 intro A hA j u hu;subst hA;have hl:=lq xs;have hj:j < (pairs xs).length:=by
  rcases Nat.lt_or_ge j (pairs xs).length with h' | h'
  ·exact h'
  rw [List.getElem?_eq_none h'] at hu; cases hu
 rcases h with rfl | ⟨b,off,e,hb,hr⟩
 ·simp [pairs] at hj
 injection e with e;subst e;obtain ⟨i,hi⟩:∃ i,j=i * 2 ∨ j=i * 2 + 1:=⟨j / 2,by omega⟩;rw [show (⟨b,off,none⟩:Addr).add j=⟨b,off + j,none⟩ by simp [Addr.add]];rcases hi with rfl | rfl
 ·rw [(nH xs i (by omega)).1] at hu;injection hu with hu; subst hu;exact (hr i (by omega)).1
 rw [(nH xs i (by omega)).2] at hu;injection hu with hu; subst hu;have:=(hr i (by omega)).2;rw [show off + i * 2 + 1=off + (i * 2 + 1) by omega] at this;exact this
theorem R3 {w:af} {ad:Option Addr} {zs:List Int} (h:p8 w ad zs):∀ A,ad=some A→∀ j u,(ints zs)[j]?=some u→w.cell? (A.add j)=some u:=by
 intro A hA j u hu;subst hA;have hj:j < (ints zs).length:=by
  rcases Nat.lt_or_ge j (ints zs).length with h' | h'
  ·exact h'
  rw [List.getElem?_eq_none h'] at hu; cases hu
 rcases h with rfl | ⟨b,off,e,hb,hr⟩
 ·simp [ints] at hj
 injection e with e;subst e;have hj2:j < zs.length:=by simpa [ints] using hj
 have:=hr j hj2;unfold ints at hu;rw [List.getElem?_map,TY hj2] at hu;simp at hu;subst hu;rw [show (⟨b,off,none⟩:Addr).add j=⟨b,off + j,none⟩ by simp [Addr.add]];exact this
theorem jM.none0 {w:af} {ad:Option Addr} {xs:List Al} (h:jM w ad xs):ad=none→xs.length=0:=fun e=>by
 rcases h with rfl | ⟨b,off,e',-⟩
 ·rfl
 rw [e'] at e; cases e
theorem p8.none0 {w:af} {ad:Option Addr} {zs:List Int} (h:p8 w ad zs):ad=none→zs.length=0:=fun e=>by
 rcases h with rfl | ⟨b,off,e',-⟩
 ·rfl
 rw [e'] at e; cases e
theorem jM.grown {w w':af} {row:Option Nat} {ad:Option Addr} {xs:List Al} (h:jM w ad xs) (hg:w.grownBy w' row) (hn:∀ g o,xs ≠ []→ad=some ⟨g,o,none⟩→some g ≠ row):jM w' ad xs:=by
 rcases h with h | ⟨b,off,e,hb,hr⟩
 ·exact .inl h
 by_cases hx:xs=[]
 ·exact .inl hx
 exact .inr ⟨b,off,e,TP hb hg.size,fun i hi=>⟨hg.cell (hr i hi).1 (hn b off hx e),hg.cell (hr i hi).2 (hn b off hx e)⟩⟩
theorem p8.grown {w w':af} {row:Option Nat} {ad:Option Addr} {zs:List Int} (h:p8 w ad zs) (hg:w.grownBy w' row) (hn:∀ g o,zs ≠ []→ad=some ⟨g,o,none⟩→some g ≠ row):p8 w' ad zs:=by
 rcases h with h | ⟨b,off,e,hb,hr⟩
 ·exact .inl h
 by_cases hx:zs=[]
 ·exact .inl hx
 exact .inr ⟨b,off,e,TP hb hg.size,fun i hi=>hg.cell (hr i hi) (hn b off hx e)⟩
structure Beside (w:World) (v:Value) (q:ER):Prop where
 ok:q.ok w
 zA:q.e.allow ≠ []→∃ g,q.adA=some ⟨g,0,none⟩
 zK:q.e.kids ≠ []→∃ g,q.adK=some ⟨g,0,none⟩
 lt:∀ g,oJ q g→g < w.heap.size∧v.ownBlock ≠ some g
theorem Beside.below {w w':af} {v:Value} {q:ER} (h:Beside w v q) (hb:ag w w'):Beside w' v q :=
 ⟨h.ok.below hb,h.zA,h.zK,fun g hg=>⟨TP (h.lt g hg).1 hb.size,(h.lt g hg).2⟩⟩
theorem Beside.grown {w w':af} {v v':Value} {q:ER} (h:Beside w v q) (hg:w.grownBy w' v.ownBlock) (hv:v'.ownBlock=v.ownBlock ∨ v'.ownBlock=some w.heap.size):Beside w' v' q:=by
 refine ⟨⟨h.ok.1.grown hg fun g o hne e=>?_,h.ok.2.grown hg fun g o hne e=>?_⟩,h.zA,h.zK,fun g hi=>⟨TP (h.lt g hi).1 hg.size,?_⟩⟩
 ·obtain ⟨g0,e0⟩:=h.zA hne;rw [e0] at e; injection e with e; injection e with e1 e2;subst e1;exact fun e=>(h.lt g0 (.inl ⟨hne,e0⟩)).2 e.symm
 ·obtain ⟨g0,e0⟩:=h.zK hne;rw [e0] at e; injection e with e; injection e with e1 e2;subst e1;exact fun e=>(h.lt g0 (.inr ⟨hne,e0⟩)).2 e.symm
 rcases hv with e | e
 ·rw [e]; exact (h.lt g hi).2
 rw [e]; intro e2; injection e2 with e2; have:=(h.lt g hi).1; omega
theorem Rp {w:af} {base n:Nat} {v:Value} {qs:List ER} (h:w.ownsRow base 39 5 v n (gZ qs)) (hn:n=qs.length) (hok:∀ q ∈ qs,q.ok w):∃ ad cap,v=.slice ad qs.length cap∧iH w ad qs:=by
 subst hn;have h2:=h;rcases h.2 with ⟨rfl,h0⟩ | ⟨g,cap,cur,rfl,hbg,hg,hnc,-⟩
 ·exact ⟨none,0,by rw [h0],.inl (Ui.1 h0)⟩
 have hlt:=h2.lt g rfl;refine ⟨some ⟨g,0,none⟩,cap,rfl,.inr ⟨g,0,rfl,hlt.2,fun i hi=>?_,hok⟩⟩;have hl:=q8 qs;have key:∀ j,j < 5→w.cell? ⟨g,0 + i * 5 + j,none⟩=(qs[i]).row[j]?:=fun j hj=>by
  rw [h2.cellAt (0 + i * 5 + j) (by omega),← yT qs i hi j hj,Um]
 exact ⟨key 0 (by omega),key 1 (by omega),key 2 (by omega),key 3 (by omega),key 4 (by omega)⟩
theorem KU (w:af) (q:ER):∀ j u,q.row[j]?=some u→(w.alloc (.cells #[.int .i64 q.e.kind,.slice q.adA q.e.allow.length q.capA,.string q.e.over,.string q.e.name,.slice q.adK q.e.kids.length q.capK] 39)).cell? ((⟨w.heap.size,0,none⟩:Addr).add j)=some u:=by
 intro j u hu;rw [show (⟨w.heap.size,0,none⟩:Addr).add j=⟨w.heap.size,0 + j,none⟩ by simp [Addr.add]; omega,Um];have:=World.cell?_alloc_mark w #[.int .i64 q.e.kind,.slice q.adA q.e.allow.length q.capA,.string q.e.over,.string q.e.name,.slice q.adK q.e.kids.length q.capK] 39 (0,0) j;rw [this];simpa [ER.row] using hu
theorem Nl (q:ER):∀ u ∈ q.row,u.oneCell'=true:=by
 intro u hu;simp [ER.row] at hu;rcases hu with rfl | rfl | rfl | rfl | rfl <;> rfl
set_option maxRecDepth 100000
theorem jM.heap {w w':af} {ad:Option Addr} {xs:List Al} (h:jM w ad xs) (hs:w.heap.size≤w'.heap.size) (hz:xs ≠ []→∃ g,ad=some ⟨g,0,none⟩) (hn:∀ g,xs ≠ []→ad=some ⟨g,0,none⟩→w'.heap[g]?=w.heap[g]?):jM w' ad xs:=by
 rcases h with h | ⟨b,off,e,hb,hr⟩
 ·exact .inl h
 by_cases hx:xs=[]
 ·exact .inl hx
 obtain ⟨g,eg⟩:=hz hx;have e2:=e;rw [eg] at e; injection e with e; injection e with e1 e3;subst e1;have hh:=hn g hx eg;exact .inr ⟨g,off,e2,TP hb hs,fun i hi=>⟨(Ul (w:=w) (a:=⟨g,_,none⟩) hh).trans (hr i hi).1,(Ul (w:=w) (a:=⟨g,_,none⟩) hh).trans (hr i hi).2⟩⟩
theorem p8.heap {w w':af} {ad:Option Addr} {xs:List Int} (h:p8 w ad xs) (hs:w.heap.size≤w'.heap.size) (hz:xs ≠ []→∃ g,ad=some ⟨g,0,none⟩) (hn:∀ g,xs ≠ []→ad=some ⟨g,0,none⟩→w'.heap[g]?=w.heap[g]?):p8 w' ad xs:=by
 rcases h with h | ⟨b,off,e,hb,hr⟩
 ·exact .inl h
 by_cases hx:xs=[]
 ·exact .inl hx
 obtain ⟨g,eg⟩:=hz hx;have e2:=e;rw [eg] at e; injection e with e; injection e with e1 e3;subst e1;have hh:=hn g hx eg;exact .inr ⟨g,off,e2,TP hb hs,fun i hi=>(Ul (w:=w) (a:=⟨g,_,none⟩) hh).trans (hr i hi)⟩
theorem rf {w w':af} {q:ER} (h:q.ok w) (hs:w.heap.size≤w'.heap.size) (zA:q.e.allow ≠ []→∃ g,q.adA=some ⟨g,0,none⟩) (zK:q.e.kids ≠ []→∃ g,q.adK=some ⟨g,0,none⟩) (hn:∀ g,oJ q g→w'.heap[g]?=w.heap[g]?):q.ok w' :=
 ⟨h.1.heap hs zA fun g h1 h2=>hn g (.inl ⟨h1,h2⟩),h.2.heap hs zK fun g h1 h2=>hn g (.inr ⟨h1,h2⟩)⟩
theorem df {w w':af} {g:Nat} (h:gY w g) (hh:w'.heap[g]?=w.heap[g]?):gY w' g:=fun j=>(World.frozen?_of_block (w:=w) (a:=⟨g,j,none⟩) hh).trans (h j)
theorem jr {w w':af} {base:Nat} {e:TypeId} {size:Nat} {v:Value} {n:Nat} {xs:List Value} (h:w.ownsRow base e size v n xs) (hh:∀ g,v.ownBlock=some g→w'.heap[g]?=w.heap[g]?):w'.ownsRow base e size v n xs:=by
 refine ⟨h.1,?_⟩;rcases h.2 with hl | ⟨g,cap,cur,rfl,h1,h2,h3⟩
 ·exact .inl hl
 exact .inr ⟨g,cap,cur,rfl,h1,(hh g rfl).trans h2,h3⟩
structure NewQ (X:Nat) (w:World) (q:ER):Prop where
 zA:q.e.allow ≠ []→∃ g,q.adA=some ⟨g,0,none⟩
 zK:q.e.kids ≠ []→∃ g,q.adK=some ⟨g,0,none⟩
 ok:q.ok w
 lie:∀ g,oJ q g→X≤g∧g < w.heap.size∧gY w g
 one:∀ g,bA q g→¬ bK q g
 cA:q.e.allow.length≤q.capA
theorem H7 (qs:List ER) (q:ER):gZ (qs ++ [q])=gZ qs ++ q.row:=by simp [gZ]
set_option linter.unusedVariables false
structure Kid {α:Type} (K:World→Nat→α→Prop) (I:α→Nat→Prop):Prop where
 heap:∀ (w w':World) (base:Nat) (q:α),K w base q→w.heap.size≤w'.heap.size→(∀ g,I q g→w'.heap[g]?=w.heap[g]?)→K w' base q
 lt:∀ (w:World) (base:Nat) (q:α),K w base q→∀ g,I q g→base≤g∧g < w.heap.size
def Fx {α:Type} (I:α→Nat→Prop) (v:Value) (rs:List α) (g:Nat):Prop:=v.ownBlock=some g ∨ ∃ q ∈ rs,I q g
structure UN {α:Type} (T:TypeId) (size:Nat) (cells:α→List Value) (K:World→Nat→α→Prop) (I:α→Nat→Prop) (w:World) (base:Nat) (v:Value) (rs:List α):Prop where
 own:w.ownsRow base T size v rs.length (rs.flatMap cells)
 kid:∀ q ∈ rs,K w base q
 head:∀ q ∈ rs,∀ g,I q g→v.ownBlock ≠ some g
 two:∀ (x y:Nat) (hx:x < rs.length) (hy:y < rs.length),x ≠ y→∀ g,I rs[x] g→¬ I rs[y] g
section
variable {α:Type} {T:TypeId} {size:Nat} {cells:α→List Value} {K:World→Nat→α→Prop} {I:α→Nat→Prop} {w w':World} {base:Nat} {v:Value} {rs:List α}
theorem UN.lt (kd:Kid K I) (h:UN T size cells K I w base v rs) {g:Nat} (hg:Fx I v rs g):base≤g∧g < w.heap.size:=by
 rcases hg with hg | ⟨q,hq,hg⟩
 ·exact h.own.lt g hg
 exact kd.lt w base q (h.kid q hq) g hg
theorem UN.heap (kd:Kid K I) (h:UN T size cells K I w base v rs) (hs:w.heap.size≤w'.heap.size) (hh:∀ g,Fx I v rs g→w'.heap[g]?=w.heap[g]?):UN T size cells K I w' base v rs where
 own:=jr h.own fun g hg=>hh g (.inl hg)
 kid q hq:=kd.heap w w' base q (h.kid q hq) hs fun g hg=>hh g (.inr ⟨q,hq,hg⟩)
 head:=h.head
 two:=h.two
theorem UN.below (kd:Kid K I) (h:UN T size cells K I w base v rs) (hb:ag w w'):UN T size cells K I w' base v rs :=
 h.heap kd hb.size fun g hg=>hb.block g (h.lt kd hg).2
theorem Nn (w:af) (base:Nat):UN T size cells K I w base (.slice none 0 0) [] :=
 ⟨World.ownsRow_nil _ _ _ _,fun q hq=>(by cases hq),fun q hq=>(by cases hq),fun x y hx=>absurd hx (by simp)⟩
theorem Fy {rs:List α} {q:α} (h:∀ (x y:Nat) (hx:x < rs.length) (hy:y < rs.length),x ≠ y→∀ g,I rs[x] g→¬ I rs[y] g) (hq:∀ p ∈ rs,∀ g,I p g→¬ I q g) :
  ∀ (x y:Nat) (hx:x < (rs ++ [q]).length) (hy:y < (rs ++ [q]).length),x ≠ y→∀ g,I (rs ++ [q])[x] g→¬ I (rs ++ [q])[y] g:=by
 intro x y hx hy hxy g h1 h2;rw [T9,List.length_singleton] at hx hy;by_cases ex:x < rs.length
 ·rw [Uk ex] at h1;by_cases ey:y < rs.length
  ·rw [Uk ey] at h2;exact h x y ex ey hxy g h1 h2
  have:y=rs.length:=by omega
  subst this;rw [Ur (TS _)] at h2;simp at h2;exact hq _ (TQ ex) g h1 h2
 have:x=rs.length:=by omega
 subst this;rw [Ur (TS _)] at h1;simp at h1;have ey:y < rs.length:=by omega
 rw [Uk ey] at h2;exact hq _ (TQ ey) g h2 h1
theorem Np {rs:List α} {q:α} (h:∀ (x y:Nat) (hx:x < (rs ++ [q]).length) (hy:y < (rs ++ [q]).length),x ≠ y→∀ g,I (rs ++ [q])[x] g→¬ I (rs ++ [q])[y] g) :
  (∀ (x y:Nat) (hx:x < rs.length) (hy:y < rs.length),x ≠ y→∀ g,I rs[x] g→¬ I rs[y] g)∧∀ p ∈ rs,∀ g,I p g→¬ I q g:=by
 refine ⟨fun x y hx hy hxy g h1 h2=>?_,fun p hp g h1 h2=>?_⟩
 ·exact h x y (by simp; omega) (by simp; omega) hxy g (by rw [Uk hx]; exact h1) (by rw [Uk hy]; exact h2)
 obtain ⟨x,hx,rfl⟩:=Uu hp;exact h x rs.length (by simp; omega) (by simp) (by omega) g (by rw [Uk hx]; exact h1) (by rw [Ur (TS _)]; simpa using h2)
theorem UN.snoc (kd:Kid K I) (h:UN T size cells K I w base v rs) {q:α} {v':Value} (hown:w'.ownsRow base T size v' (rs.length + 1) (rs.flatMap cells ++ cells q)) (hg:w.grownBy w' v.ownBlock) (hat:v'.ownBlock=v.ownBlock ∨ ∃ g,v'.ownBlock=some g∧w.heap.size≤g)
  (hq:K w base q) (hv:∀ g,I q g→v.ownBlock ≠ some g) (hr:∀ p ∈ rs,∀ g,I p g→¬ I q g):UN T size cells K I w' base v' (rs ++ [q]):=by
 have keep:∀ (p:α),K w base p→(∀ g,I p g→v.ownBlock ≠ some g)→K w' base p:=fun p hp hn=>kd.heap w w' base p hp hg.size fun g hi=>hg.block g (kd.lt w base p hp g hi).2 (fun e=>hn g hi e.symm);have apart:∀ (p:α),K w base p→(∀ g,I p g→v.ownBlock ≠ some g)→∀ g,I p g→v'.ownBlock ≠ some g:=fun p hp hn g hi=>by
  rcases hat with e | ⟨g',e,hge⟩
  ·rw [e]; exact hn g hi
  rw [e]; intro e2; injection e2 with e2; have:=(kd.lt w base p hp g hi).2; omega
 refine ⟨by simpa using hown,fun p hp=>?_,fun p hp=>?_,Fy h.two hr⟩
 ·rcases Uc.1 hp with hp | hp
  ·exact keep p (h.kid p hp) (h.head p hp)
  rw [Ua] at hp; subst hp; exact keep _ hq hv
 rcases Uc.1 hp with hp | hp
 ·exact apart p (h.kid p hp) (h.head p hp)
 rw [Ua] at hp; subst hp; exact apart _ hq hv
theorem UN.last (kd:Kid K I) {xs:List α} {q q':α} {b n cap j:Nat} {u:Value} {w1:af} {row:Option Nat} (h:UN T size cells K I w base (.slice (some ⟨b,0,none⟩) n cap) (xs ++ [q])) (hn:n=xs.length + 1)
  (hg:w.grownBy w1 row) (hrow:∀ r,row=some r→I q r) (hq':K w1 base q') (hI:∀ g,I q' g→I q g ∨ (g ≠ b∧∀ p ∈ xs,¬ I p g)) (hset:((xs ++ [q]).flatMap cells).set j u=(xs ++ [q']).flatMap cells) :
  UN T size cells K I (w1.setCell ⟨b,j,none⟩ u) base (.slice (some ⟨b,0,none⟩) n cap) (xs ++ [q']):=by
 have hbl:b < w.heap.size:=(h.own.lt b rfl).2;have hq:=h.kid q (by simp);have Y0:∀ g,I q g→g ≠ b:=fun g hi e=>h.head q (by simp) g hi (by rw [e]; rfl);have hq'b:∀ g,I q' g→g ≠ b:=fun g hi e=>by
  rcases hI g hi with h2 | h2
  ·exact Y0 g h2 e
  exact h2.1 e
 have hb1:w1.heap[b]?=w.heap[b]?:=hg.block b hbl (fun e=>Y0 b (hrow b e.symm) rfl);have Yz:w1.ownsRow base T size (.slice (some ⟨b,0,none⟩) n cap) (xs ++ [q]).length ((xs ++ [q]).flatMap cells):=jr h.own fun g hgo=>by
  have e:b=g:=by simpa [Value.ownBlock] using hgo
  rw [← e]; exact hb1
 have hlen:(xs ++ [q]).length=n:=by simp [hn]
 rw [hlen] at Yz;obtain ⟨Xq,hg2⟩:=Yz.stored j u;rw [hset] at Xq;obtain ⟨ht1,ht2⟩:=Np h.two;have h2s:∀ g,g ≠ b→(w1.setCell ⟨b,j,none⟩ u).heap[g]?=w1.heap[g]?:=fun g hne=>Below.heap_setCell w1 _ u g hne;refine ⟨by simpa [hn] using Xq,fun p hp=>?_,fun p hp g hi=>?_,Fy ht1 fun p hp g hi hi'=>?_⟩
 ·rcases Uc.1 hp with hp | hp
  ·have hkp:=h.kid p (by simp [hp]);refine kd.heap w _ base p hkp (TZ hg.size hg2.size) fun g hi=>?_;have hl:=(kd.lt w base p hkp g hi).2;rw [h2s g (fun e=>h.head p (by simp [hp]) g hi (by rw [e]; rfl))];exact hg.block g hl (fun e=>ht2 p hp g hi (hrow g e.symm))
  rw [Ua] at hp; subst hp;exact kd.heap w1 _ base _ hq' hg2.size fun g hi=>h2s g (hq'b g hi)
 ·intro e;have e:b=g:=by simpa [Value.ownBlock] using e
  rcases Uc.1 hp with hp | hp
  ·exact h.head p (by simp [hp]) g hi (by rw [← e]; rfl)
  rw [Ua] at hp; subst hp;exact hq'b g hi e.symm
 rcases hI g hi' with h2 | h2
 ·exact ht2 p hp g hi h2
 exact h2.2 p hp hi
end
structure NodM (w:World) (base:Nat) (v:Value) (qs:List ER):Prop where
 own:w.ownsRow base 39 5 v qs.length (gZ qs)
 zA:∀ q ∈ qs,q.e.allow ≠ []→∃ g,q.adA=some ⟨g,0,none⟩
 zK:∀ q ∈ qs,q.e.kids ≠ []→∃ g,q.adK=some ⟨g,0,none⟩
 ok:∀ q ∈ qs,q.ok w
 lie:∀ q ∈ qs,∀ g,oJ q g→base≤g∧g < w.heap.size∧gY w g∧v.ownBlock ≠ some g
 one:∀ q ∈ qs,∀ g,bA q g→¬ bK q g
 two:∀ (x y:Nat) (hx:x < qs.length) (hy:y < qs.length),x ≠ y→∀ g,oJ qs[x] g→¬ oJ qs[y] g
 cA:∀ q ∈ qs,q.e.allow.length≤q.capA
theorem NodM.mono {w:af} {base base':Nat} {v:Value} {qs:List ER} (h:NodM w base v qs) (hb:base'≤base):NodM w base' v qs :=
 ⟨⟨h.own.1,by
  rcases h.own.2 with hl | ⟨g,cap,cur,e,h1,h2⟩
  ·exact .inl hl
  exact .inr ⟨g,cap,cur,e,TZ hb h1,h2⟩⟩,h.zA,h.zK,h.ok,fun q hq g hg=>⟨TZ hb (h.lie q hq g hg).1,(h.lie q hq g hg).2⟩,h.one,h.two,h.cA⟩
def RR.vs (q:RR):Value:=.slice q.ad q.rows.length q.cap
def TR.vs (q:TR):Value:=.slice q.ad q.rows.length q.cap
def kR (w:World) (base:Nat) (q:RR):Prop:=NodM w base q.vs q.rows
def iR (q:RR):Nat→Prop:=Fx oJ q.vs q.rows
theorem H8:Kid kR iR where
 heap w w' base q h hs hh:={
  own:=jr h.own fun g hg=>hh g (.inl hg)
  zA:=h.zA
  zK:=h.zK
  ok:=fun x hx=>rf (h.ok x hx) hs (h.zA x hx) (h.zK x hx) fun g hg=>hh g (.inr ⟨x,hx,hg⟩)
  lie:=fun x hx g hg=>by
   obtain ⟨a1,a2,a3,a4⟩:=h.lie x hx g hg;exact ⟨a1,TP a2 hs,df a3 (hh g (.inr ⟨x,hx,hg⟩)),a4⟩
  one:=h.one
  two:=h.two
  cA:=h.cA }
 lt w base q h g hg:=by
  rcases hg with hg | ⟨x,hx,hg⟩
  ·exact h.own.lt g hg
  exact ⟨(h.lie x hx g hg).1,(h.lie x hx g hg).2.1⟩
def RR.cells (q:RR):List Value:=[.string q.name,q.vs]
def TR.cells (q:TR):List Value:=[.string q.name,q.vs]
abbrev BB:=UN 147 2 RR.cells kR iR
def kT (w:World) (base:Nat) (q:TR):Prop:=BB w base q.vs q.rows
def iT (q:TR):Nat→Prop:=Fx iR q.vs q.rows
theorem mH:Kid kT iT where
 heap w w' base q h hs hh:=UN.heap H8 h hs hh
 lt w base q h g hg:=UN.lt H8 h hg
abbrev iJ:=UN 127 2 TR.cells kT iT
theorem rq {α:Type} {cells:α→List Value} (h2:∀ q,(cells q).length=2):∀ (rs:List α) (i:Nat) (h:i < rs.length) (j:Nat),j < 2→(rs.flatMap cells)[i * 2 + j]?=(cells rs[i])[j]?
 | [],i,h,_,_=>by simp at h
 | r::rs,0,_,j,hj=>by
  simp only [List.flatMap_cons,Nat.zero_mul,Um,List.getElem_cons_zero];rw [List.getElem?_append_left (by rw [h2]; exact hj)]
 | r::rs,i + 1,h,j,hj=>by
  have:=rq h2 rs i (by simpa using h) j hj;simp only [List.flatMap_cons,List.getElem_cons_succ];rw [List.getElem?_append_right (by rw [h2]; omega),h2,← this];congr 1;omega
theorem oK {α:Type} {cells:α→List Value} (h2:∀ q,(cells q).length=2):∀ (rs:List α),(rs.flatMap cells).length=rs.length * 2
 | []=>rfl
 | r::rs=>by simp only [List.flatMap_cons,T9,h2,oK h2 rs,List.length_cons]; omega
theorem R4 {w:af} {base:Nat} {q:TR} (h:kT w base q):M8 w q.ad q.rows:=by
 by_cases hz:q.rows=[]
 ·exact .inl hz
 rcases h.own.2 with ⟨-,h0⟩ | ⟨g,cap,cur,e,-⟩
 ·exact absurd (Ui.1 h0) hz
 have h3:=h.own;unfold TR.vs at e h3;injection e with e1 e2 e3;rw [e1] at h3;refine .inr ⟨g,0,e1,(h3.lt g rfl).2,fun i hi=>?_,fun r hr=>?_⟩
 ·have hl:(q.rows.flatMap RR.cells).length=q.rows.length * 2:=oK (fun _=>rfl) _;have key:∀ j,j < 2→w.cell? ⟨g,0 + i * 2 + j,none⟩=(RR.cells q.rows[i])[j]?:=fun j hj=>by
   rw [h3.cellAt (0 + i * 2 + j) (by omega),← rq (fun _=>rfl) q.rows i hi j hj,Um]
  exact ⟨key 0 (by omega),key 1 (by omega)⟩
 have hk:=h.kid r hr;obtain ⟨ad,cap',e4,hsl⟩:=Rp hk.own rfl hk.ok;unfold RR.vs at e4;injection e4 with e5 e6 e7;show iH w r.ad r.rows;rw [e5]; exact hsl
theorem Nq {w:af} {base size n cap:Nat} {e:TypeId} {ad:Option Addr} {xs:List Value} (h:w.ownsRow base e size (.slice ad n cap) n xs):n≤cap:=by
 rcases h.2 with ⟨e1,h0⟩ | ⟨g,cap',cur,e1,-,-,hnc,-⟩
 ·injection e1 with _ e2 e3; omega
 injection e1 with _ e2 e3; omega
theorem iJ.read {w:af} {base:Nat} {v:Value} {rs:List TR} (h:iJ w base v rs):∃ ad cap,v=.slice ad rs.length cap∧kX w ad rs∧∀ r ∈ rs,r.caps:=by
 have hc:∀ r ∈ rs,r.caps:=fun r hr=>⟨Nq (h.kid r hr).own,fun q hq=>⟨Nq ((h.kid r hr).kid q hq).own,((h.kid r hr).kid q hq).cA⟩⟩;rcases h.own.2 with ⟨rfl,h0⟩ | ⟨g,cap,cur,rfl,-⟩
 ·exact ⟨none,0,by rw [h0],.inl (Ui.1 h0),hc⟩
 have h3:=h.own;refine ⟨some ⟨g,0,none⟩,cap,rfl,.inr ⟨g,0,rfl,(h3.lt g rfl).2,fun i hi=>?_,fun r hr=>R4 (h.kid r hr)⟩,hc⟩;have hl:(rs.flatMap TR.cells).length=rs.length * 2:=oK (fun _=>rfl) _;have key:∀ j,j < 2→w.cell? ⟨g,0 + i * 2 + j,none⟩=(TR.cells rs[i])[j]?:=fun j hj=>by
  rw [h3.cellAt (0 + i * 2 + j) (by omega),← rq (fun _=>rfl) rs i hi j hj,Um]
 exact ⟨key 0 (by omega),key 1 (by omega)⟩
def jQ (x y:Al):Bool:=x.t.toList == y.t.toList && x.s.toList == y.s.toList
def Fz (a:Al):Bool:=aP a.t && ul a.s
def dF (xs:List Al) (k:Nat) (a:Al):Bool:=(xs.take k).any fun x=>jQ x a
theorem sN (xs:List Al) (k:Nat) (a:Al) (h:k < xs.length):dF xs (k + 1) a=(dF xs k a || jQ xs[k] a):=by
 unfold dF; rw [TV h,List.any_append]; simp
theorem sO (xs:List Al) (a:Al):dF xs 0 a=false:=by simp [dF]
def DZ (xs:List Al):Nat→Bool
 | 0=>true
 | k + 1=>DZ xs k && (xs[k]?.map fun a=>Fz a && !dF xs k a).getD true
theorem yU (xs:List Al) (k:Nat) (h:k < xs.length):DZ xs (k + 1)=(DZ xs k && (Fz xs[k] && !dF xs k xs[k])):=by
 simp [DZ,h]
theorem oL (xs:List Al) (k:Nat) (h:k < xs.length) (hb:(Fz xs[k] && !dF xs k xs[k])=false):∀ n,k < n→DZ xs n=false
 | 0,hn=>by omega
 | n + 1,hn=>by
  by_cases e:n=k
  ·subst e; rw [yU _ _ h,hb]; simp
  simp [DZ,oL xs k h hb n (by omega)]
def eu (xs:List Al):Bool:=decide (1≤xs.length) && decide (xs.length≤6) && DZ xs xs.length
def ax (e:Ex):Bool :=
 if e.kind=1 then eu e.allow && e.over.toList.isEmpty && e.name.toList.isEmpty && decide (e.kids.length=0)
 else if e.kind=2 then aP e.name && decide (e.allow.length=0) && e.over.toList.isEmpty && decide (e.kids.length=0)
 else if e.kind=3 then aP e.over && aP e.name && decide (e.allow.length=0) && decide (e.kids.length=0)
 else if e.kind=4 ∨ e.kind=5 then decide (2≤e.kids.length) && decide (e.kids.length≤5) && decide (e.allow.length=0) && e.over.toList.isEmpty && e.name.toList.isEmpty
 else if e.kind=6 then decide (e.kids.length=2) && decide (e.allow.length=0) && e.over.toList.isEmpty && e.name.toList.isEmpty
 else false
def di (f:Int→Int):List Int→Int→Int
 | [],at'=>at' + 1
 | k::ks,at'=>if at' < 0 ∨ k ≠ at' then -1 else if f at' < 0 then -1 else di f ks (f at' - 1)
def dC (es:List Ex) (n:Nat):List Int:=(es[n]?.map Ex.kids).getD []
def ay (es:List Ex) (n:Nat):Int:=di (fun x=>if _h:0≤x∧x.toNat < n then ay es x.toNat else -1) (dC es n).reverse ((n:Int) - 1)
def dx (es:List Ex) (n:Nat) (x:Int):Int:=if 0≤x∧x.toNat < n then ay es x.toNat else -1
theorem jb (es:List Ex) (n:Nat):ay es n=di (dx es n) (dC es n).reverse ((n:Int) - 1):=by
 rw [ay];rfl
theorem Ci {f:Int→Int} (hf:∀ x,0≤x→f x≤x):∀ (ks:List Int) (a:Int),-1≤a→di f ks a≤a + 1
 | [],a,_=>by simp [di]
 | k::ks,a,ha=>by
  unfold di;split
  ·omega
  rename_i h;split
  ·omega
  rename_i h2;have h0:0≤a:=by omega
  have:=Ci hf ks (f a - 1) (by omega);have:=hf a h0;omega
theorem iB (es:List Ex) (n:Nat):ay es n≤n:=by
 induction n using Nat.strongRecOn with
 | ind n ih =>
  rw [jb];have:=Ci (f:=dx es n) (fun x hx=>by
   unfold dx;split
   ·rename_i h; have:=ih x.toNat h.2; omega
   omega) (dC es n).reverse ((n:Int) - 1) (by omega)
  omega
theorem Nr (es:List Ex) (n:Nat) (x:Int) (hx:0≤x):dx es n x≤x:=by
 unfold dx;split
 ·have:=iB es x.toNat; omega
 omega
theorem r9 {es:List Ex} {n:Nat} (ih:∀ m,m < n→0≤ay es m→∀ j:Nat,ay es m≤j→j≤m→0≤ay es j) :
  ∀ (ks:List Int) (a:Int),a < n→0≤di (dx es n) ks a→∀ j:Nat,di (dx es n) ks a≤j→(j:Int)≤a→0≤ay es j
 | [],a,ha,h,j,h1,h2=>by simp [di] at h1; omega
 | k::ks,a,ha,h,j,h1,h2=>by
  unfold di at h h1;split at h
  ·omega
  rename_i c;rw [if_neg c] at h1;split at h
  ·omega
  rename_i c2;rw [if_neg c2] at h1;have h0:0≤a:=by omega
  have hF:dx es n a=ay es a.toNat:=by unfold dx; rw [if_pos ⟨h0,by omega⟩]
  rw [hF] at h h1 c2;by_cases hj:ay es a.toNat≤j
  ·exact ih a.toNat (by omega) (by omega) j hj (by omega)
  exact r9 ih ks (ay es a.toNat - 1) (by have:=iB es a.toNat; omega) h j h1 (by omega)
theorem nA (es:List Ex) (n:Nat):0≤ay es n→∀ j:Nat,ay es n≤j→j≤n→0≤ay es j:=by
 induction n using Nat.strongRecOn with
 | ind n ih =>
  intro h j h1 h2;by_cases e:j=n
  ·subst e; exact h
  rw [jb] at h h1;exact r9 ih _ _ (by omega) h j h1 (by omega)
def kI (es:List Ex) (i:Nat):Bool:=(dC es i).all fun k=>decide (0≤k) && decide (k≤(i:Int) - 1)
theorem xx {es:List Ex} {n:Nat}:∀ (ks:List Int) (a:Int),a < n→0≤di (dx es n) ks a→∀ k ∈ ks,0≤k∧k≤a
 | [],_,_,_,k,hk=>by cases hk
 | x::ks,a,ha,h,k,hk=>by
  unfold di at h;split at h
  ·omega
  rename_i c;split at h
  ·omega
  rename_i c2;have h0:0≤a:=by omega
  rcases List.mem_cons.1 hk with rfl | hk
  ·omega
  have hl:=Nr es n a h0;have:=xx ks (dx es n a - 1) (by omega) h k hk;omega
theorem KV (es:List Ex) (i:Nat) (h:0≤ay es i):kI es i=true:=by
 unfold kI;rw [Ub];intro k hk;rw [jb] at h;have:=xx _ _ (by omega) h k (by simpa using hk);simp; omega
def Ns (es:List Ex) (n:Nat):Prop:=∀ j,j < n→0≤ay es j
def own (es:List Ex):Nat:=(es.filter fun e=>decide (e.kind=1)).length
def gF (es:List Ex) (k:Nat):Nat:=own (es.take k)
theorem yV (es:List Ex) (k:Nat) (h:k < es.length):gF es (k + 1)=gF es k + (if es[k].kind=1 then 1 else 0):=by
 unfold gF own;rw [TV h,Uz,T9];by_cases e:es[k].kind=1 <;> simp [e]
theorem uq (es:List Ex) (k:Nat):gF es k≤k:=by
 unfold gF own;exact TZ (List.length_filter_le ..) (by simp; omega)
def jv (es:List Ex) (k:Nat):Bool:=(es.take k).all ax
theorem ut (es:List Ex) (k:Nat) (h:k < es.length):jv es (k + 1)=(jv es k && ax es[k]):=by
 unfold jv; rw [TV h,List.all_append]; simp
theorem Cj (es:List Ex) (k:Nat) (h:k < es.length) (hb:ax es[k]=false):es.all ax=false:=by
 rw [Bool.eq_false_iff]; intro h2; rw [Ub] at h2; have:=h2 es[k] (TQ h); rw [hb] at this; cases this
def iY (es:List Ex) (k:Nat):Bool:=(List.range k).all (kI es)
theorem FB (es:List Ex) (k:Nat):iY es (k + 1)=(iY es k && kI es k):=by simp [iY,List.range_succ]
theorem Nt (es:List Ex) (k:Nat) (h:k < es.length) (hb:kI es k=false):iY es es.length=false:=by
 rw [Bool.eq_false_iff]; intro h2; unfold iY at h2; rw [Ub] at h2; have:=h2 k (by simpa using h); rw [hb] at this; cases this
def aK (es:List Ex):Bool:=decide (1≤es.length) && decide (es.length≤15) && es.all ax && iY es es.length && decide (own es≤1) && decide (ay es (es.length - 1)=0)
def jw (es:List Ex):Bool:=(List.range es.length).all fun j=>decide (0≤ay es j)
def kN (es:List Ex):Bool:=decide (1≤es.length) && decide (es.length≤15) && es.all ax && decide (own es≤1) && (jw es && decide (ay es (es.length - 1)=0))
theorem vZ (es:List Ex):aK es=kN es:=by
 by_cases h1:1≤es.length
 ·by_cases ht:ay es (es.length - 1)=0
  ·have ha:jw es=true:=by
    unfold jw;rw [Ub];intro j hj;have hj':j < es.length:=by simpa using hj
    simpa using nA es (es.length - 1) (by omega) j (by omega) (by omega)
   have hk:iY es es.length=true:=by
    unfold iY;rw [Ub];intro j hj;have hj':j < es.length:=by simpa using hj
    exact KV es j (nA es (es.length - 1) (by omega) j (by omega) (by omega))
   simp [aK,kN,ht,ha,hk,h1]
  simp [aK,kN,ht]
 simp [aK,kN,h1]
end Go.Proofs.YtajkkeikihhejaaGreat
