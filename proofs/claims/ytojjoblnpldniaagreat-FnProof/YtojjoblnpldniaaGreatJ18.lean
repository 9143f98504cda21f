/- What is found is a proof, step by step; where its rest is one still, those steps that ask for what is left out follow without it. -/
import Derived.Test.YtojjoblnpldniaaGreatSq
import Derived.Test.YtojjoblnpldniaaGreatJ16
open Go.Proofs.Tryz
set_option maxHeartbeats 80000000
set_option linter.defProp false
namespace Go.Proofs.YtojjoblnpldniaaGreat
set_option linter.unusedVariables false
set_option linter.unusedSectionVars false
open Pl
def J5{rs:Q06}(h:bz (ai rs)=true){k:Q01}(hk:k∈ay (ai rs)):aW k.2=true/\hasB (ai rs) k.1 k.2=true:=by
 obtain⟨es,h1,h2⟩:=Jn h hk;refine⟨?_,?_⟩
 ·unfold ay at hk;obtain⟨T,hT,hk⟩:=XZ.1 hk;obtain⟨t,ht,rfl⟩:=XW.1 hT;unfold jN at hk;obtain⟨r,hr,rfl⟩:=XW.1 hk;obtain⟨q,hq,rfl⟩:=XW.1 hr;obtain⟨i,hi,rfl⟩:=Yk ht;obtain⟨j,hj,rfl⟩:=Yk hq;exact(yG (kW h i hi).2.2 j hj<|by first|exact hj|omega).1
 rw[JI];unfold aH;rw[h1];intro e;have e2:es=[]:=e;rw[e2]at h2;simp[aS]at h2
section
variable  [DecidableEq Fc]
def J6{ts:Q05}(h:∀t∈ts,t.ok=true){o:Al}(ho:∃t∈ts,o=⟨t.a,t.b⟩\/o=⟨t.c,t.d⟩):dY o.t o.s=true:=by
 obtain⟨t,ht,e⟩:=ho;have h1:=h t ht;unfold Tp.ok cZ at h1;simp only[XN]at h1;rcases e with rfl|rfl
 ·exact h1.1.1.1
 exact h1.1.2
def Dz{st:Q00}{rs:Q06}{ts:Q05}:∀x∈aA st rs ts,okB x=true:=fun x hx=>by
 cases hr:aQ (fU rs) rs ts;case false=>rw[fV hr]at hx;cases hx
 rw[dZ hr]at hx;unfold aQ at hr;simp only[XN]at hr;have hsh:=(bf.1 hr.1.1).1;obtain⟨-,hok,-⟩:=Ng hr.1.2;have h1:=(kw st rs ts (fA ts) (dA ts) _).sub x hx;unfold Aj at h1;obtain⟨o,ho,h1⟩:=XZ.1 h1;obtain⟨k,hk,h1⟩:=XZ.1 h1;unfold jH at h1;obtain⟨u,hu,rfl⟩:=XW.1 h1;have hO:dY o.t o.s=true:=by
  rcases Dh ts [] o ho with h|h
  ·cases h
  exact J6 hok h
 have hU:dY u.t u.s=true:=by
  rcases Di ts [] u hu with h|h
  ·cases h
  exact J6 hok h
 rw[Tq];show((dY o.t o.s&&aW k.2)&&dY u.t u.s)=true;rw[hO,hU,(J5 hsh hk).1];rfl
def DC{st:Q00}{rs:Q06}{ts:Q05}(hle:aN (ai rs)=true->Least (ai rs) st):uC (cO rs ts<|aA st rs ts) (aA st rs ts):=by
 cases hr:aQ (fU rs) rs ts;case false=>rw[fV hr];exact fun i h=>absurd h<|YG _
 have hr2:=hr;unfold aQ at hr2;simp only [XN]at hr2;have hSP:=bf.1 hr2.1.1;obtain ⟨-,hok,-⟩:=Ng hr2.1.2;intro i hi;rw [pX];rw [dZ hr]at hi;simp only [dZ hr];exact JR (hle hr2.1.1).sol hSP.1 hSP.2.1 (fun t ht=>by
  have h1:=XY.1 hr2.2 t ht;rw[<-yZ hr2.1.1 (hok t ht)]at h1;exact h1) (fun k hk=>(J5 hSP.1 hk).2) _ hi
def x9{st:Q00}{rs:Q06}{ts:Q05}:(aA st rs ts).Nodup:=by
 cases hr:aQ (fU rs) rs ts;case false=>rw[fV hr];exact List.nodup_nil
 rw[dZ hr];exact yO _ _ _ _ _ _
end
def sZ{rs:Q06}{ts:Q05}{Q L:Q04}(h:∀x∈L,okB x=true):oQ rs ts Q L L.length=true↔uC (cO rs ts Q) L:=by
 unfold oQ uC;rw[XY];refine⟨fun hh i hi=>?_,fun hh i hi=>?_⟩
 ·have:=hh i<|List.mem_range.2 hi;rw[XQ hi]at this;simp only[XN]at this;rw[pX];exact this.2
 have hi2:=List.mem_range.1 hi;rw[XQ hi2];simp only[XN];refine⟨h _<|XI hi2,?_⟩;rw[<-pX];exact hh i hi2
def PY{rs:Q06}{ts:Q05}{Q kept:Q04}{i:Nat}(hi:i<Q.length)(hok:∀x∈Q,okB x=true)(hk:∀x∈kept,x∈Q)(qs:Fc->List Fc)(hH:∀x∈kept,iZ (cO rs ts Q x)<|qs x)(hP:uC (cO rs ts Q)<|Q.take (i+1)++kept):
  eY rs ts Q i kept=true ↔ ∀j (hj:j<kept.length),Q[i]∈qs kept[j]->cO rs ts Q kept[j] (aR<|Q.take i++kept.take j)=true:=by
 unfold eY;rw [sZ (fun x hx=>by
  rcases XV.1 hx with h|h
  ·exact hok x<|List.mem_of_mem_take h
  exact hok x<|hk x h)]
 rw[XM hi,Ye]at hP;exact Ju hH hP
def F9{rs:Q06}{ts:Q05}{Q kept:Q04}{i:Nat}(hi:i<Q.length)(hok:∀x∈Q,okB x=true)(hk:∀x∈kept,x∈Q)(hP:uC (cO rs ts Q)<|Q.take (i+1)++kept):
  uC (cO rs ts Q) (Q.take i++(if eY rs ts Q i kept then kept else Q[i]::kept)):=by
 cases h:eY rs ts Q i kept;case true=>
  simp only [if_true];unfold eY at h;exact (sZ (fun x hx=>by
   rcases XV.1 hx with h|h
   ·exact hok x<|List.mem_of_mem_take h
   exact hok x<|hk x h)).1 h
 rw[XM hi,Ye]at hP;exact hP
section
variable  [DecidableEq Fc]
def idx:List Fc->Fc->Nat
 | [],_=>0
 | x::xs,g=>if x=g then 0 else idx xs g+1
def jf:∀(Q:Q04),Q.Nodup->∀(i:Nat) (h:i<Q.length),idx Q Q[i]=i
 | [],_,i,h=>by simp at h
 | x::xs,hQ,0,_=>by simp[idx]
 | x::xs,hQ,i+1,h=>by
  have h2:=List.nodup_cons.1 hQ;have hl:i<xs.length:=by simpa using h
  have hne:x≠xs[i]:=fun e=>h2.1<|e ▸ XI hl;simp only[List.getElem_cons_succ,idx,if_neg hne];rw[jf xs h2.2 i hl]
def TA{Q:Q04}(hQ:Q.Nodup):Q.Pairwise (fun a b=>idx Q a<idx Q b):=List.pairwise_iff_getElem.2 fun i j hi hj hij=>by rw[jf Q hQ i hi,jf Q hQ j hj];exact hij
def lh(Q S:Q04)(g:Fc):Option Nat:=if aR S g then some (idx Q g) else none
def NG{Q S T:Q04}{x:Fc}{i:Nat}(hi:idx Q x=i)(h:∀g,g∈T↔g∈S\/g=x):iw (jW<|lh Q S) x (some<|.int .i64 (i:Int))=jW (lh Q T):=by
 funext g
 by_cases e:g=x
 ·subst e;rw[dH];unfold jW lh;rw[if_pos (aU.2<|(h g).2<|.inr rfl),hi];rfl
 rw[bP e];unfold jW lh;have:aR T g=aR S g:=by rw[X9,aU,aU,h g];simp[e]
 rw[this]
def U7{Q S T:Q04}{x:Fc}(h:∀g,g∈T↔g∈S/\g≠x):iw (jW<|lh Q S) x none=jW (lh Q T):=by
 funext g
 by_cases e:g=x
 ·subst e;rw[dH];unfold jW lh;have:aR T g=false:=by
   cases hh:aR T g;case false=>rfl
   exact absurd rfl ((h g).1<|aU.1 hh).2
  rw[this];rfl
 rw[bP e];unfold jW lh;have:aR T g=aR S g:=by rw[X9,aU,aU,h g];simp[e]
 rw[this]
def U8{Q S:Q04}{p:Nat}{g:Fc}:ze (lh Q S) p g=true↔g∈S/\idx Q g<p:=by
 unfold ze lh;cases h:aR S g;case true=>simp[aU.1 h]
 have:g ∉ S:=fun e=>by rw[aU.2 e]at h;cases h
 simp[this]
def TB{Q kept:Q04}{i:Nat}(hQ:Q.Nodup)(hi:i<Q.length)(hsub:kept.Sublist<|Q.drop<|i+1)(j:Nat)(hj:j<kept.length):ze (lh Q<|Q.take i++kept) (idx Q kept[j])=aR (Q.take i++kept.take j):=by
 have hp:=(TA hQ).sublist<|hsub.trans<|List.drop_sublist _ _;rw[List.pairwise_iff_getElem]at hp;have hlow:∀g∈Q.take i,idx Q g<i:=fun g hg=>by
  obtain⟨a,ha,e⟩:=Yk hg;rw[Yc]at ha;rw[List.getElem_take]at e;rw[<-e,jf Q hQ a cq];omega
 have hhigh:∀g∈kept,i<idx Q g:=fun g hg=>by
  obtain⟨a,ha,e⟩:=Yk<|hsub.subset hg;rw[List.getElem_drop]at e;rw[YD]at ha;rw[<-e,jf Q hQ (i+1+a) cq];omega
 funext g
 rw[X9,U8,aU,XV,XV];have hkj:=hhigh _<|XI hj;refine⟨fun h=>?_,fun h=>?_⟩
 ·rcases h.1 with h1|h1
  ·exact .inl h1
  obtain⟨a,ha,rfl⟩:=Yk h1;have haj:a<j:=by
   by_cases c:a<j
   ·exact c
   by_cases e:a=j
   ·subst e;have:=h.2;omega
   have h3:=hp j a hj ha cq;have h4:=h.2;omega
  exact .inr (Yu.2 ⟨a,by rw[Yc];omega,by rw[List.getElem_take]⟩)
 rcases h with h1|h1
 ·have:=hlow g h1;exact⟨.inl h1,cq⟩
 obtain⟨a,ha,e⟩:=Yk h1;rw[Yc]at ha;rw[List.getElem_take]at e;exact⟨.inr<|e ▸ XI cq,by rw[<-e];exact hp a j cq hj cq⟩
def PZ(E:List<|Fc×(Fc×Value))(x:Fc):List Fc:=E.filterMap fun e=>if e.2.1=x then some e.1 else none
def tq{E:List<|Fc×(Fc×Value)}{x g:Fc}:g∈PZ E x ↔ ∃v,(g,(x,v))∈E:=by
 unfold PZ;rw[List.mem_filterMap];constructor
 ·rintro⟨⟨a,b,v⟩,h1,h2⟩;simp only at h2;split at h2
  ·rename_i e;injection h2 with h2;subst e;subst h2;exact⟨v,h1⟩
  cases h2
 rintro⟨v,h⟩;exact⟨_,h,ct⟩
def U9{rs:Q06}{ts:Q05}{Q kept:Q04}{E:List<|Fc×(Fc×Value)}{i:Nat}(hQ:Q.Nodup)(hi:i<Q.length)(hsub:kept.Sublist<|Q.drop<|i+1)(hok:∀x∈Q,okB x=true)(hP:uC (cO rs ts Q)<|Q.take (i+1)++kept)(hE1:∀e∈E,e.2.1∈kept)(hE2:∀x∈kept,iZ (cO rs ts Q x)<|PZ E x):
  ((G.lookL E Q[i]).map fun p=>!(cO rs ts Q p.1<|ze (lh Q<|Q.take i++kept)<|idx Q p.1)).any id=!eY rs ts Q i kept:=by
 have hk:∀x∈kept,x∈Q:=fun x hx=>List.mem_of_mem_drop<|hsub.subset hx;have ht:=PY hi hok hk (PZ E) hE2 hP;have ha:=fun j hj=>TB hQ hi hsub j hj;cases hT:eY rs ts Q i kept;case true=>
  have h1:=ht.1 hT;rw[Bool.not_true,List.any_eq_false];intro b hb;obtain⟨p,hp,rfl⟩:=XW.1 hb;have hpE:=G.mem_lookL.1 hp;obtain⟨j,hj,e⟩:=Yk<|hE1 _ hpE;have h2:=h1 j hj (tq.2 ⟨p.2,by rw[e];exact hpE⟩);rw[<-ha j hj]at h2;have e':p.1=kept[j]:=e.symm;rw[e',h2];simp
 rw[Bool.not_false,Yq];have h1:¬ ∀j (hj:j<kept.length),Q[i]∈PZ E kept[j]->cO rs ts Q kept[j] (aR<|Q.take i++kept.take j)=true:=fun h=>by rw[ht.2 h]at hT;cases hT
 obtain⟨j,h1⟩:=Classical.not_forall.1 h1;obtain⟨hj,h1⟩:=Classical.not_forall.1 h1;obtain⟨hm,h1⟩:=Classical.not_imp.1 h1;obtain⟨v,hv⟩:=tq.1 hm;refine⟨_,XW.2 ⟨(kept[j],v),G.mem_lookL.2 hv,rfl⟩,?_⟩;simp only[id];rw[ha j hj];cases h:cO rs ts Q kept[j] (aR<|Q.take i++kept.take j);case true=>exact absurd h h1
 rfl
end
open ChangeAt ChangeShapes Maps RowKit Go.Shelf WideShapes
set_option maxRecDepth 100000
def aG.cells{w:ag}{S:Nat->Prop}:∀(n:Nat) (v:Value) (G:Ru),aG w S n v G->aG w (fun g=>S g/\∃o,w.heap[g]?=some o/\o.isCells=true) n v G
 | 0,_,_,h=>h
 | n+1,v,G,h=>by
  have row:∀{ad:Q02} {Gs:List Ru},qM w S (aG w S n) ad Gs->qM w (fun g=>S g/\∃o,w.heap[g]?=some o/\o.isCells=true) (aG w (fun g=>S g/\∃o,w.heap[g]?=some o/\o.isCells=true) n) ad Gs:=fun {ad Gs} h=>by
   rcases h with h|⟨g,e,h1,h2,h3⟩
   ·exact .inl h
   cases Gs with
   | nil=>exact .inl rfl
   | cons G0 Gs =>
    obtain⟨u0,hu0,-⟩:=h3 0 ct;refine .inr ⟨g,e,⟨h1,cells_of_cell hu0⟩,h2,fun i hi=>?_⟩;obtain⟨u,hu,hp⟩:=h3 i hi;exact⟨u,hu,aG.cells n u _ hp⟩
  rcases h with h|⟨ad,cap,fs,e,hz,h1,h2,h3,h4⟩|⟨ad,cap,Gs,e,h1,h2,h3⟩|⟨ad,cap,Gs,e,h1,h2,h3⟩
  ·exact .inl h
  ·refine .inr<|.inl ⟨ad,cap,fs,e,?_,h1,h2,h3,h4⟩;rcases hz with hz|⟨g,e1,hg⟩
   ·exact .inl hz
   by_cases hx:fs=[]
   ·exact .inl hx
   rcases h1 with h1|⟨b,off,e2,hb,hr⟩
   ·exact absurd h1 hx
   rw[e1]at e2;injection e2 with e2;injection e2 with e2 e3;subst e2;exact .inr ⟨g,e1,hg,cells_of_cell (hr 0<|List.length_pos_iff.2 hx).1⟩
  ·exact .inr<|.inr<|.inl ⟨ad,cap,Gs,e,h1,row h2,h3⟩
  exact .inr<|.inr<|.inr ⟨ad,cap,Gs,e,h1,row h2,h3⟩
def aG.grown{w w':ag}{S:Nat->Prop}{n:Nat}{v:Value}{G:Ru}(h:aG w S n v G){row:Option Nat}(hg:w.grownBy w' row)(hr:∀r,row=some r->∃o,w.heap[r]?=some o/\o.isCells=false):aG w' S n v G :=
 aG.keep hg.size (fun g h1 h2=>⟨h1.1,hg.block g h2 fun e=>by
  obtain⟨o,h3,h4⟩:=h1.2;obtain⟨o2,h5,h6⟩:=hr g e.symm;rw[h3]at h5;injection h5 with h5;subst h5;rw[h4]at h6;cases h6⟩) n v G (aG.cells n v G h)
def WK(N0:Nat)(vk:Value)(M:Fc->Option Value)(g:Nat):Prop:=N0<=g/\vk.ownBlock≠some g/\G.FreeB M g
section
variable  [DecidableEq Fc]
def DL(Q:Q04)(p:Fc×Value):List Value:=[.int .i64 (idx Q p.1:Int),p.2]
structure NdK(w:World)(N0 bm ba bk:Nat)(BX:List<|Nat×Value×TypeId):Prop where
 m0:w.heap.size<=bm
 a0:w.heap.size<=ba
 k0:w.heap.size<=bk
 m1:bm<N0
 a1:ba<N0
 k1:bk<N0
 ma:bm≠ba
 bx:∀p∈BX,p.1<N0/\p.1≠bk/\p.2.2≠52/\p.2.2≠226
variable  {w:World}{rs:Q06}{ts:Q05}{Q:Q04}{N0 bm ba bk:Nat}{BX:List (Nat×Value×TypeId)}
structure NdR(w:World)(rs:Q06)(ts:Q05)(Q:Q04)(N0 bm ba bk:Nat)(BX:List<|Nat×Value×TypeId)(X:World)(kept:Q04)(vk:Value)(M:Fc->Option Value)(nA:Nat)(E:List<|Fc×(Fc×Value)):Prop where
 bel:ae w X
 n0:N0<=X.heap.size
 mp:∃es c,X.heap[bm]?=some (.map es c)
 row:X.ownsRow N0 52 5 vk kept.length (av kept.reverse)
 bx:dE X bk vk 44
 bxs:∀p∈BX,dE X p.1 p.2.1 p.2.2
 grp:G.Grp dM prog 52 226 2 (DL Q) X ba nA M E
 rul:∀e∈E,aG X (WK N0 vk M) 8 e.2.2 (cO rs ts Q e.2.1)
def DD{X X':ag}{nA:Nat}{M:Fc->Option Value}{E:List<|Fc×(Fc×Value)}(h:G.Grp dM prog 52 226 2 (DL Q) X ba nA M E)(h1:X'.heap[ba]?=X.heap[ba]?)(h2:∀k v g,M k=some v->v.ownBlock=some g->X'.heap[g]?=X.heap[g]?):G.Grp dM prog 52 226 2 (DL Q) X' ba nA M E where
 map:=h.map.of_block h1
 row k:=by
  rcases h.row k with e|⟨v,e,ho⟩
  ·exact .inl e
  exact .inr ⟨v,e,bY ho fun g hg=>h2 k v g e hg⟩
 apart:=h.apart
def uq{X:ag}{nA:Nat}{M:Fc->Option Value}{E:List<|Fc×(Fc×Value)}(h:G.Grp dM prog 52 226 2 (DL Q) X ba nA M E){k:Fc}{v:Value}{g:Nat}(hk:M k=some v)(hg:v.ownBlock=some g):∃cur,X.heap[g]?=some (.cells cur 226 (0,0)):=by
 rcases h.row k with⟨e,-⟩|⟨v',e,ho⟩
 ·rw[e]at hk;cases hk
 rw[e]at hk;injection hk with hk;subst hk;exact fG ho hg
def ut{X:ag}{nA:Nat}{M:Fc->Option Value}{E:List<|Fc×(Fc×Value)}(h:G.Grp dM prog 52 226 2 (DL Q) X ba nA M E){g:Nat}{o:Obj}(ho:X.heap[g]?=some o)(hne:∀cur,o ≠ .cells cur 226 (0,0)):G.FreeB M g:=fun k v hk hg=>by
 obtain⟨cur,e⟩:=uq h hk hg;rw[ho]at e;injection e with e;exact hne _ e
def NdR.chg{X X':ag}{kept:Q04}{vk:Value}{M:Fc->Option Value}{nA:Nat}{E:List<|Fc×(Fc×Value)}(h:NdR w rs ts Q N0 bm ba bk BX X kept vk M nA E)(C:Nat->Prop)(hb:ae w X')(hs:cY X X')(hsm:∀g,g<X.heap.size->¬C g->X'.heap[g]?=X.heap[g]?)(hm:∃es c,X'.heap[bm]?=some (.map es c))
  (hC:∀g,C g->g<N0) (c3:¬C bk) (c4:∀p∈BX,¬C p.1) (c5:¬C ba) (c6:∀k v g,M k=some v->v.ownBlock=some g->¬C g):NdR w rs ts Q N0 bm ba bk BX X' kept vk M nA E where
 bel:=hb
 n0:=XR h.n0 hs
 mp:=hm
 row:=bY h.row fun g hg=>hsm g (h.row.lt g hg).2 fun c=>by have:=hC g c;have:=(h.row.lt g hg).1;omega
 bx:=(hsm _ (XO.1 h.bx).1 c3).trans h.bx
 bxs p hp:=(hsm _ (XO.1<|h.bxs p hp).1<|c4 p hp).trans<|h.bxs p hp
 grp:=DD h.grp (by
  obtain⟨es,c,e⟩:=fC h.grp.map;exact hsm _ (XO.1 e).1 c5) fun k v g e hg=>hsm g (h.grp.lt e hg).2<|c6 k v g e hg
 rul e he:=aG.keep hs (fun g h1 h2=>⟨h1,hsm g h2 fun c=>by have:=hC g c;have:=h1.1;omega⟩) _ _ _ (h.rul e he)
def NdR.below{X X':ag}{kept:Q04}{vk:Value}{M:Fc->Option Value}{nA:Nat}{E:List<|Fc×(Fc×Value)}(h:NdR w rs ts Q N0 bm ba bk BX X kept vk M nA E)(hb:ae X X'):NdR w rs ts Q N0 bm ba bk BX X' kept vk M nA E:=by
 obtain⟨es,c,e⟩:=h.mp;exact h.chg (fun _=>False) (h.bel.trans<|hb.mono h.bel.size) hb.size (fun g hg _=>hb.block g hg) ⟨es,c,(hb.block _ (XO.1 e).1).trans e⟩ (fun _ c=>c.elim) id (fun _ _=>id) id (fun _ _ _ _ _=>id)
def NdR.plc{X X':ag}{kept:Q04}{vk:Value}{M:Fc->Option Value}{nA nP:Nat}{PM:Fc->Option Value}{E:List<|Fc×(Fc×Value)}(hK:NdK w N0 bm ba bk BX)(h:NdR w rs ts Q N0 bm ba bk BX X kept vk M nA E)(hg:X.grownBy X'<|some bm)(hV:aL dM prog 52 X' bm nP PM):NdR w rs ts Q N0 bm ba bk BX X' kept vk M nA E:=by
 obtain⟨es,c,e⟩:=h.mp;refine h.chg (fun g=>g=bm) (h.bel.grown hg h.bel.size (fun g e=>by injection e with e;have:=hK.m0;omega)) hg.size (fun g hl c=>hg.block g hl fun e=>c<|by injection e) (fC hV) (fun g c=>by have:=hK.m1;omega) ?_ ?_ (fun e=>hK.ma e.symm) ?_
 ·intro c2;have:=h.bx;unfold dE at this;rw[c2,e]at this;cases this
 ·intro p hp c2;have:=h.bxs p hp;unfold dE at this;rw[c2,e]at this;cases this
 intro k v g hk hg2 c2;obtain⟨cur,e2⟩:=uq h.grp hk hg2;rw[c2,e]at e2;cases e2
def NdR.free{X:ag}{kept:Q04}{vk:Value}{M:Fc->Option Value}{nA:Nat}{E:List<|Fc×(Fc×Value)}(h:NdR w rs ts Q N0 bm ba bk BX X kept vk M nA E){g:Nat}(hg:vk.ownBlock=some g):G.FreeB M g:=by
 obtain⟨cur,e⟩:=fG h.row hg;exact ut h.grp e fun cur2 e2=>by injection e2 with _ e2;exact absurd e2 cv
def NdR.app{X X1 X2:ag}{kept:Q04}{vk v':Value}{M:Fc->Option Value}{nA:Nat}{E:List<|Fc×(Fc×Value)}{f:Fc}(hK:NdK w N0 bm ba bk BX)(h0:NdR w rs ts Q N0 bm ba bk BX X kept vk M nA E)(hb:ae X X1)(hown:X2.ownsRow N0 52 5 v' (kept.length+1)<|av kept.reverse++f.row)(hg:X1.grownBy X2 vk.ownBlock)(hat:v'.ownBlock=vk.ownBlock\/v'.ownBlock=some X1.heap.size):
  NdR w rs ts Q N0 bm ba bk BX (X2.setCell (am bk) v') (f::kept) v' M nA E/\(X2.setCell (am bk) v').heap[bm]?=X.heap[bm]?∧KeepsFrom N0 X (X2.setCell (am bk) v'):=by
 have h:=h0.below hb;obtain⟨es,c,em⟩:=h.mp;obtain⟨es0,c0,em0⟩:=h0.mp;have key:∀(g:Nat) (o:Obj),X1.heap[g]?=some o->g≠bk->vk.ownBlock≠some g->(X2.setCell (am bk) v').heap[g]?=some o:=fun g o h1 h2 h3 =>
  (heap_setCell_other X2 ⟨bk,0,none⟩ g v' h2).trans ((hg.block g (XO.1 h1).1 fun e=>h3 e.symm).trans h1)
 have hvlt:∀g,vk.ownBlock=some g->N0<=g:=fun g e=>(h.row.lt g e).1;have hmk:bm≠bk:=fun e=>by
  have:=h.bx;unfold dE at this;rw[<-e,em]at this;cases this
 have hvm:vk.ownBlock≠some bm:=fun e=>by have:=hvlt _ e;have:=hK.m1;omega
 have sz:X1.heap.size<=(X2.setCell (am bk) v').heap.size:=by have:=hg.size;simp;omega
 have b1:ae w X2:=h.bel.grown hg h.bel.size (fun g e=>by have:=hvlt g e;have:=hK.m0;have:=hK.m1;omega);have hbk2:X2.heap[bk]?=some (.cells #[vk] 44 (0,0)):=(hg.block _ (XO.1 h.bx).1 (fun e=>by have:=hvlt _ e.symm;have:=hK.k1;omega)).trans h.bx;have same:∀g,g<X1.heap.size->g≠bk->vk.ownBlock≠some g->(X2.setCell (am bk) v').heap[g]?=X1.heap[g]?:=fun g hl h2 h3=>by
  rw[key g _ (Yy hl) h2 h3,Yy hl]
 have hab:ba≠bk:=fun e=>by
  obtain⟨es2,c2,e2⟩:=fC h.grp.map;have:=h.bx;unfold dE at this;rw[<-e,e2]at this;cases this
 refine⟨⟨b1.setCell (by exact hK.k0) _,XR h.n0 sz,⟨es,c,key _ _ em hmk hvm⟩,?_,?_,fun p hp=>?_,?_,fun e he=>?_⟩,(key _ _ em hmk hvm).trans ?_,⟨XR hb.size sz,fun g o hB h1 hc=>?_⟩⟩
 ·rw[List.reverse_cons,kX,Yh];exact bY hown fun g e=>heap_setCell_other X2 ⟨bk,0,none⟩ g v' (fun(e2:g=bk)=>by have:=(hown.lt g e).1;have:=hK.k1;omega)
 ·have:=heap_setCell_same X2 bk 0 #[vk] _ v' hbk2;unfold dE;simpa using this
 ·have hp1:=hK.bx p hp;exact key _ _ (h.bxs p hp) hp1.2.1 (fun e=>by have:=hvlt _ e;omega)
 ·refine DD h.grp (same _ ?_ hab fun e=>?_) fun k v g e e2=>same g (h.grp.lt e e2).2 (fun e3=>?_) (fun e3=>h.free e3 k v e e2)
  ·obtain⟨es2,c2,e2⟩:=fC h.grp.map;exact(XO.1 e2).1
  ·have:=hvlt _ e;have:=hK.a1;omega
  obtain⟨cur,e4⟩:=uq h.grp e e2;have:=h.bx;unfold dE at this;rw[<-e3,e4]at this;injection this with this;injection this with _ this;exact absurd this cv
 ·refine aG.keep sz (fun g h1 h2=>⟨⟨h1.1,fun e2=>?_,h1.2.2⟩,same g h2 (fun e2=>by have:=h1.1;have:=hK.k1;omega) h1.2.1⟩) _ _ _ (h.rul e he);rcases hat with e3|e3
  ·exact h1.2.1<|e3 ▸ e2
  rw[e3]at e2;injection e2 with e2;omega
 ·rw[hb.block _ (XO.1 em0).1]at em;exact em.symm
 have h1':X1.heap[g]?=some o:=(hb.block _ (XO.1 h1).1).trans h1;refine key g o h1' (fun e=>by have:=hK.k1;omega) (fun e=>?_);obtain⟨cur,e2⟩:=fG h.row e;rw[e2]at h1';injection h1' with h1';subst h1';cases hc
def NdR.ask{W0 w1 w2 w3:ag}{kept:Q04}{vk v' rv:Value}{M:Fc->Option Value}{nA:Nat}{E:List<|Fc×(Fc×Value)}{y x:Fc}(hK:NdK w N0 bm ba bk BX)(h:NdR w rs ts Q N0 bm ba bk BX W0 kept vk M nA E)(hnew:aG W0 (WK N0 vk M) 8 rv<|cO rs ts Q x)(hg1:W0.grownBy w1<|some ba)(hown:w2.ownsRow (ba+1) 226 2 v' ((G.lookL E y).length+1)<|G.flatG (DL Q) (G.lookL E y)++DL Q (x,rv))
  (hg2:w1.grownBy w2 ((M y).getD<|.slice none 0 0).ownBlock) (hloc:v'.ownBlock=((M y).getD<|.slice none 0 0).ownBlock\/v'.ownBlock=some w1.heap.size) (hg3:w2.grownBy w3<|some ba) (hM:aL dM prog 52 w3 ba (nA+1)<|iw M y<|some v') :
  NdR w rs ts Q N0 bm ba bk BX w3 kept vk (iw M y<|some v') (nA+1) (E++[(y,(x,rv))])/\G.Stl W0 M w3 (iw M y<|some v') ba/\KeepsFrom N0 W0 w3/\w3.heap[bm]?=W0.heap[bm]?∧aG w3 (WK N0 vk<|iw M y<|some v') 8 rv (cO rs ts Q x):=by
 obtain⟨hG,hS⟩:=G.Grp.step h.grp hg1 hown hg2 hloc hg3 hM;obtain⟨es,c,em⟩:=h.mp;have hrow0:∀g,((M y).getD<|.slice none 0 0).ownBlock=some g->ba<g:=fun g e=>by
  cases ey:M y with
  | none=>rw[ey]at e;simp[Value.ownBlock]at e
  | some vy=>rw[ey]at e;exact(h.grp.lt ey<|by simpa using e).1
 have b1:ae w w1:=h.bel.grown hg1 h.bel.size (fun g e=>by injection e with e;have:=hK.a0;omega);have b2:ae w w2:=b1.grown hg2 b1.size (fun g e=>by have:=hrow0 g e;have:=hK.a0;omega);have b3:ae w w3:=b2.grown hg3 b2.size (fun g e=>by injection e with e;have:=hK.a0;omega);have nst:∀{g:Nat} {cs:Array Value} {T:TypeId} {m:Nat×Nat},T≠226->W0.heap[g]?=some (.cells cs T m)->G.FreeB M g:=fun hT h1=>ut h.grp h1 fun cur e=>hT (by injection e with _ e);have hbn:∀{g:Nat} {cs:Array Value} {T:TypeId} {m:Nat×Nat},W0.heap[g]?=some (.cells cs T m)->g≠ba:=fun h1 e=>by
  obtain⟨es2,c2,e2⟩:=fC h.grp.map;rw[e,e2]at h1;cases h1
 have hmS:w3.heap[bm]?=W0.heap[bm]?:=hS.block _ (XO.1 em).1 hK.ma (ut h.grp em fun cur e=>by cases e);have hrk:∀{n:Nat} {v:Value} {G:Ru},aG W0 (WK N0 vk M) n v G->aG w3 (WK N0 vk<|iw M y<|some v') n v G:=fun {n v G} hr =>
  aG.keep hS.size (fun g h1 h2=>⟨⟨h1.1,h1.2.1,hS.free g h2 h1.2.2⟩,hS.block g h2 (fun e=>by have:=h1.1;have:=hK.a1;omega) h1.2.2⟩) _ _ _ hr
 refine⟨⟨b3,XR h.n0 hS.size,⟨es,c,hmS.trans em⟩,?_,?_,fun p hp=>?_,hG,fun e he=>?_⟩,hS,⟨hS.size,fun g o hB h1 hc=>?_⟩,hmS,hrk hnew⟩
 ·exact bY h.row fun g e=>by
   obtain⟨cur,e2⟩:=fG h.row e;exact hS.block g (h.row.lt g e).2 (hbn e2)<|h.free e
 ·have hx:=h.bx;unfold dE at hx⊢;exact(hS.block _ (XO.1 hx).1 (hbn hx)<|nst cv hx).trans hx
 ·have hx:=h.bxs p hp;unfold dE at hx⊢;exact(hS.block _ (XO.1 hx).1 (hbn hx)<|nst (hK.bx p hp).2.2.2 hx).trans hx
 ·rcases XV.1 he with he|he
  ·exact hrk<|h.rul e he
  rw[XX.1 he];exact hrk hnew
 exact(hS.block g (XO.1 h1).1 (fun e=>by have:=hK.a1;omega) (ut h.grp h1 fun cur e=>by subst e;cases hc)).trans h1
def NdR.kept{X X':ag}{kept:Q04}{vk:Value}{M:Fc->Option Value}{nA:Nat}{E:List<|Fc×(Fc×Value)}(hK:NdK w N0 bm ba bk BX)(h:NdR w rs ts Q N0 bm ba bk BX X kept vk M nA E){row:Option Nat}(hg:X.grownBy X' row)(hr:∀r,row=some r->N0<=r/\(∃o,X.heap[r]?=some o/\o.isCells=false)):NdR w rs ts Q N0 bm ba bk BX X' kept vk M nA E:=by
 obtain⟨es,c,em⟩:=h.mp;have sm:∀(g:Nat) (o:Obj),X.heap[g]?=some o->(g<N0\/o.isCells=true)->X'.heap[g]?=X.heap[g]?:=fun g o h1 h2=>hg.block g (XO.1 h1).1 fun e=>by
  obtain⟨h3,o2,h4,h5⟩:=hr g e.symm;rcases h2 with h2|h2
  ·omega
  rw[h1]at h4;injection h4 with h4;subst h4;rw[h2]at h5;cases h5
 exact {
  bel:=h.bel.grown hg h.bel.size (fun g e=>by have:=(hr g e).1;have:=hK.m0;have:=hK.m1;omega)
  n0:=XR h.n0 hg.size
  mp:=⟨es,c,(sm _ _ em<|.inl hK.m1).trans em⟩
  row:=bY h.row fun g e=>by
   obtain⟨cur,e2⟩:=fG h.row e;exact sm g _ e2<|.inr rfl
  bx:=(sm _ _ h.bx<|.inr rfl).trans h.bx
  bxs:=fun p hp=>(sm _ _ (h.bxs p hp)<|.inr rfl).trans (h.bxs p hp)
  grp:=DD h.grp (by
   obtain⟨es2,c2,e2⟩:=fC h.grp.map;exact sm _ _ e2<|.inl hK.a1) fun k v g e hg2=>by
    obtain⟨cur,e2⟩:=uq h.grp e hg2;exact sm _ _ e2<|.inr rfl
  rul:=fun e he=>aG.grown (h.rul e he) hg fun r e2=>(hr r e2).2 }
end
section
variable  {K:Type}{enc:K->Value}{P:Program}{F:Fence}{nF:Nat}(w:World){ops:Array Oper}{rest:List Oper}{o:Oper}{a:Act}{Q:Exit->Act->World->Prop}
def zh[DecidableEq K](hg:o.guard=none)(m x:Operand)(t k:TypeId)(hop:o.op=Op.call { callee:=Callee.builtin Builtin.delete,args:=#[m,x],argTypes:=#[t,k] })(e:TypeId)(L:Keyed P k)(hinj:∀x y,enc x=enc y->x=y)(ht:P.underlying t=some (.map k e))(b n:Nat)(M:K->Option Value)
  (hm:a.eval m=.map (some b)) (hV:aL enc P k w b n M) (y:K) (kl:Lit) (hx:a.eval x=enc y) (hkey:keyOf P k (enc y)=some kl)
  (hK:∀w',aL enc P k w' b n (iw M y none)->w.grownBy w' (some b)->wpListIn F nF P ops Q rest (a.put o.dst<|.tuple #[]) w'):wpListIn F nF P ops Q (o::rest) a w:=by
 obtain⟨D,hown,hD⟩:=hV;refine wpListIn_delete_own w hg m x t k hop e L ht Qk b n D hm hown (enc y) kl hx hkey fun w' h1 h2=>hK w' ⟨D.del kl,h1,fun z kz hz=>?_⟩ h2.grown;by_cases e2:z=y
 ·subst e2;obtain rfl:kz=kl:=by rw[hkey]at hz;injection hz with hz;exact hz.symm
  rw[dH];exact⟨has_del_same,fun u=>atKey_del_same u⟩
 have hne:kz≠kl:=fun e3=>e2 (hinj _ _<|L.inj (by rw[e3]at hz;exact hz) hkey);rw[bP e2];have h5:=hD z kz hz;cases e3:M z with
 | none=>rw[e3]at h5;exact⟨by rw[has_del_other hne];exact h5.1,fun u=>by rw[atKey_del_other hne];exact h5.2 u⟩
 | some v=>rw[e3]at h5;exact⟨by rw[has_del_other hne];exact h5.1,fun u=>by rw[atKey_del_other hne];exact h5.2 u⟩
def Aq[DecidableEq K](hg:o.guard=none)(m x:Operand)(t:TypeId)(hop:o.op=Op.mapEntry t m x)(k e:TypeId)(L:WideMaps.KeyLaw P k)(hinj:∀x y,enc x=enc y->x=y)(ht:P.underlying t=some (.map k e)){z:Value}(hz:∀u:World,(zeroValue e).run P u=.ok z u)(b n:Nat)(M:K->Option Value)
  (hm:a.eval m=.map (some b)) (hV:aL enc P k w b n M) (hn:n<maxLen) (y:K) (kl:Lit) (hx:a.eval x=enc y) (hkey:keyOf P k (enc y)=some kl)
  (hK:∀ (st:Nat) (w1:World),w.grownBy w1 (some b)->(∀ (w2:World) (val:Value),w2.heap[b]?=w1.heap[b]?→∃ w3,(Instr.entryStore t (.map<|some b) (goInt st) val).run P w2=.ok () w3/\aL enc P k w3 b (n+1) (iw M y<|some val)/\w2.grownBy w3 (some b)) ->
   wpListIn F nF P ops Q rest (a.put o.dst<|.tuple #[(M y).getD z,goInt st]) w1):wpListIn F nF P ops Q (o::rest) a w:=by
 refine wpListIn_plain hg fun K' hK'=>?_;obtain⟨st,w1,hrun,h1,h2⟩:=hV.entry L hinj ht hz hn hkey;unfold Oper.wpIn;refine⟨by simp[Oper.about,hop],?_⟩;rw[Oper.semAt_plain F _ _ (by rw[hop];intro c hc';cases hc')];simp[execOp,hop,hm,hx,hrun,Result.andThen];exact hK' _ _<|hK st w1 h1 h2
def tC(hg:o.guard=none)(m s v:Operand)(t:TypeId)(hop:o.op=Op.entryStore t m s v)(b st:Nat)(hm:a.eval m=.map (some b))(hs:a.eval s=goInt st)(u:Value)(hv:a.eval v=u)(k:TypeId)(n:Nat)(M:K->Option Value)
  (hback:∃w3,(Instr.entryStore t (.map<|some b) (goInt st) u).run P w=.ok () w3/\aL enc P k w3 b n M/\w.grownBy w3 (some b))
  (hK:∀w',aL enc P k w' b n M->w.grownBy w' (some b)->wpListIn F nF P ops Q rest (a.put o.dst undef) w'):wpListIn F nF P ops Q (o::rest) a w:=by
 refine wpListIn_plain hg fun K' hK'=>?_;obtain⟨w3,hrun,h1,h2⟩:=hback;unfold Oper.wpIn;refine⟨by simp[Oper.about,hop],?_⟩;rw[Oper.semAt_plain F _ _ (by rw[hop];intro c hc';cases hc')];simp[execOp,hop,hm,hs,hv,hrun,Result.andThen];exact hK' _ _<|hK w3 h1 h2
def Ar(hg:o.guard=none)(t:TypeId)(p x:Operand)(hop:o.op=Op.store t p x)(ad:Addr)(v:Value)(hp:a.eval p=.pointer (some ad))(hx:a.eval x=v)(hrun:(Instr.storeAt t (.pointer<|some ad) v).run P w=.ok () (w.setCell ad v))(hK:∀W',W'=w.setCell ad v->wpListIn F nF P ops Q rest (a.put o.dst undef) W'):wpListIn F nF P ops Q (o::rest) a w:=by
 refine wpListIn_plain hg fun K' hK'=>?_;unfold Oper.wpIn;refine⟨by simp[Oper.about,hop],?_⟩;rw[Oper.semAt_plain F _ _ (by rw[hop];intro c hc';cases hc')];simp[execOp,hop,hp,hx,hrun,Result.andThen];exact hK' _ _<|hK _ rfl
end
def Hy(Zo:Q02)(n Y0:Nat)(w:ag):
  Calls prog 156 #[.slice Zo n Y0] w fun e w'=>e=.returned (.func (.func 225) #[] #[.pointer (some<|am w.heap.size)])/\w'=w.alloc (.cells #[.slice Zo n Y0] 44):=by
 go_enter func156,ntmps156;go_wp2;go_ret;exact⟨rfl,rfl⟩
section
variable  [DecidableEq Fc]
def flat_get{Q:Q04}:∀(l:List<|Fc×Value) (i:Nat) (h:i<l.length),(G.flatG (DL Q) l)[i*2]?=some (.int .i64 (idx Q l[i].1:Int))/\(G.flatG (DL Q) l)[i*2+1]?=some l[i].2
 | [],i,h=>by simp at h
 | p::l,0,_=>by simp[G.flatG,DL]
 | p::l,i+1,h=>by
  have ih:=flat_get (Q:=Q) l i (by simpa using h);have e:G.flatG (DL Q) (p::l)=DL Q p++G.flatG (DL Q) l:=by simp[G.flatG]
  have e1:(i+1)*2=i*2+2:=cq;rw[e,e1,List.getElem_cons_succ];have e2:(DL Q p).length=2:=rfl;refine⟨?_,?_⟩
  ·rw[YA (by rw[e2];omega),e2,Nat.add_sub_cancel];exact ih.1
  rw[YA (by rw[e2];omega),e2,show i*2+2+1-2=i*2+1 by omega];exact ih.2
def DF{w:ag}{base g n cap:Nat}{T:TypeId}{xs:Q03}(h:w.ownsRow base T 2 (.slice (some<|am g) n cap) n xs)(i:Nat){u:Value}(hu:xs[i]?=some u):w.cell? (ap g i)=some u:=by
 rcases h.2 with⟨e,-⟩|⟨g',cap',cur,e,-,hc,h1⟩
 ·cases e
 injection e with e _ _;injection e with e;injection e with e;subst e;obtain⟨-,-,-,hx⟩:=h1;rw[<-hx]at hu;obtain⟨hi,e2⟩:=List.getElem?_eq_some_iff.1 hu;rw[List.getElem_take]at e2;have hi2:i<cur.size:=by simp at hi;omega
 simp[World.cell?,hc,<-e2,hi2]
variable  {w:World}{rs:Q06}{ts:Q05}{Q:Q04}{N0 bm ba bk:Nat}{BX:List (Nat×Value×TypeId)}
def DI{X:ag}{kept:Q04}{vk:Value}{M:Fc->Option Value}{nA nP pb:Nat}{P:Fc->Option Nat}{E:List<|Fc×(Fc×Value)}(h:NdR w rs ts Q N0 bm ba bk BX X kept vk M nA E)(hpb:X.cell? (am pb)=some (.map<|some bm))(hV:aL dM prog 52 X bm nP<|jW P)(hl:E.length<=1000000000000000)(f:Fc):
  ∃adA capA,(M f).getD (.slice none 0 0)=.slice adA (G.lookL E f).length capA/\Calls prog 157 #[.slice adA (G.lookL E f).length capA,.func (Fn.func 154) #[] #[.pointer (some<|am pb)]] X (a8 X<|.bool<|((G.lookL E f).map fun p=>!(cO rs ts Q p.1<|ze P<|idx Q p.1)).any id):=by
 have hpl:=ax hpb;have hll:(G.lookL E f).length<=E.length:=by unfold G.lookL;exact YM _ _
 have hlm:((G.lookL E f).map fun p=>!(cO rs ts Q p.1<|ze P<|idx Q p.1)).length=(G.lookL E f).length:=ct
 rcases h.grp.row f with⟨e,e2⟩|⟨v,e,ho⟩
 ·refine⟨none,0,by rw[e,e2];rfl,?_⟩;have:=oU 154 #[] #[.pointer (some<|am pb)] [] none 0 X ct MK<|.inl rfl;rw[e2];exact this
 rw[e];rcases ho.2 with⟨ev,h0⟩|⟨g,cap,cur,ev,hbg,hc,h1⟩
 ·have e2:G.lookL E f=[]:=X0.1 h0;refine⟨none,0,by rw[e2];exact ev,?_⟩;have:=oU 154 #[] #[.pointer (some<|am pb)] [] none 0 X ct MK<|.inl rfl;rw[e2];exact this
 refine⟨some<|am g,cap,ev,?_⟩;subst ev;have:=oU 154 #[] #[.pointer (some<|am pb)] ((G.lookL E f).map fun p=>!(cO rs ts Q p.1<|ze P<|idx Q p.1)) (some<|am g) cap X (by rw[hlm];omega) MK (.inr ⟨g,rfl,(ho.lt g rfl).2,fun i hi=>?_⟩)
 ·rw[hlm]at this;exact this
 have hi2:i<(G.lookL E f).length:=by rw[hlm]at hi;exact hi
 obtain⟨t0,t1⟩:=flat_get (Q:=Q) (G.lookL E f) i hi2;have hm:=G.mem_lookL.1<|XI hi2;have hr:=h.rul _ hm;obtain⟨T,a,ek,-⟩:=hr.kind;have ek':(G.lookL E f)[i].2=.iface T a:=ek;refine⟨_,_,DF ho _ t0,DF ho _ t1,rfl,by rw[ek'];rfl,fun w1 hb=>?_⟩;have hf:=PS (p:=idx Q (G.lookL E f)[i].1) (az hb hpl hpb) (XJ hpl hb.size) (hV.below hb)<|hr.below hb;rw[List.getElem_map];exact hf
end
section
variable  [DecidableEq Fc]
structure N1(w X:World)(P:Nat)(vL:Value)(q:Nat)(Q:Q04):Prop where
 bel:ae w X
 x0:dE X w.heap.size (.pointer<|some ⟨P,0,none⟩) 110
 x1:dE X (w.heap.size+1) vL 44
 x5:dE X (w.heap.size+1+1+1) (.map<|some<|w.heap.size+1+1) 224
 map:aL dM prog 52 X (w.heap.size+1+1) q (jW<|lh Q<|Q.take q)
def TC(w:ag)(P:Nat)(vL:Value)(Q:Q04){W0:ag}(hW0:W0=(((w.alloc<|.cells #[.pointer (some<|am P)] 110).alloc<|.cells #[vL] 44).alloc<|.map #[] 0).alloc (.cells #[.map (some<|w.heap.size+1+1)] 224)):N1 w W0 P vL 0 Q:=by
 obtain⟨V1,e1⟩:∃V,V=w.alloc (.cells #[.pointer (some<|am P)] 110):=⟨_,rfl⟩;obtain⟨V2,e2⟩:∃V,V=V1.alloc (.cells #[vL] 44):=⟨_,rfl⟩;obtain⟨V3,e3⟩:∃V,V=V2.alloc (.map #[] 0):=⟨_,rfl⟩;rw[<-e1,<-e2,<-e3]at hW0;have t1:V1.heap.size=w.heap.size+1:=by rw[e1,World.size_alloc]
 have t2:V2.heap.size=w.heap.size+1+1:=by rw[e2,World.size_alloc,t1]
 have t3:V3.heap.size=w.heap.size+1+1+1:=by rw[e3,World.size_alloc,t2]
 have f1:ae w V1:=by rw[e1];exact(XL _ _).alloc (XK _) _
 have f2:ae V1 V2:=by rw[e2];exact(XL _ _).alloc (XK _) _
 have f3:ae V2 V3:=by rw[e3];exact(XL _ _).alloc (XK _) _
 have f4:ae V3 W0:=by rw[hW0];exact(XL _ _).alloc (XK _) _
 have f12:=f1.trans<|f2.mono f1.size;have f13:=f12.trans<|f3.mono f12.size;have g1:dE V1 w.heap.size (.pointer<|some<|am P) 110:=by rw[e1];exact World.alloc_heap_new w _
 have g2:dE V2 (w.heap.size+1) vL 44:=by rw[e2,<-t1];exact World.alloc_heap_new V1 _
 have g3:aL dM prog 52 V3 (w.heap.size+1+1) 0 (fun _=>none):=by
  have:=jL dM prog 52 V2;rw[<-e3,t2]at this;exact this
 have g4:dE W0 (w.heap.size+1+1+1) (.map<|some<|w.heap.size+1+1) 224:=by rw[hW0,<-t3];exact World.alloc_heap_new V3 _
 have ek:jW (lh Q<|Q.take 0)=fun _=>none:=rfl;exact⟨f13.trans<|f4.mono f13.size,((g1.bel f2).bel f3).bel f4,(g2.bel f3).bel f4,g4,by rw[ek];exact g3.below f4⟩
def N1.put{w X Y:ag}{P q:Nat}{vL:Value}{Q:Q04}(h:N1 w X P vL q Q)(hg:X.grownBy Y<|some<|w.heap.size+1+1)(hM:aL dM prog 52 Y (w.heap.size+1+1) (q+1)<|jW<|lh Q<|Q.take<|q+1):N1 w Y P vL (q+1) Q where
 bel:=h.bel.grown hg h.bel.size (fun g e=>by injection e with e;omega)
 x0:=(hg.block _ (XO.1 h.x0).1 fun e=>by injection e with e;omega).trans h.x0
 x1:=(hg.block _ (XO.1 h.x1).1 fun e=>by injection e with e;omega).trans h.x1
 x5:=(hg.block _ (XO.1 h.x5).1 fun e=>by injection e with e;omega).trans h.x5
 map:=hM
def N1.below{w X Y:ag}{P q:Nat}{vL:Value}{Q:Q04}(h:N1 w X P vL q Q)(hb:ae X Y):N1 w Y P vL q Q :=
 ⟨h.bel.trans<|hb.mono h.bel.size,h.x0.bel hb,h.x1.bel hb,h.x5.bel hb,h.map.below hb⟩
def MQ(w wr:World)(P:Nat)(vL:Value):List (Nat×Value×TypeId):=[(w.heap.size,.pointer<|some ⟨P,0,none⟩,110),(w.heap.size+1,vL,44),(w.heap.size+1+1+1,.map<|some<|w.heap.size+1+1,224),(wr.heap.size,.func (.func 154) #[] #[.pointer (some ⟨w.heap.size+1+1+1,0,none⟩)],228),(wr.heap.size+1+1,.map<|some<|wr.heap.size+1,229),(wr.heap.size+1+1+1+1,vL,44)]
def TD(rs:Q06)(ts:Q05){w wr W1 W2:ag}{P k:Nat}{vL:Value}{Q:Q04}(h:N1 w wr P vL (k+1) Q)
  (hW1:W1=(((wr.alloc<|.cells #[.func (.func 154) #[] #[.pointer (some<|am<|w.heap.size+1+1+1)]] 228).alloc<|.map #[] 0).alloc<|.cells #[.map (some<|wr.heap.size+1)] 229).alloc (.cells #[.slice none 0 0] 44))
  (hW2:W2=W1.alloc (.cells #[vL] 44)) :
  W1.heap.size=wr.heap.size+1+1+1+1/\W2.heap.size=wr.heap.size+1+1+1+1+1/\ae wr W2/\NdK w W2.heap.size (w.heap.size+1+1) (wr.heap.size+1) (wr.heap.size+1+1+1) (MQ w wr P vL)/\NdR w rs ts Q W2.heap.size (w.heap.size+1+1) (wr.heap.size+1) (wr.heap.size+1+1+1) (MQ w wr P vL) W2 [] (.slice none 0 0) (fun _=>none) 0 []/\aL dM prog 52 W2 (w.heap.size+1+1) (k+1) (jW<|lh Q<|Q.take (k+1)++[]):=by
 obtain⟨V1,e1⟩:∃V,V=wr.alloc (.cells #[.func (.func 154) #[] #[.pointer (some<|am<|w.heap.size+1+1+1)]] 228):=⟨_,rfl⟩;obtain⟨V2,e2⟩:∃V,V=V1.alloc (.map #[] 0):=⟨_,rfl⟩;obtain⟨V3,e3⟩:∃V,V=V2.alloc (.cells #[.map (some<|wr.heap.size+1)] 229):=⟨_,rfl⟩;rw[<-e1,<-e2,<-e3]at hW1;have t1:V1.heap.size=wr.heap.size+1:=by rw[e1,World.size_alloc]
 have t2:V2.heap.size=wr.heap.size+1+1:=by rw[e2,World.size_alloc,t1]
 have t3:V3.heap.size=wr.heap.size+1+1+1:=by rw[e3,World.size_alloc,t2]
 have t4:W1.heap.size=wr.heap.size+1+1+1+1:=by rw[hW1,World.size_alloc,t3]
 have t5:W2.heap.size=wr.heap.size+1+1+1+1+1:=by rw[hW2,World.size_alloc,t4]
 have f1:ae wr V1:=by rw[e1];exact(XL _ _).alloc (XK _) _
 have f2:ae V1 V2:=by rw[e2];exact(XL _ _).alloc (XK _) _
 have f3:ae V2 V3:=by rw[e3];exact(XL _ _).alloc (XK _) _
 have f4:ae V3 W1:=by rw[hW1];exact(XL _ _).alloc (XK _) _
 have f5:ae W1 W2:=by rw[hW2];exact(XL _ _).alloc (XK _) _
 have f12:=f1.trans<|f2.mono f1.size;have f13:=f12.trans<|f3.mono f12.size;have f14:=f13.trans<|f4.mono f13.size;have f15:=f14.trans<|f5.mono f14.size;have g1:dE V1 wr.heap.size (.func (.func 154) #[] #[.pointer (some<|am<|w.heap.size+1+1+1)]) 228:=by rw[e1];exact World.alloc_heap_new wr _
 have g2:G.Grp dM prog 52 226 2 (DL Q) V2 (wr.heap.size+1) 0 (fun _=>none) []:=by
  have:=G.grp_made (enc:=dM) (P:=prog) (kt:=52) (et:=226) (sz:=2) (cl:=DL Q) V1;rw[<-e2,t1]at this;exact this
 have g3:dE V3 (wr.heap.size+1+1) (.map<|some<|wr.heap.size+1) 229:=by rw[e3,<-t2];exact World.alloc_heap_new V2 _
 have g4:dE W1 (wr.heap.size+1+1+1) (.slice none 0 0) 44:=by rw[hW1,<-t3];exact World.alloc_heap_new V3 _
 have g5:dE W2 (wr.heap.size+1+1+1+1) vL 44:=by rw[hW2,<-t4];exact World.alloc_heap_new W1 _
 have hx5:w.heap.size+1+1+1<wr.heap.size:=(XO.1 h.x5).1;have hn:=h.below f15;refine⟨t4,t5,f15,⟨cq,cq,cq,cq,cq,cq,cq,?_⟩,⟨hn.bel,XK _,fC hn.map,World.ownsRow_nil _ _ _ _,g4.bel f5,?_,((g2.below f3).below f4).below f5,fun e he=>by cases he⟩,by rw[YB];exact hn.map⟩
 ·intro p hp;simp only[MQ,X7,List.not_mem_nil,or_false]at hp;rcases hp with rfl|rfl|rfl|rfl|rfl|rfl<;>exact⟨by simp only;omega,by simp only;omega,by simp only;decide,by simp only;decide⟩
 intro p hp;simp only[MQ,X7,List.not_mem_nil,or_false]at hp;rcases hp with rfl|rfl|rfl|rfl|rfl|rfl
 ·exact hn.x0
 ·exact hn.x1
 ·exact hn.x5
 ·exact(((g1.bel f2).bel f3).bel f4).bel f5
 ·exact(g3.bel f4).bel f5
 exact g5
structure NdP(rs:Q06)(ts:Q05)(Q:Q04)(k q:Nat)(f:Fc)(kept:Q04)(E:List<|Fc×(Fc×Value)):Prop where
 q1:q<=k+1
 sub:kept.Sublist (Q.drop<|k+1-q)
 prf:uC (cO rs ts Q) (Q.take (k+1-q)++kept)
 ned:q=0/\kept=[]\/1<=q/\kept≠[]/\ja (eY rs ts Q) Q (k+1-q) kept=kD rs ts Q f k
 own:∀e∈E,e.2.1∈kept
 hng:∀x∈kept,iZ (cO rs ts Q x) (PZ E x)
 len:E.length<=q*15625000
def P5{rs:Q06}{ts:Q05}{Q:Q04}{k:Nat}{f:Fc}(hP:uC (cO rs ts Q) Q):NdP rs ts Q k 0 f [] [] where
 q1:=XP _
 sub:=List.nil_sublist _
 prf:=by
  rw[YB];have h:=hP;rw[<-List.take_append_drop (k+1-0) Q]at h;have h2:uC (cO rs ts Q) (Q.take (k+1-0)++Q.drop (k+1-0)):=by rw[List.take_append_drop];exact hP
  exact h2.left
 ned:=.inl ⟨rfl,rfl⟩
 own e he:=by cases he
 hng x hx:=by cases hx
 len:=ct
def NdP.sub2{rs:Q06}{ts:Q05}{Q:Q04}{k q i:Nat}{fk:Fc}{kept:Q04}{E:List<|Fc×(Fc×Value)}(h:NdP rs ts Q k q fk kept E)(hi:i+q=k):kept.Sublist (Q.drop<|i+1):=by
 have:=h.sub;rw[show k+1-q=i+1 by omega]at this;exact this
def NdP.prf2{rs:Q06}{ts:Q05}{Q:Q04}{k q i:Nat}{fk:Fc}{kept:Q04}{E:List<|Fc×(Fc×Value)}(h:NdP rs ts Q k q fk kept E)(hi:i+q=k):uC (cO rs ts Q) (Q.take (i+1)++kept):=by
 have:=h.prf;rw[show k+1-q=i+1 by omega]at this;exact this
def NdP.skip{rs:Q06}{ts:Q05}{Q:Q04}{k q i:Nat}{fk:Fc}{kept:Q04}{E:List<|Fc×(Fc×Value)}(h:NdP rs ts Q k q fk kept E)(hi:i+q=k)(hiQ:i<Q.length)(hik:i<k)(hok:∀x∈Q,okB x=true)(ht:eY rs ts Q i kept=true):NdP rs ts Q k (q+1) fk kept E:=by
 have e1:k+1-(q+1)=i:=cq;have e2:k+1-q=i+1:=cq;have hs:=h.sub2 hi;have hp:=F9 hiQ hok (fun x hx=>List.mem_of_mem_drop<|hs.subset hx) (h.prf2 hi);rw[if_pos ht]at hp;refine⟨cq,?_,by rw[e1];exact hp,.inr ⟨cq,?_⟩,h.own,h.hng,XR h.len<|Nat.mul_le_mul_right _ cq⟩
 ·rw[e1,Yi hiQ];exact hs.cons _
 rcases h.ned with⟨h0,-⟩|⟨-,h1,h2⟩
 ·omega
 exact⟨h1,by rw[e1,<-h2,e2,pV hiQ ht]⟩
def NdP.keep{rs:Q06}{ts:Q05}{Q:Q04}{k q i:Nat}{fk:Fc}{kept:Q04}{E:List<|Fc×(Fc×Value)}{fs:Q04}{v:Value}(h:NdP rs ts Q k q fk kept E)(hi:i+q=k)(hiQ:i<Q.length)(ht:i<k->eY rs ts Q i kept=false)(hfk:i=k->fk=Q[i])(hH:iZ (cO rs ts Q Q[i]) fs)(hl:fs.length<=15625000):NdP rs ts Q k (q+1) fk (Q[i]::kept) (E++fs.map fun g=>(g,(Q[i],v))):=by
 have e1:k+1-(q+1)=i:=cq;have e2:k+1-q=i+1:=cq;have hs:=h.sub2 hi;have hp:=h.prf2 hi;rw[XM hiQ,Ye]at hp;refine⟨cq,?_,by rw[e1];exact hp,.inr ⟨cq,ct,?_⟩,fun e he=>?_,fun x hx=>?_,?_⟩
 ·rw[e1,Yi hiQ];exact hs.cons_cons _
 ·rw[e1];rcases h.ned with⟨h0,h1⟩|⟨h0,h1,h2⟩
  ·have hik:i=k:=cq;rw[h1,hfk hik];subst hik;rfl
  rw[<-h2,e2,sI hiQ<|ht cq]
 ·rcases XV.1 he with he|he
  ·exact Yt _<|h.own e he
  obtain⟨g,-,rfl⟩:=XW.1 he;exact Yx ..
 ·rcases X7.1 hx with rfl|hx
  ·exact hH.more fun g hg=>tq.2 ⟨v,List.mem_append_right _<|XW.2 ⟨g,hg,rfl⟩⟩
  exact(h.hng x hx).more fun g hg=>by
   obtain⟨u,hu⟩:=tq.1 hg;exact tq.2 ⟨u,YN _ hu⟩
 rw[XT,Yp,Nat.add_mul,Nat.one_mul];exact Nat.add_le_add h.len hl
def Va{Q kept:Q04}{i:Nat}(hQ:Q.Nodup)(hi:i<Q.length)(hsub:kept.Sublist<|Q.drop<|i+1):∀g,g∈Q.take i++kept↔g∈Q.take (i+1)++kept/\g≠Q[i]:=fun g=>by
 have h1:∀x∈Q.take i,x≠Q[i]:=fun x hx e=>by
  obtain⟨a,ha,e2⟩:=Yk hx;rw[Yc]at ha;rw[List.getElem_take]at e2;have h3:idx Q Q[a]=idx Q Q[i]:=by rw[e2,e]
  rw[jf Q hQ a cq,jf Q hQ i hi]at h3;omega
 have h2:∀x∈kept,x≠Q[i]:=fun x hx e=>by
  obtain⟨a,ha,e2⟩:=Yk<|hsub.subset hx;rw[List.getElem_drop]at e2;rw[YD]at ha;have h3:idx Q Q[i+1+a]=idx Q Q[i]:=by rw[e2,e]
  rw[jf Q hQ _ cq,jf Q hQ i hi]at h3;omega
 rw[XM hi];simp only[XV,XX];constructor
 ·rintro(h|h)
  ·exact⟨.inl<|.inl h,h1 g h⟩
  exact⟨.inr h,h2 g h⟩
 rintro⟨(h|h)|h,hne⟩
 ·exact .inl h
 ·exact absurd h hne
 exact .inr h
def put_mem{Q kept:Q04}{i:Nat}(hi:i<Q.length):∀g,g∈Q.take i++Q[i]::kept↔g∈Q.take i++kept\/g=Q[i]:=fun g=>by
 simp only[XV,X7];constructor
 ·rintro(h|h|h)
  ·exact .inl<|.inl h
  ·exact .inr h
  exact .inl<|.inr h
 rintro((h|h)|h)
 ·exact .inl h
 ·exact .inr<|.inr h
 exact .inr<|.inl h
def WC:∀u:World,(zeroValue 234).run prog u=.ok (.slice none 0 0) u:=fun u=>Tryz.zeroValue234 u
def Vb:∃i,prog.info? 226=some i/\i.zero=some (.agg #[.int .i64 0,.nilIface])/\i.size=2/\i.bytes=24 :=
 info_parts (P:=prog) (e:=226) (z:=.agg #[.int .i64 0,.nilIface]) (size:=2) (bytes:=24) cw
structure LpI(w:World)(rs:Q06)(ts:Q05)(Q:Q04)(N0 bm ba bk:Nat)(BX:List<|Nat×Value×TypeId)(Y wr:World)(kept:Q04)(vk:Value)(M:Fc->Option Value)(E:List<|Fc×(Fc×Value))(nP:Nat)(S:Q04)(f:Fc)(rv:Value)(Zp:Q02)(fs:Q04)(B13 j:Nat):Prop where
 nd:NdR w rs ts Q N0 bm ba bk BX wr kept vk M (E.length+j) (E++(fs.take j).map fun g=>(g,(f,rv)))
 pl:aL dM prog 52 wr bm nP (jW<|lh Q S)
 kp:KeepsFrom N0 Y wr
 ru:aG wr (WK N0 vk M) 8 rv (cO rs ts Q f)
 sl:jX wr Zp fs
 fr:fs=[] \/ ∃g,Zp=some ⟨g,0,none⟩/\N0<=g/\G.FreeB M g
 s0:G.Cel wr M ba B13 0 (.int .i64 (idx Q f:Int))
 s1:G.Cel wr M ba B13 1 rv
def lW{B:Nat}{X Y Z:ag}(h:KeepsFrom B X Y)(k:KeepsFrom B Y Z):KeepsFrom B X Z:=⟨XR h.size k.size,fun g o hB h1 h2=>k.same g o hB (h.same g o hB h1 h2) h2⟩
def kE{B:Nat}{X Y:ag}(h:ae X Y):KeepsFrom B X Y:=⟨h.size,fun g o _ h1 _=>(h.block g (XO.1 h1).1).trans h1⟩
def zX{B b:Nat}{X Y:ag}(h:X.grownBy Y<|some b)(hb:b<B):KeepsFrom B X Y:=⟨h.size,fun g o hB h1 _=>(h.block g (XO.1 h1).1 fun e=>by injection e with e;omega).trans h1⟩
variable  {w:World}{rs:Q06}{ts:Q05}{Q:Q04}{N0 bm ba bk:Nat}{BX:List (Nat×Value×TypeId)}
def LpI.below{Y wr wr':ag}{kept:Q04}{vk:Value}{M:Fc->Option Value}{E:List<|Fc×(Fc×Value)}{nP:Nat}{S:Q04}{f:Fc}{rv:Value}{Zp:Q02}{fs:Q04}{B13 j:Nat}(h:LpI w rs ts Q N0 bm ba bk BX Y wr kept vk M E nP S f rv Zp fs B13 j)(hb:ae wr wr'):LpI w rs ts Q N0 bm ba bk BX Y wr' kept vk M E nP S f rv Zp fs B13 j where
 nd:=h.nd.below hb
 pl:=h.pl.below hb
 kp:=lW h.kp<|kE hb
 ru:=h.ru.below hb
 sl:=h.sl.below hb
 fr:=h.fr
 s0:=h.s0.stl<|G.Stl.below hb
 s1:=h.s1.stl<|G.Stl.below hb
def LpI.ask{Y W0 w1 w2 w3:ag}{kept:Q04}{vk v':Value}{M:Fc->Option Value}{E:List<|Fc×(Fc×Value)}{nP:Nat}{S:Q04}{f:Fc}{rv:Value}{Zp:Q02}{fs:Q04}{B13 j:Nat}(hK:NdK w N0 bm ba bk BX)(h:LpI w rs ts Q N0 bm ba bk BX Y W0 kept vk M E nP S f rv Zp fs B13 j)(hj:j<fs.length)(hg1:W0.grownBy w1<|some ba)(hown:w2.ownsRow (ba+1) 226 2 v' ((G.lookL (E++(fs.take j).map fun g=>(g,(f,rv))) fs[j]).length+1) (G.flatG (DL Q) (G.lookL (E++(fs.take j).map fun g=>(g,(f,rv))) fs[j])++DL Q (f,rv)))
  (hg2:w1.grownBy w2 ((M fs[j]).getD<|.slice none 0 0).ownBlock) (hloc:v'.ownBlock=((M fs[j]).getD<|.slice none 0 0).ownBlock\/v'.ownBlock=some w1.heap.size) (hg3:w2.grownBy w3<|some ba) (hM:aL dM prog 52 w3 ba (E.length+j+1)<|iw M fs[j]<|some v') :
  LpI w rs ts Q N0 bm ba bk BX Y w3 kept vk (iw M fs[j]<|some v') E nP S f rv Zp fs B13 (j+1):=by
 obtain⟨h1,h2,h3,h4,h5⟩:=NdR.ask hK h.nd h.ru hg1 hown hg2 hloc hg3 hM;have ba1:=hK.a1;refine⟨?_,h.pl.of_block h4,lW h.kp h3,h5,?_,?_,h.s0.stl h2,h.s1.stl h2⟩
 ·rw[XM hj,YF,<-Ye];exact h1
 ·refine h.sl.blockF h2.size fun hne=>?_;rcases h.fr with e|⟨g,e,hN,hf⟩
  ·exact absurd e hne
  exact⟨g,e,fun hl=>h2.block g hl cq hf⟩
 rcases h.fr with e|⟨g,e,hN,hf⟩
 ·exact .inl e
 rcases h.sl with e2|⟨b,off,e2,hb,-⟩
 ·exact .inl e2
 refine .inr ⟨g,e,hN,h2.free g ?_ hf⟩;rw[e]at e2;injection e2 with e2;injection e2 with e2 e3;omega
def TE{W W1:ag}{nA:Nat}{M:Fc->Option Value}{E:List<|Fc×(Fc×Value)}(h:G.Grp dM prog 52 226 2 (DL Q) W ba nA M E)(hg:W.grownBy W1<|some ba)(y:Fc):W1.ownsRow (ba+1) 226 2 ((M y).getD<|.slice none 0 0) (G.lookL E y).length (G.flatG (DL Q)<|G.lookL E y):=by
 rcases h.row y with⟨e,e2⟩|⟨v,e,ho⟩
 ·rw[e,e2];exact World.ownsRow_nil _ _ _ _
 rw[e];refine ho.kept hg ?_;cases e2:v.ownBlock with
 | none=>exact .inl rfl
 | some g=>right;have:=(h.lt e e2).1;intro e3;injection e3 with e3;omega
def Vd{W W1 W2:ag}{nA:Nat}{M:Fc->Option Value}{E:List<|Fc×(Fc×Value)}(h:G.Grp dM prog 52 226 2 (DL Q) W ba nA M E){y:Fc}(hl:cW ba W1)(hg:W1.grownBy W2 ((M y).getD<|.slice none 0 0).ownBlock):W2.heap[ba]?=W1.heap[ba]?:=hg.block _ hl fun e=>by
 cases ey:M y with
 | none=>rw[ey]at e;simp[Value.ownBlock]at e
 | some v=>rw[ey]at e;have:=(h.lt ey (g:=ba)<|by simpa using e.symm).1;omega
def P6{E:List<|Fc×(Fc×Value)}(y:Fc):(G.lookL E y).length<=E.length:=by unfold G.lookL;exact YM _ _
def P7{Y Y4 Y5 Y6 Y7:ag}{kept:Q04}{vk:Value}{M:Fc->Option Value}{E:List<|Fc×(Fc×Value)}{nP:Nat}{S:Q04}{f:Fc}{rv:Value}{Zp:Q02}{fs:Q04}{i:Nat}(hK:NdK w N0 bm ba bk BX)(hR4:NdR w rs ts Q N0 bm ba bk BX Y4 kept vk M E.length E)(hM4:aL dM prog 52 Y4 bm nP<|jW<|lh Q S)(hkp:KeepsFrom N0 Y Y4)(hb5:ae Y4 Y5)(hru:aG Y5 (jo Y4.heap.size) 8 rv<|cO rs ts Q f)(hY6:Y6=Y5.alloc (.cells #[.int .i64 (i:Int),rv] 226))(hi:idx Q f=i)(hb7:ae Y6 Y7)(hsl:jX Y7 Zp fs)(hat:WB (jo Y4.heap.size) Y6 Zp fs):
  LpI w rs ts Q N0 bm ba bk BX Y Y7 kept vk M E nP S f rv Zp fs Y5.heap.size 0:=by
 have hb6:ae Y5 Y6:=by rw[hY6];exact(XL _ _).alloc (XK _) _
 have s6:Y6.heap.size=Y5.heap.size+1:=by rw[hY6,World.size_alloc]
 have x0:Y6.cell? (aE Y5)=some (.int .i64 (idx Q f:Int)):=by rw[hY6,hi];simp
 have x1:Y6.cell? (a6 Y5 1)=some rv:=by rw[hY6];simp
 have hn:=hR4.n0;have h45:=hb5.size;have h67:=hb7.size;have ha:=hK.a1;have hfree:∀g,Y4.heap.size<=g->G.FreeB M g:=fun g hg=>hR4.grp.fresh hg;have hR7:=((hR4.below hb5).below hb6).below hb7;refine⟨by simpa using hR7,((hM4.below hb5).below hb6).below hb7,lW (lW (lW hkp<|kE hb5)<|kE hb6)<|kE hb7,?_,hsl,?_,⟨az hb7 cq x0,cq,hfree _ cq,cq⟩,⟨az hb7 cq x1,cq,hfree _ cq,cq⟩⟩
 ·refine aG.keep (XK _) (fun g hg _=>⟨⟨?_,fun e=>?_,hfree g hg⟩,rfl⟩) _ _ _ ((hru.below hb6).below hb7)
  ·have:Y4.heap.size<=g:=hg;omega
  have:Y4.heap.size<=g:=hg;have:=(hR4.row.lt g e).2;omega
 rcases hat with e|⟨g,e,h|h⟩
 ·exact .inl e
 ·have:Y4.heap.size<=g:=h;exact .inr ⟨g,e,cq,hfree g this⟩
 exact .inr ⟨g,e,cq,hfree g cq⟩
def WE(w:ag)(a b:Value):∀j u,[a,b][j]?=some u->(w.alloc<|.cells #[a,b] 226).cell? ((⟨w.heap.size,0,none⟩:Addr).add j)=some u:=fun j u hu=>by
 match j,hu with
 | 0,hu=>simp at hu;subst hu;simp[Addr.add]
 | 1,hu=>simp at hu;subst hu;simp[Addr.add]
 | j+2,hu=>simp at hu
end
end Go.Proofs.YtojjoblnpldniaaGreat
namespace Go.Proofs.YtojjoblnpldniaaGreat
set_option linter.unusedVariables false
set_option linter.unusedSectionVars false
set_option maxRecDepth 100000
open ChangeShapes WideShapes ChangeAt RowKit Maps Go.Shelf
open Pl
attribute [local go_sem] Oper.semAt_some
section
variable  [DecidableEq Fc]
def MR(w:ag)(rs:Q06)(ts:Q05)(Q:Q04)(ad:Q02)(P D br bp bt bK nK:Nat)(n1:Int)(nr:Nat)(Mr:KL->Option Value)(Er:List<|KL×RR)(xo xu:Q0a)(np:Nat)(Mp:K3->Option Value)(vo vu:Value)(ZG:Q02)(Za:Nat)(Zo:Q02)(Y0 k:Nat)
  (hP:PrM w P D ZG Za Q bK nK) (hD:DatA w rs D br bp bt n1 nr Mr Er (bB ts) xo xu np Mp vo vu) (hts:∀t∈ts,t.fits) (htl:ts.length<=40) (hsh:bz (ai rs)=true) (hs:kI w ad rs) (hQf:∀x∈Q,x.fits) (hQn:Q.Nodup) (hQl:Q.length<=115200) (hok:∀x∈Q,okB x=true) (hPr:uC (cO rs ts Q) Q) (hk:k<Q.length) (hL:jX w Zo<|Q.take<|k+1) (hcL:k+1<=Y0) :
  Calls prog 70 #[.pointer (some<|am P),.slice Zo (Q.take<|k+1).length Y0] w fun e w'=>(∃v,e=.returned v/\bj w w' 52 5 v (kD rs ts Q Q[k] k).length (av<|kD rs ts Q Q[k] k))/\ae w w':=by
 obtain⟨iF,z0,z1,z2,z3⟩:=mI;have hLl:(Q.take<|k+1).length=k+1:=by rw[Yc];omega
 obtain⟨L,hLe⟩:=eQx<|Q.take<|k+1;rw[<-hLe]at hL hLl ⊢;have ZH:=ah hLe;have HLL:=ah hLl;have hL6:a7 L:=cq;clear hLe hLl;obtain⟨W0,hW0⟩:=eQx<|(((w.alloc<|.cells #[.pointer (some<|am P)] 110).alloc<|.cells #[.slice Zo L.length Y0] 44).alloc<|.map #[] 0).alloc<|.cells #[.map (some<|w.heap.size+1+1)] 224;have H10:=ah<|TC w P (.slice Zo L.length Y0) Q hW0;have hmm:=@run_makeMap prog;refine(callsIn_wide (n:=12)).1 ?_;refine callsIn_of_wp_marks func70 rfl trivial ?_ rfl;simp only[ntmps70,List.size_toArray,Yh,YO,Nat.reduceAdd,Nat.reduceSub,Array.replicate_succ,Array.replicate_zero,List.push_toArray,List.append_toArray,YI,Yz];gi_wp2;rw[<-hW0];clear hW0
 gi_loopw [19] (fun i wr=>∃q:Nat,q<=L.length/\i=.int .i64 q/\O (N1 w wr P (.slice Zo L.length Y0) q Q)) (fun i _=>L.length-(intOf i).toNat)
 case atStart=>exact⟨0,XP _,rfl,H10⟩
 obtain⟨q,hq,rfl,HN⟩:=hrel;by_cases hlq:q<L.length
 ·have hqQ:q<Q.length:=by have:=HLL.out;omega
  have heq:L[q]=Q[q]:=by
   have e:=ZH.out;subst e;exact List.getElem_take ..
  obtain⟨b,off,YW,⟨t0,t1,t2,t3,t4⟩,hbl⟩:=jX.at0 (hL.below HN.bel) hlq;rw[heq]at t0 t1 t2 t3 t4;obtain⟨x,hx⟩:=eQx<|Q[q];rw[<-hx]at t0 t1 t2 t3 t4;obtain⟨kl,hkl⟩:=lN x (by rw[hx];exact hQf _<|XI _);have i1:=bG q;have i2:(q:Int)<(L.length:Int):=cq
  obtain⟨W1,hW1⟩:=eQx<|wr.alloc<|.cells (cf x) 52;have hb1:ae wr W1:=by rw[hW1];exact(XL _ _).alloc (XK _) _
  have HN1:=ah<|HN.below hb1;have x5:=HN.x5.c;have x5l:=ax x5;have HPL:O (iw (jW<|lh Q<|Q.take q) x (some<|.int .i64 (q:Int))=jW (lh Q<|Q.take<|q+1)):=NG (by rw[hx];exact jf Q hQn q hqQ) fun g=>by rw[XM hqQ,XV,XX,hx]
  have HX:=ah hx;subst YW;clear hx heq hb1
  gi_wp2_with (first
   | (gi_at_mapUpdate;rw[<-hW1];clear hW1;refine l8 _ rfl _ _ _ 224 rfl 52 3 oO nM underlying224 (w.heap.size+1+1) _ _ rfl HN1.map cy x kl rfl hkl (.int .i64 (q:Int)) rfl ?_;intro Y1 hM1 hg1;rw[HPL]at hM1;have HN2:=ah<|HN1.put hg1 hM1;clear hM1 hg1)
   | gi_in)
  go_roundw;case rel=>exact⟨q+1,cq,cx,HN2⟩
  simp[intOf]<;>omega
 have hqe:q=k+1:=by have:=HLL.out;omega
 subst hqe;obtain⟨wz,hwz⟩:∃z,z=wr:=⟨_,rfl⟩;subst hwz;have x1:=HN.x1.c;have x1l:=ax x1;have hx1l:w.heap.size+1<wz.heap.size+1:=cq;have hx1m:w.heap.size+1<wz.heap.size+1+1:=cq;have hx1n:w.heap.size+1<wz.heap.size+1+1+1:=cq;have hmm:=@run_makeMap prog;obtain⟨W1,hW1⟩:=eQx<|(((wz.alloc<|.cells #[.func (.func 154) #[] #[.pointer (some<|am<|w.heap.size+1+1+1)]] 228).alloc<|.map #[] 0).alloc<|.cells #[.map (some<|wz.heap.size+1)] 229).alloc<|.cells #[.slice none 0 0] 44
 gi_wp2_with fail
 rw[<-hW1];refine⟨trivial,(callsIn_wide.2<|Hy Zo L.length Y0 W1).mono ?_⟩;rintro e W2 ⟨rfl,hW2⟩;obtain⟨t4,t5,hb2,hK,hR0,hM0⟩:=TD rs ts HN hW1 hW2;have HK:=ah hK;have HR0:=ah hR0;have HM0:=ah hM0;have HB2:=ah hb2;clear hW1 hW2 hK hR0 hM0 hb2 hmm x1 x1l hx1l hx1m hx1n;gi_wp2;have hK:=HK.out;have hm0:=hK.m0;have hm1:=hK.m1;have hk1:=hK.k1
 refine nG (α:=Nat×Fc) rfl cq (gf:=225) (lb:=#[.pointer (some<|am<|wz.heap.size+1+1+1+1)]) rfl trivial (enters_of func225 cw rfl)
  (O4 11 cq (wz.heap.size+1+1+1+1) Zo Y0 L hL6 (fun _ _ _=>True) W2) (XL _ _) (fun _=>rfl) (fun _ _=>trivial) (fun _ _ _ _ _ _=>trivial)
  (fun pre Y=>∃(kept:Q04) (vk:Value) (M:Fc->Option Value) (E:List<|Fc×(Fc×Value)),NdR w rs ts Q W2.heap.size (w.heap.size+1+1) (wz.heap.size+1) (wz.heap.size+1+1+1) (MQ w wz P<|.slice Zo L.length Y0) Y kept vk M E.length E/\(∃nP,nP<=k+1+pre.length/\aL dM prog 52 Y (w.heap.size+1+1) nP (jW<|lh Q<|Q.take (k+1-pre.length)++kept))/\NdP rs ts Q k pre.length Q[k] kept E)
  ?own ?tell ⟨[],.slice none 0 0,fun _=>none,[],HR0,⟨k+1,cq,HM0⟩,P5 hPr⟩
  (fun x a' Y=>∃Bx,kC Y Bx x.2/\(∃v,dE Y (wz.heap.size+1+1+1) v 44/\v.ownBlock≠some Bx)/\a'={ tmps:=List.toArray (Value.pointer (some<|am P)::.slice Zo L.length Y0::.pointer (some<|aE w)::.pointer (some<|am<|w.heap.size+1)::.slice none 0 0::.pointer (some<|am<|w.heap.size+1+1+1)::u6::u7::.pointer (some<|aE wz)::.pointer (some<|am<|wz.heap.size+1+1)::.pointer (some<|am<|wz.heap.size+1+1+1)::.int .i64 (x.1:Int)::.pointer (some<|am Bx)::undef::undef::undef::.map (some<|w.heap.size+1+1)::.slice Zo L.length Y0::.int .i64 (L.length:Int)::.int .i64 ((k:Int)+1)::.bool (decide ((k:Int)+1<(L.length:Int)))::u21::u22::u23::u24::u25::u26::u27::.func (.func 154) #[] #[.pointer (some<|am<|w.heap.size+1+1+1)]::.map (some<|wz.heap.size+1)::.slice Zo L.length Y0::.func (.func 225) #[] #[.pointer (some<|am<|wz.heap.size+1+1+1+1)]::.int .i64 (x.1:Int)::.agg #[.string x.2.a,.string x.2.b,.string x.2.r,.string x.2.c,.string x.2.d]::undef::undef::undef::undef::undef::undef::undef::undef::undef::undef::undef::undef::undef::undef::undef::undef::undef::undef::undef::undef::undef::undef::undef::undef::undef::undef::undef::undef::undef::undef::undef::undef::undef::undef::undef::undef::undef::undef::undef::undef::undef::undef::undef::undef::undef::undef::undef::[]),defers:=[] })
  (fun x a' s Y Z row hs hg hr=>by
   obtain⟨Bx,h,⟨v,hv,hne⟩,e⟩:=hs;refine⟨Bx,Dg (B0:=W2.heap.size) (g:=Bx) (x:=x.2) () Y Z row h hg hr,⟨v,(hg.block _ (XO.1 hv).1 fun e2=>?_).trans hv,hne⟩,e⟩;obtain⟨h1,o,h2,h3⟩:=hr _ e2.symm;omega) ?assign ?body ?done
 case own =>
  intro pre Y Z row hs hg hr;obtain⟨kept,vk,M,E,h1,⟨nP,hn,h2⟩,h3⟩:=hs;exact⟨kept,vk,M,E,NdR.kept hK h1 hg hr,⟨nP,hn,h2.kept hg (fun e=>by have:=(hr _ e.symm).1;omega)⟩,h3⟩
 case tell =>
  rintro pre Y ⟨kept,vk,M,E,h1,-,-⟩;exact⟨(h1.bxs (wz.heap.size+1+1+1+1,.slice Zo L.length Y0,44)<|by simp[MQ]).c,hL.below h1.bel⟩
 case assign =>
  rintro l' pre x Y K ⟨kept,vk,M,E,h1,⟨nP,hn,h2⟩,h3⟩ hKK;unfold R6;gi_wp2;have hbl:ae Y (Y.alloc<|.cells #[.string x.2.a,.string x.2.b,.string x.2.r,.string x.2.c,.string x.2.d] 52):=(XL _ _).alloc (XK _) _;exact hKK _ _ ((KeepsOthers.alloc _ _).from _) trivial ⟨kept,vk,M,E,h1.below hbl,⟨nP,hn,h2.below hbl⟩,h3⟩ ⟨Y.heap.size,World.alloc_heap_new Y _,⟨vk,h1.bx.bel hbl,fun e=>by have:=(h1.row.lt _ e).2;omega⟩,rfl⟩
 case body =>
  rintro l' pre x a' Y hl ⟨hlt,hx⟩ ⟨kept,vk,M,E,hR,⟨nP,hnP,hM⟩,hPP⟩ ⟨Bx,bX,⟨v0,hv0,hvB⟩,rfl⟩;have e0:v0=vk:=by
   have h1:=hv0;have h2:=hR.bx;unfold dE at h1 h2;rw[h1]at h2;injection h2 with h2;injection h2 with h2;simpa using h2
  subst e0;obtain⟨i,hi⟩:∃i,i+pre.length=k:=⟨k-pre.length,by have:=HLL.out;omega⟩;have hiQ:i<Q.length:=cq
  have hxe:x=(i,Q[i]):=by
   have e:L.length-1-pre.length=i:=by have:=HLL.out;omega
   have h1:L[L.length-1-pre.length]?=Q[i]?:=by rw[e,ZH,List.getElem?_take,if_pos cq]
   rw[XQ cq,XQ hiQ]at h1;rw[hx];exact Prod.ext e<|Option.some.inj h1
  obtain⟨f,hf⟩:=eQx<|Q[i];rw[<-hf]at hxe;subst hxe
  change kC Y Bx f at bX
  dsimp only;have ek:k+1-pre.length=i+1:=cq;rw[ek]at hM;have hsub:=hPP.sub2 hi;have hprf:=hPP.prf2 hi;have hff:f.fits:=by rw[hf];exact hQf _<|XI _
  obtain⟨kl,hkl⟩:=lN f hff;have hElen:=hPP.len;have hEl:E.length<=1800000000000:=XR hElen (XR (Nat.mul_le_mul_right _ (show pre.length<=115200 by omega)) cv);have hkl2:kept.length<=115200:=by have:=hsub.length_le;rw[YD]at this;omega
  have b5:=(hR.bxs (w.heap.size+1+1+1,.map<|some<|w.heap.size+1+1,224)<|by simp[MQ]).c;have b5l:=ax b5;obtain⟨c0,c1,c2,c3,c4,cl0⟩:=bX.c;have HCUT:O (iw (jW<|lh Q<|Q.take (i+1)++kept) f none=jW (lh Q<|Q.take i++kept)):=U7 (by rw[hf];exact Va hQn hiQ hsub);have HHF:=ah hf;have HX0:=ah (show hx=hx from rfl);clear hf hx hv0 HX0
  gi_wp2_with (first
   | (gi_at_delete;refine zh _ rfl _ _ 224 52 rfl 3 oO nM underlying224 (w.heap.size+1+1) nP _ rfl hM f kl rfl hkl ?_;intro Y1 hM1 hg1;rw[HCUT]at hM1)
   | gi_in)
  have hbn:Bx≠w.heap.size+1+1:=fun e=>by
   obtain⟨es,c,e2⟩:=hR.mp;have h:=bX;unfold kC at h;rw[e,e2]at h;cases h
  have Zr:=NdR.plc hK hR hg1 hM1;have bX1:kC Y1 Bx f:=(hg1.block _ cl0 fun e=>hbn<|by injection e).trans bX;have hkp1:KeepsFrom W2.heap.size Y Y1:=zX hg1 hm1;obtain⟨C0,C1,C2,C3,C4,cl⟩:=bX1.c;have D1:=(Zr.bxs (w.heap.size+1,.slice Zo L.length Y0,44)<|by simp[MQ]).c;have D9:=(Zr.bxs (wz.heap.size+1+1,.map<|some<|wz.heap.size+1,229)<|by simp[MQ]).c;have D8:=(Zr.bxs (wz.heap.size,.func (.func 154) #[] #[.pointer (some<|am<|w.heap.size+1+1+1)],228)<|by simp[MQ]).c;have D5:=(Zr.bxs (w.heap.size+1+1+1,.map<|some<|w.heap.size+1+1,224)<|by simp[MQ]).c;have L1:=ax D1;have L9:=ax D9;have L8:=ax D8;obtain⟨adA,capA,eA,-⟩:=DI (P:=lh Q<|Q.take i++kept) Zr D5 hM1 cq f;have HLK:O (∀W',ae Y1 W'->(Instr.lookup 229 (.map<|some<|wz.heap.size+1) (.agg<|cf f) false).run prog W'=.ok (.slice adA (G.lookL E f).length capA) W'):=fun W' hb=>by
   rw[<-eA];exact(Zr.below hb).grp.map.look oO underlying229 (Tryz.zeroValue234 _) hkl
  have HTI:=ah<|U9 hQn hiQ hsub hok hprf hPP.own hPP.hng;obtain⟨T,hT⟩:=eQx<|eY rs ts Q i kept;have ZW:O (∀W',ae Y1 W'->Calls prog 157 #[.slice adA (G.lookL E f).length capA,.func (Fn.func 154) #[] #[.pointer (some<|am<|w.heap.size+1+1+1)]] W' fun e w'=>e=.returned (.bool<|!T)/\ae W' w'):=fun W' hb=>by
   obtain⟨adA',capA',eA',hC⟩:=DI (P:=lh Q<|Q.take i++kept) (Zr.below hb) (az hb (ax D5) D5) (hM1.below hb) cq f;rw[eA]at eA';injection eA' with e1 e2 e3;rw[e1,e3,hT,<-HTI,<-HHF];exact hC
  have hwr:IntKind.i64.wrap ((L.length:Int)-1)=(k:Int):=by rw[IntKind.wrap_i64,HLL];omega
  have HR1:=ah Zr;have HM1:=ah hM1;have HKP1:=ah hkp1;have HT:=ah hT;have HEA:=ah eA;clear hR hM hM1 hg1 Zr hkp1 b5 b5l c0 c1 c2 c3 c4 cl0 hT eA HTI D5 bX hbn;refine IA (fun a' w'=>∃fq:Nat->Value,a'={ tmps:=List.toArray (Value.pointer (some<|am P)::.slice Zo L.length Y0::.pointer (some<|aE w)::.pointer (some<|am<|w.heap.size+1)::.slice none 0 0::.pointer (some<|am<|w.heap.size+1+1+1)::u6::u7::.pointer (some<|aE wz)::.pointer (some<|am<|wz.heap.size+1+1)::.pointer (some<|am<|wz.heap.size+1+1+1)::.int .i64 (i:Int)::.pointer (some<|am Bx)::undef::undef::undef::.map (some<|w.heap.size+1+1)::.slice Zo L.length Y0::.int .i64 (L.length:Int)::.int .i64 ((k:Int)+1)::.bool (decide ((k:Int)+1<(L.length:Int)))::u21::u22::u23::u24::u25::u26::u27::.func (.func 154) #[] #[.pointer (some<|am<|w.heap.size+1+1+1)]::.map (some<|wz.heap.size+1)::.slice Zo L.length Y0::.func (.func 225) #[] #[.pointer (some<|am<|wz.heap.size+1+1+1+1)]::.int .i64 (i:Int)::.agg (cf f)::.map (some<|w.heap.size+1+1)::.agg (cf f)::fq 0::fq 1::fq 2::fq 3::fq 4::fq 5::fq 6::fq 7::fq 8::fq 9::fq 10::fq 11::fq 12::undef::undef::undef::undef::undef::undef::undef::undef::undef::undef::undef::undef::undef::undef::undef::undef::undef::undef::undef::undef::undef::undef::undef::undef::undef::undef::undef::undef::undef::undef::undef::undef::[]),defers:=[] }/\ae Y1 w'/\fq 12=.bool (decide (i<k)&&T)) ?reg ?rest;case reg =>
   by_cases hik:i<k
   ·have hik2:(i:Int)<(k:Int):=cq;have hTT:(decide (i<k)&&T)=T:=by simp[hik]
    clear HR1 HM1 HKP1 hvB;refine qZ 13 (fun n=>(undef::undef::undef::undef::undef::undef::undef::undef::undef::undef::undef::undef::undef::[]).getD n undef) (fun fq=>{ tmps:=List.toArray (Value.pointer (some<|am P)::.slice Zo L.length Y0::.pointer (some<|aE w)::.pointer (some<|am<|w.heap.size+1)::.slice none 0 0::.pointer (some<|am<|w.heap.size+1+1+1)::u6::u7::.pointer (some<|aE wz)::.pointer (some<|am<|wz.heap.size+1+1)::.pointer (some<|am<|wz.heap.size+1+1+1)::.int .i64 (i:Int)::.pointer (some<|am Bx)::undef::undef::undef::.map (some<|w.heap.size+1+1)::.slice Zo L.length Y0::.int .i64 (L.length:Int)::.int .i64 ((k:Int)+1)::.bool (decide ((k:Int)+1<(L.length:Int)))::u21::u22::u23::u24::u25::u26::u27::.func (.func 154) #[] #[.pointer (some<|am<|w.heap.size+1+1+1)]::.map (some<|wz.heap.size+1)::.slice Zo L.length Y0::.func (.func 225) #[] #[.pointer (some<|am<|wz.heap.size+1+1+1+1)]::.int .i64 (i:Int)::.agg (cf f)::.map (some<|w.heap.size+1+1)::.agg (cf f)::fq 0::fq 1::fq 2::fq 3::fq 4::fq 5::fq 6::fq 7::fq 8::fq 9::fq 10::fq 11::fq 12::undef::undef::undef::undef::undef::undef::undef::undef::undef::undef::undef::undef::undef::undef::undef::undef::undef::undef::undef::undef::undef::undef::undef::undef::undef::undef::undef::undef::undef::undef::undef::undef::[]),defers:=[] }) (fun n v _=>v=(Value.int .i64 (i:Int)::.slice Zo L.length Y0::.int .i64 (L.length:Int)::.int .i64 (k:Int)::.bool true::.bool true::.map (some<|wz.heap.size+1)::.agg (cf f)::.slice adA (G.lookL E f).length capA::.func (.func 154) #[] #[.pointer (some<|am<|w.heap.size+1+1+1)]::.bool (!T)::.bool T::.bool T::[]).getD n undef) (fun w'=>ae Y1 w') cw cw (fun⟨_,_,h,_⟩=>by cases h) rfl cw rfl (XL _ _).drew ?stepA ?finA;case stepA =>
     rintro i hi o ho fq w' hG hpre;have HG:O (ae Y1 w'):=hG;have d1:=az HG.out L1 D1;have d9:=az HG.out L9 D9;have d8:=az HG.out L8 D8;have c0:=az HG.out cl C0;have c1:=az HG.out cl C1;have c2:=az HG.out cl C2;have c3:=az HG.out cl C3;have c4:=az HG.out cl C4;have hlk:=HLK _ HG;have HM:O (∀e∈o.after,Region.binds .any e=true->_):=hpre;clear hG hpre;have hc:=Vh (i:=i) cq;clear hi
     repeat' rcases hc with rfl|hc
     iterate 10
      ·cases ho;have hm:=HM.out
       try simp[Region.binds]at hm
       clear HM;refine wpOp_step rfl (fun K hK=>?_);have HK:O (∀a w,_->K a w):=hK;clear hK
       try simp only[hm]
       go_simp;exact HK _ _ ⟨_,by simp[upd, *],HG,rfl,fun k u hu=>hu⟩
     ·cases ho;have e8:fq 8=.slice adA (G.lookL E f).length capA:=HM ⟨8,.data⟩ ct rfl;have e9:fq 9=.func (.func 154) #[] #[.pointer (some<|am<|w.heap.size+1+1+1)]:=HM ⟨9,.data⟩ ct rfl;have e5:fq 5=.bool true:=HM ⟨5,.guard⟩ ct rfl;clear HM;refine wpOp_step rfl (fun K hK=>?_);have HK:O (∀a w,_->K a w):=hK;clear hK;simp only[e8,e9,e5];go_simp;refine(ZW _ HG).mono ?_;rintro e w9 ⟨rfl,hb9⟩;have HG9:=jr HG hb9;clear hb9;go_wp2_with fail;exact HK _ _ ⟨Value.bool<|!T,by simp[upd,e8,e9,e5],HG9,rfl,fun k u hu=>hu⟩
     iterate 2
      ·cases ho;have hm:=HM.out
       try simp[Region.binds]at hm
       clear HM;refine wpOp_step rfl (fun K hK=>?_);have HK:O (∀a w,_->K a w):=hK;clear hK
       try simp only[hm]
       go_simp;exact HK _ _ ⟨_,by simp[upd, *],HG,rfl,fun k u hu=>hu⟩
    case finA =>
     rintro fq w' hG hall;have e12:fq 12=.bool T:=hall 12 cq;exact⟨rfl,fq,rfl,hG,by rw[e12,hTT]⟩
   have hik2:¬(i:Int)<(k:Int):=cq;have hTT:(decide (i<k)&&T)=false:=by simp[hik]
   clear HR1 HM1 HKP1 hvB ZW HLK;refine qZ 13 (fun n=>(undef::undef::undef::undef::undef::undef::undef::undef::undef::undef::undef::undef::undef::[]).getD n undef) (fun fq=>{ tmps:=List.toArray (Value.pointer (some<|am P)::.slice Zo L.length Y0::.pointer (some<|aE w)::.pointer (some<|am<|w.heap.size+1)::.slice none 0 0::.pointer (some<|am<|w.heap.size+1+1+1)::u6::u7::.pointer (some<|aE wz)::.pointer (some<|am<|wz.heap.size+1+1)::.pointer (some<|am<|wz.heap.size+1+1+1)::.int .i64 (i:Int)::.pointer (some<|am Bx)::undef::undef::undef::.map (some<|w.heap.size+1+1)::.slice Zo L.length Y0::.int .i64 (L.length:Int)::.int .i64 ((k:Int)+1)::.bool (decide ((k:Int)+1<(L.length:Int)))::u21::u22::u23::u24::u25::u26::u27::.func (.func 154) #[] #[.pointer (some<|am<|w.heap.size+1+1+1)]::.map (some<|wz.heap.size+1)::.slice Zo L.length Y0::.func (.func 225) #[] #[.pointer (some<|am<|wz.heap.size+1+1+1+1)]::.int .i64 (i:Int)::.agg (cf f)::.map (some<|w.heap.size+1+1)::.agg (cf f)::fq 0::fq 1::fq 2::fq 3::fq 4::fq 5::fq 6::fq 7::fq 8::fq 9::fq 10::fq 11::fq 12::undef::undef::undef::undef::undef::undef::undef::undef::undef::undef::undef::undef::undef::undef::undef::undef::undef::undef::undef::undef::undef::undef::undef::undef::undef::undef::undef::undef::undef::undef::undef::undef::[]),defers:=[] }) (fun n v _=>v=(Value.int .i64 (i:Int)::.slice Zo L.length Y0::.int .i64 (L.length:Int)::.int .i64 (k:Int)::.bool false::.bool false::undef::undef::undef::undef::undef::undef::.bool false::[]).getD n undef) (fun w'=>ae Y1 w') cw cw (fun⟨_,_,h,_⟩=>by cases h) rfl cw rfl (XL _ _).drew ?zI ?finB;case zI =>
    rintro i hi o ho fq w' hG hpre;have HG:O (ae Y1 w'):=hG;have d1:=az HG.out L1 D1;have d9:=az HG.out L9 D9;have d8:=az HG.out L8 D8;have c0:=az HG.out cl C0;have c1:=az HG.out cl C1;have c2:=az HG.out cl C2;have c3:=az HG.out cl C3;have c4:=az HG.out cl C4;have HM:O (∀e∈o.after,Region.binds .any e=true->_):=hpre;clear hG hpre;have hc:=Vh (i:=i) cq;clear hi
    repeat' rcases hc with rfl|hc
    iterate 13
     ·cases ho;have hm:=HM.out
      try simp[Region.binds]at hm
      clear HM;refine wpOp_step rfl (fun K hK=>?_);have HK:O (∀a w,_->K a w):=hK;clear hK
      try simp only[hm]
      go_simp;exact HK _ _ ⟨_,by simp[upd, *],HG,rfl,fun k u hu=>hu⟩
   case finB =>
    rintro fq w' hG hall;have e12:fq 12=.bool false:=hall 12 cq;exact⟨rfl,fq,rfl,hG,by rw[e12,hTT]⟩
  case rest =>
   rintro a2 w2 ⟨fq,rfl,hb2,h12⟩;have hR2:=HR1.below hb2;have hM2:=HM1.below hb2;have hkp2:=lW HKP1<|kE hb2;have bX2:kC w2 Bx f:=(hb2.block _ cl).trans bX1;clear HLK ZW HR1 HM1 HKP1 C0 C1 C2 C3 C4 D1 D9 D8 L1 L9 L8 hwr;cases hTT:(decide (i<k)&&T);case true=>
    rw[hTT]at h12;simp only[XN,XU]at hTT;have hres:=hPP.skip hi hiQ hTT.1 hok (by rw[<-HT];exact hTT.2);have el:(pre++[(i,f)]).length=pre.length+1:=ct
    simp only[h12];gi_wp2;exact⟨hkp2,trivial,kept,v0,M,E,hR2,⟨nP,by rw[el];omega,by rw[el,show k+1-(pre.length+1)=i by omega];exact hM2⟩,by rw[el];exact hres⟩
   rw[hTT]at h12;have ht:i<k->eY rs ts Q i kept=false:=fun h=>by rw[<-HT];simpa[h] using hTT
   have HTN:=ah ht;obtain⟨adk,capk,ek2,-⟩:=gV (fs:=kept.reverse) (by rw[List.length_reverse];exact hR2.row);rw[List.length_reverse]at ek2;have hv2:v0=.slice adk kept.length capk:=ek2;subst hv2;have HPUT:O (iw (jW<|lh Q<|Q.take i++kept) f (some<|.int .i64 (i:Int))=jW (lh Q (Q.take i++f::kept))):=NG (by rw[HHF];exact jf Q hQn i hiQ) (by rw[HHF];exact put_mem hiQ);have HIX:O (idx Q f=i):=by show _=_;rw[HHF];exact jf Q hQn i hiQ
   have b5:=(hR2.bxs (w.heap.size+1+1+1,.map<|some<|w.heap.size+1+1,224)<|by simp[MQ]).c;have b5l:=ax b5;obtain⟨c0,c1,c2,c3,c4,cl2⟩:=bX2.c;have hbn:Bx≠w.heap.size+1+1:=fun e=>by
    obtain⟨es,c,e2⟩:=hR2.mp;have h:=bX2;unfold kC at h;rw[e,e2]at h;cases h
   have hbk:Bx≠wz.heap.size+1+1+1:=fun e=>by
    have h:=bX2;have h2:=hR2.bx;unfold kC at h;unfold dE at h2;rw[e,h2]at h;injection h with h;injection h with _ h;exact absurd h cv
   clear hTT ht;simp only[h12]
   gi_wp2_with (first
    | (gi_at_mapUpdate;refine l8 _ rfl _ _ _ 224 rfl 52 3 oO nM underlying224 (w.heap.size+1+1) nP _ rfl hM2 cy f kl rfl hkl (.int .i64 (i:Int)) rfl ?_;intro Y3 hM3 hg3;rw[HPUT]at hM3;have hR3:=NdR.plc hK hR2 hg3 hM3;have bX3:kC Y3 Bx f:=(hg3.block _ cl2 fun e=>hbn<|by injection e).trans bX2;have hkp3:=lW hkp2<|zX hg3 hm1;obtain⟨q0,q1,q2,q3,q4,ql⟩:=bX3.c;have qb:=hR3.bx.c;have qbl:=ax qb;have hn3:=hR3.n0;clear c0 c1 c2 c3 c4 b5 b5l)
    | (gi_at_builtin;refine wpListIn_append_own_at _ rfl _ _ 44 rfl W2.heap.size 52 iF (.agg ar) 5 80 underlying44 z0 z1 z2 z3 rfl cv _ kept.length (av kept.reverse) rfl (hR3.row.alloc _) ⟨Y3.heap.size,0,none⟩ 1 1 f.row rfl rfl (xm Y3 f) (by simp[Fc.row,Value.oneCell']) cy cq (by simp;omega) ?_;intro v2 V hown hgr _ hat;obtain⟨g2,cap2,rfl⟩:=ownsRow_succ hown;have hYb:ae Y3 (Y3.alloc<|.cells (cf f) 52):=(XL _ _).alloc (XK _) _;obtain⟨hR4,hbm4,hkp4⟩:=NdR.app hK hR3 hYb hown hgr hat;have hVb:dE V (wz.heap.size+1+1+1) (.slice adk kept.length capk) 44:=(hgr.block _ (XJ qbl hYb.size) (fun e=>by have:=(hR3.row.lt _ e.symm).1;omega)).trans (hR3.bx.bel hYb);have bX4:kC (V.setCell (am<|wz.heap.size+1+1+1)<|.slice (some<|am g2) (kept.length+1) cap2) Bx f:=(heap_setCell_other V ⟨wz.heap.size+1+1+1,0,none⟩ Bx _ hbk).trans<|(hgr.block _ (XJ ql hYb.size) fun e=>hvB e.symm).trans ((hYb.block _ ql).trans bX3);have hM4:=(hM3.of_block hbm4);have vc:=hVb.c;have vf:=jE hVb 0;have vl:=ax vc;clear hown hgr hat q0 q1 q2 q3 q4 qb)
    | (refine Ar _ rfl 44 _ _ rfl ⟨wz.heap.size+1+1+1,0,none⟩ (.slice (some<|am g2) (kept.length+1) cap2) rfl rfl (by go_simp) ?_;intro Y4 hY4;rw[<-hY4]at hR4 hkp4 bX4 hM4;clear hY4 vc vf vl hVb;have hB0:=(hR4.bxs (w.heap.size,.pointer<|some<|am P,110)<|by simp[MQ]).c;obtain⟨q0,q1,q2,q3,q4,ql4⟩:=bX4.c)
    | gi_in)
   have hkp4':=lW hkp3 hkp4;refine⟨trivial,(oL<|Dw (f:=f) (hP.below hR4.bel) (hD.below hR4.bel) hff hts htl hsh<|hs.below hR4.bel).mono ?_⟩;rintro e Y5 ⟨⟨rv,n,rfl,hru,hn8⟩,hb5⟩;obtain⟨TT,aa,hrv,-⟩:=hru.kind;subst hrv;have hru8:=hru.up hn8;have hHG:O (∀hh:aG Y5 (jo Y4.heap.size) 8 (.iface TT aa) (cO rs ts Q f),True):=fun _=>trivial;obtain⟨Y6,hY6⟩:=eQx<|Y5.alloc<|.cells #[.int .i64 (i:Int),.iface TT aa] 226;have hb6:ae Y5 Y6:=by rw[hY6];exact(XL _ _).alloc (XK _) _
   have HR4:=ah hR4;have HM4:=ah hM4;have HKP4:=ah hkp4';have HRU:=ah hru8;have HB5:=ah hb5;have HB6:=ah hb6;clear hru hHG hR3 hkp4 hkp3 hR2 hM2 hkp2 hR4 hM4 hkp4' hru8 hb5 hb6 bX4 bX3 bX2 bX1 hbm4 hM3 hg3 hYb q0 q1 q2 q3 q4 hB0
   gi_wp2_with fail
   rw[<-hY6];refine⟨trivial,(oL<|zb (S:=jo Y4.heap.size) 8 cq Y6 (.iface TT aa) (cO rs ts Q f)<|HRU.below HB6).mono ?_⟩;rintro e Y7 ⟨⟨Zp,Zt,fs,rfl,-,hsl7,hHang,hfl,hfit,hat7⟩,hb7⟩;have HLP:=ah<|P7 hK HR4 HM4 HKP4 HB5 HRU hY6 HIX hb7 hsl7 hat7;have HHA:=ah hHang;have HFIT:=ah hfit;have hfl8:fs.length<=15625000:=XR hfl cv;clear hY6 hsl7 hHang hfit hat7 hb7 hfl HR4 HM4 HKP4 HRU HB5 HB6;obtain⟨iS,y0,y1,y2,y3⟩:=Vb;gi_wp2
   gi_loopw [65] (fun ix wx=>∃j:Nat,j<=fs.length/\ix=.int .i64 j/\∃M',O<|LpI w rs ts Q W2.heap.size (w.heap.size+1+1) (wz.heap.size+1) (wz.heap.size+1+1+1) (MQ w wz P<|.slice Zo L.length Y0) Y wx (f::kept) (.slice (some<|am g2) (kept.length+1) cap2) M' E (nP+1) (Q.take i++f::kept) f (.iface TT aa) Zp fs Y5.heap.size j) (fun ix _=>fs.length-(intOf ix).toNat)
   case atStart=>exact⟨0,XP _,rfl,M,HLP⟩
   clear HLP;obtain⟨j,hj,rfl,M',HL⟩:=hrel;by_cases hlj:j<fs.length
   ·obtain⟨x,hx⟩:=eQx<|fs[j];obtain⟨bF,offF,YW,⟨t0,t1,t2,t3,t4⟩,hbl⟩:=jX.at0 HL.sl hlj;rw[<-hx]at t0 t1 t2 t3 t4;obtain⟨klx,hklx⟩:=lN x (by rw[hx];exact HFIT _<|XI _);have j1:=bG j;have j2:(j:Int)<(fs.length:Int):=cq
    have d9:=(HL.nd.bxs (wz.heap.size+1+1,.map<|some<|wz.heap.size+1,229)<|by simp[MQ]).c;have d9l:=ax d9;have s0:=HL.s0.cell;rw[HIX]at s0;have s1:=HL.s1.cell;have s0l:=HL.s0.lt;obtain⟨V1,hV1⟩:=eQx<|wr.alloc<|.cells (cf x) 52;obtain⟨V2,hV2⟩:=eQx<|V1.alloc<|.cells #[.int .i64 (i:Int),.iface TT aa] 226;have hb1:ae wr V1:=by rw[hV1];exact(XL _ _).alloc (XK _) _
    have hb2:ae V1 V2:=by rw[hV2];exact(XL _ _).alloc (XK _) _
    have hn2:=WE V1 (.int .i64 (i:Int))<|.iface TT aa;rw[<-hV2]at hn2;have hs1:V1.heap.size=wr.heap.size+1:=by rw[hV1,World.size_alloc]
    have HL2:=ah<|(HL.below hb1).below hb2;have hnr:=HL.nd.n0;have ha1:=hK.a1;rw[hV1]at hV2;have hgm:=HL2.nd.grp.map;have hba2:wz.heap.size+1<V2.heap.size:=by have:=HL2.nd.n0;have:=hK.a1;omega
    have hll:=P6 (E:=E++(fs.take j).map fun g=>(g,(f,Value.iface TT aa))) x;have hll2:(G.lookL (E++(fs.take j).map fun g=>(g,(f,Value.iface TT aa))) x).length<=1900000000000:=by
     rw[XT,Yp,Yc]at hll;omega
    have HXE:=ah hx;subst YW;clear hx hll HL hb1 hb2 hV1
    gi_wp2_with (first
     | (rw[<-hV2];clear hV2;refine Classical.byContradiction fun hcn=>?_)
     | gi_in)
    refine hcn ?_;clear hcn;refine Aq _ rfl _ _ 229 rfl 52 234 Nn nM underlying229 WC (wz.heap.size+1) (E.length+j) M' rfl hgm cy x klx rfl hklx ?_;intro sti V3 hg3 hback;have hown3:=TE HL2.nd.grp hg3 x;have hba3:wz.heap.size+1<V3.heap.size:=XJ hba2 hg3.size;have hnw3:∀j' u,[Value.int .i64 (i:Int),Value.iface TT aa][j']?=some u->V3.cell? ((⟨V1.heap.size,0,none⟩:Addr).add j')=some u:=fun j' u hu=>by
     have h:=hn2 j' u hu;have e:((⟨V1.heap.size,0,none⟩:Addr).add j')=⟨V1.heap.size,j',none⟩:=by cases j' <;>simp[Addr.add]
     rw[e]at h ⊢;exact(kM hg3 ⟨ax h,cq⟩ _).trans h
    have hll3:=hll2
    gi_wp2_with (first
     | (gi_at_builtin;refine wpListIn_append_own_at _ rfl _ _ 234 rfl (wz.heap.size+1+1) 226 iS (.agg #[.int .i64 0,.nilIface]) 2 24 underlying234 y0 y1 y2 y3 rfl cv _ (G.lookL (E++(fs.take j).map fun g=>(g,(f,Value.iface TT aa))) x).length _ rfl hown3 ⟨wr.heap.size+1,0,none⟩ 1 1 [Value.int .i64 (i:Int),Value.iface TT aa] rfl rfl (by rw[hs1]at hnw3;exact hnw3) (by simp[Value.oneCell']) cy cq cq ?_;intro v4 V4 ZJ hgr4 _ hat4;have hbk4:=hback V4 v4<|Vd HL2.nd.grp hba3 hgr4;clear hnw3 hown3)
     | (refine tC (enc:=dM) _ rfl _ _ _ 229 rfl (wz.heap.size+1) sti rfl rfl v4 rfl 52 _ _ hbk4 ?_;intro V5 hM5 hg5)
     | gi_in)
    have HL5:=ah (LpI.ask hK HL2 hlj hg3 (by rw[<-HXE];unfold DL;rw[HIX];exact ZJ) (by rw[<-HXE];exact hgr4) (by rw[<-HXE];exact hat4) hg5 (by rw[<-HXE];exact hM5));go_roundw;case rel=>exact⟨j+1,cq,cx,_,HL5⟩
    simp[intOf]<;>omega
   have hje:j=fs.length:=cq;subst hje;have el:(pre++[(i,f)]).length=pre.length+1:=ct;have hE2:(E++(fs.take fs.length).map fun g=>(g,(f,Value.iface TT aa)))=E++fs.map fun g=>(g,(f,Value.iface TT aa)):=by rw[X8]
   have hnd:=HL.nd;rw[hE2,show E.length+fs.length=(E++fs.map fun g=>(g,(f,Value.iface TT aa))).length by simp]at hnd;have hres:NdP rs ts Q k (pre.length+1) Q[k] (f::kept) (E++fs.map fun g=>(g,(f,Value.iface TT aa))):=by
    have:=hPP.keep (v:=.iface TT aa) hi hiQ HTN (fun e=>by subst e;rfl) (by rw[<-HHF];exact HHA) hfl8;rw[<-HHF]at this;exact this
   gi_wp2;exact⟨HL.kp,trivial,f::kept,_,M',_,hnd,⟨nP+1,by rw[el];omega,by rw[el,show k+1-(pre.length+1)=i by omega];exact HL.pl⟩,by rw[el];exact hres⟩
 case done =>
  rintro Dd xs X5 hDd hS ⟨kept,vk,M,E,hR,-,hPP⟩ hKd;have hxl:xs.length=k+1:=by
   rw[hS];have:∀m,m<=L.length->(uN L m).length=m:=fun m=>by
    induction m with
    | zero=>intro _;rfl
    | succ m ih=>intro h;rw[CS h,XT,ih cq];rfl
   rw[this _ (XK _)];exact HLL
  rw[hxl]at hPP;have hne:kept≠[]:=by
   rcases hPP.ned with⟨h,-⟩|⟨-,h,-⟩
   ·omega
   exact h
  have hpv:kept=kD rs ts Q Q[k] k:=by
   rcases hPP.ned with⟨h,-⟩|⟨-,-,h⟩
   ·omega
   rw[Nat.sub_self]at h;rw[<-h];rfl
  have hkl2:kept.length<=115200:=by have:=hPP.sub.length_le;rw[YD]at this;omega
  have hrow:=hR.row;have hm:=List.length_pos_iff.2 hne;have hrl:kept.reverse.length=kept.length:=List.length_reverse;obtain⟨g,cap,rfl⟩:∃g cap,vk=.slice (some<|am g) kept.length cap:=by
   rcases hrow.2 with⟨-,h0⟩|⟨g,cap,cur,e,-⟩
   ·omega
   exact⟨g,cap,e⟩
  have hrow2:bj W2 X5 52 5 (.slice (some<|am g) kept.reverse.length cap) kept.reverse.length (av kept.reverse):=by rw[hrl];exact hrow
  have hrev:=Ha W2.heap.size g cap kept.reverse X5 hrow2 (by simpa using hne) (by rw[hrl];omega);rw[hrl,List.reverse_reverse]at hrev;have HREV:=ah hrev;have bc:=hR.bx.c;have hgN:=(hrow.lt g rfl).1;have hgl:=(hrow.lt g rfl).2;have hBl:=hR.bel;have hbkg:wz.heap.size+1+1+1≠g:=cq
  obtain⟨cur,hcur⟩:=fG hrow (g:=g) rfl;have hbx:=hR.bx;have HPV:=ah hpv;clear hrev hrow2 hrow hR hPP hpv hS hm hrl hxl
  gi_wp2_with fail
  refine ⟨trivial,(callsIn_wide.2 HREV).mono ?_⟩;rintro e X6 ⟨rfl,hown,hchg⟩;have hbx6:dE X6 (wz.heap.size+1+1+1) (.slice (some<|am g) kept.length cap) 44:=(hchg.block _ (XO.1 hbx).1 hbkg).trans hbx;have bc6:=hbx6.c;have hB6:ae w X6:=hBl.trans (hchg.below (fun z hz=>by subst hz;omega) hBl.size);have hD6:X6.heap[Dd]?=some (.deferred<|some []):=(hchg.block _ (XO.1 hKd).1 (fun e=>by
   rw[e,hcur]at hKd;cases hKd)).trans hKd
  have hmk:({ target:=.collected Dd,args:=#[] }::[]:List Deferred)=marks [Dd]:=rfl;have HOW:=ah hown;have HBL:=ah hB6;have HD6:=ah hD6;have hwN:cX w W2:=cq;clear hown hB6 hD6 hchg hBl hbx hKd hcur HREV bc hbx6;rw[hmk];clear hmk;gi_wp2;refine qP w.heap.size (fun Z=>bj W2 Z 52 5 (.slice (some<|am g) kept.length cap) kept.length (av kept)/\ae w Z) (fun Z r hr hZ hd=>⟨bY hZ.1 fun z hz=>mP fun e=>?_,?_⟩) (fun Z hZ=>⟨_,results_tmp rfl _ _ _,⟨_,rfl,?_⟩,hZ.2⟩) [Dd] X6 ⟨ct,fun r hr=>by rw[XX.1 hr];exact HD6⟩ (fun r hr=>by rw[XX.1 hr];omega) ⟨HOW,HBL⟩
  ·obtain⟨cur,e2⟩:=fG hZ.1 hz;rw[e,hd]at e2;cases e2
  ·exact hZ.2.grown (grownBy_putObj' Z r _) hZ.2.size (fun z e=>by injection e with e;omega)
  rw[<-HPV];exact bW hZ.1 cq
end
end Go.Proofs.YtojjoblnpldniaaGreat
