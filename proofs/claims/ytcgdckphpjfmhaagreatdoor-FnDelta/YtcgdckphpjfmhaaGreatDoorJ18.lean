/- What leans on what, in the program's list and in the document's words: the same. -/
import Derived.Test.YtcgdckphpjfmhaaGreatDoorSq
import Derived.Test.YtcgdckphpjfmhaaGreatDoorJ12
import Derived.Test.YtcgdckphpjfmhaaGreatDoorJ13
import Derived.Test.YtcgdckphpjfmhaaGreatDoorJ15
import Derived.Test.YtcgdckphpjfmhaaGreatDoorJ17
open Go.Proofs.Tryz
set_option maxHeartbeats 80000000
namespace Go.Proofs.YtcgdckphpjfmhaaGreatDoor
open Pl
theorem NJ(ng:Bool)(xs:Q0a):df ng xs=(dF xs).map fun a=>(⟨a.t,a.s,ng⟩:Dp):=by
 induction xs with
 | nil=>rfl
 | cons a xs ih=>simp only[df,dF];split<;>simp[ih]
theorem Ee(ts:Q0b)(typ:bZ)(ng:Bool)(e:Ex)(hn:ay e=true)(hd:e.kind=3->bP (aM ts typ e.over)=true):df ng e.allow++oM ts typ ng e=(jl ts typ e).map fun a=>(⟨a.t,a.s,ng⟩:Dp):=by
 by_cases h1:e.kind=1
 ·unfold oM jl;rw[if_neg (by omega),if_neg (by omega),if_pos h1,WS,NJ]
 rw[uH hn h1];unfold oM jl;rw[if_neg h1];by_cases h2:e.kind=2
 ·rw[if_pos h2,if_pos h2];rfl
 rw[if_neg h2,if_neg h2];by_cases h3:e.kind=3
 ·rw[if_pos h3,if_pos h3];unfold gy;rw[if_pos (hd h3),List.map_map];rfl
 rw[if_neg h3,if_neg h3];rfl
theorem Ef{ts:Q0b}{typ:ByteArray}{es:Q09}{d:Dp}{i:Nat}(hd:d∈lq ts typ es i):∀{k:Nat},i<k->d∈aS ts typ es k
 | 0,h=>by omega
 | k+1,h=>by
  simp only[aS];by_cases e:i=k
  ·subst e;exact Wj.2 (.inr hd)
  exact Wj.2 (.inl (Ef hd (by omega)))
theorem BP{ts:Q0b}{t r:ByteArray}{es:Q09}{x:Ky×St}:∀{k:Nat},x∈relE ts t r es k ↔ ∃i,i<k/\∃e,es[i]?=some e/\x∈BC ts t r ((fE es).getD i false) e
 | 0=>by simp[relE]
 | k+1=>by
  simp only[relE,Wj];rw[BP];constructor
  ·rintro(⟨i,hi,h⟩|h)
   ·exact⟨i,by omega,h⟩
   cases e:es[k]? with
   | none=>rw[e]at h;cases h
   | some y=>rw[e]at h;exact⟨k,by omega,y,e,h⟩
  rintro⟨i,hi,e,he,h⟩;by_cases ek:i=k
  ·subst ek;right;rw[he];exact h
  exact .inl ⟨i,by omega,e,he,h⟩
theorem qw{rs:Q06}(h:bF (ag rs)=true){t:TR}(ht:t∈rs){q:RR}(hq:q∈t.rows):gu (ag rs) t.name q.name=some (aj q.rows):=by
 have hT:=xk h;have hs:=tO (M:=fun _=>none) (rs:=rs) (k:=(t.name,q.name)) (.inr ⟨t,ht,q,hq,rfl⟩);obtain⟨v,hv⟩:=Option.isSome_iff_exists.1 hs;obtain⟨t',ht',q',hq',e,-,e2,-⟩:=hT.yes _ v hv;injection e with e3 e4;have h1:t=t':=Gx h ht ht' e3;subst h1;obtain⟨i,hi,rfl⟩:=WN.1 ht;have h2:q=q':=Gy (lZ h i hi).2.2 hq hq' e4;subst h2;exact e2
theorem jr{es:Q09}(h:aP es=true):∀e∈es,ay e=true:=by
 simp only[aP,V9]at h;exact Wq.1 h.1.1.1.2
theorem Ia(t r:bZ)(ng:Bool):stepOf ⟨t,r,ng⟩=DZ ng:=by cases ng<;>rfl
theorem SA{rs:Q06}(h:bF (ag rs)=true)(hr:kC (ag rs)=true):Edge (ag rs) (jo (ag rs) rs):=by
 have Xu:∀t∈rs,∀q∈t.rows,∀e∈aj q.rows,ay e=true/\(e.kind=3->bP (aM (ag rs) t.name e.over)=true):=by
  intro t ht q hq e he;have h1:=((bR h).2.2 t ht q hq).1;refine⟨jr h1 e he,fun h3=>?_⟩;unfold kC at hr;rw[Wq]at hr;have h2:=hr t.p (WG ht);unfold rf at h2;rw[Wq]at h2;have h4:aV (ag rs) t.name (aj q.rows)=true:=h2 q.p (WG hq);have h5:=(Dn h4 e he).2;unfold om at h5;rw[if_neg (by omega),if_pos h3,V9]at h5;exact h5.1
 intro on t0 r0 s;constructor
 ·intro hm;unfold jo jm at hm;rw[Wx]at hm;obtain⟨t,ht,hm⟩:=hm;rw[Wx]at hm;obtain⟨q,hq,hm⟩:=hm;obtain⟨i,hi,e,he,hm⟩:=BP.1 hm;unfold BC at hm;obtain⟨a,ha,e1⟩:=Wp.1 hm;injection e1 with e2 e3;injection e3 with e4 e5 e6;subst e4;subst e5;refine⟨rq.2 ⟨t.p,WG ht,q.p,WG hq,rfl⟩,⟨a.t,a.s,(fE (aj q.rows)).getD i false⟩,?_,e2,by rw[Ia];exact e6⟩;unfold iw qX;have ero:aM (ag rs) t.name q.name=aj q.rows:=by unfold aM;rw[qw h ht hq];rfl
  simp only[ero];have hi2:i<(aj q.rows).length:=(List.getElem?_eq_some_iff.1 he).1;refine Ef (i:=i) ?_ hi2;unfold lq;rw[he];obtain⟨n1,n2⟩:=Xu t ht q hq e (Xk he);simp only;rw[Ee _ _ _ _ n1 n2];exact WG (f:=fun a:Al=>(⟨a.t,a.s,(fE (aj q.rows)).getD i false⟩:Dp)) ha
 rintro⟨hk,d,hd,e1,e2⟩;obtain⟨t',ht',r',hr',e3⟩:=rq.1 hk;obtain⟨t,ht,rfl⟩:=Wp.1 ht';obtain⟨q,hq,rfl⟩:=Wp.1 hr';injection e3 with e4 e5;subst e4;subst e5;unfold iw qX at hd;have ero:aM (ag rs) t.p.name q.p.name=aj q.rows:=by
  have:=qw h ht hq;show aM (ag rs) t.name q.name=_;unfold aM;rw[this];rfl
 simp only[ero]at hd;obtain⟨i,hi,hd⟩:=uF hd;unfold lq at hd;split at hd
 ·cases hd
 rename_i e he;obtain⟨n1,n2⟩:=Xu t ht q hq e (Xk he);have hdn:df ((fE (aj q.rows)).getD i false) e.allow++oM (ag rs) t.p.name ((fE (aj q.rows)).getD i false) e=_:=Ee (ag rs) t.name _ e n1 n2;rw[hdn]at hd;obtain⟨a,ha,rfl⟩:=Wp.1 hd;unfold jo jm;rw[Wx];refine⟨t,ht,?_⟩;rw[Wx];refine⟨q,hq,BP.2 ⟨i,by rw[bf]at hi;exact hi,e,he,?_⟩⟩;unfold BC;rw[Wp];refine⟨a,ha,?_⟩;rw[<-e1,<-e2,Ia];rfl
theorem QD{rs:Q06}(h:bF (ag rs)=true):∀r∈rs,∀q∈r.rows,∀e∈q.rows,e.e.allow.length<=6:=by
 intro r hr q hq e he;have h1:=jr ((bR h).2.2 r hr q hq).1 e.e (by unfold aj;exact WG he);by_cases h2:e.e.kind=1
 ·unfold ay at h1;rw[if_pos h2]at h1;simp only[V9,ed,Wn]at h1;exact h1.1.1.1.1.2
 rw[uH h1 h2];simp
theorem rQ{α β:Type}(f:α->List β)(B:Nat):∀(xs:List α),(∀x∈xs,(f x).length<=B)->(xs.flatMap f).length<=xs.length*B
 | [],_=>by simp
 | x::xs,h=>by
  rw[WF,Wi,WH,Nat.succ_mul];have h1:=h x (by simp);have h2:=rQ f B xs fun q hq=>h q (by simp[hq]);omega
theorem NK(rs:Q06)(h6:∀r∈rs,r.rows.length<=6)(hex:∀r∈rs,∀q∈r.rows,aP (aj q.rows)=true/\q.rows.length<=15/\∀e∈q.rows,eH q.rows.length e.e.kids)(h66:∀r∈rs,∀q∈r.rows,∀e∈q.rows,e.e.allow.length<=6)(hl:rs.length<=6:=by omega):(jo (ag rs) rs).length<=100000:=by
 have h1:∀t∈rs,(jm (ag rs) t.name t.rows).length<=540:=by
  intro t ht;have h2:∀q∈t.rows,(relE (ag rs) t.name q.name (aj q.rows) q.rows.length).length<=90:=by
   intro q hq;have h3:∀k,k<=q.rows.length->(relE (ag rs) t.name q.name (aj q.rows) k).length<=k*6:=by
    intro k
    induction k with
    | zero=>intro _;simp[relE]
    | succ k ih =>
     intro hk;rw[D5 _ _ _ _ _ (by omega) _ rfl,Wi];have h4:=ih (by omega);have h5:(BC (ag rs) t.name q.name ((fE (aj q.rows)).getD k false) q.rows[k].e).length<=6:=by
      unfold BC;rw[Xc];exact D6 rs h66 _ _ (h66 t ht q hq _ (VZ (by omega)))
     omega
   have h4:=h3 q.rows.length (V4 _);have h5:=(hex t ht q hq).2.1;omega
  have h3:=rQ (fun q:RR=>relE (ag rs) t.name q.name (aj q.rows) q.rows.length) 90 t.rows h2;have h4:=h6 t ht;unfold jm;omega
 have h2:=rQ (fun t:TR=>jm (ag rs) t.name t.rows) 540 rs h1;unfold jo;omega
open ChangeAt ChangeShapes Maps RowKit WideShapes
set_option linter.unusedVariables false
set_option maxRecDepth 100000
def Kw(ts:Q0b)(w:World)(e:Ending)(w':World):Prop :=
 ((∃(b n:Nat) (σ:Ky->Option Int),e=.returned (.tuple #[.map (some b),.bool true])/\bQ ts/\aN dU prog 151 w' b n (jb σ)/\Least ts (fun k=>(σ k).getD 0)/\∀k,(∃x,σ k=some x)↔k∈au ts)\/(e=.returned (.tuple #[.map none,.bool false])/\¬bQ ts))/\af w w'
theorem pz:∀ts:List Tp,(gP ts).length<=2*ts.length:=by
 have key:∀(ts:Q05) (xs:Q0a),(ts.foldl iH xs).length<=xs.length+2*ts.length:=by
  intro ts
  induction ts with
  | nil=>intro xs;simp
  | cons t ts ih =>
   intro xs;have h1:=ih (iH xs t);have h2:=rF xs t;simp only[List.foldl_cons,WH];omega
 intro ts;have:=key ts [];simpa[gP] using this
theorem ny:∀ts:List Tp,(dN ts).length<=ts.length:=by
 have key:∀(ts:Q05) (xs:Q0a),(ts.foldl dB xs).length<=xs.length+ts.length:=by
  intro ts
  induction ts with
  | nil=>intro xs;simp
  | cons t ts ih =>
   intro xs;have h1:=ih (dB xs t);have h2:=rG xs t;simp only[List.foldl_cons,WH];omega
 intro ts;have:=key ts [];simpa[dN] using this
def bu(fit:Tp->Bool)(rs:Q06)(ts:Q05):Bool:=aD (ag rs)&&dG ts&&ts.all fit
def eY(f:Q00)(rs:Q06):List (KL×RR):=rs.flatMap fun t=>t.rows.map fun r=>((t.name,f (t.name,r.name)),r)
def jL(E:List (KL×RR)):Int:=E.foldl (fun m x=>max m (x.1.2+1)) 0
def VD(fit:Tp->Bool)(rs:Q06)(ts:Q05)(w:World)(e:Ending)(w':World):Prop :=
 af w w'/\((bu fit rs ts=false/\e=.returned (.tuple #[.pointer none,.bool false])) \/
  (bu fit rs ts=true/\∃ (D br bp bt nr np:Nat) (Mr:KL->Option Value) (Mp:K3->Option Value) (vo vu:Value) (f:Q00),e=.returned (.tuple #[.pointer (some ⟨D,0,none⟩),.bool true])/\w.heap.size<=bt/\Least (ag rs) f /\
   DatA w' rs D br bp bt (jL (eY f rs)) nr Mr (eY f rs) (dH ts) (gP ts) (dN ts) np Mp vo vu))
theorem QE{w:ae}{rs:Q06}{bt:Nat}(ht:aN dU prog 151 w bt 36 (tC rs))(hl:bt<w.heap.size):
  DatA (((w.alloc (.map #[] 0)).alloc (.map #[] 0)).alloc (.cells #[.map (some bt),.int .i64 0,.map (some w.heap.size),.map (some (w.heap.size+1)),.slice none 0 0,.slice none 0 0] 126)) rs (w.heap.size+2) w.heap.size (w.heap.size+1) bt 0 0 (fun _=>none) [] [] [] [] 0 (fun _=>none) (.slice none 0 0) (.slice none 0 0):=by
 obtain⟨w1,h1⟩:∃w1,w1=w.alloc (.map #[] 0):=⟨_,rfl⟩;obtain⟨w2,h2⟩:∃w2,w2=w1.alloc (.map #[] 0):=⟨_,rfl⟩;have s1:w1.heap.size=w.heap.size+1:=by rw[h1];simp
 have s2:w2.heap.size=w.heap.size+2:=by rw[h2];simp;omega
 rw[<-h1,<-h2];have b1:af w w1:=by rw[h1];exact(V5 _ _).alloc (V4 _) _
 have b2:af w1 w2:=by rw[h2];exact(V5 _ _).alloc (V4 _) _
 have b3:∀o,af w2 (w2.alloc o):=fun o=>(V5 _ _).alloc (V4 _) _;have g1:FD w1 w.heap.size 0 (fun _=>none) []:=by rw[h1];exact G.grp_made w
 have g2:G.Grp qO prog 226 29 6 Tp.row w2 (w.heap.size+1) 0 (fun _=>none) []:=by
  have:=G.grp_made (enc:=qO) (P:=prog) (kt:=226) (et:=29) (sz:=6) (cl:=Tp.row) w1;rw[s1]at this;rw[h2];exact this
 rw[<-s2];refine⟨⟨by omega,by simp,⟨_,heap_alloc_new w2 _⟩,by simp,by simp,by simp,by simp,by simp,by simp,g2.below (b3 _),World.ownsRow_nil _ _ _ _,World.ownsRow_nil _ _ _ _,fun g e=>by simp[Value.ownBlock]at e⟩,((ht.below b1).below b2).below (b3 _),(g1.below b2).below (b3 _),hl,by omega⟩
theorem QF{p:Tp->Bool}{ts:Q05}{k:Nat}(h:k<ts.length):(ts.take (k+1)).all p=((ts.take k).all p&&p ts[k]):=by
 rw[V8 h,Xj];simp
theorem SB{p:Tp->Bool}{ts:Q05}{k:Nat}(h:k<ts.length)(hp:p ts[k]=false):ts.all p=false:=by
 rw[List.all_eq_false];exact⟨_,VZ h,by rw[hp];decide⟩
theorem zB{rs:Q06}(h6:rs.length<=6)(hr:∀r∈rs,r.rows.length<=6):(au (ag rs)).length<=36:=by
 have key:∀l:List TR,(∀r∈l,r.rows.length<=6)->(au (ag l)).length<=6*l.length:=by
  intro l
  induction l with
  | nil=>intro _;simp[au,ag]
  | cons r l ih =>
   intro h;have h1:=ih fun q hq=>h q (WT _ hq);have h2:=h r (by simp);have e:au (ag (r::l))=jT r.p++au (ag l):=by simp[au,ag]
   have e2:(jT r.p).length=r.rows.length:=by unfold jT;rw[Xc];exact rZ _
   rw[e,Wi,e2,WH];omega
 have:=key rs hr;omega
theorem QG{rs:Q06}{σ:Ky->Option Int}(hS:bQ (ag rs))(h6:rs.length<=6)(hr:∀r∈rs,r.rows.length<=6)(hL:Least (ag rs) (fun k=>(σ k).getD 0))(hk:∀k,(∃x,σ k=some x)↔k∈au (ag rs))(y:Ky):0<=(σ y).getD 0/\(σ y).getD 0<=36:=by
 refine⟨hL.sol.pos y,?_⟩;cases e:σ y with
 | none=>simp
 | some x =>
  have hy:y∈au (ag rs):=(hk y).1 ⟨x,e⟩;obtain⟨g,hg,hb⟩:=hL.sol.few (mQ hS.2.1);have h1:=hL.low y hy g hg;have h2:=hb y hy;have h3:=zB h6 hr;simp only[e]at h1;omega
def xP(f:Ky->Int)(n:ByteArray)(r:RR):KL×RR:=((n,f (n,r.name)),r)
theorem NL(f:Ky->Int){rs:Q06}{k:Nat}(h:k<rs.length):eY f (rs.take (k+1))=eY f (rs.take k)++rs[k].rows.map (xP f rs[k].name):=by
 unfold eY;rw[V8 h,WP];simp[xP]
theorem Ib(E:List (KL×RR))(x:KL×RR):jL (E++[x])=max (jL E) (x.1.2+1):=by simp[jL]
theorem QH:∃i,prog.info? 149=some i/\i.zero=some (.agg #[.string ⟨#[]⟩,.slice none 0 0])/\i.size=2/\i.bytes=40 :=
 info_parts (P:=prog) (e:=149) (z:=.agg #[.string ⟨#[]⟩,.slice none 0 0]) (size:=2) (bytes:=40) (by kernel_rfl)
theorem QI(u:ae):(zeroValue 103).run prog u=.ok (.slice none 0 0) u:=by kernel_rfl
theorem SC(u:ae):(zeroValue 2).run prog u=.ok (.int .i64 0) u:=by kernel_rfl
theorem Eg{w:ae}{br nr:Nat}{Mr:KL->Option Value}{E:List (KL×RR)}(h:FD w br nr Mr E)(k:KL):w.ownsRow (br+1) 149 2 ((Mr k).getD (.slice none 0 0)) (G.lookL E k).length (G.flatG Sm (G.lookL E k)):=by
 rcases h.row k with⟨e,e2⟩|⟨v,e,ho⟩
 ·rw[e,e2];exact World.ownsRow_nil _ _ _ _
 rw[e];exact ho
theorem QJ{w W w':ae}{D g:Nat}{y x0 x1 x2 x3 x4 x5:Value}(h:W.cell? ⟨D,0,none⟩=some y/\W.cell? ⟨g,0,none⟩=some x0/\W.cell? ⟨g,1,none⟩=some x1/\W.cell? ⟨g,2,none⟩=some x2/\W.cell? ⟨g,3,none⟩=some x3/\W.cell? ⟨g,4,none⟩=some x4/\W.cell? ⟨g,5,none⟩=some x5/\D<W.heap.size/\g<W.heap.size/\af w W)(hb:af W w'):w'.cell? ⟨D,0,none⟩=some y/\w'.cell? ⟨g,0,none⟩=some x0/\w'.cell? ⟨g,1,none⟩=some x1/\w'.cell? ⟨g,2,none⟩=some x2/\w'.cell? ⟨g,3,none⟩=some x3/\w'.cell? ⟨g,4,none⟩=some x4/\w'.cell? ⟨g,5,none⟩=some x5/\D<w'.heap.size/\g<w'.heap.size/\af w w':=by
 obtain⟨h0,g0,g1,g2,g3,g4,g5,hn,hm,hB⟩:=h;have hc:∀o,w'.cell? ⟨D,o,none⟩=W.cell? ⟨D,o,none⟩:=fun o=>hb.cell (p:=⟨D,o,none⟩) hn;have hd:∀o,w'.cell? ⟨g,o,none⟩=W.cell? ⟨g,o,none⟩:=fun o=>hb.cell (p:=⟨g,o,none⟩) hm;exact⟨(hc _).trans h0,(hd _).trans g0,(hd _).trans g1,(hd _).trans g2,(hd _).trans g3,(hd _).trans g4,(hd _).trans g5,VY hn hb.size,VY hm hb.size,hB.trans (hb.mono hB.size)⟩
theorem BQ(fit:Tp->Bool)(ad:Q02)(cap:Nat)(rs:Q06)(XB:Q02)(cap':Nat)(ts:Q05)(w:ae)(hlen:rs.length<=1048576)(hs:lc w ad rs)(hl:∀r∈rs,r.light)(hfr:∀r∈rs,r.fits)(hC:Calls prog 78 #[.slice ad rs.length cap] w (Kw (ag rs) w))(hfb:aD (ag rs)=true->∀t:Tp,t.ok=true->o7 (ag rs) t.a t.r ⟨t.c,t.s⟩=fit t)(hlt:ts.length<=1048576)(hst:Sl w XB ts)(hft:∀x∈ts,x.fits):
  Calls prog 41 #[.slice ad rs.length cap,.slice XB ts.length cap'] w (VD fit rs ts w):=by
 have HS:=ax hs;have HL:=ax hl;have Zq:=ax hfr;have HST:=ax hst;have XC:=ax hft;have HC:=ax hC;have HFB:=ax hfb;obtain⟨iR,i0,i1,i2,i3⟩:=QH;have YC:=ax (And.intro i0 (And.intro i1 (And.intro i2 i3)));clear i0 i1 i2 i3;have XQ:ts.length<=maxLen:=by unfold maxLen;omega
 clear hs hl hfr hC hfb hst hft;go_enter func41,ntmps41;go_wp2_with fail;refine HC.out.mono ?_;rintro e w1 ⟨hL,hb1⟩;have HB1:=ax hb1;clear HC hb1;rcases hL with⟨bS,nS,σ,rfl,hS,hM,hLe,hk⟩|⟨rfl,hno⟩
 ·have HSD:Hid (aD (ag rs)=true):=bG.2 hS;have HM:=ax hM;have Yv:=ax hLe;have HKE:=ax hk;have hSP:=hS;obtain⟨h6,Zo,-⟩:=bR hSP.1;have HTAB:=ax (xk hSP.1);have Zk:=ax Zo;clear hM hLe hk hS hSP Zo;go_wp2_with fail;refine(xM XB cap' ts _ XQ (HST.out.below HB1.out) XC.out).mono ?_;rintro e w2 ⟨he,hb2⟩;have HB2:=ax (HB1.out.trans (hb2.mono HB1.out.size));have X0:=ax (HM.out.below hb2);clear hb2 HM;cases h2:dG ts;case false=>
   rw[h2]at he;subst he;have HN:Hid (bu fit rs ts=false):=by show _=_;unfold bu;rw[h2];simp
   clear h2;go_wp2;exact bodyPost_ret (v:=.tuple #[.pointer none,.bool false]) (by simp[results,Tryz.results41,go_sem]) rfl ⟨HB2.out,.inl ⟨HN.out,rfl⟩⟩
  rw[h2]at he;subst he;have HTU:=ax (GU h2);have HRB:Hid (bu fit rs ts=ts.all (fit)):=by show _=_;unfold bu;rw[h2,HSD.out];simp
  have h40:ts.length<=40:=HTU.out.2.2;have HTBL:=ax (yn ad cap rs w2 h6 (HS.out.below HB2.out) Zk.out Zq.out);clear h2;go_wp2_with fail;refine HTBL.out.mono ?_;rintro e w3 ⟨rfl,hV3,hb3⟩;have HB3:=ax (HB2.out.trans (hb3.mono HB2.out.size));have hbt:w2.heap.size<w3.heap.size:=hV3.lt;have hw2:w.heap.size<=w2.heap.size:=HB2.out.size;have ZP:=ax (X0.out.below hb3);have HDN:=ax (QE hV3 hbt);obtain⟨bt,hbte⟩:∃b,b=w2.heap.size:=⟨_,rfl⟩;obtain⟨br,hbre⟩:∃b,b=w3.heap.size:=⟨_,rfl⟩;rw[<-hbte]at HDN hbt hw2 ⊢;obtain⟨W,hW⟩:∃W,W=((w3.alloc (.map #[] 0)).alloc (.map #[] 0)).alloc (.cells #[.map (some bt),.int .i64 0,.map (some w3.heap.size),.map (some (w3.heap.size+1)),.slice none 0 0,.slice none 0 0] 126):=⟨_,rfl⟩;rw[<-hW]at HDN;have hmm:=@run_makeMap prog;have HBW0:Hid (af w3 W):=by
   show Below _ _ _;rw[hW];exact(((V5 _ _).alloc (V4 _) _).alloc (by simp) _).alloc (by simp;omega) _
  have HMW:=ax (ZP.out.below HBW0.out);have Xz:=ax (HB3.out.trans (HBW0.out.mono HB3.out.size));have hbS:bS<br:=by rw[hbre];exact ZP.out.lt
  clear hb3 hV3 HTBL hbte;obtain⟨D,hDe⟩:∃b,b=br+2:=⟨_,rfl⟩;obtain⟨bp,hbpe⟩:∃b,b=br+1:=⟨_,rfl⟩;rw[<-hbre]at HDN;rw[<-hDe,<-hbpe]at HDN;have hDW:D<W.heap.size:=HDN.out.dat.lt;go_wp2_with fail;rw[<-hW,show w3.heap.size+1+1=D by omega,show w3.heap.size+1=bp by omega,<-hbre];have hwbr:w.heap.size<=br:=by rw[hbre];exact HB3.out.size
  have hbtr:bt<br:=by rw[hbre];exact hbt
  clear hbt;clear hbre hDe hbpe hW hmm HBW0;go_loopw[37] (fun i wr=>∃k:Nat,k<=ts.length/\i=.int .i64 (k:Int)/\Hid ((ts.take k).all (fit)=true)/\Hid (∃Mp vo vu,DatA wr rs D br bp bt 0 0 (fun _=>none) [] (dH (ts.take k)) (gP (ts.take k)) (dN (ts.take k)) k Mp vo vu)/\Hid (Below br W wr)) (fun i _=>ts.length-(intOf i).toNat);case atStart=>exact⟨0,Wd _,rfl,rfl,⟨_,_,_,by simpa[dH,gP,dN] using HDN.out⟩,V5 _ _⟩
  obtain⟨k,hk,rfl,XJ,Z8,HB⟩:=hrel;have Zz:Hid (af w wr):=Xz.out.trans (HB.out.mono hwbr);by_cases hkl:k<ts.length
  ·rcases HST.out.below Zz.out with hnil|⟨b,off,rfl,hb,hr⟩
   ·rw[hnil]at hkl;simp at hkl
   obtain⟨t0,t1,t2,t3,t4,t5⟩:=hr k hkl;have hk1:=bC k;have hk2:(k:Int)<(ts.length:Int):=by omega
   have HAT:=ax (QF (p:=fit) hkl);have HAH:=ax (SB (p:=fit) hkl);have Zw:=ax (XC.out _ (VZ hkl));have HXO:=ax (HTU.out.2.1 _ (VZ hkl));have HTK:Hid (ts.take (k+1)=ts.take k++[ts[k]]):=V8 hkl;obtain⟨x,hx⟩:∃x,x=ts[k]:=⟨_,rfl⟩;rw[<-hx]at t0 t1 t2 t3 t4 t5 HAT HAH Zw HXO HTK;obtain⟨W4,Yg⟩:∃W4,W4=wr.alloc (.cells #[.string x.a,.string x.b,.string x.r,.string x.c,.string x.d,.string x.s] 29):=⟨_,rfl⟩;have hb4:af wr W4:=by rw[Yg];exact(V5 _ _).alloc (V4 _) _
   have hx4:uP W4 wr.heap.size x:=by rw[Yg];exact zy wr x _
   obtain⟨Mp,vo,vu,YN⟩:=Z8.out;have HD4:=ax (YN.below hb4);have HX4:=ax hx4;have HBw4:=ax (Zz.out.trans (hb4.mono Zz.out.size));have YA:=ax (HB.out.trans (hb4.mono (by have:=HB.out.size;have:=HDN.out.ord;have:=HDN.out.dat.gt;omega)));have HLF:Hid (∀W',(fun w'=>w'.cell? ⟨D,0,none⟩=some (.map (some bt))/\w'.cell? ⟨wr.heap.size,0,none⟩=some (.string x.a)/\w'.cell? ⟨wr.heap.size,1,none⟩=some (.string x.b)/\w'.cell? ⟨wr.heap.size,2,none⟩=some (.string x.r)/\w'.cell? ⟨wr.heap.size,3,none⟩=some (.string x.c)/\w'.cell? ⟨wr.heap.size,4,none⟩=some (.string x.d)/\w'.cell? ⟨wr.heap.size,5,none⟩=some (.string x.s)/\D<w'.heap.size/\wr.heap.size<w'.heap.size/\af W4 w') W'->Calls prog 80 #[.map (some bt),.agg #[.string x.a,.string x.b,.string x.r,.string x.c,.string x.d,.string x.s]] W' fun e w'=>e=.returned (.bool (fit x))/\af W' w'):=fun W' hS'=>by
    have hb':=hS'.2.2.2.2.2.2.2.2.2;refine(Hm bt 36 rs ad (tC rs) x.a x.b x.r x.c x.d x.s W' ((HD4.out.tab).below hb') HTAB.out (HS.out.below (HBw4.out.trans (hb'.mono HBw4.out.size))) HL.out Zw.out.1 Zw.out.2.2.1).mono ?_;rintro e w6 ⟨rfl,hb6⟩;exact⟨by rw[HFB.out HSD.out x HXO.out],hb6⟩
   have H0:Hid ((fun w'=>w'.cell? ⟨D,0,none⟩=some (.map (some bt))/\w'.cell? ⟨wr.heap.size,0,none⟩=some (.string x.a)/\w'.cell? ⟨wr.heap.size,1,none⟩=some (.string x.b)/\w'.cell? ⟨wr.heap.size,2,none⟩=some (.string x.r)/\w'.cell? ⟨wr.heap.size,3,none⟩=some (.string x.c)/\w'.cell? ⟨wr.heap.size,4,none⟩=some (.string x.d)/\w'.cell? ⟨wr.heap.size,5,none⟩=some (.string x.s)/\D<w'.heap.size/\wr.heap.size<w'.heap.size/\af W4 w') W4.drew):=⟨HD4.out.dat.c0,hx4.1,hx4.2.1,hx4.2.2.1,hx4.2.2.2.1,hx4.2.2.2.2.1,hx4.2.2.2.2.2.1,HD4.out.dat.lt,hx4.2.2.2.2.2.2,(V5 _ _).drew⟩;have ho40:=pz (ts.take k);have hu40:=ny (ts.take k);have hte:(dH (ts.take k)).length<=40:=by unfold dH;simp;omega
   have htl:(ts.take k).length<=40:=by rw[WK];omega
   have HALK:=XJ;clear hr hx hx4 YN hb4 Z8 HB XJ;cases hfx:fit x;case false=>
    rw[hfx]at HLF;go_wp2_with fail;rw[<-Yg];clear Yg
    go_region_held3 (fun w'=>w'.cell? ⟨D,0,none⟩=some (.map (some bt))/\w'.cell? ⟨wr.heap.size,0,none⟩=some (.string x.a)/\w'.cell? ⟨wr.heap.size,1,none⟩=some (.string x.b)/\w'.cell? ⟨wr.heap.size,2,none⟩=some (.string x.r)/\w'.cell? ⟨wr.heap.size,3,none⟩=some (.string x.c)/\w'.cell? ⟨wr.heap.size,4,none⟩=some (.string x.d)/\w'.cell? ⟨wr.heap.size,5,none⟩=some (.string x.s)/\D<w'.heap.size/\wr.heap.size<w'.heap.size/\af W4 w')
     (first|assumption|exact QJ (by assumption) hbx|exact H0.out)
     (first|(go_at_call 80;refine(HLF.out _ (by assumption)).mono ?_;rintro e w' ⟨rfl,hbx⟩))
    rename_i hH;have HBE:Hid (af w _):=HBw4.out.trans (hH.2.2.2.2.2.2.2.2.2.mono HBw4.out.size);have HN:Hid (bu fit rs ts=false):=HRB.out.trans (HAH.out hfx);clear hH;go_wp2;exact bodyPost_ret (v:=.tuple #[.pointer none,.bool false]) (by simp[results,Tryz.results41,go_sem]) rfl ⟨HBE.out,.inl ⟨HN.out,rfl⟩⟩
   rw[hfx]at HLF;go_wp2_with fail;rw[<-Yg];clear Yg
   go_region_held3 (fun w'=>w'.cell? ⟨D,0,none⟩=some (.map (some bt))/\w'.cell? ⟨wr.heap.size,0,none⟩=some (.string x.a)/\w'.cell? ⟨wr.heap.size,1,none⟩=some (.string x.b)/\w'.cell? ⟨wr.heap.size,2,none⟩=some (.string x.r)/\w'.cell? ⟨wr.heap.size,3,none⟩=some (.string x.c)/\w'.cell? ⟨wr.heap.size,4,none⟩=some (.string x.d)/\w'.cell? ⟨wr.heap.size,5,none⟩=some (.string x.s)/\D<w'.heap.size/\wr.heap.size<w'.heap.size/\af W4 w')
    (first|assumption|exact QJ (by assumption) hbx|exact H0.out)
    (first|(go_at_call 80;refine(HLF.out _ (by assumption)).mono ?_;rintro e w' ⟨rfl,hbx⟩))
   rename_i hH;obtain⟨-,y0,y1,y2,y3,y4,y5,-,yl,hbH⟩:=hH;rename_i w5;have HD5:=ax (HD4.out.below hbH);have HBw5:=ax (HBw4.out.trans (hbH.mono HBw4.out.size));have HBW5:=ax (YA.out.trans (hbH.mono (by have:=HD4.out.ord;have:=HD4.out.dat.gt;have:=HD4.out.dat.lt;omega)));have HALN:Hid ((ts.take (k+1)).all fit=true):=by show _=_;rw[HAT.out,HALK.out,hfx];rfl
   clear hbH;go_wp2_with fail;refine(Qp D br bp _ 0 _ _ _ k Mp vo vu x _ HD5.out.dat (by omega) (by omega) (by omega) (by omega) Zw.out).mono ?_;rintro e w6 ⟨rfl,⟨Mp',vo',vu',hd6⟩,hb6⟩;have HDN6:Hid (∃Mp vo vu,DatA w6 rs D br bp bt 0 0 (fun _=>none) [] (dH (ts.take (k+1))) (gP (ts.take (k+1))) (dN (ts.take (k+1))) (k+1) Mp vo vu):=by
    rw[HTK.out,JO,Bf,yx];exact⟨Mp',vo',vu',HD5.out.tell hd6 hb6⟩
   have HBW6:Hid (Below br W w6):=HBW5.out.trans (hb6.mono (by have:=HD4.out.ord;omega));clear hd6 hb6;go_wp2;go_roundw;case rel=>exact⟨k+1,by omega,by go_num,HALN,HDN6,HBW6⟩
   simp[intOf]<;>omega
  obtain rfl:k=ts.length:=by omega
  rw[Wo]at XJ Z8;have HRT:Hid (bu fit rs ts=true):=HRB.out.trans XJ.out;obtain⟨Mp,vo,vu,YN⟩:=Z8.out;have HD0:=ax YN;obtain⟨f,hf⟩:∃f:Ky->Int,f=fun k=>(σ k).getD 0:=⟨_,rfl⟩;have HF:=ax hf;have HLS:Hid (Least (ag rs) f):=by rw[hf];exact Yv.out
  have HF36:Hid (∀y,0<=f y/\f y<=36):=by rw[hf];exact QG (bG.1 HSD.out) h6 Zk.out Yv.out HKE.out
  obtain⟨wz,hwz⟩:∃wz,wz=wr:=⟨_,rfl⟩;subst hwz;have hkk:decide ((ts.length:Int)<(ts.length:Int))=false:=by simp
  clear YN Z8 XJ hf Yv HTU HRB;go_wp2_with fail;go_loopw[54] (fun i wr=>∃k:Nat,k<=rs.length/\i=.int .i64 (k:Int)/\Hid ((eY f (rs.take k)).length<=6*k)/\Hid (∃nr Mr,nr<=6*k/\DatA wr rs D br bp bt (jL (eY f (rs.take k))) nr Mr (eY f (rs.take k)) (dH ts) (gP ts) (dN ts) ts.length Mp vo vu)/\Hid (Below br W wr)) (fun i _=>rs.length-(intOf i).toNat);case atStart=>exact⟨0,Wd _,rfl,Wd _,⟨0,_,Wd _,HD0.out⟩,HB⟩
  clear HD0 HB Zz;obtain⟨k,hk,rfl,Y5,Z8,HB⟩:=hrel;have Zz:Hid (af w wr):=Xz.out.trans (HB.out.mono hwbr);by_cases hkl:k<rs.length
  ·rcases HS.out.below Zz.out with hnil|⟨b,off,rfl,hb,hr,hok⟩
   ·rw[hnil]at hkl;simp at hkl
   obtain⟨t0,t1⟩:=hr k hkl;have hk1:=bC k;have hk2:(k:Int)<(rs.length:Int):=by omega
   have h6k:rs[k].rows.length<=6:=Zk.out _ (VZ hkl);have z0:rs[k].name.size<=maxLen:=(Zq.out _ (VZ hkl)).1;have HFRk:Hid (∀q∈rs[k].rows,q.fits):=(Zq.out _ (VZ hkl)).2.2;have HSU:=ax (NL f hkl);obtain⟨W1,hW1⟩:∃W1,W1=wr.alloc (.cells #[.string rs[k].name,.slice rs[k].ad rs[k].rows.length rs[k].cap] 105):=⟨_,rfl⟩;have hal:af wr W1:=by rw[hW1];exact(V5 _ _).alloc (V4 _) _
   obtain⟨nr,Mr,hnr,YN⟩:=Z8.out;have HD1:=ax (YN.below hal);have hbrz:br<wr.heap.size:=by have:=YN.ord;have:=YN.dat.gt;have:=YN.dat.lt;omega
   have HB1:Hid (Below br W W1):=HB.out.trans (hal.mono (by omega));have HT1:Hid (W1.heap[wr.heap.size]?=some (.cells #[.string rs[k].name,.slice rs[k].ad rs[k].rows.length rs[k].cap] 105 (0,0))):=by rw[hW1];exact heap_alloc_new wr _
   have a1:W1.cell? ⟨wr.heap.size,1,none⟩=some (.slice rs[k].ad rs[k].rows.length rs[k].cap):=by rw[hW1];simp
   clear hr hok hal YN Z8;go_wp2_with fail;rw[<-hW1];clear hW1 t0 t1 a1 HB;obtain⟨wo,hwo⟩:∃wo,wo=wr:=⟨_,rfl⟩;subst hwo;go_loopw[61] (fun i w2=>∃j:Nat,j<=rs[k].rows.length/\i=.int .i64 (j:Int)/\Hid (∃nr Mr,nr<=6*k+j/\DatA w2 rs D br bp bt (jL (eY f (rs.take k)++(rs[k].rows.take j).map (xP f rs[k].name))) nr Mr (eY f (rs.take k)++(rs[k].rows.take j).map (xP f rs[k].name)) (dH ts) (gP ts) (dN ts) ts.length Mp vo vu)/\Hid (w2.heap[wo.heap.size]?=some (.cells #[.string rs[k].name,.slice rs[k].ad rs[k].rows.length rs[k].cap] 105 (0,0)))/\Hid (Below br W w2)) (fun i _=>rs[k].rows.length-(intOf i).toNat);case atStart=>exact⟨0,Wd _,rfl,⟨nr,Mr,by omega,by simpa using HD1.out⟩,HT1,HB1⟩
   clear HD1 HT1 HB1 Zz;obtain⟨j,hj,rfl,Z8,HT,HB⟩:=hrel;have Zz:Hid (af w wr):=Xz.out.trans (HB.out.mono hwbr);by_cases hjl:j<rs[k].rows.length
   ·rcases HS.out.below Zz.out with hnil|⟨b',off',he,hb2,hr,hok⟩
    ·rw[hnil]at hkl;simp at hkl
    injection he with he;injection he with he1 he2;subst he1;subst he2;have ok:=hok rs[k] (VZ hkl);rcases ok with hnil|⟨b2,XR,had,hbb,hr2,-⟩
    ·rw[hnil]at hjl;simp at hjl
    obtain⟨q0,q1⟩:=hr2 j hjl;have z1:rs[k].rows[j].name.size<=maxLen:=(HFRk.out _ (VZ hjl)).1;have hj1:=bC j;have hj2:(j:Int)<(rs[k].rows.length:Int):=by omega
    obtain⟨kl,hkl'⟩:=kJ (rs[k].name,rs[k].rows[j].name) z0 z1;have Yp:=ax hkl';obtain⟨nr,Mr,hnr,YN⟩:=Z8.out;have HTKE:Hid ((rs[k].rows.take (j+1)).map (xP f rs[k].name)=(rs[k].rows.take j).map (xP f rs[k].name)++[xP f rs[k].name rs[k].rows[j]]):=by show _=_;rw[V8 hjl,Xb];rfl
    have hEl:((rs[k].rows.take j).map (xP f rs[k].name)).length=j:=by rw[Xc,WK];omega
    obtain⟨E0,hE0⟩:∃E0,E0=eY f (rs.take k)++(rs[k].rows.take j).map (xP f rs[k].name):=⟨_,rfl⟩;have hE0l:E0.length<=36:=by rw[hE0,Wi,hEl];have:=Y5.out;omega
    rw[<-hE0]at YN;have Zm:=ax hE0;obtain⟨fv,hfv⟩:∃fv,fv=f (rs[k].name,rs[k].rows[j].name):=⟨_,rfl⟩;have hfv36:=HF36.out (rs[k].name,rs[k].rows[j].name);rw[<-hfv]at hfv36;obtain⟨hfv0,hfv1⟩:=hfv36;have HFV:=ax hfv;have HLK:Hid ((jb σ (rs[k].name,rs[k].rows[j].name)).getD (.int .i64 0)=.int .i64 fv):=by
     show _=_;rw[hfv,HF.out];unfold jb;cases h:σ (rs[k].name,rs[k].rows[j].name)<;>simp[h]
    obtain⟨W2,hW2⟩:∃W2,W2=wr.alloc (.cells #[.string rs[k].rows[j].name,.slice rs[k].rows[j].ad rs[k].rows[j].rows.length rs[k].rows[j].cap] 149):=⟨_,rfl⟩;obtain⟨W3,hW3⟩:∃W3,W3=W2.alloc (.cells #[.string rs[k].name,.int .i64 fv] 153):=⟨_,rfl⟩;have hs2:W2.heap.size=wr.heap.size+1:=by rw[hW2];simp
    have hs3:W3.heap.size=wr.heap.size+2:=by rw[hW3];simp;omega
    have hal2:af wr W2:=by rw[hW2];exact(V5 _ _).alloc (V4 _) _
    have hal3:af W2 W3:=by rw[hW3];exact(V5 _ _).alloc (V4 _) _
    have hwol:wo.heap.size<wr.heap.size:=by
     rcases Nat.lt_or_ge wo.heap.size wr.heap.size with h|h
     ·exact h
     have:=HT.out;rw[Array.getElem?_eq_none h]at this;cases this
    have HFRB:Hid (G.FreeB Mr wr.heap.size):=YN.rel.fresh (V4 _);have X0:Hid (aN dU prog 151 W2 bS nS (jb σ)):=HMW.out.of_block (by rw[hal2.block bS (by omega),HB.out.block bS hbS]);have HD3:=ax ((YN.below hal2).below hal3);have HB3':Hid (Below br W W3):=(HB.out.trans (hal2.mono (by omega))).trans (hal3.mono (by omega));have HT3:Hid (W3.heap[wo.heap.size]?=some (.cells #[.string rs[k].name,.slice rs[k].ad rs[k].rows.length rs[k].cap] 105 (0,0))):=by show _=_;rw[hal3.block _ (by omega),hal2.block _ (by omega)];exact HT.out
    have c0:wr.cell? ⟨wo.heap.size,0,none⟩=some (.string rs[k].name):=by simp[World.cell?,HT.out]
    have c0b:W2.cell? ⟨wo.heap.size,0,none⟩=some (.string rs[k].name):=(hal2.cell (p:=⟨wo.heap.size,0,none⟩) (by show wo.heap.size<_;omega)).trans c0;have g0:W2.cell? ⟨wr.heap.size,0,none⟩=some (.string rs[k].rows[j].name):=by rw[hW2];simp
    have HR2:Hid (W3.cell? ⟨wr.heap.size,0,none⟩=some (.string rs[k].rows[j].name)/\W3.cell? ⟨wr.heap.size,1,none⟩=some (.slice rs[k].rows[j].ad rs[k].rows[j].rows.length rs[k].rows[j].cap)/\W3.cell? ⟨wr.heap.size+1,0,none⟩=some (.string rs[k].name)/\W3.cell? ⟨wr.heap.size+1,1,none⟩=some (.int .i64 fv)):=by
     show _/\_;rw[hW3,hW2];refine⟨?_,?_,?_,?_⟩<;>simp
    rw[had];clear hr hok hr2 hkl' YN Z8 hal2 hal3 HT HB hE0 hfv hEl;go_wp2_with(first|(at_lookup;rw[<-hW2];refine jA _ rfl _ _ 141 rfl 151 2 jf underlying141 (SC _) bS nS (jb σ) rfl X0.out (rs[k].name,rs[k].rows[j].name) kl rfl Yp.out ?_;rw[HLK.out]));rw[<-hW2,<-hW3];clear hW2 hW3 g0 c0b c0 q0 q1 HLK X0;obtain⟨row0,hr0⟩:∃r,r=(Mr (rs[k].name,fv)).getD (.slice none 0 0):=⟨_,rfl⟩;obtain⟨nn,hnn⟩:∃n,n=(G.lookL E0 (rs[k].name,fv)).length:=⟨_,rfl⟩;obtain⟨xs,hxs⟩:∃x,x=G.flatG Sm (G.lookL E0 (rs[k].name,fv)):=⟨_,rfl⟩;have Yw:=ax hr0;have Zu:=ax hnn;have HXS:=ax hxs;have hnl:nn<=36:=by rw[hnn];exact Wh (Xo _ _) hE0l
    have Yn:Hid (∀W0:World,af W3 W0->W0.ownsRow (br+1) 149 2 row0 nn xs):=fun W0 hb=>by rw[hr0,hnn,hxs];exact Eg (HD3.out.rel.below hb) _
    have HKEY:Hid (∃kl,keyOf prog 153 (Gb (rs[k].name,fv))=some kl):=Lh _ z0 hfv0 (by show fv<=1000000;omega);have hDl:D<W3.heap.size:=HD3.out.dat.lt;have hbrD:br<D:=by have:=HD3.out.ord;have:=HD3.out.dat.gt;omega
    clear hr0 hnn hxs;obtain⟨C2,hC2⟩:∃C:Nat->Value,C=fun n=>(Value.pointer (some ⟨D,0,none⟩)::.pointer (some ⟨D,0,none⟩)::.pointer (some ⟨D,2,none⟩)::.map (some br)::.agg #[.string rs[k].name,.int .i64 fv]::.agg #[.string rs[k].rows[j].name,.slice rs[k].rows[j].ad rs[k].rows[j].rows.length rs[k].rows[j].cap]::[]).getD n undef:=⟨_,rfl⟩;have XN:Hid (C2 0=Value.pointer (some ⟨D,0,none⟩)/\C2 1=Value.pointer (some ⟨D,0,none⟩)/\C2 2=Value.pointer (some ⟨D,2,none⟩)/\C2 3=Value.map (some br)/\C2 4=Value.agg #[.string rs[k].name,.int .i64 fv]/\C2 5=Value.agg #[.string rs[k].rows[j].name,.slice rs[k].rows[j].ad rs[k].rows[j].rows.length rs[k].rows[j].cap]):=by show _/\_;rw[hC2];exact⟨rfl,rfl,rfl,rfl,rfl,rfl⟩
    clear hC2;refine qA 11 (fun n=>(u76::u77::u78::u79::u80::u82::u83::u84::u81::u85::u86::[]).getD n undef) (fun fq=>{ tmps:=List.toArray (Value.slice (some ⟨b,off,none⟩) rs.length cap::.slice XB ts.length cap'::undef::undef::u4::u5::.map (some bS)::.bool true::.pointer (some ⟨D,0,none⟩)::undef::u10::undef::.pointer (some ⟨wo.heap.size,0,none⟩)::undef::.pointer (some ⟨wr.heap.size,0,none⟩)::.int .i64 fv::.pointer (some ⟨wr.heap.size+1,0,none⟩)::.tuple #[.map (some bS),.bool true]::.slice (some ⟨b,off,none⟩) rs.length cap::.tuple #[.map (some bS),.bool true]::.map (some bS)::.bool true::.bool true::.bool false::.bool false::.slice XB ts.length cap'::.bool true::.bool false::.bool false::.slice (some ⟨b,off,none⟩) rs.length cap::.map (some bt)::.map (some br)::.map (some bp)::.agg #[.map (some bt),.int .i64 0,.map (some br),.map (some bp),.slice none 0 0,.slice none 0 0]::.pointer (some ⟨D,0,none⟩)::.slice XB ts.length cap'::.int .i64 ts.length::.int .i64 ts.length::.bool false::u39::u40::u41::u42::u43::u44::u45::u46::u47::u48::u49::u50::u51::.slice (some ⟨b,off,none⟩) rs.length cap::.int .i64 rs.length::.int .i64 k::.bool true::.pointer (some ⟨b,off+k*2,none⟩)::.agg #[.string rs[k].name,.slice (some ⟨b2,XR,none⟩) rs[k].rows.length rs[k].cap]::.pointer (some ⟨wo.heap.size,1,none⟩)::.slice (some ⟨b2,XR,none⟩) rs[k].rows.length rs[k].cap::.int .i64 rs[k].rows.length::.int .i64 j::.bool true::.pointer (some ⟨b2,XR+j*2,none⟩)::.agg #[.string rs[k].rows[j].name,.slice rs[k].rows[j].ad rs[k].rows[j].rows.length rs[k].rows[j].cap]::.map (some bS)::.pointer (some ⟨wo.heap.size,0,none⟩)::.string rs[k].name::.pointer (some ⟨wr.heap.size,0,none⟩)::.string rs[k].rows[j].name::.agg #[.string rs[k].name,.string rs[k].rows[j].name]::.int .i64 fv::.pointer (some ⟨wo.heap.size,0,none⟩)::.string rs[k].name::.int .i64 fv::.agg #[.string rs[k].name,.int .i64 fv]::(fq 0)::(fq 1)::(fq 2)::(fq 3)::(fq 4)::(fq 8)::(fq 5)::(fq 6)::(fq 7)::(fq 9)::(fq 10)::u87::u88::u89::u90::u91::u92::u93::u94::u95::u96::u97::u98::undef::[]),defers:=[] }) (G.EI C2 #[.string rs[k].rows[j].name,.slice rs[k].rows[j].ad rs[k].rows[j].rows.length rs[k].rows[j].cap] 149 2 W3 br row0 nn xs (G.Back Gb prog 153 122 br nr Mr (rs[k].name,fv))) (by kernel_rfl) rfl (by kernel_rfl) (by kernel_rfl) rfl (G.ei_start W3) ?stepA ?finA;case stepA =>
     rintro i hi o ho l fq w' YQ hI hpre;have HI:=aC hI;have XF:Hid (∀e∈o.after,Region.binds .any e=true->l e.on=true):=hpre;clear hI hpre;have hc:=La (i:=i) (by omega);clear hi
     repeat' rcases hc with rfl|hc
     ·cases ho;have hA:=HI.out.early (i:=0) (by omega) YQ;clear XF HI;refine aa rfl fun K HK=>?_;go_simp;exact HK.out _ _ ⟨Value.pointer (some ⟨D,0,none⟩),by simp[upd, *],hA.put (by omega) XN.out.1.symm⟩
     ·cases ho;have hA:=HI.out.early (i:=1) (by omega) YQ;have e0:=(hA.val 0 (by omega) (XF.out ⟨0,.data⟩ (by simp) rfl)).trans XN.out.1;clear XF HI;refine aa rfl fun K HK=>?_;simp only[e0];go_simp;exact HK.out _ _ ⟨Value.pointer (some ⟨D,0,none⟩),by simp[upd, *],hA.put (by omega) XN.out.2.1.symm⟩
     ·cases ho;have hA:=HI.out.early (i:=2) (by omega) YQ;have e1:=(hA.val 1 (by omega) (XF.out ⟨1,.data⟩ (by simp) rfl)).trans XN.out.2.1;clear XF HI;refine aa rfl fun K HK=>?_;simp only[e1];go_simp;exact HK.out _ _ ⟨Value.pointer (some ⟨D,2,none⟩),by simp[upd, *],hA.put (by omega) XN.out.2.2.1.symm⟩
     ·cases ho;have hA:=HI.out.early (i:=3) (by omega) YQ;have e2:=(hA.val 2 (by omega) (XF.out ⟨2,.data⟩ (by simp) rfl)).trans XN.out.2.2.1;have hb':=hA.bel;have d2:=(hb'.cell (p:=⟨D,2,none⟩) hDl).trans HD3.out.dat.c2;clear XF HI;refine aa rfl fun K HK=>?_;simp only[e2];go_simp;exact HK.out _ _ ⟨Value.map (some br),by simp[upd, *],hA.put (by omega) XN.out.2.2.2.1.symm⟩
     ·cases ho;have hA:=HI.out.early (i:=4) (by omega) YQ;have hb':=hA.bel;have k0:=(hb'.cell (p:=⟨wr.heap.size+1,0,none⟩) (by show wr.heap.size+1<_;omega)).trans HR2.out.2.2.1;have k1:=(hb'.cell (p:=⟨wr.heap.size+1,1,none⟩) (by show wr.heap.size+1<_;omega)).trans HR2.out.2.2.2;clear XF HI;refine aa rfl fun K HK=>?_;go_simp;exact HK.out _ _ ⟨Value.agg #[.string rs[k].name,.int .i64 fv],by simp[upd, *],hA.put (by omega) XN.out.2.2.2.2.1.symm⟩
     ·cases ho;have hA:=HI.out.early (i:=5) (by omega) YQ;have hb':=hA.bel;have k0:=(hb'.cell (p:=⟨wr.heap.size,0,none⟩) (by show wr.heap.size<_;omega)).trans HR2.out.1;have k1:=(hb'.cell (p:=⟨wr.heap.size,1,none⟩) (by show wr.heap.size<_;omega)).trans HR2.out.2.1;clear XF HI;refine aa rfl fun K HK=>?_;go_simp;exact HK.out _ _ ⟨Value.agg #[.string rs[k].rows[j].name,.slice rs[k].rows[j].ad rs[k].rows[j].rows.length rs[k].rows[j].cap],by simp[upd, *],hA.put (by omega) XN.out.2.2.2.2.2.symm⟩
     ·cases ho;have hA:=HI.out.early (i:=6) (by omega) YQ;have e5:=(hA.val 5 (by omega) (XF.out ⟨5,.data⟩ (by simp) rfl)).trans XN.out.2.2.2.2.2;clear XF HI;refine aa rfl fun K HK=>?_;simp only[e5];go_simp;exact HK.out _ _ ⟨_,by simp[upd,e5],hA.lay⟩
     ·cases ho;have hA:=HI.out.early (i:=7) (by omega) YQ;have e3:=(hA.val 3 (by omega) (XF.out ⟨3,.data⟩ (by simp) rfl)).trans XN.out.2.2.2.1;have e4:=(hA.val 4 (by omega) (XF.out ⟨4,.data⟩ (by simp) rfl)).trans XN.out.2.2.2.2.1;have hall:∀k,k<=6->l k=true:=fun k hk=>by
       have hc:=Va (i:=k) (by omega)
       repeat' rcases hc with rfl|hc
       ·exact XF.out ⟨0,.phase⟩ (by simp) rfl
       ·exact XF.out ⟨1,.phase⟩ (by simp) rfl
       ·exact XF.out ⟨2,.phase⟩ (by simp) rfl
       ·exact XF.out ⟨3,.phase⟩ (by simp) rfl
       ·exact XF.out ⟨4,.phase⟩ (by simp) rfl
       ·exact XF.out ⟨5,.phase⟩ (by simp) rfl
       exact XF.out ⟨6,.phase⟩ (by simp) rfl
      have hD':=HD3.out.below hA.bel;obtain⟨kl2,hkl2⟩:=HKEY.out;obtain⟨st,w1',hrun,hg,hback⟩:=hD'.rel.map.entry OX OW underlying122 QI (by unfold maxLen;omega) hkl2;rw[<-Yw.out]at hrun;have hrun':(Instr.mapEntry 122 (.map (some br)) (Value.agg #[.string rs[k].name,.int .i64 fv])).run prog w'=.ok (.tuple #[row0,goInt st]) w1':=hrun;clear XF HI;refine aa rfl fun K HK=>?_;simp only[e3,e4];go_simp;exact HK.out _ _ ⟨_,by simp[upd,e3,e4,goInt],hA.took hall hg hback⟩
     ·cases ho;have h7:=XF.out ⟨7,.data⟩ (by simp) rfl;have hB:=HI.out.midB h7 (i:=8) (by omega) YQ;obtain⟨st,e7⟩:=HI.out.seven h7;clear XF HI;refine aa rfl fun K HK=>?_;simp only[e7];go_simp;exact HK.out _ _ ⟨_,by simp[upd,e7,goInt],hB.first⟩
     ·cases ho;have h7:=XF.out ⟨7,.chain⟩ (by simp) rfl;have h8:=XF.out ⟨8,.data⟩ (by simp) rfl;have hB:=HI.out.midB h7 (i:=9) (by omega) YQ;obtain ⟨W0,st,g,hm1,hm2,hm3,hm4,ZT,e7,hm7,hm8,hm9⟩:=hB.mid;have e8:=hm8 h8;have hown:=(Yn.out W0 hm1).kept ZT (by
       rcases h:row0.ownBlock with _|g'
       ·exact .inl rfl
       right;intro e;injection e with e;have:=((Yn.out W0 hm1).lt g' h).1;omega)
      have hnew:w'.heap[g]?=some (.cells #[.string rs[k].rows[j].name,.slice rs[k].rows[j].ad rs[k].rows[j].rows.length rs[k].rows[j].cap] 149 (0,0)):=by
       have hgl:g<W0.heap.size:=by
        rcases Nat.lt_or_ge g W0.heap.size with h|h
        ·exact h
        rw[Array.getElem?_eq_none h]at hm4;cases hm4
       rw[ZT.block g hgl (fun e=>by injection e with e;omega)];exact hm4
      clear XF HI;refine ll w' rfl rfl _ _ 103 rfl (br+1) 149 iR _ 2 40 underlying103 YC.out.1 YC.out.2.1 YC.out.2.2.1 YC.out.2.2.2 rfl (by decide) row0 nn xs (by simp[Act.eval,e8]) hown ⟨g,0,none⟩ 1 1 [Value.string rs[k].rows[j].name,.slice rs[k].rows[j].ad rs[k].rows[j].rows.length rs[k].rows[j].cap] (by simp[Act.eval,hm2]) rfl (fun j u hu=>news_of_block hnew j u hu) (by simp[Value.oneCell']) (by unfold maxLen;omega) (by omega) (by have:=ZT.size;have:=hm1.size;omega) ?_;intro v' w2' hown2 XP hloc2;exact⟨v',by simp[upd,Act.put],hB.app h8 XP hown2 hloc2⟩
     cases ho;have h7:=XF.out ⟨7,.data⟩ (by simp) rfl;obtain⟨st,e7⟩:=HI.out.seven h7;have HI2:=HI.out.second h7 e7;clear XF HI;refine aa rfl fun K HK=>?_;simp only[e7];go_simp;exact HK.out _ _ ⟨_,by simp[upd,e7,goInt],HI2⟩
    case finA =>
     rintro o ho l fq w' hall hI;obtain rfl:=Option.some.inj ho;have hC:=hI.last hall;obtain⟨W0,w1',st,hm1,hm2,hm3,hm4,ZT,hm6,-,hm8⟩:=hC.mid;have e10:=hm8 (hall 10 (by omega));have e3:=(hC.val 3 (by omega)).trans XN.out.2.2.2.1;obtain⟨w7,hrun,hM3,hg3⟩:=hm6 w' (fq 9) (hm3.block br (by have:=hm2.size;have:=hm1.size;omega) (fun e=>by have:=(Yn.out W0 hm1).lt br e.symm;omega));have hst:=(HD3.out.rel.below hm1).step (y:=(rs[k].name,fv)) (s:=rs[k].rows[j]) hm2 (by rw[<-Zu.out,<-HXS.out];exact hm4) (by rw[<-Yw.out];exact hm3) (by rw[<-Yw.out];exact ZT) hg3 hM3;have HD7:=ax ((HD3.out.below hm1).list hst.1 hst.2);have HB7:Hid (Below br W w7):=by
      have b0:Below br W W0:=HB3'.out.trans (hm1.mono (by omega));have b1:Below br W w1':=b0.grown hm2 (by have:=hm1.size;omega) (fun i hi=>by injection hi with hi;omega);have b2:Below br W w':=b1.grown hm3 (by have:=hm2.size;have:=hm1.size;omega) (fun i hi=>by have:=((Yn.out W0 hm1).lt i hi).1;omega);exact b2.grown hg3 (by have:=hm3.size;have:=hm2.size;have:=hm1.size;omega) (fun i hi=>by injection hi with hi;omega)
     have HT7:Hid (w7.heap[wo.heap.size]?=some (.cells #[.string rs[k].name,.slice rs[k].ad rs[k].rows.length rs[k].cap] 105 (0,0))):=by
      show _=_;have h0:W0.heap[wo.heap.size]?=_:=(hm1.block wo.heap.size (by omega)).trans HT3.out;rw[hst.2.block wo.heap.size (by have:=hm1.size;omega) (by omega) (sP (HD3.out.rel.below hm1) h0 (by decide))];exact h0
     have YR:(Instr.entryStore 122 (.map (some br)) (.int .i64 st) (fq 9)).run prog w'=.ok () w7:=hrun;obtain⟨Mn,hMn⟩:∃M,M=lQ Mr (rs[k].name,fv) (some (fq 9)):=⟨_,rfl⟩;rw[<-hMn]at HD7;refine aa rfl fun K HK=>?_;simp only[e3,e10];go_simp;refine HK.out _ _ ?_;obtain⟨n0,hn0⟩:∃n,n=jL E0:=⟨_,rfl⟩;have HN0:=ax hn0;rw[<-hn0]at HD7;have d1:=HD7.out.dat.c1;have fz:=fun o=>lw HD7.out.dat.kind.choose_spec o;have hDw:=HD7.out.dat.lt;clear hst hrun YR hM3 hg3 hm1 hm2 hm3 hm4 ZT hm6 hm8 hC hI hall ho HK K e3 e10 HD3 HT3 HB3' Yn XN HKEY hMn Yw Zu HXS HR2 HFRB hn0 hDl hbrD;obtain⟨w8,hw8⟩:∃x,x=w7.setCell ⟨D,1,none⟩ (Value.int .i64 (max n0 (fv+1))):=⟨_,rfl⟩;have HEQ:Hid (eY f (rs.take k)++(rs[k].rows.take (j+1)).map (xP f rs[k].name)=E0++[((rs[k].name,fv),rs[k].rows[j])]):=by show _=_;rw[HTKE.out,<-WE,<-Zm.out];unfold xP;rw[<-HFV.out]
     have HD8:Hid (∃nr Mr,nr<=6*k+(j+1)/\DatA w8 rs D br bp bt (jL (eY f (rs.take k)++(rs[k].rows.take (j+1)).map (xP f rs[k].name))) nr Mr (eY f (rs.take k)++(rs[k].rows.take (j+1)).map (xP f rs[k].name)) (dH ts) (gP ts) (dN ts) ts.length Mp vo vu):=by
      rw[HEQ.out,Ib,<-HN0.out,hw8];exact⟨nr+1,Mn,by omega,HD7.out.count (max n0 (fv+1))⟩
     have HT8:Hid (w8.heap[wo.heap.size]?=some (.cells #[.string rs[k].name,.slice rs[k].ad rs[k].rows.length rs[k].cap] 105 (0,0))):=by
      show _=_;rw [hw8,heap_setCell_other w7 ⟨D,1,none⟩ wo.heap.size _ (fun e=>by
       have e':wo.heap.size=D:=e;have h1:=HT7.out;obtain⟨cur,h2⟩:=HD7.out.dat.kind;rw[e',h2]at h1;injection h1 with h1;injection h1 with _ h3;exact absurd h3 (by decide))]
      exact HT7.out
     have HB8:Hid (Below br W w8):=by show Below _ _ _;rw[hw8];exact HB7.out.setCell (by show br<=D;have:=HD7.out.ord;have:=HD7.out.dat.gt;omega) _
     rw[had]at HT8;clear HD7 HT7 HB7;go_wp2;rw[<-hw8];go_roundw;case rel=>exact⟨j+1,by omega,by go_num,HD8,HT8,HB8⟩
     simp[intOf]<;>omega
   obtain rfl:j=rs[k].rows.length:=by omega
   have HDN2:Hid (∃nr Mr,nr<=6*(k+1)/\DatA wr rs D br bp bt (jL (eY f (rs.take (k+1)))) nr Mr (eY f (rs.take (k+1))) (dH ts) (gP ts) (dN ts) ts.length Mp vo vu):=by
    obtain⟨nr,Mr,hnr,YN⟩:=Z8.out;rw[Wo]at YN;rw[HSU.out];exact⟨nr,Mr,by omega,YN⟩
   have HEL2:Hid ((eY f (rs.take (k+1))).length<=6*(k+1)):=by
    show _<=_;rw[HSU.out,Wi,Xc];have:=Y5.out;omega
   clear Z8 HT;go_wp2;go_roundw;case rel=>exact⟨k+1,by omega,by go_num,HEL2,HDN2,HB⟩
   simp[intOf]<;>omega
  obtain rfl:k=rs.length:=by omega
  rw[Wo]at Z8;obtain⟨nr,Mr,-,YN⟩:=Z8.out;have HDE:=ax YN;clear YN Z8;go_wp2;exact bodyPost_ret (v:=.tuple #[.pointer (some ⟨D,0,none⟩),.bool true]) (by simp[results,Tryz.results41,go_sem]) rfl ⟨Zz.out,.inr ⟨HRT.out,D,br,bp,bt,nr,ts.length,Mr,Mp,vo,vu,f,rfl,hw2,HLS.out,HDE.out⟩⟩
 have HN:Hid (bu fit rs ts=false):=by
  show _=_;unfold bu;cases hh:aD (ag rs);case false=>simp
  exact absurd (bG.1 hh) hno
 clear hno;go_wp2;exact bodyPost_ret (v:=.tuple #[.pointer none,.bool false]) (by simp[results,Tryz.results41,go_sem]) rfl ⟨HB1.out,.inl ⟨HN.out,rfl⟩⟩
def nZ(known:Q04)(f:Fc)(t:Tp):Bool:=if t.s.toList.isEmpty then t.c.toList==f.c.toList&&t.d.toList==f.d.toList else bY known ⟨t.c,t.d,t.s,f.c,f.d⟩
def wH(known:Q04)(name:ByteArray)(f:Fc)(t:Tp):Bool:=bY known ⟨t.c,t.d,name,f.c,f.d⟩
theorem Ic(l:Q05)(k:K3)(p:Tp->Bool):(G.lookL (dH l) k).any p=l.any fun t=>(t.a.toList==k.1.toList&&t.b.toList==k.2.1.toList&&t.r.toList==k.2.2.toList)&&p t:=by
 induction l with
 | nil=>rfl
 | cons t l ih =>
  have e:dH (t::l)=[(M4 t,t)]++dH l:=rfl;rw[e,G.lookL_append,List.any_append,ih,Xt];congr 1;unfold G.lookL M4;by_cases h:(t.a,t.b,t.r)=k
  ·subst h;simp
  have h2:(t.a.toList==k.1.toList&&t.b.toList==k.2.1.toList&&t.r.toList==k.2.2.toList)=false:=by
   cases hb:(t.a.toList==k.1.toList&&t.b.toList==k.2.1.toList&&t.r.toList==k.2.2.toList);case false=>rfl
   rw[V9,V9,fw,fw,fw]at hb;exact absurd (Prod.ext hb.1.1 (Prod.ext hb.1.2 hb.2)) h
  simp[h,h2]
theorem Kz(l:Q05)(known:Q04)(f:Fc):fG l known f=(G.lookL (dH l) (f.a,f.b,f.r)).any (nZ known f):=by rw[Ic];rfl
theorem KA(l:Q05)(known:Q04)(over name:bZ)(f:Fc):gQ l known over name f=(G.lookL (dH l) (f.a,f.b,over)).any (wH known name f):=by rw[Ic];rfl
theorem NM(st:Q00)(n:Int)(o:Al)(tn:bZ)(rows:Q07):((rows.map fun r=>(tn,r.name)).filter fun k=>k.1.toList==o.t.toList&&decide (st k=n))=(G.lookL (rows.map fun r=>((tn,st (tn,r.name)),r)) (o.t,n)).map fun r=>(o.t,r.name):=by
 induction rows with
 | nil=>rfl
 | cons r rows ih =>
  have e:((r::rows).map fun r=>((tn,st (tn,r.name)),r))=[((tn,st (tn,r.name)),r)]++rows.map fun r=>((tn,st (tn,r.name)),r):=rfl;rw[e,G.lookL_append,Xb,<-ih,Xp,Xm];unfold G.lookL;by_cases h:tn=o.t/\st (tn,r.name)=n
  ·obtain⟨rfl,rfl⟩:=h;simp
  have h1:(tn.toList==o.t.toList&&decide (st (tn,r.name)=n))=false:=by
   cases hb:(tn.toList==o.t.toList&&decide (st (tn,r.name)=n));case false=>rfl
   rw[V9,fw,Wn]at hb;exact absurd hb h
  have h2:¬((tn,st (tn,r.name))=(o.t,n)):=fun e=>h ⟨congrArg Prod.fst e,congrArg Prod.snd e⟩;simp[h1,h2]
theorem Ie(st:Q00)(n:Int)(o:Al)(rs:Q06):Fj (ag rs) st n o=(G.lookL (eY st rs) (o.t,n)).map fun r=>(o.t,r.name):=by
 unfold Fj
 induction rs with
 | nil=>rfl
 | cons t rs ih =>
  have e1:au (ag (t::rs))=(t.rows.map fun r=>(t.name,r.name))++au (ag rs):=by
   have:jT t.p=t.rows.map fun r=>(t.name,r.name):=by unfold jT;show List.map _ (eG t.rows)=_;unfold eG;rw[List.map_map];rfl
   simp[au,ag,this]
  have e2:eY st (t::rs)=(t.rows.map fun r=>((t.name,st (t.name,r.name)),r))++eY st rs:=rfl;rw[e1,e2,G.lookL_append,Xn,Xb,ih,NM]
theorem BR{s:St}:∀{sts:List St},(iK sts).Nodup->s∈sts->fO sts s.key=s.n
 | [],_,h=>by cases h
 | x::xs,hd,h=>by
  have hd2:x.key ∉ iK xs/\(iK xs).Nodup:=List.nodup_cons.1 hd;unfold fO;by_cases e:Aq x s.key.1 s.key.2=true
  ·rw[if_pos e];have ek:=qZ.1 e;rcases Ws.1 h with rfl|h
   ·rfl
   exact absurd (by rw[ek];exact WG h) hd2.1
  rw[if_neg e];rcases Ws.1 h with rfl|h
  ·exact absurd (qZ.2 rfl) e
  exact BR hd2.2 h
def VE(sts:List St)(n:Int)(o:Al):List St:=sts.filter fun s=>s.typ.toList==o.t.toList&&decide (s.n=n)
theorem SE{ts:Q0b}{sts:List St}(hk:iK sts=au ts)(hn:(au ts).Nodup)(n:Int)(o:Al):Fj ts (fO sts) n o=(VE sts n o).map St.key:=by
 unfold Fj VE;rw[<-hk];rw[<-hk]at hn;unfold iK;rw[List.filter_map];congr 1;refine List.filter_congr fun s hs=>?_;show(s.key.1.toList==o.t.toList&&decide (fO sts s.key=n))=_;rw[BR hn hs];rfl
theorem KC{rs:Q06}(h:bF (ag rs)=true):(au (ag rs)).Nodup:=by
 have e:au (ag rs)=rs.flatMap fun t=>t.rows.map fun r=>(t.name,r.name):=by
  unfold au ag;rw[List.flatMap_map];congr 1
  funext t
  unfold jT;show List.map _ (eG t.rows)=_;unfold eG;rw[List.map_map];rfl
 rw[e,List.Nodup,List.pairwise_flatMap];constructor
 ·intro t ht;obtain ⟨i,hi,rfl⟩:=WN.1 ht;have hu:=(lZ h i hi).2.2;rw [List.pairwise_map,List.pairwise_iff_getElem];intro a b ha hb hab e;have hne:=sw (f:=fun k=>(rs[i].rows[k]?.map RR.name).getD ByteArray.empty) (n:=rs[i].rows.length) (fun k hk=>by
   have h0:k<rs[i].rows.length:=by omega
   simp only[Wm hk,Wm h0,Option.map_some,WO];exact(Dt hu (k+1) hk hk).2.1 k h0 rfl)
  have:=hne a b hab hb;simp[ha,hb]at this;exact this (congrArg Prod.snd e)
 rw [List.pairwise_iff_getElem];intro a b ha hb hab x hx y hy e;obtain ⟨r,hr,rfl⟩:=Wp.1 hx;obtain ⟨q,hq,rfl⟩:=Wp.1 hy;have hne:=sw (f:=fun k=>(rs[k]?.map TR.name).getD ByteArray.empty) (n:=rs.length) (fun k hk=>by
  have h0:k<rs.length:=by omega
  simp only[Wm hk,Wm h0,Option.map_some,WO];exact(lZ h (k+1) hk).2.1 k h0 rfl)
 have:=hne a b hab hb;simp[ha,hb]at this;exact this (congrArg Prod.fst e)
theorem Ig{α:Type}[DecidableEq α]:∀{a b:List α},a.Nodup->(∀x∈a,x∈b)->a.length<=b.length
 | [],_,_,_=>Wd _
 | x::a,b,hd,hs=>by
  obtain⟨h1,h2⟩:=List.nodup_cons.1 hd;have hx:=hs x (by simp);have:=Ig (a:=a) (b:=b.erase x) h2 fun y hy=>(List.mem_erase_of_ne (fun e:y=x=>h1 (by rw[<-e];exact hy))).2 (hs y (by simp[hy]));rw[List.length_erase_of_mem hx]at this;have hp:0<b.length:=List.length_pos_of_mem hx;simp only[WH];omega
def FL(ts:Q0b)(xo xu:Q0a):List Fc:=xo.flatMap fun o=>(au ts).flatMap fun k=>jO o k.2 xu
theorem Eh{ts:Q0b}{st:Q00}{xo xu:Q0a}{n:Int}{f:Fc}(h:f∈dw ts st xo xu n):f∈FL ts xo xu:=by
 unfold dw yZ at h;obtain⟨o,ho,h⟩:=Wx.1 h;obtain⟨k,hk,h⟩:=Wx.1 h;exact Wx.2 ⟨o,ho,Wx.2 ⟨k,(WW.1 hk).1,h⟩⟩
theorem BS{α β:Type}(f:α->List β)(m:Nat)(hf:∀a,(f a).length<=m):∀l:List α,(l.flatMap f).length<=l.length*m
 | []=>by simp
 | a::l=>by
  have h1:=BS f m hf l;have h2:=hf a;simp only[WF,Wi,WH,Nat.add_mul];omega
theorem QK(ts:Q0b)(xo xu:Q0a):(FL ts xo xu).length<=xo.length*((au ts).length*xu.length) :=
 BS _ _ (fun o=>BS _ _ (fun k=>by unfold jO;rw[Xc];exact V4 _) _) _
structure GoodO(ts:Q0b)(xo xu:Q0a)(out:Q04):Prop where
 once:out.Nodup
 sub:∀g∈out,g∈FL ts xo xu
def U8(us:Q0a):List (ByteArray×ByteArray):=us.map fun u=>(u.t,u.s)
def U9(us:Q0a)(x:Q01):Bool:=us.any fun u=>u.t.toList==x.1.toList&&u.s.toList==x.2.toList
theorem zC{us:Q0a}{x:Q01}:U9 us x=true↔x∈U8 us:=by
 unfold U9 U8;rw[Xe,Wp];constructor
 ·rintro⟨u,hu,h⟩;rw[V9,fw,fw]at h;exact⟨u,hu,Prod.ext h.1 h.2⟩
 rintro⟨u,hu,rfl⟩;exact⟨u,hu,by simp⟩
def fo(us:Q0a)(new:Q04):List Al:=us.filter fun u=>new.any fun g=>g.c.toList==u.t.toList&&g.d.toList==u.s.toList
theorem Ei{us:Q0a}{new:Q04}{x:Q01}:x∈U8 (fo us new)↔x∈U8 us/\∃g∈new,g.u=x:=by
 unfold U8 fo;constructor
 ·intro h;obtain⟨u,hu,rfl⟩:=Wp.1 h;obtain⟨h1,h2⟩:=WW.1 hu;obtain⟨g,hg,h3⟩:=Xe.1 h2;rw[V9,fw,fw]at h3;exact⟨WG (f:=fun u:Al=>(u.t,u.s)) h1,g,hg,Prod.ext h3.1 h3.2⟩
 rintro⟨h,g,hg,hx⟩;obtain⟨u,hu,rfl⟩:=Wp.1 h;refine Wp.2 ⟨u,WW.2 ⟨hu,Xe.2 ⟨g,hg,?_⟩⟩,rfl⟩;rw[V9,fw,fw];exact⟨congrArg Prod.fst hx,congrArg Prod.snd hx⟩
theorem KD(us:Q0a):fo us []=[]:=by unfold fo;rw[List.filter_eq_nil_iff];simp
theorem KE{ts:Q0b}{xo xu:Q0a}{n:Int}{st st':Q00}(h:∀k∈au ts,st k=st' k):dw ts st xo xu n=dw ts st' xo xu n:=by
 unfold dw yZ;congr 1
 funext o
 have:Fj ts st n o=Fj ts st' n o:=List.filter_congr fun k hk=>by rw[h k hk]
 rw[this]
set_option linter.unusedSectionVars false
section
variable  [DecidableEq Fc]
theorem GoodO.run{ts:Q0b}{xo xu:Q0a}{out:Q04}(h:GoodO ts xo xu out){H:List Fc->Fc->Bool}{qs:Q04}(hq:∀g∈qs,g∈FL ts xo xu):GoodO ts xo xu (bW H qs out):=by
 refine⟨wX qs h.once,fun g hg=>?_⟩;obtain⟨n,e,hn⟩:=kL (H:=H) qs out;rw[e]at hg;rcases Wj.1 hg with hg|hg
 ·exact h.sub g hg
 exact hq g (hn g hg).1
theorem GoodO.len{ts:Q0b}{xo xu:Q0a}{out:Q04}(h:GoodO ts xo xu out)(h1:xo.length<=80)(h2:(au ts).length<=36)(h3:xu.length<=40):out.length<=115200:=by
 have a1:=Ig h.once h.sub;have a2:=QK ts xo xu;have a3:(au ts).length*xu.length<=36*40:=Nat.mul_le_mul h2 h3;have a4:xo.length*((au ts).length*xu.length)<=80*(36*40):=Nat.mul_le_mul h1 a3;omega
structure FewA(ts:Q0b)(l:Q05)(st:Q00)(xo xu:Q0a)(n:Int)(us:Q0a)(out:Q04):Prop where
 sub:us=xu.filter fun u:Al=>U9 us (u.t,u.s)
 few:Few Fc.u (ja ts l) (dw ts st xo xu n) (U8 us) out
variable  {ts:Q0b}{l:Q05}{st:Q00}{xo xu:Q0a}{n:Int}
theorem FewA.start(out:Q04):FewA ts l st xo xu n xu out:=by
 refine⟨(List.filter_eq_self.2 fun u hu=>zC.2 (WG (f:=fun u:Al=>(u.t,u.s)) hu)).symm,Few.start fun f hf=>JU hf⟩
theorem KF{φ υ:Type}[DecidableEq φ]{us:φ->υ}{H:List φ->φ->Bool}(hL:Loc us H){qs:List φ}{users:List υ}{out:List φ}(h:Few us H qs users out)(P:υ->Bool)(hP:∀u,P u=true↔u∈users):bW H (qs.filter fun f=>P (us f)) out=bW H qs out :=
 (nJ hL P qs out fun f hf hp=>h.set f hf fun hm=>by rw[(hP _).2 hm]at hp;cases hp).symm
theorem FewA.round{us:Q0a}{out:Q04}(h:FewA ts l st xo xu n us out):bW (ja ts l) (dw ts st xo us n) out=bW (ja ts l) (dw ts st xo xu n) out:=by
 have h2:=G6 ts st xo xu n (U9 us);rw[<-h.sub]at h2;rw[<-h2];exact KF (DI ts l) h.few (U9 us) fun u=>zC
theorem FewA.next{us:Q0a}{out new:Q04}(h:FewA ts l st xo xu n us out)(hn:bW (ja ts l) (dw ts st xo us n) out=out++new):FewA ts l st xo xu n (fo us new) (out++new):=by
 refine⟨?_,h.few.next (DI ts l) (h.round.symm.trans hn) fun u=>Ei⟩;have h1:fo us new=(xu.filter fun u:Al=>U9 us (u.t,u.s)).filter fun u=>new.any fun g=>g.c.toList==u.t.toList&&g.d.toList==u.s.toList:=by rw[<-h.sub];rfl
 rw[List.filter_filter]at h1;refine h1.trans (List.filter_congr fun u hu=>?_);rw[Wy,zC,Ei,V9,zC,Xe,and_comm];refine and_congr Iff.rfl ⟨fun⟨g,hg,h3⟩=>⟨g,hg,?_⟩,fun⟨g,hg,h3⟩=>⟨g,hg,?_⟩⟩
 ·rw[V9,fw,fw]at h3;exact Prod.ext h3.1 h3.2
 rw[V9,fw,fw];exact⟨congrArg Prod.fst h3,congrArg Prod.snd h3⟩
theorem FewA.done{out:Q04}(h:FewA ts l st xo xu n [] out):pM (ja ts l) (dw ts st xo xu n) out=out:=h.few.done
theorem xQ{st st':Q00}(h:∀k∈au ts,st k=st' k):∀N,nE ts l st xo xu N=nE ts l st' xo xu N
 | 0=>rfl
 | N+1=>by rw[j6,j6,xQ h N,KE h]
end
def yI(out:Q04)(f:Fc):Option Value:=if bY out f then some (.agg #[]) else none
theorem QL(out:Q04)(f:Fc):(yI out f).isSome=bY out f:=by unfold yI;cases bY out f<;>rfl
theorem SF(out:Q04)(f:Fc):∀v,yI out f=some v->v=.agg #[]:=fun v h=>by
 unfold yI at h;split at h
 ·injection h with h;exact h.symm
 cases h
theorem rR(b n:Nat)(out:Q04)(f:Fc)(w:ae)(hf:f.fits)(hV:aN kX prog 43 w b n (yI out)):
  Calls prog 67 #[.map (some b),.agg #[.string f.a,.string f.b,.string f.r,.string f.c,.string f.d]] w fun e w'=>e=.returned (.bool (bY out f))/\af w w':=by
 have h:=Hz b n (yI out) f w hf hV (SF out f);rw[QL]at h;exact h
theorem Ih{w:ae}{bp np:Nat}{Mp:K3->Option Value}{E:List (K3×Tp)}(h:G.Grp qO prog 226 29 6 Tp.row w bp np Mp E)(k:K3):∃ad cap,(Mp k).getD (.slice none 0 0)=.slice ad (G.lookL E k).length cap/\Sl w ad (G.lookL E k):=by
 obtain⟨ad,cap,e,hs,-⟩:=GQ (ts:=G.lookL E k) (D8 h k) rfl;exact⟨ad,cap,e,hs⟩
theorem Ej(p:Tp->Bool){ts:Q05}{k:Nat}(h:k<ts.length):(ts.drop k).any p=(p ts[k] || (ts.drop (k+1)).any p):=by rw[WC h];rfl
theorem Ii{ts:Q05}{k:K3}{t:Tp}(h:t∈G.lookL (dH ts) k):t∈ts:=by
 have:=G.mem_lookL.1 h;unfold dH at this;obtain⟨x,hx,e⟩:=Wp.1 this;injection e with e1 e2;rw[<-e2];exact hx
theorem Ij(ts:Q05)(k:K3):(G.lookL (dH ts) k).length<=ts.length:=by
 unfold G.lookL dH;exact Wh (Xo _ _) (by simp)
section
variable  {w:World}{rs:Q06}{D br bp bt bK nK:Nat}{n1:Int}{nr:Nat}{Mr:KL->Option Value}{Er:List (KL×RR)}{ts:Q05}{xo xu:Q0a}{np:Nat}{Mp:K3->Option Value}{vo vu:Value}{out:Q04}{f:Fc}
theorem CE(hD:DatA w rs D br bp bt n1 nr Mr Er (dH ts) xo xu np Mp vo vu)(hK:aN kX prog 43 w bK nK (yI out))(hf:f.fits)(hts:∀t∈ts,t.fits)(htl:ts.length<=1000):
  Calls prog 218 #[.pointer (some ⟨D,0,none⟩),.agg #[.string f.a,.string f.b,.string f.r,.string f.c,.string f.d],.map (some bK)] w fun e w'=>e=.returned (.bool (fG ts out f))/\af w w':=by
 obtain⟨kl,hkl⟩:=EE (f.a,f.b,f.r) hf.1 hf.2.1 hf.2.2.1;obtain⟨adL,ZA,hgd,hsl⟩:=Ih hD.dat.told (f.a,f.b,f.r);have HL:=ak (Kz ts out f);have hll:=Ij ts (f.a,f.b,f.r);have HFL:Hid (∀t∈G.lookL (dH ts) (f.a,f.b,f.r),t.fits):=fun t ht=>hts t (Ii ht);obtain⟨L,hLe⟩:∃L,L=G.lookL (dH ts) (f.a,f.b,f.r):=⟨_,rfl⟩;rw[<-hLe]at hgd hsl HL hll HFL;obtain⟨W0,hW0⟩:∃W0,W0=w.alloc (.cells #[.string f.a,.string f.b,.string f.r,.string f.c,.string f.d] 43):=⟨_,rfl⟩;have HB0:=nC hW0;have c0:W0.cell? ⟨w.heap.size,0,none⟩=some (.string f.a):=by rw[hW0];simp
 have c1:W0.cell? ⟨w.heap.size,1,none⟩=some (.string f.b):=by rw[hW0];simp
 have c2:W0.cell? ⟨w.heap.size,2,none⟩=some (.string f.r):=by rw[hW0];simp
 have c3:W0.cell? ⟨w.heap.size,3,none⟩=some (.string f.c):=by rw[hW0];simp
 have c4:W0.cell? ⟨w.heap.size,4,none⟩=some (.string f.d):=by rw[hW0];simp
 have d3:=HB0.out.cell (p:=⟨D,3,none⟩) hD.dat.lt |>.trans hD.dat.c3;have hlk:∀m,(Instr.lookup 123 (.map (some bp)) (.agg #[.string f.a,.string f.b,.string f.r]) false).run prog (W0.drewN m)=.ok (.slice adL L.length ZA) (W0.drewN m):=fun m=>by
  have h:=((hD.dat.told.map.below HB0.out).below (below_drewN (V5 _ _) m)).look (t:=123) (e:=25) Tv underlying123 (Kc _) (x:=(f.a,f.b,f.r)) hkl;rw[hgd]at h;exact h
 have ZZ:=ak hsl;have HKN:=ak hK;have HF:=ak hf;have YG:Hid (W0.cell? ⟨w.heap.size,3,none⟩=some (.string f.c)/\W0.cell? ⟨w.heap.size,4,none⟩=some (.string f.d)/\w.heap.size<W0.heap.size):=⟨c3,c4,by rw[hW0];simp⟩;clear hsl hK hf hLe hgd hkl;go_enter func218,ntmps218;go_wp2_with fail;rw[<-hW0];clear hW0;go_quiet (fail);clear c0 c1 c2 c3 c4 d3 hlk;go_wp2;go_loopw[20] (fun i wr=>∃k:Nat,k<=L.length/\i=.int .i64 k/\Hid ((L.drop k).any (nZ out f)=L.any (nZ out f))/\Hid (af w wr)/\Hid (wr.cell? ⟨w.heap.size,3,none⟩=some (.string f.c)/\wr.cell? ⟨w.heap.size,4,none⟩=some (.string f.d)/\w.heap.size<wr.heap.size)) (fun i _=>L.length-(intOf i).toNat);case atStart=>exact⟨0,Wd _,rfl,rfl,below_drewN HB0.out _,YG⟩
 clear YG HB0;obtain⟨k,hk,rfl,HP,HB,HC⟩:=hrel;by_cases hlt:k<L.length
 ·obtain⟨bT,offT,ZW,⟨a0,a1,a2,a3,a4,a5⟩,hbT⟩:=Sl.at0 (ZZ.out.below HB.out) hlt;obtain⟨c3,c4,cl⟩:=HC.out;have hi1:=bC k;have hi2:(k:Int)<(L.length:Int):=by omega
  have HTF:=ak (HFL.out _ (VZ hlt));have HD2:Hid (L.any (nZ out f)=(nZ out f L[k] || (L.drop (k+1)).any (nZ out f))):=by show _=_;rw[<-HP.out];exact Ej _ hlt
  obtain⟨t,ht⟩:∃t,t=L[k]:=⟨_,rfl⟩;rw[<-ht]at a0 a1 a2 a3 a4 a5 HTF HD2;clear ht;obtain⟨W1,hW1⟩:∃W1,W1=wr.alloc (.cells #[.string t.a,.string t.b,.string t.r,.string t.c,.string t.d,.string t.s] 29):=⟨_,rfl⟩;have Yj:=nC hW1;have HB1:=ak (HB.out.trans (Yj.out.mono HB.out.size));have Yl:Hid (W1.cell? ⟨w.heap.size,3,none⟩=some (.string f.c)/\W1.cell? ⟨w.heap.size,4,none⟩=some (.string f.d)/\w.heap.size<W1.heap.size):=⟨mK Yj.out cl c3,mK Yj.out cl c4,VY cl Yj.out.size⟩;subst ZW;cases hs:t.s.toList.isEmpty;case true=>
   have hs2:(t.s.toList==[])=true:=by rw[sI];exact hs
   have HTT:Hid (nZ out f t=Bh t.c t.d f.c f.d):=by show _=_;unfold nZ;rw[if_pos hs];rfl
   cases hu:Bh t.c t.d f.c f.d;case true=>
    have heq:=jJ _ _ _ _ hu;have HN:Hid (fG ts out f=true):=by show _=_;rw[HL.out,HD2.out,HTT.out,hu];rfl
    clear hu hs;go_wp2;rw[<-hW1];go_ret;exact⟨by rw[HN.out];rfl,HB1.out⟩
   have heq:=jJ _ _ _ _ hu;have XA:Hid ((L.drop (k+1)).any (nZ out f)=L.any (nZ out f)):=by show _=_;rw[HD2.out,HTT.out,hu];rfl
   clear hu hs;go_wp2;rw[<-hW1];clear hW1;go_roundw;case rel=>exact⟨k+1,by omega,by go_num,XA,HB1,Yl⟩
   simp[intOf]<;>omega
  have hs2:(t.s.toList==[])=false:=by rw[sI];exact hs
  have HTT:Hid (nZ out f t=bY out ⟨t.c,t.d,t.s,f.c,f.d⟩):=by show _=_;unfold nZ;rw[if_neg (by rw[hs];decide)]
  clear hs;go_wp2_with fail;rw[<-hW1];clear hW1;refine(rR bK nK out ⟨t.c,t.d,t.s,f.c,f.d⟩ W1 ⟨HTF.out.2.2.2.1,HTF.out.2.2.2.2.1,HTF.out.2.2.2.2.2,HF.out.2.2.2.1,HF.out.2.2.2.2⟩ (HKN.out.below HB1.out)).mono ?_;rintro e w2 ⟨rfl,hb2⟩;have HB2:=ak (HB1.out.trans (hb2.mono HB1.out.size));have XN:Hid (w2.cell? ⟨w.heap.size,3,none⟩=some (.string f.c)/\w2.cell? ⟨w.heap.size,4,none⟩=some (.string f.d)/\w.heap.size<w2.heap.size):=⟨mK hb2 Yl.out.2.2 Yl.out.1,mK hb2 Yl.out.2.2 Yl.out.2.1,VY Yl.out.2.2 hb2.size⟩;clear hb2;cases hh:bY out ⟨t.c,t.d,t.s,f.c,f.d⟩;case true=>
   have HN:Hid (fG ts out f=true):=by show _=_;rw[HL.out,HD2.out,HTT.out,hh];rfl
   go_wp2;go_ret;exact⟨by rw[HN.out];rfl,HB2.out⟩
  have XA:Hid ((L.drop (k+1)).any (nZ out f)=L.any (nZ out f)):=by show _=_;rw[HD2.out,HTT.out,hh];rfl
  go_wp2;go_roundw;case rel=>exact⟨k+1,by omega,by go_num,XA,HB2,XN⟩
  simp[intOf]<;>omega
 have HN:Hid (fG ts out f=false):=by show _=_;rw[HL.out,<-HP.out,Ww (by omega)];rfl
 go_wp2;go_ret;exact⟨by rw[HN.out];rfl,HB.out⟩
theorem CF(hD:DatA w rs D br bp bt n1 nr Mr Er (dH ts) xo xu np Mp vo vu)(hK:aN kX prog 43 w bK nK (yI out))(x:ER)(hxf:x.e.over.size<=maxLen/\x.e.name.size<=maxLen)(hf:f.fits)(hts:∀t∈ts,t.fits)(htl:ts.length<=1000):
  Calls prog 219 #[.pointer (some ⟨D,0,none⟩),.agg #[.int .i64 x.e.kind,.slice x.adA x.e.allow.length x.capA,.string x.e.over,.string x.e.name,.slice x.adK x.e.kids.length x.capK],.agg #[.string f.a,.string f.b,.string f.r,.string f.c,.string f.d],.map (some bK)] w fun e w'=>e=.returned (.bool (gQ ts out x.e.over x.e.name f))/\af w w':=by
 obtain⟨kl,hkl⟩:=EE (f.a,f.b,x.e.over) hf.1 hf.2.1 hxf.1;obtain⟨adL,ZA,hgd,hsl⟩:=Ih hD.dat.told (f.a,f.b,x.e.over);have HL:=ak (KA ts out x.e.over x.e.name f);have hll:=Ij ts (f.a,f.b,x.e.over);have HFL:Hid (∀t∈G.lookL (dH ts) (f.a,f.b,x.e.over),t.fits):=fun t ht=>hts t (Ii ht);obtain⟨L,hLe⟩:∃L,L=G.lookL (dH ts) (f.a,f.b,x.e.over):=⟨_,rfl⟩;rw[<-hLe]at hgd hsl HL hll HFL;obtain⟨W0,hW0⟩:∃W0,W0=(w.alloc (.cells #[.int .i64 x.e.kind,.slice x.adA x.e.allow.length x.capA,.string x.e.over,.string x.e.name,.slice x.adK x.e.kids.length x.capK] 188)).alloc (.cells #[.string f.a,.string f.b,.string f.r,.string f.c,.string f.d] 43):=⟨_,rfl⟩;have HB0:Hid (af w W0):=by show Below _ _ _;rw[hW0];exact((V5 _ _).alloc (V4 _) _).alloc (by simp) _
 have c0:W0.cell? ⟨w.heap.size+1,0,none⟩=some (.string f.a):=by rw[hW0];simp
 have c1:W0.cell? ⟨w.heap.size+1,1,none⟩=some (.string f.b):=by rw[hW0];simp
 have c2:W0.cell? ⟨w.heap.size+1,2,none⟩=some (.string f.r):=by rw[hW0];simp
 have c3:W0.cell? ⟨w.heap.size+1,3,none⟩=some (.string f.c):=by rw[hW0];simp
 have c4:W0.cell? ⟨w.heap.size+1,4,none⟩=some (.string f.d):=by rw[hW0];simp
 have x2:W0.cell? ⟨w.heap.size,2,none⟩=some (.string x.e.over):=by rw[hW0];simp
 have x3:W0.cell? ⟨w.heap.size,3,none⟩=some (.string x.e.name):=by rw[hW0];simp
 have d3:=HB0.out.cell (p:=⟨D,3,none⟩) hD.dat.lt |>.trans hD.dat.c3;have hlk:∀m,(Instr.lookup 123 (.map (some bp)) (.agg #[.string f.a,.string f.b,.string x.e.over]) false).run prog (W0.drewN m)=.ok (.slice adL L.length ZA) (W0.drewN m):=fun m=>by
  have h:=((hD.dat.told.map.below HB0.out).below (below_drewN (V5 _ _) m)).look (t:=123) (e:=25) Tv underlying123 (Kc _) (x:=(f.a,f.b,x.e.over)) hkl;rw[hgd]at h;exact h
 have ZZ:=ak hsl;have HKN:=ak hK;have HF:=ak hf;have Zw:=ak hxf;have YG:Hid (W0.cell? ⟨w.heap.size+1,3,none⟩=some (.string f.c)/\W0.cell? ⟨w.heap.size+1,4,none⟩=some (.string f.d)/\W0.cell? ⟨w.heap.size,3,none⟩=some (.string x.e.name)/\w.heap.size+1<W0.heap.size):=⟨c3,c4,x3,by rw[hW0];simp⟩;clear hsl hK hf hLe hgd hkl;go_enter func219,ntmps219;go_wp2_with fail;rw[<-hW0];clear hW0;go_quiet (fail);clear c0 c1 c2 c3 c4 d3 x2 x3 hlk;go_wp2;go_loopw[22] (fun i wr=>∃k:Nat,k<=L.length/\i=.int .i64 k/\Hid ((L.drop k).any (wH out x.e.name f)=L.any (wH out x.e.name f))/\Hid (af w wr)/\Hid (wr.cell? ⟨w.heap.size+1,3,none⟩=some (.string f.c)/\wr.cell? ⟨w.heap.size+1,4,none⟩=some (.string f.d)/\wr.cell? ⟨w.heap.size,3,none⟩=some (.string x.e.name)/\w.heap.size+1<wr.heap.size)) (fun i _=>L.length-(intOf i).toNat);case atStart=>exact⟨0,Wd _,rfl,rfl,below_drewN HB0.out _,YG⟩
 clear YG HB0;obtain⟨k,hk,rfl,HP,HB,HC⟩:=hrel;by_cases hlt:k<L.length
 ·obtain⟨bT,offT,ZW,⟨a0,a1,a2,a3,a4,a5⟩,hbT⟩:=Sl.at0 (ZZ.out.below HB.out) hlt;obtain⟨c3,c4,x3,cl⟩:=HC.out;have cl0:w.heap.size<wr.heap.size:=by omega
  have hi1:=bC k;have hi2:(k:Int)<(L.length:Int):=by omega
  have HTF:=ak (HFL.out _ (VZ hlt));have HD2:Hid (L.any (wH out x.e.name f)=(wH out x.e.name f L[k] || (L.drop (k+1)).any (wH out x.e.name f))):=by show _=_;rw[<-HP.out];exact Ej _ hlt
  obtain⟨t,ht⟩:∃t,t=L[k]:=⟨_,rfl⟩;rw[<-ht]at a0 a1 a2 a3 a4 a5 HTF HD2;clear ht;obtain⟨W1,hW1⟩:∃W1,W1=wr.alloc (.cells #[.string t.a,.string t.b,.string t.r,.string t.c,.string t.d,.string t.s] 29):=⟨_,rfl⟩;have Yj:=nC hW1;have HB1:=ak (HB.out.trans (Yj.out.mono HB.out.size));have Yl:Hid (W1.cell? ⟨w.heap.size+1,3,none⟩=some (.string f.c)/\W1.cell? ⟨w.heap.size+1,4,none⟩=some (.string f.d)/\W1.cell? ⟨w.heap.size,3,none⟩=some (.string x.e.name)/\w.heap.size+1<W1.heap.size):=⟨mK Yj.out cl c3,mK Yj.out cl c4,mK Yj.out cl0 x3,VY cl Yj.out.size⟩;subst ZW;have HTT:Hid (wH out x.e.name f t=bY out ⟨t.c,t.d,x.e.name,f.c,f.d⟩):=rfl;go_wp2_with fail;rw[<-hW1];clear hW1;refine(rR bK nK out ⟨t.c,t.d,x.e.name,f.c,f.d⟩ W1 ⟨HTF.out.2.2.2.1,HTF.out.2.2.2.2.1,Zw.out.2,HF.out.2.2.2.1,HF.out.2.2.2.2⟩ (HKN.out.below HB1.out)).mono ?_;rintro e w2 ⟨rfl,hb2⟩;have HB2:=ak (HB1.out.trans (hb2.mono HB1.out.size));have XN:Hid (w2.cell? ⟨w.heap.size+1,3,none⟩=some (.string f.c)/\w2.cell? ⟨w.heap.size+1,4,none⟩=some (.string f.d)/\w2.cell? ⟨w.heap.size,3,none⟩=some (.string x.e.name)/\w.heap.size+1<w2.heap.size):=⟨mK hb2 Yl.out.2.2.2 Yl.out.1,mK hb2 Yl.out.2.2.2 Yl.out.2.1,mK hb2 (by have:=Yl.out.2.2.2;omega) Yl.out.2.2.1,VY Yl.out.2.2.2 hb2.size⟩;clear hb2;cases hh:bY out ⟨t.c,t.d,x.e.name,f.c,f.d⟩;case true=>
   have HN:Hid (gQ ts out x.e.over x.e.name f=true):=by show _=_;rw[HL.out,HD2.out,HTT.out,hh];rfl
   go_wp2;go_ret;exact⟨by rw[HN.out];rfl,HB2.out⟩
  have XA:Hid ((L.drop (k+1)).any (wH out x.e.name f)=L.any (wH out x.e.name f)):=by show _=_;rw[HD2.out,HTT.out,hh];rfl
  go_wp2;go_roundw;case rel=>exact⟨k+1,by omega,by go_num,XA,HB2,XN⟩
  simp[intOf]<;>omega
 have HN:Hid (gQ ts out x.e.over x.e.name f=false):=by show _=_;rw[HL.out,<-HP.out,Ww (by omega)];rfl
 go_wp2;go_ret;exact⟨by rw[HN.out];rfl,HB.out⟩
end
structure ZI(rows:Q08):Prop where
 len:rows.length<=1000
 kids:∀q∈rows,q.e.kids.length<=1000
 low:LA (aj rows)
 two:∀e∈aj rows,e.kind=6->2<=e.kids.length
theorem ZI.kid{rows:Q08}(h:ZI rows){n:Nat}(hn:n<rows.length){i:Int}(hi:i∈rows[n].e.kids):0<=i/\i<(n:Int):=by
 have:=h.low n (by rw[bf];exact hn) i;have e:(aj rows)[n]'(by rw[bf];exact hn)=rows[n].e:=by simp[aj]
 rw[e]at this;exact this hi
theorem yJ(v0:Value)(Y6:Q02)(YL:Nat)(ts:Q05)(Xw:Q02)(capE:Nat)(rows:Q08)(Y7:Q02)(YM:Nat)(truth:Q04)(f:Fc)(htl:ts.length<=1048576)(hN:ZI rows)(htr:truth.length<=1048576):
  ∀(k n:Nat) (adK:Q02) (capK:Nat) (known:Q04) (w:World),n<k->n<rows.length->known.length<=1048576->HW w Y6 ts Xw rows adK known Y7 truth ->
  Calls prog 119 #[v0,.slice Y6 ts.length YL,.slice Xw rows.length capE,.int .i64 (n:Int),.slice adK known.length capK,.slice Y7 truth.length YM,.agg #[.string f.a,.string f.b,.string f.r,.string f.c,.string f.d]] w fun e w'=>e=.returned (.bool (jI ts (aj rows) truth f k known n))/\af w w'
 | 0,_,_,_,_,_,h,_,_,_=>absurd h (Xg _)
 | k+1,n,adK,capK,known,w,hk,hn,hkn,hW=>by
  have e:(aj rows)[n]?=some rows[n].e:=by simp[aj,hn]
  have Zc:∀(adK':Q02) (capK':Nat) (known':Q04),known'.length<=1048576->HW w Y6 ts Xw rows adK' known' Y7 truth->∀i∈rows[n].e.kids,QC v0 (.slice Y6 ts.length YL) (.slice Xw rows.length capE) (.slice adK' known'.length capK') (.slice Y7 truth.length YM) f w i (jI ts (aj rows) truth f k known' i.toNat):=fun adK' capK' known' hl hW' i hi w1 hb1=>by
   have h1:=hN.kid hn hi;have h2:=yJ v0 Y6 YL ts Xw capE rows Y7 YM truth f htl hN htr k i.toNat adK' capK' known' w1 (by omega) (by omega) hl (hW'.below hb1);have e2:((i.toNat:Nat):Int)=i:=by omega
   rw[e2]at h2;exact h2
  unfold jI;rw[e];have hm:rows[n]∈rows:=VZ hn;have hme:rows[n].e∈aj rows:=Wp.2 ⟨_,hm,rfl⟩;by_cases k1:rows[n].e.kind=1
  ·simp only[if_pos k1];exact FJ v0 Y6 YL ts Xw capE rows n adK capK known Y7 YM truth f w hW hn hN.len hkn htl k1
  by_cases k2:rows[n].e.kind=2
  ·simp only[if_neg k1,if_pos k2];exact H8 v0 Y6 YL ts Xw capE rows n adK capK known Y7 YM truth f w hW hn hN.len hkn k2
  by_cases k3:rows[n].e.kind=3
  ·simp only[if_neg k1,if_neg k2,if_pos k3];exact FH v0 Y6 YL ts Xw capE rows n adK capK known Y7 YM truth f w hW hn hN.len hkn htl k3
  by_cases k4:rows[n].e.kind=4
  ·simp only[if_neg k1,if_neg k2,if_neg k3,if_pos k4];exact CB (fun i=>jI ts (aj rows) truth f k known i.toNat) v0 _ Xw capE rows n _ _ f w hW.ex hn hN.len (hN.kids _ hm) k4 (Zc adK capK known hkn hW)
  by_cases k5:rows[n].e.kind=5
  ·simp only[if_neg k1,if_neg k2,if_neg k3,if_neg k4,if_pos k5];exact FK (fun i=>jI ts (aj rows) truth f k known i.toNat) v0 _ Xw capE rows n _ _ f w hW.ex hn hN.len (hN.kids _ hm) k5 (Zc adK capK known hkn hW)
  by_cases k6:rows[n].e.kind=6
  ·simp only[if_neg k1,if_neg k2,if_neg k3,if_neg k4,if_neg k5,if_pos k6];have h2:=hN.two _ hme k6;have hg:∀q,q<2->rows[n].e.kids.getD q 0∈rows[n].e.kids:=fun q hq=>by
    rw[Xd,Wm (by omega)];exact VZ _
   exact H9 _ _ v0 _ Xw capE rows n _ _ f w hW.ex hn hN.len (hN.kids _ hm) h2 k6 (Zc adK capK known hkn hW _ (hg 0 (by omega))) (Zc Y7 YM truth htr ⟨hW.tup,hW.ex,hW.tr,hW.tr⟩ _ (hg 1 (by omega)))
  simp only[if_neg k1,if_neg k2,if_neg k3,if_neg k4,if_neg k5,if_neg k6];exact Kv v0 Y6 YL ts Xw capE rows n _ _ f w hW.ex hn hN.len k1 k2 k3 k4 k5 k6
def zb(B:Nat):Value:=.func (Fn.func 216) #[] #[.pointer (some ⟨B,0,none⟩),.pointer (some ⟨B+1,0,none⟩),.pointer (some ⟨B+1+1,0,none⟩),.pointer (some ⟨B+1+1+1,0,none⟩)]
def IX(w:World)(D:Nat)(vE:Value)(f:Fc)(bK:Nat)(x:ER):World :=
 (((((w.alloc (.cells #[.pointer (some ⟨D,0,none⟩)] 82)).alloc (.cells #[vE] 147)).alloc (.cells #[.string f.a,.string f.b,.string f.r,.string f.c,.string f.d] 43)).alloc (.cells #[.map (some bK)] 117)).alloc (.cells #[.int .i64 x.e.kind,.slice x.adA x.e.allow.length x.capA,.string x.e.over,.string x.e.name,.slice x.adK x.e.kids.length x.capK] 188)).alloc (.cells #[zb w.heap.size] 312)
structure NdB(w:World)(B D:Nat)(vE:Value)(f:Fc)(bK:Nat)(x:ER):Prop where
 lt:B+1+1+1+1+1<w.heap.size
 d:w.cell? ⟨B,0,none⟩=some (.pointer (some ⟨D,0,none⟩))
 e:w.cell? ⟨B+1,0,none⟩=some vE
 f0:w.cell? ⟨B+1+1,0,none⟩=some (.string f.a)
 f1:w.cell? ⟨B+1+1,1,none⟩=some (.string f.b)
 f2:w.cell? ⟨B+1+1,2,none⟩=some (.string f.r)
 f3:w.cell? ⟨B+1+1,3,none⟩=some (.string f.c)
 f4:w.cell? ⟨B+1+1,4,none⟩=some (.string f.d)
 k:w.cell? ⟨B+1+1+1,0,none⟩=some (.map (some bK))
 x0:w.cell? ⟨B+1+1+1+1,0,none⟩=some (.int .i64 x.e.kind)
 x1:w.cell? ⟨B+1+1+1+1,1,none⟩=some (.slice x.adA x.e.allow.length x.capA)
 x2:w.cell? ⟨B+1+1+1+1,2,none⟩=some (.string x.e.over)
 x3:w.cell? ⟨B+1+1+1+1,3,none⟩=some (.string x.e.name)
 x4:w.cell? ⟨B+1+1+1+1,4,none⟩=some (.slice x.adK x.e.kids.length x.capK)
 v:w.cell? ⟨B+1+1+1+1+1,0,none⟩=some (zb B)
theorem NdB.below{w w':ae}{B D:Nat}{vE:Value}{f:Fc}{bK:Nat}{x:ER}(h:NdB w B D vE f bK x)(hB:af w w'):NdB w' B D vE f bK x:=by
 have hl:=h.lt;have c:∀i o,i<=5->w'.cell? ⟨B+i,o,none⟩=w.cell? ⟨B+i,o,none⟩:=fun i o hi=>hB.cell (p:=⟨B+i,o,none⟩) (show B+i<_ by omega);have c0:∀o,w'.cell? ⟨B,o,none⟩=w.cell? ⟨B,o,none⟩:=fun o=>hB.cell (p:=⟨B,o,none⟩) (show B<_ by omega);exact⟨VY hl hB.size,(c0 _).trans h.d,(c 1 _ (by omega)).trans h.e,(c 2 _ (by omega)).trans h.f0,(c 2 _ (by omega)).trans h.f1,(c 2 _ (by omega)).trans h.f2,(c 2 _ (by omega)).trans h.f3,(c 2 _ (by omega)).trans h.f4,(c 3 _ (by omega)).trans h.k,(c 4 _ (by omega)).trans h.x0,(c 4 _ (by omega)).trans h.x1,(c 4 _ (by omega)).trans h.x2,(c 4 _ (by omega)).trans h.x3,(c 4 _ (by omega)).trans h.x4,(c 5 _ (by omega)).trans h.v⟩
theorem mg(w:ae)(D:Nat)(vE:Value)(f:Fc)(bK:Nat)(x:ER):af w (IX w D vE f bK x):=by
 unfold IX;exact((((((V5 _ _).alloc (V4 _) _).alloc (by simp) _).alloc (by simp;omega) _).alloc (by simp;omega) _).alloc (by simp;omega) _).alloc (by simp;omega) _
theorem pE(w:ae)(cs:Array Value)(T:TypeId)(o:Nat):(w.alloc (.cells cs T)).cell? ⟨w.heap.size,o,none⟩=cs[o]?:=World.cell?_alloc_mark w cs T (0,0) o
theorem mh(w:ae)(D:Nat)(vE:Value)(f:Fc)(bK:Nat)(x:ER):NdB (IX w D vE f bK x) w.heap.size D vE f bK x:=by
 unfold IX;obtain⟨w1,h1⟩:∃u,u=w.alloc (.cells #[.pointer (some ⟨D,0,none⟩)] 82):=⟨_,rfl⟩;have s1:w1.heap.size=w.heap.size+1:=by rw[h1,World.size_alloc]
 have b1:af w w1:=by rw[h1];exact(V5 _ _).alloc (V4 _) _
 obtain⟨w2,h2⟩:∃u,u=w1.alloc (.cells #[vE] 147):=⟨_,rfl⟩;have s2:w2.heap.size=w.heap.size+1+1:=by rw[h2,World.size_alloc,s1]
 have b2:af w1 w2:=by rw[h2];exact(V5 _ _).alloc (V4 _) _
 obtain⟨w3,h3⟩:∃u,u=w2.alloc (.cells #[.string f.a,.string f.b,.string f.r,.string f.c,.string f.d] 43):=⟨_,rfl⟩;have s3:w3.heap.size=w.heap.size+1+1+1:=by rw[h3,World.size_alloc,s2]
 have b3:af w2 w3:=by rw[h3];exact(V5 _ _).alloc (V4 _) _
 obtain⟨w4,h4⟩:∃u,u=w3.alloc (.cells #[.map (some bK)] 117):=⟨_,rfl⟩;have s4:w4.heap.size=w.heap.size+1+1+1+1:=by rw[h4,World.size_alloc,s3]
 have b4:af w3 w4:=by rw[h4];exact(V5 _ _).alloc (V4 _) _
 obtain⟨w5,h5⟩:∃u,u=w4.alloc (.cells #[.int .i64 x.e.kind,.slice x.adA x.e.allow.length x.capA,.string x.e.over,.string x.e.name,.slice x.adK x.e.kids.length x.capK] 188):=⟨_,rfl⟩;have s5:w5.heap.size=w.heap.size+1+1+1+1+1:=by rw[h5,World.size_alloc,s4]
 have b5:af w4 w5:=by rw[h5];exact(V5 _ _).alloc (V4 _) _
 obtain⟨w6,h6⟩:∃u,u=w5.alloc (.cells #[zb w.heap.size] 312):=⟨_,rfl⟩;have s6:w6.heap.size=w.heap.size+1+1+1+1+1+1:=by rw[h6,World.size_alloc,s5]
 have b6:af w5 w6:=by rw[h6];exact(V5 _ _).alloc (V4 _) _
 rw[<-h1,<-h2,<-h3,<-h4,<-h5,<-h6];have c0:∀o,w6.cell? ⟨w.heap.size,o,none⟩=(#[.pointer (some ⟨D,0,none⟩)]:Array Value)[o]?:=fun o=>by
  have e:w1.cell? ⟨w.heap.size,o,none⟩=(#[.pointer (some ⟨D,0,none⟩)]:Array Value)[o]?:=by rw[h1];exact pE _ _ _ o
  rw[b6.cell (p:=⟨w.heap.size,o,none⟩) (show w.heap.size<_ by omega),b5.cell (p:=⟨w.heap.size,o,none⟩) (show w.heap.size<_ by omega),b4.cell (p:=⟨w.heap.size,o,none⟩) (show w.heap.size<_ by omega),b3.cell (p:=⟨w.heap.size,o,none⟩) (show w.heap.size<_ by omega),b2.cell (p:=⟨w.heap.size,o,none⟩) (show w.heap.size<_ by omega)];exact e
 have c1:∀o,w6.cell? ⟨w.heap.size+1,o,none⟩=(#[vE]:Array Value)[o]?:=fun o=>by
  have e:w2.cell? ⟨w.heap.size+1,o,none⟩=(#[vE]:Array Value)[o]?:=by rw[h2,<-s1];exact pE _ _ _ o
  rw[b6.cell (p:=⟨w.heap.size+1,o,none⟩) (show w.heap.size+1<_ by omega),b5.cell (p:=⟨w.heap.size+1,o,none⟩) (show w.heap.size+1<_ by omega),b4.cell (p:=⟨w.heap.size+1,o,none⟩) (show w.heap.size+1<_ by omega),b3.cell (p:=⟨w.heap.size+1,o,none⟩) (show w.heap.size+1<_ by omega)];exact e
 have c2:∀o,w6.cell? ⟨w.heap.size+1+1,o,none⟩=(#[.string f.a,.string f.b,.string f.r,.string f.c,.string f.d]:Array Value)[o]?:=fun o=>by
  have e:w3.cell? ⟨w.heap.size+1+1,o,none⟩=(#[.string f.a,.string f.b,.string f.r,.string f.c,.string f.d]:Array Value)[o]?:=by rw[h3,<-s2];exact pE _ _ _ o
  rw[b6.cell (p:=⟨w.heap.size+1+1,o,none⟩) (show w.heap.size+1+1<_ by omega),b5.cell (p:=⟨w.heap.size+1+1,o,none⟩) (show w.heap.size+1+1<_ by omega),b4.cell (p:=⟨w.heap.size+1+1,o,none⟩) (show w.heap.size+1+1<_ by omega)];exact e
 have c3:∀o,w6.cell? ⟨w.heap.size+1+1+1,o,none⟩=(#[.map (some bK)]:Array Value)[o]?:=fun o=>by
  have e:w4.cell? ⟨w.heap.size+1+1+1,o,none⟩=(#[.map (some bK)]:Array Value)[o]?:=by rw[h4,<-s3];exact pE _ _ _ o
  rw[b6.cell (p:=⟨w.heap.size+1+1+1,o,none⟩) (show w.heap.size+1+1+1<_ by omega),b5.cell (p:=⟨w.heap.size+1+1+1,o,none⟩) (show w.heap.size+1+1+1<_ by omega)];exact e
 have c4:∀o,w6.cell? ⟨w.heap.size+1+1+1+1,o,none⟩=(#[.int .i64 x.e.kind,.slice x.adA x.e.allow.length x.capA,.string x.e.over,.string x.e.name,.slice x.adK x.e.kids.length x.capK]:Array Value)[o]?:=fun o=>by
  have e:w5.cell? ⟨w.heap.size+1+1+1+1,o,none⟩=(#[.int .i64 x.e.kind,.slice x.adA x.e.allow.length x.capA,.string x.e.over,.string x.e.name,.slice x.adK x.e.kids.length x.capK]:Array Value)[o]?:=by rw[h5,<-s4];exact pE _ _ _ o
  rw[b6.cell (p:=⟨w.heap.size+1+1+1+1,o,none⟩) (show w.heap.size+1+1+1+1<_ by omega)];exact e
 have c5:∀o,w6.cell? ⟨w.heap.size+1+1+1+1+1,o,none⟩=(#[zb w.heap.size]:Array Value)[o]?:=fun o=>by
  have e:w6.cell? ⟨w.heap.size+1+1+1+1+1,o,none⟩=(#[zb w.heap.size]:Array Value)[o]?:=by rw[h6,<-s5];exact pE _ _ _ o
  exact e
 exact⟨by omega,c0 0,c1 0,c2 0,c2 1,c2 2,c2 3,c2 4,c3 0,c4 0,c4 1,c4 2,c4 3,c4 4,c5 0⟩
def KG(D:Nat)(vE:Value)(f:Fc)(bK:Nat)(w:World)(i:Int)(b:Bool):Prop:=∀w1:World,af w w1->Calls prog 183 #[.pointer (some ⟨D,0,none⟩),vE,.int .i64 i,.agg #[.string f.a,.string f.b,.string f.r,.string f.c,.string f.d],.map (some bK)] w1 fun e w'=>e=.returned (.bool b)/\af w1 w'
theorem qx{w w1:ae}{B D:Nat}{vE:Value}{f:Fc}{bK:Nat}{x:ER}{i:Int}{b:Bool}(hK:KG D vE f bK w i b)(hb:af w w1)(hB:NdB w1 B D vE f bK x):
  Calls prog 216 #[.int .i64 i,.pointer (some ⟨B,0,none⟩),.pointer (some ⟨B+1,0,none⟩),.pointer (some ⟨B+1+1,0,none⟩),.pointer (some ⟨B+1+1+1,0,none⟩)] w1 fun e w'=>e=.returned (.bool b)/\af w1 w':=by
 have HC:=ak (hK w1 hb);obtain⟨-,d,e,f0,f1,f2,f3,f4,k,-⟩:=hB;clear hK;go_enter func216,ntmps216;go_wp2_with fail;refine HC.out.mono ?_;rintro e w2 ⟨rfl,hb2⟩;have HB:=ak hb2;clear hb2;go_wp2;go_ret;exact⟨rfl,HB.out⟩
theorem wI{w w1:ae}{B D:Nat}{vE:Value}{f:Fc}{bK:Nat}{x:ER}{i:Int}{b:Bool}(hK:KG D vE f bK w i b)(hb:af w w1)(hB:NdB w1 B D vE f bK x):
  Calls prog 217 #[.int .i64 i,.pointer (some ⟨B+1+1+1+1+1,0,none⟩)] w1 fun e w'=>e=.returned (.bool (!b))/\af w1 w':=by
 have HC:=ak (qx hK hb hB);have hv:=hB.v;unfold zb at hv;clear hK hB;go_enter func217,ntmps217;go_wp2_with fail;refine HC.out.mono ?_;rintro e w2 ⟨rfl,hb2⟩;have HB:=ak hb2;clear hb2;go_wp2;go_ret;exact⟨rfl,HB.out⟩
theorem UG(xs:Array Value)(u:ae):(callFunc 216 xs).run prog u=.ok (.enter 216 xs) u:=by kernel_rfl
theorem UH(xs:Array Value)(u:ae):(callFunc 217 xs).run prog u=.ok (.enter 217 xs) u:=by kernel_rfl
theorem NN(p:Int->Bool){zs:List Int}{k:Nat}(h:k<zs.length):(zs.drop k).any p=(p zs[k] || (zs.drop (k+1)).any p):=by rw[WC h];rfl
theorem KH(FC:Nat)(rc cp:Array Value)(p:Int->Bool)(ad:Q02)(cap:Nat)(xs:List Int)(w:ae)(hlen:xs.length<=1048576)(hs:wS w ad xs)
  (hrun:∀(ys:Array Value) (u:World),(callFunc FC ys).run prog u=.ok (.enter FC ys) u) (hp:∀x∈xs,∀w1:World,af w w1->Calls prog FC (rc.push (.int .i64 x)++cp) w1 fun e w'=>e=.returned (.bool (p x))/\af w1 w') :
  Calls prog 235 #[.slice ad xs.length cap,.func (Fn.func FC) rc cp] w fun e w'=>(∃r:Int,e=.returned (.int .i64 r)/\decide (0<=r)=xs.any p)/\af w w':=by
 have HS:=ak hs;have HRUN:=ak hrun;have HP:=ak hp;clear hs hrun hp;have HD:Hid (∀k (h:k<xs.length),(xs.drop k).any p=(p xs[k] || (xs.drop (k+1)).any p)):=fun k h=>NN p h;go_enter func235,ntmps235;go_wp2_with fail;go_loopw[8] (fun i wr=>∃k:Nat,k<=xs.length/\i=.int .i64 k/\Hid ((xs.drop k).any p=xs.any p)/\Hid (af w wr)) (fun i _=>xs.length-(intOf i).toNat);case atStart=>exact⟨0,Wd _,rfl,rfl,V5 _ _⟩
 obtain⟨k,hk,rfl,HQ,HB⟩:=hrel;by_cases hlt:k<xs.length
 ·obtain⟨b,off,Xx,t0,hbl⟩:=wS.at0 (HS.out.below HB.out) hlt;have HM:Hid (xs[k]∈xs):=VZ hlt;have hk1:=bC k;have hk2:(k:Int)<(xs.length:Int):=by omega
  have HD2:=ak (HD.out k hlt);subst Xx;go_wp2_with fail;rw[HRUN.out,Oper.upon_enter];refine(HP.out _ HM.out _ HB.out).mono ?_;rintro e w1 ⟨rfl,hb1⟩;have HB1:=kv HB hb1;clear hb1 t0;cases he:p xs[k];case true=>
   have HN:Hid (xs.any p=true):=by show _=_;rw[<-HQ.out,HD2.out,he];rfl
   go_wp2;go_ret;exact⟨⟨k,rfl,by rw[HN.out];simp⟩,HB1.out⟩
  have HQ2:Hid ((xs.drop (k+1)).any p=xs.any p):=by show _=_;rw[<-HQ.out,HD2.out,he];rfl
  go_wp2;go_roundw;case rel=>exact⟨k+1,by omega,by go_num,HQ2,HB1⟩
  simp[intOf]<;>omega
 have HN:Hid (xs.any p=false):=by show _=_;rw[<-HQ.out,Ww (by omega)];rfl
 go_wp2;go_ret;exact⟨⟨-1,rfl,by rw[HN.out];simp⟩,HB.out⟩
theorem uf(FC:Nat)(rc cp:Array Value)(p:Int->Bool)(ad:Q02)(cap:Nat)(xs:List Int)(w:ae)(hlen:xs.length<=1048576)(hs:wS w ad xs)
  (hrun:∀(ys:Array Value) (u:World),(callFunc FC ys).run prog u=.ok (.enter FC ys) u) (hp:∀x∈xs,∀w1:World,af w w1->Calls prog FC (rc.push (.int .i64 x)++cp) w1 fun e w'=>e=.returned (.bool (p x))/\af w1 w') :
  Calls prog 220 #[.slice ad xs.length cap,.func (Fn.func FC) rc cp] w fun e w'=>e=.returned (.bool (xs.any p))/\af w w':=by
 have HC:=ak (KH FC rc cp p ad cap xs w hlen hs hrun hp);clear hs hrun hp;go_enter func220,ntmps220;go_wp2_with fail;refine HC.out.mono ?_;rintro e w' ⟨⟨r,rfl,hr⟩,hbx⟩;have HR:=ak hr;clear hr;go_wp2;go_ret;exact⟨by rw[<-HR.out];rfl,hbx⟩
set_option linter.unusedSectionVars false
def kY(sts:List St)(xu:Q0a)(n:Int)(o:Al)(k:Nat):List Fc:=((sts.take k).filter fun s=>s.typ.toList==o.t.toList&&decide (s.n=n)).flatMap fun s=>jO o s.rel xu
def UI(sts:List St)(xu:Q0a)(n:Int)(o:Al):List Fc:=kY sts xu n o sts.length
def tJ(sts:List St)(xo xu:Q0a)(n:Int)(i:Nat):List Fc:=(xo.take i).flatMap (UI sts xu n)
theorem NP(sts:List St)(xu:Q0a)(n:Int)(o:Al):kY sts xu n o 0=[]:=rfl
theorem SG{sts:List St}{xu:Q0a}{n:Int}{o:Al}{k:Nat}(h:k<sts.length)(hc:(sts[k].typ.toList==o.t.toList&&decide (sts[k].n=n))=false):kY sts xu n o (k+1)=kY sts xu n o k:=by
 unfold kY;rw[V8 h,Xn,WP];simp[hc]
theorem QM{sts:List St}{xu:Q0a}{n:Int}{o:Al}{k:Nat}(h:k<sts.length)(hc:(sts[k].typ.toList==o.t.toList&&decide (sts[k].n=n))=true):kY sts xu n o (k+1)=kY sts xu n o k++jO o sts[k].rel xu:=by
 unfold kY;rw[V8 h,Xn,WP];simp[hc]
theorem NQ{sts:List St}{xo xu:Q0a}{n:Int}{i:Nat}(h:i<xo.length):tJ sts xo xu n (i+1)=tJ sts xo xu n i++kY sts xu n xo[i] sts.length:=by
 unfold tJ;rw[V8 h,WP];simp[UI]
theorem QN{ts:Q0b}{sts:List St}(hk:iK sts=au ts)(hn:(au ts).Nodup)(xo xu:Q0a)(n:Int):tJ sts xo xu n xo.length=dw ts (fO sts) xo xu n:=by
 unfold tJ dw;rw[Wo];congr 1
 funext o
 unfold UI kY yZ;rw[Wo,SE hk hn,List.flatMap_map];rfl
theorem NR(o:Al)(rel:bZ){xu:Q0a}{j:Nat}(h:j<xu.length):jO o rel (xu.take (j+1))=jO o rel (xu.take j)++[⟨o.t,o.s,rel,xu[j].t,xu[j].s⟩]:=by
 unfold jO;rw[V8 h,Xb];rfl
theorem BU{e:Ex}(h:ay e=true):e.kids.length<=5/\(e.kind=6->2<=e.kids.length):=by
 unfold ay at h;by_cases k1:e.kind=1
 ·rw[if_pos k1]at h;simp only[V9,Wn]at h;exact⟨by omega,fun h6=>by omega⟩
 by_cases k2:e.kind=2
 ·rw[if_neg k1,if_pos k2]at h;simp only[V9,Wn]at h;exact⟨by omega,fun h6=>by omega⟩
 by_cases k3:e.kind=3
 ·rw[if_neg k1,if_neg k2,if_pos k3]at h;simp only[V9,Wn]at h;exact⟨by omega,fun h6=>by omega⟩
 by_cases k4:e.kind=4\/e.kind=5
 ·rw[if_neg k1,if_neg k2,if_neg k3,if_pos k4]at h;simp only[V9,Wn]at h;exact⟨by omega,fun h6=>by omega⟩
 by_cases k6:e.kind=6
 ·rw[if_neg k1,if_neg k2,if_neg k3,if_neg k4,if_pos k6]at h;simp only[V9,Wn]at h;exact⟨by omega,fun h6=>by omega⟩
 rw[if_neg k1,if_neg k2,if_neg k3,if_neg k4,if_neg k6]at h;cases h
theorem LH{rows:Q08}(h:aP (aj rows)=true):ZI rows/\1<=rows.length:=by
 have hl:1<=rows.length/\rows.length<=15:=by
  unfold aP at h;simp only[V9,Wn,bf]at h;exact⟨h.1.1.1.1.1,h.1.1.1.1.2⟩
 have hlow:=JP h;have hkl:∀q∈rows,q.e.kids.length<=1000:=fun q hq=>by
  have:=(BU (jr h q.e (Wp.2 ⟨q,hq,rfl⟩))).1;omega
 refine⟨⟨by omega,hkl,hlow,fun e he h6=>?_⟩,hl.1⟩;exact(BU (jr h e he)).2 h6
section
variable  [DecidableEq Fc]
theorem sV(H:List Fc->Fc->Bool)(qs:Q04)(f:Fc)(out:Q04):bW H (qs++[f]) out=fZ H (bW H qs out) f:=by rw[Gc];rfl
theorem wJ{H:List Fc->Fc->Bool}{out:Q04}{f:Fc}(h:bY out f=true\/H out f=false):fZ H out f=out:=by
 unfold fZ;rw[if_pos];rcases h with h|h
 ·exact .inl (fF.1 h)
 exact .inr h
theorem El{H:List Fc->Fc->Bool}{out:Q04}{f:Fc}(h1:bY out f=false)(h2:H out f=true):fZ H out f=out++[f]:=by
 unfold fZ;rw[if_neg];rintro(h|h)
 ·rw[fF.2 h]at h1;cases h1
 rw[h2]at h;cases h
theorem Ik(H:List Fc->Fc->Bool)(qs out:Q04):out.length<=(bW H qs out).length:=by
 obtain⟨n,e,-⟩:=kL (H:=H) qs out;rw[e,Wi];omega
theorem KI{H:List Fc->Fc->Bool}{qs out:Q04}(h:decide (out.length<(bW H qs out).length)=false):bW H qs out=out:=by
 obtain⟨n,e,-⟩:=kL (H:=H) qs out;rw[e,Wi,decide_eq_false_iff_not]at h;have:n=[]:=Wu.1 (by omega);rw[e,this,WS]
end
end Go.Proofs.YtcgdckphpjfmhaaGreatDoor
