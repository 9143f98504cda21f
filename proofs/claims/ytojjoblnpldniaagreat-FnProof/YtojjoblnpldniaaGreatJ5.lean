/- What a change of some blocks leaves as it was; the text of a mark. -/
import Derived.Test.YtojjoblnpldniaaGreatSq
import Derived.Test.YtojjoblnpldniaaGreatJ2
import Derived.Lib.Join
import Derived.Deep.AppendLies
import Derived.Deep.DrawnRows
import Derived.Test.YtojjoblnpldniaaGreatShelf
import Derived.Sort.Statements
import Derived.RangeFuncNested
open Go.Proofs.Tryz
set_option maxHeartbeats 80000000
set_option linter.defProp false
namespace Go.Proofs.YtojjoblnpldniaaGreat
open ChangeShapes WideShapes ChangeAt RowKit
def mO{w:ag}{g i j:Nat}{v:Value}(h:i≠j):(w.setCell (ap g i) v).cell? (ap g j)=w.cell? (ap g j):=by
 apply World.cell?_setCell_other;intro e;exact h<|congrArg Addr.off e
def mS{w:ag}{a:Addr}{v u:Value}(h:w.cell? a=some u):(w.setCell a v).cell? a=some v:=by
 apply World.cell?_setCell_same;exact h
def mK{W w1:ag}{n o:Nat}{v:Value}(hb:ae W w1)(hn:n<W.heap.size)(h:W.cell? ⟨n,o,none⟩=some v):w1.cell? ⟨n,o,none⟩=some v:=by
 rw[hb.cell (p:=⟨n,o,none⟩) hn];exact h
def nu(w:World)(g:Nat):Prop:=∀j,w.frozen? ⟨g,j,none⟩=false
structure Chg(S:Nat->Prop)(w w':World):Prop where
 base:Below 0 w w'
 block:∀k,k<w.heap.size->¬S k->w'.heap[k]?=w.heap[k]?
 free:∀g,g<w.heap.size->nu w g->nu w' g
def Chg.refl(S:Nat->Prop)(w:ag):Chg S w w:=⟨XL _ _,fun _ _ _=>rfl,fun _ _ h=>h⟩
def Chg.size{S:Nat->Prop}{w w':ag}(h:Chg S w w'):w.heap.size<=w'.heap.size:=h.base.size
def Chg.trans{S:Nat->Prop}{a b c:ag}(h:Chg S a b)(k:Chg S b c):Chg S a c :=
 ⟨h.base.trans k.base,fun i hi hs=>(k.block i (XJ hi h.size) hs).trans<|h.block i hi hs,fun g hg hf=>k.free g (XJ hg h.size)<|h.free g hg hf⟩
def Chg.mono{S T:Nat->Prop}{a b:ag}(h:Chg S a b)(hs:∀g,S g->T g):Chg T a b :=
 ⟨h.base,fun i hi hn=>h.block i hi fun e=>hn<|hs i e,h.free⟩
def Chg.set{S:Nat->Prop}{w:ag}{g j:Nat}(v:Value)(hs:S g):Chg S w (w.setCell (ap g j) v) :=
 ⟨(XL 0 w).setCell (XP _) v,fun k _ hk=>Below.heap_setCell _ _ _ _ fun e=>hk<|by rw[e];exact hs,fun g' _ hf j'=>by simpa using hf j'⟩
def Chg.below{S:Nat->Prop}{w w':ag}{m:Nat}(h:Chg S w w')(hm:∀g,S g->m<=g)(hw:cV m w):Below m w w' :=
 ⟨h.base.os,h.base.tape,h.base.output,h.base.size,fun k hk=>h.block k (XJ hk hw) fun e=>by have:=hm k e;omega⟩
def Chg.cell{S:Nat->Prop}{w w':ag}(h:Chg S w w'){g o:Nat}(hg:cW g w)(hs:¬S g):w'.cell? (ap g o)=w.cell? (ap g o):=by
 have:=h.block g hg hs;unfold World.cell?;simp only[this]
open Pl
def jM{a b:ByteArray}(h:a.data.toList=b.data.toList):a=b:=by
 cases a;cases b;congr;exact Array.toList_inj.1 h
def gp(sep:ByteArray)(xs:List ByteArray):ByteArray:=⟨(Lib.join (xs.map (·.data.toList)) sep.data.toList).toArray⟩
theorem ES(sep:dw):gp sep []=⟨#[]⟩:=rfl
def inter_snoc{α:Type}(s:List α):∀(l:List<|List α) (x:List α),s.intercalate (l++[x])=if l=[] then x else s.intercalate l++(s++x)
 | [],x=>by simp[List.intercalate]
 | [a],x=>by simp[List.intercalate]
 | a::b::l,x=>by
  have ih:=inter_snoc s (b::l) x;simp only[Yz,List.intercalate,List.intersperse,reduceCtorEq,if_false]at ih ⊢;simp only[List.flatten_cons]at ih ⊢;rw[ih];simp
def qp(sep:dw)(xs:List ByteArray)(x:dw):gp sep (xs++[x])=if xs=[] then x else gp sep xs++sep++x:=by
 apply jM;unfold gp Lib.join;rw[YF,YT,List.map_nil,inter_snoc];by_cases h:xs=[]
 ·simp[h]
 simp[h,ByteArray.data_append]
def qw(sep:dw)(b:Nat):∀(n:Nat) (xs:List ByteArray),xs.length=n->(∀x∈xs,x.size<=b)->(gp sep xs).size<=n*(b+sep.size)
 | 0,xs,hn,_=>by
  have:xs=[]:=List.eq_nil_of_length_eq_zero hn;subst this;simp[ES];rfl
 | n+1,xs,hn,hx=>by
  obtain⟨ys,y,rfl⟩:∃ys y,xs=ys++[y]:=by
   have hne:xs≠[]:=by intro e;simp[e]at hn
   exact⟨xs.dropLast,xs.getLast hne,(List.dropLast_concat_getLast hne).symm⟩
  have hl:ys.length=n:=by simp at hn;exact hn
  have ih:=qw sep b n ys hl (fun x h=>hx x<|by simp[h]);have hy:=hx y ct;rw[qp,Nat.succ_mul];by_cases h:ys=[]
  ·rw[if_pos h];omega
  rw[if_neg h,Yb,Yb];omega
def gF(a:Al):ByteArray:=if a.s.toList.isEmpty then a.t else a.t++⟨#[35]⟩++a.s
def wM(xs:Q0a):ByteArray:=⟨#[116,104,105,115,40]⟩++gp ⟨#[44]⟩ (xs.map gF)++⟨#[41]⟩
def iB(k:Int):ByteArray:=if k=4 then ⟨#[32,124,32]⟩ else if k=5 then ⟨#[32,38,32]⟩ else ⟨#[32,45,32]⟩
def ny(k:Int):(iB k).size=3:=by
 unfold iB;split
 ·rfl
 split<;>rfl
def nz(f:Int->ByteArray)(e:Ex):ByteArray :=
 if e.kind=1 then wM e.allow else if e.kind=2 then e.name else if e.kind=3 then e.over++⟨#[45,62]⟩++e.name else gp (iB e.kind) (e.kids.map f)
def inT(e:Ex)(inside:Bool)(t:ByteArray):ByteArray:=if inside && !(decide (e.kind=1) || decide (e.kind=2) || decide (e.kind=3)) then ⟨#[40]⟩++t++⟨#[41]⟩ else t
def Gt(es:Q09)(n:Nat):Ex:=es[n]?.getD ⟨0,[],⟨#[]⟩,⟨#[]⟩,[]⟩
def txt(es:Q09)(n:Nat):ByteArray:=inT (Gt es n) true<|nz (fun x=>if _h:x.toNat<n then txt es x.toNat else ⟨#[]⟩) (Gt es n)
def j6(es:Q09)(n:Nat)(x:Int):ByteArray:=if x.toNat<n then txt es x.toNat else ⟨#[]⟩
def jB(es:Q09)(n:Nat)(inside:Bool):ByteArray:=inT (Gt es n) inside<|nz (j6 es n)<|Gt es n
def Gu(es:Q09)(n:Nat):txt es n=jB es n true:=by
 rw[txt];rfl
def BF:Nat->Nat
 | 0=>200
 | n+1=>BF n*6
def Na(n:Nat):200<=BF n:=by
 induction n with
 | zero=>exact XK _
 | succ n ih=>simp only[BF];omega
def ET{m n:Nat}(h:m<=n):BF m<=BF n:=by
 induction h with
 | refl=>exact XK _
 | step _ ih=>simp only[BF];omega
def TZ:BF 14<=20000000000000:=cv
def cu{s:ByteArray}(h:aW s=true):s.size<=12:=by
 simp only[aW,dX,oV,XN,XU]at h;exact h.1.1.2
def BG{s:ByteArray}(h:wy s=true):s.size<=12:=by
 unfold wy at h;rw[Bool.or_eq_true]at h;rcases h with h|h
 ·have h2:s.data.toList=[]:=by rw[Go.ByteArray.toList_eq]at h;simpa using h
  have h3:s.data.toList.length=0:=by rw[h2];rfl
  have:s.size=s.data.toList.length:=rfl;omega
 exact cu h
def AL{xs:Q0a}:∀{k:Nat},Gb xs k=true->∀(i:Nat) (h:i<xs.length),i<k->Ic xs[i]=true
 | 0,_,i,_,hi=>cq
 | k+1,hk,i,h,hi=>by
  unfold Gb at hk;rw[XN]at hk;by_cases e:i=k
  ·subst e;have:=hk.2;simp only[XQ h,Option.map_some,Yv,XN]at this;exact this.1
  exact AL hk.1 i h cq
def rO{a:Al}(h:Ic a=true):(gF a).size<=25:=by
 unfold Ic at h;rw[XN]at h;have h1:=cu h.1;have h2:=BG h.2;have e1:(⟨#[35]⟩:ByteArray).size=1:=rfl;unfold gF;split
 ·omega
 simp only[Yb];omega
def lm{xs:Q0a}(h:fo xs=true):(wM xs).size<=190:=by
 unfold fo at h;simp only [XN,XU]at h;have hj:=qw ⟨#[44]⟩ 25 _ (xs.map gF) rfl (fun x hx=>by
  obtain⟨a,ha,rfl⟩:=XW.1 hx;obtain⟨i,hi,rfl⟩:=Yk ha;exact rO<|AL h.2 i hi hi)
 have e1:(⟨#[116,104,105,115,40]⟩:ByteArray).size=5:=rfl;have e2:(⟨#[41]⟩:ByteArray).size=1:=rfl;have e3:(⟨#[44]⟩:ByteArray).size=1:=rfl;have e4:(xs.map gF).length<=6:=by simp;exact h.1.2
 unfold wM;simp only[Yb];rw[e3]at hj;have:(xs.map gF).length*(25+1)<=6*26:=Nat.mul_le_mul_right _ e4;omega
def Vj(es:Q09):Prop:=es.length<=15/\(∀(i:Nat) (h:i<es.length),aD es[i]=true)/\∀i,i<es.length->lY es i=true
def QI{es:Q09}(h:aS es=true):Vj es:=by
 unfold aS at h;simp only[XN,XU]at h;refine⟨h.1.1.1.1.2,fun i hi=>?_,fun i hi=>?_⟩
 ·have:=h.1.1.1.2;rw[XY]at this;exact this _<|XI hi
 have:=h.1.1.2;unfold jG at this;rw[XY]at this;exact this i (by simpa using hi)
def rP{e:Ex}(h:aD e=true):e.kids.length<=5/\(e.kind=1\/e.kind=2\/e.kind=3\/e.kind=4\/e.kind=5\/e.kind=6):=by
 unfold aD at h;split at h
 ·rename_i k;simp at h;exact⟨by simp[h.2],.inl k⟩
 split at h
 ·rename_i k;simp at h;exact⟨by simp[h.2],.inr<|.inl k⟩
 split at h
 ·rename_i k;simp at h;exact⟨by simp[h.2],.inr<|.inr<|.inl k⟩
 split at h
 ·rename_i k;simp at h;exact⟨cq,cq⟩
 split at h
 ·rename_i k;simp at h;exact⟨cq,cq⟩
 cases h
def BH{es:Q09}(hes:Vj es){n:Nat}(hn:n<es.length)(b:Nat)(hb:200<=b)(f:Int->ByteArray)(hf:∀k∈es[n].kids,(f k).size<=b):(nz f es[n]).size<=b*5+20:=by
 have YX:=hes.2.1 n hn;obtain⟨hk,hkind⟩:=rP YX;unfold nz;unfold aD at YX;split
 ·rename_i k;rw[if_pos k]at YX;simp only[XN]at YX;have:=lm YX.1.1.1;omega
 rename_i k1;rw[if_neg k1]at YX;split
 ·rename_i k2;rw[if_pos k2]at YX;simp only[XN]at YX;have:=cu YX.1.1.1;omega
 rename_i k2;rw[if_neg k2]at YX;split
 ·rename_i k3;rw[if_pos k3]at YX;simp only[XN]at YX;have h1:=cu YX.1.1.1;have h2:=cu YX.1.1.2;have e1:(⟨#[45,62]⟩:ByteArray).size=2:=rfl;simp only[Yb];omega
 have hj:=qw (iB es[n].kind) b _ (es[n].kids.map f) rfl (fun x hx=>by obtain⟨k,hk,rfl⟩:=XW.1 hx;exact hf k hk);rw[ny]at hj;have:(es[n].kids.map f).length*(b+3)<=5*(b+3):=Nat.mul_le_mul_right _ (by simp;exact hk);omega
def IB(e:Ex)(i:Bool)(t:dw):(inT e i t).size<=t.size+2:=by
 have e1:(⟨#[40]⟩:ByteArray).size=1:=rfl;have e2:(⟨#[41]⟩:ByteArray).size=1:=rfl;unfold inT;split
 ·simp only[Yb];omega
 omega
def Gv{es:Q09}{n:Nat}(h:n<es.length):Gt es n=es[n]:=by simp[Gt,h]
def wN{es:Q09}(hes:Vj es){n:Nat}(hn:n<es.length):∀k∈es[n].kids,0<=k/\k.toNat<n:=by
 intro k hk;have:=hes.2.2 n hn;unfold lY at this;rw[XY]at this;have h1:=this k (by simp[dx,hn,hk]);simp at h1;omega
def KG{es:Q09}(hes:Vj es)(n:Nat):n<es.length->∀i,(jB es n i).size<=BF n:=by
 induction n using Nat.strongRecOn with
 | ind n ih =>
  intro hn i;unfold jB;rw[Gv hn];have h1:=IB es[n] i<|nz (j6 es n) es[n];cases n with
  | zero =>
   have h2:=BH hes hn 200 (XK _) (j6 es 0) (fun k hk=>by have:=wN hes hn k hk;omega);have hno:es[0].kids=[]:=by
    cases hk:es[0].kids with
    | nil=>rfl
    | cons k ks=>have:=wN hes hn k (by rw[hk];simp);omega
   have YX:=hes.2.1 0 hn;have h3:(nz (j6 es 0) es[0]).size<=195:=by
    unfold nz;unfold aD at YX;split
    ·rename_i k;rw[if_pos k]at YX;simp only[XN]at YX;have:=lm YX.1.1.1;omega
    rename_i k1;rw[if_neg k1]at YX;split
    ·rename_i k2;rw[if_pos k2]at YX;simp only[XN]at YX;have:=cu YX.1.1.1;omega
    rename_i k2;rw[if_neg k2]at YX;split
    ·rename_i k3;rw[if_pos k3]at YX;simp only[XN]at YX;have h1:=cu YX.1.1.1;have h2:=cu YX.1.1.2;have e1:(⟨#[45,62]⟩:ByteArray).size=2:=rfl;simp only[Yb];omega
    rw[hno];have:(gp (iB es[0].kind)<|List.map (j6 es 0) []).size=0:=rfl;omega
   simp only[BF];omega
  | succ m =>
   have h2:=BH hes hn (BF m) (Na m) (j6 es<|m+1) (fun k hk=>by
    have hlt:=wN hes hn k hk;unfold j6;rw[if_pos hlt.2,Gu];exact XR (ih k.toNat hlt.2 cq true)<|ET cq)
   have:=Na m;simp only[BF];omega
structure RS where
 p:Nat
 bad:Bool
 out:List Ex
def gQ:ByteArray:=⟨#[116,104,105,115,40]⟩
def wO:ByteArray:=⟨#[35]⟩
def fQ:ByteArray:=⟨#[41]⟩
def nC:ByteArray:=⟨#[44]⟩
def ko:ByteArray:=⟨#[40]⟩
def qx:ByteArray:=⟨#[45,62]⟩
def bu(k:Int):ByteArray:=if k=4 then ⟨#[32,124,32]⟩ else if k=5 then ⟨#[32,38,32]⟩ else ⟨#[32,45,32]⟩
def eT(s w:ByteArray)(p:Nat):Bool:=decide (p+w.size<=s.size)&&(s.extract p<|p+w.size).toList==w.toList
def mH(s w:ByteArray)(st:RS):Bool:=!st.bad&&eT s w st.p
def lH(w:ByteArray)(st:RS):RS:=⟨st.p+w.size,st.bad,st.out⟩
def aB(s:ByteArray)(p:Nat):Nat:=((s.data.toList.drop p).takeWhile fH).length
def aF(s:ByteArray)(p:Nat):ByteArray:=s.extract p<|p+aB s p
def uz(x:Ex)(st:RS):RS:=⟨st.p,st.bad || decide (15<st.out.length+1),st.out++[x]⟩
def wP(st:RS):RS:=⟨st.p,true,st.out⟩
def Ad(s:ByteArray)(st:RS):ByteArray:=if mH s wO st then aF s (st.p+1) else ⟨#[]⟩
def bq(s:ByteArray)(st:RS):RS:=if mH s wO st then ⟨st.p+1+aB s (st.p+1),st.bad,st.out⟩ else st
def bR(s:ByteArray)(st:RS):RS:=⟨st.p+aB s st.p,st.bad,st.out⟩
def dN(s:ByteArray):Nat->List Al->RS->Option (List Al)×RS
 | 0,_,st=>(none,st)
 | n+1,xs,st =>
  if st.bad then (none,st)
  else if mH s fQ (bq s<|bR s st) then (some<|xs++[⟨aF s st.p,Ad s<|bR s st⟩],lH fQ<|bq s<|bR s st)
  else if mH s nC (bq s<|bR s st) then dN s n (xs++[⟨aF s st.p,Ad s<|bR s st⟩]) (lH nC<|bq s<|bR s st)
  else dN s n (xs++[⟨aF s st.p,Ad s<|bR s st⟩]) (wP<|bq s<|bR s st)
def fK(s:ByteArray)(st:RS):Ex :=
 if mH s qx (bR s st) then ⟨3,[],aF s st.p,aF s<|st.p+aB s st.p+2,[]⟩ else ⟨2,[],⟨#[]⟩,aF s st.p,[]⟩
def aO(s:ByteArray)(st:RS):RS :=
 if mH s qx (bR s st) then ⟨st.p+aB s st.p+2+aB s (st.p+aB s st.p+2),st.bad,st.out⟩ else bR s st
def judged(x:Ex)(st:RS):RS:=if aD x then st else wP st
def dO(s:ByteArray)(p:Nat):Int:=if eT s (bu 4) p then 4 else if eT s (bu 5) p then 5 else if eT s (bu 6) p then 6 else 0
def iM(s:ByteArray)(it:RS->Int×RS)(k:Int):Nat->List Int->RS->List Int×RS
 | 0,zs,st=>(zs,st)
 | n+1,zs,st=>if mH s (bu k) st then iM s it k n (zs++[(it<|lH (bu k) st).1]) (it<|lH (bu k) st).2 else (zs,st)
def BI(s:ByteArray):Nat->Bool->RS->Int×RS
 | 0,_,st=>(0,st)
 | n+1,false,st =>
  if mH s gQ st then
   match dN s (s.size+1) [] (lH gQ st) with
   | (some xs,st')=>((st'.out.length:Int),uz ⟨1,xs,⟨#[]⟩,⟨#[]⟩,[]⟩ st')
   | (none,st')=>(0,st')
  else if mH s ko st then
   let x:=BI s n true<|lH ko st
   if mH s fQ x.2 then (x.1,lH fQ x.2) else (x.1,wP x.2)
  else ((st.out.length:Int),uz (fK s st)<|judged (fK s st)<|aO s st)
 | n+1,true,st =>
  let x:=BI s n false st
  if dO s x.2.p=0\/x.2.bad=true then x
  else
   let y:=iM s (BI s n false) (dO s x.2.p) (s.size+1) [x.1] x.2
   ((y.2.out.length:Int),uz ⟨dO s x.2.p,[],⟨#[]⟩,⟨#[]⟩,y.1⟩ y.2)
def lI(s:dw)(p:Nat)(hp:p<=s.size):p+aB s p<=s.size:=by
 unfold aB;have h1:((s.data.toList.drop p).takeWhile fH).length<=(s.data.toList.drop p).length:=(List.takeWhile_prefix (p:=fH) (l:=s.data.toList.drop p)).length_le;have h2:(s.data.toList.drop p).length=s.size-p:=by rw[YD];simp
 omega
def BJ(s:dw)(p:Nat)(hp:p<=s.size):(aF s p).size=aB s p:=by
 unfold aF;rw[ByteArray.size_extract];have:=lI s p hp;omega
def IC{s w:ByteArray}{p:Nat}(h:eT s w p=true):p+w.size<=s.size:=by
 unfold eT at h;simp only[XN,XU]at h;exact h.1
def l5{s w:ByteArray}{st:RS}(h:mH s w st=true):st.p+w.size<=s.size:=by
 unfold mH at h;simp only[XN]at h;exact IC h.2
set_option maxRecDepth 100000
def ak{p:Prop}(h:p):O p:=h
structure RdC(w:World)(R:Nat)(s:ByteArray)(p:Nat)(bad:Bool)(v:Value):Prop where
 lt:R<w.heap.size
 c0:w.cell? ⟨R,0,none⟩=some (.string s)
 c1:w.cell? ⟨R,1,none⟩=some (.int .i64 (p:Int))
 c2:w.cell? ⟨R,2,none⟩=some (.bool bad)
 c3:w.cell? ⟨R,3,none⟩=some v
 fr:nu w R
def RdC.grown{w w':ag}{R:Nat}{s:ByteArray}{p:Nat}{bad:Bool}{v:Value}{row:Option Nat}(h:RdC w R s p bad v)(hg:w.grownBy w' row)(hR:some R≠row):RdC w' R s p bad v :=
 ⟨XJ h.lt hg.size,hg.cell h.c0 hR,hg.cell h.c1 hR,hg.cell h.c2 hR,hg.cell h.c3 hR,fun j=>(World.frozen?_of_block (w:=w) (a:=⟨R,j,none⟩)<|hg.block R h.lt hR).trans<|h.fr j⟩
def RdC.drewN{w:ag}{R:Nat}{s:ByteArray}{p:Nat}{bad:Bool}{v:Value}(h:RdC w R s p bad v)(n:Nat):RdC (w.drewN n) R s p bad v:=⟨h.lt,h.c0,h.c1,h.c2,h.c3,h.fr⟩
def RdC.on{w:ag}{R:Nat}{s:ByteArray}{p:Nat}{bad:Bool}{v:Value}(h:RdC w R s p bad v)(q:Nat):RdC (w.setCell (ap R 1)<|.int .i64 (q:Int)) R s q bad v :=
 ⟨by simpa using h.lt,by rw[mO cq];exact h.c0,mS h.c1,by rw[mO cq];exact h.c2,by rw[mO cq];exact h.c3,fun j=>by simpa using h.fr j⟩
def IE(w:ag)(R o:Nat)(v:Value)(n:Nat):w.grownBy ((w.drewN n).setCell (ap R o) v) (some R) :=
 ⟨rfl,rfl,rfl,ct,fun k _ hk=>Below.heap_setCell _ _ _ k fun e=>hk<|by rw[e]⟩
def KH{w w':ag}{R o:Nat}{v:Value}(h:w.grownBy w'<|some R):w.grownBy (w'.setCell (ap R o) v) (some R) :=
 ⟨h.os,h.tape,h.output,by simpa using h.size,fun k hk hne=>(Below.heap_setCell w' _ _ k fun e=>hne<|by rw[e]).trans (h.block k hk hne)⟩
def ow(s t:ByteArray)(p:Nat)(bad:Bool):Bool:=!bad&&eT s t p
def T9(s t:ByteArray)(p:Nat)(bad:Bool):Nat:=if ow s t p bad then p+t.size else p
def wQ{s t:ByteArray}{p:Nat}{bad:Bool}(h:ow s t p bad=true):T9 s t p bad=p+t.size:=by simp[T9,h]
def BL{s t:ByteArray}{p:Nat}{bad:Bool}(h:ow s t p bad=false):T9 s t p bad=p:=by simp[T9,h]
def nD(R:Nat)(s t:dw)(p:Nat)(bad:Bool)(v:Value)(w:ag)(h:RdC w R s p bad v)(hs:s.size<=1000)(hp:p<=s.size)(ht:t.size<=100):
  Calls prog 325 #[.pointer (some<|am R),.string t] w fun e w'=>e=.returned (.bool<|ow s t p bad)/\RdC w' R s (T9 s t p bad) bad v/\w.grownBy w' (some R):=by
 have H:=ak h;have c0:=h.c0;have c1:=h.c1;have c2:=h.c2;have f1:=h.fr 1;have hlt:=h.lt;have h0:=h;clear h H;have hwr:IntKind.i64.wrap ((p:Int)+(t.size:Int))=(p:Int)+(t.size:Int):=by simp[IntKind.wrap,IntKind.bits,IntKind.signed];omega
 have no:∀{n:Nat} {e:Ending},ow s t p bad=false->e=.returned (.bool false)->e=.returned (.bool<|ow s t p bad)/\RdC (w.drewN n) R s (T9 s t p bad) bad v/\w.grownBy (w.drewN n) (some R):=fun hb he=>⟨by rw[hb];exact he,by rw[BL hb];exact h0.drewN _,⟨rfl,rfl,rfl,XK _,fun _ _ _=>rfl⟩⟩;have yes:∀{n:Nat} {e:Ending},ow s t p bad=true->e=.returned (.bool true)->e=.returned (.bool<|ow s t p bad)/\RdC ((w.drewN n).setCell (ap R 1)<|.int .i64<|(p:Int)+(t.size:Int)) R s (T9 s t p bad) bad v/\w.grownBy ((w.drewN n).setCell (ap R 1)<|.int .i64<|(p:Int)+(t.size:Int)) (some R):=fun hb he=>⟨by rw[hb];exact he,by rw[wQ hb];exact(h0.drewN _).on<|p+t.size,IE _ _ _ _ _⟩;have NO:O (∀{n:Nat} {e:Ending},_):=@no;have YES:O (∀{n:Nat} {e:Ending},_):=@yes;clear no yes h0;cases bad;case true=>
  have HB:O (ow s t p true=false):=rfl;clear hwr;go_enter func325,ntmps325;go_wp2_with fail;go_quiet (fail);go_wp2;go_ret;exact NO HB rfl
 by_cases hl:p+t.size<=s.size
 ·have hd:decide ((s.size:Int)<(p:Int)+(t.size:Int))=false:=by simp;omega
  have hp1:(p:Int)<=(p:Int)+(t.size:Int):=cq;have hp2:(p:Int)+(t.size:Int)<=(s.size:Int):=cq;have hnn:=bG p;have hla:eT s t p=((s.extract p<|p+t.size).toList==t.toList):=by simp[eT,hl]
  cases he:(s.extract p<|p+t.size).toList==t.toList;case true=>
   have HB:O (ow s t p false=true):=by show _=_;simp only[ow,hla,he];rfl
   have hq:(!(s.extract p<|p+t.size).toList==t.toList)=false:=by rw[he];rfl
   clear he hla;go_enter func325,ntmps325;go_wp2_with fail;go_quiet (fail);go_wp2;go_ret;exact YES HB rfl
  have HB:O (ow s t p false=false):=by show _=_;simp only[ow,hla,he];rfl
  have hq:(!(s.extract p<|p+t.size).toList==t.toList)=true:=by rw[he];rfl
  clear he hla;go_enter func325,ntmps325;go_wp2_with fail;go_quiet (fail);go_wp2;go_ret;exact NO HB rfl
 have hd:decide ((s.size:Int)<(p:Int)+(t.size:Int))=true:=by simp;omega
 have HB:O (ow s t p false=false):=by show _=_;simp[ow,eT,hl]
 clear hl;go_enter func325,ntmps325;go_wp2_with fail;go_quiet (fail);go_wp2;go_ret;exact NO HB rfl
def wat(R:Nat)(w:World):Nat:=match w.cell? ⟨R,1,none⟩ with
 | some (.int _ z)=>z.toNat
 | _=>0
def RdC.place{w:ag}{R:Nat}{s:ByteArray}{p:Nat}{bad:Bool}{v:Value}(h:RdC w R s p bad v):wat R w=p:=by
 simp[Go.Proofs.YtojjoblnpldniaaGreat.wat,h.c1]
def Gw(l:List UInt8)(n:Nat)(h1:∀i (h:i<l.length),i<n->fH l[i]=true)(h2:∀h:n<l.length,fH l[n]=false)(hn:n<=l.length):(l.takeWhile fH).length=n:=by
 induction l generalizing n with
 | nil=>simp at hn;simp[hn]
 | cons x xs ih =>
  cases n with
  | zero =>
   have:=h2 ct;simp at this;simp[List.takeWhile,this]
  | succ n =>
   have hx:=h1 0 ct cq;simp at hx;have:=ih n (fun i hi hin=>by have:=h1 (i+1) (by simpa using hi) cq;simpa using this) (fun h=>by have:=h2 (by simpa using h);simpa using this) (by simpa using hn);simp[List.takeWhile,hx,this]
def QJ(s:dw)(p q:Nat)(hpq:p<=q)(hq:q<=s.size)(h1:∀i (h:i<s.size),p<=i->i<q->fH s[i]=true)(h2:∀h:q<s.size,fH s[q]=false):aB s p=q-p:=by
 unfold aB;have hl:s.data.toList.length=s.size:=ct;refine Gw _ _ (fun i hi hin=>?_) (fun h=>?_) (by rw[YD,hl];omega)
 ·rw[YD,hl]at hi;have:=h1 (p+i) cq cq cq;simp only[List.getElem_drop,Array.getElem_toList];exact this
 rw[YD,hl]at h;have:=h2 cq;simp only[List.getElem_drop,Array.getElem_toList];have e:p+(q-p)=q:=cq;simp only[e];exact this
def wR(R:Nat)(s:dw)(p:Nat)(bad:Bool)(v:Value)(w:ag)(h:RdC w R s p bad v)(hs:s.size<=1000)(hp:p<=s.size):
  Calls prog 340 #[.pointer (some<|am R)] w fun e w'=>e=.returned (.string<|aF s p)/\RdC w' R s (p+aB s p) bad v/\w.grownBy w' (some R):=by
 have H:=ak h;have c1:=h.c1;clear h;go_enter func340,ntmps340;go_wp2_with fail;clear c1;go_loopw[8] (fun _ wr=>∃q:Nat,p<=q/\q<=s.size/\O (∀i (h:i<s.size),p<=i->i<q->fH s[i]=true)/\O (RdC wr R s q bad v)/\O (w.grownBy wr<|some R)) (fun _ wr=>s.size-wat R wr);case atStart=>exact⟨p,XK _,hp,fun i h h1 h2=>cq,H,⟨rfl,rfl,rfl,XK _,fun _ _ _=>rfl⟩⟩
 obtain⟨q,hq1,hq2,HL,HR,HG⟩:=hrel;have c0:=HR.c0;have c1:=HR.c1;have f1:=HR.fr 1;have hlt:=HR.lt;have hq0:=bG q;have stop:∀n m,(∀h:q<s.size,fH s[q]=false)->Ending.returned (.string<|s.extract p q)=.returned (.string<|aF s p)/\RdC ((wr.drewN n).drewN m) R s (p+aB s p) bad v/\w.grownBy ((wr.drewN n).drewN m) (some R):=fun n m hn=>by
  have e:=QJ s p q hq1 hq2 HL hn;have e2:p+aB s p=q:=cq;exact⟨by unfold aF;rw[e2],by rw[e2];exact(HR.drewN n).drewN m,⟨HG.os,HG.tape,HG.output,HG.size,HG.block⟩⟩
 have STOP:=ak stop;clear stop;have hx1:(p:Int)<=(q:Int):=cq;have hx2:(q:Int)<=(s.size:Int):=cq;have hx3:=bG p;by_cases hlt2:q<s.size
 ·have hq3:(q:Int)<(s.size:Int):=cq;have hd:decide ((q:Int)<(s.size:Int))=true:=by simpa using hq3
  by_cases hb1:(97:Int)<=(s[q].toNat:Int)
  ·have hd1:decide ((97:Int)<=(s[q].toNat:Int))=true:=by simpa using hb1
   by_cases hb2:(s[q].toNat:Int)<=122
   ·have hd2:decide ((s[q].toNat:Int)<=122)=true:=by simpa using hb2
    have HL2:O (∀i (h:i<s.size),p<=i->i<q+1->fH s[i]=true):=fun i h h1 h2=>by
     by_cases e:i=q
     ·subst e;simp[fH];omega
     exact HL i h h1 cq
    have hwr2:IntKind.i64.wrap ((q:Int)+1)=(q:Int)+1:=by simp[IntKind.wrap,IntKind.bits,IntKind.signed];omega
    go_wp2_with fail;go_quiet (fail);have HR2:O (RdC ((wr.drewN nq).setCell (ap R 1)<|.int .i64<|(q:Int)+1) R s (q+1) bad v):=(HR.drewN nq).on<|q+1;have HG2:O (w.grownBy ((wr.drewN nq).setCell (ap R 1)<|.int .i64<|(q:Int)+1)<|some R):=KH (w':=wr.drewN nq) ⟨HG.os,HG.tape,HG.output,HG.size,HG.block⟩;have hm1:=HR.place;have hm2:=HR2.place;have HM:O (s.size-wat R ((wr.drewN nq).setCell (ap R 1)<|.int .i64<|(q:Int)+1)<s.size-wat R wr):=by show _<_;rw[hm1,hm2];omega
    clear hm1 hm2;go_wp2;go_roundw;case rel=>exact⟨q+1,cq,cq,HL2,HR2,HG2⟩
    exact HM
   have hd2:decide ((s[q].toNat:Int)<=122)=false:=by simpa using hb2
   have HN:O (∀h:q<s.size,fH s[q]=false):=fun h=>by simp[fH];omega
   go_wp2_with fail;go_quiet (fail);go_wp2_with fail;go_quiet (fail);go_wp2;go_ret;exact STOP _ _ HN
  have hd1:decide ((97:Int)<=(s[q].toNat:Int))=false:=by simpa using hb1
  have HN:O (∀h:q<s.size,fH s[q]=false):=fun h=>by simp[fH];omega
  go_wp2_with fail;go_quiet (fail);go_wp2_with fail;go_quiet (fail);go_wp2;go_ret;exact STOP _ _ HN
 have hd:decide ((q:Int)<(s.size:Int))=false:=by simp;omega
 have HN:O (∀h:q<s.size,fH s[q]=false):=fun h=>absurd h hlt2;go_wp2_with fail;go_quiet (fail);go_wp2_with fail;go_quiet (fail);go_wp2;go_ret;exact STOP _ _ HN
open Go.Sort
def bH(i:Nat)(kind:Int):List Int->Nat->List Bool->List Bool
 | [],_,out=>out
 | x::xs,k,out=>bH i kind xs (k+1)<|out.set x.toNat<|out.getD i false || (kind==6&&k==1)
def eF(es:Q09):Nat->List Bool->List Bool
 | 0,out=>out
 | i+1,out=>eF es i (match es[i]? with|none=>out|some e=>bH i e.kind e.kids 0 out)
def dK(es:Q09):List Bool:=eF es es.length<|List.replicate es.length false
def zt(i:Nat)(kind:Int)(xs:List Int)(k:Nat)(out:List Bool):(bH i kind xs k out).length=out.length:=by
 induction xs generalizing k out with
 | nil=>rfl
 | cons x xs ih=>simp[bH,ih]
def bools(xs:List Bool):List Value:=xs.map Value.bool
def Fil.set{w wr:ag}{g n o:Nat}{xs:Q03}(h:Fil w wr g n xs)(v:Value)(ho:o<xs.length)(hn:o<n):Fil w (wr.setCell (ap g o) v) g n (xs.set o v) where
 below:=h.below.setCell (p:=⟨g,o,none⟩) h.ge v
 ge:=h.ge
 lt:=by simpa using h.lt
 done j hj:=by
  by_cases e:j=o
  ·subst e;obtain⟨u,hu⟩:=Option.isSome_iff_exists.mp<|h.there j hn;rw[AZ hu];simp
  have hj':j<xs.length:=by simpa using hj
  rw[rA (Ne.symm e),h.done j hj',List.getElem_set_ne<|Ne.symm e]
 there j hj:=by
  by_cases e:j=o
  ·subst e;obtain⟨u,hu⟩:=Option.isSome_iff_exists.mp<|h.there j hn;rw[AZ hu];rfl
  rw[rA (Ne.symm e)];exact h.there j hj
 free j:=by simpa using h.free j
def Fil.drew{w wr:ag}{g n:Nat}{xs:Q03}(h:Fil w wr g n xs):Fil w wr.drew g n xs:=⟨h.below.drew,h.ge,h.lt,h.done,h.there,h.free⟩
def EU{w w0:ag}{n:Nat}{base:Nat}{e:TypeId}{v:Value}(h:w0.ownsRow base e 1 (.slice (some<|am w.heap.size) n n) n (madeCells #[v]<|n*1).toList)(hg:w.grownBy w0 none):Fil w w0 w.heap.size n (List.replicate n v) where
 below:=(XL _ _).grown hg (XK _) (fun k hk=>by cases hk)
 ge:=XK _
 lt:=(h.lt w.heap.size rfl).2
 done j hj:=by
  have hj':j<n:=by simpa using hj
  rw[h.cellAt j cq,toList_madeCells_one];simp[hj']
 there j hj:=by
  rw[h.cellAt j cq,XQ<|by rw[h.1];omega];rfl
 free j:=h.frozenAt j
def BM:(prog.info? 4).map (fun i=>(i.zero,i.size,i.bytes))=some (some<|.bool false,1,1):=cw
def BN(es:Q09)(m:Nat)(out:List Bool)(h:m<es.length):eF es (m+1) out=eF es m (bH m es[m].kind es[m].kids 0 out):=by
 simp[eF,h]
def kr(i:Nat)(kind:Int)(ks:List Int)(j:Nat)(out:List Bool)(h:j<ks.length):bH i kind (ks.drop j) j out=bH i kind (ks.drop<|j+1) (j+1) (out.set ks[j].toNat<|out.getD i false || (kind==6&&j==1)):=by
 rw[Yi h];rfl
def pg(out:List Bool)(o:Nat)(v:Bool):bools (out.set o v)=(bools out).set o (.bool v):=by simp[bools,List.map_set]
def fE(n:Nat)(ks:List Int):Prop:=∀x∈ks,0<=x/\x<(n:Int)
def NW(ad:Q02)(cap:Nat)(rs:Q08)(w:ag)(hlen:a7 rs)(hs:iE w ad rs)(hl:∀r∈rs,r.e.light)(hk:∀r∈rs,fE rs.length r.e.kids):
  Calls prog 277 #[.slice ad rs.length cap] w fun e w'=>e=.returned (.slice (some<|am w.heap.size) rs.length rs.length)/\Fil w w' w.heap.size rs.length (bools<|dK<|au rs):=by
 have HS:=aK hs;have HL:=aK hl;have HK:=aK hk;clear hs hl hk;obtain⟨inf,hi,hz0,hz1,hz2⟩:=info_parts BM;go_enter func277,ntmps277;go_wp2_with(at_make;refine wpList_make_full _ rfl _ _ 338 rfl w.heap.size 4 inf (.bool false) 1 underlying338 hi hz0 hz1 .i64 .i64 _ _ rs.length rfl rfl rfl rfl (by rw[hz2];omega) cy (XK _) ?_;intro w0 hown0 hgrow0);have HF0:O (Fil w w0 w.heap.size rs.length<|bools<|List.replicate rs.length false):=by
  have:=EU (v:=.bool false) hown0 hgrow0;show Fil _ _ _ _ _;simpa[bools] using this
 clear hown0 hgrow0 hi hz0 hz1 hz2;go_loopw[4] (fun i wr=>∃(m:Nat) (out:List Bool),m<=rs.length/\i=.int .i64 ((m:Int)-1)/\out.length=rs.length/\O (eF (au rs) m out=dK (au rs))/\O (Fil w wr w.heap.size rs.length<|bools out)) (fun i _=>(intOf i+1).toNat);case atStart=>exact⟨rs.length,List.replicate rs.length false,XK _,cx,ct,(by show _=_;unfold dK;rw[aX]),HF0⟩
 obtain⟨m,out,hm,rfl,hol,HN,HF⟩:=hrel;by_cases hm0:0<m
 ·obtain⟨m,rfl⟩:∃m',m=m'+1:=⟨m-1,cq⟩;have hmi:(((m+1:Nat):Int)-1)=(m:Int):=cq;rw[hmi];have hlt:m<rs.length:=cq;rcases HS.out.below HF.below with rfl|⟨b,off,rfl,hb,hr,hok⟩
  ·simp at hlt
  obtain⟨t0,t1,t2,t3,t4⟩:=hr m hlt;have HOK:O (rs[m].ok _):=hok rs[m]<|XI hlt;have lg:=(HL rs[m]<|XI hlt).2;have HKI:O (fE rs.length rs[m].e.kids):=HK rs[m]<|XI hlt;have hk1:=bG m;have hk2:(m:Int)<(rs.length:Int):=cq;have hbw:cW b w:=by
   rcases HS.out with h|⟨b',off',h1,h2,-⟩
   ·rw[h]at hlt;simp at hlt
   injection h1 with h1;injection h1 with h1;omega
  have HR:O (zY wr b (off+m*5) rs[m]):=hr m hlt;have HNX:O (eF (au rs) m (bH m rs[m].e.kind rs[m].e.kids 0 out)=dK (au rs)):=by
   show _=_;rw[<-HN,BN _ _ _<|by rw[aX];exact hlt];simp[au]
  clear hr hok t0 t1 t2 t3 t4;go_wp2_with fail;go_loopw[5] (fun i w2=>∃(j:Nat) (Zb:List Bool),j<=rs[m].e.kids.length/\i=.int .i64 j/\Zb.length=rs.length/\O (bH m rs[m].e.kind (rs[m].e.kids.drop j) j Zb=bH m rs[m].e.kind rs[m].e.kids 0 out)/\O (Fil w w2 w.heap.size rs.length<|bools Zb)) (fun i _=>rs[m].e.kids.length-(intOf i).toNat);case atStart=>exact⟨0,out,XP _,rfl,hol,rfl,HF⟩
  obtain⟨j,Zb,hj,rfl,ho2,HJ,HF2⟩:=hrel;have hE2:iE wr _ rs:=HS.below HF2.below;have ht:zY wr b (off+m*5) rs[m]:=by
   rcases hE2 with h|⟨b',off',h1,h2,h3,-⟩
   ·exact absurd hlt (by rw[h];simp)
   injection h1 with h1;injection h1 with h1 h1';subst h1;subst h1';exact h3 m hlt
  obtain⟨t0,t1,t2,t3,t4⟩:=ht;by_cases hjl:j<rs[m].e.kids.length
  ·have hK2:uW wr rs[m].adK rs[m].e.kids:=(hE2.mem<|XI hlt).2;rcases hK2 with hnil|⟨ba,offa,ZC,hba,hra⟩
   ·rw[hnil]at hjl;simp at hjl
   rw[ZC]at t4;have q0:=hra j hjl;have hj1:=bG j;have hj2:(j:Int)<(rs[m].e.kids.length:Int):=cq;obtain⟨x0,x1⟩:=HKI _<|XI hjl;obtain⟨x,hx⟩:∃x:Nat,rs[m].e.kids[j]=(x:Int):=⟨rs[m].e.kids[j].toNat,cq⟩;rw[hx]at q0 x0 x1;have c0:=HF2.done m (by simp[bools];omega);have fz:=HF2.free;obtain⟨v0,u0⟩:=Option.isSome_iff_exists.mp<|HF2.there x cq;have hbr:cW b wr:=XJ hbw HF2.below.size;obtain⟨bo,hbo⟩:∃bo,bo=(bools Zb)[m]'(by simp[bools];omega):=⟨_,rfl⟩;rw[<-hbo]at c0;clear hra ZC hE2 t1 t2 t3;have hm2:m<Zb.length:=cq
   have hbo1:bo=.bool Zb[m]:=by rw[hbo];simp[bools]
   have hbo':Zb[m]?.getD false=Zb[m]:=by simp[hm2]
   rw[hbo1]at c0;clear hbo hbo1;have HJ3:O (∀bv,(Zb[m] || (rs[m].e.kind==6&&j==1))=bv->bH m rs[m].e.kind (rs[m].e.kids.drop<|j+1) (j+1) (Zb.set x bv)=bH m rs[m].e.kind rs[m].e.kids 0 out):=by
    rintro _ rfl;rw[<-HJ,kr _ _ _ _ _ hjl,hx];simp[hbo']
   have HF4:O (∀bv d os,Fil w ((grow (redrawn wr d) os).setCell (a6 w x)<|.bool bv) w.heap.size rs.length<|bools<|Zb.set x bv):=by
    intro bv d os;rw[pg];exact(HF2.later<|below_regrown wr d os).set _ (by simp[bools];omega) cq
   go_wp2_with fail;replace fz:=fun d os=>(HF2.later<|below_regrown wr d os).free;replace t0:=cell_regrown t0;replace t4:=cell_regrown t4;replace q0:=cell_regrown q0;replace c0:=cell_regrown c0;replace u0:=cell_regrown u0;clear hbo';cases hb0:Zb[m]<;>cases hkb:(rs[m].e.kind==6)<;>cases hjb:((j:Int)==1)
   all_goals
    have hjn:(j==1)=_:=(by rw[X9];simp;omega:(j==1)=((j:Int)==1)).trans hjb;rw[hb0]at c0;have HJ4:=o7 (HJ3 _<|by rw[hb0,hkb,hjn]);refine rq 26 1 cw (by rfl) cw ?_;simp only[List.take_succ_cons,List.take_zero]
    repeat(go_big_quiet_step (fail))
    refine wpQuiet_nil ?_;rintro _ ⟨⟨dq,osq⟩,rfl⟩;refine wpOp_step rfl (fun K hK=>?_);replace hK:=o7 hK;go_simp;refine hK _ _ ?_;clear hK;unfold o8;go_wp2;go_roundw;case rel=>exact⟨j+1,_,cq,cx,by simp[ho2],HJ4,HF4 _ _ _⟩
    simp[intOf]<;>omega
  have HOE:O (eF (au rs) m Zb=dK (au rs)):=by
   show _=_;rw[<-HNX,<-HJ,Ya cq];rfl
  go_wp2;go_roundw;case rel=>exact⟨m,Zb,cq,cx,ho2,HOE,HF2⟩
  simp[intOf]<;>omega
 obtain rfl:m=0:=cq;have HFE:O (Fil w wr w.heap.size rs.length<|bools<|dK<|au rs):=by
  show Fil _ _ _ _ _;rw[<-HN];exact HF
 go_wp2;go_ret;exact⟨rfl,HFE⟩
structure St where
 typ:ByteArray
 rel:ByteArray
 n:Int
def WG(w:World)(b off:Nat)(s:St):Prop:=w.cell? ⟨b,off,none⟩=some (.string s.typ)/\w.cell? ⟨b,off+1,none⟩=some (.string s.rel)/\w.cell? ⟨b,off+2,none⟩=some (.int .i64 s.n)
def KI(w:World)(ad:Q02)(xs:List St):Prop:=xs=[] \/ ∃b off,ad=some ⟨b,off,none⟩/\b<w.heap.size/\∀(i:Nat) (h:i<xs.length),WG w b (off+i*3) xs[i]
def KI.below{w w':ag}{ad:Q02}{xs:List St}(h:KI w ad xs)(hB:ae w w'):KI w' ad xs:=by
 rcases h with h|⟨b,off,e,hb,hr⟩
 ·exact .inl h
 refine .inr ⟨b,off,e,XJ hb hB.size,fun i hi=>?_⟩;obtain⟨h0,h1,h2⟩:=hr i hi;exact⟨aM hB hb h0,aM hB hb h1,aM hB hb h2⟩
def BO(s:St)(typ rel:ByteArray):Bool:=(s.typ.toList==typ.toList)&&(s.rel.toList==rel.toList)
def iG(typ rel:ByteArray):List St->Nat->Int
 | [],_=>-1
 | s::xs,k=>if BO s typ rel then (k:Int) else iG typ rel xs (k+1)
def rQ(typ rel:dw)(xs:List St)(k:Nat)(h:k<xs.length):iG typ rel (xs.drop k) k=if BO xs[k] typ rel then (k:Int) else iG typ rel (xs.drop<|k+1) (k+1):=by
 rw[Yi h];rfl
def QK(ad:Q02)(cap:Nat)(xs:List St)(typ rel:dw)(w:ag)(hlen:a7 xs)(hs:KI w ad xs):
  Calls prog 219 #[.slice ad xs.length cap,.string typ,.string rel] w (bh w<|.int .i64<|iG typ rel xs 0):=by
 go_enter func219,ntmps219;go_wp2;go_loopw[7] (fun i wr=>∃k:Nat,k<=xs.length/\i=.int .i64 k/\O (iG typ rel (xs.drop k) k=iG typ rel xs 0)/\wr=w) (fun i _=>xs.length-(intOf i).toNat);case atStart=>exact⟨0,XP _,rfl,rfl,rfl⟩
 obtain⟨k,hk,rfl,HP,rfl⟩:=hrel;by_cases hlt:k<xs.length
 ·rcases hs with rfl|⟨b,off,rfl,hb,hr⟩
  ·simp at hlt
  obtain⟨t0,t1,t2⟩:=hr k hlt;have hk1:=bG k;have hk2:(k:Int)<(xs.length:Int):=cq;clear hr;cases hq:(xs[k].typ.toList==typ.toList);case true=>
   cases hp:(xs[k].rel.toList==rel.toList);case true=>
    have HN:O (iG typ rel xs 0=(k:Int)):=by show _=_;rw[<-HP,rQ _ _ _ _ hlt];simp[BO,hq,hp]
    go_wp2;go_ret;exact⟨by rw[HN];rfl,rfl⟩
   have Zc:O (iG typ rel (xs.drop<|k+1) (k+1)=iG typ rel xs 0):=by show _=_;rw[<-HP,rQ _ _ _ _ hlt];simp[BO,hq,hp]
   go_wp2;go_roundw;case rel=>exact⟨k+1,cq,cx,Zc,by first|rfl|trivial⟩
   simp[intOf]<;>omega
  have Zc:O (iG typ rel (xs.drop<|k+1) (k+1)=iG typ rel xs 0):=by show _=_;rw[<-HP,rQ _ _ _ _ hlt];simp[BO,hq]
  go_wp2;go_roundw;case rel=>exact⟨k+1,cq,cx,Zc,by first|rfl|trivial⟩
  simp[intOf]<;>omega
 have HN:O (iG typ rel xs 0=-1):=by show _=_;rw[<-HP,Ya cq];rfl
 go_wp2;go_ret;exact⟨by rw[HN];rfl,rfl⟩
structure Dp where
 typ:ByteArray
 rel:ByteArray
 neg:Bool
def Dp.cells(d:Dp):List Value:=[.string d.typ,.string d.rel,.bool d.neg]
def fu:List Dp->List Value
 | []=>[]
 | d::ds=>d.cells++fu ds
def Gx(xs ys:List Dp):fu (xs++ys)=fu xs++fu ys:=by
 induction xs with
 | nil=>rfl
 | cons d ds ih=>simp[fu,ih]
def vC(xs:List Dp)(d:Dp):fu (xs++[d])=fu xs++d.cells:=by rw[Gx];simp[fu]
def dB(neg:Bool):List Al->List Dp
 | []=>[]
 | a::xs=>if a.s.toList.isEmpty then dB neg xs else ⟨a.t,a.s,neg⟩::dB neg xs
def mh(ts:Q0b)(typ:ByteArray)(neg:Bool)(e:Ex):List Dp :=
 if e.kind=2 then [⟨typ,e.name,neg⟩] else if e.kind=3 then (iL ts typ e.over e.name).map fun g=>⟨g,e.name,neg⟩ else []
def iN(ts:Q0b)(typ:ByteArray)(es:Q09)(k:Nat):List Dp :=
 match es[k]? with
 | none=>[]
 | some e=>dB ((dK es).getD k false) e.allow++mh ts typ ((dK es).getD k false) e
def aY(ts:Q0b)(typ:ByteArray)(es:Q09):Nat->List Dp
 | 0=>[]
 | k+1=>aY ts typ es k++iN ts typ es k
def q8(ts:Q0b)(typ:ByteArray)(es:Q09):List Dp:=aY ts typ es es.length
def wS(neg:Bool)(xs ys:Q0a):dB neg (xs++ys)=dB neg xs++dB neg ys:=by
 induction xs with
 | nil=>rfl
 | cons a xs ih=>simp only[Yz,dB,ih];split<;>simp
def QL(neg:Bool)(xs:Q0a)(k:Nat)(h:k<xs.length)(he:xs[k].s.toList.isEmpty=true):dB neg (xs.take<|k+1)=dB neg (xs.take k):=by
 rw[XM h,wS];simp[dB]at he ⊢;simp[he]
def NY(neg:Bool)(xs:Q0a)(k:Nat)(h:k<xs.length)(he:xs[k].s.toList.isEmpty=false):dB neg (xs.take<|k+1)=dB neg (xs.take k)++[⟨xs[k].t,xs[k].s,neg⟩]:=by
 rw[XM h,wS];simp[dB,he]
def EW(neg:Bool)(xs:Q0a):(dB neg xs).length<=xs.length:=by
 induction xs with
 | nil=>simp[dB]
 | cons a xs ih=>simp only[dB];split<;>simp<;>omega
def QM:(prog.info? 294).map (fun i=>(i.zero,i.size,i.bytes))=some (some<|.agg #[.string ⟨#[]⟩,.string ⟨#[]⟩,.bool false],3,40):=cw
def kV{a b:ByteArray}(h:a.toList=b.toList):a=b:=by
 rw[Go.ByteArray.toList_eq,Go.ByteArray.toList_eq]at h;cases a with|mk x=>cases b with|mk y =>
 congr;exact Array.ext' h
def fT{a b:ByteArray}:(a.toList==b.toList)=true↔a=b:=⟨fun h=>kV<|by simpa using h,fun h=>by simp[h]⟩
def jN(t:Ty):List (ByteArray×ByteArray):=t.rels.map fun r=>(t.name,r.name)
def ay(ts:Q0b):List (ByteArray×ByteArray):=ts.flatMap jN
def stepOf(d:Dp):Int:=if d.neg then 1 else 0
def iP(ts:Q0b)(k:Q01):List Dp:=q8 ts k.1<|aH ts k.1 k.2
structure Sol(ts:Q0b)(f:Q00):Prop where
 pos:∀k,0<=f k
 up:∀k∈ay ts,∀d∈iP ts k,f (d.typ,d.rel)+stepOf d<=f k
def Found(ts:Q0b):Prop:=∀k∈ay ts,∀d∈iP ts k,(d.typ,d.rel)∈ay ts
def zu(vs:List Int)(x y:Int)(h:x<=y):vs.countP (fun v=>decide (v<x))<=vs.countP (fun v=>decide (v<y)) :=
 List.countP_mono_left fun v _ hv=>by simp at hv⊢;omega
def NZ(vs:List Int)(x y:Int)(h:x+1<=y)(hx:x∈vs):vs.countP (fun v=>decide (v<x))+1<=vs.countP (fun v=>decide (v<y)):=by
 induction vs with
 | nil=>cases hx
 | cons v vs ih =>
  simp only[List.countP_cons];rcases X7.1 hx with rfl|hm
  ·have:=zu vs x y cq;have h1:decide (x<x)=false:=ct;have h2:decide (x<y)=true:=by simp;omega
   simp only[h1,h2];simp;omega
  have:=ih hm;by_cases h1:v<x
  ·have h2:v<y:=cq;simp[h1,h2];omega
  simp only[h1];simp;omega
def KJ(vs:List Int)(x:Int)(hx:x∈vs):vs.countP (fun v=>decide (v<x))+1<=vs.length:=by
 induction vs with
 | nil=>cases hx
 | cons v vs ih =>
  simp only[List.countP_cons,Yh];rcases X7.1 hx with rfl|hm
  ·have:=List.countP_le_length (p:=fun v=>decide (v<x)) (l:=vs);have h1:decide (x<x)=false:=ct
   simp only[h1];simp;omega
  have:=ih hm;split<;>omega
def Sol.few{ts:Q0b}{f:Q00}(h:Sol ts f)(hF:Found ts):∃g,Sol ts g/\∀k∈ay ts,g k+1<=(ay ts).length:=by
 refine⟨fun k=>((((ay ts).map f).countP (fun v=>decide (v<f k)):Nat):Int),⟨fun k=>cq,fun k hk d hd=>?_⟩,fun k hk=>?_⟩
 ·have h1:=h.up k hk d hd;have h2:f (d.typ,d.rel)∈(ay ts).map f:=Yn<|hF k hk d hd;unfold stepOf at h1⊢;split at h1
  ·rename_i hn;have:=NZ ((ay ts).map f) _ _ h1 h2;simp only[hn,if_true];omega
  rename_i hn;have:=zu ((ay ts).map f) _ _ (show f (d.typ,d.rel)<=f k by omega);have e0:(if d.neg=true then (1:Int) else 0)=0:=if_neg hn;rw[e0];omega
 have:=KJ ((ay ts).map f) (f k)<|Yn hk;simp at this⊢;omega
def rR(ts:Q0b)(k:Q01)(n:Int):Prop:=∀f,Sol ts f->n<=f k
def QN{ts:Q0b}(hF:Found ts){k:Q01}(hk:k∈ay ts){n:Int}(hl:rR ts k n)(hn:((ay ts).length:Int)<=n):¬ ∃f,Sol ts f:=by
 rintro⟨f,hf⟩;obtain⟨g,hg,hb⟩:=hf.few hF;have:=hl g hg;have:=hb k hk;omega
def rR.step{ts:Q0b}{k:Q01}(hk:k∈ay ts){d:Dp}(hd:d∈iP ts k){n:Int}(hl:rR ts (d.typ,d.rel) n):rR ts k (n+stepOf d):=fun f hf=>by
 have h1:=hl f hf;have h2:=hf.up k hk d hd;omega
def rR.zero(ts:Q0b)(k:Q01):rR ts k 0:=fun _ hf=>hf.pos k
structure Least(ts:Q0b)(f:Q00):Prop where
 sol:Sol ts f
 low:∀k∈ay ts,rR ts k (f k)
def Least.same{ts:Q0b}{f g:Q00}(hf:Least ts f)(hg:Least ts g)(k:Q01)(hk:k∈ay ts):f k=g k:=by
 have h1:=hf.low k hk g hg.sol;have h2:=hg.low k hk f hf.sol;omega
def St.key(s:St):ByteArray×ByteArray:=(s.typ,s.rel)
def jg(out:List St):List (ByteArray×ByteArray):=out.map St.key
def rT{s:St}{k:Q01}:BO s k.1 k.2=true↔s.key=k:=by
 unfold BO St.key;rw[XN,fT,fT];constructor
 ·rintro⟨h1,h2⟩;rw[h1,h2]
 rintro rfl;exact⟨rfl,rfl⟩
def gI(out:List St)(k:Q01):Int :=
 match out with
 | []=>0
 | s::xs=>if BO s k.1 k.2 then s.n else gI xs k
def qy{k:Q01}:∀(out:List St) (j:Nat),k∈jg out->∃i:Nat,∃h:i<out.length,iG k.1 k.2 out j=((j+i:Nat):Int)/\out[i].key=k/\out[i].n=gI out k
 | [],_,h=>by cases h
 | s::xs,j,h=>by
  by_cases hs:BO s k.1 k.2=true
  ·exact⟨0,ct,by simp[iG,hs],rT.1 hs,by simp[gI,hs]⟩
  have hm:k∈jg xs:=by
   rcases X7.1 h with e|hm
   ·exact absurd (rT.2 e.symm) hs
   exact hm
  obtain⟨i,hi,h1,h2,h3⟩:=qy xs (j+1) hm;refine⟨i+1,by simp;omega,?_,by simpa using h2,by simpa[gI,hs] using h3⟩;simp only[iG,hs];simp only[Bool.false_eq_true,if_false];rw[h1];congr 1;omega
def EX{k:Q01}(out:List St)(h:k∈jg out):∃s∈out,s.key=k/\s.n=gI out k:=by
 obtain⟨i,hi,-,h2,h3⟩:=qy out 0 h;exact⟨out[i],XI hi,h2,h3⟩
def QO{k:Q01}(out:List St)(h:k ∉ jg out):gI out k=0:=by
 induction out with
 | nil=>rfl
 | cons s xs ih =>
  have h1:¬BO s k.1 k.2=true:=fun e=>h (by rw[rT]at e;simp[jg,e]);simp only[gI,h1];simp only[Bool.false_eq_true,if_false];exact ih fun hm=>h (by simp only[jg,YT,X7];exact .inr hm)
def nY:List St->Int
 | []=>0
 | s::xs=>s.n+nY xs
def QP(out:List St)(i:Nat)(h:i<out.length)(n:Int):nY (out.set i ⟨out[i].typ,out[i].rel,n⟩)=nY out-out[i].n+n:=by
 induction out generalizing i with
 | nil=>simp at h
 | cons s xs ih =>
  cases i with
  | zero=>simp[nY];omega
  | succ i=>simp only[List.set_cons_succ,nY,List.getElem_cons_succ];rw[ih i (by simpa using h)];omega
def N7(out:List St)(i:Nat)(h:i<out.length)(n:Int):jg (out.set i ⟨out[i].typ,out[i].rel,n⟩)=jg out:=by
 unfold jg;rw[List.map_set];show(List.map St.key out).set i (out[i].key)=_;have:out[i].key=(List.map St.key out)[i]'(by simpa using h):=ct
 rw[this,List.set_getElem_self]
structure Round(ts:Q0b)(out:List St):Prop where
 keys:jg out=ay ts
 pos:∀s∈out,0<=s.n
 low:∀s∈out,rR ts s.key s.n
def Ua(ts:Q0b)(out:List St)(s:St)(k:Nat):Prop:=∀d∈(iP ts s.key).take k,gI out (d.typ,d.rel)+stepOf d<=s.n
def Round.mem{ts:Q0b}{out:List St}(h:Round ts out){s:St}(hs:s∈out):s.key∈ay ts:=by rw[<-h.keys];exact Yn hs
def Round.at{ts:Q0b}{out:List St}(h:Round ts out){k:Q01}(hk:k∈ay ts):0<=gI out k/\rR ts k (gI out k):=by
 obtain⟨s,hs,e,en⟩:=EX out (by rw[h.keys];exact hk);rw[<-en,<-e];exact⟨h.pos s hs,h.low s hs⟩
def Round.set{ts:Q0b}{out:List St}(h:Round ts out)(hF:Found ts){i:Nat}(hi:i<out.length){d:Dp}(hd:d∈iP ts out[i].key):Round ts (out.set i ⟨out[i].typ,out[i].rel,gI out (d.typ,d.rel)+stepOf d⟩):=by
 have hk:out[i].key∈ay ts:=h.mem<|XI hi;have hdk:=hF _ hk d hd;obtain⟨h0,hl⟩:=h.at hdk;have hs0:0<=stepOf d:=by unfold stepOf;split<;>omega
 refine⟨(N7 out i hi _).trans h.keys,fun s hs=>?_,fun s hs=>?_⟩
 ·rcases List.mem_or_eq_of_mem_set hs with hs|rfl
  ·exact h.pos s hs
  show 0<=gI out (d.typ,d.rel)+stepOf d;omega
 rcases List.mem_or_eq_of_mem_set hs with hs|rfl
 ·exact h.low s hs
 exact hl.step hk hd
def Round.done{ts:Q0b}{out:List St}(h:Round ts out)(hs:∀s∈out,Ua ts out s (iP ts s.key).length):Least ts (gI out) where
 sol:=⟨fun k=>by
   by_cases hk:k∈ay ts
   ·exact(h.at hk).1
   ·rw[QO out (by rw[h.keys];exact hk)];exact Int.le_refl _,fun k hk d hd=>by
   obtain⟨s,hm,e,en⟩:=EX out (by rw[h.keys];exact hk);have:=hs s hm d (by rw[X8,e];exact hd);rw[<-en];exact this⟩
 low k hk:=(h.at hk).2
def jO(a b:ByteArray):Bool:=Op.bytesLess a.toList b.toList
def nE(rs:List Rl)(j:Nat):Bool :=
 match rs[j]? with
 | none=>true
 | some r=>aW r.name&&(match j with|0=>true|i+1=>(rs[i]?.map fun p=>jO p.name r.name).getD true)&&aS r.expr
def dS(rs:List Rl):Nat->Bool
 | 0=>true
 | k+1=>dS rs k&&nE rs k
def lJ(ts:Q0b)(j:Nat):Bool :=
 match ts[j]? with
 | none=>true
 | some t=>aW t.name&&(match j with|0=>true|i+1=>(ts[i]?.map fun p=>jO p.name t.name).getD true)&&decide (t.rels.length<=6)&&dS t.rels t.rels.length
def jl(ts:Q0b):Nat->Bool
 | 0=>true
 | k+1=>jl ts k&&lJ ts k
def vD(rs:List Rl)(k:Nat)(hb:nE rs k=false):∀n,k<n->dS rs n=false
 | 0,hn=>cq
 | n+1,hn=>by
  by_cases e:n=k
  ·subst e;simp[dS,hb]
  simp[dS,vD rs k hb n cq]
def vF(ts:Q0b)(k:Nat)(hb:lJ ts k=false):∀n,k<n->jl ts n=false
 | 0,hn=>cq
 | n+1,hn=>by
  by_cases e:n=k
  ·subst e;simp[jl,hb]
  simp[jl,vF ts k hb n cq]
def qz{rs:List Rl}:∀{n:Nat},dS rs n=true->∀j,j<n->nE rs j=true
 | 0,_,j,hj=>cq
 | n+1,h,j,hj=>by
  simp only[dS,XN]at h;by_cases e:j=n
  ·subst e;exact h.2
  exact qz h.1 j cq
def qA{ts:Q0b}:∀{n:Nat},jl ts n=true->∀j,j<n->lJ ts j=true
 | 0,_,j,hj=>cq
 | n+1,h,j,hj=>by
  simp only[jl,XN]at h;by_cases e:j=n
  ·subst e;exact h.2
  exact qA h.1 j cq
def bz(ts:Q0b):Bool:=decide (ts.length<=6)&&jl ts ts.length
def rU(ts:Q0b)(t:Ty):Bool:=t.rels.all fun r=>bi ts t.name r.expr
def jd(ts:Q0b):Bool:=ts.all<|rU ts
def cz(ts:Q0b):Prop:=bz ts=true/\jd ts=true/\∃f,Sol ts f
def N8{rs:List Rl}{n:ByteArray}{es:Q09}(h:kJ rs n=some es):∃r∈rs,r.name=n/\r.expr=es:=by
 induction rs with
 | nil=>simp[kJ]at h
 | cons r rs ih =>
  simp only[kJ]at h;split at h
  ·rename_i hn;injection h with h;exact⟨r,ct,fT.1 hn,h⟩
  obtain⟨q,hq,e⟩:=ih h;exact⟨q,by simp[hq],e⟩
def wT{ts:Q0b}{ty n:ByteArray}{es:Q09}(h:fI ts ty n=some es):∃t∈ts,∃r∈t.rels,t.name=ty/\r.name=n/\r.expr=es:=by
 induction ts with
 | nil=>simp[fI]at h
 | cons t ts ih =>
  simp only[fI]at h;split at h
  ·rename_i hn;rcases Option.or_eq_some_iff.1 h with h|⟨-,h⟩
   ·obtain⟨r,hr,e⟩:=N8 h;exact⟨t,ct,r,hr,fT.1 hn,e⟩
   obtain⟨t',ht,e⟩:=ih h;exact⟨t',by simp[ht],e⟩
  obtain⟨t',ht,e⟩:=ih h;exact⟨t',by simp[ht],e⟩
def rV{ts:Q0b}{k:Q01}:k∈ay ts ↔ ∃t∈ts,∃r∈t.rels,k=(t.name,r.name):=by
 simp only[ay,jN,XZ,XW];constructor
 ·rintro⟨t,ht,r,hr,e⟩;exact⟨t,ht,r,hr,e.symm⟩
 rintro⟨t,ht,r,hr,e⟩;exact⟨t,ht,r,hr,e.symm⟩
def yz{ts:Q0b}{ty n:ByteArray}(h:(aH ts ty n).isEmpty=false):(ty,n)∈ay ts:=by
 unfold aH at h;cases e:fI ts ty n with
 | none=>rw[e]at h;simp at h
 | some es =>
  obtain⟨t,ht,r,hr,h1,h2,-⟩:=wT e;exact rV.2 ⟨t,ht,r,hr,by rw[h1,h2]⟩
def VP{ts:Q0b}{rel:ByteArray}{xs:Q0a}{g:ByteArray}(h:g∈gl ts rel xs):(aH ts g rel).isEmpty=false:=by
 induction xs with
 | nil=>simp[gl]at h
 | cons a xs ih =>
  simp only[gl]at h;split at h
  ·exact ih h
  rename_i hn;rcases X7.1 h with rfl|h
  ·simpa using hn
  exact ih h
def N9{neg:Bool}{xs:Q0a}{d:Dp}(h:d∈dB neg xs):∃a∈xs,a.s.toList.isEmpty=false/\d.typ=a.t/\d.rel=a.s:=by
 induction xs with
 | nil=>simp[dB]at h
 | cons a xs ih =>
  simp only[dB]at h;split at h
  ·obtain⟨b,hb,e⟩:=ih h;exact⟨b,by simp[hb],e⟩
  rename_i hn;rcases X7.1 h with rfl|h
  ·exact⟨a,ct,by simpa using hn,rfl,rfl⟩
  obtain⟨b,hb,e⟩:=ih h;exact⟨b,by simp[hb],e⟩
def vG{ts:Q0b}{typ:ByteArray}{es:Q09}{d:Dp}:∀{k:Nat},d∈aY ts typ es k->∃i,i<k/\d∈iN ts typ es i
 | 0,h=>by simp[aY]at h
 | k+1,h=>by
  simp only[aY]at h;rcases XV.1 h with h|h
  ·obtain⟨i,hi,e⟩:=vG h;exact⟨i,cq,e⟩
  exact⟨k,cq,h⟩
def EY{ts:Q0b}{typ:ByteArray}{es:Q09}(h:bi ts typ es=true):∀e∈es,p8 ts e.allow=true/\mF ts typ e=true:=by
 induction es with
 | nil=>intro e he;cases he
 | cons e es ih =>
  simp only[bi]at h;split at h
  ·rename_i hn;rw[XN]at hn;intro q hq;rcases X7.1 hq with rfl|hq
   ·exact hn
   exact ih h q hq
  cases h
def lK{ts:Q0b}(h:jd ts=true):Found ts:=by
 intro k hk d hd;unfold iP q8 at hd;have hne:(aH ts k.1 k.2).length≠0:=by
  intro e;rw[e]at hd;simp[aY]at hd
 obtain⟨es,hes⟩:∃es,fI ts k.1 k.2=some es:=by
  cases e:fI ts k.1 k.2 with
  | none=>unfold aH at hne;rw[e]at hne;simp at hne
  | some es=>exact⟨es,rfl⟩
 have ero:aH ts k.1 k.2=es:=by unfold aH;rw[hes];rfl
 rw[ero]at hd;obtain⟨t,ht,r,hr,h1,h2,h3⟩:=wT hes;have hr1:bi ts k.1 es=true:=by
  unfold jd at h;rw[XY]at h;have:=h t ht;unfold rU at this;rw[XY]at this;have:=this r hr;rw[h1,h3]at this;exact this
 obtain⟨i,hi,hdi⟩:=vG hd;unfold iN at hdi;split at hdi
 ·cases hdi
 rename_i e he;obtain⟨ra,rn⟩:=EY hr1 e<|YR he;rcases XV.1 hdi with hdi|hdi
 ·obtain⟨a,ha,hs,e1,e2⟩:=N9 hdi;unfold p8 at ra;rw[XY]at ra;have:=ra a ha;unfold qX at this;rw[hs,Bool.false_or,XN]at this;rw[e1,e2];exact yz (by simpa using this.2)
 unfold mh at hdi;unfold mF at rn;split at hdi
 ·rename_i h2;rw[if_pos h2]at rn;simp at hdi;subst hdi;exact yz (by simpa using rn)
 split at hdi
 ·obtain⟨g,hg,rfl⟩:=XW.1 hdi;exact yz<|VP hg
 cases hdi
def pq{es:Q09}(h:aS es=true):1<=es.length/\es.length<=15:=by
 simp only[aS,XN,XU]at h;exact⟨h.1.1.1.1.1,h.1.1.1.1.2⟩
def Oa{es:Q09}(h:aS es=true)(i:Nat)(hi:i<es.length):fE es.length es[i].kids:=by
 simp only[aS,XN,XU]at h;have h1:=h.1.1.2;unfold jG at h1;rw[XY]at h1;have h2:=h1 i (by simpa using hi);unfold lY dx at h2;rw[XQ hi]at h2;simp only[Option.map_some,Yv,XY,XN,XU]at h2;intro x hx;have:=h2 x hx;omega
def bI{rs:Q06}(h:bz (ai rs)=true):rs.length<=6/\(∀r∈rs,r.rows.length<=6)/\∀r∈rs,∀q∈r.rows,aS (au q.rows)=true/\q.rows.length<=15/\∀e∈q.rows,fE q.rows.length e.e.kids:=by
 simp only[bz,XN,XU]at h;rw[mD]at h;have hT:∀r∈rs,r.rows.length<=6/\dS (fD r.rows) r.rows.length=true:=by
  intro r hr;obtain⟨j,hj,rfl⟩:=Yu.1 hr;have h1:=qA h.2 j hj;unfold lJ at h1;have e:(ai rs)[j]?=some rs[j].p:=by simp[ai,hj]
  rw[e]at h1;simp only[XN,XU]at h1;have e2:rs[j].p.rels.length=rs[j].rows.length:=by simp[TR.p,fD]
  rw[e2]at h1;exact⟨h1.1.2,h1.2⟩
 refine⟨h.1,fun r hr=>(hT r hr).1,fun r hr q hq=>?_⟩;obtain⟨j,hj,rfl⟩:=Yu.1 hq;have h1:=qz (hT r hr).2 j hj;unfold nE at h1;have e:(fD r.rows)[j]?=some r.rows[j].p:=by simp[fD,hj]
 rw[e]at h1;simp only[XN]at h1;have h2:aS (au r.rows[j].rows)=true:=h1.2;have h3:=pq h2;rw[aX]at h3;refine⟨h2,h3.2,fun e he=>?_⟩;obtain⟨i,hi,rfl⟩:=Yu.1 he;have:=Oa h2 i (by rw[aX];exact hi);have e1:(au r.rows[j].rows)[i]'(by rw[aX];exact hi)=r.rows[j].rows[i].e:=by simp[au]
 rw[e1]at this;simpa[au] using this
def assigns(n:Nat):List (ByteArray×ByteArray)->List (ByteArray×ByteArray->Int)
 | []=>[fun _=>0]
 | k::ks=>(assigns n ks).flatMap fun f=>(List.range n).map fun v=>fun y=>if y=k then ((v:Nat):Int) else f y
def zw{n:Nat}:∀{ks:List<|ByteArray×ByteArray} {f:Q00},f∈assigns n ks->∀k,0<=f k
 | [],f,h,k=>by simp only[assigns,XX]at h;rw[h];exact Int.le_refl _
 | x::ks,f,h,k=>by
  simp only[assigns,XZ,XW]at h;obtain⟨g,hg,v,-,rfl⟩:=h;show 0<=(if k=x then ((v:Nat):Int) else g k);split
  ·omega
  exact zw hg k
def zx{n:Nat}(g:Q00):∀(ks:List<|ByteArray×ByteArray),(∀k∈ks,0<=g k/\g k<n)->∃f∈assigns n ks,∀k∈ks,f k=g k
 | [],_=>⟨fun _=>0,by simp[assigns],fun k hk=>by cases hk⟩
 | x::ks,h=>by
  obtain⟨f,hf,hfg⟩:=zx g ks fun k hk=>h k<|Yt _ hk;obtain⟨h0,h1⟩:=h x<|Yx ..;refine⟨fun y=>if y=x then (((g x).toNat:Nat):Int) else f y,?_,fun k hk=>?_⟩
  ·simp only[assigns,XZ,XW];exact⟨f,hf,(g x).toNat,List.mem_range.2 cq,rfl⟩
  show(if k=x then (((g x).toNat:Nat):Int) else f k)=g k;by_cases e:k=x
  ·rw[if_pos e,e];omega
  rw[if_neg e];rcases X7.1 hk with h2|h2
  ·exact absurd h2 e
  exact hfg k h2
def VQ(ts:Q0b)(f:Q00):Bool:=(ay ts).all fun k=>(iP ts k).all fun d=>decide (f (d.typ,d.rel)+stepOf d<=f k)
def Nb{ts:Q0b}{f:Q00}:VQ ts f=true ↔ ∀k∈ay ts,∀d∈iP ts k,f (d.typ,d.rel)+stepOf d<=f k:=by
 unfold VQ;simp only[XY,XU]
def BP(ts:Q0b):List (ByteArray×ByteArray->Int):=(assigns (ay ts).length<|ay ts).filter<|VQ ts
def Oc{ts:Q0b}{f:Q00}(h:f∈BP ts):Sol ts f:=by
 unfold BP at h;rw[YL]at h;exact⟨zw h.1,Nb.1 h.2⟩
def QQ{ts:Q0b}{g:Q00}(hF:Found ts)(h:Sol ts g)(hb:∀k∈ay ts,g k+1<=(ay ts).length):∃f∈BP ts,∀k∈ay ts,f k=g k:=by
 obtain⟨f,hf,hfg⟩:=zx (n:=(ay ts).length) g (ay ts) fun k hk=>⟨h.pos k,by have:=hb k hk;omega⟩;refine⟨f,?_,hfg⟩;unfold BP;rw[YL];refine⟨hf,Nb.2 fun k hk d hd=>?_⟩;rw[hfg k hk,hfg _<|hF k hk d hd];exact h.up k hk d hd
def aN(ts:Q0b):Bool:=bz ts&&jd ts && !(BP ts).isEmpty
def bf{ts:Q0b}:aN ts=true↔cz ts:=by
 unfold aN cz;simp only[XN,Bool.not_eq_true'];constructor
 ·rintro⟨⟨h1,h2⟩,h3⟩;refine⟨h1,h2,?_⟩;cases e:BP ts with
  | nil=>rw[e]at h3;cases h3
  | cons f fs=>exact⟨f,Oc<|by rw[e];exact Yx ..⟩
 rintro⟨h1,h2,f,hf⟩;refine⟨⟨h1,h2⟩,?_⟩;obtain⟨g,hg,hb⟩:=hf.few<|lK h2;obtain⟨f2,hf2,-⟩:=QQ (lK h2) hg hb;cases e:BP ts with
 | nil=>rw[e]at hf2;cases hf2
 | cons f fs=>rfl
def IG{ts:Q0b}(h:cz ts):aN ts=true:=bf.2 h
def fw{ts:Q0b}(h:¬cz ts):aN ts=false:=by
 cases e:aN ts;case false=>rfl
 exact absurd (bf.1 e) h
def own_below{w w':ag}{base:Nat}{e:TypeId}{size:Nat}{v:Value}{n:Nat}{xs:Q03}(h:w.ownsRow base e size v n xs)(hB:ae w w'):w'.ownsRow base e size v n xs:=by
 have hg:w.grownBy w' none:=⟨hB.os,hB.tape,hB.output,hB.size,fun k hk _=>hB.block k hk⟩;cases ho:v.ownBlock with
 | none=>exact h.kept hg<|.inl ho
 | some g=>exact h.kept hg (.inr<|by rw[ho];simp)
def rW{w w':ag}{v v':Value}{g o:Nat}{u:Value}(h:Aside w v w' v')(hg:cW g w)(hv:v.ownBlock≠some g)(hc:w.cell? (ap g o)=some u):w'.cell? (ap g o)=some u:=(h.cell (p:=⟨g,o,none⟩) hg hv).trans hc
def II(es:Q09)(m:Nat)(out:List Bool):(eF es m out).length=out.length:=by
 induction m generalizing out with
 | zero=>rfl
 | succ m ih =>
  simp only[eF];rw[ih];split
  ·rfl
  exact zt _ _ _ _ _
def IJ(es:Q09):(dK es).length=es.length:=by unfold dK;rw[II];simp
def IK(ts:Q0b)(typ:dw)(rows:Q08)(k:Nat)(h:k<rows.length)(ng:Bool)(hn:ng=(dK<|au rows).getD k false):aY ts typ (au rows) (k+1)=(aY ts typ (au rows) k++dB ng rows[k].e.allow)++mh ts typ ng rows[k].e:=by
 have e:(au rows)[k]?=some rows[k].e:=by simp[au,h]
 show aY ts typ (au rows) k++iN ts typ (au rows) k=_;unfold iN;rw[e,hn,Ye]
set_option maxRecDepth 100000 in
def KM(ad YY:Q02)(cap capE:Nat)(rs:Q06)(typ:dw)(rows:Q08)(w:ag)(hlen:rs.length<=1048576)(hs:kI w ad rs)(hl:∀r∈rs,r.light)(hle:rows.length<=15)(hse:iE w YY rows)(hlE:∀q∈rows,q.e.light)(hkE:∀q∈rows,fE rows.length q.e.kids)
    (hsm:∀k,(aY (ai rs) typ (au rows) k).length<=100000000) :
    Calls prog 218 #[.slice ad rs.length cap,.string typ,.slice YY rows.length capE] w fun e w'=>(∃v,e=.returned v/\w'.ownsRow w.heap.size 294 3 v (q8 (ai rs) typ<|au rows).length (fu<|q8 (ai rs) typ<|au rows))/\ae w w':=by
  have HS:=aK hs;have HL:=aK hl;have HE:=aK hse;have ZH:=aK hlE;have HKE:=aK hkE;have HSM:O (∀k,(aY (ai rs) typ (au rows) k).length<=100000000):=hsm;clear hs hl hse hlE hkE hsm;obtain⟨i0,hi,hz0,hz1,hz2⟩:=info_parts QM;go_enter func218,ntmps218;go_wp2_with fail;have hbA:ae w (w.alloc<|.cells #[] 294):=(XL _ _).alloc (XK _) _;have hown1:(w.alloc<|.cells #[] 294).ownsRow w.heap.size 294 3 (.slice (some ⟨w.heap.size,0,none⟩) 0 0) 0 []:=World.ownsRow_made w #[] 0 (XK _) cv rfl;refine(NW YY capE rows _ cq (HE.below hbA) ZH HKE).mono ?_;rintro e w1 ⟨rfl,hF⟩;have Zj:O (w1.ownsRow w.heap.size 294 3 (.slice (some ⟨w.heap.size,0,none⟩) 0 0) 0 []):=own_below hown1 hF.below;have HB1:O (ae w w1):=hbA.trans<|hF.below.mono ct;have hgN:(w.alloc<|.cells #[] 294).heap.size=w.heap.size+1:=ct;rw[hgN]at hF ⊢;have hgl:=hF.lt;have HNG:O (∀(j:Nat) (h:j<rows.length),w1.cell? ⟨w.heap.size+1,j,none⟩=some (.bool<|(dK<|au rows).getD j false)):=by
    intro j hj;have hn:j<(dK<|au rows).length:=by rw[IJ,aX];exact hj
    have:=hF.done j (by simpa[bools] using hn);rw[this];simp[bools,hn]
  clear hF hown1 hbA hgN;obtain⟨gN,hgN⟩:=eQx<|w.heap.size+1;rw[<-hgN]at hgl HNG ⊢;have hgne:w.heap.size<gN:=cq;clear hgN;go_wp2_with fail;go_loopw[7,9] (fun v i wr=>∃k:Nat,k<=rows.length/\i=.int .i64 k/\O (wr.ownsRow w.heap.size 294 3 v (aY (ai rs) typ (au rows) k).length<|fu<|aY (ai rs) typ (au rows) k)/\O (ae w wr)/\O (Aside w1 (.slice (some ⟨w.heap.size,0,none⟩) 0 0) wr v)) (fun _ i _=>rows.length-(intOf i).toNat);case atStart=>exact⟨0,XP _,rfl,Zj,HB1,Aside.refl _ _⟩
  obtain⟨k,hk,rfl,HOW,HB,HAS⟩:=hrel;by_cases hlt:k<rows.length
  · rcases HE.out.below HB.out with rfl|⟨b,off,rfl,hb,hr,hok⟩
    · simp at hlt
    obtain⟨t0,t1,t2,t3,t4⟩:=hr k hlt;have HOK:O (rows[k].ok w):=HE.mem<|XI hlt;have lg:=(ZH rows[k]<|XI hlt).1;have hk1:=bG k;have hk2:(k:Int)<(rows.length:Int):=cq;have c0:wr.cell? ⟨gN,k,none⟩=some (.bool<|(dK<|au rows).getD k false):=(HAS.cell (p:=⟨gN,k,none⟩) hgl<|by simp[Value.ownBlock];omega).trans (HNG k hlt);clear hr hok;obtain⟨ng,hng⟩:=eQx<|(dK<|au rows).getD k false;rw[<-hng]at c0;have HNK:O (ng=(dK<|au rows).getD k false):=hng;clear hng;obtain⟨W1,hW1⟩:=eQx<|wr.alloc<|.cells #[.int .i64 rows[k].e.kind,.slice rows[k].adA rows[k].e.allow.length rows[k].capA,.string rows[k].e.over,.string rows[k].e.name,.slice rows[k].adK rows[k].e.kids.length rows[k].capK] 43;have hal:ae wr W1:=by rw[hW1];exact(XL _ _).alloc (XK _) _
    have Zl:=aK hal;have Y9:=jr HB hal;have hglW:wr.heap.size<W1.heap.size:=by rw[hW1];simp
    have g0:W1.cell? ⟨wr.heap.size,0,none⟩=some (.int .i64 rows[k].e.kind):=by rw[hW1];simp
    have g1:W1.cell? ⟨wr.heap.size,1,none⟩=some (.slice rows[k].adA rows[k].e.allow.length rows[k].capA):=by rw[hW1];simp
    have g2:W1.cell? ⟨wr.heap.size,2,none⟩=some (.string rows[k].e.over):=by rw[hW1];simp
    have g3:W1.cell? ⟨wr.heap.size,3,none⟩=some (.string rows[k].e.name):=by rw[hW1];simp
    have hgr:gN<wr.heap.size:=XJ hgl HAS.size;have gn:=aM hal hgr c0;have HOW1:O (W1.ownsRow w.heap.size 294 3 u7 (aY (ai rs) typ (au rows) k).length<|fu<|aY (ai rs) typ (au rows) k):=own_below HOW hal;have HV1:O (u7.ownBlock≠some gN):=HAS.apart hgl (by simp[Value.ownBlock];omega);have HV2:O (u7.ownBlock≠some wr.heap.size):=fun e=>by have:=(HOW.lt _ e).2;omega
    clear hal c0;go_wp2_with fail;rw[<-hW1];clear hW1 t0 t1 t2 t3 t4;obtain⟨wo,hwo⟩:=eQx wr;subst hwo;go_loopw[7,11] (fun v i w2=>∃j:Nat,j<=rows[k].e.allow.length/\i=.int .i64 j/\O (w2.ownsRow w.heap.size 294 3 v ((aY (ai rs) typ (au rows) k).length+(dB ng<|rows[k].e.allow.take j).length)<|fu<|aY (ai rs) typ (au rows) k++dB ng (rows[k].e.allow.take j))/\O (ae w w2)/\O (Aside W1 u7 w2 v)) (fun _ i _=>rows[k].e.allow.length-(intOf i).toNat);case atStart=>exact⟨0,XP _,rfl,(by simpa[dB,O] using HOW1),Y9,Aside.refl _ _⟩
    obtain⟨j,hj,rfl,YZ,HB2,HA2⟩:=hrel;have d0:=rW HA2 hglW HV2 g0;have d1:=rW HA2 hglW HV2 g1;have d2:=rW HA2 hglW HV2 g2;have d3:=rW HA2 hglW HV2 g3;have dn:=rW HA2 (Nat.lt_trans hgr hglW) HV1 gn;clear g0 g1 g2 g3 gn;by_cases hjl:j<rows[k].e.allow.length
    · have hA3:=(HOK.1).below HB2;have hA4:=HOK.1;rcases hA4 with hnil|⟨ba,offa,hadA,hba,-⟩
      · rw[hnil]at hjl;simp at hjl
      rcases hA3 with hnil|⟨ba',offa',hadA',-,hra⟩
      · rw[hnil]at hjl;simp at hjl
      rw[hadA]at hadA' d1;injection hadA' with hadA';injection hadA' with e1 e2;subst e1;subst e2;obtain⟨q0,q1⟩:=hra j hjl;have hj1:=bG j;have hj2:(j:Int)<(rows[k].e.allow.length:Int):=cq;clear hra hadA;cases he:rows[k].e.allow[j].s.toList.isEmpty;case true=>
        have HE2:O (dB ng (rows[k].e.allow.take<|j+1)=dB ng (rows[k].e.allow.take j)):=QL _ _ _ hjl he;go_wp2;go_roundw;case rel=>exact⟨j+1,cq,cx,by rw[HE2];exact YZ,HB2,HA2⟩
        simp[intOf]<;>omega
      have HE2:O (dB ng (rows[k].e.allow.take<|j+1)=dB ng (rows[k].e.allow.take j)++[⟨rows[k].e.allow[j].t,rows[k].e.allow[j].s,ng⟩]):=NY _ _ _ hjl he;have a1:u7.ownBlock≠some wo.heap.size:=HA2.apart hglW HV2;have a2:u7.ownBlock≠some gN:=HA2.apart (Nat.lt_trans hgr hglW) HV1;have a3:u7.ownBlock≠some ba:=fun e=>by have:=(YZ.lt _ e).1;omega
      have l1:wo.heap.size<wr.heap.size:=XJ hglW HA2.size;have l2:gN<wr.heap.size:=Nat.lt_trans hgr l1;have l3:ba<wr.heap.size:=XJ hba HB2.size;have l4:w.heap.size<=wr.heap.size:=HB2.size;obtain⟨xs,hxs⟩:=eQx<|fu<|aY (ai rs) typ (au rows) k++dB ng (rows[k].e.allow.take j);obtain⟨n,hn⟩:=eQx<|(aY (ai rs) typ (au rows) k).length+(dB ng<|rows[k].e.allow.take j).length;have hnl:n<=101048576:=by
        have h1:=HSM k;have h2:=EW ng<|rows[k].e.allow.take j;rw[Yc]at h2;omega
      have hown:=YZ.out;rw[<-hxs,<-hn]at hown;have HXS:O (fu (aY (ai rs) typ (au rows) k++dB ng (rows[k].e.allow.take<|j+1))=xs++[.string rows[k].e.allow[j].t,.string rows[k].e.allow[j].s,.bool ng]):=by
        show _=_;rw[HE2,<-Ye,vC,<-hxs];rfl
      have HNN:O ((aY (ai rs) typ (au rows) k).length+(dB ng<|rows[k].e.allow.take<|j+1).length=n+1):=by
        show _=_;rw[HE2,hn];simp;omega
      clear YZ hxs hn;go_wp2_with fail
      go_region_held3 (fun w'=>w'.cell? ⟨wo.heap.size,1,none⟩=some (.slice (some ⟨ba,offa,none⟩) rows[k].e.allow.length rows[k].capA)/\w'.cell? ⟨ba,offa+j*2,none⟩=some (.string rows[k].e.allow[j].t) /\
          w'.cell? ⟨ba,offa+j*2+1,none⟩=some (.string rows[k].e.allow[j].s)/\w'.cell? ⟨gN,k,none⟩=some (.bool ng))
        (first
          | go_keep
          | (go_split_ands
             refine⟨?_,?_,?_,?_⟩
             · (rw[hgrow.cell_far _ (by simp;omega) (Ne.symm a1)];assumption)
             · (rw[hgrow.cell_far _ (by simp;omega) (Ne.symm a3)];assumption)
             · (rw[hgrow.cell_far _ (by simp;omega) (Ne.symm a3)];assumption)
             · (rw[hgrow.cell_far _ (by simp;omega) (Ne.symm a2)];assumption)))
        ((refine step_append_lies _ (by rfl) _ _ _ (by rfl) w.heap.size 294 i0 _ 3 40 underlying290 hi hz0 hz1 hz2 rfl cq u7 n xs (by rfl) ((hown.alloc _).drew)
            ⟨wr.heap.size,0,none⟩ 1 1 [.string rows[k].e.allow[j].t,.string rows[k].e.allow[j].s,.bool ng] (by rfl) (by rfl) (World.news_of_block (cs:=#[.string rows[k].e.allow[j].t,.string rows[k].e.allow[j].s,.bool ng]) (t:=294) (fr:=(0,0))<|heap_alloc_new wr _) (by simp[Value.oneCell'])
            cq cy cq (by simp;omega) (wr.heap.size+1) ct ?_;intro gg cp w5 hown5 hgrow hat hlt5))
      have hb5:O (ae w w5):=((HB2.alloc HB2.size _).drew).grown hgrow (by simp;omega) (fun i hi=>(hown.lt i hi).1);have hAx:Aside wr u7 w5 (.slice (some ⟨gg,0,none⟩) (n+1) cp):=(Aside.below<|((XL _ _).alloc (XK _) _).drew).trans (Aside.app hgrow (by
        rcases hat with e|e
        · left;rw[e];rfl
        · right;rw[e];simp[Value.ownBlock]))
      have HA5:=HA2.trans hAx;have HA5':O (Aside W1 _ w5<|.slice (some ⟨gg,0,none⟩) (n+1) cp):=HA5;have Ze:O (w5.ownsRow w.heap.size 294 3 (.slice (some ⟨gg,0,none⟩) (n+1) cp) ((aY (ai rs) typ (au rows) k).length+(dB ng<|rows[k].e.allow.take<|j+1).length)<|fu<|aY (ai rs) typ (au rows) k++dB ng (rows[k].e.allow.take<|j+1)):=by
        show World.ownsRow _ _ _ _ _ _ _;rw[HXS,HNN];exact hown5
      clear hown5 hgrow hat hAx HA5 hown;go_wp2;go_roundw;case rel=>exact⟨j+1,cq,cx,Ze,hb5,HA5'⟩
      simp[intOf]<;>omega
    · obtain rfl:j=rows[k].e.allow.length:=cq
      have a1:u7.ownBlock≠some wo.heap.size:=HA2.apart hglW HV2;have a2:u7.ownBlock≠some gN:=HA2.apart (Nat.lt_trans hgr hglW) HV1;have l1:wo.heap.size<wr.heap.size:=XJ hglW HA2.size;have l2:gN<wr.heap.size:=Nat.lt_trans hgr l1;have l4:w.heap.size<=wr.heap.size:=HB2.size;have HUS:=IK (ai rs) typ rows k hlt ng HNK;obtain⟨D,hD⟩:=eQx<|aY (ai rs) typ (au rows) k++dB ng rows[k].e.allow;have hown:wr.ownsRow w.heap.size 294 3 u7 D.length (fu D):=by
        have:=YZ.out;rw[X8,<-hD,<-XT,<-hD]at this;exact this
      rw[<-hD]at HUS;have hnl:D.length<=100000000:=by
        have h1:=HSM<|k+1;rw[HUS,XT]at h1;omega
      have HUP:O (aY (ai rs) typ (au rows) (k+1)=D++mh (ai rs) typ ng rows[k].e):=HUS;have HAW:O (Aside w1 (.slice (some ⟨w.heap.size,0,none⟩) 0 0) wr u7):=(HAS.trans<|Aside.below Zl).trans HA2;clear YZ HUS hD;by_cases h2:rows[k].e.kind=2
      · have HXS:O (aY (ai rs) typ (au rows) (k+1)=D++[⟨typ,rows[k].e.name,ng⟩]):=by show _=_;rw[HUP];simp[mh,h2]
        obtain⟨xs,hxs⟩:=eQx<|fu D;obtain⟨n,hn⟩:=eQx D.length;rw[<-hxs,<-hn]at hown;rw[<-hn]at hnl;have HFX:O (fu (aY (ai rs) typ (au rows)<|k+1)=xs++[.string typ,.string rows[k].e.name,.bool ng]):=by
          show _=_;rw[HXS,vC,<-hxs];rfl
        have HNN:O ((aY (ai rs) typ (au rows)<|k+1).length=n+1):=by show _=_;rw[HXS,hn];simp
        clear hxs hn;go_wp2_with fail
        go_region_held3 (fun w'=>w'.cell? ⟨wo.heap.size,3,none⟩=some (.string rows[k].e.name)/\w'.cell? ⟨gN,k,none⟩=some (.bool ng))
          (first
            | go_keep
            | (go_split_ands
               refine⟨?_,?_⟩
               · (rw[hgrow.cell_far _ (by simp;omega) (Ne.symm a1)];assumption)
               · (rw[hgrow.cell_far _ (by simp;omega) (Ne.symm a2)];assumption)))
          ((refine step_append_lies _ (by rfl) _ _ _ (by rfl) w.heap.size 294 i0 _ 3 40 underlying290 hi hz0 hz1 hz2 rfl cq u7 n xs (by rfl) ((hown.alloc _).drew)
              ⟨wr.heap.size,0,none⟩ 1 1 [.string typ,.string rows[k].e.name,.bool ng] (by rfl) (by rfl) (World.news_of_block (cs:=#[.string typ,.string rows[k].e.name,.bool ng]) (t:=294) (fr:=(0,0))<|heap_alloc_new wr _) (by simp[Value.oneCell'])
              cq cy cq (by simp;omega) (wr.heap.size+1) ct ?_;intro gg cp w5 hown5 hgrow hat hlt5))
        have hb5:O (ae w w5):=((HB2.alloc HB2.size _).drew).grown hgrow (by simp;omega) (fun i hi=>(hown.lt i hi).1);have hAx:Aside wr u7 w5 (.slice (some ⟨gg,0,none⟩) (n+1) cp):=(Aside.below<|((XL _ _).alloc (XK _) _).drew).trans (Aside.app hgrow (by
          rcases hat with e|e
          · left;rw[e];rfl
          · right;rw[e];simp[Value.ownBlock]))
        have f0:=rW hAx l1 a1 d0;have HA5:O (Aside w1 (.slice (some ⟨w.heap.size,0,none⟩) 0 0) w5<|.slice (some ⟨gg,0,none⟩) (n+1) cp):=HAW.trans hAx;have Ze:O (w5.ownsRow w.heap.size 294 3 (.slice (some ⟨gg,0,none⟩) (n+1) cp) (aY (ai rs) typ (au rows)<|k+1).length<|fu<|aY (ai rs) typ (au rows)<|k+1):=by
          show World.ownsRow _ _ _ _ _ _ _;rw[HFX,HNN];exact hown5
        clear hown5 hgrow hat hAx hown d0 d1 d2 d3 dn;go_wp2;go_roundw;case rel=>exact⟨k+1,cq,cx,Ze,hb5,HA5⟩
        simp[intOf]<;>omega
      by_cases h3:rows[k].e.kind=3
      · go_wp2_with fail;refine(zn ad cap rs _ _ _ _ hlen (HS.below HB2) HL).mono ?_;rintro e w4 ⟨⟨ad4,cap4,rfl,hs4,hn4⟩,hb4⟩;have HXG:O (aY (ai rs) typ (au rows) (k+1)=D++(iL (ai rs) typ rows[k].e.over rows[k].e.name).map fun g=>(⟨g,rows[k].e.name,ng⟩:Dp)):=by show _=_;rw[HUP];simp[mh,h3]
        generalize iL (ai rs) typ rows[k].e.over rows[k].e.name=gs at *
        have hgs:D.length+gs.length<=100000000:=by
          have h1:=HSM<|k+1;rw[HXG,XT,Yp]at h1;exact h1
        have f3:=aM hb4 l1 d3;have fn:=aM hb4 l2 dn;have Zg:O (w4.ownsRow w.heap.size 294 3 u7 D.length<|fu D):=own_below hown hb4;have Z7:=jr HB2 hb4;have HA4:O (Aside w1 (.slice (some ⟨w.heap.size,0,none⟩) 0 0) w4 u7):=HAW.trans<|Aside.below hb4;have HSG:=aK hs4;have HVG:O (∀p,ad4=some p->u7.ownBlock≠some p.block):=fun p hp e=>by have h1:=(hown.lt _ e).2;have h2:=hn4 p hp;omega
        have m1:wo.heap.size<w4.heap.size:=XJ l1 hb4.size;have m2:gN<w4.heap.size:=XJ l2 hb4.size;have m4:w.heap.size<=w4.heap.size:=Z7.size;clear hown hb4 hs4 hn4 d0 d1 d2 d3 dn l1 l2 l4;obtain⟨uo,huo⟩:=eQx u7;subst huo;go_wp2_with fail;go_loopw[7,13] (fun v i w6=>∃m:Nat,m<=gs.length/\i=.int .i64 m/\O (w6.ownsRow w.heap.size 294 3 v (D.length+m)<|fu<|D++(gs.take m).map fun g=>(⟨g,rows[k].e.name,ng⟩:Dp))/\O (ae w w6)/\O (Aside w4 uo w6 v)) (fun _ i _=>gs.length-(intOf i).toNat);case atStart=>exact⟨0,XP _,rfl,(by simpa[O] using Zg),Z7,Aside.refl _ _⟩
        obtain⟨m,hm,rfl,ZI,HB6,HA6⟩:=hrel;have x3:=rW HA6 m1 a1 f3;have xn:=rW HA6 m2 a2 fn;by_cases ZA:m<gs.length
        · rcases HSG.out with rfl|⟨bg,offg,rfl,hbg,hrg⟩
          · simp at ZA
          have q0:=rW HA6 hbg (HVG _ rfl) (hrg m ZA);have hm1:=bG m;have hm2:(m:Int)<(gs.length:Int):=cq;have b1:u7.ownBlock≠some wo.heap.size:=HA6.apart m1 a1;have b2:u7.ownBlock≠some gN:=HA6.apart m2 a2;have b3:u7.ownBlock≠some bg:=HA6.apart hbg<|HVG _ rfl;have l1:wo.heap.size<wr.heap.size:=XJ m1 HA6.size;have l2:gN<wr.heap.size:=XJ m2 HA6.size;have l3:bg<wr.heap.size:=XJ hbg HA6.size;have l4:w.heap.size<=wr.heap.size:=HB6.size;obtain⟨xs,hxs⟩:=eQx<|fu<|D++(gs.take m).map fun g=>(⟨g,rows[k].e.name,ng⟩:Dp);obtain⟨n,hn⟩:=eQx<|D.length+m;have hown:=ZI.out;rw[<-hxs,<-hn]at hown;have HFX:O (fu (D++(gs.take<|m+1).map fun g=>(⟨g,rows[k].e.name,ng⟩:Dp))=xs++[.string gs[m],.string rows[k].e.name,.bool ng]):=by
            show _=_;rw[XM ZA,YF,<-Ye,List.map_singleton,vC,<-hxs];rfl
          have HNN:O (D.length+(m+1)=n+1):=by show _=_;omega
          have hnl2:n<=100000000:=cq;have hgb:gs.length<=100000000:=cq;clear ZI hxs hn hrg hnl hgs;go_wp2_with fail
          go_region_held3 (fun w'=>w'.cell? ⟨wo.heap.size,3,none⟩=some (.string rows[k].e.name)/\w'.cell? ⟨gN,k,none⟩=some (.bool ng)/\w'.cell? ⟨bg,offg+m,none⟩=some (.string gs[m]))
            (first
              | go_keep
              | (go_split_ands
                 refine⟨?_,?_,?_⟩
                 · (rw[hgrow.cell_far _ (by simp;omega) (Ne.symm b1)];assumption)
                 · (rw[hgrow.cell_far _ (by simp;omega) (Ne.symm b2)];assumption)
                 · (rw[hgrow.cell_far _ (by simp;omega) (Ne.symm b3)];assumption)))
            ((refine step_append_lies _ (by rfl) _ _ _ (by rfl) w.heap.size 294 i0 _ 3 40 underlying290 hi hz0 hz1 hz2 rfl cq u7 n xs (by rfl) ((hown.alloc _).drew)
                ⟨wr.heap.size,0,none⟩ 1 1 [.string gs[m],.string rows[k].e.name,.bool ng] (by rfl) (by rfl) (World.news_of_block (cs:=#[.string gs[m],.string rows[k].e.name,.bool ng]) (t:=294) (fr:=(0,0))<|heap_alloc_new wr _) (by simp[Value.oneCell'])
                cq cy cq (by simp;omega) (wr.heap.size+1) ct ?_;intro gg cp w5 hown5 hgrow hat hlt5))
          have hb5:O (ae w w5):=((HB6.alloc HB6.size _).drew).grown hgrow (by simp;omega) (fun i hi=>(hown.lt i hi).1);have hAx:Aside wr u7 w5 (.slice (some ⟨gg,0,none⟩) (n+1) cp):=(Aside.below<|((XL _ _).alloc (XK _) _).drew).trans (Aside.app hgrow (by
            rcases hat with e|e
            · left;rw[e];rfl
            · right;rw[e];simp[Value.ownBlock]))
          have HA5:O (Aside w4 uo w5<|.slice (some ⟨gg,0,none⟩) (n+1) cp):=HA6.trans hAx;have Ze:O (w5.ownsRow w.heap.size 294 3 (.slice (some ⟨gg,0,none⟩) (n+1) cp) (D.length+(m+1))<|fu<|D++(gs.take<|m+1).map fun g=>(⟨g,rows[k].e.name,ng⟩:Dp)):=by
            show World.ownsRow _ _ _ _ _ _ _;rw[HFX,HNN];exact hown5
          clear hown5 hgrow hat hAx hown;go_wp2;go_roundw;case rel=>exact⟨m+1,cq,cx,Ze,hb5,HA5⟩
          simp[intOf]<;>omega
        · obtain rfl:m=gs.length:=cq
          have Ze:O (wr.ownsRow w.heap.size 294 3 u7 (aY (ai rs) typ (au rows)<|k+1).length<|fu<|aY (ai rs) typ (au rows)<|k+1):=by
            have:=ZI.out;show World.ownsRow _ _ _ _ _ _ _;rw[X8]at this;rw[HXG,XT,Yp];exact this
          have HA5:O (Aside w1 (.slice (some ⟨w.heap.size,0,none⟩) 0 0) wr u7):=HA4.trans HA6;clear ZI;go_wp2;go_roundw;case rel=>exact⟨k+1,cq,cx,Ze,HB6,HA5⟩
          simp[intOf]<;>omega
      · have HXS:O (aY (ai rs) typ (au rows) (k+1)=D):=by show _=_;rw[HUP];simp[mh,h2,h3]
        have hb2:(rows[k].e.kind==2)=false:=by simpa using h2
        have hb3:(rows[k].e.kind==3)=false:=by simpa using h3
        have Ze:O (wr.ownsRow w.heap.size 294 3 u7 (aY (ai rs) typ (au rows)<|k+1).length<|fu<|aY (ai rs) typ (au rows)<|k+1):=by
          show World.ownsRow _ _ _ _ _ _ _;rw[HXS];exact hown
        clear hown;go_wp2;go_roundw;case rel=>exact⟨k+1,cq,cx,Ze,HB2,HAW⟩
        simp[intOf]<;>omega
  · obtain rfl:k=rows.length:=cq
    have HFI:O (wr.ownsRow w.heap.size 294 3 u7 (q8 (ai rs) typ<|au rows).length<|fu<|q8 (ai rs) typ<|au rows):=by
      have:=HOW.out;show World.ownsRow _ _ _ _ _ _ _;unfold q8;rw[aX];exact this
    clear HOW;go_wp2;go_ret;exact⟨⟨_,rfl,HFI⟩,HB⟩
structure Tp where
 a:ByteArray
 b:ByteArray
 r:ByteArray
 c:ByteArray
 d:ByteArray
 s:ByteArray
abbrev cg(q:Tp):Array Value:=#[.string q.a,.string q.b,.string q.r,.string q.c,.string q.d,.string q.s]
abbrev Q05:=List Tp
def Tp.fits(t:Tp):Prop:=t.a.size<=maxLen/\t.b.size<=maxLen/\t.r.size<=maxLen/\t.c.size<=maxLen/\t.d.size<=maxLen/\t.s.size<=maxLen
def Vk(w:World)(b off:Nat)(t:Tp):Prop :=
 w.cell? ⟨b,off,none⟩=some (.string t.a)/\w.cell? ⟨b,off+1,none⟩=some (.string t.b)/\w.cell? ⟨b,off+2,none⟩=some (.string t.r) /\
 w.cell? ⟨b,off+3,none⟩=some (.string t.c)/\w.cell? ⟨b,off+4,none⟩=some (.string t.d)/\w.cell? ⟨b,off+5,none⟩=some (.string t.s)
def l6(w:World)(b off:Nat)(ts:Q05):Prop:=∀(i:Nat) (h:i<ts.length),Vk w b (off+i*6) ts[i]
def Sl(w:World)(ad:Q02)(ts:Q05):Prop:=ts=[] \/ ∃b off,ad=some ⟨b,off,none⟩/\b<w.heap.size/\l6 w b off ts
def Vk.same{w w':ag}{b off:Nat}{t:Tp}(h:Vk w b off t)(hc:∀o,w'.cell? (ap b o)=w.cell? (ap b o)):Vk w' b off t:=by
 obtain⟨h0,h1,h2,h3,h4,h5⟩:=h;exact⟨(hc _).trans h0,(hc _).trans h1,(hc _).trans h2,(hc _).trans h3,(hc _).trans h4,(hc _).trans h5⟩
def l6.below{w w':ag}{b off B:Nat}{ts:Q05}(h:l6 w b off ts)(hB:Below B w w')(hb:b<B):l6 w' b off ts :=
 fun i hi=>(h i hi).same fun o=>hB.cell (p:=⟨b,o,none⟩) hb
def Sl.below{w w':ag}{ad:Q02}{ts:Q05}(h:Sl w ad ts)(hB:ae w w'):Sl w' ad ts:=by
 rcases h with h|⟨b,off,e,hb,hr⟩
 ·exact .inl h
 exact .inr ⟨b,off,e,XJ hb hB.size,hr.below hB hb⟩
def BQ(w:World)(g o:Nat)(t:Tp):World :=
 (((((w.setCell ⟨g,o,none⟩<|.string t.a).setCell ⟨g,o+1,none⟩<|.string t.b).setCell ⟨g,o+2,none⟩<|.string t.r).setCell ⟨g,o+3,none⟩<|.string t.c).setCell ⟨g,o+4,none⟩<|.string t.d).setCell ⟨g,o+5,none⟩ (.string t.s)
def l7{w:ag}{g i j:Nat}{v:Value}(h:i≠j):(w.setCell (ap g i) v).cell? (ap g j)=w.cell? (ap g j):=by
 apply World.cell?_setCell_other;intro e;exact h<|congrArg Addr.off e
def QR{w:ag}{a:Addr}{v u:Value}(h:w.cell? a=some u):(w.setCell a v).cell? a=some v:=by
 apply World.cell?_setCell_same;exact h
def IL(w:ag)(g o:Nat)(t:Tp)(j:Nat)(h:j<o\/o+6<=j):(BQ w g o t).cell? (ap g j)=w.cell? (ap g j):=by
 unfold BQ;rw[l7 cq,l7 cq,l7 cq,l7 cq,l7 cq,l7 cq]
def Nc{w:ag}{g o:Nat}(t:Tp)(h:∀j,j<6->(w.cell?<|ap g<|o+j).isSome=true):Vk (BQ w g o t) g o t:=by
 have e:∀(W:World) (i j:Nat) (v:Value),(W.cell?<|ap g<|o+j).isSome=true->((W.setCell (ap g<|o+i) v).cell?<|ap g<|o+j).isSome=true:=by
  intro W i j v hW;by_cases hij:i=j
  ·subst hij;obtain⟨u,hu⟩:=Option.isSome_iff_exists.mp hW;rw[QR hu];rfl
  rw[l7 cq];exact hW
 have same:∀(W:World) (j:Nat) (v:Value),(W.cell?<|ap g<|o+j).isSome=true->(W.setCell (ap g<|o+j) v).cell? (ap g<|o+j)=some v:=by
  intro W j v hW;obtain⟨u,hu⟩:=Option.isSome_iff_exists.mp hW;exact QR hu
 have h0:=h 0 cq;have h1:=h 1 cq;have h2:=h 2 cq;have h3:=h 3 cq;have h4:=h 4 cq;have h5:=h 5 cq;unfold BQ Vk;refine⟨?_,?_,?_,?_,?_,?_⟩
 ·rw[l7 cq,l7 cq,l7 cq,l7 cq,l7 cq];exact same _ 0 _ h0
 ·rw[l7 cq,l7 cq,l7 cq,l7 cq];exact same _ 1 _<|e _ 0 1 _ h1
 ·rw[l7 cq,l7 cq,l7 cq];exact same _ 2 _<|e _ 1 2 _<|e _ 0 2 _ h2
 ·rw[l7 cq,l7 cq];exact same _ 3 _<|e _ 2 3 _<|e _ 1 3 _<|e _ 0 3 _ h3
 ·rw[l7 cq];exact same _ 4 _<|e _ 3 4 _<|e _ 2 4 _<|e _ 1 4 _<|e _ 0 4 _ h4
 exact same _ 5 _<|e _ 4 5 _<|e _ 3 5 _<|e _ 2 5 _<|e _ 1 5 _<|e _ 0 5 _ h5
def IM(w:ag)(g o:Nat)(t:Tp)(x:Addr):(BQ w g o t).frozen? x=w.frozen? x:=by simp[BQ]
def KN{B:Nat}{w0 w:ag}{g o:Nat}{t:Tp}(h:Below B w0 w)(hg:B<=g):Below B w0 (BQ w g o t):=by
 unfold BQ;exact(((((h.setCell (by exact hg) _).setCell (by exact hg) _).setCell (by exact hg) _).setCell (by exact hg) _).setCell (by exact hg) _).setCell (by exact hg) _
def Od(w:ag)(g o:Nat)(t:Tp):(BQ w g o t).heap.size=w.heap.size:=by simp[BQ]
structure Filling(w wr:World)(g:Nat)(ts:Q05)(k:Nat):Prop where
 below:ae w wr
 ge:w.heap.size<=g
 lt:g<wr.heap.size
 done:∀(i:Nat) (h:i<ts.length),i<k->Vk wr g (0+i*6) ts[i]
 there:∀j,j<ts.length*6->(wr.cell? ⟨g,j,none⟩).isSome=true
 free:∀j,wr.frozen? ⟨g,j,none⟩=false
def Filling.put{w wr:ag}{g:Nat}{ts:Q05}{k:Nat}(h:Filling w wr g ts k)(hk:k<ts.length):Filling w (BQ wr g (k*6) ts[k]) g ts (k+1) where
 below:=KN h.below h.ge
 ge:=h.ge
 lt:=by rw[Od];exact h.lt
 done i hi hik:=by
  by_cases e:i=k
  ·subst e;rw[Yg];exact Nc _ fun j hj=>h.there _ cq
  obtain⟨a0,a1,a2,a3,a4,a5⟩:=h.done i hi cq;refine⟨?_,?_,?_,?_,?_,?_⟩<;>(rw[IL _ _ _ _ _ cq];assumption)
 there j hj:=by
  by_cases hin:j<k*6\/k*6+6<=j
  ·rw[IL _ _ _ _ _ hin];exact h.there j hj
  obtain⟨a0,a1,a2,a3,a4,a5⟩:=Nc (w:=wr) (g:=g) (o:=k*6) ts[k] fun j hj=>h.there _ cq;have hj6:j=k*6\/j=k*6+1\/j=k*6+2\/j=k*6+3\/j=k*6+4\/j=k*6+5:=cq
  rcases hj6 with e|e|e|e|e|e
  ·rw[e,a0];rfl
  ·rw[e,a1];rfl
  ·rw[e,a2];rfl
  ·rw[e,a3];rfl
  ·rw[e,a4];rfl
  rw[e,a5];rfl
 free j:=by rw[IM];exact h.free j
def Filling.row{w w':ag}{g:Nat}{ts:Q05}(h:Filling w w' g ts ts.length):l6 w' g 0 ts:=fun i hi=>h.done i hi hi
def Filling.sl{w w':ag}{g:Nat}{ts:Q05}(h:Filling w w' g ts ts.length):Sl w' (some<|am g) ts:=.inr ⟨g,0,rfl,h.lt,h.row⟩
end Go.Proofs.YtojjoblnpldniaaGreat
namespace Go.Proofs.YtojjoblnpldniaaGreat
open ChangeShapes WideShapes ChangeAt RowKit
open Pl
attribute [local go_sem ↓] Go.wp_at_zero Go.wp_at_succ
def Vl{w W w':ag}{n:Nat}{x0 x1 x2 x3 x4 x5:Value}(h:W.cell? ⟨n,0,none⟩=some x0/\W.cell? ⟨n,1,none⟩=some x1/\W.cell? ⟨n,2,none⟩=some x2/\W.cell? ⟨n,3,none⟩=some x3/\W.cell? ⟨n,4,none⟩=some x4/\W.cell? ⟨n,5,none⟩=some x5/\n<W.heap.size/\Below n w W)(hb:ae W w'):w'.cell? ⟨n,0,none⟩=some x0/\w'.cell? ⟨n,1,none⟩=some x1/\w'.cell? ⟨n,2,none⟩=some x2/\w'.cell? ⟨n,3,none⟩=some x3/\w'.cell? ⟨n,4,none⟩=some x4/\w'.cell? ⟨n,5,none⟩=some x5/\n<w'.heap.size/\Below n w w':=by
 obtain⟨h0,h1,h2,h3,h4,h5,hn,hB⟩:=h;have hc:∀o,w'.cell? ⟨n,o,none⟩=W.cell? ⟨n,o,none⟩:=fun o=>hb.cell (p:=⟨n,o,none⟩) hn;refine⟨by rw[hc];exact h0,by rw[hc];exact h1,by rw[hc];exact h2,by rw[hc];exact h3,by rw[hc];exact h4,by rw[hc];exact h5,XJ hn hb.size,hB.trans<|hb.mono<|YV hn⟩
def Ae(a b r c d s:dw)(w:ag)(ha:a.size<=maxLen)(hb:b.size<=maxLen)(hr:r.size<=maxLen)(hc:c.size<=maxLen)(hd:d.size<=maxLen)(hs:s.size<=maxLen):
  Calls prog 267 #[.agg #[.string a,.string b,.string r,.string c,.string d,.string s]] w fun e w'=>e=.returned (.string<|bC a b r c d s)/\ae w w':=by
 by_cases hn:cZ a b r c d s=true
 ·obtain⟨h1,h2,h3,h4⟩:=kS hn;have hx:=jc a b;have hy:=jc c d;have hr12:=(o9 h2).2;have hs12:=Gc h4;clear h1 h2 h3 h4;go_enter func267,ntmps267;go_wp2_with fail;refine(eH _ _ _ _ _ _ _ ha hb hr hc hd hs).mono ?_;rintro e w1 ⟨rfl,hb1⟩;obtain⟨hc1,hf1⟩:=kL hb1;have hz1:w.heap.size<w1.heap.size:=by have:=hb1.size;simp at this;omega
  have k:∀o v,(w.alloc<|.cells #[.string a,.string b,.string r,.string c,.string d,.string s] 29).cell? ⟨w.heap.size,o,none⟩=some v->w1.cell? ⟨w.heap.size,o,none⟩=some v:=fun o v h=>by rw[hc1 _ _ ct];exact h
  have k0:=k 0 (.string a) ct;have k1:=k 1 (.string b) ct;have k2:=k 2 (.string r) ct;have k3:=k 3 (.string c) ct;have k4:=k 4 (.string d) ct;have k5:=k 5 (.string s) ct;have HB1:ae w w1:=((XL _ _).alloc (XK _) _).trans<|hb1.mono ct;clear k hb1 hc1 hf1;have q1:(9223372036854775807<(aI a b).size+1)=False:=by simp;omega
  have q2:(9223372036854775807<(aI a b).size+1+r.size)=False:=by simp;omega
  have q3:(9223372036854775807<(aI a b).size+1+r.size+1)=False:=by simp;omega
  have q4:(9223372036854775807<(aI a b).size+1+r.size+1+(aI c d).size)=False:=by simp;omega
  go_wp2_with fail
  go_region_held3 (fun w'=>w'.cell? ⟨w.heap.size,0,none⟩=some (.string a)/\w'.cell? ⟨w.heap.size,1,none⟩=some (.string b)/\w'.cell? ⟨w.heap.size,2,none⟩=some (.string r)/\w'.cell? ⟨w.heap.size,3,none⟩=some (.string c)/\w'.cell? ⟨w.heap.size,4,none⟩=some (.string d)/\w'.cell? ⟨w.heap.size,5,none⟩=some (.string s)/\w.heap.size<w'.heap.size/\ae w w')
   (first|exact Vl cE hbx|exact⟨k0,k1,k2,k3,k4,k5,hz1,HB1.drew⟩)
   (first|(go_at_call 307;refine(zZ _ _ _ cE cE).mono ?_;rintro e w' ⟨rfl,hbx⟩))
  rename_i hH;obtain⟨g0,g1,g2,g3,g4,g5,gz,gB⟩:=hH;clear k0 k1 k2 k3 k4 k5 hbx q1 q2 q3 q4 HB1;by_cases he:s.toList.isEmpty=true
  ·have HT:O (bC a b r c d s=_):=oh hn he;go_wp2;go_ret;exact⟨gZ HT.symm,gB⟩
  have he':s.toList.isEmpty=false:=by simpa using he
  have HT:O (bC a b r c d s=_):=ol hn he';clear he;go_wp2;go_ret;exact⟨gZ HT.symm,gB⟩
 have hn':cZ a b r c d s=false:=by simpa using hn
 have HT:O (bC a b r c d s=⟨#[]⟩):=vg hn';clear hn;go_enter func267,ntmps267;go_wp2_with fail;refine(eH _ _ _ _ _ _ _ ha hb hr hc hd hs).mono ?_;rintro e w1 ⟨rfl,hb1⟩;go_wp2;go_ret;exact⟨gZ HT.symm,((XL _ _).alloc (XK _) _).trans<|hb1.mono ct⟩
def Af(a b r c d s:dw)(w:ag)(ha:a.size<=maxLen)(hb:b.size<=maxLen)(hr:r.size<=maxLen)(hc:c.size<=maxLen)(hd:d.size<=maxLen)(hs:s.size<=maxLen):
  Calls prog 216 #[.agg #[.string a,.string b,.string r,.string c,.string d,.string s]] w fun e w'=>e=.returned (.string<|bC a b r c d s)/\ae w w':=by
 by_cases hn:cZ a b r c d s=true
 ·obtain⟨h1,h2,h3,h4⟩:=kS hn;have hx:=jc a b;have hy:=jc c d;have hr12:=(o9 h2).2;have hs12:=Gc h4;clear h1 h2 h3 h4;go_enter func216,ntmps216;go_wp2_with fail;refine(fZ _ _ _ _ _ _ _ ha hb hr hc hd hs).mono ?_;rintro e w1 ⟨rfl,hb1⟩;obtain⟨hc1,hf1⟩:=kL hb1;have hz1:w.heap.size<w1.heap.size:=by have:=hb1.size;simp at this;omega
  have k:∀o v,(w.alloc<|.cells #[.string a,.string b,.string r,.string c,.string d,.string s] 29).cell? ⟨w.heap.size,o,none⟩=some v->w1.cell? ⟨w.heap.size,o,none⟩=some v:=fun o v h=>by rw[hc1 _ _ ct];exact h
  have k0:=k 0 (.string a) ct;have k1:=k 1 (.string b) ct;have k2:=k 2 (.string r) ct;have k3:=k 3 (.string c) ct;have k4:=k 4 (.string d) ct;have k5:=k 5 (.string s) ct;have HB1:ae w w1:=((XL _ _).alloc (XK _) _).trans<|hb1.mono ct;clear k hb1 hc1 hf1;have q1:(9223372036854775807<(aI a b).size+1)=False:=by simp;omega
  have q2:(9223372036854775807<(aI a b).size+1+r.size)=False:=by simp;omega
  have q3:(9223372036854775807<(aI a b).size+1+r.size+1)=False:=by simp;omega
  have q4:(9223372036854775807<(aI a b).size+1+r.size+1+(aI c d).size)=False:=by simp;omega
  go_wp2_with fail
  go_region_held3 (fun w'=>w'.cell? ⟨w.heap.size,0,none⟩=some (.string a)/\w'.cell? ⟨w.heap.size,1,none⟩=some (.string b)/\w'.cell? ⟨w.heap.size,2,none⟩=some (.string r)/\w'.cell? ⟨w.heap.size,3,none⟩=some (.string c)/\w'.cell? ⟨w.heap.size,4,none⟩=some (.string d)/\w'.cell? ⟨w.heap.size,5,none⟩=some (.string s)/\w.heap.size<w'.heap.size/\ae w w')
   (first|exact Vl cE hbx|exact⟨k0,k1,k2,k3,k4,k5,hz1,HB1.drew⟩)
   (first|(go_at_call 276;refine(Aa _ _ _ cE cE).mono ?_;rintro e w' ⟨rfl,hbx⟩))
  rename_i hH;obtain⟨g0,g1,g2,g3,g4,g5,gz,gB⟩:=hH;clear k0 k1 k2 k3 k4 k5 hbx q1 q2 q3 q4 HB1;by_cases he:s.toList.isEmpty=true
  ·have HT:O (bC a b r c d s=_):=oh hn he;go_wp2;go_ret;exact⟨gZ HT.symm,gB⟩
  have he':s.toList.isEmpty=false:=by simpa using he
  have HT:O (bC a b r c d s=_):=ol hn he';clear he;go_wp2;go_ret;exact⟨gZ (HT.trans<|by simp only[YH]).symm,gB⟩
 have hn':cZ a b r c d s=false:=by simpa using hn
 have HT:O (bC a b r c d s=⟨#[]⟩):=vg hn';clear hn;go_enter func216,ntmps216;go_wp2_with fail;refine(fZ _ _ _ _ _ _ _ ha hb hr hc hd hs).mono ?_;rintro e w1 ⟨rfl,hb1⟩;go_wp2;go_ret;exact⟨gZ HT.symm,((XL _ _).alloc (XK _) _).trans<|hb1.mono ct⟩
end Go.Proofs.YtojjoblnpldniaaGreat
namespace Go.Proofs.YtojjoblnpldniaaGreat
open ChangeShapes WideShapes ChangeAt RowKit
open Pl
attribute [local go_sem ↓] Go.wp_at_zero Go.wp_at_succ
def KO{w W w':ag}{n m k:Nat}{x0 x1 x2 x3 x4 x5 y0 y1 y2 y3 y4 y5:Value}(hk:k<=n)(h:W.cell? ⟨n,0,none⟩=some x0/\W.cell? ⟨n,1,none⟩=some x1/\W.cell? ⟨n,2,none⟩=some x2/\W.cell? ⟨n,3,none⟩=some x3/\W.cell? ⟨n,4,none⟩=some x4/\W.cell? ⟨n,5,none⟩=some x5/\W.cell? ⟨m,0,none⟩=some y0/\W.cell? ⟨m,1,none⟩=some y1/\W.cell? ⟨m,2,none⟩=some y2/\W.cell? ⟨m,3,none⟩=some y3/\W.cell? ⟨m,4,none⟩=some y4/\W.cell? ⟨m,5,none⟩=some y5/\n<W.heap.size/\m<W.heap.size/\Below k w W)(hb:ae W w'):w'.cell? ⟨n,0,none⟩=some x0/\w'.cell? ⟨n,1,none⟩=some x1/\w'.cell? ⟨n,2,none⟩=some x2/\w'.cell? ⟨n,3,none⟩=some x3/\w'.cell? ⟨n,4,none⟩=some x4/\w'.cell? ⟨n,5,none⟩=some x5/\w'.cell? ⟨m,0,none⟩=some y0/\w'.cell? ⟨m,1,none⟩=some y1/\w'.cell? ⟨m,2,none⟩=some y2/\w'.cell? ⟨m,3,none⟩=some y3/\w'.cell? ⟨m,4,none⟩=some y4/\w'.cell? ⟨m,5,none⟩=some y5/\n<w'.heap.size/\m<w'.heap.size/\Below k w w':=by
 obtain⟨h0,h1,h2,h3,h4,h5,h6,h7,h8,h9,h10,h11,hn,hm,hB⟩:=h;have hc:∀o,w'.cell? ⟨n,o,none⟩=W.cell? ⟨n,o,none⟩:=fun o=>hb.cell (p:=⟨n,o,none⟩) hn;have hd:∀o,w'.cell? ⟨m,o,none⟩=W.cell? ⟨m,o,none⟩:=fun o=>hb.cell (p:=⟨m,o,none⟩) hm;exact⟨by rw[hc];exact h0,by rw[hc];exact h1,by rw[hc];exact h2,by rw[hc];exact h3,by rw[hc];exact h4,by rw[hc];exact h5,by rw[hd];exact h6,by rw[hd];exact h7,by rw[hd];exact h8,by rw[hd];exact h9,by rw[hd];exact h10,by rw[hd];exact h11,XJ hn hb.size,XJ hm hb.size,hB.trans<|hb.mono cq⟩
def BR(w:ag)(o1 o2:Obj):ae w ((w.alloc o1).alloc o2) :=
 ((XL _ _).alloc (XK _) _).alloc ct _
def KP(a b r c d s a' b' r' c' d' s':ByteArray):Int:=Lib.compareBytes (bC a b r c d s).data.toList (bC a' b' r' c' d' s').data.toList
def wU(x y:List UInt8):decide (Lib.compareBytes x y<0)=Op.bytesLess x y:=by
 induction x generalizing y with
 | nil=>cases y<;>simp[Lib.compareBytes,Op.bytesLess]
 | cons a x ih =>
  cases y with
  | nil=>simp[Lib.compareBytes,Op.bytesLess]
  | cons b y =>
   unfold Lib.compareBytes Op.bytesLess;by_cases h:a<b
   ·simp[h]
   by_cases h2:b<a
   ·have hne:(a==b)=false:=by simp;intro e;subst e;exact h h2
    simp[h,h2,hne]
   have he:a=b:=by
    have h1:=UInt8.not_lt.mp h;have h3:=UInt8.not_lt.mp h2;exact UInt8.le_antisymm h3 h1
   subst he;simp[ih]
def Vm(a b r c d s a' b' r' c' d' s':dw)(w W:ag)(hW:W=((w.alloc<|.cells #[.string a,.string b,.string r,.string c,.string d,.string s] 29).alloc<|.cells #[.string a',.string b',.string r',.string c',.string d',.string s'] 29)):W.drew.cell? (am w.heap.size)=some (.string a)/\W.drew.cell? (ap w.heap.size 1)=some (.string b)/\W.drew.cell? (ap w.heap.size 2)=some (.string r)/\W.drew.cell? (ap w.heap.size 3)=some (.string c)/\W.drew.cell? (ap w.heap.size 4)=some (.string d)/\W.drew.cell? (ap w.heap.size 5)=some (.string s)/\W.drew.cell? (am<|w.heap.size+1)=some (.string a')/\W.drew.cell? (ap (w.heap.size+1) 1)=some (.string b')/\W.drew.cell? (ap (w.heap.size+1) 2)=some (.string r')/\W.drew.cell? (ap (w.heap.size+1) 3)=some (.string c')/\W.drew.cell? (ap (w.heap.size+1) 4)=some (.string d')/\W.drew.cell? (ap (w.heap.size+1) 5)=some (.string s')/\w.heap.size<W.drew.heap.size/\w.heap.size+1<W.drew.heap.size/\ae w (W.drew):=by
 subst hW;refine⟨?_,?_,?_,?_,?_,?_,?_,?_,?_,?_,?_,?_,?_,?_,?_⟩
 all_goals first|exact(BR _ _ _).drew|(simp;done)|(simp;omega)
def wV(a b r c d s a' b' r' c' d' s':dw)(w:ag)(ha:a.size<=maxLen)(hb:b.size<=maxLen)(hr:r.size<=maxLen)(hc:c.size<=maxLen)(hd:d.size<=maxLen)(hs:s.size<=maxLen)(ga:a'.size<=maxLen)(gb:b'.size<=maxLen)(gr:r'.size<=maxLen)(gc:c'.size<=maxLen)(gd:d'.size<=maxLen)(gs:s'.size<=maxLen):
  Calls prog 139 #[.agg #[.string a,.string b,.string r,.string c,.string d,.string s],.agg #[.string a',.string b',.string r',.string c',.string d',.string s']] w (a8 w<|.int .i64<|KP a b r c d s a' b' r' c' d' s'):=by
 have H0:=Vm a b r c d s a' b' r' c' d' s' w _ rfl;go_enter func139,ntmps139;go_wp2_with fail
 go_region_held3 (fun w'=>w'.cell? (aE w)=some (.string a)/\w'.cell? (a6 w 1)=some (.string b)/\w'.cell? (a6 w 2)=some (.string r)/\w'.cell? (a6 w 3)=some (.string c)/\w'.cell? (a6 w 4)=some (.string d)/\w'.cell? (a6 w 5)=some (.string s)/\w'.cell? (am<|w.heap.size+1)=some (.string a')/\w'.cell? (ap (w.heap.size+1) 1)=some (.string b')/\w'.cell? (ap (w.heap.size+1) 2)=some (.string r')/\w'.cell? (ap (w.heap.size+1) 3)=some (.string c')/\w'.cell? (ap (w.heap.size+1) 4)=some (.string d')/\w'.cell? (ap (w.heap.size+1) 5)=some (.string s')/\w.heap.size<w'.heap.size/\w.heap.size+1<w'.heap.size/\ae w w')
  (first|assumption|exact KO (XK _) cE hbx|exact H0)
  (first|(go_at_call 216;refine(Af _ _ _ _ _ _ _ cE cE cE cE cE cE).mono ?_;rintro e w' ⟨rfl,hbx⟩)|(go_at_call 197;refine(Tryz.strings_Compare _ _ _).mono ?_;rintro e w' ⟨rfl,rfl⟩))
 rename_i hH;obtain⟨-,-,-,-,-,-,-,-,-,-,-,-,-,-,gB⟩:=hH;go_wp2;go_ret;exact⟨rfl,gB⟩
def ib(a b r c d s a' b' r' c' d' s':ByteArray):Bool:=cZ a b r c d s&&cZ a' b' r' c' d' s'&&Op.bytesLess (bC a b r c d s).toList (bC a' b' r' c' d' s').toList
def BS{a b r c d s a' b' r' c' d' s':ByteArray}(h:cZ a b r c d s=false):ib a b r c d s a' b' r' c' d' s'=false:=by simp[ib,h]
def BU{a b r c d s a' b' r' c' d' s':ByteArray}(h:cZ a' b' r' c' d' s'=false):ib a b r c d s a' b' r' c' d' s'=false:=by simp[ib,h]
def vH{a b r c d s a' b' r' c' d' s':ByteArray}(h:cZ a b r c d s=true)(h2:cZ a' b' r' c' d' s'=true):ib a b r c d s a' b' r' c' d' s'=Op.bytesLess (bC a b r c d s).toList (bC a' b' r' c' d' s').toList:=by simp[ib,h,h2]
def KQ{a b r c d s a' b' r' c' d' s':ByteArray}(h:cZ a b r c d s=true)(h2:cZ a' b' r' c' d' s'=true):ib a b r c d s a' b' r' c' d' s'=decide (KP a b r c d s a' b' r' c' d' s'<0):=by
 rw[vH h h2,KP,wU,Go.ByteArray.toList_eq,Go.ByteArray.toList_eq]
def oM(a b r c d s a' b' r' c' d' s':dw)(w:ag)(ha:a.size<=maxLen)(hb:b.size<=maxLen)(hr:r.size<=maxLen)(hc:c.size<=maxLen)(hd:d.size<=maxLen)(hs:s.size<=maxLen)(ga:a'.size<=maxLen)(gb:b'.size<=maxLen)(gr:r'.size<=maxLen)(gc:c'.size<=maxLen)(gd:d'.size<=maxLen)(gs:s'.size<=maxLen):
  Calls prog 199 #[.agg #[.string a,.string b,.string r,.string c,.string d,.string s],.agg #[.string a',.string b',.string r',.string c',.string d',.string s']] w fun e w'=>e=.returned (.bool<|ib a b r c d s a' b' r' c' d' s')/\ae w w':=by
 have H0:=Vm a b r c d s a' b' r' c' d' s' w _ rfl;by_cases h1:cZ a b r c d s=true
 ·by_cases h2:cZ a' b' r' c' d' s'=true
  ·have HT:O (ib a b r c d s a' b' r' c' d' s'=_):=vH h1 h2;go_enter func199,ntmps199;go_wp2_with fail
   go_region_held3 (fun w'=>w'.cell? ⟨w.heap.size,0,none⟩=some (.string a)/\w'.cell? ⟨w.heap.size,1,none⟩=some (.string b)/\w'.cell? ⟨w.heap.size,2,none⟩=some (.string r)/\w'.cell? ⟨w.heap.size,3,none⟩=some (.string c)/\w'.cell? ⟨w.heap.size,4,none⟩=some (.string d)/\w'.cell? ⟨w.heap.size,5,none⟩=some (.string s)/\w'.cell? ⟨w.heap.size+1,0,none⟩=some (.string a')/\w'.cell? ⟨w.heap.size+1,1,none⟩=some (.string b')/\w'.cell? ⟨w.heap.size+1,2,none⟩=some (.string r')/\w'.cell? ⟨w.heap.size+1,3,none⟩=some (.string c')/\w'.cell? ⟨w.heap.size+1,4,none⟩=some (.string d')/\w'.cell? ⟨w.heap.size+1,5,none⟩=some (.string s')/\w.heap.size<w'.heap.size/\w.heap.size+1<w'.heap.size/\ae w w')
    (first|assumption|exact KO (XK _) cE hbx|exact H0)
    (first|(go_at_call_of 198 (Value.agg #[.string a,.string b,.string r,.string c,.string d,.string s]);refine(eH a b r c d s _ ha hb hr hc hd hs).mono ?_;rintro e w' ⟨he,hbx⟩;rw[h1]at he;subst he)|(go_at_call_of 198 (Value.agg #[.string a',.string b',.string r',.string c',.string d',.string s']);refine(eH a' b' r' c' d' s' _ ga gb gr gc gd gs).mono ?_;rintro e w' ⟨he,hbx⟩;rw[h2]at he;subst he)|(go_at_call 267;refine(Ae _ _ _ _ _ _ _ cE cE cE cE cE cE).mono ?_;rintro e w' ⟨rfl,hbx⟩))
   rename_i hH;obtain⟨-,-,-,-,-,-,-,-,-,-,-,-,-,-,gB⟩:=hH;clear H0;go_wp2;go_ret;exact⟨aj HT.symm,gB⟩
  have h2':cZ a' b' r' c' d' s'=false:=by simpa using h2
  have HT:O (ib a b r c d s a' b' r' c' d' s'=false):=BU h2';clear h2;obtain⟨u0,u1,u2,u3,u4,u5,u6,u7,u8,u9,u10,u11,un,um,uB⟩:=H0;go_enter func199,ntmps199;go_wp2_with fail
  go_region_with (first|(go_at_call_of 198 (Value.agg #[.string a,.string b,.string r,.string c,.string d,.string s]);refine(eH a b r c d s _ ha hb hr hc hd hs).mono ?_;rintro e w1 ⟨he,hbx⟩;rw[h1]at he;subst he;obtain⟨k0,k1,k2,k3,k4,k5,k6,k7,k8,k9,k10,k11,kn,km,kB⟩:=KO (XK _) ⟨u0,u1,u2,u3,u4,u5,u6,u7,u8,u9,u10,u11,un,um,uB⟩ hbx)|(go_at_call_of 198 (Value.agg #[.string a',.string b',.string r',.string c',.string d',.string s']);refine(eH a' b' r' c' d' s' _ ga gb gr gc gd gs).mono ?_;rintro e w2 ⟨he,hby⟩;rw[h2']at he;subst he))
  all_goals clear u0 u1 u2 u3 u4 u5 u6 u7 u8 u9 u10 u11
  all_goals go_wp2
  all_goals go_ret
  all_goals exact⟨aj HT.symm,kB.trans<|hby.mono cq⟩
 have h1':cZ a b r c d s=false:=by simpa using h1
 have HT:O (ib a b r c d s a' b' r' c' d' s'=false):=BS h1';clear h1;obtain⟨u0,u1,u2,u3,u4,u5,u6,u7,u8,u9,u10,u11,un,um,uB⟩:=H0;go_enter func199,ntmps199;go_wp2_with fail
 go_region_with (go_at_call_of 198 (Value.agg #[.string a,.string b,.string r,.string c,.string d,.string s]);refine(eH a b r c d s _ ha hb hr hc hd hs).mono ?_;rintro e w1 ⟨he,hbx⟩;rw[h1']at he;subst he)
 all_goals clear u0 u1 u2 u3 u4 u5 u6 u7 u8 u9 u10 u11
 all_goals go_wp2
 all_goals go_ret
 all_goals exact⟨aj HT.symm,uB.trans<|hbx.mono cq⟩
def DU(a b r c d s a' b' r' c' d' s':dw)(w:ag)(ha:a.size<=maxLen)(hb:b.size<=maxLen)(hr:r.size<=maxLen)(hc:c.size<=maxLen)(hd:d.size<=maxLen)(hs:s.size<=maxLen)(ga:a'.size<=maxLen)(gb:b'.size<=maxLen)(gr:r'.size<=maxLen)(gc:c'.size<=maxLen)(gd:d'.size<=maxLen)(gs:s'.size<=maxLen):
  Calls prog 110 #[.agg #[.string a,.string b,.string r,.string c,.string d,.string s],.agg #[.string a',.string b',.string r',.string c',.string d',.string s']] w (a8 w<|.bool<|ib a b r c d s a' b' r' c' d' s'):=by
 by_cases h1:cZ a b r c d s=true
 ·by_cases h2:cZ a' b' r' c' d' s'=true
  ·have HT:O (ib a b r c d s a' b' r' c' d' s'=decide (KP a b r c d s a' b' r' c' d' s'<0)):=KQ h1 h2;go_enter func110,ntmps110;go_wp2_with fail;refine(fZ _ _ _ _ _ _ _ ha hb hr hc hd hs).mono ?_;rintro e w1 ⟨rfl,hb1⟩;obtain⟨hc1,hf1⟩:=kL hb1;have hz1:w.heap.size+1<w1.heap.size:=by have:=hb1.size;simp at this;omega
   have hy1:cX w w1:=cq;have HB1:ae w w1:=(BR _ _ _).trans (hb1.mono<|by simp;omega);go_wp2_with fail;refine(fZ _ _ _ _ _ _ _ ga gb gr gc gd gs).mono ?_;rintro e w2 ⟨rfl,hb2⟩;obtain⟨hc2,hf2⟩:=kL hb2;have hz2:w.heap.size+1<w2.heap.size:=by have:=hb2.size;omega
   have hy2:cX w w2:=cq;go_wp2_with fail;refine(wV _ _ _ _ _ _ _ _ _ _ _ _ _ ha hb hr hc hd hs ga gb gr gc gd gs).mono ?_;rintro e w3 ⟨rfl,hb3⟩;go_wp2;go_ret;exact⟨aj HT.symm,HB1.trans<|(hb2.mono cq).trans<|hb3.mono cq⟩
  have h2':cZ a' b' r' c' d' s'=false:=by simpa using h2
  have HT:O (ib a b r c d s a' b' r' c' d' s'=false):=BU h2';clear h2;go_enter func110,ntmps110;go_wp2_with fail;refine(fZ _ _ _ _ _ _ _ ha hb hr hc hd hs).mono ?_;rintro e w1 ⟨rfl,hb1⟩;obtain⟨hc1,hf1⟩:=kL hb1;have hz1:w.heap.size+1<w1.heap.size:=by have:=hb1.size;simp at this;omega
  have hy1:cX w w1:=cq;have HB1:ae w w1:=(BR _ _ _).trans (hb1.mono<|by simp;omega);go_wp2_with fail;refine(fZ _ _ _ _ _ _ _ ga gb gr gc gd gs).mono ?_;rintro e w2 ⟨rfl,hb2⟩;go_wp2;go_ret;exact⟨aj HT.symm,HB1.trans<|hb2.mono cq⟩
 have h1':cZ a b r c d s=false:=by simpa using h1
 have HT:O (ib a b r c d s a' b' r' c' d' s'=false):=BS h1';clear h1;go_enter func110,ntmps110;go_wp2_with fail;refine(fZ _ _ _ _ _ _ _ ha hb hr hc hd hs).mono ?_;rintro e w1 ⟨rfl,hb1⟩;obtain⟨hc1,hf1⟩:=kL hb1;have hz1:w.heap.size+1<w1.heap.size:=by have:=hb1.size;simp at this;omega
 have hy1:cX w w1:=cq;have HB1:ae w w1:=(BR _ _ _).trans (hb1.mono<|by simp;omega);go_wp2;go_ret;exact⟨aj HT.symm,HB1⟩
end Go.Proofs.YtojjoblnpldniaaGreat
namespace Go.Proofs.YtojjoblnpldniaaGreat
open Go.Sort
open ChangeShapes WideShapes ChangeAt RowKit
open Pl
attribute [local go_sem ↓] Go.wp_at_zero Go.wp_at_succ
def Tp.ok(t:Tp):Bool:=cZ t.a t.b t.r t.c t.d t.s
def Tp.ahead(t u:Tp):Bool:=ib t.a t.b t.r t.c t.d t.s u.a u.b u.r u.c u.d u.s
def Ag(ts:Q05)(i:Nat):Bool:=match ts[i]? with
 | none=>true
 | some t=>t.ok&&(match i with
  | 0=>true
  | j+1=>match ts[j]? with
   | none=>true
   | some u=>u.ahead t)
def yA(ts:Q05)(k:Nat):Bool:=(List.range k).all<|Ag ts
def dW(ts:Q05):Bool:=decide (ts.length<=40)&&yA ts ts.length
def tN(ts:Q05)(k:Nat):yA ts (k+1)=(yA ts k&&Ag ts k):=by simp[yA,List.range_succ]
def wW{ts:Q05}{k:Nat}(hk:k<ts.length)(h:Ag ts k=false):dW ts=false:=by
 have:yA ts ts.length=false:=by
  unfold yA;rw[List.all_eq_false];exact⟨k,by simpa using hk,by simp[h]⟩
 simp[dW,this]
def yB{ts:Q05}(h:0<ts.length):Ag ts 0=ts[0].ok:=by simp[Ag,XQ h]
def tO{ts:Q05}{j:Nat}(h:j+1<ts.length):Ag ts (j+1)=(ts[j+1].ok&&ts[j].ahead ts[j+1]):=by
 have h':j<ts.length:=cq;simp[Ag,XQ h,XQ h']
def Nf{ts:Q05}{k:Nat}(h:k<ts.length)(hn:ts[k].ok=false):Ag ts k=false:=by
 simp[Ag,XQ h,hn]
def yC(b off cap:Nat)(ts:Q05)(w:ag)(hlen:ts.length<=maxLen)(hr:l6 w b off ts)(hb:cW b w)(hf:∀t∈ts,t.fits):
    Calls prog 130 #[.slice (some<|ap b off) ts.length cap] w (a8 w<|.bool<|dW ts):=by
  unfold maxLen at hlen;by_cases hbig:40<ts.length
  · have HT:O (dW ts=false):=by show _=_;simp[dW];omega
    go_enter func130,ntmps130;go_wp2;go_ret;exact⟨aj HT.symm,XL _ _⟩
  · go_enter func130,ntmps130;go_wp2;go_loopw[3] (fun i wr=>∃k:Nat,k<=ts.length/\i=.int .i64 k/\O (yA ts k=true)/\ae w wr) (fun i _=>ts.length-(intOf i).toNat);case atStart=>exact⟨0,XP _,rfl,rfl,XL _ _⟩
    obtain⟨k,hk,rfl,hu,hB⟩:=hrel;by_cases hlt:k<ts.length
    · have HRB:=o7<|hr.below hB hb;have Zd:=o7 hf;obtain⟨t0,t1,t2,t3,t4,t5⟩:=HRB k hlt;have hk1:=bG k;have hk2:(k:Int)<(ts.length:Int):=cq
      clear hr hf;have c0:=cell_regrown t0;have c1:=cell_regrown t1;have c2:=cell_regrown t2;have c3:=cell_regrown t3;have c4:=cell_regrown t4;have c5:=cell_regrown t5;have Z5:O (∀d os,ae w<|grow (redrawn wr d) os):=fun d os=>hB.trans<|(below_regrown wr d os).mono hB.size;clear t0 t1 t2 t3 t4 t5;go_wp2_with fail;have HCT:O (∀d os,Calls prog 198 #[.agg (cg ts[k])] (grow (redrawn wr d) os) fun e w''=>e=.returned (.bool ts[k].ok)/\∃p:Regrown,w''=grow (redrawn wr p.d) p.os):=by
        obtain⟨f0,f1,f2,f3,f4,f5⟩:=Zd ts[k]<|XI hlt;exact dz fun W' _=>eH _ _ _ _ _ _ _ f0 f1 f2 f3 f4 f5
      cases hok:ts[k].ok;case false=>
        have HT:O (dW ts=false):=wW hlt<|Nf hlt hok;rw[hok]at HCT;clear hok;refine wp_region_quiet_below cw cw ?_
        repeat(go_big_quiet_step (exact HCT _ _))
        refine wpQuiet_nil ?_;rintro _ ⟨⟨dq,osq⟩,rfl⟩;go_wp2;go_ret;exact⟨aj HT.symm,Z5 dq osq⟩
      rw[hok]at HCT;by_cases hz:k=0
      · have HU:O (yA ts (k+1)=true):=by show _=_;rw[tN,hu];subst hz;rw[yB hlt,hok];rfl
        have hk8:decide ((0:Int)<(k:Int))=false:=by simp;omega
        have hk9:decide (0<k)=false:=by simp;omega
        clear hok hz;refine wp_region_quiet_below cw cw ?_
        repeat(go_big_quiet_step (exact HCT _ _))
        refine wpQuiet_nil ?_;rintro _ ⟨⟨dq,osq⟩,rfl⟩;go_wp2;go_roundw;case rel=>exact⟨k+1,cq,cx,HU,Z5 dq osq⟩
        simp[intOf];omega
      · obtain⟨m,hm⟩:∃m:Nat,k=m+1:=⟨k-1,cq⟩;have ZA:m<ts.length:=cq
        obtain⟨q0,q1,q2,q3,q4,q5⟩:=HRB m ZA;replace q0:=cell_regrown q0;replace q1:=cell_regrown q1;replace q2:=cell_regrown q2;replace q3:=cell_regrown q3;replace q4:=cell_regrown q4;replace q5:=cell_regrown q5;have hkm:(k:Int)-1=(m:Int):=cq;have hm1:=bG m;have hm2:(m:Int)<(ts.length:Int):=cq;have hpos:(0:Int)<(k:Int):=cq;have hposN:0<k:=cq;have hwm:IntKind.i64.wrap (m:Int)=(m:Int):=by rw[IntKind.wrap_i64];omega
        have HA:O (Ag ts k=ts[m].ahead ts[k]):=by show _=_;subst hm;rw[tO hlt,hok];rfl
        have HCA:O (∀d os,Calls prog 199 #[.agg (cg ts[m]),.agg<|cg ts[k]] (grow (redrawn wr d) os) fun e w''=>e=.returned (.bool<|ts[m].ahead ts[k])/\∃p:Regrown,w''=grow (redrawn wr p.d) p.os):=by
          obtain⟨f0,f1,f2,f3,f4,f5⟩:=Zd ts[k]<|XI hlt;obtain⟨g0,g1,g2,g3,g4,g5⟩:=Zd ts[m]<|XI ZA;exact dz fun W' _=>oM _ _ _ _ _ _ _ _ _ _ _ _ _ g0 g1 g2 g3 g4 g5 f0 f1 f2 f3 f4 f5
        clear hm hz hok;cases ha:ts[m].ahead ts[k];case false=>
          have HT:O (dW ts=false):=wW hlt (by rw[HA,ha]);rw[ha]at HCA;clear ha HA;refine wp_region_quiet_below cw cw ?_
          repeat(go_big_quiet_step (first|exact HCT _ _|exact HCA _ _))
          refine wpQuiet_nil ?_;rintro _ ⟨⟨dq,osq⟩,rfl⟩;go_wp2;go_ret;exact⟨aj HT.symm,Z5 dq osq⟩
        have HU:O (yA ts (k+1)=true):=by show _=_;rw[tN,hu,HA,ha];rfl
        rw[ha]at HCA;clear ha HA;refine wp_region_quiet_below cw cw ?_
        repeat(go_big_quiet_step (first|exact HCT _ _|exact HCA _ _))
        refine wpQuiet_nil ?_;rintro _ ⟨⟨dq,osq⟩,rfl⟩;go_wp2;go_roundw;case rel=>exact⟨k+1,cq,cx,HU,Z5 dq osq⟩
        simp[intOf];omega
    · go_wp2;go_ret;exact⟨aj (by have e:k=ts.length:=cq;subst e;simp[dW,hu.out];omega),hB⟩
end Go.Proofs.YtojjoblnpldniaaGreat
namespace Go.Proofs.YtojjoblnpldniaaGreat
open Pl
def BV:∀x y z:List UInt8,Op.bytesLess x y=true->Op.bytesLess y z=true->Op.bytesLess x z=true
 | [],_,[],h,k=>by cases ‹List UInt8› <;> simp [Op.bytesLess] at h k
 | [],_,_::_,_,_=>rfl
 | _::_,[],_,h,_=>by simp[Op.bytesLess]at h
 | _::_,_::_,[],_,k=>by simp[Op.bytesLess]at k
 | a::x,b::y,c::z,h,k=>by
  simp only[Op.bytesLess,Bool.or_eq_true,XN,XU,beq_iff_eq]at h k ⊢;rcases h with h|⟨h,h'⟩
  ·rcases k with k|⟨k,k'⟩
   ·exact .inl<|UInt8.lt_trans h k
   exact .inl<|k ▸ h
  rcases k with k|⟨k,k'⟩
  ·exact .inl<|h ▸ k
  exact .inr ⟨h.trans k,BV x y z h' k'⟩
open ChangeAt ChangeShapes Maps RowKit WideShapes
def Oe(x y:Tp):Bool:=x.a.toList==y.a.toList&&x.b.toList==y.b.toList&&x.r.toList==y.r.toList&&x.c.toList==y.c.toList&&x.d.toList==y.d.toList&&x.s.toList==y.s.toList
def IP{x y:ByteArray}(k:x.toList=y.toList):x=y:=by
 rw[Go.ByteArray.toList_eq,Go.ByteArray.toList_eq]at k;obtain⟨x⟩:=x;obtain⟨y⟩:=y;exact congrArg ByteArray.mk<|Array.toList_inj.1 k
def QS(x y:Tp){v:Bool}(h:Oe x y=v)(w:ag):
  (binOp .eql 29 (.agg<|cg x)<|.agg<|cg y).run prog w=.ok (.bool v) w:=by
 subst h;go_simp;unfold Oe
 (repeat' split)<;>simp_all
def yD(ts:Q05)(t:Tp):Bool:=ts.any fun x=>Oe x t
def Og{ts:Q05}{t:Tp}{k:Nat}(h:k<ts.length):yD (ts.drop k) t=(Oe ts[k] t || yD (ts.drop<|k+1) t):=by
 rw[Yi h];rfl
def Tp.row(t:Tp):List Value:=[.string t.a,.string t.b,.string t.r,.string t.c,.string t.d,.string t.s]
def bZ(ts:Q05):List Value:=ts.flatMap Tp.row
def jP:∀ts:List Tp,(bZ ts).length=ts.length*6
 | []=>rfl
 | r::rs=>by have:=jP rs;simp only[bZ,Tp.row,Ym,XT,Yh,YO]at this ⊢;omega
def wX:∀(rs:Q05) (i:Nat) (h:i<rs.length) (j:Nat),j<6->(bZ rs)[i*6+j]?=(rs[i]).row[j]?
 | [],i,h,_,_=>by simp at h
 | r::rs,0,_,j,hj=>by
  simp only[bZ,Ym,Nat.zero_mul,Yg,List.getElem_cons_zero];rw[YK (by simpa[Tp.row] using hj)]
 | r::rs,i+1,h,j,hj=>by
  have:=wX rs i (by simpa using h) j hj;simp only[bZ,Ym,List.getElem_cons_succ]at this ⊢;rw[YA (by simp[Tp.row];omega),<-this];congr 1;simp[Tp.row];omega
def BZ(ts:Q05)(t:Tp):bZ (ts++[t])=bZ ts++t.row:=by simp[bZ]
def Ca(t:Tp):∀u∈t.row,u.oneCell'=true:=by
 intro u hu;simp[Tp.row]at hu;rcases hu with rfl|rfl|rfl|rfl|rfl|rfl<;>rfl
def EZ(w:ag)(t:Tp):∀j u,t.row[j]?=some u->(w.alloc<|.cells (cg t) 29).cell? ((⟨w.heap.size,0,none⟩:Addr).add j)=some u:=by
 intro j u hu;rw[show(⟨w.heap.size,0,none⟩:Addr).add j=⟨w.heap.size,0+j,none⟩ by simp[Addr.add];omega,Yg];have:=World.cell?_alloc_mark w (cg t) 29 (0,0) j;rw[this];simpa[Tp.row] using hu
def QT{w:ag}{base n:Nat}{v:Value}{ts:Q05}(h:w.ownsRow base 29 6 v n<|bZ ts)(hn:n=ts.length):∃ad cap,v=.slice ad ts.length cap/\Sl w ad ts/\∀g,ad=some (am g)->base<=g/\g<w.heap.size/\nu w g:=by
 subst hn;have h2:=h;rcases h.2 with⟨rfl,h0⟩|⟨g,cap,cur,rfl,hbg,hg,hnc,-⟩
 ·exact⟨none,0,by rw[h0],.inl<|X0.1 h0,fun g e=>by cases e⟩
 have hlt:=h2.lt g rfl;refine⟨some<|am g,cap,rfl,.inr ⟨g,0,rfl,hlt.2,fun i hi=>?_⟩,fun g' e=>?_⟩
 ·have hl:=jP ts;have key:∀j,j<6->w.cell? (ap g<|0+i*6+j)=(ts[i]).row[j]?:=fun j hj=>by
   rw[h2.cellAt (0+i*6+j) cq,<-wX ts i hi j hj,Yg]
  exact⟨key 0 cq,key 1 cq,key 2 cq,key 3 cq,key 4 cq,key 5 cq⟩
 injection e with e;injection e with e1 e2;subst e1;exact⟨hlt.1,hlt.2,fun y=>h2.frozenAt y⟩
def Tp.text(t:Tp):List UInt8:=(bC t.a t.b t.r t.c t.d t.s).toList
def vI{x y:Tp}(hx:x.ok=true)(hy:y.ok=true):x.ahead y=Op.bytesLess x.text y.text:=vH hx hy
def IQ{x y:Tp}(h:x.ahead y=true):x.ok=true/\y.ok=true:=by
 unfold Tp.ahead ib at h;simp only[XN]at h;exact⟨h.1.1,h.1.2⟩
def IR{x y z:Tp}(h:x.ahead y=true)(k:y.ahead z=true):x.ahead z=true:=by
 obtain⟨hx,hy⟩:=IQ h;obtain⟨-,hz⟩:=IQ k;rw[vI hx hy]at h;rw[vI hy hz]at k;rw[vI hx hz];exact BV _ _ _ h k
def Up(l:Q05):Prop:=l.Pairwise fun x y=>x.ahead y=true
def Ng{ts:Q05}(h:dW ts=true):Up ts/\(∀t∈ts,t.ok=true)/\ts.length<=40:=by
 unfold dW at h;simp only[XN,XU]at h;obtain⟨hl,hu⟩:=h;have hat:∀i,i<ts.length->Ag ts i=true:=fun i hi=>by
  unfold yA at hu;exact XY.1 hu i<|List.mem_range.2 hi
 have hok:∀i (hi:i<ts.length),ts[i].ok=true:=fun i hi=>by
  have:=hat i hi;cases i with
  | zero=>rw[yB hi]at this;exact this
  | succ j=>rw[tO hi]at this;simp only[XN]at this;exact this.1
 have hnx:∀i (hi:i+1<ts.length),ts[i].ahead ts[i+1]=true:=fun i hi=>by
  have:=hat (i+1) hi;rw[tO hi]at this;simp only[XN]at this;exact this.2
 refine⟨List.pairwise_iff_getElem.2 fun i j hi hj hij=>?_,fun t ht=>?_,hl⟩
 ·obtain⟨d,rfl⟩:∃d,j=i+1+d:=⟨j-(i+1),cq⟩
  induction d with
  | zero=>exact hnx i hj
  | succ d ih=>exact IR (ih cq cq)<|hnx (i+1+d) cq
 obtain⟨i,hi,rfl⟩:=Yu.1 ht;exact hok i hi
def Oh{ts:Q05}(h:dW ts=true):ts.length<=40:=(Ng h).2.2
def kG:List Tp->Tp->List Tp
 | [],t=>[t]
 | x::xs,t=>if x.ahead t then x::kG xs t else t::x::xs
def QU(ts:Q05)(t y:Tp):y∈kG ts t↔y=t\/y∈ts:=by
 induction ts with
 | nil=>simp[kG]
 | cons x xs ih =>
  unfold kG;split
  ·simp only[X7,ih];constructor
   ·rintro(h|h|h)
    ·exact .inr<|.inl h
    ·exact .inl h
    exact .inr<|.inr h
   rintro(h|h|h)
   ·exact .inr<|.inl h
   ·exact .inl h
   exact .inr<|.inr h
  simp
def Nh(ts:Q05)(t:Tp)(k:Nat)(hk:k<=ts.length)(h1:∀i (h:i<ts.length),i<k->ts[i].ahead t=true)(h2:∀h:k<ts.length,ts[k].ahead t=false):kG ts t=ts.take k++t::ts.drop k:=by
 induction ts generalizing k with
 | nil=>simp[kG]
 | cons x xs ih =>
  cases k with
  | zero =>
   have:=h2 ct;simp only[List.getElem_cons_zero]at this;simp[kG,this]
  | succ k =>
   have hx:=h1 0 ct cq;simp only[List.getElem_cons_zero]at hx;have:=ih k (by simpa using hk) (fun i hi hik=>by have:=h1 (i+1) (by simpa using hi) cq;simpa using this) (fun h=>by have:=h2 (by simpa using h);simpa using this);simp[kG,hx,this]
def vJ{w:ag}{b off:Nat}{ts:Q05}(h:l6 w b off ts):∀j u,(bZ ts)[j]?=some u->w.cell? ((⟨b,off,none⟩:Addr).add j)=some u:=by
 intro j u hu;have hl:=jP ts;have hj:j<ts.length*6:=by
  rcases Nat.lt_or_ge j (bZ ts).length with h|h
  ·omega
  rw[List.getElem?_eq_none h]at hu;cases hu
 have hi:j / 6<ts.length:=cq;have hr:j%6<6:=Nat.mod_lt _ cq;have e:j=j / 6*6+j%6:=cq;rw[e,wX ts _ hi _ hr]at hu;rw[show((⟨b,off,none⟩:Addr).add j)=⟨b,off+j / 6*6+j%6,none⟩ by rw[show(⟨b,off,none⟩:Addr).add j=⟨b,off+j,none⟩ by simp[Addr.add]];congr 1;omega];obtain⟨c0,c1,c2,c3,c4,c5⟩:=h (j / 6) hi;have h6:j%6=0\/j%6=1\/j%6=2\/j%6=3\/j%6=4\/j%6=5:=cq
 rcases h6 with e6|e6|e6|e6|e6|e6<;>rw[e6]at hu ⊢ <;>simp only[Tp.row,List.getElem?_cons_zero,List.getElem?_cons_succ]at hu<;>rw[<-hu]<;>assumption
def E5{w:ag}{b off:Nat}{ts:Q05}(h:l6 w b off ts)(k:Nat):l6 w b off (ts.take k):=fun i hi=>by
 have:=h i (by simp at hi;omega);simpa using this
def Oi{w:ag}{b off:Nat}{ts:Q05}(h:l6 w b off ts)(k:Nat):l6 w b (off+k*6) (ts.drop k):=fun i hi=>by
 have:=h (k+i) (by simp at hi;omega);simp only[List.getElem_drop];rw[show off+k*6+i*6=off+(k+i)*6 by omega];exact this
def tQ(ts:Q05):∀u∈bZ ts,u.oneCell'=true:=by
 intro u hu;unfold bZ at hu;obtain⟨t,-,h⟩:=XZ.1 hu;exact Ca t u h
def wY(xs ys:Q05):bZ (xs++ys)=bZ xs++bZ ys:=by simp[bZ]
def yg(w:World)(g:Nat)(t:Tp):Prop:=w.cell? ⟨g,0,none⟩=some (.string t.a)/\w.cell? ⟨g,1,none⟩=some (.string t.b)/\w.cell? ⟨g,2,none⟩=some (.string t.r)/\w.cell? ⟨g,3,none⟩=some (.string t.c)/\w.cell? ⟨g,4,none⟩=some (.string t.d)/\w.cell? ⟨g,5,none⟩=some (.string t.s)/\g<w.heap.size
def yg.below{w w':ag}{g:Nat}{t:Tp}(h:yg w g t)(hb:ae w w'):yg w' g t :=
 ⟨mK hb h.2.2.2.2.2.2 h.1,mK hb h.2.2.2.2.2.2 h.2.1,mK hb h.2.2.2.2.2.2 h.2.2.1,mK hb h.2.2.2.2.2.2 h.2.2.2.1,mK hb h.2.2.2.2.2.2 h.2.2.2.2.1,mK hb h.2.2.2.2.2.2 h.2.2.2.2.2.1,XJ h.2.2.2.2.2.2 hb.size⟩
def Gy(w:ag)(t:Tp)(T:TypeId):yg (w.alloc<|.cells (cg t) T) w.heap.size t:=by
 refine⟨?_,?_,?_,?_,?_,?_,?_⟩<;>simp
def yg.grown{w w':ag}{g:Nat}{t:Tp}{row:Option Nat}(h:yg w g t)(hg:w.grownBy w' row)(hne:some g≠row):yg w' g t :=
 ⟨hg.cell h.1 hne,hg.cell h.2.1 hne,hg.cell h.2.2.1 hne,hg.cell h.2.2.2.1 hne,hg.cell h.2.2.2.2.1 hne,hg.cell h.2.2.2.2.2.1 hne,XJ h.2.2.2.2.2.2 hg.size⟩
def qB{w w':ag}{b off:Nat}{ts:Q05}{row:Option Nat}(h:l6 w b off ts)(hg:w.grownBy w' row)(_hb:cW b w)(hne:some b≠row):l6 w' b off ts:=fun i hi=>by
 obtain⟨c0,c1,c2,c3,c4,c5⟩:=h i hi;exact⟨hg.cell c0 hne,hg.cell c1 hne,hg.cell c2 hne,hg.cell c3 hne,hg.cell c4 hne,hg.cell c5 hne⟩
def Oj{ts:Q05}{k:Nat}(h:ts.length<=k)(w:ag)(ad:Addr):∀j u,(bZ<|ts.drop k)[j]?=some u->w.cell? (ad.add j)=some u:=fun j u hu=>by
 rw[Ya h]at hu;simp[bZ]at hu
def bW{W:ag}{base base':Nat}{e:TypeId}{size:Nat}{v:Value}{k:Nat}{xs:Q03}(h:W.ownsRow base e size v k xs)(hb:base'<=base):W.ownsRow base' e size v k xs:=by
 refine⟨h.1,?_⟩;rcases h.2 with hn|⟨g,cap,cur,hv,hbg,rest⟩
 ·exact .inl hn
 exact .inr ⟨g,cap,cur,hv,XR hb hbg,rest⟩
def dU{p:Prop}(h:p):O p:=h
def QV{w:ag}{g:Nat}{t:Tp}(h0:w.cell? (am g)=some (.string t.a))(h1:w.cell? (ap g 1)=some (.string t.b))(h2:w.cell? (ap g 2)=some (.string t.r))(h3:w.cell? (ap g 3)=some (.string t.c))(h4:w.cell? (ap g 4)=some (.string t.d))(h5:w.cell? (ap g 5)=some (.string t.s))(hl:cW g w):yg w g t:=⟨h0,h1,h2,h3,h4,h5,hl⟩
def Ni{w W w':ag}{b n o:Nat}{x0 x1 x2 x3 x4 x5 y0 y1 y2 y3 y4 y5:Value}(h:W.cell? (ap b o)=some x0/\W.cell? (ap b<|o+1)=some x1/\W.cell? (ap b<|o+2)=some x2/\W.cell? (ap b<|o+3)=some x3/\W.cell? (ap b<|o+4)=some x4/\W.cell? (ap b<|o+5)=some x5/\W.cell? (am n)=some y0/\W.cell? (ap n 1)=some y1/\W.cell? (ap n 2)=some y2/\W.cell? (ap n 3)=some y3/\W.cell? (ap n 4)=some y4/\W.cell? (ap n 5)=some y5/\b<W.heap.size/\n<W.heap.size/\Below n w W)(hb:ae W w'):
  w'.cell? (ap b o)=some x0/\w'.cell? (ap b<|o+1)=some x1/\w'.cell? (ap b<|o+2)=some x2/\w'.cell? (ap b<|o+3)=some x3/\w'.cell? (ap b<|o+4)=some x4/\w'.cell? (ap b<|o+5)=some x5/\w'.cell? (am n)=some y0/\w'.cell? (ap n 1)=some y1/\w'.cell? (ap n 2)=some y2/\w'.cell? (ap n 3)=some y3/\w'.cell? (ap n 4)=some y4/\w'.cell? (ap n 5)=some y5/\b<w'.heap.size/\n<w'.heap.size/\Below n w w':=by
 obtain⟨h0,h1,h2,h3,h4,h5,g0,g1,g2,g3,g4,g5,hB,hN,hw⟩:=h;exact⟨mK hb hB h0,mK hb hB h1,mK hb hB h2,mK hb hB h3,mK hb hB h4,mK hb hB h5,mK hb hN g0,mK hb hN g1,mK hb hN g2,mK hb hN g3,mK hb hN g4,mK hb hN g5,XJ hB hb.size,XJ hN hb.size,hw.trans<|hb.mono<|YV hN⟩
set_option maxRecDepth 100000 in
def DV(ad:Q02)(cap:Nat)(rs:Q08)(w:ag)(hlen:a7 rs)(hs:iE w ad rs)(hl:∀r∈rs,r.e.light)(hk:∀r∈rs,fE rs.length r.e.kids):
  Calls prog 260 #[.slice ad rs.length cap] w fun e w'=>e=.returned (.slice (some<|am w.heap.size) rs.length rs.length)/\Fil w w' w.heap.size rs.length (bools<|dK<|au rs):=by
 have HS:=aK hs;have HL:=aK hl;have HK:=aK hk;clear hs hl hk;obtain⟨inf,hi,hz0,hz1,hz2⟩:=info_parts BM;go_enter func260,ntmps260;go_wp2_with(at_make;refine wpList_make_full _ rfl _ _ 338 rfl w.heap.size 4 inf (.bool false) 1 underlying338 hi hz0 hz1 .i64 .i64 _ _ rs.length rfl rfl rfl rfl (by rw[hz2];omega) cy (XK _) ?_;intro w0 hown0 hgrow0);have HF0:O (Fil w w0 w.heap.size rs.length<|bools<|List.replicate rs.length false):=by
  have:=EU (v:=.bool false) hown0 hgrow0;show Fil _ _ _ _ _;simpa[bools] using this
 clear hown0 hgrow0 hi hz0 hz1 hz2;go_loopw[4] (fun i wr=>∃(m:Nat) (out:List Bool),m<=rs.length/\i=.int .i64 ((m:Int)-1)/\out.length=rs.length/\O (eF (au rs) m out=dK (au rs))/\O (Fil w wr w.heap.size rs.length<|bools out)) (fun i _=>(intOf i+1).toNat);case atStart=>exact⟨rs.length,List.replicate rs.length false,XK _,cx,ct,(by show _=_;unfold dK;rw[aX]),HF0⟩
 obtain⟨m,out,hm,rfl,hol,HN,HF⟩:=hrel;by_cases hm0:0<m
 ·obtain⟨m,rfl⟩:∃m',m=m'+1:=⟨m-1,cq⟩;have hmi:(((m+1:Nat):Int)-1)=(m:Int):=cq;rw[hmi];have hlt:m<rs.length:=cq;rcases HS.out.below HF.below with rfl|⟨b,off,rfl,hb,hr,hok⟩
  ·simp at hlt
  obtain⟨t0,t1,t2,t3,t4⟩:=hr m hlt;have HOK:O (rs[m].ok _):=hok rs[m]<|XI hlt;have lg:=(HL rs[m]<|XI hlt).2;have HKI:O (fE rs.length rs[m].e.kids):=HK rs[m]<|XI hlt;have hk1:=bG m;have hk2:(m:Int)<(rs.length:Int):=cq;have hbw:cW b w:=by
   rcases HS.out with h|⟨b',off',h1,h2,-⟩
   ·rw[h]at hlt;simp at hlt
   injection h1 with h1;injection h1 with h1;omega
  have HR:O (zY wr b (off+m*5) rs[m]):=hr m hlt;have HNX:O (eF (au rs) m (bH m rs[m].e.kind rs[m].e.kids 0 out)=dK (au rs)):=by
   show _=_;rw[<-HN,BN _ _ _<|by rw[aX];exact hlt];simp[au]
  clear hr hok t0 t1 t2 t3;go_wp2_with fail;clear t4;go_loopw[23] (fun i w2=>∃(j:Nat) (Zb:List Bool),j<=rs[m].e.kids.length/\i=.int .i64 j/\Zb.length=rs.length/\O (bH m rs[m].e.kind (rs[m].e.kids.drop j) j Zb=bH m rs[m].e.kind rs[m].e.kids 0 out)/\O (Fil w w2 w.heap.size rs.length<|bools Zb)) (fun i _=>rs[m].e.kids.length-(intOf i).toNat);case atStart=>exact⟨0,out,XP _,rfl,hol,rfl,HF⟩
  obtain⟨j,Zb,hj,rfl,ho2,HJ,HF2⟩:=hrel;have hE2:iE wr _ rs:=HS.below HF2.below;have ht:zY wr b (off+m*5) rs[m]:=by
   rcases hE2 with h|⟨b',off',h1,h2,h3,-⟩
   ·exact absurd hlt (by rw[h];simp)
   injection h1 with h1;injection h1 with h1 h1';subst h1;subst h1';exact h3 m hlt
  obtain⟨t0,t1,t2,t3,t4⟩:=ht;by_cases hjl:j<rs[m].e.kids.length
  ·have hK2:uW wr rs[m].adK rs[m].e.kids:=(hE2.mem<|XI hlt).2;rcases hK2 with hnil|⟨ba,offa,ZC,hba,hra⟩
   ·rw[hnil]at hjl;simp at hjl
   rw[ZC];have q0:=hra j hjl;have hj1:=bG j;have hj2:(j:Int)<(rs[m].e.kids.length:Int):=cq;obtain⟨x0,x1⟩:=HKI _<|XI hjl;obtain⟨x,hx⟩:∃x:Nat,rs[m].e.kids[j]=(x:Int):=⟨rs[m].e.kids[j].toNat,cq⟩;rw[hx]at q0 x0 x1;have c0:=HF2.done m (by simp[bools];omega);have fz:=HF2.free;obtain⟨v0,u0⟩:=Option.isSome_iff_exists.mp<|HF2.there x cq;have hbr:cW b wr:=XJ hbw HF2.below.size;obtain⟨bo,hbo⟩:∃bo,bo=(bools Zb)[m]'(by simp[bools];omega):=⟨_,rfl⟩;rw[<-hbo]at c0;clear hra ZC hE2 t1 t2 t3;have hm2:m<Zb.length:=cq
   have hbo1:bo=.bool Zb[m]:=by rw[hbo];simp[bools]
   have hbo':Zb[m]?.getD false=Zb[m]:=by simp[hm2]
   rw[hbo1]at c0;clear hbo hbo1;cases hb0:Zb[m];case true=>
    rw[hb0]at c0 hbo';have HF4:O (Fil w (wr.setCell (a6 w x)<|.bool true) w.heap.size rs.length<|bools<|Zb.set x true):=by show Fil _ _ _ _ _;rw[pg];exact HF2.set _ (by simp[bools];omega) cq
    have HJ2:O (bH m rs[m].e.kind (rs[m].e.kids.drop<|j+1) (j+1) (Zb.set x true)=bH m rs[m].e.kind rs[m].e.kids 0 out):=by
     show _=_;rw[<-HJ,kr _ _ _ _ _ hjl,hx];simp[*]
    go_wp2;go_roundw;case rel=>exact⟨j+1,Zb.set x true,cq,cx,by simp[ho2],HJ2,HF4⟩
    simp[intOf]<;>omega
   rw[hb0]at c0 hbo';cases hkb:(rs[m].e.kind==6);case false=>
    have HF4:O (Fil w (wr.setCell (a6 w x)<|.bool false) w.heap.size rs.length<|bools<|Zb.set x false):=by show Fil _ _ _ _ _;rw[pg];exact HF2.set _ (by simp[bools];omega) cq
    have HJ2:O (bH m rs[m].e.kind (rs[m].e.kids.drop<|j+1) (j+1) (Zb.set x false)=bH m rs[m].e.kind rs[m].e.kids 0 out):=by
     show _=_;rw[<-HJ,kr _ _ _ _ _ hjl,hx];simp[*]
    go_wp2;go_roundw;case rel=>exact⟨j+1,Zb.set x false,cq,cx,by simp[ho2],HJ2,HF4⟩
    simp[intOf]<;>omega
   cases hjb:((j:Int)==1);case true=>
    have hjn:(j==1)=true:=by simp at hjb⊢;omega
    have HF4:O (Fil w (wr.setCell (a6 w x)<|.bool true) w.heap.size rs.length<|bools<|Zb.set x true):=by show Fil _ _ _ _ _;rw[pg];exact HF2.set _ (by simp[bools];omega) cq
    have HJ2:O (bH m rs[m].e.kind (rs[m].e.kids.drop<|j+1) (j+1) (Zb.set x true)=bH m rs[m].e.kind rs[m].e.kids 0 out):=by
     show _=_;rw[<-HJ,kr _ _ _ _ _ hjl,hx];simp[*]
    go_wp2;go_roundw;case rel=>exact⟨j+1,Zb.set x true,cq,cx,by simp[ho2],HJ2,HF4⟩
    simp[intOf]<;>omega
   have hjn:(j==1)=false:=by simp at hjb⊢;omega
   have HF4:O (Fil w (wr.setCell (a6 w x)<|.bool false) w.heap.size rs.length<|bools<|Zb.set x false):=by show Fil _ _ _ _ _;rw[pg];exact HF2.set _ (by simp[bools];omega) cq
   have HJ2:O (bH m rs[m].e.kind (rs[m].e.kids.drop<|j+1) (j+1) (Zb.set x false)=bH m rs[m].e.kind rs[m].e.kids 0 out):=by
    show _=_;rw[<-HJ,kr _ _ _ _ _ hjl,hx];simp[*]
   go_wp2;go_roundw;case rel=>exact⟨j+1,Zb.set x false,cq,cx,by simp[ho2],HJ2,HF4⟩
   simp[intOf]<;>omega
  have HOE:O (eF (au rs) m Zb=dK (au rs)):=by
   show _=_;rw[<-HNX,<-HJ,Ya cq];rfl
  go_wp2;go_roundw;case rel=>exact⟨m,Zb,cq,cx,ho2,HOE,HF2⟩
  simp[intOf]<;>omega
 obtain rfl:m=0:=cq;have HFE:O (Fil w wr w.heap.size rs.length<|bools<|dK<|au rs):=by
  show Fil _ _ _ _ _;rw[<-HN];exact HF
 go_wp2;go_ret;exact⟨rfl,HFE⟩
set_option linter.unusedVariables false
def AO{α:Type}(F:Fence)(n:Nat)(P:Program)(g:Nat)(lb:Array Value)(encs:α->Array Value)(Kp:Nat->World->World->Prop)(Q:List α->World->Prop)(E:List α->α->Prop)(S:List α->Prop)(w:World):Prop :=
 ∀(l:Nat) (J:List α->World->Prop) (W:World),ae w W->l<W.heap.size->w.heap.size<=l->OwnFrom W.heap.size J->(∀pre W1,J pre W1->Q pre W1) ->
  (∀pre x W1,J pre W1->E pre x->YieldAt F (n-1) P l (encs x) W1 fun e W'=>e=.returned (.bool true)/\J (pre++[x]) W'/\Kp l W1 W') ->
  J [] W ->
  CallsIn F n P g (#[.func (.yield l) #[] #[]]++lb) W fun e W'=>(∃v,e=.returned v)/\∃xs,S xs/\J xs W'
def QW(B:Nat)(R:World->Prop)(W:World):Exit->Act->World->Prop
 | .normal,_,W'=>KeepsFrom B W W'/\R W'
 | _,_,_=>False
def Nj{β:Type}{B k:Nat}{o:Obj}(hk:k<B):OwnFrom B (fun(_:β) W=>W.heap[k]?=some o):=fun _ X Y row hs hg hr=>(hg.block k (XO.1 hs).1 fun e=>by have:=(hr k e.symm).1;omega).trans hs
def VR{β:Type}{B B':Nat}{I:β->World->Prop}(h:OwnFrom B I)(hB:B<=B'):OwnFrom B' I:=fun s X Y row hs hg hr=>h s X Y row hs hg fun r e=>⟨XR hB (hr r e).1,(hr r e).2⟩
def nG{α:Type}{F:Fence}{n:Nat}{P:Program}{g:Operand}{ps:Array Tmp}{assign body:Code}{Q:Exit->Act->World->Prop}{a:Act}{w:ag}(hro:F.round=none)(h1:1<=n){gf:Nat}{lb:Array Value}(hg:a.eval g=.func (.func gf) #[] lb)(hFg:F.fn gf)(eg:∀args w,(callFunc gf args).run P w=.ok (.enter gf args) w)
  {encs:α->Array Value} {Kp:Nat->World->World->Prop} {Tell:List α->World->Prop} {E:List α->α->Prop} {S:List α->Prop} {w0:World} (hseq:AO F (n-1) P gf lb encs Kp Tell E S w0) (hb0:ae w0 w) (hps:∀x,(encs x).size=ps.size)
  (hKt:∀{l:Nat} {X Y Z:World},Kp l X Y->Kp l Y Z->Kp l X Z) (hKb:∀(W:World) (l:Nat) (o o':Obj),W.heap[l]?=some o->o.isCells=false->Kp l W (W.putObj l o'))
  (I:List α->World->Prop) (hI:OwnFrom w.heap.size I) (hT:∀pre W,I pre W->Tell pre W) (h0:I [] w)
  (Ax:α->Act->World->Prop) (hAx:∀x a',OwnFrom w.heap.size (fun(_:Unit) W=>Ax x a' W))
  (hassign:∀ (l:Nat) (pre:List α) (x:α) (W:World) (K:Act->World->Prop),I pre W->(∀ a' W',KeepsFrom w.heap.size W W'->Kp l W W'->I pre W'->Ax x a' W'->K a' W') ->
   assign.wpIn (F.inRound l) (n-1-1) P (Exit.then K fun _ _ _=>False) { tmps:=(ps.zip<|encs x).foldl (fun t (p,v)=>t.setIfInBounds p v) a.tmps,defers:=[] } W)
  (hbody:∀(l:Nat) (pre:List α) (x:α) (a':Act) (W:World),w.heap.size<=l->E pre x->I pre W->Ax x a' W->body.wpIn (F.inRound l) (n-1-1) P (QW w.heap.size (fun W'=>Kp l W W'/\I (pre++[x]) W') W) a' W)
  (hdone:∀(D:Nat) (xs:List α) (W:World),w.heap.size<=D->S xs->I xs W->W.heap[D]?=some (.deferred<|some [])->Q .normal { a with defers:={ target:=.collected D,args:=#[] }::a.defers } W) :
  (Code.rangeFunc g ps assign body).wpIn F n P Q a w:=by
 refine wpIn_rangeFunc fun fn hfn=>?_;rw[hro];obtain⟨rc,hrc⟩:∃rc:LoopState->Loop,rc=fun st=>{ state:=st,pending:=none,fn,tmps:=a.tmps,params:=ps,assign,body,defers:=w.heap.size }:=⟨_,rfl⟩;obtain⟨W0,hW0⟩:=eQx<|w.alloc<|.deferred<|some [];have s0:W0.heap.size=w.heap.size+1:=by rw[hW0];simp
 obtain⟨W1,hW1⟩:=eQx<|W0.alloc<|.loop<|rc .ready;have s1:W1.heap.size=w.heap.size+2:=by rw[hW1];simp;omega
 have k0:W0.heap[w.heap.size]?=some (.deferred<|some []):=by rw[hW0];exact World.alloc_heap_new w _
 have k1:W1.heap[w.heap.size]?=some (.deferred<|some []):=by rw[hW1];exact(Below.heap_alloc _ _ _ cq).trans k0
 have r1:W1.heap[w.heap.size+1]?=some (.loop<|rc .ready):=by rw[hW1,<-s0];exact World.alloc_heap_new W0 _
 have i1:I [] W1:=by rw[hW1,hW0];exact hI.alloc _<|hI.alloc _ h0
 have b1:ae w W1:=by rw[hW1,hW0];exact((XL _ w).alloc (XK _) _).alloc ct _
 have bb:ae w0 W1:=hb0.trans<|b1.mono hb0.size;refine⟨w.heap.size+1,[{ target:=.collected w.heap.size,args:=#[] }],W1,{ target:=.fn (.func gf) lb,args:=#[.func (.yield<|w.heap.size+1) #[] #[]] },W1,gf,#[.func (.yield<|w.heap.size+1) #[] #[]]++lb,W1,?_,?_,?_,?_,fun _=>h1,?_⟩
 ·rw[hW1,hW0,hrc];exact run_enterLoop_outer _ _ _ _ _
 ·simp only[resolve,hg];simp[go_sem]
 ·intro f hf;simp[Target.leads]at hf;subst hf;exact hFg
 ·simp[invoke,go_sem,eg]
 have hJ:OwnFrom W1.heap.size (fun pre W=>I pre W/\W.heap[w.heap.size+1]?=some (.loop<|rc .ready)/\W.heap[w.heap.size]?=some (.deferred<|some [])) :=
  (VR hI cq).and ((Nj cq).and<|Nj cq)
 refine(hseq (w.heap.size+1) _ W1 bb cq (by have:=hb0.size;omega) hJ (fun pre W h=>hT pre W h.1) ?_ ⟨i1,r1,k1⟩).mono ?_
 ·rintro pre x W ⟨hi,hl,hk⟩ hEx;have hy:=run_yield (P:=P) (args:=encs x) hl (by rw[hrc];exact hps x);rw[hrc]at hy;refine⟨fn,_,assign,body,hy,roundIn_of_wpIn hfn<|hassign _ pre x W _ hi ?_⟩;clear hy;intro a' Wa hka hkp hia hax;have hla:=hka.same _ _ cq hl rfl;have hda:=hka.same _ _ (XK _) hk rfl;have hlt:w.heap.size+1<Wa.heap.size:=(XO.1 hla).1;refine⟨_,run_beginRound hla<|by rw[hrc],?_⟩;obtain⟨Wb,hWb⟩:=eQx<|Wa.putObj (w.heap.size+1)<|.loop { rc .ready with state:=.busy };rw[<-hWb];have lb2:Wb.heap[w.heap.size+1]?=some (.loop { rc .ready with state:=.busy }):=by rw[hWb];exact World.putObj_heap_same hlt
  have db2:Wb.heap[w.heap.size]?=some (.deferred<|some []):=by rw[hWb];exact(World.putObj_heap_other cq).trans hda
  have kb2:Kp (w.heap.size+1) Wa Wb:=by rw[hWb];exact hKb _ _ _ _ hla rfl
  have ib2:I pre Wb:=by rw[hWb];exact hI.putObj _ hia cq hla rfl
  have ab2:Ax x a' Wb:=by rw[hWb];exact(hAx x a').putObj (s:=()) _ hax cq hla rfl
  refine wpIn_mono (hbody _ pre x a' _ cq hEx ib2 ab2) ?_;intro e a3 W3 hp;cases e;case normal=>
   obtain⟨hk3,hkp3,hi3⟩:=hp;have hl3:=hk3.same _ _ cq lb2 rfl;have hd3:=hk3.same _ _ (XK _) db2 rfl;have hend:=run_endRound (P:=P) none hl3;rw[hrc]at hend;refine⟨_,_,hend,rfl,⟨hI.putObj _ hi3 cq hl3 rfl,?_,(World.putObj_heap_other cq).trans hd3⟩,hKt hkp<|hKt (hKt kb2 hkp3)<|hKb _ _ _ _ hl3 rfl⟩;rw[hrc];exact World.putObj_heap_same (XO.1 hl3).1
  case ret=>exact hp.elim
  case exit id=>exact hp.elim
  case goto t=>exact hp.elim
  case panic ch=>exact hp.elim
  exact hp.elim
 rintro e W2 ⟨⟨v,rfl⟩,xs,hS,hi,hl,hk⟩;have hend:=run_endLoop (P:=P) hl (by rw[hrc];simp);rw[hrc]at hend;exact⟨none,_,hend,hdone _ xs _ (XK _) hS (hI.putObj _ hi cq hl rfl) ((World.putObj_heap_other cq).trans hk)⟩
def az{B:Nat}{w w':ag}(hB:Below B w w'){n o:Nat}{v:Value}(hn:n<B)(h:w.cell? (ap n o)=some v):w'.cell? (ap n o)=some v:=(hB.cell (p:=⟨n,o,none⟩) hn).trans h
def aJ{p:Prop}(h:p):O p:=h
def aP{w w':ag}{base:Nat}{e:TypeId}{size:Nat}{v:Value}{n:Nat}{xs:Q03}(h:w.ownsRow base e size v n xs)(hb:ae w w'):w'.ownsRow base e size v n xs:=by
 have hl:=fun g hg=>(h.lt g hg).2;refine⟨h.1,?_⟩;rcases h.2 with h0|⟨g,cap,cur,rfl,h1,h2,h3⟩
 ·exact .inl h0
 exact .inr ⟨g,cap,cur,rfl,h1,(hb.block g<|hl g rfl).trans h2,h3⟩
def q9(es:Q09):List Int->Nat->Nat->Prop
 | [],a,b=>a=b
 | k::ks,a,b=>0<=k/\aC es k.toNat=(a:Int)/\q9 es ks (k.toNat+1) b
def Cb{es:Q09}:∀(ks:List Int) (k:Int) (a m b:Nat),q9 es ks a m->0<=k->aC es k.toNat=(m:Int)->k.toNat+1=b->q9 es (ks++[k]) a b
 | [],k,a,m,b,h,h0,h1,h2=>by
  have:a=m:=h;subst this;exact⟨h0,h1,h2⟩
 | x::ks,k,a,m,b,h,h0,h1,h2=>⟨h.1,h.2.1,Cb ks k _ m b h.2.2 h0 h1 h2⟩
def IU{es:Q09}{n:Nat}:∀(rs:List Int) (b:Nat),b<=n->0<=dF (dJ es n) rs ((b:Int)-1)->q9 es rs.reverse (dF (dJ es n) rs<|(b:Int)-1).toNat b
 | [],b,_,h=>by simp[dF,q9]
 | k::rs,b,hb,h=>by
  unfold dF at h⊢;split at h
  ·omega
  rename_i c;rw[if_neg c];split at h
  ·omega
  rename_i c2;rw[if_neg c2];have h0:0<=(b:Int)-1:=cq;have hk:k=(b:Int)-1:=cq;have hF:dJ es n ((b:Int)-1)=aC es ((b:Int)-1).toNat:=by unfold dJ;rw[if_pos ⟨h0,cq⟩]
  have hle:=gJ es ((b:Int)-1).toNat;rw[hF]at h c2 ⊢;obtain⟨m,hm⟩:∃m:Nat,aC es ((b:Int)-1).toNat=(m:Int):=⟨(aC es ((b:Int)-1).toNat).toNat,cq⟩;rw[hm]at h hle ⊢;rw[List.reverse_cons];exact Cb _ k _ m b (IU rs m cq h) cq (by rw[hk,hm]) cq
def nH{es:Q09}{n:Nat}(h:0<=aC es n):q9 es (dx es n) (aC es n).toNat n:=by
 rw[jK]at h ⊢;have:=IU (dx es n).reverse n (XK _) h;rw[List.reverse_reverse]at this;exact this
def pu{es:Q09}:∀(ks:List Int) (a b:Nat),q9 es ks a b->a<=b/\∀k∈ks,0<=k/\k.toNat<b
 | [],a,b,h=>⟨Nat.le_of_eq h,fun k hk=>by cases hk⟩
 | x::ks,a,b,h=>by
  obtain⟨h1,h2⟩:=pu ks _ b h.2.2;have:=gJ es x.toNat;have h3:=h.2.1;refine⟨cq,fun k hk=>?_⟩;rcases X7.1 hk with rfl|hk
  ·exact⟨h.1,cq⟩
  exact h2 k hk
def Cc{es:Q09}:∀(ks:List Int) (a b:Nat),q9 es ks a b->(ks.length:Int)<=(b:Int)-a/\∀k∈ks,(k.toNat:Int)-aC es k.toNat+(ks.length:Int)<=(b:Int)-a
 | [],a,b,h=>by
  have:a=b:=h;exact⟨by simp;omega,fun k hk=>by cases hk⟩
 | x::ks,a,b,h=>by
  obtain⟨h1,h2⟩:=Cc ks _ b h.2.2;have h3:=gJ es x.toNat;have h4:=h.2.1;rw[Yh];refine⟨cq,fun k hk=>?_⟩;rcases X7.1 hk with rfl|hk
  ·omega
  have:=h2 k hk;omega
def QX{es:Q09}{n d:Nat}(ht:0<=aC es n)(h2:2<=(dx es n).length)(hd:(n:Int)-aC es n+1<2*((d+1:Nat):Int)):∀k∈dx es n,(k.toNat:Int)-aC es k.toNat+1<2*(d:Int):=fun k hk=>by
 have h:=(Cc _ _ _<|nH ht).2 k hk;omega
def Ol{es:Q09}(h:aS es=true):∀j,j<es.length->0<=aC es j:=by
 rw[tH]at h;unfold lw at h;simp only[XN,XU]at h;have h1:=h.2.1;unfold jv at h1;rw[XY]at h1;intro j hj;simpa using h1 j (by simpa using hj)
end Go.Proofs.YtojjoblnpldniaaGreat
