/- Contracts of the law's helpers that weigh a schema. -/
import Derived.Test.YtojjoblnpldniaaGreatSq
import Derived.Test.YtojjoblnpldniaaGreatJ4
import Derived.Test.YtojjoblnpldniaaGreatJ6
import Derived.Lib.Join
open Go.Proofs.Tryz
set_option maxHeartbeats 80000000
namespace Go.Proofs.YtojjoblnpldniaaGreat
open ChangeShapes WideShapes ChangeAt RowKit
open Pl
def RR.row(r:RR):List Value:=[.string r.name,.slice r.ad r.rows.length r.cap]
def TR.row(r:TR):List Value:=[.string r.name,.slice r.ad r.rows.length r.cap]
theorem mO{w:ae}{g i j:Nat}{v:Value}(h:i≠j):(w.setCell ⟨g,i,none⟩ v).cell? ⟨g,j,none⟩=w.cell? ⟨g,j,none⟩:=by
 apply World.cell?_setCell_other;intro e;exact h (congrArg Addr.off e)
theorem mS{w:ae}{a:Addr}{v u:Value}(h:w.cell? a=some u):(w.setCell a v).cell? a=some v:=by
 apply World.cell?_setCell_same;exact h
theorem mK{W w1:ae}{n o:Nat}{v:Value}(hb:ag W w1)(hn:n<W.heap.size)(h:W.cell? ⟨n,o,none⟩=some v):w1.cell? ⟨n,o,none⟩=some v:=by
 rw[hb.cell (p:=⟨n,o,none⟩) hn];exact h
theorem mF{W w1:ae}{n o:Nat}(hb:ag W w1)(hn:n<W.heap.size)(h:W.frozen? ⟨n,o,none⟩=false):w1.frozen? ⟨n,o,none⟩=false:=by
 rw[hb.frozen (p:=⟨n,o,none⟩) hn];exact h
def jb(w:World)(g:Nat):Prop:=∀j,w.frozen? ⟨g,j,none⟩=false
structure Chg(S:Nat->Prop)(w w':World):Prop where
 base:Below 0 w w'
 block:∀k,k<w.heap.size->¬S k->w'.heap[k]?=w.heap[k]?
 free:∀g,g<w.heap.size->jb w g->jb w' g
theorem Chg.refl(S:Nat->Prop)(w:ae):Chg S w w:=⟨Vs _ _,fun _ _ _=>rfl,fun _ _ h=>h⟩
theorem Chg.size{S:Nat->Prop}{w w':ae}(h:Chg S w w'):w.heap.size<=w'.heap.size:=h.base.size
theorem Chg.trans{S:Nat->Prop}{a b c:ae}(h:Chg S a b)(k:Chg S b c):Chg S a c :=
 ⟨h.base.trans k.base,fun i hi hs=>(k.block i (Vq hi h.size) hs).trans (h.block i hi hs),fun g hg hf=>k.free g (Vq hg h.size) (h.free g hg hf)⟩
theorem Chg.mono{S T:Nat->Prop}{a b:ae}(h:Chg S a b)(hs:∀g,S g->T g):Chg T a b :=
 ⟨h.base,fun i hi hn=>h.block i hi fun e=>hn (hs i e),h.free⟩
theorem Chg.of{S:Nat->Prop}{w w':ae}(h:ag w w'):Chg S w w' :=
 ⟨h.mono (Vv _),fun k hk _=>h.block k hk,fun g hg hf j=>by rw[h.frozen (p:=⟨g,j,none⟩) hg];exact hf j⟩
theorem Chg.set{S:Nat->Prop}{w:ae}{g j:Nat}(v:Value)(hs:S g):Chg S w (w.setCell ⟨g,j,none⟩ v) :=
 ⟨(Vs 0 w).setCell (Vv _) v,fun k _ hk=>Below.heap_setCell _ _ _ _ (fun e=>hk (by rw[e];exact hs)),fun g' _ hf j'=>by simpa using hf j'⟩
theorem Chg.below{S:Nat->Prop}{w w':ae}{m:Nat}(h:Chg S w w')(hm:∀g,S g->m<=g)(hw:m<=w.heap.size):Below m w w' :=
 ⟨h.base.os,h.base.tape,h.base.output,h.base.size,fun k hk=>h.block k (Vq hk hw) fun e=>by have:=hm k e;omega⟩
theorem Chg.cell{S:Nat->Prop}{w w':ae}(h:Chg S w w'){g o:Nat}(hg:g<w.heap.size)(hs:¬S g):w'.cell? ⟨g,o,none⟩=w.cell? ⟨g,o,none⟩:=by
 have:=h.block g hg hs;unfold World.cell?;simp only[this]
def bA(r:ER)(g:Nat):Prop:=r.e.allow≠[]/\r.adA=some ⟨g,0,none⟩
def bK(r:ER)(g:Nat):Prop:=r.e.kids≠[]/\r.adK=some ⟨g,0,none⟩
def qc(r:ER)(g:Nat):Prop:=bA r g\/bK r g
structure SepE(b:Nat)(rs:Q08):Prop where
 zeroA:∀r∈rs,r.e.allow≠[]->∃g,r.adA=some ⟨g,0,none⟩
 zeroK:∀r∈rs,r.e.kids≠[]->∃g,r.adK=some ⟨g,0,none⟩
 head:∀r∈rs,¬qc r b
 one:∀r∈rs,∀g,bA r g->¬bK r g
 two:∀(x y:Nat) (hx:x<rs.length) (hy:y<rs.length),x≠y->∀g,qc rs[x] g->¬qc rs[y] g
def Pn(w:World)(P:Nat->Prop):Prop:=∀g,P g->g<w.heap.size/\jb w g
theorem Pn.mono{P Q:Nat->Prop}{w:ae}(h:Pn w P)(hq:∀g,Q g->P g):Pn w Q:=fun g hg=>h g (hq g hg)
def Mv(r:RR)(g:Nat):Prop:=(r.rows≠[]/\r.ad=some ⟨g,0,none⟩) \/ ∃q∈r.rows,qc q g
def Tq(r:RR):Prop:=r.rows≠[]->∃b,r.ad=some ⟨b,0,none⟩/\SepE b r.rows
structure SepR(b:Nat)(rs:Q07):Prop where
 good:∀r∈rs,Tq r
 head:∀r∈rs,¬Mv r b
 two:∀(x y:Nat) (hx:x<rs.length) (hy:y<rs.length),x≠y->∀g,Mv rs[x] g->¬Mv rs[y] g
def Po(r:TR)(g:Nat):Prop:=(r.rows≠[]/\r.ad=some ⟨g,0,none⟩) \/ ∃q∈r.rows,Mv q g
def Tt(r:TR):Prop:=r.rows≠[]->∃b,r.ad=some ⟨b,0,none⟩/\SepR b r.rows
structure SepT(b:Nat)(rs:Q06):Prop where
 good:∀r∈rs,Tt r
 head:∀r∈rs,¬Po r b
 two:∀(x y:Nat) (hx:x<rs.length) (hy:y<rs.length),x≠y->∀g,Po rs[x] g->¬Po rs[y] g
theorem jh{a b:ByteArray}(h:a.data.toList=b.data.toList):a=b:=by
 cases a;cases b;congr;exact Array.toList_inj.1 h
def fD(sep:ByteArray)(xs:List ByteArray):ByteArray:=⟨(Lib.join (xs.map (·.data.toList)) sep.data.toList).toArray⟩
theorem De(sep:bQ):fD sep []=⟨#[]⟩:=rfl
theorem inter_snoc{α:Type}(s:List α):∀(l:List (List α)) (x:List α),s.intercalate (l++[x])=if l=[] then x else s.intercalate l++(s++x)
 | [],x=>by simp[List.intercalate]
 | [a],x=>by simp[List.intercalate]
 | a::b::l,x=>by
  have ih:=inter_snoc s (b::l) x;simp only[V9,List.intercalate,List.intersperse,reduceCtorEq,if_false]at ih ⊢;simp only[List.flatten_cons]at ih ⊢;rw[ih];simp
theorem oW(sep:bQ)(xs:List ByteArray)(x:bQ):fD sep (xs++[x])=if xs=[] then x else fD sep xs++sep++x:=by
 apply jh;unfold fD Lib.join;rw[Wu,WF,List.map_nil,inter_snoc];by_cases h:xs=[]
 ·simp[h]
 simp[h,ByteArray.data_append]
theorem oZ(sep:bQ)(b:Nat):∀(n:Nat) (xs:List ByteArray),xs.length=n->(∀x∈xs,x.size<=b)->(fD sep xs).size<=n*(b+sep.size)
 | 0,xs,hn,_=>by
  have:xs=[]:=List.eq_nil_of_length_eq_zero hn;subst this;simp[De];rfl
 | n+1,xs,hn,hx=>by
  obtain⟨ys,y,rfl⟩:∃ys y,xs=ys++[y]:=by
   have hne:xs≠[]:=by intro e;simp[e]at hn
   exact⟨xs.dropLast,xs.getLast hne,(List.dropLast_concat_getLast hne).symm⟩
  have hl:ys.length=n:=by simp at hn;exact hn
  have ih:=oZ sep b n ys hl (fun x h=>hx x (by simp[h]));have hy:=hx y (by simp);rw[oW,Nat.succ_mul];by_cases h:ys=[]
  ·rw[if_pos h];omega
  rw[if_neg h,VK,VK];omega
def fG(a:Al):ByteArray:=if a.s.toList.isEmpty then a.t else a.t++⟨#[35]⟩++a.s
def uX(xs:Q0a):ByteArray:=⟨#[116,104,105,115,40]⟩++fD ⟨#[44]⟩ (xs.map fG)++⟨#[41]⟩
def gF(k:Int):ByteArray:=if k=4 then ⟨#[32,124,32]⟩ else if k=5 then ⟨#[32,38,32]⟩ else ⟨#[32,45,32]⟩
theorem l5(k:Int):(gF k).size=3:=by
 unfold gF;split
 ·rfl
 split<;>rfl
def l6(f:Int->ByteArray)(e:Ex):ByteArray :=
 if e.kind=1 then uX e.allow else if e.kind=2 then e.name else if e.kind=3 then e.over++⟨#[45,62]⟩++e.name else fD (gF e.kind) (e.kids.map f)
def inT(e:Ex)(inside:Bool)(t:ByteArray):ByteArray:=if inside && !(decide (e.kind=1) || decide (e.kind=2) || decide (e.kind=3)) then ⟨#[40]⟩++t++⟨#[41]⟩ else t
def EH(es:Q09)(n:Nat):Ex:=es[n]?.getD ⟨0,[],⟨#[]⟩,⟨#[]⟩,[]⟩
def txt(es:Q09)(n:Nat):ByteArray:=inT (EH es n) true (l6 (fun x=>if _h:x.toNat<n then txt es x.toNat else ⟨#[]⟩) (EH es n))
def jF(es:Q09)(n:Nat)(x:Int):ByteArray:=if x.toNat<n then txt es x.toNat else ⟨#[]⟩
def iU(es:Q09)(n:Nat)(inside:Bool):ByteArray:=inT (EH es n) inside (l6 (jF es n) (EH es n))
theorem EJ(es:Q09)(n:Nat):txt es n=iU es n true:=by
 rw[txt];rfl
def zW:Nat->Nat
 | 0=>200
 | n+1=>zW n*6
theorem Lj(n:Nat):200<=zW n:=by
 induction n with
 | zero=>exact Vr _
 | succ n ih=>simp only[zW];omega
theorem Df{m n:Nat}(h:m<=n):zW m<=zW n:=by
 induction h with
 | refl=>exact Vr _
 | step _ ih=>simp only[zW];omega
theorem RH:zW 14<=20000000000000:=by decide
theorem bI{s:ByteArray}(h:aP s=true):s.size<=12:=by
 simp only[aP,dO,nN,Vt,VF]at h;exact h.1.1.2
theorem zX{s:ByteArray}(h:uO s=true):s.size<=12:=by
 unfold uO at h;rw[Bool.or_eq_true]at h;rcases h with h|h
 ·have h2:s.data.toList=[]:=by rw[Go.ByteArray.toList_eq]at h;simpa using h
  have h3:s.data.toList.length=0:=by rw[h2];rfl
  have:s.size=s.data.toList.length:=rfl;omega
 exact bI h
theorem yU{xs:Q0a}:∀{k:Nat},Eu xs k=true->∀(i:Nat) (h:i<xs.length),i<k->Gi xs[i]=true
 | 0,_,i,_,hi=>by omega
 | k+1,hk,i,h,hi=>by
  unfold Eu at hk;rw[Vt]at hk;by_cases e:i=k
  ·subst e;have:=hk.2;simp only[Vy h,Option.map_some,Wd,Vt]at this;exact this.1
  exact yU hk.1 i h (by omega)
theorem qH{a:Al}(h:Gi a=true):(fG a).size<=25:=by
 unfold Gi at h;rw[Vt]at h;have h1:=bI h.1;have h2:=zX h.2;have e1:(⟨#[35]⟩:ByteArray).size=1:=rfl;unfold fG;split
 ·omega
 simp only[VK];omega
theorem jZ{xs:Q0a}(h:eF xs=true):(uX xs).size<=190:=by
 unfold eF at h;simp only [Vt,VF]at h;have hj:=oZ ⟨#[44]⟩ 25 _ (xs.map fG) rfl (fun x hx=>by
  obtain⟨a,ha,rfl⟩:=VG.1 hx;obtain⟨i,hi,rfl⟩:=Wl ha;exact qH (yU h.2 i hi hi))
 have e1:(⟨#[116,104,105,115,40]⟩:ByteArray).size=5:=rfl;have e2:(⟨#[41]⟩:ByteArray).size=1:=rfl;have e3:(⟨#[44]⟩:ByteArray).size=1:=rfl;have e4:(xs.map fG).length<=6:=by simp;exact h.1.2
 unfold uX;simp only[VK];rw[e3]at hj;have:(xs.map fG).length*(25+1)<=6*26:=Nat.mul_le_mul_right _ e4;omega
def Tu(es:Q09):Prop:=es.length<=15/\(∀(i:Nat) (h:i<es.length),av es[i]=true)/\∀i,i<es.length->kP es i=true
theorem Pp{es:Q09}(h:aK es=true):Tu es:=by
 unfold aK at h;simp only[Vt,VF]at h;refine⟨h.1.1.1.1.2,fun i hi=>?_,fun i hi=>?_⟩
 ·have:=h.1.1.1.2;rw[VC]at this;exact this _ (Vp hi)
 have:=h.1.1.2;unfold ja at this;rw[VC]at this;exact this i (by simpa using hi)
theorem qI{e:Ex}(h:av e=true):e.kids.length<=5/\(e.kind=1\/e.kind=2\/e.kind=3\/e.kind=4\/e.kind=5\/e.kind=6):=by
 unfold av at h;split at h
 ·rename_i k;simp at h;exact⟨by simp[h.2],.inl k⟩
 split at h
 ·rename_i k;simp at h;exact⟨by simp[h.2],.inr (.inl k)⟩
 split at h
 ·rename_i k;simp at h;exact⟨by simp[h.2],.inr (.inr (.inl k))⟩
 split at h
 ·rename_i k;simp at h;exact⟨by omega,by omega⟩
 split at h
 ·rename_i k;simp at h;exact⟨by omega,by omega⟩
 cases h
theorem zY{es:Q09}(hes:Tu es){n:Nat}(hn:n<es.length)(b:Nat)(hb:200<=b)(f:Int->ByteArray)(hf:∀k∈es[n].kids,(f k).size<=b):(l6 f es[n]).size<=b*5+20:=by
 have WK:=hes.2.1 n hn;obtain⟨hk,hkind⟩:=qI WK;unfold l6;unfold av at WK;split
 ·rename_i k;rw[if_pos k]at WK;simp only[Vt]at WK;have:=jZ WK.1.1.1;omega
 rename_i k1;rw[if_neg k1]at WK;split
 ·rename_i k2;rw[if_pos k2]at WK;simp only[Vt]at WK;have:=bI WK.1.1.1;omega
 rename_i k2;rw[if_neg k2]at WK;split
 ·rename_i k3;rw[if_pos k3]at WK;simp only[Vt]at WK;have h1:=bI WK.1.1.1;have h2:=bI WK.1.1.2;have e1:(⟨#[45,62]⟩:ByteArray).size=2:=rfl;simp only[VK];omega
 have hj:=oZ (gF es[n].kind) b _ (es[n].kids.map f) rfl (fun x hx=>by obtain⟨k,hk,rfl⟩:=VG.1 hx;exact hf k hk);rw[l5]at hj;have:(es[n].kids.map f).length*(b+3)<=5*(b+3):=Nat.mul_le_mul_right _ (by simp;exact hk);omega
theorem Gs(e:Ex)(i:Bool)(t:bQ):(inT e i t).size<=t.size+2:=by
 have e1:(⟨#[40]⟩:ByteArray).size=1:=rfl;have e2:(⟨#[41]⟩:ByteArray).size=1:=rfl;unfold inT;split
 ·simp only[VK];omega
 omega
theorem EK{es:Q09}{n:Nat}(h:n<es.length):EH es n=es[n]:=by simp[EH,h]
theorem uY{es:Q09}(hes:Tu es){n:Nat}(hn:n<es.length):∀k∈es[n].kids,0<=k/\k.toNat<n:=by
 intro k hk;have:=hes.2.2 n hn;unfold kP at this;rw[VC]at this;have h1:=this k (by simp[dC,hn,hk]);simp at h1;omega
theorem Jl{es:Q09}(hes:Tu es)(n:Nat):n<es.length->∀i,(iU es n i).size<=zW n:=by
 induction n using Nat.strongRecOn with
 | ind n ih =>
  intro hn i;unfold iU;rw[EK hn];have h1:=Gs es[n] i (l6 (jF es n) es[n]);cases n with
  | zero =>
   have h2:=zY hes hn 200 (Vr _) (jF es 0) (fun k hk=>by have:=uY hes hn k hk;omega);have hno:es[0].kids=[]:=by
    cases hk:es[0].kids with
    | nil=>rfl
    | cons k ks=>have:=uY hes hn k (by rw[hk];simp);omega
   have WK:=hes.2.1 0 hn;have h3:(l6 (jF es 0) es[0]).size<=195:=by
    unfold l6;unfold av at WK;split
    ·rename_i k;rw[if_pos k]at WK;simp only[Vt]at WK;have:=jZ WK.1.1.1;omega
    rename_i k1;rw[if_neg k1]at WK;split
    ·rename_i k2;rw[if_pos k2]at WK;simp only[Vt]at WK;have:=bI WK.1.1.1;omega
    rename_i k2;rw[if_neg k2]at WK;split
    ·rename_i k3;rw[if_pos k3]at WK;simp only[Vt]at WK;have h1:=bI WK.1.1.1;have h2:=bI WK.1.1.2;have e1:(⟨#[45,62]⟩:ByteArray).size=2:=rfl;simp only[VK];omega
    rw[hno];have:(fD (gF es[0].kind) (List.map (jF es 0) [])).size=0:=rfl;omega
   simp only[zW];omega
  | succ m =>
   have h2:=zY hes hn (zW m) (Lj m) (jF es (m+1)) (fun k hk=>by
    have hlt:=uY hes hn k hk;unfold jF;rw[if_pos hlt.2,EJ];exact Vz (ih k.toNat hlt.2 (by omega) true) (Df (by omega)))
   have:=Lj m;simp only[zW];omega
structure RS where
 p:Nat
 bad:Bool
 out:List Ex
def fP:ByteArray:=⟨#[116,104,105,115,40]⟩
def uZ:ByteArray:=⟨#[35]⟩
def fB:ByteArray:=⟨#[41]⟩
def l7:ByteArray:=⟨#[44]⟩
def jG:ByteArray:=⟨#[40]⟩
def o6:ByteArray:=⟨#[45,62]⟩
def aU(k:Int):ByteArray:=if k=4 then ⟨#[32,124,32]⟩ else if k=5 then ⟨#[32,38,32]⟩ else ⟨#[32,45,32]⟩
def ed(s w:ByteArray)(p:Nat):Bool:=decide (p+w.size<=s.size)&&(s.extract p (p+w.size)).toList==w.toList
def lH(s w:ByteArray)(st:RS):Bool:=!st.bad&&ed s w st.p
def kD(w:ByteArray)(st:RS):RS:=⟨st.p+w.size,st.bad,st.out⟩
def au(s:ByteArray)(p:Nat):Nat:=((s.data.toList.drop p).takeWhile eY).length
def ax(s:ByteArray)(p:Nat):ByteArray:=s.extract p (p+au s p)
def sK(x:Ex)(st:RS):RS:=⟨st.p,st.bad || decide (15<st.out.length+1),st.out++[x]⟩
def ve(st:RS):RS:=⟨st.p,true,st.out⟩
def yE(s:ByteArray)(st:RS):ByteArray:=if lH s uZ st then ax s (st.p+1) else ⟨#[]⟩
def aT(s:ByteArray)(st:RS):RS:=if lH s uZ st then ⟨st.p+1+au s (st.p+1),st.bad,st.out⟩ else st
def bn(s:ByteArray)(st:RS):RS:=⟨st.p+au s st.p,st.bad,st.out⟩
def dE(s:ByteArray):Nat->List Al->RS->Option (List Al)×RS
 | 0,_,st=>(none,st)
 | n+1,xs,st =>
  if st.bad then (none,st)
  else if lH s fB (aT s (bn s st)) then (some (xs++[⟨ax s st.p,yE s (bn s st)⟩]),kD fB (aT s (bn s st)))
  else if lH s l7 (aT s (bn s st)) then dE s n (xs++[⟨ax s st.p,yE s (bn s st)⟩]) (kD l7 (aT s (bn s st)))
  else dE s n (xs++[⟨ax s st.p,yE s (bn s st)⟩]) (ve (aT s (bn s st)))
def fo(s:ByteArray)(st:RS):Ex :=
 if lH s o6 (bn s st) then ⟨3,[],ax s st.p,ax s (st.p+au s st.p+2),[]⟩ else ⟨2,[],⟨#[]⟩,ax s st.p,[]⟩
def aG(s:ByteArray)(st:RS):RS :=
 if lH s o6 (bn s st) then ⟨st.p+au s st.p+2+au s (st.p+au s st.p+2),st.bad,st.out⟩ else bn s st
def judged(x:Ex)(st:RS):RS:=if av x then st else ve st
def dF(s:ByteArray)(p:Nat):Int:=if ed s (aU 4) p then 4 else if ed s (aU 5) p then 5 else if ed s (aU 6) p then 6 else 0
def gZ(s:ByteArray)(it:RS->Int×RS)(k:Int):Nat->List Int->RS->List Int×RS
 | 0,zs,st=>(zs,st)
 | n+1,zs,st=>if lH s (aU k) st then gZ s it k n (zs++[(it (kD (aU k) st)).1]) (it (kD (aU k) st)).2 else (zs,st)
def zZ(s:ByteArray):Nat->Bool->RS->Int×RS
 | 0,_,st=>(0,st)
 | n+1,false,st =>
  if lH s fP st then
   match dE s (s.size+1) [] (kD fP st) with
   | (some xs,st')=>((st'.out.length:Int),sK ⟨1,xs,⟨#[]⟩,⟨#[]⟩,[]⟩ st')
   | (none,st')=>(0,st')
  else if lH s jG st then
   let x:=zZ s n true (kD jG st)
   if lH s fB x.2 then (x.1,kD fB x.2) else (x.1,ve x.2)
  else ((st.out.length:Int),sK (fo s st) (judged (fo s st) (aG s st)))
 | n+1,true,st =>
  let x:=zZ s n false st
  if dF s x.2.p=0\/x.2.bad=true then x
  else
   let y:=gZ s (zZ s n false) (dF s x.2.p) (s.size+1) [x.1] x.2
   ((y.2.out.length:Int),sK ⟨dF s x.2.p,[],⟨#[]⟩,⟨#[]⟩,y.1⟩ y.2)
theorem kE(s:bQ)(p:Nat)(hp:p<=s.size):p+au s p<=s.size:=by
 unfold au;have h1:((s.data.toList.drop p).takeWhile eY).length<=(s.data.toList.drop p).length:=(List.takeWhile_prefix (p:=eY) (l:=s.data.toList.drop p)).length_le;have h2:(s.data.toList.drop p).length=s.size-p:=by rw[WB];simp
 omega
theorem Aa(s:bQ)(p:Nat)(hp:p<=s.size):(ax s p).size=au s p:=by
 unfold ax;rw[ByteArray.size_extract];have:=kE s p hp;omega
theorem Gt{s w:ByteArray}{p:Nat}(h:ed s w p=true):p+w.size<=s.size:=by
 unfold ed at h;simp only[Vt,VF]at h;exact h.1
theorem kS{s w:ByteArray}{st:RS}(h:lH s w st=true):st.p+w.size<=s.size:=by
 unfold lH at h;simp only[Vt]at h;exact Gt h.2
set_option maxRecDepth 100000
theorem ai{p:Prop}(h:p):Hid p:=h
structure RdC(w:World)(R:Nat)(s:ByteArray)(p:Nat)(bad:Bool)(v:Value):Prop where
 lt:R<w.heap.size
 c0:w.cell? ⟨R,0,none⟩=some (.string s)
 c1:w.cell? ⟨R,1,none⟩=some (.int .i64 (p:Int))
 c2:w.cell? ⟨R,2,none⟩=some (.bool bad)
 c3:w.cell? ⟨R,3,none⟩=some v
 fr:jb w R
theorem RdC.grown{w w':ae}{R:Nat}{s:ByteArray}{p:Nat}{bad:Bool}{v:Value}{row:Option Nat}(h:RdC w R s p bad v)(hg:w.grownBy w' row)(hR:some R≠row):RdC w' R s p bad v :=
 ⟨Vq h.lt hg.size,hg.cell h.c0 hR,hg.cell h.c1 hR,hg.cell h.c2 hR,hg.cell h.c3 hR,fun j=>(World.frozen?_of_block (w:=w) (a:=⟨R,j,none⟩) (hg.block R h.lt hR)).trans (h.fr j)⟩
theorem RdC.drewN{w:ae}{R:Nat}{s:ByteArray}{p:Nat}{bad:Bool}{v:Value}(h:RdC w R s p bad v)(n:Nat):RdC (w.drewN n) R s p bad v:=⟨h.lt,h.c0,h.c1,h.c2,h.c3,h.fr⟩
theorem RdC.on{w:ae}{R:Nat}{s:ByteArray}{p:Nat}{bad:Bool}{v:Value}(h:RdC w R s p bad v)(q:Nat):RdC (w.setCell ⟨R,1,none⟩ (.int .i64 (q:Int))) R s q bad v :=
 ⟨by simpa using h.lt,by rw[mO (by omega)];exact h.c0,mS h.c1,by rw[mO (by omega)];exact h.c2,by rw[mO (by omega)];exact h.c3,fun j=>by simpa using h.fr j⟩
theorem Gu(w:ae)(R o:Nat)(v:Value)(n:Nat):w.grownBy ((w.drewN n).setCell ⟨R,o,none⟩ v) (some R) :=
 ⟨rfl,rfl,rfl,by simp,fun k _ hk=>Below.heap_setCell _ _ _ k (fun e=>hk (by rw[e]))⟩
theorem Jm{w w':ae}{R o:Nat}{v:Value}(h:w.grownBy w' (some R)):w.grownBy (w'.setCell ⟨R,o,none⟩ v) (some R) :=
 ⟨h.os,h.tape,h.output,by simpa using h.size,fun k hk hne=>(Below.heap_setCell w' _ _ k (fun e=>hne (by rw[e]))).trans (h.block k hk hne)⟩
def mY(s t:ByteArray)(p:Nat)(bad:Bool):Bool:=!bad&&ed s t p
def RI(s t:ByteArray)(p:Nat)(bad:Bool):Nat:=if mY s t p bad then p+t.size else p
theorem vg{s t:ByteArray}{p:Nat}{bad:Bool}(h:mY s t p bad=true):RI s t p bad=p+t.size:=by simp[RI,h]
theorem Ab{s t:ByteArray}{p:Nat}{bad:Bool}(h:mY s t p bad=false):RI s t p bad=p:=by simp[RI,h]
theorem l8(R:Nat)(s t:bQ)(p:Nat)(bad:Bool)(v:Value)(w:ae)(h:RdC w R s p bad v)(hs:s.size<=1000)(hp:p<=s.size)(ht:t.size<=100):
  Calls prog 325 #[.pointer (some ⟨R,0,none⟩),.string t] w fun e w'=>e=.returned (.bool (mY s t p bad))/\RdC w' R s (RI s t p bad) bad v/\w.grownBy w' (some R):=by
 have H:=ai h;have c0:=h.c0;have c1:=h.c1;have c2:=h.c2;have f1:=h.fr 1;have hlt:=h.lt;have h0:=h;clear h H;have hwr:IntKind.i64.wrap ((p:Int)+(t.size:Int))=(p:Int)+(t.size:Int):=by simp[IntKind.wrap,IntKind.bits,IntKind.signed];omega
 have no:∀{n:Nat} {e:Ending},mY s t p bad=false->e=.returned (.bool false)->e=.returned (.bool (mY s t p bad))/\RdC (w.drewN n) R s (RI s t p bad) bad v/\w.grownBy (w.drewN n) (some R):=fun hb he=>⟨by rw[hb];exact he,by rw[Ab hb];exact h0.drewN _,⟨rfl,rfl,rfl,Vr _,fun _ _ _=>rfl⟩⟩;have yes:∀{n:Nat} {e:Ending},mY s t p bad=true->e=.returned (.bool true)->e=.returned (.bool (mY s t p bad))/\RdC ((w.drewN n).setCell ⟨R,1,none⟩ (.int .i64 ((p:Int)+(t.size:Int)))) R s (RI s t p bad) bad v/\w.grownBy ((w.drewN n).setCell ⟨R,1,none⟩ (.int .i64 ((p:Int)+(t.size:Int)))) (some R):=fun hb he=>⟨by rw[hb];exact he,by rw[vg hb];exact(h0.drewN _).on (p+t.size),Gu _ _ _ _ _⟩;have NO:Hid (∀{n:Nat} {e:Ending},_):=@no;have YES:Hid (∀{n:Nat} {e:Ending},_):=@yes;clear no yes h0;cases bad;case true=>
  have HB:Hid (mY s t p true=false):=rfl;clear hwr;go_enter func325,ntmps325;go_wp2_with fail;go_quiet (fail);go_wp2;go_ret;exact NO.out HB.out rfl
 by_cases hl:p+t.size<=s.size
 ·have hd:decide ((s.size:Int)<(p:Int)+(t.size:Int))=false:=by simp;omega
  have hp1:(p:Int)<=(p:Int)+(t.size:Int):=by omega
  have hp2:(p:Int)+(t.size:Int)<=(s.size:Int):=by omega
  have hnn:=bC p;have hla:ed s t p=((s.extract p (p+t.size)).toList==t.toList):=by simp[ed,hl]
  cases he:(s.extract p (p+t.size)).toList==t.toList;case true=>
   have HB:Hid (mY s t p false=true):=by show _=_;simp only[mY,hla,he];rfl
   have hq:(!(s.extract p (p+t.size)).toList==t.toList)=false:=by rw[he];rfl
   clear he hla;go_enter func325,ntmps325;go_wp2_with fail;go_quiet (fail);go_wp2;go_ret;exact YES.out HB.out rfl
  have HB:Hid (mY s t p false=false):=by show _=_;simp only[mY,hla,he];rfl
  have hq:(!(s.extract p (p+t.size)).toList==t.toList)=true:=by rw[he];rfl
  clear he hla;go_enter func325,ntmps325;go_wp2_with fail;go_quiet (fail);go_wp2;go_ret;exact NO.out HB.out rfl
 have hd:decide ((s.size:Int)<(p:Int)+(t.size:Int))=true:=by simp;omega
 have HB:Hid (mY s t p false=false):=by show _=_;simp[mY,ed,hl]
 clear hl;go_enter func325,ntmps325;go_wp2_with fail;go_quiet (fail);go_wp2;go_ret;exact NO.out HB.out rfl
def wat(R:Nat)(w:World):Nat:=match w.cell? ⟨R,1,none⟩ with
 | some (.int _ z)=>z.toNat
 | _=>0
theorem RdC.place{w:ae}{R:Nat}{s:ByteArray}{p:Nat}{bad:Bool}{v:Value}(h:RdC w R s p bad v):wat R w=p:=by
 simp[Go.Proofs.YtojjoblnpldniaaGreat.wat,h.c1]
theorem EL(l:List UInt8)(n:Nat)(h1:∀i (h:i<l.length),i<n->eY l[i]=true)(h2:∀h:n<l.length,eY l[n]=false)(hn:n<=l.length):(l.takeWhile eY).length=n:=by
 induction l generalizing n with
 | nil=>simp at hn;simp[hn]
 | cons x xs ih =>
  cases n with
  | zero =>
   have:=h2 (by simp);simp at this;simp[List.takeWhile,this]
  | succ n =>
   have hx:=h1 0 (by simp) (by omega);simp at hx;have:=ih n (fun i hi hin=>by have:=h1 (i+1) (by simpa using hi) (by omega);simpa using this) (fun h=>by have:=h2 (by simpa using h);simpa using this) (by simpa using hn);simp[List.takeWhile,hx,this]
theorem Pq(s:bQ)(p q:Nat)(hpq:p<=q)(hq:q<=s.size)(h1:∀i (h:i<s.size),p<=i->i<q->eY s[i]=true)(h2:∀h:q<s.size,eY s[q]=false):au s p=q-p:=by
 unfold au;have hl:s.data.toList.length=s.size:=by simp
 refine EL _ _ (fun i hi hin=>?_) (fun h=>?_) (by rw[WB,hl];omega)
 ·rw[WB,hl]at hi;have:=h1 (p+i) (by omega) (by omega) (by omega);simp only[List.getElem_drop,Array.getElem_toList];exact this
 rw[WB,hl]at h;have:=h2 (by omega);simp only[List.getElem_drop,Array.getElem_toList];have e:p+(q-p)=q:=by omega
 simp only[e];exact this
theorem vk(R:Nat)(s:bQ)(p:Nat)(bad:Bool)(v:Value)(w:ae)(h:RdC w R s p bad v)(hs:s.size<=1000)(hp:p<=s.size):
  Calls prog 340 #[.pointer (some ⟨R,0,none⟩)] w fun e w'=>e=.returned (.string (ax s p))/\RdC w' R s (p+au s p) bad v/\w.grownBy w' (some R):=by
 have H:=ai h;have c1:=h.c1;clear h;go_enter func340,ntmps340;go_wp2_with fail;clear c1;go_loopw[8] (fun _ wr=>∃q:Nat,p<=q/\q<=s.size/\Hid (∀i (h:i<s.size),p<=i->i<q->eY s[i]=true)/\Hid (RdC wr R s q bad v)/\Hid (w.grownBy wr (some R))) (fun _ wr=>s.size-wat R wr);case atStart=>exact⟨p,Vr _,hp,fun i h h1 h2=>by omega,H,⟨rfl,rfl,rfl,Vr _,fun _ _ _=>rfl⟩⟩
 obtain⟨q,hq1,hq2,HL,HR,HG⟩:=hrel;have c0:=HR.out.c0;have c1:=HR.out.c1;have f1:=HR.out.fr 1;have hlt:=HR.out.lt;have hq0:=bC q;have stop:∀n m,(∀h:q<s.size,eY s[q]=false)->Ending.returned (.string (s.extract p q))=.returned (.string (ax s p))/\RdC ((wr.drewN n).drewN m) R s (p+au s p) bad v/\w.grownBy ((wr.drewN n).drewN m) (some R):=fun n m hn=>by
  have e:=Pq s p q hq1 hq2 HL.out hn;have e2:p+au s p=q:=by omega
  exact⟨by unfold ax;rw[e2],by rw[e2];exact(HR.out.drewN n).drewN m,⟨HG.out.os,HG.out.tape,HG.out.output,HG.out.size,HG.out.block⟩⟩
 have STOP:=ai stop;clear stop;have hx1:(p:Int)<=(q:Int):=by omega
 have hx2:(q:Int)<=(s.size:Int):=by omega
 have hx3:=bC p;by_cases hlt2:q<s.size
 ·have hq3:(q:Int)<(s.size:Int):=by omega
  have hd:decide ((q:Int)<(s.size:Int))=true:=by simpa using hq3
  by_cases hb1:(97:Int)<=(s[q].toNat:Int)
  ·have hd1:decide ((97:Int)<=(s[q].toNat:Int))=true:=by simpa using hb1
   by_cases hb2:(s[q].toNat:Int)<=122
   ·have hd2:decide ((s[q].toNat:Int)<=122)=true:=by simpa using hb2
    have HL2:Hid (∀i (h:i<s.size),p<=i->i<q+1->eY s[i]=true):=fun i h h1 h2=>by
     by_cases e:i=q
     ·subst e;simp[eY];omega
     exact HL.out i h h1 (by omega)
    have hwr2:IntKind.i64.wrap ((q:Int)+1)=(q:Int)+1:=by simp[IntKind.wrap,IntKind.bits,IntKind.signed];omega
    go_wp2_with fail;go_quiet (fail);have HR2:Hid (RdC ((wr.drewN nq).setCell ⟨R,1,none⟩ (.int .i64 ((q:Int)+1))) R s (q+1) bad v):=(HR.out.drewN nq).on (q+1);have HG2:Hid (w.grownBy ((wr.drewN nq).setCell ⟨R,1,none⟩ (.int .i64 ((q:Int)+1))) (some R)):=Jm (w':=wr.drewN nq) ⟨HG.out.os,HG.out.tape,HG.out.output,HG.out.size,HG.out.block⟩;have hm1:=HR.out.place;have hm2:=HR2.out.place;have HM:Hid (s.size-wat R ((wr.drewN nq).setCell ⟨R,1,none⟩ (.int .i64 ((q:Int)+1)))<s.size-wat R wr):=by show _<_;rw[hm1,hm2];omega
    clear hm1 hm2;go_wp2;go_roundw;case rel=>exact⟨q+1,by omega,by omega,HL2,HR2,HG2⟩
    exact HM.out
   have hd2:decide ((s[q].toNat:Int)<=122)=false:=by simpa using hb2
   have HN:Hid (∀h:q<s.size,eY s[q]=false):=fun h=>by simp[eY];omega
   go_wp2_with fail;go_quiet (fail);go_wp2_with fail;go_quiet (fail);go_wp2;go_ret;exact STOP.out _ _ HN.out
  have hd1:decide ((97:Int)<=(s[q].toNat:Int))=false:=by simpa using hb1
  have HN:Hid (∀h:q<s.size,eY s[q]=false):=fun h=>by simp[eY];omega
  go_wp2_with fail;go_quiet (fail);go_wp2_with fail;go_quiet (fail);go_wp2;go_ret;exact STOP.out _ _ HN.out
 have hd:decide ((q:Int)<(s.size:Int))=false:=by simp;omega
 have HN:Hid (∀h:q<s.size,eY s[q]=false):=fun h=>absurd h hlt2;go_wp2_with fail;go_quiet (fail);go_wp2_with fail;go_quiet (fail);go_wp2;go_ret;exact STOP.out _ _ HN.out
end Go.Proofs.YtojjoblnpldniaaGreat
