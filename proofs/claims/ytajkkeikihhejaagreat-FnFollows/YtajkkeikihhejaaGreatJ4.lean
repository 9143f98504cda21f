/- What a change of some blocks leaves as it was; the text of a mark. -/
import Derived.Test.YtajkkeikihhejaaGreatSq
import Derived.Below
import Derived.Laws.IdiomStrings
import Derived.Test.YtajkkeikihhejaaGreatJ2
import Derived.Lib.Join
import Derived.Lib.IndexMore
import Derived.Lib.IndexBytes
import Derived.Lib.Strings
import Derived.WideKeyEntry
import Derived.WalkArith
open Go.Proofs.Tryz
namespace Go.Proofs.YtajkkeikihhejaaGreat
open ChangeShapes WideShapes ChangeAt RowKit
theorem mO{w:af}{g i j:Nat}{v:Value}(h:i≠j):(w.setCell ⟨g,i,none⟩ v).cell? ⟨g,j,none⟩=w.cell? ⟨g,j,none⟩:=by
 apply World.cell?_setCell_other;intro e;exact h (congrArg Addr.off e)
theorem mS{w:af}{a:Addr}{v u:Value}(h:w.cell? a=some u):(w.setCell a v).cell? a=some v:=by
 apply World.cell?_setCell_same;exact h
theorem mK{W w1:af}{n o:Nat}{v:Value}(hb:ae W w1)(hn:n<W.heap.size)(h:W.cell? ⟨n,o,none⟩=some v):w1.cell? ⟨n,o,none⟩=some v:=by
 rw[hb.cell (p:=⟨n,o,none⟩) hn];exact h
def jX(w:World)(g:Nat):Prop:=∀j,w.frozen? ⟨g,j,none⟩=false
structure Chg(S:Nat->Prop)(w w':World):Prop where
 base:Below 0 w w'
 block:∀k,k<w.heap.size->¬S k->w'.heap[k]?=w.heap[k]?
 free:∀g,g<w.heap.size->jX w g->jX w' g
theorem Chg.refl(S:Nat->Prop)(w:af):Chg S w w:=⟨UV _ _,fun _ _ _=>rfl,fun _ _ h=>h⟩
theorem Chg.size{S:Nat->Prop}{w w':af}(h:Chg S w w'):w.heap.size<=w'.heap.size:=h.base.size
theorem Chg.trans{S:Nat->Prop}{a b c:af}(h:Chg S a b)(k:Chg S b c):Chg S a c :=
 ⟨h.base.trans k.base,fun i hi hs=>(k.block i (UT hi h.size) hs).trans (h.block i hi hs),fun g hg hf=>k.free g (UT hg h.size) (h.free g hg hf)⟩
theorem Chg.mono{S T:Nat->Prop}{a b:af}(h:Chg S a b)(hs:∀g,S g->T g):Chg T a b :=
 ⟨h.base,fun i hi hn=>h.block i hi fun e=>hn (hs i e),h.free⟩
theorem Chg.of{S:Nat->Prop}{w w':af}(h:ae w w'):Chg S w w' :=
 ⟨h.mono (UY _),fun k hk _=>h.block k hk,fun g hg hf j=>by rw[h.frozen (p:=⟨g,j,none⟩) hg];exact hf j⟩
theorem Chg.set{S:Nat->Prop}{w:af}{g j:Nat}(v:Value)(hs:S g):Chg S w (w.setCell ⟨g,j,none⟩ v) :=
 ⟨(UV 0 w).setCell (UY _) v,fun k _ hk=>Below.heap_setCell _ _ _ _ (fun e=>hk (by rw[e];exact hs)),fun g' _ hf j'=>by simpa using hf j'⟩
theorem Chg.below{S:Nat->Prop}{w w':af}{m:Nat}(h:Chg S w w')(hm:∀g,S g->m<=g)(hw:m<=w.heap.size):Below m w w' :=
 ⟨h.base.os,h.base.tape,h.base.output,h.base.size,fun k hk=>h.block k (UT hk hw) fun e=>by have:=hm k e;omega⟩
theorem Chg.cell{S:Nat->Prop}{w w':af}(h:Chg S w w'){g o:Nat}(hg:g<w.heap.size)(hs:¬S g):w'.cell? ⟨g,o,none⟩=w.cell? ⟨g,o,none⟩:=by
 have:=h.block g hg hs;unfold World.cell?;simp only[this]
open Pl
theorem jl{a b:ByteArray}(h:a.data.toList=b.data.toList):a=b:=by
 cases a;cases b;congr;exact Array.toList_inj.1 h
def fF(sep:ByteArray)(xs:List ByteArray):ByteArray:=⟨(Lib.join (xs.map (·.data.toList)) sep.data.toList).toArray⟩
theorem CL(sep:bQ):fF sep []=⟨#[]⟩:=rfl
theorem inter_snoc{α:Type}(s:List α):∀(l:List (List α)) (x:List α),s.intercalate (l++[x])=if l=[] then x else s.intercalate l++(s++x)
 | [],x=>by simp[List.intercalate]
 | [a],x=>by simp[List.intercalate]
 | a::b::l,x=>by
  have ih:=inter_snoc s (b::l) x;simp only[VC,List.intercalate,List.intersperse,reduceCtorEq,if_false]at ih ⊢;simp only[List.flatten_cons]at ih ⊢;rw[ih];simp
theorem oG(sep:bQ)(xs:List ByteArray)(x:bQ):fF sep (xs++[x])=if xs=[] then x else fF sep xs++sep++x:=by
 apply jl;unfold fF Lib.join;rw[VG,VX,List.map_nil,inter_snoc];by_cases h:xs=[]
 ·simp[h]
 simp[h,ByteArray.data_append]
theorem oH(sep:bQ)(b:Nat):∀(n:Nat) (xs:List ByteArray),xs.length=n->(∀x∈xs,x.size<=b)->(fF sep xs).size<=n*(b+sep.size)
 | 0,xs,hn,_=>by
  have:xs=[]:=List.eq_nil_of_length_eq_zero hn;subst this;simp[CL];rfl
 | n+1,xs,hn,hx=>by
  obtain⟨ys,y,rfl⟩:∃ys y,xs=ys++[y]:=by
   have hne:xs≠[]:=by intro e;simp[e]at hn
   exact⟨xs.dropLast,xs.getLast hne,(List.dropLast_concat_getLast hne).symm⟩
  have hl:ys.length=n:=by simp at hn;exact hn
  have ih:=oH sep b n ys hl (fun x h=>hx x (by simp[h]));have hy:=hx y (by simp);rw[oG,Nat.succ_mul];by_cases h:ys=[]
  ·rw[if_pos h];omega
  rw[if_neg h,Ve,Ve];omega
def fM(a:Al):ByteArray:=if a.s.toList.isEmpty then a.t else a.t++⟨#[35]⟩++a.s
def uN(xs:Q0a):ByteArray:=⟨#[116,104,105,115,40]⟩++fF ⟨#[44]⟩ (xs.map fM)++⟨#[41]⟩
def gQ(k:Int):ByteArray:=if k=4 then ⟨#[32,124,32]⟩ else if k=5 then ⟨#[32,38,32]⟩ else ⟨#[32,45,32]⟩
theorem lX(k:Int):(gQ k).size=3:=by
 unfold gQ;split
 ·rfl
 split<;>rfl
def lY(f:Int->ByteArray)(e:Ex):ByteArray :=
 if e.kind=1 then uN e.allow else if e.kind=2 then e.name else if e.kind=3 then e.over++⟨#[45,62]⟩++e.name else fF (gQ e.kind) (e.kids.map f)
def inT(e:Ex)(inside:Bool)(t:ByteArray):ByteArray:=if inside && !(decide (e.kind=1) || decide (e.kind=2) || decide (e.kind=3)) then ⟨#[40]⟩++t++⟨#[41]⟩ else t
def Eo(es:Q09)(n:Nat):Ex:=es[n]?.getD ⟨0,[],⟨#[]⟩,⟨#[]⟩,[]⟩
def txt(es:Q09)(n:Nat):ByteArray:=inT (Eo es n) true (lY (fun x=>if _h:x.toNat<n then txt es x.toNat else ⟨#[]⟩) (Eo es n))
def jF(es:Q09)(n:Nat)(x:Int):ByteArray:=if x.toNat<n then txt es x.toNat else ⟨#[]⟩
def ja(es:Q09)(n:Nat)(inside:Bool):ByteArray:=inT (Eo es n) inside (lY (jF es n) (Eo es n))
theorem Ep(es:Q09)(n:Nat):txt es n=ja es n true:=by
 rw[txt];rfl
def zB:Nat->Nat
 | 0=>200
 | n+1=>zB n*6
theorem KN(n:Nat):200<=zB n:=by
 induction n with
 | zero=>exact UU _
 | succ n ih=>simp only[zB];omega
theorem CO{m n:Nat}(h:m<=n):zB m<=zB n:=by
 induction h with
 | refl=>exact UU _
 | step _ ih=>simp only[zB];omega
theorem Q0:zB 14<=20000000000000:=by decide
theorem bZ{s:ByteArray}(h:aT s=true):s.size<=12:=by
 simp only[aT,dP,nI,UW,U3]at h;exact h.1.1.2
theorem zC{s:ByteArray}(h:uI s=true):s.size<=12:=by
 unfold uI at h;rw[Bool.or_eq_true]at h;rcases h with h|h
 ·have h2:s.data.toList=[]:=by rw[Go.ByteArray.toList_eq]at h;simpa using h
  have h3:s.data.toList.length=0:=by rw[h2];rfl
  have:s.size=s.data.toList.length:=rfl;omega
 exact bZ h
theorem zf{xs:Q0a}:∀{k:Nat},En xs k=true->∀(i:Nat) (h:i<xs.length),i<k->FV xs[i]=true
 | 0,_,i,_,hi=>by omega
 | k+1,hk,i,h,hi=>by
  unfold En at hk;rw[UW]at hk;by_cases e:i=k
  ·subst e;have:=hk.2;simp only[U1 h,Option.map_some,Vw,UW]at this;exact this.1
  exact zf hk.1 i h (by omega)
theorem qj{a:Al}(h:FV a=true):(fM a).size<=25:=by
 unfold FV at h;rw[UW]at h;have h1:=bZ h.1;have h2:=zC h.2;have e1:(⟨#[35]⟩:ByteArray).size=1:=rfl;unfold fM;split
 ·omega
 simp only[Ve];omega
theorem kv{xs:Q0a}(h:eD xs=true):(uN xs).size<=190:=by
 unfold eD at h;simp only [UW,U3]at h;have hj:=oH ⟨#[44]⟩ 25 _ (xs.map fM) rfl (fun x hx=>by
  obtain⟨a,ha,rfl⟩:=U7.1 hx;obtain⟨i,hi,rfl⟩:=VI ha;exact qj (zf h.2 i hi hi))
 have e1:(⟨#[116,104,105,115,40]⟩:ByteArray).size=5:=rfl;have e2:(⟨#[41]⟩:ByteArray).size=1:=rfl;have e3:(⟨#[44]⟩:ByteArray).size=1:=rfl;have e4:(xs.map fM).length<=6:=by simp;exact h.1.2
 unfold uN;simp only[Ve];rw[e3]at hj;have:(xs.map fM).length*(25+1)<=6*26:=Nat.mul_le_mul_right _ e4;omega
def Sr(es:Q09):Prop:=es.length<=15/\(∀(i:Nat) (h:i<es.length),ax es[i]=true)/\∀i,i<es.length->kP es i=true
theorem NY{es:Q09}(h:aL es=true):Sr es:=by
 unfold aL at h;simp only[UW,U3]at h;refine⟨h.1.1.1.1.2,fun i hi=>?_,fun i hi=>?_⟩
 ·have:=h.1.1.1.2;rw[U5]at this;exact this _ (UR hi)
 have:=h.1.1.2;unfold jf at this;rw[U5]at this;exact this i (by simpa using hi)
theorem qo{e:Ex}(h:ax e=true):e.kids.length<=5/\(e.kind=1\/e.kind=2\/e.kind=3\/e.kind=4\/e.kind=5\/e.kind=6):=by
 unfold ax at h;split at h
 ·rename_i k;simp at h;exact⟨by simp[h.2],.inl k⟩
 split at h
 ·rename_i k;simp at h;exact⟨by simp[h.2],.inr (.inl k)⟩
 split at h
 ·rename_i k;simp at h;exact⟨by simp[h.2],.inr (.inr (.inl k))⟩
 split at h
 ·rename_i k;simp at h;exact⟨by omega,by omega⟩
 split at h
 ·rename_i k;simp at h;exact⟨by omega,by omega⟩
 cases h
theorem zD{es:Q09}(hes:Sr es){n:Nat}(hn:n<es.length)(b:Nat)(hb:200<=b)(f:Int->ByteArray)(hf:∀k∈es[n].kids,(f k).size<=b):(lY f es[n]).size<=b*5+20:=by
 have V4:=hes.2.1 n hn;obtain⟨hk,hkind⟩:=qo V4;unfold lY;unfold ax at V4;split
 ·rename_i k;rw[if_pos k]at V4;simp only[UW]at V4;have:=kv V4.1.1.1;omega
 rename_i k1;rw[if_neg k1]at V4;split
 ·rename_i k2;rw[if_pos k2]at V4;simp only[UW]at V4;have:=bZ V4.1.1.1;omega
 rename_i k2;rw[if_neg k2]at V4;split
 ·rename_i k3;rw[if_pos k3]at V4;simp only[UW]at V4;have h1:=bZ V4.1.1.1;have h2:=bZ V4.1.1.2;have e1:(⟨#[45,62]⟩:ByteArray).size=2:=rfl;simp only[Ve];omega
 have hj:=oH (gQ es[n].kind) b _ (es[n].kids.map f) rfl (fun x hx=>by obtain⟨k,hk,rfl⟩:=U7.1 hx;exact hf k hk);rw[lX]at hj;have:(es[n].kids.map f).length*(b+3)<=5*(b+3):=Nat.mul_le_mul_right _ (by simp;exact hk);omega
theorem FZ(e:Ex)(i:Bool)(t:bQ):(inT e i t).size<=t.size+2:=by
 have e1:(⟨#[40]⟩:ByteArray).size=1:=rfl;have e2:(⟨#[41]⟩:ByteArray).size=1:=rfl;unfold inT;split
 ·simp only[Ve];omega
 omega
theorem Es{es:Q09}{n:Nat}(h:n<es.length):Eo es n=es[n]:=by simp[Eo,h]
theorem uO{es:Q09}(hes:Sr es){n:Nat}(hn:n<es.length):∀k∈es[n].kids,0<=k/\k.toNat<n:=by
 intro k hk;have:=hes.2.2 n hn;unfold kP at this;rw[U5]at this;have h1:=this k (by simp[dm,hn,hk]);simp at h1;omega
theorem IE{es:Q09}(hes:Sr es)(n:Nat):n<es.length->∀i,(ja es n i).size<=zB n:=by
 induction n using Nat.strongRecOn with
 | ind n ih =>
  intro hn i;unfold ja;rw[Es hn];have h1:=FZ es[n] i (lY (jF es n) es[n]);cases n with
  | zero =>
   have h2:=zD hes hn 200 (UU _) (jF es 0) (fun k hk=>by have:=uO hes hn k hk;omega);have hno:es[0].kids=[]:=by
    cases hk:es[0].kids with
    | nil=>rfl
    | cons k ks=>have:=uO hes hn k (by rw[hk];simp);omega
   have V4:=hes.2.1 0 hn;have h3:(lY (jF es 0) es[0]).size<=195:=by
    unfold lY;unfold ax at V4;split
    ·rename_i k;rw[if_pos k]at V4;simp only[UW]at V4;have:=kv V4.1.1.1;omega
    rename_i k1;rw[if_neg k1]at V4;split
    ·rename_i k2;rw[if_pos k2]at V4;simp only[UW]at V4;have:=bZ V4.1.1.1;omega
    rename_i k2;rw[if_neg k2]at V4;split
    ·rename_i k3;rw[if_pos k3]at V4;simp only[UW]at V4;have h1:=bZ V4.1.1.1;have h2:=bZ V4.1.1.2;have e1:(⟨#[45,62]⟩:ByteArray).size=2:=rfl;simp only[Ve];omega
    rw[hno];have:(fF (gQ es[0].kind) (List.map (jF es 0) [])).size=0:=rfl;omega
   simp only[zB];omega
  | succ m =>
   have h2:=zD hes hn (zB m) (KN m) (jF es (m+1)) (fun k hk=>by
    have hlt:=uO hes hn k hk;unfold jF;rw[if_pos hlt.2,Ep];exact U0 (ih k.toNat hlt.2 (by omega) true) (CO (by omega)))
   have:=KN m;simp only[zB];omega
structure RS where
 p:Nat
 bad:Bool
 out:List Ex
def fZ:ByteArray:=⟨#[116,104,105,115,40]⟩
def uP:ByteArray:=⟨#[35]⟩
def fD:ByteArray:=⟨#[41]⟩
def lZ:ByteArray:=⟨#[44]⟩
def jG:ByteArray:=⟨#[40]⟩
def oI:ByteArray:=⟨#[45,62]⟩
def bf(k:Int):ByteArray:=if k=4 then ⟨#[32,124,32]⟩ else if k=5 then ⟨#[32,38,32]⟩ else ⟨#[32,45,32]⟩
def dY(s w:ByteArray)(p:Nat):Bool:=decide (p+w.size<=s.size)&&(s.extract p (p+w.size)).toList==w.toList
def lG(s w:ByteArray)(st:RS):Bool:=!st.bad&&dY s w st.p
def kE(w:ByteArray)(st:RS):RS:=⟨st.p+w.size,st.bad,st.out⟩
def av(s:ByteArray)(p:Nat):Nat:=((s.data.toList.drop p).takeWhile fu).length
def az(s:ByteArray)(p:Nat):ByteArray:=s.extract p (p+av s p)
def sF(x:Ex)(st:RS):RS:=⟨st.p,st.bad || decide (15<st.out.length+1),st.out++[x]⟩
def uQ(st:RS):RS:=⟨st.p,true,st.out⟩
def yL(s:ByteArray)(st:RS):ByteArray:=if lG s uP st then az s (st.p+1) else ⟨#[]⟩
def aZ(s:ByteArray)(st:RS):RS:=if lG s uP st then ⟨st.p+1+av s (st.p+1),st.bad,st.out⟩ else st
def bI(s:ByteArray)(st:RS):RS:=⟨st.p+av s st.p,st.bad,st.out⟩
def dF(s:ByteArray):Nat->List Al->RS->Option (List Al)×RS
 | 0,_,st=>(none,st)
 | n+1,xs,st =>
  if st.bad then (none,st)
  else if lG s fD (aZ s (bI s st)) then (some (xs++[⟨az s st.p,yL s (bI s st)⟩]),kE fD (aZ s (bI s st)))
  else if lG s lZ (aZ s (bI s st)) then dF s n (xs++[⟨az s st.p,yL s (bI s st)⟩]) (kE lZ (aZ s (bI s st)))
  else dF s n (xs++[⟨az s st.p,yL s (bI s st)⟩]) (uQ (aZ s (bI s st)))
def fB(s:ByteArray)(st:RS):Ex :=
 if lG s oI (bI s st) then ⟨3,[],az s st.p,az s (st.p+av s st.p+2),[]⟩ else ⟨2,[],⟨#[]⟩,az s st.p,[]⟩
def aI(s:ByteArray)(st:RS):RS :=
 if lG s oI (bI s st) then ⟨st.p+av s st.p+2+av s (st.p+av s st.p+2),st.bad,st.out⟩ else bI s st
def judged(x:Ex)(st:RS):RS:=if ax x then st else uQ st
def dG(s:ByteArray)(p:Nat):Int:=if dY s (bf 4) p then 4 else if dY s (bf 5) p then 5 else if dY s (bf 6) p then 6 else 0
def iq(s:ByteArray)(it:RS->Int×RS)(k:Int):Nat->List Int->RS->List Int×RS
 | 0,zs,st=>(zs,st)
 | n+1,zs,st=>if lG s (bf k) st then iq s it k n (zs++[(it (kE (bf k) st)).1]) (it (kE (bf k) st)).2 else (zs,st)
def zF(s:ByteArray):Nat->Bool->RS->Int×RS
 | 0,_,st=>(0,st)
 | n+1,false,st =>
  if lG s fZ st then
   match dF s (s.size+1) [] (kE fZ st) with
   | (some xs,st')=>((st'.out.length:Int),sF ⟨1,xs,⟨#[]⟩,⟨#[]⟩,[]⟩ st')
   | (none,st')=>(0,st')
  else if lG s jG st then
   let x:=zF s n true (kE jG st)
   if lG s fD x.2 then (x.1,kE fD x.2) else (x.1,uQ x.2)
  else ((st.out.length:Int),sF (fB s st) (judged (fB s st) (aI s st)))
 | n+1,true,st =>
  let x:=zF s n false st
  if dG s x.2.p=0\/x.2.bad=true then x
  else
   let y:=iq s (zF s n false) (dG s x.2.p) (s.size+1) [x.1] x.2
   ((y.2.out.length:Int),sF ⟨dG s x.2.p,[],⟨#[]⟩,⟨#[]⟩,y.1⟩ y.2)
theorem kF(s:bQ)(p:Nat)(hp:p<=s.size):p+av s p<=s.size:=by
 unfold av;have h1:((s.data.toList.drop p).takeWhile fu).length<=(s.data.toList.drop p).length:=(List.takeWhile_prefix (p:=fu) (l:=s.data.toList.drop p)).length_le;have h2:(s.data.toList.drop p).length=s.size-p:=by rw[VR];simp
 omega
theorem zG(s:bQ)(p:Nat)(hp:p<=s.size):(az s p).size=av s p:=by
 unfold az;rw[ByteArray.size_extract];have:=kF s p hp;omega
theorem F3{s w:ByteArray}{p:Nat}(h:dY s w p=true):p+w.size<=s.size:=by
 unfold dY at h;simp only[UW,U3]at h;exact h.1
theorem kV{s w:ByteArray}{st:RS}(h:lG s w st=true):st.p+w.size<=s.size:=by
 unfold lG at h;simp only[UW]at h;exact F3 h.2
variable  {P:Program}{ops:Array Oper}{Q:Exit->Act->World->Prop}
def zH(ops:Array Oper):Bool:=(List.range ops.size).all (fun i=>(ops[i]?.map (fun o=>o.after.all (fun e=>!Region.binds .any e || decide (e.on<i)))).getD true)
theorem rF{ops:Array Oper}(h:zH ops=true):∀(i:Nat) (o:Oper),ops[i]?=some o->∀e∈o.after,Region.binds .any e=true->e.on<i:=by
 intro i o ho e he hb;rw[zH,U5]at h;have h1:=h i (by simpa using (UZ.1 ho).1);rw[ho]at h1;simp only[Option.map_some,Vw,Array.all_eq_true_iff_forall_mem]at h1;have h2:=h1 e he;rw[hb]at h2;simpa using h2
theorem qp{listed:Array Bool}{n:Nat}(hr:Region.ready .any ops listed=[])(hs:ops.size=n)(WZ:∀(i:Nat) (o:Oper),ops[i]?=some o->∀e∈o.after,Region.binds .any e=true->e.on<i)(hsz:listed.size=n):∀i,i<n->listed.getD i true=true:=by
 intro i
 induction i using Nat.strongRecOn with
 | ind i ih =>
  intro hi;cases hl:listed.getD i true;case true=>rfl
  exfalso;have hmem:i∈Region.ready .any ops listed:=by
   refine mem_ready.2 ⟨hl,ops[i]'(by omega),VH (by omega),fun e he hb=>?_⟩;have hlt:=WZ i _ (VH (by omega)) e he hb;have:=ih e.on hlt (by omega);rw[Vi,VH (by omega)]at this ⊢;simpa using this
  rw[hr]at hmem;cases hmem
def zg(ops:Array Oper)(L:Nat):Bool:=(List.range L).all fun j=>(List.range (L+1)).any fun k=>decide (j<k)&&(ops[k]?.map (fun o=>o.after.any (fun e=>e.on==j&&Region.binds .any e))).getD false
theorem IG{ops:Array Oper}{L:Nat}(h:zg ops L=true):∀j,j<L->∃k o,j<k/\k<=L/\ops[k]?=some o/\∃e∈o.after,e.on=j/\Region.binds .any e=true:=by
 intro j hj;rw[zg,U5]at h;have h1:=h j (List.mem_range.2 hj);rw[Vk]at h1;obtain⟨k,hk,h2⟩:=h1;simp only[UW,U3]at h2;cases ho:ops[k]? with
 | none=>rw[ho]at h2;simp at h2
 | some o =>
  rw[ho]at h2;simp only[Option.map_some,Vw]at h2;obtain⟨h3,h4⟩:=h2;rw[Array.any_eq_true']at h4;obtain⟨e,he,h5⟩:=h4;simp only[UW,beq_iff_eq]at h5;exact⟨k,o,h3,by have:=List.mem_range.1 hk;omega,ho,e,he,h5.1,h5.2⟩
def Shut(ops:Array Oper)(listed:Array Bool):Prop:=∀(k:Nat) (o:Oper),ops[k]?=some o->listed.getD k false=true->∀e∈o.after,Region.binds .any e=true->listed.getD e.on false=true
theorem NZ{ops:Array Oper}{listed:Array Bool}{L:Nat}(hlo:zg ops L=true)(hS:Shut ops listed){o:Oper}(ho:ops[L]?=some o)(hpre:∀e∈o.after,Region.binds .any e=true->listed.getD e.on false=true):∀d j,j+d=L->j<L->listed.getD j false=true:=by
 intro d
 induction d using Nat.strongRecOn with
 | ind d ih =>
  intro j hjd hj;obtain⟨k,o',h1,h2,h3,e,he,h4,h5⟩:=IG hlo j hj;by_cases hk:k=L
  ·subst hk;rw[ho]at h3;injection h3 with h3;subst h3;rw[<-h4];exact hpre e he h5
  have:=ih (L-k) (by omega) k (by omega) (by omega);rw[<-h4];exact hS k o' h3 this e he h5
theorem l5{id:Nat}{a:Act}{w:af}(L:Nat)(f0:Nat->Value)(F:(Nat->Value)->Act)(V:Nat->Value->World->Prop)(G:Array Bool->World->Prop)
  (hm:P.follows .mixedOrders=true) (hsz:ops.size=L+1) (WZ:zH ops=true) (hlo:zg ops L=true)
  (h0:a=F f0) (hG0:G (Array.replicate ops.size false) w.drew)
  (hstep:∀ i,i<L->∀ o,ops[i]?=some o->∀ (listed:Array Bool) f w',listed.size=L+1->listed.getD i true=false->G listed w'->(∀ e∈o.after,Region.binds .any e=true->V e.on (f e.on) w') ->
   wpOp P ops Q i (fun a' w''=>∃v,a'=F (upd f i v)/\G (listed.setIfInBounds i true) w''/\V i v w''/\∀k u,k≠i->V k u w'->V k u w'') (F f) w')
  (hfin:∀o,ops[L]?=some o->∀(listed:Array Bool) f w',G listed w'->(∀k,k<L->V k (f k) w')->wpOp P ops Q L (fun a' w''=>Q .normal a' w'') (F f) w') :
  (Code.region id ops true).wp P Q a w:=by
 refine gY (fun listed a' w'=>listed.size=L+1/\((listed.getD L false=false/\Shut ops listed/\∃f,a'=F f/\G listed w'/\∀k,k<L->listed.getD k false=true->V k (f k) w')\/((∀j,j<=L->listed.getD j true=true)/\Q .normal a' w'))) hm ?_ ?_ ?_
 ·refine⟨by simpa using hsz,Or.inl ⟨?_,fun k o _ h=>?_,_,h0,hG0,fun k _ h=>?_⟩⟩
  ·rw[Vi,Vz];split<;>rfl
  ·rw[Vi,Vz]at h;split at h<;>cases h
  rw[Vi,Vz]at h;split at h<;>cases h
 ·rintro listed a' w' ⟨hs,h⟩ i hi;obtain⟨hl,o,ho,hpre⟩:=mem_ready.1 hi;have hiL:i<L+1:=by have:=(UZ.1 ho).1;omega
  rcases h with⟨hn,hS,f,rfl,hG,hV⟩|⟨hall,-⟩
  ·by_cases e:i=L
   ·subst e;have hall:∀k,k<i->listed.getD k false=true:=fun k hk=>NZ hlo hS ho hpre (i-k) k (by omega) hk;refine wpOp_mono (fun a'' w'' hq=>⟨by simpa using hs,Or.inr ⟨fun j hj=>?_,hq⟩⟩) (hfin o ho listed f w' hG (fun k hk=>hV k hk (hall k hk)));rw[kC (by simp;omega),aU _ _ _ (by omega)];by_cases e:j=i
    ·simp[e]
    rw[if_neg e];exact hall j (by omega)
   refine wpOp_mono ?_ (hstep i (by omega) o ho listed f w' hs hl hG (fun e he hb=>hV e.on (by have:=rF WZ i o ho e he hb;omega) (hpre e he hb)));rintro a'' w'' ⟨v,rfl,hG',hv,hmono⟩;refine⟨by simpa using hs,Or.inl ⟨?_,fun k o' ho' hkl e' he' hb'=>?_,_,rfl,hG',fun k hk hkl=>?_⟩⟩
   ·rw[aU _ _ _ (by omega),if_neg (Ne.symm e)];exact hn
   ·rw[aU _ _ _ (by omega)]at hkl ⊢;by_cases ee:e'.on=i
    ·rw[if_pos ee]
    rw[if_neg ee];by_cases ek:k=i
    ·subst ek;rw[ho]at ho';injection ho' with ho';subst ho';exact hpre e' he' hb'
    rw[if_neg ek]at hkl;exact hS k o' ho' hkl e' he' hb'
   rw[aU _ _ _ (by omega)]at hkl;by_cases ek:k=i
   ·subst ek;simpa[upd] using hv
   rw[if_neg ek]at hkl;simp only[upd,if_neg ek];exact hmono _ _ ek (hV k hk hkl)
  rw[hall i (by omega)]at hl;cases hl
 rintro listed a' w' ⟨hs,h⟩ hr;rcases h with⟨hn,-⟩|⟨-,hq⟩
 ·have:=qp hr hsz (rF WZ) hs L (by omega);rw[kC (by omega)]at this;rw[this]at hn;cases hn
 exact hq
end Go.Proofs.YtajkkeikihhejaaGreat
namespace Go.Proofs.YtajkkeikihhejaaGreat.Pl
theorem gF{a b:ByteArray}(h:a=b):Ending.returned (.string a)=.returned (.string b):=by rw[h]
theorem KO{s:ByteArray}(h:nI s=true):1<=s.size/\s.size<=12:=by simpa[nI] using h
theorem nM{s:ByteArray}(h:aT s=true):1<=s.size/\s.size<=12:=by
 simp[aT,dP]at h;exact KO h.1.1
theorem N7{s:ByteArray}(h:pQ s=true):1<=s.size/\s.size<=12:=by
 simp[pQ,dP]at h;exact KO h.1
theorem zh{t i:ByteArray}(h:fw t i=true):t.size<=12/\i.size<=12:=by
 simp[fw]at h;exact⟨(nM h.1).2,(N7 h.2).2⟩
def aD(t i:ByteArray):ByteArray:=if fw t i then t++⟨#[58]⟩++i else ⟨#[]⟩
theorem mR{t i:ByteArray}(h:fw t i=true):aD t i=t++⟨#[58]⟩++i:=by simp[aD,h]
theorem tN{t i:ByteArray}(h:fw t i=false):aD t i=⟨#[]⟩:=by simp[aD,h]
theorem iJ(t i:bQ):(aD t i).size<=25:=by
 unfold aD;split
 ·rename_i h;have h2:=zh h;have e1:(ByteArray.mk #[58]).size=1:=rfl;rw[Ve,Ve,e1];omega
 exact UY _
def tO(s:ByteArray):Bool:=s.toList.isEmpty || aT s
def cO(a b r c d s:ByteArray):Bool:=fw a b&&aT r&&fw c d&&tO s
def bi(a b r c d s:ByteArray):ByteArray :=
 if cO a b r c d s then
  (if s.toList.isEmpty then aD a b++⟨#[35]⟩++r++⟨#[64]⟩++aD c d else aD a b++⟨#[35]⟩++r++⟨#[64]⟩++aD c d++⟨#[35]⟩++s)
 else ⟨#[]⟩
theorem tQ{a b r c d s:ByteArray}(h:cO a b r c d s=false):bi a b r c d s=⟨#[]⟩:=by simp[bi,h]
theorem mU{a b r c d s:ByteArray}(h:cO a b r c d s=true)(hs:s.toList.isEmpty=true):bi a b r c d s=aD a b++⟨#[35]⟩++r++⟨#[64]⟩++aD c d:=by simp[bi,h,hs]
theorem mV{a b r c d s:ByteArray}(h:cO a b r c d s=true)(hs:s.toList.isEmpty=false):bi a b r c d s=aD a b++⟨#[35]⟩++r++⟨#[64]⟩++aD c d++⟨#[35]⟩++s:=by simp[bi,h,hs]
theorem zI{a b r c d s:ByteArray}(h:fw a b=false):cO a b r c d s=false:=by simp[cO,h]
theorem zJ{a b r c d s:ByteArray}(h:aT r=false):cO a b r c d s=false:=by simp[cO,h]
theorem zL{a b r c d s:ByteArray}(h:fw c d=false):cO a b r c d s=false:=by simp[cO,h]
theorem zM{a b r c d s:ByteArray}(h1:fw a b=true)(h2:aT r=true)(h3:fw c d=true):cO a b r c d s=tO s:=by simp[cO,h1,h2,h3]
theorem jY{a b r c d s:ByteArray}(h:cO a b r c d s=true):fw a b=true/\aT r=true/\fw c d=true/\tO s=true:=by
 simp[cO]at h;exact⟨h.1.1.1,h.1.1.2,h.1.2,h.2⟩
theorem zP{s:ByteArray}(h:s.toList.isEmpty=true):s.size=0:=by
 rw[Go.ByteArray.toList_eq]at h;have h2:s.data.toList=[]:=by simpa using h
 have h3:s.data.toList.length=0:=by rw[h2];rfl
 simpa using h3
theorem Et{s:ByteArray}(h:tO s=true):s.size<=12:=by
 simp only[tO,Bool.or_eq_true]at h;rcases h with h|h
 ·have:=zP h;omega
 exact(nM h).2
def jb(c:UInt8):List UInt8->List UInt8×List UInt8×Bool
 | []=>([],[],false)
 | b::l=>if b=c then ([],l,true) else (b::(jb c l).1,(jb c l).2.1,(jb c l).2.2)
theorem Q3{c:UInt8}{l:List UInt8}{k:Nat}(hk:k<l.length)(hn:∀x∈l.take k,x≠c)(hc:l[k]=c):jb c l=(l.take k,l.drop (k+1),true):=by
 induction l generalizing k with
 | nil=>simp at hk
 | cons b l ih =>
  cases k with
  | zero=>simp at hc;simp[jb,hc]
  | succ k =>
   have hb:b≠c:=hn b (by simp);have:=ih (k:=k) (by simpa using hk) (fun x hx=>hn x (by simp[hx])) (by simpa using hc);simp[jb,hb,this]
theorem rG{c:UInt8}{l:List UInt8}(hn:∀x∈l,x≠c):jb c l=(l,[],false):=by
 induction l with
 | nil=>rfl
 | cons b l ih =>
  have hb:b≠c:=hn b (by simp);have:=ih (fun x hx=>hn x (by simp[hx]));simp[jb,hb,this]
theorem F4(c:UInt8)(l:List UInt8):(jb c l).1.length<=l.length/\(jb c l).2.1.length<=l.length:=by
 induction l with
 | nil=>simp[jb]
 | cons b l ih =>
  unfold jb;split
  ·simp
  simp;omega
def kG(c:UInt8)(s:ByteArray):ByteArray:=⟨(jb c s.data.toList).1.toArray⟩
def iV(c:UInt8)(s:ByteArray):ByteArray:=⟨(jb c s.data.toList).2.1.toArray⟩
def oJ(c:UInt8)(s:ByteArray):Bool:=(jb c s.data.toList).2.2
theorem CP(l:List UInt8):(ByteArray.mk l.toArray).size=l.length:=rfl
theorem Q4(c:UInt8)(s:bQ):(kG c s).size<=s.size:=by
 unfold kG;rw[CP];exact(F4 c s.data.toList).1
theorem KP(c:UInt8)(s:bQ):(iV c s).size<=s.size:=by
 unfold iV;rw[CP];exact(F4 c s.data.toList).2
theorem gT{a b:ByteArray}(h:a.data.toList=b.data.toList):a=b:=by
 cases a;cases b;simp at h;simp[h]
def Td(c:UInt8)(s:ByteArray)(k:Nat):Prop:=∀x∈s.data.toList.take k,x≠c
theorem N8(c:UInt8)(s:bQ):Td c s 0:=by intro x hx;simp at hx
theorem N9{c:UInt8}{s:ByteArray}{k:Nat}(h:k<s.size)(hn:Td c s k)(hc:s[k]≠c):Td c s (k+1):=by
 intro x hx;rw[Cz s k h]at hx;simp at hx;rcases hx with hx|hx
 ·exact hn x (by simpa using hx)
 subst hx;exact hc
theorem Te{c:UInt8}{s:ByteArray}{k:Nat}(h:k<s.size)(hn:Td c s k)(hc:s[k]=c):jb c s.data.toList=(s.data.toList.take k,s.data.toList.drop (k+1),true) :=
 Q3 (by simpa using h) hn (by simpa[ByteArray.getElem_eq_getElem_data] using hc)
theorem Oa{c:UInt8}{s:ByteArray}{k:Nat}(h:s.size<=k)(hn:Td c s k):jb c s.data.toList=(s.data.toList,[],false) :=
 rG (fun x hx=>hn x (by rw[Vs (by simpa using h)];exact hx))
def Uc(s:ByteArray):Bool:=fw (kG 58 s) (iV 58 s)
def UM(s:ByteArray):ByteArray:=if Uc s then kG 58 s else ⟨#[]⟩
def UN(s:ByteArray):ByteArray:=if Uc s then iV 58 s else ⟨#[]⟩
theorem LC{c:UInt8}{l:List UInt8}(h:(jb c l).2.2=false):(jb c l).2.1=[]:=by
 induction l with
 | nil=>rfl
 | cons b l ih =>
  unfold jb at h⊢;split
  ·rename_i hb;simp[hb]at h
  rename_i hb;simp[hb]at h;simpa[hb] using ih h
theorem Oc{c:UInt8}{s:ByteArray}(h:oJ c s=false):iV c s=⟨#[]⟩:=by
 unfold oJ at h;unfold iV;rw[LC h]
theorem Od{s:ByteArray}(h:Uc s=true):UM s=kG 58 s/\UN s=iV 58 s:=by simp[UM,UN,h]
theorem Oe{c:UInt8}{l m:List UInt8}(h:∀x∈l,x≠c):jb c (l++c::m)=(l,m,true):=by
 induction l with
 | nil=>simp[jb]
 | cons b l ih =>
  have hb:b≠c:=h b (by simp);have:=ih (fun x hx=>h x (by simp[hx]));simp[jb,hb,this]
theorem CQ(c:UInt8)(s:bQ):(kG c s).data.toList=(jb c s.data.toList).1:=by simp[kG]
theorem CR(c:UInt8)(s:bQ):(iV c s).data.toList=(jb c s.data.toList).2.1:=by simp[iV]
theorem F5(a b:bQ):(a++b).data.toList=a.data.toList++b.data.toList:=by simp[ByteArray.data_append]
theorem zi{c:UInt8}{s:ByteArray}{l m:List UInt8}(hs:s.data.toList=l++c::m)(h:∀x∈l,x≠c):(kG c s).data.toList=l/\(iV c s).data.toList=m/\oJ c s=true:=by
 rw[CQ,CR,oJ,hs,Oe h];exact⟨rfl,rfl,rfl⟩
theorem Q5{c:UInt8}{s:ByteArray}(h:∀x∈s.data.toList,x≠c):kG c s=s/\iV c s=⟨#[]⟩/\oJ c s=false:=by
 refine⟨gT ?_,gT ?_,?_⟩
 ·rw[CQ,rG h]
 ·rw[CR,rG h]
 rw[oJ,rG h]
def Og(l:List UInt8):Prop:=∀x∈l,x≠35/\x≠58/\x≠64
theorem CS{x:UInt8}(h:yZ x=true):x≠35/\x≠58/\x≠64:=by
 refine⟨?_,?_,?_⟩<;>(rintro rfl;revert h;decide)
theorem II{x:UInt8}(h:fu x=true):x≠35/\x≠58/\x≠64:=CS (by simp[yZ,h])
theorem qw{s:ByteArray}(h:aT s=true):Og s.data.toList:=by
 simp only[aT,dP,sD,UW,U5]at h;exact fun x hx=>II (h.1.2 x hx)
theorem F6{s:ByteArray}(h:pQ s=true):Og s.data.toList:=by
 simp only[pQ,dP,sD,UW,U5]at h;exact fun x hx=>CS (h.2 x hx)
theorem tT{a b:ByteArray}(h:fw a b=true):aT a=true/\pQ b=true:=by simpa[fw] using h
theorem uR{a b:ByteArray}(h:fw a b=true):(aD a b).data.toList=a.data.toList++58::b.data.toList:=by
 rw[mR h,F5,F5];simp
theorem sN{a b:ByteArray}(h:fw a b=true):∀x∈(aD a b).data.toList,x≠35/\x≠64:=by
 intro x hx;rw[uR h]at hx;have h1:=qw (tT h).1;have h2:=F6 (tT h).2;simp only[U6,U9]at hx;rcases hx with hx|hx|hx
 ·exact⟨(h1 x hx).1,(h1 x hx).2.2⟩
 ·subst hx;decide
 exact⟨(h2 x hx).1,(h2 x hx).2.2⟩
theorem oK{a b:ByteArray}(h:fw a b=true):Uc (aD a b)=true/\UM (aD a b)=a/\UN (aD a b)=b:=by
 obtain⟨h1,h2,-⟩:=zi (c:=58) (uR h) (fun x hx=>(qw (tT h).1 x hx).2.1);have e1:kG 58 (aD a b)=a:=gT h1;have e2:iV 58 (aD a b)=b:=gT h2;have hb:Uc (aD a b)=true:=by rw[Uc,e1,e2];exact h
 exact⟨hb,by rw[(Od hb).1,e1],by rw[(Od hb).2,e2]⟩
def CU(s:ByteArray):List UInt8:=if s.toList.isEmpty then [] else 35::s.data.toList
theorem Eu{a b r c d s:ByteArray}(h:cO a b r c d s=true):
  (bi a b r c d s).data.toList=(aD a b).data.toList++35::(r.data.toList++64::((aD c d).data.toList++CU s)):=by
 by_cases hs:s.toList.isEmpty=true
 ·rw[mU h hs,CU,if_pos hs];simp
 have hs':s.toList.isEmpty=false:=by simpa using hs
 rw[mV h hs',CU,if_neg hs];simp
theorem Oh{s:ByteArray}(h:s.toList.isEmpty=true):s=⟨#[]⟩:=by
 refine gT ?_;rw[Go.ByteArray.toList_eq]at h;simpa using h
theorem Oi{o s x:ByteArray}(ho:∀y∈o.data.toList,y≠35)(hx:x.data.toList=o.data.toList++CU s):
  kG 35 x=o/\iV 35 x=s/\oJ 35 x=!s.toList.isEmpty:=by
 by_cases hs:s.toList.isEmpty=true
 ·have e:x=o:=gT (by rw[hx,CU,if_pos hs];simp);subst e;obtain⟨h1,h2,h3⟩:=Q5 (c:=35) (s:=x) ho;exact⟨h1,by rw[h2,Oh hs],by rw[h3,hs];rfl⟩
 rw[CU,if_neg hs]at hx;obtain⟨h1,h2,h3⟩:=zi hx ho;have hs':s.toList.isEmpty=false:=by simpa using hs
 exact⟨gT h1,gT h2,by rw[h3,hs'];rfl⟩
def i1(s:ByteArray):=iV 35 s
def i2(s:ByteArray):=iV 64 (i1 s)
theorem zQ{a b r c d t s:ByteArray}(h:cO a b r c d t=true)(hs:bi a b r c d t=s):
  kG 35 s=aD a b/\kG 64 (i1 s)=r/\kG 35 (i2 s)=aD c d/\iV 35 (i2 s)=t:=by
 obtain⟨h1,h2,h3,h4⟩:=jY h;have hl:=Eu h;rw[hs]at hl;obtain⟨c1,c2,-⟩:=zi hl (fun x hx=>(sN h1 x hx).1);obtain⟨d1,d2,-⟩:=zi (s:=i1 s) c2 (fun x hx=>(qw h2 x hx).2.2);obtain⟨e1,e2,-⟩:=Oi (o:=aD c d) (s:=t) (x:=i2 s) (fun x hx=>(sN h3 x hx).1) d2;exact⟨gT c1,gT d1,e1,e2⟩
def IJ(s a b r c d t:ByteArray)(f:Bool):Prop :=
 (f=true/\cO a b r c d t=true/\bi a b r c d t=s) \/
 (f=false/\(a=⟨#[]⟩/\b=⟨#[]⟩/\r=⟨#[]⟩/\c=⟨#[]⟩/\d=⟨#[]⟩/\t=⟨#[]⟩)/\∀a b r c d t,cO a b r c d t=true->bi a b r c d t≠s)
theorem F7{a b r c d t a' b' r' c' d' t':ByteArray}(h:cO a b r c d t=true)(h':cO a' b' r' c' d' t'=true)(e:bi a b r c d t=bi a' b' r' c' d' t'):
  a=a'/\b=b'/\r=r'/\c=c'/\d=d'/\t=t':=by
 obtain⟨x1,x2,x3,x4⟩:=zQ h e;obtain⟨y1,y2,y3,y4⟩:=zQ h' rfl;obtain⟨p1,p2,p3,p4⟩:=jY h;obtain⟨q1,q2,q3,q4⟩:=jY h';have o1:aD a b=aD a' b':=x1.symm.trans y1;have o2:aD c d=aD c' d':=x3.symm.trans y3;obtain⟨-,u1,u2⟩:=oK p1;obtain⟨-,v1,v2⟩:=oK q1;obtain⟨-,u3,u4⟩:=oK p3;obtain⟨-,v3,v4⟩:=oK q3;rw[o1]at u1 u2;rw[o2]at u3 u4;exact⟨u1.symm.trans v1,u2.symm.trans v2,x2.symm.trans y2,u3.symm.trans v3,u4.symm.trans v4,x4.symm.trans y4⟩
theorem IJ.one{s a b r c d t a' b' r' c' d' t':ByteArray}{f f':Bool}(h:IJ s a b r c d t f)(h':IJ s a' b' r' c' d' t' f'):
  (a=a'/\b=b'/\r=r'/\c=c'/\d=d'/\t=t')/\f=f':=by
 rcases h with⟨rfl,h1,h2⟩|⟨rfl,h1,h2⟩
 ·rcases h' with⟨rfl,k1,k2⟩|⟨rfl,k1,k2⟩
  ·exact⟨F7 h1 k1 (h2.trans k2.symm),rfl⟩
  exact absurd h2 (k2 _ _ _ _ _ _ h1)
 rcases h' with⟨rfl,k1,k2⟩|⟨rfl,k1,k2⟩
 ·exact absurd k2 (h2 _ _ _ _ _ _ k1)
 obtain⟨rfl,rfl,rfl,rfl,rfl,rfl⟩:=h1;obtain⟨rfl,rfl,rfl,rfl,rfl,rfl⟩:=k1;exact⟨⟨rfl,rfl,rfl,rfl,rfl,rfl⟩,rfl⟩
end Go.Proofs.YtajkkeikihhejaaGreat.Pl
namespace Go.Proofs.YtajkkeikihhejaaGreat
open ChangeShapes WideShapes ChangeAt RowKit Maps
open Go.ChangeMaps (setBlock heap_setBlock_same heap_setBlock_other)
section
variable  {K:Type}{enc:K->Value}{P:Program}{k:TypeId}{w:World}{b n:Nat}{M:K->Option Value}
theorem aK.of_block{w':af}(h:aK enc P k w b n M)(e:w'.heap[b]?=w.heap[b]?):aK enc P k w' b n M:=by
 obtain⟨D,⟨es,clock,hb,r⟩,h2⟩:=h;exact⟨D,⟨es,clock,e.trans hb,r⟩,h2⟩
theorem qx{w:af}{b:Nat}{es es':Array MapEntry}{c c':Nat}(hb:w.heap[b]?=some (.map es c)):w.grownBy (setBlock w b (.map es' c')) (some b) :=
 ⟨rfl,rfl,rfl,by simp[setBlock],fun i _ hi=>heap_setBlock_other hb _ (fun e=>hi (by rw[e]))⟩
theorem aK.entry[DecidableEq K]{t e:TypeId}(h:aK enc P k w b n M)(L:WideMaps.KeyLaw P k)(hinj:∀x y,enc x=enc y->x=y)(ht:P.underlying t=some (.map k e)){z:Value}(hz:∀u:World,(zeroValue e).run P u=.ok z u)(hn:n<maxLen){x:K}{kl:Lit}(hkey:keyOf P k (enc x)=some kl):
  ∃(st:Nat) (w1:World),(Instr.mapEntry t (.map (some b)) (enc x)).run P w=.ok (.tuple #[(M x).getD z,goInt st]) w1/\w.grownBy w1 (some b) /\
   ∀(w2:World) (val:Value),w2.heap[b]?=w1.heap[b]?→∃w3,(Instr.entryStore t (.map (some b)) (goInt st) val).run P w2=.ok () w3/\aK enc P k w3 b (n+1) (lu M x (some val))/\w2.grownBy w3 (some b):=by
 have LK:=Keyed.of_law L;have hlook:=h.look LK ht (hz w) hkey;have hst:=fun v=>h.store LK hinj ht hn hkey v;obtain⟨D,⟨es,clock,hb,F,hs,hD⟩,h2⟩:=h;obtain⟨v0,st,es1,clock1,hrun,hv0,hback⟩:=WideElems.entry_then_store L ht hz hb F hkey;have hb1:(setBlock w b (.map es1 clock1)).heap[b]?=some (.map es1 clock1):=heap_setBlock_same hb _;have ev:v0=(M x).getD z:=by
  have hl:=hlook;rcases Maps.fit_look false LK ht (hz w) hb F hkey with⟨XJ,hno,-⟩|⟨e0,y,hmem,hek,XJ,-,-,-⟩
  ·rw[hl]at XJ;injection XJ with e1;rcases hv0 with⟨e0,hm,hk0,-⟩|⟨-,hz0⟩
   ·exact absurd hk0 (hno e0 hm)
   rw[hz0,e1];rfl
  rw[hl]at XJ;injection XJ with e1;rcases hv0 with⟨e1',hm,hk0,hv⟩|⟨hno,-⟩
  ·have hnd:=F.stamped.2.2;have:e1'=e0:=by
    have h3:e1'.key=e0.key:=by rw[hk0,hek]
    obtain⟨i,hi,hie⟩:=Vx.1 hm;obtain⟨j,hj,hje⟩:=Vx.1 hmem;have h4:(es.toList.map (·.key))[i]'(by simpa using hi)=(es.toList.map (·.key))[j]'(by simpa using hj):=by simp only[List.getElem_map,hie,hje];exact h3
    have h6:=List.pairwise_iff_getElem.1 hnd;have h5:i=j:=by
     rcases Nat.lt_trichotomy i j with hl|hl|hl
     ·exact absurd h4 (h6 i j _ _ hl)
     ·exact hl
     exact absurd h4.symm (h6 j i _ _ hl)
    subst h5;rw[<-hie,<-hje]
   rw[hv,this,e1];rfl
  exact absurd hek (hno e0 hmem)
 refine⟨st,_,by rw[hrun,ev],qx hb,fun w2 val hw2=>?_⟩;have hw2':w2.heap[b]?=some (.map es1 clock1):=hw2.trans hb1;obtain⟨es',clock',hr1,hr2⟩:=hback w2 val hw2';obtain⟨w',hr3,hM',-⟩:=hst val;rw[hr2]at hr3;injection hr3 with _ e3;refine⟨_,hr1,hM'.of_block ?_,qx hw2'⟩;rw[<-e3,heap_setBlock_same hb,heap_setBlock_same hw2']
end
section
variable  {K:Type}{enc:K->Value}{P:Program}(w:World){ops:Array Oper}{rest:List Oper}{o:Oper}{a:Act}{Q:Exit->Act->World->Prop}
theorem Ce[DecidableEq K](hg:o.guard=none)(m x:Operand)(t:TypeId)(hop:o.op=Op.mapEntry t m x)(k e:TypeId)(L:WideMaps.KeyLaw P k)(hinj:∀x y,enc x=enc y->x=y)(ht:P.underlying t=some (.map k e)){z:Value}(hz:∀u:World,(zeroValue e).run P u=.ok z u)(b n:Nat)(M:K->Option Value)
  (hm:a.eval m=.map (some b)) (hV:aK enc P k w b n M) (hn:n<maxLen) (y:K) (kl:Lit) (hx:a.eval x=enc y) (hkey:keyOf P k (enc y)=some kl)
  (hK:∀ (st:Nat) (w1:World),w.grownBy w1 (some b)->(∀ (w2:World) (val:Value),w2.heap[b]?=w1.heap[b]?→∃ w3,(Instr.entryStore t (.map (some b)) (goInt st) val).run P w2=.ok () w3/\aK enc P k w3 b (n+1) (lu M y (some val))/\w2.grownBy w3 (some b)) ->
   wpList P ops Q rest (a.put o.dst (.tuple #[(M y).getD z,goInt st])) w1):wpList P ops Q (o::rest) a w:=by
 refine wpList_plain hg fun K' hK'=>?_;obtain⟨st,w1,hrun,h1,h2⟩:=hV.entry L hinj ht hz hn hkey;unfold Oper.wp;simp[execOp,hop,hm,hx,hrun,Result.andThen];exact hK' _ _ (hK st w1 h1 h2)
theorem tV(hg:o.guard=none)(m s v:Operand)(t:TypeId)(hop:o.op=Op.entryStore t m s v)(b st:Nat)(hm:a.eval m=.map (some b))(hs:a.eval s=goInt st)(u:Value)(hv:a.eval v=u)(k:TypeId)(n:Nat)(M:K->Option Value)
  (hback:∃w3,(Instr.entryStore t (.map (some b)) (goInt st) u).run P w=.ok () w3/\aK enc P k w3 b n M/\w.grownBy w3 (some b))
  (hK:∀w',aK enc P k w' b n M->w.grownBy w' (some b)->wpList P ops Q rest (a.put o.dst undef) w'):wpList P ops Q (o::rest) a w:=by
 refine wpList_plain hg fun K' hK'=>?_;obtain⟨w3,hrun,h1,h2⟩:=hback;unfold Oper.wp;simp[execOp,hop,hm,hs,hv,hrun,Result.andThen];exact hK' _ _ (hK w3 h1 h2)
end
set_option linter.unusedVariables false
structure Few{φ υ:Type}(us:φ->υ)(H:List φ->φ->Bool)(qs:List φ)(users:List υ)(out:List φ):Prop where
 set:∀f∈qs,us f ∉ users->f∈out\/H out f=false
theorem Few.start{φ υ:Type}{us:φ->υ}{H:List φ->φ->Bool}{qs:List φ}{users:List υ}{out:List φ}(h:∀f∈qs,us f∈users):Few us H qs users out:=⟨fun f hf hn=>absurd (h f hf) hn⟩
section
variable  {φ υ:Type}[DecidableEq φ]{us:φ->υ}{H:List φ->φ->Bool}
def Loc(us:φ->υ)(H:List φ->φ->Bool):Prop:=∀(a b:List φ) (f:φ),(∀g,us g=us f->(g∈a↔g∈b))->H a f=H b f
def eF(H:List φ->φ->Bool)(out:List φ)(f:φ):List φ:=if f∈out\/H out f=false then out else out++[f]
def bR(H:List φ->φ->Bool)(qs:List φ)(out:List φ):List φ:=qs.foldl (eF H) out
theorem Oj(out:List φ):bR H [] out=out:=rfl
theorem nN(q:φ)(qs out:List φ):bR H (q::qs) out=bR H qs (eF H out q):=rfl
theorem F8(zas bs out:List φ):bR H (zas++bs) out=bR H bs (bR H zas out):=by unfold bR;rw[List.foldl_append]
theorem wV(out:List φ)(f:φ):∃new,eF H out f=out++new/\∀g∈new,g=f/\g ∉ out/\H out f=true:=by
 unfold eF;split
 ·exact⟨[],by simp,fun g hg=>by cases hg⟩
 rename_i h;refine⟨[f],rfl,fun g hg=>?_⟩;rw[U4]at hg;subst hg;refine⟨rfl,fun e=>h (.inl e),?_⟩;cases e:H out g;case true=>rfl
 exact absurd (.inr e) h
theorem jH:∀(qs out:List φ),∃new,bR H qs out=out++new/\∀g∈new,g∈qs/\g ∉ out
 | [],out=>⟨[],by simp[Oj],fun g hg=>by cases hg⟩
 | q::qs,out=>by
  obtain⟨n1,e1,h1⟩:=wV (H:=H) out q;obtain⟨n2,e2,h2⟩:=jH qs (eF H out q);refine⟨n1++n2,by rw[nN,e2,e1,Vm],fun g hg=>?_⟩;rcases U6.1 hg with hg|hg
  ·exact⟨by rw[(h1 g hg).1];exact VD ..,(h1 g hg).2.1⟩
  obtain⟨h3,h4⟩:=h2 g hg;exact⟨Vv _ h3,fun e=>h4 (by rw[e1];exact VJ _ e)⟩
theorem qy{qs out:List φ}{g:φ}(h:g∈out):g∈bR H qs out:=by
 obtain⟨n,e,-⟩:=jH (H:=H) qs out;rw[e];exact VJ _ h
theorem wW{out:List φ}{f g:φ}(h:g∈out):g∈eF H out f:=by
 obtain⟨n,e,-⟩:=wV (H:=H) out f;rw[e];exact VJ _ h
theorem IK{out:List φ}(h:out.Nodup)(f:φ):(eF H out f).Nodup:=by
 unfold eF;split
 ·exact h
 rename_i hn;refine List.nodup_append.2 ⟨h,by simp,fun a ha b hb e=>?_⟩;rw[U4]at hb;subst hb;subst e;exact hn (.inl ha)
theorem wX:∀(qs:List φ) {out:List φ},out.Nodup->(bR H qs out).Nodup
 | [],_,h=>h
 | q::qs,_,h=>wX qs (IK h q)
theorem CV{qs out:List φ}(h:∀f∈qs,f∈out\/H out f=false):bR H qs out=out:=by
 induction qs with
 | nil=>rfl
 | cons q qs ih =>
  have e:eF H out q=out:=if_pos (h q (VD ..));rw[nN,e];exact ih fun f hf=>h f (Vv _ hf)
theorem Cf{qs out:List φ}:bR H qs out=out ↔ ∀f∈qs,f∈out\/H out f=false:=by
 refine⟨fun h=>?_,CV⟩
 induction qs with
 | nil=>intro f hf;cases hf
 | cons q qs ih =>
  rw[nN]at h;by_cases hq:q∈out\/H out q=false
  ·have e:eF H out q=out:=if_pos hq;rw[e]at h;intro f hf;rcases U9.1 hf with rfl|hf
   ·exact hq
   exact ih h f hf
  have e:eF H out q=out++[q]:=if_neg hq;obtain⟨n,e2,-⟩:=jH (H:=H) qs (eF H out q);rw[h,e]at e2;have:=congrArg List.length e2;simp at this
theorem mW(hL:Loc us H)(P:υ->Bool):∀(qs out:List φ),(∀f∈qs,P (us f)=false->f∈out\/H out f=false)->bR H qs out=bR H (qs.filter fun f=>P (us f)) out
 | [],_,_=>rfl
 | q::qs,out,h=>by
  rw[nN,VW];cases hp:P (us q);case false=>
   have e:eF H out q=out:=if_pos (h q (VD ..) hp);rw[e];exact mW hL P qs out fun f hf=>h f (Vv _ hf)
  rw[if_pos rfl,nN];refine mW hL P qs _ fun f hf hpf=>?_;have hne:us f≠us q:=fun e=>by rw[e,hp]at hpf;cases hpf
  obtain⟨n,e,hn⟩:=wV (H:=H) out q;have hm:∀g,us g=us f->(g∈out↔g∈eF H out q):=fun g hg=>by
   rw[e];refine⟨fun h=>VJ _ h,fun h=>?_⟩;rcases U6.1 h with h|h
   ·exact h
   exact absurd (by rw[(hn g h).1]at hg;exact hg.symm) hne
  rcases h f (Vv _ hf) hpf with h1|h1
  ·exact .inl ((hm f rfl).1 h1)
  exact .inr (by rw[<-hL out _ f hm];exact h1)
theorem uS(hL:Loc us H)(u:υ):∀(qs out:List φ),(∀g∈bR H qs out,us g=u->g∈out)->∀f∈qs,us f=u->f∈bR H qs out\/H (bR H qs out) f=false
 | [],_,_,f,hf,_=>by cases hf
 | q::qs,out,h,f,hf,hu=>by
  have hsame:∀g,us g=u->(g∈eF H out q↔g∈bR H qs (eF H out q)):=fun g hg=>⟨fun h1=>qy h1,fun h1=>wW (h g h1 hg)⟩;have hrest:∀g∈bR H qs (eF H out q),us g=u->g∈eF H out q:=fun g h1 h2=>(hsame g h2).2 h1;rcases U9.1 hf with rfl|hf
  ·show f∈bR H qs (eF H out f)\/H (bR H qs (eF H out f)) f=false;by_cases hq:f∈out\/H out f=false
   ·rcases hq with h1|h1
    ·exact .inl (qy (wW h1))
    refine .inr ?_;rw[<-hL out _ f fun g hg=>?_]
    ·exact h1
    exact⟨fun h2=>qy (wW h2),fun h2=>h g h2 (hg.trans hu)⟩
   have e:eF H out f=out++[f]:=if_neg hq;exact .inl (qy (by rw[e];simp))
  exact uS hL u qs _ hrest f hf hu
def jI(H:List φ->φ->Bool)(qs:List φ):Nat->List φ->List φ
 | 0,out=>out
 | k+1,out=>if bR H qs out=out then out else jI H qs k (bR H qs out)
def l6(qs out:List φ):Nat:=(qs.filter fun f=>decide (f ∉ out)).length
theorem Ol(qs:List φ){a b:List φ}(h:∀g∈a,g∈b):l6 qs b<=l6 qs a:=by
 unfold l6
 induction qs with
 | nil=>simp
 | cons q qs ih =>
  simp only[VW];by_cases hb:q∈b
  ·by_cases ha:q∈a
   ·simp[ha,hb];simpa using ih
   simp[ha,hb];have:=ih;simp at this;omega
  have ha:q ∉ a:=fun e=>hb (h q e);simp[ha,hb];simpa using ih
theorem Om(qs:List φ){a b:List φ}(h:∀g∈a,g∈b){x:φ}(hx:x∈qs)(ha:x ∉ a)(hb:x∈b):l6 qs b<l6 qs a:=by
 induction qs with
 | nil=>cases hx
 | cons q qs ih =>
  have hle:=Ol qs h;unfold l6 at ih hle⊢;simp only[VW];rcases U9.1 hx with rfl|hx
  ·simp[ha,hb];simp at hle;omega
  have:=ih hx;by_cases h1:q∈b
  ·by_cases h2:q∈a
   ·simp[h1,h2];simpa using this
   simp[h1,h2];simp at this;omega
  have h2:q ∉ a:=fun e=>h1 (h q e);simp[h1,h2];simpa using this
theorem wY{qs out:List φ}(h:bR H qs out≠out):l6 qs (bR H qs out)<l6 qs out:=by
 obtain⟨n,e,hn⟩:=jH (H:=H) qs out;cases n with
 | nil=>exact absurd (by simpa using e) h
 | cons x n =>
  obtain⟨h1,h2⟩:=hn x (VD ..);exact Om qs (fun g hg=>qy hg) h1 h2 (by rw[e];simp)
theorem zR(qs:List φ):∀(k j:Nat) (out:List φ),l6 qs out<k->l6 qs out<j->jI H qs k out=jI H qs j out
 | 0,_,_,h,_=>absurd h (VL _)
 | _+1,0,_,_,h=>absurd h (VL _)
 | k+1,j+1,out,h1,h2=>by
  unfold jI;by_cases e:bR H qs out=out
  ·rw[if_pos e,if_pos e]
  rw[if_neg e,if_neg e];have:=wY (H:=H) e;exact zR qs k j _ (by omega) (by omega)
def kH(H:List φ->φ->Bool)(qs out:List φ):List φ:=jI H qs (l6 qs out+1) out
theorem wZ{qs out:List φ}(h:bR H qs out=out):kH H qs out=out:=by
 unfold kH jI;rw[if_pos h]
theorem CW(qs out:List φ):kH H qs (bR H qs out)=kH H qs out:=by
 by_cases h:bR H qs out=out
 ·rw[h]
 have hlt:=wY (H:=H) h;have e:kH H qs out=jI H qs (l6 qs out) (bR H qs out):=by
  show jI H qs (l6 qs out+1) out=_;rw[jI,if_neg h]
 rw[e];unfold kH;exact zR qs _ _ _ (Nat.lt_succ_self _) hlt
theorem Oo(out:List φ):kH H [] out=out:=wZ rfl
theorem xe(qs:List φ):∀(k:Nat) (out:List φ),∃new,jI H qs k out=out++new/\∀g∈new,g∈qs
 | 0,out=>⟨[],by simp[jI],fun g hg=>by cases hg⟩
 | k+1,out=>by
  unfold jI;split
  ·exact⟨[],by simp,fun g hg=>by cases hg⟩
  obtain⟨n1,e1,h1⟩:=jH (H:=H) qs out;obtain⟨n2,e2,h2⟩:=xe qs k (bR H qs out);refine⟨n1++n2,by rw[e2,e1,Vm],fun g hg=>?_⟩;rcases U6.1 hg with hg|hg
  ·exact(h1 g hg).1
  exact h2 g hg
theorem F9(qs:List φ):∀(k:Nat) (out:List φ),l6 qs out<k->bR H qs (jI H qs k out)=jI H qs k out
 | 0,_,h=>absurd h (VL _)
 | k+1,out,h=>by
  unfold jI;split
  ·rename_i e;exact e
  rename_i e;have:=wY (H:=H) e;exact F9 qs k _ (by omega)
theorem Oq(qs out:List φ):bR H qs (kH H qs out)=kH H qs out:=F9 qs _ out (Nat.lt_succ_self _)
theorem zS(qs:List φ):∀(k:Nat) {out:List φ},out.Nodup->(jI H qs k out).Nodup
 | 0,_,h=>h
 | k+1,out,h=>by
  unfold jI;split
  ·exact h
  exact zS qs k (wX qs h)
theorem LD(qs:List φ){out:List φ}(h:out.Nodup):(kH H qs out).Nodup:=zS qs _ h
theorem Few.round[DecidableEq υ](hL:Loc us H){qs:List φ}{users:List υ}{out:List φ}(h:Few us H qs users out):bR H (qs.filter fun f=>decide (us f∈users)) out=bR H qs out :=
 (mW hL (fun u=>decide (u∈users)) qs out fun f hf hp=>h.set f hf (by simpa using hp)).symm
theorem Few.next[DecidableEq υ](hL:Loc us H){qs:List φ}{users users':List υ}{out new:List φ}(h:Few us H qs users out)(hn:bR H qs out=out++new)(hu:∀u,u∈users'↔u∈users/\∃g∈new,us g=u):Few us H qs users' (out++new):=by
 refine⟨fun f hf hnf=>?_⟩;have key:∀g∈bR H qs out,us g=us f->g∈out:=fun g hg hgu=>by
  rw[hn]at hg;rcases U6.1 hg with hg|hg
  ·exact hg
  by_cases hin:us f∈users
  ·exact absurd ((hu _).2 ⟨hin,g,hg,hgu⟩) hnf
  -- a user that was left out before finds none
  have e:=h.round hL;obtain⟨n2,e2,h2⟩:=jH (H:=H) (qs.filter fun f=>decide (us f∈users)) out;rw[e,hn]at e2;have e3:new=n2:=List.append_cancel_left e2;rw[e3]at hg;have h3:=(h2 g hg).1;rw[VM]at h3;have h4:us g∈users:=by simpa using h3.2
  rw[hgu]at h4;exact absurd h4 hin
 have:=uS hL (us f) qs out key f hf rfl;rw[hn]at this;exact this
theorem Few.done{qs:List φ}{out:List φ}(h:Few us H qs [] out):kH H qs out=out:=wZ (CV fun f hf=>h.set f hf List.not_mem_nil)
end
end Go.Proofs.YtajkkeikihhejaaGreat
namespace Go.Proofs.YtajkkeikihhejaaGreat.G
open ChangeShapes WideShapes ChangeAt RowKit Maps
open Pl
variable  {K α:Type}{enc:K->Value}{P:Program}{kt et:TypeId}{sz:Nat}{cl:α->List Value}
def FreeB(M:K->Option Value)(g:Nat):Prop:=∀k v,M k=some v->v.ownBlock≠some g
structure Stl(W:World)(M:K->Option Value)(w2:World)(M2:K->Option Value)(bL:Nat):Prop where
 size:W.heap.size<=w2.heap.size
 block:∀g,g<W.heap.size->g≠bL->FreeB M g->w2.heap[g]?=W.heap[g]?
 free:∀g,g<W.heap.size->FreeB M g->FreeB M2 g
theorem Stl.refl(W:af)(M:K->Option Value)(bL:Nat):Stl W M W M bL:=⟨UU _,fun _ _ _ _=>rfl,fun _ _ h=>h⟩
theorem Stl.trans{W w2 w3:af}{M M2 M3:K->Option Value}{bL:Nat}(h:Stl W M w2 M2 bL)(h2:Stl w2 M2 w3 M3 bL):Stl W M w3 M3 bL where
 size:=U0 h.size h2.size
 block g hg hb hf:=(h2.block g (UT hg h.size) hb (h.free g hg hf)).trans (h.block g hg hb hf)
 free g hg hf:=h2.free g (UT hg h.size) (h.free g hg hf)
theorem Stl.below{W w2:af}{M:K->Option Value}{bL:Nat}(hB:ae W w2):Stl W M w2 M bL:=⟨hB.size,fun g hg _ _=>hB.block g hg,fun _ _ h=>h⟩
structure Cel(w:World)(M:K->Option Value)(bL g o:Nat)(u:Value):Prop where
 cell:w.cell? ⟨g,o,none⟩=some u
 lt:g<w.heap.size
 free:FreeB M g
 ne:g≠bL
theorem Cel.stl{w w2:af}{M M2:K->Option Value}{bL g o:Nat}{u:Value}(h:Cel w M bL g o u)(hS:Stl w M w2 M2 bL):Cel w2 M2 bL g o u where
 cell:=(Vh (w:=w) (hS.block g h.lt h.ne h.free)).trans h.cell
 lt:=UT h.lt hS.size
 free:=hS.free g h.lt h.free
 ne:=h.ne
theorem IL{w w':af}{base:Nat}{e:TypeId}{size:Nat}{v:Value}{n:Nat}{xs:Q03}(h:w.ownsRow base e size v n xs)(hb:ae w w'):w'.ownsRow base e size v n xs:=by
 have hl:=fun g hg=>(h.lt g hg).2;refine⟨h.1,?_⟩;rcases h.2 with h0|⟨g,cap,cur,rfl,h1,h2,h3⟩
 ·exact .inl h0
 exact .inr ⟨g,cap,cur,rfl,h1,(hb.block g (hl g rfl)).trans h2,h3⟩
variable  [DecidableEq K]
def flatG(cl:α->List Value)(xs:List α):List Value:=xs.flatMap cl
theorem IM(cl:α->List Value)(xs:List α)(x:α):flatG cl (xs++[x])=flatG cl xs++cl x:=by simp[flatG]
def lookL(E:List (K×α))(k:K):List α:=E.filterMap fun p=>if p.1=k then some p.2 else none
theorem lookL_append(E F:List (K×α))(k:K):lookL (E++F) k=lookL E k++lookL F k:=by unfold lookL;rw[List.filterMap_append]
theorem tX(E:List (K×α))(k:K)(s:α):lookL (E++[(k,s)]) k=lookL E k++[s]:=by rw[lookL_append];simp[lookL]
theorem qz(E:List (K×α)){k y:K}(s:α)(h:k≠y):lookL (E++[(y,s)]) k=lookL E k:=by rw[lookL_append];simp[lookL,Ne.symm h]
theorem mem_lookL{E:List (K×α)}{k:K}{s:α}:s∈lookL E k↔(k,s)∈E:=by
 unfold lookL;rw[List.mem_filterMap];constructor
 ·rintro⟨⟨a,b⟩,h1,h2⟩;simp only at h2;split at h2
  ·rename_i e;injection h2 with h2;rw[<-e,<-h2];exact h1
  cases h2
 intro h;exact⟨(k,s),h,by simp⟩
structure Grp(enc:K->Value)(P:Program)(kt et:TypeId)(sz:Nat)(cl:α->List Value)(w:World)(bL n:Nat)(M:K->Option Value)(E:List (K×α)):Prop where
 map:aK enc P kt w bL n M
 row:∀k,(M k=none/\lookL E k=[]) \/ ∃v,M k=some v/\w.ownsRow (bL+1) et sz v (lookL E k).length (flatG cl (lookL E k))
 apart:∀k k' v v',k≠k'->M k=some v->M k'=some v'->∀g,v.ownBlock=some g->v'.ownBlock≠some g
theorem Grp.lt{w:af}{bL n:Nat}{M:K->Option Value}{E:List (K×α)}(h:Grp enc P kt et sz cl w bL n M E){k:K}{v:Value}(hk:M k=some v){g:Nat}(hg:v.ownBlock=some g):bL<g/\g<w.heap.size:=by
 rcases h.row k with⟨e,-⟩|⟨v',e,ho⟩
 ·rw[e]at hk;cases hk
 rw[e]at hk;injection hk with hk;subst hk;have:=ho.lt g hg;exact⟨by omega,this.2⟩
theorem Grp.fresh{w:af}{bL n:Nat}{M:K->Option Value}{E:List (K×α)}(h:Grp enc P kt et sz cl w bL n M E){g:Nat}(hg:w.heap.size<=g):FreeB M g:=fun k v hk e=>by
 have:=(h.lt hk e).2;omega
theorem Grp.mono{w:af}{bL n n':Nat}{M:K->Option Value}{E:List (K×α)}(h:Grp enc P kt et sz cl w bL n M E)(hn:n<=n'):Grp enc P kt et sz cl w bL n' M E:=⟨h.map.mono hn,h.row,h.apart⟩
theorem Grp.below{w w':af}{bL n:Nat}{M:K->Option Value}{E:List (K×α)}(h:Grp enc P kt et sz cl w bL n M E)(hB:ae w w'):Grp enc P kt et sz cl w' bL n M E where
 map:=h.map.below hB
 row k:=by
  rcases h.row k with e|⟨v,e,ho⟩
  ·exact .inl e
  exact .inr ⟨v,e,IL ho hB⟩
 apart:=h.apart
theorem grp_made(w:af):Grp enc P kt et sz cl (w.alloc (.map #[] 0)) w.heap.size 0 (fun _=>none) [] where
 map:=lK _ _ _ w
 row k:=.inl ⟨rfl,rfl⟩
 apart k k' v v' _ h:=by cases h
theorem Grp.step{W0 w1 w2 w3:af}{bL n:Nat}{M:K->Option Value}{E:List (K×α)}{y:K}{v':Value}{s:α}(h:Grp enc P kt et sz cl W0 bL n M E)(hg1:W0.grownBy w1 (some bL))(hown:w2.ownsRow (bL+1) et sz v' ((lookL E y).length+1) (flatG cl (lookL E y)++cl s))
  (hg2:w1.grownBy w2 ((M y).getD (.slice none 0 0)).ownBlock) (hloc:v'.ownBlock=((M y).getD (.slice none 0 0)).ownBlock\/v'.ownBlock=some w1.heap.size) (hg3:w2.grownBy w3 (some bL)) (hM:aK enc P kt w3 bL (n+1) (lu M y (some v'))) :
  Grp enc P kt et sz cl w3 bL (n+1) (lu M y (some v')) (E++[(y,s)])/\Stl W0 M w3 (lu M y (some v')) bL:=by
 have hrow0:∀k v,M k=some v->∃xs m,W0.ownsRow (bL+1) et sz v m xs:=fun k v hk=>by
  rcases h.row k with⟨e,-⟩|⟨v1,e,ho⟩
  ·rw[e]at hk;cases hk
  rw[e]at hk;injection hk with hk;subst hk;exact⟨_,_,ho⟩
 have hne2:∀k v,k≠y->M k=some v->v.ownBlock=none\/v.ownBlock≠((M y).getD (.slice none 0 0)).ownBlock:=fun k v hky hk=>by
  cases e:v.ownBlock with
  | none=>exact .inl rfl
  | some g =>
   right;cases ey:M y with
   | none=>simp[Value.ownBlock]
   | some vy=>intro e2;exact h.apart k y v vy hky hk ey g e (by simpa using e2.symm)
 have hnb:∀v,(∃k,M k=some v)->v.ownBlock=none\/v.ownBlock≠some bL:=fun v ⟨k,hk⟩=>by
  cases e:v.ownBlock with
  | none=>exact .inl rfl
  | some g=>right;have:=(h.lt hk e).1;intro e2;injection e2 with e2;omega
 have hnew:∀g,v'.ownBlock=some g->bL<g:=fun g e=>by have:=(hown.lt g e).1;omega
 have hv'b:v'.ownBlock=none\/v'.ownBlock≠some bL:=by
  cases e:v'.ownBlock with
  | none=>exact .inl rfl
  | some g=>right;have:=hnew g e;intro e2;injection e2 with e2;omega
 constructor
 ·refine⟨hM,fun k=>?_,fun k k' v u hkk hk hk' g e=>?_⟩
  ·by_cases ek:k=y
   ·subst ek;rw[ed,tX];refine .inr ⟨v',rfl,?_⟩;rw[IM,U2];exact hown.kept hg3 hv'b
   rw[dw ek,qz _ _ ek];rcases h.row k with e|⟨v,e,ho⟩
   ·exact .inl e
   exact .inr ⟨v,e,((ho.kept hg1 (hnb v ⟨k,e⟩)).kept hg2 (hne2 k v ek e)).kept hg3 (hnb v ⟨k,e⟩)⟩
  by_cases ek:k=y
  ·subst ek;rw[ed]at hk;injection hk with hk;subst hk;rw[dw (Ne.symm hkk)]at hk';intro e2;rcases hloc with el|el
   ·rw[e]at el;cases ey:M k with
    | none=>rw[ey]at el;simp[Value.ownBlock]at el
    | some vy=>rw[ey]at el;exact h.apart k k' vy u hkk ey hk' g (by simpa using el.symm) e2
   rw[e]at el;injection el with el;have:=(h.lt hk' e2).2;have:=hg1.size;omega
  rw[dw ek]at hk;by_cases ek':k'=y
  ·subst ek';rw[ed]at hk';injection hk' with hk';subst hk';intro e2;rcases hloc with el|el
   ·rw[e2]at el;cases ey:M k' with
    | none=>rw[ey]at el;simp[Value.ownBlock]at el
    | some vy=>rw[ey]at el;exact h.apart k k' v vy hkk hk ey g e (by simpa using el.symm)
   rw[e2]at el;injection el with el;have:=(h.lt hk e).2;have:=hg1.size;omega
  rw[dw ek']at hk';exact h.apart k k' v u hkk hk hk' g e
 refine⟨U0 hg1.size (U0 hg2.size hg3.size),fun g hg hb hf=>?_,fun g hg hf k v hk=>?_⟩
 ·have h1:=hg1.block g hg (fun e=>hb (by injection e));have h2:=hg2.block g (UT hg hg1.size) (fun e=>by
   cases ey:M y with
   | none=>rw[ey]at e;simp[Value.ownBlock]at e
   | some vy=>rw[ey]at e;exact hf y vy ey (by simpa using e.symm))
  have h3:=hg3.block g (UT hg (U0 hg1.size hg2.size)) (fun e=>hb (by injection e));rw[h3,h2,h1]
 by_cases ek:k=y
 ·subst ek;rw[ed]at hk;injection hk with hk;subst hk;intro e2;rcases hloc with el|el
  ·rw[e2]at el;cases ey:M k with
   | none=>rw[ey]at el;simp[Value.ownBlock]at el
   | some vy=>rw[ey]at el;exact hf k vy ey (by simpa using el.symm)
  rw[e2]at el;injection el with el;have:=hg1.size;omega
 rw[dw ek]at hk;exact hf k v hk
end Go.Proofs.YtajkkeikihhejaaGreat.G
namespace Go.Proofs.YtajkkeikihhejaaGreat
open RowKit
section
variable  {P:Program}{ops:Array Oper}{Q:Exit->Act->World->Prop}
theorem pR{id:Nat}{a:Act}{w:af}(L:Nat)(f0:Nat->Value)(F:(Nat->Value)->Act)(I:(Nat->Bool)->(Nat->Value)->World->Prop)
  (hm:P.follows .mixedOrders=true) (hsz:ops.size=L+1) (WZ:zH ops=true) (hlo:zt ops L=true)
  (h0:a=F f0) (hI0:I (fun _=>false) f0 w.drew)
  (hstep:∀ i,i<L->∀ o,ops[i]?=some o->∀ (l:Nat->Bool) f w',l i=false->I l f w'->(∀ e∈o.after,Region.binds .any e=true->l e.on=true) ->
   wpOp P ops Q i (fun a' w''=>∃v,a'=F (upd f i v)/\I (fun k=>if k=i then true else l k) (upd f i v) w'') (F f) w')
  (hfin:∀o,ops[L]?=some o->∀(l:Nat->Bool) f w',(∀k,k<L->l k=true)->I l f w'->wpOp P ops Q L (fun a' w''=>Q .normal a' w'') (F f) w') :
  (Code.region id ops true).wp P Q a w:=by
 refine gY (fun listed a' w'=>listed.size=L+1/\((listed.getD L false=false/\∃f,a'=F f/\I (fun k=>listed.getD k false) f w')\/((∀j,j<=L->listed.getD j true=true)/\Q .normal a' w'))) hm ?_ ?_ ?_
 ·refine⟨by simpa using hsz,Or.inl ⟨?_,_,h0,?_⟩⟩
  ·rw[Vi,Vz];split<;>rfl
  have:(fun k=>(Array.replicate ops.size false).getD k false)=fun _=>false:=funext fun k=>by rw[Vi,Vz];split<;>rfl
  rw[this];exact hI0
 ·rintro listed a' w' ⟨hs,h⟩ i hi;obtain⟨hl,o,ho,hpre⟩:=mem_ready.1 hi;have hiL:i<L+1:=by have:=(UZ.1 ho).1;omega
  rcases h with⟨hn,f,rfl,hI⟩|⟨hall,-⟩
  ·by_cases e:i=L
   ·subst e;have hall:∀k,k<i->listed.getD k false=true:=fun k hk=>by
     obtain⟨e,he,rfl,hb⟩:=CF hlo o ho k hk;exact hpre e he hb
    refine wpOp_mono (fun a'' w'' hq=>⟨by simpa using hs,Or.inr ⟨fun j hj=>?_,hq⟩⟩) (hfin o ho _ f w' hall hI);rw[kC (by simp;omega),aU _ _ _ (by omega)];by_cases e:j=i
    ·simp[e]
    rw[if_neg e];exact hall j (by omega)
   refine wpOp_mono ?_ (hstep i (by omega) o ho _ f w' (by rw[<-kC (by omega)];exact hl) hI (fun e he hb=>hpre e he hb));rintro a'' w'' ⟨v,rfl,hI'⟩;refine⟨by simpa using hs,Or.inl ⟨?_,_,rfl,?_⟩⟩
   ·rw[aU _ _ _ (by omega),if_neg (Ne.symm e)];exact hn
   have:(fun k=>(listed.setIfInBounds i true).getD k false)=fun k=>if k=i then true else listed.getD k false:=funext fun k=>aU _ _ _ (by omega)
   rw[this];exact hI'
  rw[hall i (by omega)]at hl;cases hl
 rintro listed a' w' ⟨hs,h⟩ hr;rcases h with⟨hn,-⟩|⟨-,hq⟩
 ·have:=qp hr hsz (rF WZ) hs L (by omega);rw[kC (by omega)]at this;rw[this]at hn;cases hn
 exact hq
end
end Go.Proofs.YtajkkeikihhejaaGreat
namespace Go.Proofs.YtajkkeikihhejaaGreat.G
set_option linter.unusedVariables false
open ChangeShapes WideShapes ChangeAt RowKit Maps
open Pl
def Back{K:Type}[DecidableEq K](enc:K->Value)(P:Program)(kt t:TypeId)(bp n:Nat)(M:K->Option Value)(y:K)(st:Nat)(w:World):Prop :=
 ∀(w2:World) (val:Value),w2.heap[bp]?=w.heap[bp]?→∃w3,(Instr.entryStore t (.map (some bp)) (goInt st) val).run P w2=.ok () w3/\aK enc P kt w3 bp (n+1) (lu M y (some val))/\w2.grownBy w3 (some bp)
def put(l:Nat->Bool)(i:Nat):Nat->Bool:=fun k=>if k=i then true else l k
structure EA(C:Nat->Value)(NEW:Array Value)(et:TypeId)(W:World)(l:Nat->Bool)(f:Nat->Value)(w:World):Prop where
 late:∀k,7<=k->k<=10->l k=false
 bel:ae W w
 val:∀k,k<=5->l k=true->f k=C k
 row:l 6=true->∃g,f 6=.slice (some ⟨g,0,none⟩) 1 1/\W.heap.size<=g/\w.heap[g]?=some (.cells NEW et (0,0))
structure EB(C:Nat->Value)(NEW:Array Value)(et:TypeId)(W:World)(bp:Nat)(row0:Value)(BK:Nat->World->Prop)(l:Nat->Bool)(f:Nat->Value)(w:World):Prop where
 low:∀k,k<=7->l k=true
 l9:l 9=false
 val:∀k,k<=5->f k=C k
 mid:∃(W0:World) (st g:Nat),ae W W0/\f 6=.slice (some ⟨g,0,none⟩) 1 1/\W.heap.size<=g/\W0.heap[g]?=some (.cells NEW et (0,0))/\W0.grownBy w (some bp)/\f 7=.tuple #[row0,goInt st]/\BK st w/\(l 8=true->f 8=row0)/\(l 10=true->f 10=goInt st)
structure EC(C:Nat->Value)(NEW:Array Value)(et:TypeId)(sz:Nat)(W:World)(bp:Nat)(row0:Value)(nn:Nat)(xs:Q03)(BK:Nat->World->Prop)(l:Nat->Bool)(f:Nat->Value)(w:World):Prop where
 low:∀k,k<=9->l k=true
 val:∀k,k<=5->f k=C k
 mid:∃(W0 w1:World) (st:Nat),ae W W0/\W0.grownBy w1 (some bp)/\w1.grownBy w row0.ownBlock/\w.ownsRow (bp+1) et sz (f 9) (nn+1) (xs++NEW.toList)/\((f 9).ownBlock=row0.ownBlock\/(f 9).ownBlock=some w1.heap.size)/\BK st w1/\f 7=.tuple #[row0,goInt st]/\(l 10=true->f 10=goInt st)
def EI(C:Nat->Value)(NEW:Array Value)(et:TypeId)(sz:Nat)(W:World)(bp:Nat)(row0:Value)(nn:Nat)(xs:Q03)(BK:Nat->World->Prop)(l:Nat->Bool)(f:Nat->Value)(w:World):Prop :=
 EA C NEW et W l f w\/EB C NEW et W bp row0 BK l f w\/EC C NEW et sz W bp row0 nn xs BK l f w
section
variable  {C:Nat->Value}{NEW:Array Value}{et:TypeId}{sz:Nat}{W:World}{bp:Nat}{row0:Value}{nn:Nat}{xs:Q03}{BK:Nat->World->Prop}{l:Nat->Bool}{f:Nat->Value}{w:World}
theorem ei_start(W:af):EI C NEW et sz W bp row0 nn xs BK (fun _=>false) f W.drew:=.inl ⟨fun _ _ _=>rfl,(UV _ _).drew,fun _ _ h=>(by cases h),fun h=>(by cases h)⟩
theorem EI.early(h:EI C NEW et sz W bp row0 nn xs BK l f w){i:Nat}(hi:i<=7)(hl:l i=false):EA C NEW et W l f w:=by
 rcases h with h|h|h
 ·exact h
 ·rw[h.low i hi]at hl;cases hl
 rw[h.low i (by omega)]at hl;cases hl
theorem EA.put{i:Nat}(h:EA C NEW et W l f w)(hi:i<=5){v:Value}(hv:v=C i):EI C NEW et sz W bp row0 nn xs BK (fun k=>if k=i then true else l k) (upd f i v) w:=by
 refine .inl ⟨fun k h7 h10=>?_,h.bel,fun k hk hl=>?_,fun hl=>?_⟩
 ·show(if _=_ then true else _)=_;rw[if_neg (by omega)];exact h.late k h7 h10
 ·by_cases e:k=i
  ·subst e;simp[upd,hv]
  simp only[if_neg e]at hl;simp only[upd,if_neg e];exact h.val k hk hl
 replace hl:(if _=_ then true else _)=true:=hl;rw[if_neg (by omega)]at hl;simp only[upd];rw[if_neg (by omega)];exact h.row hl
theorem EA.lay(h:EA C NEW et W l f w):EI C NEW et sz W bp row0 nn xs BK (fun k=>if k=6 then true else l k) (upd f 6 (.slice (some ⟨w.heap.size,0,none⟩) 1 1)) (w.alloc (.cells NEW et)):=by
 refine .inl ⟨fun k h7 h10=>?_,h.bel.alloc h.bel.size _,fun k hk hl=>?_,fun _=>⟨w.heap.size,by simp[upd],h.bel.size,heap_alloc_new w _⟩⟩
 ·show(if _=_ then true else _)=_;rw[if_neg (by omega)];exact h.late k h7 h10
 replace hl:(if _=_ then true else _)=true:=hl;rw[if_neg (by omega)]at hl;simp only[upd];rw[if_neg (by omega)];exact h.val k hk hl
theorem EA.took(h:EA C NEW et W l f w)(hall:∀k,k<=6->l k=true){st:Nat}{w1:af}(hg:w.grownBy w1 (some bp))(hb:BK st w1):EI C NEW et sz W bp row0 nn xs BK (fun k=>if k=7 then true else l k) (upd f 7 (.tuple #[row0,goInt st])) w1:=by
 obtain⟨g,e6,ZI,hc⟩:=h.row (hall 6 (by omega));refine .inr (.inl ⟨fun k hk=>?_,?_,fun k hk=>?_,w,st,g,h.bel,?_,ZI,hc,hg,?_,hb,fun h8=>?_,fun h10=>?_⟩)
 ·by_cases e:k=7
  ·simp[e]
  simp only[if_neg e];exact hall k (by omega)
 ·show(if (9:Nat)=7 then true else l 9)=false;rw[if_neg (by omega)];exact h.late 9 (by omega) (by omega)
 ·simp only[upd];rw[if_neg (by omega)];exact h.val k hk (hall k (by omega))
 ·simp only[upd];rw[if_neg (by omega)];exact e6
 ·simp[upd]
 ·have:(if (8:Nat)=7 then true else l 8)=true:=h8;rw[if_neg (by omega),h.late 8 (by omega) (by omega)]at this;cases this
 have:(if (10:Nat)=7 then true else l 10)=true:=h10;rw[if_neg (by omega),h.late 10 (by omega) (by omega)]at this;cases this
theorem EI.midB(h:EI C NEW et sz W bp row0 nn xs BK l f w)(h7:l 7=true){i:Nat}(hi:i<=9)(hl:l i=false):EB C NEW et W bp row0 BK l f w:=by
 rcases h with h|h|h
 ·rw[h.late 7 (by omega) (by omega)]at h7;cases h7
 ·exact h
 rw[h.low i hi]at hl;cases hl
theorem EI.seven(h:EI C NEW et sz W bp row0 nn xs BK l f w)(h7:l 7=true):∃st:Nat,f 7=.tuple #[row0,goInt st]:=by
 rcases h with h|h|h
 ·rw[h.late 7 (by omega) (by omega)]at h7;cases h7
 ·obtain⟨_,st,_,_,_,_,_,_,e,_⟩:=h.mid;exact⟨st,e⟩
 obtain⟨_,_,st,_,_,_,_,_,_,e,_⟩:=h.mid;exact⟨st,e⟩
theorem EB.first(h:EB C NEW et W bp row0 BK l f w):EI C NEW et sz W bp row0 nn xs BK (fun k=>if k=8 then true else l k) (upd f 8 row0) w:=by
 obtain⟨W0,st,g,h1,h2,h3,h4,h5,h6,h7,h8,h9⟩:=h.mid;refine .inr (.inl ⟨fun k hk=>?_,?_,fun k hk=>?_,W0,st,g,h1,?_,h3,h4,h5,?_,h7,fun _=>?_,fun h10=>?_⟩)
 ·show(if _=_ then true else _)=_;rw[if_neg (by omega)];exact h.low k hk
 ·show(if (9:Nat)=8 then true else l 9)=false;rw[if_neg (by omega)];exact h.l9
 ·simp only[upd];rw[if_neg (by omega)];exact h.val k hk
 ·simp only[upd];rw[if_neg (by omega)];exact h2
 ·simp only[upd];rw[if_neg (by omega)];exact h6
 ·simp[upd]
 have h10':(if (10:Nat)=8 then true else l 10)=true:=h10;rw[if_neg (by omega)]at h10';simp only[upd];rw[if_neg (by omega)];exact h9 h10'
theorem EI.second(h:EI C NEW et sz W bp row0 nn xs BK l f w)(h7:l 7=true){st:Nat}(e:f 7=.tuple #[row0,goInt st]):EI C NEW et sz W bp row0 nn xs BK (fun k=>if k=10 then true else l k) (upd f 10 (goInt st)) w:=by
 have same:∀st':Nat,.tuple #[row0,goInt st']=Value.tuple #[row0,goInt st]->goInt st'=goInt st:=fun st' e=>by
  injection e with e;have:=congrArg Array.toList e;simp only[List.cons.injEq]at this;exact this.2.1
 rcases h with h|h|h
 ·rw[h.late 7 (by omega) (by omega)]at h7;cases h7
 ·obtain⟨W0,st',g,h1,h2,h3,h4,h5,h6,hb,h8,h9⟩:=h.mid;have es:=same st' (h6.symm.trans e);refine .inr (.inl ⟨fun k hk=>?_,?_,fun k hk=>?_,W0,st',g,h1,?_,h3,h4,h5,?_,hb,fun h8'=>?_,fun _=>?_⟩)
  ·show(if _=_ then true else _)=_;rw[if_neg (by omega)];exact h.low k hk
  ·show(if (9:Nat)=10 then true else l 9)=false;rw[if_neg (by omega)];exact h.l9
  ·simp only[upd];rw[if_neg (by omega)];exact h.val k hk
  ·simp only[upd];rw[if_neg (by omega)];exact h2
  ·simp only[upd];rw[if_neg (by omega)];exact h6
  ·have h8'':(if (8:Nat)=10 then true else l 8)=true:=h8';rw[if_neg (by omega)]at h8'';simp only[upd];rw[if_neg (by omega)];exact h8 h8''
  simp[upd,es]
 obtain⟨W0,w1,st',h1,h2,h3,h4,h5,hb,h6,h9⟩:=h.mid;have es:=same st' (h6.symm.trans e);refine .inr (.inr ⟨fun k hk=>?_,fun k hk=>?_,W0,w1,st',h1,h2,h3,?_,?_,hb,?_,fun _=>?_⟩)
 ·show(if _=_ then true else _)=_;rw[if_neg (by omega)];exact h.low k hk
 ·simp only[upd];rw[if_neg (by omega)];exact h.val k hk
 ·simp only[upd];rw[if_neg (by omega)];exact h4
 ·simp only[upd];rw[if_neg (by omega)];exact h5
 ·simp only[upd];rw[if_neg (by omega)];exact h6
 simp[upd,es]
theorem EB.app(h:EB C NEW et W bp row0 BK l f w)(h8:l 8=true){v':Value}{w':af}(hg:w.grownBy w' row0.ownBlock)(ho:w'.ownsRow (bp+1) et sz v' (nn+1) (xs++NEW.toList))(hloc:v'.ownBlock=row0.ownBlock\/v'.ownBlock=some w.heap.size):EI C NEW et sz W bp row0 nn xs BK (fun k=>if k=9 then true else l k) (upd f 9 v') w':=by
 obtain⟨W0,st,g,h1,h2,h3,h4,h5,h6,hb,_,h9⟩:=h.mid;refine .inr (.inr ⟨fun k hk=>?_,fun k hk=>?_,W0,w,st,h1,h5,hg,?_,?_,hb,?_,fun h10=>?_⟩)
 ·by_cases e:k=9
  ·simp[e]
  by_cases e8:k=8
  ·simp only[if_neg e];rw[e8];exact h8
  simp only[if_neg e];exact h.low k (by omega)
 ·simp only[upd];rw[if_neg (by omega)];exact h.val k hk
 ·simp only[upd,if_true];exact ho
 ·simp only[upd,if_true];exact hloc
 ·simp only[upd];rw[if_neg (by omega)];exact h6
 have h10':(if (10:Nat)=9 then true else l 10)=true:=h10;rw[if_neg (by omega)]at h10';simp only[upd];rw[if_neg (by omega)];exact h9 h10'
theorem EI.last(h:EI C NEW et sz W bp row0 nn xs BK l f w)(hall:∀k,k<11->l k=true):EC C NEW et sz W bp row0 nn xs BK l f w:=by
 rcases h with h|h|h
 ·have:=hall 7 (by omega);rw[h.late 7 (by omega) (by omega)]at this;cases this
 ·have:=hall 9 (by omega);rw[h.l9]at this;cases this
 exact h
end
end Go.Proofs.YtajkkeikihhejaaGreat.G
namespace Go.Proofs.YtajkkeikihhejaaGreat
open ChangeShapes WideShapes ChangeAt RowKit Maps
abbrev K3:=ByteArray×ByteArray×ByteArray
def qA(k:K3):Value:=.agg #[.string k.1,.string k.2.1,.string k.2.2]
theorem Ot(x y:K3)(h:qA x=qA y):x=y:=by
 unfold qA at h;injection h with h;have h1:=congrArg Array.toList h;simp at h1;exact Prod.ext h1.1 (Prod.ext h1.2.1 h1.2.2)
theorem Um:(223:TypeId)<prog.types.size:=of_decide_eq_true (by kernel_rfl)
theorem Tf:(match prog.underlying 223 with|some (.array _ _)|some (.struct _)=>true|_=>false)=true:=by rw[underlying223]
set_option maxRecDepth 100000 in
theorem Ou:WideMaps.KeyLaw prog 223:=deep_law_laid zx (m:=3) (by omega) Um (by kernel_rfl) Tf
theorem KQ:Keyed prog 223:=Keyed.of_law Ou
theorem Tg:prog.keyType 223=true:=by kernel_rfl
theorem KS:prog.cellsOf 223=3:=by kernel_rfl
theorem LF:prog.cellsOf 27=2:=by kernel_rfl
theorem LG:2<=prog.types.size:=of_decide_eq_true (by kernel_rfl)
theorem zT:∃n,prog.types.size=n+2:=⟨prog.types.size-2,by have:=LG;omega⟩
set_option maxRecDepth 100000 in
theorem uU(k:K3)(h0:k.1.size<=maxLen)(h1:k.2.1.size<=maxLen)(h2:k.2.2.size<=maxLen):∃kl,keyOf prog 223 (qA k)=some kl:=by
 obtain⟨n,hn⟩:=zT;refine⟨.string (keyBytes [.string k.1.data.toList,.string k.2.1.data.toList,.string k.2.2.data.toList]),?_⟩;unfold keyOf;rw[underlying223];simp only[Tg,qA,Value.formed,underlying223,KS,hn,Value.cells];simp +decide [Program.keyLits,underlying223,underlying27,underlying9,KS,LF,strCells,h0,h1,h2]
abbrev KL:=ByteArray×Int
def Ga(k:KL):Value:=.agg #[.string k.1,.int .i64 k.2]
theorem Ov(x y:KL)(h:Ga x=Ga y):x=y:=by
 unfold Ga at h;injection h with h;have h1:=congrArg Array.toList h;simp at h1;exact Prod.ext h1.1 h1.2
theorem Un:(172:TypeId)<prog.types.size:=of_decide_eq_true (by kernel_rfl)
theorem Ti:(match prog.underlying 172 with|some (.array _ _)|some (.struct _)=>true|_=>false)=true:=by rw[underlying172]
set_option maxRecDepth 100000 in
theorem Ow:WideMaps.KeyLaw prog 172:=deep_law_laid zx (m:=2) (by omega) Un (by kernel_rfl) Ti
theorem Uo:Keyed prog 172:=Keyed.of_law Ow
theorem Tj:prog.keyType 172=true:=by kernel_rfl
theorem KT:prog.cellsOf 172=2:=by kernel_rfl
theorem Ox:prog.cellsOf 2=1:=by kernel_rfl
set_option maxRecDepth 100000 in
theorem KU(k:KL)(h0:k.1.size<=maxLen)(h1:0<=k.2)(h2:k.2<=1000000):∃kl,keyOf prog 172 (Ga k)=some kl:=by
 have hw:(Lit.int .i64 k.2).wf=true:=WalkArith.wf_i64 ⟨by omega,by omega⟩;obtain⟨n,hn⟩:=zT;refine⟨.string (keyBytes [.string k.1.data.toList,.int .i64 k.2]),?_⟩;unfold keyOf;rw[underlying172];simp only[Tj,Ga,Value.formed,underlying172,KT,hn,Value.cells];simp +decide [Program.keyLits,underlying172,underlying2,underlying9,KT,Ox,strCells,h0,hw]
section
variable  {P:Program}{ops:Array Oper}{Q:Exit->Act->World->Prop}
theorem jZ{id:Nat}{a:Act}{w:af}(L:Nat)(f0:Nat->Value)(F:(Nat->Value)->Act)(I:(Nat->Bool)->(Nat->Value)->World->Prop)
  (hm:P.follows .mixedOrders=true) (hsz:ops.size=L+1) (WZ:zH ops=true)
  (hcl:∀o,ops[L]?=some o->∀(l:Nat->Bool) f w',I l f w'->(∀e∈o.after,Region.binds .any e=true->l e.on=true)->∀k,k<L->l k=true)
  (h0:a=F f0) (hI0:I (fun _=>false) f0 w.drew)
  (hstep:∀ i,i<L->∀ o,ops[i]?=some o->∀ (l:Nat->Bool) f w',l i=false->I l f w'->(∀ e∈o.after,Region.binds .any e=true->l e.on=true) ->
   wpOp P ops Q i (fun a' w''=>∃v,a'=F (upd f i v)/\I (fun k=>if k=i then true else l k) (upd f i v) w'') (F f) w')
  (hfin:∀o,ops[L]?=some o->∀(l:Nat->Bool) f w',(∀k,k<L->l k=true)->I l f w'->wpOp P ops Q L (fun a' w''=>Q .normal a' w'') (F f) w') :
  (Code.region id ops true).wp P Q a w:=by
 refine gY (fun listed a' w'=>listed.size=L+1/\((listed.getD L false=false/\∃f,a'=F f/\I (fun k=>listed.getD k false) f w')\/((∀j,j<=L->listed.getD j true=true)/\Q .normal a' w'))) hm ?_ ?_ ?_
 ·refine⟨by simpa using hsz,Or.inl ⟨?_,_,h0,?_⟩⟩
  ·rw[Vi,Vz];split<;>rfl
  have:(fun k=>(Array.replicate ops.size false).getD k false)=fun _=>false:=funext fun k=>by rw[Vi,Vz];split<;>rfl
  rw[this];exact hI0
 ·rintro listed a' w' ⟨hs,h⟩ i hi;obtain⟨hl,o,ho,hpre⟩:=mem_ready.1 hi;have hiL:i<L+1:=by have:=(UZ.1 ho).1;omega
  rcases h with⟨hn,f,rfl,hI⟩|⟨hall,-⟩
  ·by_cases e:i=L
   ·subst e;have hall:∀k,k<i->listed.getD k false=true:=hcl o ho _ f w' hI (fun e he hb=>hpre e he hb);refine wpOp_mono (fun a'' w'' hq=>⟨by simpa using hs,Or.inr ⟨fun j hj=>?_,hq⟩⟩) (hfin o ho _ f w' hall hI);rw[kC (by simp;omega),aU _ _ _ (by omega)];by_cases e:j=i
    ·simp[e]
    rw[if_neg e];exact hall j (by omega)
   refine wpOp_mono ?_ (hstep i (by omega) o ho _ f w' (by rw[<-kC (by omega)];exact hl) hI (fun e he hb=>hpre e he hb));rintro a'' w'' ⟨v,rfl,hI'⟩;refine⟨by simpa using hs,Or.inl ⟨?_,_,rfl,?_⟩⟩
   ·rw[aU _ _ _ (by omega),if_neg (Ne.symm e)];exact hn
   have:(fun k=>(listed.setIfInBounds i true).getD k false)=fun k=>if k=i then true else listed.getD k false:=funext fun k=>aU _ _ _ (by omega)
   rw[this];exact hI'
  rw[hall i (by omega)]at hl;cases hl
 rintro listed a' w' ⟨hs,h⟩ hr;rcases h with⟨hn,-⟩|⟨-,hq⟩
 ·have:=qp hr hsz (rF WZ) hs L (by omega);rw[kC (by omega)]at this;rw[this]at hn;cases hn
 exact hq
end
end Go.Proofs.YtajkkeikihhejaaGreat
namespace Go.Proofs.YtajkkeikihhejaaGreat.G
set_option linter.unusedVariables false
open ChangeShapes WideShapes ChangeAt RowKit
structure WI(C:Nat->Value)(W:World)(CD:Value->World->Prop)(l:Nat->Bool)(f:Nat->Value)(w:World):Prop where
 val:∀k,k<=9->k≠7->l k=true->f k=C k
 seq:l 7=true->l 4=true/\l 6=true
 nin:l 9=true->l 8=true
 mid:(l 7=false/\ae W w)\/(l 7=true/\CD (f 7) w)
section
variable  {C:Nat->Value}{W:World}{CD:Value->World->Prop}{l:Nat->Bool}{f:Nat->Value}{w:World}
theorem wi_start(W:af):WI C W CD (fun _=>false) f W.drew:=⟨fun _ _ _ h=>(by cases h),fun h=>(by cases h),fun h=>(by cases h),.inl ⟨rfl,(UV _ _).drew⟩⟩
theorem WI.put(h:WI C W CD l f w){i:Nat}(hi:i≠7)(h9:i=9->l 8=true){v:Value}(hv:v=C i):WI C W CD (fun k=>if k=i then true else l k) (upd f i v) w:=by
 refine⟨fun k hk h7 hl=>?_,fun hl=>?_,fun hl=>?_,?_⟩
 ·by_cases e:k=i
  ·subst e;simp[upd,hv]
  simp only[if_neg e]at hl;simp only[upd,if_neg e];exact h.val k hk h7 hl
 ·have hl':(if (7:Nat)=i then true else l 7)=true:=hl;rw[if_neg (Ne.symm hi)]at hl';have:=h.seq hl';constructor
  ·show(if (4:Nat)=i then true else l 4)=true;rw[this.1];split<;>rfl
  show(if (6:Nat)=i then true else l 6)=true;rw[this.2];split<;>rfl
 ·have hl':(if (9:Nat)=i then true else l 9)=true:=hl;show(if (8:Nat)=i then true else l 8)=true;by_cases e:(9:Nat)=i
  ·rw[h9 e.symm];split<;>rfl
  rw[if_neg e]at hl';rw[h.nin hl'];split<;>rfl
 have e7:(if (7:Nat)=i then true else l 7)=l 7:=if_neg (Ne.symm hi);have f7:upd f i v 7=f 7:=by simp only[upd];rw[if_neg (Ne.symm hi)]
 rcases h.mid with⟨h1,h2⟩|⟨h1,h2⟩
 ·exact .inl ⟨e7.trans h1,h2⟩
 exact .inr ⟨e7.trans h1,by rw[f7];exact h2⟩
theorem WI.before(h:WI C W CD l f w)(hl:l 7=false):ae W w:=by
 rcases h.mid with⟨_,h2⟩|⟨h1,_⟩
 ·exact h2
 rw[h1]at hl;cases hl
theorem WI.early(h:WI C W CD l f w)(hl:l 4=false\/l 6=false):ae W w:=by
 refine h.before ?_;cases h7:l 7;case false=>rfl
 obtain⟨h4,h6⟩:=h.seq h7;rcases hl with e|e
 ·rw[h4]at e;cases e
 rw[h6]at e;cases e
theorem WI.call(h:WI C W CD l f w)(h4:l 4=true)(h6:l 6=true){v:Value}{w':af}(hc:CD v w'):WI C W CD (fun k=>if k=7 then true else l k) (upd f 7 v) w':=by
 refine⟨fun k hk h7 hl=>?_,fun _=>⟨by simp[h4],by simp[h6]⟩,fun hl=>h.nin hl,.inr ⟨by simp,by simp only[upd,if_true];exact hc⟩⟩;simp only[if_neg h7]at hl;simp only[upd,if_neg h7];exact h.val k hk h7 hl
theorem WI.last(h:WI C W CD l f w)(hall:∀k,k<10->l k=true):(∀k,k<=9->k≠7->f k=C k)/\CD (f 7) w:=by
 refine⟨fun k hk h7=>h.val k hk h7 (hall k (by omega)),?_⟩;rcases h.mid with⟨h1,_⟩|⟨_,h2⟩
 ·rw[hall 7 (by omega)]at h1;cases h1
 exact h2
end
end Go.Proofs.YtajkkeikihhejaaGreat.G
