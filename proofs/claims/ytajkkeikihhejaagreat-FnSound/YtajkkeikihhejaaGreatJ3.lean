/- What a right expression is, in plain words, in the document's way and in the program's way, and that both say the same. -/
import Derived.Test.YtajkkeikihhejaaGreatSq
import Derived.Test.YtajkkeikihhejaaGreatJ1
import Derived.Lib.Join
import Derived.Deep.QuietTactic
import Derived.BigQuiet
import Derived.Maps.OwnSet
import Derived.DeepKeys4
open Go.Proofs.Tryz
set_option maxHeartbeats 80000000
namespace Go.Proofs.YtajkkeikihhejaaGreat
open Pl
def ko(x y:Al):Bool:=x.t.toList==y.t.toList&&x.s.toList==y.s.toList
def Gf(a:Al):Bool:=aU a.t&&uU a.s
def dK(xs:Q0a)(k:Nat)(a:Al):Bool:=(xs.take k).any fun x=>ko x a
theorem uf(xs:Q0a)(k:Nat)(a:Al)(h:k<xs.length):dK xs (k+1) a=(dK xs k a || ko xs[k] a):=by
 unfold dK;rw[Ve h,List.any_append];simp
theorem ug(xs:Q0a)(a:Al):dK xs 0 a=false:=by simp[dK]
def EJ(xs:Q0a):Nat->Bool
 | 0=>true
 | k+1=>EJ xs k&&(xs[k]?.map fun a=>Gf a && !dK xs k a).getD true
theorem zS(xs:Q0a)(k:Nat)(h:k<xs.length):EJ xs (k+1)=(EJ xs k&&(Gf xs[k] && !dK xs k xs[k])):=by
 simp[EJ,h]
theorem oW(xs:Q0a)(k:Nat)(h:k<xs.length)(hb:(Gf xs[k] && !dK xs k xs[k])=false):∀n,k<n->EJ xs n=false
 | 0,hn=>by omega
 | n+1,hn=>by
  by_cases e:n=k
  ·subst e;rw[zS _ _ h,hb];simp
  simp[EJ,oW xs k h hb n (by omega)]
def eG(xs:Q0a):Bool:=decide (1<=xs.length)&&decide (xs.length<=6)&&EJ xs xs.length
def ay(e:Ex):Bool :=
 if e.kind=1 then eG e.allow&&e.over.toList.isEmpty&&e.name.toList.isEmpty&&decide (e.kids.length=0)
 else if e.kind=2 then aU e.name&&decide (e.allow.length=0)&&e.over.toList.isEmpty&&decide (e.kids.length=0)
 else if e.kind=3 then aU e.over&&aU e.name&&decide (e.allow.length=0)&&decide (e.kids.length=0)
 else if e.kind=4\/e.kind=5 then decide (2<=e.kids.length)&&decide (e.kids.length<=5)&&decide (e.allow.length=0)&&e.over.toList.isEmpty&&e.name.toList.isEmpty
 else if e.kind=6 then decide (e.kids.length=2)&&decide (e.allow.length=0)&&e.over.toList.isEmpty&&e.name.toList.isEmpty
 else false
def dz(f:Int->Int):List Int->Int->Int
 | [],at'=>at'+1
 | k::ks,at'=>if at'<0\/k≠at' then -1 else if f at'<0 then -1 else dz f ks (f at'-1)
def di(es:Q09)(n:Nat):List Int:=(es[n]?.map Ex.kids).getD []
def az(es:Q09)(n:Nat):Int:=dz (fun x=>if _h:0<=x/\x.toNat<n then az es x.toNat else -1) (di es n).reverse ((n:Int)-1)
def dD(es:Q09)(n:Nat)(x:Int):Int:=if 0<=x/\x.toNat<n then az es x.toNat else -1
theorem jq(es:Q09)(n:Nat):az es n=dz (dD es n) (di es n).reverse ((n:Int)-1):=by
 rw[az];rfl
theorem Db{f:Int->Int}(hf:∀x,0<=x->f x<=x):∀(ks:List Int) (a:Int),-1<=a->dz f ks a<=a+1
 | [],a,_=>by simp[dz]
 | k::ks,a,ha=>by
  unfold dz;split
  ·omega
  rename_i h;split
  ·omega
  rename_i h2;have h0:0<=a:=by omega
  have:=Db hf ks (f a-1) (by omega);have:=hf a h0;omega
theorem fZ(es:Q09)(n:Nat):az es n<=n:=by
 induction n using Nat.strongRecOn with
 | ind n ih =>
  rw [jq];have:=Db (f:=dD es n) (fun x hx=>by
   unfold dD;split
   ·rename_i h;have:=ih x.toNat h.2;omega
   omega) (di es n).reverse ((n:Int)-1) (by omega)
  omega
theorem Om(es:Q09)(n:Nat)(x:Int)(hx:0<=x):dD es n x<=x:=by
 unfold dD;split
 ·have:=fZ es x.toNat;omega
 omega
theorem tq{es:Q09}{n:Nat}(ih:∀m,m<n->0<=az es m->∀j:Nat,az es m<=j->j<=m->0<=az es j):
  ∀(ks:List Int) (a:Int),a<n->0<=dz (dD es n) ks a->∀j:Nat,dz (dD es n) ks a<=j->(j:Int)<=a->0<=az es j
 | [],a,ha,h,j,h1,h2=>by simp[dz]at h1;omega
 | k::ks,a,ha,h,j,h1,h2=>by
  unfold dz at h h1;split at h
  ·omega
  rename_i c;rw[if_neg c]at h1;split at h
  ·omega
  rename_i c2;rw[if_neg c2]at h1;have h0:0<=a:=by omega
  have hF:dD es n a=az es a.toNat:=by unfold dD;rw[if_pos ⟨h0,by omega⟩]
  rw[hF]at h h1 c2;by_cases hj:az es a.toNat<=j
  ·exact ih a.toNat (by omega) (by omega) j hj (by omega)
  exact tq ih ks (az es a.toNat-1) (by have:=fZ es a.toNat;omega) h j h1 (by omega)
theorem nP(es:Q09)(n:Nat):0<=az es n->∀j:Nat,az es n<=j->j<=n->0<=az es j:=by
 induction n using Nat.strongRecOn with
 | ind n ih =>
  intro h j h1 h2;by_cases e:j=n
  ·subst e;exact h
  rw[jq]at h h1;exact tq ih _ _ (by omega) h j h1 (by omega)
def ll(es:Q09)(i:Nat):Bool:=(di es i).all fun k=>decide (0<=k)&&decide (k<=(i:Int)-1)
theorem yt{es:Q09}{n:Nat}:∀(ks:List Int) (a:Int),a<n->0<=dz (dD es n) ks a->∀k∈ks,0<=k/\k<=a
 | [],_,_,_,k,hk=>by cases hk
 | x::ks,a,ha,h,k,hk=>by
  unfold dz at h;split at h
  ·omega
  rename_i c;split at h
  ·omega
  rename_i c2;have h0:0<=a:=by omega
  rcases Vq.1 hk with rfl|hk
  ·omega
  have hl:=Om es n a h0;have:=yt ks (dD es n a-1) (by omega) h k hk;omega
theorem LV(es:Q09)(i:Nat)(h:0<=az es i):ll es i=true:=by
 unfold ll;rw[Vm];intro k hk;rw[jq]at h;have:=yt _ _ (by omega) h k (by simpa using hk);simp;omega
def Oo(es:Q09)(n:Nat):Prop:=∀j,j<n->0<=az es j
def own(es:Q09):Nat:=(es.filter fun e=>decide (e.kind=1)).length
def gX(es:Q09)(k:Nat):Nat:=own (es.take k)
theorem zT(es:Q09)(k:Nat)(h:k<es.length):gX es (k+1)=gX es k+(if es[k].kind=1 then 1 else 0):=by
 unfold gX own;rw[Ve h,Wp,Vh];by_cases e:es[k].kind=1<;>simp[e]
theorem uY(es:Q09)(k:Nat):gX es k<=k:=by
 unfold gX own;exact Vj (List.length_filter_le ..) (by simp;omega)
def jH(es:Q09)(k:Nat):Bool:=(es.take k).all ay
theorem uZ(es:Q09)(k:Nat)(h:k<es.length):jH es (k+1)=(jH es k&&ay es[k]):=by
 unfold jH;rw[Ve h,Wl];simp
theorem Dc(es:Q09)(k:Nat)(h:k<es.length)(hb:ay es[k]=false):es.all ay=false:=by
 rw[Bool.eq_false_iff];intro h2;rw[Vm]at h2;have:=h2 es[k] (U8 h);rw[hb]at this;cases this
def jk(es:Q09)(k:Nat):Bool:=(List.range k).all (ll es)
theorem Gg(es:Q09)(k:Nat):jk es (k+1)=(jk es k&&ll es k):=by simp[jk,List.range_succ]
theorem Oq(es:Q09)(k:Nat)(h:k<es.length)(hb:ll es k=false):jk es es.length=false:=by
 rw[Bool.eq_false_iff];intro h2;unfold jk at h2;rw[Vm]at h2;have:=h2 k (by simpa using h);rw[hb]at this;cases this
def aN(es:Q09):Bool:=decide (1<=es.length)&&decide (es.length<=15)&&es.all ay&&jk es es.length&&decide (own es<=1)&&decide (az es (es.length-1)=0)
def jb(es:Q09):Bool:=(List.range es.length).all fun j=>decide (0<=az es j)
def kL(es:Q09):Bool:=decide (1<=es.length)&&decide (es.length<=15)&&es.all ay&&decide (own es<=1)&&(jb es&&decide (az es (es.length-1)=0))
theorem rR(es:Q09):aN es=kL es:=by
 by_cases h1:1<=es.length
 ·by_cases ht:az es (es.length-1)=0
  ·have ha:jb es=true:=by
    unfold jb;rw[Vm];intro j hj;have hj':j<es.length:=by simpa using hj
    simpa using nP es (es.length-1) (by omega) j (by omega) (by omega)
   have hk:jk es es.length=true:=by
    unfold jk;rw[Vm];intro j hj;have hj':j<es.length:=by simpa using hj
    exact LV es j (nP es (es.length-1) (by omega) j (by omega) (by omega))
   simp[aN,kL,ht,ha,hk,h1]
  simp[aN,kL,ht]
 simp[aN,kL,h1]
theorem jr{a b:ByteArray}(h:a.data.toList=b.data.toList):a=b:=by
 cases a;cases b;congr;exact Array.toList_inj.1 h
def fE(sep:ByteArray)(xs:List ByteArray):ByteArray:=⟨(Lib.join (xs.map (·.data.toList)) sep.data.toList).toArray⟩
theorem De(sep:bW):fE sep []=⟨#[]⟩:=rfl
theorem inter_snoc{α:Type}(s:List α):∀(l:List (List α)) (x:List α),s.intercalate (l++[x])=if l=[] then x else s.intercalate l++(s++x)
 | [],x=>by simp[List.intercalate]
 | [a],x=>by simp[List.intercalate]
 | a::b::l,x=>by
  have ih:=inter_snoc s (b::l) x;simp only[VS,List.intercalate,List.intersperse,reduceCtorEq,if_false]at ih ⊢;simp only[List.flatten_cons]at ih ⊢;rw[ih];simp
theorem oZ(sep:bW)(xs:List ByteArray)(x:bW):fE sep (xs++[x])=if xs=[] then x else fE sep xs++sep++x:=by
 apply jr;unfold fE Lib.join;rw[VX,Wn,List.map_nil,inter_snoc];by_cases h:xs=[]
 ·simp[h]
 simp[h,ByteArray.data_append]
theorem o6(sep:bW)(b:Nat):∀(n:Nat) (xs:List ByteArray),xs.length=n->(∀x∈xs,x.size<=b)->(fE sep xs).size<=n*(b+sep.size)
 | 0,xs,hn,_=>by
  have:xs=[]:=List.eq_nil_of_length_eq_zero hn;subst this;simp[De];rfl
 | n+1,xs,hn,hx=>by
  obtain⟨ys,y,rfl⟩:∃ys y,xs=ys++[y]:=by
   have hne:xs≠[]:=by intro e;simp[e]at hn
   exact⟨xs.dropLast,xs.getLast hne,(List.dropLast_concat_getLast hne).symm⟩
  have hl:ys.length=n:=by simp at hn;exact hn
  have ih:=o6 sep b n ys hl (fun x h=>hx x (by simp[h]));have hy:=hx y (by simp);rw[oZ,Nat.succ_mul];by_cases h:ys=[]
  ·rw[if_pos h];omega
  rw[if_neg h,Vv,Vv];omega
def fJ(a:Al):ByteArray:=if a.s.toList.isEmpty then a.t else a.t++⟨#[35]⟩++a.s
def ve(xs:Q0a):ByteArray:=⟨#[116,104,105,115,40]⟩++fE ⟨#[44]⟩ (xs.map fJ)++⟨#[41]⟩
def gZ(k:Int):ByteArray:=if k=4 then ⟨#[32,124,32]⟩ else if k=5 then ⟨#[32,38,32]⟩ else ⟨#[32,45,32]⟩
theorem mq(k:Int):(gZ k).size=3:=by
 unfold gZ;split
 ·rfl
 split<;>rfl
def mr(f:Int->ByteArray)(e:Ex):ByteArray :=
 if e.kind=1 then ve e.allow else if e.kind=2 then e.name else if e.kind=3 then e.over++⟨#[45,62]⟩++e.name else fE (gZ e.kind) (e.kids.map f)
def inT(e:Ex)(inside:Bool)(t:ByteArray):ByteArray:=if inside && !(decide (e.kind=1) || decide (e.kind=2) || decide (e.kind=3)) then ⟨#[40]⟩++t++⟨#[41]⟩ else t
def EK(es:Q09)(n:Nat):Ex:=es[n]?.getD ⟨0,[],⟨#[]⟩,⟨#[]⟩,[]⟩
def txt(es:Q09)(n:Nat):ByteArray:=inT (EK es n) true (mr (fun x=>if _h:x.toNat<n then txt es x.toNat else ⟨#[]⟩) (EK es n))
def jI(es:Q09)(n:Nat)(x:Int):ByteArray:=if x.toNat<n then txt es x.toNat else ⟨#[]⟩
def jc(es:Q09)(n:Nat)(inside:Bool):ByteArray:=inT (EK es n) inside (mr (jI es n) (EK es n))
theorem EL(es:Q09)(n:Nat):txt es n=jc es n true:=by
 rw[txt];rfl
def zU:Nat->Nat
 | 0=>200
 | n+1=>zU n*6
theorem KY(n:Nat):200<=zU n:=by
 induction n with
 | zero=>exact Va _
 | succ n ih=>simp only[zU];omega
theorem Df{m n:Nat}(h:m<=n):zU m<=zU n:=by
 induction h with
 | refl=>exact Va _
 | step _ ih=>simp only[zU];omega
theorem Rh:zU 14<=20000000000000:=by decide
theorem cu{s:ByteArray}(h:aU s=true):s.size<=12:=by
 simp only[aU,dP,nW,Vd,Vk]at h;exact h.1.1.2
theorem zV{s:ByteArray}(h:uU s=true):s.size<=12:=by
 unfold uU at h;rw[Bool.or_eq_true]at h;rcases h with h|h
 ·have h2:s.data.toList=[]:=by rw[Go.ByteArray.toList_eq]at h;simpa using h
  have h3:s.data.toList.length=0:=by rw[h2];rfl
  have:s.size=s.data.toList.length:=rfl;omega
 exact cu h
theorem zt{xs:Q0a}:∀{k:Nat},EJ xs k=true->∀(i:Nat) (h:i<xs.length),i<k->Gf xs[i]=true
 | 0,_,i,_,hi=>by omega
 | k+1,hk,i,h,hi=>by
  unfold EJ at hk;rw[Vd]at hk;by_cases e:i=k
  ·subst e;have:=hk.2;simp only[Vg h,Option.map_some,VO,Vd]at this;exact this.1
  exact zt hk.1 i h (by omega)
theorem qE{a:Al}(h:Gf a=true):(fJ a).size<=25:=by
 unfold Gf at h;rw[Vd]at h;have h1:=cu h.1;have h2:=zV h.2;have e1:(⟨#[35]⟩:ByteArray).size=1:=rfl;unfold fJ;split
 ·omega
 simp only[Vv];omega
theorem kH{xs:Q0a}(h:eG xs=true):(ve xs).size<=190:=by
 unfold eG at h;simp only [Vd,Vk]at h;have hj:=o6 ⟨#[44]⟩ 25 _ (xs.map fJ) rfl (fun x hx=>by
  obtain⟨a,ha,rfl⟩:=Vo.1 hx;obtain⟨i,hi,rfl⟩:=VV ha;exact qE (zt h.2 i hi hi))
 have e1:(⟨#[116,104,105,115,40]⟩:ByteArray).size=5:=rfl;have e2:(⟨#[41]⟩:ByteArray).size=1:=rfl;have e3:(⟨#[44]⟩:ByteArray).size=1:=rfl;have e4:(xs.map fJ).length<=6:=by simp;exact h.1.2
 unfold ve;simp only[Vv];rw[e3]at hj;have:(xs.map fJ).length*(25+1)<=6*26:=Nat.mul_le_mul_right _ e4;omega
def SQ(es:Q09):Prop:=es.length<=15/\(∀(i:Nat) (h:i<es.length),ay es[i]=true)/\∀i,i<es.length->ll es i=true
theorem Ot{es:Q09}(h:aN es=true):SQ es:=by
 unfold aN at h;simp only[Vd,Vk]at h;refine⟨h.1.1.1.1.2,fun i hi=>?_,fun i hi=>?_⟩
 ·have:=h.1.1.1.2;rw[Vm]at this;exact this _ (U8 hi)
 have:=h.1.1.2;unfold jk at this;rw[Vm]at this;exact this i (by simpa using hi)
theorem qF{e:Ex}(h:ay e=true):e.kids.length<=5/\(e.kind=1\/e.kind=2\/e.kind=3\/e.kind=4\/e.kind=5\/e.kind=6):=by
 unfold ay at h;split at h
 ·rename_i k;simp at h;exact⟨by simp[h.2],.inl k⟩
 split at h
 ·rename_i k;simp at h;exact⟨by simp[h.2],.inr (.inl k)⟩
 split at h
 ·rename_i k;simp at h;exact⟨by simp[h.2],.inr (.inr (.inl k))⟩
 split at h
 ·rename_i k;simp at h;exact⟨by omega,by omega⟩
 split at h
 ·rename_i k;simp at h;exact⟨by omega,by omega⟩
 cases h
theorem zW{es:Q09}(hes:SQ es){n:Nat}(hn:n<es.length)(b:Nat)(hb:200<=b)(f:Int->ByteArray)(hf:∀k∈es[n].kids,(f k).size<=b):(mr f es[n]).size<=b*5+20:=by
 have Wq:=hes.2.1 n hn;obtain⟨hk,hkind⟩:=qF Wq;unfold mr;unfold ay at Wq;split
 ·rename_i k;rw[if_pos k]at Wq;simp only[Vd]at Wq;have:=kH Wq.1.1.1;omega
 rename_i k1;rw[if_neg k1]at Wq;split
 ·rename_i k2;rw[if_pos k2]at Wq;simp only[Vd]at Wq;have:=cu Wq.1.1.1;omega
 rename_i k2;rw[if_neg k2]at Wq;split
 ·rename_i k3;rw[if_pos k3]at Wq;simp only[Vd]at Wq;have h1:=cu Wq.1.1.1;have h2:=cu Wq.1.1.2;have e1:(⟨#[45,62]⟩:ByteArray).size=2:=rfl;simp only[Vv];omega
 have hj:=o6 (gZ es[n].kind) b _ (es[n].kids.map f) rfl (fun x hx=>by obtain⟨k,hk,rfl⟩:=Vo.1 hx;exact hf k hk);rw[mq]at hj;have:(es[n].kids.map f).length*(b+3)<=5*(b+3):=Nat.mul_le_mul_right _ (by simp;exact hk);omega
theorem Gh(e:Ex)(i:Bool)(t:bW):(inT e i t).size<=t.size+2:=by
 have e1:(⟨#[40]⟩:ByteArray).size=1:=rfl;have e2:(⟨#[41]⟩:ByteArray).size=1:=rfl;unfold inT;split
 ·simp only[Vv];omega
 omega
theorem EM{es:Q09}{n:Nat}(h:n<es.length):EK es n=es[n]:=by simp[EK,h]
theorem vg{es:Q09}(hes:SQ es){n:Nat}(hn:n<es.length):∀k∈es[n].kids,0<=k/\k.toNat<n:=by
 intro k hk;have:=hes.2.2 n hn;unfold ll at this;rw[Vm]at this;have h1:=this k (by simp[di,hn,hk]);simp at h1;omega
theorem I7{es:Q09}(hes:SQ es)(n:Nat):n<es.length->∀i,(jc es n i).size<=zU n:=by
 induction n using Nat.strongRecOn with
 | ind n ih =>
  intro hn i;unfold jc;rw[EM hn];have h1:=Gh es[n] i (mr (jI es n) es[n]);cases n with
  | zero =>
   have h2:=zW hes hn 200 (Va _) (jI es 0) (fun k hk=>by have:=vg hes hn k hk;omega);have hno:es[0].kids=[]:=by
    cases hk:es[0].kids with
    | nil=>rfl
    | cons k ks=>have:=vg hes hn k (by rw[hk];simp);omega
   have Wq:=hes.2.1 0 hn;have h3:(mr (jI es 0) es[0]).size<=195:=by
    unfold mr;unfold ay at Wq;split
    ·rename_i k;rw[if_pos k]at Wq;simp only[Vd]at Wq;have:=kH Wq.1.1.1;omega
    rename_i k1;rw[if_neg k1]at Wq;split
    ·rename_i k2;rw[if_pos k2]at Wq;simp only[Vd]at Wq;have:=cu Wq.1.1.1;omega
    rename_i k2;rw[if_neg k2]at Wq;split
    ·rename_i k3;rw[if_pos k3]at Wq;simp only[Vd]at Wq;have h1:=cu Wq.1.1.1;have h2:=cu Wq.1.1.2;have e1:(⟨#[45,62]⟩:ByteArray).size=2:=rfl;simp only[Vv];omega
    rw[hno];have:(fE (gZ es[0].kind) (List.map (jI es 0) [])).size=0:=rfl;omega
   simp only[zU];omega
  | succ m =>
   have h2:=zW hes hn (zU m) (KY m) (jI es (m+1)) (fun k hk=>by
    have hlt:=vg hes hn k hk;unfold jI;rw[if_pos hlt.2,EL];exact Vj (ih k.toNat hlt.2 (by omega) true) (Df (by omega)))
   have:=KY m;simp only[zU];omega
structure RS where
 p:Nat
 bad:Bool
 out:List Ex
def gm:ByteArray:=⟨#[116,104,105,115,40]⟩
def vk:ByteArray:=⟨#[35]⟩
def fC:ByteArray:=⟨#[41]⟩
def mD:ByteArray:=⟨#[44]⟩
def jJ:ByteArray:=⟨#[40]⟩
def o7:ByteArray:=⟨#[45,62]⟩
def bf(k:Int):ByteArray:=if k=4 then ⟨#[32,124,32]⟩ else if k=5 then ⟨#[32,38,32]⟩ else ⟨#[32,45,32]⟩
def dY(s w:ByteArray)(p:Nat):Bool:=decide (p+w.size<=s.size)&&(s.extract p (p+w.size)).toList==w.toList
def lW(s w:ByteArray)(st:RS):Bool:=!st.bad&&dY s w st.p
def kM(w:ByteArray)(st:RS):RS:=⟨st.p+w.size,st.bad,st.out⟩
def ax(s:ByteArray)(p:Nat):Nat:=((s.data.toList.drop p).takeWhile fo).length
def aA(s:ByteArray)(p:Nat):ByteArray:=s.extract p (p+ax s p)
def sP(x:Ex)(st:RS):RS:=⟨st.p,st.bad || decide (15<st.out.length+1),st.out++[x]⟩
def vv(st:RS):RS:=⟨st.p,true,st.out⟩
def yU(s:ByteArray)(st:RS):ByteArray:=if lW s vk st then aA s (st.p+1) else ⟨#[]⟩
def aZ(s:ByteArray)(st:RS):RS:=if lW s vk st then ⟨st.p+1+ax s (st.p+1),st.bad,st.out⟩ else st
def bI(s:ByteArray)(st:RS):RS:=⟨st.p+ax s st.p,st.bad,st.out⟩
def dF(s:ByteArray):Nat->List Al->RS->Option (List Al)×RS
 | 0,_,st=>(none,st)
 | n+1,xs,st =>
  if st.bad then (none,st)
  else if lW s fC (aZ s (bI s st)) then (some (xs++[⟨aA s st.p,yU s (bI s st)⟩]),kM fC (aZ s (bI s st)))
  else if lW s mD (aZ s (bI s st)) then dF s n (xs++[⟨aA s st.p,yU s (bI s st)⟩]) (kM mD (aZ s (bI s st)))
  else dF s n (xs++[⟨aA s st.p,yU s (bI s st)⟩]) (vv (aZ s (bI s st)))
def fw(s:ByteArray)(st:RS):Ex :=
 if lW s o7 (bI s st) then ⟨3,[],aA s st.p,aA s (st.p+ax s st.p+2),[]⟩ else ⟨2,[],⟨#[]⟩,aA s st.p,[]⟩
def aL(s:ByteArray)(st:RS):RS :=
 if lW s o7 (bI s st) then ⟨st.p+ax s st.p+2+ax s (st.p+ax s st.p+2),st.bad,st.out⟩ else bI s st
def judged(x:Ex)(st:RS):RS:=if ay x then st else vv st
def dG(s:ByteArray)(p:Nat):Int:=if dY s (bf 4) p then 4 else if dY s (bf 5) p then 5 else if dY s (bf 6) p then 6 else 0
def iE(s:ByteArray)(it:RS->Int×RS)(k:Int):Nat->List Int->RS->List Int×RS
 | 0,zs,st=>(zs,st)
 | n+1,zs,st=>if lW s (bf k) st then iE s it k n (zs++[(it (kM (bf k) st)).1]) (it (kM (bf k) st)).2 else (zs,st)
def zX(s:ByteArray):Nat->Bool->RS->Int×RS
 | 0,_,st=>(0,st)
 | n+1,false,st =>
  if lW s gm st then
   match dF s (s.size+1) [] (kM gm st) with
   | (some xs,st')=>((st'.out.length:Int),sP ⟨1,xs,⟨#[]⟩,⟨#[]⟩,[]⟩ st')
   | (none,st')=>(0,st')
  else if lW s jJ st then
   let x:=zX s n true (kM jJ st)
   if lW s fC x.2 then (x.1,kM fC x.2) else (x.1,vv x.2)
  else ((st.out.length:Int),sP (fw s st) (judged (fw s st) (aL s st)))
 | n+1,true,st =>
  let x:=zX s n false st
  if dG s x.2.p=0\/x.2.bad=true then x
  else
   let y:=iE s (zX s n false) (dG s x.2.p) (s.size+1) [x.1] x.2
   ((y.2.out.length:Int),sP ⟨dG s x.2.p,[],⟨#[]⟩,⟨#[]⟩,y.1⟩ y.2)
theorem kN(s:bW)(p:Nat)(hp:p<=s.size):p+ax s p<=s.size:=by
 unfold ax;have h1:((s.data.toList.drop p).takeWhile fo).length<=(s.data.toList.drop p).length:=(List.takeWhile_prefix (p:=fo) (l:=s.data.toList.drop p)).length_le;have h2:(s.data.toList.drop p).length=s.size-p:=by rw[Wd];simp
 omega
theorem zY(s:bW)(p:Nat)(hp:p<=s.size):(aA s p).size=ax s p:=by
 unfold aA;rw[ByteArray.size_extract];have:=kN s p hp;omega
theorem Gi{s w:ByteArray}{p:Nat}(h:dY s w p=true):p+w.size<=s.size:=by
 unfold dY at h;simp only[Vd,Vk]at h;exact h.1
theorem lm{s w:ByteArray}{st:RS}(h:lW s w st=true):st.p+w.size<=s.size:=by
 unfold lW at h;simp only[Vd]at h;exact Gi h.2
open ChangeAt ChangeShapes RowKit WideShapes
set_option maxRecDepth 100000
theorem aj{p:Prop}(h:p):Hid p:=h
structure RdC(w:World)(R:Nat)(s:ByteArray)(p:Nat)(bad:Bool)(v:Value):Prop where
 lt:R<w.heap.size
 c0:w.cell? ⟨R,0,none⟩=some (.string s)
 c1:w.cell? ⟨R,1,none⟩=some (.int .i64 (p:Int))
 c2:w.cell? ⟨R,2,none⟩=some (.bool bad)
 c3:w.cell? ⟨R,3,none⟩=some v
 fr:jZ w R
theorem RdC.grown{w w':af}{R:Nat}{s:ByteArray}{p:Nat}{bad:Bool}{v:Value}{row:Option Nat}(h:RdC w R s p bad v)(hg:w.grownBy w' row)(hR:some R≠row):RdC w' R s p bad v :=
 ⟨U9 h.lt hg.size,hg.cell h.c0 hR,hg.cell h.c1 hR,hg.cell h.c2 hR,hg.cell h.c3 hR,fun j=>(World.frozen?_of_block (w:=w) (a:=⟨R,j,none⟩) (hg.block R h.lt hR)).trans (h.fr j)⟩
theorem RdC.drewN{w:af}{R:Nat}{s:ByteArray}{p:Nat}{bad:Bool}{v:Value}(h:RdC w R s p bad v)(n:Nat):RdC (w.drewN n) R s p bad v:=⟨h.lt,h.c0,h.c1,h.c2,h.c3,h.fr⟩
theorem RdC.on{w:af}{R:Nat}{s:ByteArray}{p:Nat}{bad:Bool}{v:Value}(h:RdC w R s p bad v)(q:Nat):RdC (w.setCell ⟨R,1,none⟩ (.int .i64 (q:Int))) R s q bad v :=
 ⟨by simpa using h.lt,by rw[mO (by omega)];exact h.c0,mS h.c1,by rw[mO (by omega)];exact h.c2,by rw[mO (by omega)];exact h.c3,fun j=>by simpa using h.fr j⟩
theorem Gj(w:af)(R o:Nat)(v:Value)(n:Nat):w.grownBy ((w.drewN n).setCell ⟨R,o,none⟩ v) (some R) :=
 ⟨rfl,rfl,rfl,by simp,fun k _ hk=>Below.heap_setCell _ _ _ k (fun e=>hk (by rw[e]))⟩
theorem I8{w w':af}{R o:Nat}{v:Value}(h:w.grownBy w' (some R)):w.grownBy (w'.setCell ⟨R,o,none⟩ v) (some R) :=
 ⟨h.os,h.tape,h.output,by simpa using h.size,fun k hk hne=>(Below.heap_setCell w' _ _ k (fun e=>hne (by rw[e]))).trans (h.block k hk hne)⟩
def nz(s t:ByteArray)(p:Nat)(bad:Bool):Bool:=!bad&&dY s t p
def Ri(s t:ByteArray)(p:Nat)(bad:Bool):Nat:=if nz s t p bad then p+t.size else p
theorem vw{s t:ByteArray}{p:Nat}{bad:Bool}(h:nz s t p bad=true):Ri s t p bad=p+t.size:=by simp[Ri,h]
theorem zZ{s t:ByteArray}{p:Nat}{bad:Bool}(h:nz s t p bad=false):Ri s t p bad=p:=by simp[Ri,h]
theorem mE(R:Nat)(s t:bW)(p:Nat)(bad:Bool)(v:Value)(w:af)(h:RdC w R s p bad v)(hs:s.size<=1000)(hp:p<=s.size)(ht:t.size<=100):
  Calls prog 236 #[.pointer (some ⟨R,0,none⟩),.string t] w fun e w'=>e=.returned (.bool (nz s t p bad))/\RdC w' R s (Ri s t p bad) bad v/\w.grownBy w' (some R):=by
 have H:=aj h;have c0:=h.c0;have c1:=h.c1;have c2:=h.c2;have f1:=h.fr 1;have hlt:=h.lt;have h0:=h;clear h H;have hwr:IntKind.i64.wrap ((p:Int)+(t.size:Int))=(p:Int)+(t.size:Int):=by simp[IntKind.wrap,IntKind.bits,IntKind.signed];omega
 have no:∀{n:Nat} {e:Ending},nz s t p bad=false->e=.returned (.bool false)->e=.returned (.bool (nz s t p bad))/\RdC (w.drewN n) R s (Ri s t p bad) bad v/\w.grownBy (w.drewN n) (some R):=fun hb he=>⟨by rw[hb];exact he,by rw[zZ hb];exact h0.drewN _,⟨rfl,rfl,rfl,Va _,fun _ _ _=>rfl⟩⟩;have yes:∀{n:Nat} {e:Ending},nz s t p bad=true->e=.returned (.bool true)->e=.returned (.bool (nz s t p bad))/\RdC ((w.drewN n).setCell ⟨R,1,none⟩ (.int .i64 ((p:Int)+(t.size:Int)))) R s (Ri s t p bad) bad v/\w.grownBy ((w.drewN n).setCell ⟨R,1,none⟩ (.int .i64 ((p:Int)+(t.size:Int)))) (some R):=fun hb he=>⟨by rw[hb];exact he,by rw[vw hb];exact(h0.drewN _).on (p+t.size),Gj _ _ _ _ _⟩;have NO:Hid (∀{n:Nat} {e:Ending},_):=@no;have YES:Hid (∀{n:Nat} {e:Ending},_):=@yes;clear no yes h0;cases bad;case true=>
  have HB:Hid (nz s t p true=false):=rfl;clear hwr;go_enter func236,ntmps236;go_wp2_with fail;go_quiet (fail);go_wp2;go_ret;exact NO.out HB.out rfl
 by_cases hl:p+t.size<=s.size
 ·have hd:decide ((s.size:Int)<(p:Int)+(t.size:Int))=false:=by simp;omega
  have hp1:(p:Int)<=(p:Int)+(t.size:Int):=by omega
  have hp2:(p:Int)+(t.size:Int)<=(s.size:Int):=by omega
  have hnn:=bC p;have hla:dY s t p=((s.extract p (p+t.size)).toList==t.toList):=by simp[dY,hl]
  cases he:(s.extract p (p+t.size)).toList==t.toList;case true=>
   have HB:Hid (nz s t p false=true):=by show _=_;simp only[nz,hla,he];rfl
   have hq:(!(s.extract p (p+t.size)).toList==t.toList)=false:=by rw[he];rfl
   clear he hla;go_enter func236,ntmps236;go_wp2_with fail;go_quiet (fail);go_wp2;go_ret;exact YES.out HB.out rfl
  have HB:Hid (nz s t p false=false):=by show _=_;simp only[nz,hla,he];rfl
  have hq:(!(s.extract p (p+t.size)).toList==t.toList)=true:=by rw[he];rfl
  clear he hla;go_enter func236,ntmps236;go_wp2_with fail;go_quiet (fail);go_wp2;go_ret;exact NO.out HB.out rfl
 have hd:decide ((s.size:Int)<(p:Int)+(t.size:Int))=true:=by simp;omega
 have HB:Hid (nz s t p false=false):=by show _=_;simp[nz,dY,hl]
 clear hl;go_enter func236,ntmps236;go_wp2_with fail;go_quiet (fail);go_wp2;go_ret;exact NO.out HB.out rfl
def wat(R:Nat)(w:World):Nat:=match w.cell? ⟨R,1,none⟩ with
 | some (.int _ z)=>z.toNat
 | _=>0
theorem RdC.place{w:af}{R:Nat}{s:ByteArray}{p:Nat}{bad:Bool}{v:Value}(h:RdC w R s p bad v):wat R w=p:=by
 simp[Go.Proofs.YtajkkeikihhejaaGreat.wat,h.c1]
theorem EN(l:List UInt8)(n:Nat)(h1:∀i (h:i<l.length),i<n->fo l[i]=true)(h2:∀h:n<l.length,fo l[n]=false)(hn:n<=l.length):(l.takeWhile fo).length=n:=by
 induction l generalizing n with
 | nil=>simp at hn;simp[hn]
 | cons x xs ih =>
  cases n with
  | zero =>
   have:=h2 (by simp);simp at this;simp[List.takeWhile,this]
  | succ n =>
   have hx:=h1 0 (by simp) (by omega);simp at hx;have:=ih n (fun i hi hin=>by have:=h1 (i+1) (by simpa using hi) (by omega);simpa using this) (fun h=>by have:=h2 (by simpa using h);simpa using this) (by simpa using hn);simp[List.takeWhile,hx,this]
theorem Ou(s:bW)(p q:Nat)(hpq:p<=q)(hq:q<=s.size)(h1:∀i (h:i<s.size),p<=i->i<q->fo s[i]=true)(h2:∀h:q<s.size,fo s[q]=false):ax s p=q-p:=by
 unfold ax;have hl:s.data.toList.length=s.size:=by simp
 refine EN _ _ (fun i hi hin=>?_) (fun h=>?_) (by rw[Wd,hl];omega)
 ·rw[Wd,hl]at hi;have:=h1 (p+i) (by omega) (by omega) (by omega);simp only[List.getElem_drop,Array.getElem_toList];exact this
 rw[Wd,hl]at h;have:=h2 (by omega);simp only[List.getElem_drop,Array.getElem_toList];have e:p+(q-p)=q:=by omega
 simp only[e];exact this
theorem vz(R:Nat)(s:bW)(p:Nat)(bad:Bool)(v:Value)(w:af)(h:RdC w R s p bad v)(hs:s.size<=1000)(hp:p<=s.size):
  Calls prog 250 #[.pointer (some ⟨R,0,none⟩)] w fun e w'=>e=.returned (.string (aA s p))/\RdC w' R s (p+ax s p) bad v/\w.grownBy w' (some R):=by
 have H:=aj h;have c1:=h.c1;clear h;go_enter func250,ntmps250;go_wp2_with fail;clear c1;go_loopw[8] (fun _ wr=>∃q:Nat,p<=q/\q<=s.size/\Hid (∀i (h:i<s.size),p<=i->i<q->fo s[i]=true)/\Hid (RdC wr R s q bad v)/\Hid (w.grownBy wr (some R))) (fun _ wr=>s.size-wat R wr);case atStart=>exact⟨p,Va _,hp,fun i h h1 h2=>by omega,H,⟨rfl,rfl,rfl,Va _,fun _ _ _=>rfl⟩⟩
 obtain⟨q,hq1,hq2,HL,HR,HG⟩:=hrel;have c0:=HR.out.c0;have c1:=HR.out.c1;have f1:=HR.out.fr 1;have hlt:=HR.out.lt;have hq0:=bC q;have stop:∀n m,(∀h:q<s.size,fo s[q]=false)->Ending.returned (.string (s.extract p q))=.returned (.string (aA s p))/\RdC ((wr.drewN n).drewN m) R s (p+ax s p) bad v/\w.grownBy ((wr.drewN n).drewN m) (some R):=fun n m hn=>by
  have e:=Ou s p q hq1 hq2 HL.out hn;have e2:p+ax s p=q:=by omega
  exact⟨by unfold aA;rw[e2],by rw[e2];exact(HR.out.drewN n).drewN m,⟨HG.out.os,HG.out.tape,HG.out.output,HG.out.size,HG.out.block⟩⟩
 have STOP:=aj stop;clear stop;have hx1:(p:Int)<=(q:Int):=by omega
 have hx2:(q:Int)<=(s.size:Int):=by omega
 have hx3:=bC p;by_cases hlt2:q<s.size
 ·have hq3:(q:Int)<(s.size:Int):=by omega
  have hd:decide ((q:Int)<(s.size:Int))=true:=by simpa using hq3
  by_cases hb1:(97:Int)<=(s[q].toNat:Int)
  ·have hd1:decide ((97:Int)<=(s[q].toNat:Int))=true:=by simpa using hb1
   by_cases hb2:(s[q].toNat:Int)<=122
   ·have hd2:decide ((s[q].toNat:Int)<=122)=true:=by simpa using hb2
    have HL2:Hid (∀i (h:i<s.size),p<=i->i<q+1->fo s[i]=true):=fun i h h1 h2=>by
     by_cases e:i=q
     ·subst e;simp[fo];omega
     exact HL.out i h h1 (by omega)
    have hwr2:IntKind.i64.wrap ((q:Int)+1)=(q:Int)+1:=by simp[IntKind.wrap,IntKind.bits,IntKind.signed];omega
    go_wp2_with fail;go_quiet (fail);have HR2:Hid (RdC ((wr.drewN nq).setCell ⟨R,1,none⟩ (.int .i64 ((q:Int)+1))) R s (q+1) bad v):=(HR.out.drewN nq).on (q+1);have HG2:Hid (w.grownBy ((wr.drewN nq).setCell ⟨R,1,none⟩ (.int .i64 ((q:Int)+1))) (some R)):=I8 (w':=wr.drewN nq) ⟨HG.out.os,HG.out.tape,HG.out.output,HG.out.size,HG.out.block⟩;have hm1:=HR.out.place;have hm2:=HR2.out.place;have HM:Hid (s.size-wat R ((wr.drewN nq).setCell ⟨R,1,none⟩ (.int .i64 ((q:Int)+1)))<s.size-wat R wr):=by show _<_;rw[hm1,hm2];omega
    clear hm1 hm2;go_wp2;go_roundw;case rel=>exact⟨q+1,by omega,by omega,HL2,HR2,HG2⟩
    exact HM.out
   have hd2:decide ((s[q].toNat:Int)<=122)=false:=by simpa using hb2
   have HN:Hid (∀h:q<s.size,fo s[q]=false):=fun h=>by simp[fo];omega
   go_wp2_with fail;go_quiet (fail);go_wp2_with fail;go_quiet (fail);go_wp2;go_ret;exact STOP.out _ _ HN.out
  have hd1:decide ((97:Int)<=(s[q].toNat:Int))=false:=by simpa using hb1
  have HN:Hid (∀h:q<s.size,fo s[q]=false):=fun h=>by simp[fo];omega
  go_wp2_with fail;go_quiet (fail);go_wp2_with fail;go_quiet (fail);go_wp2;go_ret;exact STOP.out _ _ HN.out
 have hd:decide ((q:Int)<(s.size:Int))=false:=by simp;omega
 have HN:Hid (∀h:q<s.size,fo s[q]=false):=fun h=>absurd h hlt2;go_wp2_with fail;go_quiet (fail);go_wp2_with fail;go_quiet (fail);go_wp2;go_ret;exact STOP.out _ _ HN.out
open Maps
def Rj(v:Value):Option (DataW Value×List MemPlace):=some (.held v,[])
section
variable  {K:Type}(enc:K->Value)(P:Program)(k:TypeId)
def Tz(D:DataW Value)(kl:Lit):Option Value->Prop
 | none=>Maps.has D kl=false/\∀z,D.atKey kl z=z
 | some v=>Maps.has D kl=true/\∀z,D.atKey kl z=.held v
def aM(w:World)(b n:Nat)(M:K->Option Value):Prop :=
 ∃D:DataW Value,w.ownsMap P k Rj b n D/\∀x kl,keyOf P k (enc x)=some kl->Tz D kl (M x)
def lX[DecidableEq K](M:K->Option Value)(x:K)(v:Option Value):K->Option Value:=fun y=>if y=x then v else M y
end
section
variable  {K:Type}{enc:K->Value}{P:Program}{k:TypeId}{w:World}{b n:Nat}{M:K->Option Value}
theorem ed[DecidableEq K](M:K->Option Value)(x:K)(v:Option Value):lX M x v x=v:=by simp[lX]
theorem dm[DecidableEq K]{M:K->Option Value}{x y:K}{v:Option Value}(h:y≠x):lX M x v y=M y:=by simp[lX,h]
theorem kr(enc:K->Value)(P:Program)(k:TypeId)(w:af):aM enc P k (w.alloc (.map #[] 0)) w.heap.size 0 (fun _=>none) :=
 ⟨.map [],World.ownsMap_made w P k Rj,fun _ kl _=>⟨rfl,fun z=>by simp[DataW.atKey]⟩⟩
theorem aM.lt(h:aM enc P k w b n M):b<w.heap.size:=by obtain⟨D,h1,-⟩:=h;exact h1.lt
theorem aM.mono(h:aM enc P k w b n M){n':Nat}(hn:n<=n'):aM enc P k w b n' M:=by obtain⟨D,h1,h2⟩:=h;exact⟨D,h1.mono hn,h2⟩
theorem aM.kept{w':af}{row:Option Nat}(h:aM enc P k w b n M)(hg:w.grownBy w' row)(hne:some b≠row):aM enc P k w' b n M:=by
 obtain⟨D,h1,h2⟩:=h;exact⟨D,h1.kept hg hne,h2⟩
theorem aM.below{w':af}(h:aM enc P k w b n M)(hB:ae w w'):aM enc P k w' b n M :=
 h.kept (row:=none) ⟨hB.os,hB.tape,hB.output,hB.size,fun k hk _=>hB.block k hk⟩ (by simp)
theorem aM.setCell(h:aM enc P k w b n M){a:Addr}(ha:b≠a.block)(u:Value):aM enc P k (w.setCell a u) b n M:=by
 obtain⟨D,h1,h2⟩:=h;exact⟨D,h1.setCell ha u,h2⟩
theorem aM.look{t e:TypeId}(h:aM enc P k w b n M)(L:Keyed P k)(ht:P.underlying t=some (.map k e)){z:Value}(hz:(zeroValue e).run P w=.ok z w){x:K}{kl:Lit}(hkey:keyOf P k (enc x)=some kl):
  (Instr.lookup t (.map (some b)) (enc x) false).run P w=.ok ((M x).getD z) w:=by
 obtain⟨D,h1,h2⟩:=h;obtain⟨v,ps,hrun,hv⟩:=h1.lookup L ht hz (zd:=.held z) (zp:=[]) rfl hkey;have h3:=h2 x kl hkey;rw[hrun];have:v=(M x).getD z:=by
  simp only[Rj,Option.some.injEq,Prod.mk.injEq]at hv;cases e:M x with
  | none=>rw[e]at h3;rw[h3.2]at hv;injection hv.1 with h4
  | some u=>rw[e]at h3;rw[h3.2]at hv;injection hv.1 with h4
 rw[this]
theorem aM.look_ok{t e:TypeId}(h:aM enc P k w b n M)(L:Keyed P k)(ht:P.underlying t=some (.map k e)){z:Value}(hz:(zeroValue e).run P w=.ok z w){x:K}{kl:Lit}(hkey:keyOf P k (enc x)=some kl):
  (Instr.lookup t (.map (some b)) (enc x) true).run P w=.ok (.tuple #[(M x).getD z,.bool (M x).isSome]) w:=by
 obtain⟨D,h1,h2⟩:=h;obtain⟨v,ps,hrun,hv⟩:=h1.look_ok L ht hz (zd:=.held z) (zp:=[]) rfl hkey;have h3:=h2 x kl hkey;rw[hrun];simp only[Rj,Option.some.injEq,Prod.mk.injEq]at hv;cases e:M x with
 | none=>rw[e]at h3;rw[h3.2]at hv;injection hv.1 with h4;rw[h4,h3.1];rfl
 | some u=>rw[e]at h3;rw[h3.2]at hv;injection hv.1 with h4;rw[h4,h3.1];rfl
theorem aM.store[DecidableEq K]{t e:TypeId}(h:aM enc P k w b n M)(L:Keyed P k)(hinj:∀x y,enc x=enc y->x=y)(ht:P.underlying t=some (.map k e))(hn:n<maxLen){x:K}{kl:Lit}(hkey:keyOf P k (enc x)=some kl)(v:Value):
  ∃w',(Instr.mapUpdate t (.map (some b)) (enc x) v).run P w=.ok () w'/\aM enc P k w' b (n+1) (lX M x (some v))/\w.grownBy w' (some b):=by
 obtain⟨D,h1,h2⟩:=h;obtain⟨w',hrun,h3,h4⟩:=h1.update L ht hn hkey (val:=v) (d:=.held v) (ps:=[]) rfl;refine⟨w',hrun,⟨D.put kl (.held v),h3,fun y ky hy=>?_⟩,h4⟩;by_cases e:y=x
 ·subst e;obtain rfl:ky=kl:=by rw[hkey]at hy;injection hy with hy;exact hy.symm
  rw[ed];exact⟨has_put_same h1.isMap (L.key hkey) _,fun z=>atKey_put_same h1.isMap (L.key hkey) _ z⟩
 have hne:ky≠kl:=fun e2=>e (hinj _ _ (L.inj (by rw[e2]at hy;exact hy) hkey));rw[dm e];have h5:=h2 y ky hy;cases e3:M y with
 | none=>rw[e3]at h5;exact⟨by rw[has_put_other hne];exact h5.1,fun z=>by rw[atKey_put_other hne];exact h5.2 z⟩
 | some u=>rw[e3]at h5;exact⟨by rw[has_put_other hne];exact h5.1,fun z=>by rw[atKey_put_other hne];exact h5.2 z⟩
end
section
variable  {K:Type}{enc:K->Value}{P:Program}(w:World){ops:Array Oper}{rest:List Oper}{o:Oper}{a:Act}{Q:Exit->Act->World->Prop}
theorem jK(hg:o.guard=none)(m x:Operand)(t:TypeId)(hop:o.op=Op.lookup t m x false)(k e:TypeId)(L:Keyed P k)(ht:P.underlying t=some (.map k e)){z:Value}(hz:(zeroValue e).run P w=.ok z w)(b n:Nat)(M:K->Option Value)
  (hm:a.eval m=.map (some b)) (hV:aM enc P k w b n M) (y:K) (kl:Lit) (hx:a.eval x=enc y) (hkey:keyOf P k (enc y)=some kl)
  (hK:wpList P ops Q rest (a.put o.dst ((M y).getD z)) w):wpList P ops Q (o::rest) a w:=by
 refine wpList_plain hg fun K' hK'=>?_;have hrun:=hV.look L ht hz hkey;unfold Oper.wp;simp[execOp,hop,hm,hx,hrun,Result.andThen];exact hK' _ _ hK
theorem dQ(hg:o.guard=none)(m x:Operand)(t:TypeId)(hop:o.op=Op.lookup t m x true)(k e:TypeId)(L:Keyed P k)(ht:P.underlying t=some (.map k e)){z:Value}(hz:(zeroValue e).run P w=.ok z w)(b n:Nat)(M:K->Option Value)
  (hm:a.eval m=.map (some b)) (hV:aM enc P k w b n M) (y:K) (kl:Lit) (hx:a.eval x=enc y) (hkey:keyOf P k (enc y)=some kl)
  (hK:wpList P ops Q rest (a.put o.dst (.tuple #[(M y).getD z,.bool (M y).isSome])) w):wpList P ops Q (o::rest) a w:=by
 refine wpList_plain hg fun K' hK'=>?_;have hrun:=hV.look_ok L ht hz hkey;unfold Oper.wp;simp[execOp,hop,hm,hx,hrun,Result.andThen];exact hK' _ _ hK
theorem jd[DecidableEq K](hg:o.guard=none)(m x v:Operand)(t:TypeId)(hop:o.op=Op.mapUpdate t m x v)(k e:TypeId)(L:Keyed P k)(hinj:∀x y,enc x=enc y->x=y)(ht:P.underlying t=some (.map k e))(b n:Nat)(M:K->Option Value)
  (hm:a.eval m=.map (some b)) (hV:aM enc P k w b n M) (hn:n<maxLen) (y:K) (kl:Lit) (hx:a.eval x=enc y) (hkey:keyOf P k (enc y)=some kl) (u:Value) (hv:a.eval v=u)
  (hK:∀w',aM enc P k w' b (n+1) (lX M y (some u))->w.grownBy w' (some b)->wpList P ops Q rest (a.put o.dst undef) w'):wpList P ops Q (o::rest) a w:=by
 refine wpList_plain hg fun K' hK'=>?_;obtain⟨w',hrun,r1,r2⟩:=hV.store L hinj ht hn hkey u;unfold Oper.wp;simp[execOp,hop,hm,hx,hv,hrun,Result.andThen];exact hK' _ _ (hK w' r1 r2)
end
def dX(k:Q01):Value:=.agg #[.string k.1,.string k.2]
theorem vC(x y:Q01)(h:dX x=dX y):x=y:=by
 unfold dX at h;injection h with h;have h1:=congrArg Array.toList h;simp at h1;exact Prod.ext h1.1 h1.2
theorem z8:laidOutB prog=true:=by kernel_rfl
theorem Ov:(94:TypeId)<prog.types.size:=of_decide_eq_true (by kernel_rfl)
theorem Rk:(match prog.underlying 94 with|some (.array _ _)|some (.struct _)=>true|_=>false)=true:=by rw[underlying94]
set_option maxRecDepth 100000 in
theorem KZ:WideMaps.KeyLaw prog 94:=deep_law_laid z8 (m:=2) (by omega) Ov (by kernel_rfl) Rk
theorem iW:Keyed prog 94:=Keyed.of_law KZ
theorem Rm:prog.keyType 94=true:=by kernel_rfl
theorem Gl:prog.cellsOf 94=2:=by kernel_rfl
theorem strCells:prog.cellsOf 9=1:=by kernel_rfl
theorem LW:∃n,prog.types.size=n+1:=Nat.exists_eq_succ_of_ne_zero (Nat.ne_of_gt (Nat.lt_of_le_of_lt (Vf _) Ov))
theorem jL(k:Q01)(h1:k.1.size<=maxLen)(h2:k.2.size<=maxLen):∃kl,keyOf prog 94 (dX k)=some kl:=by
 obtain⟨n,hn⟩:=LW;refine⟨.string (keyBytes [.string k.1.data.toList,.string k.2.data.toList]),?_⟩;unfold keyOf;rw[underlying94];simp only[Rm,dX,Value.formed,underlying94,Gl,hn,Value.cells];simp[Program.keyLits,underlying94,underlying9,Gl,strCells,h1,h2]
end Go.Proofs.YtajkkeikihhejaaGreat
