/- What a right expression is, in plain words, in the document's way and in the program's way, and that both say the same. -/
import Derived.Test.YtojjoblnpldniaaGreatSq
import Derived.Test.YtojjoblnpldniaaGreatJ1
import Derived.Lib.Join
import Derived.Deep.AppendLies
import Derived.Lib.IndexMore
import Derived.Lib.IndexBytes
import Derived.Lib.Strings
import Derived.Deep.DrawnRows
import Derived.Test.YtojjoblnpldniaaGreatShelf
import Derived.WideKeyEntry
import Derived.WalkArith
open Go.Proofs.Tryz
set_option maxHeartbeats 80000000
set_option linter.defProp false
namespace Go.Proofs.YtojjoblnpldniaaGreat
open Pl
def kY(x y:Al):Bool:=x.t.toList==y.t.toList&&x.s.toList==y.s.toList
def FJ(a:Al):Bool:=aS a.t&&vT a.s
def dG(xs:Q0a)(k:Nat)(a:Al):Bool:=(xs.take k).any fun x=>kY x a
def uJ(xs:Q0a)(k:Nat)(a:Al)(h:k<xs.length):dG xs (k+1) a=(dG xs k a || kY xs[k] a):=by
 unfold dG;rw[WN h,List.any_append];simp
def uK(xs:Q0a)(a:Al):dG xs 0 a=false:=by simp[dG]
def FK(xs:Q0a):Nat->Bool
 | 0=>true
 | k+1=>FK xs k&&(xs[k]?.map fun a=>FJ a && !dG xs k a).getD true
def AJ(xs:Q0a)(k:Nat)(h:k<xs.length):FK xs (k+1)=(FK xs k&&(FJ xs[k] && !dG xs k xs[k])):=by
 simp[FK,h]
def pY(xs:Q0a)(k:Nat)(h:k<xs.length)(hb:(FJ xs[k] && !dG xs k xs[k])=false):∀n,k<n->FK xs n=false
 | 0,hn=>cq
 | n+1,hn=>by
  by_cases e:n=k
  ·subst e;rw[AJ _ _ h,hb];simp
  simp[FK,pY xs k h hb n cq]
def dF(xs:Q0a):Bool:=decide (1<=xs.length)&&decide (xs.length<=6)&&FK xs xs.length
def ax(e:Ex):Bool :=
 if e.kind=1 then dF e.allow&&e.over.toList.isEmpty&&e.name.toList.isEmpty&&decide (e.kids.length=0)
 else if e.kind=2 then aS e.name&&decide (e.allow.length=0)&&e.over.toList.isEmpty&&decide (e.kids.length=0)
 else if e.kind=3 then aS e.over&&aS e.name&&decide (e.allow.length=0)&&decide (e.kids.length=0)
 else if e.kind=4\/e.kind=5 then decide (2<=e.kids.length)&&decide (e.kids.length<=5)&&decide (e.allow.length=0)&&e.over.toList.isEmpty&&e.name.toList.isEmpty
 else if e.kind=6 then decide (e.kids.length=2)&&decide (e.allow.length=0)&&e.over.toList.isEmpty&&e.name.toList.isEmpty
 else false
def bG(f:Int->Int):List Int->Int->Int
 | [],at'=>at'+1
 | k::ks,at'=>if at'<0\/k≠at' then -1 else if f at'<0 then -1 else bG f ks (f at'-1)
def dD(es:Q09)(n:Nat):List Int:=(es[n]?.map Ex.kids).getD []
def av(es:Q09)(n:Nat):Int:=bG (fun x=>if _h:0<=x/\x.toNat<n then av es x.toNat else -1) (dD es n).reverse ((n:Int)-1)
def cO(es:Q09)(n:Nat)(x:Int):Int:=if 0<=x/\x.toNat<n then av es x.toNat else -1
def jc(es:Q09)(n:Nat):av es n=bG (cO es n) (dD es n).reverse ((n:Int)-1):=by
 rw[av];rfl
def DV{f:Int->Int}(hf:∀x,0<=x->f x<=x):∀(ks:List Int) (a:Int),-1<=a->bG f ks a<=a+1
 | [],a,_=>by simp[bG]
 | k::ks,a,ha=>by
  unfold bG;split
  ·omega
  rename_i h;split
  ·omega
  rename_i h2;have h0:0<=a:=cq;have:=DV hf ks (f a-1) cq;have:=hf a h0;omega
def iq(es:Q09)(n:Nat):av es n<=n:=by
 induction n using Nat.strongRecOn with
 | ind n ih =>
  rw [jc];have:=DV (f:=cO es n) (fun x hx=>by
   unfold cO;split
   ·rename_i h;have:=ih x.toNat h.2;omega
   omega) (dD es n).reverse ((n:Int)-1) cq
  omega
def P9(es:Q09)(n:Nat)(x:Int)(hx:0<=x):cO es n x<=x:=by
 unfold cO;split
 ·have:=iq es x.toNat;omega
 omega
def uk{es:Q09}{n:Nat}(ih:∀m,m<n->0<=av es m->∀j:Nat,av es m<=j->j<=m->0<=av es j):
  ∀(ks:List Int) (a:Int),a<n->0<=bG (cO es n) ks a->∀j:Nat,bG (cO es n) ks a<=j->(j:Int)<=a->0<=av es j
 | [],a,ha,h,j,h1,h2=>by simp[bG]at h1;omega
 | k::ks,a,ha,h,j,h1,h2=>by
  unfold bG at h h1;split at h
  ·omega
  rename_i c;rw[if_neg c]at h1;split at h
  ·omega
  rename_i c2;rw[if_neg c2]at h1;have h0:0<=a:=cq;have hF:cO es n a=av es a.toNat:=by unfold cO;rw[if_pos ⟨h0,cq⟩]
  rw[hF]at h h1 c2;by_cases hj:av es a.toNat<=j
  ·exact ih a.toNat cq cq j hj cq
  exact uk ih ks (av es a.toNat-1) (by have:=iq es a.toNat;omega) h j h1 cq
def oF(es:Q09)(n:Nat):0<=av es n->∀j:Nat,av es n<=j->j<=n->0<=av es j:=by
 induction n using Nat.strongRecOn with
 | ind n ih =>
  intro h j h1 h2;by_cases e:j=n
  ·subst e;exact h
  rw[jc]at h h1;exact uk ih _ _ cq h j h1 cq
def lI(es:Q09)(i:Nat):Bool:=(dD es i).all fun k=>decide (0<=k)&&decide (k<=(i:Int)-1)
def zf{es:Q09}{n:Nat}:∀(ks:List Int) (a:Int),a<n->0<=bG (cO es n) ks a->∀k∈ks,0<=k/\k<=a
 | [],_,_,_,k,hk=>by cases hk
 | x::ks,a,ha,h,k,hk=>by
  unfold bG at h;split at h
  ·omega
  rename_i c;split at h
  ·omega
  rename_i c2;have h0:0<=a:=cq;rcases Xc.1 hk with rfl|hk
  ·omega
  have hl:=P9 es n a h0;have:=zf ks (cO es n a-1) cq h k hk;omega
def Nz(es:Q09)(i:Nat)(h:0<=av es i):lI es i=true:=by
 unfold lI;rw[WT];intro k hk;rw[jc]at h;have:=zf _ _ cq h k (by simpa using hk);simp;omega
def Qa(es:Q09)(n:Nat):Prop:=∀j,j<n->0<=av es j
def own(es:Q09):Nat:=(es.filter fun e=>decide (e.kind=1)).length
def ig(es:Q09)(k:Nat):Nat:=own<|es.take k
def AL(es:Q09)(k:Nat)(h:k<es.length):ig es (k+1)=ig es k+(if es[k].kind=1 then 1 else 0):=by
 unfold ig own;rw[WN h,List.filter_append,WP];by_cases e:es[k].kind=1<;>simp[e]
def vZ(es:Q09)(k:Nat):ig es k<=k:=by
 unfold ig own;exact WR (List.length_filter_le ..) (by simp;omega)
def j4(es:Q09)(k:Nat):Bool:=(es.take k).all ax
def wh(es:Q09)(k:Nat)(h:k<es.length):j4 es (k+1)=(j4 es k&&ax es[k]):=by
 unfold j4;rw[WN h,XU];simp
def DW(es:Q09)(k:Nat)(h:k<es.length)(hb:ax es[k]=false):es.all ax=false:=by
 rw[Bool.eq_false_iff];intro h2;rw[WT]at h2;have:=h2 es[k]<|WH h;rw[hb]at this;cases this
def jH(es:Q09)(k:Nat):Bool:=(List.range k).all<|lI es
def G9(es:Q09)(k:Nat):jH es (k+1)=(jH es k&&lI es k):=by simp[jH,List.range_succ]
def Qb(es:Q09)(k:Nat)(h:k<es.length)(hb:lI es k=false):jH es es.length=false:=by
 rw[Bool.eq_false_iff];intro h2;unfold jH at h2;rw[WT]at h2;have:=h2 k (by simpa using h);rw[hb]at this;cases this
def aK(es:Q09):Bool:=decide (1<=es.length)&&decide (es.length<=15)&&es.all ax&&jH es es.length&&decide (own es<=1)&&decide (av es (es.length-1)=0)
def jq(es:Q09):Bool:=(List.range es.length).all fun j=>decide (0<=av es j)
def kG(es:Q09):Bool:=decide (1<=es.length)&&decide (es.length<=15)&&es.all ax&&decide (own es<=1)&&(jq es&&decide (av es (es.length-1)=0))
def oU(es:Q09):aK es=kG es:=by
 by_cases h1:1<=es.length
 ·by_cases ht:av es (es.length-1)=0
  ·have ha:jq es=true:=by
    unfold jq;rw[WT];intro j hj;have hj':j<es.length:=by simpa using hj
    simpa using oF es (es.length-1) cq j cq cq
   have hk:jH es es.length=true:=by
    unfold jH;rw[WT];intro j hj;have hj':j<es.length:=by simpa using hj
    exact Nz es j<|oF es (es.length-1) cq j cq cq
   simp[aK,kG,ht,ha,hk,h1]
  simp[aK,kG,ht]
 simp[aK,kG,h1]
def jd{a b:ByteArray}(h:a.data.toList=b.data.toList):a=b:=by
 cases a;cases b;congr;exact Array.toList_inj.1 h
def dW(sep:ByteArray)(xs:List ByteArray):ByteArray:=⟨(Lib.join (xs.map (·.data.toList)) sep.data.toList).toArray⟩
theorem DX(sep:bN):dW sep []=⟨#[]⟩:=rfl
def inter_snoc{α:Type}(s:List α):∀(l:List<|List α) (x:List α),s.intercalate (l++[x])=if l=[] then x else s.intercalate l++(s++x)
 | [],x=>by simp[List.intercalate]
 | [a],x=>by simp[List.intercalate]
 | a::b::l,x=>by
  have ih:=inter_snoc s (b::l) x;simp only[XB,List.intercalate,List.intersperse,reduceCtorEq,if_false]at ih ⊢;simp only[List.flatten_cons]at ih ⊢;rw[ih];simp
def p8(sep:bN)(xs:List ByteArray)(x:bN):dW sep (xs++[x])=if xs=[] then x else dW sep xs++sep++x:=by
 apply jd;unfold dW Lib.join;rw[Xy,XN,List.map_nil,inter_snoc];by_cases h:xs=[]
 ·simp[h]
 simp[h,ByteArray.data_append]
def mJ(sep:bN)(b:Nat):∀(n:Nat) (xs:List ByteArray),xs.length=n->(∀x∈xs,x.size<=b)->(dW sep xs).size<=n*(b+sep.size)
 | 0,xs,hn,_=>by
  have:xs=[]:=List.eq_nil_of_length_eq_zero hn;subst this;simp[DX];rfl
 | n+1,xs,hn,hx=>by
  obtain⟨ys,y,rfl⟩:∃ys y,xs=ys++[y]:=by
   have hne:xs≠[]:=by intro e;simp[e]at hn
   exact⟨xs.dropLast,xs.getLast hne,(List.dropLast_concat_getLast hne).symm⟩
  have hl:ys.length=n:=by simp at hn;exact hn
  have ih:=mJ sep b n ys hl (fun x h=>hx x<|by simp[h]);have hy:=hx y ct;rw[p8,Nat.succ_mul];by_cases h:ys=[]
  ·rw[if_pos h];omega
  rw[if_neg h,WY,WY];omega
def bR(a:Al):ByteArray:=if a.s.toList.isEmpty then a.t else a.t++⟨#[35]⟩++a.s
def mM(xs:Q0a):ByteArray:=⟨#[116,104,105,115,40]⟩++dW ⟨#[44]⟩ (xs.map bR)++⟨#[41]⟩
def eG(k:Int):ByteArray:=if k=4 then ⟨#[32,124,32]⟩ else if k=5 then ⟨#[32,38,32]⟩ else ⟨#[32,45,32]⟩
def kK(k:Int):(eG k).size=3:=by
 unfold eG;split
 ·rfl
 split<;>rfl
def jr(f:Int->ByteArray)(e:Ex):ByteArray :=
 if e.kind=1 then mM e.allow else if e.kind=2 then e.name else if e.kind=3 then e.over++⟨#[45,62]⟩++e.name else dW (eG e.kind) (e.kids.map f)
def inT(e:Ex)(inside:Bool)(t:ByteArray):ByteArray:=if inside && !(decide (e.kind=1) || decide (e.kind=2) || decide (e.kind=3)) then ⟨#[40]⟩++t++⟨#[41]⟩ else t
def FL(es:Q09)(n:Nat):Ex:=es[n]?.getD ⟨0,[],⟨#[]⟩,⟨#[]⟩,[]⟩
def txt(es:Q09)(n:Nat):ByteArray:=inT (FL es n) true<|jr (fun x=>if _h:x.toNat<n then txt es x.toNat else ⟨#[]⟩) (FL es n)
def iP(es:Q09)(n:Nat)(x:Int):ByteArray:=if x.toNat<n then txt es x.toNat else ⟨#[]⟩
def gQ(es:Q09)(n:Nat)(inside:Bool):ByteArray:=inT (FL es n) inside<|jr (iP es n)<|FL es n
def xV(es:Q09)(n:Nat):txt es n=gQ es n true:=by
 rw[txt];rfl
def AO:Nat->Nat
 | 0=>200
 | n+1=>AO n*6
def MC(n:Nat):200<=AO n:=by
 induction n with
 | zero=>exact WK _
 | succ n ih=>simp only[AO];omega
def DY{m n:Nat}(h:m<=n):AO m<=AO n:=by
 induction h with
 | refl=>exact WK _
 | step _ ih=>simp only[AO];omega
def Te:AO 14<=20000000000000:=cv
def aV{s:ByteArray}(h:aS s=true):s.size<=12:=by
 simp only[aS,dZ,oK,WM,WW]at h;exact h.1.1.2
def uL{s:ByteArray}(h:vT s=true):s.size<=12:=by
 unfold vT at h;rw[Bool.or_eq_true]at h;rcases h with h|h
 ·have h2:s.data.toList=[]:=by rw[Go.ByteArray.toList_eq]at h;simpa using h
  have h3:s.data.toList.length=0:=by rw[h2];rfl
  have:s.size=s.data.toList.length:=rfl;omega
 exact aV h
def wm{xs:Q0a}:∀{k:Nat},FK xs k=true->∀(i:Nat) (h:i<xs.length),i<k->FJ xs[i]=true
 | 0,_,i,_,hi=>cq
 | k+1,hk,i,h,hi=>by
  unfold FK at hk;rw[WM]at hk;by_cases e:i=k
  ·subst e;have:=hk.2;simp only[WS h,Option.map_some,XF,WM]at this;exact this.1
  exact wm hk.1 i h cq
def nR{a:Al}(h:FJ a=true):(bR a).size<=25:=by
 unfold FJ at h;rw[WM]at h;have h1:=aV h.1;have h2:=uL h.2;have e1:(⟨#[35]⟩:ByteArray).size=1:=rfl;unfold bR;split
 ·omega
 simp only[WY];omega
def jv{xs:Q0a}(h:dF xs=true):(mM xs).size<=190:=by
 unfold dF at h;simp only [WM,WW]at h;have hj:=mJ ⟨#[44]⟩ 25 _ (xs.map bR) rfl (fun x hx=>by
  obtain⟨a,ha,rfl⟩:=WV.1 hx;obtain⟨i,hi,rfl⟩:=Xt ha;exact nR<|wm h.2 i hi hi)
 have e1:(⟨#[116,104,105,115,40]⟩:ByteArray).size=5:=rfl;have e2:(⟨#[41]⟩:ByteArray).size=1:=rfl;have e3:(⟨#[44]⟩:ByteArray).size=1:=rfl;have e4:(xs.map bR).length<=6:=by simp;exact h.1.2
 unfold mM;simp only[WY];rw[e3]at hj;have:(xs.map bR).length*(25+1)<=6*26:=Nat.mul_le_mul_right _ e4;omega
def UJ(es:Q09):Prop:=es.length<=15/\(∀(i:Nat) (h:i<es.length),ax es[i]=true)/\∀i,i<es.length->lI es i=true
def J9{es:Q09}(h:aK es=true):UJ es:=by
 unfold aK at h;simp only[WM,WW]at h;refine⟨h.1.1.1.1.2,fun i hi=>?_,fun i hi=>?_⟩
 ·have:=h.1.1.1.2;rw[WT]at this;exact this _<|WH hi
 have:=h.1.1.2;unfold jH at this;rw[WT]at this;exact this i (by simpa using hi)
def kZ{e:Ex}(h:ax e=true):e.kids.length<=5/\(e.kind=1\/e.kind=2\/e.kind=3\/e.kind=4\/e.kind=5\/e.kind=6):=by
 unfold ax at h;split at h
 ·rename_i k;simp at h;exact⟨by simp[h.2],.inl k⟩
 split at h
 ·rename_i k;simp at h;exact⟨by simp[h.2],.inr<|.inl k⟩
 split at h
 ·rename_i k;simp at h;exact⟨by simp[h.2],.inr<|.inr<|.inl k⟩
 split at h
 ·rename_i k;simp at h;exact⟨cq,cq⟩
 split at h
 ·rename_i k;simp at h;exact⟨cq,cq⟩
 cases h
def AP{es:Q09}(hes:UJ es){n:Nat}(hn:n<es.length)(b:Nat)(hb:200<=b)(f:Int->ByteArray)(hf:∀k∈es[n].kids,(f k).size<=b):(jr f es[n]).size<=b*5+20:=by
 have X0:=hes.2.1 n hn;obtain⟨hk,hkind⟩:=kZ X0;unfold jr;unfold ax at X0;split
 ·rename_i k;rw[if_pos k]at X0;simp only[WM]at X0;have:=jv X0.1.1.1;omega
 rename_i k1;rw[if_neg k1]at X0;split
 ·rename_i k2;rw[if_pos k2]at X0;simp only[WM]at X0;have:=aV X0.1.1.1;omega
 rename_i k2;rw[if_neg k2]at X0;split
 ·rename_i k3;rw[if_pos k3]at X0;simp only[WM]at X0;have h1:=aV X0.1.1.1;have h2:=aV X0.1.1.2;have e1:(⟨#[45,62]⟩:ByteArray).size=2:=rfl;simp only[WY];omega
 have hj:=mJ (eG es[n].kind) b _ (es[n].kids.map f) rfl (fun x hx=>by obtain⟨k,hk,rfl⟩:=WV.1 hx;exact hf k hk);rw[kK]at hj;have:(es[n].kids.map f).length*(b+3)<=5*(b+3):=Nat.mul_le_mul_right _ (by simp;exact hk);omega
def Ha(e:Ex)(i:Bool)(t:bN):(inT e i t).size<=t.size+2:=by
 have e1:(⟨#[40]⟩:ByteArray).size=1:=rfl;have e2:(⟨#[41]⟩:ByteArray).size=1:=rfl;unfold inT;split
 ·simp only[WY];omega
 omega
def sM{es:Q09}{n:Nat}(h:n<es.length):FL es n=es[n]:=by simp[FL,h]
def sN{es:Q09}(hes:UJ es){n:Nat}(hn:n<es.length):∀k∈es[n].kids,0<=k/\k.toNat<n:=by
 intro k hk;have:=hes.2.2 n hn;unfold lI at this;rw[WT]at this;have h1:=this k (by simp[dD,hn,hk]);simp at h1;omega
def Ka{es:Q09}(hes:UJ es)(n:Nat):n<es.length->∀i,(gQ es n i).size<=AO n:=by
 induction n using Nat.strongRecOn with
 | ind n ih =>
  intro hn i;unfold gQ;rw[sM hn];have h1:=Ha es[n] i<|jr (iP es n) es[n];cases n with
  | zero =>
   have h2:=AP hes hn 200 (WK _) (iP es 0) (fun k hk=>by have:=sN hes hn k hk;omega);have hno:es[0].kids=[]:=by
    cases hk:es[0].kids with
    | nil=>rfl
    | cons k ks=>have:=sN hes hn k (by rw[hk];simp);omega
   have X0:=hes.2.1 0 hn;have h3:(jr (iP es 0) es[0]).size<=195:=by
    unfold jr;unfold ax at X0;split
    ·rename_i k;rw[if_pos k]at X0;simp only[WM]at X0;have:=jv X0.1.1.1;omega
    rename_i k1;rw[if_neg k1]at X0;split
    ·rename_i k2;rw[if_pos k2]at X0;simp only[WM]at X0;have:=aV X0.1.1.1;omega
    rename_i k2;rw[if_neg k2]at X0;split
    ·rename_i k3;rw[if_pos k3]at X0;simp only[WM]at X0;have h1:=aV X0.1.1.1;have h2:=aV X0.1.1.2;have e1:(⟨#[45,62]⟩:ByteArray).size=2:=rfl;simp only[WY];omega
    rw[hno];have:(dW (eG es[0].kind)<|List.map (iP es 0) []).size=0:=rfl;omega
   simp only[AO];omega
  | succ m =>
   have h2:=AP hes hn (AO m) (MC m) (iP es<|m+1) (fun k hk=>by
    have hlt:=sN hes hn k hk;unfold iP;rw[if_pos hlt.2,xV];exact WR (ih k.toNat hlt.2 cq true)<|DY cq)
   have:=MC m;simp only[AO];omega
structure RS where
 p:Nat
 bad:Bool
 out:List Ex
def gG:ByteArray:=⟨#[116,104,105,115,40]⟩
def wu:ByteArray:=⟨#[35]⟩
def fT:ByteArray:=⟨#[41]⟩
def mP:ByteArray:=⟨#[44]⟩
def j5:ByteArray:=⟨#[40]⟩
def p9:ByteArray:=⟨#[45,62]⟩
def aY(k:Int):ByteArray:=if k=4 then ⟨#[32,124,32]⟩ else if k=5 then ⟨#[32,38,32]⟩ else ⟨#[32,45,32]⟩
def eZ(s w:ByteArray)(p:Nat):Bool:=decide (p+w.size<=s.size)&&(s.extract p<|p+w.size).toList==w.toList
def mg(s w:ByteArray)(st:RS):Bool:=!st.bad&&eZ s w st.p
def lc(w:ByteArray)(st:RS):RS:=⟨st.p+w.size,st.bad,st.out⟩
def az(s:ByteArray)(p:Nat):Nat:=((s.data.toList.drop p).takeWhile fI).length
def aC(s:ByteArray)(p:Nat):ByteArray:=s.extract p<|p+az s p
def ug(x:Ex)(st:RS):RS:=⟨st.p,st.bad || decide (15<st.out.length+1),st.out++[x]⟩
def ww(st:RS):RS:=⟨st.p,true,st.out⟩
def zI(s:ByteArray)(st:RS):ByteArray:=if mg s wu st then aC s (st.p+1) else ⟨#[]⟩
def aX(s:ByteArray)(st:RS):RS:=if mg s wu st then ⟨st.p+1+az s (st.p+1),st.bad,st.out⟩ else st
def bI(s:ByteArray)(st:RS):RS:=⟨st.p+az s st.p,st.bad,st.out⟩
def dL(s:ByteArray):Nat->List Al->RS->Option (List Al)×RS
 | 0,_,st=>(none,st)
 | n+1,xs,st =>
  if st.bad then (none,st)
  else if mg s fT (aX s<|bI s st) then (some<|xs++[⟨aC s st.p,zI s<|bI s st⟩],lc fT<|aX s<|bI s st)
  else if mg s mP (aX s<|bI s st) then dL s n (xs++[⟨aC s st.p,zI s<|bI s st⟩]) (lc mP<|aX s<|bI s st)
  else dL s n (xs++[⟨aC s st.p,zI s<|bI s st⟩]) (ww<|aX s<|bI s st)
def fM(s:ByteArray)(st:RS):Ex :=
 if mg s p9 (bI s st) then ⟨3,[],aC s st.p,aC s<|st.p+az s st.p+2,[]⟩ else ⟨2,[],⟨#[]⟩,aC s st.p,[]⟩
def aL(s:ByteArray)(st:RS):RS :=
 if mg s p9 (bI s st) then ⟨st.p+az s st.p+2+az s (st.p+az s st.p+2),st.bad,st.out⟩ else bI s st
def judged(x:Ex)(st:RS):RS:=if ax x then st else ww st
def dM(s:ByteArray)(p:Nat):Int:=if eZ s (aY 4) p then 4 else if eZ s (aY 5) p then 5 else if eZ s (aY 6) p then 6 else 0
def iU(s:ByteArray)(it:RS->Int×RS)(k:Int):Nat->List Int->RS->List Int×RS
 | 0,zs,st=>(zs,st)
 | n+1,zs,st=>if mg s (aY k) st then iU s it k n (zs++[(it<|lc (aY k) st).1]) (it<|lc (aY k) st).2 else (zs,st)
def AQ(s:ByteArray):Nat->Bool->RS->Int×RS
 | 0,_,st=>(0,st)
 | n+1,false,st =>
  if mg s gG st then
   match dL s (s.size+1) [] (lc gG st) with
   | (some xs,st')=>((st'.out.length:Int),ug ⟨1,xs,⟨#[]⟩,⟨#[]⟩,[]⟩ st')
   | (none,st')=>(0,st')
  else if mg s j5 st then
   let x:=AQ s n true<|lc j5 st
   if mg s fT x.2 then (x.1,lc fT x.2) else (x.1,ww x.2)
  else ((st.out.length:Int),ug (fM s st)<|judged (fM s st)<|aL s st)
 | n+1,true,st =>
  let x:=AQ s n false st
  if dM s x.2.p=0\/x.2.bad=true then x
  else
   let y:=iU s (AQ s n false) (dM s x.2.p) (s.size+1) [x.1] x.2
   ((y.2.out.length:Int),ug ⟨dM s x.2.p,[],⟨#[]⟩,⟨#[]⟩,y.1⟩ y.2)
def lh(s:bN)(p:Nat)(hp:p<=s.size):p+az s p<=s.size:=by
 unfold az;have h1:((s.data.toList.drop p).takeWhile fI).length<=(s.data.toList.drop p).length:=(List.takeWhile_prefix (p:=fI) (l:=s.data.toList.drop p)).length_le;have h2:(s.data.toList.drop p).length=s.size-p:=by rw[XT];simp
 omega
def AR(s:bN)(p:Nat)(hp:p<=s.size):(aC s p).size=az s p:=by
 unfold aC;rw[ByteArray.size_extract];have:=lh s p hp;omega
def Hd{s w:ByteArray}{p:Nat}(h:eZ s w p=true):p+w.size<=s.size:=by
 unfold eZ at h;simp only[WM,WW]at h;exact h.1
def lJ{s w:ByteArray}{st:RS}(h:mg s w st=true):st.p+w.size<=s.size:=by
 unfold mg at h;simp only[WM]at h;exact Hd h.2
open ChangeAt ChangeShapes RowKit Go.Sort WideShapes
def bF(i:Nat)(kind:Int):List Int->Nat->List Bool->List Bool
 | [],_,out=>out
 | x::xs,k,out=>bF i kind xs (k+1)<|out.set x.toNat<|out.getD i false || (kind==6&&k==1)
def eQ(es:Q09):Nat->List Bool->List Bool
 | 0,out=>out
 | i+1,out=>eQ es i (match es[i]? with|none=>out|some e=>bF i e.kind e.kids 0 out)
def dH(es:Q09):List Bool:=eQ es es.length<|List.replicate es.length false
def zg(i:Nat)(kind:Int)(xs:List Int)(k:Nat)(out:List Bool):(bF i kind xs k out).length=out.length:=by
 induction xs generalizing k out with
 | nil=>rfl
 | cons x xs ih=>simp[bF,ih]
def bools(xs:List Bool):List Value:=xs.map Value.bool
def Fil.set{w wr:af}{g n o:Nat}{xs:Q03}(h:Fil w wr g n xs)(v:Value)(ho:o<xs.length)(hn:o<n):Fil w (wr.setCell (aq g o) v) g n (xs.set o v) where
 below:=h.below.setCell (p:=⟨g,o,none⟩) h.ge v
 ge:=h.ge
 lt:=by simpa using h.lt
 done j hj:=by
  by_cases e:j=o
  ·subst e;obtain⟨u,hu⟩:=Option.isSome_iff_exists.mp<|h.there j hn;rw[oL hu];simp
  have hj':j<xs.length:=by simpa using hj
  rw[iL (Ne.symm e),h.done j hj',List.getElem_set_ne<|Ne.symm e]
 there j hj:=by
  by_cases e:j=o
  ·subst e;obtain⟨u,hu⟩:=Option.isSome_iff_exists.mp<|h.there j hn;rw[oL hu];rfl
  rw[iL (Ne.symm e)];exact h.there j hj
 free j:=by simpa using h.free j
def Fil.drew{w wr:af}{g n:Nat}{xs:Q03}(h:Fil w wr g n xs):Fil w wr.drew g n xs:=⟨h.below.drew,h.ge,h.lt,h.done,h.there,h.free⟩
def DZ{w w0:af}{n:Nat}{base:Nat}{e:TypeId}{v:Value}(h:w0.ownsRow base e 1 (.slice (some<|am w.heap.size) n n) n (madeCells #[v]<|n*1).toList)(hg:w.grownBy w0 none):Fil w w0 w.heap.size n (List.replicate n v) where
 below:=(WL _ _).grown hg (WK _) (fun k hk=>by cases hk)
 ge:=WK _
 lt:=(h.lt w.heap.size rfl).2
 done j hj:=by
  have hj':j<n:=by simpa using hj
  rw[h.cellAt j cq,toList_madeCells_one];simp[hj']
 there j hj:=by
  rw[h.cellAt j cq,WS<|by rw[h.1];omega];rfl
 free j:=h.frozenAt j
def AU:(prog.info? 4).map (fun i=>(i.zero,i.size,i.bytes))=some (some<|.bool false,1,1):=cw
def AV(es:Q09)(m:Nat)(out:List Bool)(h:m<es.length):eQ es (m+1) out=eQ es m (bF m es[m].kind es[m].kids 0 out):=by
 simp[eQ,h]
def j6(i:Nat)(kind:Int)(ks:List Int)(j:Nat)(out:List Bool)(h:j<ks.length):bF i kind (ks.drop j) j out=bF i kind (ks.drop<|j+1) (j+1) (out.set ks[j].toNat<|out.getD i false || (kind==6&&j==1)):=by
 rw[Xw h];rfl
def oV(out:List Bool)(o:Nat)(v:Bool):bools (out.set o v)=(bools out).set o (.bool v):=by simp[bools,List.map_set]
def fF(n:Nat)(ks:List Int):Prop:=∀x∈ks,0<=x/\x<(n:Int)
def NA(ad:Q02)(cap:Nat)(rs:Q08)(w:af)(hlen:bh rs)(hs:iw w ad rs)(hl:∀r∈rs,r.e.light)(hk:∀r∈rs,fF rs.length r.e.kids):
  Calls prog 277 #[.slice ad rs.length cap] w fun e w'=>e=.returned (.slice (some<|am w.heap.size) rs.length rs.length)/\Fil w w' w.heap.size rs.length (bools<|dH<|ai rs):=by
 have HS:=aB hs;have HL:=aB hl;have HK:=aB hk;clear hs hl hk;obtain⟨inf,hi,hz0,hz1,hz2⟩:=info_parts AU;go_enter func277,ntmps277;go_wp2_with(at_make;refine wpList_make_full _ rfl _ _ 338 rfl w.heap.size 4 inf (.bool false) 1 underlying338 hi hz0 hz1 .i64 .i64 _ _ rs.length rfl rfl rfl rfl (by rw[hz2];omega) cy (WK _) ?_;intro w0 hown0 Y0);have HF0:O (Fil w w0 w.heap.size rs.length<|bools<|List.replicate rs.length false):=by
  have:=DZ (v:=.bool false) hown0 Y0;show Fil _ _ _ _ _;simpa[bools] using this
 clear hown0 Y0 hi hz0 hz1 hz2;go_loopw[4] (fun i wr=>∃(m:Nat) (out:List Bool),m<=rs.length/\i=.int .i64 ((m:Int)-1)/\out.length=rs.length/\O (eQ (ai rs) m out=dH (ai rs))/\O (Fil w wr w.heap.size rs.length<|bools out)) (fun i _=>(intOf i+1).toNat);case atStart=>exact⟨rs.length,List.replicate rs.length false,WK _,cx,ct,(by show _=_;unfold dH;rw[au]),HF0⟩
 obtain⟨m,out,hm,rfl,hol,HN,HF⟩:=hrel;by_cases hm0:0<m
 ·obtain⟨m,rfl⟩:∃m',m=m'+1:=⟨m-1,cq⟩;have hmi:(((m+1:Nat):Int)-1)=(m:Int):=cq;rw[hmi];have hlt:m<rs.length:=cq;rcases HS.out.below HF.below with rfl|⟨b,off,rfl,hb,hr,hok⟩
  ·simp at hlt
  obtain⟨t0,t1,t2,t3,t4⟩:=hr m hlt;have Yn:O (rs[m].ok _):=hok rs[m]<|WH hlt;have lg:=(HL rs[m]<|WH hlt).2;have HKI:O (fF rs.length rs[m].e.kids):=HK rs[m]<|WH hlt;have hk1:=bY m;have hk2:(m:Int)<(rs.length:Int):=cq;have hbw:cU b w:=by
   rcases HS.out with h|⟨b',off',h1,h2,-⟩
   ·rw[h]at hlt;simp at hlt
   injection h1 with h1;injection h1 with h1;omega
  have HR:O (vP wr b (off+m*5) rs[m]):=hr m hlt;have HNX:O (eQ (ai rs) m (bF m rs[m].e.kind rs[m].e.kids 0 out)=dH (ai rs)):=by
   show _=_;rw[<-HN,AV _ _ _<|by rw[au];exact hlt];simp[ai]
  clear hr hok t0 t1 t2 t3 t4;go_wp2_with fail;go_loopw[5] (fun i w2=>∃(j:Nat) (Yf:List Bool),j<=rs[m].e.kids.length/\i=.int .i64 j/\Yf.length=rs.length/\O (bF m rs[m].e.kind (rs[m].e.kids.drop j) j Yf=bF m rs[m].e.kind rs[m].e.kids 0 out)/\O (Fil w w2 w.heap.size rs.length<|bools Yf)) (fun i _=>rs[m].e.kids.length-(intOf i).toNat);case atStart=>exact⟨0,out,WO _,rfl,hol,rfl,HF⟩
  obtain⟨j,Yf,hj,rfl,ho2,HJ,Y3⟩:=hrel;have hE2:iw wr _ rs:=HS.below Y3.below;have ht:vP wr b (off+m*5) rs[m]:=by
   rcases hE2 with h|⟨b',off',h1,h2,h3,-⟩
   ·exact absurd hlt (by rw[h];simp)
   injection h1 with h1;injection h1 with h1 h1';subst h1;subst h1';exact h3 m hlt
  obtain⟨t0,t1,t2,t3,t4⟩:=ht;by_cases hjl:j<rs[m].e.kids.length
  ·have hK2:sK wr rs[m].adK rs[m].e.kids:=(hE2.mem<|WH hlt).2;rcases hK2 with hnil|⟨ba,ZQ,Ze,hba,hra⟩
   ·rw[hnil]at hjl;simp at hjl
   rw[Ze]at t4;have q0:=hra j hjl;have hj1:=bY j;have hj2:(j:Int)<(rs[m].e.kids.length:Int):=cq;obtain⟨x0,x1⟩:=HKI _<|WH hjl;obtain⟨x,hx⟩:∃x:Nat,rs[m].e.kids[j]=(x:Int):=⟨rs[m].e.kids[j].toNat,cq⟩;rw[hx]at q0 x0 x1;have c0:=Y3.done m (by simp[bools];omega);have fz:=Y3.free;obtain⟨v0,u0⟩:=Option.isSome_iff_exists.mp<|Y3.there x cq;have hbr:cU b wr:=WJ hbw Y3.below.size;obtain⟨bo,hbo⟩:∃bo,bo=(bools Yf)[m]'(by simp[bools];omega):=⟨_,rfl⟩;rw[<-hbo]at c0;clear hra Ze hE2 t1 t2 t3;have hm2:m<Yf.length:=cq
   have hbo1:bo=.bool Yf[m]:=by rw[hbo];simp[bools]
   have hbo':Yf[m]?.getD false=Yf[m]:=by simp[hm2]
   rw[hbo1]at c0;clear hbo hbo1;have HJ3:O (∀bv,(Yf[m] || (rs[m].e.kind==6&&j==1))=bv->bF m rs[m].e.kind (rs[m].e.kids.drop<|j+1) (j+1) (Yf.set x bv)=bF m rs[m].e.kind rs[m].e.kids 0 out):=by
    rintro _ rfl;rw[<-HJ,j6 _ _ _ _ _ hjl,hx];simp[hbo']
   have ZT:O (∀bv d os,Fil w ((grow (redrawn wr d) os).setCell (a8 w x)<|.bool bv) w.heap.size rs.length<|bools<|Yf.set x bv):=by
    intro bv d os;rw[oV];exact(Y3.later<|below_regrown wr d os).set _ (by simp[bools];omega) cq
   go_wp2_with fail;replace fz:=fun d os=>(Y3.later<|below_regrown wr d os).free;replace t0:=cell_regrown t0;replace t4:=cell_regrown t4;replace q0:=cell_regrown q0;replace c0:=cell_regrown c0;replace u0:=cell_regrown u0;clear hbo';cases hb0:Yf[m]<;>cases hkb:(rs[m].e.kind==6)<;>cases hjb:((j:Int)==1)
   all_goals
    have hjn:(j==1)=_:=(by rw[Xe];simp;omega:(j==1)=((j:Int)==1)).trans hjb;rw[hb0]at c0;have HJ4:=oP (HJ3 _<|by rw[hb0,hkb,hjn]);refine qX 26 1 cw (by rfl) cw ?_;simp only[List.take_succ_cons,List.take_zero]
    repeat(go_big_quiet_step (fail))
    refine wpQuiet_nil ?_;rintro _ ⟨⟨dq,osq⟩,rfl⟩;refine wpOp_step rfl (fun K hK=>?_);replace hK:=oP hK;go_simp;refine hK _ _ ?_;clear hK;unfold oQ;go_wp2;go_roundw;case rel=>exact⟨j+1,_,cq,cx,by simp[ho2],HJ4,ZT _ _ _⟩
    simp[intOf]<;>omega
  have HOE:O (eQ (ai rs) m Yf=dH (ai rs)):=by
   show _=_;rw[<-HNX,<-HJ,Xm cq];rfl
  go_wp2;go_roundw;case rel=>exact⟨m,Yf,cq,cx,ho2,HOE,Y3⟩
  simp[intOf]<;>omega
 obtain rfl:m=0:=cq;have ZN:O (Fil w wr w.heap.size rs.length<|bools<|dH<|ai rs):=by
  show Fil _ _ _ _ _;rw[<-HN];exact HF
 go_wp2;go_ret;exact⟨rfl,ZN⟩
structure St where
 typ:ByteArray
 rel:ByteArray
 n:Int
def VS(w:World)(b off:Nat)(s:St):Prop:=w.cell? ⟨b,off,none⟩=some (.string s.typ)/\w.cell? ⟨b,off+1,none⟩=some (.string s.rel)/\w.cell? ⟨b,off+2,none⟩=some (.int .i64 s.n)
def UK(w:World)(ad:Q02)(xs:List St):Prop:=xs=[] \/ ∃b off,ad=some ⟨b,off,none⟩/\b<w.heap.size/\∀(i:Nat) (h:i<xs.length),VS w b (off+i*3) xs[i]
def UK.below{w w':af}{ad:Q02}{xs:List St}(h:UK w ad xs)(hB:ag w w'):UK w' ad xs:=by
 rcases h with h|⟨b,off,e,hb,hr⟩
 ·exact .inl h
 refine .inr ⟨b,off,e,WJ hb hB.size,fun i hi=>?_⟩;obtain⟨h0,h1,h2⟩:=hr i hi;exact⟨aD hB hb h0,aD hB hb h1,aD hB hb h2⟩
def Dg(s:St)(typ rel:ByteArray):Bool:=(s.typ.toList==typ.toList)&&(s.rel.toList==rel.toList)
def iy(typ rel:ByteArray):List St->Nat->Int
 | [],_=>-1
 | s::xs,k=>if Dg s typ rel then (k:Int) else iy typ rel xs (k+1)
def ru(typ rel:bN)(xs:List St)(k:Nat)(h:k<xs.length):iy typ rel (xs.drop k) k=if Dg xs[k] typ rel then (k:Int) else iy typ rel (xs.drop<|k+1) (k+1):=by
 rw[Xw h];rfl
def Qc(ad:Q02)(cap:Nat)(xs:List St)(typ rel:bN)(w:af)(hlen:bh xs)(hs:UK w ad xs):
  Calls prog 219 #[.slice ad xs.length cap,.string typ,.string rel] w (bx w<|.int .i64<|iy typ rel xs 0):=by
 go_enter func219,ntmps219;go_wp2;go_loopw[7] (fun i wr=>∃k:Nat,k<=xs.length/\i=.int .i64 k/\O (iy typ rel (xs.drop k) k=iy typ rel xs 0)/\wr=w) (fun i _=>xs.length-(intOf i).toNat);case atStart=>exact⟨0,WO _,rfl,rfl,rfl⟩
 obtain⟨k,hk,rfl,HP,rfl⟩:=hrel;by_cases hlt:k<xs.length
 ·rcases hs with rfl|⟨b,off,rfl,hb,hr⟩
  ·simp at hlt
  obtain⟨t0,t1,t2⟩:=hr k hlt;have hk1:=bY k;have hk2:(k:Int)<(xs.length:Int):=cq;clear hr;cases hq:(xs[k].typ.toList==typ.toList);case true=>
   cases hp:(xs[k].rel.toList==rel.toList);case true=>
    have HN:O (iy typ rel xs 0=(k:Int)):=by show _=_;rw[<-HP,ru _ _ _ _ hlt];simp[Dg,hq,hp]
    go_wp2;go_ret;exact⟨by rw[HN];rfl,rfl⟩
   have Ye:O (iy typ rel (xs.drop<|k+1) (k+1)=iy typ rel xs 0):=by show _=_;rw[<-HP,ru _ _ _ _ hlt];simp[Dg,hq,hp]
   go_wp2;go_roundw;case rel=>exact⟨k+1,cq,cx,Ye,by first|rfl|trivial⟩
   simp[intOf]<;>omega
  have Ye:O (iy typ rel (xs.drop<|k+1) (k+1)=iy typ rel xs 0):=by show _=_;rw[<-HP,ru _ _ _ _ hlt];simp[Dg,hq]
  go_wp2;go_roundw;case rel=>exact⟨k+1,cq,cx,Ye,by first|rfl|trivial⟩
  simp[intOf]<;>omega
 have HN:O (iy typ rel xs 0=-1):=by show _=_;rw[<-HP,Xm cq];rfl
 go_wp2;go_ret;exact⟨by rw[HN];rfl,rfl⟩
structure Dp where
 typ:ByteArray
 rel:ByteArray
 neg:Bool
def Dp.cells(d:Dp):List Value:=[.string d.typ,.string d.rel,.bool d.neg]
def fC:List Dp->List Value
 | []=>[]
 | d::ds=>d.cells++fC ds
def FM(xs ys:List Dp):fC (xs++ys)=fC xs++fC ys:=by
 induction xs with
 | nil=>rfl
 | cons d ds ih=>simp[fC,ih]
def uM(xs:List Dp)(d:Dp):fC (xs++[d])=fC xs++d.cells:=by rw[FM];simp[fC]
def dw(neg:Bool):List Al->List Dp
 | []=>[]
 | a::xs=>if a.s.toList.isEmpty then dw neg xs else ⟨a.t,a.s,neg⟩::dw neg xs
def lW(ts:Q0b)(typ:ByteArray)(neg:Bool)(e:Ex):List Dp :=
 if e.kind=2 then [⟨typ,e.name,neg⟩] else if e.kind=3 then (iN ts typ e.over e.name).map fun g=>⟨g,e.name,neg⟩ else []
def iV(ts:Q0b)(typ:ByteArray)(es:Q09)(k:Nat):List Dp :=
 match es[k]? with
 | none=>[]
 | some e=>dw ((dH es).getD k false) e.allow++lW ts typ ((dH es).getD k false) e
def aR(ts:Q0b)(typ:ByteArray)(es:Q09):Nat->List Dp
 | 0=>[]
 | k+1=>aR ts typ es k++iV ts typ es k
def qR(ts:Q0b)(typ:ByteArray)(es:Q09):List Dp:=aR ts typ es es.length
def wy(neg:Bool)(xs ys:Q0a):dw neg (xs++ys)=dw neg xs++dw neg ys:=by
 induction xs with
 | nil=>rfl
 | cons a xs ih=>simp only[XB,dw,ih];split<;>simp
def Qd(neg:Bool)(xs:Q0a)(k:Nat)(h:k<xs.length)(he:xs[k].s.toList.isEmpty=true):dw neg (xs.take<|k+1)=dw neg (xs.take k):=by
 rw[WN h,wy];simp[dw]at he ⊢;simp[he]
def NC(neg:Bool)(xs:Q0a)(k:Nat)(h:k<xs.length)(he:xs[k].s.toList.isEmpty=false):dw neg (xs.take<|k+1)=dw neg (xs.take k)++[⟨xs[k].t,xs[k].s,neg⟩]:=by
 rw[WN h,wy];simp[dw,he]
def D5(neg:Bool)(xs:Q0a):(dw neg xs).length<=xs.length:=by
 induction xs with
 | nil=>simp[dw]
 | cons a xs ih=>simp only[dw];split<;>simp<;>omega
def Qe:(prog.info? 294).map (fun i=>(i.zero,i.size,i.bytes))=some (some<|.agg #[.string ⟨#[]⟩,.string ⟨#[]⟩,.bool false],3,40):=cw
def fU{a b:ByteArray}(h:a.toList=b.toList):a=b:=by
 rw[Go.ByteArray.toList_eq,Go.ByteArray.toList_eq]at h;cases a with|mk x=>cases b with|mk y =>
 congr;exact Array.ext' h
def gu{a b:ByteArray}:(a.toList==b.toList)=true↔a=b:=⟨fun h=>fU<|by simpa using h,fun h=>by simp[h]⟩
def kH(t:Ty):List (ByteArray×ByteArray):=t.rels.map fun r=>(t.name,r.name)
def ay(ts:Q0b):List (ByteArray×ByteArray):=ts.flatMap kH
def stepOf(d:Dp):Int:=if d.neg then 1 else 0
def iW(ts:Q0b)(k:Q01):List Dp:=qR ts k.1<|aj ts k.1 k.2
structure Sol(ts:Q0b)(f:Q00):Prop where
 pos:∀k,0<=f k
 up:∀k∈ay ts,∀d∈iW ts k,f (d.typ,d.rel)+stepOf d<=f k
def Found(ts:Q0b):Prop:=∀k∈ay ts,∀d∈iW ts k,(d.typ,d.rel)∈ay ts
def zh(vs:List Int)(x y:Int)(h:x<=y):vs.countP (fun v=>decide (v<x))<=vs.countP (fun v=>decide (v<y)) :=
 List.countP_mono_left fun v _ hv=>by simp at hv⊢;omega
def ND(vs:List Int)(x y:Int)(h:x+1<=y)(hx:x∈vs):vs.countP (fun v=>decide (v<x))+1<=vs.countP (fun v=>decide (v<y)):=by
 induction vs with
 | nil=>cases hx
 | cons v vs ih =>
  simp only[List.countP_cons];rcases Xc.1 hx with rfl|hm
  ·have:=zh vs x y cq;have h1:decide (x<x)=false:=ct;have h2:decide (x<y)=true:=by simp;omega
   simp only[h1,h2];simp;omega
  have:=ih hm;by_cases h1:v<x
  ·have h2:v<y:=cq;simp[h1,h2];omega
  simp only[h1];simp;omega
def Kb(vs:List Int)(x:Int)(hx:x∈vs):vs.countP (fun v=>decide (v<x))+1<=vs.length:=by
 induction vs with
 | nil=>cases hx
 | cons v vs ih =>
  simp only[List.countP_cons,Xq];rcases Xc.1 hx with rfl|hm
  ·have:=List.countP_le_length (p:=fun v=>decide (v<x)) (l:=vs);have h1:decide (x<x)=false:=ct
   simp only[h1];simp;omega
  have:=ih hm;split<;>omega
def Sol.few{ts:Q0b}{f:Q00}(h:Sol ts f)(hF:Found ts):∃g,Sol ts g/\∀k∈ay ts,g k+1<=(ay ts).length:=by
 refine⟨fun k=>((((ay ts).map f).countP (fun v=>decide (v<f k)):Nat):Int),⟨fun k=>cq,fun k hk d hd=>?_⟩,fun k hk=>?_⟩
 ·have h1:=h.up k hk d hd;have h2:f (d.typ,d.rel)∈(ay ts).map f:=Xk<|hF k hk d hd;unfold stepOf at h1⊢;split at h1
  ·rename_i hn;have:=ND ((ay ts).map f) _ _ h1 h2;simp only[hn,if_true];omega
  rename_i hn;have:=zh ((ay ts).map f) _ _ (show f (d.typ,d.rel)<=f k by omega);have e0:(if d.neg=true then (1:Int) else 0)=0:=if_neg hn;rw[e0];omega
 have:=Kb ((ay ts).map f) (f k)<|Xk hk;simp at this⊢;omega
def ry(ts:Q0b)(k:Q01)(n:Int):Prop:=∀f,Sol ts f->n<=f k
def Kc{ts:Q0b}(hF:Found ts){k:Q01}(hk:k∈ay ts){n:Int}(hl:ry ts k n)(hn:((ay ts).length:Int)<=n):¬ ∃f,Sol ts f:=by
 rintro⟨f,hf⟩;obtain⟨g,hg,hb⟩:=hf.few hF;have:=hl g hg;have:=hb k hk;omega
def ry.step{ts:Q0b}{k:Q01}(hk:k∈ay ts){d:Dp}(hd:d∈iW ts k){n:Int}(hl:ry ts (d.typ,d.rel) n):ry ts k (n+stepOf d):=fun f hf=>by
 have h1:=hl f hf;have h2:=hf.up k hk d hd;omega
def ry.zero(ts:Q0b)(k:Q01):ry ts k 0:=fun _ hf=>hf.pos k
structure Least(ts:Q0b)(f:Q00):Prop where
 sol:Sol ts f
 low:∀k∈ay ts,ry ts k (f k)
def Least.same{ts:Q0b}{f g:Q00}(hf:Least ts f)(hg:Least ts g)(k:Q01)(hk:k∈ay ts):f k=g k:=by
 have h1:=hf.low k hk g hg.sol;have h2:=hg.low k hk f hf.sol;omega
def St.key(s:St):ByteArray×ByteArray:=(s.typ,s.rel)
def mQ(out:List St):List (ByteArray×ByteArray):=out.map St.key
def AX{s:St}{k:Q01}:Dg s k.1 k.2=true↔s.key=k:=by
 unfold Dg St.key;rw[WM,gu,gu];constructor
 ·rintro⟨h1,h2⟩;rw[h1,h2]
 rintro rfl;exact⟨rfl,rfl⟩
def jw(out:List St)(k:Q01):Int :=
 match out with
 | []=>0
 | s::xs=>if Dg s k.1 k.2 then s.n else jw xs k
def qc{k:Q01}:∀(out:List St) (j:Nat),k∈mQ out->∃i:Nat,∃h:i<out.length,iy k.1 k.2 out j=((j+i:Nat):Int)/\out[i].key=k/\out[i].n=jw out k
 | [],_,h=>by cases h
 | s::xs,j,h=>by
  by_cases hs:Dg s k.1 k.2=true
  ·exact⟨0,ct,by simp[iy,hs],AX.1 hs,by simp[jw,hs]⟩
  have hm:k∈mQ xs:=by
   rcases Xc.1 h with e|hm
   ·exact absurd (AX.2 e.symm) hs
   exact hm
  obtain⟨i,hi,h1,h2,h3⟩:=qc xs (j+1) hm;refine⟨i+1,by simp;omega,?_,by simpa using h2,by simpa[jw,hs] using h3⟩;simp only[iy,hs];simp only[Bool.false_eq_true,if_false];rw[h1];congr 1;omega
def D6{k:Q01}(out:List St)(h:k∈mQ out):∃s∈out,s.key=k/\s.n=jw out k:=by
 obtain⟨i,hi,-,h2,h3⟩:=qc out 0 h;exact⟨out[i],WH hi,h2,h3⟩
def Qf{k:Q01}(out:List St)(h:k ∉ mQ out):jw out k=0:=by
 induction out with
 | nil=>rfl
 | cons s xs ih =>
  have h1:¬Dg s k.1 k.2=true:=fun e=>h (by rw[AX]at e;simp[mQ,e]);simp only[jw,h1];simp only[Bool.false_eq_true,if_false];exact ih fun hm=>h (by simp only[mQ,XN,Xc];exact .inr hm)
def nP:List St->Int
 | []=>0
 | s::xs=>s.n+nP xs
def Qg(out:List St)(i:Nat)(h:i<out.length)(n:Int):nP (out.set i ⟨out[i].typ,out[i].rel,n⟩)=nP out-out[i].n+n:=by
 induction out generalizing i with
 | nil=>simp at h
 | cons s xs ih =>
  cases i with
  | zero=>simp[nP];omega
  | succ i=>simp only[List.set_cons_succ,nP,List.getElem_cons_succ];rw[ih i (by simpa using h)];omega
def NE(out:List St)(i:Nat)(h:i<out.length)(n:Int):mQ (out.set i ⟨out[i].typ,out[i].rel,n⟩)=mQ out:=by
 unfold mQ;rw[List.map_set];show(List.map St.key out).set i (out[i].key)=_;have:out[i].key=(List.map St.key out)[i]'(by simpa using h):=ct
 rw[this,List.set_getElem_self]
structure Round(ts:Q0b)(out:List St):Prop where
 keys:mQ out=ay ts
 pos:∀s∈out,0<=s.n
 low:∀s∈out,ry ts s.key s.n
def Tf(ts:Q0b)(out:List St)(s:St)(k:Nat):Prop:=∀d∈(iW ts s.key).take k,jw out (d.typ,d.rel)+stepOf d<=s.n
def Round.mem{ts:Q0b}{out:List St}(h:Round ts out){s:St}(hs:s∈out):s.key∈ay ts:=by rw[<-h.keys];exact Xk hs
def Round.at{ts:Q0b}{out:List St}(h:Round ts out){k:Q01}(hk:k∈ay ts):0<=jw out k/\ry ts k (jw out k):=by
 obtain⟨s,hs,e,en⟩:=D6 out (by rw[h.keys];exact hk);rw[<-en,<-e];exact⟨h.pos s hs,h.low s hs⟩
def Round.set{ts:Q0b}{out:List St}(h:Round ts out)(hF:Found ts){i:Nat}(hi:i<out.length){d:Dp}(hd:d∈iW ts out[i].key):Round ts (out.set i ⟨out[i].typ,out[i].rel,jw out (d.typ,d.rel)+stepOf d⟩):=by
 have hk:out[i].key∈ay ts:=h.mem<|WH hi;have hdk:=hF _ hk d hd;obtain⟨h0,hl⟩:=h.at hdk;have hs0:0<=stepOf d:=by unfold stepOf;split<;>omega
 refine⟨(NE out i hi _).trans h.keys,fun s hs=>?_,fun s hs=>?_⟩
 ·rcases List.mem_or_eq_of_mem_set hs with hs|rfl
  ·exact h.pos s hs
  show 0<=jw out (d.typ,d.rel)+stepOf d;omega
 rcases List.mem_or_eq_of_mem_set hs with hs|rfl
 ·exact h.low s hs
 exact hl.step hk hd
def Round.done{ts:Q0b}{out:List St}(h:Round ts out)(hs:∀s∈out,Tf ts out s (iW ts s.key).length):Least ts (jw out) where
 sol:=⟨fun k=>by
   by_cases hk:k∈ay ts
   ·exact(h.at hk).1
   ·rw[Qf out (by rw[h.keys];exact hk)];exact Int.le_refl _,fun k hk d hd=>by
   obtain⟨s,hm,e,en⟩:=D6 out (by rw[h.keys];exact hk);have:=hs s hm d (by rw[Xa,e];exact hd);rw[<-en];exact this⟩
 low k hk:=(h.at hk).2
def jN(a b:ByteArray):Bool:=Op.bytesLess a.toList b.toList
def mR(rs:List Rl)(j:Nat):Bool :=
 match rs[j]? with
 | none=>true
 | some r=>aS r.name&&(match j with|0=>true|i+1=>(rs[i]?.map fun p=>jN p.name r.name).getD true)&&aK r.expr
def dN(rs:List Rl):Nat->Bool
 | 0=>true
 | k+1=>dN rs k&&mR rs k
def ll(ts:Q0b)(j:Nat):Bool :=
 match ts[j]? with
 | none=>true
 | some t=>aS t.name&&(match j with|0=>true|i+1=>(ts[i]?.map fun p=>jN p.name t.name).getD true)&&decide (t.rels.length<=6)&&dN t.rels t.rels.length
def jm(ts:Q0b):Nat->Bool
 | 0=>true
 | k+1=>jm ts k&&ll ts k
def uN(rs:List Rl)(k:Nat)(hb:mR rs k=false):∀n,k<n->dN rs n=false
 | 0,hn=>cq
 | n+1,hn=>by
  by_cases e:n=k
  ·subst e;simp[dN,hb]
  simp[dN,uN rs k hb n cq]
def uO(ts:Q0b)(k:Nat)(hb:ll ts k=false):∀n,k<n->jm ts n=false
 | 0,hn=>cq
 | n+1,hn=>by
  by_cases e:n=k
  ·subst e;simp[jm,hb]
  simp[jm,uO ts k hb n cq]
def qd{rs:List Rl}:∀{n:Nat},dN rs n=true->∀j,j<n->mR rs j=true
 | 0,_,j,hj=>cq
 | n+1,h,j,hj=>by
  simp only[dN,WM]at h;by_cases e:j=n
  ·subst e;exact h.2
  exact qd h.1 j cq
def qg{ts:Q0b}:∀{n:Nat},jm ts n=true->∀j,j<n->ll ts j=true
 | 0,_,j,hj=>cq
 | n+1,h,j,hj=>by
  simp only[jm,WM]at h;by_cases e:j=n
  ·subst e;exact h.2
  exact qg h.1 j cq
def bB(ts:Q0b):Bool:=decide (ts.length<=6)&&jm ts ts.length
def rz(ts:Q0b)(t:Ty):Bool:=t.rels.all fun r=>aT ts t.name r.expr
def iG(ts:Q0b):Bool:=ts.all<|rz ts
def bZ(ts:Q0b):Prop:=bB ts=true/\iG ts=true/\∃f,Sol ts f
def NF{rs:List Rl}{n:ByteArray}{es:Q09}(h:iM rs n=some es):∃r∈rs,r.name=n/\r.expr=es:=by
 induction rs with
 | nil=>simp[iM]at h
 | cons r rs ih =>
  simp only[iM]at h;split at h
  ·rename_i hn;injection h with h;exact⟨r,ct,gu.1 hn,h⟩
  obtain⟨q,hq,e⟩:=ih h;exact⟨q,by simp[hq],e⟩
def oW{ts:Q0b}{ty n:ByteArray}{es:Q09}(h:fB ts ty n=some es):∃t∈ts,∃r∈t.rels,t.name=ty/\r.name=n/\r.expr=es:=by
 induction ts with
 | nil=>simp[fB]at h
 | cons t ts ih =>
  simp only[fB]at h;split at h
  ·rename_i hn;rcases Option.or_eq_some_iff.1 h with h|⟨-,h⟩
   ·obtain⟨r,hr,e⟩:=NF h;exact⟨t,ct,r,hr,gu.1 hn,e⟩
   obtain⟨t',ht,e⟩:=ih h;exact⟨t',by simp[ht],e⟩
  obtain⟨t',ht,e⟩:=ih h;exact⟨t',by simp[ht],e⟩
def rA{ts:Q0b}{k:Q01}:k∈ay ts ↔ ∃t∈ts,∃r∈t.rels,k=(t.name,r.name):=by
 simp only[ay,kH,Xd,WV];constructor
 ·rintro⟨t,ht,r,hr,e⟩;exact⟨t,ht,r,hr,e.symm⟩
 rintro⟨t,ht,r,hr,e⟩;exact⟨t,ht,r,hr,e.symm⟩
def oZ{ts:Q0b}{ty n:ByteArray}(h:(aj ts ty n).isEmpty=false):(ty,n)∈ay ts:=by
 unfold aj at h;cases e:fB ts ty n with
 | none=>rw[e]at h;simp at h
 | some es =>
  obtain⟨t,ht,r,hr,h1,h2,-⟩:=oW e;exact rA.2 ⟨t,ht,r,hr,by rw[h1,h2]⟩
def U8{ts:Q0b}{rel:ByteArray}{xs:Q0a}{g:ByteArray}(h:g∈gl ts rel xs):(aj ts g rel).isEmpty=false:=by
 induction xs with
 | nil=>simp[gl]at h
 | cons a xs ih =>
  simp only[gl]at h;split at h
  ·exact ih h
  rename_i hn;rcases Xc.1 h with rfl|h
  ·simpa using hn
  exact ih h
def NG{neg:Bool}{xs:Q0a}{d:Dp}(h:d∈dw neg xs):∃a∈xs,a.s.toList.isEmpty=false/\d.typ=a.t/\d.rel=a.s:=by
 induction xs with
 | nil=>simp[dw]at h
 | cons a xs ih =>
  simp only[dw]at h;split at h
  ·obtain⟨b,hb,e⟩:=ih h;exact⟨b,by simp[hb],e⟩
  rename_i hn;rcases Xc.1 h with rfl|h
  ·exact⟨a,ct,by simpa using hn,rfl,rfl⟩
  obtain⟨b,hb,e⟩:=ih h;exact⟨b,by simp[hb],e⟩
def uP{ts:Q0b}{typ:ByteArray}{es:Q09}{d:Dp}:∀{k:Nat},d∈aR ts typ es k->∃i,i<k/\d∈iV ts typ es i
 | 0,h=>by simp[aR]at h
 | k+1,h=>by
  simp only[aR]at h;rcases WU.1 h with h|h
  ·obtain⟨i,hi,e⟩:=uP h;exact⟨i,cq,e⟩
  exact⟨k,cq,h⟩
def D7{ts:Q0b}{typ:ByteArray}{es:Q09}(h:aT ts typ es=true):∀e∈es,pW ts e.allow=true/\l8 ts typ e=true:=by
 induction es with
 | nil=>intro e he;cases he
 | cons e es ih =>
  simp only[aT]at h;split at h
  ·rename_i hn;rw[WM]at hn;intro q hq;rcases Xc.1 hq with rfl|hq
   ·exact hn
   exact ih h q hq
  cases h
def mU{ts:Q0b}(h:iG ts=true):Found ts:=by
 intro k hk d hd;unfold iW qR at hd;have hne:(aj ts k.1 k.2).length≠0:=by
  intro e;rw[e]at hd;simp[aR]at hd
 obtain⟨es,hes⟩:∃es,fB ts k.1 k.2=some es:=by
  cases e:fB ts k.1 k.2 with
  | none=>unfold aj at hne;rw[e]at hne;simp at hne
  | some es=>exact⟨es,rfl⟩
 have ero:aj ts k.1 k.2=es:=by unfold aj;rw[hes];rfl
 rw[ero]at hd;obtain⟨t,ht,r,hr,h1,h2,h3⟩:=oW hes;have hr1:aT ts k.1 es=true:=by
  unfold iG at h;rw[WT]at h;have:=h t ht;unfold rz at this;rw[WT]at this;have:=this r hr;rw[h1,h3]at this;exact this
 obtain⟨i,hi,hdi⟩:=uP hd;unfold iV at hdi;split at hdi
 ·cases hdi
 rename_i e he;obtain⟨ra,rn⟩:=D7 hr1 e<|XO he;rcases WU.1 hdi with hdi|hdi
 ·obtain⟨a,ha,hs,e1,e2⟩:=NG hdi;unfold pW at ra;rw[WT]at ra;have:=ra a ha;unfold qQ at this;rw[hs,Bool.false_or,WM]at this;rw[e1,e2];exact oZ (by simpa using this.2)
 unfold lW at hdi;unfold l8 at rn;split at hdi
 ·rename_i h2;rw[if_pos h2]at rn;simp at hdi;subst hdi;exact oZ (by simpa using rn)
 split at hdi
 ·obtain⟨g,hg,rfl⟩:=WV.1 hdi;exact oZ<|U8 hg
 cases hdi
def kL{es:Q09}(h:aK es=true):1<=es.length/\es.length<=15:=by
 simp only[aK,WM,WW]at h;exact⟨h.1.1.1.1.1,h.1.1.1.1.2⟩
def NH{es:Q09}(h:aK es=true)(i:Nat)(hi:i<es.length):fF es.length es[i].kids:=by
 simp only[aK,WM,WW]at h;have h1:=h.1.1.2;unfold jH at h1;rw[WT]at h1;have h2:=h1 i (by simpa using hi);unfold lI dD at h2;rw[WS hi]at h2;simp only[Option.map_some,XF,WT,WM,WW]at h2;intro x hx;have:=h2 x hx;omega
def aW{rs:Q06}(h:bB (ae rs)=true):rs.length<=6/\(∀r∈rs,r.rows.length<=6)/\∀r∈rs,∀q∈r.rows,aK (ai q.rows)=true/\q.rows.length<=15/\∀e∈q.rows,fF q.rows.length e.e.kids:=by
 simp only[bB,WM,WW]at h;rw[bz]at h;have hT:∀r∈rs,r.rows.length<=6/\dN (df r.rows) r.rows.length=true:=by
  intro r hr;obtain⟨j,hj,rfl⟩:=XA.1 hr;have h1:=qg h.2 j hj;unfold ll at h1;have e:(ae rs)[j]?=some rs[j].p:=by simp[ae,hj]
  rw[e]at h1;simp only[WM,WW]at h1;have e2:rs[j].p.rels.length=rs[j].rows.length:=by simp[TR.p,df]
  rw[e2]at h1;exact⟨h1.1.2,h1.2⟩
 refine⟨h.1,fun r hr=>(hT r hr).1,fun r hr q hq=>?_⟩;obtain⟨j,hj,rfl⟩:=XA.1 hq;have h1:=qd (hT r hr).2 j hj;unfold mR at h1;have e:(df r.rows)[j]?=some r.rows[j].p:=by simp[df,hj]
 rw[e]at h1;simp only[WM]at h1;have h2:aK (ai r.rows[j].rows)=true:=h1.2;have h3:=kL h2;rw[au]at h3;refine⟨h2,h3.2,fun e he=>?_⟩;obtain⟨i,hi,rfl⟩:=XA.1 he;have:=NH h2 i (by rw[au];exact hi);have e1:(ai r.rows[j].rows)[i]'(by rw[au];exact hi)=r.rows[j].rows[i].e:=by simp[ai]
 rw[e1]at this;simpa[ai] using this
def assigns(n:Nat):List (ByteArray×ByteArray)->List (ByteArray×ByteArray->Int)
 | []=>[fun _=>0]
 | k::ks=>(assigns n ks).flatMap fun f=>(List.range n).map fun v=>fun y=>if y=k then ((v:Nat):Int) else f y
def zi{n:Nat}:∀{ks:List<|ByteArray×ByteArray} {f:Q00},f∈assigns n ks->∀k,0<=f k
 | [],f,h,k=>by simp only[assigns,WZ]at h;rw[h];exact Int.le_refl _
 | x::ks,f,h,k=>by
  simp only[assigns,Xd,WV]at h;obtain⟨g,hg,v,-,rfl⟩:=h;show 0<=(if k=x then ((v:Nat):Int) else g k);split
  ·omega
  exact zi hg k
def zk{n:Nat}(g:Q00):∀(ks:List<|ByteArray×ByteArray),(∀k∈ks,0<=g k/\g k<n)->∃f∈assigns n ks,∀k∈ks,f k=g k
 | [],_=>⟨fun _=>0,by simp[assigns],fun k hk=>by cases hk⟩
 | x::ks,h=>by
  obtain⟨f,hf,hfg⟩:=zk g ks fun k hk=>h k<|Xu _ hk;obtain⟨h0,h1⟩:=h x<|XH ..;refine⟨fun y=>if y=x then (((g x).toNat:Nat):Int) else f y,?_,fun k hk=>?_⟩
  ·simp only[assigns,Xd,WV];exact⟨f,hf,(g x).toNat,List.mem_range.2 cq,rfl⟩
  show(if k=x then (((g x).toNat:Nat):Int) else f k)=g k;by_cases e:k=x
  ·rw[if_pos e,e];omega
  rw[if_neg e];rcases Xc.1 hk with h2|h2
  ·exact absurd h2 e
  exact hfg k h2
def U9(ts:Q0b)(f:Q00):Bool:=(ay ts).all fun k=>(iW ts k).all fun d=>decide (f (d.typ,d.rel)+stepOf d<=f k)
def ME{ts:Q0b}{f:Q00}:U9 ts f=true ↔ ∀k∈ay ts,∀d∈iW ts k,f (d.typ,d.rel)+stepOf d<=f k:=by
 unfold U9;simp only[WT,WW]
def AY(ts:Q0b):List (ByteArray×ByteArray->Int):=(assigns (ay ts).length<|ay ts).filter<|U9 ts
def NI{ts:Q0b}{f:Q00}(h:f∈AY ts):Sol ts f:=by
 unfold AY at h;rw[XM]at h;exact⟨zi h.1,ME.1 h.2⟩
def Qh{ts:Q0b}{g:Q00}(hF:Found ts)(h:Sol ts g)(hb:∀k∈ay ts,g k+1<=(ay ts).length):∃f∈AY ts,∀k∈ay ts,f k=g k:=by
 obtain⟨f,hf,hfg⟩:=zk (n:=(ay ts).length) g (ay ts) fun k hk=>⟨h.pos k,by have:=hb k hk;omega⟩;refine⟨f,?_,hfg⟩;unfold AY;rw[XM];refine⟨hf,ME.2 fun k hk d hd=>?_⟩;rw[hfg k hk,hfg _<|hF k hk d hd];exact h.up k hk d hd
def aG(ts:Q0b):Bool:=bB ts&&iG ts && !(AY ts).isEmpty
def aM{ts:Q0b}:aG ts=true↔bZ ts:=by
 unfold aG bZ;simp only[WM,Bool.not_eq_true'];constructor
 ·rintro⟨⟨h1,h2⟩,h3⟩;refine⟨h1,h2,?_⟩;cases e:AY ts with
  | nil=>rw[e]at h3;cases h3
  | cons f fs=>exact⟨f,NI<|by rw[e];exact XH ..⟩
 rintro⟨h1,h2,f,hf⟩;refine⟨⟨h1,h2⟩,?_⟩;obtain⟨g,hg,hb⟩:=hf.few<|mU h2;obtain⟨f2,hf2,-⟩:=Qh (mU h2) hg hb;cases e:AY ts with
 | nil=>rw[e]at hf2;cases hf2
 | cons f fs=>rfl
def zl{ts:Q0b}(h:bZ ts):aG ts=true:=aM.2 h
def ed{ts:Q0b}(h:¬bZ ts):aG ts=false:=by
 cases e:aG ts;case false=>rfl
 exact absurd (aM.1 e) h
def own_below{w w':af}{base:Nat}{e:TypeId}{size:Nat}{v:Value}{n:Nat}{xs:Q03}(h:w.ownsRow base e size v n xs)(hB:ag w w'):w'.ownsRow base e size v n xs:=by
 have hg:w.grownBy w' none:=⟨hB.os,hB.tape,hB.output,hB.size,fun k hk _=>hB.block k hk⟩;cases ho:v.ownBlock with
 | none=>exact h.kept hg<|.inl ho
 | some g=>exact h.kept hg (.inr<|by rw[ho];simp)
def rC{w w':af}{v v':Value}{g o:Nat}{u:Value}(h:Aside w v w' v')(hg:cU g w)(hv:v.ownBlock≠some g)(hc:w.cell? (aq g o)=some u):w'.cell? (aq g o)=some u:=(h.cell (p:=⟨g,o,none⟩) hg hv).trans hc
def He(es:Q09)(m:Nat)(out:List Bool):(eQ es m out).length=out.length:=by
 induction m generalizing out with
 | zero=>rfl
 | succ m ih =>
  simp only[eQ];rw[ih];split
  ·rfl
  exact zg _ _ _ _ _
def Hf(es:Q09):(dH es).length=es.length:=by unfold dH;rw[He];simp
def Hg(ts:Q0b)(typ:bN)(rows:Q08)(k:Nat)(h:k<rows.length)(ng:Bool)(hn:ng=(dH<|ai rows).getD k false):aR ts typ (ai rows) (k+1)=(aR ts typ (ai rows) k++dw ng rows[k].e.allow)++lW ts typ ng rows[k].e:=by
 have e:(ai rows)[k]?=some rows[k].e:=by simp[ai,h]
 show aR ts typ (ai rows) k++iV ts typ (ai rows) k=_;unfold iV;rw[e,hn,Xg]
set_option maxRecDepth 100000 in
def Ke(ad X9:Q02)(cap capE:Nat)(rs:Q06)(typ:bN)(rows:Q08)(w:af)(hlen:bh rs)(hs:jX w ad rs)(hl:∀r∈rs,r.light)(hle:rows.length<=15)(hse:iw w X9 rows)(hlE:∀q∈rows,q.e.light)(hkE:∀q∈rows,fF rows.length q.e.kids)
    (hsm:∀k,(aR (ae rs) typ (ai rows) k).length<=100000000) :
    Calls prog 218 #[.slice ad rs.length cap,.string typ,.slice X9 rows.length capE] w fun e w'=>(∃v,e=.returned v/\cD w w' 294 3 v (qR (ae rs) typ<|ai rows).length (fC<|qR (ae rs) typ<|ai rows))/\ag w w':=by
  have HS:=aB hs;have HL:=aB hl;have HE:=aB hse;have Zp:=aB hlE;have HKE:=aB hkE;have HSM:O (∀k,(aR (ae rs) typ (ai rows) k).length<=100000000):=hsm;clear hs hl hse hlE hkE hsm;obtain⟨i0,hi,hz0,hz1,hz2⟩:=info_parts Qe;go_enter func218,ntmps218;go_wp2_with fail;have hbA:ag w (w.alloc<|.cells #[] 294):=(WL _ _).alloc (WK _) _;have hown1:(w.alloc<|.cells #[] 294).ownsRow w.heap.size 294 3 (.slice (some<|a7 w) 0 0) 0 []:=World.ownsRow_made w #[] 0 (WK _) cv rfl;refine(NA X9 capE rows _ cq (HE.below hbA) Zp HKE).mono ?_;rintro e w1 ⟨rfl,hF⟩;have Yu:O (cD w w1 294 3 (.slice (some<|a7 w) 0 0) 0 []):=own_below hown1 hF.below;have HB1:O (ag w w1):=hbA.trans<|hF.below.mono ct;have hgN:(w.alloc<|.cells #[] 294).heap.size=w.heap.size+1:=ct;rw[hgN]at hF ⊢;have hgl:=hF.lt;have HNG:O (∀(j:Nat) (h:j<rows.length),w1.cell? (aq (w.heap.size+1) j)=some (.bool<|(dH<|ai rows).getD j false)):=by
    intro j hj;have hn:j<(dH<|ai rows).length:=by rw[Hf,au];exact hj
    have:=hF.done j (by simpa[bools] using hn);rw[this];simp[bools,hn]
  clear hF hown1 hbA hgN;obtain⟨gN,hgN⟩:=eQx<|w.heap.size+1;rw[<-hgN]at hgl HNG ⊢;have hgne:w.heap.size<gN:=cq;clear hgN;go_wp2_with fail;go_loopw[7,9] (fun v i wr=>∃k:Nat,k<=rows.length/\i=.int .i64 k/\O (cD w wr 294 3 v (aR (ae rs) typ (ai rows) k).length<|fC<|aR (ae rs) typ (ai rows) k)/\O (ag w wr)/\O (Aside w1 (.slice (some<|a7 w) 0 0) wr v)) (fun _ i _=>rows.length-(intOf i).toNat);case atStart=>exact⟨0,WO _,rfl,Yu,HB1,Aside.refl _ _⟩
  obtain⟨k,hk,rfl,HOW,HB,HAS⟩:=hrel;by_cases hlt:k<rows.length
  · rcases HE.out.below HB.out with rfl|⟨b,off,rfl,hb,hr,hok⟩
    · simp at hlt
    obtain⟨t0,t1,t2,t3,t4⟩:=hr k hlt;have Yn:O (rows[k].ok w):=HE.mem<|WH hlt;have lg:=(Zp rows[k]<|WH hlt).1;have hk1:=bY k;have hk2:(k:Int)<(rows.length:Int):=cq;have c0:ac wr gN k (.bool<|(dH<|ai rows).getD k false):=(HAS.cell (p:=⟨gN,k,none⟩) hgl<|by simp[Value.ownBlock];omega).trans (HNG k hlt);clear hr hok;obtain⟨ng,hng⟩:=eQx<|(dH<|ai rows).getD k false;rw[<-hng]at c0;have HNK:O (ng=(dH<|ai rows).getD k false):=hng;clear hng;obtain⟨W1,hW1⟩:=eQx<|wr.alloc<|.cells (ce rows[k]) 43;have hal:ag wr W1:=by rw[hW1];exact(WL _ _).alloc (WK _) _
    have Yq:=aB hal;have Yg:=iD HB hal;have ZU:wr.heap.size<W1.heap.size:=by rw[hW1];simp
    have g0:W1.cell? (a7 wr)=some (.int .i64 rows[k].e.kind):=by rw[hW1];simp
    have g1:W1.cell? (a8 wr 1)=some (.slice rows[k].adA rows[k].e.allow.length rows[k].capA):=by rw[hW1];simp
    have g2:W1.cell? (a8 wr 2)=some (.string rows[k].e.over):=by rw[hW1];simp
    have g3:W1.cell? (a8 wr 3)=some (.string rows[k].e.name):=by rw[hW1];simp
    have hgr:cU gN wr:=WJ hgl HAS.size;have gn:=aD hal hgr c0;have HOW1:O (cD w W1 294 3 u7 (aR (ae rs) typ (ai rows) k).length<|fC<|aR (ae rs) typ (ai rows) k):=own_below HOW hal;have HV1:O (u7.ownBlock≠some gN):=HAS.apart hgl (by simp[Value.ownBlock];omega);have HV2:O (u7.ownBlock≠some wr.heap.size):=fun e=>by have:=(HOW.lt _ e).2;omega
    clear hal c0;go_wp2_with fail;rw[<-hW1];clear hW1 t0 t1 t2 t3 t4;obtain⟨wo,hwo⟩:=eQx wr;subst hwo;go_loopw[7,11] (fun v i w2=>∃j:Nat,j<=rows[k].e.allow.length/\i=.int .i64 j/\O (cD w w2 294 3 v ((aR (ae rs) typ (ai rows) k).length+(dw ng<|rows[k].e.allow.take j).length)<|fC<|aR (ae rs) typ (ai rows) k++dw ng (rows[k].e.allow.take j))/\O (ag w w2)/\O (Aside W1 u7 w2 v)) (fun _ i _=>rows[k].e.allow.length-(intOf i).toNat);case atStart=>exact⟨0,WO _,rfl,(by simpa[dw,O] using HOW1),Yg,Aside.refl _ _⟩
    obtain⟨j,hj,rfl,Yk,HB2,HA2⟩:=hrel;have d0:=rC HA2 ZU HV2 g0;have d1:=rC HA2 ZU HV2 g1;have d2:=rC HA2 ZU HV2 g2;have d3:=rC HA2 ZU HV2 g3;have dn:=rC HA2 (Nat.lt_trans hgr ZU) HV1 gn;clear g0 g1 g2 g3 gn;by_cases hjl:j<rows[k].e.allow.length
    · have hA3:=(Yn.1).below HB2;have hA4:=Yn.1;rcases hA4 with hnil|⟨ba,ZQ,ZR,hba,-⟩
      · rw[hnil]at hjl;simp at hjl
      rcases hA3 with hnil|⟨ba',offa',hadA',-,hra⟩
      · rw[hnil]at hjl;simp at hjl
      rw[ZR]at hadA' d1;injection hadA' with hadA';injection hadA' with e1 e2;subst e1;subst e2;obtain⟨q0,q1⟩:=hra j hjl;have hj1:=bY j;have hj2:(j:Int)<(rows[k].e.allow.length:Int):=cq;clear hra ZR;cases he:rows[k].e.allow[j].s.toList.isEmpty;case true=>
        have HE2:O (dw ng (rows[k].e.allow.take<|j+1)=dw ng (rows[k].e.allow.take j)):=Qd _ _ _ hjl he;go_wp2;go_roundw;case rel=>exact⟨j+1,cq,cx,by rw[HE2];exact Yk,HB2,HA2⟩
        simp[intOf]<;>omega
      have HE2:O (dw ng (rows[k].e.allow.take<|j+1)=dw ng (rows[k].e.allow.take j)++[⟨rows[k].e.allow[j].t,rows[k].e.allow[j].s,ng⟩]):=NC _ _ _ hjl he;have a1:u7.ownBlock≠some wo.heap.size:=HA2.apart ZU HV2;have a2:u7.ownBlock≠some gN:=HA2.apart (Nat.lt_trans hgr ZU) HV1;have a3:u7.ownBlock≠some ba:=fun e=>by have:=(Yk.lt _ e).1;omega
      have l1:cW wo wr:=WJ ZU HA2.size;have l2:cU gN wr:=Nat.lt_trans hgr l1;have l3:cU ba wr:=WJ hba HB2.size;have l4:cV w wr:=HB2.size;obtain⟨xs,hxs⟩:=eQx<|fC<|aR (ae rs) typ (ai rows) k++dw ng (rows[k].e.allow.take j);obtain⟨n,hn⟩:=eQx<|(aR (ae rs) typ (ai rows) k).length+(dw ng<|rows[k].e.allow.take j).length;have hnl:n<=101048576:=by
        have h1:=HSM k;have h2:=D5 ng<|rows[k].e.allow.take j;rw[XC]at h2;omega
      have hown:=Yk.out;rw[<-hxs,<-hn]at hown;have ZO:O (fC (aR (ae rs) typ (ai rows) k++dw ng (rows[k].e.allow.take<|j+1))=xs++[.string rows[k].e.allow[j].t,.string rows[k].e.allow[j].s,.bool ng]):=by
        show _=_;rw[HE2,<-Xg,uM,<-hxs];rfl
      have HNN:O ((aR (ae rs) typ (ai rows) k).length+(dw ng<|rows[k].e.allow.take<|j+1).length=n+1):=by
        show _=_;rw[HE2,hn];simp;omega
      clear Yk hxs hn;go_wp2_with fail
      go_region_held3 (fun w'=>w'.cell? (a8 wo 1)=some (.slice (some<|aq ba ZQ) rows[k].e.allow.length rows[k].capA)/\w'.cell? (aq ba<|ZQ+j*2)=some (.string rows[k].e.allow[j].t) /\
          w'.cell? (aq ba<|ZQ+j*2+1)=some (.string rows[k].e.allow[j].s)/\w'.cell? (aq gN k)=some (.bool ng))
        (first
          | go_keep
          | (go_split_ands
             refine⟨?_,?_,?_,?_⟩
             · (rw[hgrow.cell_far _ (by simp;omega) (Ne.symm a1)];assumption)
             · (rw[hgrow.cell_far _ (by simp;omega) (Ne.symm a3)];assumption)
             · (rw[hgrow.cell_far _ (by simp;omega) (Ne.symm a3)];assumption)
             · (rw[hgrow.cell_far _ (by simp;omega) (Ne.symm a2)];assumption)))
        ((refine step_append_lies _ (by rfl) _ _ _ (by rfl) w.heap.size 294 i0 _ 3 40 underlying290 hi hz0 hz1 hz2 rfl cq u7 n xs (by rfl) ((hown.alloc _).drew)
            ⟨wr.heap.size,0,none⟩ 1 1 [.string rows[k].e.allow[j].t,.string rows[k].e.allow[j].s,.bool ng] (by rfl) (by rfl) (World.news_of_block (cs:=#[.string rows[k].e.allow[j].t,.string rows[k].e.allow[j].s,.bool ng]) (t:=294) (fr:=(0,0))<|heap_alloc_new wr _) (by simp[Value.oneCell'])
            cq cy cq (by simp;omega) (wr.heap.size+1) ct ?_;intro gg cp w5 hown5 hgrow hat hlt5))
      have hb5:O (ag w w5):=((HB2.alloc HB2.size _).drew).grown hgrow (by simp;omega) (fun i hi=>(hown.lt i hi).1);have hAx:Aside wr u7 w5 (.slice (some<|am gg) (n+1) cp):=(Aside.below<|((WL _ _).alloc (WK _) _).drew).trans (Aside.app hgrow (by
        rcases hat with e|e
        · left;rw[e];rfl
        · right;rw[e];simp[Value.ownBlock]))
      have HA5:=HA2.trans hAx;have HA5':O (Aside W1 _ w5<|.slice (some<|am gg) (n+1) cp):=HA5;have Yi:O (cD w w5 294 3 (.slice (some<|am gg) (n+1) cp) ((aR (ae rs) typ (ai rows) k).length+(dw ng<|rows[k].e.allow.take<|j+1).length)<|fC<|aR (ae rs) typ (ai rows) k++dw ng (rows[k].e.allow.take<|j+1)):=by
        show World.ownsRow _ _ _ _ _ _ _;rw[ZO,HNN];exact hown5
      clear hown5 hgrow hat hAx HA5 hown;go_wp2;go_roundw;case rel=>exact⟨j+1,cq,cx,Yi,hb5,HA5'⟩
      simp[intOf]<;>omega
    · obtain rfl:j=rows[k].e.allow.length:=cq
      have a1:u7.ownBlock≠some wo.heap.size:=HA2.apart ZU HV2;have a2:u7.ownBlock≠some gN:=HA2.apart (Nat.lt_trans hgr ZU) HV1;have l1:cW wo wr:=WJ ZU HA2.size;have l2:cU gN wr:=Nat.lt_trans hgr l1;have l4:cV w wr:=HB2.size;have HUS:=Hg (ae rs) typ rows k hlt ng HNK;obtain⟨D,hD⟩:=eQx<|aR (ae rs) typ (ai rows) k++dw ng rows[k].e.allow;have hown:cD w wr 294 3 u7 D.length (fC D):=by
        have:=Yk.out;rw[Xa,<-hD,<-WP,<-hD]at this;exact this
      rw[<-hD]at HUS;have hnl:D.length<=100000000:=by
        have h1:=HSM<|k+1;rw[HUS,WP]at h1;omega
      have HUP:O (aR (ae rs) typ (ai rows) (k+1)=D++lW (ae rs) typ ng rows[k].e):=HUS;have HAW:O (Aside w1 (.slice (some<|a7 w) 0 0) wr u7):=(HAS.trans<|Aside.below Yq).trans HA2;clear Yk HUS hD;by_cases h2:rows[k].e.kind=2
      · have ZO:O (aR (ae rs) typ (ai rows) (k+1)=D++[⟨typ,rows[k].e.name,ng⟩]):=by show _=_;rw[HUP];simp[lW,h2]
        obtain⟨xs,hxs⟩:=eQx<|fC D;obtain⟨n,hn⟩:=eQx D.length;rw[<-hxs,<-hn]at hown;rw[<-hn]at hnl;have HFX:O (fC (aR (ae rs) typ (ai rows)<|k+1)=xs++[.string typ,.string rows[k].e.name,.bool ng]):=by
          show _=_;rw[ZO,uM,<-hxs];rfl
        have HNN:O ((aR (ae rs) typ (ai rows)<|k+1).length=n+1):=by show _=_;rw[ZO,hn];simp
        clear hxs hn;go_wp2_with fail
        go_region_held3 (fun w'=>w'.cell? (a8 wo 3)=some (.string rows[k].e.name)/\w'.cell? (aq gN k)=some (.bool ng))
          (first
            | go_keep
            | (go_split_ands
               refine⟨?_,?_⟩
               · (rw[hgrow.cell_far _ (by simp;omega) (Ne.symm a1)];assumption)
               · (rw[hgrow.cell_far _ (by simp;omega) (Ne.symm a2)];assumption)))
          ((refine step_append_lies _ (by rfl) _ _ _ (by rfl) w.heap.size 294 i0 _ 3 40 underlying290 hi hz0 hz1 hz2 rfl cq u7 n xs (by rfl) ((hown.alloc _).drew)
              ⟨wr.heap.size,0,none⟩ 1 1 [.string typ,.string rows[k].e.name,.bool ng] (by rfl) (by rfl) (World.news_of_block (cs:=#[.string typ,.string rows[k].e.name,.bool ng]) (t:=294) (fr:=(0,0))<|heap_alloc_new wr _) (by simp[Value.oneCell'])
              cq cy cq (by simp;omega) (wr.heap.size+1) ct ?_;intro gg cp w5 hown5 hgrow hat hlt5))
        have hb5:O (ag w w5):=((HB2.alloc HB2.size _).drew).grown hgrow (by simp;omega) (fun i hi=>(hown.lt i hi).1);have hAx:Aside wr u7 w5 (.slice (some<|am gg) (n+1) cp):=(Aside.below<|((WL _ _).alloc (WK _) _).drew).trans (Aside.app hgrow (by
          rcases hat with e|e
          · left;rw[e];rfl
          · right;rw[e];simp[Value.ownBlock]))
        have f0:=rC hAx l1 a1 d0;have HA5:O (Aside w1 (.slice (some<|a7 w) 0 0) w5<|.slice (some<|am gg) (n+1) cp):=HAW.trans hAx;have Yi:O (cD w w5 294 3 (.slice (some<|am gg) (n+1) cp) (aR (ae rs) typ (ai rows)<|k+1).length<|fC<|aR (ae rs) typ (ai rows)<|k+1):=by
          show World.ownsRow _ _ _ _ _ _ _;rw[HFX,HNN];exact hown5
        clear hown5 hgrow hat hAx hown d0 d1 d2 d3 dn;go_wp2;go_roundw;case rel=>exact⟨k+1,cq,cx,Yi,hb5,HA5⟩
        simp[intOf]<;>omega
      by_cases h3:rows[k].e.kind=3
      · go_wp2_with fail;refine(za ad cap rs _ _ _ _ hlen (HS.below HB2) HL).mono ?_;rintro e w4 ⟨⟨ad4,cap4,rfl,hs4,hn4⟩,hb4⟩;have HXG:O (aR (ae rs) typ (ai rows) (k+1)=D++(iN (ae rs) typ rows[k].e.over rows[k].e.name).map fun g=>(⟨g,rows[k].e.name,ng⟩:Dp)):=by show _=_;rw[HUP];simp[lW,h3]
        generalize iN (ae rs) typ rows[k].e.over rows[k].e.name=gs at *
        have hgs:D.length+gs.length<=100000000:=by
          have h1:=HSM<|k+1;rw[HXG,WP,Xv]at h1;exact h1
        have f3:=aD hb4 l1 d3;have fn:=aD hb4 l2 dn;have YG:O (cD w w4 294 3 u7 D.length<|fC D):=own_below hown hb4;have YF:=iD HB2 hb4;have HA4:O (Aside w1 (.slice (some<|a7 w) 0 0) w4 u7):=HAW.trans<|Aside.below hb4;have HSG:=aB hs4;have HVG:O (∀p,ad4=some p->u7.ownBlock≠some p.block):=fun p hp e=>by have h1:=(hown.lt _ e).2;have h2:=hn4 p hp;omega
        have m1:cW wo w4:=WJ l1 hb4.size;have m2:cU gN w4:=WJ l2 hb4.size;have m4:cV w w4:=YF.size;clear hown hb4 hs4 hn4 d0 d1 d2 d3 dn l1 l2 l4;obtain⟨uo,huo⟩:=eQx u7;subst huo;go_wp2_with fail;go_loopw[7,13] (fun v i w6=>∃m:Nat,m<=gs.length/\i=.int .i64 m/\O (cD w w6 294 3 v (D.length+m)<|fC<|D++(gs.take m).map fun g=>(⟨g,rows[k].e.name,ng⟩:Dp))/\O (ag w w6)/\O (Aside w4 uo w6 v)) (fun _ i _=>gs.length-(intOf i).toNat);case atStart=>exact⟨0,WO _,rfl,(by simpa[O] using YG),YF,Aside.refl _ _⟩
        obtain⟨m,hm,rfl,Zt,HB6,HA6⟩:=hrel;have x3:=rC HA6 m1 a1 f3;have xn:=rC HA6 m2 a2 fn;by_cases Yv:m<gs.length
        · rcases HSG.out with rfl|⟨bg,offg,rfl,hbg,hrg⟩
          · simp at Yv
          have q0:=rC HA6 hbg (HVG _ rfl) (hrg m Yv);have hm1:=bY m;have hm2:(m:Int)<(gs.length:Int):=cq;have b1:u7.ownBlock≠some wo.heap.size:=HA6.apart m1 a1;have b2:u7.ownBlock≠some gN:=HA6.apart m2 a2;have b3:u7.ownBlock≠some bg:=HA6.apart hbg<|HVG _ rfl;have l1:cW wo wr:=WJ m1 HA6.size;have l2:cU gN wr:=WJ m2 HA6.size;have l3:cU bg wr:=WJ hbg HA6.size;have l4:cV w wr:=HB6.size;obtain⟨xs,hxs⟩:=eQx<|fC<|D++(gs.take m).map fun g=>(⟨g,rows[k].e.name,ng⟩:Dp);obtain⟨n,hn⟩:=eQx<|D.length+m;have hown:=Zt.out;rw[<-hxs,<-hn]at hown;have HFX:O (fC (D++(gs.take<|m+1).map fun g=>(⟨g,rows[k].e.name,ng⟩:Dp))=xs++[.string gs[m],.string rows[k].e.name,.bool ng]):=by
            show _=_;rw[WN Yv,Xy,<-Xg,List.map_singleton,uM,<-hxs];rfl
          have HNN:O (D.length+(m+1)=n+1):=by show _=_;omega
          have hnl2:n<=100000000:=cq;have hgb:gs.length<=100000000:=cq;clear Zt hxs hn hrg hnl hgs;go_wp2_with fail
          go_region_held3 (fun w'=>w'.cell? (a8 wo 3)=some (.string rows[k].e.name)/\w'.cell? (aq gN k)=some (.bool ng)/\w'.cell? (aq bg<|offg+m)=some (.string gs[m]))
            (first
              | go_keep
              | (go_split_ands
                 refine⟨?_,?_,?_⟩
                 · (rw[hgrow.cell_far _ (by simp;omega) (Ne.symm b1)];assumption)
                 · (rw[hgrow.cell_far _ (by simp;omega) (Ne.symm b2)];assumption)
                 · (rw[hgrow.cell_far _ (by simp;omega) (Ne.symm b3)];assumption)))
            ((refine step_append_lies _ (by rfl) _ _ _ (by rfl) w.heap.size 294 i0 _ 3 40 underlying290 hi hz0 hz1 hz2 rfl cq u7 n xs (by rfl) ((hown.alloc _).drew)
                ⟨wr.heap.size,0,none⟩ 1 1 [.string gs[m],.string rows[k].e.name,.bool ng] (by rfl) (by rfl) (World.news_of_block (cs:=#[.string gs[m],.string rows[k].e.name,.bool ng]) (t:=294) (fr:=(0,0))<|heap_alloc_new wr _) (by simp[Value.oneCell'])
                cq cy cq (by simp;omega) (wr.heap.size+1) ct ?_;intro gg cp w5 hown5 hgrow hat hlt5))
          have hb5:O (ag w w5):=((HB6.alloc HB6.size _).drew).grown hgrow (by simp;omega) (fun i hi=>(hown.lt i hi).1);have hAx:Aside wr u7 w5 (.slice (some<|am gg) (n+1) cp):=(Aside.below<|((WL _ _).alloc (WK _) _).drew).trans (Aside.app hgrow (by
            rcases hat with e|e
            · left;rw[e];rfl
            · right;rw[e];simp[Value.ownBlock]))
          have HA5:O (Aside w4 uo w5<|.slice (some<|am gg) (n+1) cp):=HA6.trans hAx;have Yi:O (cD w w5 294 3 (.slice (some<|am gg) (n+1) cp) (D.length+(m+1))<|fC<|D++(gs.take<|m+1).map fun g=>(⟨g,rows[k].e.name,ng⟩:Dp)):=by
            show World.ownsRow _ _ _ _ _ _ _;rw[HFX,HNN];exact hown5
          clear hown5 hgrow hat hAx hown;go_wp2;go_roundw;case rel=>exact⟨m+1,cq,cx,Yi,hb5,HA5⟩
          simp[intOf]<;>omega
        · obtain rfl:m=gs.length:=cq
          have Yi:O (cD w wr 294 3 u7 (aR (ae rs) typ (ai rows)<|k+1).length<|fC<|aR (ae rs) typ (ai rows)<|k+1):=by
            have:=Zt.out;show World.ownsRow _ _ _ _ _ _ _;rw[Xa]at this;rw[HXG,WP,Xv];exact this
          have HA5:O (Aside w1 (.slice (some<|a7 w) 0 0) wr u7):=HA4.trans HA6;clear Zt;go_wp2;go_roundw;case rel=>exact⟨k+1,cq,cx,Yi,HB6,HA5⟩
          simp[intOf]<;>omega
      · have ZO:O (aR (ae rs) typ (ai rows) (k+1)=D):=by show _=_;rw[HUP];simp[lW,h2,h3]
        have hb2:(rows[k].e.kind==2)=false:=by simpa using h2
        have hb3:(rows[k].e.kind==3)=false:=by simpa using h3
        have Yi:O (cD w wr 294 3 u7 (aR (ae rs) typ (ai rows)<|k+1).length<|fC<|aR (ae rs) typ (ai rows)<|k+1):=by
          show World.ownsRow _ _ _ _ _ _ _;rw[ZO];exact hown
        clear hown;go_wp2;go_roundw;case rel=>exact⟨k+1,cq,cx,Yi,HB2,HAW⟩
        simp[intOf]<;>omega
  · obtain rfl:k=rows.length:=cq
    have HFI:O (cD w wr 294 3 u7 (qR (ae rs) typ<|ai rows).length<|fC<|qR (ae rs) typ<|ai rows):=by
      have:=HOW.out;show World.ownsRow _ _ _ _ _ _ _;unfold qR;rw[au];exact this
    clear HOW;go_wp2;go_ret;exact⟨⟨_,rfl,HFI⟩,HB⟩
def St.cells(s:St):List Value:=[.string s.typ,.string s.rel,.int .i64 s.n]
def ji:List St->List Value
 | []=>[]
 | s::xs=>s.cells++ji xs
def FN(xs ys:List St):ji (xs++ys)=ji xs++ji ys:=by
 induction xs with
 | nil=>rfl
 | cons d ds ih=>simp[ji,ih]
def AZ(xs:List St)(d:St):ji (xs++[d])=ji xs++d.cells:=by rw[FN];simp[ji]
def mo(xs:List St)(i:Nat)(h:i<xs.length)(o:Nat)(ho:o<3):(ji xs)[i*3+o]?=(xs[i].cells)[o]?:=by
 induction xs generalizing i with
 | nil=>simp at h
 | cons s xs ih =>
  cases i with
  | zero =>
   simp only[ji,Nat.zero_mul,Xl,List.getElem_cons_zero];rw[XD (by simp[St.cells];omega)]
  | succ i =>
   simp only[ji,List.getElem_cons_succ];rw[Xx (by simp[St.cells];omega)];have e:(i+1)*3+o-s.cells.length=i*3+o:=by simp[St.cells];omega
   rw[e];exact ih i (by simpa using h)
def xW(xs:List Dp)(i:Nat)(h:i<xs.length)(o:Nat)(ho:o<3):(fC xs)[i*3+o]?=(xs[i].cells)[o]?:=by
 induction xs generalizing i with
 | nil=>simp at h
 | cons s xs ih =>
  cases i with
  | zero =>
   simp only[fC,Nat.zero_mul,Xl,List.getElem_cons_zero];rw[XD (by simp[Dp.cells];omega)]
  | succ i =>
   simp only[fC,List.getElem_cons_succ];rw[Xx (by simp[Dp.cells];omega)];have e:(i+1)*3+o-s.cells.length=i*3+o:=by simp[Dp.cells];omega
   rw[e];exact ih i (by simpa using h)
def Hl(g j:Nat):(⟨g,0,none⟩:Addr).add j=⟨g,j,none⟩:=by
 unfold Addr.add;by_cases hj:j=0
 ·subst hj;simp
 simp[hj]
def Tg{w:af}{base:Nat}{t:TypeId}{v:Value}{n:Nat}{xs:Q03}(h:w.ownsRow base t 3 v n xs):∃ad cp,v=.slice ad n cp/\(n=0 \/ ∃g,ad=some (am g)/\base<=g/\g<w.heap.size/\∀(j:Nat) (u:Value),xs[j]?=some u->w.cell? (aq g j)=some u):=by
 have h2:=h;rcases h.2 with⟨rfl,h0⟩|⟨g,cp,cur,rfl,hbg,hg,hnc,-⟩
 ·exact⟨none,0,by rw[h0],.inl h0⟩
 have hlt:=h2.lt g rfl;refine⟨_,cp,rfl,.inr ⟨g,rfl,hlt.1,hlt.2,fun j u hu=>?_⟩⟩;have:=h2.cells (g:=g) rfl j u hu;rwa [Hl]at this
def AtD(w:World)(b off:Nat)(d:Dp):Prop:=w.cell? ⟨b,off,none⟩=some (.string d.typ)/\w.cell? ⟨b,off+1,none⟩=some (.string d.rel)/\w.cell? ⟨b,off+2,none⟩=some (.bool d.neg)
def UL(w:World)(lo:Nat)(ad:Q02)(xs:List Dp):Prop:=xs=[] \/ ∃b,ad=some ⟨b,0,none⟩/\lo<=b/\b<w.heap.size/\∀(i:Nat) (h:i<xs.length),AtD w b (i*3) xs[i]
def VT{w:af}{base:Nat}{v:Value}{xs:List Dp}(h:w.ownsRow base 294 3 v xs.length<|fC xs):∃ad cp,v=.slice ad xs.length cp/\UL w base ad xs:=by
 obtain⟨ad,cp,e,h0⟩:=Tg h;refine⟨ad,cp,e,?_⟩;rcases h0 with h0|⟨g,e1,hb,hg,hc⟩
 ·exact .inl<|Xb.1 h0
 refine .inr ⟨g,e1,hb,hg,fun i hi=>⟨?_,?_,?_⟩⟩
 ·exact hc _ _ (by have:=xW xs i hi 0 cq;simpa[Dp.cells] using this)
 ·exact hc _ _ (by have:=xW xs i hi 1 cq;simpa[Dp.cells] using this)
 exact hc _ _ (by have:=xW xs i hi 2 cq;simpa[Dp.cells] using this)
def Wv(w:World)(g:Nat)(xs:List St):Prop:=∀(i:Nat) (h:i<xs.length),VS w g (i*3) xs[i]
def VU{w:af}{base:Nat}{v:Value}{xs:List St}(h:w.ownsRow base 212 3 v xs.length<|ji xs):∃ad cp,v=.slice ad xs.length cp/\(xs.length=0 \/ ∃g,ad=some (am g)/\base<=g/\g<w.heap.size/\Wv w g xs):=by
 obtain⟨ad,cp,e,h0⟩:=Tg h;refine⟨ad,cp,e,?_⟩;rcases h0 with h0|⟨g,e1,hb,hg,hc⟩
 ·exact .inl h0
 refine .inr ⟨g,e1,hb,hg,fun i hi=>⟨?_,?_,?_⟩⟩
 ·exact hc _ _ (by have:=mo xs i hi 0 cq;simpa[St.cells] using this)
 ·exact hc _ _ (by have:=mo xs i hi 1 cq;simpa[St.cells] using this)
 exact hc _ _ (by have:=mo xs i hi 2 cq;simpa[St.cells] using this)
def Ti:(prog.info? 212).map (fun i=>(i.zero,i.size,i.bytes))=some (some<|.agg #[.string ⟨#[]⟩,.string ⟨#[]⟩,.int .i64 0],3,40):=cw
def Hm(ks:List<|ByteArray×ByteArray):List St:=ks.map fun k=>⟨k.1,k.2,0⟩
def FO(ks:List<|ByteArray×ByteArray):(Hm ks).length=ks.length:=by simp[Hm]
def Qi(ks:List<|ByteArray×ByteArray)(k:Q01):Hm (ks++[k])=Hm ks++[⟨k.1,k.2,0⟩]:=by simp[Hm]
def dI(rs:Q06)(k:Nat):List (ByteArray×ByteArray):=ay<|ae<|rs.take k
def jy(t:TR)(j:Nat):List (ByteArray×ByteArray):=(t.rows.take j).map fun q=>(t.name,q.name)
def qh(rs:Q06)(k:Nat)(h:k<rs.length):dI rs (k+1)=dI rs k++jy rs[k] rs[k].rows.length:=by
 unfold dI jy;rw[WN h,Xa];unfold ae ay;rw[Xy,XP,List.map_singleton,List.flatMap_singleton];congr 1;simp[kH,TR.p,df,RR.p]
def uQ(t:TR)(j:Nat)(h:j<t.rows.length):jy t (j+1)=jy t j++[(t.name,t.rows[j].name)]:=by
 unfold jy;rw[WN h,Xy];rfl
def D8(t:TR)(j:Nat):(jy t j).length<=t.rows.length:=by unfold jy;simp;omega
def xX(rs:Q06)(hr:∀r∈rs,r.rows.length<=6)(k:Nat):(dI rs k).length<=k*6:=by
 induction k with
 | zero=>simp[dI,ae,ay]
 | succ k ih =>
  by_cases h:k<rs.length
  ·rw[qh _ _ h,WP];have h1:=D8 rs[k] rs[k].rows.length;have h2:=hr rs[k]<|WH h;omega
  have e:rs.take (k+1)=rs.take k:=by rw[Xn cq,Xn cq]
  unfold dI at ih⊢;rw[e];omega
end Go.Proofs.YtojjoblnpldniaaGreat
namespace Go.Proofs.YtojjoblnpldniaaGreat.Pl
def gV{a b:ByteArray}(h:a=b):Ending.returned (.string a)=.returned (.string b):=by rw[h]
def MF{s:ByteArray}(h:oK s=true):1<=s.size/\s.size<=12:=by simpa[oK] using h
def o6{s:ByteArray}(h:aS s=true):1<=s.size/\s.size<=12:=by
 simp[aS,dZ]at h;exact MF h.1.1
def Qj{s:ByteArray}(h:qO s=true):1<=s.size/\s.size<=12:=by
 simp[qO,dZ]at h;exact MF h.1
def Ah{t i:ByteArray}(h:fJ t i=true):t.size<=12/\i.size<=12:=by
 simp[fJ]at h;exact⟨(o6 h.1).2,(Qj h.2).2⟩
def aH(t i:ByteArray):ByteArray:=if fJ t i then t++⟨#[58]⟩++i else ⟨#[]⟩
def nV{t i:ByteArray}(h:fJ t i=true):aH t i=t++⟨#[58]⟩++i:=by simp[aH,h]
def uR{t i:ByteArray}(h:fJ t i=false):aH t i=⟨#[]⟩:=by simp[aH,h]
def je(t i:bN):(aH t i).size<=25:=by
 unfold aH;split
 ·rename_i h;have h2:=Ah h;have e1:(ByteArray.mk #[58]).size=1:=rfl;rw[WY,WY,e1];omega
 exact WO _
def wE(s:ByteArray):Bool:=s.toList.isEmpty || aS s
def bW(a b r c d s:ByteArray):Bool:=fJ a b&&aS r&&fJ c d&&wE s
def bi(a b r c d s:ByteArray):ByteArray :=
 if bW a b r c d s then
  (if s.toList.isEmpty then aH a b++⟨#[35]⟩++r++⟨#[64]⟩++aH c d else aH a b++⟨#[35]⟩++r++⟨#[64]⟩++aH c d++⟨#[35]⟩++s)
 else ⟨#[]⟩
def uS{a b r c d s:ByteArray}(h:bW a b r c d s=false):bi a b r c d s=⟨#[]⟩:=by simp[bi,h]
def nW{a b r c d s:ByteArray}(h:bW a b r c d s=true)(hs:s.toList.isEmpty=true):bi a b r c d s=aH a b++⟨#[35]⟩++r++⟨#[64]⟩++aH c d:=by simp[bi,h,hs]
def nX{a b r c d s:ByteArray}(h:bW a b r c d s=true)(hs:s.toList.isEmpty=false):bi a b r c d s=aH a b++⟨#[35]⟩++r++⟨#[64]⟩++aH c d++⟨#[35]⟩++s:=by simp[bi,h,hs]
def A7{a b r c d s:ByteArray}(h:fJ a b=false):bW a b r c d s=false:=by simp[bW,h]
def A8{a b r c d s:ByteArray}(h:aS r=false):bW a b r c d s=false:=by simp[bW,h]
def A9{a b r c d s:ByteArray}(h:fJ c d=false):bW a b r c d s=false:=by simp[bW,h]
def Ba{a b r c d s:ByteArray}(h1:fJ a b=true)(h2:aS r=true)(h3:fJ c d=true):bW a b r c d s=wE s:=by simp[bW,h1,h2,h3]
def kM{a b r c d s:ByteArray}(h:bW a b r c d s=true):fJ a b=true/\aS r=true/\fJ c d=true/\wE s=true:=by
 simp[bW]at h;exact⟨h.1.1.1,h.1.1.2,h.1.2,h.2⟩
def Bb{s:ByteArray}(h:s.toList.isEmpty=true):s.size=0:=by
 rw[Go.ByteArray.toList_eq]at h;have h2:s.data.toList=[]:=by simpa using h
 have h3:s.data.toList.length=0:=by rw[h2];rfl
 simpa using h3
def FP{s:ByteArray}(h:wE s=true):s.size<=12:=by
 simp only[wE,Bool.or_eq_true]at h;rcases h with h|h
 ·have:=Bb h;omega
 exact(o6 h).2
def jA(c:UInt8):List UInt8->List UInt8×List UInt8×Bool
 | []=>([],[],false)
 | b::l=>if b=c then ([],l,true) else (b::(jA c l).1,(jA c l).2.1,(jA c l).2.2)
def Tj{c:UInt8}{l:List UInt8}{k:Nat}(hk:k<l.length)(hn:∀x∈l.take k,x≠c)(hc:l[k]=c):jA c l=(l.take k,l.drop<|k+1,true):=by
 induction l generalizing k with
 | nil=>simp at hk
 | cons b l ih =>
  cases k with
  | zero=>simp at hc;simp[jA,hc]
  | succ k =>
   have hb:b≠c:=hn b ct;have:=ih (k:=k) (by simpa using hk) (fun x hx=>hn x<|by simp[hx]) (by simpa using hc);simp[jA,hb,this]
def sO{c:UInt8}{l:List UInt8}(hn:∀x∈l,x≠c):jA c l=(l,[],false):=by
 induction l with
 | nil=>rfl
 | cons b l ih =>
  have hb:b≠c:=hn b ct;have:=ih (fun x hx=>hn x<|by simp[hx]);simp[jA,hb,this]
def Ho(c:UInt8)(l:List UInt8):(jA c l).1.length<=l.length/\(jA c l).2.1.length<=l.length:=by
 induction l with
 | nil=>simp[jA]
 | cons b l ih =>
  unfold jA;split
  ·simp
  simp;omega
def lm(c:UInt8)(s:ByteArray):ByteArray:=⟨(jA c s.data.toList).1.toArray⟩
def jo(c:UInt8)(s:ByteArray):ByteArray:=⟨(jA c s.data.toList).2.1.toArray⟩
def qi(c:UInt8)(s:ByteArray):Bool:=(jA c s.data.toList).2.2
theorem D9(l:List UInt8):(ByteArray.mk l.toArray).size=l.length:=rfl
def Tk(c:UInt8)(s:bN):(lm c s).size<=s.size:=by
 unfold lm;rw[D9];exact(Ho c s.data.toList).1
def MG(c:UInt8)(s:bN):(jo c s).size<=s.size:=by
 unfold jo;rw[D9];exact(Ho c s.data.toList).2
def ik{a b:ByteArray}(h:a.data.toList=b.data.toList):a=b:=by
 cases a;cases b;simp at h;simp[h]
def Va(c:UInt8)(s:ByteArray)(k:Nat):Prop:=∀x∈s.data.toList.take k,x≠c
def Qk(c:UInt8)(s:bN):Va c s 0:=by intro x hx;simp at hx
def Ql{c:UInt8}{s:ByteArray}{k:Nat}(h:k<s.size)(hn:Va c s k)(hc:s[k]≠c):Va c s (k+1):=by
 intro x hx;rw[DR s k h]at hx;simp at hx;rcases hx with hx|hx
 ·exact hn x (by simpa using hx)
 subst hx;exact hc
def Vb{c:UInt8}{s:ByteArray}{k:Nat}(h:k<s.size)(hn:Va c s k)(hc:s[k]=c):jA c s.data.toList=(s.data.toList.take k,s.data.toList.drop<|k+1,true) :=
 Tj (by simpa using h) hn (by simpa[ByteArray.getElem_eq_getElem_data] using hc)
def Qm{c:UInt8}{s:ByteArray}{k:Nat}(h:s.size<=k)(hn:Va c s k):jA c s.data.toList=(s.data.toList,[],false) :=
 sO (fun x hx=>hn x<|by rw[Xn (by simpa using h)];exact hx)
def VM(s:ByteArray):Bool:=fJ (lm 58 s)<|jo 58 s
def Wy(s:ByteArray):ByteArray:=if VM s then lm 58 s else ⟨#[]⟩
def Wz(s:ByteArray):ByteArray:=if VM s then jo 58 s else ⟨#[]⟩
def NJ{c:UInt8}{l:List UInt8}(h:(jA c l).2.2=false):(jA c l).2.1=[]:=by
 induction l with
 | nil=>rfl
 | cons b l ih =>
  unfold jA at h⊢;split
  ·rename_i hb;simp[hb]at h
  rename_i hb;simp[hb]at h;simpa[hb] using ih h
def Qn{c:UInt8}{s:ByteArray}(h:qi c s=false):jo c s=⟨#[]⟩:=by
 unfold qi at h;unfold jo;rw[NJ h]
def Qo{s:ByteArray}(h:VM s=true):Wy s=lm 58 s/\Wz s=jo 58 s:=by simp[Wy,Wz,h]
end Go.Proofs.YtojjoblnpldniaaGreat.Pl
namespace Go.Proofs.YtojjoblnpldniaaGreat
open ChangeShapes WideShapes ChangeAt RowKit
open Pl
def Bc(d:Dp):0<=stepOf d/\stepOf d<=1:=by unfold stepOf;split<;>omega
structure Mid(ts:Q0b)(n:Nat)(oS:List St)(k j:Nat)(mb:Bool)(out:List St):Prop where
 len:out.length=n
 nn:n=(ay ts).length
 round:Round ts out
 le:∀i (h:i<out.length),i≠k->out[i].n<=n
 lek:∀h:k<out.length,out[k].n<=n+1+j
 same:mb=false->out=oS/\(∀i (h:i<out.length),i<k->Tf ts out out[i] (iW ts out[i].key).length)/\∀h:k<out.length,Tf ts out out[k] j
 grow:nP oS<=nP out/\(mb=true->nP oS<nP out)
def Mid.start{ts:Q0b}{n:Nat}{out:List St}(hl:out.length=n)(hn:n=(ay ts).length)(hr:Round ts out)(hle:∀s∈out,s.n<=n):Mid ts n out 0 0 false out where
 len:=hl
 nn:=hn
 round:=hr
 le i h _:=hle _<|WH h
 lek h:=by have:=hle _<|WH h;omega
 same _:=⟨rfl,fun i _ hi=>cq,fun _ d hd=>by simp at hd⟩
 grow:=⟨Int.le_refl _,ct⟩
def Mid.key{ts:Q0b}{n k j:Nat}{oS out:List St}{mb:Bool}(h:Mid ts n oS k j mb out)(hk:k<out.length)(hk2:k<(ay ts).length):out[k].key=(ay ts)[k]:=by
 have e:=h.round.keys;have:(mQ out)[k]'(by simp[mQ,hk])=(ay ts)[k]:=by simp only[e]
 rw[<-this];simp[mQ]
def qj(out:List St)(d:Dp):Int:=jw out (d.typ,d.rel)+stepOf d
def Mid.at{ts:Q0b}{n k j:Nat}{oS out:List St}{mb:Bool}(h:Mid ts n oS k j mb out)(key:Q01)(hk:key∈ay ts):∃i:Nat,∃hi:i<out.length,iy key.1 key.2 out 0=(i:Int)/\out[i].n=jw out key/\0<=jw out key/\jw out key<=n+1+j:=by
 obtain⟨i,hi,h1,h2,h3⟩:=qc out 0 (k:=key) (by rw[h.round.keys];exact hk);refine⟨i,hi,by rw[h1];congr 1;omega,h3,?_,?_⟩
 ·exact(h.round.at hk).1
 rw[<-h3];by_cases e:i=k
 ·subst e;exact h.lek hi
 have:=h.le i hi e;omega
def Mid.no{ts:Q0b}{n k j:Nat}{oS out:List St}{mb:Bool}(h:Mid ts n oS k j mb out)(hk:k<out.length)(d:Dp)(hd:(iW ts out[k].key)[j]?=some d)(hw:qj out d<=out[k].n):Mid ts n oS k (j+1) mb out where
 len:=h.len
 nn:=h.nn
 round:=h.round
 le:=h.le
 lek hh:=by have:=h.lek hh;omega
 same hm:=by
  obtain⟨e,s1,s2⟩:=h.same hm;refine⟨e,s1,fun hh d' hd'=>?_⟩;obtain⟨hj,hd2⟩:=List.getElem?_eq_some_iff.1 hd;rw[WN hj]at hd';rcases WU.1 hd' with hd'|hd'
  ·exact s2 hh d' hd'
  rw[hd2]at hd';simp at hd';subst hd';exact hw
 grow:=h.grow
def Mid.yes{ts:Q0b}{n k j:Nat}{oS out:List St}{mb:Bool}(h:Mid ts n oS k j mb out)(hF:Found ts)(hk:k<out.length)(d:Dp)(hd:(iW ts out[k].key)[j]?=some d)(hw:out[k].n<qj out d):Mid ts n oS k (j+1) true (out.set k ⟨out[k].typ,out[k].rel,qj out d⟩) where
 len:=by rw[List.length_set];exact h.len
 nn:=h.nn
 round:=h.round.set hF hk<|XO hd
 le i hi hne:=by
  rw[List.getElem_set_ne (Ne.symm hne)];exact h.le i (by simpa using hi) hne
 lek hh:=by
  rw[List.getElem_set_self];show qj out d<=_;obtain⟨i,hi,-,-,-,h4⟩:=h.at (d.typ,d.rel)<|hF _ (h.round.mem<|WH hk) d<|XO hd;have:=Bc d;unfold qj;push_cast;omega
 same hm:=by cases hm
 grow:=by
  have:=h.grow.1;rw[Qg _ _ hk];exact⟨cq,fun _=>cq⟩
def Mid.next{ts:Q0b}{n k j:Nat}{oS out:List St}{mb:Bool}(h:Mid ts n oS k j mb out)(hk:k<out.length)(hj:j=(iW ts out[k].key).length)(hle:out[k].n<=n):Mid ts n oS (k+1) 0 mb out where
 len:=h.len
 nn:=h.nn
 round:=h.round
 le i hi _:=by
  by_cases e:i=k
  ·subst e;exact hle
  exact h.le i hi e
 lek hh:=by have:=h.le (k+1) hh cq;omega
 same hm:=by
  obtain⟨e,s1,s2⟩:=h.same hm;refine⟨e,fun i hi hik=>?_,fun _ d hd=>by simp at hd⟩;by_cases e2:i=k
  ·subst e2;have:=s2 hi;rw[hj]at this;exact this
  exact s1 i hi cq
 grow:=h.grow
def Mid.over{ts:Q0b}{n k j:Nat}{oS out:List St}{mb:Bool}(h:Mid ts n oS k j mb out)(hF:Found ts)(hk:k<out.length)(hn:(n:Int)<out[k].n):¬ ∃f,Sol ts f :=
 Kc hF (h.round.mem<|WH hk) (h.round.low _<|WH hk) (by have:=h.nn;omega)
structure Pass(ts:Q0b)(n:Nat)(mb:Bool)(out:List St):Prop where
 len:out.length=n
 nn:n=(ay ts).length
 round:Round ts out
 le:∀s∈out,s.n<=n
 sat:mb=false->∀s∈out,Tf ts out s (iW ts s.key).length
def Mid.done{ts:Q0b}{n k j:Nat}{oS out:List St}{mb:Bool}(h:Mid ts n oS k j mb out)(hk:k=n):Pass ts n mb out where
 len:=h.len
 nn:=h.nn
 round:=h.round
 le s hs:=by
  obtain⟨i,hi,rfl⟩:=XA.1 hs;exact h.le i hi (by have:=h.len;omega)
 sat hm s hs:=by
  obtain⟨e,s1,s2⟩:=h.same hm;obtain⟨i,hi,rfl⟩:=XA.1 hs;exact s1 i hi (by have:=h.len;omega)
def Pass.least{ts:Q0b}{n:Nat}{out:List St}(h:Pass ts n false out):Least ts (jw out):=h.round.done<|h.sat rfl
def Pass.zero{ts:Q0b}{n:Nat}(hn:n=(ay ts).length):Pass ts n true (Hm<|ay ts) where
 len:=by rw[FO,hn]
 nn:=hn
 round:=⟨by unfold mQ Hm;rw[List.map_map];exact List.map_id _,fun s hs=>by simp[Hm]at hs;obtain⟨a,b,-,rfl⟩:=hs;exact Int.le_refl _,fun s hs=>by simp[Hm]at hs;obtain⟨a,b,-,rfl⟩:=hs;exact ry.zero _ _⟩
 le s hs:=by simp[Hm]at hs;obtain⟨a,b,-,rfl⟩:=hs;simp
 sat h:=by cases h
def Tm(n:Int)(out:List St)(h:∀s∈out,s.n<=n):nP out<=n*out.length:=by
 induction out with
 | nil=>simp[nP]
 | cons s xs ih =>
  have h1:=h s ct;have h2:=ih fun q hq=>h q (by simp[hq]);simp only[nP,Xq];have:n*((xs.length+1:Nat):Int)=n*xs.length+n:=by push_cast;rw[Int.mul_add];simp
  omega
structure RowS(w wr:World)(ad:Q02)(g:Nat)(out:List St):Prop where
 below:ag w wr
 at':out=[]\/(ad=some ⟨g,0,none⟩/\w.heap.size<=g/\g<wr.heap.size/\Wv wr g out/\∀j,wr.frozen? ⟨g,j,none⟩=false)
def VS.kept{w w':af}{b off:Nat}{s:St}(h:VS w b off s)(hb:cU b w)(hB:ag w w'):VS w' b off s:=⟨aD hB hb h.1,aD hB hb h.2.1,aD hB hb h.2.2⟩
def RowS.kept{w wr w2:af}{ad:Q02}{g:Nat}{out:List St}(h:RowS w wr ad g out)(hb:ag wr w2):RowS w w2 ad g out where
 below:=h.below.trans<|hb.mono h.below.size
 at':=by
  rcases h.at' with e|⟨e,h1,h2,h3,h4⟩
  ·exact .inl e
  exact .inr ⟨e,h1,WJ h2 hb.size,fun i hi=>(h3 i hi).kept h2 hb,fun j=>by rw[hb.frozen (p:=⟨g,j,none⟩) h2];exact h4 j⟩
def RowS.slN{w wr:af}{ad:Q02}{g:Nat}{out:List St}(h:RowS w wr ad g out):UK wr ad out:=by
 rcases h.at' with e|⟨e,h1,h2,h3,h4⟩
 ·exact .inl e
 exact .inr ⟨g,0,e,h2,fun i hi=>by rw[Xl];exact h3 i hi⟩
def RowS.set{w wr:af}{ad:Q02}{g:Nat}{out:List St}(h:RowS w wr ad g out){k:Nat}(hk:k<out.length)(n:Int):RowS w (wr.setCell (aq g<|k*3+2)<|.int .i64 n) ad g (out.set k ⟨out[k].typ,out[k].rel,n⟩):=by
 rcases h.at' with e|⟨e,h1,h2,h3,h4⟩
 ·rw[e]at hk;simp at hk
 refine⟨h.below.setCell (p:=⟨g,k*3+2,none⟩) h1 _,.inr ⟨e,h1,by simpa using h2,fun i hi=>?_,fun j=>by simpa using h4 j⟩⟩;have hi':i<out.length:=by simpa using hi
 obtain⟨c0,c1,c2⟩:=h3 i hi';by_cases ei:i=k
 ·subst ei;rw[List.getElem_set_self];exact⟨by rw[iL cq];exact c0,by rw[iL cq];exact c1,oL c2⟩
 rw[List.getElem_set_ne (Ne.symm ei)];exact⟨by rw[iL cq];exact c0,by rw[iL cq];exact c1,by rw[iL cq];exact c2⟩
def Qp(w:World)(g i:Nat):Int:=match w.cell? ⟨g,i*3+2,none⟩ with|some (.int _ x)=>x|_=>0
def Kg(w:World)(g:Nat):Nat->Int
 | 0=>0
 | n+1=>Kg w g n+Qp w g n
def Hq(xs ys:List St):nP (xs++ys)=nP xs+nP ys:=by
 induction xs with
 | nil=>simp[nP]
 | cons s xs ih=>simp only[XB,nP,ih];omega
def Wv.sum{w:af}{g:Nat}{out:List St}(h:Wv w g out):∀k,k<=out.length->Kg w g k=nP (out.take k)
 | 0,_=>by simp[Kg,nP]
 | k+1,hk=>by
  have hlt:k<out.length:=cq;rw[WN hlt,Hq];simp only[Kg,h.sum k cq,nP];have:Qp w g k=out[k].n:=by unfold Qp;rw[(h k hlt).2.2]
  omega
def RowS.sum{w wr:af}{ad:Q02}{g:Nat}{out:List St}(h:RowS w wr ad g out):Kg wr g out.length=nP out:=by
 rcases h.at' with e|⟨e,h1,h2,h3,h4⟩
 ·rw[e];simp[Kg,nP]
 rw[h3.sum _ (WK _),Xa]
def Qq:Value->Int
 | .bool true=>1
 | _=>0
def Ea(w:World)(g n:Nat)(m:Value):Nat:=(2*((n:Int)*n-Kg w g n)+Qq m).toNat
def Kh{ts:Q0b}{w wr w2:af}{ad:Q02}{g n:Nat}{oS out:List St}{mb:Bool}(hS:RowS w wr ad g oS)(hO:RowS w w2 ad g out)(h:Mid ts n oS n 0 mb out)(hl:oS.length=n):Ea w2 g n (.bool mb)<Ea wr g n (.bool true):=by
 have e1:=hS.sum;have e2:=hO.sum;have h3:=Tm n out fun s hs=>(h.done rfl).le s hs;have h2:=h.len;have h4:=h.grow;rw[hl]at e1;rw[h2]at e2 h3;unfold Ea;rw[e1,e2];cases mb;case false=>simp only[Qq];omega
 have:=h4.2 rfl;simp only[Qq];omega
def Tn{w wr:af}{v:Value}{out:List St}(hB:ag w wr)(h:cD w wr 212 3 v out.length<|ji out):∃ad cp g,v=.slice ad out.length cp/\RowS w wr ad g out:=by
 rcases h.2 with⟨rfl,h0⟩|⟨g,cp,cur,rfl,hbg,hg,hnc,-⟩
 ·exact⟨none,0,0,by rw[h0],hB,.inl<|Xb.1 h0⟩
 obtain⟨ad,cp',e,h0⟩:=VU h;injection e with e1 e2 e3;refine⟨some<|am g,cp,g,rfl,hB,?_⟩;rcases h0 with h0|⟨g',e4,h1,h2,h3⟩
 ·exact .inl<|Xb.1 h0
 rw[<-e1]at e4;injection e4 with e4;injection e4 with e4;subst e4;exact .inr ⟨rfl,h1,h2,h3,fun j=>by simp[World.frozen?,hg]⟩
def Vd(ad:Q02)(cap n:Nat)(xs:List St)(key:Q01)(w:af)(hn:xs.length=n)(hlen:n<=1048576)(hs:UK w ad xs)(i:Nat)(hat:iy key.1 key.2 xs 0=(i:Int)):
  Calls prog 219 #[.slice ad n cap,.string key.1,.string key.2] w (bx w<|.int .i64 (i:Int)):=by
 subst hn;rw[<-hat];exact Qc ad cap xs key.1 key.2 w hlen hs
def AtD.set{w:af}{b off g o:Nat}{d:Dp}{v:Value}(h:AtD w b off d)(hn:g≠b):AtD (w.setCell (aq g o) v) b off d:=⟨by rw[yY hn];exact h.1,by rw[yY hn];exact h.2.1,by rw[yY hn];exact h.2.2⟩
def UL.set{w:af}{lo g o:Nat}{ad:Q02}{xs:List Dp}{v:Value}(h:UL w lo ad xs)(hg:g<lo):UL (w.setCell (aq g o) v) lo ad xs:=by
 rcases h with h|⟨b,e,h1,h2,h3⟩
 ·exact .inl h
 exact .inr ⟨b,e,h1,by simpa using h2,fun i hi=>(h3 i hi).set cq⟩
def keepD{wr W w':af}{g o1 o2:Nat}{x y:Value}(h:W.cell? (aq g o1)=some x/\W.cell? (aq g o2)=some y/\g<W.heap.size/\ag wr W)(hb:ag W w'):
  w'.cell? (aq g o1)=some x/\w'.cell? (aq g o2)=some y/\g<w'.heap.size/\ag wr w' :=
 ⟨aD hb h.2.2.1 h.1,aD hb h.2.2.1 h.2.1,WJ h.2.2.1 hb.size,h.2.2.2.trans<|hb.mono h.2.2.2.size⟩
def qP.small{rs:Q06}{ad:Q02}{rows:Q08}(h:qP rs ad rows)(hl:∀r∈rs,∀q∈r.rows,q.rows.length<=15/\∀e∈q.rows,fF q.rows.length e.e.kids):rows.length<=15/\∀e∈rows,fF rows.length e.e.kids:=by
 rcases h with rfl|⟨t,ht,q,hq,rfl,-⟩
 ·exact⟨ct,ct⟩
 exact hl t ht q hq
def Bd(ts:Q0b)(ty over rel:bN):(iN ts ty over rel).length<=(aQ<|aj ts ty over).length:=J6 _ _ _
def Ki(ts:Q0b)(typ:bN)(es:Q09)(A G:Nat)(hA:∀e∈es,e.allow.length<=A)(hG:∀over rel,(iN ts typ over rel).length<=G)(k:Nat):(aR ts typ es k).length<=k*(A+G+1):=by
 induction k with
 | zero=>simp[aR]
 | succ k ih =>
  simp only[aR,WP];have:(iV ts typ es k).length<=A+G+1:=by
   unfold iV;split
   ·simp
   rename_i e he;have h1:=hA e<|XO he;have h2:=D5 ((dH es).getD k false) e.allow;have h3:(lW ts typ ((dH es).getD k false) e).length<=G+1:=by
    unfold lW;split
    ·simp
    split
    ·have:=hG e.over e.name;simp;omega
    simp
   rw[WP];omega
  have e:(k+1)*(A+G+1)=k*(A+G+1)+(A+G+1):=Nat.succ_mul _ _;omega
def Dh(ts:Q0b)(typ:bN)(es:Q09)(k:Nat)(h:es.length<=k):iV ts typ es k=[]:=by
 unfold iV;rw[List.getElem?_eq_none h]
def Kj(ts:Q0b)(typ:bN)(es:Q09)(B:Nat)(hB:∀k,k<=es.length->(aR ts typ es k).length<=B)(k:Nat):(aR ts typ es k).length<=B:=by
 induction k with
 | zero=>exact hB 0<|WO _
 | succ k ih =>
  by_cases h:k+1<=es.length
  ·exact hB _ h
  simp only[aR];rw[Dh _ _ _ _ cq,XL];exact ih
def Hr(rs:Q07)(n:bN)(es:Q09)(h:iM (df rs) n=some es):∃q∈rs,es=ai q.rows:=by
 induction rs with
 | nil=>simp[df,iM]at h
 | cons r rs ih =>
  simp only[df,XN,iM]at h;split at h
  ·injection h with h;exact⟨r,ct,h.symm⟩
  obtain⟨q,hq,e⟩:=ih h;exact⟨q,by simp[hq],e⟩
def Kk(ts:Q06)(ty n:bN)(es:Q09)(h:fB (ae ts) ty n=some es):∃t∈ts,∃q∈t.rows,es=ai q.rows:=by
 induction ts with
 | nil=>simp[ae,fB]at h
 | cons t ts ih =>
  simp only[ae,XN,fB]at h;split at h
  ·rcases Option.or_eq_some_iff.1 h with h|⟨-,h⟩
   ·obtain⟨q,hq,e⟩:=Hr _ _ _ h;exact⟨t,ct,q,hq,e⟩
   obtain⟨t',ht,q,hq,e⟩:=ih h;exact⟨t',by simp[ht],q,hq,e⟩
  obtain⟨t',ht,q,hq,e⟩:=ih h;exact⟨t',by simp[ht],q,hq,e⟩
def zm(rs:Q06)(hl:∀r∈rs,r.light)(typ over rel:bN):(iN (ae rs) typ over rel).length<=1048576:=by
 refine WR (Bd _ _ _ _) ?_;unfold aj;cases h:fB (ae rs) typ over with
 | none=>simp[aQ]
 | some es =>
  obtain⟨t,ht,q,hq,rfl⟩:=Kk _ _ _ _ h;exact Az q.rows ((hl t ht).2 q hq).2
def Be(rs:Q06)(hl:∀r∈rs,r.light)(typ:bN)(rows:Q08)(hle:rows.length<=15)(hlE:∀q∈rows,q.e.light)(k:Nat):(aR (ae rs) typ (ai rows) k).length<=100000000:=by
 refine Kj _ _ _ _ (fun k hk=>?_) k;refine WR (Ki _ _ _ 1048576 1048576 (fun e he=>?_) (zm rs hl typ) k) ?_
 ·obtain⟨q,hq,rfl⟩:=WV.1 he;exact(hlE q hq).1
 rw[au]at hk;omega
def zJ(t i:bN)(w:af)(ht:t.size<=maxLen)(hi:i.size<=maxLen):
  Calls prog 307 #[.agg #[.string t,.string i]] w (bj w<|.string<|aH t i):=by
 by_cases hn:fJ t i=true
 ·obtain⟨h1,h2⟩:=Ah hn;have HT:O (aH t i=t++⟨#[58]⟩++i):=nV hn;go_enter func307,ntmps307;go_wp2_with(go_at_call 228;refine(gM _ _ _ ht hi).mono ?_;rintro e w' ⟨rfl,hb⟩;obtain⟨hc,hf⟩:=kF hb);go_ret;exact⟨gV HT.symm,((WL _ _).alloc (WK _) _).trans<|hb.mono ct⟩
 have hn':fJ t i=false:=by simpa using hn
 have HT:O (aH t i=⟨#[]⟩):=uR hn';clear hn;go_enter func307,ntmps307;go_wp2_with(go_at_call 228;refine(gM _ _ _ ht hi).mono ?_;rintro e w' ⟨rfl,hb⟩;obtain⟨hc,hf⟩:=kF hb);go_ret;exact⟨gV HT.symm,((WL _ _).alloc (WK _) _).trans<|hb.mono ct⟩
def zL(t i:bN)(w:af)(ht:t.size<=maxLen)(hi:i.size<=maxLen):
  Calls prog 276 #[.agg #[.string t,.string i]] w (bj w<|.string<|aH t i):=by
 by_cases hn:fJ t i=true
 ·obtain⟨h1,h2⟩:=Ah hn;have HT:O (aH t i=t++⟨#[58]⟩++i):=nV hn;go_enter func276,ntmps276;go_wp2_with(go_at_call 147;refine(gP _ _ _ ht hi).mono ?_;rintro e w' ⟨rfl,hb⟩;obtain⟨hc,hf⟩:=kF hb);go_ret;exact⟨gV HT.symm,((WL _ _).alloc (WK _) _).trans<|hb.mono ct⟩
 have hn':fJ t i=false:=by simpa using hn
 have HT:O (aH t i=⟨#[]⟩):=uR hn';clear hn;go_enter func276,ntmps276;go_wp2_with(go_at_call 147;refine(gP _ _ _ ht hi).mono ?_;rintro e w' ⟨rfl,hb⟩;obtain⟨hc,hf⟩:=kF hb);go_ret;exact⟨gV HT.symm,((WL _ _).alloc (WK _) _).trans<|hb.mono ct⟩
def Eb(s:bN)(w:af)(hs:s.size<=maxLen):
  Calls prog 148 #[.string s] w (bx w<|.bool<|wE s):=by
 go_enter func148,ntmps148;go_wp2_with(go_at_call 122;refine(aP _ _ hs).mono ?_;rintro e w' ⟨rfl,rfl⟩)
 all_goals go_ret
 all_goals exact⟨ah<|by simp[wE, *],rfl⟩
def fe(a b r c d s:bN)(w:af)(ha:a.size<=maxLen)(hb:b.size<=maxLen)(hr:r.size<=maxLen)(hc:c.size<=maxLen)(hd:d.size<=maxLen)(hs:s.size<=maxLen):
  Calls prog 198 #[.agg #[.string a,.string b,.string r,.string c,.string d,.string s]] w (bj w<|.bool<|bW a b r c d s):=by
 by_cases h1:fJ a b=true
 ·by_cases h2:aS r=true
  ·by_cases h3:fJ c d=true
   ·have HT:O (bW a b r c d s=wE s):=Ba h1 h2 h3;go_enter func198,ntmps198;go_wp2_with fail;refine(gM _ _ _ ha hb).mono ?_;rintro e w1 ⟨rfl,hb1⟩;obtain⟨hc1,hf1⟩:=kF hb1;have hz1:cW w w1:=by have:=hb1.size;simp at this;omega
    go_wp2_with fail;refine(aU _ _ hr).mono ?_;rintro e w1' ⟨rfl,rfl⟩;go_wp2_with fail;refine(gM _ _ _ hc hd).mono ?_;rintro e w2 ⟨rfl,hb2⟩;obtain⟨hc2,hf2⟩:=kF hb2;have hz2:cW w w2:=by have:=hb2.size;omega
    go_wp2_with(go_at_call 126;refine(aU _ _ hs).mono ?_;rintro e w3 ⟨rfl,rfl⟩)
    all_goals go_ret
    all_goals exact⟨ah (HT.trans<|by simp[wE, *]).symm,((WL _ _).alloc (WK _) _).trans<|(hb1.mono ct).trans<|hb2.mono cq⟩
   have h3':fJ c d=false:=by simpa using h3
   have HT:O (bW a b r c d s=false):=A9 h3';clear h3;go_enter func198,ntmps198;go_wp2_with fail;refine(gM _ _ _ ha hb).mono ?_;rintro e w1 ⟨rfl,hb1⟩;obtain⟨hc1,hf1⟩:=kF hb1;have hz1:cW w w1:=by have:=hb1.size;simp at this;omega
   go_wp2_with fail;refine(aU _ _ hr).mono ?_;rintro e w1' ⟨rfl,rfl⟩;go_wp2_with fail;refine(gM _ _ _ hc hd).mono ?_;rintro e w2 ⟨rfl,hb2⟩;go_wp2;go_ret;exact⟨ah HT.symm,((WL _ _).alloc (WK _) _).trans<|(hb1.mono ct).trans<|hb2.mono cq⟩
  have h2':aS r=false:=by simpa using h2
  have HT:O (bW a b r c d s=false):=A8 h2';clear h2;go_enter func198,ntmps198;go_wp2_with fail;refine(gM _ _ _ ha hb).mono ?_;rintro e w1 ⟨rfl,hb1⟩;obtain⟨hc1,hf1⟩:=kF hb1;go_wp2_with fail;refine(aU _ _ hr).mono ?_;rintro e w1' ⟨rfl,rfl⟩;go_wp2;go_ret;exact⟨ah HT.symm,((WL _ _).alloc (WK _) _).trans<|hb1.mono ct⟩
 have h1':fJ a b=false:=by simpa using h1
 have HT:O (bW a b r c d s=false):=A7 h1';clear h1;go_enter func198,ntmps198;go_wp2_with fail;refine(gM _ _ _ ha hb).mono ?_;rintro e w1 ⟨rfl,hb1⟩;go_wp2;go_ret;exact⟨ah HT.symm,((WL _ _).alloc (WK _) _).trans<|hb1.mono ct⟩
def fo(a b r c d s:bN)(w:af)(ha:a.size<=maxLen)(hb:b.size<=maxLen)(hr:r.size<=maxLen)(hc:c.size<=maxLen)(hd:d.size<=maxLen)(hs:s.size<=maxLen):
  Calls prog 62 #[.agg #[.string a,.string b,.string r,.string c,.string d,.string s]] w (bj w<|.bool<|bW a b r c d s):=by
 by_cases h1:fJ a b=true
 ·by_cases h2:aS r=true
  ·by_cases h3:fJ c d=true
   ·have HT:O (bW a b r c d s=wE s):=Ba h1 h2 h3;go_enter func62,ntmps62;go_wp2_with fail;refine(gP _ _ _ ha hb).mono ?_;rintro e w1 ⟨rfl,hb1⟩;obtain⟨hc1,hf1⟩:=kF hb1;have hz1:cW w w1:=by have:=hb1.size;simp at this;omega
    go_wp2_with fail;refine(aP _ _ hr).mono ?_;rintro e w1' ⟨rfl,rfl⟩;go_wp2_with fail;refine(gP _ _ _ hc hd).mono ?_;rintro e w2 ⟨rfl,hb2⟩;obtain⟨hc2,hf2⟩:=kF hb2;have hz2:cW w w2:=by have:=hb2.size;omega
    go_wp2_with(go_at_call 148;refine(Eb _ _ hs).mono ?_;rintro e w3 ⟨rfl,rfl⟩)
    all_goals go_ret
    all_goals exact⟨ah (HT.trans<|by simp[wE, *]).symm,((WL _ _).alloc (WK _) _).trans<|(hb1.mono ct).trans<|hb2.mono cq⟩
   have h3':fJ c d=false:=by simpa using h3
   have HT:O (bW a b r c d s=false):=A9 h3';clear h3;go_enter func62,ntmps62;go_wp2_with fail;refine(gP _ _ _ ha hb).mono ?_;rintro e w1 ⟨rfl,hb1⟩;obtain⟨hc1,hf1⟩:=kF hb1;have hz1:cW w w1:=by have:=hb1.size;simp at this;omega
   go_wp2_with fail;refine(aP _ _ hr).mono ?_;rintro e w1' ⟨rfl,rfl⟩;go_wp2_with fail;refine(gP _ _ _ hc hd).mono ?_;rintro e w2 ⟨rfl,hb2⟩;go_wp2;go_ret;exact⟨ah HT.symm,((WL _ _).alloc (WK _) _).trans<|(hb1.mono ct).trans<|hb2.mono cq⟩
  have h2':aS r=false:=by simpa using h2
  have HT:O (bW a b r c d s=false):=A8 h2';clear h2;go_enter func62,ntmps62;go_wp2_with fail;refine(gP _ _ _ ha hb).mono ?_;rintro e w1 ⟨rfl,hb1⟩;obtain⟨hc1,hf1⟩:=kF hb1;go_wp2_with fail;refine(aP _ _ hr).mono ?_;rintro e w1' ⟨rfl,rfl⟩;go_wp2;go_ret;exact⟨ah HT.symm,((WL _ _).alloc (WK _) _).trans<|hb1.mono ct⟩
 have h1':fJ a b=false:=by simpa using h1
 have HT:O (bW a b r c d s=false):=A7 h1';clear h1;go_enter func62,ntmps62;go_wp2_with fail;refine(gP _ _ _ ha hb).mono ?_;rintro e w1 ⟨rfl,hb1⟩;go_wp2;go_ret;exact⟨ah HT.symm,((WL _ _).alloc (WK _) _).trans<|hb1.mono ct⟩
end Go.Proofs.YtojjoblnpldniaaGreat
namespace Go.Proofs.YtojjoblnpldniaaGreat
open ChangeShapes WideShapes ChangeAt RowKit
open Pl
attribute [local go_sem ↓] Go.wp_at_zero Go.wp_at_succ
def UM{w W w':af}{n:Nat}{x0 x1 x2 x3 x4 x5:Value}(h:W.cell? (am n)=some x0/\W.cell? (aq n 1)=some x1/\W.cell? (aq n 2)=some x2/\W.cell? (aq n 3)=some x3/\W.cell? (aq n 4)=some x4/\W.cell? (aq n 5)=some x5/\n<W.heap.size/\Below n w W)(hb:ag W w'):w'.cell? (am n)=some x0/\w'.cell? (aq n 1)=some x1/\w'.cell? (aq n 2)=some x2/\w'.cell? (aq n 3)=some x3/\w'.cell? (aq n 4)=some x4/\w'.cell? (aq n 5)=some x5/\n<w'.heap.size/\Below n w w':=by
 obtain⟨h0,h1,h2,h3,h4,h5,hn,hB⟩:=h;have hc:∀o,w'.cell? (aq n o)=W.cell? (aq n o):=fun o=>hb.cell (p:=⟨n,o,none⟩) hn;refine⟨by rw[hc];exact h0,by rw[hc];exact h1,by rw[hc];exact h2,by rw[hc];exact h3,by rw[hc];exact h4,by rw[hc];exact h5,WJ hn hb.size,hB.trans<|hb.mono<|XW hn⟩
def zM(a b r c d s:bN)(w:af)(ha:a.size<=maxLen)(hb:b.size<=maxLen)(hr:r.size<=maxLen)(hc:c.size<=maxLen)(hd:d.size<=maxLen)(hs:s.size<=maxLen):
  Calls prog 267 #[.agg #[.string a,.string b,.string r,.string c,.string d,.string s]] w fun e w'=>e=.returned (.string<|bi a b r c d s)/\ag w w':=by
 by_cases hn:bW a b r c d s=true
 ·obtain⟨h1,h2,h3,h4⟩:=kM hn;have hx:=je a b;have hy:=je c d;have hr12:=(o6 h2).2;have hs12:=FP h4;clear h1 h2 h3 h4;go_enter func267,ntmps267;go_wp2_with fail;refine(fe _ _ _ _ _ _ _ ha hb hr hc hd hs).mono ?_;rintro e w1 ⟨rfl,hb1⟩;obtain⟨hc1,hf1⟩:=kF hb1;have hz1:w.heap.size<w1.heap.size:=by have:=hb1.size;simp at this;omega
  have k:∀o v,(w.alloc<|.cells #[.string a,.string b,.string r,.string c,.string d,.string s] 29).cell? ⟨w.heap.size,o,none⟩=some v->w1.cell? ⟨w.heap.size,o,none⟩=some v:=fun o v h=>by rw[hc1 _ _ ct];exact h
  have k0:=k 0 (.string a) ct;have k1:=k 1 (.string b) ct;have k2:=k 2 (.string r) ct;have k3:=k 3 (.string c) ct;have k4:=k 4 (.string d) ct;have k5:=k 5 (.string s) ct;have HB1:ag w w1:=((WL _ _).alloc (WK _) _).trans<|hb1.mono ct;clear k hb1 hc1 hf1;have q1:(9223372036854775807<(aH a b).size+1)=False:=by simp;omega
  have q2:(9223372036854775807<(aH a b).size+1+r.size)=False:=by simp;omega
  have q3:(9223372036854775807<(aH a b).size+1+r.size+1)=False:=by simp;omega
  have q4:(9223372036854775807<(aH a b).size+1+r.size+1+(aH c d).size)=False:=by simp;omega
  go_wp2_with fail
  go_region_held3 (fun w'=>w'.cell? ⟨w.heap.size,0,none⟩=some (.string a)/\w'.cell? ⟨w.heap.size,1,none⟩=some (.string b)/\w'.cell? ⟨w.heap.size,2,none⟩=some (.string r)/\w'.cell? ⟨w.heap.size,3,none⟩=some (.string c)/\w'.cell? ⟨w.heap.size,4,none⟩=some (.string d)/\w'.cell? ⟨w.heap.size,5,none⟩=some (.string s)/\w.heap.size<w'.heap.size/\ag w w')
   (first|exact UM cE hbx|exact⟨k0,k1,k2,k3,k4,k5,hz1,HB1.drew⟩)
   (first|(go_at_call 307;refine(zJ _ _ _ cE cE).mono ?_;rintro e w' ⟨rfl,hbx⟩))
  rename_i hH;obtain⟨g0,g1,g2,g3,g4,g5,gz,gB⟩:=hH;clear k0 k1 k2 k3 k4 k5 hbx q1 q2 q3 q4 HB1;by_cases he:s.toList.isEmpty=true
  ·have HT:O (bi a b r c d s=_):=nW hn he;go_wp2;go_ret;exact⟨gV HT.symm,gB⟩
  have he':s.toList.isEmpty=false:=by simpa using he
  have HT:O (bi a b r c d s=_):=nX hn he';clear he;go_wp2;go_ret;exact⟨gV HT.symm,gB⟩
 have hn':bW a b r c d s=false:=by simpa using hn
 have HT:O (bi a b r c d s=⟨#[]⟩):=uS hn';clear hn;go_enter func267,ntmps267;go_wp2_with fail;refine(fe _ _ _ _ _ _ _ ha hb hr hc hd hs).mono ?_;rintro e w1 ⟨rfl,hb1⟩;go_wp2;go_ret;exact⟨gV HT.symm,((WL _ _).alloc (WK _) _).trans<|hb1.mono ct⟩
def zP(a b r c d s:bN)(w:af)(ha:a.size<=maxLen)(hb:b.size<=maxLen)(hr:r.size<=maxLen)(hc:c.size<=maxLen)(hd:d.size<=maxLen)(hs:s.size<=maxLen):
  Calls prog 216 #[.agg #[.string a,.string b,.string r,.string c,.string d,.string s]] w fun e w'=>e=.returned (.string<|bi a b r c d s)/\ag w w':=by
 by_cases hn:bW a b r c d s=true
 ·obtain⟨h1,h2,h3,h4⟩:=kM hn;have hx:=je a b;have hy:=je c d;have hr12:=(o6 h2).2;have hs12:=FP h4;clear h1 h2 h3 h4;go_enter func216,ntmps216;go_wp2_with fail;refine(fo _ _ _ _ _ _ _ ha hb hr hc hd hs).mono ?_;rintro e w1 ⟨rfl,hb1⟩;obtain⟨hc1,hf1⟩:=kF hb1;have hz1:w.heap.size<w1.heap.size:=by have:=hb1.size;simp at this;omega
  have k:∀o v,(w.alloc<|.cells #[.string a,.string b,.string r,.string c,.string d,.string s] 29).cell? ⟨w.heap.size,o,none⟩=some v->w1.cell? ⟨w.heap.size,o,none⟩=some v:=fun o v h=>by rw[hc1 _ _ ct];exact h
  have k0:=k 0 (.string a) ct;have k1:=k 1 (.string b) ct;have k2:=k 2 (.string r) ct;have k3:=k 3 (.string c) ct;have k4:=k 4 (.string d) ct;have k5:=k 5 (.string s) ct;have HB1:ag w w1:=((WL _ _).alloc (WK _) _).trans<|hb1.mono ct;clear k hb1 hc1 hf1;have q1:(9223372036854775807<(aH a b).size+1)=False:=by simp;omega
  have q2:(9223372036854775807<(aH a b).size+1+r.size)=False:=by simp;omega
  have q3:(9223372036854775807<(aH a b).size+1+r.size+1)=False:=by simp;omega
  have q4:(9223372036854775807<(aH a b).size+1+r.size+1+(aH c d).size)=False:=by simp;omega
  go_wp2_with fail
  go_region_held3 (fun w'=>w'.cell? ⟨w.heap.size,0,none⟩=some (.string a)/\w'.cell? ⟨w.heap.size,1,none⟩=some (.string b)/\w'.cell? ⟨w.heap.size,2,none⟩=some (.string r)/\w'.cell? ⟨w.heap.size,3,none⟩=some (.string c)/\w'.cell? ⟨w.heap.size,4,none⟩=some (.string d)/\w'.cell? ⟨w.heap.size,5,none⟩=some (.string s)/\w.heap.size<w'.heap.size/\ag w w')
   (first|exact UM cE hbx|exact⟨k0,k1,k2,k3,k4,k5,hz1,HB1.drew⟩)
   (first|(go_at_call 276;refine(zL _ _ _ cE cE).mono ?_;rintro e w' ⟨rfl,hbx⟩))
  rename_i hH;obtain⟨g0,g1,g2,g3,g4,g5,gz,gB⟩:=hH;clear k0 k1 k2 k3 k4 k5 hbx q1 q2 q3 q4 HB1;by_cases he:s.toList.isEmpty=true
  ·have HT:O (bi a b r c d s=_):=nW hn he;go_wp2;go_ret;exact⟨gV HT.symm,gB⟩
  have he':s.toList.isEmpty=false:=by simpa using he
  have HT:O (bi a b r c d s=_):=nX hn he';clear he;go_wp2;go_ret;exact⟨gV (HT.trans<|by simp only[Xo]).symm,gB⟩
 have hn':bW a b r c d s=false:=by simpa using hn
 have HT:O (bi a b r c d s=⟨#[]⟩):=uS hn';clear hn;go_enter func216,ntmps216;go_wp2_with fail;refine(fo _ _ _ _ _ _ _ ha hb hr hc hd hs).mono ?_;rintro e w1 ⟨rfl,hb1⟩;go_wp2;go_ret;exact⟨gV HT.symm,((WL _ _).alloc (WK _) _).trans<|hb1.mono ct⟩
end Go.Proofs.YtojjoblnpldniaaGreat
namespace Go.Proofs.YtojjoblnpldniaaGreat
open ChangeShapes WideShapes ChangeAt RowKit
open Pl
attribute [local go_sem ↓] Go.wp_at_zero Go.wp_at_succ
def Kl{w W w':af}{n m k:Nat}{x0 x1 x2 x3 x4 x5 y0 y1 y2 y3 y4 y5:Value}(hk:k<=n)(h:W.cell? (am n)=some x0/\W.cell? (aq n 1)=some x1/\W.cell? (aq n 2)=some x2/\W.cell? (aq n 3)=some x3/\W.cell? (aq n 4)=some x4/\W.cell? (aq n 5)=some x5/\W.cell? (am m)=some y0/\W.cell? (aq m 1)=some y1/\W.cell? (aq m 2)=some y2/\W.cell? (aq m 3)=some y3/\W.cell? (aq m 4)=some y4/\W.cell? (aq m 5)=some y5/\n<W.heap.size/\m<W.heap.size/\Below k w W)(hb:ag W w'):w'.cell? (am n)=some x0/\w'.cell? (aq n 1)=some x1/\w'.cell? (aq n 2)=some x2/\w'.cell? (aq n 3)=some x3/\w'.cell? (aq n 4)=some x4/\w'.cell? (aq n 5)=some x5/\w'.cell? (am m)=some y0/\w'.cell? (aq m 1)=some y1/\w'.cell? (aq m 2)=some y2/\w'.cell? (aq m 3)=some y3/\w'.cell? (aq m 4)=some y4/\w'.cell? (aq m 5)=some y5/\n<w'.heap.size/\m<w'.heap.size/\Below k w w':=by
 obtain⟨h0,h1,h2,h3,h4,h5,h6,h7,h8,h9,h10,h11,hn,hm,hB⟩:=h;have hc:∀o,w'.cell? (aq n o)=W.cell? (aq n o):=fun o=>hb.cell (p:=⟨n,o,none⟩) hn;have hd:∀o,w'.cell? (aq m o)=W.cell? (aq m o):=fun o=>hb.cell (p:=⟨m,o,none⟩) hm;exact⟨by rw[hc];exact h0,by rw[hc];exact h1,by rw[hc];exact h2,by rw[hc];exact h3,by rw[hc];exact h4,by rw[hc];exact h5,by rw[hd];exact h6,by rw[hd];exact h7,by rw[hd];exact h8,by rw[hd];exact h9,by rw[hd];exact h10,by rw[hd];exact h11,WJ hn hb.size,WJ hm hb.size,hB.trans<|hb.mono cq⟩
def FQ(w:af)(o1 o2:Obj):ag w ((w.alloc o1).alloc o2) :=
 ((WL _ _).alloc (WK _) _).alloc ct _
def Km(a b r c d s a' b' r' c' d' s':ByteArray):Int:=Lib.compareBytes (bi a b r c d s).data.toList (bi a' b' r' c' d' s').data.toList
def wF(x y:List UInt8):decide (Lib.compareBytes x y<0)=Op.bytesLess x y:=by
 induction x generalizing y with
 | nil=>cases y<;>simp[Lib.compareBytes,Op.bytesLess]
 | cons a x ih =>
  cases y with
  | nil=>simp[Lib.compareBytes,Op.bytesLess]
  | cons b y =>
   unfold Lib.compareBytes Op.bytesLess;by_cases h:a<b
   ·simp[h]
   by_cases h2:b<a
   ·have hne:(a==b)=false:=by simp;intro e;subst e;exact h h2
    simp[h,h2,hne]
   have he:a=b:=by
    have h1:=UInt8.not_lt.mp h;have h3:=UInt8.not_lt.mp h2;exact UInt8.le_antisymm h3 h1
   subst he;simp[ih]
def UN(a b r c d s a' b' r' c' d' s':bN)(w W:af)(hW:W=((w.alloc<|.cells #[.string a,.string b,.string r,.string c,.string d,.string s] 29).alloc<|.cells #[.string a',.string b',.string r',.string c',.string d',.string s'] 29)):W.drew.cell? (am w.heap.size)=some (.string a)/\W.drew.cell? (aq w.heap.size 1)=some (.string b)/\W.drew.cell? (aq w.heap.size 2)=some (.string r)/\W.drew.cell? (aq w.heap.size 3)=some (.string c)/\W.drew.cell? (aq w.heap.size 4)=some (.string d)/\W.drew.cell? (aq w.heap.size 5)=some (.string s)/\W.drew.cell? (am<|w.heap.size+1)=some (.string a')/\W.drew.cell? (aq (w.heap.size+1) 1)=some (.string b')/\W.drew.cell? (aq (w.heap.size+1) 2)=some (.string r')/\W.drew.cell? (aq (w.heap.size+1) 3)=some (.string c')/\W.drew.cell? (aq (w.heap.size+1) 4)=some (.string d')/\W.drew.cell? (aq (w.heap.size+1) 5)=some (.string s')/\w.heap.size<W.drew.heap.size/\w.heap.size+1<W.drew.heap.size/\ag w (W.drew):=by
 subst hW;refine⟨?_,?_,?_,?_,?_,?_,?_,?_,?_,?_,?_,?_,?_,?_,?_⟩
 all_goals first|exact(FQ _ _ _).drew|(simp;done)|(simp;omega)
def wG(a b r c d s a' b' r' c' d' s':bN)(w:af)(ha:a.size<=maxLen)(hb:b.size<=maxLen)(hr:r.size<=maxLen)(hc:c.size<=maxLen)(hd:d.size<=maxLen)(hs:s.size<=maxLen)(ga:a'.size<=maxLen)(gb:b'.size<=maxLen)(gr:r'.size<=maxLen)(gc:c'.size<=maxLen)(gd:d'.size<=maxLen)(gs:s'.size<=maxLen):
  Calls prog 139 #[.agg #[.string a,.string b,.string r,.string c,.string d,.string s],.agg #[.string a',.string b',.string r',.string c',.string d',.string s']] w (bj w<|.int .i64<|Km a b r c d s a' b' r' c' d' s'):=by
 have H0:=UN a b r c d s a' b' r' c' d' s' w _ rfl;go_enter func139,ntmps139;go_wp2_with fail
 go_region_held3 (fun w'=>w'.cell? (a7 w)=some (.string a)/\w'.cell? (a8 w 1)=some (.string b)/\w'.cell? (a8 w 2)=some (.string r)/\w'.cell? (a8 w 3)=some (.string c)/\w'.cell? (a8 w 4)=some (.string d)/\w'.cell? (a8 w 5)=some (.string s)/\w'.cell? (am<|w.heap.size+1)=some (.string a')/\w'.cell? (aq (w.heap.size+1) 1)=some (.string b')/\w'.cell? (aq (w.heap.size+1) 2)=some (.string r')/\w'.cell? (aq (w.heap.size+1) 3)=some (.string c')/\w'.cell? (aq (w.heap.size+1) 4)=some (.string d')/\w'.cell? (aq (w.heap.size+1) 5)=some (.string s')/\w.heap.size<w'.heap.size/\w.heap.size+1<w'.heap.size/\ag w w')
  (first|assumption|exact Kl (WK _) cE hbx|exact H0)
  (first|(go_at_call 216;refine(zP _ _ _ _ _ _ _ cE cE cE cE cE cE).mono ?_;rintro e w' ⟨rfl,hbx⟩)|(go_at_call 197;refine(Tryz.strings_Compare _ _ _).mono ?_;rintro e w' ⟨rfl,rfl⟩))
 rename_i hH;obtain⟨-,-,-,-,-,-,-,-,-,-,-,-,-,-,gB⟩:=hH;go_wp2;go_ret;exact⟨rfl,gB⟩
def gW(a b r c d s a' b' r' c' d' s':ByteArray):Bool:=bW a b r c d s&&bW a' b' r' c' d' s'&&Op.bytesLess (bi a b r c d s).toList (bi a' b' r' c' d' s').toList
def Bf{a b r c d s a' b' r' c' d' s':ByteArray}(h:bW a b r c d s=false):gW a b r c d s a' b' r' c' d' s'=false:=by simp[gW,h]
def Bg{a b r c d s a' b' r' c' d' s':ByteArray}(h:bW a' b' r' c' d' s'=false):gW a b r c d s a' b' r' c' d' s'=false:=by simp[gW,h]
def uT{a b r c d s a' b' r' c' d' s':ByteArray}(h:bW a b r c d s=true)(h2:bW a' b' r' c' d' s'=true):gW a b r c d s a' b' r' c' d' s'=Op.bytesLess (bi a b r c d s).toList (bi a' b' r' c' d' s').toList:=by simp[gW,h,h2]
def Kn{a b r c d s a' b' r' c' d' s':ByteArray}(h:bW a b r c d s=true)(h2:bW a' b' r' c' d' s'=true):gW a b r c d s a' b' r' c' d' s'=decide (Km a b r c d s a' b' r' c' d' s'<0):=by
 rw[uT h h2,Km,wF,Go.ByteArray.toList_eq,Go.ByteArray.toList_eq]
def ul(a b r c d s a' b' r' c' d' s':bN)(w:af)(ha:a.size<=maxLen)(hb:b.size<=maxLen)(hr:r.size<=maxLen)(hc:c.size<=maxLen)(hd:d.size<=maxLen)(hs:s.size<=maxLen)(ga:a'.size<=maxLen)(gb:b'.size<=maxLen)(gr:r'.size<=maxLen)(gc:c'.size<=maxLen)(gd:d'.size<=maxLen)(gs:s'.size<=maxLen):
  Calls prog 199 #[.agg #[.string a,.string b,.string r,.string c,.string d,.string s],.agg #[.string a',.string b',.string r',.string c',.string d',.string s']] w fun e w'=>e=.returned (.bool<|gW a b r c d s a' b' r' c' d' s')/\ag w w':=by
 have H0:=UN a b r c d s a' b' r' c' d' s' w _ rfl;by_cases h1:bW a b r c d s=true
 ·by_cases h2:bW a' b' r' c' d' s'=true
  ·have HT:O (gW a b r c d s a' b' r' c' d' s'=_):=uT h1 h2;go_enter func199,ntmps199;go_wp2_with fail
   go_region_held3 (fun w'=>w'.cell? ⟨w.heap.size,0,none⟩=some (.string a)/\w'.cell? ⟨w.heap.size,1,none⟩=some (.string b)/\w'.cell? ⟨w.heap.size,2,none⟩=some (.string r)/\w'.cell? ⟨w.heap.size,3,none⟩=some (.string c)/\w'.cell? ⟨w.heap.size,4,none⟩=some (.string d)/\w'.cell? ⟨w.heap.size,5,none⟩=some (.string s)/\w'.cell? ⟨w.heap.size+1,0,none⟩=some (.string a')/\w'.cell? ⟨w.heap.size+1,1,none⟩=some (.string b')/\w'.cell? ⟨w.heap.size+1,2,none⟩=some (.string r')/\w'.cell? ⟨w.heap.size+1,3,none⟩=some (.string c')/\w'.cell? ⟨w.heap.size+1,4,none⟩=some (.string d')/\w'.cell? ⟨w.heap.size+1,5,none⟩=some (.string s')/\w.heap.size<w'.heap.size/\w.heap.size+1<w'.heap.size/\ag w w')
    (first|assumption|exact Kl (WK _) cE hbx|exact H0)
    (first|(go_at_call_of 198 (Value.agg #[.string a,.string b,.string r,.string c,.string d,.string s]);refine(fe a b r c d s _ ha hb hr hc hd hs).mono ?_;rintro e w' ⟨he,hbx⟩;rw[h1]at he;subst he)|(go_at_call_of 198 (Value.agg #[.string a',.string b',.string r',.string c',.string d',.string s']);refine(fe a' b' r' c' d' s' _ ga gb gr gc gd gs).mono ?_;rintro e w' ⟨he,hbx⟩;rw[h2]at he;subst he)|(go_at_call 267;refine(zM _ _ _ _ _ _ _ cE cE cE cE cE cE).mono ?_;rintro e w' ⟨rfl,hbx⟩))
   rename_i hH;obtain⟨-,-,-,-,-,-,-,-,-,-,-,-,-,-,gB⟩:=hH;clear H0;go_wp2;go_ret;exact⟨ah HT.symm,gB⟩
  have h2':bW a' b' r' c' d' s'=false:=by simpa using h2
  have HT:O (gW a b r c d s a' b' r' c' d' s'=false):=Bg h2';clear h2;obtain⟨u0,u1,u2,u3,u4,u5,u6,u7,u8,u9,u10,u11,un,um,uB⟩:=H0;go_enter func199,ntmps199;go_wp2_with fail
  go_region_with (first|(go_at_call_of 198 (Value.agg #[.string a,.string b,.string r,.string c,.string d,.string s]);refine(fe a b r c d s _ ha hb hr hc hd hs).mono ?_;rintro e w1 ⟨he,hbx⟩;rw[h1]at he;subst he;obtain⟨k0,k1,k2,k3,k4,k5,k6,k7,k8,k9,k10,k11,kn,km,kB⟩:=Kl (WK _) ⟨u0,u1,u2,u3,u4,u5,u6,u7,u8,u9,u10,u11,un,um,uB⟩ hbx)|(go_at_call_of 198 (Value.agg #[.string a',.string b',.string r',.string c',.string d',.string s']);refine(fe a' b' r' c' d' s' _ ga gb gr gc gd gs).mono ?_;rintro e w2 ⟨he,hby⟩;rw[h2']at he;subst he))
  all_goals clear u0 u1 u2 u3 u4 u5 u6 u7 u8 u9 u10 u11
  all_goals go_wp2
  all_goals go_ret
  all_goals exact⟨ah HT.symm,kB.trans<|hby.mono cq⟩
 have h1':bW a b r c d s=false:=by simpa using h1
 have HT:O (gW a b r c d s a' b' r' c' d' s'=false):=Bf h1';clear h1;obtain⟨u0,u1,u2,u3,u4,u5,u6,u7,u8,u9,u10,u11,un,um,uB⟩:=H0;go_enter func199,ntmps199;go_wp2_with fail
 go_region_with (go_at_call_of 198 (Value.agg #[.string a,.string b,.string r,.string c,.string d,.string s]);refine(fe a b r c d s _ ha hb hr hc hd hs).mono ?_;rintro e w1 ⟨he,hbx⟩;rw[h1']at he;subst he)
 all_goals clear u0 u1 u2 u3 u4 u5 u6 u7 u8 u9 u10 u11
 all_goals go_wp2
 all_goals go_ret
 all_goals exact⟨ah HT.symm,uB.trans<|hbx.mono cq⟩
def Di(a b r c d s a' b' r' c' d' s':bN)(w:af)(ha:a.size<=maxLen)(hb:b.size<=maxLen)(hr:r.size<=maxLen)(hc:c.size<=maxLen)(hd:d.size<=maxLen)(hs:s.size<=maxLen)(ga:a'.size<=maxLen)(gb:b'.size<=maxLen)(gr:r'.size<=maxLen)(gc:c'.size<=maxLen)(gd:d'.size<=maxLen)(gs:s'.size<=maxLen):
  Calls prog 110 #[.agg #[.string a,.string b,.string r,.string c,.string d,.string s],.agg #[.string a',.string b',.string r',.string c',.string d',.string s']] w (bj w<|.bool<|gW a b r c d s a' b' r' c' d' s'):=by
 by_cases h1:bW a b r c d s=true
 ·by_cases h2:bW a' b' r' c' d' s'=true
  ·have HT:O (gW a b r c d s a' b' r' c' d' s'=decide (Km a b r c d s a' b' r' c' d' s'<0)):=Kn h1 h2;go_enter func110,ntmps110;go_wp2_with fail;refine(fo _ _ _ _ _ _ _ ha hb hr hc hd hs).mono ?_;rintro e w1 ⟨rfl,hb1⟩;obtain⟨hc1,hf1⟩:=kF hb1;have hz1:w.heap.size+1<w1.heap.size:=by have:=hb1.size;simp at this;omega
   have hy1:cW w w1:=cq;have HB1:ag w w1:=(FQ _ _ _).trans (hb1.mono<|by simp;omega);go_wp2_with fail;refine(fo _ _ _ _ _ _ _ ga gb gr gc gd gs).mono ?_;rintro e w2 ⟨rfl,hb2⟩;obtain⟨hc2,hf2⟩:=kF hb2;have hz2:w.heap.size+1<w2.heap.size:=by have:=hb2.size;omega
   have hy2:cW w w2:=cq;go_wp2_with fail;refine(wG _ _ _ _ _ _ _ _ _ _ _ _ _ ha hb hr hc hd hs ga gb gr gc gd gs).mono ?_;rintro e w3 ⟨rfl,hb3⟩;go_wp2;go_ret;exact⟨ah HT.symm,HB1.trans<|(hb2.mono cq).trans<|hb3.mono cq⟩
  have h2':bW a' b' r' c' d' s'=false:=by simpa using h2
  have HT:O (gW a b r c d s a' b' r' c' d' s'=false):=Bg h2';clear h2;go_enter func110,ntmps110;go_wp2_with fail;refine(fo _ _ _ _ _ _ _ ha hb hr hc hd hs).mono ?_;rintro e w1 ⟨rfl,hb1⟩;obtain⟨hc1,hf1⟩:=kF hb1;have hz1:w.heap.size+1<w1.heap.size:=by have:=hb1.size;simp at this;omega
  have hy1:cW w w1:=cq;have HB1:ag w w1:=(FQ _ _ _).trans (hb1.mono<|by simp;omega);go_wp2_with fail;refine(fo _ _ _ _ _ _ _ ga gb gr gc gd gs).mono ?_;rintro e w2 ⟨rfl,hb2⟩;go_wp2;go_ret;exact⟨ah HT.symm,HB1.trans<|hb2.mono cq⟩
 have h1':bW a b r c d s=false:=by simpa using h1
 have HT:O (gW a b r c d s a' b' r' c' d' s'=false):=Bf h1';clear h1;go_enter func110,ntmps110;go_wp2_with fail;refine(fo _ _ _ _ _ _ _ ha hb hr hc hd hs).mono ?_;rintro e w1 ⟨rfl,hb1⟩;obtain⟨hc1,hf1⟩:=kF hb1;have hz1:w.heap.size+1<w1.heap.size:=by have:=hb1.size;simp at this;omega
 have hy1:cW w w1:=cq;have HB1:ag w w1:=(FQ _ _ _).trans (hb1.mono<|by simp;omega);go_wp2;go_ret;exact⟨ah HT.symm,HB1⟩
end Go.Proofs.YtojjoblnpldniaaGreat
namespace Go.Proofs.YtojjoblnpldniaaGreat.Pl
def Qr{c:UInt8}{l m:List UInt8}(h:∀x∈l,x≠c):jA c (l++c::m)=(l,m,true):=by
 induction l with
 | nil=>simp[jA]
 | cons b l ih =>
  have hb:b≠c:=h b ct;have:=ih (fun x hx=>h x<|by simp[hx]);simp[jA,hb,this]
def Ec(c:UInt8)(s:bN):(lm c s).data.toList=(jA c s.data.toList).1:=by simp[lm]
def Ed(c:UInt8)(s:bN):(jo c s).data.toList=(jA c s.data.toList).2.1:=by simp[jo]
def Ht(a b:bN):(a++b).data.toList=a.data.toList++b.data.toList:=by simp[ByteArray.data_append]
def Ai{c:UInt8}{s:ByteArray}{l m:List UInt8}(hs:s.data.toList=l++c::m)(h:∀x∈l,x≠c):(lm c s).data.toList=l/\(jo c s).data.toList=m/\qi c s=true:=by
 rw[Ec,Ed,qi,hs,Qr h];exact⟨rfl,rfl,rfl⟩
def Tq{c:UInt8}{s:ByteArray}(h:∀x∈s.data.toList,x≠c):lm c s=s/\jo c s=⟨#[]⟩/\qi c s=false:=by
 refine⟨ik ?_,ik ?_,?_⟩
 ·rw[Ec,sO h]
 ·rw[Ed,sO h]
 rw[qi,sO h]
def Qs(l:List UInt8):Prop:=∀x∈l,x≠35/\x≠58/\x≠64
def Ee{x:UInt8}(h:Ac x=true):x≠35/\x≠58/\x≠64:=by
 refine⟨?_,?_,?_⟩<;>(rintro rfl;revert h;decide)
def Ko{x:UInt8}(h:fI x=true):x≠35/\x≠58/\x≠64:=Ee (by simp[Ac,h])
def rD{s:ByteArray}(h:aS s=true):Qs s.data.toList:=by
 simp only[aS,dZ,uf,WM,WT]at h;exact fun x hx=>Ko<|h.1.2 x hx
def Hu{s:ByteArray}(h:qO s=true):Qs s.data.toList:=by
 simp only[qO,dZ,uf,WM,WT]at h;exact fun x hx=>Ee<|h.2 x hx
def uU{a b:ByteArray}(h:fJ a b=true):aS a=true/\qO b=true:=by simpa[fJ] using h
def wH{a b:ByteArray}(h:fJ a b=true):(aH a b).data.toList=a.data.toList++58::b.data.toList:=by
 rw[nV h,Ht,Ht];simp
def uq{a b:ByteArray}(h:fJ a b=true):∀x∈(aH a b).data.toList,x≠35/\x≠64:=by
 intro x hx;rw[wH h]at hx;have h1:=rD (uU h).1;have h2:=Hu (uU h).2;simp only[WU,Xc]at hx;rcases hx with hx|hx|hx
 ·exact⟨(h1 x hx).1,(h1 x hx).2.2⟩
 ·subst hx;decide
 exact⟨(h2 x hx).1,(h2 x hx).2.2⟩
def qo{a b:ByteArray}(h:fJ a b=true):VM (aH a b)=true/\Wy (aH a b)=a/\Wz (aH a b)=b:=by
 obtain⟨h1,h2,-⟩:=Ai (c:=58) (wH h) fun x hx=>(rD (uU h).1 x hx).2.1;have e1:lm 58 (aH a b)=a:=ik h1;have e2:jo 58 (aH a b)=b:=ik h2;have hb:VM (aH a b)=true:=by rw[VM,e1,e2];exact h
 exact⟨hb,by rw[(Qo hb).1,e1],by rw[(Qo hb).2,e2]⟩
def Ef(s:ByteArray):List UInt8:=if s.toList.isEmpty then [] else 35::s.data.toList
def FR{a b r c d s:ByteArray}(h:bW a b r c d s=true):
  (bi a b r c d s).data.toList=(aH a b).data.toList++35::(r.data.toList++64::((aH c d).data.toList++Ef s)):=by
 by_cases hs:s.toList.isEmpty=true
 ·rw[nW h hs,Ef,if_pos hs];simp
 have hs':s.toList.isEmpty=false:=by simpa using hs
 rw[nX h hs',Ef,if_neg hs];simp
def Qt{s:ByteArray}(h:s.toList.isEmpty=true):s=⟨#[]⟩:=by
 refine ik ?_;rw[Go.ByteArray.toList_eq]at h;simpa using h
def Qu{o s x:ByteArray}(ho:∀y∈o.data.toList,y≠35)(hx:x.data.toList=o.data.toList++Ef s):
  lm 35 x=o/\jo 35 x=s/\qi 35 x=!s.toList.isEmpty:=by
 by_cases hs:s.toList.isEmpty=true
 ·have e:x=o:=ik (by rw[hx,Ef,if_pos hs];simp);subst e;obtain⟨h1,h2,h3⟩:=Tq (c:=35) (s:=x) ho;exact⟨h1,by rw[h2,Qt hs],by rw[h3,hs];rfl⟩
 rw[Ef,if_neg hs]at hx;obtain⟨h1,h2,h3⟩:=Ai hx ho;have hs':s.toList.isEmpty=false:=by simpa using hs
 exact⟨ik h1,ik h2,by rw[h3,hs'];rfl⟩
def i1(s:ByteArray):=jo 35 s
def i2(s:ByteArray):=jo 64<|i1 s
def Bh{a b r c d t s:ByteArray}(h:bW a b r c d t=true)(hs:bi a b r c d t=s):
  lm 35 s=aH a b/\lm 64 (i1 s)=r/\lm 35 (i2 s)=aH c d/\jo 35 (i2 s)=t:=by
 obtain⟨h1,h2,h3,h4⟩:=kM h;have hl:=FR h;rw[hs]at hl;obtain⟨c1,c2,-⟩:=Ai hl fun x hx=>(uq h1 x hx).1;obtain⟨d1,d2,-⟩:=Ai (s:=i1 s) c2 fun x hx=>(rD h2 x hx).2.2;obtain⟨e1,e2,-⟩:=Qu (o:=aH c d) (s:=t) (x:=i2 s) (fun x hx=>(uq h3 x hx).1) d2;exact⟨ik c1,ik d1,e1,e2⟩
def Kq(s a b r c d t:ByteArray)(f:Bool):Prop :=
 (f=true/\bW a b r c d t=true/\bi a b r c d t=s) \/
 (f=false/\(a=⟨#[]⟩/\b=⟨#[]⟩/\r=⟨#[]⟩/\c=⟨#[]⟩/\d=⟨#[]⟩/\t=⟨#[]⟩)/\∀a b r c d t,bW a b r c d t=true->bi a b r c d t≠s)
def zn{a b r c d t a' b' r' c' d' t':ByteArray}(h:bW a b r c d t=true)(h':bW a' b' r' c' d' t'=true)(e:bi a b r c d t=bi a' b' r' c' d' t'):
  a=a'/\b=b'/\r=r'/\c=c'/\d=d'/\t=t':=by
 obtain⟨x1,x2,x3,x4⟩:=Bh h e;obtain⟨y1,y2,y3,y4⟩:=Bh h' rfl;obtain⟨p1,p2,p3,p4⟩:=kM h;obtain⟨q1,q2,q3,q4⟩:=kM h';have o1:aH a b=aH a' b':=x1.symm.trans y1;have o2:aH c d=aH c' d':=x3.symm.trans y3;obtain⟨-,u1,u2⟩:=qo p1;obtain⟨-,v1,v2⟩:=qo q1;obtain⟨-,u3,u4⟩:=qo p3;obtain⟨-,v3,v4⟩:=qo q3;rw[o1]at u1 u2;rw[o2]at u3 u4;exact⟨u1.symm.trans v1,u2.symm.trans v2,x2.symm.trans y2,u3.symm.trans v3,u4.symm.trans v4,x4.symm.trans y4⟩
def Kq.one{s a b r c d t a' b' r' c' d' t':ByteArray}{f f':Bool}(h:Kq s a b r c d t f)(h':Kq s a' b' r' c' d' t' f'):
  (a=a'/\b=b'/\r=r'/\c=c'/\d=d'/\t=t')/\f=f':=by
 rcases h with⟨rfl,h1,h2⟩|⟨rfl,h1,h2⟩
 ·rcases h' with⟨rfl,k1,k2⟩|⟨rfl,k1,k2⟩
  ·exact⟨zn h1 k1<|h2.trans k2.symm,rfl⟩
  exact absurd h2<|k2 _ _ _ _ _ _ h1
 rcases h' with⟨rfl,k1,k2⟩|⟨rfl,k1,k2⟩
 ·exact absurd k2<|h2 _ _ _ _ _ _ k1
 obtain⟨rfl,rfl,rfl,rfl,rfl,rfl⟩:=h1;obtain⟨rfl,rfl,rfl,rfl,rfl,rfl⟩:=k1;exact⟨⟨rfl,rfl,rfl,rfl,rfl,rfl⟩,rfl⟩
end Go.Proofs.YtojjoblnpldniaaGreat.Pl
namespace Go.Proofs.YtojjoblnpldniaaGreat
open ChangeShapes WideShapes ChangeAt RowKit Maps
open Go.ChangeMaps (setBlock heap_setBlock_same heap_setBlock_other)
section
variable  {K:Type}{enc:K->Value}{P:Program}{k:TypeId}{w:World}{b n:Nat}{M:K->Option Value}
def aN.of_block{w':af}(h:aN enc P k w b n M)(e:w'.heap[b]?=w.heap[b]?):aN enc P k w' b n M:=by
 obtain⟨D,⟨es,clock,hb,r⟩,h2⟩:=h;exact⟨D,⟨es,clock,e.trans hb,r⟩,h2⟩
def rE{w:af}{b:Nat}{es es':Array MapEntry}{c c':Nat}(hb:w.heap[b]?=some (.map es c)):w.grownBy (setBlock w b<|.map es' c') (some b) :=
 ⟨rfl,rfl,rfl,by simp[setBlock],fun i _ hi=>heap_setBlock_other hb _ fun e=>hi<|by rw[e]⟩
def aN.entry[DecidableEq K]{t e:TypeId}(h:aN enc P k w b n M)(L:WideMaps.KeyLaw P k)(hinj:∀x y,enc x=enc y->x=y)(ht:P.underlying t=some (.map k e)){z:Value}(hz:∀u:World,(zeroValue e).run P u=.ok z u)(hn:n<maxLen){x:K}{kl:Lit}(hkey:keyOf P k (enc x)=some kl):
  ∃(st:Nat) (w1:World),(Instr.mapEntry t (.map<|some b)<|enc x).run P w=.ok (.tuple #[(M x).getD z,goInt st]) w1/\w.grownBy w1 (some b) /\
   ∀(w2:World) (val:Value),w2.heap[b]?=w1.heap[b]?→∃w3,(Instr.entryStore t (.map<|some b) (goInt st) val).run P w2=.ok () w3/\aN enc P k w3 b (n+1) (l6 M x<|some val)/\w2.grownBy w3 (some b):=by
 have LK:=Keyed.of_law L;have hlook:=h.look LK ht (hz w) hkey;have hst:=fun v=>h.store LK hinj ht hn hkey v;obtain⟨D,⟨es,clock,hb,F,hs,hD⟩,h2⟩:=h;obtain⟨v0,st,es1,clock1,hrun,hv0,hback⟩:=WideElems.entry_then_store L ht hz hb F hkey;have hb1:(setBlock w b<|.map es1 clock1).heap[b]?=some (.map es1 clock1):=heap_setBlock_same hb _;have ev:v0=(M x).getD z:=by
  have hl:=hlook;rcases Maps.fit_look false LK ht (hz w) hb F hkey with⟨Zq,hno,-⟩|⟨e0,y,hmem,hek,Zq,-,-,-⟩
  ·rw[hl]at Zq;injection Zq with e1;rcases hv0 with⟨e0,hm,hk0,-⟩|⟨-,hz0⟩
   ·exact absurd hk0<|hno e0 hm
   rw[hz0,e1];rfl
  rw[hl]at Zq;injection Zq with e1;rcases hv0 with⟨e1',hm,hk0,hv⟩|⟨hno,-⟩
  ·have hnd:=F.stamped.2.2;have:e1'=e0:=by
    have h3:e1'.key=e0.key:=by rw[hk0,hek]
    obtain⟨i,hi,hie⟩:=XA.1 hm;obtain⟨j,hj,hje⟩:=XA.1 hmem;have h4:(es.toList.map (·.key))[i]'(by simpa using hi)=(es.toList.map (·.key))[j]'(by simpa using hj):=by simp only[List.getElem_map,hie,hje];exact h3
    have h6:=List.pairwise_iff_getElem.1 hnd;have h5:i=j:=by
     rcases Nat.lt_trichotomy i j with hl|hl|hl
     ·exact absurd h4<|h6 i j _ _ hl
     ·exact hl
     exact absurd h4.symm<|h6 j i _ _ hl
    subst h5;rw[<-hie,<-hje]
   rw[hv,this,e1];rfl
  exact absurd hek<|hno e0 hmem
 refine⟨st,_,by rw[hrun,ev],rE hb,fun w2 val hw2=>?_⟩;have hw2':w2.heap[b]?=some (.map es1 clock1):=hw2.trans hb1;obtain⟨es',clock',hr1,hr2⟩:=hback w2 val hw2';obtain⟨w',hr3,hM',-⟩:=hst val;rw[hr2]at hr3;injection hr3 with _ e3;refine⟨_,hr1,hM'.of_block ?_,rE hw2'⟩;rw[<-e3,heap_setBlock_same hb,heap_setBlock_same hw2']
end
section
variable  {K:Type}{enc:K->Value}{P:Program}(w:World){ops:Array Oper}{rest:List Oper}{o:Oper}{a:Act}{Q:Exit->Act->World->Prop}
def Dj[DecidableEq K](hg:o.guard=none)(m x:Operand)(t:TypeId)(hop:o.op=Op.mapEntry t m x)(k e:TypeId)(L:WideMaps.KeyLaw P k)(hinj:∀x y,enc x=enc y->x=y)(ht:P.underlying t=some (.map k e)){z:Value}(hz:∀u:World,(zeroValue e).run P u=.ok z u)(b n:Nat)(M:K->Option Value)
  (hm:a.eval m=.map (some b)) (hV:aN enc P k w b n M) (hn:n<maxLen) (y:K) (kl:Lit) (hx:a.eval x=enc y) (hkey:keyOf P k (enc y)=some kl)
  (hK:∀ (st:Nat) (w1:World),w.grownBy w1 (some b)->(∀ (w2:World) (val:Value),w2.heap[b]?=w1.heap[b]?→∃ w3,(Instr.entryStore t (.map<|some b) (goInt st) val).run P w2=.ok () w3/\aN enc P k w3 b (n+1) (l6 M y<|some val)/\w2.grownBy w3 (some b)) ->
   wpList P ops Q rest (a.put o.dst<|.tuple #[(M y).getD z,goInt st]) w1):wpList P ops Q (o::rest) a w:=by
 refine wpList_plain hg fun K' hK'=>?_;obtain⟨st,w1,hrun,h1,h2⟩:=hV.entry L hinj ht hz hn hkey;unfold Oper.wp;simp[execOp,hop,hm,hx,hrun,Result.andThen];exact hK' _ _<|hK st w1 h1 h2
def uV(hg:o.guard=none)(m s v:Operand)(t:TypeId)(hop:o.op=Op.entryStore t m s v)(b st:Nat)(hm:a.eval m=.map (some b))(hs:a.eval s=goInt st)(u:Value)(hv:a.eval v=u)(k:TypeId)(n:Nat)(M:K->Option Value)
  (hback:∃w3,(Instr.entryStore t (.map<|some b) (goInt st) u).run P w=.ok () w3/\aN enc P k w3 b n M/\w.grownBy w3 (some b))
  (hK:∀w',aN enc P k w' b n M->w.grownBy w' (some b)->wpList P ops Q rest (a.put o.dst undef) w'):wpList P ops Q (o::rest) a w:=by
 refine wpList_plain hg fun K' hK'=>?_;obtain⟨w3,hrun,h1,h2⟩:=hback;unfold Oper.wp;simp[execOp,hop,hm,hs,hv,hrun,Result.andThen];exact hK' _ _<|hK w3 h1 h2
end
open Pl
set_option maxRecDepth 100000 in
def Dk(ad:Q02)(cap:Nat)(rs:Q08)(w:af)(hlen:bh rs)(hs:iw w ad rs)(hl:∀r∈rs,r.e.light)(hk:∀r∈rs,fF rs.length r.e.kids):
  Calls prog 260 #[.slice ad rs.length cap] w fun e w'=>e=.returned (.slice (some<|am w.heap.size) rs.length rs.length)/\Fil w w' w.heap.size rs.length (bools<|dH<|ai rs):=by
 have HS:=aB hs;have HL:=aB hl;have HK:=aB hk;clear hs hl hk;obtain⟨inf,hi,hz0,hz1,hz2⟩:=info_parts AU;go_enter func260,ntmps260;go_wp2_with(at_make;refine wpList_make_full _ rfl _ _ 338 rfl w.heap.size 4 inf (.bool false) 1 underlying338 hi hz0 hz1 .i64 .i64 _ _ rs.length rfl rfl rfl rfl (by rw[hz2];omega) cy (WK _) ?_;intro w0 hown0 Y0);have HF0:O (Fil w w0 w.heap.size rs.length<|bools<|List.replicate rs.length false):=by
  have:=DZ (v:=.bool false) hown0 Y0;show Fil _ _ _ _ _;simpa[bools] using this
 clear hown0 Y0 hi hz0 hz1 hz2;go_loopw[4] (fun i wr=>∃(m:Nat) (out:List Bool),m<=rs.length/\i=.int .i64 ((m:Int)-1)/\out.length=rs.length/\O (eQ (ai rs) m out=dH (ai rs))/\O (Fil w wr w.heap.size rs.length<|bools out)) (fun i _=>(intOf i+1).toNat);case atStart=>exact⟨rs.length,List.replicate rs.length false,WK _,cx,ct,(by show _=_;unfold dH;rw[au]),HF0⟩
 obtain⟨m,out,hm,rfl,hol,HN,HF⟩:=hrel;by_cases hm0:0<m
 ·obtain⟨m,rfl⟩:∃m',m=m'+1:=⟨m-1,cq⟩;have hmi:(((m+1:Nat):Int)-1)=(m:Int):=cq;rw[hmi];have hlt:m<rs.length:=cq;rcases HS.out.below HF.below with rfl|⟨b,off,rfl,hb,hr,hok⟩
  ·simp at hlt
  obtain⟨t0,t1,t2,t3,t4⟩:=hr m hlt;have Yn:O (rs[m].ok _):=hok rs[m]<|WH hlt;have lg:=(HL rs[m]<|WH hlt).2;have HKI:O (fF rs.length rs[m].e.kids):=HK rs[m]<|WH hlt;have hk1:=bY m;have hk2:(m:Int)<(rs.length:Int):=cq;have hbw:cU b w:=by
   rcases HS.out with h|⟨b',off',h1,h2,-⟩
   ·rw[h]at hlt;simp at hlt
   injection h1 with h1;injection h1 with h1;omega
  have HR:O (vP wr b (off+m*5) rs[m]):=hr m hlt;have HNX:O (eQ (ai rs) m (bF m rs[m].e.kind rs[m].e.kids 0 out)=dH (ai rs)):=by
   show _=_;rw[<-HN,AV _ _ _<|by rw[au];exact hlt];simp[ai]
  clear hr hok t0 t1 t2 t3;go_wp2_with fail;clear t4;go_loopw[23] (fun i w2=>∃(j:Nat) (Yf:List Bool),j<=rs[m].e.kids.length/\i=.int .i64 j/\Yf.length=rs.length/\O (bF m rs[m].e.kind (rs[m].e.kids.drop j) j Yf=bF m rs[m].e.kind rs[m].e.kids 0 out)/\O (Fil w w2 w.heap.size rs.length<|bools Yf)) (fun i _=>rs[m].e.kids.length-(intOf i).toNat);case atStart=>exact⟨0,out,WO _,rfl,hol,rfl,HF⟩
  obtain⟨j,Yf,hj,rfl,ho2,HJ,Y3⟩:=hrel;have hE2:iw wr _ rs:=HS.below Y3.below;have ht:vP wr b (off+m*5) rs[m]:=by
   rcases hE2 with h|⟨b',off',h1,h2,h3,-⟩
   ·exact absurd hlt (by rw[h];simp)
   injection h1 with h1;injection h1 with h1 h1';subst h1;subst h1';exact h3 m hlt
  obtain⟨t0,t1,t2,t3,t4⟩:=ht;by_cases hjl:j<rs[m].e.kids.length
  ·have hK2:sK wr rs[m].adK rs[m].e.kids:=(hE2.mem<|WH hlt).2;rcases hK2 with hnil|⟨ba,ZQ,Ze,hba,hra⟩
   ·rw[hnil]at hjl;simp at hjl
   rw[Ze];have q0:=hra j hjl;have hj1:=bY j;have hj2:(j:Int)<(rs[m].e.kids.length:Int):=cq;obtain⟨x0,x1⟩:=HKI _<|WH hjl;obtain⟨x,hx⟩:∃x:Nat,rs[m].e.kids[j]=(x:Int):=⟨rs[m].e.kids[j].toNat,cq⟩;rw[hx]at q0 x0 x1;have c0:=Y3.done m (by simp[bools];omega);have fz:=Y3.free;obtain⟨v0,u0⟩:=Option.isSome_iff_exists.mp<|Y3.there x cq;have hbr:cU b wr:=WJ hbw Y3.below.size;obtain⟨bo,hbo⟩:∃bo,bo=(bools Yf)[m]'(by simp[bools];omega):=⟨_,rfl⟩;rw[<-hbo]at c0;clear hra Ze hE2 t1 t2 t3;have hm2:m<Yf.length:=cq
   have hbo1:bo=.bool Yf[m]:=by rw[hbo];simp[bools]
   have hbo':Yf[m]?.getD false=Yf[m]:=by simp[hm2]
   rw[hbo1]at c0;clear hbo hbo1;cases hb0:Yf[m];case true=>
    rw[hb0]at c0 hbo';have ZT:O (Fil w (wr.setCell (a8 w x)<|.bool true) w.heap.size rs.length<|bools<|Yf.set x true):=by show Fil _ _ _ _ _;rw[oV];exact Y3.set _ (by simp[bools];omega) cq
    have HJ2:O (bF m rs[m].e.kind (rs[m].e.kids.drop<|j+1) (j+1) (Yf.set x true)=bF m rs[m].e.kind rs[m].e.kids 0 out):=by
     show _=_;rw[<-HJ,j6 _ _ _ _ _ hjl,hx];simp[*]
    go_wp2;go_roundw;case rel=>exact⟨j+1,Yf.set x true,cq,cx,by simp[ho2],HJ2,ZT⟩
    simp[intOf]<;>omega
   rw[hb0]at c0 hbo';cases hkb:(rs[m].e.kind==6);case false=>
    have ZT:O (Fil w (wr.setCell (a8 w x)<|.bool false) w.heap.size rs.length<|bools<|Yf.set x false):=by show Fil _ _ _ _ _;rw[oV];exact Y3.set _ (by simp[bools];omega) cq
    have HJ2:O (bF m rs[m].e.kind (rs[m].e.kids.drop<|j+1) (j+1) (Yf.set x false)=bF m rs[m].e.kind rs[m].e.kids 0 out):=by
     show _=_;rw[<-HJ,j6 _ _ _ _ _ hjl,hx];simp[*]
    go_wp2;go_roundw;case rel=>exact⟨j+1,Yf.set x false,cq,cx,by simp[ho2],HJ2,ZT⟩
    simp[intOf]<;>omega
   cases hjb:((j:Int)==1);case true=>
    have hjn:(j==1)=true:=by simp at hjb⊢;omega
    have ZT:O (Fil w (wr.setCell (a8 w x)<|.bool true) w.heap.size rs.length<|bools<|Yf.set x true):=by show Fil _ _ _ _ _;rw[oV];exact Y3.set _ (by simp[bools];omega) cq
    have HJ2:O (bF m rs[m].e.kind (rs[m].e.kids.drop<|j+1) (j+1) (Yf.set x true)=bF m rs[m].e.kind rs[m].e.kids 0 out):=by
     show _=_;rw[<-HJ,j6 _ _ _ _ _ hjl,hx];simp[*]
    go_wp2;go_roundw;case rel=>exact⟨j+1,Yf.set x true,cq,cx,by simp[ho2],HJ2,ZT⟩
    simp[intOf]<;>omega
   have hjn:(j==1)=false:=by simp at hjb⊢;omega
   have ZT:O (Fil w (wr.setCell (a8 w x)<|.bool false) w.heap.size rs.length<|bools<|Yf.set x false):=by show Fil _ _ _ _ _;rw[oV];exact Y3.set _ (by simp[bools];omega) cq
   have HJ2:O (bF m rs[m].e.kind (rs[m].e.kids.drop<|j+1) (j+1) (Yf.set x false)=bF m rs[m].e.kind rs[m].e.kids 0 out):=by
    show _=_;rw[<-HJ,j6 _ _ _ _ _ hjl,hx];simp[*]
   go_wp2;go_roundw;case rel=>exact⟨j+1,Yf.set x false,cq,cx,by simp[ho2],HJ2,ZT⟩
   simp[intOf]<;>omega
  have HOE:O (eQ (ai rs) m Yf=dH (ai rs)):=by
   show _=_;rw[<-HNX,<-HJ,Xm cq];rfl
  go_wp2;go_roundw;case rel=>exact⟨m,Yf,cq,cx,ho2,HOE,Y3⟩
  simp[intOf]<;>omega
 obtain rfl:m=0:=cq;have ZN:O (Fil w wr w.heap.size rs.length<|bools<|dH<|ai rs):=by
  show Fil _ _ _ _ _;rw[<-HN];exact HF
 go_wp2;go_ret;exact⟨rfl,ZN⟩
end Go.Proofs.YtojjoblnpldniaaGreat
namespace Go.Proofs.YtojjoblnpldniaaGreat.G
open ChangeShapes WideShapes ChangeAt RowKit Maps
open Pl
variable  {K α:Type}{enc:K->Value}{P:Program}{kt et:TypeId}{sz:Nat}{cl:α->List Value}
def FreeB(M:K->Option Value)(g:Nat):Prop:=∀k v,M k=some v->v.ownBlock≠some g
structure Stl(W:World)(M:K->Option Value)(w2:World)(M2:K->Option Value)(bL:Nat):Prop where
 size:W.heap.size<=w2.heap.size
 block:∀g,g<W.heap.size->g≠bL->FreeB M g->w2.heap[g]?=W.heap[g]?
 free:∀g,g<W.heap.size->FreeB M g->FreeB M2 g
def Stl.refl(W:af)(M:K->Option Value)(bL:Nat):Stl W M W M bL:=⟨WK _,fun _ _ _ _=>rfl,fun _ _ h=>h⟩
def Stl.trans{W w2 w3:af}{M M2 M3:K->Option Value}{bL:Nat}(h:Stl W M w2 M2 bL)(h2:Stl w2 M2 w3 M3 bL):Stl W M w3 M3 bL where
 size:=WR h.size h2.size
 block g hg hb hf:=(h2.block g (WJ hg h.size) hb<|h.free g hg hf).trans<|h.block g hg hb hf
 free g hg hf:=h2.free g (WJ hg h.size)<|h.free g hg hf
def Stl.below{W w2:af}{M:K->Option Value}{bL:Nat}(hB:ag W w2):Stl W M w2 M bL:=⟨hB.size,fun g hg _ _=>hB.block g hg,fun _ _ h=>h⟩
structure Cel(w:World)(M:K->Option Value)(bL g o:Nat)(u:Value):Prop where
 cell:w.cell? ⟨g,o,none⟩=some u
 lt:g<w.heap.size
 free:FreeB M g
 ne:g≠bL
def Cel.stl{w w2:af}{M M2:K->Option Value}{bL g o:Nat}{u:Value}(h:Cel w M bL g o u)(hS:Stl w M w2 M2 bL):Cel w2 M2 bL g o u where
 cell:=(WX (w:=w)<|hS.block g h.lt h.ne h.free).trans h.cell
 lt:=WJ h.lt hS.size
 free:=hS.free g h.lt h.free
 ne:=h.ne
def Kr{w w':af}{base:Nat}{e:TypeId}{size:Nat}{v:Value}{n:Nat}{xs:Q03}(h:w.ownsRow base e size v n xs)(hb:ag w w'):w'.ownsRow base e size v n xs:=by
 have hl:=fun g hg=>(h.lt g hg).2;refine⟨h.1,?_⟩;rcases h.2 with h0|⟨g,cap,cur,rfl,h1,h2,h3⟩
 ·exact .inl h0
 exact .inr ⟨g,cap,cur,rfl,h1,(hb.block g<|hl g rfl).trans h2,h3⟩
variable  [DecidableEq K]
def flatG(cl:α->List Value)(xs:List α):List Value:=xs.flatMap cl
def Kt(cl:α->List Value)(xs:List α)(x:α):flatG cl (xs++[x])=flatG cl xs++cl x:=by simp[flatG]
def lookL(E:List<|K×α)(k:K):List α:=E.filterMap fun p=>if p.1=k then some p.2 else none
def lookL_append(E F:List<|K×α)(k:K):lookL (E++F) k=lookL E k++lookL F k:=by unfold lookL;rw[List.filterMap_append]
def uW(E:List<|K×α)(k:K)(s:α):lookL (E++[(k,s)]) k=lookL E k++[s]:=by rw[lookL_append];simp[lookL]
def rF(E:List<|K×α){k y:K}(s:α)(h:k≠y):lookL (E++[(y,s)]) k=lookL E k:=by rw[lookL_append];simp[lookL,Ne.symm h]
def mem_lookL{E:List<|K×α}{k:K}{s:α}:s∈lookL E k↔(k,s)∈E:=by
 unfold lookL;rw[List.mem_filterMap];constructor
 ·rintro⟨⟨a,b⟩,h1,h2⟩;simp only at h2;split at h2
  ·rename_i e;injection h2 with h2;rw[<-e,<-h2];exact h1
  cases h2
 intro h;exact⟨(k,s),h,ct⟩
structure Grp(enc:K->Value)(P:Program)(kt et:TypeId)(sz:Nat)(cl:α->List Value)(w:World)(bL n:Nat)(M:K->Option Value)(E:List<|K×α):Prop where
 map:aN enc P kt w bL n M
 row:∀k,(M k=none/\lookL E k=[]) \/ ∃v,M k=some v/\w.ownsRow (bL+1) et sz v (lookL E k).length (flatG cl<|lookL E k)
 apart:∀k k' v v',k≠k'->M k=some v->M k'=some v'->∀g,v.ownBlock=some g->v'.ownBlock≠some g
def Grp.lt{w:af}{bL n:Nat}{M:K->Option Value}{E:List<|K×α}(h:Grp enc P kt et sz cl w bL n M E){k:K}{v:Value}(hk:M k=some v){g:Nat}(hg:v.ownBlock=some g):bL<g/\g<w.heap.size:=by
 rcases h.row k with⟨e,-⟩|⟨v',e,ho⟩
 ·rw[e]at hk;cases hk
 rw[e]at hk;injection hk with hk;subst hk;have:=ho.lt g hg;exact⟨cq,this.2⟩
def Grp.fresh{w:af}{bL n:Nat}{M:K->Option Value}{E:List<|K×α}(h:Grp enc P kt et sz cl w bL n M E){g:Nat}(hg:w.heap.size<=g):FreeB M g:=fun k v hk e=>by
 have:=(h.lt hk e).2;omega
def Grp.mono{w:af}{bL n n':Nat}{M:K->Option Value}{E:List<|K×α}(h:Grp enc P kt et sz cl w bL n M E)(hn:n<=n'):Grp enc P kt et sz cl w bL n' M E:=⟨h.map.mono hn,h.row,h.apart⟩
def Grp.below{w w':af}{bL n:Nat}{M:K->Option Value}{E:List<|K×α}(h:Grp enc P kt et sz cl w bL n M E)(hB:ag w w'):Grp enc P kt et sz cl w' bL n M E where
 map:=h.map.below hB
 row k:=by
  rcases h.row k with e|⟨v,e,ho⟩
  ·exact .inl e
  exact .inr ⟨v,e,Kr ho hB⟩
 apart:=h.apart
def grp_made(w:af):Grp enc P kt et sz cl (w.alloc<|.map #[] 0) w.heap.size 0 (fun _=>none) [] where
 map:=oM _ _ _ w
 row k:=.inl ⟨rfl,rfl⟩
 apart k k' v v' _ h:=by cases h
def Grp.step{W0 w1 w2 w3:af}{bL n:Nat}{M:K->Option Value}{E:List<|K×α}{y:K}{v':Value}{s:α}(h:Grp enc P kt et sz cl W0 bL n M E)(hg1:W0.grownBy w1<|some bL)(hown:w2.ownsRow (bL+1) et sz v' ((lookL E y).length+1)<|flatG cl (lookL E y)++cl s)
  (hg2:w1.grownBy w2 ((M y).getD<|.slice none 0 0).ownBlock) (hloc:v'.ownBlock=((M y).getD<|.slice none 0 0).ownBlock\/v'.ownBlock=some w1.heap.size) (hg3:w2.grownBy w3<|some bL) (hM:aN enc P kt w3 bL (n+1)<|l6 M y<|some v') :
  Grp enc P kt et sz cl w3 bL (n+1) (l6 M y<|some v') (E++[(y,s)])/\Stl W0 M w3 (l6 M y<|some v') bL:=by
 have hrow0:∀k v,M k=some v->∃xs m,W0.ownsRow (bL+1) et sz v m xs:=fun k v hk=>by
  rcases h.row k with⟨e,-⟩|⟨v1,e,ho⟩
  ·rw[e]at hk;cases hk
  rw[e]at hk;injection hk with hk;subst hk;exact⟨_,_,ho⟩
 have hne2:∀k v,k≠y->M k=some v->v.ownBlock=none\/v.ownBlock≠((M y).getD<|.slice none 0 0).ownBlock:=fun k v hky hk=>by
  cases e:v.ownBlock with
  | none=>exact .inl rfl
  | some g =>
   right;cases ey:M y with
   | none=>simp[Value.ownBlock]
   | some vy=>intro e2;exact h.apart k y v vy hky hk ey g e (by simpa using e2.symm)
 have hnb:∀v,(∃k,M k=some v)->v.ownBlock=none\/v.ownBlock≠some bL:=fun v ⟨k,hk⟩=>by
  cases e:v.ownBlock with
  | none=>exact .inl rfl
  | some g=>right;have:=(h.lt hk e).1;intro e2;injection e2 with e2;omega
 have hnew:∀g,v'.ownBlock=some g->bL<g:=fun g e=>by have:=(hown.lt g e).1;omega
 have hv'b:v'.ownBlock=none\/v'.ownBlock≠some bL:=by
  cases e:v'.ownBlock with
  | none=>exact .inl rfl
  | some g=>right;have:=hnew g e;intro e2;injection e2 with e2;omega
 constructor
 ·refine⟨hM,fun k=>?_,fun k k' v u hkk hk hk' g e=>?_⟩
  ·by_cases ek:k=y
   ·subst ek;rw[fu,uW];refine .inr ⟨v',rfl,?_⟩;rw[Kt,WP];exact hown.kept hg3 hv'b
   rw[dh ek,rF _ _ ek];rcases h.row k with e|⟨v,e,ho⟩
   ·exact .inl e
   exact .inr ⟨v,e,((ho.kept hg1<|hnb v ⟨k,e⟩).kept hg2<|hne2 k v ek e).kept hg3<|hnb v ⟨k,e⟩⟩
  by_cases ek:k=y
  ·subst ek;rw[fu]at hk;injection hk with hk;subst hk;rw[dh (Ne.symm hkk)]at hk';intro e2;rcases hloc with el|el
   ·rw[e]at el;cases ey:M k with
    | none=>rw[ey]at el;simp[Value.ownBlock]at el
    | some vy=>rw[ey]at el;exact h.apart k k' vy u hkk ey hk' g (by simpa using el.symm) e2
   rw[e]at el;injection el with el;have:=(h.lt hk' e2).2;have:=hg1.size;omega
  rw[dh ek]at hk;by_cases ek':k'=y
  ·subst ek';rw[fu]at hk';injection hk' with hk';subst hk';intro e2;rcases hloc with el|el
   ·rw[e2]at el;cases ey:M k' with
    | none=>rw[ey]at el;simp[Value.ownBlock]at el
    | some vy=>rw[ey]at el;exact h.apart k k' v vy hkk hk ey g e (by simpa using el.symm)
   rw[e2]at el;injection el with el;have:=(h.lt hk e).2;have:=hg1.size;omega
  rw[dh ek']at hk';exact h.apart k k' v u hkk hk hk' g e
 refine⟨WR hg1.size<|WR hg2.size hg3.size,fun g hg hb hf=>?_,fun g hg hf k v hk=>?_⟩
 ·have h1:=hg1.block g hg (fun e=>hb<|by injection e);have h2:=hg2.block g (WJ hg hg1.size) (fun e=>by
   cases ey:M y with
   | none=>rw[ey]at e;simp[Value.ownBlock]at e
   | some vy=>rw[ey]at e;exact hf y vy ey<|by simpa using e.symm)
  have h3:=hg3.block g (WJ hg<|WR hg1.size hg2.size) (fun e=>hb<|by injection e);rw[h3,h2,h1]
 by_cases ek:k=y
 ·subst ek;rw[fu]at hk;injection hk with hk;subst hk;intro e2;rcases hloc with el|el
  ·rw[e2]at el;cases ey:M k with
   | none=>rw[ey]at el;simp[Value.ownBlock]at el
   | some vy=>rw[ey]at el;exact hf k vy ey (by simpa using el.symm)
  rw[e2]at el;injection el with el;have:=hg1.size;omega
 rw[dh ek]at hk;exact hf k v hk
end Go.Proofs.YtojjoblnpldniaaGreat.G
namespace Go.Proofs.YtojjoblnpldniaaGreat
open RowKit
section
variable  {P:Program}{ops:Array Oper}{Q:Exit->Act->World->Prop}
def qU{id:Nat}{a:Act}{w:af}(L:Nat)(f0:Nat->Value)(F:(Nat->Value)->Act)(I:(Nat->Bool)->(Nat->Value)->World->Prop)
  (hm:P.follows .mixedOrders=true) (hsz:ops.size=L+1) (YC:xU ops=true) (hlo:FH ops L=true)
  (h0:a=F f0) (hI0:I (fun _=>false) f0 w.drew)
  (hstep:∀ i,i<L->∀ o,ops[i]?=some o->∀ (l:Nat->Bool) f w',l i=false->I l f w'->(∀ e∈o.after,Region.binds .any e=true->l e.on=true) ->
   wpOp P ops Q i (fun a' w''=>∃v,a'=F (upd f i v)/\I (fun k=>if k=i then true else l k) (upd f i v) w'') (F f) w')
  (hfin:∀o,ops[L]?=some o->∀(l:Nat->Bool) f w',(∀k,k<L->l k=true)->I l f w'->wpOp P ops Q L (fun a' w''=>Q .normal a' w'') (F f) w') :
  (Code.region id ops true).wp P Q a w:=by
 refine eY (fun listed a' w'=>listed.size=L+1/\((listed.getD L false=false/\∃f,a'=F f/\I (fun k=>listed.getD k false) f w')\/((∀j,j<=L->listed.getD j true=true)/\Q .normal a' w'))) hm ?_ ?_ ?_
 ·refine⟨by simpa using hsz,Or.inl ⟨?_,_,h0,?_⟩⟩
  ·rw[Xf,Xz];split<;>rfl
  have:(fun k=>(Array.replicate ops.size false).getD k false)=fun _=>false:=funext fun k=>by rw[Xf,Xz];split<;>rfl
  rw[this];exact hI0
 ·rintro listed a' w' ⟨hs,h⟩ i hi;obtain⟨hl,o,ho,hpre⟩:=mem_ready.1 hi;have hiL:i<L+1:=by have:=(WQ.1 ho).1;omega
  rcases h with⟨hn,f,rfl,hI⟩|⟨hall,-⟩
  ·by_cases e:i=L
   ·subst e;have hall:∀k,k<i->listed.getD k false=true:=fun k hk=>by
     obtain⟨e,he,rfl,hb⟩:=DN hlo o ho k hk;exact hpre e he hb
    refine wpOp_mono (fun a'' w'' hq=>⟨by simpa using hs,Or.inr ⟨fun j hj=>?_,hq⟩⟩) (hfin o ho _ f w' hall hI);rw[jY (by simp;omega),aO _ _ _ cq];by_cases e:j=i
    ·simp[e]
    rw[if_neg e];exact hall j cq
   refine wpOp_mono ?_ (hstep i cq o ho _ f w' (by rw[<-jY cq];exact hl) hI (fun e he hb=>hpre e he hb));rintro a'' w'' ⟨v,rfl,hI'⟩;refine⟨by simpa using hs,Or.inl ⟨?_,_,rfl,?_⟩⟩
   ·rw[aO _ _ _ cq,if_neg<|Ne.symm e];exact hn
   have:(fun k=>(listed.setIfInBounds i true).getD k false)=fun k=>if k=i then true else listed.getD k false:=funext fun k=>aO _ _ _ cq
   rw[this];exact hI'
  rw[hall i cq]at hl;cases hl
 rintro listed a' w' ⟨hs,h⟩ hr;rcases h with⟨hn,-⟩|⟨-,hq⟩
 ·have:=nQ hr hsz (mi YC) hs L cq;rw[jY cq]at this;rw[this]at hn;cases hn
 exact hq
end
end Go.Proofs.YtojjoblnpldniaaGreat
namespace Go.Proofs.YtojjoblnpldniaaGreat.G
set_option linter.unusedVariables false
open ChangeShapes WideShapes ChangeAt RowKit Maps
open Pl
def Back{K:Type}[DecidableEq K](enc:K->Value)(P:Program)(kt t:TypeId)(bp n:Nat)(M:K->Option Value)(y:K)(st:Nat)(w:World):Prop :=
 ∀(w2:World) (val:Value),w2.heap[bp]?=w.heap[bp]?→∃w3,(Instr.entryStore t (.map<|some bp) (goInt st) val).run P w2=.ok () w3/\aN enc P kt w3 bp (n+1) (l6 M y<|some val)/\w2.grownBy w3 (some bp)
def put(l:Nat->Bool)(i:Nat):Nat->Bool:=fun k=>if k=i then true else l k
structure EA(C:Nat->Value)(NEW:Array Value)(et:TypeId)(W:World)(l:Nat->Bool)(f:Nat->Value)(w:World):Prop where
 late:∀k,7<=k->k<=10->l k=false
 bel:ag W w
 val:∀k,k<=5->l k=true->f k=C k
 row:l 6=true->∃g,f 6=.slice (some ⟨g,0,none⟩) 1 1/\W.heap.size<=g/\w.heap[g]?=some (.cells NEW et (0,0))
structure EB(C:Nat->Value)(NEW:Array Value)(et:TypeId)(W:World)(bp:Nat)(row0:Value)(BK:Nat->World->Prop)(l:Nat->Bool)(f:Nat->Value)(w:World):Prop where
 low:∀k,k<=7->l k=true
 l9:l 9=false
 val:∀k,k<=5->f k=C k
 mid:∃(W0:World) (st g:Nat),ag W W0/\f 6=.slice (some ⟨g,0,none⟩) 1 1/\W.heap.size<=g/\W0.heap[g]?=some (.cells NEW et (0,0))/\W0.grownBy w (some bp)/\f 7=.tuple #[row0,goInt st]/\BK st w/\(l 8=true->f 8=row0)/\(l 10=true->f 10=goInt st)
structure EC(C:Nat->Value)(NEW:Array Value)(et:TypeId)(sz:Nat)(W:World)(bp:Nat)(row0:Value)(nn:Nat)(xs:Q03)(BK:Nat->World->Prop)(l:Nat->Bool)(f:Nat->Value)(w:World):Prop where
 low:∀k,k<=9->l k=true
 val:∀k,k<=5->f k=C k
 mid:∃(W0 w1:World) (st:Nat),ag W W0/\W0.grownBy w1 (some bp)/\w1.grownBy w row0.ownBlock/\w.ownsRow (bp+1) et sz (f 9) (nn+1) (xs++NEW.toList)/\((f 9).ownBlock=row0.ownBlock\/(f 9).ownBlock=some w1.heap.size)/\BK st w1/\f 7=.tuple #[row0,goInt st]/\(l 10=true->f 10=goInt st)
def EI(C:Nat->Value)(NEW:Array Value)(et:TypeId)(sz:Nat)(W:World)(bp:Nat)(row0:Value)(nn:Nat)(xs:Q03)(BK:Nat->World->Prop)(l:Nat->Bool)(f:Nat->Value)(w:World):Prop :=
 EA C NEW et W l f w\/EB C NEW et W bp row0 BK l f w\/EC C NEW et sz W bp row0 nn xs BK l f w
section
variable  {C:Nat->Value}{NEW:Array Value}{et:TypeId}{sz:Nat}{W:World}{bp:Nat}{row0:Value}{nn:Nat}{xs:Q03}{BK:Nat->World->Prop}{l:Nat->Bool}{f:Nat->Value}{w:World}
def ei_start(W:af):EI C NEW et sz W bp row0 nn xs BK (fun _=>false) f W.drew:=.inl ⟨fun _ _ _=>rfl,(WL _ _).drew,fun _ _ h=>(by cases h),fun h=>(by cases h)⟩
def EI.early(h:EI C NEW et sz W bp row0 nn xs BK l f w){i:Nat}(hi:i<=7)(hl:l i=false):EA C NEW et W l f w:=by
 rcases h with h|h|h
 ·exact h
 ·rw[h.low i hi]at hl;cases hl
 rw[h.low i cq]at hl;cases hl
def EA.put{i:Nat}(h:EA C NEW et W l f w)(hi:i<=5){v:Value}(hv:v=C i):EI C NEW et sz W bp row0 nn xs BK (fun k=>if k=i then true else l k) (upd f i v) w:=by
 refine .inl ⟨fun k h7 h10=>?_,h.bel,fun k hk hl=>?_,fun hl=>?_⟩
 ·show(if _=_ then true else _)=_;rw[if_neg cq];exact h.late k h7 h10
 ·by_cases e:k=i
  ·subst e;simp[upd,hv]
  simp only[if_neg e]at hl;simp only[upd,if_neg e];exact h.val k hk hl
 replace hl:(if _=_ then true else _)=true:=hl;rw[if_neg cq]at hl;simp only[upd];rw[if_neg cq];exact h.row hl
def EA.lay(h:EA C NEW et W l f w):EI C NEW et sz W bp row0 nn xs BK (fun k=>if k=6 then true else l k) (upd f 6<|.slice (some<|am w.heap.size) 1 1) (w.alloc<|.cells NEW et):=by
 refine .inl ⟨fun k h7 h10=>?_,h.bel.alloc h.bel.size _,fun k hk hl=>?_,fun _=>⟨w.heap.size,by simp[upd],h.bel.size,heap_alloc_new w _⟩⟩
 ·show(if _=_ then true else _)=_;rw[if_neg cq];exact h.late k h7 h10
 replace hl:(if _=_ then true else _)=true:=hl;rw[if_neg cq]at hl;simp only[upd];rw[if_neg cq];exact h.val k hk hl
def EA.took(h:EA C NEW et W l f w)(hall:∀k,k<=6->l k=true){st:Nat}{w1:af}(hg:w.grownBy w1<|some bp)(hb:BK st w1):EI C NEW et sz W bp row0 nn xs BK (fun k=>if k=7 then true else l k) (upd f 7<|.tuple #[row0,goInt st]) w1:=by
 obtain⟨g,e6,hg6,hc⟩:=h.row<|hall 6 cq;refine .inr<|.inl ⟨fun k hk=>?_,?_,fun k hk=>?_,w,st,g,h.bel,?_,hg6,hc,hg,?_,hb,fun h8=>?_,fun h10=>?_⟩
 ·by_cases e:k=7
  ·simp[e]
  simp only[if_neg e];exact hall k cq
 ·show(if (9:Nat)=7 then true else l 9)=false;rw[if_neg cq];exact h.late 9 cq cq
 ·simp only[upd];rw[if_neg cq];exact h.val k hk<|hall k cq
 ·simp only[upd];rw[if_neg cq];exact e6
 ·simp[upd]
 ·have:(if (8:Nat)=7 then true else l 8)=true:=h8;rw[if_neg cq,h.late 8 cq cq]at this;cases this
 have:(if (10:Nat)=7 then true else l 10)=true:=h10;rw[if_neg cq,h.late 10 cq cq]at this;cases this
def EI.midB(h:EI C NEW et sz W bp row0 nn xs BK l f w)(h7:l 7=true){i:Nat}(hi:i<=9)(hl:l i=false):EB C NEW et W bp row0 BK l f w:=by
 rcases h with h|h|h
 ·rw[h.late 7 cq cq]at h7;cases h7
 ·exact h
 rw[h.low i hi]at hl;cases hl
def EI.seven(h:EI C NEW et sz W bp row0 nn xs BK l f w)(h7:l 7=true):∃st:Nat,f 7=.tuple #[row0,goInt st]:=by
 rcases h with h|h|h
 ·rw[h.late 7 cq cq]at h7;cases h7
 ·obtain⟨_,st,_,_,_,_,_,_,e,_⟩:=h.mid;exact⟨st,e⟩
 obtain⟨_,_,st,_,_,_,_,_,_,e,_⟩:=h.mid;exact⟨st,e⟩
def EB.first(h:EB C NEW et W bp row0 BK l f w):EI C NEW et sz W bp row0 nn xs BK (fun k=>if k=8 then true else l k) (upd f 8 row0) w:=by
 obtain⟨W0,st,g,h1,h2,h3,h4,h5,h6,h7,h8,h9⟩:=h.mid;refine .inr<|.inl ⟨fun k hk=>?_,?_,fun k hk=>?_,W0,st,g,h1,?_,h3,h4,h5,?_,h7,fun _=>?_,fun h10=>?_⟩
 ·show(if _=_ then true else _)=_;rw[if_neg cq];exact h.low k hk
 ·show(if (9:Nat)=8 then true else l 9)=false;rw[if_neg cq];exact h.l9
 ·simp only[upd];rw[if_neg cq];exact h.val k hk
 ·simp only[upd];rw[if_neg cq];exact h2
 ·simp only[upd];rw[if_neg cq];exact h6
 ·simp[upd]
 have h10':(if (10:Nat)=8 then true else l 10)=true:=h10;rw[if_neg cq]at h10';simp only[upd];rw[if_neg cq];exact h9 h10'
def EI.second(h:EI C NEW et sz W bp row0 nn xs BK l f w)(h7:l 7=true){st:Nat}(e:f 7=.tuple #[row0,goInt st]):EI C NEW et sz W bp row0 nn xs BK (fun k=>if k=10 then true else l k) (upd f 10<|goInt st) w:=by
 have same:∀st':Nat,.tuple #[row0,goInt st']=Value.tuple #[row0,goInt st]->goInt st'=goInt st:=fun st' e=>by
  injection e with e;have:=congrArg Array.toList e;simp only[List.cons.injEq]at this;exact this.2.1
 rcases h with h|h|h
 ·rw[h.late 7 cq cq]at h7;cases h7
 ·obtain⟨W0,st',g,h1,h2,h3,h4,h5,h6,hb,h8,h9⟩:=h.mid;have es:=same st'<|h6.symm.trans e;refine .inr<|.inl ⟨fun k hk=>?_,?_,fun k hk=>?_,W0,st',g,h1,?_,h3,h4,h5,?_,hb,fun h8'=>?_,fun _=>?_⟩
  ·show(if _=_ then true else _)=_;rw[if_neg cq];exact h.low k hk
  ·show(if (9:Nat)=10 then true else l 9)=false;rw[if_neg cq];exact h.l9
  ·simp only[upd];rw[if_neg cq];exact h.val k hk
  ·simp only[upd];rw[if_neg cq];exact h2
  ·simp only[upd];rw[if_neg cq];exact h6
  ·have h8'':(if (8:Nat)=10 then true else l 8)=true:=h8';rw[if_neg cq]at h8'';simp only[upd];rw[if_neg cq];exact h8 h8''
  simp[upd,es]
 obtain⟨W0,w1,st',h1,h2,h3,h4,h5,hb,h6,h9⟩:=h.mid;have es:=same st'<|h6.symm.trans e;refine .inr<|.inr ⟨fun k hk=>?_,fun k hk=>?_,W0,w1,st',h1,h2,h3,?_,?_,hb,?_,fun _=>?_⟩
 ·show(if _=_ then true else _)=_;rw[if_neg cq];exact h.low k hk
 ·simp only[upd];rw[if_neg cq];exact h.val k hk
 ·simp only[upd];rw[if_neg cq];exact h4
 ·simp only[upd];rw[if_neg cq];exact h5
 ·simp only[upd];rw[if_neg cq];exact h6
 simp[upd,es]
def EB.app(h:EB C NEW et W bp row0 BK l f w)(h8:l 8=true){v':Value}{w':af}(hg:w.grownBy w' row0.ownBlock)(ho:w'.ownsRow (bp+1) et sz v' (nn+1)<|xs++NEW.toList)(hloc:v'.ownBlock=row0.ownBlock\/v'.ownBlock=some w.heap.size):EI C NEW et sz W bp row0 nn xs BK (fun k=>if k=9 then true else l k) (upd f 9 v') w':=by
 obtain⟨W0,st,g,h1,h2,h3,h4,h5,h6,hb,_,h9⟩:=h.mid;refine .inr<|.inr ⟨fun k hk=>?_,fun k hk=>?_,W0,w,st,h1,h5,hg,?_,?_,hb,?_,fun h10=>?_⟩
 ·by_cases e:k=9
  ·simp[e]
  by_cases e8:k=8
  ·simp only[if_neg e];rw[e8];exact h8
  simp only[if_neg e];exact h.low k cq
 ·simp only[upd];rw[if_neg cq];exact h.val k hk
 ·simp only[upd,if_true];exact ho
 ·simp only[upd,if_true];exact hloc
 ·simp only[upd];rw[if_neg cq];exact h6
 have h10':(if (10:Nat)=9 then true else l 10)=true:=h10;rw[if_neg cq]at h10';simp only[upd];rw[if_neg cq];exact h9 h10'
def EI.last(h:EI C NEW et sz W bp row0 nn xs BK l f w)(hall:∀k,k<11->l k=true):EC C NEW et sz W bp row0 nn xs BK l f w:=by
 rcases h with h|h|h
 ·have:=hall 7 cq;rw[h.late 7 cq cq]at this;cases this
 ·have:=hall 9 cq;rw[h.l9]at this;cases this
 exact h
end
end Go.Proofs.YtojjoblnpldniaaGreat.G
namespace Go.Proofs.YtojjoblnpldniaaGreat
open ChangeShapes WideShapes ChangeAt RowKit Maps
abbrev K3:=ByteArray×ByteArray×ByteArray
def rG(k:K3):Value:=.agg #[.string k.1,.string k.2.1,.string k.2.2]
def Qv(x y:K3)(h:rG x=rG y):x=y:=by
 unfold rG at h;injection h with h;have h1:=congrArg Array.toList h;simp at h1;exact Prod.ext h1.1<|Prod.ext h1.2.1 h1.2.2
def VW:(273:TypeId)<prog.types.size:=of_decide_eq_true cw
def Ve:(match prog.underlying 273 with|some (.array _ _)|some (.struct _)=>true|_=>false)=true:=by rw[underlying273]
set_option maxRecDepth 100000 in
def Qw:WideMaps.KeyLaw prog 273:=deep_law_laid Aw (m:=3) cq VW cw Ve
def UO:Keyed prog 273:=Keyed.of_law Qw
def Vf:prog.keyType 273=true:=cw
def MH:prog.cellsOf 273=3:=cw
def NK:prog.cellsOf 27=2:=cw
def NL:2<=prog.types.size:=of_decide_eq_true cw
def Bi:∃n,prog.types.size=n+2:=⟨prog.types.size-2,by have:=NL;omega⟩
set_option maxRecDepth 100000 in
def FT(k:K3)(h0:k.1.size<=maxLen)(h1:k.2.1.size<=maxLen)(h2:k.2.2.size<=maxLen):∃kl,keyOf prog 273 (rG k)=some kl:=by
 obtain⟨n,hn⟩:=Bi;refine⟨.string<|keyBytes [.string k.1.data.toList,.string k.2.1.data.toList,.string k.2.2.data.toList],?_⟩;unfold keyOf;rw[underlying273];simp only[Vf,rG,Value.formed,underlying273,MH,hn,Value.cells];simp +decide [Program.keyLits,underlying273,underlying27,underlying9,MH,NK,strCells,h0,h1,h2]
abbrev KL:=ByteArray×Int
def Hw(k:KL):Value:=.agg #[.string k.1,.int .i64 k.2]
def Qx(x y:KL)(h:Hw x=Hw y):x=y:=by
 unfold Hw at h;injection h with h;have h1:=congrArg Array.toList h;simp at h1;exact Prod.ext h1.1 h1.2
def VX:(197:TypeId)<prog.types.size:=of_decide_eq_true cw
def Vg:(match prog.underlying 197 with|some (.array _ _)|some (.struct _)=>true|_=>false)=true:=by rw[underlying197]
set_option maxRecDepth 100000 in
def Qy:WideMaps.KeyLaw prog 197:=deep_law_laid Aw (m:=2) cq VX cw Vg
def VY:Keyed prog 197:=Keyed.of_law Qy
def Vh:prog.keyType 197=true:=cw
def MI:prog.cellsOf 197=2:=cw
def Qz:prog.cellsOf 2=1:=cw
set_option maxRecDepth 100000 in
def MJ(k:KL)(h0:k.1.size<=maxLen)(h1:0<=k.2)(h2:k.2<=1000000):∃kl,keyOf prog 197 (Hw k)=some kl:=by
 have hw:(Lit.int .i64 k.2).wf=true:=WalkArith.wf_i64 ⟨cq,cq⟩;obtain⟨n,hn⟩:=Bi;refine⟨.string<|keyBytes [.string k.1.data.toList,.int .i64 k.2],?_⟩;unfold keyOf;rw[underlying197];simp only[Vh,Hw,Value.formed,underlying197,MI,hn,Value.cells];simp +decide [Program.keyLits,underlying197,underlying2,underlying9,MI,Qz,strCells,h0,hw]
end Go.Proofs.YtojjoblnpldniaaGreat
namespace Go.Proofs.YtojjoblnpldniaaGreat.G
set_option linter.unusedVariables false
open ChangeShapes WideShapes ChangeAt RowKit
structure WI(C:Nat->Value)(W:World)(CD:Value->World->Prop)(l:Nat->Bool)(f:Nat->Value)(w:World):Prop where
 val:∀k,k<=9->k≠7->l k=true->f k=C k
 seq:l 7=true->l 4=true/\l 6=true
 nin:l 9=true->l 8=true
 mid:(l 7=false/\ag W w)\/(l 7=true/\CD (f 7) w)
section
variable  {C:Nat->Value}{W:World}{CD:Value->World->Prop}{l:Nat->Bool}{f:Nat->Value}{w:World}
def wi_start(W:af):WI C W CD (fun _=>false) f W.drew:=⟨fun _ _ _ h=>(by cases h),fun h=>(by cases h),fun h=>(by cases h),.inl ⟨rfl,(WL _ _).drew⟩⟩
def WI.put(h:WI C W CD l f w){i:Nat}(hi:i≠7)(h9:i=9->l 8=true){v:Value}(hv:v=C i):WI C W CD (fun k=>if k=i then true else l k) (upd f i v) w:=by
 refine⟨fun k hk h7 hl=>?_,fun hl=>?_,fun hl=>?_,?_⟩
 ·by_cases e:k=i
  ·subst e;simp[upd,hv]
  simp only[if_neg e]at hl;simp only[upd,if_neg e];exact h.val k hk h7 hl
 ·have hl':(if (7:Nat)=i then true else l 7)=true:=hl;rw[if_neg (Ne.symm hi)]at hl';have:=h.seq hl';constructor
  ·show(if (4:Nat)=i then true else l 4)=true;rw[this.1];split<;>rfl
  show(if (6:Nat)=i then true else l 6)=true;rw[this.2];split<;>rfl
 ·have hl':(if (9:Nat)=i then true else l 9)=true:=hl;show(if (8:Nat)=i then true else l 8)=true;by_cases e:(9:Nat)=i
  ·rw[h9 e.symm];split<;>rfl
  rw[if_neg e]at hl';rw[h.nin hl'];split<;>rfl
 have e7:(if (7:Nat)=i then true else l 7)=l 7:=if_neg<|Ne.symm hi;have f7:upd f i v 7=f 7:=by simp only[upd];rw[if_neg (Ne.symm hi)]
 rcases h.mid with⟨h1,h2⟩|⟨h1,h2⟩
 ·exact .inl ⟨e7.trans h1,h2⟩
 exact .inr ⟨e7.trans h1,by rw[f7];exact h2⟩
def WI.before(h:WI C W CD l f w)(hl:l 7=false):ag W w:=by
 rcases h.mid with⟨_,h2⟩|⟨h1,_⟩
 ·exact h2
 rw[h1]at hl;cases hl
def WI.early(h:WI C W CD l f w)(hl:l 4=false\/l 6=false):ag W w:=by
 refine h.before ?_;cases h7:l 7;case false=>rfl
 obtain⟨h4,h6⟩:=h.seq h7;rcases hl with e|e
 ·rw[h4]at e;cases e
 rw[h6]at e;cases e
def WI.call(h:WI C W CD l f w)(h4:l 4=true)(h6:l 6=true){v:Value}{w':af}(hc:CD v w'):WI C W CD (fun k=>if k=7 then true else l k) (upd f 7 v) w':=by
 refine⟨fun k hk h7 hl=>?_,fun _=>⟨by simp[h4],by simp[h6]⟩,fun hl=>h.nin hl,.inr ⟨ct,by simp only[upd,if_true];exact hc⟩⟩;simp only[if_neg h7]at hl;simp only[upd,if_neg h7];exact h.val k hk h7 hl
def WI.last(h:WI C W CD l f w)(hall:∀k,k<10->l k=true):(∀k,k<=9->k≠7->f k=C k)/\CD (f 7) w:=by
 refine⟨fun k hk h7=>h.val k hk h7<|hall k cq,?_⟩;rcases h.mid with⟨h1,_⟩|⟨_,h2⟩
 ·rw[hall 7 cq]at h1;cases h1
 exact h2
end
end Go.Proofs.YtojjoblnpldniaaGreat.G
