/- A schema's text, in plain words, and how long it can be. -/
import Derived.Test.YtojjoblnpldniaaGreatSq
import Derived.Test.YtojjoblnpldniaaGreatJ14
import Derived.Deep.Cut
import Derived.Deep.CutRange
open Go.Proofs.Tryz
set_option maxHeartbeats 80000000
set_option linter.defProp false
namespace Go.Proofs.YtojjoblnpldniaaGreat
open Pl
def sm:List Nat->Nat
 | []=>0
 | x::xs=>x+sm xs
def FX:∀xs ys:List Nat,sm (xs++ys)=sm xs+sm ys
 | [],ys=>by simp[sm]
 | x::xs,ys=>by rw[Yz];simp only[sm];rw[FX xs ys];omega
def Pt(sep:ByteArray)(xs:List ByteArray):(gp sep xs).size<=sm (xs.map fun x=>x.size+sep.size):=by
 suffices h:∀ys:List ByteArray,(gp sep ys.reverse).size<=sm (ys.reverse.map fun x=>x.size+sep.size) by
  have:=h xs.reverse;rwa [List.reverse_reverse]at this
 intro ys
 induction ys with
 | nil=>exact XK _
 | cons y ys ih =>
  rw[List.reverse_cons,qp,YF,FX];simp only[YT,List.map_nil,sm];split
  ·omega
  simp only[Yb];omega
def mo(f:Int->Int):List Int->Int
 | []=>0
 | k::ks=>(k-f k+1)+mo f ks
def xV(f:Int->Int):∀xs ys:List Int,mo f (xs++ys)=mo f xs+mo f ys
 | [],ys=>by simp[mo]
 | x::xs,ys=>by rw[Yz];simp only[mo];rw[xV f xs ys];omega
def uS(f:Int->Int):∀xs:List Int,mo f xs.reverse=mo f xs
 | []=>rfl
 | x::xs=>by rw[List.reverse_cons,xV,uS f xs];simp only[mo];omega
def zS{f:Int->Int}:∀(ks:List Int) (a:Int),0<=dF f ks a->mo f ks=a+1-dF f ks a
 | [],a,_=>by simp[mo,dF]
 | k::ks,a,h=>by
  unfold dF at h⊢;split at h
  ·omega
  rename_i h1;rw[if_neg h1];split at h
  ·omega
  rename_i h2;rw[if_neg h2];have hk:k=a:=Decidable.byContradiction fun e=>h1<|.inr e;subst hk;simp only[mo];rw[zS ks _ h];omega
def UV{es:Q09}(hes:Vj es)(ht:∀j,j<es.length->0<=aC es j)(n:Nat):n<es.length->∀i,((jB es n i).size:Int)<=250*((n:Int)-aC es n+1):=by
 induction n using Nat.strongRecOn with
 | ind n ih =>
  intro hn i;have hle:=gJ es n;have h1:=IB (Gt es n) i<|nz (j6 es n)<|Gt es n;unfold jB
  suffices h:((nz (j6 es n)<|Gt es n).size:Int)<=250*((n:Int)-aC es n+1)-10 by omega
  have YX:=hes.2.1 n hn;obtain⟨hk5,-⟩:=rP YX;rw[Gv hn];unfold nz;unfold aD at YX;split
  ·rename_i k;rw[if_pos k]at YX;simp only[XN]at YX;have:=lm YX.1.1.1;omega
  rename_i k1;rw[if_neg k1]at YX;split
  ·rename_i k2;rw[if_pos k2]at YX;simp only[XN]at YX;have:=cu YX.1.1.1;omega
  rename_i k2;rw[if_neg k2]at YX;split
  ·rename_i k3;rw[if_pos k3]at YX;simp only[XN]at YX;have h1:=cu YX.1.1.1;have h2:=cu YX.1.1.2;have e1:(⟨#[45,62]⟩:ByteArray).size=2:=rfl;simp only[Yb];omega
  have hj:=Pt (iB es[n].kind)<|es[n].kids.map<|j6 es n;rw[ny,List.map_map]at hj;have hspan:mo (dJ es n) es[n].kids=(n:Int)-aC es n:=by
   have h0:=ht n hn;rw[jK]at h0;have h2:=zS _ _ h0;rw[uS,<-jK]at h2;have e:dx es n=es[n].kids:=by simp[dx,hn]
   rw[e]at h2;omega
  have hsum:∀ks:List Int,(∀k∈ks,0<=k/\k.toNat<n)->(sm (ks.map<|(fun x:ByteArray=>x.size+3) ∘ j6 es n):Int)<=250*mo (dJ es n) ks+3*(ks.length:Int):=by
   intro ks
   induction ks with
   | nil=>intro _;simp[sm,mo]
   | cons k ks ih2 =>
    intro hks;obtain⟨hk0,hk1⟩:=hks k<|Yx ..;have h3:=ih2 fun x hx=>hks x<|Yt _ hx;have h4:=ih k.toNat hk1 cq true;have e1:j6 es n k=jB es k.toNat true:=by unfold j6;rw[if_pos hk1,Gu]
    have e2:dJ es n k=aC es k.toNat:=by unfold dJ;rw[if_pos ⟨hk0,hk1⟩]
    have e3:((k.toNat:Nat):Int)=k:=cq;simp only[YT,sm,mo,Function.comp_apply,Yh];rw[e1,e2];rw[e3]at h4;omega
  have h5:=hsum es[n].kids<|wN hes hn;rw[hspan]at h5;have:(es[n].kids.length:Int)<=5:=cq;omega
def SI{es:Q09}(h:aS es=true):∀j,j<es.length->0<=aC es j:=by
 rw[tH]at h;unfold lw at h;simp only[XN,XU]at h;have h1:=h.2.1;unfold jv at h1;rw[XY]at h1;intro j hj;simpa using h1 j (by simpa using hj)
def Ho(es:Q09):(iH es).size<=3750:=by
 by_cases h:aS es=true
 ·have ht:=SI h;have hf:=pq h;have h1:=UV (QI h) ht (es.length-1) cq false;have h2:=ht (es.length-1) cq;rw[CW h];omega
 rw[FP (by simpa using h)];show 0<=3750;omega
def JJ(r:Rl):ByteArray:=((r.name++⟨#[32,61,32]⟩)++iH r.expr)++⟨#[10]⟩
def ed:List Rl->ByteArray
 | []=>⟨#[]⟩
 | r::rs=>JJ r++ed rs
def nV(n:ByteArray):ByteArray:=(⟨#[116,121,112,101,32]⟩++n)++⟨#[10]⟩
def dI:List Ty->ByteArray
 | []=>⟨#[]⟩
 | t::ts=>(nV t.name++ed t.rels)++dI ts
def xW(a:ByteArray):a++(⟨#[]⟩:ByteArray)=a:=by apply jM;simp[ByteArray.data_append]
def sP:∀(xs:List Rl) (r:Rl),ed (xs++[r])=ed xs++JJ r
 | [],r=>by simp only[YI,ed,xW,ui]
 | x::xs,r=>by rw[Yz];simp only[ed];rw[sP xs r,<-YH]
def nW:∀(xs:Q0b) (t:Ty),dI (xs++[t])=dI xs++(nV t.name++ed t.rels)
 | [],t=>by simp only[YI,dI,xW,ui]
 | x::xs,t=>by rw[Yz];simp only[dI];rw[nW xs t,<-YH]
def Pv(rs:Q07)(k:Nat)(h:k<rs.length):fD (rs.take<|k+1)=fD (rs.take k)++[⟨rs[k].name,au rs[k].rows⟩]:=by
 rw[XM h];unfold fD;rw[YF];rfl
def Pw(rs:Q06)(k:Nat)(h:k<rs.length):ai (rs.take<|k+1)=ai (rs.take k)++[⟨rs[k].name,fD rs[k].rows⟩]:=by
 rw[XM h];unfold ai;rw[YF];rfl
def zT(n:ByteArray):(nV n).size=n.size+6:=by
 have e1:(⟨#[116,121,112,101,32]⟩:ByteArray).size=5:=rfl;have e2:(⟨#[10]⟩:ByteArray).size=1:=rfl;unfold nV;simp only[Yb];omega
def SK:ByteArray:=⟨#[116,121,112,101,32]⟩
def Xk:ByteArray:=⟨#[61,32]⟩
def Xl:ByteArray:=⟨#[10]⟩
def Dq(l:ByteArray):Bool:=decide (5<l.size)&&(l.extract 0 5).toList==SK.toList
def zU(t:ByteArray):Bool:=decide (2<=t.size)&&(t.extract 0 2).toList==Xk.toList
def FY(l:ByteArray):ByteArray:=(jk 32 l).extract 2 (jk 32 l).size
def Hq(acc:Q0b)(r:Rl):List Ty:=match acc.getLast? with
 | none=>[]
 | some t=>acc.dropLast++[⟨t.name,t.rels++[r]⟩]
def sQ(xs:Q0b)(t:Ty)(r:Rl):Hq (xs++[t]) r=xs++[⟨t.name,t.rels++[r]⟩]:=by
 unfold Hq;simp
def oI(acc:Q0b)(l:ByteArray):Option (List Ty) :=
 if Dq l then some (acc++[⟨l.extract 5 l.size,[]⟩])
 else if !acc.isEmpty&&zU (jk 32 l)&&nQ (FY l) then some (Hq acc ⟨lF 32 l,(lV<|FY l).out⟩) else none
def eu:Nat->ByteArray->List Ty->Option (List Ty)
 | 0,_,acc=>some acc
 | n+1,rest,acc =>
  if rest.toList.isEmpty then some acc
  else if qg 10 rest then
   match oI acc (lF 10 rest) with
   | none=>none
   | some a=>eu n (jk 10 rest) a
  else none
def nX(b:ByteArray):b.toList=b.data.toList:=Go.ByteArray.toList_eq b
def Px(c:UInt8)(l:List UInt8)(h:(jy c l).2.2=true):l=(jy c l).1++c::(jy c l).2.1:=by
 induction l with
 | nil=>simp[jy]at h
 | cons b l ih =>
  unfold jy at h⊢;split
  ·rename_i e;simp[e]
  rename_i e;rw[if_neg e]at h;simp only[Yz,List.cons.injEq,true_and];exact ih h
def Dr{c:UInt8}{s:ByteArray}(h:qg c s=true):s=(lF c s++⟨#[c]⟩)++jk c s:=by
 apply jM;have:=Px c s.data.toList h;simpa[lF,jk,ByteArray.data_append] using this
def JK{c:UInt8}{s:ByteArray}(h:qg c s=true):(jk c s).size<s.size:=by
 have:=congrArg ByteArray.size<|Dr h;have e1:(⟨#[c]⟩:ByteArray).size=1:=rfl;simp only[Yb,e1]at this;omega
def JL(l:ByteArray)(k:Nat)(hk:k<=l.size):l=l.extract 0 k++l.extract k l.size:=by
 apply jM;rw[YJ,ByteArray.data_extract,ByteArray.data_extract];have hk':k<=l.data.size:=hk;have h2:l.size=l.data.size:=rfl;rw[h2];simp;rw[show max k l.size=l.data.toList.length by simp[Nat.max_def];omega,X8]
def toList_inj{a b:ByteArray}(h:a.toList=b.toList):a=b:=by
 rw[nX,nX]at h;exact jM h
def SN{l:ByteArray}(h:Dq l=true):l=SK++l.extract 5 l.size:=by
 unfold Dq at h;simp only[XN,XU,beq_iff_eq]at h;have e:=toList_inj h.2
 conv=>lhs;rw[JL l 5 cq,e]
def SQ{l:ByteArray}(h:zU (jk 32 l)=true):l=((lF 32 l++⟨#[32,61,32]⟩)++FY l):=by
 unfold zU at h;simp only[XN,XU,beq_iff_eq]at h;have hf:qg 32 l=true:=by
  cases e:qg 32 l;case true=>rfl
  rw[Qq e]at h;exact absurd h.1 cv
 have e:=toList_inj h.2;have e2:jk 32 l=Xk++FY l:=by
  conv=>lhs;rw[JL (jk 32 l) 2 h.1,e]
  rfl
 have e3:(⟨#[32,61,32]⟩:ByteArray)=⟨#[32]⟩++Xk:=by apply jM;simp[ByteArray.data_append,Xk]
 conv=>lhs;rw[Dr hf,e2]
 rw[e3];simp only[YH]
def Dt{s:ByteArray}(h:nQ s=true):iH (lV s).out=s/\s.size<=1000/\aS (lV s).out=true:=by
 unfold nQ at h;simp only[XN,XU,beq_iff_eq]at h;exact⟨toList_inj h.2,h.1.1.1.1,h.1.2⟩
def Py{acc acc':Q0b}{l:ByteArray}(h:oI acc l=some acc'):dI acc'=dI acc++(l++Xl):=by
 unfold oI at h;split at h
 ·rename_i ht;injection h with h;subst h;rw[nW]
  conv=>rhs;rw[SN ht]
  simp only[nV,ed,xW];rfl
 split at h
 ·rename_i h2;injection h with h;subst h;simp only[XN,Bool.not_eq_true']at h2;obtain⟨⟨h3,h4⟩,h5⟩:=h2;have hne:acc≠[]:=fun e=>by rw[e]at h3;simp at h3
  have e1:=List.dropLast_concat_getLast hne;rw[<-e1,sQ,nW,nW,sP]
  conv=>rhs;rw[SQ h4]
  have e2:=(Dt h5).1;simp only[JJ,e2,YH];rfl
 cases h
def Vu(T:Q0b):Prop:=∀t∈T,∀r∈t.rels,r.expr.length<=15/\∀e∈r.expr,e.light/\e.fits
def UW{acc acc':Q0b}{l:ByteArray}(h:oI acc l=some acc')(hk:Vu acc):Vu acc':=by
 unfold oI at h;split at h
 ·injection h with h;subst h;intro t ht r hr;rcases XV.1 ht with ht|ht
  ·exact hk t ht r hr
  rw[XX]at ht;subst ht;cases hr
 split at h
 ·rename_i h2;injection h with h;subst h;simp only[XN,Bool.not_eq_true']at h2;obtain⟨⟨h3,h4⟩,h5⟩:=h2;have hne:acc≠[]:=fun e=>by rw[e]at h3;simp at h3
  have e1:=List.dropLast_concat_getLast hne;obtain⟨-,hs,hsp⟩:=Dt h5;intro t ht r hr;rw[<-e1,sQ]at ht;rcases XV.1 ht with ht|ht
  ·exact hk t (by rw[<-e1];exact YN _ ht) r hr
  rw[XX]at ht;subst ht;rcases XV.1 hr with hr|hr
  ·exact hk (acc.getLast hne) (List.getLast_mem hne) r hr
  rw[XX]at hr;subst hr;refine⟨(pq hsp).2,fun e he=>?_⟩;exact(Su (s:=FY l) _ true ⟨0,false,[]⟩ (XP _) (fun e he=>by cases he) e he).light hs
 cases h
def zV:∀(rs:List Rl),rs.length*4<=(ed rs).size/\∀r∈rs,r.name.size+4<=(ed rs).size
 | []=>⟨ct,fun r hr=>by cases hr⟩
 | r::rs=>by
  obtain⟨h1,h2⟩:=zV rs;have e1:(⟨#[32,61,32]⟩:ByteArray).size=3:=rfl;have e2:(⟨#[10]⟩:ByteArray).size=1:=rfl;have h3:(ed (r::rs)).size=r.name.size+3+(iH r.expr).size+1+(ed rs).size:=by simp only[ed,JJ,Yb,e1,e2]
  refine⟨by rw[h3,Yh];omega,fun q hq=>?_⟩;rcases X7.1 hq with rfl|hq
  ·omega
  have:=h2 q hq;omega
def Du:∀(T:Q0b),T.length*6<=(dI T).size/\∀t∈T,t.name.size+6+(ed t.rels).size<=(dI T).size
 | []=>⟨ct,fun r hr=>by cases hr⟩
 | t::ts=>by
  obtain⟨h1,h2⟩:=Du ts;have h3:(dI (t::ts)).size=t.name.size+6+(ed t.rels).size+(dI ts).size:=by simp only[dI,Yb,zT]
  refine⟨by rw[h3,Yh];omega,fun q hq=>?_⟩;rcases X7.1 hq with rfl|hq
  ·omega
  have:=h2 q hq;omega
def rows_ok{rs:Q06}(hk:Vu<|ai rs)(hz:(dI<|ai rs).size<=3000):rs.length<=500/\(∀r∈rs,r.rows.length<=750/\r.name.size<=3000/\∀q∈r.rows,q.name.size<=3000)/\(∀r∈rs,r.light)/\∀r∈rs,r.fits:=by
 obtain⟨h1,h2⟩:=Du<|ai rs;rw[mD]at h1;have key:∀r∈rs,r.rows.length<=750/\r.name.size<=3000/\∀q∈r.rows,q.name.size<=3000:=fun r hr=>by
  have h3:=h2 r.p<|XW.2 ⟨r,hr,rfl⟩;obtain⟨h4,h5⟩:=zV<|fD r.rows;rw[tF]at h4;have h6:r.name.size+6+(ed<|fD r.rows).size<=(dI<|ai rs).size:=h3;refine⟨cq,cq,fun q hq=>?_⟩;have:=h5 q.p<|XW.2 ⟨q,hq,rfl⟩;have h7:q.name.size+4<=(ed<|fD r.rows).size:=this;omega
 have kex:∀r∈rs,∀q∈r.rows,q.rows.length<=15/\∀x∈q.rows,x.e.light/\x.e.fits:=fun r hr q hq=>by
  have:=hk r.p (XW.2 ⟨r,hr,rfl⟩) q.p (XW.2 ⟨q,hq,rfl⟩);exact⟨by rw[<-aX];exact this.1,fun x hx=>this.2 x.e<|XW.2 ⟨x,hx,rfl⟩⟩
 refine⟨cq,key,fun r hr=>⟨by have:=(key r hr).1;omega,fun q hq=>⟨by have:=(kex r hr q hq).1;omega,fun x hx=>((kex r hr q hq).2 x hx).1⟩⟩,fun r hr=>⟨by have:=(key r hr).2.1;unfold maxLen;omega,by have:=(key r hr).1;unfold maxLen;omega,fun q hq=>⟨by have:=(key r hr).2.2 q hq;unfold maxLen;omega,by have:=(kex r hr q hq).1;unfold maxLen;omega,fun x hx=>((kex r hr q hq).2 x hx).2⟩⟩⟩
open ChangeAt ChangeShapes RowKit WideShapes
def Wq(o n e:ByteArray):(((o++n)++⟨#[32,61,32]⟩)++e)++⟨#[10]⟩=o++(((n++⟨#[32,61,32]⟩)++e)++⟨#[10]⟩):=by
 simp only[YH]
def SS(o n:ByteArray):((o++⟨#[116,121,112,101,32]⟩)++n)++⟨#[10]⟩=o++nV n:=by
 unfold nV;simp only[YH]
structure Small3(rs:Q06):Prop where
 six:rs.length<=500
 rels:∀r∈rs,r.rows.length<=750
 name:∀r∈rs,r.name.size<=3000
 names:∀r∈rs,∀q∈r.rows,q.name.size<=3000
set_option maxRecDepth 100000 in
def Hr(ad:Q02)(cap:Nat)(rs:Q06)(w:ag)(hm:Small3 rs)(hs:kI w ad rs)(hl:∀r∈rs,r.light)(hf:∀r∈rs,r.fits):
  Calls prog 108 #[.slice ad rs.length cap] w (a8 w<|.string<|dI<|ai rs):=by
 have HS:=aK hs;have HL:=aK hl;have Zd:=aK hf;have HM:=aK hm;have h6:=hm.six;clear hs hl hf hm;go_enter func108,ntmps108;go_wp2;go_loopw[3,4] (fun o i wr=>∃(k:Nat) (out:ByteArray),k<=rs.length/\o=.string out/\i=.int .i64 k/\O (out=dI (ai<|rs.take k))/\out.size<=k*5100000/\O (ae w wr)) (fun _ i _=>rs.length-(intOf i).toNat);case atStart=>exact⟨0,⟨#[]⟩,XP _,rfl,rfl,rfl,XP _,XL _ _⟩
 case round =>
  obtain⟨k,out,hk,rfl,rfl,HP,hz,HB⟩:=hrel;obtain⟨wo,rfl⟩:∃x,x=wr:=⟨_,rfl⟩;by_cases hlt:k<rs.length
  ·rcases HS.out.below HB.out with rfl|⟨b,off,rfl,hb,hr,hok⟩
   ·simp at hlt
   obtain⟨t0,t1⟩:=hr k hlt;have HOK:O (rs[k].ok wo):=hok rs[k]<|XI hlt;have hn12:=HM.name rs[k]<|XI hlt;have hr6:=HM.rels rs[k]<|XI hlt;have HN12:O (∀q∈rs[k].rows,q.name.size<=3000):=HM.names rs[k]<|XI hlt;have HLG:O (rs[k].light):=HL _<|XI hlt;have HFE:O (rs[k].fits):=Zd _<|XI hlt;have hk1:=bG k;have hk2:(k:Int)<(rs.length:Int):=cq;have hrl:(rs[k].rows.length:Int)<=750:=cq;clear hr hok;go_wp2;go_loopw[3,5] (fun o i wr=>∃(j:Nat) (o2:ByteArray),j<=rs[k].rows.length/\o=.string o2/\i=.int .i64 j/\O (o2=(out++nV rs[k].name)++ed (fD<|rs[k].rows.take j))/\o2.size<=k*5100000+3010+j*6760/\O (ae wo wr)) (fun _ i _=>rs[k].rows.length-(intOf i).toNat);case atStart=>exact⟨0,_,XP _,rfl,rfl,by show _=_;rw[SS,List.take_zero,show fD []=[] from rfl];simp only[ed,xW],by rw[SS,Yb,zT];omega,XL _ _⟩
   case round =>
    obtain⟨j,o2,hj,rfl,rfl,HI,hz2,HB2⟩:=hrel;replace t0:=aM HB2 hb t0;replace t1:=aM HB2 hb t1;have hbw:cW b wr:=XJ hb HB2.size;by_cases hjl:j<rs[k].rows.length
    ·rcases HOK.out.below HB2.out with hnil|⟨b2,ZR,had,hb2,hr2,hok2⟩
     ·rw[hnil]at hjl;simp at hjl
     rw[had]at t1;obtain⟨u0,u1⟩:=hr2 j hjl;have HOQ:O (rs[k].rows[j].ok wr):=hok2 rs[k].rows[j]<|XI hjl;have hj1:=bG j;have hj2:(j:Int)<(rs[k].rows.length:Int):=cq;have hq12:=HN12 _<|XI hjl;have HQL:O (rs[k].rows[j].light):=HLG.2 _<|XI hjl;have HQF:O (rs[k].rows[j].fits):=HFE.2.2 _<|XI hjl;obtain⟨ex,hex⟩:=eQx<|iH<|au rs[k].rows[j].rows;have HEX:O (ex=iH (au rs[k].rows[j].rows)):=hex;have hxs:ex.size<=3750:=by rw[hex];exact Ho _
     have q1:(9223372036854775807<o2.size+rs[k].rows[j].name.size)=False:=by simp;omega
     have q2:(9223372036854775807<o2.size+rs[k].rows[j].name.size+3)=False:=by simp;omega
     have q3:(9223372036854775807<o2.size+rs[k].rows[j].name.size+3+ex.size)=False:=by simp;omega
     have q4:(9223372036854775807<o2.size+rs[k].rows[j].name.size+3+ex.size+1)=False:=by simp;omega
     have HI2:O ((((o2++rs[k].rows[j].name)++⟨#[32,61,32]⟩)++ex)++⟨#[10]⟩=(out++nV rs[k].name)++ed (fD<|rs[k].rows.take<|j+1)):=by
      show _=_;rw[Wq,Pv _ _ hjl,sP,HI,hex];simp only[YH,JJ]
     have hz3:((((o2++rs[k].rows[j].name)++⟨#[32,61,32]⟩)++ex)++⟨#[10]⟩:ByteArray).size<=k*5100000+3010+(j+1)*6760:=by
      have e1:(⟨#[32,61,32]⟩:ByteArray).size=3:=rfl;have e2:(⟨#[10]⟩:ByteArray).size=1:=rfl;simp only[Yb];omega
     have HZ3:O (((((o2++rs[k].rows[j].name)++⟨#[32,61,32]⟩)++ex)++⟨#[10]⟩:ByteArray).size<=k*5100000+3010+(j+1)*6760):=hz3;clear hr2 hok2 had hex hz3;go_wp2_with fail;refine dG 24 _ _ (fun n v _=>v=(Value.string o2::.slice (some<|ap b off) rs.length cap::.int .i64 k::.pointer (some<|ap b<|off+k*2)::.pointer (some<|ap b<|off+k*2+1)::.slice (some<|ap b2 ZR) rs[k].rows.length rs[k].cap::.int .i64 j::.pointer (some<|ap b2<|ZR+j*2)::.pointer (some<|ap b2<|ZR+j*2)::.string rs[k].rows[j].name::.string (o2++rs[k].rows[j].name)::.string ((o2++rs[k].rows[j].name)++⟨#[32,61,32]⟩)::.slice (some<|ap b off) rs.length cap::.int .i64 k::.pointer (some<|ap b<|off+k*2)::.pointer (some<|ap b<|off+k*2+1)::.slice (some<|ap b2 ZR) rs[k].rows.length rs[k].cap::.int .i64 j::.pointer (some<|ap b2<|ZR+j*2)::.pointer (some<|ap b2<|ZR+j*2+1)::.slice rs[k].rows[j].ad rs[k].rows[j].rows.length rs[k].rows[j].cap::.string ex::.string (((o2++rs[k].rows[j].name)++⟨#[32,61,32]⟩)++ex)::.string ((((o2++rs[k].rows[j].name)++⟨#[32,61,32]⟩)++ex)++⟨#[10]⟩)::[]).getD n undef) (fun w'=>ae wr w') cw rfl cw cw (H7 [(31,[0,1,2,3,4,5,6,7,8,9,10,11,12,13,14,15,16,17,18,19,20,21,22,23])]) (XL _ _).drew ?stepS ?finS<;>dsimp only[Et];case stepS =>
      rintro i hi o ho fq w' hG hpre;have HG:O (ae wr w'):=hG;replace t1:=aM hG hbw t1;replace u0:=aM hG hb2 u0;replace u1:=aM hG hb2 u1;have HM:O (∀e∈o.after,Region.binds .any e=true->_):=hpre;clear hG hpre;have hc:=WP (i:=i) cq;clear hi
      repeat' rcases hc with rfl|hc
      iterate 21
       ·cases ho;have hm:=HM.out
        try simp[Region.binds]at hm
        refine af rfl fun K HK=>?_;clear HM
        try simp only[hm]
        go_simp;exact HK _ _ ⟨_,by simp[upd, *],HG,rfl,fun k u hu=>hu⟩
      ·cases ho;have e20:fq 20=.slice rs[k].rows[j].ad rs[k].rows[j].rows.length rs[k].rows[j].cap:=HM ⟨20,.data⟩ ct rfl;refine af rfl fun K HK=>?_;clear HM;simp only[e20];go_simp;refine(pW _ _ rs[k].rows[j].rows _ HQL.1 HQL.2 HQF.2.2<|HOQ.below HG).mono ?_;rintro e w5 ⟨rfl,hb5⟩;have HG5:=jr HG hb5;rw[<-HEX];clear hb5;go_wp2_with fail;exact HK _ _ ⟨Value.string ex,by simp[upd,e20],HG5,rfl,fun k u hu=>hu⟩
      iterate 2
       ·cases ho;have hm:=HM.out
        try simp[Region.binds]at hm
        refine af rfl fun K HK=>?_;clear HM
        try simp only[hm]
        go_simp;exact HK _ _ ⟨_,by simp[upd, *],HG,rfl,fun k u hu=>hu⟩
     case finS =>
      rintro o ho fq w' hG hall;have e23:fq 23=.string ((((o2++rs[k].rows[j].name)++⟨#[32,61,32]⟩)++ex)++⟨#[10]⟩):=hall 23 cq;have HG:O (ae wr w'):=hG;clear hG hall;obtain rfl:=Option.some.inj ho;clear ho;refine wpOp_step rfl (fun K hK=>?_);have HK:O (∀a w,_->K a w):=hK;clear hK;simp only[e23];go_simp;refine HK _ _ ?_;clear HK;have HB3:O (ae wo w'):=HB2.trans<|HG.mono HB2.size;go_wp2;go_roundw;case rel=>exact⟨j+1,_,cq,rfl,cx,HI2,HZ3,HB3⟩
      case measure=>simp[intOf]<;>omega
    ·obtain rfl:j=rs[k].rows.length:=cq;have Zc:O (o2=dI (ai<|rs.take<|k+1)):=by
      show _=_;rw[HI,Pw _ _ hlt,nW,HP,X8,YH]
     have hz4:o2.size<=(k+1)*5100000:=cq;have HB3:O (ae w wr):=HB.trans<|HB2.mono HB.size;go_wp2;go_roundw;case rel=>exact⟨k+1,o2,cq,rfl,cx,Zc,hz4,HB3⟩
     case measure=>simp[intOf]<;>omega
  ·obtain rfl:k=rs.length:=cq;have HN:O (out=dI (ai rs)):=by show _=_;rw[HP,X8]
   go_wp2;go_ret;exact⟨by rw[HN];rfl,HB⟩
open Maps
set_option maxRecDepth 100000
def eB{p:Prop}(h:p):O p:=h
def strOf:Value->Nat | .string b=>b.size|_=>0
def Ws(s:ByteArray)(w:World)(e:Ending)(w':World):Prop :=
 ae w w'/\((eu (s.size+1) s []=none/\e=.returned (.tuple #[.slice none 0 0,.bool false])) \/ ∃(v:Value) (rs:Q06),eu (s.size+1) s []=some (ai rs)/\e=.returned (.tuple #[v,.bool true])/\jq w' w.heap.size v rs/\dI (ai rs)=s/\Vu (ai rs))
def Pz{n:Nat}{rest:ByteArray}{acc:Q0b}(hn:rest.size<n)(h:rest.toList.isEmpty=true):eu n rest acc=some acc:=by
 cases n with
 | zero=>omega
 | succ n=>simp[eu,h]
def PD{n:Nat}{rest:ByteArray}{acc:Q0b}(hn:rest.size<n)(h:rest.toList.isEmpty=false)(hc:qg 10 rest=false):eu n rest acc=none:=by
 cases n with
 | zero=>omega
 | succ n=>simp[eu,h,hc]
def PE{n:Nat}{rest:ByteArray}{acc:Q0b}(hn:rest.size<n)(h:rest.toList.isEmpty=false)(hc:qg 10 rest=true)(hl:oI acc (lF 10 rest)=none):eu n rest acc=none:=by
 cases n with
 | zero=>omega
 | succ n=>simp[eu,h,hc,hl]
def SV{n:Nat}{rest:ByteArray}{acc a:Q0b}(hn:rest.size<n)(h:rest.toList.isEmpty=false)(hc:qg 10 rest=true)(hl:oI acc (lF 10 rest)=some a):eu n rest acc=eu (n-1) (jk 10 rest) a/\(jk 10 rest).size<n-1:=by
 have:=JK hc;cases n with
 | zero=>omega
 | succ n=>exact⟨by simp[eu,h,hc,hl],by simp;omega⟩
def SX{b:ByteArray}(h:b.toList.isEmpty=true):b=⟨#[]⟩:=by
 have h2:b.toList=[]:=by simpa using h
 rw[nX]at h2;exact jM (by simpa using h2)
def Dv:SK.toList=[116,121,112,101,32]:=by rw[nX];rfl
def JM:Xk.toList=[61,32]:=by rw[nX];rfl
def SY(w:ag)(a b:Value)(t:TypeId):∀j u,[a,b][j]?=some u->(w.alloc<|.cells #[a,b] t).cell? ((⟨w.heap.size,0,none⟩:Addr).add j)=some u:=by
 intro j u hu;rw[show(⟨w.heap.size,0,none⟩:Addr).add j=⟨w.heap.size,0+j,none⟩ by simp[Addr.add];omega,Yg];have:=World.cell?_alloc_mark w #[a,b] t (0,0) j;rw[this];simpa using hu
def S9(xs:Q06)(t t':TR)(hn:t'.name=t.name):((xs++[t]).flatMap TR.cells).set (xs.length*2+1) t'.vs=(xs++[t']).flatMap TR.cells:=by
 have hl:(xs.flatMap TR.cells).length=xs.length*2:=qO (fun _=>rfl) _;rw[YE,YE,List.set_append_right _ _ cq,hl];simp[TR.cells,hn]
def Xm(n:ByteArray)(ad:Q02)(k c:Nat):∀u∈[Value.string n,.slice ad k c],u.oneCell'=true:=by
 intro u hu;simp at hu;rcases hu with rfl|rfl<;>rfl
theorem Ht(s:ByteArray)(w:ag)(hs:s.size<=3000):Calls prog 188 #[.string s] w (Ws s w):=by
 obtain⟨iT0,hiT,zT0,zT1,zT2⟩:=info_parts (P:=prog) (e:=36) (z:=.agg #[.string ⟨#[]⟩,.slice none 0 0]) (size:=2) (bytes:=40) cw;have HIT:O (prog.info? 36=some iT0/\iT0.zero=some (.agg #[.string ⟨#[]⟩,.slice none 0 0])/\iT0.size=2/\iT0.bytes=40):=⟨hiT,zT0,zT1,zT2⟩;obtain⟨iR0,hiR,zR0,zR1,zR2⟩:=info_parts (P:=prog) (e:=39) (z:=.agg #[.string ⟨#[]⟩,.slice none 0 0]) (size:=2) (bytes:=40) cw;have Zk:O (prog.info? 39=some iR0/\iR0.zero=some (.agg #[.string ⟨#[]⟩,.slice none 0 0])/\iR0.size=2/\iR0.bytes=40):=⟨hiR,zR0,zR1,zR2⟩;obtain⟨W0,hW0⟩:=eQx<|w.alloc<|.cells #[] 36;have HB0:=lX hW0;have HM0:O (jq W0 w.heap.size (.slice (some ⟨w.heap.size,0,none⟩) 0 0) []):=by
  show Zi _ _ _ _ _ _ _ _ _;rw[hW0];exact⟨World.ownsRow_lit w #[] 0 (XK _) cy ct,fun q hq=>(by cases hq),fun q hq=>(by cases hq),fun x y hx=>absurd hx ct⟩
 have hs5:(s.size:Int)<=50000:=cq;clear hiT zT0 zT1 zT2 hiR zR0 zR1 zR2;go_enter func188,ntmps188;go_wp2;rw[<-hW0];clear hW0;go_loopw[4,5] (fun v r wr=>∃(rs:Q06) (rest:ByteArray) (n:Nat),r=.string rest/\rest.size<=3000/\O (jq wr w.heap.size v rs)/\O (ae w wr)/\O (dI (ai rs)++rest=s)/\O (Vu<|ai rs)/\O (rest.size<n/\eu n rest (ai rs)=eu (s.size+1) s [])) (fun _ r _=>strOf r);case atStart=>exact⟨[],s,s.size+1,rfl,hs,HM0,HB0,by show _=_;exact ui _,fun t ht=>(by cases ht),cq,rfl⟩
 clear HM0 HB0;obtain⟨rs,rest,n,rfl,hrs,HM,HB,HT,HK,HN⟩:=hrel;cases he:rest.toList.isEmpty;case true=>
  have HTX:O (dI (ai rs)=s):=by show _=_;rw[<-HT.out,SX he,xW]
  have ZH:=eB<|Pz (acc:=ai rs) HN.out.1 he;obtain⟨ad,cap,rfl,hsl,-⟩:=HM.out.read;obtain⟨k1,k2,k3,k4⟩:=rows_ok HK.out (by rw[HTX.out];exact hs);have Zf:=eB<|Hr ad cap rs wr ⟨k1,fun r hr=>(k2 r hr).1,fun r hr=>(k2 r hr).2.1,fun r hr=>(k2 r hr).2.2⟩ hsl k3 k4;clear hsl k1 k2 k3 k4;go_wp2_with fail;refine Zf.out.mono ?_;rintro e w1 ⟨hee,hb1⟩;rw[HTX.out]at hee;subst hee;have HB1:=eB<|HB.out.trans<|hb1.mono HB.out.size;have HM1:=eB<|HM.out.below nZ hb1;clear hb1 Zf;go_wp2;exact bodyPost_ret (v:=.tuple #[.slice ad rs.length cap,.bool true]) (by simp[results,Tryz.results188,go_sem]) rfl ⟨HB1.out,.inr ⟨_,rs,by rw[<-HN.out.2,ZH.out],rfl,HM1.out,HTX.out,HK.out⟩⟩
 have HE:=eB he;have h500:rs.length<=500:=(rows_ok HK.out (by have:=congrArg ByteArray.size HT.out;rw[Yb]at this;omega)).1;have HC:=eB<|EN rest 10 wr cy;go_wp2_with fail;refine HC.out.mono ?_;rintro e w1 ⟨rfl,n0,hw1⟩;have hb1:ae wr w1:=by rw[hw1];exact below_drewN (XL _ _) n0
 have HB1:=eB<|HB.out.trans<|hb1.mono HB.out.size;have HM1:=eB<|HM.out.below nZ hb1;have hzz:=M0 10 rest;have hza:=TP 10 rest;clear hw1 hb1 HC HM HB;cases hc:qg 10 rest;case false=>
  have ZQ:=eB<|PD (acc:=ai rs) HN.out.1 HE.out hc;go_wp2;exact bodyPost_ret (v:=.tuple #[.slice none 0 0,.bool false]) (by simp[results,Tryz.results188,go_sem]) rfl ⟨HB1.out,.inl ⟨by rw[<-HN.out.2,ZQ.out],rfl⟩⟩
 have HCF:=eB hc;have HJ:=eB<|Dr hc;have hless:=JK hc;obtain⟨line,hline⟩:=eQx<|lF 10 rest;obtain⟨more,hmore⟩:=eQx<|jk 10 rest;rw[<-hline,<-hmore]at HJ;rw[<-hmore]at hzz hless;rw[<-hline]at hza;rw[<-hline,<-hmore];have HLI:=eB hline;have HMO:=eB hmore;clear hline hmore hc;have HON:O (∀a,oI (ai rs) line=some a->eu (n-1) more a=eu (s.size+1) s []/\more.size<n-1/\dI a++more=s/\Vu a):=fun a ha=>by
  have h1:=SV (acc:=ai rs) HN.out.1 HE.out HCF.out (by rw[<-HLI.out];exact ha);rw[<-HMO.out]at h1;refine⟨by rw[<-h1.1,HN.out.2],h1.2,?_,UW ha HK.out⟩;rw[Py ha,YH];have h2:=HT.out;rw[HJ.out]at h2;exact h2
 have HOFF:O (oI (ai rs) line=none->eu (s.size+1) s []=none):=fun ha=>by
  have h1:=PE (acc:=ai rs) HN.out.1 HE.out HCF.out (by rw[<-HLI.out];exact ha);rw[<-HN.out.2,h1]
 cases ht:Dq line;case true=>
  have hl5:5<line.size:=by unfold Dq at ht;simp only[XN,XU]at ht;exact ht.1
  have hty:((line.extract 0 5).toList==[116,121,112,101,32])=true:=by unfold Dq at ht;simp only[XN]at ht;rw[<-Dv];exact ht.2
  have hd5:decide ((5:Int)<(line.size:Int))=true:=by simp;omega
  have HLP:O (oI (ai rs) line=some (ai<|rs++[⟨line.extract 5 line.size,[],none,0⟩])):=by show _=_;unfold oI;rw[ht];simp[ai,TR.p,fD]
  clear ht;obtain⟨nm,hnm⟩:=eQx<|line.extract 5 line.size;obtain⟨W2,hW2⟩:=eQx<|w1.alloc<|.cells #[.string nm,.slice none 0 0] 36;have hb2:ae w1 W2:=by rw[hW2];exact(XL _ _).alloc (XK _) _
  have ZT:=eB<|HM1.out.below nZ hb2;have HB2:=eB<|HB1.out.trans<|hb2.mono HB1.out.size;have HNW:O (∀j u,[Value.string nm,.slice none 0 0][j]?=some u->W2.cell? ((⟨w1.heap.size,0,none⟩:Addr).add j)=some u):=by show ∀j u,_;rw[hW2];exact SY w1 _ _ _
  rw [<-hnm]at HLP;rw [hnm]at hW2;clear hb2 hnm;go_wp2_with (at_builtin;rw [<-hW2];clear hW2;refine wpList_append_own_at _ rfl _ _ 24 rfl w.heap.size 36 iT0 (.agg #[.string ⟨#[]⟩,.slice none 0 0]) 2 40 underlying24 HIT.out.1 HIT.out.2.1 HIT.out.2.2.1 HIT.out.2.2.2 rfl cv u4 _ (rs.flatMap TR.cells) rfl ZT.out.own ⟨w1.heap.size,0,none⟩ 1 1 [.string nm,.slice none 0 0] rfl rfl HNW.out (Xm _ _ _ _) cy cq HB2.out.size ?_);intro v3 w3 hown3 hgr3 _ hat3;have HM3:O (jq w3 w.heap.size v3<|rs++[⟨nm,[],none,0⟩]):=ZT.out.snoc nZ (q:=⟨nm,[],none,0⟩) hown3 hgr3 (by
    rcases hat3 with e|e
    ·exact .inl e
    ·exact .inr ⟨_,e,XK _⟩) (R7 W2 w.heap.size) (fun g hg=>by
    rcases hg with hg|⟨q,hq,-⟩
    ·simp[TR.vs,Value.ownBlock]at hg
    ·cases hq) (fun p hp g hg hg2=>by
    rcases hg2 with hg2|⟨q,hq,-⟩
    ·simp[TR.vs,Value.ownBlock]at hg2
    cases hq)
  have HB3:O (ae w w3):=HB2.out.grown hgr3 HB2.out.size fun g hg=>(ZT.out.own.lt g hg).1;obtain⟨o1,o2,o3,o4⟩:=HON.out _ HLP.out;have HO:=eB<|And.intro o2 o1;have Zq:=eB o3;have Zg:=eB o4;clear hown3 hgr3 hat3 o1 o2 o3 o4 ZT HB2 HNW hty hd5;go_wp2;go_roundw;case rel=>exact⟨_,more,n-1,rfl,cq,HM3,HB3,Zq,Zg,HO⟩
  simp only[strOf];exact hless
 have HTY:=eB ht;have h58:(5<line.size/\decide ((5:Int)<(line.size:Int))=true/\((line.extract 0 5).toList==[116,121,112,101,32])=false)\/decide ((5:Int)<(line.size:Int))=false:=by
  by_cases h5:5<line.size
  ·left;refine⟨h5,by simp;omega,?_⟩;unfold Dq at ht;rw[decide_eq_true h5,Bool.true_and,Dv]at ht;exact ht
  right;simp;omega
 have ZM:=eB<|EN line 32 w1 cy;obtain⟨ad4,cap4,hv4,hsl4,-⟩:=jq.read HM1.out;subst hv4;clear ht hsl4;rcases h58 with⟨hl5,hd5,hty⟩|hd5
 all_goals (
  go_wp2_with fail;refine ZM.out.mono ?_;rintro e w2 ⟨rfl,n1,hw2⟩;have hb2:ae w1 w2:=by rw[hw2];exact below_drewN (XL _ _) n1
  have HB2:=eB<|HB1.out.trans<|hb2.mono HB1.out.size;have ZT:=eB<|HM1.out.below nZ hb2;have hzt:=M0 32 line;obtain⟨nm,hnm⟩:=eQx<|lF 32 line;obtain⟨tl,htl⟩:=eQx<|jk 32 line;rw[<-htl]at hzt;rw[<-hnm,<-htl];have HLP:O (oI (ai rs) line=if !(ai rs).isEmpty&&zU tl&&nQ (tl.extract 2 tl.size) then some (Hq (ai rs) ⟨nm,(lV<|tl.extract 2 tl.size).out⟩) else none):=by show _=_;unfold oI FY;rw[HTY.out,hnm,htl];rfl
  clear hw2 hb2 ZM HM1 HB1 hnm htl;by_cases hz:rs=[]
  ·subst hz;have ZQ:O (eu (s.size+1) s []=none):=HOFF.out (by rw[HLP.out];rfl);go_wp2;exact bodyPost_ret (v:=.tuple #[.slice none 0 0,.bool false]) (by simp[results,Tryz.results188,go_sem]) rfl ⟨HB2.out,.inl ⟨ZQ.out,rfl⟩⟩
  obtain⟨xs,t,hxt⟩:∃xs t,rs=xs++[t]:=⟨rs.dropLast,rs.getLast hz,(List.dropLast_concat_getLast hz).symm⟩;have HXT:=eB hxt;have hlx:rs.length=xs.length+1:=by rw[hxt];simp
  have HNE:O ((!(ai rs).isEmpty)=true):=by show _=_;rw[hxt];simp[ai]
  obtain⟨b4,had4⟩:∃b4,ad4=some ⟨b4,0,none⟩:=by
   rcases ZT.out.own.2 with⟨-,h0⟩|⟨g,cap,cur,e,-⟩
   ·exact absurd (X0.1 h0) hz
   injection e with e1 e2 e3;exact⟨g,e1⟩
  subst had4;have hcell:=ZT.out.own.cellAt (xs.length*2+1) cq;rw[uh (fun _=>rfl) rs xs.length cq 1 cq]at hcell;have htx:rs[xs.length]'cq=t:=by subst hxt;simp
  rw[htx]at hcell;have hcl:w2.cell? ⟨b4,xs.length*2+1,none⟩=some (.slice t.ad t.rows.length t.cap):=hcell;have HCL:=eB hcl;have hn0:(0:Int)<=(xs.length:Int):=cq;have hn1:(xs.length:Int)<(xs.length:Int)+1:=cq;have HLX:=eB hlx;have hx500:xs.length<500:=cq;have h500':=h500;rw[hlx];clear hz hxt hlx hcell htx hcl h500;by_cases h2:tl.size<2
  ·have hd2:decide ((tl.size:Int)<2)=true:=by simp;omega
   have ZQ:O (eu (s.size+1) s []=none):=HOFF.out (by rw[HLP.out];simp[zU];omega);go_wp2;exact bodyPost_ret (v:=.tuple #[.slice none 0 0,.bool false]) (by simp[results,Tryz.results188,go_sem]) rfl ⟨HB2.out,.inl ⟨ZQ.out,rfl⟩⟩
  have hd2:decide ((tl.size:Int)<2)=false:=by simp;omega
  have h22:2<=tl.size:=cq;cases hq:(tl.extract 0 2).toList==[61,32];case false=>
   have hq2:(!(tl.extract 0 2).toList==[61,32])=true:=by rw[hq];rfl
   have ZQ:O (eu (s.size+1) s []=none):=HOFF.out (by rw[HLP.out];unfold zU;rw[JM,hq];simp);go_wp2;exact bodyPost_ret (v:=.tuple #[.slice none 0 0,.bool false]) (by simp[results,Tryz.results188,go_sem]) rfl ⟨HB2.out,.inl ⟨ZQ.out,rfl⟩⟩
  have hq2:(!(tl.extract 0 2).toList==[61,32])=false:=by rw[hq];rfl
  have HTB:O (zU tl=true):=by show _=_;unfold zU;rw[JM,hq,decide_eq_true h22];rfl
  have HRE:=eB<|yV (tl.extract 2 tl.size) w2;go_wp2_with fail;refine HRE.out.mono ?_;rintro e w3 ⟨hb3,hcase⟩;have HB3:=eB<|HB2.out.trans<|hb3.mono HB2.out.size;have HM3:=eB<|ZT.out.below nZ hb3;have h23:w2.heap.size<=w3.heap.size:=hb3.size;have HLT2:O (∀g,Jv iT (.slice (some ⟨b4,0,none⟩) rs.length cap4) rs g->g<w2.heap.size):=fun g hg=>(ZT.out.lt nZ hg).2;have hc3:w3.cell? ⟨b4,xs.length*2+1,none⟩=some (.slice t.ad t.rows.length t.cap):=(hb3.cell (p:=⟨b4,xs.length*2+1,none⟩) (ZT.out.own.lt b4 rfl).2).trans HCL.out;rcases hcase with⟨hrb,rfl⟩|⟨hrb,v,R,qs,rfl,hF⟩
  ·have ZQ:O (eu (s.size+1) s []=none):=HOFF.out (by rw[HLP.out,hrb];simp);clear hb3 hc3 ZT HB2 HRE;go_wp2;exact bodyPost_ret (v:=.tuple #[.slice none 0 0,.bool false]) (by simp[results,Tryz.results188,go_sem]) rfl ⟨HB3.out,.inl ⟨ZQ.out,rfl⟩⟩
  obtain⟨YY,capE,hvE⟩:∃YY capE,v=.slice YY qs.length capE:=by
   obtain⟨a1,a2,a3,-⟩:=hF.slE;exact⟨a1,a2,a3⟩
  subst hvE;have HNOD:=eB<|hF.nod;have HEX:=eB hF.out;have HRB:=eB hrb;obtain⟨W5,ZZ⟩:=eQx<|w3.alloc<|.cells #[.string nm,.slice YY qs.length capE] 39;have hb5:ae w3 W5:=by rw[ZZ];exact(XL _ _).alloc (XK _) _
  have HM5:=eB<|HM3.out.below nZ hb5;have HB5:=eB<|HB3.out.trans<|hb5.mono HB3.out.size;have HNW:O (∀j u,[Value.string nm,.slice YY qs.length capE][j]?=some u->W5.cell? ((⟨w3.heap.size,0,none⟩:Addr).add j)=some u):=by show ∀j u,_;rw[ZZ];exact SY w3 _ _ _
  obtain⟨q,hqd⟩:∃q:RR,q=⟨nm,qs,YY,capE⟩:=⟨_,rfl⟩;have HQD:=eB hqd;have hkq3:kR w3 (w2.heap.size+1) q:=by rw[hqd];exact HNOD.out
  have hIq:∀g,iR q g->w2.heap.size+1<=g:=fun g hg=>(Mc.lt w3 _ q hkq3 g hg).1;have hkq5:kR W5 w.heap.size q:=Mc.heap w3 W5 w.heap.size q (hkq3.mono (by have:=HB2.out.size;omega)) hb5.size (fun g hg=>hb5.block g (Mc.lt w3 _ q hkq3 g hg).2);have HIQ:=eB hIq;have W5_ge:O (w2.heap.size<=W5.heap.size):=XR h23 hb5.size;have HKQ:=eB hkq5;have HKT:O (kT W5 w.heap.size t):=HM5.out.kid t (by rw[HXT.out];simp);have HTLT:O (∀g,iT t g->g<w2.heap.size):=fun g hg=>HLT2.out g (.inr ⟨t,by rw[HXT.out];simp,hg⟩);have ht750:t.rows.length<=750:=((rows_ok HK.out (by have:=congrArg ByteArray.size HT.out;rw[Yb]at this;omega)).2.1 t (by rw[HXT.out];simp)).1;have hc5:W5.cell? ⟨b4,xs.length*2+1,none⟩=some (.slice t.ad t.rows.length t.cap):=(hb5.cell (p:=⟨b4,xs.length*2+1,none⟩)<|XJ (ZT.out.own.lt b4 rfl).2 h23).trans hc3;have HC5:=eB hc5;have hfz:W5.frozen? ⟨b4,xs.length*2+1,none⟩=false:=HM5.out.own.frozenAt _;have HFZ:=eB hfz;clear hb3 hF hrb hkq3 hkq5 hIq hqd hc5 hb5 ZT HB2 HRE HM3 HB3 HNOD hfz;go_wp2_with(at_builtin;rw[<-ZZ];clear ZZ;refine wpList_append_own_at _ rfl _ _ 34 rfl w.heap.size 39 iR0 (.agg #[.string ⟨#[]⟩,.slice none 0 0]) 2 40 underlying34 Zk.out.1 Zk.out.2.1 Zk.out.2.2.1 Zk.out.2.2.2 rfl cv (.slice t.ad t.rows.length t.cap) _ (t.rows.flatMap RR.cells) rfl HKT.out.own ⟨w3.heap.size,0,none⟩ 1 1 [.string nm,.slice YY qs.length capE] rfl rfl HNW.out (Xm _ _ _ _) cy cq HB5.out.size ?_);intro v6 w6 hown6 hgr6 _ hat6;obtain⟨g6,c6,hv6⟩:=gG hown6;subst hv6;have hqv:q.vs=.slice YY qs.length capE:=by rw[HQD.out];rfl
  have hneb:some b4≠(Value.slice t.ad t.rows.length t.cap).ownBlock:=fun e=>HM5.out.head t (by rw[HXT.out];simp) b4 (.inl e.symm) rfl;have hc6:w6.cell? ⟨b4,xs.length*2+1,none⟩=some (.slice t.ad t.rows.length t.cap):=hgr6.cell HC5.out hneb;have hf6:w6.frozen? ⟨b4,xs.length*2+1,none⟩=false:=(World.frozen?_of_block (w:=W5) (a:=⟨b4,xs.length*2+1,none⟩)<|hgr6.block b4 (HM5.out.own.lt b4 rfl).2 hneb).trans HFZ.out;obtain⟨t',ht'⟩:∃t':TR,t'=⟨t.name,t.rows++[q],some ⟨g6,0,none⟩,c6⟩:=⟨_,rfl⟩;have hvt':t'.vs=.slice (some ⟨g6,0,none⟩) (t.rows.length+1) c6:=by rw[ht'];simp[TR.vs]
  have hkt':kT w6 w.heap.size t':=by
   have h1:Ed w6 w.heap.size (.slice (some ⟨g6,0,none⟩) (t.rows.length+1) c6) (t.rows++[q]):=HKT.out.snoc Mc (q:=q) (by
     rw[show RR.cells q=[.string nm,.slice YY qs.length capE] by unfold RR.cells;rw[hqv,HQD.out]];exact hown6) hgr6 (by
     rcases hat6 with e|e
     ·exact .inl e
     ·exact .inr ⟨_,e,XK _⟩) HKQ.out (fun g hg e=>by
     have h2:=HTLT.out g<|.inl e;have h3:=HIQ.out g hg;omega) (fun p hp g hg hg2=>by
     have h2:=HTLT.out g<|.inr ⟨p,hp,hg⟩;have h3:=HIQ.out g hg2;omega)
   unfold kT;rw[hvt',ht'];exact h1
  have hI':∀g,iT t' g->iT t g\/(g≠b4/\∀p∈xs,¬iT p g):=fun g hg=>by
   have hfar:w2.heap.size<=g->g≠b4/\∀p∈xs,¬iT p g:=fun hge=>⟨fun e=>by
     have:=HLT2.out b4<|.inl rfl;omega,fun p hp hi=>by
     have:=HLT2.out g (.inr ⟨p,by rw[HXT.out];simp[hp],hi⟩);omega⟩
   rcases hg with hg|⟨p,hp,hg⟩
   ·rw[hvt']at hg;rcases hat6 with e|e
    ·exact .inl<|.inl<|e.symm.trans hg
    rw[e]at hg;injection hg with hg;exact .inr (hfar (by have:=W5_ge.out;omega))
   rw[ht']at hp;rcases XV.1 hp with hp|hp
   ·exact .inl<|.inr ⟨p,hp,hg⟩
   rw[XX]at hp;subst hp;exact .inr (hfar (by have:=HIQ.out g hg;omega))
  have HM7:O (jq (w6.setCell ⟨b4,xs.length*2+1,none⟩<|.slice (some ⟨g6,0,none⟩) (t.rows.length+1) c6) w.heap.size (.slice (some ⟨b4,0,none⟩) (xs.length+1) cap4)<|xs++[t']):=by
   have hM:=HM5.out;rw[HLX.out,HXT.out]at hM;refine Zi.last nZ hM rfl hgr6 (fun r hr=>.inl hr) hkt' hI' ?_;rw[<-hvt',show t'.vs=t'.vs from rfl];exact S9 xs t t' (by rw[ht'])
  have HB7:O (ae w<|w6.setCell ⟨b4,xs.length*2+1,none⟩<|.slice (some ⟨g6,0,none⟩) (t.rows.length+1) c6):=(HB5.out.grown hgr6 HB5.out.size fun g hg=>(HKT.out.own.lt g hg).1).setCell (HM5.out.own.lt b4 rfl).1 _;have HTY7:O (oI (ai rs) line=some (ai<|xs++[t'])):=by
   show _=_;rw[HLP.out,HNE.out,HTB.out,HRB.out,HXT.out,ht'];simp only[Bool.and_true,if_true];rw[show ai (xs++[t])=ai xs++[t.p] by simp[ai],sQ];simp[ai,TR.p,fD,RR.p,HQD.out,HEX.out]
  obtain⟨o1,o2,o3,o4⟩:=HON.out _ HTY7.out;have HO:=eB<|And.intro o2 o1;have Zq:=eB o3;have Zg:=eB o4;clear hown6 hgr6 hat6 o1 o2 o3 o4 hkt' hI' hvt' ht' hqv hneb HM5 HB5 HKT HKQ;go_wp2;go_roundw;case rel=>exact⟨_,more,n-1,rfl,cq,HM7,HB7,Zq,Zg,HO⟩
  simp only[strOf];exact hless)
def Wt(s:ByteArray)(w:World)(e:Ending)(w':World):Prop :=
 ae w w'/\(((∀T,eu (s.size+1) s []=some T->aN T=false)/\e=.returned (.tuple #[.slice none 0 0,.bool false])) \/ ∃(v:Value) (rs:Q06),aN (ai rs)=true/\e=.returned (.tuple #[v,.bool true])/\jq w' w.heap.size v rs/\dI (ai rs)=s/\Vu (ai rs))
def sS(s:ByteArray)(w:ag)(hs:s.size<=3000):Calls prog 113 #[.string s] w (Wt s w):=by
 have HL:=eB<|Ht s w hs;go_enter func113,ntmps113;go_wp2_with fail;refine HL.mono ?_;rintro e w1 ⟨hb1,hcase⟩;have HB1:=eB hb1;rcases hcase with⟨hno,rfl⟩|⟨v,rs,hyes,rfl,hM,htx,hok⟩
 ·have ZQ:O (∀T,eu (s.size+1) s []=some T->aN T=false):=fun T hT=>by rw[hno]at hT;cases hT
  clear hb1 hno HL;go_wp2;exact bodyPost_ret (v:=.tuple #[.slice none 0 0,.bool false]) (by simp[results,Tryz.results113,go_sem]) rfl ⟨HB1,.inl ⟨ZQ,rfl⟩⟩
 obtain⟨ad,cap,hv,hsl,-⟩:=jq.read hM;subst hv;obtain⟨k1,k2,k3,k4⟩:=rows_ok hok (by rw[htx];exact hs);have HM:=eB hM;have HTX:=eB htx;have HOK:=eB hok;have HY:=eB hyes;have HSO:=eB<|kZ ad cap rs w1 cq hsl k3 k4;clear hb1 hM htx hok hyes hsl k1 k2 k3 k4 HL;go_wp2_with fail;refine HSO.mono ?_;rintro e w2 ⟨he,hb2⟩;have HB2:=eB<|HB1.trans<|hb2.mono HB1.size;have ZT:=eB<|HM.below nZ hb2;clear hb2 HSO HM;cases hd:aN (ai rs);case false=>
  rw[hd]at he;subst he;have ZQ:O (∀T,eu (s.size+1) s []=some T->aN T=false):=fun T hT=>by rw[HY]at hT;injection hT with hT;rw[<-hT];exact hd
  clear hd;go_wp2;exact bodyPost_ret (v:=.tuple #[.slice none 0 0,.bool false]) (by simp[results,Tryz.results113,go_sem]) rfl ⟨HB2,.inl ⟨ZQ,rfl⟩⟩
 rw[hd]at he;subst he;have HD:=eB hd;clear hd;go_wp2;exact bodyPost_ret (v:=.tuple #[.slice ad rs.length cap,.bool true]) (by simp[results,Tryz.results113,go_sem]) rfl ⟨HB2,.inr ⟨_,rs,HD,rfl,ZT,HTX,HOK⟩⟩
def lastT:ByteArray:=⟨#[116,121,112,101,32,100,111,99,10,118,105,101,119,101,114,32,61,32,116,104,105,115,40,117,115,101,114,41,10,116,121,112,101,32,117,115,101,114,10]⟩
def JN:List Ty:=[⟨⟨#[100,111,99]⟩,[⟨⟨#[118,105,101,119,101,114]⟩,[⟨1,[⟨⟨#[117,115,101,114]⟩,⟨#[]⟩⟩],⟨#[]⟩,⟨#[]⟩,[]⟩]⟩]⟩,⟨⟨#[117,115,101,114]⟩,[]⟩]
def Mt:eu (lastT.size+1) lastT []=some JN:=cw
def Mv:aN JN=true:=by
 refine bf.2 ⟨cw,cw,fun _=>0,⟨fun _=>Int.le_refl _,fun k hk d hd=>?_⟩⟩;have h:((ay JN).all fun k=>(iP JN k).isEmpty)=true:=cw
 have h2:=XY.1 h k hk;rw[List.isEmpty_iff.1 h2]at hd;cases hd
def Pre(t:ByteArray):Prop:=∃x y z c tl,t.data.toList=116::121::112::101::32::x::y::z::10::c::tl/\x≠10/\y≠10/\z≠10/\c≠116
def Pre.app{t:ByteArray}(h:Pre t)(u:ByteArray):Pre (t++u):=by
 obtain⟨x,y,z,c,tl,e,h1⟩:=h;exact⟨x,y,z,c,tl++u.data.toList,by rw[YJ,Array.toList_append,e];rfl,h1⟩
def Ta{n:ByteArray}(h:aW n=true):∀b∈n.data.toList,b≠10:=by
 intro b hb e;unfold aW dX uw at h;simp only[XN]at h;have:=XY.1 h.1.2 b hb;rw[e]at this
 revert this
 decide
def PG{rs:Q06}(hd:aN (ai rs)=true)(h:Pre<|dI<|ai rs):∃t ts q qs x xs,rs=t::ts/\t.rows=q::qs/\q.rows=x::xs:=by
 have hS:=bf.1 hd;obtain⟨x,y,z,c,tl,e,hx,hy,hz,hc⟩:=h;cases rs with
 | nil=>simp[ai,dI]at e
 | cons t ts =>
  have hn:=Ta (kW hS.1 0 ct).1;simp only[List.getElem_cons_zero]at hn;have e2:(116::121::112::101::32::(t.name.data.toList++10::((ed<|fD t.rows).data.toList++(dI<|ai ts).data.toList)))=116::121::112::101::32::x::y::z::10::c::tl:=by
   rw[<-e];show _=(dI (⟨t.name,fD t.rows⟩::ai ts)).data.toList;simp[dI,nV,ByteArray.data_append]
  simp only[List.cons.injEq,true_and]at e2;have key:(ed<|fD t.rows).data.toList++(dI<|ai ts).data.toList=c::tl:=by
   generalize (ed<|fD t.rows).data.toList++(dI<|ai ts).data.toList=rest at e2;generalize t.name.data.toList=nm at e2 hn
   match nm,e2,hn with
   | [],e2,_=>simp at e2;exact absurd e2.1.symm hx
   | [a],e2,_=>simp at e2;exact absurd e2.2.1.symm hy
   | [a,b],e2,_=>simp at e2;exact absurd e2.2.2.1.symm hz
   | [a,b,d],e2,_=>simp at e2;exact e2.2.2.2
   | a::b::d::f::nm,e2,hn=>simp at e2;exact absurd e2.2.2.2.1<|hn f ct
  cases hr:t.rows with
  | nil =>
   rw[hr]at key;cases ts with
   | nil=>simp[fD,ed,ai,dI]at key
   | cons u us =>
    have:(dI<|ai (u::us)).data.toList.head?=some 116:=by
     show(dI (⟨u.name,fD u.rows⟩::ai us)).data.toList.head?=_;simp[dI,nV,ByteArray.data_append]
    simp only[fD,List.map_nil,ed]at key;rw[show((⟨#[]⟩:ByteArray).data.toList++(dI<|ai (u::us)).data.toList)=(dI<|ai (u::us)).data.toList from rfl]at key;rw[key]at this;simp at this;exact absurd this hc
  | cons q qs =>
   obtain⟨h1,-⟩:=(bI hS.1).2.2 t ct q (by rw[hr];simp);have h2:=(pq h1).1;rw[aX]at h2;cases hq:q.rows with
   | nil=>rw[hq]at h2;simp at h2
   | cons x xs=>exact⟨t,ts,q,qs,x,xs,rfl,hr,hq⟩
set_option linter.unusedVariables false
def Hu{t:ByteArray}{x y z c:UInt8}(h:t.data.toList.take 10=[116,121,112,101,32,x,y,z,10,c])(h1:x≠10)(h2:y≠10)(h3:z≠10)(h4:c≠116):Pre t:=by
 refine⟨x,y,z,c,t.data.toList.drop 10,?_,h1,h2,h3,h4⟩
 conv=>lhs;rw[<-List.take_append_drop 10 t.data.toList,h]
 rfl
def Tc{t:ByteArray}(h:Pre t):10<=t.size:=by
 obtain⟨x,y,z,c,tl,e,-⟩:=h;have h2:t.size=t.data.toList.length:=ct;rw[h2,e];simp
def xX{w:ag}{base base' size n:Nat}{e:TypeId}{v:Value}{xs:Q03}(h:w.ownsRow base e size v n xs)(hb:base'<=base):w.ownsRow base' e size v n xs:=by
 refine⟨h.1,?_⟩;rcases h.2 with hl|⟨g,cap,cur,rfl,h1,h2⟩
 ·exact .inl hl
 exact .inr ⟨g,cap,cur,rfl,XR hb h1,h2⟩
def Ed.lower{w:ag}{base base':Nat}{v:Value}{rs:Q07}(h:Ed w base v rs)(hb:base'<=base):Ed w base' v rs:=⟨xX h.own hb,fun q hq=>NodM.mono (h.kid q hq) hb,h.head,h.two⟩
def Zi.lower{w:ag}{base base':Nat}{v:Value}{rs:Q06}(h:jq w base v rs)(hb:base'<=base):jq w base' v rs:=⟨xX h.own hb,fun q hq=>Ed.lower (h.kid q hq) hb,h.head,h.two⟩
def JO(w wc:World)(v:Value)(rs:Q06):Prop:=jq wc w.heap.size v rs/\aN (ai rs)=true/\Pre (dI<|ai rs)/\Vu (ai rs)/\(dI<|ai rs).size<=2000
def JO.only{w wc wd:ag}{R:Nat}{v:Value}{rs:Q06}(h:JO w wc v rs)(hR:cW R w)(ho:Only R wc wd):JO w wd v rs :=
 ⟨h.1.heap nZ ho.size fun g hg=>ho.block g (h.1.lt nZ hg).2 (fun e=>by injection e with e;have:=(h.1.lt nZ hg).1;omega),h.2⟩
def GoodS(rs:Q06):Prop:=rs.length<=500/\(∀r∈rs,r.light)/\∀r∈rs,r.fits
def JO.good{w wc:ag}{v:Value}{rs:Q06}(h:JO w wc v rs):GoodS rs/\jq wc w.heap.size v rs:=by
 obtain⟨k1,-,k3,k4⟩:=rows_ok h.2.2.2.1 (by have:=h.2.2.2.2;omega);exact⟨⟨k1,k3,k4⟩,h.1⟩
def Td:(⟨#[122,111,111]⟩:ByteArray).size<=maxLen:=by
 have e:(⟨#[122,111,111]⟩:ByteArray).size=3:=rfl;rw[e];unfold maxLen;omega
def Mw{t:TR}{ts:Q06}(h:GoodS (t::ts)):GoodS (({ t with name:=⟨#[122,111,111]⟩ }:TR)::ts):=by
 obtain⟨h1,h2,h3⟩:=h;refine⟨by simpa using h1,fun r hr=>?_,fun r hr=>?_⟩
 ·rcases X7.1 hr with rfl|hr
  ·exact h2 t ct
  exact h2 r (by simp[hr])
 rcases X7.1 hr with rfl|hr
 ·obtain⟨a1,a2,a3⟩:=h3 t ct;exact⟨Td,a2,a3⟩
 exact h3 r (by simp[hr])
def PH{t:TR}{ts:Q06}{q:RR}{qs:Q07}{y:ER}{ys:Q08}(k:Int)(h:GoodS (t::ts))(hq:t.rows=q::qs)(hy:q.rows=y::ys):GoodS (t.asK q qs y ys k::ts):=by
 obtain⟨h1,h2,h3⟩:=h;refine⟨by simpa using h1,fun r hr=>?_,fun r hr=>?_⟩
 ·rcases X7.1 hr with rfl|hr
  ·obtain⟨a1,a2⟩:=h2 t ct;rw[hq]at a1 a2;refine⟨by simpa[TR.asK] using a1,fun p hp=>?_⟩;rcases X7.1 hp with rfl|hp
   ·obtain⟨b1,b2⟩:=a2 q ct;rw[hy]at b1 b2;refine⟨by simpa using b1,fun z hz=>?_⟩;rcases X7.1 hz with rfl|hz
    ·exact b2 y ct
    exact b2 z (by simp[hz])
   exact a2 p (by simp[hp])
  exact h2 r (by simp[hr])
 rcases X7.1 hr with rfl|hr
 ·obtain⟨a0,a1,a2⟩:=h3 t ct;rw[hq]at a1 a2;refine⟨a0,by simpa[TR.asK] using a1,fun p hp=>?_⟩;rcases X7.1 hp with rfl|hp
  ·obtain⟨b0,b1,b2⟩:=a2 q ct;rw[hy]at b1 b2;refine⟨b0,by simpa using b1,fun z hz=>?_⟩;rcases X7.1 hz with rfl|hz
   ·exact b2 y ct
   exact b2 z (by simp[hz])
  exact a2 p (by simp[hp])
 exact h3 r (by simp[hr])
def Wu(R:Nat)(ad:Q02)(len cap:Nat)(w:World)(e:Ending)(w':World):Prop:=∃(v:Value) (rs:Q06),e=.returned v/\jq w' w.heap.size v rs/\GoodS rs/\Rd w' R ad len cap/\Only R w w'
def Vv(R:Nat)(w:World)(v:Value):Nat×Nat->Prop
 | (0,n)=>∃g,v=.slice (some ⟨g,0,none⟩) n n/\uy w R g n 70
 | (1,_)=>v=.pointer (some ⟨R,0,none⟩)
 | (2,n)=>∃x:Nat,v=.int .i64 (x:Int)/\x<n
 | (3,n)=>∃g x,v=.pointer (some ⟨g,x,none⟩)/\x<n/\uy w R g n 70
 | (4,n)=>∃t:ByteArray,v=.string t/\t.size<=n
 | (_,n)=>∃t:ByteArray,v=.string t/\Pre t/\t.size<=n
def Vv.only{R:Nat}{w w':ag}{v:Value}(h:Only R w w')(k:Nat×Nat)(hk:Vv R w v k):Vv R w' v k:=by
 match k,hk with
 | (0,n),hk=>obtain⟨g,e,hs⟩:=hk;exact⟨g,e,hs.only h⟩
 | (1,n),hk=>exact hk
 | (2,n),hk=>exact hk
 | (3,n),hk=>obtain⟨g,x,e,hx,hs⟩:=hk;exact⟨g,x,e,hx,hs.only h⟩
 | (4,n),hk=>exact hk
 | (n+5,m),hk=>exact hk
def XH:List (Nat×Nat):=[(0,2),(1,0),(2,2),(3,2),(4,70),(5,200),(5,240),(0,3),(1,0),(2,3),(3,3),(4,70),(5,320),(5,420)]
def Mx(R:Nat)(ad:Q02)(len cap:Nat)(w:ag)(h:Rd w R ad len cap):
  Calls prog 89 #[.pointer (some<|am R)] w (Wu R ad len cap w):=by
 have H:=kF h;have hRw:=h.lt;clear h;go_enter func89,ntmps89;go_wp2_with fail;refine dG 14 _ _ (fun k v w'=>Vv R w' v<|XH.getD k (9,0)) (fun w'=>Rd w' R ad len cap/\Only R w w') cw rfl cw cw (H7 [(7,[0,1,2,3,4,5,6,7,8,9,10,11,12,13])]) ⟨H.below<|(XL _ _).drew,(Only.refl R w).drewN 1⟩ ?step ?fin<;>dsimp only[Et];case step =>
  rintro i hi o ho f w' ⟨hR',Z4⟩ hpre;have HR:=aK hR';have HO:=aK Z4;have hRl:cW R w':=hR'.lt;have HM:O (∀e∈o.after,Region.binds .any e=true->_):=hpre;clear hR' Z4 hpre;have hc:=WN (i:=i) cq;clear hi
  repeat' rcases hc with rfl|hc
  ·cases ho;have K1:O (Only R w'<|w'.alloc<|.cells #[.string ⟨#[116,104,105,115,40,117,115,101,114,41]⟩,.string ⟨#[116,104,105,115,40,117,115,101,114,41,32,124,32,112,97,114,101,110,116,45,62,111,119,110,101,114]⟩] 9):=(Only.refl R w').alloc _;refine af rfl fun K HK=>?_;clear HM;dsimp only;go_simp;exact HK _ _ ⟨.slice (some ⟨w'.heap.size,0,none⟩) 2 2,by simp[upd],⟨HR.alloc _,HO.alloc _⟩,⟨_,rfl,ni w' R 70 hRl (xs:=[_,_]) cv⟩,fun k u hu=>Vv.only K1 _ hu⟩
  ·cases ho;refine af rfl fun K HK=>?_;clear HM;dsimp only;go_simp;exact HK _ _ ⟨Value.pointer<|some ⟨R,0,none⟩,by simp[upd],⟨HR,HO⟩,rfl,fun k u hu=>hu⟩
  ·cases ho;have e1:f 1=Value.pointer (some<|am R):=HM ⟨1,.data⟩ ct rfl;refine af rfl fun K HK=>?_;clear HM;simp only[e1];go_simp;refine(gM R ad len cap 2 _ HR cq cq).mono ?_;rintro e w5 ⟨⟨x,rfl,hx⟩,ZB,ZE⟩;have Zu:=kF ZB;have Ze:=kF ZE;clear ZB ZE;go_wp2_with fail;exact HK _ _ ⟨.int .i64 (x:Int),by simp[upd,e1],⟨Zu,HO.trans Ze⟩,⟨x,rfl,hx⟩,fun k u hu=>Vv.only Ze _ hu⟩
  ·cases ho;obtain⟨g,e1,hS⟩:=HM ⟨0,.data⟩ ct rfl;obtain⟨x,e2,hx⟩:=HM ⟨2,.data⟩ ct rfl;replace e1:f 0=_:=e1;replace e2:f 2=_:=e2;have HS:=aK hS;clear hS;have hx0:=bG x;have hx1:(x:Int)<2:=cq;refine af rfl fun K HK=>?_;clear HM;simp only[e1,e2];go_simp;exact HK _ _ ⟨.pointer<|some ⟨g,x,none⟩,by simp[upd,e1,e2],⟨HR,HO⟩,⟨g,x,rfl,hx,HS⟩,fun k u hu=>hu⟩
  ·cases ho;obtain⟨g,x,e1,hx,hS⟩:=HM ⟨3,.data⟩ ct rfl;replace e1:f 3=_:=e1;obtain⟨t,hcell,ht⟩:=hS.2.2 x hx;clear hS;refine af rfl fun K HK=>?_;clear HM;simp only[e1];go_simp;exact HK _ _ ⟨.string t,by simp[upd,e1],⟨HR,HO⟩,⟨t,rfl,ht⟩,fun k u hu=>hu⟩
  ·cases ho;obtain⟨t,e1,ht⟩:=HM ⟨4,.data⟩ ct rfl;replace e1:f 4=_:=e1;have hc0:(⟨#[116,121,112,101,32,100,111,99,10,98,97,110,110,101,100,32,61,32,116,104,105,115,40,117,115,101,114,41,10,101,100,105,116,111,114,32,61,32,116,104,105,115,40,117,115,101,114,41,32,124,32,111,119,110,101,114,10,111,119,110,101,114,32,61,32]⟩:ByteArray).size=65:=rfl;have hz:(9223372036854775807<65+t.size)=False:=by simp;omega
   refine af rfl fun K HK=>?_;clear HM;simp only[e1];go_simp;exact HK _ _ ⟨.string<|(⟨#[116,121,112,101,32,100,111,99,10,98,97,110,110,101,100,32,61,32,116,104,105,115,40,117,115,101,114,41,10,101,100,105,116,111,114,32,61,32,116,104,105,115,40,117,115,101,114,41,32,124,32,111,119,110,101,114,10,111,119,110,101,114,32,61,32]⟩:ByteArray)++t,by simp[upd,e1],⟨HR,HO⟩,⟨_,rfl,(Hu (x:=100) (y:=111) (z:=99) (c:=98) (by rfl) cv cv cv cv).app t,by rw[Yb,hc0];omega⟩,fun k u hu=>hu⟩
  ·cases ho;obtain⟨t,e1,hp,ht⟩:=HM ⟨5,.data⟩ ct rfl;replace e1:f 5=_:=e1;have HPRE:=kF hp;have hc0:(⟨#[10,112,97,114,101,110,116,32,61,32,116,104,105,115,40,100,111,99,41,10,118,105,101,119,101,114,32,61,32]⟩:ByteArray).size=29:=rfl;have hz:(9223372036854775807<t.size+29)=False:=by simp;omega
   refine af rfl fun K HK=>?_;clear HM hp;simp only[e1];go_simp;exact HK _ _ ⟨.string<|t++(⟨#[10,112,97,114,101,110,116,32,61,32,116,104,105,115,40,100,111,99,41,10,118,105,101,119,101,114,32,61,32]⟩:ByteArray),by simp[upd,e1],⟨HR,HO⟩,⟨_,rfl,HPRE.app _,by rw[Yb,hc0];omega⟩,fun k u hu=>hu⟩
  ·cases ho;have K1:O (Only R w'<|w'.alloc<|.cells #[.string ⟨#[116,104,105,115,40,117,115,101,114,44,103,114,111,117,112,35,109,101,109,98,101,114,41,32,124,32,101,100,105,116,111,114,32,124,32,112,97,114,101,110,116,45,62,118,105,101,119,101,114]⟩,.string ⟨#[40,116,104,105,115,40,117,115,101,114,44,103,114,111,117,112,35,109,101,109,98,101,114,41,32,124,32,101,100,105,116,111,114,32,124,32,112,97,114,101,110,116,45,62,118,105,101,119,101,114,41,32,45,32,98,97,110,110,101,100]⟩,.string ⟨#[116,104,105,115,40,117,115,101,114,44,103,114,111,117,112,35,109,101,109,98,101,114,41,32,38,32,101,100,105,116,111,114]⟩] 9):=(Only.refl R w').alloc _;refine af rfl fun K HK=>?_;clear HM;dsimp only;go_simp;exact HK _ _ ⟨.slice (some ⟨w'.heap.size,0,none⟩) 3 3,by simp[upd],⟨HR.alloc _,HO.alloc _⟩,⟨_,rfl,ni w' R 70 hRl (xs:=[_,_,_]) cv⟩,fun k u hu=>Vv.only K1 _ hu⟩
  ·cases ho;refine af rfl fun K HK=>?_;clear HM;dsimp only;go_simp;exact HK _ _ ⟨Value.pointer<|some ⟨R,0,none⟩,by simp[upd],⟨HR,HO⟩,rfl,fun k u hu=>hu⟩
  ·cases ho;have e1:f 8=Value.pointer (some<|am R):=HM ⟨8,.data⟩ ct rfl;refine af rfl fun K HK=>?_;clear HM;simp only[e1];go_simp;refine(gM R ad len cap 3 _ HR cq cq).mono ?_;rintro e w5 ⟨⟨x,rfl,hx⟩,ZB,ZE⟩;have Zu:=kF ZB;have Ze:=kF ZE;clear ZB ZE;go_wp2_with fail;exact HK _ _ ⟨.int .i64 (x:Int),by simp[upd,e1],⟨Zu,HO.trans Ze⟩,⟨x,rfl,hx⟩,fun k u hu=>Vv.only Ze _ hu⟩
  ·cases ho;obtain⟨g,e1,hS⟩:=HM ⟨7,.data⟩ ct rfl;obtain⟨x,e2,hx⟩:=HM ⟨9,.data⟩ ct rfl;replace e1:f 7=_:=e1;replace e2:f 9=_:=e2;have HS:=aK hS;clear hS;have hx0:=bG x;have hx1:(x:Int)<3:=cq;refine af rfl fun K HK=>?_;clear HM;simp only[e1,e2];go_simp;exact HK _ _ ⟨.pointer<|some ⟨g,x,none⟩,by simp[upd,e1,e2],⟨HR,HO⟩,⟨g,x,rfl,hx,HS⟩,fun k u hu=>hu⟩
  ·cases ho;obtain⟨g,x,e1,hx,hS⟩:=HM ⟨10,.data⟩ ct rfl;replace e1:f 10=_:=e1;obtain⟨t,hcell,ht⟩:=hS.2.2 x hx;clear hS;refine af rfl fun K HK=>?_;clear HM;simp only[e1];go_simp;exact HK _ _ ⟨.string t,by simp[upd,e1],⟨HR,HO⟩,⟨t,rfl,ht⟩,fun k u hu=>hu⟩
  ·cases ho;obtain⟨t,e1,hp,ht⟩:=HM ⟨6,.data⟩ ct rfl;obtain⟨u2,e2,hu2⟩:=HM ⟨11,.data⟩ ct rfl;replace e1:f 6=_:=e1;replace e2:f 11=_:=e2;have HPRE:=kF hp;have hz:(9223372036854775807<t.size+u2.size)=False:=by simp;omega
   refine af rfl fun K HK=>?_;clear HM hp;simp only[e1,e2];go_simp;exact HK _ _ ⟨.string<|t++u2,by simp[upd,e1,e2],⟨HR,HO⟩,⟨_,rfl,HPRE.app _,by rw[Yb];omega⟩,fun k u hu=>hu⟩
  cases ho;obtain⟨t,e1,hp,ht⟩:=HM ⟨12,.data⟩ ct rfl;replace e1:f 12=_:=e1;have HPRE:=kF hp;have hc0:(⟨#[10,116,121,112,101,32,103,114,111,117,112,10,109,101,109,98,101,114,32,61,32,116,104,105,115,40,117,115,101,114,44,103,114,111,117,112,35,109,101,109,98,101,114,41,10,116,121,112,101,32,117,115,101,114,10]⟩:ByteArray).size=55:=rfl;have hz:(9223372036854775807<t.size+55)=False:=by simp;omega
  refine af rfl fun K HK=>?_;clear HM hp;simp only[e1];go_simp;exact HK _ _ ⟨.string<|t++(⟨#[10,116,121,112,101,32,103,114,111,117,112,10,109,101,109,98,101,114,32,61,32,116,104,105,115,40,117,115,101,114,44,103,114,111,117,112,35,109,101,109,98,101,114,41,10,116,121,112,101,32,117,115,101,114,10]⟩:ByteArray),by simp[upd,e1],⟨HR,HO⟩,⟨_,rfl,HPRE.app _,by rw[Yb,hc0];omega⟩,fun k u hu=>hu⟩
 case fin =>
  rintro o ho f w1 ⟨Zr,Zx⟩ hall;obtain⟨t1,e1,hp1,ht1⟩:=hall 13 cq;replace e1:f 13=_:=e1;have HR1:=kF Zr;have Zj:=kF Zx;have HP1:=kF hp1;obtain rfl:=Option.some.inj ho;clear ho hall Zr Zx hp1;refine af rfl fun K HK=>?_;simp only[e1];go_simp;refine HK _ _ ?_;clear HK;go_wp2_with fail;refine(jA R ad len cap 3 _ HR1 cq cq).mono ?_;rintro e w2 ⟨⟨q1,rfl⟩,hR2,hO2⟩;have HR2:=kF hR2;have YZ:O (Only R w w2):=Zj.trans hO2;clear hR2 hO2 HR1 Zj
  go_upto_if 22 with fail
  go_cut [3] from 23 (fun s3 wc=>∃t:ByteArray,s3=.string t/\t.size<=1200/\O (Pre t)/\O (Rd wc R ad len cap)/\O (Only R w wc))
  case first =>
   cases q1;case false=>
    go_wp2_with fail
    go_meet
    exact⟨t1,rfl,cq,HP1,HR2,YZ⟩
   go_wp2_with fail;refine(rM R ad len cap 0 _ cq HR2).mono ?_;rintro e w3 ⟨⟨r0,rfl,hr0⟩,hR3,hO3⟩;have HR3:=kF hR3;have Zq:O (Only R w w3):=YZ.trans hO3;clear hR3 hO3 HR2 YZ;go_wp2_with fail;refine(rM R ad len cap 1 _ cq HR3).mono ?_;rintro e w4 ⟨⟨r1,rfl,hr1⟩,hR4,hO4⟩;have HR4:=kF hR4;have Zg:O (Only R w w4):=Zq.trans hO4;clear hR4 hO4 HR3 Zq;go_wp2_with fail;refine(rM R ad len cap 2 _ cq HR4).mono ?_;rintro e w5 ⟨⟨r2,rfl,hr2⟩,ZB,ZE⟩;have Zu:=kF ZB;have Ze:O (Only R w w5):=Zg.trans ZE;clear ZB ZE HR4 Zg;have k0:(⟨#[116,121,112,101,32,100,111,99,10,98,97,110,110,101,100,32,61,32]⟩:ByteArray).size=18:=rfl;have k1:(⟨#[10,101,100,105,116,111,114,32,61,32]⟩:ByteArray).size=10:=rfl;have k2:(⟨#[10,111,119,110,101,114,32,61,32,116,104,105,115,40,117,115,101,114,41,10,112,97,114,101,110,116,32,61,32,116,104,105,115,40,100,111,99,41,10,118,105,101,119,101,114,32,61,32]⟩:ByteArray).size=48:=rfl;have k3:(⟨#[10,116,121,112,101,32,103,114,111,117,112,10,109,101,109,98,101,114,32,61,32,116,104,105,115,40,117,115,101,114,44,103,114,111,117,112,35,109,101,109,98,101,114,41,10,116,121,112,101,32,117,115,101,114,10]⟩:ByteArray).size=55:=rfl;have HSZ:O ((((((((⟨#[116,121,112,101,32,100,111,99,10,98,97,110,110,101,100,32,61,32]⟩:ByteArray)++r0)++(⟨#[10,101,100,105,116,111,114,32,61,32]⟩:ByteArray))++r1)++(⟨#[10,111,119,110,101,114,32,61,32,116,104,105,115,40,117,115,101,114,41,10,112,97,114,101,110,116,32,61,32,116,104,105,115,40,100,111,99,41,10,118,105,101,119,101,114,32,61,32]⟩:ByteArray))++r2)++(⟨#[10,116,121,112,101,32,103,114,111,117,112,10,109,101,109,98,101,114,32,61,32,116,104,105,115,40,117,115,101,114,44,103,114,111,117,112,35,109,101,109,98,101,114,41,10,116,121,112,101,32,117,115,101,114,10]⟩:ByteArray)).size<=1200):=by show _<=_;simp only[Yb,k0,k1,k2,k3];omega
   have HPX:O (Pre<|((((((⟨#[116,121,112,101,32,100,111,99,10,98,97,110,110,101,100,32,61,32]⟩:ByteArray)++r0)++(⟨#[10,101,100,105,116,111,114,32,61,32]⟩:ByteArray))++r1)++(⟨#[10,111,119,110,101,114,32,61,32,116,104,105,115,40,117,115,101,114,41,10,112,97,114,101,110,116,32,61,32,116,104,105,115,40,100,111,99,41,10,118,105,101,119,101,114,32,61,32]⟩:ByteArray))++r2)++(⟨#[10,116,121,112,101,32,103,114,111,117,112,10,109,101,109,98,101,114,32,61,32,116,104,105,115,40,117,115,101,114,44,103,114,111,117,112,35,109,101,109,98,101,114,41,10,116,121,112,101,32,117,115,101,114,10]⟩:ByteArray)):=(((((((Hu (x:=100) (y:=111) (z:=99) (c:=98) (by rfl) cv cv cv cv:Pre (⟨#[116,121,112,101,32,100,111,99,10,98,97,110,110,101,100,32,61,32]⟩:ByteArray)).app r0).app _).app r1).app _).app r2).app _);clear k0 k1 k2 k3;go_wp2_with fail
   go_meet
   exact⟨_,rfl,HSZ,HPX,Zu,Ze⟩
  obtain⟨t,rfl,hts,HP,HR,HO⟩:=hcut;clear HP1 HR2 YZ;go_wp2_with fail;refine(jA R ad len cap 4 _ HR cq cq).mono ?_;rintro e w6 ⟨⟨q2,rfl⟩,hR6,hO6⟩;have HR6:=kF hR6;have ZI:O (Only R w w6):=HO.trans hO6;clear hR6 hO6 HR HO
  go_upto_if 36 with fail
  go_cut [3,4] from 37 (fun s3 s4 wc=>∃t:ByteArray,s3=.string t/\t.size<=2000/\O (Pre t)/\O (Rd wc R ad len cap)/\O (Only R w wc))
  case first =>
   cases q2;case false=>
    go_wp2_with fail
    go_meet
    exact⟨t,rfl,cq,HP,HR6,ZI⟩
   have ht10:10<=t.size:=Tc HP;go_wp2_with fail;go_loopw[4] (fun i wr=>∃k:Nat,i=.int .i64 (k:Int)/\k+9<=t.size/\wr=w6) (fun i _=>t.size-(intOf i).toNat);case atStart=>exact⟨0,rfl,cq,rfl⟩
   obtain⟨k,rfl,hk,rfl⟩:=hrel;have HD0:O ((⟨#[116,121,112,101,32,100,105,114,10,111,119,110,101,114,32,61,32,116,104,105,115,40,117,115,101,114,41,10,115,101,101,32,61,32,116,104,105,115,40,117,115,101,114,41,10]⟩:ByteArray).size=45):=rfl;have HD1:O ((⟨#[116,104,105,115,40,100,111,99,44,100,105,114,41]⟩:ByteArray).size=13):=rfl;have h3:(((k:Int)+9<(t.size:Int))/\((t.extract k<|k+9).toList==[116,104,105,115,40,100,111,99,41])=false)\/(((k:Int)+9<(t.size:Int))/\((t.extract k<|k+9).toList==[116,104,105,115,40,100,111,99,41])=true)\/¬((k:Int)+9<(t.size:Int)):=by
    by_cases h:(k:Int)+9<(t.size:Int)
    ·cases e:(t.extract k<|k+9).toList==[116,104,105,115,40,100,111,99,41]
     ·exact .inl ⟨h,rfl⟩
     exact .inr<|.inl ⟨h,rfl⟩
    exact .inr<|.inr h
   have hk0:=bG k;have hk1:(k:Int)<=(t.size:Int):=cq;have hk2:(0:Int)<=(k:Int)+9:=cq;have hk3:(k:Int)+9<=(t.size:Int):=cq;have he1:(t.extract 0 k).size<=1200:=by rw[ByteArray.size_extract];omega
   have he2:(t.extract (k+9) t.size).size<=1200:=by rw[ByteArray.size_extract];omega
   have hetot:(t.extract 0 k).size+(t.extract (k+9) t.size).size<=1200:=by rw[ByteArray.size_extract,ByteArray.size_extract];omega
   have HSZ:O (((((⟨#[116,121,112,101,32,100,105,114,10,111,119,110,101,114,32,61,32,116,104,105,115,40,117,115,101,114,41,10,115,101,101,32,61,32,116,104,105,115,40,117,115,101,114,41,10]⟩:ByteArray)++t.extract 0 k)++(⟨#[116,104,105,115,40,100,111,99,44,100,105,114,41]⟩:ByteArray))++t.extract (k+9) t.size).size<=2000):=by show _<=_;simp only[Yb,HD0.out,HD1.out];omega
   have HPX:O (Pre<|(((⟨#[116,121,112,101,32,100,105,114,10,111,119,110,101,114,32,61,32,116,104,105,115,40,117,115,101,114,41,10,115,101,101,32,61,32,116,104,105,115,40,117,115,101,114,41,10]⟩:ByteArray)++t.extract 0 k)++(⟨#[116,104,105,115,40,100,111,99,44,100,105,114,41]⟩:ByteArray))++t.extract (k+9) t.size):=((((Hu (x:=100) (y:=105) (z:=114) (c:=111) (by rfl) cv cv cv cv:Pre (⟨#[116,121,112,101,32,100,105,114,10,111,119,110,101,114,32,61,32,116,104,105,115,40,117,115,101,114,41,10,115,101,101,32,61,32,116,104,105,115,40,117,115,101,114,41,10]⟩:ByteArray)).app _).app _).app _);have HRW:O (∀n,Rd (wr.drewN n) R ad len cap):=fun n=>HR6.below<|below_drewN (XL _ _) n;have HOW:O (∀n,Only R w<|wr.drewN n):=fun n=>ZI.drewN n;rcases h3 with⟨h,hm⟩|⟨h,hm⟩|h
   ·have hm2:(!(t.extract k<|k+9).toList==[116,104,105,115,40,100,111,99,41])=true:=by rw[hm];rfl
    go_wp2;go_roundw;case rel=>exact⟨k+1,cx,cq,trivial⟩
    simp[intOf]<;>omega
   ·have hm2:(!(t.extract k<|k+9).toList==[116,104,105,115,40,100,111,99,41])=false:=by rw[hm];rfl
    go_wp2_with fail;go_quiet (fail);go_wp2_with fail
    go_meet
    exact⟨_,rfl,HSZ,HPX,HRW _,HOW _⟩
   go_wp2_with fail;go_quiet (fail);go_wp2_with fail
   go_meet
   exact⟨_,rfl,HSZ,HPX,HRW _,HOW _⟩
  obtain⟨t2,rfl,hts2,Zc,HR,HO⟩:=hcut;clear HP HR6 ZI hts;have hRc:cW R wc:=HR.lt;go_wp2_with fail;refine(sS t2 _ cq).mono ?_;rintro e w7 ⟨hb7,hcase⟩;have HR7:=kF<|HR.below hb7;have HO7:=aK<|HO.below hb7;have hw7:cY w w7:=HO7.size;have hwc:cY w wc:=HO.size;obtain⟨v0,b0,rfl,HV0⟩:∃(v0:Value) (b0:Bool),e=.returned (.tuple #[v0,.bool b0])/\O (b0=true->∃rs:List TR,JO w w7 v0 rs):=by
   rcases hcase with⟨-,e1⟩|⟨v,rs,hd,e1,hM,htx,hok⟩
   ·exact⟨_,_,e1,fun h=>by cases h⟩
   exact⟨_,_,e1,fun _=>⟨rs,hM.lower hwc,hd,by rw[htx];exact Zc,hok,by rw[htx];omega⟩⟩
  clear hb7 hcase HR HO Zc hts2 hwc hRc
  go_upto_if 68 with fail
  go_cut [5] from 69 (fun s5 wd=>(∃rs:List TR,JO w wd s5 rs)/\O (Rd wd R ad len cap)/\O (Only R w wd))
  case first =>
   cases b0;case true=>
    have HV:=kF<|HV0 rfl;go_wp2_with fail
    go_meet
    exact⟨HV,HR7,HO7⟩
   go_wp2_with fail;refine(sS lastT _ cv).mono ?_;rintro e w8 ⟨hb8,hcase⟩;have HR8:=kF<|HR7.below hb8;have HO8:=aK<|HO7.below hb8;rcases hcase with⟨hno,e1⟩|⟨v,rs,hd,e1,hM,htx,hok⟩
   ·exact absurd (hno JN Mt) (by rw[Mv];decide)
   subst e1;have HV:O (∃rs:List TR,JO w w8 v rs):=⟨rs,hM.lower hw7,hd,by rw[htx];exact Hu (x:=100) (y:=111) (z:=99) (c:=118) (by rfl) cv cv cv cv,hok,by rw[htx];decide⟩;clear hb8 hd hM htx hok;go_wp2_with fail
   go_meet
   exact⟨HV,HR8,HO8⟩
  obtain⟨⟨rs,hSR⟩,HR,HO⟩:=hcut;have HSR:=kF hSR;clear hSR HV0 HR7 HO7 hw7;go_wp2_with fail;refine(gM R ad len cap 40 _ HR cq cq).mono ?_;rintro e w9 ⟨⟨x,rfl,hx⟩,hR9,hO9⟩;have HR9:=kF hR9;have HO9:O (Only R w w9):=HO.trans hO9;have HS9:=kF<|HSR.only hRw hO9;clear hR9 hO9 HR HO HSR;obtain⟨t,ts,q,qs,y,ys,hrs,hq,hy⟩:=PG HS9.2.1 HS9.2.2.1;subst hrs;obtain⟨b,cp,hu5⟩:∃b cp,u5=.slice (some<|am b) (ts.length+1) cp:=gG HS9.1.own;subst hu5;have HM9:=kF HS9.1;have HG:=kF HS9.good.1;have HQ:=kF hq;have HYY:=kF hy;have hbw:w.heap.size<=b:=(HM9.own.lt b rfl).1;have hbl:cW b w9:=(HM9.own.lt b rfl).2;have hts0:(0:Int)<(ts.length:Int)+1:=cq;have FAR:O (∀g,w.heap.size<=g->0<len->∀b off,ad=some (ap b off)->b≠g):=fun g hg h0 b off e=>by
   obtain⟨b',off',e',-,hb',-⟩:=H.bytes h0;rw[e]at e';injection e' with e';injection e' with e1 e2;omega
  have hc0:ab w9 b (.string t.name):=(HM9.own.cellAt 0 cq).trans (by simp[TR.cells]);have hc1:ac w9 b 1 (.slice t.ad t.rows.length t.cap):=(HM9.own.cellAt 1 cq).trans (by simp[TR.cells,TR.vs]);have hf0:w9.frozen? (am b)=false:=HM9.own.frozenAt 0;clear HS9 hq hy;by_cases h39:x=39
  ·have h39b:((x:Int)==39)=true:=by simp;omega
   have ZK:O (Wu R ad len cap w (.returned<|.slice (some<|am b) (ts.length+1) cp)<|w9.setCell (am b)<|.string ⟨#[122,111,111]⟩):=⟨_,_,rfl,jq.named ⟨#[122,111,111]⟩ HM9 rfl,Mw HG,HR9.setFar cq<|FAR b hbw,HO9.setNew hbw⟩;go_wp2;go_ret;exact ZK
  have h39b:((x:Int)==39)=false:=by simp;omega
  by_cases h38:x=38
  ·have h38b:((x:Int)==38)=true:=by simp;omega
   subst h38;have hkt:=HM9.kid t ct;have hR9:Ed w9 w.heap.size t.vs (q::qs):=by have:=hkt;unfold kT at this;rwa [HQ]at this
   obtain⟨b1,c1,ht1⟩:∃b1 c1,t.vs=.slice (some<|am b1) (qs.length+1) c1:=gG hR9.own;have hkq:=hR9.kid q ct;have hN9:NodM w9 w.heap.size q.vs (y::ys):=by have:=hkq;unfold kR at this;rwa [HYY]at this
   obtain⟨b2,c2,hq2⟩:∃b2 c2,q.vs=.slice (some<|am b2) (ys.length+1) c2:=gG hN9.own;have hqad:q.ad=some (am b2):=by unfold RR.vs at hq2;injection hq2
   rw[ht1]at hR9;rw[hq2]at hN9;have hv1:Value.slice t.ad t.rows.length t.cap=.slice (some<|am b1) (qs.length+1) c1:=ht1;rw[hv1]at hc1;have hd1:ac w9 b1 1 (.slice (some<|am b2) (ys.length+1) c2):=(hR9.own.cellAt 1 cq).trans (by simp[RR.cells,hq2]);have hk0:ab w9 b2 (.int .i64 y.e.kind):=(hN9.own.cellAt 0 cq).trans (by simp[kH,ER.row]);have hk1:w9.frozen? (am b2)=false:=hN9.own.frozenAt 0;have l1:=hR9.own.lt b1 rfl;have l2:=hN9.own.lt b2 rfl;have hqs0:(0:Int)<(qs.length:Int)+1:=cq
   have hys0:(0:Int)<(ys.length:Int)+1:=cq;have HQAD:=kF hqad;clear hkt hkq hR9 hN9 ht1 hq2 hqad hv1 hc0 hf0;go_wp2_with fail;refine mX 11 _ _ (fun k v _=>(k=8->∃z:Int,v=.int .i64 z)/\(k≠8->v=(Value.slice (some<|am b) (ts.length+1) cp::.pointer (some<|am b)::.pointer (some<|ap b 1)::.slice (some<|am b1) (qs.length+1) c1::.pointer (some<|am b1)::.pointer (some<|ap b1 1)::.slice (some<|am b2) (ys.length+1) c2::.pointer (some<|am R)::undef::.pointer (some<|am b2)::.pointer (some<|am b2)::[]).getD k undef)) (fun _ w'=>Rd w' R ad len cap/\Only R w9 w') cw rfl cw cw (H7 [(82,[0,1,2,3,4,5,6,7,8,9,10])]) ⟨HR9.below<|(XL _ _).drew,(Only.refl R w9).drewN 1⟩ ?stepK ?finK<;>dsimp only[Et];case stepK =>
    rintro i hi o ho listed fq w' - - ⟨hR',Z4⟩ hpre;have HRr:=aK hR';have HOo:=aK Z4;replace hc1:=(Z4.cell hbl cq).trans hc1;replace hd1:=(Z4.cell l1.2 cq).trans hd1;have HM:O (∀e∈o.after,Region.binds .any e=true->_):=hpre;clear hR' Z4 hpre;have hc:=P9 (i:=i) cq;clear hi
    repeat' rcases hc with rfl|hc
    ·cases ho;refine af rfl fun K HK=>?_;clear HM;dsimp only;go_simp;exact HK _ _ ⟨Value.slice (some ⟨b,0,none⟩) (ts.length+1) cp,by simp[upd],⟨HRr,HOo⟩,⟨fun h=>absurd h cv,fun _=>rfl⟩,fun k u _ hu=>hu⟩
    ·cases ho;have e0:fq 0=.slice (some<|am b) (ts.length+1) cp:=(HM ⟨0,.data⟩ ct rfl).2 cv;refine af rfl fun K HK=>?_;clear HM;simp only[e0];go_simp;exact HK _ _ ⟨Value.pointer<|some ⟨b,0,none⟩,by simp[upd,e0],⟨HRr,HOo⟩,⟨fun h=>absurd h cv,fun _=>rfl⟩,fun k u _ hu=>hu⟩
    ·cases ho;have e1:fq 1=.pointer (some<|am b):=(HM ⟨1,.data⟩ ct rfl).2 cv;refine af rfl fun K HK=>?_;clear HM;simp only[e1];go_simp;exact HK _ _ ⟨Value.pointer<|some ⟨b,1,none⟩,by simp[upd,e1],⟨HRr,HOo⟩,⟨fun h=>absurd h cv,fun _=>rfl⟩,fun k u _ hu=>hu⟩
    ·cases ho;have e2:fq 2=.pointer (some<|ap b 1):=(HM ⟨2,.data⟩ ct rfl).2 cv;refine af rfl fun K HK=>?_;clear HM;simp only[e2];go_simp;exact HK _ _ ⟨Value.slice (some ⟨b1,0,none⟩) (qs.length+1) c1,by simp[upd,e2],⟨HRr,HOo⟩,⟨fun h=>absurd h cv,fun _=>rfl⟩,fun k u _ hu=>hu⟩
    ·cases ho;have e3:fq 3=.slice (some<|am b1) (qs.length+1) c1:=(HM ⟨3,.data⟩ ct rfl).2 cv;refine af rfl fun K HK=>?_;clear HM;simp only[e3];go_simp;exact HK _ _ ⟨Value.pointer<|some ⟨b1,0,none⟩,by simp[upd,e3],⟨HRr,HOo⟩,⟨fun h=>absurd h cv,fun _=>rfl⟩,fun k u _ hu=>hu⟩
    ·cases ho;have e4:fq 4=.pointer (some<|am b1):=(HM ⟨4,.data⟩ ct rfl).2 cv;refine af rfl fun K HK=>?_;clear HM;simp only[e4];go_simp;exact HK _ _ ⟨Value.pointer<|some ⟨b1,1,none⟩,by simp[upd,e4],⟨HRr,HOo⟩,⟨fun h=>absurd h cv,fun _=>rfl⟩,fun k u _ hu=>hu⟩
    ·cases ho;have e5:fq 5=.pointer (some<|ap b1 1):=(HM ⟨5,.data⟩ ct rfl).2 cv;refine af rfl fun K HK=>?_;clear HM;simp only[e5];go_simp;exact HK _ _ ⟨Value.slice (some ⟨b2,0,none⟩) (ys.length+1) c2,by simp[upd,e5],⟨HRr,HOo⟩,⟨fun h=>absurd h cv,fun _=>rfl⟩,fun k u _ hu=>hu⟩
    ·cases ho;refine af rfl fun K HK=>?_;clear HM;dsimp only;go_simp;exact HK _ _ ⟨Value.pointer<|some ⟨R,0,none⟩,by simp[upd],⟨HRr,HOo⟩,⟨fun h=>absurd h cv,fun _=>rfl⟩,fun k u _ hu=>hu⟩
    ·cases ho;have e7:fq 7=.pointer (some<|am R):=(HM ⟨7,.data⟩ ct rfl).2 cv;refine af rfl fun K HK=>?_;clear HM;simp only[e7];go_simp;refine(TV R ad len cap 1 6 _ HRr cv cv cv).mono ?_;rintro e w10 ⟨⟨z,rfl⟩,hR10,hO10⟩;have HR10:=kF hR10;have HO10:=kF hO10;clear hR10 hO10;go_wp2_with fail;exact HK _ _ ⟨.int .i64 z,by simp[upd,e7],⟨HR10,HOo.trans HO10⟩,⟨fun _=>⟨z,rfl⟩,fun h=>absurd rfl h⟩,fun k u _ hu=>hu⟩
    ·cases ho;have e6:fq 6=.slice (some<|am b2) (ys.length+1) c2:=(HM ⟨6,.data⟩ ct rfl).2 cv;refine af rfl fun K HK=>?_;clear HM;simp only[e6];go_simp;exact HK _ _ ⟨Value.pointer<|some ⟨b2,0,none⟩,by simp[upd,e6],⟨HRr,HOo⟩,⟨fun h=>absurd h cv,fun _=>rfl⟩,fun k u _ hu=>hu⟩
    cases ho;have e9:fq 9=.pointer (some<|am b2):=(HM ⟨9,.data⟩ ct rfl).2 cv;refine af rfl fun K HK=>?_;clear HM;simp only[e9];go_simp;exact HK _ _ ⟨Value.pointer<|some ⟨b2,0,none⟩,by simp[upd,e9],⟨HRr,HOo⟩,⟨fun h=>absurd h cv,fun _=>rfl⟩,fun k u _ hu=>hu⟩
   case finK =>
    rintro o ho listed fq w' ⟨hR',Z4⟩ hall;have HRr:=aK hR';have HOo:O (Only R w w'):=HO9.trans Z4;obtain⟨z,ez⟩:=(hall 8 cq).1 rfl;replace ez:fq 8=_:=ez;have e10:fq 10=.pointer (some<|am b2):=(hall 10 cq).2 cq;replace hk0:=(Z4.cell l2.2 cq).trans hk0;replace hk1:=(Z4.frozen (o:=0) l2.2 cq).trans hk1;have hM':jq w' w.heap.size (.slice (some<|am b) (ts.length+1) cp) (t::ts):=HM9.heap nZ Z4.size fun g hg=>Z4.block g (HM9.lt nZ hg).2 (fun e=>by injection e with e;have:=(HM9.lt nZ hg).1;omega);have ZK:O (Wu R ad len cap w (.returned<|.slice (some<|am b) (ts.length+1) cp)<|w'.setCell (am b2)<|.int .i64 z):=⟨_,_,rfl,jq.kind z hM' HQ HYY HQAD,PH z HG HQ HYY,HRr.setFar cq<|FAR b2 l2.1,HOo.setNew l2.1⟩;cases ho;clear hall hR' Z4 hM';refine af rfl fun K HK=>?_;simp only[ez,e10];go_simp;refine HK _ _ ?_;clear HK;go_wp2;go_ret;exact ZK
  have h38b:((x:Int)==38)=false:=by simp;omega
  go_wp2;go_ret;exact⟨_,_,rfl,HM9,HG,HR9,HO9⟩
def Fc.short(f:Fc):Prop:=f.a.size<=20/\f.b.size<=20/\f.r.size<=20/\f.c.size<=20/\f.d.size<=20
def Te(w:World)(R B g:Nat):Prop:=g≠R/\B<=g/\g<w.heap.size/\(∀o,w.frozen? ⟨g,o,none⟩=false)/\∃f:Fc,f.short/\yP w g 0 f
def Te.only{w w':ag}{R B g:Nat}(h:Te w R B g)(k:Only R w w'):Te w' R B g:=by
 obtain⟨h1,h2,h3,h4,f,hf,hc⟩:=h;exact⟨h1,h2,XJ h3 k.size,fun o=>by rw[k.frozen h3 h1];exact h4 o,f,hf,hc.same fun o=>k.cell h3 h1⟩
def Tf{w:ag}{R B:Nat}{t:TypeId}(hR:cW R w)(hB:cV B w):Te (w.alloc<|.cells ar t) R B w.heap.size:=by
 refine⟨cq,hB,ct,fun o=>ct,⟨⟨#[]⟩,⟨#[]⟩,⟨#[]⟩,⟨#[]⟩,⟨#[]⟩⟩,⟨cv,cv,cv,cv,cv⟩,?_⟩;refine⟨?_,?_,?_,?_,?_⟩<;>simp
def UX{w:ag}{g:Nat}{x0 x1 x2 x3 x4:Value}(y:Fc)(c0:w.cell? ⟨g,0,none⟩=some x0)(c1:w.cell? ⟨g,1,none⟩=some x1)(c2:w.cell? ⟨g,2,none⟩=some x2)(c3:w.cell? ⟨g,3,none⟩=some x3)(c4:w.cell? ⟨g,4,none⟩=some x4):
  yP (((((w.setCell ⟨g,0,none⟩<|.string y.a).setCell ⟨g,1,none⟩<|.string y.b).setCell ⟨g,2,none⟩<|.string y.r).setCell ⟨g,3,none⟩<|.string y.c).setCell ⟨g,4,none⟩<|.string y.d) g 0 y:=by
 have far:∀(W:World) (i j:Nat) (v:Value),i≠j->(W.setCell ⟨g,i,none⟩ v).cell? ⟨g,j,none⟩=W.cell? ⟨g,j,none⟩:=fun W i j v h=>by apply World.cell?_setCell_other;intro e;exact h<|congrArg Addr.off e
 have same:∀(W:World) (i:Nat) (x v:Value),W.cell? ⟨g,i,none⟩=some x->(W.setCell ⟨g,i,none⟩ v).cell? ⟨g,i,none⟩=some v:=fun W i x v h=>by apply World.cell?_setCell_same;exact h
 refine⟨?_,?_,?_,?_,?_⟩
 ·rw[far _ 4 0 _ cv,far _ 3 0 _ cv,far _ 2 0 _ cv,far _ 1 0 _ cv];exact same _ 0 _ _ c0
 ·show World.cell? _ ⟨g,1,none⟩=_;rw[far _ 4 1 _ cv,far _ 3 1 _ cv,far _ 2 1 _ cv];exact same _ 1 _ _ (by rw[far _ 0 1 _ cv];exact c1)
 ·show World.cell? _ ⟨g,2,none⟩=_;rw[far _ 4 2 _ cv,far _ 3 2 _ cv];exact same _ 2 _ _ (by rw[far _ 1 2 _ cv,far _ 0 2 _ cv];exact c2)
 ·show World.cell? _ ⟨g,3,none⟩=_;rw[far _ 4 3 _ cv];exact same _ 3 _ _ (by rw[far _ 2 3 _ cv,far _ 1 3 _ cv,far _ 0 3 _ cv];exact c3)
 show World.cell? _ ⟨g,4,none⟩=_;exact same _ 4 _ _ (by rw[far _ 3 4 _ cv,far _ 2 4 _ cv,far _ 1 4 _ cv,far _ 0 4 _ cv];exact c4)
def Wv(R B k:Nat)(v:Value)(w:World):Prop:=(k=18->∃g,v=.pointer (some ⟨g,0,none⟩)/\Te w R B g)/\(k=17->∃f:Fc,v=.agg #[.string f.a,.string f.b,.string f.r,.string f.c,.string f.d]/\f.short)/\(k<17->Kd.ok R w v (Iq [.strs 3,.eq<|Value.pointer<|some ⟨R,0,none⟩,.idx 3,.elt 3,.str,.obj,.strs 4,.eq<|Value.pointer<|some ⟨R,0,none⟩,.idx 4,.elt 4,.str,.strs 3,.eq<|Value.pointer<|some ⟨R,0,none⟩,.idx 3,.elt 3,.str,.obj] k))
def Wv.only{R B k:Nat}{v:Value}{w w':ag}(h:Wv R B k v w)(ho:Only R w w'):Wv R B k v w' :=
 ⟨fun e=>by obtain⟨g,e1,hg⟩:=h.1 e;exact⟨g,e1,hg.only ho⟩,h.2.1,fun e=>Kd.only ho _<|h.2.2 e⟩
def Wv.no{R B k:Nat}{v:Value}{w:ag}(hk:k<17)(h:Kd.ok R w v<|Iq [.strs 3,.eq<|Value.pointer<|some<|am R,.idx 3,.elt 3,.str,.obj,.strs 4,.eq<|Value.pointer<|some<|am R,.idx 4,.elt 4,.str,.strs 3,.eq<|Value.pointer<|some<|am R,.idx 3,.elt 3,.str,.obj] k):Wv R B k v w:=⟨fun e=>cq,fun e=>cq,fun _=>h⟩
set_option maxRecDepth 4000 in
def Tg(R:Nat)(ad:Q02)(len cap:Nat)(w:ag)(h:Rd w R ad len cap):
  Calls prog 152 #[.pointer (some<|am R)] w fun e w'=>(∃f:Fc,e=.returned (.agg<|cf f)/\f.short)/\Rd w' R ad len cap/\Only R w w':=by
 have H:=aK h;have hRw:=h.lt;have FAR:O (∀g,w.heap.size<=g->0<len->∀b off,ad=some (ap b off)->b≠g):=fun g hg h0 b off e=>by
  obtain⟨b',off',e',-,hb',-⟩:=h.bytes h0;rw[e]at e';injection e' with e';injection e' with e1 e2;omega
 clear h;go_enter func152,ntmps152;go_wp2_with fail;refine DN 19 (fun f=>{ tmps:=List.toArray (Value.pointer (some<|am R)::undef::.pointer (some<|aE w)::f 18::f 0::f 1::f 2::f 3::f 4::f 5::f 6::f 7::f 8::f 9::f 10::f 11::f 12::f 13::f 14::f 15::f 16::f 17::undef::undef::undef::undef::undef::undef::undef::undef::undef::undef::undef::[]),defers:=[] }) (fun k v w'=>Wv R (w.heap.size+1) k v w') (fun w'=>Rd w' R ad len cap/\Only R (w.alloc<|.cells ar 52) w') cw rfl cw cw rfl ⟨H.below<|((XL _ _).alloc (XK _) _).drew,(Only.refl _ _).drewN 1⟩ ?step ?fin;case step =>
  rintro i hi o ho f w' ⟨hR',Z4⟩ hpre;have HR:=aK hR';have HO:=aK Z4;have hsz:w.heap.size+1<=w'.heap.size:=by have:=Z4.size;simpa using this
  have hRl:cW R w':=hR'.lt;have HM:O (∀e∈o.after,Region.binds .any e=true->Wv R (w.heap.size+1) e.on (f e.on) w'):=hpre;have KAL:O (∀ob:Obj,Only R w'<|w'.alloc ob):=fun ob=>(Only.refl R w').alloc ob;clear hR' Z4 hpre;have hc:=MU (i:=i) cq;clear hi
  repeat' rcases hc with rfl|hc
  ·cases ho;refine af rfl fun K HK=>?_;clear HM;dsimp only;go_simp;exact HK _ _ ⟨_,by simp[upd],⟨HR.alloc _,HO.alloc _⟩,.no cv ⟨_,rfl,gm w' R hRl (xs:=[_,_,_]) cv⟩,fun k u hu=>hu.only<|KAL _⟩
  ·cases ho;refine af rfl fun K HK=>?_;clear HM;dsimp only;go_simp;exact HK _ _ ⟨Value.pointer<|some ⟨R,0,none⟩,by simp[upd],⟨HR,HO⟩,.no cv rfl,fun k u hu=>hu⟩
  ·cases ho;have e1:f 1=Value.pointer (some<|am R):=(HM ⟨1,.data⟩ ct rfl).2.2 cv;refine af rfl fun K HK=>?_;clear HM;simp only[e1];go_simp;refine(df R ad len cap 3 _ HR cq cq).mono ?_;rintro e w5 ⟨⟨x,rfl,hx0,hx1⟩,ZB,ZE⟩;obtain⟨x,rfl⟩:∃y:Nat,x=(y:Int):=⟨x.toNat,cq⟩;have Zu:O (Rd w5 R ad len cap/\Only R w' w5):=⟨ZB,ZE⟩;clear ZB ZE;go_wp2_with fail;exact HK _ _ ⟨.int .i64 (x:Int),by simp[upd,e1],⟨Zu.1,HO.trans Zu.2⟩,.no cv ⟨x,rfl,cq⟩,fun k u hu=>hu.only Zu.2⟩
  ·cases ho;obtain⟨g,e1,hS⟩:=(HM ⟨0,.data⟩ ct rfl).2.2 cv;obtain⟨x,e2,hx⟩:=(HM ⟨2,.data⟩ ct rfl).2.2 cv;replace e1:f 0=_:=e1;replace e2:f 2=_:=e2;have HS:=aK hS;clear hS;have hx0:=bG x;have hx1:(x:Int)<3:=cq;refine af rfl fun K HK=>?_;clear HM;simp only[e1,e2];go_simp;exact HK _ _ ⟨.pointer<|some ⟨g,x,none⟩,by simp[upd,e1,e2],⟨HR,HO⟩,.no cv ⟨g,x,rfl,hx,HS⟩,fun k u hu=>hu⟩
  ·cases ho;obtain⟨g,x,e1,hx,hS⟩:=(HM ⟨3,.data⟩ ct rfl).2.2 cv;replace e1:f 3=_:=e1;obtain⟨t,ht,hcell⟩:=hS.2.2 x hx;clear hS;refine af rfl fun K HK=>?_;clear HM;simp only[e1];go_simp;exact HK _ _ ⟨.string t,by simp[upd,e1],⟨HR,HO⟩,.no cv ⟨t,rfl,ht⟩,fun k u hu=>hu⟩
  ·cases ho;obtain⟨t,e1,ht⟩:=(HM ⟨4,.data⟩ ct rfl).2.2 cv;replace e1:f 4=_:=e1;refine af rfl fun K HK=>?_;clear HM;simp only[e1];go_simp;exact HK _ _ ⟨.agg #[.string ⟨#[100,111,99]⟩,.string t],by simp[upd,e1],⟨HR,HO⟩,.no cv ⟨_,t,rfl,cv,ht⟩,fun k u hu=>hu⟩
  ·cases ho;refine af rfl fun K HK=>?_;clear HM;dsimp only;go_simp;exact HK _ _ ⟨_,by simp[upd],⟨HR.alloc _,HO.alloc _⟩,.no cv ⟨_,rfl,gm w' R hRl (xs:=[_,_,_,_]) cv⟩,fun k u hu=>hu.only<|KAL _⟩
  ·cases ho;refine af rfl fun K HK=>?_;clear HM;dsimp only;go_simp;exact HK _ _ ⟨Value.pointer<|some ⟨R,0,none⟩,by simp[upd],⟨HR,HO⟩,.no cv rfl,fun k u hu=>hu⟩
  ·cases ho;have e1:f 7=Value.pointer (some<|am R):=(HM ⟨7,.data⟩ ct rfl).2.2 cv;refine af rfl fun K HK=>?_;clear HM;simp only[e1];go_simp;refine(df R ad len cap 4 _ HR cq cq).mono ?_;rintro e w5 ⟨⟨x,rfl,hx0,hx1⟩,ZB,ZE⟩;obtain⟨x,rfl⟩:∃y:Nat,x=(y:Int):=⟨x.toNat,cq⟩;have Zu:O (Rd w5 R ad len cap/\Only R w' w5):=⟨ZB,ZE⟩;clear ZB ZE;go_wp2_with fail;exact HK _ _ ⟨.int .i64 (x:Int),by simp[upd,e1],⟨Zu.1,HO.trans Zu.2⟩,.no cv ⟨x,rfl,cq⟩,fun k u hu=>hu.only Zu.2⟩
  ·cases ho;obtain⟨g,e1,hS⟩:=(HM ⟨6,.data⟩ ct rfl).2.2 cv;obtain⟨x,e2,hx⟩:=(HM ⟨8,.data⟩ ct rfl).2.2 cv;replace e1:f 6=_:=e1;replace e2:f 8=_:=e2;have HS:=aK hS;clear hS;have hx0:=bG x;have hx1:(x:Int)<4:=cq;refine af rfl fun K HK=>?_;clear HM;simp only[e1,e2];go_simp;exact HK _ _ ⟨.pointer<|some ⟨g,x,none⟩,by simp[upd,e1,e2],⟨HR,HO⟩,.no cv ⟨g,x,rfl,hx,HS⟩,fun k u hu=>hu⟩
  ·cases ho;obtain⟨g,x,e1,hx,hS⟩:=(HM ⟨9,.data⟩ ct rfl).2.2 cv;replace e1:f 9=_:=e1;obtain⟨t,ht,hcell⟩:=hS.2.2 x hx;clear hS;refine af rfl fun K HK=>?_;clear HM;simp only[e1];go_simp;exact HK _ _ ⟨.string t,by simp[upd,e1],⟨HR,HO⟩,.no cv ⟨t,rfl,ht⟩,fun k u hu=>hu⟩
  ·cases ho;refine af rfl fun K HK=>?_;clear HM;dsimp only;go_simp;exact HK _ _ ⟨_,by simp[upd],⟨HR.alloc _,HO.alloc _⟩,.no cv ⟨_,rfl,gm w' R hRl (xs:=[_,_,_]) cv⟩,fun k u hu=>hu.only<|KAL _⟩
  ·cases ho;refine af rfl fun K HK=>?_;clear HM;dsimp only;go_simp;exact HK _ _ ⟨Value.pointer<|some ⟨R,0,none⟩,by simp[upd],⟨HR,HO⟩,.no cv rfl,fun k u hu=>hu⟩
  ·cases ho;have e1:f 12=Value.pointer (some<|am R):=(HM ⟨12,.data⟩ ct rfl).2.2 cv;refine af rfl fun K HK=>?_;clear HM;simp only[e1];go_simp;refine(df R ad len cap 3 _ HR cq cq).mono ?_;rintro e w5 ⟨⟨x,rfl,hx0,hx1⟩,ZB,ZE⟩;obtain⟨x,rfl⟩:∃y:Nat,x=(y:Int):=⟨x.toNat,cq⟩;have Zu:O (Rd w5 R ad len cap/\Only R w' w5):=⟨ZB,ZE⟩;clear ZB ZE;go_wp2_with fail;exact HK _ _ ⟨.int .i64 (x:Int),by simp[upd,e1],⟨Zu.1,HO.trans Zu.2⟩,.no cv ⟨x,rfl,cq⟩,fun k u hu=>hu.only Zu.2⟩
  ·cases ho;obtain⟨g,e1,hS⟩:=(HM ⟨11,.data⟩ ct rfl).2.2 cv;obtain⟨x,e2,hx⟩:=(HM ⟨13,.data⟩ ct rfl).2.2 cv;replace e1:f 11=_:=e1;replace e2:f 13=_:=e2;have HS:=aK hS;clear hS;have hx0:=bG x;have hx1:(x:Int)<3:=cq;refine af rfl fun K HK=>?_;clear HM;simp only[e1,e2];go_simp;exact HK _ _ ⟨.pointer<|some ⟨g,x,none⟩,by simp[upd,e1,e2],⟨HR,HO⟩,.no cv ⟨g,x,rfl,hx,HS⟩,fun k u hu=>hu⟩
  ·cases ho;obtain⟨g,x,e1,hx,hS⟩:=(HM ⟨14,.data⟩ ct rfl).2.2 cv;replace e1:f 14=_:=e1;obtain⟨t,ht,hcell⟩:=hS.2.2 x hx;clear hS;refine af rfl fun K HK=>?_;clear HM;simp only[e1];go_simp;exact HK _ _ ⟨.string t,by simp[upd,e1],⟨HR,HO⟩,.no cv ⟨t,rfl,ht⟩,fun k u hu=>hu⟩
  ·cases ho;obtain⟨t,e1,ht⟩:=(HM ⟨15,.data⟩ ct rfl).2.2 cv;replace e1:f 15=_:=e1;refine af rfl fun K HK=>?_;clear HM;simp only[e1];go_simp;exact HK _ _ ⟨.agg #[.string ⟨#[117,115,101,114]⟩,.string t],by simp[upd,e1],⟨HR,HO⟩,.no cv ⟨_,t,rfl,cv,ht⟩,fun k u hu=>hu⟩
  ·cases ho;obtain⟨t1,t2,e1,h1,h2⟩:=(HM ⟨5,.data⟩ ct rfl).2.2 cv;obtain⟨t3,e2,h3⟩:=(HM ⟨10,.data⟩ ct rfl).2.2 cv;obtain⟨t4,t5,e3,h4,h5⟩:=(HM ⟨16,.data⟩ ct rfl).2.2 cv;replace e1:f 5=_:=e1;replace e2:f 10=_:=e2;replace e3:f 16=_:=e3;refine af rfl fun K HK=>?_;clear HM;simp only[e1,e2,e3];go_simp;exact HK _ _ ⟨.agg<|cD t1 t2 t3 t4 t5,by simp[upd,e1,e2,e3],⟨HR,HO⟩,⟨fun e=>absurd e cv,fun _=>⟨⟨t1,t2,t3,t4,t5⟩,rfl,h1,h2,h3,h4,h5⟩,fun e=>absurd e cv⟩,fun k u hu=>hu⟩
  cases ho;refine af rfl fun K HK=>?_;clear HM;dsimp only;go_simp;exact HK _ _ ⟨_,by simp[upd],⟨HR.alloc _,HO.alloc _⟩,⟨fun _=>⟨_,rfl,Tf hRl hsz⟩,fun e=>absurd e cv,fun e=>absurd e cv⟩,fun k u hu=>hu.only<|KAL _⟩
 case fin =>
  rintro o ho f w0 ⟨hR',Z4⟩ hall;obtain⟨g,e1,hg⟩:=(hall 18 cq).1 rfl;obtain⟨y,e2,hy⟩:=(hall 17 cq).2.1 rfl;replace e1:f 18=_:=e1;replace e2:f 17=_:=e2;obtain⟨hgR,hgB,hgl,hgf,z,_,ca,cb,cc,cd,ce⟩:=hg;obtain⟨w',hw'⟩:∃w',w'=(((((w0.setCell (am g)<|.string y.a).setCell (ap g 1)<|.string y.b).setCell (ap g 2)<|.string y.r).setCell (ap g 3)<|.string y.c).setCell (ap g 4)<|.string y.d):=⟨_,rfl⟩;have hA:yP w' g 0 y:=by rw[hw'];exact UX y ca cb cc cd ce
  have hR:Rd w' R ad len cap:=by rw[hw'];exact((((hR'.setFar hgR<|FAR _ cq).setFar hgR<|FAR _ cq).setFar hgR<|FAR _ cq).setFar hgR<|FAR _ cq).setFar hgR<|FAR _ cq
  have hO:Only R (w.alloc<|.cells ar 52) w':=by rw[hw'];exact((((Z4.setNew<|by simpa using hgB).setNew (by simpa using hgB)).setNew (by simpa using hgB)).setNew (by simpa using hgB)).setNew (by simpa using hgB)
  have hgf':∀o,w'.frozen? (ap g o)=false:=fun o=>by rw[hw'];simpa using hgf o
  have hgl':g<w'.heap.size:=by rw[hw'];simpa using hgl
  clear hR' Z4 hall;obtain rfl:=Option.some.inj ho;clear ho;refine af rfl fun K HK=>?_;simp only[e1,e2];go_simp;rw[<-hw'];refine HK _ _ ?_;clear HK hw' hgl hgf ca cb cc cd ce;have hOw:Only R w w':=(Only.of_below<|(XL _ _).alloc (XK _) _).trans hO;have hnR:w.heap.size≠R:=cq
  have hn:yP w' w.heap.size 0 ⟨⟨#[]⟩,⟨#[]⟩,⟨#[]⟩,⟨#[]⟩,⟨#[]⟩⟩:=by
   refine yP.same (w:=w.alloc<|.cells ar 52) ?_ fun o=>hO.cell ct hnR;refine⟨?_,?_,?_,?_,?_⟩<;>simp
  have hnf:∀o,w'.frozen? (a6 w o)=false:=fun o=>by rw[hO.frozen ct hnR];simp
  have hsz:cX w w':=by have:=hO.size;simp at this;omega
  have HR:=aK hR;have HOw:=aK hOw;have HA:O (yP w' g 0 y/\yP w' w.heap.size 0 ⟨⟨#[]⟩,⟨#[]⟩,⟨#[]⟩,⟨#[]⟩,⟨#[]⟩⟩):=⟨hA,hn⟩;have HY:O y.short:=hy;clear hR hO hOw hA hn hy;go_wp2_with fail;refine(jA R ad len cap 5 _ HR cq cq).mono ?_;rintro e w1 ⟨⟨x,rfl⟩,Zr,Zx⟩;have HR1:=aK Zr;have Zj:O (Only R w w1):=HOw.trans Zx;have hA1:=HA.1.same (w':=w1) fun o=>Zx.cell hgl' hgR;have hn1:=HA.2.same (w':=w1) fun o=>Zx.cell hsz hnR;have mf:∀o,w1.frozen? (a6 w o)=false:=fun o=>by rw[Zx.frozen hsz hnR];exact hnf o
  have gf:∀o,w1.frozen? (ap g o)=false:=fun o=>by rw[Zx.frozen hgl' hgR];exact hgf' o
  have hs1:cX w w1:=XJ hsz Zx.size;have hg1:cW g w1:=XJ hgl' Zx.size;have hR1l:cW R w1:=Zr.lt;have hgn:g≠w.heap.size:=cq;clear hnf hgf' Zr Zx HR HOw HA;cases x;case false=>
   obtain⟨ca,cb,cc,cd,ce⟩:=hA1;obtain⟨na,nb,nc,nd,ne⟩:=hn1;go_wp2;exact bodyPost_ret (v:=.agg<|cf y) (by simp[results,Tryz.results152,go_sem, *]) rfl ⟨⟨y,rfl,HY⟩,((((HR1.setFar hnR<|FAR _<|XK _).setFar hnR<|FAR _<|XK _).setFar hnR<|FAR _<|XK _).setFar hnR<|FAR _<|XK _).setFar hnR<|FAR _<|XK _,((((Zj.setNew<|XK _).setNew<|XK _).setNew<|XK _).setNew<|XK _).setNew<|XK _⟩
  go_wp2_with fail;refine(df R ad len cap 2 _ (HR1.below<|(XL _ _).alloc (XK _) _) cq cq).mono ?_;rintro e w2 ⟨⟨x,rfl,hx0,hx1⟩,hR2,hO2⟩;have hO12:Only R w1 w2:=(Only.of_below<|(XL _ _).alloc (XK _) _).trans hO2;have hSt:=(gm w1 R hR1l (t:=9) (xs:=[⟨#[103]⟩,⟨#[104]⟩]) cv).only hO2;obtain⟨q,rfl⟩:∃q:Nat,x=(q:Int):=⟨x.toNat,cq⟩;obtain⟨t,ht,hct⟩:=hSt.2.2 q (by simp;omega);obtain⟨ca,cb,cc,cd,ce⟩:=hA1.same (w':=w2) fun o=>hO12.cell hg1 hgR;obtain⟨na,nb,nc,nd,ne⟩:=hn1.same (w':=w2) fun o=>hO12.cell hs1 hnR;have kf:∀o,w2.frozen? (a6 w o)=false:=fun o=>by rw[hO12.frozen hs1 hnR];exact mf o
  have kg:∀o,w2.frozen? (ap g o)=false:=fun o=>by rw[hO12.frozen hg1 hgR];exact gf o
  have HR2:=aK hR2;have YZ:O (Only R w w2):=Zj.trans hO12;clear hR2 hO2 hO12 hSt mf gf hA1 hn1 HR1 Zj;go_wp2;exact bodyPost_ret (v:=.agg #[.string ⟨#[103,114,111,117,112]⟩,.string t,.string ⟨#[109,101,109,98,101,114]⟩,.string y.c,.string y.d]) (by simp[results,Tryz.results152,go_sem, *]) rfl ⟨⟨⟨_,t,_,y.c,y.d⟩,rfl,(by simp only;decide),ht,(by simp only;decide),HY.2.2.2.1,HY.2.2.2.2⟩,(((((((HR2.setFar hgR<|FAR _ cq).setFar hgR<|FAR _ cq).setFar hgR<|FAR _ cq).setFar hnR<|FAR _<|XK _).setFar hnR<|FAR _<|XK _).setFar hnR<|FAR _<|XK _).setFar hnR<|FAR _<|XK _).setFar hnR<|FAR _<|XK _,(((((((YZ.setNew cq).setNew cq).setNew cq).setNew<|XK _).setNew<|XK _).setNew<|XK _).setNew<|XK _).setNew<|XK _⟩
end Go.Proofs.YtojjoblnpldniaaGreat
