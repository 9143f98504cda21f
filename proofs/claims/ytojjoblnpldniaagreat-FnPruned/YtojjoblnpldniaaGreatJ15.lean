/- A schema's text, in plain words, and how long it can be. -/
import Derived.Test.YtojjoblnpldniaaGreatSq
import Derived.Test.YtojjoblnpldniaaGreatJ13
import Derived.Test.YtojjoblnpldniaaGreatJ14
open Go.Proofs.Tryz
set_option maxHeartbeats 80000000
namespace Go.Proofs.YtojjoblnpldniaaGreat
open Pl
def sm:List Nat->Nat
 | []=>0
 | x::xs=>x+sm xs
theorem Eb:∀xs ys:List Nat,sm (xs++ys)=sm xs+sm ys
 | [],ys=>by simp[sm]
 | x::xs,ys=>by rw[Wq];simp only[sm];rw[Eb xs ys];omega
theorem NP(sep:bi)(xs:List ByteArray):(dP sep xs).size<=sm (xs.map fun x=>x.size+sep.size):=by
 suffices h:∀ys:List ByteArray,(dP sep ys.reverse).size<=sm (ys.reverse.map fun x=>x.size+sep.size) by
  have:=h xs.reverse;rwa [List.reverse_reverse]at this
 intro ys
 induction ys with
 | nil=>exact Vu _
 | cons y ys ih =>
  rw[List.reverse_cons,pX,Wl,Eb];simp only[WC,List.map_nil,sm];split
  ·omega
  simp only[VK];omega
def lG(f:Int->Int):List Int->Int
 | []=>0
 | k::ks=>(k-f k+1)+lG f ks
theorem wP(f:Int->Int):∀xs ys:List Int,lG f (xs++ys)=lG f xs+lG f ys
 | [],ys=>by simp[lG]
 | x::xs,ys=>by rw[Wq];simp only[lG];rw[wP f xs ys];omega
theorem tQ(f:Int->Int):∀xs:List Int,lG f xs.reverse=lG f xs
 | []=>rfl
 | x::xs=>by rw[List.reverse_cons,wP,tQ f xs];simp only[lG];omega
theorem yQ{f:Int->Int}:∀(ks:List Int) (a:Int),0<=dh f ks a->lG f ks=a+1-dh f ks a
 | [],a,_=>by simp[lG,dh]
 | k::ks,a,h=>by
  unfold dh at h⊢;split at h
  ·omega
  rename_i h1;rw[if_neg h1];split at h
  ·omega
  rename_i h2;rw[if_neg h2];have hk:k=a:=Decidable.byContradiction fun e=>h1 (.inr e);subst hk;simp only[lG];rw[yQ ks _ h];omega
theorem Sy{es:Q09}(hes:TA es)(ht:∀j,j<es.length->0<=aB es j)(n:Nat):n<es.length->∀i,((gy es n i).size:Int)<=250*((n:Int)-aB es n+1):=by
 induction n using Nat.strongRecOn with
 | ind n ih =>
  intro hn i;have hle:=iP es n;have h1:=G5 (E9 es n) i (ji (iH es n) (E9 es n));unfold gy
  suffices h:((ji (iH es n) (E9 es n)).size:Int)<=250*((n:Int)-aB es n+1)-10 by omega
  have WN:=hes.2.1 n hn;obtain⟨hk5,-⟩:=kL WN;rw[si hn];unfold ji;unfold av at WN;split
  ·rename_i k;rw[if_pos k]at WN;simp only[Vw]at WN;have:=jk WN.1.1.1;omega
  rename_i k1;rw[if_neg k1]at WN;split
  ·rename_i k2;rw[if_pos k2]at WN;simp only[Vw]at WN;have:=aS WN.1.1.1;omega
  rename_i k2;rw[if_neg k2]at WN;split
  ·rename_i k3;rw[if_pos k3]at WN;simp only[Vw]at WN;have h1:=aS WN.1.1.1;have h2:=aS WN.1.1.2;have e1:(⟨#[45,62]⟩:ByteArray).size=2:=rfl;simp only[VK];omega
  have hj:=NP (dY es[n].kind) (es[n].kids.map (iH es n));rw[ku,List.map_map]at hj;have hspan:lG (dA es n) es[n].kids=(n:Int)-aB es n:=by
   have h0:=ht n hn;rw[jA]at h0;have h2:=yQ _ _ h0;rw[tQ,<-jA]at h2;have e:dD es n=es[n].kids:=by simp[dD,hn]
   rw[e]at h2;omega
  have hsum:∀ks:List Int,(∀k∈ks,0<=k/\k.toNat<n)->(sm (ks.map ((fun x:ByteArray=>x.size+3) ∘ iH es n)):Int)<=250*lG (dA es n) ks+3*(ks.length:Int):=by
   intro ks
   induction ks with
   | nil=>intro _;simp[sm,lG]
   | cons k ks ih2 =>
    intro hks;obtain⟨hk0,hk1⟩:=hks k (Ws ..);have h3:=ih2 fun x hx=>hks x (V7 _ hx);have h4:=ih k.toNat hk1 (by omega) true;have e1:iH es n k=gy es k.toNat true:=by unfold iH;rw[if_pos hk1,xP]
    have e2:dA es n k=aB es k.toNat:=by unfold dA;rw[if_pos ⟨hk0,hk1⟩]
    have e3:((k.toNat:Nat):Int)=k:=by omega
    simp only[WC,sm,lG,Function.comp_apply,V8];rw[e1,e2];rw[e3]at h4;omega
  have h5:=hsum es[n].kids (sj hes hn);rw[hspan]at h5;have:(es[n].kids.length:Int)<=5:=by omega
  omega
theorem QF{es:Q09}(h:aI es=true):∀j,j<es.length->0<=aB es j:=by
 rw[rV]at h;unfold kG at h;simp only[Vw,VH]at h;have h1:=h.2.1;unfold jP at h1;rw[VF]at h1;intro j hj;simpa using h1 j (by simpa using hj)
theorem qh(es:Q09):(dK es).size<=3750:=by
 by_cases h:aI es=true
 ·have ht:=QF h;have hf:=lY h;have h1:=Sy (JP h) ht (es.length-1) (by omega) false;have h2:=ht (es.length-1) (by omega);rw[uJ h];omega
 rw[xQ (by simpa using h)];show 0<=3750;omega
def BD(r:Rl):ByteArray:=((r.name++⟨#[32,61,32]⟩)++dK r.expr)++⟨#[10]⟩
def cu:List Rl->ByteArray
 | []=>⟨#[]⟩
 | r::rs=>BD r++cu rs
def gM(n:ByteArray):ByteArray:=(⟨#[116,121,112,101,32]⟩++n)++⟨#[10]⟩
def bz:List Ty->ByteArray
 | []=>⟨#[]⟩
 | t::ts=>(gM t.name++cu t.rels)++bz ts
def iL(ts:Q0b):ByteArray:=if aD ts then bz ts else ⟨#[]⟩
theorem qi(a:bi):a++(⟨#[]⟩:ByteArray)=a:=by apply iU;simp[ByteArray.data_append]
theorem kV:∀(xs:List Rl) (r:Rl),cu (xs++[r])=cu xs++BD r
 | [],r=>by simp only[WK,cu,qi,su]
 | x::xs,r=>by rw[Wq];simp only[cu];rw[kV xs r,<-V5]
theorem jv:∀(xs:Q0b) (t:Ty),bz (xs++[t])=bz xs++(gM t.name++cu t.rels)
 | [],t=>by simp only[WK,bz,qi,su]
 | x::xs,t=>by rw[Wq];simp only[bz];rw[jv xs t,<-V5]
theorem x8(rs:Q07)(k:Nat)(h:k<rs.length):bQ (rs.take (k+1))=bQ (rs.take k)++[⟨rs[k].name,ai rs[k].rows⟩]:=by
 rw[Vx h];unfold bQ;rw[Wl];rfl
theorem x9(rs:Q06)(k:Nat)(h:k<rs.length):ae (rs.take (k+1))=ae (rs.take k)++[⟨rs[k].name,bQ rs[k].rows⟩]:=by
 rw[Vx h];unfold ae;rw[Wl];rfl
theorem kX(n:bi):(gM n).size=n.size+6:=by
 have e1:(⟨#[116,121,112,101,32]⟩:ByteArray).size=5:=rfl;have e2:(⟨#[10]⟩:ByteArray).size=1:=rfl;unfold gM;simp only[VK];omega
def QG:ByteArray:=⟨#[116,121,112,101,32]⟩
def U6:ByteArray:=⟨#[61,32]⟩
def U7:ByteArray:=⟨#[10]⟩
def BF(l:ByteArray):Bool:=decide (5<l.size)&&(l.extract 0 5).toList==QG.toList
def yR(t:ByteArray):Bool:=decide (2<=t.size)&&(t.extract 0 2).toList==U6.toList
def Ec(l:ByteArray):ByteArray:=(ja 32 l).extract 2 (ja 32 l).size
def FE(acc:Q0b)(r:Rl):List Ty:=match acc.getLast? with
 | none=>[]
 | some t=>acc.dropLast++[⟨t.name,t.rels++[r]⟩]
theorem rH(xs:Q0b)(t:Ty)(r:Rl):FE (xs++[t]) r=xs++[⟨t.name,t.rels++[r]⟩]:=by
 unfold FE;simp
def nV(acc:Q0b)(l:ByteArray):Option (List Ty) :=
 if BF l then some (acc++[⟨l.extract 5 l.size,[]⟩])
 else if !acc.isEmpty&&yR (ja 32 l)&&mY (Ec l) then some (FE acc ⟨kC 32 l,(kP (Ec l)).out⟩) else none
def dV:Nat->ByteArray->List Ty->Option (List Ty)
 | 0,_,acc=>some acc
 | n+1,rest,acc =>
  if rest.toList.isEmpty then some acc
  else if pg 10 rest then
   match nV acc (kC 10 rest) with
   | none=>none
   | some a=>dV n (ja 10 rest) a
  else none
theorem nk(b:bi):b.toList=b.data.toList:=Go.ByteArray.toList_eq b
theorem NQ(c:UInt8)(l:List UInt8)(h:(jd c l).2.2=true):l=(jd c l).1++c::(jd c l).2.1:=by
 induction l with
 | nil=>simp[jd]at h
 | cons b l ih =>
  unfold jd at h⊢;split
  ·rename_i e;simp[e]
  rename_i e;rw[if_neg e]at h;simp only[Wq,List.cons.injEq,true_and];exact ih h
theorem BH{c:UInt8}{s:ByteArray}(h:pg c s=true):s=(kC c s++⟨#[c]⟩)++ja c s:=by
 apply iU;have:=NQ c s.data.toList h;simpa[kC,ja,ByteArray.data_append] using this
theorem Ii{c:UInt8}{s:ByteArray}(h:pg c s=true):(ja c s).size<s.size:=by
 have:=congrArg ByteArray.size (BH h);have e1:(⟨#[c]⟩:ByteArray).size=1:=rfl;simp only[VK,e1]at this;omega
theorem Ij(l:bi)(k:Nat)(hk:k<=l.size):l=l.extract 0 k++l.extract k l.size:=by
 apply iU;rw[Wu,ByteArray.data_extract,ByteArray.data_extract];have hk':k<=l.data.size:=hk;have h2:l.size=l.data.size:=rfl;rw[h2];simp;rw[show max k l.size=l.data.toList.length by simp[Nat.max_def];omega,VI]
theorem toList_inj{a b:ByteArray}(h:a.toList=b.toList):a=b:=by
 rw[nk,nk]at h;exact iU h
theorem QH{l:ByteArray}(h:BF l=true):l=QG++l.extract 5 l.size:=by
 unfold BF at h;simp only[Vw,VH,beq_iff_eq]at h;have e:=toList_inj h.2
 conv=>lhs;rw[Ij l 5 (by omega),e]
theorem QI{l:ByteArray}(h:yR (ja 32 l)=true):l=((kC 32 l++⟨#[32,61,32]⟩)++Ec l):=by
 unfold yR at h;simp only[Vw,VH,beq_iff_eq]at h;have hf:pg 32 l=true:=by
  cases e:pg 32 l;case true=>rfl
  rw[OT e]at h;exact absurd h.1 (by decide)
 have e:=toList_inj h.2;have e2:ja 32 l=U6++Ec l:=by
  conv=>lhs;rw[Ij (ja 32 l) 2 h.1,e]
  rfl
 have e3:(⟨#[32,61,32]⟩:ByteArray)=⟨#[32]⟩++U6:=by apply iU;simp[ByteArray.data_append,U6]
 conv=>lhs;rw[BH hf,e2]
 rw[e3];simp only[V5]
theorem BI{s:ByteArray}(h:mY s=true):dK (kP s).out=s/\s.size<=1000/\aI (kP s).out=true:=by
 unfold mY at h;simp only[Vw,VH,beq_iff_eq]at h;exact⟨toList_inj h.2,h.1.1.1.1,h.1.2⟩
theorem NR{acc acc':Q0b}{l:ByteArray}(h:nV acc l=some acc'):bz acc'=bz acc++(l++U7):=by
 unfold nV at h;split at h
 ·rename_i ht;injection h with h;subst h;rw[jv]
  conv=>rhs;rw[QH ht]
  simp only[gM,cu,qi];rfl
 split at h
 ·rename_i h2;injection h with h;subst h;simp only[Vw,Bool.not_eq_true']at h2;obtain⟨⟨h3,h4⟩,h5⟩:=h2;have hne:acc≠[]:=fun e=>by rw[e]at h3;simp at h3
  have e1:=List.dropLast_concat_getLast hne;rw[<-e1,rH,jv,jv,kV]
  conv=>rhs;rw[QI h4]
  have e2:=(BI h5).1;simp only[BD,e2,V5];rfl
 cases h
def TG(T:Q0b):Prop:=∀t∈T,∀r∈t.rels,r.expr.length<=15/\∀e∈r.expr,e.light/\e.fits
theorem Sz{acc acc':Q0b}{l:ByteArray}(h:nV acc l=some acc')(hk:TG acc):TG acc':=by
 unfold nV at h;split at h
 ·injection h with h;subst h;intro t ht r hr;rcases VJ.1 ht with ht|ht
  ·exact hk t ht r hr
  rw[VO]at ht;subst ht;cases hr
 split at h
 ·rename_i h2;injection h with h;subst h;simp only[Vw,Bool.not_eq_true']at h2;obtain⟨⟨h3,h4⟩,h5⟩:=h2;have hne:acc≠[]:=fun e=>by rw[e]at h3;simp at h3
  have e1:=List.dropLast_concat_getLast hne;obtain⟨-,hs,hsp⟩:=BI h5;intro t ht r hr;rw[<-e1,rH]at ht;rcases VJ.1 ht with ht|ht
  ·exact hk t (by rw[<-e1];exact Ww _ ht) r hr
  rw[VO]at ht;subst ht;rcases VJ.1 hr with hr|hr
  ·exact hk (acc.getLast hne) (List.getLast_mem hne) r hr
  rw[VO]at hr;subst hr;refine⟨(lY hsp).2,fun e he=>?_⟩;exact(Qg (s:=Ec l) _ true ⟨0,false,[]⟩ (Vy _) (fun e he=>by cases he) e he).light hs
 cases h
theorem yS:∀(rs:List Rl),rs.length*4<=(cu rs).size/\∀r∈rs,r.name.size+4<=(cu rs).size
 | []=>⟨by simp,fun r hr=>by cases hr⟩
 | r::rs=>by
  obtain⟨h1,h2⟩:=yS rs;have e1:(⟨#[32,61,32]⟩:ByteArray).size=3:=rfl;have e2:(⟨#[10]⟩:ByteArray).size=1:=rfl;have h3:(cu (r::rs)).size=r.name.size+3+(dK r.expr).size+1+(cu rs).size:=by simp only[cu,BD,VK,e1,e2]
  refine⟨by rw[h3,V8];omega,fun q hq=>?_⟩;rcases VL.1 hq with rfl|hq
  ·omega
  have:=h2 q hq;omega
theorem BJ:∀(T:Q0b),T.length*6<=(bz T).size/\∀t∈T,t.name.size+6+(cu t.rels).size<=(bz T).size
 | []=>⟨by simp,fun r hr=>by cases hr⟩
 | t::ts=>by
  obtain⟨h1,h2⟩:=BJ ts;have h3:(bz (t::ts)).size=t.name.size+6+(cu t.rels).size+(bz ts).size:=by simp only[bz,VK,kX]
  refine⟨by rw[h3,V8];omega,fun q hq=>?_⟩;rcases VL.1 hq with rfl|hq
  ·omega
  have:=h2 q hq;omega
theorem rows_ok{rs:Q06}(hk:TG (ae rs))(hz:(bz (ae rs)).size<=3000):rs.length<=500/\(∀r∈rs,r.rows.length<=750/\r.name.size<=3000/\∀q∈r.rows,q.name.size<=3000)/\(∀r∈rs,r.light)/\∀r∈rs,r.fits:=by
 obtain⟨h1,h2⟩:=BJ (ae rs);rw[df]at h1;have key:∀r∈rs,r.rows.length<=750/\r.name.size<=3000/\∀q∈r.rows,q.name.size<=3000:=fun r hr=>by
  have h3:=h2 r.p (VE.2 ⟨r,hr,rfl⟩);obtain⟨h4,h5⟩:=yS (bQ r.rows);rw[dz]at h4;have h6:r.name.size+6+(cu (bQ r.rows)).size<=(bz (ae rs)).size:=h3;refine⟨by omega,by omega,fun q hq=>?_⟩;have:=h5 q.p (VE.2 ⟨q,hq,rfl⟩);have h7:q.name.size+4<=(cu (bQ r.rows)).size:=this;omega
 have kex:∀r∈rs,∀q∈r.rows,q.rows.length<=15/\∀x∈q.rows,x.e.light/\x.e.fits:=fun r hr q hq=>by
  have:=hk r.p (VE.2 ⟨r,hr,rfl⟩) q.p (VE.2 ⟨q,hq,rfl⟩);exact⟨by rw[<-ay];exact this.1,fun x hx=>this.2 x.e (VE.2 ⟨x,hx,rfl⟩)⟩
 refine⟨by omega,key,fun r hr=>⟨by have:=(key r hr).1;omega,fun q hq=>⟨by have:=(kex r hr q hq).1;omega,fun x hx=>((kex r hr q hq).2 x hx).1⟩⟩,fun r hr=>⟨by have:=(key r hr).2.1;unfold maxLen;omega,by have:=(key r hr).1;unfold maxLen;omega,fun q hq=>⟨by have:=(key r hr).2.2 q hq;unfold maxLen;omega,by have:=(kex r hr q hq).1;unfold maxLen;omega,fun x hx=>((kex r hr q hq).2 x hx).2⟩⟩⟩
open ChangeAt ChangeShapes RowKit WideShapes
theorem Uo(o n e:bi):(((o++n)++⟨#[32,61,32]⟩)++e)++⟨#[10]⟩=o++(((n++⟨#[32,61,32]⟩)++e)++⟨#[10]⟩):=by
 simp only[V5]
theorem QJ(o n:bi):((o++⟨#[116,121,112,101,32]⟩)++n)++⟨#[10]⟩=o++gM n:=by
 unfold gM;simp only[V5]
structure Small3(rs:Q06):Prop where
 six:rs.length<=500
 rels:∀r∈rs,r.rows.length<=750
 name:∀r∈rs,r.name.size<=3000
 names:∀r∈rs,∀q∈r.rows,q.name.size<=3000
set_option maxRecDepth 100000 in
theorem FH(ad:Q02)(cap:Nat)(rs:Q06)(w:af)(hm:Small3 rs)(hs:jK w ad rs)(hl:∀r∈rs,r.light)(hf:∀r∈rs,r.fits):
  Calls prog 108 #[.slice ad rs.length cap] w fun e w'=>e=.returned (.string (bz (ae rs)))/\ag w w':=by
 have HS:=az hs;have HL:=az hl;have WT:=az hf;have HM:=az hm;have h6:=hm.six;clear hs hl hf hm;go_enter func108,ntmps108;go_wp2;go_loopw[3,4] (fun o i wr=>∃(k:Nat) (out:ByteArray),k<=rs.length/\o=.string out/\i=.int .i64 k/\Hid (out=bz (ae (rs.take k)))/\out.size<=k*5100000/\Hid (ag w wr)) (fun _ i _=>rs.length-(intOf i).toNat);case atStart=>exact⟨0,⟨#[]⟩,Vy _,rfl,rfl,rfl,Vy _,Vv _ _⟩
 case round =>
  obtain⟨k,out,hk,rfl,rfl,HP,hz,HB⟩:=hrel;obtain⟨wo,rfl⟩:∃x,x=wr:=⟨_,rfl⟩;by_cases hlt:k<rs.length
  ·rcases HS.out.below HB.out with rfl|⟨b,off,rfl,hb,hr,hok⟩
   ·simp at hlt
   obtain⟨t0,t1⟩:=hr k hlt;have Xc:Hid (rs[k].ok wo):=hok rs[k] (Vs hlt);have hn12:=HM.out.name rs[k] (Vs hlt);have XA:=HM.out.rels rs[k] (Vs hlt);have HN12:Hid (∀q∈rs[k].rows,q.name.size<=3000):=HM.out.names rs[k] (Vs hlt);have YT:Hid (rs[k].light):=HL.out _ (Vs hlt);have YB:Hid (rs[k].fits):=WT.out _ (Vs hlt);have hk1:=bI k;have hk2:(k:Int)<(rs.length:Int):=by omega
   have hrl:(rs[k].rows.length:Int)<=750:=by omega
   clear hr hok;go_wp2;go_loopw[3,5] (fun o i wr=>∃(j:Nat) (o2:ByteArray),j<=rs[k].rows.length/\o=.string o2/\i=.int .i64 j/\Hid (o2=(out++gM rs[k].name)++cu (bQ (rs[k].rows.take j)))/\o2.size<=k*5100000+3010+j*6760/\Hid (ag wo wr)) (fun _ i _=>rs[k].rows.length-(intOf i).toNat);case atStart=>exact⟨0,_,Vy _,rfl,rfl,by show _=_;rw[QJ,List.take_zero,show bQ []=[] from rfl];simp only[cu,qi],by rw[QJ,VK,kX];omega,Vv _ _⟩
   case round =>
    obtain⟨j,o2,hj,rfl,rfl,HI,hz2,HB2⟩:=hrel;replace t0:=aC HB2.out hb t0;replace t1:=aC HB2.out hb t1;have hbw:b<wr.heap.size:=Vt hb HB2.out.size;by_cases hjl:j<rs[k].rows.length
    ·rcases Xc.out.below HB2.out with hnil|⟨b2,WV,had,hb2,hr2,hok2⟩
     ·rw[hnil]at hjl;simp at hjl
     rw[had]at t1;obtain⟨u0,u1⟩:=hr2 j hjl;have HOQ:Hid (rs[k].rows[j].ok wr):=hok2 rs[k].rows[j] (Vs hjl);have hj1:=bI j;have hj2:(j:Int)<(rs[k].rows.length:Int):=by omega
     have hq12:=HN12.out _ (Vs hjl);have HQL:Hid (rs[k].rows[j].light):=YT.out.2 _ (Vs hjl);have HQF:Hid (rs[k].rows[j].fits):=YB.out.2.2 _ (Vs hjl);obtain⟨ex,hex⟩:=eQx (dK (ai rs[k].rows[j].rows));have HEX:Hid (ex=dK (ai rs[k].rows[j].rows)):=hex;have hxs:ex.size<=3750:=by rw[hex];exact qh _
     have q1:(9223372036854775807<o2.size+rs[k].rows[j].name.size)=False:=by simp;omega
     have q2:(9223372036854775807<o2.size+rs[k].rows[j].name.size+3)=False:=by simp;omega
     have q3:(9223372036854775807<o2.size+rs[k].rows[j].name.size+3+ex.size)=False:=by simp;omega
     have q4:(9223372036854775807<o2.size+rs[k].rows[j].name.size+3+ex.size+1)=False:=by simp;omega
     have HI2:Hid ((((o2++rs[k].rows[j].name)++⟨#[32,61,32]⟩)++ex)++⟨#[10]⟩=(out++gM rs[k].name)++cu (bQ (rs[k].rows.take (j+1)))):=by
      show _=_;rw[Uo,x8 _ _ hjl,kV,HI.out,hex];simp only[V5,BD]
     have hz3:((((o2++rs[k].rows[j].name)++⟨#[32,61,32]⟩)++ex)++⟨#[10]⟩:ByteArray).size<=k*5100000+3010+(j+1)*6760:=by
      have e1:(⟨#[32,61,32]⟩:ByteArray).size=3:=rfl;have e2:(⟨#[10]⟩:ByteArray).size=1:=rfl;simp only[VK];omega
     have HZ3:Hid (((((o2++rs[k].rows[j].name)++⟨#[32,61,32]⟩)++ex)++⟨#[10]⟩:ByteArray).size<=k*5100000+3010+(j+1)*6760):=hz3;clear hr2 hok2 had hex hz3;go_wp2_with fail;refine bC 24 _ _ (fun n v _=>v=(Value.string o2::.slice (some ⟨b,off,none⟩) rs.length cap::.int .i64 k::.pointer (some ⟨b,off+k*2,none⟩)::.pointer (some ⟨b,off+k*2+1,none⟩)::.slice (some ⟨b2,WV,none⟩) rs[k].rows.length rs[k].cap::.int .i64 j::.pointer (some ⟨b2,WV+j*2,none⟩)::.pointer (some ⟨b2,WV+j*2,none⟩)::.string rs[k].rows[j].name::.string (o2++rs[k].rows[j].name)::.string ((o2++rs[k].rows[j].name)++⟨#[32,61,32]⟩)::.slice (some ⟨b,off,none⟩) rs.length cap::.int .i64 k::.pointer (some ⟨b,off+k*2,none⟩)::.pointer (some ⟨b,off+k*2+1,none⟩)::.slice (some ⟨b2,WV,none⟩) rs[k].rows.length rs[k].cap::.int .i64 j::.pointer (some ⟨b2,WV+j*2,none⟩)::.pointer (some ⟨b2,WV+j*2+1,none⟩)::.slice rs[k].rows[j].ad rs[k].rows[j].rows.length rs[k].rows[j].cap::.string ex::.string (((o2++rs[k].rows[j].name)++⟨#[32,61,32]⟩)++ex)::.string ((((o2++rs[k].rows[j].name)++⟨#[32,61,32]⟩)++ex)++⟨#[10]⟩)::[]).getD n undef) (fun w'=>ag wr w') (by kernel_rfl) rfl (by kernel_rfl) (by kernel_rfl) (yt [(31,[0,1,2,3,4,5,6,7,8,9,10,11,12,13,14,15,16,17,18,19,20,21,22,23])]) (Vv _ _).drew ?stepS ?finS<;>dsimp only[wY];case stepS =>
      rintro i hi o ho fq w' hG hpre;have HG:Hid (ag wr w'):=hG;replace t1:=aC hG hbw t1;replace u0:=aC hG hb2 u0;replace u1:=aC hG hb2 u1;have HM:Hid (∀e∈o.after,Region.binds .any e=true->_):=hpre;clear hG hpre;have hc:=Tj (i:=i) (by omega);clear hi
      repeat' rcases hc with rfl|hc
      iterate 21
       ·cases ho;have hm:=HM.out
        try simp[Region.binds]at hm
        refine aa rfl fun K HK=>?_;clear HM
        try simp only[hm]
        go_simp;exact HK.out _ _ ⟨_,by simp[upd, *],HG.out,rfl,fun k u hu=>hu⟩
      ·cases ho;have e20:fq 20=.slice rs[k].rows[j].ad rs[k].rows[j].rows.length rs[k].rows[j].cap:=HM.out ⟨20,.data⟩ (by simp) rfl;refine aa rfl fun K HK=>?_;clear HM;simp only[e20];go_simp;refine(kv _ _ rs[k].rows[j].rows _ HQL.out.1 HQL.out.2 HQF.out.2.2 (HOQ.out.below HG.out)).mono ?_;rintro e w5 ⟨rfl,hb5⟩;have Yv:=iX HG hb5;rw[<-HEX.out];clear hb5;go_wp2_with fail;exact HK.out _ _ ⟨Value.string ex,by simp[upd,e20],Yv.out,rfl,fun k u hu=>hu⟩
      iterate 2
       ·cases ho;have hm:=HM.out
        try simp[Region.binds]at hm
        refine aa rfl fun K HK=>?_;clear HM
        try simp only[hm]
        go_simp;exact HK.out _ _ ⟨_,by simp[upd, *],HG.out,rfl,fun k u hu=>hu⟩
     case finS =>
      rintro o ho fq w' hG hall;have e23:fq 23=.string ((((o2++rs[k].rows[j].name)++⟨#[32,61,32]⟩)++ex)++⟨#[10]⟩):=hall 23 (by omega);have HG:Hid (ag wr w'):=hG;clear hG hall;obtain rfl:=Option.some.inj ho;clear ho;refine wpOp_step rfl (fun K hK=>?_);have HK:Hid (∀a w,_->K a w):=hK;clear hK;simp only[e23];go_simp;refine HK.out _ _ ?_;clear HK;have HB3:Hid (ag wo w'):=HB2.out.trans (HG.out.mono HB2.out.size);go_wp2;go_roundw;case rel=>exact⟨j+1,_,by omega,rfl,by go_num,HI2,HZ3.out,HB3⟩
      case measure=>simp[intOf]<;>omega
    ·obtain rfl:j=rs[k].rows.length:=by omega
     have WQ:Hid (o2=bz (ae (rs.take (k+1)))):=by
      show _=_;rw[HI.out,x9 _ _ hlt,jv,HP.out,VI,V5]
     have hz4:o2.size<=(k+1)*5100000:=by omega
     have HB3:Hid (ag w wr):=HB.out.trans (HB2.out.mono HB.out.size);go_wp2;go_roundw;case rel=>exact⟨k+1,o2,by omega,rfl,by go_num,WQ,hz4,HB3⟩
     case measure=>simp[intOf]<;>omega
  ·obtain rfl:k=rs.length:=by omega
   have HN:Hid (out=bz (ae rs)):=by show _=_;rw[HP.out,VI]
   go_wp2;go_ret;exact⟨by rw[HN.out];rfl,HB.out⟩
def lastT:ByteArray:=⟨#[116,121,112,101,32,100,111,99,10,118,105,101,119,101,114,32,61,32,116,104,105,115,40,117,115,101,114,41,10,116,121,112,101,32,117,115,101,114,10]⟩
def Ik:List Ty:=[⟨⟨#[100,111,99]⟩,[⟨⟨#[118,105,101,119,101,114]⟩,[⟨1,[⟨⟨#[117,115,101,114]⟩,⟨#[]⟩⟩],⟨#[]⟩,⟨#[]⟩,[]⟩]⟩]⟩,⟨⟨#[117,115,101,114]⟩,[]⟩]
theorem KF:dV (lastT.size+1) lastT []=some Ik:=by kernel_rfl
theorem KG:aD Ik=true:=by
 refine aG.2 ⟨by kernel_rfl,by kernel_rfl,fun _=>0,⟨fun _=>Int.le_refl _,fun k hk d hd=>?_⟩⟩;have h:((au Ik).all fun k=>(fZ Ik k).isEmpty)=true:=by kernel_rfl
 have h2:=VF.1 h k hk;rw[List.isEmpty_iff.1 h2]at hd;cases hd
def Pre(t:ByteArray):Prop:=∃x y z c tl,t.data.toList=116::121::112::101::32::x::y::z::10::c::tl/\x≠10/\y≠10/\z≠10/\c≠116
theorem Pre.app{t:ByteArray}(h:Pre t)(u:bi):Pre (t++u):=by
 obtain⟨x,y,z,c,tl,e,h1⟩:=h;exact⟨x,y,z,c,tl++u.data.toList,by rw[Wu,Array.toList_append,e];rfl,h1⟩
theorem QK{n:ByteArray}(h:aP n=true):∀b∈n.data.toList,b≠10:=by
 intro b hb e;unfold aP dR sP at h;simp only[Vw]at h;have:=VF.1 h.1.2 b hb;rw[e]at this
 revert this
 decide
theorem NS{rs:Q06}(hd:aD (ae rs)=true)(h:Pre (bz (ae rs))):∃t ts q qs x xs,rs=t::ts/\t.rows=q::qs/\q.rows=x::xs:=by
 have hS:=aG.1 hd;obtain⟨x,y,z,c,tl,e,hx,hy,hz,hc⟩:=h;cases rs with
 | nil=>simp[ae,bz]at e
 | cons t ts =>
  have hn:=QK (l7 hS.1 0 (by simp)).1;simp only[List.getElem_cons_zero]at hn;have e2:(116::121::112::101::32::(t.name.data.toList++10::((cu (bQ t.rows)).data.toList++(bz (ae ts)).data.toList)))=116::121::112::101::32::x::y::z::10::c::tl:=by
   rw[<-e];show _=(bz (⟨t.name,bQ t.rows⟩::ae ts)).data.toList;simp[bz,gM,ByteArray.data_append]
  simp only[List.cons.injEq,true_and]at e2;have key:(cu (bQ t.rows)).data.toList++(bz (ae ts)).data.toList=c::tl:=by
   generalize (cu (bQ t.rows)).data.toList++(bz (ae ts)).data.toList=rest at e2;generalize t.name.data.toList=nm at e2 hn
   match nm,e2,hn with
   | [],e2,_=>simp at e2;exact absurd e2.1.symm hx
   | [a],e2,_=>simp at e2;exact absurd e2.2.1.symm hy
   | [a,b],e2,_=>simp at e2;exact absurd e2.2.2.1.symm hz
   | [a,b,d],e2,_=>simp at e2;exact e2.2.2.2
   | a::b::d::f::nm,e2,hn=>simp at e2;exact absurd e2.2.2.2.1 (hn f (by simp))
  cases hr:t.rows with
  | nil =>
   rw[hr]at key;cases ts with
   | nil=>simp[bQ,cu,ae,bz]at key
   | cons u us =>
    have:(bz (ae (u::us))).data.toList.head?=some 116:=by
     show(bz (⟨u.name,bQ u.rows⟩::ae us)).data.toList.head?=_;simp[bz,gM,ByteArray.data_append]
    simp only[bQ,List.map_nil,cu]at key;rw[show((⟨#[]⟩:ByteArray).data.toList++(bz (ae (u::us))).data.toList)=(bz (ae (u::us))).data.toList from rfl]at key;rw[key]at this;simp at this;exact absurd this hc
  | cons q qs =>
   obtain⟨h1,-⟩:=(aW hS.1).2.2 t (by simp) q (by rw[hr];simp);have h2:=(lY h1).1;rw[ay]at h2;cases hq:q.rows with
   | nil=>rw[hq]at h2;simp at h2
   | cons x xs=>exact⟨t,ts,q,qs,x,xs,rfl,hr,hq⟩
theorem KH(k:Int)(w:af):
  Calls prog 254 #[.int .i64 k] w fun e w'=>e=.returned (.string (dY k))/\w'=w:=by
 by_cases h4:k=4
 ·subst h4;go_enter func254,ntmps254;go_wp2;go_ret;exact⟨rfl,rfl⟩
 by_cases h5:k=5
 ·subst h5;go_enter func254,ntmps254;go_wp2;go_ret;exact⟨rfl,rfl⟩
 have HS:Hid (dY k=⟨#[32,45,32]⟩):=by show _=_;simp[dY,h4,h5]
 go_enter func254,ntmps254;go_wp2;go_ret;exact⟨by rw[HS.out];rfl,rfl⟩
theorem KI(a b c:bi):a++(b++c)=a++b++c:=by apply iU;simp[ByteArray.data_append]
theorem Il:(prog.info? 9).map (fun i=>(i.zero,i.size,i.bytes))=some (some (.string ⟨#[]⟩),1,16):=by kernel_rfl
def strs(xs:List ByteArray):List Value:=xs.map Value.string
theorem Ed(xs:List ByteArray)(k:Nat)(h:k<xs.length):strs (xs.take (k+1))=strs (xs.take k)++[.string xs[k]]:=by
 unfold strs;rw[Vx h,Wl];rfl
theorem Ee{w:af}{base k:Nat}{v:Value}{xs:List ByteArray}(h:w.ownsRow base 9 1 v k (strs xs))(hk:0<k):∃g cp,v=.slice (some ⟨g,0,none⟩) k cp/\k<=cp/\g<w.heap.size/\base<=g/\xs.length=k/\∀(j:Nat) x,xs[j]?=some x->w.cell? ⟨g,0+j,none⟩=some (.string x):=by
 have hl:xs.length=k:=by have:=h.1;simpa[strs] using this
 have h2:=h;rcases h.2 with⟨rfl,h0⟩|⟨g,cp,cur,rfl,hbg,hg,hnc,-⟩
 ·omega
 have hlt:=h2.lt g rfl;refine⟨g,cp,rfl,hnc,hlt.2,hbg,hl,fun j x hx=>?_⟩;have:=h2.cells (g:=g) rfl j (.string x) (by simp[strs,hx]);rw[VW];have e:(⟨g,0,none⟩:Addr).add j=⟨g,j,none⟩:=by
  unfold Addr.add;by_cases hj:j=0
  ·subst hj;simp
  simp[hj]
 rwa [e]at this
theorem CE(ad:Q02)(cap:Nat)(xs:Q0a)(w:af)(hal:dx xs=true)(hs:kD w ad xs):
  Calls prog 252 #[.slice ad xs.length cap] w fun e w'=>e=.returned (.string (mQ xs))/\ag w w':=by
 have HS:=az hs;have Xd:Hid (dx xs=true):=hal;have hts:=jk hal;unfold mQ at hts;simp only[VK]at hts;have hl:1<=xs.length/\xs.length<=6:=by unfold dx at hal;simp at hal;exact⟨hal.1.1,hal.1.2⟩
 obtain⟨hl1,hl6⟩:=hl;clear hs hal;obtain⟨i0,hi,hz0,hz1,hz2⟩:=info_parts Il;go_enter func252,ntmps252;go_wp2_with fail;go_loopw[3,9] (fun v i wr=>∃k:Nat,k<=xs.length/\i=.int .i64 k/\wr.ownsRow w.heap.size 9 1 v k (strs ((xs.map bG).take k))/\ag w wr) (fun _ i _=>xs.length-(intOf i).toNat);case atStart=>exact⟨0,Vy _,rfl,by simpa[strs] using World.ownsRow_nil _ _ _ _,Vv _ _⟩
 obtain⟨k,hk,rfl,hown,hB⟩:=hrel;by_cases hlt:k<xs.length
 ·rcases HS.out.below hB with rfl|⟨b,off,rfl,hb,hr⟩
  ·simp at hlt
  obtain⟨t0,t1⟩:=hr k hlt;have hab:EE xs[k]=true:=by
   have:=Xd.out;unfold dx at this;simp only[Vw]at this;exact vO this.2 k hlt hlt
  have z2:=nJ hab;unfold EE at hab;rw[Vw]at hab;have z0:=aS hab.1;have z1:=uH hab.2;have hBs:=hB.size;have HX:Hid (strs ((xs.map bG).take (k+1))=strs ((xs.map bG).take k)++[.string (bG xs[k])]):=by show _=_;rw[Ed _ _ (by simpa using hlt),List.getElem_map]
  clear hr hab;cases he:xs[k].s.toList.isEmpty;case true=>
   have HAT:Hid (bG xs[k]=xs[k].t):=by show _=_;simp[bG,he]
   go_wp2_with(at_builtin;refine wpList_append_own _ rfl _ _ 143 rfl w.heap.size 9 i0 (.string ⟨#[]⟩) 1 16 underlying143 hi hz0 hz1 hz2 rfl (by decide) _ _ _ rfl ((hown.alloc _).alloc _) ⟨wr.heap.size+1,0,none⟩ 1 1 [.string xs[k].t] rfl rfl (by have:=cell_one_new (wr.alloc (.cells #[.string xs[k].t,.string xs[k].s] 216)) (.string xs[k].t) 9;rw[World.size_alloc]at this;exact this) (by intro u hu;simp at hu;subst hu;rfl) (by unfold maxLen;omega) (by omega) (by simp;omega) ?_);intro v' w3 hown3 hgrow _;have hb3:ag w w3:=((hB.alloc hB.size _).alloc (by simp;omega) _).grown hgrow (by simp;omega) (fun i hi=>(hown.lt i hi).1);rw[<-HAT.out,<-HX.out]at hown3;have Xv:=az hown3;clear hown3 hgrow hown;go_wp2;go_roundw;case rel=>exact⟨k+1,by omega,by go_num,Xv.out,hb3⟩
   simp[intOf]<;>omega
  have HAT:Hid (bG xs[k]=xs[k].t++(⟨#[35]⟩++xs[k].s)):=by show _=_;rw[KI];simp[bG,he]
  go_wp2_with(at_builtin;refine wpList_append_own _ rfl _ _ 143 rfl w.heap.size 9 i0 (.string ⟨#[]⟩) 1 16 underlying143 hi hz0 hz1 hz2 rfl (by decide) _ _ _ rfl ((hown.alloc _).alloc _) ⟨wr.heap.size+1,0,none⟩ 1 1 [.string (xs[k].t++(⟨#[35]⟩++xs[k].s))] rfl rfl (by have:=cell_one_new (wr.alloc (.cells #[.string xs[k].t,.string xs[k].s] 216)) (.string (xs[k].t++(⟨#[35]⟩++xs[k].s))) 9;rw[World.size_alloc]at this;exact this) (by intro u hu;simp at hu;subst hu;rfl) (by unfold maxLen;omega) (by omega) (by simp;omega) ?_);intro v' w3 hown3 hgrow _;have hb3:ag w w3:=((hB.alloc hB.size _).alloc (by simp;omega) _).grown hgrow (by simp;omega) (fun i hi=>(hown.lt i hi).1);rw[<-HAT.out,<-HX.out]at hown3;have Xv:=az hown3;clear hown3 hgrow hown;go_wp2;go_roundw;case rel=>exact⟨k+1,by omega,by go_num,Xv.out,hb3⟩
  simp[intOf]<;>omega
 obtain rfl:k=xs.length:=by omega
 have HE:Hid ((xs.map bG).take xs.length=xs.map bG):=by show _=_;rw[VZ (by simp)]
 rw[HE.out]at hown;obtain⟨g,cp,rfl,hcp,hgl,-,hll,hc⟩:=Ee hown (by omega);have hsz:(dP ⟨#[44]⟩ (xs.map bG)).size<=200:=by omega
 have HC:Hid (∀(j:Nat) x,(xs.map bG)[j]?=some x->wr.cell? ⟨g,0+j,none⟩=some (.string x)):=hc;clear hc hown hi hz0 hz1 hz2;go_wp2_with fail;have HJ:=Tryz.strings_Join g 0 cp (xs.map bG) ⟨#[44]⟩ wr HC.out hgl (by rw[hll];omega) (by rw[hll];exact hcp) (Vz hsz (by omega));rw[hll]at HJ;obtain⟨J,hJ⟩:=eQx (dP ⟨#[44]⟩ (xs.map bG));have hsJ:J.size<=200:=by rw[hJ];exact hsz
 have HTT:Hid (mQ xs=⟨#[116,104,105,115,40]⟩++J++⟨#[41]⟩):=by show _=_;rw[hJ];rfl
 refine HJ.mono ?_;rintro e w1 ⟨he,hb1⟩;have he':e=.returned (.string J):=by rw[he,hJ];rfl
 subst he';have HB1:Hid (ag w w1):=hB.trans (hb1.mono hB.size);clear hb1 HJ he hJ hsz hts;go_wp2;go_ret;exact⟨by rw[HTT.out];rfl,HB1.out⟩
def Ready(w:World)(g len:Nat)(f:Int->ByteArray)(ks:List Int):Prop:=g<w.heap.size/\∀k∈ks,0<=k/\k<(len:Int)/\w.cell? ⟨g,k.toNat,none⟩=some (.string (f k))/\(f k).size<=20000000000000
theorem Ready.below{w w':af}{g len:Nat}{f:Int->ByteArray}{ks:List Int}(h:Ready w g len f ks)(hb:ag w w'):Ready w' g len f ks :=
 ⟨Vt h.1 hb.size,fun k hk=>by obtain⟨h1,h2,h3,h4⟩:=h.2 k hk;exact⟨h1,h2,kept hb h.1 h3,h4⟩⟩
set_option maxRecDepth 4000 in
theorem FI(r:ER)(g len cap:Nat)(f:Int->ByteArray)(w:af)(WN:av r.e=true)(hok:r.ok w)(hr:Ready w g len f r.e.kids):
  Calls prog 179 #[r.val,.slice (some ⟨g,0,none⟩) len cap] w fun e w'=>e=.returned (.string (ji f r.e))/\ag w w':=by
 obtain⟨⟨kind,allow,over,name,kids⟩,adA,capA,adK,capK⟩:=r;obtain⟨hA,hK⟩:=hok;obtain⟨hk5,hkind⟩:=kL WN;simp only at hA hK hk5 hkind hr;simp only[ER.val];have HN:Hid (av ⟨kind,allow,over,name,kids⟩=true):=WN;have HA:=az hA;have HK:Hid (rU w adK kids):=hK;have HRY:=az hr;clear hA hK WN hr;by_cases k1:kind=1
 ·subst k1;have hal:dx allow=true:=by
   have:=HN.out;unfold av at this;rw[if_pos rfl]at this;simp only[Vw]at this;exact this.1.1.1
  have HB0:Hid (ag w (w.alloc (.cells #[.int .i64 1,.slice adA allow.length capA,.string over,.string name,.slice adK kids.length capK] 43))):=(Vv _ _).alloc (Vu _) _;go_enter func179,ntmps179;go_wp2_with fail;refine(CE adA capA allow _ hal (HA.out.below HB0.out)).mono ?_;rintro e w1 ⟨rfl,hb1⟩;have HB1:=iX HB0 hb1;clear hb1;go_wp2;go_ret;exact⟨rfl,HB1.out⟩
 by_cases k2:kind=2
 ·subst k2;go_enter func179,ntmps179;go_wp2;go_ret;exact⟨rfl,(Vv _ _).alloc (Vu _) _⟩
 by_cases k3:kind=3
 ·subst k3;have hsz:over.size<=12/\name.size<=12:=by
   have:=HN.out;unfold av at this;rw[if_neg (by simp),if_neg (by simp),if_pos rfl]at this;simp only[Vw]at this;exact⟨aS this.1.1.1,aS this.1.1.2⟩
  obtain⟨z0,z1⟩:=hsz;go_enter func179,ntmps179;go_wp2;go_ret;exact⟨rfl,(Vv _ _).alloc (Vu _) _⟩
 have kb1:(kind==1)=false:=by simpa using k1
 have kb2:(kind==2)=false:=by simpa using k2
 have kb3:(kind==3)=false:=by simpa using k3
 have HT:Hid (ji f ⟨kind,allow,over,name,kids⟩=dP (dY kind) (kids.map f)):=by show _=_;simp[ji,k1,k2,k3]
 have hk2:2<=kids.length:=by
  have:=HN.out;unfold av at this;rw[if_neg k1,if_neg k2,if_neg k3]at this;split at this
  ·simp at this;omega
  split at this
  ·simp at this;omega
  cases this
 have HTS:Hid (∀x∈kids.map f,x.size<=20000000000000):=fun x hx=>by
  obtain⟨k,hk,rfl⟩:=VE.1 hx;exact(HRY.out.2 k hk).2.2.2
 obtain⟨i0,hi,hz0,hz1,hz2⟩:=info_parts Il;obtain⟨W,hW⟩:=eQx (w.alloc (.cells #[.int .i64 kind,.slice adA allow.length capA,.string over,.string name,.slice adK kids.length capK] 43));have HB0:=qC hW;have hgl:w.heap.size<W.heap.size:=by rw[hW];simp
 have g0:W.cell? ⟨w.heap.size,0,none⟩=some (.int .i64 kind):=by rw[hW];simp
 go_enter func179,ntmps179;go_wp2_with fail;rw[<-hW];clear hW;go_loopw[5,30] (fun v i wr=>∃k:Nat,k<=kids.length/\i=.int .i64 k/\wr.ownsRow W.heap.size 9 1 v k (strs ((kids.map f).take k))/\ag W wr) (fun _ i _=>kids.length-(intOf i).toNat);case atStart=>exact⟨0,Vy _,rfl,by simpa[strs] using World.ownsRow_nil _ _ _ _,Vv _ _⟩
 obtain⟨k,hk,rfl,hown,hB⟩:=hrel;have hBw:ag w wr:=HB0.out.trans (hB.mono HB0.out.size);by_cases hlt:k<kids.length
 ·rcases HK.out.below hBw with rfl|⟨bk,offk,rfl,hbk,Zx⟩
  ·simp at hlt
  have q0:=Zx k hlt;obtain⟨r1,r2,r3,r4⟩:=(HRY.out.below hBw).2 kids[k] (Vs hlt);obtain⟨m,hm⟩:∃m:Nat,kids[k]=(m:Int):=⟨kids[k].toNat,by omega⟩;have HFm:Hid (f kids[k]=f (m:Int)):=by show _=_;rw[hm]
  have HX:Hid (strs ((kids.map f).take (k+1))=strs ((kids.map f).take k)++[.string (f kids[k])]):=by show _=_;rw[Ed _ _ (by simpa using hlt),List.getElem_map]
  rw[hm]at q0 r2;have r3':wr.cell? ⟨g,m,none⟩=some (.string (f kids[k])):=by rw[hm]at r3 ⊢;simpa using r3
  have hm1:=bI m;have hBs:=hB.size;obtain⟨fk,hfk⟩:=eQx (f kids[k]);rw[<-hfk]at r3';have HFK:Hid (fk=f kids[k]):=hfk;clear Zx r3 hm r1 hfk;go_wp2_with(at_builtin;refine wpList_append_own _ rfl _ _ 143 rfl W.heap.size 9 i0 (.string ⟨#[]⟩) 1 16 underlying143 hi hz0 hz1 hz2 rfl (by decide) _ _ _ rfl (hown.alloc _) ⟨wr.heap.size,0,none⟩ 1 1 [.string fk] rfl rfl (cell_one_new _ _ _) (by intro u hu;simp at hu;subst hu;rfl) (by unfold maxLen;omega) (by omega) (by simp;omega) ?_);intro v' w3 hown3 hgrow _;have hb3:ag W w3:=(hB.alloc hB.size _).grown hgrow (by simp;omega) (fun i hi=>(hown.lt i hi).1);rw[HFK.out,<-HX.out]at hown3;have Xv:=az hown3;clear hown3 hgrow hown;go_wp2;go_roundw;case rel=>exact⟨k+1,by omega,by go_num,Xv.out,hb3⟩
  simp[intOf]<;>omega
 obtain rfl:k=kids.length:=by omega
 have HE:Hid ((kids.map f).take kids.length=kids.map f):=by show _=_;rw[VZ (by simp)]
 rw[HE.out]at hown;obtain⟨gp,cp,rfl,hcp,hgpl,-,hll,hc⟩:=Ee hown (by omega);have a0:=kept hB hgl g0;have hsz:(dP (dY kind) (kids.map f)).size<=140737488355328:=by
  have h:=mP (dY kind) 20000000000000 _ (kids.map f) rfl HTS.out;rw[ku,hll]at h;omega
 have HC:Hid (∀(j:Nat) x,(kids.map f)[j]?=some x->wr.cell? ⟨gp,0+j,none⟩=some (.string x)):=hc;clear hc hown hi hz0 hz1 hz2;go_wp2_with fail;refine(KH _ _).mono ?_;rintro e w' ⟨rfl,rfl⟩;go_wp2_with fail;have HJ:=Tryz.strings_Join gp 0 cp (kids.map f) (dY kind) _ HC.out hgpl (by rw[hll];omega) (by rw[hll];exact hcp) hsz;rw[hll]at HJ;refine HJ.mono ?_;rintro e w1 ⟨he,hb1⟩;obtain⟨J,hJ⟩:=eQx (dP (dY kind) (kids.map f));have he':e=.returned (.string J):=by rw[he,hJ];rfl
 subst he';have HJJ:Hid (ji f ⟨kind,allow,over,name,kids⟩=J):=by show _=_;rw[HT.out,hJ]
 have HB1:Hid (ag w w1):=hBw.trans (hb1.mono hBw.size);clear hb1 HJ he hJ hsz;go_wp2;go_ret;exact⟨by rw[HJJ.out];rfl,HB1.out⟩
def OE(es:Q09)(j:Nat):ByteArray:=if j+1<es.length then txt es j else gy es j false
def NT(es:Q09)(k:Nat):List Value:=strs ((List.range k).map (OE es))
theorem BL(es:Q09)(k:Nat):NT es (k+1)=NT es k++[.string (OE es k)]:=by simp[NT,strs,List.range_succ]
theorem wQ(es:Q09)(k:Nat):(NT es k).length=k:=by simp[NT,strs]
theorem QL(es:Q09)(k j:Nat)(h:j<(NT es k).length):(NT es k)[j]=.string (OE es j):=by simp[NT,strs]
theorem Fil.put2{w wr:af}{g n o:Nat}{xs:Q03}(h:Fil w wr g n xs)(a v:Value)(ho:o=xs.length)(hn:o<n):Fil w ((wr.setCell ⟨g,o,none⟩ a).setCell ⟨g,o,none⟩ v) g n (xs++[v]):=by
 have h1:Fil w (wr.setCell ⟨g,o,none⟩ a) g n xs:=by
  refine⟨h.below.setCell (p:=⟨g,o,none⟩) h.ge a,h.ge,by simpa using h.lt,fun j hj=>?_,fun j hj=>?_,fun j=>by simpa using h.free j⟩
  ·rw[gV (by omega)];exact h.done j hj
  by_cases e:o=j
  ·subst e;obtain⟨u,hu⟩:=Option.isSome_iff_exists.mp (h.there o hn);rw[mD hu];rfl
  rw[gV e];exact h.there j hj
 exact h1.put v ho hn
theorem yf(b off cap:Nat)(rs:Q08)(w:af)(hlen:rs.length<=1048576)(hl:∀r∈rs,r.e.light)(hf:∀r∈rs,r.e.fits)(hcp:∀r∈rs,r.e.allow.length<=r.capA)(hb:b<w.heap.size)(hr:∀(i:Nat) (h:i<rs.length),ve w b (off+i*5) rs[i])(hok:∀r∈rs,r.ok w):
  Calls prog 106 #[.slice (some ⟨b,off,none⟩) rs.length cap] w fun e w'=>e=.returned (.string (dK (ai rs)))/\ag w w':=by
 have Yt:Hid ((ai rs).length=rs.length):=ay rs;have HR:Hid (∀(i:Nat) (h:i<rs.length),ve w b (off+i*5) rs[i]):=hr;have HO:=az hok;have HIM:=rz b off cap rs w hlen hl hf hcp hb hr hok;clear hl hf hcp hr hok;obtain⟨inf,z,hi,hz0,hz1,hz2⟩:=TW (t:=9) (n:=1) (b:=16) (by kernel_rfl);go_enter func106,ntmps106;go_wp2_with fail;refine HIM.mono ?_;rintro e w1 ⟨he,hb1⟩;rw[<-rV]at he;have HB1:=az hb1;clear hb1 HIM;cases hE:aI (ai rs);case false=>
  rw[hE]at he;subst he;have HX:Hid (dK (ai rs)=⟨#[]⟩):=xQ hE;clear hi hz0 hz1 hz2;go_wp2;go_ret;exact⟨by rw[HX.out];rfl,HB1.out⟩
 rw[hE]at he;subst he;have hok:=JP hE;have Xc:=az hok;have h15:rs.length<=15:=by have:=hok.1;rw[ay]at this;exact this
 have h1:1<=rs.length:=by
  have:=hE;unfold aI at this;simp only[Vw,VH,ay]at this;exact this.1.1.1.1.1
 have HX:Hid (dK (ai rs)=OE (ai rs) (rs.length-1)):=by show _=_;rw[uJ hE];unfold OE;rw[ay,if_neg (by omega)]
 have hbw1:b<w1.heap.size:=Vt hb HB1.out.size;have HR1:Hid (∀(i:Nat) (h:i<rs.length),ve w1 b (off+i*5) rs[i]):=fun i hi=>(HR.out i hi).later hb HB1.out;have Xf:Hid (∀r∈rs,r.ok w1):=fun r hr=>(HO.out r hr).below HB1.out;clear hok hE;go_wp2_with(at_make;refine wpList_make_full _ rfl _ _ 143 rfl w1.heap.size 9 inf z 1 underlying143 hi hz0 hz1 .i64 .i64 _ _ rs.length rfl rfl rfl rfl (by rw[hz2];omega) (by unfold maxLen;omega) (Vu _) ?_;intro w0 hown0 XT);have F0:Fil w1 w0 w1.heap.size (rs.length*1) []:=Pb hown0 XT;clear hown0 XT hi hz0 hz1 hz2;go_loopw[14] (fun i wr=>∃k:Nat,k<=rs.length/\i=.int .i64 k/\Hid (Fil w1 wr w1.heap.size (rs.length*1) (NT (ai rs) k))) (fun i _=>rs.length-(intOf i).toNat);case atStart=>exact⟨0,Vy _,rfl,F0⟩
 obtain⟨k,hk,rfl,HFI⟩:=hrel;have hB:=HFI.out.below;have hgl:=HFI.out.lt;by_cases hlt:k<rs.length
 ·have XO:k<(ai rs).length:=by rw[ay];exact hlt
  have heE:(ai rs)[k]=rs[k].e:=by simp[ai]
  obtain⟨t0,t1,t2,t3,t4⟩:=(HR1.out k hlt).later hbw1 hB;have WN:av rs[k].e=true:=by rw[<-heE];exact Xc.out.2.1 k XO
  have hkl:=sj Xc.out XO;rw[heE]at hkl;have hk1:=bI k;have hk2:(k:Int)<(rs.length:Int):=by omega
  obtain⟨W,hW⟩:=eQx (wr.alloc (.cells #[.int .i64 rs[k].e.kind,.slice rs[k].adA rs[k].e.allow.length rs[k].capA,.string rs[k].e.over,.string rs[k].e.name,.slice rs[k].adK rs[k].e.kids.length rs[k].capK] 43));have hal:ag wr W:=by rw[hW];exact(Vv _ _).alloc (Vu _) _
  have hpl:wr.heap.size<W.heap.size:=by rw[hW];simp
  have g4:W.cell? ⟨wr.heap.size,4,none⟩=some (.slice rs[k].adK rs[k].e.kids.length rs[k].capK):=by rw[hW];simp
  have HFW:=HFI.out.later hal;have HRY:Hid (Ready W w1.heap.size rs.length (iH (ai rs) k) rs[k].e.kids):=by
   refine⟨HFW.lt,fun m hm=>?_⟩;obtain⟨m0,m1⟩:=hkl m hm;refine⟨m0,by omega,?_,?_⟩
   ·rw[HFW.done m.toNat (by rw[wQ];exact m1),QL];unfold OE iH;rw[if_pos (by rw[ay];omega),if_pos m1]
   unfold iH;rw[if_pos m1,xP];exact sw Xc.out _ (by rw[ay];omega) true
  have HOKr:Hid (rs[k].ok W):=((Xf.out _ (Vs hlt)).below hB).below hal;have HNK:=FI rs[k] w1.heap.size rs.length rs.length (iH (ai rs) k) W WN HOKr.out HRY.out;obtain⟨N,hN⟩:=eQx (ji (iH (ai rs) k) rs[k].e);have hNs:N.size<=20000000000000+2:=by
   have:=sw Xc.out k XO false;unfold gy at this;rw[si XO,heE]at this;have e1:inT rs[k].e false (ji (iH (ai rs) k) rs[k].e)=N:=by rw[hN];simp[inT]
   rw[e1]at this;omega
  have HTf:Hid (gy (ai rs) k false=N):=by show _=_;unfold gy;rw[si XO,heE,hN];simp[inT]
  have HTt:Hid (txt (ai rs) k=inT rs[k].e true N):=by show _=_;rw[xP];unfold gy;rw[si XO,heE,hN]
  obtain⟨-,hkind⟩:=kL WN;have Yp:Hid (av rs[k].e=true):=WN;rw[<-hN]at HNK;clear hN hkl heE HFW WN;go_wp2_with fail;rw[<-hW];refine HNK.mono ?_;rintro e w2 ⟨rfl,hb2⟩;have hF2:=(HFI.out.later hal).later hb2;have hgp:w1.heap.size≠wr.heap.size:=by omega
  have c4:=kept hb2 hpl g4;have fz:=hF2.free;obtain⟨v0,u0⟩:=Option.isSome_iff_exists.mp (hF2.there k (by omega));have XU:=az hF2;clear hb2 hal HNK hW t0 t1 t2 t3 t4 hF2 g4;by_cases hkk:0<rs[k].e.kids.length
  ·have hkk':(0:Int)<(rs[k].e.kids.length:Int):=by omega
   have hk456:¬rs[k].e.kind=1/\¬rs[k].e.kind=2/\¬rs[k].e.kind=3:=by
    have:=Yp.out;unfold av at this;refine⟨fun h=>?_,fun h=>?_,fun h=>?_⟩
    ·rw[if_pos h]at this;simp at this;rw[this.2]at hkk;simp at hkk
    ·rw[h]at this;simp at this;rw[this.2]at hkk;simp at hkk
    rw[h]at this;simp at this;rw[this.2]at hkk;simp at hkk
   by_cases hlast:k<rs.length-1
   ·have hl':(k:Int)<(rs.length:Int)-1:=by omega
    have HTA:Hid (OE (ai rs) k=⟨#[40]⟩++N++⟨#[41]⟩):=by
     show _=_;unfold OE;rw[if_pos (by rw[ay];omega),HTt.out];simp[inT,hk456]
    have Yn:=XU.out.put2 (.string N) (.string (⟨#[40]⟩++N++⟨#[41]⟩)) (o:=k) (by rw[wQ]) (by omega);rw[<-HTA.out,<-BL]at Yn;rw[HTA.out]at Yn;have Z0:=az Yn;clear Yn;go_wp2;go_roundw;case rel=>exact⟨k+1,by omega,by go_num,Z0⟩
    simp[intOf]<;>omega
   have hl':¬(k:Int)<(rs.length:Int)-1:=by omega
   have HTA:Hid (OE (ai rs) k=N):=by show _=_;unfold OE;rw[if_neg (by rw[ay];omega),HTf.out]
   have Yn:=XU.out.put (.string N) (o:=k) (by rw[wQ]) (by omega);have e3:NT (ai rs) k++[.string N]=NT (ai rs) (k+1):=by rw[BL,HTA.out]
   rw[e3]at Yn;have Z0:=az Yn;clear Yn e3;go_wp2;go_roundw;case rel=>exact⟨k+1,by omega,by go_num,Z0⟩
   simp[intOf]<;>omega
  have hkk':¬(0:Int)<(rs[k].e.kids.length:Int):=by omega
  have hk123:rs[k].e.kind=1\/rs[k].e.kind=2\/rs[k].e.kind=3:=by
   have:=Yp.out;unfold av at this;rcases hkind with h|h|h|h|h|h
   ·exact .inl h
   ·exact .inr (.inl h)
   ·exact .inr (.inr h)
   ·rw[h]at this;simp at this;omega
   ·rw[h]at this;simp at this;omega
   rw[h]at this;simp at this;omega
  have HTA:Hid (OE (ai rs) k=N):=by
   show _=_;unfold OE;split
   ·rw[HTt.out];rcases hk123 with h|h|h<;>simp[inT,h]
   exact HTf.out
  have Yn:=XU.out.put (.string N) (o:=k) (by rw[wQ]) (by omega);have e3:NT (ai rs) k++[.string N]=NT (ai rs) (k+1):=by rw[BL,HTA.out]
  rw[e3]at Yn;have Z0:=az Yn;clear Yn e3 hk123;go_wp2;go_roundw;case rel=>exact⟨k+1,by omega,by go_num,Z0⟩
  simp[intOf]<;>omega
 obtain rfl:k=rs.length:=by omega
 have a0:=HFI.out.done (rs.length-1) (by rw[wQ];omega);rw[QL]at a0;have hcast:((rs.length:Int)-1)=((rs.length-1:Nat):Int):=by omega
 have h00:(0:Int)<=((rs.length-1:Nat):Int):=by omega
 have h01:((rs.length-1:Nat):Int)<(rs.length:Int):=by omega
 have HBB:=iX HB1 hB;go_wp2;go_ret;exact⟨by rw[HX.out];rfl,HBB.out⟩
theorem yg(ad:Q02)(cap:Nat)(rs:Q08)(w:af)(hlen:rs.length<=1048576)(hl:∀r∈rs,r.e.light)(hf:∀r∈rs,r.e.fits)(hcp:∀r∈rs,r.e.allow.length<=r.capA)(hs:jo w ad rs):
  Calls prog 106 #[.slice ad rs.length cap] w fun e w'=>e=.returned (.string (dK (ai rs)))/\ag w w':=by
 rcases hs with rfl|⟨b,off,rfl,hb,hr,hok⟩
 ·have HIM:=rA ad cap [] w hlen hl hf hcp (.inl rfl);go_enter func106,ntmps106;go_wp2_with fail;refine HIM.mono ?_;rintro e w1 ⟨he,hb1⟩;have h0:kG (ai [])=false:=rfl;rw[h0]at he;subst he;have HB1:=az hb1;clear hb1 HIM h0;go_wp2;go_ret;exact⟨rfl,HB1.out⟩
 exact yf b off cap rs w hlen hl hf hcp hb hr hok
theorem U8(o n e:bi):(((o++n)++⟨#[32,61,32]⟩)++e)++⟨#[10]⟩=o++(((n++⟨#[32,61,32]⟩)++e)++⟨#[10]⟩):=by
 simp only[V5]
theorem TH(o n:bi):((o++⟨#[116,121,112,101,32]⟩)++n)++⟨#[10]⟩=o++gM n:=by
 unfold gM;simp only[V5]
structure Small(rs:Q06):Prop where
 six:rs.length<=6
 rels:∀r∈rs,r.rows.length<=6
 name:∀r∈rs,r.name.size<=12
 names:∀r∈rs,∀q∈r.rows,q.name.size<=12
theorem Small.of{rs:Q06}(h:bN (ae rs)):Small rs:=by
 obtain⟨h6,XA,-⟩:=aW h.1;have hn:∀r∈rs,aP r.name=true/\dE (bQ r.rows) r.rows.length=true:=by
  intro r hr;obtain⟨k,hk,rfl⟩:=V4 hr;exact⟨(l7 h.1 k hk).1,(l7 h.1 k hk).2.2⟩
 refine⟨h6,XA,fun r hr=>aS (hn r hr).1,fun r hr q hq=>?_⟩;obtain⟨k,hk,rfl⟩:=V4 hq;exact aS (DL (hn r hr).2 k hk hk).1
set_option maxRecDepth 100000 in
theorem Im(ad:Q02)(cap:Nat)(rs:Q06)(w:af)(hm:Small rs)(hs:jK w ad rs)(hl:∀r∈rs,r.light)(hf:∀r∈rs,r.fits):
  Calls prog 108 #[.slice ad rs.length cap] w fun e w'=>e=.returned (.string (bz (ae rs)))/\ag w w':=by
 have HS:=az hs;have HL:=az hl;have WT:=az hf;have HM:=az hm;have h6:=hm.six;clear hs hl hf hm;go_enter func108,ntmps108;go_wp2;go_loopw[3,4] (fun o i wr=>∃(k:Nat) (out:ByteArray),k<=rs.length/\o=.string out/\i=.int .i64 k/\Hid (out=bz (ae (rs.take k)))/\out.size<=k*23000/\Hid (ag w wr)) (fun _ i _=>rs.length-(intOf i).toNat);case atStart=>exact⟨0,⟨#[]⟩,Vy _,rfl,rfl,rfl,Vy _,Vv _ _⟩
 case round =>
  obtain⟨k,out,hk,rfl,rfl,HP,hz,HB⟩:=hrel;obtain⟨wo,rfl⟩:∃x,x=wr:=⟨_,rfl⟩;by_cases hlt:k<rs.length
  ·rcases HS.out.below HB.out with rfl|⟨b,off,rfl,hb,hr,hok⟩
   ·simp at hlt
   obtain⟨t0,t1⟩:=hr k hlt;have Xc:Hid (rs[k].ok wo):=hok rs[k] (Vs hlt);have hn12:=HM.out.name rs[k] (Vs hlt);have XA:=HM.out.rels rs[k] (Vs hlt);have HN12:Hid (∀q∈rs[k].rows,q.name.size<=12):=HM.out.names rs[k] (Vs hlt);have YT:Hid (rs[k].light):=HL.out _ (Vs hlt);have YB:Hid (rs[k].fits):=WT.out _ (Vs hlt);have hk1:=bI k;have hk2:(k:Int)<(rs.length:Int):=by omega
   have hrl:(rs[k].rows.length:Int)<=6:=by omega
   clear hr hok;go_wp2;go_loopw[3,5] (fun o i wr=>∃(j:Nat) (o2:ByteArray),j<=rs[k].rows.length/\o=.string o2/\i=.int .i64 j/\Hid (o2=(out++gM rs[k].name)++cu (bQ (rs[k].rows.take j)))/\o2.size<=k*23000+18+j*3770/\Hid (ag wo wr)) (fun _ i _=>rs[k].rows.length-(intOf i).toNat);case atStart=>exact⟨0,_,Vy _,rfl,rfl,by show _=_;rw[TH,List.take_zero,show bQ []=[] from rfl];simp only[cu,qi],by rw[TH,VK,kX];omega,Vv _ _⟩
   case round =>
    obtain⟨j,o2,hj,rfl,rfl,HI,hz2,HB2⟩:=hrel;replace t0:=aC HB2.out hb t0;replace t1:=aC HB2.out hb t1;have hbw:b<wr.heap.size:=Vt hb HB2.out.size;by_cases hjl:j<rs[k].rows.length
    ·rcases Xc.out.below HB2.out with hnil|⟨b2,WV,had,hb2,hr2,hok2⟩
     ·rw[hnil]at hjl;simp at hjl
     rw[had]at t1;obtain⟨u0,u1⟩:=hr2 j hjl;have HOQ:Hid (rs[k].rows[j].ok wr):=hok2 rs[k].rows[j] (Vs hjl);have hj1:=bI j;have hj2:(j:Int)<(rs[k].rows.length:Int):=by omega
     have hq12:=HN12.out _ (Vs hjl);have HQL:Hid (rs[k].rows[j].light):=YT.out.2 _ (Vs hjl);have HQF:Hid (rs[k].rows[j].fits):=YB.out.2.2 _ (Vs hjl);obtain⟨ex,hex⟩:=eQx (dK (ai rs[k].rows[j].rows));have HEX:Hid (ex=dK (ai rs[k].rows[j].rows)):=hex;have hxs:ex.size<=3750:=by rw[hex];exact qh _
     have q1:(9223372036854775807<o2.size+rs[k].rows[j].name.size)=False:=by simp;omega
     have q2:(9223372036854775807<o2.size+rs[k].rows[j].name.size+3)=False:=by simp;omega
     have q3:(9223372036854775807<o2.size+rs[k].rows[j].name.size+3+ex.size)=False:=by simp;omega
     have q4:(9223372036854775807<o2.size+rs[k].rows[j].name.size+3+ex.size+1)=False:=by simp;omega
     have HI2:Hid ((((o2++rs[k].rows[j].name)++⟨#[32,61,32]⟩)++ex)++⟨#[10]⟩=(out++gM rs[k].name)++cu (bQ (rs[k].rows.take (j+1)))):=by
      show _=_;rw[U8,x8 _ _ hjl,kV,HI.out,hex];simp only[V5,BD]
     have hz3:((((o2++rs[k].rows[j].name)++⟨#[32,61,32]⟩)++ex)++⟨#[10]⟩:ByteArray).size<=k*23000+18+(j+1)*3770:=by
      have e1:(⟨#[32,61,32]⟩:ByteArray).size=3:=rfl;have e2:(⟨#[10]⟩:ByteArray).size=1:=rfl;simp only[VK];omega
     have HZ3:Hid (((((o2++rs[k].rows[j].name)++⟨#[32,61,32]⟩)++ex)++⟨#[10]⟩:ByteArray).size<=k*23000+18+(j+1)*3770):=hz3;clear hr2 hok2 had hex hz3;go_wp2_with fail;refine bC 24 _ _ (fun n v _=>v=(Value.string o2::.slice (some ⟨b,off,none⟩) rs.length cap::.int .i64 k::.pointer (some ⟨b,off+k*2,none⟩)::.pointer (some ⟨b,off+k*2+1,none⟩)::.slice (some ⟨b2,WV,none⟩) rs[k].rows.length rs[k].cap::.int .i64 j::.pointer (some ⟨b2,WV+j*2,none⟩)::.pointer (some ⟨b2,WV+j*2,none⟩)::.string rs[k].rows[j].name::.string (o2++rs[k].rows[j].name)::.string ((o2++rs[k].rows[j].name)++⟨#[32,61,32]⟩)::.slice (some ⟨b,off,none⟩) rs.length cap::.int .i64 k::.pointer (some ⟨b,off+k*2,none⟩)::.pointer (some ⟨b,off+k*2+1,none⟩)::.slice (some ⟨b2,WV,none⟩) rs[k].rows.length rs[k].cap::.int .i64 j::.pointer (some ⟨b2,WV+j*2,none⟩)::.pointer (some ⟨b2,WV+j*2+1,none⟩)::.slice rs[k].rows[j].ad rs[k].rows[j].rows.length rs[k].rows[j].cap::.string ex::.string (((o2++rs[k].rows[j].name)++⟨#[32,61,32]⟩)++ex)::.string ((((o2++rs[k].rows[j].name)++⟨#[32,61,32]⟩)++ex)++⟨#[10]⟩)::[]).getD n undef) (fun w'=>ag wr w') (by kernel_rfl) rfl (by kernel_rfl) (by kernel_rfl) (yt [(31,[0,1,2,3,4,5,6,7,8,9,10,11,12,13,14,15,16,17,18,19,20,21,22,23])]) (Vv _ _).drew ?stepS ?finS<;>dsimp only[wY];case stepS =>
      rintro i hi o ho fq w' hG hpre;have HG:Hid (ag wr w'):=hG;replace t1:=aC hG hbw t1;replace u0:=aC hG hb2 u0;replace u1:=aC hG hb2 u1;have HM:Hid (∀e∈o.after,Region.binds .any e=true->_):=hpre;clear hG hpre;have hc:=Tj (i:=i) (by omega);clear hi
      repeat' rcases hc with rfl|hc
      iterate 21
       ·cases ho;have hm:=HM.out
        try simp[Region.binds]at hm
        refine aa rfl fun K HK=>?_;clear HM
        try simp only[hm]
        go_simp;exact HK.out _ _ ⟨_,by simp[upd, *],HG.out,rfl,fun k u hu=>hu⟩
      ·cases ho;have e20:fq 20=.slice rs[k].rows[j].ad rs[k].rows[j].rows.length rs[k].rows[j].cap:=HM.out ⟨20,.data⟩ (by simp) rfl;refine aa rfl fun K HK=>?_;clear HM;simp only[e20];go_simp;refine(kv _ _ rs[k].rows[j].rows _ HQL.out.1 HQL.out.2 HQF.out.2.2 (HOQ.out.below HG.out)).mono ?_;rintro e w5 ⟨rfl,hb5⟩;have Yv:=iX HG hb5;rw[<-HEX.out];clear hb5;go_wp2_with fail;exact HK.out _ _ ⟨Value.string ex,by simp[upd,e20],Yv.out,rfl,fun k u hu=>hu⟩
      iterate 2
       ·cases ho;have hm:=HM.out
        try simp[Region.binds]at hm
        refine aa rfl fun K HK=>?_;clear HM
        try simp only[hm]
        go_simp;exact HK.out _ _ ⟨_,by simp[upd, *],HG.out,rfl,fun k u hu=>hu⟩
     case finS =>
      rintro o ho fq w' hG hall;have e23:fq 23=.string ((((o2++rs[k].rows[j].name)++⟨#[32,61,32]⟩)++ex)++⟨#[10]⟩):=hall 23 (by omega);have HG:Hid (ag wr w'):=hG;clear hG hall;obtain rfl:=Option.some.inj ho;clear ho;refine wpOp_step rfl (fun K hK=>?_);have HK:Hid (∀a w,_->K a w):=hK;clear hK;simp only[e23];go_simp;refine HK.out _ _ ?_;clear HK;have HB3:Hid (ag wo w'):=HB2.out.trans (HG.out.mono HB2.out.size);go_wp2;go_roundw;case rel=>exact⟨j+1,_,by omega,rfl,by go_num,HI2,HZ3.out,HB3⟩
      case measure=>simp[intOf]<;>omega
    ·obtain rfl:j=rs[k].rows.length:=by omega
     have WQ:Hid (o2=bz (ae (rs.take (k+1)))):=by
      show _=_;rw[HI.out,x9 _ _ hlt,jv,HP.out,VI,V5]
     have hz4:o2.size<=(k+1)*23000:=by omega
     have HB3:Hid (ag w wr):=HB.out.trans (HB2.out.mono HB.out.size);go_wp2;go_roundw;case rel=>exact⟨k+1,o2,by omega,rfl,by go_num,WQ,hz4,HB3⟩
     case measure=>simp[intOf]<;>omega
  ·obtain rfl:k=rs.length:=by omega
   have HN:Hid (out=bz (ae rs)):=by show _=_;rw[HP.out,VI]
   go_wp2;go_ret;exact⟨by rw[HN.out];rfl,HB.out⟩
set_option maxRecDepth 100000 in
theorem uQ(ad:Q02)(cap:Nat)(rs:Q06)(w:af)(hlen:rs.length<=1048576)(hs:jK w ad rs)(hl:∀r∈rs,r.light)(hf:∀r∈rs,r.fits):
  Calls prog 39 #[.slice ad rs.length cap] w fun e w'=>e=.returned (.string (iL (ae rs)))/\ag w w':=by
 have HS:=az hs;have HL:=az hl;have WT:=az hf;clear hs hl hf;go_enter func39,ntmps39;go_wp2_with fail;refine(fV ad cap rs _ hlen HS.out HL.out WT.out).mono ?_;rintro e w1 ⟨rfl,hb1⟩;have HB1:=az hb1;clear hb1;cases hd:aD (ae rs);case false=>
  have HN:Hid (iL (ae rs)=⟨#[]⟩):=by show _=_;unfold iL;rw[hd];rfl
  go_wp2;go_ret;exact⟨by rw[HN.out];rfl,HB1.out⟩
 have HN:Hid (iL (ae rs)=bz (ae rs)):=by show _=_;unfold iL;rw[hd];rfl
 have HM:Hid (Small rs):=Small.of (aG.1 hd);clear hd;go_wp2_with fail;refine(Im ad cap rs _ HM.out (HS.out.below HB1.out) HL.out WT.out).mono ?_;rintro e w2 ⟨rfl,hb2⟩;have HB2:=iX HB1 hb2;clear hb2;go_wp2;go_ret;exact⟨by rw[HN.out];rfl,HB2.out⟩
theorem Tryz.lays166j:Go.Proofs.Lays.n166 prog Tryz.lays156_ren:={
 mixed:=Tryz.lays156.mixed
 f166:=Tryz.lays156.f166
 f240:=Tryz.lays156.f240
 f276:=Tryz.lays156.f276
 t0:=Tryz.lays156.t0
 a0:=Tryz.lays156.a0
 z0:=Tryz.lays156.z0
 v0:=Tryz.lays156.v0
 t3:=Tryz.lays156.t3
 a3:=Tryz.lays156.a3
 z3:=Tryz.lays156.z3
 v3:=Tryz.lays156.v3
 t4:=Tryz.lays156.t4
 a4:=Tryz.lays156.a4
 z4:=Tryz.lays156.z4
 v4:=Tryz.lays156.v4
 t9:=Tryz.lays156.t9
 a9:=Tryz.lays156.a9
 z9:=Tryz.lays156.z9
 v9:=Tryz.lays156.v9
 t20:=Tryz.lays156.t20
 a20:=Tryz.lays156.a20
 z20:=Tryz.lays156.z20
 v20:=Tryz.lays156.v20
 t37:=Tryz.lays156.t37
 a37:=Tryz.lays156.a37
 z37:=Tryz.lays156.z37
 v37:=Tryz.lays156.v37
 t70:=Tryz.lays156.t70
 a70:=Tryz.lays156.a70
 z70:=Tryz.lays156.z70
 v70:=Tryz.lays156.v70
 t72:=Tryz.lays156.t72
 a72:=Tryz.lays156.a72
 z72:=Tryz.lays156.z72
 v72:=Tryz.lays156.v72
 t75:=Tryz.lays156.t75
 a75:=Tryz.lays156.a75
 z75:=Tryz.lays156.z75
 v75:=Tryz.lays156.v75
 t164:=Tryz.lays156.t164
 a164:=Tryz.lays156.a164
 z164:=Tryz.lays156.z164
 v164:=Tryz.lays156.v164 }
abbrev BM (b:Nat)(o:ByteArray)(w:World):Prop:=Lib.IsBuilderF 161 5 b b (Lib.byteCells o.data.toList) w
theorem ol{T e:TypeId}{B b:Nat}{bs:Q03}{w w':af}(h:Lib.IsBuilderF T e B b bs w)(hb:ag w w'):Lib.IsBuilderF T e B b bs w':=by
 have one:∀p,Lib.BuilderAtF T e B b p bs w->Lib.BuilderAtF T e B b p bs w':=by
  rintro p ⟨h1,v,h2,h3,h4⟩;have hlt:=Lib.BuilderAtF.lt ⟨h1,v,h2,h3,h4⟩;refine⟨h1,v,(hb.block b hlt).trans h2,⟨h3.1,?_⟩,h4⟩;rcases h3.2 with hn|⟨g,cap,cur,fz,rfl,hg1,hg2,hg3⟩
  ·exact .inl hn
  have hgl:g<w.heap.size:=by
   rcases Nat.lt_or_ge g w.heap.size with h'|h'
   ·exact h'
   simp[Array.getElem?_eq_none h']at hg2
  exact .inr ⟨g,cap,cur,fz,rfl,hg1,(hb.block g hgl).trans hg2,hg3⟩
 rcases h with h|h
 ·exact .inl (one _ h)
 exact .inr (one _ h)
theorem NU(a b:bi):Lib.byteCells a.data.toList++Lib.strCells b=Lib.byteCells (a++b).data.toList:=by
 rw[Lib.strCells_eq,<-Lib.byteCells_append];congr 1
theorem NV(a:bi):(Lib.byteCells a.data.toList).length=a.size:=by rw[Lib.byteCells_length,Array.length_toList];rfl
theorem qB(b:Nat)(o s:bi)(w:af)(h:BM b o w)(hl:o.size+s.size<=1000000)(hbw:b<=w.heap.size):
  Calls prog 105 #[.pointer (some ⟨b,0,none⟩),.string s] w fun e w'=>e=.returned (.tuple #[.int .i64 s.size,.nilIface])/\BM b (o++s) w'/\Below b w w'/\Lib.OthersKept 5 (some b) w w':=by
 refine(Any.Builder_WriteString_k Tryz.lays166j Tryz.Builder_Extra_156 b b _ s w h (by rw[NV];omega) hbw).mono ?_;rintro e w' ⟨rfl,h1,h2,h3⟩;rw[NU]at h1;exact⟨rfl,.inr h1,h2,h3⟩
theorem Io(b:Nat)(o:bi)(w:af)(h:BM b o w)(hbw:b<=w.heap.size):
  Calls prog 107 #[.pointer (some ⟨b,0,none⟩)] w fun e w'=>e=.returned (.string o)/\Below b w w':=by
 refine(Any.Builder_String_any_k Tryz.lays169 Tryz.Builder_Extra_169 b b o.data.toList w h hbw).mono ?_;rintro e w' ⟨rfl,-,h2,-⟩;exact⟨rfl,h2⟩
theorem Ip{b g:Nat}{cs:Array Value}{T:TypeId}{fz:Nat×Nat}{w w':af}(h:w.heap[g]?=some (.cells cs T fz))(hk:Lib.OthersKept 5 (some b) w w')(hg:g≠b)(hT:T≠5):w'.heap[g]?=some (.cells cs T fz) :=
 hk g _ h (fun e=>hg (Option.some.inj e)) (fun c f2 e=>hT (by injection e))
theorem NW{g:Nat}{o:Obj}{w w':af}(h:w.heap[g]?=some o)(hb:ag w w'):w'.heap[g]?=some o:=by
 have hgl:g<w.heap.size:=by
  rcases Nat.lt_or_ge g w.heap.size with h'|h'
  ·exact h'
  simp[Array.getElem?_eq_none h']at h
 exact(hb.block g hgl).trans h
def BG(w1:World)(g:Nat)(cs:Array Value)(o2 o3:ByteArray)(l:Array Bool)(w:World):Prop:=ag w1 w/\BM w1.heap.size (if l.getD 8 false=true then o3 else o2) w/\w.heap[g]?=some (.cells cs 39 (0,0))
theorem BG.next{w1:af}{g i:Nat}{cs:Array Value}{o2 o3:ByteArray}{l:Array Bool}{w w':af}(h:BG w1 g cs o2 o3 l w)(hi:8≠i)(hs:8<l.size)(hb:ag w w'):BG w1 g cs o2 o3 (l.setIfInBounds i true) w':=by
 refine⟨h.1.trans (hb.mono h.1.size),?_,NW h.2.2 hb⟩;have e:(l.setIfInBounds i true).getD 8 false=l.getD 8 false:=by simp[Array.getD,hs,Ne.symm hi]
 rw[e];exact ol h.2.1 hb
theorem BG.line{w1:af}{g:Nat}{cs:Array Value}{o2 o3:ByteArray}{l:Array Bool}{w:af}(h:BG w1 g cs o2 o3 l w)(hs:8<l.size)(hl:l.getD 8 true=false):BM w1.heap.size o2 w:=by
 have e:l.getD 8 false=false:=by simp[Array.getD,hs]at hl ⊢;exact hl
 have:=h.2.1;rw[e]at this;exact this
theorem BG.done{w1:af}{g:Nat}{cs:Array Value}{o2 o3:ByteArray}{l:Array Bool}{w w':af}(h:BG w1 g cs o2 o3 l w)(hs:8<l.size)(hb:Below w1.heap.size w w')(hk:Lib.OthersKept 5 (some w1.heap.size) w w')(hg:g≠w1.heap.size)(hB:BM w1.heap.size o3 w'):BG w1 g cs o2 o3 (l.setIfInBounds 8 true) w':=by
 refine⟨h.1.trans hb,?_,Ip h.2.2 hk hg (by decide)⟩;have e:(l.setIfInBounds 8 true).getD 8 false=true:=by simp[Array.getD,hs]
 rw[e,if_pos rfl];exact hB
set_option maxRecDepth 100000 in
theorem uR(ad:Q02)(cap:Nat)(rs:Q06)(w:af)(hlen:rs.length<=1048576)(hs:jK w ad rs)(hl:∀r∈rs,r.light)(hf:∀r∈rs,r.fits)(hcp:∀r∈rs,r.caps):
  Calls prog 38 #[.slice ad rs.length cap] w fun e w'=>e=.returned (.string (iL (ae rs)))/\ag w w':=by
 have HS:=az hs;have HL:=az hl;have WT:=az hf;have HCP:=az hcp;clear hs hl hf hcp;go_enter func38,ntmps38;go_wp2_with fail;refine(cZ ad cap rs _ hlen HS.out HL.out WT.out HCP.out).mono ?_;rintro e w1 ⟨rfl,hb1⟩;have HB1:=az hb1;clear hb1;cases hd:aD (ae rs);case false=>
  have HN:Hid (iL (ae rs)=⟨#[]⟩):=by show _=_;unfold iL;rw[hd];rfl
  go_wp2;go_ret;exact⟨by rw[HN.out];rfl,HB1.out⟩
 have HN:Hid (iL (ae rs)=bz (ae rs)):=by show _=_;unfold iL;rw[hd];rfl
 have hm:=Small.of (aG.1 hd);have HM:=az hm;have h6:=hm.six;clear hd hm;obtain⟨W1,hW1⟩:=eQx (w1.alloc (.cells #[.pointer none,.slice none 0 0] 161));have HA1:=qC hW1
 have YO:Hid (BM w1.heap.size ⟨#[]⟩ W1) :=
  .inl ⟨Vu _,.slice none 0 0,by rw[hW1];exact(Go.MapKept.heap_alloc w1 _).1,⟨by simp[Lib.byteCells],.inl ⟨rfl,by simp[Lib.byteCells]⟩⟩,by simp[Value.ownBlock]⟩
 go_wp2_with fail;go_wp2;rw[<-hW1];clear hW1;go_loopw[13] (fun i wr=>∃(k:Nat) (out:ByteArray),k<=rs.length/\i=.int .i64 k/\Hid (out=bz (ae (rs.take k)))/\out.size<=k*23000/\Hid (ag w1 wr)/\Hid (BM w1.heap.size out wr)) (fun i _=>rs.length-(intOf i).toNat);case atStart=>exact⟨0,⟨#[]⟩,Vy _,rfl,rfl,Vy _,HA1,YO⟩
 clear YO HA1;obtain⟨k,out,hk,rfl,HP,hz,HB,YO⟩:=hrel;have WS:Hid (ag w wr):=HB1.out.trans (HB.out.mono HB1.out.size);by_cases hlt:k<rs.length
 ·rcases HS.out.below WS.out with hnil|⟨b,off,WR,hb,hr,hok⟩
  ·rw[hnil]at hlt;simp at hlt
  obtain⟨t0,t1⟩:=hr k hlt;have Xc:Hid (rs[k].ok wr):=hok rs[k] (Vs hlt);have hn12:=HM.out.name rs[k] (Vs hlt);have XA:=HM.out.rels rs[k] (Vs hlt);have HN12:Hid (∀q∈rs[k].rows,q.name.size<=12):=HM.out.names rs[k] (Vs hlt);have YT:Hid (rs[k].light):=HL.out _ (Vs hlt);have YB:Hid (rs[k].fits):=WT.out _ (Vs hlt);have HCE:Hid (rs[k].caps):=HCP.out _ (Vs hlt);have hk1:=bI k;have hk2:(k:Int)<(rs.length:Int):=by omega
  have hrl:(rs[k].rows.length:Int)<=6:=by omega
  obtain⟨W2,hW2⟩:=eQx (wr.alloc (.cells #[.string rs[k].name,.slice rs[k].ad rs[k].rows.length rs[k].cap] 36));have hal:ag wr W2:=by rw[hW2];exact(Vv _ _).alloc (Vu _) _
  have Xd:=az hal;have g0:W2.cell? ⟨wr.heap.size,0,none⟩=some (.string rs[k].name):=by rw[hW2];simp
  have g1:W2.cell? ⟨wr.heap.size,1,none⟩=some (.slice rs[k].ad rs[k].rows.length rs[k].cap):=by rw[hW2];simp
  have HW2:Hid (W2.heap[wr.heap.size]?=some (.cells #[.string rs[k].name,.slice rs[k].ad rs[k].rows.length rs[k].cap] 36 (0,0))):=by show _=_;rw[hW2];exact(Go.MapKept.heap_alloc wr _).1
  clear hr hok hal;rw[WR];go_wp2_with fail;rw[<-hW2];clear hW2;have HBD2:Hid (BM w1.heap.size out W2):=ol YO.out Xd.out;have hgw:w1.heap.size<=W2.heap.size:=Vz HB.out.size Xd.out.size;have HGT:Hid (w1.heap.size<wr.heap.size):=by
   rcases YO.out with h|h
   ·exact h.lt
   exact h.lt
  refine (qB w1.heap.size out _ _ HBD2.out (by
   have:=kX rs[k].name;unfold gM at this;rw[this];omega) hgw).mono ?_
  rintro e w3 ⟨rfl,hbd3,hb3,hk3⟩;have HBD3:=az hbd3;have HB3:Hid (ag w1 w3):=(HB.out.trans (Xd.out.mono HB.out.size)).trans hb3;have hx:=Ip HW2.out hk3 (Nat.ne_of_gt HGT.out) (by decide);replace g0:w3.cell? ⟨wr.heap.size,0,none⟩=some (.string rs[k].name):=by rw[Lib.cell_of_heap hx];rfl
  replace g1:w3.cell? ⟨wr.heap.size,1,none⟩=some (.slice rs[k].ad rs[k].rows.length rs[k].cap):=by rw[Lib.cell_of_heap hx];rfl
  have HOK3:Hid (rs[k].ok w3):=(HS.out.below (HB1.out.trans (HB3.out.mono HB1.out.size))).mem (Vs hlt);clear hbd3 hb3 hk3 hx HW2 HBD2 YO Xd hgw t0 t1 Xc;obtain⟨wo,rfl⟩:∃x,x=wr:=⟨_,rfl⟩;go_wp2;go_loopw[25] (fun i wr=>∃(j:Nat) (o2:ByteArray),j<=rs[k].rows.length/\i=.int .i64 j/\Hid (o2=(out++gM rs[k].name)++cu (bQ (rs[k].rows.take j)))/\o2.size<=k*23000+18+j*3770/\Hid (ag w1 wr)/\Hid (BM w1.heap.size o2 wr)) (fun i _=>rs[k].rows.length-(intOf i).toNat);case atStart=>exact⟨0,out++gM rs[k].name,Vy _,rfl,by show _=_;rw[List.take_zero,show bQ []=[] from rfl];simp only[cu,qi],by rw[VK,kX];omega,HB3,HBD3⟩
  clear HB3 HBD3 HOK3 g0 g1;obtain⟨j,o2,hj,rfl,HI,hz2,HB3,HBD3⟩:=hrel;have Y7:Hid (ag w wr):=HB1.out.trans (HB3.out.mono HB1.out.size);by_cases hjl:j<rs[k].rows.length
  ·have hok3:rs[k].ok wr:=(HS.out.below Y7.out).mem (Vs hlt);rcases hok3 with hnil|⟨b2,WV,had,hb2,hr2,hok2⟩
   ·rw[hnil]at hjl;simp at hjl
   obtain⟨u0,u1⟩:=hr2 j hjl;have hj1:=bI j;have hj2:(j:Int)<(rs[k].rows.length:Int):=by omega
   have hq12:=HN12.out _ (Vs hjl);have HQL:Hid (rs[k].rows[j].light):=YT.out.2 _ (Vs hjl);have HQF:Hid (rs[k].rows[j].fits):=YB.out.2.2 _ (Vs hjl);have HQC:Hid (rs[k].rows[j].caps):=HCE.out.2 _ (Vs hjl);obtain⟨ex,hex⟩:=eQx (dK (ai rs[k].rows[j].rows));have HEX:Hid (ex=dK (ai rs[k].rows[j].rows)):=hex;have hxs:ex.size<=3750:=by rw[hex];exact qh _
   have q2:(9223372036854775807<rs[k].rows[j].name.size+3)=False:=by simp;omega
   have q3:(9223372036854775807<rs[k].rows[j].name.size+3+ex.size)=False:=by simp;omega
   have q4:(9223372036854775807<rs[k].rows[j].name.size+3+ex.size+1)=False:=by simp;omega
   have hls:((((rs[k].rows[j].name)++⟨#[32,61,32]⟩)++ex)++⟨#[10]⟩:ByteArray).size<=3770:=by
    have e1:(⟨#[32,61,32]⟩:ByteArray).size=3:=rfl;have e2:(⟨#[10]⟩:ByteArray).size=1:=rfl;simp only[VK];omega
   have HLS:Hid (((((rs[k].rows[j].name)++⟨#[32,61,32]⟩)++ex)++⟨#[10]⟩:ByteArray).size<=3770):=hls;have HI2:Hid (o2++((((rs[k].rows[j].name)++⟨#[32,61,32]⟩)++ex)++⟨#[10]⟩)=(out++gM rs[k].name)++cu (bQ (rs[k].rows.take (j+1)))):=by
    show _=_;rw[x8 _ _ hjl,kV,HI.out,hex];simp only[V5,BD]
   have HZ3:Hid ((o2++((((rs[k].rows[j].name)++⟨#[32,61,32]⟩)++ex)++⟨#[10]⟩)).size<=k*23000+18+(j+1)*3770):=by
    show _<=_;rw[VK];omega
   have HGT3:Hid (w1.heap.size<wr.heap.size):=by
    rcases HBD3.out with h|h
    ·exact h.lt
    exact h.lt
   obtain⟨W5,YG⟩:=eQx (wr.alloc (.cells #[.string rs[k].rows[j].name,.slice rs[k].rows[j].ad rs[k].rows[j].rows.length rs[k].rows[j].cap] 39));have hal5:ag wr W5:=by rw[YG];exact(Vv _ _).alloc (Vu _) _
   have HG0:Hid (BG w1 wr.heap.size #[.string rs[k].rows[j].name,.slice rs[k].rows[j].ad rs[k].rows[j].rows.length rs[k].rows[j].cap] o2 (o2++((((rs[k].rows[j].name)++⟨#[32,61,32]⟩)++ex)++⟨#[10]⟩)) (Array.replicate 9 false) W5.drew):=by
    have hd:ag wr W5.drew:=hal5.drew;refine⟨HB3.out.trans (hd.mono HB3.out.size),?_,?_⟩
    ·exact ol HBD3.out hd
    show W5.heap[wr.heap.size]?=_;rw[YG];exact(Go.MapKept.heap_alloc wr _).1
   clear hr2 hok2 hex hls hal5;rw[had];go_wp2_with fail;rw[<-YG];clear YG;refine Am 9 (fun n=>(u29::u30::u31::u32::u33::u34::u35::u36::u37::[]).getD n undef) (fun fq=>{ tmps:=List.toArray (Value.slice (some ⟨b,off,none⟩) rs.length cap::undef::.string { data:=#[] }::.pointer (some ⟨w1.heap.size,0,none⟩)::undef::.pointer (some ⟨wo.heap.size,0,none⟩)::undef::.pointer (some ⟨wr.heap.size,0,none⟩)::.slice (some ⟨b,off,none⟩) rs.length cap::.bool true::.bool false::.slice (some ⟨b,off,none⟩) rs.length cap::.int .i64 rs.length::.int .i64 k::.bool true::.pointer (some ⟨b,off+k*2,none⟩)::.agg #[.string rs[k].name,.slice (some ⟨b2,WV,none⟩) rs[k].rows.length rs[k].cap]::.pointer (some ⟨wo.heap.size,0,none⟩)::.string rs[k].name::.string ({ data:=#[116,121,112,101,32] }++rs[k].name)::.string ({ data:=#[116,121,112,101,32] }++rs[k].name++{ data:=#[10] })::.tuple #[.int .i64 (5+(rs[k].name.size:Int)+1),Value.nilIface]::.pointer (some ⟨wo.heap.size,1,none⟩)::.slice (some ⟨b2,WV,none⟩) rs[k].rows.length rs[k].cap::.int .i64 rs[k].rows.length::.int .i64 j::.bool true::.pointer (some ⟨b2,WV+j*2,none⟩)::.agg #[.string rs[k].rows[j].name,.slice rs[k].rows[j].ad rs[k].rows[j].rows.length rs[k].rows[j].cap]::fq 0::fq 1::fq 2::fq 3::fq 4::fq 5::fq 6::fq 7::fq 8::u38::u39::undef::[]),defers:=[] }) (fun n v _=>v=(Value.pointer (some ⟨wr.heap.size,0,none⟩)::.string rs[k].rows[j].name::.string (rs[k].rows[j].name++⟨#[32,61,32]⟩)::.pointer (some ⟨wr.heap.size,1,none⟩)::.slice rs[k].rows[j].ad rs[k].rows[j].rows.length rs[k].rows[j].cap::.string ex::.string ((rs[k].rows[j].name++⟨#[32,61,32]⟩)++ex)::.string (((rs[k].rows[j].name++⟨#[32,61,32]⟩)++ex)++⟨#[10]⟩)::.tuple #[.int .i64 ((rs[k].rows[j].name.size:Int)+3+(ex.size:Int)+1),Value.nilIface]::[]).getD n undef) (fun listed w'=>BG w1 wr.heap.size #[.string rs[k].rows[j].name,.slice rs[k].rows[j].ad rs[k].rows[j].rows.length rs[k].rows[j].cap] o2 (o2++(((rs[k].rows[j].name++⟨#[32,61,32]⟩)++ex)++⟨#[10]⟩)) listed w') (by kernel_rfl) rfl (by kernel_rfl) rfl HG0.out ?stepI ?finI;case stepI =>
    rintro i hi o ho listed fq w' hsz Xb hG hpre;have HG:Hid (BG w1 wr.heap.size #[.string rs[k].rows[j].name,.slice rs[k].rows[j].ad rs[k].rows[j].rows.length rs[k].rows[j].cap] o2 (o2++(((rs[k].rows[j].name++⟨#[32,61,32]⟩)++ex)++⟨#[10]⟩)) listed w'):=hG;have ZM:Hid (listed.getD i true=false):=Xb;have g0:w'.cell? ⟨wr.heap.size,0,none⟩=some (.string rs[k].rows[j].name):=by rw[Lib.cell_of_heap hG.2.2];rfl
    have g1:w'.cell? ⟨wr.heap.size,1,none⟩=some (.slice rs[k].rows[j].ad rs[k].rows[j].rows.length rs[k].rows[j].cap):=by rw[Lib.cell_of_heap hG.2.2];rfl
    have HM:Hid (∀e∈o.after,Region.binds .any e=true->_):=hpre;clear hG hpre Xb;have hc:=UI (i:=i) (by omega);clear hi
    repeat' rcases hc with rfl|hc
    ·cases ho;refine aa rfl fun K HK=>?_;clear HM;dsimp only;go_simp;exact HK.out _ _ ⟨Value.pointer (some ⟨wr.heap.size,0,none⟩),by simp[upd],HG.out.next (by decide) (by omega) (Vv _ _),rfl,fun k u hu=>hu⟩
    ·cases ho;have e0:fq 0=.pointer (some ⟨wr.heap.size,0,none⟩):=HM.out ⟨0,.data⟩ (by simp) rfl;refine aa rfl fun K HK=>?_;clear HM;simp only[e0];go_simp;exact HK.out _ _ ⟨Value.string rs[k].rows[j].name,by simp[upd,e0],HG.out.next (by decide) (by omega) (Vv _ _),rfl,fun k u hu=>hu⟩
    ·cases ho;have e1:fq 1=.string rs[k].rows[j].name:=HM.out ⟨1,.data⟩ (by simp) rfl;refine aa rfl fun K HK=>?_;clear HM;simp only[e1];go_simp;exact HK.out _ _ ⟨Value.string (rs[k].rows[j].name++⟨#[32,61,32]⟩),by simp[upd,e1],HG.out.next (by decide) (by omega) (Vv _ _),rfl,fun k u hu=>hu⟩
    ·cases ho;refine aa rfl fun K HK=>?_;clear HM;dsimp only;go_simp;exact HK.out _ _ ⟨Value.pointer (some ⟨wr.heap.size,1,none⟩),by simp[upd],HG.out.next (by decide) (by omega) (Vv _ _),rfl,fun k u hu=>hu⟩
    ·cases ho;have e3:fq 3=.pointer (some ⟨wr.heap.size,1,none⟩):=HM.out ⟨3,.data⟩ (by simp) rfl;refine aa rfl fun K HK=>?_;clear HM;simp only[e3];go_simp;exact HK.out _ _ ⟨Value.slice rs[k].rows[j].ad rs[k].rows[j].rows.length rs[k].rows[j].cap,by simp[upd,e3],HG.out.next (by decide) (by omega) (Vv _ _),rfl,fun k u hu=>hu⟩
    ·cases ho;have e4:fq 4=.slice rs[k].rows[j].ad rs[k].rows[j].rows.length rs[k].rows[j].cap:=HM.out ⟨4,.data⟩ (by simp) rfl;refine aa rfl fun K HK=>?_;clear HM;simp only[e4];go_simp;refine(yg _ _ rs[k].rows[j].rows _ HQL.out.1 HQL.out.2 HQF.out.2.2 HQC.out.2 (F5.mem (jK.mem (HS.out.below (HB1.out.trans (HG.out.1.mono HB1.out.size))) (Vs hlt)) (Vs hjl))).mono ?_;rintro e w5 ⟨rfl,hb5⟩;have Yv:Hid (BG w1 wr.heap.size #[.string rs[k].rows[j].name,.slice rs[k].rows[j].ad rs[k].rows[j].rows.length rs[k].rows[j].cap] o2 (o2++(((rs[k].rows[j].name++⟨#[32,61,32]⟩)++ex)++⟨#[10]⟩)) (listed.setIfInBounds 5 true) w5):=HG.out.next (i:=5) (by decide) (by omega) hb5;rw[<-HEX.out];clear hb5;go_wp2_with fail;exact HK.out _ _ ⟨Value.string ex,by simp[upd,e4],Yv.out,rfl,fun k u hu=>hu⟩
    ·cases ho;have e2:fq 2=.string (rs[k].rows[j].name++⟨#[32,61,32]⟩):=HM.out ⟨2,.data⟩ (by simp) rfl;have e5:fq 5=.string ex:=HM.out ⟨5,.data⟩ (by simp) rfl;refine aa rfl fun K HK=>?_;clear HM;simp only[e2,e5];go_simp;exact HK.out _ _ ⟨Value.string ((rs[k].rows[j].name++⟨#[32,61,32]⟩)++ex),by simp[upd,e2,e5],HG.out.next (by decide) (by omega) (Vv _ _),rfl,fun k u hu=>hu⟩
    ·cases ho;have e6:fq 6=.string ((rs[k].rows[j].name++⟨#[32,61,32]⟩)++ex):=HM.out ⟨6,.data⟩ (by simp) rfl;refine aa rfl fun K HK=>?_;clear HM;simp only[e6];go_simp;exact HK.out _ _ ⟨Value.string (((rs[k].rows[j].name++⟨#[32,61,32]⟩)++ex)++⟨#[10]⟩),by simp[upd,e6],HG.out.next (by decide) (by omega) (Vv _ _),rfl,fun k u hu=>hu⟩
    cases ho;have e7:fq 7=.string (((rs[k].rows[j].name++⟨#[32,61,32]⟩)++ex)++⟨#[10]⟩):=HM.out ⟨7,.data⟩ (by simp) rfl;refine aa rfl fun K HK=>?_;clear HM;simp only[e7];go_simp;refine(qB w1.heap.size o2 _ _ (HG.out.line (by omega) ZM.out) (by have:=HLS.out;omega) HG.out.1.size).mono ?_;rintro e w5 ⟨rfl,hbd5,hb5,hk5⟩;have Yv:Hid (BG w1 wr.heap.size #[.string rs[k].rows[j].name,.slice rs[k].rows[j].ad rs[k].rows[j].rows.length rs[k].rows[j].cap] o2 (o2++(((rs[k].rows[j].name++⟨#[32,61,32]⟩)++ex)++⟨#[10]⟩)) (listed.setIfInBounds 8 true) w5):=HG.out.done (by omega) hb5 hk5 (Nat.ne_of_gt HGT3.out) hbd5;clear hbd5 hb5 hk5;go_wp2_with fail;exact HK.out _ _ ⟨Value.tuple #[.int .i64 ((rs[k].rows[j].name.size:Int)+3+(ex.size:Int)+1),Value.nilIface],by simp[upd,e7],Yv.out,rfl,fun k u hu=>hu⟩
   case finI =>
    rintro listed fq w' hll hG hall;have e8:=hll 8 (by omega);have HBD4:Hid (BM w1.heap.size (o2++(((rs[k].rows[j].name++⟨#[32,61,32]⟩)++ex)++⟨#[10]⟩)) w'):=by have:=hG.2.1;rw[e8,if_pos rfl]at this;exact this
    have XJ:Hid (ag w1 w'):=hG.1;clear hG hall hll e8;go_wp2;go_roundw;case rel=>exact⟨j+1,_,by omega,by go_num,HI2,HZ3.out,XJ,HBD4⟩
    simp[intOf]<;>omega
  obtain rfl:j=rs[k].rows.length:=by omega
  have WQ:Hid (o2=bz (ae (rs.take (k+1)))):=by
   show _=_;rw[HI.out,x9 _ _ hlt,jv,HP.out,VI,V5]
  have hz4:o2.size<=(k+1)*23000:=by omega
  go_wp2;go_roundw;case rel=>exact⟨k+1,o2,by omega,by go_num,WQ,hz4,HB3,HBD3⟩
  simp[intOf]<;>omega
 obtain rfl:k=rs.length:=by omega
 have HN2:Hid (out=bz (ae rs)):=by show _=_;rw[HP.out,VI]
 go_wp2_with fail;refine(Io w1.heap.size out _ YO.out HB.out.size).mono ?_;rintro e w3 ⟨rfl,hb3⟩;have HB3:Hid (ag w w3):=WS.out.trans (hb3.mono HB1.out.size);clear hb3;go_wp2;go_ret;exact⟨by rw[HN.out,<-HN2.out];rfl,HB3.out⟩
open Maps
set_option linter.unusedVariables false
set_option maxRecDepth 100000
def QM(x y:Fc):Bool:=gJ x.a x.b x.r x.c x.d ⟨#[]⟩ y.a y.b y.r y.c y.d ⟨#[]⟩
end Go.Proofs.YtojjoblnpldniaaGreat
