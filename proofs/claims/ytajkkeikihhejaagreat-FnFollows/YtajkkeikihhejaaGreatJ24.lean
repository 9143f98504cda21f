/- A schema's text, in plain words, and how long it can be. -/
import Derived.Test.YtajkkeikihhejaaGreatSq
import Derived.Test.YtajkkeikihhejaaGreatJ23
import Derived.Test.YtajkkeikihhejaaGreatJ11
open Go.Proofs.Tryz
set_option maxHeartbeats 80000000
namespace Go.Proofs.YtajkkeikihhejaaGreat
open Pl
def sm:List Nat->Nat
 | []=>0
 | x::xs=>x+sm xs
theorem DX:∀xs ys:List Nat,sm (xs++ys)=sm xs+sm ys
 | [],ys=>by simp[sm]
 | x::xs,ys=>by rw[VC];simp only[sm];rw[DX xs ys];omega
theorem MZ(sep:bQ)(xs:List ByteArray):(fF sep xs).size<=sm (xs.map fun x=>x.size+sep.size):=by
 suffices h:∀ys:List ByteArray,(fF sep ys.reverse).size<=sm (ys.reverse.map fun x=>x.size+sep.size) by
  have:=h xs.reverse;rwa [List.reverse_reverse]at this
 intro ys
 induction ys with
 | nil=>exact UU _
 | cons y ys ih =>
  rw[List.reverse_cons,oG,VG,DX];simp only[VX,List.map_nil,sm];split
  ·omega
  simp only[Ve];omega
def lh(f:Int->Int):List Int->Int
 | []=>0
 | k::ks=>(k-f k+1)+lh f ks
theorem wD(f:Int->Int):∀xs ys:List Int,lh f (xs++ys)=lh f xs+lh f ys
 | [],ys=>by simp[lh]
 | x::xs,ys=>by rw[VC];simp only[lh];rw[wD f xs ys];omega
theorem sV(f:Int->Int):∀xs:List Int,lh f xs.reverse=lh f xs
 | []=>rfl
 | x::xs=>by rw[List.reverse_cons,wD,sV f xs];simp only[lh];omega
theorem yC{f:Int->Int}:∀(ks:List Int) (a:Int),0<=dA f ks a->lh f ks=a+1-dA f ks a
 | [],a,_=>by simp[lh,dA]
 | k::ks,a,h=>by
  unfold dA at h⊢;split at h
  ·omega
  rename_i h1;rw[if_neg h1];split at h
  ·omega
  rename_i h2;rw[if_neg h2];have hk:k=a:=Decidable.byContradiction fun e=>h1 (.inr e);subst hk;simp only[lh];rw[yC ks _ h];omega
theorem RF{es:Q09}(hes:Sr es)(ht:∀j,j<es.length->0<=ay es j)(n:Nat):n<es.length->∀i,((ja es n i).size:Int)<=250*((n:Int)-ay es n+1):=by
 induction n using Nat.strongRecOn with
 | ind n ih =>
  intro hn i;have hle:=fV es n;have h1:=FZ (Eo es n) i (lY (jF es n) (Eo es n));unfold ja
  suffices h:((lY (jF es n) (Eo es n)).size:Int)<=250*((n:Int)-ay es n+1)-10 by omega
  have V4:=hes.2.1 n hn;obtain⟨hk5,-⟩:=qo V4;rw[Es hn];unfold lY;unfold ax at V4;split
  ·rename_i k;rw[if_pos k]at V4;simp only[UW]at V4;have:=kv V4.1.1.1;omega
  rename_i k1;rw[if_neg k1]at V4;split
  ·rename_i k2;rw[if_pos k2]at V4;simp only[UW]at V4;have:=bZ V4.1.1.1;omega
  rename_i k2;rw[if_neg k2]at V4;split
  ·rename_i k3;rw[if_pos k3]at V4;simp only[UW]at V4;have h1:=bZ V4.1.1.1;have h2:=bZ V4.1.1.2;have e1:(⟨#[45,62]⟩:ByteArray).size=2:=rfl;simp only[Ve];omega
  have hj:=MZ (gQ es[n].kind) (es[n].kids.map (jF es n));rw[lX,List.map_map]at hj;have hspan:lh (dC es n) es[n].kids=(n:Int)-ay es n:=by
   have h0:=ht n hn;rw[jk]at h0;have h2:=yC _ _ h0;rw[sV,<-jk]at h2;have e:dm es n=es[n].kids:=by simp[dm,hn]
   rw[e]at h2;omega
  have hsum:∀ks:List Int,(∀k∈ks,0<=k/\k.toNat<n)->(sm (ks.map ((fun x:ByteArray=>x.size+3) ∘ jF es n)):Int)<=250*lh (dC es n) ks+3*(ks.length:Int):=by
   intro ks
   induction ks with
   | nil=>intro _;simp[sm,lh]
   | cons k ks ih2 =>
    intro hks;obtain⟨hk0,hk1⟩:=hks k (VD ..);have h3:=ih2 fun x hx=>hks x (Vv _ hx);have h4:=ih k.toNat hk1 (by omega) true;have e1:jF es n k=ja es k.toNat true:=by unfold jF;rw[if_pos hk1,Ep]
    have e2:dC es n k=ay es k.toNat:=by unfold dC;rw[if_pos ⟨hk0,hk1⟩]
    have e3:((k.toNat:Nat):Int)=k:=by omega
    simp only[VX,sm,lh,Function.comp_apply,Vq];rw[e1,e2];rw[e3]at h4;omega
  have h5:=hsum es[n].kids (uO hes hn);rw[hspan]at h5;have:(es[n].kids.length:Int)<=5:=by omega
  omega
theorem PU{es:Q09}(h:aL es=true):∀j,j<es.length->0<=ay es j:=by
 rw[rC]at h;unfold kD at h;simp only[UW,U3]at h;have h1:=h.2.1;unfold iZ at h1;rw[U5]at h1;intro j hj;simpa using h1 j (by simpa using hj)
theorem Fp(es:Q09):(ic es).size<=3750:=by
 by_cases h:aL es=true
 ·have ht:=PU h;have hf:=nW h;have h1:=RF (NY h) ht (es.length-1) (by omega) false;have h2:=ht (es.length-1) (by omega);rw[Bp h];omega
 rw[DT (by simpa using h)];show 0<=3750;omega
def G9(r:Rl):ByteArray:=((r.name++⟨#[32,61,32]⟩)++ic r.expr)++⟨#[10]⟩
def dR:List Rl->ByteArray
 | []=>⟨#[]⟩
 | r::rs=>G9 r++dR rs
def mF(n:ByteArray):ByteArray:=(⟨#[116,121,112,101,32]⟩++n)++⟨#[10]⟩
def dB:List Ty->ByteArray
 | []=>⟨#[]⟩
 | t::ts=>(mF t.name++dR t.rels)++dB ts
theorem wE(a:bQ):a++(⟨#[]⟩:ByteArray)=a:=by apply jl;simp[ByteArray.data_append]
theorem qW:∀(xs:List Rl) (r:Rl),dR (xs++[r])=dR xs++G9 r
 | [],r=>by simp only[VU,dR,wE,rY]
 | x::xs,r=>by rw[VC];simp only[dR];rw[qW xs r,<-VF]
theorem mG:∀(xs:Q0b) (t:Ty),dB (xs++[t])=dB xs++(mF t.name++dR t.rels)
 | [],t=>by simp only[VU,dB,wE,rY]
 | x::xs,t=>by rw[VC];simp only[dB];rw[mG xs t,<-VF]
theorem M0(rs:Q07)(k:Nat)(h:k<rs.length):eZ (rs.take (k+1))=eZ (rs.take k)++[⟨rs[k].name,ak rs[k].rows⟩]:=by
 rw[UX h];unfold eZ;rw[VG];rfl
theorem M4(rs:Q06)(k:Nat)(h:k<rs.length):ag (rs.take (k+1))=ag (rs.take k)++[⟨rs[k].name,eZ rs[k].rows⟩]:=by
 rw[UX h];unfold ag;rw[VG];rfl
theorem yD(n:bQ):(mF n).size=n.size+6:=by
 have e1:(⟨#[116,121,112,101,32]⟩:ByteArray).size=5:=rfl;have e2:(⟨#[10]⟩:ByteArray).size=1:=rfl;unfold mF;simp only[Ve];omega
def PV:ByteArray:=⟨#[116,121,112,101,32]⟩
def UA:ByteArray:=⟨#[61,32]⟩
def UB:ByteArray:=⟨#[10]⟩
def Bz(l:ByteArray):Bool:=decide (5<l.size)&&(l.extract 0 5).toList==PV.toList
def yE(t:ByteArray):Bool:=decide (2<=t.size)&&(t.extract 0 2).toList==UA.toList
def DY(l:ByteArray):ByteArray:=(iV 32 l).extract 2 (iV 32 l).size
def Fq(acc:Q0b)(r:Rl):List Ty:=match acc.getLast? with
 | none=>[]
 | some t=>acc.dropLast++[⟨t.name,t.rels++[r]⟩]
theorem qX(xs:Q0b)(t:Ty)(r:Rl):Fq (xs++[t]) r=xs++[⟨t.name,t.rels++[r]⟩]:=by
 unfold Fq;simp
def ny(acc:Q0b)(l:ByteArray):Option (List Ty) :=
 if Bz l then some (acc++[⟨l.extract 5 l.size,[]⟩])
 else if !acc.isEmpty&&yE (iV 32 l)&&mE (DY l) then some (Fq acc ⟨kG 32 l,(kL (DY l)).out⟩) else none
def dS:Nat->ByteArray->List Ty->Option (List Ty)
 | 0,_,acc=>some acc
 | n+1,rest,acc =>
  if rest.toList.isEmpty then some acc
  else if oJ 10 rest then
   match ny acc (kG 10 rest) with
   | none=>none
   | some a=>dS n (iV 10 rest) a
  else none
theorem mH(b:bQ):b.toList=b.data.toList:=Go.ByteArray.toList_eq b
theorem M5(c:UInt8)(l:List UInt8)(h:(jb c l).2.2=true):l=(jb c l).1++c::(jb c l).2.1:=by
 induction l with
 | nil=>simp[jb]at h
 | cons b l ih =>
  unfold jb at h⊢;split
  ·rename_i e;simp[e]
  rename_i e;rw[if_neg e]at h;simp only[VC,List.cons.injEq,true_and];exact ih h
theorem BA{c:UInt8}{s:ByteArray}(h:oJ c s=true):s=(kG c s++⟨#[c]⟩)++iV c s:=by
 apply jl;have:=M5 c s.data.toList h;simpa[kG,iV,ByteArray.data_append] using this
theorem Ha{c:UInt8}{s:ByteArray}(h:oJ c s=true):(iV c s).size<s.size:=by
 have:=congrArg ByteArray.size (BA h);have e1:(⟨#[c]⟩:ByteArray).size=1:=rfl;simp only[Ve,e1]at this;omega
theorem Hd(l:bQ)(k:Nat)(hk:k<=l.size):l=l.extract 0 k++l.extract k l.size:=by
 apply jl;rw[VO,ByteArray.data_extract,ByteArray.data_extract];have hk':k<=l.data.size:=hk;have h2:l.size=l.data.size:=rfl;rw[h2];simp;rw[show max k l.size=l.data.toList.length by simp[Nat.max_def];omega,Va]
theorem toList_inj{a b:ByteArray}(h:a.toList=b.toList):a=b:=by
 rw[mH,mH]at h;exact jl h
theorem PW{l:ByteArray}(h:Bz l=true):l=PV++l.extract 5 l.size:=by
 unfold Bz at h;simp only[UW,U3,beq_iff_eq]at h;have e:=toList_inj h.2
 conv=>lhs;rw[Hd l 5 (by omega),e]
theorem PX{l:ByteArray}(h:yE (iV 32 l)=true):l=((kG 32 l++⟨#[32,61,32]⟩)++DY l):=by
 unfold yE at h;simp only[UW,U3,beq_iff_eq]at h;have hf:oJ 32 l=true:=by
  cases e:oJ 32 l;case true=>rfl
  rw[Oc e]at h;exact absurd h.1 (by decide)
 have e:=toList_inj h.2;have e2:iV 32 l=UA++DY l:=by
  conv=>lhs;rw[Hd (iV 32 l) 2 h.1,e]
  rfl
 have e3:(⟨#[32,61,32]⟩:ByteArray)=⟨#[32]⟩++UA:=by apply jl;simp[ByteArray.data_append,UA]
 conv=>lhs;rw[BA hf,e2]
 rw[e3];simp only[VF]
theorem BB{s:ByteArray}(h:mE s=true):ic (kL s).out=s/\s.size<=1000/\aL (kL s).out=true:=by
 unfold mE at h;simp only[UW,U3,beq_iff_eq]at h;exact⟨toList_inj h.2,h.1.1.1.1,h.1.2⟩
theorem M7{acc acc':Q0b}{l:ByteArray}(h:ny acc l=some acc'):dB acc'=dB acc++(l++UB):=by
 unfold ny at h;split at h
 ·rename_i ht;injection h with h;subst h;rw[mG]
  conv=>rhs;rw[PW ht]
  simp only[mF,dR,wE];rfl
 split at h
 ·rename_i h2;injection h with h;subst h;simp only[UW,Bool.not_eq_true']at h2;obtain⟨⟨h3,h4⟩,h5⟩:=h2;have hne:acc≠[]:=fun e=>by rw[e]at h3;simp at h3
  have e1:=List.dropLast_concat_getLast hne;rw[<-e1,qX,mG,mG,qW]
  conv=>rhs;rw[PX h4]
  have e2:=(BB h5).1;simp only[G9,e2,VF];rfl
 cases h
def SN(T:Q0b):Prop:=∀t∈T,∀r∈t.rels,r.expr.length<=15/\∀e∈r.expr,e.light/\e.fits
theorem RG{acc acc':Q0b}{l:ByteArray}(h:ny acc l=some acc')(hk:SN acc):SN acc':=by
 unfold ny at h;split at h
 ·injection h with h;subst h;intro t ht r hr;rcases U6.1 ht with ht|ht
  ·exact hk t ht r hr
  rw[U4]at ht;subst ht;cases hr
 split at h
 ·rename_i h2;injection h with h;subst h;simp only[UW,Bool.not_eq_true']at h2;obtain⟨⟨h3,h4⟩,h5⟩:=h2;have hne:acc≠[]:=fun e=>by rw[e]at h3;simp at h3
  have e1:=List.dropLast_concat_getLast hne;obtain⟨-,hs,hsp⟩:=BB h5;intro t ht r hr;rw[<-e1,qX]at ht;rcases U6.1 ht with ht|ht
  ·exact hk t (by rw[<-e1];exact VJ _ ht) r hr
  rw[U4]at ht;subst ht;rcases U6.1 hr with hr|hr
  ·exact hk (acc.getLast hne) (List.getLast_mem hne) r hr
  rw[U4]at hr;subst hr;refine⟨(nW hsp).2,fun e he=>?_⟩;exact(PS (s:=DY l) _ true ⟨0,false,[]⟩ (UY _) (fun e he=>by cases he) e he).light hs
 cases h
theorem yF:∀(rs:List Rl),rs.length*4<=(dR rs).size/\∀r∈rs,r.name.size+4<=(dR rs).size
 | []=>⟨by simp,fun r hr=>by cases hr⟩
 | r::rs=>by
  obtain⟨h1,h2⟩:=yF rs;have e1:(⟨#[32,61,32]⟩:ByteArray).size=3:=rfl;have e2:(⟨#[10]⟩:ByteArray).size=1:=rfl;have h3:(dR (r::rs)).size=r.name.size+3+(ic r.expr).size+1+(dR rs).size:=by simp only[dR,G9,Ve,e1,e2]
  refine⟨by rw[h3,Vq];omega,fun q hq=>?_⟩;rcases U9.1 hq with rfl|hq
  ·omega
  have:=h2 q hq;omega
theorem BC:∀(T:Q0b),T.length*6<=(dB T).size/\∀t∈T,t.name.size+6+(dR t.rels).size<=(dB T).size
 | []=>⟨by simp,fun r hr=>by cases hr⟩
 | t::ts=>by
  obtain⟨h1,h2⟩:=BC ts;have h3:(dB (t::ts)).size=t.name.size+6+(dR t.rels).size+(dB ts).size:=by simp only[dB,Ve,yD]
  refine⟨by rw[h3,Vq];omega,fun q hq=>?_⟩;rcases U9.1 hq with rfl|hq
  ·omega
  have:=h2 q hq;omega
theorem rows_ok{rs:Q06}(hk:SN (ag rs))(hz:(dB (ag rs)).size<=3000):rs.length<=500/\(∀r∈rs,r.rows.length<=750/\r.name.size<=3000/\∀q∈r.rows,q.name.size<=3000)/\(∀r∈rs,r.light)/\∀r∈rs,r.fits:=by
 obtain⟨h1,h2⟩:=BC (ag rs);rw[lF]at h1;have key:∀r∈rs,r.rows.length<=750/\r.name.size<=3000/\∀q∈r.rows,q.name.size<=3000:=fun r hr=>by
  have h3:=h2 r.p (U7.2 ⟨r,hr,rfl⟩);obtain⟨h4,h5⟩:=yF (eZ r.rows);rw[rE]at h4;have h6:r.name.size+6+(dR (eZ r.rows)).size<=(dB (ag rs)).size:=h3;refine⟨by omega,by omega,fun q hq=>?_⟩;have:=h5 q.p (U7.2 ⟨q,hq,rfl⟩);have h7:q.name.size+4<=(dR (eZ r.rows)).size:=this;omega
 have kex:∀r∈rs,∀q∈r.rows,q.rows.length<=15/\∀x∈q.rows,x.e.light/\x.e.fits:=fun r hr q hq=>by
  have:=hk r.p (U7.2 ⟨r,hr,rfl⟩) q.p (U7.2 ⟨q,hq,rfl⟩);exact⟨by rw[<-aQ];exact this.1,fun x hx=>this.2 x.e (U7.2 ⟨x,hx,rfl⟩)⟩
 refine⟨by omega,key,fun r hr=>⟨by have:=(key r hr).1;omega,fun q hq=>⟨by have:=(kex r hr q hq).1;omega,fun x hx=>((kex r hr q hq).2 x hx).1⟩⟩,fun r hr=>⟨by have:=(key r hr).2.1;unfold maxLen;omega,by have:=(key r hr).1;unfold maxLen;omega,fun q hq=>⟨by have:=(key r hr).2.2 q hq;unfold maxLen;omega,by have:=(kex r hr q hq).1;unfold maxLen;omega,fun x hx=>((kex r hr q hq).2 x hx).2⟩⟩⟩
open ChangeAt ChangeShapes RowKit WideShapes
theorem TF(o n e:bQ):(((o++n)++⟨#[32,61,32]⟩)++e)++⟨#[10]⟩=o++(((n++⟨#[32,61,32]⟩)++e)++⟨#[10]⟩):=by
 simp only[VF]
theorem PY(o n:bQ):((o++⟨#[116,121,112,101,32]⟩)++n)++⟨#[10]⟩=o++mF n:=by
 unfold mF;simp only[VF]
structure Small3(rs:Q06):Prop where
 six:rs.length<=500
 rels:∀r∈rs,r.rows.length<=750
 name:∀r∈rs,r.name.size<=3000
 names:∀r∈rs,∀q∈r.rows,q.name.size<=3000
set_option maxRecDepth 100000 in
theorem Fs(ad:Q02)(cap:Nat)(rs:Q06)(w:af)(hm:Small3 rs)(hs:kU w ad rs)(hl:∀r∈rs,r.light)(hf:∀r∈rs,r.fits):
  Calls prog 179 #[.slice ad rs.length cap] w fun e w'=>e=.returned (.string (dB (ag rs)))/\ae w w':=by
 have HS:=aC hs;have HL:=aC hl;have Wl:=aC hf;have HM:=aC hm;have h6:=hm.six;clear hs hl hf hm;go_enter func179,ntmps179;go_wp2;go_loopw[3,4] (fun o i wr=>∃(k:Nat) (out:ByteArray),k<=rs.length/\o=.string out/\i=.int .i64 k/\Hid (out=dB (ag (rs.take k)))/\out.size<=k*5100000/\Hid (ae w wr)) (fun _ i _=>rs.length-(intOf i).toNat);case atStart=>exact⟨0,⟨#[]⟩,UY _,rfl,rfl,rfl,UY _,UV _ _⟩
 case round =>
  obtain⟨k,out,hk,rfl,rfl,HP,hz,HB⟩:=hrel;obtain⟨wo,rfl⟩:∃x,x=wr:=⟨_,rfl⟩;by_cases hlt:k<rs.length
  ·rcases HS.out.below HB.out with rfl|⟨b,off,rfl,hb,hr,hok⟩
   ·simp at hlt
   obtain⟨t0,t1⟩:=hr k hlt;have XE:Hid (rs[k].ok wo):=hok rs[k] (UR hlt);have hn12:=HM.out.name rs[k] (UR hlt);have X9:=HM.out.rels rs[k] (UR hlt);have HN12:Hid (∀q∈rs[k].rows,q.name.size<=3000):=HM.out.names rs[k] (UR hlt);have YJ:Hid (rs[k].light):=HL.out _ (UR hlt);have YE:Hid (rs[k].fits):=Wl.out _ (UR hlt);have hk1:=bG k;have hk2:(k:Int)<(rs.length:Int):=by omega
   have hrl:(rs[k].rows.length:Int)<=750:=by omega
   clear hr hok;go_wp2;go_loopw[3,5] (fun o i wr=>∃(j:Nat) (o2:ByteArray),j<=rs[k].rows.length/\o=.string o2/\i=.int .i64 j/\Hid (o2=(out++mF rs[k].name)++dR (eZ (rs[k].rows.take j)))/\o2.size<=k*5100000+3010+j*6760/\Hid (ae wo wr)) (fun _ i _=>rs[k].rows.length-(intOf i).toNat);case atStart=>exact⟨0,_,UY _,rfl,rfl,by show _=_;rw[PY,List.take_zero,show eZ []=[] from rfl];simp only[dR,wE],by rw[PY,Ve,yD];omega,UV _ _⟩
   case round =>
    obtain⟨j,o2,hj,rfl,rfl,HI,hz2,HB2⟩:=hrel;replace t0:=aH HB2.out hb t0;replace t1:=aH HB2.out hb t1;have hbw:b<wr.heap.size:=UT hb HB2.out.size;by_cases hjl:j<rs[k].rows.length
    ·rcases XE.out.below HB2.out with hnil|⟨b2,Wz,had,hb2,hr2,hok2⟩
     ·rw[hnil]at hjl;simp at hjl
     rw[had]at t1;obtain⟨u0,u1⟩:=hr2 j hjl;have HOQ:Hid (rs[k].rows[j].ok wr):=hok2 rs[k].rows[j] (UR hjl);have hj1:=bG j;have hj2:(j:Int)<(rs[k].rows.length:Int):=by omega
     have hq12:=HN12.out _ (UR hjl);have HQL:Hid (rs[k].rows[j].light):=YJ.out.2 _ (UR hjl);have HQF:Hid (rs[k].rows[j].fits):=YE.out.2.2 _ (UR hjl);obtain⟨ex,hex⟩:∃ex,ex=ic (ak rs[k].rows[j].rows):=⟨_,rfl⟩;have HEX:Hid (ex=ic (ak rs[k].rows[j].rows)):=hex;have hxs:ex.size<=3750:=by rw[hex];exact Fp _
     have q1:(9223372036854775807<o2.size+rs[k].rows[j].name.size)=False:=by simp;omega
     have q2:(9223372036854775807<o2.size+rs[k].rows[j].name.size+3)=False:=by simp;omega
     have q3:(9223372036854775807<o2.size+rs[k].rows[j].name.size+3+ex.size)=False:=by simp;omega
     have q4:(9223372036854775807<o2.size+rs[k].rows[j].name.size+3+ex.size+1)=False:=by simp;omega
     have HI2:Hid ((((o2++rs[k].rows[j].name)++⟨#[32,61,32]⟩)++ex)++⟨#[10]⟩=(out++mF rs[k].name)++dR (eZ (rs[k].rows.take (j+1)))):=by
      show _=_;rw[TF,M0 _ _ hjl,qW,HI.out,hex];simp only[VF,G9]
     have hz3:((((o2++rs[k].rows[j].name)++⟨#[32,61,32]⟩)++ex)++⟨#[10]⟩:ByteArray).size<=k*5100000+3010+(j+1)*6760:=by
      have e1:(⟨#[32,61,32]⟩:ByteArray).size=3:=rfl;have e2:(⟨#[10]⟩:ByteArray).size=1:=rfl;simp only[Ve];omega
     have HZ3:Hid (((((o2++rs[k].rows[j].name)++⟨#[32,61,32]⟩)++ex)++⟨#[10]⟩:ByteArray).size<=k*5100000+3010+(j+1)*6760):=hz3;clear hr2 hok2 had hex hz3;go_wp2_with fail;refine qg 24 (fun n=>(u31::u32::u33::u34::u35::u36::u37::u38::u39::u40::u41::u42::u43::u44::u45::u46::u47::u48::u49::u50::u51::u52::u53::u54::[]).getD n undef) (fun fq=>{ tmps:=List.toArray (Value.slice (some ⟨b,off,none⟩) rs.length cap::undef::.string { data:=#[] }::.string o2::.int .i64 k::.int .i64 j::.int .i64 k::.slice (some ⟨b,off,none⟩) rs.length cap::.int .i64 rs.length::.bool true::u10::u11::.string out::.string (out++{ data:=#[116,121,112,101,32] })::.slice (some ⟨b,off,none⟩) rs.length cap::.int .i64 k::.pointer (some ⟨b,off+k*2,none⟩)::.pointer (some ⟨b,off+k*2,none⟩)::.string rs[k].name::.string (out++{ data:=#[116,121,112,101,32] }++rs[k].name)::.string (out++{ data:=#[116,121,112,101,32] }++rs[k].name++{ data:=#[10] })::.int .i64 j::.slice (some ⟨b,off,none⟩) rs.length cap::.int .i64 k::.pointer (some ⟨b,off+k*2,none⟩)::.pointer (some ⟨b,off+k*2+1,none⟩)::.slice (some ⟨b2,Wz,none⟩) rs[k].rows.length rs[k].cap::.int .i64 rs[k].rows.length::.bool true::u29::u30::fq 0::fq 1::fq 2::fq 3::fq 4::fq 5::fq 6::fq 7::fq 8::fq 9::fq 10::fq 11::fq 12::fq 13::fq 14::fq 15::fq 16::fq 17::fq 18::fq 19::fq 20::fq 21::fq 22::fq 23::undef::[]),defers:=[] }) (fun n v _=>v=(Value.string o2::.slice (some ⟨b,off,none⟩) rs.length cap::.int .i64 k::.pointer (some ⟨b,off+k*2,none⟩)::.pointer (some ⟨b,off+k*2+1,none⟩)::.slice (some ⟨b2,Wz,none⟩) rs[k].rows.length rs[k].cap::.int .i64 j::.pointer (some ⟨b2,Wz+j*2,none⟩)::.pointer (some ⟨b2,Wz+j*2,none⟩)::.string rs[k].rows[j].name::.string (o2++rs[k].rows[j].name)::.string ((o2++rs[k].rows[j].name)++⟨#[32,61,32]⟩)::.slice (some ⟨b,off,none⟩) rs.length cap::.int .i64 k::.pointer (some ⟨b,off+k*2,none⟩)::.pointer (some ⟨b,off+k*2+1,none⟩)::.slice (some ⟨b2,Wz,none⟩) rs[k].rows.length rs[k].cap::.int .i64 j::.pointer (some ⟨b2,Wz+j*2,none⟩)::.pointer (some ⟨b2,Wz+j*2+1,none⟩)::.slice rs[k].rows[j].ad rs[k].rows[j].rows.length rs[k].rows[j].cap::.string ex::.string (((o2++rs[k].rows[j].name)++⟨#[32,61,32]⟩)++ex)::.string ((((o2++rs[k].rows[j].name)++⟨#[32,61,32]⟩)++ex)++⟨#[10]⟩)::[]).getD n undef) (fun w'=>ae wr w') (by kernel_rfl) rfl (by kernel_rfl) (by kernel_rfl) rfl (UV _ _).drew ?stepS ?finS;case stepS =>
      rintro i hi o ho fq w' hG hpre;have HG:Hid (ae wr w'):=hG;replace t1:=aH hG hbw t1;replace u0:=aH hG hb2 u0;replace u1:=aH hG hb2 u1;have HM:Hid (∀e∈o.after,Region.binds .any e=true->_):=hpre;clear hG hpre;have hc:=Uj (i:=i) (by omega);clear hi
      repeat' rcases hc with rfl|hc
      iterate 21
       ·cases ho;have hm:=HM.out
        try simp[Region.binds]at hm
        refine aa rfl fun K HK=>?_;clear HM
        try simp only[hm]
        go_simp;exact HK.out _ _ ⟨_,by simp[upd, *],HG.out,rfl,fun k u hu=>hu⟩
      ·cases ho;have e20:fq 20=.slice rs[k].rows[j].ad rs[k].rows[j].rows.length rs[k].rows[j].cap:=HM.out ⟨20,.data⟩ (by simp) rfl;refine aa rfl fun K HK=>?_;clear HM;simp only[e20];go_simp;refine(oo _ _ rs[k].rows[j].rows _ HQL.out.1 HQL.out.2 HQF.out.2.2 (HOQ.out.below HG.out)).mono ?_;rintro e w5 ⟨rfl,hb5⟩;have HG5:=jR HG hb5;rw[<-HEX.out];clear hb5;go_wp2_with fail;exact HK.out _ _ ⟨Value.string ex,by simp[upd,e20],HG5.out,rfl,fun k u hu=>hu⟩
      iterate 2
       ·cases ho;have hm:=HM.out
        try simp[Region.binds]at hm
        refine aa rfl fun K HK=>?_;clear HM
        try simp only[hm]
        go_simp;exact HK.out _ _ ⟨_,by simp[upd, *],HG.out,rfl,fun k u hu=>hu⟩
     case finS =>
      rintro o ho fq w' hG hall;have e23:fq 23=.string ((((o2++rs[k].rows[j].name)++⟨#[32,61,32]⟩)++ex)++⟨#[10]⟩):=hall 23 (by omega);have HG:Hid (ae wr w'):=hG;clear hG hall;obtain rfl:=Option.some.inj ho;clear ho;refine wpOp_step rfl (fun K hK=>?_);have HK:Hid (∀a w,_->K a w):=hK;clear hK;simp only[e23];go_simp;refine HK.out _ _ ?_;clear HK;have HB3:Hid (ae wo w'):=HB2.out.trans (HG.out.mono HB2.out.size);go_wp2;go_roundw;case rel=>exact⟨j+1,_,by omega,rfl,by go_num,HI2,HZ3.out,HB3⟩
      case measure=>simp[intOf]<;>omega
    ·obtain rfl:j=rs[k].rows.length:=by omega
     have Wj:Hid (o2=dB (ag (rs.take (k+1)))):=by
      show _=_;rw[HI.out,M4 _ _ hlt,mG,HP.out,Va,VF]
     have Y3:o2.size<=(k+1)*5100000:=by omega
     have HB3:Hid (ae w wr):=HB.out.trans (HB2.out.mono HB.out.size);go_wp2;go_roundw;case rel=>exact⟨k+1,o2,by omega,rfl,by go_num,Wj,Y3,HB3⟩
     case measure=>simp[intOf]<;>omega
  ·obtain rfl:k=rs.length:=by omega
   have HN:Hid (out=dB (ag rs)):=by show _=_;rw[HP.out,Va]
   go_wp2;go_ret;exact⟨by rw[HN.out];rfl,HB.out⟩
def lastT:ByteArray:=⟨#[116,121,112,101,32,100,111,99,10,118,105,101,119,101,114,32,61,32,116,104,105,115,40,117,115,101,114,41,10,116,121,112,101,32,117,115,101,114,10]⟩
def He:List Ty:=[⟨⟨#[100,111,99]⟩,[⟨⟨#[118,105,101,119,101,114]⟩,[⟨1,[⟨⟨#[117,115,101,114]⟩,⟨#[]⟩⟩],⟨#[]⟩,⟨#[]⟩,[]⟩]⟩]⟩,⟨⟨#[117,115,101,114]⟩,[]⟩]
theorem JW:dS (lastT.size+1) lastT []=some He:=by kernel_rfl
theorem JX:aM He=true:=by
 refine bq.2 ⟨by kernel_rfl,by kernel_rfl,fun _=>0,⟨fun _=>Int.le_refl _,fun k hk d hd=>?_⟩⟩;have h:((au He).all fun k=>(iB He k).isEmpty)=true:=by kernel_rfl
 have h2:=U5.1 h k hk;rw[List.isEmpty_iff.1 h2]at hd;cases hd
def Pre(t:ByteArray):Prop:=∃x y z c tl,t.data.toList=116::121::112::101::32::x::y::z::10::c::tl/\x≠10/\y≠10/\z≠10/\c≠116
theorem Pre.app{t:ByteArray}(h:Pre t)(u:bQ):Pre (t++u):=by
 obtain⟨x,y,z,c,tl,e,h1⟩:=h;exact⟨x,y,z,c,tl++u.data.toList,by rw[VO,Array.toList_append,e];rfl,h1⟩
theorem PZ{n:ByteArray}(h:aT n=true):∀b∈n.data.toList,b≠10:=by
 intro b hb e;unfold aT dP sD at h;simp only[UW]at h;have:=U5.1 h.1.2 b hb;rw[e]at this
 revert this
 decide
theorem M8{rs:Q06}(hd:aM (ag rs)=true)(h:Pre (dB (ag rs))):∃t ts q qs x xs,rs=t::ts/\t.rows=q::qs/\q.rows=x::xs:=by
 have hS:=bq.1 hd;obtain⟨x,y,z,c,tl,e,hx,hy,hz,hc⟩:=h;cases rs with
 | nil=>simp[ag,dB]at e
 | cons t ts =>
  have hn:=PZ (lQ hS.1 0 (by simp)).1;simp only[List.getElem_cons_zero]at hn;have e2:(116::121::112::101::32::(t.name.data.toList++10::((dR (eZ t.rows)).data.toList++(dB (ag ts)).data.toList)))=116::121::112::101::32::x::y::z::10::c::tl:=by
   rw[<-e];show _=(dB (⟨t.name,eZ t.rows⟩::ag ts)).data.toList;simp[dB,mF,ByteArray.data_append]
  simp only[List.cons.injEq,true_and]at e2;have key:(dR (eZ t.rows)).data.toList++(dB (ag ts)).data.toList=c::tl:=by
   generalize (dR (eZ t.rows)).data.toList++(dB (ag ts)).data.toList=rest at e2;generalize t.name.data.toList=nm at e2 hn
   match nm,e2,hn with
   | [],e2,_=>simp at e2;exact absurd e2.1.symm hx
   | [a],e2,_=>simp at e2;exact absurd e2.2.1.symm hy
   | [a,b],e2,_=>simp at e2;exact absurd e2.2.2.1.symm hz
   | [a,b,d],e2,_=>simp at e2;exact e2.2.2.2
   | a::b::d::f::nm,e2,hn=>simp at e2;exact absurd e2.2.2.2.1 (hn f (by simp))
  cases hr:t.rows with
  | nil =>
   rw[hr]at key;cases ts with
   | nil=>simp[eZ,dR,ag,dB]at key
   | cons u us =>
    have:(dB (ag (u::us))).data.toList.head?=some 116:=by
     show(dB (⟨u.name,eZ u.rows⟩::ag us)).data.toList.head?=_;simp[dB,mF,ByteArray.data_append]
    simp only[eZ,List.map_nil,dR]at key;rw[show((⟨#[]⟩:ByteArray).data.toList++(dB (ag (u::us))).data.toList)=(dB (ag (u::us))).data.toList from rfl]at key;rw[key]at this;simp at this;exact absurd this hc
  | cons q qs =>
   obtain⟨h1,-⟩:=(bF hS.1).2.2 t (by simp) q (by rw[hr];simp);have h2:=(nW h1).1;rw[aQ]at h2;cases hq:q.rows with
   | nil=>rw[hq]at h2;simp at h2
   | cons x xs=>exact⟨t,ts,q,qs,x,xs,rfl,hr,hq⟩
set_option linter.unusedVariables false
structure KpO(b l:Nat)(W W':World):Prop where
 size:W.heap.size<=W'.heap.size
 cells:∀(g:Nat) (cs:Array Value) (T:TypeId) (m:Nat×Nat),W.heap[g]?=some (.cells cs T m)->T≠29->T≠40->W'.heap[g]?=some (.cells cs T m)
 other:∀(g:Nat) (o:Obj),W.heap[g]?=some o->o.isCells=false->g≠l->g≠b->W'.heap[g]?=some o
structure KpI(W W':World):Prop where
 size:W.heap.size<=W'.heap.size
 cells:∀(g:Nat) (cs:Array Value) (T:TypeId) (m:Nat×Nat),W.heap[g]?=some (.cells cs T m)->T=27\/T=147->W'.heap[g]?=some (.cells cs T m)
theorem KpO.trans{b l:Nat}{X Y Z:af}(h:KpO b l X Y)(k:KpO b l Y Z):KpO b l X Z :=
 ⟨U0 h.size k.size,fun g cs T m hg h1 h2=>k.cells g cs T m (h.cells g cs T m hg h1 h2) h1 h2,fun g o hg hc h1 h2=>k.other g o (h.other g o hg hc h1 h2) hc h1 h2⟩
theorem KpI.trans{X Y Z:af}(h:KpI X Y)(k:KpI Y Z):KpI X Z :=
 ⟨U0 h.size k.size,fun g cs T m hg h1=>k.cells g cs T m (h.cells g cs T m hg h1) h1⟩
theorem oq{W:af}{l g:Nat}{o':Obj}(h:g≠l):(W.putObj l o').heap[g]?=W.heap[g]?:=World.putObj_heap_other h
theorem KpO.put{b l:Nat}{W:af}{o o':Obj}(h:W.heap[l]?=some o)(hc:o.isCells=false):KpO b l W (W.putObj l o') where
 size:=by simp
 cells g cs T m hg _ _:=by
  have:g≠l:=fun e=>by subst e;rw[h]at hg;injection hg with hg;subst hg;cases hc
  rw[oq this];exact hg
 other g x hg _ h1 _:=by rw[oq h1];exact hg
theorem KpI.put{l:Nat}{W:af}{o o':Obj}(h:W.heap[l]?=some o)(hc:o.isCells=false):KpI W (W.putObj l o') where
 size:=by simp
 cells g cs T m hg _:=by
  have:g≠l:=fun e=>by subst e;rw[h]at hg;injection hg with hg;subst hg;cases hc
  rw[oq this];exact hg
theorem KpO.below{b l:Nat}{W W':af}(h:ae W W'):KpO b l W W' :=
 ⟨h.size,fun g cs T m hg _ _=>(h.block g (UZ.1 hg).1).trans hg,fun g o hg _ _ _=>(h.block g (UZ.1 hg).1).trans hg⟩
theorem KpI.below{W W':af}(h:ae W W'):KpI W W' :=
 ⟨h.size,fun g cs T m hg _=>(h.block g (UZ.1 hg).1).trans hg⟩
theorem KpO.toI{b l:Nat}{W W':af}(h:KpO b l W W'):KpI W W' :=
 ⟨h.size,fun g cs T m hg hT=>h.cells g cs T m hg (by rcases hT with e|e<;>(rw[e];decide)) (by rcases hT with e|e<;>(rw[e];decide))⟩
theorem BD{W W':af}(h:ae W W'):W.grownBy W' none:=⟨h.os,h.tape,h.output,h.size,fun k hk _=>h.block k hk⟩
theorem nz{β:Type}{B:Nat}{I:β->World->Prop}(h:OwnFrom B I){s:β}{W W':af}(hs:I s W)(hb:ae W W'):I s W':=h s W W' none hs (BD hb) (fun r e=>by cases e)
end Go.Proofs.YtajkkeikihhejaaGreat
