/- A schema's text, in plain words, and how long it can be. -/
import Derived.Test.YtcgdckphpjfmhaaGreatDoorSq
import Derived.Test.YtcgdckphpjfmhaaGreatDoorJ10
open Go.Proofs.Tryz
set_option maxHeartbeats 80000000
namespace Go.Proofs.YtcgdckphpjfmhaaGreatDoor
open Pl
def sm:List Nat->Nat
 | []=>0
 | x::xs=>x+sm xs
theorem DW:∀xs ys:List Nat,sm (xs++ys)=sm xs+sm ys
 | [],ys=>by simp[sm]
 | x::xs,ys=>by rw[WU];simp only[sm];rw[DW xs ys];omega
theorem Ni(sep:ByteArray)(xs:List ByteArray):(fD sep xs).size<=sm (xs.map fun x=>x.size+sep.size):=by
 suffices h:∀ys:List ByteArray,(fD sep ys.reverse).size<=sm (ys.reverse.map fun x=>x.size+sep.size) by
  have:=h xs.reverse;rwa [List.reverse_reverse]at this
 intro ys
 induction ys with
 | nil=>exact V4 _
 | cons y ys ih =>
  rw[List.reverse_cons,pO,Xb,DW];simp only[Xp,List.map_nil,sm];split
  ·omega
  simp only[Wv];omega
def lH(f:Int->Int):List Int->Int
 | []=>0
 | k::ks=>(k-f k+1)+lH f ks
theorem ww(f:Int->Int):∀xs ys:List Int,lH f (xs++ys)=lH f xs+lH f ys
 | [],ys=>by simp[lH]
 | x::xs,ys=>by rw[WU];simp only[lH];rw[ww f xs ys];omega
theorem tV(f:Int->Int):∀xs:List Int,lH f xs.reverse=lH f xs
 | []=>rfl
 | x::xs=>by rw[List.reverse_cons,ww,tV f xs];simp only[lH];omega
theorem yC{f:Int->Int}:∀(ks:List Int) (a:Int),0<=dC f ks a->lH f ks=a+1-dC f ks a
 | [],a,_=>by simp[lH,dC]
 | k::ks,a,h=>by
  unfold dC at h⊢;split at h
  ·omega
  rename_i h1;rw[if_neg h1];split at h
  ·omega
  rename_i h2;rw[if_neg h2];have hk:k=a:=Decidable.byContradiction fun e=>h1 (.inr e);subst hk;simp only[lH];rw[yC ks _ h];omega
theorem Sg{es:Q09}(hes:TA es)(ht:∀j,j<es.length->0<=aI es j)(n:Nat):n<es.length->∀i,((iW es n i).size:Int)<=250*((n:Int)-aI es n+1):=by
 induction n using Nat.strongRecOn with
 | ind n ih =>
  intro hn i;have hle:=oF es n;have h1:=Gf (EF es n) i (mG (jC es n) (EF es n));unfold iW
  suffices h:((mG (jC es n) (EF es n)).size:Int)<=250*((n:Int)-aI es n+1)-10 by omega
  have Xu:=hes.2.1 n hn;obtain⟨hk5,-⟩:=qR Xu;rw[EH hn];unfold mG;unfold ay at Xu;split
  ·rename_i k;rw[if_pos k]at Xu;simp only[V9]at Xu;have:=kz Xu.1.1.1;omega
  rename_i k1;rw[if_neg k1]at Xu;split
  ·rename_i k2;rw[if_pos k2]at Xu;simp only[V9]at Xu;have:=bI Xu.1.1.1;omega
  rename_i k2;rw[if_neg k2]at Xu;split
  ·rename_i k3;rw[if_pos k3]at Xu;simp only[V9]at Xu;have h1:=bI Xu.1.1.1;have h2:=bI Xu.1.1.2;have e1:(⟨#[45,62]⟩:ByteArray).size=2:=rfl;simp only[Wv];omega
  have hj:=Ni (gJ es[n].kind) (es[n].kids.map (jC es n));rw[mE,List.map_map]at hj;have hspan:lH (dS es n) es[n].kids=(n:Int)-aI es n:=by
   have h0:=ht n hn;rw[jU]at h0;have h2:=yC _ _ h0;rw[tV,<-jU]at h2;have e:mr es n=es[n].kids:=by simp[mr,hn]
   rw[e]at h2;omega
  have hsum:∀ks:List Int,(∀k∈ks,0<=k/\k.toNat<n)->(sm (ks.map ((fun x:ByteArray=>x.size+3) ∘ jC es n)):Int)<=250*lH (dS es n) ks+3*(ks.length:Int):=by
   intro ks
   induction ks with
   | nil=>intro _;simp[sm,lH]
   | cons k ks ih2 =>
    intro hks;obtain⟨hk0,hk1⟩:=hks k (Xf ..);have h3:=ih2 fun x hx=>hks x (WT _ hx);have h4:=ih k.toNat hk1 (by omega) true;have e1:jC es n k=iW es k.toNat true:=by unfold jC;rw[if_pos hk1,EG]
    have e2:dS es n k=aI es k.toNat:=by unfold dS;rw[if_pos ⟨hk0,hk1⟩]
    have e3:((k.toNat:Nat):Int)=k:=by omega
    simp only[Xp,sm,lH,Function.comp_apply,WH];rw[e1,e2];rw[e3]at h4;omega
  have h5:=hsum es[n].kids (vv hes hn);rw[hspan]at h5;have:(es[n].kids.length:Int)<=5:=by omega
  omega
theorem Qd{es:Q09}(h:aP es=true):∀j,j<es.length->0<=aI es j:=by
 rw[wU]at h;unfold lF at h;simp only[V9,Wn]at h;have h1:=h.2.1;unfold jy at h1;rw[Wq]at h1;intro j hj;simpa using h1 j (by simpa using hj)
theorem Fv(es:Q09):(gZ es).size<=3750:=by
 by_cases h:aP es=true
 ·have ht:=Qd h;have hf:=oN h;have h1:=Sg (O9 h) ht (es.length-1) (by omega) false;have h2:=ht (es.length-1) (by omega);rw[Bl h];omega
 rw[DR (by simpa using h)];show 0<=3750;omega
def He(r:Rl):ByteArray:=((r.name++⟨#[32,61,32]⟩)++gZ r.expr)++⟨#[10]⟩
def dO:List Rl->ByteArray
 | []=>⟨#[]⟩
 | r::rs=>He r++dO rs
def mZ(n:ByteArray):ByteArray:=(⟨#[116,121,112,101,32]⟩++n)++⟨#[10]⟩
def dh:List Ty->ByteArray
 | []=>⟨#[]⟩
 | t::ts=>(mZ t.name++dO t.rels)++dh ts
theorem wy(a:ByteArray):a++(⟨#[]⟩:ByteArray)=a:=by apply jh;simp[ByteArray.data_append]
theorem rM:∀(xs:List Rl) (r:Rl),dO (xs++[r])=dO xs++He r
 | [],r=>by simp only[Xi,dO,wy,sK]
 | x::xs,r=>by rw[WU];simp only[dO];rw[rM xs r,<-WV]
theorem ni:∀(xs:Q0b) (t:Ty),dh (xs++[t])=dh xs++(mZ t.name++dO t.rels)
 | [],t=>by simp only[Xi,dh,wy,sK]
 | x::xs,t=>by rw[WU];simp only[dh];rw[ni xs t,<-WV]
theorem Nj(rs:Q07)(k:Nat)(h:k<rs.length):eG (rs.take (k+1))=eG (rs.take k)++[⟨rs[k].name,aj rs[k].rows⟩]:=by
 rw[V8 h];unfold eG;rw[Xb];rfl
theorem Nk(rs:Q06)(k:Nat)(h:k<rs.length):ag (rs.take (k+1))=ag (rs.take k)++[⟨rs[k].name,eG rs[k].rows⟩]:=by
 rw[V8 h];unfold ag;rw[Xb];rfl
theorem yD(n:ByteArray):(mZ n).size=n.size+6:=by
 have e1:(⟨#[116,121,112,101,32]⟩:ByteArray).size=5:=rfl;have e2:(⟨#[10]⟩:ByteArray).size=1:=rfl;unfold mZ;simp only[Wv];omega
def Qe:ByteArray:=⟨#[116,121,112,101,32]⟩
def Vu:ByteArray:=⟨#[61,32]⟩
def Vv:ByteArray:=⟨#[10]⟩
def Bv(l:ByteArray):Bool:=decide (5<l.size)&&(l.extract 0 5).toList==Qe.toList
def yE(t:ByteArray):Bool:=decide (2<=t.size)&&(t.extract 0 2).toList==Vu.toList
def DX(l:ByteArray):ByteArray:=(iM 32 l).extract 2 (iM 32 l).size
def Fw(acc:Q0b)(r:Rl):List Ty:=match acc.getLast? with
 | none=>[]
 | some t=>acc.dropLast++[⟨t.name,t.rels++[r]⟩]
theorem rO(xs:Q0b)(t:Ty)(r:Rl):Fw (xs++[t]) r=xs++[⟨t.name,t.rels++[r]⟩]:=by
 unfold Fw;simp
def nR(acc:Q0b)(l:ByteArray):Option (List Ty) :=
 if Bv l then some (acc++[⟨l.extract 5 l.size,[]⟩])
 else if !acc.isEmpty&&yE (iM 32 l)&&mY (DX l) then some (Fw acc ⟨kK 32 l,(kV (DX l)).out⟩) else none
def dP:Nat->ByteArray->List Ty->Option (List Ty)
 | 0,_,acc=>some acc
 | n+1,rest,acc =>
  if rest.toList.isEmpty then some acc
  else if pJ 10 rest then
   match nR acc (kK 10 rest) with
   | none=>none
   | some a=>dP n (iM 10 rest) a
  else none
theorem nk(b:ByteArray):b.toList=b.data.toList:=Go.ByteArray.toList_eq b
theorem Nl(c:UInt8)(l:List UInt8)(h:(iV c l).2.2=true):l=(iV c l).1++c::(iV c l).2.1:=by
 induction l with
 | nil=>simp[iV]at h
 | cons b l ih =>
  unfold iV at h⊢;split
  ·rename_i e;simp[e]
  rename_i e;rw[if_neg e]at h;simp only[WU,List.cons.injEq,true_and];exact ih h
theorem Bw{c:UInt8}{s:ByteArray}(h:pJ c s=true):s=(kK c s++⟨#[c]⟩)++iM c s:=by
 apply jh;have:=Nl c s.data.toList h;simpa[kK,iM,ByteArray.data_append] using this
theorem Hf{c:UInt8}{s:ByteArray}(h:pJ c s=true):(iM c s).size<s.size:=by
 have:=congrArg ByteArray.size (Bw h);have e1:(⟨#[c]⟩:ByteArray).size=1:=rfl;simp only[Wv,e1]at this;omega
theorem Hg(l:ByteArray)(k:Nat)(hk:k<=l.size):l=l.extract 0 k++l.extract k l.size:=by
 apply jh;rw[WZ,ByteArray.data_extract,ByteArray.data_extract];have hk':k<=l.data.size:=hk;have h2:l.size=l.data.size:=rfl;rw[h2];simp;rw[show max k l.size=l.data.toList.length by simp[Nat.max_def];omega,Wo]
theorem toList_inj{a b:ByteArray}(h:a.toList=b.toList):a=b:=by
 rw[nk,nk]at h;exact jh h
theorem Qf{l:ByteArray}(h:Bv l=true):l=Qe++l.extract 5 l.size:=by
 unfold Bv at h;simp only[V9,Wn,beq_iff_eq]at h;have e:=toList_inj h.2
 conv=>lhs;rw[Hg l 5 (by omega),e]
theorem Qg{l:ByteArray}(h:yE (iM 32 l)=true):l=((kK 32 l++⟨#[32,61,32]⟩)++DX l):=by
 unfold yE at h;simp only[V9,Wn,beq_iff_eq]at h;have hf:pJ 32 l=true:=by
  cases e:pJ 32 l;case true=>rfl
  rw[OL e]at h;exact absurd h.1 (by decide)
 have e:=toList_inj h.2;have e2:iM 32 l=Vu++DX l:=by
  conv=>lhs;rw[Hg (iM 32 l) 2 h.1,e]
  rfl
 have e3:(⟨#[32,61,32]⟩:ByteArray)=⟨#[32]⟩++Vu:=by apply jh;simp[ByteArray.data_append,Vu]
 conv=>lhs;rw[Bw hf,e2]
 rw[e3];simp only[WV]
theorem Bz{s:ByteArray}(h:mY s=true):gZ (kV s).out=s/\s.size<=1000/\aP (kV s).out=true:=by
 unfold mY at h;simp only[V9,Wn,beq_iff_eq]at h;exact⟨toList_inj h.2,h.1.1.1.1,h.1.2⟩
theorem Nn{acc acc':Q0b}{l:ByteArray}(h:nR acc l=some acc'):dh acc'=dh acc++(l++Vv):=by
 unfold nR at h;split at h
 ·rename_i ht;injection h with h;subst h;rw[ni]
  conv=>rhs;rw[Qf ht]
  simp only[mZ,dO,wy];rfl
 split at h
 ·rename_i h2;injection h with h;subst h;simp only[V9,Bool.not_eq_true']at h2;obtain⟨⟨h3,h4⟩,h5⟩:=h2;have hne:acc≠[]:=fun e=>by rw[e]at h3;simp at h3
  have e1:=List.dropLast_concat_getLast hne;rw[<-e1,rO,ni,ni,rM]
  conv=>rhs;rw[Qg h4]
  have e2:=(Bz h5).1;simp only[He,e2,WV];rfl
 cases h
def TJ(T:Q0b):Prop:=∀t∈T,∀r∈t.rels,r.expr.length<=15/\∀e∈r.expr,e.light/\e.fits
theorem Si{acc acc':Q0b}{l:ByteArray}(h:nR acc l=some acc')(hk:TJ acc):TJ acc':=by
 unfold nR at h;split at h
 ·injection h with h;subst h;intro t ht r hr;rcases Wj.1 ht with ht|ht
  ·exact hk t ht r hr
  rw[Wl]at ht;subst ht;cases hr
 split at h
 ·rename_i h2;injection h with h;subst h;simp only[V9,Bool.not_eq_true']at h2;obtain⟨⟨h3,h4⟩,h5⟩:=h2;have hne:acc≠[]:=fun e=>by rw[e]at h3;simp at h3
  have e1:=List.dropLast_concat_getLast hne;obtain⟨-,hs,hsp⟩:=Bz h5;intro t ht r hr;rw[<-e1,rO]at ht;rcases Wj.1 ht with ht|ht
  ·exact hk t (by rw[<-e1];exact Xq _ ht) r hr
  rw[Wl]at ht;subst ht;rcases Wj.1 hr with hr|hr
  ·exact hk (acc.getLast hne) (List.getLast_mem hne) r hr
  rw[Wl]at hr;subst hr;refine⟨(oN hsp).2,fun e he=>?_⟩;exact(Qa (s:=DX l) _ true ⟨0,false,[]⟩ (Wd _) (fun e he=>by cases he) e he).light hs
 cases h
theorem yF:∀(rs:List Rl),rs.length*4<=(dO rs).size/\∀r∈rs,r.name.size+4<=(dO rs).size
 | []=>⟨by simp,fun r hr=>by cases hr⟩
 | r::rs=>by
  obtain⟨h1,h2⟩:=yF rs;have e1:(⟨#[32,61,32]⟩:ByteArray).size=3:=rfl;have e2:(⟨#[10]⟩:ByteArray).size=1:=rfl;have h3:(dO (r::rs)).size=r.name.size+3+(gZ r.expr).size+1+(dO rs).size:=by simp only[dO,He,Wv,e1,e2]
  refine⟨by rw[h3,WH];omega,fun q hq=>?_⟩;rcases Ws.1 hq with rfl|hq
  ·omega
  have:=h2 q hq;omega
theorem BA:∀(T:Q0b),T.length*6<=(dh T).size/\∀t∈T,t.name.size+6+(dO t.rels).size<=(dh T).size
 | []=>⟨by simp,fun r hr=>by cases hr⟩
 | t::ts=>by
  obtain⟨h1,h2⟩:=BA ts;have h3:(dh (t::ts)).size=t.name.size+6+(dO t.rels).size+(dh ts).size:=by simp only[dh,Wv,yD]
  refine⟨by rw[h3,WH];omega,fun q hq=>?_⟩;rcases Ws.1 hq with rfl|hq
  ·omega
  have:=h2 q hq;omega
theorem rows_ok{rs:Q06}(hk:TJ (ag rs))(hz:(dh (ag rs)).size<=3000):rs.length<=500/\(∀r∈rs,r.rows.length<=750/\r.name.size<=3000/\∀q∈r.rows,q.name.size<=3000)/\(∀r∈rs,r.light)/\∀r∈rs,r.fits:=by
 obtain⟨h1,h2⟩:=BA (ag rs);rw[lN]at h1;have key:∀r∈rs,r.rows.length<=750/\r.name.size<=3000/\∀q∈r.rows,q.name.size<=3000:=fun r hr=>by
  have h3:=h2 r.p (Wp.2 ⟨r,hr,rfl⟩);obtain⟨h4,h5⟩:=yF (eG r.rows);rw[rZ]at h4;have h6:r.name.size+6+(dO (eG r.rows)).size<=(dh (ag rs)).size:=h3;refine⟨by omega,by omega,fun q hq=>?_⟩;have:=h5 q.p (Wp.2 ⟨q,hq,rfl⟩);have h7:q.name.size+4<=(dO (eG r.rows)).size:=this;omega
 have kex:∀r∈rs,∀q∈r.rows,q.rows.length<=15/\∀x∈q.rows,x.e.light/\x.e.fits:=fun r hr q hq=>by
  have:=hk r.p (Wp.2 ⟨r,hr,rfl⟩) q.p (Wp.2 ⟨q,hq,rfl⟩);exact⟨by rw[<-bf];exact this.1,fun x hx=>this.2 x.e (Wp.2 ⟨x,hx,rfl⟩)⟩
 refine⟨by omega,key,fun r hr=>⟨by have:=(key r hr).1;omega,fun q hq=>⟨by have:=(kex r hr q hq).1;omega,fun x hx=>((kex r hr q hq).2 x hx).1⟩⟩,fun r hr=>⟨by have:=(key r hr).2.1;unfold maxLen;omega,by have:=(key r hr).1;unfold maxLen;omega,fun q hq=>⟨by have:=(key r hr).2.2 q hq;unfold maxLen;omega,by have:=(kex r hr q hq).1;unfold maxLen;omega,fun x hx=>((kex r hr q hq).2 x hx).2⟩⟩⟩
open ChangeAt ChangeShapes RowKit WideShapes
theorem Ux(o n e:ByteArray):(((o++n)++⟨#[32,61,32]⟩)++e)++⟨#[10]⟩=o++(((n++⟨#[32,61,32]⟩)++e)++⟨#[10]⟩):=by
 simp only[WV]
theorem Qh(o n:ByteArray):((o++⟨#[116,121,112,101,32]⟩)++n)++⟨#[10]⟩=o++mZ n:=by
 unfold mZ;simp only[WV]
structure Small3(rs:Q06):Prop where
 six:rs.length<=500
 rels:∀r∈rs,r.rows.length<=750
 name:∀r∈rs,r.name.size<=3000
 names:∀r∈rs,∀q∈r.rows,q.name.size<=3000
set_option maxRecDepth 100000 in
theorem Fx(ad:Q02)(cap:Nat)(rs:Q06)(w:ae)(hm:Small3 rs)(hs:lc w ad rs)(hl:∀r∈rs,r.light)(hf:∀r∈rs,r.fits):
  Calls prog 204 #[.slice ad rs.length cap] w fun e w'=>e=.returned (.string (dh (ag rs)))/\af w w':=by
 have HS:=aC hs;have HL:=aC hl;have XC:=aC hf;have HM:=aC hm;have h6:=hm.six;clear hs hl hf hm;go_enter func204,ntmps204;go_wp2;go_loopw[3,4] (fun o i wr=>∃(k:Nat) (out:ByteArray),k<=rs.length/\o=.string out/\i=.int .i64 k/\Hid (out=dh (ag (rs.take k)))/\out.size<=k*5100000/\Hid (af w wr)) (fun _ i _=>rs.length-(intOf i).toNat);case atStart=>exact⟨0,⟨#[]⟩,Wd _,rfl,rfl,rfl,Wd _,V5 _ _⟩
 case round =>
  obtain⟨k,out,hk,rfl,rfl,HP,hz,HB⟩:=hrel;obtain⟨wo,rfl⟩:∃x,x=wr:=⟨_,rfl⟩;by_cases hlt:k<rs.length
  ·rcases HS.out.below HB.out with rfl|⟨b,off,rfl,hb,hr,hok⟩
   ·simp at hlt
   obtain⟨t0,t1⟩:=hr k hlt;have Yk:Hid (rs[k].ok wo):=hok rs[k] (VZ hlt);have hn12:=HM.out.name rs[k] (VZ hlt);have Zo:=HM.out.rels rs[k] (VZ hlt);have HN12:Hid (∀q∈rs[k].rows,q.name.size<=3000):=HM.out.names rs[k] (VZ hlt);have ZO:Hid (rs[k].light):=HL.out _ (VZ hlt);have ZC:Hid (rs[k].fits):=XC.out _ (VZ hlt);have hk1:=bC k;have hk2:(k:Int)<(rs.length:Int):=by omega
   have hrl:(rs[k].rows.length:Int)<=750:=by omega
   clear hr hok;go_wp2;go_loopw[3,5] (fun o i wr=>∃(j:Nat) (o2:ByteArray),j<=rs[k].rows.length/\o=.string o2/\i=.int .i64 j/\Hid (o2=(out++mZ rs[k].name)++dO (eG (rs[k].rows.take j)))/\o2.size<=k*5100000+3010+j*6760/\Hid (af wo wr)) (fun _ i _=>rs[k].rows.length-(intOf i).toNat);case atStart=>exact⟨0,_,Wd _,rfl,rfl,by show _=_;rw[Qh,List.take_zero,show eG []=[] from rfl];simp only[dO,wy],by rw[Qh,Wv,yD];omega,V5 _ _⟩
   case round =>
    obtain⟨j,o2,hj,rfl,rfl,HI,hz2,HB2⟩:=hrel;replace t0:=aJ HB2.out hb t0;replace t1:=aJ HB2.out hb t1;have hbw:b<wr.heap.size:=VY hb HB2.out.size;by_cases hjl:j<rs[k].rows.length
    ·rcases Yk.out.below HB2.out with hnil|⟨b2,XR,had,hb2,hr2,hok2⟩
     ·rw[hnil]at hjl;simp at hjl
     rw[had]at t1;obtain⟨u0,u1⟩:=hr2 j hjl;have HOQ:Hid (rs[k].rows[j].ok wr):=hok2 rs[k].rows[j] (VZ hjl);have hj1:=bC j;have hj2:(j:Int)<(rs[k].rows.length:Int):=by omega
     have hq12:=HN12.out _ (VZ hjl);have HQL:Hid (rs[k].rows[j].light):=ZO.out.2 _ (VZ hjl);have HQF:Hid (rs[k].rows[j].fits):=ZC.out.2.2 _ (VZ hjl);obtain⟨ex,hex⟩:∃ex,ex=gZ (aj rs[k].rows[j].rows):=⟨_,rfl⟩;have HEX:Hid (ex=gZ (aj rs[k].rows[j].rows)):=hex;have hxs:ex.size<=3750:=by rw[hex];exact Fv _
     have q1:(9223372036854775807<o2.size+rs[k].rows[j].name.size)=False:=by simp;omega
     have q2:(9223372036854775807<o2.size+rs[k].rows[j].name.size+3)=False:=by simp;omega
     have q3:(9223372036854775807<o2.size+rs[k].rows[j].name.size+3+ex.size)=False:=by simp;omega
     have q4:(9223372036854775807<o2.size+rs[k].rows[j].name.size+3+ex.size+1)=False:=by simp;omega
     have HI2:Hid ((((o2++rs[k].rows[j].name)++⟨#[32,61,32]⟩)++ex)++⟨#[10]⟩=(out++mZ rs[k].name)++dO (eG (rs[k].rows.take (j+1)))):=by
      show _=_;rw[Ux,Nj _ _ hjl,rM,HI.out,hex];simp only[WV,He]
     have hz3:((((o2++rs[k].rows[j].name)++⟨#[32,61,32]⟩)++ex)++⟨#[10]⟩:ByteArray).size<=k*5100000+3010+(j+1)*6760:=by
      have e1:(⟨#[32,61,32]⟩:ByteArray).size=3:=rfl;have e2:(⟨#[10]⟩:ByteArray).size=1:=rfl;simp only[Wv];omega
     have HZ3:Hid (((((o2++rs[k].rows[j].name)++⟨#[32,61,32]⟩)++ex)++⟨#[10]⟩:ByteArray).size<=k*5100000+3010+(j+1)*6760):=hz3;clear hr2 hok2 had hex hz3;go_wp2_with fail;refine d9 24 _ _ (fun n v _=>v=(Value.string o2::.slice (some ⟨b,off,none⟩) rs.length cap::.int .i64 k::.pointer (some ⟨b,off+k*2,none⟩)::.pointer (some ⟨b,off+k*2+1,none⟩)::.slice (some ⟨b2,XR,none⟩) rs[k].rows.length rs[k].cap::.int .i64 j::.pointer (some ⟨b2,XR+j*2,none⟩)::.pointer (some ⟨b2,XR+j*2,none⟩)::.string rs[k].rows[j].name::.string (o2++rs[k].rows[j].name)::.string ((o2++rs[k].rows[j].name)++⟨#[32,61,32]⟩)::.slice (some ⟨b,off,none⟩) rs.length cap::.int .i64 k::.pointer (some ⟨b,off+k*2,none⟩)::.pointer (some ⟨b,off+k*2+1,none⟩)::.slice (some ⟨b2,XR,none⟩) rs[k].rows.length rs[k].cap::.int .i64 j::.pointer (some ⟨b2,XR+j*2,none⟩)::.pointer (some ⟨b2,XR+j*2+1,none⟩)::.slice rs[k].rows[j].ad rs[k].rows[j].rows.length rs[k].rows[j].cap::.string ex::.string (((o2++rs[k].rows[j].name)++⟨#[32,61,32]⟩)++ex)::.string ((((o2++rs[k].rows[j].name)++⟨#[32,61,32]⟩)++ex)++⟨#[10]⟩)::[]).getD n undef) (fun w'=>af wr w') (by kernel_rfl) rfl (by kernel_rfl) (by kernel_rfl) (Ck [(31,[0,1,2,3,4,5,6,7,8,9,10,11,12,13,14,15,16,17,18,19,20,21,22,23])]) (V5 _ _).drew ?stepS ?finS<;>dsimp only[zo];case stepS =>
      rintro i hi o ho fq w' hG hpre;have HG:Hid (af wr w'):=hG;replace t1:=aJ hG hbw t1;replace u0:=aJ hG hb2 u0;replace u1:=aJ hG hb2 u1;have HM:Hid (∀e∈o.after,Region.binds .any e=true->_):=hpre;clear hG hpre;have hc:=Vf (i:=i) (by omega);clear hi
      repeat' rcases hc with rfl|hc
      iterate 21
       ·cases ho;have hm:=HM.out
        try simp[Region.binds]at hm
        refine aa rfl fun K HK=>?_;clear HM
        try simp only[hm]
        go_simp;exact HK.out _ _ ⟨_,by simp[upd, *],HG.out,rfl,fun k u hu=>hu⟩
      ·cases ho;have e20:fq 20=.slice rs[k].rows[j].ad rs[k].rows[j].rows.length rs[k].rows[j].cap:=HM.out ⟨20,.data⟩ (by simp) rfl;refine aa rfl fun K HK=>?_;clear HM;simp only[e20];go_simp;refine(oW _ _ rs[k].rows[j].rows _ HQL.out.1 HQL.out.2 HQF.out.2.2 (HOQ.out.below HG.out)).mono ?_;rintro e w5 ⟨rfl,hb5⟩;have HG5:=kv HG hb5;rw[<-HEX.out];clear hb5;go_wp2_with fail;exact HK.out _ _ ⟨Value.string ex,by simp[upd,e20],HG5.out,rfl,fun k u hu=>hu⟩
      iterate 2
       ·cases ho;have hm:=HM.out
        try simp[Region.binds]at hm
        refine aa rfl fun K HK=>?_;clear HM
        try simp only[hm]
        go_simp;exact HK.out _ _ ⟨_,by simp[upd, *],HG.out,rfl,fun k u hu=>hu⟩
     case finS =>
      rintro o ho fq w' hG hall;have e23:fq 23=.string ((((o2++rs[k].rows[j].name)++⟨#[32,61,32]⟩)++ex)++⟨#[10]⟩):=hall 23 (by omega);have HG:Hid (af wr w'):=hG;clear hG hall;obtain rfl:=Option.some.inj ho;clear ho;refine wpOp_step rfl (fun K hK=>?_);have HK:Hid (∀a w,_->K a w):=hK;clear hK;simp only[e23];go_simp;refine HK.out _ _ ?_;clear HK;have HB3:Hid (af wo w'):=HB2.out.trans (HG.out.mono HB2.out.size);go_wp2;go_roundw;case rel=>exact⟨j+1,_,by omega,rfl,by go_num,HI2,HZ3.out,HB3⟩
      case measure=>simp[intOf]<;>omega
    ·obtain rfl:j=rs[k].rows.length:=by omega
     have XA:Hid (o2=dh (ag (rs.take (k+1)))):=by
      show _=_;rw[HI.out,Nk _ _ hlt,ni,HP.out,Wo,WV]
     have hz4:o2.size<=(k+1)*5100000:=by omega
     have HB3:Hid (af w wr):=HB.out.trans (HB2.out.mono HB.out.size);go_wp2;go_roundw;case rel=>exact⟨k+1,o2,by omega,rfl,by go_num,XA,hz4,HB3⟩
     case measure=>simp[intOf]<;>omega
  ·obtain rfl:k=rs.length:=by omega
   have HN:Hid (out=dh (ag rs)):=by show _=_;rw[HP.out,Wo]
   go_wp2;go_ret;exact⟨by rw[HN.out];rfl,HB.out⟩
open Maps
set_option maxRecDepth 100000
theorem dQ{p:Prop}(h:p):Hid p:=h
def strOf:Value->Nat | .string b=>b.size|_=>0
def Uy(s:ByteArray)(w:World)(e:Ending)(w':World):Prop :=
 af w w'/\((dP (s.size+1) s []=none/\e=.returned (.tuple #[.slice none 0 0,.bool false])) \/ ∃(v:Value) (rs:Q06),dP (s.size+1) s []=some (ag rs)/\e=.returned (.tuple #[v,.bool true])/\iP w' w.heap.size v rs/\dh (ag rs)=s/\TJ (ag rs))
theorem Np{n:Nat}{rest:ByteArray}{acc:Q0b}(hn:rest.size<n)(h:rest.toList.isEmpty=true):dP n rest acc=some acc:=by
 cases n with
 | zero=>omega
 | succ n=>simp[dP,h]
theorem Nq{n:Nat}{rest:ByteArray}{acc:Q0b}(hn:rest.size<n)(h:rest.toList.isEmpty=false)(hc:pJ 10 rest=false):dP n rest acc=none:=by
 cases n with
 | zero=>omega
 | succ n=>simp[dP,h,hc]
theorem Nr{n:Nat}{rest:ByteArray}{acc:Q0b}(hn:rest.size<n)(h:rest.toList.isEmpty=false)(hc:pJ 10 rest=true)(hl:nR acc (kK 10 rest)=none):dP n rest acc=none:=by
 cases n with
 | zero=>omega
 | succ n=>simp[dP,h,hc,hl]
theorem Qi{n:Nat}{rest:ByteArray}{acc a:Q0b}(hn:rest.size<n)(h:rest.toList.isEmpty=false)(hc:pJ 10 rest=true)(hl:nR acc (kK 10 rest)=some a):dP n rest acc=dP (n-1) (iM 10 rest) a/\(iM 10 rest).size<n-1:=by
 have:=Hf hc;cases n with
 | zero=>omega
 | succ n=>exact⟨by simp[dP,h,hc,hl],by simp;omega⟩
theorem Qj{b:ByteArray}(h:b.toList.isEmpty=true):b=⟨#[]⟩:=by
 have h2:b.toList=[]:=by simpa using h
 rw[nk]at h2;exact jh (by simpa using h2)
theorem BB:Qe.toList=[116,121,112,101,32]:=by rw[nk];rfl
theorem Hl:Vu.toList=[61,32]:=by rw[nk];rfl
theorem Qk(w:ae)(a b:Value)(t:TypeId):∀j u,[a,b][j]?=some u->(w.alloc (.cells #[a,b] t)).cell? ((⟨w.heap.size,0,none⟩:Addr).add j)=some u:=by
 intro j u hu;rw[show(⟨w.heap.size,0,none⟩:Addr).add j=⟨w.heap.size,0+j,none⟩ by simp[Addr.add];omega,WB];have:=World.cell?_alloc_mark w #[a,b] t (0,0) j;rw[this];simpa using hu
theorem Ql(xs:Q06)(t t':TR)(hn:t'.name=t.name):((xs++[t]).flatMap TR.cells).set (xs.length*2+1) t'.vs=(xs++[t']).flatMap TR.cells:=by
 have hl:(xs.flatMap TR.cells).length=xs.length*2:=qh (fun _=>rfl) _;rw[WP,WP,List.set_append_right _ _ (by omega),hl];simp[TR.cells,hn]
theorem Vw(n:ByteArray)(ad:Q02)(k c:Nat):∀u∈[Value.string n,.slice ad k c],u.oneCell'=true:=by
 intro u hu;simp at hu;rcases hu with rfl|rfl<;>rfl
theorem Fy(s:ByteArray)(w:ae)(hs:s.size<=3000):Calls prog 162 #[.string s] w (Uy s w):=by
 obtain⟨iT0,hiT,zT0,zT1,zT2⟩:=info_parts (P:=prog) (e:=105) (z:=.agg #[.string ⟨#[]⟩,.slice none 0 0]) (size:=2) (bytes:=40) (by kernel_rfl);have HIT:Hid (prog.info? 105=some iT0/\iT0.zero=some (.agg #[.string ⟨#[]⟩,.slice none 0 0])/\iT0.size=2/\iT0.bytes=40):=⟨hiT,zT0,zT1,zT2⟩;obtain⟨iR0,hiR,zR0,zR1,zR2⟩:=info_parts (P:=prog) (e:=149) (z:=.agg #[.string ⟨#[]⟩,.slice none 0 0]) (size:=2) (bytes:=40) (by kernel_rfl);have YC:Hid (prog.info? 149=some iR0/\iR0.zero=some (.agg #[.string ⟨#[]⟩,.slice none 0 0])/\iR0.size=2/\iR0.bytes=40):=⟨hiR,zR0,zR1,zR2⟩;obtain⟨W0,hW0⟩:∃W0,W0=w.alloc (.cells #[] 105):=⟨_,rfl⟩;have HB0:=nC hW0;have HM0:Hid (iP W0 w.heap.size (.slice (some ⟨w.heap.size,0,none⟩) 0 0) []):=by
  show XK _ _ _ _ _ _ _ _ _;rw[hW0];exact⟨World.ownsRow_lit w #[] 0 (V4 _) (by unfold maxLen;omega) (by simp),fun q hq=>(by cases hq),fun q hq=>(by cases hq),fun x y hx=>absurd hx (by simp)⟩
 have hs5:(s.size:Int)<=50000:=by omega
 clear hiT zT0 zT1 zT2 hiR zR0 zR1 zR2;go_enter func162,ntmps162;go_wp2;rw[<-hW0];clear hW0;go_loopw[4,5] (fun v r wr=>∃(rs:Q06) (rest:ByteArray) (n:Nat),r=.string rest/\rest.size<=3000/\Hid (iP wr w.heap.size v rs)/\Hid (af w wr)/\Hid (dh (ag rs)++rest=s)/\Hid (TJ (ag rs))/\Hid (rest.size<n/\dP n rest (ag rs)=dP (s.size+1) s [])) (fun _ r _=>strOf r);case atStart=>exact⟨[],s,s.size+1,rfl,hs,HM0,HB0,by show _=_;exact sK _,fun t ht=>(by cases ht),by omega,rfl⟩
 clear HM0 HB0;obtain⟨rs,rest,n,rfl,hrs,HM,HB,HT,HK,HN⟩:=hrel;cases he:rest.toList.isEmpty;case true=>
  have HTX:Hid (dh (ag rs)=s):=by show _=_;rw[<-HT.out,Qj he,wy]
  have Yv:=dQ (Np (acc:=ag rs) HN.out.1 he);obtain⟨ad,cap,rfl,hsl,-⟩:=HM.out.read;obtain⟨k1,k2,k3,k4⟩:=rows_ok HK.out (by rw[HTX.out];exact hs);have XF:=dQ (Fx ad cap rs wr ⟨k1,fun r hr=>(k2 r hr).1,fun r hr=>(k2 r hr).2.1,fun r hr=>(k2 r hr).2.2⟩ hsl k3 k4);clear hsl k1 k2 k3 k4;go_wp2_with fail;refine XF.out.mono ?_;rintro e w1 ⟨hee,hb1⟩;rw[HTX.out]at hee;subst hee;have HB1:=dQ (HB.out.trans (hb1.mono HB.out.size));have HM1:=dQ (HM.out.below ow hb1);clear hb1 XF;go_wp2;exact bodyPost_ret (v:=.tuple #[.slice ad rs.length cap,.bool true]) (by simp[results,Tryz.results162,go_sem]) rfl ⟨HB1.out,.inr ⟨_,rs,by rw[<-HN.out.2,Yv.out],rfl,HM1.out,HTX.out,HK.out⟩⟩
 have HE:=dQ he;have h500:rs.length<=500:=(rows_ok HK.out (by have:=congrArg ByteArray.size HT.out;rw[Wv]at this;omega)).1;have HC:=dQ (Dy rest 10 wr (by unfold maxLen;omega));go_wp2_with fail;refine HC.out.mono ?_;rintro e w1 ⟨rfl,n0,hw1⟩;have hb1:af wr w1:=by rw[hw1];exact below_drewN (V5 _ _) n0
 have HB1:=dQ (HB.out.trans (hb1.mono HB.out.size));have HM1:=dQ (HM.out.below ow hb1);have hzz:=Le 10 rest;have hza:=RN 10 rest;clear hw1 hb1 HC HM HB;cases hc:pJ 10 rest;case false=>
  have Zl:=dQ (Nq (acc:=ag rs) HN.out.1 HE.out hc);go_wp2;exact bodyPost_ret (v:=.tuple #[.slice none 0 0,.bool false]) (by simp[results,Tryz.results162,go_sem]) rfl ⟨HB1.out,.inl ⟨by rw[<-HN.out.2,Zl.out],rfl⟩⟩
 have HCF:=dQ hc;have HJ:=dQ (Bw hc);have hless:=Hf hc;obtain⟨line,hline⟩:∃line,line=kK 10 rest:=⟨_,rfl⟩;obtain⟨more,hmore⟩:∃more,more=iM 10 rest:=⟨_,rfl⟩;rw[<-hline,<-hmore]at HJ;rw[<-hmore]at hzz hless;rw[<-hline]at hza;rw[<-hline,<-hmore];have HLI:=dQ hline;have HMO:=dQ hmore;clear hline hmore hc;have HON:Hid (∀a,nR (ag rs) line=some a->dP (n-1) more a=dP (s.size+1) s []/\more.size<n-1/\dh a++more=s/\TJ a):=fun a ha=>by
  have h1:=Qi (acc:=ag rs) HN.out.1 HE.out HCF.out (by rw[<-HLI.out];exact ha);rw[<-HMO.out]at h1;refine⟨by rw[<-h1.1,HN.out.2],h1.2,?_,Si ha HK.out⟩;rw[Nn ha,WV];have h2:=HT.out;rw[HJ.out]at h2;exact h2
 have HOFF:Hid (nR (ag rs) line=none->dP (s.size+1) s []=none):=fun ha=>by
  have h1:=Nr (acc:=ag rs) HN.out.1 HE.out HCF.out (by rw[<-HLI.out];exact ha);rw[<-HN.out.2,h1]
 cases ht:Bv line;case true=>
  have hl5:5<line.size:=by unfold Bv at ht;simp only[V9,Wn]at ht;exact ht.1
  have hty:((line.extract 0 5).toList==[116,121,112,101,32])=true:=by unfold Bv at ht;simp only[V9]at ht;rw[<-BB];exact ht.2
  have hd5:decide ((5:Int)<(line.size:Int))=true:=by simp;omega
  have HLP:Hid (nR (ag rs) line=some (ag (rs++[⟨line.extract 5 line.size,[],none,0⟩]))):=by show _=_;unfold nR;rw[ht];simp[ag,TR.p,eG]
  clear ht;obtain⟨nm,hnm⟩:∃nm,nm=line.extract 5 line.size:=⟨_,rfl⟩;obtain⟨W2,hW2⟩:∃W2,W2=w1.alloc (.cells #[.string nm,.slice none 0 0] 105):=⟨_,rfl⟩;have hb2:af w1 W2:=by rw[hW2];exact(V5 _ _).alloc (V4 _) _
  have X0:=dQ (HM1.out.below ow hb2);have HB2:=dQ (HB1.out.trans (hb2.mono HB1.out.size));have YZ:Hid (∀j u,[Value.string nm,.slice none 0 0][j]?=some u->W2.cell? ((⟨w1.heap.size,0,none⟩:Addr).add j)=some u):=by show ∀j u,_;rw[hW2];exact Qk w1 _ _ _
  rw [<-hnm]at HLP;rw [hnm]at hW2;clear hb2 hnm;go_wp2_with (at_builtin;rw [<-hW2];clear hW2;refine wpList_append_own_at _ rfl _ _ 24 rfl w.heap.size 105 iT0 (.agg #[.string ⟨#[]⟩,.slice none 0 0]) 2 40 underlying24 HIT.out.1 HIT.out.2.1 HIT.out.2.2.1 HIT.out.2.2.2 rfl (by decide) u4 _ (rs.flatMap TR.cells) rfl X0.out.own ⟨w1.heap.size,0,none⟩ 1 1 [.string nm,.slice none 0 0] rfl rfl YZ.out (Vw _ _ _ _) (by unfold maxLen;omega) (by omega) HB2.out.size ?_);intro v3 w3 hown3 hgr3 _ hat3;have ZP:Hid (iP w3 w.heap.size v3 (rs++[⟨nm,[],none,0⟩])):=X0.out.snoc ow (q:=⟨nm,[],none,0⟩) hown3 hgr3 (by
    rcases hat3 with e|e
    ·exact .inl e
    ·exact .inr ⟨_,e,V4 _⟩) (PT W2 w.heap.size) (fun g hg=>by
    rcases hg with hg|⟨q,hq,-⟩
    ·simp[TR.vs,Value.ownBlock]at hg
    ·cases hq) (fun p hp g hg hg2=>by
    rcases hg2 with hg2|⟨q,hq,-⟩
    ·simp[TR.vs,Value.ownBlock]at hg2
    cases hq)
  have HB3:Hid (af w w3):=HB2.out.grown hgr3 HB2.out.size (fun g hg=>(X0.out.own.lt g hg).1);obtain⟨o1,o2,o3,o4⟩:=HON.out _ HLP.out;have HO:=dQ (And.intro o2 o1);have XG:=dQ o3;have XE:=dQ o4;clear hown3 hgr3 hat3 o1 o2 o3 o4 X0 HB2 YZ hty hd5;go_wp2;go_roundw;case rel=>exact⟨_,more,n-1,rfl,by omega,ZP,HB3,XG,XE,HO⟩
  simp only[strOf];exact hless
 have HTY:=dQ ht;have h58:(5<line.size/\decide ((5:Int)<(line.size:Int))=true/\((line.extract 0 5).toList==[116,121,112,101,32])=false)\/decide ((5:Int)<(line.size:Int))=false:=by
  by_cases h5:5<line.size
  ·left;refine⟨h5,by simp;omega,?_⟩;unfold Bv at ht;rw[decide_eq_true h5,Bool.true_and,BB]at ht;exact ht
  right;simp;omega
 have XN:=dQ (Dy line 32 w1 (by unfold maxLen;omega));obtain⟨ad4,cap4,hv4,hsl4,-⟩:=iP.read HM1.out;subst hv4;clear ht hsl4;rcases h58 with⟨hl5,hd5,hty⟩|hd5
 all_goals (
  go_wp2_with fail;refine XN.out.mono ?_;rintro e w2 ⟨rfl,n1,hw2⟩;have hb2:af w1 w2:=by rw[hw2];exact below_drewN (V5 _ _) n1
  have HB2:=dQ (HB1.out.trans (hb2.mono HB1.out.size));have X0:=dQ (HM1.out.below ow hb2);have hzt:=Le 32 line;obtain⟨nm,hnm⟩:∃nm,nm=kK 32 line:=⟨_,rfl⟩;obtain⟨tl,htl⟩:∃tl,tl=iM 32 line:=⟨_,rfl⟩;rw[<-htl]at hzt;rw[<-hnm,<-htl];have HLP:Hid (nR (ag rs) line=if !(ag rs).isEmpty&&yE tl&&mY (tl.extract 2 tl.size) then some (Fw (ag rs) ⟨nm,(kV (tl.extract 2 tl.size)).out⟩) else none):=by show _=_;unfold nR DX;rw[HTY.out,hnm,htl];rfl
  clear hw2 hb2 XN HM1 HB1 hnm htl;by_cases hz:rs=[]
  ·subst hz;have Zl:Hid (dP (s.size+1) s []=none):=HOFF.out (by rw[HLP.out];rfl);go_wp2;exact bodyPost_ret (v:=.tuple #[.slice none 0 0,.bool false]) (by simp[results,Tryz.results162,go_sem]) rfl ⟨HB2.out,.inl ⟨Zl.out,rfl⟩⟩
  obtain⟨xs,t,hxt⟩:∃xs t,rs=xs++[t]:=⟨rs.dropLast,rs.getLast hz,(List.dropLast_concat_getLast hz).symm⟩;have HXT:=dQ hxt;have hlx:rs.length=xs.length+1:=by rw[hxt];simp
  have HNE:Hid ((!(ag rs).isEmpty)=true):=by show _=_;rw[hxt];simp[ag]
  obtain⟨b4,had4⟩:∃b4,ad4=some ⟨b4,0,none⟩:=by
   rcases X0.out.own.2 with⟨-,h0⟩|⟨g,cap,cur,e,-⟩
   ·exact absurd (Wu.1 h0) hz
   injection e with e1 e2 e3;exact⟨g,e1⟩
  subst had4;have hcell:=X0.out.own.cellAt (xs.length*2+1) (by omega);rw[sJ (fun _=>rfl) rs xs.length (by omega) 1 (by omega)]at hcell;have htx:rs[xs.length]'(by omega)=t:=by subst hxt;simp
  rw[htx]at hcell;have hcl:w2.cell? ⟨b4,xs.length*2+1,none⟩=some (.slice t.ad t.rows.length t.cap):=hcell;have HCL:=dQ hcl;have hn0:(0:Int)<=(xs.length:Int):=by omega
  have hn1:(xs.length:Int)<(xs.length:Int)+1:=by omega
  have HLX:=dQ hlx;have hx500:xs.length<500:=by omega
  have h500':=h500;rw[hlx];clear hz hxt hlx hcell htx hcl h500;by_cases h2:tl.size<2
  ·have hd2:decide ((tl.size:Int)<2)=true:=by simp;omega
   have Zl:Hid (dP (s.size+1) s []=none):=HOFF.out (by rw[HLP.out];simp[yE];omega);go_wp2;exact bodyPost_ret (v:=.tuple #[.slice none 0 0,.bool false]) (by simp[results,Tryz.results162,go_sem]) rfl ⟨HB2.out,.inl ⟨Zl.out,rfl⟩⟩
  have hd2:decide ((tl.size:Int)<2)=false:=by simp;omega
  have h22:2<=tl.size:=by omega
  cases hq:(tl.extract 0 2).toList==[61,32];case false=>
   have hq2:(!(tl.extract 0 2).toList==[61,32])=true:=by rw[hq];rfl
   have Zl:Hid (dP (s.size+1) s []=none):=HOFF.out (by rw[HLP.out];unfold yE;rw[Hl,hq];simp);go_wp2;exact bodyPost_ret (v:=.tuple #[.slice none 0 0,.bool false]) (by simp[results,Tryz.results162,go_sem]) rfl ⟨HB2.out,.inl ⟨Zl.out,rfl⟩⟩
  have hq2:(!(tl.extract 0 2).toList==[61,32])=false:=by rw[hq];rfl
  have HTB:Hid (yE tl=true):=by show _=_;unfold yE;rw[Hl,hq,decide_eq_true h22];rfl
  have HRE:=dQ (xE (tl.extract 2 tl.size) w2);go_wp2_with fail;refine HRE.out.mono ?_;rintro e w3 ⟨hb3,hcase⟩;have HB3:=dQ (HB2.out.trans (hb3.mono HB2.out.size));have ZP:=dQ (X0.out.below ow hb3);have h23:w2.heap.size<=w3.heap.size:=hb3.size;have HLT2:Hid (∀g,G9 iT (.slice (some ⟨b4,0,none⟩) rs.length cap4) rs g->g<w2.heap.size):=fun g hg=>(X0.out.lt ow hg).2;have hc3:w3.cell? ⟨b4,xs.length*2+1,none⟩=some (.slice t.ad t.rows.length t.cap):=(hb3.cell (p:=⟨b4,xs.length*2+1,none⟩) (X0.out.own.lt b4 rfl).2).trans HCL.out;rcases hcase with⟨hrb,rfl⟩|⟨hrb,v,R,qs,rfl,hF⟩
  ·have Zl:Hid (dP (s.size+1) s []=none):=HOFF.out (by rw[HLP.out,hrb];simp);clear hb3 hc3 X0 HB2 HRE;go_wp2;exact bodyPost_ret (v:=.tuple #[.slice none 0 0,.bool false]) (by simp[results,Tryz.results162,go_sem]) rfl ⟨HB3.out,.inl ⟨Zl.out,rfl⟩⟩
  obtain⟨Xw,capE,hvE⟩:∃Xw capE,v=.slice Xw qs.length capE:=by
   obtain⟨a1,a2,a3,-⟩:=hF.slE;exact⟨a1,a2,a3⟩
  subst hvE;have HNOD:=dQ (hF.nod);have HEX:=dQ hF.out;have HRB:=dQ hrb;obtain⟨W5,YI⟩:∃W5,W5=w3.alloc (.cells #[.string nm,.slice Xw qs.length capE] 149):=⟨_,rfl⟩;have hb5:af w3 W5:=by rw[YI];exact(V5 _ _).alloc (V4 _) _
  have HM5:=dQ (ZP.out.below ow hb5);have Yi:=dQ (HB3.out.trans (hb5.mono HB3.out.size));have YZ:Hid (∀j u,[Value.string nm,.slice Xw qs.length capE][j]?=some u->W5.cell? ((⟨w3.heap.size,0,none⟩:Addr).add j)=some u):=by show ∀j u,_;rw[YI];exact Qk w3 _ _ _
  obtain⟨q,hqd⟩:∃q:RR,q=⟨nm,qs,Xw,capE⟩:=⟨_,rfl⟩;have HQD:=dQ hqd;have hkq3:kR w3 (w2.heap.size+1) q:=by rw[hqd];exact HNOD.out
  have hIq:∀g,iR q g->w2.heap.size+1<=g:=fun g hg=>(JZ.lt w3 _ q hkq3 g hg).1;have hkq5:kR W5 w.heap.size q:=JZ.heap w3 W5 w.heap.size q (hkq3.mono (by have:=HB2.out.size;omega)) hb5.size (fun g hg=>hb5.block g (JZ.lt w3 _ q hkq3 g hg).2);have HIQ:=dQ hIq;have W5_ge:Hid (w2.heap.size<=W5.heap.size):=Wh h23 hb5.size;have HKQ:=dQ hkq5;have Zx:Hid (kT W5 w.heap.size t):=HM5.out.kid t (by rw[HXT.out];simp);have HTLT:Hid (∀g,iT t g->g<w2.heap.size):=fun g hg=>HLT2.out g (.inr ⟨t,by rw[HXT.out];simp,hg⟩);have ht750:t.rows.length<=750:=((rows_ok HK.out (by have:=congrArg ByteArray.size HT.out;rw[Wv]at this;omega)).2.1 t (by rw[HXT.out];simp)).1;have hc5:W5.cell? ⟨b4,xs.length*2+1,none⟩=some (.slice t.ad t.rows.length t.cap):=(hb5.cell (p:=⟨b4,xs.length*2+1,none⟩) (VY (X0.out.own.lt b4 rfl).2 h23)).trans hc3;have HC5:=dQ hc5;have hfz:W5.frozen? ⟨b4,xs.length*2+1,none⟩=false:=HM5.out.own.frozenAt _;have HFZ:=dQ hfz;clear hb3 hF hrb hkq3 hkq5 hIq hqd hc5 hb5 X0 HB2 HRE ZP HB3 HNOD hfz;go_wp2_with(at_builtin;rw[<-YI];clear YI;refine wpList_append_own_at _ rfl _ _ 103 rfl w.heap.size 149 iR0 (.agg #[.string ⟨#[]⟩,.slice none 0 0]) 2 40 underlying103 YC.out.1 YC.out.2.1 YC.out.2.2.1 YC.out.2.2.2 rfl (by decide) (.slice t.ad t.rows.length t.cap) _ (t.rows.flatMap RR.cells) rfl Zx.out.own ⟨w3.heap.size,0,none⟩ 1 1 [.string nm,.slice Xw qs.length capE] rfl rfl YZ.out (Vw _ _ _ _) (by unfold maxLen;omega) (by omega) Yi.out.size ?_);intro v6 w6 hown6 hgr6 _ hat6;obtain⟨g6,c6,hv6⟩:=fJ hown6;subst hv6;have hqv:q.vs=.slice Xw qs.length capE:=by rw[HQD.out];rfl
  have hneb:some b4≠(Value.slice t.ad t.rows.length t.cap).ownBlock:=fun e=>HM5.out.head t (by rw[HXT.out];simp) b4 (.inl e.symm) rfl;have hc6:w6.cell? ⟨b4,xs.length*2+1,none⟩=some (.slice t.ad t.rows.length t.cap):=hgr6.cell HC5.out hneb;have hf6:w6.frozen? ⟨b4,xs.length*2+1,none⟩=false:=(World.frozen?_of_block (w:=W5) (a:=⟨b4,xs.length*2+1,none⟩) (hgr6.block b4 (HM5.out.own.lt b4 rfl).2 hneb)).trans HFZ.out;obtain⟨t',ht'⟩:∃t':TR,t'=⟨t.name,t.rows++[q],some ⟨g6,0,none⟩,c6⟩:=⟨_,rfl⟩;have hvt':t'.vs=.slice (some ⟨g6,0,none⟩) (t.rows.length+1) c6:=by rw[ht'];simp[TR.vs]
  have hkt':kT w6 w.heap.size t':=by
   have h1:Cv w6 w.heap.size (.slice (some ⟨g6,0,none⟩) (t.rows.length+1) c6) (t.rows++[q]):=Zx.out.snoc JZ (q:=q) (by
     rw[show RR.cells q=[.string nm,.slice Xw qs.length capE] by unfold RR.cells;rw[hqv,HQD.out]];exact hown6) hgr6 (by
     rcases hat6 with e|e
     ·exact .inl e
     ·exact .inr ⟨_,e,V4 _⟩) HKQ.out (fun g hg e=>by
     have h2:=HTLT.out g (.inl e);have h3:=HIQ.out g hg;omega) (fun p hp g hg hg2=>by
     have h2:=HTLT.out g (.inr ⟨p,hp,hg⟩);have h3:=HIQ.out g hg2;omega)
   unfold kT;rw[hvt',ht'];exact h1
  have hI':∀g,iT t' g->iT t g\/(g≠b4/\∀p∈xs,¬iT p g):=fun g hg=>by
   have aaa:w2.heap.size<=g->g≠b4/\∀p∈xs,¬iT p g:=fun hge=>⟨fun e=>by
     have:=HLT2.out b4 (.inl rfl);omega,fun p hp hi=>by
     have:=HLT2.out g (.inr ⟨p,by rw[HXT.out];simp[hp],hi⟩);omega⟩
   rcases hg with hg|⟨p,hp,hg⟩
   ·rw[hvt']at hg;rcases hat6 with e|e
    ·exact .inl (.inl (e.symm.trans hg))
    rw[e]at hg;injection hg with hg;exact .inr (aaa (by have:=W5_ge.out;omega))
   rw[ht']at hp;rcases Wj.1 hp with hp|hp
   ·exact .inl (.inr ⟨p,hp,hg⟩)
   rw[Wl]at hp;subst hp;exact .inr (aaa (by have:=HIQ.out g hg;omega))
  have HM7:Hid (iP (w6.setCell ⟨b4,xs.length*2+1,none⟩ (.slice (some ⟨g6,0,none⟩) (t.rows.length+1) c6)) w.heap.size (.slice (some ⟨b4,0,none⟩) (xs.length+1) cap4) (xs++[t'])):=by
   have hM:=HM5.out;rw[HLX.out,HXT.out]at hM;refine XK.last ow hM rfl hgr6 (fun r hr=>.inl hr) hkt' hI' ?_;rw[<-hvt',show t'.vs=t'.vs from rfl];exact Ql xs t t' (by rw[ht'])
  have HB7:Hid (af w (w6.setCell ⟨b4,xs.length*2+1,none⟩ (.slice (some ⟨g6,0,none⟩) (t.rows.length+1) c6))):=(Yi.out.grown hgr6 Yi.out.size (fun g hg=>(Zx.out.own.lt g hg).1)).setCell (HM5.out.own.lt b4 rfl).1 _;have HTY7:Hid (nR (ag rs) line=some (ag (xs++[t']))):=by
   show _=_;rw[HLP.out,HNE.out,HTB.out,HRB.out,HXT.out,ht'];simp only[Bool.and_true,if_true];rw[show ag (xs++[t])=ag xs++[t.p] by simp[ag],rO];simp[ag,TR.p,eG,RR.p,HQD.out,HEX.out]
  obtain⟨o1,o2,o3,o4⟩:=HON.out _ HTY7.out;have HO:=dQ (And.intro o2 o1);have XG:=dQ o3;have XE:=dQ o4;clear hown6 hgr6 hat6 o1 o2 o3 o4 hkt' hI' hvt' ht' hqv hneb HM5 Yi Zx HKQ;go_wp2;go_roundw;case rel=>exact⟨_,more,n-1,rfl,by omega,HM7,HB7,XG,XE,HO⟩
  simp only[strOf];exact hless)
end Go.Proofs.YtcgdckphpjfmhaaGreatDoor
