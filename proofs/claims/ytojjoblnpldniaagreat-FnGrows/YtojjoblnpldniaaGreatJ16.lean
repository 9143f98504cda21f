/- A schema's text, in plain words, and how long it can be. -/
import Derived.Test.YtojjoblnpldniaaGreatSq
import Derived.Test.YtojjoblnpldniaaGreatJ15
import Derived.Test.YtojjoblnpldniaaGreatJ11
open Go.Proofs.Tryz
set_option maxHeartbeats 80000000
namespace Go.Proofs.YtojjoblnpldniaaGreat
open Pl
def sm:List Nat->Nat
 | []=>0
 | x::xs=>x+sm xs
theorem DK:∀xs ys:List Nat,sm (xs++ys)=sm xs+sm ys
 | [],ys=>by simp[sm]
 | x::xs,ys=>by rw[V9];simp only[sm];rw[DK xs ys];omega
theorem Ng(sep:ByteArray)(xs:List ByteArray):(fD sep xs).size<=sm (xs.map fun x=>x.size+sep.size):=by
 suffices h:∀ys:List ByteArray,(fD sep ys.reverse).size<=sm (ys.reverse.map fun x=>x.size+sep.size) by
  have:=h xs.reverse;rwa [List.reverse_reverse]at this
 intro ys
 induction ys with
 | nil=>exact Vr _
 | cons y ys ih =>
  rw[List.reverse_cons,oW,Wu,DK];simp only[WF,List.map_nil,sm];split
  ·omega
  simp only[VK];omega
def lc(f:Int->Int):List Int->Int
 | []=>0
 | k::ks=>(k-f k+1)+lc f ks
theorem vS(f:Int->Int):∀xs ys:List Int,lc f (xs++ys)=lc f xs+lc f ys
 | [],ys=>by simp[lc]
 | x::xs,ys=>by rw[V9];simp only[lc];rw[vS f xs ys];omega
theorem sU(f:Int->Int):∀xs:List Int,lc f xs.reverse=lc f xs
 | []=>rfl
 | x::xs=>by rw[List.reverse_cons,vS,sU f xs];simp only[lc];omega
theorem yh{f:Int->Int}:∀(ks:List Int) (a:Int),0<=cZ f ks a->lc f ks=a+1-cZ f ks a
 | [],a,_=>by simp[lc,cZ]
 | k::ks,a,h=>by
  unfold cZ at h⊢;split at h
  ·omega
  rename_i h1;rw[if_neg h1];split at h
  ·omega
  rename_i h2;rw[if_neg h2];have hk:k=a:=Decidable.byContradiction fun e=>h1 (.inr e);subst hk;simp only[lc];rw[yh ks _ h];omega
theorem R7{es:Q09}(hes:Tu es)(ht:∀j,j<es.length->0<=ay es j)(n:Nat):n<es.length->∀i,((iU es n i).size:Int)<=250*((n:Int)-ay es n+1):=by
 induction n using Nat.strongRecOn with
 | ind n ih =>
  intro hn i;have hle:=il es n;have h1:=Gs (EH es n) i (l6 (jF es n) (EH es n));unfold iU
  suffices h:((l6 (jF es n) (EH es n)).size:Int)<=250*((n:Int)-ay es n+1)-10 by omega
  have WK:=hes.2.1 n hn;obtain⟨hk5,-⟩:=qI WK;rw[EK hn];unfold l6;unfold av at WK;split
  ·rename_i k;rw[if_pos k]at WK;simp only[Vt]at WK;have:=jZ WK.1.1.1;omega
  rename_i k1;rw[if_neg k1]at WK;split
  ·rename_i k2;rw[if_pos k2]at WK;simp only[Vt]at WK;have:=bI WK.1.1.1;omega
  rename_i k2;rw[if_neg k2]at WK;split
  ·rename_i k3;rw[if_pos k3]at WK;simp only[Vt]at WK;have h1:=bI WK.1.1.1;have h2:=bI WK.1.1.2;have e1:(⟨#[45,62]⟩:ByteArray).size=2:=rfl;simp only[VK];omega
  have hj:=Ng (gF es[n].kind) (es[n].kids.map (jF es n));rw[l5,List.map_map]at hj;have hspan:lc (dA es n) es[n].kids=(n:Int)-ay es n:=by
   have h0:=ht n hn;rw[jg]at h0;have h2:=yh _ _ h0;rw[sU,<-jg]at h2;have e:dC es n=es[n].kids:=by simp[dC,hn]
   rw[e]at h2;omega
  have hsum:∀ks:List Int,(∀k∈ks,0<=k/\k.toNat<n)->(sm (ks.map ((fun x:ByteArray=>x.size+3) ∘ jF es n)):Int)<=250*lc (dA es n) ks+3*(ks.length:Int):=by
   intro ks
   induction ks with
   | nil=>intro _;simp[sm,lc]
   | cons k ks ih2 =>
    intro hks;obtain⟨hk0,hk1⟩:=hks k (We ..);have h3:=ih2 fun x hx=>hks x (V4 _ hx);have h4:=ih k.toNat hk1 (by omega) true;have e1:jF es n k=iU es k.toNat true:=by unfold jF;rw[if_pos hk1,EJ]
    have e2:dA es n k=ay es k.toNat:=by unfold dA;rw[if_pos ⟨hk0,hk1⟩]
    have e3:((k.toNat:Nat):Int)=k:=by omega
    simp only[WF,sm,lc,Function.comp_apply,VS];rw[e1,e2];rw[e3]at h4;omega
  have h5:=hsum es[n].kids (uY hes hn);rw[hspan]at h5;have:(es[n].kids.length:Int)<=5:=by omega
  omega
theorem Qg{es:Q09}(h:aK es=true):∀j,j<es.length->0<=ay es j:=by
 rw[wT]at h;unfold kY at h;simp only[Vt,VF]at h;have h1:=h.2.1;unfold jE at h1;rw[VC]at h1;intro j hj;simpa using h1 j (by simpa using hj)
theorem Fe(es:Q09):(gM es).size<=3750:=by
 by_cases h:aK es=true
 ·have ht:=Qg h;have hf:=nZ h;have h1:=R7 (Pp h) ht (es.length-1) (by omega) false;have h2:=ht (es.length-1) (by omega);rw[AR h];omega
 rw[DC (by simpa using h)];show 0<=3750;omega
def GZ(r:Rl):ByteArray:=((r.name++⟨#[32,61,32]⟩)++gM r.expr)++⟨#[10]⟩
def dQ:List Rl->ByteArray
 | []=>⟨#[]⟩
 | r::rs=>GZ r++dQ rs
def mH(n:ByteArray):ByteArray:=(⟨#[116,121,112,101,32]⟩++n)++⟨#[10]⟩
def dx:List Ty->ByteArray
 | []=>⟨#[]⟩
 | t::ts=>(mH t.name++dQ t.rels)++dx ts
theorem vV(a:ByteArray):a++(⟨#[]⟩:ByteArray)=a:=by apply jh;simp[ByteArray.data_append]
theorem q9:∀(xs:List Rl) (r:Rl),dQ (xs++[r])=dQ xs++GZ r
 | [],r=>by simp only[Ww,dQ,vV,r9]
 | x::xs,r=>by rw[V9];simp only[dQ];rw[q9 xs r,<-Wm]
theorem mI:∀(xs:Q0b) (t:Ty),dx (xs++[t])=dx xs++(mH t.name++dQ t.rels)
 | [],t=>by simp only[Ww,dx,vV,r9]
 | x::xs,t=>by rw[V9];simp only[dx];rw[mI xs t,<-Wm]
theorem Nh(rs:Q07)(k:Nat)(h:k<rs.length):eQ (rs.take (k+1))=eQ (rs.take k)++[⟨rs[k].name,aj rs[k].rows⟩]:=by
 rw[Vu h];unfold eQ;rw[Wu];rfl
theorem Ni(rs:Q06)(k:Nat)(h:k<rs.length):af (rs.take (k+1))=af (rs.take k)++[⟨rs[k].name,eQ rs[k].rows⟩]:=by
 rw[Vu h];unfold af;rw[Wu];rfl
theorem yj(n:ByteArray):(mH n).size=n.size+6:=by
 have e1:(⟨#[116,121,112,101,32]⟩:ByteArray).size=5:=rfl;have e2:(⟨#[10]⟩:ByteArray).size=1:=rfl;unfold mH;simp only[VK];omega
def Qh:ByteArray:=⟨#[116,121,112,101,32]⟩
def U1:ByteArray:=⟨#[61,32]⟩
def U2:ByteArray:=⟨#[10]⟩
def Ba(l:ByteArray):Bool:=decide (5<l.size)&&(l.extract 0 5).toList==Qh.toList
def ym(t:ByteArray):Bool:=decide (2<=t.size)&&(t.extract 0 2).toList==U1.toList
def DL(l:ByteArray):ByteArray:=(iC 32 l).extract 2 (iC 32 l).size
def Ff(acc:Q0b)(r:Rl):List Ty:=match acc.getLast? with
 | none=>[]
 | some t=>acc.dropLast++[⟨t.name,t.rels++[r]⟩]
theorem rf(xs:Q0b)(t:Ty)(r:Rl):Ff (xs++[t]) r=xs++[⟨t.name,t.rels++[r]⟩]:=by
 unfold Ff;simp
def nk(acc:Q0b)(l:ByteArray):Option (List Ty) :=
 if Ba l then some (acc++[⟨l.extract 5 l.size,[]⟩])
 else if !acc.isEmpty&&ym (iC 32 l)&&mG (DL l) then some (Ff acc ⟨kw 32 l,(kI (DL l)).out⟩) else none
def dR:Nat->ByteArray->List Ty->Option (List Ty)
 | 0,_,acc=>some acc
 | n+1,rest,acc =>
  if rest.toList.isEmpty then some acc
  else if oN 10 rest then
   match nk acc (kw 10 rest) with
   | none=>none
   | some a=>dR n (iC 10 rest) a
  else none
theorem mJ(b:ByteArray):b.toList=b.data.toList:=Go.ByteArray.toList_eq b
theorem Nj(c:UInt8)(l:List UInt8)(h:(iL c l).2.2=true):l=(iL c l).1++c::(iL c l).2.1:=by
 induction l with
 | nil=>simp[iL]at h
 | cons b l ih =>
  unfold iL at h⊢;split
  ·rename_i e;simp[e]
  rename_i e;rw[if_neg e]at h;simp only[V9,List.cons.injEq,true_and];exact ih h
theorem Bb{c:UInt8}{s:ByteArray}(h:oN c s=true):s=(kw c s++⟨#[c]⟩)++iC c s:=by
 apply jh;have:=Nj c s.data.toList h;simpa[kw,iC,ByteArray.data_append] using this
theorem G5{c:UInt8}{s:ByteArray}(h:oN c s=true):(iC c s).size<s.size:=by
 have:=congrArg ByteArray.size (Bb h);have e1:(⟨#[c]⟩:ByteArray).size=1:=rfl;simp only[VK,e1]at this;omega
theorem G6(l:ByteArray)(k:Nat)(hk:k<=l.size):l=l.extract 0 k++l.extract k l.size:=by
 apply jh;rw[Ws,ByteArray.data_extract,ByteArray.data_extract];have hk':k<=l.data.size:=hk;have h2:l.size=l.data.size:=rfl;rw[h2];simp;rw[show max k l.size=l.data.toList.length by simp[Nat.max_def];omega,VI]
theorem toList_inj{a b:ByteArray}(h:a.toList=b.toList):a=b:=by
 rw[mJ,mJ]at h;exact jh h
theorem Qi{l:ByteArray}(h:Ba l=true):l=Qh++l.extract 5 l.size:=by
 unfold Ba at h;simp only[Vt,VF,beq_iff_eq]at h;have e:=toList_inj h.2
 conv=>lhs;rw[G6 l 5 (by omega),e]
theorem Qj{l:ByteArray}(h:ym (iC 32 l)=true):l=((kw 32 l++⟨#[32,61,32]⟩)++DL l):=by
 unfold ym at h;simp only[Vt,VF,beq_iff_eq]at h;have hf:oN 32 l=true:=by
  cases e:oN 32 l;case true=>rfl
  rw[OI e]at h;exact absurd h.1 (by decide)
 have e:=toList_inj h.2;have e2:iC 32 l=U1++DL l:=by
  conv=>lhs;rw[G6 (iC 32 l) 2 h.1,e]
  rfl
 have e3:(⟨#[32,61,32]⟩:ByteArray)=⟨#[32]⟩++U1:=by apply jh;simp[ByteArray.data_append,U1]
 conv=>lhs;rw[Bb hf,e2]
 rw[e3];simp only[Wm]
theorem Bc{s:ByteArray}(h:mG s=true):gM (kI s).out=s/\s.size<=1000/\aK (kI s).out=true:=by
 unfold mG at h;simp only[Vt,VF,beq_iff_eq]at h;exact⟨toList_inj h.2,h.1.1.1.1,h.1.2⟩
theorem Nk{acc acc':Q0b}{l:ByteArray}(h:nk acc l=some acc'):dx acc'=dx acc++(l++U2):=by
 unfold nk at h;split at h
 ·rename_i ht;injection h with h;subst h;rw[mI]
  conv=>rhs;rw[Qi ht]
  simp only[mH,dQ,vV];rfl
 split at h
 ·rename_i h2;injection h with h;subst h;simp only[Vt,Bool.not_eq_true']at h2;obtain⟨⟨h3,h4⟩,h5⟩:=h2;have hne:acc≠[]:=fun e=>by rw[e]at h3;simp at h3
  have e1:=List.dropLast_concat_getLast hne;rw[<-e1,rf,mI,mI,q9]
  conv=>rhs;rw[Qj h4]
  have e2:=(Bc h5).1;simp only[GZ,e2,Wm];rfl
 cases h
def TB(T:Q0b):Prop:=∀t∈T,∀r∈t.rels,r.expr.length<=15/\∀e∈r.expr,e.light/\e.fits
theorem R8{acc acc':Q0b}{l:ByteArray}(h:nk acc l=some acc')(hk:TB acc):TB acc':=by
 unfold nk at h;split at h
 ·injection h with h;subst h;intro t ht r hr;rcases VE.1 ht with ht|ht
  ·exact hk t ht r hr
  rw[VD]at ht;subst ht;cases hr
 split at h
 ·rename_i h2;injection h with h;subst h;simp only[Vt,Bool.not_eq_true']at h2;obtain⟨⟨h3,h4⟩,h5⟩:=h2;have hne:acc≠[]:=fun e=>by rw[e]at h3;simp at h3
  have e1:=List.dropLast_concat_getLast hne;obtain⟨-,hs,hsp⟩:=Bc h5;intro t ht r hr;rw[<-e1,rf]at ht;rcases VE.1 ht with ht|ht
  ·exact hk t (by rw[<-e1];exact Wo _ ht) r hr
  rw[VD]at ht;subst ht;rcases VE.1 hr with hr|hr
  ·exact hk (acc.getLast hne) (List.getLast_mem hne) r hr
  rw[VD]at hr;subst hr;refine⟨(nZ hsp).2,fun e he=>?_⟩;exact(Qe (s:=DL l) _ true ⟨0,false,[]⟩ (Vv _) (fun e he=>by cases he) e he).light hs
 cases h
theorem yn:∀(rs:List Rl),rs.length*4<=(dQ rs).size/\∀r∈rs,r.name.size+4<=(dQ rs).size
 | []=>⟨by simp,fun r hr=>by cases hr⟩
 | r::rs=>by
  obtain⟨h1,h2⟩:=yn rs;have e1:(⟨#[32,61,32]⟩:ByteArray).size=3:=rfl;have e2:(⟨#[10]⟩:ByteArray).size=1:=rfl;have h3:(dQ (r::rs)).size=r.name.size+3+(gM r.expr).size+1+(dQ rs).size:=by simp only[dQ,GZ,VK,e1,e2]
  refine⟨by rw[h3,VS];omega,fun q hq=>?_⟩;rcases VH.1 hq with rfl|hq
  ·omega
  have:=h2 q hq;omega
theorem Bd:∀(T:Q0b),T.length*6<=(dx T).size/\∀t∈T,t.name.size+6+(dQ t.rels).size<=(dx T).size
 | []=>⟨by simp,fun r hr=>by cases hr⟩
 | t::ts=>by
  obtain⟨h1,h2⟩:=Bd ts;have h3:(dx (t::ts)).size=t.name.size+6+(dQ t.rels).size+(dx ts).size:=by simp only[dx,VK,yj]
  refine⟨by rw[h3,VS];omega,fun q hq=>?_⟩;rcases VH.1 hq with rfl|hq
  ·omega
  have:=h2 q hq;omega
theorem rows_ok{rs:Q06}(hk:TB (af rs))(hz:(dx (af rs)).size<=3000):rs.length<=500/\(∀r∈rs,r.rows.length<=750/\r.name.size<=3000/\∀q∈r.rows,q.name.size<=3000)/\(∀r∈rs,r.light)/\∀r∈rs,r.fits:=by
 obtain⟨h1,h2⟩:=Bd (af rs);rw[lw]at h1;have key:∀r∈rs,r.rows.length<=750/\r.name.size<=3000/\∀q∈r.rows,q.name.size<=3000:=fun r hr=>by
  have h3:=h2 r.p (VG.2 ⟨r,hr,rfl⟩);obtain⟨h4,h5⟩:=yn (eQ r.rows);rw[rM]at h4;have h6:r.name.size+6+(dQ (eQ r.rows)).size<=(dx (af rs)).size:=h3;refine⟨by omega,by omega,fun q hq=>?_⟩;have:=h5 q.p (VG.2 ⟨q,hq,rfl⟩);have h7:q.name.size+4<=(dQ (eQ r.rows)).size:=this;omega
 have kex:∀r∈rs,∀q∈r.rows,q.rows.length<=15/\∀x∈q.rows,x.e.light/\x.e.fits:=fun r hr q hq=>by
  have:=hk r.p (VG.2 ⟨r,hr,rfl⟩) q.p (VG.2 ⟨q,hq,rfl⟩);exact⟨by rw[<-aX];exact this.1,fun x hx=>this.2 x.e (VG.2 ⟨x,hx,rfl⟩)⟩
 refine⟨by omega,key,fun r hr=>⟨by have:=(key r hr).1;omega,fun q hq=>⟨by have:=(kex r hr q hq).1;omega,fun x hx=>((kex r hr q hq).2 x hx).1⟩⟩,fun r hr=>⟨by have:=(key r hr).2.1;unfold maxLen;omega,by have:=(key r hr).1;unfold maxLen;omega,fun q hq=>⟨by have:=(key r hr).2.2 q hq;unfold maxLen;omega,by have:=(kex r hr q hq).1;unfold maxLen;omega,fun x hx=>((kex r hr q hq).2 x hx).2⟩⟩⟩
open ChangeAt ChangeShapes RowKit WideShapes
theorem Uf(o n e:ByteArray):(((o++n)++⟨#[32,61,32]⟩)++e)++⟨#[10]⟩=o++(((n++⟨#[32,61,32]⟩)++e)++⟨#[10]⟩):=by
 simp only[Wm]
theorem Qk(o n:ByteArray):((o++⟨#[116,121,112,101,32]⟩)++n)++⟨#[10]⟩=o++mH n:=by
 unfold mH;simp only[Wm]
structure Small3(rs:Q06):Prop where
 six:rs.length<=500
 rels:∀r∈rs,r.rows.length<=750
 name:∀r∈rs,r.name.size<=3000
 names:∀r∈rs,∀q∈r.rows,q.name.size<=3000
set_option maxRecDepth 100000 in
theorem Fg(ad:Q02)(cap:Nat)(rs:Q06)(w:ae)(hm:Small3 rs)(hs:mP w ad rs)(hl:∀r∈rs,r.light)(hf:∀r∈rs,r.fits):
  Calls prog 108 #[.slice ad rs.length cap] w fun e w'=>e=.returned (.string (dx (af rs)))/\ag w w':=by
 have HS:=aC hs;have HL:=aC hl;have WR:=aC hf;have HM:=aC hm;have h6:=hm.six;clear hs hl hf hm;go_enter func108,ntmps108;go_wp2;go_loopw[3,4] (fun o i wr=>∃(k:Nat) (out:ByteArray),k<=rs.length/\o=.string out/\i=.int .i64 k/\Hid (out=dx (af (rs.take k)))/\out.size<=k*5100000/\Hid (ag w wr)) (fun _ i _=>rs.length-(intOf i).toNat);case atStart=>exact⟨0,⟨#[]⟩,Vv _,rfl,rfl,rfl,Vv _,Vs _ _⟩
 case round =>
  obtain⟨k,out,hk,rfl,rfl,HP,hz,HB⟩:=hrel;obtain⟨wo,rfl⟩:∃x,x=wr:=⟨_,rfl⟩;by_cases hlt:k<rs.length
  ·rcases HS.out.below HB.out with rfl|⟨b,off,rfl,hb,hr,hok⟩
   ·simp at hlt
   obtain⟨t0,t1⟩:=hr k hlt;have XN:Hid (rs[k].ok wo):=hok rs[k] (Vp hlt);have hn12:=HM.out.name rs[k] (Vp hlt);have Yt:=HM.out.rels rs[k] (Vp hlt);have HN12:Hid (∀q∈rs[k].rows,q.name.size<=3000):=HM.out.names rs[k] (Vp hlt);have Y4:Hid (rs[k].light):=HL.out _ (Vp hlt);have YO:Hid (rs[k].fits):=WR.out _ (Vp hlt);have hk1:=bC k;have hk2:(k:Int)<(rs.length:Int):=by omega
   have hrl:(rs[k].rows.length:Int)<=750:=by omega
   clear hr hok;go_wp2;go_loopw[3,5] (fun o i wr=>∃(j:Nat) (o2:ByteArray),j<=rs[k].rows.length/\o=.string o2/\i=.int .i64 j/\Hid (o2=(out++mH rs[k].name)++dQ (eQ (rs[k].rows.take j)))/\o2.size<=k*5100000+3010+j*6760/\Hid (ag wo wr)) (fun _ i _=>rs[k].rows.length-(intOf i).toNat);case atStart=>exact⟨0,_,Vv _,rfl,rfl,by show _=_;rw[Qk,List.take_zero,show eQ []=[] from rfl];simp only[dQ,vV],by rw[Qk,VK,yj];omega,Vs _ _⟩
   case round =>
    obtain⟨j,o2,hj,rfl,rfl,HI,hz2,HB2⟩:=hrel;replace t0:=aA HB2.out hb t0;replace t1:=aA HB2.out hb t1;have hbw:b<wr.heap.size:=Vq hb HB2.out.size;by_cases hjl:j<rs[k].rows.length
    ·rcases XN.out.below HB2.out with hnil|⟨b2,Xd,had,hb2,hr2,hok2⟩
     ·rw[hnil]at hjl;simp at hjl
     rw[had]at t1;obtain⟨u0,u1⟩:=hr2 j hjl;have HOQ:Hid (rs[k].rows[j].ok wr):=hok2 rs[k].rows[j] (Vp hjl);have hj1:=bC j;have hj2:(j:Int)<(rs[k].rows.length:Int):=by omega
     have hq12:=HN12.out _ (Vp hjl);have HQL:Hid (rs[k].rows[j].light):=Y4.out.2 _ (Vp hjl);have HQF:Hid (rs[k].rows[j].fits):=YO.out.2.2 _ (Vp hjl);obtain⟨ex,hex⟩:∃ex,ex=gM (aj rs[k].rows[j].rows):=⟨_,rfl⟩;have HEX:Hid (ex=gM (aj rs[k].rows[j].rows)):=hex;have hxs:ex.size<=3750:=by rw[hex];exact Fe _
     have q1:(9223372036854775807<o2.size+rs[k].rows[j].name.size)=False:=by simp;omega
     have q2:(9223372036854775807<o2.size+rs[k].rows[j].name.size+3)=False:=by simp;omega
     have q3:(9223372036854775807<o2.size+rs[k].rows[j].name.size+3+ex.size)=False:=by simp;omega
     have q4:(9223372036854775807<o2.size+rs[k].rows[j].name.size+3+ex.size+1)=False:=by simp;omega
     have HI2:Hid ((((o2++rs[k].rows[j].name)++⟨#[32,61,32]⟩)++ex)++⟨#[10]⟩=(out++mH rs[k].name)++dQ (eQ (rs[k].rows.take (j+1)))):=by
      show _=_;rw[Uf,Nh _ _ hjl,q9,HI.out,hex];simp only[Wm,GZ]
     have hz3:((((o2++rs[k].rows[j].name)++⟨#[32,61,32]⟩)++ex)++⟨#[10]⟩:ByteArray).size<=k*5100000+3010+(j+1)*6760:=by
      have e1:(⟨#[32,61,32]⟩:ByteArray).size=3:=rfl;have e2:(⟨#[10]⟩:ByteArray).size=1:=rfl;simp only[VK];omega
     have HZ3:Hid (((((o2++rs[k].rows[j].name)++⟨#[32,61,32]⟩)++ex)++⟨#[10]⟩:ByteArray).size<=k*5100000+3010+(j+1)*6760):=hz3;clear hr2 hok2 had hex hz3;go_wp2_with fail;refine bR 24 _ _ (fun n v _=>v=(Value.string o2::.slice (some ⟨b,off,none⟩) rs.length cap::.int .i64 k::.pointer (some ⟨b,off+k*2,none⟩)::.pointer (some ⟨b,off+k*2+1,none⟩)::.slice (some ⟨b2,Xd,none⟩) rs[k].rows.length rs[k].cap::.int .i64 j::.pointer (some ⟨b2,Xd+j*2,none⟩)::.pointer (some ⟨b2,Xd+j*2,none⟩)::.string rs[k].rows[j].name::.string (o2++rs[k].rows[j].name)::.string ((o2++rs[k].rows[j].name)++⟨#[32,61,32]⟩)::.slice (some ⟨b,off,none⟩) rs.length cap::.int .i64 k::.pointer (some ⟨b,off+k*2,none⟩)::.pointer (some ⟨b,off+k*2+1,none⟩)::.slice (some ⟨b2,Xd,none⟩) rs[k].rows.length rs[k].cap::.int .i64 j::.pointer (some ⟨b2,Xd+j*2,none⟩)::.pointer (some ⟨b2,Xd+j*2+1,none⟩)::.slice rs[k].rows[j].ad rs[k].rows[j].rows.length rs[k].rows[j].cap::.string ex::.string (((o2++rs[k].rows[j].name)++⟨#[32,61,32]⟩)++ex)::.string ((((o2++rs[k].rows[j].name)++⟨#[32,61,32]⟩)++ex)++⟨#[10]⟩)::[]).getD n undef) (fun w'=>ag wr w') (by kernel_rfl) rfl (by kernel_rfl) (by kernel_rfl) (F5 [(31,[0,1,2,3,4,5,6,7,8,9,10,11,12,13,14,15,16,17,18,19,20,21,22,23])]) (Vs _ _).drew ?stepS ?finS<;>dsimp only[Em];case stepS =>
      rintro i hi o ho fq w' hG hpre;have HG:Hid (ag wr w'):=hG;replace t1:=aA hG hbw t1;replace u0:=aA hG hb2 u0;replace u1:=aA hG hb2 u1;have HM:Hid (∀e∈o.after,Region.binds .any e=true->_):=hpre;clear hG hpre;have hc:=UK (i:=i) (by omega);clear hi
      repeat' rcases hc with rfl|hc
      iterate 21
       ·cases ho;have hm:=HM.out
        try simp[Region.binds]at hm
        refine aa rfl fun K HK=>?_;clear HM
        try simp only[hm]
        go_simp;exact HK.out _ _ ⟨_,by simp[upd, *],HG.out,rfl,fun k u hu=>hu⟩
      ·cases ho;have e20:fq 20=.slice rs[k].rows[j].ad rs[k].rows[j].rows.length rs[k].rows[j].cap:=HM.out ⟨20,.data⟩ (by simp) rfl;refine aa rfl fun K HK=>?_;clear HM;simp only[e20];go_simp;refine(ow _ _ rs[k].rows[j].rows _ HQL.out.1 HQL.out.2 HQF.out.2.2 (HOQ.out.below HG.out)).mono ?_;rintro e w5 ⟨rfl,hb5⟩;have YU:=iJ HG hb5;rw[<-HEX.out];clear hb5;go_wp2_with fail;exact HK.out _ _ ⟨Value.string ex,by simp[upd,e20],YU.out,rfl,fun k u hu=>hu⟩
      iterate 2
       ·cases ho;have hm:=HM.out
        try simp[Region.binds]at hm
        refine aa rfl fun K HK=>?_;clear HM
        try simp only[hm]
        go_simp;exact HK.out _ _ ⟨_,by simp[upd, *],HG.out,rfl,fun k u hu=>hu⟩
     case finS =>
      rintro o ho fq w' hG hall;have e23:fq 23=.string ((((o2++rs[k].rows[j].name)++⟨#[32,61,32]⟩)++ex)++⟨#[10]⟩):=hall 23 (by omega);have HG:Hid (ag wr w'):=hG;clear hG hall;obtain rfl:=Option.some.inj ho;clear ho;refine wpOp_step rfl (fun K hK=>?_);have HK:Hid (∀a w,_->K a w):=hK;clear hK;simp only[e23];go_simp;refine HK.out _ _ ?_;clear HK;have HB3:Hid (ag wo w'):=HB2.out.trans (HG.out.mono HB2.out.size);go_wp2;go_roundw;case rel=>exact⟨j+1,_,by omega,rfl,by go_num,HI2,HZ3.out,HB3⟩
      case measure=>simp[intOf]<;>omega
    ·obtain rfl:j=rs[k].rows.length:=by omega
     have WQ:Hid (o2=dx (af (rs.take (k+1)))):=by
      show _=_;rw[HI.out,Ni _ _ hlt,mI,HP.out,VI,Wm]
     have hz4:o2.size<=(k+1)*5100000:=by omega
     have HB3:Hid (ag w wr):=HB.out.trans (HB2.out.mono HB.out.size);go_wp2;go_roundw;case rel=>exact⟨k+1,o2,by omega,rfl,by go_num,WQ,hz4,HB3⟩
     case measure=>simp[intOf]<;>omega
  ·obtain rfl:k=rs.length:=by omega
   have HN:Hid (out=dx (af rs)):=by show _=_;rw[HP.out,VI]
   go_wp2;go_ret;exact⟨by rw[HN.out];rfl,HB.out⟩
open Maps
set_option maxRecDepth 100000
theorem dS{p:Prop}(h:p):Hid p:=h
def strOf:Value->Nat | .string b=>b.size|_=>0
def Ug(s:ByteArray)(w:World)(e:Ending)(w':World):Prop :=
 ag w w'/\((dR (s.size+1) s []=none/\e=.returned (.tuple #[.slice none 0 0,.bool false])) \/ ∃(v:Value) (rs:Q06),dR (s.size+1) s []=some (af rs)/\e=.returned (.tuple #[v,.bool true])/\iE w' w.heap.size v rs/\dx (af rs)=s/\TB (af rs))
theorem Nl{n:Nat}{rest:ByteArray}{acc:Q0b}(hn:rest.size<n)(h:rest.toList.isEmpty=true):dR n rest acc=some acc:=by
 cases n with
 | zero=>omega
 | succ n=>simp[dR,h]
theorem Nn{n:Nat}{rest:ByteArray}{acc:Q0b}(hn:rest.size<n)(h:rest.toList.isEmpty=false)(hc:oN 10 rest=false):dR n rest acc=none:=by
 cases n with
 | zero=>omega
 | succ n=>simp[dR,h,hc]
theorem Np{n:Nat}{rest:ByteArray}{acc:Q0b}(hn:rest.size<n)(h:rest.toList.isEmpty=false)(hc:oN 10 rest=true)(hl:nk acc (kw 10 rest)=none):dR n rest acc=none:=by
 cases n with
 | zero=>omega
 | succ n=>simp[dR,h,hc,hl]
theorem Ql{n:Nat}{rest:ByteArray}{acc a:Q0b}(hn:rest.size<n)(h:rest.toList.isEmpty=false)(hc:oN 10 rest=true)(hl:nk acc (kw 10 rest)=some a):dR n rest acc=dR (n-1) (iC 10 rest) a/\(iC 10 rest).size<n-1:=by
 have:=G5 hc;cases n with
 | zero=>omega
 | succ n=>exact⟨by simp[dR,h,hc,hl],by simp;omega⟩
theorem Qm{b:ByteArray}(h:b.toList.isEmpty=true):b=⟨#[]⟩:=by
 have h2:b.toList=[]:=by simpa using h
 rw[mJ]at h2;exact jh (by simpa using h2)
theorem Be:Qh.toList=[116,121,112,101,32]:=by rw[mJ];rfl
theorem G7:U1.toList=[61,32]:=by rw[mJ];rfl
theorem Qn(w:ae)(a b:Value)(t:TypeId):∀j u,[a,b][j]?=some u->(w.alloc (.cells #[a,b] t)).cell? ((⟨w.heap.size,0,none⟩:Addr).add j)=some u:=by
 intro j u hu;rw[show(⟨w.heap.size,0,none⟩:Addr).add j=⟨w.heap.size,0+j,none⟩ by simp[Addr.add];omega,VQ];have:=World.cell?_alloc_mark w #[a,b] t (0,0) j;rw[this];simpa using hu
theorem Qo(xs:Q06)(t t':TR)(hn:t'.name=t.name):((xs++[t]).flatMap TR.cells).set (xs.length*2+1) t'.vs=(xs++[t']).flatMap TR.cells:=by
 have hl:(xs.flatMap TR.cells).length=xs.length*2:=pu (fun _=>rfl) _;rw[Wj,Wj,List.set_append_right _ _ (by omega),hl];simp[TR.cells,hn]
theorem U3(n:ByteArray)(ad:Q02)(k c:Nat):∀u∈[Value.string n,.slice ad k c],u.oneCell'=true:=by
 intro u hu;simp at hu;rcases hu with rfl|rfl<;>rfl
theorem Fh(s:ByteArray)(w:ae)(hs:s.size<=3000):Calls prog 188 #[.string s] w (Ug s w):=by
 obtain⟨iT0,hiT,zT0,zT1,zT2⟩:=info_parts (P:=prog) (e:=36) (z:=.agg #[.string ⟨#[]⟩,.slice none 0 0]) (size:=2) (bytes:=40) (by kernel_rfl);have HIT:Hid (prog.info? 36=some iT0/\iT0.zero=some (.agg #[.string ⟨#[]⟩,.slice none 0 0])/\iT0.size=2/\iT0.bytes=40):=⟨hiT,zT0,zT1,zT2⟩;obtain⟨iR0,hiR,zR0,zR1,zR2⟩:=info_parts (P:=prog) (e:=39) (z:=.agg #[.string ⟨#[]⟩,.slice none 0 0]) (size:=2) (bytes:=40) (by kernel_rfl);have XM:Hid (prog.info? 39=some iR0/\iR0.zero=some (.agg #[.string ⟨#[]⟩,.slice none 0 0])/\iR0.size=2/\iR0.bytes=40):=⟨hiR,zR0,zR1,zR2⟩;obtain⟨W0,hW0⟩:∃W0,W0=w.alloc (.cells #[] 36):=⟨_,rfl⟩;have HB0:=sH hW0;have HM0:Hid (iE W0 w.heap.size (.slice (some ⟨w.heap.size,0,none⟩) 0 0) []):=by
  show WW _ _ _ _ _ _ _ _ _;rw[hW0];exact⟨World.ownsRow_lit w #[] 0 (Vr _) (by unfold maxLen;omega) (by simp),fun q hq=>(by cases hq),fun q hq=>(by cases hq),fun x y hx=>absurd hx (by simp)⟩
 have hs5:(s.size:Int)<=50000:=by omega
 clear hiT zT0 zT1 zT2 hiR zR0 zR1 zR2;go_enter func188,ntmps188;go_wp2;rw[<-hW0];clear hW0;go_loopw[4,5] (fun v r wr=>∃(rs:Q06) (rest:ByteArray) (n:Nat),r=.string rest/\rest.size<=3000/\Hid (iE wr w.heap.size v rs)/\Hid (ag w wr)/\Hid (dx (af rs)++rest=s)/\Hid (TB (af rs))/\Hid (rest.size<n/\dR n rest (af rs)=dR (s.size+1) s [])) (fun _ r _=>strOf r);case atStart=>exact⟨[],s,s.size+1,rfl,hs,HM0,HB0,by show _=_;exact r9 _,fun t ht=>(by cases ht),by omega,rfl⟩
 clear HM0 HB0;obtain⟨rs,rest,n,rfl,hrs,HM,HB,HT,HK,HN⟩:=hrel;cases he:rest.toList.isEmpty;case true=>
  have HTX:Hid (dx (af rs)=s):=by show _=_;rw[<-HT.out,Qm he,vV]
  have XA:=dS (Nl (acc:=af rs) HN.out.1 he);obtain⟨ad,cap,rfl,hsl,-⟩:=HM.out.read;obtain⟨k1,k2,k3,k4⟩:=rows_ok HK.out (by rw[HTX.out];exact hs);have WT:=dS (Fg ad cap rs wr ⟨k1,fun r hr=>(k2 r hr).1,fun r hr=>(k2 r hr).2.1,fun r hr=>(k2 r hr).2.2⟩ hsl k3 k4);clear hsl k1 k2 k3 k4;go_wp2_with fail;refine WT.out.mono ?_;rintro e w1 ⟨hee,hb1⟩;rw[HTX.out]at hee;subst hee;have HB1:=dS (HB.out.trans (hb1.mono HB.out.size));have YR:=dS (HM.out.below nI hb1);clear hb1 WT;go_wp2;exact bodyPost_ret (v:=.tuple #[.slice ad rs.length cap,.bool true]) (by simp[results,Tryz.results188,go_sem]) rfl ⟨HB1.out,.inr ⟨_,rs,by rw[<-HN.out.2,XA.out],rfl,YR.out,HTX.out,HK.out⟩⟩
 have HE:=dS he;have h500:rs.length<=500:=(rows_ok HK.out (by have:=congrArg ByteArray.size HT.out;rw[VK]at this;omega)).1;have HC:=dS (Da rest 10 wr (by unfold maxLen;omega));go_wp2_with fail;refine HC.out.mono ?_;rintro e w1 ⟨rfl,n0,hw1⟩;have hb1:ag wr w1:=by rw[hw1];exact below_drewN (Vs _ _) n0
 have HB1:=dS (HB.out.trans (hb1.mono HB.out.size));have YR:=dS (HM.out.below nI hb1);have hzz:=K9 10 rest;have hza:=Ry 10 rest;clear hw1 hb1 HC HM HB;cases hc:oN 10 rest;case false=>
  have YD:=dS (Nn (acc:=af rs) HN.out.1 HE.out hc);go_wp2;exact bodyPost_ret (v:=.tuple #[.slice none 0 0,.bool false]) (by simp[results,Tryz.results188,go_sem]) rfl ⟨HB1.out,.inl ⟨by rw[<-HN.out.2,YD.out],rfl⟩⟩
 have HCF:=dS hc;have HJ:=dS (Bb hc);have hless:=G5 hc;obtain⟨line,ZB⟩:∃line,line=kw 10 rest:=⟨_,rfl⟩;obtain⟨more,hmore⟩:∃more,more=iC 10 rest:=⟨_,rfl⟩;rw[<-ZB,<-hmore]at HJ;rw[<-hmore]at hzz hless;rw[<-ZB]at hza;rw[<-ZB,<-hmore];have HLI:=dS ZB;have HMO:=dS hmore;clear ZB hmore hc;have HON:Hid (∀a,nk (af rs) line=some a->dR (n-1) more a=dR (s.size+1) s []/\more.size<n-1/\dx a++more=s/\TB a):=fun a ha=>by
  have h1:=Ql (acc:=af rs) HN.out.1 HE.out HCF.out (by rw[<-HLI.out];exact ha);rw[<-HMO.out]at h1;refine⟨by rw[<-h1.1,HN.out.2],h1.2,?_,R8 ha HK.out⟩;rw[Nk ha,Wm];have h2:=HT.out;rw[HJ.out]at h2;exact h2
 have HOFF:Hid (nk (af rs) line=none->dR (s.size+1) s []=none):=fun ha=>by
  have h1:=Np (acc:=af rs) HN.out.1 HE.out HCF.out (by rw[<-HLI.out];exact ha);rw[<-HN.out.2,h1]
 cases ht:Ba line;case true=>
  have hl5:5<line.size:=by unfold Ba at ht;simp only[Vt,VF]at ht;exact ht.1
  have hty:((line.extract 0 5).toList==[116,121,112,101,32])=true:=by unfold Ba at ht;simp only[Vt]at ht;rw[<-Be];exact ht.2
  have hd5:decide ((5:Int)<(line.size:Int))=true:=by simp;omega
  have ZP:Hid (nk (af rs) line=some (af (rs++[⟨line.extract 5 line.size,[],none,0⟩]))):=by show _=_;unfold nk;rw[ht];simp[af,TR.p,eQ]
  clear ht;obtain⟨nm,hnm⟩:∃nm,nm=line.extract 5 line.size:=⟨_,rfl⟩;obtain⟨W2,hW2⟩:∃W2,W2=w1.alloc (.cells #[.string nm,.slice none 0 0] 36):=⟨_,rfl⟩;have hb2:ag w1 W2:=by rw[hW2];exact(Vs _ _).alloc (Vr _) _
  have Xr:=dS (YR.out.below nI hb2);have HB2:=dS (HB1.out.trans (hb2.mono HB1.out.size));have Yw:Hid (∀j u,[Value.string nm,.slice none 0 0][j]?=some u->W2.cell? ((⟨w1.heap.size,0,none⟩:Addr).add j)=some u):=by show ∀j u,_;rw[hW2];exact Qn w1 _ _ _
  rw [<-hnm]at ZP;rw [hnm]at hW2;clear hb2 hnm;go_wp2_with (at_builtin;rw [<-hW2];clear hW2;refine wpList_append_own_at _ rfl _ _ 24 rfl w.heap.size 36 iT0 (.agg #[.string ⟨#[]⟩,.slice none 0 0]) 2 40 underlying24 HIT.out.1 HIT.out.2.1 HIT.out.2.2.1 HIT.out.2.2.2 rfl (by decide) u4 _ (rs.flatMap TR.cells) rfl Xr.out.own ⟨w1.heap.size,0,none⟩ 1 1 [.string nm,.slice none 0 0] rfl rfl Yw.out (U3 _ _ _ _) (by unfold maxLen;omega) (by omega) HB2.out.size ?_);intro v3 w3 hown3 hgr3 _ hat3;have ZW:Hid (iE w3 w.heap.size v3 (rs++[⟨nm,[],none,0⟩])):=Xr.out.snoc nI (q:=⟨nm,[],none,0⟩) hown3 hgr3 (by
    rcases hat3 with e|e
    ·exact .inl e
    ·exact .inr ⟨_,e,Vr _⟩) (PP W2 w.heap.size) (fun g hg=>by
    rcases hg with hg|⟨q,hq,-⟩
    ·simp[TR.vs,Value.ownBlock]at hg
    ·cases hq) (fun p hp g hg hg2=>by
    rcases hg2 with hg2|⟨q,hq,-⟩
    ·simp[TR.vs,Value.ownBlock]at hg2
    cases hq)
  have HB3:Hid (ag w w3):=HB2.out.grown hgr3 HB2.out.size (fun g hg=>(Xr.out.own.lt g hg).1);obtain⟨o1,o2,o3,o4⟩:=HON.out _ ZP.out;have HO:=dS (And.intro o2 o1);have Xc:=dS o3;have WZ:=dS o4;clear hown3 hgr3 hat3 o1 o2 o3 o4 Xr HB2 Yw hty hd5;go_wp2;go_roundw;case rel=>exact⟨_,more,n-1,rfl,by omega,ZW,HB3,Xc,WZ,HO⟩
  simp only[strOf];exact hless
 have HTY:=dS ht;have h58:(5<line.size/\decide ((5:Int)<(line.size:Int))=true/\((line.extract 0 5).toList==[116,121,112,101,32])=false)\/decide ((5:Int)<(line.size:Int))=false:=by
  by_cases h5:5<line.size
  ·left;refine⟨h5,by simp;omega,?_⟩;unfold Ba at ht;rw[decide_eq_true h5,Bool.true_and,Be]at ht;exact ht
  right;simp;omega
 have Xg:=dS (Da line 32 w1 (by unfold maxLen;omega));obtain⟨ad4,cap4,hv4,hsl4,-⟩:=iE.read YR.out;subst hv4;clear ht hsl4;rcases h58 with⟨hl5,hd5,hty⟩|hd5
 all_goals (
  go_wp2_with fail;refine Xg.out.mono ?_;rintro e w2 ⟨rfl,n1,hw2⟩;have hb2:ag w1 w2:=by rw[hw2];exact below_drewN (Vs _ _) n1
  have HB2:=dS (HB1.out.trans (hb2.mono HB1.out.size));have Xr:=dS (YR.out.below nI hb2);have hzt:=K9 32 line;obtain⟨nm,hnm⟩:∃nm,nm=kw 32 line:=⟨_,rfl⟩;obtain⟨tl,htl⟩:∃tl,tl=iC 32 line:=⟨_,rfl⟩;rw[<-htl]at hzt;rw[<-hnm,<-htl];have ZP:Hid (nk (af rs) line=if !(af rs).isEmpty&&ym tl&&mG (tl.extract 2 tl.size) then some (Ff (af rs) ⟨nm,(kI (tl.extract 2 tl.size)).out⟩) else none):=by show _=_;unfold nk DL;rw[HTY.out,hnm,htl];rfl
  clear hw2 hb2 Xg YR HB1 hnm htl;by_cases hz:rs=[]
  ·subst hz;have YD:Hid (dR (s.size+1) s []=none):=HOFF.out (by rw[ZP.out];rfl);go_wp2;exact bodyPost_ret (v:=.tuple #[.slice none 0 0,.bool false]) (by simp[results,Tryz.results188,go_sem]) rfl ⟨HB2.out,.inl ⟨YD.out,rfl⟩⟩
  obtain⟨xs,t,hxt⟩:∃xs t,rs=xs++[t]:=⟨rs.dropLast,rs.getLast hz,(List.dropLast_concat_getLast hz).symm⟩;have HXT:=dS hxt;have hlx:rs.length=xs.length+1:=by rw[hxt];simp
  have HNE:Hid ((!(af rs).isEmpty)=true):=by show _=_;rw[hxt];simp[af]
  obtain⟨b4,had4⟩:∃b4,ad4=some ⟨b4,0,none⟩:=by
   rcases Xr.out.own.2 with⟨-,h0⟩|⟨g,cap,cur,e,-⟩
   ·exact absurd (VM.1 h0) hz
   injection e with e1 e2 e3;exact⟨g,e1⟩
  subst had4;have hcell:=Xr.out.own.cellAt (xs.length*2+1) (by omega);rw[rU (fun _=>rfl) rs xs.length (by omega) 1 (by omega)]at hcell;have htx:rs[xs.length]'(by omega)=t:=by subst hxt;simp
  rw[htx]at hcell;have hcl:w2.cell? ⟨b4,xs.length*2+1,none⟩=some (.slice t.ad t.rows.length t.cap):=hcell;have ZO:=dS hcl;have hn0:(0:Int)<=(xs.length:Int):=by omega
  have hn1:(xs.length:Int)<(xs.length:Int)+1:=by omega
  have HLX:=dS hlx;have hx500:xs.length<500:=by omega
  have h500':=h500;rw[hlx];clear hz hxt hlx hcell htx hcl h500;by_cases h2:tl.size<2
  ·have hd2:decide ((tl.size:Int)<2)=true:=by simp;omega
   have YD:Hid (dR (s.size+1) s []=none):=HOFF.out (by rw[ZP.out];simp[ym];omega);go_wp2;exact bodyPost_ret (v:=.tuple #[.slice none 0 0,.bool false]) (by simp[results,Tryz.results188,go_sem]) rfl ⟨HB2.out,.inl ⟨YD.out,rfl⟩⟩
  have hd2:decide ((tl.size:Int)<2)=false:=by simp;omega
  have h22:2<=tl.size:=by omega
  cases hq:(tl.extract 0 2).toList==[61,32];case false=>
   have hq2:(!(tl.extract 0 2).toList==[61,32])=true:=by rw[hq];rfl
   have YD:Hid (dR (s.size+1) s []=none):=HOFF.out (by rw[ZP.out];unfold ym;rw[G7,hq];simp);go_wp2;exact bodyPost_ret (v:=.tuple #[.slice none 0 0,.bool false]) (by simp[results,Tryz.results188,go_sem]) rfl ⟨HB2.out,.inl ⟨YD.out,rfl⟩⟩
  have hq2:(!(tl.extract 0 2).toList==[61,32])=false:=by rw[hq];rfl
  have HTB:Hid (ym tl=true):=by show _=_;unfold ym;rw[G7,hq,decide_eq_true h22];rfl
  have HRE:=dS (xy (tl.extract 2 tl.size) w2);go_wp2_with fail;refine HRE.out.mono ?_;rintro e w3 ⟨hb3,hcase⟩;have HB3:=dS (HB2.out.trans (hb3.mono HB2.out.size));have ZW:=dS (Xr.out.below nI hb3);have h23:w2.heap.size<=w3.heap.size:=hb3.size;have HLT2:Hid (∀g,GJ iT (.slice (some ⟨b4,0,none⟩) rs.length cap4) rs g->g<w2.heap.size):=fun g hg=>(Xr.out.lt nI hg).2;have hc3:w3.cell? ⟨b4,xs.length*2+1,none⟩=some (.slice t.ad t.rows.length t.cap):=(hb3.cell (p:=⟨b4,xs.length*2+1,none⟩) (Xr.out.own.lt b4 rfl).2).trans ZO.out;rcases hcase with⟨hrb,rfl⟩|⟨hrb,v,R,qs,rfl,hF⟩
  ·have YD:Hid (dR (s.size+1) s []=none):=HOFF.out (by rw[ZP.out,hrb];simp);clear hb3 hc3 Xr HB2 HRE;go_wp2;exact bodyPost_ret (v:=.tuple #[.slice none 0 0,.bool false]) (by simp[results,Tryz.results188,go_sem]) rfl ⟨HB3.out,.inl ⟨YD.out,rfl⟩⟩
  obtain⟨WM,capE,hvE⟩:∃WM capE,v=.slice WM qs.length capE:=by
   obtain⟨a1,a2,a3,-⟩:=hF.slE;exact⟨a1,a2,a3⟩
  subst hvE;have HNOD:=dS (hF.nod);have HEX:=dS hF.out;have Zx:=dS hrb;obtain⟨W5,XW⟩:∃W5,W5=w3.alloc (.cells #[.string nm,.slice WM qs.length capE] 39):=⟨_,rfl⟩;have hb5:ag w3 W5:=by rw[XW];exact(Vs _ _).alloc (Vr _) _
  have HM5:=dS (ZW.out.below nI hb5);have XD:=dS (HB3.out.trans (hb5.mono HB3.out.size));have Yw:Hid (∀j u,[Value.string nm,.slice WM qs.length capE][j]?=some u->W5.cell? ((⟨w3.heap.size,0,none⟩:Addr).add j)=some u):=by show ∀j u,_;rw[XW];exact Qn w3 _ _ _
  obtain⟨q,hqd⟩:∃q:RR,q=⟨nm,qs,WM,capE⟩:=⟨_,rfl⟩;have HQD:=dS hqd;have hkq3:kR w3 (w2.heap.size+1) q:=by rw[hqd];exact HNOD.out
  have hIq:∀g,iR q g->w2.heap.size+1<=g:=fun g hg=>(JC.lt w3 _ q hkq3 g hg).1;have hkq5:kR W5 w.heap.size q:=JC.heap w3 W5 w.heap.size q (hkq3.mono (by have:=HB2.out.size;omega)) hb5.size (fun g hg=>hb5.block g (JC.lt w3 _ q hkq3 g hg).2);have HIQ:=dS hIq;have W5_ge:Hid (w2.heap.size<=W5.heap.size):=Vz h23 hb5.size;have HKQ:=dS hkq5;have HKT:Hid (kT W5 w.heap.size t):=HM5.out.kid t (by rw[HXT.out];simp);have HTLT:Hid (∀g,iT t g->g<w2.heap.size):=fun g hg=>HLT2.out g (.inr ⟨t,by rw[HXT.out];simp,hg⟩);have ht750:t.rows.length<=750:=((rows_ok HK.out (by have:=congrArg ByteArray.size HT.out;rw[VK]at this;omega)).2.1 t (by rw[HXT.out];simp)).1;have hc5:W5.cell? ⟨b4,xs.length*2+1,none⟩=some (.slice t.ad t.rows.length t.cap):=(hb5.cell (p:=⟨b4,xs.length*2+1,none⟩) (Vq (Xr.out.own.lt b4 rfl).2 h23)).trans hc3;have HC5:=dS hc5;have hfz:W5.frozen? ⟨b4,xs.length*2+1,none⟩=false:=HM5.out.own.frozenAt _;have HFZ:=dS hfz;clear hb3 hF hrb hkq3 hkq5 hIq hqd hc5 hb5 Xr HB2 HRE ZW HB3 HNOD hfz;go_wp2_with(at_builtin;rw[<-XW];clear XW;refine wpList_append_own_at _ rfl _ _ 34 rfl w.heap.size 39 iR0 (.agg #[.string ⟨#[]⟩,.slice none 0 0]) 2 40 underlying34 XM.out.1 XM.out.2.1 XM.out.2.2.1 XM.out.2.2.2 rfl (by decide) (.slice t.ad t.rows.length t.cap) _ (t.rows.flatMap RR.cells) rfl HKT.out.own ⟨w3.heap.size,0,none⟩ 1 1 [.string nm,.slice WM qs.length capE] rfl rfl Yw.out (U3 _ _ _ _) (by unfold maxLen;omega) (by omega) XD.out.size ?_);intro v6 w6 hown6 hgr6 _ hat6;obtain⟨g6,c6,hv6⟩:=fH hown6;subst hv6;have hqv:q.vs=.slice WM qs.length capE:=by rw[HQD.out];rfl
  have hneb:some b4≠(Value.slice t.ad t.rows.length t.cap).ownBlock:=fun e=>HM5.out.head t (by rw[HXT.out];simp) b4 (.inl e.symm) rfl;have hc6:w6.cell? ⟨b4,xs.length*2+1,none⟩=some (.slice t.ad t.rows.length t.cap):=hgr6.cell HC5.out hneb;have hf6:w6.frozen? ⟨b4,xs.length*2+1,none⟩=false:=(World.frozen?_of_block (w:=W5) (a:=⟨b4,xs.length*2+1,none⟩) (hgr6.block b4 (HM5.out.own.lt b4 rfl).2 hneb)).trans HFZ.out;obtain⟨t',ht'⟩:∃t':TR,t'=⟨t.name,t.rows++[q],some ⟨g6,0,none⟩,c6⟩:=⟨_,rfl⟩;have hvt':t'.vs=.slice (some ⟨g6,0,none⟩) (t.rows.length+1) c6:=by rw[ht'];simp[TR.vs]
  have hkt':kT w6 w.heap.size t':=by
   have h1:Cq w6 w.heap.size (.slice (some ⟨g6,0,none⟩) (t.rows.length+1) c6) (t.rows++[q]):=HKT.out.snoc JC (q:=q) (by
     rw[show RR.cells q=[.string nm,.slice WM qs.length capE] by unfold RR.cells;rw[hqv,HQD.out]];exact hown6) hgr6 (by
     rcases hat6 with e|e
     ·exact .inl e
     ·exact .inr ⟨_,e,Vr _⟩) HKQ.out (fun g hg e=>by
     have h2:=HTLT.out g (.inl e);have h3:=HIQ.out g hg;omega) (fun p hp g hg hg2=>by
     have h2:=HTLT.out g (.inr ⟨p,hp,hg⟩);have h3:=HIQ.out g hg2;omega)
   unfold kT;rw[hvt',ht'];exact h1
  have hI':∀g,iT t' g->iT t g\/(g≠b4/\∀p∈xs,¬iT p g):=fun g hg=>by
   have Zj:w2.heap.size<=g->g≠b4/\∀p∈xs,¬iT p g:=fun hge=>⟨fun e=>by
     have:=HLT2.out b4 (.inl rfl);omega,fun p hp hi=>by
     have:=HLT2.out g (.inr ⟨p,by rw[HXT.out];simp[hp],hi⟩);omega⟩
   rcases hg with hg|⟨p,hp,hg⟩
   ·rw[hvt']at hg;rcases hat6 with e|e
    ·exact .inl (.inl (e.symm.trans hg))
    rw[e]at hg;injection hg with hg;exact .inr (Zj (by have:=W5_ge.out;omega))
   rw[ht']at hp;rcases VE.1 hp with hp|hp
   ·exact .inl (.inr ⟨p,hp,hg⟩)
   rw[VD]at hp;subst hp;exact .inr (Zj (by have:=HIQ.out g hg;omega))
  have HM7:Hid (iE (w6.setCell ⟨b4,xs.length*2+1,none⟩ (.slice (some ⟨g6,0,none⟩) (t.rows.length+1) c6)) w.heap.size (.slice (some ⟨b4,0,none⟩) (xs.length+1) cap4) (xs++[t'])):=by
   have hM:=HM5.out;rw[HLX.out,HXT.out]at hM;refine WW.last nI hM rfl hgr6 (fun r hr=>.inl hr) hkt' hI' ?_;rw[<-hvt',show t'.vs=t'.vs from rfl];exact Qo xs t t' (by rw[ht'])
  have HB7:Hid (ag w (w6.setCell ⟨b4,xs.length*2+1,none⟩ (.slice (some ⟨g6,0,none⟩) (t.rows.length+1) c6))):=(XD.out.grown hgr6 XD.out.size (fun g hg=>(HKT.out.own.lt g hg).1)).setCell (HM5.out.own.lt b4 rfl).1 _;have HTY7:Hid (nk (af rs) line=some (af (xs++[t']))):=by
   show _=_;rw[ZP.out,HNE.out,HTB.out,Zx.out,HXT.out,ht'];simp only[Bool.and_true,if_true];rw[show af (xs++[t])=af xs++[t.p] by simp[af],rf];simp[af,TR.p,eQ,RR.p,HQD.out,HEX.out]
  obtain⟨o1,o2,o3,o4⟩:=HON.out _ HTY7.out;have HO:=dS (And.intro o2 o1);have Xc:=dS o3;have WZ:=dS o4;clear hown6 hgr6 hat6 o1 o2 o3 o4 hkt' hI' hvt' ht' hqv hneb HM5 XD HKT HKQ;go_wp2;go_roundw;case rel=>exact⟨_,more,n-1,rfl,by omega,HM7,HB7,Xc,WZ,HO⟩
  simp only[strOf];exact hless)
def lastT:ByteArray:=⟨#[116,121,112,101,32,100,111,99,10,118,105,101,119,101,114,32,61,32,116,104,105,115,40,117,115,101,114,41,10,116,121,112,101,32,117,115,101,114,10]⟩
def G8:List Ty:=[⟨⟨#[100,111,99]⟩,[⟨⟨#[118,105,101,119,101,114]⟩,[⟨1,[⟨⟨#[117,115,101,114]⟩,⟨#[]⟩⟩],⟨#[]⟩,⟨#[]⟩,[]⟩]⟩]⟩,⟨⟨#[117,115,101,114]⟩,[]⟩]
theorem JY:dR (lastT.size+1) lastT []=some G8:=by kernel_rfl
theorem JZ:aN G8=true:=by
 refine bu.2 ⟨by kernel_rfl,by kernel_rfl,fun _=>0,⟨fun _=>Int.le_refl _,fun k hk d hd=>?_⟩⟩;have h:((ak G8).all fun k=>(ib G8 k).isEmpty)=true:=by kernel_rfl
 have h2:=VC.1 h k hk;rw[List.isEmpty_iff.1 h2]at hd;cases hd
def Pre(t:ByteArray):Prop:=∃x y z c tl,t.data.toList=116::121::112::101::32::x::y::z::10::c::tl/\x≠10/\y≠10/\z≠10/\c≠116
theorem Pre.app{t:ByteArray}(h:Pre t)(u:ByteArray):Pre (t++u):=by
 obtain⟨x,y,z,c,tl,e,h1⟩:=h;exact⟨x,y,z,c,tl++u.data.toList,by rw[Ws,Array.toList_append,e];rfl,h1⟩
theorem Qp{n:ByteArray}(h:aP n=true):∀b∈n.data.toList,b≠10:=by
 intro b hb e;unfold aP dO sI at h;simp only[Vt]at h;have:=VC.1 h.1.2 b hb;rw[e]at this
 revert this
 decide
theorem Nq{rs:Q06}(hd:aN (af rs)=true)(h:Pre (dx (af rs))):∃t ts q qs x xs,rs=t::ts/\t.rows=q::qs/\q.rows=x::xs:=by
 have hS:=bu.1 hd;obtain⟨x,y,z,c,tl,e,hx,hy,hz,hc⟩:=h;cases rs with
 | nil=>simp[af,dx]at e
 | cons t ts =>
  have hn:=Qp (lK hS.1 0 (by simp)).1;simp only[List.getElem_cons_zero]at hn;have e2:(116::121::112::101::32::(t.name.data.toList++10::((dQ (eQ t.rows)).data.toList++(dx (af ts)).data.toList)))=116::121::112::101::32::x::y::z::10::c::tl:=by
   rw[<-e];show _=(dx (⟨t.name,eQ t.rows⟩::af ts)).data.toList;simp[dx,mH,ByteArray.data_append]
  simp only[List.cons.injEq,true_and]at e2;have key:(dQ (eQ t.rows)).data.toList++(dx (af ts)).data.toList=c::tl:=by
   generalize (dQ (eQ t.rows)).data.toList++(dx (af ts)).data.toList=rest at e2;generalize t.name.data.toList=nm at e2 hn
   match nm,e2,hn with
   | [],e2,_=>simp at e2;exact absurd e2.1.symm hx
   | [a],e2,_=>simp at e2;exact absurd e2.2.1.symm hy
   | [a,b],e2,_=>simp at e2;exact absurd e2.2.2.1.symm hz
   | [a,b,d],e2,_=>simp at e2;exact e2.2.2.2
   | a::b::d::f::nm,e2,hn=>simp at e2;exact absurd e2.2.2.2.1 (hn f (by simp))
  cases hr:t.rows with
  | nil =>
   rw[hr]at key;cases ts with
   | nil=>simp[eQ,dQ,af,dx]at key
   | cons u us =>
    have:(dx (af (u::us))).data.toList.head?=some 116:=by
     show(dx (⟨u.name,eQ u.rows⟩::af us)).data.toList.head?=_;simp[dx,mH,ByteArray.data_append]
    simp only[eQ,List.map_nil,dQ]at key;rw[show((⟨#[]⟩:ByteArray).data.toList++(dx (af (u::us))).data.toList)=(dx (af (u::us))).data.toList from rfl]at key;rw[key]at this;simp at this;exact absurd this hc
  | cons q qs =>
   obtain⟨h1,-⟩:=(bq hS.1).2.2 t (by simp) q (by rw[hr];simp);have h2:=(nZ h1).1;rw[aX]at h2;cases hq:q.rows with
   | nil=>rw[hq]at h2;simp at h2
   | cons x xs=>exact⟨t,ts,q,qs,x,xs,rfl,hr,hq⟩
end Go.Proofs.YtojjoblnpldniaaGreat
