/- A schema's text, in plain words, and how long it can be. -/
import Derived.Test.YtcgdckphpjfmhaaGreatDoorSq
import Derived.Test.YtcgdckphpjfmhaaGreatDoorJ9
import Derived.Test.YtcgdckphpjfmhaaGreatDoorJ10
import Derived.Laws.EntriesVeiled
import Derived.Test.YtcgdckphpjfmhaaGreatDoorJ14
import Derived.Test.YtcgdckphpjfmhaaGreatDoorJ15
open Go.Proofs.Tryz
set_option maxHeartbeats 80000000
namespace Go.Proofs.YtcgdckphpjfmhaaGreatDoor
open Pl
def sm:List Nat->Nat
 | []=>0
 | x::xs=>x+sm xs
theorem Dr:∀xs ys:List Nat,sm (xs++ys)=sm xs+sm ys
 | [],ys=>by simp[sm]
 | x::xs,ys=>by rw[Wp];simp only[sm];rw[Dr xs ys];omega
theorem MM(sep:bW)(xs:List ByteArray):(fB sep xs).size<=sm (xs.map fun x=>x.size+sep.size):=by
 suffices h:∀ys:List ByteArray,(fB sep ys.reverse).size<=sm (ys.reverse.map fun x=>x.size+sep.size) by
  have:=h xs.reverse;rwa [List.reverse_reverse]at this
 intro ys
 induction ys with
 | nil=>exact VC _
 | cons y ys ih =>
  rw[List.reverse_cons,o6,WA,Dr];simp only[WO,List.map_nil,sm];split
  ·omega
  simp only[VT];omega
def kZ(f:Int->Int):List Int->Int
 | []=>0
 | k::ks=>(k-f k+1)+kZ f ks
theorem vO(f:Int->Int):∀xs ys:List Int,kZ f (xs++ys)=kZ f xs+kZ f ys
 | [],ys=>by simp[kZ]
 | x::xs,ys=>by rw[Wp];simp only[kZ];rw[vO f xs ys];omega
theorem sW(f:Int->Int):∀xs:List Int,kZ f xs.reverse=kZ f xs
 | []=>rfl
 | x::xs=>by rw[List.reverse_cons,vO,sW f xs];simp only[kZ];omega
theorem yj{f:Int->Int}:∀(ks:List Int) (a:Int),0<=dB f ks a->kZ f ks=a+1-dB f ks a
 | [],a,_=>by simp[kZ,dB]
 | k::ks,a,h=>by
  unfold dB at h⊢;split at h
  ·omega
  rename_i h1;rw[if_neg h1];split at h
  ·omega
  rename_i h2;rw[if_neg h2];have hk:k=a:=Decidable.byContradiction fun e=>h1 (.inr e);subst hk;simp only[kZ];rw[yj ks _ h];omega
theorem RJ{es:Q09}(hes:SH es)(ht:∀j,j<es.length->0<=aG es j)(n:Nat):n<es.length->∀i,((iU es n i).size:Int)<=250*((n:Int)-aG es n+1):=by
 induction n using Nat.strongRecOn with
 | ind n ih =>
  intro hn i;have hle:=nW es n;have h1:=FR (Ec es n) i (l7 (jA es n) (Ec es n));unfold iU
  suffices h:((l7 (jA es n) (Ec es n)).size:Int)<=250*((n:Int)-aG es n+1)-10 by omega
  have WU:=hes.2.1 n hn;obtain⟨hk5,-⟩:=qC WU;rw[Ee hn];unfold l7;unfold az at WU;split
  ·rename_i k;rw[if_pos k]at WU;simp only[VF]at WU;have:=j4 WU.1.1.1;omega
  rename_i k1;rw[if_neg k1]at WU;split
  ·rename_i k2;rw[if_pos k2]at WU;simp only[VF]at WU;have:=bG WU.1.1.1;omega
  rename_i k2;rw[if_neg k2]at WU;split
  ·rename_i k3;rw[if_pos k3]at WU;simp only[VF]at WU;have h1:=bG WU.1.1.1;have h2:=bG WU.1.1.2;have e1:(⟨#[45,62]⟩:ByteArray).size=2:=rfl;simp only[VT];omega
  have hj:=MM (gG es[n].kind) (es[n].kids.map (jA es n));rw[lZ,List.map_map]at hj;have hspan:kZ (dQ es n) es[n].kids=(n:Int)-aG es n:=by
   have h0:=ht n hn;rw[jT]at h0;have h2:=yj _ _ h0;rw[sW,<-jT]at h2;have e:lY es n=es[n].kids:=by simp[lY,hn]
   rw[e]at h2;omega
  have hsum:∀ks:List Int,(∀k∈ks,0<=k/\k.toNat<n)->(sm (ks.map ((fun x:ByteArray=>x.size+3) ∘ jA es n)):Int)<=250*kZ (dQ es n) ks+3*(ks.length:Int):=by
   intro ks
   induction ks with
   | nil=>intro _;simp[sm,kZ]
   | cons k ks ih2 =>
    intro hks;obtain⟨hk0,hk1⟩:=hks k (WB ..);have h3:=ih2 fun x hx=>hks x (Wv _ hx);have h4:=ih k.toNat hk1 (by omega) true;have e1:jA es n k=iU es k.toNat true:=by unfold jA;rw[if_pos hk1,Ed]
    have e2:dQ es n k=aG es k.toNat:=by unfold dQ;rw[if_pos ⟨hk0,hk1⟩]
    have e3:((k.toNat:Nat):Int)=k:=by omega
    simp only[WO,sm,kZ,Function.comp_apply,We];rw[e1,e2];rw[e3]at h4;omega
  have h5:=hsum es[n].kids (uP hes hn);rw[hspan]at h5;have:(es[n].kids.length:Int)<=5:=by omega
  omega
theorem PY{es:Q09}(h:aP es=true):∀j,j<es.length->0<=aG es j:=by
 rw[wJ]at h;unfold kW at h;simp only[VF,VM]at h;have h1:=h.2.1;unfold jy at h1;rw[VN]at h1;intro j hj;simpa using h1 j (by simpa using hj)
theorem ES(es:Q09):(gW es).size<=3750:=by
 by_cases h:aP es=true
 ·have ht:=PY h;have hf:=oh h;have h1:=RJ (Ov h) ht (es.length-1) (by omega) false;have h2:=ht (es.length-1) (by omega);rw[AB h];omega
 rw[Db (by simpa using h)];show 0<=3750;omega
def GR(r:Rl):ByteArray:=((r.name++⟨#[32,61,32]⟩)++gW r.expr)++⟨#[10]⟩
def dL:List Rl->ByteArray
 | []=>⟨#[]⟩
 | r::rs=>GR r++dL rs
def mJ(n:ByteArray):ByteArray:=(⟨#[116,121,112,101,32]⟩++n)++⟨#[10]⟩
def di:List Ty->ByteArray
 | []=>⟨#[]⟩
 | t::ts=>(mJ t.name++dL t.rels)++di ts
theorem vP(a:bW):a++(⟨#[]⟩:ByteArray)=a:=by apply je;simp[ByteArray.data_append]
theorem qY:∀(xs:List Rl) (r:Rl),dL (xs++[r])=dL xs++GR r
 | [],r=>by simp only[WN,dL,vP,rW]
 | x::xs,r=>by rw[Wp];simp only[dL];rw[qY xs r,<-Wt]
theorem mM:∀(xs:Q0b) (t:Ty),di (xs++[t])=di xs++(mJ t.name++dL t.rels)
 | [],t=>by simp only[WN,di,vP,rW]
 | x::xs,t=>by rw[Wp];simp only[di];rw[mM xs t,<-Wt]
theorem MN(rs:Q07)(k:Nat)(h:k<rs.length):eu (rs.take (k+1))=eu (rs.take k)++[⟨rs[k].name,aj rs[k].rows⟩]:=by
 rw[VE h];unfold eu;rw[WA];rfl
theorem MO(rs:Q06)(k:Nat)(h:k<rs.length):ag (rs.take (k+1))=ag (rs.take k)++[⟨rs[k].name,eu rs[k].rows⟩]:=by
 rw[VE h];unfold ag;rw[WA];rfl
theorem ym(n:bW):(mJ n).size=n.size+6:=by
 have e1:(⟨#[116,121,112,101,32]⟩:ByteArray).size=5:=rfl;have e2:(⟨#[10]⟩:ByteArray).size=1:=rfl;unfold mJ;simp only[VT];omega
def PZ:ByteArray:=⟨#[116,121,112,101,32]⟩
def U5:ByteArray:=⟨#[61,32]⟩
def U6:ByteArray:=⟨#[10]⟩
def Bb(l:ByteArray):Bool:=decide (5<l.size)&&(l.extract 0 5).toList==PZ.toList
def yn(t:ByteArray):Bool:=decide (2<=t.size)&&(t.extract 0 2).toList==U5.toList
def Dt(l:ByteArray):ByteArray:=(iK 32 l).extract 2 (iK 32 l).size
def ET(acc:Q0b)(r:Rl):List Ty:=match acc.getLast? with
 | none=>[]
 | some t=>acc.dropLast++[⟨t.name,t.rels++[r]⟩]
theorem qZ(xs:Q0b)(t:Ty)(r:Rl):ET (xs++[t]) r=xs++[⟨t.name,t.rels++[r]⟩]:=by
 unfold ET;simp
def nD(acc:Q0b)(l:ByteArray):Option (List Ty) :=
 if Bb l then some (acc++[⟨l.extract 5 l.size,[]⟩])
 else if !acc.isEmpty&&yn (iK 32 l)&&mH (Dt l) then some (ET acc ⟨kv 32 l,(kG (Dt l)).out⟩) else none
def dM:Nat->ByteArray->List Ty->Option (List Ty)
 | 0,_,acc=>some acc
 | n+1,rest,acc =>
  if rest.toList.isEmpty then some acc
  else if oU 10 rest then
   match nD acc (kv 10 rest) with
   | none=>none
   | some a=>dM n (iK 10 rest) a
  else none
theorem mP(b:bW):b.toList=b.data.toList:=Go.ByteArray.toList_eq b
theorem MP(c:UInt8)(l:List UInt8)(h:(iP c l).2.2=true):l=(iP c l).1++c::(iP c l).2.1:=by
 induction l with
 | nil=>simp[iP]at h
 | cons b l ih =>
  unfold iP at h⊢;split
  ·rename_i e;simp[e]
  rename_i e;rw[if_neg e]at h;simp only[Wp,List.cons.injEq,true_and];exact ih h
theorem Bc{c:UInt8}{s:ByteArray}(h:oU c s=true):s=(kv c s++⟨#[c]⟩)++iK c s:=by
 apply je;have:=MP c s.data.toList h;simpa[kv,iK,ByteArray.data_append] using this
theorem GU{c:UInt8}{s:ByteArray}(h:oU c s=true):(iK c s).size<s.size:=by
 have:=congrArg ByteArray.size (Bc h);have e1:(⟨#[c]⟩:ByteArray).size=1:=rfl;simp only[VT,e1]at this;omega
theorem GV(l:bW)(k:Nat)(hk:k<=l.size):l=l.extract 0 k++l.extract k l.size:=by
 apply je;rw[Wz,ByteArray.data_extract,ByteArray.data_extract];have hk':k<=l.data.size:=hk;have h2:l.size=l.data.size:=rfl;rw[h2];simp;rw[show max k l.size=l.data.toList.length by simp[Nat.max_def];omega,VP]
theorem toList_inj{a b:ByteArray}(h:a.toList=b.toList):a=b:=by
 rw[mP,mP]at h;exact je h
theorem P5{l:ByteArray}(h:Bb l=true):l=PZ++l.extract 5 l.size:=by
 unfold Bb at h;simp only[VF,VM,beq_iff_eq]at h;have e:=toList_inj h.2
 conv=>lhs;rw[GV l 5 (by omega),e]
theorem P6{l:ByteArray}(h:yn (iK 32 l)=true):l=((kv 32 l++⟨#[32,61,32]⟩)++Dt l):=by
 unfold yn at h;simp only[VF,VM,beq_iff_eq]at h;have hf:oU 32 l=true:=by
  cases e:oU 32 l;case true=>rfl
  rw[NT e]at h;exact absurd h.1 (by decide)
 have e:=toList_inj h.2;have e2:iK 32 l=U5++Dt l:=by
  conv=>lhs;rw[GV (iK 32 l) 2 h.1,e]
  rfl
 have e3:(⟨#[32,61,32]⟩:ByteArray)=⟨#[32]⟩++U5:=by apply je;simp[ByteArray.data_append,U5]
 conv=>lhs;rw[Bc hf,e2]
 rw[e3];simp only[Wt]
theorem Bd{s:ByteArray}(h:mH s=true):gW (kG s).out=s/\s.size<=1000/\aP (kG s).out=true:=by
 unfold mH at h;simp only[VF,VM,beq_iff_eq]at h;exact⟨toList_inj h.2,h.1.1.1.1,h.1.2⟩
theorem MQ{acc acc':Q0b}{l:ByteArray}(h:nD acc l=some acc'):di acc'=di acc++(l++U6):=by
 unfold nD at h;split at h
 ·rename_i ht;injection h with h;subst h;rw[mM]
  conv=>rhs;rw[P5 ht]
  simp only[mJ,dL,vP];rfl
 split at h
 ·rename_i h2;injection h with h;subst h;simp only[VF,Bool.not_eq_true']at h2;obtain⟨⟨h3,h4⟩,h5⟩:=h2;have hne:acc≠[]:=fun e=>by rw[e]at h3;simp at h3
  have e1:=List.dropLast_concat_getLast hne;rw[<-e1,qZ,mM,mM,qY]
  conv=>rhs;rw[P6 h4]
  have e2:=(Bd h5).1;simp only[GR,e2,Wt];rfl
 cases h
def Tm(T:Q0b):Prop:=∀t∈T,∀r∈t.rels,r.expr.length<=15/\∀e∈r.expr,e.light/\e.fits
theorem RL{acc acc':Q0b}{l:ByteArray}(h:nD acc l=some acc')(hk:Tm acc):Tm acc':=by
 unfold nD at h;split at h
 ·injection h with h;subst h;intro t ht r hr;rcases VL.1 ht with ht|ht
  ·exact hk t ht r hr
  rw[VK]at ht;subst ht;cases hr
 split at h
 ·rename_i h2;injection h with h;subst h;simp only[VF,Bool.not_eq_true']at h2;obtain⟨⟨h3,h4⟩,h5⟩:=h2;have hne:acc≠[]:=fun e=>by rw[e]at h3;simp at h3
  have e1:=List.dropLast_concat_getLast hne;obtain⟨-,hs,hsp⟩:=Bd h5;intro t ht r hr;rw[<-e1,qZ]at ht;rcases VL.1 ht with ht|ht
  ·exact hk t (by rw[<-e1];exact WQ _ ht) r hr
  rw[VK]at ht;subst ht;rcases VL.1 hr with hr|hr
  ·exact hk (acc.getLast hne) (List.getLast_mem hne) r hr
  rw[VK]at hr;subst hr;refine⟨(oh hsp).2,fun e he=>?_⟩;exact(Pe (s:=Dt l) _ true ⟨0,false,[]⟩ (VG _) (fun e he=>by cases he) e he).light hs
 cases h
theorem yo:∀(rs:List Rl),rs.length*4<=(dL rs).size/\∀r∈rs,r.name.size+4<=(dL rs).size
 | []=>⟨by simp,fun r hr=>by cases hr⟩
 | r::rs=>by
  obtain⟨h1,h2⟩:=yo rs;have e1:(⟨#[32,61,32]⟩:ByteArray).size=3:=rfl;have e2:(⟨#[10]⟩:ByteArray).size=1:=rfl;have h3:(dL (r::rs)).size=r.name.size+3+(gW r.expr).size+1+(dL rs).size:=by simp only[dL,GR,VT,e1,e2]
  refine⟨by rw[h3,We];omega,fun q hq=>?_⟩;rcases VU.1 hq with rfl|hq
  ·omega
  have:=h2 q hq;omega
theorem Be:∀(T:Q0b),T.length*6<=(di T).size/\∀t∈T,t.name.size+6+(dL t.rels).size<=(di T).size
 | []=>⟨by simp,fun r hr=>by cases hr⟩
 | t::ts=>by
  obtain⟨h1,h2⟩:=Be ts;have h3:(di (t::ts)).size=t.name.size+6+(dL t.rels).size+(di ts).size:=by simp only[di,VT,ym]
  refine⟨by rw[h3,We];omega,fun q hq=>?_⟩;rcases VU.1 hq with rfl|hq
  ·omega
  have:=h2 q hq;omega
theorem rows_ok{rs:Q06}(hk:Tm (ag rs))(hz:(di (ag rs)).size<=3000):rs.length<=500/\(∀r∈rs,r.rows.length<=750/\r.name.size<=3000/\∀q∈r.rows,q.name.size<=3000)/\(∀r∈rs,r.light)/\∀r∈rs,r.fits:=by
 obtain⟨h1,h2⟩:=Be (ag rs);rw[lm]at h1;have key:∀r∈rs,r.rows.length<=750/\r.name.size<=3000/\∀q∈r.rows,q.name.size<=3000:=fun r hr=>by
  have h3:=h2 r.p (VQ.2 ⟨r,hr,rfl⟩);obtain⟨h4,h5⟩:=yo (eu r.rows);rw[rJ]at h4;have h6:r.name.size+6+(dL (eu r.rows)).size<=(di (ag rs)).size:=h3;refine⟨by omega,by omega,fun q hq=>?_⟩;have:=h5 q.p (VQ.2 ⟨q,hq,rfl⟩);have h7:q.name.size+4<=(dL (eu r.rows)).size:=this;omega
 have kex:∀r∈rs,∀q∈r.rows,q.rows.length<=15/\∀x∈q.rows,x.e.light/\x.e.fits:=fun r hr q hq=>by
  have:=hk r.p (VQ.2 ⟨r,hr,rfl⟩) q.p (VQ.2 ⟨q,hq,rfl⟩);exact⟨by rw[<-aZ];exact this.1,fun x hx=>this.2 x.e (VQ.2 ⟨x,hx,rfl⟩)⟩
 refine⟨by omega,key,fun r hr=>⟨by have:=(key r hr).1;omega,fun q hq=>⟨by have:=(kex r hr q hq).1;omega,fun x hx=>((kex r hr q hq).2 x hx).1⟩⟩,fun r hr=>⟨by have:=(key r hr).2.1;unfold maxLen;omega,by have:=(key r hr).1;unfold maxLen;omega,fun q hq=>⟨by have:=(key r hr).2.2 q hq;unfold maxLen;omega,by have:=(kex r hr q hq).1;unfold maxLen;omega,fun x hx=>((kex r hr q hq).2 x hx).2⟩⟩⟩
open ChangeAt ChangeShapes Maps RowKit WideShapes
def gp(ts:Q0b)(ty over rel:ByteArray):List ByteArray:=if bH (aK ts ty over) then ig ts ty over rel else []
theorem MR:(prog.info? 9).map (fun i=>(i.zero,i.size,i.bytes))=some (some (.string ⟨#[]⟩),1,16):=by kernel_rfl
theorem JM(r:ER)(h:bH (aj [r])=true):aV (aj [r])=r.e.allow/\r.e.kind=1:=by
 simp only[aj,WO,List.map_nil,bH,VF,VM]at h;exact⟨by simp[aj,aV,h.1],h.1⟩
theorem JN{rows:Q08}(h:bH (aj rows)=true):∃r,rows=[r]:=by
 rcases rows with _|⟨r,_|⟨r2,rs⟩⟩
 ·simp[aj,bH]at h
 ·exact⟨r,rfl⟩
 simp[aj,bH]at h
set_option maxRecDepth 100000 in
theorem yt(b n:Nat)(rs:Q06)(ad:Q02)(M:ByteArray×ByteArray->Option Value)(typ:bW)(x:ER)(w:ae)(hV:aN dO prog 151 w b n M)(hT:Tab rs M)(hs:jP w ad rs)(hl:∀r∈rs,r.light)(hf:∀r∈rs,r.fits)(ht:typ.size<=maxLen)(ho:x.e.over.size<=maxLen)(hn:x.e.name.size<=maxLen):
  Calls prog 174 #[.map (some b),.string typ,x.val] w fun e w'=>(∃(WY:Q02) (cap':Nat),e=.returned (.slice WY (gp (ag rs) typ x.e.over x.e.name).length cap')/\TH w' WY (gp (ag rs) typ x.e.over x.e.name)/\∀p,WY=some p->w.heap.size<=p.block)/\af w w':=by
 have HV:Hid (aN dO prog 151 w b n M):=hV;have HT:=aC hT;have HS:=aC hs;have HL:=aC hl;have Xd:=aC hf;obtain⟨kl,hkl⟩:=ku (typ,x.e.over) ht ho;have XB:Hid (keyOf prog 151 (dO (typ,x.e.over))=some kl):=hkl;clear hkl hV hT hs hl hf;obtain⟨i0,hi,hz0,hz1,hz2⟩:=info_parts MR;obtain⟨W0,hW0⟩:∃W0,W0=w.alloc (.cells #[.int .i64 x.e.kind,.slice x.adA x.e.allow.length x.capA,.string x.e.over,.string x.e.name,.slice x.adK x.e.kids.length x.capK] 188):=⟨_,rfl⟩;have hal:af w W0:=by rw[hW0];exact(VD _ _).alloc (VC _) _
 have HB0:=aC hal;have HV0:=aC (HV.out.below hal);have c3:W0.cell? ⟨w.heap.size,3,none⟩=some (.string x.e.name):=by rw[hW0];simp
 have hg0:w.heap.size<W0.heap.size:=by rw[hW0];simp
 -- what lies in the table
 obtain⟨rows,WW,capE,HM,HE,HF,HFL⟩:∃(rows:Q08) (WW:Q02) (capE:Nat),Hid ((M (typ,x.e.over)).getD (.slice none 0 0)=.slice WW rows.length capE)/\Hid (aj rows=aK (ag rs) typ x.e.over)/\Hid (pX rs WW rows)/\Hid (∀q∈rows,q.e.fits):=by
  cases e:M (typ,x.e.over) with
  | none=>exact⟨[],none,0,rfl,by show _=_;unfold aK;rw[HT.out.no _ e];rfl,.inl rfl,by show ∀_,_;simp⟩
  | some v =>
   obtain⟨t,htm,q,hq,-,rfl,e1,-⟩:=HT.out.yes _ v e;exact⟨q.rows,q.ad,q.cap,rfl,by show _=_;unfold aK;rw[e1];rfl,.inr ⟨t,htm,q,hq,rfl,rfl⟩,((Xd.out t htm).2.2 q hq).2.2⟩
 have Zo:Hid (jq W0 WW rows):=HF.out.sl (HS.out.below hal);have XM:=HF.out.light HL.out;have HLE1:rows.length<=1048576:=XM.1;have HLE2:Hid (∀q∈rows,q.e.light):=XM.2;clear XM hal;go_enter func174,ntmps174;unfold ER.val;go_wp2_with(at_lookup;rw[<-hW0];refine jr _ rfl _ _ 95 rfl 151 147 jb underlying95 (rZ _) b n M rfl HV0.out (typ,x.e.over) kl rfl XB.out ?_;rw[HM.out];clear hW0);refine(vH WW capE rows _ HLE1 Zo.out HLE2.out).mono ?_;rintro e w1 ⟨rfl,hb1⟩;have HB1:=kL HB0 hb1;have HNM:Hid (w1.cell? ⟨w.heap.size,3,none⟩=some (.string x.e.name)/\w.heap.size<w1.heap.size):=⟨aI hb1 hg0 c3,Vy hg0 hb1.size⟩;clear hb1 c3 hg0;cases hd:bH (aj rows);case false=>
  have HG:Hid (gp (ag rs) typ x.e.over x.e.name=[]):=by show _=_;unfold gp;rw[<-HE.out,hd];rfl
  go_wp2;go_ret;refine⟨⟨none,0,by rw[HG.out];rfl,by rw[HG.out];exact .inl rfl,fun p hp=>by cases hp⟩,HB1.out⟩
 obtain⟨r,rfl⟩:=JN hd;have HG:Hid (gp (ag rs) typ x.e.over x.e.name=gl (ag rs) x.e.name r.e.allow):=by
  show _=_;unfold gp ig;rw[<-HE.out,hd,if_pos rfl,(JM r hd).1]
 rcases Zo.out with h|⟨bE,offE,rfl,hbE,hrE,hokE⟩
 ·cases h
 have HSW:Hid (jq w1 (some ⟨bE,offE,none⟩) [r]):=HF.out.sl (HS.out.below HB1.out);rcases HSW.out with h|⟨bE',offE',heE,hbE1,hrE1,hokE1⟩
 ·cases h
 injection heE with heE;injection heE with heE1 heE2;subst heE1;subst heE2;obtain⟨s0,s1,s2,s3,s4⟩:=hrE1 0 (by simp);simp only[Nat.zero_mul,Nat.add_zero,List.getElem_cons_zero]at s0 s1 s2 s3 s4;have HOKR:Hid (r.ok w):=by
  have h1:=HF.out.sl HS.out;exact h1.mem (by simp)
 have lgA:r.e.allow.length<=1048576:=(HLE2.out r (by simp)).1;have HFA:Hid (∀a∈r.e.allow,a.fits):=(HFL.out r (by simp)).1;have hone:([r]:Q08).length=1:=rfl;rw[hone];clear hrE hokE hrE1 hokE1 HE HM hd hbE;go_wp2_with fail;go_loopw[8,25] (fun v i wr=>∃k:Nat,k<=r.e.allow.length/\i=.int .i64 k/\Hid (wr.ownsRow w.heap.size 9 1 v (gl (ag rs) x.e.name (r.e.allow.take k)).length (qE (gl (ag rs) x.e.name (r.e.allow.take k))))/\Hid (af w wr)/\Hid (wr.cell? ⟨w.heap.size,3,none⟩=some (.string x.e.name)/\w.heap.size<wr.heap.size/\v.ownBlock≠some w.heap.size)) (fun _ i _=>r.e.allow.length-(intOf i).toNat);case atStart=>exact⟨0,VG _,rfl,World.ownsRow_nil _ _ _ _,HB1,HNM.out.1,HNM.out.2,by simp[Value.ownBlock]⟩
 clear HB1 HNM s0 s1 s2 s3 s4;obtain⟨k,hk,rfl,HOW,HB,HC⟩:=hrel;by_cases hlt:k<r.e.allow.length
 ·rcases (HOKR.out.1).below HB.out with hnil|⟨ba,YO,had,Z7,hra⟩
  ·rw[hnil]at hlt;simp at hlt
  obtain⟨t0,t1⟩:=hra k hlt;have hk1:=bq k;have hk2:(k:Int)<(r.e.allow.length:Int):=by omega
  have zA:=HFA.out _ (Vz hlt);have z1:r.e.allow[k].t.size<=maxLen:=zA.1;obtain⟨hc3,hcl,hco⟩:=HC.out;obtain⟨W1,hW1⟩:∃W1,W1=wr.alloc (.cells #[.string r.e.allow[k].t,.string r.e.allow[k].s] 223):=⟨_,rfl⟩;have hal:af wr W1:=by rw[hW1];exact(VD _ _).alloc (VC _) _
  have WZ:=kL HB hal;have HVW:=aC (HV.out.below WZ.out);have Y8:Hid (W1.ownsRow w.heap.size 9 1 u8 (gl (ag rs) x.e.name (r.e.allow.take k)).length (qE (gl (ag rs) x.e.name (r.e.allow.take k)))):=own_below HOW.out hal;have g0:W1.cell? ⟨wr.heap.size,0,none⟩=some (.string r.e.allow[k].t):=by rw[hW1];simp
  have g3:=aI hal hcl hc3;have hgl1:wr.heap.size<W1.heap.size:=by rw[hW1];simp
  have hgl:=IP (ag rs) x.e.name (r.e.allow.take k);rw[V9]at hgl;have HI:=HT.out.some_iff (r.e.allow[k].t,x.e.name);have hwsz:w.heap.size<=W1.heap.size:=WZ.out.size;rw[had];clear hra hal HC HOW;go_wp2_with fail;rw[<-hW1];refine(zb b n M r.e.allow[k].t x.e.name _ z1 hn HVW.out).mono ?_;rintro e w' ⟨rfl,hw'⟩;rw[hw'];clear hw' w' hW1 t0 t1 hc3;cases hz:(M (r.e.allow[k].t,x.e.name)).isSome;case false=>
   have HE:Hid (gl (ag rs) x.e.name (r.e.allow.take (k+1))=gl (ag rs) x.e.name (r.e.allow.take k)):=by
    refine SI _ _ _ _ hlt ?_;rw[hz]at HI;simpa using HI.symm
   clear HI;go_wp2;go_roundw;case rel=>exact⟨k+1,by omega,by go_num,by rw[HE.out];exact Y8,WZ,g3,by omega,hco⟩
   simp[intOf]<;>omega
  have HX:Hid (gl (ag rs) x.e.name (r.e.allow.take (k+1))=gl (ag rs) x.e.name (r.e.allow.take k)++[r.e.allow[k].t]):=by
   refine Oy _ _ _ _ hlt ?_;rw[hz]at HI;simpa using HI.symm
  clear HI;go_wp2_with(at_builtin;refine wpList_append_own_at _ rfl _ _ 169 rfl w.heap.size 9 i0 (.string ⟨#[]⟩) 1 16 underlying169 hi hz0 hz1 hz2 rfl (by decide) _ _ _ rfl (Y8.out.alloc _) ⟨W1.heap.size,0,none⟩ 1 1 [.string r.e.allow[k].t] rfl rfl (cell_one_new _ _ _) (by intro u hu;simp at hu;subst hu;rfl) (by unfold maxLen;omega) (by omega) (by simp;omega) ?_);intro v' w3 hown3 hgrow _ hloc;have hb3:Hid (af w w3):=(WZ.out.alloc WZ.out.size _).grown hgrow (by simp;omega) (fun i hi=>(Y8.out.lt i hi).1);have Xm:Hid (w3.ownsRow w.heap.size 9 1 v' (gl (ag rs) x.e.name (r.e.allow.take (k+1))).length (qE (gl (ag rs) x.e.name (r.e.allow.take (k+1))))):=by
   show World.ownsRow _ _ _ _ _ _ _;rw[HX.out];simpa[qE] using hown3
  have HC3:Hid (w3.cell? ⟨w.heap.size,3,none⟩=some (.string x.e.name)/\w.heap.size<w3.heap.size/\v'.ownBlock≠some w.heap.size):=by
   refine⟨?_,?_,?_⟩
   ·rw[hgrow.cell_far _ (by simp;omega) (Ne.symm hco)];exact aI ((VD _ _).alloc (VC _) _) (by omega) g3
   ·have:=hgrow.size;simp at this;omega
   rcases hloc with e|e
   ·rw[e];exact hco
   rw[e];simp;omega
  clear hown3 hgrow hloc Y8 g0 g3;go_wp2;go_roundw;case rel=>exact⟨k+1,by omega,by go_num,Xm,hb3,HC3⟩
  simp[intOf]<;>omega
 obtain rfl:k=r.e.allow.length:=by omega
 have hown:=HOW.out;rw[VP]at hown;obtain⟨WY,cp,rfl,hS',hN'⟩:=Oz hown;have HS2:=aC hS';have Yr:Hid (∀p,WY=some p->w.heap.size<=p.block):=hN';clear hown HOW hS' hN' HC;go_wp2;go_ret;refine⟨⟨WY,cp,by rw[HG.out];rfl,by rw[HG.out];exact HS2.out,Yr.out⟩,HB.out⟩
def nO(a:Al)(e:Ex):Bool:=decide (e.kind=1)&&dP e.allow e.allow.length a
def oG(ts:Q0b)(ty rel:ByteArray)(a:Al):Bool:=(aK ts ty rel).any (nO a)
theorem fit_drop(a:Al)(rows:Q08)(k:Nat)(h:k<rows.length):(aj (rows.drop k)).any (nO a)=(nO a rows[k].e || (aj (rows.drop (k+1))).any (nO a)):=by
 rw[gH _ _ h];rfl
set_option maxRecDepth 100000 in
theorem Bf(b n:Nat)(rs:Q06)(ad:Q02)(M:ByteArray×ByteArray->Option Value)(oa ob r c d s:bW)(w:ae)(hV:aN dO prog 151 w b n M)(hT:Tab rs M)(hs:jP w ad rs)(hl:∀r∈rs,r.light)(ho:oa.size<=maxLen)(hr:r.size<=maxLen):
  Calls prog 80 #[.map (some b),.agg #[.string oa,.string ob,.string r,.string c,.string d,.string s]] w fun e w'=>e=.returned (.bool (oG (ag rs) oa r ⟨c,s⟩))/\af w w':=by
 have HT:=aC hT;have HS:=aC hs;have HL:=aC hl;obtain⟨kl,hkl⟩:=ku (oa,r) ho hr;have XB:Hid (keyOf prog 151 (dO (oa,r))=some kl):=hkl;obtain⟨W0,hW0⟩:∃W0,W0=(w.alloc (.cells #[.string oa,.string ob,.string r,.string c,.string d,.string s] 29)).alloc (.cells #[.string c,.string s] 223):=⟨_,rfl⟩;have hal:af w W0:=by
  rw[hW0]
  repeat(first|exact VD _ _|refine Below.alloc ?_ (by first|(simp;done)|(simp;omega)) _)
 have HB0:=aC hal;have HV0:=aC (hV.below hal);have X9:Hid (W0.cell? ⟨w.heap.size+1,0,none⟩=some (.string c)/\W0.cell? ⟨w.heap.size+1,1,none⟩=some (.string s)/\w.heap.size+1<W0.heap.size):=⟨by rw[hW0];simp,by rw[hW0];simp,by rw[hW0];simp⟩;obtain⟨rows,WW,capE,HM,HE,HF⟩:∃(rows:Q08) (WW:Q02) (capE:Nat),Hid ((M (oa,r)).getD (.slice none 0 0)=.slice WW rows.length capE)/\Hid (aj rows=aK (ag rs) oa r)/\Hid (pX rs WW rows):=by
  cases e:M (oa,r) with
  | none=>exact⟨[],none,0,rfl,by show _=_;unfold aK;rw[HT.out.no _ e];rfl,.inl rfl⟩
  | some v =>
   obtain⟨t,htm,q,hq,-,rfl,e1,-⟩:=HT.out.yes _ v e;exact⟨q.rows,q.ad,q.cap,rfl,by show _=_;unfold aK;rw[e1];rfl,.inr ⟨t,htm,q,hq,rfl,rfl⟩⟩
 have XM:=HF.out.light HL.out;have HLE1:rows.length<=1048576:=XM.1;have HLE2:Hid (∀q∈rows,q.e.light):=XM.2;have Zo:Hid (jq w WW rows):=HF.out.sl HS.out;clear hV hT hs hl hkl hal XM;go_enter func80,ntmps80;go_wp2_with(at_lookup;rw[<-hW0];refine jr _ rfl _ _ 95 rfl 151 147 jb underlying95 (rZ _) b n M rfl HV0.out (oa,r) kl rfl XB.out ?_;rw[HM.out];clear hW0);go_loopw[23] (fun i wr=>∃k:Nat,k<=rows.length/\i=.int .i64 k/\Hid ((aj (rows.drop k)).any (nO ⟨c,s⟩)=(aj rows).any (nO ⟨c,s⟩))/\Hid (af w wr)/\Hid (wr.cell? ⟨w.heap.size+1,0,none⟩=some (.string c)/\wr.cell? ⟨w.heap.size+1,1,none⟩=some (.string s)/\w.heap.size+1<wr.heap.size)) (fun i _=>rows.length-(intOf i).toNat);case atStart=>exact⟨0,VG _,rfl,rfl,HB0,X9⟩
 clear HB0 X9 HV0;obtain⟨k,hk,rfl,HP,HB,HC⟩:=hrel;by_cases hlt:k<rows.length
 ·rcases Zo.out.below HB.out with hnil|⟨bE,offE,hadE,hbE,hrE,hok⟩
  ·rw[hnil]at hlt;simp at hlt
  obtain⟨t0,t1,t2,t3,t4⟩:=hrE k hlt;have XK:Hid (rows[k].ok wr):=hok _ (Vz hlt);have lgA:rows[k].e.allow.length<=1048576:=(HLE2.out _ (Vz hlt)).1;have hk1:=bq k;have hk2:(k:Int)<(rows.length:Int):=by omega
  obtain⟨x0,x1,x2⟩:=HC.out;have HD:Hid ((aj rows).any (nO ⟨c,s⟩)=(nO ⟨c,s⟩ rows[k].e || (aj (rows.drop (k+1))).any (nO ⟨c,s⟩))):=by show _=_;rw[<-HP.out];exact fit_drop _ _ _ hlt
  obtain⟨W1,hW1⟩:∃W1,W1=wr.alloc (.cells #[.int .i64 rows[k].e.kind,.slice rows[k].adA rows[k].e.allow.length rows[k].capA,.string rows[k].e.over,.string rows[k].e.name,.slice rows[k].adK rows[k].e.kids.length rows[k].capK] 188):=⟨_,rfl⟩;have hal:af wr W1:=by rw[hW1];exact(VD _ _).alloc (VC _) _
  have HB1:=kL HB hal;have XL:Hid (W1.cell? ⟨w.heap.size+1,0,none⟩=some (.string c)/\W1.cell? ⟨w.heap.size+1,1,none⟩=some (.string s)/\w.heap.size+1<W1.heap.size):=⟨aI hal x2 x0,aI hal x2 x1,Vy x2 hal.size⟩;have HA1:Hid (ll W1 rows[k].adA rows[k].e.allow):=XK.out.1.below hal;rw[hadE];clear hrE hok hal HC;by_cases h1:rows[k].e.kind=1
  ·have hq1:(rows[k].e.kind==1)=true:=by simpa using h1
   have Zf:Hid (nO ⟨c,s⟩ rows[k].e=dP rows[k].e.allow rows[k].e.allow.length ⟨c,s⟩):=by show _=_;unfold nO;simp[h1]
   replace h1:Hid (rows[k].e.kind=1):=h1;go_wp2_with fail;rw[<-hW1];refine(vF rows[k].adA rows[k].e.allow.length rows[k].capA rows[k].e.allow ⟨c,s⟩ _ (VC _) lgA HA1.out).mono ?_;rintro e w2 ⟨rfl,hb2⟩;have HB2:=kL HB1 hb2;have Xp:Hid (w2.cell? ⟨w.heap.size+1,0,none⟩=some (.string c)/\w2.cell? ⟨w.heap.size+1,1,none⟩=some (.string s)/\w.heap.size+1<w2.heap.size):=⟨aI hb2 XL.out.2.2 XL.out.1,aI hb2 XL.out.2.2 XL.out.2.1,Vy XL.out.2.2 hb2.size⟩;clear hb2 hW1 t0 t1 t2 t3 t4 x0 x1;cases hz:dP rows[k].e.allow rows[k].e.allow.length ⟨c,s⟩;case true=>
    have HN:Hid (oG (ag rs) oa r ⟨c,s⟩=true):=by show _=_;unfold oG;rw[<-HE.out,HD.out,Zf.out,hz];rfl
    go_wp2;go_ret;exact⟨by rw[HN.out];rfl,HB2.out⟩
   have Xa:Hid ((aj (rows.drop (k+1))).any (nO ⟨c,s⟩)=(aj rows).any (nO ⟨c,s⟩)):=by show _=_;rw[HD.out,Zf.out,hz];rfl
   go_wp2;go_roundw;case rel=>exact⟨k+1,by omega,by go_num,Xa,HB2,Xp⟩
   simp[intOf]<;>omega
  have hq1:(rows[k].e.kind==1)=false:=by simpa using h1
  have Xa:Hid ((aj (rows.drop (k+1))).any (nO ⟨c,s⟩)=(aj rows).any (nO ⟨c,s⟩)):=by show _=_;rw[HD.out];simp[nO,h1]
  have Yl:Hid (af w (wr.alloc (.cells #[.int .i64 rows[k].e.kind,.slice rows[k].adA rows[k].e.allow.length rows[k].capA,.string rows[k].e.over,.string rows[k].e.name,.slice rows[k].adK rows[k].e.kids.length rows[k].capK] 188))):=by rw[<-hW1];exact HB1
  have HCX:Hid ((wr.alloc (.cells #[.int .i64 rows[k].e.kind,.slice rows[k].adA rows[k].e.allow.length rows[k].capA,.string rows[k].e.over,.string rows[k].e.name,.slice rows[k].adK rows[k].e.kids.length rows[k].capK] 188)).cell? ⟨w.heap.size+1,0,none⟩=some (.string c)/\(wr.alloc (.cells #[.int .i64 rows[k].e.kind,.slice rows[k].adA rows[k].e.allow.length rows[k].capA,.string rows[k].e.over,.string rows[k].e.name,.slice rows[k].adK rows[k].e.kids.length rows[k].capK] 188)).cell? ⟨w.heap.size+1,1,none⟩=some (.string s)/\w.heap.size+1<(wr.alloc (.cells #[.int .i64 rows[k].e.kind,.slice rows[k].adA rows[k].e.allow.length rows[k].capA,.string rows[k].e.over,.string rows[k].e.name,.slice rows[k].adK rows[k].e.kids.length rows[k].capK] 188)).heap.size):=by rw[<-hW1];exact XL
  clear hW1;go_wp2;go_roundw;case rel=>exact⟨k+1,by omega,by go_num,Xa,Yl,HCX⟩
  simp[intOf]<;>omega
 have HN:Hid (oG (ag rs) oa r ⟨c,s⟩=false):=by show _=_;unfold oG;rw[<-HE.out,<-HP.out,VW (by omega)];rfl
 go_wp2;go_ret;exact⟨by rw[HN.out];rfl,HB.out⟩
theorem Bg(t:TR)(g:Nat)(nm:bW)(w:ae)(hg:g<w.heap.size)(hc:w.cell? ⟨g,0,none⟩=some (.string nm)):
  Calls prog 212 #[.agg #[.string t.name,.slice t.ad t.rows.length t.cap],.pointer (some ⟨g,0,none⟩)] w fun e w'=>e=.returned (.bool (t.name.toList==nm.toList))/\af w w':=by
 go_enter func212,ntmps212;go_wp2;go_ret;exact⟨rfl,(VD _ _).alloc (VC _) _⟩
theorem Du(rs:Q06)(k:Nat)(h:k<rs.length)(nm:bW):lF (ag (rs.drop k)) nm=((rs[k].name.toList==nm.toList) || lF (ag (rs.drop (k+1))) nm):=by
 rw[nX _ _ h];rfl
theorem Bh(ad:Q02)(cap:Nat)(rs:Q06)(g:Nat)(nm:bW)(w:ae)(hlen:rs.length<=1048576)(hs:jP w ad rs)(hg:g<w.heap.size)(hc:w.cell? ⟨g,0,none⟩=some (.string nm)):
  Calls prog 231 #[.slice ad rs.length cap,.func (Fn.func 212) #[] #[.pointer (some ⟨g,0,none⟩)]] w fun e w'=>(∃r:Int,e=.returned (.int .i64 r)/\decide (0<=r)=lF (ag rs) nm)/\af w w':=by
 have HS:=aC hs;have HC:Hid (w.cell? ⟨g,0,none⟩=some (.string nm)):=hc;clear hs hc;go_enter func231,ntmps231;go_wp2_with fail;go_loopw[8] (fun i wr=>∃k:Nat,k<=rs.length/\i=.int .i64 k/\Hid (lF (ag (rs.drop k)) nm=lF (ag rs) nm)/\Hid (af w wr)) (fun i _=>rs.length-(intOf i).toNat);case atStart=>exact⟨0,VG _,rfl,rfl,VD _ _⟩
 obtain⟨k,hk,rfl,HP,HB⟩:=hrel;by_cases hlt:k<rs.length
 ·rcases HS.out.below HB.out with rfl|⟨b,off,rfl,hb,hr,-⟩
  ·simp at hlt
  obtain⟨t0,t1⟩:=hr k hlt;have hk1:=bq k;have hk2:(k:Int)<(rs.length:Int):=by omega
  have HCW:Hid (wr.cell? ⟨g,0,none⟩=some (.string nm)):=aI HB.out hg HC.out;have HGW:Hid (g<wr.heap.size):=Vy hg HB.out.size;clear hr;cases he:(rs[k].name.toList==nm.toList);case true=>
   have HN:Hid (lF (ag rs) nm=true):=by show _=_;rw[<-HP.out,Du _ _ hlt,he];rfl
   go_wp2_with(go_at_call 212;refine(Bg rs[k] g nm _ HGW.out HCW.out).mono ?_;rintro e w' ⟨he2,hbx⟩;rw[he]at he2;subst he2);go_ret;exact⟨⟨k,rfl,by rw[HN.out];simp⟩,HB.out.trans (hbx.mono HB.out.size)⟩
  have Xa:Hid (lF (ag (rs.drop (k+1))) nm=lF (ag rs) nm):=by show _=_;rw[<-HP.out,Du _ _ hlt,he];rfl
  go_wp2_with(go_at_call 212;refine(Bg rs[k] g nm _ HGW.out HCW.out).mono ?_;rintro e w' ⟨he2,hbx⟩;rw[he]at he2;subst he2);go_roundw;case rel=>exact⟨k+1,by omega,by go_num,Xa,HB.out.trans (hbx.mono HB.out.size)⟩
  simp[intOf]<;>omega
 have HN:Hid (lF (ag rs) nm=false):=by show _=_;rw[<-HP.out,VW (by omega)];rfl
 go_wp2;go_ret;exact⟨⟨-1,rfl,by rw[HN.out];simp⟩,HB.out⟩
theorem vQ(ad:Q02)(cap:Nat)(rs:Q06)(g:Nat)(nm:bW)(w:ae)(hlen:rs.length<=1048576)(hs:jP w ad rs)(hg:g<w.heap.size)(hc:w.cell? ⟨g,0,none⟩=some (.string nm)):
  Calls prog 211 #[.slice ad rs.length cap,.func (Fn.func 212) #[] #[.pointer (some ⟨g,0,none⟩)]] w fun e w'=>e=.returned (.bool (lF (ag rs) nm))/\af w w':=by
 go_enter func211,ntmps211;go_wp2_with fail;refine(Bh ad cap rs g nm _ hlen hs hg hc).mono ?_;rintro e w' ⟨⟨r,rfl,hr⟩,hbx⟩;have HR:Hid (decide (0<=r)=lF (ag rs) nm):=hr;clear hr hs hc;go_wp2;go_ret;exact⟨by rw[<-HR.out];rfl,hbx⟩
set_option maxRecDepth 100000 in
theorem Bi(ad adA:Q02)(cap capA:Nat)(rs:Q06)(b n:Nat)(M:ByteArray×ByteArray->Option Value)(xs:Q0a)(w:ae)(hlen:rs.length<=1048576)(hs:jP w ad rs)(hV:aN dO prog 151 w b n M)(hT:Tab rs M)(hla:xs.length<=1048576)(hsa:ll w adA xs)(hfa:∀a∈xs,a.fits):
  Calls prog 172 #[.slice ad rs.length cap,.map (some b),.slice adA xs.length capA] w fun e w'=>e=.returned (.bool (qF (ag rs) xs))/\af w w':=by
 have HS:=aC hs;have HV:Hid (aN dO prog 151 w b n M):=hV;have HT:=aC hT;have HA:=aC hsa;have HFA:=aC hfa;clear hs hV hT hsa hfa;go_enter func172,ntmps172;go_wp2_with fail;go_loopw[11] (fun i wr=>∃k:Nat,k<=xs.length/\i=.int .i64 k/\Hid (nY (ag rs) xs k=true)/\Hid (af w wr)) (fun i _=>xs.length-(intOf i).toNat);case atStart=>exact⟨0,VG _,rfl,zS _ _,VD _ _⟩
 obtain⟨k,hk,rfl,HP,HB⟩:=hrel;by_cases hlt:k<xs.length
 ·rcases HA.out.below HB.out with rfl|⟨ba,YO,rfl,Z7,hra⟩
  ·simp at hlt
  obtain⟨t0,t1⟩:=hra k hlt;have hk1:=bq k;have hk2:(k:Int)<(xs.length:Int):=by omega
  have zA:=HFA.out _ (Vz hlt);have z1:xs[k].t.size<=maxLen:=zA.1;have z2:xs[k].s.size<=maxLen:=zA.2;have HI:Hid ((M (xs[k].t,xs[k].s)).isSome=!(aK (ag rs) xs[k].t xs[k].s).isEmpty):=HT.out.some_iff (xs[k].t,xs[k].s);obtain⟨W1,hW1⟩:∃W1,W1=wr.alloc (.cells #[.string xs[k].t,.string xs[k].s] 223):=⟨_,rfl⟩;have hal:af wr W1:=by rw[hW1];exact(VD _ _).alloc (VC _) _
  have WZ:=kL HB hal;have g0:W1.cell? ⟨wr.heap.size,0,none⟩=some (.string xs[k].t):=by rw[hW1];simp
  have g1:W1.cell? ⟨wr.heap.size,1,none⟩=some (.string xs[k].s):=by rw[hW1];simp
  have hgl:wr.heap.size<W1.heap.size:=by rw[hW1];simp
  clear hra hal zA;go_wp2_with fail;rw[<-hW1];clear hW1 t0 t1;refine(vQ ad cap rs wr.heap.size xs[k].t _ hlen (HS.out.below WZ.out) hgl g0).mono ?_;rintro e w2 ⟨rfl,hb2⟩;have HB2:=kL WZ hb2;replace g0:=aI hb2 hgl g0;replace g1:=aI hb2 hgl g1;have Zk:=aC (HV.out.below HB2.out);clear hb2 hgl;cases ht:lF (ag rs) xs[k].t;case false=>
   have HN:Hid (qF (ag rs) xs=false):=uU _ _ k hlt (by simp[pY,ht]);go_wp2;go_ret;exact⟨by rw[HN.out];rfl,HB2.out⟩
  cases he:xs[k].s.toList.isEmpty;case true=>
   have Xa:Hid (nY (ag rs) xs (k+1)=true):=by show _=_;rw[o9 _ _ _ hlt,HP.out];simp[pY,ht,he]
   go_wp2;go_roundw;case rel=>exact⟨k+1,by omega,by go_num,Xa,HB2⟩
   simp[intOf]<;>omega
  cases hz:(M (xs[k].t,xs[k].s)).isSome;case false=>
   have HN:Hid (qF (ag rs) xs=false):=uU _ _ k hlt (by have:=HI.out;rw[hz]at this;simp[pY,ht,he];simpa using this.symm);go_wp2_with(go_at_call 173;refine(zb b n M xs[k].t xs[k].s _ z1 z2 Zk.out).mono ?_;rintro e w' ⟨he2,rfl⟩;rw[hz]at he2;subst he2);go_ret;exact⟨by rw[HN.out];rfl,HB2.out⟩
  have Xa:Hid (nY (ag rs) xs (k+1)=true):=by show _=_;rw[o9 _ _ _ hlt,HP.out];have:=HI.out;rw[hz]at this;simp[pY,ht,he];simpa using this.symm
  go_wp2_with(go_at_call 173;refine(zb b n M xs[k].t xs[k].s _ z1 z2 Zk.out).mono ?_;rintro e w' ⟨he2,rfl⟩;rw[hz]at he2;subst he2);go_roundw;case rel=>exact⟨k+1,by omega,by go_num,Xa,HB2⟩
  simp[intOf]<;>omega
 have HN:Hid (qF (ag rs) xs=true):=by
  have:=HP.out;obtain rfl:k=xs.length:=by omega
  unfold nY at this;rw[VP]at this;exact this
 go_wp2;go_ret;exact⟨by rw[HN.out];rfl,HB.out⟩
theorem uy{e:Ex}(h:az e=true)(h1:e.kind≠1):e.allow=[]:=by
 unfold az at h;rw[if_neg h1]at h;split at h
 ·simp only[VF,VM]at h;exact VS.1 h.1.1.2
 split at h
 ·simp only[VF,VM]at h;exact VS.1 h.1.2
 split at h
 ·simp only[VF,VM]at h;exact VS.1 h.1.1.2
 split at h
 ·simp only[VF,VM]at h;exact VS.1 h.1.1.2
 cases h
theorem JO(ts:Q0b)(typ:bW)(rows:Q08)(k:Nat)(h:k<rows.length):aU ts typ (aj (rows.drop k))=if qF ts rows[k].e.allow&&nJ ts typ rows[k].e then aU ts typ (aj (rows.drop (k+1))) else false:=by
 rw[gH _ _ h];rfl
theorem GX(ts:Q0b)(typ:bW)(e:Ex)(h:e.kind=3):nJ ts typ e=!(gp ts typ e.over e.name).isEmpty:=by
 unfold nJ gp;rw[if_neg (by omega),if_pos h];cases bH (aK ts typ e.over)<;>simp
set_option maxRecDepth 100000 in
theorem Bj(ad WW:Q02)(cap capE:Nat)(rs:Q06)(b n:Nat)(M:ByteArray×ByteArray->Option Value)(typ:bW)(rows:Q08)(w:ae)(hlen:rs.length<=1048576)(hs:jP w ad rs)(hl:∀r∈rs,r.light)(hf:∀r∈rs,r.fits)(hV:aN dO prog 151 w b n M)(hT:Tab rs M)(ht:typ.size<=maxLen)(hle:rows.length<=1048576)(hse:jq w WW rows)(hlE:∀q∈rows,q.e.light)(hfE:∀q∈rows,q.e.fits)(hnb:∀q∈rows,az q.e=true):
  Calls prog 125 #[.slice ad rs.length cap,.map (some b),.string typ,.slice WW rows.length capE] w fun e w'=>e=.returned (.bool (aU (ag rs) typ (aj rows)))/\af w w':=by
 have HS:=aC hs;have HL:=aC hl;have Xd:=aC hf;have HV:Hid (aN dO prog 151 w b n M):=hV;have HT:=aC hT;have HE:=aC hse;have XM:=aC hlE;have Zf:=aC hfE;have HNB:Hid (∀q∈rows,az q.e=true):=hnb;clear hs hl hf hV hT hse hlE hfE hnb;go_enter func125,ntmps125;go_wp2_with fail;go_loopw[13] (fun i wr=>∃k:Nat,k<=rows.length/\i=.int .i64 k/\Hid (aU (ag rs) typ (aj (rows.drop k))=aU (ag rs) typ (aj rows))/\Hid (af w wr)) (fun i _=>rows.length-(intOf i).toNat);case atStart=>exact⟨0,VG _,rfl,rfl,VD _ _⟩
 obtain⟨k,hk,rfl,HP,HB⟩:=hrel;by_cases hlt:k<rows.length
 ·rcases HE.out.below HB.out with rfl|⟨bE,offE,rfl,hbE,hrE,hokE⟩
  ·simp at hlt
  obtain⟨t0,t1,t2,t3,t4⟩:=hrE k hlt;have HOKW:Hid (rows[k].ok w):=HE.out.mem (Vz hlt);have hk1:=bq k;have hk2:(k:Int)<(rows.length:Int):=by omega
  have lgA:rows[k].e.allow.length<=1048576:=(XM.out _ (Vz hlt)).1;have HFK:Hid (rows[k].e.fits):=Zf.out _ (Vz hlt);have HNK:Hid (az rows[k].e=true):=HNB.out _ (Vz hlt);have HDR:=JO (ag rs) typ rows k hlt;have HD:Hid (aU (ag rs) typ (aj rows)=if qF (ag rs) rows[k].e.allow&&nJ (ag rs) typ rows[k].e then aU (ag rs) typ (aj (rows.drop (k+1))) else false):=by show _=_;rw[<-HP.out];exact HDR
  obtain⟨W1,hW1⟩:∃W1,W1=wr.alloc (.cells #[.int .i64 rows[k].e.kind,.slice rows[k].adA rows[k].e.allow.length rows[k].capA,.string rows[k].e.over,.string rows[k].e.name,.slice rows[k].adK rows[k].e.kids.length rows[k].capK] 188):=⟨_,rfl⟩;have hal:af wr W1:=by rw[hW1];exact(VD _ _).alloc (VC _) _
  have WZ:=kL HB hal;have HVW:=aC (HV.out.below WZ.out);have zO:rows[k].e.over.size<=maxLen:=HFK.out.2.1;have zN:rows[k].e.name.size<=maxLen:=HFK.out.2.2.1;clear hrE hokE hal HDR;by_cases h1:rows[k].e.kind=1
  ·have YA:Hid (nJ (ag rs) typ rows[k].e=true):=by show _=_;unfold nJ;rw[if_neg (by omega),if_neg (by omega)]
   have hq1:(rows[k].e.kind==1)=true:=by simpa using h1
   replace h1:Hid (rows[k].e.kind=1):=h1;go_wp2_with fail;rw[<-hW1];refine(Bi ad rows[k].adA cap rows[k].capA rs b n M rows[k].e.allow _ hlen (HS.out.below WZ.out) HVW.out HT.out lgA (HOKW.out.1.below WZ.out) HFK.out.1).mono ?_;rintro e w2 ⟨rfl,hb2⟩;have HB2:=kL WZ hb2;clear hb2 hW1 t0 t1 t2 t3 t4;cases hz:qF (ag rs) rows[k].e.allow;case false=>
    have HN:Hid (aU (ag rs) typ (aj rows)=false):=by show _=_;rw[HD.out,hz];rfl
    go_wp2;go_ret;exact⟨by rw[HN.out];rfl,HB2.out⟩
   have Xa:Hid (aU (ag rs) typ (aj (rows.drop (k+1)))=aU (ag rs) typ (aj rows)):=by show _=_;rw[HD.out,hz,YA.out];rfl
   go_wp2;go_roundw;case rel=>exact⟨k+1,by omega,by go_num,Xa,HB2⟩
   simp[intOf]<;>omega
  have hq1:(rows[k].e.kind==1)=false:=by simpa using h1
  have Zx:Hid (qF (ag rs) rows[k].e.allow=true):=by show _=_;rw[uy HNK.out h1];rfl
  by_cases h2:rows[k].e.kind=2
  ·have hq2:(rows[k].e.kind==2)=true:=by simpa using h2
   have HI:=HT.out.some_iff (typ,rows[k].e.name);have YA:Hid (nJ (ag rs) typ rows[k].e=(M (typ,rows[k].e.name)).isSome):=by show _=_;unfold nJ;rw[if_pos h2,HI]
   clear HI;replace h2:Hid (rows[k].e.kind=2):=h2;go_wp2_with fail;rw[<-hW1];refine(zb b n M typ rows[k].e.name _ ht zN HVW.out).mono ?_;rintro e w2 ⟨rfl,hw2⟩;rw[hw2];clear hw2 w2 hW1 t0 t1 t2 t3 t4;cases hz:(M (typ,rows[k].e.name)).isSome;case false=>
    have HN:Hid (aU (ag rs) typ (aj rows)=false):=by show _=_;rw[HD.out,YA.out,hz,Zx.out];rfl
    go_wp2;go_ret;exact⟨by rw[HN.out];rfl,WZ.out⟩
   have Xa:Hid (aU (ag rs) typ (aj (rows.drop (k+1)))=aU (ag rs) typ (aj rows)):=by show _=_;rw[HD.out,YA.out,hz,Zx.out];rfl
   go_wp2;go_roundw;case rel=>exact⟨k+1,by omega,by go_num,Xa,WZ⟩
   simp[intOf]<;>omega
  have hq2:(rows[k].e.kind==2)=false:=by simpa using h2
  by_cases h3:rows[k].e.kind=3
  ·have hq3:(rows[k].e.kind==3)=true:=by simpa using h3
   have YA:Hid (nJ (ag rs) typ rows[k].e=!(gp (ag rs) typ rows[k].e.over rows[k].e.name).isEmpty):=GX _ _ _ h3;replace h3:Hid (rows[k].e.kind=3):=h3;go_wp2_with fail;rw[<-hW1];refine(yt b n rs ad M typ rows[k] _ HVW.out HT.out (HS.out.below WZ.out) HL.out Xd.out ht zO zN).mono ?_;rintro e w2 ⟨⟨WY,cap',rfl,-,-⟩,hb2⟩;have HB2:=kL WZ hb2;clear hb2 hW1 t0 t1 t2 t3 t4;generalize gp (ag rs) typ rows[k].e.over rows[k].e.name=gs at YA⊢;cases gs with
   | nil =>
    have HN:Hid (aU (ag rs) typ (aj rows)=false):=by show _=_;rw[HD.out,YA.out,Zx.out];rfl
    go_wp2;go_ret;exact⟨by rw[HN.out];rfl,HB2.out⟩
   | cons g gs =>
    have Xa:Hid (aU (ag rs) typ (aj (rows.drop (k+1)))=aU (ag rs) typ (aj rows)):=by show _=_;rw[HD.out,YA.out,Zx.out];rfl
    have hlz:(((g::gs).length:Int)==0)=false:=by
     have:¬(((g::gs).length:Int)=0):=by simp;omega
     simpa using this
    obtain⟨ln,hln⟩:∃ln,ln=(g::gs).length:=⟨_,rfl⟩;rw[<-hln]at hlz ⊢;clear hln;go_wp2;go_roundw;case rel=>exact⟨k+1,by omega,by go_num,Xa,HB2⟩
    simp[intOf]<;>omega
  have hq3:(rows[k].e.kind==3)=false:=by simpa using h3
  have YA:Hid (nJ (ag rs) typ rows[k].e=true):=by show _=_;unfold nJ;rw[if_neg h2,if_neg h3]
  have Xa:Hid (aU (ag rs) typ (aj (rows.drop (k+1)))=aU (ag rs) typ (aj rows)):=by show _=_;rw[HD.out,YA.out,Zx.out];rfl
  have Yl:Hid (af w (wr.alloc (.cells #[.int .i64 rows[k].e.kind,.slice rows[k].adA rows[k].e.allow.length rows[k].capA,.string rows[k].e.over,.string rows[k].e.name,.slice rows[k].adK rows[k].e.kids.length rows[k].capK] 188))):=by rw[<-hW1];exact WZ
  clear hW1;go_wp2;go_roundw;case rel=>exact⟨k+1,by omega,by go_num,Xa,Yl⟩
  simp[intOf]<;>omega
 have HN:Hid (aU (ag rs) typ (aj rows)=true):=by show _=_;rw[<-HP.out,VW (by omega)];rfl
 go_wp2;go_ret;exact⟨by rw[HN.out];rfl,HB.out⟩
def Al.cells(a:Al):List Value:=[.string a.t,.string a.s]
def iq:List Al->List Value
 | []=>[]
 | a::xs=>a.cells++iq xs
theorem EU(xs ys:Q0a):iq (xs++ys)=iq xs++iq ys:=by
 induction xs with
 | nil=>rfl
 | cons d ds ih=>simp[iq,ih]
theorem Bl(xs:Q0a)(d:Al):iq (xs++[d])=iq xs++d.cells:=by rw[EU];simp[iq]
theorem Dv(xs:Q0a)(i:Nat)(h:i<xs.length)(o:Nat)(ho:o<2):(iq xs)[i*2+o]?=(xs[i].cells)[o]?:=by
 induction xs generalizing i with
 | nil=>simp at h
 | cons s xs ih =>
  cases i with
  | zero =>
   simp only[iq,Nat.zero_mul,V4,List.getElem_cons_zero];rw[Wx (by simp[Al.cells];omega)]
  | succ i =>
   simp only[iq,List.getElem_cons_succ];rw[Wu (by simp[Al.cells];omega)];have e:(i+1)*2+o-s.cells.length=i*2+o:=by simp[Al.cells];omega
   rw[e];exact ih i (by simpa using h)
theorem P7{w:ae}{base:Nat}{v:Value}{xs:Q0a}(h:w.ownsRow base 151 2 v xs.length (iq xs)):∃ad cp,v=.slice ad xs.length cp/\ll w ad xs/\∀p,ad=some p->base<=p.block:=by
 have h2:=h;rcases h.2 with⟨rfl,h0⟩|⟨g,cp,cur,rfl,hbg,hg,hnc,-⟩
 ·exact⟨none,0,by rw[h0],.inl (VS.1 h0),fun p hp=>by cases hp⟩
 have hlt:=h2.lt g rfl;refine⟨_,cp,rfl,.inr ⟨g,0,rfl,hlt.2,fun i hi=>?_⟩,fun p hp=>by injection hp with hp;rw[<-hp];exact hlt.1⟩;have h3:∀(o:Nat) (u:Value),(iq xs)[i*2+o]?=some u->w.cell? ⟨g,0+i*2+o,none⟩=some u:=fun o u hu=>by
  have:=h2.cells (g:=g) rfl (i*2+o) u hu;rw[F8]at this;rw[V4];exact this
 exact⟨h3 0 _ (by have:=Dv xs i hi 0 (by omega);simpa[Al.cells] using this),h3 1 _ (by have:=Dv xs i hi 1 (by omega);simpa[Al.cells] using this)⟩
def dD:List Al->List Al
 | []=>[]
 | a::xs=>if a.s.toList.isEmpty then dD xs else a::dD xs
theorem vS(xs ys:Q0a):dD (xs++ys)=dD xs++dD ys:=by
 induction xs with
 | nil=>rfl
 | cons a xs ih=>simp only[Wp,dD,ih];split<;>simp
theorem P8(xs:Q0a)(k:Nat)(h:k<xs.length)(he:xs[k].s.toList.isEmpty=true):dD (xs.take (k+1))=dD (xs.take k):=by
 rw[VE h,vS];simp[dD]at he ⊢;simp[he]
theorem MS(xs:Q0a)(k:Nat)(h:k<xs.length)(he:xs[k].s.toList.isEmpty=false):dD (xs.take (k+1))=dD (xs.take k)++[xs[k]]:=by
 rw[VE h,vS];simp[dD,he]
theorem Dw(xs:Q0a):(dD xs).length<=xs.length:=by
 induction xs with
 | nil=>simp[dD]
 | cons a xs ih=>simp only[dD];split<;>simp<;>omega
def jh(ts:Q0b)(typ:ByteArray)(e:Ex):List Al :=
 if e.kind=1 then dD e.allow else if e.kind=2 then [⟨typ,e.name⟩] else if e.kind=3 then (gp ts typ e.over e.name).map fun g=>⟨g,e.name⟩ else []
theorem P9:(prog.info? 151).map (fun i=>(i.zero,i.size,i.bytes))=some (some (.agg #[.string ⟨#[]⟩,.string ⟨#[]⟩]),2,32):=by kernel_rfl
theorem EW(rs:Q06)(hl:∀r∈rs,r.light)(typ over rel:bW):(gp (ag rs) typ over rel).length<=1048576:=by
 unfold gp;split
 ·exact xQ rs hl typ over rel
 simp
theorem xe(w:ae)(o o':Obj):((w.alloc o).alloc o').heap[w.heap.size+1]?=some o':=by
 have:=heap_alloc_new (w.alloc o) o';simpa using this
set_option maxRecDepth 100000 in
theorem GY(b n:Nat)(rs:Q06)(ad:Q02)(M:ByteArray×ByteArray->Option Value)(typ:bW)(x:ER)(w:ae)(hV:aN dO prog 151 w b n M)(hT:Tab rs M)(hs:jP w ad rs)(hl:∀r∈rs,r.light)(hf:∀r∈rs,r.fits)(ht:typ.size<=maxLen)(hxf:x.e.fits)(hxl:x.e.light)(hxo:x.ok w):
  Calls prog 177 #[.map (some b),.string typ,x.val] w fun e w'=>(∃(WY:Q02) (cap':Nat),e=.returned (.slice WY (jh (ag rs) typ x.e).length cap')/\ll w' WY (jh (ag rs) typ x.e)/\∀p,WY=some p->w.heap.size<=p.block)/\af w w':=by
 have HV:Hid (aN dO prog 151 w b n M):=hV;have HT:=aC hT;have HS:=aC hs;have HL:=aC hl;have Xd:=aC hf;have HXF:=aC hxf;have HXO:=aC hxo;have lgA:x.e.allow.length<=1048576:=hxl.1;clear hV hT hs hl hf hxf hxo hxl;obtain⟨i0,hi,hz0,hz1,hz2⟩:=info_parts P9;obtain⟨W0,hW0⟩:∃W0,W0=w.alloc (.cells #[.int .i64 x.e.kind,.slice x.adA x.e.allow.length x.capA,.string x.e.over,.string x.e.name,.slice x.adK x.e.kids.length x.capK] 188):=⟨_,rfl⟩;have hal:af w W0:=by rw[hW0];exact(VD _ _).alloc (VC _) _
 have HB0:=aC hal;have hg0:w.heap.size<W0.heap.size:=by rw[hW0];simp
 have c0:W0.cell? ⟨w.heap.size,0,none⟩=some (.int .i64 x.e.kind):=by rw[hW0];simp
 have c1:W0.cell? ⟨w.heap.size,1,none⟩=some (.slice x.adA x.e.allow.length x.capA):=by rw[hW0];simp
 have c2:W0.cell? ⟨w.heap.size,2,none⟩=some (.string x.e.over):=by rw[hW0];simp
 have c3:W0.cell? ⟨w.heap.size,3,none⟩=some (.string x.e.name):=by rw[hW0];simp
 have c4:W0.cell? ⟨w.heap.size,4,none⟩=some (.slice x.adK x.e.kids.length x.capK):=by rw[hW0];simp
 clear hal;unfold ER.val;by_cases h1:x.e.kind=1
 ·have HLI:Hid (jh (ag rs) typ x.e=dD x.e.allow):=by show _=_;unfold jh;rw[if_pos h1]
  have hq1:(x.e.kind==1)=true:=by simpa using h1
  replace h1:Hid (x.e.kind=1):=h1;go_enter func177,ntmps177;go_wp2_with fail;rw[<-hW0];clear hW0;go_loopw[7,19] (fun v i wr=>∃k:Nat,k<=x.e.allow.length/\i=.int .i64 k/\Hid (wr.ownsRow w.heap.size 151 2 v (dD (x.e.allow.take k)).length (iq (dD (x.e.allow.take k))))/\Hid (af w wr)) (fun _ i _=>x.e.allow.length-(intOf i).toNat);case atStart=>exact⟨0,VG _,rfl,World.ownsRow_nil _ _ _ _,HB0⟩
  clear HB0 c0 c1 c2 c3 c4 hg0;obtain⟨k,hk,rfl,HOW,HB⟩:=hrel;by_cases hlt:k<x.e.allow.length
  ·rcases (HXO.out.1).below HB.out with hnil|⟨ba,YO,had,Z7,hra⟩
   ·rw[hnil]at hlt;simp at hlt
   obtain⟨t0,t1⟩:=hra k hlt;have hk1:=bq k;have hk2:(k:Int)<(x.e.allow.length:Int):=by omega
   obtain⟨W1,hW1⟩:∃W1,W1=wr.alloc (.cells #[.string x.e.allow[k].t,.string x.e.allow[k].s] 223):=⟨_,rfl⟩;have hal:af wr W1:=by rw[hW1];exact(VD _ _).alloc (VC _) _
   have WZ:=kL HB hal;have Y8:Hid (W1.ownsRow w.heap.size 151 2 u7 (dD (x.e.allow.take k)).length (iq (dD (x.e.allow.take k)))):=own_below HOW.out hal;have g0:W1.cell? ⟨wr.heap.size,0,none⟩=some (.string x.e.allow[k].t):=by rw[hW1];simp
   have g1:W1.cell? ⟨wr.heap.size,1,none⟩=some (.string x.e.allow[k].s):=by rw[hW1];simp
   have hgl1:wr.heap.size<W1.heap.size:=by rw[hW1];simp
   have hgl:=Dw (x.e.allow.take k);rw[V9]at hgl;have hwsz:w.heap.size<=W1.heap.size:=WZ.out.size;rw[had];clear hra hal HOW;cases he:x.e.allow[k].s.toList.isEmpty;case true=>
    have HE:Hid (dD (x.e.allow.take (k+1))=dD (x.e.allow.take k)):=P8 _ _ hlt he;have Yl:Hid (af w (wr.alloc (.cells #[.string x.e.allow[k].t,.string x.e.allow[k].s] 223))):=by rw[<-hW1];exact WZ
    have HOX:Hid ((wr.alloc (.cells #[.string x.e.allow[k].t,.string x.e.allow[k].s] 223)).ownsRow w.heap.size 151 2 u7 (dD (x.e.allow.take (k+1))).length (iq (dD (x.e.allow.take (k+1))))):=by rw[<-hW1,HE.out];exact Y8
    clear hW1 g0 g1;go_wp2;go_roundw;case rel=>exact⟨k+1,by omega,by go_num,HOX,Yl⟩
    simp[intOf]<;>omega
   have HX:Hid (dD (x.e.allow.take (k+1))=dD (x.e.allow.take k)++[x.e.allow[k]]):=MS _ _ hlt he;have HOX:Hid ((wr.alloc (.cells #[.string x.e.allow[k].t,.string x.e.allow[k].s] 223)).ownsRow w.heap.size 151 2 u7 (dD (x.e.allow.take k)).length (iq (dD (x.e.allow.take k)))):=by rw[<-hW1];exact Y8
   have Yl:Hid (af w (wr.alloc (.cells #[.string x.e.allow[k].t,.string x.e.allow[k].s] 223))):=by rw[<-hW1];exact WZ
   have hws:w.heap.size<=wr.heap.size:=HB.out.size;clear hW1 Y8 WZ g0 g1 hgl1 hwsz W1;go_wp2_with(at_builtin;refine wpList_append_own_at _ rfl _ _ 281 rfl w.heap.size 151 i0 _ 2 32 underlying281 hi hz0 hz1 hz2 rfl (by decide) _ _ _ rfl (HOX.out.alloc _) ⟨wr.heap.size+1,0,none⟩ 1 1 [.string x.e.allow[k].t,.string x.e.allow[k].s] rfl rfl (World.news_of_block (cs:=#[.string x.e.allow[k].t,.string x.e.allow[k].s]) (t:=151) (fr:=(0,0)) (xe wr _ _)) (by simp[Value.oneCell']) (by unfold maxLen;omega) (by omega) (by simp;omega) ?_);intro v' w3 hown3 hgrow _ hloc;have HB3:Hid (af w w3):=(Yl.out.alloc Yl.out.size _).grown hgrow (by simp;omega) (fun i hi=>(HOX.out.lt i hi).1);have Xm:Hid (w3.ownsRow w.heap.size 151 2 v' (dD (x.e.allow.take (k+1))).length (iq (dD (x.e.allow.take (k+1))))):=by
    show World.ownsRow _ _ _ _ _ _ _;rw[HX.out,Bl,VI];exact hown3
   clear hown3 hgrow hloc HOX Yl;go_wp2;go_roundw;case rel=>exact⟨k+1,by omega,by go_num,Xm,HB3⟩
   simp[intOf]<;>omega
  obtain rfl:k=x.e.allow.length:=by omega
  have hown:=HOW.out;rw[VP]at hown;obtain⟨WY,cp,rfl,hS',hN'⟩:=P7 hown;have HS2:=aC hS';have Yr:Hid (∀p,WY=some p->w.heap.size<=p.block):=hN';clear hown HOW hS' hN';go_wp2;go_ret;exact⟨⟨WY,cp,by rw[HLI.out];rfl,by rw[HLI.out];exact HS2.out,Yr.out⟩,HB.out⟩
 have hq1:(x.e.kind==1)=false:=by simpa using h1
 by_cases h2:x.e.kind=2
 ·have HLI:Hid (jh (ag rs) typ x.e=[⟨typ,x.e.name⟩]):=by show _=_;unfold jh;rw[if_neg h1,if_pos h2]
  have hq2:(x.e.kind==2)=true:=by simpa using h2
  replace h2:Hid (x.e.kind=2):=h2;have HOX:Hid ((w.alloc (.cells #[.int .i64 x.e.kind,.slice x.adA x.e.allow.length x.capA,.string x.e.over,.string x.e.name,.slice x.adK x.e.kids.length x.capK] 188)).ownsRow w.heap.size 151 2 (.slice none 0 0) 0 []):=World.ownsRow_nil _ _ _ _;have Yl:Hid (af w (w.alloc (.cells #[.int .i64 x.e.kind,.slice x.adA x.e.allow.length x.capA,.string x.e.over,.string x.e.name,.slice x.adK x.e.kids.length x.capK] 188))):=by rw[<-hW0];exact HB0
  clear hW0 HB0 c0 c1 c2 c3 c4 hg0 W0;go_enter func177,ntmps177;go_wp2_with(at_builtin;refine wpList_append_own_at _ rfl _ _ 281 rfl w.heap.size 151 i0 _ 2 32 underlying281 hi hz0 hz1 hz2 rfl (by decide) _ _ _ rfl (HOX.out.alloc _) ⟨w.heap.size+1,0,none⟩ 1 1 [.string typ,.string x.e.name] rfl rfl (World.news_of_block (cs:=#[.string typ,.string x.e.name]) (t:=151) (fr:=(0,0)) (xe w _ _)) (by simp[Value.oneCell']) (by unfold maxLen;omega) (by omega) (by simp;omega) ?_);intro v' w3 hown3 hgrow _ hloc;have HB3:Hid (af w w3):=(Yl.out.alloc Yl.out.size _).grown hgrow (by simp;omega) (fun i hi=>(HOX.out.lt i hi).1);have YB:w3.ownsRow w.heap.size 151 2 v' ([⟨typ,x.e.name⟩]:Q0a).length (iq [⟨typ,x.e.name⟩]):=hown3;obtain⟨WY,cp,rfl,hS',hN'⟩:=P7 YB;have HS2:=aC hS';have Yr:Hid (∀p,WY=some p->w.heap.size<=p.block):=hN';clear hown3 YB hgrow hloc HOX Yl hS' hN';go_wp2;go_ret;exact⟨⟨WY,cp,by rw[HLI.out];rfl,by rw[HLI.out];exact HS2.out,Yr.out⟩,HB3.out⟩
 have hq2:(x.e.kind==2)=false:=by simpa using h2
 by_cases h3:x.e.kind=3
 ·have HLI:Hid (jh (ag rs) typ x.e=(gp (ag rs) typ x.e.over x.e.name).map fun g=>(⟨g,x.e.name⟩:Al)):=by show _=_;unfold jh;rw[if_neg h1,if_neg h2,if_pos h3]
  have hq3:(x.e.kind==3)=true:=by simpa using h3
  replace h3:Hid (x.e.kind=3):=h3;have HGL:(gp (ag rs) typ x.e.over x.e.name).length<=1048576:=EW rs HL.out _ _ _;have HV0:=aC (HV.out.below HB0.out);go_enter func177,ntmps177;go_wp2_with fail;rw[<-hW0];refine(yt b n rs ad M typ x _ HV0.out HT.out (HS.out.below HB0.out) HL.out Xd.out ht HXF.out.2.1 HXF.out.2.2.1).mono ?_;rintro e w1 ⟨⟨adG,cpG,rfl,hSG,hNG⟩,hb1⟩;generalize gp (ag rs) typ x.e.over x.e.name=gs at *
  have HB1:=kL HB0 hb1;have HSG:=aC hSG;have HNG:Hid (∀p,adG=some p->W0.heap.size<=p.block):=hNG;have XL:Hid (w1.cell? ⟨w.heap.size,3,none⟩=some (.string x.e.name)/\w.heap.size<w1.heap.size):=⟨aI hb1 hg0 c3,Vy hg0 hb1.size⟩;clear hW0 hSG hNG hb1 c0 c1 c2 c3 c4 HB0 HV0 hg0 HNG;go_wp2_with fail;go_loopw[7,51] (fun v i wr=>∃m:Nat,m<=gs.length/\i=.int .i64 m/\Hid (wr.ownsRow w.heap.size 151 2 v m (iq ((gs.take m).map fun g=>(⟨g,x.e.name⟩:Al))))/\Hid (af w wr)/\Hid (Aside w1 (.slice none 0 0) wr v)) (fun _ i _=>gs.length-(intOf i).toNat);case atStart=>exact⟨0,VG _,rfl,World.ownsRow_nil _ _ _ _,HB1,Aside.refl _ _⟩
  clear HB1;obtain⟨m,hm,rfl,HO,HB,HA⟩:=hrel;have x3:=qI HA.out XL.out.2 (by simp[Value.ownBlock]) XL.out.1;by_cases Xu:m<gs.length
  ·rcases HSG.out with rfl|⟨bg,offg,rfl,hbg,hrg⟩
   ·simp at Xu
   have q0:=qI HA.out hbg (by simp[Value.ownBlock]) (hrg m Xu);have hm1:=bq m;have hm2:(m:Int)<(gs.length:Int):=by omega
   have hws:w.heap.size<=wr.heap.size:=HB.out.size;have HFX:Hid (iq ((gs.take (m+1)).map fun g=>(⟨g,x.e.name⟩:Al))=iq ((gs.take m).map fun g=>(⟨g,x.e.name⟩:Al))++[.string gs[m],.string x.e.name]):=by
    show _=_;rw[VE Xu,WA,List.map_singleton,Bl];rfl
   clear hrg;go_wp2_with(at_builtin;refine wpList_append_own_at _ rfl _ _ 281 rfl w.heap.size 151 i0 _ 2 32 underlying281 hi hz0 hz1 hz2 rfl (by decide) _ _ _ rfl (HO.out.alloc _) ⟨wr.heap.size,0,none⟩ 1 1 [.string gs[m],.string x.e.name] rfl rfl (World.news_of_block (cs:=#[.string gs[m],.string x.e.name]) (t:=151) (fr:=(0,0)) (heap_alloc_new wr _)) (by simp[Value.oneCell']) (by unfold maxLen;omega) (by omega) (by simp;omega) ?_);intro v' w3 hown3 hgrow _ hloc;have HB3:Hid (af w w3):=(HB.out.alloc HB.out.size _).grown hgrow (by simp;omega) (fun i hi=>(HO.out.lt i hi).1);have Xm:Hid (w3.ownsRow w.heap.size 151 2 v' (m+1) (iq ((gs.take (m+1)).map fun g=>(⟨g,x.e.name⟩:Al)))):=by
    show World.ownsRow _ _ _ _ _ _ _;rw[HFX.out];simpa[List.map_take] using hown3
   have HA3:Hid (Aside w1 (.slice none 0 0) w3 v'):=HA.out.trans ((Aside.below ((VD _ _).alloc (VC _) _)).trans (Aside.app hgrow (by simpa using hloc)));clear hown3 hgrow hloc HO HA;go_wp2;go_roundw;case rel=>exact⟨m+1,by omega,by go_num,Xm,HB3,HA3⟩
   simp[intOf]<;>omega
  obtain rfl:m=gs.length:=by omega
  have hown:=HO.out;rw[VP]at hown;have e:gs.length=(gs.map fun g=>(⟨g,x.e.name⟩:Al)).length:=by simp
  rw[e]at hown;obtain⟨WY,cp,rfl,hS',hN'⟩:=P7 hown;have HS2:Hid (ll wr WY (gs.map fun g=>(⟨g,x.e.name⟩:Al))):=hS';have Yr:Hid (∀p,WY=some p->w.heap.size<=p.block):=hN';obtain⟨ln,hln⟩:∃ln,ln=(gs.map fun g=>(⟨g,x.e.name⟩:Al)).length:=⟨_,rfl⟩;rw[<-hln];have HLN:Hid (ln=(gs.map fun g=>(⟨g,x.e.name⟩:Al)).length):=hln;clear hown HO hS' hN' e HA x3 hln;go_wp2;go_ret;exact⟨⟨WY,cp,by rw[HLI.out,<-HLN.out];rfl,by rw[HLI.out];exact HS2.out,Yr.out⟩,HB.out⟩
 have HLI:Hid (jh (ag rs) typ x.e=[]):=by show _=_;unfold jh;rw[if_neg h1,if_neg h2,if_neg h3]
 have hq3:(x.e.kind==3)=false:=by simpa using h3
 have Yl:Hid (af w (w.alloc (.cells #[.int .i64 x.e.kind,.slice x.adA x.e.allow.length x.capA,.string x.e.over,.string x.e.name,.slice x.adK x.e.kids.length x.capK] 188))):=by rw[<-hW0];exact HB0
 clear hW0 HB0 c0 c1 c2 c3 c4 hg0;go_enter func177,ntmps177;go_wp2;go_ret;exact⟨⟨none,0,by rw[HLI.out];rfl,by rw[HLI.out];exact .inl rfl,fun p hp=>by cases hp⟩,Yl.out⟩
abbrev Ky:=ByteArray×ByteArray
def lookL(E:List (Ky×St))(k:Ky):List St:=E.filterMap fun p=>if p.1=k then some p.2 else none
theorem lookL_append(E F:List (Ky×St))(k:Ky):lookL (E++F) k=lookL E k++lookL F k:=by unfold lookL;rw[List.filterMap_append]
theorem tO(E:List (Ky×St))(k:Ky)(s:St):lookL (E++[(k,s)]) k=lookL E k++[s]:=by rw[lookL_append];simp[lookL]
theorem qy(E:List (Ky×St)){k y:Ky}(s:St)(h:k≠y):lookL (E++[(y,s)]) k=lookL E k:=by rw[lookL_append];simp[lookL,Ne.symm h]
theorem mem_lookL{E:List (Ky×St)}{k:Ky}{s:St}:s∈lookL E k↔(k,s)∈E:=by
 unfold lookL;rw[List.mem_filterMap];constructor
 ·rintro⟨⟨a,b⟩,h1,h2⟩;simp only at h2;split at h2
  ·rename_i e;injection h2 with h2;rw[<-e,<-h2];exact h1
  cases h2
 intro h;exact⟨(k,s),h,by simp⟩
def FreeB(M:Ky->Option Value)(g:Nat):Prop:=∀k v,M k=some v->v.ownBlock≠some g
structure Grp(w:World)(bL n:Nat)(M:Ky->Option Value)(E:List (Ky×St)):Prop where
 map:aN dO prog 151 w bL n M
 row:∀k,(M k=none/\lookL E k=[]) \/ ∃v,M k=some v/\w.ownsRow (bL+1) 278 3 v (lookL E k).length (iH (lookL E k))
 apart:∀k k' v v',k≠k'->M k=some v->M k'=some v'->∀g,v.ownBlock=some g->v'.ownBlock≠some g
theorem Grp.lt{w:ae}{bL n:Nat}{M:Ky->Option Value}{E:List (Ky×St)}(h:Grp w bL n M E){k:Ky}{v:Value}(hk:M k=some v){g:Nat}(hg:v.ownBlock=some g):bL<g/\g<w.heap.size:=by
 rcases h.row k with⟨e,-⟩|⟨v',e,ho⟩
 ·rw[e]at hk;cases hk
 rw[e]at hk;injection hk with hk;subst hk;have:=ho.lt g hg;exact⟨by omega,this.2⟩
theorem Grp.fresh{w:ae}{bL n:Nat}{M:Ky->Option Value}{E:List (Ky×St)}(h:Grp w bL n M E){g:Nat}(hg:w.heap.size<=g):FreeB M g:=fun k v hk e=>by
 have:=(h.lt hk e).2;omega
theorem Grp.mono{w:ae}{bL n n':Nat}{M:Ky->Option Value}{E:List (Ky×St)}(h:Grp w bL n M E)(hn:n<=n'):Grp w bL n' M E:=⟨h.map.mono hn,h.row,h.apart⟩
theorem Grp.below{w w':ae}{bL n:Nat}{M:Ky->Option Value}{E:List (Ky×St)}(h:Grp w bL n M E)(hB:af w w'):Grp w' bL n M E where
 map:=h.map.below hB
 row k:=by
  rcases h.row k with e|⟨v,e,ho⟩
  ·exact .inl e
  exact .inr ⟨v,e,own_below ho hB⟩
 apart:=h.apart
theorem grp_made(w:ae):Grp (w.alloc (.map #[] 0)) w.heap.size 0 (fun _=>none) [] where
 map:=nQ _ _ _ w
 row k:=.inl ⟨rfl,rfl⟩
 apart k k' v v' _ h:=by cases h
structure Stl(W:World)(M:Ky->Option Value)(w2:World)(M2:Ky->Option Value)(bL:Nat):Prop where
 size:W.heap.size<=w2.heap.size
 block:∀g,g<W.heap.size->g≠bL->FreeB M g->w2.heap[g]?=W.heap[g]?
 free:∀g,g<W.heap.size->FreeB M g->FreeB M2 g
theorem Stl.refl(W:ae)(M:Ky->Option Value)(bL:Nat):Stl W M W M bL:=⟨VC _,fun _ _ _ _=>rfl,fun _ _ h=>h⟩
theorem Stl.trans{W w2 w3:ae}{M M2 M3:Ky->Option Value}{bL:Nat}(h:Stl W M w2 M2 bL)(h2:Stl w2 M2 w3 M3 bL):Stl W M w3 M3 bL where
 size:=VJ h.size h2.size
 block g hg hb hf:=(h2.block g (Vy hg h.size) hb (h.free g hg hf)).trans (h.block g hg hb hf)
 free g hg hf:=h2.free g (Vy hg h.size) (h.free g hg hf)
theorem Stl.below{W w2:ae}{M:Ky->Option Value}{bL:Nat}(hB:af W w2):Stl W M w2 M bL:=⟨hB.size,fun g hg _ _=>hB.block g hg,fun _ _ h=>h⟩
structure Cel(w:World)(M:Ky->Option Value)(bL g o:Nat)(u:Value):Prop where
 cell:w.cell? ⟨g,o,none⟩=some u
 lt:g<w.heap.size
 free:FreeB M g
 ne:g≠bL
theorem Cel.stl{w w2:ae}{M M2:Ky->Option Value}{bL g o:Nat}{u:Value}(h:Cel w M bL g o u)(hS:Stl w M w2 M2 bL):Cel w2 M2 bL g o u where
 cell:=(VR (w:=w) (hS.block g h.lt h.ne h.free)).trans h.cell
 lt:=Vy h.lt hS.size
 free:=hS.free g h.lt h.free
 ne:=h.ne
theorem Grp.step{W0 w1 w2 w3:ae}{bL n:Nat}{M:Ky->Option Value}{E:List (Ky×St)}{y:Ky}{v':Value}{s:St}(h:Grp W0 bL n M E)(hg1:W0.grownBy w1 (some bL))(hown:w2.ownsRow (bL+1) 278 3 v' ((lookL E y).length+1) (iH (lookL E y)++s.cells))
  (hg2:w1.grownBy w2 ((M y).getD (.slice none 0 0)).ownBlock) (hloc:v'.ownBlock=((M y).getD (.slice none 0 0)).ownBlock\/v'.ownBlock=some w1.heap.size) (hg3:w2.grownBy w3 (some bL)) (hM:aN dO prog 151 w3 bL (n+1) (lq M y (some v'))) :
  Grp w3 bL (n+1) (lq M y (some v')) (E++[(y,s)])/\Stl W0 M w3 (lq M y (some v')) bL:=by
 have hrow0:∀k v,M k=some v->∃xs m,W0.ownsRow (bL+1) 278 3 v m xs:=fun k v hk=>by
  rcases h.row k with⟨e,-⟩|⟨v1,e,ho⟩
  ·rw[e]at hk;cases hk
  rw[e]at hk;injection hk with hk;subst hk;exact⟨_,_,ho⟩
 have hne2:∀k v,k≠y->M k=some v->v.ownBlock=none\/v.ownBlock≠((M y).getD (.slice none 0 0)).ownBlock:=fun k v hky hk=>by
  cases e:v.ownBlock with
  | none=>exact .inl rfl
  | some g =>
   right;cases ey:M y with
   | none=>simp[Value.ownBlock]
   | some vy=>intro e2;exact h.apart k y v vy hky hk ey g e (by simpa using e2.symm)
 have hnb:∀v,(∃k,M k=some v)->v.ownBlock=none\/v.ownBlock≠some bL:=fun v ⟨k,hk⟩=>by
  cases e:v.ownBlock with
  | none=>exact .inl rfl
  | some g=>right;have:=(h.lt hk e).1;intro e2;injection e2 with e2;omega
 have hnew:∀g,v'.ownBlock=some g->bL<g:=fun g e=>by have:=(hown.lt g e).1;omega
 have hv'b:v'.ownBlock=none\/v'.ownBlock≠some bL:=by
  cases e:v'.ownBlock with
  | none=>exact .inl rfl
  | some g=>right;have:=hnew g e;intro e2;injection e2 with e2;omega
 constructor
 ·refine⟨hM,fun k=>?_,fun k k' v u hkk hk hk' g e=>?_⟩
  ·by_cases ek:k=y
   ·subst ek;rw[dV,tO];refine .inr ⟨v',rfl,?_⟩;rw[Af,VI];exact hown.kept hg3 hv'b
   rw[bZ ek,qy _ _ ek];rcases h.row k with e|⟨v,e,ho⟩
   ·exact .inl e
   exact .inr ⟨v,e,((ho.kept hg1 (hnb v ⟨k,e⟩)).kept hg2 (hne2 k v ek e)).kept hg3 (hnb v ⟨k,e⟩)⟩
  by_cases ek:k=y
  ·subst ek;rw[dV]at hk;injection hk with hk;subst hk;rw[bZ (Ne.symm hkk)]at hk';intro e2;rcases hloc with el|el
   ·rw[e]at el;cases ey:M k with
    | none=>rw[ey]at el;simp[Value.ownBlock]at el
    | some vy=>rw[ey]at el;exact h.apart k k' vy u hkk ey hk' g (by simpa using el.symm) e2
   rw[e]at el;injection el with el;have:=(h.lt hk' e2).2;have:=hg1.size;omega
  rw[bZ ek]at hk;by_cases ek':k'=y
  ·subst ek';rw[dV]at hk';injection hk' with hk';subst hk';intro e2;rcases hloc with el|el
   ·rw[e2]at el;cases ey:M k' with
    | none=>rw[ey]at el;simp[Value.ownBlock]at el
    | some vy=>rw[ey]at el;exact h.apart k k' v vy hkk hk ey g e (by simpa using el.symm)
   rw[e2]at el;injection el with el;have:=(h.lt hk e).2;have:=hg1.size;omega
  rw[bZ ek']at hk';exact h.apart k k' v u hkk hk hk' g e
 refine⟨VJ hg1.size (VJ hg2.size hg3.size),fun g hg hb hf=>?_,fun g hg hf k v hk=>?_⟩
 ·have h1:=hg1.block g hg (fun e=>hb (by injection e));have h2:=hg2.block g (Vy hg hg1.size) (fun e=>by
   cases ey:M y with
   | none=>rw[ey]at e;simp[Value.ownBlock]at e
   | some vy=>rw[ey]at e;exact hf y vy ey (by simpa using e.symm))
  have h3:=hg3.block g (Vy hg (VJ hg1.size hg2.size)) (fun e=>hb (by injection e));rw[h3,h2,h1]
 by_cases ek:k=y
 ·subst ek;rw[dV]at hk;injection hk with hk;subst hk;intro e2;rcases hloc with el|el
  ·rw[e2]at el;cases ey:M k with
   | none=>rw[ey]at el;simp[Value.ownBlock]at el
   | some vy=>rw[ey]at el;exact hf k vy ey (by simpa using el.symm)
  rw[e2]at el;injection el with el;have:=hg1.size;omega
 rw[bZ ek]at hk;exact hf k v hk
def Dx(b:Bool):Int:=if b then 1 else 0
def Bn(ts:Q0b)(t r:ByteArray)(ng:Bool)(e:Ex):List (Ky×St):=(jh ts t e).map fun a=>((a.t,a.s),⟨t,r,Dx ng⟩)
def relE(ts:Q0b)(t r:ByteArray)(es:Q09):Nat->List (Ky×St)
 | 0=>[]
 | i+1=>relE ts t r es i++(match es[i]? with|none=>[]|some e=>Bn ts t r ((fC es).getD i false) e)
def ji(ts:Q0b)(t:ByteArray)(qs:Q07):List (Ky×St):=qs.flatMap fun q=>relE ts t q.name (aj q.rows) q.rows.length
def jk(ts:Q0b)(rs:Q06):List (Ky×St):=rs.flatMap fun t=>ji ts t.name t.rows
theorem JP(ts:Q0b)(t:bW)(qs:Q07)(j:Nat)(h:j<qs.length):ji ts t (qs.take (j+1))=ji ts t (qs.take j)++relE ts t qs[j].name (aj qs[j].rows) qs[j].rows.length:=by
 unfold ji;rw[VE h,Ws,List.flatMap_singleton]
theorem JQ(ts:Q0b)(rs:Q06)(k:Nat)(h:k<rs.length):jk ts (rs.take (k+1))=jk ts (rs.take k)++ji ts rs[k].name rs[k].rows:=by
 unfold jk;rw[VE h,Ws,List.flatMap_singleton]
theorem Dy(ts:Q0b)(t r:bW)(rows:Q08)(i:Nat)(h:i<rows.length)(ng:Bool)(hn:ng=(fC (aj rows)).getD i false):relE ts t r (aj rows) (i+1)=relE ts t r (aj rows) i++Bn ts t r ng rows[i].e:=by
 have e:(aj rows)[i]?=some rows[i].e:=by simp[aj,h]
 simp only[relE,e,hn]
theorem Dz(rs:Q06)(hl:∀r∈rs,∀q∈r.rows,∀e∈q.rows,e.e.allow.length<=6)(typ:bW)(e:Ex)(he:e.allow.length<=6):(jh (ag rs) typ e).length<=6:=by
 unfold jh;split
 ·exact VJ (Dw _) he
 split
 ·simp
 split
 ·rw[WC];unfold gp;split
  ·refine VJ (Ah _ _ _ _) ?_;unfold aK;cases h:gm (ag rs) typ e.over with
   | none=>simp[aV]
   | some es =>
    obtain⟨t,ht,q,hq,-,-,rfl⟩:=qW h;have h1:=hl t ht q hq;have:∀(xs:Q08),(∀q∈xs,q.e.allow.length<=6)->(aV (aj xs)).length<=6:=by
     intro xs
     induction xs with
     | nil=>intro _;simp[aj,aV]
     | cons x xs ih =>
      intro h;have e4:aj (x::xs)=x.e::aj xs:=rfl;rw[e4];simp only[aV];split
      ·exact h x (by simp)
      exact ih (fun q hq=>h q (by simp[hq]))
    exact this q.rows h1
  simp
 simp
theorem JR(rs:Q06)(hf:∀r∈rs,r.fits)(typ:bW)(ht:typ.size<=maxLen)(e:Ex)(he:e.fits):∀a∈jh (ag rs) typ e,a.t.size<=maxLen/\a.s.size<=maxLen:=by
 have hA:∀(xs:Q0a),(∀a∈xs,a.fits)->∀a∈dD xs,a.t.size<=maxLen/\a.s.size<=maxLen:=by
  intro xs
  induction xs with
  | nil=>intro _ a ha;cases ha
  | cons b xs ih =>
   intro h a ha;simp only[dD]at ha;split at ha
   ·exact ih (fun q hq=>h q (by simp[hq])) a ha
   rcases VU.1 ha with rfl|ha
   ·exact h a (by simp)
   exact ih (fun q hq=>h q (by simp[hq])) a ha
 have hG:∀(xs:Q0a) (rel:ByteArray),(∀a∈xs,a.fits)->∀g∈gl (ag rs) rel xs,g.size<=maxLen:=by
  intro xs rel
  induction xs with
  | nil=>intro _ a ha;cases ha
  | cons b xs ih =>
   intro h a ha;simp only[gl]at ha;split at ha
   ·exact ih (fun q hq=>h q (by simp[hq])) a ha
   rcases VU.1 ha with rfl|ha
   ·exact(h b (by simp)).1
   exact ih (fun q hq=>h q (by simp[hq])) a ha
 unfold jh;split
 ·exact hA _ he.1
 split
 ·intro a ha;simp at ha;subst ha;exact⟨ht,he.2.2.1⟩
 split
 ·intro a ha;obtain⟨g,hg,rfl⟩:=VQ.1 ha;refine⟨?_,he.2.2.1⟩;unfold gp at hg;split at hg
  ·unfold ig at hg;refine hG _ _ ?_ g hg;unfold aK;cases e3:gm (ag rs) typ e.over with
   | none=>intro a ha;simp[aV]at ha
   | some es =>
    obtain⟨t,ht',q,hq,-,-,rfl⟩:=qW e3;have hq2:=((hf t ht').2.2 q hq).2.2;intro a ha;have:∀(xs:Q08),(∀q∈xs,q.e.fits)->∀a∈aV (aj xs),a.fits:=by
     intro xs
     induction xs with
     | nil=>intro _ a ha;simp[aj,aV]at ha
     | cons x xs ih =>
      intro h a ha;have e4:aj (x::xs)=x.e::aj xs:=rfl;rw[e4]at ha;simp only[aV]at ha;split at ha
      ·exact(h x (by simp)).1 a ha
      exact ih (fun q hq=>h q (by simp[hq])) a ha
    exact this q.rows hq2 a ha
  cases hg
 intro a ha;cases ha
theorem RN:(prog.info? 278).map (fun i=>(i.zero,i.size,i.bytes))=some (some (.agg #[.string ⟨#[]⟩,.string ⟨#[]⟩,.int .i64 0]),3,40):=by kernel_rfl
theorem JS(u:ae):(zeroValue 276).run prog u=.ok (.slice none 0 0) u:=by kernel_rfl
theorem vV{w:ae}{bL n:Nat}{M:Ky->Option Value}{E:List (Ky×St)}(h:Grp w bL n M E)(y:Ky):w.ownsRow (bL+1) 278 3 ((M y).getD (.slice none 0 0)) (lookL E y).length (iH (lookL E y)):=by
 rcases h.row y with⟨e,e2⟩|⟨v,e,ho⟩
 ·rw[e,e2];exact World.ownsRow_nil _ _ _ _
 rw[e];exact ho
theorem Qa{w:ae}{bL n:Nat}{M:Ky->Option Value}{E:List (Ky×St)}(h:Grp w bL n M E)(y:Ky):some bL≠((M y).getD (.slice none 0 0)).ownBlock:=by
 cases e:M y with
 | none=>simp[Value.ownBlock]
 | some v=>intro e2;have:=(h.lt e (g:=bL) (by simpa using e2.symm)).1;omega
theorem DC(E:List (Ky×St))(y:Ky):(lookL E y).length<=E.length:=WM _ _
set_option maxRecDepth 100000 in
theorem Cc(ad:Q02)(cap:Nat)(rs:Q06)(bT nT:Nat)(T:Ky->Option Value)(w:ae)(hlen:rs.length<=6)(hs:jP w ad rs)(hl:∀r∈rs,r.light)(hf:∀r∈rs,r.fits)(hrl:∀r∈rs,r.rows.length<=6)(hel:∀r∈rs,∀q∈r.rows,q.rows.length<=15/\∀e∈q.rows,eB q.rows.length e.e.kids)(hal6:∀r∈rs,∀q∈r.rows,∀e∈q.rows,e.e.allow.length<=6)(hV:aN dO prog 151 w bT nT T)(hT:Tab rs T):
  Calls prog 127 #[.slice ad rs.length cap,.map (some bT)] w fun e w'=>e=.returned (.map (some w.heap.size))/\(∃n M,Grp w' w.heap.size n M (jk (ag rs) rs))/\af w w':=by
 have HS:=aC hs;have HL:=aC hl;have Xd:=aC hf;have HRL:Hid (∀r∈rs,r.rows.length<=6):=hrl;have YI:Hid (∀r∈rs,∀q∈r.rows,q.rows.length<=15/\∀e∈q.rows,eB q.rows.length e.e.kids):=hel;have HV:Hid (aN dO prog 151 w bT nT T):=hV;have HT:=aC hT;have HA6:Hid (∀r∈rs,∀q∈r.rows,∀e∈q.rows,e.e.allow.length<=6):=hal6;clear hs hl hf hrl hel hV hT hal6;obtain⟨i0,hi,hz0,hz1,hz2⟩:=info_parts RN;have HG0:Hid (Grp (w.alloc (.map #[] 0)) w.heap.size 0 (fun _=>none) []):=grp_made w;have HB0:Hid (af w (w.alloc (.map #[] 0))):=(VD _ _).alloc (VC _) _;have hmm:=@run_makeMap prog;go_enter func127,ntmps127;go_wp2_with fail;go_loopw[19] (fun i wr=>∃k:Nat,k<=rs.length/\i=.int .i64 k/\Hid (∃n M,Grp wr w.heap.size n M (jk (ag rs) (rs.take k))/\n<=k*540/\(jk (ag rs) (rs.take k)).length<=k*540)/\Hid (af w wr)) (fun i _=>rs.length-(intOf i).toNat);case atStart=>exact⟨0,VG _,rfl,⟨0,_,HG0.out,by omega,by simp[jk]⟩,HB0⟩
 clear HG0 HB0 hmm;obtain⟨k,hk,rfl,HG,HB⟩:=hrel;by_cases hlt:k<rs.length
 ·rcases HS.out.below HB.out with rfl|⟨b,off,rfl,hb,hr,-⟩
  ·simp at hlt
  obtain⟨t0,t1⟩:=hr k hlt;have hk1:=bq k;have hk2:(k:Int)<(rs.length:Int):=by omega
  have h6:rs[k].rows.length<=6:=HRL.out _ (Vz hlt);have z0:rs[k].name.size<=maxLen:=(Xd.out _ (Vz hlt)).1;have YJ:Hid (∀q∈rs[k].rows,q.fits):=(Xd.out _ (Vz hlt)).2.2;have HLR:Hid (∀q∈rs[k].rows,q.light):=(HL.out _ (Vz hlt)).2;have HER:Hid (∀q∈rs[k].rows,q.rows.length<=15/\∀e∈q.rows,eB q.rows.length e.e.kids):=YI.out _ (Vz hlt);obtain⟨n1,M1,hG1,hn1,hE1⟩:=HG.out;obtain⟨E1,hE1d⟩:∃E1,E1=jk (ag rs) (rs.take k):=⟨_,rfl⟩;rw[<-hE1d]at hG1 hE1;have HE1D:Hid (E1=jk (ag rs) (rs.take k)):=hE1d;obtain⟨W1,hW1⟩:∃W1,W1=wr.alloc (.cells #[.string rs[k].name,.slice rs[k].ad rs[k].rows.length rs[k].cap] 105):=⟨_,rfl⟩;have hal:af wr W1:=by rw[hW1];exact(VD _ _).alloc (VC _) _
  have hbn:w.heap.size<wr.heap.size:=hG1.map.lt;have HC7:Hid (Cel W1 M1 w.heap.size wr.heap.size 0 (.string rs[k].name)):=⟨by rw[hW1];simp,by rw[hW1];simp,hG1.fresh (VC _),by omega⟩;have HG1:=aC (hG1.below hal);have HB1:=kL HB hal;clear hr hal hG1 HG hE1d;go_wp2_with fail;rw[<-hW1];clear hW1 t0 t1 HB;obtain⟨g7,Zg⟩:∃g7,g7=wr.heap.size:=⟨_,rfl⟩;rw[<-Zg]at HC7 hbn ⊢;clear Zg;go_loopw[26] (fun i w2=>∃j:Nat,j<=rs[k].rows.length/\i=.int .i64 j/\Hid (∃n M,Grp w2 w.heap.size n M (E1++ji (ag rs) rs[k].name (rs[k].rows.take j))/\n<=k*540+j*90/\(E1++ji (ag rs) rs[k].name (rs[k].rows.take j)).length<=k*540+j*90/\Cel w2 M w.heap.size g7 0 (.string rs[k].name))/\Hid (af w w2)) (fun i _=>rs[k].rows.length-(intOf i).toNat);case atStart=>exact⟨0,VG _,rfl,⟨n1,M1,by simpa[ji] using HG1.out,by omega,by have e:ji (ag rs) rs[k].name (rs[k].rows.take 0)=[]:=rfl;rw[e,Ww];omega,HC7.out⟩,HB1⟩
  clear HG1 HB1 HC7;obtain⟨j,hj,rfl,HG,HB⟩:=hrel;by_cases hjl:j<rs[k].rows.length
  ·rcases HS.out.below HB.out with hnil|⟨b',off',he,hb2,hr,hok⟩
   ·rw[hnil]at hlt;simp at hlt
   injection he with he;injection he with he1 he2;subst he1;subst he2;have ok:=hok rs[k] (Vz hlt);rcases ok with hnil|⟨b2,Xr,had,hbb,hr2,-⟩
   ·rw[hnil]at hjl;simp at hjl
   obtain⟨q0,q1⟩:=hr2 j hjl;have z1:rs[k].rows[j].name.size<=maxLen:=(YJ.out _ (Vz hjl)).1;have Zf:Hid (∀q∈rs[k].rows[j].rows,q.e.fits):=(YJ.out _ (Vz hjl)).2.2;have XM:Hid (∀q∈rs[k].rows[j].rows,q.e.light):=(HLR.out _ (Vz hjl)).2;have h15:rs[k].rows[j].rows.length<=15:=(HER.out _ (Vz hjl)).1;have HKR:Hid (∀e∈rs[k].rows[j].rows,eB rs[k].rows[j].rows.length e.e.kids):=(HER.out _ (Vz hjl)).2;have Y7:Hid (jq w rs[k].rows[j].ad rs[k].rows[j].rows):=NK.mem (HS.out.mem (Vz hlt)) (Vz hjl);have hj1:=bq j;have hj2:(j:Int)<(rs[k].rows.length:Int):=by omega
   obtain⟨n2,M2,hG2,hn2,hE2,hC7⟩:=HG.out;obtain⟨E2,hE2d⟩:∃E2,E2=E1++ji (ag rs) rs[k].name (rs[k].rows.take j):=⟨_,rfl⟩;rw[<-hE2d]at hG2 hE2;have HE2D:Hid (E2=E1++ji (ag rs) rs[k].name (rs[k].rows.take j)):=hE2d;obtain⟨W2,hW2⟩:∃W2,W2=wr.alloc (.cells #[.string rs[k].rows[j].name,.slice rs[k].rows[j].ad rs[k].rows[j].rows.length rs[k].rows[j].cap] 149):=⟨_,rfl⟩;have hal:af wr W2:=by rw[hW2];exact(VD _ _).alloc (VC _) _
   have hbn2:w.heap.size<wr.heap.size:=hG2.map.lt;have hC9:Cel W2 M2 w.heap.size wr.heap.size 0 (.string rs[k].rows[j].name):=⟨by rw[hW2];simp,by rw[hW2];simp,hG2.fresh (VC _),by omega⟩;have hC9b:Cel W2 M2 w.heap.size wr.heap.size 1 (.slice rs[k].rows[j].ad rs[k].rows[j].rows.length rs[k].rows[j].cap):=⟨by rw[hW2];simp,by rw[hW2];simp,hG2.fresh (VC _),by omega⟩;have HC7:Hid (Cel W2 M2 w.heap.size g7 0 (.string rs[k].name)):=hC7.stl (Stl.below hal);have HC9:Hid (Cel W2 M2 w.heap.size wr.heap.size 0 (.string rs[k].rows[j].name)):=hC9;have HC9b:=aC hC9b;have HG2:=aC (hG2.below hal);have HB2:=kL HB hal;rw[had];clear hr hok hr2 hG2 hC7 hC9 hC9b hal HG HB hE2d;go_wp2_with fail;rw[<-hW2];clear hW2 q0 q1;refine(BR rs[k].rows[j].ad rs[k].rows[j].cap rs[k].rows[j].rows _ (by omega) (Y7.out.below HB2.out) XM.out HKR.out).mono ?_;rintro e w3 ⟨rfl,hF3⟩;obtain⟨g9,hg9⟩:∃g9,g9=wr.heap.size:=⟨_,rfl⟩;rw[<-hg9]at HC9 HC9b hbn2 ⊢;have HB3:Hid (af w w3):=HB2.out.trans (hF3.below.mono HB2.out.size);have ZR:=aC (HG2.out.below hF3.below);have HCC:Hid (Cel w3 M2 w.heap.size g7 0 (.string rs[k].name)/\Cel w3 M2 w.heap.size g9 0 (.string rs[k].rows[j].name)/\∀(i:Nat) (h:i<rs[k].rows[j].rows.length),Cel w3 M2 w.heap.size W2.heap.size i (.bool ((fC (aj rs[k].rows[j].rows)).getD i false))):=by
    refine⟨HC7.out.stl (Stl.below hF3.below),HC9.out.stl (Stl.below hF3.below),fun i hi=>⟨?_,hF3.lt,HG2.out.fresh (VC _),?_⟩⟩
    ·have hn:i<(fC (aj rs[k].rows[j].rows)).length:=by rw[FY,aZ];exact hi
     rw[hF3.done i (by simpa[bools] using hn)];simp[bools,hn]
    have:=HG2.out.map.lt;omega
   have c9:=(HC9b.out.stl (Stl.below (bL:=w.heap.size) (M:=M2) hF3.below)).cell;obtain⟨gA,hgA⟩:∃gA,gA=W2.heap.size:=⟨_,rfl⟩;rw[<-hgA]at HCC ⊢;clear hF3 HC7 HC9 HC9b HG2 HB2 hg9 hgA;go_wp2_with fail;clear c9;go_loopw[36] (fun i w4=>∃m:Nat,m<=rs[k].rows[j].rows.length/\i=.int .i64 m/\Hid (∃n M,Grp w4 w.heap.size n M (E2++relE (ag rs) rs[k].name rs[k].rows[j].name (aj rs[k].rows[j].rows) m)/\n<=k*540+j*90+m*6/\(E2++relE (ag rs) rs[k].name rs[k].rows[j].name (aj rs[k].rows[j].rows) m).length<=k*540+j*90+m*6/\(Cel w4 M w.heap.size g7 0 (.string rs[k].name)/\Cel w4 M w.heap.size g9 0 (.string rs[k].rows[j].name)/\∀(i:Nat) (h:i<rs[k].rows[j].rows.length),Cel w4 M w.heap.size gA i (.bool ((fC (aj rs[k].rows[j].rows)).getD i false))))/\Hid (af w w4)) (fun i _=>rs[k].rows[j].rows.length-(intOf i).toNat);case atStart=>exact⟨0,VG _,rfl,⟨n2,M2,by simpa[relE] using ZR.out,by omega,by have e:relE (ag rs) rs[k].name rs[k].rows[j].name (aj rs[k].rows[j].rows) 0=[]:=rfl;rw[e,Ww];omega,HCC.out⟩,HB3⟩
   clear ZR HB3 HCC;obtain⟨m,hm,rfl,HG,HB⟩:=hrel;by_cases Xu:m<rs[k].rows[j].rows.length
   ·rcases Y7.out.below HB.out with hnil|⟨bE,offE,hadE,hbE,hrE,hok⟩
    ·rw[hnil]at Xu;simp at Xu
    obtain⟨t0,t1,t2,t3,t4⟩:=hrE m Xu;have hm1:=bq m;have hm2:(m:Int)<(rs[k].rows[j].rows.length:Int):=by omega
    have HXF:Hid (rs[k].rows[j].rows[m].e.fits):=Zf.out _ (Vz Xu);have HXL:Hid (rs[k].rows[j].rows[m].e.light):=XM.out _ (Vz Xu);obtain⟨n3,M3,hG3,hn3,hE3,hC7,hC9,hCA⟩:=HG.out;obtain⟨E3,hE3d⟩:∃E3,E3=E2++relE (ag rs) rs[k].name rs[k].rows[j].name (aj rs[k].rows[j].rows) m:=⟨_,rfl⟩;rw[<-hE3d]at hG3 hE3;have HE3D:Hid (E3=E2++relE (ag rs) rs[k].name rs[k].rows[j].name (aj rs[k].rows[j].rows) m):=hE3d;have hbn3:w.heap.size<wr.heap.size:=hG3.map.lt;obtain⟨ng,hng⟩:∃ng,ng=(fC (aj rs[k].rows[j].rows)).getD m false:=⟨_,rfl⟩;have HNG:Hid (ng=(fC (aj rs[k].rows[j].rows)).getD m false):=hng;rw[hadE];clear hng hE3d hrE;cases ng
    case' true =>
     obtain⟨W3,hW3⟩:∃W3,W3=((wr.alloc (.cells #[.int .i64 rs[k].rows[j].rows[m].e.kind,.slice rs[k].rows[j].rows[m].adA rs[k].rows[j].rows[m].e.allow.length rs[k].rows[j].rows[m].capA,.string rs[k].rows[j].rows[m].e.over,.string rs[k].rows[j].rows[m].e.name,.slice rs[k].rows[j].rows[m].adK rs[k].rows[j].rows[m].e.kids.length rs[k].rows[j].rows[m].capK] 188)).alloc (.cells #[.string rs[k].name,.string rs[k].rows[j].name,.int .i64 1] 278)):=⟨_,rfl⟩;have hal:af wr W3:=by
      rw[hW3]
      repeat(first|exact VD _ _|refine Below.setCell ?_ (by first|(simp;done)|(simp;omega)) _|refine Below.alloc ?_ (by first|(simp;done)|(simp;omega)) _)
     have hsz3:W3.heap.size=wr.heap.size+2:=by rw[hW3];simp
     have HB3:=kL HB hal;have ZR:=aC (hG3.below hal);have HC13:Hid (Cel W3 M3 w.heap.size (wr.heap.size+1) 0 (.string rs[k].name)/\Cel W3 M3 w.heap.size (wr.heap.size+1) 1 (.string rs[k].rows[j].name)/\Cel W3 M3 w.heap.size (wr.heap.size+1) 2 (.int .i64 1)):=by
      have hfr:FreeB M3 (wr.heap.size+1):=hG3.fresh (by omega);refine⟨⟨?_,by omega,hfr,by omega⟩,⟨?_,by omega,hfr,by omega⟩,⟨?_,by omega,hfr,by omega⟩⟩
      all_goals(rw[hW3];simp)
     obtain⟨dv,hdv⟩:∃dv:Int,dv=1:=⟨_,rfl⟩;rw[<-hdv]at HC13;have HDE:Hid (dv=1):=hdv;clear hdv;have HCC:Hid (Cel W3 M3 w.heap.size g7 0 (.string rs[k].name)/\Cel W3 M3 w.heap.size g9 0 (.string rs[k].rows[j].name)/\∀(i:Nat) (h:i<rs[k].rows[j].rows.length),Cel W3 M3 w.heap.size gA i (.bool ((fC (aj rs[k].rows[j].rows)).getD i false))):=⟨hC7.stl (Stl.below hal),hC9.stl (Stl.below hal),fun i h=>(hCA i h).stl (Stl.below hal)⟩;have HXO:Hid (rs[k].rows[j].rows[m].ok W3):=(hok rs[k].rows[j].rows[m] (Vz Xu)).below hal;have hc7:=hC7.cell;have hc9:=hC9.cell;have hl7:=hC7.lt;have hl9:=hC9.lt;have hcA:=(hCA m Xu).cell;have hlA:=(hCA m Xu).lt;rw[<-HNG.out]at hcA;clear hG3 hal hC7 hC9 hCA hok HG;go_wp2_with fail;rw[<-hW3];clear hW3 t0 t1 t2 t3 t4 hc7 hc9 hl7 hl9 hcA hlA
    case' false =>
     obtain⟨W3,hW3⟩:∃W3,W3=((wr.alloc (.cells #[.int .i64 rs[k].rows[j].rows[m].e.kind,.slice rs[k].rows[j].rows[m].adA rs[k].rows[j].rows[m].e.allow.length rs[k].rows[j].rows[m].capA,.string rs[k].rows[j].rows[m].e.over,.string rs[k].rows[j].rows[m].e.name,.slice rs[k].rows[j].rows[m].adK rs[k].rows[j].rows[m].e.kids.length rs[k].rows[j].rows[m].capK] 188)).alloc (.cells #[.string rs[k].name,.string rs[k].rows[j].name,.int .i64 0] 278)):=⟨_,rfl⟩;have hal:af wr W3:=by
      rw[hW3]
      repeat(first|exact VD _ _|refine Below.setCell ?_ (by first|(simp;done)|(simp;omega)) _|refine Below.alloc ?_ (by first|(simp;done)|(simp;omega)) _)
     have hsz3:W3.heap.size=wr.heap.size+2:=by rw[hW3];simp
     have HB3:=kL HB hal;have ZR:=aC (hG3.below hal);have HC13:Hid (Cel W3 M3 w.heap.size (wr.heap.size+1) 0 (.string rs[k].name)/\Cel W3 M3 w.heap.size (wr.heap.size+1) 1 (.string rs[k].rows[j].name)/\Cel W3 M3 w.heap.size (wr.heap.size+1) 2 (.int .i64 0)):=by
      have hfr:FreeB M3 (wr.heap.size+1):=hG3.fresh (by omega);refine⟨⟨?_,by omega,hfr,by omega⟩,⟨?_,by omega,hfr,by omega⟩,⟨?_,by omega,hfr,by omega⟩⟩
      all_goals(rw[hW3];simp)
     obtain⟨dv,hdv⟩:∃dv:Int,dv=0:=⟨_,rfl⟩;rw[<-hdv]at HC13;have HDE:Hid (dv=0):=hdv;clear hdv;have HCC:Hid (Cel W3 M3 w.heap.size g7 0 (.string rs[k].name)/\Cel W3 M3 w.heap.size g9 0 (.string rs[k].rows[j].name)/\∀(i:Nat) (h:i<rs[k].rows[j].rows.length),Cel W3 M3 w.heap.size gA i (.bool ((fC (aj rs[k].rows[j].rows)).getD i false))):=⟨hC7.stl (Stl.below hal),hC9.stl (Stl.below hal),fun i h=>(hCA i h).stl (Stl.below hal)⟩;have HXO:Hid (rs[k].rows[j].rows[m].ok W3):=(hok rs[k].rows[j].rows[m] (Vz Xu)).below hal;have hc7:=hC7.cell;have hc9:=hC9.cell;have hl7:=hC7.lt;have hl9:=hC9.lt;have hcA:=(hCA m Xu).cell;have hlA:=(hCA m Xu).lt;rw[<-HNG.out]at hcA;clear hG3 hal hC7 hC9 hCA hok HG;go_wp2_with fail;rw[<-hW3];clear hW3 t0 t1 t2 t3 t4 hc7 hc9 hl7 hl9 hcA hlA
    all_goals
     refine(GY bT nT rs (some ⟨b,off,none⟩) T rs[k].name rs[k].rows[j].rows[m] _ (HV.out.below HB3.out) HT.out (HS.out.below HB3.out) HL.out Xd.out z0 HXF.out HXL.out HXO.out).mono ?_;rintro e w5 ⟨⟨Yw,cpO,rfl,hSO,hNO⟩,hb5⟩;obtain⟨ks,hks⟩:∃ks,ks=jh (ag rs) rs[k].name rs[k].rows[j].rows[m].e:=⟨_,rfl⟩;rw[<-hks]at hSO ⊢;have HKS:Hid (ks=jh (ag rs) rs[k].name rs[k].rows[j].rows[m].e):=hks;have hkl6:ks.length<=6:=by rw[hks];exact Dz rs HA6.out _ _ (HA6.out _ (Vz hlt) _ (Vz hjl) _ (Vz Xu))
     have HKF:Hid (∀a∈ks,a.t.size<=maxLen/\a.s.size<=maxLen):=by show ∀_,_;rw[hks];exact JR rs Xd.out _ z0 _ HXF.out
     obtain⟨g13,ZP⟩:∃g13,g13=wr.heap.size+1:=⟨_,rfl⟩;have Yd:=kL HB3 hb5;have HG5:=aC (ZR.out.below hb5);have hS5:Stl W3 M3 w5 M3 w.heap.size:=Stl.below hb5;have HC5:Hid (Cel w5 M3 w.heap.size g7 0 (.string rs[k].name)/\Cel w5 M3 w.heap.size g9 0 (.string rs[k].rows[j].name)/\∀(i:Nat) (h:i<rs[k].rows[j].rows.length),Cel w5 M3 w.heap.size gA i (.bool ((fC (aj rs[k].rows[j].rows)).getD i false))):=⟨HCC.out.1.stl hS5,HCC.out.2.1.stl hS5,fun i h=>(HCC.out.2.2 i h).stl hS5⟩;have HD5:Hid (Cel w5 M3 w.heap.size g13 0 (.string rs[k].name)/\Cel w5 M3 w.heap.size g13 1 (.string rs[k].rows[j].name)/\Cel w5 M3 w.heap.size g13 2 (.int .i64 dv)):=by rw[ZP];exact⟨HC13.out.1.stl hS5,HC13.out.2.1.stl hS5,HC13.out.2.2.stl hS5⟩
     have Xi:Hid (ks=[] \/ ∃gO Xy,Yw=some ⟨gO,Xy,none⟩/\∀(i:Nat) (h:i<ks.length),Cel w5 M3 w.heap.size gO (Xy+i*2) (.string ks[i].t)/\Cel w5 M3 w.heap.size gO (Xy+i*2+1) (.string ks[i].s)):=by
      rcases hSO with e|⟨gO,Xy,e,hgO,hcO⟩
      ·exact .inl e
      have hN:=hNO _ e;have Yp:=ZR.out.map.lt;have hfr:FreeB M3 gO:=ZR.out.fresh hN;refine .inr ⟨gO,Xy,e,fun i hi=>⟨⟨(hcO i hi).1,hgO,hfr,?_⟩,⟨(hcO i hi).2,hgO,hfr,?_⟩⟩⟩
      all_goals(simp only at hN;omega)
     rw[<-ZP];clear hb5 hSO hNO hks hS5 HC13 HCC ZR HB3 HXO ZP;go_wp2_with fail;go_loopw[58] (fun i w6=>∃q:Nat,q<=ks.length/\i=.int .i64 q/\Hid (∃n M,Grp w6 w.heap.size n M (E3++(ks.take q).map (fun a:Al=>(((a.t,a.s),⟨rs[k].name,rs[k].rows[j].name,dv⟩):Ky×St)))/\n<=k*540+j*90+m*6+q/\(E3++(ks.take q).map (fun a:Al=>(((a.t,a.s),⟨rs[k].name,rs[k].rows[j].name,dv⟩):Ky×St))).length<=k*540+j*90+m*6+q/\(Cel w6 M w.heap.size g7 0 (.string rs[k].name)/\Cel w6 M w.heap.size g9 0 (.string rs[k].rows[j].name)/\∀(i:Nat) (h:i<rs[k].rows[j].rows.length),Cel w6 M w.heap.size gA i (.bool ((fC (aj rs[k].rows[j].rows)).getD i false)))/\(Cel w6 M w.heap.size g13 0 (.string rs[k].name)/\Cel w6 M w.heap.size g13 1 (.string rs[k].rows[j].name)/\Cel w6 M w.heap.size g13 2 (.int .i64 dv))/\(ks=[] \/ ∃gO Xy,Yw=some ⟨gO,Xy,none⟩/\∀(i:Nat) (h:i<ks.length),Cel w6 M w.heap.size gO (Xy+i*2) (.string ks[i].t)/\Cel w6 M w.heap.size gO (Xy+i*2+1) (.string ks[i].s)))/\Hid (af w w6)) (fun i _=>ks.length-(intOf i).toNat);case atStart=>exact⟨0,VG _,rfl,⟨n3,M3,by simpa using HG5.out,by omega,by simpa using hE3,HC5.out,HD5.out,Xi.out⟩,Yd⟩
     clear HG5 Yd HC5 HD5 Xi HB;obtain⟨q,hq,rfl,HG,HB⟩:=hrel;by_cases hql:q<ks.length
     ·obtain⟨n6,M6,hG6,hn6,hE6,hC6,hD6,ZC⟩:=HG.out;rcases ZC with hnil|⟨gO,Xy,ZW,hcO⟩
      ·rw[hnil]at hql;simp at hql
      have x0:=(hcO q hql).1.cell;have x1:=(hcO q hql).2.cell;have y0:=hD6.1.cell;have y1:=hD6.2.1.cell;have y2:=hD6.2.2.cell;have yl:=hD6.1.lt;have hq1:=bq q;have hq2:(q:Int)<(ks.length:Int):=by omega
      obtain⟨E6,hE6d⟩:∃E6,E6=E3++(ks.take q).map (fun a:Al=>(((a.t,a.s),⟨rs[k].name,rs[k].rows[j].name,dv⟩):Ky×St)):=⟨_,rfl⟩;rw[<-hE6d]at hG6 hE6;have HE6D:Hid (E6=E3++(ks.take q).map (fun a:Al=>(((a.t,a.s),⟨rs[k].name,rs[k].rows[j].name,dv⟩):Ky×St))):=hE6d;obtain⟨W6,YN⟩:∃W6,W6=((wr.alloc (.cells #[.string ks[q].t,.string ks[q].s] 151)).alloc (.cells #[.string rs[k].name,.string rs[k].rows[j].name,.int .i64 dv] 278)):=⟨_,rfl⟩;have hal:af wr W6:=by
       rw[YN]
       repeat(first|exact VD _ _|refine Below.alloc ?_ (by first|(simp;done)|(simp;omega)) _)
      have hsz6:W6.heap.size=wr.heap.size+2:=by rw[YN];simp
      have Yq:=kL HB hal;have HG6:=aC (hG6.below hal);have HNB:Hid (W6.heap[wr.heap.size+1]?=some (.cells #[.string rs[k].name,.string rs[k].rows[j].name,.int .i64 dv] 278)):=by show _=_;rw[YN];exact xe wr _ _
      have hbn6:w.heap.size<wr.heap.size:=hG6.map.lt;have HS6:Hid (Stl wr M6 W6 M6 w.heap.size):=Stl.below hal;have HCK:Hid ((Cel wr M6 w.heap.size g7 0 (.string rs[k].name)/\Cel wr M6 w.heap.size g9 0 (.string rs[k].rows[j].name)/\∀(i:Nat) (h:i<rs[k].rows[j].rows.length),Cel wr M6 w.heap.size gA i (.bool ((fC (aj rs[k].rows[j].rows)).getD i false)))/\(Cel wr M6 w.heap.size g13 0 (.string rs[k].name)/\Cel wr M6 w.heap.size g13 1 (.string rs[k].rows[j].name)/\Cel wr M6 w.heap.size g13 2 (.int .i64 dv))/\(ks=[] \/ ∃gO Xy,Yw=some ⟨gO,Xy,none⟩/\∀(i:Nat) (h:i<ks.length),Cel wr M6 w.heap.size gO (Xy+i*2) (.string ks[i].t)/\Cel wr M6 w.heap.size gO (Xy+i*2+1) (.string ks[i].s))):=⟨hC6,hD6,.inr ⟨gO,Xy,ZW,hcO⟩⟩;have hzz:=HKF.out _ (Vz hql);obtain⟨kl,hkl⟩:=ku (ks[q].t,ks[q].s) hzz.1 hzz.2;have XB:Hid (keyOf prog 151 (dO (ks[q].t,ks[q].s))=some kl):=hkl;have hLL:=DC E6 (ks[q].t,ks[q].s);have hn6b:n6<100000:=by omega
      have hLb:(lookL E6 (ks[q].t,ks[q].s)).length<100000:=by omega
      have Y5:Hid (W6.heap.size=wr.heap.size+2):=hsz6;rw[ZW];clear hal hG6 hC6 hD6 hcO hkl HG hE6d hzz hLL hsz6
      go_wp2_with (first
       | (at_builtin;refine wpList_append_own_at _ rfl _ _ 276 rfl (w.heap.size+1) 278 i0 _ 3 40 underlying276 hi hz0 hz1 hz2 rfl (by decide) _ _ _ rfl ((vV HG6.out (ks[q].t,ks[q].s)).kept Zg (.inr (Ne.symm (Qa HG6.out (ks[q].t,ks[q].s))))) ⟨wr.heap.size+1,0,none⟩ 1 1 [.string rs[k].name,.string rs[k].rows[j].name,.int .i64 dv] rfl rfl (World.news_of_block (cs:=#[.string rs[k].name,.string rs[k].rows[j].name,.int .i64 dv]) (t:=278) (fr:=(0,0)) ((Zg.block (wr.heap.size+1) (by rw[Y5.out];omega) (by simp;omega)).trans HNB.out)) (by simp[Value.oneCell']) (by unfold maxLen;omega) (by omega) (by have h1:=Zg.size;rw[Y5.out]at h1;omega) ?_;intro v' w8 ZT Zw hnil8 hloc8)
       | (rw[<-YN];refine BM _ rfl _ _ 220 rfl 151 276 Kw uJ underlying220 JS w.heap.size n6 M6 rfl HG6.out.map (by unfold maxLen;omega) (ks[q].t,ks[q].s) kl rfl XB.out ?_;intro st7 w7 Zg hback;clear YN x0 x1 y0 y1 y2)
       | (refine tL _ rfl _ _ _ 220 rfl w.heap.size st7 rfl rfl v' rfl 151 (n6+1) (lq M6 (ks[q].t,ks[q].s) (some v')) (hback w8 v' (Zw.block w.heap.size (by have h1:=Zg.size;rw[Y5.out]at h1;omega) (Qa HG6.out (ks[q].t,ks[q].s)))) ?_;intro w9 hM9 hg9))
      have hst:=HG6.out.step (s:=(⟨rs[k].name,rs[k].rows[j].name,dv⟩:St)) Zg ZT Zw hloc8 hg9 hM9;have HBN:Hid (af w w9):=by
       have hs1:=Yq.out.size;have b7:af w w7:=Yq.out.grown Zg hs1 (fun i hi=>by injection hi with hi;omega);have b8:af w w8:=b7.grown Zw b7.size (fun i hi=>by have:=((vV HG6.out (ks[q].t,ks[q].s)).lt i hi).1;omega);exact b8.grown hg9 b8.size (fun i hi=>by injection hi with hi;omega)
      have HGN:Hid (∃n M,Grp w9 w.heap.size n M (E3++(ks.take (q+1)).map (fun a:Al=>(((a.t,a.s),⟨rs[k].name,rs[k].rows[j].name,dv⟩):Ky×St)))/\n<=k*540+j*90+m*6+(q+1)/\(E3++(ks.take (q+1)).map (fun a:Al=>(((a.t,a.s),⟨rs[k].name,rs[k].rows[j].name,dv⟩):Ky×St))).length<=k*540+j*90+m*6+(q+1)/\(Cel w9 M w.heap.size g7 0 (.string rs[k].name)/\Cel w9 M w.heap.size g9 0 (.string rs[k].rows[j].name)/\∀(i:Nat) (h:i<rs[k].rows[j].rows.length),Cel w9 M w.heap.size gA i (.bool ((fC (aj rs[k].rows[j].rows)).getD i false)))/\(Cel w9 M w.heap.size g13 0 (.string rs[k].name)/\Cel w9 M w.heap.size g13 1 (.string rs[k].rows[j].name)/\Cel w9 M w.heap.size g13 2 (.int .i64 dv))/\(ks=[] \/ ∃gO Xy,Yw=some ⟨gO,Xy,none⟩/\∀(i:Nat) (h:i<ks.length),Cel w9 M w.heap.size gO (Xy+i*2) (.string ks[i].t)/\Cel w9 M w.heap.size gO (Xy+i*2+1) (.string ks[i].s))):=by
       have hS9:=HS6.out.trans hst.2;have e:E3++(ks.take (q+1)).map (fun a:Al=>(((a.t,a.s),⟨rs[k].name,rs[k].rows[j].name,dv⟩):Ky×St))=E6++[((ks[q].t,ks[q].s),(⟨rs[k].name,rs[k].rows[j].name,dv⟩:St))]:=by
        rw[VE hql,WA,<-V8,<-HE6D.out];rfl
       obtain⟨k1,k2,k3⟩:=HCK.out;refine⟨n6+1,_,by rw[e];exact hst.1,by omega,by rw[e,VI];simp;omega,⟨k1.1.stl hS9,k1.2.1.stl hS9,fun i h=>(k1.2.2 i h).stl hS9⟩,⟨k2.1.stl hS9,k2.2.1.stl hS9,k2.2.2.stl hS9⟩,?_⟩;rcases k3 with hnil|⟨gO',offO',e1,hc⟩
       ·exact .inl hnil
       exact .inr ⟨gO',offO',e1,fun i h=>⟨(hc i h).1.stl hS9,(hc i h).2.stl hS9⟩⟩
      clear hst Zg hback ZT Zw hnil8 hloc8 hg9 hM9;go_wp2;go_roundw;case rel=>exact⟨q+1,by omega,by go_num,(by rw[ZW]at HGN;exact HGN),HBN⟩
      simp[intOf]<;>omega
     obtain rfl:q=ks.length:=by omega
     have HGN:Hid (∃n M,Grp wr w.heap.size n M (E2++relE (ag rs) rs[k].name rs[k].rows[j].name (aj rs[k].rows[j].rows) (m+1))/\n<=k*540+j*90+(m+1)*6/\(E2++relE (ag rs) rs[k].name rs[k].rows[j].name (aj rs[k].rows[j].rows) (m+1)).length<=k*540+j*90+(m+1)*6/\(Cel wr M w.heap.size g7 0 (.string rs[k].name)/\Cel wr M w.heap.size g9 0 (.string rs[k].rows[j].name)/\∀(i:Nat) (h:i<rs[k].rows[j].rows.length),Cel wr M w.heap.size gA i (.bool ((fC (aj rs[k].rows[j].rows)).getD i false)))):=by
      obtain⟨n,M,h1,hn,h2,h3,-,-⟩:=HG.out;rw[VP]at h1 h2;have e:E2++relE (ag rs) rs[k].name rs[k].rows[j].name (aj rs[k].rows[j].rows) (m+1)=E3++ks.map (fun a:Al=>(((a.t,a.s),⟨rs[k].name,rs[k].rows[j].name,dv⟩):Ky×St)):=by
       rw[Dy _ _ _ _ _ Xu _ HNG.out,<-V8,<-HE3D.out,HKS.out,HDE.out];rfl
      refine⟨n,M,by rw[e];exact h1,by omega,by rw[e];omega,h3⟩
     clear HG;go_wp2;go_roundw;case rel=>exact⟨m+1,by omega,by go_num,HGN,HB⟩
     simp[intOf]<;>omega
   obtain rfl:m=rs[k].rows[j].rows.length:=by omega
   have HGN:Hid (∃n M,Grp wr w.heap.size n M (E1++ji (ag rs) rs[k].name (rs[k].rows.take (j+1)))/\n<=k*540+(j+1)*90/\(E1++ji (ag rs) rs[k].name (rs[k].rows.take (j+1))).length<=k*540+(j+1)*90/\Cel wr M w.heap.size g7 0 (.string rs[k].name)):=by
    obtain⟨n,M,h1,hn,h2,h3⟩:=HG.out;have e:E1++ji (ag rs) rs[k].name (rs[k].rows.take (j+1))=E2++relE (ag rs) rs[k].name rs[k].rows[j].name (aj rs[k].rows[j].rows) rs[k].rows[j].rows.length:=by
     rw[JP _ _ _ _ hjl,<-V8,<-HE2D.out]
    refine⟨n,M,?_,by omega,?_,h3.1⟩
    ·rw[e];exact h1
    rw[e];omega
   go_wp2;go_roundw;case rel=>exact⟨j+1,by omega,by go_num,HGN,HB⟩
   simp[intOf]<;>omega
  obtain rfl:j=rs[k].rows.length:=by omega
  have HGN:Hid (∃n M,Grp wr w.heap.size n M (jk (ag rs) (rs.take (k+1)))/\n<=(k+1)*540/\(jk (ag rs) (rs.take (k+1))).length<=(k+1)*540):=by
   obtain⟨n,M,h1,hn,h2,h3⟩:=HG.out;rw[VP]at h1 h2;have e:jk (ag rs) (rs.take (k+1))=E1++ji (ag rs) rs[k].name rs[k].rows:=by rw[JQ _ _ _ hlt,<-HE1D.out]
   refine⟨n,M,?_,by omega,?_⟩
   ·rw[e];exact h1
   rw[e];omega
  go_wp2;go_roundw;case rel=>exact⟨k+1,by omega,by go_num,HGN,HB⟩
  simp[intOf]<;>omega
 obtain rfl:k=rs.length:=by omega
 have HGN:Hid (∃n M,Grp wr w.heap.size n M (jk (ag rs) rs)):=by
  obtain⟨n,M,h1,-⟩:=HG.out;rw[VP]at h1;exact⟨n,M,h1⟩
 go_wp2;go_ret;exact⟨rfl,HGN.out,HB.out⟩
def Edge(ts:Q0b)(E:List (Ky×St)):Prop:=∀on t r s,(on,⟨t,r,s⟩)∈E↔(t,r)∈av ts/\∃d∈il ts (t,r),(d.typ,d.rel)=on/\stepOf d=s
def xg:Option Int->Int
 | none=>0
 | some x=>x+1
def oH(N:Nat)(σ:Ky->Option Int):List Ky->Int
 | []=>0
 | k::ks=>((N:Int)-xg (σ k))+oH N σ ks
structure Rz(ts:Q0b)(N:Nat)(σ:Ky->Option Int):Prop where
 there:∀k x,σ k=some x->k∈av ts/\0<=x/\x<N/\qK ts k x
def Ir(σ:Ky->Option Int)(k:Ky)(x:Int):Ky->Option Int:=fun y=>if y=k then some x else σ y
theorem oI(σ:Ky->Option Int)(k:Ky)(x:Int):Ir σ k x k=some x:=by simp[Ir]
theorem si{σ:Ky->Option Int}{k y:Ky}{x:Int}(h:y≠k):Ir σ k x y=σ y:=by simp[Ir,h]
theorem Rz.val{ts:Q0b}{N:Nat}{σ:Ky->Option Int}(h:Rz ts N σ)(k:Ky):0<=xg (σ k)/\xg (σ k)<=N:=by
 cases e:σ k with
 | none=>simp[xg]
 | some x=>have:=h.there k x e;simp only[xg];omega
theorem Rz.mu_pos{ts:Q0b}{N:Nat}{σ:Ky->Option Int}(h:Rz ts N σ)(ks:List Ky):0<=oH N σ ks:=by
 induction ks with
 | nil=>simp[oH]
 | cons k ks ih=>have:=h.val k;simp only[oH];omega
theorem Rz.set{ts:Q0b}{N:Nat}{σ:Ky->Option Int}(h:Rz ts N σ){k:Ky}{x:Int}(hk:k∈av ts)(h0:0<=x)(hN:x<N)(hl:qK ts k x):Rz ts N (Ir σ k x):=⟨fun y z hz=>by
 by_cases e:y=k
 ·subst e;rw[oI]at hz;injection hz with hz;subst hz;exact⟨hk,h0,hN,hl⟩
 rw[si e]at hz;exact h.there y z hz⟩
def vW(σ σ':Ky->Option Int):Prop:=∀k x,σ k=some x->∃y,σ' k=some y/\x<=y
theorem vW.refl(σ:Ky->Option Int):vW σ σ:=fun _ x h=>⟨x,h,Int.le_refl _⟩
theorem vW.trans{a b c:Ky->Option Int}(h:vW a b)(h2:vW b c):vW a c:=fun k x hx=>by
 obtain⟨y,hy,h3⟩:=h k x hx;obtain⟨z,hz,h4⟩:=h2 k y hy;exact⟨z,hz,by omega⟩
theorem vW.val{σ σ':Ky->Option Int}{ts:Q0b}{N:Nat}(h:vW σ σ')(hR:Rz ts N σ')(k:Ky):xg (σ k)<=xg (σ' k):=by
 cases e:σ k with
 | none=>exact(hR.val k).1
 | some x=>obtain⟨y,hy,h2⟩:=h k x e;rw[hy];simp only[xg];omega
theorem vW.mu{σ σ':Ky->Option Int}{ts:Q0b}{N:Nat}(h:vW σ σ')(hR:Rz ts N σ')(ks:List Ky):oH N σ' ks<=oH N σ ks:=by
 induction ks with
 | nil=>exact Int.le_refl _
 | cons k ks ih=>have:=h.val hR k;simp only[oH];omega
theorem ze{σ:Ky->Option Int}{k:Ky}{x:Int}(h:∀y,σ k=some y->y<x):vW σ (Ir σ k x):=fun y z hz=>by
 by_cases e:y=k
 ·subst e;exact⟨x,oI _ _ _,by have:=h z hz;omega⟩
 exact⟨z,by rw[si e];exact hz,Int.le_refl _⟩
theorem U7{σ:Ky->Option Int}{ts:Q0b}{N:Nat}{k:Ky}{x:Int}(hR:Rz ts N (Ir σ k x))(h:∀y,σ k=some y->y<x)(h0:0<=x)(ks:List Ky)(hk:k∈ks):oH N (Ir σ k x) ks+1<=oH N σ ks:=by
 induction ks with
 | nil=>cases hk
 | cons y ks ih =>
  simp only[oH];have hm:=(ze h).mu hR ks;have hv:=(ze h).val hR y;rcases VU.1 hk with rfl|hk
  ·have:xg (σ k)+1<=xg (Ir σ k x k):=by
    rw[oI];cases e:σ k with
    | none=>simp only[xg];omega
    | some z=>have:=h z e;simp only[xg];omega
   omega
  have:=ih hk;omega
def sj(E:List (Ky×St))(σ:Ky->Option Int)(k:Ky):Prop:=∀x,σ k=some x->∀s∈lookL E k,∃y,σ s.key=some y/\x+s.n<=y
structure Raised(E:List (Ky×St))(σ σ':Ky->Option Int):Prop where
 mono:vW σ σ'
 done:∀k,(sj E σ k\/σ' k≠σ k)->sj E σ' k
theorem Raised.refl(E:List (Ky×St))(σ:Ky->Option Int):Raised E σ σ:=⟨vW.refl _,fun _ h=>h.elim id (fun e=>absurd rfl e)⟩
theorem Raised.trans{E:List (Ky×St)}{a b c:Ky->Option Int}(h:Raised E a b)(h2:Raised E b c):Raised E a c:=⟨h.mono.trans h2.mono,fun k hk=>by
 by_cases e:c k=b k
 ·by_cases e2:b k=a k
  ·rcases hk with hk|hk
   ·exact h2.done k (.inl (h.done k (.inl hk)))
   exact absurd (e.trans e2) hk
  exact h2.done k (.inl (h.done k (.inr e2)))
 exact h2.done k (.inr e)⟩
structure Half(E:List (Ky×St))(σ:Ky->Option Int)(key:Ky)(x:Int)(j:Nat)(σ':Ky->Option Int):Prop where
 mono:vW σ σ'
 done:∀k,k≠key->(sj E σ k\/σ' k≠σ k)->sj E σ' k
 own:sj E σ' key\/(σ' key=some x/\∀s∈(lookL E key).take j,∃y,σ' s.key=some y/\x+s.n<=y)
 at':∃y,σ' key=some y/\x<=y
theorem Half.start{E:List (Ky×St)}{σ:Ky->Option Int}{key:Ky}{x:Int}(h:∀y,σ key=some y->y<x):Half E σ key x 0 (Ir σ key x) where
 mono:=ze h
 done k hk hs:=by
  have e:Ir σ key x k=σ k:=si hk;rcases hs with hs|hs
  ·intro z hz s hm;rw[e]at hz;obtain⟨y,hy,hle⟩:=hs z hz s hm;obtain⟨y',hy',h2⟩:=ze h _ y hy;exact⟨y',hy',by omega⟩
  exact absurd e hs
 own:=.inr ⟨oI _ _ _,fun s hs=>by simp at hs⟩
 at':=⟨x,oI _ _ _,Int.le_refl _⟩
theorem Half.step{E:List (Ky×St)}{σ σ1 σ2:Ky->Option Int}{key:Ky}{x:Int}{j:Nat}(h:Half E σ key x j σ1)(hj:j<(lookL E key).length)(hR:Raised E σ1 σ2)(hy:∃y,σ2 (lookL E key)[j].key=some y/\x+(lookL E key)[j].n<=y):Half E σ key x (j+1) σ2 where
 mono:=h.mono.trans hR.mono
 done k hk hs:=by
  by_cases e:σ2 k=σ1 k
  ·by_cases e2:σ1 k=σ k
   ·rcases hs with hs|hs
    ·exact hR.done k (.inl (h.done k hk (.inl hs)))
    exact absurd (e.trans e2) hs
   exact hR.done k (.inl (h.done k hk (.inr e2)))
  exact hR.done k (.inr e)
 own:=by
  rcases h.own with ho|⟨h1,h2⟩
  ·exact .inl (hR.done key (.inl ho))
  by_cases e:σ2 key=σ1 key
  ·refine .inr ⟨e.trans h1,fun s hs=>?_⟩;rw[VE hj]at hs;rcases VL.1 hs with hs|hs
   ·obtain⟨y,hy1,hy2⟩:=h2 s hs;obtain⟨z,hz,h3⟩:=hR.mono _ y hy1;exact⟨z,hz,by omega⟩
   simp at hs;subst hs;exact hy
  exact .inl (hR.done key (.inr e))
 at':=by
  obtain⟨y,hy,h1⟩:=h.at';obtain⟨z,hz,h2⟩:=hR.mono key y hy;exact⟨z,hz,by omega⟩
theorem Half.full{E:List (Ky×St)}{σ σ':Ky->Option Int}{key:Ky}{x:Int}{j:Nat}(h:Half E σ key x j σ')(hj:(lookL E key).length<=j):Raised E σ σ' where
 mono:=h.mono
 done k hk:=by
  by_cases e:k=key
  ·subst e;rcases h.own with ho|⟨h1,h2⟩
   ·exact ho
   intro z hz s hs;rw[h1]at hz;injection hz with hz;subst hz;exact h2 s (by rw[Wl hj];exact hs)
  exact h.done k e hk
theorem EX{ts:Q0b}{N:Nat}{E:List (Ky×St)}{σ:Ky->Option Int}(hE:Edge ts E)(hF:Found ts)(hR:Rz ts N σ)(hall:∀k∈av ts,∃x,σ k=some x)(hs:∀k,sj E σ k):Least ts (fun k=>(σ k).getD 0) where
 sol:=⟨fun k=>by
   cases e:σ k with
   | none=>exact Int.le_refl _
   | some x=>exact(hR.there k x e).2.1,fun k hk d hd=>by
   obtain⟨x,hx⟩:=hall _ (hF k hk d hd);have hm:(⟨k.1,k.2,stepOf d⟩:St)∈lookL E (d.typ,d.rel):=mem_lookL.2 ((hE _ _ _ _).2 ⟨hk,d,hd,rfl,rfl⟩);obtain⟨y,hy,h2⟩:=hs _ x hx _ hm;have hy':σ k=some y:=hy;simp only[hx,hy',Wn];exact h2⟩
 low k hk:=by
  obtain⟨x,hx⟩:=hall k hk;simp only[hx,Wn];exact(hR.there k x hx).2.2.2
theorem Edge.low{ts:Q0b}{E:List (Ky×St)}(hE:Edge ts E){k:Ky}{x:Int}(hl:qK ts k x){s:St}(hs:s∈lookL E k):s.key∈av ts/\qK ts s.key (x+s.n)/\0<=s.n/\s.n<=1:=by
 obtain⟨h1,d,hd,e1,e2⟩:=(hE k s.typ s.rel s.n).1 (mem_lookL.1 hs);have:=Ag d;refine⟨h1,?_,by omega,by omega⟩;rw[<-e2];exact qK.step h1 hd (by rw[e1];exact hl)
def iZ(σ:Ky->Option Int):Ky->Option Value:=fun k=>(σ k).map fun x=>Value.int .i64 x
theorem RO(σ:Ky->Option Int)(k:Ky)(x:Int):lq (iZ σ) k (some (.int .i64 x))=iZ (Ir σ k x):=by
 funext y
 unfold iZ;by_cases e:y=k
 ·subst e;rw[dV,oI];rfl
 rw[bZ e,si e]
theorem vX(u:ae):(zeroValue 2).run prog u=.ok (.int .i64 0) u:=by kernel_rfl
def EY(gS gC gL gR:Nat):Value:=.func (Fn.func 175) #[] #[.pointer (some ⟨gS,0,none⟩),.pointer (some ⟨gC,0,none⟩),.pointer (some ⟨gL,0,none⟩),.pointer (some ⟨gR,0,none⟩)]
structure Rw(w:World)(gS gC gL gR bS bL N n nL:Nat)(ML:Ky->Option Value)(E:List (Ky×St))(σ:Ky->Option Int):Prop where
 cS:w.cell? ⟨gS,0,none⟩=some (.map (some bS))
 cC:w.cell? ⟨gC,0,none⟩=some (.int .i64 N)
 cL:w.cell? ⟨gL,0,none⟩=some (.map (some bL))
 cR:w.cell? ⟨gR,0,none⟩=some (EY gS gC gL gR)
 lS:gS<w.heap.size/\gS≠bS
 lC:gC<w.heap.size/\gC≠bS
 lL:gL<w.heap.size/\gL≠bS
 lR:gR<w.heap.size/\gR≠bS
 map:aN dO prog 151 w bS n (iZ σ)
 lean:Grp w bL nL ML E
 bne:bL≠bS
 free:FreeB ML bS
theorem kI{w w':ae}{b g:Nat}(hg:w.grownBy w' (some b))(hl:g<w.heap.size/\g≠b)(o:Nat):w'.cell? ⟨g,o,none⟩=w.cell? ⟨g,o,none⟩:=VR (w:=w) (hg.block g hl.1 (fun e=>hl.2 (by injection e)))
theorem Grp.kept{w w':ae}{bL n b:Nat}{M:Ky->Option Value}{E:List (Ky×St)}(h:Grp w bL n M E)(hg:w.grownBy w' (some b))(hb:bL≠b)(hf:FreeB M b):Grp w' bL n M E where
 map:=h.map.kept hg (by intro e;injection e with e;exact hb e)
 row k:=by
  rcases h.row k with e|⟨v,e,ho⟩
  ·exact .inl e
  exact .inr ⟨v,e,ho.kept hg (.inr (hf k v e))⟩
 apart:=h.apart
theorem Rw.kept{w w':ae}{gS gC gL gR bS bL N n n' nL:Nat}{ML:Ky->Option Value}{E:List (Ky×St)}{σ σ':Ky->Option Int}(h:Rw w gS gC gL gR bS bL N n nL ML E σ)(hg:w.grownBy w' (some bS))(hM:aN dO prog 151 w' bS n' (iZ σ')):Rw w' gS gC gL gR bS bL N n' nL ML E σ' where
 cS:=(kI hg h.lS 0).trans h.cS
 cC:=(kI hg h.lC 0).trans h.cC
 cL:=(kI hg h.lL 0).trans h.cL
 cR:=(kI hg h.lR 0).trans h.cR
 lS:=⟨Vy h.lS.1 hg.size,h.lS.2⟩
 lC:=⟨Vy h.lC.1 hg.size,h.lC.2⟩
 lL:=⟨Vy h.lL.1 hg.size,h.lL.2⟩
 lR:=⟨Vy h.lR.1 hg.size,h.lR.2⟩
 map:=hM
 lean:=h.lean.kept hg h.bne h.free
 bne:=h.bne
 free:=h.free
theorem jl{w w':ae}{b:Nat}(h:af w w'):w.grownBy w' (some b):=⟨h.os,h.tape,h.output,h.size,fun k hk _=>h.block k hk⟩
theorem Rw.below{w w':ae}{gS gC gL gR bS bL N n nL:Nat}{ML:Ky->Option Value}{E:List (Ky×St)}{σ:Ky->Option Int}(h:Rw w gS gC gL gR bS bL N n nL ML E σ)(hB:af w w'):Rw w' gS gC gL gR bS bL N n nL ML E σ:=h.kept (jl hB) (h.map.below hB)
theorem nE{a b c:ae}{r:Option Nat}(h:a.grownBy b r)(h2:b.grownBy c r):a.grownBy c r:=⟨h2.os.trans h.os,h2.tape.trans h.tape,h2.output.trans h.output,VJ h.size h2.size,fun k hk hr=>(h2.block k (Vy hk h.size) hr).trans (h.block k hk hr)⟩
def JU(ts:Q0b)(w:World)(gS gC gL gR bS bL N n nL:Nat)(ML:Ky->Option Value)(E:List (Ky×St))(σ:Ky->Option Int)(key:Ky)(lv:Int)(e:Ending)(w':World):Prop :=
 ∃(ok:Bool) (σ':Ky->Option Int) (n':Nat),e=.returned (.bool ok)/\w.grownBy w' (some bS)/\Rw w' gS gC gL gR bS bL N n' nL ML E σ'/\Rz ts N σ'/\(n':Int)+oH N σ' (av ts)<=n+oH N σ (av ts)/\oH N σ' (av ts)<=oH N σ (av ts) /\
  (ok=false->¬ ∃f,Sol ts f)/\(ok=true->Raised E σ σ'/\∃x,σ' key=some x/\lv<=x)
set_option maxRecDepth 100000 in
theorem MU(ts:Q0b)(gS gC gL gR bS bL N nL:Nat)(ML:Ky->Option Value)(E:List (Ky×St))(hE:Edge ts E)(hF:Found ts)(hN:N=(av ts).length)(hN36:N<=36)(hsz:∀k∈av ts,k.1.size<=maxLen/\k.2.size<=maxLen)(hEl:E.length<=100000)(f:Nat):
  ∀(w:World) (σ:Ky->Option Int) (n:Nat) (key:Ky) (lv:Int),Rw w gS gC gL gR bS bL N n nL ML E σ->Rz ts N σ->oH N σ (av ts)<=f->(n:Int)+oH N σ (av ts)<=100000->key∈av ts->0<=lv->lv<=100->qK ts key lv ->
  Calls prog 175 #[.agg #[.string key.1,.string key.2],.int .i64 lv,.pointer (some ⟨gS,0,none⟩),.pointer (some ⟨gC,0,none⟩),.pointer (some ⟨gL,0,none⟩),.pointer (some ⟨gR,0,none⟩)] w (JU ts w gS gC gL gR bS bL N n nL ML E σ key lv):=by
 have HE:=aC hE;have HF:=aC hF;have Y5:Hid (∀k∈av ts,k.1.size<=maxLen/\k.2.size<=maxLen):=hsz;have Y9:Hid (N=(av ts).length):=hN;clear hE hF hsz hN
 induction f using Nat.strongRecOn with
 | _ f ih =>
 intro w σ n key lv hR hZ hmu hnm hk h0 h1 hl;have HIH:Hid (∀m<f,_):=ih;clear ih;obtain⟨hz1,hz2⟩:=Y5.out key hk;obtain⟨kl,hkl⟩:=ku key hz1 hz2;have XB:Hid (keyOf prog 151 (dO key)=some kl):=hkl;have HR:=aC hR;have HZ:=aC hZ;have HLK:=aC hl;have HKM:=aC hk;have hmp:=hZ.mu_pos (av ts);have cS:=hR.cS;have cC:=hR.cC;have cL:=hR.cL;have lS:=hR.lS.1;have lC:=hR.lC.1;have lL:=hR.lL.1;have hbS:=hR.map.lt;have hal:af w (w.alloc (.cells #[.string key.1,.string key.2] 151)):=(VD _ _).alloc (VC _) _;have Xl:=aC hal;have ZU:Hid (aN dO prog 151 (w.alloc (.cells #[.string key.1,.string key.2] 151)) bS n (iZ σ)):=hR.map.below hal;have HR1:=aC (hR.below hal);clear hR hZ hl hkl hal hk;by_cases hd:∃x,σ key=some x/\lv<=x
 ·obtain⟨x,hx,hle⟩:=hd;obtain⟨-,hx0,hxN,-⟩:=HZ.out.there key x hx;have hlk:iZ σ key=some (.int .i64 x):=by unfold iZ;rw[hx];rfl
  have HX:Hid (σ key=some x):=hx;clear hx;go_enter func175,ntmps175;go_wp2_with(at_lookup;refine dJ _ rfl _ _ 141 rfl 151 2 jb underlying141 (vX _) bS n (iZ σ) rfl ZU.out key kl rfl XB.out ?_;simp only[hlk,Wn,Option.isSome_some]);go_ret;exact⟨true,σ,n,rfl,jl Xl.out,HR1.out,HZ.out,Int.le_refl _,Int.le_refl _,by simp,fun _=>⟨Raised.refl _ _,x,HX.out,hle⟩⟩
 have HLT:Hid (∀y,σ key=some y->y<lv):=fun y hy=>by
  by_cases h:lv<=y
  ·exact absurd ⟨y,hy,h⟩ hd
  omega
 clear hd;by_cases hNt:(N:Int)<=lv
 ·have YZ:Hid (¬ ∃f,Sol ts f):=OI HF.out HKM.out HLK.out (by have:=Y9.out;omega);cases hs:σ key with
  | none =>
   have hlk:iZ σ key=none:=by unfold iZ;rw[hs];rfl
   clear hs;go_enter func175,ntmps175;go_wp2_with(at_lookup;refine dJ _ rfl _ _ 141 rfl 151 2 jb underlying141 (vX _) bS n (iZ σ) rfl ZU.out key kl rfl XB.out ?_;simp only[hlk,Option.getD_none,Option.isSome_none]);go_ret;exact⟨false,σ,n,rfl,jl Xl.out,HR1.out,HZ.out,Int.le_refl _,Int.le_refl _,fun _=>YZ.out,by simp⟩
  | some x =>
   have hxt:x<lv:=HLT.out x hs;obtain⟨-,hx0,hxN,-⟩:=HZ.out.there key x hs;have hlk:iZ σ key=some (.int .i64 x):=by unfold iZ;rw[hs];rfl
   clear hs;go_enter func175,ntmps175;go_wp2_with(at_lookup;refine dJ _ rfl _ _ 141 rfl 151 2 jb underlying141 (vX _) bS n (iZ σ) rfl ZU.out key kl rfl XB.out ?_;simp only[hlk,Wn,Option.isSome_some]);go_ret;exact⟨false,σ,n,rfl,jl Xl.out,HR1.out,HZ.out,Int.le_refl _,Int.le_refl _,fun _=>YZ.out,by simp⟩
 have hNt':lv<(N:Int):=by omega
 have HZ2:Hid (Rz ts N (Ir σ key lv)):=HZ.out.set HKM.out h0 hNt' HLK.out;have HMU:Hid (oH N (Ir σ key lv) (av ts)+1<=oH N σ (av ts)):=U7 HZ2.out HLT.out h0 _ HKM.out;obtain⟨adL,cpL,hvl,hrow⟩:=Rk (vV HR.out.lean key);have HVL:Hid ((ML key).getD (.slice none 0 0)=.slice adL (lookL E key).length cpL):=hvl;have hll:(lookL E key).length<=100000:=VJ (DC _ _) hEl;clear hvl hrow;cases hs:σ key
 case' none =>
  have hlk:iZ σ key=none:=by unfold iZ;rw[hs];rfl
  clear hs;go_enter func175,ntmps175
  go_wp2_with (first
   | (at_lookup;refine dJ _ rfl _ _ 141 rfl 151 2 jb underlying141 (vX _) bS n (iZ σ) rfl ZU.out key kl rfl XB.out ?_;simp only[hlk,Option.getD_none,Option.isSome_none])
   | (at_mapUpdate;refine nI _ rfl _ _ _ 141 rfl 151 2 jb uJ underlying141 bS n (iZ σ) rfl ZU.out (by unfold maxLen;omega) key kl rfl XB.out (.int .i64 lv) rfl ?_;intro w2 hV2 hg2;have cL2:w2.cell? ⟨gL,0,none⟩=some (.map (some bL)):=(kI hg2 HR1.out.lL 0).trans HR1.out.cL;have k0:w2.cell? ⟨w.heap.size,0,none⟩=some (.string key.1):=(kI hg2 ⟨by simp,by omega⟩ 0).trans (by simp);have k1:w2.cell? ⟨w.heap.size,1,none⟩=some (.string key.2):=(kI hg2 ⟨by simp,by omega⟩ 1).trans (by simp))
   | (at_lookup;refine jr _ rfl _ _ 220 rfl 151 276 jb underlying220 (JS _) bL nL ML rfl ((HR1.out.lean.kept hg2 HR1.out.bne HR1.out.free).map) key kl rfl XB.out ?_;rw[HVL.out]))
 case' some x =>
  have hxt:x<lv:=HLT.out x hs;obtain⟨-,hx0,hxN,-⟩:=HZ.out.there key x hs;have hlk:iZ σ key=some (.int .i64 x):=by unfold iZ;rw[hs];rfl
  clear hs;go_enter func175,ntmps175
  go_wp2_with (first
   | (at_lookup;refine dJ _ rfl _ _ 141 rfl 151 2 jb underlying141 (vX _) bS n (iZ σ) rfl ZU.out key kl rfl XB.out ?_;simp only[hlk,Wn,Option.isSome_some])
   | (at_mapUpdate;refine nI _ rfl _ _ _ 141 rfl 151 2 jb uJ underlying141 bS n (iZ σ) rfl ZU.out (by unfold maxLen;omega) key kl rfl XB.out (.int .i64 lv) rfl ?_;intro w2 hV2 hg2;have cL2:w2.cell? ⟨gL,0,none⟩=some (.map (some bL)):=(kI hg2 HR1.out.lL 0).trans HR1.out.cL;have k0:w2.cell? ⟨w.heap.size,0,none⟩=some (.string key.1):=(kI hg2 ⟨by simp,by omega⟩ 0).trans (by simp);have k1:w2.cell? ⟨w.heap.size,1,none⟩=some (.string key.2):=(kI hg2 ⟨by simp,by omega⟩ 1).trans (by simp))
   | (at_lookup;refine jr _ rfl _ _ 220 rfl 151 276 jb underlying220 (JS _) bL nL ML rfl ((HR1.out.lean.kept hg2 HR1.out.bne HR1.out.free).map) key kl rfl XB.out ?_;rw[HVL.out]))
 all_goals
  have HR2:Hid (Rw w2 gS gC gL gR bS bL N (n+1) nL ML E (Ir σ key lv)):=HR1.out.kept hg2 (by rw[<-RO];exact hV2);have HG2:Hid (w.grownBy w2 (some bS)):=nE (jl Xl.out) hg2;clear hV2 hg2 cL2 k0 k1;go_loopw[35] (fun i w3=>∃j:Nat,j<=(lookL E key).length/\i=.int .i64 j/\Hid (∃(σ3:Ky->Option Int) (n3:Nat),Half E σ key lv j σ3/\Rw w3 gS gC gL gR bS bL N n3 nL ML E σ3/\Rz ts N σ3/\(n3:Int)+oH N σ3 (av ts)<=n+oH N σ (av ts)/\oH N σ3 (av ts)+1<=oH N σ (av ts)/\w.grownBy w3 (some bS))) (fun i _=>(lookL E key).length-(intOf i).toNat);case atStart=>exact⟨0,VG _,rfl,⟨Ir σ key lv,n+1,Half.start HLT.out,HR2.out,HZ2.out,by have:=HMU.out;push_cast;omega,HMU.out,HG2.out⟩⟩
  clear HR2 HG2 HZ2 HMU;obtain⟨j,hj,rfl,HI⟩:=hrel;by_cases hjl:j<(lookL E key).length
  ·obtain⟨σ3,n3,hH3,Yz,hZ3,hn3,ZX,hg3⟩:=HI.out;obtain⟨WY,cp',hv',hrow'⟩:=Rk (vV Yz.lean key);rw[HVL.out]at hv';injection hv' with e1 e2 e3;subst e1;rcases hrow' with h|⟨gr,Xb,hgr1,XC,hcr⟩
   ·omega
   obtain⟨st,hst⟩:∃st,st=(lookL E key)[j]:=⟨_,rfl⟩;have r0:wr.cell? ⟨gr,j*3,none⟩=some (.string st.typ):=hcr _ _ (by have:=lI (lookL E key) j hjl 0 (by omega);rw[hst];simpa[St.cells] using this);have r1:wr.cell? ⟨gr,j*3+1,none⟩=some (.string st.rel):=hcr _ _ (by have:=lI (lookL E key) j hjl 1 (by omega);rw[hst];simpa[St.cells] using this);have r2:wr.cell? ⟨gr,j*3+2,none⟩=some (.int .i64 st.n):=hcr _ _ (by have:=lI (lookL E key) j hjl 2 (by omega);rw[hst];simpa[St.cells] using this);have HST:Hid (st=(lookL E key)[j]):=hst;obtain⟨hsk,hsl,hsn0,hsn1⟩:=HE.out.low HLK.out (s:=st) (by rw[hst];exact Vz hjl);have HSK:=aC hsk;have Z8:=aC hsl;have hj1:=bq j;have hj2:(j:Int)<((lookL E key).length:Int):=by omega
   have cR3:=Yz.cR;unfold EY at cR3;have lR3:=Yz.lR.1;obtain⟨W3,hW3⟩:∃W3,W3=wr.alloc (.cells #[.string st.typ,.string st.rel,.int .i64 st.n] 278):=⟨_,rfl⟩;have Z0:af wr W3:=by rw[hW3];exact(VD _ _).alloc (VC _) _
   have HR3:=aC (Yz.below Z0);have ZR:Hid (w.grownBy W3 (some bS)):=nE hg3 (jl Z0);have HH3:=aC hH3;have HZ3:=aC hZ3;have hm3p:=hZ3.mu_pos (av ts);have HNM:Hid ((n3:Int)+oH N σ3 (av ts)<=n+oH N σ (av ts)/\oH N σ3 (av ts)+1<=oH N σ (av ts)):=⟨hn3,ZX⟩;rw[Xb];clear hcr hgr1 XC hsk hsl hst Yz Z0 hH3 hZ3 hg3 HI e2 e3;go_wp2_with fail;rw[<-hW3];clear hW3 r0 r1 r2 cR3;refine(HIH.out (oH N σ3 (av ts)).toNat (by omega) _ σ3 n3 st.key (lv+st.n) HR3.out HZ3.out (by omega) (by omega) HSK.out (by omega) (by omega) Z8.out).mono ?_;rintro e w5 ⟨ok,σ5,n5,rfl,hg5,Xo,hZ5,hn5,Zu,hf5,ht5⟩;cases ok;case false=>
    have HP:Hid (JU ts w gS gC gL gR bS bL N n nL ML E σ key lv (.returned (.bool false)) w5):=by
     have h:=HNM.out;exact⟨false,σ5,n5,rfl,nE ZR.out hg5,Xo,hZ5,by omega,by omega,fun _=>hf5 rfl,by simp⟩
    clear hg5 Xo hZ5 hn5 Zu hf5 ht5;go_wp2;go_ret;exact HP.out
   have HI2:Hid (∃(σ3:Ky->Option Int) (n3:Nat),Half E σ key lv (j+1) σ3/\Rw w5 gS gC gL gR bS bL N n3 nL ML E σ3/\Rz ts N σ3/\(n3:Int)+oH N σ3 (av ts)<=n+oH N σ (av ts)/\oH N σ3 (av ts)+1<=oH N σ (av ts)/\w.grownBy w5 (some bS)):=by
    have h:=HNM.out;obtain⟨hRa,y,hy,hle⟩:=ht5 rfl;refine⟨σ5,n5,HH3.out.step hjl hRa ⟨y,?_,?_⟩,Xo,hZ5,by omega,by omega,nE ZR.out hg5⟩
    ·rw[<-HST.out];exact hy
    rw[<-HST.out];exact hle
   clear hg5 Xo hZ5 hn5 Zu hf5 ht5;go_wp2;go_roundw;case rel=>exact⟨j+1,by omega,by go_num,HI2⟩
   simp[intOf]<;>omega
  obtain rfl:j=(lookL E key).length:=by omega
  have HP:Hid (JU ts w gS gC gL gR bS bL N n nL ML E σ key lv (.returned (.bool true)) wr):=by
   obtain⟨σ3,n3,hH3,Yz,hZ3,hn3,ZX,hg3⟩:=HI.out;exact⟨true,σ3,n3,rfl,hg3,Yz,hZ3,hn3,by omega,by simp,fun _=>⟨hH3.full (VC _),hH3.at'⟩⟩
  clear HI;go_wp2;go_ret;exact HP.out
def Qb(ts:Q0b)(w:World)(e:Ending)(w':World):Prop :=
 ((∃(b n:Nat) (σ:Ky->Option Int),e=.returned (.tuple #[.map (some b),.bool true])/\aN dO prog 151 w' b n (iZ σ)/\Least ts (fun k=>(σ k).getD 0)/\∀k,(∃x,σ k=some x)↔k∈av ts)\/(e=.returned (.tuple #[.map none,.bool false])/\¬ ∃f,Sol ts f))/\af w w'
theorem Qc(N:Nat)(ks:List Ky):oH N (fun _=>none) ks=N*ks.length:=by
 induction ks with
 | nil=>simp[oH]
 | cons k ks ih=>simp only[oH,ih,xg,We];push_cast;rw[Int.mul_add];omega
theorem MV{rs:Q06}(hf:∀r∈rs,r.fits):∀k∈av (ag rs),k.1.size<=maxLen/\k.2.size<=maxLen:=by
 intro k hk;obtain⟨t,ht,r,hr,rfl⟩:=qN.1 hk;obtain⟨t',ht',rfl⟩:=VQ.1 ht;obtain⟨q,hq,rfl⟩:=VQ.1 hr;exact⟨(hf t' ht').1,((hf t' ht').2.2 q hq).1⟩
set_option maxRecDepth 100000 in
theorem yJ(ad:Q02)(cap:Nat)(rs:Q06)(bL nL:Nat)(ML:Ky->Option Value)(E:List (Ky×St))(w:ae)(hlen:rs.length<=6)(hs:jP w ad rs)(hf:∀r∈rs,r.fits)(hrl:∀r∈rs,r.rows.length<=6)(hG:Grp w bL nL ML E)(hE:Edge (ag rs) E)(hF:Found (ag rs))(hEl:E.length<=100000):
  Calls prog 126 #[.slice ad rs.length cap,.map (some bL)] w (Qb (ag rs) w):=by
 have HS:=aC hs;have Xd:=aC hf;have HRL:Hid (∀r∈rs,r.rows.length<=6):=hrl;have HG:Hid (Grp w bL nL ML E):=hG;have HE:=aC hE;have HF:=aC hF;have HBL:Hid (bL<w.heap.size):=hG.map.lt;clear hs hf hrl hG hE hF;have hmm:=@run_makeMap prog;go_enter func126,ntmps126;have HB0:Hid (af w ((w.alloc (.cells #[.map (some bL)] 220)).alloc (.cells #[.int .i64 0] 2))):=((VD _ _).alloc (VC _) _).alloc (by simp) _;have X9:Hid (((w.alloc (.cells #[.map (some bL)] 220)).alloc (.cells #[.int .i64 0] 2)).cell? ⟨w.heap.size,0,none⟩=some (.map (some bL))/\((w.alloc (.cells #[.map (some bL)] 220)).alloc (.cells #[.int .i64 0] 2)).cell? ⟨w.heap.size+1,0,none⟩=some (.int .i64 0)/\((w.alloc (.cells #[.map (some bL)] 220)).alloc (.cells #[.int .i64 0] 2)).frozen? ⟨w.heap.size+1,0,none⟩=false/\w.heap.size+1<((w.alloc (.cells #[.map (some bL)] 220)).alloc (.cells #[.int .i64 0] 2)).heap.size):=⟨by simp,by simp,by simp,by simp⟩;go_wp2_with fail;go_loopw[17] (fun i wr=>∃k:Nat,k<=rs.length/\i=.int .i64 k/\Hid (af w wr)/\Hid (wr.cell? ⟨w.heap.size,0,none⟩=some (.map (some bL))/\wr.cell? ⟨w.heap.size+1,0,none⟩=some (.int .i64 ((dm rs k).length:Int))/\wr.frozen? ⟨w.heap.size+1,0,none⟩=false/\w.heap.size+1<wr.heap.size)) (fun i _=>rs.length-(intOf i).toNat);case atStart=>exact⟨0,VG _,rfl,HB0,X9⟩
 clear HB0 X9;obtain⟨k,hk,rfl,HB,HC⟩:=hrel;obtain⟨c0,c1,c2,c3⟩:=HC.out;have hu:=wP rs HRL.out k;by_cases hlt:k<rs.length
 ·rcases HS.out.below HB.out with rfl|⟨b,off,rfl,hb,hr,-⟩
  ·simp at hlt
  obtain⟨t0,t1⟩:=hr k hlt;have hk1:=bq k;have hk2:(k:Int)<(rs.length:Int):=by omega
  have h6:=HRL.out _ (Vz hlt);have XJ:Hid ((dm rs (k+1)).length=(dm rs k).length+rs[k].rows.length):=by show _=_;rw[pu _ _ hlt,VI];simp[iW]
  obtain⟨cn,hcn⟩:∃cn,cn=(dm rs k).length:=⟨_,rfl⟩;rw[<-hcn]at c1 hu XJ;have HB1:Hid (af w ((wr.setCell ⟨w.heap.size+1,0,none⟩ (.int .i64 ((cn:Int)+(rs[k].rows.length:Int)))).alloc (.cells #[.string rs[k].name,.slice rs[k].ad rs[k].rows.length rs[k].cap] 105))):=(HB.out.setCell (p:=⟨w.heap.size+1,0,none⟩) (by simp) _).alloc (by simpa using HB.out.size) _;have XL:Hid (((wr.setCell ⟨w.heap.size+1,0,none⟩ (.int .i64 ((cn:Int)+(rs[k].rows.length:Int)))).alloc (.cells #[.string rs[k].name,.slice rs[k].ad rs[k].rows.length rs[k].cap] 105)).cell? ⟨w.heap.size,0,none⟩=some (.map (some bL))/\((wr.setCell ⟨w.heap.size+1,0,none⟩ (.int .i64 ((cn:Int)+(rs[k].rows.length:Int)))).alloc (.cells #[.string rs[k].name,.slice rs[k].ad rs[k].rows.length rs[k].cap] 105)).cell? ⟨w.heap.size+1,0,none⟩=some (.int .i64 ((dm rs (k+1)).length:Int))/\((wr.setCell ⟨w.heap.size+1,0,none⟩ (.int .i64 ((cn:Int)+(rs[k].rows.length:Int)))).alloc (.cells #[.string rs[k].name,.slice rs[k].ad rs[k].rows.length rs[k].cap] 105)).frozen? ⟨w.heap.size+1,0,none⟩=false/\w.heap.size+1<((wr.setCell ⟨w.heap.size+1,0,none⟩ (.int .i64 ((cn:Int)+(rs[k].rows.length:Int)))).alloc (.cells #[.string rs[k].name,.slice rs[k].ad rs[k].rows.length rs[k].cap] 105)).heap.size):=by
   obtain⟨X,hX⟩:∃X,X=wr.setCell ⟨w.heap.size+1,0,none⟩ (.int .i64 ((cn:Int)+(rs[k].rows.length:Int))):=⟨_,rfl⟩;have hXs:X.heap.size=wr.heap.size:=by rw[hX];simp
   have hB:af X (X.alloc (.cells #[.string rs[k].name,.slice rs[k].ad rs[k].rows.length rs[k].cap] 105)):=(VD _ _).alloc (VC _) _;rw[<-hX];refine⟨aI hB (by omega) (by rw[hX,xG (by omega)];exact c0),aI hB (by omega) (by rw[hX,XJ.out];push_cast;exact zk c1),?_,by simp;omega⟩;rw[hB.frozen (p:=⟨w.heap.size+1,0,none⟩) (by simp;omega),hX];simpa using c2
  clear hr hcn HC;go_wp2;go_roundw;case rel=>exact⟨k+1,by omega,by go_num,HB1,XL⟩
  simp[intOf]<;>omega
 obtain rfl:k=rs.length:=by omega
 have hEN:dm rs rs.length=av (ag rs):=by unfold dm;rw[VP]
 rw[hEN]at c1 hu;obtain⟨N,hN⟩:∃N,N=(av (ag rs)).length:=⟨_,rfl⟩;rw[<-hN]at c1 hu;have Y9:Hid (N=(av (ag rs)).length):=hN;have HEN:Hid (dm rs rs.length=av (ag rs)):=hEN;have hN36:N<=36:=by omega
 have hbl:=HBL.out;have hwr:w.heap.size<=wr.heap.size:=HB.out.size;obtain⟨W0,hW0⟩:∃W0,W0=(((wr.alloc (.map #[] 0)).alloc (.cells #[.map (some wr.heap.size)] 141)).alloc (.cells #[(.func (Fn.func 175) #[] #[.pointer (some ⟨wr.heap.size+1,0,none⟩),.pointer (some ⟨w.heap.size+1,0,none⟩),.pointer (some ⟨w.heap.size,0,none⟩),.pointer (some ⟨wr.heap.size+1+1,0,none⟩)])] 274)):=⟨_,rfl⟩;have hal:af wr W0:=by
  rw[hW0]
  repeat(first|exact VD _ _|refine Below.alloc ?_ (by first|(simp;done)|(simp;omega)) _)
 have hs0:W0.heap.size=wr.heap.size+3:=by rw[hW0];simp
 have HRW:Hid (Rw W0 (wr.heap.size+1) (w.heap.size+1) w.heap.size (wr.heap.size+1+1) wr.heap.size bL N 0 nL ML E (fun _=>none)):=by
  have hGr:Grp wr bL nL ML E:=HG.out.below HB.out;have hMV:aN dO prog 151 W0 wr.heap.size 0 (iZ (fun _=>none)):=by
   have h1:=nQ dO prog 151 wr;have e1:iZ (fun _=>none)=fun _=>none:=by funext k;rfl
   rw[e1];refine h1.below ?_;rw[hW0]
   repeat(first|exact VD _ _|refine Below.alloc ?_ (by first|(simp;done)|(simp;omega)) _)
  have hcS:W0.cell? ⟨wr.heap.size+1,0,none⟩=some (.map (some wr.heap.size)):=by
   rw[hW0];exact aI ((VD _ _).alloc (VC _) _) (by simp) (NJ wr _ _ _ 0 rfl)
  have hcR:W0.cell? ⟨wr.heap.size+1+1,0,none⟩=some (EY (wr.heap.size+1) (w.heap.size+1) w.heap.size (wr.heap.size+1+1)):=by
   rw[hW0];exact Tv _ _ _ _ _ _ rfl
  exact⟨hcS,aI hal (by omega) c1,aI hal (by omega) c0,hcR,by omega,by omega,by omega,by omega,hMV,hGr.below hal,by omega,hGr.fresh (VC _)⟩
 have HB0:=kL HB hal;clear hu hEN hN hal HC;go_wp2_with fail;rw[<-hW0];clear hW0 c0 c1 c2 c3 HB;obtain⟨bS,hbS⟩:∃bS,bS=wr.heap.size:=⟨_,rfl⟩;obtain⟨gS,hgS⟩:∃gS,gS=wr.heap.size+1:=⟨_,rfl⟩;obtain⟨gR,hgR⟩:∃gR,gR=wr.heap.size+1+1:=⟨_,rfl⟩;obtain⟨gC,hgC⟩:∃gC,gC=w.heap.size+1:=⟨_,rfl⟩;obtain⟨gL,hgL⟩:∃gL,gL=w.heap.size:=⟨_,rfl⟩;have hb1:w.heap.size<=bS:=by omega
 have HRW2:Hid (Rw W0 gS gC gL gR bS bL N 0 nL ML E (fun _=>none)):=by rw[hbS,hgS,hgR,hgC,hgL];exact HRW
 have HI0:Hid (∃(σ:Ky->Option Int) (n:Nat),Rw W0 gS gC gL gR bS bL N n nL ML E σ/\Rz (ag rs) N σ/\(n:Int)+oH N σ (av (ag rs))<=2000/\Raised E (fun _=>none) σ/\∀key∈dm rs 0,∃x,σ key=some x):=by
  refine⟨fun _=>none,0,HRW2.out,⟨fun k x h=>by cases h⟩,?_,Raised.refl _ _,fun k hk=>by simp[dm,ag,av]at hk⟩;rw[Qc,<-Y9.out];have h1:(N:Int)*N<=36*36:=Int.mul_le_mul (by omega) (by omega) (by omega) (by omega)
  push_cast;omega
 rw[<-hgR,<-hgS,<-hbS,<-hgC,<-hgL];clear HRW HRW2 hs0 hmm hgR hgS hbS hgC hgL;go_loopw[31] (fun i w2=>∃k:Nat,k<=rs.length/\i=.int .i64 k/\Hid (af w w2)/\Hid (∃(σ:Ky->Option Int) (n:Nat),Rw w2 gS gC gL gR bS bL N n nL ML E σ/\Rz (ag rs) N σ/\(n:Int)+oH N σ (av (ag rs))<=2000/\Raised E (fun _=>none) σ/\∀key∈dm rs k,∃x,σ key=some x)) (fun i _=>rs.length-(intOf i).toNat);case atStart=>exact⟨0,VG _,rfl,HB0,HI0⟩
 clear HB0 HI0;obtain⟨k,hk,rfl,HB,HI⟩:=hrel;by_cases hlt:k<rs.length
 ·rcases HS.out.below HB.out with rfl|⟨b,off,rfl,hb,hr,-⟩
  ·simp at hlt
  obtain⟨t0,t1⟩:=hr k hlt;have hk1:=bq k;have hk2:(k:Int)<(rs.length:Int):=by omega
  have h6:=HRL.out _ (Vz hlt);obtain⟨W1,hW1⟩:∃W1,W1=wr.alloc (.cells #[.string rs[k].name,.slice rs[k].ad rs[k].rows.length rs[k].cap] 105):=⟨_,rfl⟩;have hal:af wr W1:=by rw[hW1];exact(VD _ _).alloc (VC _) _
  obtain⟨g12,Zn⟩:∃g12,g12=wr.heap.size:=⟨_,rfl⟩;have hbw:bS<wr.heap.size:=by obtain⟨σ,n,hR,-⟩:=HI.out;exact hR.map.lt
  have HC12:Hid (W1.cell? ⟨g12,0,none⟩=some (.string rs[k].name)/\g12<W1.heap.size/\g12≠bS):=⟨by rw[hW1,Zn];simp,by rw[hW1,Zn];simp,by omega⟩;have HB1:=kL HB hal;have HI1:Hid (∃(σ:Ky->Option Int) (n:Nat),Rw W1 gS gC gL gR bS bL N n nL ML E σ/\Rz (ag rs) N σ/\(n:Int)+oH N σ (av (ag rs))<=2000/\Raised E (fun _=>none) σ/\∀key∈dm rs k,∃x,σ key=some x):=by
   obtain⟨σ,n,hR,h2⟩:=HI.out;exact⟨σ,n,hR.below hal,h2⟩
  clear hr hal HI HB;go_wp2_with fail;rw[<-hW1,<-Zn];clear hW1 t0 t1 Zn;go_loopw[38] (fun i w3=>∃j:Nat,j<=rs[k].rows.length/\i=.int .i64 j/\Hid (af w w3)/\Hid (w3.cell? ⟨g12,0,none⟩=some (.string rs[k].name)/\g12<w3.heap.size/\g12≠bS)/\Hid (∃(σ:Ky->Option Int) (n:Nat),Rw w3 gS gC gL gR bS bL N n nL ML E σ/\Rz (ag rs) N σ/\(n:Int)+oH N σ (av (ag rs))<=2000/\Raised E (fun _=>none) σ/\∀key∈dm rs k++iW rs[k] j,∃x,σ key=some x)) (fun i _=>rs[k].rows.length-(intOf i).toNat);case atStart=>exact⟨0,VG _,rfl,HB1,HC12,by simpa[iW] using HI1⟩
  clear HB1 HC12 HI1;obtain⟨j,hj,rfl,HB,HC,HI⟩:=hrel;by_cases hjl:j<rs[k].rows.length
  ·rcases HS.out.below HB.out with hnil|⟨b',off',he,hb2,hr,hok⟩
   ·rw[hnil]at hlt;simp at hlt
   injection he with he;injection he with he1 he2;subst he1;subst he2;have ok:=hok rs[k] (Vz hlt);rcases ok with hnil|⟨b2,Xr,had,hbb,hr2,-⟩
   ·rw[hnil]at hjl;simp at hjl
   obtain⟨q0,q1⟩:=hr2 j hjl;have hj1:=bq j;have hj2:(j:Int)<(rs[k].rows.length:Int):=by omega
   obtain⟨σ,n,hR,hZ,hn,hRa,hall⟩:=HI.out;obtain⟨x0,x1,x2⟩:=HC.out;have cR:=hR.cR;unfold EY at cR;have lR:=hR.lR.1;obtain⟨W3,hW3⟩:∃W3,W3=wr.alloc (.cells #[.string rs[k].rows[j].name,.slice rs[k].rows[j].ad rs[k].rows[j].rows.length rs[k].rows[j].cap] 149):=⟨_,rfl⟩;have hal:af wr W3:=by rw[hW3];exact(VD _ _).alloc (VC _) _
   have HR3:=aC (hR.below hal);have HZ3:=aC hZ;have HB3:=kL HB hal;have HC3:Hid (W3.cell? ⟨g12,0,none⟩=some (.string rs[k].name)/\g12<W3.heap.size/\g12≠bS):=⟨aI hal x1 x0,Vy x1 hal.size,x2⟩;have Zx:Hid (Raised E (fun _=>none) σ):=hRa;have Xl:Hid (∀key∈dm rs k++iW rs[k] j,∃x,σ key=some x):=hall;have hmp:=hZ.mu_pos (av (ag rs));have HKM:Hid ((rs[k].name,rs[k].rows[j].name)∈av (ag rs)):=qN.2 ⟨rs[k].p,Wd (Vz hlt),rs[k].rows[j].p,Wd (Vz hjl),rfl⟩;rw[had];clear hr hok hr2 hal hR hZ hRa hall HI HB HC;go_wp2_with fail;rw[<-hW3];clear hW3 q0 q1 cR x0;refine(MU (ag rs) gS gC gL gR bS bL N nL ML E HE.out HF.out Y9.out hN36 (MV Xd.out) hEl (oH N σ (av (ag rs))).toNat _ σ n (rs[k].name,rs[k].rows[j].name) 0 HR3.out HZ3.out (by omega) (by omega) HKM.out (by omega) (by omega) (qK.zero _ _)).mono ?_;rintro e w5 ⟨ok,σ5,n5,rfl,hg5,Xo,hZ5,hn5,Zu,hf5,ht5⟩;have Yd:Hid (af w w5):=HB3.out.grown hg5 HB3.out.size (fun i hi=>by injection hi with hi;omega);cases ok;case false=>
    have HP:Hid (Qb (ag rs) w (.returned (.tuple #[.map none,.bool false])) w5):=⟨.inr ⟨rfl,hf5 rfl⟩,Yd.out⟩;clear hg5 Xo hZ5 hn5 Zu hf5 ht5;go_wp2;refine bodyPost_ret (v:=.tuple #[.map none,.bool false]) ?_ rfl HP.out;simp[results,Tryz.results126,go_sem]
   have HI5:Hid (∃(σ:Ky->Option Int) (n:Nat),Rw w5 gS gC gL gR bS bL N n nL ML E σ/\Rz (ag rs) N σ/\(n:Int)+oH N σ (av (ag rs))<=2000/\Raised E (fun _=>none) σ/\∀key∈dm rs k++iW rs[k] (j+1),∃x,σ key=some x):=by
    obtain⟨hRa,y,hy,-⟩:=ht5 rfl;refine⟨σ5,n5,Xo,hZ5,by omega,Zx.out.trans hRa,fun key hk=>?_⟩;rw[uj _ _ hjl,<-V8]at hk;rcases VL.1 hk with hk|hk
    ·obtain⟨x,hx⟩:=Xl.out key hk;obtain⟨z,hz,-⟩:=hRa.mono key x hx;exact⟨z,hz⟩
    simp at hk;subst hk;exact⟨y,hy⟩
   have HC5:Hid (w5.cell? ⟨g12,0,none⟩=some (.string rs[k].name)/\g12<w5.heap.size/\g12≠bS):=⟨(kI hg5 HC3.out.2 0).trans HC3.out.1,Vy HC3.out.2.1 hg5.size,HC3.out.2.2⟩;clear hg5 Xo hZ5 hn5 Zu hf5 ht5;go_wp2;go_roundw;case rel=>exact⟨j+1,by omega,by go_num,Yd,HC5,HI5⟩
   simp[intOf]<;>omega
  obtain rfl:j=rs[k].rows.length:=by omega
  have HI5:Hid (∃(σ:Ky->Option Int) (n:Nat),Rw wr gS gC gL gR bS bL N n nL ML E σ/\Rz (ag rs) N σ/\(n:Int)+oH N σ (av (ag rs))<=2000/\Raised E (fun _=>none) σ/\∀key∈dm rs (k+1),∃x,σ key=some x):=by rw[pu _ _ hlt];exact HI
  clear HI;go_wp2;go_roundw;case rel=>exact⟨k+1,by omega,by go_num,HB,HI5⟩
  simp[intOf]<;>omega
 obtain rfl:k=rs.length:=by omega
 obtain⟨σ,n,hR,hZ,hn,hRa,hall⟩:=HI.out;have cS:=hR.cS;have HP:Hid (Qb (ag rs) w (.returned (.tuple #[.map (some bS),.bool true])) wr):=by
  rw[HEN.out]at hall;refine⟨.inl ⟨bS,n,σ,rfl,hR.map,EX HE.out HF.out hZ hall (fun k=>hRa.done k (.inl (fun x h=>by cases h))),fun k=>⟨fun⟨x,hx⟩=>(hZ.there k x hx).1,hall k⟩⟩,HB.out⟩
 clear hR hZ hn hRa hall HI;go_wp2;refine bodyPost_ret (v:=.tuple #[.map (some bS),.bool true]) ?_ rfl HP.out;simp[results,Tryz.results126,go_sem]
theorem MW(ng:Bool)(xs:Q0a):dh ng xs=(dD xs).map fun a=>(⟨a.t,a.s,ng⟩:Dp):=by
 induction xs with
 | nil=>rfl
 | cons a xs ih=>simp only[dh,dD];split<;>simp[ih]
theorem DD(ts:Q0b)(typ:bW)(ng:Bool)(e:Ex)(hn:az e=true)(hd:e.kind=3->bH (aK ts typ e.over)=true):dh ng e.allow++og ts typ ng e=(jh ts typ e).map fun a=>(⟨a.t,a.s,ng⟩:Dp):=by
 by_cases h1:e.kind=1
 ·unfold og jh;rw[if_neg (by omega),if_neg (by omega),if_pos h1,Ww,MW]
 rw[uy hn h1];unfold og jh;rw[if_neg h1];by_cases h2:e.kind=2
 ·rw[if_pos h2,if_pos h2];rfl
 rw[if_neg h2,if_neg h2];by_cases h3:e.kind=3
 ·rw[if_pos h3,if_pos h3];unfold gp;rw[if_pos (hd h3),List.map_map];rfl
 rw[if_neg h3,if_neg h3];rfl
theorem DF{ts:Q0b}{typ:ByteArray}{es:Q09}{d:Dp}{i:Nat}(hd:d∈kS ts typ es i):∀{k:Nat},i<k->d∈aR ts typ es k
 | 0,h=>by omega
 | k+1,h=>by
  simp only[aR];by_cases e:i=k
  ·subst e;exact VL.2 (.inr hd)
  exact VL.2 (.inl (DF hd (by omega)))
theorem Bo{ts:Q0b}{t r:ByteArray}{es:Q09}{x:Ky×St}:∀{k:Nat},x∈relE ts t r es k ↔ ∃i,i<k/\∃e,es[i]?=some e/\x∈Bn ts t r ((fC es).getD i false) e
 | 0=>by simp[relE]
 | k+1=>by
  simp only[relE,VL];rw[Bo];constructor
  ·rintro(⟨i,hi,h⟩|h)
   ·exact⟨i,by omega,h⟩
   cases e:es[k]? with
   | none=>rw[e]at h;cases h
   | some y=>rw[e]at h;exact⟨k,by omega,y,e,h⟩
  rintro⟨i,hi,e,he,h⟩;by_cases ek:i=k
  ·subst ek;right;rw[he];exact h
  exact .inl ⟨i,by omega,e,he,h⟩
theorem pM{rs:Q06}(h:bQ (ag rs)=true){t:TR}(ht:t∈rs){q:RR}(hq:q∈t.rows):gm (ag rs) t.name q.name=some (aj q.rows):=by
 have hT:=uq h;have hs:=sS (M:=fun _=>none) (rs:=rs) (k:=(t.name,q.name)) (.inr ⟨t,ht,q,hq,rfl⟩);obtain⟨v,hv⟩:=Option.isSome_iff_exists.1 hs;obtain⟨t',ht',q',hq',e,-,e2,-⟩:=hT.yes _ v hv;injection e with e3 e4;have h1:t=t':=Gv h ht ht' e3;subst h1;obtain⟨i,hi,rfl⟩:=Wm.1 ht;have h2:q=q':=Gw (lK h i hi).2.2 hq hq' e4;subst h2;exact e2
theorem jm{es:Q09}(h:aP es=true):∀e∈es,az e=true:=by
 simp only[aP,VF]at h;exact VN.1 h.1.1.1.2
theorem GZ(t r:bW)(ng:Bool):stepOf ⟨t,r,ng⟩=Dx ng:=by cases ng<;>rfl
theorem RP{rs:Q06}(h:bQ (ag rs)=true)(hr:j5 (ag rs)=true):Edge (ag rs) (jk (ag rs) rs):=by
 have WU:∀t∈rs,∀q∈t.rows,∀e∈aj q.rows,az e=true/\(e.kind=3->bH (aK (ag rs) t.name e.over)=true):=by
  intro t ht q hq e he;have h1:=((bu h).2.2 t ht q hq).1;refine⟨jm h1 e he,fun h3=>?_⟩;unfold j5 at hr;rw[VN]at hr;have h2:=hr t.p (Wd ht);unfold qM at h2;rw[VN]at h2;have h4:aU (ag rs) t.name (aj q.rows)=true:=h2 q.p (Wd hq);have h5:=(CR h4 e he).2;unfold nJ at h5;rw[if_neg (by omega),if_pos h3,VF]at h5;exact h5.1
 intro on t0 r0 s;constructor
 ·intro hm;unfold jk ji at hm;rw[VZ]at hm;obtain⟨t,ht,hm⟩:=hm;rw[VZ]at hm;obtain⟨q,hq,hm⟩:=hm;obtain⟨i,hi,e,he,hm⟩:=Bo.1 hm;unfold Bn at hm;obtain⟨a,ha,e1⟩:=VQ.1 hm;injection e1 with e2 e3;injection e3 with e4 e5 e6;subst e4;subst e5;refine⟨qN.2 ⟨t.p,Wd ht,q.p,Wd hq,rfl⟩,⟨a.t,a.s,(fC (aj q.rows)).getD i false⟩,?_,e2,by rw[GZ];exact e6⟩;unfold il qH;have ero:aK (ag rs) t.name q.name=aj q.rows:=by unfold aK;rw[pM h ht hq];rfl
  simp only[ero];have hi2:i<(aj q.rows).length:=(List.getElem?_eq_some_iff.1 he).1;refine DF (i:=i) ?_ hi2;unfold kS;rw[he];obtain⟨n1,n2⟩:=WU t ht q hq e (WL he);simp only;rw[DD _ _ _ _ n1 n2];exact Wd (f:=fun a:Al=>(⟨a.t,a.s,(fC (aj q.rows)).getD i false⟩:Dp)) ha
 rintro⟨hk,d,hd,e1,e2⟩;obtain⟨t',ht',r',hr',e3⟩:=qN.1 hk;obtain⟨t,ht,rfl⟩:=VQ.1 ht';obtain⟨q,hq,rfl⟩:=VQ.1 hr';injection e3 with e4 e5;subst e4;subst e5;unfold il qH at hd;have ero:aK (ag rs) t.p.name q.p.name=aj q.rows:=by
  have:=pM h ht hq;show aK (ag rs) t.name q.name=_;unfold aK;rw[this];rfl
 simp only[ero]at hd;obtain⟨i,hi,hd⟩:=ui hd;unfold kS at hd;split at hd
 ·cases hd
 rename_i e he;obtain⟨n1,n2⟩:=WU t ht q hq e (WL he);have hdn:dh ((fC (aj q.rows)).getD i false) e.allow++og (ag rs) t.p.name ((fC (aj q.rows)).getD i false) e=_:=DD (ag rs) t.name _ e n1 n2;rw[hdn]at hd;obtain⟨a,ha,rfl⟩:=VQ.1 hd;unfold jk ji;rw[VZ];refine⟨t,ht,?_⟩;rw[VZ];refine⟨q,hq,Bo.2 ⟨i,by rw[aZ]at hi;exact hi,e,he,?_⟩⟩;unfold Bn;rw[VQ];refine⟨a,ha,?_⟩;rw[<-e1,<-e2,GZ];rfl
theorem Qd{rs:Q06}(h:bQ (ag rs)=true):∀r∈rs,∀q∈r.rows,∀e∈q.rows,e.e.allow.length<=6:=by
 intro r hr q hq e he;have h1:=jm ((bu h).2.2 r hr q hq).1 e.e (by unfold aj;exact Wd he);by_cases h2:e.e.kind=1
 ·unfold az at h1;rw[if_pos h2]at h1;simp only[VF,dW,VM]at h1;exact h1.1.1.1.1.2
 rw[uy h1 h2];simp
theorem rf{α β:Type}(f:α->List β)(B:Nat):∀(xs:List α),(∀x∈xs,(f x).length<=B)->(xs.flatMap f).length<=xs.length*B
 | [],_=>by simp
 | x::xs,h=>by
  rw[Wi,VI,We,Nat.succ_mul];have h1:=h x (by simp);have h2:=rf f B xs fun q hq=>h q (by simp[hq]);omega
theorem MX(rs:Q06)(h6:∀r∈rs,r.rows.length<=6)(hex:∀r∈rs,∀q∈r.rows,aP (aj q.rows)=true/\q.rows.length<=15/\∀e∈q.rows,eB q.rows.length e.e.kids)(h66:∀r∈rs,∀q∈r.rows,∀e∈q.rows,e.e.allow.length<=6)(hl:rs.length<=6:=by omega):(jk (ag rs) rs).length<=100000:=by
 have h1:∀t∈rs,(ji (ag rs) t.name t.rows).length<=540:=by
  intro t ht;have h2:∀q∈t.rows,(relE (ag rs) t.name q.name (aj q.rows) q.rows.length).length<=90:=by
   intro q hq;have h3:∀k,k<=q.rows.length->(relE (ag rs) t.name q.name (aj q.rows) k).length<=k*6:=by
    intro k
    induction k with
    | zero=>intro _;simp[relE]
    | succ k ih =>
     intro hk;rw[Dy _ _ _ _ _ (by omega) _ rfl,VI];have h4:=ih (by omega);have h5:(Bn (ag rs) t.name q.name ((fC (aj q.rows)).getD k false) q.rows[k].e).length<=6:=by
      unfold Bn;rw[WC];exact Dz rs h66 _ _ (h66 t ht q hq _ (Vz (by omega)))
     omega
   have h4:=h3 q.rows.length (VC _);have h5:=(hex t ht q hq).2.1;omega
  have h3:=rf (fun q:RR=>relE (ag rs) t.name q.name (aj q.rows) q.rows.length) 90 t.rows h2;have h4:=h6 t ht;unfold ji;omega
 have h2:=rf (fun t:TR=>ji (ag rs) t.name t.rows) 540 rs h1;unfold jk;omega
set_option linter.unusedVariables false
def RQ(r:RR):List Value:=[.string r.name,r.sl]
abbrev EZ (w:World)(br nr:Nat)(Mr:KL->Option Value)(Er:List (KL×RR)):Prop:=G.Grp FM prog 153 149 2 RQ w br nr Mr Er
theorem G5{w:ae}{br nr:Nat}{Mr:KL->Option Value}{Er:List (KL×RR)}(h:EZ w br nr Mr Er){k:KL}{v:Value}(hk:Mr k=some v):∃n xs,w.ownsRow (br+1) 149 2 v n xs:=by
 rcases h.row k with⟨e,-⟩|⟨v',e,ho⟩
 ·rw[e]at hk;cases hk
 rw[e]at hk;injection hk with hk;subst hk;exact⟨_,_,ho⟩
theorem su{w:ae}{br nr g:Nat}{Mr:KL->Option Value}{Er:List (KL×RR)}{e:TypeId}{cur:Array Value}(h:EZ w br nr Mr Er)(hc:w.heap[g]?=some (.cells cur e (0,0)))(hne:(149:TypeId)≠e):G.FreeB Mr g:=fun k v hk hg=>by
 obtain⟨n,xs,ho⟩:=G5 h hk;exact hne (d9 ho hg hc)
theorem G6{w:ae}{br nr g:Nat}{Mr:KL->Option Value}{Er:List (KL×RR)}{es:Array MapEntry}{c:Nat}(h:EZ w br nr Mr Er)(hc:w.heap[g]?=some (.map es c)):G.FreeB Mr g:=fun k v hk hg=>by
 obtain⟨n,xs,ho⟩:=G5 h hk;exact Eu ho hg hc
theorem pO{K:Type}{enc:K->Value}{P:Program}{kt:TypeId}{w:ae}{b n:Nat}{M:K->Option Value}(h:aN enc P kt w b n M):∃es c,w.heap[b]?=some (.map es c):=by
 obtain⟨D,⟨es,c,hb,-⟩,-⟩:=h;exact⟨es,c,hb⟩
structure DatA(w:World)(rs:Q06)(D br bp bt:Nat)(n1:Int)(nr:Nat)(Mr:KL->Option Value)(Er:List (KL×RR))(E:List (K3×Tp))(xo xu:Q0a)(np:Nat)(Mp:K3->Option Value)(vo vu:Value):Prop where
 dat:DatT w D br bp (.map (some bt)) n1 E xo xu np Mp vo vu
 tab:aN dO prog 151 w bt 36 (qg rs)
 rel:EZ w br nr Mr Er
 ord:bt<br/\br<bp
section
variable  {w w':World}{rs:Q06}{D br bp bt:Nat}{n1:Int}{nr:Nat}{Mr:KL->Option Value}{Er:List (KL×RR)}{E:List (K3×Tp)}{xo xu:Q0a}{np:Nat}{Mp:K3->Option Value}{vo vu:Value}
theorem DatA.below(h:DatA w rs D br bp bt n1 nr Mr Er E xo xu np Mp vo vu)(hb:af w w'):DatA w' rs D br bp bt n1 nr Mr Er E xo xu np Mp vo vu:=⟨h.dat.below hb,h.tab.below hb,h.rel.below hb,h.ord⟩
theorem DatA.tell(h:DatA w rs D br bp bt n1 0 (fun _=>none) [] E xo xu np Mp vo vu){E':List (K3×Tp)}{xo' xu':Q0a}{np':Nat}{Mp':K3->Option Value}{ZL ZM:Value}(hd:DatT w' D br bp (.map (some bt)) n1 E' xo' xu' np' Mp' ZL ZM)(hb:Below bp w w'):DatA w' rs D br bp bt n1 0 (fun _=>none) [] E' xo' xu' np' Mp' ZL ZM:=by
 obtain⟨h1,h2⟩:=h.ord;exact⟨hd,h.tab.of_block (hb.block bt (by omega)),⟨h.rel.map.of_block (hb.block br (by omega)),fun k=>.inl ⟨rfl,rfl⟩,fun k k' v v' _ e=>by cases e⟩,h.ord⟩
theorem DatA.list(h:DatA w rs D br bp bt n1 nr Mr Er E xo xu np Mp vo vu){nr':Nat}{Mr':KL->Option Value}{Er':List (KL×RR)}(hg:EZ w' br nr' Mr' Er')(hs:G.Stl w Mr w' Mr' br):DatA w' rs D br bp bt n1 nr' Mr' Er' E xo xu np Mp vo vu:=by
 obtain⟨h1,h2⟩:=h.ord;have hgt:=h.dat.gt;have hlt:=h.dat.lt;obtain⟨cur,hk⟩:=h.dat.kind;have hD:w'.heap[D]?=w.heap[D]?:=hs.block D hlt (by omega) (su h.rel hk (by decide));have hc:∀o,w'.cell? ⟨D,o,none⟩=w.cell? ⟨D,o,none⟩:=fun o=>VR (w:=w) (a:=⟨D,o,none⟩) hD;have hO:∀{v:Value} {n:Nat} {xs:Q03},w.ownsRow (bp+1) 27 2 v n xs->w'.ownsRow (bp+1) 27 2 v n xs:=fun {v n xs} ho=>dG ho fun g hg=>by
  obtain⟨cr,e⟩:=jF ho hg;have:=ho.lt g hg;exact hs.block g this.2 (by omega) (su h.rel e (by decide))
 obtain⟨es,c,eb⟩:=pO h.dat.told.map;obtain⟨es2,c2,eb2⟩:=pO h.tab;refine⟨⟨hgt,Vy hlt hs.size,⟨cur,hD.trans hk⟩,(hc _).trans h.dat.c0,(hc _).trans h.dat.c1,(hc _).trans h.dat.c2,(hc _).trans h.dat.c3,(hc _).trans h.dat.c4,(hc _).trans h.dat.c5,vk h.dat.told ?_ ?_,hO h.dat.objs,hO h.dat.users,h.dat.apart⟩,h.tab.of_block ?_,hg,h.ord⟩
 ·exact hs.block bp (by omega) (by omega) (G6 h.rel eb)
 ·intro k v g hm hg2;obtain⟨n,xs,ho⟩:=vg h.dat.told hm;obtain⟨cr,e⟩:=jF ho hg2;have:=ho.lt g hg2;exact hs.block g this.2 (by omega) (su h.rel e (by decide))
 exact hs.block bt (by omega) (by omega) (G6 h.rel eb2)
theorem DatA.count(h:DatA w rs D br bp bt n1 nr Mr Er E xo xu np Mp vo vu)(n2:Int):DatA (w.setCell ⟨D,1,none⟩ (.int .i64 n2)) rs D br bp bt n2 nr Mr Er E xo xu np Mp vo vu:=by
 obtain⟨h1,h2⟩:=h.ord;have hgt:=h.dat.gt;obtain⟨cur,hk⟩:=h.dat.kind;have hne:∀g,g≠D->(w.setCell ⟨D,1,none⟩ (.int .i64 n2)).heap[g]?=w.heap[g]?:=fun g e=>heap_setCell_other w ⟨D,1,none⟩ g _ e;have hc2:∀o,o≠1->(w.setCell ⟨D,1,none⟩ (.int .i64 n2)).cell? ⟨D,o,none⟩=w.cell? ⟨D,o,none⟩:=fun o ne=>kU (by omega);have hO:∀{v:Value} {n:Nat} {xs:Q03},w.ownsRow (bp+1) 27 2 v n xs->(w.setCell ⟨D,1,none⟩ (.int .i64 n2)).ownsRow (bp+1) 27 2 v n xs:=fun {v n xs} ho=>dG ho fun g hg=>hne g fun e=>absurd (d9 ho (e ▸ hg) hk) (by decide);refine⟨⟨hgt,by simpa using h.dat.lt,⟨_,heap_setCell_same w D 1 cur _ _ hk⟩,(hc2 0 (by omega)).trans h.dat.c0,LF h.dat.c1,(hc2 2 (by omega)).trans h.dat.c2,(hc2 3 (by omega)).trans h.dat.c3,(hc2 4 (by omega)).trans h.dat.c4,(hc2 5 (by omega)).trans h.dat.c5,vk h.dat.told (hne bp (by omega)) ?_,hO h.dat.objs,hO h.dat.users,h.dat.apart⟩,h.tab.of_block (hne bt (by omega)),⟨h.rel.map.of_block (hne br (by omega)),fun k=>?_,h.rel.apart⟩,h.ord⟩
 ·intro k v g hm hg2;obtain⟨n,xs,ho⟩:=vg h.dat.told hm;exact hne g fun e=>absurd (d9 ho (e ▸ hg2) hk) (by decide)
 rcases h.rel.row k with e|⟨v,e,ho⟩
 ·exact .inl e
 exact .inr ⟨v,e,dG ho fun g hg=>hne g fun e2=>absurd (d9 ho (e2 ▸ hg) hk) (by decide)⟩
end
set_option maxRecDepth 100000
structure Zi(rows:Q08):Prop where
 len:rows.length<=1000
 kids:∀q∈rows,q.e.kids.length<=1000
 low:KP (aj rows)
 two:∀e∈aj rows,e.kind=6->2<=e.kids.length
theorem Zi.kid{rows:Q08}(h:Zi rows){n:Nat}(hn:n<rows.length){i:Int}(hi:i∈rows[n].e.kids):0<=i/\i<(n:Int):=by
 have:=h.low n (by rw[aZ];exact hn) i;have e:(aj rows)[n]'(by rw[aZ];exact hn)=rows[n].e:=by simp[aj]
 rw[e]at this;exact this hi
theorem yu(v0:Value)(YE:Q02)(Yg:Nat)(ts:Q05)(WW:Q02)(capE:Nat)(rows:Q08)(YF:Q02)(Yh:Nat)(truth:Q04)(f:Fc)(htl:ts.length<=1048576)(hN:Zi rows)(htr:truth.length<=1048576):
  ∀(k n:Nat) (adK:Q02) (capK:Nat) (known:Q04) (w:World),n<k->n<rows.length->known.length<=1048576->HW w YE ts WW rows adK known YF truth ->
  Calls prog 119 #[v0,.slice YE ts.length Yg,.slice WW rows.length capE,.int .i64 (n:Int),.slice adK known.length capK,.slice YF truth.length Yh,.agg #[.string f.a,.string f.b,.string f.r,.string f.c,.string f.d]] w fun e w'=>e=.returned (.bool (jG ts (aj rows) truth f k known n))/\af w w'
 | 0,_,_,_,_,_,h,_,_,_=>absurd h (WJ _)
 | k+1,n,adK,capK,known,w,hk,hn,hkn,hW=>by
  have e:(aj rows)[n]?=some rows[n].e:=by simp[aj,hn]
  have YW:∀(adK':Q02) (capK':Nat) (known':Q04),known'.length<=1048576->HW w YE ts WW rows adK' known' YF truth->∀i∈rows[n].e.kids,PX v0 (.slice YE ts.length Yg) (.slice WW rows.length capE) (.slice adK' known'.length capK') (.slice YF truth.length Yh) f w i (jG ts (aj rows) truth f k known' i.toNat):=fun adK' capK' known' hl hW' i hi w1 hb1=>by
   have h1:=hN.kid hn hi;have h2:=yu v0 YE Yg ts WW capE rows YF Yh truth f htl hN htr k i.toNat adK' capK' known' w1 (by omega) (by omega) hl (hW'.below hb1);have e2:((i.toNat:Nat):Int)=i:=by omega
   rw[e2]at h2;exact h2
  unfold jG;rw[e];have hm:rows[n]∈rows:=Vz hn;have hme:rows[n].e∈aj rows:=VQ.2 ⟨_,hm,rfl⟩;by_cases k1:rows[n].e.kind=1
  ·simp only[if_pos k1];exact EN v0 YE Yg ts WW capE rows n adK capK known YF Yh truth f w hW hn hN.len hkn htl k1
  by_cases k2:rows[n].e.kind=2
  ·simp only[if_neg k1,if_pos k2];exact GN v0 YE Yg ts WW capE rows n adK capK known YF Yh truth f w hW hn hN.len hkn k2
  by_cases k3:rows[n].e.kind=3
  ·simp only[if_neg k1,if_neg k2,if_pos k3];exact EO v0 YE Yg ts WW capE rows n adK capK known YF Yh truth f w hW hn hN.len hkn htl k3
  by_cases k4:rows[n].e.kind=4
  ·simp only[if_neg k1,if_neg k2,if_neg k3,if_pos k4];exact Cb (fun i=>jG ts (aj rows) truth f k known i.toNat) v0 _ WW capE rows n _ _ f w hW.ex hn hN.len (hN.kids _ hm) k4 (YW adK capK known hkn hW)
  by_cases k5:rows[n].e.kind=5
  ·simp only[if_neg k1,if_neg k2,if_neg k3,if_neg k4,if_pos k5];exact EP (fun i=>jG ts (aj rows) truth f k known i.toNat) v0 _ WW capE rows n _ _ f w hW.ex hn hN.len (hN.kids _ hm) k5 (YW adK capK known hkn hW)
  by_cases k6:rows[n].e.kind=6
  ·simp only[if_neg k1,if_neg k2,if_neg k3,if_neg k4,if_neg k5,if_pos k6];have h2:=hN.two _ hme k6;have hg:∀q,q<2->rows[n].e.kids.getD q 0∈rows[n].e.kids:=fun q hq=>by
    rw[WF,VO (by omega)];exact Vz _
   exact GQ _ _ v0 _ WW capE rows n _ _ f w hW.ex hn hN.len (hN.kids _ hm) h2 k6 (YW adK capK known hkn hW _ (hg 0 (by omega))) (YW YF Yh truth htr ⟨hW.tup,hW.ex,hW.tr,hW.tr⟩ _ (hg 1 (by omega)))
  simp only[if_neg k1,if_neg k2,if_neg k3,if_neg k4,if_neg k5,if_neg k6];exact JL v0 YE Yg ts WW capE rows n _ _ f w hW.ex hn hN.len k1 k2 k3 k4 k5 k6
end Go.Proofs.YtcgdckphpjfmhaaGreatDoor
