/- Contract of the document's function that writes a schema's lines, right or not, where these are few bytes. -/
import Derived.Test.YtojjoblnpldniaaGreatSq
import Derived.Test.YtojjoblnpldniaaGreatJ13
import Derived.Deep.Cut
import Derived.Deep.CutRange
import Derived.Test.YtojjoblnpldniaaGreatJ15
open Go.Proofs.Tryz
set_option maxHeartbeats 80000000
set_option linter.defProp false
namespace Go.Proofs.YtojjoblnpldniaaGreat
open ChangeShapes WideShapes ChangeAt RowKit
open Pl
def Vw(o n e:ByteArray):(((o++n)++⟨#[32,61,32]⟩)++e)++⟨#[10]⟩=o++(((n++⟨#[32,61,32]⟩)++e)++⟨#[10]⟩):=by
 simp only[Xo]
def Sb(o n:ByteArray):((o++⟨#[116,121,112,101,32]⟩)++n)++⟨#[10]⟩=o++gZ n:=by
 unfold gZ;simp only[Xo]
structure Small3(rs:Q06):Prop where
 six:rs.length<=500
 rels:∀r∈rs,r.rows.length<=750
 name:∀r∈rs,r.name.size<=3000
 names:∀r∈rs,∀q∈r.rows,q.name.size<=3000
set_option maxRecDepth 100000 in
def GD(ad:Q02)(cap:Nat)(rs:Q06)(w:af)(hm:Small3 rs)(hs:jX w ad rs)(hl:∀r∈rs,r.light)(hf:∀r∈rs,r.fits):
  Calls prog 108 #[.slice ad rs.length cap] w (bj w<|.string<|bP<|ae rs):=by
 have HS:=aB hs;have HL:=aB hl;have Yc:=aB hf;have HM:=aB hm;have h6:=hm.six;clear hs hl hf hm;go_enter func108,ntmps108;go_wp2;go_loopw[3,4] (fun o i wr=>∃(k:Nat) (out:ByteArray),k<=rs.length/\o=.string out/\i=.int .i64 k/\O (out=bP (ae<|rs.take k))/\out.size<=k*5100000/\O (ag w wr)) (fun _ i _=>rs.length-(intOf i).toNat);case atStart=>exact⟨0,⟨#[]⟩,WO _,rfl,rfl,rfl,WO _,WL _ _⟩
 case round =>
  obtain⟨k,out,hk,rfl,rfl,HP,hz,HB⟩:=hrel;obtain⟨wo,rfl⟩:∃x,x=wr:=⟨_,rfl⟩;by_cases hlt:k<rs.length
  ·rcases HS.out.below HB.out with rfl|⟨b,off,rfl,hb,hr,hok⟩
   ·simp at hlt
   obtain⟨t0,t1⟩:=hr k hlt;have Yn:O (rs[k].ok wo):=hok rs[k]<|WH hlt;have hn12:=HM.name rs[k]<|WH hlt;have YN:=HM.rels rs[k]<|WH hlt;have HN12:O (∀q∈rs[k].rows,q.name.size<=3000):=HM.names rs[k]<|WH hlt;have Z6:O (rs[k].light):=HL _<|WH hlt;have ZN:O (rs[k].fits):=Yc _<|WH hlt;have hk1:=bY k;have hk2:(k:Int)<(rs.length:Int):=cq;have hrl:(rs[k].rows.length:Int)<=750:=cq;clear hr hok;go_wp2;go_loopw[3,5] (fun o i wr=>∃(j:Nat) (o2:ByteArray),j<=rs[k].rows.length/\o=.string o2/\i=.int .i64 j/\O (o2=(out++gZ rs[k].name)++di (df<|rs[k].rows.take j))/\o2.size<=k*5100000+3010+j*6760/\O (ag wo wr)) (fun _ i _=>rs[k].rows.length-(intOf i).toNat);case atStart=>exact⟨0,_,WO _,rfl,rfl,by show _=_;rw[Sb,List.take_zero,show df []=[] from rfl];simp only[di,qG],by rw[Sb,WY,lG];omega,WL _ _⟩
   case round =>
    obtain⟨j,o2,hj,rfl,rfl,HI,hz2,HB2⟩:=hrel;replace t0:=aD HB2 hb t0;replace t1:=aD HB2 hb t1;have hbw:cU b wr:=WJ hb HB2.size;by_cases hjl:j<rs[k].rows.length
    ·rcases Yn.out.below HB2.out with hnil|⟨b2,X7,had,hb2,hr2,hok2⟩
     ·rw[hnil]at hjl;simp at hjl
     rw[had]at t1;obtain⟨u0,u1⟩:=hr2 j hjl;have HOQ:O (rs[k].rows[j].ok wr):=hok2 rs[k].rows[j]<|WH hjl;have hj1:=bY j;have hj2:(j:Int)<(rs[k].rows.length:Int):=cq;have hq12:=HN12 _<|WH hjl;have HQL:O (rs[k].rows[j].light):=Z6.2 _<|WH hjl;have HQF:O (rs[k].rows[j].fits):=ZN.2.2 _<|WH hjl;obtain⟨ex,hex⟩:=eQx<|dS<|ai rs[k].rows[j].rows;have ZH:O (ex=dS (ai rs[k].rows[j].rows)):=hex;have hxs:ex.size<=3750:=by rw[hex];exact qF _
     have q1:(9223372036854775807<o2.size+rs[k].rows[j].name.size)=False:=by simp;omega
     have q2:(9223372036854775807<o2.size+rs[k].rows[j].name.size+3)=False:=by simp;omega
     have q3:(9223372036854775807<o2.size+rs[k].rows[j].name.size+3+ex.size)=False:=by simp;omega
     have q4:(9223372036854775807<o2.size+rs[k].rows[j].name.size+3+ex.size+1)=False:=by simp;omega
     have HI2:O ((((o2++rs[k].rows[j].name)++⟨#[32,61,32]⟩)++ex)++⟨#[10]⟩=(out++gZ rs[k].name)++di (df<|rs[k].rows.take<|j+1)):=by
      show _=_;rw[Vw,yH _ _ hjl,lF,HI,hex];simp only[Xo,Co]
     have hz3:((((o2++rs[k].rows[j].name)++⟨#[32,61,32]⟩)++ex)++⟨#[10]⟩:ByteArray).size<=k*5100000+3010+(j+1)*6760:=by
      have e1:(⟨#[32,61,32]⟩:ByteArray).size=3:=rfl;have e2:(⟨#[10]⟩:ByteArray).size=1:=rfl;simp only[WY];omega
     have HZ3:O (((((o2++rs[k].rows[j].name)++⟨#[32,61,32]⟩)++ex)++⟨#[10]⟩:ByteArray).size<=k*5100000+3010+(j+1)*6760):=hz3;clear hr2 hok2 had hex hz3;go_wp2_with fail;refine bC 24 _ _ (fun n v _=>v=(Value.string o2::.slice (some<|aq b off) rs.length cap::.int .i64 k::.pointer (some<|aq b<|off+k*2)::.pointer (some<|aq b<|off+k*2+1)::.slice (some<|aq b2 X7) rs[k].rows.length rs[k].cap::.int .i64 j::.pointer (some<|aq b2<|X7+j*2)::.pointer (some<|aq b2<|X7+j*2)::.string rs[k].rows[j].name::.string (o2++rs[k].rows[j].name)::.string ((o2++rs[k].rows[j].name)++⟨#[32,61,32]⟩)::.slice (some<|aq b off) rs.length cap::.int .i64 k::.pointer (some<|aq b<|off+k*2)::.pointer (some<|aq b<|off+k*2+1)::.slice (some<|aq b2 X7) rs[k].rows.length rs[k].cap::.int .i64 j::.pointer (some<|aq b2<|X7+j*2)::.pointer (some<|aq b2<|X7+j*2+1)::.slice rs[k].rows[j].ad rs[k].rows[j].rows.length rs[k].rows[j].cap::.string ex::.string (((o2++rs[k].rows[j].name)++⟨#[32,61,32]⟩)++ex)::.string ((((o2++rs[k].rows[j].name)++⟨#[32,61,32]⟩)++ex)++⟨#[10]⟩)::[]).getD n undef) (fun w'=>ag wr w') cw rfl cw cw (vQ [(31,[0,1,2,3,4,5,6,7,8,9,10,11,12,13,14,15,16,17,18,19,20,21,22,23])]) (WL _ _).drew ?stepS ?finS<;>dsimp only[uI];case stepS =>
      rintro i hi o ho fq w' hG hpre;have HG:O (ag wr w'):=hG;replace t1:=aD hG hbw t1;replace u0:=aD hG hb2 u0;replace u1:=aD hG hb2 u1;have HM:O (∀e∈o.after,Region.binds .any e=true->_):=hpre;clear hG hpre;have hc:=UG (i:=i) cq;clear hi
      repeat' rcases hc with rfl|hc
      iterate 21
       ·cases ho;have hm:=HM.out
        try simp[Region.binds]at hm
        refine aa rfl fun K HK=>?_;clear HM
        try simp only[hm]
        go_simp;exact HK _ _ ⟨_,by simp[upd, *],HG,rfl,fun k u hu=>hu⟩
      ·cases ho;have e20:fq 20=.slice rs[k].rows[j].ad rs[k].rows[j].rows.length rs[k].rows[j].cap:=HM ⟨20,.data⟩ ct rfl;refine aa rfl fun K HK=>?_;clear HM;simp only[e20];go_simp;refine(kN _ _ rs[k].rows[j].rows _ HQL.1 HQL.2 HQF.2.2<|HOQ.below HG).mono ?_;rintro e w5 ⟨rfl,hb5⟩;have ZF:=iD HG hb5;rw[<-ZH];clear hb5;go_wp2_with fail;exact HK _ _ ⟨Value.string ex,by simp[upd,e20],ZF,rfl,fun k u hu=>hu⟩
      iterate 2
       ·cases ho;have hm:=HM.out
        try simp[Region.binds]at hm
        refine aa rfl fun K HK=>?_;clear HM
        try simp only[hm]
        go_simp;exact HK _ _ ⟨_,by simp[upd, *],HG,rfl,fun k u hu=>hu⟩
     case finS =>
      rintro o ho fq w' hG hall;have e23:fq 23=.string ((((o2++rs[k].rows[j].name)++⟨#[32,61,32]⟩)++ex)++⟨#[10]⟩):=hall 23 cq;have HG:O (ag wr w'):=hG;clear hG hall;obtain rfl:=Option.some.inj ho;clear ho;refine wpOp_step rfl (fun K hK=>?_);have HK:O (∀a w,_->K a w):=hK;clear hK;simp only[e23];go_simp;refine HK _ _ ?_;clear HK;have HB3:O (ag wo w'):=HB2.trans<|HG.mono HB2.size;go_wp2;go_roundw;case rel=>exact⟨j+1,_,cq,rfl,cx,HI2,HZ3,HB3⟩
      case measure=>simp[intOf]<;>omega
    ·obtain rfl:j=rs[k].rows.length:=cq;have Ye:O (o2=bP (ae<|rs.take<|k+1)):=by
      show _=_;rw[HI,yI _ _ hlt,jK,HP,Xa,Xo]
     have hz4:o2.size<=(k+1)*5100000:=cq;have HB3:O (ag w wr):=HB.trans<|HB2.mono HB.size;go_wp2;go_roundw;case rel=>exact⟨k+1,o2,cq,rfl,cx,Ye,hz4,HB3⟩
     case measure=>simp[intOf]<;>omega
  ·obtain rfl:k=rs.length:=cq;have HN:O (out=bP (ae rs)):=by show _=_;rw[HP,Xa]
   go_wp2;go_ret;exact⟨by rw[HN];rfl,HB⟩
open Maps
set_option maxRecDepth 100000
def eD{p:Prop}(h:p):O p:=h
def strOf:Value->Nat | .string b=>b.size|_=>0
def Vx(s:ByteArray)(w:World)(e:Ending)(w':World):Prop :=
 ag w w'/\((eu (s.size+1) s []=none/\e=.returned (.tuple #[.slice none 0 0,.bool false])) \/ ∃(v:Value) (rs:Q06),eu (s.size+1) s []=some (ae rs)/\e=.returned (.tuple #[v,.bool true])/\dA w' w.heap.size v rs/\bP (ae rs)=s/\UW (ae rs))
def Pk{n:Nat}{rest:ByteArray}{acc:Q0b}(hn:rest.size<n)(h:rest.toList.isEmpty=true):eu n rest acc=some acc:=by
 cases n with
 | zero=>omega
 | succ n=>simp[eu,h]
def Pm{n:Nat}{rest:ByteArray}{acc:Q0b}(hn:rest.size<n)(h:rest.toList.isEmpty=false)(hc:qi 10 rest=false):eu n rest acc=none:=by
 cases n with
 | zero=>omega
 | succ n=>simp[eu,h,hc]
def Pn{n:Nat}{rest:ByteArray}{acc:Q0b}(hn:rest.size<n)(h:rest.toList.isEmpty=false)(hc:qi 10 rest=true)(hl:ol acc (lm 10 rest)=none):eu n rest acc=none:=by
 cases n with
 | zero=>omega
 | succ n=>simp[eu,h,hc,hl]
def Sc{n:Nat}{rest:ByteArray}{acc a:Q0b}(hn:rest.size<n)(h:rest.toList.isEmpty=false)(hc:qi 10 rest=true)(hl:ol acc (lm 10 rest)=some a):eu n rest acc=eu (n-1) (jo 10 rest) a/\(jo 10 rest).size<n-1:=by
 have:=I8 hc;cases n with
 | zero=>omega
 | succ n=>exact⟨by simp[eu,h,hc,hl],by simp;omega⟩
def Sd{b:ByteArray}(h:b.toList.isEmpty=true):b=⟨#[]⟩:=by
 have h2:b.toList=[]:=by simpa using h
 rw[nH]at h2;exact jd (by simpa using h2)
def CY:RI.toList=[116,121,112,101,32]:=by rw[nH];rfl
def JA:Wh.toList=[61,32]:=by rw[nH];rfl
def Sg(w:af)(a b:Value)(t:TypeId):∀j u,[a,b][j]?=some u->(w.alloc<|.cells #[a,b] t).cell? ((⟨w.heap.size,0,none⟩:Addr).add j)=some u:=by
 intro j u hu;rw[show(⟨w.heap.size,0,none⟩:Addr).add j=⟨w.heap.size,0+j,none⟩ by simp[Addr.add];omega,Xl];have:=World.cell?_alloc_mark w #[a,b] t (0,0) j;rw[this];simpa using hu
def Si(xs:Q06)(t t':TR)(hn:t'.name=t.name):((xs++[t]).flatMap TR.cells).set (xs.length*2+1) t'.vs=(xs++[t']).flatMap TR.cells:=by
 have hl:(xs.flatMap TR.cells).length=xs.length*2:=qx (fun _=>rfl) _;rw[XP,XP,List.set_append_right _ _ cq,hl];simp[TR.cells,hn]
def Ws(n:ByteArray)(ad:Q02)(k c:Nat):∀u∈[Value.string n,.slice ad k c],u.oneCell'=true:=by
 intro u hu;simp at hu;rcases hu with rfl|rfl<;>rfl
theorem GG(s:ByteArray)(w:af)(hs:s.size<=3000):Calls prog 188 #[.string s] w (Vx s w):=by
 obtain⟨iT0,hiT,zT0,zT1,zT2⟩:=info_parts (P:=prog) (e:=36) (z:=.agg #[.string ⟨#[]⟩,.slice none 0 0]) (size:=2) (bytes:=40) cw;have HIT:O (prog.info? 36=some iT0/\iT0.zero=some (.agg #[.string ⟨#[]⟩,.slice none 0 0])/\iT0.size=2/\iT0.bytes=40):=⟨hiT,zT0,zT1,zT2⟩;obtain⟨iR0,hiR,zR0,zR1,zR2⟩:=info_parts (P:=prog) (e:=39) (z:=.agg #[.string ⟨#[]⟩,.slice none 0 0]) (size:=2) (bytes:=40) cw;have HIR:O (prog.info? 39=some iR0/\iR0.zero=some (.agg #[.string ⟨#[]⟩,.slice none 0 0])/\iR0.size=2/\iR0.bytes=40):=⟨hiR,zR0,zR1,zR2⟩;obtain⟨W0,hW0⟩:=eQx<|w.alloc<|.cells #[] 36;have HB0:=tZ hW0;have HM0:O (dA W0 w.heap.size (.slice (some ⟨w.heap.size,0,none⟩) 0 0) []):=by
  show X8 _ _ _ _ _ _ _ _ _;rw[hW0];exact⟨World.ownsRow_lit w #[] 0 (WK _) cy ct,fun q hq=>(by cases hq),fun q hq=>(by cases hq),fun x y hx=>absurd hx ct⟩
 have hs5:(s.size:Int)<=50000:=cq;clear hiT zT0 zT1 zT2 hiR zR0 zR1 zR2;go_enter func188,ntmps188;go_wp2;rw[<-hW0];clear hW0;go_loopw[4,5] (fun v r wr=>∃(rs:Q06) (rest:ByteArray) (n:Nat),r=.string rest/\rest.size<=3000/\O (dA wr w.heap.size v rs)/\O (ag w wr)/\O (bP (ae rs)++rest=s)/\O (UW<|ae rs)/\O (rest.size<n/\eu n rest (ae rs)=eu (s.size+1) s [])) (fun _ r _=>strOf r);case atStart=>exact⟨[],s,s.size+1,rfl,hs,HM0,HB0,by show _=_;exact tJ _,fun t ht=>(by cases ht),cq,rfl⟩
 clear HM0 HB0;obtain⟨rs,rest,n,rfl,hrs,HM,HB,HT,HK,HN⟩:=hrel;cases he:rest.toList.isEmpty;case true=>
  have HTX:O (bP (ae rs)=s):=by show _=_;rw[<-HT.out,Sd he,qG]
  have Zp:=eD<|Pk (acc:=ae rs) HN.out.1 he;obtain⟨ad,cap,rfl,hsl,-⟩:=HM.out.read;obtain⟨k1,k2,k3,k4⟩:=rows_ok HK.out (by rw[HTX.out];exact hs);have XZ:=eD<|GD ad cap rs wr ⟨k1,fun r hr=>(k2 r hr).1,fun r hr=>(k2 r hr).2.1,fun r hr=>(k2 r hr).2.2⟩ hsl k3 k4;clear hsl k1 k2 k3 k4;go_wp2_with fail;refine XZ.out.mono ?_;rintro e w1 ⟨hee,hb1⟩;rw[HTX.out]at hee;subst hee;have HB1:=eD<|HB.out.trans<|hb1.mono HB.out.size;have HM1:=eD<|HM.out.below jW hb1;clear hb1 XZ;go_wp2;exact bodyPost_ret (v:=.tuple #[.slice ad rs.length cap,.bool true]) (by simp[results,Tryz.results188,go_sem]) rfl ⟨HB1.out,.inr ⟨_,rs,by rw[<-HN.out.2,Zp.out],rfl,HM1.out,HTX.out,HK.out⟩⟩
 have HE:=eD he;have h500:rs.length<=500:=(rows_ok HK.out (by have:=congrArg ByteArray.size HT.out;rw[WY]at this;omega)).1;have HC:=eD<|Ei rest 10 wr cy;go_wp2_with fail;refine HC.out.mono ?_;rintro e w1 ⟨rfl,n0,hw1⟩;have hb1:ag wr w1:=by rw[hw1];exact below_drewN (WL _ _) n0
 have HB1:=eD<|HB.out.trans<|hb1.mono HB.out.size;have HM1:=eD<|HM.out.below jW hb1;have hzz:=MG 10 rest;have hza:=Tk 10 rest;clear hw1 hb1 HC HM HB;cases hc:qi 10 rest;case false=>
  have ZE:=eD<|Pm (acc:=ae rs) HN.out.1 HE.out hc;go_wp2;exact bodyPost_ret (v:=.tuple #[.slice none 0 0,.bool false]) (by simp[results,Tryz.results188,go_sem]) rfl ⟨HB1.out,.inl ⟨by rw[<-HN.out.2,ZE.out],rfl⟩⟩
 have HCF:=eD hc;have HJ:=eD<|Cr hc;have hless:=I8 hc;obtain⟨line,hline⟩:=eQx<|lm 10 rest;obtain⟨more,hmore⟩:=eQx<|jo 10 rest;rw[<-hline,<-hmore]at HJ;rw[<-hmore]at hzz hless;rw[<-hline]at hza;rw[<-hline,<-hmore];have HLI:=eD hline;have HMO:=eD hmore;clear hline hmore hc;have HON:O (∀a,ol (ae rs) line=some a->eu (n-1) more a=eu (s.size+1) s []/\more.size<n-1/\bP a++more=s/\UW a):=fun a ha=>by
  have h1:=Sc (acc:=ae rs) HN.out.1 HE.out HCF.out (by rw[<-HLI.out];exact ha);rw[<-HMO.out]at h1;refine⟨by rw[<-h1.1,HN.out.2],h1.2,?_,TS ha HK.out⟩;rw[OO ha,Xo];have h2:=HT.out;rw[HJ.out]at h2;exact h2
 have HOFF:O (ol (ae rs) line=none->eu (s.size+1) s []=none):=fun ha=>by
  have h1:=Pn (acc:=ae rs) HN.out.1 HE.out HCF.out (by rw[<-HLI.out];exact ha);rw[<-HN.out.2,h1]
 cases ht:Cq line;case true=>
  have hl5:5<line.size:=by unfold Cq at ht;simp only[WM,WW]at ht;exact ht.1
  have hty:((line.extract 0 5).toList==[116,121,112,101,32])=true:=by unfold Cq at ht;simp only[WM]at ht;rw[<-CY];exact ht.2
  have hd5:decide ((5:Int)<(line.size:Int))=true:=by simp;omega
  have HLP:O (ol (ae rs) line=some (ae<|rs++[⟨line.extract 5 line.size,[],none,0⟩])):=by show _=_;unfold ol;rw[ht];simp[ae,TR.p,df]
  clear ht;obtain⟨nm,hnm⟩:=eQx<|line.extract 5 line.size;obtain⟨W2,hW2⟩:=eQx<|w1.alloc<|.cells #[.string nm,.slice none 0 0] 36;have hb2:ag w1 W2:=by rw[hW2];exact(WL _ _).alloc (WK _) _
  have YQ:=eD<|HM1.out.below jW hb2;have HB2:=eD<|HB1.out.trans<|hb2.mono HB1.out.size;have YX:O (∀j u,[Value.string nm,.slice none 0 0][j]?=some u->W2.cell? ((⟨w1.heap.size,0,none⟩:Addr).add j)=some u):=by show ∀j u,_;rw[hW2];exact Sg w1 _ _ _
  rw [<-hnm]at HLP;rw [hnm]at hW2;clear hb2 hnm;go_wp2_with (at_builtin;rw [<-hW2];clear hW2;refine wpList_append_own_at _ rfl _ _ 24 rfl w.heap.size 36 iT0 (.agg #[.string ⟨#[]⟩,.slice none 0 0]) 2 40 underlying24 HIT.out.1 HIT.out.2.1 HIT.out.2.2.1 HIT.out.2.2.2 rfl cv u4 _ (rs.flatMap TR.cells) rfl YQ.out.own ⟨w1.heap.size,0,none⟩ 1 1 [.string nm,.slice none 0 0] rfl rfl YX.out (Ws _ _ _ _) cy cq HB2.out.size ?_);intro v3 w3 hown3 hgr3 _ hat3;have HM3:O (dA w3 w.heap.size v3<|rs++[⟨nm,[],none,0⟩]):=YQ.out.snoc jW (q:=⟨nm,[],none,0⟩) hown3 hgr3 (by
    rcases hat3 with e|e
    ·exact .inl e
    ·exact .inr ⟨_,e,WK _⟩) (mY W2 w.heap.size) (fun g hg=>by
    rcases hg with hg|⟨q,hq,-⟩
    ·simp[TR.vs,Value.ownBlock]at hg
    ·cases hq) (fun p hp g hg hg2=>by
    rcases hg2 with hg2|⟨q,hq,-⟩
    ·simp[TR.vs,Value.ownBlock]at hg2
    cases hq)
  have HB3:O (ag w w3):=HB2.out.grown hgr3 HB2.out.size fun g hg=>(YQ.out.own.lt g hg).1;obtain⟨o1,o2,o3,o4⟩:=HON.out _ HLP.out;have HO:=eD<|And.intro o2 o1;have YK:=eD o3;have YG:=eD o4;clear hown3 hgr3 hat3 o1 o2 o3 o4 YQ HB2 YX hty hd5;go_wp2;go_roundw;case rel=>exact⟨_,more,n-1,rfl,cq,HM3,HB3,YK,YG,HO⟩
  simp only[strOf];exact hless
 have HTY:=eD ht;have h58:(5<line.size/\decide ((5:Int)<(line.size:Int))=true/\((line.extract 0 5).toList==[116,121,112,101,32])=false)\/decide ((5:Int)<(line.size:Int))=false:=by
  by_cases h5:5<line.size
  ·left;refine⟨h5,by simp;omega,?_⟩;unfold Cq at ht;rw[decide_eq_true h5,Bool.true_and,CY]at ht;exact ht
  right;simp;omega
 have Yr:=eD<|Ei line 32 w1 cy;obtain⟨ad4,cap4,hv4,hsl4,-⟩:=dA.read HM1.out;subst hv4;clear ht hsl4;rcases h58 with⟨hl5,hd5,hty⟩|hd5
 all_goals (
  go_wp2_with fail;refine Yr.out.mono ?_;rintro e w2 ⟨rfl,n1,hw2⟩;have hb2:ag w1 w2:=by rw[hw2];exact below_drewN (WL _ _) n1
  have HB2:=eD<|HB1.out.trans<|hb2.mono HB1.out.size;have YQ:=eD<|HM1.out.below jW hb2;have hzt:=MG 32 line;obtain⟨nm,hnm⟩:=eQx<|lm 32 line;obtain⟨tl,htl⟩:=eQx<|jo 32 line;rw[<-htl]at hzt;rw[<-hnm,<-htl];have HLP:O (ol (ae rs) line=if !(ae rs).isEmpty&&zD tl&&nG (tl.extract 2 tl.size) then some (Gt (ae rs) ⟨nm,(lw<|tl.extract 2 tl.size).out⟩) else none):=by show _=_;unfold ol EZ;rw[HTY.out,hnm,htl];rfl
  clear hw2 hb2 Yr HM1 HB1 hnm htl;by_cases hz:rs=[]
  ·subst hz;have ZE:O (eu (s.size+1) s []=none):=HOFF.out (by rw[HLP.out];rfl);go_wp2;exact bodyPost_ret (v:=.tuple #[.slice none 0 0,.bool false]) (by simp[results,Tryz.results188,go_sem]) rfl ⟨HB2.out,.inl ⟨ZE.out,rfl⟩⟩
  obtain⟨xs,t,hxt⟩:∃xs t,rs=xs++[t]:=⟨rs.dropLast,rs.getLast hz,(List.dropLast_concat_getLast hz).symm⟩;have ZM:=eD hxt;have hlx:rs.length=xs.length+1:=by rw[hxt];simp
  have HNE:O ((!(ae rs).isEmpty)=true):=by show _=_;rw[hxt];simp[ae]
  obtain⟨b4,had4⟩:∃b4,ad4=some ⟨b4,0,none⟩:=by
   rcases YQ.out.own.2 with⟨-,h0⟩|⟨g,cap,cur,e,-⟩
   ·exact absurd (Xb.1 h0) hz
   injection e with e1 e2 e3;exact⟨g,e1⟩
  subst had4;have hcell:=YQ.out.own.cellAt (xs.length*2+1) cq;rw[sS (fun _=>rfl) rs xs.length cq 1 cq]at hcell;have htx:rs[xs.length]'cq=t:=by subst hxt;simp
  rw[htx]at hcell;have hcl:w2.cell? ⟨b4,xs.length*2+1,none⟩=some (.slice t.ad t.rows.length t.cap):=hcell;have HCL:=eD hcl;have hn0:(0:Int)<=(xs.length:Int):=cq;have hn1:(xs.length:Int)<(xs.length:Int)+1:=cq;have HLX:=eD hlx;have hx500:xs.length<500:=cq;have h500':=h500;rw[hlx];clear hz hxt hlx hcell htx hcl h500;by_cases h2:tl.size<2
  ·have hd2:decide ((tl.size:Int)<2)=true:=by simp;omega
   have ZE:O (eu (s.size+1) s []=none):=HOFF.out (by rw[HLP.out];simp[zD];omega);go_wp2;exact bodyPost_ret (v:=.tuple #[.slice none 0 0,.bool false]) (by simp[results,Tryz.results188,go_sem]) rfl ⟨HB2.out,.inl ⟨ZE.out,rfl⟩⟩
  have hd2:decide ((tl.size:Int)<2)=false:=by simp;omega
  have h22:2<=tl.size:=cq;cases hq:(tl.extract 0 2).toList==[61,32];case false=>
   have hq2:(!(tl.extract 0 2).toList==[61,32])=true:=by rw[hq];rfl
   have ZE:O (eu (s.size+1) s []=none):=HOFF.out (by rw[HLP.out];unfold zD;rw[JA,hq];simp);go_wp2;exact bodyPost_ret (v:=.tuple #[.slice none 0 0,.bool false]) (by simp[results,Tryz.results188,go_sem]) rfl ⟨HB2.out,.inl ⟨ZE.out,rfl⟩⟩
  have hq2:(!(tl.extract 0 2).toList==[61,32])=false:=by rw[hq];rfl
  have HTB:O (zD tl=true):=by show _=_;unfold zD;rw[JA,hq,decide_eq_true h22];rfl
  have HRE:=eD<|yG (tl.extract 2 tl.size) w2;go_wp2_with fail;refine HRE.out.mono ?_;rintro e w3 ⟨hb3,hcase⟩;have HB3:=eD<|HB2.out.trans<|hb3.mono HB2.out.size;have HM3:=eD<|YQ.out.below jW hb3;have h23:w2.heap.size<=w3.heap.size:=hb3.size;have HLT2:O (∀g,qV iT (.slice (some ⟨b4,0,none⟩) rs.length cap4) rs g->g<w2.heap.size):=fun g hg=>(YQ.out.lt jW hg).2;have hc3:w3.cell? ⟨b4,xs.length*2+1,none⟩=some (.slice t.ad t.rows.length t.cap):=(hb3.cell (p:=⟨b4,xs.length*2+1,none⟩) (YQ.out.own.lt b4 rfl).2).trans HCL.out;rcases hcase with⟨hrb,rfl⟩|⟨hrb,v,R,qs,rfl,hF⟩
  ·have ZE:O (eu (s.size+1) s []=none):=HOFF.out (by rw[HLP.out,hrb];simp);clear hb3 hc3 YQ HB2 HRE;go_wp2;exact bodyPost_ret (v:=.tuple #[.slice none 0 0,.bool false]) (by simp[results,Tryz.results188,go_sem]) rfl ⟨HB3.out,.inl ⟨ZE.out,rfl⟩⟩
  obtain⟨X9,capE,hvE⟩:∃X9 capE,v=.slice X9 qs.length capE:=by
   obtain⟨a1,a2,a3,-⟩:=hF.slE;exact⟨a1,a2,a3⟩
  subst hvE;have HNOD:=eD<|hF.nod;have ZH:=eD hF.out;have HRB:=eD hrb;obtain⟨W5,Zh⟩:=eQx<|w3.alloc<|.cells #[.string nm,.slice X9 qs.length capE] 39;have hb5:ag w3 W5:=by rw[Zh];exact(WL _ _).alloc (WK _) _
  have HM5:=eD<|HM3.out.below jW hb5;have Yo:=eD<|HB3.out.trans<|hb5.mono HB3.out.size;have YX:O (∀j u,[Value.string nm,.slice X9 qs.length capE][j]?=some u->W5.cell? ((⟨w3.heap.size,0,none⟩:Addr).add j)=some u):=by show ∀j u,_;rw[Zh];exact Sg w3 _ _ _
  obtain⟨q,hqd⟩:∃q:RR,q=⟨nm,qs,X9,capE⟩:=⟨_,rfl⟩;have HQD:=eD hqd;have hkq3:kR w3 (w2.heap.size+1) q:=by rw[hqd];exact HNOD.out
  have hIq:∀g,iR q g->w2.heap.size+1<=g:=fun g hg=>(oG.lt w3 _ q hkq3 g hg).1;have hkq5:kR W5 w.heap.size q:=oG.heap w3 W5 w.heap.size q (hkq3.mono (by have:=HB2.out.size;omega)) hb5.size (fun g hg=>hb5.block g (oG.lt w3 _ q hkq3 g hg).2);have HIQ:=eD hIq;have W5_ge:O (w2.heap.size<=W5.heap.size):=WR h23 hb5.size;have HKQ:=eD hkq5;have HKT:O (kT W5 w.heap.size t):=HM5.out.kid t (by rw[ZM.out];simp);have HTLT:O (∀g,iT t g->g<w2.heap.size):=fun g hg=>HLT2.out g (.inr ⟨t,by rw[ZM.out];simp,hg⟩);have ht750:t.rows.length<=750:=((rows_ok HK.out (by have:=congrArg ByteArray.size HT.out;rw[WY]at this;omega)).2.1 t (by rw[ZM.out];simp)).1;have hc5:W5.cell? ⟨b4,xs.length*2+1,none⟩=some (.slice t.ad t.rows.length t.cap):=(hb5.cell (p:=⟨b4,xs.length*2+1,none⟩)<|WJ (YQ.out.own.lt b4 rfl).2 h23).trans hc3;have HC5:=eD hc5;have hfz:W5.frozen? ⟨b4,xs.length*2+1,none⟩=false:=HM5.out.own.frozenAt _;have HFZ:=eD hfz;clear hb3 hF hrb hkq3 hkq5 hIq hqd hc5 hb5 YQ HB2 HRE HM3 HB3 HNOD hfz;go_wp2_with(at_builtin;rw[<-Zh];clear Zh;refine wpList_append_own_at _ rfl _ _ 34 rfl w.heap.size 39 iR0 (.agg #[.string ⟨#[]⟩,.slice none 0 0]) 2 40 underlying34 HIR.out.1 HIR.out.2.1 HIR.out.2.2.1 HIR.out.2.2.2 rfl cv (.slice t.ad t.rows.length t.cap) _ (t.rows.flatMap RR.cells) rfl HKT.out.own ⟨w3.heap.size,0,none⟩ 1 1 [.string nm,.slice X9 qs.length capE] rfl rfl YX.out (Ws _ _ _ _) cy cq Yo.out.size ?_);intro v6 w6 hown6 Zj _ hat6;obtain⟨g6,c6,hv6⟩:=gF hown6;subst hv6;have hqv:q.vs=.slice X9 qs.length capE:=by rw[HQD.out];rfl
  have hneb:some b4≠(Value.slice t.ad t.rows.length t.cap).ownBlock:=fun e=>HM5.out.head t (by rw[ZM.out];simp) b4 (.inl e.symm) rfl;have hc6:w6.cell? ⟨b4,xs.length*2+1,none⟩=some (.slice t.ad t.rows.length t.cap):=Zj.cell HC5.out hneb;have hf6:w6.frozen? ⟨b4,xs.length*2+1,none⟩=false:=(World.frozen?_of_block (w:=W5) (a:=⟨b4,xs.length*2+1,none⟩)<|Zj.block b4 (HM5.out.own.lt b4 rfl).2 hneb).trans HFZ.out;obtain⟨t',ht'⟩:∃t':TR,t'=⟨t.name,t.rows++[q],some ⟨g6,0,none⟩,c6⟩:=⟨_,rfl⟩;have hvt':t'.vs=.slice (some ⟨g6,0,none⟩) (t.rows.length+1) c6:=by rw[ht'];simp[TR.vs]
  have hkt':kT w6 w.heap.size t':=by
   have h1:jJ w6 w.heap.size (.slice (some ⟨g6,0,none⟩) (t.rows.length+1) c6) (t.rows++[q]):=HKT.out.snoc oG (q:=q) (by
     rw[show RR.cells q=[.string nm,.slice X9 qs.length capE] by unfold RR.cells;rw[hqv,HQD.out]];exact hown6) Zj (by
     rcases hat6 with e|e
     ·exact .inl e
     ·exact .inr ⟨_,e,WK _⟩) HKQ.out (fun g hg e=>by
     have h2:=HTLT.out g<|.inl e;have h3:=HIQ.out g hg;omega) (fun p hp g hg hg2=>by
     have h2:=HTLT.out g<|.inr ⟨p,hp,hg⟩;have h3:=HIQ.out g hg2;omega)
   unfold kT;rw[hvt',ht'];exact h1
  have hI':∀g,iT t' g->iT t g\/(g≠b4/\∀p∈xs,¬iT p g):=fun g hg=>by
   have hfar:w2.heap.size<=g->g≠b4/\∀p∈xs,¬iT p g:=fun hge=>⟨fun e=>by
     have:=HLT2.out b4<|.inl rfl;omega,fun p hp hi=>by
     have:=HLT2.out g (.inr ⟨p,by rw[ZM.out];simp[hp],hi⟩);omega⟩
   rcases hg with hg|⟨p,hp,hg⟩
   ·rw[hvt']at hg;rcases hat6 with e|e
    ·exact .inl<|.inl<|e.symm.trans hg
    rw[e]at hg;injection hg with hg;exact .inr (hfar (by have:=W5_ge.out;omega))
   rw[ht']at hp;rcases WU.1 hp with hp|hp
   ·exact .inl<|.inr ⟨p,hp,hg⟩
   rw[WZ]at hp;subst hp;exact .inr (hfar (by have:=HIQ.out g hg;omega))
  have HM7:O (dA (w6.setCell ⟨b4,xs.length*2+1,none⟩<|.slice (some ⟨g6,0,none⟩) (t.rows.length+1) c6) w.heap.size (.slice (some ⟨b4,0,none⟩) (xs.length+1) cap4)<|xs++[t']):=by
   have hM:=HM5.out;rw[HLX.out,ZM.out]at hM;refine X8.last jW hM rfl Zj (fun r hr=>.inl hr) hkt' hI' ?_;rw[<-hvt',show t'.vs=t'.vs from rfl];exact Si xs t t' (by rw[ht'])
  have HB7:O (ag w<|w6.setCell ⟨b4,xs.length*2+1,none⟩<|.slice (some ⟨g6,0,none⟩) (t.rows.length+1) c6):=(Yo.out.grown Zj Yo.out.size fun g hg=>(HKT.out.own.lt g hg).1).setCell (HM5.out.own.lt b4 rfl).1 _;have HTY7:O (ol (ae rs) line=some (ae<|xs++[t'])):=by
   show _=_;rw[HLP.out,HNE.out,HTB.out,HRB.out,ZM.out,ht'];simp only[Bool.and_true,if_true];rw[show ae (xs++[t])=ae xs++[t.p] by simp[ae],si];simp[ae,TR.p,df,RR.p,HQD.out,ZH.out]
  obtain⟨o1,o2,o3,o4⟩:=HON.out _ HTY7.out;have HO:=eD<|And.intro o2 o1;have YK:=eD o3;have YG:=eD o4;clear hown6 Zj hat6 o1 o2 o3 o4 hkt' hI' hvt' ht' hqv hneb HM5 Yo HKT HKQ;go_wp2;go_roundw;case rel=>exact⟨_,more,n-1,rfl,cq,HM7,HB7,YK,YG,HO⟩
  simp only[strOf];exact hless)
def Vy(s:ByteArray)(w:World)(e:Ending)(w':World):Prop :=
 ag w w'/\(((∀T,eu (s.size+1) s []=some T->aG T=false)/\e=.returned (.tuple #[.slice none 0 0,.bool false])) \/ ∃(v:Value) (rs:Q06),aG (ae rs)=true/\e=.returned (.tuple #[v,.bool true])/\dA w' w.heap.size v rs/\bP (ae rs)=s/\UW (ae rs))
def nJ(s:ByteArray)(w:af)(hs:s.size<=3000):Calls prog 113 #[.string s] w (Vy s w):=by
 have HL:=eD<|GG s w hs;go_enter func113,ntmps113;go_wp2_with fail;refine HL.mono ?_;rintro e w1 ⟨hb1,hcase⟩;have HB1:=eD hb1;rcases hcase with⟨hno,rfl⟩|⟨v,rs,hyes,rfl,hM,htx,hok⟩
 ·have ZE:O (∀T,eu (s.size+1) s []=some T->aG T=false):=fun T hT=>by rw[hno]at hT;cases hT
  clear hb1 hno HL;go_wp2;exact bodyPost_ret (v:=.tuple #[.slice none 0 0,.bool false]) (by simp[results,Tryz.results113,go_sem]) rfl ⟨HB1,.inl ⟨ZE,rfl⟩⟩
 obtain⟨ad,cap,hv,hsl,-⟩:=dA.read hM;subst hv;obtain⟨k1,k2,k3,k4⟩:=rows_ok hok (by rw[htx];exact hs);have HM:=eD hM;have HTX:=eD htx;have Yn:=eD hok;have HY:=eD hyes;have HSO:=eD<|gI ad cap rs w1 cq hsl k3 k4;clear hb1 hM htx hok hyes hsl k1 k2 k3 k4 HL;go_wp2_with fail;refine HSO.mono ?_;rintro e w2 ⟨he,hb2⟩;have HB2:=eD<|HB1.trans<|hb2.mono HB1.size;have YQ:=eD<|HM.below jW hb2;clear hb2 HSO HM;cases hd:aG (ae rs);case false=>
  rw[hd]at he;subst he;have ZE:O (∀T,eu (s.size+1) s []=some T->aG T=false):=fun T hT=>by rw[HY]at hT;injection hT with hT;rw[<-hT];exact hd
  clear hd;go_wp2;exact bodyPost_ret (v:=.tuple #[.slice none 0 0,.bool false]) (by simp[results,Tryz.results113,go_sem]) rfl ⟨HB2,.inl ⟨ZE,rfl⟩⟩
 rw[hd]at he;subst he;have HD:=eD hd;clear hd;go_wp2;exact bodyPost_ret (v:=.tuple #[.slice ad rs.length cap,.bool true]) (by simp[results,Tryz.results113,go_sem]) rfl ⟨HB2,.inr ⟨_,rs,HD,rfl,YQ,HTX,Yn⟩⟩
set_option linter.unusedVariables false
def GH{t:ByteArray}{x y z c:UInt8}(h:t.data.toList.take 10=[116,121,112,101,32,x,y,z,10,c])(h1:x≠10)(h2:y≠10)(h3:z≠10)(h4:c≠116):Pre t:=by
 refine⟨x,y,z,c,t.data.toList.drop 10,?_,h1,h2,h3,h4⟩
 conv=>lhs;rw[<-List.take_append_drop 10 t.data.toList,h]
 rfl
def Sj{t:ByteArray}(h:Pre t):10<=t.size:=by
 obtain⟨x,y,z,c,tl,e,-⟩:=h;have h2:t.size=t.data.toList.length:=ct;rw[h2,e];simp
def xN{w:af}{base base' size n:Nat}{e:TypeId}{v:Value}{xs:Q03}(h:w.ownsRow base e size v n xs)(hb:base'<=base):w.ownsRow base' e size v n xs:=by
 refine⟨h.1,?_⟩;rcases h.2 with hl|⟨g,cap,cur,rfl,h1,h2⟩
 ·exact .inl hl
 exact .inr ⟨g,cap,cur,rfl,WR hb h1,h2⟩
def jJ.lower{w:af}{base base':Nat}{v:Value}{rs:Q07}(h:jJ w base v rs)(hb:base'<=base):jJ w base' v rs:=⟨xN h.own hb,fun q hq=>NodM.mono (h.kid q hq) hb,h.head,h.two⟩
def X8.lower{w:af}{base base':Nat}{v:Value}{rs:Q06}(h:dA w base v rs)(hb:base'<=base):dA w base' v rs:=⟨xN h.own hb,fun q hq=>jJ.lower (h.kid q hq) hb,h.head,h.two⟩
def JB(w wc:World)(v:Value)(rs:Q06):Prop:=dA wc w.heap.size v rs/\aG (ae rs)=true/\Pre (bP<|ae rs)/\UW (ae rs)/\(bP<|ae rs).size<=2000
def JB.only{w wc wd:af}{R:Nat}{v:Value}{rs:Q06}(h:JB w wc v rs)(hR:cU R w)(ho:Only R wc wd):JB w wd v rs :=
 ⟨h.1.heap jW ho.size fun g hg=>ho.block g (h.1.lt jW hg).2 (fun e=>by injection e with e;have:=(h.1.lt jW hg).1;omega),h.2⟩
def GoodS(rs:Q06):Prop:=rs.length<=500/\(∀r∈rs,r.light)/\∀r∈rs,r.fits
def JB.good{w wc:af}{v:Value}{rs:Q06}(h:JB w wc v rs):GoodS rs/\dA wc w.heap.size v rs:=by
 obtain⟨k1,-,k3,k4⟩:=rows_ok h.2.2.2.1 (by have:=h.2.2.2.2;omega);exact⟨⟨k1,k3,k4⟩,h.1⟩
def Sk:(⟨#[122,111,111]⟩:ByteArray).size<=maxLen:=by
 have e:(⟨#[122,111,111]⟩:ByteArray).size=3:=rfl;rw[e];unfold maxLen;omega
def Mh{t:TR}{ts:Q06}(h:GoodS (t::ts)):GoodS (({ t with name:=⟨#[122,111,111]⟩ }:TR)::ts):=by
 obtain⟨h1,h2,h3⟩:=h;refine⟨by simpa using h1,fun r hr=>?_,fun r hr=>?_⟩
 ·rcases Xc.1 hr with rfl|hr
  ·exact h2 t ct
  exact h2 r (by simp[hr])
 rcases Xc.1 hr with rfl|hr
 ·obtain⟨a1,a2,a3⟩:=h3 t ct;exact⟨Sk,a2,a3⟩
 exact h3 r (by simp[hr])
def Po{t:TR}{ts:Q06}{q:RR}{qs:Q07}{y:ER}{ys:Q08}(k:Int)(h:GoodS (t::ts))(hq:t.rows=q::qs)(hy:q.rows=y::ys):GoodS (t.asK q qs y ys k::ts):=by
 obtain⟨h1,h2,h3⟩:=h;refine⟨by simpa using h1,fun r hr=>?_,fun r hr=>?_⟩
 ·rcases Xc.1 hr with rfl|hr
  ·obtain⟨a1,a2⟩:=h2 t ct;rw[hq]at a1 a2;refine⟨by simpa[TR.asK] using a1,fun p hp=>?_⟩;rcases Xc.1 hp with rfl|hp
   ·obtain⟨b1,b2⟩:=a2 q ct;rw[hy]at b1 b2;refine⟨by simpa using b1,fun z hz=>?_⟩;rcases Xc.1 hz with rfl|hz
    ·exact b2 y ct
    exact b2 z (by simp[hz])
   exact a2 p (by simp[hp])
  exact h2 r (by simp[hr])
 rcases Xc.1 hr with rfl|hr
 ·obtain⟨a0,a1,a2⟩:=h3 t ct;rw[hq]at a1 a2;refine⟨a0,by simpa[TR.asK] using a1,fun p hp=>?_⟩;rcases Xc.1 hp with rfl|hp
  ·obtain⟨b0,b1,b2⟩:=a2 q ct;rw[hy]at b1 b2;refine⟨b0,by simpa using b1,fun z hz=>?_⟩;rcases Xc.1 hz with rfl|hz
   ·exact b2 y ct
   exact b2 z (by simp[hz])
  exact a2 p (by simp[hp])
 exact h3 r (by simp[hr])
def Uf(R:Nat)(ad:Q02)(len cap:Nat)(w:World)(e:Ending)(w':World):Prop:=∃(v:Value) (rs:Q06),e=.returned v/\dA w' w.heap.size v rs/\GoodS rs/\Rd w' R ad len cap/\Only R w w'
def JX(R:Nat)(w:World)(v:Value):Nat×Nat->Prop
 | (0,n)=>∃g,v=.slice (some ⟨g,0,none⟩) n n/\uh w R g n 70
 | (1,_)=>v=.pointer (some ⟨R,0,none⟩)
 | (2,n)=>∃x:Nat,v=.int .i64 (x:Int)/\x<n
 | (3,n)=>∃g x,v=.pointer (some ⟨g,x,none⟩)/\x<n/\uh w R g n 70
 | (4,n)=>∃t:ByteArray,v=.string t/\t.size<=n
 | (_,n)=>∃t:ByteArray,v=.string t/\Pre t/\t.size<=n
def JX.only{R:Nat}{w w':af}{v:Value}(h:Only R w w')(k:Nat×Nat)(hk:JX R w v k):JX R w' v k:=by
 match k,hk with
 | (0,n),hk=>obtain⟨g,e,hs⟩:=hk;exact⟨g,e,hs.only h⟩
 | (1,n),hk=>exact hk
 | (2,n),hk=>exact hk
 | (3,n),hk=>obtain⟨g,x,e,hx,hs⟩:=hk;exact⟨g,x,e,hx,hs.only h⟩
 | (4,n),hk=>exact hk
 | (n+5,m),hk=>exact hk
def WG:List (Nat×Nat):=[(0,2),(1,0),(2,2),(3,2),(4,70),(5,200),(5,240),(0,3),(1,0),(2,3),(3,3),(4,70),(5,320),(5,420)]
def vG(R:Nat)(ad:Q02)(len cap:Nat)(w:af)(h:Rd w R ad len cap):
  Calls prog 89 #[.pointer (some<|am R)] w (Uf R ad len cap w):=by
 have H:=jI h;have hRw:=h.lt;clear h;go_enter func89,ntmps89;go_wp2_with fail;refine bC 14 _ _ (fun k v w'=>JX R w' v<|WG.getD k (9,0)) (fun w'=>Rd w' R ad len cap/\Only R w w') cw rfl cw cw (vQ [(7,[0,1,2,3,4,5,6,7,8,9,10,11,12,13])]) ⟨H.below<|(WL _ _).drew,(Only.refl R w).drewN 1⟩ ?step ?fin<;>dsimp only[uI];case step =>
  rintro i hi o ho f w' ⟨hR',Yt⟩ hpre;have HR:=aB hR';have HO:=aB Yt;have hRl:cU R w':=hR'.lt;have HM:O (∀e∈o.after,Region.binds .any e=true->_):=hpre;clear hR' Yt hpre;have hc:=PU (i:=i) cq;clear hi
  repeat' rcases hc with rfl|hc
  ·cases ho;have K1:O (Only R w'<|w'.alloc<|.cells #[.string ⟨#[116,104,105,115,40,117,115,101,114,41]⟩,.string ⟨#[116,104,105,115,40,117,115,101,114,41,32,124,32,112,97,114,101,110,116,45,62,111,119,110,101,114]⟩] 9):=(Only.refl R w').alloc _;refine aa rfl fun K HK=>?_;clear HM;dsimp only;go_simp;exact HK _ _ ⟨.slice (some ⟨w'.heap.size,0,none⟩) 2 2,by simp[upd],⟨HR.alloc _,HO.alloc _⟩,⟨_,rfl,jB w' R 70 hRl (xs:=[_,_]) cv⟩,fun k u hu=>JX.only K1 _ hu⟩
  ·cases ho;refine aa rfl fun K HK=>?_;clear HM;dsimp only;go_simp;exact HK _ _ ⟨Value.pointer<|some ⟨R,0,none⟩,by simp[upd],⟨HR,HO⟩,rfl,fun k u hu=>hu⟩
  ·cases ho;have e1:f 1=Value.pointer (some<|am R):=HM ⟨1,.data⟩ ct rfl;refine aa rfl fun K HK=>?_;clear HM;simp only[e1];go_simp;refine(fw R ad len cap 2 _ HR cq cq).mono ?_;rintro e w5 ⟨⟨x,rfl,hx⟩,Ym,YA⟩;have Yz:=jI Ym;have Yi:=jI YA;clear Ym YA;go_wp2_with fail;exact HK _ _ ⟨.int .i64 (x:Int),by simp[upd,e1],⟨Yz,HO.trans Yi⟩,⟨x,rfl,hx⟩,fun k u hu=>JX.only Yi _ hu⟩
  ·cases ho;obtain⟨g,e1,hS⟩:=HM ⟨0,.data⟩ ct rfl;obtain⟨x,e2,hx⟩:=HM ⟨2,.data⟩ ct rfl;replace e1:f 0=_:=e1;replace e2:f 2=_:=e2;have HS:=aB hS;clear hS;have hx0:=bY x;have hx1:(x:Int)<2:=cq;refine aa rfl fun K HK=>?_;clear HM;simp only[e1,e2];go_simp;exact HK _ _ ⟨.pointer<|some ⟨g,x,none⟩,by simp[upd,e1,e2],⟨HR,HO⟩,⟨g,x,rfl,hx,HS⟩,fun k u hu=>hu⟩
  ·cases ho;obtain⟨g,x,e1,hx,hS⟩:=HM ⟨3,.data⟩ ct rfl;replace e1:f 3=_:=e1;obtain⟨t,hcell,ht⟩:=hS.2.2 x hx;clear hS;refine aa rfl fun K HK=>?_;clear HM;simp only[e1];go_simp;exact HK _ _ ⟨.string t,by simp[upd,e1],⟨HR,HO⟩,⟨t,rfl,ht⟩,fun k u hu=>hu⟩
  ·cases ho;obtain⟨t,e1,ht⟩:=HM ⟨4,.data⟩ ct rfl;replace e1:f 4=_:=e1;have hc0:(⟨#[116,121,112,101,32,100,111,99,10,98,97,110,110,101,100,32,61,32,116,104,105,115,40,117,115,101,114,41,10,101,100,105,116,111,114,32,61,32,116,104,105,115,40,117,115,101,114,41,32,124,32,111,119,110,101,114,10,111,119,110,101,114,32,61,32]⟩:ByteArray).size=65:=rfl;have hz:(9223372036854775807<65+t.size)=False:=by simp;omega
   refine aa rfl fun K HK=>?_;clear HM;simp only[e1];go_simp;exact HK _ _ ⟨.string<|(⟨#[116,121,112,101,32,100,111,99,10,98,97,110,110,101,100,32,61,32,116,104,105,115,40,117,115,101,114,41,10,101,100,105,116,111,114,32,61,32,116,104,105,115,40,117,115,101,114,41,32,124,32,111,119,110,101,114,10,111,119,110,101,114,32,61,32]⟩:ByteArray)++t,by simp[upd,e1],⟨HR,HO⟩,⟨_,rfl,(GH (x:=100) (y:=111) (z:=99) (c:=98) (by rfl) cv cv cv cv).app t,by rw[WY,hc0];omega⟩,fun k u hu=>hu⟩
  ·cases ho;obtain⟨t,e1,hp,ht⟩:=HM ⟨5,.data⟩ ct rfl;replace e1:f 5=_:=e1;have HPRE:=jI hp;have hc0:(⟨#[10,112,97,114,101,110,116,32,61,32,116,104,105,115,40,100,111,99,41,10,118,105,101,119,101,114,32,61,32]⟩:ByteArray).size=29:=rfl;have hz:(9223372036854775807<t.size+29)=False:=by simp;omega
   refine aa rfl fun K HK=>?_;clear HM hp;simp only[e1];go_simp;exact HK _ _ ⟨.string<|t++(⟨#[10,112,97,114,101,110,116,32,61,32,116,104,105,115,40,100,111,99,41,10,118,105,101,119,101,114,32,61,32]⟩:ByteArray),by simp[upd,e1],⟨HR,HO⟩,⟨_,rfl,HPRE.app _,by rw[WY,hc0];omega⟩,fun k u hu=>hu⟩
  ·cases ho;have K1:O (Only R w'<|w'.alloc<|.cells #[.string ⟨#[116,104,105,115,40,117,115,101,114,44,103,114,111,117,112,35,109,101,109,98,101,114,41,32,124,32,101,100,105,116,111,114,32,124,32,112,97,114,101,110,116,45,62,118,105,101,119,101,114]⟩,.string ⟨#[40,116,104,105,115,40,117,115,101,114,44,103,114,111,117,112,35,109,101,109,98,101,114,41,32,124,32,101,100,105,116,111,114,32,124,32,112,97,114,101,110,116,45,62,118,105,101,119,101,114,41,32,45,32,98,97,110,110,101,100]⟩,.string ⟨#[116,104,105,115,40,117,115,101,114,44,103,114,111,117,112,35,109,101,109,98,101,114,41,32,38,32,101,100,105,116,111,114]⟩] 9):=(Only.refl R w').alloc _;refine aa rfl fun K HK=>?_;clear HM;dsimp only;go_simp;exact HK _ _ ⟨.slice (some ⟨w'.heap.size,0,none⟩) 3 3,by simp[upd],⟨HR.alloc _,HO.alloc _⟩,⟨_,rfl,jB w' R 70 hRl (xs:=[_,_,_]) cv⟩,fun k u hu=>JX.only K1 _ hu⟩
  ·cases ho;refine aa rfl fun K HK=>?_;clear HM;dsimp only;go_simp;exact HK _ _ ⟨Value.pointer<|some ⟨R,0,none⟩,by simp[upd],⟨HR,HO⟩,rfl,fun k u hu=>hu⟩
  ·cases ho;have e1:f 8=Value.pointer (some<|am R):=HM ⟨8,.data⟩ ct rfl;refine aa rfl fun K HK=>?_;clear HM;simp only[e1];go_simp;refine(fw R ad len cap 3 _ HR cq cq).mono ?_;rintro e w5 ⟨⟨x,rfl,hx⟩,Ym,YA⟩;have Yz:=jI Ym;have Yi:=jI YA;clear Ym YA;go_wp2_with fail;exact HK _ _ ⟨.int .i64 (x:Int),by simp[upd,e1],⟨Yz,HO.trans Yi⟩,⟨x,rfl,hx⟩,fun k u hu=>JX.only Yi _ hu⟩
  ·cases ho;obtain⟨g,e1,hS⟩:=HM ⟨7,.data⟩ ct rfl;obtain⟨x,e2,hx⟩:=HM ⟨9,.data⟩ ct rfl;replace e1:f 7=_:=e1;replace e2:f 9=_:=e2;have HS:=aB hS;clear hS;have hx0:=bY x;have hx1:(x:Int)<3:=cq;refine aa rfl fun K HK=>?_;clear HM;simp only[e1,e2];go_simp;exact HK _ _ ⟨.pointer<|some ⟨g,x,none⟩,by simp[upd,e1,e2],⟨HR,HO⟩,⟨g,x,rfl,hx,HS⟩,fun k u hu=>hu⟩
  ·cases ho;obtain⟨g,x,e1,hx,hS⟩:=HM ⟨10,.data⟩ ct rfl;replace e1:f 10=_:=e1;obtain⟨t,hcell,ht⟩:=hS.2.2 x hx;clear hS;refine aa rfl fun K HK=>?_;clear HM;simp only[e1];go_simp;exact HK _ _ ⟨.string t,by simp[upd,e1],⟨HR,HO⟩,⟨t,rfl,ht⟩,fun k u hu=>hu⟩
  ·cases ho;obtain⟨t,e1,hp,ht⟩:=HM ⟨6,.data⟩ ct rfl;obtain⟨u2,e2,hu2⟩:=HM ⟨11,.data⟩ ct rfl;replace e1:f 6=_:=e1;replace e2:f 11=_:=e2;have HPRE:=jI hp;have hz:(9223372036854775807<t.size+u2.size)=False:=by simp;omega
   refine aa rfl fun K HK=>?_;clear HM hp;simp only[e1,e2];go_simp;exact HK _ _ ⟨.string<|t++u2,by simp[upd,e1,e2],⟨HR,HO⟩,⟨_,rfl,HPRE.app _,by rw[WY];omega⟩,fun k u hu=>hu⟩
  cases ho;obtain⟨t,e1,hp,ht⟩:=HM ⟨12,.data⟩ ct rfl;replace e1:f 12=_:=e1;have HPRE:=jI hp;have hc0:(⟨#[10,116,121,112,101,32,103,114,111,117,112,10,109,101,109,98,101,114,32,61,32,116,104,105,115,40,117,115,101,114,44,103,114,111,117,112,35,109,101,109,98,101,114,41,10,116,121,112,101,32,117,115,101,114,10]⟩:ByteArray).size=55:=rfl;have hz:(9223372036854775807<t.size+55)=False:=by simp;omega
  refine aa rfl fun K HK=>?_;clear HM hp;simp only[e1];go_simp;exact HK _ _ ⟨.string<|t++(⟨#[10,116,121,112,101,32,103,114,111,117,112,10,109,101,109,98,101,114,32,61,32,116,104,105,115,40,117,115,101,114,44,103,114,111,117,112,35,109,101,109,98,101,114,41,10,116,121,112,101,32,117,115,101,114,10]⟩:ByteArray),by simp[upd,e1],⟨HR,HO⟩,⟨_,rfl,HPRE.app _,by rw[WY,hc0];omega⟩,fun k u hu=>hu⟩
 case fin =>
  rintro o ho f w1 ⟨YD,YL⟩ hall;obtain⟨t1,e1,hp1,ht1⟩:=hall 13 cq;replace e1:f 13=_:=e1;have HR1:=jI YD;have Yu:=jI YL;have HP1:=jI hp1;obtain rfl:=Option.some.inj ho;clear ho hall YD YL hp1;refine aa rfl fun K HK=>?_;simp only[e1];go_simp;refine HK _ _ ?_;clear HK;go_wp2_with fail;refine(ko R ad len cap 3 _ HR1 cq cq).mono ?_;rintro e w2 ⟨⟨q1,rfl⟩,hR2,hO2⟩;have HR2:=jI hR2;have Yk:O (Only R w w2):=Yu.trans hO2;clear hR2 hO2 HR1 Yu
  go_upto_if 22 with fail
  go_cut [3] from 23 (fun s3 wc=>∃t:ByteArray,s3=.string t/\t.size<=1200/\O (Pre t)/\O (Rd wc R ad len cap)/\O (Only R w wc))
  case first =>
   cases q1;case false=>
    go_wp2_with fail
    go_meet
    exact⟨t1,rfl,cq,HP1,HR2,Yk⟩
   go_wp2_with fail;refine(rH R ad len cap 0 _ cq HR2).mono ?_;rintro e w3 ⟨⟨r0,rfl,hr0⟩,hR3,hO3⟩;have HR3:=jI hR3;have YK:O (Only R w w3):=Yk.trans hO3;clear hR3 hO3 HR2 Yk;go_wp2_with fail;refine(rH R ad len cap 1 _ cq HR3).mono ?_;rintro e w4 ⟨⟨r1,rfl,hr1⟩,ZI,hO4⟩;have HR4:=jI ZI;have YG:O (Only R w w4):=YK.trans hO4;clear ZI hO4 HR3 YK;go_wp2_with fail;refine(rH R ad len cap 2 _ cq HR4).mono ?_;rintro e w5 ⟨⟨r2,rfl,hr2⟩,Ym,YA⟩;have Yz:=jI Ym;have Yi:O (Only R w w5):=YG.trans YA;clear Ym YA HR4 YG;have k0:(⟨#[116,121,112,101,32,100,111,99,10,98,97,110,110,101,100,32,61,32]⟩:ByteArray).size=18:=rfl;have k1:(⟨#[10,101,100,105,116,111,114,32,61,32]⟩:ByteArray).size=10:=rfl;have k2:(⟨#[10,111,119,110,101,114,32,61,32,116,104,105,115,40,117,115,101,114,41,10,112,97,114,101,110,116,32,61,32,116,104,105,115,40,100,111,99,41,10,118,105,101,119,101,114,32,61,32]⟩:ByteArray).size=48:=rfl;have k3:(⟨#[10,116,121,112,101,32,103,114,111,117,112,10,109,101,109,98,101,114,32,61,32,116,104,105,115,40,117,115,101,114,44,103,114,111,117,112,35,109,101,109,98,101,114,41,10,116,121,112,101,32,117,115,101,114,10]⟩:ByteArray).size=55:=rfl;have HSZ:O ((((((((⟨#[116,121,112,101,32,100,111,99,10,98,97,110,110,101,100,32,61,32]⟩:ByteArray)++r0)++(⟨#[10,101,100,105,116,111,114,32,61,32]⟩:ByteArray))++r1)++(⟨#[10,111,119,110,101,114,32,61,32,116,104,105,115,40,117,115,101,114,41,10,112,97,114,101,110,116,32,61,32,116,104,105,115,40,100,111,99,41,10,118,105,101,119,101,114,32,61,32]⟩:ByteArray))++r2)++(⟨#[10,116,121,112,101,32,103,114,111,117,112,10,109,101,109,98,101,114,32,61,32,116,104,105,115,40,117,115,101,114,44,103,114,111,117,112,35,109,101,109,98,101,114,41,10,116,121,112,101,32,117,115,101,114,10]⟩:ByteArray)).size<=1200):=by show _<=_;simp only[WY,k0,k1,k2,k3];omega
   have HPX:O (Pre<|((((((⟨#[116,121,112,101,32,100,111,99,10,98,97,110,110,101,100,32,61,32]⟩:ByteArray)++r0)++(⟨#[10,101,100,105,116,111,114,32,61,32]⟩:ByteArray))++r1)++(⟨#[10,111,119,110,101,114,32,61,32,116,104,105,115,40,117,115,101,114,41,10,112,97,114,101,110,116,32,61,32,116,104,105,115,40,100,111,99,41,10,118,105,101,119,101,114,32,61,32]⟩:ByteArray))++r2)++(⟨#[10,116,121,112,101,32,103,114,111,117,112,10,109,101,109,98,101,114,32,61,32,116,104,105,115,40,117,115,101,114,44,103,114,111,117,112,35,109,101,109,98,101,114,41,10,116,121,112,101,32,117,115,101,114,10]⟩:ByteArray)):=(((((((GH (x:=100) (y:=111) (z:=99) (c:=98) (by rfl) cv cv cv cv:Pre (⟨#[116,121,112,101,32,100,111,99,10,98,97,110,110,101,100,32,61,32]⟩:ByteArray)).app r0).app _).app r1).app _).app r2).app _);clear k0 k1 k2 k3;go_wp2_with fail
   go_meet
   exact⟨_,rfl,HSZ,HPX,Yz,Yi⟩
  obtain⟨t,rfl,hts,HP,HR,HO⟩:=hcut;clear HP1 HR2 Yk;go_wp2_with fail;refine(ko R ad len cap 4 _ HR cq cq).mono ?_;rintro e w6 ⟨⟨q2,rfl⟩,hR6,hO6⟩;have Za:=jI hR6;have Zt:O (Only R w w6):=HO.trans hO6;clear hR6 hO6 HR HO
  go_upto_if 36 with fail
  go_cut [3,4] from 37 (fun s3 s4 wc=>∃t:ByteArray,s3=.string t/\t.size<=2000/\O (Pre t)/\O (Rd wc R ad len cap)/\O (Only R w wc))
  case first =>
   cases q2;case false=>
    go_wp2_with fail
    go_meet
    exact⟨t,rfl,cq,HP,Za,Zt⟩
   have ht10:10<=t.size:=Sj HP;go_wp2_with fail;go_loopw[4] (fun i wr=>∃k:Nat,i=.int .i64 (k:Int)/\k+9<=t.size/\wr=w6) (fun i _=>t.size-(intOf i).toNat);case atStart=>exact⟨0,rfl,cq,rfl⟩
   obtain⟨k,rfl,hk,rfl⟩:=hrel;have HD0:O ((⟨#[116,121,112,101,32,100,105,114,10,111,119,110,101,114,32,61,32,116,104,105,115,40,117,115,101,114,41,10,115,101,101,32,61,32,116,104,105,115,40,117,115,101,114,41,10]⟩:ByteArray).size=45):=rfl;have HD1:O ((⟨#[116,104,105,115,40,100,111,99,44,100,105,114,41]⟩:ByteArray).size=13):=rfl;have h3:(((k:Int)+9<(t.size:Int))/\((t.extract k<|k+9).toList==[116,104,105,115,40,100,111,99,41])=false)\/(((k:Int)+9<(t.size:Int))/\((t.extract k<|k+9).toList==[116,104,105,115,40,100,111,99,41])=true)\/¬((k:Int)+9<(t.size:Int)):=by
    by_cases h:(k:Int)+9<(t.size:Int)
    ·cases e:(t.extract k<|k+9).toList==[116,104,105,115,40,100,111,99,41]
     ·exact .inl ⟨h,rfl⟩
     exact .inr<|.inl ⟨h,rfl⟩
    exact .inr<|.inr h
   have hk0:=bY k;have hk1:(k:Int)<=(t.size:Int):=cq;have hk2:(0:Int)<=(k:Int)+9:=cq;have hk3:(k:Int)+9<=(t.size:Int):=cq;have he1:(t.extract 0 k).size<=1200:=by rw[ByteArray.size_extract];omega
   have he2:(t.extract (k+9) t.size).size<=1200:=by rw[ByteArray.size_extract];omega
   have hetot:(t.extract 0 k).size+(t.extract (k+9) t.size).size<=1200:=by rw[ByteArray.size_extract,ByteArray.size_extract];omega
   have HSZ:O (((((⟨#[116,121,112,101,32,100,105,114,10,111,119,110,101,114,32,61,32,116,104,105,115,40,117,115,101,114,41,10,115,101,101,32,61,32,116,104,105,115,40,117,115,101,114,41,10]⟩:ByteArray)++t.extract 0 k)++(⟨#[116,104,105,115,40,100,111,99,44,100,105,114,41]⟩:ByteArray))++t.extract (k+9) t.size).size<=2000):=by show _<=_;simp only[WY,HD0.out,HD1.out];omega
   have HPX:O (Pre<|(((⟨#[116,121,112,101,32,100,105,114,10,111,119,110,101,114,32,61,32,116,104,105,115,40,117,115,101,114,41,10,115,101,101,32,61,32,116,104,105,115,40,117,115,101,114,41,10]⟩:ByteArray)++t.extract 0 k)++(⟨#[116,104,105,115,40,100,111,99,44,100,105,114,41]⟩:ByteArray))++t.extract (k+9) t.size):=((((GH (x:=100) (y:=105) (z:=114) (c:=111) (by rfl) cv cv cv cv:Pre (⟨#[116,121,112,101,32,100,105,114,10,111,119,110,101,114,32,61,32,116,104,105,115,40,117,115,101,114,41,10,115,101,101,32,61,32,116,104,105,115,40,117,115,101,114,41,10]⟩:ByteArray)).app _).app _).app _);have HRW:O (∀n,Rd (wr.drewN n) R ad len cap):=fun n=>Za.below<|below_drewN (WL _ _) n;have HOW:O (∀n,Only R w<|wr.drewN n):=fun n=>Zt.drewN n;rcases h3 with⟨h,hm⟩|⟨h,hm⟩|h
   ·have hm2:(!(t.extract k<|k+9).toList==[116,104,105,115,40,100,111,99,41])=true:=by rw[hm];rfl
    go_wp2;go_roundw;case rel=>exact⟨k+1,cx,cq,trivial⟩
    simp[intOf]<;>omega
   ·have hm2:(!(t.extract k<|k+9).toList==[116,104,105,115,40,100,111,99,41])=false:=by rw[hm];rfl
    go_wp2_with fail;go_quiet (fail);go_wp2_with fail
    go_meet
    exact⟨_,rfl,HSZ,HPX,HRW _,HOW _⟩
   go_wp2_with fail;go_quiet (fail);go_wp2_with fail
   go_meet
   exact⟨_,rfl,HSZ,HPX,HRW _,HOW _⟩
  obtain⟨t2,rfl,hts2,Ye,HR,HO⟩:=hcut;clear HP Za Zt hts;have hRc:cU R wc:=HR.lt;go_wp2_with fail;refine(nJ t2 _ cq).mono ?_;rintro e w7 ⟨hb7,hcase⟩;have HR7:=jI<|HR.below hb7;have HO7:=aB<|HO.below hb7;have hw7:cV w w7:=HO7.size;have hwc:cV w wc:=HO.size;obtain⟨v0,b0,rfl,HV0⟩:∃(v0:Value) (b0:Bool),e=.returned (.tuple #[v0,.bool b0])/\O (b0=true->∃rs:List TR,JB w w7 v0 rs):=by
   rcases hcase with⟨-,e1⟩|⟨v,rs,hd,e1,hM,htx,hok⟩
   ·exact⟨_,_,e1,fun h=>by cases h⟩
   exact⟨_,_,e1,fun _=>⟨rs,hM.lower hwc,hd,by rw[htx];exact Ye,hok,by rw[htx];omega⟩⟩
  clear hb7 hcase HR HO Ye hts2 hwc hRc
  go_upto_if 68 with fail
  go_cut [5] from 69 (fun s5 wd=>(∃rs:List TR,JB w wd s5 rs)/\O (Rd wd R ad len cap)/\O (Only R w wd))
  case first =>
   cases b0;case true=>
    have HV:=jI<|HV0 rfl;go_wp2_with fail
    go_meet
    exact⟨HV,HR7,HO7⟩
   go_wp2_with fail;refine(nJ lastT _ cv).mono ?_;rintro e w8 ⟨hb8,hcase⟩;have HR8:=jI<|HR7.below hb8;have HO8:=aB<|HO7.below hb8;rcases hcase with⟨hno,e1⟩|⟨v,rs,hd,e1,hM,htx,hok⟩
   ·exact absurd (hno Jj LY) (by rw[LZ];decide)
   subst e1;have HV:O (∃rs:List TR,JB w w8 v rs):=⟨rs,hM.lower hw7,hd,by rw[htx];exact GH (x:=100) (y:=111) (z:=99) (c:=118) (by rfl) cv cv cv cv,hok,by rw[htx];decide⟩;clear hb8 hd hM htx hok;go_wp2_with fail
   go_meet
   exact⟨HV,HR8,HO8⟩
  obtain⟨⟨rs,hSR⟩,HR,HO⟩:=hcut;have HSR:=jI hSR;clear hSR HV0 HR7 HO7 hw7;go_wp2_with fail;refine(fw R ad len cap 40 _ HR cq cq).mono ?_;rintro e w9 ⟨⟨x,rfl,hx⟩,hR9,hO9⟩;have HR9:=jI hR9;have HO9:O (Only R w w9):=HO.trans hO9;have HS9:=jI<|HSR.only hRw hO9;clear hR9 hO9 HR HO HSR;obtain⟨t,ts,q,qs,y,ys,hrs,hq,hy⟩:=OX HS9.2.1 HS9.2.2.1;subst hrs;obtain⟨b,cp,hu5⟩:∃b cp,u5=.slice (some<|am b) (ts.length+1) cp:=gF HS9.1.own;subst hu5;have HM9:=jI HS9.1;have HG:=jI HS9.good.1;have HQ:=jI hq;have HYY:=jI hy;have hbw:w.heap.size<=b:=(HM9.own.lt b rfl).1;have hbl:cU b w9:=(HM9.own.lt b rfl).2;have hts0:(0:Int)<(ts.length:Int)+1:=cq;have FAR:O (∀g,w.heap.size<=g->0<len->∀b off,ad=some (aq b off)->b≠g):=fun g hg h0 b off e=>by
   obtain⟨b',off',e',-,hb',-⟩:=H.bytes h0;rw[e]at e';injection e' with e';injection e' with e1 e2;omega
  have hc0:ab w9 b (.string t.name):=(HM9.own.cellAt 0 cq).trans (by simp[TR.cells]);have hc1:ac w9 b 1 (.slice t.ad t.rows.length t.cap):=(HM9.own.cellAt 1 cq).trans (by simp[TR.cells,TR.vs]);have hf0:w9.frozen? (am b)=false:=HM9.own.frozenAt 0;clear HS9 hq hy;by_cases h39:x=39
  ·have h39b:((x:Int)==39)=true:=by simp;omega
   have Yw:O (Uf R ad len cap w (.returned<|.slice (some<|am b) (ts.length+1) cp)<|w9.setCell (am b)<|.string ⟨#[122,111,111]⟩):=⟨_,_,rfl,dA.named ⟨#[122,111,111]⟩ HM9 rfl,Mh HG,HR9.setFar cq<|FAR b hbw,HO9.setNew hbw⟩;go_wp2;go_ret;exact Yw
  have h39b:((x:Int)==39)=false:=by simp;omega
  by_cases h38:x=38
  ·have h38b:((x:Int)==38)=true:=by simp;omega
   subst h38;have hkt:=HM9.kid t ct;have hR9:jJ w9 w.heap.size t.vs (q::qs):=by have:=hkt;unfold kT at this;rwa [HQ]at this
   obtain⟨b1,c1,ht1⟩:∃b1 c1,t.vs=.slice (some<|am b1) (qs.length+1) c1:=gF hR9.own;have hkq:=hR9.kid q ct;have hN9:NodM w9 w.heap.size q.vs (y::ys):=by have:=hkq;unfold kR at this;rwa [HYY]at this
   obtain⟨b2,c2,hq2⟩:∃b2 c2,q.vs=.slice (some<|am b2) (ys.length+1) c2:=gF hN9.own;have hqad:q.ad=some (am b2):=by unfold RR.vs at hq2;injection hq2
   rw[ht1]at hR9;rw[hq2]at hN9;have hv1:Value.slice t.ad t.rows.length t.cap=.slice (some<|am b1) (qs.length+1) c1:=ht1;rw[hv1]at hc1;have hd1:ac w9 b1 1 (.slice (some<|am b2) (ys.length+1) c2):=(hR9.own.cellAt 1 cq).trans (by simp[RR.cells,hq2]);have hk0:ab w9 b2 (.int .i64 y.e.kind):=(hN9.own.cellAt 0 cq).trans (by simp[dV,ER.row]);have hk1:w9.frozen? (am b2)=false:=hN9.own.frozenAt 0;have l1:=hR9.own.lt b1 rfl;have l2:=hN9.own.lt b2 rfl;have hqs0:(0:Int)<(qs.length:Int)+1:=cq
   have hys0:(0:Int)<(ys.length:Int)+1:=cq;have HQAD:=jI hqad;clear hkt hkq hR9 hN9 ht1 hq2 hqad hv1 hc0 hf0;go_wp2_with fail;refine mI 11 _ _ (fun k v _=>(k=8->∃z:Int,v=.int .i64 z)/\(k≠8->v=(Value.slice (some<|am b) (ts.length+1) cp::.pointer (some<|am b)::.pointer (some<|aq b 1)::.slice (some<|am b1) (qs.length+1) c1::.pointer (some<|am b1)::.pointer (some<|aq b1 1)::.slice (some<|am b2) (ys.length+1) c2::.pointer (some<|am R)::undef::.pointer (some<|am b2)::.pointer (some<|am b2)::[]).getD k undef)) (fun _ w'=>Rd w' R ad len cap/\Only R w9 w') cw rfl cw cw (vQ [(82,[0,1,2,3,4,5,6,7,8,9,10])]) ⟨HR9.below<|(WL _ _).drew,(Only.refl R w9).drewN 1⟩ ?stepK ?finK<;>dsimp only[uI];case stepK =>
    rintro i hi o ho listed fq w' - - ⟨hR',Yt⟩ hpre;have HRr:=aB hR';have HOo:=aB Yt;replace hc1:=(Yt.cell hbl cq).trans hc1;replace hd1:=(Yt.cell l1.2 cq).trans hd1;have HM:O (∀e∈o.after,Region.binds .any e=true->_):=hpre;clear hR' Yt hpre;have hc:=GY (i:=i) cq;clear hi
    repeat' rcases hc with rfl|hc
    ·cases ho;refine aa rfl fun K HK=>?_;clear HM;dsimp only;go_simp;exact HK _ _ ⟨Value.slice (some ⟨b,0,none⟩) (ts.length+1) cp,by simp[upd],⟨HRr,HOo⟩,⟨fun h=>absurd h cv,fun _=>rfl⟩,fun k u _ hu=>hu⟩
    ·cases ho;have e0:fq 0=.slice (some<|am b) (ts.length+1) cp:=(HM ⟨0,.data⟩ ct rfl).2 cv;refine aa rfl fun K HK=>?_;clear HM;simp only[e0];go_simp;exact HK _ _ ⟨Value.pointer<|some ⟨b,0,none⟩,by simp[upd,e0],⟨HRr,HOo⟩,⟨fun h=>absurd h cv,fun _=>rfl⟩,fun k u _ hu=>hu⟩
    ·cases ho;have e1:fq 1=.pointer (some<|am b):=(HM ⟨1,.data⟩ ct rfl).2 cv;refine aa rfl fun K HK=>?_;clear HM;simp only[e1];go_simp;exact HK _ _ ⟨Value.pointer<|some ⟨b,1,none⟩,by simp[upd,e1],⟨HRr,HOo⟩,⟨fun h=>absurd h cv,fun _=>rfl⟩,fun k u _ hu=>hu⟩
    ·cases ho;have e2:fq 2=.pointer (some<|aq b 1):=(HM ⟨2,.data⟩ ct rfl).2 cv;refine aa rfl fun K HK=>?_;clear HM;simp only[e2];go_simp;exact HK _ _ ⟨Value.slice (some ⟨b1,0,none⟩) (qs.length+1) c1,by simp[upd,e2],⟨HRr,HOo⟩,⟨fun h=>absurd h cv,fun _=>rfl⟩,fun k u _ hu=>hu⟩
    ·cases ho;have e3:fq 3=.slice (some<|am b1) (qs.length+1) c1:=(HM ⟨3,.data⟩ ct rfl).2 cv;refine aa rfl fun K HK=>?_;clear HM;simp only[e3];go_simp;exact HK _ _ ⟨Value.pointer<|some ⟨b1,0,none⟩,by simp[upd,e3],⟨HRr,HOo⟩,⟨fun h=>absurd h cv,fun _=>rfl⟩,fun k u _ hu=>hu⟩
    ·cases ho;have e4:fq 4=.pointer (some<|am b1):=(HM ⟨4,.data⟩ ct rfl).2 cv;refine aa rfl fun K HK=>?_;clear HM;simp only[e4];go_simp;exact HK _ _ ⟨Value.pointer<|some ⟨b1,1,none⟩,by simp[upd,e4],⟨HRr,HOo⟩,⟨fun h=>absurd h cv,fun _=>rfl⟩,fun k u _ hu=>hu⟩
    ·cases ho;have e5:fq 5=.pointer (some<|aq b1 1):=(HM ⟨5,.data⟩ ct rfl).2 cv;refine aa rfl fun K HK=>?_;clear HM;simp only[e5];go_simp;exact HK _ _ ⟨Value.slice (some ⟨b2,0,none⟩) (ys.length+1) c2,by simp[upd,e5],⟨HRr,HOo⟩,⟨fun h=>absurd h cv,fun _=>rfl⟩,fun k u _ hu=>hu⟩
    ·cases ho;refine aa rfl fun K HK=>?_;clear HM;dsimp only;go_simp;exact HK _ _ ⟨Value.pointer<|some ⟨R,0,none⟩,by simp[upd],⟨HRr,HOo⟩,⟨fun h=>absurd h cv,fun _=>rfl⟩,fun k u _ hu=>hu⟩
    ·cases ho;have e7:fq 7=.pointer (some<|am R):=(HM ⟨7,.data⟩ ct rfl).2 cv;refine aa rfl fun K HK=>?_;clear HM;simp only[e7];go_simp;refine(Tv R ad len cap 1 6 _ HRr cv cv cv).mono ?_;rintro e w10 ⟨⟨z,rfl⟩,hR10,hO10⟩;have HR10:=jI hR10;have HO10:=jI hO10;clear hR10 hO10;go_wp2_with fail;exact HK _ _ ⟨.int .i64 z,by simp[upd,e7],⟨HR10,HOo.trans HO10⟩,⟨fun _=>⟨z,rfl⟩,fun h=>absurd rfl h⟩,fun k u _ hu=>hu⟩
    ·cases ho;have e6:fq 6=.slice (some<|am b2) (ys.length+1) c2:=(HM ⟨6,.data⟩ ct rfl).2 cv;refine aa rfl fun K HK=>?_;clear HM;simp only[e6];go_simp;exact HK _ _ ⟨Value.pointer<|some ⟨b2,0,none⟩,by simp[upd,e6],⟨HRr,HOo⟩,⟨fun h=>absurd h cv,fun _=>rfl⟩,fun k u _ hu=>hu⟩
    cases ho;have e9:fq 9=.pointer (some<|am b2):=(HM ⟨9,.data⟩ ct rfl).2 cv;refine aa rfl fun K HK=>?_;clear HM;simp only[e9];go_simp;exact HK _ _ ⟨Value.pointer<|some ⟨b2,0,none⟩,by simp[upd,e9],⟨HRr,HOo⟩,⟨fun h=>absurd h cv,fun _=>rfl⟩,fun k u _ hu=>hu⟩
   case finK =>
    rintro o ho listed fq w' ⟨hR',Yt⟩ hall;have HRr:=aB hR';have HOo:O (Only R w w'):=HO9.trans Yt;obtain⟨z,ez⟩:=(hall 8 cq).1 rfl;replace ez:fq 8=_:=ez;have e10:fq 10=.pointer (some<|am b2):=(hall 10 cq).2 cq;replace hk0:=(Yt.cell l2.2 cq).trans hk0;replace hk1:=(Yt.frozen (o:=0) l2.2 cq).trans hk1;have hM':dA w' w.heap.size (.slice (some<|am b) (ts.length+1) cp) (t::ts):=HM9.heap jW Yt.size fun g hg=>Yt.block g (HM9.lt jW hg).2 (fun e=>by injection e with e;have:=(HM9.lt jW hg).1;omega);have Yw:O (Uf R ad len cap w (.returned<|.slice (some<|am b) (ts.length+1) cp)<|w'.setCell (am b2)<|.int .i64 z):=⟨_,_,rfl,dA.kind z hM' HQ HYY HQAD,Po z HG HQ HYY,HRr.setFar cq<|FAR b2 l2.1,HOo.setNew l2.1⟩;cases ho;clear hall hR' Yt hM';refine aa rfl fun K HK=>?_;simp only[ez,e10];go_simp;refine HK _ _ ?_;clear HK;go_wp2;go_ret;exact Yw
  have h38b:((x:Int)==38)=false:=by simp;omega
  go_wp2;go_ret;exact⟨_,_,rfl,HM9,HG,HR9,HO9⟩
set_option maxRecDepth 100000 in
def GI(ad:Q02)(cap:Nat)(rs:Q06)(oa ob r c d s:ByteArray)(w:af)(hlen:bh rs)(hs:jX w ad rs)(hl:∀r∈rs,r.light)(hf:∀r∈rs,r.fits)(ha:oa.size<=maxLen)(hb:ob.size<=maxLen)(hr:r.size<=maxLen)(hc:c.size<=maxLen)(hd:d.size<=maxLen)(hz:s.size<=maxLen):
  Calls prog 182 #[.slice ad rs.length cap,.agg #[.string oa,.string ob,.string r,.string c,.string d,.string s]] w (bj w<|.bool<|oq (ae rs) oa ob r c d s):=by
 have HS:=aB hs;have HL:=aB hl;have Yc:=aB hf;clear hs hl hf;obtain⟨W0,hW0⟩:=eQx<|w.alloc<|.cells (cX oa ob r c d s) 29;have hal:ag w W0:=by rw[hW0];exact(WL _ _).alloc (WK _) _
 have HB0:=aB hal;have hw0:w.heap.size<W0.heap.size:=by rw[hW0];simp
 have c0:W0.cell? (a7 w)=some (.string oa):=by rw[hW0];simp
 have c1:W0.cell? (a8 w 1)=some (.string ob):=by rw[hW0];simp
 have c2:W0.cell? (a8 w 2)=some (.string r):=by rw[hW0];simp
 have c3:W0.cell? (a8 w 3)=some (.string c):=by rw[hW0];simp
 have c4:W0.cell? (a8 w 4)=some (.string d):=by rw[hW0];simp
 have c5:W0.cell? (a8 w 5)=some (.string s):=by rw[hW0];simp
 clear hal;go_enter func182,ntmps182;go_wp2_with fail;rw[<-hW0];clear hW0;refine(gI ad cap rs _ hlen (HS.below HB0) HL Yc).mono ?_;rintro e w1 ⟨rfl,hb1⟩;have HB1:=iD HB0 hb1;have hw1:cW w w1:=WJ hw0 hb1.size;replace c0:=aD hb1 hw0 c0;replace c1:=aD hb1 hw0 c1;replace c2:=aD hb1 hw0 c2;replace c3:=aD hb1 hw0 c3;replace c4:=aD hb1 hw0 c4;replace c5:=aD hb1 hw0 c5;clear hb1 hw0;cases hd5:aG (ae rs);case false=>
  have HN:O (oq (ae rs) oa ob r c d s=false):=by show _=_;unfold oq;rw[hd5];rfl
  go_wp2;go_ret;exact⟨by rw[HN];rfl,HB1⟩
 have HN:O (oq (ae rs) oa ob r c d s=pO (ae rs) oa ob r c d s):=by show _=_;unfold oq;rw[hd5];rfl
 go_wp2_with fail;refine(Ma ad cap rs oa ob r c d s _ hlen (HS.below HB1) HL ha hb hr hc hd hz).mono ?_;rintro e w2 ⟨rfl,hb2⟩;have HB2:=iD HB1 hb2;clear hb2;go_wp2;go_ret;exact⟨by rw[HN];rfl,HB2⟩
def dA.only{wc wd:af}{R base:Nat}{v:Value}{rs:Q06}(h:dA wc base v rs)(hR:R<base)(ho:Only R wc wd):dA wd base v rs :=
 h.heap jW ho.size fun g hg=>ho.block g (h.lt jW hg).2 (fun e=>by injection e with e;have:=(h.lt jW hg).1;omega)
def dA.slT{w:af}{R base cap:Nat}{Zk:Q02}{rs:Q06}(h:dA w base (.slice Zk rs.length cap) rs)(hR:R<base):∀W,Only R w W->jX W Zk rs:=fun W hO=>by
 obtain⟨Yh,cap',e,hs,-⟩:=(h.only hR hO).read;injection e with e1 e2 e3;subst e1;exact hs
def Sm(w:World)(n:Nat)(a b r c d s:ByteArray):Prop:=w.cell? ⟨n,0,none⟩=some (.string a)/\w.cell? ⟨n,1,none⟩=some (.string b)/\w.cell? ⟨n,2,none⟩=some (.string r)/\w.cell? ⟨n,3,none⟩=some (.string c)/\w.cell? ⟨n,4,none⟩=some (.string d)/\w.cell? ⟨n,5,none⟩=some (.string s)
def Sm.same{w w':af}{n:Nat}{a b r c d s:ByteArray}(h:Sm w n a b r c d s)(hk:∀o,w'.cell? (aq n o)=w.cell? (aq n o)):Sm w' n a b r c d s :=
 ⟨(hk _).trans h.1,(hk _).trans h.2.1,(hk _).trans h.2.2.1,(hk _).trans h.2.2.2.1,(hk _).trans h.2.2.2.2.1,(hk _).trans h.2.2.2.2.2⟩
def GJ{w w':af}{base g c n:Nat}{xs:Q03}(h:w.ownsRow base 29 6 (.slice (some<|am g) n c) n xs)(hb:ag w w'):w'.ownsRow base 29 6 (.slice (some<|am g) n c) n xs :=
 h.kept (row:=none) ⟨hb.os,hb.tape,hb.output,hb.size,fun i hi _=>hb.block i hi⟩ (.inr<|by simp[Value.ownBlock])
def DC(R:Nat)(ad:Q02)(len cap:Nat)(Zk:Q02)(ZA base:Nat)(rs:Q06)(w:af)(h:Rd w R ad len cap)(hRb:R<base)(hT:dA w base (.slice Zk rs.length ZA) rs)(hG:GoodS rs):
  Calls prog 109 #[.pointer (some<|am R),.slice Zk rs.length ZA,.int .i64 12] w fun e w'=>(∃(g c:Nat) (ts:Q05),e=.returned (.slice (some<|am g) ts.length c)/\ts.length<=12/\su ts/\cD w w' 29 6 (.slice (some<|am g) ts.length c) ts.length (bn ts))/\Rd w' R ad len cap/\Only R w w':=by
 have hRw:=h.lt;have HS:O (∀W,Only R w W->jX W Zk rs):=hT.slT hRb;obtain⟨hG1,hG2,hG3⟩:=hG;have hlen:bh rs:=cq;have HL:=cZ hG2;have HF:=cZ hG3;clear hG2 hG3 hT;obtain⟨W0,hW0⟩:=eQx<|w.alloc<|.cells #[] 29;have HLIT:O (cD w W0 29 6 (.slice (some<|a7 w) 0 0) 0<|bn []):=by
  show World.ownsRow _ _ _ _ _ _ _;rw[hW0];exact World.ownsRow_lit w #[] 0 (WK _) cy ct
 have Y7:O (Rd W0 R ad len cap):=by show Rd _ _ _ _ _;rw[hW0];exact h.alloc _
 have ZV:O (Only R w W0):=by show Only _ _ _;rw[hW0];exact(Only.refl _ _).alloc _
 clear h;go_enter func109,ntmps109;go_wp2_with fail;rw[<-hW0];clear hW0;refine(dx R ad len cap 13 _ Y7 cq cq).mono ?_;rintro e w1 ⟨⟨x,rfl,hx0,hx1⟩,YD,YL⟩;have HR1:=cZ YD;have Yu:O (Only R w w1):=ZV.trans YL;have HL1:O (cD w w1 29 6 (.slice (some<|a7 w) 0 0) 0<|bn []):=Cz HLIT hRw YL;clear YD YL HLIT Y7 ZV;go_wp2_with fail;go_loopw[7,8] (fun v i wr=>∃(k:Nat) (ts:Q05) (g c:Nat),i=.int .i64 k/\ts.length+k<=12/\v=.slice (some<|am g) ts.length c/\O (su ts)/\O (cD w wr 29 6 v ts.length<|bn ts)/\O (Rd wr R ad len cap)/\O (Only R w wr)) (fun _ i _=>(intOf i).toNat);case atStart=>exact⟨x.toNat,[],w.heap.size,0,by rw[Int.toNat_of_nonneg hx0],by simp;omega,rfl,O0,HL1,HR1,Yu⟩
 clear HL1 HR1 Yu hx0 hx1;obtain⟨k,ts,g,c,rfl,hk,rfl,HSh,HOw,HR,HO⟩:=hrel;by_cases hk0:0<k
 ·have hk1:(0:Int)<(k:Int):=cq;go_wp2_with fail;refine(Oh R ad len cap _ HR).mono ?_;rintro e w2 ⟨⟨a,b,r,c2,d,s,rfl,ha,hb,hr,hc,hd,hs⟩,hR2,hO2⟩;have HT:O (Tp.short ⟨a,b,r,c2,d,s⟩):=⟨ha,hb,hr,hc,hd,hs⟩;obtain⟨f1,f2,f3,f4,f5,f6⟩:=HT.fits;obtain⟨W2,hW2⟩:=eQx<|w2.alloc<|.cells (cX a b r c2 d s) 29;have HR2:O (Rd W2 R ad len cap):=by show Rd _ _ _ _ _;rw[hW2];exact hR2.alloc _
  have Yk:O (Only R w W2):=by show Only _ _ _;rw[hW2];exact(HO.trans hO2).alloc _
  have HOw2:O (cD w W2 29 6 (.slice (some<|am g) ts.length c) ts.length<|bn ts):=by show World.ownsRow _ _ _ _ _ _ _;rw[hW2];exact(Cz HOw hRw hO2).alloc _
  have hz2:w2.heap.size<W2.heap.size:=by rw[hW2];simp
  have hnR:w2.heap.size≠R:=by have:=hR2.lt;omega
  have HC:O (Sm W2 w2.heap.size a b r c2 d s):=by
   show Sm _ _ _ _ _ _ _ _;rw[hW2];refine⟨?_,?_,?_,?_,?_,?_⟩<;>simp
  clear ha hb hr hc hd hs hR2 hO2 HR HO HOw;go_wp2_with fail;rw[<-hW2];clear hW2;refine(GI Zk ZA rs _ _ _ _ _ _ _ hlen (HS _ Yk) HL HF f1 f2 f3 f4 f5 f6).mono ?_;rintro e w3 ⟨rfl,hb3⟩;have HR3:=aB<|HR2.below hb3;have YK:=aB<|Yk.below hb3;have HOw3:=cZ<|GJ HOw2 hb3;have HC3:=cZ<|HC.same fun o=>hb3.cell (p:=⟨_,o,none⟩) hz2;have hz3:=WJ hz2 hb3.size;clear hb3 HR2 Yk HOw2 HC hz2;cases hq:oq (ae rs) a b r c2 d s;case true=>
   obtain⟨c0,c1,c2',c3,c4,c5⟩:=HC3.out;clear hq;have HA:=cZ<|uC g 0 c ts ⟨a,b,r,c2,d,s⟩ w3 cq (qJ HOw3 rfl).2.2.1 (qJ HOw3 rfl).1 (qJ HOw3 rfl).2.1 HSh.fits HT.fits;go_wp2_with fail;refine HA.mono ?_;rintro e w5 ⟨v5,rfl,hown5,hb5⟩;have Yz:=aB<|HR3.below hb5;have Yi:=aB<|YK.below hb5;clear c0 c1 c2' c3 c4 c5;cases hz:uj ts ⟨a,b,r,c2,d,s⟩;case true=>
    rw[Cy hz,tQ]at hown5;obtain⟨g3,c3,rfl⟩:=uD hown5;have HOw5:O (cD w w5 29 6 (.slice (some<|am g3) (ts.length+1) c3) (ts.length+1)<|bn<|kD ts ⟨a,b,r,c2,d,s⟩):=fV hown5 YK.size;have HSh5:O (su<|kD ts ⟨a,b,r,c2,d,s⟩):=HSh.put HT;have HLP:=cZ<|tQ ts ⟨a,b,r,c2,d,s⟩;have HQ:=cZ hz;clear hown5 hb5 hz HA HOw3 HR3 YK;go_wp2;go_roundw;case rel=>exact⟨k-1,kD ts ⟨a,b,r,c2,d,s⟩,g3,c3,by rw[show((k-1:Nat):Int)=(k:Int)-1 by omega],by rw[HLP];omega,by rw[HLP],HSh5,by rw[HLP];exact HOw5,Yz,Yi⟩
    simp[intOf];omega
   have HOw5:=cZ<|GJ HOw3 hb5;rw[tO hz]at hown5;obtain⟨ad5,cap5,hv5,-,-⟩:=Ip (ts:=[]) hown5 rfl;subst hv5;have HQ:=cZ hz;clear hown5 hb5 hz HA HOw3 HR3 YK;go_wp2;go_roundw;case rel=>exact⟨k-1,ts,g,c,by rw[show((k-1:Nat):Int)=(k:Int)-1 by omega],cq,rfl,HSh,HOw5,Yz,Yi⟩
   simp[intOf];omega
  clear hq;go_wp2_with fail;refine(ko R ad len cap 60 _ HR3 cq cq).mono ?_;rintro e w4 ⟨⟨q,rfl⟩,ZI,hO4⟩;have HR4:=cZ ZI;have YG:O (Only R w w4):=YK.trans hO4;have HOw4:=cZ<|Cz HOw3 hRw hO4;have HC4:=cZ<|HC3.same fun o=>hO4.cell (b:=w2.heap.size) (o:=o) hz3 hnR;clear ZI hO4 HR3 YK HOw3 HC3;cases q;case true=>
   obtain⟨c0,c1,c2',c3,c4,c5⟩:=HC4.out;have HA:=cZ<|uC g 0 c ts ⟨a,b,r,c2,d,s⟩ w4 cq (qJ HOw4 rfl).2.2.1 (qJ HOw4 rfl).1 (qJ HOw4 rfl).2.1 HSh.fits HT.fits;go_wp2_with fail;refine HA.mono ?_;rintro e w5 ⟨v5,rfl,hown5,hb5⟩;have Yz:=aB<|HR4.below hb5;have Yi:=aB<|YG.below hb5;clear c0 c1 c2' c3 c4 c5;cases hz:uj ts ⟨a,b,r,c2,d,s⟩;case true=>
    rw[Cy hz,tQ]at hown5;obtain⟨g3,c3,rfl⟩:=uD hown5;have HOw5:O (cD w w5 29 6 (.slice (some<|am g3) (ts.length+1) c3) (ts.length+1)<|bn<|kD ts ⟨a,b,r,c2,d,s⟩):=fV hown5 YG.size;have HSh5:O (su<|kD ts ⟨a,b,r,c2,d,s⟩):=HSh.put HT;have HLP:=cZ<|tQ ts ⟨a,b,r,c2,d,s⟩;have HQ:=cZ hz;clear hown5 hb5 hz HA HOw4 HR4 YG;go_wp2;go_roundw;case rel=>exact⟨k-1,kD ts ⟨a,b,r,c2,d,s⟩,g3,c3,by rw[show((k-1:Nat):Int)=(k:Int)-1 by omega],by rw[HLP];omega,by rw[HLP],HSh5,by rw[HLP];exact HOw5,Yz,Yi⟩
    simp[intOf];omega
   have HOw5:=cZ<|GJ HOw4 hb5;rw[tO hz]at hown5;obtain⟨ad5,cap5,hv5,-,-⟩:=Ip (ts:=[]) hown5 rfl;subst hv5;have HQ:=cZ hz;clear hown5 hb5 hz HA HOw4 HR4 YG;go_wp2;go_roundw;case rel=>exact⟨k-1,ts,g,c,by rw[show((k-1:Nat):Int)=(k:Int)-1 by omega],cq,rfl,HSh,HOw5,Yz,Yi⟩
   simp[intOf];omega
  go_wp2;go_roundw;case rel=>exact⟨k-1,ts,g,c,by rw[show((k-1:Nat):Int)=(k:Int)-1 by omega],cq,rfl,HSh,HOw4,HR4,YG⟩
  simp[intOf];omega
 obtain rfl:k=0:=cq;go_wp2;go_ret;exact⟨⟨g,c,ts,rfl,cq,HSh,HOw⟩,HR,HO⟩
section
variable  {P:Program}{ops:Array Oper}{Q:Exit->Act->World->Prop}
def nM{id:Nat}{a:Act}{w:af}(N:Nat)(f0:Nat->Value)(F:(Nat->Value)->Act)(V:Nat->Value->World->Prop)(G:World->Prop)
  (hm:P.follows .mixedOrders=true) (hsz:ops.size=N) (YC:xU ops=true)
  (h0:a=F f0) (hG0:G w.drew)
  (hstep:∀ i,i<N->∀ o,ops[i]?=some o->∀ f w',G w'->(∀ e∈o.after,Region.binds .any e=true->V e.on (f e.on) w') ->
   wpOp P ops Q i (fun a' w''=>∃v,a'=F (upd f i v)/\G w''/\V i v w''/\∀k u,V k u w'->V k u w'') (F f) w')
  (hend:∀f w',G w'->(∀k,k<N->V k (f k) w')->Q .normal (F f) w') :
  (Code.region id ops true).wp P Q a w:=by
 refine eY (fun listed a' w'=>listed.size=N/\∃f,a'=F f/\G w'/\∀k,k<N->listed.getD k false=true->V k (f k) w') hm ?_ ?_ ?_
 ·refine⟨by simpa using hsz,_,h0,hG0,fun k _ h=>?_⟩;rw[Xf,Xz]at h;split at h<;>cases h
 ·rintro listed a' w' ⟨hs,f,rfl,hG,hV⟩ i hi;obtain⟨hl,o,ho,hpre⟩:=mem_ready.1 hi;have hiN:i<N:=by have:=(WQ.1 ho).1;omega
  refine wpOp_mono ?_ (hstep i hiN o ho f w' hG fun e he hb=>hV e.on (by have:=mi YC i o ho e he hb;omega) (hpre e he hb));rintro a'' w'' ⟨v,rfl,hG',hv,hmono⟩;refine⟨by simpa using hs,_,rfl,hG',fun k hk hkl=>?_⟩;rw[aO _ _ _ cq]at hkl;by_cases ek:k=i
  ·subst ek;simpa[upd] using hv
  rw[if_neg ek]at hkl;simp only[upd,if_neg ek];exact hmono _ _<|hV k hk hkl
 rintro listed a' w' ⟨hs,f,rfl,hG,hV⟩ hr;refine hend f w' hG fun k hk=>hV k hk ?_;have:=nQ hr hsz (mi YC) hs k hk;rwa [jY cq]at this
end
def Ug(w:World)(e:Ending)(w':World):Prop:=∃(v:Value) (rs:Q06) (typ rel:ByteArray),e=.returned (.tuple #[v,.string typ,.string rel])/\dA w' w.heap.size v rs/\GoodS rs/\typ.size<=20/\rel.size<=20/\ag w w'
def Wt(w:World)(e:Ending)(w':World):Prop:=∃(v:Value) (rs:Q06) (g c:Nat) (ts:Q05),e=.returned (.tuple #[v,.slice (some ⟨g,0,none⟩) ts.length c])/\dA w' w.heap.size v rs/\GoodS rs/\ts.length<=12/\su ts/\w'.ownsRow w.heap.size 29 6 (.slice (some ⟨g,0,none⟩) ts.length c) ts.length (bn ts)/\ag w w'
def DD(ad:Q02)(len cap:Nat)(w:af)(h:Bytes w ad len):
  Calls prog 40 #[.slice ad len cap] w (Wt w):=by
 have H:=cZ h;clear h;go_enter func40,ntmps40;go_wp2_with fail;refine(H7 ad len cap _ H).mono ?_;rintro e w1 ⟨rfl,YD,hb1⟩;have HR1:=cZ YD;have HB1:=cZ hb1;have hb:=YD.lt;clear YD hb1;go_wp2_with fail;refine(vG w.heap.size ad len cap _ HR1).mono ?_;rintro e w2 ⟨v,rs,rfl,hT2,hG,hR2,hO2⟩;obtain⟨Zk,ZA,rfl,-,-⟩:=hT2.read;have HR2:=cZ hR2;have HB2:O (ag w w2):=Only.toBelow HB1 hO2 HB1.size cq;have HT2:=cZ hT2;have HG:=cZ hG;have hs2:=hR2.lt;clear hT2 hG hR2 hO2 HB1 HR1;go_wp2_with fail;refine(DC w.heap.size ad len cap Zk ZA w1.heap.size rs _ HR2 hb HT2 HG).mono ?_;rintro e w3 ⟨⟨g,c,ts,rfl,hl9,hsh,hown⟩,hR3,hO3⟩
 have Yw:O (Wt w (.returned<|.tuple #[.slice Zk rs.length ZA,.slice (some<|am g) ts.length c]) w3) :=
  ⟨_,rs,g,c,ts,rfl,X8.lower (HT2.only hb hO3) cq,HG,hl9,hsh,fV hown cq,Only.toBelow HB2 hO3 HB2.size cq⟩
 clear hl9 hsh hown hR3 hO3 HR2 HT2 HG HB2;go_wp2;exact bodyPost_ret (v:=.tuple #[.slice Zk rs.length ZA,.slice (some<|am g) ts.length c]) (by simp[results,Tryz.results40,go_sem, *]) rfl Yw
def WF:List (Nat×Nat):=[(0,4),(1,0),(2,4),(3,4),(4,70),(4,110),(4,120),(0,3),(1,0),(2,3),(3,3),(4,70),(4,190),(4,280),(0,4),(1,0),(2,4),(3,4),(4,70),(4,350),(4,420)]
def zY(ad:Q02)(len cap:Nat)(w:af)(h:Bytes w ad len):
  Calls prog 44 #[.slice ad len cap] w (Ug w):=by
 have H:=cZ h;clear h;go_enter func44,ntmps44;go_wp2_with fail;refine(H7 ad len cap _ H).mono ?_;rintro e w1 ⟨rfl,YD,hb1⟩;obtain⟨R,hRR⟩:=eQx w.heap.size;rw[<-hRR]at YD ⊢;have HR1:=cZ YD;have HB1:=cZ hb1;have HRR:=cZ hRR;have HS1:O (R<w1.heap.size/\w.heap.size<=w1.heap.size):=⟨YD.lt,hb1.size⟩;clear YD hb1 hRR;go_wp2_with fail;refine bC 21 _ _ (fun k v w'=>JX R w' v<|WF.getD k (9,0)) (fun w'=>Rd w' R ad len cap/\Only R w1 w') cw rfl cw cw (vQ [(11,[0,1,2,3,4,5,6,7,8,9,10,11,12,13,14,15,16,17,18,19,20])]) ⟨HR1.below<|(WL _ _).drew,(Only.refl R w1).drewN 1⟩ ?step ?fin<;>dsimp only[uI];case step =>
  rintro i hi o ho f w' ⟨hR',Yt⟩ hpre;have HR:=aB hR';have HO:=aB Yt;have hRl:cU R w':=hR'.lt;have HM:O (∀e∈o.after,Region.binds .any e=true->JX R w' (f e.on) (WF.getD e.on (9,0))):=hpre;clear hR' Yt hpre;have hc:=VQ (i:=i) cq;clear hi
  repeat' rcases hc with rfl|hc
  all_goals obtain rfl:=Option.some.inj ho
  case _ =>
   have K1:O (Only R w'<|w'.alloc<|.cells #[.string ⟨#[118,105,101,119,101,114,32,45,32,98,97,110,110,101,100]⟩,.string ⟨#[118,105,101,119,101,114,32,38,32,111,119,110,101,114]⟩,.string ⟨#[118,105,101,119,101,114,32,124,32,112,97,114,101,110,116,45,62,111,119,110,101,114]⟩,.string ⟨#[111,119,110]⟩] 9):=(Only.refl R w').alloc _;refine aa rfl fun K HK=>?_;clear ho HM;dsimp only;go_simp;exact HK _ _ ⟨.slice (some ⟨w'.heap.size,0,none⟩) 4 4,by simp[upd],⟨HR.alloc _,HO.alloc _⟩,⟨_,rfl,jB w' R 70 hRl (xs:=[_,_,_,_]) cv⟩,fun k u hu=>JX.only K1 _ hu⟩
  case _ =>
   refine aa rfl fun K HK=>?_;clear ho HM;dsimp only;go_simp;exact HK _ _ ⟨Value.pointer<|some ⟨R,0,none⟩,by simp[upd],⟨HR,HO⟩,rfl,fun k u hu=>hu⟩
  case _ =>
   have e1:f 1=Value.pointer (some<|am R):=HM ⟨1,.data⟩ ct rfl;refine aa rfl fun K HK=>?_;clear ho HM;simp only[e1];go_simp;refine(fw R ad len cap 4 _ HR cq cq).mono ?_;rintro e w5 ⟨⟨x,rfl,hx⟩,Ym,YA⟩;have Yz:=jI Ym;have Yi:=jI YA;clear Ym YA;go_wp2_with fail;exact HK _ _ ⟨.int .i64 (x:Int),by simp[upd,e1],⟨Yz,HO.trans Yi⟩,⟨x,rfl,hx⟩,fun k u hu=>JX.only Yi _ hu⟩
  case _ =>
   obtain⟨g,e1,hS⟩:=HM ⟨0,.data⟩ ct rfl;obtain⟨x,e2,hx⟩:=HM ⟨2,.data⟩ ct rfl;replace e1:f 0=_:=e1;replace e2:f 2=_:=e2;have HS:=aB hS;clear hS;have hx0:=bY x;have hx1:(x:Int)<4:=cq;refine aa rfl fun K HK=>?_;clear ho HM;simp only[e1,e2];go_simp;exact HK _ _ ⟨.pointer<|some ⟨g,x,none⟩,by simp[upd,e1,e2],⟨HR,HO⟩,⟨g,x,rfl,hx,HS⟩,fun k u hu=>hu⟩
  case _ =>
   obtain⟨g,x,e1,hx,hS⟩:=HM ⟨3,.data⟩ ct rfl;replace e1:f 3=_:=e1;obtain⟨t,hcell,ht⟩:=hS.2.2 x hx;clear hS;refine aa rfl fun K HK=>?_;clear ho HM;simp only[e1];go_simp;exact HK _ _ ⟨.string t,by simp[upd,e1],⟨HR,HO⟩,⟨t,rfl,ht⟩,fun k u hu=>hu⟩
  case _ =>
   have hc0:(⟨#[116,121,112,101,32,100,111,99,10,98,97,110,110,101,100,32,61,32,116,104,105,115,40,117,115,101,114,41,10,99,97,110,32,61,32]⟩:ByteArray).size=35:=rfl;obtain⟨u2,e1,hu2⟩:=HM ⟨4,.data⟩ ct rfl;replace e1:f 4=_:=e1;have hz:(9223372036854775807<35+u2.size)=False:=by simp;omega
   refine aa rfl fun K HK=>?_;clear ho HM;simp only[e1];go_simp;exact HK _ _ ⟨.string<|(⟨#[116,121,112,101,32,100,111,99,10,98,97,110,110,101,100,32,61,32,116,104,105,115,40,117,115,101,114,41,10,99,97,110,32,61,32]⟩:ByteArray)++u2,by simp[upd,e1],⟨HR,HO⟩,⟨_,rfl,by rw[WY,hc0];omega⟩,fun k u hu=>hu⟩
  case _ =>
   obtain⟨t,e1,ht⟩:=HM ⟨5,.data⟩ ct rfl;replace e1:f 5=_:=e1;have hc0:(⟨#[10,111,119,110,32,61,32]⟩:ByteArray).size=7:=rfl;have hz:(9223372036854775807<t.size+7)=False:=by simp;omega
   refine aa rfl fun K HK=>?_;clear ho HM;simp only[e1];go_simp;exact HK _ _ ⟨.string<|t++(⟨#[10,111,119,110,32,61,32]⟩:ByteArray),by simp[upd,e1],⟨HR,HO⟩,⟨_,rfl,by rw[WY,hc0];omega⟩,fun k u hu=>hu⟩
  case _ =>
   have K1:O (Only R w'<|w'.alloc<|.cells #[.string ⟨#[111,119,110,101,114,32,124,32,112,97,114,101,110,116,45,62,111,119,110]⟩,.string ⟨#[111,119,110,101,114]⟩,.string ⟨#[99,97,110]⟩] 9):=(Only.refl R w').alloc _;refine aa rfl fun K HK=>?_;clear ho HM;dsimp only;go_simp;exact HK _ _ ⟨.slice (some ⟨w'.heap.size,0,none⟩) 3 3,by simp[upd],⟨HR.alloc _,HO.alloc _⟩,⟨_,rfl,jB w' R 70 hRl (xs:=[_,_,_]) cv⟩,fun k u hu=>JX.only K1 _ hu⟩
  case _ =>
   refine aa rfl fun K HK=>?_;clear ho HM;dsimp only;go_simp;exact HK _ _ ⟨Value.pointer<|some ⟨R,0,none⟩,by simp[upd],⟨HR,HO⟩,rfl,fun k u hu=>hu⟩
  case _ =>
   have e1:f 8=Value.pointer (some<|am R):=HM ⟨8,.data⟩ ct rfl;refine aa rfl fun K HK=>?_;clear ho HM;simp only[e1];go_simp;refine(fw R ad len cap 3 _ HR cq cq).mono ?_;rintro e w5 ⟨⟨x,rfl,hx⟩,Ym,YA⟩;have Yz:=jI Ym;have Yi:=jI YA;clear Ym YA;go_wp2_with fail;exact HK _ _ ⟨.int .i64 (x:Int),by simp[upd,e1],⟨Yz,HO.trans Yi⟩,⟨x,rfl,hx⟩,fun k u hu=>JX.only Yi _ hu⟩
  case _ =>
   obtain⟨g,e1,hS⟩:=HM ⟨7,.data⟩ ct rfl;obtain⟨x,e2,hx⟩:=HM ⟨9,.data⟩ ct rfl;replace e1:f 7=_:=e1;replace e2:f 9=_:=e2;have HS:=aB hS;clear hS;have hx0:=bY x;have hx1:(x:Int)<3:=cq;refine aa rfl fun K HK=>?_;clear ho HM;simp only[e1,e2];go_simp;exact HK _ _ ⟨.pointer<|some ⟨g,x,none⟩,by simp[upd,e1,e2],⟨HR,HO⟩,⟨g,x,rfl,hx,HS⟩,fun k u hu=>hu⟩
  case _ =>
   obtain⟨g,x,e1,hx,hS⟩:=HM ⟨10,.data⟩ ct rfl;replace e1:f 10=_:=e1;obtain⟨t,hcell,ht⟩:=hS.2.2 x hx;clear hS;refine aa rfl fun K HK=>?_;clear ho HM;simp only[e1];go_simp;exact HK _ _ ⟨.string t,by simp[upd,e1],⟨HR,HO⟩,⟨t,rfl,ht⟩,fun k u hu=>hu⟩
  case _ =>
   obtain⟨t,e1,ht⟩:=HM ⟨6,.data⟩ ct rfl;replace e1:f 6=_:=e1;obtain⟨u2,e2,hu2⟩:=HM ⟨11,.data⟩ ct rfl;replace e2:f 11=_:=e2;have hz:(9223372036854775807<t.size+u2.size)=False:=by simp;omega
   refine aa rfl fun K HK=>?_;clear ho HM;simp only[e1,e2];go_simp;exact HK _ _ ⟨.string<|t++u2,by simp[upd,e1,e2],⟨HR,HO⟩,⟨_,rfl,by rw[WY];omega⟩,fun k u hu=>hu⟩
  case _ =>
   obtain⟨t,e1,ht⟩:=HM ⟨12,.data⟩ ct rfl;replace e1:f 12=_:=e1;have hc0:(⟨#[10,111,119,110,101,114,32,61,32,116,104,105,115,40,117,115,101,114,41,10,112,97,114,101,110,116,32,61,32,116,104,105,115,40,100,111,99,41,10,118,105,101,119,101,114,32,61,32,116,104,105,115,40,117,115,101,114,44,103,114,111,117,112,35,109,101,109,98,101,114,41,32,124,32]⟩:ByteArray).size=74:=rfl;have hz:(9223372036854775807<t.size+74)=False:=by simp;omega
   refine aa rfl fun K HK=>?_;clear ho HM;simp only[e1];go_simp;exact HK _ _ ⟨.string<|t++(⟨#[10,111,119,110,101,114,32,61,32,116,104,105,115,40,117,115,101,114,41,10,112,97,114,101,110,116,32,61,32,116,104,105,115,40,100,111,99,41,10,118,105,101,119,101,114,32,61,32,116,104,105,115,40,117,115,101,114,44,103,114,111,117,112,35,109,101,109,98,101,114,41,32,124,32]⟩:ByteArray),by simp[upd,e1],⟨HR,HO⟩,⟨_,rfl,by rw[WY,hc0];omega⟩,fun k u hu=>hu⟩
  case _ =>
   have K1:O (Only R w'<|w'.alloc<|.cells #[.string ⟨#[111,119,110]⟩,.string ⟨#[99,97,110]⟩,.string ⟨#[111,119,110,32,124,32,112,97,114,101,110,116,45,62,118,105,101,119,101,114]⟩,.string ⟨#[40,111,119,110,32,38,32,99,97,110,41]⟩] 9):=(Only.refl R w').alloc _;refine aa rfl fun K HK=>?_;clear ho HM;dsimp only;go_simp;exact HK _ _ ⟨.slice (some ⟨w'.heap.size,0,none⟩) 4 4,by simp[upd],⟨HR.alloc _,HO.alloc _⟩,⟨_,rfl,jB w' R 70 hRl (xs:=[_,_,_,_]) cv⟩,fun k u hu=>JX.only K1 _ hu⟩
  case _ =>
   refine aa rfl fun K HK=>?_;clear ho HM;dsimp only;go_simp;exact HK _ _ ⟨Value.pointer<|some ⟨R,0,none⟩,by simp[upd],⟨HR,HO⟩,rfl,fun k u hu=>hu⟩
  case _ =>
   have e1:f 15=Value.pointer (some<|am R):=HM ⟨15,.data⟩ ct rfl;refine aa rfl fun K HK=>?_;clear ho HM;simp only[e1];go_simp;refine(fw R ad len cap 4 _ HR cq cq).mono ?_;rintro e w5 ⟨⟨x,rfl,hx⟩,Ym,YA⟩;have Yz:=jI Ym;have Yi:=jI YA;clear Ym YA;go_wp2_with fail;exact HK _ _ ⟨.int .i64 (x:Int),by simp[upd,e1],⟨Yz,HO.trans Yi⟩,⟨x,rfl,hx⟩,fun k u hu=>JX.only Yi _ hu⟩
  case _ =>
   obtain⟨g,e1,hS⟩:=HM ⟨14,.data⟩ ct rfl;obtain⟨x,e2,hx⟩:=HM ⟨16,.data⟩ ct rfl;replace e1:f 14=_:=e1;replace e2:f 16=_:=e2;have HS:=aB hS;clear hS;have hx0:=bY x;have hx1:(x:Int)<4:=cq;refine aa rfl fun K HK=>?_;clear ho HM;simp only[e1,e2];go_simp;exact HK _ _ ⟨.pointer<|some ⟨g,x,none⟩,by simp[upd,e1,e2],⟨HR,HO⟩,⟨g,x,rfl,hx,HS⟩,fun k u hu=>hu⟩
  case _ =>
   obtain⟨g,x,e1,hx,hS⟩:=HM ⟨17,.data⟩ ct rfl;replace e1:f 17=_:=e1;obtain⟨t,hcell,ht⟩:=hS.2.2 x hx;clear hS;refine aa rfl fun K HK=>?_;clear ho HM;simp only[e1];go_simp;exact HK _ _ ⟨.string t,by simp[upd,e1],⟨HR,HO⟩,⟨t,rfl,ht⟩,fun k u hu=>hu⟩
  case _ =>
   obtain⟨t,e1,ht⟩:=HM ⟨13,.data⟩ ct rfl;replace e1:f 13=_:=e1;obtain⟨u2,e2,hu2⟩:=HM ⟨18,.data⟩ ct rfl;replace e2:f 18=_:=e2;have hz:(9223372036854775807<t.size+u2.size)=False:=by simp;omega
   refine aa rfl fun K HK=>?_;clear ho HM;simp only[e1,e2];go_simp;exact HK _ _ ⟨.string<|t++u2,by simp[upd,e1,e2],⟨HR,HO⟩,⟨_,rfl,by rw[WY];omega⟩,fun k u hu=>hu⟩
  case _ =>
   obtain⟨t,e1,ht⟩:=HM ⟨19,.data⟩ ct rfl;replace e1:f 19=_:=e1;have hc0:(⟨#[10,116,121,112,101,32,103,114,111,117,112,10,109,101,109,98,101,114,32,61,32,116,104,105,115,40,117,115,101,114,44,103,114,111,117,112,35,109,101,109,98,101,114,41,10,116,121,112,101,32,117,115,101,114,10]⟩:ByteArray).size=55:=rfl;have hz:(9223372036854775807<t.size+55)=False:=by simp;omega
   refine aa rfl fun K HK=>?_;clear ho HM;simp only[e1];go_simp;exact HK _ _ ⟨.string<|t++(⟨#[10,116,121,112,101,32,103,114,111,117,112,10,109,101,109,98,101,114,32,61,32,116,104,105,115,40,117,115,101,114,44,103,114,111,117,112,35,109,101,109,98,101,114,41,10,116,121,112,101,32,117,115,101,114,10]⟩:ByteArray),by simp[upd,e1],⟨HR,HO⟩,⟨_,rfl,by rw[WY,hc0];omega⟩,fun k u hu=>hu⟩
 rintro o ho f w2 ⟨hR2,hO2⟩ hall;obtain⟨t,e1,ht⟩:=hall 20 cq;replace e1:f 20=_:=e1;replace ht:t.size<=420:=ht;have HR2:=cZ hR2;have HW2:O (w1.heap.size<=w2.heap.size):=hO2.size;have HB2:O (ag w w2):=Only.toBelow HB1 hO2 HB1.size (by have:=HRR.out;omega);obtain rfl:=Option.some.inj ho;clear ho hall hR2 hO2 HB1 HR1;refine aa rfl fun K HK=>?_;simp only[e1];go_simp;refine HK _ _ ?_;clear HK;go_wp2_with fail;refine(nJ t _ cq).mono ?_;rintro e w3 ⟨hb3,hcase⟩;have HR3:=cZ<|HR2.below hb3;have HB3:=iD HB2 hb3;have HSC:O (Calls prog 89 #[.pointer (some<|am R)] w3<|Uf R ad len cap w3):=vG R ad len cap _ HR3;have HW3:O (w1.heap.size<=w3.heap.size):=WR HW2 hb3.size;have fin:∀(wz:World) (v:Value) (rs:Q06) (B:Nat),dA wz B v rs->GoodS rs->Rd wz R ad len cap->ag w wz->w1.heap.size<=B->O (dA wz w1.heap.size v rs/\GoodS rs/\Rd wz R ad len cap/\ag w wz):=fun wz v rs B h1 h2 h3 h4 h5=>⟨X8.lower h1 h5,h2,h3,h4⟩;rcases hcase with⟨-,rfl⟩|⟨v1,rs1,hd,rfl,hM,htx,hok⟩
 ·clear hb3 HB2 HR2;go_wp2_with fail;refine HSC.mono ?_;rintro e wz ⟨v,rs,rfl,hT4,hG4,ZI,hO4⟩;have HZ:=fin wz v rs w3.heap.size hT4 hG4 ZI (Only.toBelow HB3 hO4 HB3.size (by have:=HRR.out;omega)) HW3;clear hT4 hG4 ZI hO4 fin HSC HR3 HB3 ht e1;have HT2:=cZ HZ.1;have HG:=cZ HZ.2.1;have HR2:=cZ HZ.2.2.1;have HB2:=cZ HZ.2.2.2;have hb:=HS1.1;have HSZ:=cZ HS1.2;clear HZ HS1;go_wp2_with fail;refine nM 9 _ _ (fun k v' w'=>Kd.ok R w' v'<|zQ [.eq v,.strs 4,.eq<|.pointer<|some<|am R,.idx 4,.elt 4,.str,.eq v,.eq<|.string ⟨#[100,111,99]⟩,.str] k) (fun w'=>Rd w' R ad len cap/\Only R wz w') cw rfl cw (vQ [(45,[0,1,2,3,4,5]),(2,[6,7,8])]) ⟨HR2.below<|(WL _ _).drew,(Only.refl R wz).drewN 1⟩ ?step2 ?fin2<;>dsimp only[uI];case step2 =>
   rintro i hi o ho f w' ⟨hR',Yt⟩ hpre;have HR:=aB hR';have HO:=aB Yt;have hRl:cU R w':=hR'.lt;have HM:O (∀e∈o.after,Region.binds .any e=true->Kd.ok R w' (f e.on) (zQ [.eq v,.strs 4,.eq<|.pointer<|some<|am R,.idx 4,.elt 4,.str,.eq v,.eq<|.string ⟨#[100,111,99]⟩,.str] e.on)):=hpre;clear hR' Yt hpre;have hc:=SV (i:=i) cq;clear hi
   repeat' rcases hc with rfl|hc
   all_goals obtain rfl:=Option.some.inj ho
   case _ =>
    refine aa rfl fun K HK=>?_;clear ho HM;dsimp only;go_simp;exact HK _ _ ⟨v,by simp[upd],⟨HR,HO⟩,rfl,fun k u hu=>hu⟩
   case _ =>
    refine aa rfl fun K HK=>?_;clear ho HM;dsimp only;go_simp;exact HK _ _ ⟨_,by simp[upd],⟨HR.alloc _,HO.alloc _⟩,⟨_,rfl,gH w' R hRl (xs:=[_,_,_,_]) cv⟩,fun k u hu=>Kd.only ((Only.refl R w').alloc _) _ hu⟩
   case _ =>
    refine aa rfl fun K HK=>?_;clear ho HM;dsimp only;go_simp;exact HK _ _ ⟨Value.pointer<|some ⟨R,0,none⟩,by simp[upd],⟨HR,HO⟩,rfl,fun k u hu=>hu⟩
   case _ =>
    have e1:f 2=Value.pointer (some<|am R):=HM ⟨2,.data⟩ ct rfl;refine aa rfl fun K HK=>?_;clear ho HM;simp only[e1];go_simp;refine(dx R ad len cap 4 _ HR cq cq).mono ?_;rintro e w5 ⟨⟨x,rfl,hx0,hx1⟩,Ym,YA⟩;obtain⟨x,rfl⟩:∃y:Nat,x=(y:Int):=⟨x.toNat,cq⟩;have Yz:O (Rd w5 R ad len cap/\Only R w' w5):=⟨Ym,YA⟩;clear Ym YA;go_wp2_with fail;exact HK _ _ ⟨.int .i64 (x:Int),by simp[upd,e1],⟨Yz.1,HO.trans Yz.2⟩,⟨x,rfl,cq⟩,fun k u hu=>Kd.only Yz.2 _ hu⟩
   case _ =>
    obtain⟨g,e1,hS⟩:=HM ⟨1,.data⟩ ct rfl;obtain⟨x,e2,hx⟩:=HM ⟨3,.data⟩ ct rfl;replace e1:f 1=_:=e1;replace e2:f 3=_:=e2;have HS:=aB hS;clear hS;have hx0:=bY x;have hx1:(x:Int)<4:=cq;refine aa rfl fun K HK=>?_;clear ho HM;simp only[e1,e2];go_simp;exact HK _ _ ⟨.pointer<|some ⟨g,x,none⟩,by simp[upd,e1,e2],⟨HR,HO⟩,⟨g,x,rfl,hx,HS⟩,fun k u hu=>hu⟩
   case _ =>
    obtain⟨g,x,e1,hx,hS⟩:=HM ⟨4,.data⟩ ct rfl;replace e1:f 4=_:=e1;obtain⟨t,ht,hcell⟩:=hS.2.2 x hx;clear hS;refine aa rfl fun K HK=>?_;clear ho HM;simp only[e1];go_simp;exact HK _ _ ⟨.string t,by simp[upd,e1],⟨HR,HO⟩,⟨t,rfl,ht⟩,fun k u hu=>hu⟩
   case _ =>
    have e1:f 0=v:=HM ⟨0,.data⟩ ct rfl;refine aa rfl fun K HK=>?_;clear ho HM;simp only[e1];go_simp;exact HK _ _ ⟨v,by simp[upd,e1],⟨HR,HO⟩,rfl,fun k u hu=>hu⟩
   case _ =>
    refine aa rfl fun K HK=>?_;clear ho HM;dsimp only;go_simp;exact HK _ _ ⟨_,by simp[upd],⟨HR,HO⟩,rfl,fun k u hu=>hu⟩
   case _ =>
    obtain⟨t,e1,ht⟩:=HM ⟨5,.data⟩ ct rfl;replace e1:f 5=_:=e1;refine aa rfl fun K HK=>?_;clear ho HM;simp only[e1];go_simp;exact HK _ _ ⟨.string t,by simp[upd,e1],⟨HR,HO⟩,⟨t,rfl,ht⟩,fun k u hu=>hu⟩
  case fin2 =>
   rintro f w' ⟨hR',Yt⟩ hall;have e1:f 6=v:=hall 6 cq;have e2:f 7=.string ⟨#[100,111,99]⟩:=hall 7 cq;obtain⟨t,e3,ht⟩:=hall 8 cq;replace e3:f 8=_:=e3
   have Yw:O (Ug w (.returned<|.tuple #[v,.string ⟨#[100,111,99]⟩,.string t]) w') :=
    ⟨_,rs,_,t,rfl,X8.lower (HT2.only hb Yt) HSZ,HG,cv,ht,Only.toBelow HB2 Yt HB2.size (by have:=HRR.out;omega)⟩
   clear hall hR' Yt ht;simp only[e1,e2,e3];go_wp2;exact bodyPost_ret (v:=.tuple #[v,.string ⟨#[100,111,99]⟩,.string t]) (by simp[results,Tryz.results44,go_sem, *]) rfl Yw
 obtain⟨k1,-,k3,k4⟩:=rows_ok hok (by rw[htx];omega);have HM3:=cZ<|X8.lower hM HW2;have ZY:O (GoodS rs1):=⟨k1,k3,k4⟩;clear hb3 HB2 HR2 hM htx hok hd k1 k3 k4;go_wp2_with fail;refine(ko R ad len cap 12 _ HR3 cq cq).mono ?_;rintro e w4 ⟨⟨q,rfl⟩,ZI,hO4⟩;cases q;case true=>
  have YF:O (ag w w4):=Only.toBelow HB3 hO4 HB3.size (by have:=HRR.out;omega);have HR4:=cZ ZI;have HW4:O (w1.heap.size<=w4.heap.size):=WR HW3 hO4.size;clear ZI hO4;go_wp2_with fail;refine(vG R ad len cap _ HR4).mono ?_;rintro e wz ⟨v,rs,rfl,hT5,hG5,Ym,YA⟩;have HZ:=fin wz v rs w4.heap.size hT5 hG5 Ym (Only.toBelow YF YA YF.size (by have:=HRR.out;omega)) HW4;clear hT5 hG5 Ym YA fin HSC HR3 HB3 HM3 ZY HR4 YF ht e1;have HT2:=cZ HZ.1;have HG:=cZ HZ.2.1;have HR2:=cZ HZ.2.2.1;have HB2:=cZ HZ.2.2.2;have hb:=HS1.1;have HSZ:=cZ HS1.2;clear HZ HS1;go_wp2_with fail;refine nM 9 _ _ (fun k v' w'=>Kd.ok R w' v'<|zQ [.eq v,.strs 4,.eq<|.pointer<|some<|am R,.idx 4,.elt 4,.str,.eq v,.eq<|.string ⟨#[100,111,99]⟩,.str] k) (fun w'=>Rd w' R ad len cap/\Only R wz w') cw rfl cw (vQ [(45,[0,1,2,3,4,5]),(2,[6,7,8])]) ⟨HR2.below<|(WL _ _).drew,(Only.refl R wz).drewN 1⟩ ?SF ?fin3<;>dsimp only[uI];case SF =>
   rintro i hi o ho f w' ⟨hR',Yt⟩ hpre;have HR:=aB hR';have HO:=aB Yt;have hRl:cU R w':=hR'.lt;have HM:O (∀e∈o.after,Region.binds .any e=true->Kd.ok R w' (f e.on) (zQ [.eq v,.strs 4,.eq<|.pointer<|some<|am R,.idx 4,.elt 4,.str,.eq v,.eq<|.string ⟨#[100,111,99]⟩,.str] e.on)):=hpre;clear hR' Yt hpre;have hc:=SV (i:=i) cq;clear hi
   repeat' rcases hc with rfl|hc
   all_goals obtain rfl:=Option.some.inj ho
   case _ =>
    refine aa rfl fun K HK=>?_;clear ho HM;dsimp only;go_simp;exact HK _ _ ⟨v,by simp[upd],⟨HR,HO⟩,rfl,fun k u hu=>hu⟩
   case _ =>
    refine aa rfl fun K HK=>?_;clear ho HM;dsimp only;go_simp;exact HK _ _ ⟨_,by simp[upd],⟨HR.alloc _,HO.alloc _⟩,⟨_,rfl,gH w' R hRl (xs:=[_,_,_,_]) cv⟩,fun k u hu=>Kd.only ((Only.refl R w').alloc _) _ hu⟩
   case _ =>
    refine aa rfl fun K HK=>?_;clear ho HM;dsimp only;go_simp;exact HK _ _ ⟨Value.pointer<|some ⟨R,0,none⟩,by simp[upd],⟨HR,HO⟩,rfl,fun k u hu=>hu⟩
   case _ =>
    have e1:f 2=Value.pointer (some<|am R):=HM ⟨2,.data⟩ ct rfl;refine aa rfl fun K HK=>?_;clear ho HM;simp only[e1];go_simp;refine(dx R ad len cap 4 _ HR cq cq).mono ?_;rintro e w5 ⟨⟨x,rfl,hx0,hx1⟩,Ym,YA⟩;obtain⟨x,rfl⟩:∃y:Nat,x=(y:Int):=⟨x.toNat,cq⟩;have Yz:O (Rd w5 R ad len cap/\Only R w' w5):=⟨Ym,YA⟩;clear Ym YA;go_wp2_with fail;exact HK _ _ ⟨.int .i64 (x:Int),by simp[upd,e1],⟨Yz.1,HO.trans Yz.2⟩,⟨x,rfl,cq⟩,fun k u hu=>Kd.only Yz.2 _ hu⟩
   case _ =>
    obtain⟨g,e1,hS⟩:=HM ⟨1,.data⟩ ct rfl;obtain⟨x,e2,hx⟩:=HM ⟨3,.data⟩ ct rfl;replace e1:f 1=_:=e1;replace e2:f 3=_:=e2;have HS:=aB hS;clear hS;have hx0:=bY x;have hx1:(x:Int)<4:=cq;refine aa rfl fun K HK=>?_;clear ho HM;simp only[e1,e2];go_simp;exact HK _ _ ⟨.pointer<|some ⟨g,x,none⟩,by simp[upd,e1,e2],⟨HR,HO⟩,⟨g,x,rfl,hx,HS⟩,fun k u hu=>hu⟩
   case _ =>
    obtain⟨g,x,e1,hx,hS⟩:=HM ⟨4,.data⟩ ct rfl;replace e1:f 4=_:=e1;obtain⟨t,ht,hcell⟩:=hS.2.2 x hx;clear hS;refine aa rfl fun K HK=>?_;clear ho HM;simp only[e1];go_simp;exact HK _ _ ⟨.string t,by simp[upd,e1],⟨HR,HO⟩,⟨t,rfl,ht⟩,fun k u hu=>hu⟩
   case _ =>
    have e1:f 0=v:=HM ⟨0,.data⟩ ct rfl;refine aa rfl fun K HK=>?_;clear ho HM;simp only[e1];go_simp;exact HK _ _ ⟨v,by simp[upd,e1],⟨HR,HO⟩,rfl,fun k u hu=>hu⟩
   case _ =>
    refine aa rfl fun K HK=>?_;clear ho HM;dsimp only;go_simp;exact HK _ _ ⟨_,by simp[upd],⟨HR,HO⟩,rfl,fun k u hu=>hu⟩
   case _ =>
    obtain⟨t,e1,ht⟩:=HM ⟨5,.data⟩ ct rfl;replace e1:f 5=_:=e1;refine aa rfl fun K HK=>?_;clear ho HM;simp only[e1];go_simp;exact HK _ _ ⟨.string t,by simp[upd,e1],⟨HR,HO⟩,⟨t,rfl,ht⟩,fun k u hu=>hu⟩
  case fin3 =>
   rintro f w' ⟨hR',Yt⟩ hall;have e1:f 6=v:=hall 6 cq;have e2:f 7=.string ⟨#[100,111,99]⟩:=hall 7 cq;obtain⟨t,e3,ht⟩:=hall 8 cq;replace e3:f 8=_:=e3
   have Yw:O (Ug w (.returned<|.tuple #[v,.string ⟨#[100,111,99]⟩,.string t]) w') :=
    ⟨_,rs,_,t,rfl,X8.lower (HT2.only hb Yt) HSZ,HG,cv,ht,Only.toBelow HB2 Yt HB2.size (by have:=HRR.out;omega)⟩
   clear hall hR' Yt ht;simp only[e1,e2,e3];go_wp2;exact bodyPost_ret (v:=.tuple #[v,.string ⟨#[100,111,99]⟩,.string t]) (by simp[results,Tryz.results44,go_sem, *]) rfl Yw
 obtain⟨wz,hwz⟩:=eQx w4;obtain⟨v,hv⟩:=eQx v1;have HZ:O (dA w4 w1.heap.size v1 rs1/\GoodS rs1/\Rd w4 R ad len cap/\ag w w4):=⟨HM3.only HS1.1 hO4,ZY,ZI,Only.toBelow HB3 hO4 HB3.size (by have:=HRR.out;omega)⟩;obtain⟨rs,hrs⟩:=eQx rs1;rw[<-hwz,<-hv]at HZ ⊢;rw[<-hrs]at HZ;clear ZI hO4 fin HSC HR3 HB3 HM3 ZY ht e1 hwz hv hrs;have HT2:=cZ HZ.1;have HG:=cZ HZ.2.1;have HR2:=cZ HZ.2.2.1;have HB2:=cZ HZ.2.2.2;have hb:=HS1.1;have HSZ:=cZ HS1.2;clear HZ HS1;go_wp2_with fail;refine nM 9 _ _ (fun k v' w'=>Kd.ok R w' v'<|zQ [.eq v,.strs 4,.eq<|.pointer<|some<|am R,.idx 4,.elt 4,.str,.eq v,.eq<|.string ⟨#[100,111,99]⟩,.str] k) (fun w'=>Rd w' R ad len cap/\Only R wz w') cw rfl cw (vQ [(45,[0,1,2,3,4,5]),(2,[6,7,8])]) ⟨HR2.below<|(WL _ _).drew,(Only.refl R wz).drewN 1⟩ ?step4 ?fin4<;>dsimp only[uI];case step4 =>
  rintro i hi o ho f w' ⟨hR',Yt⟩ hpre;have HR:=aB hR';have HO:=aB Yt;have hRl:cU R w':=hR'.lt;have HM:O (∀e∈o.after,Region.binds .any e=true->Kd.ok R w' (f e.on) (zQ [.eq v,.strs 4,.eq<|.pointer<|some<|am R,.idx 4,.elt 4,.str,.eq v,.eq<|.string ⟨#[100,111,99]⟩,.str] e.on)):=hpre;clear hR' Yt hpre;have hc:=SV (i:=i) cq;clear hi
  repeat' rcases hc with rfl|hc
  all_goals obtain rfl:=Option.some.inj ho
  case _ =>
   refine aa rfl fun K HK=>?_;clear ho HM;dsimp only;go_simp;exact HK _ _ ⟨v,by simp[upd],⟨HR,HO⟩,rfl,fun k u hu=>hu⟩
  case _ =>
   refine aa rfl fun K HK=>?_;clear ho HM;dsimp only;go_simp;exact HK _ _ ⟨_,by simp[upd],⟨HR.alloc _,HO.alloc _⟩,⟨_,rfl,gH w' R hRl (xs:=[_,_,_,_]) cv⟩,fun k u hu=>Kd.only ((Only.refl R w').alloc _) _ hu⟩
  case _ =>
   refine aa rfl fun K HK=>?_;clear ho HM;dsimp only;go_simp;exact HK _ _ ⟨Value.pointer<|some ⟨R,0,none⟩,by simp[upd],⟨HR,HO⟩,rfl,fun k u hu=>hu⟩
  case _ =>
   have e1:f 2=Value.pointer (some<|am R):=HM ⟨2,.data⟩ ct rfl;refine aa rfl fun K HK=>?_;clear ho HM;simp only[e1];go_simp;refine(dx R ad len cap 4 _ HR cq cq).mono ?_;rintro e w5 ⟨⟨x,rfl,hx0,hx1⟩,Ym,YA⟩;obtain⟨x,rfl⟩:∃y:Nat,x=(y:Int):=⟨x.toNat,cq⟩;have Yz:O (Rd w5 R ad len cap/\Only R w' w5):=⟨Ym,YA⟩;clear Ym YA;go_wp2_with fail;exact HK _ _ ⟨.int .i64 (x:Int),by simp[upd,e1],⟨Yz.1,HO.trans Yz.2⟩,⟨x,rfl,cq⟩,fun k u hu=>Kd.only Yz.2 _ hu⟩
  case _ =>
   obtain⟨g,e1,hS⟩:=HM ⟨1,.data⟩ ct rfl;obtain⟨x,e2,hx⟩:=HM ⟨3,.data⟩ ct rfl;replace e1:f 1=_:=e1;replace e2:f 3=_:=e2;have HS:=aB hS;clear hS;have hx0:=bY x;have hx1:(x:Int)<4:=cq;refine aa rfl fun K HK=>?_;clear ho HM;simp only[e1,e2];go_simp;exact HK _ _ ⟨.pointer<|some ⟨g,x,none⟩,by simp[upd,e1,e2],⟨HR,HO⟩,⟨g,x,rfl,hx,HS⟩,fun k u hu=>hu⟩
  case _ =>
   obtain⟨g,x,e1,hx,hS⟩:=HM ⟨4,.data⟩ ct rfl;replace e1:f 4=_:=e1;obtain⟨t,ht,hcell⟩:=hS.2.2 x hx;clear hS;refine aa rfl fun K HK=>?_;clear ho HM;simp only[e1];go_simp;exact HK _ _ ⟨.string t,by simp[upd,e1],⟨HR,HO⟩,⟨t,rfl,ht⟩,fun k u hu=>hu⟩
  case _ =>
   have e1:f 0=v:=HM ⟨0,.data⟩ ct rfl;refine aa rfl fun K HK=>?_;clear ho HM;simp only[e1];go_simp;exact HK _ _ ⟨v,by simp[upd,e1],⟨HR,HO⟩,rfl,fun k u hu=>hu⟩
  case _ =>
   refine aa rfl fun K HK=>?_;clear ho HM;dsimp only;go_simp;exact HK _ _ ⟨_,by simp[upd],⟨HR,HO⟩,rfl,fun k u hu=>hu⟩
  case _ =>
   obtain⟨t,e1,ht⟩:=HM ⟨5,.data⟩ ct rfl;replace e1:f 5=_:=e1;refine aa rfl fun K HK=>?_;clear ho HM;simp only[e1];go_simp;exact HK _ _ ⟨.string t,by simp[upd,e1],⟨HR,HO⟩,⟨t,rfl,ht⟩,fun k u hu=>hu⟩
 case fin4 =>
  rintro f w' ⟨hR',Yt⟩ hall;have e1:f 6=v:=hall 6 cq;have e2:f 7=.string ⟨#[100,111,99]⟩:=hall 7 cq;obtain⟨t,e3,ht⟩:=hall 8 cq;replace e3:f 8=_:=e3
  have Yw:O (Ug w (.returned<|.tuple #[v,.string ⟨#[100,111,99]⟩,.string t]) w') :=
   ⟨_,rs,_,t,rfl,X8.lower (HT2.only hb Yt) HSZ,HG,cv,ht,Only.toBelow HB2 Yt HB2.size (by have:=HRR.out;omega)⟩
  clear hall hR' Yt ht;simp only[e1,e2,e3];go_wp2;exact bodyPost_ret (v:=.tuple #[v,.string ⟨#[100,111,99]⟩,.string t]) (by simp[results,Tryz.results44,go_sem, *]) rfl Yw
end Go.Proofs.YtojjoblnpldniaaGreat
