/- Contract of the document's function that writes a schema's lines, right or not, where these are few bytes. -/
import Derived.Test.YtcgdckphpjfmhaaGreatDoorSq
import Derived.Test.YtcgdckphpjfmhaaGreatDoorJ16
import Derived.Test.YtcgdckphpjfmhaaGreatDoorJ18
import Derived.Test.YtcgdckphpjfmhaaGreatDoorSpecSchema11
import Derived.Deep.Cut
import Derived.Deep.CutRange
open Go.Proofs.Tryz
set_option maxHeartbeats 80000000
namespace Go.Proofs.YtcgdckphpjfmhaaGreatDoor
open ChangeShapes WideShapes ChangeAt RowKit
open Pl
theorem Uh(o n e:ByteArray):(((o++n)++⟨#[32,61,32]⟩)++e)++⟨#[10]⟩=o++(((n++⟨#[32,61,32]⟩)++e)++⟨#[10]⟩):=by
 simp only[Wt]
theorem Qn(o n:ByteArray):((o++⟨#[116,121,112,101,32]⟩)++n)++⟨#[10]⟩=o++mJ n:=by
 unfold mJ;simp only[Wt]
structure Small3(rs:Q06):Prop where
 six:rs.length<=500
 rels:∀r∈rs,r.rows.length<=750
 name:∀r∈rs,r.name.size<=3000
 names:∀r∈rs,∀q∈r.rows,q.name.size<=3000
set_option maxRecDepth 100000 in
theorem Fe(ad:Q02)(cap:Nat)(rs:Q06)(w:ae)(hm:Small3 rs)(hs:jP w ad rs)(hl:∀r∈rs,r.light)(hf:∀r∈rs,r.fits):
  Calls prog 204 #[.slice ad rs.length cap] w fun e w'=>e=.returned (.string (di (ag rs)))/\af w w':=by
 have HS:=aC hs;have HL:=aC hl;have Xd:=aC hf;have HM:=aC hm;have h6:=hm.six;clear hs hl hf hm;go_enter func204,ntmps204;go_wp2;go_loopw[3,4] (fun o i wr=>∃(k:Nat) (out:ByteArray),k<=rs.length/\o=.string out/\i=.int .i64 k/\Hid (out=di (ag (rs.take k)))/\out.size<=k*5100000/\Hid (af w wr)) (fun _ i _=>rs.length-(intOf i).toNat);case atStart=>exact⟨0,⟨#[]⟩,VG _,rfl,rfl,rfl,VG _,VD _ _⟩
 case round =>
  obtain⟨k,out,hk,rfl,rfl,HP,hz,HB⟩:=hrel;obtain⟨wo,rfl⟩:∃x,x=wr:=⟨_,rfl⟩;by_cases hlt:k<rs.length
  ·rcases HS.out.below HB.out with rfl|⟨b,off,rfl,hb,hr,hok⟩
   ·simp at hlt
   obtain⟨t0,t1⟩:=hr k hlt;have XK:Hid (rs[k].ok wo):=hok rs[k] (Vz hlt);have hn12:=HM.out.name rs[k] (Vz hlt);have YH:=HM.out.rels rs[k] (Vz hlt);have HN12:Hid (∀q∈rs[k].rows,q.name.size<=3000):=HM.out.names rs[k] (Vz hlt);have Yx:Hid (rs[k].light):=HL.out _ (Vz hlt);have Zf:Hid (rs[k].fits):=Xd.out _ (Vz hlt);have hk1:=bq k;have hk2:(k:Int)<(rs.length:Int):=by omega
   have hrl:(rs[k].rows.length:Int)<=750:=by omega
   clear hr hok;go_wp2;go_loopw[3,5] (fun o i wr=>∃(j:Nat) (o2:ByteArray),j<=rs[k].rows.length/\o=.string o2/\i=.int .i64 j/\Hid (o2=(out++mJ rs[k].name)++dL (eu (rs[k].rows.take j)))/\o2.size<=k*5100000+3010+j*6760/\Hid (af wo wr)) (fun _ i _=>rs[k].rows.length-(intOf i).toNat);case atStart=>exact⟨0,_,VG _,rfl,rfl,by show _=_;rw[Qn,List.take_zero,show eu []=[] from rfl];simp only[dL,vP],by rw[Qn,VT,ym];omega,VD _ _⟩
   case round =>
    obtain⟨j,o2,hj,rfl,rfl,HI,hz2,HB2⟩:=hrel;replace t0:=aI HB2.out hb t0;replace t1:=aI HB2.out hb t1;have hbw:b<wr.heap.size:=Vy hb HB2.out.size;by_cases hjl:j<rs[k].rows.length
    ·rcases XK.out.below HB2.out with hnil|⟨b2,Xr,had,hb2,hr2,hok2⟩
     ·rw[hnil]at hjl;simp at hjl
     rw[had]at t1;obtain⟨u0,u1⟩:=hr2 j hjl;have HOQ:Hid (rs[k].rows[j].ok wr):=hok2 rs[k].rows[j] (Vz hjl);have hj1:=bq j;have hj2:(j:Int)<(rs[k].rows.length:Int):=by omega
     have hq12:=HN12.out _ (Vz hjl);have HQL:Hid (rs[k].rows[j].light):=Yx.out.2 _ (Vz hjl);have HQF:Hid (rs[k].rows[j].fits):=Zf.out.2.2 _ (Vz hjl);obtain⟨ex,hex⟩:∃ex,ex=gW (aj rs[k].rows[j].rows):=⟨_,rfl⟩;have HEX:Hid (ex=gW (aj rs[k].rows[j].rows)):=hex;have hxs:ex.size<=3750:=by rw[hex];exact ES _
     have q1:(9223372036854775807<o2.size+rs[k].rows[j].name.size)=False:=by simp;omega
     have q2:(9223372036854775807<o2.size+rs[k].rows[j].name.size+3)=False:=by simp;omega
     have q3:(9223372036854775807<o2.size+rs[k].rows[j].name.size+3+ex.size)=False:=by simp;omega
     have q4:(9223372036854775807<o2.size+rs[k].rows[j].name.size+3+ex.size+1)=False:=by simp;omega
     have HI2:Hid ((((o2++rs[k].rows[j].name)++⟨#[32,61,32]⟩)++ex)++⟨#[10]⟩=(out++mJ rs[k].name)++dL (eu (rs[k].rows.take (j+1)))):=by
      show _=_;rw[Uh,MN _ _ hjl,qY,HI.out,hex];simp only[Wt,GR]
     have hz3:((((o2++rs[k].rows[j].name)++⟨#[32,61,32]⟩)++ex)++⟨#[10]⟩:ByteArray).size<=k*5100000+3010+(j+1)*6760:=by
      have e1:(⟨#[32,61,32]⟩:ByteArray).size=3:=rfl;have e2:(⟨#[10]⟩:ByteArray).size=1:=rfl;simp only[VT];omega
     have HZ3:Hid (((((o2++rs[k].rows[j].name)++⟨#[32,61,32]⟩)++ex)++⟨#[10]⟩:ByteArray).size<=k*5100000+3010+(j+1)*6760):=hz3;clear hr2 hok2 had hex hz3;go_wp2_with fail;refine cZ 24 _ _ (fun n v _=>v=(Value.string o2::.slice (some ⟨b,off,none⟩) rs.length cap::.int .i64 k::.pointer (some ⟨b,off+k*2,none⟩)::.pointer (some ⟨b,off+k*2+1,none⟩)::.slice (some ⟨b2,Xr,none⟩) rs[k].rows.length rs[k].cap::.int .i64 j::.pointer (some ⟨b2,Xr+j*2,none⟩)::.pointer (some ⟨b2,Xr+j*2,none⟩)::.string rs[k].rows[j].name::.string (o2++rs[k].rows[j].name)::.string ((o2++rs[k].rows[j].name)++⟨#[32,61,32]⟩)::.slice (some ⟨b,off,none⟩) rs.length cap::.int .i64 k::.pointer (some ⟨b,off+k*2,none⟩)::.pointer (some ⟨b,off+k*2+1,none⟩)::.slice (some ⟨b2,Xr,none⟩) rs[k].rows.length rs[k].cap::.int .i64 j::.pointer (some ⟨b2,Xr+j*2,none⟩)::.pointer (some ⟨b2,Xr+j*2+1,none⟩)::.slice rs[k].rows[j].ad rs[k].rows[j].rows.length rs[k].rows[j].cap::.string ex::.string (((o2++rs[k].rows[j].name)++⟨#[32,61,32]⟩)++ex)::.string ((((o2++rs[k].rows[j].name)++⟨#[32,61,32]⟩)++ex)++⟨#[10]⟩)::[]).getD n undef) (fun w'=>af wr w') (by kernel_rfl) rfl (by kernel_rfl) (by kernel_rfl) (BJ [(31,[0,1,2,3,4,5,6,7,8,9,10,11,12,13,14,15,16,17,18,19,20,21,22,23])]) (VD _ _).drew ?stepS ?finS<;>dsimp only[yV];case stepS =>
      rintro i hi o ho fq w' hG hpre;have HG:Hid (af wr w'):=hG;replace t1:=aI hG hbw t1;replace u0:=aI hG hb2 u0;replace u1:=aI hG hb2 u1;have HM:Hid (∀e∈o.after,Region.binds .any e=true->_):=hpre;clear hG hpre;have hc:=UL (i:=i) (by omega);clear hi
      repeat' rcases hc with rfl|hc
      iterate 21
       ·cases ho;have hm:=HM.out
        try simp[Region.binds]at hm
        refine aa rfl fun K HK=>?_;clear HM
        try simp only[hm]
        go_simp;exact HK.out _ _ ⟨_,by simp[upd, *],HG.out,rfl,fun k u hu=>hu⟩
      ·cases ho;have e20:fq 20=.slice rs[k].rows[j].ad rs[k].rows[j].rows.length rs[k].rows[j].cap:=HM.out ⟨20,.data⟩ (by simp) rfl;refine aa rfl fun K HK=>?_;clear HM;simp only[e20];go_simp;refine(oC _ _ rs[k].rows[j].rows _ HQL.out.1 HQL.out.2 HQF.out.2.2 (HOQ.out.below HG.out)).mono ?_;rintro e w5 ⟨rfl,hb5⟩;have HG5:=kL HG hb5;rw[<-HEX.out];clear hb5;go_wp2_with fail;exact HK.out _ _ ⟨Value.string ex,by simp[upd,e20],HG5.out,rfl,fun k u hu=>hu⟩
      iterate 2
       ·cases ho;have hm:=HM.out
        try simp[Region.binds]at hm
        refine aa rfl fun K HK=>?_;clear HM
        try simp only[hm]
        go_simp;exact HK.out _ _ ⟨_,by simp[upd, *],HG.out,rfl,fun k u hu=>hu⟩
     case finS =>
      rintro o ho fq w' hG hall;have e23:fq 23=.string ((((o2++rs[k].rows[j].name)++⟨#[32,61,32]⟩)++ex)++⟨#[10]⟩):=hall 23 (by omega);have HG:Hid (af wr w'):=hG;clear hG hall;obtain rfl:=Option.some.inj ho;clear ho;refine wpOp_step rfl (fun K hK=>?_);have HK:Hid (∀a w,_->K a w):=hK;clear hK;simp only[e23];go_simp;refine HK.out _ _ ?_;clear HK;have HB3:Hid (af wo w'):=HB2.out.trans (HG.out.mono HB2.out.size);go_wp2;go_roundw;case rel=>exact⟨j+1,_,by omega,rfl,by go_num,HI2,HZ3.out,HB3⟩
      case measure=>simp[intOf]<;>omega
    ·obtain rfl:j=rs[k].rows.length:=by omega
     have Xa:Hid (o2=di (ag (rs.take (k+1)))):=by
      show _=_;rw[HI.out,MO _ _ hlt,mM,HP.out,VP,Wt]
     have hz4:o2.size<=(k+1)*5100000:=by omega
     have HB3:Hid (af w wr):=HB.out.trans (HB2.out.mono HB.out.size);go_wp2;go_roundw;case rel=>exact⟨k+1,o2,by omega,rfl,by go_num,Xa,hz4,HB3⟩
     case measure=>simp[intOf]<;>omega
  ·obtain rfl:k=rs.length:=by omega
   have HN:Hid (out=di (ag rs)):=by show _=_;rw[HP.out,VP]
   go_wp2;go_ret;exact⟨by rw[HN.out];rfl,HB.out⟩
open Maps
set_option maxRecDepth 100000
theorem dN{p:Prop}(h:p):Hid p:=h
def strOf:Value->Nat | .string b=>b.size|_=>0
def Ui(s:ByteArray)(w:World)(e:Ending)(w':World):Prop :=
 af w w'/\((dM (s.size+1) s []=none/\e=.returned (.tuple #[.slice none 0 0,.bool false])) \/ ∃(v:Value) (rs:Q06),dM (s.size+1) s []=some (ag rs)/\e=.returned (.tuple #[v,.bool true])/\iV w' w.heap.size v rs/\di (ag rs)=s/\Tm (ag rs))
theorem Nc{n:Nat}{rest:ByteArray}{acc:Q0b}(hn:rest.size<n)(h:rest.toList.isEmpty=true):dM n rest acc=some acc:=by
 cases n with
 | zero=>omega
 | succ n=>simp[dM,h]
theorem Nf{n:Nat}{rest:ByteArray}{acc:Q0b}(hn:rest.size<n)(h:rest.toList.isEmpty=false)(hc:oU 10 rest=false):dM n rest acc=none:=by
 cases n with
 | zero=>omega
 | succ n=>simp[dM,h,hc]
theorem Ng{n:Nat}{rest:ByteArray}{acc:Q0b}(hn:rest.size<n)(h:rest.toList.isEmpty=false)(hc:oU 10 rest=true)(hl:nD acc (kv 10 rest)=none):dM n rest acc=none:=by
 cases n with
 | zero=>omega
 | succ n=>simp[dM,h,hc,hl]
theorem Qo{n:Nat}{rest:ByteArray}{acc a:Q0b}(hn:rest.size<n)(h:rest.toList.isEmpty=false)(hc:oU 10 rest=true)(hl:nD acc (kv 10 rest)=some a):dM n rest acc=dM (n-1) (iK 10 rest) a/\(iK 10 rest).size<n-1:=by
 have:=GU hc;cases n with
 | zero=>omega
 | succ n=>exact⟨by simp[dM,h,hc,hl],by simp;omega⟩
theorem Qp{b:ByteArray}(h:b.toList.isEmpty=true):b=⟨#[]⟩:=by
 have h2:b.toList=[]:=by simpa using h
 rw[mP]at h2;exact je (by simpa using h2)
theorem Bt:PZ.toList=[116,121,112,101,32]:=by rw[mP];rfl
theorem Hg:U5.toList=[61,32]:=by rw[mP];rfl
theorem Qq(w:ae)(a b:Value)(t:TypeId):∀j u,[a,b][j]?=some u->(w.alloc (.cells #[a,b] t)).cell? ((⟨w.heap.size,0,none⟩:Addr).add j)=some u:=by
 intro j u hu;rw[show(⟨w.heap.size,0,none⟩:Addr).add j=⟨w.heap.size,0+j,none⟩ by simp[Addr.add];omega,V4];have:=World.cell?_alloc_mark w #[a,b] t (0,0) j;rw[this];simpa using hu
theorem Qr(xs:Q06)(t t':TR)(hn:t'.name=t.name):((xs++[t]).flatMap TR.cells).set (xs.length*2+1) t'.vs=(xs++[t']).flatMap TR.cells:=by
 have hl:(xs.flatMap TR.cells).length=xs.length*2:=pg (fun _=>rfl) _;rw[Ws,Ws,List.set_append_right _ _ (by omega),hl];simp[TR.cells,hn]
theorem Vb(n:ByteArray)(ad:Q02)(k c:Nat):∀u∈[Value.string n,.slice ad k c],u.oneCell'=true:=by
 intro u hu;simp at hu;rcases hu with rfl|rfl<;>rfl
theorem Ff(s:ByteArray)(w:ae)(hs:s.size<=3000):Calls prog 162 #[.string s] w (Ui s w):=by
 obtain⟨iT0,hiT,zT0,zT1,zT2⟩:=info_parts (P:=prog) (e:=105) (z:=.agg #[.string ⟨#[]⟩,.slice none 0 0]) (size:=2) (bytes:=40) (by kernel_rfl);have HIT:Hid (prog.info? 105=some iT0/\iT0.zero=some (.agg #[.string ⟨#[]⟩,.slice none 0 0])/\iT0.size=2/\iT0.bytes=40):=⟨hiT,zT0,zT1,zT2⟩;obtain⟨iR0,hiR,zR0,zR1,zR2⟩:=info_parts (P:=prog) (e:=149) (z:=.agg #[.string ⟨#[]⟩,.slice none 0 0]) (size:=2) (bytes:=40) (by kernel_rfl);have HIR:Hid (prog.info? 149=some iR0/\iR0.zero=some (.agg #[.string ⟨#[]⟩,.slice none 0 0])/\iR0.size=2/\iR0.bytes=40):=⟨hiR,zR0,zR1,zR2⟩;obtain⟨W0,hW0⟩:∃W0,W0=w.alloc (.cells #[] 105):=⟨_,rfl⟩;have HB0:=oQ hW0;have HM0:Hid (iV W0 w.heap.size (.slice (some ⟨w.heap.size,0,none⟩) 0 0) []):=by
  show Xf _ _ _ _ _ _ _ _ _;rw[hW0];exact⟨World.ownsRow_lit w #[] 0 (VC _) (by unfold maxLen;omega) (by simp),fun q hq=>(by cases hq),fun q hq=>(by cases hq),fun x y hx=>absurd hx (by simp)⟩
 have hs5:(s.size:Int)<=50000:=by omega
 clear hiT zT0 zT1 zT2 hiR zR0 zR1 zR2;go_enter func162,ntmps162;go_wp2;rw[<-hW0];clear hW0;go_loopw[4,5] (fun v r wr=>∃(rs:Q06) (rest:ByteArray) (n:Nat),r=.string rest/\rest.size<=3000/\Hid (iV wr w.heap.size v rs)/\Hid (af w wr)/\Hid (di (ag rs)++rest=s)/\Hid (Tm (ag rs))/\Hid (rest.size<n/\dM n rest (ag rs)=dM (s.size+1) s [])) (fun _ r _=>strOf r);case atStart=>exact⟨[],s,s.size+1,rfl,hs,HM0,HB0,by show _=_;exact rW _,fun t ht=>(by cases ht),by omega,rfl⟩
 clear HM0 HB0;obtain⟨rs,rest,n,rfl,hrs,HM,HB,HT,HK,HN⟩:=hrel;cases he:rest.toList.isEmpty;case true=>
  have HTX:Hid (di (ag rs)=s):=by show _=_;rw[<-HT.out,Qp he,vP]
  have XM:=dN (Nc (acc:=ag rs) HN.out.1 he);obtain⟨ad,cap,rfl,hsl,-⟩:=HM.out.read;obtain⟨k1,k2,k3,k4⟩:=rows_ok HK.out (by rw[HTX.out];exact hs);have Xc:=dN (Fe ad cap rs wr ⟨k1,fun r hr=>(k2 r hr).1,fun r hr=>(k2 r hr).2.1,fun r hr=>(k2 r hr).2.2⟩ hsl k3 k4);clear hsl k1 k2 k3 k4;go_wp2_with fail;refine Xc.out.mono ?_;rintro e w1 ⟨hee,hb1⟩;rw[HTX.out]at hee;subst hee;have HB1:=dN (HB.out.trans (hb1.mono HB.out.size));have ZU:=dN (HM.out.below mU hb1);clear hb1 Xc;go_wp2;exact bodyPost_ret (v:=.tuple #[.slice ad rs.length cap,.bool true]) (by simp[results,Tryz.results162,go_sem]) rfl ⟨HB1.out,.inr ⟨_,rs,by rw[<-HN.out.2,XM.out],rfl,ZU.out,HTX.out,HK.out⟩⟩
 have HE:=dN he;have h500:rs.length<=500:=(rows_ok HK.out (by have:=congrArg ByteArray.size HT.out;rw[VT]at this;omega)).1;have HC:=dN (DI rest 10 wr (by unfold maxLen;omega));go_wp2_with fail;refine HC.out.mono ?_;rintro e w1 ⟨rfl,n0,hw1⟩;have hb1:af wr w1:=by rw[hw1];exact below_drewN (VD _ _) n0
 have HB1:=dN (HB.out.trans (hb1.mono HB.out.size));have ZU:=dN (HM.out.below mU hb1);have hzz:=KC 10 rest;have hza:=Re 10 rest;clear hw1 hb1 HC HM HB;cases hc:oU 10 rest;case false=>
  have YZ:=dN (Nf (acc:=ag rs) HN.out.1 HE.out hc);go_wp2;exact bodyPost_ret (v:=.tuple #[.slice none 0 0,.bool false]) (by simp[results,Tryz.results162,go_sem]) rfl ⟨HB1.out,.inl ⟨by rw[<-HN.out.2,YZ.out],rfl⟩⟩
 have HCF:=dN hc;have HJ:=dN (Bc hc);have hless:=GU hc;obtain⟨line,Z5⟩:∃line,line=kv 10 rest:=⟨_,rfl⟩;obtain⟨more,hmore⟩:∃more,more=iK 10 rest:=⟨_,rfl⟩;rw[<-Z5,<-hmore]at HJ;rw[<-hmore]at hzz hless;rw[<-Z5]at hza;rw[<-Z5,<-hmore];have HLI:=dN Z5;have HMO:=dN hmore;clear Z5 hmore hc;have HON:Hid (∀a,nD (ag rs) line=some a->dM (n-1) more a=dM (s.size+1) s []/\more.size<n-1/\di a++more=s/\Tm a):=fun a ha=>by
  have h1:=Qo (acc:=ag rs) HN.out.1 HE.out HCF.out (by rw[<-HLI.out];exact ha);rw[<-HMO.out]at h1;refine⟨by rw[<-h1.1,HN.out.2],h1.2,?_,RL ha HK.out⟩;rw[MQ ha,Wt];have h2:=HT.out;rw[HJ.out]at h2;exact h2
 have HOFF:Hid (nD (ag rs) line=none->dM (s.size+1) s []=none):=fun ha=>by
  have h1:=Ng (acc:=ag rs) HN.out.1 HE.out HCF.out (by rw[<-HLI.out];exact ha);rw[<-HN.out.2,h1]
 cases ht:Bb line;case true=>
  have hl5:5<line.size:=by unfold Bb at ht;simp only[VF,VM]at ht;exact ht.1
  have hty:((line.extract 0 5).toList==[116,121,112,101,32])=true:=by unfold Bb at ht;simp only[VF]at ht;rw[<-Bt];exact ht.2
  have hd5:decide ((5:Int)<(line.size:Int))=true:=by simp;omega
  have HLP:Hid (nD (ag rs) line=some (ag (rs++[⟨line.extract 5 line.size,[],none,0⟩]))):=by show _=_;unfold nD;rw[ht];simp[ag,TR.p,eu]
  clear ht;obtain⟨nm,hnm⟩:∃nm,nm=line.extract 5 line.size:=⟨_,rfl⟩;obtain⟨W2,hW2⟩:∃W2,W2=w1.alloc (.cells #[.string nm,.slice none 0 0] 105):=⟨_,rfl⟩;have hb2:af w1 W2:=by rw[hW2];exact(VD _ _).alloc (VC _) _
  have XE:=dN (ZU.out.below mU hb2);have HB2:=dN (HB1.out.trans (hb2.mono HB1.out.size));have Ze:Hid (∀j u,[Value.string nm,.slice none 0 0][j]?=some u->W2.cell? ((⟨w1.heap.size,0,none⟩:Addr).add j)=some u):=by show ∀j u,_;rw[hW2];exact Qq w1 _ _ _
  rw [<-hnm]at HLP;rw [hnm]at hW2;clear hb2 hnm;go_wp2_with (at_builtin;rw [<-hW2];clear hW2;refine wpList_append_own_at _ rfl _ _ 24 rfl w.heap.size 105 iT0 (.agg #[.string ⟨#[]⟩,.slice none 0 0]) 2 40 underlying24 HIT.out.1 HIT.out.2.1 HIT.out.2.2.1 HIT.out.2.2.2 rfl (by decide) u4 _ (rs.flatMap TR.cells) rfl XE.out.own ⟨w1.heap.size,0,none⟩ 1 1 [.string nm,.slice none 0 0] rfl rfl Ze.out (Vb _ _ _ _) (by unfold maxLen;omega) (by omega) HB2.out.size ?_);intro v3 w3 hown3 hgr3 _ hat3;have Zz:Hid (iV w3 w.heap.size v3 (rs++[⟨nm,[],none,0⟩])):=XE.out.snoc mU (q:=⟨nm,[],none,0⟩) hown3 hgr3 (by
    rcases hat3 with e|e
    ·exact .inl e
    ·exact .inr ⟨_,e,VC _⟩) (OD W2 w.heap.size) (fun g hg=>by
    rcases hg with hg|⟨q,hq,-⟩
    ·simp[TR.vs,Value.ownBlock]at hg
    ·cases hq) (fun p hp g hg hg2=>by
    rcases hg2 with hg2|⟨q,hq,-⟩
    ·simp[TR.vs,Value.ownBlock]at hg2
    cases hq)
  have HB3:Hid (af w w3):=HB2.out.grown hgr3 HB2.out.size (fun g hg=>(XE.out.own.lt g hg).1);obtain⟨o1,o2,o3,o4⟩:=HON.out _ HLP.out;have HO:=dN (And.intro o2 o1);have Xm:=dN o3;have Xk:=dN o4;clear hown3 hgr3 hat3 o1 o2 o3 o4 XE HB2 Ze hty hd5;go_wp2;go_roundw;case rel=>exact⟨_,more,n-1,rfl,by omega,Zz,HB3,Xm,Xk,HO⟩
  simp only[strOf];exact hless
 have HTY:=dN ht;have h58:(5<line.size/\decide ((5:Int)<(line.size:Int))=true/\((line.extract 0 5).toList==[116,121,112,101,32])=false)\/decide ((5:Int)<(line.size:Int))=false:=by
  by_cases h5:5<line.size
  ·left;refine⟨h5,by simp;omega,?_⟩;unfold Bb at ht;rw[decide_eq_true h5,Bool.true_and,Bt]at ht;exact ht
  right;simp;omega
 have Xp:=dN (DI line 32 w1 (by unfold maxLen;omega));obtain⟨ad4,cap4,hv4,hsl4,-⟩:=iV.read ZU.out;subst hv4;clear ht hsl4;rcases h58 with⟨hl5,hd5,hty⟩|hd5
 all_goals (
  go_wp2_with fail;refine Xp.out.mono ?_;rintro e w2 ⟨rfl,n1,hw2⟩;have hb2:af w1 w2:=by rw[hw2];exact below_drewN (VD _ _) n1
  have HB2:=dN (HB1.out.trans (hb2.mono HB1.out.size));have XE:=dN (ZU.out.below mU hb2);have hzt:=KC 32 line;obtain⟨nm,hnm⟩:∃nm,nm=kv 32 line:=⟨_,rfl⟩;obtain⟨tl,htl⟩:∃tl,tl=iK 32 line:=⟨_,rfl⟩;rw[<-htl]at hzt;rw[<-hnm,<-htl];have HLP:Hid (nD (ag rs) line=if !(ag rs).isEmpty&&yn tl&&mH (tl.extract 2 tl.size) then some (ET (ag rs) ⟨nm,(kG (tl.extract 2 tl.size)).out⟩) else none):=by show _=_;unfold nD Dt;rw[HTY.out,hnm,htl];rfl
  clear hw2 hb2 Xp ZU HB1 hnm htl;by_cases hz:rs=[]
  ·subst hz;have YZ:Hid (dM (s.size+1) s []=none):=HOFF.out (by rw[HLP.out];rfl);go_wp2;exact bodyPost_ret (v:=.tuple #[.slice none 0 0,.bool false]) (by simp[results,Tryz.results162,go_sem]) rfl ⟨HB2.out,.inl ⟨YZ.out,rfl⟩⟩
  obtain⟨xs,t,hxt⟩:∃xs t,rs=xs++[t]:=⟨rs.dropLast,rs.getLast hz,(List.dropLast_concat_getLast hz).symm⟩;have HXT:=dN hxt;have hlx:rs.length=xs.length+1:=by rw[hxt];simp
  have HNE:Hid ((!(ag rs).isEmpty)=true):=by show _=_;rw[hxt];simp[ag]
  obtain⟨b4,had4⟩:∃b4,ad4=some ⟨b4,0,none⟩:=by
   rcases XE.out.own.2 with⟨-,h0⟩|⟨g,cap,cur,e,-⟩
   ·exact absurd (VS.1 h0) hz
   injection e with e1 e2 e3;exact⟨g,e1⟩
  subst had4;have hcell:=XE.out.own.cellAt (xs.length*2+1) (by omega);rw[rR (fun _=>rfl) rs xs.length (by omega) 1 (by omega)]at hcell;have htx:rs[xs.length]'(by omega)=t:=by subst hxt;simp
  rw[htx]at hcell;have hcl:w2.cell? ⟨b4,xs.length*2+1,none⟩=some (.slice t.ad t.rows.length t.cap):=hcell;have Z9:=dN hcl;have hn0:(0:Int)<=(xs.length:Int):=by omega
  have hn1:(xs.length:Int)<(xs.length:Int)+1:=by omega
  have HLX:=dN hlx;have hx500:xs.length<500:=by omega
  have h500':=h500;rw[hlx];clear hz hxt hlx hcell htx hcl h500;by_cases h2:tl.size<2
  ·have hd2:decide ((tl.size:Int)<2)=true:=by simp;omega
   have YZ:Hid (dM (s.size+1) s []=none):=HOFF.out (by rw[HLP.out];simp[yn];omega);go_wp2;exact bodyPost_ret (v:=.tuple #[.slice none 0 0,.bool false]) (by simp[results,Tryz.results162,go_sem]) rfl ⟨HB2.out,.inl ⟨YZ.out,rfl⟩⟩
  have hd2:decide ((tl.size:Int)<2)=false:=by simp;omega
  have h22:2<=tl.size:=by omega
  cases hq:(tl.extract 0 2).toList==[61,32];case false=>
   have hq2:(!(tl.extract 0 2).toList==[61,32])=true:=by rw[hq];rfl
   have YZ:Hid (dM (s.size+1) s []=none):=HOFF.out (by rw[HLP.out];unfold yn;rw[Hg,hq];simp);go_wp2;exact bodyPost_ret (v:=.tuple #[.slice none 0 0,.bool false]) (by simp[results,Tryz.results162,go_sem]) rfl ⟨HB2.out,.inl ⟨YZ.out,rfl⟩⟩
  have hq2:(!(tl.extract 0 2).toList==[61,32])=false:=by rw[hq];rfl
  have HTB:Hid (yn tl=true):=by show _=_;unfold yn;rw[Hg,hq,decide_eq_true h22];rfl
  have HRE:=dN (wU (tl.extract 2 tl.size) w2);go_wp2_with fail;refine HRE.out.mono ?_;rintro e w3 ⟨hb3,hcase⟩;have HB3:=dN (HB2.out.trans (hb3.mono HB2.out.size));have Zz:=dN (XE.out.below mU hb3);have h23:w2.heap.size<=w3.heap.size:=hb3.size;have HLT2:Hid (∀g,F3 iT (.slice (some ⟨b4,0,none⟩) rs.length cap4) rs g->g<w2.heap.size):=fun g hg=>(XE.out.lt mU hg).2;have hc3:w3.cell? ⟨b4,xs.length*2+1,none⟩=some (.slice t.ad t.rows.length t.cap):=(hb3.cell (p:=⟨b4,xs.length*2+1,none⟩) (XE.out.own.lt b4 rfl).2).trans Z9.out;rcases hcase with⟨hrb,rfl⟩|⟨hrb,v,R,qs,rfl,hF⟩
  ·have YZ:Hid (dM (s.size+1) s []=none):=HOFF.out (by rw[HLP.out,hrb];simp);clear hb3 hc3 XE HB2 HRE;go_wp2;exact bodyPost_ret (v:=.tuple #[.slice none 0 0,.bool false]) (by simp[results,Tryz.results162,go_sem]) rfl ⟨HB3.out,.inl ⟨YZ.out,rfl⟩⟩
  obtain⟨WW,capE,hvE⟩:∃WW capE,v=.slice WW qs.length capE:=by
   obtain⟨a1,a2,a3,-⟩:=hF.slE;exact⟨a1,a2,a3⟩
  subst hvE;have HNOD:=dN (hF.nod);have HEX:=dN hF.out;have ZK:=dN hrb;obtain⟨W5,YG⟩:∃W5,W5=w3.alloc (.cells #[.string nm,.slice WW qs.length capE] 149):=⟨_,rfl⟩;have hb5:af w3 W5:=by rw[YG];exact(VD _ _).alloc (VC _) _
  have HM5:=dN (Zz.out.below mU hb5);have Yd:=dN (HB3.out.trans (hb5.mono HB3.out.size));have Ze:Hid (∀j u,[Value.string nm,.slice WW qs.length capE][j]?=some u->W5.cell? ((⟨w3.heap.size,0,none⟩:Addr).add j)=some u):=by show ∀j u,_;rw[YG];exact Qq w3 _ _ _
  obtain⟨q,hqd⟩:∃q:RR,q=⟨nm,qs,WW,capE⟩:=⟨_,rfl⟩;have HQD:=dN hqd;have hkq3:kR w3 (w2.heap.size+1) q:=by rw[hqd];exact HNOD.out
  have hIq:∀g,iR q g->w2.heap.size+1<=g:=fun g hg=>(IW.lt w3 _ q hkq3 g hg).1;have hkq5:kR W5 w.heap.size q:=IW.heap w3 W5 w.heap.size q (hkq3.mono (by have:=HB2.out.size;omega)) hb5.size (fun g hg=>hb5.block g (IW.lt w3 _ q hkq3 g hg).2);have HIQ:=dN hIq;have W5_ge:Hid (w2.heap.size<=W5.heap.size):=VJ h23 hb5.size;have HKQ:=dN hkq5;have HKT:Hid (kT W5 w.heap.size t):=HM5.out.kid t (by rw[HXT.out];simp);have HTLT:Hid (∀g,iT t g->g<w2.heap.size):=fun g hg=>HLT2.out g (.inr ⟨t,by rw[HXT.out];simp,hg⟩);have ht750:t.rows.length<=750:=((rows_ok HK.out (by have:=congrArg ByteArray.size HT.out;rw[VT]at this;omega)).2.1 t (by rw[HXT.out];simp)).1;have hc5:W5.cell? ⟨b4,xs.length*2+1,none⟩=some (.slice t.ad t.rows.length t.cap):=(hb5.cell (p:=⟨b4,xs.length*2+1,none⟩) (Vy (XE.out.own.lt b4 rfl).2 h23)).trans hc3;have HC5:=dN hc5;have hfz:W5.frozen? ⟨b4,xs.length*2+1,none⟩=false:=HM5.out.own.frozenAt _;have HFZ:=dN hfz;clear hb3 hF hrb hkq3 hkq5 hIq hqd hc5 hb5 XE HB2 HRE Zz HB3 HNOD hfz;go_wp2_with(at_builtin;rw[<-YG];clear YG;refine wpList_append_own_at _ rfl _ _ 103 rfl w.heap.size 149 iR0 (.agg #[.string ⟨#[]⟩,.slice none 0 0]) 2 40 underlying103 HIR.out.1 HIR.out.2.1 HIR.out.2.2.1 HIR.out.2.2.2 rfl (by decide) (.slice t.ad t.rows.length t.cap) _ (t.rows.flatMap RR.cells) rfl HKT.out.own ⟨w3.heap.size,0,none⟩ 1 1 [.string nm,.slice WW qs.length capE] rfl rfl Ze.out (Vb _ _ _ _) (by unfold maxLen;omega) (by omega) Yd.out.size ?_);intro v6 w6 hown6 hgr6 _ hat6;obtain⟨g6,c6,hv6⟩:=fJ hown6;subst hv6;have hqv:q.vs=.slice WW qs.length capE:=by rw[HQD.out];rfl
  have hneb:some b4≠(Value.slice t.ad t.rows.length t.cap).ownBlock:=fun e=>HM5.out.head t (by rw[HXT.out];simp) b4 (.inl e.symm) rfl;have hc6:w6.cell? ⟨b4,xs.length*2+1,none⟩=some (.slice t.ad t.rows.length t.cap):=hgr6.cell HC5.out hneb;have hf6:w6.frozen? ⟨b4,xs.length*2+1,none⟩=false:=(World.frozen?_of_block (w:=W5) (a:=⟨b4,xs.length*2+1,none⟩) (hgr6.block b4 (HM5.out.own.lt b4 rfl).2 hneb)).trans HFZ.out;obtain⟨t',ht'⟩:∃t':TR,t'=⟨t.name,t.rows++[q],some ⟨g6,0,none⟩,c6⟩:=⟨_,rfl⟩;have hvt':t'.vs=.slice (some ⟨g6,0,none⟩) (t.rows.length+1) c6:=by rw[ht'];simp[TR.vs]
  have hkt':kT w6 w.heap.size t':=by
   have h1:BO w6 w.heap.size (.slice (some ⟨g6,0,none⟩) (t.rows.length+1) c6) (t.rows++[q]):=HKT.out.snoc IW (q:=q) (by
     rw[show RR.cells q=[.string nm,.slice WW qs.length capE] by unfold RR.cells;rw[hqv,HQD.out]];exact hown6) hgr6 (by
     rcases hat6 with e|e
     ·exact .inl e
     ·exact .inr ⟨_,e,VC _⟩) HKQ.out (fun g hg e=>by
     have h2:=HTLT.out g (.inl e);have h3:=HIQ.out g hg;omega) (fun p hp g hg hg2=>by
     have h2:=HTLT.out g (.inr ⟨p,hp,hg⟩);have h3:=HIQ.out g hg2;omega)
   unfold kT;rw[hvt',ht'];exact h1
  have hI':∀g,iT t' g->iT t g\/(g≠b4/\∀p∈xs,¬iT p g):=fun g hg=>by
   have ZF:w2.heap.size<=g->g≠b4/\∀p∈xs,¬iT p g:=fun hge=>⟨fun e=>by
     have:=HLT2.out b4 (.inl rfl);omega,fun p hp hi=>by
     have:=HLT2.out g (.inr ⟨p,by rw[HXT.out];simp[hp],hi⟩);omega⟩
   rcases hg with hg|⟨p,hp,hg⟩
   ·rw[hvt']at hg;rcases hat6 with e|e
    ·exact .inl (.inl (e.symm.trans hg))
    rw[e]at hg;injection hg with hg;exact .inr (ZF (by have:=W5_ge.out;omega))
   rw[ht']at hp;rcases VL.1 hp with hp|hp
   ·exact .inl (.inr ⟨p,hp,hg⟩)
   rw[VK]at hp;subst hp;exact .inr (ZF (by have:=HIQ.out g hg;omega))
  have HM7:Hid (iV (w6.setCell ⟨b4,xs.length*2+1,none⟩ (.slice (some ⟨g6,0,none⟩) (t.rows.length+1) c6)) w.heap.size (.slice (some ⟨b4,0,none⟩) (xs.length+1) cap4) (xs++[t'])):=by
   have hM:=HM5.out;rw[HLX.out,HXT.out]at hM;refine Xf.last mU hM rfl hgr6 (fun r hr=>.inl hr) hkt' hI' ?_;rw[<-hvt',show t'.vs=t'.vs from rfl];exact Qr xs t t' (by rw[ht'])
  have HB7:Hid (af w (w6.setCell ⟨b4,xs.length*2+1,none⟩ (.slice (some ⟨g6,0,none⟩) (t.rows.length+1) c6))):=(Yd.out.grown hgr6 Yd.out.size (fun g hg=>(HKT.out.own.lt g hg).1)).setCell (HM5.out.own.lt b4 rfl).1 _;have HTY7:Hid (nD (ag rs) line=some (ag (xs++[t']))):=by
   show _=_;rw[HLP.out,HNE.out,HTB.out,ZK.out,HXT.out,ht'];simp only[Bool.and_true,if_true];rw[show ag (xs++[t])=ag xs++[t.p] by simp[ag],qZ];simp[ag,TR.p,eu,RR.p,HQD.out,HEX.out]
  obtain⟨o1,o2,o3,o4⟩:=HON.out _ HTY7.out;have HO:=dN (And.intro o2 o1);have Xm:=dN o3;have Xk:=dN o4;clear hown6 hgr6 hat6 o1 o2 o3 o4 hkt' hI' hvt' ht' hqv hneb HM5 Yd HKT HKQ;go_wp2;go_roundw;case rel=>exact⟨_,more,n-1,rfl,by omega,HM7,HB7,Xm,Xk,HO⟩
  simp only[strOf];exact hless)
def Uj(s:ByteArray)(w:World)(e:Ending)(w':World):Prop :=
 af w w'/\(((∀T,dM (s.size+1) s []=some T->ak T=false)/\e=.returned (.tuple #[.slice none 0 0,.bool false])) \/ ∃(v:Value) (rs:Q06),ak (ag rs)=true/\e=.returned (.tuple #[v,.bool true])/\iV w' w.heap.size v rs/\di (ag rs)=s/\Tm (ag rs))
theorem rC(s:ByteArray)(w:ae)(hs:s.size<=3000):Calls prog 105 #[.string s] w (Uj s w):=by
 have HL:=dN (Ff s w hs);go_enter func105,ntmps105;go_wp2_with fail;refine HL.out.mono ?_;rintro e w1 ⟨hb1,hcase⟩;have HB1:=dN hb1;rcases hcase with⟨hno,rfl⟩|⟨v,rs,hyes,rfl,hM,htx,hok⟩
 ·have YZ:Hid (∀T,dM (s.size+1) s []=some T->ak T=false):=fun T hT=>by rw[hno]at hT;cases hT
  clear hb1 hno HL;go_wp2;exact bodyPost_ret (v:=.tuple #[.slice none 0 0,.bool false]) (by simp[results,Tryz.results105,go_sem]) rfl ⟨HB1.out,.inl ⟨YZ.out,rfl⟩⟩
 obtain⟨ad,cap,hv,hsl,-⟩:=iV.read hM;subst hv;obtain⟨k1,k2,k3,k4⟩:=rows_ok hok (by rw[htx];exact hs);have HM:=dN hM;have HTX:=dN htx;have XK:=dN hok;have HY:=dN hyes;have HSO:=dN (iD ad cap rs w1 (by omega) hsl k3 k4);clear hb1 hM htx hok hyes hsl k1 k2 k3 k4 HL;go_wp2_with fail;refine HSO.out.mono ?_;rintro e w2 ⟨he,hb2⟩;have HB2:=dN (HB1.out.trans (hb2.mono HB1.out.size));have XE:=dN (HM.out.below mU hb2);clear hb2 HSO HM;cases hd:ak (ag rs);case false=>
  rw[hd]at he;subst he;have YZ:Hid (∀T,dM (s.size+1) s []=some T->ak T=false):=fun T hT=>by rw[HY.out]at hT;injection hT with hT;rw[<-hT];exact hd
  clear hd;go_wp2;exact bodyPost_ret (v:=.tuple #[.slice none 0 0,.bool false]) (by simp[results,Tryz.results105,go_sem]) rfl ⟨HB2.out,.inl ⟨YZ.out,rfl⟩⟩
 rw[hd]at he;subst he;have HD:=dN hd;clear hd;go_wp2;exact bodyPost_ret (v:=.tuple #[.slice ad rs.length cap,.bool true]) (by simp[results,Tryz.results105,go_sem]) rfl ⟨HB2.out,.inr ⟨_,rs,HD.out,rfl,XE.out,HTX.out,XK.out⟩⟩
def lastT:ByteArray:=⟨#[116,121,112,101,32,100,111,99,10,118,105,101,119,101,114,32,61,32,116,104,105,115,40,117,115,101,114,41,10,116,121,112,101,32,117,115,101,114,10]⟩
def Hl:List Ty:=[⟨⟨#[100,111,99]⟩,[⟨⟨#[118,105,101,119,101,114]⟩,[⟨1,[⟨⟨#[117,115,101,114]⟩,⟨#[]⟩⟩],⟨#[]⟩,⟨#[]⟩,[]⟩]⟩]⟩,⟨⟨#[117,115,101,114]⟩,[]⟩]
theorem J3:dM (lastT.size+1) lastT []=some Hl:=by kernel_rfl
theorem J4:ak Hl=true:=by
 refine bz.2 ⟨by kernel_rfl,by kernel_rfl,fun _=>0,⟨fun _=>Int.le_refl _,fun k hk d hd=>?_⟩⟩;have h:((av Hl).all fun k=>(il Hl k).isEmpty)=true:=by kernel_rfl
 have h2:=VN.1 h k hk;rw[List.isEmpty_iff.1 h2]at hd;cases hd
def Pre(t:ByteArray):Prop:=∃x y z c tl,t.data.toList=116::121::112::101::32::x::y::z::10::c::tl/\x≠10/\y≠10/\z≠10/\c≠116
theorem Pre.app{t:ByteArray}(h:Pre t)(u:ByteArray):Pre (t++u):=by
 obtain⟨x,y,z,c,tl,e,h1⟩:=h;exact⟨x,y,z,c,tl++u.data.toList,by rw[Wz,Array.toList_append,e];rfl,h1⟩
theorem Qs{n:ByteArray}(h:aS n=true):∀b∈n.data.toList,b≠10:=by
 intro b hb e;unfold aS dI sD at h;simp only[VF]at h;have:=VN.1 h.1.2 b hb;rw[e]at this
 revert this
 decide
theorem Nh{rs:Q06}(hd:ak (ag rs)=true)(h:Pre (di (ag rs))):∃t ts q qs x xs,rs=t::ts/\t.rows=q::qs/\q.rows=x::xs:=by
 have hS:=bz.1 hd;obtain⟨x,y,z,c,tl,e,hx,hy,hz,hc⟩:=h;cases rs with
 | nil=>simp[ag,di]at e
 | cons t ts =>
  have hn:=Qs (lK hS.1 0 (by simp)).1;simp only[List.getElem_cons_zero]at hn;have e2:(116::121::112::101::32::(t.name.data.toList++10::((dL (eu t.rows)).data.toList++(di (ag ts)).data.toList)))=116::121::112::101::32::x::y::z::10::c::tl:=by
   rw[<-e];show _=(di (⟨t.name,eu t.rows⟩::ag ts)).data.toList;simp[di,mJ,ByteArray.data_append]
  simp only[List.cons.injEq,true_and]at e2;have key:(dL (eu t.rows)).data.toList++(di (ag ts)).data.toList=c::tl:=by
   generalize (dL (eu t.rows)).data.toList++(di (ag ts)).data.toList=rest at e2;generalize t.name.data.toList=nm at e2 hn
   match nm,e2,hn with
   | [],e2,_=>simp at e2;exact absurd e2.1.symm hx
   | [a],e2,_=>simp at e2;exact absurd e2.2.1.symm hy
   | [a,b],e2,_=>simp at e2;exact absurd e2.2.2.1.symm hz
   | [a,b,d],e2,_=>simp at e2;exact e2.2.2.2
   | a::b::d::f::nm,e2,hn=>simp at e2;exact absurd e2.2.2.2.1 (hn f (by simp))
  cases hr:t.rows with
  | nil =>
   rw[hr]at key;cases ts with
   | nil=>simp[eu,dL,ag,di]at key
   | cons u us =>
    have:(di (ag (u::us))).data.toList.head?=some 116:=by
     show(di (⟨u.name,eu u.rows⟩::ag us)).data.toList.head?=_;simp[di,mJ,ByteArray.data_append]
    simp only[eu,List.map_nil,dL]at key;rw[show((⟨#[]⟩:ByteArray).data.toList++(di (ag (u::us))).data.toList)=(di (ag (u::us))).data.toList from rfl]at key;rw[key]at this;simp at this;exact absurd this hc
  | cons q qs =>
   obtain⟨h1,-⟩:=(bu hS.1).2.2 t (by simp) q (by rw[hr];simp);have h2:=(oh h1).1;rw[aZ]at h2;cases hq:q.rows with
   | nil=>rw[hq]at h2;simp at h2
   | cons x xs=>exact⟨t,ts,q,qs,x,xs,rfl,hr,hq⟩
set_option linter.unusedVariables false
theorem Fg{t:ByteArray}{x y z c:UInt8}(h:t.data.toList.take 10=[116,121,112,101,32,x,y,z,10,c])(h1:x≠10)(h2:y≠10)(h3:z≠10)(h4:c≠116):Pre t:=by
 refine⟨x,y,z,c,t.data.toList.drop 10,?_,h1,h2,h3,h4⟩
 conv=>lhs;rw[<-List.take_append_drop 10 t.data.toList,h]
 rfl
theorem Qt{t:ByteArray}(h:Pre t):10<=t.size:=by
 obtain⟨x,y,z,c,tl,e,-⟩:=h;have h2:t.size=t.data.toList.length:=by simp
 rw[h2,e];simp
theorem vY{w:ae}{base base' size n:Nat}{e:TypeId}{v:Value}{xs:Q03}(h:w.ownsRow base e size v n xs)(hb:base'<=base):w.ownsRow base' e size v n xs:=by
 refine⟨h.1,?_⟩;rcases h.2 with hl|⟨g,cap,cur,rfl,h1,h2⟩
 ·exact .inl hl
 exact .inr ⟨g,cap,cur,rfl,VJ hb h1,h2⟩
theorem BO.lower{w:ae}{base base':Nat}{v:Value}{rs:Q07}(h:BO w base v rs)(hb:base'<=base):BO w base' v rs:=⟨vY h.own hb,fun q hq=>NodM.mono (h.kid q hq) hb,h.head,h.two⟩
theorem Xf.lower{w:ae}{base base':Nat}{v:Value}{rs:Q06}(h:iV w base v rs)(hb:base'<=base):iV w base' v rs:=⟨vY h.own hb,fun q hq=>BO.lower (h.kid q hq) hb,h.head,h.two⟩
def Hm(w wc:World)(v:Value)(rs:Q06):Prop:=iV wc w.heap.size v rs/\ak (ag rs)=true/\Pre (di (ag rs))/\Tm (ag rs)/\(di (ag rs)).size<=2000
theorem Hm.only{w wc wd:ae}{R:Nat}{v:Value}{rs:Q06}(h:Hm w wc v rs)(hR:R<w.heap.size)(ho:Only R wc wd):Hm w wd v rs :=
 ⟨h.1.heap mU ho.size fun g hg=>ho.block g (h.1.lt mU hg).2 (fun e=>by injection e with e;have:=(h.1.lt mU hg).1;omega),h.2⟩
def GoodS(rs:Q06):Prop:=rs.length<=500/\(∀r∈rs,r.light)/\∀r∈rs,r.fits
theorem Hm.good{w wc:ae}{v:Value}{rs:Q06}(h:Hm w wc v rs):GoodS rs/\iV wc w.heap.size v rs:=by
 obtain⟨k1,-,k3,k4⟩:=rows_ok h.2.2.2.1 (by have:=h.2.2.2.2;omega);exact⟨⟨k1,k3,k4⟩,h.1⟩
theorem Qu:(⟨#[122,111,111]⟩:ByteArray).size<=maxLen:=by
 have e:(⟨#[122,111,111]⟩:ByteArray).size=3:=rfl;rw[e];unfold maxLen;omega
theorem J5{t:TR}{ts:Q06}(h:GoodS (t::ts)):GoodS (({ t with name:=⟨#[122,111,111]⟩ }:TR)::ts):=by
 obtain⟨h1,h2,h3⟩:=h;refine⟨by simpa using h1,fun r hr=>?_,fun r hr=>?_⟩
 ·rcases VU.1 hr with rfl|hr
  ·exact h2 t (by simp)
  exact h2 r (by simp[hr])
 rcases VU.1 hr with rfl|hr
 ·obtain⟨a1,a2,a3⟩:=h3 t (by simp);exact⟨Qu,a2,a3⟩
 exact h3 r (by simp[hr])
theorem Ni{t:TR}{ts:Q06}{q:RR}{qs:Q07}{y:ER}{ys:Q08}(k:Int)(h:GoodS (t::ts))(hq:t.rows=q::qs)(hy:q.rows=y::ys):GoodS (t.asK q qs y ys k::ts):=by
 obtain⟨h1,h2,h3⟩:=h;refine⟨by simpa using h1,fun r hr=>?_,fun r hr=>?_⟩
 ·rcases VU.1 hr with rfl|hr
  ·obtain⟨a1,a2⟩:=h2 t (by simp);rw[hq]at a1 a2;refine⟨by simpa[TR.asK] using a1,fun p hp=>?_⟩;rcases VU.1 hp with rfl|hp
   ·obtain⟨b1,b2⟩:=a2 q (by simp);rw[hy]at b1 b2;refine⟨by simpa using b1,fun z hz=>?_⟩;rcases VU.1 hz with rfl|hz
    ·exact b2 y (by simp)
    exact b2 z (by simp[hz])
   exact a2 p (by simp[hp])
  exact h2 r (by simp[hr])
 rcases VU.1 hr with rfl|hr
 ·obtain⟨a0,a1,a2⟩:=h3 t (by simp);rw[hq]at a1 a2;refine⟨a0,by simpa[TR.asK] using a1,fun p hp=>?_⟩;rcases VU.1 hp with rfl|hp
  ·obtain⟨b0,b1,b2⟩:=a2 q (by simp);rw[hy]at b1 b2;refine⟨b0,by simpa using b1,fun z hz=>?_⟩;rcases VU.1 hz with rfl|hz
   ·exact b2 y (by simp)
   exact b2 z (by simp[hz])
  exact a2 p (by simp[hp])
 exact h3 r (by simp[hr])
def Uk(R:Nat)(ad:Q02)(len cap:Nat)(w:World)(e:Ending)(w':World):Prop:=∃(v:Value) (rs:Q06),e=.returned v/\iV w' w.heap.size v rs/\GoodS rs/\Rd w' R ad len cap/\Only R w w'
def Tq(R:Nat)(w:World)(v:Value):Nat×Nat->Prop
 | (0,n)=>∃g,v=.slice (some ⟨g,0,none⟩) n n/\sG w R g n 70
 | (1,_)=>v=.pointer (some ⟨R,0,none⟩)
 | (2,n)=>∃x:Nat,v=.int .i64 (x:Int)/\x<n
 | (3,n)=>∃g x,v=.pointer (some ⟨g,x,none⟩)/\x<n/\sG w R g n 70
 | (4,n)=>∃t:ByteArray,v=.string t/\t.size<=n
 | (_,n)=>∃t:ByteArray,v=.string t/\Pre t/\t.size<=n
theorem Tq.only{R:Nat}{w w':ae}{v:Value}(h:Only R w w')(k:Nat×Nat)(hk:Tq R w v k):Tq R w' v k:=by
 match k,hk with
 | (0,n),hk=>obtain⟨g,e,hs⟩:=hk;exact⟨g,e,hs.only h⟩
 | (1,n),hk=>exact hk
 | (2,n),hk=>exact hk
 | (3,n),hk=>obtain⟨g,x,e,hx,hs⟩:=hk;exact⟨g,x,e,hx,hs.only h⟩
 | (4,n),hk=>exact hk
 | (n+5,m),hk=>exact hk
def Vx:List (Nat×Nat):=[(0,2),(1,0),(2,2),(3,2),(4,70),(5,200),(5,240),(0,3),(1,0),(2,3),(3,3),(4,70),(5,320),(5,420)]
theorem J6(R:Nat)(ad:Q02)(len cap:Nat)(w:ae)(h:Rd w R ad len cap):
  Calls prog 63 #[.pointer (some ⟨R,0,none⟩)] w (Uk R ad len cap w):=by
 have H:=jK h;have hRw:=h.lt;clear h;go_enter func63,ntmps63;go_wp2_with fail;refine cZ 14 _ _ (fun k v w'=>Tq R w' v (Vx.getD k (9,0))) (fun w'=>Rd w' R ad len cap/\Only R w w') (by kernel_rfl) rfl (by kernel_rfl) (by kernel_rfl) (BJ [(7,[0,1,2,3,4,5,6,7,8,9,10,11,12,13])]) ⟨H.out.below ((VD _ _).drew),(Only.refl R w).drewN 1⟩ ?step ?fin<;>dsimp only[yV];case step =>
  rintro i hi o ho f w' ⟨hR',XH⟩ hpre;have HR:=aC hR';have HO:=aC XH;have hRl:R<w'.heap.size:=hR'.lt;have HM:Hid (∀e∈o.after,Region.binds .any e=true->_):=hpre;clear hR' XH hpre;have hc:=UK (i:=i) (by omega);clear hi
  repeat' rcases hc with rfl|hc
  ·cases ho;have K1:Hid (Only R w' (w'.alloc (.cells #[.string ⟨#[116,104,105,115,40,117,115,101,114,41]⟩,.string ⟨#[116,104,105,115,40,117,115,101,114,41,32,124,32,112,97,114,101,110,116,45,62,111,119,110,101,114]⟩] 9))):=(Only.refl R w').alloc _;refine aa rfl fun K HK=>?_;clear HM;dsimp only;go_simp;exact HK.out _ _ ⟨.slice (some ⟨w'.heap.size,0,none⟩) 2 2,by simp[upd],⟨HR.out.alloc _,HO.out.alloc _⟩,⟨_,rfl,mQ w' R 70 hRl (xs:=[_,_]) (by decide)⟩,fun k u hu=>Tq.only K1.out _ hu⟩
  ·cases ho;refine aa rfl fun K HK=>?_;clear HM;dsimp only;go_simp;exact HK.out _ _ ⟨Value.pointer (some ⟨R,0,none⟩),by simp[upd],⟨HR.out,HO.out⟩,rfl,fun k u hu=>hu⟩
  ·cases ho;have e1:f 1=Value.pointer (some ⟨R,0,none⟩):=HM.out ⟨1,.data⟩ (by simp) rfl;refine aa rfl fun K HK=>?_;clear HM;simp only[e1];go_simp;refine(gP R ad len cap 2 _ HR.out (by omega) (by omega)).mono ?_;rintro e w5 ⟨⟨x,rfl,hx⟩,Xo,Xn⟩;have Xt:=jK Xo;have Xi:=jK Xn;clear Xo Xn;go_wp2_with fail;exact HK.out _ _ ⟨.int .i64 (x:Int),by simp[upd,e1],⟨Xt.out,HO.out.trans Xi.out⟩,⟨x,rfl,hx⟩,fun k u hu=>Tq.only Xi.out _ hu⟩
  ·cases ho;obtain⟨g,e1,hS⟩:=HM.out ⟨0,.data⟩ (by simp) rfl;obtain⟨x,e2,hx⟩:=HM.out ⟨2,.data⟩ (by simp) rfl;replace e1:f 0=_:=e1;replace e2:f 2=_:=e2;have HS:=aC hS;clear hS;have hx0:=bq x;have hx1:(x:Int)<2:=by omega
   refine aa rfl fun K HK=>?_;clear HM;simp only[e1,e2];go_simp;exact HK.out _ _ ⟨.pointer (some ⟨g,x,none⟩),by simp[upd,e1,e2],⟨HR.out,HO.out⟩,⟨g,x,rfl,hx,HS.out⟩,fun k u hu=>hu⟩
  ·cases ho;obtain⟨g,x,e1,hx,hS⟩:=HM.out ⟨3,.data⟩ (by simp) rfl;replace e1:f 3=_:=e1;obtain⟨t,hcell,ht⟩:=hS.2.2 x hx;clear hS;refine aa rfl fun K HK=>?_;clear HM;simp only[e1];go_simp;exact HK.out _ _ ⟨.string t,by simp[upd,e1],⟨HR.out,HO.out⟩,⟨t,rfl,ht⟩,fun k u hu=>hu⟩
  ·cases ho;obtain⟨t,e1,ht⟩:=HM.out ⟨4,.data⟩ (by simp) rfl;replace e1:f 4=_:=e1;have hc0:(⟨#[116,121,112,101,32,100,111,99,10,98,97,110,110,101,100,32,61,32,116,104,105,115,40,117,115,101,114,41,10,101,100,105,116,111,114,32,61,32,116,104,105,115,40,117,115,101,114,41,32,124,32,111,119,110,101,114,10,111,119,110,101,114,32,61,32]⟩:ByteArray).size=65:=rfl;have hz:(9223372036854775807<65+t.size)=False:=by simp;omega
   refine aa rfl fun K HK=>?_;clear HM;simp only[e1];go_simp;exact HK.out _ _ ⟨.string ((⟨#[116,121,112,101,32,100,111,99,10,98,97,110,110,101,100,32,61,32,116,104,105,115,40,117,115,101,114,41,10,101,100,105,116,111,114,32,61,32,116,104,105,115,40,117,115,101,114,41,32,124,32,111,119,110,101,114,10,111,119,110,101,114,32,61,32]⟩:ByteArray)++t),by simp[upd,e1],⟨HR.out,HO.out⟩,⟨_,rfl,(Fg (x:=100) (y:=111) (z:=99) (c:=98) (by rfl) (by decide) (by decide) (by decide) (by decide)).app t,by rw[VT,hc0];omega⟩,fun k u hu=>hu⟩
  ·cases ho;obtain⟨t,e1,hp,ht⟩:=HM.out ⟨5,.data⟩ (by simp) rfl;replace e1:f 5=_:=e1;have ZV:=jK hp;have hc0:(⟨#[10,112,97,114,101,110,116,32,61,32,116,104,105,115,40,100,111,99,41,10,118,105,101,119,101,114,32,61,32]⟩:ByteArray).size=29:=rfl;have hz:(9223372036854775807<t.size+29)=False:=by simp;omega
   refine aa rfl fun K HK=>?_;clear HM hp;simp only[e1];go_simp;exact HK.out _ _ ⟨.string (t++(⟨#[10,112,97,114,101,110,116,32,61,32,116,104,105,115,40,100,111,99,41,10,118,105,101,119,101,114,32,61,32]⟩:ByteArray)),by simp[upd,e1],⟨HR.out,HO.out⟩,⟨_,rfl,ZV.out.app _,by rw[VT,hc0];omega⟩,fun k u hu=>hu⟩
  ·cases ho;have K1:Hid (Only R w' (w'.alloc (.cells #[.string ⟨#[116,104,105,115,40,117,115,101,114,44,103,114,111,117,112,35,109,101,109,98,101,114,41,32,124,32,101,100,105,116,111,114,32,124,32,112,97,114,101,110,116,45,62,118,105,101,119,101,114]⟩,.string ⟨#[40,116,104,105,115,40,117,115,101,114,44,103,114,111,117,112,35,109,101,109,98,101,114,41,32,124,32,101,100,105,116,111,114,32,124,32,112,97,114,101,110,116,45,62,118,105,101,119,101,114,41,32,45,32,98,97,110,110,101,100]⟩,.string ⟨#[116,104,105,115,40,117,115,101,114,44,103,114,111,117,112,35,109,101,109,98,101,114,41,32,38,32,101,100,105,116,111,114]⟩] 9))):=(Only.refl R w').alloc _;refine aa rfl fun K HK=>?_;clear HM;dsimp only;go_simp;exact HK.out _ _ ⟨.slice (some ⟨w'.heap.size,0,none⟩) 3 3,by simp[upd],⟨HR.out.alloc _,HO.out.alloc _⟩,⟨_,rfl,mQ w' R 70 hRl (xs:=[_,_,_]) (by decide)⟩,fun k u hu=>Tq.only K1.out _ hu⟩
  ·cases ho;refine aa rfl fun K HK=>?_;clear HM;dsimp only;go_simp;exact HK.out _ _ ⟨Value.pointer (some ⟨R,0,none⟩),by simp[upd],⟨HR.out,HO.out⟩,rfl,fun k u hu=>hu⟩
  ·cases ho;have e1:f 8=Value.pointer (some ⟨R,0,none⟩):=HM.out ⟨8,.data⟩ (by simp) rfl;refine aa rfl fun K HK=>?_;clear HM;simp only[e1];go_simp;refine(gP R ad len cap 3 _ HR.out (by omega) (by omega)).mono ?_;rintro e w5 ⟨⟨x,rfl,hx⟩,Xo,Xn⟩;have Xt:=jK Xo;have Xi:=jK Xn;clear Xo Xn;go_wp2_with fail;exact HK.out _ _ ⟨.int .i64 (x:Int),by simp[upd,e1],⟨Xt.out,HO.out.trans Xi.out⟩,⟨x,rfl,hx⟩,fun k u hu=>Tq.only Xi.out _ hu⟩
  ·cases ho;obtain⟨g,e1,hS⟩:=HM.out ⟨7,.data⟩ (by simp) rfl;obtain⟨x,e2,hx⟩:=HM.out ⟨9,.data⟩ (by simp) rfl;replace e1:f 7=_:=e1;replace e2:f 9=_:=e2;have HS:=aC hS;clear hS;have hx0:=bq x;have hx1:(x:Int)<3:=by omega
   refine aa rfl fun K HK=>?_;clear HM;simp only[e1,e2];go_simp;exact HK.out _ _ ⟨.pointer (some ⟨g,x,none⟩),by simp[upd,e1,e2],⟨HR.out,HO.out⟩,⟨g,x,rfl,hx,HS.out⟩,fun k u hu=>hu⟩
  ·cases ho;obtain⟨g,x,e1,hx,hS⟩:=HM.out ⟨10,.data⟩ (by simp) rfl;replace e1:f 10=_:=e1;obtain⟨t,hcell,ht⟩:=hS.2.2 x hx;clear hS;refine aa rfl fun K HK=>?_;clear HM;simp only[e1];go_simp;exact HK.out _ _ ⟨.string t,by simp[upd,e1],⟨HR.out,HO.out⟩,⟨t,rfl,ht⟩,fun k u hu=>hu⟩
  ·cases ho;obtain⟨t,e1,hp,ht⟩:=HM.out ⟨6,.data⟩ (by simp) rfl;obtain⟨u2,e2,hu2⟩:=HM.out ⟨11,.data⟩ (by simp) rfl;replace e1:f 6=_:=e1;replace e2:f 11=_:=e2;have ZV:=jK hp;have hz:(9223372036854775807<t.size+u2.size)=False:=by simp;omega
   refine aa rfl fun K HK=>?_;clear HM hp;simp only[e1,e2];go_simp;exact HK.out _ _ ⟨.string (t++u2),by simp[upd,e1,e2],⟨HR.out,HO.out⟩,⟨_,rfl,ZV.out.app _,by rw[VT];omega⟩,fun k u hu=>hu⟩
  cases ho;obtain⟨t,e1,hp,ht⟩:=HM.out ⟨12,.data⟩ (by simp) rfl;replace e1:f 12=_:=e1;have ZV:=jK hp;have hc0:(⟨#[10,116,121,112,101,32,103,114,111,117,112,10,109,101,109,98,101,114,32,61,32,116,104,105,115,40,117,115,101,114,44,103,114,111,117,112,35,109,101,109,98,101,114,41,10,116,121,112,101,32,117,115,101,114,10]⟩:ByteArray).size=55:=rfl;have hz:(9223372036854775807<t.size+55)=False:=by simp;omega
  refine aa rfl fun K HK=>?_;clear HM hp;simp only[e1];go_simp;exact HK.out _ _ ⟨.string (t++(⟨#[10,116,121,112,101,32,103,114,111,117,112,10,109,101,109,98,101,114,32,61,32,116,104,105,115,40,117,115,101,114,44,103,114,111,117,112,35,109,101,109,98,101,114,41,10,116,121,112,101,32,117,115,101,114,10]⟩:ByteArray)),by simp[upd,e1],⟨HR.out,HO.out⟩,⟨_,rfl,ZV.out.app _,by rw[VT,hc0];omega⟩,fun k u hu=>hu⟩
 case fin =>
  rintro o ho f w1 ⟨Xv,Xq⟩ hall;obtain⟨t1,e1,hp1,ht1⟩:=hall 13 (by omega);replace e1:f 13=_:=e1;have HR1:=jK Xv;have Xj:=jK Xq;have HP1:=jK hp1;obtain rfl:=Option.some.inj ho;clear ho hall Xv Xq hp1;refine aa rfl fun K HK=>?_;simp only[e1];go_simp;refine HK.out _ _ ?_;clear HK;go_wp2_with fail;refine(ib R ad len cap 3 _ HR1.out (by omega) (by omega)).mono ?_;rintro e w2 ⟨⟨q1,rfl⟩,hR2,hO2⟩;have HR2:=jK hR2;have WV:Hid (Only R w w2):=Xj.out.trans hO2;clear hR2 hO2 HR1 Xj
  go_upto_if 22 with fail
  go_cut [3] from 23 (fun s3 wc=>∃t:ByteArray,s3=.string t/\t.size<=1200/\Hid (Pre t)/\Hid (Rd wc R ad len cap)/\Hid (Only R w wc))
  case first =>
   cases q1;case false=>
    go_wp2_with fail
    go_meet
    exact⟨t1,rfl,by omega,HP1,HR2,WV⟩
   go_wp2_with fail;refine(ru R ad len cap 0 _ (by omega) HR2.out).mono ?_;rintro e w3 ⟨⟨r0,rfl,hr0⟩,Yz,hO3⟩;have HR3:=jK Yz;have Xm:Hid (Only R w w3):=WV.out.trans hO3;clear Yz hO3 HR2 WV;go_wp2_with fail;refine(ru R ad len cap 1 _ (by omega) HR3.out).mono ?_;rintro e w4 ⟨⟨r1,rfl,hr1⟩,ZI,hO4⟩;have HR4:=jK ZI;have Xk:Hid (Only R w w4):=Xm.out.trans hO4;clear ZI hO4 HR3 Xm;go_wp2_with fail;refine(ru R ad len cap 2 _ (by omega) HR4.out).mono ?_;rintro e w5 ⟨⟨r2,rfl,hr2⟩,Xo,Xn⟩;have Xt:=jK Xo;have Xi:Hid (Only R w w5):=Xk.out.trans Xn;clear Xo Xn HR4 Xk;have k0:(⟨#[116,121,112,101,32,100,111,99,10,98,97,110,110,101,100,32,61,32]⟩:ByteArray).size=18:=rfl;have k1:(⟨#[10,101,100,105,116,111,114,32,61,32]⟩:ByteArray).size=10:=rfl;have k2:(⟨#[10,111,119,110,101,114,32,61,32,116,104,105,115,40,117,115,101,114,41,10,112,97,114,101,110,116,32,61,32,116,104,105,115,40,100,111,99,41,10,118,105,101,119,101,114,32,61,32]⟩:ByteArray).size=48:=rfl;have k3:(⟨#[10,116,121,112,101,32,103,114,111,117,112,10,109,101,109,98,101,114,32,61,32,116,104,105,115,40,117,115,101,114,44,103,114,111,117,112,35,109,101,109,98,101,114,41,10,116,121,112,101,32,117,115,101,114,10]⟩:ByteArray).size=55:=rfl;have Y5:Hid ((((((((⟨#[116,121,112,101,32,100,111,99,10,98,97,110,110,101,100,32,61,32]⟩:ByteArray)++r0)++(⟨#[10,101,100,105,116,111,114,32,61,32]⟩:ByteArray))++r1)++(⟨#[10,111,119,110,101,114,32,61,32,116,104,105,115,40,117,115,101,114,41,10,112,97,114,101,110,116,32,61,32,116,104,105,115,40,100,111,99,41,10,118,105,101,119,101,114,32,61,32]⟩:ByteArray))++r2)++(⟨#[10,116,121,112,101,32,103,114,111,117,112,10,109,101,109,98,101,114,32,61,32,116,104,105,115,40,117,115,101,114,44,103,114,111,117,112,35,109,101,109,98,101,114,41,10,116,121,112,101,32,117,115,101,114,10]⟩:ByteArray)).size<=1200):=by show _<=_;simp only[VT,k0,k1,k2,k3];omega
   have HPX:Hid (Pre (((((((⟨#[116,121,112,101,32,100,111,99,10,98,97,110,110,101,100,32,61,32]⟩:ByteArray)++r0)++(⟨#[10,101,100,105,116,111,114,32,61,32]⟩:ByteArray))++r1)++(⟨#[10,111,119,110,101,114,32,61,32,116,104,105,115,40,117,115,101,114,41,10,112,97,114,101,110,116,32,61,32,116,104,105,115,40,100,111,99,41,10,118,105,101,119,101,114,32,61,32]⟩:ByteArray))++r2)++(⟨#[10,116,121,112,101,32,103,114,111,117,112,10,109,101,109,98,101,114,32,61,32,116,104,105,115,40,117,115,101,114,44,103,114,111,117,112,35,109,101,109,98,101,114,41,10,116,121,112,101,32,117,115,101,114,10]⟩:ByteArray))):=(((((((Fg (x:=100) (y:=111) (z:=99) (c:=98) (by rfl) (by decide) (by decide) (by decide) (by decide):Pre (⟨#[116,121,112,101,32,100,111,99,10,98,97,110,110,101,100,32,61,32]⟩:ByteArray)).app r0).app _).app r1).app _).app r2).app _);clear k0 k1 k2 k3;go_wp2_with fail
   go_meet
   exact⟨_,rfl,Y5.out,HPX,Xt,Xi⟩
  obtain⟨t,rfl,hts,HP,HR,HO⟩:=hcut;clear HP1 HR2 WV;go_wp2_with fail;refine(ib R ad len cap 4 _ HR.out (by omega) (by omega)).mono ?_;rintro e w6 ⟨⟨q2,rfl⟩,hR6,ZC⟩;have Yv:=jK hR6;have XD:Hid (Only R w w6):=HO.out.trans ZC;clear hR6 ZC HR HO
  go_upto_if 36 with fail
  go_cut [3,4] from 37 (fun s3 s4 wc=>∃t:ByteArray,s3=.string t/\t.size<=2000/\Hid (Pre t)/\Hid (Rd wc R ad len cap)/\Hid (Only R w wc))
  case first =>
   cases q2;case false=>
    go_wp2_with fail
    go_meet
    exact⟨t,rfl,by omega,HP,Yv,XD⟩
   have ht10:10<=t.size:=Qt HP.out;go_wp2_with fail;go_loopw[4] (fun i wr=>∃k:Nat,i=.int .i64 (k:Int)/\k+9<=t.size/\wr=w6) (fun i _=>t.size-(intOf i).toNat);case atStart=>exact⟨0,rfl,by omega,rfl⟩
   obtain⟨k,rfl,hk,rfl⟩:=hrel;have HD0:Hid ((⟨#[116,121,112,101,32,100,105,114,10,111,119,110,101,114,32,61,32,116,104,105,115,40,117,115,101,114,41,10,115,101,101,32,61,32,116,104,105,115,40,117,115,101,114,41,10]⟩:ByteArray).size=45):=rfl;have HD1:Hid ((⟨#[116,104,105,115,40,100,111,99,44,100,105,114,41]⟩:ByteArray).size=13):=rfl;have h3:(((k:Int)+9<(t.size:Int))/\((t.extract k (k+9)).toList==[116,104,105,115,40,100,111,99,41])=false)\/(((k:Int)+9<(t.size:Int))/\((t.extract k (k+9)).toList==[116,104,105,115,40,100,111,99,41])=true)\/¬((k:Int)+9<(t.size:Int)):=by
    by_cases h:(k:Int)+9<(t.size:Int)
    ·cases e:(t.extract k (k+9)).toList==[116,104,105,115,40,100,111,99,41]
     ·exact .inl ⟨h,rfl⟩
     exact .inr (.inl ⟨h,rfl⟩)
    exact .inr (.inr h)
   have hk0:=bq k;have hk1:(k:Int)<=(t.size:Int):=by omega
   have hk2:(0:Int)<=(k:Int)+9:=by omega
   have hk3:(k:Int)+9<=(t.size:Int):=by omega
   have he1:(t.extract 0 k).size<=1200:=by rw[ByteArray.size_extract];omega
   have he2:(t.extract (k+9) t.size).size<=1200:=by rw[ByteArray.size_extract];omega
   have hetot:(t.extract 0 k).size+(t.extract (k+9) t.size).size<=1200:=by rw[ByteArray.size_extract,ByteArray.size_extract];omega
   have Y5:Hid (((((⟨#[116,121,112,101,32,100,105,114,10,111,119,110,101,114,32,61,32,116,104,105,115,40,117,115,101,114,41,10,115,101,101,32,61,32,116,104,105,115,40,117,115,101,114,41,10]⟩:ByteArray)++t.extract 0 k)++(⟨#[116,104,105,115,40,100,111,99,44,100,105,114,41]⟩:ByteArray))++t.extract (k+9) t.size).size<=2000):=by show _<=_;simp only[VT,HD0.out,HD1.out];omega
   have HPX:Hid (Pre ((((⟨#[116,121,112,101,32,100,105,114,10,111,119,110,101,114,32,61,32,116,104,105,115,40,117,115,101,114,41,10,115,101,101,32,61,32,116,104,105,115,40,117,115,101,114,41,10]⟩:ByteArray)++t.extract 0 k)++(⟨#[116,104,105,115,40,100,111,99,44,100,105,114,41]⟩:ByteArray))++t.extract (k+9) t.size)):=((((Fg (x:=100) (y:=105) (z:=114) (c:=111) (by rfl) (by decide) (by decide) (by decide) (by decide):Pre (⟨#[116,121,112,101,32,100,105,114,10,111,119,110,101,114,32,61,32,116,104,105,115,40,117,115,101,114,41,10,115,101,101,32,61,32,116,104,105,115,40,117,115,101,114,41,10]⟩:ByteArray)).app _).app _).app _);have HRW:Hid (∀n,Rd (wr.drewN n) R ad len cap):=fun n=>Yv.out.below (below_drewN (VD _ _) n);have HOW:Hid (∀n,Only R w (wr.drewN n)):=fun n=>XD.out.drewN n;rcases h3 with⟨h,hm⟩|⟨h,hm⟩|h
   ·have hm2:(!(t.extract k (k+9)).toList==[116,104,105,115,40,100,111,99,41])=true:=by rw[hm];rfl
    go_wp2;go_roundw;case rel=>exact⟨k+1,by go_num,by omega,trivial⟩
    simp[intOf]<;>omega
   ·have hm2:(!(t.extract k (k+9)).toList==[116,104,105,115,40,100,111,99,41])=false:=by rw[hm];rfl
    go_wp2_with fail;go_quiet (fail);go_wp2_with fail
    go_meet
    exact⟨_,rfl,Y5.out,HPX,HRW.out _,HOW.out _⟩
   go_wp2_with fail;go_quiet (fail);go_wp2_with fail
   go_meet
   exact⟨_,rfl,Y5.out,HPX,HRW.out _,HOW.out _⟩
  obtain⟨t2,rfl,hts2,Xa,HR,HO⟩:=hcut;clear HP Yv XD hts;have hRc:R<wc.heap.size:=HR.out.lt;go_wp2_with fail;refine(rC t2 _ (by omega)).mono ?_;rintro e w7 ⟨YL,hcase⟩;have HR7:=jK (HR.out.below YL);have YD:=aC (HO.out.below YL);have hw7:w.heap.size<=w7.heap.size:=YD.out.size;have hwc:w.heap.size<=wc.heap.size:=HO.out.size;obtain⟨v0,b0,rfl,HV0⟩:∃(v0:Value) (b0:Bool),e=.returned (.tuple #[v0,.bool b0])/\Hid (b0=true->∃rs:List TR,Hm w w7 v0 rs):=by
   rcases hcase with⟨-,e1⟩|⟨v,rs,hd,e1,hM,htx,hok⟩
   ·exact⟨_,_,e1,fun h=>by cases h⟩
   exact⟨_,_,e1,fun _=>⟨rs,hM.lower hwc,hd,by rw[htx];exact Xa.out,hok,by rw[htx];omega⟩⟩
  clear YL hcase HR HO Xa hts2 hwc hRc
  go_upto_if 68 with fail
  go_cut [5] from 69 (fun s5 wd=>(∃rs:List TR,Hm w wd s5 rs)/\Hid (Rd wd R ad len cap)/\Hid (Only R w wd))
  case first =>
   cases b0;case true=>
    have HV:=jK (HV0.out rfl);go_wp2_with fail
    go_meet
    exact⟨HV.out,HR7,YD⟩
   go_wp2_with fail;refine(rC lastT _ (by decide)).mono ?_;rintro e w8 ⟨hb8,hcase⟩;have HR8:=jK (HR7.out.below hb8);have HO8:=aC (YD.out.below hb8);rcases hcase with⟨hno,e1⟩|⟨v,rs,hd,e1,hM,htx,hok⟩
   ·exact absurd (hno Hl J3) (by rw[J4];decide)
   subst e1;have HV:Hid (∃rs:List TR,Hm w w8 v rs):=⟨rs,hM.lower hw7,hd,by rw[htx];exact Fg (x:=100) (y:=111) (z:=99) (c:=118) (by rfl) (by decide) (by decide) (by decide) (by decide),hok,by rw[htx];decide⟩;clear hb8 hd hM htx hok;go_wp2_with fail
   go_meet
   exact⟨HV.out,HR8,HO8⟩
  obtain⟨⟨rs,hSR⟩,HR,HO⟩:=hcut;have HSR:=jK hSR;clear hSR HV0 HR7 YD hw7;go_wp2_with fail;refine(gP R ad len cap 40 _ HR.out (by omega) (by omega)).mono ?_;rintro e w9 ⟨⟨x,rfl,hx⟩,hR9,hO9⟩;have HR9:=jK hR9;have HO9:Hid (Only R w w9):=HO.out.trans hO9;have HS9:=jK (HSR.out.only hRw hO9);clear hR9 hO9 HR HO HSR;obtain⟨t,ts,q,qs,y,ys,hrs,hq,hy⟩:=Nh HS9.out.2.1 HS9.out.2.2.1;subst hrs;obtain⟨b,cp,hu5⟩:∃b cp,u5=.slice (some ⟨b,0,none⟩) (ts.length+1) cp:=fJ HS9.out.1.own;subst hu5;have HM9:=jK HS9.out.1;have HG:=jK HS9.out.good.1;have HQ:=jK hq;have HYY:=jK hy;have hbw:w.heap.size<=b:=(HM9.out.own.lt b rfl).1;have hbl:b<w9.heap.size:=(HM9.out.own.lt b rfl).2;have hts0:(0:Int)<(ts.length:Int)+1:=by omega
  have FAR:Hid (∀g,w.heap.size<=g->0<len->∀b off,ad=some ⟨b,off,none⟩->b≠g):=fun g hg h0 b off e=>by
   obtain⟨b',off',e',-,hb',-⟩:=H.out.bytes h0;rw[e]at e';injection e' with e';injection e' with e1 e2;omega
  have hc0:w9.cell? ⟨b,0,none⟩=some (.string t.name):=(HM9.out.own.cellAt 0 (by omega)).trans (by simp[TR.cells]);have hc1:w9.cell? ⟨b,1,none⟩=some (.slice t.ad t.rows.length t.cap):=(HM9.out.own.cellAt 1 (by omega)).trans (by simp[TR.cells,TR.vs]);have hf0:w9.frozen? ⟨b,0,none⟩=false:=HM9.out.own.frozenAt 0;clear HS9 hq hy;by_cases h39:x=39
  ·have h39b:((x:Int)==39)=true:=by simp;omega
   have XG:Hid (Uk R ad len cap w (.returned (.slice (some ⟨b,0,none⟩) (ts.length+1) cp)) (w9.setCell ⟨b,0,none⟩ (.string ⟨#[122,111,111]⟩))):=⟨_,_,rfl,iV.named ⟨#[122,111,111]⟩ HM9.out rfl,J5 HG.out,HR9.out.setFar (by omega) (FAR.out b hbw),HO9.out.setNew hbw⟩;go_wp2;go_ret;exact XG.out
  have h39b:((x:Int)==39)=false:=by simp;omega
  by_cases h38:x=38
  ·have h38b:((x:Int)==38)=true:=by simp;omega
   subst h38;have hkt:=HM9.out.kid t (by simp);have hR9:BO w9 w.heap.size t.vs (q::qs):=by have:=hkt;unfold kT at this;rwa [HQ.out]at this
   obtain⟨b1,c1,ht1⟩:∃b1 c1,t.vs=.slice (some ⟨b1,0,none⟩) (qs.length+1) c1:=fJ hR9.own;have hkq:=hR9.kid q (by simp);have hN9:NodM w9 w.heap.size q.vs (y::ys):=by have:=hkq;unfold kR at this;rwa [HYY.out]at this
   obtain⟨b2,c2,hq2⟩:∃b2 c2,q.vs=.slice (some ⟨b2,0,none⟩) (ys.length+1) c2:=fJ hN9.own;have hqad:q.ad=some ⟨b2,0,none⟩:=by unfold RR.vs at hq2;injection hq2
   rw[ht1]at hR9;rw[hq2]at hN9;have hv1:Value.slice t.ad t.rows.length t.cap=.slice (some ⟨b1,0,none⟩) (qs.length+1) c1:=ht1;rw[hv1]at hc1;have hd1:w9.cell? ⟨b1,1,none⟩=some (.slice (some ⟨b2,0,none⟩) (ys.length+1) c2):=(hR9.own.cellAt 1 (by omega)).trans (by simp[RR.cells,hq2]);have hk0:w9.cell? ⟨b2,0,none⟩=some (.int .i64 y.e.kind):=(hN9.own.cellAt 0 (by omega)).trans (by simp[jL,ER.row]);have hk1:w9.frozen? ⟨b2,0,none⟩=false:=hN9.own.frozenAt 0;have l1:=hR9.own.lt b1 rfl;have l2:=hN9.own.lt b2 rfl;have hqs0:(0:Int)<(qs.length:Int)+1:=by omega
   have hys0:(0:Int)<(ys.length:Int)+1:=by omega
   have HQAD:=jK hqad;clear hkt hkq hR9 hN9 ht1 hq2 hqad hv1 hc0 hf0;go_wp2_with fail;refine lX 11 _ _ (fun k v _=>(k=8->∃z:Int,v=.int .i64 z)/\(k≠8->v=(Value.slice (some ⟨b,0,none⟩) (ts.length+1) cp::.pointer (some ⟨b,0,none⟩)::.pointer (some ⟨b,1,none⟩)::.slice (some ⟨b1,0,none⟩) (qs.length+1) c1::.pointer (some ⟨b1,0,none⟩)::.pointer (some ⟨b1,1,none⟩)::.slice (some ⟨b2,0,none⟩) (ys.length+1) c2::.pointer (some ⟨R,0,none⟩)::undef::.pointer (some ⟨b2,0,none⟩)::.pointer (some ⟨b2,0,none⟩)::[]).getD k undef)) (fun _ w'=>Rd w' R ad len cap/\Only R w9 w') (by kernel_rfl) rfl (by kernel_rfl) (by kernel_rfl) (BJ [(82,[0,1,2,3,4,5,6,7,8,9,10])]) ⟨HR9.out.below ((VD _ _).drew),(Only.refl R w9).drewN 1⟩ ?stepK ?finK<;>dsimp only[yV];case stepK =>
    rintro i hi o ho listed fq w' - - ⟨hR',XH⟩ hpre;have HRr:=aC hR';have HOo:=aC XH;replace hc1:=(XH.cell hbl (by omega)).trans hc1;replace hd1:=(XH.cell l1.2 (by omega)).trans hd1;have HM:Hid (∀e∈o.after,Region.binds .any e=true->_):=hpre;clear hR' XH hpre;have hc:=Ku (i:=i) (by omega);clear hi
    repeat' rcases hc with rfl|hc
    ·cases ho;refine aa rfl fun K HK=>?_;clear HM;dsimp only;go_simp;exact HK.out _ _ ⟨Value.slice (some ⟨b,0,none⟩) (ts.length+1) cp,by simp[upd],⟨HRr.out,HOo.out⟩,⟨fun h=>absurd h (by decide),fun _=>rfl⟩,fun k u _ hu=>hu⟩
    ·cases ho;have e0:fq 0=.slice (some ⟨b,0,none⟩) (ts.length+1) cp:=(HM.out ⟨0,.data⟩ (by simp) rfl).2 (by decide);refine aa rfl fun K HK=>?_;clear HM;simp only[e0];go_simp;exact HK.out _ _ ⟨Value.pointer (some ⟨b,0,none⟩),by simp[upd,e0],⟨HRr.out,HOo.out⟩,⟨fun h=>absurd h (by decide),fun _=>rfl⟩,fun k u _ hu=>hu⟩
    ·cases ho;have e1:fq 1=.pointer (some ⟨b,0,none⟩):=(HM.out ⟨1,.data⟩ (by simp) rfl).2 (by decide);refine aa rfl fun K HK=>?_;clear HM;simp only[e1];go_simp;exact HK.out _ _ ⟨Value.pointer (some ⟨b,1,none⟩),by simp[upd,e1],⟨HRr.out,HOo.out⟩,⟨fun h=>absurd h (by decide),fun _=>rfl⟩,fun k u _ hu=>hu⟩
    ·cases ho;have e2:fq 2=.pointer (some ⟨b,1,none⟩):=(HM.out ⟨2,.data⟩ (by simp) rfl).2 (by decide);refine aa rfl fun K HK=>?_;clear HM;simp only[e2];go_simp;exact HK.out _ _ ⟨Value.slice (some ⟨b1,0,none⟩) (qs.length+1) c1,by simp[upd,e2],⟨HRr.out,HOo.out⟩,⟨fun h=>absurd h (by decide),fun _=>rfl⟩,fun k u _ hu=>hu⟩
    ·cases ho;have e3:fq 3=.slice (some ⟨b1,0,none⟩) (qs.length+1) c1:=(HM.out ⟨3,.data⟩ (by simp) rfl).2 (by decide);refine aa rfl fun K HK=>?_;clear HM;simp only[e3];go_simp;exact HK.out _ _ ⟨Value.pointer (some ⟨b1,0,none⟩),by simp[upd,e3],⟨HRr.out,HOo.out⟩,⟨fun h=>absurd h (by decide),fun _=>rfl⟩,fun k u _ hu=>hu⟩
    ·cases ho;have e4:fq 4=.pointer (some ⟨b1,0,none⟩):=(HM.out ⟨4,.data⟩ (by simp) rfl).2 (by decide);refine aa rfl fun K HK=>?_;clear HM;simp only[e4];go_simp;exact HK.out _ _ ⟨Value.pointer (some ⟨b1,1,none⟩),by simp[upd,e4],⟨HRr.out,HOo.out⟩,⟨fun h=>absurd h (by decide),fun _=>rfl⟩,fun k u _ hu=>hu⟩
    ·cases ho;have e5:fq 5=.pointer (some ⟨b1,1,none⟩):=(HM.out ⟨5,.data⟩ (by simp) rfl).2 (by decide);refine aa rfl fun K HK=>?_;clear HM;simp only[e5];go_simp;exact HK.out _ _ ⟨Value.slice (some ⟨b2,0,none⟩) (ys.length+1) c2,by simp[upd,e5],⟨HRr.out,HOo.out⟩,⟨fun h=>absurd h (by decide),fun _=>rfl⟩,fun k u _ hu=>hu⟩
    ·cases ho;refine aa rfl fun K HK=>?_;clear HM;dsimp only;go_simp;exact HK.out _ _ ⟨Value.pointer (some ⟨R,0,none⟩),by simp[upd],⟨HRr.out,HOo.out⟩,⟨fun h=>absurd h (by decide),fun _=>rfl⟩,fun k u _ hu=>hu⟩
    ·cases ho;have e7:fq 7=.pointer (some ⟨R,0,none⟩):=(HM.out ⟨7,.data⟩ (by simp) rfl).2 (by decide);refine aa rfl fun K HK=>?_;clear HM;simp only[e7];go_simp;refine(E9 R ad len cap 1 6 _ HRr.out (by decide) (by decide) (by decide)).mono ?_;rintro e w10 ⟨⟨z,rfl⟩,hR10,hO10⟩;have HR10:=jK hR10;have HO10:=jK hO10;clear hR10 hO10;go_wp2_with fail;exact HK.out _ _ ⟨.int .i64 z,by simp[upd,e7],⟨HR10.out,HOo.out.trans HO10.out⟩,⟨fun _=>⟨z,rfl⟩,fun h=>absurd rfl h⟩,fun k u _ hu=>hu⟩
    ·cases ho;have e6:fq 6=.slice (some ⟨b2,0,none⟩) (ys.length+1) c2:=(HM.out ⟨6,.data⟩ (by simp) rfl).2 (by decide);refine aa rfl fun K HK=>?_;clear HM;simp only[e6];go_simp;exact HK.out _ _ ⟨Value.pointer (some ⟨b2,0,none⟩),by simp[upd,e6],⟨HRr.out,HOo.out⟩,⟨fun h=>absurd h (by decide),fun _=>rfl⟩,fun k u _ hu=>hu⟩
    cases ho;have e9:fq 9=.pointer (some ⟨b2,0,none⟩):=(HM.out ⟨9,.data⟩ (by simp) rfl).2 (by decide);refine aa rfl fun K HK=>?_;clear HM;simp only[e9];go_simp;exact HK.out _ _ ⟨Value.pointer (some ⟨b2,0,none⟩),by simp[upd,e9],⟨HRr.out,HOo.out⟩,⟨fun h=>absurd h (by decide),fun _=>rfl⟩,fun k u _ hu=>hu⟩
   case finK =>
    rintro o ho listed fq w' ⟨hR',XH⟩ hall;have HRr:=aC hR';have HOo:Hid (Only R w w'):=HO9.out.trans XH;obtain⟨z,ez⟩:=(hall 8 (by omega)).1 rfl;replace ez:fq 8=_:=ez;have e10:fq 10=.pointer (some ⟨b2,0,none⟩):=(hall 10 (by omega)).2 (by omega);replace hk0:=(XH.cell l2.2 (by omega)).trans hk0;replace hk1:=(XH.frozen (o:=0) l2.2 (by omega)).trans hk1;have hM':iV w' w.heap.size (.slice (some ⟨b,0,none⟩) (ts.length+1) cp) (t::ts):=HM9.out.heap mU XH.size fun g hg=>XH.block g (HM9.out.lt mU hg).2 (fun e=>by injection e with e;have:=(HM9.out.lt mU hg).1;omega);have XG:Hid (Uk R ad len cap w (.returned (.slice (some ⟨b,0,none⟩) (ts.length+1) cp)) (w'.setCell ⟨b2,0,none⟩ (.int .i64 z))):=⟨_,_,rfl,iV.kind z hM' HQ.out HYY.out HQAD.out,Ni z HG.out HQ.out HYY.out,HRr.out.setFar (by omega) (FAR.out b2 l2.1),HOo.out.setNew l2.1⟩;cases ho;clear hall hR' XH hM';refine aa rfl fun K HK=>?_;simp only[ez,e10];go_simp;refine HK.out _ _ ?_;clear HK;go_wp2;go_ret;exact XG.out
  have h38b:((x:Int)==38)=false:=by simp;omega
  go_wp2;go_ret;exact⟨_,_,rfl,HM9.out,HG.out,HR9.out,HO9.out⟩
def Fc.short(f:Fc):Prop:=f.a.size<=20/\f.b.size<=20/\f.r.size<=20/\f.c.size<=20/\f.d.size<=20
def Qv(w:World)(R B g:Nat):Prop:=g≠R/\B<=g/\g<w.heap.size/\(∀o,w.frozen? ⟨g,o,none⟩=false)/\∃f:Fc,f.short/\yG w g 0 f
theorem Qv.only{w w':ae}{R B g:Nat}(h:Qv w R B g)(k:Only R w w'):Qv w' R B g:=by
 obtain⟨h1,h2,h3,h4,f,hf,hc⟩:=h;exact⟨h1,h2,Vy h3 k.size,fun o=>by rw[k.frozen h3 h1];exact h4 o,f,hf,hc.same fun o=>k.cell h3 h1⟩
theorem Qw{w:ae}{R B:Nat}{t:TypeId}(hR:R<w.heap.size)(hB:B<=w.heap.size):Qv (w.alloc (.cells #[.string ⟨#[]⟩,.string ⟨#[]⟩,.string ⟨#[]⟩,.string ⟨#[]⟩,.string ⟨#[]⟩] t)) R B w.heap.size:=by
 refine⟨by omega,hB,by simp,fun o=>by simp,⟨⟨#[]⟩,⟨#[]⟩,⟨#[]⟩,⟨#[]⟩,⟨#[]⟩⟩,⟨by decide,by decide,by decide,by decide,by decide⟩,?_⟩;refine⟨?_,?_,?_,?_,?_⟩<;>simp
theorem R4{w:ae}{g:Nat}{x0 x1 x2 x3 x4:Value}(y:Fc)(c0:w.cell? ⟨g,0,none⟩=some x0)(c1:w.cell? ⟨g,1,none⟩=some x1)(c2:w.cell? ⟨g,2,none⟩=some x2)(c3:w.cell? ⟨g,3,none⟩=some x3)(c4:w.cell? ⟨g,4,none⟩=some x4):
  yG (((((w.setCell ⟨g,0,none⟩ (.string y.a)).setCell ⟨g,1,none⟩ (.string y.b)).setCell ⟨g,2,none⟩ (.string y.r)).setCell ⟨g,3,none⟩ (.string y.c)).setCell ⟨g,4,none⟩ (.string y.d)) g 0 y:=by
 have far:∀(W:World) (i j:Nat) (v:Value),i≠j->(W.setCell ⟨g,i,none⟩ v).cell? ⟨g,j,none⟩=W.cell? ⟨g,j,none⟩:=fun W i j v h=>by apply World.cell?_setCell_other;intro e;exact h (congrArg Addr.off e)
 have same:∀(W:World) (i:Nat) (x v:Value),W.cell? ⟨g,i,none⟩=some x->(W.setCell ⟨g,i,none⟩ v).cell? ⟨g,i,none⟩=some v:=fun W i x v h=>by apply World.cell?_setCell_same;exact h
 refine⟨?_,?_,?_,?_,?_⟩
 ·rw[far _ 4 0 _ (by decide),far _ 3 0 _ (by decide),far _ 2 0 _ (by decide),far _ 1 0 _ (by decide)];exact same _ 0 _ _ c0
 ·show World.cell? _ ⟨g,1,none⟩=_;rw[far _ 4 1 _ (by decide),far _ 3 1 _ (by decide),far _ 2 1 _ (by decide)];exact same _ 1 _ _ (by rw[far _ 0 1 _ (by decide)];exact c1)
 ·show World.cell? _ ⟨g,2,none⟩=_;rw[far _ 4 2 _ (by decide),far _ 3 2 _ (by decide)];exact same _ 2 _ _ (by rw[far _ 1 2 _ (by decide),far _ 0 2 _ (by decide)];exact c2)
 ·show World.cell? _ ⟨g,3,none⟩=_;rw[far _ 4 3 _ (by decide)];exact same _ 3 _ _ (by rw[far _ 2 3 _ (by decide),far _ 1 3 _ (by decide),far _ 0 3 _ (by decide)];exact c3)
 show World.cell? _ ⟨g,4,none⟩=_;exact same _ 4 _ _ (by rw[far _ 3 4 _ (by decide),far _ 2 4 _ (by decide),far _ 1 4 _ (by decide),far _ 0 4 _ (by decide)];exact c4)
def Ul(R B k:Nat)(v:Value)(w:World):Prop:=(k=18->∃g,v=.pointer (some ⟨g,0,none⟩)/\Qv w R B g)/\(k=17->∃f:Fc,v=.agg #[.string f.a,.string f.b,.string f.r,.string f.c,.string f.d]/\f.short)/\(k<17->Kd.ok R w v (FE [.strs 3,.eq (Value.pointer (some ⟨R,0,none⟩)),.idx 3,.elt 3,.str,.obj,.strs 4,.eq (Value.pointer (some ⟨R,0,none⟩)),.idx 4,.elt 4,.str,.strs 3,.eq (Value.pointer (some ⟨R,0,none⟩)),.idx 3,.elt 3,.str,.obj] k))
theorem Ul.only{R B k:Nat}{v:Value}{w w':ae}(h:Ul R B k v w)(ho:Only R w w'):Ul R B k v w' :=
 ⟨fun e=>by obtain⟨g,e1,hg⟩:=h.1 e;exact⟨g,e1,hg.only ho⟩,h.2.1,fun e=>Kd.only ho _ (h.2.2 e)⟩
theorem Ul.no{R B k:Nat}{v:Value}{w:ae}(hk:k<17)(h:Kd.ok R w v (FE [.strs 3,.eq (Value.pointer (some ⟨R,0,none⟩)),.idx 3,.elt 3,.str,.obj,.strs 4,.eq (Value.pointer (some ⟨R,0,none⟩)),.idx 4,.elt 4,.str,.strs 3,.eq (Value.pointer (some ⟨R,0,none⟩)),.idx 3,.elt 3,.str,.obj] k)):Ul R B k v w:=⟨fun e=>by omega,fun e=>by omega,fun _=>h⟩
set_option maxRecDepth 4000 in
theorem Qx(R:Nat)(ad:Q02)(len cap:Nat)(w:ae)(h:Rd w R ad len cap):
  Calls prog 47 #[.pointer (some ⟨R,0,none⟩)] w fun e w'=>(∃f:Fc,e=.returned (.agg #[.string f.a,.string f.b,.string f.r,.string f.c,.string f.d])/\f.short)/\Rd w' R ad len cap/\Only R w w':=by
 have H:=aC h;have hRw:=h.lt;have FAR:Hid (∀g,w.heap.size<=g->0<len->∀b off,ad=some ⟨b,off,none⟩->b≠g):=fun g hg h0 b off e=>by
  obtain⟨b',off',e',-,hb',-⟩:=h.bytes h0;rw[e]at e';injection e' with e';injection e' with e1 e2;omega
 clear h;go_enter func47,ntmps47;go_wp2_with fail;refine BL 19 (fun f=>{ tmps:=List.toArray (Value.pointer (some ⟨R,0,none⟩)::undef::.pointer (some ⟨w.heap.size,0,none⟩)::f 18::f 0::f 1::f 2::f 3::f 4::f 5::f 6::f 7::f 8::f 9::f 10::f 11::f 12::f 13::f 14::f 15::f 16::f 17::undef::undef::undef::undef::undef::undef::undef::undef::undef::undef::undef::[]),defers:=[] }) (fun k v w'=>Ul R (w.heap.size+1) k v w') (fun w'=>Rd w' R ad len cap/\Only R (w.alloc (.cells #[.string ⟨#[]⟩,.string ⟨#[]⟩,.string ⟨#[]⟩,.string ⟨#[]⟩,.string ⟨#[]⟩] 43)) w') (by kernel_rfl) rfl (by kernel_rfl) (by kernel_rfl) rfl ⟨H.out.below (((VD _ _).alloc (VC _) _).drew),(Only.refl _ _).drewN 1⟩ ?step ?fin;case step =>
  rintro i hi o ho f w' ⟨hR',XH⟩ hpre;have HR:=aC hR';have HO:=aC XH;have hsz:w.heap.size+1<=w'.heap.size:=by have:=XH.size;simpa using this
  have hRl:R<w'.heap.size:=hR'.lt;have HM:Hid (∀e∈o.after,Region.binds .any e=true->Ul R (w.heap.size+1) e.on (f e.on) w'):=hpre;have KAL:Hid (∀ob:Obj,Only R w' (w'.alloc ob)):=fun ob=>(Only.refl R w').alloc ob;clear hR' XH hpre;have hc:=Kv (i:=i) (by omega);clear hi
  repeat' rcases hc with rfl|hc
  ·cases ho;refine aa rfl fun K HK=>?_;clear HM;dsimp only;go_simp;exact HK.out _ _ ⟨_,by simp[upd],⟨HR.out.alloc _,HO.out.alloc _⟩,.no (by decide) ⟨_,rfl,fw w' R hRl (xs:=[_,_,_]) (by decide)⟩,fun k u hu=>hu.only (KAL.out _)⟩
  ·cases ho;refine aa rfl fun K HK=>?_;clear HM;dsimp only;go_simp;exact HK.out _ _ ⟨Value.pointer (some ⟨R,0,none⟩),by simp[upd],⟨HR.out,HO.out⟩,.no (by decide) rfl,fun k u hu=>hu⟩
  ·cases ho;have e1:f 1=Value.pointer (some ⟨R,0,none⟩):=(HM.out ⟨1,.data⟩ (by simp) rfl).2.2 (by decide);refine aa rfl fun K HK=>?_;clear HM;simp only[e1];go_simp;refine(bB R ad len cap 3 _ HR.out (by omega) (by omega)).mono ?_;rintro e w5 ⟨⟨x,rfl,hx0,hx1⟩,Xo,Xn⟩;obtain⟨x,rfl⟩:∃y:Nat,x=(y:Int):=⟨x.toNat,by omega⟩;have Xt:Hid (Rd w5 R ad len cap/\Only R w' w5):=⟨Xo,Xn⟩;clear Xo Xn;go_wp2_with fail;exact HK.out _ _ ⟨.int .i64 (x:Int),by simp[upd,e1],⟨Xt.out.1,HO.out.trans Xt.out.2⟩,.no (by decide) ⟨x,rfl,by omega⟩,fun k u hu=>hu.only Xt.out.2⟩
  ·cases ho;obtain⟨g,e1,hS⟩:=(HM.out ⟨0,.data⟩ (by simp) rfl).2.2 (by decide);obtain⟨x,e2,hx⟩:=(HM.out ⟨2,.data⟩ (by simp) rfl).2.2 (by decide);replace e1:f 0=_:=e1;replace e2:f 2=_:=e2;have HS:=aC hS;clear hS;have hx0:=bq x;have hx1:(x:Int)<3:=by omega
   refine aa rfl fun K HK=>?_;clear HM;simp only[e1,e2];go_simp;exact HK.out _ _ ⟨.pointer (some ⟨g,x,none⟩),by simp[upd,e1,e2],⟨HR.out,HO.out⟩,.no (by decide) ⟨g,x,rfl,hx,HS.out⟩,fun k u hu=>hu⟩
  ·cases ho;obtain⟨g,x,e1,hx,hS⟩:=(HM.out ⟨3,.data⟩ (by simp) rfl).2.2 (by decide);replace e1:f 3=_:=e1;obtain⟨t,ht,hcell⟩:=hS.2.2 x hx;clear hS;refine aa rfl fun K HK=>?_;clear HM;simp only[e1];go_simp;exact HK.out _ _ ⟨.string t,by simp[upd,e1],⟨HR.out,HO.out⟩,.no (by decide) ⟨t,rfl,ht⟩,fun k u hu=>hu⟩
  ·cases ho;obtain⟨t,e1,ht⟩:=(HM.out ⟨4,.data⟩ (by simp) rfl).2.2 (by decide);replace e1:f 4=_:=e1;refine aa rfl fun K HK=>?_;clear HM;simp only[e1];go_simp;exact HK.out _ _ ⟨.agg #[.string ⟨#[100,111,99]⟩,.string t],by simp[upd,e1],⟨HR.out,HO.out⟩,.no (by decide) ⟨_,t,rfl,by decide,ht⟩,fun k u hu=>hu⟩
  ·cases ho;refine aa rfl fun K HK=>?_;clear HM;dsimp only;go_simp;exact HK.out _ _ ⟨_,by simp[upd],⟨HR.out.alloc _,HO.out.alloc _⟩,.no (by decide) ⟨_,rfl,fw w' R hRl (xs:=[_,_,_,_]) (by decide)⟩,fun k u hu=>hu.only (KAL.out _)⟩
  ·cases ho;refine aa rfl fun K HK=>?_;clear HM;dsimp only;go_simp;exact HK.out _ _ ⟨Value.pointer (some ⟨R,0,none⟩),by simp[upd],⟨HR.out,HO.out⟩,.no (by decide) rfl,fun k u hu=>hu⟩
  ·cases ho;have e1:f 7=Value.pointer (some ⟨R,0,none⟩):=(HM.out ⟨7,.data⟩ (by simp) rfl).2.2 (by decide);refine aa rfl fun K HK=>?_;clear HM;simp only[e1];go_simp;refine(bB R ad len cap 4 _ HR.out (by omega) (by omega)).mono ?_;rintro e w5 ⟨⟨x,rfl,hx0,hx1⟩,Xo,Xn⟩;obtain⟨x,rfl⟩:∃y:Nat,x=(y:Int):=⟨x.toNat,by omega⟩;have Xt:Hid (Rd w5 R ad len cap/\Only R w' w5):=⟨Xo,Xn⟩;clear Xo Xn;go_wp2_with fail;exact HK.out _ _ ⟨.int .i64 (x:Int),by simp[upd,e1],⟨Xt.out.1,HO.out.trans Xt.out.2⟩,.no (by decide) ⟨x,rfl,by omega⟩,fun k u hu=>hu.only Xt.out.2⟩
  ·cases ho;obtain⟨g,e1,hS⟩:=(HM.out ⟨6,.data⟩ (by simp) rfl).2.2 (by decide);obtain⟨x,e2,hx⟩:=(HM.out ⟨8,.data⟩ (by simp) rfl).2.2 (by decide);replace e1:f 6=_:=e1;replace e2:f 8=_:=e2;have HS:=aC hS;clear hS;have hx0:=bq x;have hx1:(x:Int)<4:=by omega
   refine aa rfl fun K HK=>?_;clear HM;simp only[e1,e2];go_simp;exact HK.out _ _ ⟨.pointer (some ⟨g,x,none⟩),by simp[upd,e1,e2],⟨HR.out,HO.out⟩,.no (by decide) ⟨g,x,rfl,hx,HS.out⟩,fun k u hu=>hu⟩
  ·cases ho;obtain⟨g,x,e1,hx,hS⟩:=(HM.out ⟨9,.data⟩ (by simp) rfl).2.2 (by decide);replace e1:f 9=_:=e1;obtain⟨t,ht,hcell⟩:=hS.2.2 x hx;clear hS;refine aa rfl fun K HK=>?_;clear HM;simp only[e1];go_simp;exact HK.out _ _ ⟨.string t,by simp[upd,e1],⟨HR.out,HO.out⟩,.no (by decide) ⟨t,rfl,ht⟩,fun k u hu=>hu⟩
  ·cases ho;refine aa rfl fun K HK=>?_;clear HM;dsimp only;go_simp;exact HK.out _ _ ⟨_,by simp[upd],⟨HR.out.alloc _,HO.out.alloc _⟩,.no (by decide) ⟨_,rfl,fw w' R hRl (xs:=[_,_,_]) (by decide)⟩,fun k u hu=>hu.only (KAL.out _)⟩
  ·cases ho;refine aa rfl fun K HK=>?_;clear HM;dsimp only;go_simp;exact HK.out _ _ ⟨Value.pointer (some ⟨R,0,none⟩),by simp[upd],⟨HR.out,HO.out⟩,.no (by decide) rfl,fun k u hu=>hu⟩
  ·cases ho;have e1:f 12=Value.pointer (some ⟨R,0,none⟩):=(HM.out ⟨12,.data⟩ (by simp) rfl).2.2 (by decide);refine aa rfl fun K HK=>?_;clear HM;simp only[e1];go_simp;refine(bB R ad len cap 3 _ HR.out (by omega) (by omega)).mono ?_;rintro e w5 ⟨⟨x,rfl,hx0,hx1⟩,Xo,Xn⟩;obtain⟨x,rfl⟩:∃y:Nat,x=(y:Int):=⟨x.toNat,by omega⟩;have Xt:Hid (Rd w5 R ad len cap/\Only R w' w5):=⟨Xo,Xn⟩;clear Xo Xn;go_wp2_with fail;exact HK.out _ _ ⟨.int .i64 (x:Int),by simp[upd,e1],⟨Xt.out.1,HO.out.trans Xt.out.2⟩,.no (by decide) ⟨x,rfl,by omega⟩,fun k u hu=>hu.only Xt.out.2⟩
  ·cases ho;obtain⟨g,e1,hS⟩:=(HM.out ⟨11,.data⟩ (by simp) rfl).2.2 (by decide);obtain⟨x,e2,hx⟩:=(HM.out ⟨13,.data⟩ (by simp) rfl).2.2 (by decide);replace e1:f 11=_:=e1;replace e2:f 13=_:=e2;have HS:=aC hS;clear hS;have hx0:=bq x;have hx1:(x:Int)<3:=by omega
   refine aa rfl fun K HK=>?_;clear HM;simp only[e1,e2];go_simp;exact HK.out _ _ ⟨.pointer (some ⟨g,x,none⟩),by simp[upd,e1,e2],⟨HR.out,HO.out⟩,.no (by decide) ⟨g,x,rfl,hx,HS.out⟩,fun k u hu=>hu⟩
  ·cases ho;obtain⟨g,x,e1,hx,hS⟩:=(HM.out ⟨14,.data⟩ (by simp) rfl).2.2 (by decide);replace e1:f 14=_:=e1;obtain⟨t,ht,hcell⟩:=hS.2.2 x hx;clear hS;refine aa rfl fun K HK=>?_;clear HM;simp only[e1];go_simp;exact HK.out _ _ ⟨.string t,by simp[upd,e1],⟨HR.out,HO.out⟩,.no (by decide) ⟨t,rfl,ht⟩,fun k u hu=>hu⟩
  ·cases ho;obtain⟨t,e1,ht⟩:=(HM.out ⟨15,.data⟩ (by simp) rfl).2.2 (by decide);replace e1:f 15=_:=e1;refine aa rfl fun K HK=>?_;clear HM;simp only[e1];go_simp;exact HK.out _ _ ⟨.agg #[.string ⟨#[117,115,101,114]⟩,.string t],by simp[upd,e1],⟨HR.out,HO.out⟩,.no (by decide) ⟨_,t,rfl,by decide,ht⟩,fun k u hu=>hu⟩
  ·cases ho;obtain⟨t1,t2,e1,h1,h2⟩:=(HM.out ⟨5,.data⟩ (by simp) rfl).2.2 (by decide);obtain⟨t3,e2,h3⟩:=(HM.out ⟨10,.data⟩ (by simp) rfl).2.2 (by decide);obtain⟨t4,t5,e3,h4,h5⟩:=(HM.out ⟨16,.data⟩ (by simp) rfl).2.2 (by decide);replace e1:f 5=_:=e1;replace e2:f 10=_:=e2;replace e3:f 16=_:=e3;refine aa rfl fun K HK=>?_;clear HM;simp only[e1,e2,e3];go_simp;exact HK.out _ _ ⟨.agg #[.string t1,.string t2,.string t3,.string t4,.string t5],by simp[upd,e1,e2,e3],⟨HR.out,HO.out⟩,⟨fun e=>absurd e (by decide),fun _=>⟨⟨t1,t2,t3,t4,t5⟩,rfl,h1,h2,h3,h4,h5⟩,fun e=>absurd e (by decide)⟩,fun k u hu=>hu⟩
  cases ho;refine aa rfl fun K HK=>?_;clear HM;dsimp only;go_simp;exact HK.out _ _ ⟨_,by simp[upd],⟨HR.out.alloc _,HO.out.alloc _⟩,⟨fun _=>⟨_,rfl,Qw hRl hsz⟩,fun e=>absurd e (by decide),fun e=>absurd e (by decide)⟩,fun k u hu=>hu.only (KAL.out _)⟩
 case fin =>
  rintro o ho f w0 ⟨hR',XH⟩ hall;obtain⟨g,e1,hg⟩:=(hall 18 (by omega)).1 rfl;obtain⟨y,e2,hy⟩:=(hall 17 (by omega)).2.1 rfl;replace e1:f 18=_:=e1;replace e2:f 17=_:=e2;obtain⟨hgR,hgB,hgl,hgf,z,_,ca,cb,cc,cd,ce⟩:=hg;obtain⟨w',hw'⟩:∃w',w'=(((((w0.setCell ⟨g,0,none⟩ (.string y.a)).setCell ⟨g,1,none⟩ (.string y.b)).setCell ⟨g,2,none⟩ (.string y.r)).setCell ⟨g,3,none⟩ (.string y.c)).setCell ⟨g,4,none⟩ (.string y.d)):=⟨_,rfl⟩;have hA:yG w' g 0 y:=by rw[hw'];exact R4 y ca cb cc cd ce
  have hR:Rd w' R ad len cap:=by rw[hw'];exact((((hR'.setFar hgR (FAR.out _ (by omega))).setFar hgR (FAR.out _ (by omega))).setFar hgR (FAR.out _ (by omega))).setFar hgR (FAR.out _ (by omega))).setFar hgR (FAR.out _ (by omega))
  have hO:Only R (w.alloc (.cells #[.string ⟨#[]⟩,.string ⟨#[]⟩,.string ⟨#[]⟩,.string ⟨#[]⟩,.string ⟨#[]⟩] 43)) w':=by rw[hw'];exact((((XH.setNew (by simpa using hgB)).setNew (by simpa using hgB)).setNew (by simpa using hgB)).setNew (by simpa using hgB)).setNew (by simpa using hgB)
  have hgf':∀o,w'.frozen? ⟨g,o,none⟩=false:=fun o=>by rw[hw'];simpa using hgf o
  have hgl':g<w'.heap.size:=by rw[hw'];simpa using hgl
  clear hR' XH hall;obtain rfl:=Option.some.inj ho;clear ho;refine aa rfl fun K HK=>?_;simp only[e1,e2];go_simp;rw[<-hw'];refine HK.out _ _ ?_;clear HK hw' hgl hgf ca cb cc cd ce;have hOw:Only R w w':=(Only.of_below ((VD _ _).alloc (VC _) _)).trans hO;have hnR:w.heap.size≠R:=by omega
  have hn:yG w' w.heap.size 0 ⟨⟨#[]⟩,⟨#[]⟩,⟨#[]⟩,⟨#[]⟩,⟨#[]⟩⟩:=by
   refine yG.same (w:=w.alloc (.cells #[.string ⟨#[]⟩,.string ⟨#[]⟩,.string ⟨#[]⟩,.string ⟨#[]⟩,.string ⟨#[]⟩] 43)) ?_ fun o=>hO.cell (by simp) hnR;refine⟨?_,?_,?_,?_,?_⟩<;>simp
  have hnf:∀o,w'.frozen? ⟨w.heap.size,o,none⟩=false:=fun o=>by rw[hO.frozen (by simp) hnR];simp
  have hsz:w.heap.size<w'.heap.size:=by have:=hO.size;simp at this;omega
  have HR:=aC hR;have HOw:=aC hOw;have HA:Hid (yG w' g 0 y/\yG w' w.heap.size 0 ⟨⟨#[]⟩,⟨#[]⟩,⟨#[]⟩,⟨#[]⟩,⟨#[]⟩⟩):=⟨hA,hn⟩;have HY:Hid y.short:=hy;clear hR hO hOw hA hn hy;go_wp2_with fail;refine(ib R ad len cap 5 _ HR.out (by omega) (by omega)).mono ?_;rintro e w1 ⟨⟨x,rfl⟩,Xv,Xq⟩;have HR1:=aC Xv;have Xj:Hid (Only R w w1):=HOw.out.trans Xq;have hA1:=HA.out.1.same (w':=w1) fun o=>Xq.cell hgl' hgR;have hn1:=HA.out.2.same (w':=w1) fun o=>Xq.cell hsz hnR;have mf:∀o,w1.frozen? ⟨w.heap.size,o,none⟩=false:=fun o=>by rw[Xq.frozen hsz hnR];exact hnf o
  have gf:∀o,w1.frozen? ⟨g,o,none⟩=false:=fun o=>by rw[Xq.frozen hgl' hgR];exact hgf' o
  have hs1:w.heap.size<w1.heap.size:=Vy hsz Xq.size;have hg1:g<w1.heap.size:=Vy hgl' Xq.size;have hR1l:R<w1.heap.size:=Xv.lt;have hgn:g≠w.heap.size:=by omega
  clear hnf hgf' Xv Xq HR HOw HA;cases x;case false=>
   obtain⟨ca,cb,cc,cd,ce⟩:=hA1;obtain⟨na,nb,nc,nd,ne⟩:=hn1;go_wp2;exact bodyPost_ret (v:=.agg #[.string y.a,.string y.b,.string y.r,.string y.c,.string y.d]) (by simp[results,Tryz.results47,go_sem, *]) rfl ⟨⟨y,rfl,HY.out⟩,((((HR1.out.setFar hnR (FAR.out _ (VC _))).setFar hnR (FAR.out _ (VC _))).setFar hnR (FAR.out _ (VC _))).setFar hnR (FAR.out _ (VC _))).setFar hnR (FAR.out _ (VC _)),((((Xj.out.setNew (VC _)).setNew (VC _)).setNew (VC _)).setNew (VC _)).setNew (VC _)⟩
  go_wp2_with fail;refine(bB R ad len cap 2 _ (HR1.out.below ((VD _ _).alloc (VC _) _)) (by omega) (by omega)).mono ?_;rintro e w2 ⟨⟨x,rfl,hx0,hx1⟩,hR2,hO2⟩;have Yb:Only R w1 w2:=(Only.of_below ((VD _ _).alloc (VC _) _)).trans hO2;have hSt:=(fw w1 R hR1l (t:=9) (xs:=[⟨#[103]⟩,⟨#[104]⟩]) (by decide)).only hO2;obtain⟨q,rfl⟩:∃q:Nat,x=(q:Int):=⟨x.toNat,by omega⟩;obtain⟨t,ht,hct⟩:=hSt.2.2 q (by simp;omega);obtain⟨ca,cb,cc,cd,ce⟩:=hA1.same (w':=w2) fun o=>Yb.cell hg1 hgR;obtain⟨na,nb,nc,nd,ne⟩:=hn1.same (w':=w2) fun o=>Yb.cell hs1 hnR;have kf:∀o,w2.frozen? ⟨w.heap.size,o,none⟩=false:=fun o=>by rw[Yb.frozen hs1 hnR];exact mf o
  have kg:∀o,w2.frozen? ⟨g,o,none⟩=false:=fun o=>by rw[Yb.frozen hg1 hgR];exact gf o
  have HR2:=aC hR2;have WV:Hid (Only R w w2):=Xj.out.trans Yb;clear hR2 hO2 Yb hSt mf gf hA1 hn1 HR1 Xj;go_wp2;exact bodyPost_ret (v:=.agg #[.string ⟨#[103,114,111,117,112]⟩,.string t,.string ⟨#[109,101,109,98,101,114]⟩,.string y.c,.string y.d]) (by simp[results,Tryz.results47,go_sem, *]) rfl ⟨⟨⟨_,t,_,y.c,y.d⟩,rfl,(by simp only;decide),ht,(by simp only;decide),HY.out.2.2.2.1,HY.out.2.2.2.2⟩,(((((((HR2.out.setFar hgR (FAR.out _ (by omega))).setFar hgR (FAR.out _ (by omega))).setFar hgR (FAR.out _ (by omega))).setFar hnR (FAR.out _ (VC _))).setFar hnR (FAR.out _ (VC _))).setFar hnR (FAR.out _ (VC _))).setFar hnR (FAR.out _ (VC _))).setFar hnR (FAR.out _ (VC _)),(((((((WV.out.setNew (by omega)).setNew (by omega)).setNew (by omega)).setNew (VC _)).setNew (VC _)).setNew (VC _)).setNew (VC _)).setNew (VC _)⟩
structure KpO(b l:Nat)(W W':World):Prop where
 size:W.heap.size<=W'.heap.size
 cells:∀(g:Nat) (cs:Array Value) (T:TypeId) (m:Nat×Nat),W.heap[g]?=some (.cells cs T m)->T≠43->T≠34->W'.heap[g]?=some (.cells cs T m)
 other:∀(g:Nat) (o:Obj),W.heap[g]?=some o->o.isCells=false->g≠l->g≠b->W'.heap[g]?=some o
structure KpI(W W':World):Prop where
 size:W.heap.size<=W'.heap.size
 cells:∀(g:Nat) (cs:Array Value) (T:TypeId) (m:Nat×Nat),W.heap[g]?=some (.cells cs T m)->T=27\/T=149->W'.heap[g]?=some (.cells cs T m)
theorem KpO.trans{b l:Nat}{X Y Z:ae}(h:KpO b l X Y)(k:KpO b l Y Z):KpO b l X Z :=
 ⟨VJ h.size k.size,fun g cs T m hg h1 h2=>k.cells g cs T m (h.cells g cs T m hg h1 h2) h1 h2,fun g o hg hc h1 h2=>k.other g o (h.other g o hg hc h1 h2) hc h1 h2⟩
theorem KpI.trans{X Y Z:ae}(h:KpI X Y)(k:KpI Y Z):KpI X Z :=
 ⟨VJ h.size k.size,fun g cs T m hg h1=>k.cells g cs T m (h.cells g cs T m hg h1) h1⟩
theorem oL{W:ae}{l g:Nat}{o':Obj}(h:g≠l):(W.putObj l o').heap[g]?=W.heap[g]?:=World.putObj_heap_other h
theorem KpO.put{b l:Nat}{W:ae}{o o':Obj}(h:W.heap[l]?=some o)(hc:o.isCells=false):KpO b l W (W.putObj l o') where
 size:=by simp
 cells g cs T m hg _ _:=by
  have:g≠l:=fun e=>by subst e;rw[h]at hg;injection hg with hg;subst hg;cases hc
  rw[oL this];exact hg
 other g x hg _ h1 _:=by rw[oL h1];exact hg
theorem KpI.put{l:Nat}{W:ae}{o o':Obj}(h:W.heap[l]?=some o)(hc:o.isCells=false):KpI W (W.putObj l o') where
 size:=by simp
 cells g cs T m hg _:=by
  have:g≠l:=fun e=>by subst e;rw[h]at hg;injection hg with hg;subst hg;cases hc
  rw[oL this];exact hg
theorem KpO.below{b l:Nat}{W W':ae}(h:af W W'):KpO b l W W' :=
 ⟨h.size,fun g cs T m hg _ _=>(h.block g (VH.1 hg).1).trans hg,fun g o hg _ _ _=>(h.block g (VH.1 hg).1).trans hg⟩
theorem KpI.below{W W':ae}(h:af W W'):KpI W W' :=
 ⟨h.size,fun g cs T m hg _=>(h.block g (VH.1 hg).1).trans hg⟩
theorem KpO.toI{b l:Nat}{W W':ae}(h:KpO b l W W'):KpI W W' :=
 ⟨h.size,fun g cs T m hg hT=>h.cells g cs T m hg (by rcases hT with e|e<;>(rw[e];decide)) (by rcases hT with e|e<;>(rw[e];decide))⟩
theorem Bu{W W':ae}(h:af W W'):W.grownBy W' none:=⟨h.os,h.tape,h.output,h.size,fun k hk _=>h.block k hk⟩
theorem nG{β:Type}{B:Nat}{I:β->World->Prop}(h:OwnFrom B I){s:β}{W W':ae}(hs:I s W)(hb:af W W'):I s W':=h s W W' none hs (Bu hb) (fun r e=>by cases e)
end Go.Proofs.YtcgdckphpjfmhaaGreatDoor
