/- The walk of FnGrows: it answers true for every slice of bytes and leaves it as it was, with no condition on it. -/
import Derived.Test.YtojjoblnpldniaaGreatSq
import Derived.Test.YtojjoblnpldniaaGreatJ29
import Derived.Test.YtojjoblnpldniaaGreatFactsS
import Derived.Test.YtojjoblnpldniaaGreatFitsI
import Derived.Test.YtojjoblnpldniaaGreatJ33
import Derived.OpenShut
import Derived.ShutString
import Derived.HandedShaped
open Go.Proofs.Tryz
set_option maxHeartbeats 80000000
namespace Go.Proofs.YtojjoblnpldniaaGreat.fnGrows
open Go.Sort
open ChangeShapes WideShapes ChangeAt RowKit
open Pl
set_option linter.unusedVariables false
structure St(w:World)(XG:Q02)(g n:Nat)(rs:Q06)(ts:Q05)(k:Int)(t:Tp)(W:World):Prop where
 bel:ag w W
 sl:mP W XG rs
 gl:g<W.heap.size
 row:jJ W g 0 ts
 lt:n<W.heap.size
 bx:W.cell? ⟨n,0,none⟩=some (.int .i64 k)/\W.cell? ⟨n,1,none⟩=some (.string t.a)/\W.cell? ⟨n,2,none⟩=some (.string t.b)/\W.cell? ⟨n,3,none⟩=some (.string t.r)/\W.cell? ⟨n,4,none⟩=some (.string t.c)/\W.cell? ⟨n,5,none⟩=some (.string t.d)/\W.cell? ⟨n,6,none⟩=some (.string t.s)
theorem St.later{w W W':ae}{XG:Q02}{g n:Nat}{rs:Q06}{ts:Q05}{k:Int}{t:Tp}(h:St w XG g n rs ts k t W)(hb:ag W W'):St w XG g n rs ts k t W' :=
 ⟨h.bel.trans (hb.mono h.bel.size),h.sl.below hb,Vq h.gl hb.size,fun i hi=>(h.row i hi).same fun o=>hb.cell (p:=⟨g,o,none⟩) h.gl,Vq h.lt hb.size,by
  obtain⟨c0,c1,c2,c3,c4,c5,c6⟩:=h.bx;have hk:=fun o=>hb.cell (p:=⟨n,o,none⟩) h.lt;exact⟨(hk _).trans c0,(hk _).trans c1,(hk _).trans c2,(hk _).trans c3,(hk _).trans c4,(hk _).trans c5,(hk _).trans c6⟩⟩
theorem St.tu{w W:ae}{XG:Q02}{g n:Nat}{rs:Q06}{ts:Q05}{k:Int}{t:Tp}(h:St w XG g n rs ts k t W):Sl W (some ⟨g,0,none⟩) ts:=.inr ⟨g,0,rfl,h.gl,h.row⟩
theorem Cg{α:Type}{xs:List α}{k:Nat}{P:α->Prop}(hk:k<xs.length)(h:∀x∈xs.take k,P x)(h1:P xs[k]):∀x∈xs.take (k+1),P x:=by
 rw[Vu hk];intro x hx;rcases VE.1 hx with h2|h2
 ·exact h x h2
 obtain rfl:=VD.1 h2;exact h1
theorem IU[DecidableEq Fc]{st:Q00}{rs:Q06}{ts:Q05}{t:Tp}(hle:aN (af rs)=true->Least (af rs) st)(hf:lh (af rs) t.a t.b t.r t.c t.d t.s=true)(ha:iH ts t=true)(hb:IR rs):∀f∈je st rs ts,df (je st rs (kM ts t)) f=true:=by
 intro f hm;have hm2:=(gY _).mem_iff.1 hm;cases hr:aW (gV rs) rs ts;case false=>rw[jv hr]at hm2;cases hm2
 have h2:gV rs t=true:=by unfold lh at hf;simp only[Vt]at hf;exact hf.2
 obtain⟨h3,h4⟩:=Ov hr h2 ha;exact bY.2 ((gY _).mem_iff.2 (bY.1 (KV hle h3 h4 hb f hm2)))
theorem Ow{ts:Q05}{t:Tp}(h:∀x∈ts,x.fits)(ht:t.fits):∀x∈kM ts t,x.fits:=by
 intro x hx;unfold kM at hx;split at hx
 ·rcases (mq ts t x).1 hx with rfl|h1
  ·exact ht
  exact h x h1
 cases hx
theorem Ox(ts:Q05)(t:Tp):(kM ts t).length<=ts.length+1:=by
 unfold kM;split
 ·rw[Ma];exact Vr _
 exact Vv _
set_option maxRecDepth 100000 in
theorem walk[DecidableEq Fc](ad:Q02)(len cap:Nat)(w:ae)(h:Bytes w ad len):
  Calls prog 3 #[.slice ad len cap] w fun e w'=>e=.returned (.bool true)/\ag w w':=by
 have H:=di h;clear h;go_enter func3,ntmps3;go_wp2_with fail;refine(RF ad len cap w).mono ?_;rintro e w0 ⟨rfl,rfl⟩;by_cases hbig:(1048576:Int)<(len:Int)
 ·go_wp2;go_ret;exact⟨rfl,Vs _ _⟩
 go_wp2_with fail;refine(CE ad len cap _ H.out).mono ?_;rintro e w1 ⟨v,rs,g,c,ts,k,t,rfl,hT,⟨hG1,hG2,hG3⟩,hl9,hsh,hts,hown,hb1⟩;obtain⟨XG,XH,rfl,hs1,hcp⟩:=hT.read;obtain⟨hrow,hg,hgc,-⟩:=nz hown rfl;obtain⟨W1,hW1⟩:∃W1,W1=w1.alloc (.cells #[.int .i64 k,.string t.a,.string t.b,.string t.r,.string t.c,.string t.d,.string t.s] 31):=⟨_,rfl⟩;have ZT:ag w1 W1:=by rw[hW1];exact(Vs _ _).alloc (Vr _) _
 have K1:Hid (St w0 XG g w1.heap.size rs ts k t W1):=by
  refine⟨hb1.trans (ZT.mono hb1.size),hs1.below ZT,Vq hg ZT.size,fun i hi=>(hrow i hi).same fun o=>ZT.cell (p:=⟨g,o,none⟩) hg,by rw[hW1];simp,?_⟩;refine⟨?_,?_,?_,?_,?_,?_,?_⟩<;>(rw[hW1];simp)
 have hlen:rs.length<=1048576:=by omega
 have hlt:ts.length<=1048576:=by omega
 obtain⟨st,hst0⟩:=Va (af rs);have XA:=di hst0;have HL:=di hG2;have HF:=di hG3;have HC:=di hcp;have WR:=di hsh.fits;have HTF:=di hts.fits;clear hT hG2 hG3 hcp hb1 hs1 hbig hown hsh hts hrow hg hgc ZT H hst0;obtain⟨x0,x1,x2,x3,x4,x5,x6⟩:=K1.out.bx;go_wp2_with fail;rw[<-hW1];clear hW1 x0 x1 x2 x3 x4 x5 x6;go_loopw[6] (fun i wr=>∃m:Nat,m<=rs.length/\i=.int .i64 m/\W1=wr/\Hid (∀t∈rs.take m,∀q∈t.rows,∀y∈q.rows,y.e.kind≠6)) (fun i _=>rs.length-(intOf i).toNat);case atStart=>exact⟨0,Vv _,rfl,rfl,fun t ht=>by simp at ht⟩
 obtain⟨m,hm,rfl,rfl,HN⟩:=hrel;by_cases Xa:m<rs.length
 ·rcases K1.out.sl with hnil|⟨b,off,rfl,hb,hr,hok⟩
  ·rw[hnil]at Xa;simp at Xa
  obtain⟨t0,t1⟩:=hr m Xa;have hm1:=bC m;have hm2:(m:Int)<(rs.length:Int):=by omega
  have XN:=di (hok rs[m] (Vp Xa));have HLT:=di (HL.out _ (Vp Xa));obtain⟨tq,htq⟩:∃t,t=rs[m]:=⟨_,rfl⟩;have HTQ:=di htq;rw[<-htq]at t0 t1 XN HLT;have htl:=HLT.out.1;clear htq hb hr hok;go_wp2_with fail;go_loopw[7] (fun i wr=>∃j:Nat,j<=tq.rows.length/\i=.int .i64 j/\W1=wr/\Hid (∀q∈tq.rows.take j,∀y∈q.rows,y.e.kind≠6)) (fun i _=>tq.rows.length-(intOf i).toNat);case atStart=>exact⟨0,Vv _,rfl,rfl,fun t ht=>by simp at ht⟩
  obtain⟨j,hj,rfl,rfl,Yn⟩:=hrel;by_cases hjl:j<tq.rows.length
  ·rcases XN.out with hnil|⟨b2,Xd,had2,hbb2,hr2,hok2⟩
   ·rw[hnil]at hjl;simp at hjl
   obtain⟨q0,q1⟩:=hr2 j hjl;have hj1:=bC j;have hj2:(j:Int)<(tq.rows.length:Int):=by omega
   have HOK2:=di (hok2 tq.rows[j] (Vp hjl));have HLQ:=di (HLT.out.2 _ (Vp hjl));obtain⟨qq,hqq⟩:∃t,t=tq.rows[j]:=⟨_,rfl⟩;have HQQ:=di hqq;rw[<-hqq]at q0 q1 HOK2 HLQ;have hql:=HLQ.out.1;rw[had2]at t1;clear hqq hbb2 hr2 hok2;go_wp2_with fail;go_loopw[8] (fun i wr=>∃p:Nat,p<=qq.rows.length/\i=.int .i64 p/\W1=wr/\Hid (∀y∈qq.rows.take p,y.e.kind≠6)) (fun i _=>qq.rows.length-(intOf i).toNat);case atStart=>exact⟨0,Vv _,rfl,rfl,fun t ht=>by simp at ht⟩
   obtain⟨p,hp,rfl,rfl,HN3⟩:=hrel;by_cases hpl:p<qq.rows.length
   ·rcases HOK2.out with hnil|⟨b3,off3,had3,hbb3,hr3,hok3⟩
    ·rw[hnil]at hpl;simp at hpl
    obtain⟨e0,e1,e2,e3,e4⟩:=hr3 p hpl;have hp1:=bC p;have hp2:(p:Int)<(qq.rows.length:Int):=by omega
    obtain⟨kd,hkd⟩:∃kd,kd=qq.rows[p].e.kind:=⟨_,rfl⟩;have HKD:=di hkd;rw[<-hkd]at e0;rw[had3]at q1;clear hkd hbb3 hr3 hok3;by_cases h6:kd=6
    ·have h6b:(kd==6)=true:=by simpa using h6
     have HBe:=di K1.out.bel;go_wp2;go_ret;exact⟨rfl,HBe.out⟩
    have h6b:(kd==6)=false:=by simpa using h6
    have HN4:=di (Cg hpl HN3.out (by rw[<-HKD.out];exact h6));clear HN3;go_wp2;go_roundw;case rel=>exact⟨p+1,by omega,by go_num,trivial,HN4⟩
    simp[intOf]<;>omega
   obtain rfl:p=qq.rows.length:=by omega
   have HN5:=di (Cg (P:=fun q:RR=>∀y∈q.rows,y.e.kind≠6) hjl Yn.out (by rw[<-HQQ.out];have:=HN3.out;rwa [VI]at this));clear Yn HN3;go_wp2;go_roundw;case rel=>exact⟨j+1,by omega,by go_num,trivial,HN5⟩
   simp[intOf]<;>omega
  obtain rfl:j=tq.rows.length:=by omega
  have HN6:=di (Cg (P:=fun t:TR=>∀q∈t.rows,∀y∈q.rows,y.e.kind≠6) Xa HN.out (by rw[<-HTQ.out];have:=Yn.out;rwa [VI]at this));clear HN Yn;go_wp2;go_roundw;case rel=>exact⟨m+1,by omega,by go_num,trivial,HN6⟩
  simp[intOf]<;>omega
 obtain rfl:m=rs.length:=by omega
 have HNB:Hid (IR rs):=by show IR rs;have:=HN.out;rwa [VI]at this
 clear HN Xa hm;go_wp2_with fail;refine(tK st XG XH rs _ c ts _ hlen K1.out.sl HL.out HF.out HC.out hlt K1.out.tu WR.out XA.out).mono ?_;intro e w2 hp2;obtain⟨⟨v2,rfl,ho2⟩,hb2⟩:=tL hp2;obtain⟨L0,hL0⟩:∃L,L=je st rs ts:=⟨_,rfl⟩;have HL0:=di hL0;have hn0:L0.length<=115200:=by rw[hL0,Ce];exact uF st
 rw[<-hL0]at ho2;obtain⟨ad0,cap0,rfl,hs0⟩:=oC ho2;have K2:=di (K1.out.later hb2);have HW2:=di hs0;clear hb2 K1 hp2 ho2 hs0 hL0;go_wp2_with fail;refine(tN st XG XH rs _ c ts _ hlen K2.out.sl HL.out HF.out hlt K2.out.tu WR.out XA.out).mono ?_;rintro e w3 ⟨⟨v3,rfl,ho3⟩,hb3⟩;rw[<-HL0.out]at ho3;obtain⟨adQ,capQ,rfl,hsQ⟩:=oC ho3;have K3:=di (K2.out.later hb3);have HW3:=di (HW2.out.below hb3);have HQ3:=di hsQ;clear hb3 K2 HW2 ho3 hsQ;go_wp2_with fail;refine(tH ad0 adQ cap0 capQ L0 _ (by omega) HW3.out HQ3.out).mono ?_;rintro e w4 ⟨rfl,hb4⟩;have K4:=di (K3.out.later hb4);have HW4:=di (HW3.out.below hb4);clear hb4 K3 HW3 HQ3;obtain⟨x0,x1,x2,x3,x4,x5,x6⟩:=K4.out.bx;obtain⟨z0,z1,z2,z3,z4,z5⟩:=HTF.out;obtain⟨q,hq⟩:∃q,lh (af rs) t.a t.b t.r t.c t.d t.s=q:=⟨_,rfl⟩;have HFI:=di (FH XG XH rs t.a t.b t.r t.c t.d t.s _ hlen K4.out.sl HL.out HF.out HC.out z0 z1 z2 z3 z4 z5);rw[hq]at HFI;have HQ:=di hq;clear hq z0 z1 z2 z3 z4 z5;go_wp2_with fail;refine HFI.out.mono ?_;rintro e w5 ⟨rfl,hb5⟩;have K5:=di (K4.out.later hb5);have HW5:=di (HW4.out.below hb5);clear hb5 K4 HW4 HFI x0 x1 x2 x3 x4 x5 x6;cases q
 ·go_wp2_with fail;refine(tN st XG XH rs _ c ts _ hlen K5.out.sl HL.out HF.out hlt K5.out.tu WR.out XA.out).mono ?_;rintro e w6 ⟨⟨v3,rfl,ho3⟩,hb6⟩;rw[<-HL0.out]at ho3;obtain⟨adQ,capQ,rfl,hsQ⟩:=oC ho3;have K6:=di (K5.out.later hb6);have HW6:=di (HW5.out.below hb6);have HQ6:=di hsQ;clear hb6 K5 HW5 ho3 hsQ;go_wp2_with fail;refine(tH ad0 adQ cap0 capQ L0 _ (by omega) HW6.out HQ6.out).mono ?_;rintro e w7 ⟨rfl,Y6⟩;have HBe:=di (K6.out.later Y6).bel;clear Y6;go_wp2;go_ret;exact⟨rfl,HBe.out⟩
 obtain⟨x0,x1,x2,x3,x4,x5,x6⟩:=K5.out.bx;go_wp2_with fail;refine(CB _ c ts t _ hlt K5.out.tu WR.out HTF.out).mono ?_;rintro e w6 ⟨adM,capM,rfl,hoM,hb6⟩;have K6:=di (K5.out.later hb6);have HW6:=di (HW5.out.below hb6);have HM6:=di hoM.1;have hMl:(kM ts t).length<=1048576:=Vz (Ox _ _) (by omega);have HMF:=di (Ow WR.out HTF.out);clear hb6 K5 HW5 hoM x0 x1 x2 x3 x4 x5 x6;obtain⟨is,his⟩:∃is,iH ts t=is:=⟨_,rfl⟩;rw[his];have HIS:=di his;clear his;go_wp2_with fail;refine(tK st XG XH rs adM capM (kM ts t) _ hlen K6.out.sl HL.out HF.out HC.out hMl HM6.out HMF.out XA.out).mono ?_;intro e w7 hp7;obtain⟨⟨v7,rfl,ho7⟩,Y6⟩:=tL hp7;obtain⟨L1,hL1⟩:∃L,L=je st rs (kM ts t):=⟨_,rfl⟩;have HL1:=di hL1;have hn1:L1.length<=115200:=by rw[hL1,Ce];exact uF st
 rw[<-hL1]at ho7;obtain⟨ad1,cap1,rfl,hs1⟩:=oC ho7;have K7:=di (K6.out.later Y6);have HW7:=di (HW6.out.below Y6);have HN7:=di hs1;clear Y6 K6 HW6 HM6 hp7 ho7 hs1 hL1;go_wp2_with fail;go_loopw[13] (fun i wr=>∃m:Nat,m<=L0.length/\i=.int .i64 m/\Hid (ag w7 wr)) (fun i _=>L0.length-(intOf i).toNat);case atStart=>exact⟨0,Vv _,rfl,Vs _ _⟩
 obtain⟨i,hi,rfl,HB⟩:=hrel;have hi1:=bC i;by_cases hil:i<L0.length/\is=true
 ·obtain⟨hil,rfl⟩:=hil;have hi2:(i:Int)<(L0.length:Int):=by omega
  have hi3:decide ((i:Int)<(L0.length:Int))=true:=by simpa using hil
  obtain⟨b,off,WO,⟨t0,t1,t2,t3,t4⟩,hbl⟩:=Au.at0 (HW7.out.below HB.out) hil;obtain⟨x,hx⟩:∃x,x=L0[i]:=⟨_,rfl⟩;have HXX:Hid (df L1 x=true):=by
   show _=_;rw[HL1.out];refine IU XA.out HQ.out HIS.out HNB.out x ?_;rw[<-HL0.out,hx];exact Vp hil
  rw[<-hx]at t0 t1 t2 t3 t4;subst WO;clear hx;go_wp2_with fail;refine(Iu ad1 cap1 L1 x _ (by omega) (HN7.out.below HB.out)).mono ?_;rintro e w8 ⟨rfl,hb8⟩;rw[HXX.out];have HB2:=di (HB.out.trans (hb8.mono HB.out.size));clear t0 t1 t2 t3 t4 HXX hb8;go_wp2;go_roundw;case rel=>exact⟨i+1,by omega,by go_num,HB2⟩
  simp[intOf]<;>omega
 have hcd:(decide ((i:Int)<(L0.length:Int))&&is)=false:=by
  rcases Nat.lt_or_ge i L0.length with h1|h1
  ·cases is
   ·simp
   exact absurd ⟨h1,rfl⟩ hil
  have:decide ((i:Int)<(L0.length:Int))=false:=by simp;omega
  rw[this];rfl
 have HBe:=di (K7.out.later HB.out).bel;by_cases h1:i<L0.length
 ·have h2:decide ((i:Int)<(L0.length:Int))=true:=by simpa using h1
  obtain rfl:is=false:=by cases is;rfl;exact absurd ⟨h1,rfl⟩ hil
  go_wp2;go_ret;exact⟨rfl,HBe.out⟩
 have h2:decide ((i:Int)<(L0.length:Int))=false:=by simp;omega
 go_wp2;go_ret;exact⟨rfl,HBe.out⟩
end Go.Proofs.YtojjoblnpldniaaGreat.fnGrows
