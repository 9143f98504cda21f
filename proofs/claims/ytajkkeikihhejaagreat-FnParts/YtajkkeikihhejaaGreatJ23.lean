/- Contract of the document's function that writes a schema's lines, right or not, where these are few bytes. -/
import Derived.Test.YtajkkeikihhejaaGreatSq
import Derived.Test.YtajkkeikihhejaaGreatJ22
open Go.Proofs.Tryz
set_option maxHeartbeats 80000000
namespace Go.Proofs.YtajkkeikihhejaaGreat
open Go.ChangeShapes Go.WideShapes Go.ChangeAt Go.RowKit
open Pl
theorem SH (o n e:ByteArray):(((o++n)++⟨#[32,61,32]⟩)++e)++⟨#[10]⟩=o++(((n++⟨#[32,61,32]⟩)++e)++⟨#[10]⟩):=by
 simp only [ByteArray.append_assoc]
theorem Ph (o n:ByteArray):((o++⟨#[116,121,112,101,32]⟩)++n)++⟨#[10]⟩=o++mD n:=by
 unfold mD;simp only [ByteArray.append_assoc]
structure Small3 (rs:List TR):Prop where
 six:rs.length<=500
 rels:∀ r∈rs,r.rows.length<=750
 name:∀ r∈rs,r.name.size<=3000
 names:∀ r∈rs,∀ q∈r.rows,q.name.size<=3000
set_option maxRecDepth 100000 in
theorem EJ (ad:Option Addr)(cap:Nat)(rs:List TR)(w:af)(hm:Small3 rs)(hs:kX w ad rs)(hl:∀ r∈rs,r.light)(hf:∀ r∈rs,r.fits) :
  Calls prog 179 #[.slice ad rs.length cap] w fun e w'=>e=.returned (.string (dA (ae rs)))/\ag w w':=by
 have HS:=aA hs;have HL:=aA hl;have UY:=aA hf;have HM:=aA hm;have h6:=hm.six;clear hs hl hf hm;go_enter func179,ntmps179;go_wp2;go_loopw [3,4] (fun o i wr=>∃ (k:Nat) (out:ByteArray),k<=rs.length/\o=.string out/\i=.int .i64 k/\Hid (out=dA (ae (rs.take k)))/\out.size<=k*5100000/\Hid (ag w wr)) (fun _ i _=>rs.length-(intOf i).toNat);case atStart=>exact ⟨0,⟨#[]⟩,Ui _,rfl,rfl,rfl,Ui _,Uf _ _⟩
 case round =>
  obtain ⟨k,out,hk,rfl,rfl,HP,hz,HB⟩:=hrel;obtain ⟨wo,rfl⟩:∃ x,x=wr:=⟨_,rfl⟩;by_cases hlt:k<rs.length
  ·rcases HS.out.below HB.out with rfl|⟨b,off,rfl,hb,hr,hok⟩
   ·simp at hlt
   obtain ⟨t0,t1⟩:=hr k hlt;have VP:Hid (rs[k].ok wo):=hok rs[k] (Ud hlt);have hn12:=HM.out.name rs[k] (Ud hlt);have Ww:=HM.out.rels rs[k] (Ud hlt);have HN12:Hid (∀ q∈rs[k].rows,q.name.size<=3000):=HM.out.names rs[k] (Ud hlt);have WV:Hid (rs[k].light):=HL.out _ (Ud hlt);have WZ:Hid (rs[k].fits):=UY.out _ (Ud hlt);have hk1:=bF k;have hk2:(k:Int)<(rs.length:Int):=by omega
   have hrl:(rs[k].rows.length:Int)<=750:=by omega
   clear hr hok;go_wp2;go_loopw [3,5] (fun o i wr=>∃ (j:Nat) (o2:ByteArray),j<=rs[k].rows.length/\o=.string o2/\i=.int .i64 j/\Hid (o2=(out++mD rs[k].name)++dP (eF (rs[k].rows.take j)))/\o2.size<=k*5100000+3010+j*6760/\Hid (ag wo wr)) (fun _ i _=>rs[k].rows.length-(intOf i).toNat);case atStart=>exact ⟨0,_,Ui _,rfl,rfl,by show _=_;rw [Ph,List.take_zero,show eF []=[] from rfl];simp only [dP,vO],by rw [Ph,Uv,xY];omega,Uf _ _⟩
   case round =>
    obtain ⟨j,o2,hj,rfl,rfl,HI,hz2,HB2⟩:=hrel;replace t0:=aH HB2.out hb t0;replace t1:=aH HB2.out hb t1;have hbw:b<wr.heap.size:=Uc hb HB2.out.size;by_cases hjl:j<rs[k].rows.length
    ·rcases VP.out.below HB2.out with hnil|⟨b2,Vb,had,hb2,hr2,hok2⟩
     ·rw [hnil]at hjl;simp at hjl
     rw [had]at t1;obtain ⟨u0,u1⟩:=hr2 j hjl;have HOQ:Hid (rs[k].rows[j].ok wr):=hok2 rs[k].rows[j] (Ud hjl);have hj1:=bF j;have hj2:(j:Int)<(rs[k].rows.length:Int):=by omega
     have hq12:=HN12.out _ (Ud hjl);have HQL:Hid (rs[k].rows[j].light):=WV.out.2 _ (Ud hjl);have HQF:Hid (rs[k].rows[j].fits):=WZ.out.2.2 _ (Ud hjl);obtain ⟨ex,hex⟩:∃ ex,ex=gQ (aj rs[k].rows[j].rows):=⟨_,rfl⟩;have ZJ:Hid (ex=gQ (aj rs[k].rows[j].rows)):=hex;have hxs:ex.size<=3750:=by rw [hex];exact EF _
     have q1:(9223372036854775807<o2.size+rs[k].rows[j].name.size)=False:=by simp;omega
     have q2:(9223372036854775807<o2.size+rs[k].rows[j].name.size+3)=False:=by simp;omega
     have q3:(9223372036854775807<o2.size+rs[k].rows[j].name.size+3+ex.size)=False:=by simp;omega
     have q4:(9223372036854775807<o2.size+rs[k].rows[j].name.size+3+ex.size+1)=False:=by simp;omega
     have HI2:Hid ((((o2++rs[k].rows[j].name)++⟨#[32,61,32]⟩)++ex)++⟨#[10]⟩=(out++mD rs[k].name)++dP (eF (rs[k].rows.take (j+1)))):=by
      show _=_;rw [SH,Mg _ _ hjl,qQ,HI.out,hex];simp only [ByteArray.append_assoc,Gv]
     have hz3:((((o2++rs[k].rows[j].name)++⟨#[32,61,32]⟩)++ex)++⟨#[10]⟩:ByteArray).size<=k*5100000+3010+(j+1)*6760:=by
      have e1:(⟨#[32,61,32]⟩:ByteArray).size=3:=rfl;have e2:(⟨#[10]⟩:ByteArray).size=1:=rfl;simp only [Uv];omega
     have HZ3:Hid (((((o2++rs[k].rows[j].name)++⟨#[32,61,32]⟩)++ex)++⟨#[10]⟩:ByteArray).size<=k*5100000+3010+(j+1)*6760):=hz3;clear hr2 hok2 had hex hz3;go_wp2_with fail;refine lN 24 (fun n=>(u31::u32::u33::u34::u35::u36::u37::u38::u39::u40::u41::u42::u43::u44::u45::u46::u47::u48::u49::u50::u51::u52::u53::u54::[]).getD n undef) (fun fq=>{ tmps:=List.toArray (Value.slice (some ⟨b,off,none⟩) rs.length cap::undef::.string { data:=#[] }::.string o2::.int .i64 k::.int .i64 j::.int .i64 k::.slice (some ⟨b,off,none⟩) rs.length cap::.int .i64 rs.length::.bool true::u10::u11::.string out::.string (out++{ data:=#[116,121,112,101,32] })::.slice (some ⟨b,off,none⟩) rs.length cap::.int .i64 k::.pointer (some ⟨b,off+k*2,none⟩)::.pointer (some ⟨b,off+k*2,none⟩)::.string rs[k].name::.string (out++{ data:=#[116,121,112,101,32] }++rs[k].name)::.string (out++{ data:=#[116,121,112,101,32] }++rs[k].name++{ data:=#[10] })::.int .i64 j::.slice (some ⟨b,off,none⟩) rs.length cap::.int .i64 k::.pointer (some ⟨b,off+k*2,none⟩)::.pointer (some ⟨b,off+k*2+1,none⟩)::.slice (some ⟨b2,Vb,none⟩) rs[k].rows.length rs[k].cap::.int .i64 rs[k].rows.length::.bool true::u29::u30::fq 0::fq 1::fq 2::fq 3::fq 4::fq 5::fq 6::fq 7::fq 8::fq 9::fq 10::fq 11::fq 12::fq 13::fq 14::fq 15::fq 16::fq 17::fq 18::fq 19::fq 20::fq 21::fq 22::fq 23::undef::[]),defers:=[] }) (fun n v _=>v=(Value.string o2::.slice (some ⟨b,off,none⟩) rs.length cap::.int .i64 k::.pointer (some ⟨b,off+k*2,none⟩)::.pointer (some ⟨b,off+k*2+1,none⟩)::.slice (some ⟨b2,Vb,none⟩) rs[k].rows.length rs[k].cap::.int .i64 j::.pointer (some ⟨b2,Vb+j*2,none⟩)::.pointer (some ⟨b2,Vb+j*2,none⟩)::.string rs[k].rows[j].name::.string (o2++rs[k].rows[j].name)::.string ((o2++rs[k].rows[j].name)++⟨#[32,61,32]⟩)::.slice (some ⟨b,off,none⟩) rs.length cap::.int .i64 k::.pointer (some ⟨b,off+k*2,none⟩)::.pointer (some ⟨b,off+k*2+1,none⟩)::.slice (some ⟨b2,Vb,none⟩) rs[k].rows.length rs[k].cap::.int .i64 j::.pointer (some ⟨b2,Vb+j*2,none⟩)::.pointer (some ⟨b2,Vb+j*2+1,none⟩)::.slice rs[k].rows[j].ad rs[k].rows[j].rows.length rs[k].rows[j].cap::.string ex::.string (((o2++rs[k].rows[j].name)++⟨#[32,61,32]⟩)++ex)::.string ((((o2++rs[k].rows[j].name)++⟨#[32,61,32]⟩)++ex)++⟨#[10]⟩)::[]).getD n undef) (fun w'=>ag wr w') (by kernel_rfl) rfl (by kernel_rfl) (by kernel_rfl) rfl (Uf _ _).drew ?stepS ?finS;case stepS =>
      rintro i hi o ho fq w' hG hpre;have HG:Hid (ag wr w'):=hG;replace t1:=aH hG hbw t1;replace u0:=aH hG hb2 u0;replace u1:=aH hG hb2 u1;have HM:Hid (∀ e∈o.after,Region.binds .any e=true->_):=hpre;clear hG hpre;have hc:=TA (i:=i) (by omega);clear hi
      repeat' rcases hc with rfl|hc
      iterate 21
       ·cases ho;have hm:=HM.out
        try simp [Region.binds]at hm
        refine aa rfl fun K HK=>?_;clear HM
        try simp only [hm]
        go_simp;exact HK.out _ _ ⟨_,by simp [upd, *],HG.out,rfl,fun k u hu=>hu⟩
      ·cases ho;have e20:fq 20=.slice rs[k].rows[j].ad rs[k].rows[j].rows.length rs[k].rows[j].cap:=HM.out ⟨20,.data⟩ (by simp) rfl;refine aa rfl fun K HK=>?_;clear HM;simp only [e20];go_simp;refine (oq _ _ rs[k].rows[j].rows _ HQL.out.1 HQL.out.2 HQF.out.2.2 (HOQ.out.below HG.out)).mono ?_;rintro e w5 ⟨rfl,hb5⟩;have HG5:=jP HG hb5;rw [<-ZJ.out];clear hb5;go_wp2_with fail;exact HK.out _ _ ⟨Value.string ex,by simp [upd,e20],HG5.out,rfl,fun k u hu=>hu⟩
      iterate 2
       ·cases ho;have hm:=HM.out
        try simp [Region.binds]at hm
        refine aa rfl fun K HK=>?_;clear HM
        try simp only [hm]
        go_simp;exact HK.out _ _ ⟨_,by simp [upd, *],HG.out,rfl,fun k u hu=>hu⟩
     case finS =>
      rintro o ho fq w' hG hall;have e23:fq 23=.string ((((o2++rs[k].rows[j].name)++⟨#[32,61,32]⟩)++ex)++⟨#[10]⟩):=hall 23 (by omega);have HG:Hid (ag wr w'):=hG;clear hG hall;obtain rfl:=Option.some.inj ho;clear ho;refine wpOp_step rfl (fun K hK=>?_);have HK:Hid (∀ a w,_->K a w):=hK;clear hK;simp only [e23];go_simp;refine HK.out _ _ ?_;clear HK;have HB3:Hid (ag wo w'):=HB2.out.trans (HG.out.mono HB2.out.size);go_wp2;go_roundw;case rel=>exact ⟨j+1,_,by omega,rfl,by go_num,HI2,HZ3.out,HB3⟩
      case measure=>simp [intOf] <;> omega
    ·obtain rfl:j=rs[k].rows.length:=by omega
     have UW:Hid (o2=dA (ae (rs.take (k+1)))):=by
      show _=_;rw [HI.out,Mh _ _ hlt,mE,HP.out,Us,ByteArray.append_assoc]
     have XF:o2.size<=(k+1)*5100000:=by omega
     have HB3:Hid (ag w wr):=HB.out.trans (HB2.out.mono HB.out.size);go_wp2;go_roundw;case rel=>exact ⟨k+1,o2,by omega,rfl,by go_num,UW,XF,HB3⟩
     case measure=>simp [intOf] <;> omega
  ·obtain rfl:k=rs.length:=by omega
   have HN:Hid (out=dA (ae rs)):=by show _=_;rw [HP.out,Us]
   go_wp2;go_ret;exact ⟨by rw [HN.out];rfl,HB.out⟩
open Go.Maps
set_option maxRecDepth 100000
theorem dR {p:Prop}(h:p):Hid p:=h
def strOf:Value->Nat | .string b=>b.size|_=>0
def SI (s:ByteArray)(w:World)(e:Ending)(w':World):Prop :=
 ag w w'/\((dQ (s.size+1) s []=none/\e=.returned (.tuple #[.slice none 0 0,.bool false])) \/ ∃ (v:Value) (rs:List TR),dQ (s.size+1) s []=some (ae rs)/\e=.returned (.tuple #[v,.bool true])/\iN w' w.heap.size v rs/\dA (ae rs)=s/\RY (ae rs))
theorem Mk {n:Nat}{rest:ByteArray}{acc:List Ty}(hn:rest.size<n)(h:rest.toList.isEmpty=true):dQ n rest acc=some acc:=by
 cases n with
 | zero=>omega
 | succ n=>simp [dQ,h]
theorem Ml {n:Nat}{rest:ByteArray}{acc:List Ty}(hn:rest.size<n)(h:rest.toList.isEmpty=false)(hc:oU 10 rest=false):dQ n rest acc=none:=by
 cases n with
 | zero=>omega
 | succ n=>simp [dQ,h,hc]
theorem Mm {n:Nat}{rest:ByteArray}{acc:List Ty}(hn:rest.size<n)(h:rest.toList.isEmpty=false)(hc:oU 10 rest=true)(hl:mY acc (kr 10 rest)=none):dQ n rest acc=none:=by
 cases n with
 | zero=>omega
 | succ n=>simp [dQ,h,hc,hl]
theorem Pi {n:Nat}{rest:ByteArray}{acc a:List Ty}(hn:rest.size<n)(h:rest.toList.isEmpty=false)(hc:oU 10 rest=true)(hl:mY acc (kr 10 rest)=some a):dQ n rest acc=dQ (n-1) (iL 10 rest) a/\(iL 10 rest).size<n-1:=by
 have:=Gw hc;cases n with
 | zero=>omega
 | succ n=>exact ⟨by simp [dQ,h,hc,hl],by simp;omega⟩
theorem Pj {b:ByteArray}(h:b.toList.isEmpty=true):b=⟨#[]⟩:=by
 have h2:b.toList=[]:=by simpa using h
 rw [mF]at h2;exact jd (by simpa using h2)
theorem A9:Pe.toList=[116,121,112,101,32]:=by rw [mF];rfl
theorem Gy:TK.toList=[61,32]:=by rw [mF];rfl
theorem Pk (w:af)(a b:Value)(t:TypeId):∀ j u,[a,b][j]?=some u->(w.alloc (.cells #[a,b] t)).cell? ((⟨w.heap.size,0,none⟩:Addr).add j)=some u:=by
 intro j u hu;rw [show (⟨w.heap.size,0,none⟩:Addr).add j=⟨w.heap.size,0+j,none⟩ by simp [Addr.add];omega,Uz];have:=World.cell?_alloc_mark w #[a,b] t (0,0) j;rw [this];simpa using hu
theorem Pm (xs:List TR)(t t':TR)(hn:t'.name=t.name):((xs++[t]).flatMap TR.cells).set (xs.length*2+1) t'.vs=(xs++[t']).flatMap TR.cells:=by
 have hl:(xs.flatMap TR.cells).length=xs.length*2:=pE (fun _=>rfl) _;rw [List.flatMap_append,List.flatMap_append,List.set_append_right _ _ (by omega),hl];simp [TR.cells,hn]
theorem TM (n:ByteArray)(ad:Option Addr)(k c:Nat):∀ u∈[Value.string n,.slice ad k c],u.oneCell'=true:=by
 intro u hu;simp at hu;rcases hu with rfl|rfl <;> rfl
theorem EK (s:ByteArray)(w:af)(hs:s.size<=3000):Calls prog 124 #[.string s] w (SI s w):=by
 obtain ⟨iT0,hiT,zT0,zT1,zT2⟩:=info_parts (P:=prog) (e:=127) (z:=.agg #[.string ⟨#[]⟩,.slice none 0 0]) (size:=2) (bytes:=40) (by kernel_rfl);have HIT:Hid (prog.info? 127=some iT0/\iT0.zero=some (.agg #[.string ⟨#[]⟩,.slice none 0 0])/\iT0.size=2/\iT0.bytes=40):=⟨hiT,zT0,zT1,zT2⟩;obtain ⟨iR0,Zj,zR0,zR1,zR2⟩:=info_parts (P:=prog) (e:=147) (z:=.agg #[.string ⟨#[]⟩,.slice none 0 0]) (size:=2) (bytes:=40) (by kernel_rfl);have VN:Hid (prog.info? 147=some iR0/\iR0.zero=some (.agg #[.string ⟨#[]⟩,.slice none 0 0])/\iR0.size=2/\iR0.bytes=40):=⟨Zj,zR0,zR1,zR2⟩;obtain ⟨W0,hW0⟩:∃ W0,W0=w.alloc (.cells #[] 127):=⟨_,rfl⟩;have HB0:=rV hW0;have HM0:Hid (iN W0 w.heap.size (.slice (some ⟨w.heap.size,0,none⟩) 0 0) []):=by
  show U1 _ _ _ _ _ _ _ _ _;rw [hW0];exact ⟨World.ownsRow_lit w #[] 0 (Ue _) (by unfold maxLen;omega) (by simp),fun q hq=>(by cases hq),fun q hq=>(by cases hq),fun x y hx=>absurd hx (by simp)⟩
 have hs5:(s.size:Int)<=50000:=by omega
 clear hiT zT0 zT1 zT2 Zj zR0 zR1 zR2;go_enter func124,ntmps124;go_wp2;rw [<-hW0];clear hW0;go_loopw [4,5] (fun v r wr=>∃ (rs:List TR) (rest:ByteArray) (n:Nat),r=.string rest/\rest.size<=3000/\Hid (iN wr w.heap.size v rs)/\Hid (ag w wr)/\Hid (dA (ae rs)++rest=s)/\Hid (RY (ae rs))/\Hid (rest.size<n/\dQ n rest (ae rs)=dQ (s.size+1) s [])) (fun _ r _=>strOf r);case atStart=>exact ⟨[],s,s.size+1,rfl,hs,HM0,HB0,by show _=_;exact rJ _,fun t ht=>(by cases ht),by omega,rfl⟩
 clear HM0 HB0;obtain ⟨rs,rest,n,rfl,hrs,HM,HB,HT,HK,HN⟩:=hrel;cases he:rest.toList.isEmpty;case true=>
  have HTX:Hid (dA (ae rs)=s):=by show _=_;rw [<-HT.out,Pj he,vO]
  have Vs:=dR (Mk (acc:=ae rs) HN.out.1 he);obtain ⟨ad,cap,rfl,hsl,-⟩:=HM.out.read;obtain ⟨k1,k2,k3,k4⟩:=rows_ok HK.out (by rw [HTX.out];exact hs);have UQ:=dR (EJ ad cap rs wr ⟨k1,fun r hr=>(k2 r hr).1,fun r hr=>(k2 r hr).2.1,fun r hr=>(k2 r hr).2.2⟩ hsl k3 k4);clear hsl k1 k2 k3 k4;go_wp2_with fail;refine UQ.out.mono ?_;rintro e w1 ⟨hee,hb1⟩;rw [HTX.out]at hee;subst hee;have HB1:=dR (HB.out.trans (hb1.mono HB.out.size));have XO:=dR (HM.out.below mJ hb1);clear hb1 UQ;go_wp2;exact bodyPost_ret (v:=.tuple #[.slice ad rs.length cap,.bool true]) (by simp [results,Tryz.results124,go_sem]) rfl ⟨HB1.out,.inr ⟨_,rs,by rw [<-HN.out.2,Vs.out],rfl,XO.out,HTX.out,HK.out⟩⟩
 have HE:=dR he;have h500:rs.length<=500:=(rows_ok HK.out (by have:=congrArg ByteArray.size HT.out;rw [Uv]at this;omega)).1;have HC:=dR (Cv rest 10 wr (by unfold maxLen;omega));go_wp2_with fail;refine HC.out.mono ?_;rintro e w1 ⟨rfl,n0,hw1⟩;have hb1:ag wr w1:=by rw [hw1];exact below_drewN (Uf _ _) n0
 have HB1:=dR (HB.out.trans (hb1.mono HB.out.size));have XO:=dR (HM.out.below mJ hb1);have hzz:=Ka 10 rest;have hza:=Qt 10 rest;clear hw1 hb1 HC HM HB;cases hc:oU 10 rest;case false=>
  have Wo:=dR (Ml (acc:=ae rs) HN.out.1 HE.out hc);go_wp2;exact bodyPost_ret (v:=.tuple #[.slice none 0 0,.bool false]) (by simp [results,Tryz.results124,go_sem]) rfl ⟨HB1.out,.inl ⟨by rw [<-HN.out.2,Wo.out],rfl⟩⟩
 have HCF:=dR hc;have HJ:=dR (AX hc);have hless:=Gw hc;obtain ⟨line,X9⟩:∃ line,line=kr 10 rest:=⟨_,rfl⟩;obtain ⟨more,hmore⟩:∃ more,more=iL 10 rest:=⟨_,rfl⟩;rw [<-X9,<-hmore]at HJ;rw [<-hmore]at hzz hless;rw [<-X9]at hza;rw [<-X9,<-hmore];have Yf:=dR X9;have HMO:=dR hmore;clear X9 hmore hc;have HON:Hid (∀ a,mY (ae rs) line=some a->dQ (n-1) more a=dQ (s.size+1) s []/\more.size<n-1/\dA a++more=s/\RY a):=fun a ha=>by
  have h1:=Pi (acc:=ae rs) HN.out.1 HE.out HCF.out (by rw [<-Yf.out];exact ha);rw [<-HMO.out]at h1;refine ⟨by rw [<-h1.1,HN.out.2],h1.2,?_,QR ha HK.out⟩;rw [Mj ha,ByteArray.append_assoc];have h2:=HT.out;rw [HJ.out]at h2;exact h2
 have HOFF:Hid (mY (ae rs) line=none->dQ (s.size+1) s []=none):=fun ha=>by
  have h1:=Mm (acc:=ae rs) HN.out.1 HE.out HCF.out (by rw [<-Yf.out];exact ha);rw [<-HN.out.2,h1]
 cases ht:AV line;case true=>
  have hl5:5<line.size:=by unfold AV at ht;simp only [Ug,Um]at ht;exact ht.1
  have hty:((line.extract 0 5).toList==[116,121,112,101,32])=true:=by unfold AV at ht;simp only [Ug]at ht;rw [<-A9];exact ht.2
  have hd5:decide ((5:Int)<(line.size:Int))=true:=by simp;omega
  have Yh:Hid (mY (ae rs) line=some (ae (rs++[⟨line.extract 5 line.size,[],none,0⟩]))):=by show _=_;unfold mY;rw [ht];simp [ae,TR.p,eF]
  clear ht;obtain ⟨nm,hnm⟩:∃ nm,nm=line.extract 5 line.size:=⟨_,rfl⟩;obtain ⟨W2,hW2⟩:∃ W2,W2=w1.alloc (.cells #[.string nm,.slice none 0 0] 127):=⟨_,rfl⟩;have hb2:ag w1 W2:=by rw [hW2];exact (Uf _ _).alloc (Ue _) _
  have Vt:=dR (XO.out.below mJ hb2);have HB2:=dR (HB1.out.trans (hb2.mono HB1.out.size));have WB:Hid (∀ j u,[Value.string nm,.slice none 0 0][j]?=some u->W2.cell? ((⟨w1.heap.size,0,none⟩:Addr).add j)=some u):=by show ∀ j u,_;rw [hW2];exact Pk w1 _ _ _
  rw [<-hnm]at Yh;rw [hnm]at hW2;clear hb2 hnm;go_wp2_with (at_builtin;rw [<-hW2];clear hW2;refine wpList_append_own_at _ rfl _ _ 24 rfl w.heap.size 127 iT0 (.agg #[.string ⟨#[]⟩,.slice none 0 0]) 2 40 underlying24 HIT.out.1 HIT.out.2.1 HIT.out.2.2.1 HIT.out.2.2.2 rfl (by decide) u4 _ (rs.flatMap TR.cells) rfl Vt.out.own ⟨w1.heap.size,0,none⟩ 1 1 [.string nm,.slice none 0 0] rfl rfl WB.out (TM _ _ _ _) (by unfold maxLen;omega) (by omega) HB2.out.size ?_);intro v3 w3 hown3 hgr3 _ hat3;have Yn:Hid (iN w3 w.heap.size v3 (rs++[⟨nm,[],none,0⟩])):=Vt.out.snoc mJ (q:=⟨nm,[],none,0⟩) hown3 hgr3 (by
    rcases hat3 with e|e
    ·exact .inl e
    ·exact .inr ⟨_,e,Ue _⟩) (OE W2 w.heap.size) (fun g hg=>by
    rcases hg with hg|⟨q,hq,-⟩
    ·simp [TR.vs,Value.ownBlock]at hg
    ·cases hq) (fun p hp g hg hg2=>by
    rcases hg2 with hg2|⟨q,hq,-⟩
    ·simp [TR.vs,Value.ownBlock]at hg2
    cases hq)
  have HB3:Hid (ag w w3):=HB2.out.grown hgr3 HB2.out.size (fun g hg=>(Vt.out.own.lt g hg).1);obtain ⟨o1,o2,o3,o4⟩:=HON.out _ Yh.out;have HO:=dR (And.intro o2 o1);have U9:=dR o3;have U4:=dR o4;clear hown3 hgr3 hat3 o1 o2 o3 o4 Vt HB2 WB hty hd5;go_wp2;go_roundw;case rel=>exact ⟨_,more,n-1,rfl,by omega,Yn,HB3,U9,U4,HO⟩
  simp only [strOf];exact hless
 have HTY:=dR ht;have h58:(5<line.size/\decide ((5:Int)<(line.size:Int))=true/\((line.extract 0 5).toList==[116,121,112,101,32])=false)\/decide ((5:Int)<(line.size:Int))=false:=by
  by_cases h5:5<line.size
  ·left;refine ⟨h5,by simp;omega,?_⟩;unfold AV at ht;rw [decide_eq_true h5,Bool.true_and,A9]at ht;exact ht
  right;simp;omega
 have Vq:=dR (Cv line 32 w1 (by unfold maxLen;omega));obtain ⟨ad4,cap4,hv4,hsl4,-⟩:=iN.read XO.out;subst hv4;clear ht hsl4;rcases h58 with ⟨hl5,hd5,hty⟩|hd5
 all_goals (
  go_wp2_with fail;refine Vq.out.mono ?_;rintro e w2 ⟨rfl,n1,hw2⟩;have hb2:ag w1 w2:=by rw [hw2];exact below_drewN (Uf _ _) n1
  have HB2:=dR (HB1.out.trans (hb2.mono HB1.out.size));have Vt:=dR (XO.out.below mJ hb2);have hzt:=Ka 32 line;obtain ⟨nm,hnm⟩:∃ nm,nm=kr 32 line:=⟨_,rfl⟩;obtain ⟨tl,htl⟩:∃ tl,tl=iL 32 line:=⟨_,rfl⟩;rw [<-htl]at hzt;rw [<-hnm,<-htl];have Yh:Hid (mY (ae rs) line=if !(ae rs).isEmpty&&xZ tl&&mr (tl.extract 2 tl.size) then some (EG (ae rs) ⟨nm,(kD (tl.extract 2 tl.size)).out⟩) else none):=by show _=_;unfold mY Dq;rw [HTY.out,hnm,htl];rfl
  clear hw2 hb2 Vq XO HB1 hnm htl;by_cases hz:rs=[]
  ·subst hz;have Wo:Hid (dQ (s.size+1) s []=none):=HOFF.out (by rw [Yh.out];rfl);go_wp2;exact bodyPost_ret (v:=.tuple #[.slice none 0 0,.bool false]) (by simp [results,Tryz.results124,go_sem]) rfl ⟨HB2.out,.inl ⟨Wo.out,rfl⟩⟩
  obtain ⟨xs,t,hxt⟩:∃ xs t,rs=xs++[t]:=⟨rs.dropLast,rs.getLast hz,(List.dropLast_concat_getLast hz).symm⟩;have HXT:=dR hxt;have hlx:rs.length=xs.length+1:=by rw [hxt];simp
  have HNE:Hid ((!(ae rs).isEmpty)=true):=by show _=_;rw [hxt];simp [ae]
  obtain ⟨b4,had4⟩:∃ b4,ad4=some ⟨b4,0,none⟩:=by
   rcases Vt.out.own.2 with ⟨-,h0⟩|⟨g,cap,cur,e,-⟩
   ·exact absurd (Uu.1 h0) hz
   injection e with e1 e2 e3;exact ⟨g,e1⟩
  subst had4;have hcell:=Vt.out.own.cellAt (xs.length*2+1) (by omega);rw [rH (fun _=>rfl) rs xs.length (by omega) 1 (by omega)]at hcell;have htx:rs[xs.length]'(by omega)=t:=by subst hxt;simp
  rw [htx]at hcell;have hcl:w2.cell? ⟨b4,xs.length*2+1,none⟩=some (.slice t.ad t.rows.length t.cap):=hcell;have Z9:=dR hcl;have hn0:(0:Int)<=(xs.length:Int):=by omega
  have hn1:(xs.length:Int)<(xs.length:Int)+1:=by omega
  have HLX:=dR hlx;have hx500:xs.length<500:=by omega
  have h500':=h500;rw [hlx];clear hz hxt hlx hcell htx hcl h500;by_cases h2:tl.size<2
  ·have hd2:decide ((tl.size:Int)<2)=true:=by simp;omega
   have Wo:Hid (dQ (s.size+1) s []=none):=HOFF.out (by rw [Yh.out];simp [xZ];omega);go_wp2;exact bodyPost_ret (v:=.tuple #[.slice none 0 0,.bool false]) (by simp [results,Tryz.results124,go_sem]) rfl ⟨HB2.out,.inl ⟨Wo.out,rfl⟩⟩
  have hd2:decide ((tl.size:Int)<2)=false:=by simp;omega
  have h22:2<=tl.size:=by omega
  cases hq:(tl.extract 0 2).toList==[61,32];case false=>
   have hq2:(!(tl.extract 0 2).toList==[61,32])=true:=by rw [hq];rfl
   have Wo:Hid (dQ (s.size+1) s []=none):=HOFF.out (by rw [Yh.out];unfold xZ;rw [Gy,hq];simp);go_wp2;exact bodyPost_ret (v:=.tuple #[.slice none 0 0,.bool false]) (by simp [results,Tryz.results124,go_sem]) rfl ⟨HB2.out,.inl ⟨Wo.out,rfl⟩⟩
  have hq2:(!(tl.extract 0 2).toList==[61,32])=false:=by rw [hq];rfl
  have HTB:Hid (xZ tl=true):=by show _=_;unfold xZ;rw [Gy,hq,decide_eq_true h22];rfl
  have HRE:=dR (wZ (tl.extract 2 tl.size) w2);go_wp2_with fail;refine HRE.out.mono ?_;rintro e w3 ⟨hb3,hcase⟩;have HB3:=dR (HB2.out.trans (hb3.mono HB2.out.size));have Yn:=dR (Vt.out.below mJ hb3);have h23:w2.heap.size<=w3.heap.size:=hb3.size;have HLT2:Hid (∀ g,Gd iT (.slice (some ⟨b4,0,none⟩) rs.length cap4) rs g->g<w2.heap.size):=fun g hg=>(Vt.out.lt mJ hg).2;have hc3:w3.cell? ⟨b4,xs.length*2+1,none⟩=some (.slice t.ad t.rows.length t.cap):=(hb3.cell (p:=⟨b4,xs.length*2+1,none⟩) (Vt.out.own.lt b4 rfl).2).trans Z9.out;rcases hcase with ⟨hrb,rfl⟩|⟨hrb,v,R,qs,rfl,hF⟩
  ·have Wo:Hid (dQ (s.size+1) s []=none):=HOFF.out (by rw [Yh.out,hrb];simp);clear hb3 hc3 Vt HB2 HRE;go_wp2;exact bodyPost_ret (v:=.tuple #[.slice none 0 0,.bool false]) (by simp [results,Tryz.results124,go_sem]) rfl ⟨HB3.out,.inl ⟨Wo.out,rfl⟩⟩
  obtain ⟨UO,capE,hvE⟩:∃ UO capE,v=.slice UO qs.length capE:=by
   obtain ⟨a1,a2,a3,-⟩:=hF.slE;exact ⟨a1,a2,a3⟩
  subst hvE;have HNOD:=dR (hF.nod);have ZJ:=dR hF.out;have XQ:=dR hrb;obtain ⟨W5,Vr⟩:∃ W5,W5=w3.alloc (.cells #[.string nm,.slice UO qs.length capE] 147):=⟨_,rfl⟩;have hb5:ag w3 W5:=by rw [Vr];exact (Uf _ _).alloc (Ue _) _
  have HM5:=dR (Yn.out.below mJ hb5);have V9:=dR (HB3.out.trans (hb5.mono HB3.out.size));have WB:Hid (∀ j u,[Value.string nm,.slice UO qs.length capE][j]?=some u->W5.cell? ((⟨w3.heap.size,0,none⟩:Addr).add j)=some u):=by show ∀ j u,_;rw [Vr];exact Pk w3 _ _ _
  obtain ⟨q,hqd⟩:∃ q:RR,q=⟨nm,qs,UO,capE⟩:=⟨_,rfl⟩;have HQD:=dR hqd;have hkq3:kR w3 (w2.heap.size+1) q:=by rw [hqd];exact HNOD.out
  have hIq:∀ g,iR q g->w2.heap.size+1<=g:=fun g hg=>(IY.lt w3 _ q hkq3 g hg).1;have hkq5:kR W5 w.heap.size q:=IY.heap w3 W5 w.heap.size q (hkq3.mono (by have:=HB2.out.size;omega)) hb5.size (fun g hg=>hb5.block g (IY.lt w3 _ q hkq3 g hg).2);have HIQ:=dR hIq;have W5_ge:Hid (w2.heap.size<=W5.heap.size):=Uk h23 hb5.size;have HKQ:=dR hkq5;have HKT:Hid (kT W5 w.heap.size t):=HM5.out.kid t (by rw [HXT.out];simp);have HTLT:Hid (∀ g,iT t g->g<w2.heap.size):=fun g hg=>HLT2.out g (.inr ⟨t,by rw [HXT.out];simp,hg⟩);have ht750:t.rows.length<=750:=((rows_ok HK.out (by have:=congrArg ByteArray.size HT.out;rw [Uv]at this;omega)).2.1 t (by rw [HXT.out];simp)).1;have hc5:W5.cell? ⟨b4,xs.length*2+1,none⟩=some (.slice t.ad t.rows.length t.cap):=(hb5.cell (p:=⟨b4,xs.length*2+1,none⟩) (Uc (Vt.out.own.lt b4 rfl).2 h23)).trans hc3;have Xl:=dR hc5;have hfz:W5.frozen? ⟨b4,xs.length*2+1,none⟩=false:=HM5.out.own.frozenAt _;have HFZ:=dR hfz;clear hb3 hF hrb hkq3 hkq5 hIq hqd hc5 hb5 Vt HB2 HRE Yn HB3 HNOD hfz;go_wp2_with (at_builtin;rw [<-Vr];clear Vr;refine wpList_append_own_at _ rfl _ _ 125 rfl w.heap.size 147 iR0 (.agg #[.string ⟨#[]⟩,.slice none 0 0]) 2 40 underlying125 VN.out.1 VN.out.2.1 VN.out.2.2.1 VN.out.2.2.2 rfl (by decide) (.slice t.ad t.rows.length t.cap) _ (t.rows.flatMap RR.cells) rfl HKT.out.own ⟨w3.heap.size,0,none⟩ 1 1 [.string nm,.slice UO qs.length capE] rfl rfl WB.out (TM _ _ _ _) (by unfold maxLen;omega) (by omega) V9.out.size ?_);intro v6 w6 hown6 Y7 _ hat6;obtain ⟨g6,c6,hv6⟩:=fI hown6;subst hv6;have hqv:q.vs=.slice UO qs.length capE:=by rw [HQD.out];rfl
  have hneb:some b4≠(Value.slice t.ad t.rows.length t.cap).ownBlock:=fun e=>HM5.out.head t (by rw [HXT.out];simp) b4 (.inl e.symm) rfl;have hc6:w6.cell? ⟨b4,xs.length*2+1,none⟩=some (.slice t.ad t.rows.length t.cap):=Y7.cell Xl.out hneb;have hf6:w6.frozen? ⟨b4,xs.length*2+1,none⟩=false:=(World.frozen?_of_block (w:=W5) (a:=⟨b4,xs.length*2+1,none⟩) (Y7.block b4 (HM5.out.own.lt b4 rfl).2 hneb)).trans HFZ.out;obtain ⟨t',ht'⟩:∃ t':TR,t'=⟨t.name,t.rows++[q],some ⟨g6,0,none⟩,c6⟩:=⟨_,rfl⟩;have hvt':t'.vs=.slice (some ⟨g6,0,none⟩) (t.rows.length+1) c6:=by rw [ht'];simp [TR.vs]
  have hkt':kT w6 w.heap.size t':=by
   have h1:BL w6 w.heap.size (.slice (some ⟨g6,0,none⟩) (t.rows.length+1) c6) (t.rows++[q]):=HKT.out.snoc IY (q:=q) (by
     rw [show RR.cells q=[.string nm,.slice UO qs.length capE] by unfold RR.cells;rw [hqv,HQD.out]];exact hown6) Y7 (by
     rcases hat6 with e|e
     ·exact .inl e
     ·exact .inr ⟨_,e,Ue _⟩) HKQ.out (fun g hg e=>by
     have h2:=HTLT.out g (.inl e);have h3:=HIQ.out g hg;omega) (fun p hp g hg hg2=>by
     have h2:=HTLT.out g (.inr ⟨p,hp,hg⟩);have h3:=HIQ.out g hg2;omega)
   unfold kT;rw [hvt',ht'];exact h1
  have hI':∀ g,iT t' g->iT t g\/(g≠b4/\∀ p∈xs,¬ iT p g):=fun g hg=>by
   have XG:w2.heap.size<=g->g≠b4/\∀ p∈xs,¬ iT p g:=fun hge=>⟨fun e=>by
     have:=HLT2.out b4 (.inl rfl);omega,fun p hp hi=>by
     have:=HLT2.out g (.inr ⟨p,by rw [HXT.out];simp [hp],hi⟩);omega⟩
   rcases hg with hg|⟨p,hp,hg⟩
   ·rw [hvt']at hg;rcases hat6 with e|e
    ·exact .inl (.inl (e.symm.trans hg))
    rw [e]at hg;injection hg with hg;exact .inr (XG (by have:=W5_ge.out;omega))
   rw [ht']at hp;rcases Uq.1 hp with hp|hp
   ·exact .inl (.inr ⟨p,hp,hg⟩)
   rw [Uo]at hp;subst hp;exact .inr (XG (by have:=HIQ.out g hg;omega))
  have HM7:Hid (iN (w6.setCell ⟨b4,xs.length*2+1,none⟩ (.slice (some ⟨g6,0,none⟩) (t.rows.length+1) c6)) w.heap.size (.slice (some ⟨b4,0,none⟩) (xs.length+1) cap4) (xs++[t'])):=by
   have hM:=HM5.out;rw [HLX.out,HXT.out]at hM;refine U1.last mJ hM rfl Y7 (fun r hr=>.inl hr) hkt' hI' ?_;rw [<-hvt',show t'.vs=t'.vs from rfl];exact Pm xs t t' (by rw [ht'])
  have YL:Hid (ag w (w6.setCell ⟨b4,xs.length*2+1,none⟩ (.slice (some ⟨g6,0,none⟩) (t.rows.length+1) c6))):=(V9.out.grown Y7 V9.out.size (fun g hg=>(HKT.out.own.lt g hg).1)).setCell (HM5.out.own.lt b4 rfl).1 _;have HTY7:Hid (mY (ae rs) line=some (ae (xs++[t']))):=by
   show _=_;rw [Yh.out,HNE.out,HTB.out,XQ.out,HXT.out,ht'];simp only [Bool.and_true,if_true];rw [show ae (xs++[t])=ae xs++[t.p] by simp [ae],qR];simp [ae,TR.p,eF,RR.p,HQD.out,ZJ.out]
  obtain ⟨o1,o2,o3,o4⟩:=HON.out _ HTY7.out;have HO:=dR (And.intro o2 o1);have U9:=dR o3;have U4:=dR o4;clear hown6 Y7 hat6 o1 o2 o3 o4 hkt' hI' hvt' ht' hqv hneb HM5 V9 HKT HKQ;go_wp2;go_roundw;case rel=>exact ⟨_,more,n-1,rfl,by omega,HM7,YL,U9,U4,HO⟩
  simp only [strOf];exact hless)
end Go.Proofs.YtajkkeikihhejaaGreat
