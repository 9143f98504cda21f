/- Contract of the document's function that writes a schema's lines, right or not, where these are few bytes. -/
import Derived.Test.YtajkkeikihhejaaGreatSq
import Derived.Test.YtajkkeikihhejaaGreatJ25
open Go.Proofs.Tryz
set_option maxHeartbeats 80000000
namespace Go.Proofs.YtajkkeikihhejaaGreat
open Go.ChangeShapes Go.WideShapes Go.ChangeAt Go.RowKit
open Pl
theorem Sy (o n e:ByteArray):(((o ++ n) ++ ⟨#[32,61,32]⟩) ++ e) ++ ⟨#[10]⟩=o ++ (((n ++ ⟨#[32,61,32]⟩) ++ e) ++ ⟨#[10]⟩):=by
 simp only [ByteArray.append_assoc]
theorem Px (o n:ByteArray):((o ++ ⟨#[116,121,112,101,32]⟩) ++ n) ++ ⟨#[10]⟩=o ++ mD n:=by
 unfold mD; simp only [ByteArray.append_assoc]
structure Small3 (rs:List TR):Prop where
 six:rs.length≤500
 rels:∀ r ∈ rs,r.rows.length≤750
 name:∀ r ∈ rs,r.name.size≤3000
 names:∀ r ∈ rs,∀ q ∈ r.rows,q.name.size≤3000
set_option maxRecDepth 100000 in
theorem EN (ad:Option Addr) (cap:Nat) (rs:List TR) (w:af) (hm:Small3 rs) (hs:kW w ad rs) (hl:∀ r ∈ rs,r.light) (hf:∀ r ∈ rs,r.fits) :
  Calls prog 179 #[.slice ad rs.length cap] w fun e w'=>e=.returned (.string (dw (ae rs)))∧ag w w':=by
 have HS:=az hs;have HL:=az hl;have UL:=az hf;have HM:=az hm;have h6:=hm.six;clear hs hl hf hm;go_enter func179,ntmps179;go_wp2;go_loopw [3,4] (fun o i wr=>∃ (k:Nat) (out:ByteArray),k≤rs.length∧o=.string out∧i=.int .i64 k∧Hid (out=dw (ae (rs.take k)))∧out.size≤k * 5100000∧Hid (ag w wr)) (fun _ i _=>rs.length - (intOf i).toNat);case atStart=>exact ⟨0,⟨#[]⟩,TW _,rfl,rfl,rfl,TW _,TT _ _⟩
 case round =>
  obtain ⟨k,out,hk,rfl,rfl,HP,hz,HB⟩:=hrel;obtain ⟨wo,rfl⟩:∃ x,x=wr:=⟨_,rfl⟩;by_cases hlt:k < rs.length
  ·rcases HS.out.below HB.out with rfl | ⟨b,off,rfl,hb,hr,hok⟩
   ·simp at hlt
   obtain ⟨t0,t1⟩:=hr k hlt;have Vz:Hid (rs[k].ok wo):=hok rs[k] (TQ hlt);have hn12:=HM.out.name rs[k] (TQ hlt);have Wd:=HM.out.rels rs[k] (TQ hlt);have HN12:Hid (∀ q ∈ rs[k].rows,q.name.size≤3000):=HM.out.names rs[k] (TQ hlt);have WE:Hid (rs[k].light):=HL.out _ (TQ hlt);have WH:Hid (rs[k].fits):=UL.out _ (TQ hlt);have hk1:=bB k;have hk2:(k:Int) < (rs.length:Int):=by omega
   have hrl:(rs[k].rows.length:Int)≤750:=by omega
   clear hr hok;go_wp2;go_loopw [3,5] (fun o i wr=>∃ (j:Nat) (o2:ByteArray),j≤rs[k].rows.length∧o=.string o2∧i=.int .i64 j∧Hid (o2=(out ++ mD rs[k].name) ++ dN (eD (rs[k].rows.take j)))∧o2.size≤k * 5100000 + 3010 + j * 6760∧Hid (ag wo wr)) (fun _ i _=>rs[k].rows.length - (intOf i).toNat);case atStart=>exact ⟨0,_,TW _,rfl,rfl,by show _=_; rw [Px,List.take_zero,show eD []=[] from rfl]; simp only [dN,vJ],by rw [Px,Uh,xS]; omega,TT _ _⟩
   case round =>
    obtain ⟨j,o2,hj,rfl,rfl,HI,hz2,HB2⟩:=hrel;replace t0:=aG HB2.out hb t0;replace t1:=aG HB2.out hb t1;have hbw:b < wr.heap.size:=TP hb HB2.out.size;by_cases hjl:j < rs[k].rows.length
    ·rcases Vz.out.below HB2.out with hnil | ⟨b2,UZ,had,hb2,hr2,hok2⟩
     ·rw [hnil] at hjl; simp at hjl
     rw [had] at t1;obtain ⟨u0,u1⟩:=hr2 j hjl;have HOQ:Hid (rs[k].rows[j].ok wr):=hok2 rs[k].rows[j] (TQ hjl);have hj1:=bB j;have hj2:(j:Int) < (rs[k].rows.length:Int):=by omega
     have hq12:=HN12.out _ (TQ hjl);have HQL:Hid (rs[k].rows[j].light):=WE.out.2 _ (TQ hjl);have HQF:Hid (rs[k].rows[j].fits):=WH.out.2.2 _ (TQ hjl);obtain ⟨ex,hex⟩:∃ ex,ex=gQ (aj rs[k].rows[j].rows):=⟨_,rfl⟩;have Zx:Hid (ex=gQ (aj rs[k].rows[j].rows)):=hex;have hxs:ex.size≤3750:=by rw [hex]; exact EL _
     have q1:(9223372036854775807 < o2.size + rs[k].rows[j].name.size)=False:=by simp; omega
     have q2:(9223372036854775807 < o2.size + rs[k].rows[j].name.size + 3)=False:=by simp; omega
     have q3:(9223372036854775807 < o2.size + rs[k].rows[j].name.size + 3 + ex.size)=False:=by simp; omega
     have q4:(9223372036854775807 < o2.size + rs[k].rows[j].name.size + 3 + ex.size + 1)=False:=by simp; omega
     have HI2:Hid ((((o2 ++ rs[k].rows[j].name) ++ ⟨#[32,61,32]⟩) ++ ex) ++ ⟨#[10]⟩=(out ++ mD rs[k].name) ++ dN (eD (rs[k].rows.take (j + 1)))):=by
      show _=_;rw [Sy,Mm _ _ hjl,qP,HI.out,hex];simp only [ByteArray.append_assoc,GK]
     have hz3:((((o2 ++ rs[k].rows[j].name) ++ ⟨#[32,61,32]⟩) ++ ex) ++ ⟨#[10]⟩:ByteArray).size≤k * 5100000 + 3010 + (j + 1) * 6760:=by
      have e1:(⟨#[32,61,32]⟩:ByteArray).size=3:=rfl;have e2:(⟨#[10]⟩:ByteArray).size=1:=rfl;simp only [Uh]; omega
     have HZ3:Hid (((((o2 ++ rs[k].rows[j].name) ++ ⟨#[32,61,32]⟩) ++ ex) ++ ⟨#[10]⟩:ByteArray).size≤k * 5100000 + 3010 + (j + 1) * 6760):=hz3;clear hr2 hok2 had hex hz3;go_wp2_with fail;refine lJ 24 (fun n=>(u31::u32::u33::u34::u35::u36::u37::u38::u39::u40::u41::u42::u43::u44::u45::u46::u47::u48::u49::u50::u51::u52::u53::u54::[]).getD n undef) (fun fq=>{ tmps:=List.toArray (Value.slice (some ⟨b,off,none⟩) rs.length cap::undef::.string { data:=#[] }::.string o2::.int .i64 k::.int .i64 j::.int .i64 k::.slice (some ⟨b,off,none⟩) rs.length cap::.int .i64 rs.length::.bool true::u10::u11::.string out::.string (out ++ { data:=#[116,121,112,101,32] })::.slice (some ⟨b,off,none⟩) rs.length cap::.int .i64 k::.pointer (some ⟨b,off + k * 2,none⟩)::.pointer (some ⟨b,off + k * 2,none⟩)::.string rs[k].name::.string (out ++ { data:=#[116,121,112,101,32] } ++ rs[k].name)::.string (out ++ { data:=#[116,121,112,101,32] } ++ rs[k].name ++ { data:=#[10] })::.int .i64 j::.slice (some ⟨b,off,none⟩) rs.length cap::.int .i64 k::.pointer (some ⟨b,off + k * 2,none⟩)::.pointer (some ⟨b,off + k * 2 + 1,none⟩)::.slice (some ⟨b2,UZ,none⟩) rs[k].rows.length rs[k].cap::.int .i64 rs[k].rows.length::.bool true::u29::u30::fq 0::fq 1::fq 2::fq 3::fq 4::fq 5::fq 6::fq 7::fq 8::fq 9::fq 10::fq 11::fq 12::fq 13::fq 14::fq 15::fq 16::fq 17::fq 18::fq 19::fq 20::fq 21::fq 22::fq 23::undef::[]),defers:=[] }) (fun n v _=>v=(Value.string o2::.slice (some ⟨b,off,none⟩) rs.length cap::.int .i64 k::.pointer (some ⟨b,off + k * 2,none⟩)::.pointer (some ⟨b,off + k * 2 + 1,none⟩)::.slice (some ⟨b2,UZ,none⟩) rs[k].rows.length rs[k].cap::.int .i64 j::.pointer (some ⟨b2,UZ + j * 2,none⟩)::.pointer (some ⟨b2,UZ + j * 2,none⟩)::.string rs[k].rows[j].name::.string (o2 ++ rs[k].rows[j].name)::.string ((o2 ++ rs[k].rows[j].name) ++ ⟨#[32,61,32]⟩)::.slice (some ⟨b,off,none⟩) rs.length cap::.int .i64 k::.pointer (some ⟨b,off + k * 2,none⟩)::.pointer (some ⟨b,off + k * 2 + 1,none⟩)::.slice (some ⟨b2,UZ,none⟩) rs[k].rows.length rs[k].cap::.int .i64 j::.pointer (some ⟨b2,UZ + j * 2,none⟩)::.pointer (some ⟨b2,UZ + j * 2 + 1,none⟩)::.slice rs[k].rows[j].ad rs[k].rows[j].rows.length rs[k].rows[j].cap::.string ex::.string (((o2 ++ rs[k].rows[j].name) ++ ⟨#[32,61,32]⟩) ++ ex)::.string ((((o2 ++ rs[k].rows[j].name) ++ ⟨#[32,61,32]⟩) ++ ex) ++ ⟨#[10]⟩)::[]).getD n undef) (fun w'=>ag wr w') (by kernel_rfl) rfl (by kernel_rfl) (by kernel_rfl) rfl (TT _ _).drew ?stepS ?finS;case stepS =>
      rintro i hi o ho fq w' hG hpre;have HG:Hid (ag wr w'):=hG;replace t1:=aG hG hbw t1;replace u0:=aG hG hb2 u0;replace u1:=aG hG hb2 u1;have HM:Hid (∀ e ∈ o.after,Region.binds .any e=true→_):=hpre;clear hG hpre;have hc:=Tg (i:=i) (by omega);clear hi
      repeat' rcases hc with rfl | hc
      iterate 21
       ·cases ho;have hm:=HM.out
        try simp [Region.binds] at hm
        refine aa rfl fun K HK=>?_;clear HM
        try simp only [hm]
        go_simp;exact HK.out _ _ ⟨_,by simp [upd, *],HG.out,rfl,fun k u hu=>hu⟩
      ·cases ho;have e20:fq 20=.slice rs[k].rows[j].ad rs[k].rows[j].rows.length rs[k].rows[j].cap:=HM.out ⟨20,.data⟩ (by simp) rfl;refine aa rfl fun K HK=>?_;clear HM;simp only [e20];go_simp;refine (oq _ _ rs[k].rows[j].rows _ HQL.out.1 HQL.out.2 HQF.out.2.2 (HOQ.out.below HG.out)).mono ?_;rintro e w5 ⟨rfl,hb5⟩;have HG5:=jP HG hb5;rw [← Zx.out];clear hb5;go_wp2_with fail;exact HK.out _ _ ⟨Value.string ex,by simp [upd,e20],HG5.out,rfl,fun k u hu=>hu⟩
      iterate 2
       ·cases ho;have hm:=HM.out
        try simp [Region.binds] at hm
        refine aa rfl fun K HK=>?_;clear HM
        try simp only [hm]
        go_simp;exact HK.out _ _ ⟨_,by simp [upd, *],HG.out,rfl,fun k u hu=>hu⟩
     case finS =>
      rintro o ho fq w' hG hall;have e23:fq 23=.string ((((o2 ++ rs[k].rows[j].name) ++ ⟨#[32,61,32]⟩) ++ ex) ++ ⟨#[10]⟩):=hall 23 (by omega);have HG:Hid (ag wr w'):=hG;clear hG hall;obtain rfl:=Option.some.inj ho;clear ho;refine wpOp_step rfl (fun K hK=>?_);have HK:Hid (∀ a w,_→K a w):=hK;clear hK;simp only [e23];go_simp;refine HK.out _ _ ?_;clear HK;have HB3:Hid (ag wo w'):=HB2.out.trans (HG.out.mono HB2.out.size);go_wp2;go_roundw;case rel=>exact ⟨j + 1,_,by omega,rfl,by go_num,HI2,HZ3.out,HB3⟩
      case measure=>simp [intOf] <;> omega
    ·obtain rfl:j=rs[k].rows.length:=by omega
     have UI:Hid (o2=dw (ae (rs.take (k + 1)))):=by
      show _=_;rw [HI.out,Mo _ _ hlt,mE,HP.out,Ug,ByteArray.append_assoc]
     have Xj:o2.size≤(k + 1) * 5100000:=by omega
     have HB3:Hid (ag w wr):=HB.out.trans (HB2.out.mono HB.out.size);go_wp2;go_roundw;case rel=>exact ⟨k + 1,o2,by omega,rfl,by go_num,UI,Xj,HB3⟩
     case measure=>simp [intOf] <;> omega
  ·obtain rfl:k=rs.length:=by omega
   have HN:Hid (out=dw (ae rs)):=by show _=_; rw [HP.out,Ug]
   go_wp2;go_ret;exact ⟨by rw [HN.out]; rfl,HB.out⟩
open Go.Maps
set_option maxRecDepth 100000
theorem dP {p:Prop} (h:p):Hid p:=h
def strOf:Value→Nat | .string b=>b.size | _=>0
def Sz (s:ByteArray) (w:World) (e:Ending) (w':World):Prop :=
 ag w w'∧((dO (s.size + 1) s []=none∧e=.returned (.tuple #[.slice none 0 0,.bool false])) ∨ ∃ (v:Value) (rs:List TR),dO (s.size + 1) s []=some (ae rs)∧e=.returned (.tuple #[v,.bool true])∧iM w' w.heap.size v rs∧dw (ae rs)=s∧RJ (ae rs))
theorem Mv {n:Nat} {rest:ByteArray} {acc:List Ty} (hn:rest.size < n) (h:rest.toList.isEmpty=true):dO n rest acc=some acc:=by
 cases n with
 | zero=>omega
 | succ n=>simp [dO,h]
theorem Mw {n:Nat} {rest:ByteArray} {acc:List Ty} (hn:rest.size < n) (h:rest.toList.isEmpty=false) (hc:oO 10 rest=false):dO n rest acc=none:=by
 cases n with
 | zero=>omega
 | succ n=>simp [dO,h,hc]
theorem Mx {n:Nat} {rest:ByteArray} {acc:List Ty} (hn:rest.size < n) (h:rest.toList.isEmpty=false) (hc:oO 10 rest=true) (hl:ni acc (ko 10 rest)=none):dO n rest acc=none:=by
 cases n with
 | zero=>omega
 | succ n=>simp [dO,h,hc,hl]
theorem Py {n:Nat} {rest:ByteArray} {acc a:List Ty} (hn:rest.size < n) (h:rest.toList.isEmpty=false) (hc:oO 10 rest=true) (hl:ni acc (ko 10 rest)=some a):dO n rest acc=dO (n - 1) (iJ 10 rest) a∧(iJ 10 rest).size < n - 1:=by
 have:=GL hc;cases n with
 | zero=>omega
 | succ n=>exact ⟨by simp [dO,h,hc,hl],by simp; omega⟩
theorem Pz {b:ByteArray} (h:b.toList.isEmpty=true):b=⟨#[]⟩:=by
 have h2:b.toList=[]:=by simpa using h
 rw [mF] at h2;exact jc (by simpa using h2)
theorem Bc:Ps.toList=[116,121,112,101,32]:=by rw [mF]; rfl
theorem GQ:TA.toList=[61,32]:=by rw [mF]; rfl
theorem PD (w:af) (a b:Value) (t:TypeId):∀ j u,[a,b][j]?=some u→(w.alloc (.cells #[a,b] t)).cell? ((⟨w.heap.size,0,none⟩:Addr).add j)=some u:=by
 intro j u hu;rw [show (⟨w.heap.size,0,none⟩:Addr).add j=⟨w.heap.size,0 + j,none⟩ by simp [Addr.add]; omega,Um];have:=World.cell?_alloc_mark w #[a,b] t (0,0) j;rw [this];simpa using hu
theorem PE (xs:List TR) (t t':TR) (hn:t'.name=t.name):((xs ++ [t]).flatMap TR.cells).set (xs.length * 2 + 1) t'.vs=(xs ++ [t']).flatMap TR.cells:=by
 have hl:(xs.flatMap TR.cells).length=xs.length * 2:=pz (fun _=>rfl) _;rw [List.flatMap_append,List.flatMap_append,List.set_append_right _ _ (by omega),hl];simp [TR.cells,hn]
theorem TC (n:ByteArray) (ad:Option Addr) (k c:Nat):∀ u ∈ [Value.string n,.slice ad k c],u.oneCell'=true:=by
 intro u hu;simp at hu;rcases hu with rfl | rfl <;> rfl
theorem EO (s:ByteArray) (w:af) (hs:s.size≤3000):Calls prog 124 #[.string s] w (Sz s w):=by
 obtain ⟨iT0,hiT,zT0,zT1,zT2⟩:=info_parts (P:=prog) (e:=127) (z:=.agg #[.string ⟨#[]⟩,.slice none 0 0]) (size:=2) (bytes:=40) (by kernel_rfl);have HIT:Hid (prog.info? 127=some iT0∧iT0.zero=some (.agg #[.string ⟨#[]⟩,.slice none 0 0])∧iT0.size=2∧iT0.bytes=40):=⟨hiT,zT0,zT1,zT2⟩;obtain ⟨iR0,Y0,zR0,zR1,zR2⟩:=info_parts (P:=prog) (e:=147) (z:=.agg #[.string ⟨#[]⟩,.slice none 0 0]) (size:=2) (bytes:=40) (by kernel_rfl);have Vx:Hid (prog.info? 147=some iR0∧iR0.zero=some (.agg #[.string ⟨#[]⟩,.slice none 0 0])∧iR0.size=2∧iR0.bytes=40):=⟨Y0,zR0,zR1,zR2⟩;obtain ⟨W0,hW0⟩:∃ W0,W0=w.alloc (.cells #[] 127):=⟨_,rfl⟩;have HB0:=qY hW0;have HM0:Hid (iM W0 w.heap.size (.slice (some ⟨w.heap.size,0,none⟩) 0 0) []):=by
  show UO _ _ _ _ _ _ _ _ _;rw [hW0];exact ⟨World.ownsRow_lit w #[] 0 (TS _) (by unfold maxLen; omega) (by simp),fun q hq=>(by cases hq),fun q hq=>(by cases hq),fun x y hx=>absurd hx (by simp)⟩
 have hs5:(s.size:Int)≤50000:=by omega
 clear hiT zT0 zT1 zT2 Y0 zR0 zR1 zR2;go_enter func124,ntmps124;go_wp2;rw [← hW0]; clear hW0;go_loopw [4,5] (fun v r wr=>∃ (rs:List TR) (rest:ByteArray) (n:Nat),r=.string rest∧rest.size≤3000∧Hid (iM wr w.heap.size v rs)∧Hid (ag w wr)∧Hid (dw (ae rs) ++ rest=s)∧Hid (RJ (ae rs))∧Hid (rest.size < n∧dO n rest (ae rs)=dO (s.size + 1) s [])) (fun _ r _=>strOf r);case atStart=>exact ⟨[],s,s.size + 1,rfl,hs,HM0,HB0,by show _=_; exact rH _,fun t ht=>(by cases ht),by omega,rfl⟩
 clear HM0 HB0;obtain ⟨rs,rest,n,rfl,hrs,HM,HB,HT,HK,HN⟩:=hrel;cases he:rest.toList.isEmpty;case true=>
  have HTX:Hid (dw (ae rs)=s):=by show _=_; rw [← HT.out,Pz he,vJ]
  have Vj:=dP (Mv (acc:=ae rs) HN.out.1 he);obtain ⟨ad,cap,rfl,hsl,-⟩:=HM.out.read;obtain ⟨k1,k2,k3,k4⟩:=rows_ok HK.out (by rw [HTX.out]; exact hs);have UD:=dP (EN ad cap rs wr ⟨k1,fun r hr=>(k2 r hr).1,fun r hr=>(k2 r hr).2.1,fun r hr=>(k2 r hr).2.2⟩ hsl k3 k4);clear hsl k1 k2 k3 k4;go_wp2_with fail;refine UD.out.mono ?_;rintro e w1 ⟨hee,hb1⟩;rw [HTX.out] at hee;subst hee;have HB1:=dP (HB.out.trans (hb1.mono HB.out.size));have Xt:=dP (HM.out.below mI hb1);clear hb1 UD;go_wp2;exact bodyPost_ret (v:=.tuple #[.slice ad rs.length cap,.bool true]) (by simp [results,Tryz.results124,go_sem]) rfl ⟨HB1.out,.inr ⟨_,rs,by rw [← HN.out.2,Vj.out],rfl,Xt.out,HTX.out,HK.out⟩⟩
 have HE:=dP he;have h500:rs.length≤500:=(rows_ok HK.out (by have:=congrArg ByteArray.size HT.out; rw [Uh] at this; omega)).1;have HC:=dP (Ct rest 10 wr (by unfold maxLen; omega));go_wp2_with fail;refine HC.out.mono ?_;rintro e w1 ⟨rfl,n0,hw1⟩;have hb1:ag wr w1:=by rw [hw1]; exact below_drewN (TT _ _) n0
 have HB1:=dP (HB.out.trans (hb1.mono HB.out.size));have Xt:=dP (HM.out.below mI hb1);have hzz:=J9 10 rest;have hza:=Qi 10 rest;clear hw1 hb1 HC HM HB;cases hc:oO 10 rest;case false=>
  have Wt:=dP (Mw (acc:=ae rs) HN.out.1 HE.out hc);go_wp2;exact bodyPost_ret (v:=.tuple #[.slice none 0 0,.bool false]) (by simp [results,Tryz.results124,go_sem]) rfl ⟨HB1.out,.inl ⟨by rw [← HN.out.2,Wt.out],rfl⟩⟩
 have HCF:=dP hc;have HJ:=dP (A9 hc);have hless:=GL hc;obtain ⟨line,XN⟩:∃ line,line=ko 10 rest:=⟨_,rfl⟩;obtain ⟨more,hmore⟩:∃ more,more=iJ 10 rest:=⟨_,rfl⟩;rw [← XN,← hmore] at HJ;rw [← hmore] at hzz hless;rw [← XN] at hza;rw [← XN,← hmore];have XQ:=dP XN;have ZW:=dP hmore;clear XN hmore hc;have HON:Hid (∀ a,ni (ae rs) line=some a→dO (n - 1) more a=dO (s.size + 1) s []∧more.size < n - 1∧dw a ++ more=s∧RJ a):=fun a ha=>by
  have h1:=Py (acc:=ae rs) HN.out.1 HE.out HCF.out (by rw [← XQ.out]; exact ha);rw [← ZW.out] at h1;refine ⟨by rw [← h1.1,HN.out.2],h1.2,?_,QU ha HK.out⟩;rw [Ms ha,ByteArray.append_assoc];have h2:=HT.out;rw [HJ.out] at h2;exact h2
 have HOFF:Hid (ni (ae rs) line=none→dO (s.size + 1) s []=none):=fun ha=>by
  have h1:=Mx (acc:=ae rs) HN.out.1 HE.out HCF.out (by rw [← XQ.out]; exact ha);rw [← HN.out.2,h1]
 cases ht:A8 line;case true=>
  have hl5:5 < line.size:=by unfold A8 at ht; simp only [TU,Ud] at ht; exact ht.1
  have hty:((line.extract 0 5).toList == [116,121,112,101,32])=true:=by unfold A8 at ht; simp only [TU] at ht; rw [← Bc]; exact ht.2
  have hd5:decide ((5:Int) < (line.size:Int))=true:=by simp; omega
  have XT:Hid (ni (ae rs) line=some (ae (rs ++ [⟨line.extract 5 line.size,[],none,0⟩]))):=by show _=_; unfold ni; rw [ht]; simp [ae,TR.p,eD]
  clear ht;obtain ⟨nm,hnm⟩:∃ nm,nm=line.extract 5 line.size:=⟨_,rfl⟩;obtain ⟨W2,hW2⟩:∃ W2,W2=w1.alloc (.cells #[.string nm,.slice none 0 0] 127):=⟨_,rfl⟩;have hb2:ag w1 W2:=by rw [hW2]; exact (TT _ _).alloc (TS _) _
  have Vd:=dP (Xt.out.below mI hb2);have HB2:=dP (HB1.out.trans (hb2.mono HB1.out.size));have Wi:Hid (∀ j u,[Value.string nm,.slice none 0 0][j]?=some u→W2.cell? ((⟨w1.heap.size,0,none⟩:Addr).add j)=some u):=by show ∀ j u,_; rw [hW2]; exact PD w1 _ _ _
  rw [← hnm] at XT;rw [hnm] at hW2;clear hb2 hnm;go_wp2_with (at_builtin; rw [← hW2]; clear hW2; refine wpList_append_own_at _ rfl _ _ 24 rfl w.heap.size 127 iT0 (.agg #[.string ⟨#[]⟩,.slice none 0 0]) 2 40 underlying24 HIT.out.1 HIT.out.2.1 HIT.out.2.2.1 HIT.out.2.2.2 rfl (by decide) u4 _ (rs.flatMap TR.cells) rfl Vd.out.own ⟨w1.heap.size,0,none⟩ 1 1 [.string nm,.slice none 0 0] rfl rfl Wi.out (TC _ _ _ _) (by unfold maxLen; omega) (by omega) HB2.out.size ?_);intro v3 w3 hown3 hgr3 _ hat3;have XY:Hid (iM w3 w.heap.size v3 (rs ++ [⟨nm,[],none,0⟩])):=Vd.out.snoc mI (q:=⟨nm,[],none,0⟩) hown3 hgr3 (by
    rcases hat3 with e | e
    ·exact .inl e
    ·exact .inr ⟨_,e,TS _⟩) (Pf W2 w.heap.size) (fun g hg=>by
    rcases hg with hg | ⟨q,hq,-⟩
    ·simp [TR.vs,Value.ownBlock] at hg
    ·cases hq) (fun p hp g hg hg2=>by
    rcases hg2 with hg2 | ⟨q,hq,-⟩
    ·simp [TR.vs,Value.ownBlock] at hg2
    cases hq)
  have HB3:Hid (ag w w3):=HB2.out.grown hgr3 HB2.out.size (fun g hg=>(Vd.out.own.lt g hg).1);obtain ⟨o1,o2,o3,o4⟩:=HON.out _ XT.out;have HO:=dP (And.intro o2 o1);have UX:=dP o3;have UR:=dP o4;clear hown3 hgr3 hat3 o1 o2 o3 o4 Vd HB2 Wi hty hd5;go_wp2;go_roundw;case rel=>exact ⟨_,more,n - 1,rfl,by omega,XY,HB3,UX,UR,HO⟩
  simp only [strOf]; exact hless
 have HTY:=dP ht;have h58:(5 < line.size∧decide ((5:Int) < (line.size:Int))=true∧((line.extract 0 5).toList == [116,121,112,101,32])=false) ∨ decide ((5:Int) < (line.size:Int))=false:=by
  by_cases h5:5 < line.size
  ·left;refine ⟨h5,by simp; omega,?_⟩;unfold A8 at ht;rw [decide_eq_true h5,Bool.true_and,Bc] at ht;exact ht
  right; simp; omega
 have Va:=dP (Ct line 32 w1 (by unfold maxLen; omega));obtain ⟨ad4,cap4,hv4,hsl4,-⟩:=iM.read Xt.out;subst hv4;clear ht hsl4;rcases h58 with ⟨hl5,hd5,hty⟩ | hd5
 all_goals (
  go_wp2_with fail;refine Va.out.mono ?_;rintro e w2 ⟨rfl,n1,hw2⟩;have hb2:ag w1 w2:=by rw [hw2]; exact below_drewN (TT _ _) n1
  have HB2:=dP (HB1.out.trans (hb2.mono HB1.out.size));have Vd:=dP (Xt.out.below mI hb2);have hzt:=J9 32 line;obtain ⟨nm,hnm⟩:∃ nm,nm=ko 32 line:=⟨_,rfl⟩;obtain ⟨tl,htl⟩:∃ tl,tl=iJ 32 line:=⟨_,rfl⟩;rw [← htl] at hzt;rw [← hnm,← htl];have XT:Hid (ni (ae rs) line=if !(ae rs).isEmpty && xU tl && mq (tl.extract 2 tl.size) then some (EM (ae rs) ⟨nm,(kD (tl.extract 2 tl.size)).out⟩) else none):=by show _=_; unfold ni Du; rw [HTY.out,hnm,htl]; rfl
  clear hw2 hb2 Va Xt HB1 hnm htl;by_cases hz:rs=[]
  ·subst hz;have Wt:Hid (dO (s.size + 1) s []=none):=HOFF.out (by rw [XT.out]; rfl);go_wp2;exact bodyPost_ret (v:=.tuple #[.slice none 0 0,.bool false]) (by simp [results,Tryz.results124,go_sem]) rfl ⟨HB2.out,.inl ⟨Wt.out,rfl⟩⟩
  obtain ⟨xs,t,hxt⟩:∃ xs t,rs=xs ++ [t]:=⟨rs.dropLast,rs.getLast hz,(List.dropLast_concat_getLast hz).symm⟩;have HXT:=dP hxt;have hlx:rs.length=xs.length + 1:=by rw [hxt]; simp
  have HNE:Hid ((!(ae rs).isEmpty)=true):=by show _=_; rw [hxt]; simp [ae]
  obtain ⟨b4,had4⟩:∃ b4,ad4=some ⟨b4,0,none⟩:=by
   rcases Vd.out.own.2 with ⟨-,h0⟩ | ⟨g,cap,cur,e,-⟩
   ·exact absurd (Ui.1 h0) hz
   injection e with e1 e2 e3; exact ⟨g,e1⟩
  subst had4;have hcell:=Vd.out.own.cellAt (xs.length * 2 + 1) (by omega);rw [rM (fun _=>rfl) rs xs.length (by omega) 1 (by omega)] at hcell;have htx:rs[xs.length]'(by omega)=t:=by subst hxt; simp
  rw [htx] at hcell;have hcl:w2.cell? ⟨b4,xs.length * 2 + 1,none⟩=some (.slice t.ad t.rows.length t.cap):=hcell;have ZV:=dP hcl;have hn0:(0:Int)≤(xs.length:Int):=by omega
  have hn1:(xs.length:Int) < (xs.length:Int) + 1:=by omega
  have HLX:=dP hlx;have hx500:xs.length < 500:=by omega
  have h500':=h500;rw [hlx];clear hz hxt hlx hcell htx hcl h500;by_cases h2:tl.size < 2
  ·have hd2:decide ((tl.size:Int) < 2)=true:=by simp; omega
   have Wt:Hid (dO (s.size + 1) s []=none):=HOFF.out (by rw [XT.out]; simp [xU]; omega);go_wp2;exact bodyPost_ret (v:=.tuple #[.slice none 0 0,.bool false]) (by simp [results,Tryz.results124,go_sem]) rfl ⟨HB2.out,.inl ⟨Wt.out,rfl⟩⟩
  have hd2:decide ((tl.size:Int) < 2)=false:=by simp; omega
  have h22:2≤tl.size:=by omega
  cases hq:(tl.extract 0 2).toList == [61,32];case false=>
   have hq2:(!(tl.extract 0 2).toList == [61,32])=true:=by rw [hq]; rfl
   have Wt:Hid (dO (s.size + 1) s []=none):=HOFF.out (by rw [XT.out]; unfold xU; rw [GQ,hq]; simp);go_wp2;exact bodyPost_ret (v:=.tuple #[.slice none 0 0,.bool false]) (by simp [results,Tryz.results124,go_sem]) rfl ⟨HB2.out,.inl ⟨Wt.out,rfl⟩⟩
  have hq2:(!(tl.extract 0 2).toList == [61,32])=false:=by rw [hq]; rfl
  have HTB:Hid (xU tl=true):=by show _=_; unfold xU; rw [GQ,hq,decide_eq_true h22]; rfl
  have HRE:=dP (wM (tl.extract 2 tl.size) w2);go_wp2_with fail;refine HRE.out.mono ?_;rintro e w3 ⟨hb3,hcase⟩;have HB3:=dP (HB2.out.trans (hb3.mono HB2.out.size));have XY:=dP (Vd.out.below mI hb3);have h23:w2.heap.size≤w3.heap.size:=hb3.size;have HLT2:Hid (∀ g,Gz iT (.slice (some ⟨b4,0,none⟩) rs.length cap4) rs g→g < w2.heap.size):=fun g hg=>(Vd.out.lt mI hg).2;have hc3:w3.cell? ⟨b4,xs.length * 2 + 1,none⟩=some (.slice t.ad t.rows.length t.cap):=(hb3.cell (p:=⟨b4,xs.length * 2 + 1,none⟩) (Vd.out.own.lt b4 rfl).2).trans ZV.out;rcases hcase with ⟨hrb,rfl⟩ | ⟨hrb,v,R,qs,rfl,hF⟩
  ·have Wt:Hid (dO (s.size + 1) s []=none):=HOFF.out (by rw [XT.out,hrb]; simp);clear hb3 hc3 Vd HB2 HRE;go_wp2;exact bodyPost_ret (v:=.tuple #[.slice none 0 0,.bool false]) (by simp [results,Tryz.results124,go_sem]) rfl ⟨HB3.out,.inl ⟨Wt.out,rfl⟩⟩
  obtain ⟨UC,capE,hvE⟩:∃ UC capE,v=.slice UC qs.length capE:=by
   obtain ⟨a1,a2,a3,-⟩:=hF.slE;exact ⟨a1,a2,a3⟩
  subst hvE;have HNOD:=dP (hF.nod);have Zx:=dP hF.out;have Xr:=dP hrb;obtain ⟨W5,Vb⟩:∃ W5,W5=w3.alloc (.cells #[.string nm,.slice UC qs.length capE] 147):=⟨_,rfl⟩;have hb5:ag w3 W5:=by rw [Vb]; exact (TT _ _).alloc (TS _) _
  have HM5:=dP (XY.out.below mI hb5);have VQ:=dP (HB3.out.trans (hb5.mono HB3.out.size));have Wi:Hid (∀ j u,[Value.string nm,.slice UC qs.length capE][j]?=some u→W5.cell? ((⟨w3.heap.size,0,none⟩:Addr).add j)=some u):=by show ∀ j u,_; rw [Vb]; exact PD w3 _ _ _
  obtain ⟨q,hqd⟩:∃ q:RR,q=⟨nm,qs,UC,capE⟩:=⟨_,rfl⟩;have HQD:=dP hqd;have hkq3:kR w3 (w2.heap.size + 1) q:=by rw [hqd]; exact HNOD.out
  have hIq:∀ g,iR q g→w2.heap.size + 1≤g:=fun g hg=>(JF.lt w3 _ q hkq3 g hg).1;have hkq5:kR W5 w.heap.size q:=JF.heap w3 W5 w.heap.size q (hkq3.mono (by have:=HB2.out.size; omega)) hb5.size (fun g hg=>hb5.block g (JF.lt w3 _ q hkq3 g hg).2);have HIQ:=dP hIq;have W5_ge:Hid (w2.heap.size≤W5.heap.size):=TZ h23 hb5.size;have HKQ:=dP hkq5;have HKT:Hid (kT W5 w.heap.size t):=HM5.out.kid t (by rw [HXT.out]; simp);have HTLT:Hid (∀ g,iT t g→g < w2.heap.size):=fun g hg=>HLT2.out g (.inr ⟨t,by rw [HXT.out]; simp,hg⟩);have ht750:t.rows.length≤750:=((rows_ok HK.out (by have:=congrArg ByteArray.size HT.out; rw [Uh] at this; omega)).2.1 t (by rw [HXT.out]; simp)).1;have hc5:W5.cell? ⟨b4,xs.length * 2 + 1,none⟩=some (.slice t.ad t.rows.length t.cap):=(hb5.cell (p:=⟨b4,xs.length * 2 + 1,none⟩) (TP (Vd.out.own.lt b4 rfl).2 h23)).trans hc3;have Wy:=dP hc5;have hfz:W5.frozen? ⟨b4,xs.length * 2 + 1,none⟩=false:=HM5.out.own.frozenAt _;have HFZ:=dP hfz;clear hb3 hF hrb hkq3 hkq5 hIq hqd hc5 hb5 Vd HB2 HRE XY HB3 HNOD hfz;go_wp2_with (at_builtin; rw [← Vb]; clear Vb; refine wpList_append_own_at _ rfl _ _ 125 rfl w.heap.size 147 iR0 (.agg #[.string ⟨#[]⟩,.slice none 0 0]) 2 40 underlying125 Vx.out.1 Vx.out.2.1 Vx.out.2.2.1 Vx.out.2.2.2 rfl (by decide) (.slice t.ad t.rows.length t.cap) _ (t.rows.flatMap RR.cells) rfl HKT.out.own ⟨w3.heap.size,0,none⟩ 1 1 [.string nm,.slice UC qs.length capE] rfl rfl Wi.out (TC _ _ _ _) (by unfold maxLen; omega) (by omega) VQ.out.size ?_);intro v6 w6 hown6 YS _ hat6;obtain ⟨g6,c6,hv6⟩:=fH hown6;subst hv6;have hqv:q.vs=.slice UC qs.length capE:=by rw [HQD.out]; rfl
  have hneb:some b4 ≠ (Value.slice t.ad t.rows.length t.cap).ownBlock:=fun e=>HM5.out.head t (by rw [HXT.out]; simp) b4 (.inl e.symm) rfl;have hc6:w6.cell? ⟨b4,xs.length * 2 + 1,none⟩=some (.slice t.ad t.rows.length t.cap):=YS.cell Wy.out hneb;have hf6:w6.frozen? ⟨b4,xs.length * 2 + 1,none⟩=false:=(World.frozen?_of_block (w:=W5) (a:=⟨b4,xs.length * 2 + 1,none⟩) (YS.block b4 (HM5.out.own.lt b4 rfl).2 hneb)).trans HFZ.out;obtain ⟨t',ht'⟩:∃ t':TR,t'=⟨t.name,t.rows ++ [q],some ⟨g6,0,none⟩,c6⟩:=⟨_,rfl⟩;have hvt':t'.vs=.slice (some ⟨g6,0,none⟩) (t.rows.length + 1) c6:=by rw [ht']; simp [TR.vs]
  have hkt':kT w6 w.heap.size t':=by
   have h1:BL w6 w.heap.size (.slice (some ⟨g6,0,none⟩) (t.rows.length + 1) c6) (t.rows ++ [q]):=HKT.out.snoc JF (q:=q) (by
     rw [show RR.cells q=[.string nm,.slice UC qs.length capE] by unfold RR.cells; rw [hqv,HQD.out]]; exact hown6) YS (by
     rcases hat6 with e | e
     ·exact .inl e
     ·exact .inr ⟨_,e,TS _⟩) HKQ.out (fun g hg e=>by
     have h2:=HTLT.out g (.inl e);have h3:=HIQ.out g hg;omega) (fun p hp g hg hg2=>by
     have h2:=HTLT.out g (.inr ⟨p,hp,hg⟩);have h3:=HIQ.out g hg2;omega)
   unfold kT;rw [hvt',ht'];exact h1
  have hI':∀ g,iT t' g→iT t g ∨ (g ≠ b4∧∀ p ∈ xs,¬ iT p g):=fun g hg=>by
   have Xl:w2.heap.size≤g→g ≠ b4∧∀ p ∈ xs,¬ iT p g:=fun hge=>⟨fun e=>by
     have:=HLT2.out b4 (.inl rfl);omega,fun p hp hi=>by
     have:=HLT2.out g (.inr ⟨p,by rw [HXT.out]; simp [hp],hi⟩);omega⟩
   rcases hg with hg | ⟨p,hp,hg⟩
   ·rw [hvt'] at hg;rcases hat6 with e | e
    ·exact .inl (.inl (e.symm.trans hg))
    rw [e] at hg; injection hg with hg;exact .inr (Xl (by have:=W5_ge.out; omega))
   rw [ht'] at hp;rcases Uc.1 hp with hp | hp
   ·exact .inl (.inr ⟨p,hp,hg⟩)
   rw [Ua] at hp; subst hp;exact .inr (Xl (by have:=HIQ.out g hg; omega))
  have HM7:Hid (iM (w6.setCell ⟨b4,xs.length * 2 + 1,none⟩ (.slice (some ⟨g6,0,none⟩) (t.rows.length + 1) c6)) w.heap.size (.slice (some ⟨b4,0,none⟩) (xs.length + 1) cap4) (xs ++ [t'])):=by
   have hM:=HM5.out;rw [HLX.out,HXT.out] at hM;refine UO.last mI hM rfl YS (fun r hr=>.inl hr) hkt' hI' ?_;rw [← hvt',show t'.vs=t'.vs from rfl];exact PE xs t t' (by rw [ht'])
  have HB7:Hid (ag w (w6.setCell ⟨b4,xs.length * 2 + 1,none⟩ (.slice (some ⟨g6,0,none⟩) (t.rows.length + 1) c6))):=(VQ.out.grown YS VQ.out.size (fun g hg=>(HKT.out.own.lt g hg).1)).setCell (HM5.out.own.lt b4 rfl).1 _;have HTY7:Hid (ni (ae rs) line=some (ae (xs ++ [t']))):=by
   show _=_;rw [XT.out,HNE.out,HTB.out,Xr.out,HXT.out,ht'];simp only [Bool.and_true,if_true];rw [show ae (xs ++ [t])=ae xs ++ [t.p] by simp [ae],qQ];simp [ae,TR.p,eD,RR.p,HQD.out,Zx.out]
  obtain ⟨o1,o2,o3,o4⟩:=HON.out _ HTY7.out;have HO:=dP (And.intro o2 o1);have UX:=dP o3;have UR:=dP o4;clear hown6 YS hat6 o1 o2 o3 o4 hkt' hI' hvt' ht' hqv hneb HM5 VQ HKT HKQ;go_wp2;go_roundw;case rel=>exact ⟨_,more,n - 1,rfl,by omega,HM7,HB7,UX,UR,HO⟩
  simp only [strOf]; exact hless)
end Go.Proofs.YtajkkeikihhejaaGreat
