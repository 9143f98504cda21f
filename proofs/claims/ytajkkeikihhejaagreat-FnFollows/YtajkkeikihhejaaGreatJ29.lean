/- Contract of the program's function on strata. -/
import Derived.Test.YtajkkeikihhejaaGreatSq
import Derived.Test.YtajkkeikihhejaaGreatJ28
import Derived.Test.YtajkkeikihhejaaGreatImplTypes
open Go.Proofs.Tryz
set_option maxHeartbeats 80000000
namespace Go.Proofs.YtajkkeikihhejaaGreat
open ChangeShapes WideShapes ChangeAt RowKit Maps
open Pl
def H9(ts:Q0b)(w:World)(e:Ending)(w':World):Prop :=
 ((∃(b n:Nat) (σ:Ky->Option Int),e=.returned (.tuple #[.map (some b),.bool true])/\cu ts/\aK dV prog 94 w' b n (jd σ)/\Least ts (fun k=>(σ k).getD 0)/\∀k,(∃x,σ k=some x)↔k∈au ts)\/(e=.returned (.tuple #[.map none,.bool false])/\¬cu ts))/\ae w w'
set_option maxRecDepth 100000 in
theorem wK(ad:Q02)(cap:Nat)(rs:Q06)(w:af)(hlen:rs.length<=1048576)(hs:kU w ad rs)(hl:∀r∈rs,r.light)(hf:∀r∈rs,r.fits)(hcp:∀r∈rs,r.caps):
  Calls prog 91 #[.slice ad rs.length cap] w (H9 (ag rs) w):=by
 have HS:=aC hs;have HL:=aC hl;have Wl:=aC hf;have YL:=aC hcp;clear hs hl hf hcp;go_enter func91,ntmps91;go_wp2_with fail;refine(Hw ad cap rs _ hlen HS.out HL.out Wl.out YL.out).mono ?_;rintro e w1 ⟨rfl,hb1⟩;have HB1:=aC hb1;clear hb1;cases hsh:bu (ag rs);case false=>
  have HP:Hid (H9 (ag rs) w (.returned (.tuple #[.map none,.bool false])) w1):=⟨.inr ⟨rfl,fun h=>by rw[h.1]at hsh;cases hsh⟩,HB1.out⟩;go_wp2;refine bodyPost_ret (v:=.tuple #[.map none,.bool false]) ?_ rfl HP.out;simp[results,Tryz.results91,go_sem]
 have HSH:Hid (bu (ag rs)=true):=hsh;obtain⟨h6,X9,hex⟩:=bF hsh;have XG:Hid (∀r∈rs,r.rows.length<=6):=X9;have HEX:Hid (∀r∈rs,∀q∈r.rows,aL (ak q.rows)=true/\q.rows.length<=15/\∀e∈q.rows,fe q.rows.length e.e.kids):=hex;have HT:Hid (Tab rs (oZ rs)):=o6 hsh;clear hsh X9 hex;go_wp2_with fail;refine(yj ad cap rs _ h6 (HS.out.below HB1.out) XG.out Wl.out).mono ?_;rintro e w2 ⟨rfl,hV2,hb2⟩;have HB2:=jR HB1 hb2;obtain⟨bT,hbT⟩:∃bT,bT=w1.heap.size:=⟨_,rfl⟩;rw[<-hbT]at hV2 ⊢;have Z5:Hid (aK dV prog 94 w2 bT 36 (oZ rs)):=hV2;clear hV2 hb2 hbT HB1;go_wp2_with fail;go_loopw[16] (fun i wr=>∃k:Nat,k<=rs.length/\i=.int .i64 k/\Hid (((ag rs).take k).all (qF (ag rs))=true)/\Hid (ae w wr)/\Hid (aK dV prog 94 wr bT 36 (oZ rs))) (fun i _=>rs.length-(intOf i).toNat);case atStart=>exact⟨0,UY _,rfl,(by show _=_;simp),HB2,Z5⟩
 clear HB2 Z5;obtain⟨k,hk,rfl,HP,HB,HV⟩:=hrel;by_cases hlt:k<rs.length
 ·rcases HS.out.below HB.out with rfl|⟨b,off,rfl,hb,hr,-⟩
  ·simp at hlt
  obtain⟨t0,t1⟩:=hr k hlt;have hk1:=bG k;have hk2:(k:Int)<(rs.length:Int):=by omega
  have h66:=XG.out _ (UR hlt);have z0:rs[k].name.size<=maxLen:=(Wl.out _ (UR hlt)).1;obtain⟨W1,hW1⟩:∃W1,W1=wr.alloc (.cells #[.string rs[k].name,.slice rs[k].ad rs[k].rows.length rs[k].cap] 127):=⟨_,rfl⟩;have hal:ae wr W1:=by rw[hW1];exact(UV _ _).alloc (UU _) _
  obtain⟨g6,ZI⟩:∃g6,g6=wr.heap.size:=⟨_,rfl⟩;have Xr:Hid (W1.cell? ⟨g6,0,none⟩=some (.string rs[k].name)/\g6<W1.heap.size):=⟨by rw[hW1,ZI];simp,by rw[hW1,ZI];simp⟩;have HB1:=jR HB hal;have HV1:=aC (HV.out.below hal);clear hr hal HB HV;go_wp2_with fail;rw[<-hW1,<-ZI];clear hW1 t0 t1 ZI;go_loopw[23] (fun i w3=>∃j:Nat,j<=rs[k].rows.length/\i=.int .i64 j/\Hid (((eZ rs[k].rows).take j).all (fun r=>aW (ag rs) rs[k].name r.expr)=true)/\Hid (ae w w3)/\Hid (aK dV prog 94 w3 bT 36 (oZ rs))/\Hid (w3.cell? ⟨g6,0,none⟩=some (.string rs[k].name)/\g6<w3.heap.size)) (fun i _=>rs[k].rows.length-(intOf i).toNat);case atStart=>exact⟨0,UY _,rfl,(by show _=_;simp),HB1,HV1,Xr⟩
  clear HB1 HV1 Xr;obtain⟨j,hj,rfl,HR,HB,HV,HC⟩:=hrel;by_cases hjl:j<rs[k].rows.length
  ·rcases HS.out.below HB.out with hnil|⟨b',off',he,hb2,hr,hok⟩
   ·rw[hnil]at hlt;simp at hlt
   injection he with he;injection he with he1 he2;subst he1;subst he2;have ok:=hok rs[k] (UR hlt);rcases ok with hnil|⟨b2,Wz,had,hbb,hr2,hok2⟩
   ·rw[hnil]at hjl;simp at hjl
   obtain⟨q0,q1⟩:=hr2 j hjl;have Yv:Hid (gZ wr rs[k].rows[j].ad rs[k].rows[j].rows):=hok2 _ (UR hjl);have YJ:Hid (rs[k].rows[j].light):=(HL.out _ (UR hlt)).2 _ (UR hjl);have YE:Hid (rs[k].rows[j].fits):=(Wl.out _ (UR hlt)).2.2 _ (UR hjl);have HNB:Hid (∀q∈rs[k].rows[j].rows,ax q.e=true):=fun q hq=>iE (HEX.out _ (UR hlt) _ (UR hjl)).1 q.e (by unfold ak;exact Vp hq);have hj1:=bG j;have hj2:(j:Int)<(rs[k].rows.length:Int):=by omega
   obtain⟨x0,x1⟩:=HC.out;obtain⟨W3,hW3⟩:∃W3,W3=wr.alloc (.cells #[.string rs[k].rows[j].name,.slice rs[k].rows[j].ad rs[k].rows[j].rows.length rs[k].rows[j].cap] 147):=⟨_,rfl⟩;have hal:ae wr W3:=by rw[hW3];exact(UV _ _).alloc (UU _) _
   have HB3:=jR HB hal;have HV3:=aC (HV.out.below hal);have Ws:=aC hal;have Z9:Hid (W3.cell? ⟨g6,0,none⟩=some (.string rs[k].name)/\g6<W3.heap.size):=⟨aH hal x1 x0,UT x1 hal.size⟩;have HTS:Hid ((eZ rs[k].rows).take (j+1)=(eZ rs[k].rows).take j++[rs[k].rows[j].p]):=Gv rs[k].rows j hjl;rw[had];clear hr hok hr2 hok2 hal HB HV HC;go_wp2_with fail;rw[<-hW3];clear hW3 q0 q1 x0 x1;refine(AL (some ⟨b,off,none⟩) rs[k].rows[j].ad cap rs[k].rows[j].cap rs bT 36 (oZ rs) rs[k].name rs[k].rows[j].rows _ hlen (HS.out.below HB3.out) HL.out Wl.out HV3.out HT.out z0 YJ.out.1 (Yv.out.below Ws.out) YJ.out.2 YE.out.2.2 HNB.out).mono ?_;rintro e w5 ⟨rfl,hb5⟩;have Xt:=jR HB3 hb5;have HV5:=aC (HV3.out.below hb5);have HC5:Hid (w5.cell? ⟨g6,0,none⟩=some (.string rs[k].name)/\g6<w5.heap.size):=⟨aH hb5 Z9.out.2 Z9.out.1,UT Z9.out.2 hb5.size⟩;clear hb5;cases hrf:aW (ag rs) rs[k].name (ak rs[k].rows[j].rows);case false=>
    have HPO:Hid (H9 (ag rs) w (.returned (.tuple #[.map none,.bool false])) w5):=by
     refine⟨.inr ⟨rfl,fun hs=>?_⟩,Xt.out⟩;have h1:=hs.2.1;unfold iL at h1;rw[U5]at h1;have h2:=h1 rs[k].p (by unfold ag;exact Vp (UR hlt));unfold qF at h2;rw[U5]at h2;have h3:=h2 rs[k].rows[j].p (by show _∈eZ rs[k].rows;unfold eZ;exact Vp (UR hjl));have h4:aW (ag rs) rs[k].name (ak rs[k].rows[j].rows)=true:=h3;rw[hrf]at h4;cases h4
    go_wp2;refine bodyPost_ret (v:=.tuple #[.map none,.bool false]) ?_ rfl HPO.out;simp[results,Tryz.results91,go_sem]
   have XW:Hid (((eZ rs[k].rows).take (j+1)).all (fun r=>aW (ag rs) rs[k].name r.expr)=true):=by
    show _=_;rw[HTS.out,VV,HR.out];have:aW (ag rs) rs[k].name rs[k].rows[j].p.expr=true:=hrf;simp[this]
   go_wp2;go_roundw;case rel=>exact⟨j+1,by omega,by go_num,XW,Xt,HV5,HC5⟩
   simp[intOf]<;>omega
  obtain rfl:j=rs[k].rows.length:=by omega
  have HPN:Hid (((ag rs).take (k+1)).all (qF (ag rs))=true):=by
   show _=_;rw[Gu rs k hlt,VV,HP.out];have h1:=HR.out;rw[<-rE,Va]at h1;have:qF (ag rs) rs[k].p=true:=h1;simp[this]
  go_wp2;go_roundw;case rel=>exact⟨k+1,by omega,by go_num,HPN,HB,HV⟩
  simp[intOf]<;>omega
 obtain rfl:k=rs.length:=by omega
 have YX:Hid (iL (ag rs)=true):=by
  have h1:=HP.out;rw[<-lF,Va]at h1;exact h1
 go_wp2_with fail;refine(Cn ad cap rs bT 36 (oZ rs) _ h6 (HS.out.below HB.out) HL.out Wl.out XG.out (fun r hr q hq=>(HEX.out r hr q hq).2) (Qn HSH.out) HV.out HT.out).mono ?_;rintro e w5 ⟨rfl,⟨nL,ML,hG5⟩,hb5⟩;have Xt:=jR HB hb5;have HG5:Hid (Grp w5 wr.heap.size nL ML (jv (ag rs) rs)):=hG5;clear hG5 hb5;go_wp2_with fail;refine(yU ad cap rs wr.heap.size nL ML (jv (ag rs) rs) _ h6 (HS.out.below Xt.out) Wl.out XG.out HG5.out (RQ HSH.out YX.out) (jM YX.out) (Np rs XG.out HEX.out (Qn HSH.out))).mono ?_;rintro e w6 ⟨hL,hb6⟩;have YF:=jR Xt hb6;clear hb6;rcases hL with⟨bS,nS,σ,rfl,hM,XH,hk⟩|⟨rfl,hno⟩
 ·have HPO:Hid (H9 (ag rs) w (.returned (.tuple #[.map (some bS),.bool true])) w6):=⟨.inl ⟨bS,nS,σ,rfl,⟨HSH.out,YX.out,_,XH.sol⟩,hM,XH,hk⟩,YF.out⟩;clear hM XH hk;go_wp2;refine bodyPost_ret (v:=.tuple #[.map (some bS),.bool true]) ?_ rfl HPO.out;simp[results,Tryz.results91,go_sem]
 have HPO:Hid (H9 (ag rs) w (.returned (.tuple #[.map none,.bool false])) w6):=⟨.inr ⟨rfl,fun h=>hno h.2.2⟩,YF.out⟩;clear hno;go_wp2;refine bodyPost_ret (v:=.tuple #[.map none,.bool false]) ?_ rfl HPO.out;simp[results,Tryz.results91,go_sem]
def sW(ts:Q0b)(oa ob r c d s:ByteArray):Bool:=dJ (aX (aB ts oa r)) (aX (aB ts oa r)).length ⟨c,s⟩&&cO oa ob r c d s
theorem Ia:∀{es:Q09} (a:Al),own es=0->es.any (nG a)=false
 | [],_,_=>rfl
 | e::es,a,h=>by
  by_cases h1:e.kind=1
  ·simp[own,h1]at h
  rw[VY,Ia a (by simpa[own,h1] using h)];simp[nG,h1]
theorem Ib:∀{es:Q09} (a:Al),own es<=1->es.any (nG a)=dJ (aX es) (aX es).length a
 | [],_,_=>rfl
 | e::es,a,h=>by
  by_cases h1:e.kind=1
  ·rw[VY,Ia a (by simp[own,h1]at h;simpa[own] using h)];simp[nG,h1,aX]
  rw[VY,Ib a (by simpa[own,h1] using h)];simp[nG,h1,aX]
theorem Nt{xs:Q0a}{a:Al}{k:Nat}(h:k<xs.length)(hk:jV xs[k] a=true):dJ xs xs.length a=true:=by
 unfold dJ;rw[Va,Vk];exact⟨_,UR h,hk⟩
def Ec(ts:Q0b)(oa ob r c d s:ByteArray):Bool:=aM ts&&sW ts oa ob r c d s
theorem TM{es:Q09}(h:aL es=true):own es<=1:=by
 unfold aL at h;simp at h;omega
theorem RV{rs:Q06}(h:cu (ag rs))(ty n:bQ):own (aB (ag rs) ty n)<=1:=by
 unfold aB;cases e:eG (ag rs) ty n with
 | none=>simp[own]
 | some es =>
  obtain⟨t,ht,q,hq,-,-,rfl⟩:=qJ e;exact TM ((bF h.1).2.2 t ht q hq).1
set_option maxRecDepth 100000 in
theorem BP(ad:Q02)(cap:Nat)(rs:Q06)(oa ob r c d s:bQ)(w:af)(hlen:rs.length<=1048576)(hs:kU w ad rs)(hl:∀r∈rs,r.light)(ha:oa.size<=maxLen)(hb:ob.size<=maxLen)(hr:r.size<=maxLen)(hc:c.size<=maxLen)(hd:d.size<=maxLen)(hz:s.size<=maxLen):
  Calls prog 94 #[.slice ad rs.length cap,.agg #[.string oa,.string ob,.string r,.string c,.string d,.string s]] w fun e w'=>e=.returned (.bool (sW (ag rs) oa ob r c d s))/\ae w w':=by
 have HS:=aC hs;have HL:=aC hl;clear hs hl;obtain⟨W0,hW0⟩:∃W0,W0=w.alloc (.cells #[.string oa,.string ob,.string r,.string c,.string d,.string s] 46):=⟨_,rfl⟩;have hal:ae w W0:=by rw[hW0];exact(UV _ _).alloc (UU _) _
 have HB0:=aC hal;have Xg:Hid (W0.cell? ⟨w.heap.size,0,none⟩=some (.string oa)/\W0.cell? ⟨w.heap.size,1,none⟩=some (.string ob)/\W0.cell? ⟨w.heap.size,2,none⟩=some (.string r)/\W0.cell? ⟨w.heap.size,3,none⟩=some (.string c)/\W0.cell? ⟨w.heap.size,4,none⟩=some (.string d)/\W0.cell? ⟨w.heap.size,5,none⟩=some (.string s)/\w.heap.size<W0.heap.size):=by
  show _/\_;rw[hW0];refine⟨?_,?_,?_,?_,?_,?_,?_⟩<;>simp
 clear hal;go_enter func94,ntmps94;go_wp2_with fail;rw[<-hW0];clear hW0;refine(iK ad cap rs oa r _ hlen (HS.out.below HB0.out) HL.out).mono ?_;rintro e w1 ⟨⟨rows,V5,capE,rfl,hex,hse,hfr⟩,hw1⟩;replace hw1:=hw1.symm;subst hw1;have HX:Hid (ak rows=aB (ag rs) oa r):=hex;have Yv:=aC hse;have WR:=hfr.light HL.out;have hrl:rows.length<=1048576:=WR.1;have YJ:Hid (∀q∈rows,q.e.light):=WR.2;clear hex hse hfr WR;go_wp2_with fail;refine(xY V5 capE rows _ hrl Yv.out).mono ?_;rintro e w1 ⟨⟨adA,capA,rfl,hsa,hfa⟩,hw1⟩;replace hw1:=hw1.symm;subst hw1;obtain⟨xs,hxs⟩:∃xs,xs=aX (ak rows):=⟨_,rfl⟩;rw[<-hxs]at hsa hfa ⊢;have Zb:Hid (xs=aX (aB (ag rs) oa r)):=by rw[<-HX.out];exact hxs
 have HSA:=aC hsa;have hxl:xs.length<=1048576:=by
  rcases hfa with h|⟨q,hq,h,-⟩
  ·rw[h];simp
  rw[h];exact(YJ.out q hq).1
 clear hxs hsa hfa YJ Yv HX;go_wp2;go_loopw[6] (fun i wr=>∃k:Nat,k<=xs.length/\i=.int .i64 k/\Hid (dJ xs k ⟨c,s⟩=false)/\Hid (ae W0 wr)) (fun i _=>xs.length-(intOf i).toNat);case atStart=>exact⟨0,UY _,rfl,tL _ _,UV _ _⟩
 obtain⟨k,hk,rfl,HP,HB⟩:=hrel;have V9:Hid (ae w wr):=HB0.out.trans (HB.out.mono HB0.out.size);by_cases hlt:k<xs.length
 ·rcases HSA.out.below HB.out with hnil|⟨b,off,rfl,hb5,hr5⟩
  ·rw[hnil]at hlt;simp at hlt
  obtain⟨t0,t1⟩:=hr5 k hlt;have hk1:=bG k;have hk2:(k:Int)<(xs.length:Int):=by omega
  have hwl:w.heap.size<wr.heap.size:=UT Xg.out.2.2.2.2.2.2 HB.out.size;have c0:=aH HB.out Xg.out.2.2.2.2.2.2 Xg.out.1;have c1:=aH HB.out Xg.out.2.2.2.2.2.2 Xg.out.2.1;have c2:=aH HB.out Xg.out.2.2.2.2.2.2 Xg.out.2.2.1;have c3:=aH HB.out Xg.out.2.2.2.2.2.2 Xg.out.2.2.2.1;have c4:=aH HB.out Xg.out.2.2.2.2.2.2 Xg.out.2.2.2.2.1;have c5:=aH HB.out Xg.out.2.2.2.2.2.2 Xg.out.2.2.2.2.2.1;have HSU:Hid (dJ xs (k+1) ⟨c,s⟩=jV xs[k] ⟨c,s⟩):=by show _=_;rw[tK _ _ _ hlt,HP.out];rfl
  clear hr5;go_wp2_with fail;cases h1:(xs[k].t.toList==c.toList);case false=>
   refine nC 19 (fun n=>(u21::u22::u23::u24::u25::u26::u27::u28::u29::u30::u31::u32::u33::u34::u35::u36::u37::u38::u39::[]).getD n undef) (fun fq=>{ tmps:=List.toArray (Value.slice ad rs.length cap::.agg #[.string oa,.string ob,.string r,.string c,.string d,.string s]::undef::.pointer (some ⟨w.heap.size,0,none⟩)::u4::.slice (some ⟨b,off,none⟩) xs.length capA::.int .i64 k::.slice ad rs.length cap::.pointer (some ⟨w.heap.size,0,none⟩)::.pointer (some ⟨w.heap.size,0,none⟩)::.string oa::.pointer (some ⟨w.heap.size,2,none⟩)::.string r::.slice V5 rows.length capE::.slice (some ⟨b,off,none⟩) xs.length capA::.int .i64 k::.slice (some ⟨b,off,none⟩) xs.length capA::.int .i64 xs.length::.bool true::u19::u20::fq 0::fq 1::fq 2::fq 3::fq 4::fq 5::fq 6::fq 7::fq 8::fq 9::fq 10::fq 11::fq 12::fq 13::fq 14::fq 15::fq 16::fq 17::fq 18::u40::u41::[]),defers:=[] }) (fun n v _=>v=(Value.slice (some ⟨b,off,none⟩) xs.length capA::.int .i64 k::.pointer (some ⟨b,off+k*2,none⟩)::.pointer (some ⟨b,off+k*2,none⟩)::.string xs[k].t::.pointer (some ⟨w.heap.size,3,none⟩)::.pointer (some ⟨w.heap.size,3,none⟩)::.string c::.bool false::.bool false::undef::undef::undef::undef::undef::undef::undef::undef::.bool false::[]).getD n undef) (fun w'=>ae wr w') (by kernel_rfl) rfl (by kernel_rfl) rfl (UV _ _).drew ?stepA ?finA;case stepA =>
    rintro i hi o ho fq w' hG hpre;have HG:Hid (ae wr w'):=hG;replace t0:=aH hG hb5 t0;replace t1:=aH hG hb5 t1;replace c3:=aH hG hwl c3;replace c5:=aH hG hwl c5;have HM:Hid (∀e∈o.after,Region.binds .any e=true->_):=hpre;clear hG hpre;have hc:=KI (i:=i) (by omega);clear hi
    repeat' rcases hc with rfl|hc
    iterate 19
     ·cases ho;have hm:=HM.out
      try simp[Region.binds]at hm
      refine aa rfl fun K HK=>?_;clear HM
      try simp only[hm]
      go_simp;exact HK.out _ _ ⟨_,by simp[upd, *],HG.out,rfl,fun k u hu=>hu⟩
   case finA =>
    rintro fq w' hG hall;have e18:fq 18=.bool false:=hall 18 (by omega);have HG:Hid (ae wr w'):=hG;clear hall;clear hG;have HB2:Hid (ae W0 w'):=HB.out.trans (HG.out.mono HB.out.size);have Wj:Hid (dJ xs (k+1) ⟨c,s⟩=false):=by show _=_;rw[HSU.out];simp[jV,h1]
    rw[e18];go_wp2;go_roundw;case rel=>exact⟨k+1,by omega,by go_num,Wj,HB2⟩
    simp[intOf]<;>omega
  cases h2:(xs[k].s.toList==s.toList);case false=>
   refine nC 19 (fun n=>(u21::u22::u23::u24::u25::u26::u27::u28::u29::u30::u31::u32::u33::u34::u35::u36::u37::u38::u39::[]).getD n undef) (fun fq=>{ tmps:=List.toArray (Value.slice ad rs.length cap::.agg #[.string oa,.string ob,.string r,.string c,.string d,.string s]::undef::.pointer (some ⟨w.heap.size,0,none⟩)::u4::.slice (some ⟨b,off,none⟩) xs.length capA::.int .i64 k::.slice ad rs.length cap::.pointer (some ⟨w.heap.size,0,none⟩)::.pointer (some ⟨w.heap.size,0,none⟩)::.string oa::.pointer (some ⟨w.heap.size,2,none⟩)::.string r::.slice V5 rows.length capE::.slice (some ⟨b,off,none⟩) xs.length capA::.int .i64 k::.slice (some ⟨b,off,none⟩) xs.length capA::.int .i64 xs.length::.bool true::u19::u20::fq 0::fq 1::fq 2::fq 3::fq 4::fq 5::fq 6::fq 7::fq 8::fq 9::fq 10::fq 11::fq 12::fq 13::fq 14::fq 15::fq 16::fq 17::fq 18::u40::u41::[]),defers:=[] }) (fun n v _=>v=(Value.slice (some ⟨b,off,none⟩) xs.length capA::.int .i64 k::.pointer (some ⟨b,off+k*2,none⟩)::.pointer (some ⟨b,off+k*2,none⟩)::.string xs[k].t::.pointer (some ⟨w.heap.size,3,none⟩)::.pointer (some ⟨w.heap.size,3,none⟩)::.string c::.bool true::.bool true::.slice (some ⟨b,off,none⟩) xs.length capA::.int .i64 k::.pointer (some ⟨b,off+k*2,none⟩)::.pointer (some ⟨b,off+k*2+1,none⟩)::.string xs[k].s::.pointer (some ⟨w.heap.size,5,none⟩)::.string s::.bool false::.bool false::[]).getD n undef) (fun w'=>ae wr w') (by kernel_rfl) rfl (by kernel_rfl) rfl (UV _ _).drew ?yu ?finB;case yu =>
    rintro i hi o ho fq w' hG hpre;have HG:Hid (ae wr w'):=hG;replace t0:=aH hG hb5 t0;replace t1:=aH hG hb5 t1;replace c3:=aH hG hwl c3;replace c5:=aH hG hwl c5;have HM:Hid (∀e∈o.after,Region.binds .any e=true->_):=hpre;clear hG hpre;have hc:=KI (i:=i) (by omega);clear hi
    repeat' rcases hc with rfl|hc
    iterate 19
     ·cases ho;have hm:=HM.out
      try simp[Region.binds]at hm
      refine aa rfl fun K HK=>?_;clear HM
      try simp only[hm]
      go_simp;exact HK.out _ _ ⟨_,by simp[upd, *],HG.out,rfl,fun k u hu=>hu⟩
   case finB =>
    rintro fq w' hG hall;have e18:fq 18=.bool false:=hall 18 (by omega);have HG:Hid (ae wr w'):=hG;clear hall;clear hG;have HB2:Hid (ae W0 w'):=HB.out.trans (HG.out.mono HB.out.size);have Wj:Hid (dJ xs (k+1) ⟨c,s⟩=false):=by show _=_;rw[HSU.out];simp[jV,h1,h2]
    rw[e18];go_wp2;go_roundw;case rel=>exact⟨k+1,by omega,by go_num,Wj,HB2⟩
    simp[intOf]<;>omega
  refine nC 19 (fun n=>(u21::u22::u23::u24::u25::u26::u27::u28::u29::u30::u31::u32::u33::u34::u35::u36::u37::u38::u39::[]).getD n undef) (fun fq=>{ tmps:=List.toArray (Value.slice ad rs.length cap::.agg #[.string oa,.string ob,.string r,.string c,.string d,.string s]::undef::.pointer (some ⟨w.heap.size,0,none⟩)::u4::.slice (some ⟨b,off,none⟩) xs.length capA::.int .i64 k::.slice ad rs.length cap::.pointer (some ⟨w.heap.size,0,none⟩)::.pointer (some ⟨w.heap.size,0,none⟩)::.string oa::.pointer (some ⟨w.heap.size,2,none⟩)::.string r::.slice V5 rows.length capE::.slice (some ⟨b,off,none⟩) xs.length capA::.int .i64 k::.slice (some ⟨b,off,none⟩) xs.length capA::.int .i64 xs.length::.bool true::u19::u20::fq 0::fq 1::fq 2::fq 3::fq 4::fq 5::fq 6::fq 7::fq 8::fq 9::fq 10::fq 11::fq 12::fq 13::fq 14::fq 15::fq 16::fq 17::fq 18::u40::u41::[]),defers:=[] }) (fun n v _=>v=(Value.slice (some ⟨b,off,none⟩) xs.length capA::.int .i64 k::.pointer (some ⟨b,off+k*2,none⟩)::.pointer (some ⟨b,off+k*2,none⟩)::.string xs[k].t::.pointer (some ⟨w.heap.size,3,none⟩)::.pointer (some ⟨w.heap.size,3,none⟩)::.string c::.bool true::.bool true::.slice (some ⟨b,off,none⟩) xs.length capA::.int .i64 k::.pointer (some ⟨b,off+k*2,none⟩)::.pointer (some ⟨b,off+k*2+1,none⟩)::.string xs[k].s::.pointer (some ⟨w.heap.size,5,none⟩)::.string s::.bool true::.bool true::[]).getD n undef) (fun w'=>ae wr w') (by kernel_rfl) rfl (by kernel_rfl) rfl (UV _ _).drew ?stepC ?finC;case stepC =>
   rintro i hi o ho fq w' hG hpre;have HG:Hid (ae wr w'):=hG;replace t0:=aH hG hb5 t0;replace t1:=aH hG hb5 t1;replace c3:=aH hG hwl c3;replace c5:=aH hG hwl c5;have HM:Hid (∀e∈o.after,Region.binds .any e=true->_):=hpre;clear hG hpre;have hc:=KI (i:=i) (by omega);clear hi
   repeat' rcases hc with rfl|hc
   iterate 19
    ·cases ho;have hm:=HM.out
     try simp[Region.binds]at hm
     refine aa rfl fun K HK=>?_;clear HM
     try simp only[hm]
     go_simp;exact HK.out _ _ ⟨_,by simp[upd, *],HG.out,rfl,fun k u hu=>hu⟩
  case finC =>
   rintro fq w' hG hall;have e18:fq 18=.bool true:=hall 18 (by omega);have HG:Hid (ae wr w'):=hG;clear hall;replace c0:=aH hG hwl c0;replace c1:=aH hG hwl c1;replace c2:=aH hG hwl c2;replace c3:=aH hG hwl c3;replace c4:=aH hG hwl c4;replace c5:=aH hG hwl c5;clear hG;rw[e18];have HN:Hid (sW (ag rs) oa ob r c d s=cO oa ob r c d s):=by show _=_;unfold sW;rw[<-Zb.out,Nt hlt (by simp[jV,h1,h2])];rfl
   go_wp2_with fail;refine(d9 oa ob r c d s _ ha hb hr hc hd hz).mono ?_;rintro e w2 ⟨rfl,hb2⟩;have HB2:Hid (ae w w2):=V9.out.trans ((HG.out.mono V9.out.size).trans (hb2.mono (U0 V9.out.size HG.out.size)));clear hb2;go_wp2;go_ret;exact⟨by rw[HN.out];rfl,HB2.out⟩
 obtain rfl:k=xs.length:=by omega
 have HN:Hid (sW (ag rs) oa ob r c d s=false):=by show _=_;unfold sW;rw[<-Zb.out,HP.out];rfl
 go_wp2;go_ret;exact⟨by rw[HN.out];rfl,V9.out⟩
set_option linter.unusedVariables false
set_option maxRecDepth 100000
def gM(rs:Q06)(t:Tp):Bool:=sW (ag rs) t.a t.b t.r t.c t.d t.s
theorem xN{rs:Q06}{t:Tp}(h:aM (ag rs)=true)(ht:t.ok=true):yG (ag rs) t.a t.r ⟨t.c,t.s⟩=gM rs t:=by
 have hSP:=bq.1 h;have h1:yG (ag rs) t.a t.r ⟨t.c,t.s⟩=dJ (aX (aB (ag rs) t.a t.r)) (aX (aB (ag rs) t.a t.r)).length ⟨t.c,t.s⟩:=Ib _ (RV hSP _ _);have h2:cO t.a t.b t.r t.c t.d t.s=true:=ht;rw[h1];unfold gM sW;rw[h2,Bool.and_true]
theorem Qr{p:Tp->Bool}{ts:Q05}{k:Nat}(h:k<ts.length):(ts.drop k).all p=(p ts[k]&&(ts.drop (k+1)).all p):=by rw[Vl h];rfl
theorem yH(ad:Q02)(cap:Nat)(rs:Q06)(We:Q02)(cap':Nat)(ts:Q05)(w:af)(hlen:rs.length<=1048576)(hs:kU w ad rs)(hl:∀r∈rs,r.light)(hfr:∀r∈rs,r.fits)(hlt:ts.length<=1048576)(hst:Sl w We ts)(hft:∀x∈ts,x.fits):
  Calls prog 55 #[.slice ad rs.length cap,.slice We ts.length cap'] w fun e w'=>e=.returned (.bool (aV (gM rs) rs ts))/\ae w w':=by
 have HS:=aj hs;have HL:=aj hl;have XP:=aj hfr;have HST:=aj hst;have Wl:=aj hft;have WH:ts.length<=maxLen:=by unfold maxLen;omega
 clear hs hl hfr hst hft;go_enter func55,ntmps55;go_wp2_with fail;refine(j5 ad cap rs _ hlen HS.out HL.out XP.out).mono ?_;rintro e w1 ⟨he,hb1⟩;have HB1:=aj hb1;clear hb1;cases h1:aM (ag rs);case false=>
  rw[h1]at he;subst he;have HN:Hid (aV (gM rs) rs ts=false):=by show _=_;unfold aV;rw[h1];rfl
  clear h1;go_wp2;go_ret;exact⟨by rw[HN.out];rfl,HB1.out⟩
 rw[h1]at he;subst he;have H1:=aj h1;clear h1;go_wp2_with fail;refine(oh We cap' ts _ WH (HST.out.below HB1.out) Wl.out).mono ?_;rintro e w2 ⟨he,hb2⟩;have HB2:=aj (HB1.out.trans (hb2.mono HB1.out.size));clear hb2 HB1;cases h2:dO ts;case false=>
  rw[h2]at he;subst he;have HN:Hid (aV (gM rs) rs ts=false):=by show _=_;unfold aV;rw[h2,Bool.and_false];rfl
  clear h2;go_wp2;go_ret;exact⟨by rw[HN.out];rfl,HB2.out⟩
 rw[h2]at he;subst he;have HN:Hid (aV (gM rs) rs ts=ts.all (gM rs)):=by show _=_;unfold aV;rw[H1.out,h2];rfl
 clear h2 H1;go_wp2;go_loopw[5] (fun i wr=>∃k:Nat,k<=ts.length/\i=.int .i64 k/\Hid ((ts.drop k).all (gM rs)=ts.all (gM rs))/\Hid (ae w wr)) (fun i _=>ts.length-(intOf i).toNat);case atStart=>exact⟨0,UY _,rfl,rfl,HB2⟩
 clear HB2;obtain⟨k,hk,rfl,HP,HB⟩:=hrel;by_cases hlt2:k<ts.length
 ·obtain⟨b,off,V6,⟨t0,t1,t2,t3,t4,t5⟩,hb⟩:=Sl.at0 (HST.out.below HB.out) hlt2;have hk1:=bG k;have hk2:(k:Int)<(ts.length:Int):=by omega
  obtain⟨f0,f1,f2,f3,f4,f5⟩:=Wl.out _ (UR hlt2);have HD:Hid (ts.all (gM rs)=(gM rs ts[k]&&(ts.drop (k+1)).all (gM rs))):=by show _=_;rw[<-HP.out];exact Qr hlt2
  obtain⟨x,hx⟩:∃x,x=ts[k]:=⟨_,rfl⟩;rw[<-hx]at t0 t1 t2 t3 t4 t5 f0 f1 f2 f3 f4 f5 HD;have HLF:=aj (BP ad cap rs x.a x.b x.r x.c x.d x.s wr hlen (HS.out.below HB.out) HL.out f0 f1 f2 f3 f4 f5);subst V6;clear hx;go_wp2_with fail;refine HLF.out.mono ?_;rintro e w3 ⟨he,hb3⟩;have HB3:=aj (HB.out.trans (hb3.mono HB.out.size));clear hb3 HLF t0 t1 t2 t3 t4 t5;cases h5:sW (ag rs) x.a x.b x.r x.c x.d x.s;case true=>
   rw[h5]at he;subst he;have Wj:Hid ((ts.drop (k+1)).all (gM rs)=ts.all (gM rs)):=by show _=_;rw[HD.out];unfold gM at *;rw[h5];rfl
   clear h5;go_wp2;go_roundw;case rel=>exact⟨k+1,by omega,by go_num,Wj,HB3⟩
   simp[intOf]<;>omega
  rw[h5]at he;subst he;have YG:Hid (aV (gM rs) rs ts=false):=by show _=_;rw[HN.out,HD.out];unfold gM at *;rw[h5];rfl
  clear h5;go_wp2;go_ret;exact⟨by rw[YG.out];rfl,HB3.out⟩
 have YG:Hid (aV (gM rs) rs ts=true):=by show _=_;rw[HN.out,<-HP.out,Vf (by omega)];rfl
 go_wp2;go_ret;exact⟨by rw[YG.out];rfl,HB.out⟩
end Go.Proofs.YtajkkeikihhejaaGreat
