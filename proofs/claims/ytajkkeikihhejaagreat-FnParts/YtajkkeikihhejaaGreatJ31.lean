/- Contract of the program's function on strata. -/
import Derived.Test.YtajkkeikihhejaaGreatSq
import Derived.Test.YtajkkeikihhejaaGreatJ30
import Derived.Test.YtajkkeikihhejaaGreatImplTypes
open Go.Proofs.Tryz
set_option maxHeartbeats 80000000
namespace Go.Proofs.YtajkkeikihhejaaGreat
open Go.ChangeShapes Go.WideShapes Go.ChangeAt Go.RowKit Go.Maps
open Pl
def GY (ts:List Ty)(w:World)(e:Ending)(w':World):Prop :=
 ((∃ (b n:Nat) (σ:Ky->Option Int),e=.returned (.tuple #[.map (some b),.bool true])/\bW ts/\aO dS prog 94 w' b n (iY σ)/\Least ts (fun k=>(σ k).getD 0)/\∀ k,(∃ x,σ k=some x) ↔ k∈ak ts)\/(e=.returned (.tuple #[.map none,.bool false])/\¬ bW ts))/\ag w w'
set_option maxRecDepth 100000 in
theorem vY (ad:Option Addr)(cap:Nat)(rs:List TR)(w:af)(hlen:rs.length<=1048576)(hs:kX w ad rs)(hl:∀ r∈rs,r.light)(hf:∀ r∈rs,r.fits)(hcp:∀ r∈rs,r.caps) :
  Calls prog 91 #[.slice ad rs.length cap] w (GY (ae rs) w):=by
 have HS:=aA hs;have HL:=aA hl;have UY:=aA hf;have Xk:=aA hcp;clear hs hl hf hcp;go_enter func91,ntmps91;go_wp2_with fail;refine (Gr ad cap rs _ hlen HS.out HL.out UY.out Xk.out).mono ?_;rintro e w1 ⟨rfl,hb1⟩;have HB1:=aA hb1;clear hb1;cases hsh:bi (ae rs);case false=>
  have HP:Hid (GY (ae rs) w (.returned (.tuple #[.map none,.bool false])) w1):=⟨.inr ⟨rfl,fun h=>by rw [h.1]at hsh;cases hsh⟩,HB1.out⟩;go_wp2;refine bodyPost_ret (v:=.tuple #[.map none,.bool false]) ?_ rfl HP.out;simp [results,Tryz.results91,go_sem]
 have HSH:Hid (bi (ae rs)=true):=hsh;obtain ⟨h6,Ww,hex⟩:=bu hsh;have Wt:Hid (∀ r∈rs,r.rows.length<=6):=Ww;have ZJ:Hid (∀ r∈rs,∀ q∈r.rows,aK (aj q.rows)=true/\q.rows.length<=15/\∀ e∈q.rows,dW q.rows.length e.e.kids):=hex;have HT:Hid (Tab rs (nZ rs)):=wK hsh;clear hsh Ww hex;go_wp2_with fail;refine (qK ad cap rs _ h6 (HS.out.below HB1.out) Wt.out UY.out).mono ?_;rintro e w2 ⟨rfl,hV2,hb2⟩;have HB2:=jP HB1 hb2;obtain ⟨bT,hbT⟩:∃ bT,bT=w1.heap.size:=⟨_,rfl⟩;rw [<-hbT]at hV2 ⊢;have Zh:Hid (aO dS prog 94 w2 bT 36 (nZ rs)):=hV2;clear hV2 hb2 hbT HB1;go_wp2_with fail;go_loopw [16] (fun i wr=>∃ k:Nat,k<=rs.length/\i=.int .i64 k/\Hid (((ae rs).take k).all (qH (ae rs))=true)/\Hid (ag w wr)/\Hid (aO dS prog 94 wr bT 36 (nZ rs))) (fun i _=>rs.length-(intOf i).toNat);case atStart=>exact ⟨0,Ui _,rfl,(by show _=_;simp),HB2,Zh⟩
 clear HB2 Zh;obtain ⟨k,hk,rfl,HP,HB,HV⟩:=hrel;by_cases hlt:k<rs.length
 ·rcases HS.out.below HB.out with rfl|⟨b,off,rfl,hb,hr,-⟩
  ·simp at hlt
  obtain ⟨t0,t1⟩:=hr k hlt;have hk1:=bF k;have hk2:(k:Int)<(rs.length:Int):=by omega
  have h66:=Wt.out _ (Ud hlt);have z0:rs[k].name.size<=maxLen:=(UY.out _ (Ud hlt)).1;obtain ⟨W1,hW1⟩:∃ W1,W1=wr.alloc (.cells #[.string rs[k].name,.slice rs[k].ad rs[k].rows.length rs[k].cap] 127):=⟨_,rfl⟩;have hal:ag wr W1:=by rw [hW1];exact (Uf _ _).alloc (Ue _) _
  obtain ⟨g6,Yk⟩:∃ g6,g6=wr.heap.size:=⟨_,rfl⟩;have VS:Hid (W1.cell? ⟨g6,0,none⟩=some (.string rs[k].name)/\g6<W1.heap.size):=⟨by rw [hW1,Yk];simp,by rw [hW1,Yk];simp⟩;have HB1:=jP HB hal;have HV1:=aA (HV.out.below hal);clear hr hal HB HV;go_wp2_with fail;rw [<-hW1,<-Yk];clear hW1 t0 t1 Yk;go_loopw [23] (fun i w3=>∃ j:Nat,j<=rs[k].rows.length/\i=.int .i64 j/\Hid (((eF rs[k].rows).take j).all (fun r=>aS (ae rs) rs[k].name r.expr)=true)/\Hid (ag w w3)/\Hid (aO dS prog 94 w3 bT 36 (nZ rs))/\Hid (w3.cell? ⟨g6,0,none⟩=some (.string rs[k].name)/\g6<w3.heap.size)) (fun i _=>rs[k].rows.length-(intOf i).toNat);case atStart=>exact ⟨0,Ui _,rfl,(by show _=_;simp),HB1,HV1,VS⟩
  clear HB1 HV1 VS;obtain ⟨j,hj,rfl,HR,HB,HV,HC⟩:=hrel;by_cases hjl:j<rs[k].rows.length
  ·rcases HS.out.below HB.out with hnil|⟨b',off',he,hb2,hr,hok⟩
   ·rw [hnil]at hlt;simp at hlt
   injection he with he;injection he with he1 he2;subst he1;subst he2;have ok:=hok rs[k] (Ud hlt);rcases ok with hnil|⟨b2,Vb,had,hbb,hr2,hok2⟩
   ·rw [hnil]at hjl;simp at hjl
   obtain ⟨q0,q1⟩:=hr2 j hjl;have WU:Hid (iC wr rs[k].rows[j].ad rs[k].rows[j].rows):=hok2 _ (Ud hjl);have WV:Hid (rs[k].rows[j].light):=(HL.out _ (Ud hlt)).2 _ (Ud hjl);have WZ:Hid (rs[k].rows[j].fits):=(UY.out _ (Ud hlt)).2.2 _ (Ud hjl);have HNB:Hid (∀ q∈rs[k].rows[j].rows,av q.e=true):=fun q hq=>jo (ZJ.out _ (Ud hlt) _ (Ud hjl)).1 q.e (by unfold aj;exact List.mem_map_of_mem hq);have hj1:=bF j;have hj2:(j:Int)<(rs[k].rows.length:Int):=by omega
   obtain ⟨x0,x1⟩:=HC.out;obtain ⟨W3,hW3⟩:∃ W3,W3=wr.alloc (.cells #[.string rs[k].rows[j].name,.slice rs[k].rows[j].ad rs[k].rows[j].rows.length rs[k].rows[j].cap] 147):=⟨_,rfl⟩;have hal:ag wr W3:=by rw [hW3];exact (Uf _ _).alloc (Ue _) _
   have HB3:=jP HB hal;have HV3:=aA (HV.out.below hal);have U2:=aA hal;have XT:Hid (W3.cell? ⟨g6,0,none⟩=some (.string rs[k].name)/\g6<W3.heap.size):=⟨aH hal x1 x0,Uc x1 hal.size⟩;have HTS:Hid ((eF rs[k].rows).take (j+1)=(eF rs[k].rows).take j++[rs[k].rows[j].p]):=F7 rs[k].rows j hjl;rw [had];clear hr hok hr2 hok2 hal HB HV HC;go_wp2_with fail;rw [<-hW3];clear hW3 q0 q1 x0 x1;refine (Aw (some ⟨b,off,none⟩) rs[k].rows[j].ad cap rs[k].rows[j].cap rs bT 36 (nZ rs) rs[k].name rs[k].rows[j].rows _ hlen (HS.out.below HB3.out) HL.out UY.out HV3.out HT.out z0 WV.out.1 (WU.out.below U2.out) WV.out.2 WZ.out.2.2 HNB.out).mono ?_;rintro e w5 ⟨rfl,hb5⟩;have V9:=jP HB3 hb5;have HV5:=aA (HV3.out.below hb5);have Xl:Hid (w5.cell? ⟨g6,0,none⟩=some (.string rs[k].name)/\g6<w5.heap.size):=⟨aH hb5 XT.out.2 XT.out.1,Uc XT.out.2 hb5.size⟩;clear hb5;cases hrf:aS (ae rs) rs[k].name (aj rs[k].rows[j].rows);case false=>
    have HPO:Hid (GY (ae rs) w (.returned (.tuple #[.map none,.bool false])) w5):=by
     refine ⟨.inr ⟨rfl,fun hs=>?_⟩,V9.out⟩;have h1:=hs.2.1;unfold iH at h1;rw [Un]at h1;have h2:=h1 rs[k].p (by unfold ae;exact List.mem_map_of_mem (Ud hlt));unfold qH at h2;rw [Un]at h2;have h3:=h2 rs[k].rows[j].p (by show _∈eF rs[k].rows;unfold eF;exact List.mem_map_of_mem (Ud hjl));have h4:aS (ae rs) rs[k].name (aj rs[k].rows[j].rows)=true:=h3;rw [hrf]at h4;cases h4
    go_wp2;refine bodyPost_ret (v:=.tuple #[.map none,.bool false]) ?_ rfl HPO.out;simp [results,Tryz.results91,go_sem]
   have Wp:Hid (((eF rs[k].rows).take (j+1)).all (fun r=>aS (ae rs) rs[k].name r.expr)=true):=by
    show _=_;rw [HTS.out,List.all_append,HR.out];have:aS (ae rs) rs[k].name rs[k].rows[j].p.expr=true:=hrf;simp [this]
   go_wp2;go_roundw;case rel=>exact ⟨j+1,by omega,by go_num,Wp,V9,HV5,Xl⟩
   simp [intOf] <;> omega
  obtain rfl:j=rs[k].rows.length:=by omega
  have HPN:Hid (((ae rs).take (k+1)).all (qH (ae rs))=true):=by
   show _=_;rw [F6 rs k hlt,List.all_append,HP.out];have h1:=HR.out;rw [<-rq,Us]at h1;have:qH (ae rs) rs[k].p=true:=h1;simp [this]
  go_wp2;go_roundw;case rel=>exact ⟨k+1,by omega,by go_num,HPN,HB,HV⟩
  simp [intOf] <;> omega
 obtain rfl:k=rs.length:=by omega
 have Xz:Hid (iH (ae rs)=true):=by
  have h1:=HP.out;rw [<-kY,Us]at h1;exact h1
 go_wp2_with fail;refine (BM ad cap rs bT 36 (nZ rs) _ h6 (HS.out.below HB.out) HL.out UY.out Wt.out (fun r hr q hq=>(ZJ.out r hr q hq).2) (PO HSH.out) HV.out HT.out).mono ?_;rintro e w5 ⟨rfl,⟨nL,ML,hG5⟩,hb5⟩;have V9:=jP HB hb5;have HG5:Hid (Grp w5 wr.heap.size nL ML (jl (ae rs) rs)):=hG5;clear hG5 hb5;go_wp2_with fail;refine (yC ad cap rs wr.heap.size nL ML (jl (ae rs) rs) _ h6 (HS.out.below V9.out) UY.out Wt.out HG5.out (Q6 HSH.out Xz.out) (kz Xz.out) (MF rs Wt.out ZJ.out (PO HSH.out))).mono ?_;rintro e w6 ⟨hL,hb6⟩;have Xa:=jP V9 hb6;clear hb6;rcases hL with ⟨bS,nS,σ,rfl,hM,WE,hk⟩|⟨rfl,hno⟩
 ·have HPO:Hid (GY (ae rs) w (.returned (.tuple #[.map (some bS),.bool true])) w6):=⟨.inl ⟨bS,nS,σ,rfl,⟨HSH.out,Xz.out,_,WE.sol⟩,hM,WE,hk⟩,Xa.out⟩;clear hM WE hk;go_wp2;refine bodyPost_ret (v:=.tuple #[.map (some bS),.bool true]) ?_ rfl HPO.out;simp [results,Tryz.results91,go_sem]
 have HPO:Hid (GY (ae rs) w (.returned (.tuple #[.map none,.bool false])) w6):=⟨.inr ⟨rfl,fun h=>hno h.2.2⟩,Xa.out⟩;clear hno;go_wp2;refine bodyPost_ret (v:=.tuple #[.map none,.bool false]) ?_ rfl HPO.out;simp [results,Tryz.results91,go_sem]
def sH (ts:List Ty)(oa ob r c d s:ByteArray):Bool:=dH (aU (aB ts oa r)) (aU (aB ts oa r)).length ⟨c,s⟩&&bQ oa ob r c d s
theorem GZ:∀ {es:List Ex} (a:Al),own es=0->es.any (nH a)=false
 | [],_,_=>rfl
 | e::es,a,h=>by
  by_cases h1:e.kind=1
  ·simp [own,h1]at h
  rw [List.any_cons,GZ a (by simpa [own,h1] using h)];simp [nH,h1]
theorem G5:∀ {es:List Ex} (a:Al),own es<=1->es.any (nH a)=dH (aU es) (aU es).length a
 | [],_,_=>rfl
 | e::es,a,h=>by
  by_cases h1:e.kind=1
  ·rw [List.any_cons,GZ a (by simp [own,h1]at h;simpa [own] using h)];simp [nH,h1,aU]
  rw [List.any_cons,G5 a (by simpa [own,h1] using h)];simp [nH,h1,aU]
theorem MN {xs:List Al}{a:Al}{k:Nat}(h:k<xs.length)(hk:jR xs[k] a=true):dH xs xs.length a=true:=by
 unfold dH;rw [Us,UA];exact ⟨_,Ud h,hk⟩
def DF (ts:List Ty)(oa ob r c d s:ByteArray):Bool:=aL ts&&sH ts oa ob r c d s
theorem SX {es:List Ex}(h:aK es=true):own es<=1:=by
 unfold aK at h;simp at h;omega
theorem Rb {rs:List TR}(h:bW (ae rs))(ty n:bI):own (aB (ae rs) ty n)<=1:=by
 unfold aB;cases e:fH (ae rs) ty n with
 | none=>simp [own]
 | some es =>
  obtain ⟨t,ht,q,hq,-,-,rfl⟩:=og e;exact SX ((bu h.1).2.2 t ht q hq).1
set_option maxRecDepth 100000 in
theorem Bo (ad:Option Addr)(cap:Nat)(rs:List TR)(oa ob r c d s:bI)(w:af)(hlen:rs.length<=1048576)(hs:kX w ad rs)(hl:∀ r∈rs,r.light)(ha:oa.size<=maxLen)(hb:ob.size<=maxLen)(hr:r.size<=maxLen)(hc:c.size<=maxLen)(hd:d.size<=maxLen)(hz:s.size<=maxLen) :
  Calls prog 94 #[.slice ad rs.length cap,.agg #[.string oa,.string ob,.string r,.string c,.string d,.string s]] w fun e w'=>e=.returned (.bool (sH (ae rs) oa ob r c d s))/\ag w w':=by
 have HS:=aA hs;have HL:=aA hl;clear hs hl;obtain ⟨W0,hW0⟩:∃ W0,W0=w.alloc (.cells #[.string oa,.string ob,.string r,.string c,.string d,.string s] 46):=⟨_,rfl⟩;have hal:ag w W0:=by rw [hW0];exact (Uf _ _).alloc (Ue _) _
 have HB0:=aA hal;have VR:Hid (W0.cell? ⟨w.heap.size,0,none⟩=some (.string oa)/\W0.cell? ⟨w.heap.size,1,none⟩=some (.string ob)/\W0.cell? ⟨w.heap.size,2,none⟩=some (.string r)/\W0.cell? ⟨w.heap.size,3,none⟩=some (.string c)/\W0.cell? ⟨w.heap.size,4,none⟩=some (.string d)/\W0.cell? ⟨w.heap.size,5,none⟩=some (.string s)/\w.heap.size<W0.heap.size):=by
  show _/\_;rw [hW0];refine ⟨?_,?_,?_,?_,?_,?_,?_⟩ <;> simp
 clear hal;go_enter func94,ntmps94;go_wp2_with fail;rw [<-hW0];clear hW0;refine (je ad cap rs oa r _ hlen (HS.out.below HB0.out) HL.out).mono ?_;rintro e w1 ⟨⟨rows,UO,capE,rfl,hex,hse,hfr⟩,hw1⟩;replace hw1:=hw1.symm;subst hw1;have HX:Hid (aj rows=aB (ae rs) oa r):=hex;have WU:=aA hse;have Vs:=hfr.light HL.out;have hrl:rows.length<=1048576:=Vs.1;have WV:Hid (∀ q∈rows,q.e.light):=Vs.2;clear hex hse hfr Vs;go_wp2_with fail;refine (xE UO capE rows _ hrl WU.out).mono ?_;rintro e w1 ⟨⟨adA,capA,rfl,hsa,hfa⟩,hw1⟩;replace hw1:=hw1.symm;subst hw1;obtain ⟨xs,hxs⟩:∃ xs,xs=aU (aj rows):=⟨_,rfl⟩;rw [<-hxs]at hsa hfa ⊢;have WC:Hid (xs=aU (aB (ae rs) oa r)):=by rw [<-HX.out];exact hxs
 have HSA:=aA hsa;have hxl:xs.length<=1048576:=by
  rcases hfa with h|⟨q,hq,h,-⟩
  ·rw [h];simp
  rw [h];exact (WV.out q hq).1
 clear hxs hsa hfa WV WU HX;go_wp2;go_loopw [6] (fun i wr=>∃ k:Nat,k<=xs.length/\i=.int .i64 k/\Hid (dH xs k ⟨c,s⟩=false)/\Hid (ag W0 wr)) (fun i _=>xs.length-(intOf i).toNat);case atStart=>exact ⟨0,Ui _,rfl,sS _ _,Uf _ _⟩
 obtain ⟨k,hk,rfl,HP,HB⟩:=hrel;have UU:Hid (ag w wr):=HB0.out.trans (HB.out.mono HB0.out.size);by_cases hlt:k<xs.length
 ·rcases HSA.out.below HB.out with hnil|⟨b,off,rfl,hb5,Zk⟩
  ·rw [hnil]at hlt;simp at hlt
  obtain ⟨t0,t1⟩:=Zk k hlt;have hk1:=bF k;have hk2:(k:Int)<(xs.length:Int):=by omega
  have hwl:w.heap.size<wr.heap.size:=Uc VR.out.2.2.2.2.2.2 HB.out.size;have c0:=aH HB.out VR.out.2.2.2.2.2.2 VR.out.1;have c1:=aH HB.out VR.out.2.2.2.2.2.2 VR.out.2.1;have c2:=aH HB.out VR.out.2.2.2.2.2.2 VR.out.2.2.1;have c3:=aH HB.out VR.out.2.2.2.2.2.2 VR.out.2.2.2.1;have c4:=aH HB.out VR.out.2.2.2.2.2.2 VR.out.2.2.2.2.1;have c5:=aH HB.out VR.out.2.2.2.2.2.2 VR.out.2.2.2.2.2.1;have ZH:Hid (dH xs (k+1) ⟨c,s⟩=jR xs[k] ⟨c,s⟩):=by show _=_;rw [sQ _ _ _ hlt,HP.out];rfl
  clear Zk;go_wp2_with fail;cases h1:(xs[k].t.toList==c.toList);case false=>
   refine nC 19 (fun n=>(u21::u22::u23::u24::u25::u26::u27::u28::u29::u30::u31::u32::u33::u34::u35::u36::u37::u38::u39::[]).getD n undef) (fun fq=>{ tmps:=List.toArray (Value.slice ad rs.length cap::.agg #[.string oa,.string ob,.string r,.string c,.string d,.string s]::undef::.pointer (some ⟨w.heap.size,0,none⟩)::u4::.slice (some ⟨b,off,none⟩) xs.length capA::.int .i64 k::.slice ad rs.length cap::.pointer (some ⟨w.heap.size,0,none⟩)::.pointer (some ⟨w.heap.size,0,none⟩)::.string oa::.pointer (some ⟨w.heap.size,2,none⟩)::.string r::.slice UO rows.length capE::.slice (some ⟨b,off,none⟩) xs.length capA::.int .i64 k::.slice (some ⟨b,off,none⟩) xs.length capA::.int .i64 xs.length::.bool true::u19::u20::fq 0::fq 1::fq 2::fq 3::fq 4::fq 5::fq 6::fq 7::fq 8::fq 9::fq 10::fq 11::fq 12::fq 13::fq 14::fq 15::fq 16::fq 17::fq 18::u40::u41::[]),defers:=[] }) (fun n v _=>v=(Value.slice (some ⟨b,off,none⟩) xs.length capA::.int .i64 k::.pointer (some ⟨b,off+k*2,none⟩)::.pointer (some ⟨b,off+k*2,none⟩)::.string xs[k].t::.pointer (some ⟨w.heap.size,3,none⟩)::.pointer (some ⟨w.heap.size,3,none⟩)::.string c::.bool false::.bool false::undef::undef::undef::undef::undef::undef::undef::undef::.bool false::[]).getD n undef) (fun w'=>ag wr w') (by kernel_rfl) rfl (by kernel_rfl) rfl (Uf _ _).drew ?stepA ?finA;case stepA =>
    rintro i hi o ho fq w' hG hpre;have HG:Hid (ag wr w'):=hG;replace t0:=aH hG hb5 t0;replace t1:=aH hG hb5 t1;replace c3:=aH hG hwl c3;replace c5:=aH hG hwl c5;have HM:Hid (∀ e∈o.after,Region.binds .any e=true->_):=hpre;clear hG hpre;have hc:=J5 (i:=i) (by omega);clear hi
    repeat' rcases hc with rfl|hc
    iterate 19
     ·cases ho;have hm:=HM.out
      try simp [Region.binds]at hm
      refine aa rfl fun K HK=>?_;clear HM
      try simp only [hm]
      go_simp;exact HK.out _ _ ⟨_,by simp [upd, *],HG.out,rfl,fun k u hu=>hu⟩
   case finA =>
    rintro fq w' hG hall;have e18:fq 18=.bool false:=hall 18 (by omega);have HG:Hid (ag wr w'):=hG;clear hall;clear hG;have HB2:Hid (ag W0 w'):=HB.out.trans (HG.out.mono HB.out.size);have UW:Hid (dH xs (k+1) ⟨c,s⟩=false):=by show _=_;rw [ZH.out];simp [jR,h1]
    rw [e18];go_wp2;go_roundw;case rel=>exact ⟨k+1,by omega,by go_num,UW,HB2⟩
    simp [intOf] <;> omega
  cases h2:(xs[k].s.toList==s.toList);case false=>
   refine nC 19 (fun n=>(u21::u22::u23::u24::u25::u26::u27::u28::u29::u30::u31::u32::u33::u34::u35::u36::u37::u38::u39::[]).getD n undef) (fun fq=>{ tmps:=List.toArray (Value.slice ad rs.length cap::.agg #[.string oa,.string ob,.string r,.string c,.string d,.string s]::undef::.pointer (some ⟨w.heap.size,0,none⟩)::u4::.slice (some ⟨b,off,none⟩) xs.length capA::.int .i64 k::.slice ad rs.length cap::.pointer (some ⟨w.heap.size,0,none⟩)::.pointer (some ⟨w.heap.size,0,none⟩)::.string oa::.pointer (some ⟨w.heap.size,2,none⟩)::.string r::.slice UO rows.length capE::.slice (some ⟨b,off,none⟩) xs.length capA::.int .i64 k::.slice (some ⟨b,off,none⟩) xs.length capA::.int .i64 xs.length::.bool true::u19::u20::fq 0::fq 1::fq 2::fq 3::fq 4::fq 5::fq 6::fq 7::fq 8::fq 9::fq 10::fq 11::fq 12::fq 13::fq 14::fq 15::fq 16::fq 17::fq 18::u40::u41::[]),defers:=[] }) (fun n v _=>v=(Value.slice (some ⟨b,off,none⟩) xs.length capA::.int .i64 k::.pointer (some ⟨b,off+k*2,none⟩)::.pointer (some ⟨b,off+k*2,none⟩)::.string xs[k].t::.pointer (some ⟨w.heap.size,3,none⟩)::.pointer (some ⟨w.heap.size,3,none⟩)::.string c::.bool true::.bool true::.slice (some ⟨b,off,none⟩) xs.length capA::.int .i64 k::.pointer (some ⟨b,off+k*2,none⟩)::.pointer (some ⟨b,off+k*2+1,none⟩)::.string xs[k].s::.pointer (some ⟨w.heap.size,5,none⟩)::.string s::.bool false::.bool false::[]).getD n undef) (fun w'=>ag wr w') (by kernel_rfl) rfl (by kernel_rfl) rfl (Uf _ _).drew ?xR ?finB;case xR =>
    rintro i hi o ho fq w' hG hpre;have HG:Hid (ag wr w'):=hG;replace t0:=aH hG hb5 t0;replace t1:=aH hG hb5 t1;replace c3:=aH hG hwl c3;replace c5:=aH hG hwl c5;have HM:Hid (∀ e∈o.after,Region.binds .any e=true->_):=hpre;clear hG hpre;have hc:=J5 (i:=i) (by omega);clear hi
    repeat' rcases hc with rfl|hc
    iterate 19
     ·cases ho;have hm:=HM.out
      try simp [Region.binds]at hm
      refine aa rfl fun K HK=>?_;clear HM
      try simp only [hm]
      go_simp;exact HK.out _ _ ⟨_,by simp [upd, *],HG.out,rfl,fun k u hu=>hu⟩
   case finB =>
    rintro fq w' hG hall;have e18:fq 18=.bool false:=hall 18 (by omega);have HG:Hid (ag wr w'):=hG;clear hall;clear hG;have HB2:Hid (ag W0 w'):=HB.out.trans (HG.out.mono HB.out.size);have UW:Hid (dH xs (k+1) ⟨c,s⟩=false):=by show _=_;rw [ZH.out];simp [jR,h1,h2]
    rw [e18];go_wp2;go_roundw;case rel=>exact ⟨k+1,by omega,by go_num,UW,HB2⟩
    simp [intOf] <;> omega
  refine nC 19 (fun n=>(u21::u22::u23::u24::u25::u26::u27::u28::u29::u30::u31::u32::u33::u34::u35::u36::u37::u38::u39::[]).getD n undef) (fun fq=>{ tmps:=List.toArray (Value.slice ad rs.length cap::.agg #[.string oa,.string ob,.string r,.string c,.string d,.string s]::undef::.pointer (some ⟨w.heap.size,0,none⟩)::u4::.slice (some ⟨b,off,none⟩) xs.length capA::.int .i64 k::.slice ad rs.length cap::.pointer (some ⟨w.heap.size,0,none⟩)::.pointer (some ⟨w.heap.size,0,none⟩)::.string oa::.pointer (some ⟨w.heap.size,2,none⟩)::.string r::.slice UO rows.length capE::.slice (some ⟨b,off,none⟩) xs.length capA::.int .i64 k::.slice (some ⟨b,off,none⟩) xs.length capA::.int .i64 xs.length::.bool true::u19::u20::fq 0::fq 1::fq 2::fq 3::fq 4::fq 5::fq 6::fq 7::fq 8::fq 9::fq 10::fq 11::fq 12::fq 13::fq 14::fq 15::fq 16::fq 17::fq 18::u40::u41::[]),defers:=[] }) (fun n v _=>v=(Value.slice (some ⟨b,off,none⟩) xs.length capA::.int .i64 k::.pointer (some ⟨b,off+k*2,none⟩)::.pointer (some ⟨b,off+k*2,none⟩)::.string xs[k].t::.pointer (some ⟨w.heap.size,3,none⟩)::.pointer (some ⟨w.heap.size,3,none⟩)::.string c::.bool true::.bool true::.slice (some ⟨b,off,none⟩) xs.length capA::.int .i64 k::.pointer (some ⟨b,off+k*2,none⟩)::.pointer (some ⟨b,off+k*2+1,none⟩)::.string xs[k].s::.pointer (some ⟨w.heap.size,5,none⟩)::.string s::.bool true::.bool true::[]).getD n undef) (fun w'=>ag wr w') (by kernel_rfl) rfl (by kernel_rfl) rfl (Uf _ _).drew ?stepC ?finC;case stepC =>
   rintro i hi o ho fq w' hG hpre;have HG:Hid (ag wr w'):=hG;replace t0:=aH hG hb5 t0;replace t1:=aH hG hb5 t1;replace c3:=aH hG hwl c3;replace c5:=aH hG hwl c5;have HM:Hid (∀ e∈o.after,Region.binds .any e=true->_):=hpre;clear hG hpre;have hc:=J5 (i:=i) (by omega);clear hi
   repeat' rcases hc with rfl|hc
   iterate 19
    ·cases ho;have hm:=HM.out
     try simp [Region.binds]at hm
     refine aa rfl fun K HK=>?_;clear HM
     try simp only [hm]
     go_simp;exact HK.out _ _ ⟨_,by simp [upd, *],HG.out,rfl,fun k u hu=>hu⟩
  case finC =>
   rintro fq w' hG hall;have e18:fq 18=.bool true:=hall 18 (by omega);have HG:Hid (ag wr w'):=hG;clear hall;replace c0:=aH hG hwl c0;replace c1:=aH hG hwl c1;replace c2:=aH hG hwl c2;replace c3:=aH hG hwl c3;replace c4:=aH hG hwl c4;replace c5:=aH hG hwl c5;clear hG;rw [e18];have HN:Hid (sH (ae rs) oa ob r c d s=bQ oa ob r c d s):=by show _=_;unfold sH;rw [<-WC.out,MN hlt (by simp [jR,h1,h2])];rfl
   go_wp2_with fail;refine (dY oa ob r c d s _ ha hb hr hc hd hz).mono ?_;rintro e w2 ⟨rfl,hb2⟩;have HB2:Hid (ag w w2):=UU.out.trans ((HG.out.mono UU.out.size).trans (hb2.mono (Uk UU.out.size HG.out.size)));clear hb2;go_wp2;go_ret;exact ⟨by rw [HN.out];rfl,HB2.out⟩
 obtain rfl:k=xs.length:=by omega
 have HN:Hid (sH (ae rs) oa ob r c d s=false):=by show _=_;unfold sH;rw [<-WC.out,HP.out];rfl
 go_wp2;go_ret;exact ⟨by rw [HN.out];rfl,UU.out⟩
end Go.Proofs.YtajkkeikihhejaaGreat
