/- Contract of the document's look whether a tuple fits a schema that is right. -/
import Derived.Test.YtojjoblnpldniaaGreatSq
import Derived.Test.YtojjoblnpldniaaGreatJ20
import Derived.Test.YtojjoblnpldniaaGreatImplStrat
open Go.Proofs.Tryz
set_option maxHeartbeats 80000000
namespace Go.Proofs.YtojjoblnpldniaaGreat
open ChangeShapes WideShapes ChangeAt RowKit Maps
open Pl
def pY(ts:Q0b)(oa ob r c d s:ByteArray):Bool:=dG (aQ (az ts oa r)) (aQ (az ts oa r)).length ⟨c,s⟩&&bz oa ob r c d s
theorem H6:∀{es:Q09} (a:Al),own es=0->es.any (nJ a)=false
 | [],_,_=>rfl
 | e::es,a,h=>by
  by_cases h1:e.kind=1
  ·simp[own,h1]at h
  rw[List.any_cons,H6 a (by simpa[own,h1] using h)];simp[nJ,h1]
theorem BF:∀{es:Q09} (a:Al),own es<=1->es.any (nJ a)=dG (aQ es) (aQ es).length a
 | [],_,_=>rfl
 | e::es,a,h=>by
  by_cases h1:e.kind=1
  ·rw[List.any_cons,H6 a (by simp[own,h1]at h;simpa[own] using h)];simp[nJ,h1,aQ]
  rw[List.any_cons,BF a (by simpa[own,h1] using h)];simp[nJ,h1,aQ]
theorem NG{xs:Q0a}{a:Al}{k:Nat}(h:k<xs.length)(hk:jV xs[k] a=true):dG xs xs.length a=true:=by
 unfold dG;rw[VI,VT];exact⟨_,Vp h,hk⟩
def lh(ts:Q0b)(oa ob r c d s:ByteArray):Bool:=aN ts&&pY ts oa ob r c d s
theorem Um{es:Q09}(h:aK es=true):own es<=1:=by
 unfold aK at h;simp at h;omega
theorem LG{rs:Q06}(h:bP (af rs))(ty n:bQ):own (az (af rs) ty n)<=1:=by
 unfold az;cases e:fF (af rs) ty n with
 | none=>simp[own]
 | some es =>
  obtain⟨t,ht,q,hq,-,-,rfl⟩:=qO e;exact Um ((bq h.1).2.2 t ht q hq).1
set_option maxRecDepth 100000 in
theorem BG(ad:Q02)(cap:Nat)(rs:Q06)(oa ob r c d s:bQ)(w:ae)(hlen:rs.length<=1048576)(hs:mP w ad rs)(hl:∀r∈rs,r.light)(ha:oa.size<=maxLen)(hb:ob.size<=maxLen)(hr:r.size<=maxLen)(hc:c.size<=maxLen)(hd:d.size<=maxLen)(hz:s.size<=maxLen):
  Calls prog 141 #[.slice ad rs.length cap,.agg #[.string oa,.string ob,.string r,.string c,.string d,.string s]] w fun e w'=>e=.returned (.bool (pY (af rs) oa ob r c d s))/\ag w w':=by
 have HS:=aC hs;have HL:=aC hl;clear hs hl;obtain⟨W0,hW0⟩:∃W0,W0=w.alloc (.cells #[.string oa,.string ob,.string r,.string c,.string d,.string s] 29):=⟨_,rfl⟩;have hal:ag w W0:=by rw[hW0];exact(Vs _ _).alloc (Vr _) _
 have HB0:=aC hal;have XR:Hid (W0.cell? ⟨w.heap.size,0,none⟩=some (.string oa)/\W0.cell? ⟨w.heap.size,1,none⟩=some (.string ob)/\W0.cell? ⟨w.heap.size,2,none⟩=some (.string r)/\W0.cell? ⟨w.heap.size,3,none⟩=some (.string c)/\W0.cell? ⟨w.heap.size,4,none⟩=some (.string d)/\W0.cell? ⟨w.heap.size,5,none⟩=some (.string s)/\w.heap.size<W0.heap.size):=by
  show _/\_;rw[hW0];refine⟨?_,?_,?_,?_,?_,?_,?_⟩<;>simp
 clear hal;go_enter func141,ntmps141;go_wp2_with fail;rw[<-hW0];clear hW0;refine(jf ad cap rs oa r _ hlen (HS.out.below HB0.out) HL.out).mono ?_;rintro e w1 ⟨⟨rows,WM,capE,rfl,hex,hse,hfr⟩,hw1⟩;replace hw1:=hw1.symm;subst hw1;have HX:Hid (aj rows=az (af rs) oa r):=hex;have Y5:=aC hse;have XA:=hfr.light HL.out;have hrl:rows.length<=1048576:=XA.1;have Y4:Hid (∀q∈rows,q.e.light):=XA.2;clear hex hse hfr XA;go_wp2_with fail;refine(xN WM capE rows _ hrl Y5.out).mono ?_;rintro e w1 ⟨⟨adA,capA,rfl,hsa,hfa⟩,hw1⟩;replace hw1:=hw1.symm;subst hw1;obtain⟨xs,hxs⟩:∃xs,xs=aQ (aj rows):=⟨_,rfl⟩;rw[<-hxs]at hsa hfa ⊢;have Zm:Hid (xs=aQ (az (af rs) oa r)):=by rw[<-HX.out];exact hxs
 have HSA:=aC hsa;have hxl:xs.length<=1048576:=by
  rcases hfa with h|⟨q,hq,h,-⟩
  ·rw[h];simp
  rw[h];exact(Y4.out q hq).1
 clear hxs hsa hfa Y4 Y5 HX;go_wp2;go_loopw[6] (fun i wr=>∃k:Nat,k<=xs.length/\i=.int .i64 k/\Hid (dG xs k ⟨c,s⟩=false)/\Hid (ag W0 wr)) (fun i _=>xs.length-(intOf i).toNat);case atStart=>exact⟨0,Vv _,rfl,ug _ _,Vs _ _⟩
 obtain⟨k,hk,rfl,HP,HB⟩:=hrel;have WP:Hid (ag w wr):=HB0.out.trans (HB.out.mono HB0.out.size);by_cases hlt:k<xs.length
 ·rcases HSA.out.below HB.out with hnil|⟨b,off,rfl,hb5,hr5⟩
  ·rw[hnil]at hlt;simp at hlt
  obtain⟨t0,t1⟩:=hr5 k hlt;have hk1:=bC k;have hk2:(k:Int)<(xs.length:Int):=by omega
  have hwl:w.heap.size<wr.heap.size:=Vq XR.out.2.2.2.2.2.2 HB.out.size;have c0:=aA HB.out XR.out.2.2.2.2.2.2 XR.out.1;have c1:=aA HB.out XR.out.2.2.2.2.2.2 XR.out.2.1;have c2:=aA HB.out XR.out.2.2.2.2.2.2 XR.out.2.2.1;have c3:=aA HB.out XR.out.2.2.2.2.2.2 XR.out.2.2.2.1;have c4:=aA HB.out XR.out.2.2.2.2.2.2 XR.out.2.2.2.2.1;have c5:=aA HB.out XR.out.2.2.2.2.2.2 XR.out.2.2.2.2.2.1;have HSU:Hid (dG xs (k+1) ⟨c,s⟩=jV xs[k] ⟨c,s⟩):=by show _=_;rw[uf _ _ _ hlt,HP.out];rfl
  clear hr5;go_wp2_with fail;cases h1:(xs[k].t.toList==c.toList);case false=>
   refine nD 19 _ _ (fun n v _=>v=(Value.slice (some ⟨b,off,none⟩) xs.length capA::.int .i64 k::.pointer (some ⟨b,off+k*2,none⟩)::.pointer (some ⟨b,off+k*2,none⟩)::.string xs[k].t::.pointer (some ⟨w.heap.size,3,none⟩)::.pointer (some ⟨w.heap.size,3,none⟩)::.string c::.bool false::.bool false::undef::undef::undef::undef::undef::undef::undef::undef::.bool false::[]).getD n undef) (fun w'=>ag wr w') (by kernel_rfl) rfl (by kernel_rfl) (F5 [(21,[0,1,2,3,4,5,6,7,8,9,10,11,12,13,14,15,16,17,18])]) (Vs _ _).drew ?stepA ?finA<;>dsimp only[Em];case stepA =>
    rintro i hi o ho fq w' hG hpre;have HG:Hid (ag wr w'):=hG;replace t0:=aA hG hb5 t0;replace t1:=aA hG hb5 t1;replace c3:=aA hG hwl c3;replace c5:=aA hG hwl c5;have HM:Hid (∀e∈o.after,Region.binds .any e=true->_):=hpre;clear hG hpre;have hc:=Oz (i:=i) (by omega);clear hi
    repeat' rcases hc with rfl|hc
    iterate 19
     ·cases ho;have hm:=HM.out
      try simp[Region.binds]at hm
      refine aa rfl fun K HK=>?_;clear HM
      try simp only[hm]
      go_simp;exact HK.out _ _ ⟨_,by simp[upd, *],HG.out,rfl,fun k u hu=>hu⟩
   case finA =>
    rintro fq w' hG hall;have e18:fq 18=.bool false:=hall 18 (by omega);have HG:Hid (ag wr w'):=hG;clear hall;clear hG;have HB2:Hid (ag W0 w'):=HB.out.trans (HG.out.mono HB.out.size);have WQ:Hid (dG xs (k+1) ⟨c,s⟩=false):=by show _=_;rw[HSU.out];simp[jV,h1]
    rw[e18];go_wp2;go_roundw;case rel=>exact⟨k+1,by omega,by go_num,WQ,HB2⟩
    simp[intOf]<;>omega
  cases h2:(xs[k].s.toList==s.toList);case false=>
   refine nD 19 _ _ (fun n v _=>v=(Value.slice (some ⟨b,off,none⟩) xs.length capA::.int .i64 k::.pointer (some ⟨b,off+k*2,none⟩)::.pointer (some ⟨b,off+k*2,none⟩)::.string xs[k].t::.pointer (some ⟨w.heap.size,3,none⟩)::.pointer (some ⟨w.heap.size,3,none⟩)::.string c::.bool true::.bool true::.slice (some ⟨b,off,none⟩) xs.length capA::.int .i64 k::.pointer (some ⟨b,off+k*2,none⟩)::.pointer (some ⟨b,off+k*2+1,none⟩)::.string xs[k].s::.pointer (some ⟨w.heap.size,5,none⟩)::.string s::.bool false::.bool false::[]).getD n undef) (fun w'=>ag wr w') (by kernel_rfl) rfl (by kernel_rfl) (F5 [(21,[0,1,2,3,4,5,6,7,8,9,10,11,12,13,14,15,16,17,18])]) (Vs _ _).drew ?yu ?finB<;>dsimp only[Em];case yu =>
    rintro i hi o ho fq w' hG hpre;have HG:Hid (ag wr w'):=hG;replace t0:=aA hG hb5 t0;replace t1:=aA hG hb5 t1;replace c3:=aA hG hwl c3;replace c5:=aA hG hwl c5;have HM:Hid (∀e∈o.after,Region.binds .any e=true->_):=hpre;clear hG hpre;have hc:=Oz (i:=i) (by omega);clear hi
    repeat' rcases hc with rfl|hc
    iterate 19
     ·cases ho;have hm:=HM.out
      try simp[Region.binds]at hm
      refine aa rfl fun K HK=>?_;clear HM
      try simp only[hm]
      go_simp;exact HK.out _ _ ⟨_,by simp[upd, *],HG.out,rfl,fun k u hu=>hu⟩
   case finB =>
    rintro fq w' hG hall;have e18:fq 18=.bool false:=hall 18 (by omega);have HG:Hid (ag wr w'):=hG;clear hall;clear hG;have HB2:Hid (ag W0 w'):=HB.out.trans (HG.out.mono HB.out.size);have WQ:Hid (dG xs (k+1) ⟨c,s⟩=false):=by show _=_;rw[HSU.out];simp[jV,h1,h2]
    rw[e18];go_wp2;go_roundw;case rel=>exact⟨k+1,by omega,by go_num,WQ,HB2⟩
    simp[intOf]<;>omega
  refine nD 19 _ _ (fun n v _=>v=(Value.slice (some ⟨b,off,none⟩) xs.length capA::.int .i64 k::.pointer (some ⟨b,off+k*2,none⟩)::.pointer (some ⟨b,off+k*2,none⟩)::.string xs[k].t::.pointer (some ⟨w.heap.size,3,none⟩)::.pointer (some ⟨w.heap.size,3,none⟩)::.string c::.bool true::.bool true::.slice (some ⟨b,off,none⟩) xs.length capA::.int .i64 k::.pointer (some ⟨b,off+k*2,none⟩)::.pointer (some ⟨b,off+k*2+1,none⟩)::.string xs[k].s::.pointer (some ⟨w.heap.size,5,none⟩)::.string s::.bool true::.bool true::[]).getD n undef) (fun w'=>ag wr w') (by kernel_rfl) rfl (by kernel_rfl) (F5 [(21,[0,1,2,3,4,5,6,7,8,9,10,11,12,13,14,15,16,17,18])]) (Vs _ _).drew ?stepC ?finC<;>dsimp only[Em];case stepC =>
   rintro i hi o ho fq w' hG hpre;have HG:Hid (ag wr w'):=hG;replace t0:=aA hG hb5 t0;replace t1:=aA hG hb5 t1;replace c3:=aA hG hwl c3;replace c5:=aA hG hwl c5;have HM:Hid (∀e∈o.after,Region.binds .any e=true->_):=hpre;clear hG hpre;have hc:=Oz (i:=i) (by omega);clear hi
   repeat' rcases hc with rfl|hc
   iterate 19
    ·cases ho;have hm:=HM.out
     try simp[Region.binds]at hm
     refine aa rfl fun K HK=>?_;clear HM
     try simp only[hm]
     go_simp;exact HK.out _ _ ⟨_,by simp[upd, *],HG.out,rfl,fun k u hu=>hu⟩
  case finC =>
   rintro fq w' hG hall;have e18:fq 18=.bool true:=hall 18 (by omega);have HG:Hid (ag wr w'):=hG;clear hall;replace c0:=aA hG hwl c0;replace c1:=aA hG hwl c1;replace c2:=aA hG hwl c2;replace c3:=aA hG hwl c3;replace c4:=aA hG hwl c4;replace c5:=aA hG hwl c5;clear hG;rw[e18];have HN:Hid (pY (af rs) oa ob r c d s=bz oa ob r c d s):=by show _=_;unfold pY;rw[<-Zm.out,NG hlt (by simp[jV,h1,h2])];rfl
   go_wp2_with fail;refine(d9 oa ob r c d s _ ha hb hr hc hd hz).mono ?_;rintro e w2 ⟨rfl,hb2⟩;have HB2:Hid (ag w w2):=WP.out.trans ((HG.out.mono WP.out.size).trans (hb2.mono (Vz WP.out.size HG.out.size)));clear hb2;go_wp2;go_ret;exact⟨by rw[HN.out];rfl,HB2.out⟩
 obtain rfl:k=xs.length:=by omega
 have HN:Hid (pY (af rs) oa ob r c d s=false):=by show _=_;unfold pY;rw[<-Zm.out,HP.out];rfl
 go_wp2;go_ret;exact⟨by rw[HN.out];rfl,WP.out⟩
end Go.Proofs.YtojjoblnpldniaaGreat
