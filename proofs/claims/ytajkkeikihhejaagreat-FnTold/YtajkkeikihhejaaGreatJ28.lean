/- Contract of the document's look whether a tuple fits a schema that is right. -/
import Derived.Test.YtajkkeikihhejaaGreatSq
import Derived.Test.YtajkkeikihhejaaGreatJ27
import Derived.Test.YtajkkeikihhejaaGreatJ17
open Go.Proofs.Tryz
set_option maxHeartbeats 80000000
namespace Go.Proofs.YtajkkeikihhejaaGreat
open Go.ChangeShapes Go.WideShapes Go.ChangeAt Go.RowKit Go.Maps
open Pl
def sF (ts:List Ty) (oa ob r c d s:ByteArray):Bool:=dF (aU (aA ts oa r)) (aU (aA ts oa r)).length ⟨c,s⟩ && bI oa ob r c d s
theorem Gq:∀ {es:List Ex} (a:Al),own es=0→es.any (nE a)=false
 | [],_,_=>rfl
 | e::es,a,h=>by
  by_cases h1:e.kind=1
  ·simp [own,h1] at h
  rw [List.any_cons,Gq a (by simpa [own,h1] using h)];simp [nE,h1]
theorem Gr:∀ {es:List Ex} (a:Al),own es≤1→es.any (nE a)=dF (aU es) (aU es).length a
 | [],_,_=>rfl
 | e::es,a,h=>by
  by_cases h1:e.kind=1
  ·rw [List.any_cons,Gq a (by simp [own,h1] at h; simpa [own] using h)];simp [nE,h1,aU]
  rw [List.any_cons,Gr a (by simpa [own,h1] using h)];simp [nE,h1,aU]
theorem Mi {xs:List Al} {a:Al} {k:Nat} (h:k < xs.length) (hk:jQ xs[k] a=true):dF xs xs.length a=true:=by
 unfold dF;rw [Ug,Uo];exact ⟨_,TQ h,hk⟩
def Dm (ts:List Ty) (oa ob r c d s:ByteArray):Bool:=aJ ts && sF ts oa ob r c d s
theorem Sn {es:List Ex} (h:aK es=true):own es≤1:=by
 unfold aK at h; simp at h; omega
theorem QF {rs:List TR} (h:bR (ae rs)) (ty n:bH):own (aA (ae rs) ty n)≤1:=by
 unfold aA;cases e:fI (ae rs) ty n with
 | none=>simp [own]
 | some es =>
  obtain ⟨t,ht,q,hq,-,-,rfl⟩:=nV e;exact Sn ((bq h.1).2.2 t ht q hq).1
set_option maxRecDepth 100000 in
theorem AL (ad:Option Addr) (cap:Nat) (rs:List TR) (oa ob r c d s:bH) (w:af) (hlen:rs.length≤1048576) (hs:kX w ad rs) (hl:∀ r ∈ rs,r.light) (ha:oa.size≤maxLen) (hb:ob.size≤maxLen) (hr:r.size≤maxLen) (hc:c.size≤maxLen) (hd:d.size≤maxLen) (hz:s.size≤maxLen) :
  Calls prog 94 #[.slice ad rs.length cap,.agg #[.string oa,.string ob,.string r,.string c,.string d,.string s]] w fun e w'=>e=.returned (.bool (sF (ae rs) oa ob r c d s))∧ag w w':=by
 have HS:=az hs;have HL:=az hl;clear hs hl;obtain ⟨W0,hW0⟩:∃ W0,W0=w.alloc (.cells #[.string oa,.string ob,.string r,.string c,.string d,.string s] 46):=⟨_,rfl⟩;have hal:ag w W0:=by rw [hW0]; exact (TT _ _).alloc (TS _) _
 have HB0:=az hal;have VG:Hid (W0.cell? ⟨w.heap.size,0,none⟩=some (.string oa)∧W0.cell? ⟨w.heap.size,1,none⟩=some (.string ob)∧W0.cell? ⟨w.heap.size,2,none⟩=some (.string r)∧W0.cell? ⟨w.heap.size,3,none⟩=some (.string c)∧W0.cell? ⟨w.heap.size,4,none⟩=some (.string d)∧W0.cell? ⟨w.heap.size,5,none⟩=some (.string s)∧w.heap.size < W0.heap.size):=by
  show _∧_;rw [hW0]; refine ⟨?_,?_,?_,?_,?_,?_,?_⟩ <;> simp
 clear hal;go_enter func94,ntmps94;go_wp2_with fail;rw [← hW0];clear hW0;refine (jd ad cap rs oa r _ hlen (HS.out.below HB0.out) HL.out).mono ?_;rintro e w1 ⟨⟨rows,UD,capE,rfl,hex,hse,hfr⟩,hw1⟩;replace hw1:=hw1.symm;subst hw1;have HX:Hid (ak rows=aA (ae rs) oa r):=hex;have WK:=az hse;have Vl:=hfr.light HL.out;have hrl:rows.length≤1048576:=Vl.1;have WH:Hid (∀ q ∈ rows,q.e.light):=Vl.2;clear hex hse hfr Vl;go_wp2_with fail;refine (xD UD capE rows _ hrl WK.out).mono ?_;rintro e w1 ⟨⟨adA,capA,rfl,hsa,hfa⟩,hw1⟩;replace hw1:=hw1.symm;subst hw1;obtain ⟨xs,hxs⟩:∃ xs,xs=aU (ak rows):=⟨_,rfl⟩;rw [← hxs] at hsa hfa ⊢;have Wq:Hid (xs=aU (aA (ae rs) oa r)):=by rw [← HX.out]; exact hxs
 have HSA:=az hsa;have hxl:xs.length≤1048576:=by
  rcases hfa with h | ⟨q,hq,h,-⟩
  ·rw [h]; simp
  rw [h]; exact (WH.out q hq).1
 clear hxs hsa hfa WH WK HX;go_wp2;go_loopw [6] (fun i wr=>∃ k:Nat,k≤xs.length∧i=.int .i64 k∧Hid (dF xs k ⟨c,s⟩=false)∧Hid (ag W0 wr)) (fun i _=>xs.length - (intOf i).toNat);case atStart=>exact ⟨0,TW _,rfl,sO _ _,TT _ _⟩
 obtain ⟨k,hk,rfl,HP,HB⟩:=hrel;have UG:Hid (ag w wr):=HB0.out.trans (HB.out.mono HB0.out.size);by_cases hlt:k < xs.length
 ·rcases HSA.out.below HB.out with hnil | ⟨b,off,rfl,hb5,Y3⟩
  ·rw [hnil] at hlt; simp at hlt
  obtain ⟨t0,t1⟩:=Y3 k hlt;have hk1:=bB k;have hk2:(k:Int) < (xs.length:Int):=by omega
  have hwl:w.heap.size < wr.heap.size:=TP VG.out.2.2.2.2.2.2 HB.out.size;have c0:=aG HB.out VG.out.2.2.2.2.2.2 VG.out.1;have c1:=aG HB.out VG.out.2.2.2.2.2.2 VG.out.2.1;have c2:=aG HB.out VG.out.2.2.2.2.2.2 VG.out.2.2.1;have c3:=aG HB.out VG.out.2.2.2.2.2.2 VG.out.2.2.2.1;have c4:=aG HB.out VG.out.2.2.2.2.2.2 VG.out.2.2.2.2.1;have c5:=aG HB.out VG.out.2.2.2.2.2.2 VG.out.2.2.2.2.2.1;have Zw:Hid (dF xs (k + 1) ⟨c,s⟩=jQ xs[k] ⟨c,s⟩):=by show _=_; rw [sN _ _ _ hlt,HP.out]; rfl
  clear Y3;go_wp2_with fail;cases h1:(xs[k].t.toList == c.toList);case false=>
   refine nz 19 (fun n=>(u21::u22::u23::u24::u25::u26::u27::u28::u29::u30::u31::u32::u33::u34::u35::u36::u37::u38::u39::[]).getD n undef) (fun fq=>{ tmps:=List.toArray (Value.slice ad rs.length cap::.agg #[.string oa,.string ob,.string r,.string c,.string d,.string s]::undef::.pointer (some ⟨w.heap.size,0,none⟩)::u4::.slice (some ⟨b,off,none⟩) xs.length capA::.int .i64 k::.slice ad rs.length cap::.pointer (some ⟨w.heap.size,0,none⟩)::.pointer (some ⟨w.heap.size,0,none⟩)::.string oa::.pointer (some ⟨w.heap.size,2,none⟩)::.string r::.slice UD rows.length capE::.slice (some ⟨b,off,none⟩) xs.length capA::.int .i64 k::.slice (some ⟨b,off,none⟩) xs.length capA::.int .i64 xs.length::.bool true::u19::u20::fq 0::fq 1::fq 2::fq 3::fq 4::fq 5::fq 6::fq 7::fq 8::fq 9::fq 10::fq 11::fq 12::fq 13::fq 14::fq 15::fq 16::fq 17::fq 18::u40::u41::[]),defers:=[] }) (fun n v _=>v=(Value.slice (some ⟨b,off,none⟩) xs.length capA::.int .i64 k::.pointer (some ⟨b,off + k * 2,none⟩)::.pointer (some ⟨b,off + k * 2,none⟩)::.string xs[k].t::.pointer (some ⟨w.heap.size,3,none⟩)::.pointer (some ⟨w.heap.size,3,none⟩)::.string c::.bool false::.bool false::undef::undef::undef::undef::undef::undef::undef::undef::.bool false::[]).getD n undef) (fun w'=>ag wr w') (by kernel_rfl) rfl (by kernel_rfl) rfl (TT _ _).drew ?stepA ?finA;case stepA =>
    rintro i hi o ho fq w' hG hpre;have HG:Hid (ag wr w'):=hG;replace t0:=aG hG hb5 t0;replace t1:=aG hG hb5 t1;replace c3:=aG hG hwl c3;replace c5:=aG hG hwl c5;have HM:Hid (∀ e ∈ o.after,Region.binds .any e=true→_):=hpre;clear hG hpre;have hc:=J6 (i:=i) (by omega);clear hi
    repeat' rcases hc with rfl | hc
    iterate 19
     ·cases ho;have hm:=HM.out
      try simp [Region.binds] at hm
      refine aa rfl fun K HK=>?_;clear HM
      try simp only [hm]
      go_simp;exact HK.out _ _ ⟨_,by simp [upd, *],HG.out,rfl,fun k u hu=>hu⟩
   case finA =>
    rintro fq w' hG hall;have e18:fq 18=.bool false:=hall 18 (by omega);have HG:Hid (ag wr w'):=hG;clear hall;clear hG;have HB2:Hid (ag W0 w'):=HB.out.trans (HG.out.mono HB.out.size);have UI:Hid (dF xs (k + 1) ⟨c,s⟩=false):=by show _=_; rw [Zw.out]; simp [jQ,h1]
    rw [e18];go_wp2;go_roundw;case rel=>exact ⟨k + 1,by omega,by go_num,UI,HB2⟩
    simp [intOf] <;> omega
  cases h2:(xs[k].s.toList == s.toList);case false=>
   refine nz 19 (fun n=>(u21::u22::u23::u24::u25::u26::u27::u28::u29::u30::u31::u32::u33::u34::u35::u36::u37::u38::u39::[]).getD n undef) (fun fq=>{ tmps:=List.toArray (Value.slice ad rs.length cap::.agg #[.string oa,.string ob,.string r,.string c,.string d,.string s]::undef::.pointer (some ⟨w.heap.size,0,none⟩)::u4::.slice (some ⟨b,off,none⟩) xs.length capA::.int .i64 k::.slice ad rs.length cap::.pointer (some ⟨w.heap.size,0,none⟩)::.pointer (some ⟨w.heap.size,0,none⟩)::.string oa::.pointer (some ⟨w.heap.size,2,none⟩)::.string r::.slice UD rows.length capE::.slice (some ⟨b,off,none⟩) xs.length capA::.int .i64 k::.slice (some ⟨b,off,none⟩) xs.length capA::.int .i64 xs.length::.bool true::u19::u20::fq 0::fq 1::fq 2::fq 3::fq 4::fq 5::fq 6::fq 7::fq 8::fq 9::fq 10::fq 11::fq 12::fq 13::fq 14::fq 15::fq 16::fq 17::fq 18::u40::u41::[]),defers:=[] }) (fun n v _=>v=(Value.slice (some ⟨b,off,none⟩) xs.length capA::.int .i64 k::.pointer (some ⟨b,off + k * 2,none⟩)::.pointer (some ⟨b,off + k * 2,none⟩)::.string xs[k].t::.pointer (some ⟨w.heap.size,3,none⟩)::.pointer (some ⟨w.heap.size,3,none⟩)::.string c::.bool true::.bool true::.slice (some ⟨b,off,none⟩) xs.length capA::.int .i64 k::.pointer (some ⟨b,off + k * 2,none⟩)::.pointer (some ⟨b,off + k * 2 + 1,none⟩)::.string xs[k].s::.pointer (some ⟨w.heap.size,5,none⟩)::.string s::.bool false::.bool false::[]).getD n undef) (fun w'=>ag wr w') (by kernel_rfl) rfl (by kernel_rfl) rfl (TT _ _).drew ?xY ?finB;case xY =>
    rintro i hi o ho fq w' hG hpre;have HG:Hid (ag wr w'):=hG;replace t0:=aG hG hb5 t0;replace t1:=aG hG hb5 t1;replace c3:=aG hG hwl c3;replace c5:=aG hG hwl c5;have HM:Hid (∀ e ∈ o.after,Region.binds .any e=true→_):=hpre;clear hG hpre;have hc:=J6 (i:=i) (by omega);clear hi
    repeat' rcases hc with rfl | hc
    iterate 19
     ·cases ho;have hm:=HM.out
      try simp [Region.binds] at hm
      refine aa rfl fun K HK=>?_;clear HM
      try simp only [hm]
      go_simp;exact HK.out _ _ ⟨_,by simp [upd, *],HG.out,rfl,fun k u hu=>hu⟩
   case finB =>
    rintro fq w' hG hall;have e18:fq 18=.bool false:=hall 18 (by omega);have HG:Hid (ag wr w'):=hG;clear hall;clear hG;have HB2:Hid (ag W0 w'):=HB.out.trans (HG.out.mono HB.out.size);have UI:Hid (dF xs (k + 1) ⟨c,s⟩=false):=by show _=_; rw [Zw.out]; simp [jQ,h1,h2]
    rw [e18];go_wp2;go_roundw;case rel=>exact ⟨k + 1,by omega,by go_num,UI,HB2⟩
    simp [intOf] <;> omega
  refine nz 19 (fun n=>(u21::u22::u23::u24::u25::u26::u27::u28::u29::u30::u31::u32::u33::u34::u35::u36::u37::u38::u39::[]).getD n undef) (fun fq=>{ tmps:=List.toArray (Value.slice ad rs.length cap::.agg #[.string oa,.string ob,.string r,.string c,.string d,.string s]::undef::.pointer (some ⟨w.heap.size,0,none⟩)::u4::.slice (some ⟨b,off,none⟩) xs.length capA::.int .i64 k::.slice ad rs.length cap::.pointer (some ⟨w.heap.size,0,none⟩)::.pointer (some ⟨w.heap.size,0,none⟩)::.string oa::.pointer (some ⟨w.heap.size,2,none⟩)::.string r::.slice UD rows.length capE::.slice (some ⟨b,off,none⟩) xs.length capA::.int .i64 k::.slice (some ⟨b,off,none⟩) xs.length capA::.int .i64 xs.length::.bool true::u19::u20::fq 0::fq 1::fq 2::fq 3::fq 4::fq 5::fq 6::fq 7::fq 8::fq 9::fq 10::fq 11::fq 12::fq 13::fq 14::fq 15::fq 16::fq 17::fq 18::u40::u41::[]),defers:=[] }) (fun n v _=>v=(Value.slice (some ⟨b,off,none⟩) xs.length capA::.int .i64 k::.pointer (some ⟨b,off + k * 2,none⟩)::.pointer (some ⟨b,off + k * 2,none⟩)::.string xs[k].t::.pointer (some ⟨w.heap.size,3,none⟩)::.pointer (some ⟨w.heap.size,3,none⟩)::.string c::.bool true::.bool true::.slice (some ⟨b,off,none⟩) xs.length capA::.int .i64 k::.pointer (some ⟨b,off + k * 2,none⟩)::.pointer (some ⟨b,off + k * 2 + 1,none⟩)::.string xs[k].s::.pointer (some ⟨w.heap.size,5,none⟩)::.string s::.bool true::.bool true::[]).getD n undef) (fun w'=>ag wr w') (by kernel_rfl) rfl (by kernel_rfl) rfl (TT _ _).drew ?stepC ?finC;case stepC =>
   rintro i hi o ho fq w' hG hpre;have HG:Hid (ag wr w'):=hG;replace t0:=aG hG hb5 t0;replace t1:=aG hG hb5 t1;replace c3:=aG hG hwl c3;replace c5:=aG hG hwl c5;have HM:Hid (∀ e ∈ o.after,Region.binds .any e=true→_):=hpre;clear hG hpre;have hc:=J6 (i:=i) (by omega);clear hi
   repeat' rcases hc with rfl | hc
   iterate 19
    ·cases ho;have hm:=HM.out
     try simp [Region.binds] at hm
     refine aa rfl fun K HK=>?_;clear HM
     try simp only [hm]
     go_simp;exact HK.out _ _ ⟨_,by simp [upd, *],HG.out,rfl,fun k u hu=>hu⟩
  case finC =>
   rintro fq w' hG hall;have e18:fq 18=.bool true:=hall 18 (by omega);have HG:Hid (ag wr w'):=hG;clear hall;replace c0:=aG hG hwl c0;replace c1:=aG hG hwl c1;replace c2:=aG hG hwl c2;replace c3:=aG hG hwl c3;replace c4:=aG hG hwl c4;replace c5:=aG hG hwl c5;clear hG;rw [e18];have HN:Hid (sF (ae rs) oa ob r c d s=bI oa ob r c d s):=by show _=_; unfold sF; rw [← Wq.out,Mi hlt (by simp [jQ,h1,h2])]; rfl
   go_wp2_with fail;refine (dY oa ob r c d s _ ha hb hr hc hd hz).mono ?_;rintro e w2 ⟨rfl,hb2⟩;have HB2:Hid (ag w w2):=UG.out.trans ((HG.out.mono UG.out.size).trans (hb2.mono (TZ UG.out.size HG.out.size)));clear hb2;go_wp2;go_ret;exact ⟨by rw [HN.out]; rfl,HB2.out⟩
 obtain rfl:k=xs.length:=by omega
 have HN:Hid (sF (ae rs) oa ob r c d s=false):=by show _=_; unfold sF; rw [← Wq.out,HP.out]; rfl
 go_wp2;go_ret;exact ⟨by rw [HN.out]; rfl,UG.out⟩
set_option maxRecDepth 100000 in
theorem EJ (ad:Option Addr) (cap:Nat) (rs:List TR) (oa ob r c d s:bH) (w:af) (hlen:rs.length≤1048576) (hs:kX w ad rs) (hl:∀ r ∈ rs,r.light) (hf:∀ r ∈ rs,r.fits) (ha:oa.size≤maxLen) (hb:ob.size≤maxLen) (hr:r.size≤maxLen) (hc:c.size≤maxLen) (hd:d.size≤maxLen) (hz:s.size≤maxLen) :
  Calls prog 87 #[.slice ad rs.length cap,.agg #[.string oa,.string ob,.string r,.string c,.string d,.string s]] w fun e w'=>e=.returned (.bool (Dm (ae rs) oa ob r c d s))∧ag w w':=by
 have HS:=az hs;have HL:=az hl;have UL:=az hf;clear hs hl hf;obtain ⟨W0,hW0⟩:∃ W0,W0=w.alloc (.cells #[.string oa,.string ob,.string r,.string c,.string d,.string s] 46):=⟨_,rfl⟩;have hal:ag w W0:=by rw [hW0]; exact (TT _ _).alloc (TS _) _
 have HB0:=az hal;have hw0:w.heap.size < W0.heap.size:=by rw [hW0]; simp
 have c0:W0.cell? ⟨w.heap.size,0,none⟩=some (.string oa):=by rw [hW0]; simp
 have c1:W0.cell? ⟨w.heap.size,1,none⟩=some (.string ob):=by rw [hW0]; simp
 have c2:W0.cell? ⟨w.heap.size,2,none⟩=some (.string r):=by rw [hW0]; simp
 have c3:W0.cell? ⟨w.heap.size,3,none⟩=some (.string c):=by rw [hW0]; simp
 have c4:W0.cell? ⟨w.heap.size,4,none⟩=some (.string d):=by rw [hW0]; simp
 have c5:W0.cell? ⟨w.heap.size,5,none⟩=some (.string s):=by rw [hW0]; simp
 clear hal;go_enter func87,ntmps87;go_wp2_with fail;rw [← hW0];clear hW0;refine (jV ad cap rs _ hlen (HS.out.below HB0.out) HL.out UL.out).mono ?_;rintro e w1 ⟨rfl,hb1⟩;have HB1:=jP HB0 hb1;have hw1:w.heap.size < w1.heap.size:=TP hw0 hb1.size;replace c0:=aG hb1 hw0 c0;replace c1:=aG hb1 hw0 c1;replace c2:=aG hb1 hw0 c2;replace c3:=aG hb1 hw0 c3;replace c4:=aG hb1 hw0 c4;replace c5:=aG hb1 hw0 c5;clear hb1 hw0;cases hd5:aJ (ae rs);case false=>
  have HN:Hid (Dm (ae rs) oa ob r c d s=false):=by show _=_; unfold Dm; rw [hd5]; rfl
  go_wp2;go_ret;exact ⟨by rw [HN.out]; rfl,HB1.out⟩
 have HN:Hid (Dm (ae rs) oa ob r c d s=sF (ae rs) oa ob r c d s):=by show _=_; unfold Dm; rw [hd5]; rfl
 go_wp2_with fail;refine (AL ad cap rs oa ob r c d s _ hlen (HS.out.below HB1.out) HL.out ha hb hr hc hd hz).mono ?_;rintro e w2 ⟨rfl,hb2⟩;have HB2:=jP HB1 hb2;clear hb2;go_wp2;go_ret;exact ⟨by rw [HN.out]; rfl,HB2.out⟩
set_option linter.unusedVariables false
set_option maxRecDepth 100000
theorem iJ.only {wc wd:af} {R base:Nat} {v:Value} {rs:List TR} (h:iJ wc base v rs) (hR:R < base) (ho:Only R wc wd):iJ wd base v rs :=
 h.heap mH ho.size fun g hg=>ho.block g (h.lt mH hg).2 (fun e=>by injection e with e; have:=(h.lt mH hg).1; omega)
theorem iJ.slT {w:af} {R base cap:Nat} {Vy:Option Addr} {rs:List TR} (h:iJ w base (.slice Vy rs.length cap) rs) (hR:R < base):∀ W,Only R w W→kX W Vy rs:=fun W hO=>by
 obtain ⟨UJ,cap',e,hs,-⟩:=(h.only hR hO).read;injection e with e1 e2 e3;subst e1;exact hs
def OX (w:World) (n:Nat) (a b r c d s:ByteArray):Prop:=w.cell? ⟨n,0,none⟩=some (.string a)∧w.cell? ⟨n,1,none⟩=some (.string b)∧w.cell? ⟨n,2,none⟩=some (.string r)∧w.cell? ⟨n,3,none⟩=some (.string c)∧w.cell? ⟨n,4,none⟩=some (.string d)∧w.cell? ⟨n,5,none⟩=some (.string s)
theorem OX.same {w w':af} {n:Nat} {a b r c d s:ByteArray} (h:OX w n a b r c d s) (hk:∀ o,w'.cell? ⟨n,o,none⟩=w.cell? ⟨n,o,none⟩):OX w' n a b r c d s :=
 ⟨(hk _).trans h.1,(hk _).trans h.2.1,(hk _).trans h.2.2.1,(hk _).trans h.2.2.2.1,(hk _).trans h.2.2.2.2.1,(hk _).trans h.2.2.2.2.2⟩
theorem EK {w w':af} {base g c n:Nat} {xs:List Value} (h:w.ownsRow base 46 6 (.slice (some ⟨g,0,none⟩) n c) n xs) (hb:ag w w'):w'.ownsRow base 46 6 (.slice (some ⟨g,0,none⟩) n c) n xs :=
 h.kept (row:=none) ⟨hb.os,hb.tape,hb.output,hb.size,fun i hi _=>hb.block i hi⟩ (.inr (by simp [Value.ownBlock]))
theorem Jl (R:Nat) (ad:Option Addr) (len cap:Nat) (n:Nat) (w:af) (h:Rd w R ad len cap) (h1:1≤n) (h2:n≤200000) :
  Calls prog 49 #[.pointer (some ⟨R,0,none⟩),.int .i64 (n:Int)] w fun e w'=>(∃ x:Nat,e=.returned (.int .i64 (x:Int))∧x < n)∧Rd w' R ad len cap∧Only R w w':=by
 by_cases hn:n≤256
 ·exact fQ R ad len cap n w h h1 hn
 have H:=az h;clear h;have hne:((n:Int) == 0)=false:=by simp; omega
 have hn1:¬ (n:Int)≤1:=by omega
 have hn2:¬ (n:Int)≤256:=by omega
 go_enter func49,ntmps49;go_wp2_with fail;refine (uk R ad len cap _ H.out).mono ?_;rintro e w1 ⟨⟨x,rfl,hx0,hx1⟩,U5,UX⟩;have HR:=az U5;have HO:=az UX;have hw1:IntKind.i64.wrap (x * 256)=x * 256:=by rw [IntKind.wrap_i64]; omega
 clear U5 UX;go_wp2_with fail;refine (uk R ad len cap _ HR.out).mono ?_;rintro e w2 ⟨⟨y,rfl,hy0,hy1⟩,hR2,hO2⟩;have HR2:=az hR2;have UB:Hid (Only R w w2):=HO.out.trans hO2;have hw2:IntKind.i64.wrap (x * 256 + y)=x * 256 + y:=by rw [IntKind.wrap_i64]; omega
 obtain ⟨z,hz⟩:∃ z:Nat,(x * 256 + y)=(z:Int):=⟨(x * 256 + y).toNat,by omega⟩;have HZ:Hid ((x * 256 + y) % (n:Int)=((z % n:Nat):Int)):=by show _=_; rw [hz]; exact (Int.natCast_emod z n).symm
 clear hR2 hO2 hz;go_wp2;go_ret;exact ⟨⟨z % n,by rw [← HZ.out]; rfl,Nat.mod_lt _ (by omega)⟩,HR2.out,UB.out⟩
theorem BN (R:Nat) (ad:Option Addr) (len cap:Nat) (Vy:Option Addr) (Vs base:Nat) (rs:List TR) (w:af) (h:Rd w R ad len cap) (hRb:R < base) (hT:iJ w base (.slice Vy rs.length Vs) rs) (hG:GoodS rs) :
  Calls prog 46 #[.pointer (some ⟨R,0,none⟩),.slice Vy rs.length Vs,.int .i64 12] w fun e w'=>(∃ (g c:Nat) (ts:List Tp),e=.returned (.slice (some ⟨g,0,none⟩) ts.length c)∧ts.length≤12∧qH ts∧w'.ownsRow w.heap.size 46 6 (.slice (some ⟨g,0,none⟩) ts.length c) ts.length (bF ts))∧Rd w' R ad len cap∧Only R w w':=by
 have Xo:=h.lt;have HS:Hid (∀ W,Only R w W→kX W Vy rs):=hT.slT hRb;obtain ⟨hG1,hG2,hG3⟩:=hG;have hlen:rs.length≤1048576:=by omega
 have HL:=fE hG2;have HF:=fE hG3;clear hG2 hG3 hT;obtain ⟨W0,hW0⟩:∃ W0,W0=w.alloc (.cells #[] 46):=⟨_,rfl⟩;have Vi:Hid (W0.ownsRow w.heap.size 46 6 (.slice (some ⟨w.heap.size,0,none⟩) 0 0) 0 (bF [])):=by
  show World.ownsRow _ _ _ _ _ _ _;rw [hW0]; exact World.ownsRow_lit w #[] 0 (TS _) (by unfold maxLen; omega) (by simp)
 have VD:Hid (Rd W0 R ad len cap):=by show Rd _ _ _ _ _; rw [hW0]; exact h.alloc _
 have V7:Hid (Only R w W0):=by show Only _ _ _; rw [hW0]; exact (Only.refl _ _).alloc _
 clear h;go_enter func46,ntmps46;go_wp2_with fail;rw [← hW0];clear hW0;refine (bW R ad len cap 13 _ VD.out (by omega) (by omega)).mono ?_;rintro e w1 ⟨⟨x,rfl,hx0,hx1⟩,U5,UX⟩;have HR1:=fE U5;have UV:Hid (Only R w w1):=V7.out.trans UX;have HL1:Hid (w1.ownsRow w.heap.size 46 6 (.slice (some ⟨w.heap.size,0,none⟩) 0 0) 0 (bF [])):=nY Vi.out Xo UX;clear U5 UX Vi VD V7;go_wp2_with fail;go_loopw [7,8] (fun v i wr=>∃ (k:Nat) (ts:List Tp) (g c:Nat),i=.int .i64 k∧ts.length + k≤12∧v=.slice (some ⟨g,0,none⟩) ts.length c∧Hid (qH ts)∧Hid (wr.ownsRow w.heap.size 46 6 v ts.length (bF ts))∧Hid (Rd wr R ad len cap)∧Hid (Only R w wr)) (fun _ i _=>(intOf i).toNat);case atStart=>exact ⟨x.toNat,[],w.heap.size,0,by rw [Int.toNat_of_nonneg hx0],by simp; omega,rfl,L8,HL1,HR1,UV⟩
 clear HL1 HR1 UV hx0 hx1;obtain ⟨k,ts,g,c,rfl,hk,rfl,HSh,HOw,HR,HO⟩:=hrel;by_cases hk0:0 < k
 ·have hk1:(0:Int) < (k:Int):=by omega
  go_wp2_with fail;refine (LU R ad len cap _ HR.out).mono ?_;rintro e w2 ⟨⟨a,b,r,c2,d,s,rfl,ha,hb,hr,hc,hd,hs⟩,hR2,hO2⟩;have HT:Hid (Tp.short ⟨a,b,r,c2,d,s⟩):=⟨ha,hb,hr,hc,hd,hs⟩;obtain ⟨f1,f2,f3,f4,f5,f6⟩:=HT.out.fits;obtain ⟨W2,hW2⟩:∃ W2,W2=w2.alloc (.cells #[.string a,.string b,.string r,.string c2,.string d,.string s] 46):=⟨_,rfl⟩;have HR2:Hid (Rd W2 R ad len cap):=by show Rd _ _ _ _ _; rw [hW2]; exact hR2.alloc _
  have UB:Hid (Only R w W2):=by show Only _ _ _; rw [hW2]; exact (HO.out.trans hO2).alloc _
  have HOw2:Hid (W2.ownsRow w.heap.size 46 6 (.slice (some ⟨g,0,none⟩) ts.length c) ts.length (bF ts)):=by show World.ownsRow _ _ _ _ _ _ _; rw [hW2]; exact (nY HOw.out Xo hO2).alloc _
  have hz2:w2.heap.size < W2.heap.size:=by rw [hW2]; simp
  have hnR:w2.heap.size ≠ R:=by have:=hR2.lt; omega
  have HC:Hid (OX W2 w2.heap.size a b r c2 d s):=by
   show OX _ _ _ _ _ _ _ _;rw [hW2]; refine ⟨?_,?_,?_,?_,?_,?_⟩ <;> simp
  clear ha hb hr hc hd hs hR2 hO2 HR HO HOw;go_wp2_with fail;rw [← hW2];clear hW2;refine (EJ Vy Vs rs _ _ _ _ _ _ _ hlen (HS.out _ UB.out) HL.out HF.out f1 f2 f3 f4 f5 f6).mono ?_;rintro e w3 ⟨rfl,hb3⟩;have HR3:=az (HR2.out.below hb3);have UY:=az (UB.out.below hb3);have XJ:=fE (EK HOw2.out hb3);have XF:=fE (HC.out.same fun o=>hb3.cell (p:=⟨_,o,none⟩) hz2);have hz3:=TP hz2 hb3.size;clear hb3 HR2 UB HOw2 HC hz2;cases hq:Dm (ae rs) a b r c2 d s;case true=>
   obtain ⟨c0,c1,c2',c3,c4,c5⟩:=XF.out;clear hq;have HA:=fE (sw g 0 c ts ⟨a,b,r,c2,d,s⟩ w3 (by omega) (mV XJ.out rfl).2.2.1 (mV XJ.out rfl).1 (mV XJ.out rfl).2.1 HSh.out.fits HT.out.fits);go_wp2_with fail;refine HA.out.mono ?_;rintro e w5 ⟨v5,rfl,hown5,hb5⟩;have UU:=az (HR3.out.below hb5);have UK:=az (UY.out.below hb5);clear c0 c1 c2' c3 c4 c5;cases hz:rW ts ⟨a,b,r,c2,d,s⟩;case true=>
    rw [Ar hz,rJ] at hown5;obtain ⟨g3,c3,rfl⟩:=sD hown5;have Yh:Hid (w5.ownsRow w.heap.size 46 6 (.slice (some ⟨g3,0,none⟩) (ts.length + 1) c3) (ts.length + 1) (bF (jL ts ⟨a,b,r,c2,d,s⟩))):=fB hown5 UY.out.size;have HSh5:Hid (qH (jL ts ⟨a,b,r,c2,d,s⟩)):=HSh.out.put HT.out;have XU:=fE (rJ ts ⟨a,b,r,c2,d,s⟩);have HQ:=fE hz;clear hown5 hb5 hz HA XJ HR3 UY;go_wp2;go_roundw;case rel=>exact ⟨k - 1,jL ts ⟨a,b,r,c2,d,s⟩,g3,c3,by rw [show ((k - 1:Nat):Int)=(k:Int) - 1 by omega],by rw [XU.out]; omega,by rw [XU.out],HSh5,by rw [XU.out]; exact Yh,UU,UK⟩
    simp [intOf]; omega
   have Yh:=fE (EK XJ.out hb5);rw [rH hz] at hown5;obtain ⟨ad5,cap5,hv5,-,-⟩:=OH (ts:=[]) hown5 rfl;subst hv5;have HQ:=fE hz;clear hown5 hb5 hz HA XJ HR3 UY;go_wp2;go_roundw;case rel=>exact ⟨k - 1,ts,g,c,by rw [show ((k - 1:Nat):Int)=(k:Int) - 1 by omega],by omega,rfl,HSh,Yh,UU,UK⟩
   simp [intOf]; omega
  clear hq;go_wp2_with fail;refine (iN R ad len cap 60 _ HR3.out (by omega) (by omega)).mono ?_;rintro e w4 ⟨⟨q,rfl⟩,Xp,hO4⟩;have HR4:=fE Xp;have UT:Hid (Only R w w4):=UY.out.trans hO4;have Yi:=fE (nY XJ.out Xo hO4);have HC4:=fE (XF.out.same fun o=>hO4.cell (b:=w2.heap.size) (o:=o) hz3 hnR);clear Xp hO4 HR3 UY XJ XF;cases q;case true=>
   obtain ⟨c0,c1,c2',c3,c4,c5⟩:=HC4.out;have HA:=fE (sw g 0 c ts ⟨a,b,r,c2,d,s⟩ w4 (by omega) (mV Yi.out rfl).2.2.1 (mV Yi.out rfl).1 (mV Yi.out rfl).2.1 HSh.out.fits HT.out.fits);go_wp2_with fail;refine HA.out.mono ?_;rintro e w5 ⟨v5,rfl,hown5,hb5⟩;have UU:=az (HR4.out.below hb5);have UK:=az (UT.out.below hb5);clear c0 c1 c2' c3 c4 c5;cases hz:rW ts ⟨a,b,r,c2,d,s⟩;case true=>
    rw [Ar hz,rJ] at hown5;obtain ⟨g3,c3,rfl⟩:=sD hown5;have Yh:Hid (w5.ownsRow w.heap.size 46 6 (.slice (some ⟨g3,0,none⟩) (ts.length + 1) c3) (ts.length + 1) (bF (jL ts ⟨a,b,r,c2,d,s⟩))):=fB hown5 UT.out.size;have HSh5:Hid (qH (jL ts ⟨a,b,r,c2,d,s⟩)):=HSh.out.put HT.out;have XU:=fE (rJ ts ⟨a,b,r,c2,d,s⟩);have HQ:=fE hz;clear hown5 hb5 hz HA Yi HR4 UT;go_wp2;go_roundw;case rel=>exact ⟨k - 1,jL ts ⟨a,b,r,c2,d,s⟩,g3,c3,by rw [show ((k - 1:Nat):Int)=(k:Int) - 1 by omega],by rw [XU.out]; omega,by rw [XU.out],HSh5,by rw [XU.out]; exact Yh,UU,UK⟩
    simp [intOf]; omega
   have Yh:=fE (EK Yi.out hb5);rw [rH hz] at hown5;obtain ⟨ad5,cap5,hv5,-,-⟩:=OH (ts:=[]) hown5 rfl;subst hv5;have HQ:=fE hz;clear hown5 hb5 hz HA Yi HR4 UT;go_wp2;go_roundw;case rel=>exact ⟨k - 1,ts,g,c,by rw [show ((k - 1:Nat):Int)=(k:Int) - 1 by omega],by omega,rfl,HSh,Yh,UU,UK⟩
   simp [intOf]; omega
  go_wp2;go_roundw;case rel=>exact ⟨k - 1,ts,g,c,by rw [show ((k - 1:Nat):Int)=(k:Int) - 1 by omega],by omega,rfl,HSh,Yi,HR4,UT⟩
  simp [intOf]; omega
 obtain rfl:k=0:=by omega
 go_wp2;go_ret;exact ⟨⟨g,c,ts,rfl,by omega,HSh.out,HOw.out⟩,HR.out,HO.out⟩
structure Few {φ υ:Type} (us:φ→υ) (H:List φ→φ→Bool) (qs:List φ) (users:List υ) (out:List φ):Prop where
 set:∀ f ∈ qs,us f ∉ users→f ∈ out ∨ H out f=false
theorem Few.start {φ υ:Type} {us:φ→υ} {H:List φ→φ→Bool} {qs:List φ} {users:List υ} {out:List φ} (h:∀ f ∈ qs,us f ∈ users):Few us H qs users out:=⟨fun f hf hn=>absurd (h f hf) hn⟩
section
variable {φ υ:Type} [DecidableEq φ] {us:φ→υ} {H:List φ→φ→Bool}
def Loc (us:φ→υ) (H:List φ→φ→Bool):Prop:=∀ (a b:List φ) (f:φ),(∀ g,us g=us f→(g ∈ a ↔ g ∈ b))→H a f=H b f
def dR (H:List φ→φ→Bool) (out:List φ) (f:φ):List φ:=if f ∈ out ∨ H out f=false then out else out ++ [f]
def bG (H:List φ→φ→Bool) (qs:List φ) (out:List φ):List φ:=qs.foldl (dR H) out
theorem OY (out:List φ):bG H [] out=out:=rfl
theorem oh (q:φ) (qs out:List φ):bG H (q::qs) out=bG H qs (dR H out q):=rfl
theorem Gs (zas bs out:List φ):bG H (zas ++ bs) out=bG H bs (bG H zas out):=by unfold bG; rw [List.foldl_append]
theorem wK (out:List φ) (f:φ):∃ new,dR H out f=out ++ new∧∀ g ∈ new,g=f∧g ∉ out∧H out f=true:=by
 unfold dR;split
 ·exact ⟨[],by simp,fun g hg=>by cases hg⟩
 rename_i h;refine ⟨[f],rfl,fun g hg=>?_⟩;rw [Ua] at hg;subst hg;refine ⟨rfl,fun e=>h (.inl e),?_⟩;cases e:H out g;case true=>rfl
 exact absurd (.inr e) h
theorem jF:∀ (qs out:List φ),∃ new,bG H qs out=out ++ new∧∀ g ∈ new,g ∈ qs∧g ∉ out
 | [],out=>⟨[],by simp [OY],fun g hg=>by cases hg⟩
 | q::qs,out=>by
  obtain ⟨n1,e1,h1⟩:=wK (H:=H) out q;obtain ⟨n2,e2,h2⟩:=jF qs (dR H out q);refine ⟨n1 ++ n2,by rw [oh,e2,e1,List.append_assoc],fun g hg=>?_⟩;rcases Uc.1 hg with hg | hg
  ·exact ⟨by rw [(h1 g hg).1]; exact Us ..,(h1 g hg).2.1⟩
  obtain ⟨h3,h4⟩:=h2 g hg;exact ⟨Uq _ h3,fun e=>h4 (by rw [e1]; exact List.mem_append_left _ e)⟩
theorem qL {qs out:List φ} {g:φ} (h:g ∈ out):g ∈ bG H qs out:=by
 obtain ⟨n,e,-⟩:=jF (H:=H) qs out;rw [e]; exact List.mem_append_left _ h
theorem wL {out:List φ} {f g:φ} (h:g ∈ out):g ∈ dR H out f:=by
 obtain ⟨n,e,-⟩:=wK (H:=H) out f;rw [e]; exact List.mem_append_left _ h
theorem Jm {out:List φ} (h:out.Nodup) (f:φ):(dR H out f).Nodup:=by
 unfold dR;split
 ·exact h
 rename_i hn;refine List.nodup_append.2 ⟨h,by simp,fun a ha b hb e=>?_⟩;rw [Ua] at hb;subst hb;subst e;exact hn (.inl ha)
theorem wM:∀ (qs:List φ) {out:List φ},out.Nodup→(bG H qs out).Nodup
 | [],_,h=>h
 | q::qs,_,h=>wM qs (Jm h q)
theorem Dn {qs out:List φ} (h:∀ f ∈ qs,f ∈ out ∨ H out f=false):bG H qs out=out:=by
 induction qs with
 | nil=>rfl
 | cons q qs ih =>
  have e:dR H out q=out:=if_pos (h q (Us ..));rw [oh,e];exact ih fun f hf=>h f (Uq _ hf)
theorem BO {qs out:List φ}:bG H qs out=out ↔ ∀ f ∈ qs,f ∈ out ∨ H out f=false:=by
 refine ⟨fun h=>?_,Dn⟩
 induction qs with
 | nil=>intro f hf; cases hf
 | cons q qs ih =>
  rw [oh] at h;by_cases hq:q ∈ out ∨ H out q=false
  ·have e:dR H out q=out:=if_pos hq;rw [e] at h;intro f hf;rcases List.mem_cons.1 hf with rfl | hf
   ·exact hq
   exact ih h f hf
  have e:dR H out q=out ++ [q]:=if_neg hq;obtain ⟨n,e2,-⟩:=jF (H:=H) qs (dR H out q);rw [h,e] at e2;have:=congrArg List.length e2;simp at this
theorem mX (hL:Loc us H) (P:υ→Bool):∀ (qs out:List φ),(∀ f ∈ qs,P (us f)=false→f ∈ out ∨ H out f=false)→bG H qs out=bG H (qs.filter fun f=>P (us f)) out
 | [],_,_=>rfl
 | q::qs,out,h=>by
  rw [oh,List.filter_cons];cases hp:P (us q);case false=>
   have e:dR H out q=out:=if_pos (h q (Us ..) hp);rw [e];exact mX hL P qs out fun f hf=>h f (Uq _ hf)
  rw [if_pos rfl,oh];refine mX hL P qs _ fun f hf hpf=>?_;have hne:us f ≠ us q:=fun e=>by rw [e,hp] at hpf; cases hpf
  obtain ⟨n,e,hn⟩:=wK (H:=H) out q;have hm:∀ g,us g=us f→(g ∈ out ↔ g ∈ dR H out q):=fun g hg=>by
   rw [e];refine ⟨fun h=>List.mem_append_left _ h,fun h=>?_⟩;rcases Uc.1 h with h | h
   ·exact h
   exact absurd (by rw [(hn g h).1] at hg; exact hg.symm) hne
  rcases h f (Uq _ hf) hpf with h1 | h1
  ·exact .inl ((hm f rfl).1 h1)
  exact .inr (by rw [← hL out _ f hm]; exact h1)
theorem vz (hL:Loc us H) (u:υ):∀ (qs out:List φ),(∀ g ∈ bG H qs out,us g=u→g ∈ out)→∀ f ∈ qs,us f=u→f ∈ bG H qs out ∨ H (bG H qs out) f=false
 | [],_,_,f,hf,_=>by cases hf
 | q::qs,out,h,f,hf,hu=>by
  have hsame:∀ g,us g=u→(g ∈ dR H out q ↔ g ∈ bG H qs (dR H out q)):=fun g hg=>⟨fun h1=>qL h1,fun h1=>wL (h g h1 hg)⟩;have hrest:∀ g ∈ bG H qs (dR H out q),us g=u→g ∈ dR H out q:=fun g h1 h2=>(hsame g h2).2 h1;rcases List.mem_cons.1 hf with rfl | hf
  ·show f ∈ bG H qs (dR H out f) ∨ H (bG H qs (dR H out f)) f=false;by_cases hq:f ∈ out ∨ H out f=false
   ·rcases hq with h1 | h1
    ·exact .inl (qL (wL h1))
    refine .inr ?_;rw [← hL out _ f fun g hg=>?_]
    ·exact h1
    exact ⟨fun h2=>qL (wL h2),fun h2=>h g h2 (hg.trans hu)⟩
   have e:dR H out f=out ++ [f]:=if_neg hq;exact .inl (qL (by rw [e]; simp))
  exact vz hL u qs _ hrest f hf hu
def jG (H:List φ→φ→Bool) (qs:List φ):Nat→List φ→List φ
 | 0,out=>out
 | k + 1,out=>if bG H qs out=out then out else jG H qs k (bG H qs out)
def mr (qs out:List φ):Nat:=(qs.filter fun f=>decide (f ∉ out)).length
theorem OZ (qs:List φ) {a b:List φ} (h:∀ g ∈ a,g ∈ b):mr qs b≤mr qs a:=by
 unfold mr
 induction qs with
 | nil=>simp
 | cons q qs ih =>
  simp only [List.filter_cons];by_cases hb:q ∈ b
  ·by_cases ha:q ∈ a
   ·simp [ha,hb]; simpa using ih
   simp [ha,hb]; have:=ih; simp at this; omega
  have ha:q ∉ a:=fun e=>hb (h q e);simp [ha,hb]; simpa using ih
theorem O0 (qs:List φ) {a b:List φ} (h:∀ g ∈ a,g ∈ b) {x:φ} (hx:x ∈ qs) (ha:x ∉ a) (hb:x ∈ b):mr qs b < mr qs a:=by
 induction qs with
 | nil=>cases hx
 | cons q qs ih =>
  have hle:=OZ qs h;unfold mr at ih hle ⊢;simp only [List.filter_cons];rcases List.mem_cons.1 hx with rfl | hx
  ·simp [ha,hb]; simp at hle; omega
  have:=ih hx;by_cases h1:q ∈ b
  ·by_cases h2:q ∈ a
   ·simp [h1,h2]; simpa using this
   simp [h1,h2]; simp at this; omega
  have h2:q ∉ a:=fun e=>h1 (h q e);simp [h1,h2]; simpa using this
theorem wN {qs out:List φ} (h:bG H qs out ≠ out):mr qs (bG H qs out) < mr qs out:=by
 obtain ⟨n,e,hn⟩:=jF (H:=H) qs out;cases n with
 | nil=>exact absurd (by simpa using e) h
 | cons x n =>
  obtain ⟨h1,h2⟩:=hn x (Us ..);exact O0 qs (fun g hg=>qL hg) h1 h2 (by rw [e]; simp)
theorem AO (qs:List φ):∀ (k j:Nat) (out:List φ),mr qs out < k→mr qs out < j→jG H qs k out=jG H qs j out
 | 0,_,_,h,_=>absurd h (Uw _)
 | _ + 1,0,_,_,h=>absurd h (Uw _)
 | k + 1,j + 1,out,h1,h2=>by
  unfold jG;by_cases e:bG H qs out=out
  ·rw [if_pos e,if_pos e]
  rw [if_neg e,if_neg e];have:=wN (H:=H) e;exact AO qs k j _ (by omega) (by omega)
def kD (H:List φ→φ→Bool) (qs out:List φ):List φ:=jG H qs (mr qs out + 1) out
theorem wO {qs out:List φ} (h:bG H qs out=out):kD H qs out=out:=by
 unfold kD jG; rw [if_pos h]
theorem Dq (qs out:List φ):kD H qs (bG H qs out)=kD H qs out:=by
 by_cases h:bG H qs out=out
 ·rw [h]
 have hlt:=wN (H:=H) h;have e:kD H qs out=jG H qs (mr qs out) (bG H qs out):=by
  show jG H qs (mr qs out + 1) out=_;rw [jG,if_neg h]
 rw [e];unfold kD;exact AO qs _ _ _ (Nat.lt_succ_self _) hlt
theorem O1 (out:List φ):kD H [] out=out:=wO rfl
theorem wP (qs:List φ):∀ (k:Nat) (out:List φ),∃ new,jG H qs k out=out ++ new∧∀ g ∈ new,g ∈ qs
 | 0,out=>⟨[],by simp [jG],fun g hg=>by cases hg⟩
 | k + 1,out=>by
  unfold jG;split
  ·exact ⟨[],by simp,fun g hg=>by cases hg⟩
  obtain ⟨n1,e1,h1⟩:=jF (H:=H) qs out;obtain ⟨n2,e2,h2⟩:=wP qs k (bG H qs out);refine ⟨n1 ++ n2,by rw [e2,e1,List.append_assoc],fun g hg=>?_⟩;rcases Uc.1 hg with hg | hg
  ·exact (h1 g hg).1
  exact h2 g hg
theorem Gt (qs:List φ):∀ (k:Nat) (out:List φ),mr qs out < k→bG H qs (jG H qs k out)=jG H qs k out
 | 0,_,h=>absurd h (Uw _)
 | k + 1,out,h=>by
  unfold jG;split
  ·rename_i e; exact e
  rename_i e;have:=wN (H:=H) e;exact Gt qs k _ (by omega)
theorem O3 (qs out:List φ):bG H qs (kD H qs out)=kD H qs out:=Gt qs _ out (Nat.lt_succ_self _)
theorem AP (qs:List φ):∀ (k:Nat) {out:List φ},out.Nodup→(jG H qs k out).Nodup
 | 0,_,h=>h
 | k + 1,out,h=>by
  unfold jG;split
  ·exact h
  exact AP qs k (wM qs h)
theorem Mj (qs:List φ) {out:List φ} (h:out.Nodup):(kD H qs out).Nodup:=AP qs _ h
theorem Few.round [DecidableEq υ] (hL:Loc us H) {qs:List φ} {users:List υ} {out:List φ} (h:Few us H qs users out):bG H (qs.filter fun f=>decide (us f ∈ users)) out=bG H qs out :=
 (mX hL (fun u=>decide (u ∈ users)) qs out fun f hf hp=>h.set f hf (by simpa using hp)).symm
theorem Few.next [DecidableEq υ] (hL:Loc us H) {qs:List φ} {users Zx:List υ} {out new:List φ} (h:Few us H qs users out) (hn:bG H qs out=out ++ new) (hu:∀ u,u ∈ Zx ↔ u ∈ users∧∃ g ∈ new,us g=u):Few us H qs Zx (out ++ new):=by
 refine ⟨fun f hf hnf=>?_⟩;have key:∀ g ∈ bG H qs out,us g=us f→g ∈ out:=fun g hg hgu=>by
  rw [hn] at hg;rcases Uc.1 hg with hg | hg
  ·exact hg
  by_cases hin:us f ∈ users
  ·exact absurd ((hu _).2 ⟨hin,g,hg,hgu⟩) hnf
  -- a user that was left out before finds none
  have e:=h.round hL;obtain ⟨n2,e2,h2⟩:=jF (H:=H) (qs.filter fun f=>decide (us f ∈ users)) out;rw [e,hn] at e2;have e3:new=n2:=List.append_cancel_left e2;rw [e3] at hg;have h3:=(h2 g hg).1;rw [Ux] at h3;have h4:us g ∈ users:=by simpa using h3.2
  rw [hgu] at h4;exact absurd h4 hin
 have:=vz hL (us f) qs out key f hf rfl;rw [hn] at this;exact this
theorem Few.done {qs:List φ} {out:List φ} (h:Few us H qs [] out):kD H qs out=out:=wO (Dn fun f hf=>h.set f hf List.not_mem_nil)
end
end Go.Proofs.YtajkkeikihhejaaGreat
