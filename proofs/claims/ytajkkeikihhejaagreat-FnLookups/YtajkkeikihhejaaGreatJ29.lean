/- Contract of the document's look whether a tuple fits a schema that is right. -/
import Derived.Test.YtajkkeikihhejaaGreatSq
import Derived.Test.YtajkkeikihhejaaGreatJ28
import Derived.Test.YtajkkeikihhejaaGreatJ17
open Go.Proofs.Tryz
set_option maxHeartbeats 80000000
namespace Go.Proofs.YtajkkeikihhejaaGreat
open Go.ChangeShapes Go.WideShapes Go.ChangeAt Go.RowKit Go.Maps
open Pl
def si (ts:List Ty) (oa ob r c d s:ByteArray):Bool:=dI (aX (aL ts oa r)) (aX (aL ts oa r)).length ⟨c,s⟩ && bF oa ob r c d s
theorem FM:∀ {es:List Ex} (a:Al),own es=0→es.any (nz a)=false
 | [],_,_=>rfl
 | e::es,a,h=>by
  by_cases h1:e.kind=1
  ·simp [own,h1] at h
  rw [List.any_cons,FM a (by simpa [own,h1] using h)];simp [nz,h1]
theorem FN:∀ {es:List Ex} (a:Al),own es≤1→es.any (nz a)=dI (aX es) (aX es).length a
 | [],_,_=>rfl
 | e::es,a,h=>by
  by_cases h1:e.kind=1
  ·rw [List.any_cons,FM a (by simp [own,h1] at h; simpa [own] using h)];simp [nz,h1,aX]
  rw [List.any_cons,FN a (by simpa [own,h1] using h)];simp [nz,h1,aX]
theorem Le {xs:List Al} {a:Al} {k:Nat} (h:k < xs.length) (hk:jo xs[k] a=true):dI xs xs.length a=true:=by
 unfold dI;rw [SS,Tq];exact ⟨_,Sw h,hk⟩
def CK (ts:List Ty) (oa ob r c d s:ByteArray):Bool:=bn ts && si ts oa ob r c d s
theorem Q4 {es:List Ex} (h:aN es=true):own es≤1:=by
 unfold aN at h; simp at h; omega
theorem PM {rs:List TR} (h:bI (ah rs)) (ty n:aD):own (aL (ah rs) ty n)≤1:=by
 unfold aL;cases e:gm (ah rs) ty n with
 | none=>simp [own]
 | some es =>
  obtain ⟨t,ht,q,hq,-,-,rfl⟩:=qp e;exact Q4 ((bP h.1).2.2 t ht q hq).1
set_option maxRecDepth 100000 in
theorem Au (ad:Option Addr) (cap:Nat) (rs:List TR) (oa ob r c d s:aD) (w:ae) (hlen:rs.length≤1048576) (hs:mD w ad rs) (hl:∀ r ∈ rs,r.light) (ha:oa.size≤maxLen) (hb:ob.size≤maxLen) (hr:r.size≤maxLen) (hc:c.size≤maxLen) (hd:d.size≤maxLen) (hz:s.size≤maxLen) :
  Calls prog 94 #[.slice ad rs.length cap,.agg #[.string oa,.string ob,.string r,.string c,.string d,.string s]] w fun e w'=>e=.returned (.bool (si (ah rs) oa ob r c d s))∧af w w':=by
 have HS:=az hs;have HL:=az hl;clear hs hl;obtain ⟨W0,hW0⟩:∃ W0,W0=w.alloc (.cells #[.string oa,.string ob,.string r,.string c,.string d,.string s] 46):=⟨_,rfl⟩;have hal:af w W0:=by rw [hW0]; exact (Sz _ _).alloc (Sy _) _
 have HB0:=az hal;have UT:Hid (W0.cell? ⟨w.heap.size,0,none⟩=some (.string oa)∧W0.cell? ⟨w.heap.size,1,none⟩=some (.string ob)∧W0.cell? ⟨w.heap.size,2,none⟩=some (.string r)∧W0.cell? ⟨w.heap.size,3,none⟩=some (.string c)∧W0.cell? ⟨w.heap.size,4,none⟩=some (.string d)∧W0.cell? ⟨w.heap.size,5,none⟩=some (.string s)∧w.heap.size < W0.heap.size):=by
  show _∧_;rw [hW0]; refine ⟨?_,?_,?_,?_,?_,?_,?_⟩ <;> simp
 clear hal;go_enter func94,ntmps94;go_wp2_with fail;rw [← hW0];clear hW0;refine (jc ad cap rs oa r _ hlen (HS.out.below HB0.out) HL.out).mono ?_;rintro e w1 ⟨⟨rows,TA,capE,rfl,hex,hse,hfr⟩,hw1⟩;replace hw1:=hw1.symm;subst hw1;have HX:Hid (ak rows=aL (ah rs) oa r):=hex;have Wj:=az hse;have UH:=hfr.light HL.out;have hrl:rows.length≤1048576:=UH.1;have Wh:Hid (∀ q ∈ rows,q.e.light):=UH.2;clear hex hse hfr UH;go_wp2_with fail;refine (xg TA capE rows _ hrl Wj.out).mono ?_;rintro e w1 ⟨⟨adA,capA,rfl,hsa,hfa⟩,hw1⟩;replace hw1:=hw1.symm;subst hw1;obtain ⟨xs,hxs⟩:∃ xs,xs=aX (ak rows):=⟨_,rfl⟩;rw [← hxs] at hsa hfa ⊢;have WN:Hid (xs=aX (aL (ah rs) oa r)):=by rw [← HX.out]; exact hxs
 have HSA:=az hsa;have hxl:xs.length≤1048576:=by
  rcases hfa with h | ⟨q,hq,h,-⟩
  ·rw [h]; simp
  rw [h]; exact (Wh.out q hq).1
 clear hxs hsa hfa Wh Wj HX;go_wp2;go_loopw [6] (fun i wr=>∃ k:Nat,k≤xs.length∧i=.int .i64 k∧Hid (dI xs k ⟨c,s⟩=false)∧Hid (af W0 wr)) (fun i _=>xs.length - (intOf i).toNat);case atStart=>exact ⟨0,SC _,rfl,oD _ _,Sz _ _⟩
 obtain ⟨k,hk,rfl,HP,HB⟩:=hrel;have TB:Hid (af w wr):=HB0.out.trans (HB.out.mono HB0.out.size);by_cases hlt:k < xs.length
 ·rcases HSA.out.below HB.out with hnil | ⟨b,off,rfl,hb5,Yg⟩
  ·rw [hnil] at hlt; simp at hlt
  obtain ⟨t0,t1⟩:=Yg k hlt;have hk1:=bq k;have hk2:(k:Int) < (xs.length:Int):=by omega
  have hwl:w.heap.size < wr.heap.size:=Sv UT.out.2.2.2.2.2.2 HB.out.size;have c0:=aI HB.out UT.out.2.2.2.2.2.2 UT.out.1;have c1:=aI HB.out UT.out.2.2.2.2.2.2 UT.out.2.1;have c2:=aI HB.out UT.out.2.2.2.2.2.2 UT.out.2.2.1;have c3:=aI HB.out UT.out.2.2.2.2.2.2 UT.out.2.2.2.1;have c4:=aI HB.out UT.out.2.2.2.2.2.2 UT.out.2.2.2.2.1;have c5:=aI HB.out UT.out.2.2.2.2.2.2 UT.out.2.2.2.2.2.1;have YL:Hid (dI xs (k + 1) ⟨c,s⟩=jo xs[k] ⟨c,s⟩):=by show _=_; rw [oC _ _ _ hlt,HP.out]; rfl
  clear Yg;go_wp2_with fail;cases h1:(xs[k].t.toList == c.toList);case false=>
   refine ni 19 (fun n=>(u21::u22::u23::u24::u25::u26::u27::u28::u29::u30::u31::u32::u33::u34::u35::u36::u37::u38::u39::[]).getD n undef) (fun fq=>{ tmps:=List.toArray (Value.slice ad rs.length cap::.agg #[.string oa,.string ob,.string r,.string c,.string d,.string s]::undef::.pointer (some ⟨w.heap.size,0,none⟩)::u4::.slice (some ⟨b,off,none⟩) xs.length capA::.int .i64 k::.slice ad rs.length cap::.pointer (some ⟨w.heap.size,0,none⟩)::.pointer (some ⟨w.heap.size,0,none⟩)::.string oa::.pointer (some ⟨w.heap.size,2,none⟩)::.string r::.slice TA rows.length capE::.slice (some ⟨b,off,none⟩) xs.length capA::.int .i64 k::.slice (some ⟨b,off,none⟩) xs.length capA::.int .i64 xs.length::.bool true::u19::u20::fq 0::fq 1::fq 2::fq 3::fq 4::fq 5::fq 6::fq 7::fq 8::fq 9::fq 10::fq 11::fq 12::fq 13::fq 14::fq 15::fq 16::fq 17::fq 18::u40::u41::[]),defers:=[] }) (fun n v _=>v=(Value.slice (some ⟨b,off,none⟩) xs.length capA::.int .i64 k::.pointer (some ⟨b,off + k * 2,none⟩)::.pointer (some ⟨b,off + k * 2,none⟩)::.string xs[k].t::.pointer (some ⟨w.heap.size,3,none⟩)::.pointer (some ⟨w.heap.size,3,none⟩)::.string c::.bool false::.bool false::undef::undef::undef::undef::undef::undef::undef::undef::.bool false::[]).getD n undef) (fun w'=>af wr w') (by kernel_rfl) rfl (by kernel_rfl) rfl (Sz _ _).drew ?stepA ?finA;case stepA =>
    rintro i hi o ho fq w' hG hpre;have HG:Hid (af wr w'):=hG;replace t0:=aI hG hb5 t0;replace t1:=aI hG hb5 t1;replace c3:=aI hG hwl c3;replace c5:=aI hG hwl c5;have HM:Hid (∀ e ∈ o.after,Region.binds .any e=true→_):=hpre;clear hG hpre;have hc:=Jk (i:=i) (by omega);clear hi
    repeat' rcases hc with rfl | hc
    iterate 19
     ·cases ho;have hm:=HM.out
      try simp [Region.binds] at hm
      refine aa rfl fun K HK=>?_;clear HM
      try simp only [hm]
      go_simp;exact HK.out _ _ ⟨_,by simp [upd, *],HG.out,rfl,fun k u hu=>hu⟩
   case finA =>
    rintro fq w' hG hall;have e18:fq 18=.bool false:=hall 18 (by omega);have HG:Hid (af wr w'):=hG;clear hall;clear hG;have HB2:Hid (af W0 w'):=HB.out.trans (HG.out.mono HB.out.size);have TG:Hid (dI xs (k + 1) ⟨c,s⟩=false):=by show _=_; rw [YL.out]; simp [jo,h1]
    rw [e18];go_wp2;go_roundw;case rel=>exact ⟨k + 1,by omega,by go_num,TG,HB2⟩
    simp [intOf] <;> omega
  cases h2:(xs[k].s.toList == s.toList);case false=>
   refine ni 19 (fun n=>(u21::u22::u23::u24::u25::u26::u27::u28::u29::u30::u31::u32::u33::u34::u35::u36::u37::u38::u39::[]).getD n undef) (fun fq=>{ tmps:=List.toArray (Value.slice ad rs.length cap::.agg #[.string oa,.string ob,.string r,.string c,.string d,.string s]::undef::.pointer (some ⟨w.heap.size,0,none⟩)::u4::.slice (some ⟨b,off,none⟩) xs.length capA::.int .i64 k::.slice ad rs.length cap::.pointer (some ⟨w.heap.size,0,none⟩)::.pointer (some ⟨w.heap.size,0,none⟩)::.string oa::.pointer (some ⟨w.heap.size,2,none⟩)::.string r::.slice TA rows.length capE::.slice (some ⟨b,off,none⟩) xs.length capA::.int .i64 k::.slice (some ⟨b,off,none⟩) xs.length capA::.int .i64 xs.length::.bool true::u19::u20::fq 0::fq 1::fq 2::fq 3::fq 4::fq 5::fq 6::fq 7::fq 8::fq 9::fq 10::fq 11::fq 12::fq 13::fq 14::fq 15::fq 16::fq 17::fq 18::u40::u41::[]),defers:=[] }) (fun n v _=>v=(Value.slice (some ⟨b,off,none⟩) xs.length capA::.int .i64 k::.pointer (some ⟨b,off + k * 2,none⟩)::.pointer (some ⟨b,off + k * 2,none⟩)::.string xs[k].t::.pointer (some ⟨w.heap.size,3,none⟩)::.pointer (some ⟨w.heap.size,3,none⟩)::.string c::.bool true::.bool true::.slice (some ⟨b,off,none⟩) xs.length capA::.int .i64 k::.pointer (some ⟨b,off + k * 2,none⟩)::.pointer (some ⟨b,off + k * 2 + 1,none⟩)::.string xs[k].s::.pointer (some ⟨w.heap.size,5,none⟩)::.string s::.bool false::.bool false::[]).getD n undef) (fun w'=>af wr w') (by kernel_rfl) rfl (by kernel_rfl) rfl (Sz _ _).drew ?xK ?finB;case xK =>
    rintro i hi o ho fq w' hG hpre;have HG:Hid (af wr w'):=hG;replace t0:=aI hG hb5 t0;replace t1:=aI hG hb5 t1;replace c3:=aI hG hwl c3;replace c5:=aI hG hwl c5;have HM:Hid (∀ e ∈ o.after,Region.binds .any e=true→_):=hpre;clear hG hpre;have hc:=Jk (i:=i) (by omega);clear hi
    repeat' rcases hc with rfl | hc
    iterate 19
     ·cases ho;have hm:=HM.out
      try simp [Region.binds] at hm
      refine aa rfl fun K HK=>?_;clear HM
      try simp only [hm]
      go_simp;exact HK.out _ _ ⟨_,by simp [upd, *],HG.out,rfl,fun k u hu=>hu⟩
   case finB =>
    rintro fq w' hG hall;have e18:fq 18=.bool false:=hall 18 (by omega);have HG:Hid (af wr w'):=hG;clear hall;clear hG;have HB2:Hid (af W0 w'):=HB.out.trans (HG.out.mono HB.out.size);have TG:Hid (dI xs (k + 1) ⟨c,s⟩=false):=by show _=_; rw [YL.out]; simp [jo,h1,h2]
    rw [e18];go_wp2;go_roundw;case rel=>exact ⟨k + 1,by omega,by go_num,TG,HB2⟩
    simp [intOf] <;> omega
  refine ni 19 (fun n=>(u21::u22::u23::u24::u25::u26::u27::u28::u29::u30::u31::u32::u33::u34::u35::u36::u37::u38::u39::[]).getD n undef) (fun fq=>{ tmps:=List.toArray (Value.slice ad rs.length cap::.agg #[.string oa,.string ob,.string r,.string c,.string d,.string s]::undef::.pointer (some ⟨w.heap.size,0,none⟩)::u4::.slice (some ⟨b,off,none⟩) xs.length capA::.int .i64 k::.slice ad rs.length cap::.pointer (some ⟨w.heap.size,0,none⟩)::.pointer (some ⟨w.heap.size,0,none⟩)::.string oa::.pointer (some ⟨w.heap.size,2,none⟩)::.string r::.slice TA rows.length capE::.slice (some ⟨b,off,none⟩) xs.length capA::.int .i64 k::.slice (some ⟨b,off,none⟩) xs.length capA::.int .i64 xs.length::.bool true::u19::u20::fq 0::fq 1::fq 2::fq 3::fq 4::fq 5::fq 6::fq 7::fq 8::fq 9::fq 10::fq 11::fq 12::fq 13::fq 14::fq 15::fq 16::fq 17::fq 18::u40::u41::[]),defers:=[] }) (fun n v _=>v=(Value.slice (some ⟨b,off,none⟩) xs.length capA::.int .i64 k::.pointer (some ⟨b,off + k * 2,none⟩)::.pointer (some ⟨b,off + k * 2,none⟩)::.string xs[k].t::.pointer (some ⟨w.heap.size,3,none⟩)::.pointer (some ⟨w.heap.size,3,none⟩)::.string c::.bool true::.bool true::.slice (some ⟨b,off,none⟩) xs.length capA::.int .i64 k::.pointer (some ⟨b,off + k * 2,none⟩)::.pointer (some ⟨b,off + k * 2 + 1,none⟩)::.string xs[k].s::.pointer (some ⟨w.heap.size,5,none⟩)::.string s::.bool true::.bool true::[]).getD n undef) (fun w'=>af wr w') (by kernel_rfl) rfl (by kernel_rfl) rfl (Sz _ _).drew ?stepC ?finC;case stepC =>
   rintro i hi o ho fq w' hG hpre;have HG:Hid (af wr w'):=hG;replace t0:=aI hG hb5 t0;replace t1:=aI hG hb5 t1;replace c3:=aI hG hwl c3;replace c5:=aI hG hwl c5;have HM:Hid (∀ e ∈ o.after,Region.binds .any e=true→_):=hpre;clear hG hpre;have hc:=Jk (i:=i) (by omega);clear hi
   repeat' rcases hc with rfl | hc
   iterate 19
    ·cases ho;have hm:=HM.out
     try simp [Region.binds] at hm
     refine aa rfl fun K HK=>?_;clear HM
     try simp only [hm]
     go_simp;exact HK.out _ _ ⟨_,by simp [upd, *],HG.out,rfl,fun k u hu=>hu⟩
  case finC =>
   rintro fq w' hG hall;have e18:fq 18=.bool true:=hall 18 (by omega);have HG:Hid (af wr w'):=hG;clear hall;replace c0:=aI hG hwl c0;replace c1:=aI hG hwl c1;replace c2:=aI hG hwl c2;replace c3:=aI hG hwl c3;replace c4:=aI hG hwl c4;replace c5:=aI hG hwl c5;clear hG;rw [e18];have HN:Hid (si (ah rs) oa ob r c d s=bF oa ob r c d s):=by show _=_; unfold si; rw [← WN.out,Le hlt (by simp [jo,h1,h2])]; rfl
   go_wp2_with fail;refine (dW oa ob r c d s _ ha hb hr hc hd hz).mono ?_;rintro e w2 ⟨rfl,hb2⟩;have HB2:Hid (af w w2):=TB.out.trans ((HG.out.mono TB.out.size).trans (hb2.mono (SF TB.out.size HG.out.size)));clear hb2;go_wp2;go_ret;exact ⟨by rw [HN.out]; rfl,HB2.out⟩
 obtain rfl:k=xs.length:=by omega
 have HN:Hid (si (ah rs) oa ob r c d s=false):=by show _=_; unfold si; rw [← WN.out,HP.out]; rfl
 go_wp2;go_ret;exact ⟨by rw [HN.out]; rfl,TB.out⟩
set_option maxRecDepth 100000 in
theorem D7 (ad:Option Addr) (cap:Nat) (rs:List TR) (oa ob r c d s:aD) (w:ae) (hlen:rs.length≤1048576) (hs:mD w ad rs) (hl:∀ r ∈ rs,r.light) (hf:∀ r ∈ rs,r.fits) (ha:oa.size≤maxLen) (hb:ob.size≤maxLen) (hr:r.size≤maxLen) (hc:c.size≤maxLen) (hd:d.size≤maxLen) (hz:s.size≤maxLen) :
  Calls prog 87 #[.slice ad rs.length cap,.agg #[.string oa,.string ob,.string r,.string c,.string d,.string s]] w fun e w'=>e=.returned (.bool (CK (ah rs) oa ob r c d s))∧af w w':=by
 have HS:=az hs;have HL:=az hl;have TP:=az hf;clear hs hl hf;obtain ⟨W0,hW0⟩:∃ W0,W0=w.alloc (.cells #[.string oa,.string ob,.string r,.string c,.string d,.string s] 46):=⟨_,rfl⟩;have hal:af w W0:=by rw [hW0]; exact (Sz _ _).alloc (Sy _) _
 have HB0:=az hal;have hw0:w.heap.size < W0.heap.size:=by rw [hW0]; simp
 have c0:W0.cell? ⟨w.heap.size,0,none⟩=some (.string oa):=by rw [hW0]; simp
 have c1:W0.cell? ⟨w.heap.size,1,none⟩=some (.string ob):=by rw [hW0]; simp
 have c2:W0.cell? ⟨w.heap.size,2,none⟩=some (.string r):=by rw [hW0]; simp
 have c3:W0.cell? ⟨w.heap.size,3,none⟩=some (.string c):=by rw [hW0]; simp
 have c4:W0.cell? ⟨w.heap.size,4,none⟩=some (.string d):=by rw [hW0]; simp
 have c5:W0.cell? ⟨w.heap.size,5,none⟩=some (.string s):=by rw [hW0]; simp
 clear hal;go_enter func87,ntmps87;go_wp2_with fail;rw [← hW0];clear hW0;refine (jV ad cap rs _ hlen (HS.out.below HB0.out) HL.out TP.out).mono ?_;rintro e w1 ⟨rfl,hb1⟩;have HB1:=jI HB0 hb1;have hw1:w.heap.size < w1.heap.size:=Sv hw0 hb1.size;replace c0:=aI hb1 hw0 c0;replace c1:=aI hb1 hw0 c1;replace c2:=aI hb1 hw0 c2;replace c3:=aI hb1 hw0 c3;replace c4:=aI hb1 hw0 c4;replace c5:=aI hb1 hw0 c5;clear hb1 hw0;cases hd5:bn (ah rs);case false=>
  have HN:Hid (CK (ah rs) oa ob r c d s=false):=by show _=_; unfold CK; rw [hd5]; rfl
  go_wp2;go_ret;exact ⟨by rw [HN.out]; rfl,HB1.out⟩
 have HN:Hid (CK (ah rs) oa ob r c d s=si (ah rs) oa ob r c d s):=by show _=_; unfold CK; rw [hd5]; rfl
 go_wp2_with fail;refine (Au ad cap rs oa ob r c d s _ hlen (HS.out.below HB1.out) HL.out ha hb hr hc hd hz).mono ?_;rintro e w2 ⟨rfl,hb2⟩;have HB2:=jI HB1 hb2;clear hb2;go_wp2;go_ret;exact ⟨by rw [HN.out]; rfl,HB2.out⟩
set_option linter.unusedVariables false
set_option maxRecDepth 100000
theorem ig.only {wc wd:ae} {R base:Nat} {v:Value} {rs:List TR} (h:ig wc base v rs) (hR:R < base) (ho:Only R wc wd):ig wd base v rs :=
 h.heap mE ho.size fun g hg=>ho.block g (h.lt mE hg).2 (fun e=>by injection e with e; have:=(h.lt mE hg).1; omega)
theorem ig.slT {w:ae} {R base cap:Nat} {Ui:Option Addr} {rs:List TR} (h:ig w base (.slice Ui rs.length cap) rs) (hR:R < base):∀ W,Only R w W→mD W Ui rs:=fun W hO=>by
 obtain ⟨TH,cap',e,hs,-⟩:=(h.only hR hO).read;injection e with e1 e2 e3;subst e1;exact hs
def N8 (w:World) (n:Nat) (a b r c d s:ByteArray):Prop:=w.cell? ⟨n,0,none⟩=some (.string a)∧w.cell? ⟨n,1,none⟩=some (.string b)∧w.cell? ⟨n,2,none⟩=some (.string r)∧w.cell? ⟨n,3,none⟩=some (.string c)∧w.cell? ⟨n,4,none⟩=some (.string d)∧w.cell? ⟨n,5,none⟩=some (.string s)
theorem N8.same {w w':ae} {n:Nat} {a b r c d s:ByteArray} (h:N8 w n a b r c d s) (hk:∀ o,w'.cell? ⟨n,o,none⟩=w.cell? ⟨n,o,none⟩):N8 w' n a b r c d s :=
 ⟨(hk _).trans h.1,(hk _).trans h.2.1,(hk _).trans h.2.2.1,(hk _).trans h.2.2.2.1,(hk _).trans h.2.2.2.2.1,(hk _).trans h.2.2.2.2.2⟩
theorem D8 {w w':ae} {base g c n:Nat} {xs:List Value} (h:w.ownsRow base 46 6 (.slice (some ⟨g,0,none⟩) n c) n xs) (hb:af w w'):w'.ownsRow base 46 6 (.slice (some ⟨g,0,none⟩) n c) n xs :=
 h.kept (row:=none) ⟨hb.os,hb.tape,hb.output,hb.size,fun i hi _=>hb.block i hi⟩ (.inr (by simp [Value.ownBlock]))
theorem Iq (R:Nat) (ad:Option Addr) (len cap:Nat) (n:Nat) (w:ae) (h:Rd w R ad len cap) (h1:1≤n) (h2:n≤200000) :
  Calls prog 49 #[.pointer (some ⟨R,0,none⟩),.int .i64 (n:Int)] w fun e w'=>(∃ x:Nat,e=.returned (.int .i64 (x:Int))∧x < n)∧Rd w' R ad len cap∧Only R w w':=by
 by_cases hn:n≤256
 ·exact fI R ad len cap n w h h1 hn
 have H:=az h;clear h;have hne:((n:Int) == 0)=false:=by simp; omega
 have hn1:¬ (n:Int)≤1:=by omega
 have hn2:¬ (n:Int)≤256:=by omega
 go_enter func49,ntmps49;go_wp2_with fail;refine (tX R ad len cap _ H.out).mono ?_;rintro e w1 ⟨⟨x,rfl,hx0,hx1⟩,Ue,Ua⟩;have HR:=az Ue;have HO:=az Ua;have hw1:IntKind.i64.wrap (x * 256)=x * 256:=by rw [IntKind.wrap_i64]; omega
 clear Ue Ua;go_wp2_with fail;refine (tX R ad len cap _ HR.out).mono ?_;rintro e w2 ⟨⟨y,rfl,hy0,hy1⟩,hR2,hO2⟩;have HR2:=az hR2;have Tx:Hid (Only R w w2):=HO.out.trans hO2;have hw2:IntKind.i64.wrap (x * 256 + y)=x * 256 + y:=by rw [IntKind.wrap_i64]; omega
 obtain ⟨z,hz⟩:∃ z:Nat,(x * 256 + y)=(z:Int):=⟨(x * 256 + y).toNat,by omega⟩;have HZ:Hid ((x * 256 + y) % (n:Int)=((z % n:Nat):Int)):=by show _=_; rw [hz]; exact (Int.natCast_emod z n).symm
 clear hR2 hO2 hz;go_wp2;go_ret;exact ⟨⟨z % n,by rw [← HZ.out]; rfl,Nat.mod_lt _ (by omega)⟩,HR2.out,Tx.out⟩
theorem Bq (R:Nat) (ad:Option Addr) (len cap:Nat) (Ui:Option Addr) (TZ base:Nat) (rs:List TR) (w:ae) (h:Rd w R ad len cap) (hRb:R < base) (hT:ig w base (.slice Ui rs.length TZ) rs) (hG:GoodS rs) :
  Calls prog 46 #[.pointer (some ⟨R,0,none⟩),.slice Ui rs.length TZ,.int .i64 12] w fun e w'=>(∃ (g c:Nat) (ts:List Tp),e=.returned (.slice (some ⟨g,0,none⟩) ts.length c)∧ts.length≤12∧nV ts∧w'.ownsRow w.heap.size 46 6 (.slice (some ⟨g,0,none⟩) ts.length c) ts.length (bB ts))∧Rd w' R ad len cap∧Only R w w':=by
 have WA:=h.lt;have HS:Hid (∀ W,Only R w W→mD W Ui rs):=hT.slT hRb;obtain ⟨hG1,hG2,hG3⟩:=hG;have hlen:rs.length≤1048576:=by omega
 have HL:=cO hG2;have HF:=cO hG3;clear hG2 hG3 hT;obtain ⟨W0,hW0⟩:∃ W0,W0=w.alloc (.cells #[] 46):=⟨_,rfl⟩;have Uw:Hid (W0.ownsRow w.heap.size 46 6 (.slice (some ⟨w.heap.size,0,none⟩) 0 0) 0 (bB [])):=by
  show World.ownsRow _ _ _ _ _ _ _;rw [hW0]; exact World.ownsRow_lit w #[] 0 (Sy _) (by unfold maxLen; omega) (by simp)
 have UN:Hid (Rd W0 R ad len cap):=by show Rd _ _ _ _ _; rw [hW0]; exact h.alloc _
 have UC:Hid (Only R w W0):=by show Only _ _ _; rw [hW0]; exact (Only.refl _ _).alloc _
 clear h;go_enter func46,ntmps46;go_wp2_with fail;rw [← hW0];clear hW0;refine (bQ R ad len cap 13 _ UN.out (by omega) (by omega)).mono ?_;rintro e w1 ⟨⟨x,rfl,hx0,hx1⟩,Ue,Ua⟩;have HR1:=cO Ue;have TE:Hid (Only R w w1):=UC.out.trans Ua;have HL1:Hid (w1.ownsRow w.heap.size 46 6 (.slice (some ⟨w.heap.size,0,none⟩) 0 0) 0 (bB [])):=iV Uw.out WA Ua;clear Ue Ua Uw UN UC;go_wp2_with fail;go_loopw [7,8] (fun v i wr=>∃ (k:Nat) (ts:List Tp) (g c:Nat),i=.int .i64 k∧ts.length + k≤12∧v=.slice (some ⟨g,0,none⟩) ts.length c∧Hid (nV ts)∧Hid (wr.ownsRow w.heap.size 46 6 v ts.length (bB ts))∧Hid (Rd wr R ad len cap)∧Hid (Only R w wr)) (fun _ i _=>(intOf i).toNat);case atStart=>exact ⟨x.toNat,[],w.heap.size,0,by rw [Int.toNat_of_nonneg hx0],by simp; omega,rfl,KU,HL1,HR1,TE⟩
 clear HL1 HR1 TE hx0 hx1;obtain ⟨k,ts,g,c,rfl,hk,rfl,HSh,ZM,HR,HO⟩:=hrel;by_cases hk0:0 < k
 ·have hk1:(0:Int) < (k:Int):=by omega
  go_wp2_with fail;refine (KI R ad len cap _ HR.out).mono ?_;rintro e w2 ⟨⟨a,b,r,c2,d,s,rfl,ha,hb,hr,hc,hd,hs⟩,hR2,hO2⟩;have HT:Hid (Tp.short ⟨a,b,r,c2,d,s⟩):=⟨ha,hb,hr,hc,hd,hs⟩;obtain ⟨f1,f2,f3,f4,f5,f6⟩:=HT.out.fits;obtain ⟨W2,hW2⟩:∃ W2,W2=w2.alloc (.cells #[.string a,.string b,.string r,.string c2,.string d,.string s] 46):=⟨_,rfl⟩;have HR2:Hid (Rd W2 R ad len cap):=by show Rd _ _ _ _ _; rw [hW2]; exact hR2.alloc _
  have Tx:Hid (Only R w W2):=by show Only _ _ _; rw [hW2]; exact (HO.out.trans hO2).alloc _
  have HOw2:Hid (W2.ownsRow w.heap.size 46 6 (.slice (some ⟨g,0,none⟩) ts.length c) ts.length (bB ts)):=by show World.ownsRow _ _ _ _ _ _ _; rw [hW2]; exact (iV ZM.out WA hO2).alloc _
  have hz2:w2.heap.size < W2.heap.size:=by rw [hW2]; simp
  have hnR:w2.heap.size ≠ R:=by have:=hR2.lt; omega
  have HC:Hid (N8 W2 w2.heap.size a b r c2 d s):=by
   show N8 _ _ _ _ _ _ _ _;rw [hW2]; refine ⟨?_,?_,?_,?_,?_,?_⟩ <;> simp
  clear ha hb hr hc hd hs hR2 hO2 HR HO ZM;go_wp2_with fail;rw [← hW2];clear hW2;refine (D7 Ui TZ rs _ _ _ _ _ _ _ hlen (HS.out _ Tx.out) HL.out HF.out f1 f2 f3 f4 f5 f6).mono ?_;rintro e w3 ⟨rfl,hb3⟩;have HR3:=az (HR2.out.below hb3);have Ub:=az (Tx.out.below hb3);have WS:=cO (D8 HOw2.out hb3);have XE:=cO (HC.out.same fun o=>hb3.cell (p:=⟨_,o,none⟩) hz2);have hz3:=Sv hz2 hb3.size;clear hb3 HR2 Tx HOw2 HC hz2;cases hq:CK (ah rs) a b r c2 d s;case true=>
   obtain ⟨c0,c1,c2',c3,c4,c5⟩:=XE.out;clear hq;have HA:=cO (rZ g 0 c ts ⟨a,b,r,c2,d,s⟩ w3 (by omega) (kr WS.out rfl).2.2.1 (kr WS.out rfl).1 (kr WS.out rfl).2.1 HSh.out.fits HT.out.fits);go_wp2_with fail;refine HA.out.mono ?_;rintro e w5 ⟨v5,rfl,hown5,hb5⟩;have TU:=az (HR3.out.below hb5);have TK:=az (Ub.out.below hb5);clear c0 c1 c2' c3 c4 c5;cases hz:rQ ts ⟨a,b,r,c2,d,s⟩;case true=>
    rw [Ae hz,rq] at hown5;obtain ⟨g3,c3,rfl⟩:=r9 hown5;have Xt:Hid (w5.ownsRow w.heap.size 46 6 (.slice (some ⟨g3,0,none⟩) (ts.length + 1) c3) (ts.length + 1) (bB (jF ts ⟨a,b,r,c2,d,s⟩))):=dC hown5 Ub.out.size;have HSh5:Hid (nV (jF ts ⟨a,b,r,c2,d,s⟩)):=HSh.out.put HT.out;have Xa:=cO (rq ts ⟨a,b,r,c2,d,s⟩);have HQ:=cO hz;clear hown5 hb5 hz HA WS HR3 Ub;go_wp2;go_roundw;case rel=>exact ⟨k - 1,jF ts ⟨a,b,r,c2,d,s⟩,g3,c3,by rw [show ((k - 1:Nat):Int)=(k:Int) - 1 by omega],by rw [Xa.out]; omega,by rw [Xa.out],HSh5,by rw [Xa.out]; exact Xt,TU,TK⟩
    simp [intOf]; omega
   have Xt:=cO (D8 WS.out hb5);rw [rf hz] at hown5;obtain ⟨ad5,cap5,hv5,-,-⟩:=NN (ts:=[]) hown5 rfl;subst hv5;have HQ:=cO hz;clear hown5 hb5 hz HA WS HR3 Ub;go_wp2;go_roundw;case rel=>exact ⟨k - 1,ts,g,c,by rw [show ((k - 1:Nat):Int)=(k:Int) - 1 by omega],by omega,rfl,HSh,Xt,TU,TK⟩
   simp [intOf]; omega
  clear hq;go_wp2_with fail;refine (iM R ad len cap 60 _ HR3.out (by omega) (by omega)).mono ?_;rintro e w4 ⟨⟨q,rfl⟩,WB,hO4⟩;have HR4:=cO WB;have TI:Hid (Only R w w4):=Ub.out.trans hO4;have Xu:=cO (iV WS.out WA hO4);have HC4:=cO (XE.out.same fun o=>hO4.cell (b:=w2.heap.size) (o:=o) hz3 hnR);clear WB hO4 HR3 Ub WS XE;cases q;case true=>
   obtain ⟨c0,c1,c2',c3,c4,c5⟩:=HC4.out;have HA:=cO (rZ g 0 c ts ⟨a,b,r,c2,d,s⟩ w4 (by omega) (kr Xu.out rfl).2.2.1 (kr Xu.out rfl).1 (kr Xu.out rfl).2.1 HSh.out.fits HT.out.fits);go_wp2_with fail;refine HA.out.mono ?_;rintro e w5 ⟨v5,rfl,hown5,hb5⟩;have TU:=az (HR4.out.below hb5);have TK:=az (TI.out.below hb5);clear c0 c1 c2' c3 c4 c5;cases hz:rQ ts ⟨a,b,r,c2,d,s⟩;case true=>
    rw [Ae hz,rq] at hown5;obtain ⟨g3,c3,rfl⟩:=r9 hown5;have Xt:Hid (w5.ownsRow w.heap.size 46 6 (.slice (some ⟨g3,0,none⟩) (ts.length + 1) c3) (ts.length + 1) (bB (jF ts ⟨a,b,r,c2,d,s⟩))):=dC hown5 TI.out.size;have HSh5:Hid (nV (jF ts ⟨a,b,r,c2,d,s⟩)):=HSh.out.put HT.out;have Xa:=cO (rq ts ⟨a,b,r,c2,d,s⟩);have HQ:=cO hz;clear hown5 hb5 hz HA Xu HR4 TI;go_wp2;go_roundw;case rel=>exact ⟨k - 1,jF ts ⟨a,b,r,c2,d,s⟩,g3,c3,by rw [show ((k - 1:Nat):Int)=(k:Int) - 1 by omega],by rw [Xa.out]; omega,by rw [Xa.out],HSh5,by rw [Xa.out]; exact Xt,TU,TK⟩
    simp [intOf]; omega
   have Xt:=cO (D8 Xu.out hb5);rw [rf hz] at hown5;obtain ⟨ad5,cap5,hv5,-,-⟩:=NN (ts:=[]) hown5 rfl;subst hv5;have HQ:=cO hz;clear hown5 hb5 hz HA Xu HR4 TI;go_wp2;go_roundw;case rel=>exact ⟨k - 1,ts,g,c,by rw [show ((k - 1:Nat):Int)=(k:Int) - 1 by omega],by omega,rfl,HSh,Xt,TU,TK⟩
   simp [intOf]; omega
  go_wp2;go_roundw;case rel=>exact ⟨k - 1,ts,g,c,by rw [show ((k - 1:Nat):Int)=(k:Int) - 1 by omega],by omega,rfl,HSh,Xu,HR4,TI⟩
  simp [intOf]; omega
 obtain rfl:k=0:=by omega
 go_wp2;go_ret;exact ⟨⟨g,c,ts,rfl,by omega,HSh.out,ZM.out⟩,HR.out,HO.out⟩
structure Few {φ υ:Type} (us:φ→υ) (H:List φ→φ→Bool) (qs:List φ) (users:List υ) (out:List φ):Prop where
 set:∀ f ∈ qs,us f ∉ users→f ∈ out ∨ H out f=false
theorem Few.start {φ υ:Type} {us:φ→υ} {H:List φ→φ→Bool} {qs:List φ} {users:List υ} {out:List φ} (h:∀ f ∈ qs,us f ∈ users):Few us H qs users out:=⟨fun f hf hn=>absurd (h f hf) hn⟩
section
variable {φ υ:Type} [DecidableEq φ] {us:φ→υ} {H:List φ→φ→Bool}
def Loc (us:φ→υ) (H:List φ→φ→Bool):Prop:=∀ (a b:List φ) (f:φ),(∀ g,us g=us f→(g ∈ a ↔ g ∈ b))→H a f=H b f
def fZ (H:List φ→φ→Bool) (out:List φ) (f:φ):List φ:=if f ∈ out ∨ H out f=false then out else out ++ [f]
def bY (H:List φ→φ→Bool) (qs:List φ) (out:List φ):List φ:=qs.foldl (fZ H) out
theorem N9 (out:List φ):bY H [] out=out:=rfl
theorem rA (q:φ) (qs out:List φ):bY H (q::qs) out=bY H qs (fZ H out q):=rfl
theorem FO (zas bs out:List φ):bY H (zas ++ bs) out=bY H bs (bY H zas out):=by unfold bY; rw [List.foldl_append]
theorem wD (out:List φ) (f:φ):∃ new,fZ H out f=out ++ new∧∀ g ∈ new,g=f∧g ∉ out∧H out f=true:=by
 unfold fZ;split
 ·exact ⟨[],by simp,fun g hg=>by cases hg⟩
 rename_i h;refine ⟨[f],rfl,fun g hg=>?_⟩;rw [SG] at hg;subst hg;refine ⟨rfl,fun e=>h (.inl e),?_⟩;cases e:H out g;case true=>rfl
 exact absurd (.inr e) h
theorem kI:∀ (qs out:List φ),∃ new,bY H qs out=out ++ new∧∀ g ∈ new,g ∈ qs∧g ∉ out
 | [],out=>⟨[],by simp [N9],fun g hg=>by cases hg⟩
 | q::qs,out=>by
  obtain ⟨n1,e1,h1⟩:=wD (H:=H) out q;obtain ⟨n2,e2,h2⟩:=kI qs (fZ H out q);refine ⟨n1 ++ n2,by rw [rA,e2,e1,List.append_assoc],fun g hg=>?_⟩;rcases SI.1 hg with hg | hg
  ·exact ⟨by rw [(h1 g hg).1]; exact Tt ..,(h1 g hg).2.1⟩
  obtain ⟨h3,h4⟩:=h2 g hg;exact ⟨Tj _ h3,fun e=>h4 (by rw [e1]; exact List.mem_append_left _ e)⟩
theorem qE {qs out:List φ} {g:φ} (h:g ∈ out):g ∈ bY H qs out:=by
 obtain ⟨n,e,-⟩:=kI (H:=H) qs out;rw [e]; exact List.mem_append_left _ h
theorem wE {out:List φ} {f g:φ} (h:g ∈ out):g ∈ fZ H out f:=by
 obtain ⟨n,e,-⟩:=wD (H:=H) out f;rw [e]; exact List.mem_append_left _ h
theorem Ir {out:List φ} (h:out.Nodup) (f:φ):(fZ H out f).Nodup:=by
 unfold fZ;split
 ·exact h
 rename_i hn;refine List.nodup_append.2 ⟨h,by simp,fun a ha b hb e=>?_⟩;rw [SG] at hb;subst hb;subst e;exact hn (.inl ha)
theorem wF:∀ (qs:List φ) {out:List φ},out.Nodup→(bY H qs out).Nodup
 | [],_,h=>h
 | q::qs,_,h=>wF qs (Ir h q)
theorem Lf {qs out:List φ} (h:∀ f ∈ qs,f ∈ out ∨ H out f=false):bY H qs out=out:=by
 induction qs with
 | nil=>rfl
 | cons q qs ih =>
  have e:fZ H out q=out:=if_pos (h q (Tt ..));rw [rA,e];exact ih fun f hf=>h f (Tj _ hf)
theorem mR (hL:Loc us H) (P:υ→Bool):∀ (qs out:List φ),(∀ f ∈ qs,P (us f)=false→f ∈ out ∨ H out f=false)→bY H qs out=bY H (qs.filter fun f=>P (us f)) out
 | [],_,_=>rfl
 | q::qs,out,h=>by
  rw [rA,List.filter_cons];cases hp:P (us q);case false=>
   have e:fZ H out q=out:=if_pos (h q (Tt ..) hp);rw [e];exact mR hL P qs out fun f hf=>h f (Tj _ hf)
  rw [if_pos rfl,rA];refine mR hL P qs _ fun f hf hpf=>?_;have hne:us f ≠ us q:=fun e=>by rw [e,hp] at hpf; cases hpf
  obtain ⟨n,e,hn⟩:=wD (H:=H) out q;have hm:∀ g,us g=us f→(g ∈ out ↔ g ∈ fZ H out q):=fun g hg=>by
   rw [e];refine ⟨fun h=>List.mem_append_left _ h,fun h=>?_⟩;rcases SI.1 h with h | h
   ·exact h
   exact absurd (by rw [(hn g h).1] at hg; exact hg.symm) hne
  rcases h f (Tj _ hf) hpf with h1 | h1
  ·exact .inl ((hm f rfl).1 h1)
  exact .inr (by rw [← hL out _ f hm]; exact h1)
theorem uX (hL:Loc us H) (u:υ):∀ (qs out:List φ),(∀ g ∈ bY H qs out,us g=u→g ∈ out)→∀ f ∈ qs,us f=u→f ∈ bY H qs out ∨ H (bY H qs out) f=false
 | [],_,_,f,hf,_=>by cases hf
 | q::qs,out,h,f,hf,hu=>by
  have hsame:∀ g,us g=u→(g ∈ fZ H out q ↔ g ∈ bY H qs (fZ H out q)):=fun g hg=>⟨fun h1=>qE h1,fun h1=>wE (h g h1 hg)⟩;have hrest:∀ g ∈ bY H qs (fZ H out q),us g=u→g ∈ fZ H out q:=fun g h1 h2=>(hsame g h2).2 h1;rcases List.mem_cons.1 hf with rfl | hf
  ·show f ∈ bY H qs (fZ H out f) ∨ H (bY H qs (fZ H out f)) f=false;by_cases hq:f ∈ out ∨ H out f=false
   ·rcases hq with h1 | h1
    ·exact .inl (qE (wE h1))
    refine .inr ?_;rw [← hL out _ f fun g hg=>?_]
    ·exact h1
    exact ⟨fun h2=>qE (wE h2),fun h2=>h g h2 (hg.trans hu)⟩
   have e:fZ H out f=out ++ [f]:=if_neg hq;exact .inl (qE (by rw [e]; simp))
  exact uX hL u qs _ hrest f hf hu
def mU (H:List φ→φ→Bool) (qs:List φ):Nat→List φ→List φ
 | 0,out=>out
 | k + 1,out=>if bY H qs out=out then out else mU H qs k (bY H qs out)
def mV (qs out:List φ):Nat:=(qs.filter fun f=>decide (f ∉ out)).length
theorem Oa (qs:List φ) {a b:List φ} (h:∀ g ∈ a,g ∈ b):mV qs b≤mV qs a:=by
 unfold mV
 induction qs with
 | nil=>simp
 | cons q qs ih =>
  simp only [List.filter_cons];by_cases hb:q ∈ b
  ·by_cases ha:q ∈ a
   ·simp [ha,hb]; simpa using ih
   simp [ha,hb]; have:=ih; simp at this; omega
  have ha:q ∉ a:=fun e=>hb (h q e);simp [ha,hb]; simpa using ih
theorem Oc (qs:List φ) {a b:List φ} (h:∀ g ∈ a,g ∈ b) {x:φ} (hx:x ∈ qs) (ha:x ∉ a) (hb:x ∈ b):mV qs b < mV qs a:=by
 induction qs with
 | nil=>cases hx
 | cons q qs ih =>
  have hle:=Oa qs h;unfold mV at ih hle ⊢;simp only [List.filter_cons];rcases List.mem_cons.1 hx with rfl | hx
  ·simp [ha,hb]; simp at hle; omega
  have:=ih hx;by_cases h1:q ∈ b
  ·by_cases h2:q ∈ a
   ·simp [h1,h2]; simpa using this
   simp [h1,h2]; simp at this; omega
  have h2:q ∉ a:=fun e=>h1 (h q e);simp [h1,h2]; simpa using this
theorem CL {qs out:List φ} (h:bY H qs out ≠ out):mV qs (bY H qs out) < mV qs out:=by
 obtain ⟨n,e,hn⟩:=kI (H:=H) qs out;cases n with
 | nil=>exact absurd (by simpa using e) h
 | cons x n =>
  obtain ⟨h1,h2⟩:=hn x (Tt ..);exact Oc qs (fun g hg=>qE hg) h1 h2 (by rw [e]; simp)
theorem Av (qs:List φ):∀ (k j:Nat) (out:List φ),mV qs out < k→mV qs out < j→mU H qs k out=mU H qs j out
 | 0,_,_,h,_=>absurd h (Tn _)
 | _ + 1,0,_,_,h=>absurd h (Tn _)
 | k + 1,j + 1,out,h1,h2=>by
  unfold mU;by_cases e:bY H qs out=out
  ·rw [if_pos e,if_pos e]
  rw [if_neg e,if_neg e];have:=CL (H:=H) e;exact Av qs k j _ (by omega) (by omega)
def o7 (H:List φ→φ→Bool) (qs out:List φ):List φ:=mU H qs (mV qs out + 1) out
theorem wG {qs out:List φ} (h:bY H qs out=out):o7 H qs out=out:=by
 unfold o7 mU; rw [if_pos h]
theorem CO (qs out:List φ):o7 H qs (bY H qs out)=o7 H qs out:=by
 by_cases h:bY H qs out=out
 ·rw [h]
 have hlt:=CL (H:=H) h;have e:o7 H qs out=mU H qs (mV qs out) (bY H qs out):=by
  show mU H qs (mV qs out + 1) out=_;rw [mU,if_neg h]
 rw [e];unfold o7;exact Av qs _ _ _ (Nat.lt_succ_self _) hlt
theorem Od (out:List φ):o7 H [] out=out:=wG rfl
theorem CP (qs:List φ):∀ (k:Nat) (out:List φ),∃ new,mU H qs k out=out ++ new∧∀ g ∈ new,g ∈ qs
 | 0,out=>⟨[],by simp [mU],fun g hg=>by cases hg⟩
 | k + 1,out=>by
  unfold mU;split
  ·exact ⟨[],by simp,fun g hg=>by cases hg⟩
  obtain ⟨n1,e1,h1⟩:=kI (H:=H) qs out;obtain ⟨n2,e2,h2⟩:=CP qs k (bY H qs out);refine ⟨n1 ++ n2,by rw [e2,e1,List.append_assoc],fun g hg=>?_⟩;rcases SI.1 hg with hg | hg
  ·exact (h1 g hg).1
  exact h2 g hg
theorem Aw (qs:List φ):∀ (k:Nat) {out:List φ},out.Nodup→(mU H qs k out).Nodup
 | 0,_,h=>h
 | k + 1,out,h=>by
  unfold mU;split
  ·exact h
  exact Aw qs k (wF qs h)
theorem Lg (qs:List φ) {out:List φ} (h:out.Nodup):(o7 H qs out).Nodup:=Aw qs _ h
theorem Few.round [DecidableEq υ] (hL:Loc us H) {qs:List φ} {users:List υ} {out:List φ} (h:Few us H qs users out):bY H (qs.filter fun f=>decide (us f ∈ users)) out=bY H qs out :=
 (mR hL (fun u=>decide (u ∈ users)) qs out fun f hf hp=>h.set f hf (by simpa using hp)).symm
theorem Few.next [DecidableEq υ] (hL:Loc us H) {qs:List φ} {users YM:List υ} {out new:List φ} (h:Few us H qs users out) (hn:bY H qs out=out ++ new) (hu:∀ u,u ∈ YM ↔ u ∈ users∧∃ g ∈ new,us g=u):Few us H qs YM (out ++ new):=by
 refine ⟨fun f hf hnf=>?_⟩;have key:∀ g ∈ bY H qs out,us g=us f→g ∈ out:=fun g hg hgu=>by
  rw [hn] at hg;rcases SI.1 hg with hg | hg
  ·exact hg
  by_cases hin:us f ∈ users
  ·exact absurd ((hu _).2 ⟨hin,g,hg,hgu⟩) hnf
  -- a user that was left out before finds none
  have e:=h.round hL;obtain ⟨n2,e2,h2⟩:=kI (H:=H) (qs.filter fun f=>decide (us f ∈ users)) out;rw [e,hn] at e2;have e3:new=n2:=List.append_cancel_left e2;rw [e3] at hg;have h3:=(h2 g hg).1;rw [Tm] at h3;have h4:us g ∈ users:=by simpa using h3.2
  rw [hgu] at h4;exact absurd h4 hin
 have:=uX hL (us f) qs out key f hf rfl;rw [hn] at this;exact this
theorem Few.done {qs:List φ} {out:List φ} (h:Few us H qs [] out):o7 H qs out=out:=wG (Lf fun f hf=>h.set f hf List.not_mem_nil)
end
end Go.Proofs.YtajkkeikihhejaaGreat
