/- Contract of the document's look whether a tuple fits a schema that is right. -/
import Derived.Test.YtdaoiceeidoehaaGreatJ29
open Go.Proofs.Tryz
set_option maxHeartbeats 80000000
namespace Go.Proofs.YtdaoiceeidoehaaGreat
open Go.ChangeShapes Go.WideShapes Go.ChangeAt Go.RowKit Go.Maps
open Pl
def vN (ts:List Ty) (oa ob r c d s:ByteArray):Bool:=dh (aQ (ax ts oa r)) (aQ (ax ts oa r)).length ⟨c,s⟩ && df oa ob r c d s
theorem Fw:∀ {es:List Ex} (a:Al),own es=0→es.any (lm a)=false
 | [],_,_=>rfl
 | e::es,a,h=>by
  by_cases h1:e.kind=1
  ·simp [own,h1] at h
  ·rw [List.any_cons,Fw a (by simpa [own,h1] using h)];simp [lm,h1]
theorem Fx:∀ {es:List Ex} (a:Al),own es≤1→es.any (lm a)=dh (aQ es) (aQ es).length a
 | [],_,_=>rfl
 | e::es,a,h=>by
  by_cases h1:e.kind=1
  ·rw [List.any_cons,Fw a (by simp [own,h1] at h; simpa [own] using h)];simp [lm,h1,aQ]
  ·rw [List.any_cons,Fx a (by simpa [own,h1] using h)];simp [lm,h1,aQ]
theorem KN {xs:List Al} {a:Al} {k:Nat} (h:k < xs.length) (hk:je xs[k] a=true):dh xs xs.length a=true:=by
 unfold dh;rw [Sc,Sw];exact ⟨_,RY h,hk⟩
theorem QC {es:List Ex} (h:aU es=true):own es≤1:=by
 unfold aU at h; simp at h; omega
theorem Pq {rs:List TR} (h:bG (ae rs)) (ty n:ByteArray):own (ax (ae rs) ty n)≤1:=by
 unfold ax;cases e:dX (ae rs) ty n with
 | none=>simp [own]
 | some es =>
  obtain ⟨t,ht,q,hq,-,-,rfl⟩:=oN e;exact QC ((bH h.1).2.2 t ht q hq).1
set_option maxRecDepth 100000 in
theorem Ik (ad:Option Addr) (cap:Nat) (rs:List TR) (oa ob r c d s:ByteArray) (w:World) (hlen:rs.length≤1048576) (hs:jd w ad rs) (hl:∀ r ∈ rs,r.light) (ha:oa.size≤maxLen) (hb:ob.size≤maxLen) (hr:r.size≤maxLen) (hc:c.size≤maxLen) (hd:d.size≤maxLen) (hz:s.size≤maxLen) :
  Calls prog 54 #[.slice ad rs.length cap,.agg #[.string oa,.string ob,.string r,.string c,.string d,.string s]] w fun e w'=>e=.returned (.bool (vN (ae rs) oa ob r c d s))∧Below w.heap.size w w':=by
 have HS:=aC hs;have HL:=aC hl;clear hs hl;obtain ⟨W0,hW0⟩:∃ W0,W0=w.alloc (.cells #[.string oa,.string ob,.string r,.string c,.string d,.string s] 73):=⟨_,rfl⟩;have hal:Below w.heap.size w W0:=by rw [hW0]; exact (R3 _ _).alloc (R4 _) _
 have HB0:=aC hal;have Uk:Hid (W0.cell? ⟨w.heap.size,0,none⟩=some (.string oa)∧W0.cell? ⟨w.heap.size,1,none⟩=some (.string ob)∧W0.cell? ⟨w.heap.size,2,none⟩=some (.string r)∧W0.cell? ⟨w.heap.size,3,none⟩=some (.string c)∧W0.cell? ⟨w.heap.size,4,none⟩=some (.string d)∧W0.cell? ⟨w.heap.size,5,none⟩=some (.string s)∧w.heap.size < W0.heap.size):=by
  show _∧_;rw [hW0]; refine ⟨?_,?_,?_,?_,?_,?_,?_⟩ <;> simp
 clear hal;go_enter func54,ntmps54;go_wp2_with fail;rw [← hW0];clear hW0;refine (gG ad cap rs oa r _ hlen (HS.out.below HB0.out) HL.out).mono ?_;rintro e w1 ⟨⟨rows,SN,capE,rfl,hex,hse,hfr⟩,hw1⟩;replace hw1:=hw1.symm;subst hw1;have HX:Hid (ah rows=ax (ae rs) oa r):=hex;have UX:=aC hse;have TG:=hfr.light HL.out;have hrl:rows.length≤1048576:=TG.1;have Vq:Hid (∀ q ∈ rows,q.e.light):=TG.2;clear hex hse hfr TG;go_wp2_with fail;refine (uU SN capE rows _ hrl UX.out).mono ?_;rintro e w1 ⟨⟨adA,capA,rfl,hsa,hfa⟩,hw1⟩;replace hw1:=hw1.symm;subst hw1;obtain ⟨xs,hxs⟩:∃ xs,xs=aQ (ah rows):=⟨_,rfl⟩;rw [← hxs] at hsa hfa ⊢;have Wh:Hid (xs=aQ (ax (ae rs) oa r)):=by rw [← HX.out]; exact hxs
 have HSA:=aC hsa;have hxl:xs.length≤1048576:=by
  rcases hfa with h | ⟨q,hq,h,-⟩
  ·rw [h]; simp
  ·rw [h]; exact (Vq.out q hq).1
 clear hxs hsa hfa Vq UX HX;go_wp2;go_loopw [6] (fun i wr=>∃ k:Nat,k≤xs.length∧i=.int .i64 k∧Hid (dh xs k ⟨c,s⟩=false)∧Hid (Below W0.heap.size W0 wr)) (fun i _=>xs.length - (intOf i).toNat);case atStart=>exact ⟨0,R6 _,rfl,mr _ _,R3 _ _⟩
 case round =>
  obtain ⟨k,hk,rfl,HP,HB⟩:=hrel;have S9:Hid (Below w.heap.size w wr):=HB0.out.trans (HB.out.mono HB0.out.size);by_cases hlt:k < xs.length
  ·rcases HSA.out.below HB.out with hnil | ⟨b,off,rfl,hb5,hr5⟩
   ·rw [hnil] at hlt; simp at hlt
   obtain ⟨t0,t1⟩:=hr5 k hlt;have hk1:=bn k;have hk2:(k:Int) < (xs.length:Int):=by omega
   have hwl:w.heap.size < wr.heap.size:=RZ Uk.out.2.2.2.2.2.2 HB.out.size;have c0:=aH HB.out Uk.out.2.2.2.2.2.2 Uk.out.1;have c1:=aH HB.out Uk.out.2.2.2.2.2.2 Uk.out.2.1;have c2:=aH HB.out Uk.out.2.2.2.2.2.2 Uk.out.2.2.1;have c3:=aH HB.out Uk.out.2.2.2.2.2.2 Uk.out.2.2.2.1;have c4:=aH HB.out Uk.out.2.2.2.2.2.2 Uk.out.2.2.2.2.1;have c5:=aH HB.out Uk.out.2.2.2.2.2.2 Uk.out.2.2.2.2.2.1;have Vw:Hid (dh xs (k + 1) ⟨c,s⟩=je xs[k] ⟨c,s⟩):=by show _=_; rw [mq _ _ _ hlt,HP.out]; rfl
   clear hr5;go_wp2_with fail;cases h1:(xs[k].t.toList == c.toList) with
   | false =>
    refine jv 19 (fun n=>(u21::u22::u23::u24::u25::u26::u27::u28::u29::u30::u31::u32::u33::u34::u35::u36::u37::u38::u39::[]).getD n undef) (fun fq=>{ tmps:=List.toArray (Value.slice ad rs.length cap::.agg #[.string oa,.string ob,.string r,.string c,.string d,.string s]::undef::.pointer (some ⟨w.heap.size,0,none⟩)::u4::.slice (some ⟨b,off,none⟩) xs.length capA::.int .i64 k::.slice ad rs.length cap::.pointer (some ⟨w.heap.size,0,none⟩)::.pointer (some ⟨w.heap.size,0,none⟩)::.string oa::.pointer (some ⟨w.heap.size,2,none⟩)::.string r::.slice SN rows.length capE::.slice (some ⟨b,off,none⟩) xs.length capA::.int .i64 k::.slice (some ⟨b,off,none⟩) xs.length capA::.int .i64 xs.length::.bool true::u19::u20::fq 0::fq 1::fq 2::fq 3::fq 4::fq 5::fq 6::fq 7::fq 8::fq 9::fq 10::fq 11::fq 12::fq 13::fq 14::fq 15::fq 16::fq 17::fq 18::u40::u41::[]),defers:=[] }) (fun n v _=>v=(Value.slice (some ⟨b,off,none⟩) xs.length capA::.int .i64 k::.pointer (some ⟨b,off + k * 2,none⟩)::.pointer (some ⟨b,off + k * 2,none⟩)::.string xs[k].t::.pointer (some ⟨w.heap.size,3,none⟩)::.pointer (some ⟨w.heap.size,3,none⟩)::.string c::.bool false::.bool false::undef::undef::undef::undef::undef::undef::undef::undef::.bool false::[]).getD n undef) (fun w'=>Below wr.heap.size wr w') (by kernel_rfl) rfl (by kernel_rfl) rfl (R3 _ _).drew ?stepA ?finA;case stepA =>
     rintro i hi o ho fq w' hG hpre;have HG:Hid (Below wr.heap.size wr w'):=hG;replace t0:=aH hG hb5 t0;replace t1:=aH hG hb5 t1;replace c3:=aH hG hwl c3;replace c5:=aH hG hwl c5;have HM:Hid (∀ e ∈ o.after,Region.binds .any e=true→_):=hpre;clear hG hpre;have hc:=Lt (i:=i) (by omega);clear hi
     repeat' rcases hc with rfl | hc
     iterate 19
      ·cases ho;have hm:=HM.out
       try simp [Region.binds] at hm
       refine aj rfl fun K HK=>?_;clear HM
       try simp only [hm]
       go_simp;exact HK.out _ _ ⟨_,by simp [upd, *],HG.out,rfl,fun k u hu=>hu⟩
    case finA =>
     rintro fq w' hG hall;have e18:fq 18=.bool false:=hall 18 (by omega);have HG:Hid (Below wr.heap.size wr w'):=hG;clear hall;clear hG;have HB2:Hid (Below W0.heap.size W0 w'):=HB.out.trans (HG.out.mono HB.out.size);have Td:Hid (dh xs (k + 1) ⟨c,s⟩=false):=by show _=_; rw [Vw.out]; simp [je,h1]
     rw [e18];go_wp2;go_roundw;case rel=>exact ⟨k + 1,by omega,by go_num,Td,HB2⟩
     case measure=>simp [intOf] <;> omega
   | true =>
    cases h2:(xs[k].s.toList == s.toList) with
    | false =>
     refine jv 19 (fun n=>(u21::u22::u23::u24::u25::u26::u27::u28::u29::u30::u31::u32::u33::u34::u35::u36::u37::u38::u39::[]).getD n undef) (fun fq=>{ tmps:=List.toArray (Value.slice ad rs.length cap::.agg #[.string oa,.string ob,.string r,.string c,.string d,.string s]::undef::.pointer (some ⟨w.heap.size,0,none⟩)::u4::.slice (some ⟨b,off,none⟩) xs.length capA::.int .i64 k::.slice ad rs.length cap::.pointer (some ⟨w.heap.size,0,none⟩)::.pointer (some ⟨w.heap.size,0,none⟩)::.string oa::.pointer (some ⟨w.heap.size,2,none⟩)::.string r::.slice SN rows.length capE::.slice (some ⟨b,off,none⟩) xs.length capA::.int .i64 k::.slice (some ⟨b,off,none⟩) xs.length capA::.int .i64 xs.length::.bool true::u19::u20::fq 0::fq 1::fq 2::fq 3::fq 4::fq 5::fq 6::fq 7::fq 8::fq 9::fq 10::fq 11::fq 12::fq 13::fq 14::fq 15::fq 16::fq 17::fq 18::u40::u41::[]),defers:=[] }) (fun n v _=>v=(Value.slice (some ⟨b,off,none⟩) xs.length capA::.int .i64 k::.pointer (some ⟨b,off + k * 2,none⟩)::.pointer (some ⟨b,off + k * 2,none⟩)::.string xs[k].t::.pointer (some ⟨w.heap.size,3,none⟩)::.pointer (some ⟨w.heap.size,3,none⟩)::.string c::.bool true::.bool true::.slice (some ⟨b,off,none⟩) xs.length capA::.int .i64 k::.pointer (some ⟨b,off + k * 2,none⟩)::.pointer (some ⟨b,off + k * 2 + 1,none⟩)::.string xs[k].s::.pointer (some ⟨w.heap.size,5,none⟩)::.string s::.bool false::.bool false::[]).getD n undef) (fun w'=>Below wr.heap.size wr w') (by kernel_rfl) rfl (by kernel_rfl) rfl (R3 _ _).drew ?vI ?finB;case vI =>
      rintro i hi o ho fq w' hG hpre;have HG:Hid (Below wr.heap.size wr w'):=hG;replace t0:=aH hG hb5 t0;replace t1:=aH hG hb5 t1;replace c3:=aH hG hwl c3;replace c5:=aH hG hwl c5;have HM:Hid (∀ e ∈ o.after,Region.binds .any e=true→_):=hpre;clear hG hpre;have hc:=Lt (i:=i) (by omega);clear hi
      repeat' rcases hc with rfl | hc
      iterate 19
       ·cases ho;have hm:=HM.out
        try simp [Region.binds] at hm
        refine aj rfl fun K HK=>?_;clear HM
        try simp only [hm]
        go_simp;exact HK.out _ _ ⟨_,by simp [upd, *],HG.out,rfl,fun k u hu=>hu⟩
     case finB =>
      rintro fq w' hG hall;have e18:fq 18=.bool false:=hall 18 (by omega);have HG:Hid (Below wr.heap.size wr w'):=hG;clear hall;clear hG;have HB2:Hid (Below W0.heap.size W0 w'):=HB.out.trans (HG.out.mono HB.out.size);have Td:Hid (dh xs (k + 1) ⟨c,s⟩=false):=by show _=_; rw [Vw.out]; simp [je,h1,h2]
      rw [e18];go_wp2;go_roundw;case rel=>exact ⟨k + 1,by omega,by go_num,Td,HB2⟩
      case measure=>simp [intOf] <;> omega
    | true =>
     refine jv 19 (fun n=>(u21::u22::u23::u24::u25::u26::u27::u28::u29::u30::u31::u32::u33::u34::u35::u36::u37::u38::u39::[]).getD n undef) (fun fq=>{ tmps:=List.toArray (Value.slice ad rs.length cap::.agg #[.string oa,.string ob,.string r,.string c,.string d,.string s]::undef::.pointer (some ⟨w.heap.size,0,none⟩)::u4::.slice (some ⟨b,off,none⟩) xs.length capA::.int .i64 k::.slice ad rs.length cap::.pointer (some ⟨w.heap.size,0,none⟩)::.pointer (some ⟨w.heap.size,0,none⟩)::.string oa::.pointer (some ⟨w.heap.size,2,none⟩)::.string r::.slice SN rows.length capE::.slice (some ⟨b,off,none⟩) xs.length capA::.int .i64 k::.slice (some ⟨b,off,none⟩) xs.length capA::.int .i64 xs.length::.bool true::u19::u20::fq 0::fq 1::fq 2::fq 3::fq 4::fq 5::fq 6::fq 7::fq 8::fq 9::fq 10::fq 11::fq 12::fq 13::fq 14::fq 15::fq 16::fq 17::fq 18::u40::u41::[]),defers:=[] }) (fun n v _=>v=(Value.slice (some ⟨b,off,none⟩) xs.length capA::.int .i64 k::.pointer (some ⟨b,off + k * 2,none⟩)::.pointer (some ⟨b,off + k * 2,none⟩)::.string xs[k].t::.pointer (some ⟨w.heap.size,3,none⟩)::.pointer (some ⟨w.heap.size,3,none⟩)::.string c::.bool true::.bool true::.slice (some ⟨b,off,none⟩) xs.length capA::.int .i64 k::.pointer (some ⟨b,off + k * 2,none⟩)::.pointer (some ⟨b,off + k * 2 + 1,none⟩)::.string xs[k].s::.pointer (some ⟨w.heap.size,5,none⟩)::.string s::.bool true::.bool true::[]).getD n undef) (fun w'=>Below wr.heap.size wr w') (by kernel_rfl) rfl (by kernel_rfl) rfl (R3 _ _).drew ?stepC ?finC;case stepC =>
      rintro i hi o ho fq w' hG hpre;have HG:Hid (Below wr.heap.size wr w'):=hG;replace t0:=aH hG hb5 t0;replace t1:=aH hG hb5 t1;replace c3:=aH hG hwl c3;replace c5:=aH hG hwl c5;have HM:Hid (∀ e ∈ o.after,Region.binds .any e=true→_):=hpre;clear hG hpre;have hc:=Lt (i:=i) (by omega);clear hi
      repeat' rcases hc with rfl | hc
      iterate 19
       ·cases ho;have hm:=HM.out
        try simp [Region.binds] at hm
        refine aj rfl fun K HK=>?_;clear HM
        try simp only [hm]
        go_simp;exact HK.out _ _ ⟨_,by simp [upd, *],HG.out,rfl,fun k u hu=>hu⟩
     case finC =>
      rintro fq w' hG hall;have e18:fq 18=.bool true:=hall 18 (by omega);have HG:Hid (Below wr.heap.size wr w'):=hG;clear hall;replace c0:=aH hG hwl c0;replace c1:=aH hG hwl c1;replace c2:=aH hG hwl c2;replace c3:=aH hG hwl c3;replace c4:=aH hG hwl c4;replace c5:=aH hG hwl c5;clear hG;rw [e18];have HN:Hid (vN (ae rs) oa ob r c d s=df oa ob r c d s):=by show _=_; unfold vN; rw [← Wh.out,KN hlt (by simp [je,h1,h2])]; rfl
      go_wp2_with fail;refine (eF oa ob r c d s _ ha hb hr hc hd hz).mono ?_;rintro e w2 ⟨rfl,hb2⟩;have HB2:Hid (Below w.heap.size w w2):=S9.out.trans ((HG.out.mono S9.out.size).trans (hb2.mono (Sb S9.out.size HG.out.size)));clear hb2;go_wp2;go_ret;exact ⟨by rw [HN.out]; rfl,HB2.out⟩
  ·obtain rfl:k=xs.length:=by omega
   have HN:Hid (vN (ae rs) oa ob r c d s=false):=by show _=_; unfold vN; rw [← Wh.out,HP.out]; rfl
   go_wp2;go_ret;exact ⟨by rw [HN.out]; rfl,S9.out⟩
set_option linter.unusedVariables false
set_option maxRecDepth 100000
def fC (rs:List TR) (t:Tp):Bool:=vN (ae rs) t.a t.b t.r t.c t.d t.s
theorem BD {rs:List TR} {t:Tp} (h:bI (ae rs)=true) (ht:t.ok=true):vG (ae rs) t.a t.r ⟨t.c,t.s⟩=fC rs t:=by
 have hSP:=bq.1 h;have h1:vG (ae rs) t.a t.r ⟨t.c,t.s⟩=dh (aQ (ax (ae rs) t.a t.r)) (aQ (ax (ae rs) t.a t.r)).length ⟨t.c,t.s⟩:=Fx _ (Pq hSP _ _);have h2:df t.a t.b t.r t.c t.d t.s=true:=ht;rw [h1];unfold fC vN;rw [h2,Bool.and_true]
theorem Ny {p:Tp→Bool} {ts:List Tp} {k:Nat} (h:k < ts.length):(ts.drop k).all p=(p ts[k] && (ts.drop (k + 1)).all p):=by rw [Sr h]; rfl
theorem Fy (ad:Option Addr) (cap:Nat) (rs:List TR) (SQ:Option Addr) (cap':Nat) (ts:List Tp) (w:World) (hlen:rs.length≤1048576) (hs:jd w ad rs) (hl:∀ r ∈ rs,r.light) (hfr:∀ r ∈ rs,r.fits) (hlt:ts.length≤1048576) (hst:Sl w SQ ts) (hft:∀ x ∈ ts,x.fits) :
  Calls prog 30 #[.slice ad rs.length cap,.slice SQ ts.length cap'] w fun e w'=>e=.returned (.bool (aP (fC rs) rs ts))∧Below w.heap.size w w':=by
 have HS:=ag hs;have HL:=ag hl;have TD:=ag hfr;have HST:=ag hst;have Tj:=ag hft;have Tv:ts.length≤maxLen:=by unfold maxLen; omega
 clear hs hl hfr hst hft;go_enter func30,ntmps30;go_wp2_with fail;refine (uy ad cap rs _ hlen HS.out HL.out TD.out).mono ?_;rintro e w1 ⟨he,hb1⟩;have HB1:=ag hb1;clear hb1;cases h1:bI (ae rs) with
 | false =>
  rw [h1] at he; subst he;have HN:Hid (aP (fC rs) rs ts=false):=by show _=_; unfold aP; rw [h1]; rfl
  clear h1;go_wp2;go_ret;exact ⟨by rw [HN.out]; rfl,HB1.out⟩
 | true =>
  rw [h1] at he; subst he;have H1:=ag h1;clear h1;go_wp2_with fail;refine (uj SQ cap' ts _ Tv (HST.out.below HB1.out) Tj.out).mono ?_;rintro e w2 ⟨he,hb2⟩;have HB2:=ag (HB1.out.trans (hb2.mono HB1.out.size));clear hb2 HB1;cases h2:eQ ts with
  | false =>
   rw [h2] at he; subst he;have HN:Hid (aP (fC rs) rs ts=false):=by show _=_; unfold aP; rw [h2,Bool.and_false]; rfl
   clear h2;go_wp2;go_ret;exact ⟨by rw [HN.out]; rfl,HB2.out⟩
  | true =>
   rw [h2] at he; subst he;have HN:Hid (aP (fC rs) rs ts=ts.all (fC rs)):=by show _=_; unfold aP; rw [H1.out,h2]; rfl
   clear h2 H1;go_wp2;go_loopw [5] (fun i wr=>∃ k:Nat,k≤ts.length∧i=.int .i64 k∧Hid ((ts.drop k).all (fC rs)=ts.all (fC rs))∧Hid (Below w.heap.size w wr)) (fun i _=>ts.length - (intOf i).toNat);case atStart=>exact ⟨0,R6 _,rfl,rfl,HB2⟩
   case round =>
    clear HB2;obtain ⟨k,hk,rfl,HP,HB⟩:=hrel;by_cases hlt2:k < ts.length
    ·obtain ⟨b,off,SL,⟨t0,t1,t2,t3,t4,t5⟩,hb⟩:=Sl.at0 (HST.out.below HB.out) hlt2;have hk1:=bn k;have hk2:(k:Int) < (ts.length:Int):=by omega
     obtain ⟨f0,f1,f2,f3,f4,f5⟩:=Tj.out _ (RY hlt2);have HD:Hid (ts.all (fC rs)=(fC rs ts[k] && (ts.drop (k + 1)).all (fC rs))):=by show _=_; rw [← HP.out]; exact Ny hlt2
     obtain ⟨x,hx⟩:∃ x,x=ts[k]:=⟨_,rfl⟩;rw [← hx] at t0 t1 t2 t3 t4 t5 f0 f1 f2 f3 f4 f5 HD;have HLF:=ag (Ik ad cap rs x.a x.b x.r x.c x.d x.s wr hlen (HS.out.below HB.out) HL.out f0 f1 f2 f3 f4 f5);subst SL;clear hx;go_wp2_with fail;refine HLF.out.mono ?_;rintro e w3 ⟨he,hb3⟩;have HB3:=ag (HB.out.trans (hb3.mono HB.out.size));clear hb3 HLF t0 t1 t2 t3 t4 t5;cases h5:vN (ae rs) x.a x.b x.r x.c x.d x.s with
     | true =>
      rw [h5] at he; subst he;have Td:Hid ((ts.drop (k + 1)).all (fC rs)=ts.all (fC rs)):=by show _=_; rw [HD.out]; unfold fC at *; rw [h5]; rfl
      clear h5;go_wp2;go_roundw;case rel=>exact ⟨k + 1,by omega,by go_num,Td,HB3⟩
      case measure=>simp [intOf] <;> omega
     | false =>
      rw [h5] at he; subst he;have UE:Hid (aP (fC rs) rs ts=false):=by show _=_; rw [HN.out,HD.out]; unfold fC at *; rw [h5]; rfl
      clear h5;go_wp2;go_ret;exact ⟨by rw [UE.out]; rfl,HB3.out⟩
    ·have UE:Hid (aP (fC rs) rs ts=true):=by show _=_; rw [HN.out,← HP.out,List.drop_of_length_le (by omega)]; rfl
     go_wp2;go_ret;exact ⟨by rw [UE.out]; rfl,HB.out⟩
set_option linter.unusedSectionVars false
theorem uz {xs:List Al} {o x:Al} (h:x ∈ aS xs o):x ∈ xs ∨ x=o:=by
 unfold aS at h;split at h
 ·exact .inl h
 ·rcases Sd.1 h with h | h
  ·exact .inl h
  ·exact .inr (by simpa using h)
theorem zg:∀ (ts:List Tp) (xs:List Al) (o:Al),o ∈ ts.foldl gJ xs→o ∈ xs ∨ ∃ t ∈ ts,o=⟨t.a,t.b⟩ ∨ o=⟨t.c,t.d⟩
 | [],xs,o,h=>.inl h
 | t::ts,xs,o,h=>by
  rcases zg ts (gJ xs t) o h with h | ⟨u,hu,h⟩
  ·unfold gJ at h;rcases uz h with h | h
   ·rcases uz h with h | h
    ·exact .inl h
    ·exact .inr ⟨t,by simp,.inl h⟩
   ·exact .inr ⟨t,by simp,.inr h⟩
  ·exact .inr ⟨u,by simp [hu],h⟩
theorem zh:∀ (ts:List Tp) (xs:List Al) (o:Al),o ∈ ts.foldl dx xs→o ∈ xs ∨ ∃ t ∈ ts,o=⟨t.a,t.b⟩ ∨ o=⟨t.c,t.d⟩
 | [],xs,o,h=>.inl h
 | t::ts,xs,o,h=>by
  rcases zh ts (dx xs t) o h with h | ⟨u,hu,h⟩
  ·unfold dx at h;split at h
   ·rcases uz h with h | h
    ·exact .inl h
    ·exact .inr ⟨t,by simp,.inr h⟩
   ·exact .inl h
  ·exact .inr ⟨u,by simp [hu],h⟩
theorem Jp {ts:List Tp} (hf:∀ t ∈ ts,t.fits) {o:Al} (h:∃ t ∈ ts,o=⟨t.a,t.b⟩ ∨ o=⟨t.c,t.d⟩):o.t.size≤maxLen∧o.s.size≤maxLen:=by
 obtain ⟨t,ht,h⟩:=h;obtain ⟨h0,h1,h2,h3,h4,h5⟩:=hf t ht;rcases h with rfl | rfl
 ·exact ⟨h0,h1⟩
 ·exact ⟨h3,h4⟩
theorem kP {ts:List Tp} (hf:∀ t ∈ ts,t.fits):∀ o ∈ fI ts,o.t.size≤maxLen∧o.s.size≤maxLen:=fun o ho=>by
 rcases zg ts [] o ho with h | h
 ·cases h
 ·exact Jp hf h
theorem jJ {ts:List Tp} (hf:∀ t ∈ ts,t.fits):∀ o ∈ dG ts,o.t.size≤maxLen∧o.s.size≤maxLen:=fun o ho=>by
 rcases zh ts [] o ho with h | h
 ·cases h
 ·exact Jp hf h
theorem Db:∀ (E:List (KL × RR)) (m:Int),m≤E.foldl (fun m x=>max m (x.1.2 + 1)) m∧∀ x ∈ E,x.1.2 + 1≤E.foldl (fun m x=>max m (x.1.2 + 1)) m
 | [],m=>⟨Int.le_refl _,fun x hx=>by cases hx⟩
 | y::E,m=>by
  obtain ⟨h1,h2⟩:=Db E (max m (y.1.2 + 1));simp only [List.foldl_cons];refine ⟨by omega,fun x hx=>?_⟩;rcases List.mem_cons.1 hx with rfl | hx
  ·omega
  ·exact h2 x hx
theorem Jq:∀ (E:List (KL × RR)) (m B:Int),m≤B→(∀ x ∈ E,x.1.2 + 1≤B)→E.foldl (fun m x=>max m (x.1.2 + 1)) m≤B
 | [],m,B,h,_=>h
 | y::E,m,B,h,hx=>Jq E _ B (Int.max_le.2 ⟨h,hx y (by simp)⟩) fun x h2=>hx x (by simp [h2])
theorem Ps {f:ByteArray × ByteArray→Int} {rs:List TR} {k:ByteArray × ByteArray} (hk:k ∈ ai (ae rs)):∃ x ∈ dY f rs,x.1.2=f k:=by
 unfold ai at hk;obtain ⟨T,hT,hk⟩:=Sk.1 hk;obtain ⟨t,ht,rfl⟩:=Sa.1 hT;unfold iB at hk;obtain ⟨r,hr,rfl⟩:=Sa.1 hk;obtain ⟨q,hq,rfl⟩:=Sa.1 hr;exact ⟨((t.name,f (t.name,q.name)),q),Sk.2 ⟨t,ht,Sa.2 ⟨q,hq,rfl⟩⟩,rfl⟩
theorem QD {f:ByteArray × ByteArray→Int} {rs:List TR} {x:KL × RR} (hx:x ∈ dY f rs):∃ k ∈ ai (ae rs),x.1.2=f k∧∃ t ∈ rs,∃ q ∈ t.rows,k=(t.name,q.name):=by
 unfold dY at hx;obtain ⟨t,ht,hx⟩:=Sk.1 hx;obtain ⟨q,hq,rfl⟩:=Sa.1 hx;refine ⟨(t.name,q.name),?_,rfl,t,ht,q,hq,rfl⟩;unfold ai iB;exact Sk.2 ⟨t.p,Sa.2 ⟨t,ht,rfl⟩,Sa.2 ⟨q.p,Sa.2 ⟨q,hq,rfl⟩,rfl⟩⟩
theorem uA {rs:List TR} (hf:∀ r ∈ rs,r.fits):∀ k ∈ ai (ae rs),k.2.size≤maxLen:=fun k hk=>by
 unfold ai at hk;obtain ⟨T,hT,hk⟩:=Sk.1 hk;obtain ⟨t,ht,rfl⟩:=Sa.1 hT;unfold iB at hk;obtain ⟨r,hr,rfl⟩:=Sa.1 hk;obtain ⟨q,hq,rfl⟩:=Sa.1 hr;exact ((hf t ht).2.2 q hq).1
theorem Pt (f:ByteArray × ByteArray→Int) (rs:List TR):(dY f rs).length=(ai (ae rs)).length:=by
 induction rs with
 | nil=>rfl
 | cons t rs ih =>
  have e1:ai (ae (t::rs))=iB t.p ++ ai (ae rs):=by simp [ai,ae]
  have e2:dY f (t::rs)=(t.rows.map fun r=>((t.name,f (t.name,r.name)),r)) ++ dY f rs:=rfl;have e3:(iB t.p).length=t.rows.length:=by unfold iB; rw [Sv]; exact gF _
  rw [e1,e2,R9,R9,ih,e3,Sv]
theorem Il {w W w':World} {n:Nat} {x0 x1 x2 x3 x4:Value} (h:W.cell? ⟨n,0,none⟩=some x0∧W.cell? ⟨n,1,none⟩=some x1∧W.cell? ⟨n,2,none⟩=some x2∧W.cell? ⟨n,3,none⟩=some x3∧W.cell? ⟨n,4,none⟩=some x4∧Below w.heap.size w W) (hb:Below W.heap.size W w'):w'.cell? ⟨n,0,none⟩=some x0∧w'.cell? ⟨n,1,none⟩=some x1∧w'.cell? ⟨n,2,none⟩=some x2∧w'.cell? ⟨n,3,none⟩=some x3∧w'.cell? ⟨n,4,none⟩=some x4∧Below w.heap.size w w':=by
 obtain ⟨h0,h1,h2,h3,h4,hB⟩:=h;exact ⟨aA hb (ay h0) h0,aA hb (ay h1) h1,aA hb (ay h2) h2,aA hb (ay h3) h3,aA hb (ay h4) h4,hB.trans (hb.mono hB.size)⟩
section
variable [DecidableEq Fc]
def aI (st:ByteArray × ByteArray→Int) (rs:List TR) (ts:List Tp):List Fc:=if aP (fC rs) rs ts then mY st rs ts else []
theorem fD {st:ByteArray × ByteArray→Int} {rs:List TR} {ts:List Tp} (h:aP (fC rs) rs ts=true):aI st rs ts=mY st rs ts:=by unfold aI; rw [if_pos h]
theorem iI {st:ByteArray × ByteArray→Int} {rs:List TR} {ts:List Tp} (h:aP (fC rs) rs ts=false):aI st rs ts=[]:=by unfold aI; rw [if_neg (by rw [h]; decide)]
theorem nk (st:ByteArray × ByteArray→Int) {rs:List TR} {ts:List Tp}:(aI st rs ts).length≤115200:=by
 cases hr:aP (fC rs) rs ts with
 | false=>rw [iI hr]; simp
 | true =>
  rw [fD hr];have hsd:bI (ae rs)=true∧ts.length≤40:=by
   unfold aP eQ at hr;simp only [R7,Sj] at hr;exact ⟨hr.1.1,hr.1.2.1⟩
  obtain ⟨h6,Xn,-⟩:=bH (bq.1 hsd.1).1;exact (kN st rs ts (fI ts) (dG ts) _).len (by have:=lX ts; omega) (wW h6 Xn) (by have:=kK ts; omega)
end
def nu (w:World) (S:Nat→Prop) (P:Value→Ru→Prop) (ad:Option Addr) (Gs:List Ru):Prop:=Gs=[] ∨ ∃ g,ad=some ⟨g,0,none⟩∧S g∧g < w.heap.size∧∀ (i:Nat) (h:i < Gs.length),∃ u,w.cell? ⟨g,i,none⟩=some u∧P u Gs[i]
def av (w:World) (S:Nat→Prop):Nat→Value→Ru→Prop
 | 0,_,_=>False
 | n + 1,v,G =>
  (∃ b:Bool,v=.iface 132 (.agg #[.bool b])∧G=fun _=>b) ∨
  (∃ (ad:Option Addr) (cap:Nat) (fs:List Fc),v=.iface 185 (.agg #[.slice ad fs.length cap])∧(fs=[] ∨ ∃ g,ad=some ⟨g,0,none⟩∧S g)∧gX w ad fs∧(fs.length≤40∧(ad=none→cap=0))∧(∀ x ∈ fs,x.fits)∧G=fun K=>fs.any K) ∨
  (∃ (ad:Option Addr) (cap:Nat) (Gs:List Ru),v=.iface 190 (.agg #[.slice ad Gs.length cap])∧Gs.length≤5∧nu w S (av w S n) ad Gs∧G=fun K=>Gs.any fun H=>H K) ∨
  (∃ (ad:Option Addr) (cap:Nat) (Gs:List Ru),v=.iface 191 (.agg #[.slice ad Gs.length cap])∧Gs.length≤5∧nu w S (av w S n) ad Gs∧G=fun K=>Gs.all fun H=>H K)
theorem gX.blockF {w w':World} {ad:Option Addr} {fs:List Fc} (h:gX w ad fs) (hs:w.heap.size≤w'.heap.size) (hz:fs ≠ []→∃ g,ad=some ⟨g,0,none⟩∧(g < w.heap.size→w'.heap[g]?=w.heap[g]?)):gX w' ad fs:=by
 by_cases hx:fs=[]
 ·exact .inl hx
 ·rcases h with h | ⟨b,off,e,hb,hr⟩
  ·exact absurd h hx
  ·obtain ⟨g,e2,hg⟩:=hz hx;rw [e] at e2;injection e2 with e2; injection e2 with e2 e3;subst e2;exact .inr ⟨b,off,e,RZ hb hs,fun i hi=>(hr i hi).same fun o=>SB (w:=w) (a:=⟨b,o,none⟩) (hg hb)⟩
theorem av.keep {w w':World} {S T:Nat→Prop} (hs:w.heap.size≤w'.heap.size) (hk:∀ g,S g→g < w.heap.size→T g∧w'.heap[g]?=w.heap[g]?):∀ (n:Nat) (v:Value) (G:Ru),av w S n v G→av w' T n v G
 | 0,_,_,h=>h
 | n + 1,v,G,h=>by
  have row:∀ {ad:Option Addr} {Gs:List Ru},nu w S (av w S n) ad Gs→nu w' T (av w' T n) ad Gs:=fun {ad Gs} h=>by
   rcases h with h | ⟨g,e,h1,h2,h3⟩
   ·exact .inl h
   ·obtain ⟨k1,k2⟩:=hk g h1 h2;refine .inr ⟨g,e,k1,RZ h2 hs,fun i hi=>?_⟩;obtain ⟨u,hu,hp⟩:=h3 i hi;exact ⟨u,(SB (w:=w) (a:=⟨g,i,none⟩) k2).trans hu,av.keep hs hk n u _ hp⟩
  rcases h with h | ⟨ad,cap,fs,e,hz,h1,h2,h3,h4⟩ | ⟨ad,cap,Gs,e,h1,h2,h3⟩ | ⟨ad,cap,Gs,e,h1,h2,h3⟩
  ·exact .inl h
  ·refine .inr (.inl ⟨ad,cap,fs,e,?_,?_,h2,h3,h4⟩)
   ·rcases hz with hz | ⟨g,e1,hg⟩
    ·exact .inl hz
    ·by_cases hx:fs=[]
     ·exact .inl hx
     ·rcases h1 with h1 | ⟨b,off,e2,hb,-⟩
      ·exact absurd h1 hx
      ·rw [e1] at e2; injection e2 with e2; injection e2 with e2 e3;exact .inr ⟨g,e1,(hk g hg (by omega)).1⟩
   ·refine h1.blockF hs fun hne=>?_;rcases hz with hz | ⟨g,e1,hg⟩
    ·exact absurd hz hne
    ·exact ⟨g,e1,fun hl=>(hk g hg hl).2⟩
  ·exact .inr (.inr (.inl ⟨ad,cap,Gs,e,h1,row h2,h3⟩))
  ·exact .inr (.inr (.inr ⟨ad,cap,Gs,e,h1,row h2,h3⟩))
theorem av.below {w w':World} {S:Nat→Prop} {n:Nat} {v:Value} {G:Ru} (h:av w S n v G) (hb:Below w.heap.size w w'):av w' S n v G:=av.keep hb.size (fun g h1 h2=>⟨h1,hb.block g h2⟩) n v G h
theorem av.more {w:World} {S:Nat→Prop}:∀ (n:Nat) (v:Value) (G:Ru),av w S n v G→av w S (n + 1) v G
 | 0,_,_,h=>h.elim
 | n + 1,v,G,h=>by
  have row:∀ {ad:Option Addr} {Gs:List Ru},nu w S (av w S n) ad Gs→nu w S (av w S (n + 1)) ad Gs:=fun {ad Gs} h=>by
   rcases h with h | ⟨g,e,h1,h2,h3⟩
   ·exact .inl h
   ·refine .inr ⟨g,e,h1,h2,fun i hi=>?_⟩;obtain ⟨u,hu,hp⟩:=h3 i hi;exact ⟨u,hu,av.more n u _ hp⟩
  rcases h with h | h | ⟨ad,cap,Gs,e,h1,h2,h3⟩ | ⟨ad,cap,Gs,e,h1,h2,h3⟩
  ·exact .inl h
  ·exact .inr (.inl h)
  ·exact .inr (.inr (.inl ⟨ad,cap,Gs,e,h1,row h2,h3⟩))
  ·exact .inr (.inr (.inr ⟨ad,cap,Gs,e,h1,row h2,h3⟩))
theorem av.up {w:World} {S:Nat→Prop} {v:Value} {G:Ru} {n m:Nat} (h:av w S n v G) (hm:n≤m):av w S m v G:=by
 induction m with
 | zero =>
  have e:n=0:=by omega
  rw [e] at h; exact h
 | succ m ih =>
  by_cases e:n=m + 1
  ·rw [← e]; exact h
  ·exact av.more m v G (ih (by omega))
def ic (B:Nat) (g:Nat):Prop:=B≤g
theorem su {w:World} {B:Nat} {v:Value} {fs:List Fc} (h:w.ownsRow B 42 5 v fs.length (au fs)) (hl:fs.length≤40) (hf:∀ x ∈ fs,x.fits) {G:Ru} (hG:G=fun K=>fs.any K):av w (ic B) 1 (.iface 185 (.agg #[v])) G:=by
 obtain ⟨ad,cap,e,hs⟩:=iH h;subst e;refine .inr (.inl ⟨ad,cap,fs,rfl,?_,hs,⟨hl,fun e=>?_⟩,hf,hG⟩);rotate_left
 ·subst e;rcases h.2 with ⟨e2,-⟩ | ⟨g,cap2,cur,e2,-⟩
  ·injection e2
  ·cases e2
 by_cases hx:fs=[]
 ·exact .inl hx
 ·rcases h.2 with ⟨-,h0⟩ | ⟨g,cap2,cur,e2,hbg,-⟩
  ·exact absurd (Si.1 h0) hx
  ·injection e2 with e2;exact .inr ⟨g,e2,hbg⟩
theorem ny {w:World} {S:Nat→Prop} (b:Bool) {G:Ru} (hG:G=fun _=>b):av w S 1 (.iface 132 (.agg #[.bool b])) G:=.inl ⟨b,rfl,hG⟩
def qP (f:Fc) (L:List Tp):List Fc:=(L.filter fun t=>!t.s.toList.isEmpty).map fun t=>⟨t.c,t.d,t.s,f.c,f.d⟩
def xg (f:Fc) (name:ByteArray) (L:List Tp):List Fc:=L.map fun t=>⟨t.c,t.d,name,f.c,f.d⟩
theorem Nz (f:Fc) {L:List Tp} {k:Nat} (h:k < L.length):qP f (L.take (k + 1))=qP f (L.take k) ++ (if L[k].s.toList.isEmpty then [] else [⟨L[k].c,L[k].d,L[k].s,f.c,f.d⟩]):=by
 unfold qP;rw [R5 h,SI,List.map_append];congr 1;rw [List.filter_cons];cases L[k].s.toList.isEmpty <;> rfl
theorem NA (f:Fc) (name:ByteArray) {L:List Tp} {k:Nat} (h:k < L.length):xg f name (L.take (k + 1))=xg f name (L.take k) ++ [⟨L[k].c,L[k].d,name,f.c,f.d⟩]:=by
 unfold xg;rw [R5 h,List.map_append];rfl
theorem Jr (f:Fc) (L:List Tp):(qP f L).length≤L.length:=by unfold qP; rw [Sv]; exact List.length_filter_le _ _
theorem NC {f:Fc} {L:List Tp} (hf:f.fits) (h:∀ t ∈ L,t.fits):∀ x ∈ qP f L,x.fits:=fun x hx=>by
 unfold qP at hx;obtain ⟨t,ht,rfl⟩:=Sa.1 hx;have h1:=h t (SH.1 ht).1;exact ⟨h1.2.2.2.1,h1.2.2.2.2.1,h1.2.2.2.2.2,hf.2.2.2.1,hf.2.2.2.2⟩
theorem ND {f:Fc} {name:ByteArray} {L:List Tp} (hf:f.fits) (hn:name.size≤maxLen) (h:∀ t ∈ L,t.fits):∀ x ∈ xg f name L,x.fits:=fun x hx=>by
 unfold xg at hx;obtain ⟨t,ht,rfl⟩:=Sa.1 hx;have h1:=h t ht;exact ⟨h1.2.2.2.1,h1.2.2.2.2.1,hn,hf.2.2.2.1,hf.2.2.2.2⟩
def nO (f:Fc) (t:Tp):Bool:=t.s.toList.isEmpty && sI t.c t.d f.c f.d
theorem zi (f:Fc) (L:List Tp) (K:Fc→Bool):L.any (EQ K f)=(L.any (nO f) || (qP f L).any K):=by
 induction L with
 | nil=>rfl
 | cons t L ih =>
  have e:qP f (t::L)=(if t.s.toList.isEmpty then [] else [⟨t.c,t.d,t.s,f.c,f.d⟩]) ++ qP f L:=by
   unfold qP;rw [List.filter_cons];cases t.s.toList.isEmpty <;> rfl
  rw [List.any_cons,List.any_cons,e,List.any_append,ih];unfold EQ nO;cases hs:t.s.toList.isEmpty
  ·simp only [Bool.false_eq_true,if_false,Bool.false_and,List.any_cons,List.any_nil,Bool.or_false,Bool.false_or];rw [← Bool.or_assoc,Bool.or_comm (K _),Bool.or_assoc]
  ·simp only [if_true,Bool.true_and,List.any_nil,Bool.false_or];unfold sI;rw [Bool.or_assoc]
theorem NE {ts:List Tp} {f:Fc} (h:(G.lookL (aW ts) (f.a,f.b,f.r)).any (nO f)=true):oP ts f=fun _=>true:=by
 funext K
 unfold oP;rw [← oO ts (f.a,f.b,f.r) (EQ K f),zi,h]; rfl
theorem Pv {ts:List Tp} {f:Fc} (h:(G.lookL (aW ts) (f.a,f.b,f.r)).any (nO f)=false):oP ts f=fun K=>(qP f (G.lookL (aW ts) (f.a,f.b,f.r))).any K:=by
 funext K
 unfold oP;rw [← oO ts (f.a,f.b,f.r) (EQ K f),zi,h]; rfl
theorem Pw {ts:List Tp} {f:Fc} {over name:ByteArray}:Bi ts over name f=fun K=>(xg f name (G.lookL (aW ts) (f.a,f.b,over))).any K:=by
 funext K
 unfold Bi xg;rw [← oO ts (f.a,f.b,over) (fun t=>K ⟨t.c,t.d,name,f.c,f.d⟩),List.any_map]; rfl
end Go.Proofs.YtdaoiceeidoehaaGreat
