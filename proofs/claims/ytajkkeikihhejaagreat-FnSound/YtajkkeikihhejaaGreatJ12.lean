/- Contract of the document's reader: an item that is a name, or a name over another one. -/
import Derived.Test.YtajkkeikihhejaaGreatSq
import Derived.Test.YtajkkeikihhejaaGreatJ8
import Derived.Test.YtajkkeikihhejaaGreatJ9
import Derived.Test.YtajkkeikihhejaaGreatJ7
import Derived.Test.YtajkkeikihhejaaGreatJ11
open Go.Proofs.Tryz
set_option maxHeartbeats 80000000
namespace Go.Proofs.YtajkkeikihhejaaGreat
set_option maxRecDepth 100000
open ChangeShapes WideShapes ChangeAt RowKit
open Pl
theorem Onl.at_new{R:Nat}{v:Value}{w w':af}(h:Onl R v w w'){X:Nat}(hX:w.heap.size<=X)(o:Nat)(u:Value):Onl R v w (w'.setCell ⟨X,o,none⟩ u) :=
 ⟨h.os,h.tape,h.output,by simpa using h.size,fun k hk h1 h2=>(Below.heap_setCell w' _ _ k (by show k≠X;omega)).trans (h.block k hk h1 h2)⟩
theorem RdC.other{w:af}{R:Nat}{s:ByteArray}{p:Nat}{bad:Bool}{v:Value}(h:RdC w R s p bad v){X:Nat}(hX:X≠R)(o:Nat)(u:Value):RdC (w.setCell ⟨X,o,none⟩ u) R s p bad v :=
 ⟨by simpa using h.lt,by rw[Vx (w:=w) (Below.heap_setCell w _ _ R (Ne.symm hX))];exact h.c0,by rw[Vx (w:=w) (Below.heap_setCell w _ _ R (Ne.symm hX))];exact h.c1,by rw[Vx (w:=w) (Below.heap_setCell w _ _ R (Ne.symm hX))];exact h.c2,by rw[Vx (w:=w) (Below.heap_setCell w _ _ R (Ne.symm hX))];exact h.c3,fun j=>by simpa using h.fr j⟩
theorem RdC.below{w w':af}{R:Nat}{s:ByteArray}{p:Nat}{bad:Bool}{v:Value}(h:RdC w R s p bad v)(hb:ae w w'):RdC w' R s p bad v :=
 h.grown (row:=none) ⟨hb.os,hb.tape,hb.output,hb.size,fun k hk _=>hb.block k hk⟩ (by simp)
theorem za.below{w w':af}{g:Nat}{q:ER}(h:za w g q)(hb:ae w w'):za w' g q :=
 h.grown (row:=none) ⟨hb.os,hb.tape,hb.output,hb.size,fun k hk _=>hb.block k hk⟩ (by simp)
def bare(k:Int)(o n:ByteArray):ER:=⟨⟨k,[],o,n,[]⟩,none,0,none,0⟩
theorem kJ(k:Int)(o n:bW)(g:Nat):¬qw (bare k o n) g:=by
 rintro(⟨h,-⟩|⟨h,-⟩)<;>exact h rfl
theorem wI(k:Int)(o n:bW)(X:Nat)(w:af):NewQ X w (bare k o n) :=
 ⟨fun h=>absurd rfl h,fun h=>absurd rfl h,⟨.inl rfl,.inl rfl⟩,fun g h=>absurd h (kJ k o n g),fun g h=>absurd (Or.inl h) (kJ k o n g),Va _⟩
theorem PO(w:af)(k:Int)(o n:bW):za (w.alloc (.cells #[.int .i64 k,.slice none 0 0,.string o,.string n,.slice none 0 0] 39)) w.heap.size (bare k o n):=by
 refine⟨?_,?_,?_,?_,?_,?_⟩<;>simp[bare]
theorem PP{w:af}{X:Nat}{a0 a1 a2 a3 a4:Value}(h0:w.cell? ⟨X,0,none⟩=some a0)(h1:w.cell? ⟨X,1,none⟩=some a1)(h2:w.cell? ⟨X,2,none⟩=some a2)(h3:w.cell? ⟨X,3,none⟩=some a3)(h4:w.cell? ⟨X,4,none⟩=some a4)(hl:X<w.heap.size)(k:Int)(o n:bW):
  za (((((w.setCell ⟨X,0,none⟩ (.int .i64 k)).setCell ⟨X,1,none⟩ (.slice none 0 0)).setCell ⟨X,2,none⟩ (.string o)).setCell ⟨X,3,none⟩ (.string n)).setCell ⟨X,4,none⟩ (.slice none 0 0)) X (bare k o n):=by
 refine⟨?_,?_,?_,?_,?_,by simpa using hl⟩
 ·rw[mO (by omega),mO (by omega),mO (by omega),mO (by omega)];exact mS h0
 ·rw[mO (by omega),mO (by omega),mO (by omega)];exact mS (by rw[mO (by omega)];exact h1)
 ·rw[mO (by omega),mO (by omega)];exact mS (by rw[mO (by omega),mO (by omega)];exact h2)
 ·rw[mO (by omega)];exact mS (by rw[mO (by omega),mO (by omega),mO (by omega)];exact h3)
 exact mS (by rw[mO (by omega),mO (by omega),mO (by omega),mO (by omega)];exact h4)
def VB(l:Q03)(R:Nat)(s:ByteArray)(p:Nat)(bad:Bool)(v:Value)(k:Nat)(u:Value)(w':World):Prop:=u=l.getD k undef/\(k=3->RdC w' R s p bad v)
structure GB(R:Nat)(s:ByteArray)(p:Nat)(bad:Bool)(v:Value)(X:Nat)(q:ER)(w:World)(listed:Array Bool)(w':World):Prop where
 rd:listed.getD 3 false=false->RdC w' R s p bad v
 box:za w' X q
 onl:Onl R om w w'
 fr:jZ w' X
theorem GB.step{R:Nat}{s:ByteArray}{p:Nat}{bad:Bool}{v:Value}{X:Nat}{q:ER}{w w':af}{listed:Array Bool}(h:GB R s p bad v X q w listed w'){i:Nat}(hls:listed.size=6)(h3:i≠3):GB R s p bad v X q w (listed.setIfInBounds i true) w' :=
 ⟨fun k=>h.rd (by
  by_cases hi:i<6
  ·rw[aV _ _ _ (by omega),if_neg (Ne.symm h3)]at k;exact k
  rw[show listed.setIfInBounds i true=listed by rw[Array.setIfInBounds_eq_of_size_le (by omega)]]at k;exact k),h.box,h.onl,h.fr⟩
theorem GB.called{R:Nat}{s:ByteArray}{p:Nat}{bad:Bool}{v:Value}{X:Nat}{q:ER}{w w' w'':af}{listed:Array Bool}(h:GB R s p bad v X q w listed w')(hls:listed.size=6)(hg:w'.grownBy w'' (some R))(hX:X≠R):GB R s p bad v X q w (listed.setIfInBounds 3 true) w'' :=
 ⟨fun k=>(by rw[aV _ _ _ (by omega),if_pos rfl]at k;cases k),h.box.grown hg (by intro e;injection e with e;exact hX e),h.onl.trans0 (Onl.of_grown hg),dx h.fr (hg.block X h.box.2.2.2.2.2 (by intro e;injection e with e;exact hX e))⟩
theorem PQ{s:ByteArray}{st:RS}(h:nz s o7 (st.p+ax s st.p) st.bad=false):fw s st=⟨2,[],⟨#[]⟩,aA s st.p,[]⟩/\aL s st=⟨st.p+ax s st.p,st.bad,st.out⟩:=by
 have e:lW s o7 (bI s st)=false:=h;exact⟨by unfold fw;rw[e];rfl,by unfold aL;rw[e];rfl⟩
theorem MQ{s:ByteArray}{st:RS}(h:nz s o7 (st.p+ax s st.p) st.bad=true):fw s st=⟨3,[],aA s st.p,aA s (st.p+ax s st.p+2),[]⟩/\aL s st=⟨st.p+ax s st.p+2+ax s (st.p+ax s st.p+2),st.bad,st.out⟩:=by
 have e:lW s o7 (bI s st)=true:=h;exact⟨by unfold fw;rw[e];rfl,by unfold aL;rw[e];rfl⟩
theorem MR(R:Nat)(s:bW)(st:RS)(base:Nat)(v:Value)(qs:Q08)(w:af)(h:RdF w R s st base v qs)(hR:R<base)(hB:base<=w.heap.size)(hs:s.size<=1000)(hp:st.p<=s.size)(hn:qs.length<=100000)
  (h0:nz s gm st.p st.bad=false) (h1:nz s jJ st.p st.bad=false) :
  Calls prog 234 #[.pointer (some ⟨R,0,none⟩)] w (vI R s base v qs w ((st.out.length:Int),sP (fw s st) (judged (fw s st) (aL s st)))):=by
 have H:=aj h;have HP:=aj hp;clear h hp;go_enter func234,ntmps234;go_wp2_with fail;refine(mE R s gm st.p st.bad v w H.out.rd hs HP.out (by decide)).mono ?_;rintro e w1 ⟨rfl,hr1,hg1⟩;have Xx:=aj (H.out.is_no hR h0 hr1 hg1);have WK:=aj (Onl.of_grown hg1);rw[h0];clear hr1 hg1 h0;go_wp2_with fail;refine(mE R s jJ st.p st.bad v w1 Xx.out.rd hs HP.out (by decide)).mono ?_;rintro e w2 ⟨rfl,hr2,hg2⟩;have X9:=aj (Xx.out.is_no hR h1 hr2 hg2);have Wu:=aj (WK.out.trans0 (Onl.of_grown hg2));rw[h1];clear hr2 hg2 h1 Xx WK;go_wp2_with fail;refine(vz R s st.p st.bad v w2 X9.out.rd hs HP.out).mono ?_;rintro e w3 ⟨rfl,hr3,hg3⟩;have HF3:=aj (X9.out.over hR (Onl.of_grown hg3) hr3);have WO:=aj (Wu.out.trans0 (Onl.of_grown hg3));have HP3:=aj (kN s st.p HP.out);have ZR:=aj (zY s st.p HP.out);clear hr3 hg3 X9 Wu;obtain⟨W4,WP⟩:∃W4,W4=w3.alloc (.cells #[.int .i64 2,.slice none 0 0,.string ⟨#[]⟩,.string (aA s st.p),.slice none 0 0] 39):=⟨_,rfl⟩;have HV4:Hid (za W4 w3.heap.size (bare 2 ⟨#[]⟩ (aA s st.p))):=by rw[WP];exact PO w3 2 ⟨#[]⟩ (aA s st.p)
 have HO4a:Hid (Onl R om w3 W4):=by rw[WP];exact Onl.of_below ((Vb _ _).alloc (Va _) _)
 have YC:Hid (RdF W4 R s ⟨st.p+ax s st.p,st.bad,st.out⟩ base v qs):=HF3.out.over hR HO4a.out (by rw[WP];exact HF3.out.rd.below ((Vb _ _).alloc (Va _) _));have WG:=aj (WO.out.trans0 HO4a.out);have HFR4:Hid (jZ W4 w3.heap.size):=fun y=>by rw[WP];simp
 have HXR:Hid (w3.heap.size≠R):=by have:=HF3.out.rd.lt;show _≠_;omega
 have HX0:Hid (w.heap.size<=w3.heap.size):=WO.out.size;have HX3:Hid (w3.heap.size<=w3.heap.size):=Va _;go_wp2_with fail;rw[<-WP];clear WP;obtain⟨X,hX⟩:∃X,X=w3.heap.size:=⟨_,rfl⟩;rw[<-hX]at HV4 HFR4 HXR HX0;replace HX3:Hid (w3.heap.size<=X):=Nat.le_of_eq hX.symm;rw[<-hX];clear hX;refine(mE R s o7 (st.p+ax s st.p) st.bad v W4 YC.out.rd hs HP3.out (by decide)).mono ?_;rintro e w5 ⟨rfl,hr5,hg5⟩;have HV5:=aj (HV4.out.grown hg5 (by intro e;injection e with e;exact HXR.out e));have HFR5:=aj (dx HFR4.out (hg5.block X HV4.out.2.2.2.2.2 (by intro e;injection e with e;exact HXR.out e)));have WF:=aj (WG.out.trans0 (Onl.of_grown hg5));have HO35:=aj (HO4a.out.trans0 (Onl.of_grown hg5));cases hc:nz s o7 (st.p+ax s st.p) st.bad;case false=>
  have HF5:=aj (YC.out.is_no hR hc hr5 hg5);have EQ:=aj (PQ hc);clear hr5 hg5 hc YC WG HV4 HFR4;obtain⟨x0,x1,x2,x3,x4,xl⟩:=HV5.out;replace x0:w5.cell? ⟨X,0,none⟩=some (.int .i64 2):=x0;replace x1:w5.cell? ⟨X,1,none⟩=some (.slice none 0 0):=x1;replace x2:w5.cell? ⟨X,2,none⟩=some (.string ⟨#[]⟩):=x2;replace x3:w5.cell? ⟨X,3,none⟩=some (.string (aA s st.p)):=x3;replace x4:w5.cell? ⟨X,4,none⟩=some (.slice none 0 0):=x4;go_wp2_with fail;refine(mF (bare 2 ⟨#[]⟩ (aA s st.p)) w5 ⟨fun a ha=>(by cases ha),Vf _,by show(aA s st.p).size<=maxLen;rw[ZR.out];have:=HP3.out;unfold maxLen;omega,Vf _,Vf _⟩ (by show(2:Int)≠1;decide)).mono ?_;rintro e w6 ⟨rfl,hB6⟩;have Xy:=aj (WF.out.trans0 (Onl.of_below hB6));have ZT:=aj (HF5.out.over hR (Onl.of_below hB6) (HF5.out.rd.below hB6));obtain⟨y0,y1,y2,y3,y4,yl⟩:=HV5.out.below hB6;replace y0:w6.cell? ⟨X,0,none⟩=some (.int .i64 2):=y0;replace y1:w6.cell? ⟨X,1,none⟩=some (.slice none 0 0):=y1;replace y2:w6.cell? ⟨X,2,none⟩=some (.string ⟨#[]⟩):=y2;replace y3:w6.cell? ⟨X,3,none⟩=some (.string (aA s st.p)):=y3;replace y4:w6.cell? ⟨X,4,none⟩=some (.slice none 0 0):=y4;clear x0 x1 x2 x3 x4 xl hB6 HV5 HF5 WF;cases hb:ay (bare 2 ⟨#[]⟩ (aA s st.p)).e;case true=>
   have HE:Hid (fw s st=(bare 2 ⟨#[]⟩ (aA s st.p)).e/\judged (fw s st) (aL s st)=(⟨st.p+ax s st.p,st.bad,st.out⟩:RS)):=by
    refine⟨EQ.out.1,?_⟩;rw[EQ.out.1,EQ.out.2];exact if_pos hb
   clear hb;go_wp2_with fail;refine(L9 R s ((⟨st.p+ax s st.p,st.bad,st.out⟩:RS)) base v qs (bare 2 ⟨#[]⟩ (aA s st.p)) w6 ZT.out hR (Vj hB Xy.out.size) hn (wI _ _ _ _ _) (.inl ⟨rfl,rfl,rfl⟩) (fun g hg=>absurd hg (kJ _ _ _ g))).mono ?_;rintro e w7 ⟨v7,rfl,hF7,YJ⟩;have HF7:=aj hF7;have HW7:=aj ((Xy.out.any v).trans YJ);clear hF7 YJ;go_wp2;exact bodyPost_ret (v:=.int .i64 (st.out.length:Int)) (by simp[results,Tryz.results234,go_sem]) rfl (by rw[HE.out.1,<-HE.out.1,HE.out.2,HE.out.1];exact⟨v7,[bare 2 ⟨#[]⟩ (aA s st.p)],rfl,HF7.out,HW7.out,fun q hq g hg=>by rw[Vl]at hq;subst hq;exact absurd hg (kJ _ _ _ g)⟩)
  have HE:Hid (fw s st=(bare 2 ⟨#[]⟩ (aA s st.p)).e/\judged (fw s st) (aL s st)=vv ((⟨st.p+ax s st.p,st.bad,st.out⟩:RS))):=by
   refine⟨EQ.out.1,?_⟩;rw[EQ.out.1,EQ.out.2];exact if_neg (fun e=>by have:=e.symm.trans hb;cases this)
  clear hb;have c2:=ZT.out.rd.c2;have f2:=ZT.out.rd.fr 2;have hl:=ZT.out.rd.lt;have hxr:=HXR.out;have hrx:=Ne.symm HXR.out;have Y8:Hid (Onl R om w (w6.setCell ⟨R,2,none⟩ (.bool true))):=Xy.out.at_own _ _;have HF7:Hid (RdF (w6.setCell ⟨R,2,none⟩ (.bool true)) R s (vv ((⟨st.p+ax s st.p,st.bad,st.out⟩:RS))) base v qs):=ZT.out.over hR ((Onl.refl R om w6).at_own _ _) ZT.out.rd.hurt;go_wp2_with fail;refine(L9 R s (vv ((⟨st.p+ax s st.p,st.bad,st.out⟩:RS))) base v qs (bare 2 ⟨#[]⟩ (aA s st.p)) _ HF7.out hR (Vj hB Y8.out.size) hn (wI _ _ _ _ _) (.inl ⟨rfl,rfl,rfl⟩) (fun g hg=>absurd hg (kJ _ _ _ g))).mono ?_;rintro e w8 ⟨v8,rfl,hF8,YE⟩;have HF8:=aj hF8;have HW8:=aj ((Y8.out.any v).trans YE);clear hF8 YE;go_wp2;exact bodyPost_ret (v:=.int .i64 (st.out.length:Int)) (by simp[results,Tryz.results234,go_sem,vv]) rfl (by rw[HE.out.1,<-HE.out.1,HE.out.2,HE.out.1];exact⟨v8,[bare 2 ⟨#[]⟩ (aA s st.p)],rfl,HF8.out,HW8.out,fun q hq g hg=>by rw[Vl]at hq;subst hq;exact absurd hg (kJ _ _ _ g)⟩)
 have HF5:=aj (YC.out.is_yes hR hc hr5 hg5);have EQ:=aj (MQ hc);have HP5:Hid (st.p+ax s st.p+2<=s.size):=Ar hc;clear hr5 hg5 hc YC WG HV4 HFR4;go_wp2_with fail;refine mG 5 (fun _=>undef) (fun f=>{ tmps:=List.toArray (Value.pointer (some ⟨R,0,none⟩)::undef::.int .i64 0::undef::undef::undef::.pointer (some ⟨X,0,none⟩)::.pointer (some ⟨R,0,none⟩)::.bool false::undef::undef::undef::undef::undef::undef::undef::undef::undef::undef::undef::undef::undef::undef::undef::undef::undef::undef::undef::undef::undef::undef::undef::undef::undef::undef::undef::undef::undef::undef::undef::.pointer (some ⟨R,0,none⟩)::.bool false::undef::undef::undef::undef::undef::undef::undef::undef::undef::.pointer (some ⟨R,0,none⟩)::.string (aA s st.p)::.agg #[.int .i64 2,.slice none 0 0,.string ⟨#[]⟩,.string (aA s st.p),.slice none 0 0]::.pointer (some ⟨R,0,none⟩)::.bool true::f 0::f 1::f 2::f 3::f 4::undef::undef::undef::undef::undef::undef::undef::undef::undef::[]),defers:=[] }) (VB (Value.pointer (some ⟨X,3,none⟩)::.string (aA s st.p)::.pointer (some ⟨R,0,none⟩)::.string (aA s (st.p+ax s st.p+2))::.agg #[.int .i64 3,.slice none 0 0,.string (aA s st.p),.string (aA s (st.p+ax s st.p+2)),.slice none 0 0]::[]) R s ((st.p+ax s st.p+2)+ax s (st.p+ax s st.p+2)) st.bad v) (GB R s (st.p+ax s st.p+2) st.bad v X (bare 2 ⟨#[]⟩ (aA s st.p)) w3) (by kernel_rfl) rfl (by decide +kernel) (by decide +kernel) rfl ⟨fun _=>HF5.out.rd.drewN 1,HV5.out,⟨HO35.out.os,HO35.out.tape,HO35.out.output,HO35.out.size,HO35.out.block⟩,HFR5.out⟩ ?yP ?finB;case yP =>
  rintro i hi o ho listed f w' hls XB hG hpre;have HG:=aj hG;have HM:Hid (∀e∈o.after,Region.binds .any e=true->_):=hpre;clear hG hpre;have hc:i=0\/i=1\/i=2\/i=3\/i=4:=by omega
  clear hi
  repeat' rcases hc with rfl|hc
  ·cases ho;have HS:=aj (HG.out.step (i:=0) hls (by decide));refine aa rfl fun K HK=>?_;clear HM;dsimp only;go_simp;exact HK.out _ _ ⟨Value.pointer (some ⟨X,3,none⟩),by simp[upd],HS.out,⟨rfl,fun e=>absurd e (by decide)⟩,fun k u _ hu=>hu⟩
  ·cases ho;have e0:f 0=Value.pointer (some ⟨X,3,none⟩):=(HM.out ⟨0,.data⟩ (by simp) rfl).1;have x3:w'.cell? ⟨X,3,none⟩=some (.string (aA s st.p)):=HG.out.box.2.2.2.1;have HS:=aj (HG.out.step (i:=1) hls (by decide));refine aa rfl fun K HK=>?_;clear HM;simp only[e0];go_simp;exact HK.out _ _ ⟨Value.string (aA s st.p),by simp[upd,e0],HS.out,⟨rfl,fun e=>absurd e (by decide)⟩,fun k u _ hu=>hu⟩
  ·cases ho;have HS:=aj (HG.out.step (i:=2) hls (by decide));refine aa rfl fun K HK=>?_;clear HM;dsimp only;go_simp;exact HK.out _ _ ⟨Value.pointer (some ⟨R,0,none⟩),by simp[upd],HS.out,⟨rfl,fun e=>absurd e (by decide)⟩,fun k u _ hu=>hu⟩
  ·cases ho;have e2:f 2=Value.pointer (some ⟨R,0,none⟩):=(HM.out ⟨2,.data⟩ (by simp) rfl).1;have hrd:=aj (HG.out.rd (Jh XB hls (by omega)));refine aa rfl fun K HK=>?_;clear HM;simp only[e2];go_simp;refine(vz R s (st.p+ax s st.p+2) st.bad v w' hrd.out hs HP5.out).mono ?_;rintro e w7 ⟨rfl,hr7,Y9⟩;have HS:=aj (HG.out.called hls Y9 HXR.out);have HR7:=aj hr7;clear hr7 Y9;go_wp2_with fail;exact HK.out _ _ ⟨Value.string (aA s (st.p+ax s st.p+2)),by simp[upd,e2],HS.out,⟨rfl,fun _=>HR7.out⟩,fun k u hk hu=>⟨hu.1,fun e=>absurd e hk⟩⟩
  cases ho;have e1:f 1=Value.string (aA s st.p):=(HM.out ⟨1,.data⟩ (by simp) rfl).1;have e3:f 3=Value.string (aA s (st.p+ax s st.p+2)):=(HM.out ⟨3,.data⟩ (by simp) rfl).1;have HS:=aj (HG.out.step (i:=4) hls (by decide));refine aa rfl fun K HK=>?_;clear HM;simp only[e1,e3];go_simp;exact HK.out _ _ ⟨Value.agg #[.int .i64 3,.slice none 0 0,.string (aA s st.p),.string (aA s (st.p+ax s st.p+2)),.slice none 0 0],by simp[upd,e1,e3],HS.out,⟨rfl,fun e=>absurd e (by decide)⟩,fun k u _ hu=>hu⟩
 case finB =>
  rintro o ho listed f w' hG hall;obtain rfl:=Option.some.inj ho;have e4:f 4=Value.agg #[.int .i64 3,.slice none 0 0,.string (aA s st.p),.string (aA s (st.p+ax s st.p+2)),.slice none 0 0]:=(hall 4 (by omega)).1;have HRD:=aj ((hall 3 (by omega)).2 rfl);have HG:=aj hG;obtain⟨x0,x1,x2,x3,x4,xl⟩:=hG.box;have f0:=hG.fr 0;have f1:=hG.fr 1;have f2:=hG.fr 2;have f3:=hG.fr 3;have f4:=hG.fr 4;clear ho hall hG;refine wpOp_step rfl (fun K hK=>?_);have HK:Hid (∀a w,_->K a w):=hK;clear hK;simp only[e4];go_simp;refine HK.out _ _ ?_;clear HK;obtain⟨wz,hwz⟩:∃wz,wz=(((((w'.setCell ⟨X,0,none⟩ (.int .i64 3)).setCell ⟨X,1,none⟩ (.slice none 0 0)).setCell ⟨X,2,none⟩ (.string (aA s st.p))).setCell ⟨X,3,none⟩ (.string (aA s (st.p+ax s st.p+2)))).setCell ⟨X,4,none⟩ (.slice none 0 0)):=⟨_,rfl⟩;have HO3z:Hid (Onl R om w3 wz):=by rw[hwz];exact((((HG.out.onl.at_new HX3.out _ _).at_new HX3.out _ _).at_new HX3.out _ _).at_new HX3.out _ _).at_new HX3.out _ _
  have HRz:Hid (RdC wz R s (st.p+ax s st.p+2+ax s (st.p+ax s st.p+2)) st.bad v):=by rw[hwz];exact((((HRD.out.other HXR.out _ _).other HXR.out _ _).other HXR.out _ _).other HXR.out _ _).other HXR.out _ _
  have HVz:Hid (za wz X (bare 3 (aA s st.p) (aA s (st.p+ax s st.p+2)))):=by rw[hwz];exact PP x0 x1 x2 x3 x4 xl _ _ _
  clear HV5 HF5 WF HO35 HFR5;have HF5:=aj (HF3.out.over hR HO3z.out HRz.out);have WF:=aj (WO.out.trans0 HO3z.out);rw[<-hwz];clear hwz x0 x1 x2 x3 x4 xl f0 f1 f2 f3 f4 e4 HRz HO3z HG HRD;obtain⟨x0,x1,x2,x3,x4,xl⟩:=HVz.out;replace x0:wz.cell? ⟨X,0,none⟩=some (.int .i64 3):=x0;replace x1:wz.cell? ⟨X,1,none⟩=some (.slice none 0 0):=x1;replace x2:wz.cell? ⟨X,2,none⟩=some (.string (aA s st.p)):=x2;replace x3:wz.cell? ⟨X,3,none⟩=some (.string (aA s (st.p+ax s st.p+2))):=x3;replace x4:wz.cell? ⟨X,4,none⟩=some (.slice none 0 0):=x4;go_wp2_with fail;refine(mF (bare 3 (aA s st.p) (aA s (st.p+ax s st.p+2))) wz ⟨fun a ha=>(by cases ha),by show(aA s st.p).size<=maxLen;rw[ZR.out];have:=HP3.out;unfold maxLen;omega,by show(aA s (st.p+ax s st.p+2)).size<=maxLen;rw[zY s _ HP5.out];have:=kN s _ HP5.out;unfold maxLen;omega,Vf _,Vf _⟩ (by show(3:Int)≠1;decide)).mono ?_;rintro e w6 ⟨rfl,hB6⟩;have Xy:=aj (WF.out.trans0 (Onl.of_below hB6));have ZT:=aj (HF5.out.over hR (Onl.of_below hB6) (HF5.out.rd.below hB6));obtain⟨y0,y1,y2,y3,y4,yl⟩:=HVz.out.below hB6;replace y0:w6.cell? ⟨X,0,none⟩=some (.int .i64 3):=y0;replace y1:w6.cell? ⟨X,1,none⟩=some (.slice none 0 0):=y1;replace y2:w6.cell? ⟨X,2,none⟩=some (.string (aA s st.p)):=y2;replace y3:w6.cell? ⟨X,3,none⟩=some (.string (aA s (st.p+ax s st.p+2))):=y3;replace y4:w6.cell? ⟨X,4,none⟩=some (.slice none 0 0):=y4;clear x0 x1 x2 x3 x4 xl hB6 HVz HF5 WF;cases hb:ay (bare 3 (aA s st.p) (aA s (st.p+ax s st.p+2))).e;case true=>
   have HE:Hid (fw s st=(bare 3 (aA s st.p) (aA s (st.p+ax s st.p+2))).e/\judged (fw s st) (aL s st)=(⟨st.p+ax s st.p+2+ax s (st.p+ax s st.p+2),st.bad,st.out⟩:RS)):=by
    refine⟨EQ.out.1,?_⟩;rw[EQ.out.1,EQ.out.2];exact if_pos hb
   clear hb;go_wp2_with fail;refine(L9 R s ((⟨st.p+ax s st.p+2+ax s (st.p+ax s st.p+2),st.bad,st.out⟩:RS)) base v qs (bare 3 (aA s st.p) (aA s (st.p+ax s st.p+2))) w6 ZT.out hR (Vj hB Xy.out.size) hn (wI _ _ _ _ _) (.inl ⟨rfl,rfl,rfl⟩) (fun g hg=>absurd hg (kJ _ _ _ g))).mono ?_;rintro e w7 ⟨v7,rfl,hF7,YJ⟩;have HF7:=aj hF7;have HW7:=aj ((Xy.out.any v).trans YJ);clear hF7 YJ;go_wp2;exact bodyPost_ret (v:=.int .i64 (st.out.length:Int)) (by simp[results,Tryz.results234,go_sem]) rfl (by rw[HE.out.1,<-HE.out.1,HE.out.2,HE.out.1];exact⟨v7,[bare 3 (aA s st.p) (aA s (st.p+ax s st.p+2))],rfl,HF7.out,HW7.out,fun q hq g hg=>by rw[Vl]at hq;subst hq;exact absurd hg (kJ _ _ _ g)⟩)
  have HE:Hid (fw s st=(bare 3 (aA s st.p) (aA s (st.p+ax s st.p+2))).e/\judged (fw s st) (aL s st)=vv ((⟨st.p+ax s st.p+2+ax s (st.p+ax s st.p+2),st.bad,st.out⟩:RS))):=by
   refine⟨EQ.out.1,?_⟩;rw[EQ.out.1,EQ.out.2];exact if_neg (fun e=>by have:=e.symm.trans hb;cases this)
  clear hb;have c2:=ZT.out.rd.c2;have f2:=ZT.out.rd.fr 2;have hl:=ZT.out.rd.lt;have hxr:=HXR.out;have hrx:=Ne.symm HXR.out;have Y8:Hid (Onl R om w (w6.setCell ⟨R,2,none⟩ (.bool true))):=Xy.out.at_own _ _;have HF7:Hid (RdF (w6.setCell ⟨R,2,none⟩ (.bool true)) R s (vv ((⟨st.p+ax s st.p+2+ax s (st.p+ax s st.p+2),st.bad,st.out⟩:RS))) base v qs):=ZT.out.over hR ((Onl.refl R om w6).at_own _ _) ZT.out.rd.hurt;go_wp2_with fail;refine(L9 R s (vv ((⟨st.p+ax s st.p+2+ax s (st.p+ax s st.p+2),st.bad,st.out⟩:RS))) base v qs (bare 3 (aA s st.p) (aA s (st.p+ax s st.p+2))) _ HF7.out hR (Vj hB Y8.out.size) hn (wI _ _ _ _ _) (.inl ⟨rfl,rfl,rfl⟩) (fun g hg=>absurd hg (kJ _ _ _ g))).mono ?_;rintro e w8 ⟨v8,rfl,hF8,YE⟩;have HF8:=aj hF8;have HW8:=aj ((Y8.out.any v).trans YE);clear hF8 YE;go_wp2;exact bodyPost_ret (v:=.int .i64 (st.out.length:Int)) (by simp[results,Tryz.results234,go_sem,vv]) rfl (by rw[HE.out.1,<-HE.out.1,HE.out.2,HE.out.1];exact⟨v8,[bare 3 (aA s st.p) (aA s (st.p+ax s st.p+2))],rfl,HF8.out,HW8.out,fun q hq g hg=>by rw[Vl]at hq;subst hq;exact absurd hg (kJ _ _ _ g)⟩)
structure PL(w1 wr:World)(R X:Nat)(s:ByteArray)(xs:Q0a)(p:Nat)(bad:Bool)(v vA:Value):Prop where
 rd:RdC wr R s p bad v
 onl:Onl R om w1 wr
 c0:wr.cell? ⟨X,0,none⟩=some (.int .i64 1)
 c1:wr.cell? ⟨X,1,none⟩=some vA
 c2:wr.cell? ⟨X,2,none⟩=some (.string ⟨#[]⟩)
 c3:wr.cell? ⟨X,3,none⟩=some (.string ⟨#[]⟩)
 c4:wr.cell? ⟨X,4,none⟩=some (.slice none 0 0)
 fr:jZ wr X
 lt:X<wr.heap.size
 own:wr.ownsRow (X+1) 43 2 vA xs.length (pairs xs)
theorem PL.moved{w1 wr w':af}{R X:Nat}{s:ByteArray}{xs:Q0a}{p p':Nat}{bad bad':Bool}{v vA:Value}(h:PL w1 wr R X s xs p bad v vA)(hRX:R<X)(hg:wr.grownBy w' (some R))(hr:RdC w' R s p' bad' v):PL w1 w' R X s xs p' bad' v vA:=by
 have hne:some X≠some R:=by intro e;injection e with e;omega
 refine⟨hr,h.onl.trans0 (Onl.of_grown hg),hg.cell h.c0 hne,hg.cell h.c1 hne,hg.cell h.c2 hne,hg.cell h.c3 hne,hg.cell h.c4 hne,dx h.fr (hg.block X h.lt hne),U9 h.lt hg.size,h.own.kept hg (.inr ?_)⟩;intro e;have:=(h.own.lt R e).1;omega
theorem PL.made{w1 wr:af}{R X:Nat}{s:ByteArray}{xs:Q0a}{p:Nat}{bad:Bool}{v vA:Value}(h:PL w1 wr R X s xs p bad v vA)(o:Obj):PL w1 (wr.alloc o) R X s xs p bad v vA:=by
 have hg:=World.grownBy_alloc wr o none;exact⟨h.rd.grown hg (by simp),h.onl.trans0 (Onl.of_below ((Vb _ _).alloc (Va _) _)),hg.cell h.c0 (by simp),hg.cell h.c1 (by simp),hg.cell h.c2 (by simp),hg.cell h.c3 (by simp),hg.cell h.c4 (by simp),dx h.fr (hg.block X h.lt (by simp)),U9 h.lt hg.size,h.own.alloc o⟩
theorem PL.aset{w1 wr:af}{R X:Nat}{s:ByteArray}{xs:Q0a}{p:Nat}{bad:Bool}{v vA:Value}(h:PL w1 wr R X s xs p bad v vA)(hRX:R<X)(h1:w1.heap.size<=X){A:Nat}(hA:X<A)(hv:vA.ownBlock≠some A)(o:Nat)(u:Value):PL w1 (wr.setCell ⟨A,o,none⟩ u) R X s xs p bad v vA:=by
 have hb:∀k,k≠A->(wr.setCell ⟨A,o,none⟩ u).heap[k]?=wr.heap[k]?:=fun k hk=>Below.heap_setCell wr _ _ k hk;refine⟨h.rd.other (by omega) _ _,h.onl.at_new (by omega) _ _,?_,?_,?_,?_,?_,dx h.fr (hb X (by omega)),by simpa using h.lt,jM h.own fun g hg=>hb g (fun e=>hv (by rw[hg,e]))⟩
 all_goals rw[Vx (w:=wr) (hb X (by omega))]
 ·exact h.c0
 ·exact h.c1
 ·exact h.c2
 ·exact h.c3
 exact h.c4
theorem MS(xs:Q0a)(a:Al):pairs (xs++[a])=pairs xs++[.string a.t,.string a.s]:=by simp[pairs]
theorem PL.app{w1 wr w':af}{R X:Nat}{s:ByteArray}{xs:Q0a}{p:Nat}{bad:Bool}{v vA vB:Value}(h:PL w1 wr R X s xs p bad v vA)(hRX:R<X)(h1:w1.heap.size<=X)(a:Al)(hown:w'.ownsRow (X+1) 43 2 vB (xs.length+1) (pairs xs++[.string a.t,.string a.s]))(hg:wr.grownBy w' vA.ownBlock):PL w1 (w'.setCell ⟨X,1,none⟩ vB) R X s (xs++[a]) p bad v vB:=by
 have hX:some X≠vA.ownBlock:=fun e=>by have:=(h.own.lt X e.symm).1;omega
 have hR:some R≠vA.ownBlock:=fun e=>by have:=(h.own.lt R e.symm).1;omega
 have ho:Onl R om w1 w':=⟨hg.os.trans h.onl.os,hg.tape.trans h.onl.tape,hg.output.trans h.onl.output,Vj h.onl.size hg.size,fun k hk h2 h3=>(hg.block k (U9 hk h.onl.size) (fun e=>by have:=(h.own.lt k e.symm).1;omega)).trans (h.onl.block k hk h2 h3)⟩;refine⟨(h.rd.grown hg hR).other (by omega) _ _,ho.at_new h1 _ _,?_,mS (hg.cell h.c1 hX),?_,?_,?_,fun j=>?_,?_,?_⟩
 ·rw[mO (by omega)];exact hg.cell h.c0 hX
 ·rw[mO (by omega)];exact hg.cell h.c2 hX
 ·rw[mO (by omega)];exact hg.cell h.c3 hX
 ·rw[mO (by omega)];exact hg.cell h.c4 hX
 ·simpa using dx h.fr (hg.block X h.lt hX) j
 ·simpa using U9 h.lt hg.size
 rw[MS,Vh,VL];exact ownsRow_setCell_below hown (by show X<X+1;omega) _
def wbad(R:Nat)(w:World):Nat:=match w.cell? ⟨R,2,none⟩ with
 | some (.bool true)=>0
 | _=>1
theorem RdC.wbad0{w:af}{R:Nat}{s:ByteArray}{p:Nat}{v:Value}(h:RdC w R s p true v):wbad R w=0:=by
 simp[Go.Proofs.YtajkkeikihhejaaGreat.wbad,h.c2]
theorem RdC.wbad1{w:af}{R:Nat}{s:ByteArray}{p:Nat}{v:Value}(h:RdC w R s p false v):wbad R w=1:=by
 simp[Go.Proofs.YtajkkeikihhejaaGreat.wbad,h.c2]
theorem Bv(w:af)(a b:bW)(g:Nat)(hg:w.heap.size=g):∀j u,[Value.string a,.string b][j]?=some u->(w.alloc (.cells #[.string a,.string b] 43)).cell? ((⟨g,0,none⟩:Addr).add j)=some u:=by
 intro j u hu;subst hg;rw[show(⟨w.heap.size,0,none⟩:Addr).add j=⟨w.heap.size,0+j,none⟩ by simp[Addr.add];omega,VC];have:=World.cell?_alloc_mark w #[.string a,.string b] 43 (0,0) j;rw[this];simpa using hu
def q8(s:ByteArray)(st:RS):Int×RS:=match dF s (s.size+1) [] (kM gm st) with
 | (some xs,st')=>((st'.out.length:Int),sP ⟨1,xs,⟨#[]⟩,⟨#[]⟩,[]⟩ st')
 | (none,st')=>(0,st')
theorem JY{s:ByteArray}{st st':RS}{xs:Q0a}(h:dF s (s.size+1) [] (kM gm st)=(some xs,st')):q8 s st=((st'.out.length:Int),sP ⟨1,xs,⟨#[]⟩,⟨#[]⟩,[]⟩ st'):=by simp only[q8,h]
theorem JZ{s:ByteArray}{st st':RS}(h:dF s (s.size+1) [] (kM gm st)=(none,st')):q8 s st=(0,st'):=by simp only[q8,h]
theorem J3(s:bW)(n:Nat)(xs:Q0a)(p:Nat)(o:Q09):dF s n xs ⟨p,true,o⟩=(none,⟨p,true,o⟩):=by
 cases n with
 | zero=>rfl
 | succ n=>rfl
structure PairIs(s:ByteArray)(p:Nat)(o:Q09)(a:Al)(pb:Nat):Prop where
 a:(⟨aA s p,yU s (bI s ⟨p,false,o⟩)⟩:Al)=a
 b:aZ s (bI s ⟨p,false,o⟩)=⟨pb,false,o⟩
theorem MU{s:ByteArray}{p:Nat}{o:Q09}(h:nz s vk (p+ax s p) false=false):PairIs s p o ⟨aA s p,⟨#[]⟩⟩ (p+ax s p):=by
 have e:lW s vk (bI s ⟨p,false,o⟩)=false:=h;exact⟨by unfold yU;rw[e];rfl,by unfold aZ;rw[e];rfl⟩
theorem J4{s:ByteArray}{p:Nat}{o:Q09}(h:nz s vk (p+ax s p) false=true):PairIs s p o ⟨aA s p,aA s (p+ax s p+1)⟩ (p+ax s p+1+ax s (p+ax s p+1)):=by
 have e:lW s vk (bI s ⟨p,false,o⟩)=true:=h;exact⟨by unfold yU;rw[e];rfl,by unfold aZ;rw[e];rfl⟩
theorem Ht{s:ByteArray}{p pb n:Nat}{o:Q09}{a:Al}{xs:Q0a}(h:PairIs s p o a pb)(h1:nz s fC pb false=true):dF s (n+1) xs ⟨p,false,o⟩=(some (xs++[a]),⟨pb+1,false,o⟩):=by
 have e:lW s fC ⟨pb,false,o⟩=true:=h1;unfold dF;rw[h.a,h.b,e];rfl
theorem Hu{s:ByteArray}{p pb n:Nat}{o:Q09}{a:Al}{xs:Q0a}(h:PairIs s p o a pb)(h1:nz s fC pb false=false)(h2:nz s mD pb false=true):dF s (n+1) xs ⟨p,false,o⟩=dF s n (xs++[a]) ⟨pb+1,false,o⟩:=by
 have e:lW s fC ⟨pb,false,o⟩=false:=h1;have e2:lW s mD ⟨pb,false,o⟩=true:=h2
 conv=>lhs;unfold dF
 rw[h.a,h.b,e,e2];rfl
theorem MV{s:ByteArray}{p pb n:Nat}{o:Q09}{a:Al}{xs:Q0a}(h:PairIs s p o a pb)(h1:nz s fC pb false=false)(h2:nz s mD pb false=false):dF s (n+1) xs ⟨p,false,o⟩=dF s n (xs++[a]) ⟨pb,true,o⟩:=by
 have e:lW s fC ⟨pb,false,o⟩=false:=h1;have e2:lW s mD ⟨pb,false,o⟩=false:=h2
 conv=>lhs;unfold dF
 rw[h.a,h.b,e,e2];rfl
theorem capOf{w:af}{base size n m cap:Nat}{e:TypeId}{ad:Q02}{xs:Q03}(h:w.ownsRow base e size (.slice ad n cap) m xs)(hm:m=n:=by rfl):n<=cap:=by
 rcases h.2 with⟨e1,h0⟩|⟨g,cap',cur,e1,-,-,hnc,-⟩
 ·injection e1 with _ e2 e3;omega
 injection e1 with _ e2 e3;omega
theorem PL.node{w1 wr:af}{R X:Nat}{s:ByteArray}{xs:Q0a}{p:Nat}{bad:Bool}{v vA:Value}(h:PL w1 wr R X s xs p bad v vA)(h1:w1.heap.size<=X){base:Nat}(hb:base<=w1.heap.size):∃ad cap,vA=.slice ad xs.length cap/\NewQ base wr ⟨⟨1,xs,⟨#[]⟩,⟨#[]⟩,[]⟩,ad,cap,none,0⟩/\∀g,qw ⟨⟨1,xs,⟨#[]⟩,⟨#[]⟩,[]⟩,ad,cap,none,0⟩ g->X<g:=by
 obtain⟨ad,cap,e,h2,h3,h4⟩:=UE h.own rfl;have hK:∀g,¬bK ⟨⟨1,xs,⟨#[]⟩,⟨#[]⟩,[]⟩,ad,cap,none,0⟩ g:=fun g hg=>hg.1 rfl;have hA:∀g,qw ⟨⟨1,xs,⟨#[]⟩,⟨#[]⟩,[]⟩,ad,cap,none,0⟩ g->X+1<=g/\g<wr.heap.size/\jZ wr g:=by
  rintro g (hg|hg)
  ·exact h4 g hg.1 hg.2
  exact absurd hg (hK g)
 refine⟨ad,cap,e,⟨h3,fun h=>absurd rfl h,⟨h2,.inl rfl⟩,fun g hg=>⟨?_,(hA g hg).2⟩,fun g _ hg=>hK g hg,capOf (e ▸ h.own)⟩,fun g hg=>(hA g hg).1⟩;have:=(hA g hg).1;omega
theorem MW(R:Nat)(s:bW)(st:RS)(base:Nat)(v:Value)(qs:Q08)(w:af)(h:RdF w R s st base v qs)(hR:R<base)(hB:base<=w.heap.size)(hs:s.size<=1000)(hp:st.p<=s.size)(hn:qs.length<=100000)
  (h0:nz s gm st.p st.bad=true) :
  Calls prog 234 #[.pointer (some ⟨R,0,none⟩)] w (vI R s base v qs w (q8 s st)):=by
 obtain⟨iA,hiA,zA0,zA1,zA2⟩:=info_parts (P:=prog) (e:=43) (z:=.agg #[.string ⟨#[]⟩,.string ⟨#[]⟩]) (size:=2) (bytes:=32) (by kernel_rfl);have HIA:Hid (prog.info? 43=some iA/\iA.zero=some (.agg #[.string ⟨#[]⟩,.string ⟨#[]⟩])/\iA.size=2/\iA.bytes=32):=⟨hiA,zA0,zA1,zA2⟩;have H:=aj h;have HP:=aj hp
 have hbad:st.bad=false:=by cases e:st.bad with
  | false=>rfl
  | true=>rw[e]at h0;cases h0
 have HBD:=aj hbad;have HP1:Hid (st.p+5<=s.size):=Ar h0;clear h hp hiA zA0 zA1 zA2 hbad;go_enter func234,ntmps234;go_wp2_with fail;refine(mE R s gm st.p st.bad v w H.out.rd hs HP.out (by decide)).mono ?_;rintro e w1 ⟨rfl,hr1,hg1⟩;have Xx:=aj (H.out.is_yes hR h0 hr1 hg1);have WK:=aj (Onl.of_grown hg1);rw[h0];clear hr1 hg1 h0;obtain⟨W2,hW2⟩:∃W2,W2=w1.alloc (.cells #[.int .i64 1,.slice none 0 0,.string ⟨#[]⟩,.string ⟨#[]⟩,.slice none 0 0] 39):=⟨_,rfl⟩;have HL2:Hid (PL w1 W2 R w1.heap.size s [] (st.p+5) false v (.slice none 0 0)):=by
  rw[hW2];have hrd:RdC w1 R s (st.p+5) false v:=by have:=Xx.out.rd;rw[show(kM gm st).bad=false from HBD.out]at this;exact this
  refine⟨hrd.below ((Vb _ _).alloc (Va _) _),Onl.of_below ((Vb _ _).alloc (Va _) _),by simp,by simp,by simp,by simp,by simp,fun j=>by simp,by simp,World.ownsRow_nil _ _ _ _⟩
 have HX0:Hid (w.heap.size<=w1.heap.size):=WK.out.size;have YR:Hid (R<w1.heap.size):=Xx.out.rd.lt;have YW:Hid (w1.heap.size<=w1.heap.size):=Va _;go_wp2_with fail;rw[<-hW2];clear hW2;obtain⟨X,hX⟩:∃X,X=w1.heap.size:=⟨_,rfl⟩;replace HL2:Hid (PL w1 W2 R X s [] (st.p+5) false v (.slice none 0 0)):=by rw[hX];exact HL2
 replace HX0:Hid (w.heap.size<=X):=by rw[hX];exact HX0
 replace YR:Hid (R<X):=by rw[hX];exact YR
 replace YW:Hid (w1.heap.size<=X):=by rw[hX];exact YW
 rw[<-hX];clear hX;go_loopw[14] (fun _ wr=>∃(n p:Nat) (bad:Bool) (xs:Q0a) (vA:Value),Hid (p<=s.size)/\Hid (dF s n xs ⟨p,bad,st.out⟩=dF s (s.size+1) [] (kM gm st))/\Hid (bad=false->s.size-p<n/\xs.length+5<=p)/\Hid (PL w1 wr R X s xs p bad v vA)) (fun _ wr=>s.size-wat R wr+wbad R wr);case atStart=>exact⟨s.size+1,st.p+5,false,[],.slice none 0 0,HP1.out,by show _=_;unfold kM;rw[HBD.out];rfl,fun _=>⟨by omega,by simp⟩,HL2.out⟩
 obtain⟨n,p,bad,xs,vA,HPL,HPP,HLN,HL⟩:=hrel;clear HL2;have r2:=HL.out.rd.c2;have rl:=HL.out.rd.lt;cases bad;case true=>
  have EQ:=aj (JZ (HPP.out.symm.trans (J3 s n xs p st.out)));have HF:=aj (Xx.out.over hR HL.out.onl HL.out.rd);have HO:=aj (WK.out.trans0 HL.out.onl);go_wp2;exact bodyPost_ret (v:=.int .i64 0) (by simp[results,Tryz.results234,go_sem]) rfl (by rw[EQ.out];exact⟨v,[],rfl,by rw[V4];exact HF.out,HO.out.any v,fun q hq=>by cases hq⟩)
 obtain⟨m,hm⟩:∃m,n=m+1:=⟨n-1,by have:=(HLN.out rfl).1;omega⟩;subst hm;have HPW:=aj (kN s p HPL.out);have HLN1:=aj (HLN.out rfl).1;have HLN2:=aj (HLN.out rfl).2;clear HLN;go_wp2_with fail;refine(vz R s p false v wr HL.out.rd hs HPL.out).mono ?_;rintro e w4 ⟨rfl,hr4,hg4⟩;have HL4:=aj (HL.out.moved YR.out hg4 hr4);have HPLC:=aj HL.out.rd.place;have HPLB:=aj HL.out.rd.wbad1;clear hr4 hg4 HL r2 rl;obtain⟨W5,Yb⟩:∃W5,W5=w4.alloc (.cells #[.string (aA s p),.string ⟨#[]⟩] 43):=⟨_,rfl⟩;have HL5:Hid (PL w1 W5 R X s xs (p+ax s p) false v vA):=by rw[Yb];exact HL4.out.made _
 have HA0:Hid (W5.cell? ⟨w4.heap.size,0,none⟩=some (.string (aA s p))):=by show _=_;rw[Yb];simp
 have HA1:Hid (W5.cell? ⟨w4.heap.size,1,none⟩=some (.string ⟨#[]⟩)):=by show _=_;rw[Yb];simp
 have HAF:Hid (jZ W5 w4.heap.size):=fun j=>by rw[Yb];simp
 have WM:Hid (w4.heap.size<W5.heap.size):=by show _<_;rw[Yb];simp
 have HAX:Hid (X<w4.heap.size):=HL4.out.lt;have HAV:Hid (vA.ownBlock≠some w4.heap.size):=fun e=>by have:=(HL4.out.own.lt _ e).2;omega
 go_wp2_with fail;rw[<-Yb];clear Yb;obtain⟨A,hA⟩:∃A,A=w4.heap.size:=⟨_,rfl⟩;rw[<-hA]at HA0 HA1 HAF WM HAX HAV;rw[<-hA];clear hA HL4;refine(mE R s vk (p+ax s p) false v W5 HL5.out.rd hs HPW.out (by decide)).mono ?_;rintro e w6 ⟨rfl,Yr,hg6⟩;have HAR:Hid (some A≠some R):=by intro e;injection e with e;have:=YR.out;have:=HAX.out;omega
 have HB0:=aj (hg6.cell HA0.out HAR.out);have HB1:=aj (hg6.cell HA1.out HAR.out);have HBF:=aj (dx HAF.out (hg6.block A WM.out HAR.out));have HBL:=aj (U9 WM.out hg6.size);cases hc:nz s vk (p+ax s p) false
 case' false =>
  rw[zZ hc]at Yr;have HL6:=aj (HL5.out.moved YR.out hg6 Yr);have PI:=aj (MU (o:=st.out) hc);have HPB:=HPW;have HPG:Hid (p<=p+ax s p):=Nat.le_add_right _ _;clear Yr hg6 hc HL5 HA0 HA1 HAF WM;have a0:=HB0.out;have a1:=HB1.out;have k1:=HL6.out.c1;obtain⟨W9,hW9⟩:∃W9,W9=w6.alloc (.cells #[.string (aA s p),.string ((⟨#[]⟩:ByteArray))] 43):=⟨_,rfl⟩;have Zh:Hid (PL w1 W9 R X s xs (p+ax s p) false v vA):=by rw[hW9];exact HL6.out.made _
  have Yd:Hid (∀j u,[Value.string (aA s p),.string ((⟨#[]⟩:ByteArray))][j]?=some u->W9.cell? ((⟨w6.heap.size,0,none⟩:Addr).add j)=some u):=by rw[hW9];exact Bv w6 _ _ _ (rfl)
  have HSZ9:Hid (X+1<=W9.heap.size):=Zh.out.lt;have hxs:xs.length<=1000:=by have:=HLN2.out;have:=HPL.out;omega
  go_wp2_with(at_builtin;rw[<-hW9];clear hW9;refine wpList_append_own _ rfl _ _ 36 rfl (X+1) 43 iA (.agg #[.string ⟨#[]⟩,.string ⟨#[]⟩]) 2 32 underlying36 HIA.out.1 HIA.out.2.1 HIA.out.2.2.1 HIA.out.2.2.2 rfl (by decide) vA xs.length (pairs xs) rfl Zh.out.own ⟨w6.heap.size,0,none⟩ 1 1 [Value.string (aA s p),.string ((⟨#[]⟩:ByteArray))] rfl rfl Yd.out (by intro u hu;simp at hu;rcases hu with rfl|rfl<;>rfl) (by unfold maxLen;omega) (by omega) HSZ9.out ?_);intro vB w10 XV XL _;obtain⟨gB,cB,rfl⟩:=fM XV;have hX10:some X≠vA.ownBlock:=fun e=>by have:=(Zh.out.own.lt X e.symm).1;omega
  have k10:=XL.cell Zh.out.c1 hX10;have f10:=dx Zh.out.fr (XL.block X Zh.out.lt hX10) 1;have l10:=U9 Zh.out.lt XL.size;have YK:=aj (Zh.out.app YR.out YW.out ⟨aA s p,(⟨#[]⟩:ByteArray)⟩ XV XL);clear XV XL a0 a1 k1 Zh hX10 Yd HSZ9 HL6;obtain⟨P,hP⟩:∃P,P=p+ax s p:=⟨_,rfl⟩;obtain⟨S2,hS2⟩:∃S2:ByteArray,S2=⟨#[]⟩:=⟨_,rfl⟩;rw[<-hP]at YK PI HPB HPG;rw[<-hS2]at YK PI;clear hP hS2
 case' true =>
  rw[vw hc]at Yr;have HL6:=aj (HL5.out.moved YR.out hg6 Yr);have PI:=aj (J4 (o:=st.out) hc);have HPH:Hid (p+ax s p+1<=s.size):=Ar hc;have HPB:=aj (kN s _ HPH.out);have HPG:Hid (p<=p+ax s p+1+ax s (p+ax s p+1)):=by show _<=_;omega
  clear Yr hg6 hc HL5 HA0 HA1 HAF WM;go_wp2_with fail;refine(vz R s (p+ax s p+1) false v w6 HL6.out.rd hs HPH.out).mono ?_;rintro e w7 ⟨rfl,hr7,Y9⟩;have HL7:=aj (HL6.out.moved YR.out Y9 hr7);have XC:=aj (Y9.cell HB0.out HAR.out);have a1:=Y9.cell HB1.out HAR.out;have hcf:=dx HBF.out (Y9.block A HBL.out HAR.out);have f1:=hcf 1;have hcl:=U9 HBL.out Y9.size;obtain⟨W8,YE⟩:∃W8,W8=w7.setCell ⟨A,1,none⟩ (.string (aA s (p+ax s p+1))):=⟨_,rfl⟩;have HL8:Hid (PL w1 W8 R X s xs (p+ax s p+1+ax s (p+ax s p+1)) false v vA):=by rw[YE];exact HL7.out.aset YR.out YW.out HAX.out HAV.out _ _
  have HD0:Hid (W8.cell? ⟨A,0,none⟩=some (.string (aA s p))):=by show _=_;rw[YE,mO (by omega)];exact XC.out
  have HD1:Hid (W8.cell? ⟨A,1,none⟩=some (.string (aA s (p+ax s p+1)))):=by show _=_;rw[YE];exact mS a1
  clear hr7 Y9 HL6 HB0 HB1 HBF HBL;have a0:=XC.out;have k1:=HL7.out.c1;have hxa:X≠A:=by have:=HAX.out;omega
  have hax:A≠X:=by have:=HAX.out;omega
  obtain⟨W9,hW9⟩:∃W9,W9=W8.alloc (.cells #[.string (aA s p),.string (aA s (p+ax s p+1))] 43):=⟨_,rfl⟩;have Zh:Hid (PL w1 W9 R X s xs (p+ax s p+1+ax s (p+ax s p+1)) false v vA):=by rw[hW9];exact HL8.out.made _
  have Yd:Hid (∀j u,[Value.string (aA s p),.string (aA s (p+ax s p+1))][j]?=some u->W9.cell? ((⟨w7.heap.size,0,none⟩:Addr).add j)=some u):=by rw[hW9];exact Bv W8 _ _ _ (by rw[YE];simp)
  have HSZ9:Hid (X+1<=W9.heap.size):=Zh.out.lt;have hxs:xs.length<=1000:=by have:=HLN2.out;have:=HPL.out;omega
  go_wp2_with(at_builtin;rw[<-YE];clear YE;rw[<-hW9];clear hW9;refine wpList_append_own _ rfl _ _ 36 rfl (X+1) 43 iA (.agg #[.string ⟨#[]⟩,.string ⟨#[]⟩]) 2 32 underlying36 HIA.out.1 HIA.out.2.1 HIA.out.2.2.1 HIA.out.2.2.2 rfl (by decide) vA xs.length (pairs xs) rfl Zh.out.own ⟨w7.heap.size,0,none⟩ 1 1 [Value.string (aA s p),.string (aA s (p+ax s p+1))] rfl rfl Yd.out (by intro u hu;simp at hu;rcases hu with rfl|rfl<;>rfl) (by unfold maxLen;omega) (by omega) HSZ9.out ?_);intro vB w10 XV XL _;obtain⟨gB,cB,rfl⟩:=fM XV;have hX10:some X≠vA.ownBlock:=fun e=>by have:=(Zh.out.own.lt X e.symm).1;omega
  have k10:=XL.cell Zh.out.c1 hX10;have f10:=dx Zh.out.fr (XL.block X Zh.out.lt hX10) 1;have l10:=U9 Zh.out.lt XL.size;have YK:=aj (Zh.out.app YR.out YW.out ⟨aA s p,aA s (p+ax s p+1)⟩ XV XL);clear XV XL a0 a1 k1 Zh hX10 Yd HSZ9 HL8 hxa hax f1 hcl hcf;obtain⟨P,hP⟩:∃P,P=p+ax s p+1+ax s (p+ax s p+1):=⟨_,rfl⟩;obtain⟨S2,hS2⟩:∃S2:ByteArray,S2=aA s (p+ax s p+1):=⟨_,rfl⟩;rw[<-hP]at YK PI HPB HPG;rw[<-hS2]at YK PI;clear hP hS2
 all_goals
  go_wp2_with fail;obtain⟨W11,hW11⟩:∃W11,W11=w10.setCell ⟨X,1,none⟩ (.slice (some ⟨gB,0,none⟩) (xs.length+1) cB):=⟨_,rfl⟩;rw[<-hW11]at YK ⊢;clear hW11 k10 f10 l10;refine(mE R s fC P false v W11 YK.out.rd hs HPB.out (by decide)).mono ?_;rintro e w12 ⟨rfl,Zb,Zi⟩;cases hcl:nz s fC P false;case true=>
   rw[vw hcl]at Zb;have XN:=aj (YK.out.moved YR.out Zi Zb);have EQ:=aj (JY (HPP.out.symm.trans (Ht (xs:=xs) (n:=m) PI.out hcl)));obtain⟨ad,cap,hva,hnq,hin⟩:=XN.out.node YW.out (base:=base) (Vj hB WK.out.size);injection hva with hva1 hva2 hva3;subst hva1;subst hva3;clear hva2;have HNQ:=aj hnq;have HIN:=aj hin;have k0:=XN.out.c0;have k1:=XN.out.c1;have k2:=XN.out.c2;have k3:=XN.out.c3;have k4:=XN.out.c4;have HF:=aj (Xx.out.over hR XN.out.onl XN.out.rd);have HO:=aj (WK.out.trans0 XN.out.onl);clear Zb Zi hcl hnq hin YK XN;go_wp2_with fail;have HADD:=L9 R s ⟨P+1,false,st.out⟩ base v qs ⟨⟨1,xs++[⟨aA s p,S2⟩],⟨#[]⟩,⟨#[]⟩,[]⟩,some ⟨gB,0,none⟩,cB,none,0⟩ w12 HF.out hR (Vj hB HO.out.size) hn HNQ.out (.inl ⟨rfl,rfl,rfl⟩) (fun g hg=>⟨fun e=>by have:=(Xx.out.own.lt g e).2;have:=HIN.out g hg;have:=YW.out;omega,fun q' hq' hg'=>by have:=(Xx.out.lie q' hq' g hg').2.1;have:=HIN.out g hg;have:=YW.out;omega⟩);rw[show(⟨⟨1,xs++[⟨aA s p,S2⟩],⟨#[]⟩,⟨#[]⟩,[]⟩,some ⟨gB,0,none⟩,cB,none,0⟩:ER).val=.agg #[.int .i64 1,.slice (some ⟨gB,0,none⟩) (xs.length+1) cB,.string ⟨#[]⟩,.string ⟨#[]⟩,.slice none 0 0] by simp[ER.val]]at HADD;refine HADD.mono ?_;rintro e w13 ⟨v13,rfl,hF13,hW13⟩;have HF13:=aj hF13;have HW13:=aj ((HO.out.any v).trans hW13);clear hF13 hW13;go_wp2;exact bodyPost_ret (v:=.int .i64 (st.out.length:Int)) (by simp[results,Tryz.results234,go_sem]) rfl (by rw[EQ.out];exact⟨v13,_,rfl,HF13.out,HW13.out,fun q hq g hg=>by rw[Vl]at hq;subst hq;have:=HIN.out g hg;have:=HX0.out;omega⟩)
  rw[zZ hcl]at Zb;have XN:=aj (YK.out.moved YR.out Zi Zb);have HCL:=aj hcl;clear Zb Zi hcl YK;go_wp2_with fail;refine(mE R s mD P false v w12 XN.out.rd hs HPB.out (by decide)).mono ?_;rintro e w13 ⟨rfl,hr13,ZU⟩;cases hcm:nz s mD P false;case true=>
   rw[vw hcm]at hr13;have YX:=aj (XN.out.moved YR.out ZU hr13);have HQ13:Hid (P+1<=s.size):=Ar hcm;have EQ:=aj ((Hu (xs:=xs) (n:=m) PI.out HCL.out hcm).symm.trans HPP.out);have HM:Hid (s.size-wat R w13+wbad R w13<s.size-wat R wr+wbad R wr):=by
    show _<_;rw[YX.out.rd.wbad1,HPLB.out,show wat R w13=P+1 from YX.out.rd.place,HPLC.out];have:=HQ13.out;have:=HPG.out;omega
   clear hr13 ZU hcm XN;go_wp2;go_roundw;case rel=>exact⟨m,P+1,false,xs++[(⟨aA s p,S2⟩:Al)],.slice (some ⟨gB,0,none⟩) (xs.length+1) cB,HQ13.out,EQ.out,fun _=>⟨by have:=HLN1.out;have:=HPG.out;have:=HQ13.out;omega,by have:=HLN2.out;have:=HPG.out;rw[Vh,VL];omega⟩,YX.out⟩
   exact HM.out
  rw[zZ hcm]at hr13;have YX:=aj (XN.out.moved YR.out ZU hr13);have EQ:=aj ((MV (xs:=xs) (n:=m) PI.out HCL.out hcm).symm.trans HPP.out);have c2:=YX.out.rd.c2;have f2:=YX.out.rd.fr 2;have hl13:=YX.out.rd.lt;have HL14:Hid (PL w1 (w13.setCell ⟨R,2,none⟩ (.bool true)) R X s (xs++[⟨aA s p,S2⟩]) P true v (.slice (some ⟨gB,0,none⟩) (xs.length+1) cB)):=YX.out.moved YR.out (by have:=Gj w13 R 2 (.bool true) 0;exact this) YX.out.rd.hurt;have HM:Hid (s.size-wat R (w13.setCell ⟨R,2,none⟩ (.bool true))+wbad R (w13.setCell ⟨R,2,none⟩ (.bool true))<s.size-wat R wr+wbad R wr):=by
   show _<_;rw[HL14.out.rd.wbad0,HPLB.out,show wat R (w13.setCell ⟨R,2,none⟩ (.bool true))=P from HL14.out.rd.place,HPLC.out];have:=HPG.out;omega
  clear hr13 ZU hcm XN YX;go_wp2;go_roundw;case rel=>exact⟨m,P,true,xs++[(⟨aA s p,S2⟩:Al)],.slice (some ⟨gB,0,none⟩) (xs.length+1) cB,HPB.out,EQ.out,fun h=>(by cases h),HL14.out⟩
  exact HM.out
theorem q9{a b:ByteArray}(h:a=b):Ending.returned (.string a)=.returned (.string b):=by rw[h]
theorem sj(a:bW):(⟨#[]⟩:ByteArray)++a=a:=by apply jr;simp[ByteArray.data_append]
theorem yH(a:Al)(w:af)(h1:a.t.size<=12)(h2:a.s.size<=12):
  Calls prog 251 #[.agg #[.string a.t,.string a.s]] w fun e w'=>e=.returned (.string (fJ a))/\ae w w':=by
 have hB:=(Vb w.heap.size w).alloc (Va _) (.cells #[.string a.t,.string a.s] 43);cases he:a.s.toList.isEmpty;case true=>
  go_enter func251,ntmps251;go_wp2;go_ret;exact⟨q9 (by simp[fJ,he]),hB⟩
 go_enter func251,ntmps251;go_wp2;go_ret;exact⟨q9 (by simp[fJ,he]),hB⟩
theorem mU(k:Int)(w:af):
  Calls prog 235 #[.int .i64 k] w fun e w'=>e=.returned (.string (gZ k))/\w'=w:=by
 by_cases h4:k=4
 ·subst h4;go_enter func235,ntmps235;go_wp2;go_ret;exact⟨rfl,rfl⟩
 by_cases h5:k=5
 ·subst h5;go_enter func235,ntmps235;go_wp2;go_ret;exact⟨rfl,rfl⟩
 have HS:Hid (gZ k=⟨#[32,45,32]⟩):=by show _=_;simp[gZ,h4,h5]
 go_enter func235,ntmps235;go_wp2;go_ret;exact⟨by rw[HS.out];rfl,rfl⟩
theorem Fx{α:Type}{xs:List α}{k:Nat}(h:k<=xs.length):xs.take k=[]↔k=0:=by
 constructor
 ·intro e;have:=congrArg List.length e;rw[Vz,Wj]at this;omega
 rintro rfl;simp
theorem nI(sep:bW)(xs:List ByteArray):fE sep (xs.take 0)=⟨#[]⟩:=by simp[De]
theorem Bw(sep:bW)(xs:List ByteArray)(h:0<xs.length):fE sep (xs.take 1)=⟨#[]⟩++xs[0]:=by
 rw[show(1:Nat)=0+1 from rfl,Ve h,oZ,if_pos (by simp),sj]
theorem yI(sep:bW)(xs:List ByteArray)(k:Nat)(h:k<xs.length)(hk:0<k):fE sep (xs.take (k+1))=fE sep (xs.take k)++sep++xs[k]:=by
 rw[Ve h,oZ,if_neg];rw[Fx (by omega)];omega
theorem yJ(sep:bW)(xs:List ByteArray)(b k:Nat)(hx:∀x∈xs,x.size<=b):(fE sep (xs.take k)).size<=k*(b+sep.size):=by
 have h1:=o6 sep b _ (xs.take k) rfl (fun x h=>hx x (List.mem_of_mem_take h));have h2:(xs.take k).length*(b+sep.size)<=k*(b+sep.size):=Nat.mul_le_mul_right _ (by simp;omega);omega
theorem D7{es:Q09}(hes:SQ es)(n:Nat)(hn:n<es.length)(i:Bool):(jc es n i).size<=20000000000000 :=
 Vj (I7 hes n hn i) (Vj (Df (by have:=hes.1;omega)) Rh)
set_option maxRecDepth 4000 in
theorem J5(b off cap:Nat)(rs:Q08)(hes:SQ (ak rs))(hl:∀r∈rs,r.e.light)(n:Nat):∀(inside:Bool) (w:af),n<rs.length->b<w.heap.size->(∀(i:Nat) (h:i<rs.length),yT w b (off+i*5) rs[i])->(∀r∈rs,r.ok w) ->
  Calls prog 238 #[.slice (some ⟨b,off,none⟩) rs.length cap,.int .i64 (n:Int),.bool inside] w fun e w'=>e=.returned (.string (jc (ak rs) n inside))/\ae w w':=by
 have HES:=aD hes;have HL:=aD hl;have h15:rs.length<=15:=by have:=hes.1;rw[aR]at this;exact this
 clear hes hl
 induction n using Nat.strongRecOn with
 | ind n ih =>
  intro inside w hn hb hr hok
  have IH:Hid (∀ m,m<n->∀ (inside:Bool) (w:World),m<rs.length->b<w.heap.size->(∀ (i:Nat) (h:i<rs.length),yT w b (off+i*5) rs[i])->(∀ r∈rs,r.ok w) ->
   Calls prog 238 #[.slice (some ⟨b,off,none⟩) rs.length cap,.int .i64 (m:Int),.bool inside] w fun e w'=>e=.returned (.string (jc (ak rs) m inside))/\ae w w'):=ih
  have HR:Hid (∀(i:Nat) (h:i<rs.length),yT w b (off+i*5) rs[i]):=hr;have HO:=aD hok;obtain⟨t0,t1,t2,t3,t4⟩:=hr n hn;have hnE:n<(ak rs).length:=by rw[aR];exact hn
  have heE:(ak rs)[n]=rs[n].e:=by simp[ak]
  have Wq:ay rs[n].e=true:=by rw[<-heE];exact HES.out.2.1 n hnE
  have hkl:=vg HES.out hnE;rw[heE]at hkl;obtain⟨hk5,hkind⟩:=qF Wq;have HT:Hid (jc (ak rs) n inside=inT rs[n].e inside (mr (jI (ak rs) n) rs[n].e)):=by show _=_;unfold jc;rw[EM hnE,heE]
  have HN:Hid (ay rs[n].e=true):=Wq;have Xz:Hid (∀k∈rs[n].e.kids,0<=k/\k.toNat<n):=hkl;have hn1:=bC n;have hn2:(n:Int)<(rs.length:Int):=by omega
  clear ih hr hok Wq hkl heE;by_cases k1:rs[n].e.kind=1
  ·skip
   obtain⟨W,hW⟩:∃W,W=w.alloc (.cells #[.int .i64 1,.slice rs[n].adA rs[n].e.allow.length rs[n].capA,.string rs[n].e.over,.string rs[n].e.name,.slice rs[n].adK rs[n].e.kids.length rs[n].capK] 39):=⟨_,rfl⟩;have hB0:ae w W:=by rw[hW];exact(Vb _ _).alloc (Va _) _
   have hgl:w.heap.size<W.heap.size:=by rw[hW];simp
   have g0:W.cell? ⟨w.heap.size,0,none⟩=some (.int .i64 1):=by rw[hW];simp
   have g1:W.cell? ⟨w.heap.size,1,none⟩=some (.slice rs[n].adA rs[n].e.allow.length rs[n].capA):=by rw[hW];simp
   have g2:W.cell? ⟨w.heap.size,2,none⟩=some (.string rs[n].e.over):=by rw[hW];simp
   have g3:W.cell? ⟨w.heap.size,3,none⟩=some (.string rs[n].e.name):=by rw[hW];simp
   have g4:W.cell? ⟨w.heap.size,4,none⟩=some (.slice rs[n].adK rs[n].e.kids.length rs[n].capK):=by rw[hW];simp
   have HB0:=aD hB0;clear hB0;have hal:eG rs[n].e.allow=true:=by
    have:=HN.out;unfold ay at this;rw[if_pos k1]at this;simp only[Vd]at this;exact this.1.1.1
   have hts:=kH hal;have WM:Hid (eG rs[n].e.allow=true):=hal;have HT1:Hid (jc (ak rs) n inside=ve rs[n].e.allow):=by show _=_;rw[HT.out];simp[inT,mr,k1]
   have hl6:rs[n].e.allow.length<=6:=by unfold eG at hal;simp at hal;exact hal.1.2
   have HAS:Hid (∀x∈rs[n].e.allow.map fJ,x.size<=25):=fun x hx=>by
    obtain⟨a,ha,rfl⟩:=Vo.1 hx;obtain⟨i,hi,rfl⟩:=VV ha;unfold eG at hal;simp only[Vd]at hal;exact qE (zt hal.2 i hi hi)
   clear hal HT;go_enter func238,ntmps238;go_wp2_with fail;rw[<-hW];clear hW t0 t1 t2 t3 t4;go_loopw[8,9] (fun s i wr=>∃k:Nat,k<=rs[n].e.allow.length/\i=.int .i64 k/\s=.string (fE ⟨#[44]⟩ ((rs[n].e.allow.map fJ).take k))/\ae W wr) (fun _ i _=>rs[n].e.allow.length-(intOf i).toNat);case atStart=>exact⟨0,Vf _,rfl,by rw[nI],Vb _ _⟩
   obtain⟨k,hk,rfl,rfl,hB⟩:=hrel;have hBw:ae w wr:=HB0.out.trans (hB.mono HB0.out.size);have a1:=kept hB hgl g1;have hsj:(fE ⟨#[44]⟩ ((rs[n].e.allow.map fJ).take k)).size<=200:=by
    have h:=yJ ⟨#[44]⟩ (rs[n].e.allow.map fJ) 25 k HAS.out;have e1:(⟨#[44]⟩:ByteArray).size=1:=rfl;rw[e1]at h;omega
   by_cases hlt:k<rs[n].e.allow.length
   ·rcases (HO.out rs[n] (U8 hn)).1.below hBw with hnil|⟨ba,Yz,YA,hba,hra⟩
    ·rw[hnil]at hlt;simp at hlt
    rw[YA]at a1;obtain⟨q0,q1⟩:=hra k hlt;have hab:Gf rs[n].e.allow[k]=true:=by
     have:=WM.out;unfold eG at this;simp only[Vd]at this;exact zt this.2 k hlt hlt
    have z2:=qE hab;unfold Gf at hab;rw[Vd]at hab;have z0:=cu hab.1;have z1:=zV hab.2;have hk1:=bC k;have hk2:(k:Int)<(rs[n].e.allow.length:Int):=by omega
    clear hra YA hab;by_cases hk0:0<k
    ·have hk3:(0:Int)<(k:Int):=by omega
     have HJ:Hid (fE ⟨#[44]⟩ ((rs[n].e.allow.map fJ).take (k+1))=fE ⟨#[44]⟩ ((rs[n].e.allow.map fJ).take k)++⟨#[44]⟩++fJ rs[n].e.allow[k]):=by show _=_;rw[yI _ _ _ (by simpa using hlt) hk0,List.getElem_map]
     go_wp2_with fail;refine(yH rs[n].e.allow[k] _ z0 z1).mono ?_;rintro e w1 ⟨rfl,hb1⟩;have hB1:ae W w1:=hB.trans (hb1.mono hB.size);clear hb1;go_wp2;go_roundw;case rel=>exact⟨k+1,by omega,by go_num,by rw[HJ.out],hB1⟩
     simp[intOf]<;>omega
    skip
    have hk3:¬(0:Int)<(k:Int):=by omega
    have HJ:Hid (fE ⟨#[44]⟩ ((rs[n].e.allow.map fJ).take (k+1))=fE ⟨#[44]⟩ ((rs[n].e.allow.map fJ).take k)++fJ rs[n].e.allow[k]):=by
     show _=_;obtain rfl:k=0:=by omega
     rw[nI,Bw _ _ (by simpa using hlt),List.getElem_map]
    go_wp2_with fail;refine(yH rs[n].e.allow[k] _ z0 z1).mono ?_;rintro e w1 ⟨rfl,hb1⟩;have hB1:ae W w1:=hB.trans (hb1.mono hB.size);clear hb1;go_wp2;go_roundw;case rel=>exact⟨k+1,by omega,by go_num,by rw[HJ.out],hB1⟩
    simp[intOf]<;>omega
   obtain rfl:k=rs[n].e.allow.length:=by omega
   have HE:Hid ((rs[n].e.allow.map fJ).take rs[n].e.allow.length=rs[n].e.allow.map fJ):=by show _=_;rw[VE (by simp)]
   go_wp2;go_ret;exact⟨by rw[HT1.out];exact q9 (by rw[HE.out];rfl),hBw⟩
  by_cases k2:rs[n].e.kind=2
  ·have HT1:Hid (jc (ak rs) n inside=rs[n].e.name):=by show _=_;rw[HT.out];simp[inT,mr,k2]
   clear HT;go_enter func238,ntmps238;go_wp2;go_ret;exact⟨by rw[HT1.out];rfl,(Vb _ _).alloc (Va _) _⟩
  by_cases k3:rs[n].e.kind=3
  ·have HT1:Hid (jc (ak rs) n inside=rs[n].e.over++⟨#[45,62]⟩++rs[n].e.name):=by show _=_;rw[HT.out];simp[inT,mr,k3]
   have hsz:rs[n].e.over.size<=12/\rs[n].e.name.size<=12:=by
    have:=HN.out;unfold ay at this;rw[if_neg k1,if_neg k2,if_pos k3]at this;simp only[Vd]at this;exact⟨cu this.1.1.1,cu this.1.1.2⟩
   obtain⟨z0,z1⟩:=hsz;clear HT;go_enter func238,ntmps238;go_wp2;go_ret;exact⟨by rw[HT1.out];rfl,(Vb _ _).alloc (Va _) _⟩
  skip
  obtain⟨W,hW⟩:∃W,W=w.alloc (.cells #[.int .i64 rs[n].e.kind,.slice rs[n].adA rs[n].e.allow.length rs[n].capA,.string rs[n].e.over,.string rs[n].e.name,.slice rs[n].adK rs[n].e.kids.length rs[n].capK] 39):=⟨_,rfl⟩;have hB0:ae w W:=by rw[hW];exact(Vb _ _).alloc (Va _) _
  have hgl:w.heap.size<W.heap.size:=by rw[hW];simp
  have g0:W.cell? ⟨w.heap.size,0,none⟩=some (.int .i64 rs[n].e.kind):=by rw[hW];simp
  have g1:W.cell? ⟨w.heap.size,1,none⟩=some (.slice rs[n].adA rs[n].e.allow.length rs[n].capA):=by rw[hW];simp
  have g2:W.cell? ⟨w.heap.size,2,none⟩=some (.string rs[n].e.over):=by rw[hW];simp
  have g3:W.cell? ⟨w.heap.size,3,none⟩=some (.string rs[n].e.name):=by rw[hW];simp
  have g4:W.cell? ⟨w.heap.size,4,none⟩=some (.slice rs[n].adK rs[n].e.kids.length rs[n].capK):=by rw[hW];simp
  have HB0:=aD hB0;clear hB0;have HT1:Hid (jc (ak rs) n inside=if inside then ⟨#[40]⟩++fE (gZ rs[n].e.kind) (rs[n].e.kids.map (jI (ak rs) n))++⟨#[41]⟩ else fE (gZ rs[n].e.kind) (rs[n].e.kids.map (jI (ak rs) n))):=by
   show _=_;rw[HT.out];simp[inT,mr,k1,k2,k3]
  have HTS:Hid (∀x∈rs[n].e.kids.map (jI (ak rs) n),x.size<=20000000000000):=fun x hx=>by
   obtain⟨k,hk,rfl⟩:=Vo.1 hx;have hlt:=Xz.out k hk;unfold jI;rw[if_pos hlt.2,EL];exact D7 HES.out _ (by rw[aR];omega) true
  have kb1:(rs[n].e.kind==1)=false:=by simpa using k1
  have kb2:(rs[n].e.kind==2)=false:=by simpa using k2
  have kb3:(rs[n].e.kind==3)=false:=by simpa using k3
  clear HT hkind;go_enter func238,ntmps238;go_wp2_with fail;rw[<-hW];clear hW t0 t1 t2 t3 t4;go_loopw[8,10] (fun s i wr=>∃k:Nat,k<=rs[n].e.kids.length/\i=.int .i64 k/\s=.string (fE (gZ rs[n].e.kind) ((rs[n].e.kids.map (jI (ak rs) n)).take k))/\ae W wr) (fun _ i _=>rs[n].e.kids.length-(intOf i).toNat);case atStart=>exact⟨0,Vf _,rfl,by rw[nI],Vb _ _⟩
  obtain⟨k,hk,rfl,rfl,hB⟩:=hrel;have hBw:ae w wr:=HB0.out.trans (hB.mono HB0.out.size);have hbw:b<wr.heap.size:=U9 hb hBw.size;have a0:=kept hB hgl g0;have a4:=kept hB hgl g4;have hsg:=mq rs[n].e.kind;have hsj:(fE (gZ rs[n].e.kind) ((rs[n].e.kids.map (jI (ak rs) n)).take k)).size<=100000000000100:=by
   have h:=yJ (gZ rs[n].e.kind) (rs[n].e.kids.map (jI (ak rs) n)) 20000000000000 k HTS.out;rw[hsg]at h;omega
  by_cases hlt:k<rs[n].e.kids.length
  ·rcases (HO.out rs[n] (U8 hn)).2.below hBw with hnil|⟨bk,offk,WX,hbk,hrk⟩
   ·rw[hnil]at hlt;simp at hlt
   rw[WX]at a4;have q0:=hrk k hlt;obtain⟨hz0,hz1⟩:=Xz.out rs[n].e.kids[k] (U8 hlt);obtain⟨m,hm⟩:∃m:Nat,rs[n].e.kids[k]=(m:Int):=⟨rs[n].e.kids[k].toNat,by omega⟩;rw[hm]at q0 hz1;have hmn:m<n:=by simpa using hz1
   have hmr:m<rs.length:=by omega
   have HFm:Hid (jI (ak rs) n rs[n].e.kids[k]=jc (ak rs) m true):=by show _=_;rw[hm];unfold jI;rw[if_pos (by simpa using hmn),EL];simp
   have hsm:=D7 HES.out m (by rw[aR];exact hmr) true;have hk1:=bC k;have hk2:(k:Int)<(rs[n].e.kids.length:Int):=by omega
   clear hrk WX hz0 hz1 hm;by_cases hk0:0<k
   ·have hk3:(0:Int)<(k:Int):=by omega
    have HJ:Hid (fE (gZ rs[n].e.kind) ((rs[n].e.kids.map (jI (ak rs) n)).take (k+1))=fE (gZ rs[n].e.kind) ((rs[n].e.kids.map (jI (ak rs) n)).take k)++gZ rs[n].e.kind++jc (ak rs) m true):=by show _=_;rw[yI _ _ _ (by simpa using hlt) hk0,List.getElem_map,HFm.out]
    go_wp2_with fail;refine(mU _ _).mono ?_;rintro e w' ⟨rfl,rfl⟩;go_wp2_with fail;refine(IH.out m hmn true _ hmr hbw (fun i hi=>(HR.out i hi).later hb hBw) (fun r hr=>(HO.out r hr).below hBw)).mono ?_;rintro e w1 ⟨rfl,hb1⟩;have hB1:ae W w1:=hB.trans (hb1.mono hB.size);clear hb1;go_wp2;go_roundw;case rel=>exact⟨k+1,by omega,by go_num,by rw[HJ.out],hB1⟩
    simp[intOf]<;>omega
   skip
   have hk3:¬(0:Int)<(k:Int):=by omega
   have HJ:Hid (fE (gZ rs[n].e.kind) ((rs[n].e.kids.map (jI (ak rs) n)).take (k+1))=fE (gZ rs[n].e.kind) ((rs[n].e.kids.map (jI (ak rs) n)).take k)++jc (ak rs) m true):=by
    have h0:=HFm.out;show _=_;obtain rfl:k=0:=by omega
    rw[nI,Bw _ _ (by simpa using hlt),List.getElem_map,h0]
   go_wp2_with fail;refine(IH.out m hmn true _ hmr hbw (fun i hi=>(HR.out i hi).later hb hBw) (fun r hr=>(HO.out r hr).below hBw)).mono ?_;rintro e w1 ⟨rfl,hb1⟩;have hB1:ae W w1:=hB.trans (hb1.mono hB.size);clear hb1;go_wp2;go_roundw;case rel=>exact⟨k+1,by omega,by go_num,by rw[HJ.out],hB1⟩
   simp[intOf]<;>omega
  obtain rfl:k=rs[n].e.kids.length:=by omega
  have HE:Hid ((rs[n].e.kids.map (jI (ak rs) n)).take rs[n].e.kids.length=rs[n].e.kids.map (jI (ak rs) n)):=by show _=_;rw[VE (by simp)]
  cases inside;case true=>
   go_wp2;go_ret;exact⟨by rw[HT1.out];exact q9 (by rw[HE.out];rfl),hBw⟩
  go_wp2;go_ret;exact⟨by rw[HT1.out];exact q9 (by rw[HE.out];rfl),hBw⟩
def iq(es:Q09):ByteArray:=if aN es then jc es (es.length-1) false else ⟨#[]⟩
theorem D8{es:Q09}(h:aN es=false):iq es=⟨#[]⟩:=by simp[iq,h]
theorem Bz{es:Q09}(h:aN es=true):iq es=jc es (es.length-1) false:=by simp[iq,h]
theorem oH(ad:Q02)(cap:Nat)(rs:Q08)(w:af)(hlen:rs.length<=1048576)(hl:∀r∈rs,r.e.light)(hf:∀r∈rs,r.e.fits)(hs:ik w ad rs):
  Calls prog 220 #[.slice ad rs.length cap] w fun e w'=>e=.returned (.string (iq (ak rs)))/\ae w w':=by
 have HS:=aD hs;have HL:=aD hl;have HF:=aD hf;clear hs hl hf;go_enter func220,ntmps220;go_wp2_with fail;refine(mH ad cap rs _ hlen HL.out HF.out HS.out).mono ?_;rintro e w1 ⟨he,hb1⟩;have HB1:=aD hb1;clear hb1;cases hE:aN (ak rs);case false=>
  rw[hE]at he;subst he;have HX:Hid (iq (ak rs)=⟨#[]⟩):=D8 hE;go_wp2;go_ret;exact⟨by rw[HX.out];rfl,HB1.out⟩
 rw[hE]at he;subst he;have h1:1<=rs.length:=by
  have:=hE;unfold aN at this;simp only[Vd,Vk,aR]at this;exact this.1.1.1.1.1
 rcases HS.out.below HB1.out with rfl|⟨b,off,rfl,hb,hr,hok⟩
 ·simp at h1
 have HR:Hid (∀(i:Nat) (h:i<rs.length),yT w1 b (off+i*5) rs[i]):=hr;have HO:=aD hok;have X0:Hid (SQ (ak rs)):=Ot hE;have HX:Hid (iq (ak rs)=jc (ak rs) (rs.length-1) false):=by show _=_;rw[Bz hE,aR]
 have HCA:Hid (((rs.length:Int)-1)=((rs.length-1:Nat):Int)):=by show _=_;omega
 clear hr hok;go_wp2_with fail;rw[HCA.out];refine(J5 b off cap rs X0.out HL.out (rs.length-1) false _ (by omega) hb HR.out HO.out).mono ?_;rintro e w2 ⟨rfl,hb2⟩;have HB2:=jF HB1 hb2;clear hb2;go_wp2;go_ret;exact⟨by rw[HX.out];rfl,HB2.out⟩
theorem wJ(k:Int):gZ k=bf k:=by
 unfold gZ bf;rfl
def iw(s:ByteArray)(p:Nat)(j:Nat):Int :=
 if 4<j/\dY s (bf 4) p=true then 4 else if 5<j/\dY s (bf 5) p=true then 5 else if 6<j/\dY s (bf 6) p=true then 6 else 0
theorem PR(s:bW)(p:Nat):iw s p 4=0:=by simp[iw]
theorem PS(s:bW)(p:Nat):iw s p 7=dG s p:=by simp[iw,dG]
theorem Hw{s:ByteArray}{p j:Nat}(h4:4<=j)(h7:j<7)(h:iw s p j≠0):iw s p (j+1)=iw s p j:=by
 have hj:j=4\/j=5\/j=6:=by omega
 unfold iw at h⊢;rcases hj with rfl|rfl|rfl<;>cases h1:dY s (bf 4) p<;>cases h2:dY s (bf 5) p<;>cases h3:dY s (bf 6) p<;>simp_all
theorem D9{s:ByteArray}{p j:Nat}(h4:4<=j)(h7:j<7)(h:iw s p j=0)(hl:dY s (bf j) p=false):iw s p (j+1)=0:=by
 have hj:j=4\/j=5\/j=6:=by omega
 unfold iw at h⊢;rcases hj with rfl|rfl|rfl<;>cases h1:dY s (bf 4) p<;>cases h2:dY s (bf 5) p<;>cases h3:dY s (bf 6) p<;>simp_all
theorem J6{s:ByteArray}{p j:Nat}(h4:4<=j)(h7:j<7)(h:iw s p j=0)(hl:dY s (bf j) p=true):iw s p (j+1)=(j:Int):=by
 have hj:j=4\/j=5\/j=6:=by omega
 unfold iw at h⊢;rcases hj with rfl|rfl|rfl<;>cases h1:dY s (bf 4) p<;>cases h2:dY s (bf 5) p<;>cases h3:dY s (bf 6) p<;>simp_all
theorem mV(k:Int):(bf k).size=3:=by
 unfold bf;split
 ·rfl
 split<;>rfl
theorem BA{s:ByteArray}{p:Nat}(k:Int)(h:p+3<=s.size):dY s (bf k) p=((s.extract p (p+3)).toList==(gZ k).toList):=by
 unfold dY;rw[mV,wJ];simp[h]
theorem MX{s:ByteArray}{p:Nat}(k:Int)(h:¬p+3<=s.size):dY s (bf k) p=false:=by
 unfold dY;rw[mV];simp[h]
def rowP(s:ByteArray)(it:RS->Int×RS)(x:Int×RS):Int×RS :=
 if dG s x.2.p=0\/x.2.bad=true then x
 else (((iE s it (dG s x.2.p) (s.size+1) [x.1] x.2).2.out.length:Int),sP ⟨dG s x.2.p,[],⟨#[]⟩,⟨#[]⟩,(iE s it (dG s x.2.p) (s.size+1) [x.1] x.2).1⟩ (iE s it (dG s x.2.p) (s.size+1) [x.1] x.2).2)
theorem BB{s:ByteArray}{it:RS->Int×RS}{x:Int×RS}(h:dG s x.2.p=0\/x.2.bad=true):rowP s it x=x:=if_pos h
theorem MZ{s:ByteArray}{it:RS->Int×RS}{x:Int×RS}(h:¬(dG s x.2.p=0\/x.2.bad=true)){zs:List Int}{st:RS}(hk:iE s it (dG s x.2.p) (s.size+1) [x.1] x.2=(zs,st)):rowP s it x=((st.out.length:Int),sP ⟨dG s x.2.p,[],⟨#[]⟩,⟨#[]⟩,zs⟩ st):=by
 unfold rowP;rw[if_neg h,hk]
theorem PT{s:ByteArray}{it:RS->Int×RS}{k:Int}{n:Nat}{zs:List Int}{st:RS}(h:nz s (bf k) st.p st.bad=false):iE s it k n zs st=(zs,st):=by
 have e:lW s (bf k) st=false:=h;cases n with
 | zero=>rfl
 | succ n=>unfold iE;rw[e];rfl
theorem M0{s:ByteArray}{it:RS->Int×RS}{k:Int}{n:Nat}{zs:List Int}{st:RS}(h:nz s (bf k) st.p st.bad=true):iE s it k (n+1) zs st=iE s it k n (zs++[(it (kM (bf k) st)).1]) (it (kM (bf k) st)).2:=by
 have e:lW s (bf k) st=true:=h
 conv=>lhs;unfold iE
 rw[e];rfl
theorem RdC.heap{w w':af}{R:Nat}{s:ByteArray}{p:Nat}{bad:Bool}{v:Value}(h:RdC w R s p bad v)(hs:w.heap.size<=w'.heap.size)(hh:w'.heap[R]?=w.heap[R]?):RdC w' R s p bad v :=
 ⟨U9 h.lt hs,(Vx (w:=w) (a:=⟨R,0,none⟩) hh).trans h.c0,(Vx (w:=w) (a:=⟨R,1,none⟩) hh).trans h.c1,(Vx (w:=w) (a:=⟨R,2,none⟩) hh).trans h.c2,(Vx (w:=w) (a:=⟨R,3,none⟩) hh).trans h.c3,dx h.fr hh⟩
theorem RdF.heap{w w':af}{R:Nat}{s:ByteArray}{st:RS}{base:Nat}{v:Value}{qs:Q08}(h:RdF w R s st base v qs)(hs:w.heap.size<=w'.heap.size)(h1:w'.heap[R]?=w.heap[R]?)(h2:∀g,v.ownBlock=some g->w'.heap[g]?=w.heap[g]?)(h3:∀q∈qs,∀g,qw q g->w'.heap[g]?=w.heap[g]?):RdF w' R s st base v qs where
 rd:=h.rd.heap hs h1
 own:=jM h.own h2
 out:=h.out
 zA:=h.zA
 zK:=h.zK
 ok q hq:=rT (h.ok q hq) hs (h.zA q hq) (h.zK q hq) (h3 q hq)
 lie q hq g hg:=by
  obtain⟨a1,a2,a3,a4⟩:=h.lie q hq g hg;exact⟨a1,U9 a2 hs,dx a3 (h3 q hq g hg),a4⟩
 one:=h.one
 two:=h.two
 cA:=h.cA
 cK q hq:=(h.cK q hq).heap (h.zK q hq) (h3 q hq)
structure KLr(w wr:World)(R:Nat)(s:ByteArray)(st:RS)(base:Nat)(v v':Value)(qs ns:Q08)(zs:List Int)(vK:Value):Prop where
 rd:RdF wr R s st base v' (qs++ns)
 went:Went R v w v' wr
 new:∀q∈ns,∀g,qw q g->w.heap.size<=g
 own:wr.ownsRow w.heap.size 2 1 vK zs.length (ints zs)
 far:∀g,vK.ownBlock=some g->v'.ownBlock≠some g/\∀q∈qs++ns,¬qw q g
 ne:zs≠[]
theorem KLr.is{w wr w':af}{R:Nat}{s:ByteArray}{st st':RS}{base:Nat}{v v':Value}{qs ns:Q08}{zs:List Int}{vK:Value}(h:KLr w wr R s st base v v' qs ns zs vK)(hR:R<w.heap.size)(hg:wr.grownBy w' (some R))(hF:RdF w' R s st' base v' (qs++ns)):KLr w w' R s st' base v v' qs ns zs vK :=
 ⟨hF,h.went.trans ((Onl.of_grown hg).any v'),h.new,h.own.kept hg (.inr (fun e=>by have:=(h.own.lt R e).1;omega)),h.far,h.ne⟩
theorem KLr.more{w wr w':af}{R:Nat}{s:ByteArray}{st st':RS}{base:Nat}{v v' v2:Value}{qs ns ms:Q08}{zs:List Int}{vK:Value}(h:KLr w wr R s st base v v' qs ns zs vK)(hR:R<w.heap.size)(hF:RdF w' R s st' base v2 ((qs++ns)++ms))(hW:Went R v' wr v2 w')(hm:∀q∈ms,∀g,qw q g->wr.heap.size<=g):KLr w w' R s st' base v v2 qs (ns++ms) zs vK:=by
 have hl:∀g,vK.ownBlock=some g->w.heap.size<=g/\g<wr.heap.size:=fun g hg=>h.own.lt g hg;refine⟨by rw[<-VD];exact hF,h.went.trans hW,fun q hq g hg=>?_,jM h.own fun g hg=>hW.onl.block g (hl g hg).2 (by have:=(hl g hg).1;omega) (h.far g hg).1,fun g hg=>⟨hW.apart (hl g hg).2 (h.far g hg).1,fun q hq hi=>?_⟩,h.ne⟩
 ·rcases Vn.1 hq with h1|h1
  ·exact h.new q h1 g hg
  exact Vj h.went.onl.size (hm q h1 g hg)
 rw[<-VD]at hq;rcases Vn.1 hq with h1|h1
 ·exact(h.far g hg).2 q h1 hi
 have:=hm q h1 g hi;have:=(hl g hg).2;omega
theorem PU(zs:List Int)(z:Int):ints (zs++[z])=ints zs++[.int .i64 z]:=by simp[ints]
theorem KLr.app{w wr w':af}{R:Nat}{s:ByteArray}{st:RS}{base:Nat}{v v':Value}{qs ns:Q08}{zs:List Int}{vK vN:Value}(h:KLr w wr R s st base v v' qs ns zs vK)(hR:R<w.heap.size)(z:Int)(o:Obj)(hown:w'.ownsRow w.heap.size 2 1 vN (zs.length+1) (ints zs++[.int .i64 z]))(hg:(wr.alloc o).grownBy w' vK.ownBlock)(hat:vN.ownBlock=vK.ownBlock\/vN.ownBlock=some (wr.alloc o).heap.size):KLr w w' R s st base v v' qs ns (zs++[z]) vN:=by
 have hg0:=World.grownBy_alloc wr o none;have keep:∀k,k<wr.heap.size->vK.ownBlock≠some k->w'.heap[k]?=wr.heap[k]?:=fun k hk hne=>(hg.block k (U9 hk hg0.size) (Ne.symm hne)).trans (hg0.block k hk (by simp));have hl:∀g,vK.ownBlock=some g->w.heap.size<=g/\g<wr.heap.size:=fun g hg=>h.own.lt g hg;have hs:wr.heap.size<=w'.heap.size:=Vj hg0.size hg.size;refine⟨h.rd.heap hs (keep R h.rd.rd.lt (fun e=>by have:=(hl R e).1;omega)) (fun g hg=>keep g (h.rd.own.lt g hg).2 (fun e=>(h.far g e).1 hg)) (fun q hq g hi=>keep g (h.rd.lie q hq g hi).2.1 (fun e=>(h.far g e).2 q hq hi)),?_,h.new,by rw[PU,Vh,VL];exact hown,fun g hgn=>?_,by simp⟩
 ·refine⟨⟨hg.os.trans (hg0.os.trans h.went.onl.os),hg.tape.trans (hg0.tape.trans h.went.onl.tape),hg.output.trans (hg0.output.trans h.went.onl.output),Vj h.went.onl.size hs,fun k hk h1 h2=>(keep k (U9 hk h.went.onl.size) (fun e=>by have:=(hl k e).1;omega)).trans (h.went.onl.block k hk h1 h2)⟩,h.went.own⟩
 rcases hat with e|e
 ·exact h.far g (by rw[<-e];exact hgn)
 rw[e]at hgn;injection hgn with hgn;have hsz:wr.heap.size<=g:=by rw[<-hgn];exact hg0.size
 exact⟨fun e2=>by have:=(h.rd.own.lt g e2).2;omega,fun q hq hi=>by have:=(h.rd.lie q hq g hi).2.1;omega⟩
theorem KLr.node{w wr:af}{R:Nat}{s:ByteArray}{st:RS}{base:Nat}{v v':Value}{qs ns:Q08}{zs:List Int}{vK:Value}(h:KLr w wr R s st base v v' qs ns zs vK)(hb:base<=w.heap.size)(k:Int):∃ad cap,vK=.slice ad zs.length cap/\NewQ base wr ⟨⟨k,[],⟨#[]⟩,⟨#[]⟩,zs⟩,none,0,ad,cap⟩/\∀g,qw ⟨⟨k,[],⟨#[]⟩,⟨#[]⟩,zs⟩,none,0,ad,cap⟩ g->w.heap.size<=g/\v'.ownBlock≠some g/\∀q∈qs++ns,¬qw q g:=by
 obtain⟨ad,cap,e,h2,h3,h4⟩:=UF h.own rfl;have hA:∀g,¬bA ⟨⟨k,[],⟨#[]⟩,⟨#[]⟩,zs⟩,none,0,ad,cap⟩ g:=fun g hg=>hg.1 rfl;have hK:∀g,qw ⟨⟨k,[],⟨#[]⟩,⟨#[]⟩,zs⟩,none,0,ad,cap⟩ g->(w.heap.size<=g/\g<wr.heap.size/\jZ wr g)/\vK.ownBlock=some g:=by
  rintro g (hg|hg)
  ·exact absurd hg (hA g)
  exact⟨h4 g hg.1 hg.2,by rw[e,show ad=some ⟨g,0,none⟩ from hg.2];rfl⟩
 refine⟨ad,cap,e,⟨fun h=>absurd rfl h,h3,⟨.inl rfl,h2⟩,fun g hg=>⟨Vj hb (hK g hg).1.1,(hK g hg).1.2⟩,fun g hg=>absurd hg (hA g),Vf _⟩,fun g hg=>⟨(hK g hg).1.1,h.far g (hK g hg).2⟩⟩
theorem KLr.kid{w wr:af}{R:Nat}{s:ByteArray}{st:RS}{base:Nat}{v v':Value}{qs ns:Q08}{zs:List Int}{ad:Q02}{cap:Nat}(h:KLr w wr R s st base v v' qs ns zs (.slice ad zs.length cap))(hb:base<=w.heap.size)(k:Int):Cu wr base ⟨⟨k,[],⟨#[]⟩,⟨#[]⟩,zs⟩,none,0,ad,cap⟩:=Cu.mono (base:=w.heap.size) (.inr ⟨h.ne,h.own⟩) hb
theorem PV(w:af)(z:Int)(g:Nat)(hg:w.heap.size=g):∀j u,[Value.int .i64 z][j]?=some u->(w.alloc (.cells #[.int .i64 z] 2)).cell? ((⟨g,0,none⟩:Addr).add j)=some u:=by
 intro j u hu;subst hg;rw[show(⟨w.heap.size,0,none⟩:Addr).add j=⟨w.heap.size,0+j,none⟩ by simp[Addr.add];omega,VC];have:=World.cell?_alloc_mark w #[.int .i64 z] 2 (0,0) j;rw[this];simpa using hu
theorem RV(R:Nat)(s:bW)(st:RS)(base:Nat)(v:Value)(qs:Q08)(w:af)(h:RdF w R s st base v qs)(hR:R<base)(hB:base<=w.heap.size)(hs:s.size<=1000)(x:Int×RS)(hx:x.2.p<=s.size)
  (hfirst:Calls prog 234 #[.pointer (some ⟨R,0,none⟩)] w (vI R s base v qs w x))
  (it:RS->Int×RS) (hlen:x.2.out.length+(s.size-x.2.p)<=5001)
  (hit:∀(st':RS) (v':Value) (qs':Q08) (w':World),RdF w' R s st' base v' qs'->base<=w'.heap.size->x.2.p+3<=st'.p->st'.p<=s.size->st'.out.length+(s.size-st'.p)<=5000->Calls prog 234 #[.pointer (some ⟨R,0,none⟩)] w' (vI R s base v' qs' w' (it st')))
  (hmono:∀st':RS,x.2.p+3<=st'.p->st'.p<=s.size->st'.p<=(it st').2.p/\(it st').2.p<=s.size/\(it st').2.out.length+st'.p<=st'.out.length+1+(it st').2.p) :
  Calls prog 219 #[.pointer (some ⟨R,0,none⟩)] w (vI R s base v qs w (rowP s it x)):=by
 obtain⟨iI,hiI,zI0,zI1,zI2⟩:=info_parts (P:=prog) (e:=2) (z:=.int .i64 0) (size:=1) (bytes:=8) (by kernel_rfl);have HII:Hid (prog.info? 2=some iI/\iI.zero=some (.int .i64 0)/\iI.size=1/\iI.bytes=8):=⟨hiI,zI0,zI1,zI2⟩;have HLEN:=aj hlen;have HITM:=aj hit;have HMONO:=aj hmono;clear hiI zI0 zI1 zI2 hlen hit hmono;have H:=aj h;have HX:=aj hx;have HIT:=aj hfirst;clear h hx hfirst;go_enter func219,ntmps219;go_wp2_with fail;refine HIT.out.mono ?_;rintro e w1 ⟨v1,ns,rfl,hF1,hW1,hns⟩;have Xx:=aj hF1;have HW1:=aj hW1;have HNS:=aj hns;clear hF1 hW1 hns HIT;go_wp2_with fail;go_loopw[4,5] (fun kd k wr=>∃(j nn:Nat),4<=j/\j<=7/\k=.int .i64 j/\kd=.int .i64 (iw s x.2.p j)/\Hid (wr=w1.drewN nn)) (fun _ k _=>7-(intOf k).toNat);case atStart=>exact⟨4,0,by omega,by omega,rfl,by rw[PR],rfl⟩
 obtain⟨j,nn,hj4,hj7,rfl,rfl,Za⟩:=hrel;have hrd:RdC wr R s x.2.p x.2.bad v1:=by rw[Za.out];exact Xx.out.rd.drewN nn
 have HRD:=aj hrd;have c0:=HRD.out.c0;have c1:=HRD.out.c1;have c2:=HRD.out.c2;clear hrd;by_cases hlt:j<7
 ·have hle:decide ((j:Int)<=6)=true:=by simp;omega
  have hle2:(j:Int)<=6:=by omega
  have hwr:IntKind.i64.wrap ((x.2.p:Int)+3)=(x.2.p:Int)+3:=by have:=HX.out;simp[IntKind.wrap,IntKind.bits,IntKind.signed];omega
  by_cases hK:iw s x.2.p j=0
  ·have hK0:(iw s x.2.p j==0)=true:=by simp[hK]
   by_cases Zx:x.2.p+3<=s.size
   ·have hd:decide ((x.2.p:Int)+3<=(s.size:Int))=true:=by simp;omega
    have hd2:(x.2.p:Int)+3<=(s.size:Int):=by omega
    have hnn:(0:Int)<=(x.2.p:Int):=by omega
    have hp1:(x.2.p:Int)<=(x.2.p:Int)+3:=by omega
    rw[hK];cases he:(s.extract x.2.p (x.2.p+3)).toList==(gZ j).toList
    case' true =>
     have EQ:=aj (J6 hj4 hlt hK (by rw[BA _ Zx];exact he))
    case' false =>
     have EQ:=aj (D9 hj4 hlt hK (by rw[BA _ Zx];exact he))
    all_goals
     clear hK hK0;go_wp2_with fail;go_quiet ((go_at_call 235;exact Calls.quiet_of_same (mU _ _)));go_wp2;go_roundw;case rel=>exact⟨j+1,nn+nq,by omega,by omega,by go_num,by rw[EQ.out],by show _=_;rw[Za.out,World.drewN_drewN]⟩
     simp[intOf]<;>omega
   have hd:decide ((x.2.p:Int)+3<=(s.size:Int))=false:=by simp;omega
   have EQ:=aj (D9 hj4 hlt hK (MX _ Zx));rw[hK];clear hK hK0;go_wp2_with fail;go_quiet ((go_at_call 235;exact Calls.quiet_of_same (mU _ _)));go_wp2;go_roundw;case rel=>exact⟨j+1,nn+nq,by omega,by omega,by go_num,by rw[EQ.out],by show _=_;rw[Za.out,World.drewN_drewN]⟩
   simp[intOf]<;>omega
  have hK0:(iw s x.2.p j==0)=false:=by simp[hK]
  have EQ:=aj (Hw hj4 hlt hK);clear hK;go_wp2_with fail;go_quiet ((go_at_call 235;exact Calls.quiet_of_same (mU _ _)));go_wp2;go_roundw;case rel=>exact⟨j+1,nn+nq,by omega,by omega,by go_num,by rw[EQ.out],by show _=_;rw[Za.out,World.drewN_drewN]⟩
  simp[intOf]<;>omega
 obtain rfl:j=7:=by omega
 rw[PS,show((7:Nat):Int)=(7:Int) from rfl];have hle:decide ((7:Int)<=6)=false:=by decide
 obtain⟨kd,hkd⟩:∃kd,kd=dG s x.2.p:=⟨_,rfl⟩;have HKD:=aj hkd;rw[<-hkd];clear hkd;by_cases hk:kd=0
 ·have hk0:(kd==0)=true:=by simp[hk]
  have EQ:=aj (BB (it:=it) (.inl (HKD.out.symm.trans hk)));subst hk;have HF:=aj (Xx.out.heap (w':=wr) (by rw[Za.out];exact Va _) (by rw[Za.out];rfl) (fun g _=>by rw[Za.out];rfl) (fun q _ g _=>by rw[Za.out];rfl));have HW:Hid (Went R v w v1 wr):=by rw[Za.out];exact⟨⟨HW1.out.onl.os,HW1.out.onl.tape,HW1.out.onl.output,HW1.out.onl.size,HW1.out.onl.block⟩,HW1.out.own⟩
  go_wp2;exact bodyPost_ret (v:=.int .i64 x.1) (by simp[results,Tryz.results219,go_sem]) rfl (by rw[EQ.out];exact⟨v1,ns,rfl,HF.out,HW.out,HNS.out⟩)
 have hk0:(kd==0)=false:=by simp[hk]
 cases hb:x.2.bad;case true=>
  have EQ:=aj (BB (it:=it) (x:=x) (s:=s) (.inr hb));rw[hb]at c2;have HF:=aj (Xx.out.heap (w':=wr) (by rw[Za.out];exact Va _) (by rw[Za.out];rfl) (fun g _=>by rw[Za.out];rfl) (fun q _ g _=>by rw[Za.out];rfl));have HW:Hid (Went R v w v1 wr):=by rw[Za.out];exact⟨⟨HW1.out.onl.os,HW1.out.onl.tape,HW1.out.onl.output,HW1.out.onl.size,HW1.out.onl.block⟩,HW1.out.own⟩
  go_wp2;exact bodyPost_ret (v:=.int .i64 x.1) (by simp[results,Tryz.results219,go_sem]) rfl (by rw[EQ.out];exact⟨v1,ns,rfl,HF.out,HW.out,HNS.out⟩)
 rw[hb]at c2;have XI:Hid (¬(dG s x.2.p=0\/x.2.bad=true)):=by
  rintro(e|e)
  ·exact hk (HKD.out.trans e)
  rw[hb]at e;cases e
 have HF:=aj (Xx.out.heap (w':=wr) (by rw[Za.out];exact Va _) (by rw[Za.out];rfl) (fun g _=>by rw[Za.out];rfl) (fun q _ g _=>by rw[Za.out];rfl));have HW:Hid (Went R v w v1 wr):=by rw[Za.out];exact⟨⟨HW1.out.onl.os,HW1.out.onl.tape,HW1.out.onl.output,HW1.out.onl.size,HW1.out.onl.block⟩,HW1.out.own⟩
 have HWB:Hid (R<w.heap.size):=H.out.rd.lt;have HKL0:Hid (KLr w (wr.alloc (.cells #[.int .i64 x.1] 2)) R s x.2 base v v1 qs ns [x.1] (.slice (some ⟨wr.heap.size,0,none⟩) 1 1)):=by
  have hg0:=World.grownBy_alloc wr (.cells #[.int .i64 x.1] 2) none;refine⟨HF.out.heap hg0.size (hg0.block R HF.out.rd.lt (by simp)) (fun g hg=>hg0.block g (HF.out.own.lt g hg).2 (by simp)) (fun q hq g hi=>hg0.block g (HF.out.lie q hq g hi).2.1 (by simp)),HW.out.trans ((Onl.of_below ((Vb _ _).alloc (Va _) _)).any v1),HNS.out,World.ownsRow_lit wr #[.int .i64 x.1] 1 HW.out.onl.size (by unfold maxLen;omega) (by simp),fun g hg=>?_,by simp⟩;simp[Value.ownBlock]at hg;subst hg;exact⟨fun e=>by have:=(HF.out.own.lt _ e).2;omega,fun q hq hi=>by have:=(HF.out.lie q hq _ hi).2.1;omega⟩
 clear HF HW HRD Za Xx HW1 HNS;go_wp2_with fail;clear c0 c1 c2;go_loopw[6] (fun vK wq=>∃(n:Nat) (zs:List Int) (st':RS) (v':Value) (ms:Q08),Hid (st'.p<=s.size/\x.2.p<=st'.p/\s.size-st'.p<n/\zs.length<=st'.p+1/\st'.out.length+(s.size-st'.p)<=5001)/\Hid (iE s it kd n zs st'=iE s it kd (s.size+1) [x.1] x.2)/\Hid (KLr w wq R s st' base v v' qs ms zs vK)) (fun _ wq=>s.size-wat R wq);case atStart=>exact⟨s.size+1,[x.1],x.2,v1,ns,⟨HX.out,Va _,by omega,by simp,HLEN.out⟩,rfl,HKL0.out⟩
 obtain⟨n,zs,st',v',ms,HB,HQ,Xz⟩:=hrel;clear HKL0;go_wp2_with fail;refine(mU _ _).mono ?_;rintro e w' ⟨rfl,rfl⟩;go_wp2_with fail;refine(mE R s (gZ kd) st'.p st'.bad v' _ Xz.out.rd.rd hs HB.out.1 (by simp[mq])).mono ?_;rintro e w5 ⟨rfl,hr5,hg5⟩;cases hc:nz s (gZ kd) st'.p st'.bad;case false=>
  have HK5:=aj (Xz.out.is HWB.out hg5 (Xz.out.rd.is_no hR hc hr5 hg5));rw[wJ]at hc;have EQ:=aj (MZ (zs:=zs) (st:=st') XI.out (by rw[<-HKD.out];exact HQ.out.symm.trans (PT hc)));obtain⟨ad,cap,rfl,hnq,hin⟩:=HK5.out.node hB kd;have HNQ:=aj hnq;have HIN:=aj hin;have hql:(qs++ms).length<=100000:=by have h1:=HK5.out.rd.out;have h2:=congrArg List.length h1;simp only[ak,VN]at h2;have:=HB.out.2.2.2.2;omega
  clear hr5 hg5 hc hnq hin Xz;go_wp2_with fail;refine(L9 R s st' base v' (qs++ms) ⟨⟨kd,[],⟨#[]⟩,⟨#[]⟩,zs⟩,none,0,ad,cap⟩ w5 HK5.out.rd hR (Vj hB HK5.out.went.onl.size) hql HNQ.out (HK5.out.kid hB kd) (fun g hg=>(HIN.out g hg).2)).mono ?_;rintro e w6 ⟨v6,rfl,hF6,hW6⟩;have ZT:=aj hF6;have HW6:=aj (HK5.out.went.trans hW6);clear hF6 hW6;have HNEW:Hid (∀q∈ms++[(⟨⟨kd,[],⟨#[]⟩,⟨#[]⟩,zs⟩,none,0,ad,cap⟩:ER)],∀g,qw q g->w.heap.size<=g):=by
   intro q hq g hg;rcases Vn.1 hq with h1|h1
   ·exact HK5.out.new q h1 g hg
   rw[Vl]at h1;subst h1;exact(HIN.out g hg).1
  replace ZT:Hid (RdF w6 R s (sP ⟨kd,[],⟨#[]⟩,⟨#[]⟩,zs⟩ st') base v6 (qs++(ms++[(⟨⟨kd,[],⟨#[]⟩,⟨#[]⟩,zs⟩,none,0,ad,cap⟩:ER)]))):=by rw[<-VD];exact ZT.out
  go_wp2;exact bodyPost_ret (v:=.int .i64 (st'.out.length:Int)) (by simp[results,Tryz.results219,go_sem]) rfl (by rw[EQ.out,<-HKD.out];exact⟨v6,_,rfl,ZT.out,HW6.out,HNEW.out⟩)
 have hk5:=Xz.out.is HWB.out hg5 (Xz.out.rd.is_yes hR hc hr5 hg5);rw[wJ]at hk5;have HK5:=aj hk5;have HPS:Hid (st'.p+3<=s.size):=by have:=Ar hc;rw[mq]at this;exact this
 have HPL:=aj Xz.out.rd.rd.place;obtain⟨m,hm⟩:∃m,n=m+1:=⟨n-1,by have:=HB.out.2.2.1;omega⟩;subst hm;rw[wJ]at hc;have EQ:=aj ((M0 (it:=it) (n:=m) (zs:=zs) hc).symm.trans HQ.out);have eP:(kM (bf kd) st').p=st'.p+3:=by unfold kM;rw[mV]
 have eO:(kM (bf kd) st').out=st'.out:=rfl;have a1:x.2.p+3<=(kM (bf kd) st').p:=by rw[eP];have:=HB.out.2.1;omega
 have a2:(kM (bf kd) st').p<=s.size:=by rw[eP];exact HPS.out
 have a3:(kM (bf kd) st').out.length+(s.size-(kM (bf kd) st').p)<=5000:=by rw[eP,eO];have:=HB.out.2.2.2.2;have:=HPS.out;omega
 have hmo:=HMONO.out (kM (bf kd) st') a1 a2;rw[eP,eO]at hmo;have hcall:=HITM.out (kM (bf kd) st') v' (qs++ms) w5 HK5.out.rd (Vj hB HK5.out.went.onl.size) a1 a2 a3;obtain⟨y,hy⟩:∃y,y=it (kM (bf kd) st'):=⟨_,rfl⟩;rw[<-hy]at hmo hcall EQ;have HMO:=aj hmo;have XQ:=aj hcall;clear hr5 hg5 hk5 hc Xz eP eO a1 a2 a3 hmo hcall hy;go_wp2_with fail;refine XQ.out.mono ?_;rintro e w6 ⟨v6,ns6,rfl,hF6,hW6,hn6⟩;have HK6:=aj (HK5.out.more HWB.out hF6 hW6 hn6);clear hF6 hW6 hn6 XQ HK5;obtain⟨W7,YJ⟩:∃W7,W7=w6.alloc (.cells #[.int .i64 y.1] 2):=⟨_,rfl⟩;have Y8:Hid (W7.ownsRow w.heap.size 2 1 u6 zs.length (ints zs)):=by rw[YJ];exact HK6.out.own.alloc _
 have HN7:Hid (∀j u,[Value.int .i64 y.1][j]?=some u->W7.cell? ((⟨w6.heap.size,0,none⟩:Addr).add j)=some u):=by rw[YJ];exact PV w6 _ _ rfl
 have HS7:Hid (w.heap.size<=W7.heap.size):=by show _<=_;rw[YJ];exact Vj HK6.out.went.onl.size (World.grownBy_alloc w6 _ none).size
 have HW7:=aj YJ;have hzl:zs.length<=1001:=by have:=HB.out.2.2.2.1;have:=HB.out.1;omega
 go_wp2_with(at_builtin;rw[<-YJ];clear YJ;refine wpList_append_own_at _ rfl _ _ 37 rfl w.heap.size 2 iI (.int .i64 0) 1 8 underlying37 HII.out.1 HII.out.2.1 HII.out.2.2.1 HII.out.2.2.2 rfl (by decide) u6 zs.length (ints zs) rfl Y8.out ⟨w6.heap.size,0,none⟩ 1 1 [Value.int .i64 y.1] rfl rfl HN7.out (by intro u hu;simp at hu;subst hu;rfl) (by unfold maxLen;omega) (by omega) HS7.out ?_);intro vN w8 XE hgr8 _ hat8;have HK8:Hid (KLr w w8 R s y.2 base v v6 qs (ms++ns6) (zs++[y.1]) vN):=by
  rw[HW7.out]at hgr8 hat8;exact HK6.out.app HWB.out y.1 _ XE hgr8 hat8
 have HM:Hid (s.size-wat R w8<s.size-wat R w'):=by
  show _<_;rw[HK8.out.rd.rd.place,HPL.out];have:=HMO.out.1;have:=HMO.out.2.1;have:=HPS.out;omega
 clear XE hgr8 hat8 Y8 HN7 HS7 HW7 HK6;go_wp2;go_roundw;case rel=>exact⟨m,zs++[y.1],y.2,v6,ms++ns6,⟨HMO.out.2.1,by have:=HMO.out.1;have:=HB.out.2.1;omega,by have:=HB.out.2.2.1;have:=HMO.out.1;have:=HMO.out.2.1;omega,by have:=HB.out.2.2.2.1;have:=HMO.out.1;rw[Vh,VL];omega,by have:=HB.out.2.2.2.2;have:=HMO.out;omega⟩,EQ.out,HK8.out⟩
 exact HM.out
theorem Ea{s:ByteArray}{st:RS}(h:st.p<=s.size):st.p<=(bI s st).p/\(bI s st).p<=s.size:=⟨Nat.le_add_right _ _,kN s st.p h⟩
theorem Fy{s:ByteArray}{st:RS}(h:st.p<=s.size):st.p<=(aZ s st).p/\(aZ s st).p<=s.size/\(aZ s st).out=st.out:=by
 unfold aZ;cases e:lW s vk st;case false=>exact⟨Va _,h,rfl⟩
 have h1:st.p+1<=s.size:=lm e;have:=kN s (st.p+1) h1;exact⟨by show st.p<=st.p+1+ax s (st.p+1);omega,this,rfl⟩
theorem Eb{s:ByteArray}:∀(n:Nat) (xs:Q0a) (st:RS),st.p<=s.size->st.p<=(dF s n xs st).2.p/\(dF s n xs st).2.p<=s.size/\(dF s n xs st).2.out=st.out:=by
 intro n
 induction n with
 | zero=>intro xs st h;exact⟨Va _,h,rfl⟩
 | succ n ih =>
  intro xs st h;have h1:=Ea h;have h2:=Fy h1.2;have h3:(aZ s (bI s st)).out=st.out:=h2.2.2;unfold dF;by_cases hb:st.bad=true
  ·rw[if_pos hb];exact⟨Va _,h,rfl⟩
  rw[if_neg hb];by_cases hc:lW s fC (aZ s (bI s st))=true
  ·rw[if_pos hc];have h4:(aZ s (bI s st)).p+1<=s.size:=lm hc;exact⟨by show st.p<=(aZ s (bI s st)).p+1;omega,h4,h3⟩
  rw[if_neg hc];by_cases hm:lW s mD (aZ s (bI s st))=true
  ·rw[if_pos hm];have h4:(aZ s (bI s st)).p+1<=s.size:=lm hm;obtain⟨a,b,c⟩:=ih (xs++[⟨aA s st.p,yU s (bI s st)⟩]) (kM mD (aZ s (bI s st))) h4;have a':(aZ s (bI s st)).p+1<=_:=a;exact⟨by omega,b,c.trans h3⟩
  rw[if_neg hm];obtain⟨a,b,c⟩:=ih (xs++[⟨aA s st.p,yU s (bI s st)⟩]) (vv (aZ s (bI s st))) h2.2.1;have a':(aZ s (bI s st)).p<=_:=a;exact⟨by omega,b,c.trans h3⟩
def BC(s:ByteArray)(k:Nat)(st st':RS):Prop:=st.p<=st'.p/\st'.p<=s.size/\st'.out.length+st.p<=st.out.length+k+st'.p
theorem M4{s:ByteArray}{st:RS}(h:lW s gm st=true):BC s 1 st (q8 s st).2:=by
 have h1:(kM gm st).p<=s.size:=lm h;obtain⟨a,b,c⟩:=Eb (s:=s) (s.size+1) [] (kM gm st) h1;have a':st.p+5<=_:=a;have c':_=st.out:=c;unfold q8 BC;cases e:dF s (s.size+1) [] (kM gm st) with
 | mk o st' =>
  rw[e]at a' b c';replace a':st.p+5<=st'.p:=a';replace b:st'.p<=s.size:=b;replace c':st'.out=st.out:=c';cases o with
  | none=>exact⟨by show st.p<=st'.p;omega,b,by show st'.out.length+_<=_+_+st'.p;rw[c'];omega⟩
  | some xs=>exact⟨by show st.p<=st'.p;omega,b,by show(st'.out++_).length+_<=_+_+st'.p;rw[c',Vh,VL];omega⟩
theorem PW{s:ByteArray}{st:RS}(h:st.p<=s.size):BC s 1 st (sP (fw s st) (judged (fw s st) (aL s st))):=by
 have h1:=Ea h;have key:st.p<=(aL s st).p/\(aL s st).p<=s.size/\(aL s st).out=st.out:=by
  unfold aL;cases e:lW s o7 (bI s st);case false=>exact⟨h1.1,h1.2,rfl⟩
  have h2:st.p+ax s st.p+2<=s.size:=lm e;have:=kN s _ h2;exact⟨by show st.p<=st.p+ax s st.p+2+ax s (st.p+ax s st.p+2);omega,this,rfl⟩
 have key2:(judged (fw s st) (aL s st)).p=(aL s st).p/\(judged (fw s st) (aL s st)).out=st.out:=by
  unfold judged;split
  ·exact⟨rfl,key.2.2⟩
  exact⟨rfl,key.2.2⟩
 refine⟨?_,?_,?_⟩
 ·show st.p<=(judged (fw s st) (aL s st)).p;rw[key2.1];exact key.1
 ·show(judged (fw s st) (aL s st)).p<=_;rw[key2.1];exact key.2.1
 show((judged (fw s st) (aL s st)).out++_).length+_<=_+1+(judged (fw s st) (aL s st)).p;rw[key2.1,key2.2,Vh,VL];have:=key.1;omega
theorem M5{s:ByteArray}{st:RS}{x:Int×RS}(h:BC s 1 (kM jJ st) x.2):BC s 1 st (uq s x).2:=by
 obtain⟨a,b,c⟩:=h;replace a:st.p+1<=x.2.p:=a;replace c:x.2.out.length+(st.p+1)<=st.out.length+1+x.2.p:=c;unfold uq;cases e:lW s fC x.2;case false=>exact⟨by show st.p<=x.2.p;omega,b,by show x.2.out.length+st.p<=_+1+x.2.p;omega⟩
 have h2:x.2.p+1<=s.size:=lm e;exact⟨by show st.p<=x.2.p+1;omega,h2,by show x.2.out.length+st.p<=_+1+(x.2.p+1);omega⟩
theorem M7{s:ByteArray}{it:RS->Int×RS}{k:Int}(hit:∀st,st.p<=s.size->BC s 1 st (it st).2):∀(n:Nat) (zs:List Int) (st:RS),st.p<=s.size->BC s 0 st (iE s it k n zs st).2/\(0<n->lW s (bf k) st=true->(iE s it k n zs st).2.out.length+st.p+2<=st.out.length+(iE s it k n zs st).2.p):=by
 intro n
 induction n with
 | zero=>intro zs st h;exact⟨⟨Va _,h,Va _⟩,fun h=>absurd h (by omega)⟩
 | succ n ih =>
  intro zs st h;unfold iE;cases e:lW s (bf k) st;case false=>exact⟨⟨Va _,h,Va _⟩,fun _ h=>by cases h⟩
  have h1:st.p+3<=s.size:=by have:=lm e;rw[mV]at this;exact this
  have eP:(kM (bf k) st).p=st.p+3:=by unfold kM;rw[mV]
  have eO:(kM (bf k) st).out=st.out:=rfl;obtain⟨a,b,c⟩:=hit (kM (bf k) st) (by rw[eP];exact h1);rw[eP]at a c;rw[eO]at c;obtain⟨⟨a2,b2,c2⟩,-⟩:=ih (zs++[(it (kM (bf k) st)).1]) (it (kM (bf k) st)).2 b;simp only[if_true];exact⟨⟨by omega,b2,by omega⟩,fun _ _=>by omega⟩
theorem J7{s:ByteArray}{p:Nat}(h:dG s p≠0):dY s (bf (dG s p)) p=true:=by
 unfold dG at h⊢;cases h1:dY s (bf 4) p;case true=>simpa using h1
 cases h2:dY s (bf 5) p;case true=>simpa[h1] using h2
 cases h3:dY s (bf 6) p;case true=>simpa[h1,h2] using h3
 simp[h1,h2,h3]at h
theorem RX{s:ByteArray}{it:RS->Int×RS}(hit:∀st,st.p<=s.size->BC s 1 st (it st).2){st:RS}{x:Int×RS}(h:BC s 1 st x.2):BC s 1 st (rowP s it x).2:=by
 unfold rowP;by_cases hc:dG s x.2.p=0\/x.2.bad=true
 ·rw[if_pos hc];exact h
 rw[if_neg hc];have hsg:dG s x.2.p≠0:=fun e=>hc (.inl e)
 have hbd:x.2.bad=false:=by cases e:x.2.bad with
  | false=>rfl
  | true=>exact absurd (.inr e) hc
 have hyes:lW s (bf (dG s x.2.p)) x.2=true:=by unfold lW;rw[hbd,J7 hsg];rfl
 obtain⟨⟨a,b,c⟩,d⟩:=M7 hit (k:=dG s x.2.p) (s.size+1) [x.1] x.2 h.2.1;have d:=d (by omega) hyes;obtain⟨a1,b1,c1⟩:=h;refine⟨?_,b,?_⟩
 ·show st.p<=(iE s it (dG s x.2.p) (s.size+1) [x.1] x.2).2.p;omega
 show((iE s it (dG s x.2.p) (s.size+1) [x.1] x.2).2.out++_).length+_<=_+1+(iE s it (dG s x.2.p) (s.size+1) [x.1] x.2).2.p;rw[Vh,VL];omega
theorem BD{s:ByteArray}{n:Nat}{st:RS}(h:lW s gm st=true):zX s (n+1) false st=q8 s st:=by
 unfold zX q8;rw[if_pos h];cases dF s (s.size+1) [] (kM gm st) with
 | mk o st'=>cases o<;>rfl
theorem BF{s:ByteArray}{n:Nat}{st:RS}(h:lW s gm st=false)(h2:lW s jJ st=true):zX s (n+1) false st=uq s (zX s n true (kM jJ st)):=by
 conv=>lhs;unfold zX
 rw[if_neg (by rw[h];decide),if_pos h2];rfl
theorem BG{s:ByteArray}{n:Nat}{st:RS}(h:lW s gm st=false)(h2:lW s jJ st=false):zX s (n+1) false st=((st.out.length:Int),sP (fw s st) (judged (fw s st) (aL s st))):=by
 unfold zX;rw[if_neg (by rw[h];decide),if_neg (by rw[h2];decide)]
theorem Fz{s:ByteArray}{n:Nat}{st:RS}:zX s (n+1) true st=rowP s (zX s n false) (zX s n false st):=by
 conv=>lhs;unfold zX
 rfl
theorem su{s:ByteArray}:∀(n:Nat) (b:Bool) (st:RS),st.p<=s.size->BC s 1 st (zX s n b st).2:=by
 intro n
 induction n with
 | zero=>intro b st h;cases b<;>exact⟨Va _,h,by show st.out.length+st.p<=st.out.length+1+st.p;omega⟩
 | succ n ih =>
  intro b st h;cases b;case true=>rw[Fz];exact RX (fun st' h'=>ih false st' h') (ih false st h)
  cases h1:lW s gm st;case true=>rw[BD h1];exact M4 h1
  cases h2:lW s jJ st;case true=>rw[BF h1 h2];exact M5 (ih true (kM jJ st) (lm h2))
  rw[BG h1 h2];exact PW h
theorem PX(R:Nat)(s:bW)(base:Nat)(hR:R<base)(hs:s.size<=1000):∀n:Nat,
  (∀ (st:RS) (v:Value) (qs:Q08) (w:World),RdF w R s st base v qs->base<=w.heap.size->st.p<=s.size->st.out.length+(s.size-st.p)<=5000->2*(s.size-st.p)<n ->
   Calls prog 234 #[.pointer (some ⟨R,0,none⟩)] w (vI R s base v qs w (zX s n false st))) /\
  (∀ (st:RS) (v:Value) (qs:Q08) (w:World),RdF w R s st base v qs->base<=w.heap.size->st.p<=s.size->st.out.length+(s.size-st.p)<=5000->2*(s.size-st.p)+1<n ->
   Calls prog 219 #[.pointer (some ⟨R,0,none⟩)] w (vI R s base v qs w (zX s n true st))):=by
 intro n
 induction n with
 | zero=>exact⟨fun _ _ _ _ _ _ _ _ h=>absurd h (by omega),fun _ _ _ _ _ _ _ _ h=>absurd h (by omega)⟩
 | succ n ih =>
  refine⟨fun st v qs w h hB hp hb hn=>?_,fun st v qs w h hB hp hb hn=>?_⟩
  ·have hlen:qs.length=st.out.length:=by rw[<-h.out];simp[ak]
   cases h1:lW s gm st;case true=>rw[BD h1];exact MW R s st base v qs w h hR hB hs hp (by omega) h1
   cases h2:lW s jJ st;case true=>
    rw[BF h1 h2];have h3:st.p+1<=s.size:=lm h2;have h4:(kM jJ st).p=st.p+1:=rfl;exact OI R s st base v qs w h hR hs hp h1 h2 _ (su n true (kM jJ st) h3).2.1 fun w1 hw1 hsz=>ih.2 (kM jJ st) v qs w1 hw1 (Vj hB hsz) h3 (by rw[h4];show st.out.length+_<=_;omega) (by rw[h4];omega)
   rw[BG h1 h2];exact MR R s st base v qs w h hR hB hs hp (by omega) h1 h2
  rw[Fz];obtain⟨a,b,c⟩:=su (s:=s) n false st hp;refine RV R s st base v qs w h hR hB hs _ b (ih.1 st v qs w h hB hp hb (by omega)) _ (by omega) (fun st' v' qs' w' h' hB' h1 h2 h3=>ih.1 st' v' qs' w' h' hB' h2 h3 (by omega)) (fun st' h1 h2=>?_);obtain⟨a2,b2,c2⟩:=su (s:=s) n false st' h2;exact⟨a2,b2,c2⟩
def UM(s:ByteArray)(a:Al):Prop:=a.t.size<=s.size/\a.s.size<=s.size
def IU(s:ByteArray)(e:Ex):Prop:=e.allow.length<=s.size+1/\(∀a∈e.allow,UM s a)/\e.over.size<=s.size/\e.name.size<=s.size/\e.kids.length<=s.size+2
theorem rf(s:bW)(p:Nat):(aA s p).size<=s.size:=by
 unfold aA;rw[ByteArray.size_extract];omega
theorem RY(s:bW)(st:RS):(yU s st).size<=s.size:=by
 unfold yU;split
 ·exact rf s _
 exact Vf _
theorem M8{s:ByteArray}:∀(n:Nat) (xs:Q0a) (st:RS) (ys:Q0a),(∀a∈xs,UM s a)->(dF s n xs st).1=some ys->ys.length<=xs.length+n/\∀a∈ys,UM s a:=by
 intro n
 induction n with
 | zero=>intro xs st ys _ h;cases h
 | succ n ih =>
  intro xs st ys hx h;have hx2:∀a∈xs++[(⟨aA s st.p,yU s (bI s st)⟩:Al)],UM s a:=by
   intro a ha;rcases Vn.1 ha with h1|h1
   ·exact hx a h1
   rw[Vl]at h1;subst h1;exact⟨rf s _,RY s _⟩
  unfold dF at h;by_cases hb:st.bad=true
  ·rw[if_pos hb]at h;cases h
  rw[if_neg hb]at h;by_cases hc:lW s fC (aZ s (bI s st))=true
  ·rw[if_pos hc]at h;injection h with h;subst h;exact⟨by rw[Vh,VL];omega,hx2⟩
  rw[if_neg hc]at h;have fin:∀st',(dF s n (xs++[⟨aA s st.p,yU s (bI s st)⟩]) st').1=some ys->ys.length<=xs.length+(n+1)/\∀a∈ys,UM s a:=fun st' h'=>by
   obtain⟨a,b⟩:=ih _ st' ys hx2 h';rw[Vh,VL]at a;exact⟨by omega,b⟩
  by_cases hm:lW s mD (aZ s (bI s st))=true
  ·rw[if_pos hm]at h;exact fin _ h
  rw[if_neg hm]at h;exact fin _ h
theorem FB{s:ByteArray}{x:Ex}{st:RS}(h:∀e∈st.out,IU s e)(hx:IU s x):∀e∈(sP x st).out,IU s e:=by
 intro e he;rcases Vn.1 he with h1|h1
 ·exact h e h1
 rw[Vl]at h1;subst h1;exact hx
theorem PY{s:ByteArray}{st:RS}(hp:st.p+5<=s.size)(h:∀e∈st.out,IU s e):∀e∈(q8 s st).2.out,IU s e:=by
 have hc:=(Eb (s:=s) (s.size+1) [] (kM gm st) hp).2.2;have hs:=M8 (s:=s) (s.size+1) [] (kM gm st);unfold q8;cases e:dF s (s.size+1) [] (kM gm st) with
 | mk o st' =>
  rw[e]at hc hs;have hc':st'.out=st.out:=hc;cases o with
  | none=>show ∀e∈st'.out,IU s e;rw[hc'];exact h
  | some xs =>
   obtain⟨a,b⟩:=hs xs (fun a ha=>by cases ha) rfl;exact FB (by rw[hc'];exact h) ⟨by simpa using a,b,Vf _,Vf _,Vf _⟩
theorem RZ{s:ByteArray}{st:RS}(h:∀e∈st.out,IU s e):∀e∈(sP (fw s st) (judged (fw s st) (aL s st))).out,IU s e:=by
 have h1:(judged (fw s st) (aL s st)).out=st.out:=by
  have h2:(aL s st).out=st.out:=by unfold aL;split<;>rfl
  unfold judged;split<;>exact h2
 refine FB (by rw[h1];exact h) ?_;unfold fw;split
 ·exact⟨Vf _,fun a ha=>(by cases ha),rf s _,rf s _,Vf _⟩
 exact⟨Vf _,fun a ha=>(by cases ha),Vf _,rf s _,Vf _⟩
theorem PZ{s:ByteArray}{it:RS->Int×RS}{k:Int}(hit:∀st,(∀e∈st.out,IU s e)->st.p<=s.size->(∀e∈(it st).2.out,IU s e)/\(it st).2.p<=s.size):∀(n:Nat) (zs:List Int) (st:RS),(∀e∈st.out,IU s e)->st.p<=s.size->(∀e∈(iE s it k n zs st).2.out,IU s e)/\(iE s it k n zs st).1.length<=zs.length+n:=by
 intro n
 induction n with
 | zero=>intro zs st h _;exact⟨h,Va _⟩
 | succ n ih =>
  intro zs st h hp;unfold iE;cases e:lW s (bf k) st;case false=>exact⟨h,Nat.le_add_right _ _⟩
  have h1:(kM (bf k) st).p<=s.size:=lm e;obtain⟨a,b⟩:=hit (kM (bf k) st) h h1;obtain⟨a2,b2⟩:=ih (zs++[(it (kM (bf k) st)).1]) _ a b;rw[Vh,VL]at b2;exact⟨a2,by simp only[if_true];omega⟩
theorem P5{s:ByteArray}:∀(n:Nat) (b:Bool) (st:RS),st.p<=s.size->(∀e∈st.out,IU s e)->∀e∈(zX s n b st).2.out,IU s e:=by
 intro n
 induction n with
 | zero=>intro b st _ h;cases b<;>exact h
 | succ n ih =>
  intro b st hp h;cases b;case true=>
   rw[Fz];unfold rowP;have hx:=ih false st hp h;have hxp:=(su (s:=s) n false st hp).2.1;split
   ·exact hx
   obtain⟨a,b⟩:=PZ (s:=s) (it:=zX s n false) (k:=dG s (zX s n false st).2.p) (fun st' h1 h2=>⟨ih false st' h2 h1,(su (s:=s) n false st' h2).2.1⟩) (s.size+1) [(zX s n false st).1] (zX s n false st).2 hx hxp;exact FB a ⟨Vf _,fun a ha=>(by cases ha),Vf _,Vf _,Vj b (by simp only[VL];omega)⟩
  cases h1:lW s gm st;case true=>rw[BD h1];exact PY (lm h1) h
  cases h2:lW s jJ st;case true=>
   rw[BF h1 h2];have hx:=ih true (kM jJ st) (lm h2) h;unfold uq;split
   ·exact hx
   exact hx
  rw[BG h1 h2];exact RZ h
theorem IU.light{s:ByteArray}{e:Ex}(h:IU s e)(hs:s.size<=1000):e.light/\e.fits:=by
 obtain⟨h1,h2,h3,h4,h5⟩:=h;refine⟨⟨by omega,by omega⟩,⟨fun a ha=>⟨?_,?_⟩,?_,?_,?_,?_⟩⟩<;>unfold maxLen
 ·have:=(h2 a ha).1;omega
 ·have:=(h2 a ha).2;omega
 all_goals omega
def kW(s:ByteArray):RS:=(zX s (2*s.size+2) true ⟨0,false,[]⟩).2
def mW(s:ByteArray):Bool:=decide (s.size<=1000) && !(kW s).bad && !decide ((kW s).p<s.size)&&aN (kW s).out&&((iq (kW s).out).toList==s.toList)
def UN(s:ByteArray)(w:World)(e:Ending)(w':World):Prop :=
 ae w w'/\((mW s=false/\e=.returned (.tuple #[.slice none 0 0,.bool false]))\/(mW s=true/\∃(v:Value) (R:Nat) (qs:Q08),e=.returned (.tuple #[v,.bool true])/\RdF w' R s (kW s) (w.heap.size+1) v qs))
theorem P6(w:af)(s:bW):RdF (w.alloc (.cells #[.string s,.int .i64 0,.bool false,.slice none 0 0] 303)) w.heap.size s ⟨0,false,[]⟩ (w.heap.size+1) (.slice none 0 0) []:=by
 refine⟨⟨by simp,by simp,by simp,by simp,by simp,fun j=>by simp⟩,World.ownsRow_nil _ _ _ _,rfl,?_,?_,?_,?_,?_,?_,?_,?_⟩
 ·intro q hq;cases hq
 ·intro q hq;cases hq
 ·intro q hq;cases hq
 ·intro q hq;cases hq
 ·intro q hq;cases hq
 ·intro x y hx;exact absurd hx (by simp)
 ·intro q hq;cases hq
 intro q hq;cases hq
theorem RdF.slE{w:af}{R:Nat}{s:ByteArray}{st:RS}{base:Nat}{v:Value}{qs:Q08}(h:RdF w R s st base v qs):∃ad cap,v=.slice ad qs.length cap/\ik w ad qs:=SY h.own rfl h.ok
theorem RdF.later{w w':af}{R:Nat}{s:ByteArray}{st:RS}{base:Nat}{v:Value}{qs:Q08}(h:RdF w R s st base v qs)(hb:ae w w'):RdF w' R s st base v qs :=
 h.heap hb.size (hb.block R h.rd.lt) (fun g hg=>hb.block g (h.own.lt g hg).2) (fun q hq g hi=>hb.block g (h.lie q hq g hi).2.1)
theorem xW(s:bW)(w:af):Calls prog 178 #[.string s] w (UN s w):=by
 by_cases hs:s.size<=1000
 ·have hd0:decide ((1000:Int)<(s.size:Int))=false:=by simp;omega
  have HRD:=aj (P6 w s);have XQ:=aj ((PX w.heap.size s (w.heap.size+1) (by omega) hs (2*s.size+2)).2 ⟨0,false,[]⟩ (.slice none 0 0) [] _ HRD.out (by simp) (Vf _) (by simp;omega) (by simp));have HSM:Hid (∀e∈(kW s).out,e.light/\e.fits):=fun e he=>(P5 (s:=s) _ true ⟨0,false,[]⟩ (Vf _) (fun e he=>by cases he) e he).light hs;have HFEW:=aj (su (s:=s) (2*s.size+2) true ⟨0,false,[]⟩ (Vf _));go_enter func178,ntmps178;go_wp2_with fail;refine XQ.out.mono ?_;rintro e w1 ⟨v1,qs,rfl,hF1,hW1,-⟩;replace hF1:RdF w1 w.heap.size s (kW s) (w.heap.size+1) v1 qs:=hF1;have Xx:=aj hF1;have HB1:Hid (ae w w1):=⟨hW1.onl.os,hW1.onl.tape,hW1.onl.output,by have:=hW1.onl.size;simp at this;omega,fun k hk=>(hW1.onl.block k (by simp;omega) (by omega) (by simp[Value.ownBlock])).trans ((World.grownBy_alloc w _ none).block k hk (by simp))⟩;obtain⟨ad,cap,rfl,hsl⟩:=hF1.slE;have YQ:=aj hsl;have HOUT:=aj hF1.out;have hql:qs.length<=1048576:=by
   have h2:=congrArg List.length hF1.out;simp only[ak,VN]at h2;have h3:(kW s).out.length+0<=0+1+(kW s).p:=HFEW.out.2.2;have h4:(kW s).p<=s.size:=HFEW.out.2.1;omega
  have HL:Hid (∀r∈qs,r.e.light):=fun r hr=>(HSM.out r.e (by rw[<-HOUT.out];exact Vo.2 ⟨r,hr,rfl⟩)).1;have HF:Hid (∀r∈qs,r.e.fits):=fun r hr=>(HSM.out r.e (by rw[<-HOUT.out];exact Vo.2 ⟨r,hr,rfl⟩)).2;have ZE:Hid (mW s=(!(kW s).bad && !decide ((kW s).p<s.size)&&aN (kW s).out&&((iq (kW s).out).toList==s.toList))):=by show _=_;unfold mW;simp[hs]
  have c1:=hF1.rd.c1;have c2:=hF1.rd.c2;have c3:=hF1.rd.c3;clear hF1 hW1 hsl XQ HRD HSM HFEW;cases hb:(kW s).bad;case true=>
   rw[hb]at c2;have EQ:Hid (mW s=false):=by show _=_;rw[ZE.out,hb];rfl
   go_wp2;exact bodyPost_ret (v:=.tuple #[.slice none 0 0,.bool false]) (by simp[results,Tryz.results178,go_sem]) rfl ⟨HB1.out,.inl ⟨EQ.out,rfl⟩⟩
  rw[hb]at c2;by_cases hlt:(kW s).p<s.size
  ·have hd1:decide (((kW s).p:Int)<(s.size:Int))=true:=by simp;omega
   have EQ:Hid (mW s=false):=by show _=_;rw[ZE.out,hb,decide_eq_true hlt];rfl
   go_wp2;exact bodyPost_ret (v:=.tuple #[.slice none 0 0,.bool false]) (by simp[results,Tryz.results178,go_sem]) rfl ⟨HB1.out,.inl ⟨EQ.out,rfl⟩⟩
  have hd1:decide (((kW s).p:Int)<(s.size:Int))=false:=by simp;omega
  go_wp2_with fail;refine(mH ad cap qs w1 hql HL.out HF.out YQ.out).mono ?_;rintro e w2 ⟨rfl,hB2⟩;have X9:=aj (Xx.out.later hB2);have HB2:=aj (HB1.out.trans (hB2.mono HB1.out.size));have HSL2:=aj (YQ.out.below hB2);have k3:=X9.out.rd.c3;rw[HOUT.out];clear hB2;cases he:aN (kW s).out;case false=>
   have EQ:Hid (mW s=false):=by show _=_;rw[ZE.out,hb,decide_eq_false hlt,he];rfl
   go_wp2;exact bodyPost_ret (v:=.tuple #[.slice none 0 0,.bool false]) (by simp[results,Tryz.results178,go_sem]) rfl ⟨HB2.out,.inl ⟨EQ.out,rfl⟩⟩
  go_wp2_with fail;refine(oH ad cap qs w2 hql HL.out HF.out HSL2.out).mono ?_;rintro e w3 ⟨rfl,hB3⟩;have HF3:=aj (X9.out.later hB3);have HB3:=aj (HB2.out.trans (hB3.mono HB2.out.size));have q3:=HF3.out.rd.c3;rw[HOUT.out];clear hB3;cases ht:(iq (kW s).out).toList==s.toList;case false=>
   have ht2:(!(iq (kW s).out).toList==s.toList)=true:=by rw[ht];rfl
   have EQ:Hid (mW s=false):=by show _=_;rw[ZE.out,ht,Bool.and_false]
   go_wp2;exact bodyPost_ret (v:=.tuple #[.slice none 0 0,.bool false]) (by simp[results,Tryz.results178,go_sem]) rfl ⟨HB3.out,.inl ⟨EQ.out,rfl⟩⟩
  have ht2:(!(iq (kW s).out).toList==s.toList)=false:=by rw[ht];rfl
  have EQ:Hid (mW s=true):=by show _=_;rw[ZE.out,hb,decide_eq_false hlt,he,ht];rfl
  go_wp2;exact bodyPost_ret (v:=.tuple #[.slice ad qs.length cap,.bool true]) (by simp[results,Tryz.results178,go_sem]) rfl ⟨HB3.out,.inr ⟨EQ.out,_,_,qs,rfl,HF3.out⟩⟩
 have hd0:decide ((1000:Int)<(s.size:Int))=true:=by simp;omega
 have EQ:Hid (mW s=false):=by show _=_;unfold mW;rw[decide_eq_false hs];rfl
 go_enter func178,ntmps178;go_wp2;exact bodyPost_ret (v:=.tuple #[.slice none 0 0,.bool false]) (by simp[results,Tryz.results178,go_sem]) rfl ⟨Vb _ _,.inl ⟨EQ.out,rfl⟩⟩
theorem RdF.nod{w:af}{R:Nat}{s:ByteArray}{st:RS}{base:Nat}{v:Value}{qs:Q08}(h:RdF w R s st base v qs):NodM w base v qs:=⟨h.own,h.zA,h.zK,h.ok,h.lie,h.one,h.two,h.cA⟩
def sm:List Nat->Nat
 | []=>0
 | x::xs=>x+sm xs
theorem Ec:∀xs ys:List Nat,sm (xs++ys)=sm xs+sm ys
 | [],ys=>by simp[sm]
 | x::xs,ys=>by rw[VS];simp only[sm];rw[Ec xs ys];omega
theorem M9(sep:bW)(xs:List ByteArray):(fE sep xs).size<=sm (xs.map fun x=>x.size+sep.size):=by
 suffices h:∀ys:List ByteArray,(fE sep ys.reverse).size<=sm (ys.reverse.map fun x=>x.size+sep.size) by
  have:=h xs.reverse;rwa [List.reverse_reverse]at this
 intro ys
 induction ys with
 | nil=>exact Va _
 | cons y ys ih =>
  rw[List.reverse_cons,oZ,VX,Ec];simp only[Wn,List.map_nil,sm];split
  ·omega
  simp only[Vv];omega
def lG(f:Int->Int):List Int->Int
 | []=>0
 | k::ks=>(k-f k+1)+lG f ks
theorem wK(f:Int->Int):∀xs ys:List Int,lG f (xs++ys)=lG f xs+lG f ys
 | [],ys=>by simp[lG]
 | x::xs,ys=>by rw[VS];simp only[lG];rw[wK f xs ys];omega
theorem tJ(f:Int->Int):∀xs:List Int,lG f xs.reverse=lG f xs
 | []=>rfl
 | x::xs=>by rw[List.reverse_cons,wK,tJ f xs];simp only[lG];omega
theorem yK{f:Int->Int}:∀(ks:List Int) (a:Int),0<=dz f ks a->lG f ks=a+1-dz f ks a
 | [],a,_=>by simp[lG,dz]
 | k::ks,a,h=>by
  unfold dz at h⊢;split at h
  ·omega
  rename_i h1;rw[if_neg h1];split at h
  ·omega
  rename_i h2;rw[if_neg h2];have hk:k=a:=Decidable.byContradiction fun e=>h1 (.inr e);subst hk;simp only[lG];rw[yK ks _ h];omega
theorem R3{es:Q09}(hes:SQ es)(ht:∀j,j<es.length->0<=az es j)(n:Nat):n<es.length->∀i,((jc es n i).size:Int)<=250*((n:Int)-az es n+1):=by
 induction n using Nat.strongRecOn with
 | ind n ih =>
  intro hn i;have hle:=fZ es n;have h1:=Gh (EK es n) i (mr (jI es n) (EK es n));unfold jc
  suffices h:((mr (jI es n) (EK es n)).size:Int)<=250*((n:Int)-az es n+1)-10 by omega
  have Wq:=hes.2.1 n hn;obtain⟨hk5,-⟩:=qF Wq;rw[EM hn];unfold mr;unfold ay at Wq;split
  ·rename_i k;rw[if_pos k]at Wq;simp only[Vd]at Wq;have:=kH Wq.1.1.1;omega
  rename_i k1;rw[if_neg k1]at Wq;split
  ·rename_i k2;rw[if_pos k2]at Wq;simp only[Vd]at Wq;have:=cu Wq.1.1.1;omega
  rename_i k2;rw[if_neg k2]at Wq;split
  ·rename_i k3;rw[if_pos k3]at Wq;simp only[Vd]at Wq;have h1:=cu Wq.1.1.1;have h2:=cu Wq.1.1.2;have e1:(⟨#[45,62]⟩:ByteArray).size=2:=rfl;simp only[Vv];omega
  have hj:=M9 (gZ es[n].kind) (es[n].kids.map (jI es n));rw[mq,List.map_map]at hj;have hspan:lG (dD es n) es[n].kids=(n:Int)-az es n:=by
   have h0:=ht n hn;rw[jq]at h0;have h2:=yK _ _ h0;rw[tJ,<-jq]at h2;have e:di es n=es[n].kids:=by simp[di,hn]
   rw[e]at h2;omega
  have hsum:∀ks:List Int,(∀k∈ks,0<=k/\k.toNat<n)->(sm (ks.map ((fun x:ByteArray=>x.size+3) ∘ jI es n)):Int)<=250*lG (dD es n) ks+3*(ks.length:Int):=by
   intro ks
   induction ks with
   | nil=>intro _;simp[sm,lG]
   | cons k ks ih2 =>
    intro hks;obtain⟨hk0,hk1⟩:=hks k (VT ..);have h3:=ih2 fun x hx=>hks x (VQ _ hx);have h4:=ih k.toNat hk1 (by omega) true;have e1:jI es n k=jc es k.toNat true:=by unfold jI;rw[if_pos hk1,EL]
    have e2:dD es n k=az es k.toNat:=by unfold dD;rw[if_pos ⟨hk0,hk1⟩]
    have e3:((k.toNat:Nat):Int)=k:=by omega
    simp only[Wn,sm,lG,Function.comp_apply,VI];rw[e1,e2];rw[e3]at h4;omega
  have h5:=hsum es[n].kids (vg hes hn);rw[hspan]at h5;have:(es[n].kids.length:Int)<=5:=by omega
  omega
theorem P7{es:Q09}(h:aN es=true):∀j,j<es.length->0<=az es j:=by
 rw[rR]at h;unfold kL at h;simp only[Vd,Vk]at h;have h1:=h.2.1;unfold jb at h1;rw[Vm]at h1;intro j hj;simpa using h1 j (by simpa using hj)
theorem FD(es:Q09):(iq es).size<=3750:=by
 by_cases h:aN es=true
 ·have ht:=P7 h;have hf:=oo h;have h1:=R3 (Ot h) ht (es.length-1) (by omega) false;have h2:=ht (es.length-1) (by omega);rw[Bz h];omega
 rw[D8 (by simpa using h)];show 0<=3750;omega
def Hy(r:Rl):ByteArray:=((r.name++⟨#[32,61,32]⟩)++iq r.expr)++⟨#[10]⟩
def dR:List Rl->ByteArray
 | []=>⟨#[]⟩
 | r::rs=>Hy r++dR rs
def mX(n:ByteArray):ByteArray:=(⟨#[116,121,112,101,32]⟩++n)++⟨#[10]⟩
def dB:List Ty->ByteArray
 | []=>⟨#[]⟩
 | t::ts=>(mX t.name++dR t.rels)++dB ts
theorem wL(a:bW):a++(⟨#[]⟩:ByteArray)=a:=by apply jr;simp[ByteArray.data_append]
theorem rq:∀(xs:List Rl) (r:Rl),dR (xs++[r])=dR xs++Hy r
 | [],r=>by simp only[Wh,dR,wL,sj]
 | x::xs,r=>by rw[VS];simp only[dR];rw[rq xs r,<-VW]
theorem mY:∀(xs:Q0b) (t:Ty),dB (xs++[t])=dB xs++(mX t.name++dR t.rels)
 | [],t=>by simp only[Wh,dB,wL,sj]
 | x::xs,t=>by rw[VS];simp only[dB];rw[mY xs t,<-VW]
theorem Na(rs:Q07)(k:Nat)(h:k<rs.length):eT (rs.take (k+1))=eT (rs.take k)++[⟨rs[k].name,ak rs[k].rows⟩]:=by
 rw[Ve h];unfold eT;rw[VX];rfl
theorem Nb(rs:Q06)(k:Nat)(h:k<rs.length):ag (rs.take (k+1))=ag (rs.take k)++[⟨rs[k].name,eT rs[k].rows⟩]:=by
 rw[Ve h];unfold ag;rw[VX];rfl
theorem yL(n:bW):(mX n).size=n.size+6:=by
 have e1:(⟨#[116,121,112,101,32]⟩:ByteArray).size=5:=rfl;have e2:(⟨#[10]⟩:ByteArray).size=1:=rfl;unfold mX;simp only[Vv];omega
def P8:ByteArray:=⟨#[116,121,112,101,32]⟩
def UO:ByteArray:=⟨#[61,32]⟩
def UQ:ByteArray:=⟨#[10]⟩
def BH(l:ByteArray):Bool:=decide (5<l.size)&&(l.extract 0 5).toList==P8.toList
def yM(t:ByteArray):Bool:=decide (2<=t.size)&&(t.extract 0 2).toList==UO.toList
def Ed(l:ByteArray):ByteArray:=(iY 32 l).extract 2 (iY 32 l).size
def FE(acc:Q0b)(r:Rl):List Ty:=match acc.getLast? with
 | none=>[]
 | some t=>acc.dropLast++[⟨t.name,t.rels++[r]⟩]
theorem ru(xs:Q0b)(t:Ty)(r:Rl):FE (xs++[t]) r=xs++[⟨t.name,t.rels++[r]⟩]:=by
 unfold FE;simp
def nJ(acc:Q0b)(l:ByteArray):Option (List Ty) :=
 if BH l then some (acc++[⟨l.extract 5 l.size,[]⟩])
 else if !acc.isEmpty&&yM (iY 32 l)&&mW (Ed l) then some (FE acc ⟨kS 32 l,(kW (Ed l)).out⟩) else none
def dS:Nat->ByteArray->List Ty->Option (List Ty)
 | 0,_,acc=>some acc
 | n+1,rest,acc =>
  if rest.toList.isEmpty then some acc
  else if pz 10 rest then
   match nJ acc (kS 10 rest) with
   | none=>none
   | some a=>dS n (iY 10 rest) a
  else none
theorem mZ(b:bW):b.toList=b.data.toList:=Go.ByteArray.toList_eq b
theorem Nc(c:UInt8)(l:List UInt8)(h:(je c l).2.2=true):l=(je c l).1++c::(je c l).2.1:=by
 induction l with
 | nil=>simp[je]at h
 | cons b l ih =>
  unfold je at h⊢;split
  ·rename_i e;simp[e]
  rename_i e;rw[if_neg e]at h;simp only[VS,List.cons.injEq,true_and];exact ih h
theorem BI{c:UInt8}{s:ByteArray}(h:pz c s=true):s=(kS c s++⟨#[c]⟩)++iY c s:=by
 apply jr;have:=Nc c s.data.toList h;simpa[kS,iY,ByteArray.data_append] using this
theorem Hz{c:UInt8}{s:ByteArray}(h:pz c s=true):(iY c s).size<s.size:=by
 have:=congrArg ByteArray.size (BI h);have e1:(⟨#[c]⟩:ByteArray).size=1:=rfl;simp only[Vv,e1]at this;omega
theorem H6(l:bW)(k:Nat)(hk:k<=l.size):l=l.extract 0 k++l.extract k l.size:=by
 apply jr;rw[V8,ByteArray.data_extract,ByteArray.data_extract];have hk':k<=l.data.size:=hk;have h2:l.size=l.data.size:=rfl;rw[h2];simp;rw[show max k l.size=l.data.toList.length by simp[Nat.max_def];omega,Vs]
theorem toList_inj{a b:ByteArray}(h:a.toList=b.toList):a=b:=by
 rw[mZ,mZ]at h;exact jr h
theorem P9{l:ByteArray}(h:BH l=true):l=P8++l.extract 5 l.size:=by
 unfold BH at h;simp only[Vd,Vk,beq_iff_eq]at h;have e:=toList_inj h.2
 conv=>lhs;rw[H6 l 5 (by omega),e]
theorem Qa{l:ByteArray}(h:yM (iY 32 l)=true):l=((kS 32 l++⟨#[32,61,32]⟩)++Ed l):=by
 unfold yM at h;simp only[Vd,Vk,beq_iff_eq]at h;have hf:pz 32 l=true:=by
  cases e:pz 32 l;case true=>rfl
  rw[OT e]at h;exact absurd h.1 (by decide)
 have e:=toList_inj h.2;have e2:iY 32 l=UO++Ed l:=by
  conv=>lhs;rw[H6 (iY 32 l) 2 h.1,e]
  rfl
 have e3:(⟨#[32,61,32]⟩:ByteArray)=⟨#[32]⟩++UO:=by apply jr;simp[ByteArray.data_append,UO]
 conv=>lhs;rw[BI hf,e2]
 rw[e3];simp only[VW]
theorem BJ{s:ByteArray}(h:mW s=true):iq (kW s).out=s/\s.size<=1000/\aN (kW s).out=true:=by
 unfold mW at h;simp only[Vd,Vk,beq_iff_eq]at h;exact⟨toList_inj h.2,h.1.1.1.1,h.1.2⟩
theorem Nf{acc acc':Q0b}{l:ByteArray}(h:nJ acc l=some acc'):dB acc'=dB acc++(l++UQ):=by
 unfold nJ at h;split at h
 ·rename_i ht;injection h with h;subst h;rw[mY]
  conv=>rhs;rw[P9 ht]
  simp only[mX,dR,wL];rfl
 split at h
 ·rename_i h2;injection h with h;subst h;simp only[Vd,Bool.not_eq_true']at h2;obtain⟨⟨h3,h4⟩,h5⟩:=h2;have hne:acc≠[]:=fun e=>by rw[e]at h3;simp at h3
  have e1:=List.dropLast_concat_getLast hne;rw[<-e1,ru,mY,mY,rq]
  conv=>rhs;rw[Qa h4]
  have e2:=(BJ h5).1;simp only[Hy,e2,VW];rfl
 cases h
def Ti(T:Q0b):Prop:=∀t∈T,∀r∈t.rels,r.expr.length<=15/\∀e∈r.expr,e.light/\e.fits
theorem R4{acc acc':Q0b}{l:ByteArray}(h:nJ acc l=some acc')(hk:Ti acc):Ti acc':=by
 unfold nJ at h;split at h
 ·injection h with h;subst h;intro t ht r hr;rcases Vn.1 ht with ht|ht
  ·exact hk t ht r hr
  rw[Vl]at ht;subst ht;cases hr
 split at h
 ·rename_i h2;injection h with h;subst h;simp only[Vd,Bool.not_eq_true']at h2;obtain⟨⟨h3,h4⟩,h5⟩:=h2;have hne:acc≠[]:=fun e=>by rw[e]at h3;simp at h3
  have e1:=List.dropLast_concat_getLast hne;obtain⟨-,hs,hsp⟩:=BJ h5;intro t ht r hr;rw[<-e1,ru]at ht;rcases Vn.1 ht with ht|ht
  ·exact hk t (by rw[<-e1];exact VZ _ ht) r hr
  rw[Vl]at ht;subst ht;rcases Vn.1 hr with hr|hr
  ·exact hk (acc.getLast hne) (List.getLast_mem hne) r hr
  rw[Vl]at hr;subst hr;refine⟨(oo hsp).2,fun e he=>?_⟩;exact(P5 (s:=Ed l) _ true ⟨0,false,[]⟩ (Vf _) (fun e he=>by cases he) e he).light hs
 cases h
theorem yN:∀(rs:List Rl),rs.length*4<=(dR rs).size/\∀r∈rs,r.name.size+4<=(dR rs).size
 | []=>⟨by simp,fun r hr=>by cases hr⟩
 | r::rs=>by
  obtain⟨h1,h2⟩:=yN rs;have e1:(⟨#[32,61,32]⟩:ByteArray).size=3:=rfl;have e2:(⟨#[10]⟩:ByteArray).size=1:=rfl;have h3:(dR (r::rs)).size=r.name.size+3+(iq r.expr).size+1+(dR rs).size:=by simp only[dR,Hy,Vv,e1,e2]
  refine⟨by rw[h3,VI];omega,fun q hq=>?_⟩;rcases Vq.1 hq with rfl|hq
  ·omega
  have:=h2 q hq;omega
theorem BL:∀(T:Q0b),T.length*6<=(dB T).size/\∀t∈T,t.name.size+6+(dR t.rels).size<=(dB T).size
 | []=>⟨by simp,fun r hr=>by cases hr⟩
 | t::ts=>by
  obtain⟨h1,h2⟩:=BL ts;have h3:(dB (t::ts)).size=t.name.size+6+(dR t.rels).size+(dB ts).size:=by simp only[dB,Vv,yL]
  refine⟨by rw[h3,VI];omega,fun q hq=>?_⟩;rcases Vq.1 hq with rfl|hq
  ·omega
  have:=h2 q hq;omega
theorem rows_ok{rs:Q06}(hk:Ti (ag rs))(hz:(dB (ag rs)).size<=3000):rs.length<=500/\(∀r∈rs,r.rows.length<=750/\r.name.size<=3000/\∀q∈r.rows,q.name.size<=3000)/\(∀r∈rs,r.light)/\∀r∈rs,r.fits:=by
 obtain⟨h1,h2⟩:=BL (ag rs);rw[lN]at h1;have key:∀r∈rs,r.rows.length<=750/\r.name.size<=3000/\∀q∈r.rows,q.name.size<=3000:=fun r hr=>by
  have h3:=h2 r.p (Vo.2 ⟨r,hr,rfl⟩);obtain⟨h4,h5⟩:=yN (eT r.rows);rw[rQ]at h4;have h6:r.name.size+6+(dR (eT r.rows)).size<=(dB (ag rs)).size:=h3;refine⟨by omega,by omega,fun q hq=>?_⟩;have:=h5 q.p (Vo.2 ⟨q,hq,rfl⟩);have h7:q.name.size+4<=(dR (eT r.rows)).size:=this;omega
 have kex:∀r∈rs,∀q∈r.rows,q.rows.length<=15/\∀x∈q.rows,x.e.light/\x.e.fits:=fun r hr q hq=>by
  have:=hk r.p (Vo.2 ⟨r,hr,rfl⟩) q.p (Vo.2 ⟨q,hq,rfl⟩);exact⟨by rw[<-aR];exact this.1,fun x hx=>this.2 x.e (Vo.2 ⟨x,hx,rfl⟩)⟩
 refine⟨by omega,key,fun r hr=>⟨by have:=(key r hr).1;omega,fun q hq=>⟨by have:=(kex r hr q hq).1;omega,fun x hx=>((kex r hr q hq).2 x hx).1⟩⟩,fun r hr=>⟨by have:=(key r hr).2.1;unfold maxLen;omega,by have:=(key r hr).1;unfold maxLen;omega,fun q hq=>⟨by have:=(key r hr).2.2 q hq;unfold maxLen;omega,by have:=(kex r hr q hq).1;unfold maxLen;omega,fun x hx=>((kex r hr q hq).2 x hx).2⟩⟩⟩
theorem TQ(o n e:bW):(((o++n)++⟨#[32,61,32]⟩)++e)++⟨#[10]⟩=o++(((n++⟨#[32,61,32]⟩)++e)++⟨#[10]⟩):=by
 simp only[VW]
theorem Qb(o n:bW):((o++⟨#[116,121,112,101,32]⟩)++n)++⟨#[10]⟩=o++mX n:=by
 unfold mX;simp only[VW]
structure Small3(rs:Q06):Prop where
 six:rs.length<=500
 rels:∀r∈rs,r.rows.length<=750
 name:∀r∈rs,r.name.size<=3000
 names:∀r∈rs,∀q∈r.rows,q.name.size<=3000
set_option maxRecDepth 100000 in
theorem FH(ad:Q02)(cap:Nat)(rs:Q06)(w:af)(hm:Small3 rs)(hs:j5 w ad rs)(hl:∀r∈rs,r.light)(hf:∀r∈rs,r.fits):
  Calls prog 179 #[.slice ad rs.length cap] w fun e w'=>e=.returned (.string (dB (ag rs)))/\ae w w':=by
 have HS:=aD hs;have HL:=aD hl;have WE:=aD hf;have HM:=aD hm;have h6:=hm.six;clear hs hl hf hm;go_enter func179,ntmps179;go_wp2;go_loopw[3,4] (fun o i wr=>∃(k:Nat) (out:ByteArray),k<=rs.length/\o=.string out/\i=.int .i64 k/\Hid (out=dB (ag (rs.take k)))/\out.size<=k*5100000/\Hid (ae w wr)) (fun _ i _=>rs.length-(intOf i).toNat);case atStart=>exact⟨0,⟨#[]⟩,Vf _,rfl,rfl,rfl,Vf _,Vb _ _⟩
 case round =>
  obtain⟨k,out,hk,rfl,rfl,HP,hz,HB⟩:=hrel;obtain⟨wo,rfl⟩:∃x,x=wr:=⟨_,rfl⟩;by_cases hlt:k<rs.length
  ·rcases HS.out.below HB.out with rfl|⟨b,off,rfl,hb,hr,hok⟩
   ·simp at hlt
   obtain⟨t0,t1⟩:=hr k hlt;have X0:Hid (rs[k].ok wo):=hok rs[k] (U8 hlt);have hn12:=HM.out.name rs[k] (U8 hlt);have Yr:=HM.out.rels rs[k] (U8 hlt);have HN12:Hid (∀q∈rs[k].rows,q.name.size<=3000):=HM.out.names rs[k] (U8 hlt);have Zd:Hid (rs[k].light):=HL.out _ (U8 hlt);have Y5:Hid (rs[k].fits):=WE.out _ (U8 hlt);have hk1:=bC k;have hk2:(k:Int)<(rs.length:Int):=by omega
   have hrl:(rs[k].rows.length:Int)<=750:=by omega
   clear hr hok;go_wp2;go_loopw[3,5] (fun o i wr=>∃(j:Nat) (o2:ByteArray),j<=rs[k].rows.length/\o=.string o2/\i=.int .i64 j/\Hid (o2=(out++mX rs[k].name)++dR (eT (rs[k].rows.take j)))/\o2.size<=k*5100000+3010+j*6760/\Hid (ae wo wr)) (fun _ i _=>rs[k].rows.length-(intOf i).toNat);case atStart=>exact⟨0,_,Vf _,rfl,rfl,by show _=_;rw[Qb,List.take_zero,show eT []=[] from rfl];simp only[dR,wL],by rw[Qb,Vv,yL];omega,Vb _ _⟩
   case round =>
    obtain⟨j,o2,hj,rfl,rfl,HI,hz2,HB2⟩:=hrel;replace t0:=aJ HB2.out hb t0;replace t1:=aJ HB2.out hb t1;have hbw:b<wr.heap.size:=U9 hb HB2.out.size;by_cases hjl:j<rs[k].rows.length
    ·rcases X0.out.below HB2.out with hnil|⟨b2,WW,had,hb2,hr2,hok2⟩
     ·rw[hnil]at hjl;simp at hjl
     rw[had]at t1;obtain⟨u0,u1⟩:=hr2 j hjl;have HOQ:Hid (rs[k].rows[j].ok wr):=hok2 rs[k].rows[j] (U8 hjl);have hj1:=bC j;have hj2:(j:Int)<(rs[k].rows.length:Int):=by omega
     have hq12:=HN12.out _ (U8 hjl);have HQL:Hid (rs[k].rows[j].light):=Zd.out.2 _ (U8 hjl);have HQF:Hid (rs[k].rows[j].fits):=Y5.out.2.2 _ (U8 hjl);obtain⟨ex,hex⟩:∃ex,ex=iq (ak rs[k].rows[j].rows):=⟨_,rfl⟩;have HEX:Hid (ex=iq (ak rs[k].rows[j].rows)):=hex;have hxs:ex.size<=3750:=by rw[hex];exact FD _
     have q1:(9223372036854775807<o2.size+rs[k].rows[j].name.size)=False:=by simp;omega
     have q2:(9223372036854775807<o2.size+rs[k].rows[j].name.size+3)=False:=by simp;omega
     have q3:(9223372036854775807<o2.size+rs[k].rows[j].name.size+3+ex.size)=False:=by simp;omega
     have q4:(9223372036854775807<o2.size+rs[k].rows[j].name.size+3+ex.size+1)=False:=by simp;omega
     have HI2:Hid ((((o2++rs[k].rows[j].name)++⟨#[32,61,32]⟩)++ex)++⟨#[10]⟩=(out++mX rs[k].name)++dR (eT (rs[k].rows.take (j+1)))):=by
      show _=_;rw[TQ,Na _ _ hjl,rq,HI.out,hex];simp only[VW,Hy]
     have hz3:((((o2++rs[k].rows[j].name)++⟨#[32,61,32]⟩)++ex)++⟨#[10]⟩:ByteArray).size<=k*5100000+3010+(j+1)*6760:=by
      have e1:(⟨#[32,61,32]⟩:ByteArray).size=3:=rfl;have e2:(⟨#[10]⟩:ByteArray).size=1:=rfl;simp only[Vv];omega
     have HZ3:Hid (((((o2++rs[k].rows[j].name)++⟨#[32,61,32]⟩)++ex)++⟨#[10]⟩:ByteArray).size<=k*5100000+3010+(j+1)*6760):=hz3;clear hr2 hok2 had hex hz3;go_wp2_with fail;refine mo 24 (fun n=>(u31::u32::u33::u34::u35::u36::u37::u38::u39::u40::u41::u42::u43::u44::u45::u46::u47::u48::u49::u50::u51::u52::u53::u54::[]).getD n undef) (fun fq=>{ tmps:=List.toArray (Value.slice (some ⟨b,off,none⟩) rs.length cap::undef::.string { data:=#[] }::.string o2::.int .i64 k::.int .i64 j::.int .i64 k::.slice (some ⟨b,off,none⟩) rs.length cap::.int .i64 rs.length::.bool true::u10::u11::.string out::.string (out++{ data:=#[116,121,112,101,32] })::.slice (some ⟨b,off,none⟩) rs.length cap::.int .i64 k::.pointer (some ⟨b,off+k*2,none⟩)::.pointer (some ⟨b,off+k*2,none⟩)::.string rs[k].name::.string (out++{ data:=#[116,121,112,101,32] }++rs[k].name)::.string (out++{ data:=#[116,121,112,101,32] }++rs[k].name++{ data:=#[10] })::.int .i64 j::.slice (some ⟨b,off,none⟩) rs.length cap::.int .i64 k::.pointer (some ⟨b,off+k*2,none⟩)::.pointer (some ⟨b,off+k*2+1,none⟩)::.slice (some ⟨b2,WW,none⟩) rs[k].rows.length rs[k].cap::.int .i64 rs[k].rows.length::.bool true::u29::u30::fq 0::fq 1::fq 2::fq 3::fq 4::fq 5::fq 6::fq 7::fq 8::fq 9::fq 10::fq 11::fq 12::fq 13::fq 14::fq 15::fq 16::fq 17::fq 18::fq 19::fq 20::fq 21::fq 22::fq 23::undef::[]),defers:=[] }) (fun n v _=>v=(Value.string o2::.slice (some ⟨b,off,none⟩) rs.length cap::.int .i64 k::.pointer (some ⟨b,off+k*2,none⟩)::.pointer (some ⟨b,off+k*2+1,none⟩)::.slice (some ⟨b2,WW,none⟩) rs[k].rows.length rs[k].cap::.int .i64 j::.pointer (some ⟨b2,WW+j*2,none⟩)::.pointer (some ⟨b2,WW+j*2,none⟩)::.string rs[k].rows[j].name::.string (o2++rs[k].rows[j].name)::.string ((o2++rs[k].rows[j].name)++⟨#[32,61,32]⟩)::.slice (some ⟨b,off,none⟩) rs.length cap::.int .i64 k::.pointer (some ⟨b,off+k*2,none⟩)::.pointer (some ⟨b,off+k*2+1,none⟩)::.slice (some ⟨b2,WW,none⟩) rs[k].rows.length rs[k].cap::.int .i64 j::.pointer (some ⟨b2,WW+j*2,none⟩)::.pointer (some ⟨b2,WW+j*2+1,none⟩)::.slice rs[k].rows[j].ad rs[k].rows[j].rows.length rs[k].rows[j].cap::.string ex::.string (((o2++rs[k].rows[j].name)++⟨#[32,61,32]⟩)++ex)::.string ((((o2++rs[k].rows[j].name)++⟨#[32,61,32]⟩)++ex)++⟨#[10]⟩)::[]).getD n undef) (fun w'=>ae wr w') (by kernel_rfl) rfl (by kernel_rfl) (by kernel_rfl) rfl (Vb _ _).drew ?stepS ?finS;case stepS =>
      rintro i hi o ho fq w' hG hpre;have HG:Hid (ae wr w'):=hG;replace t1:=aJ hG hbw t1;replace u0:=aJ hG hb2 u0;replace u1:=aJ hG hb2 u1;have HM:Hid (∀e∈o.after,Region.binds .any e=true->_):=hpre;clear hG hpre;have hc:=Uz (i:=i) (by omega);clear hi
      repeat' rcases hc with rfl|hc
      iterate 21
       ·cases ho;have hm:=HM.out
        try simp[Region.binds]at hm
        refine aa rfl fun K HK=>?_;clear HM
        try simp only[hm]
        go_simp;exact HK.out _ _ ⟨_,by simp[upd, *],HG.out,rfl,fun k u hu=>hu⟩
      ·cases ho;have e20:fq 20=.slice rs[k].rows[j].ad rs[k].rows[j].rows.length rs[k].rows[j].cap:=HM.out ⟨20,.data⟩ (by simp) rfl;refine aa rfl fun K HK=>?_;clear HM;simp only[e20];go_simp;refine(oH _ _ rs[k].rows[j].rows _ HQL.out.1 HQL.out.2 HQF.out.2.2 (HOQ.out.below HG.out)).mono ?_;rintro e w5 ⟨rfl,hb5⟩;have HG5:=jF HG hb5;rw[<-HEX.out];clear hb5;go_wp2_with fail;exact HK.out _ _ ⟨Value.string ex,by simp[upd,e20],HG5.out,rfl,fun k u hu=>hu⟩
      iterate 2
       ·cases ho;have hm:=HM.out
        try simp[Region.binds]at hm
        refine aa rfl fun K HK=>?_;clear HM
        try simp only[hm]
        go_simp;exact HK.out _ _ ⟨_,by simp[upd, *],HG.out,rfl,fun k u hu=>hu⟩
     case finS =>
      rintro o ho fq w' hG hall;have e23:fq 23=.string ((((o2++rs[k].rows[j].name)++⟨#[32,61,32]⟩)++ex)++⟨#[10]⟩):=hall 23 (by omega);have HG:Hid (ae wr w'):=hG;clear hG hall;obtain rfl:=Option.some.inj ho;clear ho;refine wpOp_step rfl (fun K hK=>?_);have HK:Hid (∀a w,_->K a w):=hK;clear hK;simp only[e23];go_simp;refine HK.out _ _ ?_;clear HK;have HB3:Hid (ae wo w'):=HB2.out.trans (HG.out.mono HB2.out.size);go_wp2;go_roundw;case rel=>exact⟨j+1,_,by omega,rfl,by go_num,HI2,HZ3.out,HB3⟩
      case measure=>simp[intOf]<;>omega
    ·obtain rfl:j=rs[k].rows.length:=by omega
     have WB:Hid (o2=dB (ag (rs.take (k+1)))):=by
      show _=_;rw[HI.out,Nb _ _ hlt,mY,HP.out,Vs,VW]
     have YH:o2.size<=(k+1)*5100000:=by omega
     have HB3:Hid (ae w wr):=HB.out.trans (HB2.out.mono HB.out.size);go_wp2;go_roundw;case rel=>exact⟨k+1,o2,by omega,rfl,by go_num,WB,YH,HB3⟩
     case measure=>simp[intOf]<;>omega
  ·obtain rfl:k=rs.length:=by omega
   have HN:Hid (out=dB (ag rs)):=by show _=_;rw[HP.out,Vs]
   go_wp2;go_ret;exact⟨by rw[HN.out];rfl,HB.out⟩
def lastT:ByteArray:=⟨#[116,121,112,101,32,100,111,99,10,118,105,101,119,101,114,32,61,32,116,104,105,115,40,117,115,101,114,41,10,116,121,112,101,32,117,115,101,114,10]⟩
def H7:List Ty:=[⟨⟨#[100,111,99]⟩,[⟨⟨#[118,105,101,119,101,114]⟩,[⟨1,[⟨⟨#[117,115,101,114]⟩,⟨#[]⟩⟩],⟨#[]⟩,⟨#[]⟩,[]⟩]⟩]⟩,⟨⟨#[117,115,101,114]⟩,[]⟩]
theorem J8:dS (lastT.size+1) lastT []=some H7:=by kernel_rfl
theorem J9:aK H7=true:=by
 refine aW.2 ⟨by kernel_rfl,by kernel_rfl,fun _=>0,⟨fun _=>Int.le_refl _,fun k hk d hd=>?_⟩⟩;have h:((au H7).all fun k=>(iG H7 k).isEmpty)=true:=by kernel_rfl
 have h2:=Vm.1 h k hk;rw[List.isEmpty_iff.1 h2]at hd;cases hd
def Pre(t:ByteArray):Prop:=∃x y z c tl,t.data.toList=116::121::112::101::32::x::y::z::10::c::tl/\x≠10/\y≠10/\z≠10/\c≠116
theorem Pre.app{t:ByteArray}(h:Pre t)(u:bW):Pre (t++u):=by
 obtain⟨x,y,z,c,tl,e,h1⟩:=h;exact⟨x,y,z,c,tl++u.data.toList,by rw[V8,Array.toList_append,e];rfl,h1⟩
theorem Qc{n:ByteArray}(h:aU n=true):∀b∈n.data.toList,b≠10:=by
 intro b hb e;unfold aU dP sO at h;simp only[Vd]at h;have:=Vm.1 h.1.2 b hb;rw[e]at this
 revert this
 decide
theorem Ng{rs:Q06}(hd:aK (ag rs)=true)(h:Pre (dB (ag rs))):∃t ts q qs x xs,rs=t::ts/\t.rows=q::qs/\q.rows=x::xs:=by
 have hS:=aW.1 hd;obtain⟨x,y,z,c,tl,e,hx,hy,hz,hc⟩:=h;cases rs with
 | nil=>simp[ag,dB]at e
 | cons t ts =>
  have hn:=Qc (l6 hS.1 0 (by simp)).1;simp only[List.getElem_cons_zero]at hn;have e2:(116::121::112::101::32::(t.name.data.toList++10::((dR (eT t.rows)).data.toList++(dB (ag ts)).data.toList)))=116::121::112::101::32::x::y::z::10::c::tl:=by
   rw[<-e];show _=(dB (⟨t.name,eT t.rows⟩::ag ts)).data.toList;simp[dB,mX,ByteArray.data_append]
  simp only[List.cons.injEq,true_and]at e2;have key:(dR (eT t.rows)).data.toList++(dB (ag ts)).data.toList=c::tl:=by
   generalize (dR (eT t.rows)).data.toList++(dB (ag ts)).data.toList=rest at e2;generalize t.name.data.toList=nm at e2 hn
   match nm,e2,hn with
   | [],e2,_=>simp at e2;exact absurd e2.1.symm hx
   | [a],e2,_=>simp at e2;exact absurd e2.2.1.symm hy
   | [a,b],e2,_=>simp at e2;exact absurd e2.2.2.1.symm hz
   | [a,b,d],e2,_=>simp at e2;exact e2.2.2.2
   | a::b::d::f::nm,e2,hn=>simp at e2;exact absurd e2.2.2.2.1 (hn f (by simp))
  cases hr:t.rows with
  | nil =>
   rw[hr]at key;cases ts with
   | nil=>simp[eT,dR,ag,dB]at key
   | cons u us =>
    have:(dB (ag (u::us))).data.toList.head?=some 116:=by
     show(dB (⟨u.name,eT u.rows⟩::ag us)).data.toList.head?=_;simp[dB,mX,ByteArray.data_append]
    simp only[eT,List.map_nil,dR]at key;rw[show((⟨#[]⟩:ByteArray).data.toList++(dB (ag (u::us))).data.toList)=(dB (ag (u::us))).data.toList from rfl]at key;rw[key]at this;simp at this;exact absurd this hc
  | cons q qs =>
   obtain⟨h1,-⟩:=(bG hS.1).2.2 t (by simp) q (by rw[hr];simp);have h2:=(oo h1).1;rw[aR]at h2;cases hq:q.rows with
   | nil=>rw[hq]at h2;simp at h2
   | cons x xs=>exact⟨t,ts,q,qs,x,xs,rfl,hr,hq⟩
set_option linter.unusedVariables false
structure KpO(b l:Nat)(W W':World):Prop where
 size:W.heap.size<=W'.heap.size
 cells:∀(g:Nat) (cs:Array Value) (T:TypeId) (m:Nat×Nat),W.heap[g]?=some (.cells cs T m)->T≠29->T≠40->W'.heap[g]?=some (.cells cs T m)
 other:∀(g:Nat) (o:Obj),W.heap[g]?=some o->o.isCells=false->g≠l->g≠b->W'.heap[g]?=some o
structure KpI(W W':World):Prop where
 size:W.heap.size<=W'.heap.size
 cells:∀(g:Nat) (cs:Array Value) (T:TypeId) (m:Nat×Nat),W.heap[g]?=some (.cells cs T m)->T=27\/T=147->W'.heap[g]?=some (.cells cs T m)
theorem KpO.trans{b l:Nat}{X Y Z:af}(h:KpO b l X Y)(k:KpO b l Y Z):KpO b l X Z :=
 ⟨Vj h.size k.size,fun g cs T m hg h1 h2=>k.cells g cs T m (h.cells g cs T m hg h1 h2) h1 h2,fun g o hg hc h1 h2=>k.other g o (h.other g o hg hc h1 h2) hc h1 h2⟩
theorem KpI.trans{X Y Z:af}(h:KpI X Y)(k:KpI Y Z):KpI X Z :=
 ⟨Vj h.size k.size,fun g cs T m hg h1=>k.cells g cs T m (h.cells g cs T m hg h1) h1⟩
theorem oI{W:af}{l g:Nat}{o':Obj}(h:g≠l):(W.putObj l o').heap[g]?=W.heap[g]?:=World.putObj_heap_other h
theorem KpO.put{b l:Nat}{W:af}{o o':Obj}(h:W.heap[l]?=some o)(hc:o.isCells=false):KpO b l W (W.putObj l o') where
 size:=by simp
 cells g cs T m hg _ _:=by
  have:g≠l:=fun e=>by subst e;rw[h]at hg;injection hg with hg;subst hg;cases hc
  rw[oI this];exact hg
 other g x hg _ h1 _:=by rw[oI h1];exact hg
theorem KpI.put{l:Nat}{W:af}{o o':Obj}(h:W.heap[l]?=some o)(hc:o.isCells=false):KpI W (W.putObj l o') where
 size:=by simp
 cells g cs T m hg _:=by
  have:g≠l:=fun e=>by subst e;rw[h]at hg;injection hg with hg;subst hg;cases hc
  rw[oI this];exact hg
theorem KpO.below{b l:Nat}{W W':af}(h:ae W W'):KpO b l W W' :=
 ⟨h.size,fun g cs T m hg _ _=>(h.block g (Vi.1 hg).1).trans hg,fun g o hg _ _ _=>(h.block g (Vi.1 hg).1).trans hg⟩
theorem KpI.below{W W':af}(h:ae W W'):KpI W W' :=
 ⟨h.size,fun g cs T m hg _=>(h.block g (Vi.1 hg).1).trans hg⟩
theorem KpO.toI{b l:Nat}{W W':af}(h:KpO b l W W'):KpI W W' :=
 ⟨h.size,fun g cs T m hg hT=>h.cells g cs T m hg (by rcases hT with e|e<;>(rw[e];decide)) (by rcases hT with e|e<;>(rw[e];decide))⟩
theorem BM{W W':af}(h:ae W W'):W.grownBy W' none:=⟨h.os,h.tape,h.output,h.size,fun k hk _=>h.block k hk⟩
theorem nM{β:Type}{B:Nat}{I:β->World->Prop}(h:OwnFrom B I){s:β}{W W':af}(hs:I s W)(hb:ae W W'):I s W':=h s W W' none hs (BM hb) (fun r e=>by cases e)
open Maps
def av(fs:Q04):List Value:=fs.flatMap Fc.row
theorem jB:∀fs:List Fc,(av fs).length=fs.length*5
 | []=>rfl
 | f::fs=>by have:=jB fs;simp only[av,VJ,Vh,VI,Fc.row,Wj]at this ⊢;omega
theorem kC(fs:Q04)(f:Fc):av (fs++[f])=av fs++f.row:=by simp[av]
theorem ry:∀(fs:Q04) (i:Nat) (h:i<fs.length) (c:Nat),c<5->(av fs)[i*5+c]?=fs[i].row[c]?
 | [],i,h,_,_=>by simp at h
 | f::fs,0,_,c,hc=>by
  simp only[av,VJ,Nat.zero_mul,VC,List.getElem_cons_zero];rw[V9 (by simp[Fc.row];omega)]
 | f::fs,i+1,h,c,hc=>by
  have ih:=ry fs i (by simpa using h) c hc;simp only[av,VJ,List.getElem_cons_succ]at ih ⊢;rw[V7 (by simp[Fc.row];omega)];have:(i+1)*5+c-f.row.length=i*5+c:=by simp[Fc.row];omega
  rw[this];exact ih
theorem gI{w:af}{base:Nat}{v:Value}{fs:Q04}(h:w.ownsRow base 29 5 v fs.length (av fs)):∃ad cap,v=.slice ad fs.length cap/\kw w ad fs:=by
 rcases h.2 with⟨rfl,h0⟩|⟨g,cap,cur,rfl,hbg,hg,hnc,-⟩
 ·exact⟨none,0,by rw[h0],.inl (Vr.1 h0)⟩
 refine⟨_,cap,rfl,.inr ⟨g,0,rfl,(h.lt g rfl).2,fun i hi=>?_⟩⟩;have hl:=jB fs;have hc:∀c,c<5->w.cell? ⟨g,0+i*5+c,none⟩=fs[i].row[c]?:=fun c hc=>by
  rw[h.cellAt (0+i*5+c) (by omega),VC];exact ry fs i hi c hc
 exact⟨hc 0 (by omega),hc 1 (by omega),hc 2 (by omega),hc 3 (by omega),hc 4 (by omega)⟩
theorem pQ:∃i,prog.info? 29=some i/\i.zero=some (.agg #[.string ⟨#[]⟩,.string ⟨#[]⟩,.string ⟨#[]⟩,.string ⟨#[]⟩,.string ⟨#[]⟩])/\i.size=5/\i.bytes=80 :=
 info_parts (P:=prog) (e:=29) (z:=.agg #[.string ⟨#[]⟩,.string ⟨#[]⟩,.string ⟨#[]⟩,.string ⟨#[]⟩,.string ⟨#[]⟩]) (size:=5) (bytes:=80) (by kernel_rfl)
theorem wM(w:af)(f:Fc):∀j u,f.row[j]?=some u->(w.alloc (.cells #[.string f.a,.string f.b,.string f.r,.string f.c,.string f.d] 29)).cell? ((⟨w.heap.size,0,none⟩:Addr).add j)=some u:=fun j u hu=>by
 match j,hu with
 | 0,hu=>simp[Fc.row]at hu;subst hu;simp[Addr.add]
 | 1,hu=>simp[Fc.row]at hu;subst hu;simp[Addr.add]
 | 2,hu=>simp[Fc.row]at hu;subst hu;simp[Addr.add]
 | 3,hu=>simp[Fc.row]at hu;subst hu;simp[Addr.add]
 | 4,hu=>simp[Fc.row]at hu;subst hu;simp[Addr.add]
structure OutI(w W wr:World)(v:Value)(out:Q04):Prop where
 row:wr.ownsRow w.heap.size 29 5 v out.length (av out)
 keep:∀g o x,W.cell? ⟨g,o,none⟩=some x->wr.cell? ⟨g,o,none⟩=some x
 size:W.heap.size<=wr.heap.size
 bel:ae w wr
 free:∀g,v.ownBlock=some g->∀o,W.cell? ⟨g,o,none⟩=none
theorem aC{w:af}{g o:Nat}{x:Value}(h:w.cell? ⟨g,o,none⟩=some x):g<w.heap.size:=by
 unfold World.cell? at h;cases ho:w.heap[g]? with
 | none=>simp[ho]at h
 | some o=>exact(Vi.1 ho).1
theorem R5{w:af}{g o:Nat}(h:w.heap.size<=g):w.cell? ⟨g,o,none⟩=none:=by
 cases e:w.cell? ⟨g,o,none⟩ with
 | none=>rfl
 | some x=>have:=aC e;omega
theorem OutI.below{w W wr w':af}{v:Value}{out:Q04}(h:OutI w W wr v out)(hb:ae wr w'):OutI w W w' v out where
 row:=bu h.row hb
 keep g o x hx:=(hb.cell (p:=⟨g,o,none⟩) (aC (h.keep g o x hx))).trans (h.keep g o x hx)
 size:=Vj h.size hb.size
 bel:=h.bel.trans (hb.mono h.bel.size)
 free:=h.free
theorem OutI.app{w W wr w':af}{v v':Value}{out:Q04}{f:Fc}(h:OutI w W wr v out)(hown:w'.ownsRow w.heap.size 29 5 v' (out.length+1) (av out++f.row))(hgr:wr.grownBy w' v.ownBlock)(hat:v'.ownBlock=v.ownBlock\/v'.ownBlock=some wr.heap.size):OutI w W w' v' (out++[f]) where
 row:=by rw[kC,Vh];exact hown
 keep g o x hx:=by
  have h1:=h.keep g o x hx;refine(Vx (w:=wr) (a:=⟨g,o,none⟩) (hgr.block g (aC h1) fun e=>?_)).trans h1;rw[h.free g e.symm o]at hx;cases hx
 size:=Vj h.size hgr.size
 bel:=h.bel.grown hgr h.bel.size (fun g hg=>(h.row.lt g hg).1)
 free g hg o:=by
  rcases hat with e|e
  ·rw[e]at hg;exact h.free g hg o
  rw[hg]at e;injection e with e;rw[e];exact R5 h.size
theorem lK.keepC{w w':af}{ad:Q02}{xs:Q0a}(h:lK w ad xs)(hs:w.heap.size<=w'.heap.size)(hk:∀g o x,w.cell? ⟨g,o,none⟩=some x->w'.cell? ⟨g,o,none⟩=some x):lK w' ad xs:=by
 rcases h with h|⟨b,off,e,hb,hr⟩
 ·exact .inl h
 exact .inr ⟨b,off,e,U9 hb hs,fun i hi=>⟨hk _ _ _ (hr i hi).1,hk _ _ _ (hr i hi).2⟩⟩
theorem I6.keepC{w w':af}{ad:Q02}{xs:List St}(h:I6 w ad xs)(hs:w.heap.size<=w'.heap.size)(hk:∀g o x,w.cell? ⟨g,o,none⟩=some x->w'.cell? ⟨g,o,none⟩=some x):I6 w' ad xs:=by
 rcases h with h|⟨b,off,e,hb,hr⟩
 ·exact .inl h
 exact .inr ⟨b,off,e,U9 hb hs,fun i hi=>⟨hk _ _ _ (hr i hi).1,hk _ _ _ (hr i hi).2.1,hk _ _ _ (hr i hi).2.2⟩⟩
theorem I6.at0{w:af}{ad:Q02}{xs:List St}(h:I6 w ad xs){k:Nat}(hk:k<xs.length):∃b off,ad=some ⟨b,off,none⟩/\Ur w b (off+k*3) xs[k]/\b<w.heap.size:=by
 rcases h with h|⟨b',off',e,hb,hr⟩
 ·rw[h]at hk;simp at hk
 exact⟨b',off',e,hr k hk,hb⟩
def TS:Value->Nat
 | .slice _ n _=>n
 | _=>0
def U2:Value->Nat
 | .bool true=>1
 | _=>0
end Go.Proofs.YtajkkeikihhejaaGreat
