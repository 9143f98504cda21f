/- Contract of the document's reader: an item that is a name, or a name over another one. -/
import Derived.Test.YtajkkeikihhejaaGreatSq
import Derived.Test.YtajkkeikihhejaaGreatJ6
import Derived.Test.YtajkkeikihhejaaGreatJ14
import Derived.Test.YtajkkeikihhejaaGreatJ17
open Go.Proofs.Tryz
set_option maxHeartbeats 80000000
namespace Go.Proofs.YtajkkeikihhejaaGreat
set_option maxRecDepth 100000
open ChangeShapes WideShapes ChangeAt RowKit
open Pl
theorem Onl.at_new{R:Nat}{v:Value}{w w':af}(h:Onl R v w w'){X:Nat}(hX:w.heap.size<=X)(o:Nat)(u:Value):Onl R v w (w'.setCell ⟨X,o,none⟩ u) :=
 ⟨h.os,h.tape,h.output,by simpa using h.size,fun k hk h1 h2=>(Below.heap_setCell w' _ _ k (by show k≠X;omega)).trans (h.block k hk h1 h2)⟩
theorem RdC.other{w:af}{R:Nat}{s:ByteArray}{p:Nat}{bad:Bool}{v:Value}(h:RdC w R s p bad v){X:Nat}(hX:X≠R)(o:Nat)(u:Value):RdC (w.setCell ⟨X,o,none⟩ u) R s p bad v :=
 ⟨by simpa using h.lt,by rw[Vh (w:=w) (Below.heap_setCell w _ _ R (Ne.symm hX))];exact h.c0,by rw[Vh (w:=w) (Below.heap_setCell w _ _ R (Ne.symm hX))];exact h.c1,by rw[Vh (w:=w) (Below.heap_setCell w _ _ R (Ne.symm hX))];exact h.c2,by rw[Vh (w:=w) (Below.heap_setCell w _ _ R (Ne.symm hX))];exact h.c3,fun j=>by simpa using h.fr j⟩
theorem RdC.below{w w':af}{R:Nat}{s:ByteArray}{p:Nat}{bad:Bool}{v:Value}(h:RdC w R s p bad v)(hb:ae w w'):RdC w' R s p bad v :=
 h.grown (row:=none) ⟨hb.os,hb.tape,hb.output,hb.size,fun k hk _=>hb.block k hk⟩ (by simp)
theorem yM.below{w w':af}{g:Nat}{q:ER}(h:yM w g q)(hb:ae w w'):yM w' g q :=
 h.grown (row:=none) ⟨hb.os,hb.tape,hb.output,hb.size,fun k hk _=>hb.block k hk⟩ (by simp)
def bare(k:Int)(o n:ByteArray):ER:=⟨⟨k,[],o,n,[]⟩,none,0,none,0⟩
theorem kz(k:Int)(o n:bQ)(g:Nat):¬p9 (bare k o n) g:=by
 rintro(⟨h,-⟩|⟨h,-⟩)<;>exact h rfl
theorem vZ(k:Int)(o n:bQ)(X:Nat)(w:af):NewQ X w (bare k o n) :=
 ⟨fun h=>absurd rfl h,fun h=>absurd rfl h,⟨.inl rfl,.inl rfl⟩,fun g h=>absurd h (kz k o n g),fun g h=>absurd (Or.inl h) (kz k o n g),UU _⟩
theorem Pm(w:af)(k:Int)(o n:bQ):yM (w.alloc (.cells #[.int .i64 k,.slice none 0 0,.string o,.string n,.slice none 0 0] 39)) w.heap.size (bare k o n):=by
 refine⟨?_,?_,?_,?_,?_,?_⟩<;>simp[bare]
theorem Pn{w:af}{X:Nat}{a0 a1 a2 a3 a4:Value}(h0:w.cell? ⟨X,0,none⟩=some a0)(h1:w.cell? ⟨X,1,none⟩=some a1)(h2:w.cell? ⟨X,2,none⟩=some a2)(h3:w.cell? ⟨X,3,none⟩=some a3)(h4:w.cell? ⟨X,4,none⟩=some a4)(hl:X<w.heap.size)(k:Int)(o n:bQ):
  yM (((((w.setCell ⟨X,0,none⟩ (.int .i64 k)).setCell ⟨X,1,none⟩ (.slice none 0 0)).setCell ⟨X,2,none⟩ (.string o)).setCell ⟨X,3,none⟩ (.string n)).setCell ⟨X,4,none⟩ (.slice none 0 0)) X (bare k o n):=by
 refine⟨?_,?_,?_,?_,?_,by simpa using hl⟩
 ·rw[mO (by omega),mO (by omega),mO (by omega),mO (by omega)];exact mS h0
 ·rw[mO (by omega),mO (by omega),mO (by omega)];exact mS (by rw[mO (by omega)];exact h1)
 ·rw[mO (by omega),mO (by omega)];exact mS (by rw[mO (by omega),mO (by omega)];exact h2)
 ·rw[mO (by omega)];exact mS (by rw[mO (by omega),mO (by omega),mO (by omega)];exact h3)
 exact mS (by rw[mO (by omega),mO (by omega),mO (by omega),mO (by omega)];exact h4)
def VB(l:Q03)(R:Nat)(s:ByteArray)(p:Nat)(bad:Bool)(v:Value)(k:Nat)(u:Value)(w':World):Prop:=u=l.getD k undef/\(k=3->RdC w' R s p bad v)
structure GB(R:Nat)(s:ByteArray)(p:Nat)(bad:Bool)(v:Value)(X:Nat)(q:ER)(w:World)(listed:Array Bool)(w':World):Prop where
 rd:listed.getD 3 false=false->RdC w' R s p bad v
 box:yM w' X q
 onl:Onl R nO w w'
 fr:jX w' X
theorem GB.step{R:Nat}{s:ByteArray}{p:Nat}{bad:Bool}{v:Value}{X:Nat}{q:ER}{w w':af}{listed:Array Bool}(h:GB R s p bad v X q w listed w'){i:Nat}(hls:listed.size=6)(h3:i≠3):GB R s p bad v X q w (listed.setIfInBounds i true) w' :=
 ⟨fun k=>h.rd (by
  by_cases hi:i<6
  ·rw[aU _ _ _ (by omega),if_neg (Ne.symm h3)]at k;exact k
  rw[show listed.setIfInBounds i true=listed by rw[Array.setIfInBounds_eq_of_size_le (by omega)]]at k;exact k),h.box,h.onl,h.fr⟩
theorem GB.called{R:Nat}{s:ByteArray}{p:Nat}{bad:Bool}{v:Value}{X:Nat}{q:ER}{w w' w'':af}{listed:Array Bool}(h:GB R s p bad v X q w listed w')(hls:listed.size=6)(hg:w'.grownBy w'' (some R))(hX:X≠R):GB R s p bad v X q w (listed.setIfInBounds 3 true) w'' :=
 ⟨fun k=>(by rw[aU _ _ _ (by omega),if_pos rfl]at k;cases k),h.box.grown hg (by intro e;injection e with e;exact hX e),h.onl.trans0 (Onl.of_grown hg),dx h.fr (hg.block X h.box.2.2.2.2.2 (by intro e;injection e with e;exact hX e))⟩
theorem Po{s:ByteArray}{st:RS}(h:mX s oI (st.p+av s st.p) st.bad=false):fB s st=⟨2,[],⟨#[]⟩,az s st.p,[]⟩/\aI s st=⟨st.p+av s st.p,st.bad,st.out⟩:=by
 have e:lG s oI (bI s st)=false:=h;exact⟨by unfold fB;rw[e];rfl,by unfold aI;rw[e];rfl⟩
theorem Mw{s:ByteArray}{st:RS}(h:mX s oI (st.p+av s st.p) st.bad=true):fB s st=⟨3,[],az s st.p,az s (st.p+av s st.p+2),[]⟩/\aI s st=⟨st.p+av s st.p+2+av s (st.p+av s st.p+2),st.bad,st.out⟩:=by
 have e:lG s oI (bI s st)=true:=h;exact⟨by unfold fB;rw[e];rfl,by unfold aI;rw[e];rfl⟩
theorem Mx(R:Nat)(s:bQ)(st:RS)(base:Nat)(v:Value)(qs:Q08)(w:af)(h:RdF w R s st base v qs)(hR:R<base)(hB:base<=w.heap.size)(hs:s.size<=1000)(hp:st.p<=s.size)(hn:qs.length<=100000)
  (h0:mX s fZ st.p st.bad=false) (h1:mX s jG st.p st.bad=false) :
  Calls prog 234 #[.pointer (some ⟨R,0,none⟩)] w (uX R s base v qs w ((st.out.length:Int),sF (fB s st) (judged (fB s st) (aI s st)))):=by
 have H:=ai h;have HP:=ai hp;clear h hp;go_enter func234,ntmps234;go_wp2_with fail;refine(l7 R s fZ st.p st.bad v w H.out.rd hs HP.out (by decide)).mono ?_;rintro e w1 ⟨rfl,hr1,hg1⟩;have Xk:=ai (H.out.is_no hR h0 hr1 hg1);have Wp:=ai (Onl.of_grown hg1);rw[h0];clear hr1 hg1 h0;go_wp2_with fail;refine(l7 R s jG st.p st.bad v w1 Xk.out.rd hs HP.out (by decide)).mono ?_;rintro e w2 ⟨rfl,hr2,hg2⟩;have XK:=ai (Xk.out.is_no hR h1 hr2 hg2);have V7:=ai (Wp.out.trans0 (Onl.of_grown hg2));rw[h1];clear hr2 hg2 h1 Xk Wp;go_wp2_with fail;refine(uW R s st.p st.bad v w2 XK.out.rd hs HP.out).mono ?_;rintro e w3 ⟨rfl,hr3,hg3⟩;have HF3:=ai (XK.out.over hR (Onl.of_grown hg3) hr3);have Ww:=ai (V7.out.trans0 (Onl.of_grown hg3));have HP3:=ai (kF s st.p HP.out);have Zi:=ai (zG s st.p HP.out);clear hr3 hg3 XK V7;obtain⟨W4,WE⟩:∃W4,W4=w3.alloc (.cells #[.int .i64 2,.slice none 0 0,.string ⟨#[]⟩,.string (az s st.p),.slice none 0 0] 39):=⟨_,rfl⟩;have HV4:Hid (yM W4 w3.heap.size (bare 2 ⟨#[]⟩ (az s st.p))):=by rw[WE];exact Pm w3 2 ⟨#[]⟩ (az s st.p)
 have HO4a:Hid (Onl R nO w3 W4):=by rw[WE];exact Onl.of_below ((UV _ _).alloc (UU _) _)
 have Yh:Hid (RdF W4 R s ⟨st.p+av s st.p,st.bad,st.out⟩ base v qs):=HF3.out.over hR HO4a.out (by rw[WE];exact HF3.out.rd.below ((UV _ _).alloc (UU _) _));have Wo:=ai (Ww.out.trans0 HO4a.out);have HFR4:Hid (jX W4 w3.heap.size):=fun y=>by rw[WE];simp
 have HXR:Hid (w3.heap.size≠R):=by have:=HF3.out.rd.lt;show _≠_;omega
 have HX0:Hid (w.heap.size<=w3.heap.size):=Ww.out.size;have HX3:Hid (w3.heap.size<=w3.heap.size):=UU _;go_wp2_with fail;rw[<-WE];clear WE;obtain⟨X,hX⟩:∃X,X=w3.heap.size:=⟨_,rfl⟩;rw[<-hX]at HV4 HFR4 HXR HX0;replace HX3:Hid (w3.heap.size<=X):=Nat.le_of_eq hX.symm;rw[<-hX];clear hX;refine(l7 R s oI (st.p+av s st.p) st.bad v W4 Yh.out.rd hs HP3.out (by decide)).mono ?_;rintro e w5 ⟨rfl,hr5,hg5⟩;have HV5:=ai (HV4.out.grown hg5 (by intro e;injection e with e;exact HXR.out e));have HFR5:=ai (dx HFR4.out (hg5.block X HV4.out.2.2.2.2.2 (by intro e;injection e with e;exact HXR.out e)));have Wm:=ai (Wo.out.trans0 (Onl.of_grown hg5));have HO35:=ai (HO4a.out.trans0 (Onl.of_grown hg5));cases hc:mX s oI (st.p+av s st.p) st.bad;case false=>
  have HF5:=ai (Yh.out.is_no hR hc hr5 hg5);have EQ:=ai (Po hc);clear hr5 hg5 hc Yh Wo HV4 HFR4;obtain⟨x0,x1,x2,x3,x4,xl⟩:=HV5.out;replace x0:w5.cell? ⟨X,0,none⟩=some (.int .i64 2):=x0;replace x1:w5.cell? ⟨X,1,none⟩=some (.slice none 0 0):=x1;replace x2:w5.cell? ⟨X,2,none⟩=some (.string ⟨#[]⟩):=x2;replace x3:w5.cell? ⟨X,3,none⟩=some (.string (az s st.p)):=x3;replace x4:w5.cell? ⟨X,4,none⟩=some (.slice none 0 0):=x4;go_wp2_with fail;refine(l8 (bare 2 ⟨#[]⟩ (az s st.p)) w5 ⟨fun a ha=>(by cases ha),UY _,by show(az s st.p).size<=maxLen;rw[Zi.out];have:=HP3.out;unfold maxLen;omega,UY _,UY _⟩ (by show(2:Int)≠1;decide)).mono ?_;rintro e w6 ⟨rfl,ZP⟩;have WY:=ai (Wm.out.trans0 (Onl.of_below ZP));have Zp:=ai (HF5.out.over hR (Onl.of_below ZP) (HF5.out.rd.below ZP));obtain⟨y0,y1,y2,y3,y4,yl⟩:=HV5.out.below ZP;replace y0:w6.cell? ⟨X,0,none⟩=some (.int .i64 2):=y0;replace y1:w6.cell? ⟨X,1,none⟩=some (.slice none 0 0):=y1;replace y2:w6.cell? ⟨X,2,none⟩=some (.string ⟨#[]⟩):=y2;replace y3:w6.cell? ⟨X,3,none⟩=some (.string (az s st.p)):=y3;replace y4:w6.cell? ⟨X,4,none⟩=some (.slice none 0 0):=y4;clear x0 x1 x2 x3 x4 xl ZP HV5 HF5 Wm;cases hb:ax (bare 2 ⟨#[]⟩ (az s st.p)).e;case true=>
   have HE:Hid (fB s st=(bare 2 ⟨#[]⟩ (az s st.p)).e/\judged (fB s st) (aI s st)=(⟨st.p+av s st.p,st.bad,st.out⟩:RS)):=by
    refine⟨EQ.out.1,?_⟩;rw[EQ.out.1,EQ.out.2];exact if_pos hb
   clear hb;go_wp2_with fail;refine(LM R s ((⟨st.p+av s st.p,st.bad,st.out⟩:RS)) base v qs (bare 2 ⟨#[]⟩ (az s st.p)) w6 Zp.out hR (U0 hB WY.out.size) hn (vZ _ _ _ _ _) (.inl ⟨rfl,rfl,rfl⟩) (fun g hg=>absurd hg (kz _ _ _ g))).mono ?_;rintro e w7 ⟨v7,rfl,hF7,XX⟩;have HF7:=ai hF7;have HW7:=ai ((WY.out.any v).trans XX);clear hF7 XX;go_wp2;exact bodyPost_ret (v:=.int .i64 (st.out.length:Int)) (by simp[results,Tryz.results234,go_sem]) rfl (by rw[HE.out.1,<-HE.out.1,HE.out.2,HE.out.1];exact⟨v7,[bare 2 ⟨#[]⟩ (az s st.p)],rfl,HF7.out,HW7.out,fun q hq g hg=>by rw[U4]at hq;subst hq;exact absurd hg (kz _ _ _ g)⟩)
  have HE:Hid (fB s st=(bare 2 ⟨#[]⟩ (az s st.p)).e/\judged (fB s st) (aI s st)=uQ ((⟨st.p+av s st.p,st.bad,st.out⟩:RS))):=by
   refine⟨EQ.out.1,?_⟩;rw[EQ.out.1,EQ.out.2];exact if_neg (fun e=>by have:=e.symm.trans hb;cases this)
  clear hb;have c2:=Zp.out.rd.c2;have f2:=Zp.out.rd.fr 2;have hl:=Zp.out.rd.lt;have hxr:=HXR.out;have hrx:=Ne.symm HXR.out;have Yf:Hid (Onl R nO w (w6.setCell ⟨R,2,none⟩ (.bool true))):=WY.out.at_own _ _;have HF7:Hid (RdF (w6.setCell ⟨R,2,none⟩ (.bool true)) R s (uQ ((⟨st.p+av s st.p,st.bad,st.out⟩:RS))) base v qs):=Zp.out.over hR ((Onl.refl R nO w6).at_own _ _) Zp.out.rd.hurt;go_wp2_with fail;refine(LM R s (uQ ((⟨st.p+av s st.p,st.bad,st.out⟩:RS))) base v qs (bare 2 ⟨#[]⟩ (az s st.p)) _ HF7.out hR (U0 hB Yf.out.size) hn (vZ _ _ _ _ _) (.inl ⟨rfl,rfl,rfl⟩) (fun g hg=>absurd hg (kz _ _ _ g))).mono ?_;rintro e w8 ⟨v8,rfl,hF8,Yg⟩;have HF8:=ai hF8;have HW8:=ai ((Yf.out.any v).trans Yg);clear hF8 Yg;go_wp2;exact bodyPost_ret (v:=.int .i64 (st.out.length:Int)) (by simp[results,Tryz.results234,go_sem,uQ]) rfl (by rw[HE.out.1,<-HE.out.1,HE.out.2,HE.out.1];exact⟨v8,[bare 2 ⟨#[]⟩ (az s st.p)],rfl,HF8.out,HW8.out,fun q hq g hg=>by rw[U4]at hq;subst hq;exact absurd hg (kz _ _ _ g)⟩)
 have HF5:=ai (Yh.out.is_yes hR hc hr5 hg5);have EQ:=ai (Mw hc);have HP5:Hid (st.p+av s st.p+2<=s.size):=zW hc;clear hr5 hg5 hc Yh Wo HV4 HFR4;go_wp2_with fail;refine l5 5 (fun _=>undef) (fun f=>{ tmps:=List.toArray (Value.pointer (some ⟨R,0,none⟩)::undef::.int .i64 0::undef::undef::undef::.pointer (some ⟨X,0,none⟩)::.pointer (some ⟨R,0,none⟩)::.bool false::undef::undef::undef::undef::undef::undef::undef::undef::undef::undef::undef::undef::undef::undef::undef::undef::undef::undef::undef::undef::undef::undef::undef::undef::undef::undef::undef::undef::undef::undef::undef::.pointer (some ⟨R,0,none⟩)::.bool false::undef::undef::undef::undef::undef::undef::undef::undef::undef::.pointer (some ⟨R,0,none⟩)::.string (az s st.p)::.agg #[.int .i64 2,.slice none 0 0,.string ⟨#[]⟩,.string (az s st.p),.slice none 0 0]::.pointer (some ⟨R,0,none⟩)::.bool true::f 0::f 1::f 2::f 3::f 4::undef::undef::undef::undef::undef::undef::undef::undef::undef::[]),defers:=[] }) (VB (Value.pointer (some ⟨X,3,none⟩)::.string (az s st.p)::.pointer (some ⟨R,0,none⟩)::.string (az s (st.p+av s st.p+2))::.agg #[.int .i64 3,.slice none 0 0,.string (az s st.p),.string (az s (st.p+av s st.p+2)),.slice none 0 0]::[]) R s ((st.p+av s st.p+2)+av s (st.p+av s st.p+2)) st.bad v) (GB R s (st.p+av s st.p+2) st.bad v X (bare 2 ⟨#[]⟩ (az s st.p)) w3) (by kernel_rfl) rfl (by decide +kernel) (by decide +kernel) rfl ⟨fun _=>HF5.out.rd.drewN 1,HV5.out,⟨HO35.out.os,HO35.out.tape,HO35.out.output,HO35.out.size,HO35.out.block⟩,HFR5.out⟩ ?yu ?finB;case yu =>
  rintro i hi o ho listed f w' hls Xf hG hpre;have HG:=ai hG;have HM:Hid (∀e∈o.after,Region.binds .any e=true->_):=hpre;clear hG hpre;have hc:i=0\/i=1\/i=2\/i=3\/i=4:=by omega
  clear hi
  repeat' rcases hc with rfl|hc
  ·cases ho;have HS:=ai (HG.out.step (i:=0) hls (by decide));refine aa rfl fun K HK=>?_;clear HM;dsimp only;go_simp;exact HK.out _ _ ⟨Value.pointer (some ⟨X,3,none⟩),by simp[upd],HS.out,⟨rfl,fun e=>absurd e (by decide)⟩,fun k u _ hu=>hu⟩
  ·cases ho;have e0:f 0=Value.pointer (some ⟨X,3,none⟩):=(HM.out ⟨0,.data⟩ (by simp) rfl).1;have x3:w'.cell? ⟨X,3,none⟩=some (.string (az s st.p)):=HG.out.box.2.2.2.1;have HS:=ai (HG.out.step (i:=1) hls (by decide));refine aa rfl fun K HK=>?_;clear HM;simp only[e0];go_simp;exact HK.out _ _ ⟨Value.string (az s st.p),by simp[upd,e0],HS.out,⟨rfl,fun e=>absurd e (by decide)⟩,fun k u _ hu=>hu⟩
  ·cases ho;have HS:=ai (HG.out.step (i:=2) hls (by decide));refine aa rfl fun K HK=>?_;clear HM;dsimp only;go_simp;exact HK.out _ _ ⟨Value.pointer (some ⟨R,0,none⟩),by simp[upd],HS.out,⟨rfl,fun e=>absurd e (by decide)⟩,fun k u _ hu=>hu⟩
  ·cases ho;have e2:f 2=Value.pointer (some ⟨R,0,none⟩):=(HM.out ⟨2,.data⟩ (by simp) rfl).1;have hrd:=ai (HG.out.rd (IR Xf hls (by omega)));refine aa rfl fun K HK=>?_;clear HM;simp only[e2];go_simp;refine(uW R s (st.p+av s st.p+2) st.bad v w' hrd.out hs HP5.out).mono ?_;rintro e w7 ⟨rfl,hr7,YH⟩;have HS:=ai (HG.out.called hls YH HXR.out);have HR7:=ai hr7;clear hr7 YH;go_wp2_with fail;exact HK.out _ _ ⟨Value.string (az s (st.p+av s st.p+2)),by simp[upd,e2],HS.out,⟨rfl,fun _=>HR7.out⟩,fun k u hk hu=>⟨hu.1,fun e=>absurd e hk⟩⟩
  cases ho;have e1:f 1=Value.string (az s st.p):=(HM.out ⟨1,.data⟩ (by simp) rfl).1;have e3:f 3=Value.string (az s (st.p+av s st.p+2)):=(HM.out ⟨3,.data⟩ (by simp) rfl).1;have HS:=ai (HG.out.step (i:=4) hls (by decide));refine aa rfl fun K HK=>?_;clear HM;simp only[e1,e3];go_simp;exact HK.out _ _ ⟨Value.agg #[.int .i64 3,.slice none 0 0,.string (az s st.p),.string (az s (st.p+av s st.p+2)),.slice none 0 0],by simp[upd,e1,e3],HS.out,⟨rfl,fun e=>absurd e (by decide)⟩,fun k u _ hu=>hu⟩
 case finB =>
  rintro o ho listed f w' hG hall;obtain rfl:=Option.some.inj ho;have e4:f 4=Value.agg #[.int .i64 3,.slice none 0 0,.string (az s st.p),.string (az s (st.p+av s st.p+2)),.slice none 0 0]:=(hall 4 (by omega)).1;have HRD:=ai ((hall 3 (by omega)).2 rfl);have HG:=ai hG;obtain⟨x0,x1,x2,x3,x4,xl⟩:=hG.box;have f0:=hG.fr 0;have f1:=hG.fr 1;have f2:=hG.fr 2;have f3:=hG.fr 3;have f4:=hG.fr 4;clear ho hall hG;refine wpOp_step rfl (fun K hK=>?_);have HK:Hid (∀a w,_->K a w):=hK;clear hK;simp only[e4];go_simp;refine HK.out _ _ ?_;clear HK;obtain⟨wz,hwz⟩:∃wz,wz=(((((w'.setCell ⟨X,0,none⟩ (.int .i64 3)).setCell ⟨X,1,none⟩ (.slice none 0 0)).setCell ⟨X,2,none⟩ (.string (az s st.p))).setCell ⟨X,3,none⟩ (.string (az s (st.p+av s st.p+2)))).setCell ⟨X,4,none⟩ (.slice none 0 0)):=⟨_,rfl⟩;have HO3z:Hid (Onl R nO w3 wz):=by rw[hwz];exact((((HG.out.onl.at_new HX3.out _ _).at_new HX3.out _ _).at_new HX3.out _ _).at_new HX3.out _ _).at_new HX3.out _ _
  have HRz:Hid (RdC wz R s (st.p+av s st.p+2+av s (st.p+av s st.p+2)) st.bad v):=by rw[hwz];exact((((HRD.out.other HXR.out _ _).other HXR.out _ _).other HXR.out _ _).other HXR.out _ _).other HXR.out _ _
  have HVz:Hid (yM wz X (bare 3 (az s st.p) (az s (st.p+av s st.p+2)))):=by rw[hwz];exact Pn x0 x1 x2 x3 x4 xl _ _ _
  clear HV5 HF5 Wm HO35 HFR5;have HF5:=ai (HF3.out.over hR HO3z.out HRz.out);have Wm:=ai (Ww.out.trans0 HO3z.out);rw[<-hwz];clear hwz x0 x1 x2 x3 x4 xl f0 f1 f2 f3 f4 e4 HRz HO3z HG HRD;obtain⟨x0,x1,x2,x3,x4,xl⟩:=HVz.out;replace x0:wz.cell? ⟨X,0,none⟩=some (.int .i64 3):=x0;replace x1:wz.cell? ⟨X,1,none⟩=some (.slice none 0 0):=x1;replace x2:wz.cell? ⟨X,2,none⟩=some (.string (az s st.p)):=x2;replace x3:wz.cell? ⟨X,3,none⟩=some (.string (az s (st.p+av s st.p+2))):=x3;replace x4:wz.cell? ⟨X,4,none⟩=some (.slice none 0 0):=x4;go_wp2_with fail;refine(l8 (bare 3 (az s st.p) (az s (st.p+av s st.p+2))) wz ⟨fun a ha=>(by cases ha),by show(az s st.p).size<=maxLen;rw[Zi.out];have:=HP3.out;unfold maxLen;omega,by show(az s (st.p+av s st.p+2)).size<=maxLen;rw[zG s _ HP5.out];have:=kF s _ HP5.out;unfold maxLen;omega,UY _,UY _⟩ (by show(3:Int)≠1;decide)).mono ?_;rintro e w6 ⟨rfl,ZP⟩;have WY:=ai (Wm.out.trans0 (Onl.of_below ZP));have Zp:=ai (HF5.out.over hR (Onl.of_below ZP) (HF5.out.rd.below ZP));obtain⟨y0,y1,y2,y3,y4,yl⟩:=HVz.out.below ZP;replace y0:w6.cell? ⟨X,0,none⟩=some (.int .i64 3):=y0;replace y1:w6.cell? ⟨X,1,none⟩=some (.slice none 0 0):=y1;replace y2:w6.cell? ⟨X,2,none⟩=some (.string (az s st.p)):=y2;replace y3:w6.cell? ⟨X,3,none⟩=some (.string (az s (st.p+av s st.p+2))):=y3;replace y4:w6.cell? ⟨X,4,none⟩=some (.slice none 0 0):=y4;clear x0 x1 x2 x3 x4 xl ZP HVz HF5 Wm;cases hb:ax (bare 3 (az s st.p) (az s (st.p+av s st.p+2))).e;case true=>
   have HE:Hid (fB s st=(bare 3 (az s st.p) (az s (st.p+av s st.p+2))).e/\judged (fB s st) (aI s st)=(⟨st.p+av s st.p+2+av s (st.p+av s st.p+2),st.bad,st.out⟩:RS)):=by
    refine⟨EQ.out.1,?_⟩;rw[EQ.out.1,EQ.out.2];exact if_pos hb
   clear hb;go_wp2_with fail;refine(LM R s ((⟨st.p+av s st.p+2+av s (st.p+av s st.p+2),st.bad,st.out⟩:RS)) base v qs (bare 3 (az s st.p) (az s (st.p+av s st.p+2))) w6 Zp.out hR (U0 hB WY.out.size) hn (vZ _ _ _ _ _) (.inl ⟨rfl,rfl,rfl⟩) (fun g hg=>absurd hg (kz _ _ _ g))).mono ?_;rintro e w7 ⟨v7,rfl,hF7,XX⟩;have HF7:=ai hF7;have HW7:=ai ((WY.out.any v).trans XX);clear hF7 XX;go_wp2;exact bodyPost_ret (v:=.int .i64 (st.out.length:Int)) (by simp[results,Tryz.results234,go_sem]) rfl (by rw[HE.out.1,<-HE.out.1,HE.out.2,HE.out.1];exact⟨v7,[bare 3 (az s st.p) (az s (st.p+av s st.p+2))],rfl,HF7.out,HW7.out,fun q hq g hg=>by rw[U4]at hq;subst hq;exact absurd hg (kz _ _ _ g)⟩)
  have HE:Hid (fB s st=(bare 3 (az s st.p) (az s (st.p+av s st.p+2))).e/\judged (fB s st) (aI s st)=uQ ((⟨st.p+av s st.p+2+av s (st.p+av s st.p+2),st.bad,st.out⟩:RS))):=by
   refine⟨EQ.out.1,?_⟩;rw[EQ.out.1,EQ.out.2];exact if_neg (fun e=>by have:=e.symm.trans hb;cases this)
  clear hb;have c2:=Zp.out.rd.c2;have f2:=Zp.out.rd.fr 2;have hl:=Zp.out.rd.lt;have hxr:=HXR.out;have hrx:=Ne.symm HXR.out;have Yf:Hid (Onl R nO w (w6.setCell ⟨R,2,none⟩ (.bool true))):=WY.out.at_own _ _;have HF7:Hid (RdF (w6.setCell ⟨R,2,none⟩ (.bool true)) R s (uQ ((⟨st.p+av s st.p+2+av s (st.p+av s st.p+2),st.bad,st.out⟩:RS))) base v qs):=Zp.out.over hR ((Onl.refl R nO w6).at_own _ _) Zp.out.rd.hurt;go_wp2_with fail;refine(LM R s (uQ ((⟨st.p+av s st.p+2+av s (st.p+av s st.p+2),st.bad,st.out⟩:RS))) base v qs (bare 3 (az s st.p) (az s (st.p+av s st.p+2))) _ HF7.out hR (U0 hB Yf.out.size) hn (vZ _ _ _ _ _) (.inl ⟨rfl,rfl,rfl⟩) (fun g hg=>absurd hg (kz _ _ _ g))).mono ?_;rintro e w8 ⟨v8,rfl,hF8,Yg⟩;have HF8:=ai hF8;have HW8:=ai ((Yf.out.any v).trans Yg);clear hF8 Yg;go_wp2;exact bodyPost_ret (v:=.int .i64 (st.out.length:Int)) (by simp[results,Tryz.results234,go_sem,uQ]) rfl (by rw[HE.out.1,<-HE.out.1,HE.out.2,HE.out.1];exact⟨v8,[bare 3 (az s st.p) (az s (st.p+av s st.p+2))],rfl,HF8.out,HW8.out,fun q hq g hg=>by rw[U4]at hq;subst hq;exact absurd hg (kz _ _ _ g)⟩)
structure PL(w1 wr:World)(R X:Nat)(s:ByteArray)(xs:Q0a)(p:Nat)(bad:Bool)(v vA:Value):Prop where
 rd:RdC wr R s p bad v
 onl:Onl R nO w1 wr
 c0:wr.cell? ⟨X,0,none⟩=some (.int .i64 1)
 c1:wr.cell? ⟨X,1,none⟩=some vA
 c2:wr.cell? ⟨X,2,none⟩=some (.string ⟨#[]⟩)
 c3:wr.cell? ⟨X,3,none⟩=some (.string ⟨#[]⟩)
 c4:wr.cell? ⟨X,4,none⟩=some (.slice none 0 0)
 fr:jX wr X
 lt:X<wr.heap.size
 own:wr.ownsRow (X+1) 43 2 vA xs.length (pairs xs)
theorem PL.moved{w1 wr w':af}{R X:Nat}{s:ByteArray}{xs:Q0a}{p p':Nat}{bad bad':Bool}{v vA:Value}(h:PL w1 wr R X s xs p bad v vA)(hRX:R<X)(hg:wr.grownBy w' (some R))(hr:RdC w' R s p' bad' v):PL w1 w' R X s xs p' bad' v vA:=by
 have hne:some X≠some R:=by intro e;injection e with e;omega
 refine⟨hr,h.onl.trans0 (Onl.of_grown hg),hg.cell h.c0 hne,hg.cell h.c1 hne,hg.cell h.c2 hne,hg.cell h.c3 hne,hg.cell h.c4 hne,dx h.fr (hg.block X h.lt hne),UT h.lt hg.size,h.own.kept hg (.inr ?_)⟩;intro e;have:=(h.own.lt R e).1;omega
theorem PL.made{w1 wr:af}{R X:Nat}{s:ByteArray}{xs:Q0a}{p:Nat}{bad:Bool}{v vA:Value}(h:PL w1 wr R X s xs p bad v vA)(o:Obj):PL w1 (wr.alloc o) R X s xs p bad v vA:=by
 have hg:=World.grownBy_alloc wr o none;exact⟨h.rd.grown hg (by simp),h.onl.trans0 (Onl.of_below ((UV _ _).alloc (UU _) _)),hg.cell h.c0 (by simp),hg.cell h.c1 (by simp),hg.cell h.c2 (by simp),hg.cell h.c3 (by simp),hg.cell h.c4 (by simp),dx h.fr (hg.block X h.lt (by simp)),UT h.lt hg.size,h.own.alloc o⟩
theorem PL.aset{w1 wr:af}{R X:Nat}{s:ByteArray}{xs:Q0a}{p:Nat}{bad:Bool}{v vA:Value}(h:PL w1 wr R X s xs p bad v vA)(hRX:R<X)(h1:w1.heap.size<=X){A:Nat}(hA:X<A)(hv:vA.ownBlock≠some A)(o:Nat)(u:Value):PL w1 (wr.setCell ⟨A,o,none⟩ u) R X s xs p bad v vA:=by
 have hb:∀k,k≠A->(wr.setCell ⟨A,o,none⟩ u).heap[k]?=wr.heap[k]?:=fun k hk=>Below.heap_setCell wr _ _ k hk;refine⟨h.rd.other (by omega) _ _,h.onl.at_new (by omega) _ _,?_,?_,?_,?_,?_,dx h.fr (hb X (by omega)),by simpa using h.lt,jJ h.own fun g hg=>hb g (fun e=>hv (by rw[hg,e]))⟩
 all_goals rw[Vh (w:=wr) (hb X (by omega))]
 ·exact h.c0
 ·exact h.c1
 ·exact h.c2
 ·exact h.c3
 exact h.c4
theorem MB(xs:Q0a)(a:Al):pairs (xs++[a])=pairs xs++[.string a.t,.string a.s]:=by simp[pairs]
theorem PL.app{w1 wr w':af}{R X:Nat}{s:ByteArray}{xs:Q0a}{p:Nat}{bad:Bool}{v vA vB:Value}(h:PL w1 wr R X s xs p bad v vA)(hRX:R<X)(h1:w1.heap.size<=X)(a:Al)(hown:w'.ownsRow (X+1) 43 2 vB (xs.length+1) (pairs xs++[.string a.t,.string a.s]))(hg:wr.grownBy w' vA.ownBlock):PL w1 (w'.setCell ⟨X,1,none⟩ vB) R X s (xs++[a]) p bad v vB:=by
 have hX:some X≠vA.ownBlock:=fun e=>by have:=(h.own.lt X e.symm).1;omega
 have hR:some R≠vA.ownBlock:=fun e=>by have:=(h.own.lt R e.symm).1;omega
 have ho:Onl R nO w1 w':=⟨hg.os.trans h.onl.os,hg.tape.trans h.onl.tape,hg.output.trans h.onl.output,U0 h.onl.size hg.size,fun k hk h2 h3=>(hg.block k (UT hk h.onl.size) (fun e=>by have:=(h.own.lt k e.symm).1;omega)).trans (h.onl.block k hk h2 h3)⟩;refine⟨(h.rd.grown hg hR).other (by omega) _ _,ho.at_new h1 _ _,?_,mS (hg.cell h.c1 hX),?_,?_,?_,fun j=>?_,?_,?_⟩
 ·rw[mO (by omega)];exact hg.cell h.c0 hX
 ·rw[mO (by omega)];exact hg.cell h.c2 hX
 ·rw[mO (by omega)];exact hg.cell h.c3 hX
 ·rw[mO (by omega)];exact hg.cell h.c4 hX
 ·simpa using dx h.fr (hg.block X h.lt hX) j
 ·simpa using UT h.lt hg.size
 rw[MB,U2,Vr];exact ownsRow_setCell_below hown (by show X<X+1;omega) _
def wbad(R:Nat)(w:World):Nat:=match w.cell? ⟨R,2,none⟩ with
 | some (.bool true)=>0
 | _=>1
theorem RdC.wbad0{w:af}{R:Nat}{s:ByteArray}{p:Nat}{v:Value}(h:RdC w R s p true v):wbad R w=0:=by
 simp[Go.Proofs.YtajkkeikihhejaaGreat.wbad,h.c2]
theorem RdC.wbad1{w:af}{R:Nat}{s:ByteArray}{p:Nat}{v:Value}(h:RdC w R s p false v):wbad R w=1:=by
 simp[Go.Proofs.YtajkkeikihhejaaGreat.wbad,h.c2]
theorem Bf(w:af)(a b:bQ)(g:Nat)(hg:w.heap.size=g):∀j u,[Value.string a,.string b][j]?=some u->(w.alloc (.cells #[.string a,.string b] 43)).cell? ((⟨g,0,none⟩:Addr).add j)=some u:=by
 intro j u hu;subst hg;rw[show(⟨w.heap.size,0,none⟩:Addr).add j=⟨w.heap.size,0+j,none⟩ by simp[Addr.add];omega,Vj];have:=World.cell?_alloc_mark w #[.string a,.string b] 43 (0,0) j;rw[this];simpa using hu
def qN(s:ByteArray)(st:RS):Int×RS:=match dF s (s.size+1) [] (kE fZ st) with
 | (some xs,st')=>((st'.out.length:Int),sF ⟨1,xs,⟨#[]⟩,⟨#[]⟩,[]⟩ st')
 | (none,st')=>(0,st')
theorem JJ{s:ByteArray}{st st':RS}{xs:Q0a}(h:dF s (s.size+1) [] (kE fZ st)=(some xs,st')):qN s st=((st'.out.length:Int),sF ⟨1,xs,⟨#[]⟩,⟨#[]⟩,[]⟩ st'):=by simp only[qN,h]
theorem JK{s:ByteArray}{st st':RS}(h:dF s (s.size+1) [] (kE fZ st)=(none,st')):qN s st=(0,st'):=by simp only[qN,h]
theorem JL(s:bQ)(n:Nat)(xs:Q0a)(p:Nat)(o:Q09):dF s n xs ⟨p,true,o⟩=(none,⟨p,true,o⟩):=by
 cases n with
 | zero=>rfl
 | succ n=>rfl
structure PairIs(s:ByteArray)(p:Nat)(o:Q09)(a:Al)(pb:Nat):Prop where
 a:(⟨az s p,yL s (bI s ⟨p,false,o⟩)⟩:Al)=a
 b:aZ s (bI s ⟨p,false,o⟩)=⟨pb,false,o⟩
theorem MC{s:ByteArray}{p:Nat}{o:Q09}(h:mX s uP (p+av s p) false=false):PairIs s p o ⟨az s p,⟨#[]⟩⟩ (p+av s p):=by
 have e:lG s uP (bI s ⟨p,false,o⟩)=false:=h;exact⟨by unfold yL;rw[e];rfl,by unfold aZ;rw[e];rfl⟩
theorem JM{s:ByteArray}{p:Nat}{o:Q09}(h:mX s uP (p+av s p) false=true):PairIs s p o ⟨az s p,az s (p+av s p+1)⟩ (p+av s p+1+av s (p+av s p+1)):=by
 have e:lG s uP (bI s ⟨p,false,o⟩)=true:=h;exact⟨by unfold yL;rw[e];rfl,by unfold aZ;rw[e];rfl⟩
theorem GV{s:ByteArray}{p pb n:Nat}{o:Q09}{a:Al}{xs:Q0a}(h:PairIs s p o a pb)(h1:mX s fD pb false=true):dF s (n+1) xs ⟨p,false,o⟩=(some (xs++[a]),⟨pb+1,false,o⟩):=by
 have e:lG s fD ⟨pb,false,o⟩=true:=h1;unfold dF;rw[h.a,h.b,e];rfl
theorem GX{s:ByteArray}{p pb n:Nat}{o:Q09}{a:Al}{xs:Q0a}(h:PairIs s p o a pb)(h1:mX s fD pb false=false)(h2:mX s lZ pb false=true):dF s (n+1) xs ⟨p,false,o⟩=dF s n (xs++[a]) ⟨pb+1,false,o⟩:=by
 have e:lG s fD ⟨pb,false,o⟩=false:=h1;have e2:lG s lZ ⟨pb,false,o⟩=true:=h2
 conv=>lhs;unfold dF
 rw[h.a,h.b,e,e2];rfl
theorem ME{s:ByteArray}{p pb n:Nat}{o:Q09}{a:Al}{xs:Q0a}(h:PairIs s p o a pb)(h1:mX s fD pb false=false)(h2:mX s lZ pb false=false):dF s (n+1) xs ⟨p,false,o⟩=dF s n (xs++[a]) ⟨pb,true,o⟩:=by
 have e:lG s fD ⟨pb,false,o⟩=false:=h1;have e2:lG s lZ ⟨pb,false,o⟩=false:=h2
 conv=>lhs;unfold dF
 rw[h.a,h.b,e,e2];rfl
theorem capOf{w:af}{base size n m cap:Nat}{e:TypeId}{ad:Q02}{xs:Q03}(h:w.ownsRow base e size (.slice ad n cap) m xs)(hm:m=n:=by rfl):n<=cap:=by
 rcases h.2 with⟨e1,h0⟩|⟨g,cap',cur,e1,-,-,hnc,-⟩
 ·injection e1 with _ e2 e3;omega
 injection e1 with _ e2 e3;omega
theorem PL.node{w1 wr:af}{R X:Nat}{s:ByteArray}{xs:Q0a}{p:Nat}{bad:Bool}{v vA:Value}(h:PL w1 wr R X s xs p bad v vA)(h1:w1.heap.size<=X){base:Nat}(hb:base<=w1.heap.size):∃ad cap,vA=.slice ad xs.length cap/\NewQ base wr ⟨⟨1,xs,⟨#[]⟩,⟨#[]⟩,[]⟩,ad,cap,none,0⟩/\∀g,p9 ⟨⟨1,xs,⟨#[]⟩,⟨#[]⟩,[]⟩,ad,cap,none,0⟩ g->X<g:=by
 obtain⟨ad,cap,e,h2,h3,h4⟩:=Us h.own rfl;have hK:∀g,¬bK ⟨⟨1,xs,⟨#[]⟩,⟨#[]⟩,[]⟩,ad,cap,none,0⟩ g:=fun g hg=>hg.1 rfl;have hA:∀g,p9 ⟨⟨1,xs,⟨#[]⟩,⟨#[]⟩,[]⟩,ad,cap,none,0⟩ g->X+1<=g/\g<wr.heap.size/\jX wr g:=by
  rintro g (hg|hg)
  ·exact h4 g hg.1 hg.2
  exact absurd hg (hK g)
 refine⟨ad,cap,e,⟨h3,fun h=>absurd rfl h,⟨h2,.inl rfl⟩,fun g hg=>⟨?_,(hA g hg).2⟩,fun g _ hg=>hK g hg,capOf (e ▸ h.own)⟩,fun g hg=>(hA g hg).1⟩;have:=(hA g hg).1;omega
theorem MF(R:Nat)(s:bQ)(st:RS)(base:Nat)(v:Value)(qs:Q08)(w:af)(h:RdF w R s st base v qs)(hR:R<base)(hB:base<=w.heap.size)(hs:s.size<=1000)(hp:st.p<=s.size)(hn:qs.length<=100000)
  (h0:mX s fZ st.p st.bad=true) :
  Calls prog 234 #[.pointer (some ⟨R,0,none⟩)] w (uX R s base v qs w (qN s st)):=by
 obtain⟨iA,hiA,zA0,zA1,zA2⟩:=info_parts (P:=prog) (e:=43) (z:=.agg #[.string ⟨#[]⟩,.string ⟨#[]⟩]) (size:=2) (bytes:=32) (by kernel_rfl);have HIA:Hid (prog.info? 43=some iA/\iA.zero=some (.agg #[.string ⟨#[]⟩,.string ⟨#[]⟩])/\iA.size=2/\iA.bytes=32):=⟨hiA,zA0,zA1,zA2⟩;have H:=ai h;have HP:=ai hp
 have hbad:st.bad=false:=by cases e:st.bad with
  | false=>rfl
  | true=>rw[e]at h0;cases h0
 have HBD:=ai hbad;have HP1:Hid (st.p+5<=s.size):=zW h0;clear h hp hiA zA0 zA1 zA2 hbad;go_enter func234,ntmps234;go_wp2_with fail;refine(l7 R s fZ st.p st.bad v w H.out.rd hs HP.out (by decide)).mono ?_;rintro e w1 ⟨rfl,hr1,hg1⟩;have Xk:=ai (H.out.is_yes hR h0 hr1 hg1);have Wp:=ai (Onl.of_grown hg1);rw[h0];clear hr1 hg1 h0;obtain⟨W2,hW2⟩:∃W2,W2=w1.alloc (.cells #[.int .i64 1,.slice none 0 0,.string ⟨#[]⟩,.string ⟨#[]⟩,.slice none 0 0] 39):=⟨_,rfl⟩;have HL2:Hid (PL w1 W2 R w1.heap.size s [] (st.p+5) false v (.slice none 0 0)):=by
  rw[hW2];have hrd:RdC w1 R s (st.p+5) false v:=by have:=Xk.out.rd;rw[show(kE fZ st).bad=false from HBD.out]at this;exact this
  refine⟨hrd.below ((UV _ _).alloc (UU _) _),Onl.of_below ((UV _ _).alloc (UU _) _),by simp,by simp,by simp,by simp,by simp,fun j=>by simp,by simp,World.ownsRow_nil _ _ _ _⟩
 have HX0:Hid (w.heap.size<=w1.heap.size):=Wp.out.size;have Yx:Hid (R<w1.heap.size):=Xk.out.rd.lt;have Y0:Hid (w1.heap.size<=w1.heap.size):=UU _;go_wp2_with fail;rw[<-hW2];clear hW2;obtain⟨X,hX⟩:∃X,X=w1.heap.size:=⟨_,rfl⟩;replace HL2:Hid (PL w1 W2 R X s [] (st.p+5) false v (.slice none 0 0)):=by rw[hX];exact HL2
 replace HX0:Hid (w.heap.size<=X):=by rw[hX];exact HX0
 replace Yx:Hid (R<X):=by rw[hX];exact Yx
 replace Y0:Hid (w1.heap.size<=X):=by rw[hX];exact Y0
 rw[<-hX];clear hX;go_loopw[14] (fun _ wr=>∃(n p:Nat) (bad:Bool) (xs:Q0a) (vA:Value),Hid (p<=s.size)/\Hid (dF s n xs ⟨p,bad,st.out⟩=dF s (s.size+1) [] (kE fZ st))/\Hid (bad=false->s.size-p<n/\xs.length+5<=p)/\Hid (PL w1 wr R X s xs p bad v vA)) (fun _ wr=>s.size-wat R wr+wbad R wr);case atStart=>exact⟨s.size+1,st.p+5,false,[],.slice none 0 0,HP1.out,by show _=_;unfold kE;rw[HBD.out];rfl,fun _=>⟨by omega,by simp⟩,HL2.out⟩
 obtain⟨n,p,bad,xs,vA,HPL,HPP,HLN,HL⟩:=hrel;clear HL2;have r2:=HL.out.rd.c2;have rl:=HL.out.rd.lt;cases bad;case true=>
  have EQ:=ai (JK (HPP.out.symm.trans (JL s n xs p st.out)));have HF:=ai (Xk.out.over hR HL.out.onl HL.out.rd);have HO:=ai (Wp.out.trans0 HL.out.onl);go_wp2;exact bodyPost_ret (v:=.int .i64 0) (by simp[results,Tryz.results234,go_sem]) rfl (by rw[EQ.out];exact⟨v,[],rfl,by rw[VK];exact HF.out,HO.out.any v,fun q hq=>by cases hq⟩)
 obtain⟨m,hm⟩:∃m,n=m+1:=⟨n-1,by have:=(HLN.out rfl).1;omega⟩;subst hm;have HPW:=ai (kF s p HPL.out);have HLN1:=ai (HLN.out rfl).1;have HLN2:=ai (HLN.out rfl).2;clear HLN;go_wp2_with fail;refine(uW R s p false v wr HL.out.rd hs HPL.out).mono ?_;rintro e w4 ⟨rfl,hr4,hg4⟩;have HL4:=ai (HL.out.moved Yx.out hg4 hr4);have HPLC:=ai HL.out.rd.place;have HPLB:=ai HL.out.rd.wbad1;clear hr4 hg4 HL r2 rl;obtain⟨W5,WL⟩:∃W5,W5=w4.alloc (.cells #[.string (az s p),.string ⟨#[]⟩] 43):=⟨_,rfl⟩;have HL5:Hid (PL w1 W5 R X s xs (p+av s p) false v vA):=by rw[WL];exact HL4.out.made _
 have HA0:Hid (W5.cell? ⟨w4.heap.size,0,none⟩=some (.string (az s p))):=by show _=_;rw[WL];simp
 have HA1:Hid (W5.cell? ⟨w4.heap.size,1,none⟩=some (.string ⟨#[]⟩)):=by show _=_;rw[WL];simp
 have HAF:Hid (jX W5 w4.heap.size):=fun j=>by rw[WL];simp
 have Ws:Hid (w4.heap.size<W5.heap.size):=by show _<_;rw[WL];simp
 have HAX:Hid (X<w4.heap.size):=HL4.out.lt;have HAV:Hid (vA.ownBlock≠some w4.heap.size):=fun e=>by have:=(HL4.out.own.lt _ e).2;omega
 go_wp2_with fail;rw[<-WL];clear WL;obtain⟨A,hA⟩:∃A,A=w4.heap.size:=⟨_,rfl⟩;rw[<-hA]at HA0 HA1 HAF Ws HAX HAV;rw[<-hA];clear hA HL4;refine(l7 R s uP (p+av s p) false v W5 HL5.out.rd hs HPW.out (by decide)).mono ?_;rintro e w6 ⟨rfl,X9,ZI⟩;have HAR:Hid (some A≠some R):=by intro e;injection e with e;have:=Yx.out;have:=HAX.out;omega
 have HB0:=ai (ZI.cell HA0.out HAR.out);have HB1:=ai (ZI.cell HA1.out HAR.out);have HBF:=ai (dx HAF.out (ZI.block A Ws.out HAR.out));have HBL:=ai (UT Ws.out ZI.size);cases hc:mX s uP (p+av s p) false
 case' false =>
  rw[zU hc]at X9;have HL6:=ai (HL5.out.moved Yx.out ZI X9);have PI:=ai (MC (o:=st.out) hc);have HPB:=HPW;have HPG:Hid (p<=p+av s p):=Nat.le_add_right _ _;clear X9 ZI hc HL5 HA0 HA1 HAF Ws;have a0:=HB0.out;have a1:=HB1.out;have k1:=HL6.out.c1;obtain⟨W9,hW9⟩:∃W9,W9=w6.alloc (.cells #[.string (az s p),.string ((⟨#[]⟩:ByteArray))] 43):=⟨_,rfl⟩;have YO:Hid (PL w1 W9 R X s xs (p+av s p) false v vA):=by rw[hW9];exact HL6.out.made _
  have Ye:Hid (∀j u,[Value.string (az s p),.string ((⟨#[]⟩:ByteArray))][j]?=some u->W9.cell? ((⟨w6.heap.size,0,none⟩:Addr).add j)=some u):=by rw[hW9];exact Bf w6 _ _ _ (rfl)
  have HSZ9:Hid (X+1<=W9.heap.size):=YO.out.lt;have hxs:xs.length<=1000:=by have:=HLN2.out;have:=HPL.out;omega
  go_wp2_with(at_builtin;rw[<-hW9];clear hW9;refine wpList_append_own _ rfl _ _ 36 rfl (X+1) 43 iA (.agg #[.string ⟨#[]⟩,.string ⟨#[]⟩]) 2 32 underlying36 HIA.out.1 HIA.out.2.1 HIA.out.2.2.1 HIA.out.2.2.2 rfl (by decide) vA xs.length (pairs xs) rfl YO.out.own ⟨w6.heap.size,0,none⟩ 1 1 [Value.string (az s p),.string ((⟨#[]⟩:ByteArray))] rfl rfl Ye.out (by intro u hu;simp at hu;rcases hu with rfl|rfl<;>rfl) (by unfold maxLen;omega) (by omega) HSZ9.out ?_);intro vB w10 Xz Xn _;obtain⟨gB,cB,rfl⟩:=fO Xz;have ZQ:some X≠vA.ownBlock:=fun e=>by have:=(YO.out.own.lt X e.symm).1;omega
  have k10:=Xn.cell YO.out.c1 ZQ;have f10:=dx YO.out.fr (Xn.block X YO.out.lt ZQ) 1;have l10:=UT YO.out.lt Xn.size;have Yp:=ai (YO.out.app Yx.out Y0.out ⟨az s p,(⟨#[]⟩:ByteArray)⟩ Xz Xn);clear Xz Xn a0 a1 k1 YO ZQ Ye HSZ9 HL6;obtain⟨P,hP⟩:∃P,P=p+av s p:=⟨_,rfl⟩;obtain⟨S2,hS2⟩:∃S2:ByteArray,S2=⟨#[]⟩:=⟨_,rfl⟩;rw[<-hP]at Yp PI HPB HPG;rw[<-hS2]at Yp PI;clear hP hS2
 case' true =>
  rw[uV hc]at X9;have HL6:=ai (HL5.out.moved Yx.out ZI X9);have PI:=ai (JM (o:=st.out) hc);have HPH:Hid (p+av s p+1<=s.size):=zW hc;have HPB:=ai (kF s _ HPH.out);have HPG:Hid (p<=p+av s p+1+av s (p+av s p+1)):=by show _<=_;omega
  clear X9 ZI hc HL5 HA0 HA1 HAF Ws;go_wp2_with fail;refine(uW R s (p+av s p+1) false v w6 HL6.out.rd hs HPH.out).mono ?_;rintro e w7 ⟨rfl,hr7,YH⟩;have HL7:=ai (HL6.out.moved Yx.out YH hr7);have Xg:=ai (YH.cell HB0.out HAR.out);have a1:=YH.cell HB1.out HAR.out;have hcf:=dx HBF.out (YH.block A HBL.out HAR.out);have f1:=hcf 1;have hcl:=UT HBL.out YH.size;obtain⟨W8,Yg⟩:∃W8,W8=w7.setCell ⟨A,1,none⟩ (.string (az s (p+av s p+1))):=⟨_,rfl⟩;have HL8:Hid (PL w1 W8 R X s xs (p+av s p+1+av s (p+av s p+1)) false v vA):=by rw[Yg];exact HL7.out.aset Yx.out Y0.out HAX.out HAV.out _ _
  have HD0:Hid (W8.cell? ⟨A,0,none⟩=some (.string (az s p))):=by show _=_;rw[Yg,mO (by omega)];exact Xg.out
  have HD1:Hid (W8.cell? ⟨A,1,none⟩=some (.string (az s (p+av s p+1)))):=by show _=_;rw[Yg];exact mS a1
  clear hr7 YH HL6 HB0 HB1 HBF HBL;have a0:=Xg.out;have k1:=HL7.out.c1;have hxa:X≠A:=by have:=HAX.out;omega
  have hax:A≠X:=by have:=HAX.out;omega
  obtain⟨W9,hW9⟩:∃W9,W9=W8.alloc (.cells #[.string (az s p),.string (az s (p+av s p+1))] 43):=⟨_,rfl⟩;have YO:Hid (PL w1 W9 R X s xs (p+av s p+1+av s (p+av s p+1)) false v vA):=by rw[hW9];exact HL8.out.made _
  have Ye:Hid (∀j u,[Value.string (az s p),.string (az s (p+av s p+1))][j]?=some u->W9.cell? ((⟨w7.heap.size,0,none⟩:Addr).add j)=some u):=by rw[hW9];exact Bf W8 _ _ _ (by rw[Yg];simp)
  have HSZ9:Hid (X+1<=W9.heap.size):=YO.out.lt;have hxs:xs.length<=1000:=by have:=HLN2.out;have:=HPL.out;omega
  go_wp2_with(at_builtin;rw[<-Yg];clear Yg;rw[<-hW9];clear hW9;refine wpList_append_own _ rfl _ _ 36 rfl (X+1) 43 iA (.agg #[.string ⟨#[]⟩,.string ⟨#[]⟩]) 2 32 underlying36 HIA.out.1 HIA.out.2.1 HIA.out.2.2.1 HIA.out.2.2.2 rfl (by decide) vA xs.length (pairs xs) rfl YO.out.own ⟨w7.heap.size,0,none⟩ 1 1 [Value.string (az s p),.string (az s (p+av s p+1))] rfl rfl Ye.out (by intro u hu;simp at hu;rcases hu with rfl|rfl<;>rfl) (by unfold maxLen;omega) (by omega) HSZ9.out ?_);intro vB w10 Xz Xn _;obtain⟨gB,cB,rfl⟩:=fO Xz;have ZQ:some X≠vA.ownBlock:=fun e=>by have:=(YO.out.own.lt X e.symm).1;omega
  have k10:=Xn.cell YO.out.c1 ZQ;have f10:=dx YO.out.fr (Xn.block X YO.out.lt ZQ) 1;have l10:=UT YO.out.lt Xn.size;have Yp:=ai (YO.out.app Yx.out Y0.out ⟨az s p,az s (p+av s p+1)⟩ Xz Xn);clear Xz Xn a0 a1 k1 YO ZQ Ye HSZ9 HL8 hxa hax f1 hcl hcf;obtain⟨P,hP⟩:∃P,P=p+av s p+1+av s (p+av s p+1):=⟨_,rfl⟩;obtain⟨S2,hS2⟩:∃S2:ByteArray,S2=az s (p+av s p+1):=⟨_,rfl⟩;rw[<-hP]at Yp PI HPB HPG;rw[<-hS2]at Yp PI;clear hP hS2
 all_goals
  go_wp2_with fail;obtain⟨W11,hW11⟩:∃W11,W11=w10.setCell ⟨X,1,none⟩ (.slice (some ⟨gB,0,none⟩) (xs.length+1) cB):=⟨_,rfl⟩;rw[<-hW11]at Yp ⊢;clear hW11 k10 f10 l10;refine(l7 R s fD P false v W11 Yp.out.rd hs HPB.out (by decide)).mono ?_;rintro e w12 ⟨rfl,YK,YP⟩;cases hcl:mX s fD P false;case true=>
   rw[uV hcl]at YK;have Xp:=ai (Yp.out.moved Yx.out YP YK);have EQ:=ai (JJ (HPP.out.symm.trans (GV (xs:=xs) (n:=m) PI.out hcl)));obtain⟨ad,cap,hva,hnq,hin⟩:=Xp.out.node Y0.out (base:=base) (U0 hB Wp.out.size);injection hva with hva1 hva2 hva3;subst hva1;subst hva3;clear hva2;have HNQ:=ai hnq;have HIN:=ai hin;have k0:=Xp.out.c0;have k1:=Xp.out.c1;have k2:=Xp.out.c2;have k3:=Xp.out.c3;have k4:=Xp.out.c4;have HF:=ai (Xk.out.over hR Xp.out.onl Xp.out.rd);have HO:=ai (Wp.out.trans0 Xp.out.onl);clear YK YP hcl hnq hin Yp Xp;go_wp2_with fail;have HADD:=LM R s ⟨P+1,false,st.out⟩ base v qs ⟨⟨1,xs++[⟨az s p,S2⟩],⟨#[]⟩,⟨#[]⟩,[]⟩,some ⟨gB,0,none⟩,cB,none,0⟩ w12 HF.out hR (U0 hB HO.out.size) hn HNQ.out (.inl ⟨rfl,rfl,rfl⟩) (fun g hg=>⟨fun e=>by have:=(Xk.out.own.lt g e).2;have:=HIN.out g hg;have:=Y0.out;omega,fun q' hq' hg'=>by have:=(Xk.out.lie q' hq' g hg').2.1;have:=HIN.out g hg;have:=Y0.out;omega⟩);rw[show(⟨⟨1,xs++[⟨az s p,S2⟩],⟨#[]⟩,⟨#[]⟩,[]⟩,some ⟨gB,0,none⟩,cB,none,0⟩:ER).val=.agg #[.int .i64 1,.slice (some ⟨gB,0,none⟩) (xs.length+1) cB,.string ⟨#[]⟩,.string ⟨#[]⟩,.slice none 0 0] by simp[ER.val]]at HADD;refine HADD.mono ?_;rintro e w13 ⟨v13,rfl,hF13,hW13⟩;have HF13:=ai hF13;have HW13:=ai ((HO.out.any v).trans hW13);clear hF13 hW13;go_wp2;exact bodyPost_ret (v:=.int .i64 (st.out.length:Int)) (by simp[results,Tryz.results234,go_sem]) rfl (by rw[EQ.out];exact⟨v13,_,rfl,HF13.out,HW13.out,fun q hq g hg=>by rw[U4]at hq;subst hq;have:=HIN.out g hg;have:=HX0.out;omega⟩)
  rw[zU hcl]at YK;have Xp:=ai (Yp.out.moved Yx.out YP YK);have HCL:=ai hcl;clear YK YP hcl Yp;go_wp2_with fail;refine(l7 R s lZ P false v w12 Xp.out.rd hs HPB.out (by decide)).mono ?_;rintro e w13 ⟨rfl,hr13,Zg⟩;cases hcm:mX s lZ P false;case true=>
   rw[uV hcm]at hr13;have YB:=ai (Xp.out.moved Yx.out Zg hr13);have HQ13:Hid (P+1<=s.size):=zW hcm;have EQ:=ai ((GX (xs:=xs) (n:=m) PI.out HCL.out hcm).symm.trans HPP.out);have HM:Hid (s.size-wat R w13+wbad R w13<s.size-wat R wr+wbad R wr):=by
    show _<_;rw[YB.out.rd.wbad1,HPLB.out,show wat R w13=P+1 from YB.out.rd.place,HPLC.out];have:=HQ13.out;have:=HPG.out;omega
   clear hr13 Zg hcm Xp;go_wp2;go_roundw;case rel=>exact⟨m,P+1,false,xs++[(⟨az s p,S2⟩:Al)],.slice (some ⟨gB,0,none⟩) (xs.length+1) cB,HQ13.out,EQ.out,fun _=>⟨by have:=HLN1.out;have:=HPG.out;have:=HQ13.out;omega,by have:=HLN2.out;have:=HPG.out;rw[U2,Vr];omega⟩,YB.out⟩
   exact HM.out
  rw[zU hcm]at hr13;have YB:=ai (Xp.out.moved Yx.out Zg hr13);have EQ:=ai ((ME (xs:=xs) (n:=m) PI.out HCL.out hcm).symm.trans HPP.out);have c2:=YB.out.rd.c2;have f2:=YB.out.rd.fr 2;have hl13:=YB.out.rd.lt;have HL14:Hid (PL w1 (w13.setCell ⟨R,2,none⟩ (.bool true)) R X s (xs++[⟨az s p,S2⟩]) P true v (.slice (some ⟨gB,0,none⟩) (xs.length+1) cB)):=YB.out.moved Yx.out (by have:=Gb w13 R 2 (.bool true) 0;exact this) YB.out.rd.hurt;have HM:Hid (s.size-wat R (w13.setCell ⟨R,2,none⟩ (.bool true))+wbad R (w13.setCell ⟨R,2,none⟩ (.bool true))<s.size-wat R wr+wbad R wr):=by
   show _<_;rw[HL14.out.rd.wbad0,HPLB.out,show wat R (w13.setCell ⟨R,2,none⟩ (.bool true))=P from HL14.out.rd.place,HPLC.out];have:=HPG.out;omega
  clear hr13 Zg hcm Xp YB;go_wp2;go_roundw;case rel=>exact⟨m,P,true,xs++[(⟨az s p,S2⟩:Al)],.slice (some ⟨gB,0,none⟩) (xs.length+1) cB,HPB.out,EQ.out,fun h=>(by cases h),HL14.out⟩
  exact HM.out
end Go.Proofs.YtajkkeikihhejaaGreat
namespace Go.Proofs.YtajkkeikihhejaaGreat
open Go.Sort
open ChangeShapes WideShapes ChangeAt RowKit
open Pl
attribute [local go_sem ↓] Go.wp_at_zero Go.wp_at_succ
theorem xE(b off cap:Nat)(ts:Q05)(w:af)(hlen:ts.length<=maxLen)(hr:kW w b off ts)(hb:b<w.heap.size)(hf:∀t∈ts,t.fits):
    Calls prog 99 #[.slice (some ⟨b,off,none⟩) ts.length cap] w fun e w'=>e=.returned (.bool (dO ts))/\ae w w':=by
  unfold maxLen at hlen;by_cases hbig:40<ts.length
  · have HT:Hid (dO ts=false):=by show _=_;simp[dO];omega
    go_enter func99,ntmps99;go_wp2;go_ret;exact⟨ah HT.out.symm,UV _ _⟩
  · go_enter func99,ntmps99;go_wp2;go_loopw[10] (fun i wr=>∃k:Nat,k<=ts.length/\i=.int .i64 k/\Hid (vF ts k=true)/\ae w wr) (fun i _=>ts.length-(intOf i).toNat);case atStart=>exact⟨0,UY _,rfl,rfl,UV _ _⟩
    obtain⟨k,hk,rfl,hu,hB⟩:=hrel;by_cases hlt:k<ts.length
    · have Zf:=qh (hr.below hB hb);have Wl:=qh hf;obtain⟨t0,t1,t2,t3,t4,t5⟩:=Zf.out k hlt;have hk1:=bG k;have hk2:(k:Int)<(ts.length:Int):=by omega
      clear hr hf;obtain⟨W1,hW1⟩:∃W1,W1=wr.alloc (.cells #[.string ts[k].a,.string ts[k].b,.string ts[k].r,.string ts[k].c,.string ts[k].d,.string ts[k].s] 46):=⟨_,rfl⟩;have hal:ae wr W1:=by rw[hW1];exact(UV _ _).alloc (UU _) _
      have c0:∀d os,(grow (redrawn W1 d) os).cell? ⟨wr.heap.size,0,none⟩=some (.string ts[k].a):=cell_regrown (by rw[hW1];simp);have c1:∀d os,(grow (redrawn W1 d) os).cell? ⟨wr.heap.size,1,none⟩=some (.string ts[k].b):=cell_regrown (by rw[hW1];simp);have c2:∀d os,(grow (redrawn W1 d) os).cell? ⟨wr.heap.size,2,none⟩=some (.string ts[k].r):=cell_regrown (by rw[hW1];simp);have c3:∀d os,(grow (redrawn W1 d) os).cell? ⟨wr.heap.size,3,none⟩=some (.string ts[k].c):=cell_regrown (by rw[hW1];simp);have c4:∀d os,(grow (redrawn W1 d) os).cell? ⟨wr.heap.size,4,none⟩=some (.string ts[k].d):=cell_regrown (by rw[hW1];simp);have c5:∀d os,(grow (redrawn W1 d) os).cell? ⟨wr.heap.size,5,none⟩=some (.string ts[k].s):=cell_regrown (by rw[hW1];simp);have Xb:Hid (∀d os,ae w (grow (redrawn W1 d) os)):=fun d os=>hB.trans ((hal.mono hB.size).trans ((below_regrown W1 d os).mono (U0 hB.size hal.size)));have HK:Hid (∀p v,wr.cell? p=some v->W1.cell? p=some v):=fun p v h=>cell_later hal h;clear hal;go_wp2_with fail;rw[<-hW1];clear hW1 t0 t1 t2 t3 t4 t5;have YL:Hid (∀d os,Calls prog 108 #[.agg #[.string ts[k].a,.string ts[k].b,.string ts[k].r,.string ts[k].c,.string ts[k].d,.string ts[k].s]] (grow (redrawn W1 d) os) fun e w''=>e=.returned (.bool ts[k].ok)/\∃p:Regrown,w''=grow (redrawn W1 p.d) p.os):=by
        obtain⟨f0,f1,f2,f3,f4,f5⟩:=Wl.out ts[k] (UR hlt);exact bY fun W' _=>fG _ _ _ _ _ _ _ f0 f1 f2 f3 f4 f5
      cases hok:ts[k].ok;case false=>
        have HT:Hid (dO ts=false):=vG hlt (KY hlt hok);rw[hok]at YL;clear hok;refine wp_region_quiet_below (by kernel_rfl) (by kernel_rfl) ?_
        repeat(go_big_quiet_step (exact YL.out _ _))
        refine wpQuiet_nil ?_;rintro _ ⟨⟨dq,osq⟩,rfl⟩;go_wp2;go_ret;exact⟨ah HT.out.symm,Xb.out dq osq⟩
      rw[hok]at YL;by_cases hz:k=0
      · have HU:Hid (vF ts (k+1)=true):=by show _=_;rw[rO,hu.out];subst hz;rw[xw hlt,hok];rfl
        have hk8:decide ((0:Int)<(k:Int))=false:=by simp;omega
        have hk9:decide (0<k)=false:=by simp;omega
        clear hok hz;refine wp_region_quiet_below (by kernel_rfl) (by kernel_rfl) ?_
        repeat(go_big_quiet_step (exact YL.out _ _))
        refine wpQuiet_nil ?_;rintro _ ⟨⟨dq,osq⟩,rfl⟩;go_wp2;go_roundw;case rel=>exact⟨k+1,by omega,by go_num,HU,Xb.out dq osq⟩
        simp[intOf];omega
      · obtain⟨m,hm⟩:∃m:Nat,k=m+1:=⟨k-1,by omega⟩;have WH:m<ts.length:=by omega
        obtain⟨q0,q1,q2,q3,q4,q5⟩:=Zf.out m WH;replace q0:=cell_regrown (HK.out _ _ q0);replace q1:=cell_regrown (HK.out _ _ q1);replace q2:=cell_regrown (HK.out _ _ q2);replace q3:=cell_regrown (HK.out _ _ q3);replace q4:=cell_regrown (HK.out _ _ q4);replace q5:=cell_regrown (HK.out _ _ q5);have hkm:(k:Int)-1=(m:Int):=by omega
        have hm1:=bG m;have hm2:(m:Int)<(ts.length:Int):=by omega
        have hpos:(0:Int)<(k:Int):=by omega
        have hposN:0<k:=by omega
        have hwm:IntKind.i64.wrap (m:Int)=(m:Int):=by rw[IntKind.wrap_i64];omega
        have HA:Hid (xq ts k=ts[m].ahead ts[k]):=by show _=_;subst hm;rw[rP hlt,hok];rfl
        have HCA:Hid (∀d os,Calls prog 141 #[.agg #[.string ts[m].a,.string ts[m].b,.string ts[m].r,.string ts[m].c,.string ts[m].d,.string ts[m].s],.agg #[.string ts[k].a,.string ts[k].b,.string ts[k].r,.string ts[k].c,.string ts[k].d,.string ts[k].s]] (grow (redrawn W1 d) os) fun e w''=>e=.returned (.bool (ts[m].ahead ts[k]))/\∃p:Regrown,w''=grow (redrawn W1 p.d) p.os):=by
          obtain⟨f0,f1,f2,f3,f4,f5⟩:=Wl.out ts[k] (UR hlt);obtain⟨g0,g1,g2,g3,g4,g5⟩:=Wl.out ts[m] (UR WH);exact bY fun W' _=>Cm _ _ _ _ _ _ _ _ _ _ _ _ _ g0 g1 g2 g3 g4 g5 f0 f1 f2 f3 f4 f5
        clear hm hz hok;cases ha:ts[m].ahead ts[k];case false=>
          have HT:Hid (dO ts=false):=vG hlt (by rw[HA.out,ha]);rw[ha]at HCA;clear ha HA;refine wp_region_quiet_below (by kernel_rfl) (by kernel_rfl) ?_
          repeat(go_big_quiet_step (first|exact YL.out _ _|exact HCA.out _ _))
          refine wpQuiet_nil ?_;rintro _ ⟨⟨dq,osq⟩,rfl⟩;go_wp2;go_ret;exact⟨ah HT.out.symm,Xb.out dq osq⟩
        have HU:Hid (vF ts (k+1)=true):=by show _=_;rw[rO,hu.out,HA.out,ha];rfl
        rw[ha]at HCA;clear ha HA;refine wp_region_quiet_below (by kernel_rfl) (by kernel_rfl) ?_
        repeat(go_big_quiet_step (first|exact YL.out _ _|exact HCA.out _ _))
        refine wpQuiet_nil ?_;rintro _ ⟨⟨dq,osq⟩,rfl⟩;go_wp2;go_roundw;case rel=>exact⟨k+1,by omega,by go_num,HU,Xb.out dq osq⟩
        simp[intOf];omega
    · go_wp2;go_ret;exact⟨ah (by have e:k=ts.length:=(by omega);subst e;simp[dO,hu.out];omega),hB⟩
end Go.Proofs.YtajkkeikihhejaaGreat
namespace Go.Proofs.YtajkkeikihhejaaGreat
open Go.Sort
open ChangeShapes WideShapes ChangeAt RowKit
open Pl
attribute [local go_sem ↓] Go.wp_at_zero Go.wp_at_succ
theorem xG(ad:Q02)(cap:Nat)(w:af):
  Calls prog 93 #[.slice ad 0 cap] w fun e w'=>e=.returned (.bool (dO []))/\ae w w':=by
 go_enter func93,ntmps93;go_wp2;go_loopw[3] (fun i wr=>∃k:Nat,k=0/\i=.int .i64 k/\ae w wr) (fun i _=>(intOf i).toNat);case atStart=>exact⟨0,rfl,rfl,UV _ _⟩
 obtain⟨k,rfl,rfl,hB⟩:=hrel;go_wp2;go_ret;exact⟨rfl,hB⟩
theorem xH(ad:Q02)(cap:Nat)(w:af):
  Calls prog 99 #[.slice ad 0 cap] w fun e w'=>e=.returned (.bool (dO []))/\ae w w':=by
 go_enter func99,ntmps99;go_wp2;go_loopw[10] (fun i wr=>∃k:Nat,k=0/\i=.int .i64 k/\ae w wr) (fun i _=>(intOf i).toNat);case atStart=>exact⟨0,rfl,rfl,UV _ _⟩
 obtain⟨k,rfl,rfl,hB⟩:=hrel;go_wp2;go_ret;exact⟨rfl,hB⟩
theorem oh(ad:Q02)(cap:Nat)(ts:Q05)(w:af)(hlen:ts.length<=maxLen)(hs:Sl w ad ts)(hf:∀t∈ts,t.fits):
  Calls prog 93 #[.slice ad ts.length cap] w fun e w'=>e=.returned (.bool (dO ts))/\ae w w':=by
 rcases hs with rfl|⟨b,off,rfl,hb,hr⟩
 ·exact xG ad cap w
 exact xx b off cap ts w hlen hr hb hf
theorem xI(ad:Q02)(cap:Nat)(ts:Q05)(w:af)(hlen:ts.length<=maxLen)(hs:Sl w ad ts)(hf:∀t∈ts,t.fits):
  Calls prog 99 #[.slice ad ts.length cap] w fun e w'=>e=.returned (.bool (dO ts))/\ae w w':=by
 rcases hs with rfl|⟨b,off,rfl,hb,hr⟩
 ·exact xH ad cap w
 exact xE b off cap ts w hlen hr hb hf
end Go.Proofs.YtajkkeikihhejaaGreat
namespace Go.Proofs.YtajkkeikihhejaaGreat
set_option linter.unusedVariables false
set_option maxRecDepth 100000
open ChangeShapes WideShapes ChangeAt RowKit Maps
open Pl
theorem Fa(v0:Value)(X8:Q02)(XA:Nat)(ts:Q05)(V5:Q02)(capE:Nat)(rows:Q08)(n:Nat)(adK:Q02)(capK:Nat)(known:Q04)(Xl:Q02)(WO:Nat)(truth:Q04)(f:Fc)(w:af)(hW:HW w X8 ts V5 rows adK known Xl truth)(hn:n<rows.length)(hre:rows.length<=1000)(hkl:known.length<=1048576)(htl:ts.length<=1048576)(hk:rows[n].e.kind=3):
  Calls prog 98 #[v0,.slice X8 ts.length XA,.slice V5 rows.length capE,.int .i64 (n:Int),.slice adK known.length capK,.slice Xl truth.length WO,.agg #[.string f.a,.string f.b,.string f.r,.string f.c,.string f.d]] w fun e w'=>e=.returned (.bool (gm ts known rows[n].e.over rows[n].e.name f))/\ae w w':=by
 obtain⟨b,off,V6,⟨t0,t1,t2,t3,t4⟩,hbl,-⟩:=gZ.at0 hW.ex hn;have HW0:=aj hW;obtain⟨W0,hW0⟩:∃W0,W0=vS w f rows[n]:=⟨_,rfl⟩;have HB0:Hid (ae w W0):=by show Below _ _ _;rw[hW0];exact eu _ _ _
 have YA:Hid (EnB W0 w.heap.size f rows[n]):=by show EnB _ _ _ _;rw[hW0];exact gp _ _ _
 have hk1:(rows[n].e.kind==1)=false:=by rw[hk];rfl
 have hk2:(rows[n].e.kind==2)=false:=by rw[hk];rfl
 have hk3:(rows[n].e.kind==3)=true:=by rw[hk];rfl
 have hn1:=bG n;have hn2:(n:Int)<(rows.length:Int):=by omega
 unfold vS at hW0;rw[V6];clear V6 hW hk;go_enter func98,ntmps98;go_wp2_with fail;rw[<-hW0];clear hW0 t0 t1 t2 t3 t4;go_loopw[18] (fun i wr=>∃k:Nat,k<=ts.length/\i=.int .i64 k/\Hid (gm (ts.drop k) known rows[n].e.over rows[n].e.name f=gm ts known rows[n].e.over rows[n].e.name f)/\Hid (ae W0 wr)) (fun i _=>ts.length-(intOf i).toNat);case atStart=>exact⟨0,UY _,rfl,rfl,UV _ _⟩
 obtain⟨k,hk,rfl,HP,HB⟩:=hrel;have V9:Hid (ae w wr):=HB0.out.trans (HB.out.mono HB0.out.size);by_cases hlt:k<ts.length
 ·obtain⟨bT,offT,XR,⟨a0,a1,a2,a3,a4,a5⟩,hbT⟩:=Sl.at0 (HW0.out.tup.below V9.out) hlt;have hE:=YA.out.below HB.out;have e0:=hE.f0;have e1:=hE.f1;have e2:=hE.f2;have e3:=hE.f3;have e4:=hE.f4;have el:w.heap.size<wr.heap.size:=by have:=hE.lt;omega
  have el2:w.heap.size+1<wr.heap.size:=hE.lt;have g2:=hE.x2;have g3:=hE.x3;have hi1:=bG k;have hi2:(k:Int)<(ts.length:Int):=by omega
  obtain⟨W1,hW1⟩:∃W1,W1=wr.alloc (.cells #[.string ts[k].a,.string ts[k].b,.string ts[k].r,.string ts[k].c,.string ts[k].d,.string ts[k].s] 46):=⟨_,rfl⟩;have WM:=mI hW1;have HB1:Hid (ae W0 W1):=HB.out.trans (WM.out.mono HB.out.size);have Xi:Hid (ae w W1):=V9.out.trans (WM.out.mono V9.out.size);have HD:Hid (gm ts known rows[n].e.over rows[n].e.name f=(DC known rows[n].e.over rows[n].e.name f ts[k] || gm (ts.drop (k+1)) known rows[n].e.over rows[n].e.name f)):=by show _=_;rw[<-HP.out];exact JC hlt known _ _ f
  rw[XR];clear XR hE;cases ho:yw ts[k].a ts[k].b f.a f.b;case false=>
   have hoeq:=iD _ _ _ _ ho;have Wj:Hid (gm (ts.drop (k+1)) known rows[n].e.over rows[n].e.name f=gm ts known rows[n].e.over rows[n].e.name f):=by
    show _=_;unfold yw at ho;rw[HD.out];unfold DC;rw[ho];rfl
   clear ho;go_wp2;rw[<-hW1];clear hW1;go_roundw;case rel=>exact⟨k+1,by omega,by go_num,Wj,HB1⟩
   simp[intOf]<;>omega
  have hoeq:=iD _ _ _ _ ho;have HO:Hid (yw ts[k].a ts[k].b f.a f.b=true):=ho;clear ho;cases hr:(ts[k].r.toList==rows[n].e.over.toList);case false=>
   have Wj:Hid (gm (ts.drop (k+1)) known rows[n].e.over rows[n].e.name f=gm ts known rows[n].e.over rows[n].e.name f):=by
    show _=_;have h2:=HO.out;unfold yw at h2;rw[HD.out];unfold DC;rw[h2,hr];rfl
   go_wp2;rw[<-hW1];clear hW1;go_roundw;case rel=>exact⟨k+1,by omega,by go_num,Wj,HB1⟩
   simp[intOf]<;>omega
  have HT2:Hid (DC known rows[n].e.over rows[n].e.name f ts[k]=bB known ⟨ts[k].c,ts[k].d,rows[n].e.name,f.c,f.d⟩):=by
   show _=_;have h2:=HO.out;unfold yw at h2;unfold DC;rw[h2,hr];rfl
  go_wp2_with fail;rw[<-hW1];clear hW1;refine(rU adK capK known ⟨ts[k].c,ts[k].d,rows[n].e.name,f.c,f.d⟩ W1 hkl (HW0.out.kn.below Xi.out)).mono ?_;rintro e w2 ⟨rfl,hb2⟩;have HB2:=jR HB1 hb2;have HBW2:=jR Xi hb2;clear hb2;cases hh:bB known ⟨ts[k].c,ts[k].d,rows[n].e.name,f.c,f.d⟩;case true=>
   have HN:Hid (gm ts known rows[n].e.over rows[n].e.name f=true):=by show _=_;rw[HD.out,HT2.out,hh];rfl
   go_wp2;go_ret;exact⟨by rw[HN.out];rfl,HBW2.out⟩
  have Wj:Hid (gm (ts.drop (k+1)) known rows[n].e.over rows[n].e.name f=gm ts known rows[n].e.over rows[n].e.name f):=by show _=_;rw[HD.out,HT2.out,hh];rfl
  go_wp2;go_roundw;case rel=>exact⟨k+1,by omega,by go_num,Wj,HB2⟩
  simp[intOf]<;>omega
 have HN:Hid (gm ts known rows[n].e.over rows[n].e.name f=false):=by show _=_;rw[<-HP.out,Vf (by omega)];rfl
 go_wp2;go_ret;exact⟨by rw[HN.out];rfl,V9.out⟩
open Go.Sort
theorem MG(p:Int->Bool){zs:List Int}{k:Nat}(h:k<zs.length):(zs.drop k).any p=(p zs[k] || (zs.drop (k+1)).any p):=by rw[Vl h];rfl
theorem MH(p:Int->Bool){zs:List Int}{k:Nat}(h:k<zs.length):(zs.drop k).all p=(p zs[k]&&(zs.drop (k+1)).all p):=by rw[Vl h];rfl
def Pp(v0 vT vE vK vR:Value)(f:Fc)(w:World)(i:Int)(b:Bool):Prop:=∀w1:World,ae w w1->Calls prog 98 #[v0,vT,vE,.int .i64 i,vK,vR,.agg #[.string f.a,.string f.b,.string f.r,.string f.c,.string f.d]] w1 fun e w'=>e=.returned (.bool b)/\ae w1 w'
theorem Co(H:Int->Bool)(v0 vT:Value)(V5:Q02)(capE:Nat)(rows:Q08)(n:Nat)(vK vR:Value)(f:Fc)(w:af)(hex:gZ w V5 rows)(hn:n<rows.length)(hre:rows.length<=1000)(hkl:rows[n].e.kids.length<=1000)(hk:rows[n].e.kind=4)(Zq:∀i∈rows[n].e.kids,Pp v0 vT (.slice V5 rows.length capE) vK vR f w i (H i)):
  Calls prog 98 #[v0,vT,.slice V5 rows.length capE,.int .i64 (n:Int),vK,vR,.agg #[.string f.a,.string f.b,.string f.r,.string f.c,.string f.d]] w fun e w'=>e=.returned (.bool (rows[n].e.kids.any H))/\ae w w':=by
 obtain⟨b,off,V6,⟨t0,t1,t2,t3,t4⟩,hbl,hok⟩:=gZ.at0 hex hn;have HK:=aj hok.2;have HIH:=aj Zq;obtain⟨W0,hW0⟩:∃W0,W0=vS w f rows[n]:=⟨_,rfl⟩;have HB0:Hid (ae w W0):=by show Below _ _ _;rw[hW0];exact eu _ _ _
 have YA:Hid (EnB W0 w.heap.size f rows[n]):=by show EnB _ _ _ _;rw[hW0];exact gp _ _ _
 have hk1:(rows[n].e.kind==1)=false:=by rw[hk];rfl
 have hk2:(rows[n].e.kind==2)=false:=by rw[hk];rfl
 have hk3:(rows[n].e.kind==3)=false:=by rw[hk];rfl
 have hk4:(rows[n].e.kind==4)=true:=by rw[hk];rfl
 have hn1:=bG n;have hn2:(n:Int)<(rows.length:Int):=by omega
 unfold vS at hW0;rw[V6]at HIH⊢;clear V6 hex hk Zq hok;go_enter func98,ntmps98;go_wp2_with fail;rw[<-hW0];clear hW0 t0 t1 t2 t3 t4;go_loopw[20] (fun i wr=>∃k:Nat,k<=rows[n].e.kids.length/\i=.int .i64 k/\Hid ((rows[n].e.kids.drop k).any H=rows[n].e.kids.any H)/\Hid (ae W0 wr)) (fun i _=>rows[n].e.kids.length-(intOf i).toNat);case atStart=>exact⟨0,UY _,rfl,rfl,UV _ _⟩
 obtain⟨k,hk,rfl,HP,HB⟩:=hrel;have V9:Hid (ae w wr):=HB0.out.trans (HB.out.mono HB0.out.size);have hE:=YA.out.below HB.out;have e0:=hE.f0;have e1:=hE.f1;have e2:=hE.f2;have e3:=hE.f3;have e4:=hE.f4;have y4:=hE.x4;have el2:w.heap.size+1<wr.heap.size:=hE.lt;clear hE;by_cases hlt:k<rows[n].e.kids.length
 ·obtain⟨bK,Zr,WA,z0,hbK⟩:=sK.at0 (HK.out.below V9.out) hlt;rw[WA]at y4;have hi1:=bG k;have hi2:(k:Int)<(rows[n].e.kids.length:Int):=by omega
  have HD:Hid (rows[n].e.kids.any H=(H rows[n].e.kids[k] || (rows[n].e.kids.drop (k+1)).any H)):=by show _=_;rw[<-HP.out];exact MG H hlt
  have HC:=aj (HIH.out _ (UR hlt));obtain⟨q,hq⟩:∃q,H rows[n].e.kids[k]=q:=⟨_,rfl⟩;rw[hq]at HC HD;have HCL:Hid (∀d os,Calls prog 98 #[v0,vT,.slice (some ⟨b,off,none⟩) rows.length capE,.int .i64 rows[n].e.kids[k],vK,vR,.agg #[.string f.a,.string f.b,.string f.r,.string f.c,.string f.d]] (grow (redrawn wr d) os) fun e w''=>e=.returned (.bool q)/\∃p:Regrown,w''=grow (redrawn wr p.d) p.os):=by
   refine bY fun W' hb=>?_;exact HC.out W' (V9.out.trans (hb.mono V9.out.size))
  clear WA hq HC;go_wp2_with fail;replace e0:=cell_regrown e0;replace e1:=cell_regrown e1;replace e2:=cell_regrown e2;replace e3:=cell_regrown e3;replace e4:=cell_regrown e4;replace y4:=cell_regrown y4;replace z0:=cell_regrown z0;refine wp_region_quiet_below (by kernel_rfl) (by kernel_rfl) ?_
  repeat(go_big_quiet_step (exact HCL.out _ _))
  refine wpQuiet_nil ?_;rintro _ ⟨⟨dq,osq⟩,rfl⟩;have HB2:=aj (HB.out.trans ((below_regrown wr dq osq).mono HB.out.size));clear HCL e0 e1 e2 e3 e4 y4 z0;cases q;case true=>
   have HN:Hid (rows[n].e.kids.any H=true):=by show _=_;rw[HD.out];rfl
   go_wp2;go_ret;exact⟨by rw[HN.out];rfl,HB0.out.trans (HB2.out.mono HB0.out.size)⟩
  have Wj:Hid ((rows[n].e.kids.drop (k+1)).any H=rows[n].e.kids.any H):=by show _=_;rw[HD.out];rfl
  go_wp2;go_roundw;case rel=>exact⟨k+1,by omega,by go_num,Wj,HB2⟩
  simp[intOf]<;>omega
 have HN:Hid (rows[n].e.kids.any H=false):=by show _=_;rw[<-HP.out,Vf (by omega)];rfl
 go_wp2;go_ret;exact⟨by rw[HN.out];rfl,V9.out⟩
theorem Fb(H:Int->Bool)(v0 vT:Value)(V5:Q02)(capE:Nat)(rows:Q08)(n:Nat)(vK vR:Value)(f:Fc)(w:af)(hex:gZ w V5 rows)(hn:n<rows.length)(hre:rows.length<=1000)(hkl:rows[n].e.kids.length<=1000)(hk:rows[n].e.kind=5)(Zq:∀i∈rows[n].e.kids,Pp v0 vT (.slice V5 rows.length capE) vK vR f w i (H i)):
  Calls prog 98 #[v0,vT,.slice V5 rows.length capE,.int .i64 (n:Int),vK,vR,.agg #[.string f.a,.string f.b,.string f.r,.string f.c,.string f.d]] w fun e w'=>e=.returned (.bool (rows[n].e.kids.all H))/\ae w w':=by
 obtain⟨b,off,V6,⟨t0,t1,t2,t3,t4⟩,hbl,hok⟩:=gZ.at0 hex hn;have HK:=aj hok.2;have HIH:=aj Zq;obtain⟨W0,hW0⟩:∃W0,W0=vS w f rows[n]:=⟨_,rfl⟩;have HB0:Hid (ae w W0):=by show Below _ _ _;rw[hW0];exact eu _ _ _
 have YA:Hid (EnB W0 w.heap.size f rows[n]):=by show EnB _ _ _ _;rw[hW0];exact gp _ _ _
 have hk1:(rows[n].e.kind==1)=false:=by rw[hk];rfl
 have hk2:(rows[n].e.kind==2)=false:=by rw[hk];rfl
 have hk3:(rows[n].e.kind==3)=false:=by rw[hk];rfl
 have hk4:(rows[n].e.kind==4)=false:=by rw[hk];rfl
 have hk5:(rows[n].e.kind==5)=true:=by rw[hk];rfl
 have hn1:=bG n;have hn2:(n:Int)<(rows.length:Int):=by omega
 unfold vS at hW0;rw[V6]at HIH⊢;clear V6 hex hk Zq hok;go_enter func98,ntmps98;go_wp2_with fail;rw[<-hW0];clear hW0 t0 t1 t2 t3 t4;go_loopw[21] (fun i wr=>∃k:Nat,k<=rows[n].e.kids.length/\i=.int .i64 k/\Hid ((rows[n].e.kids.drop k).all H=rows[n].e.kids.all H)/\Hid (ae W0 wr)) (fun i _=>rows[n].e.kids.length-(intOf i).toNat);case atStart=>exact⟨0,UY _,rfl,rfl,UV _ _⟩
 obtain⟨k,hk,rfl,HP,HB⟩:=hrel;have V9:Hid (ae w wr):=HB0.out.trans (HB.out.mono HB0.out.size);have hE:=YA.out.below HB.out;have e0:=hE.f0;have e1:=hE.f1;have e2:=hE.f2;have e3:=hE.f3;have e4:=hE.f4;have y4:=hE.x4;have el2:w.heap.size+1<wr.heap.size:=hE.lt;clear hE;by_cases hlt:k<rows[n].e.kids.length
 ·obtain⟨bK,Zr,WA,z0,hbK⟩:=sK.at0 (HK.out.below V9.out) hlt;rw[WA]at y4;have hi1:=bG k;have hi2:(k:Int)<(rows[n].e.kids.length:Int):=by omega
  have HD:Hid (rows[n].e.kids.all H=(H rows[n].e.kids[k]&&(rows[n].e.kids.drop (k+1)).all H)):=by show _=_;rw[<-HP.out];exact MH H hlt
  have HC:=aj (HIH.out _ (UR hlt));obtain⟨q,hq⟩:∃q,H rows[n].e.kids[k]=q:=⟨_,rfl⟩;rw[hq]at HC HD;have HCL:Hid (∀d os,Calls prog 98 #[v0,vT,.slice (some ⟨b,off,none⟩) rows.length capE,.int .i64 rows[n].e.kids[k],vK,vR,.agg #[.string f.a,.string f.b,.string f.r,.string f.c,.string f.d]] (grow (redrawn wr d) os) fun e w''=>e=.returned (.bool q)/\∃p:Regrown,w''=grow (redrawn wr p.d) p.os):=by
   refine bY fun W' hb=>?_;exact HC.out W' (V9.out.trans (hb.mono V9.out.size))
  clear WA hq HC;go_wp2_with fail;replace e0:=cell_regrown e0;replace e1:=cell_regrown e1;replace e2:=cell_regrown e2;replace e3:=cell_regrown e3;replace e4:=cell_regrown e4;replace y4:=cell_regrown y4;replace z0:=cell_regrown z0;refine wp_region_quiet_below (by kernel_rfl) (by kernel_rfl) ?_
  repeat(go_big_quiet_step (exact HCL.out _ _))
  refine wpQuiet_nil ?_;rintro _ ⟨⟨dq,osq⟩,rfl⟩;have HB2:=aj (HB.out.trans ((below_regrown wr dq osq).mono HB.out.size));clear HCL e0 e1 e2 e3 e4 y4 z0;cases q;case false=>
   have HN:Hid (rows[n].e.kids.all H=false):=by show _=_;rw[HD.out];rfl
   go_wp2;go_ret;exact⟨by rw[HN.out];rfl,HB0.out.trans (HB2.out.mono HB0.out.size)⟩
  have Wj:Hid ((rows[n].e.kids.drop (k+1)).all H=rows[n].e.kids.all H):=by show _=_;rw[HD.out];rfl
  go_wp2;go_roundw;case rel=>exact⟨k+1,by omega,by go_num,Wj,HB2⟩
  simp[intOf]<;>omega
 have HN:Hid (rows[n].e.kids.all H=true):=by show _=_;rw[<-HP.out,Vf (by omega)];rfl
 go_wp2;go_ret;exact⟨by rw[HN.out];rfl,V9.out⟩
theorem GY(b0 b1:Bool)(v0 vT:Value)(V5:Q02)(capE:Nat)(rows:Q08)(n:Nat)(vK vR:Value)(f:Fc)(w:af)(hex:gZ w V5 rows)(hn:n<rows.length)(hre:rows.length<=1000)(hkl:rows[n].e.kids.length<=1000)(hk2:2<=rows[n].e.kids.length)(hk:rows[n].e.kind=6)(hA:Pp v0 vT (.slice V5 rows.length capE) vK vR f w (rows[n].e.kids.getD 0 0) b0)(hB:Pp v0 vT (.slice V5 rows.length capE) vR vR f w (rows[n].e.kids.getD 1 0) b1):
  Calls prog 98 #[v0,vT,.slice V5 rows.length capE,.int .i64 (n:Int),vK,vR,.agg #[.string f.a,.string f.b,.string f.r,.string f.c,.string f.d]] w fun e w'=>e=.returned (.bool (b0 && !b1))/\ae w w':=by
 obtain⟨b,off,V6,⟨t0,t1,t2,t3,t4⟩,hbl,hok⟩:=gZ.at0 hex hn;have h0k:0<rows[n].e.kids.length:=by omega
 have h1k:1<rows[n].e.kids.length:=by omega
 obtain⟨bK,Zr,WA,z0,hbK⟩:=sK.at0 hok.2 h0k;have z1:w.cell? ⟨bK,Zr+1,none⟩=some (.int .i64 rows[n].e.kids[1]):=by
  obtain⟨b',off',XY,z1,-⟩:=sK.at0 hok.2 h1k;rw[WA]at XY;injection XY with e;injection e with e1 e2;rw[e1,e2];exact z1
 obtain⟨i0,hi0⟩:∃i,i=rows[n].e.kids[0]:=⟨_,rfl⟩;obtain⟨i1,hi1⟩:∃i,i=rows[n].e.kids[1]:=⟨_,rfl⟩;have g0:rows[n].e.kids.getD 0 0=i0:=by rw[hi0,Vn,U1 h0k];rfl
 have g1:rows[n].e.kids.getD 1 0=i1:=by rw[hi1,Vn,U1 h1k];rfl
 rw[g0]at hA;rw[g1]at hB;rw[<-hi0,Nat.add_zero]at z0;rw[<-hi1]at z1;clear hi0 hi1 g0 g1;obtain⟨kl,hkl'⟩:∃kl,kl=rows[n].e.kids.length:=⟨_,rfl⟩;obtain⟨cK,hcK⟩:∃c,c=rows[n].capK:=⟨_,rfl⟩;have hl0:(0:Int)<(kl:Int):=by omega
 have hl1:(1:Int)<(kl:Int):=by omega
 have h0k':0<kl:=by omega
 have h1k':1<kl:=by omega
 have HA:=aj hA;have Ya:=aj hB;obtain⟨W0,hW0⟩:∃W0,W0=vS w f rows[n]:=⟨_,rfl⟩;have HB0:Hid (ae w W0):=by show Below _ _ _;rw[hW0];exact eu _ _ _
 have YA:Hid (EnB W0 w.heap.size f rows[n]):=by show EnB _ _ _ _;rw[hW0];exact gp _ _ _
 have HZ:Hid (W0.cell? ⟨bK,Zr,none⟩=some (.int .i64 i0)/\W0.cell? ⟨bK,Zr+1,none⟩=some (.int .i64 i1)/\bK<W0.heap.size):=⟨(HB0.out.cell (p:=⟨bK,Zr,none⟩) hbK).trans z0,(HB0.out.cell (p:=⟨bK,Zr+1,none⟩) hbK).trans z1,UT hbK HB0.out.size⟩;have HX4:Hid (W0.cell? ⟨w.heap.size+1,4,none⟩=some (.slice (some ⟨bK,Zr,none⟩) kl cK)):=by show _=_;rw[YA.out.x4,WA,<-hkl',<-hcK]
 have hk1:(rows[n].e.kind==1)=false:=by rw[hk];rfl
 have hk2:(rows[n].e.kind==2)=false:=by rw[hk];rfl
 have hk3:(rows[n].e.kind==3)=false:=by rw[hk];rfl
 have hk4:(rows[n].e.kind==4)=false:=by rw[hk];rfl
 have hk5:(rows[n].e.kind==5)=false:=by rw[hk];rfl
 have hk6:(rows[n].e.kind==6)=true:=by rw[hk];rfl
 have hn1:=bG n;have hn2:(n:Int)<(rows.length:Int):=by omega
 unfold vS at hW0;rw[V6]at HA Ya⊢;clear V6 hex hk hA hB hok z0 z1 WA h0k h1k;go_enter func98,ntmps98;go_wp2_with fail;rw[<-hW0];clear hW0 t0 t1 t2 t3 t4 hk1 hk2 hk3 hk4 hk5 hk6 hkl' hcK;have HAA:Hid (∀d os,Calls prog 98 #[v0,vT,.slice (some ⟨b,off,none⟩) rows.length capE,.int .i64 i0,vK,vR,.agg #[.string f.a,.string f.b,.string f.r,.string f.c,.string f.d]] (grow (redrawn W0 d) os) fun e w''=>e=.returned (.bool b0)/\∃p:Regrown,w''=grow (redrawn W0 p.d) p.os):=by
  refine bY fun W' hb=>?_;exact HA.out _ (HB0.out.trans (hb.mono HB0.out.size))
 have HBQ:Hid (∀d os,Calls prog 98 #[v0,vT,.slice (some ⟨b,off,none⟩) rows.length capE,.int .i64 i1,vR,vR,.agg #[.string f.a,.string f.b,.string f.r,.string f.c,.string f.d]] (grow (redrawn W0 d) os) fun e w''=>e=.returned (.bool b1)/\∃p:Regrown,w''=grow (redrawn W0 p.d) p.os):=by
  refine bY fun W' hb=>?_;exact Ya.out _ (HB0.out.trans (hb.mono HB0.out.size))
 have c0:=cell_regrown YA.out.f0;have c1:=cell_regrown YA.out.f1;have c2:=cell_regrown YA.out.f2;have c3:=cell_regrown YA.out.f3;have c4:=cell_regrown YA.out.f4;have x4:=cell_regrown HX4.out;have z0:=cell_regrown HZ.out.1;have z1:=cell_regrown HZ.out.2.1;clear HA Ya YA;cases b0;case true=>
  refine wp_region_quiet_below (by kernel_rfl) (by kernel_rfl) ?_
  iterate 11 (go_big_quiet_step (exact HAA.out _ _))
  repeat(go_big_quiet_step (exact HBQ.out _ _))
  refine wpQuiet_nil ?_;rintro _ ⟨⟨dq,osq⟩,rfl⟩;go_wp2;go_ret;exact⟨rfl,HB0.out.trans ((below_regrown W0 dq osq).mono HB0.out.size)⟩
 refine wp_region_quiet_below (by kernel_rfl) (by kernel_rfl) ?_
 repeat(go_big_quiet_step (exact HAA.out _ _))
 refine wpQuiet_nil ?_;rintro _ ⟨⟨dq,osq⟩,rfl⟩;go_wp2;go_ret;exact⟨rfl,HB0.out.trans ((below_regrown W0 dq osq).mono HB0.out.size)⟩
end Go.Proofs.YtajkkeikihhejaaGreat
