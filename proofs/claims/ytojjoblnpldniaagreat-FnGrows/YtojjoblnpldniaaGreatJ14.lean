/- Contract of the document's reader: an item that is a name, or a name over another one. -/
import Derived.Test.YtojjoblnpldniaaGreatSq
import Derived.Test.YtojjoblnpldniaaGreatJ9
import Derived.Test.YtojjoblnpldniaaGreatSpecExpr
import Derived.Test.YtojjoblnpldniaaGreatJ12
import Derived.Sort.Statements
open Go.Proofs.Tryz
set_option maxHeartbeats 80000000
namespace Go.Proofs.YtojjoblnpldniaaGreat
set_option maxRecDepth 100000
open ChangeShapes WideShapes ChangeAt RowKit
open Pl
theorem Onl.at_new{R:Nat}{v:Value}{w w':ae}(h:Onl R v w w'){X:Nat}(hX:w.heap.size<=X)(o:Nat)(u:Value):Onl R v w (w'.setCell ⟨X,o,none⟩ u) :=
 ⟨h.os,h.tape,h.output,by simpa using h.size,fun k hk h1 h2=>(Below.heap_setCell w' _ _ k (by show k≠X;omega)).trans (h.block k hk h1 h2)⟩
theorem RdC.other{w:ae}{R:Nat}{s:ByteArray}{p:Nat}{bad:Bool}{v:Value}(h:RdC w R s p bad v){X:Nat}(hX:X≠R)(o:Nat)(u:Value):RdC (w.setCell ⟨X,o,none⟩ u) R s p bad v :=
 ⟨by simpa using h.lt,by rw[VR (w:=w) (Below.heap_setCell w _ _ R (Ne.symm hX))];exact h.c0,by rw[VR (w:=w) (Below.heap_setCell w _ _ R (Ne.symm hX))];exact h.c1,by rw[VR (w:=w) (Below.heap_setCell w _ _ R (Ne.symm hX))];exact h.c2,by rw[VR (w:=w) (Below.heap_setCell w _ _ R (Ne.symm hX))];exact h.c3,fun j=>by simpa using h.fr j⟩
theorem RdC.below{w w':ae}{R:Nat}{s:ByteArray}{p:Nat}{bad:Bool}{v:Value}(h:RdC w R s p bad v)(hb:ag w w'):RdC w' R s p bad v :=
 h.grown (row:=none) ⟨hb.os,hb.tape,hb.output,hb.size,fun k hk _=>hb.block k hk⟩ (by simp)
theorem yF.below{w w':ae}{g:Nat}{q:ER}(h:yF w g q)(hb:ag w w'):yF w' g q :=
 h.grown (row:=none) ⟨hb.os,hb.tape,hb.output,hb.size,fun k hk _=>hb.block k hk⟩ (by simp)
def bare(k:Int)(o n:ByteArray):ER:=⟨⟨k,[],o,n,[]⟩,none,0,none,0⟩
theorem j5(k:Int)(o n:bQ)(g:Nat):¬qc (bare k o n) g:=by
 rintro(⟨h,-⟩|⟨h,-⟩)<;>exact h rfl
theorem vJ(k:Int)(o n:bQ)(X:Nat)(w:ae):NewQ X w (bare k o n) :=
 ⟨fun h=>absurd rfl h,fun h=>absurd rfl h,⟨.inl rfl,.inl rfl⟩,fun g h=>absurd h (j5 k o n g),fun g h=>absurd (Or.inl h) (j5 k o n g),Vr _⟩
theorem PV(w:ae)(k:Int)(o n:bQ):yF (w.alloc (.cells #[.int .i64 k,.slice none 0 0,.string o,.string n,.slice none 0 0] 43)) w.heap.size (bare k o n):=by
 refine⟨?_,?_,?_,?_,?_,?_⟩<;>simp[bare]
theorem PW{w:ae}{X:Nat}{a0 a1 a2 a3 a4:Value}(h0:w.cell? ⟨X,0,none⟩=some a0)(h1:w.cell? ⟨X,1,none⟩=some a1)(h2:w.cell? ⟨X,2,none⟩=some a2)(h3:w.cell? ⟨X,3,none⟩=some a3)(h4:w.cell? ⟨X,4,none⟩=some a4)(hl:X<w.heap.size)(k:Int)(o n:bQ):
  yF (((((w.setCell ⟨X,0,none⟩ (.int .i64 k)).setCell ⟨X,1,none⟩ (.slice none 0 0)).setCell ⟨X,2,none⟩ (.string o)).setCell ⟨X,3,none⟩ (.string n)).setCell ⟨X,4,none⟩ (.slice none 0 0)) X (bare k o n):=by
 refine⟨?_,?_,?_,?_,?_,by simpa using hl⟩
 ·rw[mO (by omega),mO (by omega),mO (by omega),mO (by omega)];exact mS h0
 ·rw[mO (by omega),mO (by omega),mO (by omega)];exact mS (by rw[mO (by omega)];exact h1)
 ·rw[mO (by omega),mO (by omega)];exact mS (by rw[mO (by omega),mO (by omega)];exact h2)
 ·rw[mO (by omega)];exact mS (by rw[mO (by omega),mO (by omega),mO (by omega)];exact h3)
 exact mS (by rw[mO (by omega),mO (by omega),mO (by omega),mO (by omega)];exact h4)
def VB(l:Q03)(R:Nat)(s:ByteArray)(p:Nat)(bad:Bool)(v:Value)(k:Nat)(u:Value)(w':World):Prop:=u=l.getD k undef/\(k=3->RdC w' R s p bad v)
structure GB(R:Nat)(s:ByteArray)(p:Nat)(bad:Bool)(v:Value)(X:Nat)(q:ER)(w:World)(listed:Array Bool)(w':World):Prop where
 rd:listed.getD 3 false=false->RdC w' R s p bad v
 box:yF w' X q
 onl:Onl R nX w w'
 fr:jb w' X
theorem GB.step{R:Nat}{s:ByteArray}{p:Nat}{bad:Bool}{v:Value}{X:Nat}{q:ER}{w w':ae}{listed:Array Bool}(h:GB R s p bad v X q w listed w'){i:Nat}(hls:listed.size=6)(h3:i≠3):GB R s p bad v X q w (listed.setIfInBounds i true) w' :=
 ⟨fun k=>h.rd (by
  by_cases hi:i<6
  ·rw[aO _ _ _ (by omega),if_neg (Ne.symm h3)]at k;exact k
  rw[show listed.setIfInBounds i true=listed by rw[Array.setIfInBounds_eq_of_size_le (by omega)]]at k;exact k),h.box,h.onl,h.fr⟩
theorem GB.called{R:Nat}{s:ByteArray}{p:Nat}{bad:Bool}{v:Value}{X:Nat}{q:ER}{w w' w'':ae}{listed:Array Bool}(h:GB R s p bad v X q w listed w')(hls:listed.size=6)(hg:w'.grownBy w'' (some R))(hX:X≠R):GB R s p bad v X q w (listed.setIfInBounds 3 true) w'' :=
 ⟨fun k=>(by rw[aO _ _ _ (by omega),if_pos rfl]at k;cases k),h.box.grown hg (by intro e;injection e with e;exact hX e),h.onl.trans0 (Onl.of_grown hg),cO h.fr (hg.block X h.box.2.2.2.2.2 (by intro e;injection e with e;exact hX e))⟩
theorem PX{s:ByteArray}{st:RS}(h:mY s o6 (st.p+au s st.p) st.bad=false):fo s st=⟨2,[],⟨#[]⟩,ax s st.p,[]⟩/\aG s st=⟨st.p+au s st.p,st.bad,st.out⟩:=by
 have e:lH s o6 (bn s st)=false:=h;exact⟨by unfold fo;rw[e];rfl,by unfold aG;rw[e];rfl⟩
theorem MS{s:ByteArray}{st:RS}(h:mY s o6 (st.p+au s st.p) st.bad=true):fo s st=⟨3,[],ax s st.p,ax s (st.p+au s st.p+2),[]⟩/\aG s st=⟨st.p+au s st.p+2+au s (st.p+au s st.p+2),st.bad,st.out⟩:=by
 have e:lH s o6 (bn s st)=true:=h;exact⟨by unfold fo;rw[e];rfl,by unfold aG;rw[e];rfl⟩
theorem MU(R:Nat)(s:bQ)(st:RS)(base:Nat)(v:Value)(qs:Q08)(w:ae)(h:RdF w R s st base v qs)(hR:R<base)(hB:base<=w.heap.size)(hs:s.size<=1000)(hp:st.p<=s.size)(hn:qs.length<=100000)
  (h0:mY s fP st.p st.bad=false) (h1:mY s jG st.p st.bad=false) :
  Calls prog 324 #[.pointer (some ⟨R,0,none⟩)] w (vv R s base v qs w ((st.out.length:Int),sK (fo s st) (judged (fo s st) (aG s st)))):=by
 have H:=ai h;have HP:=ai hp;clear h hp;go_enter func324,ntmps324;go_wp2_with fail;refine(l8 R s fP st.p st.bad v w H.out.rd hs HP.out (by decide)).mono ?_;rintro e w1 ⟨rfl,hr1,hg1⟩;have XU:=ai (H.out.is_no hR h0 hr1 hg1);have Xb:=ai (Onl.of_grown hg1);rw[h0];clear hr1 hg1 h0;go_wp2_with fail;refine(l8 R s jG st.p st.bad v w1 XU.out.rd hs HP.out (by decide)).mono ?_;rintro e w2 ⟨rfl,hr2,hg2⟩;have Yb:=ai (XU.out.is_no hR h1 hr2 hg2);have WL:=ai (Xb.out.trans0 (Onl.of_grown hg2));rw[h1];clear hr2 hg2 h1 XU Xb;go_wp2_with fail;refine(vk R s st.p st.bad v w2 Yb.out.rd hs HP.out).mono ?_;rintro e w3 ⟨rfl,hr3,hg3⟩;have HF3:=ai (Yb.out.over hR (Onl.of_grown hg3) hr3);have Xc:=ai (WL.out.trans0 (Onl.of_grown hg3));have HP3:=ai (kE s st.p HP.out);have Zu:=ai (Aa s st.p HP.out);clear hr3 hg3 Yb WL;obtain⟨W4,XT⟩:∃W4,W4=w3.alloc (.cells #[.int .i64 2,.slice none 0 0,.string ⟨#[]⟩,.string (ax s st.p),.slice none 0 0] 43):=⟨_,rfl⟩;have HV4:Hid (yF W4 w3.heap.size (bare 2 ⟨#[]⟩ (ax s st.p))):=by rw[XT];exact PV w3 2 ⟨#[]⟩ (ax s st.p)
 have HO4a:Hid (Onl R nX w3 W4):=by rw[XT];exact Onl.of_below ((Vs _ _).alloc (Vr _) _)
 have YA:Hid (RdF W4 R s ⟨st.p+au s st.p,st.bad,st.out⟩ base v qs):=HF3.out.over hR HO4a.out (by rw[XT];exact HF3.out.rd.below ((Vs _ _).alloc (Vr _) _));have WZ:=ai (Xc.out.trans0 HO4a.out);have HFR4:Hid (jb W4 w3.heap.size):=fun y=>by rw[XT];simp
 have HXR:Hid (w3.heap.size≠R):=by have:=HF3.out.rd.lt;show _≠_;omega
 have HX0:Hid (w.heap.size<=w3.heap.size):=Xc.out.size;have HX3:Hid (w3.heap.size<=w3.heap.size):=Vr _;go_wp2_with fail;rw[<-XT];clear XT;obtain⟨X,hX⟩:∃X,X=w3.heap.size:=⟨_,rfl⟩;rw[<-hX]at HV4 HFR4 HXR HX0;replace HX3:Hid (w3.heap.size<=X):=Nat.le_of_eq hX.symm;rw[<-hX];clear hX;refine(l8 R s o6 (st.p+au s st.p) st.bad v W4 YA.out.rd hs HP3.out (by decide)).mono ?_;rintro e w5 ⟨rfl,hr5,hg5⟩;have HV5:=ai (HV4.out.grown hg5 (by intro e;injection e with e;exact HXR.out e));have HFR5:=ai (cO HFR4.out (hg5.block X HV4.out.2.2.2.2.2 (by intro e;injection e with e;exact HXR.out e)));have WV:=ai (WZ.out.trans0 (Onl.of_grown hg5));have HO35:=ai (HO4a.out.trans0 (Onl.of_grown hg5));cases hc:mY s o6 (st.p+au s st.p) st.bad;case false=>
  have HF5:=ai (YA.out.is_no hR hc hr5 hg5);have EQ:=ai (PX hc);clear hr5 hg5 hc YA WZ HV4 HFR4;obtain⟨x0,x1,x2,x3,x4,xl⟩:=HV5.out;replace x0:w5.cell? ⟨X,0,none⟩=some (.int .i64 2):=x0;replace x1:w5.cell? ⟨X,1,none⟩=some (.slice none 0 0):=x1;replace x2:w5.cell? ⟨X,2,none⟩=some (.string ⟨#[]⟩):=x2;replace x3:w5.cell? ⟨X,3,none⟩=some (.string (ax s st.p)):=x3;replace x4:w5.cell? ⟨X,4,none⟩=some (.slice none 0 0):=x4;go_wp2_with fail;refine(ma (bare 2 ⟨#[]⟩ (ax s st.p)) w5 ⟨fun a ha=>(by cases ha),Vv _,by show(ax s st.p).size<=maxLen;rw[Zu.out];have:=HP3.out;unfold maxLen;omega,Vv _,Vv _⟩ (by show(2:Int)≠1;decide)).mono ?_;rintro e w6 ⟨rfl,ZX⟩;have XL:=ai (WV.out.trans0 (Onl.of_below ZX));have Zv:=ai (HF5.out.over hR (Onl.of_below ZX) (HF5.out.rd.below ZX));obtain⟨y0,y1,y2,y3,y4,yl⟩:=HV5.out.below ZX;replace y0:w6.cell? ⟨X,0,none⟩=some (.int .i64 2):=y0;replace y1:w6.cell? ⟨X,1,none⟩=some (.slice none 0 0):=y1;replace y2:w6.cell? ⟨X,2,none⟩=some (.string ⟨#[]⟩):=y2;replace y3:w6.cell? ⟨X,3,none⟩=some (.string (ax s st.p)):=y3;replace y4:w6.cell? ⟨X,4,none⟩=some (.slice none 0 0):=y4;clear x0 x1 x2 x3 x4 xl ZX HV5 HF5 WV;cases hb:av (bare 2 ⟨#[]⟩ (ax s st.p)).e;case true=>
   have HE:Hid (fo s st=(bare 2 ⟨#[]⟩ (ax s st.p)).e/\judged (fo s st) (aG s st)=(⟨st.p+au s st.p,st.bad,st.out⟩:RS)):=by
    refine⟨EQ.out.1,?_⟩;rw[EQ.out.1,EQ.out.2];exact if_pos hb
   clear hb;go_wp2_with fail;refine(Mx R s ((⟨st.p+au s st.p,st.bad,st.out⟩:RS)) base v qs (bare 2 ⟨#[]⟩ (ax s st.p)) w6 Zv.out hR (Vz hB XL.out.size) hn (vJ _ _ _ _ _) (.inl ⟨rfl,rfl,rfl⟩) (fun g hg=>absurd hg (j5 _ _ _ g))).mono ?_;rintro e w7 ⟨v7,rfl,hF7,hW7⟩;have HF7:=ai hF7;have HW7:=ai ((XL.out.any v).trans hW7);clear hF7 hW7;go_wp2;exact bodyPost_ret (v:=.int .i64 (st.out.length:Int)) (by simp[results,Tryz.results324,go_sem]) rfl (by rw[HE.out.1,<-HE.out.1,HE.out.2,HE.out.1];exact⟨v7,[bare 2 ⟨#[]⟩ (ax s st.p)],rfl,HF7.out,HW7.out,fun q hq g hg=>by rw[VD]at hq;subst hq;exact absurd hg (j5 _ _ _ g)⟩)
  have HE:Hid (fo s st=(bare 2 ⟨#[]⟩ (ax s st.p)).e/\judged (fo s st) (aG s st)=ve ((⟨st.p+au s st.p,st.bad,st.out⟩:RS))):=by
   refine⟨EQ.out.1,?_⟩;rw[EQ.out.1,EQ.out.2];exact if_neg (fun e=>by have:=e.symm.trans hb;cases this)
  clear hb;have c2:=Zv.out.rd.c2;have f2:=Zv.out.rd.fr 2;have hl:=Zv.out.rd.lt;have hxr:=HXR.out;have hrx:=Ne.symm HXR.out;have ZN:Hid (Onl R nX w (w6.setCell ⟨R,2,none⟩ (.bool true))):=XL.out.at_own _ _;have HF7:Hid (RdF (w6.setCell ⟨R,2,none⟩ (.bool true)) R s (ve ((⟨st.p+au s st.p,st.bad,st.out⟩:RS))) base v qs):=Zv.out.over hR ((Onl.refl R nX w6).at_own _ _) Zv.out.rd.hurt;go_wp2_with fail;refine(Mx R s (ve ((⟨st.p+au s st.p,st.bad,st.out⟩:RS))) base v qs (bare 2 ⟨#[]⟩ (ax s st.p)) _ HF7.out hR (Vz hB ZN.out.size) hn (vJ _ _ _ _ _) (.inl ⟨rfl,rfl,rfl⟩) (fun g hg=>absurd hg (j5 _ _ _ g))).mono ?_;rintro e w8 ⟨v8,rfl,hF8,YC⟩;have HF8:=ai hF8;have HW8:=ai ((ZN.out.any v).trans YC);clear hF8 YC;go_wp2;exact bodyPost_ret (v:=.int .i64 (st.out.length:Int)) (by simp[results,Tryz.results324,go_sem,ve]) rfl (by rw[HE.out.1,<-HE.out.1,HE.out.2,HE.out.1];exact⟨v8,[bare 2 ⟨#[]⟩ (ax s st.p)],rfl,HF8.out,HW8.out,fun q hq g hg=>by rw[VD]at hq;subst hq;exact absurd hg (j5 _ _ _ g)⟩)
 have HF5:=ai (YA.out.is_yes hR hc hr5 hg5);have EQ:=ai (MS hc);have HP5:Hid (st.p+au s st.p+2<=s.size):=Ad hc;clear hr5 hg5 hc YA WZ HV4 HFR4;go_wp2_with fail;refine lW 5 _ _ (VB (Value.pointer (some ⟨X,3,none⟩)::.string (ax s st.p)::.pointer (some ⟨R,0,none⟩)::.string (ax s (st.p+au s st.p+2))::.agg #[.int .i64 3,.slice none 0 0,.string (ax s st.p),.string (ax s (st.p+au s st.p+2)),.slice none 0 0]::[]) R s ((st.p+au s st.p+2)+au s (st.p+au s st.p+2)) st.bad v) (GB R s (st.p+au s st.p+2) st.bad v X (bare 2 ⟨#[]⟩ (ax s st.p)) w3) (by kernel_rfl) rfl (by decide +kernel) (by decide +kernel) (F5 [(56,[0,1,2,3,4])]) ⟨fun _=>HF5.out.rd.drewN 1,HV5.out,⟨HO35.out.os,HO35.out.tape,HO35.out.output,HO35.out.size,HO35.out.block⟩,HFR5.out⟩ ?yu ?finB<;>dsimp only[Em];case yu =>
  rintro i hi o ho listed f w' hls X9 hG hpre;have HG:=ai hG;have HM:Hid (∀e∈o.after,Region.binds .any e=true->_):=hpre;clear hG hpre;have hc:i=0\/i=1\/i=2\/i=3\/i=4:=by omega
  clear hi
  repeat' rcases hc with rfl|hc
  ·cases ho;have HS:=ai (HG.out.step (i:=0) hls (by decide));refine aa rfl fun K HK=>?_;clear HM;dsimp only;go_simp;exact HK.out _ _ ⟨Value.pointer (some ⟨X,3,none⟩),by simp[upd],HS.out,⟨rfl,fun e=>absurd e (by decide)⟩,fun k u _ hu=>hu⟩
  ·cases ho;have e0:f 0=Value.pointer (some ⟨X,3,none⟩):=(HM.out ⟨0,.data⟩ (by simp) rfl).1;have x3:w'.cell? ⟨X,3,none⟩=some (.string (ax s st.p)):=HG.out.box.2.2.2.1;have HS:=ai (HG.out.step (i:=1) hls (by decide));refine aa rfl fun K HK=>?_;clear HM;simp only[e0];go_simp;exact HK.out _ _ ⟨Value.string (ax s st.p),by simp[upd,e0],HS.out,⟨rfl,fun e=>absurd e (by decide)⟩,fun k u _ hu=>hu⟩
  ·cases ho;have HS:=ai (HG.out.step (i:=2) hls (by decide));refine aa rfl fun K HK=>?_;clear HM;dsimp only;go_simp;exact HK.out _ _ ⟨Value.pointer (some ⟨R,0,none⟩),by simp[upd],HS.out,⟨rfl,fun e=>absurd e (by decide)⟩,fun k u _ hu=>hu⟩
  ·cases ho;have e2:f 2=Value.pointer (some ⟨R,0,none⟩):=(HM.out ⟨2,.data⟩ (by simp) rfl).1;have hrd:=ai (HG.out.rd (Jo X9 hls (by omega)));refine aa rfl fun K HK=>?_;clear HM;simp only[e2];go_simp;refine(vk R s (st.p+au s st.p+2) st.bad v w' hrd.out hs HP5.out).mono ?_;rintro e w7 ⟨rfl,hr7,YS⟩;have HS:=ai (HG.out.called hls YS HXR.out);have HR7:=ai hr7;clear hr7 YS;go_wp2_with fail;exact HK.out _ _ ⟨Value.string (ax s (st.p+au s st.p+2)),by simp[upd,e2],HS.out,⟨rfl,fun _=>HR7.out⟩,fun k u hk hu=>⟨hu.1,fun e=>absurd e hk⟩⟩
  cases ho;have e1:f 1=Value.string (ax s st.p):=(HM.out ⟨1,.data⟩ (by simp) rfl).1;have e3:f 3=Value.string (ax s (st.p+au s st.p+2)):=(HM.out ⟨3,.data⟩ (by simp) rfl).1;have HS:=ai (HG.out.step (i:=4) hls (by decide));refine aa rfl fun K HK=>?_;clear HM;simp only[e1,e3];go_simp;exact HK.out _ _ ⟨Value.agg #[.int .i64 3,.slice none 0 0,.string (ax s st.p),.string (ax s (st.p+au s st.p+2)),.slice none 0 0],by simp[upd,e1,e3],HS.out,⟨rfl,fun e=>absurd e (by decide)⟩,fun k u _ hu=>hu⟩
 case finB =>
  rintro o ho listed f w' hG hall;obtain rfl:=Option.some.inj ho;have e4:f 4=Value.agg #[.int .i64 3,.slice none 0 0,.string (ax s st.p),.string (ax s (st.p+au s st.p+2)),.slice none 0 0]:=(hall 4 (by omega)).1;have HRD:=ai ((hall 3 (by omega)).2 rfl);have HG:=ai hG;obtain⟨x0,x1,x2,x3,x4,xl⟩:=hG.box;have f0:=hG.fr 0;have f1:=hG.fr 1;have f2:=hG.fr 2;have f3:=hG.fr 3;have f4:=hG.fr 4;clear ho hall hG;refine wpOp_step rfl (fun K hK=>?_);have HK:Hid (∀a w,_->K a w):=hK;clear hK;simp only[e4];go_simp;refine HK.out _ _ ?_;clear HK;obtain⟨wz,hwz⟩:∃wz,wz=(((((w'.setCell ⟨X,0,none⟩ (.int .i64 3)).setCell ⟨X,1,none⟩ (.slice none 0 0)).setCell ⟨X,2,none⟩ (.string (ax s st.p))).setCell ⟨X,3,none⟩ (.string (ax s (st.p+au s st.p+2)))).setCell ⟨X,4,none⟩ (.slice none 0 0)):=⟨_,rfl⟩;have HO3z:Hid (Onl R nX w3 wz):=by rw[hwz];exact((((HG.out.onl.at_new HX3.out _ _).at_new HX3.out _ _).at_new HX3.out _ _).at_new HX3.out _ _).at_new HX3.out _ _
  have HRz:Hid (RdC wz R s (st.p+au s st.p+2+au s (st.p+au s st.p+2)) st.bad v):=by rw[hwz];exact((((HRD.out.other HXR.out _ _).other HXR.out _ _).other HXR.out _ _).other HXR.out _ _).other HXR.out _ _
  have HVz:Hid (yF wz X (bare 3 (ax s st.p) (ax s (st.p+au s st.p+2)))):=by rw[hwz];exact PW x0 x1 x2 x3 x4 xl _ _ _
  clear HV5 HF5 WV HO35 HFR5;have HF5:=ai (HF3.out.over hR HO3z.out HRz.out);have WV:=ai (Xc.out.trans0 HO3z.out);rw[<-hwz];clear hwz x0 x1 x2 x3 x4 xl f0 f1 f2 f3 f4 e4 HRz HO3z HG HRD;obtain⟨x0,x1,x2,x3,x4,xl⟩:=HVz.out;replace x0:wz.cell? ⟨X,0,none⟩=some (.int .i64 3):=x0;replace x1:wz.cell? ⟨X,1,none⟩=some (.slice none 0 0):=x1;replace x2:wz.cell? ⟨X,2,none⟩=some (.string (ax s st.p)):=x2;replace x3:wz.cell? ⟨X,3,none⟩=some (.string (ax s (st.p+au s st.p+2))):=x3;replace x4:wz.cell? ⟨X,4,none⟩=some (.slice none 0 0):=x4;go_wp2_with fail;refine(ma (bare 3 (ax s st.p) (ax s (st.p+au s st.p+2))) wz ⟨fun a ha=>(by cases ha),by show(ax s st.p).size<=maxLen;rw[Zu.out];have:=HP3.out;unfold maxLen;omega,by show(ax s (st.p+au s st.p+2)).size<=maxLen;rw[Aa s _ HP5.out];have:=kE s _ HP5.out;unfold maxLen;omega,Vv _,Vv _⟩ (by show(3:Int)≠1;decide)).mono ?_;rintro e w6 ⟨rfl,ZX⟩;have XL:=ai (WV.out.trans0 (Onl.of_below ZX));have Zv:=ai (HF5.out.over hR (Onl.of_below ZX) (HF5.out.rd.below ZX));obtain⟨y0,y1,y2,y3,y4,yl⟩:=HVz.out.below ZX;replace y0:w6.cell? ⟨X,0,none⟩=some (.int .i64 3):=y0;replace y1:w6.cell? ⟨X,1,none⟩=some (.slice none 0 0):=y1;replace y2:w6.cell? ⟨X,2,none⟩=some (.string (ax s st.p)):=y2;replace y3:w6.cell? ⟨X,3,none⟩=some (.string (ax s (st.p+au s st.p+2))):=y3;replace y4:w6.cell? ⟨X,4,none⟩=some (.slice none 0 0):=y4;clear x0 x1 x2 x3 x4 xl ZX HVz HF5 WV;cases hb:av (bare 3 (ax s st.p) (ax s (st.p+au s st.p+2))).e;case true=>
   have HE:Hid (fo s st=(bare 3 (ax s st.p) (ax s (st.p+au s st.p+2))).e/\judged (fo s st) (aG s st)=(⟨st.p+au s st.p+2+au s (st.p+au s st.p+2),st.bad,st.out⟩:RS)):=by
    refine⟨EQ.out.1,?_⟩;rw[EQ.out.1,EQ.out.2];exact if_pos hb
   clear hb;go_wp2_with fail;refine(Mx R s ((⟨st.p+au s st.p+2+au s (st.p+au s st.p+2),st.bad,st.out⟩:RS)) base v qs (bare 3 (ax s st.p) (ax s (st.p+au s st.p+2))) w6 Zv.out hR (Vz hB XL.out.size) hn (vJ _ _ _ _ _) (.inl ⟨rfl,rfl,rfl⟩) (fun g hg=>absurd hg (j5 _ _ _ g))).mono ?_;rintro e w7 ⟨v7,rfl,hF7,hW7⟩;have HF7:=ai hF7;have HW7:=ai ((XL.out.any v).trans hW7);clear hF7 hW7;go_wp2;exact bodyPost_ret (v:=.int .i64 (st.out.length:Int)) (by simp[results,Tryz.results324,go_sem]) rfl (by rw[HE.out.1,<-HE.out.1,HE.out.2,HE.out.1];exact⟨v7,[bare 3 (ax s st.p) (ax s (st.p+au s st.p+2))],rfl,HF7.out,HW7.out,fun q hq g hg=>by rw[VD]at hq;subst hq;exact absurd hg (j5 _ _ _ g)⟩)
  have HE:Hid (fo s st=(bare 3 (ax s st.p) (ax s (st.p+au s st.p+2))).e/\judged (fo s st) (aG s st)=ve ((⟨st.p+au s st.p+2+au s (st.p+au s st.p+2),st.bad,st.out⟩:RS))):=by
   refine⟨EQ.out.1,?_⟩;rw[EQ.out.1,EQ.out.2];exact if_neg (fun e=>by have:=e.symm.trans hb;cases this)
  clear hb;have c2:=Zv.out.rd.c2;have f2:=Zv.out.rd.fr 2;have hl:=Zv.out.rd.lt;have hxr:=HXR.out;have hrx:=Ne.symm HXR.out;have ZN:Hid (Onl R nX w (w6.setCell ⟨R,2,none⟩ (.bool true))):=XL.out.at_own _ _;have HF7:Hid (RdF (w6.setCell ⟨R,2,none⟩ (.bool true)) R s (ve ((⟨st.p+au s st.p+2+au s (st.p+au s st.p+2),st.bad,st.out⟩:RS))) base v qs):=Zv.out.over hR ((Onl.refl R nX w6).at_own _ _) Zv.out.rd.hurt;go_wp2_with fail;refine(Mx R s (ve ((⟨st.p+au s st.p+2+au s (st.p+au s st.p+2),st.bad,st.out⟩:RS))) base v qs (bare 3 (ax s st.p) (ax s (st.p+au s st.p+2))) _ HF7.out hR (Vz hB ZN.out.size) hn (vJ _ _ _ _ _) (.inl ⟨rfl,rfl,rfl⟩) (fun g hg=>absurd hg (j5 _ _ _ g))).mono ?_;rintro e w8 ⟨v8,rfl,hF8,YC⟩;have HF8:=ai hF8;have HW8:=ai ((ZN.out.any v).trans YC);clear hF8 YC;go_wp2;exact bodyPost_ret (v:=.int .i64 (st.out.length:Int)) (by simp[results,Tryz.results324,go_sem,ve]) rfl (by rw[HE.out.1,<-HE.out.1,HE.out.2,HE.out.1];exact⟨v8,[bare 3 (ax s st.p) (ax s (st.p+au s st.p+2))],rfl,HF8.out,HW8.out,fun q hq g hg=>by rw[VD]at hq;subst hq;exact absurd hg (j5 _ _ _ g)⟩)
structure PL(w1 wr:World)(R X:Nat)(s:ByteArray)(xs:Q0a)(p:Nat)(bad:Bool)(v vA:Value):Prop where
 rd:RdC wr R s p bad v
 onl:Onl R nX w1 wr
 c0:wr.cell? ⟨X,0,none⟩=some (.int .i64 1)
 c1:wr.cell? ⟨X,1,none⟩=some vA
 c2:wr.cell? ⟨X,2,none⟩=some (.string ⟨#[]⟩)
 c3:wr.cell? ⟨X,3,none⟩=some (.string ⟨#[]⟩)
 c4:wr.cell? ⟨X,4,none⟩=some (.slice none 0 0)
 fr:jb wr X
 lt:X<wr.heap.size
 own:wr.ownsRow (X+1) 216 2 vA xs.length (pairs xs)
theorem PL.moved{w1 wr w':ae}{R X:Nat}{s:ByteArray}{xs:Q0a}{p p':Nat}{bad bad':Bool}{v vA:Value}(h:PL w1 wr R X s xs p bad v vA)(hRX:R<X)(hg:wr.grownBy w' (some R))(hr:RdC w' R s p' bad' v):PL w1 w' R X s xs p' bad' v vA:=by
 have hne:some X≠some R:=by intro e;injection e with e;omega
 refine⟨hr,h.onl.trans0 (Onl.of_grown hg),hg.cell h.c0 hne,hg.cell h.c1 hne,hg.cell h.c2 hne,hg.cell h.c3 hne,hg.cell h.c4 hne,cO h.fr (hg.block X h.lt hne),Vq h.lt hg.size,h.own.kept hg (.inr ?_)⟩;intro e;have:=(h.own.lt R e).1;omega
theorem PL.made{w1 wr:ae}{R X:Nat}{s:ByteArray}{xs:Q0a}{p:Nat}{bad:Bool}{v vA:Value}(h:PL w1 wr R X s xs p bad v vA)(o:Obj):PL w1 (wr.alloc o) R X s xs p bad v vA:=by
 have hg:=World.grownBy_alloc wr o none;exact⟨h.rd.grown hg (by simp),h.onl.trans0 (Onl.of_below ((Vs _ _).alloc (Vr _) _)),hg.cell h.c0 (by simp),hg.cell h.c1 (by simp),hg.cell h.c2 (by simp),hg.cell h.c3 (by simp),hg.cell h.c4 (by simp),cO h.fr (hg.block X h.lt (by simp)),Vq h.lt hg.size,h.own.alloc o⟩
theorem PL.aset{w1 wr:ae}{R X:Nat}{s:ByteArray}{xs:Q0a}{p:Nat}{bad:Bool}{v vA:Value}(h:PL w1 wr R X s xs p bad v vA)(hRX:R<X)(h1:w1.heap.size<=X){A:Nat}(hA:X<A)(hv:vA.ownBlock≠some A)(o:Nat)(u:Value):PL w1 (wr.setCell ⟨A,o,none⟩ u) R X s xs p bad v vA:=by
 have hb:∀k,k≠A->(wr.setCell ⟨A,o,none⟩ u).heap[k]?=wr.heap[k]?:=fun k hk=>Below.heap_setCell wr _ _ k hk;refine⟨h.rd.other (by omega) _ _,h.onl.at_new (by omega) _ _,?_,?_,?_,?_,?_,cO h.fr (hb X (by omega)),by simpa using h.lt,jH h.own fun g hg=>hb g (fun e=>hv (by rw[hg,e]))⟩
 all_goals rw[VR (w:=wr) (hb X (by omega))]
 ·exact h.c0
 ·exact h.c1
 ·exact h.c2
 ·exact h.c3
 exact h.c4
theorem MV(xs:Q0a)(a:Al):pairs (xs++[a])=pairs xs++[.string a.t,.string a.s]:=by simp[pairs]
theorem PL.app{w1 wr w':ae}{R X:Nat}{s:ByteArray}{xs:Q0a}{p:Nat}{bad:Bool}{v vA vB:Value}(h:PL w1 wr R X s xs p bad v vA)(hRX:R<X)(h1:w1.heap.size<=X)(a:Al)(hown:w'.ownsRow (X+1) 216 2 vB (xs.length+1) (pairs xs++[.string a.t,.string a.s]))(hg:wr.grownBy w' vA.ownBlock):PL w1 (w'.setCell ⟨X,1,none⟩ vB) R X s (xs++[a]) p bad v vB:=by
 have hX:some X≠vA.ownBlock:=fun e=>by have:=(h.own.lt X e.symm).1;omega
 have hR:some R≠vA.ownBlock:=fun e=>by have:=(h.own.lt R e.symm).1;omega
 have ho:Onl R nX w1 w':=⟨hg.os.trans h.onl.os,hg.tape.trans h.onl.tape,hg.output.trans h.onl.output,Vz h.onl.size hg.size,fun k hk h2 h3=>(hg.block k (Vq hk h.onl.size) (fun e=>by have:=(h.own.lt k e.symm).1;omega)).trans (h.onl.block k hk h2 h3)⟩;refine⟨(h.rd.grown hg hR).other (by omega) _ _,ho.at_new h1 _ _,?_,mS (hg.cell h.c1 hX),?_,?_,?_,fun j=>?_,?_,?_⟩
 ·rw[mO (by omega)];exact hg.cell h.c0 hX
 ·rw[mO (by omega)];exact hg.cell h.c2 hX
 ·rw[mO (by omega)];exact hg.cell h.c3 hX
 ·rw[mO (by omega)];exact hg.cell h.c4 hX
 ·simpa using cO h.fr (hg.block X h.lt hX) j
 ·simpa using Vq h.lt hg.size
 rw[MV,Vx,VW];exact ownsRow_setCell_below hown (by show X<X+1;omega) _
def wbad(R:Nat)(w:World):Nat:=match w.cell? ⟨R,2,none⟩ with
 | some (.bool true)=>0
 | _=>1
theorem RdC.wbad0{w:ae}{R:Nat}{s:ByteArray}{p:Nat}{v:Value}(h:RdC w R s p true v):wbad R w=0:=by
 simp[Go.Proofs.YtojjoblnpldniaaGreat.wbad,h.c2]
theorem RdC.wbad1{w:ae}{R:Nat}{s:ByteArray}{p:Nat}{v:Value}(h:RdC w R s p false v):wbad R w=1:=by
 simp[Go.Proofs.YtojjoblnpldniaaGreat.wbad,h.c2]
theorem AA(w:ae)(a b:bQ)(g:Nat)(hg:w.heap.size=g):∀j u,[Value.string a,.string b][j]?=some u->(w.alloc (.cells #[.string a,.string b] 216)).cell? ((⟨g,0,none⟩:Addr).add j)=some u:=by
 intro j u hu;subst hg;rw[show(⟨w.heap.size,0,none⟩:Addr).add j=⟨w.heap.size,0+j,none⟩ by simp[Addr.add];omega,VQ];have:=World.cell?_alloc_mark w #[.string a,.string b] 216 (0,0) j;rw[this];simpa using hu
def qW(s:ByteArray)(st:RS):Int×RS:=match dE s (s.size+1) [] (kD fP st) with
 | (some xs,st')=>((st'.out.length:Int),sK ⟨1,xs,⟨#[]⟩,⟨#[]⟩,[]⟩ st')
 | (none,st')=>(0,st')
theorem JN{s:ByteArray}{st st':RS}{xs:Q0a}(h:dE s (s.size+1) [] (kD fP st)=(some xs,st')):qW s st=((st'.out.length:Int),sK ⟨1,xs,⟨#[]⟩,⟨#[]⟩,[]⟩ st'):=by simp only[qW,h]
theorem JO{s:ByteArray}{st st':RS}(h:dE s (s.size+1) [] (kD fP st)=(none,st')):qW s st=(0,st'):=by simp only[qW,h]
theorem JP(s:bQ)(n:Nat)(xs:Q0a)(p:Nat)(o:Q09):dE s n xs ⟨p,true,o⟩=(none,⟨p,true,o⟩):=by
 cases n with
 | zero=>rfl
 | succ n=>rfl
structure PairIs(s:ByteArray)(p:Nat)(o:Q09)(a:Al)(pb:Nat):Prop where
 a:(⟨ax s p,yE s (bn s ⟨p,false,o⟩)⟩:Al)=a
 b:aT s (bn s ⟨p,false,o⟩)=⟨pb,false,o⟩
theorem MW{s:ByteArray}{p:Nat}{o:Q09}(h:mY s uZ (p+au s p) false=false):PairIs s p o ⟨ax s p,⟨#[]⟩⟩ (p+au s p):=by
 have e:lH s uZ (bn s ⟨p,false,o⟩)=false:=h;exact⟨by unfold yE;rw[e];rfl,by unfold aT;rw[e];rfl⟩
theorem JQ{s:ByteArray}{p:Nat}{o:Q09}(h:mY s uZ (p+au s p) false=true):PairIs s p o ⟨ax s p,ax s (p+au s p+1)⟩ (p+au s p+1+au s (p+au s p+1)):=by
 have e:lH s uZ (bn s ⟨p,false,o⟩)=true:=h;exact⟨by unfold yE;rw[e];rfl,by unfold aT;rw[e];rfl⟩
theorem GU{s:ByteArray}{p pb n:Nat}{o:Q09}{a:Al}{xs:Q0a}(h:PairIs s p o a pb)(h1:mY s fB pb false=true):dE s (n+1) xs ⟨p,false,o⟩=(some (xs++[a]),⟨pb+1,false,o⟩):=by
 have e:lH s fB ⟨pb,false,o⟩=true:=h1;unfold dE;rw[h.a,h.b,e];rfl
theorem GV{s:ByteArray}{p pb n:Nat}{o:Q09}{a:Al}{xs:Q0a}(h:PairIs s p o a pb)(h1:mY s fB pb false=false)(h2:mY s l7 pb false=true):dE s (n+1) xs ⟨p,false,o⟩=dE s n (xs++[a]) ⟨pb+1,false,o⟩:=by
 have e:lH s fB ⟨pb,false,o⟩=false:=h1;have e2:lH s l7 ⟨pb,false,o⟩=true:=h2
 conv=>lhs;unfold dE
 rw[h.a,h.b,e,e2];rfl
theorem MX{s:ByteArray}{p pb n:Nat}{o:Q09}{a:Al}{xs:Q0a}(h:PairIs s p o a pb)(h1:mY s fB pb false=false)(h2:mY s l7 pb false=false):dE s (n+1) xs ⟨p,false,o⟩=dE s n (xs++[a]) ⟨pb,true,o⟩:=by
 have e:lH s fB ⟨pb,false,o⟩=false:=h1;have e2:lH s l7 ⟨pb,false,o⟩=false:=h2
 conv=>lhs;unfold dE
 rw[h.a,h.b,e,e2];rfl
theorem capOf{w:ae}{base size n m cap:Nat}{e:TypeId}{ad:Q02}{xs:Q03}(h:w.ownsRow base e size (.slice ad n cap) m xs)(hm:m=n:=by rfl):n<=cap:=by
 rcases h.2 with⟨e1,h0⟩|⟨g,cap',cur,e1,-,-,hnc,-⟩
 ·injection e1 with _ e2 e3;omega
 injection e1 with _ e2 e3;omega
theorem PL.node{w1 wr:ae}{R X:Nat}{s:ByteArray}{xs:Q0a}{p:Nat}{bad:Bool}{v vA:Value}(h:PL w1 wr R X s xs p bad v vA)(h1:w1.heap.size<=X){base:Nat}(hb:base<=w1.heap.size):∃ad cap,vA=.slice ad xs.length cap/\NewQ base wr ⟨⟨1,xs,⟨#[]⟩,⟨#[]⟩,[]⟩,ad,cap,none,0⟩/\∀g,qc ⟨⟨1,xs,⟨#[]⟩,⟨#[]⟩,[]⟩,ad,cap,none,0⟩ g->X<g:=by
 obtain⟨ad,cap,e,h2,h3,h4⟩:=UU h.own rfl;have hK:∀g,¬bK ⟨⟨1,xs,⟨#[]⟩,⟨#[]⟩,[]⟩,ad,cap,none,0⟩ g:=fun g hg=>hg.1 rfl;have hA:∀g,qc ⟨⟨1,xs,⟨#[]⟩,⟨#[]⟩,[]⟩,ad,cap,none,0⟩ g->X+1<=g/\g<wr.heap.size/\jb wr g:=by
  rintro g (hg|hg)
  ·exact h4 g hg.1 hg.2
  exact absurd hg (hK g)
 refine⟨ad,cap,e,⟨h3,fun h=>absurd rfl h,⟨h2,.inl rfl⟩,fun g hg=>⟨?_,(hA g hg).2⟩,fun g _ hg=>hK g hg,capOf (e ▸ h.own)⟩,fun g hg=>(hA g hg).1⟩;have:=(hA g hg).1;omega
theorem MZ(R:Nat)(s:bQ)(st:RS)(base:Nat)(v:Value)(qs:Q08)(w:ae)(h:RdF w R s st base v qs)(hR:R<base)(hB:base<=w.heap.size)(hs:s.size<=1000)(hp:st.p<=s.size)(hn:qs.length<=100000)
  (h0:mY s fP st.p st.bad=true) :
  Calls prog 324 #[.pointer (some ⟨R,0,none⟩)] w (vv R s base v qs w (qW s st)):=by
 obtain⟨iA,hiA,zA0,zA1,zA2⟩:=info_parts (P:=prog) (e:=216) (z:=.agg #[.string ⟨#[]⟩,.string ⟨#[]⟩]) (size:=2) (bytes:=32) (by kernel_rfl);have HIA:Hid (prog.info? 216=some iA/\iA.zero=some (.agg #[.string ⟨#[]⟩,.string ⟨#[]⟩])/\iA.size=2/\iA.bytes=32):=⟨hiA,zA0,zA1,zA2⟩;have H:=ai h;have HP:=ai hp
 have hbad:st.bad=false:=by cases e:st.bad with
  | false=>rfl
  | true=>rw[e]at h0;cases h0
 have HBD:=ai hbad;have HP1:Hid (st.p+5<=s.size):=Ad h0;clear h hp hiA zA0 zA1 zA2 hbad;go_enter func324,ntmps324;go_wp2_with fail;refine(l8 R s fP st.p st.bad v w H.out.rd hs HP.out (by decide)).mono ?_;rintro e w1 ⟨rfl,hr1,hg1⟩;have XU:=ai (H.out.is_yes hR h0 hr1 hg1);have Xb:=ai (Onl.of_grown hg1);rw[h0];clear hr1 hg1 h0;obtain⟨W2,hW2⟩:∃W2,W2=w1.alloc (.cells #[.int .i64 1,.slice none 0 0,.string ⟨#[]⟩,.string ⟨#[]⟩,.slice none 0 0] 43):=⟨_,rfl⟩;have HL2:Hid (PL w1 W2 R w1.heap.size s [] (st.p+5) false v (.slice none 0 0)):=by
  rw[hW2];have hrd:RdC w1 R s (st.p+5) false v:=by have:=XU.out.rd;rw[show(kD fP st).bad=false from HBD.out]at this;exact this
  refine⟨hrd.below ((Vs _ _).alloc (Vr _) _),Onl.of_below ((Vs _ _).alloc (Vr _) _),by simp,by simp,by simp,by simp,by simp,fun j=>by simp,by simp,World.ownsRow_nil _ _ _ _⟩
 have HX0:Hid (w.heap.size<=w1.heap.size):=Xb.out.size;have ZY:Hid (R<w1.heap.size):=XU.out.rd.lt;have YG:Hid (w1.heap.size<=w1.heap.size):=Vr _;go_wp2_with fail;rw[<-hW2];clear hW2;obtain⟨X,hX⟩:∃X,X=w1.heap.size:=⟨_,rfl⟩;replace HL2:Hid (PL w1 W2 R X s [] (st.p+5) false v (.slice none 0 0)):=by rw[hX];exact HL2
 replace HX0:Hid (w.heap.size<=X):=by rw[hX];exact HX0
 replace ZY:Hid (R<X):=by rw[hX];exact ZY
 replace YG:Hid (w1.heap.size<=X):=by rw[hX];exact YG
 rw[<-hX];clear hX;go_loopw[14] (fun _ wr=>∃(n p:Nat) (bad:Bool) (xs:Q0a) (vA:Value),Hid (p<=s.size)/\Hid (dE s n xs ⟨p,bad,st.out⟩=dE s (s.size+1) [] (kD fP st))/\Hid (bad=false->s.size-p<n/\xs.length+5<=p)/\Hid (PL w1 wr R X s xs p bad v vA)) (fun _ wr=>s.size-wat R wr+wbad R wr);case atStart=>exact⟨s.size+1,st.p+5,false,[],.slice none 0 0,HP1.out,by show _=_;unfold kD;rw[HBD.out];rfl,fun _=>⟨by omega,by simp⟩,HL2.out⟩
 obtain⟨n,p,bad,xs,vA,HPL,HPP,HLN,HL⟩:=hrel;clear HL2;have r2:=HL.out.rd.c2;have rl:=HL.out.rd.lt;cases bad;case true=>
  have EQ:=ai (JO (HPP.out.symm.trans (JP s n xs p st.out)));have HF:=ai (XU.out.over hR HL.out.onl HL.out.rd);have HO:=ai (Xb.out.trans0 HL.out.onl);go_wp2;exact bodyPost_ret (v:=.int .i64 0) (by simp[results,Tryz.results324,go_sem]) rfl (by rw[EQ.out];exact⟨v,[],rfl,by rw[Wp];exact HF.out,HO.out.any v,fun q hq=>by cases hq⟩)
 obtain⟨m,hm⟩:∃m,n=m+1:=⟨n-1,by have:=(HLN.out rfl).1;omega⟩;subst hm;have HPW:=ai (kE s p HPL.out);have HLN1:=ai (HLN.out rfl).1;have HLN2:=ai (HLN.out rfl).2;clear HLN;go_wp2_with fail;refine(vk R s p false v wr HL.out.rd hs HPL.out).mono ?_;rintro e w4 ⟨rfl,hr4,hg4⟩;have HL4:=ai (HL.out.moved ZY.out hg4 hr4);have HPLC:=ai HL.out.rd.place;have HPLB:=ai HL.out.rd.wbad1;clear hr4 hg4 HL r2 rl;obtain⟨W5,XW⟩:∃W5,W5=w4.alloc (.cells #[.string (ax s p),.string ⟨#[]⟩] 216):=⟨_,rfl⟩;have HL5:Hid (PL w1 W5 R X s xs (p+au s p) false v vA):=by rw[XW];exact HL4.out.made _
 have HA0:Hid (W5.cell? ⟨w4.heap.size,0,none⟩=some (.string (ax s p))):=by show _=_;rw[XW];simp
 have HA1:Hid (W5.cell? ⟨w4.heap.size,1,none⟩=some (.string ⟨#[]⟩)):=by show _=_;rw[XW];simp
 have HAF:Hid (jb W5 w4.heap.size):=fun j=>by rw[XW];simp
 have WX:Hid (w4.heap.size<W5.heap.size):=by show _<_;rw[XW];simp
 have HAX:Hid (X<w4.heap.size):=HL4.out.lt;have HAV:Hid (vA.ownBlock≠some w4.heap.size):=fun e=>by have:=(HL4.out.own.lt _ e).2;omega
 go_wp2_with fail;rw[<-XW];clear XW;obtain⟨A,hA⟩:∃A,A=w4.heap.size:=⟨_,rfl⟩;rw[<-hA]at HA0 HA1 HAF WX HAX HAV;rw[<-hA];clear hA HL4;refine(l8 R s uZ (p+au s p) false v W5 HL5.out.rd hs HPW.out (by decide)).mono ?_;rintro e w6 ⟨rfl,Yt,ZR⟩;have HAR:Hid (some A≠some R):=by intro e;injection e with e;have:=ZY.out;have:=HAX.out;omega
 have HB0:=ai (ZR.cell HA0.out HAR.out);have HB1:=ai (ZR.cell HA1.out HAR.out);have HBF:=ai (cO HAF.out (ZR.block A WX.out HAR.out));have HBL:=ai (Vq WX.out ZR.size);cases hc:mY s uZ (p+au s p) false
 case' false =>
  rw[Ab hc]at Yt;have HL6:=ai (HL5.out.moved ZY.out ZR Yt);have PI:=ai (MW (o:=st.out) hc);have HPB:=HPW;have HPG:Hid (p<=p+au s p):=Nat.le_add_right _ _;clear Yt ZR hc HL5 HA0 HA1 HAF WX;have a0:=HB0.out;have a1:=HB1.out;have k1:=HL6.out.c1;obtain⟨W9,hW9⟩:∃W9,W9=w6.alloc (.cells #[.string (ax s p),.string ((⟨#[]⟩:ByteArray))] 216):=⟨_,rfl⟩;have YZ:Hid (PL w1 W9 R X s xs (p+au s p) false v vA):=by rw[hW9];exact HL6.out.made _
  have Yw:Hid (∀j u,[Value.string (ax s p),.string ((⟨#[]⟩:ByteArray))][j]?=some u->W9.cell? ((⟨w6.heap.size,0,none⟩:Addr).add j)=some u):=by rw[hW9];exact AA w6 _ _ _ (rfl)
  have HSZ9:Hid (X+1<=W9.heap.size):=YZ.out.lt;have hxs:xs.length<=1000:=by have:=HLN2.out;have:=HPL.out;omega
  go_wp2_with(at_builtin;rw[<-hW9];clear hW9;refine wpList_append_own _ rfl _ _ 40 rfl (X+1) 216 iA (.agg #[.string ⟨#[]⟩,.string ⟨#[]⟩]) 2 32 underlying40 HIA.out.1 HIA.out.2.1 HIA.out.2.2.1 HIA.out.2.2.2 rfl (by decide) vA xs.length (pairs xs) rfl YZ.out.own ⟨w6.heap.size,0,none⟩ 1 1 [Value.string (ax s p),.string ((⟨#[]⟩:ByteArray))] rfl rfl Yw.out (by intro u hu;simp at hu;rcases hu with rfl|rfl<;>rfl) (by unfold maxLen;omega) (by omega) HSZ9.out ?_);intro vB w10 XX XK _;obtain⟨gB,cB,rfl⟩:=fH XX;have ZZ:some X≠vA.ownBlock:=fun e=>by have:=(YZ.out.own.lt X e.symm).1;omega
  have k10:=XK.cell YZ.out.c1 ZZ;have f10:=cO YZ.out.fr (XK.block X YZ.out.lt ZZ) 1;have l10:=Vq YZ.out.lt XK.size;have YE:=ai (YZ.out.app ZY.out YG.out ⟨ax s p,(⟨#[]⟩:ByteArray)⟩ XX XK);clear XX XK a0 a1 k1 YZ ZZ Yw HSZ9 HL6;obtain⟨P,hP⟩:∃P,P=p+au s p:=⟨_,rfl⟩;obtain⟨S2,hS2⟩:∃S2:ByteArray,S2=⟨#[]⟩:=⟨_,rfl⟩;rw[<-hP]at YE PI HPB HPG;rw[<-hS2]at YE PI;clear hP hS2
 case' true =>
  rw[vg hc]at Yt;have HL6:=ai (HL5.out.moved ZY.out ZR Yt);have PI:=ai (JQ (o:=st.out) hc);have HPH:Hid (p+au s p+1<=s.size):=Ad hc;have HPB:=ai (kE s _ HPH.out);have HPG:Hid (p<=p+au s p+1+au s (p+au s p+1)):=by show _<=_;omega
  clear Yt ZR hc HL5 HA0 HA1 HAF WX;go_wp2_with fail;refine(vk R s (p+au s p+1) false v w6 HL6.out.rd hs HPH.out).mono ?_;rintro e w7 ⟨rfl,hr7,YS⟩;have HL7:=ai (HL6.out.moved ZY.out YS hr7);have XR:=ai (YS.cell HB0.out HAR.out);have a1:=YS.cell HB1.out HAR.out;have hcf:=cO HBF.out (YS.block A HBL.out HAR.out);have f1:=hcf 1;have hcl:=Vq HBL.out YS.size;obtain⟨W8,YC⟩:∃W8,W8=w7.setCell ⟨A,1,none⟩ (.string (ax s (p+au s p+1))):=⟨_,rfl⟩;have HL8:Hid (PL w1 W8 R X s xs (p+au s p+1+au s (p+au s p+1)) false v vA):=by rw[YC];exact HL7.out.aset ZY.out YG.out HAX.out HAV.out _ _
  have HD0:Hid (W8.cell? ⟨A,0,none⟩=some (.string (ax s p))):=by show _=_;rw[YC,mO (by omega)];exact XR.out
  have HD1:Hid (W8.cell? ⟨A,1,none⟩=some (.string (ax s (p+au s p+1)))):=by show _=_;rw[YC];exact mS a1
  clear hr7 YS HL6 HB0 HB1 HBF HBL;have a0:=XR.out;have k1:=HL7.out.c1;have hxa:X≠A:=by have:=HAX.out;omega
  have hax:A≠X:=by have:=HAX.out;omega
  obtain⟨W9,hW9⟩:∃W9,W9=W8.alloc (.cells #[.string (ax s p),.string (ax s (p+au s p+1))] 216):=⟨_,rfl⟩;have YZ:Hid (PL w1 W9 R X s xs (p+au s p+1+au s (p+au s p+1)) false v vA):=by rw[hW9];exact HL8.out.made _
  have Yw:Hid (∀j u,[Value.string (ax s p),.string (ax s (p+au s p+1))][j]?=some u->W9.cell? ((⟨w7.heap.size,0,none⟩:Addr).add j)=some u):=by rw[hW9];exact AA W8 _ _ _ (by rw[YC];simp)
  have HSZ9:Hid (X+1<=W9.heap.size):=YZ.out.lt;have hxs:xs.length<=1000:=by have:=HLN2.out;have:=HPL.out;omega
  go_wp2_with(at_builtin;rw[<-YC];clear YC;rw[<-hW9];clear hW9;refine wpList_append_own _ rfl _ _ 40 rfl (X+1) 216 iA (.agg #[.string ⟨#[]⟩,.string ⟨#[]⟩]) 2 32 underlying40 HIA.out.1 HIA.out.2.1 HIA.out.2.2.1 HIA.out.2.2.2 rfl (by decide) vA xs.length (pairs xs) rfl YZ.out.own ⟨w7.heap.size,0,none⟩ 1 1 [Value.string (ax s p),.string (ax s (p+au s p+1))] rfl rfl Yw.out (by intro u hu;simp at hu;rcases hu with rfl|rfl<;>rfl) (by unfold maxLen;omega) (by omega) HSZ9.out ?_);intro vB w10 XX XK _;obtain⟨gB,cB,rfl⟩:=fH XX;have ZZ:some X≠vA.ownBlock:=fun e=>by have:=(YZ.out.own.lt X e.symm).1;omega
  have k10:=XK.cell YZ.out.c1 ZZ;have f10:=cO YZ.out.fr (XK.block X YZ.out.lt ZZ) 1;have l10:=Vq YZ.out.lt XK.size;have YE:=ai (YZ.out.app ZY.out YG.out ⟨ax s p,ax s (p+au s p+1)⟩ XX XK);clear XX XK a0 a1 k1 YZ ZZ Yw HSZ9 HL8 hxa hax f1 hcl hcf;obtain⟨P,hP⟩:∃P,P=p+au s p+1+au s (p+au s p+1):=⟨_,rfl⟩;obtain⟨S2,hS2⟩:∃S2:ByteArray,S2=ax s (p+au s p+1):=⟨_,rfl⟩;rw[<-hP]at YE PI HPB HPG;rw[<-hS2]at YE PI;clear hP hS2
 all_goals
  go_wp2_with fail;obtain⟨W11,hW11⟩:∃W11,W11=w10.setCell ⟨X,1,none⟩ (.slice (some ⟨gB,0,none⟩) (xs.length+1) cB):=⟨_,rfl⟩;rw[<-hW11]at YE ⊢;clear hW11 k10 f10 l10;refine(l8 R s fB P false v W11 YE.out.rd hs HPB.out (by decide)).mono ?_;rintro e w12 ⟨rfl,YX,Y0⟩;cases hcl:mY s fB P false;case true=>
   rw[vg hcl]at YX;have XP:=ai (YE.out.moved ZY.out Y0 YX);have EQ:=ai (JN (HPP.out.symm.trans (GU (xs:=xs) (n:=m) PI.out hcl)));obtain⟨ad,cap,hva,hnq,hin⟩:=XP.out.node YG.out (base:=base) (Vz hB Xb.out.size);injection hva with hva1 hva2 hva3;subst hva1;subst hva3;clear hva2;have HNQ:=ai hnq;have HIN:=ai hin;have k0:=XP.out.c0;have k1:=XP.out.c1;have k2:=XP.out.c2;have k3:=XP.out.c3;have k4:=XP.out.c4;have HF:=ai (XU.out.over hR XP.out.onl XP.out.rd);have HO:=ai (Xb.out.trans0 XP.out.onl);clear YX Y0 hcl hnq hin YE XP;go_wp2_with fail;have HADD:=Mx R s ⟨P+1,false,st.out⟩ base v qs ⟨⟨1,xs++[⟨ax s p,S2⟩],⟨#[]⟩,⟨#[]⟩,[]⟩,some ⟨gB,0,none⟩,cB,none,0⟩ w12 HF.out hR (Vz hB HO.out.size) hn HNQ.out (.inl ⟨rfl,rfl,rfl⟩) (fun g hg=>⟨fun e=>by have:=(XU.out.own.lt g e).2;have:=HIN.out g hg;have:=YG.out;omega,fun q' hq' hg'=>by have:=(XU.out.lie q' hq' g hg').2.1;have:=HIN.out g hg;have:=YG.out;omega⟩);rw[show(⟨⟨1,xs++[⟨ax s p,S2⟩],⟨#[]⟩,⟨#[]⟩,[]⟩,some ⟨gB,0,none⟩,cB,none,0⟩:ER).val=.agg #[.int .i64 1,.slice (some ⟨gB,0,none⟩) (xs.length+1) cB,.string ⟨#[]⟩,.string ⟨#[]⟩,.slice none 0 0] by simp[ER.val]]at HADD;refine HADD.mono ?_;rintro e w13 ⟨v13,rfl,hF13,hW13⟩;have HF13:=ai hF13;have HW13:=ai ((HO.out.any v).trans hW13);clear hF13 hW13;go_wp2;exact bodyPost_ret (v:=.int .i64 (st.out.length:Int)) (by simp[results,Tryz.results324,go_sem]) rfl (by rw[EQ.out];exact⟨v13,_,rfl,HF13.out,HW13.out,fun q hq g hg=>by rw[VD]at hq;subst hq;have:=HIN.out g hg;have:=HX0.out;omega⟩)
  rw[Ab hcl]at YX;have XP:=ai (YE.out.moved ZY.out Y0 YX);have ZO:=ai hcl;clear YX Y0 hcl YE;go_wp2_with fail;refine(l8 R s l7 P false v w12 XP.out.rd hs HPB.out (by decide)).mono ?_;rintro e w13 ⟨rfl,hr13,Zw⟩;cases hcm:mY s l7 P false;case true=>
   rw[vg hcm]at hr13;have YL:=ai (XP.out.moved ZY.out Zw hr13);have HQ13:Hid (P+1<=s.size):=Ad hcm;have EQ:=ai ((GV (xs:=xs) (n:=m) PI.out ZO.out hcm).symm.trans HPP.out);have HM:Hid (s.size-wat R w13+wbad R w13<s.size-wat R wr+wbad R wr):=by
    show _<_;rw[YL.out.rd.wbad1,HPLB.out,show wat R w13=P+1 from YL.out.rd.place,HPLC.out];have:=HQ13.out;have:=HPG.out;omega
   clear hr13 Zw hcm XP;go_wp2;go_roundw;case rel=>exact⟨m,P+1,false,xs++[(⟨ax s p,S2⟩:Al)],.slice (some ⟨gB,0,none⟩) (xs.length+1) cB,HQ13.out,EQ.out,fun _=>⟨by have:=HLN1.out;have:=HPG.out;have:=HQ13.out;omega,by have:=HLN2.out;have:=HPG.out;rw[Vx,VW];omega⟩,YL.out⟩
   exact HM.out
  rw[Ab hcm]at hr13;have YL:=ai (XP.out.moved ZY.out Zw hr13);have EQ:=ai ((MX (xs:=xs) (n:=m) PI.out ZO.out hcm).symm.trans HPP.out);have c2:=YL.out.rd.c2;have f2:=YL.out.rd.fr 2;have hl13:=YL.out.rd.lt;have HL14:Hid (PL w1 (w13.setCell ⟨R,2,none⟩ (.bool true)) R X s (xs++[⟨ax s p,S2⟩]) P true v (.slice (some ⟨gB,0,none⟩) (xs.length+1) cB)):=YL.out.moved ZY.out (by have:=Gu w13 R 2 (.bool true) 0;exact this) YL.out.rd.hurt;have HM:Hid (s.size-wat R (w13.setCell ⟨R,2,none⟩ (.bool true))+wbad R (w13.setCell ⟨R,2,none⟩ (.bool true))<s.size-wat R wr+wbad R wr):=by
   show _<_;rw[HL14.out.rd.wbad0,HPLB.out,show wat R (w13.setCell ⟨R,2,none⟩ (.bool true))=P from HL14.out.rd.place,HPLC.out];have:=HPG.out;omega
  clear hr13 Zw hcm XP YL;go_wp2;go_roundw;case rel=>exact⟨m,P,true,xs++[(⟨ax s p,S2⟩:Al)],.slice (some ⟨gB,0,none⟩) (xs.length+1) cB,HPB.out,EQ.out,fun h=>(by cases h),HL14.out⟩
  exact HM.out
end Go.Proofs.YtojjoblnpldniaaGreat
namespace Go.Proofs.YtojjoblnpldniaaGreat
open Go.Sort
open ChangeShapes WideShapes ChangeAt RowKit
open Pl
attribute [local go_sem ↓] Go.wp_at_zero Go.wp_at_succ
def Tp.ok(t:Tp):Bool:=bz t.a t.b t.r t.c t.d t.s
def Tp.ahead(t u:Tp):Bool:=fO t.a t.b t.r t.c t.d t.s u.a u.b u.r u.c u.d u.s
def vL(ts:Q05)(i:Nat):Bool:=match ts[i]? with
 | none=>true
 | some t=>t.ok&&(match i with
  | 0=>true
  | j+1=>match ts[j]? with
   | none=>true
   | some u=>u.ahead t)
def sM(ts:Q05)(k:Nat):Bool:=(List.range k).all (vL ts)
def dH(ts:Q05):Bool:=decide (ts.length<=40)&&sM ts ts.length
theorem rX(ts:Q05)(k:Nat):sM ts (k+1)=(sM ts k&&vL ts k):=by simp[sM,List.range_succ]
theorem vM{ts:Q05}{k:Nat}(hk:k<ts.length)(h:vL ts k=false):dH ts=false:=by
 have:sM ts ts.length=false:=by
  unfold sM;rw[List.all_eq_false];exact⟨k,by simpa using hk,by simp[h]⟩
 simp[dH,this]
theorem rY{ts:Q05}(h:0<ts.length):vL ts 0=ts[0].ok:=by simp[vL,Vy h]
theorem ol{ts:Q05}{j:Nat}(h:j+1<ts.length):vL ts (j+1)=(ts[j+1].ok&&ts[j].ahead ts[j+1]):=by
 have h':j<ts.length:=by omega
 simp[vL,Vy h,Vy h']
theorem Lu{ts:Q05}{k:Nat}(h:k<ts.length)(hn:ts[k].ok=false):vL ts k=false:=by
 simp[vL,Vy h,hn]
theorem xm(b off cap:Nat)(ts:Q05)(w:ae)(hlen:ts.length<=maxLen)(hr:jJ w b off ts)(hb:b<w.heap.size)(hf:∀t∈ts,t.fits):
    Calls prog 130 #[.slice (some ⟨b,off,none⟩) ts.length cap] w fun e w'=>e=.returned (.bool (dH ts))/\ag w w':=by
  unfold maxLen at hlen;by_cases hbig:40<ts.length
  · have HT:Hid (dH ts=false):=by show _=_;simp[dH];omega
    go_enter func130,ntmps130;go_wp2;go_ret;exact⟨ah HT.out.symm,Vs _ _⟩
  · go_enter func130,ntmps130;go_wp2;go_loopw[3] (fun i wr=>∃k:Nat,k<=ts.length/\i=.int .i64 k/\Hid (sM ts k=true)/\ag w wr) (fun i _=>ts.length-(intOf i).toNat);case atStart=>exact⟨0,Vv _,rfl,rfl,Vs _ _⟩
    obtain⟨k,hk,rfl,hu,hB⟩:=hrel;by_cases hlt:k<ts.length
    · have Zx:=nE (hr.below hB hb);have WR:=nE hf;obtain⟨t0,t1,t2,t3,t4,t5⟩:=Zx.out k hlt;have hk1:=bC k;have hk2:(k:Int)<(ts.length:Int):=by omega
      clear hr hf;have c0:=cell_regrown t0;have c1:=cell_regrown t1;have c2:=cell_regrown t2;have c3:=cell_regrown t3;have c4:=cell_regrown t4;have c5:=cell_regrown t5;have Xq:Hid (∀d os,ag w (grow (redrawn wr d) os)):=fun d os=>hB.trans ((below_regrown wr d os).mono hB.size);clear t0 t1 t2 t3 t4 t5;go_wp2_with fail;have Y3:Hid (∀d os,Calls prog 198 #[.agg #[.string ts[k].a,.string ts[k].b,.string ts[k].r,.string ts[k].c,.string ts[k].d,.string ts[k].s]] (grow (redrawn wr d) os) fun e w''=>e=.returned (.bool ts[k].ok)/\∃p:Regrown,w''=grow (redrawn wr p.d) p.os):=by
        obtain⟨f0,f1,f2,f3,f4,f5⟩:=WR.out ts[k] (Vp hlt);exact dm fun W' _=>d9 _ _ _ _ _ _ _ f0 f1 f2 f3 f4 f5
      cases hok:ts[k].ok;case false=>
        have HT:Hid (dH ts=false):=vM hlt (Lu hlt hok);rw[hok]at Y3;clear hok;refine wp_region_quiet_below (by kernel_rfl) (by kernel_rfl) ?_
        repeat(go_big_quiet_step (exact Y3.out _ _))
        refine wpQuiet_nil ?_;rintro _ ⟨⟨dq,osq⟩,rfl⟩;go_wp2;go_ret;exact⟨ah HT.out.symm,Xq.out dq osq⟩
      rw[hok]at Y3;by_cases hz:k=0
      · have HU:Hid (sM ts (k+1)=true):=by show _=_;rw[rX,hu.out];subst hz;rw[rY hlt,hok];rfl
        have hk8:decide ((0:Int)<(k:Int))=false:=by simp;omega
        have hk9:decide (0<k)=false:=by simp;omega
        clear hok hz;refine wp_region_quiet_below (by kernel_rfl) (by kernel_rfl) ?_
        repeat(go_big_quiet_step (exact Y3.out _ _))
        refine wpQuiet_nil ?_;rintro _ ⟨⟨dq,osq⟩,rfl⟩;go_wp2;go_roundw;case rel=>exact⟨k+1,by omega,by go_num,HU,Xq.out dq osq⟩
        simp[intOf];omega
      · obtain⟨m,hm⟩:∃m:Nat,k=m+1:=⟨k-1,by omega⟩;have Xa:m<ts.length:=by omega
        obtain⟨q0,q1,q2,q3,q4,q5⟩:=Zx.out m Xa;replace q0:=cell_regrown q0;replace q1:=cell_regrown q1;replace q2:=cell_regrown q2;replace q3:=cell_regrown q3;replace q4:=cell_regrown q4;replace q5:=cell_regrown q5;have hkm:(k:Int)-1=(m:Int):=by omega
        have hm1:=bC m;have hm2:(m:Int)<(ts.length:Int):=by omega
        have hpos:(0:Int)<(k:Int):=by omega
        have hposN:0<k:=by omega
        have hwm:IntKind.i64.wrap (m:Int)=(m:Int):=by rw[IntKind.wrap_i64];omega
        have HA:Hid (vL ts k=ts[m].ahead ts[k]):=by show _=_;subst hm;rw[ol hlt,hok];rfl
        have HCA:Hid (∀d os,Calls prog 199 #[.agg #[.string ts[m].a,.string ts[m].b,.string ts[m].r,.string ts[m].c,.string ts[m].d,.string ts[m].s],.agg #[.string ts[k].a,.string ts[k].b,.string ts[k].r,.string ts[k].c,.string ts[k].d,.string ts[k].s]] (grow (redrawn wr d) os) fun e w''=>e=.returned (.bool (ts[m].ahead ts[k]))/\∃p:Regrown,w''=grow (redrawn wr p.d) p.os):=by
          obtain⟨f0,f1,f2,f3,f4,f5⟩:=WR.out ts[k] (Vp hlt);obtain⟨g0,g1,g2,g3,g4,g5⟩:=WR.out ts[m] (Vp Xa);exact dm fun W' _=>nH _ _ _ _ _ _ _ _ _ _ _ _ _ g0 g1 g2 g3 g4 g5 f0 f1 f2 f3 f4 f5
        clear hm hz hok;cases ha:ts[m].ahead ts[k];case false=>
          have HT:Hid (dH ts=false):=vM hlt (by rw[HA.out,ha]);rw[ha]at HCA;clear ha HA;refine wp_region_quiet_below (by kernel_rfl) (by kernel_rfl) ?_
          repeat(go_big_quiet_step (first|exact Y3.out _ _|exact HCA.out _ _))
          refine wpQuiet_nil ?_;rintro _ ⟨⟨dq,osq⟩,rfl⟩;go_wp2;go_ret;exact⟨ah HT.out.symm,Xq.out dq osq⟩
        have HU:Hid (sM ts (k+1)=true):=by show _=_;rw[rX,hu.out,HA.out,ha];rfl
        rw[ha]at HCA;clear ha HA;refine wp_region_quiet_below (by kernel_rfl) (by kernel_rfl) ?_
        repeat(go_big_quiet_step (first|exact Y3.out _ _|exact HCA.out _ _))
        refine wpQuiet_nil ?_;rintro _ ⟨⟨dq,osq⟩,rfl⟩;go_wp2;go_roundw;case rel=>exact⟨k+1,by omega,by go_num,HU,Xq.out dq osq⟩
        simp[intOf];omega
    · go_wp2;go_ret;exact⟨ah (by have e:k=ts.length:=(by omega);subst e;simp[dH,hu.out];omega),hB⟩
end Go.Proofs.YtojjoblnpldniaaGreat
namespace Go.Proofs.YtojjoblnpldniaaGreat
open Pl
theorem x8:∀x:List UInt8,Op.bytesLess x x=false
 | []=>rfl
 | a::x=>by simp[Op.bytesLess,x8 x]
theorem AB:∀x y z:List UInt8,Op.bytesLess x y=true->Op.bytesLess y z=true->Op.bytesLess x z=true
 | [],_,[],h,k=>by cases ‹List UInt8› <;> simp [Op.bytesLess] at h k
 | [],_,_::_,_,_=>rfl
 | _::_,[],_,h,_=>by simp[Op.bytesLess]at h
 | _::_,_::_,[],_,k=>by simp[Op.bytesLess]at k
 | a::x,b::y,c::z,h,k=>by
  simp only[Op.bytesLess,Bool.or_eq_true,Vt,VF,beq_iff_eq]at h k ⊢;rcases h with h|⟨h,h'⟩
  ·rcases k with k|⟨k,k'⟩
   ·exact .inl (UInt8.lt_trans h k)
   exact .inl (k ▸ h)
  rcases k with k|⟨k,k'⟩
  ·exact .inl (h ▸ k)
  exact .inr ⟨h.trans k,AB x y z h' k'⟩
theorem AC:∀x y:List UInt8,x≠y->Op.bytesLess x y=true\/Op.bytesLess y x=true
 | [],[],h=>absurd rfl h
 | [],_::_,_=>.inl rfl
 | _::_,[],_=>.inr rfl
 | a::x,b::y,h=>by
  simp only[Op.bytesLess,Bool.or_eq_true,Vt,VF,beq_iff_eq];by_cases e:a=b
  ·subst e;rcases AC x y (fun e=>h (by rw[e])) with k|k
   ·exact .inl (.inr ⟨rfl,k⟩)
   exact .inr (.inr ⟨rfl,k⟩)
  rcases Nat.lt_or_gt_of_ne (fun k=>e (UInt8.toNat_inj.1 k)) with k|k
  ·exact .inl (.inl k)
  exact .inr (.inl k)
def Tp.text(t:Tp):List UInt8:=(aV t.a t.b t.r t.c t.d t.s).toList
theorem PY{x y:Tp}(hx:x.ok=true)(hy:y.ok=true)(e:x.text=y.text):x=y:=by
 obtain⟨h1,h2,h3,h4,h5,h6⟩:=qo hx hy (jK e);obtain⟨xa,xb,xr,xc,xd,xs⟩:=x;obtain⟨ya,yb,yr,yc,yd,ys⟩:=y;simp only at h1 h2 h3 h4 h5 h6;rw[h1,h2,h3,h4,h5,h6]
theorem jd{x y:Tp}(hx:x.ok=true)(hy:y.ok=true):x.ahead y=Op.bytesLess x.text y.text:=uh hx hy
theorem AJ{x y:Tp}(h:x.ahead y=true):x.ok=true/\y.ok=true:=by
 unfold Tp.ahead fO at h;simp only[Vt]at h;exact⟨h.1.1,h.1.2⟩
theorem kH{x y z:Tp}(h:x.ahead y=true)(k:y.ahead z=true):x.ahead z=true:=by
 obtain⟨hx,hy⟩:=AJ h;obtain⟨-,hz⟩:=AJ k;rw[jd hx hy]at h;rw[jd hy hz]at k;rw[jd hx hz];exact AB _ _ _ h k
theorem pz(x:Tp):x.ahead x=false:=by
 cases h:x.ahead x;case false=>rfl
 obtain⟨hx,-⟩:=AJ h;rw[jd hx hx,x8]at h;cases h
theorem qX{x y:Tp}(hx:x.ok=true)(hy:y.ok=true)(hne:x≠y):x.ahead y=true\/y.ahead x=true:=by
 rw[jd hx hy,jd hy hx];exact AC _ _ fun e=>hne (PY hx hy e)
def Up(l:Q05):Prop:=l.Pairwise fun x y=>x.ahead y=true
theorem Lv{ts:Q05}(h:dH ts=true):Up ts/\(∀t∈ts,t.ok=true)/\ts.length<=40:=by
 unfold dH at h;simp only[Vt,VF]at h;obtain⟨hl,hu⟩:=h;have hat:∀i,i<ts.length->vL ts i=true:=fun i hi=>by
  unfold sM at hu;exact VC.1 hu i (List.mem_range.2 hi)
 have hok:∀i (hi:i<ts.length),ts[i].ok=true:=fun i hi=>by
  have:=hat i hi;cases i with
  | zero=>rw[rY hi]at this;exact this
  | succ j=>rw[ol hi]at this;simp only[Vt]at this;exact this.1
 have hnx:∀i (hi:i+1<ts.length),ts[i].ahead ts[i+1]=true:=fun i hi=>by
  have:=hat (i+1) hi;rw[ol hi]at this;simp only[Vt]at this;exact this.2
 refine⟨List.pairwise_iff_getElem.2 fun i j hi hj hij=>?_,fun t ht=>?_,hl⟩
 ·obtain⟨d,rfl⟩:∃d,j=i+1+d:=⟨j-(i+1),by omega⟩
  induction d with
  | zero=>exact hnx i hj
  | succ d ih=>exact kH (ih (by omega) (by omega)) (hnx (i+1+d) (by omega))
 obtain⟨i,hi,rfl⟩:=V7.1 ht;exact hok i hi
theorem Dv{ts:Q05}(h:dH ts=true):ts.length<=40:=(Lv h).2.2
theorem Ud{xs ys:Q05}(hx:Up xs)(hy:Up ys)(h:∀t,t∈xs↔t∈ys):xs=ys:=by
 have nd:∀{l:Q05},Up l->l.Nodup:=fun hl=>hl.imp fun {a b} hab e=>by subst e;rw[pz]at hab;cases hab
 exact List.Perm.eq_of_pairwise (le:=fun(a b:Tp)=>a.ahead b=true) (fun a b _ _ h1 h2=>by have:=kH h1 h2;rw[pz]at this;cases this) hx hy ((List.perm_ext_iff_of_nodup (nd hx) (nd hy)).2 h)
def gJ:List Tp->Tp->List Tp
 | [],t=>[t]
 | x::xs,t=>if x.ahead t then x::gJ xs t else t::x::xs
theorem mq(ts:Q05)(t y:Tp):y∈gJ ts t↔y=t\/y∈ts:=by
 induction ts with
 | nil=>simp[gJ]
 | cons x xs ih =>
  unfold gJ;split
  ·simp only[VH,ih];constructor
   ·rintro(h|h|h)
    ·exact .inr (.inl h)
    ·exact .inl h
    exact .inr (.inr h)
   rintro(h|h|h)
   ·exact .inr (.inl h)
   ·exact .inl h
   exact .inr (.inr h)
  simp
theorem Lx{ts:Q05}{t:Tp}(hu:Up ts)(hok:∀x∈ts,x.ok=true)(ht:t.ok=true)(hn:t ∉ ts):Up (gJ ts t):=by
 induction ts with
 | nil=>exact List.pairwise_singleton _ _
 | cons x xs ih =>
  obtain⟨h1,h2⟩:=List.pairwise_cons.1 hu;unfold gJ;split
  ·rename_i hx;refine List.pairwise_cons.2 ⟨fun y hy=>?_,ih h2 (fun y hy=>hok y (V4 _ hy)) (fun hm=>hn (V4 _ hm))⟩;rcases (mq xs t y).1 hy with rfl|hy
   ·exact hx
   exact h1 y hy
  rename_i hx;have hne:x≠t:=fun e=>hn (by rw[e];exact We);have htx:t.ahead x=true:=by
   rcases qX (hok x We) ht hne with h|h
   ·exact absurd h hx
   exact h
  refine List.pairwise_cons.2 ⟨fun y hy=>?_,hu⟩;rcases VH.1 hy with rfl|hy
  ·exact htx
  exact kH htx (h1 y hy)
theorem LA(ts:Q05)(t:Tp)(k:Nat)(hk:k<=ts.length)(h1:∀i (h:i<ts.length),i<k->ts[i].ahead t=true)(h2:∀h:k<ts.length,ts[k].ahead t=false):gJ ts t=ts.take k++t::ts.drop k:=by
 induction ts generalizing k with
 | nil=>simp[gJ]
 | cons x xs ih =>
  cases k with
  | zero =>
   have:=h2 (by simp);simp only[List.getElem_cons_zero]at this;simp[gJ,this]
  | succ k =>
   have hx:=h1 0 (by simp) (by omega);simp only[List.getElem_cons_zero]at hx;have:=ih k (by simpa using hk) (fun i hi hik=>by have:=h1 (i+1) (by simpa using hi) (by omega);simpa using this) (fun h=>by have:=h2 (by simpa using h);simpa using this);simp[gJ,hx,this]
theorem AL{ts:Q05}{t:Tp}:qP ts t=true↔t∈ts:=by
 unfold qP;rw[VT];constructor
 ·rintro⟨x,hx,e⟩;rw[<-Am.1 e];exact hx
 intro h;exact⟨t,h,Am.2 rfl⟩
def AO(x y:{ t:Tp // t.ok=true }):Bool:=Op.bytesLess x.1.text y.1.text
theorem om(x y:{ t:Tp // t.ok=true }):AO x y=x.1.ahead y.1:=(jd x.2 y.2).symm
theorem Dw(x y:{ t:Tp // t.ok=true })(h:AO x y=false)(k:AO y x=false):x=y:=by
 rw[om]at h k;apply Subtype.ext;by_cases e:x.1=y.1
 ·exact e
 rcases qX x.2 y.2 e with h'|h'
 ·rw[h]at h';cases h'
 rw[k]at h';cases h'
theorem yX:Go.Sort.SWO AO where
 irrefl x:=by rw[om];exact pz _
 trans x y z h k:=by rw[om]at *;exact kH h k
 ntrans x y z h k:=by
  cases e:AO x z;case false=>rfl
  cases e1:AO y x;case true=>
   have:AO y z=true:=by rw[om]at *;exact kH e1 e
   rw[k]at this;cases this
  have:=Dw x y h e1;subst this;rw[k]at e;cases e
theorem RY{xs:List { t:Tp // t.ok=true }}{L:Q05}(hnd:xs.Nodup)(hm:∀x:{ t:Tp // t.ok=true },x∈xs↔x.1∈L)(hL:Up L)(hok:∀t∈L,t.ok=true):
  (xs.mergeSort fun x y=>!AO y x).map (·.1)=L:=by
 have hp:List.Perm (xs.mergeSort fun x y=>!AO y x) xs:=List.mergeSort_perm xs _;have hpw:(xs.mergeSort fun x y=>!AO y x).Pairwise fun x y=>(!AO y x)=true:=List.pairwise_mergeSort (fun a b c h1 h2=>by
   simp only[Bool.not_eq_true']at *
   exact yX.ntrans _ _ _ h2 h1) (fun a b=>by
   cases e:AO b a<;>simp;cases e2:AO a b
   ·rfl
   have:=yX.trans _ _ _ e e2;rw[yX.irrefl]at this;cases this) xs
 have hnd2:(xs.mergeSort fun x y=>!AO y x).Nodup:=hp.nodup_iff.2 hnd;refine Ud ?_ hL fun t=>?_
 ·refine List.pairwise_map.2 (List.Pairwise.imp_of_mem (R:=fun x y=>(!AO y x)=true/\x≠y) ?_ (hpw.and hnd2));rintro x y - - ⟨h1,h2⟩;have hne:x.1≠y.1:=fun e=>h2 (Subtype.ext e);rcases qX x.2 y.2 hne with h|h
  ·exact h
  rw[<-om]at h;rw[h]at h1;cases h1
 rw[VG];constructor
 ·rintro⟨x,hx,rfl⟩;exact(hm x).1 (hp.mem_iff.1 hx)
 intro h;exact⟨⟨t,hok t h⟩,hp.mem_iff.2 ((hm ⟨t,hok t h⟩).2 h),rfl⟩
open ChangeAt ChangeShapes Maps RowKit WideShapes
theorem uA{w:ae}{b off:Nat}{ts:Q05}(h:jJ w b off ts):∀j u,(aZ ts)[j]?=some u->w.cell? ((⟨b,off,none⟩:Addr).add j)=some u:=by
 intro j u hu;have hl:=jk ts;have hj:j<ts.length*6:=by
  rcases Nat.lt_or_ge j (aZ ts).length with h|h
  ·omega
  rw[List.getElem?_eq_none h]at hu;cases hu
 have hi:j / 6<ts.length:=by omega
 have hr:j%6<6:=Nat.mod_lt _ (by omega);have e:j=j / 6*6+j%6:=by omega
 rw[e,qQ ts _ hi _ hr]at hu;rw[show((⟨b,off,none⟩:Addr).add j)=⟨b,off+j / 6*6+j%6,none⟩ by rw[show(⟨b,off,none⟩:Addr).add j=⟨b,off+j,none⟩ by simp[Addr.add]];congr 1;omega];obtain⟨c0,c1,c2,c3,c4,c5⟩:=h (j / 6) hi;have h6:j%6=0\/j%6=1\/j%6=2\/j%6=3\/j%6=4\/j%6=5:=by omega
 rcases h6 with e6|e6|e6|e6|e6|e6<;>rw[e6]at hu ⊢ <;>simp only[Tp.row,List.getElem?_cons_zero,List.getElem?_cons_succ]at hu<;>rw[<-hu]<;>assumption
theorem Dx{w:ae}{b off:Nat}{ts:Q05}(h:jJ w b off ts)(k:Nat):jJ w b off (ts.take k):=fun i hi=>by
 have:=h i (by simp at hi;omega);simpa using this
theorem M0{w:ae}{b off:Nat}{ts:Q05}(h:jJ w b off ts)(k:Nat):jJ w b (off+k*6) (ts.drop k):=fun i hi=>by
 have:=h (k+i) (by simp at hi;omega);simp only[List.getElem_drop];rw[show off+k*6+i*6=off+(k+i)*6 by omega];exact this
theorem rZ(ts:Q05):∀u∈aZ ts,u.oneCell'=true:=by
 intro u hu;unfold aZ at hu;obtain⟨t,-,h⟩:=VJ.1 hu;exact qR t u h
theorem vO(xs ys:Q05):aZ (xs++ys)=aZ xs++aZ ys:=by simp[aZ]
def uH(w:World)(g:Nat)(t:Tp):Prop:=w.cell? ⟨g,0,none⟩=some (.string t.a)/\w.cell? ⟨g,1,none⟩=some (.string t.b)/\w.cell? ⟨g,2,none⟩=some (.string t.r)/\w.cell? ⟨g,3,none⟩=some (.string t.c)/\w.cell? ⟨g,4,none⟩=some (.string t.d)/\w.cell? ⟨g,5,none⟩=some (.string t.s)/\g<w.heap.size
theorem uH.below{w w':ae}{g:Nat}{t:Tp}(h:uH w g t)(hb:ag w w'):uH w' g t :=
 ⟨mK hb h.2.2.2.2.2.2 h.1,mK hb h.2.2.2.2.2.2 h.2.1,mK hb h.2.2.2.2.2.2 h.2.2.1,mK hb h.2.2.2.2.2.2 h.2.2.2.1,mK hb h.2.2.2.2.2.2 h.2.2.2.2.1,mK hb h.2.2.2.2.2.2 h.2.2.2.2.2.1,Vq h.2.2.2.2.2.2 hb.size⟩
theorem yY(w:ae)(t:Tp)(T:TypeId):uH (w.alloc (.cells #[.string t.a,.string t.b,.string t.r,.string t.c,.string t.d,.string t.s] T)) w.heap.size t:=by
 refine⟨?_,?_,?_,?_,?_,?_,?_⟩<;>simp
theorem uH.grown{w w':ae}{g:Nat}{t:Tp}{row:Option Nat}(h:uH w g t)(hg:w.grownBy w' row)(hne:some g≠row):uH w' g t :=
 ⟨hg.cell h.1 hne,hg.cell h.2.1 hne,hg.cell h.2.2.1 hne,hg.cell h.2.2.2.1 hne,hg.cell h.2.2.2.2.1 hne,hg.cell h.2.2.2.2.2.1 hne,Vq h.2.2.2.2.2.2 hg.size⟩
theorem pE{w w':ae}{b off:Nat}{ts:Q05}{row:Option Nat}(h:jJ w b off ts)(hg:w.grownBy w' row)(_hb:b<w.heap.size)(hne:some b≠row):jJ w' b off ts:=fun i hi=>by
 obtain⟨c0,c1,c2,c3,c4,c5⟩:=h i hi;exact⟨hg.cell c0 hne,hg.cell c1 hne,hg.cell c2 hne,hg.cell c3 hne,hg.cell c4 hne,hg.cell c5 hne⟩
theorem M4{ts:Q05}{k:Nat}(h:ts.length<=k)(w:ae)(ad:Addr):∀j u,(aZ (ts.drop k))[j]?=some u->w.cell? (ad.add j)=some u:=fun j u hu=>by
 rw[VN h]at hu;simp[aZ]at hu
theorem dY{W:ae}{base base':Nat}{e:TypeId}{size:Nat}{v:Value}{k:Nat}{xs:Q03}(h:W.ownsRow base e size v k xs)(hb:base'<=base):W.ownsRow base' e size v k xs:=by
 refine⟨h.1,?_⟩;rcases h.2 with hn|⟨g,cap,cur,hv,hbg,rest⟩
 ·exact .inl hn
 exact .inr ⟨g,cap,cur,hv,Vz hb hbg,rest⟩
theorem di{p:Prop}(h:p):Hid p:=h
theorem PZ{w:ae}{g:Nat}{t:Tp}(h0:w.cell? ⟨g,0,none⟩=some (.string t.a))(h1:w.cell? ⟨g,1,none⟩=some (.string t.b))(h2:w.cell? ⟨g,2,none⟩=some (.string t.r))(h3:w.cell? ⟨g,3,none⟩=some (.string t.c))(h4:w.cell? ⟨g,4,none⟩=some (.string t.d))(h5:w.cell? ⟨g,5,none⟩=some (.string t.s))(hl:g<w.heap.size):uH w g t:=⟨h0,h1,h2,h3,h4,h5,hl⟩
theorem LB{w W w':ae}{b n o:Nat}{x0 x1 x2 x3 x4 x5 y0 y1 y2 y3 y4 y5:Value}(h:W.cell? ⟨b,o,none⟩=some x0/\W.cell? ⟨b,o+1,none⟩=some x1/\W.cell? ⟨b,o+2,none⟩=some x2/\W.cell? ⟨b,o+3,none⟩=some x3/\W.cell? ⟨b,o+4,none⟩=some x4/\W.cell? ⟨b,o+5,none⟩=some x5/\W.cell? ⟨n,0,none⟩=some y0/\W.cell? ⟨n,1,none⟩=some y1/\W.cell? ⟨n,2,none⟩=some y2/\W.cell? ⟨n,3,none⟩=some y3/\W.cell? ⟨n,4,none⟩=some y4/\W.cell? ⟨n,5,none⟩=some y5/\b<W.heap.size/\n<W.heap.size/\Below n w W)(hb:ag W w'):
  w'.cell? ⟨b,o,none⟩=some x0/\w'.cell? ⟨b,o+1,none⟩=some x1/\w'.cell? ⟨b,o+2,none⟩=some x2/\w'.cell? ⟨b,o+3,none⟩=some x3/\w'.cell? ⟨b,o+4,none⟩=some x4/\w'.cell? ⟨b,o+5,none⟩=some x5/\w'.cell? ⟨n,0,none⟩=some y0/\w'.cell? ⟨n,1,none⟩=some y1/\w'.cell? ⟨n,2,none⟩=some y2/\w'.cell? ⟨n,3,none⟩=some y3/\w'.cell? ⟨n,4,none⟩=some y4/\w'.cell? ⟨n,5,none⟩=some y5/\b<w'.heap.size/\n<w'.heap.size/\Below n w w':=by
 obtain⟨h0,h1,h2,h3,h4,h5,g0,g1,g2,g3,g4,g5,hB,hN,hw⟩:=h;exact⟨mK hb hB h0,mK hb hB h1,mK hb hB h2,mK hb hB h3,mK hb hB h4,mK hb hB h5,mK hb hN g0,mK hb hN g1,mK hb hN g2,mK hb hN g3,mK hb hN g4,mK hb hN g5,Vq hB hb.size,Vq hN hb.size,hw.trans (hb.mono (WH hN))⟩
end Go.Proofs.YtojjoblnpldniaaGreat
namespace Go.Proofs.YtojjoblnpldniaaGreat
open Go.Sort
open ChangeShapes WideShapes ChangeAt RowKit
open Pl
attribute [local go_sem ↓] Go.wp_at_zero Go.wp_at_succ
theorem xq(b off cap:Nat)(ts:Q05)(w:ae)(hlen:ts.length<=maxLen)(hr:jJ w b off ts)(hb:b<w.heap.size)(hf:∀t∈ts,t.fits):
    Calls prog 41 #[.slice (some ⟨b,off,none⟩) ts.length cap] w fun e w'=>e=.returned (.bool (dH ts))/\ag w w':=by
  unfold maxLen at hlen;by_cases hbig:40<ts.length
  · have HT:Hid (dH ts=false):=by show _=_;simp[dH];omega
    go_enter func41,ntmps41;go_wp2;go_ret;exact⟨ah HT.out.symm,Vs _ _⟩
  · go_enter func41,ntmps41;go_wp2;go_loopw[10] (fun i wr=>∃k:Nat,k<=ts.length/\i=.int .i64 k/\Hid (sM ts k=true)/\ag w wr) (fun i _=>ts.length-(intOf i).toNat);case atStart=>exact⟨0,Vv _,rfl,rfl,Vs _ _⟩
    obtain⟨k,hk,rfl,hu,hB⟩:=hrel;by_cases hlt:k<ts.length
    · have Zx:=nE (hr.below hB hb);have WR:=nE hf;obtain⟨t0,t1,t2,t3,t4,t5⟩:=Zx.out k hlt;have hk1:=bC k;have hk2:(k:Int)<(ts.length:Int):=by omega
      clear hr hf;obtain⟨W1,hW1⟩:∃W1,W1=wr.alloc (.cells #[.string ts[k].a,.string ts[k].b,.string ts[k].r,.string ts[k].c,.string ts[k].d,.string ts[k].s] 29):=⟨_,rfl⟩;have hal:ag wr W1:=by rw[hW1];exact(Vs _ _).alloc (Vr _) _
      have c0:∀d os,(grow (redrawn W1 d) os).cell? ⟨wr.heap.size,0,none⟩=some (.string ts[k].a):=cell_regrown (by rw[hW1];simp);have c1:∀d os,(grow (redrawn W1 d) os).cell? ⟨wr.heap.size,1,none⟩=some (.string ts[k].b):=cell_regrown (by rw[hW1];simp);have c2:∀d os,(grow (redrawn W1 d) os).cell? ⟨wr.heap.size,2,none⟩=some (.string ts[k].r):=cell_regrown (by rw[hW1];simp);have c3:∀d os,(grow (redrawn W1 d) os).cell? ⟨wr.heap.size,3,none⟩=some (.string ts[k].c):=cell_regrown (by rw[hW1];simp);have c4:∀d os,(grow (redrawn W1 d) os).cell? ⟨wr.heap.size,4,none⟩=some (.string ts[k].d):=cell_regrown (by rw[hW1];simp);have c5:∀d os,(grow (redrawn W1 d) os).cell? ⟨wr.heap.size,5,none⟩=some (.string ts[k].s):=cell_regrown (by rw[hW1];simp);have Xq:Hid (∀d os,ag w (grow (redrawn W1 d) os)):=fun d os=>hB.trans ((hal.mono hB.size).trans ((below_regrown W1 d os).mono (Vz hB.size hal.size)));have HK:Hid (∀p v,wr.cell? p=some v->W1.cell? p=some v):=fun p v h=>cell_later hal h;clear hal;go_wp2_with fail;rw[<-hW1];clear hW1 t0 t1 t2 t3 t4 t5;have Y3:Hid (∀d os,Calls prog 62 #[.agg #[.string ts[k].a,.string ts[k].b,.string ts[k].r,.string ts[k].c,.string ts[k].d,.string ts[k].s]] (grow (redrawn W1 d) os) fun e w''=>e=.returned (.bool ts[k].ok)/\∃p:Regrown,w''=grow (redrawn W1 p.d) p.os):=by
        obtain⟨f0,f1,f2,f3,f4,f5⟩:=WR.out ts[k] (Vp hlt);exact dm fun W' _=>dI _ _ _ _ _ _ _ f0 f1 f2 f3 f4 f5
      cases hok:ts[k].ok;case false=>
        have HT:Hid (dH ts=false):=vM hlt (Lu hlt hok);rw[hok]at Y3;clear hok;refine wp_region_quiet_below (by kernel_rfl) (by kernel_rfl) ?_
        repeat(go_big_quiet_step (exact Y3.out _ _))
        refine wpQuiet_nil ?_;rintro _ ⟨⟨dq,osq⟩,rfl⟩;go_wp2;go_ret;exact⟨ah HT.out.symm,Xq.out dq osq⟩
      rw[hok]at Y3;by_cases hz:k=0
      · have HU:Hid (sM ts (k+1)=true):=by show _=_;rw[rX,hu.out];subst hz;rw[rY hlt,hok];rfl
        have hk8:decide ((0:Int)<(k:Int))=false:=by simp;omega
        have hk9:decide (0<k)=false:=by simp;omega
        clear hok hz;refine wp_region_quiet_below (by kernel_rfl) (by kernel_rfl) ?_
        repeat(go_big_quiet_step (exact Y3.out _ _))
        refine wpQuiet_nil ?_;rintro _ ⟨⟨dq,osq⟩,rfl⟩;go_wp2;go_roundw;case rel=>exact⟨k+1,by omega,by go_num,HU,Xq.out dq osq⟩
        simp[intOf];omega
      · obtain⟨m,hm⟩:∃m:Nat,k=m+1:=⟨k-1,by omega⟩;have Xa:m<ts.length:=by omega
        obtain⟨q0,q1,q2,q3,q4,q5⟩:=Zx.out m Xa;replace q0:=cell_regrown (HK.out _ _ q0);replace q1:=cell_regrown (HK.out _ _ q1);replace q2:=cell_regrown (HK.out _ _ q2);replace q3:=cell_regrown (HK.out _ _ q3);replace q4:=cell_regrown (HK.out _ _ q4);replace q5:=cell_regrown (HK.out _ _ q5);have hkm:(k:Int)-1=(m:Int):=by omega
        have hm1:=bC m;have hm2:(m:Int)<(ts.length:Int):=by omega
        have hpos:(0:Int)<(k:Int):=by omega
        have hposN:0<k:=by omega
        have hwm:IntKind.i64.wrap (m:Int)=(m:Int):=by rw[IntKind.wrap_i64];omega
        have HA:Hid (vL ts k=ts[m].ahead ts[k]):=by show _=_;subst hm;rw[ol hlt,hok];rfl
        have HCA:Hid (∀d os,Calls prog 110 #[.agg #[.string ts[m].a,.string ts[m].b,.string ts[m].r,.string ts[m].c,.string ts[m].d,.string ts[m].s],.agg #[.string ts[k].a,.string ts[k].b,.string ts[k].r,.string ts[k].c,.string ts[k].d,.string ts[k].s]] (grow (redrawn W1 d) os) fun e w''=>e=.returned (.bool (ts[m].ahead ts[k]))/\∃p:Regrown,w''=grow (redrawn W1 p.d) p.os):=by
          obtain⟨f0,f1,f2,f3,f4,f5⟩:=WR.out ts[k] (Vp hlt);obtain⟨g0,g1,g2,g3,g4,g5⟩:=WR.out ts[m] (Vp Xa);exact dm fun W' _=>Cj _ _ _ _ _ _ _ _ _ _ _ _ _ g0 g1 g2 g3 g4 g5 f0 f1 f2 f3 f4 f5
        clear hm hz hok;cases ha:ts[m].ahead ts[k];case false=>
          have HT:Hid (dH ts=false):=vM hlt (by rw[HA.out,ha]);rw[ha]at HCA;clear ha HA;refine wp_region_quiet_below (by kernel_rfl) (by kernel_rfl) ?_
          repeat(go_big_quiet_step (first|exact Y3.out _ _|exact HCA.out _ _))
          refine wpQuiet_nil ?_;rintro _ ⟨⟨dq,osq⟩,rfl⟩;go_wp2;go_ret;exact⟨ah HT.out.symm,Xq.out dq osq⟩
        have HU:Hid (sM ts (k+1)=true):=by show _=_;rw[rX,hu.out,HA.out,ha];rfl
        rw[ha]at HCA;clear ha HA;refine wp_region_quiet_below (by kernel_rfl) (by kernel_rfl) ?_
        repeat(go_big_quiet_step (first|exact Y3.out _ _|exact HCA.out _ _))
        refine wpQuiet_nil ?_;rintro _ ⟨⟨dq,osq⟩,rfl⟩;go_wp2;go_roundw;case rel=>exact⟨k+1,by omega,by go_num,HU,Xq.out dq osq⟩
        simp[intOf];omega
    · go_wp2;go_ret;exact⟨ah (by have e:k=ts.length:=(by omega);subst e;simp[dH,hu.out];omega),hB⟩
end Go.Proofs.YtojjoblnpldniaaGreat
namespace Go.Proofs.YtojjoblnpldniaaGreat
open Go.Sort
open ChangeShapes WideShapes ChangeAt RowKit
open Pl
attribute [local go_sem ↓] Go.wp_at_zero Go.wp_at_succ
theorem xw(ad:Q02)(cap:Nat)(w:ae):
  Calls prog 130 #[.slice ad 0 cap] w fun e w'=>e=.returned (.bool (dH []))/\ag w w':=by
 go_enter func130,ntmps130;go_wp2;go_loopw[3] (fun i wr=>∃k:Nat,k=0/\i=.int .i64 k/\ag w wr) (fun i _=>(intOf i).toNat);case atStart=>exact⟨0,rfl,rfl,Vs _ _⟩
 obtain⟨k,rfl,rfl,hB⟩:=hrel;go_wp2;go_ret;exact⟨rfl,hB⟩
theorem xx(ad:Q02)(cap:Nat)(w:ae):
  Calls prog 41 #[.slice ad 0 cap] w fun e w'=>e=.returned (.bool (dH []))/\ag w w':=by
 go_enter func41,ntmps41;go_wp2;go_loopw[10] (fun i wr=>∃k:Nat,k=0/\i=.int .i64 k/\ag w wr) (fun i _=>(intOf i).toNat);case atStart=>exact⟨0,rfl,rfl,Vs _ _⟩
 obtain⟨k,rfl,rfl,hB⟩:=hrel;go_wp2;go_ret;exact⟨rfl,hB⟩
theorem oo(ad:Q02)(cap:Nat)(ts:Q05)(w:ae)(hlen:ts.length<=maxLen)(hs:Sl w ad ts)(hf:∀t∈ts,t.fits):
  Calls prog 130 #[.slice ad ts.length cap] w fun e w'=>e=.returned (.bool (dH ts))/\ag w w':=by
 rcases hs with rfl|⟨b,off,rfl,hb,hr⟩
 ·exact xw ad cap w
 exact xm b off cap ts w hlen hr hb hf
theorem oq(ad:Q02)(cap:Nat)(ts:Q05)(w:ae)(hlen:ts.length<=maxLen)(hs:Sl w ad ts)(hf:∀t∈ts,t.fits):
  Calls prog 41 #[.slice ad ts.length cap] w fun e w'=>e=.returned (.bool (dH ts))/\ag w w':=by
 rcases hs with rfl|⟨b,off,rfl,hb,hr⟩
 ·exact xx ad cap w
 exact xq b off cap ts w hlen hr hb hf
end Go.Proofs.YtojjoblnpldniaaGreat
