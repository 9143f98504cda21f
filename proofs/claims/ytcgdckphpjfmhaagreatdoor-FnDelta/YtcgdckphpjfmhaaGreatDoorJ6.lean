/- Contract of the document's reader: an item that is a name, or a name over another one. -/
import Derived.Test.YtcgdckphpjfmhaaGreatDoorSq
import Derived.Test.YtcgdckphpjfmhaaGreatDoorJ3
import Derived.Test.YtcgdckphpjfmhaaGreatDoorJ4
import Derived.Test.YtcgdckphpjfmhaaGreatDoorJ5
open Go.Proofs.Tryz
set_option maxHeartbeats 80000000
namespace Go.Proofs.YtcgdckphpjfmhaaGreatDoor
set_option maxRecDepth 100000
open ChangeShapes WideShapes ChangeAt RowKit
open Pl
theorem Onl.at_new{R:Nat}{v:Value}{w w':ae}(h:Onl R v w w'){X:Nat}(hX:w.heap.size<=X)(o:Nat)(u:Value):Onl R v w (w'.setCell ⟨X,o,none⟩ u) :=
 ⟨h.os,h.tape,h.output,by simpa using h.size,fun k hk h1 h2=>(Below.heap_setCell w' _ _ k (by show k≠X;omega)).trans (h.block k hk h1 h2)⟩
theorem RdC.other{w:ae}{R:Nat}{s:ByteArray}{p:Nat}{bad:Bool}{v:Value}(h:RdC w R s p bad v){X:Nat}(hX:X≠R)(o:Nat)(u:Value):RdC (w.setCell ⟨X,o,none⟩ u) R s p bad v :=
 ⟨by simpa using h.lt,by rw[Wt (w:=w) (Below.heap_setCell w _ _ R (Ne.symm hX))];exact h.c0,by rw[Wt (w:=w) (Below.heap_setCell w _ _ R (Ne.symm hX))];exact h.c1,by rw[Wt (w:=w) (Below.heap_setCell w _ _ R (Ne.symm hX))];exact h.c2,by rw[Wt (w:=w) (Below.heap_setCell w _ _ R (Ne.symm hX))];exact h.c3,fun j=>by simpa using h.fr j⟩
theorem RdC.below{w w':ae}{R:Nat}{s:ByteArray}{p:Nat}{bad:Bool}{v:Value}(h:RdC w R s p bad v)(hb:af w w'):RdC w' R s p bad v :=
 h.grown (row:=none) ⟨hb.os,hb.tape,hb.output,hb.size,fun k hk _=>hb.block k hk⟩ (by simp)
theorem yU.below{w w':ae}{g:Nat}{q:ER}(h:yU w g q)(hb:af w w'):yU w' g q :=
 h.grown (row:=none) ⟨hb.os,hb.tape,hb.output,hb.size,fun k hk _=>hb.block k hk⟩ (by simp)
def bare(k:Int)(o n:ByteArray):ER:=⟨⟨k,[],o,n,[]⟩,none,0,none,0⟩
theorem kD(k:Int)(o n:bZ)(g:Nat):¬qF (bare k o n) g:=by
 rintro(⟨h,-⟩|⟨h,-⟩)<;>exact h rfl
theorem vJ(k:Int)(o n:bZ)(X:Nat)(w:ae):NewQ X w (bare k o n) :=
 ⟨fun h=>absurd rfl h,fun h=>absurd rfl h,⟨.inl rfl,.inl rfl⟩,fun g h=>absurd h (kD k o n g),fun g h=>absurd (Or.inl h) (kD k o n g),V4 _⟩
theorem Pv(w:ae)(k:Int)(o n:bZ):yU (w.alloc (.cells #[.int .i64 k,.slice none 0 0,.string o,.string n,.slice none 0 0] 188)) w.heap.size (bare k o n):=by
 refine⟨?_,?_,?_,?_,?_,?_⟩<;>simp[bare]
theorem Pw{w:ae}{X:Nat}{a0 a1 a2 a3 a4:Value}(h0:w.cell? ⟨X,0,none⟩=some a0)(h1:w.cell? ⟨X,1,none⟩=some a1)(h2:w.cell? ⟨X,2,none⟩=some a2)(h3:w.cell? ⟨X,3,none⟩=some a3)(h4:w.cell? ⟨X,4,none⟩=some a4)(hl:X<w.heap.size)(k:Int)(o n:bZ):
  yU (((((w.setCell ⟨X,0,none⟩ (.int .i64 k)).setCell ⟨X,1,none⟩ (.slice none 0 0)).setCell ⟨X,2,none⟩ (.string o)).setCell ⟨X,3,none⟩ (.string n)).setCell ⟨X,4,none⟩ (.slice none 0 0)) X (bare k o n):=by
 refine⟨?_,?_,?_,?_,?_,by simpa using hl⟩
 ·rw[mO (by omega),mO (by omega),mO (by omega),mO (by omega)];exact mS h0
 ·rw[mO (by omega),mO (by omega),mO (by omega)];exact mS (by rw[mO (by omega)];exact h1)
 ·rw[mO (by omega),mO (by omega)];exact mS (by rw[mO (by omega),mO (by omega)];exact h2)
 ·rw[mO (by omega)];exact mS (by rw[mO (by omega),mO (by omega),mO (by omega)];exact h3)
 exact mS (by rw[mO (by omega),mO (by omega),mO (by omega),mO (by omega)];exact h4)
def VB(l:Q03)(R:Nat)(s:ByteArray)(p:Nat)(bad:Bool)(v:Value)(k:Nat)(u:Value)(w':World):Prop:=u=l.getD k undef/\(k=3->RdC w' R s p bad v)
structure GB(R:Nat)(s:ByteArray)(p:Nat)(bad:Bool)(v:Value)(X:Nat)(q:ER)(w:World)(listed:Array Bool)(w':World):Prop where
 rd:listed.getD 3 false=false->RdC w' R s p bad v
 box:yU w' X q
 onl:Onl R oI w w'
 fr:jM w' X
theorem GB.step{R:Nat}{s:ByteArray}{p:Nat}{bad:Bool}{v:Value}{X:Nat}{q:ER}{w w':ae}{listed:Array Bool}(h:GB R s p bad v X q w listed w'){i:Nat}(hls:listed.size=6)(h3:i≠3):GB R s p bad v X q w (listed.setIfInBounds i true) w' :=
 ⟨fun k=>h.rd (by
  by_cases hi:i<6
  ·rw[aQ _ _ _ (by omega),if_neg (Ne.symm h3)]at k;exact k
  rw[show listed.setIfInBounds i true=listed by rw[Array.setIfInBounds_eq_of_size_le (by omega)]]at k;exact k),h.box,h.onl,h.fr⟩
theorem GB.called{R:Nat}{s:ByteArray}{p:Nat}{bad:Bool}{v:Value}{X:Nat}{q:ER}{w w' w'':ae}{listed:Array Bool}(h:GB R s p bad v X q w listed w')(hls:listed.size=6)(hg:w'.grownBy w'' (some R))(hX:X≠R):GB R s p bad v X q w (listed.setIfInBounds 3 true) w'' :=
 ⟨fun k=>(by rw[aQ _ _ _ (by omega),if_pos rfl]at k;cases k),h.box.grown hg (by intro e;injection e with e;exact hX e),h.onl.trans0 (Onl.of_grown hg),cz h.fr (hg.block X h.box.2.2.2.2.2 (by intro e;injection e with e;exact hX e))⟩
theorem Px{s:ByteArray}{st:RS}(h:nO s pR (st.p+av s st.p) st.bad=false):eZ s st=⟨2,[],⟨#[]⟩,az s st.p,[]⟩/\aK s st=⟨st.p+av s st.p,st.bad,st.out⟩:=by
 have e:lV s pR (bB s st)=false:=h;exact⟨by unfold eZ;rw[e];rfl,by unfold aK;rw[e];rfl⟩
theorem MC{s:ByteArray}{st:RS}(h:nO s pR (st.p+av s st.p) st.bad=true):eZ s st=⟨3,[],az s st.p,az s (st.p+av s st.p+2),[]⟩/\aK s st=⟨st.p+av s st.p+2+av s (st.p+av s st.p+2),st.bad,st.out⟩:=by
 have e:lV s pR (bB s st)=true:=h;exact⟨by unfold eZ;rw[e];rfl,by unfold aK;rw[e];rfl⟩
theorem ME(R:Nat)(s:bZ)(st:RS)(base:Nat)(v:Value)(qs:Q08)(w:ae)(h:RdF w R s st base v qs)(hR:R<base)(hB:base<=w.heap.size)(hs:s.size<=1000)(hp:st.p<=s.size)(hn:qs.length<=100000)
  (h0:nO s fP st.p st.bad=false) (h1:nO s jD st.p st.bad=false) :
  Calls prog 242 #[.pointer (some ⟨R,0,none⟩)] w (vF R s base v qs w ((st.out.length:Int),tq (eZ s st) (judged (eZ s st) (aK s st)))):=by
 have H:=ai h;have HP:=ai hp;clear h hp;go_enter func242,ntmps242;go_wp2_with fail;refine(mI R s fP st.p st.bad v w H.out.rd hs HP.out (by decide)).mono ?_;rintro e w1 ⟨rfl,hr1,hg1⟩;have Yc:=ai (H.out.is_no hR h0 hr1 hg1);have XD:=ai (Onl.of_grown hg1);rw[h0];clear hr1 hg1 h0;go_wp2_with fail;refine(mI R s jD st.p st.bad v w1 Yc.out.rd hs HP.out (by decide)).mono ?_;rintro e w2 ⟨rfl,hr2,hg2⟩;have Yd:=ai (Yc.out.is_no hR h1 hr2 hg2);have Xv:=ai (XD.out.trans0 (Onl.of_grown hg2));rw[h1];clear hr2 hg2 h1 Yc XD;go_wp2_with fail;refine(vD R s st.p st.bad v w2 Yd.out.rd hs HP.out).mono ?_;rintro e w3 ⟨rfl,hr3,hg3⟩;have HF3:=ai (Yd.out.over hR (Onl.of_grown hg3) hr3);have XG:=ai (Xv.out.trans0 (Onl.of_grown hg3));have HP3:=ai (kN s st.p HP.out);have HSZ:=ai (Ad s st.p HP.out);clear hr3 hg3 Yd Xv;obtain⟨W4,Yg⟩:∃W4,W4=w3.alloc (.cells #[.int .i64 2,.slice none 0 0,.string ⟨#[]⟩,.string (az s st.p),.slice none 0 0] 188):=⟨_,rfl⟩;have HV4:Hid (yU W4 w3.heap.size (bare 2 ⟨#[]⟩ (az s st.p))):=by rw[Yg];exact Pv w3 2 ⟨#[]⟩ (az s st.p)
 have HO4a:Hid (Onl R oI w3 W4):=by rw[Yg];exact Onl.of_below ((V5 _ _).alloc (V4 _) _)
 have Zd:Hid (RdF W4 R s ⟨st.p+av s st.p,st.bad,st.out⟩ base v qs):=HF3.out.over hR HO4a.out (by rw[Yg];exact HF3.out.rd.below ((V5 _ _).alloc (V4 _) _));have XE:=ai (XG.out.trans0 HO4a.out);have HFR4:Hid (jM W4 w3.heap.size):=fun y=>by rw[Yg];simp
 have HXR:Hid (w3.heap.size≠R):=by have:=HF3.out.rd.lt;show _≠_;omega
 have HX0:Hid (w.heap.size<=w3.heap.size):=XG.out.size;have HX3:Hid (w3.heap.size<=w3.heap.size):=V4 _;go_wp2_with fail;rw[<-Yg];clear Yg;obtain⟨X,hX⟩:∃X,X=w3.heap.size:=⟨_,rfl⟩;rw[<-hX]at HV4 HFR4 HXR HX0;replace HX3:Hid (w3.heap.size<=X):=Nat.le_of_eq hX.symm;rw[<-hX];clear hX;refine(mI R s pR (st.p+av s st.p) st.bad v W4 Zd.out.rd hs HP3.out (by decide)).mono ?_;rintro e w5 ⟨rfl,hr5,hg5⟩;have HV5:=ai (HV4.out.grown hg5 (by intro e;injection e with e;exact HXR.out e));have HFR5:=ai (cz HFR4.out (hg5.block X HV4.out.2.2.2.2.2 (by intro e;injection e with e;exact HXR.out e)));have XH:=ai (XE.out.trans0 (Onl.of_grown hg5));have HO35:=ai (HO4a.out.trans0 (Onl.of_grown hg5));cases hc:nO s pR (st.p+av s st.p) st.bad;case false=>
  have HF5:=ai (Zd.out.is_no hR hc hr5 hg5);have EQ:=ai (Px hc);clear hr5 hg5 hc Zd XE HV4 HFR4;obtain⟨x0,x1,x2,x3,x4,xl⟩:=HV5.out;replace x0:w5.cell? ⟨X,0,none⟩=some (.int .i64 2):=x0;replace x1:w5.cell? ⟨X,1,none⟩=some (.slice none 0 0):=x1;replace x2:w5.cell? ⟨X,2,none⟩=some (.string ⟨#[]⟩):=x2;replace x3:w5.cell? ⟨X,3,none⟩=some (.string (az s st.p)):=x3;replace x4:w5.cell? ⟨X,4,none⟩=some (.slice none 0 0):=x4;go_wp2_with fail;refine(mJ (bare 2 ⟨#[]⟩ (az s st.p)) w5 ⟨fun a ha=>(by cases ha),Wd _,by show(az s st.p).size<=maxLen;rw[HSZ.out];have:=HP3.out;unfold maxLen;omega,Wd _,Wd _⟩ (by show(2:Int)≠1;decide)).mono ?_;rintro e w6 ⟨rfl,hB6⟩;have Yf:=ai (XH.out.trans0 (Onl.of_below hB6));have HF6:=ai (HF5.out.over hR (Onl.of_below hB6) (HF5.out.rd.below hB6));obtain⟨y0,y1,y2,y3,y4,yl⟩:=HV5.out.below hB6;replace y0:w6.cell? ⟨X,0,none⟩=some (.int .i64 2):=y0;replace y1:w6.cell? ⟨X,1,none⟩=some (.slice none 0 0):=y1;replace y2:w6.cell? ⟨X,2,none⟩=some (.string ⟨#[]⟩):=y2;replace y3:w6.cell? ⟨X,3,none⟩=some (.string (az s st.p)):=y3;replace y4:w6.cell? ⟨X,4,none⟩=some (.slice none 0 0):=y4;clear x0 x1 x2 x3 x4 xl hB6 HV5 HF5 XH;cases hb:ay (bare 2 ⟨#[]⟩ (az s st.p)).e;case true=>
   have HE:Hid (eZ s st=(bare 2 ⟨#[]⟩ (az s st.p)).e/\judged (eZ s st) (aK s st)=(⟨st.p+av s st.p,st.bad,st.out⟩:RS)):=by
    refine⟨EQ.out.1,?_⟩;rw[EQ.out.1,EQ.out.2];exact if_pos hb
   clear hb;go_wp2_with fail;refine(Mi R s ((⟨st.p+av s st.p,st.bad,st.out⟩:RS)) base v qs (bare 2 ⟨#[]⟩ (az s st.p)) w6 HF6.out hR (Wh hB Yf.out.size) hn (vJ _ _ _ _ _) (.inl ⟨rfl,rfl,rfl⟩) (fun g hg=>absurd hg (kD _ _ _ g))).mono ?_;rintro e w7 ⟨v7,rfl,hF7,hW7⟩;have HF7:=ai hF7;have HW7:=ai ((Yf.out.any v).trans hW7);clear hF7 hW7;go_wp2;exact bodyPost_ret (v:=.int .i64 (st.out.length:Int)) (by simp[results,Tryz.results242,go_sem]) rfl (by rw[HE.out.1,<-HE.out.1,HE.out.2,HE.out.1];exact⟨v7,[bare 2 ⟨#[]⟩ (az s st.p)],rfl,HF7.out,HW7.out,fun q hq g hg=>by rw[Wl]at hq;subst hq;exact absurd hg (kD _ _ _ g)⟩)
  have HE:Hid (eZ s st=(bare 2 ⟨#[]⟩ (az s st.p)).e/\judged (eZ s st) (aK s st)=vz ((⟨st.p+av s st.p,st.bad,st.out⟩:RS))):=by
   refine⟨EQ.out.1,?_⟩;rw[EQ.out.1,EQ.out.2];exact if_neg (fun e=>by have:=e.symm.trans hb;cases this)
  clear hb;have c2:=HF6.out.rd.c2;have f2:=HF6.out.rd.fr 2;have hl:=HF6.out.rd.lt;have hxr:=HXR.out;have hrx:=Ne.symm HXR.out;have Z4:Hid (Onl R oI w (w6.setCell ⟨R,2,none⟩ (.bool true))):=Yf.out.at_own _ _;have HF7:Hid (RdF (w6.setCell ⟨R,2,none⟩ (.bool true)) R s (vz ((⟨st.p+av s st.p,st.bad,st.out⟩:RS))) base v qs):=HF6.out.over hR ((Onl.refl R oI w6).at_own _ _) HF6.out.rd.hurt;go_wp2_with fail;refine(Mi R s (vz ((⟨st.p+av s st.p,st.bad,st.out⟩:RS))) base v qs (bare 2 ⟨#[]⟩ (az s st.p)) _ HF7.out hR (Wh hB Z4.out.size) hn (vJ _ _ _ _ _) (.inl ⟨rfl,rfl,rfl⟩) (fun g hg=>absurd hg (kD _ _ _ g))).mono ?_;rintro e w8 ⟨v8,rfl,hF8,Zb⟩;have HF8:=ai hF8;have HW8:=ai ((Z4.out.any v).trans Zb);clear hF8 Zb;go_wp2;exact bodyPost_ret (v:=.int .i64 (st.out.length:Int)) (by simp[results,Tryz.results242,go_sem,vz]) rfl (by rw[HE.out.1,<-HE.out.1,HE.out.2,HE.out.1];exact⟨v8,[bare 2 ⟨#[]⟩ (az s st.p)],rfl,HF8.out,HW8.out,fun q hq g hg=>by rw[Wl]at hq;subst hq;exact absurd hg (kD _ _ _ g)⟩)
 have HF5:=ai (Zd.out.is_yes hR hc hr5 hg5);have EQ:=ai (MC hc);have HP5:Hid (st.p+av s st.p+2<=s.size):=Ag hc;clear hr5 hg5 hc Zd XE HV4 HFR4;go_wp2_with fail;refine mD 5 _ _ (VB (Value.pointer (some ⟨X,3,none⟩)::.string (az s st.p)::.pointer (some ⟨R,0,none⟩)::.string (az s (st.p+av s st.p+2))::.agg #[.int .i64 3,.slice none 0 0,.string (az s st.p),.string (az s (st.p+av s st.p+2)),.slice none 0 0]::[]) R s ((st.p+av s st.p+2)+av s (st.p+av s st.p+2)) st.bad v) (GB R s (st.p+av s st.p+2) st.bad v X (bare 2 ⟨#[]⟩ (az s st.p)) w3) (by kernel_rfl) rfl (by decide +kernel) (by decide +kernel) (Ck [(56,[0,1,2,3,4])]) ⟨fun _=>HF5.out.rd.drewN 1,HV5.out,⟨HO35.out.os,HO35.out.tape,HO35.out.output,HO35.out.size,HO35.out.block⟩,HFR5.out⟩ ?DZ ?finB<;>dsimp only[zo];case DZ =>
  rintro i hi o ho listed f w' hls YQ hG hpre;have HG:=ai hG;have HM:Hid (∀e∈o.after,Region.binds .any e=true->_):=hpre;clear hG hpre;have hc:i=0\/i=1\/i=2\/i=3\/i=4:=by omega
  clear hi
  repeat' rcases hc with rfl|hc
  ·cases ho;have HS:=ai (HG.out.step (i:=0) hls (by decide));refine aa rfl fun K HK=>?_;clear HM;dsimp only;go_simp;exact HK.out _ _ ⟨Value.pointer (some ⟨X,3,none⟩),by simp[upd],HS.out,⟨rfl,fun e=>absurd e (by decide)⟩,fun k u _ hu=>hu⟩
  ·cases ho;have e0:f 0=Value.pointer (some ⟨X,3,none⟩):=(HM.out ⟨0,.data⟩ (by simp) rfl).1;have x3:w'.cell? ⟨X,3,none⟩=some (.string (az s st.p)):=HG.out.box.2.2.2.1;have HS:=ai (HG.out.step (i:=1) hls (by decide));refine aa rfl fun K HK=>?_;clear HM;simp only[e0];go_simp;exact HK.out _ _ ⟨Value.string (az s st.p),by simp[upd,e0],HS.out,⟨rfl,fun e=>absurd e (by decide)⟩,fun k u _ hu=>hu⟩
  ·cases ho;have HS:=ai (HG.out.step (i:=2) hls (by decide));refine aa rfl fun K HK=>?_;clear HM;dsimp only;go_simp;exact HK.out _ _ ⟨Value.pointer (some ⟨R,0,none⟩),by simp[upd],HS.out,⟨rfl,fun e=>absurd e (by decide)⟩,fun k u _ hu=>hu⟩
  ·cases ho;have e2:f 2=Value.pointer (some ⟨R,0,none⟩):=(HM.out ⟨2,.data⟩ (by simp) rfl).1;have hrd:=ai (HG.out.rd (Jd YQ hls (by omega)));refine aa rfl fun K HK=>?_;clear HM;simp only[e2];go_simp;refine(vD R s (st.p+av s st.p+2) st.bad v w' hrd.out hs HP5.out).mono ?_;rintro e w7 ⟨rfl,hr7,ZE⟩;have HS:=ai (HG.out.called hls ZE HXR.out);have HR7:=ai hr7;clear hr7 ZE;go_wp2_with fail;exact HK.out _ _ ⟨Value.string (az s (st.p+av s st.p+2)),by simp[upd,e2],HS.out,⟨rfl,fun _=>HR7.out⟩,fun k u hk hu=>⟨hu.1,fun e=>absurd e hk⟩⟩
  cases ho;have e1:f 1=Value.string (az s st.p):=(HM.out ⟨1,.data⟩ (by simp) rfl).1;have e3:f 3=Value.string (az s (st.p+av s st.p+2)):=(HM.out ⟨3,.data⟩ (by simp) rfl).1;have HS:=ai (HG.out.step (i:=4) hls (by decide));refine aa rfl fun K HK=>?_;clear HM;simp only[e1,e3];go_simp;exact HK.out _ _ ⟨Value.agg #[.int .i64 3,.slice none 0 0,.string (az s st.p),.string (az s (st.p+av s st.p+2)),.slice none 0 0],by simp[upd,e1,e3],HS.out,⟨rfl,fun e=>absurd e (by decide)⟩,fun k u _ hu=>hu⟩
 case finB =>
  rintro o ho listed f w' hG hall;obtain rfl:=Option.some.inj ho;have e4:f 4=Value.agg #[.int .i64 3,.slice none 0 0,.string (az s st.p),.string (az s (st.p+av s st.p+2)),.slice none 0 0]:=(hall 4 (by omega)).1;have HRD:=ai ((hall 3 (by omega)).2 rfl);have HG:=ai hG;obtain⟨x0,x1,x2,x3,x4,xl⟩:=hG.box;have f0:=hG.fr 0;have f1:=hG.fr 1;have f2:=hG.fr 2;have f3:=hG.fr 3;have f4:=hG.fr 4;clear ho hall hG;refine wpOp_step rfl (fun K hK=>?_);have HK:Hid (∀a w,_->K a w):=hK;clear hK;simp only[e4];go_simp;refine HK.out _ _ ?_;clear HK;obtain⟨wz,hwz⟩:∃wz,wz=(((((w'.setCell ⟨X,0,none⟩ (.int .i64 3)).setCell ⟨X,1,none⟩ (.slice none 0 0)).setCell ⟨X,2,none⟩ (.string (az s st.p))).setCell ⟨X,3,none⟩ (.string (az s (st.p+av s st.p+2)))).setCell ⟨X,4,none⟩ (.slice none 0 0)):=⟨_,rfl⟩;have HO3z:Hid (Onl R oI w3 wz):=by rw[hwz];exact((((HG.out.onl.at_new HX3.out _ _).at_new HX3.out _ _).at_new HX3.out _ _).at_new HX3.out _ _).at_new HX3.out _ _
  have HRz:Hid (RdC wz R s (st.p+av s st.p+2+av s (st.p+av s st.p+2)) st.bad v):=by rw[hwz];exact((((HRD.out.other HXR.out _ _).other HXR.out _ _).other HXR.out _ _).other HXR.out _ _).other HXR.out _ _
  have HVz:Hid (yU wz X (bare 3 (az s st.p) (az s (st.p+av s st.p+2)))):=by rw[hwz];exact Pw x0 x1 x2 x3 x4 xl _ _ _
  clear HV5 HF5 XH HO35 HFR5;have HF5:=ai (HF3.out.over hR HO3z.out HRz.out);have XH:=ai (XG.out.trans0 HO3z.out);rw[<-hwz];clear hwz x0 x1 x2 x3 x4 xl f0 f1 f2 f3 f4 e4 HRz HO3z HG HRD;obtain⟨x0,x1,x2,x3,x4,xl⟩:=HVz.out;replace x0:wz.cell? ⟨X,0,none⟩=some (.int .i64 3):=x0;replace x1:wz.cell? ⟨X,1,none⟩=some (.slice none 0 0):=x1;replace x2:wz.cell? ⟨X,2,none⟩=some (.string (az s st.p)):=x2;replace x3:wz.cell? ⟨X,3,none⟩=some (.string (az s (st.p+av s st.p+2))):=x3;replace x4:wz.cell? ⟨X,4,none⟩=some (.slice none 0 0):=x4;go_wp2_with fail;refine(mJ (bare 3 (az s st.p) (az s (st.p+av s st.p+2))) wz ⟨fun a ha=>(by cases ha),by show(az s st.p).size<=maxLen;rw[HSZ.out];have:=HP3.out;unfold maxLen;omega,by show(az s (st.p+av s st.p+2)).size<=maxLen;rw[Ad s _ HP5.out];have:=kN s _ HP5.out;unfold maxLen;omega,Wd _,Wd _⟩ (by show(3:Int)≠1;decide)).mono ?_;rintro e w6 ⟨rfl,hB6⟩;have Yf:=ai (XH.out.trans0 (Onl.of_below hB6));have HF6:=ai (HF5.out.over hR (Onl.of_below hB6) (HF5.out.rd.below hB6));obtain⟨y0,y1,y2,y3,y4,yl⟩:=HVz.out.below hB6;replace y0:w6.cell? ⟨X,0,none⟩=some (.int .i64 3):=y0;replace y1:w6.cell? ⟨X,1,none⟩=some (.slice none 0 0):=y1;replace y2:w6.cell? ⟨X,2,none⟩=some (.string (az s st.p)):=y2;replace y3:w6.cell? ⟨X,3,none⟩=some (.string (az s (st.p+av s st.p+2))):=y3;replace y4:w6.cell? ⟨X,4,none⟩=some (.slice none 0 0):=y4;clear x0 x1 x2 x3 x4 xl hB6 HVz HF5 XH;cases hb:ay (bare 3 (az s st.p) (az s (st.p+av s st.p+2))).e;case true=>
   have HE:Hid (eZ s st=(bare 3 (az s st.p) (az s (st.p+av s st.p+2))).e/\judged (eZ s st) (aK s st)=(⟨st.p+av s st.p+2+av s (st.p+av s st.p+2),st.bad,st.out⟩:RS)):=by
    refine⟨EQ.out.1,?_⟩;rw[EQ.out.1,EQ.out.2];exact if_pos hb
   clear hb;go_wp2_with fail;refine(Mi R s ((⟨st.p+av s st.p+2+av s (st.p+av s st.p+2),st.bad,st.out⟩:RS)) base v qs (bare 3 (az s st.p) (az s (st.p+av s st.p+2))) w6 HF6.out hR (Wh hB Yf.out.size) hn (vJ _ _ _ _ _) (.inl ⟨rfl,rfl,rfl⟩) (fun g hg=>absurd hg (kD _ _ _ g))).mono ?_;rintro e w7 ⟨v7,rfl,hF7,hW7⟩;have HF7:=ai hF7;have HW7:=ai ((Yf.out.any v).trans hW7);clear hF7 hW7;go_wp2;exact bodyPost_ret (v:=.int .i64 (st.out.length:Int)) (by simp[results,Tryz.results242,go_sem]) rfl (by rw[HE.out.1,<-HE.out.1,HE.out.2,HE.out.1];exact⟨v7,[bare 3 (az s st.p) (az s (st.p+av s st.p+2))],rfl,HF7.out,HW7.out,fun q hq g hg=>by rw[Wl]at hq;subst hq;exact absurd hg (kD _ _ _ g)⟩)
  have HE:Hid (eZ s st=(bare 3 (az s st.p) (az s (st.p+av s st.p+2))).e/\judged (eZ s st) (aK s st)=vz ((⟨st.p+av s st.p+2+av s (st.p+av s st.p+2),st.bad,st.out⟩:RS))):=by
   refine⟨EQ.out.1,?_⟩;rw[EQ.out.1,EQ.out.2];exact if_neg (fun e=>by have:=e.symm.trans hb;cases this)
  clear hb;have c2:=HF6.out.rd.c2;have f2:=HF6.out.rd.fr 2;have hl:=HF6.out.rd.lt;have hxr:=HXR.out;have hrx:=Ne.symm HXR.out;have Z4:Hid (Onl R oI w (w6.setCell ⟨R,2,none⟩ (.bool true))):=Yf.out.at_own _ _;have HF7:Hid (RdF (w6.setCell ⟨R,2,none⟩ (.bool true)) R s (vz ((⟨st.p+av s st.p+2+av s (st.p+av s st.p+2),st.bad,st.out⟩:RS))) base v qs):=HF6.out.over hR ((Onl.refl R oI w6).at_own _ _) HF6.out.rd.hurt;go_wp2_with fail;refine(Mi R s (vz ((⟨st.p+av s st.p+2+av s (st.p+av s st.p+2),st.bad,st.out⟩:RS))) base v qs (bare 3 (az s st.p) (az s (st.p+av s st.p+2))) _ HF7.out hR (Wh hB Z4.out.size) hn (vJ _ _ _ _ _) (.inl ⟨rfl,rfl,rfl⟩) (fun g hg=>absurd hg (kD _ _ _ g))).mono ?_;rintro e w8 ⟨v8,rfl,hF8,Zb⟩;have HF8:=ai hF8;have HW8:=ai ((Z4.out.any v).trans Zb);clear hF8 Zb;go_wp2;exact bodyPost_ret (v:=.int .i64 (st.out.length:Int)) (by simp[results,Tryz.results242,go_sem,vz]) rfl (by rw[HE.out.1,<-HE.out.1,HE.out.2,HE.out.1];exact⟨v8,[bare 3 (az s st.p) (az s (st.p+av s st.p+2))],rfl,HF8.out,HW8.out,fun q hq g hg=>by rw[Wl]at hq;subst hq;exact absurd hg (kD _ _ _ g)⟩)
structure PL(w1 wr:World)(R X:Nat)(s:ByteArray)(xs:Q0a)(p:Nat)(bad:Bool)(v vA:Value):Prop where
 rd:RdC wr R s p bad v
 onl:Onl R oI w1 wr
 c0:wr.cell? ⟨X,0,none⟩=some (.int .i64 1)
 c1:wr.cell? ⟨X,1,none⟩=some vA
 c2:wr.cell? ⟨X,2,none⟩=some (.string ⟨#[]⟩)
 c3:wr.cell? ⟨X,3,none⟩=some (.string ⟨#[]⟩)
 c4:wr.cell? ⟨X,4,none⟩=some (.slice none 0 0)
 fr:jM wr X
 lt:X<wr.heap.size
 own:wr.ownsRow (X+1) 223 2 vA xs.length (pairs xs)
theorem PL.moved{w1 wr w':ae}{R X:Nat}{s:ByteArray}{xs:Q0a}{p p':Nat}{bad bad':Bool}{v vA:Value}(h:PL w1 wr R X s xs p bad v vA)(hRX:R<X)(hg:wr.grownBy w' (some R))(hr:RdC w' R s p' bad' v):PL w1 w' R X s xs p' bad' v vA:=by
 have hne:some X≠some R:=by intro e;injection e with e;omega
 refine⟨hr,h.onl.trans0 (Onl.of_grown hg),hg.cell h.c0 hne,hg.cell h.c1 hne,hg.cell h.c2 hne,hg.cell h.c3 hne,hg.cell h.c4 hne,cz h.fr (hg.block X h.lt hne),VY h.lt hg.size,h.own.kept hg (.inr ?_)⟩;intro e;have:=(h.own.lt R e).1;omega
theorem PL.made{w1 wr:ae}{R X:Nat}{s:ByteArray}{xs:Q0a}{p:Nat}{bad:Bool}{v vA:Value}(h:PL w1 wr R X s xs p bad v vA)(o:Obj):PL w1 (wr.alloc o) R X s xs p bad v vA:=by
 have hg:=World.grownBy_alloc wr o none;exact⟨h.rd.grown hg (by simp),h.onl.trans0 (Onl.of_below ((V5 _ _).alloc (V4 _) _)),hg.cell h.c0 (by simp),hg.cell h.c1 (by simp),hg.cell h.c2 (by simp),hg.cell h.c3 (by simp),hg.cell h.c4 (by simp),cz h.fr (hg.block X h.lt (by simp)),VY h.lt hg.size,h.own.alloc o⟩
theorem PL.aset{w1 wr:ae}{R X:Nat}{s:ByteArray}{xs:Q0a}{p:Nat}{bad:Bool}{v vA:Value}(h:PL w1 wr R X s xs p bad v vA)(hRX:R<X)(h1:w1.heap.size<=X){A:Nat}(hA:X<A)(hv:vA.ownBlock≠some A)(o:Nat)(u:Value):PL w1 (wr.setCell ⟨A,o,none⟩ u) R X s xs p bad v vA:=by
 have hb:∀k,k≠A->(wr.setCell ⟨A,o,none⟩ u).heap[k]?=wr.heap[k]?:=fun k hk=>Below.heap_setCell wr _ _ k hk;refine⟨h.rd.other (by omega) _ _,h.onl.at_new (by omega) _ _,?_,?_,?_,?_,?_,cz h.fr (hb X (by omega)),by simpa using h.lt,jB h.own fun g hg=>hb g (fun e=>hv (by rw[hg,e]))⟩
 all_goals rw[Wt (w:=wr) (hb X (by omega))]
 ·exact h.c0
 ·exact h.c1
 ·exact h.c2
 ·exact h.c3
 exact h.c4
theorem MF(xs:Q0a)(a:Al):pairs (xs++[a])=pairs xs++[.string a.t,.string a.s]:=by simp[pairs]
theorem PL.app{w1 wr w':ae}{R X:Nat}{s:ByteArray}{xs:Q0a}{p:Nat}{bad:Bool}{v vA vB:Value}(h:PL w1 wr R X s xs p bad v vA)(hRX:R<X)(h1:w1.heap.size<=X)(a:Al)(hown:w'.ownsRow (X+1) 223 2 vB (xs.length+1) (pairs xs++[.string a.t,.string a.s]))(hg:wr.grownBy w' vA.ownBlock):PL w1 (w'.setCell ⟨X,1,none⟩ vB) R X s (xs++[a]) p bad v vB:=by
 have hX:some X≠vA.ownBlock:=fun e=>by have:=(h.own.lt X e.symm).1;omega
 have hR:some R≠vA.ownBlock:=fun e=>by have:=(h.own.lt R e.symm).1;omega
 have ho:Onl R oI w1 w':=⟨hg.os.trans h.onl.os,hg.tape.trans h.onl.tape,hg.output.trans h.onl.output,Wh h.onl.size hg.size,fun k hk h2 h3=>(hg.block k (VY hk h.onl.size) (fun e=>by have:=(h.own.lt k e.symm).1;omega)).trans (h.onl.block k hk h2 h3)⟩;refine⟨(h.rd.grown hg hR).other (by omega) _ _,ho.at_new h1 _ _,?_,mS (hg.cell h.c1 hX),?_,?_,?_,fun j=>?_,?_,?_⟩
 ·rw[mO (by omega)];exact hg.cell h.c0 hX
 ·rw[mO (by omega)];exact hg.cell h.c2 hX
 ·rw[mO (by omega)];exact hg.cell h.c3 hX
 ·rw[mO (by omega)];exact hg.cell h.c4 hX
 ·simpa using cz h.fr (hg.block X h.lt hX) j
 ·simpa using VY h.lt hg.size
 rw[MF,Wi,WJ];exact ownsRow_setCell_below hown (by show X<X+1;omega) _
def wbad(R:Nat)(w:World):Nat:=match w.cell? ⟨R,2,none⟩ with
 | some (.bool true)=>0
 | _=>1
theorem RdC.wbad0{w:ae}{R:Nat}{s:ByteArray}{p:Nat}{v:Value}(h:RdC w R s p true v):wbad R w=0:=by
 simp[Go.Proofs.YtcgdckphpjfmhaaGreatDoor.wbad,h.c2]
theorem RdC.wbad1{w:ae}{R:Nat}{s:ByteArray}{p:Nat}{v:Value}(h:RdC w R s p false v):wbad R w=1:=by
 simp[Go.Proofs.YtcgdckphpjfmhaaGreatDoor.wbad,h.c2]
theorem AA(w:ae)(a b:bZ)(g:Nat)(hg:w.heap.size=g):∀j u,[Value.string a,.string b][j]?=some u->(w.alloc (.cells #[.string a,.string b] 223)).cell? ((⟨g,0,none⟩:Addr).add j)=some u:=by
 intro j u hu;subst hg;rw[show(⟨w.heap.size,0,none⟩:Addr).add j=⟨w.heap.size,0+j,none⟩ by simp[Addr.add];omega,WB];have:=World.cell?_alloc_mark w #[.string a,.string b] 223 (0,0) j;rw[this];simpa using hu
def ry(s:ByteArray)(st:RS):Int×RS:=match dx s (s.size+1) [] (kM fP st) with
 | (some xs,st')=>((st'.out.length:Int),tq ⟨1,xs,⟨#[]⟩,⟨#[]⟩,[]⟩ st')
 | (none,st')=>(0,st')
theorem Ju{s:ByteArray}{st st':RS}{xs:Q0a}(h:dx s (s.size+1) [] (kM fP st)=(some xs,st')):ry s st=((st'.out.length:Int),tq ⟨1,xs,⟨#[]⟩,⟨#[]⟩,[]⟩ st'):=by simp only[ry,h]
theorem Jv{s:ByteArray}{st st':RS}(h:dx s (s.size+1) [] (kM fP st)=(none,st')):ry s st=(0,st'):=by simp only[ry,h]
theorem Jw(s:bZ)(n:Nat)(xs:Q0a)(p:Nat)(o:Q09):dx s n xs ⟨p,true,o⟩=(none,⟨p,true,o⟩):=by
 cases n with
 | zero=>rfl
 | succ n=>rfl
structure PairIs(s:ByteArray)(p:Nat)(o:Q09)(a:Al)(pb:Nat):Prop where
 a:(⟨az s p,yT s (bB s ⟨p,false,o⟩)⟩:Al)=a
 b:aX s (bB s ⟨p,false,o⟩)=⟨pb,false,o⟩
theorem MG{s:ByteArray}{p:Nat}{o:Q09}(h:nO s vw (p+av s p) false=false):PairIs s p o ⟨az s p,⟨#[]⟩⟩ (p+av s p):=by
 have e:lV s vw (bB s ⟨p,false,o⟩)=false:=h;exact⟨by unfold yT;rw[e];rfl,by unfold aX;rw[e];rfl⟩
theorem Jy{s:ByteArray}{p:Nat}{o:Q09}(h:nO s vw (p+av s p) false=true):PairIs s p o ⟨az s p,az s (p+av s p+1)⟩ (p+av s p+1+av s (p+av s p+1)):=by
 have e:lV s vw (bB s ⟨p,false,o⟩)=true:=h;exact⟨by unfold yT;rw[e];rfl,by unfold aX;rw[e];rfl⟩
theorem Gv{s:ByteArray}{p pb n:Nat}{o:Q09}{a:Al}{xs:Q0a}(h:PairIs s p o a pb)(h1:nO s fu pb false=true):dx s (n+1) xs ⟨p,false,o⟩=(some (xs++[a]),⟨pb+1,false,o⟩):=by
 have e:lV s fu ⟨pb,false,o⟩=true:=h1;unfold dx;rw[h.a,h.b,e];rfl
theorem Gw{s:ByteArray}{p pb n:Nat}{o:Q09}{a:Al}{xs:Q0a}(h:PairIs s p o a pb)(h1:nO s fu pb false=false)(h2:nO s mH pb false=true):dx s (n+1) xs ⟨p,false,o⟩=dx s n (xs++[a]) ⟨pb+1,false,o⟩:=by
 have e:lV s fu ⟨pb,false,o⟩=false:=h1;have e2:lV s mH ⟨pb,false,o⟩=true:=h2
 conv=>lhs;unfold dx
 rw[h.a,h.b,e,e2];rfl
theorem MH{s:ByteArray}{p pb n:Nat}{o:Q09}{a:Al}{xs:Q0a}(h:PairIs s p o a pb)(h1:nO s fu pb false=false)(h2:nO s mH pb false=false):dx s (n+1) xs ⟨p,false,o⟩=dx s n (xs++[a]) ⟨pb,true,o⟩:=by
 have e:lV s fu ⟨pb,false,o⟩=false:=h1;have e2:lV s mH ⟨pb,false,o⟩=false:=h2
 conv=>lhs;unfold dx
 rw[h.a,h.b,e,e2];rfl
theorem capOf{w:ae}{base size n m cap:Nat}{e:TypeId}{ad:Q02}{xs:Q03}(h:w.ownsRow base e size (.slice ad n cap) m xs)(hm:m=n:=by rfl):n<=cap:=by
 rcases h.2 with⟨e1,h0⟩|⟨g,cap',cur,e1,-,-,hnc,-⟩
 ·injection e1 with _ e2 e3;omega
 injection e1 with _ e2 e3;omega
theorem PL.node{w1 wr:ae}{R X:Nat}{s:ByteArray}{xs:Q0a}{p:Nat}{bad:Bool}{v vA:Value}(h:PL w1 wr R X s xs p bad v vA)(h1:w1.heap.size<=X){base:Nat}(hb:base<=w1.heap.size):∃ad cap,vA=.slice ad xs.length cap/\NewQ base wr ⟨⟨1,xs,⟨#[]⟩,⟨#[]⟩,[]⟩,ad,cap,none,0⟩/\∀g,qF ⟨⟨1,xs,⟨#[]⟩,⟨#[]⟩,[]⟩,ad,cap,none,0⟩ g->X<g:=by
 obtain⟨ad,cap,e,h2,h3,h4⟩:=Vn h.own rfl;have hK:∀g,¬bK ⟨⟨1,xs,⟨#[]⟩,⟨#[]⟩,[]⟩,ad,cap,none,0⟩ g:=fun g hg=>hg.1 rfl;have hA:∀g,qF ⟨⟨1,xs,⟨#[]⟩,⟨#[]⟩,[]⟩,ad,cap,none,0⟩ g->X+1<=g/\g<wr.heap.size/\jM wr g:=by
  rintro g (hg|hg)
  ·exact h4 g hg.1 hg.2
  exact absurd hg (hK g)
 refine⟨ad,cap,e,⟨h3,fun h=>absurd rfl h,⟨h2,.inl rfl⟩,fun g hg=>⟨?_,(hA g hg).2⟩,fun g _ hg=>hK g hg,capOf (e ▸ h.own)⟩,fun g hg=>(hA g hg).1⟩;have:=(hA g hg).1;omega
theorem MI(R:Nat)(s:bZ)(st:RS)(base:Nat)(v:Value)(qs:Q08)(w:ae)(h:RdF w R s st base v qs)(hR:R<base)(hB:base<=w.heap.size)(hs:s.size<=1000)(hp:st.p<=s.size)(hn:qs.length<=100000)
  (h0:nO s fP st.p st.bad=true) :
  Calls prog 242 #[.pointer (some ⟨R,0,none⟩)] w (vF R s base v qs w (ry s st)):=by
 obtain⟨iA,hiA,zA0,zA1,zA2⟩:=info_parts (P:=prog) (e:=223) (z:=.agg #[.string ⟨#[]⟩,.string ⟨#[]⟩]) (size:=2) (bytes:=32) (by kernel_rfl);have HIA:Hid (prog.info? 223=some iA/\iA.zero=some (.agg #[.string ⟨#[]⟩,.string ⟨#[]⟩])/\iA.size=2/\iA.bytes=32):=⟨hiA,zA0,zA1,zA2⟩;have H:=ai h;have HP:=ai hp
 have hbad:st.bad=false:=by cases e:st.bad with
  | false=>rfl
  | true=>rw[e]at h0;cases h0
 have HBD:=ai hbad;have HP1:Hid (st.p+5<=s.size):=Ag h0;clear h hp hiA zA0 zA1 zA2 hbad;go_enter func242,ntmps242;go_wp2_with fail;refine(mI R s fP st.p st.bad v w H.out.rd hs HP.out (by decide)).mono ?_;rintro e w1 ⟨rfl,hr1,hg1⟩;have Yc:=ai (H.out.is_yes hR h0 hr1 hg1);have XD:=ai (Onl.of_grown hg1);rw[h0];clear hr1 hg1 h0;obtain⟨W2,hW2⟩:∃W2,W2=w1.alloc (.cells #[.int .i64 1,.slice none 0 0,.string ⟨#[]⟩,.string ⟨#[]⟩,.slice none 0 0] 188):=⟨_,rfl⟩;have HL2:Hid (PL w1 W2 R w1.heap.size s [] (st.p+5) false v (.slice none 0 0)):=by
  rw[hW2];have hrd:RdC w1 R s (st.p+5) false v:=by have:=Yc.out.rd;rw[show(kM fP st).bad=false from HBD.out]at this;exact this
  refine⟨hrd.below ((V5 _ _).alloc (V4 _) _),Onl.of_below ((V5 _ _).alloc (V4 _) _),by simp,by simp,by simp,by simp,by simp,fun j=>by simp,by simp,World.ownsRow_nil _ _ _ _⟩
 have HX0:Hid (w.heap.size<=w1.heap.size):=XD.out.size;have HRX:Hid (R<w1.heap.size):=Yc.out.rd.lt;have Yo:Hid (w1.heap.size<=w1.heap.size):=V4 _;go_wp2_with fail;rw[<-hW2];clear hW2;obtain⟨X,hX⟩:∃X,X=w1.heap.size:=⟨_,rfl⟩;replace HL2:Hid (PL w1 W2 R X s [] (st.p+5) false v (.slice none 0 0)):=by rw[hX];exact HL2
 replace HX0:Hid (w.heap.size<=X):=by rw[hX];exact HX0
 replace HRX:Hid (R<X):=by rw[hX];exact HRX
 replace Yo:Hid (w1.heap.size<=X):=by rw[hX];exact Yo
 rw[<-hX];clear hX;go_loopw[14] (fun _ wr=>∃(n p:Nat) (bad:Bool) (xs:Q0a) (vA:Value),Hid (p<=s.size)/\Hid (dx s n xs ⟨p,bad,st.out⟩=dx s (s.size+1) [] (kM fP st))/\Hid (bad=false->s.size-p<n/\xs.length+5<=p)/\Hid (PL w1 wr R X s xs p bad v vA)) (fun _ wr=>s.size-wat R wr+wbad R wr);case atStart=>exact⟨s.size+1,st.p+5,false,[],.slice none 0 0,HP1.out,by show _=_;unfold kM;rw[HBD.out];rfl,fun _=>⟨by omega,by simp⟩,HL2.out⟩
 obtain⟨n,p,bad,xs,vA,HPL,HPP,HLN,HL⟩:=hrel;clear HL2;have r2:=HL.out.rd.c2;have rl:=HL.out.rd.lt;cases bad;case true=>
  have EQ:=ai (Jv (HPP.out.symm.trans (Jw s n xs p st.out)));have HF:=ai (Yc.out.over hR HL.out.onl HL.out.rd);have HO:=ai (XD.out.trans0 HL.out.onl);go_wp2;exact bodyPost_ret (v:=.int .i64 0) (by simp[results,Tryz.results242,go_sem]) rfl (by rw[EQ.out];exact⟨v,[],rfl,by rw[WS];exact HF.out,HO.out.any v,fun q hq=>by cases hq⟩)
 obtain⟨m,hm⟩:∃m,n=m+1:=⟨n-1,by have:=(HLN.out rfl).1;omega⟩;subst hm;have HPW:=ai (kN s p HPL.out);have HLN1:=ai (HLN.out rfl).1;have HLN2:=ai (HLN.out rfl).2;clear HLN;go_wp2_with fail;refine(vD R s p false v wr HL.out.rd hs HPL.out).mono ?_;rintro e w4 ⟨rfl,hr4,hg4⟩;have HL4:=ai (HL.out.moved HRX.out hg4 hr4);have HPLC:=ai HL.out.rd.place;have HPLB:=ai HL.out.rd.wbad1;clear hr4 hg4 HL r2 rl;obtain⟨W5,YI⟩:∃W5,W5=w4.alloc (.cells #[.string (az s p),.string ⟨#[]⟩] 223):=⟨_,rfl⟩;have HL5:Hid (PL w1 W5 R X s xs (p+av s p) false v vA):=by rw[YI];exact HL4.out.made _
 have HA0:Hid (W5.cell? ⟨w4.heap.size,0,none⟩=some (.string (az s p))):=by show _=_;rw[YI];simp
 have HA1:Hid (W5.cell? ⟨w4.heap.size,1,none⟩=some (.string ⟨#[]⟩)):=by show _=_;rw[YI];simp
 have HAF:Hid (jM W5 w4.heap.size):=fun j=>by rw[YI];simp
 have XJ:Hid (w4.heap.size<W5.heap.size):=by show _<_;rw[YI];simp
 have HAX:Hid (X<w4.heap.size):=HL4.out.lt;have HAV:Hid (vA.ownBlock≠some w4.heap.size):=fun e=>by have:=(HL4.out.own.lt _ e).2;omega
 go_wp2_with fail;rw[<-YI];clear YI;obtain⟨A,hA⟩:∃A,A=w4.heap.size:=⟨_,rfl⟩;rw[<-hA]at HA0 HA1 HAF XJ HAX HAV;rw[<-hA];clear hA HL4;refine(mI R s vw (p+av s p) false v W5 HL5.out.rd hs HPW.out (by decide)).mono ?_;rintro e w6 ⟨rfl,Zo,Zn⟩;have HAR:Hid (some A≠some R):=by intro e;injection e with e;have:=HRX.out;have:=HAX.out;omega
 have HB0:=ai (Zn.cell HA0.out HAR.out);have HB1:=ai (Zn.cell HA1.out HAR.out);have HBF:=ai (cz HAF.out (Zn.block A XJ.out HAR.out));have HBL:=ai (VY XJ.out Zn.size);cases hc:nO s vw (p+av s p) false
 case' false =>
  rw[Ae hc]at Zo;have HL6:=ai (HL5.out.moved HRX.out Zn Zo);have PI:=ai (MG (o:=st.out) hc);have HPB:=HPW;have HPG:Hid (p<=p+av s p):=Nat.le_add_right _ _;clear Zo Zn hc HL5 HA0 HA1 HAF XJ;have a0:=HB0.out;have a1:=HB1.out;have k1:=HL6.out.c1;obtain⟨W9,hW9⟩:∃W9,W9=w6.alloc (.cells #[.string (az s p),.string ((⟨#[]⟩:ByteArray))] 223):=⟨_,rfl⟩;have Zp:Hid (PL w1 W9 R X s xs (p+av s p) false v vA):=by rw[hW9];exact HL6.out.made _
  have YZ:Hid (∀j u,[Value.string (az s p),.string ((⟨#[]⟩:ByteArray))][j]?=some u->W9.cell? ((⟨w6.heap.size,0,none⟩:Addr).add j)=some u):=by rw[hW9];exact AA w6 _ _ _ (rfl)
  have HSZ9:Hid (X+1<=W9.heap.size):=Zp.out.lt;have hxs:xs.length<=1000:=by have:=HLN2.out;have:=HPL.out;omega
  go_wp2_with(at_builtin;rw[<-hW9];clear hW9;refine wpList_append_own _ rfl _ _ 185 rfl (X+1) 223 iA (.agg #[.string ⟨#[]⟩,.string ⟨#[]⟩]) 2 32 underlying185 HIA.out.1 HIA.out.2.1 HIA.out.2.2.1 HIA.out.2.2.2 rfl (by decide) vA xs.length (pairs xs) rfl Zp.out.own ⟨w6.heap.size,0,none⟩ 1 1 [Value.string (az s p),.string ((⟨#[]⟩:ByteArray))] rfl rfl YZ.out (by intro u hu;simp at hu;rcases hu with rfl|rfl<;>rfl) (by unfold maxLen;omega) (by omega) HSZ9.out ?_);intro vB w10 YJ Yy _;obtain⟨gB,cB,rfl⟩:=fJ YJ;have hX10:some X≠vA.ownBlock:=fun e=>by have:=(Zp.out.own.lt X e.symm).1;omega
  have k10:=Yy.cell Zp.out.c1 hX10;have f10:=cz Zp.out.fr (Yy.block X Zp.out.lt hX10) 1;have l10:=VY Zp.out.lt Yy.size;have Zj:=ai (Zp.out.app HRX.out Yo.out ⟨az s p,(⟨#[]⟩:ByteArray)⟩ YJ Yy);clear YJ Yy a0 a1 k1 Zp hX10 YZ HSZ9 HL6;obtain⟨P,hP⟩:∃P,P=p+av s p:=⟨_,rfl⟩;obtain⟨S2,hS2⟩:∃S2:ByteArray,S2=⟨#[]⟩:=⟨_,rfl⟩;rw[<-hP]at Zj PI HPB HPG;rw[<-hS2]at Zj PI;clear hP hS2
 case' true =>
  rw[vC hc]at Zo;have HL6:=ai (HL5.out.moved HRX.out Zn Zo);have PI:=ai (Jy (o:=st.out) hc);have HPH:Hid (p+av s p+1<=s.size):=Ag hc;have HPB:=ai (kN s _ HPH.out);have HPG:Hid (p<=p+av s p+1+av s (p+av s p+1)):=by show _<=_;omega
  clear Zo Zn hc HL5 HA0 HA1 HAF XJ;go_wp2_with fail;refine(vD R s (p+av s p+1) false v w6 HL6.out.rd hs HPH.out).mono ?_;rintro e w7 ⟨rfl,hr7,ZE⟩;have HL7:=ai (HL6.out.moved HRX.out ZE hr7);have YG:=ai (ZE.cell HB0.out HAR.out);have a1:=ZE.cell HB1.out HAR.out;have hcf:=cz HBF.out (ZE.block A HBL.out HAR.out);have f1:=hcf 1;have hcl:=VY HBL.out ZE.size;obtain⟨W8,Zb⟩:∃W8,W8=w7.setCell ⟨A,1,none⟩ (.string (az s (p+av s p+1))):=⟨_,rfl⟩;have HL8:Hid (PL w1 W8 R X s xs (p+av s p+1+av s (p+av s p+1)) false v vA):=by rw[Zb];exact HL7.out.aset HRX.out Yo.out HAX.out HAV.out _ _
  have HD0:Hid (W8.cell? ⟨A,0,none⟩=some (.string (az s p))):=by show _=_;rw[Zb,mO (by omega)];exact YG.out
  have HD1:Hid (W8.cell? ⟨A,1,none⟩=some (.string (az s (p+av s p+1)))):=by show _=_;rw[Zb];exact mS a1
  clear hr7 ZE HL6 HB0 HB1 HBF HBL;have a0:=YG.out;have k1:=HL7.out.c1;have hxa:X≠A:=by have:=HAX.out;omega
  have hax:A≠X:=by have:=HAX.out;omega
  obtain⟨W9,hW9⟩:∃W9,W9=W8.alloc (.cells #[.string (az s p),.string (az s (p+av s p+1))] 223):=⟨_,rfl⟩;have Zp:Hid (PL w1 W9 R X s xs (p+av s p+1+av s (p+av s p+1)) false v vA):=by rw[hW9];exact HL8.out.made _
  have YZ:Hid (∀j u,[Value.string (az s p),.string (az s (p+av s p+1))][j]?=some u->W9.cell? ((⟨w7.heap.size,0,none⟩:Addr).add j)=some u):=by rw[hW9];exact AA W8 _ _ _ (by rw[Zb];simp)
  have HSZ9:Hid (X+1<=W9.heap.size):=Zp.out.lt;have hxs:xs.length<=1000:=by have:=HLN2.out;have:=HPL.out;omega
  go_wp2_with(at_builtin;rw[<-Zb];clear Zb;rw[<-hW9];clear hW9;refine wpList_append_own _ rfl _ _ 185 rfl (X+1) 223 iA (.agg #[.string ⟨#[]⟩,.string ⟨#[]⟩]) 2 32 underlying185 HIA.out.1 HIA.out.2.1 HIA.out.2.2.1 HIA.out.2.2.2 rfl (by decide) vA xs.length (pairs xs) rfl Zp.out.own ⟨w7.heap.size,0,none⟩ 1 1 [Value.string (az s p),.string (az s (p+av s p+1))] rfl rfl YZ.out (by intro u hu;simp at hu;rcases hu with rfl|rfl<;>rfl) (by unfold maxLen;omega) (by omega) HSZ9.out ?_);intro vB w10 YJ Yy _;obtain⟨gB,cB,rfl⟩:=fJ YJ;have hX10:some X≠vA.ownBlock:=fun e=>by have:=(Zp.out.own.lt X e.symm).1;omega
  have k10:=Yy.cell Zp.out.c1 hX10;have f10:=cz Zp.out.fr (Yy.block X Zp.out.lt hX10) 1;have l10:=VY Zp.out.lt Yy.size;have Zj:=ai (Zp.out.app HRX.out Yo.out ⟨az s p,az s (p+av s p+1)⟩ YJ Yy);clear YJ Yy a0 a1 k1 Zp hX10 YZ HSZ9 HL8 hxa hax f1 hcl hcf;obtain⟨P,hP⟩:∃P,P=p+av s p+1+av s (p+av s p+1):=⟨_,rfl⟩;obtain⟨S2,hS2⟩:∃S2:ByteArray,S2=az s (p+av s p+1):=⟨_,rfl⟩;rw[<-hP]at Zj PI HPB HPG;rw[<-hS2]at Zj PI;clear hP hS2
 all_goals
  go_wp2_with fail;obtain⟨W11,hW11⟩:∃W11,W11=w10.setCell ⟨X,1,none⟩ (.slice (some ⟨gB,0,none⟩) (xs.length+1) cB):=⟨_,rfl⟩;rw[<-hW11]at Zj ⊢;clear hW11 k10 f10 l10;refine(mI R s fu P false v W11 Zj.out.rd hs HPB.out (by decide)).mono ?_;rintro e w12 ⟨rfl,ZJ,ZK⟩;cases hcl:nO s fu P false;case true=>
   rw[vC hcl]at ZJ;have YD:=ai (Zj.out.moved HRX.out ZK ZJ);have EQ:=ai (Ju (HPP.out.symm.trans (Gv (xs:=xs) (n:=m) PI.out hcl)));obtain⟨ad,cap,hva,hnq,hin⟩:=YD.out.node Yo.out (base:=base) (Wh hB XD.out.size);injection hva with hva1 hva2 hva3;subst hva1;subst hva3;clear hva2;have HNQ:=ai hnq;have HIN:=ai hin;have k0:=YD.out.c0;have k1:=YD.out.c1;have k2:=YD.out.c2;have k3:=YD.out.c3;have k4:=YD.out.c4;have HF:=ai (Yc.out.over hR YD.out.onl YD.out.rd);have HO:=ai (XD.out.trans0 YD.out.onl);clear ZJ ZK hcl hnq hin Zj YD;go_wp2_with fail;have HADD:=Mi R s ⟨P+1,false,st.out⟩ base v qs ⟨⟨1,xs++[⟨az s p,S2⟩],⟨#[]⟩,⟨#[]⟩,[]⟩,some ⟨gB,0,none⟩,cB,none,0⟩ w12 HF.out hR (Wh hB HO.out.size) hn HNQ.out (.inl ⟨rfl,rfl,rfl⟩) (fun g hg=>⟨fun e=>by have:=(Yc.out.own.lt g e).2;have:=HIN.out g hg;have:=Yo.out;omega,fun q' hq' hg'=>by have:=(Yc.out.lie q' hq' g hg').2.1;have:=HIN.out g hg;have:=Yo.out;omega⟩);rw[show(⟨⟨1,xs++[⟨az s p,S2⟩],⟨#[]⟩,⟨#[]⟩,[]⟩,some ⟨gB,0,none⟩,cB,none,0⟩:ER).val=.agg #[.int .i64 1,.slice (some ⟨gB,0,none⟩) (xs.length+1) cB,.string ⟨#[]⟩,.string ⟨#[]⟩,.slice none 0 0] by simp[ER.val]]at HADD;refine HADD.mono ?_;rintro e w13 ⟨v13,rfl,hF13,hW13⟩;have HF13:=ai hF13;have HW13:=ai ((HO.out.any v).trans hW13);clear hF13 hW13;go_wp2;exact bodyPost_ret (v:=.int .i64 (st.out.length:Int)) (by simp[results,Tryz.results242,go_sem]) rfl (by rw[EQ.out];exact⟨v13,_,rfl,HF13.out,HW13.out,fun q hq g hg=>by rw[Wl]at hq;subst hq;have:=HIN.out g hg;have:=HX0.out;omega⟩)
  rw[Ae hcl]at ZJ;have YD:=ai (Zj.out.moved HRX.out ZK ZJ);have HCL:=ai hcl;clear ZJ ZK hcl Zj;go_wp2_with fail;refine(mI R s mH P false v w12 YD.out.rd hs HPB.out (by decide)).mono ?_;rintro e w13 ⟨rfl,hr13,hg13⟩;cases hcm:nO s mH P false;case true=>
   rw[vC hcm]at hr13;have Zv:=ai (YD.out.moved HRX.out hg13 hr13);have HQ13:Hid (P+1<=s.size):=Ag hcm;have EQ:=ai ((Gw (xs:=xs) (n:=m) PI.out HCL.out hcm).symm.trans HPP.out);have HM:Hid (s.size-wat R w13+wbad R w13<s.size-wat R wr+wbad R wr):=by
    show _<_;rw[Zv.out.rd.wbad1,HPLB.out,show wat R w13=P+1 from Zv.out.rd.place,HPLC.out];have:=HQ13.out;have:=HPG.out;omega
   clear hr13 hg13 hcm YD;go_wp2;go_roundw;case rel=>exact⟨m,P+1,false,xs++[(⟨az s p,S2⟩:Al)],.slice (some ⟨gB,0,none⟩) (xs.length+1) cB,HQ13.out,EQ.out,fun _=>⟨by have:=HLN1.out;have:=HPG.out;have:=HQ13.out;omega,by have:=HLN2.out;have:=HPG.out;rw[Wi,WJ];omega⟩,Zv.out⟩
   exact HM.out
  rw[Ae hcm]at hr13;have Zv:=ai (YD.out.moved HRX.out hg13 hr13);have EQ:=ai ((MH (xs:=xs) (n:=m) PI.out HCL.out hcm).symm.trans HPP.out);have c2:=Zv.out.rd.c2;have f2:=Zv.out.rd.fr 2;have hl13:=Zv.out.rd.lt;have HL14:Hid (PL w1 (w13.setCell ⟨R,2,none⟩ (.bool true)) R X s (xs++[⟨az s p,S2⟩]) P true v (.slice (some ⟨gB,0,none⟩) (xs.length+1) cB)):=Zv.out.moved HRX.out (by have:=Gh w13 R 2 (.bool true) 0;exact this) Zv.out.rd.hurt;have HM:Hid (s.size-wat R (w13.setCell ⟨R,2,none⟩ (.bool true))+wbad R (w13.setCell ⟨R,2,none⟩ (.bool true))<s.size-wat R wr+wbad R wr):=by
   show _<_;rw[HL14.out.rd.wbad0,HPLB.out,show wat R (w13.setCell ⟨R,2,none⟩ (.bool true))=P from HL14.out.rd.place,HPLC.out];have:=HPG.out;omega
  clear hr13 hg13 hcm YD Zv;go_wp2;go_roundw;case rel=>exact⟨m,P,true,xs++[(⟨az s p,S2⟩:Al)],.slice (some ⟨gB,0,none⟩) (xs.length+1) cB,HPB.out,EQ.out,fun h=>(by cases h),HL14.out⟩
  exact HM.out
open Maps
def RR.sl(q:RR):Value:=.slice q.ad q.rows.length q.cap
def lG(t:ByteArray)(M:ByteArray×ByteArray->Option Value):List RR->ByteArray×ByteArray->Option Value
 | []=>M
 | q::qs=>lG t (lQ M (t,q.name) (some q.sl)) qs
def eQ(M:ByteArray×ByteArray->Option Value):List TR->ByteArray×ByteArray->Option Value
 | []=>M
 | t::ts=>eQ (lG t.name M t.rows) ts
def tC(rs:Q06):ByteArray×ByteArray->Option Value:=eQ (fun _=>none) rs
theorem EU(t:bZ)(M:ByteArray×ByteArray->Option Value)(xs ys:Q07):lG t M (xs++ys)=lG t (lG t M xs) ys:=by
 induction xs generalizing M with
 | nil=>rfl
 | cons q qs ih=>simp only[WU,lG];exact ih _
theorem AB(M:ByteArray×ByteArray->Option Value)(xs ys:Q06):eQ M (xs++ys)=eQ (eQ M xs) ys:=by
 induction xs generalizing M with
 | nil=>rfl
 | cons q qs ih=>simp only[WU,eQ];exact ih _
theorem Jz(t:bZ)(M:ByteArray×ByteArray->Option Value)(qs:Q07)(j:Nat)(h:j<qs.length):lG t M (qs.take (j+1))=lQ (lG t M (qs.take j)) (t,qs[j].name) (some qs[j].sl):=by
 rw[V8 h,EU];rfl
theorem EW(M:ByteArray×ByteArray->Option Value)(rs:Q06)(k:Nat)(h:k<rs.length):eQ M (rs.take (k+1))=lG rs[k].name (eQ M (rs.take k)) rs[k].rows:=by
 rw[V8 h,AB];rfl
set_option maxRecDepth 100000 in
theorem yn(ad:Q02)(cap:Nat)(rs:Q06)(w:ae)(hlen:rs.length<=6)(hs:lc w ad rs)(hrl:∀r∈rs,r.rows.length<=6)(hf:∀r∈rs,r.fits):
  Calls prog 51 #[.slice ad rs.length cap] w fun e w'=>e=.returned (.map (some w.heap.size))/\aN dU prog 151 w' w.heap.size 36 (tC rs)/\af w w':=by
 have HS:=aC hs;have HRL:Hid (∀r∈rs,r.rows.length<=6):=hrl;have XC:=aC hf;have HM0:Hid (aN dU prog 151 (w.alloc (.map #[] 0)) w.heap.size 0 (fun _=>none)):=lX _ _ _ w;have HB0:Hid (af w (w.alloc (.map #[] 0))):=(V5 _ _).alloc (V4 _) _;clear hs hrl hf;have hmm:=@run_makeMap prog;go_enter func51,ntmps51;go_wp2_with fail;go_loopw[11] (fun i wr=>∃k:Nat,k<=rs.length/\i=.int .i64 k/\Hid (aN dU prog 151 wr w.heap.size (k*6) (eQ (fun _=>none) (rs.take k)))/\Hid (af w wr)) (fun i _=>rs.length-(intOf i).toNat);case atStart=>exact⟨0,Wd _,rfl,HM0,HB0⟩
 clear HM0 HB0 hmm;obtain⟨k,hk,rfl,HM,HB⟩:=hrel;by_cases hlt:k<rs.length
 ·rcases HS.out.below HB.out with rfl|⟨b,off,rfl,hb,hr,hok⟩
  ·simp at hlt
  obtain⟨t0,t1⟩:=hr k hlt;have hk1:=bC k;have hk2:(k:Int)<(rs.length:Int):=by omega
  have h6:rs[k].rows.length<=6:=HRL.out _ (VZ hlt);have z0:rs[k].name.size<=maxLen:=(XC.out _ (VZ hlt)).1;have Zq:Hid (∀q∈rs[k].rows,q.fits):=(XC.out _ (VZ hlt)).2.2;clear hr hok;obtain⟨W1,hW1⟩:∃W1,W1=wr.alloc (.cells #[.string rs[k].name,.slice rs[k].ad rs[k].rows.length rs[k].cap] 105):=⟨_,rfl⟩;have hal:af wr W1:=by rw[hW1];exact(V5 _ _).alloc (V4 _) _
  have HM1:Hid (aN dU prog 151 W1 w.heap.size (k*6) (eQ (fun _=>none) (rs.take k))):=HM.out.below hal;have HB1:=kv HB hal;have Yl:Hid (wr.heap.size<W1.heap.size/\W1.cell? ⟨wr.heap.size,0,none⟩=some (.string rs[k].name)):=⟨by rw[hW1];simp,by rw[hW1];simp⟩;have hgw:w.heap.size<wr.heap.size:=HM.out.lt;clear HM hal;go_wp2_with fail;rw[<-hW1];clear hW1 t0 t1 HB;obtain⟨wo,hwo⟩:∃wo,wo=wr:=⟨_,rfl⟩;subst hwo;go_loopw[18] (fun i w2=>∃j:Nat,j<=rs[k].rows.length/\i=.int .i64 j/\Hid (aN dU prog 151 w2 w.heap.size (k*6+j) (lG rs[k].name (eQ (fun _=>none) (rs.take k)) (rs[k].rows.take j)))/\Hid (af w w2)/\Hid (wo.heap.size<w2.heap.size/\w2.cell? ⟨wo.heap.size,0,none⟩=some (.string rs[k].name))) (fun i _=>rs[k].rows.length-(intOf i).toNat);case atStart=>exact⟨0,Wd _,rfl,HM1,HB1,Yl⟩
  clear HM1 HB1 Yl;obtain⟨j,hj,rfl,HM,HB,HC⟩:=hrel;by_cases hjl:j<rs[k].rows.length
  ·rcases HS.out.below HB.out with hnil|⟨b',off',he,hb2,hr,hok⟩
   ·rw[hnil]at hlt;simp at hlt
   injection he with he;injection he with he1 he2;subst he1;subst he2;have ok:=hok rs[k] (VZ hlt);rcases ok with hnil|⟨b2,XR,had,hbb,hr2,-⟩
   ·rw[hnil]at hjl;simp at hjl
   obtain⟨q0,q1⟩:=hr2 j hjl;have z1:rs[k].rows[j].name.size<=maxLen:=(Zq.out _ (VZ hjl)).1;have hj1:=bC j;have hj2:(j:Int)<(rs[k].rows.length:Int):=by omega
   obtain⟨kl,hkl⟩:=kJ (rs[k].name,rs[k].rows[j].name) z0 z1;have Yp:Hid (keyOf prog 151 (dU (rs[k].name,rs[k].rows[j].name))=some kl):=hkl;obtain⟨W2,hW2⟩:∃W2,W2=wr.alloc (.cells #[.string rs[k].rows[j].name,.slice rs[k].rows[j].ad rs[k].rows[j].rows.length rs[k].rows[j].cap] 149):=⟨_,rfl⟩;have hal:af wr W2:=by rw[hW2];exact(V5 _ _).alloc (V4 _) _
   have X0:Hid (aN dU prog 151 W2 w.heap.size (k*6+j) (lG rs[k].name (eQ (fun _=>none) (rs.take k)) (rs[k].rows.take j))):=HM.out.below hal;have HB2:=kv HB hal;have hc1:=aJ hal HC.out.1 HC.out.2;have XN:Hid (wo.heap.size<W2.heap.size/\W2.cell? ⟨wo.heap.size,0,none⟩=some (.string rs[k].name)):=⟨VY HC.out.1 hal.size,hc1⟩;have g0:W2.cell? ⟨wr.heap.size,0,none⟩=some (.string rs[k].rows[j].name):=by rw[hW2];simp
   have g1:W2.cell? ⟨wr.heap.size,1,none⟩=some (.slice rs[k].rows[j].ad rs[k].rows[j].rows.length rs[k].rows[j].cap):=by rw[hW2];simp
   have hsz:wo.heap.size<wr.heap.size:=HC.out.1;have hc0:=HC.out.2;rw[had];clear hr hok hr2 hkl HM hal HC;go_wp2_with(first|(at_mapUpdate;rw[<-hW2];refine kw _ rfl _ _ _ 95 rfl 151 147 jf uX underlying95 w.heap.size (k*6+j) _ rfl X0.out (by unfold maxLen;omega) (rs[k].name,rs[k].rows[j].name) kl rfl Yp.out _ rfl ?_;intro w3 hV3 hg3)|go_in);have HM4:Hid (aN dU prog 151 w3 w.heap.size (k*6+(j+1)) (lG rs[k].name (eQ (fun _=>none) (rs.take k)) (rs[k].rows.take (j+1)))):=by
    show aN _ _ _ _ _ _ _;rw[Jz _ _ _ _ hjl];exact hV3
   have XM:Hid (af w w3):=HB2.out.grown hg3 HB2.out.size (fun i hi=>by injection hi with hi;omega);have HC4:Hid (wo.heap.size<w3.heap.size/\w3.cell? ⟨wo.heap.size,0,none⟩=some (.string rs[k].name)):=⟨VY XN.out.1 hg3.size,by rw[hg3.cell_far _ XN.out.1 (by simp;omega)];exact XN.out.2⟩;clear hV3 hg3 hW2 X0 HB2 XN g0 g1 q0 q1 hc0 hc1;go_wp2;go_roundw;case rel=>exact⟨j+1,by omega,by go_num,HM4,XM,HC4⟩
   simp[intOf]<;>omega
  obtain rfl:j=rs[k].rows.length:=by omega
  have HM4:Hid (aN dU prog 151 wr w.heap.size ((k+1)*6) (eQ (fun _=>none) (rs.take (k+1)))):=by
   show aN _ _ _ _ _ _ _;have:=HM.out;rw[Wo]at this;rw[EW _ _ _ hlt];exact this.mono (by omega)
  clear HM;go_wp2;go_roundw;case rel=>exact⟨k+1,by omega,by go_num,HM4,HB⟩
  simp[intOf]<;>omega
 obtain rfl:k=rs.length:=by omega
 have HM4:Hid (aN dU prog 151 wr w.heap.size 36 (tC rs)):=by
  show aN _ _ _ _ _ _ _;have:=HM.out;rw[Wo]at this;exact this.mono (by omega)
 go_wp2;go_ret;exact⟨rfl,HM4.out,HB.out⟩
theorem TD:∀x:List UInt8,Op.bytesLess x x=false
 | []=>rfl
 | a::x=>by simp[Op.bytesLess,TD x]
theorem TE:∀x y z:List UInt8,Op.bytesLess x y=true->Op.bytesLess y z=true->Op.bytesLess x z=true
 | [],_,[],h,k=>by cases ‹List UInt8› <;> simp [Op.bytesLess] at h k
 | [],_,_::_,_,_=>rfl
 | _::_,[],_,h,_=>by simp[Op.bytesLess]at h
 | _::_,_::_,[],_,k=>by simp[Op.bytesLess]at k
 | a::x,b::y,c::z,h,k=>by
  simp only[Op.bytesLess,Bool.or_eq_true,V9,Wn,beq_iff_eq]at h k ⊢;rcases h with h|⟨h,h'⟩
  ·rcases k with k|⟨k,k'⟩
   ·exact .inl (UInt8.lt_trans h k)
   exact .inl (k ▸ h)
  rcases k with k|⟨k,k'⟩
  ·exact .inl (h ▸ k)
  exact .inr ⟨h.trans k,TE x y z h' k'⟩
theorem sw{f:Nat->ByteArray}{n:Nat}(h:∀i,i+1<n->jk (f i) (f (i+1))=true):∀i j,i<j->j<n->f i≠f j:=by
 have h2:∀d i,i+d+1<n->jk (f i) (f (i+d+1))=true:=by
  intro d
  induction d with
  | zero=>intro i hi;exact h i (by omega)
  | succ d ih =>
   intro i hi;have h3:=ih i (by omega);have h4:=h (i+d+1) (by omega);exact TE _ _ _ h3 h4
 intro i j hij hj e;have h5:=h2 (j-i-1) i (by omega);have e2:i+(j-i-1)+1=j:=by omega
 rw[e2,e]at h5;unfold jk at h5;rw[TD]at h5;cases h5
theorem lZ{rs:Q06}(h:bF (ag rs)=true)(k:Nat)(hk:k<rs.length):aR rs[k].name=true/\(∀i (hi:i<rs.length),k=i+1->jk rs[i].name rs[k].name=true)/\dE (eG rs[k].rows) rs[k].rows.length=true:=by
 simp only[bF,V9,Wn]at h;rw[lN]at h;have h1:=p8 h.2 k hk;unfold kP at h1;have e:(ag rs)[k]?=some rs[k].p:=by simp[ag,hk]
 rw[e]at h1;simp only[V9,Wn]at h1;have e2:rs[k].p.rels.length=rs[k].rows.length:=by simp[TR.p,eG]
 rw[e2]at h1;refine⟨h1.1.1.1,fun i hi hki=>?_,h1.2⟩;subst hki;have h2:=h1.1.1.2;have e3:(ag rs)[i]?=some rs[i].p:=by simp[ag,hi]
 simp only[e3,Option.map_some,WO]at h2;exact h2
theorem Dt{rs:Q07}{n:Nat}(h:dE (eG rs) n=true)(k:Nat)(hk:k<rs.length)(hn:k<n):aR rs[k].name=true/\(∀i (hi:i<rs.length),k=i+1->jk rs[i].name rs[k].name=true)/\aP (aj rs[k].rows)=true:=by
 have h1:=pY h k hn;unfold mP at h1;have e:(eG rs)[k]?=some rs[k].p:=by simp[eG,hk]
 rw[e]at h1;simp only[V9]at h1;refine⟨h1.1.1,fun i hi hki=>?_,h1.2⟩;subst hki;have h2:=h1.1.2;have e3:(eG rs)[i]?=some rs[i].p:=by simp[eG,hi]
 simp only[e3,Option.map_some,WO]at h2;exact h2
theorem Gx{rs:Q06}(h:bF (ag rs)=true){t t':TR}(ht:t∈rs)(ht':t'∈rs)(e:t.name=t'.name):t=t':=by
 obtain ⟨i,hi,rfl⟩:=WN.1 ht;obtain ⟨j,hj,rfl⟩:=WN.1 ht';have hne:=sw (f:=fun k=>(rs[k]?.map TR.name).getD ByteArray.empty) (n:=rs.length) (fun k hk=>by
  have h0:k<rs.length:=by omega
  simp only[Wm hk,Wm h0,Option.map_some,WO];exact(lZ h (k+1) hk).2.1 k h0 rfl)
 by_cases hij:i=j
 ·subst hij;rfl
 exfalso;rcases Nat.lt_or_gt_of_ne hij with hl|hl
 ·have:=hne i j hl hj;simp[hi,hj]at this;exact this e
 have:=hne j i hl hi;simp[hi,hj]at this;exact this e.symm
theorem Gy{rs:Q07}(h:dE (eG rs) rs.length=true){t t':RR}(ht:t∈rs)(ht':t'∈rs)(e:t.name=t'.name):t=t':=by
 obtain ⟨i,hi,rfl⟩:=WN.1 ht;obtain ⟨j,hj,rfl⟩:=WN.1 ht';have hne:=sw (f:=fun k=>(rs[k]?.map RR.name).getD ByteArray.empty) (n:=rs.length) (fun k hk=>by
  have h0:k<rs.length:=by omega
  simp only[Wm hk,Wm h0,Option.map_some,WO];exact(Dt h (k+1) hk hk).2.1 k h0 rfl)
 by_cases hij:i=j
 ·subst hij;rfl
 exfalso;rcases Nat.lt_or_gt_of_ne hij with hl|hl
 ·have:=hne i j hl hj;simp[hi,hj]at this;exact this e
 have:=hne j i hl hi;simp[hi,hj]at this;exact this e.symm
theorem JA{t:ByteArray}{M:ByteArray×ByteArray->Option Value}{qs:Q07}{k:Q01}{v:Value}(h:lG t M qs k=some v):M k=some v \/ ∃q∈qs,k=(t,q.name)/\v=q.sl:=by
 induction qs generalizing M with
 | nil=>exact .inl h
 | cons q qs ih =>
  simp only[lG]at h;rcases ih h with h|⟨q',hq,e⟩
  ·by_cases e:k=(t,q.name)
   ·rw[e,dY]at h;injection h with h;exact .inr ⟨q,by simp,e,h.symm⟩
   rw[cu e]at h;exact .inl h
  exact .inr ⟨q',by simp[hq],e⟩
theorem yo{t:ByteArray}{M:ByteArray×ByteArray->Option Value}{qs:Q07}{k:Q01}(h:(M k).isSome=true \/ ∃q∈qs,k=(t,q.name)):(lG t M qs k).isSome=true:=by
 induction qs generalizing M with
 | nil=>rcases h with h|⟨q,hq,-⟩;exact h;cases hq
 | cons q qs ih =>
  simp only[lG];refine ih ?_;by_cases e:k=(t,q.name)
  ·left;rw[e,dY];rfl
  rcases h with h|⟨q',hq,e'⟩
  ·left;rw[cu e];exact h
  rcases Ws.1 hq with rfl|hq
  ·exact absurd e' e
  exact .inr ⟨q',hq,e'⟩
theorem EX{M:ByteArray×ByteArray->Option Value}{rs:Q06}{k:Q01}{v:Value}(h:eQ M rs k=some v):M k=some v \/ ∃t∈rs,∃q∈t.rows,k=(t.name,q.name)/\v=q.sl:=by
 induction rs generalizing M with
 | nil=>exact .inl h
 | cons t rs ih =>
  simp only[eQ]at h;rcases ih h with h|⟨t',ht,e⟩
  ·rcases JA h with h|⟨q,hq,e⟩
   ·exact .inl h
   exact .inr ⟨t,by simp,q,hq,e⟩
  exact .inr ⟨t',by simp[ht],e⟩
theorem tO{M:ByteArray×ByteArray->Option Value}{rs:Q06}{k:Q01}(h:(M k).isSome=true \/ ∃t∈rs,∃q∈t.rows,k=(t.name,q.name)):(eQ M rs k).isSome=true:=by
 induction rs generalizing M with
 | nil=>rcases h with h|⟨q,hq,-⟩;exact h;cases hq
 | cons t rs ih =>
  simp only[eQ];refine ih ?_;rcases h with h|⟨t',ht,q,hq,e⟩
  ·exact .inl (yo (.inl h))
  rcases Ws.1 ht with rfl|ht
  ·exact .inl (yo (.inr ⟨q,hq,e⟩))
  exact .inr ⟨t',ht,q,hq,e⟩
theorem JB{rs:List Rl}{n:ByteArray}(h:jS rs n=none):∀r∈rs,r.name≠n:=by
 induction rs with
 | nil=>intro r hr;cases hr
 | cons r rs ih =>
  simp only[jS]at h;split at h
  ·cases h
  rename_i hn;intro q hq;rcases Ws.1 hq with rfl|hq
  ·exact fun e=>hn (fw.2 e)
  exact ih h q hq
theorem MJ{ts:Q0b}{ty n:ByteArray}(h:gu ts ty n=none):∀t∈ts,t.name=ty->∀r∈t.rels,r.name≠n:=by
 induction ts with
 | nil=>intro t ht;cases ht
 | cons t ts ih =>
  simp only[gu]at h;intro q hq e;split at h
  ·rw[Option.or_eq_none_iff]at h;rcases Ws.1 hq with rfl|hq
   ·exact JB h.1
   exact ih h.2 q hq e
  rename_i hn;rcases Ws.1 hq with rfl|hq
  ·exact absurd (fw.2 e) hn
  exact ih h q hq e
theorem rz{rs:Q06}{ty n:ByteArray}{es:Q09}(h:gu (ag rs) ty n=some es):∃t∈rs,∃q∈t.rows,t.name=ty/\q.name=n/\aj q.rows=es:=by
 obtain⟨t,ht,r,hr,e1,e2,e3⟩:=Ar h;obtain⟨t',ht',rfl⟩:=Wp.1 ht;obtain⟨q,hq,rfl⟩:=Wp.1 hr;exact⟨t',ht',q,hq,e1,e2,e3⟩
structure Tab(rs:Q06)(M:ByteArray×ByteArray->Option Value):Prop where
 no:∀k,M k=none->gu (ag rs) k.1 k.2=none
 yes:∀k v,M k=some v->∃t∈rs,∃q∈t.rows,k=(t.name,q.name)/\v=q.sl/\gu (ag rs) k.1 k.2=some (aj q.rows)/\aP (aj q.rows)=true
theorem xk{rs:Q06}(h:bF (ag rs)=true):Tab rs (tC rs) where
 no k hk:=by
  cases e:gu (ag rs) k.1 k.2 with
  | none=>rfl
  | some es =>
   obtain⟨t,ht,q,hq,e1,e2,-⟩:=rz e;have:=tO (M:=fun _=>none) (rs:=rs) (k:=k) (.inr ⟨t,ht,q,hq,by rw[e1,e2]⟩);unfold tC at hk;rw[hk]at this;cases this
 yes k v hk:=by
  rcases EX hk with h0|⟨t,ht,q,hq,e,ev⟩
  ·cases h0
  have hSF:=bR h;refine⟨t,ht,q,hq,e,ev,?_,(hSF.2.2 t ht q hq).1⟩;cases e2:gu (ag rs) k.1 k.2 with
  | none=>exact(MJ e2 t.p (WG ht) (by rw[e];rfl) q.p (WG hq) (by rw[e];rfl)).elim
  | some es =>
   obtain⟨t',ht',q',hq',e3,e4,e5⟩:=rz e2;have h1:t'=t:=Gx h ht' ht (by rw[e3,e]);subst h1;obtain⟨i,hi,rfl⟩:=WN.1 ht;have h2:q'=q:=Gy (lZ h i hi).2.2 hq' hq (by rw[e4,e]);subst h2;rw[e5]
theorem Tab.some_iff{rs:Q06}{M:ByteArray×ByteArray->Option Value}(h:Tab rs M)(k:Q01):(M k).isSome=!(aM (ag rs) k.1 k.2).isEmpty:=by
 unfold aM;cases e:M k with
 | none=>rw[h.no k e];rfl
 | some v =>
  obtain⟨t,ht,q,hq,-,-,e1,e2⟩:=h.yes k v e;rw[e1];have:=oN e2;cases e3:aj q.rows with
  | nil=>rw[e3]at this;simp at this
  | cons x xs=>rfl
theorem sD(w:ae):(zeroValue 147).run prog w=.ok (.slice none 0 0) w:=by kernel_rfl
theorem zx(b n:Nat)(M:ByteArray×ByteArray->Option Value)(t r:bZ)(w:ae)(ht:t.size<=maxLen)(hr:r.size<=maxLen)(hV:aN dU prog 151 w b n M):
  Calls prog 173 #[.map (some b),.string t,.string r] w fun e w'=>e=.returned (.bool (M (t,r)).isSome)/\w'=w:=by
 obtain⟨kl,hkl⟩:=kJ (t,r) ht hr;have HV:Hid (aN dU prog 151 w b n M):=hV;have Yp:Hid (keyOf prog 151 (dU (t,r))=some kl):=hkl;clear hkl hV;go_enter func173,ntmps173;go_wp2_with(first|(at_lookup;refine dL _ rfl _ _ 95 rfl 151 147 jf underlying95 (sD _) b n M rfl HV.out (t,r) kl rfl Yp.out ?_)|go_in);go_ret;exact⟨rfl,rfl⟩
theorem Du(a:Al)(w:ae):
  Calls prog 233 #[.agg #[.string a.t,.string a.s]] w fun e w'=>e=.returned (.bool (!a.s.toList.isEmpty))/\af w w':=by
 cases h:a.s.toList.isEmpty;case true=>
  go_enter func233,ntmps233;go_wp2;go_ret;exact⟨rfl,(V5 _ _).alloc (V4 _) _⟩
 go_enter func233,ntmps233;go_wp2;go_ret;exact⟨rfl,(V5 _ _).alloc (V4 _) _⟩
theorem yt(xs:Q0a)(k:Nat)(h:k<xs.length):(xs.drop k).any (fun a=>!a.s.toList.isEmpty)=((!xs[k].s.toList.isEmpty) || (xs.drop (k+1)).any (fun a=>!a.s.toList.isEmpty)):=by
 rw[WC h];rfl
theorem Cr(ad:Q02)(cap:Nat)(xs:Q0a)(w:ae)(hlen:xs.length<=1048576)(hs:lK w ad xs):
  Calls prog 248 #[.slice ad xs.length cap,.func (Fn.func 233) #[] #[]] w fun e w'=>(∃r:Int,e=.returned (.int .i64 r)/\decide (0<=r)=xs.any (fun a=>!a.s.toList.isEmpty))/\af w w':=by
 have HS:=aC hs;clear hs;go_enter func248,ntmps248;go_wp2_with fail;go_loopw[8] (fun i wr=>∃k:Nat,k<=xs.length/\i=.int .i64 k/\Hid ((xs.drop k).any (fun a=>!a.s.toList.isEmpty)=xs.any (fun a=>!a.s.toList.isEmpty))/\Hid (af w wr)) (fun i _=>xs.length-(intOf i).toNat);case atStart=>exact⟨0,Wd _,rfl,rfl,V5 _ _⟩
 obtain⟨k,hk,rfl,HP,HB⟩:=hrel;by_cases hlt:k<xs.length
 ·rcases HS.out.below HB.out with rfl|⟨b,off,rfl,hb,hr⟩
  ·simp at hlt
  obtain⟨t0,t1⟩:=hr k hlt;have hk1:=bC k;have hk2:(k:Int)<(xs.length:Int):=by omega
  clear hr;cases he:xs[k].s.toList.isEmpty;case false=>
   have HN:Hid (xs.any (fun a=>!a.s.toList.isEmpty)=true):=by show _=_;rw[<-HP.out,yt _ _ hlt,he];rfl
   go_wp2_with(go_at_call 233;refine(Du xs[k] _).mono ?_;rintro e w' ⟨he2,hbx⟩;rw[he]at he2;subst he2);go_ret;exact⟨⟨k,rfl,by rw[HN.out];simp⟩,HB.out.trans (hbx.mono HB.out.size)⟩
  have XA:Hid ((xs.drop (k+1)).any (fun a=>!a.s.toList.isEmpty)=xs.any (fun a=>!a.s.toList.isEmpty)):=by show _=_;rw[<-HP.out,yt _ _ hlt,he];rfl
  go_wp2_with(go_at_call 233;refine(Du xs[k] _).mono ?_;rintro e w' ⟨he2,hbx⟩;rw[he]at he2;subst he2);go_roundw;case rel=>exact⟨k+1,by omega,by go_num,XA,HB.out.trans (hbx.mono HB.out.size)⟩
  simp[intOf]<;>omega
 have HN:Hid (xs.any (fun a=>!a.s.toList.isEmpty)=false):=by show _=_;rw[<-HP.out,Ww (by omega)];rfl
 go_wp2;go_ret;exact⟨⟨-1,rfl,by rw[HN.out];simp⟩,HB.out⟩
theorem xm(ad:Q02)(cap:Nat)(xs:Q0a)(w:ae)(hlen:xs.length<=1048576)(hs:lK w ad xs):
  Calls prog 232 #[.slice ad xs.length cap,.func (Fn.func 233) #[] #[]] w fun e w'=>e=.returned (.bool (xs.any (fun a=>!a.s.toList.isEmpty)))/\af w w':=by
 go_enter func232,ntmps232;go_wp2_with fail;refine(Cr ad cap xs _ hlen hs).mono ?_;rintro e w' ⟨⟨r,rfl,hr⟩,hbx⟩;have HR:Hid (decide (0<=r)=xs.any (fun a=>!a.s.toList.isEmpty)):=hr;clear hr hs;go_wp2;go_ret;exact⟨by rw[<-HR.out];rfl,hbx⟩
theorem Py(xs:Q0a):(!xs.any fun a=>!a.s.toList.isEmpty)=xs.all fun a=>a.s.toList.isEmpty:=by
 induction xs with
 | nil=>rfl
 | cons a xs ih=>simp only[Xt,List.all_cons,Bool.not_or,Bool.not_not,ih]
set_option maxRecDepth 100000 in
theorem vL(ad:Q02)(cap:Nat)(rs:Q08)(w:ae)(hlen:rs.length<=1048576)(hs:jv w ad rs)(hl:∀r∈rs,r.e.light):
  Calls prog 213 #[.slice ad rs.length cap] w fun e w'=>e=.returned (.bool (bP (aj rs)))/\af w w':=by
 by_cases h1:rs.length=1
 ·obtain⟨r,rfl⟩:∃r,rs=[r]:=List.length_eq_one_iff.1 h1;rcases hs with h|⟨b,off,rfl,hb,hr,hok⟩
  ·cases h
  obtain⟨t0,t1,t2,t3,t4⟩:=hr 0 (by simp);simp only[Nat.zero_mul,Nat.add_zero,List.getElem_cons_zero]at t0 t1 t2 t3 t4;have Yk:Hid (r.ok w):=hok r (by simp);obtain⟨lg,-⟩:=hl r (by simp);clear hr hok h1;simp only[WH,Xh,WB];by_cases hq:r.e.kind=1
  ·have HD:Hid (bP (aj [r])=!r.e.allow.any fun a=>!a.s.toList.isEmpty):=by show _=_;rw[Py];simp[bP,aj,hq]
   have hqb:(r.e.kind==1)=true:=by simpa using hq
   go_enter func213,ntmps213;go_wp2_with(go_at_call 232;refine(xm _ _ r.e.allow _ lg (Yk.out.1.below ((V5 _ _)))).mono ?_;rintro e w' ⟨rfl,hbx⟩);go_ret;exact⟨by rw[HD.out];rfl,hbx⟩
  have HD:Hid (bP (aj [r])=false):=by show _=_;simp[bP,aj,hq]
  have hqb:(r.e.kind==1)=false:=by simpa using hq
  go_enter func213,ntmps213;go_wp2;go_ret;exact⟨by rw[HD.out];rfl,V5 _ _⟩
 have HD:Hid (bP (aj rs)=false):=by
  show _=_;rcases rs with _|⟨r,_|⟨r2,rs⟩⟩
  ·rfl
  ·simp at h1
  rfl
 have h2:((rs.length:Int)==1)=false:=by
  have:¬((rs.length:Int)=1):=by omega
  simpa using this
 clear hs;go_enter func213,ntmps213;go_wp2;go_ret;exact⟨by rw[HD.out];rfl,V5 _ _⟩
def gy(ts:Q0b)(ty over rel:ByteArray):List ByteArray:=if bP (aM ts ty over) then iq ts ty over rel else []
theorem MK:(prog.info? 9).map (fun i=>(i.zero,i.size,i.bytes))=some (some (.string ⟨#[]⟩),1,16):=by kernel_rfl
theorem JC(r:ER)(h:bP (aj [r])=true):aW (aj [r])=r.e.allow/\r.e.kind=1:=by
 simp only[aj,Xp,List.map_nil,bP,V9,Wn]at h;exact⟨by simp[aj,aW,h.1],h.1⟩
theorem JD{rows:Q08}(h:bP (aj rows)=true):∃r,rows=[r]:=by
 rcases rows with _|⟨r,_|⟨r2,rs⟩⟩
 ·simp[aj,bP]at h
 ·exact⟨r,rfl⟩
 simp[aj,bP]at h
set_option maxRecDepth 100000 in
theorem yu(b n:Nat)(rs:Q06)(ad:Q02)(M:ByteArray×ByteArray->Option Value)(typ:bZ)(x:ER)(w:ae)(hV:aN dU prog 151 w b n M)(hT:Tab rs M)(hs:lc w ad rs)(hl:∀r∈rs,r.light)(hf:∀r∈rs,r.fits)(ht:typ.size<=maxLen)(ho:x.e.over.size<=maxLen)(hn:x.e.name.size<=maxLen):
  Calls prog 174 #[.map (some b),.string typ,x.val] w fun e w'=>(∃(XB:Q02) (cap':Nat),e=.returned (.slice XB (gy (ag rs) typ x.e.over x.e.name).length cap')/\Ul w' XB (gy (ag rs) typ x.e.over x.e.name)/\∀p,XB=some p->w.heap.size<=p.block)/\af w w':=by
 have HV:Hid (aN dU prog 151 w b n M):=hV;have HT:=aC hT;have HS:=aC hs;have HL:=aC hl;have XC:=aC hf;obtain⟨kl,hkl⟩:=kJ (typ,x.e.over) ht ho;have Yp:Hid (keyOf prog 151 (dU (typ,x.e.over))=some kl):=hkl;clear hkl hV hT hs hl hf;obtain⟨i0,hi,hz0,hz1,hz2⟩:=info_parts MK;obtain⟨W0,hW0⟩:∃W0,W0=w.alloc (.cells #[.int .i64 x.e.kind,.slice x.adA x.e.allow.length x.capA,.string x.e.over,.string x.e.name,.slice x.adK x.e.kids.length x.capK] 188):=⟨_,rfl⟩;have hal:af w W0:=by rw[hW0];exact(V5 _ _).alloc (V4 _) _
 have HB0:=aC hal;have HV0:=aC (HV.out.below hal);have c3:W0.cell? ⟨w.heap.size,3,none⟩=some (.string x.e.name):=by rw[hW0];simp
 have hg0:w.heap.size<W0.heap.size:=by rw[hW0];simp
 -- what lies in the table
 obtain⟨rows,Xw,capE,HM,HE,HF,HFL⟩:∃(rows:Q08) (Xw:Q02) (capE:Nat),Hid ((M (typ,x.e.over)).getD (.slice none 0 0)=.slice Xw rows.length capE)/\Hid (aj rows=aM (ag rs) typ x.e.over)/\Hid (qB rs Xw rows)/\Hid (∀q∈rows,q.e.fits):=by
  cases e:M (typ,x.e.over) with
  | none=>exact⟨[],none,0,rfl,by show _=_;unfold aM;rw[HT.out.no _ e];rfl,.inl rfl,by show ∀_,_;simp⟩
  | some v =>
   obtain⟨t,htm,q,hq,-,rfl,e1,-⟩:=HT.out.yes _ v e;exact⟨q.rows,q.ad,q.cap,rfl,by show _=_;unfold aM;rw[e1];rfl,.inr ⟨t,htm,q,hq,rfl,rfl⟩,((XC.out t htm).2.2 q hq).2.2⟩
 have ZL:Hid (jv W0 Xw rows):=HF.out.sl (HS.out.below hal);have Yv:=HF.out.light HL.out;have HLE1:rows.length<=1048576:=Yv.1;have HLE2:Hid (∀q∈rows,q.e.light):=Yv.2;clear Yv hal;go_enter func174,ntmps174;unfold ER.val;go_wp2_with(at_lookup;rw[<-hW0];refine jA _ rfl _ _ 95 rfl 151 147 jf underlying95 (sD _) b n M rfl HV0.out (typ,x.e.over) kl rfl Yp.out ?_;rw[HM.out];clear hW0);refine(vL Xw capE rows _ HLE1 ZL.out HLE2.out).mono ?_;rintro e w1 ⟨rfl,hb1⟩;have HB1:=kv HB0 hb1;have HNM:Hid (w1.cell? ⟨w.heap.size,3,none⟩=some (.string x.e.name)/\w.heap.size<w1.heap.size):=⟨aJ hb1 hg0 c3,VY hg0 hb1.size⟩;clear hb1 c3 hg0;cases hd:bP (aj rows);case false=>
  have HG:Hid (gy (ag rs) typ x.e.over x.e.name=[]):=by show _=_;unfold gy;rw[<-HE.out,hd];rfl
  go_wp2;go_ret;refine⟨⟨none,0,by rw[HG.out];rfl,by rw[HG.out];exact .inl rfl,fun p hp=>by cases hp⟩,HB1.out⟩
 obtain⟨r,rfl⟩:=JD hd;have HG:Hid (gy (ag rs) typ x.e.over x.e.name=gl (ag rs) x.e.name r.e.allow):=by
  show _=_;unfold gy iq;rw[<-HE.out,hd,if_pos rfl,(JC r hd).1]
 rcases ZL.out with h|⟨bE,offE,rfl,hbE,hrE,hokE⟩
 ·cases h
 have HSW:Hid (jv w1 (some ⟨bE,offE,none⟩) [r]):=HF.out.sl (HS.out.below HB1.out);rcases HSW.out with h|⟨bE',offE',heE,hbE1,hrE1,hokE1⟩
 ·cases h
 injection heE with heE;injection heE with heE1 heE2;subst heE1;subst heE2;obtain⟨s0,s1,s2,s3,s4⟩:=hrE1 0 (by simp);simp only[Nat.zero_mul,Nat.add_zero,List.getElem_cons_zero]at s0 s1 s2 s3 s4;have HOKR:Hid (r.ok w):=by
  have h1:=HF.out.sl HS.out;exact h1.mem (by simp)
 have lgA:r.e.allow.length<=1048576:=(HLE2.out r (by simp)).1;have HFA:Hid (∀a∈r.e.allow,a.fits):=(HFL.out r (by simp)).1;have hone:([r]:Q08).length=1:=rfl;rw[hone];clear hrE hokE hrE1 hokE1 HE HM hd hbE;go_wp2_with fail;go_loopw[8,25] (fun v i wr=>∃k:Nat,k<=r.e.allow.length/\i=.int .i64 k/\Hid (wr.ownsRow w.heap.size 9 1 v (gl (ag rs) x.e.name (r.e.allow.take k)).length (qU (gl (ag rs) x.e.name (r.e.allow.take k))))/\Hid (af w wr)/\Hid (wr.cell? ⟨w.heap.size,3,none⟩=some (.string x.e.name)/\w.heap.size<wr.heap.size/\v.ownBlock≠some w.heap.size)) (fun _ i _=>r.e.allow.length-(intOf i).toNat);case atStart=>exact⟨0,Wd _,rfl,World.ownsRow_nil _ _ _ _,HB1,HNM.out.1,HNM.out.2,by simp[Value.ownBlock]⟩
 clear HB1 HNM s0 s1 s2 s3 s4;obtain⟨k,hk,rfl,HOW,HB,HC⟩:=hrel;by_cases hlt:k<r.e.allow.length
 ·rcases (HOKR.out.1).below HB.out with hnil|⟨ba,Zf,had,hba,hra⟩
  ·rw[hnil]at hlt;simp at hlt
  obtain⟨t0,t1⟩:=hra k hlt;have hk1:=bC k;have hk2:(k:Int)<(r.e.allow.length:Int):=by omega
  have zA:=HFA.out _ (VZ hlt);have z1:r.e.allow[k].t.size<=maxLen:=zA.1;obtain⟨hc3,hcl,hco⟩:=HC.out;obtain⟨W1,hW1⟩:∃W1,W1=wr.alloc (.cells #[.string r.e.allow[k].t,.string r.e.allow[k].s] 223):=⟨_,rfl⟩;have hal:af wr W1:=by rw[hW1];exact(V5 _ _).alloc (V4 _) _
  have Xz:=kv HB hal;have HVW:=aC (HV.out.below Xz.out);have Zt:Hid (W1.ownsRow w.heap.size 9 1 u8 (gl (ag rs) x.e.name (r.e.allow.take k)).length (qU (gl (ag rs) x.e.name (r.e.allow.take k)))):=own_below HOW.out hal;have g0:W1.cell? ⟨wr.heap.size,0,none⟩=some (.string r.e.allow[k].t):=by rw[hW1];simp
  have g3:=aJ hal hcl hc3;have hgl1:wr.heap.size<W1.heap.size:=by rw[hW1];simp
  have hgl:=Jk (ag rs) x.e.name (r.e.allow.take k);rw[WK]at hgl;have HI:=HT.out.some_iff (r.e.allow[k].t,x.e.name);have hwsz:w.heap.size<=W1.heap.size:=Xz.out.size;rw[had];clear hra hal HC HOW;go_wp2_with fail;rw[<-hW1];refine(zx b n M r.e.allow[k].t x.e.name _ z1 hn HVW.out).mono ?_;rintro e w' ⟨rfl,hw'⟩;rw[hw'];clear hw' w' hW1 t0 t1 hc3;cases hz:(M (r.e.allow[k].t,x.e.name)).isSome;case false=>
   have HE:Hid (gl (ag rs) x.e.name (r.e.allow.take (k+1))=gl (ag rs) x.e.name (r.e.allow.take k)):=by
    refine TB _ _ _ _ hlt ?_;rw[hz]at HI;simpa using HI.symm
   clear HI;go_wp2;go_roundw;case rel=>exact⟨k+1,by omega,by go_num,by rw[HE.out];exact Zt,Xz,g3,by omega,hco⟩
   simp[intOf]<;>omega
  have HX:Hid (gl (ag rs) x.e.name (r.e.allow.take (k+1))=gl (ag rs) x.e.name (r.e.allow.take k)++[r.e.allow[k].t]):=by
   refine Pf _ _ _ _ hlt ?_;rw[hz]at HI;simpa using HI.symm
  clear HI;go_wp2_with(at_builtin;refine wpList_append_own_at _ rfl _ _ 169 rfl w.heap.size 9 i0 (.string ⟨#[]⟩) 1 16 underlying169 hi hz0 hz1 hz2 rfl (by decide) _ _ _ rfl (Zt.out.alloc _) ⟨W1.heap.size,0,none⟩ 1 1 [.string r.e.allow[k].t] rfl rfl (cell_one_new _ _ _) (by intro u hu;simp at hu;subst hu;rfl) (by unfold maxLen;omega) (by omega) (by simp;omega) ?_);intro v' w3 hown3 hgrow _ hloc;have hb3:Hid (af w w3):=(Xz.out.alloc Xz.out.size _).grown hgrow (by simp;omega) (fun i hi=>(Zt.out.lt i hi).1);have XG:Hid (w3.ownsRow w.heap.size 9 1 v' (gl (ag rs) x.e.name (r.e.allow.take (k+1))).length (qU (gl (ag rs) x.e.name (r.e.allow.take (k+1))))):=by
   show World.ownsRow _ _ _ _ _ _ _;rw[HX.out];simpa[qU] using hown3
  have HC3:Hid (w3.cell? ⟨w.heap.size,3,none⟩=some (.string x.e.name)/\w.heap.size<w3.heap.size/\v'.ownBlock≠some w.heap.size):=by
   refine⟨?_,?_,?_⟩
   ·rw[hgrow.cell_far _ (by simp;omega) (Ne.symm hco)];exact aJ ((V5 _ _).alloc (V4 _) _) (by omega) g3
   ·have:=hgrow.size;simp at this;omega
   rcases hloc with e|e
   ·rw[e];exact hco
   rw[e];simp;omega
  clear hown3 hgrow hloc Zt g0 g3;go_wp2;go_roundw;case rel=>exact⟨k+1,by omega,by go_num,XG,hb3,HC3⟩
  simp[intOf]<;>omega
 obtain rfl:k=r.e.allow.length:=by omega
 have hown:=HOW.out;rw[Wo]at hown;obtain⟨XB,cp,rfl,hS',hN'⟩:=Pg hown;have HS2:=aC hS';have ZF:Hid (∀p,XB=some p->w.heap.size<=p.block):=hN';clear hown HOW hS' hN' HC;go_wp2;go_ret;refine⟨⟨XB,cp,by rw[HG.out];rfl,by rw[HG.out];exact HS2.out,ZF.out⟩,HB.out⟩
theorem AC(t:TR)(g:Nat)(nm:bZ)(w:ae)(hg:g<w.heap.size)(hc:w.cell? ⟨g,0,none⟩=some (.string nm)):
  Calls prog 212 #[.agg #[.string t.name,.slice t.ad t.rows.length t.cap],.pointer (some ⟨g,0,none⟩)] w fun e w'=>e=.returned (.bool (t.name.toList==nm.toList))/\af w w':=by
 go_enter func212,ntmps212;go_wp2;go_ret;exact⟨rfl,(V5 _ _).alloc (V4 _) _⟩
theorem Dv(rs:Q06)(k:Nat)(h:k<rs.length)(nm:bZ):lW (ag (rs.drop k)) nm=((rs[k].name.toList==nm.toList) || lW (ag (rs.drop (k+1))) nm):=by
 rw[oJ _ _ h];rfl
theorem AJ(ad:Q02)(cap:Nat)(rs:Q06)(g:Nat)(nm:bZ)(w:ae)(hlen:rs.length<=1048576)(hs:lc w ad rs)(hg:g<w.heap.size)(hc:w.cell? ⟨g,0,none⟩=some (.string nm)):
  Calls prog 231 #[.slice ad rs.length cap,.func (Fn.func 212) #[] #[.pointer (some ⟨g,0,none⟩)]] w fun e w'=>(∃r:Int,e=.returned (.int .i64 r)/\decide (0<=r)=lW (ag rs) nm)/\af w w':=by
 have HS:=aC hs;have HC:Hid (w.cell? ⟨g,0,none⟩=some (.string nm)):=hc;clear hs hc;go_enter func231,ntmps231;go_wp2_with fail;go_loopw[8] (fun i wr=>∃k:Nat,k<=rs.length/\i=.int .i64 k/\Hid (lW (ag (rs.drop k)) nm=lW (ag rs) nm)/\Hid (af w wr)) (fun i _=>rs.length-(intOf i).toNat);case atStart=>exact⟨0,Wd _,rfl,rfl,V5 _ _⟩
 obtain⟨k,hk,rfl,HP,HB⟩:=hrel;by_cases hlt:k<rs.length
 ·rcases HS.out.below HB.out with rfl|⟨b,off,rfl,hb,hr,-⟩
  ·simp at hlt
  obtain⟨t0,t1⟩:=hr k hlt;have hk1:=bC k;have hk2:(k:Int)<(rs.length:Int):=by omega
  have HCW:Hid (wr.cell? ⟨g,0,none⟩=some (.string nm)):=aJ HB.out hg HC.out;have HGW:Hid (g<wr.heap.size):=VY hg HB.out.size;clear hr;cases he:(rs[k].name.toList==nm.toList);case true=>
   have HN:Hid (lW (ag rs) nm=true):=by show _=_;rw[<-HP.out,Dv _ _ hlt,he];rfl
   go_wp2_with(go_at_call 212;refine(AC rs[k] g nm _ HGW.out HCW.out).mono ?_;rintro e w' ⟨he2,hbx⟩;rw[he]at he2;subst he2);go_ret;exact⟨⟨k,rfl,by rw[HN.out];simp⟩,HB.out.trans (hbx.mono HB.out.size)⟩
  have XA:Hid (lW (ag (rs.drop (k+1))) nm=lW (ag rs) nm):=by show _=_;rw[<-HP.out,Dv _ _ hlt,he];rfl
  go_wp2_with(go_at_call 212;refine(AC rs[k] g nm _ HGW.out HCW.out).mono ?_;rintro e w' ⟨he2,hbx⟩;rw[he]at he2;subst he2);go_roundw;case rel=>exact⟨k+1,by omega,by go_num,XA,HB.out.trans (hbx.mono HB.out.size)⟩
  simp[intOf]<;>omega
 have HN:Hid (lW (ag rs) nm=false):=by show _=_;rw[<-HP.out,Ww (by omega)];rfl
 go_wp2;go_ret;exact⟨⟨-1,rfl,by rw[HN.out];simp⟩,HB.out⟩
theorem vM(ad:Q02)(cap:Nat)(rs:Q06)(g:Nat)(nm:bZ)(w:ae)(hlen:rs.length<=1048576)(hs:lc w ad rs)(hg:g<w.heap.size)(hc:w.cell? ⟨g,0,none⟩=some (.string nm)):
  Calls prog 211 #[.slice ad rs.length cap,.func (Fn.func 212) #[] #[.pointer (some ⟨g,0,none⟩)]] w fun e w'=>e=.returned (.bool (lW (ag rs) nm))/\af w w':=by
 go_enter func211,ntmps211;go_wp2_with fail;refine(AJ ad cap rs g nm _ hlen hs hg hc).mono ?_;rintro e w' ⟨⟨r,rfl,hr⟩,hbx⟩;have HR:Hid (decide (0<=r)=lW (ag rs) nm):=hr;clear hr hs hc;go_wp2;go_ret;exact⟨by rw[<-HR.out];rfl,hbx⟩
set_option maxRecDepth 100000 in
theorem AL(ad adA:Q02)(cap capA:Nat)(rs:Q06)(b n:Nat)(M:ByteArray×ByteArray->Option Value)(xs:Q0a)(w:ae)(hlen:rs.length<=1048576)(hs:lc w ad rs)(hV:aN dU prog 151 w b n M)(hT:Tab rs M)(hla:xs.length<=1048576)(hsa:lK w adA xs)(hfa:∀a∈xs,a.fits):
  Calls prog 172 #[.slice ad rs.length cap,.map (some b),.slice adA xs.length capA] w fun e w'=>e=.returned (.bool (qV (ag rs) xs))/\af w w':=by
 have HS:=aC hs;have HV:Hid (aN dU prog 151 w b n M):=hV;have HT:=aC hT;have HA:=aC hsa;have HFA:=aC hfa;clear hs hV hT hsa hfa;go_enter func172,ntmps172;go_wp2_with fail;go_loopw[11] (fun i wr=>∃k:Nat,k<=xs.length/\i=.int .i64 k/\Hid (oK (ag rs) xs k=true)/\Hid (af w wr)) (fun i _=>xs.length-(intOf i).toNat);case atStart=>exact⟨0,Wd _,rfl,Am _ _,V5 _ _⟩
 obtain⟨k,hk,rfl,HP,HB⟩:=hrel;by_cases hlt:k<xs.length
 ·rcases HA.out.below HB.out with rfl|⟨ba,Zf,rfl,hba,hra⟩
  ·simp at hlt
  obtain⟨t0,t1⟩:=hra k hlt;have hk1:=bC k;have hk2:(k:Int)<(xs.length:Int):=by omega
  have zA:=HFA.out _ (VZ hlt);have z1:xs[k].t.size<=maxLen:=zA.1;have z2:xs[k].s.size<=maxLen:=zA.2;have HI:Hid ((M (xs[k].t,xs[k].s)).isSome=!(aM (ag rs) xs[k].t xs[k].s).isEmpty):=HT.out.some_iff (xs[k].t,xs[k].s);obtain⟨W1,hW1⟩:∃W1,W1=wr.alloc (.cells #[.string xs[k].t,.string xs[k].s] 223):=⟨_,rfl⟩;have hal:af wr W1:=by rw[hW1];exact(V5 _ _).alloc (V4 _) _
  have Xz:=kv HB hal;have g0:W1.cell? ⟨wr.heap.size,0,none⟩=some (.string xs[k].t):=by rw[hW1];simp
  have g1:W1.cell? ⟨wr.heap.size,1,none⟩=some (.string xs[k].s):=by rw[hW1];simp
  have hgl:wr.heap.size<W1.heap.size:=by rw[hW1];simp
  clear hra hal zA;go_wp2_with fail;rw[<-hW1];clear hW1 t0 t1;refine(vM ad cap rs wr.heap.size xs[k].t _ hlen (HS.out.below Xz.out) hgl g0).mono ?_;rintro e w2 ⟨rfl,hb2⟩;have HB2:=kv Xz hb2;replace g0:=aJ hb2 hgl g0;replace g1:=aJ hb2 hgl g1;have HV2:=aC (HV.out.below HB2.out);clear hb2 hgl;cases ht:lW (ag rs) xs[k].t;case false=>
   have HN:Hid (qV (ag rs) xs=false):=vH _ _ k hlt (by simp[qC,ht]);go_wp2;go_ret;exact⟨by rw[HN.out];rfl,HB2.out⟩
  cases he:xs[k].s.toList.isEmpty;case true=>
   have XA:Hid (oK (ag rs) xs (k+1)=true):=by show _=_;rw[pW _ _ _ hlt,HP.out];simp[qC,ht,he]
   go_wp2;go_roundw;case rel=>exact⟨k+1,by omega,by go_num,XA,HB2⟩
   simp[intOf]<;>omega
  cases hz:(M (xs[k].t,xs[k].s)).isSome;case false=>
   have HN:Hid (qV (ag rs) xs=false):=vH _ _ k hlt (by have:=HI.out;rw[hz]at this;simp[qC,ht,he];simpa using this.symm);go_wp2_with(go_at_call 173;refine(zx b n M xs[k].t xs[k].s _ z1 z2 HV2.out).mono ?_;rintro e w' ⟨he2,rfl⟩;rw[hz]at he2;subst he2);go_ret;exact⟨by rw[HN.out];rfl,HB2.out⟩
  have XA:Hid (oK (ag rs) xs (k+1)=true):=by show _=_;rw[pW _ _ _ hlt,HP.out];have:=HI.out;rw[hz]at this;simp[qC,ht,he];simpa using this.symm
  go_wp2_with(go_at_call 173;refine(zx b n M xs[k].t xs[k].s _ z1 z2 HV2.out).mono ?_;rintro e w' ⟨he2,rfl⟩;rw[hz]at he2;subst he2);go_roundw;case rel=>exact⟨k+1,by omega,by go_num,XA,HB2⟩
  simp[intOf]<;>omega
 have HN:Hid (qV (ag rs) xs=true):=by
  have:=HP.out;obtain rfl:k=xs.length:=by omega
  unfold oK at this;rw[Wo]at this;exact this
 go_wp2;go_ret;exact⟨by rw[HN.out];rfl,HB.out⟩
theorem uH{e:Ex}(h:ay e=true)(h1:e.kind≠1):e.allow=[]:=by
 unfold ay at h;rw[if_neg h1]at h;split at h
 ·simp only[V9,Wn]at h;exact Wu.1 h.1.1.2
 split at h
 ·simp only[V9,Wn]at h;exact Wu.1 h.1.2
 split at h
 ·simp only[V9,Wn]at h;exact Wu.1 h.1.1.2
 split at h
 ·simp only[V9,Wn]at h;exact Wu.1 h.1.1.2
 cases h
theorem JE(ts:Q0b)(typ:bZ)(rows:Q08)(k:Nat)(h:k<rows.length):aV ts typ (aj (rows.drop k))=if qV ts rows[k].e.allow&&om ts typ rows[k].e then aV ts typ (aj (rows.drop (k+1))) else false:=by
 rw[gM _ _ h];rfl
theorem Gz(ts:Q0b)(typ:bZ)(e:Ex)(h:e.kind=3):om ts typ e=!(gy ts typ e.over e.name).isEmpty:=by
 unfold om gy;rw[if_neg (by omega),if_pos h];cases bP (aM ts typ e.over)<;>simp
set_option maxRecDepth 100000 in
theorem AO(ad Xw:Q02)(cap capE:Nat)(rs:Q06)(b n:Nat)(M:ByteArray×ByteArray->Option Value)(typ:bZ)(rows:Q08)(w:ae)(hlen:rs.length<=1048576)(hs:lc w ad rs)(hl:∀r∈rs,r.light)(hf:∀r∈rs,r.fits)(hV:aN dU prog 151 w b n M)(hT:Tab rs M)(ht:typ.size<=maxLen)(hle:rows.length<=1048576)(hse:jv w Xw rows)(hlE:∀q∈rows,q.e.light)(hfE:∀q∈rows,q.e.fits)(hnb:∀q∈rows,ay q.e=true):
  Calls prog 125 #[.slice ad rs.length cap,.map (some b),.string typ,.slice Xw rows.length capE] w fun e w'=>e=.returned (.bool (aV (ag rs) typ (aj rows)))/\af w w':=by
 have HS:=aC hs;have HL:=aC hl;have XC:=aC hf;have HV:Hid (aN dU prog 151 w b n M):=hV;have HT:=aC hT;have HE:=aC hse;have Yv:=aC hlE;have ZC:=aC hfE;have HNB:Hid (∀q∈rows,ay q.e=true):=hnb;clear hs hl hf hV hT hse hlE hfE hnb;go_enter func125,ntmps125;go_wp2_with fail;go_loopw[13] (fun i wr=>∃k:Nat,k<=rows.length/\i=.int .i64 k/\Hid (aV (ag rs) typ (aj (rows.drop k))=aV (ag rs) typ (aj rows))/\Hid (af w wr)) (fun i _=>rows.length-(intOf i).toNat);case atStart=>exact⟨0,Wd _,rfl,rfl,V5 _ _⟩
 obtain⟨k,hk,rfl,HP,HB⟩:=hrel;by_cases hlt:k<rows.length
 ·rcases HE.out.below HB.out with rfl|⟨bE,offE,rfl,hbE,hrE,hokE⟩
  ·simp at hlt
  obtain⟨t0,t1,t2,t3,t4⟩:=hrE k hlt;have HOKW:Hid (rows[k].ok w):=HE.out.mem (VZ hlt);have hk1:=bC k;have hk2:(k:Int)<(rows.length:Int):=by omega
  have lgA:rows[k].e.allow.length<=1048576:=(Yv.out _ (VZ hlt)).1;have HFK:Hid (rows[k].e.fits):=ZC.out _ (VZ hlt);have HNK:Hid (ay rows[k].e=true):=HNB.out _ (VZ hlt);have HDR:=JE (ag rs) typ rows k hlt;have HD:Hid (aV (ag rs) typ (aj rows)=if qV (ag rs) rows[k].e.allow&&om (ag rs) typ rows[k].e then aV (ag rs) typ (aj (rows.drop (k+1))) else false):=by show _=_;rw[<-HP.out];exact HDR
  obtain⟨W1,hW1⟩:∃W1,W1=wr.alloc (.cells #[.int .i64 rows[k].e.kind,.slice rows[k].adA rows[k].e.allow.length rows[k].capA,.string rows[k].e.over,.string rows[k].e.name,.slice rows[k].adK rows[k].e.kids.length rows[k].capK] 188):=⟨_,rfl⟩;have hal:af wr W1:=by rw[hW1];exact(V5 _ _).alloc (V4 _) _
  have Xz:=kv HB hal;have HVW:=aC (HV.out.below Xz.out);have zO:rows[k].e.over.size<=maxLen:=HFK.out.2.1;have zN:rows[k].e.name.size<=maxLen:=HFK.out.2.2.1;clear hrE hokE hal HDR;by_cases h1:rows[k].e.kind=1
  ·have Y0:Hid (om (ag rs) typ rows[k].e=true):=by show _=_;unfold om;rw[if_neg (by omega),if_neg (by omega)]
   have hq1:(rows[k].e.kind==1)=true:=by simpa using h1
   replace h1:Hid (rows[k].e.kind=1):=h1;go_wp2_with fail;rw[<-hW1];refine(AL ad rows[k].adA cap rows[k].capA rs b n M rows[k].e.allow _ hlen (HS.out.below Xz.out) HVW.out HT.out lgA (HOKW.out.1.below Xz.out) HFK.out.1).mono ?_;rintro e w2 ⟨rfl,hb2⟩;have HB2:=kv Xz hb2;clear hb2 hW1 t0 t1 t2 t3 t4;cases hz:qV (ag rs) rows[k].e.allow;case false=>
    have HN:Hid (aV (ag rs) typ (aj rows)=false):=by show _=_;rw[HD.out,hz];rfl
    go_wp2;go_ret;exact⟨by rw[HN.out];rfl,HB2.out⟩
   have XA:Hid (aV (ag rs) typ (aj (rows.drop (k+1)))=aV (ag rs) typ (aj rows)):=by show _=_;rw[HD.out,hz,Y0.out];rfl
   go_wp2;go_roundw;case rel=>exact⟨k+1,by omega,by go_num,XA,HB2⟩
   simp[intOf]<;>omega
  have hq1:(rows[k].e.kind==1)=false:=by simpa using h1
  have Z0:Hid (qV (ag rs) rows[k].e.allow=true):=by show _=_;rw[uH HNK.out h1];rfl
  by_cases h2:rows[k].e.kind=2
  ·have hq2:(rows[k].e.kind==2)=true:=by simpa using h2
   have HI:=HT.out.some_iff (typ,rows[k].e.name);have Y0:Hid (om (ag rs) typ rows[k].e=(M (typ,rows[k].e.name)).isSome):=by show _=_;unfold om;rw[if_pos h2,HI]
   clear HI;replace h2:Hid (rows[k].e.kind=2):=h2;go_wp2_with fail;rw[<-hW1];refine(zx b n M typ rows[k].e.name _ ht zN HVW.out).mono ?_;rintro e w2 ⟨rfl,hw2⟩;rw[hw2];clear hw2 w2 hW1 t0 t1 t2 t3 t4;cases hz:(M (typ,rows[k].e.name)).isSome;case false=>
    have HN:Hid (aV (ag rs) typ (aj rows)=false):=by show _=_;rw[HD.out,Y0.out,hz,Z0.out];rfl
    go_wp2;go_ret;exact⟨by rw[HN.out];rfl,Xz.out⟩
   have XA:Hid (aV (ag rs) typ (aj (rows.drop (k+1)))=aV (ag rs) typ (aj rows)):=by show _=_;rw[HD.out,Y0.out,hz,Z0.out];rfl
   go_wp2;go_roundw;case rel=>exact⟨k+1,by omega,by go_num,XA,Xz⟩
   simp[intOf]<;>omega
  have hq2:(rows[k].e.kind==2)=false:=by simpa using h2
  by_cases h3:rows[k].e.kind=3
  ·have hq3:(rows[k].e.kind==3)=true:=by simpa using h3
   have Y0:Hid (om (ag rs) typ rows[k].e=!(gy (ag rs) typ rows[k].e.over rows[k].e.name).isEmpty):=Gz _ _ _ h3;replace h3:Hid (rows[k].e.kind=3):=h3;go_wp2_with fail;rw[<-hW1];refine(yu b n rs ad M typ rows[k] _ HVW.out HT.out (HS.out.below Xz.out) HL.out XC.out ht zO zN).mono ?_;rintro e w2 ⟨⟨XB,cap',rfl,-,-⟩,hb2⟩;have HB2:=kv Xz hb2;clear hb2 hW1 t0 t1 t2 t3 t4;generalize gy (ag rs) typ rows[k].e.over rows[k].e.name=gs at Y0⊢;cases gs with
   | nil =>
    have HN:Hid (aV (ag rs) typ (aj rows)=false):=by show _=_;rw[HD.out,Y0.out,Z0.out];rfl
    go_wp2;go_ret;exact⟨by rw[HN.out];rfl,HB2.out⟩
   | cons g gs =>
    have XA:Hid (aV (ag rs) typ (aj (rows.drop (k+1)))=aV (ag rs) typ (aj rows)):=by show _=_;rw[HD.out,Y0.out,Z0.out];rfl
    have hlz:(((g::gs).length:Int)==0)=false:=by
     have:¬(((g::gs).length:Int)=0):=by simp;omega
     simpa using this
    obtain⟨ln,hln⟩:∃ln,ln=(g::gs).length:=⟨_,rfl⟩;rw[<-hln]at hlz ⊢;clear hln;go_wp2;go_roundw;case rel=>exact⟨k+1,by omega,by go_num,XA,HB2⟩
    simp[intOf]<;>omega
  have hq3:(rows[k].e.kind==3)=false:=by simpa using h3
  have Y0:Hid (om (ag rs) typ rows[k].e=true):=by show _=_;unfold om;rw[if_neg h2,if_neg h3]
  have XA:Hid (aV (ag rs) typ (aj (rows.drop (k+1)))=aV (ag rs) typ (aj rows)):=by show _=_;rw[HD.out,Y0.out,Z0.out];rfl
  have XU:Hid (af w (wr.alloc (.cells #[.int .i64 rows[k].e.kind,.slice rows[k].adA rows[k].e.allow.length rows[k].capA,.string rows[k].e.over,.string rows[k].e.name,.slice rows[k].adK rows[k].e.kids.length rows[k].capK] 188))):=by rw[<-hW1];exact Xz
  clear hW1;go_wp2;go_roundw;case rel=>exact⟨k+1,by omega,by go_num,XA,XU⟩
  simp[intOf]<;>omega
 have HN:Hid (aV (ag rs) typ (aj rows)=true):=by show _=_;rw[<-HP.out,Ww (by omega)];rfl
 go_wp2;go_ret;exact⟨by rw[HN.out];rfl,HB.out⟩
def Al.cells(a:Al):List Value:=[.string a.t,.string a.s]
def iy:List Al->List Value
 | []=>[]
 | a::xs=>a.cells++iy xs
theorem EY(xs ys:Q0a):iy (xs++ys)=iy xs++iy ys:=by
 induction xs with
 | nil=>rfl
 | cons d ds ih=>simp[iy,ih]
theorem AP(xs:Q0a)(d:Al):iy (xs++[d])=iy xs++d.cells:=by rw[EY];simp[iy]
theorem Dw(xs:Q0a)(i:Nat)(h:i<xs.length)(o:Nat)(ho:o<2):(iy xs)[i*2+o]?=(xs[i].cells)[o]?:=by
 induction xs generalizing i with
 | nil=>simp at h
 | cons s xs ih =>
  cases i with
  | zero =>
   simp only[iy,Nat.zero_mul,WB,List.getElem_cons_zero];rw[Xa (by simp[Al.cells];omega)]
  | succ i =>
   simp only[iy,List.getElem_cons_succ];rw[WY (by simp[Al.cells];omega)];have e:(i+1)*2+o-s.cells.length=i*2+o:=by simp[Al.cells];omega
   rw[e];exact ih i (by simpa using h)
theorem Pz{w:ae}{base:Nat}{v:Value}{xs:Q0a}(h:w.ownsRow base 151 2 v xs.length (iy xs)):∃ad cp,v=.slice ad xs.length cp/\lK w ad xs/\∀p,ad=some p->base<=p.block:=by
 have h2:=h;rcases h.2 with⟨rfl,h0⟩|⟨g,cp,cur,rfl,hbg,hg,hnc,-⟩
 ·exact⟨none,0,by rw[h0],.inl (Wu.1 h0),fun p hp=>by cases hp⟩
 have hlt:=h2.lt g rfl;refine⟨_,cp,rfl,.inr ⟨g,0,rfl,hlt.2,fun i hi=>?_⟩,fun p hp=>by injection hp with hp;rw[<-hp];exact hlt.1⟩;have h3:∀(o:Nat) (u:Value),(iy xs)[i*2+o]?=some u->w.cell? ⟨g,0+i*2+o,none⟩=some u:=fun o u hu=>by
  have:=h2.cells (g:=g) rfl (i*2+o) u hu;rw[Gr]at this;rw[WB];exact this
 exact⟨h3 0 _ (by have:=Dw xs i hi 0 (by omega);simpa[Al.cells] using this),h3 1 _ (by have:=Dw xs i hi 1 (by omega);simpa[Al.cells] using this)⟩
def dF:List Al->List Al
 | []=>[]
 | a::xs=>if a.s.toList.isEmpty then dF xs else a::dF xs
theorem vO(xs ys:Q0a):dF (xs++ys)=dF xs++dF ys:=by
 induction xs with
 | nil=>rfl
 | cons a xs ih=>simp only[WU,dF,ih];split<;>simp
theorem PD(xs:Q0a)(k:Nat)(h:k<xs.length)(he:xs[k].s.toList.isEmpty=true):dF (xs.take (k+1))=dF (xs.take k):=by
 rw[V8 h,vO];simp[dF]at he ⊢;simp[he]
theorem MM(xs:Q0a)(k:Nat)(h:k<xs.length)(he:xs[k].s.toList.isEmpty=false):dF (xs.take (k+1))=dF (xs.take k)++[xs[k]]:=by
 rw[V8 h,vO];simp[dF,he]
theorem Dx(xs:Q0a):(dF xs).length<=xs.length:=by
 induction xs with
 | nil=>simp[dF]
 | cons a xs ih=>simp only[dF];split<;>simp<;>omega
def jl(ts:Q0b)(typ:ByteArray)(e:Ex):List Al :=
 if e.kind=1 then dF e.allow else if e.kind=2 then [⟨typ,e.name⟩] else if e.kind=3 then (gy ts typ e.over e.name).map fun g=>⟨g,e.name⟩ else []
theorem PE:(prog.info? 151).map (fun i=>(i.zero,i.size,i.bytes))=some (some (.agg #[.string ⟨#[]⟩,.string ⟨#[]⟩]),2,32):=by kernel_rfl
theorem EZ(rs:Q06)(hl:∀r∈rs,r.light)(typ over rel:bZ):(gy (ag rs) typ over rel).length<=1048576:=by
 unfold gy;split
 ·exact ym rs hl typ over rel
 simp
theorem xq(w:ae)(o o':Obj):((w.alloc o).alloc o').heap[w.heap.size+1]?=some o':=by
 have:=heap_alloc_new (w.alloc o) o';simpa using this
set_option maxRecDepth 100000 in
theorem GD(b n:Nat)(rs:Q06)(ad:Q02)(M:ByteArray×ByteArray->Option Value)(typ:bZ)(x:ER)(w:ae)(hV:aN dU prog 151 w b n M)(hT:Tab rs M)(hs:lc w ad rs)(hl:∀r∈rs,r.light)(hf:∀r∈rs,r.fits)(ht:typ.size<=maxLen)(hxf:x.e.fits)(hxl:x.e.light)(hxo:x.ok w):
  Calls prog 177 #[.map (some b),.string typ,x.val] w fun e w'=>(∃(XB:Q02) (cap':Nat),e=.returned (.slice XB (jl (ag rs) typ x.e).length cap')/\lK w' XB (jl (ag rs) typ x.e)/\∀p,XB=some p->w.heap.size<=p.block)/\af w w':=by
 have HV:Hid (aN dU prog 151 w b n M):=hV;have HT:=aC hT;have HS:=aC hs;have HL:=aC hl;have XC:=aC hf;have Zw:=aC hxf;have HXO:=aC hxo;have lgA:x.e.allow.length<=1048576:=hxl.1;clear hV hT hs hl hf hxf hxo hxl;obtain⟨i0,hi,hz0,hz1,hz2⟩:=info_parts PE;obtain⟨W0,hW0⟩:∃W0,W0=w.alloc (.cells #[.int .i64 x.e.kind,.slice x.adA x.e.allow.length x.capA,.string x.e.over,.string x.e.name,.slice x.adK x.e.kids.length x.capK] 188):=⟨_,rfl⟩;have hal:af w W0:=by rw[hW0];exact(V5 _ _).alloc (V4 _) _
 have HB0:=aC hal;have hg0:w.heap.size<W0.heap.size:=by rw[hW0];simp
 have c0:W0.cell? ⟨w.heap.size,0,none⟩=some (.int .i64 x.e.kind):=by rw[hW0];simp
 have c1:W0.cell? ⟨w.heap.size,1,none⟩=some (.slice x.adA x.e.allow.length x.capA):=by rw[hW0];simp
 have c2:W0.cell? ⟨w.heap.size,2,none⟩=some (.string x.e.over):=by rw[hW0];simp
 have c3:W0.cell? ⟨w.heap.size,3,none⟩=some (.string x.e.name):=by rw[hW0];simp
 have c4:W0.cell? ⟨w.heap.size,4,none⟩=some (.slice x.adK x.e.kids.length x.capK):=by rw[hW0];simp
 clear hal;unfold ER.val;by_cases h1:x.e.kind=1
 ·have HLI:Hid (jl (ag rs) typ x.e=dF x.e.allow):=by show _=_;unfold jl;rw[if_pos h1]
  have hq1:(x.e.kind==1)=true:=by simpa using h1
  replace h1:Hid (x.e.kind=1):=h1;go_enter func177,ntmps177;go_wp2_with fail;rw[<-hW0];clear hW0;go_loopw[7,19] (fun v i wr=>∃k:Nat,k<=x.e.allow.length/\i=.int .i64 k/\Hid (wr.ownsRow w.heap.size 151 2 v (dF (x.e.allow.take k)).length (iy (dF (x.e.allow.take k))))/\Hid (af w wr)) (fun _ i _=>x.e.allow.length-(intOf i).toNat);case atStart=>exact⟨0,Wd _,rfl,World.ownsRow_nil _ _ _ _,HB0⟩
  clear HB0 c0 c1 c2 c3 c4 hg0;obtain⟨k,hk,rfl,HOW,HB⟩:=hrel;by_cases hlt:k<x.e.allow.length
  ·rcases (HXO.out.1).below HB.out with hnil|⟨ba,Zf,had,hba,hra⟩
   ·rw[hnil]at hlt;simp at hlt
   obtain⟨t0,t1⟩:=hra k hlt;have hk1:=bC k;have hk2:(k:Int)<(x.e.allow.length:Int):=by omega
   obtain⟨W1,hW1⟩:∃W1,W1=wr.alloc (.cells #[.string x.e.allow[k].t,.string x.e.allow[k].s] 223):=⟨_,rfl⟩;have hal:af wr W1:=by rw[hW1];exact(V5 _ _).alloc (V4 _) _
   have Xz:=kv HB hal;have Zt:Hid (W1.ownsRow w.heap.size 151 2 u7 (dF (x.e.allow.take k)).length (iy (dF (x.e.allow.take k)))):=own_below HOW.out hal;have g0:W1.cell? ⟨wr.heap.size,0,none⟩=some (.string x.e.allow[k].t):=by rw[hW1];simp
   have g1:W1.cell? ⟨wr.heap.size,1,none⟩=some (.string x.e.allow[k].s):=by rw[hW1];simp
   have hgl1:wr.heap.size<W1.heap.size:=by rw[hW1];simp
   have hgl:=Dx (x.e.allow.take k);rw[WK]at hgl;have hwsz:w.heap.size<=W1.heap.size:=Xz.out.size;rw[had];clear hra hal HOW;cases he:x.e.allow[k].s.toList.isEmpty;case true=>
    have HE:Hid (dF (x.e.allow.take (k+1))=dF (x.e.allow.take k)):=PD _ _ hlt he;have XU:Hid (af w (wr.alloc (.cells #[.string x.e.allow[k].t,.string x.e.allow[k].s] 223))):=by rw[<-hW1];exact Xz
    have HOX:Hid ((wr.alloc (.cells #[.string x.e.allow[k].t,.string x.e.allow[k].s] 223)).ownsRow w.heap.size 151 2 u7 (dF (x.e.allow.take (k+1))).length (iy (dF (x.e.allow.take (k+1))))):=by rw[<-hW1,HE.out];exact Zt
    clear hW1 g0 g1;go_wp2;go_roundw;case rel=>exact⟨k+1,by omega,by go_num,HOX,XU⟩
    simp[intOf]<;>omega
   have HX:Hid (dF (x.e.allow.take (k+1))=dF (x.e.allow.take k)++[x.e.allow[k]]):=MM _ _ hlt he;have HOX:Hid ((wr.alloc (.cells #[.string x.e.allow[k].t,.string x.e.allow[k].s] 223)).ownsRow w.heap.size 151 2 u7 (dF (x.e.allow.take k)).length (iy (dF (x.e.allow.take k)))):=by rw[<-hW1];exact Zt
   have XU:Hid (af w (wr.alloc (.cells #[.string x.e.allow[k].t,.string x.e.allow[k].s] 223))):=by rw[<-hW1];exact Xz
   have hws:w.heap.size<=wr.heap.size:=HB.out.size;clear hW1 Zt Xz g0 g1 hgl1 hwsz W1;go_wp2_with(at_builtin;refine wpList_append_own_at _ rfl _ _ 281 rfl w.heap.size 151 i0 _ 2 32 underlying281 hi hz0 hz1 hz2 rfl (by decide) _ _ _ rfl (HOX.out.alloc _) ⟨wr.heap.size+1,0,none⟩ 1 1 [.string x.e.allow[k].t,.string x.e.allow[k].s] rfl rfl (World.news_of_block (cs:=#[.string x.e.allow[k].t,.string x.e.allow[k].s]) (t:=151) (fr:=(0,0)) (xq wr _ _)) (by simp[Value.oneCell']) (by unfold maxLen;omega) (by omega) (by simp;omega) ?_);intro v' w3 hown3 hgrow _ hloc;have HB3:Hid (af w w3):=(XU.out.alloc XU.out.size _).grown hgrow (by simp;omega) (fun i hi=>(HOX.out.lt i hi).1);have XG:Hid (w3.ownsRow w.heap.size 151 2 v' (dF (x.e.allow.take (k+1))).length (iy (dF (x.e.allow.take (k+1))))):=by
    show World.ownsRow _ _ _ _ _ _ _;rw[HX.out,AP,Wi];exact hown3
   clear hown3 hgrow hloc HOX XU;go_wp2;go_roundw;case rel=>exact⟨k+1,by omega,by go_num,XG,HB3⟩
   simp[intOf]<;>omega
  obtain rfl:k=x.e.allow.length:=by omega
  have hown:=HOW.out;rw[Wo]at hown;obtain⟨XB,cp,rfl,hS',hN'⟩:=Pz hown;have HS2:=aC hS';have ZF:Hid (∀p,XB=some p->w.heap.size<=p.block):=hN';clear hown HOW hS' hN';go_wp2;go_ret;exact⟨⟨XB,cp,by rw[HLI.out];rfl,by rw[HLI.out];exact HS2.out,ZF.out⟩,HB.out⟩
 have hq1:(x.e.kind==1)=false:=by simpa using h1
 by_cases h2:x.e.kind=2
 ·have HLI:Hid (jl (ag rs) typ x.e=[⟨typ,x.e.name⟩]):=by show _=_;unfold jl;rw[if_neg h1,if_pos h2]
  have hq2:(x.e.kind==2)=true:=by simpa using h2
  replace h2:Hid (x.e.kind=2):=h2;have HOX:Hid ((w.alloc (.cells #[.int .i64 x.e.kind,.slice x.adA x.e.allow.length x.capA,.string x.e.over,.string x.e.name,.slice x.adK x.e.kids.length x.capK] 188)).ownsRow w.heap.size 151 2 (.slice none 0 0) 0 []):=World.ownsRow_nil _ _ _ _;have XU:Hid (af w (w.alloc (.cells #[.int .i64 x.e.kind,.slice x.adA x.e.allow.length x.capA,.string x.e.over,.string x.e.name,.slice x.adK x.e.kids.length x.capK] 188))):=by rw[<-hW0];exact HB0
  clear hW0 HB0 c0 c1 c2 c3 c4 hg0 W0;go_enter func177,ntmps177;go_wp2_with(at_builtin;refine wpList_append_own_at _ rfl _ _ 281 rfl w.heap.size 151 i0 _ 2 32 underlying281 hi hz0 hz1 hz2 rfl (by decide) _ _ _ rfl (HOX.out.alloc _) ⟨w.heap.size+1,0,none⟩ 1 1 [.string typ,.string x.e.name] rfl rfl (World.news_of_block (cs:=#[.string typ,.string x.e.name]) (t:=151) (fr:=(0,0)) (xq w _ _)) (by simp[Value.oneCell']) (by unfold maxLen;omega) (by omega) (by simp;omega) ?_);intro v' w3 hown3 hgrow _ hloc;have HB3:Hid (af w w3):=(XU.out.alloc XU.out.size _).grown hgrow (by simp;omega) (fun i hi=>(HOX.out.lt i hi).1);have X8:w3.ownsRow w.heap.size 151 2 v' ([⟨typ,x.e.name⟩]:Q0a).length (iy [⟨typ,x.e.name⟩]):=hown3;obtain⟨XB,cp,rfl,hS',hN'⟩:=Pz X8;have HS2:=aC hS';have ZF:Hid (∀p,XB=some p->w.heap.size<=p.block):=hN';clear hown3 X8 hgrow hloc HOX XU hS' hN';go_wp2;go_ret;exact⟨⟨XB,cp,by rw[HLI.out];rfl,by rw[HLI.out];exact HS2.out,ZF.out⟩,HB3.out⟩
 have hq2:(x.e.kind==2)=false:=by simpa using h2
 by_cases h3:x.e.kind=3
 ·have HLI:Hid (jl (ag rs) typ x.e=(gy (ag rs) typ x.e.over x.e.name).map fun g=>(⟨g,x.e.name⟩:Al)):=by show _=_;unfold jl;rw[if_neg h1,if_neg h2,if_pos h3]
  have hq3:(x.e.kind==3)=true:=by simpa using h3
  replace h3:Hid (x.e.kind=3):=h3;have HGL:(gy (ag rs) typ x.e.over x.e.name).length<=1048576:=EZ rs HL.out _ _ _;have HV0:=aC (HV.out.below HB0.out);go_enter func177,ntmps177;go_wp2_with fail;rw[<-hW0];refine(yu b n rs ad M typ x _ HV0.out HT.out (HS.out.below HB0.out) HL.out XC.out ht Zw.out.2.1 Zw.out.2.2.1).mono ?_;rintro e w1 ⟨⟨adG,cpG,rfl,hSG,hNG⟩,hb1⟩;generalize gy (ag rs) typ x.e.over x.e.name=gs at *
  have HB1:=kv HB0 hb1;have HSG:=aC hSG;have HNG:Hid (∀p,adG=some p->W0.heap.size<=p.block):=hNG;have Yl:Hid (w1.cell? ⟨w.heap.size,3,none⟩=some (.string x.e.name)/\w.heap.size<w1.heap.size):=⟨aJ hb1 hg0 c3,VY hg0 hb1.size⟩;clear hW0 hSG hNG hb1 c0 c1 c2 c3 c4 HB0 HV0 hg0 HNG;go_wp2_with fail;go_loopw[7,51] (fun v i wr=>∃m:Nat,m<=gs.length/\i=.int .i64 m/\Hid (wr.ownsRow w.heap.size 151 2 v m (iy ((gs.take m).map fun g=>(⟨g,x.e.name⟩:Al))))/\Hid (af w wr)/\Hid (Aside w1 (.slice none 0 0) wr v)) (fun _ i _=>gs.length-(intOf i).toNat);case atStart=>exact⟨0,Wd _,rfl,World.ownsRow_nil _ _ _ _,HB1,Aside.refl _ _⟩
  clear HB1;obtain⟨m,hm,rfl,HO,HB,HA⟩:=hrel;have x3:=ru HA.out Yl.out.2 (by simp[Value.ownBlock]) Yl.out.1;by_cases XQ:m<gs.length
  ·rcases HSG.out with rfl|⟨bg,offg,rfl,hbg,hrg⟩
   ·simp at XQ
   have q0:=ru HA.out hbg (by simp[Value.ownBlock]) (hrg m XQ);have hm1:=bC m;have hm2:(m:Int)<(gs.length:Int):=by omega
   have hws:w.heap.size<=wr.heap.size:=HB.out.size;have HFX:Hid (iy ((gs.take (m+1)).map fun g=>(⟨g,x.e.name⟩:Al))=iy ((gs.take m).map fun g=>(⟨g,x.e.name⟩:Al))++[.string gs[m],.string x.e.name]):=by
    show _=_;rw[V8 XQ,Xb,List.map_singleton,AP];rfl
   clear hrg;go_wp2_with(at_builtin;refine wpList_append_own_at _ rfl _ _ 281 rfl w.heap.size 151 i0 _ 2 32 underlying281 hi hz0 hz1 hz2 rfl (by decide) _ _ _ rfl (HO.out.alloc _) ⟨wr.heap.size,0,none⟩ 1 1 [.string gs[m],.string x.e.name] rfl rfl (World.news_of_block (cs:=#[.string gs[m],.string x.e.name]) (t:=151) (fr:=(0,0)) (heap_alloc_new wr _)) (by simp[Value.oneCell']) (by unfold maxLen;omega) (by omega) (by simp;omega) ?_);intro v' w3 hown3 hgrow _ hloc;have HB3:Hid (af w w3):=(HB.out.alloc HB.out.size _).grown hgrow (by simp;omega) (fun i hi=>(HO.out.lt i hi).1);have XG:Hid (w3.ownsRow w.heap.size 151 2 v' (m+1) (iy ((gs.take (m+1)).map fun g=>(⟨g,x.e.name⟩:Al)))):=by
    show World.ownsRow _ _ _ _ _ _ _;rw[HFX.out];simpa[List.map_take] using hown3
   have HA3:Hid (Aside w1 (.slice none 0 0) w3 v'):=HA.out.trans ((Aside.below ((V5 _ _).alloc (V4 _) _)).trans (Aside.app hgrow (by simpa using hloc)));clear hown3 hgrow hloc HO HA;go_wp2;go_roundw;case rel=>exact⟨m+1,by omega,by go_num,XG,HB3,HA3⟩
   simp[intOf]<;>omega
  obtain rfl:m=gs.length:=by omega
  have hown:=HO.out;rw[Wo]at hown;have e:gs.length=(gs.map fun g=>(⟨g,x.e.name⟩:Al)).length:=by simp
  rw[e]at hown;obtain⟨XB,cp,rfl,hS',hN'⟩:=Pz hown;have HS2:Hid (lK wr XB (gs.map fun g=>(⟨g,x.e.name⟩:Al))):=hS';have ZF:Hid (∀p,XB=some p->w.heap.size<=p.block):=hN';obtain⟨ln,hln⟩:∃ln,ln=(gs.map fun g=>(⟨g,x.e.name⟩:Al)).length:=⟨_,rfl⟩;rw[<-hln];have HLN:Hid (ln=(gs.map fun g=>(⟨g,x.e.name⟩:Al)).length):=hln;clear hown HO hS' hN' e HA x3 hln;go_wp2;go_ret;exact⟨⟨XB,cp,by rw[HLI.out,<-HLN.out];rfl,by rw[HLI.out];exact HS2.out,ZF.out⟩,HB.out⟩
 have HLI:Hid (jl (ag rs) typ x.e=[]):=by show _=_;unfold jl;rw[if_neg h1,if_neg h2,if_neg h3]
 have hq3:(x.e.kind==3)=false:=by simpa using h3
 have XU:Hid (af w (w.alloc (.cells #[.int .i64 x.e.kind,.slice x.adA x.e.allow.length x.capA,.string x.e.over,.string x.e.name,.slice x.adK x.e.kids.length x.capK] 188))):=by rw[<-hW0];exact HB0
 clear hW0 HB0 c0 c1 c2 c3 c4 hg0;go_enter func177,ntmps177;go_wp2;go_ret;exact⟨⟨none,0,by rw[HLI.out];rfl,by rw[HLI.out];exact .inl rfl,fun p hp=>by cases hp⟩,XU.out⟩
set_option maxRecDepth 100000 in
theorem Cs(ad:Q02)(cap:Nat)(rs:Q08)(w:ae)(hlen:rs.length<=1048576)(hs:jv w ad rs)(hl:∀r∈rs,r.e.light)(hk:∀r∈rs,eH rs.length r.e.kids):
  Calls prog 176 #[.slice ad rs.length cap] w fun e w'=>e=.returned (.slice (some ⟨w.heap.size,0,none⟩) rs.length rs.length)/\Fil w w' w.heap.size rs.length (bools (fE (aj rs))):=by
 have HS:=aC hs;have HL:=aC hl;have HK:=aC hk;clear hs hl hk;obtain⟨inf,hi,hz0,hz1,hz2⟩:=info_parts Ao;go_enter func176,ntmps176;go_wp2_with(at_make;refine wpList_make_full _ rfl _ _ 279 rfl w.heap.size 4 inf (.bool false) 1 underlying279 hi hz0 hz1 .i64 .i64 _ _ rs.length rfl rfl rfl rfl (by rw[hz2];omega) (by unfold maxLen;omega) (V4 _) ?_;intro w0 hown0 Zh);have HF0:Hid (Fil w w0 w.heap.size rs.length (bools (List.replicate rs.length false))):=by
  have:=Dk (v:=.bool false) hown0 Zh;show Fil _ _ _ _ _;simpa[bools] using this
 clear hown0 Zh hi hz0 hz1 hz2;go_loopw[4] (fun i wr=>∃(m:Nat) (out:List Bool),m<=rs.length/\i=.int .i64 ((m:Int)-1)/\out.length=rs.length/\Hid (iG (aj rs) m out=fE (aj rs))/\Hid (Fil w wr w.heap.size rs.length (bools out))) (fun i _=>(intOf i+1).toNat);case atStart=>exact⟨rs.length,List.replicate rs.length false,V4 _,by go_num,by simp,(by show _=_;unfold fE;rw[bf]),HF0⟩
 obtain⟨m,out,hm,rfl,hol,HN,HF⟩:=hrel;by_cases hm0:0<m
 ·obtain⟨m,rfl⟩:∃m',m=m'+1:=⟨m-1,by omega⟩;have hmi:(((m+1:Nat):Int)-1)=(m:Int):=by omega
  rw[hmi];have hlt:m<rs.length:=by omega
  rcases HS.out.below HF.out.below with rfl|⟨b,off,rfl,hb,hr,hok⟩
  ·simp at hlt
  obtain⟨t0,t1,t2,t3,t4⟩:=hr m hlt;have Yk:Hid (rs[m].ok _):=hok rs[m] (VZ hlt);have lg:=(HL.out rs[m] (VZ hlt)).2;have HKI:Hid (eH rs.length rs[m].e.kids):=HK.out rs[m] (VZ hlt);have hk1:=bC m;have hk2:(m:Int)<(rs.length:Int):=by omega
  have hbw:b<w.heap.size:=by
   rcases HS.out with h|⟨b',off',h1,h2,-⟩
   ·rw[h]at hlt;simp at hlt
   injection h1 with h1;injection h1 with h1;omega
  have HR:Hid (yQ wr b (off+m*5) rs[m]):=hr m hlt;have HNX:Hid (iG (aj rs) m (cZ m rs[m].e.kind rs[m].e.kids 0 out)=fE (aj rs)):=by
   show _=_;rw[<-HN.out,Ap _ _ _ (by rw[bf];exact hlt)];simp[aj]
  clear hr hok t0 t1 t2 t3;go_wp2_with fail;clear t4;go_loopw[23] (fun i w2=>∃(j:Nat) (Xy:List Bool),j<=rs[m].e.kids.length/\i=.int .i64 j/\Xy.length=rs.length/\Hid (cZ m rs[m].e.kind (rs[m].e.kids.drop j) j Xy=cZ m rs[m].e.kind rs[m].e.kids 0 out)/\Hid (Fil w w2 w.heap.size rs.length (bools Xy))) (fun i _=>rs[m].e.kids.length-(intOf i).toNat);case atStart=>exact⟨0,out,Wd _,rfl,hol,rfl,HF⟩
  obtain⟨j,Xy,hj,rfl,ho2,HJ,Yd⟩:=hrel;have hE2:jv wr _ rs:=HS.out.below Yd.out.below;have ht:yQ wr b (off+m*5) rs[m]:=by
   rcases hE2 with h|⟨b',off',h1,h2,h3,-⟩
   ·exact absurd hlt (by rw[h];simp)
   injection h1 with h1;injection h1 with h1 h1';subst h1;subst h1';exact h3 m hlt
  obtain⟨t0,t1,t2,t3,t4⟩:=ht;by_cases hjl:j<rs[m].e.kids.length
  ·have hK2:wS wr rs[m].adK rs[m].e.kids:=(hE2.mem (VZ hlt)).2;rcases hK2 with hnil|⟨ba,Zf,XZ,hba,hra⟩
   ·rw[hnil]at hjl;simp at hjl
   rw[XZ];have q0:=hra j hjl;have hj1:=bC j;have hj2:(j:Int)<(rs[m].e.kids.length:Int):=by omega
   obtain⟨x0,x1⟩:=HKI.out _ (VZ hjl);obtain⟨x,hx⟩:∃x:Nat,rs[m].e.kids[j]=(x:Int):=⟨rs[m].e.kids[j].toNat,by omega⟩;rw[hx]at q0 x0 x1;have c0:=Yd.out.done m (by simp[bools];omega);have fz:=Yd.out.free;obtain⟨v0,u0⟩:=Option.isSome_iff_exists.mp (Yd.out.there x (by omega));have hbr:b<wr.heap.size:=VY hbw Yd.out.below.size;obtain⟨bo,hbo⟩:∃bo,bo=(bools Xy)[m]'(by simp[bools];omega):=⟨_,rfl⟩;rw[<-hbo]at c0;clear hra XZ hE2 t1 t2 t3;have hm2:m<Xy.length:=by omega
   have hbo1:bo=.bool Xy[m]:=by rw[hbo];simp[bools]
   have hbo':Xy[m]?.getD false=Xy[m]:=by simp[hm2]
   rw[hbo1]at c0;clear hbo hbo1;cases hb0:Xy[m];case true=>
    rw[hb0]at c0 hbo';have Zd:Hid (Fil w (wr.setCell ⟨w.heap.size,x,none⟩ (.bool true)) w.heap.size rs.length (bools (Xy.set x true))):=by show Fil _ _ _ _ _;rw[oL];exact Yd.out.set _ (by simp[bools];omega) (by omega)
    have HJ2:Hid (cZ m rs[m].e.kind (rs[m].e.kids.drop (j+1)) (j+1) (Xy.set x true)=cZ m rs[m].e.kind rs[m].e.kids 0 out):=by
     show _=_;rw[<-HJ.out,jE _ _ _ _ _ hjl,hx];simp[*]
    go_wp2;go_roundw;case rel=>exact⟨j+1,Xy.set x true,by omega,by go_num,by simp[ho2],HJ2,Zd⟩
    simp[intOf]<;>omega
   rw[hb0]at c0 hbo';cases hkb:(rs[m].e.kind==6);case false=>
    have Zd:Hid (Fil w (wr.setCell ⟨w.heap.size,x,none⟩ (.bool false)) w.heap.size rs.length (bools (Xy.set x false))):=by show Fil _ _ _ _ _;rw[oL];exact Yd.out.set _ (by simp[bools];omega) (by omega)
    have HJ2:Hid (cZ m rs[m].e.kind (rs[m].e.kids.drop (j+1)) (j+1) (Xy.set x false)=cZ m rs[m].e.kind rs[m].e.kids 0 out):=by
     show _=_;rw[<-HJ.out,jE _ _ _ _ _ hjl,hx];simp[*]
    go_wp2;go_roundw;case rel=>exact⟨j+1,Xy.set x false,by omega,by go_num,by simp[ho2],HJ2,Zd⟩
    simp[intOf]<;>omega
   cases hjb:((j:Int)==1);case true=>
    have hjn:(j==1)=true:=by simp at hjb⊢;omega
    have Zd:Hid (Fil w (wr.setCell ⟨w.heap.size,x,none⟩ (.bool true)) w.heap.size rs.length (bools (Xy.set x true))):=by show Fil _ _ _ _ _;rw[oL];exact Yd.out.set _ (by simp[bools];omega) (by omega)
    have HJ2:Hid (cZ m rs[m].e.kind (rs[m].e.kids.drop (j+1)) (j+1) (Xy.set x true)=cZ m rs[m].e.kind rs[m].e.kids 0 out):=by
     show _=_;rw[<-HJ.out,jE _ _ _ _ _ hjl,hx];simp[*]
    go_wp2;go_roundw;case rel=>exact⟨j+1,Xy.set x true,by omega,by go_num,by simp[ho2],HJ2,Zd⟩
    simp[intOf]<;>omega
   have hjn:(j==1)=false:=by simp at hjb⊢;omega
   have Zd:Hid (Fil w (wr.setCell ⟨w.heap.size,x,none⟩ (.bool false)) w.heap.size rs.length (bools (Xy.set x false))):=by show Fil _ _ _ _ _;rw[oL];exact Yd.out.set _ (by simp[bools];omega) (by omega)
   have HJ2:Hid (cZ m rs[m].e.kind (rs[m].e.kids.drop (j+1)) (j+1) (Xy.set x false)=cZ m rs[m].e.kind rs[m].e.kids 0 out):=by
    show _=_;rw[<-HJ.out,jE _ _ _ _ _ hjl,hx];simp[*]
   go_wp2;go_roundw;case rel=>exact⟨j+1,Xy.set x false,by omega,by go_num,by simp[ho2],HJ2,Zd⟩
   simp[intOf]<;>omega
  have Zr:Hid (iG (aj rs) m Xy=fE (aj rs)):=by
   show _=_;rw[<-HNX.out,<-HJ.out,Ww (by omega)];rfl
  go_wp2;go_roundw;case rel=>exact⟨m,Xy,by omega,by go_num,ho2,Zr,Yd⟩
  simp[intOf]<;>omega
 obtain rfl:m=0:=by omega
 have ZC:Hid (Fil w wr w.heap.size rs.length (bools (fE (aj rs)))):=by
  show Fil _ _ _ _ _;rw[<-HN.out];exact HF.out
 go_wp2;go_ret;exact⟨rfl,ZC.out⟩
abbrev Ky:=ByteArray×ByteArray
def lookL(E:List (Ky×St))(k:Ky):List St:=E.filterMap fun p=>if p.1=k then some p.2 else none
theorem lookL_append(E F:List (Ky×St))(k:Ky):lookL (E++F) k=lookL E k++lookL F k:=by unfold lookL;rw[List.filterMap_append]
theorem uz(E:List (Ky×St))(k:Ky)(s:St):lookL (E++[(k,s)]) k=lookL E k++[s]:=by rw[lookL_append];simp[lookL]
theorem qN(E:List (Ky×St)){k y:Ky}(s:St)(h:k≠y):lookL (E++[(y,s)]) k=lookL E k:=by rw[lookL_append];simp[lookL,Ne.symm h]
theorem mem_lookL{E:List (Ky×St)}{k:Ky}{s:St}:s∈lookL E k↔(k,s)∈E:=by
 unfold lookL;rw[List.mem_filterMap];constructor
 ·rintro⟨⟨a,b⟩,h1,h2⟩;simp only at h2;split at h2
  ·rename_i e;injection h2 with h2;rw[<-e,<-h2];exact h1
  cases h2
 intro h;exact⟨(k,s),h,by simp⟩
def FreeB(M:Ky->Option Value)(g:Nat):Prop:=∀k v,M k=some v->v.ownBlock≠some g
structure Grp(w:World)(bL n:Nat)(M:Ky->Option Value)(E:List (Ky×St)):Prop where
 map:aN dU prog 151 w bL n M
 row:∀k,(M k=none/\lookL E k=[]) \/ ∃v,M k=some v/\w.ownsRow (bL+1) 278 3 v (lookL E k).length (iL (lookL E k))
 apart:∀k k' v v',k≠k'->M k=some v->M k'=some v'->∀g,v.ownBlock=some g->v'.ownBlock≠some g
theorem Grp.lt{w:ae}{bL n:Nat}{M:Ky->Option Value}{E:List (Ky×St)}(h:Grp w bL n M E){k:Ky}{v:Value}(hk:M k=some v){g:Nat}(hg:v.ownBlock=some g):bL<g/\g<w.heap.size:=by
 rcases h.row k with⟨e,-⟩|⟨v',e,ho⟩
 ·rw[e]at hk;cases hk
 rw[e]at hk;injection hk with hk;subst hk;have:=ho.lt g hg;exact⟨by omega,this.2⟩
theorem Grp.fresh{w:ae}{bL n:Nat}{M:Ky->Option Value}{E:List (Ky×St)}(h:Grp w bL n M E){g:Nat}(hg:w.heap.size<=g):FreeB M g:=fun k v hk e=>by
 have:=(h.lt hk e).2;omega
theorem Grp.mono{w:ae}{bL n n':Nat}{M:Ky->Option Value}{E:List (Ky×St)}(h:Grp w bL n M E)(hn:n<=n'):Grp w bL n' M E:=⟨h.map.mono hn,h.row,h.apart⟩
theorem Grp.below{w w':ae}{bL n:Nat}{M:Ky->Option Value}{E:List (Ky×St)}(h:Grp w bL n M E)(hB:af w w'):Grp w' bL n M E where
 map:=h.map.below hB
 row k:=by
  rcases h.row k with e|⟨v,e,ho⟩
  ·exact .inl e
  exact .inr ⟨v,e,own_below ho hB⟩
 apart:=h.apart
theorem grp_made(w:ae):Grp (w.alloc (.map #[] 0)) w.heap.size 0 (fun _=>none) [] where
 map:=lX _ _ _ w
 row k:=.inl ⟨rfl,rfl⟩
 apart k k' v v' _ h:=by cases h
structure Stl(W:World)(M:Ky->Option Value)(w2:World)(M2:Ky->Option Value)(bL:Nat):Prop where
 size:W.heap.size<=w2.heap.size
 block:∀g,g<W.heap.size->g≠bL->FreeB M g->w2.heap[g]?=W.heap[g]?
 free:∀g,g<W.heap.size->FreeB M g->FreeB M2 g
theorem Stl.refl(W:ae)(M:Ky->Option Value)(bL:Nat):Stl W M W M bL:=⟨V4 _,fun _ _ _ _=>rfl,fun _ _ h=>h⟩
theorem Stl.trans{W w2 w3:ae}{M M2 M3:Ky->Option Value}{bL:Nat}(h:Stl W M w2 M2 bL)(h2:Stl w2 M2 w3 M3 bL):Stl W M w3 M3 bL where
 size:=Wh h.size h2.size
 block g hg hb hf:=(h2.block g (VY hg h.size) hb (h.free g hg hf)).trans (h.block g hg hb hf)
 free g hg hf:=h2.free g (VY hg h.size) (h.free g hg hf)
theorem Stl.below{W w2:ae}{M:Ky->Option Value}{bL:Nat}(hB:af W w2):Stl W M w2 M bL:=⟨hB.size,fun g hg _ _=>hB.block g hg,fun _ _ h=>h⟩
structure Cel(w:World)(M:Ky->Option Value)(bL g o:Nat)(u:Value):Prop where
 cell:w.cell? ⟨g,o,none⟩=some u
 lt:g<w.heap.size
 free:FreeB M g
 ne:g≠bL
theorem Cel.stl{w w2:ae}{M M2:Ky->Option Value}{bL g o:Nat}{u:Value}(h:Cel w M bL g o u)(hS:Stl w M w2 M2 bL):Cel w2 M2 bL g o u where
 cell:=(Wt (w:=w) (hS.block g h.lt h.ne h.free)).trans h.cell
 lt:=VY h.lt hS.size
 free:=hS.free g h.lt h.free
 ne:=h.ne
theorem Grp.step{W0 w1 w2 w3:ae}{bL n:Nat}{M:Ky->Option Value}{E:List (Ky×St)}{y:Ky}{v':Value}{s:St}(h:Grp W0 bL n M E)(hg1:W0.grownBy w1 (some bL))(hown:w2.ownsRow (bL+1) 278 3 v' ((lookL E y).length+1) (iL (lookL E y)++s.cells))
  (hg2:w1.grownBy w2 ((M y).getD (.slice none 0 0)).ownBlock) (hloc:v'.ownBlock=((M y).getD (.slice none 0 0)).ownBlock\/v'.ownBlock=some w1.heap.size) (hg3:w2.grownBy w3 (some bL)) (hM:aN dU prog 151 w3 bL (n+1) (lQ M y (some v'))) :
  Grp w3 bL (n+1) (lQ M y (some v')) (E++[(y,s)])/\Stl W0 M w3 (lQ M y (some v')) bL:=by
 have hrow0:∀k v,M k=some v->∃xs m,W0.ownsRow (bL+1) 278 3 v m xs:=fun k v hk=>by
  rcases h.row k with⟨e,-⟩|⟨v1,e,ho⟩
  ·rw[e]at hk;cases hk
  rw[e]at hk;injection hk with hk;subst hk;exact⟨_,_,ho⟩
 have hne2:∀k v,k≠y->M k=some v->v.ownBlock=none\/v.ownBlock≠((M y).getD (.slice none 0 0)).ownBlock:=fun k v hky hk=>by
  cases e:v.ownBlock with
  | none=>exact .inl rfl
  | some g =>
   right;cases ey:M y with
   | none=>simp[Value.ownBlock]
   | some vy=>intro e2;exact h.apart k y v vy hky hk ey g e (by simpa using e2.symm)
 have hnb:∀v,(∃k,M k=some v)->v.ownBlock=none\/v.ownBlock≠some bL:=fun v ⟨k,hk⟩=>by
  cases e:v.ownBlock with
  | none=>exact .inl rfl
  | some g=>right;have:=(h.lt hk e).1;intro e2;injection e2 with e2;omega
 have hnew:∀g,v'.ownBlock=some g->bL<g:=fun g e=>by have:=(hown.lt g e).1;omega
 have hv'b:v'.ownBlock=none\/v'.ownBlock≠some bL:=by
  cases e:v'.ownBlock with
  | none=>exact .inl rfl
  | some g=>right;have:=hnew g e;intro e2;injection e2 with e2;omega
 constructor
 ·refine⟨hM,fun k=>?_,fun k k' v u hkk hk hk' g e=>?_⟩
  ·by_cases ek:k=y
   ·subst ek;rw[dY,uz];refine .inr ⟨v',rfl,?_⟩;rw[Av,Wi];exact hown.kept hg3 hv'b
   rw[cu ek,qN _ _ ek];rcases h.row k with e|⟨v,e,ho⟩
   ·exact .inl e
   exact .inr ⟨v,e,((ho.kept hg1 (hnb v ⟨k,e⟩)).kept hg2 (hne2 k v ek e)).kept hg3 (hnb v ⟨k,e⟩)⟩
  by_cases ek:k=y
  ·subst ek;rw[dY]at hk;injection hk with hk;subst hk;rw[cu (Ne.symm hkk)]at hk';intro e2;rcases hloc with el|el
   ·rw[e]at el;cases ey:M k with
    | none=>rw[ey]at el;simp[Value.ownBlock]at el
    | some vy=>rw[ey]at el;exact h.apart k k' vy u hkk ey hk' g (by simpa using el.symm) e2
   rw[e]at el;injection el with el;have:=(h.lt hk' e2).2;have:=hg1.size;omega
  rw[cu ek]at hk;by_cases ek':k'=y
  ·subst ek';rw[dY]at hk';injection hk' with hk';subst hk';intro e2;rcases hloc with el|el
   ·rw[e2]at el;cases ey:M k' with
    | none=>rw[ey]at el;simp[Value.ownBlock]at el
    | some vy=>rw[ey]at el;exact h.apart k k' v vy hkk hk ey g e (by simpa using el.symm)
   rw[e2]at el;injection el with el;have:=(h.lt hk e).2;have:=hg1.size;omega
  rw[cu ek']at hk';exact h.apart k k' v u hkk hk hk' g e
 refine⟨Wh hg1.size (Wh hg2.size hg3.size),fun g hg hb hf=>?_,fun g hg hf k v hk=>?_⟩
 ·have h1:=hg1.block g hg (fun e=>hb (by injection e));have h2:=hg2.block g (VY hg hg1.size) (fun e=>by
   cases ey:M y with
   | none=>rw[ey]at e;simp[Value.ownBlock]at e
   | some vy=>rw[ey]at e;exact hf y vy ey (by simpa using e.symm))
  have h3:=hg3.block g (VY hg (Wh hg1.size hg2.size)) (fun e=>hb (by injection e));rw[h3,h2,h1]
 by_cases ek:k=y
 ·subst ek;rw[dY]at hk;injection hk with hk;subst hk;intro e2;rcases hloc with el|el
  ·rw[e2]at el;cases ey:M k with
   | none=>rw[ey]at el;simp[Value.ownBlock]at el
   | some vy=>rw[ey]at el;exact hf k vy ey (by simpa using el.symm)
  rw[e2]at el;injection el with el;have:=hg1.size;omega
 rw[cu ek]at hk;exact hf k v hk
end Go.Proofs.YtcgdckphpjfmhaaGreatDoor
