/- Contract of the document's reader: an item that is a name, or a name over another one. -/
import Derived.Test.YtajkkeikihhejaaGreatSq
import Derived.Test.YtajkkeikihhejaaGreatJ11
import Derived.Test.YtajkkeikihhejaaGreatJ8
import Derived.Test.YtajkkeikihhejaaGreatJ17
import Derived.Test.YtajkkeikihhejaaGreatJ13
open Go.Proofs.Tryz
set_option maxHeartbeats 80000000
namespace Go.Proofs.YtajkkeikihhejaaGreat
set_option maxRecDepth 100000
open Go.ChangeShapes Go.WideShapes Go.ChangeAt Go.RowKit
open Pl
theorem Onl.at_new {R:Nat}{v:Value}{w w':af}(h:Onl R v w w'){X:Nat}(hX:w.heap.size<=X)(o:Nat)(u:Value):Onl R v w (w'.setCell ⟨X,o,none⟩ u) :=
 ⟨h.os,h.tape,h.output,by simpa using h.size,fun k hk h1 h2=>(Below.heap_setCell w' _ _ k (by show k≠X;omega)).trans (h.block k hk h1 h2)⟩
theorem RdC.other {w:af}{R:Nat}{s:ByteArray}{p:Nat}{bad:Bool}{v:Value}(h:RdC w R s p bad v){X:Nat}(hX:X≠R)(o:Nat)(u:Value):RdC (w.setCell ⟨X,o,none⟩ u) R s p bad v :=
 ⟨by simpa using h.lt,by rw [Uy (w:=w) (Below.heap_setCell w _ _ R (Ne.symm hX))];exact h.c0,by rw [Uy (w:=w) (Below.heap_setCell w _ _ R (Ne.symm hX))];exact h.c1,by rw [Uy (w:=w) (Below.heap_setCell w _ _ R (Ne.symm hX))];exact h.c2,by rw [Uy (w:=w) (Below.heap_setCell w _ _ R (Ne.symm hX))];exact h.c3,fun j=>by simpa using h.fr j⟩
theorem RdC.below {w w':af}{R:Nat}{s:ByteArray}{p:Nat}{bad:Bool}{v:Value}(h:RdC w R s p bad v)(hb:ag w w'):RdC w' R s p bad v :=
 h.grown (row:=none) ⟨hb.os,hb.tape,hb.output,hb.size,fun k hk _=>hb.block k hk⟩ (by simp)
theorem yo.below {w w':af}{g:Nat}{q:ER}(h:yo w g q)(hb:ag w w'):yo w' g q :=
 h.grown (row:=none) ⟨hb.os,hb.tape,hb.output,hb.size,fun k hk _=>hb.block k hk⟩ (by simp)
def bare (k:Int)(o n:ByteArray):ER:=⟨⟨k,[],o,n,[]⟩,none,0,none,0⟩
theorem jX (k:Int)(o n:bI)(g:Nat):¬ oM (bare k o n) g:=by
 rintro (⟨h,-⟩|⟨h,-⟩) <;> exact h rfl
theorem vw (k:Int)(o n:bI)(X:Nat)(w:af):NewQ X w (bare k o n) :=
 ⟨fun h=>absurd rfl h,fun h=>absurd rfl h,⟨.inl rfl,.inl rfl⟩,fun g h=>absurd h (jX k o n g),fun g h=>absurd (Or.inl h) (jX k o n g),Ue _⟩
theorem OI (w:af)(k:Int)(o n:bI):yo (w.alloc (.cells #[.int .i64 k,.slice none 0 0,.string o,.string n,.slice none 0 0] 39)) w.heap.size (bare k o n):=by
 refine ⟨?_,?_,?_,?_,?_,?_⟩ <;> simp [bare]
theorem OJ {w:af}{X:Nat}{a0 a1 a2 a3 a4:Value}(h0:w.cell? ⟨X,0,none⟩=some a0)(h1:w.cell? ⟨X,1,none⟩=some a1)(h2:w.cell? ⟨X,2,none⟩=some a2)(h3:w.cell? ⟨X,3,none⟩=some a3)(h4:w.cell? ⟨X,4,none⟩=some a4)(hl:X<w.heap.size)(k:Int)(o n:bI) :
  yo (((((w.setCell ⟨X,0,none⟩ (.int .i64 k)).setCell ⟨X,1,none⟩ (.slice none 0 0)).setCell ⟨X,2,none⟩ (.string o)).setCell ⟨X,3,none⟩ (.string n)).setCell ⟨X,4,none⟩ (.slice none 0 0)) X (bare k o n):=by
 refine ⟨?_,?_,?_,?_,?_,by simpa using hl⟩
 ·rw [mO (by omega),mO (by omega),mO (by omega),mO (by omega)];exact mS h0
 ·rw [mO (by omega),mO (by omega),mO (by omega)];exact mS (by rw [mO (by omega)];exact h1)
 ·rw [mO (by omega),mO (by omega)];exact mS (by rw [mO (by omega),mO (by omega)];exact h2)
 ·rw [mO (by omega)];exact mS (by rw [mO (by omega),mO (by omega),mO (by omega)];exact h3)
 exact mS (by rw [mO (by omega),mO (by omega),mO (by omega),mO (by omega)];exact h4)
def VB (l:List Value)(R:Nat)(s:ByteArray)(p:Nat)(bad:Bool)(v:Value)(k:Nat)(u:Value)(w':World):Prop:=u=l.getD k undef/\(k=3->RdC w' R s p bad v)
structure GB (R:Nat)(s:ByteArray)(p:Nat)(bad:Bool)(v:Value)(X:Nat)(q:ER)(w:World)(listed:Array Bool)(w':World):Prop where
 rd:listed.getD 3 false=false->RdC w' R s p bad v
 box:yo w' X q
 onl:Onl R nY w w'
 fr:gY w' X
theorem GB.step {R:Nat}{s:ByteArray}{p:Nat}{bad:Bool}{v:Value}{X:Nat}{q:ER}{w w':af}{listed:Array Bool}(h:GB R s p bad v X q w listed w'){i:Nat}(hls:listed.size=6)(h3:i≠3):GB R s p bad v X q w (listed.setIfInBounds i true) w' :=
 ⟨fun k=>h.rd (by
  by_cases hi:i<6
  ·rw [aQ _ _ _ (by omega),if_neg (Ne.symm h3)]at k;exact k
  rw [show listed.setIfInBounds i true=listed by rw [Array.setIfInBounds_eq_of_size_le (by omega)]]at k;exact k),h.box,h.onl,h.fr⟩
theorem GB.called {R:Nat}{s:ByteArray}{p:Nat}{bad:Bool}{v:Value}{X:Nat}{q:ER}{w w' w'':af}{listed:Array Bool}(h:GB R s p bad v X q w listed w')(hls:listed.size=6)(hg:w'.grownBy w'' (some R))(hX:X≠R):GB R s p bad v X q w (listed.setIfInBounds 3 true) w'' :=
 ⟨fun k=>(by rw [aQ _ _ _ (by omega),if_pos rfl]at k;cases k),h.box.grown hg (by intro e;injection e with e;exact hX e),h.onl.trans0 (Onl.of_grown hg),di h.fr (hg.block X h.box.2.2.2.2.2 (by intro e;injection e with e;exact hX e))⟩
theorem OL {s:ByteArray}{st:RS}(h:mP s oQ (st.p+au s st.p) st.bad=false):eZ s st=⟨2,[],⟨#[]⟩,ay s st.p,[]⟩/\aJ s st=⟨st.p+au s st.p,st.bad,st.out⟩:=by
 have e:kZ s oQ (bB s st)=false:=h;exact ⟨by unfold eZ;rw [e];rfl,by unfold aJ;rw [e];rfl⟩
theorem LH {s:ByteArray}{st:RS}(h:mP s oQ (st.p+au s st.p) st.bad=true):eZ s st=⟨3,[],ay s st.p,ay s (st.p+au s st.p+2),[]⟩/\aJ s st=⟨st.p+au s st.p+2+au s (st.p+au s st.p+2),st.bad,st.out⟩:=by
 have e:kZ s oQ (bB s st)=true:=h;exact ⟨by unfold eZ;rw [e];rfl,by unfold aJ;rw [e];rfl⟩
theorem LJ (R:Nat)(s:bI)(st:RS)(base:Nat)(v:Value)(qs:List ER)(w:af)(h:RdF w R s st base v qs)(hR:R<base)(hB:base<=w.heap.size)(hs:s.size<=1000)(hp:st.p<=s.size)(hn:qs.length<=100000)
  (h0:mP s fP st.p st.bad=false) (h1:mP s jA st.p st.bad=false) :
  Calls prog 234 #[.pointer (some ⟨R,0,none⟩)] w (uQ R s base v qs w ((st.out.length:Int),rX (eZ s st) (judged (eZ s st) (aJ s st)))):=by
 have H:=ai h;have HP:=ai hp;clear h hp;go_enter func234,ntmps234;go_wp2_with fail;refine (lX R s fP st.p st.bad v w H.out.rd hs HP.out (by decide)).mono ?_;rintro e w1 ⟨rfl,hr1,hg1⟩;have VJ:=ai (H.out.is_no hR h0 hr1 hg1);have U7:=ai (Onl.of_grown hg1);rw [h0];clear hr1 hg1 h0;go_wp2_with fail;refine (lX R s jA st.p st.bad v w1 VJ.out.rd hs HP.out (by decide)).mono ?_;rintro e w2 ⟨rfl,hr2,hg2⟩;have VV:=ai (VJ.out.is_no hR h1 hr2 hg2);have UN:=ai (U7.out.trans0 (Onl.of_grown hg2));rw [h1];clear hr2 hg2 h1 VJ U7;go_wp2_with fail;refine (uG R s st.p st.bad v w2 VV.out.rd hs HP.out).mono ?_;rintro e w3 ⟨rfl,hr3,hg3⟩;have Zw:=ai (VV.out.over hR (Onl.of_grown hg3) hr3);have U9:=ai (UN.out.trans0 (Onl.of_grown hg3));have HP3:=ai (ko s st.p HP.out);have XU:=ai (zf s st.p HP.out);clear hr3 hg3 VV UN;obtain ⟨W4,Wi⟩:∃ W4,W4=w3.alloc (.cells #[.int .i64 2,.slice none 0 0,.string ⟨#[]⟩,.string (ay s st.p),.slice none 0 0] 39):=⟨_,rfl⟩;have HV4:Hid (yo W4 w3.heap.size (bare 2 ⟨#[]⟩ (ay s st.p))):=by rw [Wi];exact OI w3 2 ⟨#[]⟩ (ay s st.p)
 have HO4a:Hid (Onl R nY w3 W4):=by rw [Wi];exact Onl.of_below ((Uf _ _).alloc (Ue _) _)
 have WK:Hid (RdF W4 R s ⟨st.p+au s st.p,st.bad,st.out⟩ base v qs):=Zw.out.over hR HO4a.out (by rw [Wi];exact Zw.out.rd.below ((Uf _ _).alloc (Ue _) _));have U4:=ai (U9.out.trans0 HO4a.out);have HFR4:Hid (gY W4 w3.heap.size):=fun y=>by rw [Wi];simp
 have XB:Hid (w3.heap.size≠R):=by have:=Zw.out.rd.lt;show _≠_;omega
 have HX0:Hid (w.heap.size<=w3.heap.size):=U9.out.size;have HX3:Hid (w3.heap.size<=w3.heap.size):=Ue _;go_wp2_with fail;rw [<-Wi];clear Wi;obtain ⟨X,hX⟩:∃ X,X=w3.heap.size:=⟨_,rfl⟩;rw [<-hX]at HV4 HFR4 XB HX0;replace HX3:Hid (w3.heap.size<=X):=Nat.le_of_eq hX.symm;rw [<-hX];clear hX;refine (lX R s oQ (st.p+au s st.p) st.bad v W4 WK.out.rd hs HP3.out (by decide)).mono ?_;rintro e w5 ⟨rfl,Zk,hg5⟩;have HV5:=ai (HV4.out.grown hg5 (by intro e;injection e with e;exact XB.out e));have HFR5:=ai (di HFR4.out (hg5.block X HV4.out.2.2.2.2.2 (by intro e;injection e with e;exact XB.out e)));have UZ:=ai (U4.out.trans0 (Onl.of_grown hg5));have YY:=ai (HO4a.out.trans0 (Onl.of_grown hg5));cases hc:mP s oQ (st.p+au s st.p) st.bad;case false=>
  have Z8:=ai (WK.out.is_no hR hc Zk hg5);have EQ:=ai (OL hc);clear Zk hg5 hc WK U4 HV4 HFR4;obtain ⟨x0,x1,x2,x3,x4,xl⟩:=HV5.out;replace x0:w5.cell? ⟨X,0,none⟩=some (.int .i64 2):=x0;replace x1:w5.cell? ⟨X,1,none⟩=some (.slice none 0 0):=x1;replace x2:w5.cell? ⟨X,2,none⟩=some (.string ⟨#[]⟩):=x2;replace x3:w5.cell? ⟨X,3,none⟩=some (.string (ay s st.p)):=x3;replace x4:w5.cell? ⟨X,4,none⟩=some (.slice none 0 0):=x4;go_wp2_with fail;refine (l6 (bare 2 ⟨#[]⟩ (ay s st.p)) w5 ⟨fun a ha=>(by cases ha),Ui _,by show (ay s st.p).size<=maxLen;rw [XU.out];have:=HP3.out;unfold maxLen;omega,Ui _,Ui _⟩ (by show (2:Int)≠1;decide)).mono ?_;rintro e w6 ⟨rfl,Yp⟩;have Vw:=ai (UZ.out.trans0 (Onl.of_below Yp));have XV:=ai (Z8.out.over hR (Onl.of_below Yp) (Z8.out.rd.below Yp));obtain ⟨y0,y1,y2,y3,y4,yl⟩:=HV5.out.below Yp;replace y0:w6.cell? ⟨X,0,none⟩=some (.int .i64 2):=y0;replace y1:w6.cell? ⟨X,1,none⟩=some (.slice none 0 0):=y1;replace y2:w6.cell? ⟨X,2,none⟩=some (.string ⟨#[]⟩):=y2;replace y3:w6.cell? ⟨X,3,none⟩=some (.string (ay s st.p)):=y3;replace y4:w6.cell? ⟨X,4,none⟩=some (.slice none 0 0):=y4;clear x0 x1 x2 x3 x4 xl Yp HV5 Z8 UZ;cases hb:av (bare 2 ⟨#[]⟩ (ay s st.p)).e;case true=>
   have HE:Hid (eZ s st=(bare 2 ⟨#[]⟩ (ay s st.p)).e/\judged (eZ s st) (aJ s st)=(⟨st.p+au s st.p,st.bad,st.out⟩:RS)):=by
    refine ⟨EQ.out.1,?_⟩;rw [EQ.out.1,EQ.out.2];exact if_pos hb
   clear hb;go_wp2_with fail;refine (Le R s ((⟨st.p+au s st.p,st.bad,st.out⟩:RS)) base v qs (bare 2 ⟨#[]⟩ (ay s st.p)) w6 XV.out hR (Uk hB Vw.out.size) hn (vw _ _ _ _ _) (.inl ⟨rfl,rfl,rfl⟩) (fun g hg=>absurd hg (jX _ _ _ g))).mono ?_;rintro e w7 ⟨v7,rfl,hF7,WR⟩;have HF7:=ai hF7;have HW7:=ai ((Vw.out.any v).trans WR);clear hF7 WR;go_wp2;exact bodyPost_ret (v:=.int .i64 (st.out.length:Int)) (by simp [results,Tryz.results234,go_sem]) rfl (by rw [HE.out.1,<-HE.out.1,HE.out.2,HE.out.1];exact ⟨v7,[bare 2 ⟨#[]⟩ (ay s st.p)],rfl,HF7.out,HW7.out,fun q hq g hg=>by rw [Uo]at hq;subst hq;exact absurd hg (jX _ _ _ g)⟩)
  have HE:Hid (eZ s st=(bare 2 ⟨#[]⟩ (ay s st.p)).e/\judged (eZ s st) (aJ s st)=uE ((⟨st.p+au s st.p,st.bad,st.out⟩:RS))):=by
   refine ⟨EQ.out.1,?_⟩;rw [EQ.out.1,EQ.out.2];exact if_neg (fun e=>by have:=e.symm.trans hb;cases this)
  clear hb;have c2:=XV.out.rd.c2;have f2:=XV.out.rd.fr 2;have hl:=XV.out.rd.lt;have hxr:=XB.out;have hrx:=Ne.symm XB.out;have Xc:Hid (Onl R nY w (w6.setCell ⟨R,2,none⟩ (.bool true))):=Vw.out.at_own _ _;have HF7:Hid (RdF (w6.setCell ⟨R,2,none⟩ (.bool true)) R s (uE ((⟨st.p+au s st.p,st.bad,st.out⟩:RS))) base v qs):=XV.out.over hR ((Onl.refl R nY w6).at_own _ _) XV.out.rd.hurt;go_wp2_with fail;refine (Le R s (uE ((⟨st.p+au s st.p,st.bad,st.out⟩:RS))) base v qs (bare 2 ⟨#[]⟩ (ay s st.p)) _ HF7.out hR (Uk hB Xc.out.size) hn (vw _ _ _ _ _) (.inl ⟨rfl,rfl,rfl⟩) (fun g hg=>absurd hg (jX _ _ _ g))).mono ?_;rintro e w8 ⟨v8,rfl,hF8,WL⟩;have HF8:=ai hF8;have HW8:=ai ((Xc.out.any v).trans WL);clear hF8 WL;go_wp2;exact bodyPost_ret (v:=.int .i64 (st.out.length:Int)) (by simp [results,Tryz.results234,go_sem,uE]) rfl (by rw [HE.out.1,<-HE.out.1,HE.out.2,HE.out.1];exact ⟨v8,[bare 2 ⟨#[]⟩ (ay s st.p)],rfl,HF8.out,HW8.out,fun q hq g hg=>by rw [Uo]at hq;subst hq;exact absurd hg (jX _ _ _ g)⟩)
 have Z8:=ai (WK.out.is_yes hR hc Zk hg5);have EQ:=ai (LH hc);have HP5:Hid (st.p+au s st.p+2<=s.size):=zM hc;clear Zk hg5 hc WK U4 HV4 HFR4;go_wp2_with fail;refine lY 5 (fun _=>undef) (fun f=>{ tmps:=List.toArray (Value.pointer (some ⟨R,0,none⟩)::undef::.int .i64 0::undef::undef::undef::.pointer (some ⟨X,0,none⟩)::.pointer (some ⟨R,0,none⟩)::.bool false::undef::undef::undef::undef::undef::undef::undef::undef::undef::undef::undef::undef::undef::undef::undef::undef::undef::undef::undef::undef::undef::undef::undef::undef::undef::undef::undef::undef::undef::undef::undef::.pointer (some ⟨R,0,none⟩)::.bool false::undef::undef::undef::undef::undef::undef::undef::undef::undef::.pointer (some ⟨R,0,none⟩)::.string (ay s st.p)::.agg #[.int .i64 2,.slice none 0 0,.string ⟨#[]⟩,.string (ay s st.p),.slice none 0 0]::.pointer (some ⟨R,0,none⟩)::.bool true::f 0::f 1::f 2::f 3::f 4::undef::undef::undef::undef::undef::undef::undef::undef::undef::[]),defers:=[] }) (VB (Value.pointer (some ⟨X,3,none⟩)::.string (ay s st.p)::.pointer (some ⟨R,0,none⟩)::.string (ay s (st.p+au s st.p+2))::.agg #[.int .i64 3,.slice none 0 0,.string (ay s st.p),.string (ay s (st.p+au s st.p+2)),.slice none 0 0]::[]) R s ((st.p+au s st.p+2)+au s (st.p+au s st.p+2)) st.bad v) (GB R s (st.p+au s st.p+2) st.bad v X (bare 2 ⟨#[]⟩ (ay s st.p)) w3) (by kernel_rfl) rfl (by decide +kernel) (by decide +kernel) rfl ⟨fun _=>Z8.out.rd.drewN 1,HV5.out,⟨YY.out.os,YY.out.tape,YY.out.output,YY.out.size,YY.out.block⟩,HFR5.out⟩ ?xR ?finB;case xR =>
  rintro i hi o ho listed f w' hls VC hG hpre;have HG:=ai hG;have HM:Hid (∀ e∈o.after,Region.binds .any e=true->_):=hpre;clear hG hpre;have hc:i=0\/i=1\/i=2\/i=3\/i=4:=by omega
  clear hi
  repeat' rcases hc with rfl|hc
  ·cases ho;have HS:=ai (HG.out.step (i:=0) hls (by decide));refine aa rfl fun K HK=>?_;clear HM;dsimp only;go_simp;exact HK.out _ _ ⟨Value.pointer (some ⟨X,3,none⟩),by simp [upd],HS.out,⟨rfl,fun e=>absurd e (by decide)⟩,fun k u _ hu=>hu⟩
  ·cases ho;have e0:f 0=Value.pointer (some ⟨X,3,none⟩):=(HM.out ⟨0,.data⟩ (by simp) rfl).1;have x3:w'.cell? ⟨X,3,none⟩=some (.string (ay s st.p)):=HG.out.box.2.2.2.1;have HS:=ai (HG.out.step (i:=1) hls (by decide));refine aa rfl fun K HK=>?_;clear HM;simp only [e0];go_simp;exact HK.out _ _ ⟨Value.string (ay s st.p),by simp [upd,e0],HS.out,⟨rfl,fun e=>absurd e (by decide)⟩,fun k u _ hu=>hu⟩
  ·cases ho;have HS:=ai (HG.out.step (i:=2) hls (by decide));refine aa rfl fun K HK=>?_;clear HM;dsimp only;go_simp;exact HK.out _ _ ⟨Value.pointer (some ⟨R,0,none⟩),by simp [upd],HS.out,⟨rfl,fun e=>absurd e (by decide)⟩,fun k u _ hu=>hu⟩
  ·cases ho;have e2:f 2=Value.pointer (some ⟨R,0,none⟩):=(HM.out ⟨2,.data⟩ (by simp) rfl).1;have hrd:=ai (HG.out.rd (Iy VC hls (by omega)));refine aa rfl fun K HK=>?_;clear HM;simp only [e2];go_simp;refine (uG R s (st.p+au s st.p+2) st.bad v w' hrd.out hs HP5.out).mono ?_;rintro e w7 ⟨rfl,hr7,Xd⟩;have HS:=ai (HG.out.called hls Xd XB.out);have HR7:=ai hr7;clear hr7 Xd;go_wp2_with fail;exact HK.out _ _ ⟨Value.string (ay s (st.p+au s st.p+2)),by simp [upd,e2],HS.out,⟨rfl,fun _=>HR7.out⟩,fun k u hk hu=>⟨hu.1,fun e=>absurd e hk⟩⟩
  cases ho;have e1:f 1=Value.string (ay s st.p):=(HM.out ⟨1,.data⟩ (by simp) rfl).1;have e3:f 3=Value.string (ay s (st.p+au s st.p+2)):=(HM.out ⟨3,.data⟩ (by simp) rfl).1;have HS:=ai (HG.out.step (i:=4) hls (by decide));refine aa rfl fun K HK=>?_;clear HM;simp only [e1,e3];go_simp;exact HK.out _ _ ⟨Value.agg #[.int .i64 3,.slice none 0 0,.string (ay s st.p),.string (ay s (st.p+au s st.p+2)),.slice none 0 0],by simp [upd,e1,e3],HS.out,⟨rfl,fun e=>absurd e (by decide)⟩,fun k u _ hu=>hu⟩
 case finB =>
  rintro o ho listed f w' hG hall;obtain rfl:=Option.some.inj ho;have e4:f 4=Value.agg #[.int .i64 3,.slice none 0 0,.string (ay s st.p),.string (ay s (st.p+au s st.p+2)),.slice none 0 0]:=(hall 4 (by omega)).1;have Zr:=ai ((hall 3 (by omega)).2 rfl);have HG:=ai hG;obtain ⟨x0,x1,x2,x3,x4,xl⟩:=hG.box;have f0:=hG.fr 0;have f1:=hG.fr 1;have f2:=hG.fr 2;have f3:=hG.fr 3;have f4:=hG.fr 4;clear ho hall hG;refine wpOp_step rfl (fun K hK=>?_);have HK:Hid (∀ a w,_->K a w):=hK;clear hK;simp only [e4];go_simp;refine HK.out _ _ ?_;clear HK;obtain ⟨wz,hwz⟩:∃ wz,wz=(((((w'.setCell ⟨X,0,none⟩ (.int .i64 3)).setCell ⟨X,1,none⟩ (.slice none 0 0)).setCell ⟨X,2,none⟩ (.string (ay s st.p))).setCell ⟨X,3,none⟩ (.string (ay s (st.p+au s st.p+2)))).setCell ⟨X,4,none⟩ (.slice none 0 0)):=⟨_,rfl⟩;have HO3z:Hid (Onl R nY w3 wz):=by rw [hwz];exact ((((HG.out.onl.at_new HX3.out _ _).at_new HX3.out _ _).at_new HX3.out _ _).at_new HX3.out _ _).at_new HX3.out _ _
  have HRz:Hid (RdC wz R s (st.p+au s st.p+2+au s (st.p+au s st.p+2)) st.bad v):=by rw [hwz];exact ((((Zr.out.other XB.out _ _).other XB.out _ _).other XB.out _ _).other XB.out _ _).other XB.out _ _
  have HVz:Hid (yo wz X (bare 3 (ay s st.p) (ay s (st.p+au s st.p+2)))):=by rw [hwz];exact OJ x0 x1 x2 x3 x4 xl _ _ _
  clear HV5 Z8 UZ YY HFR5;have Z8:=ai (Zw.out.over hR HO3z.out HRz.out);have UZ:=ai (U9.out.trans0 HO3z.out);rw [<-hwz];clear hwz x0 x1 x2 x3 x4 xl f0 f1 f2 f3 f4 e4 HRz HO3z HG Zr;obtain ⟨x0,x1,x2,x3,x4,xl⟩:=HVz.out;replace x0:wz.cell? ⟨X,0,none⟩=some (.int .i64 3):=x0;replace x1:wz.cell? ⟨X,1,none⟩=some (.slice none 0 0):=x1;replace x2:wz.cell? ⟨X,2,none⟩=some (.string (ay s st.p)):=x2;replace x3:wz.cell? ⟨X,3,none⟩=some (.string (ay s (st.p+au s st.p+2))):=x3;replace x4:wz.cell? ⟨X,4,none⟩=some (.slice none 0 0):=x4;go_wp2_with fail;refine (l6 (bare 3 (ay s st.p) (ay s (st.p+au s st.p+2))) wz ⟨fun a ha=>(by cases ha),by show (ay s st.p).size<=maxLen;rw [XU.out];have:=HP3.out;unfold maxLen;omega,by show (ay s (st.p+au s st.p+2)).size<=maxLen;rw [zf s _ HP5.out];have:=ko s _ HP5.out;unfold maxLen;omega,Ui _,Ui _⟩ (by show (3:Int)≠1;decide)).mono ?_;rintro e w6 ⟨rfl,Yp⟩;have Vw:=ai (UZ.out.trans0 (Onl.of_below Yp));have XV:=ai (Z8.out.over hR (Onl.of_below Yp) (Z8.out.rd.below Yp));obtain ⟨y0,y1,y2,y3,y4,yl⟩:=HVz.out.below Yp;replace y0:w6.cell? ⟨X,0,none⟩=some (.int .i64 3):=y0;replace y1:w6.cell? ⟨X,1,none⟩=some (.slice none 0 0):=y1;replace y2:w6.cell? ⟨X,2,none⟩=some (.string (ay s st.p)):=y2;replace y3:w6.cell? ⟨X,3,none⟩=some (.string (ay s (st.p+au s st.p+2))):=y3;replace y4:w6.cell? ⟨X,4,none⟩=some (.slice none 0 0):=y4;clear x0 x1 x2 x3 x4 xl Yp HVz Z8 UZ;cases hb:av (bare 3 (ay s st.p) (ay s (st.p+au s st.p+2))).e;case true=>
   have HE:Hid (eZ s st=(bare 3 (ay s st.p) (ay s (st.p+au s st.p+2))).e/\judged (eZ s st) (aJ s st)=(⟨st.p+au s st.p+2+au s (st.p+au s st.p+2),st.bad,st.out⟩:RS)):=by
    refine ⟨EQ.out.1,?_⟩;rw [EQ.out.1,EQ.out.2];exact if_pos hb
   clear hb;go_wp2_with fail;refine (Le R s ((⟨st.p+au s st.p+2+au s (st.p+au s st.p+2),st.bad,st.out⟩:RS)) base v qs (bare 3 (ay s st.p) (ay s (st.p+au s st.p+2))) w6 XV.out hR (Uk hB Vw.out.size) hn (vw _ _ _ _ _) (.inl ⟨rfl,rfl,rfl⟩) (fun g hg=>absurd hg (jX _ _ _ g))).mono ?_;rintro e w7 ⟨v7,rfl,hF7,WR⟩;have HF7:=ai hF7;have HW7:=ai ((Vw.out.any v).trans WR);clear hF7 WR;go_wp2;exact bodyPost_ret (v:=.int .i64 (st.out.length:Int)) (by simp [results,Tryz.results234,go_sem]) rfl (by rw [HE.out.1,<-HE.out.1,HE.out.2,HE.out.1];exact ⟨v7,[bare 3 (ay s st.p) (ay s (st.p+au s st.p+2))],rfl,HF7.out,HW7.out,fun q hq g hg=>by rw [Uo]at hq;subst hq;exact absurd hg (jX _ _ _ g)⟩)
  have HE:Hid (eZ s st=(bare 3 (ay s st.p) (ay s (st.p+au s st.p+2))).e/\judged (eZ s st) (aJ s st)=uE ((⟨st.p+au s st.p+2+au s (st.p+au s st.p+2),st.bad,st.out⟩:RS))):=by
   refine ⟨EQ.out.1,?_⟩;rw [EQ.out.1,EQ.out.2];exact if_neg (fun e=>by have:=e.symm.trans hb;cases this)
  clear hb;have c2:=XV.out.rd.c2;have f2:=XV.out.rd.fr 2;have hl:=XV.out.rd.lt;have hxr:=XB.out;have hrx:=Ne.symm XB.out;have Xc:Hid (Onl R nY w (w6.setCell ⟨R,2,none⟩ (.bool true))):=Vw.out.at_own _ _;have HF7:Hid (RdF (w6.setCell ⟨R,2,none⟩ (.bool true)) R s (uE ((⟨st.p+au s st.p+2+au s (st.p+au s st.p+2),st.bad,st.out⟩:RS))) base v qs):=XV.out.over hR ((Onl.refl R nY w6).at_own _ _) XV.out.rd.hurt;go_wp2_with fail;refine (Le R s (uE ((⟨st.p+au s st.p+2+au s (st.p+au s st.p+2),st.bad,st.out⟩:RS))) base v qs (bare 3 (ay s st.p) (ay s (st.p+au s st.p+2))) _ HF7.out hR (Uk hB Xc.out.size) hn (vw _ _ _ _ _) (.inl ⟨rfl,rfl,rfl⟩) (fun g hg=>absurd hg (jX _ _ _ g))).mono ?_;rintro e w8 ⟨v8,rfl,hF8,WL⟩;have HF8:=ai hF8;have HW8:=ai ((Xc.out.any v).trans WL);clear hF8 WL;go_wp2;exact bodyPost_ret (v:=.int .i64 (st.out.length:Int)) (by simp [results,Tryz.results234,go_sem,uE]) rfl (by rw [HE.out.1,<-HE.out.1,HE.out.2,HE.out.1];exact ⟨v8,[bare 3 (ay s st.p) (ay s (st.p+au s st.p+2))],rfl,HF8.out,HW8.out,fun q hq g hg=>by rw [Uo]at hq;subst hq;exact absurd hg (jX _ _ _ g)⟩)
structure PL (w1 wr:World)(R X:Nat)(s:ByteArray)(xs:List Al)(p:Nat)(bad:Bool)(v vA:Value):Prop where
 rd:RdC wr R s p bad v
 onl:Onl R nY w1 wr
 c0:wr.cell? ⟨X,0,none⟩=some (.int .i64 1)
 c1:wr.cell? ⟨X,1,none⟩=some vA
 c2:wr.cell? ⟨X,2,none⟩=some (.string ⟨#[]⟩)
 c3:wr.cell? ⟨X,3,none⟩=some (.string ⟨#[]⟩)
 c4:wr.cell? ⟨X,4,none⟩=some (.slice none 0 0)
 fr:gY wr X
 lt:X<wr.heap.size
 own:wr.ownsRow (X+1) 43 2 vA xs.length (pairs xs)
theorem PL.moved {w1 wr w':af}{R X:Nat}{s:ByteArray}{xs:List Al}{p p':Nat}{bad bad':Bool}{v vA:Value}(h:PL w1 wr R X s xs p bad v vA)(hRX:R<X)(hg:wr.grownBy w' (some R))(hr:RdC w' R s p' bad' v):PL w1 w' R X s xs p' bad' v vA:=by
 have hne:some X≠some R:=by intro e;injection e with e;omega
 refine ⟨hr,h.onl.trans0 (Onl.of_grown hg),hg.cell h.c0 hne,hg.cell h.c1 hne,hg.cell h.c2 hne,hg.cell h.c3 hne,hg.cell h.c4 hne,di h.fr (hg.block X h.lt hne),Uc h.lt hg.size,h.own.kept hg (.inr ?_)⟩;intro e;have:=(h.own.lt R e).1;omega
theorem PL.made {w1 wr:af}{R X:Nat}{s:ByteArray}{xs:List Al}{p:Nat}{bad:Bool}{v vA:Value}(h:PL w1 wr R X s xs p bad v vA)(o:Obj):PL w1 (wr.alloc o) R X s xs p bad v vA:=by
 have hg:=World.grownBy_alloc wr o none;exact ⟨h.rd.grown hg (by simp),h.onl.trans0 (Onl.of_below ((Uf _ _).alloc (Ue _) _)),hg.cell h.c0 (by simp),hg.cell h.c1 (by simp),hg.cell h.c2 (by simp),hg.cell h.c3 (by simp),hg.cell h.c4 (by simp),di h.fr (hg.block X h.lt (by simp)),Uc h.lt hg.size,h.own.alloc o⟩
theorem PL.aset {w1 wr:af}{R X:Nat}{s:ByteArray}{xs:List Al}{p:Nat}{bad:Bool}{v vA:Value}(h:PL w1 wr R X s xs p bad v vA)(hRX:R<X)(h1:w1.heap.size<=X){A:Nat}(hA:X<A)(hv:vA.ownBlock≠some A)(o:Nat)(u:Value):PL w1 (wr.setCell ⟨A,o,none⟩ u) R X s xs p bad v vA:=by
 have hb:∀ k,k≠A->(wr.setCell ⟨A,o,none⟩ u).heap[k]?=wr.heap[k]?:=fun k hk=>Below.heap_setCell wr _ _ k hk;refine ⟨h.rd.other (by omega) _ _,h.onl.at_new (by omega) _ _,?_,?_,?_,?_,?_,di h.fr (hb X (by omega)),by simpa using h.lt,jG h.own fun g hg=>hb g (fun e=>hv (by rw [hg,e]))⟩
 all_goals rw [Uy (w:=wr) (hb X (by omega))]
 ·exact h.c0
 ·exact h.c1
 ·exact h.c2
 ·exact h.c3
 exact h.c4
theorem LM (xs:List Al)(a:Al):pairs (xs++[a])=pairs xs++[.string a.t,.string a.s]:=by simp [pairs]
theorem PL.app {w1 wr w':af}{R X:Nat}{s:ByteArray}{xs:List Al}{p:Nat}{bad:Bool}{v vA vB:Value}(h:PL w1 wr R X s xs p bad v vA)(hRX:R<X)(h1:w1.heap.size<=X)(a:Al)(hown:w'.ownsRow (X+1) 43 2 vB (xs.length+1) (pairs xs++[.string a.t,.string a.s]))(hg:wr.grownBy w' vA.ownBlock):PL w1 (w'.setCell ⟨X,1,none⟩ vB) R X s (xs++[a]) p bad v vB:=by
 have hX:some X≠vA.ownBlock:=fun e=>by have:=(h.own.lt X e.symm).1;omega
 have hR:some R≠vA.ownBlock:=fun e=>by have:=(h.own.lt R e.symm).1;omega
 have ho:Onl R nY w1 w':=⟨hg.os.trans h.onl.os,hg.tape.trans h.onl.tape,hg.output.trans h.onl.output,Uk h.onl.size hg.size,fun k hk h2 h3=>(hg.block k (Uc hk h.onl.size) (fun e=>by have:=(h.own.lt k e.symm).1;omega)).trans (h.onl.block k hk h2 h3)⟩;refine ⟨(h.rd.grown hg hR).other (by omega) _ _,ho.at_new h1 _ _,?_,mS (hg.cell h.c1 hX),?_,?_,?_,fun j=>?_,?_,?_⟩
 ·rw [mO (by omega)];exact hg.cell h.c0 hX
 ·rw [mO (by omega)];exact hg.cell h.c2 hX
 ·rw [mO (by omega)];exact hg.cell h.c3 hX
 ·rw [mO (by omega)];exact hg.cell h.c4 hX
 ·simpa using di h.fr (hg.block X h.lt hX) j
 ·simpa using Uc h.lt hg.size
 rw [LM,Ul,List.length_singleton];exact ownsRow_setCell_below hown (by show X<X+1;omega) _
def wbad (R:Nat)(w:World):Nat:=match w.cell? ⟨R,2,none⟩ with
 | some (.bool true)=>0
 | _=>1
theorem RdC.wbad0 {w:af}{R:Nat}{s:ByteArray}{p:Nat}{v:Value}(h:RdC w R s p true v):wbad R w=0:=by
 simp [Go.Proofs.YtajkkeikihhejaaGreat.wbad,h.c2]
theorem RdC.wbad1 {w:af}{R:Nat}{s:ByteArray}{p:Nat}{v:Value}(h:RdC w R s p false v):wbad R w=1:=by
 simp [Go.Proofs.YtajkkeikihhejaaGreat.wbad,h.c2]
theorem Am (w:af)(a b:bI)(g:Nat)(hg:w.heap.size=g):∀ j u,[Value.string a,.string b][j]?=some u->(w.alloc (.cells #[.string a,.string b] 43)).cell? ((⟨g,0,none⟩:Addr).add j)=some u:=by
 intro j u hu;subst hg;rw [show (⟨w.heap.size,0,none⟩:Addr).add j=⟨w.heap.size,0+j,none⟩ by simp [Addr.add];omega,Uz];have:=World.cell?_alloc_mark w #[.string a,.string b] 43 (0,0) j;rw [this];simpa using hu
def qL (s:ByteArray)(st:RS):Int×RS:=match dF s (s.size+1) [] (j6 fP st) with
 | (some xs,st')=>((st'.out.length:Int),rX ⟨1,xs,⟨#[]⟩,⟨#[]⟩,[]⟩ st')
 | (none,st')=>(0,st')
theorem I4 {s:ByteArray}{st st':RS}{xs:List Al}(h:dF s (s.size+1) [] (j6 fP st)=(some xs,st')):qL s st=((st'.out.length:Int),rX ⟨1,xs,⟨#[]⟩,⟨#[]⟩,[]⟩ st'):=by simp only [qL,h]
theorem I5 {s:ByteArray}{st st':RS}(h:dF s (s.size+1) [] (j6 fP st)=(none,st')):qL s st=(0,st'):=by simp only [qL,h]
theorem I6 (s:bI)(n:Nat)(xs:List Al)(p:Nat)(o:List Ex):dF s n xs ⟨p,true,o⟩=(none,⟨p,true,o⟩):=by
 cases n with
 | zero=>rfl
 | succ n=>rfl
structure PairIs (s:ByteArray)(p:Nat)(o:List Ex)(a:Al)(pb:Nat):Prop where
 a:(⟨ay s p,yn s (bB s ⟨p,false,o⟩)⟩:Al)=a
 b:aW s (bB s ⟨p,false,o⟩)=⟨pb,false,o⟩
theorem LP {s:ByteArray}{p:Nat}{o:List Ex}(h:mP s uD (p+au s p) false=false):PairIs s p o ⟨ay s p,⟨#[]⟩⟩ (p+au s p):=by
 have e:kZ s uD (bB s ⟨p,false,o⟩)=false:=h;exact ⟨by unfold yn;rw [e];rfl,by unfold aW;rw [e];rfl⟩
theorem I7 {s:ByteArray}{p:Nat}{o:List Ex}(h:mP s uD (p+au s p) false=true):PairIs s p o ⟨ay s p,ay s (p+au s p+1)⟩ (p+au s p+1+au s (p+au s p+1)):=by
 have e:kZ s uD (bB s ⟨p,false,o⟩)=true:=h;exact ⟨by unfold yn;rw [e];rfl,by unfold aW;rw [e];rfl⟩
theorem Gi {s:ByteArray}{p pb n:Nat}{o:List Ex}{a:Al}{xs:List Al}(h:PairIs s p o a pb)(h1:mP s fu pb false=true):dF s (n+1) xs ⟨p,false,o⟩=(some (xs++[a]),⟨pb+1,false,o⟩):=by
 have e:kZ s fu ⟨pb,false,o⟩=true:=h1;unfold dF;rw [h.a,h.b,e];rfl
theorem Gj {s:ByteArray}{p pb n:Nat}{o:List Ex}{a:Al}{xs:List Al}(h:PairIs s p o a pb)(h1:mP s fu pb false=false)(h2:mP s lW pb false=true):dF s (n+1) xs ⟨p,false,o⟩=dF s n (xs++[a]) ⟨pb+1,false,o⟩:=by
 have e:kZ s fu ⟨pb,false,o⟩=false:=h1;have e2:kZ s lW ⟨pb,false,o⟩=true:=h2
 conv=>lhs;unfold dF
 rw [h.a,h.b,e,e2];rfl
theorem LQ {s:ByteArray}{p pb n:Nat}{o:List Ex}{a:Al}{xs:List Al}(h:PairIs s p o a pb)(h1:mP s fu pb false=false)(h2:mP s lW pb false=false):dF s (n+1) xs ⟨p,false,o⟩=dF s n (xs++[a]) ⟨pb,true,o⟩:=by
 have e:kZ s fu ⟨pb,false,o⟩=false:=h1;have e2:kZ s lW ⟨pb,false,o⟩=false:=h2
 conv=>lhs;unfold dF
 rw [h.a,h.b,e,e2];rfl
theorem capOf {w:af}{base size n m cap:Nat}{e:TypeId}{ad:Option Addr}{xs:List Value}(h:w.ownsRow base e size (.slice ad n cap) m xs)(hm:m=n:=by rfl):n<=cap:=by
 rcases h.2 with ⟨e1,h0⟩|⟨g,cap',cur,e1,-,-,hnc,-⟩
 ·injection e1 with _ e2 e3;omega
 injection e1 with _ e2 e3;omega
theorem PL.node {w1 wr:af}{R X:Nat}{s:ByteArray}{xs:List Al}{p:Nat}{bad:Bool}{v vA:Value}(h:PL w1 wr R X s xs p bad v vA)(h1:w1.heap.size<=X){base:Nat}(hb:base<=w1.heap.size):∃ ad cap,vA=.slice ad xs.length cap/\NewQ base wr ⟨⟨1,xs,⟨#[]⟩,⟨#[]⟩,[]⟩,ad,cap,none,0⟩/\∀ g,oM ⟨⟨1,xs,⟨#[]⟩,⟨#[]⟩,[]⟩,ad,cap,none,0⟩ g->X<g:=by
 obtain ⟨ad,cap,e,h2,h3,h4⟩:=RH h.own rfl;have hK:∀ g,¬ bK ⟨⟨1,xs,⟨#[]⟩,⟨#[]⟩,[]⟩,ad,cap,none,0⟩ g:=fun g hg=>hg.1 rfl;have hA:∀ g,oM ⟨⟨1,xs,⟨#[]⟩,⟨#[]⟩,[]⟩,ad,cap,none,0⟩ g->X+1<=g/\g<wr.heap.size/\gY wr g:=by
  rintro g (hg|hg)
  ·exact h4 g hg.1 hg.2
  exact absurd hg (hK g)
 refine ⟨ad,cap,e,⟨h3,fun h=>absurd rfl h,⟨h2,.inl rfl⟩,fun g hg=>⟨?_,(hA g hg).2⟩,fun g _ hg=>hK g hg,capOf (e ▸ h.own)⟩,fun g hg=>(hA g hg).1⟩;have:=(hA g hg).1;omega
theorem LU (R:Nat)(s:bI)(st:RS)(base:Nat)(v:Value)(qs:List ER)(w:af)(h:RdF w R s st base v qs)(hR:R<base)(hB:base<=w.heap.size)(hs:s.size<=1000)(hp:st.p<=s.size)(hn:qs.length<=100000)
  (h0:mP s fP st.p st.bad=true) :
  Calls prog 234 #[.pointer (some ⟨R,0,none⟩)] w (uQ R s base v qs w (qL s st)):=by
 obtain ⟨iA,hiA,zA0,zA1,zA2⟩:=info_parts (P:=prog) (e:=43) (z:=.agg #[.string ⟨#[]⟩,.string ⟨#[]⟩]) (size:=2) (bytes:=32) (by kernel_rfl);have YW:Hid (prog.info? 43=some iA/\iA.zero=some (.agg #[.string ⟨#[]⟩,.string ⟨#[]⟩])/\iA.size=2/\iA.bytes=32):=⟨hiA,zA0,zA1,zA2⟩;have H:=ai h;have HP:=ai hp
 have hbad:st.bad=false:=by cases e:st.bad with
  | false=>rfl
  | true=>rw [e]at h0;cases h0
 have HBD:=ai hbad;have HP1:Hid (st.p+5<=s.size):=zM h0;clear h hp hiA zA0 zA1 zA2 hbad;go_enter func234,ntmps234;go_wp2_with fail;refine (lX R s fP st.p st.bad v w H.out.rd hs HP.out (by decide)).mono ?_;rintro e w1 ⟨rfl,hr1,hg1⟩;have VJ:=ai (H.out.is_yes hR h0 hr1 hg1);have U7:=ai (Onl.of_grown hg1);rw [h0];clear hr1 hg1 h0;obtain ⟨W2,hW2⟩:∃ W2,W2=w1.alloc (.cells #[.int .i64 1,.slice none 0 0,.string ⟨#[]⟩,.string ⟨#[]⟩,.slice none 0 0] 39):=⟨_,rfl⟩;have HL2:Hid (PL w1 W2 R w1.heap.size s [] (st.p+5) false v (.slice none 0 0)):=by
  rw [hW2];have hrd:RdC w1 R s (st.p+5) false v:=by have:=VJ.out.rd;rw [show (j6 fP st).bad=false from HBD.out]at this;exact this
  refine ⟨hrd.below ((Uf _ _).alloc (Ue _) _),Onl.of_below ((Uf _ _).alloc (Ue _) _),by simp,by simp,by simp,by simp,by simp,fun j=>by simp,by simp,World.ownsRow_nil _ _ _ _⟩
 have HX0:Hid (w.heap.size<=w1.heap.size):=U7.out.size;have Yq:Hid (R<w1.heap.size):=VJ.out.rd.lt;have XC:Hid (w1.heap.size<=w1.heap.size):=Ue _;go_wp2_with fail;rw [<-hW2];clear hW2;obtain ⟨X,hX⟩:∃ X,X=w1.heap.size:=⟨_,rfl⟩;replace HL2:Hid (PL w1 W2 R X s [] (st.p+5) false v (.slice none 0 0)):=by rw [hX];exact HL2
 replace HX0:Hid (w.heap.size<=X):=by rw [hX];exact HX0
 replace Yq:Hid (R<X):=by rw [hX];exact Yq
 replace XC:Hid (w1.heap.size<=X):=by rw [hX];exact XC
 rw [<-hX];clear hX;go_loopw [14] (fun _ wr=>∃ (n p:Nat) (bad:Bool) (xs:List Al) (vA:Value),Hid (p<=s.size)/\Hid (dF s n xs ⟨p,bad,st.out⟩=dF s (s.size+1) [] (j6 fP st))/\Hid (bad=false->s.size-p<n/\xs.length+5<=p)/\Hid (PL w1 wr R X s xs p bad v vA)) (fun _ wr=>s.size-wat R wr+wbad R wr);case atStart=>exact ⟨s.size+1,st.p+5,false,[],.slice none 0 0,HP1.out,by show _=_;unfold j6;rw [HBD.out];rfl,fun _=>⟨by omega,by simp⟩,HL2.out⟩
 obtain ⟨n,p,bad,xs,vA,HPL,HPP,HLN,HL⟩:=hrel;clear HL2;have r2:=HL.out.rd.c2;have rl:=HL.out.rd.lt;cases bad;case true=>
  have EQ:=ai (I5 (HPP.out.symm.trans (I6 s n xs p st.out)));have HF:=ai (VJ.out.over hR HL.out.onl HL.out.rd);have HO:=ai (U7.out.trans0 HL.out.onl);go_wp2;exact bodyPost_ret (v:=.int .i64 0) (by simp [results,Tryz.results234,go_sem]) rfl (by rw [EQ.out];exact ⟨v,[],rfl,by rw [List.append_nil];exact HF.out,HO.out.any v,fun q hq=>by cases hq⟩)
 obtain ⟨m,hm⟩:∃ m,n=m+1:=⟨n-1,by have:=(HLN.out rfl).1;omega⟩;subst hm;have HPW:=ai (ko s p HPL.out);have HLN1:=ai (HLN.out rfl).1;have HLN2:=ai (HLN.out rfl).2;clear HLN;go_wp2_with fail;refine (uG R s p false v wr HL.out.rd hs HPL.out).mono ?_;rintro e w4 ⟨rfl,hr4,hg4⟩;have HL4:=ai (HL.out.moved Yq.out hg4 hr4);have HPLC:=ai HL.out.rd.place;have HPLB:=ai HL.out.rd.wbad1;clear hr4 hg4 HL r2 rl;obtain ⟨W5,Vr⟩:∃ W5,W5=w4.alloc (.cells #[.string (ay s p),.string ⟨#[]⟩] 43):=⟨_,rfl⟩;have HL5:Hid (PL w1 W5 R X s xs (p+au s p) false v vA):=by rw [Vr];exact HL4.out.made _
 have HA0:Hid (W5.cell? ⟨w4.heap.size,0,none⟩=some (.string (ay s p))):=by show _=_;rw [Vr];simp
 have HA1:Hid (W5.cell? ⟨w4.heap.size,1,none⟩=some (.string ⟨#[]⟩)):=by show _=_;rw [Vr];simp
 have HAF:Hid (gY W5 w4.heap.size):=fun j=>by rw [Vr];simp
 have U2:Hid (w4.heap.size<W5.heap.size):=by show _<_;rw [Vr];simp
 have HAX:Hid (X<w4.heap.size):=HL4.out.lt;have HAV:Hid (vA.ownBlock≠some w4.heap.size):=fun e=>by have:=(HL4.out.own.lt _ e).2;omega
 go_wp2_with fail;rw [<-Vr];clear Vr;obtain ⟨A,hA⟩:∃ A,A=w4.heap.size:=⟨_,rfl⟩;rw [<-hA]at HA0 HA1 HAF U2 HAX HAV;rw [<-hA];clear hA HL4;refine (lX R s uD (p+au s p) false v W5 HL5.out.rd hs HPW.out (by decide)).mono ?_;rintro e w6 ⟨rfl,Ww,Yk⟩;have Z7:Hid (some A≠some R):=by intro e;injection e with e;have:=Yq.out;have:=HAX.out;omega
 have HB0:=ai (Yk.cell HA0.out Z7.out);have HB1:=ai (Yk.cell HA1.out Z7.out);have HBF:=ai (di HAF.out (Yk.block A U2.out Z7.out));have YG:=ai (Uc U2.out Yk.size);cases hc:mP s uD (p+au s p) false
 case' false =>
  rw [zg hc]at Ww;have HL6:=ai (HL5.out.moved Yq.out Yk Ww);have PI:=ai (LP (o:=st.out) hc);have HPB:=HPW;have HPG:Hid (p<=p+au s p):=Nat.le_add_right _ _;clear Ww Yk hc HL5 HA0 HA1 HAF U2;have a0:=HB0.out;have a1:=HB1.out;have k1:=HL6.out.c1;obtain ⟨W9,YH⟩:∃ W9,W9=w6.alloc (.cells #[.string (ay s p),.string ((⟨#[]⟩:ByteArray))] 43):=⟨_,rfl⟩;have Xm:Hid (PL w1 W9 R X s xs (p+au s p) false v vA):=by rw [YH];exact HL6.out.made _
  have WB:Hid (∀ j u,[Value.string (ay s p),.string ((⟨#[]⟩:ByteArray))][j]?=some u->W9.cell? ((⟨w6.heap.size,0,none⟩:Addr).add j)=some u):=by rw [YH];exact Am w6 _ _ _ (rfl)
  have Zx:Hid (X+1<=W9.heap.size):=Xm.out.lt;have hxs:xs.length<=1000:=by have:=HLN2.out;have:=HPL.out;omega
  go_wp2_with (at_builtin;rw [<-YH];clear YH;refine wpList_append_own _ rfl _ _ 36 rfl (X+1) 43 iA (.agg #[.string ⟨#[]⟩,.string ⟨#[]⟩]) 2 32 underlying36 YW.out.1 YW.out.2.1 YW.out.2.2.1 YW.out.2.2.2 rfl (by decide) vA xs.length (pairs xs) rfl Xm.out.own ⟨w6.heap.size,0,none⟩ 1 1 [Value.string (ay s p),.string ((⟨#[]⟩:ByteArray))] rfl rfl WB.out (by intro u hu;simp at hu;rcases hu with rfl|rfl <;> rfl) (by unfold maxLen;omega) (by omega) Zx.out ?_);intro vB w10 VY VM _;obtain ⟨gB,cB,rfl⟩:=fI VY;have Yr:some X≠vA.ownBlock:=fun e=>by have:=(Xm.out.own.lt X e.symm).1;omega
  have k10:=VM.cell Xm.out.c1 Yr;have f10:=di Xm.out.fr (VM.block X Xm.out.lt Yr) 1;have l10:=Uc Xm.out.lt VM.size;have WN:=ai (Xm.out.app Yq.out XC.out ⟨ay s p,(⟨#[]⟩:ByteArray)⟩ VY VM);clear VY VM a0 a1 k1 Xm Yr WB Zx HL6;obtain ⟨P,hP⟩:∃ P,P=p+au s p:=⟨_,rfl⟩;obtain ⟨S2,hS2⟩:∃ S2:ByteArray,S2=⟨#[]⟩:=⟨_,rfl⟩;rw [<-hP]at WN PI HPB HPG;rw [<-hS2]at WN PI;clear hP hS2
 case' true =>
  rw [uF hc]at Ww;have HL6:=ai (HL5.out.moved Yq.out Yk Ww);have PI:=ai (I7 (o:=st.out) hc);have HPH:Hid (p+au s p+1<=s.size):=zM hc;have HPB:=ai (ko s _ HPH.out);have HPG:Hid (p<=p+au s p+1+au s (p+au s p+1)):=by show _<=_;omega
  clear Ww Yk hc HL5 HA0 HA1 HAF U2;go_wp2_with fail;refine (uG R s (p+au s p+1) false v w6 HL6.out.rd hs HPH.out).mono ?_;rintro e w7 ⟨rfl,hr7,Xd⟩;have HL7:=ai (HL6.out.moved Yq.out Xd hr7);have VR:=ai (Xd.cell HB0.out Z7.out);have a1:=Xd.cell HB1.out Z7.out;have hcf:=di HBF.out (Xd.block A YG.out Z7.out);have f1:=hcf 1;have hcl:=Uc YG.out Xd.size;obtain ⟨W8,WL⟩:∃ W8,W8=w7.setCell ⟨A,1,none⟩ (.string (ay s (p+au s p+1))):=⟨_,rfl⟩;have HL8:Hid (PL w1 W8 R X s xs (p+au s p+1+au s (p+au s p+1)) false v vA):=by rw [WL];exact HL7.out.aset Yq.out XC.out HAX.out HAV.out _ _
  have HD0:Hid (W8.cell? ⟨A,0,none⟩=some (.string (ay s p))):=by show _=_;rw [WL,mO (by omega)];exact VR.out
  have HD1:Hid (W8.cell? ⟨A,1,none⟩=some (.string (ay s (p+au s p+1)))):=by show _=_;rw [WL];exact mS a1
  clear hr7 Xd HL6 HB0 HB1 HBF YG;have a0:=VR.out;have k1:=HL7.out.c1;have hxa:X≠A:=by have:=HAX.out;omega
  have hax:A≠X:=by have:=HAX.out;omega
  obtain ⟨W9,YH⟩:∃ W9,W9=W8.alloc (.cells #[.string (ay s p),.string (ay s (p+au s p+1))] 43):=⟨_,rfl⟩;have Xm:Hid (PL w1 W9 R X s xs (p+au s p+1+au s (p+au s p+1)) false v vA):=by rw [YH];exact HL8.out.made _
  have WB:Hid (∀ j u,[Value.string (ay s p),.string (ay s (p+au s p+1))][j]?=some u->W9.cell? ((⟨w7.heap.size,0,none⟩:Addr).add j)=some u):=by rw [YH];exact Am W8 _ _ _ (by rw [WL];simp)
  have Zx:Hid (X+1<=W9.heap.size):=Xm.out.lt;have hxs:xs.length<=1000:=by have:=HLN2.out;have:=HPL.out;omega
  go_wp2_with (at_builtin;rw [<-WL];clear WL;rw [<-YH];clear YH;refine wpList_append_own _ rfl _ _ 36 rfl (X+1) 43 iA (.agg #[.string ⟨#[]⟩,.string ⟨#[]⟩]) 2 32 underlying36 YW.out.1 YW.out.2.1 YW.out.2.2.1 YW.out.2.2.2 rfl (by decide) vA xs.length (pairs xs) rfl Xm.out.own ⟨w7.heap.size,0,none⟩ 1 1 [Value.string (ay s p),.string (ay s (p+au s p+1))] rfl rfl WB.out (by intro u hu;simp at hu;rcases hu with rfl|rfl <;> rfl) (by unfold maxLen;omega) (by omega) Zx.out ?_);intro vB w10 VY VM _;obtain ⟨gB,cB,rfl⟩:=fI VY;have Yr:some X≠vA.ownBlock:=fun e=>by have:=(Xm.out.own.lt X e.symm).1;omega
  have k10:=VM.cell Xm.out.c1 Yr;have f10:=di Xm.out.fr (VM.block X Xm.out.lt Yr) 1;have l10:=Uc Xm.out.lt VM.size;have WN:=ai (Xm.out.app Yq.out XC.out ⟨ay s p,ay s (p+au s p+1)⟩ VY VM);clear VY VM a0 a1 k1 Xm Yr WB Zx HL8 hxa hax f1 hcl hcf;obtain ⟨P,hP⟩:∃ P,P=p+au s p+1+au s (p+au s p+1):=⟨_,rfl⟩;obtain ⟨S2,hS2⟩:∃ S2:ByteArray,S2=ay s (p+au s p+1):=⟨_,rfl⟩;rw [<-hP]at WN PI HPB HPG;rw [<-hS2]at WN PI;clear hP hS2
 all_goals
  go_wp2_with fail;obtain ⟨W11,hW11⟩:∃ W11,W11=w10.setCell ⟨X,1,none⟩ (.slice (some ⟨gB,0,none⟩) (xs.length+1) cB):=⟨_,rfl⟩;rw [<-hW11]at WN ⊢;clear hW11 k10 f10 l10;refine (lX R s fu P false v W11 WN.out.rd hs HPB.out (by decide)).mono ?_;rintro e w12 ⟨rfl,Xj,Xn⟩;cases hcl:mP s fu P false;case true=>
   rw [uF hcl]at Xj;have VQ:=ai (WN.out.moved Yq.out Xn Xj);have EQ:=ai (I4 (HPP.out.symm.trans (Gi (xs:=xs) (n:=m) PI.out hcl)));obtain ⟨ad,cap,hva,hnq,hin⟩:=VQ.out.node XC.out (base:=base) (Uk hB U7.out.size);injection hva with hva1 hva2 hva3;subst hva1;subst hva3;clear hva2;have HNQ:=ai hnq;have HIN:=ai hin;have k0:=VQ.out.c0;have k1:=VQ.out.c1;have k2:=VQ.out.c2;have k3:=VQ.out.c3;have k4:=VQ.out.c4;have HF:=ai (VJ.out.over hR VQ.out.onl VQ.out.rd);have HO:=ai (U7.out.trans0 VQ.out.onl);clear Xj Xn hcl hnq hin WN VQ;go_wp2_with fail;have HADD:=Le R s ⟨P+1,false,st.out⟩ base v qs ⟨⟨1,xs++[⟨ay s p,S2⟩],⟨#[]⟩,⟨#[]⟩,[]⟩,some ⟨gB,0,none⟩,cB,none,0⟩ w12 HF.out hR (Uk hB HO.out.size) hn HNQ.out (.inl ⟨rfl,rfl,rfl⟩) (fun g hg=>⟨fun e=>by have:=(VJ.out.own.lt g e).2;have:=HIN.out g hg;have:=XC.out;omega,fun q' hq' hg'=>by have:=(VJ.out.lie q' hq' g hg').2.1;have:=HIN.out g hg;have:=XC.out;omega⟩);rw [show (⟨⟨1,xs++[⟨ay s p,S2⟩],⟨#[]⟩,⟨#[]⟩,[]⟩,some ⟨gB,0,none⟩,cB,none,0⟩:ER).val=.agg #[.int .i64 1,.slice (some ⟨gB,0,none⟩) (xs.length+1) cB,.string ⟨#[]⟩,.string ⟨#[]⟩,.slice none 0 0] by simp [ER.val]]at HADD;refine HADD.mono ?_;rintro e w13 ⟨v13,rfl,hF13,hW13⟩;have HF13:=ai hF13;have HW13:=ai ((HO.out.any v).trans hW13);clear hF13 hW13;go_wp2;exact bodyPost_ret (v:=.int .i64 (st.out.length:Int)) (by simp [results,Tryz.results234,go_sem]) rfl (by rw [EQ.out];exact ⟨v13,_,rfl,HF13.out,HW13.out,fun q hq g hg=>by rw [Uo]at hq;subst hq;have:=HIN.out g hg;have:=HX0.out;omega⟩)
  rw [zg hcl]at Xj;have VQ:=ai (WN.out.moved Yq.out Xn Xj);have Z9:=ai hcl;clear Xj Xn hcl WN;go_wp2_with fail;refine (lX R s lW P false v w12 VQ.out.rd hs HPB.out (by decide)).mono ?_;rintro e w13 ⟨rfl,YZ,XW⟩;cases hcm:mP s lW P false;case true=>
   rw [uF hcm]at YZ;have WW:=ai (VQ.out.moved Yq.out XW YZ);have HQ13:Hid (P+1<=s.size):=zM hcm;have EQ:=ai ((Gj (xs:=xs) (n:=m) PI.out Z9.out hcm).symm.trans HPP.out);have HM:Hid (s.size-wat R w13+wbad R w13<s.size-wat R wr+wbad R wr):=by
    show _<_;rw [WW.out.rd.wbad1,HPLB.out,show wat R w13=P+1 from WW.out.rd.place,HPLC.out];have:=HQ13.out;have:=HPG.out;omega
   clear YZ XW hcm VQ;go_wp2;go_roundw;case rel=>exact ⟨m,P+1,false,xs++[(⟨ay s p,S2⟩:Al)],.slice (some ⟨gB,0,none⟩) (xs.length+1) cB,HQ13.out,EQ.out,fun _=>⟨by have:=HLN1.out;have:=HPG.out;have:=HQ13.out;omega,by have:=HLN2.out;have:=HPG.out;rw [Ul,List.length_singleton];omega⟩,WW.out⟩
   exact HM.out
  rw [zg hcm]at YZ;have WW:=ai (VQ.out.moved Yq.out XW YZ);have EQ:=ai ((LQ (xs:=xs) (n:=m) PI.out Z9.out hcm).symm.trans HPP.out);have c2:=WW.out.rd.c2;have f2:=WW.out.rd.fr 2;have hl13:=WW.out.rd.lt;have HL14:Hid (PL w1 (w13.setCell ⟨R,2,none⟩ (.bool true)) R X s (xs++[⟨ay s p,S2⟩]) P true v (.slice (some ⟨gB,0,none⟩) (xs.length+1) cB)):=WW.out.moved Yq.out (by have:=Fw w13 R 2 (.bool true) 0;exact this) WW.out.rd.hurt;have HM:Hid (s.size-wat R (w13.setCell ⟨R,2,none⟩ (.bool true))+wbad R (w13.setCell ⟨R,2,none⟩ (.bool true))<s.size-wat R wr+wbad R wr):=by
   show _<_;rw [HL14.out.rd.wbad0,HPLB.out,show wat R (w13.setCell ⟨R,2,none⟩ (.bool true))=P from HL14.out.rd.place,HPLC.out];have:=HPG.out;omega
  clear YZ XW hcm VQ WW;go_wp2;go_roundw;case rel=>exact ⟨m,P,true,xs++[(⟨ay s p,S2⟩:Al)],.slice (some ⟨gB,0,none⟩) (xs.length+1) cB,HPB.out,EQ.out,fun h=>(by cases h),HL14.out⟩
  exact HM.out
end Go.Proofs.YtajkkeikihhejaaGreat
namespace Go.Proofs.YtajkkeikihhejaaGreat
open Go.Sort
open Go.ChangeShapes Go.WideShapes Go.ChangeAt Go.RowKit
open Pl
attribute [local go_sem ↓] Go.wp_at_zero Go.wp_at_succ
theorem wR (b off cap:Nat)(ts:List Tp)(w:af)(hlen:ts.length<=maxLen)(hr:kK w b off ts)(hb:b<w.heap.size)(hf:∀ t∈ts,t.fits) :
    Calls prog 99 #[.slice (some ⟨b,off,none⟩) ts.length cap] w fun e w'=>e=.returned (.bool (dL ts))/\ag w w':=by
  unfold maxLen at hlen;by_cases hbig:40<ts.length
  · have HT:Hid (dL ts=false):=by show _=_;simp [dL];omega
    go_enter func99,ntmps99;go_wp2;go_ret;exact ⟨ah HT.out.symm,Uf _ _⟩
  · go_enter func99,ntmps99;go_wp2;go_loopw [10] (fun i wr=>∃ k:Nat,k<=ts.length/\i=.int .i64 k/\Hid (tO ts k=true)/\ag w wr) (fun i _=>ts.length-(intOf i).toNat);case atStart=>exact ⟨0,Ui _,rfl,rfl,Uf _ _⟩
    obtain ⟨k,hk,rfl,hu,hB⟩:=hrel;by_cases hlt:k<ts.length
    · have XQ:=qc (hr.below hB hb);have UY:=qc hf;obtain ⟨t0,t1,t2,t3,t4,t5⟩:=XQ.out k hlt;have hk1:=bF k;have hk2:(k:Int)<(ts.length:Int):=by omega
      clear hr hf;obtain ⟨W1,hW1⟩:∃ W1,W1=wr.alloc (.cells #[.string ts[k].a,.string ts[k].b,.string ts[k].r,.string ts[k].c,.string ts[k].d,.string ts[k].s] 46):=⟨_,rfl⟩;have hal:ag wr W1:=by rw [hW1];exact (Uf _ _).alloc (Ue _) _
      have c0:∀ d os,(grow (redrawn W1 d) os).cell? ⟨wr.heap.size,0,none⟩=some (.string ts[k].a):=cell_regrown (by rw [hW1];simp);have c1:∀ d os,(grow (redrawn W1 d) os).cell? ⟨wr.heap.size,1,none⟩=some (.string ts[k].b):=cell_regrown (by rw [hW1];simp);have c2:∀ d os,(grow (redrawn W1 d) os).cell? ⟨wr.heap.size,2,none⟩=some (.string ts[k].r):=cell_regrown (by rw [hW1];simp);have c3:∀ d os,(grow (redrawn W1 d) os).cell? ⟨wr.heap.size,3,none⟩=some (.string ts[k].c):=cell_regrown (by rw [hW1];simp);have c4:∀ d os,(grow (redrawn W1 d) os).cell? ⟨wr.heap.size,4,none⟩=some (.string ts[k].d):=cell_regrown (by rw [hW1];simp);have c5:∀ d os,(grow (redrawn W1 d) os).cell? ⟨wr.heap.size,5,none⟩=some (.string ts[k].s):=cell_regrown (by rw [hW1];simp);have Vy:Hid (∀ d os,ag w (grow (redrawn W1 d) os)):=fun d os=>hB.trans ((hal.mono hB.size).trans ((below_regrown W1 d os).mono (Uk hB.size hal.size)));have HK:Hid (∀ p v,wr.cell? p=some v->W1.cell? p=some v):=fun p v h=>cell_later hal h;clear hal;go_wp2_with fail;rw [<-hW1];clear hW1 t0 t1 t2 t3 t4 t5;have Xk:Hid (∀ d os,Calls prog 108 #[.agg #[.string ts[k].a,.string ts[k].b,.string ts[k].r,.string ts[k].c,.string ts[k].d,.string ts[k].s]] (grow (redrawn W1 d) os) fun e w''=>e=.returned (.bool ts[k].ok)/\∃ p:Regrown,w''=grow (redrawn W1 p.d) p.os):=by
        obtain ⟨f0,f1,f2,f3,f4,f5⟩:=UY.out ts[k] (Ud hlt);exact bP fun W' _=>gm _ _ _ _ _ _ _ f0 f1 f2 f3 f4 f5
      cases hok:ts[k].ok;case false=>
        have HT:Hid (dL ts=false):=uY hlt (Kr hlt hok);rw [hok]at Xk;clear hok;refine wp_region_quiet_below (by kernel_rfl) (by kernel_rfl) ?_
        repeat (go_big_quiet_step (exact Xk.out _ _))
        refine wpQuiet_nil ?_;rintro _ ⟨⟨dq,osq⟩,rfl⟩;go_wp2;go_ret;exact ⟨ah HT.out.symm,Vy.out dq osq⟩
      rw [hok]at Xk;by_cases hz:k=0
      · have HU:Hid (tO ts (k+1)=true):=by show _=_;rw [rE,hu.out];subst hz;rw [wM hlt,hok];rfl
        have hk8:decide ((0:Int)<(k:Int))=false:=by simp;omega
        have hk9:decide (0<k)=false:=by simp;omega
        clear hok hz;refine wp_region_quiet_below (by kernel_rfl) (by kernel_rfl) ?_
        repeat (go_big_quiet_step (exact Xk.out _ _))
        refine wpQuiet_nil ?_;rintro _ ⟨⟨dq,osq⟩,rfl⟩;go_wp2;go_roundw;case rel=>exact ⟨k+1,by omega,by go_num,HU,Vy.out dq osq⟩
        simp [intOf];omega
      · obtain ⟨m,hm⟩:∃ m:Nat,k=m+1:=⟨k-1,by omega⟩;have Vl:m<ts.length:=by omega
        obtain ⟨q0,q1,q2,q3,q4,q5⟩:=XQ.out m Vl;replace q0:=cell_regrown (HK.out _ _ q0);replace q1:=cell_regrown (HK.out _ _ q1);replace q2:=cell_regrown (HK.out _ _ q2);replace q3:=cell_regrown (HK.out _ _ q3);replace q4:=cell_regrown (HK.out _ _ q4);replace q5:=cell_regrown (HK.out _ _ q5);have hkm:(k:Int)-1=(m:Int):=by omega
        have hm1:=bF m;have hm2:(m:Int)<(ts.length:Int):=by omega
        have hpos:(0:Int)<(k:Int):=by omega
        have hposN:0<k:=by omega
        have hwm:IntKind.i64.wrap (m:Int)=(m:Int):=by rw [IntKind.wrap_i64];omega
        have HA:Hid (uX ts k=ts[m].ahead ts[k]):=by show _=_;subst hm;rw [rF hlt,hok];rfl
        have YQ:Hid (∀ d os,Calls prog 141 #[.agg #[.string ts[m].a,.string ts[m].b,.string ts[m].r,.string ts[m].c,.string ts[m].d,.string ts[m].s],.agg #[.string ts[k].a,.string ts[k].b,.string ts[k].r,.string ts[k].c,.string ts[k].d,.string ts[k].s]] (grow (redrawn W1 d) os) fun e w''=>e=.returned (.bool (ts[m].ahead ts[k]))/\∃ p:Regrown,w''=grow (redrawn W1 p.d) p.os):=by
          obtain ⟨f0,f1,f2,f3,f4,f5⟩:=UY.out ts[k] (Ud hlt);obtain ⟨g0,g1,g2,g3,g4,g5⟩:=UY.out ts[m] (Ud Vl);exact bP fun W' _=>BJ _ _ _ _ _ _ _ _ _ _ _ _ _ g0 g1 g2 g3 g4 g5 f0 f1 f2 f3 f4 f5
        clear hm hz hok;cases ha:ts[m].ahead ts[k];case false=>
          have HT:Hid (dL ts=false):=uY hlt (by rw [HA.out,ha]);rw [ha]at YQ;clear ha HA;refine wp_region_quiet_below (by kernel_rfl) (by kernel_rfl) ?_
          repeat (go_big_quiet_step (first|exact Xk.out _ _|exact YQ.out _ _))
          refine wpQuiet_nil ?_;rintro _ ⟨⟨dq,osq⟩,rfl⟩;go_wp2;go_ret;exact ⟨ah HT.out.symm,Vy.out dq osq⟩
        have HU:Hid (tO ts (k+1)=true):=by show _=_;rw [rE,hu.out,HA.out,ha];rfl
        rw [ha]at YQ;clear ha HA;refine wp_region_quiet_below (by kernel_rfl) (by kernel_rfl) ?_
        repeat (go_big_quiet_step (first|exact Xk.out _ _|exact YQ.out _ _))
        refine wpQuiet_nil ?_;rintro _ ⟨⟨dq,osq⟩,rfl⟩;go_wp2;go_roundw;case rel=>exact ⟨k+1,by omega,by go_num,HU,Vy.out dq osq⟩
        simp [intOf];omega
    · go_wp2;go_ret;exact ⟨ah (by have e:k=ts.length:=(by omega);subst e;simp [dL,hu.out];omega),hB⟩
end Go.Proofs.YtajkkeikihhejaaGreat
namespace Go.Proofs.YtajkkeikihhejaaGreat
open Go.Sort
open Go.ChangeShapes Go.WideShapes Go.ChangeAt Go.RowKit
open Pl
attribute [local go_sem ↓] Go.wp_at_zero Go.wp_at_succ
theorem wS (ad:Option Addr)(cap:Nat)(w:af) :
  Calls prog 93 #[.slice ad 0 cap] w fun e w'=>e=.returned (.bool (dL []))/\ag w w':=by
 go_enter func93,ntmps93;go_wp2;go_loopw [3] (fun i wr=>∃ k:Nat,k=0/\i=.int .i64 k/\ag w wr) (fun i _=>(intOf i).toNat);case atStart=>exact ⟨0,rfl,rfl,Uf _ _⟩
 obtain ⟨k,rfl,rfl,hB⟩:=hrel;go_wp2;go_ret;exact ⟨rfl,hB⟩
theorem wT (ad:Option Addr)(cap:Nat)(w:af) :
  Calls prog 99 #[.slice ad 0 cap] w fun e w'=>e=.returned (.bool (dL []))/\ag w w':=by
 go_enter func99,ntmps99;go_wp2;go_loopw [10] (fun i wr=>∃ k:Nat,k=0/\i=.int .i64 k/\ag w wr) (fun i _=>(intOf i).toNat);case atStart=>exact ⟨0,rfl,rfl,Uf _ _⟩
 obtain ⟨k,rfl,rfl,hB⟩:=hrel;go_wp2;go_ret;exact ⟨rfl,hB⟩
theorem oh (ad:Option Addr)(cap:Nat)(ts:List Tp)(w:af)(hlen:ts.length<=maxLen)(hs:Sl w ad ts)(hf:∀ t∈ts,t.fits) :
  Calls prog 93 #[.slice ad ts.length cap] w fun e w'=>e=.returned (.bool (dL ts))/\ag w w':=by
 rcases hs with rfl|⟨b,off,rfl,hb,hr⟩
 ·exact wS ad cap w
 exact wN b off cap ts w hlen hr hb hf
theorem wU (ad:Option Addr)(cap:Nat)(ts:List Tp)(w:af)(hlen:ts.length<=maxLen)(hs:Sl w ad ts)(hf:∀ t∈ts,t.fits) :
  Calls prog 99 #[.slice ad ts.length cap] w fun e w'=>e=.returned (.bool (dL ts))/\ag w w':=by
 rcases hs with rfl|⟨b,off,rfl,hb,hr⟩
 ·exact wT ad cap w
 exact wR b off cap ts w hlen hr hb hf
end Go.Proofs.YtajkkeikihhejaaGreat
namespace Go.Proofs.YtajkkeikihhejaaGreat
set_option linter.unusedVariables false
open Pl
def Kw (es:List Ex):Prop:=∀ (i:Nat) (h:i<es.length),∀ x∈es[i].kids,0<=x/\x<(i:Int)
theorem I8 {es:List Ex}(h:aK es=true):Kw es:=by
 intro i hi x hx;unfold aK at h;simp only [Ug,Um]at h;have h1:=h.1.1.2;unfold ja at h1;rw [Un]at h1;have h2:=h1 i (by simpa using hi);unfold kI dx at h2;rw [Uj hi]at h2;simp only [Option.map_some,Option.getD_some,Un,Ug,Um]at h2;have:=h2 x hx;omega
def hasB (ts:List Ty)(t r:ByteArray):Bool:=!(aB ts t r).isEmpty
theorem tY {ts:List Ty}(h:bi ts=true){t:Ty}(ht:t∈ts){r:Rl}(hr:r∈t.rels):aR r.name=true/\aK r.expr=true:=by
 unfold bi at h;simp only [Ug]at h;obtain ⟨j,hj,rfl⟩:=UE ht;have h1:=pg h.2 j hj;unfold kw at h1;rw [Uj hj]at h1;simp only [Ug]at h1;obtain ⟨k,hk,rfl⟩:=UE hr;have h2:=o9 h1.2 k hk;unfold ma at h2;rw [Uj hk]at h2;simp only [Ug]at h2;exact ⟨h2.1.1,h2.2⟩
theorem Ao {ts:List Ty}{typ:ByteArray}:∀ {es:List Ex},aS ts typ es=true->∀ e∈es,o6 ts e.allow=true/\ll ts typ e=true
 | [],_,e,he=>by cases he
 | x::es,h,e,he=>by
  unfold aS at h;split at h
  ·rename_i hc;simp only [Ug]at hc;rcases List.mem_cons.1 he with rfl|he
   ·exact hc
   exact Ao h e he
  cases h
theorem QK {ts:List Ty}(h:iH ts=true){t:Ty}(ht:t∈ts){r:Rl}(hr:r∈t.rels){e:Ex}(he:e∈r.expr):o6 ts e.allow=true/\ll ts t.name e=true:=by
 have h1:=Un.1 h t ht;have h2:=Un.1 h1 r hr;exact Ao h2 e he
structure Fc where
 a:ByteArray
 b:ByteArray
 r:ByteArray
 c:ByteArray
 d:ByteArray
def Fc.u (f:Fc):ByteArray×ByteArray:=(f.c,f.d)
def wV (x y:Fc):Bool:=x.a.toList==y.a.toList&&x.b.toList==y.b.toList&&x.r.toList==y.r.toList&&x.c.toList==y.c.toList&&x.d.toList==y.d.toList
theorem vz {x y:Fc}:wV x y=true ↔ x=y:=by
 constructor
 ·intro h;unfold wV at h;simp only [Ug,beq_iff_eq]at h;obtain ⟨⟨⟨⟨h1,h2⟩,h3⟩,h4⟩,h5⟩:=h;cases x;cases y;simp only at h1 h2 h3 h4 h5;rw [gu h1,gu h2,gu h3,gu h4,gu h5]
 rintro rfl;unfold wV;simp
def bn (out:List Fc)(f:Fc):Bool:=out.any fun g=>wV g f
theorem dE {out:List Fc}{f:Fc}:bn out f=true ↔ f∈out:=by
 unfold bn;rw [UA];constructor
 ·rintro ⟨g,hg,h⟩;rw [<-vz.1 h];exact hg
 intro h;exact ⟨f,h,vz.2 rfl⟩
def Gl (u:ByteArray×ByteArray)(x y:List Fc):Prop:=∀ g:Fc,g.u=u->(g∈x ↔ g∈y)
theorem wW {x y:List Fc}{f:Fc}(h:Gl f.u x y):bn x f=bn y f:=by
 rw [Bool.eq_iff_iff,dE,dE];exact h f rfl
def eB (l:List Tp)(known:List Fc)(f:Fc):Bool:=l.any fun t=>(t.a.toList==f.a.toList&&t.b.toList==f.b.toList&&t.r.toList==f.r.toList)&&(if t.s.toList.isEmpty then t.c.toList==f.c.toList&&t.d.toList==f.d.toList else bn known ⟨t.c,t.d,t.s,f.c,f.d⟩)
def fU (l:List Tp)(known:List Fc)(over name:ByteArray)(f:Fc):Bool:=l.any fun t=>(t.a.toList==f.a.toList&&t.b.toList==f.b.toList&&t.r.toList==over.toList)&&bn known ⟨t.c,t.d,name,f.c,f.d⟩
def dz (l:List Tp)(es:List Ex)(truth:List Fc)(f:Fc):Nat->List Fc->Nat->Bool
 | 0,_,_=>false
 | k+1,known,n=>match es[n]? with
  | none=>false
  | some x =>
   if x.kind=1 then eB l known f
   else if x.kind=2 then bn known ⟨f.a,f.b,x.name,f.c,f.d⟩
   else if x.kind=3 then fU l known x.over x.name f
   else if x.kind=4 then x.kids.any fun i=>dz l es truth f k known i.toNat
   else if x.kind=5 then x.kids.all fun i=>dz l es truth f k known i.toNat
   else if x.kind=6 then dz l es truth f k known (x.kids.getD 0 0).toNat && !dz l es truth f k truth (x.kids.getD 1 0).toNat
   else false
theorem I9 {l:List Tp}{x y:List Fc}{f:Fc}(h:Gl f.u x y):eB l x f=eB l y f:=by
 unfold eB;congr 1
 funext t
 rw [wW (x:=x) (y:=y) (f:=⟨t.c,t.d,t.s,f.c,f.d⟩) h]
theorem Ja {l:List Tp}{x y:List Fc}{ov nm:ByteArray}{f:Fc}(h:Gl f.u x y):fU l x ov nm f=fU l y ov nm f:=by
 unfold fU;congr 1
 funext t
 rw [wW (x:=x) (y:=y) (f:=⟨t.c,t.d,nm,f.c,f.d⟩) h]
theorem tZ {l:List Tp}{es:List Ex}{f:Fc}{t1 t2:List Fc}(ht:Gl f.u t1 t2):∀ (k:Nat) (x y:List Fc) (n:Nat),Gl f.u x y->dz l es t1 f k x n=dz l es t2 f k y n
 | 0,_,_,_,_=>rfl
 | k+1,x,y,n,h=>by
  unfold dz;cases es[n]? with
  | none=>rfl
  | some e =>
   simp only [I9 h,wW (x:=x) (y:=y) (f:=⟨f.a,f.b,e.name,f.c,f.d⟩) h,Ja h,tZ ht k x y _ h,tZ ht k t1 t2 _ ht]
def fe (ts:List Ty)(l:List Tp)(out:List Fc)(f:Fc):Bool:=dz l (aB ts f.a f.r) out f (aB ts f.a f.r).length out ((aB ts f.a f.r).length-1)
theorem CY (ts:List Ty)(l:List Tp):Loc Fc.u (fe ts l):=fun x y f h=>tZ h _ x y _ h
def Ap (ts:List Ty)(st:ByteArray×ByteArray->Int)(n:Int)(o:Al):List (ByteArray×ByteArray):=(ak ts).filter fun k=>k.1.toList==o.t.toList&&decide (st k=n)
def jc (o:Al)(rel:ByteArray)(xu:List Al):List Fc:=xu.map fun u=>⟨o.t,o.s,rel,u.t,u.s⟩
def vC (ts:List Ty)(st:ByteArray×ByteArray->Int)(xu:List Al)(n:Int)(o:Al):List Fc:=(Ap ts st n o).flatMap fun k=>jc o k.2 xu
def bZ (ts:List Ty)(st:ByteArray×ByteArray->Int)(xo xu:List Al)(n:Int):List Fc:=xo.flatMap (vC ts st xu n)
theorem Jb {ts:List Ty}{st:ByteArray×ByteArray->Int}{xo xu:List Al}{n:Int}{f:Fc}(h:f∈bZ ts st xo xu n):f.u∈xu.map fun u=>(u.t,u.s):=by
 unfold bZ vC jc at h;obtain ⟨o,-,h⟩:=Ut.1 h;obtain ⟨k,-,h⟩:=Ut.1 h;obtain ⟨u,hu,rfl⟩:=Ur.1 h;exact Ur.2 ⟨u,hu,rfl⟩
theorem Gm (ts:List Ty)(st:ByteArray×ByteArray->Int)(xo xu:List Al)(n:Int)(p:ByteArray×ByteArray->Bool):(bZ ts st xo xu n).filter (fun f=>p f.u)=bZ ts st xo (xu.filter fun u=>p (u.t,u.s)) n:=by
 unfold bZ vC jc;rw [List.filter_flatMap];congr 1
 funext o
 rw [List.filter_flatMap];congr 1
 funext k
 rw [List.filter_map];rfl
theorem Jc {ts:List Ty}{st:ByteArray×ByteArray->Int}{xo xu:List Al}{n:Int}(h:∀ k∈ak ts,st k≠n):bZ ts st xo xu n=[]:=by
 have:∀ o,Ap ts st n o=[]:=fun o=>by
  unfold Ap;rw [List.filter_eq_nil_iff];intro k hk;simp [h k hk]
 unfold bZ vC;simp [this]
section
variable  [DecidableEq Fc]
def mg (ts:List Ty)(l:List Tp)(st:ByteArray×ByteArray->Int)(xo xu:List Al)(N:Nat):List Fc:=(List.range N).foldl (fun out (n:Nat)=>ku (fe ts l) (bZ ts st xo xu (n:Int)) out) []
theorem jh (ts:List Ty)(l:List Tp)(st:ByteArray×ByteArray->Int)(xo xu:List Al)(N:Nat):mg ts l st xo xu (N+1)=ku (fe ts l) (bZ ts st xo xu (N:Int)) (mg ts l st xo xu N):=by
 unfold mg;rw [List.range_succ,List.foldl_append];rfl
theorem LV {ts:List Ty}{l:List Tp}{st:ByteArray×ByteArray->Int}{xo xu:List Al}{N:Nat}(h:∀ k∈ak ts,st k<(N:Int)):∀ M,N<=M->mg ts l st xo xu M=mg ts l st xo xu N:=by
 intro M hM;obtain ⟨d,rfl⟩:∃ d,M=N+d:=⟨M-N,by omega⟩
 induction d with
 | zero=>rfl
 | succ d ih =>
  rw [Nat.add_succ,jh,ih (by omega),Jc fun k hk=>by have:=h k hk;omega];exact NQ _
theorem CZ (ts:List Ty)(l:List Tp)(st:ByteArray×ByteArray->Int)(xo xu:List Al):∀ N,(mg ts l st xo xu N).Nodup
 | 0=>List.nodup_nil
 | N+1=>by rw [jh];exact KU _ (CZ ts l st xo xu N)
end
open Go.ChangeAt Go.ChangeShapes Go.Maps Go.RowKit Go.WideShapes
def wX (w:World)(b off:Nat)(t:Fc):Prop :=
 w.cell? ⟨b,off,none⟩=some (.string t.a)/\w.cell? ⟨b,off+1,none⟩=some (.string t.b)/\w.cell? ⟨b,off+2,none⟩=some (.string t.r)/\w.cell? ⟨b,off+3,none⟩=some (.string t.c)/\w.cell? ⟨b,off+4,none⟩=some (.string t.d)
def T9 (w:World)(b off:Nat)(ts:List Fc):Prop:=∀ (i:Nat) (h:i<ts.length),wX w b (off+i*5) ts[i]
def BA (w:World)(ad:Option Addr)(ts:List Fc):Prop:=ts=[] \/ ∃ b off,ad=some ⟨b,off,none⟩/\b<w.heap.size/\T9 w b off ts
theorem wX.same {w w':af}{b off:Nat}{t:Fc}(h:wX w b off t)(hc:∀ o,w'.cell? ⟨b,o,none⟩=w.cell? ⟨b,o,none⟩):wX w' b off t:=by
 obtain ⟨h0,h1,h2,h3,h4⟩:=h;exact ⟨(hc _).trans h0,(hc _).trans h1,(hc _).trans h2,(hc _).trans h3,(hc _).trans h4⟩
theorem BA.below {w w':af}{ad:Option Addr}{ts:List Fc}(h:BA w ad ts)(hB:ag w w'):BA w' ad ts:=by
 rcases h with h|⟨b,off,e,hb,hr⟩
 ·exact .inl h
 exact .inr ⟨b,off,e,Uc hb hB.size,fun i hi=>(hr i hi).same fun o=>hB.cell (p:=⟨b,o,none⟩) hb⟩
def Fc.row (t:Fc):List Value:=[.string t.a,.string t.b,.string t.r,.string t.c,.string t.d]
theorem Et (x y:Fc){v:Bool}(h:wV x y=v)(w:af) :
  (binOp .eql 29 (.agg #[.string x.a,.string x.b,.string x.r,.string x.c,.string x.d]) (.agg #[.string y.a,.string y.b,.string y.r,.string y.c,.string y.d])).run prog w=.ok (.bool v) w:=by
 subst h;go_simp;unfold wV
 (repeat' split) <;> simp_all
theorem C8 {ts:List Fc}{k:Nat}(h:k<ts.length){t:Fc}:bn (ts.drop k) t=(wV ts[k] t || bn (ts.drop (k+1)) t):=by
 unfold bn;rw [UB h];rfl
set_option maxRecDepth 8000 in
theorem ol (ad:Option Addr)(cap:Nat)(ts:List Fc)(t:Fc)(w:af)(hlen:ts.length<=1048576)(hs:BA w ad ts) :
  Calls prog 56 #[.slice ad ts.length cap,.agg #[.string t.a,.string t.b,.string t.r,.string t.c,.string t.d]] w fun e w'=>e=.returned (.bool (bn ts t))/\ag w w':=by
 have HS:=aA hs;clear hs;obtain ⟨W0,hW0⟩:∃ W0,W0=w.alloc (.cells #[.string t.a,.string t.b,.string t.r,.string t.c,.string t.d] 29):=⟨_,rfl⟩;have HB0:=rV hW0;have HX0:Hid (W0.cell? ⟨w.heap.size,0,none⟩=some (.string t.a)/\W0.cell? ⟨w.heap.size,1,none⟩=some (.string t.b)/\W0.cell? ⟨w.heap.size,2,none⟩=some (.string t.r)/\W0.cell? ⟨w.heap.size,3,none⟩=some (.string t.c)/\W0.cell? ⟨w.heap.size,4,none⟩=some (.string t.d)/\w.heap.size<W0.heap.size):=by show _/\_;rw [hW0];refine ⟨?_,?_,?_,?_,?_,?_⟩ <;> simp
 go_enter func56,ntmps56;go_wp2;rw [<-hW0];clear hW0;go_loopw [5] (fun i wr=>∃ k:Nat,k<=ts.length/\i=.int .i64 k/\Hid (bn (ts.drop k) t=bn ts t)/\Hid (ag W0 wr)) (fun i _=>ts.length-(intOf i).toNat);case atStart=>exact ⟨0,Ui _,rfl,rfl,Uf _ _⟩
 obtain ⟨k,hk,rfl,HP,HB⟩:=hrel;have UU:Hid (ag w wr):=HB0.out.trans (HB.out.mono HB0.out.size);by_cases hlt:k<ts.length
 ·rcases HS.out.below UU.out with hnil|⟨b,off,rfl,hb,hr⟩
  ·rw [hnil]at hlt;simp at hlt
  obtain ⟨t0,t1,t2,t3,t4⟩:=hr k hlt;have x0:=mK HB.out HX0.out.2.2.2.2.2 HX0.out.1;have x1:=mK HB.out HX0.out.2.2.2.2.2 HX0.out.2.1;have x2:=mK HB.out HX0.out.2.2.2.2.2 HX0.out.2.2.1;have x3:=mK HB.out HX0.out.2.2.2.2.2 HX0.out.2.2.2.1;have x4:=mK HB.out HX0.out.2.2.2.2.2 HX0.out.2.2.2.2.1;have hk1:=bF k;have hk2:(k:Int)<(ts.length:Int):=by omega
  have HD:Hid (bn ts t=(wV ts[k] t || bn (ts.drop (k+1)) t)):=by show _=_;rw [<-HP.out];exact C8 hlt
  clear hr;cases hq:wV ts[k] t;case true=>
   have heq:=Et ts[k] t hq;have HN:Hid (bn ts t=true):=by show _=_;rw [HD.out,hq];rfl
   clear hq;go_wp2_with fail;go_region_held3 (fun w'=>w'.cell? ⟨b,off+k*5,none⟩=some (.string ts[k].a)/\w'.cell? ⟨b,off+k*5+1,none⟩=some (.string ts[k].b)/\w'.cell? ⟨b,off+k*5+2,none⟩=some (.string ts[k].r)/\w'.cell? ⟨b,off+k*5+3,none⟩=some (.string ts[k].c)/\w'.cell? ⟨b,off+k*5+4,none⟩=some (.string ts[k].d)/\w'.cell? ⟨w.heap.size,0,none⟩=some (.string t.a)/\w'.cell? ⟨w.heap.size,1,none⟩=some (.string t.b)/\w'.cell? ⟨w.heap.size,2,none⟩=some (.string t.r)/\w'.cell? ⟨w.heap.size,3,none⟩=some (.string t.c)/\w'.cell? ⟨w.heap.size,4,none⟩=some (.string t.d)/\ag wr w') (first|assumption|exact ⟨t0,t1,t2,t3,t4,x0,x1,x2,x3,x4,(Uf _ _).drew⟩) (fail);rename_i hH;have HG:Hid (ag wr _):=hH.2.2.2.2.2.2.2.2.2.2;clear hH t0 t1 t2 t3 t4 x0 x1 x2 x3 x4 heq;go_wp2;go_ret;exact ⟨by rw [HN.out];rfl,UU.out.trans (HG.out.mono UU.out.size)⟩
  have heq:=Et ts[k] t hq;have UW:Hid (bn (ts.drop (k+1)) t=bn ts t):=by show _=_;rw [HD.out,hq];rfl
  clear hq;go_wp2_with fail;go_region_held3 (fun w'=>w'.cell? ⟨b,off+k*5,none⟩=some (.string ts[k].a)/\w'.cell? ⟨b,off+k*5+1,none⟩=some (.string ts[k].b)/\w'.cell? ⟨b,off+k*5+2,none⟩=some (.string ts[k].r)/\w'.cell? ⟨b,off+k*5+3,none⟩=some (.string ts[k].c)/\w'.cell? ⟨b,off+k*5+4,none⟩=some (.string ts[k].d)/\w'.cell? ⟨w.heap.size,0,none⟩=some (.string t.a)/\w'.cell? ⟨w.heap.size,1,none⟩=some (.string t.b)/\w'.cell? ⟨w.heap.size,2,none⟩=some (.string t.r)/\w'.cell? ⟨w.heap.size,3,none⟩=some (.string t.c)/\w'.cell? ⟨w.heap.size,4,none⟩=some (.string t.d)/\ag wr w') (first|assumption|exact ⟨t0,t1,t2,t3,t4,x0,x1,x2,x3,x4,(Uf _ _).drew⟩) (fail);rename_i hH;have HG:Hid (ag W0 _):=HB.out.trans (hH.2.2.2.2.2.2.2.2.2.2.mono HB.out.size);clear hH t0 t1 t2 t3 t4 x0 x1 x2 x3 x4 heq;go_wp2;go_roundw;case rel=>exact ⟨k+1,by omega,by go_num,UW,HG⟩
  simp [intOf] <;> omega
 have HN:Hid (bn ts t=false):=by show _=_;rw [<-HP.out,List.drop_of_length_le (by omega)];rfl
 go_wp2;go_ret;exact ⟨by rw [HN.out];rfl,UU.out⟩
theorem aD {p:Prop}(h:p):Hid p:=h
structure HW (w:World)(Wx:Option Addr)(ts:List Tp)(UO:Option Addr)(rows:List ER)(adK:Option Addr)(known:List Fc)(Wy:Option Addr)(truth:List Fc):Prop where
 tup:Sl w Wx ts
 ex:iC w UO rows
 kn:BA w adK known
 tr:BA w Wy truth
theorem HW.below {w w':af}{Wx:Option Addr}{ts:List Tp}{UO:Option Addr}{rows:List ER}{adK:Option Addr}{known:List Fc}{Wy:Option Addr}{truth:List Fc}(h:HW w Wx ts UO rows adK known Wy truth)(hB:ag w w'):HW w' Wx ts UO rows adK known Wy truth :=
 ⟨h.tup.below hB,h.ex.below hB,h.kn.below hB,h.tr.below hB⟩
def uk (a b c d:ByteArray):Bool:=a.toList==c.toList&&b.toList==d.toList
theorem iq (a b c d:bI){v:Bool}(h:uk a b c d=v)(w:af) :
  (binOp .eql 27 (.agg #[.string a,.string b]) (.agg #[.string c,.string d])).run prog w=.ok (.bool v) w:=by
 subst h;go_simp;unfold uk
 (repeat' split) <;> simp_all
theorem Aq (a b c d:bI){v:Bool}(h:uk a b c d=v)(w:af) :
  (binOp .neq 27 (.agg #[.string a,.string b]) (.agg #[.string c,.string d])).run prog w=.ok (.bool (!v)) w:=by
 subst h;go_simp;unfold uk
 (repeat' split) <;> simp_all
theorem iC.at0 {w:af}{ad:Option Addr}{rs:List ER}(h:iC w ad rs){k:Nat}(hk:k<rs.length):∃ b off,ad=some ⟨b,off,none⟩/\ym w b (off+k*5) rs[k]/\b<w.heap.size/\rs[k].ok w:=by
 rcases h with h|⟨b',off',e,hb,hr,hok⟩
 ·rw [h]at hk;simp at hk
 exact ⟨b',off',e,hr k hk,hb,hok _ (Ud hk)⟩
theorem Sl.at0 {w:af}{ad:Option Addr}{ts:List Tp}(h:Sl w ad ts){k:Nat}(hk:k<ts.length):∃ b off,ad=some ⟨b,off,none⟩/\RU w b (off+k*6) ts[k]/\b<w.heap.size:=by
 rcases h with h|⟨b',off',e,hb,hr⟩
 ·rw [h]at hk;simp at hk
 exact ⟨b',off',e,hr k hk,hb⟩
theorem p8.at0 {w:af}{ad:Option Addr}{zs:List Int}(h:p8 w ad zs){k:Nat}(hk:k<zs.length):∃ b off,ad=some ⟨b,off,none⟩/\w.cell? ⟨b,off+k,none⟩=some (.int .i64 zs[k])/\b<w.heap.size:=by
 rcases h with h|⟨b',off',e,hb,hr⟩
 ·rw [h]at hk;simp at hk
 exact ⟨b',off',e,hr k hk,hb⟩
def Gn (w:World)(f:Fc)(x:ER):World:=(w.alloc (.cells #[.string f.a,.string f.b,.string f.r,.string f.c,.string f.d] 29)).alloc (.cells #[.int .i64 x.e.kind,.slice x.adA x.e.allow.length x.capA,.string x.e.over,.string x.e.name,.slice x.adK x.e.kids.length x.capK] 39)
theorem jV (w:af)(f:Fc)(x:ER):ag w (Gn w f x):=by
 unfold Gn;exact ((Uf _ _).alloc (Ue _) _).alloc (by simp) _
structure EnB (w:World)(B:Nat)(f:Fc)(x:ER):Prop where
 lt:B+1<w.heap.size
 f0:w.cell? ⟨B,0,none⟩=some (.string f.a)
 f1:w.cell? ⟨B,1,none⟩=some (.string f.b)
 f2:w.cell? ⟨B,2,none⟩=some (.string f.r)
 f3:w.cell? ⟨B,3,none⟩=some (.string f.c)
 f4:w.cell? ⟨B,4,none⟩=some (.string f.d)
 x0:w.cell? ⟨B+1,0,none⟩=some (.int .i64 x.e.kind)
 x1:w.cell? ⟨B+1,1,none⟩=some (.slice x.adA x.e.allow.length x.capA)
 x2:w.cell? ⟨B+1,2,none⟩=some (.string x.e.over)
 x3:w.cell? ⟨B+1,3,none⟩=some (.string x.e.name)
 x4:w.cell? ⟨B+1,4,none⟩=some (.slice x.adK x.e.kids.length x.capK)
theorem EnB.below {w w':af}{B:Nat}{f:Fc}{x:ER}(h:EnB w B f x)(hB:ag w w'):EnB w' B f x:=by
 have h0:B<w.heap.size:=by have:=h.lt;omega
 have c0:∀ o,w'.cell? ⟨B,o,none⟩=w.cell? ⟨B,o,none⟩:=fun o=>hB.cell (p:=⟨B,o,none⟩) h0;have c1:∀ o,w'.cell? ⟨B+1,o,none⟩=w.cell? ⟨B+1,o,none⟩:=fun o=>hB.cell (p:=⟨B+1,o,none⟩) h.lt;exact ⟨Uc h.lt hB.size,(c0 _).trans h.f0,(c0 _).trans h.f1,(c0 _).trans h.f2,(c0 _).trans h.f3,(c0 _).trans h.f4,(c1 _).trans h.x0,(c1 _).trans h.x1,(c1 _).trans h.x2,(c1 _).trans h.x3,(c1 _).trans h.x4⟩
theorem om (w:af)(f:Fc)(x:ER):EnB (Gn w f x) w.heap.size f x:=by
 unfold Gn;constructor <;> simp
def mh (known:List Fc)(f:Fc)(t:Tp):Bool:=(t.a.toList==f.a.toList&&t.b.toList==f.b.toList&&t.r.toList==f.r.toList)&&(if t.s.toList.isEmpty then t.c.toList==f.c.toList&&t.d.toList==f.d.toList else bn known ⟨t.c,t.d,t.s,f.c,f.d⟩)
theorem Jd {ts:List Tp}{k:Nat}(h:k<ts.length)(known:List Fc)(f:Fc):eB (ts.drop k) known f=(mh known f ts[k] || eB (ts.drop (k+1)) known f):=by
 unfold eB;rw [UB h];rfl
def mW (known:List Fc)(over name:ByteArray)(f:Fc)(t:Tp):Bool:=(t.a.toList==f.a.toList&&t.b.toList==f.b.toList&&t.r.toList==over.toList)&&bn known ⟨t.c,t.d,name,f.c,f.d⟩
theorem Je {ts:List Tp}{k:Nat}(h:k<ts.length)(known:List Fc)(over name:bI)(f:Fc):fU (ts.drop k) known over name f=(mW known over name f ts[k] || fU (ts.drop (k+1)) known over name f):=by
 unfold fU;rw [UB h];rfl
theorem pF {s:ByteArray}:(s.toList==[])=s.toList.isEmpty:=by cases s.toList <;> rfl
end Go.Proofs.YtajkkeikihhejaaGreat
