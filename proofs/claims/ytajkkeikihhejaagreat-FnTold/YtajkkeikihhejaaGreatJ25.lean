/- Contract of the document's reader: an item that is a name, or a name over another one. -/
import Derived.Test.YtajkkeikihhejaaGreatSq
import Derived.Test.YtajkkeikihhejaaGreatJ17
import Derived.Test.YtajkkeikihhejaaGreatJ24
open Go.Proofs.Tryz
set_option maxHeartbeats 80000000
namespace Go.Proofs.YtajkkeikihhejaaGreat
set_option maxRecDepth 100000
open Go.ChangeShapes Go.WideShapes Go.ChangeAt Go.RowKit
open Pl
theorem Onl.at_new {R:Nat} {v:Value} {w w':af} (h:Onl R v w w') {X:Nat} (hX:w.heap.size≤X) (o:Nat) (u:Value):Onl R v w (w'.setCell ⟨X,o,none⟩ u) :=
 ⟨h.os,h.tape,h.output,by simpa using h.size,fun k hk h1 h2=>(Below.heap_setCell w' _ _ k (by show k ≠ X; omega)).trans (h.block k hk h1 h2)⟩
theorem RdC.other {w:af} {R:Nat} {s:ByteArray} {p:Nat} {bad:Bool} {v:Value} (h:RdC w R s p bad v) {X:Nat} (hX:X ≠ R) (o:Nat) (u:Value):RdC (w.setCell ⟨X,o,none⟩ u) R s p bad v :=
 ⟨by simpa using h.lt,by rw [Ul (w:=w) (Below.heap_setCell w _ _ R (Ne.symm hX))]; exact h.c0,by rw [Ul (w:=w) (Below.heap_setCell w _ _ R (Ne.symm hX))]; exact h.c1,by rw [Ul (w:=w) (Below.heap_setCell w _ _ R (Ne.symm hX))]; exact h.c2,by rw [Ul (w:=w) (Below.heap_setCell w _ _ R (Ne.symm hX))]; exact h.c3,fun j=>by simpa using h.fr j⟩
theorem RdC.below {w w':af} {R:Nat} {s:ByteArray} {p:Nat} {bad:Bool} {v:Value} (h:RdC w R s p bad v) (hb:ag w w'):RdC w' R s p bad v :=
 h.grown (row:=none) ⟨hb.os,hb.tape,hb.output,hb.size,fun k hk _=>hb.block k hk⟩ (by simp)
theorem ym.below {w w':af} {g:Nat} {q:ER} (h:ym w g q) (hb:ag w w'):ym w' g q :=
 h.grown (row:=none) ⟨hb.os,hb.tape,hb.output,hb.size,fun k hk _=>hb.block k hk⟩ (by simp)
def bare (k:Int) (o n:ByteArray):ER:=⟨⟨k,[],o,n,[]⟩,none,0,none,0⟩
theorem jX (k:Int) (o n:bF) (g:Nat):¬ oJ (bare k o n) g:=by
 rintro (⟨h,-⟩ | ⟨h,-⟩) <;> exact h rfl
theorem vw (k:Int) (o n:bF) (X:Nat) (w:af):NewQ X w (bare k o n) :=
 ⟨fun h=>absurd rfl h,fun h=>absurd rfl h,⟨.inl rfl,.inl rfl⟩,fun g h=>absurd h (jX k o n g),fun g h=>absurd (Or.inl h) (jX k o n g),TS _⟩
theorem OQ (w:af) (k:Int) (o n:bF):ym (w.alloc (.cells #[.int .i64 k,.slice none 0 0,.string o,.string n,.slice none 0 0] 39)) w.heap.size (bare k o n):=by
 refine ⟨?_,?_,?_,?_,?_,?_⟩ <;> simp [bare]
theorem OT {w:af} {X:Nat} {a0 a1 a2 a3 a4:Value} (h0:w.cell? ⟨X,0,none⟩=some a0) (h1:w.cell? ⟨X,1,none⟩=some a1) (h2:w.cell? ⟨X,2,none⟩=some a2) (h3:w.cell? ⟨X,3,none⟩=some a3) (h4:w.cell? ⟨X,4,none⟩=some a4) (hl:X < w.heap.size) (k:Int) (o n:bF) :
  ym (((((w.setCell ⟨X,0,none⟩ (.int .i64 k)).setCell ⟨X,1,none⟩ (.slice none 0 0)).setCell ⟨X,2,none⟩ (.string o)).setCell ⟨X,3,none⟩ (.string n)).setCell ⟨X,4,none⟩ (.slice none 0 0)) X (bare k o n):=by
 refine ⟨?_,?_,?_,?_,?_,by simpa using hl⟩
 ·rw [mO (by omega),mO (by omega),mO (by omega),mO (by omega)]; exact mS h0
 ·rw [mO (by omega),mO (by omega),mO (by omega)]; exact mS (by rw [mO (by omega)]; exact h1)
 ·rw [mO (by omega),mO (by omega)]; exact mS (by rw [mO (by omega),mO (by omega)]; exact h2)
 ·rw [mO (by omega)]; exact mS (by rw [mO (by omega),mO (by omega),mO (by omega)]; exact h3)
 exact mS (by rw [mO (by omega),mO (by omega),mO (by omega),mO (by omega)]; exact h4)
def VB (l:List Value) (R:Nat) (s:ByteArray) (p:Nat) (bad:Bool) (v:Value) (k:Nat) (u:Value) (w':World):Prop:=u=l.getD k undef∧(k=3→RdC w' R s p bad v)
structure GB (R:Nat) (s:ByteArray) (p:Nat) (bad:Bool) (v:Value) (X:Nat) (q:ER) (w:World) (listed:Array Bool) (w':World):Prop where
 rd:listed.getD 3 false=false→RdC w' R s p bad v
 box:ym w' X q
 onl:Onl R nZ w w'
 fr:gY w' X
theorem GB.step {R:Nat} {s:ByteArray} {p:Nat} {bad:Bool} {v:Value} {X:Nat} {q:ER} {w w':af} {listed:Array Bool} (h:GB R s p bad v X q w listed w') {i:Nat} (hls:listed.size=6) (h3:i ≠ 3):GB R s p bad v X q w (listed.setIfInBounds i true) w' :=
 ⟨fun k=>h.rd (by
  by_cases hi:i < 6
  ·rw [aO _ _ _ (by omega),if_neg (Ne.symm h3)] at k; exact k
  rw [show listed.setIfInBounds i true=listed by rw [Array.setIfInBounds_eq_of_size_le (by omega)]] at k; exact k),h.box,h.onl,h.fr⟩
theorem GB.called {R:Nat} {s:ByteArray} {p:Nat} {bad:Bool} {v:Value} {X:Nat} {q:ER} {w w' w'':af} {listed:Array Bool} (h:GB R s p bad v X q w listed w') (hls:listed.size=6) (hg:w'.grownBy w'' (some R)) (hX:X ≠ R):GB R s p bad v X q w (listed.setIfInBounds 3 true) w'' :=
 ⟨fun k=>(by rw [aO _ _ _ (by omega),if_pos rfl] at k; cases k),h.box.grown hg (by intro e; injection e with e; exact hX e),h.onl.trans0 (Onl.of_grown hg),dh h.fr (hg.block X h.box.2.2.2.2.2 (by intro e; injection e with e; exact hX e))⟩
theorem OU {s:ByteArray} {st:RS} (h:mR s oP (st.p + au s st.p) st.bad=false):eY s st=⟨2,[],⟨#[]⟩,ax s st.p,[]⟩∧aI s st=⟨st.p + au s st.p,st.bad,st.out⟩:=by
 have e:kZ s oP (bz s st)=false:=h;exact ⟨by unfold eY; rw [e]; rfl,by unfold aI; rw [e]; rfl⟩
theorem LW {s:ByteArray} {st:RS} (h:mR s oP (st.p + au s st.p) st.bad=true):eY s st=⟨3,[],ax s st.p,ax s (st.p + au s st.p + 2),[]⟩∧aI s st=⟨st.p + au s st.p + 2 + au s (st.p + au s st.p + 2),st.bad,st.out⟩:=by
 have e:kZ s oP (bz s st)=true:=h;exact ⟨by unfold eY; rw [e]; rfl,by unfold aI; rw [e]; rfl⟩
theorem LX (R:Nat) (s:bF) (st:RS) (base:Nat) (v:Value) (qs:List ER) (w:af) (h:RdF w R s st base v qs) (hR:R < base) (hB:base≤w.heap.size) (hs:s.size≤1000) (hp:st.p≤s.size) (hn:qs.length≤100000)
  (h0:mR s fT st.p st.bad=false) (h1:mR s jD st.p st.bad=false) :
  Calls prog 234 #[.pointer (some ⟨R,0,none⟩)] w (uR R s base v qs w ((st.out.length:Int),rU (eY s st) (judged (eY s st) (aI s st)))):=by
 have H:=ai h;have HP:=ai hp;clear h hp;go_enter func234,ntmps234;go_wp2_with fail;refine (lY R s fT st.p st.bad v w H.out.rd hs HP.out (by decide)).mono ?_;rintro e w1 ⟨rfl,hr1,hg1⟩;have VH:=ai (H.out.is_no hR h0 hr1 hg1);have UV:=ai (Onl.of_grown hg1);rw [h0];clear hr1 hg1 h0;go_wp2_with fail;refine (lY R s jD st.p st.bad v w1 VH.out.rd hs HP.out (by decide)).mono ?_;rintro e w2 ⟨rfl,hr2,hg2⟩;have VI:=ai (VH.out.is_no hR h1 hr2 hg2);have UB:=ai (UV.out.trans0 (Onl.of_grown hg2));rw [h1];clear hr2 hg2 h1 VH UV;go_wp2_with fail;refine (uG R s st.p st.bad v w2 VI.out.rd hs HP.out).mono ?_;rintro e w3 ⟨rfl,hr3,hg3⟩;have Zg:=ai (VI.out.over hR (Onl.of_grown hg3) hr3);have UX:=ai (UB.out.trans0 (Onl.of_grown hg3));have HP3:=ai (ku s st.p HP.out);have XG:=ai (zn s st.p HP.out);clear hr3 hg3 VI UB;obtain ⟨W4,VU⟩:∃ W4,W4=w3.alloc (.cells #[.int .i64 2,.slice none 0 0,.string ⟨#[]⟩,.string (ax s st.p),.slice none 0 0] 39):=⟨_,rfl⟩;have HV4:Hid (ym W4 w3.heap.size (bare 2 ⟨#[]⟩ (ax s st.p))):=by rw [VU]; exact OQ w3 2 ⟨#[]⟩ (ax s st.p)
 have HO4a:Hid (Onl R nZ w3 W4):=by rw [VU]; exact Onl.of_below ((TT _ _).alloc (TS _) _)
 have Wp:Hid (RdF W4 R s ⟨st.p + au s st.p,st.bad,st.out⟩ base v qs):=Zg.out.over hR HO4a.out (by rw [VU]; exact Zg.out.rd.below ((TT _ _).alloc (TS _) _));have UR:=ai (UX.out.trans0 HO4a.out);have HFR4:Hid (gY W4 w3.heap.size):=fun y=>by rw [VU]; simp
 have YJ:Hid (w3.heap.size ≠ R):=by have:=Zg.out.rd.lt; show _ ≠ _; omega
 have HX0:Hid (w.heap.size≤w3.heap.size):=UX.out.size;have Z5:Hid (w3.heap.size≤w3.heap.size):=TS _;go_wp2_with fail;rw [← VU];clear VU;obtain ⟨X,hX⟩:∃ X,X=w3.heap.size:=⟨_,rfl⟩;rw [← hX] at HV4 HFR4 YJ HX0;replace Z5:Hid (w3.heap.size≤X):=Nat.le_of_eq hX.symm;rw [← hX];clear hX;refine (lY R s oP (st.p + au s st.p) st.bad v W4 Wp.out.rd hs HP3.out (by decide)).mono ?_;rintro e w5 ⟨rfl,Y3,hg5⟩;have HV5:=ai (HV4.out.grown hg5 (by intro e; injection e with e; exact YJ.out e));have HFR5:=ai (dh HFR4.out (hg5.block X HV4.out.2.2.2.2.2 (by intro e; injection e with e; exact YJ.out e)));have UK:=ai (UR.out.trans0 (Onl.of_grown hg5));have YK:=ai (HO4a.out.trans0 (Onl.of_grown hg5));cases hc:mR s oP (st.p + au s st.p) st.bad;case false=>
  have ZU:=ai (Wp.out.is_no hR hc Y3 hg5);have EQ:=ai (OU hc);clear Y3 hg5 hc Wp UR HV4 HFR4;obtain ⟨x0,x1,x2,x3,x4,xl⟩:=HV5.out;replace x0:w5.cell? ⟨X,0,none⟩=some (.int .i64 2):=x0;replace x1:w5.cell? ⟨X,1,none⟩=some (.slice none 0 0):=x1;replace x2:w5.cell? ⟨X,2,none⟩=some (.string ⟨#[]⟩):=x2;replace x3:w5.cell? ⟨X,3,none⟩=some (.string (ax s st.p)):=x3;replace x4:w5.cell? ⟨X,4,none⟩=some (.slice none 0 0):=x4;go_wp2_with fail;refine (l5 (bare 2 ⟨#[]⟩ (ax s st.p)) w5 ⟨fun a ha=>(by cases ha),TW _,by show (ax s st.p).size≤maxLen; rw [XG.out]; have:=HP3.out; unfold maxLen; omega,TW _,TW _⟩ (by show (2:Int) ≠ 1; decide)).mono ?_;rintro e w6 ⟨rfl,X9⟩;have Vh:=ai (UK.out.trans0 (Onl.of_below X9));have XH:=ai (ZU.out.over hR (Onl.of_below X9) (ZU.out.rd.below X9));obtain ⟨y0,y1,y2,y3,y4,yl⟩:=HV5.out.below X9;replace y0:w6.cell? ⟨X,0,none⟩=some (.int .i64 2):=y0;replace y1:w6.cell? ⟨X,1,none⟩=some (.slice none 0 0):=y1;replace y2:w6.cell? ⟨X,2,none⟩=some (.string ⟨#[]⟩):=y2;replace y3:w6.cell? ⟨X,3,none⟩=some (.string (ax s st.p)):=y3;replace y4:w6.cell? ⟨X,4,none⟩=some (.slice none 0 0):=y4;clear x0 x1 x2 x3 x4 xl X9 HV5 ZU UK;cases hb:av (bare 2 ⟨#[]⟩ (ax s st.p)).e;case true=>
   have HE:Hid (eY s st=(bare 2 ⟨#[]⟩ (ax s st.p)).e∧judged (eY s st) (aI s st)=(⟨st.p + au s st.p,st.bad,st.out⟩:RS)):=by
    refine ⟨EQ.out.1,?_⟩;rw [EQ.out.1,EQ.out.2];exact if_pos hb
   clear hb;go_wp2_with fail;refine (Lr R s ((⟨st.p + au s st.p,st.bad,st.out⟩:RS)) base v qs (bare 2 ⟨#[]⟩ (ax s st.p)) w6 XH.out hR (TZ hB Vh.out.size) hn (vw _ _ _ _ _) (.inl ⟨rfl,rfl,rfl⟩) (fun g hg=>absurd hg (jX _ _ _ g))).mono ?_;rintro e w7 ⟨v7,rfl,hF7,Y4⟩;have HF7:=ai hF7;have HW7:=ai ((Vh.out.any v).trans Y4);clear hF7 Y4;go_wp2;exact bodyPost_ret (v:=.int .i64 (st.out.length:Int)) (by simp [results,Tryz.results234,go_sem]) rfl (by rw [HE.out.1,← HE.out.1,HE.out.2,HE.out.1]; exact ⟨v7,[bare 2 ⟨#[]⟩ (ax s st.p)],rfl,HF7.out,HW7.out,fun q hq g hg=>by rw [Ua] at hq; subst hq; exact absurd hg (jX _ _ _ g)⟩)
  have HE:Hid (eY s st=(bare 2 ⟨#[]⟩ (ax s st.p)).e∧judged (eY s st) (aI s st)=uE ((⟨st.p + au s st.p,st.bad,st.out⟩:RS))):=by
   refine ⟨EQ.out.1,?_⟩;rw [EQ.out.1,EQ.out.2];exact if_neg (fun e=>by have:=e.symm.trans hb; cases this)
  clear hb;have c2:=XH.out.rd.c2;have f2:=XH.out.rd.fr 2;have hl:=XH.out.rd.lt;have hxr:=YJ.out;have hrx:=Ne.symm YJ.out;have WN:Hid (Onl R nZ w (w6.setCell ⟨R,2,none⟩ (.bool true))):=Vh.out.at_own _ _;have HF7:Hid (RdF (w6.setCell ⟨R,2,none⟩ (.bool true)) R s (uE ((⟨st.p + au s st.p,st.bad,st.out⟩:RS))) base v qs):=XH.out.over hR ((Onl.refl R nZ w6).at_own _ _) XH.out.rd.hurt;go_wp2_with fail;refine (Lr R s (uE ((⟨st.p + au s st.p,st.bad,st.out⟩:RS))) base v qs (bare 2 ⟨#[]⟩ (ax s st.p)) _ HF7.out hR (TZ hB WN.out.size) hn (vw _ _ _ _ _) (.inl ⟨rfl,rfl,rfl⟩) (fun g hg=>absurd hg (jX _ _ _ g))).mono ?_;rintro e w8 ⟨v8,rfl,hF8,Ws⟩;have HF8:=ai hF8;have HW8:=ai ((WN.out.any v).trans Ws);clear hF8 Ws;go_wp2;exact bodyPost_ret (v:=.int .i64 (st.out.length:Int)) (by simp [results,Tryz.results234,go_sem,uE]) rfl (by rw [HE.out.1,← HE.out.1,HE.out.2,HE.out.1]; exact ⟨v8,[bare 2 ⟨#[]⟩ (ax s st.p)],rfl,HF8.out,HW8.out,fun q hq g hg=>by rw [Ua] at hq; subst hq; exact absurd hg (jX _ _ _ g)⟩)
 have ZU:=ai (Wp.out.is_yes hR hc Y3 hg5);have EQ:=ai (LW hc);have HP5:Hid (st.p + au s st.p + 2≤s.size):=zY hc;clear Y3 hg5 hc Wp UR HV4 HFR4;go_wp2_with fail;refine lZ 5 (fun _=>undef) (fun f=>{ tmps:=List.toArray (Value.pointer (some ⟨R,0,none⟩)::undef::.int .i64 0::undef::undef::undef::.pointer (some ⟨X,0,none⟩)::.pointer (some ⟨R,0,none⟩)::.bool false::undef::undef::undef::undef::undef::undef::undef::undef::undef::undef::undef::undef::undef::undef::undef::undef::undef::undef::undef::undef::undef::undef::undef::undef::undef::undef::undef::undef::undef::undef::undef::.pointer (some ⟨R,0,none⟩)::.bool false::undef::undef::undef::undef::undef::undef::undef::undef::undef::.pointer (some ⟨R,0,none⟩)::.string (ax s st.p)::.agg #[.int .i64 2,.slice none 0 0,.string ⟨#[]⟩,.string (ax s st.p),.slice none 0 0]::.pointer (some ⟨R,0,none⟩)::.bool true::f 0::f 1::f 2::f 3::f 4::undef::undef::undef::undef::undef::undef::undef::undef::undef::[]),defers:=[] }) (VB (Value.pointer (some ⟨X,3,none⟩)::.string (ax s st.p)::.pointer (some ⟨R,0,none⟩)::.string (ax s (st.p + au s st.p + 2))::.agg #[.int .i64 3,.slice none 0 0,.string (ax s st.p),.string (ax s (st.p + au s st.p + 2)),.slice none 0 0]::[]) R s ((st.p + au s st.p + 2) + au s (st.p + au s st.p + 2)) st.bad v) (GB R s (st.p + au s st.p + 2) st.bad v X (bare 2 ⟨#[]⟩ (ax s st.p)) w3) (by kernel_rfl) rfl (by decide +kernel) (by decide +kernel) rfl ⟨fun _=>ZU.out.rd.drewN 1,HV5.out,⟨YK.out.os,YK.out.tape,YK.out.output,YK.out.size,YK.out.block⟩,HFR5.out⟩ ?xW ?finB;case xW =>
  rintro i hi o ho listed f w' hls Vm hG hpre;have HG:=ai hG;have HM:Hid (∀ e ∈ o.after,Region.binds .any e=true→_):=hpre;clear hG hpre;have hc:i=0 ∨ i=1 ∨ i=2 ∨ i=3 ∨ i=4:=by omega
  clear hi
  repeat' rcases hc with rfl | hc
  ·cases ho;have HS:=ai (HG.out.step (i:=0) hls (by decide));refine aa rfl fun K HK=>?_;clear HM;dsimp only;go_simp;exact HK.out _ _ ⟨Value.pointer (some ⟨X,3,none⟩),by simp [upd],HS.out,⟨rfl,fun e=>absurd e (by decide)⟩,fun k u _ hu=>hu⟩
  ·cases ho;have e0:f 0=Value.pointer (some ⟨X,3,none⟩):=(HM.out ⟨0,.data⟩ (by simp) rfl).1;have x3:w'.cell? ⟨X,3,none⟩=some (.string (ax s st.p)):=HG.out.box.2.2.2.1;have HS:=ai (HG.out.step (i:=1) hls (by decide));refine aa rfl fun K HK=>?_;clear HM;simp only [e0];go_simp;exact HK.out _ _ ⟨Value.string (ax s st.p),by simp [upd,e0],HS.out,⟨rfl,fun e=>absurd e (by decide)⟩,fun k u _ hu=>hu⟩
  ·cases ho;have HS:=ai (HG.out.step (i:=2) hls (by decide));refine aa rfl fun K HK=>?_;clear HM;dsimp only;go_simp;exact HK.out _ _ ⟨Value.pointer (some ⟨R,0,none⟩),by simp [upd],HS.out,⟨rfl,fun e=>absurd e (by decide)⟩,fun k u _ hu=>hu⟩
  ·cases ho;have e2:f 2=Value.pointer (some ⟨R,0,none⟩):=(HM.out ⟨2,.data⟩ (by simp) rfl).1;have hrd:=ai (HG.out.rd (IM Vm hls (by omega)));refine aa rfl fun K HK=>?_;clear HM;simp only [e2];go_simp;refine (uG R s (st.p + au s st.p + 2) st.bad v w' hrd.out hs HP5.out).mono ?_;rintro e w7 ⟨rfl,hr7,WO⟩;have HS:=ai (HG.out.called hls WO YJ.out);have HR7:=ai hr7;clear hr7 WO;go_wp2_with fail;exact HK.out _ _ ⟨Value.string (ax s (st.p + au s st.p + 2)),by simp [upd,e2],HS.out,⟨rfl,fun _=>HR7.out⟩,fun k u hk hu=>⟨hu.1,fun e=>absurd e hk⟩⟩
  cases ho;have e1:f 1=Value.string (ax s st.p):=(HM.out ⟨1,.data⟩ (by simp) rfl).1;have e3:f 3=Value.string (ax s (st.p + au s st.p + 2)):=(HM.out ⟨3,.data⟩ (by simp) rfl).1;have HS:=ai (HG.out.step (i:=4) hls (by decide));refine aa rfl fun K HK=>?_;clear HM;simp only [e1,e3];go_simp;exact HK.out _ _ ⟨Value.agg #[.int .i64 3,.slice none 0 0,.string (ax s st.p),.string (ax s (st.p + au s st.p + 2)),.slice none 0 0],by simp [upd,e1,e3],HS.out,⟨rfl,fun e=>absurd e (by decide)⟩,fun k u _ hu=>hu⟩
 case finB =>
  rintro o ho listed f w' hG hall;obtain rfl:=Option.some.inj ho;have e4:f 4=Value.agg #[.int .i64 3,.slice none 0 0,.string (ax s st.p),.string (ax s (st.p + au s st.p + 2)),.slice none 0 0]:=(hall 4 (by omega)).1;have Y9:=ai ((hall 3 (by omega)).2 rfl);have HG:=ai hG;obtain ⟨x0,x1,x2,x3,x4,xl⟩:=hG.box;have f0:=hG.fr 0;have f1:=hG.fr 1;have f2:=hG.fr 2;have f3:=hG.fr 3;have f4:=hG.fr 4;clear ho hall hG;refine wpOp_step rfl (fun K hK=>?_);have HK:Hid (∀ a w,_→K a w):=hK;clear hK;simp only [e4];go_simp;refine HK.out _ _ ?_;clear HK;obtain ⟨wz,hwz⟩:∃ wz,wz=(((((w'.setCell ⟨X,0,none⟩ (.int .i64 3)).setCell ⟨X,1,none⟩ (.slice none 0 0)).setCell ⟨X,2,none⟩ (.string (ax s st.p))).setCell ⟨X,3,none⟩ (.string (ax s (st.p + au s st.p + 2)))).setCell ⟨X,4,none⟩ (.slice none 0 0)):=⟨_,rfl⟩;have HO3z:Hid (Onl R nZ w3 wz):=by rw [hwz]; exact ((((HG.out.onl.at_new Z5.out _ _).at_new Z5.out _ _).at_new Z5.out _ _).at_new Z5.out _ _).at_new Z5.out _ _
  have HRz:Hid (RdC wz R s (st.p + au s st.p + 2 + au s (st.p + au s st.p + 2)) st.bad v):=by rw [hwz]; exact ((((Y9.out.other YJ.out _ _).other YJ.out _ _).other YJ.out _ _).other YJ.out _ _).other YJ.out _ _
  have HVz:Hid (ym wz X (bare 3 (ax s st.p) (ax s (st.p + au s st.p + 2)))):=by rw [hwz]; exact OT x0 x1 x2 x3 x4 xl _ _ _
  clear HV5 ZU UK YK HFR5;have ZU:=ai (Zg.out.over hR HO3z.out HRz.out);have UK:=ai (UX.out.trans0 HO3z.out);rw [← hwz];clear hwz x0 x1 x2 x3 x4 xl f0 f1 f2 f3 f4 e4 HRz HO3z HG Y9;obtain ⟨x0,x1,x2,x3,x4,xl⟩:=HVz.out;replace x0:wz.cell? ⟨X,0,none⟩=some (.int .i64 3):=x0;replace x1:wz.cell? ⟨X,1,none⟩=some (.slice none 0 0):=x1;replace x2:wz.cell? ⟨X,2,none⟩=some (.string (ax s st.p)):=x2;replace x3:wz.cell? ⟨X,3,none⟩=some (.string (ax s (st.p + au s st.p + 2))):=x3;replace x4:wz.cell? ⟨X,4,none⟩=some (.slice none 0 0):=x4;go_wp2_with fail;refine (l5 (bare 3 (ax s st.p) (ax s (st.p + au s st.p + 2))) wz ⟨fun a ha=>(by cases ha),by show (ax s st.p).size≤maxLen; rw [XG.out]; have:=HP3.out; unfold maxLen; omega,by show (ax s (st.p + au s st.p + 2)).size≤maxLen; rw [zn s _ HP5.out]; have:=ku s _ HP5.out; unfold maxLen; omega,TW _,TW _⟩ (by show (3:Int) ≠ 1; decide)).mono ?_;rintro e w6 ⟨rfl,X9⟩;have Vh:=ai (UK.out.trans0 (Onl.of_below X9));have XH:=ai (ZU.out.over hR (Onl.of_below X9) (ZU.out.rd.below X9));obtain ⟨y0,y1,y2,y3,y4,yl⟩:=HVz.out.below X9;replace y0:w6.cell? ⟨X,0,none⟩=some (.int .i64 3):=y0;replace y1:w6.cell? ⟨X,1,none⟩=some (.slice none 0 0):=y1;replace y2:w6.cell? ⟨X,2,none⟩=some (.string (ax s st.p)):=y2;replace y3:w6.cell? ⟨X,3,none⟩=some (.string (ax s (st.p + au s st.p + 2))):=y3;replace y4:w6.cell? ⟨X,4,none⟩=some (.slice none 0 0):=y4;clear x0 x1 x2 x3 x4 xl X9 HVz ZU UK;cases hb:av (bare 3 (ax s st.p) (ax s (st.p + au s st.p + 2))).e;case true=>
   have HE:Hid (eY s st=(bare 3 (ax s st.p) (ax s (st.p + au s st.p + 2))).e∧judged (eY s st) (aI s st)=(⟨st.p + au s st.p + 2 + au s (st.p + au s st.p + 2),st.bad,st.out⟩:RS)):=by
    refine ⟨EQ.out.1,?_⟩;rw [EQ.out.1,EQ.out.2];exact if_pos hb
   clear hb;go_wp2_with fail;refine (Lr R s ((⟨st.p + au s st.p + 2 + au s (st.p + au s st.p + 2),st.bad,st.out⟩:RS)) base v qs (bare 3 (ax s st.p) (ax s (st.p + au s st.p + 2))) w6 XH.out hR (TZ hB Vh.out.size) hn (vw _ _ _ _ _) (.inl ⟨rfl,rfl,rfl⟩) (fun g hg=>absurd hg (jX _ _ _ g))).mono ?_;rintro e w7 ⟨v7,rfl,hF7,Y4⟩;have HF7:=ai hF7;have HW7:=ai ((Vh.out.any v).trans Y4);clear hF7 Y4;go_wp2;exact bodyPost_ret (v:=.int .i64 (st.out.length:Int)) (by simp [results,Tryz.results234,go_sem]) rfl (by rw [HE.out.1,← HE.out.1,HE.out.2,HE.out.1]; exact ⟨v7,[bare 3 (ax s st.p) (ax s (st.p + au s st.p + 2))],rfl,HF7.out,HW7.out,fun q hq g hg=>by rw [Ua] at hq; subst hq; exact absurd hg (jX _ _ _ g)⟩)
  have HE:Hid (eY s st=(bare 3 (ax s st.p) (ax s (st.p + au s st.p + 2))).e∧judged (eY s st) (aI s st)=uE ((⟨st.p + au s st.p + 2 + au s (st.p + au s st.p + 2),st.bad,st.out⟩:RS))):=by
   refine ⟨EQ.out.1,?_⟩;rw [EQ.out.1,EQ.out.2];exact if_neg (fun e=>by have:=e.symm.trans hb; cases this)
  clear hb;have c2:=XH.out.rd.c2;have f2:=XH.out.rd.fr 2;have hl:=XH.out.rd.lt;have hxr:=YJ.out;have hrx:=Ne.symm YJ.out;have WN:Hid (Onl R nZ w (w6.setCell ⟨R,2,none⟩ (.bool true))):=Vh.out.at_own _ _;have HF7:Hid (RdF (w6.setCell ⟨R,2,none⟩ (.bool true)) R s (uE ((⟨st.p + au s st.p + 2 + au s (st.p + au s st.p + 2),st.bad,st.out⟩:RS))) base v qs):=XH.out.over hR ((Onl.refl R nZ w6).at_own _ _) XH.out.rd.hurt;go_wp2_with fail;refine (Lr R s (uE ((⟨st.p + au s st.p + 2 + au s (st.p + au s st.p + 2),st.bad,st.out⟩:RS))) base v qs (bare 3 (ax s st.p) (ax s (st.p + au s st.p + 2))) _ HF7.out hR (TZ hB WN.out.size) hn (vw _ _ _ _ _) (.inl ⟨rfl,rfl,rfl⟩) (fun g hg=>absurd hg (jX _ _ _ g))).mono ?_;rintro e w8 ⟨v8,rfl,hF8,Ws⟩;have HF8:=ai hF8;have HW8:=ai ((WN.out.any v).trans Ws);clear hF8 Ws;go_wp2;exact bodyPost_ret (v:=.int .i64 (st.out.length:Int)) (by simp [results,Tryz.results234,go_sem,uE]) rfl (by rw [HE.out.1,← HE.out.1,HE.out.2,HE.out.1]; exact ⟨v8,[bare 3 (ax s st.p) (ax s (st.p + au s st.p + 2))],rfl,HF8.out,HW8.out,fun q hq g hg=>by rw [Ua] at hq; subst hq; exact absurd hg (jX _ _ _ g)⟩)
structure PL (w1 wr:World) (R X:Nat) (s:ByteArray) (xs:List Al) (p:Nat) (bad:Bool) (v vA:Value):Prop where
 rd:RdC wr R s p bad v
 onl:Onl R nZ w1 wr
 c0:wr.cell? ⟨X,0,none⟩=some (.int .i64 1)
 c1:wr.cell? ⟨X,1,none⟩=some vA
 c2:wr.cell? ⟨X,2,none⟩=some (.string ⟨#[]⟩)
 c3:wr.cell? ⟨X,3,none⟩=some (.string ⟨#[]⟩)
 c4:wr.cell? ⟨X,4,none⟩=some (.slice none 0 0)
 fr:gY wr X
 lt:X < wr.heap.size
 own:wr.ownsRow (X + 1) 43 2 vA xs.length (pairs xs)
theorem PL.moved {w1 wr w':af} {R X:Nat} {s:ByteArray} {xs:List Al} {p p':Nat} {bad bad':Bool} {v vA:Value} (h:PL w1 wr R X s xs p bad v vA) (hRX:R < X) (hg:wr.grownBy w' (some R)) (hr:RdC w' R s p' bad' v):PL w1 w' R X s xs p' bad' v vA:=by
 have hne:some X ≠ some R:=by intro e; injection e with e; omega
 refine ⟨hr,h.onl.trans0 (Onl.of_grown hg),hg.cell h.c0 hne,hg.cell h.c1 hne,hg.cell h.c2 hne,hg.cell h.c3 hne,hg.cell h.c4 hne,dh h.fr (hg.block X h.lt hne),TP h.lt hg.size,h.own.kept hg (.inr ?_)⟩;intro e; have:=(h.own.lt R e).1; omega
theorem PL.made {w1 wr:af} {R X:Nat} {s:ByteArray} {xs:List Al} {p:Nat} {bad:Bool} {v vA:Value} (h:PL w1 wr R X s xs p bad v vA) (o:Obj):PL w1 (wr.alloc o) R X s xs p bad v vA:=by
 have hg:=World.grownBy_alloc wr o none;exact ⟨h.rd.grown hg (by simp),h.onl.trans0 (Onl.of_below ((TT _ _).alloc (TS _) _)),hg.cell h.c0 (by simp),hg.cell h.c1 (by simp),hg.cell h.c2 (by simp),hg.cell h.c3 (by simp),hg.cell h.c4 (by simp),dh h.fr (hg.block X h.lt (by simp)),TP h.lt hg.size,h.own.alloc o⟩
theorem PL.aset {w1 wr:af} {R X:Nat} {s:ByteArray} {xs:List Al} {p:Nat} {bad:Bool} {v vA:Value} (h:PL w1 wr R X s xs p bad v vA) (hRX:R < X) (h1:w1.heap.size≤X) {A:Nat} (hA:X < A) (hv:vA.ownBlock ≠ some A) (o:Nat) (u:Value):PL w1 (wr.setCell ⟨A,o,none⟩ u) R X s xs p bad v vA:=by
 have hb:∀ k,k ≠ A→(wr.setCell ⟨A,o,none⟩ u).heap[k]?=wr.heap[k]?:=fun k hk=>Below.heap_setCell wr _ _ k hk;refine ⟨h.rd.other (by omega) _ _,h.onl.at_new (by omega) _ _,?_,?_,?_,?_,?_,dh h.fr (hb X (by omega)),by simpa using h.lt,jG h.own fun g hg=>hb g (fun e=>hv (by rw [hg,e]))⟩
 all_goals rw [Ul (w:=wr) (hb X (by omega))]
 ·exact h.c0
 ·exact h.c1
 ·exact h.c2
 ·exact h.c3
 exact h.c4
theorem LY (xs:List Al) (a:Al):pairs (xs ++ [a])=pairs xs ++ [.string a.t,.string a.s]:=by simp [pairs]
theorem PL.app {w1 wr w':af} {R X:Nat} {s:ByteArray} {xs:List Al} {p:Nat} {bad:Bool} {v vA vB:Value} (h:PL w1 wr R X s xs p bad v vA) (hRX:R < X) (h1:w1.heap.size≤X) (a:Al) (hown:w'.ownsRow (X + 1) 43 2 vB (xs.length + 1) (pairs xs ++ [.string a.t,.string a.s])) (hg:wr.grownBy w' vA.ownBlock):PL w1 (w'.setCell ⟨X,1,none⟩ vB) R X s (xs ++ [a]) p bad v vB:=by
 have hX:some X ≠ vA.ownBlock:=fun e=>by have:=(h.own.lt X e.symm).1; omega
 have hR:some R ≠ vA.ownBlock:=fun e=>by have:=(h.own.lt R e.symm).1; omega
 have ho:Onl R nZ w1 w':=⟨hg.os.trans h.onl.os,hg.tape.trans h.onl.tape,hg.output.trans h.onl.output,TZ h.onl.size hg.size,fun k hk h2 h3=>(hg.block k (TP hk h.onl.size) (fun e=>by have:=(h.own.lt k e.symm).1; omega)).trans (h.onl.block k hk h2 h3)⟩;refine ⟨(h.rd.grown hg hR).other (by omega) _ _,ho.at_new h1 _ _,?_,mS (hg.cell h.c1 hX),?_,?_,?_,fun j=>?_,?_,?_⟩
 ·rw [mO (by omega)]; exact hg.cell h.c0 hX
 ·rw [mO (by omega)]; exact hg.cell h.c2 hX
 ·rw [mO (by omega)]; exact hg.cell h.c3 hX
 ·rw [mO (by omega)]; exact hg.cell h.c4 hX
 ·simpa using dh h.fr (hg.block X h.lt hX) j
 ·simpa using TP h.lt hg.size
 rw [LY,T9,List.length_singleton];exact ownsRow_setCell_below hown (by show X < X + 1; omega) _
def wbad (R:Nat) (w:World):Nat:=match w.cell? ⟨R,2,none⟩ with
 | some (.bool true)=>0
 | _=>1
theorem RdC.wbad0 {w:af} {R:Nat} {s:ByteArray} {p:Nat} {v:Value} (h:RdC w R s p true v):wbad R w=0:=by
 simp [Go.Proofs.YtajkkeikihhejaaGreat.wbad,h.c2]
theorem RdC.wbad1 {w:af} {R:Nat} {s:ByteArray} {p:Nat} {v:Value} (h:RdC w R s p false v):wbad R w=1:=by
 simp [Go.Proofs.YtajkkeikihhejaaGreat.wbad,h.c2]
theorem Aw (w:af) (a b:bF) (g:Nat) (hg:w.heap.size=g):∀ j u,[Value.string a,.string b][j]?=some u→(w.alloc (.cells #[.string a,.string b] 43)).cell? ((⟨g,0,none⟩:Addr).add j)=some u:=by
 intro j u hu;subst hg;rw [show (⟨w.heap.size,0,none⟩:Addr).add j=⟨w.heap.size,0 + j,none⟩ by simp [Addr.add]; omega,Um];have:=World.cell?_alloc_mark w #[.string a,.string b] 43 (0,0) j;rw [this];simpa using hu
def qM (s:ByteArray) (st:RS):Int × RS:=match dD s (s.size + 1) [] (kr fT st) with
 | (some xs,st')=>((st'.out.length:Int),rU ⟨1,xs,⟨#[]⟩,⟨#[]⟩,[]⟩ st')
 | (none,st')=>(0,st')
theorem Jj {s:ByteArray} {st st':RS} {xs:List Al} (h:dD s (s.size + 1) [] (kr fT st)=(some xs,st')):qM s st=((st'.out.length:Int),rU ⟨1,xs,⟨#[]⟩,⟨#[]⟩,[]⟩ st'):=by simp only [qM,h]
theorem Jk {s:ByteArray} {st st':RS} (h:dD s (s.size + 1) [] (kr fT st)=(none,st')):qM s st=(0,st'):=by simp only [qM,h]
theorem Jl (s:bF) (n:Nat) (xs:List Al) (p:Nat) (o:List Ex):dD s n xs ⟨p,true,o⟩=(none,⟨p,true,o⟩):=by
 cases n with
 | zero=>rfl
 | succ n=>rfl
structure PairIs (s:ByteArray) (p:Nat) (o:List Ex) (a:Al) (pb:Nat):Prop where
 a:(⟨ax s p,x9 s (bz s ⟨p,false,o⟩)⟩:Al)=a
 b:aV s (bz s ⟨p,false,o⟩)=⟨pb,false,o⟩
theorem LZ {s:ByteArray} {p:Nat} {o:List Ex} (h:mR s uD (p + au s p) false=false):PairIs s p o ⟨ax s p,⟨#[]⟩⟩ (p + au s p):=by
 have e:kZ s uD (bz s ⟨p,false,o⟩)=false:=h;exact ⟨by unfold x9; rw [e]; rfl,by unfold aV; rw [e]; rfl⟩
theorem Jm {s:ByteArray} {p:Nat} {o:List Ex} (h:mR s uD (p + au s p) false=true):PairIs s p o ⟨ax s p,ax s (p + au s p + 1)⟩ (p + au s p + 1 + au s (p + au s p + 1)):=by
 have e:kZ s uD (bz s ⟨p,false,o⟩)=true:=h;exact ⟨by unfold x9; rw [e]; rfl,by unfold aV; rw [e]; rfl⟩
theorem Gu {s:ByteArray} {p pb n:Nat} {o:List Ex} {a:Al} {xs:List Al} (h:PairIs s p o a pb) (h1:mR s fe pb false=true):dD s (n + 1) xs ⟨p,false,o⟩=(some (xs ++ [a]),⟨pb + 1,false,o⟩):=by
 have e:kZ s fe ⟨pb,false,o⟩=true:=h1;unfold dD;rw [h.a,h.b,e]; rfl
theorem Gv {s:ByteArray} {p pb n:Nat} {o:List Ex} {a:Al} {xs:List Al} (h:PairIs s p o a pb) (h1:mR s fe pb false=false) (h2:mR s lX pb false=true):dD s (n + 1) xs ⟨p,false,o⟩=dD s n (xs ++ [a]) ⟨pb + 1,false,o⟩:=by
 have e:kZ s fe ⟨pb,false,o⟩=false:=h1;have e2:kZ s lX ⟨pb,false,o⟩=true:=h2
 conv=>lhs; unfold dD
 rw [h.a,h.b,e,e2]; rfl
theorem L6 {s:ByteArray} {p pb n:Nat} {o:List Ex} {a:Al} {xs:List Al} (h:PairIs s p o a pb) (h1:mR s fe pb false=false) (h2:mR s lX pb false=false):dD s (n + 1) xs ⟨p,false,o⟩=dD s n (xs ++ [a]) ⟨pb,true,o⟩:=by
 have e:kZ s fe ⟨pb,false,o⟩=false:=h1;have e2:kZ s lX ⟨pb,false,o⟩=false:=h2
 conv=>lhs; unfold dD
 rw [h.a,h.b,e,e2]; rfl
theorem capOf {w:af} {base size n m cap:Nat} {e:TypeId} {ad:Option Addr} {xs:List Value} (h:w.ownsRow base e size (.slice ad n cap) m xs) (hm:m=n:=by rfl):n≤cap:=by
 rcases h.2 with ⟨e1,h0⟩ | ⟨g,cap',cur,e1,-,-,hnc,-⟩
 ·injection e1 with _ e2 e3; omega
 injection e1 with _ e2 e3; omega
theorem PL.node {w1 wr:af} {R X:Nat} {s:ByteArray} {xs:List Al} {p:Nat} {bad:Bool} {v vA:Value} (h:PL w1 wr R X s xs p bad v vA) (h1:w1.heap.size≤X) {base:Nat} (hb:base≤w1.heap.size):∃ ad cap,vA=.slice ad xs.length cap∧NewQ base wr ⟨⟨1,xs,⟨#[]⟩,⟨#[]⟩,[]⟩,ad,cap,none,0⟩∧∀ g,oJ ⟨⟨1,xs,⟨#[]⟩,⟨#[]⟩,[]⟩,ad,cap,none,0⟩ g→X < g:=by
 obtain ⟨ad,cap,e,h2,h3,h4⟩:=RB h.own rfl;have hK:∀ g,¬ bK ⟨⟨1,xs,⟨#[]⟩,⟨#[]⟩,[]⟩,ad,cap,none,0⟩ g:=fun g hg=>hg.1 rfl;have hA:∀ g,oJ ⟨⟨1,xs,⟨#[]⟩,⟨#[]⟩,[]⟩,ad,cap,none,0⟩ g→X + 1≤g∧g < wr.heap.size∧gY wr g:=by
  rintro g (hg | hg)
  ·exact h4 g hg.1 hg.2
  exact absurd hg (hK g)
 refine ⟨ad,cap,e,⟨h3,fun h=>absurd rfl h,⟨h2,.inl rfl⟩,fun g hg=>⟨?_,(hA g hg).2⟩,fun g _ hg=>hK g hg,capOf (e ▸ h.own)⟩,fun g hg=>(hA g hg).1⟩;have:=(hA g hg).1;omega
theorem L8 (R:Nat) (s:bF) (st:RS) (base:Nat) (v:Value) (qs:List ER) (w:af) (h:RdF w R s st base v qs) (hR:R < base) (hB:base≤w.heap.size) (hs:s.size≤1000) (hp:st.p≤s.size) (hn:qs.length≤100000)
  (h0:mR s fT st.p st.bad=true) :
  Calls prog 234 #[.pointer (some ⟨R,0,none⟩)] w (uR R s base v qs w (qM s st)):=by
 obtain ⟨iA,hiA,zA0,zA1,zA2⟩:=info_parts (P:=prog) (e:=43) (z:=.agg #[.string ⟨#[]⟩,.string ⟨#[]⟩]) (size:=2) (bytes:=32) (by kernel_rfl);have YB:Hid (prog.info? 43=some iA∧iA.zero=some (.agg #[.string ⟨#[]⟩,.string ⟨#[]⟩])∧iA.size=2∧iA.bytes=32):=⟨hiA,zA0,zA1,zA2⟩;have H:=ai h;have HP:=ai hp
 have hbad:st.bad=false:=by cases e:st.bad with
  | false=>rfl
  | true=>rw [e] at h0; cases h0
 have HBD:=ai hbad;have HP1:Hid (st.p + 5≤s.size):=zY h0;clear h hp hiA zA0 zA1 zA2 hbad;go_enter func234,ntmps234;go_wp2_with fail;refine (lY R s fT st.p st.bad v w H.out.rd hs HP.out (by decide)).mono ?_;rintro e w1 ⟨rfl,hr1,hg1⟩;have VH:=ai (H.out.is_yes hR h0 hr1 hg1);have UV:=ai (Onl.of_grown hg1);rw [h0];clear hr1 hg1 h0;obtain ⟨W2,hW2⟩:∃ W2,W2=w1.alloc (.cells #[.int .i64 1,.slice none 0 0,.string ⟨#[]⟩,.string ⟨#[]⟩,.slice none 0 0] 39):=⟨_,rfl⟩;have HL2:Hid (PL w1 W2 R w1.heap.size s [] (st.p + 5) false v (.slice none 0 0)):=by
  rw [hW2];have hrd:RdC w1 R s (st.p + 5) false v:=by have:=VH.out.rd; rw [show (kr fT st).bad=false from HBD.out] at this; exact this
  refine ⟨hrd.below ((TT _ _).alloc (TS _) _),Onl.of_below ((TT _ _).alloc (TS _) _),by simp,by simp,by simp,by simp,by simp,fun j=>by simp,by simp,World.ownsRow_nil _ _ _ _⟩
 have HX0:Hid (w.heap.size≤w1.heap.size):=UV.out.size;have Ya:Hid (R < w1.heap.size):=VH.out.rd.lt;have Xi:Hid (w1.heap.size≤w1.heap.size):=TS _;go_wp2_with fail;rw [← hW2];clear hW2;obtain ⟨X,hX⟩:∃ X,X=w1.heap.size:=⟨_,rfl⟩;replace HL2:Hid (PL w1 W2 R X s [] (st.p + 5) false v (.slice none 0 0)):=by rw [hX]; exact HL2
 replace HX0:Hid (w.heap.size≤X):=by rw [hX]; exact HX0
 replace Ya:Hid (R < X):=by rw [hX]; exact Ya
 replace Xi:Hid (w1.heap.size≤X):=by rw [hX]; exact Xi
 rw [← hX];clear hX;go_loopw [14] (fun _ wr=>∃ (n p:Nat) (bad:Bool) (xs:List Al) (vA:Value),Hid (p≤s.size)∧Hid (dD s n xs ⟨p,bad,st.out⟩=dD s (s.size + 1) [] (kr fT st))∧Hid (bad=false→s.size - p < n∧xs.length + 5≤p)∧Hid (PL w1 wr R X s xs p bad v vA)) (fun _ wr=>s.size - wat R wr + wbad R wr);case atStart=>exact ⟨s.size + 1,st.p + 5,false,[],.slice none 0 0,HP1.out,by show _=_; unfold kr; rw [HBD.out]; rfl,fun _=>⟨by omega,by simp⟩,HL2.out⟩
 obtain ⟨n,p,bad,xs,vA,HPL,HPP,HLN,HL⟩:=hrel;clear HL2;have r2:=HL.out.rd.c2;have rl:=HL.out.rd.lt;cases bad;case true=>
  have EQ:=ai (Jk (HPP.out.symm.trans (Jl s n xs p st.out)));have HF:=ai (VH.out.over hR HL.out.onl HL.out.rd);have HO:=ai (UV.out.trans0 HL.out.onl);go_wp2;exact bodyPost_ret (v:=.int .i64 0) (by simp [results,Tryz.results234,go_sem]) rfl (by rw [EQ.out]; exact ⟨v,[],rfl,by rw [List.append_nil]; exact HF.out,HO.out.any v,fun q hq=>by cases hq⟩)
 obtain ⟨m,hm⟩:∃ m,n=m + 1:=⟨n - 1,by have:=(HLN.out rfl).1; omega⟩;subst hm;have HPW:=ai (ku s p HPL.out);have HLN1:=ai (HLN.out rfl).1;have HLN2:=ai (HLN.out rfl).2;clear HLN;go_wp2_with fail;refine (uG R s p false v wr HL.out.rd hs HPL.out).mono ?_;rintro e w4 ⟨rfl,hr4,hg4⟩;have HL4:=ai (HL.out.moved Ya.out hg4 hr4);have HPLC:=ai HL.out.rd.place;have HPLB:=ai HL.out.rd.wbad1;clear hr4 hg4 HL r2 rl;obtain ⟨W5,Vb⟩:∃ W5,W5=w4.alloc (.cells #[.string (ax s p),.string ⟨#[]⟩] 43):=⟨_,rfl⟩;have HL5:Hid (PL w1 W5 R X s xs (p + au s p) false v vA):=by rw [Vb]; exact HL4.out.made _
 have HA0:Hid (W5.cell? ⟨w4.heap.size,0,none⟩=some (.string (ax s p))):=by show _=_; rw [Vb]; simp
 have HA1:Hid (W5.cell? ⟨w4.heap.size,1,none⟩=some (.string ⟨#[]⟩)):=by show _=_; rw [Vb]; simp
 have HAF:Hid (gY W5 w4.heap.size):=fun j=>by rw [Vb]; simp
 have UN:Hid (w4.heap.size < W5.heap.size):=by show _ < _; rw [Vb]; simp
 have HAX:Hid (X < w4.heap.size):=HL4.out.lt;have HAV:Hid (vA.ownBlock ≠ some w4.heap.size):=fun e=>by have:=(HL4.out.own.lt _ e).2; omega
 go_wp2_with fail;rw [← Vb];clear Vb;obtain ⟨A,hA⟩:∃ A,A=w4.heap.size:=⟨_,rfl⟩;rw [← hA] at HA0 HA1 HAF UN HAX HAV;rw [← hA];clear hA HL4;refine (lY R s uD (p + au s p) false v W5 HL5.out.rd hs HPW.out (by decide)).mono ?_;rintro e w6 ⟨rfl,We,XV⟩;have ZT:Hid (some A ≠ some R):=by intro e; injection e with e; have:=Ya.out; have:=HAX.out; omega
 have HB0:=ai (XV.cell HA0.out ZT.out);have HB1:=ai (XV.cell HA1.out ZT.out);have HBF:=ai (dh HAF.out (XV.block A UN.out ZT.out));have Yq:=ai (TP UN.out XV.size);cases hc:mR s uD (p + au s p) false
 case' false =>
  rw [zo hc] at We;have HL6:=ai (HL5.out.moved Ya.out XV We);have PI:=ai (LZ (o:=st.out) hc);have HPB:=HPW;have HPG:Hid (p≤p + au s p):=Nat.le_add_right _ _;clear We XV hc HL5 HA0 HA1 HAF UN;have a0:=HB0.out;have a1:=HB1.out;have k1:=HL6.out.c1;obtain ⟨W9,Yo⟩:∃ W9,W9=w6.alloc (.cells #[.string (ax s p),.string ((⟨#[]⟩:ByteArray))] 43):=⟨_,rfl⟩;have Xa:Hid (PL w1 W9 R X s xs (p + au s p) false v vA):=by rw [Yo]; exact HL6.out.made _
  have Wi:Hid (∀ j u,[Value.string (ax s p),.string ((⟨#[]⟩:ByteArray))][j]?=some u→W9.cell? ((⟨w6.heap.size,0,none⟩:Addr).add j)=some u):=by rw [Yo]; exact Aw w6 _ _ _ (rfl)
  have Zq:Hid (X + 1≤W9.heap.size):=Xa.out.lt;have hxs:xs.length≤1000:=by have:=HLN2.out; have:=HPL.out; omega
  go_wp2_with (at_builtin; rw [← Yo]; clear Yo; refine wpList_append_own _ rfl _ _ 36 rfl (X + 1) 43 iA (.agg #[.string ⟨#[]⟩,.string ⟨#[]⟩]) 2 32 underlying36 YB.out.1 YB.out.2.1 YB.out.2.2.1 YB.out.2.2.2 rfl (by decide) vA xs.length (pairs xs) rfl Xa.out.own ⟨w6.heap.size,0,none⟩ 1 1 [Value.string (ax s p),.string ((⟨#[]⟩:ByteArray))] rfl rfl Wi.out (by intro u hu; simp at hu; rcases hu with rfl | rfl <;> rfl) (by unfold maxLen; omega) (by omega) Zq.out ?_);intro vB w10 VO Vv _;obtain ⟨gB,cB,rfl⟩:=fJ VO;have Yb:some X ≠ vA.ownBlock:=fun e=>by have:=(Xa.out.own.lt X e.symm).1; omega
  have k10:=Vv.cell Xa.out.c1 Yb;have f10:=dh Xa.out.fr (Vv.block X Xa.out.lt Yb) 1;have l10:=TP Xa.out.lt Vv.size;have Ww:=ai (Xa.out.app Ya.out Xi.out ⟨ax s p,(⟨#[]⟩:ByteArray)⟩ VO Vv);clear VO Vv a0 a1 k1 Xa Yb Wi Zq HL6;obtain ⟨P,hP⟩:∃ P,P=p + au s p:=⟨_,rfl⟩;obtain ⟨S2,hS2⟩:∃ S2:ByteArray,S2=⟨#[]⟩:=⟨_,rfl⟩;rw [← hP] at Ww PI HPB HPG;rw [← hS2] at Ww PI;clear hP hS2
 case' true =>
  rw [uF hc] at We;have HL6:=ai (HL5.out.moved Ya.out XV We);have PI:=ai (Jm (o:=st.out) hc);have HPH:Hid (p + au s p + 1≤s.size):=zY hc;have HPB:=ai (ku s _ HPH.out);have HPG:Hid (p≤p + au s p + 1 + au s (p + au s p + 1)):=by show _≤_; omega
  clear We XV hc HL5 HA0 HA1 HAF UN;go_wp2_with fail;refine (uG R s (p + au s p + 1) false v w6 HL6.out.rd hs HPH.out).mono ?_;rintro e w7 ⟨rfl,hr7,WO⟩;have HL7:=ai (HL6.out.moved Ya.out WO hr7);have VD:=ai (WO.cell HB0.out ZT.out);have a1:=WO.cell HB1.out ZT.out;have hcf:=dh HBF.out (WO.block A Yq.out ZT.out);have f1:=hcf 1;have hcl:=TP Yq.out WO.size;obtain ⟨W8,Ws⟩:∃ W8,W8=w7.setCell ⟨A,1,none⟩ (.string (ax s (p + au s p + 1))):=⟨_,rfl⟩;have HL8:Hid (PL w1 W8 R X s xs (p + au s p + 1 + au s (p + au s p + 1)) false v vA):=by rw [Ws]; exact HL7.out.aset Ya.out Xi.out HAX.out HAV.out _ _
  have HD0:Hid (W8.cell? ⟨A,0,none⟩=some (.string (ax s p))):=by show _=_; rw [Ws,mO (by omega)]; exact VD.out
  have HD1:Hid (W8.cell? ⟨A,1,none⟩=some (.string (ax s (p + au s p + 1)))):=by show _=_; rw [Ws]; exact mS a1
  clear hr7 WO HL6 HB0 HB1 HBF Yq;have a0:=VD.out;have k1:=HL7.out.c1;have hxa:X ≠ A:=by have:=HAX.out; omega
  have hax:A ≠ X:=by have:=HAX.out; omega
  obtain ⟨W9,Yo⟩:∃ W9,W9=W8.alloc (.cells #[.string (ax s p),.string (ax s (p + au s p + 1))] 43):=⟨_,rfl⟩;have Xa:Hid (PL w1 W9 R X s xs (p + au s p + 1 + au s (p + au s p + 1)) false v vA):=by rw [Yo]; exact HL8.out.made _
  have Wi:Hid (∀ j u,[Value.string (ax s p),.string (ax s (p + au s p + 1))][j]?=some u→W9.cell? ((⟨w7.heap.size,0,none⟩:Addr).add j)=some u):=by rw [Yo]; exact Aw W8 _ _ _ (by rw [Ws]; simp)
  have Zq:Hid (X + 1≤W9.heap.size):=Xa.out.lt;have hxs:xs.length≤1000:=by have:=HLN2.out; have:=HPL.out; omega
  go_wp2_with (at_builtin; rw [← Ws]; clear Ws; rw [← Yo]; clear Yo; refine wpList_append_own _ rfl _ _ 36 rfl (X + 1) 43 iA (.agg #[.string ⟨#[]⟩,.string ⟨#[]⟩]) 2 32 underlying36 YB.out.1 YB.out.2.1 YB.out.2.2.1 YB.out.2.2.2 rfl (by decide) vA xs.length (pairs xs) rfl Xa.out.own ⟨w7.heap.size,0,none⟩ 1 1 [Value.string (ax s p),.string (ax s (p + au s p + 1))] rfl rfl Wi.out (by intro u hu; simp at hu; rcases hu with rfl | rfl <;> rfl) (by unfold maxLen; omega) (by omega) Zq.out ?_);intro vB w10 VO Vv _;obtain ⟨gB,cB,rfl⟩:=fJ VO;have Yb:some X ≠ vA.ownBlock:=fun e=>by have:=(Xa.out.own.lt X e.symm).1; omega
  have k10:=Vv.cell Xa.out.c1 Yb;have f10:=dh Xa.out.fr (Vv.block X Xa.out.lt Yb) 1;have l10:=TP Xa.out.lt Vv.size;have Ww:=ai (Xa.out.app Ya.out Xi.out ⟨ax s p,ax s (p + au s p + 1)⟩ VO Vv);clear VO Vv a0 a1 k1 Xa Yb Wi Zq HL8 hxa hax f1 hcl hcf;obtain ⟨P,hP⟩:∃ P,P=p + au s p + 1 + au s (p + au s p + 1):=⟨_,rfl⟩;obtain ⟨S2,hS2⟩:∃ S2:ByteArray,S2=ax s (p + au s p + 1):=⟨_,rfl⟩;rw [← hP] at Ww PI HPB HPG;rw [← hS2] at Ww PI;clear hP hS2
 all_goals
  go_wp2_with fail;obtain ⟨W11,hW11⟩:∃ W11,W11=w10.setCell ⟨X,1,none⟩ (.slice (some ⟨gB,0,none⟩) (xs.length + 1) cB):=⟨_,rfl⟩;rw [← hW11] at Ww ⊢;clear hW11 k10 f10 l10;refine (lY R s fe P false v W11 Ww.out.rd hs HPB.out (by decide)).mono ?_;rintro e w12 ⟨rfl,WR,Xb⟩;cases hcl:mR s fe P false;case true=>
   rw [uF hcl] at WR;have VC:=ai (Ww.out.moved Ya.out Xb WR);have EQ:=ai (Jj (HPP.out.symm.trans (Gu (xs:=xs) (n:=m) PI.out hcl)));obtain ⟨ad,cap,hva,hnq,hin⟩:=VC.out.node Xi.out (base:=base) (TZ hB UV.out.size);injection hva with hva1 hva2 hva3;subst hva1;subst hva3;clear hva2;have HNQ:=ai hnq;have HIN:=ai hin;have k0:=VC.out.c0;have k1:=VC.out.c1;have k2:=VC.out.c2;have k3:=VC.out.c3;have k4:=VC.out.c4;have HF:=ai (VH.out.over hR VC.out.onl VC.out.rd);have HO:=ai (UV.out.trans0 VC.out.onl);clear WR Xb hcl hnq hin Ww VC;go_wp2_with fail;have HADD:=Lr R s ⟨P + 1,false,st.out⟩ base v qs ⟨⟨1,xs ++ [⟨ax s p,S2⟩],⟨#[]⟩,⟨#[]⟩,[]⟩,some ⟨gB,0,none⟩,cB,none,0⟩ w12 HF.out hR (TZ hB HO.out.size) hn HNQ.out (.inl ⟨rfl,rfl,rfl⟩) (fun g hg=>⟨fun e=>by have:=(VH.out.own.lt g e).2; have:=HIN.out g hg; have:=Xi.out; omega,fun q' hq' hg'=>by have:=(VH.out.lie q' hq' g hg').2.1; have:=HIN.out g hg; have:=Xi.out; omega⟩);rw [show (⟨⟨1,xs ++ [⟨ax s p,S2⟩],⟨#[]⟩,⟨#[]⟩,[]⟩,some ⟨gB,0,none⟩,cB,none,0⟩:ER).val=.agg #[.int .i64 1,.slice (some ⟨gB,0,none⟩) (xs.length + 1) cB,.string ⟨#[]⟩,.string ⟨#[]⟩,.slice none 0 0] by simp [ER.val]] at HADD;refine HADD.mono ?_;rintro e w13 ⟨v13,rfl,hF13,hW13⟩;have HF13:=ai hF13;have HW13:=ai ((HO.out.any v).trans hW13);clear hF13 hW13;go_wp2;exact bodyPost_ret (v:=.int .i64 (st.out.length:Int)) (by simp [results,Tryz.results234,go_sem]) rfl (by rw [EQ.out]; exact ⟨v13,_,rfl,HF13.out,HW13.out,fun q hq g hg=>by rw [Ua] at hq; subst hq; have:=HIN.out g hg; have:=HX0.out; omega⟩)
  rw [zo hcl] at WR;have VC:=ai (Ww.out.moved Ya.out Xb WR);have ZR:=ai hcl;clear WR Xb hcl Ww;go_wp2_with fail;refine (lY R s lX P false v w12 VC.out.rd hs HPB.out (by decide)).mono ?_;rintro e w13 ⟨rfl,YL,XI⟩;cases hcm:mR s lX P false;case true=>
   rw [uF hcm] at YL;have WC:=ai (VC.out.moved Ya.out XI YL);have HQ13:Hid (P + 1≤s.size):=zY hcm;have EQ:=ai ((Gv (xs:=xs) (n:=m) PI.out ZR.out hcm).symm.trans HPP.out);have HM:Hid (s.size - wat R w13 + wbad R w13 < s.size - wat R wr + wbad R wr):=by
    show _ < _;rw [WC.out.rd.wbad1,HPLB.out,show wat R w13=P + 1 from WC.out.rd.place,HPLC.out];have:=HQ13.out;have:=HPG.out;omega
   clear YL XI hcm VC;go_wp2;go_roundw;case rel=>exact ⟨m,P + 1,false,xs ++ [(⟨ax s p,S2⟩:Al)],.slice (some ⟨gB,0,none⟩) (xs.length + 1) cB,HQ13.out,EQ.out,fun _=>⟨by have:=HLN1.out; have:=HPG.out; have:=HQ13.out; omega,by have:=HLN2.out; have:=HPG.out; rw [T9,List.length_singleton]; omega⟩,WC.out⟩
   exact HM.out
  rw [zo hcm] at YL;have WC:=ai (VC.out.moved Ya.out XI YL);have EQ:=ai ((L6 (xs:=xs) (n:=m) PI.out ZR.out hcm).symm.trans HPP.out);have c2:=WC.out.rd.c2;have f2:=WC.out.rd.fr 2;have hl13:=WC.out.rd.lt;have HL14:Hid (PL w1 (w13.setCell ⟨R,2,none⟩ (.bool true)) R X s (xs ++ [⟨ax s p,S2⟩]) P true v (.slice (some ⟨gB,0,none⟩) (xs.length + 1) cB)):=WC.out.moved Ya.out (by have:=FJ w13 R 2 (.bool true) 0; exact this) WC.out.rd.hurt;have HM:Hid (s.size - wat R (w13.setCell ⟨R,2,none⟩ (.bool true)) + wbad R (w13.setCell ⟨R,2,none⟩ (.bool true)) < s.size - wat R wr + wbad R wr):=by
   show _ < _;rw [HL14.out.rd.wbad0,HPLB.out,show wat R (w13.setCell ⟨R,2,none⟩ (.bool true))=P from HL14.out.rd.place,HPLC.out];have:=HPG.out;omega
  clear YL XI hcm VC WC;go_wp2;go_roundw;case rel=>exact ⟨m,P,true,xs ++ [(⟨ax s p,S2⟩:Al)],.slice (some ⟨gB,0,none⟩) (xs.length + 1) cB,HPB.out,EQ.out,fun h=>(by cases h),HL14.out⟩
  exact HM.out
theorem vz (k:Int):gH k=aW k:=by
 unfold gH aW;rfl
def gT (s:ByteArray) (p:Nat) (j:Nat):Int :=
 if 4 < j∧dW s (aW 4) p=true then 4 else if 5 < j∧dW s (aW 5) p=true then 5 else if 6 < j∧dW s (aW 6) p=true then 6 else 0
theorem OV (s:bF) (p:Nat):gT s p 4=0:=by simp [gT]
theorem OW (s:bF) (p:Nat):gT s p 7=dE s p:=by simp [gT,dE]
theorem Gw {s:ByteArray} {p j:Nat} (h4:4≤j) (h7:j < 7) (h:gT s p j ≠ 0):gT s p (j + 1)=gT s p j:=by
 have hj:j=4 ∨ j=5 ∨ j=6:=by omega
 unfold gT at h ⊢;rcases hj with rfl | rfl | rfl <;> cases h1:dW s (aW 4) p <;> cases h2:dW s (aW 5) p <;> cases h3:dW s (aW 6) p <;> simp_all
theorem De {s:ByteArray} {p j:Nat} (h4:4≤j) (h7:j < 7) (h:gT s p j=0) (hl:dW s (aW j) p=false):gT s p (j + 1)=0:=by
 have hj:j=4 ∨ j=5 ∨ j=6:=by omega
 unfold gT at h ⊢;rcases hj with rfl | rfl | rfl <;> cases h1:dW s (aW 4) p <;> cases h2:dW s (aW 5) p <;> cases h3:dW s (aW 6) p <;> simp_all
theorem Jn {s:ByteArray} {p j:Nat} (h4:4≤j) (h7:j < 7) (h:gT s p j=0) (hl:dW s (aW j) p=true):gT s p (j + 1)=(j:Int):=by
 have hj:j=4 ∨ j=5 ∨ j=6:=by omega
 unfold gT at h ⊢;rcases hj with rfl | rfl | rfl <;> cases h1:dW s (aW 4) p <;> cases h2:dW s (aW 5) p <;> cases h3:dW s (aW 6) p <;> simp_all
theorem mo (k:Int):(aW k).size=3:=by
 unfold aW;split
 ·rfl
 split <;> rfl
theorem Ay {s:ByteArray} {p:Nat} (k:Int) (h:p + 3≤s.size):dW s (aW k) p=((s.extract p (p + 3)).toList == (gH k).toList):=by
 unfold dW;rw [mo,vz];simp [h]
theorem L9 {s:ByteArray} {p:Nat} (k:Int) (h:¬ p + 3≤s.size):dW s (aW k) p=false:=by
 unfold dW;rw [mo];simp [h]
def rowP (s:ByteArray) (it:RS→Int × RS) (x:Int × RS):Int × RS :=
 if dE s x.2.p=0 ∨ x.2.bad=true then x
 else (((ic s it (dE s x.2.p) (s.size + 1) [x.1] x.2).2.out.length:Int),rU ⟨dE s x.2.p,[],⟨#[]⟩,⟨#[]⟩,(ic s it (dE s x.2.p) (s.size + 1) [x.1] x.2).1⟩ (ic s it (dE s x.2.p) (s.size + 1) [x.1] x.2).2)
theorem Az {s:ByteArray} {it:RS→Int × RS} {x:Int × RS} (h:dE s x.2.p=0 ∨ x.2.bad=true):rowP s it x=x:=if_pos h
theorem Ma {s:ByteArray} {it:RS→Int × RS} {x:Int × RS} (h:¬ (dE s x.2.p=0 ∨ x.2.bad=true)) {zs:List Int} {st:RS} (hk:ic s it (dE s x.2.p) (s.size + 1) [x.1] x.2=(zs,st)):rowP s it x=((st.out.length:Int),rU ⟨dE s x.2.p,[],⟨#[]⟩,⟨#[]⟩,zs⟩ st):=by
 unfold rowP;rw [if_neg h,hk]
theorem OX {s:ByteArray} {it:RS→Int × RS} {k:Int} {n:Nat} {zs:List Int} {st:RS} (h:mR s (aW k) st.p st.bad=false):ic s it k n zs st=(zs,st):=by
 have e:kZ s (aW k) st=false:=h;cases n with
 | zero=>rfl
 | succ n=>unfold ic; rw [e]; rfl
theorem Mc {s:ByteArray} {it:RS→Int × RS} {k:Int} {n:Nat} {zs:List Int} {st:RS} (h:mR s (aW k) st.p st.bad=true):ic s it k (n + 1) zs st=ic s it k n (zs ++ [(it (kr (aW k) st)).1]) (it (kr (aW k) st)).2:=by
 have e:kZ s (aW k) st=true:=h
 conv=>lhs; unfold ic
 rw [e]; rfl
theorem RdC.heap {w w':af} {R:Nat} {s:ByteArray} {p:Nat} {bad:Bool} {v:Value} (h:RdC w R s p bad v) (hs:w.heap.size≤w'.heap.size) (hh:w'.heap[R]?=w.heap[R]?):RdC w' R s p bad v :=
 ⟨TP h.lt hs,(Ul (w:=w) (a:=⟨R,0,none⟩) hh).trans h.c0,(Ul (w:=w) (a:=⟨R,1,none⟩) hh).trans h.c1,(Ul (w:=w) (a:=⟨R,2,none⟩) hh).trans h.c2,(Ul (w:=w) (a:=⟨R,3,none⟩) hh).trans h.c3,dh h.fr hh⟩
theorem RdF.heap {w w':af} {R:Nat} {s:ByteArray} {st:RS} {base:Nat} {v:Value} {qs:List ER} (h:RdF w R s st base v qs) (hs:w.heap.size≤w'.heap.size) (h1:w'.heap[R]?=w.heap[R]?) (h2:∀ g,v.ownBlock=some g→w'.heap[g]?=w.heap[g]?) (h3:∀ q ∈ qs,∀ g,oJ q g→w'.heap[g]?=w.heap[g]?):RdF w' R s st base v qs where
 rd:=h.rd.heap hs h1
 own:=jG h.own h2
 out:=h.out
 zA:=h.zA
 zK:=h.zK
 ok q hq:=rD (h.ok q hq) hs (h.zA q hq) (h.zK q hq) (h3 q hq)
 lie q hq g hg:=by
  obtain ⟨a1,a2,a3,a4⟩:=h.lie q hq g hg;exact ⟨a1,TP a2 hs,dh a3 (h3 q hq g hg),a4⟩
 one:=h.one
 two:=h.two
 cA:=h.cA
 cK q hq:=(h.cK q hq).heap (h.zK q hq) (h3 q hq)
structure KLr (w wr:World) (R:Nat) (s:ByteArray) (st:RS) (base:Nat) (v v':Value) (qs ns:List ER) (zs:List Int) (vK:Value):Prop where
 rd:RdF wr R s st base v' (qs ++ ns)
 went:Went R v w v' wr
 new:∀ q ∈ ns,∀ g,oJ q g→w.heap.size≤g
 own:wr.ownsRow w.heap.size 2 1 vK zs.length (ints zs)
 far:∀ g,vK.ownBlock=some g→v'.ownBlock ≠ some g∧∀ q ∈ qs ++ ns,¬ oJ q g
 ne:zs ≠ []
theorem KLr.is {w wr w':af} {R:Nat} {s:ByteArray} {st st':RS} {base:Nat} {v v':Value} {qs ns:List ER} {zs:List Int} {vK:Value} (h:KLr w wr R s st base v v' qs ns zs vK) (hR:R < w.heap.size) (hg:wr.grownBy w' (some R)) (hF:RdF w' R s st' base v' (qs ++ ns)):KLr w w' R s st' base v v' qs ns zs vK :=
 ⟨hF,h.went.trans ((Onl.of_grown hg).any v'),h.new,h.own.kept hg (.inr (fun e=>by have:=(h.own.lt R e).1; omega)),h.far,h.ne⟩
theorem KLr.more {w wr w':af} {R:Nat} {s:ByteArray} {st st':RS} {base:Nat} {v v' v2:Value} {qs ns ms:List ER} {zs:List Int} {vK:Value} (h:KLr w wr R s st base v v' qs ns zs vK) (hR:R < w.heap.size) (hF:RdF w' R s st' base v2 ((qs ++ ns) ++ ms)) (hW:Went R v' wr v2 w') (hm:∀ q ∈ ms,∀ g,oJ q g→wr.heap.size≤g):KLr w w' R s st' base v v2 qs (ns ++ ms) zs vK:=by
 have hl:∀ g,vK.ownBlock=some g→w.heap.size≤g∧g < wr.heap.size:=fun g hg=>h.own.lt g hg;refine ⟨by rw [← List.append_assoc]; exact hF,h.went.trans hW,fun q hq g hg=>?_,jG h.own fun g hg=>hW.onl.block g (hl g hg).2 (by have:=(hl g hg).1; omega) (h.far g hg).1,fun g hg=>⟨hW.apart (hl g hg).2 (h.far g hg).1,fun q hq hi=>?_⟩,h.ne⟩
 ·rcases Uc.1 hq with h1 | h1
  ·exact h.new q h1 g hg
  exact TZ h.went.onl.size (hm q h1 g hg)
 rw [← List.append_assoc] at hq;rcases Uc.1 hq with h1 | h1
 ·exact (h.far g hg).2 q h1 hi
 have:=hm q h1 g hi; have:=(hl g hg).2; omega
theorem OY (zs:List Int) (z:Int):ints (zs ++ [z])=ints zs ++ [.int .i64 z]:=by simp [ints]
theorem KLr.app {w wr w':af} {R:Nat} {s:ByteArray} {st:RS} {base:Nat} {v v':Value} {qs ns:List ER} {zs:List Int} {vK vN:Value} (h:KLr w wr R s st base v v' qs ns zs vK) (hR:R < w.heap.size) (z:Int) (o:Obj) (hown:w'.ownsRow w.heap.size 2 1 vN (zs.length + 1) (ints zs ++ [.int .i64 z])) (hg:(wr.alloc o).grownBy w' vK.ownBlock) (hat:vN.ownBlock=vK.ownBlock ∨ vN.ownBlock=some (wr.alloc o).heap.size):KLr w w' R s st base v v' qs ns (zs ++ [z]) vN:=by
 have hg0:=World.grownBy_alloc wr o none;have keep:∀ k,k < wr.heap.size→vK.ownBlock ≠ some k→w'.heap[k]?=wr.heap[k]?:=fun k hk hne=>(hg.block k (TP hk hg0.size) (Ne.symm hne)).trans (hg0.block k hk (by simp));have hl:∀ g,vK.ownBlock=some g→w.heap.size≤g∧g < wr.heap.size:=fun g hg=>h.own.lt g hg;have hs:wr.heap.size≤w'.heap.size:=TZ hg0.size hg.size;refine ⟨h.rd.heap hs (keep R h.rd.rd.lt (fun e=>by have:=(hl R e).1; omega)) (fun g hg=>keep g (h.rd.own.lt g hg).2 (fun e=>(h.far g e).1 hg)) (fun q hq g hi=>keep g (h.rd.lie q hq g hi).2.1 (fun e=>(h.far g e).2 q hq hi)),?_,h.new,by rw [OY,T9,List.length_singleton]; exact hown,fun g hgn=>?_,by simp⟩
 ·refine ⟨⟨hg.os.trans (hg0.os.trans h.went.onl.os),hg.tape.trans (hg0.tape.trans h.went.onl.tape),hg.output.trans (hg0.output.trans h.went.onl.output),TZ h.went.onl.size hs,fun k hk h1 h2=>(keep k (TP hk h.went.onl.size) (fun e=>by have:=(hl k e).1; omega)).trans (h.went.onl.block k hk h1 h2)⟩,h.went.own⟩
 rcases hat with e | e
 ·exact h.far g (by rw [← e]; exact hgn)
 rw [e] at hgn;injection hgn with hgn;have hsz:wr.heap.size≤g:=by rw [← hgn]; exact hg0.size
 exact ⟨fun e2=>by have:=(h.rd.own.lt g e2).2; omega,fun q hq hi=>by have:=(h.rd.lie q hq g hi).2.1; omega⟩
theorem KLr.node {w wr:af} {R:Nat} {s:ByteArray} {st:RS} {base:Nat} {v v':Value} {qs ns:List ER} {zs:List Int} {vK:Value} (h:KLr w wr R s st base v v' qs ns zs vK) (hb:base≤w.heap.size) (k:Int):∃ ad cap,vK=.slice ad zs.length cap∧NewQ base wr ⟨⟨k,[],⟨#[]⟩,⟨#[]⟩,zs⟩,none,0,ad,cap⟩∧∀ g,oJ ⟨⟨k,[],⟨#[]⟩,⟨#[]⟩,zs⟩,none,0,ad,cap⟩ g→w.heap.size≤g∧v'.ownBlock ≠ some g∧∀ q ∈ qs ++ ns,¬ oJ q g:=by
 obtain ⟨ad,cap,e,h2,h3,h4⟩:=RD h.own rfl;have hA:∀ g,¬ bA ⟨⟨k,[],⟨#[]⟩,⟨#[]⟩,zs⟩,none,0,ad,cap⟩ g:=fun g hg=>hg.1 rfl;have hK:∀ g,oJ ⟨⟨k,[],⟨#[]⟩,⟨#[]⟩,zs⟩,none,0,ad,cap⟩ g→(w.heap.size≤g∧g < wr.heap.size∧gY wr g)∧vK.ownBlock=some g:=by
  rintro g (hg | hg)
  ·exact absurd hg (hA g)
  exact ⟨h4 g hg.1 hg.2,by rw [e,show ad=some ⟨g,0,none⟩ from hg.2]; rfl⟩
 refine ⟨ad,cap,e,⟨fun h=>absurd rfl h,h3,⟨.inl rfl,h2⟩,fun g hg=>⟨TZ hb (hK g hg).1.1,(hK g hg).1.2⟩,fun g hg=>absurd hg (hA g),TW _⟩,fun g hg=>⟨(hK g hg).1.1,h.far g (hK g hg).2⟩⟩
theorem KLr.kid {w wr:af} {R:Nat} {s:ByteArray} {st:RS} {base:Nat} {v v':Value} {qs ns:List ER} {zs:List Int} {ad:Option Addr} {cap:Nat} (h:KLr w wr R s st base v v' qs ns zs (.slice ad zs.length cap)) (hb:base≤w.heap.size) (k:Int):BD wr base ⟨⟨k,[],⟨#[]⟩,⟨#[]⟩,zs⟩,none,0,ad,cap⟩:=BD.mono (base:=w.heap.size) (.inr ⟨h.ne,h.own⟩) hb
theorem OZ (w:af) (z:Int) (g:Nat) (hg:w.heap.size=g):∀ j u,[Value.int .i64 z][j]?=some u→(w.alloc (.cells #[.int .i64 z] 2)).cell? ((⟨g,0,none⟩:Addr).add j)=some u:=by
 intro j u hu;subst hg;rw [show (⟨w.heap.size,0,none⟩:Addr).add j=⟨w.heap.size,0 + j,none⟩ by simp [Addr.add]; omega,Um];have:=World.cell?_alloc_mark w #[.int .i64 z] 2 (0,0) j;rw [this];simpa using hu
theorem QE (R:Nat) (s:bF) (st:RS) (base:Nat) (v:Value) (qs:List ER) (w:af) (h:RdF w R s st base v qs) (hR:R < base) (hB:base≤w.heap.size) (hs:s.size≤1000) (x:Int × RS) (hx:x.2.p≤s.size)
  (Zr:Calls prog 234 #[.pointer (some ⟨R,0,none⟩)] w (uR R s base v qs w x))
  (it:RS→Int × RS) (hlen:x.2.out.length + (s.size - x.2.p)≤5001)
  (hit:∀ (st':RS) (v':Value) (qs':List ER) (w':World),RdF w' R s st' base v' qs'→base≤w'.heap.size→x.2.p + 3≤st'.p→st'.p≤s.size→st'.out.length + (s.size - st'.p)≤5000→Calls prog 234 #[.pointer (some ⟨R,0,none⟩)] w' (uR R s base v' qs' w' (it st')))
  (hmono:∀ st':RS,x.2.p + 3≤st'.p→st'.p≤s.size→st'.p≤(it st').2.p∧(it st').2.p≤s.size∧(it st').2.out.length + st'.p≤st'.out.length + 1 + (it st').2.p) :
  Calls prog 219 #[.pointer (some ⟨R,0,none⟩)] w (uR R s base v qs w (rowP s it x)):=by
 obtain ⟨iI,hiI,zI0,zI1,zI2⟩:=info_parts (P:=prog) (e:=2) (z:=.int .i64 0) (size:=1) (bytes:=8) (by kernel_rfl);have Z6:Hid (prog.info? 2=some iI∧iI.zero=some (.int .i64 0)∧iI.size=1∧iI.bytes=8):=⟨hiI,zI0,zI1,zI2⟩;have HLEN:=ai hlen;have HITM:=ai hit;have HMONO:=ai hmono;clear hiI zI0 zI1 zI2 hlen hit hmono;have H:=ai h;have HX:=ai hx;have HIT:=ai Zr;clear h hx Zr;go_enter func219,ntmps219;go_wp2_with fail;refine HIT.out.mono ?_;rintro e w1 ⟨v1,ns,rfl,hF1,hW1,hns⟩;have VH:=ai hF1;have HW1:=ai hW1;have HNS:=ai hns;clear hF1 hW1 hns HIT;go_wp2_with fail;go_loopw [4,5] (fun kd k wr=>∃ (j nn:Nat),4≤j∧j≤7∧k=.int .i64 j∧kd=.int .i64 (gT s x.2.p j)∧Hid (wr=w1.drewN nn)) (fun _ k _=>7 - (intOf k).toNat);case atStart=>exact ⟨4,0,by omega,by omega,rfl,by rw [OV],rfl⟩
 obtain ⟨j,nn,hj4,hj7,rfl,rfl,WP⟩:=hrel;have hrd:RdC wr R s x.2.p x.2.bad v1:=by rw [WP.out]; exact VH.out.rd.drewN nn
 have Y9:=ai hrd;have c0:=Y9.out.c0;have c1:=Y9.out.c1;have c2:=Y9.out.c2;clear hrd;by_cases hlt:j < 7
 ·have hle:decide ((j:Int)≤6)=true:=by simp; omega
  have hle2:(j:Int)≤6:=by omega
  have hwr:IntKind.i64.wrap ((x.2.p:Int) + 3)=(x.2.p:Int) + 3:=by have:=HX.out; simp [IntKind.wrap,IntKind.bits,IntKind.signed]; omega
  by_cases hK:gT s x.2.p j=0
  ·have hK0:(gT s x.2.p j == 0)=true:=by simp [hK]
   by_cases Xl:x.2.p + 3≤s.size
   ·have hd:decide ((x.2.p:Int) + 3≤(s.size:Int))=true:=by simp; omega
    have hd2:(x.2.p:Int) + 3≤(s.size:Int):=by omega
    have hnn:(0:Int)≤(x.2.p:Int):=by omega
    have hp1:(x.2.p:Int)≤(x.2.p:Int) + 3:=by omega
    rw [hK];cases he:(s.extract x.2.p (x.2.p + 3)).toList == (gH j).toList
    case' true =>
     have EQ:=ai (Jn hj4 hlt hK (by rw [Ay _ Xl]; exact he))
    case' false =>
     have EQ:=ai (De hj4 hlt hK (by rw [Ay _ Xl]; exact he))
    all_goals
     clear hK hK0;go_wp2_with fail;go_quiet ((go_at_call 235; exact Calls.quiet_of_same (mi _ _)));go_wp2;go_roundw;case rel=>exact ⟨j + 1,nn + nq,by omega,by omega,by go_num,by rw [EQ.out],by show _=_; rw [WP.out,World.drewN_drewN]⟩
     simp [intOf] <;> omega
   have hd:decide ((x.2.p:Int) + 3≤(s.size:Int))=false:=by simp; omega
   have EQ:=ai (De hj4 hlt hK (L9 _ Xl));rw [hK];clear hK hK0;go_wp2_with fail;go_quiet ((go_at_call 235; exact Calls.quiet_of_same (mi _ _)));go_wp2;go_roundw;case rel=>exact ⟨j + 1,nn + nq,by omega,by omega,by go_num,by rw [EQ.out],by show _=_; rw [WP.out,World.drewN_drewN]⟩
   simp [intOf] <;> omega
  have hK0:(gT s x.2.p j == 0)=false:=by simp [hK]
  have EQ:=ai (Gw hj4 hlt hK);clear hK;go_wp2_with fail;go_quiet ((go_at_call 235; exact Calls.quiet_of_same (mi _ _)));go_wp2;go_roundw;case rel=>exact ⟨j + 1,nn + nq,by omega,by omega,by go_num,by rw [EQ.out],by show _=_; rw [WP.out,World.drewN_drewN]⟩
  simp [intOf] <;> omega
 obtain rfl:j=7:=by omega
 rw [OW,show ((7:Nat):Int)=(7:Int) from rfl];have hle:decide ((7:Int)≤6)=false:=by decide
 obtain ⟨kd,hkd⟩:∃ kd,kd=dE s x.2.p:=⟨_,rfl⟩;have HKD:=ai hkd;rw [← hkd];clear hkd;by_cases hk:kd=0
 ·have hk0:(kd == 0)=true:=by simp [hk]
  have EQ:=ai (Az (it:=it) (.inl (HKD.out.symm.trans hk)));subst hk;have HF:=ai (VH.out.heap (w':=wr) (by rw [WP.out]; exact TS _) (by rw [WP.out]; rfl) (fun g _=>by rw [WP.out]; rfl) (fun q _ g _=>by rw [WP.out]; rfl));have HW:Hid (Went R v w v1 wr):=by rw [WP.out]; exact ⟨⟨HW1.out.onl.os,HW1.out.onl.tape,HW1.out.onl.output,HW1.out.onl.size,HW1.out.onl.block⟩,HW1.out.own⟩
  go_wp2;exact bodyPost_ret (v:=.int .i64 x.1) (by simp [results,Tryz.results219,go_sem]) rfl (by rw [EQ.out]; exact ⟨v1,ns,rfl,HF.out,HW.out,HNS.out⟩)
 have hk0:(kd == 0)=false:=by simp [hk]
 cases hb:x.2.bad;case true=>
  have EQ:=ai (Az (it:=it) (x:=x) (s:=s) (.inr hb));rw [hb] at c2;have HF:=ai (VH.out.heap (w':=wr) (by rw [WP.out]; exact TS _) (by rw [WP.out]; rfl) (fun g _=>by rw [WP.out]; rfl) (fun q _ g _=>by rw [WP.out]; rfl));have HW:Hid (Went R v w v1 wr):=by rw [WP.out]; exact ⟨⟨HW1.out.onl.os,HW1.out.onl.tape,HW1.out.onl.output,HW1.out.onl.size,HW1.out.onl.block⟩,HW1.out.own⟩
  go_wp2;exact bodyPost_ret (v:=.int .i64 x.1) (by simp [results,Tryz.results219,go_sem]) rfl (by rw [EQ.out]; exact ⟨v1,ns,rfl,HF.out,HW.out,HNS.out⟩)
 rw [hb] at c2;have Wu:Hid (¬ (dE s x.2.p=0 ∨ x.2.bad=true)):=by
  rintro (e | e)
  ·exact hk (HKD.out.trans e)
  rw [hb] at e; cases e
 have HF:=ai (VH.out.heap (w':=wr) (by rw [WP.out]; exact TS _) (by rw [WP.out]; rfl) (fun g _=>by rw [WP.out]; rfl) (fun q _ g _=>by rw [WP.out]; rfl));have HW:Hid (Went R v w v1 wr):=by rw [WP.out]; exact ⟨⟨HW1.out.onl.os,HW1.out.onl.tape,HW1.out.onl.output,HW1.out.onl.size,HW1.out.onl.block⟩,HW1.out.own⟩
 have HWB:Hid (R < w.heap.size):=H.out.rd.lt;have HKL0:Hid (KLr w (wr.alloc (.cells #[.int .i64 x.1] 2)) R s x.2 base v v1 qs ns [x.1] (.slice (some ⟨wr.heap.size,0,none⟩) 1 1)):=by
  have hg0:=World.grownBy_alloc wr (.cells #[.int .i64 x.1] 2) none;refine ⟨HF.out.heap hg0.size (hg0.block R HF.out.rd.lt (by simp)) (fun g hg=>hg0.block g (HF.out.own.lt g hg).2 (by simp)) (fun q hq g hi=>hg0.block g (HF.out.lie q hq g hi).2.1 (by simp)),HW.out.trans ((Onl.of_below ((TT _ _).alloc (TS _) _)).any v1),HNS.out,World.ownsRow_lit wr #[.int .i64 x.1] 1 HW.out.onl.size (by unfold maxLen; omega) (by simp),fun g hg=>?_,by simp⟩;simp [Value.ownBlock] at hg;subst hg;exact ⟨fun e=>by have:=(HF.out.own.lt _ e).2; omega,fun q hq hi=>by have:=(HF.out.lie q hq _ hi).2.1; omega⟩
 clear HF HW Y9 WP VH HW1 HNS;go_wp2_with fail;clear c0 c1 c2;go_loopw [6] (fun vK wq=>∃ (n:Nat) (zs:List Int) (st':RS) (v':Value) (ms:List ER),Hid (st'.p≤s.size∧x.2.p≤st'.p∧s.size - st'.p < n∧zs.length≤st'.p + 1∧st'.out.length + (s.size - st'.p)≤5001)∧Hid (ic s it kd n zs st'=ic s it kd (s.size + 1) [x.1] x.2)∧Hid (KLr w wq R s st' base v v' qs ms zs vK)) (fun _ wq=>s.size - wat R wq);case atStart=>exact ⟨s.size + 1,[x.1],x.2,v1,ns,⟨HX.out,TS _,by omega,by simp,HLEN.out⟩,rfl,HKL0.out⟩
 obtain ⟨n,zs,st',v',ms,HB,HQ,Vl⟩:=hrel;clear HKL0;go_wp2_with fail;refine (mi _ _).mono ?_;rintro e w' ⟨rfl,rfl⟩;go_wp2_with fail;refine (lY R s (gH kd) st'.p st'.bad v' _ Vl.out.rd.rd hs HB.out.1 (by simp [lV])).mono ?_;rintro e w5 ⟨rfl,Y3,hg5⟩;cases hc:mR s (gH kd) st'.p st'.bad;case false=>
  have Y5:=ai (Vl.out.is HWB.out hg5 (Vl.out.rd.is_no hR hc Y3 hg5));rw [vz] at hc;have EQ:=ai (Ma (zs:=zs) (st:=st') Wu.out (by rw [← HKD.out]; exact HQ.out.symm.trans (OX hc)));obtain ⟨ad,cap,rfl,hnq,hin⟩:=Y5.out.node hB kd;have HNQ:=ai hnq;have HIN:=ai hin;have Yc:(qs ++ ms).length≤100000:=by have h1:=Y5.out.rd.out; have h2:=congrArg List.length h1; simp only [aj,Uy] at h2; have:=HB.out.2.2.2.2; omega
  clear Y3 hg5 hc hnq hin Vl;go_wp2_with fail;refine (Lr R s st' base v' (qs ++ ms) ⟨⟨kd,[],⟨#[]⟩,⟨#[]⟩,zs⟩,none,0,ad,cap⟩ w5 Y5.out.rd hR (TZ hB Y5.out.went.onl.size) Yc HNQ.out (Y5.out.kid hB kd) (fun g hg=>(HIN.out g hg).2)).mono ?_;rintro e w6 ⟨v6,rfl,hF6,Zt⟩;have XH:=ai hF6;have HW6:=ai (Y5.out.went.trans Zt);clear hF6 Zt;have HNEW:Hid (∀ q ∈ ms ++ [(⟨⟨kd,[],⟨#[]⟩,⟨#[]⟩,zs⟩,none,0,ad,cap⟩:ER)],∀ g,oJ q g→w.heap.size≤g):=by
   intro q hq g hg;rcases Uc.1 hq with h1 | h1
   ·exact Y5.out.new q h1 g hg
   rw [Ua] at h1; subst h1; exact (HIN.out g hg).1
  replace XH:Hid (RdF w6 R s (rU ⟨kd,[],⟨#[]⟩,⟨#[]⟩,zs⟩ st') base v6 (qs ++ (ms ++ [(⟨⟨kd,[],⟨#[]⟩,⟨#[]⟩,zs⟩,none,0,ad,cap⟩:ER)]))):=by rw [← List.append_assoc]; exact XH.out
  go_wp2;exact bodyPost_ret (v:=.int .i64 (st'.out.length:Int)) (by simp [results,Tryz.results219,go_sem]) rfl (by rw [EQ.out,← HKD.out]; exact ⟨v6,_,rfl,XH.out,HW6.out,HNEW.out⟩)
 have hk5:=Vl.out.is HWB.out hg5 (Vl.out.rd.is_yes hR hc Y3 hg5);rw [vz] at hk5;have Y5:=ai hk5;have WU:Hid (st'.p + 3≤s.size):=by have:=zY hc; rw [lV] at this; exact this
 have HPL:=ai Vl.out.rd.rd.place;obtain ⟨m,hm⟩:∃ m,n=m + 1:=⟨n - 1,by have:=HB.out.2.2.1; omega⟩;subst hm;rw [vz] at hc;have EQ:=ai ((Mc (it:=it) (n:=m) (zs:=zs) hc).symm.trans HQ.out);have eP:(kr (aW kd) st').p=st'.p + 3:=by unfold kr; rw [mo]
 have eO:(kr (aW kd) st').out=st'.out:=rfl;have a1:x.2.p + 3≤(kr (aW kd) st').p:=by rw [eP]; have:=HB.out.2.1; omega
 have a2:(kr (aW kd) st').p≤s.size:=by rw [eP]; exact WU.out
 have a3:(kr (aW kd) st').out.length + (s.size - (kr (aW kd) st').p)≤5000:=by rw [eP,eO]; have:=HB.out.2.2.2.2; have:=WU.out; omega
 have hmo:=HMONO.out (kr (aW kd) st') a1 a2;rw [eP,eO] at hmo;have hcall:=HITM.out (kr (aW kd) st') v' (qs ++ ms) w5 Y5.out.rd (TZ hB Y5.out.went.onl.size) a1 a2 a3;obtain ⟨y,hy⟩:∃ y,y=it (kr (aW kd) st'):=⟨_,rfl⟩;rw [← hy] at hmo hcall EQ;have ZV:=ai hmo;have VG:=ai hcall;clear Y3 hg5 hk5 hc Vl eP eO a1 a2 a3 hmo hcall hy;go_wp2_with fail;refine VG.out.mono ?_;rintro e w6 ⟨v6,ns6,rfl,hF6,Zt,hn6⟩;have HK6:=ai (Y5.out.more HWB.out hF6 Zt hn6);clear hF6 Zt hn6 VG Y5;obtain ⟨W7,Y4⟩:∃ W7,W7=w6.alloc (.cells #[.int .i64 y.1] 2):=⟨_,rfl⟩;have WN:Hid (W7.ownsRow w.heap.size 2 1 u6 zs.length (ints zs)):=by rw [Y4]; exact HK6.out.own.alloc _
 have HN7:Hid (∀ j u,[Value.int .i64 y.1][j]?=some u→W7.cell? ((⟨w6.heap.size,0,none⟩:Addr).add j)=some u):=by rw [Y4]; exact OZ w6 _ _ rfl
 have HS7:Hid (w.heap.size≤W7.heap.size):=by show _≤_; rw [Y4]; exact TZ HK6.out.went.onl.size (World.grownBy_alloc w6 _ none).size
 have HW7:=ai Y4;have hzl:zs.length≤1001:=by have:=HB.out.2.2.2.1; have:=HB.out.1; omega
 go_wp2_with (at_builtin; rw [← Y4]; clear Y4; refine wpList_append_own_at _ rfl _ _ 37 rfl w.heap.size 2 iI (.int .i64 0) 1 8 underlying37 Z6.out.1 Z6.out.2.1 Z6.out.2.2.1 Z6.out.2.2.2 rfl (by decide) u6 zs.length (ints zs) rfl WN.out ⟨w6.heap.size,0,none⟩ 1 1 [Value.int .i64 y.1] rfl rfl HN7.out (by intro u hu; simp at hu; subst hu; rfl) (by unfold maxLen; omega) (by omega) HS7.out ?_);intro vN w8 XJ hgr8 _ hat8;have HK8:Hid (KLr w w8 R s y.2 base v v6 qs (ms ++ ns6) (zs ++ [y.1]) vN):=by
  rw [HW7.out] at hgr8 hat8;exact HK6.out.app HWB.out y.1 _ XJ hgr8 hat8
 have HM:Hid (s.size - wat R w8 < s.size - wat R w'):=by
  show _ < _;rw [HK8.out.rd.rd.place,HPL.out];have:=ZV.out.1;have:=ZV.out.2.1;have:=WU.out;omega
 clear XJ hgr8 hat8 WN HN7 HS7 HW7 HK6;go_wp2;go_roundw;case rel=>exact ⟨m,zs ++ [y.1],y.2,v6,ms ++ ns6,⟨ZV.out.2.1,by have:=ZV.out.1; have:=HB.out.2.1; omega,by have:=HB.out.2.2.1; have:=ZV.out.1; have:=ZV.out.2.1; omega,by have:=HB.out.2.2.2.1; have:=ZV.out.1; rw [T9,List.length_singleton]; omega,by have:=HB.out.2.2.2.2; have:=ZV.out; omega⟩,EQ.out,HK8.out⟩
 exact HM.out
theorem Df {s:ByteArray} {st:RS} (h:st.p≤s.size):st.p≤(bz s st).p∧(bz s st).p≤s.size:=⟨Nat.le_add_right _ _,ku s st.p h⟩
theorem EG {s:ByteArray} {st:RS} (h:st.p≤s.size):st.p≤(aV s st).p∧(aV s st).p≤s.size∧(aV s st).out=st.out:=by
 unfold aV;cases e:kZ s uD st;case false=>exact ⟨TS _,h,rfl⟩
 have h1:st.p + 1≤s.size:=kI e;have:=ku s (st.p + 1) h1;exact ⟨by show st.p≤st.p + 1 + au s (st.p + 1); omega,this,rfl⟩
theorem Dg {s:ByteArray}:∀ (n:Nat) (xs:List Al) (st:RS),st.p≤s.size→st.p≤(dD s n xs st).2.p∧(dD s n xs st).2.p≤s.size∧(dD s n xs st).2.out=st.out:=by
 intro n
 induction n with
 | zero=>intro xs st h; exact ⟨TS _,h,rfl⟩
 | succ n ih =>
  intro xs st h;have h1:=Df h;have h2:=EG h1.2;have h3:(aV s (bz s st)).out=st.out:=h2.2.2;unfold dD;by_cases hb:st.bad=true
  ·rw [if_pos hb]; exact ⟨TS _,h,rfl⟩
  rw [if_neg hb];by_cases hc:kZ s fe (aV s (bz s st))=true
  ·rw [if_pos hc];have h4:(aV s (bz s st)).p + 1≤s.size:=kI hc;exact ⟨by show st.p≤(aV s (bz s st)).p + 1; omega,h4,h3⟩
  rw [if_neg hc];by_cases hm:kZ s lX (aV s (bz s st))=true
  ·rw [if_pos hm];have h4:(aV s (bz s st)).p + 1≤s.size:=kI hm;obtain ⟨a,b,c⟩:=ih (xs ++ [⟨ax s st.p,x9 s (bz s st)⟩]) (kr lX (aV s (bz s st))) h4;have a':(aV s (bz s st)).p + 1≤_:=a;exact ⟨by omega,b,c.trans h3⟩
  rw [if_neg hm];obtain ⟨a,b,c⟩:=ih (xs ++ [⟨ax s st.p,x9 s (bz s st)⟩]) (uE (aV s (bz s st))) h2.2.1;have a':(aV s (bz s st)).p≤_:=a;exact ⟨by omega,b,c.trans h3⟩
def AA (s:ByteArray) (k:Nat) (st st':RS):Prop:=st.p≤st'.p∧st'.p≤s.size∧st'.out.length + st.p≤st.out.length + k + st'.p
theorem Md {s:ByteArray} {st:RS} (h:kZ s fT st=true):AA s 1 st (qM s st).2:=by
 have h1:(kr fT st).p≤s.size:=kI h;obtain ⟨a,b,c⟩:=Dg (s:=s) (s.size + 1) [] (kr fT st) h1;have a':st.p + 5≤_:=a;have c':_=st.out:=c;unfold qM AA;cases e:dD s (s.size + 1) [] (kr fT st) with
 | mk o st' =>
  rw [e] at a' b c';replace a':st.p + 5≤st'.p:=a';replace b:st'.p≤s.size:=b;replace c':st'.out=st.out:=c';cases o with
  | none=>exact ⟨by show st.p≤st'.p; omega,b,by show st'.out.length + _≤_ + _ + st'.p; rw [c']; omega⟩
  | some xs=>exact ⟨by show st.p≤st'.p; omega,b,by show (st'.out ++ _).length + _≤_ + _ + st'.p; rw [c',T9,List.length_singleton]; omega⟩
theorem O0 {s:ByteArray} {st:RS} (h:st.p≤s.size):AA s 1 st (rU (eY s st) (judged (eY s st) (aI s st))):=by
 have h1:=Df h;have key:st.p≤(aI s st).p∧(aI s st).p≤s.size∧(aI s st).out=st.out:=by
  unfold aI;cases e:kZ s oP (bz s st);case false=>exact ⟨h1.1,h1.2,rfl⟩
  have h2:st.p + au s st.p + 2≤s.size:=kI e;have:=ku s _ h2;exact ⟨by show st.p≤st.p + au s st.p + 2 + au s (st.p + au s st.p + 2); omega,this,rfl⟩
 have key2:(judged (eY s st) (aI s st)).p=(aI s st).p∧(judged (eY s st) (aI s st)).out=st.out:=by
  unfold judged;split
  ·exact ⟨rfl,key.2.2⟩
  exact ⟨rfl,key.2.2⟩
 refine ⟨?_,?_,?_⟩
 ·show st.p≤(judged (eY s st) (aI s st)).p;rw [key2.1]; exact key.1
 ·show (judged (eY s st) (aI s st)).p≤_;rw [key2.1]; exact key.2.1
 show ((judged (eY s st) (aI s st)).out ++ _).length + _≤_ + 1 + (judged (eY s st) (aI s st)).p;rw [key2.1,key2.2,T9,List.length_singleton];have:=key.1;omega
theorem Me {s:ByteArray} {st:RS} {x:Int × RS} (h:AA s 1 (kr jD st) x.2):AA s 1 st (tL s x).2:=by
 obtain ⟨a,b,c⟩:=h;replace a:st.p + 1≤x.2.p:=a;replace c:x.2.out.length + (st.p + 1)≤st.out.length + 1 + x.2.p:=c;unfold tL;cases e:kZ s fe x.2;case false=>exact ⟨by show st.p≤x.2.p; omega,b,by show x.2.out.length + st.p≤_ + 1 + x.2.p; omega⟩
 have h2:x.2.p + 1≤s.size:=kI e;exact ⟨by show st.p≤x.2.p + 1; omega,h2,by show x.2.out.length + st.p≤_ + 1 + (x.2.p + 1); omega⟩
theorem Mf {s:ByteArray} {it:RS→Int × RS} {k:Int} (hit:∀ st,st.p≤s.size→AA s 1 st (it st).2):∀ (n:Nat) (zs:List Int) (st:RS),st.p≤s.size→AA s 0 st (ic s it k n zs st).2∧(0 < n→kZ s (aW k) st=true→(ic s it k n zs st).2.out.length + st.p + 2≤st.out.length + (ic s it k n zs st).2.p):=by
 intro n
 induction n with
 | zero=>intro zs st h; exact ⟨⟨TS _,h,TS _⟩,fun h=>absurd h (by omega)⟩
 | succ n ih =>
  intro zs st h;unfold ic;cases e:kZ s (aW k) st;case false=>exact ⟨⟨TS _,h,TS _⟩,fun _ h=>by cases h⟩
  have h1:st.p + 3≤s.size:=by have:=kI e; rw [mo] at this; exact this
  have eP:(kr (aW k) st).p=st.p + 3:=by unfold kr; rw [mo]
  have eO:(kr (aW k) st).out=st.out:=rfl;obtain ⟨a,b,c⟩:=hit (kr (aW k) st) (by rw [eP]; exact h1);rw [eP] at a c;rw [eO] at c;obtain ⟨⟨a2,b2,c2⟩,-⟩:=ih (zs ++ [(it (kr (aW k) st)).1]) (it (kr (aW k) st)).2 b;simp only [if_true];exact ⟨⟨by omega,b2,by omega⟩,fun _ _=>by omega⟩
theorem Jo {s:ByteArray} {p:Nat} (h:dE s p ≠ 0):dW s (aW (dE s p)) p=true:=by
 unfold dE at h ⊢;cases h1:dW s (aW 4) p;case true=>simpa using h1
 cases h2:dW s (aW 5) p;case true=>simpa [h1] using h2
 cases h3:dW s (aW 6) p;case true=>simpa [h1,h2] using h3
 simp [h1,h2,h3] at h
theorem QF {s:ByteArray} {it:RS→Int × RS} (hit:∀ st,st.p≤s.size→AA s 1 st (it st).2) {st:RS} {x:Int × RS} (h:AA s 1 st x.2):AA s 1 st (rowP s it x).2:=by
 unfold rowP;by_cases hc:dE s x.2.p=0 ∨ x.2.bad=true
 ·rw [if_pos hc]; exact h
 rw [if_neg hc];have hsg:dE s x.2.p ≠ 0:=fun e=>hc (.inl e)
 have hbd:x.2.bad=false:=by cases e:x.2.bad with
  | false=>rfl
  | true=>exact absurd (.inr e) hc
 have hyes:kZ s (aW (dE s x.2.p)) x.2=true:=by unfold kZ; rw [hbd,Jo hsg]; rfl
 obtain ⟨⟨a,b,c⟩,d⟩:=Mf hit (k:=dE s x.2.p) (s.size + 1) [x.1] x.2 h.2.1;have d:=d (by omega) hyes;obtain ⟨a1,b1,c1⟩:=h;refine ⟨?_,b,?_⟩
 ·show st.p≤(ic s it (dE s x.2.p) (s.size + 1) [x.1] x.2).2.p;omega
 show ((ic s it (dE s x.2.p) (s.size + 1) [x.1] x.2).2.out ++ _).length + _≤_ + 1 + (ic s it (dE s x.2.p) (s.size + 1) [x.1] x.2).2.p;rw [T9,List.length_singleton];omega
theorem AB {s:ByteArray} {n:Nat} {st:RS} (h:kZ s fT st=true):zm s (n + 1) false st=qM s st:=by
 unfold zm qM;rw [if_pos h];cases dD s (s.size + 1) [] (kr fT st) with
 | mk o st'=>cases o <;> rfl
theorem AC {s:ByteArray} {n:Nat} {st:RS} (h:kZ s fT st=false) (h2:kZ s jD st=true):zm s (n + 1) false st=tL s (zm s n true (kr jD st)):=by
 conv=>lhs; unfold zm
 rw [if_neg (by rw [h]; decide),if_pos h2];rfl
theorem AJ {s:ByteArray} {n:Nat} {st:RS} (h:kZ s fT st=false) (h2:kZ s jD st=false):zm s (n + 1) false st=((st.out.length:Int),rU (eY s st) (judged (eY s st) (aI s st))):=by
 unfold zm;rw [if_neg (by rw [h]; decide),if_neg (by rw [h2]; decide)]
theorem EH {s:ByteArray} {n:Nat} {st:RS}:zm s (n + 1) true st=rowP s (zm s n false) (zm s n false st):=by
 conv=>lhs; unfold zm
 rfl
theorem rM {s:ByteArray}:∀ (n:Nat) (b:Bool) (st:RS),st.p≤s.size→AA s 1 st (zm s n b st).2:=by
 intro n
 induction n with
 | zero=>intro b st h; cases b <;> exact ⟨TS _,h,by show st.out.length + st.p≤st.out.length + 1 + st.p; omega⟩
 | succ n ih =>
  intro b st h;cases b;case true=>rw [EH]; exact QF (fun st' h'=>ih false st' h') (ih false st h)
  cases h1:kZ s fT st;case true=>rw [AB h1]; exact Md h1
  cases h2:kZ s jD st;case true=>rw [AC h1 h2]; exact Me (ih true (kr jD st) (kI h2))
  rw [AJ h1 h2]; exact O0 h
theorem O1 (R:Nat) (s:bF) (base:Nat) (hR:R < base) (hs:s.size≤1000):∀ n:Nat,
  (∀ (st:RS) (v:Value) (qs:List ER) (w:World),RdF w R s st base v qs→base≤w.heap.size→st.p≤s.size→st.out.length + (s.size - st.p)≤5000→2 * (s.size - st.p) < n →
   Calls prog 234 #[.pointer (some ⟨R,0,none⟩)] w (uR R s base v qs w (zm s n false st))) ∧
  (∀ (st:RS) (v:Value) (qs:List ER) (w:World),RdF w R s st base v qs→base≤w.heap.size→st.p≤s.size→st.out.length + (s.size - st.p)≤5000→2 * (s.size - st.p) + 1 < n →
   Calls prog 219 #[.pointer (some ⟨R,0,none⟩)] w (uR R s base v qs w (zm s n true st))):=by
 intro n
 induction n with
 | zero=>exact ⟨fun _ _ _ _ _ _ _ _ h=>absurd h (by omega),fun _ _ _ _ _ _ _ _ h=>absurd h (by omega)⟩
 | succ n ih =>
  refine ⟨fun st v qs w h hB hp hb hn=>?_,fun st v qs w h hB hp hb hn=>?_⟩
  ·have hlen:qs.length=st.out.length:=by rw [← h.out]; simp [aj]
   cases h1:kZ s fT st;case true=>rw [AB h1]; exact L8 R s st base v qs w h hR hB hs hp (by omega) h1
   cases h2:kZ s jD st;case true=>
    rw [AC h1 h2];have h3:st.p + 1≤s.size:=kI h2;have h4:(kr jD st).p=st.p + 1:=rfl;exact Ou R s st base v qs w h hR hs hp h1 h2 _ (rM n true (kr jD st) h3).2.1 fun w1 hw1 hsz=>ih.2 (kr jD st) v qs w1 hw1 (TZ hB hsz) h3 (by rw [h4]; show st.out.length + _≤_; omega) (by rw [h4]; omega)
   rw [AJ h1 h2]; exact LX R s st base v qs w h hR hB hs hp (by omega) h1 h2
  rw [EH];obtain ⟨a,b,c⟩:=rM (s:=s) n false st hp;refine QE R s st base v qs w h hR hB hs _ b (ih.1 st v qs w h hB hp hb (by omega)) _ (by omega) (fun st' v' qs' w' h' hB' h1 h2 h3=>ih.1 st' v' qs' w' h' hB' h2 h3 (by omega)) (fun st' h1 h2=>?_);obtain ⟨a2,b2,c2⟩:=rM (s:=s) n false st' h2;exact ⟨a2,b2,c2⟩
def Tu (s:ByteArray) (a:Al):Prop:=a.t.size≤s.size∧a.s.size≤s.size
def Hq (s:ByteArray) (e:Ex):Prop:=e.allow.length≤s.size + 1∧(∀ a ∈ e.allow,Tu s a)∧e.over.size≤s.size∧e.name.size≤s.size∧e.kids.length≤s.size + 2
theorem qN (s:bF) (p:Nat):(ax s p).size≤s.size:=by
 unfold ax;rw [ByteArray.size_extract];omega
theorem QG (s:bF) (st:RS):(x9 s st).size≤s.size:=by
 unfold x9;split
 ·exact qN s _
 exact TW _
theorem Mg {s:ByteArray}:∀ (n:Nat) (xs:List Al) (st:RS) (ys:List Al),(∀ a ∈ xs,Tu s a)→(dD s n xs st).1=some ys→ys.length≤xs.length + n∧∀ a ∈ ys,Tu s a:=by
 intro n
 induction n with
 | zero=>intro xs st ys _ h; cases h
 | succ n ih =>
  intro xs st ys hx h;have hx2:∀ a ∈ xs ++ [(⟨ax s st.p,x9 s (bz s st)⟩:Al)],Tu s a:=by
   intro a ha;rcases Uc.1 ha with h1 | h1
   ·exact hx a h1
   rw [Ua] at h1; subst h1; exact ⟨qN s _,QG s _⟩
  unfold dD at h;by_cases hb:st.bad=true
  ·rw [if_pos hb] at h; cases h
  rw [if_neg hb] at h;by_cases hc:kZ s fe (aV s (bz s st))=true
  ·rw [if_pos hc] at h;injection h with h;subst h;exact ⟨by rw [T9,List.length_singleton]; omega,hx2⟩
  rw [if_neg hc] at h;have fin:∀ st',(dD s n (xs ++ [⟨ax s st.p,x9 s (bz s st)⟩]) st').1=some ys→ys.length≤xs.length + (n + 1)∧∀ a ∈ ys,Tu s a:=fun st' h'=>by
   obtain ⟨a,b⟩:=ih _ st' ys hx2 h';rw [T9,List.length_singleton] at a;exact ⟨by omega,b⟩
  by_cases hm:kZ s lX (aV s (bz s st))=true
  ·rw [if_pos hm] at h; exact fin _ h
  rw [if_neg hm] at h; exact fin _ h
theorem EJ {s:ByteArray} {x:Ex} {st:RS} (h:∀ e ∈ st.out,Hq s e) (hx:Hq s x):∀ e ∈ (rU x st).out,Hq s e:=by
 intro e he;rcases Uc.1 he with h1 | h1
 ·exact h e h1
 rw [Ua] at h1; subst h1; exact hx
theorem O3 {s:ByteArray} {st:RS} (hp:st.p + 5≤s.size) (h:∀ e ∈ st.out,Hq s e):∀ e ∈ (qM s st).2.out,Hq s e:=by
 have hc:=(Dg (s:=s) (s.size + 1) [] (kr fT st) hp).2.2;have hs:=Mg (s:=s) (s.size + 1) [] (kr fT st);unfold qM;cases e:dD s (s.size + 1) [] (kr fT st) with
 | mk o st' =>
  rw [e] at hc hs;have hc':st'.out=st.out:=hc;cases o with
  | none=>show ∀ e ∈ st'.out,Hq s e; rw [hc']; exact h
  | some xs =>
   obtain ⟨a,b⟩:=hs xs (fun a ha=>by cases ha) rfl;exact EJ (by rw [hc']; exact h) ⟨by simpa using a,b,TW _,TW _,TW _⟩
theorem QH {s:ByteArray} {st:RS} (h:∀ e ∈ st.out,Hq s e):∀ e ∈ (rU (eY s st) (judged (eY s st) (aI s st))).out,Hq s e:=by
 have h1:(judged (eY s st) (aI s st)).out=st.out:=by
  have h2:(aI s st).out=st.out:=by unfold aI; split <;> rfl
  unfold judged; split <;> exact h2
 refine EJ (by rw [h1]; exact h) ?_;unfold eY;split
 ·exact ⟨TW _,fun a ha=>(by cases ha),qN s _,qN s _,TW _⟩
 exact ⟨TW _,fun a ha=>(by cases ha),TW _,qN s _,TW _⟩
theorem O4 {s:ByteArray} {it:RS→Int × RS} {k:Int} (hit:∀ st,(∀ e ∈ st.out,Hq s e)→st.p≤s.size→(∀ e ∈ (it st).2.out,Hq s e)∧(it st).2.p≤s.size):∀ (n:Nat) (zs:List Int) (st:RS),(∀ e ∈ st.out,Hq s e)→st.p≤s.size→(∀ e ∈ (ic s it k n zs st).2.out,Hq s e)∧(ic s it k n zs st).1.length≤zs.length + n:=by
 intro n
 induction n with
 | zero=>intro zs st h _; exact ⟨h,TS _⟩
 | succ n ih =>
  intro zs st h hp;unfold ic;cases e:kZ s (aW k) st;case false=>exact ⟨h,Nat.le_add_right _ _⟩
  have h1:(kr (aW k) st).p≤s.size:=kI e;obtain ⟨a,b⟩:=hit (kr (aW k) st) h h1;obtain ⟨a2,b2⟩:=ih (zs ++ [(it (kr (aW k) st)).1]) _ a b;rw [T9,List.length_singleton] at b2;exact ⟨a2,by simp only [if_true]; omega⟩
theorem O5 {s:ByteArray}:∀ (n:Nat) (b:Bool) (st:RS),st.p≤s.size→(∀ e ∈ st.out,Hq s e)→∀ e ∈ (zm s n b st).2.out,Hq s e:=by
 intro n
 induction n with
 | zero=>intro b st _ h; cases b <;> exact h
 | succ n ih =>
  intro b st hp h;cases b;case true=>
   rw [EH];unfold rowP;have hx:=ih false st hp h;have hxp:=(rM (s:=s) n false st hp).2.1;split
   ·exact hx
   obtain ⟨a,b⟩:=O4 (s:=s) (it:=zm s n false) (k:=dE s (zm s n false st).2.p) (fun st' h1 h2=>⟨ih false st' h2 h1,(rM (s:=s) n false st' h2).2.1⟩) (s.size + 1) [(zm s n false st).1] (zm s n false st).2 hx hxp;exact EJ a ⟨TW _,fun a ha=>(by cases ha),TW _,TW _,TZ b (by simp only [List.length_singleton]; omega)⟩
  cases h1:kZ s fT st;case true=>rw [AB h1]; exact O3 (kI h1) h
  cases h2:kZ s jD st;case true=>
   rw [AC h1 h2];have hx:=ih true (kr jD st) (kI h2) h;unfold tL;split
   ·exact hx
   exact hx
  rw [AJ h1 h2]; exact QH h
theorem Hq.light {s:ByteArray} {e:Ex} (h:Hq s e) (hs:s.size≤1000):e.light∧e.fits:=by
 obtain ⟨h1,h2,h3,h4,h5⟩:=h;refine ⟨⟨by omega,by omega⟩,⟨fun a ha=>⟨?_,?_⟩,?_,?_,?_,?_⟩⟩ <;> unfold maxLen
 ·have:=(h2 a ha).1; omega
 ·have:=(h2 a ha).2; omega
 all_goals omega
def kC (s:ByteArray):RS:=(zm s (2 * s.size + 2) true ⟨0,false,[]⟩).2
def mq (s:ByteArray):Bool:=decide (s.size≤1000) && !(kC s).bad && !decide ((kC s).p < s.size) && aK (kC s).out && ((gQ (kC s).out).toList == s.toList)
def Tv (s:ByteArray) (w:World) (e:Ending) (w':World):Prop :=
 ag w w'∧((mq s=false∧e=.returned (.tuple #[.slice none 0 0,.bool false])) ∨ (mq s=true∧∃ (v:Value) (R:Nat) (qs:List ER),e=.returned (.tuple #[v,.bool true])∧RdF w' R s (kC s) (w.heap.size + 1) v qs))
theorem O6 (w:af) (s:bF):RdF (w.alloc (.cells #[.string s,.int .i64 0,.bool false,.slice none 0 0] 303)) w.heap.size s ⟨0,false,[]⟩ (w.heap.size + 1) (.slice none 0 0) []:=by
 refine ⟨⟨by simp,by simp,by simp,by simp,by simp,fun j=>by simp⟩,World.ownsRow_nil _ _ _ _,rfl,?_,?_,?_,?_,?_,?_,?_,?_⟩
 ·intro q hq; cases hq
 ·intro q hq; cases hq
 ·intro q hq; cases hq
 ·intro q hq; cases hq
 ·intro q hq; cases hq
 ·intro x y hx; exact absurd hx (by simp)
 ·intro q hq; cases hq
 intro q hq; cases hq
theorem RdF.slE {w:af} {R:Nat} {s:ByteArray} {st:RS} {base:Nat} {v:Value} {qs:List ER} (h:RdF w R s st base v qs):∃ ad cap,v=.slice ad qs.length cap∧iH w ad qs:=RF h.own rfl h.ok
theorem RdF.later {w w':af} {R:Nat} {s:ByteArray} {st:RS} {base:Nat} {v:Value} {qs:List ER} (h:RdF w R s st base v qs) (hb:ag w w'):RdF w' R s st base v qs :=
 h.heap hb.size (hb.block R h.rd.lt) (fun g hg=>hb.block g (h.own.lt g hg).2) (fun q hq g hi=>hb.block g (h.lie q hq g hi).2.1)
theorem wR (s:bF) (w:af):Calls prog 178 #[.string s] w (Tv s w):=by
 by_cases hs:s.size≤1000
 ·have hd0:decide ((1000:Int) < (s.size:Int))=false:=by simp; omega
  have Y9:=ai (O6 w s);have VG:=ai ((O1 w.heap.size s (w.heap.size + 1) (by omega) hs (2 * s.size + 2)).2 ⟨0,false,[]⟩ (.slice none 0 0) [] _ Y9.out (by simp) (TW _) (by simp; omega) (by simp));have ZI:Hid (∀ e ∈ (kC s).out,e.light∧e.fits):=fun e he=>(O5 (s:=s) _ true ⟨0,false,[]⟩ (TW _) (fun e he=>by cases he) e he).light hs;have HFEW:=ai (rM (s:=s) (2 * s.size + 2) true ⟨0,false,[]⟩ (TW _));go_enter func178,ntmps178;go_wp2_with fail;refine VG.out.mono ?_;rintro e w1 ⟨v1,qs,rfl,hF1,hW1,-⟩;replace hF1:RdF w1 w.heap.size s (kC s) (w.heap.size + 1) v1 qs:=hF1;have VH:=ai hF1;have HB1:Hid (ag w w1):=⟨hW1.onl.os,hW1.onl.tape,hW1.onl.output,by have:=hW1.onl.size; simp at this; omega,fun k hk=>(hW1.onl.block k (by simp; omega) (by omega) (by simp [Value.ownBlock])).trans ((World.grownBy_alloc w _ none).block k hk (by simp))⟩;obtain ⟨ad,cap,rfl,hsl⟩:=hF1.slE;have WG:=ai hsl;have Yd:=ai hF1.out;have Yc:qs.length≤1048576:=by
   have h2:=congrArg List.length hF1.out;simp only [aj,Uy] at h2;have h3:(kC s).out.length + 0≤0 + 1 + (kC s).p:=HFEW.out.2.2;have h4:(kC s).p≤s.size:=HFEW.out.2.1;omega
  have HL:Hid (∀ r ∈ qs,r.e.light):=fun r hr=>(ZI.out r.e (by rw [← Yd.out]; exact Ue.2 ⟨r,hr,rfl⟩)).1;have HF:Hid (∀ r ∈ qs,r.e.fits):=fun r hr=>(ZI.out r.e (by rw [← Yd.out]; exact Ue.2 ⟨r,hr,rfl⟩)).2;have Xr:Hid (mq s=(!(kC s).bad && !decide ((kC s).p < s.size) && aK (kC s).out && ((gQ (kC s).out).toList == s.toList))):=by show _=_; unfold mq; simp [hs]
  have c1:=hF1.rd.c1;have c2:=hF1.rd.c2;have c3:=hF1.rd.c3;clear hF1 hW1 hsl VG Y9 ZI HFEW;cases hb:(kC s).bad;case true=>
   rw [hb] at c2;have EQ:Hid (mq s=false):=by show _=_; rw [Xr.out,hb]; rfl
   go_wp2;exact bodyPost_ret (v:=.tuple #[.slice none 0 0,.bool false]) (by simp [results,Tryz.results178,go_sem]) rfl ⟨HB1.out,.inl ⟨EQ.out,rfl⟩⟩
  rw [hb] at c2;by_cases hlt:(kC s).p < s.size
  ·have hd1:decide (((kC s).p:Int) < (s.size:Int))=true:=by simp; omega
   have EQ:Hid (mq s=false):=by show _=_; rw [Xr.out,hb,decide_eq_true hlt]; rfl
   go_wp2;exact bodyPost_ret (v:=.tuple #[.slice none 0 0,.bool false]) (by simp [results,Tryz.results178,go_sem]) rfl ⟨HB1.out,.inl ⟨EQ.out,rfl⟩⟩
  have hd1:decide (((kC s).p:Int) < (s.size:Int))=false:=by simp; omega
  go_wp2_with fail;refine (mh ad cap qs w1 Yc HL.out HF.out WG.out).mono ?_;rintro e w2 ⟨rfl,hB2⟩;have VI:=ai (VH.out.later hB2);have HB2:=ai (HB1.out.trans (hB2.mono HB1.out.size));have HSL2:=ai (WG.out.below hB2);have k3:=VI.out.rd.c3;rw [Yd.out];clear hB2;cases he:aK (kC s).out;case false=>
   have EQ:Hid (mq s=false):=by show _=_; rw [Xr.out,hb,decide_eq_false hlt,he]; rfl
   go_wp2;exact bodyPost_ret (v:=.tuple #[.slice none 0 0,.bool false]) (by simp [results,Tryz.results178,go_sem]) rfl ⟨HB2.out,.inl ⟨EQ.out,rfl⟩⟩
  go_wp2_with fail;refine (oq ad cap qs w2 Yc HL.out HF.out HSL2.out).mono ?_;rintro e w3 ⟨rfl,hB3⟩;have Zg:=ai (VI.out.later hB3);have HB3:=ai (HB2.out.trans (hB3.mono HB2.out.size));have q3:=Zg.out.rd.c3;rw [Yd.out];clear hB3;cases ht:(gQ (kC s).out).toList == s.toList;case false=>
   have ht2:(!(gQ (kC s).out).toList == s.toList)=true:=by rw [ht]; rfl
   have EQ:Hid (mq s=false):=by show _=_; rw [Xr.out,ht,Bool.and_false]
   go_wp2;exact bodyPost_ret (v:=.tuple #[.slice none 0 0,.bool false]) (by simp [results,Tryz.results178,go_sem]) rfl ⟨HB3.out,.inl ⟨EQ.out,rfl⟩⟩
  have ht2:(!(gQ (kC s).out).toList == s.toList)=false:=by rw [ht]; rfl
  have EQ:Hid (mq s=true):=by show _=_; rw [Xr.out,hb,decide_eq_false hlt,he,ht]; rfl
  go_wp2;exact bodyPost_ret (v:=.tuple #[.slice ad qs.length cap,.bool true]) (by simp [results,Tryz.results178,go_sem]) rfl ⟨HB3.out,.inr ⟨EQ.out,_,_,qs,rfl,Zg.out⟩⟩
 have hd0:decide ((1000:Int) < (s.size:Int))=true:=by simp; omega
 have EQ:Hid (mq s=false):=by show _=_; unfold mq; rw [decide_eq_false hs]; rfl
 go_enter func178,ntmps178;go_wp2;exact bodyPost_ret (v:=.tuple #[.slice none 0 0,.bool false]) (by simp [results,Tryz.results178,go_sem]) rfl ⟨TT _ _,.inl ⟨EQ.out,rfl⟩⟩
end Go.Proofs.YtajkkeikihhejaaGreat
