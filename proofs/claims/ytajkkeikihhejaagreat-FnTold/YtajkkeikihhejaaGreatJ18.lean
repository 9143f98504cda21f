/- Contract of the document's reader: an item that is a name, or a name over another one. -/
import Derived.Test.YtajkkeikihhejaaGreatSq
import Derived.Test.YtajkkeikihhejaaGreatJ7
import Derived.Test.YtajkkeikihhejaaGreatJ15
import Derived.Test.YtajkkeikihhejaaGreatJ17
open Go.Proofs.Tryz
set_option maxHeartbeats 80000000
namespace Go.Proofs.YtajkkeikihhejaaGreat
set_option maxRecDepth 100000
open Go.ChangeShapes Go.WideShapes Go.ChangeAt Go.RowKit
open Pl
theorem Onl.at_new {R:Nat} {v:Value} {w w':af} (h:Onl R v w w') {X:Nat} (hX:w.heap.size≤X) (o:Nat) (u:Value):Onl R v w (w'.setCell ⟨X,o,none⟩ u) :=
 ⟨h.os,h.tape,h.output,by simpa using h.size,fun k hk h1 h2=>(Below.heap_setCell w' _ _ k (by show k ≠ X; omega)).trans (h.block k hk h1 h2)⟩
theorem RdC.other {w:af} {R:Nat} {s:ByteArray} {p:Nat} {bad:Bool} {v:Value} (h:RdC w R s p bad v) {X:Nat} (hX:X ≠ R) (o:Nat) (u:Value):RdC (w.setCell ⟨X,o,none⟩ u) R s p bad v :=
 ⟨by simpa using h.lt,by rw [Ul (w:=w) (Below.heap_setCell w _ _ R (Ne.symm hX))]; exact h.c0,by rw [Ul (w:=w) (Below.heap_setCell w _ _ R (Ne.symm hX))]; exact h.c1,by rw [Ul (w:=w) (Below.heap_setCell w _ _ R (Ne.symm hX))]; exact h.c2,by rw [Ul (w:=w) (Below.heap_setCell w _ _ R (Ne.symm hX))]; exact h.c3,fun j=>by simpa using h.fr j⟩
theorem RdC.below {w w':af} {R:Nat} {s:ByteArray} {p:Nat} {bad:Bool} {v:Value} (h:RdC w R s p bad v) (hb:ag w w'):RdC w' R s p bad v :=
 h.grown (row:=none) ⟨hb.os,hb.tape,hb.output,hb.size,fun k hk _=>hb.block k hk⟩ (by simp)
theorem yh.below {w w':af} {g:Nat} {q:ER} (h:yh w g q) (hb:ag w w'):yh w' g q :=
 h.grown (row:=none) ⟨hb.os,hb.tape,hb.output,hb.size,fun k hk _=>hb.block k hk⟩ (by simp)
def bare (k:Int) (o n:ByteArray):ER:=⟨⟨k,[],o,n,[]⟩,none,0,none,0⟩
theorem jX (k:Int) (o n:bH) (g:Nat):¬ oJ (bare k o n) g:=by
 rintro (⟨h,-⟩ | ⟨h,-⟩) <;> exact h rfl
theorem vv (k:Int) (o n:bH) (X:Nat) (w:af):NewQ X w (bare k o n) :=
 ⟨fun h=>absurd rfl h,fun h=>absurd rfl h,⟨.inl rfl,.inl rfl⟩,fun g h=>absurd h (jX k o n g),fun g h=>absurd (Or.inl h) (jX k o n g),TS _⟩
theorem OE (w:af) (k:Int) (o n:bH):yh (w.alloc (.cells #[.int .i64 k,.slice none 0 0,.string o,.string n,.slice none 0 0] 39)) w.heap.size (bare k o n):=by
 refine ⟨?_,?_,?_,?_,?_,?_⟩ <;> simp [bare]
theorem OG {w:af} {X:Nat} {a0 a1 a2 a3 a4:Value} (h0:w.cell? ⟨X,0,none⟩=some a0) (h1:w.cell? ⟨X,1,none⟩=some a1) (h2:w.cell? ⟨X,2,none⟩=some a2) (h3:w.cell? ⟨X,3,none⟩=some a3) (h4:w.cell? ⟨X,4,none⟩=some a4) (hl:X < w.heap.size) (k:Int) (o n:bH) :
  yh (((((w.setCell ⟨X,0,none⟩ (.int .i64 k)).setCell ⟨X,1,none⟩ (.slice none 0 0)).setCell ⟨X,2,none⟩ (.string o)).setCell ⟨X,3,none⟩ (.string n)).setCell ⟨X,4,none⟩ (.slice none 0 0)) X (bare k o n):=by
 refine ⟨?_,?_,?_,?_,?_,by simpa using hl⟩
 ·rw [mO (by omega),mO (by omega),mO (by omega),mO (by omega)]; exact mS h0
 ·rw [mO (by omega),mO (by omega),mO (by omega)]; exact mS (by rw [mO (by omega)]; exact h1)
 ·rw [mO (by omega),mO (by omega)]; exact mS (by rw [mO (by omega),mO (by omega)]; exact h2)
 ·rw [mO (by omega)]; exact mS (by rw [mO (by omega),mO (by omega),mO (by omega)]; exact h3)
 exact mS (by rw [mO (by omega),mO (by omega),mO (by omega),mO (by omega)]; exact h4)
def VB (l:List Value) (R:Nat) (s:ByteArray) (p:Nat) (bad:Bool) (v:Value) (k:Nat) (u:Value) (w':World):Prop:=u=l.getD k undef∧(k=3→RdC w' R s p bad v)
structure GB (R:Nat) (s:ByteArray) (p:Nat) (bad:Bool) (v:Value) (X:Nat) (q:ER) (w:World) (listed:Array Bool) (w':World):Prop where
 rd:listed.getD 3 false=false→RdC w' R s p bad v
 box:yh w' X q
 onl:Onl R nQ w w'
 fr:gY w' X
theorem GB.step {R:Nat} {s:ByteArray} {p:Nat} {bad:Bool} {v:Value} {X:Nat} {q:ER} {w w':af} {listed:Array Bool} (h:GB R s p bad v X q w listed w') {i:Nat} (hls:listed.size=6) (h3:i ≠ 3):GB R s p bad v X q w (listed.setIfInBounds i true) w' :=
 ⟨fun k=>h.rd (by
  by_cases hi:i < 6
  ·rw [aO _ _ _ (by omega),if_neg (Ne.symm h3)] at k; exact k
  rw [show listed.setIfInBounds i true=listed by rw [Array.setIfInBounds_eq_of_size_le (by omega)]] at k; exact k),h.box,h.onl,h.fr⟩
theorem GB.called {R:Nat} {s:ByteArray} {p:Nat} {bad:Bool} {v:Value} {X:Nat} {q:ER} {w w' w'':af} {listed:Array Bool} (h:GB R s p bad v X q w listed w') (hls:listed.size=6) (hg:w'.grownBy w'' (some R)) (hX:X ≠ R):GB R s p bad v X q w (listed.setIfInBounds 3 true) w'' :=
 ⟨fun k=>(by rw [aO _ _ _ (by omega),if_pos rfl] at k; cases k),h.box.grown hg (by intro e; injection e with e; exact hX e),h.onl.trans0 (Onl.of_grown hg),df h.fr (hg.block X h.box.2.2.2.2.2 (by intro e; injection e with e; exact hX e))⟩
theorem OH {s:ByteArray} {st:RS} (h:mJ s oN (st.p + au s st.p) st.bad=false):eY s st=⟨2,[],⟨#[]⟩,ax s st.p,[]⟩∧aI s st=⟨st.p + au s st.p,st.bad,st.out⟩:=by
 have e:kY s oN (bz s st)=false:=h;exact ⟨by unfold eY; rw [e]; rfl,by unfold aI; rw [e]; rfl⟩
theorem LD {s:ByteArray} {st:RS} (h:mJ s oN (st.p + au s st.p) st.bad=true):eY s st=⟨3,[],ax s st.p,ax s (st.p + au s st.p + 2),[]⟩∧aI s st=⟨st.p + au s st.p + 2 + au s (st.p + au s st.p + 2),st.bad,st.out⟩:=by
 have e:kY s oN (bz s st)=true:=h;exact ⟨by unfold eY; rw [e]; rfl,by unfold aI; rw [e]; rfl⟩
theorem LF (R:Nat) (s:bH) (st:RS) (base:Nat) (v:Value) (qs:List ER) (w:af) (h:RdF w R s st base v qs) (hR:R < base) (hB:base≤w.heap.size) (hs:s.size≤1000) (hp:st.p≤s.size) (hn:qs.length≤100000)
  (h0:mJ s fQ st.p st.bad=false) (h1:mJ s jy st.p st.bad=false) :
  Calls prog 234 #[.pointer (some ⟨R,0,none⟩)] w (uI R s base v qs w ((st.out.length:Int),rT (eY s st) (judged (eY s st) (aI s st)))):=by
 have H:=ai h;have HP:=ai hp;clear h hp;go_enter func234,ntmps234;go_wp2_with fail;refine (lW R s fQ st.p st.bad v w H.out.rd hs HP.out (by decide)).mono ?_;rintro e w1 ⟨rfl,hr1,hg1⟩;have VH:=ai (H.out.is_no hR h0 hr1 hg1);have UV:=ai (Onl.of_grown hg1);rw [h0];clear hr1 hg1 h0;go_wp2_with fail;refine (lW R s jy st.p st.bad v w1 VH.out.rd hs HP.out (by decide)).mono ?_;rintro e w2 ⟨rfl,hr2,hg2⟩;have VI:=ai (VH.out.is_no hR h1 hr2 hg2);have UB:=ai (UV.out.trans0 (Onl.of_grown hg2));rw [h1];clear hr2 hg2 h1 VH UV;go_wp2_with fail;refine (uz R s st.p st.bad v w2 VI.out.rd hs HP.out).mono ?_;rintro e w3 ⟨rfl,hr3,hg3⟩;have Zd:=ai (VI.out.over hR (Onl.of_grown hg3) hr3);have UX:=ai (UB.out.trans0 (Onl.of_grown hg3));have HP3:=ai (j6 s st.p HP.out);have Xy:=ai (yY s st.p HP.out);clear hr3 hg3 VI UB;obtain ⟨W4,VU⟩:∃ W4,W4=w3.alloc (.cells #[.int .i64 2,.slice none 0 0,.string ⟨#[]⟩,.string (ax s st.p),.slice none 0 0] 39):=⟨_,rfl⟩;have HV4:Hid (yh W4 w3.heap.size (bare 2 ⟨#[]⟩ (ax s st.p))):=by rw [VU]; exact OE w3 2 ⟨#[]⟩ (ax s st.p)
 have HO4a:Hid (Onl R nQ w3 W4):=by rw [VU]; exact Onl.of_below ((TT _ _).alloc (TS _) _)
 have Wo:Hid (RdF W4 R s ⟨st.p + au s st.p,st.bad,st.out⟩ base v qs):=Zd.out.over hR HO4a.out (by rw [VU]; exact Zd.out.rd.below ((TT _ _).alloc (TS _) _));have UR:=ai (UX.out.trans0 HO4a.out);have HFR4:Hid (gY W4 w3.heap.size):=fun y=>by rw [VU]; simp
 have YG:Hid (w3.heap.size ≠ R):=by have:=Zd.out.rd.lt; show _ ≠ _; omega
 have HX0:Hid (w.heap.size≤w3.heap.size):=UX.out.size;have HX3:Hid (w3.heap.size≤w3.heap.size):=TS _;go_wp2_with fail;rw [← VU];clear VU;obtain ⟨X,hX⟩:∃ X,X=w3.heap.size:=⟨_,rfl⟩;rw [← hX] at HV4 HFR4 YG HX0;replace HX3:Hid (w3.heap.size≤X):=Nat.le_of_eq hX.symm;rw [← hX];clear hX;refine (lW R s oN (st.p + au s st.p) st.bad v W4 Wo.out.rd hs HP3.out (by decide)).mono ?_;rintro e w5 ⟨rfl,Y4,hg5⟩;have HV5:=ai (HV4.out.grown hg5 (by intro e; injection e with e; exact YG.out e));have HFR5:=ai (df HFR4.out (hg5.block X HV4.out.2.2.2.2.2 (by intro e; injection e with e; exact YG.out e)));have UK:=ai (UR.out.trans0 (Onl.of_grown hg5));have YH:=ai (HO4a.out.trans0 (Onl.of_grown hg5));cases hc:mJ s oN (st.p + au s st.p) st.bad;case false=>
  have ZT:=ai (Wo.out.is_no hR hc Y4 hg5);have EQ:=ai (OH hc);clear Y4 hg5 hc Wo UR HV4 HFR4;obtain ⟨x0,x1,x2,x3,x4,xl⟩:=HV5.out;replace x0:w5.cell? ⟨X,0,none⟩=some (.int .i64 2):=x0;replace x1:w5.cell? ⟨X,1,none⟩=some (.slice none 0 0):=x1;replace x2:w5.cell? ⟨X,2,none⟩=some (.string ⟨#[]⟩):=x2;replace x3:w5.cell? ⟨X,3,none⟩=some (.string (ax s st.p)):=x3;replace x4:w5.cell? ⟨X,4,none⟩=some (.slice none 0 0):=x4;go_wp2_with fail;refine (l6 (bare 2 ⟨#[]⟩ (ax s st.p)) w5 ⟨fun a ha=>(by cases ha),TW _,by show (ax s st.p).size≤maxLen; rw [Xy.out]; have:=HP3.out; unfold maxLen; omega,TW _,TW _⟩ (by show (2:Int) ≠ 1; decide)).mono ?_;rintro e w6 ⟨rfl,X8⟩;have Vh:=ai (UK.out.trans0 (Onl.of_below X8));have XG:=ai (ZT.out.over hR (Onl.of_below X8) (ZT.out.rd.below X8));obtain ⟨y0,y1,y2,y3,y4,yl⟩:=HV5.out.below X8;replace y0:w6.cell? ⟨X,0,none⟩=some (.int .i64 2):=y0;replace y1:w6.cell? ⟨X,1,none⟩=some (.slice none 0 0):=y1;replace y2:w6.cell? ⟨X,2,none⟩=some (.string ⟨#[]⟩):=y2;replace y3:w6.cell? ⟨X,3,none⟩=some (.string (ax s st.p)):=y3;replace y4:w6.cell? ⟨X,4,none⟩=some (.slice none 0 0):=y4;clear x0 x1 x2 x3 x4 xl X8 HV5 ZT UK;cases hb:av (bare 2 ⟨#[]⟩ (ax s st.p)).e;case true=>
   have HE:Hid (eY s st=(bare 2 ⟨#[]⟩ (ax s st.p)).e∧judged (eY s st) (aI s st)=(⟨st.p + au s st.p,st.bad,st.out⟩:RS)):=by
    refine ⟨EQ.out.1,?_⟩;rw [EQ.out.1,EQ.out.2];exact if_pos hb
   clear hb;go_wp2_with fail;refine (K7 R s ((⟨st.p + au s st.p,st.bad,st.out⟩:RS)) base v qs (bare 2 ⟨#[]⟩ (ax s st.p)) w6 XG.out hR (TZ hB Vh.out.size) hn (vv _ _ _ _ _) (.inl ⟨rfl,rfl,rfl⟩) (fun g hg=>absurd hg (jX _ _ _ g))).mono ?_;rintro e w7 ⟨v7,rfl,hF7,Y5⟩;have HF7:=ai hF7;have HW7:=ai ((Vh.out.any v).trans Y5);clear hF7 Y5;go_wp2;exact bodyPost_ret (v:=.int .i64 (st.out.length:Int)) (by simp [results,Tryz.results234,go_sem]) rfl (by rw [HE.out.1,← HE.out.1,HE.out.2,HE.out.1]; exact ⟨v7,[bare 2 ⟨#[]⟩ (ax s st.p)],rfl,HF7.out,HW7.out,fun q hq g hg=>by rw [Ua] at hq; subst hq; exact absurd hg (jX _ _ _ g)⟩)
  have HE:Hid (eY s st=(bare 2 ⟨#[]⟩ (ax s st.p)).e∧judged (eY s st) (aI s st)=uw ((⟨st.p + au s st.p,st.bad,st.out⟩:RS))):=by
   refine ⟨EQ.out.1,?_⟩;rw [EQ.out.1,EQ.out.2];exact if_neg (fun e=>by have:=e.symm.trans hb; cases this)
  clear hb;have c2:=XG.out.rd.c2;have f2:=XG.out.rd.fr 2;have hl:=XG.out.rd.lt;have hxr:=YG.out;have hrx:=Ne.symm YG.out;have WN:Hid (Onl R nQ w (w6.setCell ⟨R,2,none⟩ (.bool true))):=Vh.out.at_own _ _;have HF7:Hid (RdF (w6.setCell ⟨R,2,none⟩ (.bool true)) R s (uw ((⟨st.p + au s st.p,st.bad,st.out⟩:RS))) base v qs):=XG.out.over hR ((Onl.refl R nQ w6).at_own _ _) XG.out.rd.hurt;go_wp2_with fail;refine (K7 R s (uw ((⟨st.p + au s st.p,st.bad,st.out⟩:RS))) base v qs (bare 2 ⟨#[]⟩ (ax s st.p)) _ HF7.out hR (TZ hB WN.out.size) hn (vv _ _ _ _ _) (.inl ⟨rfl,rfl,rfl⟩) (fun g hg=>absurd hg (jX _ _ _ g))).mono ?_;rintro e w8 ⟨v8,rfl,hF8,Wn⟩;have HF8:=ai hF8;have HW8:=ai ((WN.out.any v).trans Wn);clear hF8 Wn;go_wp2;exact bodyPost_ret (v:=.int .i64 (st.out.length:Int)) (by simp [results,Tryz.results234,go_sem,uw]) rfl (by rw [HE.out.1,← HE.out.1,HE.out.2,HE.out.1]; exact ⟨v8,[bare 2 ⟨#[]⟩ (ax s st.p)],rfl,HF8.out,HW8.out,fun q hq g hg=>by rw [Ua] at hq; subst hq; exact absurd hg (jX _ _ _ g)⟩)
 have ZT:=ai (Wo.out.is_yes hR hc Y4 hg5);have EQ:=ai (LD hc);have HP5:Hid (st.p + au s st.p + 2≤s.size):=zy hc;clear Y4 hg5 hc Wo UR HV4 HFR4;go_wp2_with fail;refine lX 5 (fun _=>undef) (fun f=>{ tmps:=List.toArray (Value.pointer (some ⟨R,0,none⟩)::undef::.int .i64 0::undef::undef::undef::.pointer (some ⟨X,0,none⟩)::.pointer (some ⟨R,0,none⟩)::.bool false::undef::undef::undef::undef::undef::undef::undef::undef::undef::undef::undef::undef::undef::undef::undef::undef::undef::undef::undef::undef::undef::undef::undef::undef::undef::undef::undef::undef::undef::undef::undef::.pointer (some ⟨R,0,none⟩)::.bool false::undef::undef::undef::undef::undef::undef::undef::undef::undef::.pointer (some ⟨R,0,none⟩)::.string (ax s st.p)::.agg #[.int .i64 2,.slice none 0 0,.string ⟨#[]⟩,.string (ax s st.p),.slice none 0 0]::.pointer (some ⟨R,0,none⟩)::.bool true::f 0::f 1::f 2::f 3::f 4::undef::undef::undef::undef::undef::undef::undef::undef::undef::[]),defers:=[] }) (VB (Value.pointer (some ⟨X,3,none⟩)::.string (ax s st.p)::.pointer (some ⟨R,0,none⟩)::.string (ax s (st.p + au s st.p + 2))::.agg #[.int .i64 3,.slice none 0 0,.string (ax s st.p),.string (ax s (st.p + au s st.p + 2)),.slice none 0 0]::[]) R s ((st.p + au s st.p + 2) + au s (st.p + au s st.p + 2)) st.bad v) (GB R s (st.p + au s st.p + 2) st.bad v X (bare 2 ⟨#[]⟩ (ax s st.p)) w3) (by kernel_rfl) rfl (by decide +kernel) (by decide +kernel) rfl ⟨fun _=>ZT.out.rd.drewN 1,HV5.out,⟨YH.out.os,YH.out.tape,YH.out.output,YH.out.size,YH.out.block⟩,HFR5.out⟩ ?xK ?finB;case xK =>
  rintro i hi o ho listed f w' hls Vl hG hpre;have HG:=ai hG;have HM:Hid (∀ e ∈ o.after,Region.binds .any e=true→_):=hpre;clear hG hpre;have hc:i=0 ∨ i=1 ∨ i=2 ∨ i=3 ∨ i=4:=by omega
  clear hi
  repeat' rcases hc with rfl | hc
  ·cases ho;have HS:=ai (HG.out.step (i:=0) hls (by decide));refine aa rfl fun K HK=>?_;clear HM;dsimp only;go_simp;exact HK.out _ _ ⟨Value.pointer (some ⟨X,3,none⟩),by simp [upd],HS.out,⟨rfl,fun e=>absurd e (by decide)⟩,fun k u _ hu=>hu⟩
  ·cases ho;have e0:f 0=Value.pointer (some ⟨X,3,none⟩):=(HM.out ⟨0,.data⟩ (by simp) rfl).1;have x3:w'.cell? ⟨X,3,none⟩=some (.string (ax s st.p)):=HG.out.box.2.2.2.1;have HS:=ai (HG.out.step (i:=1) hls (by decide));refine aa rfl fun K HK=>?_;clear HM;simp only [e0];go_simp;exact HK.out _ _ ⟨Value.string (ax s st.p),by simp [upd,e0],HS.out,⟨rfl,fun e=>absurd e (by decide)⟩,fun k u _ hu=>hu⟩
  ·cases ho;have HS:=ai (HG.out.step (i:=2) hls (by decide));refine aa rfl fun K HK=>?_;clear HM;dsimp only;go_simp;exact HK.out _ _ ⟨Value.pointer (some ⟨R,0,none⟩),by simp [upd],HS.out,⟨rfl,fun e=>absurd e (by decide)⟩,fun k u _ hu=>hu⟩
  ·cases ho;have e2:f 2=Value.pointer (some ⟨R,0,none⟩):=(HM.out ⟨2,.data⟩ (by simp) rfl).1;have hrd:=ai (HG.out.rd (Ij Vl hls (by omega)));refine aa rfl fun K HK=>?_;clear HM;simp only [e2];go_simp;refine (uz R s (st.p + au s st.p + 2) st.bad v w' hrd.out hs HP5.out).mono ?_;rintro e w7 ⟨rfl,hr7,WL⟩;have HS:=ai (HG.out.called hls WL YG.out);have HR7:=ai hr7;clear hr7 WL;go_wp2_with fail;exact HK.out _ _ ⟨Value.string (ax s (st.p + au s st.p + 2)),by simp [upd,e2],HS.out,⟨rfl,fun _=>HR7.out⟩,fun k u hk hu=>⟨hu.1,fun e=>absurd e hk⟩⟩
  cases ho;have e1:f 1=Value.string (ax s st.p):=(HM.out ⟨1,.data⟩ (by simp) rfl).1;have e3:f 3=Value.string (ax s (st.p + au s st.p + 2)):=(HM.out ⟨3,.data⟩ (by simp) rfl).1;have HS:=ai (HG.out.step (i:=4) hls (by decide));refine aa rfl fun K HK=>?_;clear HM;simp only [e1,e3];go_simp;exact HK.out _ _ ⟨Value.agg #[.int .i64 3,.slice none 0 0,.string (ax s st.p),.string (ax s (st.p + au s st.p + 2)),.slice none 0 0],by simp [upd,e1,e3],HS.out,⟨rfl,fun e=>absurd e (by decide)⟩,fun k u _ hu=>hu⟩
 case finB =>
  rintro o ho listed f w' hG hall;obtain rfl:=Option.some.inj ho;have e4:f 4=Value.agg #[.int .i64 3,.slice none 0 0,.string (ax s st.p),.string (ax s (st.p + au s st.p + 2)),.slice none 0 0]:=(hall 4 (by omega)).1;have Zc:=ai ((hall 3 (by omega)).2 rfl);have HG:=ai hG;obtain ⟨x0,x1,x2,x3,x4,xl⟩:=hG.box;have f0:=hG.fr 0;have f1:=hG.fr 1;have f2:=hG.fr 2;have f3:=hG.fr 3;have f4:=hG.fr 4;clear ho hall hG;refine wpOp_step rfl (fun K hK=>?_);have HK:Hid (∀ a w,_→K a w):=hK;clear hK;simp only [e4];go_simp;refine HK.out _ _ ?_;clear HK;obtain ⟨wz,hwz⟩:∃ wz,wz=(((((w'.setCell ⟨X,0,none⟩ (.int .i64 3)).setCell ⟨X,1,none⟩ (.slice none 0 0)).setCell ⟨X,2,none⟩ (.string (ax s st.p))).setCell ⟨X,3,none⟩ (.string (ax s (st.p + au s st.p + 2)))).setCell ⟨X,4,none⟩ (.slice none 0 0)):=⟨_,rfl⟩;have HO3z:Hid (Onl R nQ w3 wz):=by rw [hwz]; exact ((((HG.out.onl.at_new HX3.out _ _).at_new HX3.out _ _).at_new HX3.out _ _).at_new HX3.out _ _).at_new HX3.out _ _
  have HRz:Hid (RdC wz R s (st.p + au s st.p + 2 + au s (st.p + au s st.p + 2)) st.bad v):=by rw [hwz]; exact ((((Zc.out.other YG.out _ _).other YG.out _ _).other YG.out _ _).other YG.out _ _).other YG.out _ _
  have HVz:Hid (yh wz X (bare 3 (ax s st.p) (ax s (st.p + au s st.p + 2)))):=by rw [hwz]; exact OG x0 x1 x2 x3 x4 xl _ _ _
  clear HV5 ZT UK YH HFR5;have ZT:=ai (Zd.out.over hR HO3z.out HRz.out);have UK:=ai (UX.out.trans0 HO3z.out);rw [← hwz];clear hwz x0 x1 x2 x3 x4 xl f0 f1 f2 f3 f4 e4 HRz HO3z HG Zc;obtain ⟨x0,x1,x2,x3,x4,xl⟩:=HVz.out;replace x0:wz.cell? ⟨X,0,none⟩=some (.int .i64 3):=x0;replace x1:wz.cell? ⟨X,1,none⟩=some (.slice none 0 0):=x1;replace x2:wz.cell? ⟨X,2,none⟩=some (.string (ax s st.p)):=x2;replace x3:wz.cell? ⟨X,3,none⟩=some (.string (ax s (st.p + au s st.p + 2))):=x3;replace x4:wz.cell? ⟨X,4,none⟩=some (.slice none 0 0):=x4;go_wp2_with fail;refine (l6 (bare 3 (ax s st.p) (ax s (st.p + au s st.p + 2))) wz ⟨fun a ha=>(by cases ha),by show (ax s st.p).size≤maxLen; rw [Xy.out]; have:=HP3.out; unfold maxLen; omega,by show (ax s (st.p + au s st.p + 2)).size≤maxLen; rw [yY s _ HP5.out]; have:=j6 s _ HP5.out; unfold maxLen; omega,TW _,TW _⟩ (by show (3:Int) ≠ 1; decide)).mono ?_;rintro e w6 ⟨rfl,X8⟩;have Vh:=ai (UK.out.trans0 (Onl.of_below X8));have XG:=ai (ZT.out.over hR (Onl.of_below X8) (ZT.out.rd.below X8));obtain ⟨y0,y1,y2,y3,y4,yl⟩:=HVz.out.below X8;replace y0:w6.cell? ⟨X,0,none⟩=some (.int .i64 3):=y0;replace y1:w6.cell? ⟨X,1,none⟩=some (.slice none 0 0):=y1;replace y2:w6.cell? ⟨X,2,none⟩=some (.string (ax s st.p)):=y2;replace y3:w6.cell? ⟨X,3,none⟩=some (.string (ax s (st.p + au s st.p + 2))):=y3;replace y4:w6.cell? ⟨X,4,none⟩=some (.slice none 0 0):=y4;clear x0 x1 x2 x3 x4 xl X8 HVz ZT UK;cases hb:av (bare 3 (ax s st.p) (ax s (st.p + au s st.p + 2))).e;case true=>
   have HE:Hid (eY s st=(bare 3 (ax s st.p) (ax s (st.p + au s st.p + 2))).e∧judged (eY s st) (aI s st)=(⟨st.p + au s st.p + 2 + au s (st.p + au s st.p + 2),st.bad,st.out⟩:RS)):=by
    refine ⟨EQ.out.1,?_⟩;rw [EQ.out.1,EQ.out.2];exact if_pos hb
   clear hb;go_wp2_with fail;refine (K7 R s ((⟨st.p + au s st.p + 2 + au s (st.p + au s st.p + 2),st.bad,st.out⟩:RS)) base v qs (bare 3 (ax s st.p) (ax s (st.p + au s st.p + 2))) w6 XG.out hR (TZ hB Vh.out.size) hn (vv _ _ _ _ _) (.inl ⟨rfl,rfl,rfl⟩) (fun g hg=>absurd hg (jX _ _ _ g))).mono ?_;rintro e w7 ⟨v7,rfl,hF7,Y5⟩;have HF7:=ai hF7;have HW7:=ai ((Vh.out.any v).trans Y5);clear hF7 Y5;go_wp2;exact bodyPost_ret (v:=.int .i64 (st.out.length:Int)) (by simp [results,Tryz.results234,go_sem]) rfl (by rw [HE.out.1,← HE.out.1,HE.out.2,HE.out.1]; exact ⟨v7,[bare 3 (ax s st.p) (ax s (st.p + au s st.p + 2))],rfl,HF7.out,HW7.out,fun q hq g hg=>by rw [Ua] at hq; subst hq; exact absurd hg (jX _ _ _ g)⟩)
  have HE:Hid (eY s st=(bare 3 (ax s st.p) (ax s (st.p + au s st.p + 2))).e∧judged (eY s st) (aI s st)=uw ((⟨st.p + au s st.p + 2 + au s (st.p + au s st.p + 2),st.bad,st.out⟩:RS))):=by
   refine ⟨EQ.out.1,?_⟩;rw [EQ.out.1,EQ.out.2];exact if_neg (fun e=>by have:=e.symm.trans hb; cases this)
  clear hb;have c2:=XG.out.rd.c2;have f2:=XG.out.rd.fr 2;have hl:=XG.out.rd.lt;have hxr:=YG.out;have hrx:=Ne.symm YG.out;have WN:Hid (Onl R nQ w (w6.setCell ⟨R,2,none⟩ (.bool true))):=Vh.out.at_own _ _;have HF7:Hid (RdF (w6.setCell ⟨R,2,none⟩ (.bool true)) R s (uw ((⟨st.p + au s st.p + 2 + au s (st.p + au s st.p + 2),st.bad,st.out⟩:RS))) base v qs):=XG.out.over hR ((Onl.refl R nQ w6).at_own _ _) XG.out.rd.hurt;go_wp2_with fail;refine (K7 R s (uw ((⟨st.p + au s st.p + 2 + au s (st.p + au s st.p + 2),st.bad,st.out⟩:RS))) base v qs (bare 3 (ax s st.p) (ax s (st.p + au s st.p + 2))) _ HF7.out hR (TZ hB WN.out.size) hn (vv _ _ _ _ _) (.inl ⟨rfl,rfl,rfl⟩) (fun g hg=>absurd hg (jX _ _ _ g))).mono ?_;rintro e w8 ⟨v8,rfl,hF8,Wn⟩;have HF8:=ai hF8;have HW8:=ai ((WN.out.any v).trans Wn);clear hF8 Wn;go_wp2;exact bodyPost_ret (v:=.int .i64 (st.out.length:Int)) (by simp [results,Tryz.results234,go_sem,uw]) rfl (by rw [HE.out.1,← HE.out.1,HE.out.2,HE.out.1]; exact ⟨v8,[bare 3 (ax s st.p) (ax s (st.p + au s st.p + 2))],rfl,HF8.out,HW8.out,fun q hq g hg=>by rw [Ua] at hq; subst hq; exact absurd hg (jX _ _ _ g)⟩)
structure PL (w1 wr:World) (R X:Nat) (s:ByteArray) (xs:List Al) (p:Nat) (bad:Bool) (v vA:Value):Prop where
 rd:RdC wr R s p bad v
 onl:Onl R nQ w1 wr
 c0:wr.cell? ⟨X,0,none⟩=some (.int .i64 1)
 c1:wr.cell? ⟨X,1,none⟩=some vA
 c2:wr.cell? ⟨X,2,none⟩=some (.string ⟨#[]⟩)
 c3:wr.cell? ⟨X,3,none⟩=some (.string ⟨#[]⟩)
 c4:wr.cell? ⟨X,4,none⟩=some (.slice none 0 0)
 fr:gY wr X
 lt:X < wr.heap.size
 own:wr.ownsRow (X + 1) 43 2 vA xs.length (pairs xs)
theorem PL.moved {w1 wr w':af} {R X:Nat} {s:ByteArray} {xs:List Al} {p p':Nat} {bad bad':Bool} {v vA:Value} (h:PL w1 wr R X s xs p bad v vA) (hRX:R < X) (hg:wr.grownBy w' (some R)) (hr:RdC w' R s p' bad' v):PL w1 w' R X s xs p' bad' v vA:=by
 have hne:some X ≠ some R:=by intro e; injection e with e; omega
 refine ⟨hr,h.onl.trans0 (Onl.of_grown hg),hg.cell h.c0 hne,hg.cell h.c1 hne,hg.cell h.c2 hne,hg.cell h.c3 hne,hg.cell h.c4 hne,df h.fr (hg.block X h.lt hne),TP h.lt hg.size,h.own.kept hg (.inr ?_)⟩;intro e; have:=(h.own.lt R e).1; omega
theorem PL.made {w1 wr:af} {R X:Nat} {s:ByteArray} {xs:List Al} {p:Nat} {bad:Bool} {v vA:Value} (h:PL w1 wr R X s xs p bad v vA) (o:Obj):PL w1 (wr.alloc o) R X s xs p bad v vA:=by
 have hg:=World.grownBy_alloc wr o none;exact ⟨h.rd.grown hg (by simp),h.onl.trans0 (Onl.of_below ((TT _ _).alloc (TS _) _)),hg.cell h.c0 (by simp),hg.cell h.c1 (by simp),hg.cell h.c2 (by simp),hg.cell h.c3 (by simp),hg.cell h.c4 (by simp),df h.fr (hg.block X h.lt (by simp)),TP h.lt hg.size,h.own.alloc o⟩
theorem PL.aset {w1 wr:af} {R X:Nat} {s:ByteArray} {xs:List Al} {p:Nat} {bad:Bool} {v vA:Value} (h:PL w1 wr R X s xs p bad v vA) (hRX:R < X) (h1:w1.heap.size≤X) {A:Nat} (hA:X < A) (hv:vA.ownBlock ≠ some A) (o:Nat) (u:Value):PL w1 (wr.setCell ⟨A,o,none⟩ u) R X s xs p bad v vA:=by
 have hb:∀ k,k ≠ A→(wr.setCell ⟨A,o,none⟩ u).heap[k]?=wr.heap[k]?:=fun k hk=>Below.heap_setCell wr _ _ k hk;refine ⟨h.rd.other (by omega) _ _,h.onl.at_new (by omega) _ _,?_,?_,?_,?_,?_,df h.fr (hb X (by omega)),by simpa using h.lt,jE h.own fun g hg=>hb g (fun e=>hv (by rw [hg,e]))⟩
 all_goals rw [Ul (w:=wr) (hb X (by omega))]
 ·exact h.c0
 ·exact h.c1
 ·exact h.c2
 ·exact h.c3
 exact h.c4
theorem LG (xs:List Al) (a:Al):pairs (xs ++ [a])=pairs xs ++ [.string a.t,.string a.s]:=by simp [pairs]
theorem PL.app {w1 wr w':af} {R X:Nat} {s:ByteArray} {xs:List Al} {p:Nat} {bad:Bool} {v vA vB:Value} (h:PL w1 wr R X s xs p bad v vA) (hRX:R < X) (h1:w1.heap.size≤X) (a:Al) (hown:w'.ownsRow (X + 1) 43 2 vB (xs.length + 1) (pairs xs ++ [.string a.t,.string a.s])) (hg:wr.grownBy w' vA.ownBlock):PL w1 (w'.setCell ⟨X,1,none⟩ vB) R X s (xs ++ [a]) p bad v vB:=by
 have hX:some X ≠ vA.ownBlock:=fun e=>by have:=(h.own.lt X e.symm).1; omega
 have hR:some R ≠ vA.ownBlock:=fun e=>by have:=(h.own.lt R e.symm).1; omega
 have ho:Onl R nQ w1 w':=⟨hg.os.trans h.onl.os,hg.tape.trans h.onl.tape,hg.output.trans h.onl.output,TZ h.onl.size hg.size,fun k hk h2 h3=>(hg.block k (TP hk h.onl.size) (fun e=>by have:=(h.own.lt k e.symm).1; omega)).trans (h.onl.block k hk h2 h3)⟩;refine ⟨(h.rd.grown hg hR).other (by omega) _ _,ho.at_new h1 _ _,?_,mS (hg.cell h.c1 hX),?_,?_,?_,fun j=>?_,?_,?_⟩
 ·rw [mO (by omega)]; exact hg.cell h.c0 hX
 ·rw [mO (by omega)]; exact hg.cell h.c2 hX
 ·rw [mO (by omega)]; exact hg.cell h.c3 hX
 ·rw [mO (by omega)]; exact hg.cell h.c4 hX
 ·simpa using df h.fr (hg.block X h.lt hX) j
 ·simpa using TP h.lt hg.size
 rw [LG,T9,List.length_singleton];exact ownsRow_setCell_below hown (by show X < X + 1; omega) _
def wbad (R:Nat) (w:World):Nat:=match w.cell? ⟨R,2,none⟩ with
 | some (.bool true)=>0
 | _=>1
theorem RdC.wbad0 {w:af} {R:Nat} {s:ByteArray} {p:Nat} {v:Value} (h:RdC w R s p true v):wbad R w=0:=by
 simp [Go.Proofs.YtajkkeikihhejaaGreat.wbad,h.c2]
theorem RdC.wbad1 {w:af} {R:Nat} {s:ByteArray} {p:Nat} {v:Value} (h:RdC w R s p false v):wbad R w=1:=by
 simp [Go.Proofs.YtajkkeikihhejaaGreat.wbad,h.c2]
theorem Ao (w:af) (a b:bH) (g:Nat) (hg:w.heap.size=g):∀ j u,[Value.string a,.string b][j]?=some u→(w.alloc (.cells #[.string a,.string b] 43)).cell? ((⟨g,0,none⟩:Addr).add j)=some u:=by
 intro j u hu;subst hg;rw [show (⟨w.heap.size,0,none⟩:Addr).add j=⟨w.heap.size,0 + j,none⟩ by simp [Addr.add]; omega,Um];have:=World.cell?_alloc_mark w #[.string a,.string b] 43 (0,0) j;rw [this];simpa using hu
def qK (s:ByteArray) (st:RS):Int × RS:=match dD s (s.size + 1) [] (j5 fQ st) with
 | (some xs,st')=>((st'.out.length:Int),rT ⟨1,xs,⟨#[]⟩,⟨#[]⟩,[]⟩ st')
 | (none,st')=>(0,st')
theorem Jd {s:ByteArray} {st st':RS} {xs:List Al} (h:dD s (s.size + 1) [] (j5 fQ st)=(some xs,st')):qK s st=((st'.out.length:Int),rT ⟨1,xs,⟨#[]⟩,⟨#[]⟩,[]⟩ st'):=by simp only [qK,h]
theorem Je {s:ByteArray} {st st':RS} (h:dD s (s.size + 1) [] (j5 fQ st)=(none,st')):qK s st=(0,st'):=by simp only [qK,h]
theorem Jf (s:bH) (n:Nat) (xs:List Al) (p:Nat) (o:List Ex):dD s n xs ⟨p,true,o⟩=(none,⟨p,true,o⟩):=by
 cases n with
 | zero=>rfl
 | succ n=>rfl
structure PairIs (s:ByteArray) (p:Nat) (o:List Ex) (a:Al) (pb:Nat):Prop where
 a:(⟨ax s p,x9 s (bz s ⟨p,false,o⟩)⟩:Al)=a
 b:aV s (bz s ⟨p,false,o⟩)=⟨pb,false,o⟩
theorem LH {s:ByteArray} {p:Nat} {o:List Ex} (h:mJ s uu (p + au s p) false=false):PairIs s p o ⟨ax s p,⟨#[]⟩⟩ (p + au s p):=by
 have e:kY s uu (bz s ⟨p,false,o⟩)=false:=h;exact ⟨by unfold x9; rw [e]; rfl,by unfold aV; rw [e]; rfl⟩
theorem Jg {s:ByteArray} {p:Nat} {o:List Ex} (h:mJ s uu (p + au s p) false=true):PairIs s p o ⟨ax s p,ax s (p + au s p + 1)⟩ (p + au s p + 1 + au s (p + au s p + 1)):=by
 have e:kY s uu (bz s ⟨p,false,o⟩)=true:=h;exact ⟨by unfold x9; rw [e]; rfl,by unfold aV; rw [e]; rfl⟩
theorem Gf {s:ByteArray} {p pb n:Nat} {o:List Ex} {a:Al} {xs:List Al} (h:PairIs s p o a pb) (h1:mJ s fe pb false=true):dD s (n + 1) xs ⟨p,false,o⟩=(some (xs ++ [a]),⟨pb + 1,false,o⟩):=by
 have e:kY s fe ⟨pb,false,o⟩=true:=h1;unfold dD;rw [h.a,h.b,e]; rfl
theorem Gg {s:ByteArray} {p pb n:Nat} {o:List Ex} {a:Al} {xs:List Al} (h:PairIs s p o a pb) (h1:mJ s fe pb false=false) (h2:mJ s lV pb false=true):dD s (n + 1) xs ⟨p,false,o⟩=dD s n (xs ++ [a]) ⟨pb + 1,false,o⟩:=by
 have e:kY s fe ⟨pb,false,o⟩=false:=h1;have e2:kY s lV ⟨pb,false,o⟩=true:=h2
 conv=>lhs; unfold dD
 rw [h.a,h.b,e,e2]; rfl
theorem LJ {s:ByteArray} {p pb n:Nat} {o:List Ex} {a:Al} {xs:List Al} (h:PairIs s p o a pb) (h1:mJ s fe pb false=false) (h2:mJ s lV pb false=false):dD s (n + 1) xs ⟨p,false,o⟩=dD s n (xs ++ [a]) ⟨pb,true,o⟩:=by
 have e:kY s fe ⟨pb,false,o⟩=false:=h1;have e2:kY s lV ⟨pb,false,o⟩=false:=h2
 conv=>lhs; unfold dD
 rw [h.a,h.b,e,e2]; rfl
theorem capOf {w:af} {base size n m cap:Nat} {e:TypeId} {ad:Option Addr} {xs:List Value} (h:w.ownsRow base e size (.slice ad n cap) m xs) (hm:m=n:=by rfl):n≤cap:=by
 rcases h.2 with ⟨e1,h0⟩ | ⟨g,cap',cur,e1,-,-,hnc,-⟩
 ·injection e1 with _ e2 e3; omega
 injection e1 with _ e2 e3; omega
theorem PL.node {w1 wr:af} {R X:Nat} {s:ByteArray} {xs:List Al} {p:Nat} {bad:Bool} {v vA:Value} (h:PL w1 wr R X s xs p bad v vA) (h1:w1.heap.size≤X) {base:Nat} (hb:base≤w1.heap.size):∃ ad cap,vA=.slice ad xs.length cap∧NewQ base wr ⟨⟨1,xs,⟨#[]⟩,⟨#[]⟩,[]⟩,ad,cap,none,0⟩∧∀ g,oJ ⟨⟨1,xs,⟨#[]⟩,⟨#[]⟩,[]⟩,ad,cap,none,0⟩ g→X < g:=by
 obtain ⟨ad,cap,e,h2,h3,h4⟩:=Rq h.own rfl;have hK:∀ g,¬ bK ⟨⟨1,xs,⟨#[]⟩,⟨#[]⟩,[]⟩,ad,cap,none,0⟩ g:=fun g hg=>hg.1 rfl;have hA:∀ g,oJ ⟨⟨1,xs,⟨#[]⟩,⟨#[]⟩,[]⟩,ad,cap,none,0⟩ g→X + 1≤g∧g < wr.heap.size∧gY wr g:=by
  rintro g (hg | hg)
  ·exact h4 g hg.1 hg.2
  exact absurd hg (hK g)
 refine ⟨ad,cap,e,⟨h3,fun h=>absurd rfl h,⟨h2,.inl rfl⟩,fun g hg=>⟨?_,(hA g hg).2⟩,fun g _ hg=>hK g hg,capOf (e ▸ h.own)⟩,fun g hg=>(hA g hg).1⟩;have:=(hA g hg).1;omega
theorem LM (R:Nat) (s:bH) (st:RS) (base:Nat) (v:Value) (qs:List ER) (w:af) (h:RdF w R s st base v qs) (hR:R < base) (hB:base≤w.heap.size) (hs:s.size≤1000) (hp:st.p≤s.size) (hn:qs.length≤100000)
  (h0:mJ s fQ st.p st.bad=true) :
  Calls prog 234 #[.pointer (some ⟨R,0,none⟩)] w (uI R s base v qs w (qK s st)):=by
 obtain ⟨iA,hiA,zA0,zA1,zA2⟩:=info_parts (P:=prog) (e:=43) (z:=.agg #[.string ⟨#[]⟩,.string ⟨#[]⟩]) (size:=2) (bytes:=32) (by kernel_rfl);have YI:Hid (prog.info? 43=some iA∧iA.zero=some (.agg #[.string ⟨#[]⟩,.string ⟨#[]⟩])∧iA.size=2∧iA.bytes=32):=⟨hiA,zA0,zA1,zA2⟩;have H:=ai h;have HP:=ai hp
 have hbad:st.bad=false:=by cases e:st.bad with
  | false=>rfl
  | true=>rw [e] at h0; cases h0
 have HBD:=ai hbad;have HP1:Hid (st.p + 5≤s.size):=zy h0;clear h hp hiA zA0 zA1 zA2 hbad;go_enter func234,ntmps234;go_wp2_with fail;refine (lW R s fQ st.p st.bad v w H.out.rd hs HP.out (by decide)).mono ?_;rintro e w1 ⟨rfl,hr1,hg1⟩;have VH:=ai (H.out.is_yes hR h0 hr1 hg1);have UV:=ai (Onl.of_grown hg1);rw [h0];clear hr1 hg1 h0;obtain ⟨W2,hW2⟩:∃ W2,W2=w1.alloc (.cells #[.int .i64 1,.slice none 0 0,.string ⟨#[]⟩,.string ⟨#[]⟩,.slice none 0 0] 39):=⟨_,rfl⟩;have HL2:Hid (PL w1 W2 R w1.heap.size s [] (st.p + 5) false v (.slice none 0 0)):=by
  rw [hW2];have hrd:RdC w1 R s (st.p + 5) false v:=by have:=VH.out.rd; rw [show (j5 fQ st).bad=false from HBD.out] at this; exact this
  refine ⟨hrd.below ((TT _ _).alloc (TS _) _),Onl.of_below ((TT _ _).alloc (TS _) _),by simp,by simp,by simp,by simp,by simp,fun j=>by simp,by simp,World.ownsRow_nil _ _ _ _⟩
 have HX0:Hid (w.heap.size≤w1.heap.size):=UV.out.size;have X9:Hid (R < w1.heap.size):=VH.out.rd.lt;have Xk:Hid (w1.heap.size≤w1.heap.size):=TS _;go_wp2_with fail;rw [← hW2];clear hW2;obtain ⟨X,hX⟩:∃ X,X=w1.heap.size:=⟨_,rfl⟩;replace HL2:Hid (PL w1 W2 R X s [] (st.p + 5) false v (.slice none 0 0)):=by rw [hX]; exact HL2
 replace HX0:Hid (w.heap.size≤X):=by rw [hX]; exact HX0
 replace X9:Hid (R < X):=by rw [hX]; exact X9
 replace Xk:Hid (w1.heap.size≤X):=by rw [hX]; exact Xk
 rw [← hX];clear hX;go_loopw [14] (fun _ wr=>∃ (n p:Nat) (bad:Bool) (xs:List Al) (vA:Value),Hid (p≤s.size)∧Hid (dD s n xs ⟨p,bad,st.out⟩=dD s (s.size + 1) [] (j5 fQ st))∧Hid (bad=false→s.size - p < n∧xs.length + 5≤p)∧Hid (PL w1 wr R X s xs p bad v vA)) (fun _ wr=>s.size - wat R wr + wbad R wr);case atStart=>exact ⟨s.size + 1,st.p + 5,false,[],.slice none 0 0,HP1.out,by show _=_; unfold j5; rw [HBD.out]; rfl,fun _=>⟨by omega,by simp⟩,HL2.out⟩
 obtain ⟨n,p,bad,xs,vA,HPL,HPP,HLN,HL⟩:=hrel;clear HL2;have r2:=HL.out.rd.c2;have rl:=HL.out.rd.lt;cases bad;case true=>
  have EQ:=ai (Je (HPP.out.symm.trans (Jf s n xs p st.out)));have HF:=ai (VH.out.over hR HL.out.onl HL.out.rd);have HO:=ai (UV.out.trans0 HL.out.onl);go_wp2;exact bodyPost_ret (v:=.int .i64 0) (by simp [results,Tryz.results234,go_sem]) rfl (by rw [EQ.out]; exact ⟨v,[],rfl,by rw [List.append_nil]; exact HF.out,HO.out.any v,fun q hq=>by cases hq⟩)
 obtain ⟨m,hm⟩:∃ m,n=m + 1:=⟨n - 1,by have:=(HLN.out rfl).1; omega⟩;subst hm;have HPW:=ai (j6 s p HPL.out);have HLN1:=ai (HLN.out rfl).1;have HLN2:=ai (HLN.out rfl).2;clear HLN;go_wp2_with fail;refine (uz R s p false v wr HL.out.rd hs HPL.out).mono ?_;rintro e w4 ⟨rfl,hr4,hg4⟩;have HL4:=ai (HL.out.moved X9.out hg4 hr4);have HPLC:=ai HL.out.rd.place;have HPLB:=ai HL.out.rd.wbad1;clear hr4 hg4 HL r2 rl;obtain ⟨W5,Vb⟩:∃ W5,W5=w4.alloc (.cells #[.string (ax s p),.string ⟨#[]⟩] 43):=⟨_,rfl⟩;have HL5:Hid (PL w1 W5 R X s xs (p + au s p) false v vA):=by rw [Vb]; exact HL4.out.made _
 have HA0:Hid (W5.cell? ⟨w4.heap.size,0,none⟩=some (.string (ax s p))):=by show _=_; rw [Vb]; simp
 have HA1:Hid (W5.cell? ⟨w4.heap.size,1,none⟩=some (.string ⟨#[]⟩)):=by show _=_; rw [Vb]; simp
 have HAF:Hid (gY W5 w4.heap.size):=fun j=>by rw [Vb]; simp
 have UN:Hid (w4.heap.size < W5.heap.size):=by show _ < _; rw [Vb]; simp
 have HAX:Hid (X < w4.heap.size):=HL4.out.lt;have HAV:Hid (vA.ownBlock ≠ some w4.heap.size):=fun e=>by have:=(HL4.out.own.lt _ e).2; omega
 go_wp2_with fail;rw [← Vb];clear Vb;obtain ⟨A,hA⟩:∃ A,A=w4.heap.size:=⟨_,rfl⟩;rw [← hA] at HA0 HA1 HAF UN HAX HAV;rw [← hA];clear hA HL4;refine (lW R s uu (p + au s p) false v W5 HL5.out.rd hs HPW.out (by decide)).mono ?_;rintro e w6 ⟨rfl,Wd,XV⟩;have ZU:Hid (some A ≠ some R):=by intro e; injection e with e; have:=X9.out; have:=HAX.out; omega
 have HB0:=ai (XV.cell HA0.out ZU.out);have HB1:=ai (XV.cell HA1.out ZU.out);have HBF:=ai (df HAF.out (XV.block A UN.out ZU.out));have Yp:=ai (TP UN.out XV.size);cases hc:mJ s uu (p + au s p) false
 case' false =>
  rw [yZ hc] at Wd;have HL6:=ai (HL5.out.moved X9.out XV Wd);have PI:=ai (LH (o:=st.out) hc);have HPB:=HPW;have HPG:Hid (p≤p + au s p):=Nat.le_add_right _ _;clear Wd XV hc HL5 HA0 HA1 HAF UN;have a0:=HB0.out;have a1:=HB1.out;have k1:=HL6.out.c1;obtain ⟨W9,Yr⟩:∃ W9,W9=w6.alloc (.cells #[.string (ax s p),.string ((⟨#[]⟩:ByteArray))] 43):=⟨_,rfl⟩;have WY:Hid (PL w1 W9 R X s xs (p + au s p) false v vA):=by rw [Yr]; exact HL6.out.made _
  have Wi:Hid (∀ j u,[Value.string (ax s p),.string ((⟨#[]⟩:ByteArray))][j]?=some u→W9.cell? ((⟨w6.heap.size,0,none⟩:Addr).add j)=some u):=by rw [Yr]; exact Ao w6 _ _ _ (rfl)
  have Zq:Hid (X + 1≤W9.heap.size):=WY.out.lt;have hxs:xs.length≤1000:=by have:=HLN2.out; have:=HPL.out; omega
  go_wp2_with (at_builtin; rw [← Yr]; clear Yr; refine wpList_append_own _ rfl _ _ 36 rfl (X + 1) 43 iA (.agg #[.string ⟨#[]⟩,.string ⟨#[]⟩]) 2 32 underlying36 YI.out.1 YI.out.2.1 YI.out.2.2.1 YI.out.2.2.2 rfl (by decide) vA xs.length (pairs xs) rfl WY.out.own ⟨w6.heap.size,0,none⟩ 1 1 [Value.string (ax s p),.string ((⟨#[]⟩:ByteArray))] rfl rfl Wi.out (by intro u hu; simp at hu; rcases hu with rfl | rfl <;> rfl) (by unfold maxLen; omega) (by omega) Zq.out ?_);intro vB w10 VL Vv _;obtain ⟨gB,cB,rfl⟩:=fH VL;have Ya:some X ≠ vA.ownBlock:=fun e=>by have:=(WY.out.own.lt X e.symm).1; omega
  have k10:=Vv.cell WY.out.c1 Ya;have f10:=df WY.out.fr (Vv.block X WY.out.lt Ya) 1;have l10:=TP WY.out.lt Vv.size;have Wv:=ai (WY.out.app X9.out Xk.out ⟨ax s p,(⟨#[]⟩:ByteArray)⟩ VL Vv);clear VL Vv a0 a1 k1 WY Ya Wi Zq HL6;obtain ⟨P,hP⟩:∃ P,P=p + au s p:=⟨_,rfl⟩;obtain ⟨S2,hS2⟩:∃ S2:ByteArray,S2=⟨#[]⟩:=⟨_,rfl⟩;rw [← hP] at Wv PI HPB HPG;rw [← hS2] at Wv PI;clear hP hS2
 case' true =>
  rw [uy hc] at Wd;have HL6:=ai (HL5.out.moved X9.out XV Wd);have PI:=ai (Jg (o:=st.out) hc);have HPH:Hid (p + au s p + 1≤s.size):=zy hc;have HPB:=ai (j6 s _ HPH.out);have HPG:Hid (p≤p + au s p + 1 + au s (p + au s p + 1)):=by show _≤_; omega
  clear Wd XV hc HL5 HA0 HA1 HAF UN;go_wp2_with fail;refine (uz R s (p + au s p + 1) false v w6 HL6.out.rd hs HPH.out).mono ?_;rintro e w7 ⟨rfl,hr7,WL⟩;have HL7:=ai (HL6.out.moved X9.out WL hr7);have VD:=ai (WL.cell HB0.out ZU.out);have a1:=WL.cell HB1.out ZU.out;have hcf:=df HBF.out (WL.block A Yp.out ZU.out);have f1:=hcf 1;have hcl:=TP Yp.out WL.size;obtain ⟨W8,Wn⟩:∃ W8,W8=w7.setCell ⟨A,1,none⟩ (.string (ax s (p + au s p + 1))):=⟨_,rfl⟩;have HL8:Hid (PL w1 W8 R X s xs (p + au s p + 1 + au s (p + au s p + 1)) false v vA):=by rw [Wn]; exact HL7.out.aset X9.out Xk.out HAX.out HAV.out _ _
  have HD0:Hid (W8.cell? ⟨A,0,none⟩=some (.string (ax s p))):=by show _=_; rw [Wn,mO (by omega)]; exact VD.out
  have HD1:Hid (W8.cell? ⟨A,1,none⟩=some (.string (ax s (p + au s p + 1)))):=by show _=_; rw [Wn]; exact mS a1
  clear hr7 WL HL6 HB0 HB1 HBF Yp;have a0:=VD.out;have k1:=HL7.out.c1;have hxa:X ≠ A:=by have:=HAX.out; omega
  have hax:A ≠ X:=by have:=HAX.out; omega
  obtain ⟨W9,Yr⟩:∃ W9,W9=W8.alloc (.cells #[.string (ax s p),.string (ax s (p + au s p + 1))] 43):=⟨_,rfl⟩;have WY:Hid (PL w1 W9 R X s xs (p + au s p + 1 + au s (p + au s p + 1)) false v vA):=by rw [Yr]; exact HL8.out.made _
  have Wi:Hid (∀ j u,[Value.string (ax s p),.string (ax s (p + au s p + 1))][j]?=some u→W9.cell? ((⟨w7.heap.size,0,none⟩:Addr).add j)=some u):=by rw [Yr]; exact Ao W8 _ _ _ (by rw [Wn]; simp)
  have Zq:Hid (X + 1≤W9.heap.size):=WY.out.lt;have hxs:xs.length≤1000:=by have:=HLN2.out; have:=HPL.out; omega
  go_wp2_with (at_builtin; rw [← Wn]; clear Wn; rw [← Yr]; clear Yr; refine wpList_append_own _ rfl _ _ 36 rfl (X + 1) 43 iA (.agg #[.string ⟨#[]⟩,.string ⟨#[]⟩]) 2 32 underlying36 YI.out.1 YI.out.2.1 YI.out.2.2.1 YI.out.2.2.2 rfl (by decide) vA xs.length (pairs xs) rfl WY.out.own ⟨w7.heap.size,0,none⟩ 1 1 [Value.string (ax s p),.string (ax s (p + au s p + 1))] rfl rfl Wi.out (by intro u hu; simp at hu; rcases hu with rfl | rfl <;> rfl) (by unfold maxLen; omega) (by omega) Zq.out ?_);intro vB w10 VL Vv _;obtain ⟨gB,cB,rfl⟩:=fH VL;have Ya:some X ≠ vA.ownBlock:=fun e=>by have:=(WY.out.own.lt X e.symm).1; omega
  have k10:=Vv.cell WY.out.c1 Ya;have f10:=df WY.out.fr (Vv.block X WY.out.lt Ya) 1;have l10:=TP WY.out.lt Vv.size;have Wv:=ai (WY.out.app X9.out Xk.out ⟨ax s p,ax s (p + au s p + 1)⟩ VL Vv);clear VL Vv a0 a1 k1 WY Ya Wi Zq HL8 hxa hax f1 hcl hcf;obtain ⟨P,hP⟩:∃ P,P=p + au s p + 1 + au s (p + au s p + 1):=⟨_,rfl⟩;obtain ⟨S2,hS2⟩:∃ S2:ByteArray,S2=ax s (p + au s p + 1):=⟨_,rfl⟩;rw [← hP] at Wv PI HPB HPG;rw [← hS2] at Wv PI;clear hP hS2
 all_goals
  go_wp2_with fail;obtain ⟨W11,hW11⟩:∃ W11,W11=w10.setCell ⟨X,1,none⟩ (.slice (some ⟨gB,0,none⟩) (xs.length + 1) cB):=⟨_,rfl⟩;rw [← hW11] at Wv ⊢;clear hW11 k10 f10 l10;refine (lW R s fe P false v W11 Wv.out.rd hs HPB.out (by decide)).mono ?_;rintro e w12 ⟨rfl,WR,WZ⟩;cases hcl:mJ s fe P false;case true=>
   rw [uy hcl] at WR;have VC:=ai (Wv.out.moved X9.out WZ WR);have EQ:=ai (Jd (HPP.out.symm.trans (Gf (xs:=xs) (n:=m) PI.out hcl)));obtain ⟨ad,cap,hva,hnq,hin⟩:=VC.out.node Xk.out (base:=base) (TZ hB UV.out.size);injection hva with hva1 hva2 hva3;subst hva1;subst hva3;clear hva2;have HNQ:=ai hnq;have HIN:=ai hin;have k0:=VC.out.c0;have k1:=VC.out.c1;have k2:=VC.out.c2;have k3:=VC.out.c3;have k4:=VC.out.c4;have HF:=ai (VH.out.over hR VC.out.onl VC.out.rd);have HO:=ai (UV.out.trans0 VC.out.onl);clear WR WZ hcl hnq hin Wv VC;go_wp2_with fail;have HADD:=K7 R s ⟨P + 1,false,st.out⟩ base v qs ⟨⟨1,xs ++ [⟨ax s p,S2⟩],⟨#[]⟩,⟨#[]⟩,[]⟩,some ⟨gB,0,none⟩,cB,none,0⟩ w12 HF.out hR (TZ hB HO.out.size) hn HNQ.out (.inl ⟨rfl,rfl,rfl⟩) (fun g hg=>⟨fun e=>by have:=(VH.out.own.lt g e).2; have:=HIN.out g hg; have:=Xk.out; omega,fun q' hq' hg'=>by have:=(VH.out.lie q' hq' g hg').2.1; have:=HIN.out g hg; have:=Xk.out; omega⟩);rw [show (⟨⟨1,xs ++ [⟨ax s p,S2⟩],⟨#[]⟩,⟨#[]⟩,[]⟩,some ⟨gB,0,none⟩,cB,none,0⟩:ER).val=.agg #[.int .i64 1,.slice (some ⟨gB,0,none⟩) (xs.length + 1) cB,.string ⟨#[]⟩,.string ⟨#[]⟩,.slice none 0 0] by simp [ER.val]] at HADD;refine HADD.mono ?_;rintro e w13 ⟨v13,rfl,hF13,hW13⟩;have HF13:=ai hF13;have HW13:=ai ((HO.out.any v).trans hW13);clear hF13 hW13;go_wp2;exact bodyPost_ret (v:=.int .i64 (st.out.length:Int)) (by simp [results,Tryz.results234,go_sem]) rfl (by rw [EQ.out]; exact ⟨v13,_,rfl,HF13.out,HW13.out,fun q hq g hg=>by rw [Ua] at hq; subst hq; have:=HIN.out g hg; have:=HX0.out; omega⟩)
  rw [yZ hcl] at WR;have VC:=ai (Wv.out.moved X9.out WZ WR);have ZV:=ai hcl;clear WR WZ hcl Wv;go_wp2_with fail;refine (lW R s lV P false v w12 VC.out.rd hs HPB.out (by decide)).mono ?_;rintro e w13 ⟨rfl,YJ,Xw⟩;cases hcm:mJ s lV P false;case true=>
   rw [uy hcm] at YJ;have WC:=ai (VC.out.moved X9.out Xw YJ);have HQ13:Hid (P + 1≤s.size):=zy hcm;have EQ:=ai ((Gg (xs:=xs) (n:=m) PI.out ZV.out hcm).symm.trans HPP.out);have HM:Hid (s.size - wat R w13 + wbad R w13 < s.size - wat R wr + wbad R wr):=by
    show _ < _;rw [WC.out.rd.wbad1,HPLB.out,show wat R w13=P + 1 from WC.out.rd.place,HPLC.out];have:=HQ13.out;have:=HPG.out;omega
   clear YJ Xw hcm VC;go_wp2;go_roundw;case rel=>exact ⟨m,P + 1,false,xs ++ [(⟨ax s p,S2⟩:Al)],.slice (some ⟨gB,0,none⟩) (xs.length + 1) cB,HQ13.out,EQ.out,fun _=>⟨by have:=HLN1.out; have:=HPG.out; have:=HQ13.out; omega,by have:=HLN2.out; have:=HPG.out; rw [T9,List.length_singleton]; omega⟩,WC.out⟩
   exact HM.out
  rw [yZ hcm] at YJ;have WC:=ai (VC.out.moved X9.out Xw YJ);have EQ:=ai ((LJ (xs:=xs) (n:=m) PI.out ZV.out hcm).symm.trans HPP.out);have c2:=WC.out.rd.c2;have f2:=WC.out.rd.fr 2;have hl13:=WC.out.rd.lt;have HL14:Hid (PL w1 (w13.setCell ⟨R,2,none⟩ (.bool true)) R X s (xs ++ [⟨ax s p,S2⟩]) P true v (.slice (some ⟨gB,0,none⟩) (xs.length + 1) cB)):=WC.out.moved X9.out (by have:=Fs w13 R 2 (.bool true) 0; exact this) WC.out.rd.hurt;have HM:Hid (s.size - wat R (w13.setCell ⟨R,2,none⟩ (.bool true)) + wbad R (w13.setCell ⟨R,2,none⟩ (.bool true)) < s.size - wat R wr + wbad R wr):=by
   show _ < _;rw [HL14.out.rd.wbad0,HPLB.out,show wat R (w13.setCell ⟨R,2,none⟩ (.bool true))=P from HL14.out.rd.place,HPLC.out];have:=HPG.out;omega
  clear YJ Xw hcm VC WC;go_wp2;go_roundw;case rel=>exact ⟨m,P,true,xs ++ [(⟨ax s p,S2⟩:Al)],.slice (some ⟨gB,0,none⟩) (xs.length + 1) cB,HPB.out,EQ.out,fun h=>(by cases h),HL14.out⟩
  exact HM.out
theorem Db (x y:Al):jR x y=jR y x:=by
 unfold jR;rw [Bool.eq_iff_iff];simp only [TU,beq_iff_eq];exact ⟨fun h=>⟨h.1.symm,h.2.symm⟩,fun h=>⟨h.1.symm,h.2.symm⟩⟩
theorem LP (ad:Option Addr) (n cap:Nat) (xs:List Al) (v:Al) (w:af) (hn:n≤xs.length) (hlen:xs.length≤1048576) (hs:jN w ad xs) :
  Calls prog 197 #[.slice ad n cap,.agg #[.string v.t,.string v.s]] w fun e w'=>(∃ r:Int,e=.returned (.int .i64 r)∧decide (0≤r)=dF xs n v)∧ag w w':=by
 obtain ⟨W,hW⟩:∃ W,W=w.alloc (.cells #[.string v.t,.string v.s] 43):=⟨_,rfl⟩;have HB0:Hid (ag w W):=by show Below _ _ _; rw [hW]; exact (TT w.heap.size w).alloc (TS _) _
 have hz:w.heap.size < W.heap.size:=by rw [hW]; simp
 have b0:W.cell? ⟨w.heap.size,0,none⟩=some (.string v.t):=by rw [hW]; simp
 have b1:W.cell? ⟨w.heap.size,1,none⟩=some (.string v.s):=by rw [hW]; simp
 have HS:=az (hs.below HB0.out);clear hs;go_enter func197,ntmps197;go_wp2_with fail;rw [← hW];clear hW;go_loopw [8] (fun i wr=>∃ k:Nat,k≤n∧i=.int .i64 k∧Hid (dF xs k v=false)∧ag W wr) (fun i _=>n - (intOf i).toNat);case atStart=>exact ⟨0,TW _,rfl,sN _ _,TT _ _⟩
 obtain ⟨k,hk,rfl,HP,hB⟩:=hrel;have a0:=kept hB hz b0;have a1:=kept hB hz b1;by_cases hlt:k < n
 ·have hltx:k < xs.length:=by omega
  rcases HS.out.below hB with rfl | ⟨b,off,rfl,hb,hr⟩
  ·simp at hltx
  obtain ⟨t0,t1⟩:=hr k hltx;have hk1:=bB k;have hk2:(k:Int) < (n:Int):=by omega
  clear hr;cases hq:jR v xs[k];case true=>
   have HE:=Ea v xs[k] hq;have HN:Hid (dF xs n v=true):=Cv hlt hltx (by rw [Db]; exact hq);go_wp2_with fail;go_quiet (fail);go_wp2;go_ret;exact ⟨⟨_,rfl,by rw [HN.out]; simp⟩,HB0.out.trans (below_drewN (hB.mono HB0.out.size) _)⟩
  have HE:=Ea v xs[k] hq;have UI:Hid (dF xs (k + 1) v=false):=by show _=_; rw [sM _ _ _ hltx,HP.out,Db,hq]; rfl
  go_wp2_with fail;go_quiet (fail);go_wp2;go_roundw;case rel=>exact ⟨k + 1,by omega,by go_num,UI,below_drewN hB _⟩
  simp [intOf] <;> omega
 obtain rfl:k=n:=by omega
 go_wp2;go_ret;exact ⟨⟨-1,rfl,by rw [HP.out]; rfl⟩,HB0.out.trans (hB.mono HB0.out.size)⟩
theorem vw (ad:Option Addr) (n cap:Nat) (xs:List Al) (v:Al) (w:af) (hn:n≤xs.length) (hlen:xs.length≤1048576) (hs:jN w ad xs) :
  Calls prog 142 #[.slice ad n cap,.agg #[.string v.t,.string v.s]] w fun e w'=>e=.returned (.bool (dF xs n v))∧ag w w':=by
 have HB0:Hid (ag w (w.alloc (.cells #[.string v.t,.string v.s] 43))):=(TT w.heap.size w).alloc (TS _) _;have HS:=az hs;clear hs;go_enter func142,ntmps142;go_wp2_with fail;refine (LP ad n cap xs v _ hn hlen (HS.out.below HB0.out)).mono ?_;rintro e w1 ⟨⟨r,rfl,hr⟩,hb1⟩;have HR:Hid (decide (0≤r)=dF xs n v):=hr;have HB1:=jP HB0 hb1;clear hr hb1;go_wp2;go_ret;exact ⟨ah HR.out,HB1.out⟩
set_option maxRecDepth 8000 in
theorem Ev (r:ER) (w:af) (hf:r.e.fits) (h1:r.e.kind ≠ 1) :
  Calls prog 239 #[r.val] w fun e w'=>e=.returned (.bool (av r.e))∧ag w w':=by
 obtain ⟨⟨kind,allow,over,name,kids⟩,adA,capA,adK,capK⟩:=r;obtain ⟨f1,f2,f3,f4,f5⟩:=hf;simp only at f1 f2 f3 f4 f5 h1;simp only [ER.val];unfold maxLen at f4 f5;by_cases h2:kind=2
 ·subst h2;clear h1;go_enter func239,ntmps239;go_wp2_with fail;go_quiet (fail);go_wp2_with (go_at_call 162; refine (aL _ _ (by assumption)).mono ?_; rintro e w' ⟨rfl,rfl⟩)
  all_goals go_ret
  all_goals exact ⟨ah (by first | (simp [av, *]; done) | (simp [av, *]; omega) | (simp [av, *]; rw [Bool.eq_iff_iff]; simp; done) | (simp [av, *]; rw [Bool.eq_iff_iff]; simp; omega)),below_drewN ((TT w.heap.size w).alloc (TS _) _) _⟩
 by_cases h3:kind=3
 ·subst h3;clear h1;go_enter func239,ntmps239;go_wp2_with fail;go_quiet (fail);go_wp2_with (go_at_call 162; refine (aL _ _ (by assumption)).mono ?_; rintro e w' ⟨rfl,rfl⟩)
  all_goals go_ret
  all_goals exact ⟨ah (by first | (simp [av, *]; done) | (simp [av, *]; omega) | (simp [av, *]; rw [Bool.eq_iff_iff]; simp; done) | (simp [av, *]; rw [Bool.eq_iff_iff]; simp; omega)),below_drewN ((TT w.heap.size w).alloc (TS _) _) _⟩
 by_cases h4:kind=4
 ·subst h4;clear h1;go_enter func239,ntmps239;go_wp2_with fail;go_quiet (fail);go_wp2_with (go_at_call 162; refine (aL _ _ (by assumption)).mono ?_; rintro e w' ⟨rfl,rfl⟩)
  all_goals go_ret
  all_goals exact ⟨ah (by first | (simp [av, *]; done) | (simp [av, *]; omega) | (simp [av, *]; rw [Bool.eq_iff_iff]; simp; done) | (simp [av, *]; rw [Bool.eq_iff_iff]; simp; omega)),below_drewN ((TT w.heap.size w).alloc (TS _) _) _⟩
 by_cases h5:kind=5
 ·subst h5;clear h1;go_enter func239,ntmps239;go_wp2_with fail;go_quiet (fail);go_wp2_with (go_at_call 162; refine (aL _ _ (by assumption)).mono ?_; rintro e w' ⟨rfl,rfl⟩)
  all_goals go_ret
  all_goals exact ⟨ah (by first | (simp [av, *]; done) | (simp [av, *]; omega) | (simp [av, *]; rw [Bool.eq_iff_iff]; simp; done) | (simp [av, *]; rw [Bool.eq_iff_iff]; simp; omega)),below_drewN ((TT w.heap.size w).alloc (TS _) _) _⟩
 by_cases h6:kind=6
 ·subst h6;clear h1;go_enter func239,ntmps239;go_wp2_with fail;go_quiet (fail);go_wp2_with (go_at_call 162; refine (aL _ _ (by assumption)).mono ?_; rintro e w' ⟨rfl,rfl⟩)
  all_goals go_ret
  all_goals exact ⟨ah (by first | (simp [av, *]; done) | (simp [av, *]; omega) | (simp [av, *]; rw [Bool.eq_iff_iff]; simp; done) | (simp [av, *]; rw [Bool.eq_iff_iff]; simp; omega)),below_drewN ((TT w.heap.size w).alloc (TS _) _) _⟩
 go_enter func239,ntmps239;go_wp2_with fail;go_quiet (fail);go_wp2_with (go_at_call 162; refine (aL _ _ (by assumption)).mono ?_; rintro e w' ⟨rfl,rfl⟩)
 all_goals go_ret
 all_goals exact ⟨ah (by first | (simp [av, *]; done) | (simp [av, *]; omega) | (simp [av, *]; rw [Bool.eq_iff_iff]; simp; done) | (simp [av, *]; rw [Bool.eq_iff_iff]; simp; omega)),below_drewN ((TT w.heap.size w).alloc (TS _) _) _⟩
open Go.Maps
def nE (a:Al) (e:Ex):Bool:=decide (e.kind=1) && dF e.allow e.allow.length a
def xM (ts:List Ty) (ty rel:ByteArray) (a:Al):Bool:=(aA ts ty rel).any (nE a)
theorem fit_drop (a:Al) (rows:List ER) (k:Nat) (h:k < rows.length):(aj (rows.drop k)).any (nE a)=(nE a rows[k].e || (aj (rows.drop (k + 1))).any (nE a)):=by
 rw [gI _ _ h]; rfl
set_option maxRecDepth 100000 in
theorem OI (b n:Nat) (rs:List TR) (ad:Option Addr) (M:ByteArray × ByteArray→Option Value) (oa ob r c d s:bH) (w:af) (hV:aM dQ prog 94 w b n M) (hT:Tab rs M) (hs:kW w ad rs) (hl:∀ r ∈ rs,r.light) (ho:oa.size≤maxLen) (hr:r.size≤maxLen) :
  Calls prog 100 #[.map (some b),.agg #[.string oa,.string ob,.string r,.string c,.string d,.string s]] w fun e w'=>e=.returned (.bool (xM (ae rs) oa r ⟨c,s⟩))∧ag w w':=by
 have HT:=az hT;have HS:=az hs;have HL:=az hl;obtain ⟨kl,hkl⟩:=jB (oa,r) ho hr;have Vm:Hid (keyOf prog 94 (dQ (oa,r))=some kl):=hkl;obtain ⟨W0,hW0⟩:∃ W0,W0=(w.alloc (.cells #[.string oa,.string ob,.string r,.string c,.string d,.string s] 46)).alloc (.cells #[.string c,.string s] 43):=⟨_,rfl⟩;have hal:ag w W0:=by
  rw [hW0]
  repeat (first | exact TT _ _ | refine Below.alloc ?_ (by first | (simp; done) | (simp; omega)) _)
 have HB0:=az hal;have ZK:=az (hV.below hal);have VD:Hid (W0.cell? ⟨w.heap.size + 1,0,none⟩=some (.string c)∧W0.cell? ⟨w.heap.size + 1,1,none⟩=some (.string s)∧w.heap.size + 1 < W0.heap.size):=⟨by rw [hW0]; simp,by rw [hW0]; simp,by rw [hW0]; simp⟩;obtain ⟨rows,UC,capE,HM,HE,HF⟩:∃ (rows:List ER) (UC:Option Addr) (capE:Nat),Hid ((M (oa,r)).getD (.slice none 0 0)=.slice UC rows.length capE)∧Hid (aj rows=aA (ae rs) oa r)∧Hid (pO rs UC rows):=by
  cases e:M (oa,r) with
  | none=>exact ⟨[],none,0,rfl,by show _=_; unfold aA; rw [HT.out.no _ e]; rfl,.inl rfl⟩
  | some v =>
   obtain ⟨t,ZL,q,hq,-,rfl,e1,-⟩:=HT.out.yes _ v e;exact ⟨q.rows,q.ad,q.cap,rfl,by show _=_; unfold aA; rw [e1]; rfl,.inr ⟨t,ZL,q,hq,rfl,rfl⟩⟩
 have Vj:=HF.out.light HL.out;have HLE1:rows.length≤1048576:=Vj.1;have Z5:Hid (∀ q ∈ rows,q.e.light):=Vj.2;have WA:Hid (iH w UC rows):=HF.out.sl HS.out;clear hV hT hs hl hkl hal Vj;go_enter func100,ntmps100;go_wp2_with (at_lookup; rw [← hW0]; refine jA _ rfl _ _ 91 rfl 94 33 ic underlying91 (lu _) b n M rfl ZK.out (oa,r) kl rfl Vm.out ?_; rw [HM.out]; clear hW0);go_loopw [23] (fun i wr=>∃ k:Nat,k≤rows.length∧i=.int .i64 k∧Hid ((aj (rows.drop k)).any (nE ⟨c,s⟩)=(aj rows).any (nE ⟨c,s⟩))∧Hid (ag w wr)∧Hid (wr.cell? ⟨w.heap.size + 1,0,none⟩=some (.string c)∧wr.cell? ⟨w.heap.size + 1,1,none⟩=some (.string s)∧w.heap.size + 1 < wr.heap.size)) (fun i _=>rows.length - (intOf i).toNat);case atStart=>exact ⟨0,TW _,rfl,rfl,HB0,VD⟩
 clear HB0 VD ZK;obtain ⟨k,hk,rfl,HP,HB,HC⟩:=hrel;by_cases hlt:k < rows.length
 ·rcases WA.out.below HB.out with hnil | ⟨bE,Z6,XZ,Z7,ZM,hok⟩
  ·rw [hnil] at hlt; simp at hlt
  obtain ⟨t0,t1,t2,t3,t4⟩:=ZM k hlt;have Vz:Hid (rows[k].ok wr):=hok _ (TQ hlt);have lgA:rows[k].e.allow.length≤1048576:=(Z5.out _ (TQ hlt)).1;have hk1:=bB k;have hk2:(k:Int) < (rows.length:Int):=by omega
  obtain ⟨x0,x1,x2⟩:=HC.out;have HD:Hid ((aj rows).any (nE ⟨c,s⟩)=(nE ⟨c,s⟩ rows[k].e || (aj (rows.drop (k + 1))).any (nE ⟨c,s⟩))):=by show _=_; rw [← HP.out]; exact fit_drop _ _ _ hlt
  obtain ⟨W1,hW1⟩:∃ W1,W1=wr.alloc (.cells #[.int .i64 rows[k].e.kind,.slice rows[k].adA rows[k].e.allow.length rows[k].capA,.string rows[k].e.over,.string rows[k].e.name,.slice rows[k].adK rows[k].e.kids.length rows[k].capK] 39):=⟨_,rfl⟩;have hal:ag wr W1:=by rw [hW1]; exact (TT _ _).alloc (TS _) _
  have HB1:=jP HB hal;have VE:Hid (W1.cell? ⟨w.heap.size + 1,0,none⟩=some (.string c)∧W1.cell? ⟨w.heap.size + 1,1,none⟩=some (.string s)∧w.heap.size + 1 < W1.heap.size):=⟨aG hal x2 x0,aG hal x2 x1,TP x2 hal.size⟩;have HA1:Hid (jN W1 rows[k].adA rows[k].e.allow):=Vz.out.1.below hal;rw [XZ];clear ZM hok hal HC;by_cases h1:rows[k].e.kind=1
  ·have hq1:(rows[k].e.kind == 1)=true:=by simpa using h1
   have WH:Hid (nE ⟨c,s⟩ rows[k].e=dF rows[k].e.allow rows[k].e.allow.length ⟨c,s⟩):=by show _=_; unfold nE; simp [h1]
   replace h1:Hid (rows[k].e.kind=1):=h1;go_wp2_with fail;rw [← hW1];refine (vw rows[k].adA rows[k].e.allow.length rows[k].capA rows[k].e.allow ⟨c,s⟩ _ (TS _) lgA HA1.out).mono ?_;rintro e w2 ⟨rfl,hb2⟩;have HB2:=jP HB1 hb2;have Va:Hid (w2.cell? ⟨w.heap.size + 1,0,none⟩=some (.string c)∧w2.cell? ⟨w.heap.size + 1,1,none⟩=some (.string s)∧w.heap.size + 1 < w2.heap.size):=⟨aG hb2 VE.out.2.2 VE.out.1,aG hb2 VE.out.2.2 VE.out.2.1,TP VE.out.2.2 hb2.size⟩;clear hb2 hW1 t0 t1 t2 t3 t4 x0 x1;cases hz:dF rows[k].e.allow rows[k].e.allow.length ⟨c,s⟩;case true=>
    have HN:Hid (xM (ae rs) oa r ⟨c,s⟩=true):=by show _=_; unfold xM; rw [← HE.out,HD.out,WH.out,hz]; rfl
    go_wp2;go_ret;exact ⟨by rw [HN.out]; rfl,HB2.out⟩
   have UI:Hid ((aj (rows.drop (k + 1))).any (nE ⟨c,s⟩)=(aj rows).any (nE ⟨c,s⟩)):=by show _=_; rw [HD.out,WH.out,hz]; rfl
   go_wp2;go_roundw;case rel=>exact ⟨k + 1,by omega,by go_num,UI,HB2,Va⟩
   simp [intOf] <;> omega
  have hq1:(rows[k].e.kind == 1)=false:=by simpa using h1
  have UI:Hid ((aj (rows.drop (k + 1))).any (nE ⟨c,s⟩)=(aj rows).any (nE ⟨c,s⟩)):=by show _=_; rw [HD.out]; simp [nE,h1]
  have U3:Hid (ag w (wr.alloc (.cells #[.int .i64 rows[k].e.kind,.slice rows[k].adA rows[k].e.allow.length rows[k].capA,.string rows[k].e.over,.string rows[k].e.name,.slice rows[k].adK rows[k].e.kids.length rows[k].capK] 39))):=by rw [← hW1]; exact HB1
  have HCX:Hid ((wr.alloc (.cells #[.int .i64 rows[k].e.kind,.slice rows[k].adA rows[k].e.allow.length rows[k].capA,.string rows[k].e.over,.string rows[k].e.name,.slice rows[k].adK rows[k].e.kids.length rows[k].capK] 39)).cell? ⟨w.heap.size + 1,0,none⟩=some (.string c)∧(wr.alloc (.cells #[.int .i64 rows[k].e.kind,.slice rows[k].adA rows[k].e.allow.length rows[k].capA,.string rows[k].e.over,.string rows[k].e.name,.slice rows[k].adK rows[k].e.kids.length rows[k].capK] 39)).cell? ⟨w.heap.size + 1,1,none⟩=some (.string s)∧w.heap.size + 1 < (wr.alloc (.cells #[.int .i64 rows[k].e.kind,.slice rows[k].adA rows[k].e.allow.length rows[k].capA,.string rows[k].e.over,.string rows[k].e.name,.slice rows[k].adK rows[k].e.kids.length rows[k].capK] 39)).heap.size):=by rw [← hW1]; exact VE
  clear hW1;go_wp2;go_roundw;case rel=>exact ⟨k + 1,by omega,by go_num,UI,U3,HCX⟩
  simp [intOf] <;> omega
 have HN:Hid (xM (ae rs) oa r ⟨c,s⟩=false):=by show _=_; unfold xM; rw [← HE.out,← HP.out,List.drop_of_length_le (by omega)]; rfl
 go_wp2;go_ret;exact ⟨by rw [HN.out]; rfl,HB.out⟩
set_option linter.unusedVariables false
def QA (r:RR):List Value:=[.string r.name,r.sl]
abbrev Ew (w:World) (br nr:Nat) (Mr:KL→Option Value) (Er:List (KL × RR)):Prop:=G.Grp FB prog 172 147 2 QA w br nr Mr Er
theorem Gh {w:af} {br nr:Nat} {Mr:KL→Option Value} {Er:List (KL × RR)} (h:Ew w br nr Mr Er) {k:KL} {v:Value} (hk:Mr k=some v):∃ n xs,w.ownsRow (br + 1) 147 2 v n xs:=by
 rcases h.row k with ⟨e,-⟩ | ⟨v',e,ho⟩
 ·rw [e] at hk; cases hk
 rw [e] at hk; injection hk with hk; subst hk; exact ⟨_,_,ho⟩
theorem rG {w:af} {br nr g:Nat} {Mr:KL→Option Value} {Er:List (KL × RR)} {e:TypeId} {cur:Array Value} (h:Ew w br nr Mr Er) (hc:w.heap[g]?=some (.cells cur e (0,0))) (hne:(147:TypeId) ≠ e):G.FreeB Mr g:=fun k v hk hg=>by
 obtain ⟨n,xs,ho⟩:=Gh h hk;exact hne (dI ho hg hc)
theorem Gi {w:af} {br nr g:Nat} {Mr:KL→Option Value} {Er:List (KL × RR)} {es:Array MapEntry} {c:Nat} (h:Ew w br nr Mr Er) (hc:w.heap[g]?=some (.map es c)):G.FreeB Mr g:=fun k v hk hg=>by
 obtain ⟨n,xs,ho⟩:=Gh h hk;exact Eu ho hg hc
theorem o9 {K:Type} {enc:K→Value} {P:Program} {kt:TypeId} {w:af} {b n:Nat} {M:K→Option Value} (h:aM enc P kt w b n M):∃ es c,w.heap[b]?=some (.map es c):=by
 obtain ⟨D,⟨es,c,hb,-⟩,-⟩:=h;exact ⟨es,c,hb⟩
structure DatA (w:World) (rs:List TR) (D br bp bt:Nat) (n1:Int) (nr:Nat) (Mr:KL→Option Value) (Er:List (KL × RR)) (E:List (K3 × Tp)) (xo xu:List Al) (np:Nat) (Mp:K3→Option Value) (vo vu:Value):Prop where
 dat:DatT w D br bp (.map (some bt)) n1 E xo xu np Mp vo vu
 tab:aM dQ prog 94 w bt 36 (nX rs)
 rel:Ew w br nr Mr Er
 ord:bt < br∧br < bp
section
variable {w w':World} {rs:List TR} {D br bp bt:Nat} {n1:Int} {nr:Nat} {Mr:KL→Option Value} {Er:List (KL × RR)} {E:List (K3 × Tp)} {xo xu:List Al} {np:Nat} {Mp:K3→Option Value} {vo vu:Value}
theorem DatA.below (h:DatA w rs D br bp bt n1 nr Mr Er E xo xu np Mp vo vu) (hb:ag w w'):DatA w' rs D br bp bt n1 nr Mr Er E xo xu np Mp vo vu:=⟨h.dat.below hb,h.tab.below hb,h.rel.below hb,h.ord⟩
theorem DatA.tell (h:DatA w rs D br bp bt n1 0 (fun _=>none) [] E xo xu np Mp vo vu) {E':List (K3 × Tp)} {xo' xu':List Al} {np':Nat} {Mp':K3→Option Value} {XC XE:Value} (hd:DatT w' D br bp (.map (some bt)) n1 E' xo' xu' np' Mp' XC XE) (hb:Below bp w w'):DatA w' rs D br bp bt n1 0 (fun _=>none) [] E' xo' xu' np' Mp' XC XE:=by
 obtain ⟨h1,h2⟩:=h.ord;exact ⟨hd,h.tab.of_block (hb.block bt (by omega)),⟨h.rel.map.of_block (hb.block br (by omega)),fun k=>.inl ⟨rfl,rfl⟩,fun k k' v v' _ e=>by cases e⟩,h.ord⟩
theorem DatA.list (h:DatA w rs D br bp bt n1 nr Mr Er E xo xu np Mp vo vu) {nr':Nat} {Mr':KL→Option Value} {Er':List (KL × RR)} (hg:Ew w' br nr' Mr' Er') (hs:G.Stl w Mr w' Mr' br):DatA w' rs D br bp bt n1 nr' Mr' Er' E xo xu np Mp vo vu:=by
 obtain ⟨h1,h2⟩:=h.ord;have hgt:=h.dat.gt;have hlt:=h.dat.lt;obtain ⟨cur,hk⟩:=h.dat.kind;have hD:w'.heap[D]?=w.heap[D]?:=hs.block D hlt (by omega) (rG h.rel hk (by decide));have hc:∀ o,w'.cell? ⟨D,o,none⟩=w.cell? ⟨D,o,none⟩:=fun o=>Ul (w:=w) (a:=⟨D,o,none⟩) hD;have hO:∀ {v:Value} {n:Nat} {xs:List Value},w.ownsRow (bp + 1) 27 2 v n xs→w'.ownsRow (bp + 1) 27 2 v n xs:=fun {v n xs} ho=>d9 ho fun g hg=>by
  obtain ⟨cr,e⟩:=jH ho hg;have:=ho.lt g hg;exact hs.block g this.2 (by omega) (rG h.rel e (by decide))
 obtain ⟨es,c,eb⟩:=o9 h.dat.told.map;obtain ⟨es2,c2,eb2⟩:=o9 h.tab;refine ⟨⟨hgt,TP hlt hs.size,⟨cur,hD.trans hk⟩,(hc _).trans h.dat.c0,(hc _).trans h.dat.c1,(hc _).trans h.dat.c2,(hc _).trans h.dat.c3,(hc _).trans h.dat.c4,(hc _).trans h.dat.c5,vk h.dat.told ?_ ?_,hO h.dat.objs,hO h.dat.users,h.dat.apart⟩,h.tab.of_block ?_,hg,h.ord⟩
 ·exact hs.block bp (by omega) (by omega) (Gi h.rel eb)
 ·intro k v g hm hg2;obtain ⟨n,xs,ho⟩:=vg h.dat.told hm;obtain ⟨cr,e⟩:=jH ho hg2;have:=ho.lt g hg2;exact hs.block g this.2 (by omega) (rG h.rel e (by decide))
 exact hs.block bt (by omega) (by omega) (Gi h.rel eb2)
theorem DatA.count (h:DatA w rs D br bp bt n1 nr Mr Er E xo xu np Mp vo vu) (n2:Int):DatA (w.setCell ⟨D,1,none⟩ (.int .i64 n2)) rs D br bp bt n2 nr Mr Er E xo xu np Mp vo vu:=by
 obtain ⟨h1,h2⟩:=h.ord;have hgt:=h.dat.gt;obtain ⟨cur,hk⟩:=h.dat.kind;have hne:∀ g,g ≠ D→(w.setCell ⟨D,1,none⟩ (.int .i64 n2)).heap[g]?=w.heap[g]?:=fun g e=>heap_setCell_other w ⟨D,1,none⟩ g _ e;have hc2:∀ o,o ≠ 1→(w.setCell ⟨D,1,none⟩ (.int .i64 n2)).cell? ⟨D,o,none⟩=w.cell? ⟨D,o,none⟩:=fun o ne=>kK (by omega);have hO:∀ {v:Value} {n:Nat} {xs:List Value},w.ownsRow (bp + 1) 27 2 v n xs→(w.setCell ⟨D,1,none⟩ (.int .i64 n2)).ownsRow (bp + 1) 27 2 v n xs:=fun {v n xs} ho=>d9 ho fun g hg=>hne g fun e=>absurd (dI ho (e ▸ hg) hk) (by decide);refine ⟨⟨hgt,by simpa using h.dat.lt,⟨_,heap_setCell_same w D 1 cur _ _ hk⟩,(hc2 0 (by omega)).trans h.dat.c0,Oe h.dat.c1,(hc2 2 (by omega)).trans h.dat.c2,(hc2 3 (by omega)).trans h.dat.c3,(hc2 4 (by omega)).trans h.dat.c4,(hc2 5 (by omega)).trans h.dat.c5,vk h.dat.told (hne bp (by omega)) ?_,hO h.dat.objs,hO h.dat.users,h.dat.apart⟩,h.tab.of_block (hne bt (by omega)),⟨h.rel.map.of_block (hne br (by omega)),fun k=>?_,h.rel.apart⟩,h.ord⟩
 ·intro k v g hm hg2;obtain ⟨n,xs,ho⟩:=vg h.dat.told hm;exact hne g fun e=>absurd (dI ho (e ▸ hg2) hk) (by decide)
 rcases h.rel.row k with e | ⟨v,e,ho⟩
 ·exact .inl e
 exact .inr ⟨v,e,d9 ho fun g hg=>hne g fun e2=>absurd (dI ho (e2 ▸ hg) hk) (by decide)⟩
end
end Go.Proofs.YtajkkeikihhejaaGreat
