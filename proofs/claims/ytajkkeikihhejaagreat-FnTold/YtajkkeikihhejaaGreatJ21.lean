/- The contract of the drawing of a fact: five short strings; nothing but the reader's place has changed. -/
import Derived.Test.YtajkkeikihhejaaGreatSq
import Derived.Test.YtajkkeikihhejaaGreatJ17
import Derived.Test.YtajkkeikihhejaaGreatSpecSchema8
open Go.Proofs.Tryz
set_option maxHeartbeats 80000000
namespace Go.Proofs.YtajkkeikihhejaaGreat
open Go.ChangeShapes Go.WideShapes Go.ChangeAt Go.RowKit
open Pl
def Fc.short (f:Fc):Prop:=f.a.size≤20∧f.b.size≤20∧f.r.size≤20∧f.c.size≤20∧f.d.size≤20
def OY (w:World) (R B g:Nat):Prop:=g ≠ R∧B≤g∧g < w.heap.size∧(∀ o,w.frozen? ⟨g,o,none⟩=false)∧∃ f:Fc,f.short∧wL w g 0 f
theorem OY.only {w w':af} {R B g:Nat} (h:OY w R B g) (k:Only R w w'):OY w' R B g:=by
 obtain ⟨h1,h2,h3,h4,f,hf,hc⟩:=h;exact ⟨h1,h2,TP h3 k.size,fun o=>by rw [k.frozen h3 h1]; exact h4 o,f,hf,hc.same fun o=>k.cell h3 h1⟩
theorem OZ {w:af} {R B:Nat} {t:TypeId} (hR:R < w.heap.size) (hB:B≤w.heap.size):OY (w.alloc (.cells #[.string ⟨#[]⟩,.string ⟨#[]⟩,.string ⟨#[]⟩,.string ⟨#[]⟩,.string ⟨#[]⟩] t)) R B w.heap.size:=by
 refine ⟨by omega,hB,by simp,fun o=>by simp,⟨⟨#[]⟩,⟨#[]⟩,⟨#[]⟩,⟨#[]⟩,⟨#[]⟩⟩,⟨by decide,by decide,by decide,by decide,by decide⟩,?_⟩;refine ⟨?_,?_,?_,?_,?_⟩ <;> simp
theorem QG {w:af} {g:Nat} {x0 x1 x2 x3 x4:Value} (y:Fc) (c0:w.cell? ⟨g,0,none⟩=some x0) (c1:w.cell? ⟨g,1,none⟩=some x1) (c2:w.cell? ⟨g,2,none⟩=some x2) (c3:w.cell? ⟨g,3,none⟩=some x3) (c4:w.cell? ⟨g,4,none⟩=some x4) :
  wL (((((w.setCell ⟨g,0,none⟩ (.string y.a)).setCell ⟨g,1,none⟩ (.string y.b)).setCell ⟨g,2,none⟩ (.string y.r)).setCell ⟨g,3,none⟩ (.string y.c)).setCell ⟨g,4,none⟩ (.string y.d)) g 0 y:=by
 have far:∀ (W:World) (i j:Nat) (v:Value),i ≠ j→(W.setCell ⟨g,i,none⟩ v).cell? ⟨g,j,none⟩=W.cell? ⟨g,j,none⟩:=fun W i j v h=>by apply World.cell?_setCell_other; intro e; exact h (congrArg Addr.off e)
 have same:∀ (W:World) (i:Nat) (x v:Value),W.cell? ⟨g,i,none⟩=some x→(W.setCell ⟨g,i,none⟩ v).cell? ⟨g,i,none⟩=some v:=fun W i x v h=>by apply World.cell?_setCell_same; exact h
 refine ⟨?_,?_,?_,?_,?_⟩
 ·rw [far _ 4 0 _ (by decide),far _ 3 0 _ (by decide),far _ 2 0 _ (by decide),far _ 1 0 _ (by decide)]; exact same _ 0 _ _ c0
 ·show World.cell? _ ⟨g,1,none⟩=_;rw [far _ 4 1 _ (by decide),far _ 3 1 _ (by decide),far _ 2 1 _ (by decide)]; exact same _ 1 _ _ (by rw [far _ 0 1 _ (by decide)]; exact c1)
 ·show World.cell? _ ⟨g,2,none⟩=_;rw [far _ 4 2 _ (by decide),far _ 3 2 _ (by decide)]; exact same _ 2 _ _ (by rw [far _ 1 2 _ (by decide),far _ 0 2 _ (by decide)]; exact c2)
 ·show World.cell? _ ⟨g,3,none⟩=_;rw [far _ 4 3 _ (by decide)]; exact same _ 3 _ _ (by rw [far _ 2 3 _ (by decide),far _ 1 3 _ (by decide),far _ 0 3 _ (by decide)]; exact c3)
 show World.cell? _ ⟨g,4,none⟩=_;exact same _ 4 _ _ (by rw [far _ 3 4 _ (by decide),far _ 2 4 _ (by decide),far _ 1 4 _ (by decide),far _ 0 4 _ (by decide)]; exact c4)
def Sq (R B k:Nat) (v:Value) (w:World):Prop:=(k=18→∃ g,v=.pointer (some ⟨g,0,none⟩)∧OY w R B g)∧(k=17→∃ f:Fc,v=.agg #[.string f.a,.string f.b,.string f.r,.string f.c,.string f.d]∧f.short)∧(k < 17→Kd.ok R w v (FD [.strs 3,.eq (Value.pointer (some ⟨R,0,none⟩)),.idx 3,.elt 3,.str,.obj,.strs 4,.eq (Value.pointer (some ⟨R,0,none⟩)),.idx 4,.elt 4,.str,.strs 3,.eq (Value.pointer (some ⟨R,0,none⟩)),.idx 3,.elt 3,.str,.obj] k))
theorem Sq.only {R B k:Nat} {v:Value} {w w':af} (h:Sq R B k v w) (ho:Only R w w'):Sq R B k v w' :=
 ⟨fun e=>by obtain ⟨g,e1,hg⟩:=h.1 e; exact ⟨g,e1,hg.only ho⟩,h.2.1,fun e=>Kd.only ho _ (h.2.2 e)⟩
theorem Sq.no {R B k:Nat} {v:Value} {w:af} (hk:k < 17) (h:Kd.ok R w v (FD [.strs 3,.eq (Value.pointer (some ⟨R,0,none⟩)),.idx 3,.elt 3,.str,.obj,.strs 4,.eq (Value.pointer (some ⟨R,0,none⟩)),.idx 4,.elt 4,.str,.strs 3,.eq (Value.pointer (some ⟨R,0,none⟩)),.idx 3,.elt 3,.str,.obj] k)):Sq R B k v w:=⟨fun e=>by omega,fun e=>by omega,fun _=>h⟩
set_option maxRecDepth 4000 in
theorem O0 (R:Nat) (ad:Option Addr) (len cap:Nat) (w:af) (h:Rd w R ad len cap) :
  Calls prog 50 #[.pointer (some ⟨R,0,none⟩)] w fun e w'=>(∃ f:Fc,e=.returned (.agg #[.string f.a,.string f.b,.string f.r,.string f.c,.string f.d])∧f.short)∧Rd w' R ad len cap∧Only R w w':=by
 have H:=az h;have Xm:=h.lt;have FAR:Hid (∀ g,w.heap.size≤g→0 < len→∀ b off,ad=some ⟨b,off,none⟩→b ≠ g):=fun g hg h0 b off e=>by
  obtain ⟨b',off',e',-,hb',-⟩:=h.bytes h0;rw [e] at e'; injection e' with e'; injection e' with e1 e2; omega
 clear h;go_enter func50,ntmps50;go_wp2_with fail;refine fF 19 (fun f=>{ tmps:=List.toArray (Value.pointer (some ⟨R,0,none⟩)::undef::.pointer (some ⟨w.heap.size,0,none⟩)::f 18::f 0::f 1::f 2::f 3::f 4::f 5::f 6::f 7::f 8::f 9::f 10::f 11::f 12::f 13::f 14::f 15::f 16::f 17::undef::undef::undef::undef::undef::undef::undef::undef::undef::undef::undef::[]),defers:=[] }) (fun k v w'=>Sq R (w.heap.size + 1) k v w') (fun w'=>Rd w' R ad len cap∧Only R (w.alloc (.cells #[.string ⟨#[]⟩,.string ⟨#[]⟩,.string ⟨#[]⟩,.string ⟨#[]⟩,.string ⟨#[]⟩] 29)) w') (by kernel_rfl) rfl (by kernel_rfl) (by kernel_rfl) rfl ⟨H.out.below (((TT _ _).alloc (TS _) _).drew),(Only.refl _ _).drewN 1⟩ ?step ?fin;case step =>
  rintro i hi o ho f w' ⟨hR',U2⟩ hpre;have HR:=az hR';have HO:=az U2;have hsz:w.heap.size + 1≤w'.heap.size:=by have:=U2.size; simpa using this
  have hRl:R < w'.heap.size:=hR'.lt;have HM:Hid (∀ e ∈ o.after,Region.binds .any e=true→Sq R (w.heap.size + 1) e.on (f e.on) w'):=hpre;have KAL:Hid (∀ ob:Obj,Only R w' (w'.alloc ob)):=fun ob=>(Only.refl R w').alloc ob;clear hR' U2 hpre;have hc:=J4 (i:=i) (by omega);clear hi
  repeat' rcases hc with rfl | hc
  ·cases ho;refine aa rfl fun K HK=>?_;clear HM;dsimp only;go_simp;exact HK.out _ _ ⟨_,by simp [upd],⟨HR.out.alloc _,HO.out.alloc _⟩,.no (by decide) ⟨_,rfl,fw w' R hRl (xs:=[_,_,_]) (by decide)⟩,fun k u hu=>hu.only (KAL.out _)⟩
  ·cases ho;refine aa rfl fun K HK=>?_;clear HM;dsimp only;go_simp;exact HK.out _ _ ⟨Value.pointer (some ⟨R,0,none⟩),by simp [upd],⟨HR.out,HO.out⟩,.no (by decide) rfl,fun k u hu=>hu⟩
  ·cases ho;have e1:f 1=Value.pointer (some ⟨R,0,none⟩):=(HM.out ⟨1,.data⟩ (by simp) rfl).2.2 (by decide);refine aa rfl fun K HK=>?_;clear HM;simp only [e1];go_simp;refine (bW R ad len cap 3 _ HR.out (by omega) (by omega)).mono ?_;rintro e w5 ⟨⟨x,rfl,hx0,hx1⟩,UU,UY⟩;obtain ⟨x,rfl⟩:∃ y:Nat,x=(y:Int):=⟨x.toNat,by omega⟩;have UT:Hid (Rd w5 R ad len cap∧Only R w' w5):=⟨UU,UY⟩;clear UU UY;go_wp2_with fail;exact HK.out _ _ ⟨.int .i64 (x:Int),by simp [upd,e1],⟨UT.out.1,HO.out.trans UT.out.2⟩,.no (by decide) ⟨x,rfl,by omega⟩,fun k u hu=>hu.only UT.out.2⟩
  ·cases ho;obtain ⟨g,e1,hS⟩:=(HM.out ⟨0,.data⟩ (by simp) rfl).2.2 (by decide);obtain ⟨x,e2,hx⟩:=(HM.out ⟨2,.data⟩ (by simp) rfl).2.2 (by decide);replace e1:f 0=_:=e1;replace e2:f 2=_:=e2;have HS:=az hS;clear hS;have hx0:=bB x;have hx1:(x:Int) < 3:=by omega
   refine aa rfl fun K HK=>?_;clear HM;simp only [e1,e2];go_simp;exact HK.out _ _ ⟨.pointer (some ⟨g,x,none⟩),by simp [upd,e1,e2],⟨HR.out,HO.out⟩,.no (by decide) ⟨g,x,rfl,hx,HS.out⟩,fun k u hu=>hu⟩
  ·cases ho;obtain ⟨g,x,e1,hx,hS⟩:=(HM.out ⟨3,.data⟩ (by simp) rfl).2.2 (by decide);replace e1:f 3=_:=e1;obtain ⟨t,ht,hcell⟩:=hS.2.2 x hx;clear hS;refine aa rfl fun K HK=>?_;clear HM;simp only [e1];go_simp;exact HK.out _ _ ⟨.string t,by simp [upd,e1],⟨HR.out,HO.out⟩,.no (by decide) ⟨t,rfl,ht⟩,fun k u hu=>hu⟩
  ·cases ho;obtain ⟨t,e1,ht⟩:=(HM.out ⟨4,.data⟩ (by simp) rfl).2.2 (by decide);replace e1:f 4=_:=e1;refine aa rfl fun K HK=>?_;clear HM;simp only [e1];go_simp;exact HK.out _ _ ⟨.agg #[.string ⟨#[100,111,99]⟩,.string t],by simp [upd,e1],⟨HR.out,HO.out⟩,.no (by decide) ⟨_,t,rfl,by decide,ht⟩,fun k u hu=>hu⟩
  ·cases ho;refine aa rfl fun K HK=>?_;clear HM;dsimp only;go_simp;exact HK.out _ _ ⟨_,by simp [upd],⟨HR.out.alloc _,HO.out.alloc _⟩,.no (by decide) ⟨_,rfl,fw w' R hRl (xs:=[_,_,_,_]) (by decide)⟩,fun k u hu=>hu.only (KAL.out _)⟩
  ·cases ho;refine aa rfl fun K HK=>?_;clear HM;dsimp only;go_simp;exact HK.out _ _ ⟨Value.pointer (some ⟨R,0,none⟩),by simp [upd],⟨HR.out,HO.out⟩,.no (by decide) rfl,fun k u hu=>hu⟩
  ·cases ho;have e1:f 7=Value.pointer (some ⟨R,0,none⟩):=(HM.out ⟨7,.data⟩ (by simp) rfl).2.2 (by decide);refine aa rfl fun K HK=>?_;clear HM;simp only [e1];go_simp;refine (bW R ad len cap 4 _ HR.out (by omega) (by omega)).mono ?_;rintro e w5 ⟨⟨x,rfl,hx0,hx1⟩,UU,UY⟩;obtain ⟨x,rfl⟩:∃ y:Nat,x=(y:Int):=⟨x.toNat,by omega⟩;have UT:Hid (Rd w5 R ad len cap∧Only R w' w5):=⟨UU,UY⟩;clear UU UY;go_wp2_with fail;exact HK.out _ _ ⟨.int .i64 (x:Int),by simp [upd,e1],⟨UT.out.1,HO.out.trans UT.out.2⟩,.no (by decide) ⟨x,rfl,by omega⟩,fun k u hu=>hu.only UT.out.2⟩
  ·cases ho;obtain ⟨g,e1,hS⟩:=(HM.out ⟨6,.data⟩ (by simp) rfl).2.2 (by decide);obtain ⟨x,e2,hx⟩:=(HM.out ⟨8,.data⟩ (by simp) rfl).2.2 (by decide);replace e1:f 6=_:=e1;replace e2:f 8=_:=e2;have HS:=az hS;clear hS;have hx0:=bB x;have hx1:(x:Int) < 4:=by omega
   refine aa rfl fun K HK=>?_;clear HM;simp only [e1,e2];go_simp;exact HK.out _ _ ⟨.pointer (some ⟨g,x,none⟩),by simp [upd,e1,e2],⟨HR.out,HO.out⟩,.no (by decide) ⟨g,x,rfl,hx,HS.out⟩,fun k u hu=>hu⟩
  ·cases ho;obtain ⟨g,x,e1,hx,hS⟩:=(HM.out ⟨9,.data⟩ (by simp) rfl).2.2 (by decide);replace e1:f 9=_:=e1;obtain ⟨t,ht,hcell⟩:=hS.2.2 x hx;clear hS;refine aa rfl fun K HK=>?_;clear HM;simp only [e1];go_simp;exact HK.out _ _ ⟨.string t,by simp [upd,e1],⟨HR.out,HO.out⟩,.no (by decide) ⟨t,rfl,ht⟩,fun k u hu=>hu⟩
  ·cases ho;refine aa rfl fun K HK=>?_;clear HM;dsimp only;go_simp;exact HK.out _ _ ⟨_,by simp [upd],⟨HR.out.alloc _,HO.out.alloc _⟩,.no (by decide) ⟨_,rfl,fw w' R hRl (xs:=[_,_,_]) (by decide)⟩,fun k u hu=>hu.only (KAL.out _)⟩
  ·cases ho;refine aa rfl fun K HK=>?_;clear HM;dsimp only;go_simp;exact HK.out _ _ ⟨Value.pointer (some ⟨R,0,none⟩),by simp [upd],⟨HR.out,HO.out⟩,.no (by decide) rfl,fun k u hu=>hu⟩
  ·cases ho;have e1:f 12=Value.pointer (some ⟨R,0,none⟩):=(HM.out ⟨12,.data⟩ (by simp) rfl).2.2 (by decide);refine aa rfl fun K HK=>?_;clear HM;simp only [e1];go_simp;refine (bW R ad len cap 3 _ HR.out (by omega) (by omega)).mono ?_;rintro e w5 ⟨⟨x,rfl,hx0,hx1⟩,UU,UY⟩;obtain ⟨x,rfl⟩:∃ y:Nat,x=(y:Int):=⟨x.toNat,by omega⟩;have UT:Hid (Rd w5 R ad len cap∧Only R w' w5):=⟨UU,UY⟩;clear UU UY;go_wp2_with fail;exact HK.out _ _ ⟨.int .i64 (x:Int),by simp [upd,e1],⟨UT.out.1,HO.out.trans UT.out.2⟩,.no (by decide) ⟨x,rfl,by omega⟩,fun k u hu=>hu.only UT.out.2⟩
  ·cases ho;obtain ⟨g,e1,hS⟩:=(HM.out ⟨11,.data⟩ (by simp) rfl).2.2 (by decide);obtain ⟨x,e2,hx⟩:=(HM.out ⟨13,.data⟩ (by simp) rfl).2.2 (by decide);replace e1:f 11=_:=e1;replace e2:f 13=_:=e2;have HS:=az hS;clear hS;have hx0:=bB x;have hx1:(x:Int) < 3:=by omega
   refine aa rfl fun K HK=>?_;clear HM;simp only [e1,e2];go_simp;exact HK.out _ _ ⟨.pointer (some ⟨g,x,none⟩),by simp [upd,e1,e2],⟨HR.out,HO.out⟩,.no (by decide) ⟨g,x,rfl,hx,HS.out⟩,fun k u hu=>hu⟩
  ·cases ho;obtain ⟨g,x,e1,hx,hS⟩:=(HM.out ⟨14,.data⟩ (by simp) rfl).2.2 (by decide);replace e1:f 14=_:=e1;obtain ⟨t,ht,hcell⟩:=hS.2.2 x hx;clear hS;refine aa rfl fun K HK=>?_;clear HM;simp only [e1];go_simp;exact HK.out _ _ ⟨.string t,by simp [upd,e1],⟨HR.out,HO.out⟩,.no (by decide) ⟨t,rfl,ht⟩,fun k u hu=>hu⟩
  ·cases ho;obtain ⟨t,e1,ht⟩:=(HM.out ⟨15,.data⟩ (by simp) rfl).2.2 (by decide);replace e1:f 15=_:=e1;refine aa rfl fun K HK=>?_;clear HM;simp only [e1];go_simp;exact HK.out _ _ ⟨.agg #[.string ⟨#[117,115,101,114]⟩,.string t],by simp [upd,e1],⟨HR.out,HO.out⟩,.no (by decide) ⟨_,t,rfl,by decide,ht⟩,fun k u hu=>hu⟩
  ·cases ho;obtain ⟨t1,t2,e1,h1,h2⟩:=(HM.out ⟨5,.data⟩ (by simp) rfl).2.2 (by decide);obtain ⟨t3,e2,h3⟩:=(HM.out ⟨10,.data⟩ (by simp) rfl).2.2 (by decide);obtain ⟨t4,t5,e3,h4,h5⟩:=(HM.out ⟨16,.data⟩ (by simp) rfl).2.2 (by decide);replace e1:f 5=_:=e1;replace e2:f 10=_:=e2;replace e3:f 16=_:=e3;refine aa rfl fun K HK=>?_;clear HM;simp only [e1,e2,e3];go_simp;exact HK.out _ _ ⟨.agg #[.string t1,.string t2,.string t3,.string t4,.string t5],by simp [upd,e1,e2,e3],⟨HR.out,HO.out⟩,⟨fun e=>absurd e (by decide),fun _=>⟨⟨t1,t2,t3,t4,t5⟩,rfl,h1,h2,h3,h4,h5⟩,fun e=>absurd e (by decide)⟩,fun k u hu=>hu⟩
  cases ho;refine aa rfl fun K HK=>?_;clear HM;dsimp only;go_simp;exact HK.out _ _ ⟨_,by simp [upd],⟨HR.out.alloc _,HO.out.alloc _⟩,⟨fun _=>⟨_,rfl,OZ hRl hsz⟩,fun e=>absurd e (by decide),fun e=>absurd e (by decide)⟩,fun k u hu=>hu.only (KAL.out _)⟩
 case fin =>
  rintro o ho f w0 ⟨hR',U2⟩ hall;obtain ⟨g,e1,hg⟩:=(hall 18 (by omega)).1 rfl;obtain ⟨y,e2,hy⟩:=(hall 17 (by omega)).2.1 rfl;replace e1:f 18=_:=e1;replace e2:f 17=_:=e2;obtain ⟨hgR,hgB,hgl,hgf,z,_,ca,cb,cc,cd,ce⟩:=hg;obtain ⟨w',hw'⟩:∃ w',w'=(((((w0.setCell ⟨g,0,none⟩ (.string y.a)).setCell ⟨g,1,none⟩ (.string y.b)).setCell ⟨g,2,none⟩ (.string y.r)).setCell ⟨g,3,none⟩ (.string y.c)).setCell ⟨g,4,none⟩ (.string y.d)):=⟨_,rfl⟩;have hA:wL w' g 0 y:=by rw [hw']; exact QG y ca cb cc cd ce
  have hR:Rd w' R ad len cap:=by rw [hw']; exact ((((hR'.setFar hgR (FAR.out _ (by omega))).setFar hgR (FAR.out _ (by omega))).setFar hgR (FAR.out _ (by omega))).setFar hgR (FAR.out _ (by omega))).setFar hgR (FAR.out _ (by omega))
  have hO:Only R (w.alloc (.cells #[.string ⟨#[]⟩,.string ⟨#[]⟩,.string ⟨#[]⟩,.string ⟨#[]⟩,.string ⟨#[]⟩] 29)) w':=by rw [hw']; exact ((((U2.setNew (by simpa using hgB)).setNew (by simpa using hgB)).setNew (by simpa using hgB)).setNew (by simpa using hgB)).setNew (by simpa using hgB)
  have hgf':∀ o,w'.frozen? ⟨g,o,none⟩=false:=fun o=>by rw [hw']; simpa using hgf o
  have hgl':g < w'.heap.size:=by rw [hw']; simpa using hgl
  clear hR' U2 hall;obtain rfl:=Option.some.inj ho;clear ho;refine aa rfl fun K HK=>?_;simp only [e1,e2];go_simp;rw [← hw'];refine HK.out _ _ ?_;clear HK hw' hgl hgf ca cb cc cd ce;have hOw:Only R w w':=(Only.of_below ((TT _ _).alloc (TS _) _)).trans hO;have hnR:w.heap.size ≠ R:=by omega
  have hn:wL w' w.heap.size 0 ⟨⟨#[]⟩,⟨#[]⟩,⟨#[]⟩,⟨#[]⟩,⟨#[]⟩⟩:=by
   refine wL.same (w:=w.alloc (.cells #[.string ⟨#[]⟩,.string ⟨#[]⟩,.string ⟨#[]⟩,.string ⟨#[]⟩,.string ⟨#[]⟩] 29)) ?_ fun o=>hO.cell (by simp) hnR;refine ⟨?_,?_,?_,?_,?_⟩ <;> simp
  have hnf:∀ o,w'.frozen? ⟨w.heap.size,o,none⟩=false:=fun o=>by rw [hO.frozen (by simp) hnR]; simp
  have hsz:w.heap.size < w'.heap.size:=by have:=hO.size; simp at this; omega
  have HR:=az hR;have Z0:=az hOw;have HA:Hid (wL w' g 0 y∧wL w' w.heap.size 0 ⟨⟨#[]⟩,⟨#[]⟩,⟨#[]⟩,⟨#[]⟩,⟨#[]⟩⟩):=⟨hA,hn⟩;have HY:Hid y.short:=hy;clear hR hO hOw hA hn hy;go_wp2_with fail;refine (iU R ad len cap 5 _ HR.out (by omega) (by omega)).mono ?_;rintro e w1 ⟨⟨x,rfl⟩,U4,UW⟩;have HR1:=az U4;have UV:Hid (Only R w w1):=Z0.out.trans UW;have hA1:=HA.out.1.same (w':=w1) fun o=>UW.cell hgl' hgR;have hn1:=HA.out.2.same (w':=w1) fun o=>UW.cell hsz hnR;have mf:∀ o,w1.frozen? ⟨w.heap.size,o,none⟩=false:=fun o=>by rw [UW.frozen hsz hnR]; exact hnf o
  have gf:∀ o,w1.frozen? ⟨g,o,none⟩=false:=fun o=>by rw [UW.frozen hgl' hgR]; exact hgf' o
  have hs1:w.heap.size < w1.heap.size:=TP hsz UW.size;have hg1:g < w1.heap.size:=TP hgl' UW.size;have hR1l:R < w1.heap.size:=U4.lt;have hgn:g ≠ w.heap.size:=by omega
  clear hnf hgf' U4 UW HR Z0 HA;cases x;case false=>
   obtain ⟨ca,cb,cc,cd,ce⟩:=hA1;obtain ⟨na,nb,nc,nd,ne⟩:=hn1;go_wp2;exact bodyPost_ret (v:=.agg #[.string y.a,.string y.b,.string y.r,.string y.c,.string y.d]) (by simp [results,Tryz.results50,go_sem, *]) rfl ⟨⟨y,rfl,HY.out⟩,((((HR1.out.setFar hnR (FAR.out _ (TS _))).setFar hnR (FAR.out _ (TS _))).setFar hnR (FAR.out _ (TS _))).setFar hnR (FAR.out _ (TS _))).setFar hnR (FAR.out _ (TS _)),((((UV.out.setNew (TS _)).setNew (TS _)).setNew (TS _)).setNew (TS _)).setNew (TS _)⟩
  go_wp2_with fail;refine (bW R ad len cap 2 _ (HR1.out.below ((TT _ _).alloc (TS _) _)) (by omega) (by omega)).mono ?_;rintro e w2 ⟨⟨x,rfl,hx0,hx1⟩,hR2,hO2⟩;have VJ:Only R w1 w2:=(Only.of_below ((TT _ _).alloc (TS _) _)).trans hO2;have hSt:=(fw w1 R hR1l (t:=9) (xs:=[⟨#[103]⟩,⟨#[104]⟩]) (by decide)).only hO2;obtain ⟨q,rfl⟩:∃ q:Nat,x=(q:Int):=⟨x.toNat,by omega⟩;obtain ⟨t,ht,hct⟩:=hSt.2.2 q (by simp; omega);obtain ⟨ca,cb,cc,cd,ce⟩:=hA1.same (w':=w2) fun o=>VJ.cell hg1 hgR;obtain ⟨na,nb,nc,nd,ne⟩:=hn1.same (w':=w2) fun o=>VJ.cell hs1 hnR;have kf:∀ o,w2.frozen? ⟨w.heap.size,o,none⟩=false:=fun o=>by rw [VJ.frozen hs1 hnR]; exact mf o
  have kg:∀ o,w2.frozen? ⟨g,o,none⟩=false:=fun o=>by rw [VJ.frozen hg1 hgR]; exact gf o
  have HR2:=az hR2;have UB:Hid (Only R w w2):=UV.out.trans VJ;clear hR2 hO2 VJ hSt mf gf hA1 hn1 HR1 UV;go_wp2;exact bodyPost_ret (v:=.agg #[.string ⟨#[103,114,111,117,112]⟩,.string t,.string ⟨#[109,101,109,98,101,114]⟩,.string y.c,.string y.d]) (by simp [results,Tryz.results50,go_sem, *]) rfl ⟨⟨⟨_,t,_,y.c,y.d⟩,rfl,(by simp only; decide),ht,(by simp only; decide),HY.out.2.2.2.1,HY.out.2.2.2.2⟩,(((((((HR2.out.setFar hgR (FAR.out _ (by omega))).setFar hgR (FAR.out _ (by omega))).setFar hgR (FAR.out _ (by omega))).setFar hnR (FAR.out _ (TS _))).setFar hnR (FAR.out _ (TS _))).setFar hnR (FAR.out _ (TS _))).setFar hnR (FAR.out _ (TS _))).setFar hnR (FAR.out _ (TS _)),(((((((UB.out.setNew (by omega)).setNew (by omega)).setNew (by omega)).setNew (TS _)).setNew (TS _)).setNew (TS _)).setNew (TS _)).setNew (TS _)⟩
open Go.Maps
set_option linter.unusedVariables false
set_option maxRecDepth 100000
def fM (u:Bool) (ts:List Tp):List Al:=if u then cZ ts else eB ts
def iL (u:Bool) (xs:List Al) (t:Tp):Nat→List Al
 | 0=>xs
 | 1=>if u then xs else aZ xs ⟨t.a,t.b⟩
 | _=>if u then cu xs t else fP xs t
theorem Gr (u:Bool) {ts:List Tp} {k:Nat} (h:k < ts.length):fM u (ts.take (k + 1))=iL u (fM u (ts.take k)) ts[k] 2:=by
 rw [TV h];cases u
 ·exact Aj _ _
 exact xL _ _
theorem Jq (u:Bool) (ts:List Tp):(fM u ts).length≤2 * ts.length:=by
 cases u
 ·have key:∀ (ts:List Tp) (xs:List Al),(ts.foldl fP xs).length≤xs.length + 2 * ts.length:=by
   intro ts
   induction ts with
   | nil=>intro xs; simp
   | cons t ts ih=>intro xs; have h1:=ih (fP xs t); have h2:=qI xs t; simp only [List.foldl_cons,List.length_cons]; omega
  have:=key ts [];simpa [fM,eB] using this
 have key:∀ (ts:List Tp) (xs:List Al),(ts.foldl cu xs).length≤xs.length + ts.length:=by
  intro ts
  induction ts with
  | nil=>intro xs; simp
  | cons t ts ih=>intro xs; have h1:=ih (cu xs t); have h2:=qJ xs t; simp only [List.foldl_cons,List.length_cons]; omega
 have:=key ts [];simp [fM,cZ] at this ⊢;omega
theorem O1 (u:Bool) (xs:List Al) (t:Tp) (q:Nat):(iL u xs t q).length≤xs.length + 2:=by
 match q with
 | 0=>simp [iL]
 | 1=>have:=ol xs ⟨t.a,t.b⟩; cases u <;> simp [iL]; omega
 | q + 2=>have h1:=qJ xs t; have h2:=qI xs t; cases u <;> simp [iL] <;> omega
theorem Jr {xs:List Al} {o:Al} {k:Nat} (h:k < xs.length):mH (xs.take (k + 1)) o=(mH (xs.take k) o || Ak xs[k].t xs[k].s o.t o.s):=by
 unfold mH;rw [TV h,List.any_append];simp [jR,Ak]
theorem RG (w:af) (o:Al):∀ j u,[Value.string o.t,.string o.s][j]?=some u→(w.alloc (.cells #[.string o.t,.string o.s] 27)).cell? ((⟨w.heap.size,0,none⟩:Addr).add j)=some u:=fun j u hu=>by
 match j,hu with
 | 0,hu=>simp at hu; subst hu; simp [Addr.add]
 | 1,hu=>simp at hu; subst hu; simp [Addr.add]
theorem jN.at0 {w:af} {ad:Option Addr} {xs:List Al} (h:jN w ad xs) {k:Nat} (hk:k < xs.length):∃ b off,ad=some ⟨b,off,none⟩∧RQ w b (off + k * 2) xs[k]∧b < w.heap.size:=by
 rcases h with h | ⟨b',off',e,hb,hr⟩
 ·rw [h] at hk; simp at hk
 exact ⟨b',off',e,hr k hk,hb⟩
theorem sj (ad:Option Addr) (cap:Nat) (ts:List Tp) (u:Bool) (w:af) (hlt:ts.length≤40) (hst:Sl w ad ts) :
  Calls prog 95 #[.slice ad ts.length cap,.bool u] w fun e w'=>(∃ v,e=.returned v∧w'.ownsRow w.heap.size 27 2 v (fM u ts).length (pairs (fM u ts)))∧ag w w':=by
 obtain ⟨iO,h0,h1,h2,h3⟩:=Ah;have Yo:=aD (And.intro h0 (And.intro h1 (And.intro h2 h3)));have HST:=aD hst;obtain ⟨W0,hW0⟩:∃ W0,W0=w.alloc (.cells #[] 27):=⟨_,rfl⟩;have HB0:=qY hW0;have Vg:Hid (W0.ownsRow w.heap.size 27 2 (.slice (some ⟨w.heap.size,0,none⟩) 0 0) (fM u (ts.take 0)).length (pairs (fM u (ts.take 0)))):=by
  have e:fM u (ts.take 0)=[]:=by cases u <;> rfl
  show World.ownsRow _ _ _ _ _ _ _;rw [hW0,e];exact World.ownsRow_lit w #[] 0 (TS _) (by unfold maxLen; omega) (by simp)
 clear hst h0 h1 h2 h3;go_enter func95,ntmps95;go_wp2_with fail;rw [← hW0];clear hW0;go_loopw [5,6] (fun v i wr=>∃ k:Nat,k≤ts.length∧i=.int .i64 k∧Hid (wr.ownsRow w.heap.size 27 2 v (fM u (ts.take k)).length (pairs (fM u (ts.take k))))∧Hid (ag w wr)) (fun _ i _=>ts.length - (intOf i).toNat);case atStart=>exact ⟨0,TW _,rfl,Vg,HB0⟩
 clear Vg HB0;obtain ⟨k,hk,rfl,HOW,UG⟩:=hrel;by_cases hlt2:k < ts.length
 ·have Zu:=aD (Gr u hlt2);obtain ⟨x,hx⟩:∃ x,x=ts[k]:=⟨_,rfl⟩;obtain ⟨xs,hxs⟩:∃ xs,xs=fM u (ts.take k):=⟨_,rfl⟩;have hxl:xs.length≤80:=by have:=Jq u (ts.take k); rw [Ut] at this; rw [hxs]; omega
  rw [← hx,← hxs] at Zu;rw [← hxs] at HOW;have HX:=aD hx;have hi1:=bB k;have hi2:(k:Int) < (ts.length:Int):=by omega
  clear hxs hx;go_wp2;go_loopw [5,7] (fun v i w2=>∃ q:Nat,q≤2∧i=.int .i64 q∧Hid (w2.ownsRow w.heap.size 27 2 v (iL u xs x q).length (pairs (iL u xs x q)))∧Hid (ag w w2)) (fun _ i _=>2 - (intOf i).toNat);case atStart=>exact ⟨0,by omega,rfl,HOW,UG⟩
  obtain ⟨w2,rfl⟩:∃ w2,w2=wr:=⟨_,rfl⟩;obtain ⟨q,hq,rfl,UB,HB2⟩:=hrel;have hi1:=bB k;have hi2:(k:Int) < (ts.length:Int):=by omega
  have hsl:=O1 u xs x q;obtain ⟨b,off,UF,⟨t0,t1,t2,t3,t4,t5⟩,hb⟩:=Sl.at0 (HST.out.below HB2.out) hlt2;rw [← HX.out] at t0 t1 t2 t3 t4 t5;subst UF;by_cases hq2:q < 2
  ·have hc:q=0 ∨ q=1:=by omega
   rcases hc with rfl | rfl
   case' inl =>
    cases u;case true =>
     have HE:Hid (iL true xs x 1=iL true xs x 0):=rfl;have HR:Hid ((w2.alloc (.cells #[.string x.a,.string x.b] 27)).ownsRow w.heap.size 27 2 u5 (iL true xs x 1).length (pairs (iL true xs x 1))):=by show World.ownsRow _ _ _ _ _ _ _; rw [HE.out]; exact UB.out.alloc _
     have Yd:Hid (ag w (w2.alloc (.cells #[.string x.a,.string x.b] 27))):=HB2.out.alloc HB2.out.size _;go_wp2;exact ⟨⟨1,by omega,rfl,HR,Yd⟩,by decide⟩
    obtain ⟨o,ho⟩:∃ o:Al,o=⟨x.a,x.b⟩:=⟨_,rfl⟩;have Xq:Hid (iL false xs x (0 + 1)=aZ (iL false xs x 0) o):=by show _=_; rw [ho]; rfl
    obtain ⟨ys,hys⟩:∃ ys,ys=iL false xs x 0:=⟨_,rfl⟩;rw [← hys] at Xq UB hsl;obtain ⟨ns,hns⟩:∃ ns,ns=iL false xs x (0 + 1):=⟨_,rfl⟩;have U6:Hid (∀ (W:World) (v:Value),W.ownsRow w.heap.size 27 2 v ns.length (pairs ns)→W.ownsRow w.heap.size 27 2 v (iL false xs x (0 + 1)).length (pairs (iL false xs x (0 + 1)))):=fun W v h=>by rw [← hns]; exact h
    rw [← hns] at Xq;clear hns;clear hys;have hx1:x.a=o.t:=by rw [ho]
    have hx2:x.b=o.s:=by rw [ho]
    clear ho;obtain ⟨V7,VT,rfl,hsO⟩:=kC UB.out;have HSO:=aD hsO;obtain ⟨W1,hW1⟩:∃ W1,W1=w2.alloc (.cells #[.string o.t,.string o.s] 27):=⟨_,rfl⟩;have VM:=qY hW1;have hz1:w2.heap.size < W1.heap.size:=by rw [hW1]; simp
    have d0:W1.cell? ⟨w2.heap.size,0,none⟩=some (.string o.t):=by rw [hW1]; simp
    have d1:W1.cell? ⟨w2.heap.size,1,none⟩=some (.string o.s):=by rw [hW1]; simp
    clear hsO;go_wp2_with fail;rw [← hW1];clear hW1 t0 t1 t2 t3 t4 t5 hx1 hx2
   case' inr =>
    cases u
    case' true =>
     cases hz:x.s.toList.isEmpty;case false =>
      have hs2:(x.s.toList == [])=false:=by rw [mX]; exact hz
      have HE:Hid (iL true xs x 2=iL true xs x 1):=by show cu xs x=xs; unfold cu; rw [hs2]; rfl
      have HR:Hid ((w2.alloc (.cells #[.string x.c,.string x.d] 27)).ownsRow w.heap.size 27 2 u5 (iL true xs x 2).length (pairs (iL true xs x 2))):=by show World.ownsRow _ _ _ _ _ _ _; rw [HE.out]; exact UB.out.alloc _
      have Yd:Hid (ag w (w2.alloc (.cells #[.string x.c,.string x.d] 27))):=HB2.out.alloc HB2.out.size _;go_wp2;exact ⟨⟨2,by omega,rfl,HR,Yd⟩,by decide⟩
     have hs2:(x.s.toList == [])=true:=by rw [mX]; exact hz
     obtain ⟨o,ho⟩:∃ o:Al,o=⟨x.c,x.d⟩:=⟨_,rfl⟩;have Xq:Hid (iL true xs x (1 + 1)=aZ (iL true xs x 1) o):=by show _=_; rw [ho]; show cu xs x=_; unfold cu; rw [hs2]; rfl
     obtain ⟨ys,hys⟩:∃ ys,ys=iL true xs x 1:=⟨_,rfl⟩;rw [← hys] at Xq UB hsl;obtain ⟨ns,hns⟩:∃ ns,ns=iL true xs x (1 + 1):=⟨_,rfl⟩;have U6:Hid (∀ (W:World) (v:Value),W.ownsRow w.heap.size 27 2 v ns.length (pairs ns)→W.ownsRow w.heap.size 27 2 v (iL true xs x (1 + 1)).length (pairs (iL true xs x (1 + 1)))):=fun W v h=>by rw [← hns]; exact h
     rw [← hns] at Xq;clear hns;clear hys;have hx1:x.c=o.t:=by rw [ho]
     have hx2:x.d=o.s:=by rw [ho]
     clear ho;obtain ⟨V7,VT,rfl,hsO⟩:=kC UB.out;have HSO:=aD hsO;obtain ⟨W1,hW1⟩:∃ W1,W1=w2.alloc (.cells #[.string o.t,.string o.s] 27):=⟨_,rfl⟩;have VM:=qY hW1;have hz1:w2.heap.size < W1.heap.size:=by rw [hW1]; simp
     have d0:W1.cell? ⟨w2.heap.size,0,none⟩=some (.string o.t):=by rw [hW1]; simp
     have d1:W1.cell? ⟨w2.heap.size,1,none⟩=some (.string o.s):=by rw [hW1]; simp
     clear hsO;go_wp2_with fail;rw [← hW1];clear hW1 t0 t1 t2 t3 t4 t5 hx1 hx2
    case' false =>
     obtain ⟨o,ho⟩:∃ o:Al,o=⟨x.c,x.d⟩:=⟨_,rfl⟩;have Xq:Hid (iL false xs x (1 + 1)=aZ (iL false xs x 1) o):=by show _=_; rw [ho]; rfl
     obtain ⟨ys,hys⟩:∃ ys,ys=iL false xs x 1:=⟨_,rfl⟩;rw [← hys] at Xq UB hsl;obtain ⟨ns,hns⟩:∃ ns,ns=iL false xs x (1 + 1):=⟨_,rfl⟩;have U6:Hid (∀ (W:World) (v:Value),W.ownsRow w.heap.size 27 2 v ns.length (pairs ns)→W.ownsRow w.heap.size 27 2 v (iL false xs x (1 + 1)).length (pairs (iL false xs x (1 + 1)))):=fun W v h=>by rw [← hns]; exact h
     rw [← hns] at Xq;clear hns;clear hys;have hx1:x.c=o.t:=by rw [ho]
     have hx2:x.d=o.s:=by rw [ho]
     clear ho;obtain ⟨V7,VT,rfl,hsO⟩:=kC UB.out;have HSO:=aD hsO;obtain ⟨W1,hW1⟩:∃ W1,W1=w2.alloc (.cells #[.string o.t,.string o.s] 27):=⟨_,rfl⟩;have VM:=qY hW1;have hz1:w2.heap.size < W1.heap.size:=by rw [hW1]; simp
     have d0:W1.cell? ⟨w2.heap.size,0,none⟩=some (.string o.t):=by rw [hW1]; simp
     have d1:W1.cell? ⟨w2.heap.size,1,none⟩=some (.string o.s):=by rw [hW1]; simp
     clear hsO;go_wp2_with fail;rw [← hW1];clear hW1 t0 t1 t2 t3 t4 t5 hx1 hx2
   all_goals
    go_loopw [9,10] (fun ov j w3=>∃ (m:Nat) (bb:Bool),m≤ys.length∧ov=.bool bb∧j=.int .i64 m∧Hid (bb=mH (ys.take m) o)∧Hid (ag W1 w3)) (fun _ j _=>ys.length - (intOf j).toNat);case atStart=>exact ⟨0,false,TW _,rfl,rfl,rfl,TT _ _⟩
    obtain ⟨m,bb,hm,rfl,rfl,We,HB3⟩:=hrel;have HBx:Hid (ag w2 wr):=VM.out.trans (HB3.out.mono VM.out.size);have HBw:Hid (ag w wr):=HB2.out.trans (HBx.out.mono HB2.out.size);have HOx:=aD (cO UB.out HBx.out);have c0:=mK HB3.out hz1 d0;have c1:=mK HB3.out hz1 d1;have hz3:w2.heap.size < wr.heap.size:=TP hz1 HB3.out.size;by_cases hlm:m < ys.length
    ·obtain ⟨bO,U8,Xx,⟨s0,s1⟩,hbO⟩:=jN.at0 (HSO.out.below HBx.out) hlm;have hm1:=bB m;have hm2:(m:Int) < (ys.length:Int):=by omega
     have HTK:=aD (Jr (o:=o) hlm);cases bb;case true=>
      have Ye:Hid (true=mH (ys.take (m + 1)) o):=by show _=_; rw [HTK.out,← We.out]; rfl
      clear s0 s1 c0 c1;go_wp2_with fail;go_quiet (fail);go_wp2;go_roundw;case rel=>exact ⟨m + 1,true,by omega,rfl,by go_num,Ye,below_drewN HB3.out _⟩
      simp [intOf] <;> omega
     cases hv:Ak ys[m].t ys[m].s o.t o.s;case true=>
      have heq:=jI _ _ _ _ hv;have Ye:Hid (true=mH (ys.take (m + 1)) o):=by show _=_; rw [HTK.out,hv]; simp
      clear hv;go_wp2_with fail;go_quiet (fail);go_wp2;go_roundw;case rel=>exact ⟨m + 1,true,by omega,rfl,by go_num,Ye,below_drewN HB3.out _⟩
      simp [intOf] <;> omega
     have heq:=jI _ _ _ _ hv;have Ye:Hid (false=mH (ys.take (m + 1)) o):=by show _=_; rw [HTK.out,hv,← We.out]; rfl
     clear hv;go_wp2_with fail;go_quiet (fail);go_wp2;go_roundw;case rel=>exact ⟨m + 1,false,by omega,rfl,by go_num,Ye,below_drewN HB3.out _⟩
     simp [intOf] <;> omega
    have UN:Hid (bb=mH ys o):=by show _=_; rw [We.out,List.take_of_length_le (by omega)]
    cases bb;case true=>
     have HR:Hid (wr.ownsRow w.heap.size 27 2 (.slice V7 ys.length VT) (ns).length (pairs (ns))):=by
      show World.ownsRow _ _ _ _ _ _ _;rw [Xq.out]; unfold aZ; rw [← UN.out]; exact HOx.out
     clear UN c0 c1;go_wp2;have HR2:=aD (U6.out _ _ HR.out)
     first | exact ⟨⟨0 + 1,by omega,rfl,HR2,HBw⟩,by decide⟩ | exact ⟨⟨1 + 1,by omega,rfl,HR2,HBw⟩,by decide⟩
    have HWE:Hid (aZ ys o=ys ++ [o]):=by show _=_; unfold aZ; rw [← UN.out]; rfl
    obtain ⟨W4,VU⟩:∃ W4,W4=wr.alloc (.cells #[.string o.t,.string o.s] 27):=⟨_,rfl⟩;have UR:Hid (W4.ownsRow w.heap.size 27 2 (.slice V7 ys.length VT) ys.length (pairs ys)):=by show World.ownsRow _ _ _ _ _ _ _; rw [VU]; exact HOx.out.alloc _
    have HN4:Hid (∀ j u,[Value.string o.t,.string o.s][j]?=some u→W4.cell? ((⟨wr.heap.size,0,none⟩:Addr).add j)=some u):=by rw [VU]; exact RG wr o
    have Xa:Hid (ag w W4):=by show Below _ _ _; rw [VU]; exact HBw.out.alloc HBw.out.size _
    have hsz4:w.heap.size≤W4.heap.size:=Xa.out.size;clear UN;go_wp2_with (at_builtin; rw [← VU]; clear VU; refine wpList_append_own_at _ rfl _ _ 49 rfl w.heap.size 27 iO (.agg #[.string ⟨#[]⟩,.string ⟨#[]⟩]) 2 32 underlying49 Yo.out.1 Yo.out.2.1 Yo.out.2.2.1 Yo.out.2.2.2 rfl (by decide) _ ys.length (pairs ys) rfl UR.out ⟨wr.heap.size,0,none⟩ 1 1 [.string o.t,.string o.s] rfl rfl HN4.out (by simp [Value.oneCell']) (by unfold maxLen; omega) (by omega) hsz4 ?_);intro v' w5 hown hgr _ _;have HR:Hid (w5.ownsRow w.heap.size 27 2 v' (ns).length (pairs (ns))):=by
     show World.ownsRow _ _ _ _ _ _ _;rw [Xq.out,HWE.out,T9];have:pairs (ys ++ [o])=pairs ys ++ [.string o.t,.string o.s]:=by simp [pairs]
     rw [this]; exact hown
    have Yd:Hid (ag w w5):=Xa.out.grown hgr Xa.out.size (fun g hg=>(UR.out.lt g hg).1);clear hown hgr c0 c1;go_wp2;have HR2:=aD (U6.out _ _ HR.out)
    first | exact ⟨⟨0 + 1,by omega,rfl,HR2,Yd⟩,by decide⟩ | exact ⟨⟨1 + 1,by omega,rfl,HR2,Yd⟩,by decide⟩
  have UX:Hid (w2.ownsRow w.heap.size 27 2 u5 (fM u (ts.take (k + 1))).length (pairs (fM u (ts.take (k + 1))))):=by
   have e:q=2:=by omega
   have h2:=UB.out;rw [e] at h2;show World.ownsRow _ _ _ _ _ _ _; rw [Zu.out]; exact h2
  go_wp2;go_roundw;case rel=>exact ⟨k + 1,by omega,by go_num,UX,HB2⟩
  simp [intOf] <;> omega
 have HE:Hid (fM u (ts.take k)=fM u ts):=by show _=_; rw [List.take_of_length_le (by omega)]
 have UX:Hid (wr.ownsRow w.heap.size 27 2 u5 (fM u ts).length (pairs (fM u ts))):=by show World.ownsRow _ _ _ _ _ _ _; rw [← HE.out]; exact HOW.out
 go_wp2;go_ret;exact ⟨⟨_,rfl,UX.out⟩,UG.out⟩
theorem AQ {es:List Ex}:∀ (ks:List Int) (a b j:Nat),qw es ks a b→a≤j→j < b→∃ k ∈ ks,ay es k.toNat≤(j:Int)∧j≤k.toNat∧(a:Int)≤ay es k.toNat
 | [],a,b,j,h,h1,h2=>by
  have:a=b:=h;omega
 | x::ks,a,b,j,h,h1,h2=>by
  obtain ⟨h3,h4,h5⟩:=h;by_cases hj:j≤x.toNat
  ·exact ⟨x,by simp,by omega,hj,by omega⟩
  obtain ⟨k,hk,e1,e2,e3⟩:=AQ ks _ b j h5 (by omega) h2;have:=iB es x.toNat;exact ⟨k,by simp [hk],e1,e2,by omega⟩
theorem AR {es:List Ex}:∀ (ks:List Int) (a b:Nat),qw es ks a b→∀ k ∈ ks,a≤k.toNat
 | [],_,_,_,k,hk=>by cases hk
 | x::ks,a,b,h,k,hk=>by
  obtain ⟨h3,h4,h5⟩:=h;have:=iB es x.toNat;rcases List.mem_cons.1 hk with rfl | hk
  ·omega
  have:=AR ks _ b h5 k hk; omega
theorem qN {es:List Ex}:∀ (ks:List Int) (a b:Nat),qw es ks a b→∀ (p:Nat) (hp:p < ks.length),qw es (ks.drop (p + 1)) (ks[p].toNat + 1) b∧0≤ks[p]
 | [],_,_,_,p,hp=>by simp at hp
 | x::ks,a,b,h,0,_=>⟨h.2.2,h.1⟩
 | x::ks,a,b,h,p + 1,hp=>by
  have:=qN ks _ b h.2.2 p (by simpa using hp);simpa using this
theorem L8 {es:List Ex} (ht:∀ j,j < es.length→0≤ay es j):∀ (n:Nat),n < es.length→∀ j:Nat,ay es n≤(j:Int)→j≤n→ay es n≤ay es j:=by
 intro n
 induction n using Nat.strongRecOn with
 | _ n ih =>
  intro hn j h1 h2;by_cases e:j=n
  ·rw [e]; exact Int.le_refl _
  have hc:=nO (ht n hn);obtain ⟨k,hk,e1,e2,e3⟩:=AQ _ _ _ j hc (by have:=ht n hn; omega) (by omega);have hlt:=(nP _ _ _ hc).2 k hk;have:=ih k.toNat hlt.2 (by omega) j e1 e2;have:=ht n hn;omega
theorem Js {es:List Ex} (ht:∀ j,j < es.length→0≤ay es j) {i j:Nat} (hi:i < es.length) (hj:j < i) {x y:Int} (hx:x ∈ dC es i) (hy:y ∈ dC es j):x.toNat ≠ y.toNat:=by
 intro e;have ci:=nO (ht i hi);have cj:=nO (ht j (by omega));obtain ⟨p,hp,rfl⟩:=Uu hx;obtain ⟨h1,h2⟩:=qN _ _ _ ci p hp;have hyj:=(nP _ _ _ cj).2 y hy;have hyg:=AR _ _ _ cj y hy;obtain ⟨k,hk,e1,e2,e3⟩:=AQ _ _ _ j h1 (by omega) hj;have hk2:=(nP _ _ _ ci).2 k (List.mem_of_mem_drop hk);have:=L8 ht k.toNat (by omega) j e1 e2;have:=ht j (by omega);omega
theorem Jt {es:List Ex} {i:Nat} (h:0≤ay es i) (p q:Nat) (hp:p < (dC es i).length) (hq:q < (dC es i).length) (hpq:p < q):(dC es i)[p].toNat < (dC es i)[q].toNat:=by
 have h1:=(qN _ _ _ (nO h) p hp).1;refine AR _ _ _ h1 _ ?_;rw [List.mem_drop_iff_getElem];exact ⟨q - (p + 1),by omega,by congr 1; omega⟩
theorem jY (i:Nat) (kind:Int):∀ (xs:List Int) (k:Nat) (out:List Bool) (z:Nat),(∀ x ∈ xs,x.toNat ≠ z)→(bn i kind xs k out).getD z false=out.getD z false
 | [],_,_,_,_=>rfl
 | x::xs,k,out,z,h=>by
  rw [bn,jY i kind xs (k + 1) _ z fun y hy=>h y (Uq _ hy)];simp only [List.getD_eq_getElem?_getD,List.getElem?_set_ne (h x (Us ..))]
theorem AU (i:Nat) (kind:Int):∀ (xs:List Int) (k:Nat) (out:List Bool),(∀ (p q:Nat) (hp:p < xs.length) (hq:q < xs.length),p < q→xs[p].toNat ≠ xs[q].toNat)→(∀ x ∈ xs,x.toNat ≠ i)→(∀ x ∈ xs,x.toNat < out.length)→∀ (p:Nat) (hp:p < xs.length),(bn i kind xs k out).getD xs[p].toNat false=(out.getD i false || (kind == 6 && (k + p) == 1))
 | [],_,_,_,_,_,p,hp=>by simp at hp
 | x::xs,k,out,hd,hi,hl,p,hp=>by
  have hxi:=hi x (Us ..);have hxl:=hl x (Us ..);have hgi:(out.set x.toNat (out.getD i false || (kind == 6 && k == 1))).getD i false=out.getD i false:=by
   rw [List.getD_eq_getElem?_getD,List.getD_eq_getElem?_getD,List.getElem?_set_ne hxi]
  rw [bn];cases p with
  | zero =>
   rw [List.getElem_cons_zero,jY i kind xs (k + 1) _ x.toNat fun y hy=>?_]
   ·rw [List.getD_eq_getElem?_getD,List.getElem?_set_self hxl]; rfl
   obtain ⟨q,hq,rfl⟩:=Uu hy;exact (hd 0 (q + 1) (by simp) (by simpa using hq) (by omega)).symm
  | succ p =>
   have:=AU i kind xs (k + 1) (out.set x.toNat (out.getD i false || (kind == 6 && k == 1))) (fun a b ha hb hab=>hd (a + 1) (b + 1) (by simpa using ha) (by simpa using hb) (by omega)) (fun y hy=>hi y (Uq _ hy)) (fun y hy=>by rw [List.length_set]; exact hl y (Uq _ hy)) p (by simpa using hp);rw [List.getElem_cons_succ,this,hgi,show k + 1 + p=k + (p + 1) by omega]
theorem pu (es:List Ex):∀ (m:Nat) (out:List Bool) (z:Nat),(∀ j,j < m→∀ x ∈ dC es j,x.toNat ≠ z)→(dU es m out).getD z false=out.getD z false
 | 0,_,_,_=>rfl
 | m + 1,out,z,h=>by
  rw [dU,pu es m _ z fun j hj=>h j (by omega)];cases e:es[m]? with
  | none=>rfl
  | some x=>exact jY m x.kind x.kids 0 out z fun y hy=>h m (by omega) y (by unfold dC; rw [e]; exact hy)
theorem vF (es:List Ex) (i:Nat):∀ (d:Nat) (out:List Bool),∃ out':List Bool,out'.length=out.length∧dU es (i + d) out=dU es i out'
 | 0,out=>⟨out,rfl,rfl⟩
 | d + 1,out=>by
  obtain ⟨o',h1,h2⟩:=vF es i d (match es[i + d]? with | none=>out | some e=>bn (i + d) e.kind e.kids 0 out);refine ⟨o',?_,h2⟩;rw [h1];cases es[i + d]? with
  | none=>rfl
  | some e=>exact xA _ _ _ _ _
theorem Kw {es:List Ex} (ht:∀ j,j < es.length→0≤ay es j) {i:Nat} (hi:i < es.length) (p:Nat) (hp:p < es[i].kids.length):(dz es).getD es[i].kids[p].toNat false=((dz es).getD i false || (es[i].kind == 6 && p == 1)):=by
 have hk:dC es i=es[i].kids:=by unfold dC; rw [TY hi]; rfl
 have hlow:∀ j,j < es.length→∀ x ∈ dC es j,x.toNat < j:=fun j hj x hx=>((nP _ _ _ (nO (ht j hj))).2 x hx).2;obtain ⟨o',h1,h2⟩:=vF es (i + 1) (es.length - (i + 1)) (List.replicate es.length false);rw [show i + 1 + (es.length - (i + 1))=es.length by omega] at h2;have hN:dz es=dU es i (bn i es[i].kind es[i].kids 0 o'):=by
  unfold dz;rw [h2,dU,TY hi]
 have hmem:es[i].kids[p] ∈ dC es i:=by rw [hk]; exact TQ hp
 have hA:(dz es).getD es[i].kids[p].toNat false=(bn i es[i].kind es[i].kids 0 o').getD es[i].kids[p].toNat false:=by
  rw [hN];exact pu es i _ _ fun j hj x hx e=>Js ht hi hj hmem hx e.symm
 have hB:(dz es).getD i false=o'.getD i false:=by
  rw [hN,pu es i _ i fun j hj x hx=>by have:=hlow j (by omega) x hx; omega];exact jY i _ _ 0 o' i fun x hx=>by have:=hlow i hi x (by rw [hk]; exact hx); omega
 rw [hA,hB,AU i es[i].kind es[i].kids 0 o' (fun a b ha hb hab=>by
   have:=Jt (ht i hi) a b (by rw [hk]; exact ha) (by rw [hk]; exact hb) hab;simp only [hk] at this;omega) (fun x hx=>by have:=hlow i hi x (by rw [hk]; exact hx); omega) (fun x hx=>by have:=hlow i hi x (by rw [hk]; exact hx); rw [h1]; simp; omega) p hp,Um]
def yo (es:List Ex) (i:Nat):Int:=if (dz es).getD i false then 1 else 0
structure NodeR (l:List Tp) (rk:Fc→Int) (es:List Ex) (f:Fc):Prop where
 ht:∀ j,j < es.length→0≤ay es j
 q1:∀ i (hi:i < es.length),es[i].kind=1→∀ t ∈ l,(t.a.toList == f.a.toList && t.b.toList == f.b.toList && t.r.toList == f.r.toList)=true→t.s.toList.isEmpty=false→rk ⟨t.c,t.d,t.s,f.c,f.d⟩ + yo es i≤rk f
 q2:∀ i (hi:i < es.length),es[i].kind=2→rk ⟨f.a,f.b,es[i].name,f.c,f.d⟩ + yo es i≤rk f
 q3:∀ i (hi:i < es.length),es[i].kind=3→∀ t ∈ l,(t.a.toList == f.a.toList && t.b.toList == f.b.toList && t.r.toList == es[i].over.toList)=true→rk ⟨t.c,t.d,es[i].name,f.c,f.d⟩ + yo es i≤rk f
 k6:∀ i (hi:i < es.length),es[i].kind=6→es[i].kids.length=2
section
variable {l:List Tp} {rk:Fc→Int} {es:List Ex} {f:Fc}
def Dm (rk:Fc→Int) (r:Int) (a b:List Fc):Prop:=∀ g:Fc,rk g < r→(g ∈ a ↔ g ∈ b)
def RH (rk:Fc→Int) (r:Int) (a b:List Fc):Prop:=∀ g:Fc,rk g≤r→g ∈ a→g ∈ b
theorem tT {a b:List Fc} {r:Int} (h:Dm rk r a b) {g:Fc} (hg:rk g < r):bP a g=bP b g:=by
 rw [Bool.eq_iff_iff,dB,dB]; exact h g hg
theorem tV {a b:List Fc} {r:Int} (h:RH rk r a b) {g:Fc} (hg:rk g≤r) (hh:bP a g=true):bP b g=true:=dB.2 (h g hg (dB.1 hh))
theorem yJ {α:Type} {p q:α→Bool} {xs:List α} (h:∀ x ∈ xs,p x=q x):xs.any p=xs.any q:=by
 rw [Bool.eq_iff_iff,Uo,Uo];exact ⟨fun ⟨x,hx,e⟩=>⟨x,hx,by rw [← h x hx]; exact e⟩,fun ⟨x,hx,e⟩=>⟨x,hx,by rw [h x hx]; exact e⟩⟩
theorem QH {α:Type} {p q:α→Bool} {xs:List α} (h:∀ x ∈ xs,p x=q x):xs.all p=xs.all q:=by
 rw [Bool.eq_iff_iff,Ub,Ub];exact ⟨fun e x hx=>by rw [← h x hx]; exact e x hx,fun e x hx=>by rw [h x hx]; exact e x hx⟩
theorem NodeR.kid (h:NodeR l rk es f) {i:Nat} (hi:i < es.length) {p:Nat} (hp:p < es[i].kids.length):es[i].kids[p].toNat < es.length:=by
 have hk:dC es i=es[i].kids:=by unfold dC; rw [TY hi]; rfl
 have:=((nP _ _ _ (nO (h.ht i hi))).2 es[i].kids[p] (by rw [hk]; exact TQ hp)).2;omega
theorem NodeR.same (h:NodeR l rk es f) {ta tb:List Fc} (hT:Dm rk (rk f) ta tb):∀ (k:Nat) (a b:List Fc) (i:Nat),Dm rk (rk f) a b→i < es.length→(dz es).getD i false=true→dS l es ta f k a i=dS l es tb f k b i
 | 0,_,_,_,_,_,_=>rfl
 | k + 1,a,b,i,hS,hi,hg=>by
  have ZJ:yo es i=1:=by unfold yo; rw [hg]; rfl
  have Vf:∀ x ∈ es[i].kids,∀ a b,Dm rk (rk f) a b→dS l es ta f k a x.toNat=dS l es tb f k b x.toNat:=fun x hx a b hS=>by
   obtain ⟨p,hp,rfl⟩:=Uu hx;exact h.same hT k a b _ hS (h.kid hi hp) (by rw [Kw h.ht hi p hp,hg]; rfl)
  unfold dS;rw [TY hi];simp only;by_cases e1:es[i].kind=1
  ·rw [if_pos e1,if_pos e1];refine yJ fun t ht=>?_;cases hm:(t.a.toList == f.a.toList && t.b.toList == f.b.toList && t.r.toList == f.r.toList);case false=>rfl
   cases hs:t.s.toList.isEmpty;case true=>rfl
   have:=h.q1 i hi e1 t ht hm hs;simp only [Bool.false_eq_true,if_false];rw [tT hS (g:=⟨t.c,t.d,t.s,f.c,f.d⟩) (by omega)]
  rw [if_neg e1,if_neg e1];by_cases e2:es[i].kind=2
  ·rw [if_pos e2,if_pos e2];have:=h.q2 i hi e2;exact tT hS (by omega)
  rw [if_neg e2,if_neg e2];by_cases e3:es[i].kind=3
  ·rw [if_pos e3,if_pos e3];refine yJ fun t ht=>?_;cases hm:(t.a.toList == f.a.toList && t.b.toList == f.b.toList && t.r.toList == es[i].over.toList);case false=>rfl
   have:=h.q3 i hi e3 t ht hm;rw [tT hS (g:=⟨t.c,t.d,es[i].name,f.c,f.d⟩) (by omega)]
  rw [if_neg e3,if_neg e3];by_cases e4:es[i].kind=4
  ·rw [if_pos e4,if_pos e4]; exact yJ fun x hx=>Vf x hx a b hS
  rw [if_neg e4,if_neg e4];by_cases e5:es[i].kind=5
  ·rw [if_pos e5,if_pos e5]; exact QH fun x hx=>Vf x hx a b hS
  rw [if_neg e5,if_neg e5];by_cases e6:es[i].kind=6
  ·rw [if_pos e6,if_pos e6];have hl:=h.k6 i hi e6;have hx:∀ q,q < 2→es[i].kids.getD q 0 ∈ es[i].kids:=fun q hq=>by
    rw [List.getD_eq_getElem?_getD,TY (by omega)];exact TQ _
   rw [Vf _ (hx 0 (by omega)) a b hS,Vf _ (hx 1 (by omega)) ta tb hT]
  rw [if_neg e6,if_neg e6]
theorem NodeR.more (h:NodeR l rk es f) {ta tb:List Fc} (hT:Dm rk (rk f) ta tb):∀ (k:Nat) (a b:List Fc) (i:Nat),Dm rk (rk f) a b→RH rk (rk f) a b→i < es.length→dS l es ta f k a i=true→dS l es tb f k b i=true
 | 0,_,_,_,_,_,_,hh=>by cases hh
 | k + 1,a,b,i,hS,hM,hi,hh=>by
  have ZJ:0≤yo es i:=by unfold yo; split <;> omega
  have Vf:∀ x ∈ es[i].kids,dS l es ta f k a x.toNat=true→dS l es tb f k b x.toNat=true:=fun x hx=>by
   obtain ⟨p,hp,rfl⟩:=Uu hx;exact h.more hT k a b _ hS hM (h.kid hi hp)
  unfold dS at hh ⊢;rw [TY hi] at hh ⊢;simp only at hh ⊢;by_cases e1:es[i].kind=1
  ·rw [if_pos e1] at hh ⊢;obtain ⟨t,ht,e⟩:=Uo.1 hh;refine Uo.2 ⟨t,ht,?_⟩;rw [TU] at e ⊢;refine ⟨e.1,?_⟩;cases hs:t.s.toList.isEmpty;case true=>have:=e.2; rw [hs] at this; exact this
   have h2:=e.2;rw [hs] at h2;simp only [Bool.false_eq_true,if_false] at h2 ⊢;have:=h.q1 i hi e1 t ht e.1 hs;exact tV hM (by omega) h2
  rw [if_neg e1] at hh ⊢;by_cases e2:es[i].kind=2
  ·rw [if_pos e2] at hh ⊢;have:=h.q2 i hi e2;exact tV hM (by omega) hh
  rw [if_neg e2] at hh ⊢;by_cases e3:es[i].kind=3
  ·rw [if_pos e3] at hh ⊢;obtain ⟨t,ht,e⟩:=Uo.1 hh;refine Uo.2 ⟨t,ht,?_⟩;rw [TU] at e ⊢;have:=h.q3 i hi e3 t ht e.1;exact ⟨e.1,tV hM (by omega) e.2⟩
  rw [if_neg e3] at hh ⊢;by_cases e4:es[i].kind=4
  ·rw [if_pos e4] at hh ⊢;obtain ⟨x,hx,e⟩:=Uo.1 hh;exact Uo.2 ⟨x,hx,Vf x hx e⟩
  rw [if_neg e4] at hh ⊢;by_cases e5:es[i].kind=5
  ·rw [if_pos e5] at hh ⊢;exact Ub.2 fun x hx=>Vf x hx (Ub.1 hh x hx)
  rw [if_neg e5] at hh ⊢;by_cases e6:es[i].kind=6
  ·rw [if_pos e6] at hh ⊢;have hl:=h.k6 i hi e6;have hx:∀ q (hq:q < 2),es[i].kids.getD q 0=es[i].kids[q]'(by omega):=fun q hq=>by
    rw [List.getD_eq_getElem?_getD,TY (by omega)]; rfl
   rw [TU] at hh ⊢;refine ⟨?_,?_⟩
   ·have h0:=hh.1;rw [hx 0 (by omega)] at h0 ⊢;exact Vf _ (TQ _) h0
   have h1:=hh.2;rw [hx 1 (by omega)] at h1 ⊢;have hf:(dz es).getD (es[i].kids[1]'(by omega)).toNat false=true:=by
    rw [Kw h.ht hi 1 (by omega),e6]; simp
   rw [← h.same hT k ta tb _ hT (h.kid hi (by omega)) hf];exact h1
  rw [if_neg e6] at hh;cases hh
end
theorem L9 {ts:List Ty} {l:List Tp} {rk:Fc→Int} (hn:∀ f:Fc,aA ts f.a f.r ≠ []→NodeR l rk (aA ts f.a f.r) f):Lay rk (fC ts l):=fun a b f h1 h2 hh=>by
 by_cases he:aA ts f.a f.r=[]
 ·unfold fC at hh;rw [he] at hh;cases hh
 have hpos:(aA ts f.a f.r).length - 1 < (aA ts f.a f.r).length:=by
  have:(aA ts f.a f.r).length ≠ 0:=fun e=>he (Ui.1 e);omega
 refine (hn f he).more h1 _ a b _ h1 (fun g hg hm=>?_) hpos hh;by_cases e:rk g=rk f
 ·exact h2 g e hm
 exact (h1 g (by omega)).1 hm
def P9 (ts:List Ty) (st:ByteArray × ByteArray→Int) (g:Fc):Int:=if hasB ts g.a g.r then st (g.a,g.r) else -1
def Ju (ts:List Ty) (t:Tp):Bool:=(aA ts t.a t.r).any fun e=>decide (e.kind=1) && dF e.allow e.allow.length ⟨t.c,t.s⟩
theorem Gs {ts:List Ty} {a r:ByteArray}:hasB ts a r=true ↔ aA ts a r ≠ []:=by
 unfold hasB;cases aA ts a r <;> simp
theorem AV {ts:List Ty} {typ:ByteArray} {es:List Ex} {i:Nat} {d:Dp} (h:d ∈ ik ts typ es i):∀ k,i < k→d ∈ aN ts typ es k
 | 0,hi=>absurd hi (Uw _)
 | k + 1,hi=>by
  unfold aN;by_cases e:i=k
  ·subst e; exact List.mem_append_right _ h
  exact List.mem_append_left _ (AV h k (by omega))
theorem AX {ng:Bool} {a:Al}:∀ {xs:List Al},a ∈ xs→a.s.toList.isEmpty=false→(⟨a.t,a.s,ng⟩:Dp) ∈ dh ng xs
 | [],h,_=>by cases h
 | x::xs,h,hs=>by
  unfold dh;rcases List.mem_cons.1 h with rfl | h
  ·rw [if_neg (by rw [hs]; decide)]; exact Us ..
  split
  ·exact AX h hs
  exact Uq _ (AX h hs)
theorem O3 {ts:List Ty} {rel:ByteArray} {a:Al}:∀ {xs:List Al},a ∈ xs→hasB ts a.t rel=true→a.t ∈ gl ts rel xs
 | [],h,_=>by cases h
 | x::xs,h,hs=>by
  unfold gl;rcases List.mem_cons.1 h with rfl | h
  ·rw [if_neg (by unfold hasB at hs; simpa using hs)]; exact Us ..
  split
  ·exact O3 h hs
  exact Uq _ (O3 h hs)
theorem wR {xs:List Al} {c s:ByteArray} (h:dF xs xs.length ⟨c,s⟩=true):(⟨c,s⟩:Al) ∈ xs:=by
 unfold dF at h;rw [Ug] at h;obtain ⟨a,ha,e⟩:=Uo.1 h;unfold jR at e;rw [TU,beq_iff_eq,beq_iff_eq] at e;have:a=⟨c,s⟩:=by
  cases a;simp only at e;rw [fJ e.1,fJ e.2]
 rw [← this]; exact ha
theorem QI {es:List Ex} (h:own es≤1) {i j:Nat} (hi:i < es.length) (hj:j < es.length) (ki:es[i].kind=1) (kj:es[j].kind=1):i=j:=by
 have key:∀ (es:List Ex) (i j:Nat) (hi:i < es.length) (hj:j < es.length),es[i].kind=1→es[j].kind=1→i < j→2≤own es:=by
  intro es
  induction es with
  | nil=>intro i j hi; simp at hi
  | cons e es ih =>
   intro i j hi hj ki kj hij;unfold own;rw [List.filter_cons];cases j with
   | zero=>omega
   | succ j =>
    have kj':(es[j]'(by simpa using hj)).kind=1:=by simpa using kj
    cases i with
    | zero =>
     have ki':e.kind=1:=by simpa using ki
     have:0 < (es.filter fun e=>decide (e.kind=1)).length:=List.length_pos_of_mem (a:=es[j]'(by simpa using hj)) (Ux.2 ⟨TQ _,by simpa using kj'⟩);simp [ki']; omega
    | succ i =>
     have:=ih i j (by simpa using hi) (by simpa using hj) (by simpa using ki) kj' (by omega);unfold own at this;split
     ·simp; omega
     exact this
 rcases Nat.lt_trichotomy i j with h1 | h1 | h1
 ·have:=key es i j hi hj ki kj h1; omega
 ·exact h1
 have:=key es j i hj hi kj ki h1; omega
theorem O4 {ts:List Ty} {l:List Tp} {st:ByteArray × ByteArray→Int} (hS:Sol ts st) (hsh:bi ts=true) (hrf:iD ts=true) (hfit:∀ t ∈ l,Ju ts t=true) {f:Fc} (hf:aA ts f.a f.r ≠ []):NodeR l (P9 ts st) (aA ts f.a f.r) f:=by
 obtain ⟨es,hes⟩:∃ es,es=aA ts f.a f.r:=⟨_,rfl⟩;have hp:fI ts f.a f.r=some es:=by
  rw [hes];cases e:fI ts f.a f.r with
  | none=>unfold aA at hf; rw [e] at hf; exact absurd rfl hf
  | some x=>unfold aA; rw [e]; rfl
 obtain ⟨t0,ht0,r0,hr0,en,er,ee⟩:=qE hp;have hspec:=(tO hsh ht0 hr0).2;rw [ee] at hspec;have hk:(f.a,f.r) ∈ ak ts:=by
  unfold ak jG;exact Uf.2 ⟨t0,ht0,Ue.2 ⟨r0,hr0,by rw [en,er]⟩⟩
 have YK:P9 ts st f=st (f.a,f.r):=by unfold P9; rw [if_pos (Gs.2 hf)]
 have hup:∀ i,i < es.length→∀ d ∈ ik ts f.a es i,st (d.typ,d.rel) + stepOf d≤st (f.a,f.r):=fun i hi d hd=>hS.up _ hk d (by show d ∈ pR ts f.a (aA ts f.a f.r); rw [← hes]; exact AV hd _ hi);have hpos:=hS.pos (f.a,f.r);have ZJ:∀ i,0≤yo es i∧yo es i≤1:=fun i=>by unfold yo; split <;> omega
 -- whatever a node asks by a name that it leans on
 have ask:∀ i (hi:i < es.length) (g:Fc),(hasB ts g.a g.r=true→(⟨g.a,g.r,(dz es).getD i false⟩:Dp) ∈ ik ts f.a es i)→P9 ts st g + yo es i≤P9 ts st f:=fun i hi g h=>by
  rw [YK];have h1:=ZJ i;unfold P9;split
  ·rename_i hb;have h2:=hup i hi _ (h hb);unfold stepOf at h2;unfold yo;exact h2
  omega
 rw [← hes];have hdA:∀ i (hi:i < es.length),ik ts f.a es i=dh ((dz es).getD i false) es[i].allow ++ kM ts f.a ((dz es).getD i false) es[i]:=fun i hi=>by unfold ik; rw [TY hi]
 have Yf:=hspec;unfold aK at Yf;simp only [TU,Ud] at Yf;obtain ⟨⟨⟨⟨⟨-,-⟩,hnb⟩,hku⟩,hown⟩,htr⟩:=Yf;refine ⟨fun j hj=>?_,fun i hi k1 t ht hm hs=>?_,fun i hi k2=>?_,fun i hi k3 t ht hm=>?_,fun i hi k6=>?_⟩
 ·exact nA es (es.length - 1) (by rw [htr]; exact Int.le_refl _) j (by rw [htr]; omega) (by omega)
 ·refine ask i hi _ fun hb=>?_;rw [TU,TU,beq_iff_eq,beq_iff_eq,beq_iff_eq] at hm;have h1:=hfit t ht;unfold Ju at h1;rw [fJ hm.1.1,fJ hm.2,← hes] at h1;obtain ⟨e,he,h2⟩:=Uo.1 h1;rw [TU,Ud] at h2;obtain ⟨j,hj,rfl⟩:=Uu he;have:=QI hown hi hj k1 h2.1;subst this;rw [hdA i hi];exact List.mem_append_left _ (AX (wR h2.2) hs)
 ·refine ask i hi _ fun hb=>?_;rw [hdA i hi];refine List.mem_append_right _ ?_;unfold kM;rw [if_pos k2]; exact Ua.2 rfl
 ·refine ask i hi _ fun hb=>?_;rw [TU,TU,beq_iff_eq,beq_iff_eq,beq_iff_eq] at hm;have hrn:=(Qy hrf ht0 hr0 (e:=es[i]) (by rw [ee]; exact TQ hi)).2;unfold lh at hrn;rw [if_neg (by rw [k3]; decide),if_pos k3] at hrn;simp only [TU] at hrn;have XJ:=hrn.1;rw [en] at XJ;have h1:=hfit t ht;unfold Ju at h1;rw [fJ hm.1.1,fJ hm.2] at h1;have hmem:(⟨t.c,t.s⟩:Al) ∈ aU (aA ts f.a es[i].over):=by
   rcases hre:aA ts f.a es[i].over with _ | ⟨e,_ | ⟨e2,rest⟩⟩
   ·rw [hre] at XJ; simp [bu] at XJ
   ·rw [hre] at XJ h1;simp only [bu,TU,Ud] at XJ;obtain ⟨e',he',h2⟩:=Uo.1 h1;rw [Ua] at he';subst he';rw [TU] at h2;simp only [aU,if_pos XJ.1];exact wR h2.2
   rw [hre] at XJ; simp [bu] at XJ
  rw [hdA i hi];refine List.mem_append_right _ ?_;unfold kM;rw [if_neg (by rw [k3]; decide),if_pos k3];exact Ue.2 ⟨t.c,O3 (a:=⟨t.c,t.s⟩) hmem hb,rfl⟩
 have h:=Ub.1 hnb _ (TQ hi);unfold av at h;simp [k6] at h;exact h.1.1.1
theorem EG {ts:List Ty} {l:List Tp} {st:ByteArray × ByteArray→Int} (hS:Sol ts st) (hsh:bi ts=true) (hrf:iD ts=true) (hfit:∀ t ∈ l,Ju ts t=true):Lay (P9 ts st) (fC ts l):=L9 fun f hf=>O4 hS hsh hrf hfit hf
theorem Jv {ts:List Ty} {st:ByteArray × ByteArray→Int} {xo xu:List Al} {n:Int} (hen:∀ k ∈ ak ts,hasB ts k.1 k.2=true) {f:Fc} (h:f ∈ bY ts st xo xu n):P9 ts st f=n:=by
 unfold bY uZ ja Af at h;obtain ⟨o,-,h⟩:=Uf.1 h;obtain ⟨k,hk,h⟩:=Uf.1 h;obtain ⟨u,-,rfl⟩:=Ue.1 h;obtain ⟨hk1,hk2⟩:=Ux.1 hk;rw [TU,beq_iff_eq,Ud] at hk2;have e1:k.1=o.t:=fJ hk2.1;have hb:hasB ts o.t k.2=true:=by
  rw [← e1]; exact hen k hk1
 unfold P9;rw [if_pos hb];show st (o.t,k.2)=n;rw [← e1];exact hk2.2
end Go.Proofs.YtajkkeikihhejaaGreat
