/- The contract of the drawing of a fact: five short strings; nothing but the reader's place has changed. -/
import Derived.Test.YtajkkeikihhejaaGreatSq
import Derived.Test.YtajkkeikihhejaaGreatJ18
import Derived.Test.YtajkkeikihhejaaGreatJ24
import Derived.Test.YtajkkeikihhejaaGreatShelfS
open Go.Proofs.Tryz
set_option maxHeartbeats 80000000
namespace Go.Proofs.YtajkkeikihhejaaGreat
open Go.ChangeShapes Go.WideShapes Go.ChangeAt Go.RowKit
open Pl
def Fc.short (f:Fc):Prop:=f.a.size≤20∧f.b.size≤20∧f.r.size≤20∧f.c.size≤20∧f.d.size≤20
def PT (w:World) (R B g:Nat):Prop:=g ≠ R∧B≤g∧g < w.heap.size∧(∀ o,w.frozen? ⟨g,o,none⟩=false)∧∃ f:Fc,f.short∧wQ w g 0 f
theorem PT.only {w w':af} {R B g:Nat} (h:PT w R B g) (k:Only R w w'):PT w' R B g:=by
 obtain ⟨h1,h2,h3,h4,f,hf,hc⟩:=h;exact ⟨h1,h2,TP h3 k.size,fun o=>by rw [k.frozen h3 h1]; exact h4 o,f,hf,hc.same fun o=>k.cell h3 h1⟩
theorem PU {w:af} {R B:Nat} {t:TypeId} (hR:R < w.heap.size) (hB:B≤w.heap.size):PT (w.alloc (.cells #[.string ⟨#[]⟩,.string ⟨#[]⟩,.string ⟨#[]⟩,.string ⟨#[]⟩,.string ⟨#[]⟩] t)) R B w.heap.size:=by
 refine ⟨by omega,hB,by simp,fun o=>by simp,⟨⟨#[]⟩,⟨#[]⟩,⟨#[]⟩,⟨#[]⟩,⟨#[]⟩⟩,⟨by decide,by decide,by decide,by decide,by decide⟩,?_⟩;refine ⟨?_,?_,?_,?_,?_⟩ <;> simp
theorem Q8 {w:af} {g:Nat} {x0 x1 x2 x3 x4:Value} (y:Fc) (c0:w.cell? ⟨g,0,none⟩=some x0) (c1:w.cell? ⟨g,1,none⟩=some x1) (c2:w.cell? ⟨g,2,none⟩=some x2) (c3:w.cell? ⟨g,3,none⟩=some x3) (c4:w.cell? ⟨g,4,none⟩=some x4) :
  wQ (((((w.setCell ⟨g,0,none⟩ (.string y.a)).setCell ⟨g,1,none⟩ (.string y.b)).setCell ⟨g,2,none⟩ (.string y.r)).setCell ⟨g,3,none⟩ (.string y.c)).setCell ⟨g,4,none⟩ (.string y.d)) g 0 y:=by
 have far:∀ (W:World) (i j:Nat) (v:Value),i ≠ j→(W.setCell ⟨g,i,none⟩ v).cell? ⟨g,j,none⟩=W.cell? ⟨g,j,none⟩:=fun W i j v h=>by apply World.cell?_setCell_other; intro e; exact h (congrArg Addr.off e)
 have same:∀ (W:World) (i:Nat) (x v:Value),W.cell? ⟨g,i,none⟩=some x→(W.setCell ⟨g,i,none⟩ v).cell? ⟨g,i,none⟩=some v:=fun W i x v h=>by apply World.cell?_setCell_same; exact h
 refine ⟨?_,?_,?_,?_,?_⟩
 ·rw [far _ 4 0 _ (by decide),far _ 3 0 _ (by decide),far _ 2 0 _ (by decide),far _ 1 0 _ (by decide)]; exact same _ 0 _ _ c0
 ·show World.cell? _ ⟨g,1,none⟩=_;rw [far _ 4 1 _ (by decide),far _ 3 1 _ (by decide),far _ 2 1 _ (by decide)]; exact same _ 1 _ _ (by rw [far _ 0 1 _ (by decide)]; exact c1)
 ·show World.cell? _ ⟨g,2,none⟩=_;rw [far _ 4 2 _ (by decide),far _ 3 2 _ (by decide)]; exact same _ 2 _ _ (by rw [far _ 1 2 _ (by decide),far _ 0 2 _ (by decide)]; exact c2)
 ·show World.cell? _ ⟨g,3,none⟩=_;rw [far _ 4 3 _ (by decide)]; exact same _ 3 _ _ (by rw [far _ 2 3 _ (by decide),far _ 1 3 _ (by decide),far _ 0 3 _ (by decide)]; exact c3)
 show World.cell? _ ⟨g,4,none⟩=_;exact same _ 4 _ _ (by rw [far _ 3 4 _ (by decide),far _ 2 4 _ (by decide),far _ 1 4 _ (by decide),far _ 0 4 _ (by decide)]; exact c4)
def SS (R B k:Nat) (v:Value) (w:World):Prop:=(k=18→∃ g,v=.pointer (some ⟨g,0,none⟩)∧PT w R B g)∧(k=17→∃ f:Fc,v=.agg #[.string f.a,.string f.b,.string f.r,.string f.c,.string f.d]∧f.short)∧(k < 17→Kd.ok R w v (Fv [.strs 3,.eq (Value.pointer (some ⟨R,0,none⟩)),.idx 3,.elt 3,.str,.obj,.strs 4,.eq (Value.pointer (some ⟨R,0,none⟩)),.idx 4,.elt 4,.str,.strs 3,.eq (Value.pointer (some ⟨R,0,none⟩)),.idx 3,.elt 3,.str,.obj] k))
theorem SS.only {R B k:Nat} {v:Value} {w w':af} (h:SS R B k v w) (ho:Only R w w'):SS R B k v w' :=
 ⟨fun e=>by obtain ⟨g,e1,hg⟩:=h.1 e; exact ⟨g,e1,hg.only ho⟩,h.2.1,fun e=>Kd.only ho _ (h.2.2 e)⟩
theorem SS.no {R B k:Nat} {v:Value} {w:af} (hk:k < 17) (h:Kd.ok R w v (Fv [.strs 3,.eq (Value.pointer (some ⟨R,0,none⟩)),.idx 3,.elt 3,.str,.obj,.strs 4,.eq (Value.pointer (some ⟨R,0,none⟩)),.idx 4,.elt 4,.str,.strs 3,.eq (Value.pointer (some ⟨R,0,none⟩)),.idx 3,.elt 3,.str,.obj] k)):SS R B k v w:=⟨fun e=>by omega,fun e=>by omega,fun _=>h⟩
set_option maxRecDepth 4000 in
theorem PV (R:Nat) (ad:Option Addr) (len cap:Nat) (w:af) (h:Rd w R ad len cap) :
  Calls prog 50 #[.pointer (some ⟨R,0,none⟩)] w fun e w'=>(∃ f:Fc,e=.returned (.agg #[.string f.a,.string f.b,.string f.r,.string f.c,.string f.d])∧f.short)∧Rd w' R ad len cap∧Only R w w':=by
 have H:=az h;have Xm:=h.lt;have FAR:Hid (∀ g,w.heap.size≤g→0 < len→∀ b off,ad=some ⟨b,off,none⟩→b ≠ g):=fun g hg h0 b off e=>by
  obtain ⟨b',off',e',-,hb',-⟩:=h.bytes h0;rw [e] at e'; injection e' with e'; injection e' with e1 e2; omega
 clear h;go_enter func50,ntmps50;go_wp2_with fail;refine fF 19 (fun f=>{ tmps:=List.toArray (Value.pointer (some ⟨R,0,none⟩)::undef::.pointer (some ⟨w.heap.size,0,none⟩)::f 18::f 0::f 1::f 2::f 3::f 4::f 5::f 6::f 7::f 8::f 9::f 10::f 11::f 12::f 13::f 14::f 15::f 16::f 17::undef::undef::undef::undef::undef::undef::undef::undef::undef::undef::undef::[]),defers:=[] }) (fun k v w'=>SS R (w.heap.size + 1) k v w') (fun w'=>Rd w' R ad len cap∧Only R (w.alloc (.cells #[.string ⟨#[]⟩,.string ⟨#[]⟩,.string ⟨#[]⟩,.string ⟨#[]⟩,.string ⟨#[]⟩] 29)) w') (by kernel_rfl) rfl (by kernel_rfl) (by kernel_rfl) rfl ⟨H.out.below (((TT _ _).alloc (TS _) _).drew),(Only.refl _ _).drewN 1⟩ ?step ?fin;case step =>
  rintro i hi o ho f w' ⟨hR',U2⟩ hpre;have HR:=az hR';have HO:=az U2;have hsz:w.heap.size + 1≤w'.heap.size:=by have:=U2.size; simpa using this
  have hRl:R < w'.heap.size:=hR'.lt;have HM:Hid (∀ e ∈ o.after,Region.binds .any e=true→SS R (w.heap.size + 1) e.on (f e.on) w'):=hpre;have KAL:Hid (∀ ob:Obj,Only R w' (w'.alloc ob)):=fun ob=>(Only.refl R w').alloc ob;clear hR' U2 hpre;have hc:=J4 (i:=i) (by omega);clear hi
  repeat' rcases hc with rfl | hc
  ·cases ho;refine aa rfl fun K HK=>?_;clear HM;dsimp only;go_simp;exact HK.out _ _ ⟨_,by simp [upd],⟨HR.out.alloc _,HO.out.alloc _⟩,.no (by decide) ⟨_,rfl,fu w' R hRl (xs:=[_,_,_]) (by decide)⟩,fun k u hu=>hu.only (KAL.out _)⟩
  ·cases ho;refine aa rfl fun K HK=>?_;clear HM;dsimp only;go_simp;exact HK.out _ _ ⟨Value.pointer (some ⟨R,0,none⟩),by simp [upd],⟨HR.out,HO.out⟩,.no (by decide) rfl,fun k u hu=>hu⟩
  ·cases ho;have e1:f 1=Value.pointer (some ⟨R,0,none⟩):=(HM.out ⟨1,.data⟩ (by simp) rfl).2.2 (by decide);refine aa rfl fun K HK=>?_;clear HM;simp only [e1];go_simp;refine (bW R ad len cap 3 _ HR.out (by omega) (by omega)).mono ?_;rintro e w5 ⟨⟨x,rfl,hx0,hx1⟩,UU,UY⟩;obtain ⟨x,rfl⟩:∃ y:Nat,x=(y:Int):=⟨x.toNat,by omega⟩;have UT:Hid (Rd w5 R ad len cap∧Only R w' w5):=⟨UU,UY⟩;clear UU UY;go_wp2_with fail;exact HK.out _ _ ⟨.int .i64 (x:Int),by simp [upd,e1],⟨UT.out.1,HO.out.trans UT.out.2⟩,.no (by decide) ⟨x,rfl,by omega⟩,fun k u hu=>hu.only UT.out.2⟩
  ·cases ho;obtain ⟨g,e1,hS⟩:=(HM.out ⟨0,.data⟩ (by simp) rfl).2.2 (by decide);obtain ⟨x,e2,hx⟩:=(HM.out ⟨2,.data⟩ (by simp) rfl).2.2 (by decide);replace e1:f 0=_:=e1;replace e2:f 2=_:=e2;have HS:=az hS;clear hS;have hx0:=bB x;have hx1:(x:Int) < 3:=by omega
   refine aa rfl fun K HK=>?_;clear HM;simp only [e1,e2];go_simp;exact HK.out _ _ ⟨.pointer (some ⟨g,x,none⟩),by simp [upd,e1,e2],⟨HR.out,HO.out⟩,.no (by decide) ⟨g,x,rfl,hx,HS.out⟩,fun k u hu=>hu⟩
  ·cases ho;obtain ⟨g,x,e1,hx,hS⟩:=(HM.out ⟨3,.data⟩ (by simp) rfl).2.2 (by decide);replace e1:f 3=_:=e1;obtain ⟨t,ht,hcell⟩:=hS.2.2 x hx;clear hS;refine aa rfl fun K HK=>?_;clear HM;simp only [e1];go_simp;exact HK.out _ _ ⟨.string t,by simp [upd,e1],⟨HR.out,HO.out⟩,.no (by decide) ⟨t,rfl,ht⟩,fun k u hu=>hu⟩
  ·cases ho;obtain ⟨t,e1,ht⟩:=(HM.out ⟨4,.data⟩ (by simp) rfl).2.2 (by decide);replace e1:f 4=_:=e1;refine aa rfl fun K HK=>?_;clear HM;simp only [e1];go_simp;exact HK.out _ _ ⟨.agg #[.string ⟨#[100,111,99]⟩,.string t],by simp [upd,e1],⟨HR.out,HO.out⟩,.no (by decide) ⟨_,t,rfl,by decide,ht⟩,fun k u hu=>hu⟩
  ·cases ho;refine aa rfl fun K HK=>?_;clear HM;dsimp only;go_simp;exact HK.out _ _ ⟨_,by simp [upd],⟨HR.out.alloc _,HO.out.alloc _⟩,.no (by decide) ⟨_,rfl,fu w' R hRl (xs:=[_,_,_,_]) (by decide)⟩,fun k u hu=>hu.only (KAL.out _)⟩
  ·cases ho;refine aa rfl fun K HK=>?_;clear HM;dsimp only;go_simp;exact HK.out _ _ ⟨Value.pointer (some ⟨R,0,none⟩),by simp [upd],⟨HR.out,HO.out⟩,.no (by decide) rfl,fun k u hu=>hu⟩
  ·cases ho;have e1:f 7=Value.pointer (some ⟨R,0,none⟩):=(HM.out ⟨7,.data⟩ (by simp) rfl).2.2 (by decide);refine aa rfl fun K HK=>?_;clear HM;simp only [e1];go_simp;refine (bW R ad len cap 4 _ HR.out (by omega) (by omega)).mono ?_;rintro e w5 ⟨⟨x,rfl,hx0,hx1⟩,UU,UY⟩;obtain ⟨x,rfl⟩:∃ y:Nat,x=(y:Int):=⟨x.toNat,by omega⟩;have UT:Hid (Rd w5 R ad len cap∧Only R w' w5):=⟨UU,UY⟩;clear UU UY;go_wp2_with fail;exact HK.out _ _ ⟨.int .i64 (x:Int),by simp [upd,e1],⟨UT.out.1,HO.out.trans UT.out.2⟩,.no (by decide) ⟨x,rfl,by omega⟩,fun k u hu=>hu.only UT.out.2⟩
  ·cases ho;obtain ⟨g,e1,hS⟩:=(HM.out ⟨6,.data⟩ (by simp) rfl).2.2 (by decide);obtain ⟨x,e2,hx⟩:=(HM.out ⟨8,.data⟩ (by simp) rfl).2.2 (by decide);replace e1:f 6=_:=e1;replace e2:f 8=_:=e2;have HS:=az hS;clear hS;have hx0:=bB x;have hx1:(x:Int) < 4:=by omega
   refine aa rfl fun K HK=>?_;clear HM;simp only [e1,e2];go_simp;exact HK.out _ _ ⟨.pointer (some ⟨g,x,none⟩),by simp [upd,e1,e2],⟨HR.out,HO.out⟩,.no (by decide) ⟨g,x,rfl,hx,HS.out⟩,fun k u hu=>hu⟩
  ·cases ho;obtain ⟨g,x,e1,hx,hS⟩:=(HM.out ⟨9,.data⟩ (by simp) rfl).2.2 (by decide);replace e1:f 9=_:=e1;obtain ⟨t,ht,hcell⟩:=hS.2.2 x hx;clear hS;refine aa rfl fun K HK=>?_;clear HM;simp only [e1];go_simp;exact HK.out _ _ ⟨.string t,by simp [upd,e1],⟨HR.out,HO.out⟩,.no (by decide) ⟨t,rfl,ht⟩,fun k u hu=>hu⟩
  ·cases ho;refine aa rfl fun K HK=>?_;clear HM;dsimp only;go_simp;exact HK.out _ _ ⟨_,by simp [upd],⟨HR.out.alloc _,HO.out.alloc _⟩,.no (by decide) ⟨_,rfl,fu w' R hRl (xs:=[_,_,_]) (by decide)⟩,fun k u hu=>hu.only (KAL.out _)⟩
  ·cases ho;refine aa rfl fun K HK=>?_;clear HM;dsimp only;go_simp;exact HK.out _ _ ⟨Value.pointer (some ⟨R,0,none⟩),by simp [upd],⟨HR.out,HO.out⟩,.no (by decide) rfl,fun k u hu=>hu⟩
  ·cases ho;have e1:f 12=Value.pointer (some ⟨R,0,none⟩):=(HM.out ⟨12,.data⟩ (by simp) rfl).2.2 (by decide);refine aa rfl fun K HK=>?_;clear HM;simp only [e1];go_simp;refine (bW R ad len cap 3 _ HR.out (by omega) (by omega)).mono ?_;rintro e w5 ⟨⟨x,rfl,hx0,hx1⟩,UU,UY⟩;obtain ⟨x,rfl⟩:∃ y:Nat,x=(y:Int):=⟨x.toNat,by omega⟩;have UT:Hid (Rd w5 R ad len cap∧Only R w' w5):=⟨UU,UY⟩;clear UU UY;go_wp2_with fail;exact HK.out _ _ ⟨.int .i64 (x:Int),by simp [upd,e1],⟨UT.out.1,HO.out.trans UT.out.2⟩,.no (by decide) ⟨x,rfl,by omega⟩,fun k u hu=>hu.only UT.out.2⟩
  ·cases ho;obtain ⟨g,e1,hS⟩:=(HM.out ⟨11,.data⟩ (by simp) rfl).2.2 (by decide);obtain ⟨x,e2,hx⟩:=(HM.out ⟨13,.data⟩ (by simp) rfl).2.2 (by decide);replace e1:f 11=_:=e1;replace e2:f 13=_:=e2;have HS:=az hS;clear hS;have hx0:=bB x;have hx1:(x:Int) < 3:=by omega
   refine aa rfl fun K HK=>?_;clear HM;simp only [e1,e2];go_simp;exact HK.out _ _ ⟨.pointer (some ⟨g,x,none⟩),by simp [upd,e1,e2],⟨HR.out,HO.out⟩,.no (by decide) ⟨g,x,rfl,hx,HS.out⟩,fun k u hu=>hu⟩
  ·cases ho;obtain ⟨g,x,e1,hx,hS⟩:=(HM.out ⟨14,.data⟩ (by simp) rfl).2.2 (by decide);replace e1:f 14=_:=e1;obtain ⟨t,ht,hcell⟩:=hS.2.2 x hx;clear hS;refine aa rfl fun K HK=>?_;clear HM;simp only [e1];go_simp;exact HK.out _ _ ⟨.string t,by simp [upd,e1],⟨HR.out,HO.out⟩,.no (by decide) ⟨t,rfl,ht⟩,fun k u hu=>hu⟩
  ·cases ho;obtain ⟨t,e1,ht⟩:=(HM.out ⟨15,.data⟩ (by simp) rfl).2.2 (by decide);replace e1:f 15=_:=e1;refine aa rfl fun K HK=>?_;clear HM;simp only [e1];go_simp;exact HK.out _ _ ⟨.agg #[.string ⟨#[117,115,101,114]⟩,.string t],by simp [upd,e1],⟨HR.out,HO.out⟩,.no (by decide) ⟨_,t,rfl,by decide,ht⟩,fun k u hu=>hu⟩
  ·cases ho;obtain ⟨t1,t2,e1,h1,h2⟩:=(HM.out ⟨5,.data⟩ (by simp) rfl).2.2 (by decide);obtain ⟨t3,e2,h3⟩:=(HM.out ⟨10,.data⟩ (by simp) rfl).2.2 (by decide);obtain ⟨t4,t5,e3,h4,h5⟩:=(HM.out ⟨16,.data⟩ (by simp) rfl).2.2 (by decide);replace e1:f 5=_:=e1;replace e2:f 10=_:=e2;replace e3:f 16=_:=e3;refine aa rfl fun K HK=>?_;clear HM;simp only [e1,e2,e3];go_simp;exact HK.out _ _ ⟨.agg #[.string t1,.string t2,.string t3,.string t4,.string t5],by simp [upd,e1,e2,e3],⟨HR.out,HO.out⟩,⟨fun e=>absurd e (by decide),fun _=>⟨⟨t1,t2,t3,t4,t5⟩,rfl,h1,h2,h3,h4,h5⟩,fun e=>absurd e (by decide)⟩,fun k u hu=>hu⟩
  cases ho;refine aa rfl fun K HK=>?_;clear HM;dsimp only;go_simp;exact HK.out _ _ ⟨_,by simp [upd],⟨HR.out.alloc _,HO.out.alloc _⟩,⟨fun _=>⟨_,rfl,PU hRl hsz⟩,fun e=>absurd e (by decide),fun e=>absurd e (by decide)⟩,fun k u hu=>hu.only (KAL.out _)⟩
 case fin =>
  rintro o ho f w0 ⟨hR',U2⟩ hall;obtain ⟨g,e1,hg⟩:=(hall 18 (by omega)).1 rfl;obtain ⟨y,e2,hy⟩:=(hall 17 (by omega)).2.1 rfl;replace e1:f 18=_:=e1;replace e2:f 17=_:=e2;obtain ⟨hgR,hgB,hgl,hgf,z,_,ca,cb,cc,cd,ce⟩:=hg;obtain ⟨w',hw'⟩:∃ w',w'=(((((w0.setCell ⟨g,0,none⟩ (.string y.a)).setCell ⟨g,1,none⟩ (.string y.b)).setCell ⟨g,2,none⟩ (.string y.r)).setCell ⟨g,3,none⟩ (.string y.c)).setCell ⟨g,4,none⟩ (.string y.d)):=⟨_,rfl⟩;have hA:wQ w' g 0 y:=by rw [hw']; exact Q8 y ca cb cc cd ce
  have hR:Rd w' R ad len cap:=by rw [hw']; exact ((((hR'.setFar hgR (FAR.out _ (by omega))).setFar hgR (FAR.out _ (by omega))).setFar hgR (FAR.out _ (by omega))).setFar hgR (FAR.out _ (by omega))).setFar hgR (FAR.out _ (by omega))
  have hO:Only R (w.alloc (.cells #[.string ⟨#[]⟩,.string ⟨#[]⟩,.string ⟨#[]⟩,.string ⟨#[]⟩,.string ⟨#[]⟩] 29)) w':=by rw [hw']; exact ((((U2.setNew (by simpa using hgB)).setNew (by simpa using hgB)).setNew (by simpa using hgB)).setNew (by simpa using hgB)).setNew (by simpa using hgB)
  have hgf':∀ o,w'.frozen? ⟨g,o,none⟩=false:=fun o=>by rw [hw']; simpa using hgf o
  have hgl':g < w'.heap.size:=by rw [hw']; simpa using hgl
  clear hR' U2 hall;obtain rfl:=Option.some.inj ho;clear ho;refine aa rfl fun K HK=>?_;simp only [e1,e2];go_simp;rw [← hw'];refine HK.out _ _ ?_;clear HK hw' hgl hgf ca cb cc cd ce;have hOw:Only R w w':=(Only.of_below ((TT _ _).alloc (TS _) _)).trans hO;have hnR:w.heap.size ≠ R:=by omega
  have hn:wQ w' w.heap.size 0 ⟨⟨#[]⟩,⟨#[]⟩,⟨#[]⟩,⟨#[]⟩,⟨#[]⟩⟩:=by
   refine wQ.same (w:=w.alloc (.cells #[.string ⟨#[]⟩,.string ⟨#[]⟩,.string ⟨#[]⟩,.string ⟨#[]⟩,.string ⟨#[]⟩] 29)) ?_ fun o=>hO.cell (by simp) hnR;refine ⟨?_,?_,?_,?_,?_⟩ <;> simp
  have hnf:∀ o,w'.frozen? ⟨w.heap.size,o,none⟩=false:=fun o=>by rw [hO.frozen (by simp) hnR]; simp
  have hsz:w.heap.size < w'.heap.size:=by have:=hO.size; simp at this; omega
  have HR:=az hR;have Z0:=az hOw;have HA:Hid (wQ w' g 0 y∧wQ w' w.heap.size 0 ⟨⟨#[]⟩,⟨#[]⟩,⟨#[]⟩,⟨#[]⟩,⟨#[]⟩⟩):=⟨hA,hn⟩;have HY:Hid y.short:=hy;clear hR hO hOw hA hn hy;go_wp2_with fail;refine (iP R ad len cap 5 _ HR.out (by omega) (by omega)).mono ?_;rintro e w1 ⟨⟨x,rfl⟩,U4,UW⟩;have HR1:=az U4;have UV:Hid (Only R w w1):=Z0.out.trans UW;have hA1:=HA.out.1.same (w':=w1) fun o=>UW.cell hgl' hgR;have hn1:=HA.out.2.same (w':=w1) fun o=>UW.cell hsz hnR;have mf:∀ o,w1.frozen? ⟨w.heap.size,o,none⟩=false:=fun o=>by rw [UW.frozen hsz hnR]; exact hnf o
  have gf:∀ o,w1.frozen? ⟨g,o,none⟩=false:=fun o=>by rw [UW.frozen hgl' hgR]; exact hgf' o
  have hs1:w.heap.size < w1.heap.size:=TP hsz UW.size;have hg1:g < w1.heap.size:=TP hgl' UW.size;have hR1l:R < w1.heap.size:=U4.lt;have hgn:g ≠ w.heap.size:=by omega
  clear hnf hgf' U4 UW HR Z0 HA;cases x;case false=>
   obtain ⟨ca,cb,cc,cd,ce⟩:=hA1;obtain ⟨na,nb,nc,nd,ne⟩:=hn1;go_wp2;exact bodyPost_ret (v:=.agg #[.string y.a,.string y.b,.string y.r,.string y.c,.string y.d]) (by simp [results,Tryz.results50,go_sem, *]) rfl ⟨⟨y,rfl,HY.out⟩,((((HR1.out.setFar hnR (FAR.out _ (TS _))).setFar hnR (FAR.out _ (TS _))).setFar hnR (FAR.out _ (TS _))).setFar hnR (FAR.out _ (TS _))).setFar hnR (FAR.out _ (TS _)),((((UV.out.setNew (TS _)).setNew (TS _)).setNew (TS _)).setNew (TS _)).setNew (TS _)⟩
  go_wp2_with fail;refine (bW R ad len cap 2 _ (HR1.out.below ((TT _ _).alloc (TS _) _)) (by omega) (by omega)).mono ?_;rintro e w2 ⟨⟨x,rfl,hx0,hx1⟩,hR2,hO2⟩;have VJ:Only R w1 w2:=(Only.of_below ((TT _ _).alloc (TS _) _)).trans hO2;have hSt:=(fu w1 R hR1l (t:=9) (xs:=[⟨#[103]⟩,⟨#[104]⟩]) (by decide)).only hO2;obtain ⟨q,rfl⟩:∃ q:Nat,x=(q:Int):=⟨x.toNat,by omega⟩;obtain ⟨t,ht,hct⟩:=hSt.2.2 q (by simp; omega);obtain ⟨ca,cb,cc,cd,ce⟩:=hA1.same (w':=w2) fun o=>VJ.cell hg1 hgR;obtain ⟨na,nb,nc,nd,ne⟩:=hn1.same (w':=w2) fun o=>VJ.cell hs1 hnR;have kf:∀ o,w2.frozen? ⟨w.heap.size,o,none⟩=false:=fun o=>by rw [VJ.frozen hs1 hnR]; exact mf o
  have kg:∀ o,w2.frozen? ⟨g,o,none⟩=false:=fun o=>by rw [VJ.frozen hg1 hgR]; exact gf o
  have HR2:=az hR2;have UB:Hid (Only R w w2):=UV.out.trans VJ;clear hR2 hO2 VJ hSt mf gf hA1 hn1 HR1 UV;go_wp2;exact bodyPost_ret (v:=.agg #[.string ⟨#[103,114,111,117,112]⟩,.string t,.string ⟨#[109,101,109,98,101,114]⟩,.string y.c,.string y.d]) (by simp [results,Tryz.results50,go_sem, *]) rfl ⟨⟨⟨_,t,_,y.c,y.d⟩,rfl,(by simp only; decide),ht,(by simp only; decide),HY.out.2.2.2.1,HY.out.2.2.2.2⟩,(((((((HR2.out.setFar hgR (FAR.out _ (by omega))).setFar hgR (FAR.out _ (by omega))).setFar hgR (FAR.out _ (by omega))).setFar hnR (FAR.out _ (TS _))).setFar hnR (FAR.out _ (TS _))).setFar hnR (FAR.out _ (TS _))).setFar hnR (FAR.out _ (TS _))).setFar hnR (FAR.out _ (TS _)),(((((((UB.out.setNew (by omega)).setNew (by omega)).setNew (by omega)).setNew (TS _)).setNew (TS _)).setNew (TS _)).setNew (TS _)).setNew (TS _)⟩
open Go.Maps Go.Shelf Go.Sort
set_option linter.unusedVariables false
set_option maxRecDepth 100000
theorem qW (f:Fc) (w:af) :
  Calls prog 107 #[.agg #[.string f.a,.string f.b,.string f.r,.string f.c,.string f.d]] w fun e w'=>e=.returned (.agg #[.string f.a,.string f.b,.string f.r,.string f.c,.string f.d,.string ⟨#[]⟩])∧BelowD w.heap.size w w':=by
 go_enter func107,ntmps107;go_wp2;exact bodyPost_ret (v:=.agg #[.string f.a,.string f.b,.string f.r,.string f.c,.string f.d,.string ⟨#[]⟩]) (by simp [results,Tryz.results107,go_sem, *]) rfl ⟨rfl,⟨by
  repeat (first | exact TT _ _ | refine Below.setCell ?_ (by first | (simp; done) | (simp; omega)) _ | refine Below.alloc ?_ (by first | (simp; done) | (simp; omega)) _),TS _⟩⟩
def Q9 (x y:Fc):Int:=IG x.a x.b x.r x.c x.d ⟨#[]⟩ y.a y.b y.r y.c y.d ⟨#[]⟩
theorem Ra {w W w':af} {n m:Nat} {x0 x1 x2 x3 x4 y0 y1 y2 y3 y4:Value} (h:W.cell? ⟨n,0,none⟩=some x0∧W.cell? ⟨n,1,none⟩=some x1∧W.cell? ⟨n,2,none⟩=some x2∧W.cell? ⟨n,3,none⟩=some x3∧W.cell? ⟨n,4,none⟩=some x4∧W.cell? ⟨m,0,none⟩=some y0∧W.cell? ⟨m,1,none⟩=some y1∧W.cell? ⟨m,2,none⟩=some y2∧W.cell? ⟨m,3,none⟩=some y3∧W.cell? ⟨m,4,none⟩=some y4∧BelowD w.heap.size w W) (hb:BelowD W.heap.size W w'):w'.cell? ⟨n,0,none⟩=some x0∧w'.cell? ⟨n,1,none⟩=some x1∧w'.cell? ⟨n,2,none⟩=some x2∧w'.cell? ⟨n,3,none⟩=some x3∧w'.cell? ⟨n,4,none⟩=some x4∧w'.cell? ⟨m,0,none⟩=some y0∧w'.cell? ⟨m,1,none⟩=some y1∧w'.cell? ⟨m,2,none⟩=some y2∧w'.cell? ⟨m,3,none⟩=some y3∧w'.cell? ⟨m,4,none⟩=some y4∧BelowD w.heap.size w w':=by
 obtain ⟨h0,h1,h2,h3,h4,g0,g1,g2,g3,g4,hB⟩:=h;exact ⟨bi hb.b (aF h0) h0,bi hb.b (aF h1) h1,bi hb.b (aF h2) h2,bi hb.b (aF h3) h3,bi hb.b (aF h4) h4,bi hb.b (aF g0) g0,bi hb.b (aF g1) g1,bi hb.b (aF g2) g2,bi hb.b (aF g3) g3,bi hb.b (aF g4) g4,hB.trans (hb.mono hB.size)⟩
theorem wZ (x y:Fc) (w:af) (hx:x.fits) (hy:y.fits) :
  Calls prog 61 #[.agg #[.string x.a,.string x.b,.string x.r,.string x.c,.string x.d],.agg #[.string y.a,.string y.b,.string y.r,.string y.c,.string y.d]] w fun e w'=>e=.returned (.int .i64 (Q9 x y))∧BelowD w.heap.size w w':=by
 have he0:(⟨#[]⟩:ByteArray).size≤maxLen:=by decide
 obtain ⟨x0,x1,x2,x3,x4⟩:=hx;obtain ⟨y0,y1,y2,y3,y4⟩:=hy;obtain ⟨W0,hW0⟩:∃ W0,W0=(w.alloc (.cells #[.string x.a,.string x.b,.string x.r,.string x.c,.string x.d] 29)).alloc (.cells #[.string y.a,.string y.b,.string y.r,.string y.c,.string y.d] 29):=⟨_,rfl⟩;have HB0:BelowD w.heap.size w W0:=by rw [hW0]; exact Ku _ _ _
 have c0:W0.cell? ⟨w.heap.size,0,none⟩=some (.string x.a):=by rw [hW0]; simp
 have c1:W0.cell? ⟨w.heap.size,1,none⟩=some (.string x.b):=by rw [hW0]; simp
 have c2:W0.cell? ⟨w.heap.size,2,none⟩=some (.string x.r):=by rw [hW0]; simp
 have c3:W0.cell? ⟨w.heap.size,3,none⟩=some (.string x.c):=by rw [hW0]; simp
 have c4:W0.cell? ⟨w.heap.size,4,none⟩=some (.string x.d):=by rw [hW0]; simp
 have e0:W0.cell? ⟨w.heap.size + 1,0,none⟩=some (.string y.a):=by rw [hW0]; simp
 have e1:W0.cell? ⟨w.heap.size + 1,1,none⟩=some (.string y.b):=by rw [hW0]; simp
 have e2:W0.cell? ⟨w.heap.size + 1,2,none⟩=some (.string y.r):=by rw [hW0]; simp
 have e3:W0.cell? ⟨w.heap.size + 1,3,none⟩=some (.string y.c):=by rw [hW0]; simp
 have e4:W0.cell? ⟨w.heap.size + 1,4,none⟩=some (.string y.d):=by rw [hW0]; simp
 unfold Q9;go_enter func61,ntmps61;go_wp2_with fail;rw [← hW0];clear hW0
 go_region_held3 (fun w'=>w'.cell? ⟨w.heap.size,0,none⟩=some (.string x.a)∧w'.cell? ⟨w.heap.size,1,none⟩=some (.string x.b)∧w'.cell? ⟨w.heap.size,2,none⟩=some (.string x.r)∧w'.cell? ⟨w.heap.size,3,none⟩=some (.string x.c)∧w'.cell? ⟨w.heap.size,4,none⟩=some (.string x.d)∧w'.cell? ⟨w.heap.size + 1,0,none⟩=some (.string y.a)∧w'.cell? ⟨w.heap.size + 1,1,none⟩=some (.string y.b)∧w'.cell? ⟨w.heap.size + 1,2,none⟩=some (.string y.r)∧w'.cell? ⟨w.heap.size + 1,3,none⟩=some (.string y.c)∧w'.cell? ⟨w.heap.size + 1,4,none⟩=some (.string y.d)∧BelowD w.heap.size w w')
  (first | assumption | exact Ra (by assumption) hbx | exact ⟨c0,c1,c2,c3,c4,e0,e1,e2,e3,e4,HB0.drew⟩)
  (first | (go_at_call_of 107 (Value.agg #[.string x.a,.string x.b,.string x.r,.string x.c,.string x.d]); refine (qW x _).mono ?_; rintro e w' ⟨rfl,hbx⟩) | (go_at_call_of 107 (Value.agg #[.string y.a,.string y.b,.string y.r,.string y.c,.string y.d]); refine (qW y _).mono ?_; rintro e w' ⟨rfl,hbx⟩) | (go_at_call 106; refine (tO x.a x.b x.r x.c x.d ⟨#[]⟩ y.a y.b y.r y.c y.d ⟨#[]⟩ _ x0 x1 x2 x3 x4 he0 y0 y1 y2 y3 y4 he0).mono ?_; rintro e w' ⟨rfl,hbx⟩))
 all_goals (rename_i hJ; obtain ⟨-,-,-,-,-,-,-,-,-,-,gB⟩:=hJ; clear c0 c1 c2 c3 c4 e0 e1 e2 e3 e4; go_wp2; go_ret; exact ⟨rfl,gB⟩)
abbrev KG:={ f:Fc // f.fits }
def oG (x:KG):List Value:=x.1.row
def TH (x y:KG):Int:=Q9 x.1 y.1
def Fb (x:Fc):List UInt8:=(aX x.a x.b x.r x.c x.d ⟨#[]⟩).toList
def RJ (x y:KG):Bool:=Op.bytesLess (Fb x.1) (Fb y.1)
theorem PW:ltOf TH=RJ:=by
 funext x y
 unfold ltOf TH RJ Q9 IG Fb;rw [uL,Go.ByteArray.toList_eq,Go.ByteArray.toList_eq]
theorem Rb:Go.Sort.SWO RJ where
 irrefl x:=Ls.lt_irrefl _
 trans x y z h k:=Ls.lt_trans _ _ _ h k
 ntrans x y z h k:=by
  cases e:RJ x z;case false=>rfl
  by_cases e1:Fb y.1=Fb x.1
  ·unfold RJ at *; rw [e1] at k; rw [k] at e; cases e
  rcases Ls.lt_total _ _ e1 with h1 | h1
  ·have:RJ y z=true:=Ls.lt_trans _ _ _ h1 e;rw [k] at this; cases this
  have h:RJ x y=false:=h;have h1:RJ x y=true:=h1;rw [h] at h1; cases h1
theorem PX [Inhabited KG] (blk off size:Nat) (w:af):CmpLays prog 61 #[] oG 5 TH blk off size w:=fun m os dk _ x y =>
 (wZ x.1 y.1 _ x.2 y.2).mono fun e w' ⟨he,hb⟩=>⟨he,hb.grew⟩
def kS (xs:List KG):List Fc:=xs.map (·.1)
theorem lI (xs:List KG):(kS xs).length=xs.length:=by simp [kS]
theorem MV [Inhabited KG] (w:af) (blk off n:Nat) (d:Array KG) (os:Array Obj):Chg (fun g=>g=blk) w (sortWorldK oG 5 w blk off n d os):=by
 refine ⟨⟨rfl,rfl,rfl,?_,fun k hk=>absurd hk (Uw _)⟩,fun k hk hne=>?_,fun g hg hf j=>?_⟩
 ·simp [sortWorldK,grow,putRowK,Sort.ahead]
 ·simp only [sortWorldK,putRowK];rw [heap_grow_old _ _ (by simpa [Sort.ahead] using hk)];have hne:blk ≠ k:=fun e=>hne e.symm;simp [putRow,mapBlock,Sort.ahead,Array.getElem?_modify,hne]
 simp only [sortWorldK,putRowK];rw [frozen?_grow _ _ _ (by simpa [Sort.ahead] using hg),frozen?_putRow,frozen?_ahead];exact hf j
theorem KH [Inhabited KG] {w:af} {base g cap:Nat} {xs:List KG} (h:w.ownsRow base 29 5 (.slice (some ⟨g,0,none⟩) xs.length cap) xs.length (aH (kS xs))):HoldsK oG 5 w g 0 xs.toArray:=by
 intro t ht;rw [size_flatK] at ht;have ht':t < xs.length * 5:=by simpa using ht
 have hi:t / 5 < xs.length:=by omega
 have hr:t % 5 < 5:=Nat.mod_lt _ (by omega);refine ⟨?_,by rw [Um]; exact h.frozenAt t⟩;rw [Um,h.cellAt t ht',get_flatK _ _ _ _ ht];have e:t=t / 5 * 5 + t % 5:=by omega
 have h1:=qL (kS xs) (t / 5) (by rw [lI]; exact hi) (t % 5) hr;rw [← e] at h1;rw [h1];have h2:(xs.toArray)[t / 5]! = xs[t / 5]:=by rw [getElem!_pos xs.toArray _ (by simpa using hi)]; simp
 rw [h2];have h3:(kS xs)[t / 5]'(by rw [lI]; exact hi)=xs[t / 5].1:=by simp [kS]
 rw [h3];have hl:t % 5 < (Fc.row xs[t / 5].1).length:=hr;show _=some ((Fc.row xs[t / 5].1)[t % 5]!);rw [TY hl,getElem!_pos (Fc.row xs[t / 5].1) (t % 5) hl]
theorem TD [Inhabited KG] {w:af} {base g n cap:Nat} {xs ys:List KG} (h0:w.ownsRow base 29 5 (.slice (some ⟨g,0,none⟩) n cap) n (aH (kS xs))) (hx:xs.length=n) (hl:ys.length=n) (m:Nat) (os:Array Obj):(sortWorldK oG 5 w g 0 m ys.toArray os).ownsRow base 29 5 (.slice (some ⟨g,0,none⟩) n cap) n (aH (kS ys)):=by
 subst hx;have hg:=(h0.lt g rfl).2;have hH:=holdsK_sortWorldK_c oG 5 w g 0 xs.toArray ys.toArray m os (KH h0) hg (by simpa using hl);have hlen:(aH (kS ys)).length=xs.length * 5:=by rw [lF,lI,hl]
 refine ⟨hlen,.inr ?_⟩;rcases h0.2 with ⟨e,-⟩ | ⟨g',cap',cur,e,h1,h2,h3,h4,h5,-⟩
 ·cases e
 injection e with e1 e2 e3;injection e1 with e1; injection e1 with e1;subst e1; subst e3;have hb:(sortWorldK oG 5 w g 0 m ys.toArray os).heap[g]?=some (.cells (putCells id 0 (flatK oG 5 ys.toArray) cur) 29 (0,0)):=by
  simp only [sortWorldK,putRowK];rw [heap_grow_old _ _ (by simpa [Sort.ahead] using hg)];simp [putRow,mapBlock,Sort.ahead,Array.getElem?_modify,h2,onCells]
 refine ⟨g,cap,_,rfl,h1,hb,h3,h4,by simp only [putCells,Array.size_mapIdx]; exact h5,?_⟩;refine List.ext_getElem? fun j=>?_;by_cases hj:j < xs.length * 5
 ·rw [List.getElem?_take_of_lt hj];have hi:j / 5 < ys.length:=by omega
  have h6:=(hH j (by rw [size_flatK]; simpa [hl] using hj)).1;rw [Um,get_flatK _ _ _ _ (by simpa [hl] using hj)] at h6;replace h6:(sortWorldK oG 5 w g 0 m ys.toArray os).cell? ⟨g,j,none⟩=some ((oG (ys.toArray)[j / 5]!)[j % 5]!):=h6;have h7:(putCells id 0 (flatK oG 5 ys.toArray) cur).toList[j]?=some ((oG (ys.toArray)[j / 5]!)[j % 5]!):=by
   rw [← h6];simp [World.cell?,hb]
  rw [h7];have e:j=j / 5 * 5 + j % 5:=by omega
  have h8:=qL (kS ys) (j / 5) (by rw [lI]; exact hi) (j % 5) (Nat.mod_lt _ (by omega));rw [← e] at h8;rw [h8];have h9:(ys.toArray)[j / 5]! = ys[j / 5]:=by rw [getElem!_pos ys.toArray _ (by simpa using hi)]; simp
  have h10:(kS ys)[j / 5]'(by rw [lI]; exact hi)=ys[j / 5].1:=by simp [kS]
  rw [h9,h10];have hl2:j % 5 < (Fc.row ys[j / 5].1).length:=Nat.mod_lt _ (by omega);show some ((Fc.row ys[j / 5].1)[j % 5]!)=_;rw [TY hl2,getElem!_pos (Fc.row ys[j / 5].1) (j % 5) hl2]
 rw [List.getElem?_eq_none (by rw [Ut]; omega),List.getElem?_eq_none (by omega)]
theorem MW (base g cap:Nat) (fs:List Fc) (w:af) (hf:∀ f ∈ fs,f.fits) (hR:w.ownsRow base 29 5 (.slice (some ⟨g,0,none⟩) fs.length cap) fs.length (aH fs)) (hne:fs ≠ []) (h6:fs.length≤200000) :
  Calls prog 60 #[.slice (some ⟨g,0,none⟩) fs.length cap,.func (.func 61) #[] #[]] w fun e w'=>e=.returned (.tuple #[])∧∃ ys:List Fc,ys.Perm fs∧ys.Pairwise (fun x y=>Op.bytesLess (Fb y) (Fb x)=false)∧w'.ownsRow base 29 5 (.slice (some ⟨g,0,none⟩) fs.length cap) fs.length (aH ys)∧Chg (fun k=>k=g) w w':=by
 obtain ⟨xs,hxs⟩:∃ xs:List KG,kS xs=fs:=⟨fs.attach.map fun x=>⟨x.1,hf x.1 x.2⟩,by unfold kS; rw [List.map_map]; simp [Function.comp_def]⟩;subst hxs;rw [lI] at hR h6 ⊢;cases xs with
 | nil=>exact absurd rfl hne
 | cons x0 xs0 =>
  letI:Inhabited KG:=⟨x0⟩
  have hg:=hR.lt g rfl;have eg:∀ args w,(callFunc 61 args).run prog w=.ok (.enter 61 args) w:=enters_of func61 (by kernel_rfl) rfl;have hs:=AnyQ.slices_SortFunc Tryz.sortF 5 Tryz.isAgg29 Tryz.sizeOf29 oG (fun _=>rfl) (fun x v hv=>by simp [oG,Fc.row] at hv; rcases hv with rfl | rfl | rfl | rfl | rfl <;> rfl) TH (by rw [PW]; exact Rb) 61 #[] g 0 cap (x0::xs0).toArray w eg (PX g 0 _ w) (KH hR) hg.2 (by simp at h6 ⊢; omega)
  change Calls prog 60 _ _ _ at hs
  rw [PW] at hs;refine hs.mono fun e w' ⟨he,d',n,os,hp,hso,hw⟩=>⟨he,kS d'.toList,?_,?_,?_,?_⟩
  ·have:=hp.2.2;have h2:d'.toList.Perm (x0::xs0):=by simpa [Array.extract_eq_self_of_le,hp.1] using this
   exact h2.map _
  ·have hz:d'.size=xs0.length + 1:=by simpa using hp.1
   unfold kS;rw [List.pairwise_map,List.pairwise_iff_getElem];intro i j hi hj hij;have hi2:i < d'.size:=by simpa using hi
   have hj2:j < d'.size:=by simpa using hj
   have hlt:=hso i j (TW _) hij (by rw [hz] at hj2; simpa using hj2);rw [getElem!_pos d' j hj2,getElem!_pos d' i hi2] at hlt;exact hlt
  ·rw [hw];have hz:d'.toList.length=(x0::xs0).length:=by simpa using hp.1
   have:=TD hR rfl hz n os;simpa using this
  rw [hw]; exact MV w g 0 n d' os
theorem He (p:Option Addr) (cap:Nat) (fv:Value) (w:af) :
  Calls prog 149 #[.slice p 0 cap,.int .i64 0,.int .i64 0,fv] w fun e w'=>e=.returned (.tuple #[])∧w'=w:=by
 go_enter func149,ntmps149;go_wp2_with fail;go_loopw [8] (fun i wr=>i=.int .i64 1∧wr=w) (fun _ _=>0);case atStart=>exact ⟨rfl,rfl⟩
 obtain ⟨rfl,rfl⟩:=hrel;go_wp2
 go_end0
 exact ⟨rfl,rfl⟩
theorem PY (p:Option Addr) (cap:Nat) (lim:Int) (fv:Value) (w:af) :
  Calls prog 104 #[.slice p 0 cap,.int .i64 0,.int .i64 0,.int .i64 lim,fv] w fun e w'=>e=.returned (.tuple #[])∧w'=w:=by
 go_enter func104,ntmps104;go_wp2_with fail;go_loopw [1,2] (fun a b wr=>a=.int .i64 0∧b=.int .i64 0∧wr=w) (fun _ _ _=>0);case atStart=>exact ⟨rfl,rfl,rfl⟩
 obtain ⟨rfl,rfl,rfl⟩:=hrel;go_wp2_with fail;refine (He p cap fv _).mono ?_;rintro e w1 ⟨rfl,rfl⟩;go_wp2;refine bodyPost_ret (results_none rfl _ _ _) rfl ?_;exact ⟨rfl,rfl⟩
theorem MX (p:Option Addr) (cap:Nat) (fv:Value) (w:af) :
  Calls prog 60 #[.slice p 0 cap,fv] w fun e w'=>e=.returned (.tuple #[])∧w'=w:=by
 go_enter func60,ntmps60;go_wp2_with fail;refine (Tryz.bits_Len 0 _ (by omega) (by omega)).mono ?_;rintro e w1 ⟨rfl,rfl⟩;go_wp2_with fail;refine (PY p cap _ fv _).mono ?_;rintro e w1 ⟨rfl,rfl⟩;go_wp2
 go_end0
 exact ⟨rfl,rfl⟩
theorem oH {w w':af} {base:Nat} {e:TypeId} {size:Nat} {v:Value} {n:Nat} {xs:List Value} (h:w.ownsRow base e size v n xs) (hh:∀ g,v.ownBlock=some g→w'.heap[g]?=w.heap[g]?):w'.ownsRow base e size v n xs:=by
 refine ⟨h.1,?_⟩;rcases h.2 with hl | ⟨g,cap,cur,rfl,h1,h2,h3⟩
 ·exact .inl hl
 exact .inr ⟨g,cap,cur,rfl,h1,(hh g rfl).trans h2,h3⟩
theorem Bh {w:af} {base size n:Nat} {e:TypeId} {v:Value} {xs:List Value} (h:w.ownsRow base e size v n xs):∃ ad cap,v=.slice ad n cap:=by
 rcases h.2 with ⟨rfl,h0⟩ | ⟨g,cap,cur,rfl,-⟩
 ·exact ⟨none,0,by rw [h0]⟩
 exact ⟨_,_,rfl⟩
theorem DF {w:af} {base size n cap:Nat} {e:TypeId} {ad:Option Addr} {xs:List Value} (h:w.ownsRow base e size (.slice ad n cap) n xs) (hn:n ≠ 0):∃ g,ad=some ⟨g,0,none⟩∧(Value.slice ad n cap).ownBlock=some g:=by
 rcases h.2 with ⟨-,h0⟩ | ⟨g,cap',cur,e1,-⟩
 ·exact absurd h0 hn
 injection e1 with e1;exact ⟨g,e1,by rw [e1]; rfl⟩
theorem xe {w:af} {base base' size n:Nat} {e:TypeId} {v:Value} {xs:List Value} (h:w.ownsRow base e size v n xs) (hb:base'≤base):w.ownsRow base' e size v n xs:=by
 refine ⟨h.1,?_⟩;rcases h.2 with hl | ⟨g,cap,cur,e,h1,h2⟩
 ·exact .inl hl
 exact .inr ⟨g,cap,cur,e,TZ hb h1,h2⟩
theorem Rc {w:af} {base size n cap:Nat} {e:TypeId} {ad:Option Addr} {xs:List Value} (h:w.ownsRow base e size (.slice ad n cap) n xs):n≤cap:=by
 rcases h.2 with ⟨e1,h0⟩ | ⟨g,cap',cur,e1,-,-,hnc,-⟩
 ·injection e1 with _ e2 e3; omega
 injection e1 with _ e2 e3; omega
theorem JR (xs:List Fc):∀ p,aH (xs.take p)=(aH xs).take (p * 5):=by
 induction xs with
 | nil=>intro p; simp [aH]
 | cons x xs ih =>
  intro p;cases p with
  | zero=>simp [aH]
  | succ p =>
   have ih:=ih p;unfold aH at ih ⊢;rw [List.take_succ_cons,List.flatMap_cons,List.flatMap_cons,ih,show (p + 1) * 5=p * 5 + 1 + 1 + 1 + 1 + 1 by omega];simp [Fc.row]
theorem JS (xs:List Fc):∀ p,aH (xs.drop p)=(aH xs).drop (p * 5):=by
 induction xs with
 | nil=>intro p; simp [aH]
 | cons x xs ih =>
  intro p;cases p with
  | zero=>simp [aH]
  | succ p =>
   have ih:=ih p;unfold aH at ih ⊢;rw [List.drop_succ_cons,List.flatMap_cons,ih,show (p + 1) * 5=p * 5 + 1 + 1 + 1 + 1 + 1 by omega];simp [Fc.row]
theorem Bi {w:af} {base g n cap:Nat} {xs:List Fc} (h:w.ownsRow base 29 5 (.slice (some ⟨g,0,none⟩) n cap) n (aH xs)) (p:Nat) (hp:p≤n):∀ j u,(aH (xs.take p))[j]?=some u→w.cell? ((⟨g,0,none⟩:Addr).add j)=some u:=fun j u hu=>by
 rw [JR,List.getElem?_take] at hu;split at hu
 ·rename_i hj;have:=h.cellAt j (by omega);rw [hu] at this;have e:(⟨g,0,none⟩:Addr).add j=⟨g,j,none⟩:=by unfold Addr.add; split <;> simp_all
  rw [e]; exact this
 cases hu
theorem JU {w:af} {base g n cap:Nat} {xs:List Fc} (h:w.ownsRow base 29 5 (.slice (some ⟨g,0,none⟩) n cap) n (aH xs)) (p:Nat) (hp:p≤n):∀ j u,(aH (xs.drop p))[j]?=some u→w.cell? ((⟨g,p * 5,none⟩:Addr).add j)=some u:=fun j u hu=>by
 rw [JS,List.getElem?_drop] at hu;have hl:=h.1;have hj:p * 5 + j < n * 5:=by
  rw [← hl]; exact (List.getElem?_eq_some_iff.1 hu).1
 have:=h.cellAt (p * 5 + j) hj;rw [hu] at this;have e:(⟨g,p * 5,none⟩:Addr).add j=⟨g,p * 5 + j,none⟩:=by unfold Addr.add; split <;> simp_all
 rw [e]; exact this
theorem vW (xs:List Fc):∀ u ∈ aH xs,u.oneCell'=true:=fun u hu=>by
 obtain ⟨q,-,h⟩:=Uf.1 hu;simp only [Fc.row,List.mem_cons,List.not_mem_nil,or_false] at h;rcases h with rfl | rfl | rfl | rfl | rfl <;> rfl
theorem JV {w:af} {a:Addr} {xs:List Fc} (h:xs=[]):∀ j u,(aH xs)[j]?=some u→w.cell? (a.add j)=some u:=fun j u hu=>by
 rw [h] at hu; simp [aH] at hu
def oI (x y:Fc):Bool:=fU x.a x.b x.r x.c x.d ⟨#[]⟩ y.a y.b y.r y.c y.d ⟨#[]⟩
theorem KI {w W w':af} {n m i0 i1 i2 i3 i4 j0 j1 j2 j3 j4:Nat} {x0 x1 x2 x3 x4 y0 y1 y2 y3 y4:Value} (h:W.cell? ⟨n,i0,none⟩=some x0∧W.cell? ⟨n,i1,none⟩=some x1∧W.cell? ⟨n,i2,none⟩=some x2∧W.cell? ⟨n,i3,none⟩=some x3∧W.cell? ⟨n,i4,none⟩=some x4∧W.cell? ⟨m,j0,none⟩=some y0∧W.cell? ⟨m,j1,none⟩=some y1∧W.cell? ⟨m,j2,none⟩=some y2∧W.cell? ⟨m,j3,none⟩=some y3∧W.cell? ⟨m,j4,none⟩=some y4∧ag w W) (hb:ag W w'):w'.cell? ⟨n,i0,none⟩=some x0∧w'.cell? ⟨n,i1,none⟩=some x1∧w'.cell? ⟨n,i2,none⟩=some x2∧w'.cell? ⟨n,i3,none⟩=some x3∧w'.cell? ⟨n,i4,none⟩=some x4∧w'.cell? ⟨m,j0,none⟩=some y0∧w'.cell? ⟨m,j1,none⟩=some y1∧w'.cell? ⟨m,j2,none⟩=some y2∧w'.cell? ⟨m,j3,none⟩=some y3∧w'.cell? ⟨m,j4,none⟩=some y4∧ag w w':=by
 obtain ⟨h0,h1,h2,h3,h4,k0,k1,k2,k3,k4,hB⟩:=h;exact ⟨bi hb (aF h0) h0,bi hb (aF h1) h1,bi hb (aF h2) h2,bi hb (aF h3) h3,bi hb (aF h4) h4,bi hb (aF k0) k0,bi hb (aF k1) k1,bi hb (aF k2) k2,bi hb (aF k3) k3,bi hb (aF k4) k4,hB.trans (hb.mono hB.size)⟩
theorem JW (ad:Option Addr) (cap:Nat) (rows:List Fc) (w:af) (hlen:rows.length≤1048576) (hs:Bu w ad rows) (hfit:∀ x ∈ rows,x.fits) :
  Calls prog 89 #[.slice ad rows.length cap] w fun e w'=>(∃ v:Value,e=.returned v∧w'.ownsRow w.heap.size 29 5 v rows.length (aH (ko oI rows)))∧ag w w':=by
 obtain ⟨iR,Y0,zR0,zR1,zR2⟩:=EF;have Vx:Hid (prog.info? 29=some iR∧iR.zero=some (.agg #[.string ⟨#[]⟩,.string ⟨#[]⟩,.string ⟨#[]⟩,.string ⟨#[]⟩,.string ⟨#[]⟩])∧iR.size=5∧iR.bytes=80):=⟨Y0,zR0,zR1,zR2⟩;have HS:=aC hs;have UL:=aC hfit;clear hs hfit Y0 zR0 zR1 zR2;obtain ⟨W0,hW0⟩:∃ W0,W0=w.alloc (.cells #[] 29):=⟨_,rfl⟩;have HB0:=qY hW0;have VX:Hid (W0.ownsRow w.heap.size 29 5 (.slice (some ⟨w.heap.size,0,none⟩) 0 0) 0 []):=by
  show World.ownsRow _ _ _ _ _ _ _;rw [hW0];exact World.ownsRow_lit w #[] 0 (TS _) (by unfold maxLen; omega) (by simp)
 go_enter func89,ntmps89;go_wp2_with fail;rw [← hW0];clear hW0;go_loopw [3,4] (fun v i wr=>∃ (k g c:Nat),k≤rows.length∧i=.int .i64 k∧v=.slice (some ⟨g,0,none⟩) k c∧Hid (wr.ownsRow w.heap.size 29 5 (.slice (some ⟨g,0,none⟩) k c) k (aH (ko oI (rows.take k))))∧Hid (ag w wr)) (fun _ i _=>rows.length - (intOf i).toNat);case atStart=>exact ⟨0,w.heap.size,0,TW _,rfl,rfl,VX,HB0⟩
 clear VX HB0;obtain ⟨k,g,c,hk,rfl,rfl,HO,HB⟩:=hrel;by_cases hlt:k < rows.length
 ·obtain ⟨acc,hacc⟩:∃ acc,acc=ko oI (rows.take k):=⟨_,rfl⟩;obtain ⟨b,off,UF,hrow,hbl⟩:∃ b off,ad=some ⟨b,off,none⟩∧wQ w b (off + k * 5) rows[k]∧b < w.heap.size:=by
   rcases HS.out with h | ⟨b',off',e,hb,hr⟩
   ·rw [h] at hlt; simp at hlt
   exact ⟨b',off',e,hr k hlt,hb⟩
  obtain ⟨x,hx⟩:∃ x,rows[k]=x:=⟨_,rfl⟩;have HNX:Hid (ko oI (rows.take (k + 1))=qd oI x acc):=by show _=_; rw [TV hlt,H8,hacc,hx]
  have hal:acc.length=k:=by rw [hacc,(iZ _).length_eq,Ut]; omega
  have Xk:Hid x.fits:=by show Fc.fits x; rw [← hx]; exact UL.out _ (TQ hlt)
  have HAF:Hid (∀ z ∈ acc,z.fits):=fun z hz=>by
   rw [hacc] at hz;exact UL.out z (List.mem_of_mem_take ((iZ _).mem_iff.1 hz))
  rw [← hacc] at HO;rw [hx] at hrow;have UN:=aC hal;have hkc:k≤c:=Rc HO.out;have hk1:=bB k;have hk2:(k:Int) < (rows.length:Int):=by omega
  have Vn:=aC hrow;have Yq:=aC hbl;obtain ⟨wo,hwo⟩:∃ wo,wo=wr:=⟨_,rfl⟩;subst hwo;subst UF;clear hacc hal hrow hbl hx;go_wp2_with fail;go_loopw [5] (fun i wr=>∃ p:Nat,p≤k∧i=.int .i64 p∧Hid (∀ (i:Nat) (h:i < acc.length),i < p→oI acc[i] x=true)∧Hid (ag wo wr)) (fun i _=>k - (intOf i).toNat);case atStart=>exact ⟨0,TW _,rfl,fun i h hi=>absurd hi (Uw _),TT _ _⟩
  obtain ⟨p,hp,rfl,HU,HBP⟩:=hrel;have HOP:Hid (wr.ownsRow w.heap.size 29 5 (.slice (some ⟨g,0,none⟩) k c) k (aH acc)):=oH HO.out fun z hz=>HBP.out.block z (HO.out.lt z hz).2;have HBWP:Hid (ag w wr):=HB.out.trans (HBP.out.mono HB.out.size);obtain ⟨y0,y1,y2,y3,y4⟩:=Vn.out.same (fun o=>HBWP.out.cell (p:=⟨b,o,none⟩) Yq.out);have hbr:b < wr.heap.size:=TP Yq.out HBWP.out.size;have hgr:g < wr.heap.size:=(HOP.out.lt g rfl).2;have hp1:=bB p;by_cases hpk:p < k
  ·have hp2:(p:Int) < (k:Int):=by omega
   have hd:decide ((p:Int) < (k:Int))=true:=by simp; omega
   have hpa:p < acc.length:=by rw [UN.out]; exact hpk
   obtain ⟨y,hy⟩:∃ y,acc[p]=y:=⟨_,rfl⟩;have hc5:∀ c,c < 5→wr.cell? ⟨g,p * 5 + c,none⟩=y.row[c]?:=fun c hc=>by
    rw [HOP.out.cellAt (p * 5 + c) (by omega),qL acc p hpa c hc,hy]
   have s0:wr.cell? ⟨g,p * 5,none⟩=some (.string y.a):=hc5 0 (by omega);have s1:wr.cell? ⟨g,p * 5 + 1,none⟩=some (.string y.b):=hc5 1 (by omega);have s2:wr.cell? ⟨g,p * 5 + 2,none⟩=some (.string y.r):=hc5 2 (by omega);have s3:wr.cell? ⟨g,p * 5 + 3,none⟩=some (.string y.c):=hc5 3 (by omega);have s4:wr.cell? ⟨g,p * 5 + 4,none⟩=some (.string y.d):=hc5 4 (by omega);have hyf:y.fits:=by rw [← hy]; exact HAF.out _ (TQ hpa)
   have HC:Hid (∀ W':World,Calls prog 130 #[.agg #[.string y.a,.string y.b,.string y.r,.string y.c,.string y.d],.agg #[.string x.a,.string x.b,.string x.r,.string x.c,.string x.d]] W' fun e w'=>e=.returned (.bool (oI y x))∧ag W' w'):=fun W'=>uT _ _ _ _ _ _ _ _ _ _ W' hyf.1 hyf.2.1 hyf.2.2.1 hyf.2.2.2.1 hyf.2.2.2.2 Xk.out.1 Xk.out.2.1 Xk.out.2.2.1 Xk.out.2.2.2.1 Xk.out.2.2.2.2;clear hc5 hyf;have HYE:=aC hy;clear hy;have hbp:=HBP.out;cases hq:oI y x;case true=>
    have Yw:Hid (∀ (i:Nat) (h:i < acc.length),i < p + 1→oI acc[i] x=true):=fun i h hi=>by
     by_cases e:i=p
     ·subst e; rw [HYE.out]; exact hq
     exact HU.out i h (by omega)
    rw [hq] at HC;clear hq;go_wp2_with fail
    go_region_held3 (fun w'=>w'.cell? ⟨g,p * 5,none⟩=some (.string y.a)∧w'.cell? ⟨g,p * 5 + 1,none⟩=some (.string y.b)∧w'.cell? ⟨g,p * 5 + 2,none⟩=some (.string y.r)∧w'.cell? ⟨g,p * 5 + 3,none⟩=some (.string y.c)∧w'.cell? ⟨g,p * 5 + 4,none⟩=some (.string y.d)∧w'.cell? ⟨b,off + k * 5,none⟩=some (.string x.a)∧w'.cell? ⟨b,off + k * 5 + 1,none⟩=some (.string x.b)∧w'.cell? ⟨b,off + k * 5 + 2,none⟩=some (.string x.r)∧w'.cell? ⟨b,off + k * 5 + 3,none⟩=some (.string x.c)∧w'.cell? ⟨b,off + k * 5 + 4,none⟩=some (.string x.d)∧ag wo w')
     (first | assumption | exact KI (by assumption) hbx | exact ⟨s0,s1,s2,s3,s4,y0,y1,y2,y3,y4,hbp.drew⟩)
     (first | (go_at_call 130; refine (HC.out _).mono ?_; rintro e w' ⟨rfl,hbx⟩))
    rename_i hJ;have HJB:=aC hJ.2.2.2.2.2.2.2.2.2.2;have XG:Hid (wr.heap.size≤w'.heap.size):=by show _≤_; exact TZ (by first | exact TS _ | simp) hbx.size
    clear hJ s0 s1 s2 s3 s4 y0 y1 y2 y3 y4 hd;go_wp2;go_roundw;case rel=>exact ⟨p + 1,by omega,by go_num,Yw,HJB⟩
    simp [intOf] <;> omega
   have HPT:Hid (qd oI x acc=acc.take p ++ x::acc.drop p):=DY (by rw [UN.out]; exact hp) HU.out (fun _=>by rw [HYE.out]; exact hq);rw [hq] at HC;clear hq;go_wp2_with fail
   go_region_held3 (fun w'=>w'.cell? ⟨g,p * 5,none⟩=some (.string y.a)∧w'.cell? ⟨g,p * 5 + 1,none⟩=some (.string y.b)∧w'.cell? ⟨g,p * 5 + 2,none⟩=some (.string y.r)∧w'.cell? ⟨g,p * 5 + 3,none⟩=some (.string y.c)∧w'.cell? ⟨g,p * 5 + 4,none⟩=some (.string y.d)∧w'.cell? ⟨b,off + k * 5,none⟩=some (.string x.a)∧w'.cell? ⟨b,off + k * 5 + 1,none⟩=some (.string x.b)∧w'.cell? ⟨b,off + k * 5 + 2,none⟩=some (.string x.r)∧w'.cell? ⟨b,off + k * 5 + 3,none⟩=some (.string x.c)∧w'.cell? ⟨b,off + k * 5 + 4,none⟩=some (.string x.d)∧ag wo w')
    (first | assumption | exact KI (by assumption) hbx | exact ⟨s0,s1,s2,s3,s4,y0,y1,y2,y3,y4,hbp.drew⟩)
    (first | (go_at_call 130; refine (HC.out _).mono ?_; rintro e w' ⟨rfl,hbx⟩))
   rename_i hJ;have HJB:=aC hJ.2.2.2.2.2.2.2.2.2.2;have XG:Hid (wr.heap.size≤w'.heap.size):=by show _≤_; exact TZ (by first | exact TS _ | simp) hbx.size
   obtain ⟨X,hX⟩:∃ X,w'=X:=⟨_,rfl⟩;subst hX;have U3:=az HJB;have HSX:Hid (wr.heap.size≤w'.heap.size):=by show _≤_; exact XG.out
   clear hJ s0 s1 s2 s3 s4 hd HC HYE hbp HJB XG;clear y0 y1 y2 y3 y4 hbr HOP HBWP HBP HU;obtain ⟨W1,hW1⟩:∃ W1,W1=w'.alloc (.cells #[] 29):=⟨_,rfl⟩;have Vg:Hid (W1.ownsRow w'.heap.size 29 5 (.slice (some ⟨w'.heap.size,0,none⟩) 0 0) 0 []):=by
    show World.ownsRow _ _ _ _ _ _ _;rw [hW1];exact World.ownsRow_lit w' #[] 0 (TS _) (by unfold maxLen; omega) (by simp)
   have HB1:=qY hW1;have ZF:Hid (ag wo W1):=U3.out.trans (HB1.out.mono U3.out.size);have HR1:Hid (W1.ownsRow w.heap.size 29 5 (.slice (some ⟨g,0,none⟩) k c) k (aH acc)):=oH HO.out fun z hz=>ZF.out.block z (HO.out.lt z hz).2;have hz1:w'.heap.size≤W1.heap.size:=HB1.out.size;have hgX:g < w'.heap.size:=TP (HO.out.lt g rfl).2 U3.out.size;have hpc:p≤c:=by omega
   go_wp2_with (at_builtin; go_must (rw [← hW1]; clear hW1; refine wpList_append_own_at _ rfl _ _ 40 rfl w'.heap.size 29 iR (.agg #[.string ⟨#[]⟩,.string ⟨#[]⟩,.string ⟨#[]⟩,.string ⟨#[]⟩,.string ⟨#[]⟩]) 5 80 underlying40 Vx.out.1 Vx.out.2.1 Vx.out.2.2.1 Vx.out.2.2.2 rfl (by decide) _ 0 [] rfl Vg.out ⟨g,0,none⟩ p c (aH (acc.take p)) rfl (by rw [lF,Ut]; congr 1; have:=UN.out; omega) (Bi HR1.out p hp) (vW _) (by unfold maxLen; omega) (by omega) hz1 ?_));intro v2 w2 hown2 U0 _ _;have UB:Hid (w2.ownsRow w'.heap.size 29 5 v2 p (aH (acc.take p))):=by
    show World.ownsRow _ _ _ _ _ _ _
    first | exact hown2 | (rw [Um,List.nil_append] at hown2; exact hown2) | simpa using hown2
   have HB2:Hid (ag w' w2):=HB1.out.grown U0 HB1.out.size (fun z hz=>by simp [Value.ownBlock] at hz; omega);have hz2:w'.heap.size≤w2.heap.size:=HB2.out.size;have Xe:Hid (ag w w2):=(HB.out.trans (U3.out.mono HB.out.size)).trans (HB2.out.mono (TZ HB.out.size U3.out.size));obtain ⟨y0,y1,y2,y3,y4⟩:=Vn.out.same (fun o=>Xe.out.cell (p:=⟨b,o,none⟩) Yq.out);have hbr:b < w2.heap.size:=TP Yq.out Xe.out.size;obtain ⟨W3,hW3⟩:∃ W3,W3=w2.alloc (.cells #[.string x.a,.string x.b,.string x.r,.string x.c,.string x.d] 29):=⟨_,rfl⟩;have UX:Hid (W3.ownsRow w'.heap.size 29 5 v2 p (aH (acc.take p))):=by show World.ownsRow _ _ _ _ _ _ _; rw [hW3]; exact UB.out.alloc _
   have Wi:Hid (∀ j u,x.row[j]?=some u→W3.cell? ((⟨w2.heap.size,0,none⟩:Addr).add j)=some u):=by show ∀ j u,_; rw [hW3]; exact Kw w2 x
   have HB3:Hid (ag w' W3):=by show Below _ _ _; rw [hW3]; exact HB2.out.alloc HB2.out.size _
   have hz3:w'.heap.size≤W3.heap.size:=HB3.out.size;clear hown2 U0 Vg HB1 ZF HR1 hz1;go_wp2_with (at_builtin; go_must (rw [← hW3]; clear hW3; refine wpList_append_own_at _ rfl _ _ 40 rfl w'.heap.size 29 iR (.agg #[.string ⟨#[]⟩,.string ⟨#[]⟩,.string ⟨#[]⟩,.string ⟨#[]⟩,.string ⟨#[]⟩]) 5 80 underlying40 Vx.out.1 Vx.out.2.1 Vx.out.2.2.1 Vx.out.2.2.2 rfl (by decide) v2 p (aH (acc.take p)) rfl UX.out ⟨w2.heap.size,0,none⟩ 1 1 x.row rfl rfl Wi.out (by simp [Fc.row,Value.oneCell']) (by unfold maxLen; omega) (by omega) hz3 ?_));intro v4 w4 U1 Vp _ _;have UR:=az U1;have Vi:Hid (ag w' w4):=HB3.out.grown Vp HB3.out.size (fun z hz=>(UB.out.lt z hz).1);have Xj:w'.heap.size≤w4.heap.size:=Vi.out.size;have HBO4:Hid (ag wo w4):=U3.out.trans (Vi.out.mono U3.out.size);have HR4:Hid (w4.ownsRow w.heap.size 29 5 (.slice (some ⟨g,0,none⟩) k c) k (aH acc)):=oH HO.out fun z hz=>HBO4.out.block z (HO.out.lt z hz).2;clear U1 Vp UX UB Wi HB3 hz3 HB2 hz2 Xe y0 y1 y2 y3 y4 hbr;go_wp2_with (at_builtin; go_must (refine wpList_append_own_at _ rfl _ _ 40 rfl w'.heap.size 29 iR (.agg #[.string ⟨#[]⟩,.string ⟨#[]⟩,.string ⟨#[]⟩,.string ⟨#[]⟩,.string ⟨#[]⟩]) 5 80 underlying40 Vx.out.1 Vx.out.2.1 Vx.out.2.2.1 Vx.out.2.2.2 rfl (by decide) v4 (p + 1) (aH (acc.take p) ++ x.row) rfl UR.out ⟨g,p * 5,none⟩ (k - p) (c - p) (aH (acc.drop p)) rfl (by rw [lF,List.length_drop]; have:=UN.out; congr 1; omega) (JU HR4.out p hp) (vW _) (by unfold maxLen; omega) (by omega) Xj ?_));intro v5 w5 hown5 hgr5 _ _;have Y8:p + 1 + (k - p)=k + 1:=by omega
   have VQ:Hid (ag w' w5):=Vi.out.grown hgr5 Vi.out.size (fun z hz=>(UR.out.lt z hz).1);have hown6:w5.ownsRow w'.heap.size 29 5 v5 (k + 1) (aH (ko oI (rows.take (k + 1)))):=by
    rw [HNX.out,HPT.out,aH,List.flatMap_append,List.flatMap_cons,← Y8];exact hown5
   obtain ⟨ad5,c5,rfl⟩:=Bh hown6;obtain ⟨g5,rfl,-⟩:=DF hown6 (Nat.succ_ne_zero _);have Vh:=aC (xe hown6 (TZ HB.out.size U3.out.size));have WJ:Hid (ag w w5):=(HB.out.trans (U3.out.mono HB.out.size)).trans (VQ.out.mono (TZ HB.out.size U3.out.size));clear hown5 hown6 hgr5 Y8;go_wp2;go_roundw;case rel=>exact ⟨k + 1,g5,c5,by omega,by go_num,by first | rfl | simp,Vh,WJ⟩
   simp [intOf] <;> omega
  have hd:decide ((p:Int) < (k:Int))=false:=by simp; omega
  have hpe:¬ (p:Int) < (k:Int):=by omega
  have HPT:Hid (qd oI x acc=acc.take p ++ x::acc.drop p):=DY (by rw [UN.out]; exact hp) HU.out (fun h=>absurd (by rw [UN.out] at h; exact h) hpk);go_wp2_with fail;go_quiet (fail);clear hd hpe;obtain ⟨X,hX⟩:∃ X,wr.drewN nq=X:=⟨_,rfl⟩;have U3:Hid (ag wo X):=by show Below _ _ _; rw [← hX]; exact below_drewN HBP.out _
  have HSX:Hid (wr.heap.size≤X.heap.size):=by show _≤_; rw [← hX]; exact TS _
  rw [hX];clear hX y0 y1 y2 y3 y4 hbr HOP HBWP HBP HU;obtain ⟨W1,hW1⟩:∃ W1,W1=X.alloc (.cells #[] 29):=⟨_,rfl⟩;have Vg:Hid (W1.ownsRow X.heap.size 29 5 (.slice (some ⟨X.heap.size,0,none⟩) 0 0) 0 []):=by
   show World.ownsRow _ _ _ _ _ _ _;rw [hW1];exact World.ownsRow_lit X #[] 0 (TS _) (by unfold maxLen; omega) (by simp)
  have HB1:=qY hW1;have ZF:Hid (ag wo W1):=U3.out.trans (HB1.out.mono U3.out.size);have HR1:Hid (W1.ownsRow w.heap.size 29 5 (.slice (some ⟨g,0,none⟩) k c) k (aH acc)):=oH HO.out fun z hz=>ZF.out.block z (HO.out.lt z hz).2;have hz1:X.heap.size≤W1.heap.size:=HB1.out.size;have hgX:g < X.heap.size:=TP (HO.out.lt g rfl).2 U3.out.size;have hpc:p≤c:=by omega
  go_wp2_with (at_builtin; go_must (rw [← hW1]; clear hW1; refine wpList_append_own_at _ rfl _ _ 40 rfl X.heap.size 29 iR (.agg #[.string ⟨#[]⟩,.string ⟨#[]⟩,.string ⟨#[]⟩,.string ⟨#[]⟩,.string ⟨#[]⟩]) 5 80 underlying40 Vx.out.1 Vx.out.2.1 Vx.out.2.2.1 Vx.out.2.2.2 rfl (by decide) _ 0 [] rfl Vg.out ⟨g,0,none⟩ p c (aH (acc.take p)) rfl (by rw [lF,Ut]; congr 1; have:=UN.out; omega) (Bi HR1.out p hp) (vW _) (by unfold maxLen; omega) (by omega) hz1 ?_));intro v2 w2 hown2 U0 _ _;have UB:Hid (w2.ownsRow X.heap.size 29 5 v2 p (aH (acc.take p))):=by
   show World.ownsRow _ _ _ _ _ _ _
   first | exact hown2 | (rw [Um,List.nil_append] at hown2; exact hown2) | simpa using hown2
  have HB2:Hid (ag X w2):=HB1.out.grown U0 HB1.out.size (fun z hz=>by simp [Value.ownBlock] at hz; omega);have hz2:X.heap.size≤w2.heap.size:=HB2.out.size;have Xe:Hid (ag w w2):=(HB.out.trans (U3.out.mono HB.out.size)).trans (HB2.out.mono (TZ HB.out.size U3.out.size));obtain ⟨y0,y1,y2,y3,y4⟩:=Vn.out.same (fun o=>Xe.out.cell (p:=⟨b,o,none⟩) Yq.out);have hbr:b < w2.heap.size:=TP Yq.out Xe.out.size;obtain ⟨W3,hW3⟩:∃ W3,W3=w2.alloc (.cells #[.string x.a,.string x.b,.string x.r,.string x.c,.string x.d] 29):=⟨_,rfl⟩;have UX:Hid (W3.ownsRow X.heap.size 29 5 v2 p (aH (acc.take p))):=by show World.ownsRow _ _ _ _ _ _ _; rw [hW3]; exact UB.out.alloc _
  have Wi:Hid (∀ j u,x.row[j]?=some u→W3.cell? ((⟨w2.heap.size,0,none⟩:Addr).add j)=some u):=by show ∀ j u,_; rw [hW3]; exact Kw w2 x
  have HB3:Hid (ag X W3):=by show Below _ _ _; rw [hW3]; exact HB2.out.alloc HB2.out.size _
  have hz3:X.heap.size≤W3.heap.size:=HB3.out.size;clear hown2 U0 Vg HB1 ZF HR1 hz1;go_wp2_with (at_builtin; go_must (rw [← hW3]; clear hW3; refine wpList_append_own_at _ rfl _ _ 40 rfl X.heap.size 29 iR (.agg #[.string ⟨#[]⟩,.string ⟨#[]⟩,.string ⟨#[]⟩,.string ⟨#[]⟩,.string ⟨#[]⟩]) 5 80 underlying40 Vx.out.1 Vx.out.2.1 Vx.out.2.2.1 Vx.out.2.2.2 rfl (by decide) v2 p (aH (acc.take p)) rfl UX.out ⟨w2.heap.size,0,none⟩ 1 1 x.row rfl rfl Wi.out (by simp [Fc.row,Value.oneCell']) (by unfold maxLen; omega) (by omega) hz3 ?_));intro v4 w4 U1 Vp _ _;have UR:=az U1;have Vi:Hid (ag X w4):=HB3.out.grown Vp HB3.out.size (fun z hz=>(UB.out.lt z hz).1);have Xj:X.heap.size≤w4.heap.size:=Vi.out.size;have HBO4:Hid (ag wo w4):=U3.out.trans (Vi.out.mono U3.out.size);have HR4:Hid (w4.ownsRow w.heap.size 29 5 (.slice (some ⟨g,0,none⟩) k c) k (aH acc)):=oH HO.out fun z hz=>HBO4.out.block z (HO.out.lt z hz).2;clear U1 Vp UX UB Wi HB3 hz3 HB2 hz2 Xe y0 y1 y2 y3 y4 hbr;obtain rfl:p=k:=by omega
  have YS:Hid (acc.drop p=[]):=List.drop_of_length_le (by rw [UN.out]; exact TS _);by_cases hce:c=p
  all_goals
   go_wp2_with (at_builtin; go_must (refine wpList_append_own_at _ rfl _ _ 40 rfl X.heap.size 29 iR (.agg #[.string ⟨#[]⟩,.string ⟨#[]⟩,.string ⟨#[]⟩,.string ⟨#[]⟩,.string ⟨#[]⟩]) 5 80 underlying40 Vx.out.1 Vx.out.2.1 Vx.out.2.2.1 Vx.out.2.2.2 rfl (by decide) v4 (p + 1) (aH (acc.take p) ++ x.row) rfl UR.out _ 0 _ (aH (acc.drop p)) rfl (by rw [YS.out]; rfl) (JV YS.out) (vW _) (by unfold maxLen; omega) (by omega) Xj ?_));intro v5 w5 hown5 hgr5 _ _;have Y8:p + 1 + 0=p + 1:=rfl;have VQ:Hid (ag X w5):=Vi.out.grown hgr5 Vi.out.size (fun z hz=>(UR.out.lt z hz).1);have hown6:w5.ownsRow X.heap.size 29 5 v5 (p + 1) (aH (ko oI (rows.take (p + 1)))):=by
    rw [HNX.out,HPT.out,aH,List.flatMap_append,List.flatMap_cons,← Y8];exact hown5
   obtain ⟨ad5,c5,rfl⟩:=Bh hown6;obtain ⟨g5,rfl,-⟩:=DF hown6 (Nat.succ_ne_zero _);have Vh:=aC (xe hown6 (TZ HB.out.size U3.out.size));have WJ:Hid (ag w w5):=(HB.out.trans (U3.out.mono HB.out.size)).trans (VQ.out.mono (TZ HB.out.size U3.out.size));clear hown5 hown6 hgr5 Y8;go_wp2;go_roundw;case rel=>exact ⟨p + 1,g5,c5,by omega,by go_num,by first | rfl | simp,Vh,WJ⟩
   simp [intOf] <;> omega
 obtain rfl:k=rows.length:=by omega
 have HE:Hid (wr.ownsRow w.heap.size 29 5 (.slice (some ⟨g,0,none⟩) rows.length c) rows.length (aH (ko oI rows))):=by have h:=HO.out; rw [Ug] at h; exact h
 go_wp2;go_ret;exact ⟨⟨_,rfl,HE.out⟩,HB.out⟩
theorem SV {P:Nat→Prop} (h:∃ n,P n):∃ n,P n∧∀ m,P m→n≤m:=by
 obtain ⟨n,hn⟩:=h
 induction n using Nat.strongRecOn with
 | ind n ih =>
  by_cases hx:∃ m,m < n∧P m
  ·obtain ⟨m,hm,hp⟩:=hx;exact ih m hm hp
  exact ⟨n,hn,fun m hm=>Nat.le_of_not_lt fun hlt=>hx ⟨m,hlt,hm⟩⟩
theorem PZ {ts:List Ty} (h:∃ f,Sol ts f):∃ f,Least ts f:=by
 have key:∀ k,∃ n:Nat,(∃ g,Sol ts g∧g k=(n:Int))∧∀ m:Nat,(∃ g,Sol ts g∧g k=(m:Int))→n≤m:=fun k=>SV (by
  obtain ⟨f,hf⟩:=h;exact ⟨(f k).toNat,f,hf,by have:=hf.pos k; omega⟩)
 have low:∀ k g,Sol ts g→(((key k).choose:Nat):Int)≤g k:=fun k g hg=>by
  have h1:=(key k).choose_spec.2 (g k).toNat ⟨g,hg,by have:=hg.pos k; omega⟩;have:=hg.pos k;omega
 refine ⟨fun k=>(((key k).choose:Nat):Int),⟨fun k=>Int.natCast_nonneg _,fun k hk d hd=>?_⟩,fun k hk g hg=>low k g hg⟩;obtain ⟨g,hg,e⟩:=(key k).choose_spec.1;have h1:=low (d.typ,d.rel) g hg;have h2:=hg.up k hk d hd;show (((key (d.typ,d.rel)).choose:Nat):Int) + stepOf d≤(((key k).choose:Nat):Int);rw [← e];exact Int.le_trans (Int.add_le_add_right h1 _) h2
theorem RL (ts:List Ty):∃ st,aJ ts=true→Least ts st:=by
 by_cases h:aJ ts=true
 ·obtain ⟨st,hst⟩:=PZ (aY.1 h).2.2;exact ⟨st,fun _=>hst⟩
 exact ⟨fun _=>0,fun h2=>absurd h2 h⟩
theorem Bj {es:List Ex}:∀ (ks:List Int) (a b j:Nat),qg es ks a b→a≤j→j < b→∃ k ∈ ks,ay es k.toNat≤(j:Int)∧j≤k.toNat∧(a:Int)≤ay es k.toNat
 | [],a,b,j,h,h1,h2=>by
  have:a=b:=h;omega
 | x::ks,a,b,j,h,h1,h2=>by
  obtain ⟨h3,h4,h5⟩:=h;by_cases hj:j≤x.toNat
  ·exact ⟨x,by simp,by omega,hj,by omega⟩
  obtain ⟨k,hk,e1,e2,e3⟩:=Bj ks _ b j h5 (by omega) h2;have:=iC es x.toNat;exact ⟨k,by simp [hk],e1,e2,by omega⟩
theorem Bl {es:List Ex}:∀ (ks:List Int) (a b:Nat),qg es ks a b→∀ k ∈ ks,a≤k.toNat
 | [],_,_,_,k,hk=>by cases hk
 | x::ks,a,b,h,k,hk=>by
  obtain ⟨h3,h4,h5⟩:=h;have:=iC es x.toNat;rcases List.mem_cons.1 hk with rfl | hk
  ·omega
  have:=Bl ks _ b h5 k hk; omega
theorem qX {es:List Ex}:∀ (ks:List Int) (a b:Nat),qg es ks a b→∀ (p:Nat) (hp:p < ks.length),qg es (ks.drop (p + 1)) (ks[p].toNat + 1) b∧0≤ks[p]
 | [],_,_,_,p,hp=>by simp at hp
 | x::ks,a,b,h,0,_=>⟨h.2.2,h.1⟩
 | x::ks,a,b,h,p + 1,hp=>by
  have:=qX ks _ b h.2.2 p (by simpa using hp);simpa using this
theorem MZ {es:List Ex} (ht:∀ j,j < es.length→0≤ay es j):∀ (n:Nat),n < es.length→∀ j:Nat,ay es n≤(j:Int)→j≤n→ay es n≤ay es j:=by
 intro n
 induction n using Nat.strongRecOn with
 | _ n ih =>
  intro hn j h1 h2;by_cases e:j=n
  ·rw [e]; exact Int.le_refl _
  have hc:=nO (ht n hn);obtain ⟨k,hk,e1,e2,e3⟩:=Bj _ _ _ j hc (by have:=ht n hn; omega) (by omega);have hlt:=(nP _ _ _ hc).2 k hk;have:=ih k.toNat hlt.2 (by omega) j e1 e2;have:=ht n hn;omega
theorem JX {es:List Ex} (ht:∀ j,j < es.length→0≤ay es j) {i j:Nat} (hi:i < es.length) (hj:j < i) {x y:Int} (hx:x ∈ dC es i) (hy:y ∈ dC es j):x.toNat ≠ y.toNat:=by
 intro e;have ci:=nO (ht i hi);have cj:=nO (ht j (by omega));obtain ⟨p,hp,rfl⟩:=Uu hx;obtain ⟨h1,h2⟩:=qX _ _ _ ci p hp;have hyj:=(nP _ _ _ cj).2 y hy;have hyg:=Bl _ _ _ cj y hy;obtain ⟨k,hk,e1,e2,e3⟩:=Bj _ _ _ j h1 (by omega) hj;have hk2:=(nP _ _ _ ci).2 k (List.mem_of_mem_drop hk);have:=MZ ht k.toNat (by omega) j e1 e2;have:=ht j (by omega);omega
theorem JY {es:List Ex} {i:Nat} (h:0≤ay es i) (p q:Nat) (hp:p < (dC es i).length) (hq:q < (dC es i).length) (hpq:p < q):(dC es i)[p].toNat < (dC es i)[q].toNat:=by
 have h1:=(qX _ _ _ (nO h) p hp).1;refine Bl _ _ _ h1 _ ?_;rw [List.mem_drop_iff_getElem];exact ⟨q - (p + 1),by omega,by congr 1; omega⟩
theorem jY (i:Nat) (kind:Int):∀ (xs:List Int) (k:Nat) (out:List Bool) (z:Nat),(∀ x ∈ xs,x.toNat ≠ z)→(bn i kind xs k out).getD z false=out.getD z false
 | [],_,_,_,_=>rfl
 | x::xs,k,out,z,h=>by
  rw [bn,jY i kind xs (k + 1) _ z fun y hy=>h y (Uq _ hy)];simp only [List.getD_eq_getElem?_getD,List.getElem?_set_ne (h x (Us ..))]
theorem Bn (i:Nat) (kind:Int):∀ (xs:List Int) (k:Nat) (out:List Bool),(∀ (p q:Nat) (hp:p < xs.length) (hq:q < xs.length),p < q→xs[p].toNat ≠ xs[q].toNat)→(∀ x ∈ xs,x.toNat ≠ i)→(∀ x ∈ xs,x.toNat < out.length)→∀ (p:Nat) (hp:p < xs.length),(bn i kind xs k out).getD xs[p].toNat false=(out.getD i false || (kind == 6 && (k + p) == 1))
 | [],_,_,_,_,_,p,hp=>by simp at hp
 | x::xs,k,out,hd,hi,hl,p,hp=>by
  have hxi:=hi x (Us ..);have hxl:=hl x (Us ..);have hgi:(out.set x.toNat (out.getD i false || (kind == 6 && k == 1))).getD i false=out.getD i false:=by
   rw [List.getD_eq_getElem?_getD,List.getD_eq_getElem?_getD,List.getElem?_set_ne hxi]
  rw [bn];cases p with
  | zero =>
   rw [List.getElem_cons_zero,jY i kind xs (k + 1) _ x.toNat fun y hy=>?_]
   ·rw [List.getD_eq_getElem?_getD,List.getElem?_set_self hxl]; rfl
   obtain ⟨q,hq,rfl⟩:=Uu hy;exact (hd 0 (q + 1) (by simp) (by simpa using hq) (by omega)).symm
  | succ p =>
   have:=Bn i kind xs (k + 1) (out.set x.toNat (out.getD i false || (kind == 6 && k == 1))) (fun a b ha hb hab=>hd (a + 1) (b + 1) (by simpa using ha) (by simpa using hb) (by omega)) (fun y hy=>hi y (Uq _ hy)) (fun y hy=>by rw [List.length_set]; exact hl y (Uq _ hy)) p (by simpa using hp);rw [List.getElem_cons_succ,this,hgi,show k + 1 + p=k + (p + 1) by omega]
theorem pI (es:List Ex):∀ (m:Nat) (out:List Bool) (z:Nat),(∀ j,j < m→∀ x ∈ dC es j,x.toNat ≠ z)→(dU es m out).getD z false=out.getD z false
 | 0,_,_,_=>rfl
 | m + 1,out,z,h=>by
  rw [dU,pI es m _ z fun j hj=>h j (by omega)];cases e:es[m]? with
  | none=>rfl
  | some x=>exact jY m x.kind x.kids 0 out z fun y hy=>h m (by omega) y (by unfold dC; rw [e]; exact hy)
theorem vX (es:List Ex) (i:Nat):∀ (d:Nat) (out:List Bool),∃ out':List Bool,out'.length=out.length∧dU es (i + d) out=dU es i out'
 | 0,out=>⟨out,rfl,rfl⟩
 | d + 1,out=>by
  obtain ⟨o',h1,h2⟩:=vX es i d (match es[i + d]? with | none=>out | some e=>bn (i + d) e.kind e.kids 0 out);refine ⟨o',?_,h2⟩;rw [h1];cases es[i + d]? with
  | none=>rfl
  | some e=>exact xA _ _ _ _ _
theorem KJ {es:List Ex} (ht:∀ j,j < es.length→0≤ay es j) {i:Nat} (hi:i < es.length) (p:Nat) (hp:p < es[i].kids.length):(dz es).getD es[i].kids[p].toNat false=((dz es).getD i false || (es[i].kind == 6 && p == 1)):=by
 have hk:dC es i=es[i].kids:=by unfold dC; rw [TY hi]; rfl
 have hlow:∀ j,j < es.length→∀ x ∈ dC es j,x.toNat < j:=fun j hj x hx=>((nP _ _ _ (nO (ht j hj))).2 x hx).2;obtain ⟨o',h1,h2⟩:=vX es (i + 1) (es.length - (i + 1)) (List.replicate es.length false);rw [show i + 1 + (es.length - (i + 1))=es.length by omega] at h2;have hN:dz es=dU es i (bn i es[i].kind es[i].kids 0 o'):=by
  unfold dz;rw [h2,dU,TY hi]
 have hmem:es[i].kids[p] ∈ dC es i:=by rw [hk]; exact TQ hp
 have hA:(dz es).getD es[i].kids[p].toNat false=(bn i es[i].kind es[i].kids 0 o').getD es[i].kids[p].toNat false:=by
  rw [hN];exact pI es i _ _ fun j hj x hx e=>JX ht hi hj hmem hx e.symm
 have hB:(dz es).getD i false=o'.getD i false:=by
  rw [hN,pI es i _ i fun j hj x hx=>by have:=hlow j (by omega) x hx; omega];exact jY i _ _ 0 o' i fun x hx=>by have:=hlow i hi x (by rw [hk]; exact hx); omega
 rw [hA,hB,Bn i es[i].kind es[i].kids 0 o' (fun a b ha hb hab=>by
   have:=JY (ht i hi) a b (by rw [hk]; exact ha) (by rw [hk]; exact hb) hab;simp only [hk] at this;omega) (fun x hx=>by have:=hlow i hi x (by rw [hk]; exact hx); omega) (fun x hx=>by have:=hlow i hi x (by rw [hk]; exact hx); rw [h1]; simp; omega) p hp,Um]
def yx (es:List Ex) (i:Nat):Int:=if (dz es).getD i false then 1 else 0
structure NodeR (l:List Tp) (rk:Fc→Int) (es:List Ex) (f:Fc):Prop where
 ht:∀ j,j < es.length→0≤ay es j
 q1:∀ i (hi:i < es.length),es[i].kind=1→∀ t ∈ l,(t.a.toList == f.a.toList && t.b.toList == f.b.toList && t.r.toList == f.r.toList)=true→t.s.toList.isEmpty=false→rk ⟨t.c,t.d,t.s,f.c,f.d⟩ + yx es i≤rk f
 q2:∀ i (hi:i < es.length),es[i].kind=2→rk ⟨f.a,f.b,es[i].name,f.c,f.d⟩ + yx es i≤rk f
 q3:∀ i (hi:i < es.length),es[i].kind=3→∀ t ∈ l,(t.a.toList == f.a.toList && t.b.toList == f.b.toList && t.r.toList == es[i].over.toList)=true→rk ⟨t.c,t.d,es[i].name,f.c,f.d⟩ + yx es i≤rk f
 k6:∀ i (hi:i < es.length),es[i].kind=6→es[i].kids.length=2
section
variable {l:List Tp} {rk:Fc→Int} {es:List Ex} {f:Fc}
def DI (rk:Fc→Int) (r:Int) (a b:List Fc):Prop:=∀ g:Fc,rk g < r→(g ∈ a ↔ g ∈ b)
def RN (rk:Fc→Int) (r:Int) (a b:List Fc):Prop:=∀ g:Fc,rk g≤r→g ∈ a→g ∈ b
theorem tX {a b:List Fc} {r:Int} (h:DI rk r a b) {g:Fc} (hg:rk g < r):bP a g=bP b g:=by
 rw [Bool.eq_iff_iff,dB,dB]; exact h g hg
theorem tY {a b:List Fc} {r:Int} (h:RN rk r a b) {g:Fc} (hg:rk g≤r) (hh:bP a g=true):bP b g=true:=dB.2 (h g hg (dB.1 hh))
theorem yL {α:Type} {p q:α→Bool} {xs:List α} (h:∀ x ∈ xs,p x=q x):xs.any p=xs.any q:=by
 rw [Bool.eq_iff_iff,Uo,Uo];exact ⟨fun ⟨x,hx,e⟩=>⟨x,hx,by rw [← h x hx]; exact e⟩,fun ⟨x,hx,e⟩=>⟨x,hx,by rw [h x hx]; exact e⟩⟩
theorem Re {α:Type} {p q:α→Bool} {xs:List α} (h:∀ x ∈ xs,p x=q x):xs.all p=xs.all q:=by
 rw [Bool.eq_iff_iff,Ub,Ub];exact ⟨fun e x hx=>by rw [← h x hx]; exact e x hx,fun e x hx=>by rw [h x hx]; exact e x hx⟩
theorem NodeR.kid (h:NodeR l rk es f) {i:Nat} (hi:i < es.length) {p:Nat} (hp:p < es[i].kids.length):es[i].kids[p].toNat < es.length:=by
 have hk:dC es i=es[i].kids:=by unfold dC; rw [TY hi]; rfl
 have:=((nP _ _ _ (nO (h.ht i hi))).2 es[i].kids[p] (by rw [hk]; exact TQ hp)).2;omega
theorem NodeR.same (h:NodeR l rk es f) {ta tb:List Fc} (hT:DI rk (rk f) ta tb):∀ (k:Nat) (a b:List Fc) (i:Nat),DI rk (rk f) a b→i < es.length→(dz es).getD i false=true→dS l es ta f k a i=dS l es tb f k b i
 | 0,_,_,_,_,_,_=>rfl
 | k + 1,a,b,i,hS,hi,hg=>by
  have ZJ:yx es i=1:=by unfold yx; rw [hg]; rfl
  have Vf:∀ x ∈ es[i].kids,∀ a b,DI rk (rk f) a b→dS l es ta f k a x.toNat=dS l es tb f k b x.toNat:=fun x hx a b hS=>by
   obtain ⟨p,hp,rfl⟩:=Uu hx;exact h.same hT k a b _ hS (h.kid hi hp) (by rw [KJ h.ht hi p hp,hg]; rfl)
  unfold dS;rw [TY hi];simp only;by_cases e1:es[i].kind=1
  ·rw [if_pos e1,if_pos e1];refine yL fun t ht=>?_;cases hm:(t.a.toList == f.a.toList && t.b.toList == f.b.toList && t.r.toList == f.r.toList);case false=>rfl
   cases hs:t.s.toList.isEmpty;case true=>rfl
   have:=h.q1 i hi e1 t ht hm hs;simp only [Bool.false_eq_true,if_false];rw [tX hS (g:=⟨t.c,t.d,t.s,f.c,f.d⟩) (by omega)]
  rw [if_neg e1,if_neg e1];by_cases e2:es[i].kind=2
  ·rw [if_pos e2,if_pos e2];have:=h.q2 i hi e2;exact tX hS (by omega)
  rw [if_neg e2,if_neg e2];by_cases e3:es[i].kind=3
  ·rw [if_pos e3,if_pos e3];refine yL fun t ht=>?_;cases hm:(t.a.toList == f.a.toList && t.b.toList == f.b.toList && t.r.toList == es[i].over.toList);case false=>rfl
   have:=h.q3 i hi e3 t ht hm;rw [tX hS (g:=⟨t.c,t.d,es[i].name,f.c,f.d⟩) (by omega)]
  rw [if_neg e3,if_neg e3];by_cases e4:es[i].kind=4
  ·rw [if_pos e4,if_pos e4]; exact yL fun x hx=>Vf x hx a b hS
  rw [if_neg e4,if_neg e4];by_cases e5:es[i].kind=5
  ·rw [if_pos e5,if_pos e5]; exact Re fun x hx=>Vf x hx a b hS
  rw [if_neg e5,if_neg e5];by_cases e6:es[i].kind=6
  ·rw [if_pos e6,if_pos e6];have hl:=h.k6 i hi e6;have hx:∀ q,q < 2→es[i].kids.getD q 0 ∈ es[i].kids:=fun q hq=>by
    rw [List.getD_eq_getElem?_getD,TY (by omega)];exact TQ _
   rw [Vf _ (hx 0 (by omega)) a b hS,Vf _ (hx 1 (by omega)) ta tb hT]
  rw [if_neg e6,if_neg e6]
theorem NodeR.more (h:NodeR l rk es f) {ta tb:List Fc} (hT:DI rk (rk f) ta tb):∀ (k:Nat) (a b:List Fc) (i:Nat),DI rk (rk f) a b→RN rk (rk f) a b→i < es.length→dS l es ta f k a i=true→dS l es tb f k b i=true
 | 0,_,_,_,_,_,_,hh=>by cases hh
 | k + 1,a,b,i,hS,hM,hi,hh=>by
  have ZJ:0≤yx es i:=by unfold yx; split <;> omega
  have Vf:∀ x ∈ es[i].kids,dS l es ta f k a x.toNat=true→dS l es tb f k b x.toNat=true:=fun x hx=>by
   obtain ⟨p,hp,rfl⟩:=Uu hx;exact h.more hT k a b _ hS hM (h.kid hi hp)
  unfold dS at hh ⊢;rw [TY hi] at hh ⊢;simp only at hh ⊢;by_cases e1:es[i].kind=1
  ·rw [if_pos e1] at hh ⊢;obtain ⟨t,ht,e⟩:=Uo.1 hh;refine Uo.2 ⟨t,ht,?_⟩;rw [TU] at e ⊢;refine ⟨e.1,?_⟩;cases hs:t.s.toList.isEmpty;case true=>have:=e.2; rw [hs] at this; exact this
   have h2:=e.2;rw [hs] at h2;simp only [Bool.false_eq_true,if_false] at h2 ⊢;have:=h.q1 i hi e1 t ht e.1 hs;exact tY hM (by omega) h2
  rw [if_neg e1] at hh ⊢;by_cases e2:es[i].kind=2
  ·rw [if_pos e2] at hh ⊢;have:=h.q2 i hi e2;exact tY hM (by omega) hh
  rw [if_neg e2] at hh ⊢;by_cases e3:es[i].kind=3
  ·rw [if_pos e3] at hh ⊢;obtain ⟨t,ht,e⟩:=Uo.1 hh;refine Uo.2 ⟨t,ht,?_⟩;rw [TU] at e ⊢;have:=h.q3 i hi e3 t ht e.1;exact ⟨e.1,tY hM (by omega) e.2⟩
  rw [if_neg e3] at hh ⊢;by_cases e4:es[i].kind=4
  ·rw [if_pos e4] at hh ⊢;obtain ⟨x,hx,e⟩:=Uo.1 hh;exact Uo.2 ⟨x,hx,Vf x hx e⟩
  rw [if_neg e4] at hh ⊢;by_cases e5:es[i].kind=5
  ·rw [if_pos e5] at hh ⊢;exact Ub.2 fun x hx=>Vf x hx (Ub.1 hh x hx)
  rw [if_neg e5] at hh ⊢;by_cases e6:es[i].kind=6
  ·rw [if_pos e6] at hh ⊢;have hl:=h.k6 i hi e6;have hx:∀ q (hq:q < 2),es[i].kids.getD q 0=es[i].kids[q]'(by omega):=fun q hq=>by
    rw [List.getD_eq_getElem?_getD,TY (by omega)]; rfl
   rw [TU] at hh ⊢;refine ⟨?_,?_⟩
   ·have h0:=hh.1;rw [hx 0 (by omega)] at h0 ⊢;exact Vf _ (TQ _) h0
   have h1:=hh.2;rw [hx 1 (by omega)] at h1 ⊢;have hf:(dz es).getD (es[i].kids[1]'(by omega)).toNat false=true:=by
    rw [KJ h.ht hi 1 (by omega),e6]; simp
   rw [← h.same hT k ta tb _ hT (h.kid hi (by omega)) hf];exact h1
  rw [if_neg e6] at hh;cases hh
end
theorem M0 {ts:List Ty} {l:List Tp} {rk:Fc→Int} (hn:∀ f:Fc,aA ts f.a f.r ≠ []→NodeR l rk (aA ts f.a f.r) f):Lay rk (fD ts l):=fun a b f h1 h2 hh=>by
 by_cases he:aA ts f.a f.r=[]
 ·unfold fD at hh;rw [he] at hh;cases hh
 have hpos:(aA ts f.a f.r).length - 1 < (aA ts f.a f.r).length:=by
  have:(aA ts f.a f.r).length ≠ 0:=fun e=>he (Ui.1 e);omega
 refine (hn f he).more h1 _ a b _ h1 (fun g hg hm=>?_) hpos hh;by_cases e:rk g=rk f
 ·exact h2 g e hm
 exact (h1 g (by omega)).1 hm
def P9 (ts:List Ty) (st:ByteArray × ByteArray→Int) (g:Fc):Int:=if hasB ts g.a g.r then st (g.a,g.r) else -1
def JZ (ts:List Ty) (t:Tp):Bool:=(aA ts t.a t.r).any fun e=>decide (e.kind=1) && dF e.allow e.allow.length ⟨t.c,t.s⟩
theorem Hf {ts:List Ty} {a r:ByteArray}:hasB ts a r=true ↔ aA ts a r ≠ []:=by
 unfold hasB;cases aA ts a r <;> simp
theorem Bo {ts:List Ty} {typ:ByteArray} {es:List Ex} {i:Nat} {d:Dp} (h:d ∈ ik ts typ es i):∀ k,i < k→d ∈ aN ts typ es k
 | 0,hi=>absurd hi (Uw _)
 | k + 1,hi=>by
  unfold aN;by_cases e:i=k
  ·subst e; exact List.mem_append_right _ h
  exact List.mem_append_left _ (Bo h k (by omega))
theorem Bp {ng:Bool} {a:Al}:∀ {xs:List Al},a ∈ xs→a.s.toList.isEmpty=false→(⟨a.t,a.s,ng⟩:Dp) ∈ df ng xs
 | [],h,_=>by cases h
 | x::xs,h,hs=>by
  unfold df;rcases List.mem_cons.1 h with rfl | h
  ·rw [if_neg (by rw [hs]; decide)]; exact Us ..
  split
  ·exact Bp h hs
  exact Uq _ (Bp h hs)
theorem P5 {ts:List Ty} {rel:ByteArray} {a:Al}:∀ {xs:List Al},a ∈ xs→hasB ts a.t rel=true→a.t ∈ gl ts rel xs
 | [],h,_=>by cases h
 | x::xs,h,hs=>by
  unfold gl;rcases List.mem_cons.1 h with rfl | h
  ·rw [if_neg (by unfold hasB at hs; simpa using hs)]; exact Us ..
  split
  ·exact P5 h hs
  exact Uq _ (P5 h hs)
theorem xg {xs:List Al} {c s:ByteArray} (h:dF xs xs.length ⟨c,s⟩=true):(⟨c,s⟩:Al) ∈ xs:=by
 unfold dF at h;rw [Ug] at h;obtain ⟨a,ha,e⟩:=Uo.1 h;unfold jS at e;rw [TU,beq_iff_eq,beq_iff_eq] at e;have:a=⟨c,s⟩:=by
  cases a;simp only at e;rw [fI e.1,fI e.2]
 rw [← this]; exact ha
theorem Rf {es:List Ex} (h:own es≤1) {i j:Nat} (hi:i < es.length) (hj:j < es.length) (ki:es[i].kind=1) (kj:es[j].kind=1):i=j:=by
 have key:∀ (es:List Ex) (i j:Nat) (hi:i < es.length) (hj:j < es.length),es[i].kind=1→es[j].kind=1→i < j→2≤own es:=by
  intro es
  induction es with
  | nil=>intro i j hi; simp at hi
  | cons e es ih =>
   intro i j hi hj ki kj hij;unfold own;rw [List.filter_cons];cases j with
   | zero=>omega
   | succ j =>
    have kj':(es[j]'(by simpa using hj)).kind=1:=by simpa using kj
    cases i with
    | zero =>
     have ki':e.kind=1:=by simpa using ki
     have:0 < (es.filter fun e=>decide (e.kind=1)).length:=List.length_pos_of_mem (a:=es[j]'(by simpa using hj)) (Ux.2 ⟨TQ _,by simpa using kj'⟩);simp [ki']; omega
    | succ i =>
     have:=ih i j (by simpa using hi) (by simpa using hj) (by simpa using ki) kj' (by omega);unfold own at this;split
     ·simp; omega
     exact this
 rcases Nat.lt_trichotomy i j with h1 | h1 | h1
 ·have:=key es i j hi hj ki kj h1; omega
 ·exact h1
 have:=key es j i hj hi kj ki h1; omega
theorem P6 {ts:List Ty} {l:List Tp} {st:ByteArray × ByteArray→Int} (hS:Sol ts st) (hsh:bf ts=true) (hrf:iD ts=true) (hfit:∀ t ∈ l,JZ ts t=true) {f:Fc} (hf:aA ts f.a f.r ≠ []):NodeR l (P9 ts st) (aA ts f.a f.r) f:=by
 obtain ⟨es,hes⟩:∃ es,es=aA ts f.a f.r:=⟨_,rfl⟩;have hp:fH ts f.a f.r=some es:=by
  rw [hes];cases e:fH ts f.a f.r with
  | none=>unfold aA at hf; rw [e] at hf; exact absurd rfl hf
  | some x=>unfold aA; rw [e]; rfl
 obtain ⟨t0,ht0,r0,hr0,en,er,ee⟩:=qC hp;have hspec:=(tT hsh ht0 hr0).2;rw [ee] at hspec;have hk:(f.a,f.r) ∈ ak ts:=by
  unfold ak jF;exact Uf.2 ⟨t0,ht0,Ue.2 ⟨r0,hr0,by rw [en,er]⟩⟩
 have YI:P9 ts st f=st (f.a,f.r):=by unfold P9; rw [if_pos (Hf.2 hf)]
 have hup:∀ i,i < es.length→∀ d ∈ ik ts f.a es i,st (d.typ,d.rel) + stepOf d≤st (f.a,f.r):=fun i hi d hd=>hS.up _ hk d (by show d ∈ pR ts f.a (aA ts f.a f.r); rw [← hes]; exact Bo hd _ hi);have hpos:=hS.pos (f.a,f.r);have ZJ:∀ i,0≤yx es i∧yx es i≤1:=fun i=>by unfold yx; split <;> omega
 -- whatever a node asks by a name that it leans on
 have ask:∀ i (hi:i < es.length) (g:Fc),(hasB ts g.a g.r=true→(⟨g.a,g.r,(dz es).getD i false⟩:Dp) ∈ ik ts f.a es i)→P9 ts st g + yx es i≤P9 ts st f:=fun i hi g h=>by
  rw [YI];have h1:=ZJ i;unfold P9;split
  ·rename_i hb;have h2:=hup i hi _ (h hb);unfold stepOf at h2;unfold yx;exact h2
  omega
 rw [← hes];have hdA:∀ i (hi:i < es.length),ik ts f.a es i=df ((dz es).getD i false) es[i].allow ++ kM ts f.a ((dz es).getD i false) es[i]:=fun i hi=>by unfold ik; rw [TY hi]
 have Yk:=hspec;unfold aK at Yk;simp only [TU,Ud] at Yk;obtain ⟨⟨⟨⟨⟨-,-⟩,hnb⟩,hku⟩,hown⟩,htr⟩:=Yk;refine ⟨fun j hj=>?_,fun i hi k1 t ht hm hs=>?_,fun i hi k2=>?_,fun i hi k3 t ht hm=>?_,fun i hi k6=>?_⟩
 ·exact nA es (es.length - 1) (by rw [htr]; exact Int.le_refl _) j (by rw [htr]; omega) (by omega)
 ·refine ask i hi _ fun hb=>?_;rw [TU,TU,beq_iff_eq,beq_iff_eq,beq_iff_eq] at hm;have h1:=hfit t ht;unfold JZ at h1;rw [fI hm.1.1,fI hm.2,← hes] at h1;obtain ⟨e,he,h2⟩:=Uo.1 h1;rw [TU,Ud] at h2;obtain ⟨j,hj,rfl⟩:=Uu he;have:=Rf hown hi hj k1 h2.1;subst this;rw [hdA i hi];exact List.mem_append_left _ (Bp (xg h2.2) hs)
 ·refine ask i hi _ fun hb=>?_;rw [hdA i hi];refine List.mem_append_right _ ?_;unfold kM;rw [if_pos k2]; exact Ua.2 rfl
 ·refine ask i hi _ fun hb=>?_;rw [TU,TU,beq_iff_eq,beq_iff_eq,beq_iff_eq] at hm;have hrn:=(Qy hrf ht0 hr0 (e:=es[i]) (by rw [ee]; exact TQ hi)).2;unfold lh at hrn;rw [if_neg (by rw [k3]; decide),if_pos k3] at hrn;simp only [TU] at hrn;have XP:=hrn.1;rw [en] at XP;have h1:=hfit t ht;unfold JZ at h1;rw [fI hm.1.1,fI hm.2] at h1;have hmem:(⟨t.c,t.s⟩:Al) ∈ aU (aA ts f.a es[i].over):=by
   rcases hre:aA ts f.a es[i].over with _ | ⟨e,_ | ⟨e2,rest⟩⟩
   ·rw [hre] at XP; simp [bu] at XP
   ·rw [hre] at XP h1;simp only [bu,TU,Ud] at XP;obtain ⟨e',he',h2⟩:=Uo.1 h1;rw [Ua] at he';subst he';rw [TU] at h2;simp only [aU,if_pos XP.1];exact xg h2.2
   rw [hre] at XP; simp [bu] at XP
  rw [hdA i hi];refine List.mem_append_right _ ?_;unfold kM;rw [if_neg (by rw [k3]; decide),if_pos k3];exact Ue.2 ⟨t.c,P5 (a:=⟨t.c,t.s⟩) hmem hb,rfl⟩
 have h:=Ub.1 hnb _ (TQ hi);unfold av at h;simp [k6] at h;exact h.1.1.1
theorem E8 {ts:List Ty} {l:List Tp} {st:ByteArray × ByteArray→Int} (hS:Sol ts st) (hsh:bf ts=true) (hrf:iD ts=true) (hfit:∀ t ∈ l,JZ ts t=true):Lay (P9 ts st) (fD ts l):=M0 fun f hf=>P6 hS hsh hrf hfit hf
theorem J3 {ts:List Ty} {st:ByteArray × ByteArray→Int} {xo xu:List Al} {n:Int} (hen:∀ k ∈ ak ts,hasB ts k.1 k.2=true) {f:Fc} (h:f ∈ bY ts st xo xu n):P9 ts st f=n:=by
 unfold bY uX ja Ag at h;obtain ⟨o,-,h⟩:=Uf.1 h;obtain ⟨k,hk,h⟩:=Uf.1 h;obtain ⟨u,-,rfl⟩:=Ue.1 h;obtain ⟨hk1,hk2⟩:=Ux.1 hk;rw [TU,beq_iff_eq,Ud] at hk2;have e1:k.1=o.t:=fI hk2.1;have hb:hasB ts o.t k.2=true:=by
  rw [← e1]; exact hen k hk1
 unfold P9;rw [if_pos hb];show st (o.t,k.2)=n;rw [← e1];exact hk2.2
end Go.Proofs.YtajkkeikihhejaaGreat
