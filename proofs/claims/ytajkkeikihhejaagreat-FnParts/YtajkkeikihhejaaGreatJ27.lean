/- The contract of the drawing of a fact: five short strings; nothing but the reader's place has changed. -/
import Derived.Test.YtajkkeikihhejaaGreatSq
import Derived.Test.YtajkkeikihhejaaGreatJ22
import Derived.Test.YtajkkeikihhejaaGreatJ26
open Go.Proofs.Tryz
set_option maxHeartbeats 80000000
namespace Go.Proofs.YtajkkeikihhejaaGreat
open Go.ChangeShapes Go.WideShapes Go.ChangeAt Go.RowKit
open Pl
def Fc.short (f:Fc):Prop:=f.a.size<=20/\f.b.size<=20/\f.r.size<=20/\f.c.size<=20/\f.d.size<=20
def PD (w:World)(R B g:Nat):Prop:=g≠R/\B<=g/\g<w.heap.size/\(∀ o,w.frozen? ⟨g,o,none⟩=false)/\∃ f:Fc,f.short/\wX w g 0 f
theorem PD.only {w w':af}{R B g:Nat}(h:PD w R B g)(k:Only R w w'):PD w' R B g:=by
 obtain ⟨h1,h2,h3,h4,f,hf,hc⟩:=h;exact ⟨h1,h2,Uc h3 k.size,fun o=>by rw [k.frozen h3 h1];exact h4 o,f,hf,hc.same fun o=>k.cell h3 h1⟩
theorem PE {w:af}{R B:Nat}{t:TypeId}(hR:R<w.heap.size)(hB:B<=w.heap.size):PD (w.alloc (.cells #[.string ⟨#[]⟩,.string ⟨#[]⟩,.string ⟨#[]⟩,.string ⟨#[]⟩,.string ⟨#[]⟩] t)) R B w.heap.size:=by
 refine ⟨by omega,hB,by simp,fun o=>by simp,⟨⟨#[]⟩,⟨#[]⟩,⟨#[]⟩,⟨#[]⟩,⟨#[]⟩⟩,⟨by decide,by decide,by decide,by decide,by decide⟩,?_⟩;refine ⟨?_,?_,?_,?_,?_⟩ <;> simp
theorem Q0 {w:af}{g:Nat}{x0 x1 x2 x3 x4:Value}(y:Fc)(c0:w.cell? ⟨g,0,none⟩=some x0)(c1:w.cell? ⟨g,1,none⟩=some x1)(c2:w.cell? ⟨g,2,none⟩=some x2)(c3:w.cell? ⟨g,3,none⟩=some x3)(c4:w.cell? ⟨g,4,none⟩=some x4) :
  wX (((((w.setCell ⟨g,0,none⟩ (.string y.a)).setCell ⟨g,1,none⟩ (.string y.b)).setCell ⟨g,2,none⟩ (.string y.r)).setCell ⟨g,3,none⟩ (.string y.c)).setCell ⟨g,4,none⟩ (.string y.d)) g 0 y:=by
 have far:∀ (W:World) (i j:Nat) (v:Value),i≠j->(W.setCell ⟨g,i,none⟩ v).cell? ⟨g,j,none⟩=W.cell? ⟨g,j,none⟩:=fun W i j v h=>by apply World.cell?_setCell_other;intro e;exact h (congrArg Addr.off e)
 have same:∀ (W:World) (i:Nat) (x v:Value),W.cell? ⟨g,i,none⟩=some x->(W.setCell ⟨g,i,none⟩ v).cell? ⟨g,i,none⟩=some v:=fun W i x v h=>by apply World.cell?_setCell_same;exact h
 refine ⟨?_,?_,?_,?_,?_⟩
 ·rw [far _ 4 0 _ (by decide),far _ 3 0 _ (by decide),far _ 2 0 _ (by decide),far _ 1 0 _ (by decide)];exact same _ 0 _ _ c0
 ·show World.cell? _ ⟨g,1,none⟩=_;rw [far _ 4 1 _ (by decide),far _ 3 1 _ (by decide),far _ 2 1 _ (by decide)];exact same _ 1 _ _ (by rw [far _ 0 1 _ (by decide)];exact c1)
 ·show World.cell? _ ⟨g,2,none⟩=_;rw [far _ 4 2 _ (by decide),far _ 3 2 _ (by decide)];exact same _ 2 _ _ (by rw [far _ 1 2 _ (by decide),far _ 0 2 _ (by decide)];exact c2)
 ·show World.cell? _ ⟨g,3,none⟩=_;rw [far _ 4 3 _ (by decide)];exact same _ 3 _ _ (by rw [far _ 2 3 _ (by decide),far _ 1 3 _ (by decide),far _ 0 3 _ (by decide)];exact c3)
 show World.cell? _ ⟨g,4,none⟩=_;exact same _ 4 _ _ (by rw [far _ 3 4 _ (by decide),far _ 2 4 _ (by decide),far _ 1 4 _ (by decide),far _ 0 4 _ (by decide)];exact c4)
def SQ (R B k:Nat)(v:Value)(w:World):Prop:=(k=18->∃ g,v=.pointer (some ⟨g,0,none⟩)/\PD w R B g)/\(k=17->∃ f:Fc,v=.agg #[.string f.a,.string f.b,.string f.r,.string f.c,.string f.d]/\f.short)/\(k<17->Kd.ok R w v (FI [.strs 3,.eq (Value.pointer (some ⟨R,0,none⟩)),.idx 3,.elt 3,.str,.obj,.strs 4,.eq (Value.pointer (some ⟨R,0,none⟩)),.idx 4,.elt 4,.str,.strs 3,.eq (Value.pointer (some ⟨R,0,none⟩)),.idx 3,.elt 3,.str,.obj] k))
theorem SQ.only {R B k:Nat}{v:Value}{w w':af}(h:SQ R B k v w)(ho:Only R w w'):SQ R B k v w' :=
 ⟨fun e=>by obtain ⟨g,e1,hg⟩:=h.1 e;exact ⟨g,e1,hg.only ho⟩,h.2.1,fun e=>Kd.only ho _ (h.2.2 e)⟩
theorem SQ.no {R B k:Nat}{v:Value}{w:af}(hk:k<17)(h:Kd.ok R w v (FI [.strs 3,.eq (Value.pointer (some ⟨R,0,none⟩)),.idx 3,.elt 3,.str,.obj,.strs 4,.eq (Value.pointer (some ⟨R,0,none⟩)),.idx 4,.elt 4,.str,.strs 3,.eq (Value.pointer (some ⟨R,0,none⟩)),.idx 3,.elt 3,.str,.obj] k)):SQ R B k v w:=⟨fun e=>by omega,fun e=>by omega,fun _=>h⟩
set_option maxRecDepth 4000 in
theorem PG (R:Nat)(ad:Option Addr)(len cap:Nat)(w:af)(h:Rd w R ad len cap) :
  Calls prog 50 #[.pointer (some ⟨R,0,none⟩)] w fun e w'=>(∃ f:Fc,e=.returned (.agg #[.string f.a,.string f.b,.string f.r,.string f.c,.string f.d])/\f.short)/\Rd w' R ad len cap/\Only R w w':=by
 have H:=aA h;have XH:=h.lt;have FAR:Hid (∀ g,w.heap.size<=g->0<len->∀ b off,ad=some ⟨b,off,none⟩->b≠g):=fun g hg h0 b off e=>by
  obtain ⟨b',off',e',-,hb',-⟩:=h.bytes h0;rw [e]at e';injection e' with e';injection e' with e1 e2;omega
 clear h;go_enter func50,ntmps50;go_wp2_with fail;refine fF 19 (fun f=>{ tmps:=List.toArray (Value.pointer (some ⟨R,0,none⟩)::undef::.pointer (some ⟨w.heap.size,0,none⟩)::f 18::f 0::f 1::f 2::f 3::f 4::f 5::f 6::f 7::f 8::f 9::f 10::f 11::f 12::f 13::f 14::f 15::f 16::f 17::undef::undef::undef::undef::undef::undef::undef::undef::undef::undef::undef::[]),defers:=[] }) (fun k v w'=>SQ R (w.heap.size+1) k v w') (fun w'=>Rd w' R ad len cap/\Only R (w.alloc (.cells #[.string ⟨#[]⟩,.string ⟨#[]⟩,.string ⟨#[]⟩,.string ⟨#[]⟩,.string ⟨#[]⟩] 29)) w') (by kernel_rfl) rfl (by kernel_rfl) (by kernel_rfl) rfl ⟨H.out.below (((Uf _ _).alloc (Ue _) _).drew),(Only.refl _ _).drewN 1⟩ ?step ?fin;case step =>
  rintro i hi o ho f w' ⟨hR',Vf⟩ hpre;have HR:=aA hR';have HO:=aA Vf;have hsz:w.heap.size+1<=w'.heap.size:=by have:=Vf.size;simpa using this
  have hRl:R<w'.heap.size:=hR'.lt;have HM:Hid (∀ e∈o.after,Region.binds .any e=true->SQ R (w.heap.size+1) e.on (f e.on) w'):=hpre;have KAL:Hid (∀ ob:Obj,Only R w' (w'.alloc ob)):=fun ob=>(Only.refl R w').alloc ob;clear hR' Vf hpre;have hc:=J5 (i:=i) (by omega);clear hi
  repeat' rcases hc with rfl|hc
  ·cases ho;refine aa rfl fun K HK=>?_;clear HM;dsimp only;go_simp;exact HK.out _ _ ⟨_,by simp [upd],⟨HR.out.alloc _,HO.out.alloc _⟩,.no (by decide) ⟨_,rfl,fC w' R hRl (xs:=[_,_,_]) (by decide)⟩,fun k u hu=>hu.only (KAL.out _)⟩
  ·cases ho;refine aa rfl fun K HK=>?_;clear HM;dsimp only;go_simp;exact HK.out _ _ ⟨Value.pointer (some ⟨R,0,none⟩),by simp [upd],⟨HR.out,HO.out⟩,.no (by decide) rfl,fun k u hu=>hu⟩
  ·cases ho;have e1:f 1=Value.pointer (some ⟨R,0,none⟩):=(HM.out ⟨1,.data⟩ (by simp) rfl).2.2 (by decide);refine aa rfl fun K HK=>?_;clear HM;simp only [e1];go_simp;refine (bY R ad len cap 3 _ HR.out (by omega) (by omega)).mono ?_;rintro e w5 ⟨⟨x,rfl,hx0,hx1⟩,U6,Va⟩;obtain ⟨x,rfl⟩:∃ y:Nat,x=(y:Int):=⟨x.toNat,by omega⟩;have U5:Hid (Rd w5 R ad len cap/\Only R w' w5):=⟨U6,Va⟩;clear U6 Va;go_wp2_with fail;exact HK.out _ _ ⟨.int .i64 (x:Int),by simp [upd,e1],⟨U5.out.1,HO.out.trans U5.out.2⟩,.no (by decide) ⟨x,rfl,by omega⟩,fun k u hu=>hu.only U5.out.2⟩
  ·cases ho;obtain ⟨g,e1,hS⟩:=(HM.out ⟨0,.data⟩ (by simp) rfl).2.2 (by decide);obtain ⟨x,e2,hx⟩:=(HM.out ⟨2,.data⟩ (by simp) rfl).2.2 (by decide);replace e1:f 0=_:=e1;replace e2:f 2=_:=e2;have HS:=aA hS;clear hS;have hx0:=bF x;have hx1:(x:Int)<3:=by omega
   refine aa rfl fun K HK=>?_;clear HM;simp only [e1,e2];go_simp;exact HK.out _ _ ⟨.pointer (some ⟨g,x,none⟩),by simp [upd,e1,e2],⟨HR.out,HO.out⟩,.no (by decide) ⟨g,x,rfl,hx,HS.out⟩,fun k u hu=>hu⟩
  ·cases ho;obtain ⟨g,x,e1,hx,hS⟩:=(HM.out ⟨3,.data⟩ (by simp) rfl).2.2 (by decide);replace e1:f 3=_:=e1;obtain ⟨t,ht,hcell⟩:=hS.2.2 x hx;clear hS;refine aa rfl fun K HK=>?_;clear HM;simp only [e1];go_simp;exact HK.out _ _ ⟨.string t,by simp [upd,e1],⟨HR.out,HO.out⟩,.no (by decide) ⟨t,rfl,ht⟩,fun k u hu=>hu⟩
  ·cases ho;obtain ⟨t,e1,ht⟩:=(HM.out ⟨4,.data⟩ (by simp) rfl).2.2 (by decide);replace e1:f 4=_:=e1;refine aa rfl fun K HK=>?_;clear HM;simp only [e1];go_simp;exact HK.out _ _ ⟨.agg #[.string ⟨#[100,111,99]⟩,.string t],by simp [upd,e1],⟨HR.out,HO.out⟩,.no (by decide) ⟨_,t,rfl,by decide,ht⟩,fun k u hu=>hu⟩
  ·cases ho;refine aa rfl fun K HK=>?_;clear HM;dsimp only;go_simp;exact HK.out _ _ ⟨_,by simp [upd],⟨HR.out.alloc _,HO.out.alloc _⟩,.no (by decide) ⟨_,rfl,fC w' R hRl (xs:=[_,_,_,_]) (by decide)⟩,fun k u hu=>hu.only (KAL.out _)⟩
  ·cases ho;refine aa rfl fun K HK=>?_;clear HM;dsimp only;go_simp;exact HK.out _ _ ⟨Value.pointer (some ⟨R,0,none⟩),by simp [upd],⟨HR.out,HO.out⟩,.no (by decide) rfl,fun k u hu=>hu⟩
  ·cases ho;have e1:f 7=Value.pointer (some ⟨R,0,none⟩):=(HM.out ⟨7,.data⟩ (by simp) rfl).2.2 (by decide);refine aa rfl fun K HK=>?_;clear HM;simp only [e1];go_simp;refine (bY R ad len cap 4 _ HR.out (by omega) (by omega)).mono ?_;rintro e w5 ⟨⟨x,rfl,hx0,hx1⟩,U6,Va⟩;obtain ⟨x,rfl⟩:∃ y:Nat,x=(y:Int):=⟨x.toNat,by omega⟩;have U5:Hid (Rd w5 R ad len cap/\Only R w' w5):=⟨U6,Va⟩;clear U6 Va;go_wp2_with fail;exact HK.out _ _ ⟨.int .i64 (x:Int),by simp [upd,e1],⟨U5.out.1,HO.out.trans U5.out.2⟩,.no (by decide) ⟨x,rfl,by omega⟩,fun k u hu=>hu.only U5.out.2⟩
  ·cases ho;obtain ⟨g,e1,hS⟩:=(HM.out ⟨6,.data⟩ (by simp) rfl).2.2 (by decide);obtain ⟨x,e2,hx⟩:=(HM.out ⟨8,.data⟩ (by simp) rfl).2.2 (by decide);replace e1:f 6=_:=e1;replace e2:f 8=_:=e2;have HS:=aA hS;clear hS;have hx0:=bF x;have hx1:(x:Int)<4:=by omega
   refine aa rfl fun K HK=>?_;clear HM;simp only [e1,e2];go_simp;exact HK.out _ _ ⟨.pointer (some ⟨g,x,none⟩),by simp [upd,e1,e2],⟨HR.out,HO.out⟩,.no (by decide) ⟨g,x,rfl,hx,HS.out⟩,fun k u hu=>hu⟩
  ·cases ho;obtain ⟨g,x,e1,hx,hS⟩:=(HM.out ⟨9,.data⟩ (by simp) rfl).2.2 (by decide);replace e1:f 9=_:=e1;obtain ⟨t,ht,hcell⟩:=hS.2.2 x hx;clear hS;refine aa rfl fun K HK=>?_;clear HM;simp only [e1];go_simp;exact HK.out _ _ ⟨.string t,by simp [upd,e1],⟨HR.out,HO.out⟩,.no (by decide) ⟨t,rfl,ht⟩,fun k u hu=>hu⟩
  ·cases ho;refine aa rfl fun K HK=>?_;clear HM;dsimp only;go_simp;exact HK.out _ _ ⟨_,by simp [upd],⟨HR.out.alloc _,HO.out.alloc _⟩,.no (by decide) ⟨_,rfl,fC w' R hRl (xs:=[_,_,_]) (by decide)⟩,fun k u hu=>hu.only (KAL.out _)⟩
  ·cases ho;refine aa rfl fun K HK=>?_;clear HM;dsimp only;go_simp;exact HK.out _ _ ⟨Value.pointer (some ⟨R,0,none⟩),by simp [upd],⟨HR.out,HO.out⟩,.no (by decide) rfl,fun k u hu=>hu⟩
  ·cases ho;have e1:f 12=Value.pointer (some ⟨R,0,none⟩):=(HM.out ⟨12,.data⟩ (by simp) rfl).2.2 (by decide);refine aa rfl fun K HK=>?_;clear HM;simp only [e1];go_simp;refine (bY R ad len cap 3 _ HR.out (by omega) (by omega)).mono ?_;rintro e w5 ⟨⟨x,rfl,hx0,hx1⟩,U6,Va⟩;obtain ⟨x,rfl⟩:∃ y:Nat,x=(y:Int):=⟨x.toNat,by omega⟩;have U5:Hid (Rd w5 R ad len cap/\Only R w' w5):=⟨U6,Va⟩;clear U6 Va;go_wp2_with fail;exact HK.out _ _ ⟨.int .i64 (x:Int),by simp [upd,e1],⟨U5.out.1,HO.out.trans U5.out.2⟩,.no (by decide) ⟨x,rfl,by omega⟩,fun k u hu=>hu.only U5.out.2⟩
  ·cases ho;obtain ⟨g,e1,hS⟩:=(HM.out ⟨11,.data⟩ (by simp) rfl).2.2 (by decide);obtain ⟨x,e2,hx⟩:=(HM.out ⟨13,.data⟩ (by simp) rfl).2.2 (by decide);replace e1:f 11=_:=e1;replace e2:f 13=_:=e2;have HS:=aA hS;clear hS;have hx0:=bF x;have hx1:(x:Int)<3:=by omega
   refine aa rfl fun K HK=>?_;clear HM;simp only [e1,e2];go_simp;exact HK.out _ _ ⟨.pointer (some ⟨g,x,none⟩),by simp [upd,e1,e2],⟨HR.out,HO.out⟩,.no (by decide) ⟨g,x,rfl,hx,HS.out⟩,fun k u hu=>hu⟩
  ·cases ho;obtain ⟨g,x,e1,hx,hS⟩:=(HM.out ⟨14,.data⟩ (by simp) rfl).2.2 (by decide);replace e1:f 14=_:=e1;obtain ⟨t,ht,hcell⟩:=hS.2.2 x hx;clear hS;refine aa rfl fun K HK=>?_;clear HM;simp only [e1];go_simp;exact HK.out _ _ ⟨.string t,by simp [upd,e1],⟨HR.out,HO.out⟩,.no (by decide) ⟨t,rfl,ht⟩,fun k u hu=>hu⟩
  ·cases ho;obtain ⟨t,e1,ht⟩:=(HM.out ⟨15,.data⟩ (by simp) rfl).2.2 (by decide);replace e1:f 15=_:=e1;refine aa rfl fun K HK=>?_;clear HM;simp only [e1];go_simp;exact HK.out _ _ ⟨.agg #[.string ⟨#[117,115,101,114]⟩,.string t],by simp [upd,e1],⟨HR.out,HO.out⟩,.no (by decide) ⟨_,t,rfl,by decide,ht⟩,fun k u hu=>hu⟩
  ·cases ho;obtain ⟨t1,t2,e1,h1,h2⟩:=(HM.out ⟨5,.data⟩ (by simp) rfl).2.2 (by decide);obtain ⟨t3,e2,h3⟩:=(HM.out ⟨10,.data⟩ (by simp) rfl).2.2 (by decide);obtain ⟨t4,t5,e3,h4,h5⟩:=(HM.out ⟨16,.data⟩ (by simp) rfl).2.2 (by decide);replace e1:f 5=_:=e1;replace e2:f 10=_:=e2;replace e3:f 16=_:=e3;refine aa rfl fun K HK=>?_;clear HM;simp only [e1,e2,e3];go_simp;exact HK.out _ _ ⟨.agg #[.string t1,.string t2,.string t3,.string t4,.string t5],by simp [upd,e1,e2,e3],⟨HR.out,HO.out⟩,⟨fun e=>absurd e (by decide),fun _=>⟨⟨t1,t2,t3,t4,t5⟩,rfl,h1,h2,h3,h4,h5⟩,fun e=>absurd e (by decide)⟩,fun k u hu=>hu⟩
  cases ho;refine aa rfl fun K HK=>?_;clear HM;dsimp only;go_simp;exact HK.out _ _ ⟨_,by simp [upd],⟨HR.out.alloc _,HO.out.alloc _⟩,⟨fun _=>⟨_,rfl,PE hRl hsz⟩,fun e=>absurd e (by decide),fun e=>absurd e (by decide)⟩,fun k u hu=>hu.only (KAL.out _)⟩
 case fin =>
  rintro o ho f w0 ⟨hR',Vf⟩ hall;obtain ⟨g,e1,hg⟩:=(hall 18 (by omega)).1 rfl;obtain ⟨y,e2,hy⟩:=(hall 17 (by omega)).2.1 rfl;replace e1:f 18=_:=e1;replace e2:f 17=_:=e2;obtain ⟨hgR,hgB,hgl,hgf,z,_,ca,cb,cc,cd,ce⟩:=hg;obtain ⟨w',hw'⟩:∃ w',w'=(((((w0.setCell ⟨g,0,none⟩ (.string y.a)).setCell ⟨g,1,none⟩ (.string y.b)).setCell ⟨g,2,none⟩ (.string y.r)).setCell ⟨g,3,none⟩ (.string y.c)).setCell ⟨g,4,none⟩ (.string y.d)):=⟨_,rfl⟩;have hA:wX w' g 0 y:=by rw [hw'];exact Q0 y ca cb cc cd ce
  have hR:Rd w' R ad len cap:=by rw [hw'];exact ((((hR'.setFar hgR (FAR.out _ (by omega))).setFar hgR (FAR.out _ (by omega))).setFar hgR (FAR.out _ (by omega))).setFar hgR (FAR.out _ (by omega))).setFar hgR (FAR.out _ (by omega))
  have hO:Only R (w.alloc (.cells #[.string ⟨#[]⟩,.string ⟨#[]⟩,.string ⟨#[]⟩,.string ⟨#[]⟩,.string ⟨#[]⟩] 29)) w':=by rw [hw'];exact ((((Vf.setNew (by simpa using hgB)).setNew (by simpa using hgB)).setNew (by simpa using hgB)).setNew (by simpa using hgB)).setNew (by simpa using hgB)
  have hgf':∀ o,w'.frozen? ⟨g,o,none⟩=false:=fun o=>by rw [hw'];simpa using hgf o
  have hgl':g<w'.heap.size:=by rw [hw'];simpa using hgl
  clear hR' Vf hall;obtain rfl:=Option.some.inj ho;clear ho;refine aa rfl fun K HK=>?_;simp only [e1,e2];go_simp;rw [<-hw'];refine HK.out _ _ ?_;clear HK hw' hgl hgf ca cb cc cd ce;have hOw:Only R w w':=(Only.of_below ((Uf _ _).alloc (Ue _) _)).trans hO;have hnR:w.heap.size≠R:=by omega
  have hn:wX w' w.heap.size 0 ⟨⟨#[]⟩,⟨#[]⟩,⟨#[]⟩,⟨#[]⟩,⟨#[]⟩⟩:=by
   refine wX.same (w:=w.alloc (.cells #[.string ⟨#[]⟩,.string ⟨#[]⟩,.string ⟨#[]⟩,.string ⟨#[]⟩,.string ⟨#[]⟩] 29)) ?_ fun o=>hO.cell (by simp) hnR;refine ⟨?_,?_,?_,?_,?_⟩ <;> simp
  have hnf:∀ o,w'.frozen? ⟨w.heap.size,o,none⟩=false:=fun o=>by rw [hO.frozen (by simp) hnR];simp
  have hsz:w.heap.size<w'.heap.size:=by have:=hO.size;simp at this;omega
  have HR:=aA hR;have HOw:=aA hOw;have HA:Hid (wX w' g 0 y/\wX w' w.heap.size 0 ⟨⟨#[]⟩,⟨#[]⟩,⟨#[]⟩,⟨#[]⟩,⟨#[]⟩⟩):=⟨hA,hn⟩;have HY:Hid y.short:=hy;clear hR hO hOw hA hn hy;go_wp2_with fail;refine (iW R ad len cap 5 _ HR.out (by omega) (by omega)).mono ?_;rintro e w1 ⟨⟨x,rfl⟩,Vh,U8⟩;have HR1:=aA Vh;have U7:Hid (Only R w w1):=HOw.out.trans U8;have hA1:=HA.out.1.same (w':=w1) fun o=>U8.cell hgl' hgR;have hn1:=HA.out.2.same (w':=w1) fun o=>U8.cell hsz hnR;have mf:∀ o,w1.frozen? ⟨w.heap.size,o,none⟩=false:=fun o=>by rw [U8.frozen hsz hnR];exact hnf o
  have gf:∀ o,w1.frozen? ⟨g,o,none⟩=false:=fun o=>by rw [U8.frozen hgl' hgR];exact hgf' o
  have hs1:w.heap.size<w1.heap.size:=Uc hsz U8.size;have hg1:g<w1.heap.size:=Uc hgl' U8.size;have hR1l:R<w1.heap.size:=Vh.lt;have hgn:g≠w.heap.size:=by omega
  clear hnf hgf' Vh U8 HR HOw HA;cases x;case false=>
   obtain ⟨ca,cb,cc,cd,ce⟩:=hA1;obtain ⟨na,nb,nc,nd,ne⟩:=hn1;go_wp2;exact bodyPost_ret (v:=.agg #[.string y.a,.string y.b,.string y.r,.string y.c,.string y.d]) (by simp [results,Tryz.results50,go_sem, *]) rfl ⟨⟨y,rfl,HY.out⟩,((((HR1.out.setFar hnR (FAR.out _ (Ue _))).setFar hnR (FAR.out _ (Ue _))).setFar hnR (FAR.out _ (Ue _))).setFar hnR (FAR.out _ (Ue _))).setFar hnR (FAR.out _ (Ue _)),((((U7.out.setNew (Ue _)).setNew (Ue _)).setNew (Ue _)).setNew (Ue _)).setNew (Ue _)⟩
  go_wp2_with fail;refine (bY R ad len cap 2 _ (HR1.out.below ((Uf _ _).alloc (Ue _) _)) (by omega) (by omega)).mono ?_;rintro e w2 ⟨⟨x,rfl,hx0,hx1⟩,hR2,hO2⟩;have VX:Only R w1 w2:=(Only.of_below ((Uf _ _).alloc (Ue _) _)).trans hO2;have hSt:=(fC w1 R hR1l (t:=9) (xs:=[⟨#[103]⟩,⟨#[104]⟩]) (by decide)).only hO2;obtain ⟨q,rfl⟩:∃ q:Nat,x=(q:Int):=⟨x.toNat,by omega⟩;obtain ⟨t,ht,hct⟩:=hSt.2.2 q (by simp;omega);obtain ⟨ca,cb,cc,cd,ce⟩:=hA1.same (w':=w2) fun o=>VX.cell hg1 hgR;obtain ⟨na,nb,nc,nd,ne⟩:=hn1.same (w':=w2) fun o=>VX.cell hs1 hnR;have kf:∀ o,w2.frozen? ⟨w.heap.size,o,none⟩=false:=fun o=>by rw [VX.frozen hs1 hnR];exact mf o
  have kg:∀ o,w2.frozen? ⟨g,o,none⟩=false:=fun o=>by rw [VX.frozen hg1 hgR];exact gf o
  have HR2:=aA hR2;have UN:Hid (Only R w w2):=U7.out.trans VX;clear hR2 hO2 VX hSt mf gf hA1 hn1 HR1 U7;go_wp2;exact bodyPost_ret (v:=.agg #[.string ⟨#[103,114,111,117,112]⟩,.string t,.string ⟨#[109,101,109,98,101,114]⟩,.string y.c,.string y.d]) (by simp [results,Tryz.results50,go_sem, *]) rfl ⟨⟨⟨_,t,_,y.c,y.d⟩,rfl,(by simp only;decide),ht,(by simp only;decide),HY.out.2.2.2.1,HY.out.2.2.2.2⟩,(((((((HR2.out.setFar hgR (FAR.out _ (by omega))).setFar hgR (FAR.out _ (by omega))).setFar hgR (FAR.out _ (by omega))).setFar hnR (FAR.out _ (Ue _))).setFar hnR (FAR.out _ (Ue _))).setFar hnR (FAR.out _ (Ue _))).setFar hnR (FAR.out _ (Ue _))).setFar hnR (FAR.out _ (Ue _)),(((((((UN.out.setNew (by omega)).setNew (by omega)).setNew (by omega)).setNew (Ue _)).setNew (Ue _)).setNew (Ue _)).setNew (Ue _)).setNew (Ue _)⟩
open Go.Maps
set_option linter.unusedVariables false
set_option maxRecDepth 100000
theorem oG {w w':af}{base:Nat}{e:TypeId}{size:Nat}{v:Value}{n:Nat}{xs:List Value}(h:w.ownsRow base e size v n xs)(hh:∀ g,v.ownBlock=some g->w'.heap[g]?=w.heap[g]?):w'.ownsRow base e size v n xs:=by
 refine ⟨h.1,?_⟩;rcases h.2 with hl|⟨g,cap,cur,rfl,h1,h2,h3⟩
 ·exact .inl hl
 exact .inr ⟨g,cap,cur,rfl,h1,(hh g rfl).trans h2,h3⟩
theorem Ba {w:af}{base size n:Nat}{e:TypeId}{v:Value}{xs:List Value}(h:w.ownsRow base e size v n xs):∃ ad cap,v=.slice ad n cap:=by
 rcases h.2 with ⟨rfl,h0⟩|⟨g,cap,cur,rfl,-⟩
 ·exact ⟨none,0,by rw [h0]⟩
 exact ⟨_,_,rfl⟩
theorem Dt {w:af}{base size n cap:Nat}{e:TypeId}{ad:Option Addr}{xs:List Value}(h:w.ownsRow base e size (.slice ad n cap) n xs)(hn:n≠0):∃ g,ad=some ⟨g,0,none⟩/\(Value.slice ad n cap).ownBlock=some g:=by
 rcases h.2 with ⟨-,h0⟩|⟨g,cap',cur,e1,-⟩
 ·exact absurd h0 hn
 injection e1 with e1;exact ⟨g,e1,by rw [e1];rfl⟩
theorem xh {w:af}{base base' size n:Nat}{e:TypeId}{v:Value}{xs:List Value}(h:w.ownsRow base e size v n xs)(hb:base'<=base):w.ownsRow base' e size v n xs:=by
 refine ⟨h.1,?_⟩;rcases h.2 with hl|⟨g,cap,cur,e,h1,h2⟩
 ·exact .inl hl
 exact .inr ⟨g,cap,cur,e,Uk hb h1,h2⟩
theorem Q3 {w:af}{base size n cap:Nat}{e:TypeId}{ad:Option Addr}{xs:List Value}(h:w.ownsRow base e size (.slice ad n cap) n xs):n<=cap:=by
 rcases h.2 with ⟨e1,h0⟩|⟨g,cap',cur,e1,-,-,hnc,-⟩
 ·injection e1 with _ e2 e3;omega
 injection e1 with _ e2 e3;omega
theorem JA (xs:List Fc):∀ p,aI (xs.take p)=(aI xs).take (p*5):=by
 induction xs with
 | nil=>intro p;simp [aI]
 | cons x xs ih =>
  intro p;cases p with
  | zero=>simp [aI]
  | succ p =>
   have ih:=ih p;unfold aI at ih ⊢;rw [List.take_succ_cons,List.flatMap_cons,List.flatMap_cons,ih,show (p+1)*5=p*5+1+1+1+1+1 by omega];simp [Fc.row]
theorem JB (xs:List Fc):∀ p,aI (xs.drop p)=(aI xs).drop (p*5):=by
 induction xs with
 | nil=>intro p;simp [aI]
 | cons x xs ih =>
  intro p;cases p with
  | zero=>simp [aI]
  | succ p =>
   have ih:=ih p;unfold aI at ih ⊢;rw [List.drop_succ_cons,List.flatMap_cons,ih,show (p+1)*5=p*5+1+1+1+1+1 by omega];simp [Fc.row]
theorem Bb {w:af}{base g n cap:Nat}{xs:List Fc}(h:w.ownsRow base 29 5 (.slice (some ⟨g,0,none⟩) n cap) n (aI xs))(p:Nat)(hp:p<=n):∀ j u,(aI (xs.take p))[j]?=some u->w.cell? ((⟨g,0,none⟩:Addr).add j)=some u:=fun j u hu=>by
 rw [JA,List.getElem?_take]at hu;split at hu
 ·rename_i hj;have:=h.cellAt j (by omega);rw [hu]at this;have e:(⟨g,0,none⟩:Addr).add j=⟨g,j,none⟩:=by unfold Addr.add;split <;> simp_all
  rw [e];exact this
 cases hu
theorem JC {w:af}{base g n cap:Nat}{xs:List Fc}(h:w.ownsRow base 29 5 (.slice (some ⟨g,0,none⟩) n cap) n (aI xs))(p:Nat)(hp:p<=n):∀ j u,(aI (xs.drop p))[j]?=some u->w.cell? ((⟨g,p*5,none⟩:Addr).add j)=some u:=fun j u hu=>by
 rw [JB,List.getElem?_drop]at hu;have hl:=h.1;have hj:p*5+j<n*5:=by
  rw [<-hl];exact (List.getElem?_eq_some_iff.1 hu).1
 have:=h.cellAt (p*5+j) hj;rw [hu]at this;have e:(⟨g,p*5,none⟩:Addr).add j=⟨g,p*5+j,none⟩:=by unfold Addr.add;split <;> simp_all
 rw [e];exact this
theorem vS (xs:List Fc):∀ u∈aI xs,u.oneCell'=true:=fun u hu=>by
 obtain ⟨q,-,h⟩:=Ut.1 hu;simp only [Fc.row,List.mem_cons,List.not_mem_nil,or_false]at h;rcases h with rfl|rfl|rfl|rfl|rfl <;> rfl
theorem JD {w:af}{a:Addr}{xs:List Fc}(h:xs=[]):∀ j u,(aI xs)[j]?=some u->w.cell? (a.add j)=some u:=fun j u hu=>by
 rw [h]at hu;simp [aI]at hu
def oH (x y:Fc):Bool:=fT x.a x.b x.r x.c x.d ⟨#[]⟩ y.a y.b y.r y.c y.d ⟨#[]⟩
theorem KA {w W w':af}{n m i0 i1 i2 i3 i4 j0 j1 j2 j3 j4:Nat}{x0 x1 x2 x3 x4 y0 y1 y2 y3 y4:Value}(h:W.cell? ⟨n,i0,none⟩=some x0/\W.cell? ⟨n,i1,none⟩=some x1/\W.cell? ⟨n,i2,none⟩=some x2/\W.cell? ⟨n,i3,none⟩=some x3/\W.cell? ⟨n,i4,none⟩=some x4/\W.cell? ⟨m,j0,none⟩=some y0/\W.cell? ⟨m,j1,none⟩=some y1/\W.cell? ⟨m,j2,none⟩=some y2/\W.cell? ⟨m,j3,none⟩=some y3/\W.cell? ⟨m,j4,none⟩=some y4/\ag w W)(hb:ag W w'):w'.cell? ⟨n,i0,none⟩=some x0/\w'.cell? ⟨n,i1,none⟩=some x1/\w'.cell? ⟨n,i2,none⟩=some x2/\w'.cell? ⟨n,i3,none⟩=some x3/\w'.cell? ⟨n,i4,none⟩=some x4/\w'.cell? ⟨m,j0,none⟩=some y0/\w'.cell? ⟨m,j1,none⟩=some y1/\w'.cell? ⟨m,j2,none⟩=some y2/\w'.cell? ⟨m,j3,none⟩=some y3/\w'.cell? ⟨m,j4,none⟩=some y4/\ag w w':=by
 obtain ⟨h0,h1,h2,h3,h4,k0,k1,k2,k3,k4,hB⟩:=h;exact ⟨bC hb (aG h0) h0,bC hb (aG h1) h1,bC hb (aG h2) h2,bC hb (aG h3) h3,bC hb (aG h4) h4,bC hb (aG k0) k0,bC hb (aG k1) k1,bC hb (aG k2) k2,bC hb (aG k3) k3,bC hb (aG k4) k4,hB.trans (hb.mono hB.size)⟩
theorem JE (ad:Option Addr)(cap:Nat)(rows:List Fc)(w:af)(hlen:rows.length<=1048576)(hs:BA w ad rows)(hfit:∀ x∈rows,x.fits) :
  Calls prog 89 #[.slice ad rows.length cap] w fun e w'=>(∃ v:Value,e=.returned v/\w'.ownsRow w.heap.size 29 5 v rows.length (aI (kv oH rows)))/\ag w w':=by
 obtain ⟨iR,Zj,zR0,zR1,zR2⟩:=EH;have VN:Hid (prog.info? 29=some iR/\iR.zero=some (.agg #[.string ⟨#[]⟩,.string ⟨#[]⟩,.string ⟨#[]⟩,.string ⟨#[]⟩,.string ⟨#[]⟩])/\iR.size=5/\iR.bytes=80):=⟨Zj,zR0,zR1,zR2⟩;have HS:=aD hs;have UY:=aD hfit;clear hs hfit Zj zR0 zR1 zR2;obtain ⟨W0,hW0⟩:∃ W0,W0=w.alloc (.cells #[] 29):=⟨_,rfl⟩;have HB0:=rV hW0;have Wn:Hid (W0.ownsRow w.heap.size 29 5 (.slice (some ⟨w.heap.size,0,none⟩) 0 0) 0 []):=by
  show World.ownsRow _ _ _ _ _ _ _;rw [hW0];exact World.ownsRow_lit w #[] 0 (Ue _) (by unfold maxLen;omega) (by simp)
 go_enter func89,ntmps89;go_wp2_with fail;rw [<-hW0];clear hW0;go_loopw [3,4] (fun v i wr=>∃ (k g c:Nat),k<=rows.length/\i=.int .i64 k/\v=.slice (some ⟨g,0,none⟩) k c/\Hid (wr.ownsRow w.heap.size 29 5 (.slice (some ⟨g,0,none⟩) k c) k (aI (kv oH (rows.take k))))/\Hid (ag w wr)) (fun _ i _=>rows.length-(intOf i).toNat);case atStart=>exact ⟨0,w.heap.size,0,Ui _,rfl,rfl,Wn,HB0⟩
 clear Wn HB0;obtain ⟨k,g,c,hk,rfl,rfl,HO,HB⟩:=hrel;by_cases hlt:k<rows.length
 ·obtain ⟨acc,hacc⟩:∃ acc,acc=kv oH (rows.take k):=⟨_,rfl⟩;obtain ⟨b,off,UT,hrow,hbl⟩:∃ b off,ad=some ⟨b,off,none⟩/\wX w b (off+k*5) rows[k]/\b<w.heap.size:=by
   rcases HS.out with h|⟨b',off',e,hb,hr⟩
   ·rw [h]at hlt;simp at hlt
   exact ⟨b',off',e,hr k hlt,hb⟩
  obtain ⟨x,hx⟩:∃ x,rows[k]=x:=⟨_,rfl⟩;have HNX:Hid (kv oH (rows.take (k+1))=qz oH x acc):=by show _=_;rw [Uh hlt,Ik,hacc,hx]
  have hal:acc.length=k:=by rw [hacc,(jb _).length_eq,UF];omega
  have XD:Hid x.fits:=by show Fc.fits x;rw [<-hx];exact UY.out _ (Ud hlt)
  have HAF:Hid (∀ z∈acc,z.fits):=fun z hz=>by
   rw [hacc]at hz;exact UY.out z (List.mem_of_mem_take ((jb _).mem_iff.1 hz))
  rw [<-hacc]at HO;rw [hx]at hrow;have U2:=aD hal;have hkc:k<=c:=Q3 HO.out;have hk1:=bF k;have hk2:(k:Int)<(rows.length:Int):=by omega
  have VE:=aD hrow;have YG:=aD hbl;obtain ⟨wo,hwo⟩:∃ wo,wo=wr:=⟨_,rfl⟩;subst hwo;subst UT;clear hacc hal hrow hbl hx;go_wp2_with fail;go_loopw [5] (fun i wr=>∃ p:Nat,p<=k/\i=.int .i64 p/\Hid (∀ (i:Nat) (h:i<acc.length),i<p->oH acc[i] x=true)/\Hid (ag wo wr)) (fun i _=>k-(intOf i).toNat);case atStart=>exact ⟨0,Ui _,rfl,fun i h hi=>absurd hi (UI _),Uf _ _⟩
  obtain ⟨p,hp,rfl,HU,HBP⟩:=hrel;have HOP:Hid (wr.ownsRow w.heap.size 29 5 (.slice (some ⟨g,0,none⟩) k c) k (aI acc)):=oG HO.out fun z hz=>HBP.out.block z (HO.out.lt z hz).2;have HBWP:Hid (ag w wr):=HB.out.trans (HBP.out.mono HB.out.size);obtain ⟨y0,y1,y2,y3,y4⟩:=VE.out.same (fun o=>HBWP.out.cell (p:=⟨b,o,none⟩) YG.out);have hbr:b<wr.heap.size:=Uc YG.out HBWP.out.size;have hgr:g<wr.heap.size:=(HOP.out.lt g rfl).2;have hp1:=bF p;by_cases hpk:p<k
  ·have hp2:(p:Int)<(k:Int):=by omega
   have hd:decide ((p:Int)<(k:Int))=true:=by simp;omega
   have hpa:p<acc.length:=by rw [U2.out];exact hpk
   obtain ⟨y,hy⟩:∃ y,acc[p]=y:=⟨_,rfl⟩;have hc5:∀ c,c<5->wr.cell? ⟨g,p*5+c,none⟩=y.row[c]?:=fun c hc=>by
    rw [HOP.out.cellAt (p*5+c) (by omega),qU acc p hpa c hc,hy]
   have s0:wr.cell? ⟨g,p*5,none⟩=some (.string y.a):=hc5 0 (by omega);have s1:wr.cell? ⟨g,p*5+1,none⟩=some (.string y.b):=hc5 1 (by omega);have s2:wr.cell? ⟨g,p*5+2,none⟩=some (.string y.r):=hc5 2 (by omega);have s3:wr.cell? ⟨g,p*5+3,none⟩=some (.string y.c):=hc5 3 (by omega);have s4:wr.cell? ⟨g,p*5+4,none⟩=some (.string y.d):=hc5 4 (by omega);have hyf:y.fits:=by rw [<-hy];exact HAF.out _ (Ud hpa)
   have HC:Hid (∀ W':World,Calls prog 130 #[.agg #[.string y.a,.string y.b,.string y.r,.string y.c,.string y.d],.agg #[.string x.a,.string x.b,.string x.r,.string x.c,.string x.d]] W' fun e w'=>e=.returned (.bool (oH y x))/\ag W' w'):=fun W'=>vv _ _ _ _ _ _ _ _ _ _ W' hyf.1 hyf.2.1 hyf.2.2.1 hyf.2.2.2.1 hyf.2.2.2.2 XD.out.1 XD.out.2.1 XD.out.2.2.1 XD.out.2.2.2.1 XD.out.2.2.2.2;clear hc5 hyf;have HYE:=aD hy;clear hy;have hbp:=HBP.out;cases hq:oH y x;case true=>
    have YO:Hid (∀ (i:Nat) (h:i<acc.length),i<p+1->oH acc[i] x=true):=fun i h hi=>by
     by_cases e:i=p
     ·subst e;rw [HYE.out];exact hq
     exact HU.out i h (by omega)
    rw [hq]at HC;clear hq;go_wp2_with fail
    go_region_held3 (fun w'=>w'.cell? ⟨g,p*5,none⟩=some (.string y.a)/\w'.cell? ⟨g,p*5+1,none⟩=some (.string y.b)/\w'.cell? ⟨g,p*5+2,none⟩=some (.string y.r)/\w'.cell? ⟨g,p*5+3,none⟩=some (.string y.c)/\w'.cell? ⟨g,p*5+4,none⟩=some (.string y.d)/\w'.cell? ⟨b,off+k*5,none⟩=some (.string x.a)/\w'.cell? ⟨b,off+k*5+1,none⟩=some (.string x.b)/\w'.cell? ⟨b,off+k*5+2,none⟩=some (.string x.r)/\w'.cell? ⟨b,off+k*5+3,none⟩=some (.string x.c)/\w'.cell? ⟨b,off+k*5+4,none⟩=some (.string x.d)/\ag wo w')
     (first|assumption|exact KA (by assumption) hbx|exact ⟨s0,s1,s2,s3,s4,y0,y1,y2,y3,y4,hbp.drew⟩)
     (first|(go_at_call 130;refine (HC.out _).mono ?_;rintro e w' ⟨rfl,hbx⟩))
    rename_i hJ;have HJB:=aD hJ.2.2.2.2.2.2.2.2.2.2;have XU:Hid (wr.heap.size<=w'.heap.size):=by show _<=_;exact Uk (by first|exact Ue _|simp) hbx.size
    clear hJ s0 s1 s2 s3 s4 y0 y1 y2 y3 y4 hd;go_wp2;go_roundw;case rel=>exact ⟨p+1,by omega,by go_num,YO,HJB⟩
    simp [intOf] <;> omega
   have HPT:Hid (qz oH x acc=acc.take p++x::acc.drop p):=Eb (by rw [U2.out];exact hp) HU.out (fun _=>by rw [HYE.out];exact hq);rw [hq]at HC;clear hq;go_wp2_with fail
   go_region_held3 (fun w'=>w'.cell? ⟨g,p*5,none⟩=some (.string y.a)/\w'.cell? ⟨g,p*5+1,none⟩=some (.string y.b)/\w'.cell? ⟨g,p*5+2,none⟩=some (.string y.r)/\w'.cell? ⟨g,p*5+3,none⟩=some (.string y.c)/\w'.cell? ⟨g,p*5+4,none⟩=some (.string y.d)/\w'.cell? ⟨b,off+k*5,none⟩=some (.string x.a)/\w'.cell? ⟨b,off+k*5+1,none⟩=some (.string x.b)/\w'.cell? ⟨b,off+k*5+2,none⟩=some (.string x.r)/\w'.cell? ⟨b,off+k*5+3,none⟩=some (.string x.c)/\w'.cell? ⟨b,off+k*5+4,none⟩=some (.string x.d)/\ag wo w')
    (first|assumption|exact KA (by assumption) hbx|exact ⟨s0,s1,s2,s3,s4,y0,y1,y2,y3,y4,hbp.drew⟩)
    (first|(go_at_call 130;refine (HC.out _).mono ?_;rintro e w' ⟨rfl,hbx⟩))
   rename_i hJ;have HJB:=aD hJ.2.2.2.2.2.2.2.2.2.2;have XU:Hid (wr.heap.size<=w'.heap.size):=by show _<=_;exact Uk (by first|exact Ue _|simp) hbx.size
   obtain ⟨X,hX⟩:∃ X,w'=X:=⟨_,rfl⟩;subst hX;have Vg:=aA HJB;have HSX:Hid (wr.heap.size<=w'.heap.size):=by show _<=_;exact XU.out
   clear hJ s0 s1 s2 s3 s4 hd HC HYE hbp HJB XU;clear y0 y1 y2 y3 y4 hbr HOP HBWP HBP HU;obtain ⟨W1,hW1⟩:∃ W1,W1=w'.alloc (.cells #[] 29):=⟨_,rfl⟩;have Vv:Hid (W1.ownsRow w'.heap.size 29 5 (.slice (some ⟨w'.heap.size,0,none⟩) 0 0) 0 []):=by
    show World.ownsRow _ _ _ _ _ _ _;rw [hW1];exact World.ownsRow_lit w' #[] 0 (Ue _) (by unfold maxLen;omega) (by simp)
   have HB1:=rV hW1;have ZL:Hid (ag wo W1):=Vg.out.trans (HB1.out.mono Vg.out.size);have HR1:Hid (W1.ownsRow w.heap.size 29 5 (.slice (some ⟨g,0,none⟩) k c) k (aI acc)):=oG HO.out fun z hz=>ZL.out.block z (HO.out.lt z hz).2;have hz1:w'.heap.size<=W1.heap.size:=HB1.out.size;have hgX:g<w'.heap.size:=Uc (HO.out.lt g rfl).2 Vg.out.size;have hpc:p<=c:=by omega
   go_wp2_with (at_builtin;go_must (rw [<-hW1];clear hW1;refine wpList_append_own_at _ rfl _ _ 40 rfl w'.heap.size 29 iR (.agg #[.string ⟨#[]⟩,.string ⟨#[]⟩,.string ⟨#[]⟩,.string ⟨#[]⟩,.string ⟨#[]⟩]) 5 80 underlying40 VN.out.1 VN.out.2.1 VN.out.2.2.1 VN.out.2.2.2 rfl (by decide) _ 0 [] rfl Vv.out ⟨g,0,none⟩ p c (aI (acc.take p)) rfl (by rw [lG,UF];congr 1;have:=U2.out;omega) (Bb HR1.out p hp) (vS _) (by unfold maxLen;omega) (by omega) hz1 ?_));intro v2 w2 hown2 Vd _ _;have UN:Hid (w2.ownsRow w'.heap.size 29 5 v2 p (aI (acc.take p))):=by
    show World.ownsRow _ _ _ _ _ _ _
    first|exact hown2|(rw [Uz,List.nil_append]at hown2;exact hown2)|simpa using hown2
   have HB2:Hid (ag w' w2):=HB1.out.grown Vd HB1.out.size (fun z hz=>by simp [Value.ownBlock]at hz;omega);have hz2:w'.heap.size<=w2.heap.size:=HB2.out.size;have Xu:Hid (ag w w2):=(HB.out.trans (Vg.out.mono HB.out.size)).trans (HB2.out.mono (Uk HB.out.size Vg.out.size));obtain ⟨y0,y1,y2,y3,y4⟩:=VE.out.same (fun o=>Xu.out.cell (p:=⟨b,o,none⟩) YG.out);have hbr:b<w2.heap.size:=Uc YG.out Xu.out.size;obtain ⟨W3,hW3⟩:∃ W3,W3=w2.alloc (.cells #[.string x.a,.string x.b,.string x.r,.string x.c,.string x.d] 29):=⟨_,rfl⟩;have U9:Hid (W3.ownsRow w'.heap.size 29 5 v2 p (aI (acc.take p))):=by show World.ownsRow _ _ _ _ _ _ _;rw [hW3];exact UN.out.alloc _
   have WB:Hid (∀ j u,x.row[j]?=some u->W3.cell? ((⟨w2.heap.size,0,none⟩:Addr).add j)=some u):=by show ∀ j u,_;rw [hW3];exact Kz w2 x
   have HB3:Hid (ag w' W3):=by show Below _ _ _;rw [hW3];exact HB2.out.alloc HB2.out.size _
   have hz3:w'.heap.size<=W3.heap.size:=HB3.out.size;clear hown2 Vd Vv HB1 ZL HR1 hz1;go_wp2_with (at_builtin;go_must (rw [<-hW3];clear hW3;refine wpList_append_own_at _ rfl _ _ 40 rfl w'.heap.size 29 iR (.agg #[.string ⟨#[]⟩,.string ⟨#[]⟩,.string ⟨#[]⟩,.string ⟨#[]⟩,.string ⟨#[]⟩]) 5 80 underlying40 VN.out.1 VN.out.2.1 VN.out.2.2.1 VN.out.2.2.2 rfl (by decide) v2 p (aI (acc.take p)) rfl U9.out ⟨w2.heap.size,0,none⟩ 1 1 x.row rfl rfl WB.out (by simp [Fc.row,Value.oneCell']) (by unfold maxLen;omega) (by omega) hz3 ?_));intro v4 w4 Ve VF _ _;have U4:=aA Ve;have Vx:Hid (ag w' w4):=HB3.out.grown VF HB3.out.size (fun z hz=>(UN.out.lt z hz).1);have XF:w'.heap.size<=w4.heap.size:=Vx.out.size;have HBO4:Hid (ag wo w4):=Vg.out.trans (Vx.out.mono Vg.out.size);have HR4:Hid (w4.ownsRow w.heap.size 29 5 (.slice (some ⟨g,0,none⟩) k c) k (aI acc)):=oG HO.out fun z hz=>HBO4.out.block z (HO.out.lt z hz).2;clear Ve VF U9 UN WB HB3 hz3 HB2 hz2 Xu y0 y1 y2 y3 y4 hbr;go_wp2_with (at_builtin;go_must (refine wpList_append_own_at _ rfl _ _ 40 rfl w'.heap.size 29 iR (.agg #[.string ⟨#[]⟩,.string ⟨#[]⟩,.string ⟨#[]⟩,.string ⟨#[]⟩,.string ⟨#[]⟩]) 5 80 underlying40 VN.out.1 VN.out.2.1 VN.out.2.2.1 VN.out.2.2.2 rfl (by decide) v4 (p+1) (aI (acc.take p)++x.row) rfl U4.out ⟨g,p*5,none⟩ (k-p) (c-p) (aI (acc.drop p)) rfl (by rw [lG,List.length_drop];have:=U2.out;congr 1;omega) (JC HR4.out p hp) (vS _) (by unfold maxLen;omega) (by omega) XF ?_));intro v5 w5 hown5 hgr5 _ _;have Zm:p+1+(k-p)=k+1:=by omega
   have V9:Hid (ag w' w5):=Vx.out.grown hgr5 Vx.out.size (fun z hz=>(U4.out.lt z hz).1);have hown6:w5.ownsRow w'.heap.size 29 5 v5 (k+1) (aI (kv oH (rows.take (k+1)))):=by
    rw [HNX.out,HPT.out,aI,List.flatMap_append,List.flatMap_cons,<-Zm];exact hown5
   obtain ⟨ad5,c5,rfl⟩:=Ba hown6;obtain ⟨g5,rfl,-⟩:=Dt hown6 (Nat.succ_ne_zero _);have Vw:=aD (xh hown6 (Uk HB.out.size Vg.out.size));have Xa:Hid (ag w w5):=(HB.out.trans (Vg.out.mono HB.out.size)).trans (V9.out.mono (Uk HB.out.size Vg.out.size));clear hown5 hown6 hgr5 Zm;go_wp2;go_roundw;case rel=>exact ⟨k+1,g5,c5,by omega,by go_num,by first|rfl|simp,Vw,Xa⟩
   simp [intOf] <;> omega
  have hd:decide ((p:Int)<(k:Int))=false:=by simp;omega
  have hpe:¬ (p:Int)<(k:Int):=by omega
  have HPT:Hid (qz oH x acc=acc.take p++x::acc.drop p):=Eb (by rw [U2.out];exact hp) HU.out (fun h=>absurd (by rw [U2.out]at h;exact h) hpk);go_wp2_with fail;go_quiet (fail);clear hd hpe;obtain ⟨X,hX⟩:∃ X,wr.drewN nq=X:=⟨_,rfl⟩;have Vg:Hid (ag wo X):=by show Below _ _ _;rw [<-hX];exact below_drewN HBP.out _
  have HSX:Hid (wr.heap.size<=X.heap.size):=by show _<=_;rw [<-hX];exact Ue _
  rw [hX];clear hX y0 y1 y2 y3 y4 hbr HOP HBWP HBP HU;obtain ⟨W1,hW1⟩:∃ W1,W1=X.alloc (.cells #[] 29):=⟨_,rfl⟩;have Vv:Hid (W1.ownsRow X.heap.size 29 5 (.slice (some ⟨X.heap.size,0,none⟩) 0 0) 0 []):=by
   show World.ownsRow _ _ _ _ _ _ _;rw [hW1];exact World.ownsRow_lit X #[] 0 (Ue _) (by unfold maxLen;omega) (by simp)
  have HB1:=rV hW1;have ZL:Hid (ag wo W1):=Vg.out.trans (HB1.out.mono Vg.out.size);have HR1:Hid (W1.ownsRow w.heap.size 29 5 (.slice (some ⟨g,0,none⟩) k c) k (aI acc)):=oG HO.out fun z hz=>ZL.out.block z (HO.out.lt z hz).2;have hz1:X.heap.size<=W1.heap.size:=HB1.out.size;have hgX:g<X.heap.size:=Uc (HO.out.lt g rfl).2 Vg.out.size;have hpc:p<=c:=by omega
  go_wp2_with (at_builtin;go_must (rw [<-hW1];clear hW1;refine wpList_append_own_at _ rfl _ _ 40 rfl X.heap.size 29 iR (.agg #[.string ⟨#[]⟩,.string ⟨#[]⟩,.string ⟨#[]⟩,.string ⟨#[]⟩,.string ⟨#[]⟩]) 5 80 underlying40 VN.out.1 VN.out.2.1 VN.out.2.2.1 VN.out.2.2.2 rfl (by decide) _ 0 [] rfl Vv.out ⟨g,0,none⟩ p c (aI (acc.take p)) rfl (by rw [lG,UF];congr 1;have:=U2.out;omega) (Bb HR1.out p hp) (vS _) (by unfold maxLen;omega) (by omega) hz1 ?_));intro v2 w2 hown2 Vd _ _;have UN:Hid (w2.ownsRow X.heap.size 29 5 v2 p (aI (acc.take p))):=by
   show World.ownsRow _ _ _ _ _ _ _
   first|exact hown2|(rw [Uz,List.nil_append]at hown2;exact hown2)|simpa using hown2
  have HB2:Hid (ag X w2):=HB1.out.grown Vd HB1.out.size (fun z hz=>by simp [Value.ownBlock]at hz;omega);have hz2:X.heap.size<=w2.heap.size:=HB2.out.size;have Xu:Hid (ag w w2):=(HB.out.trans (Vg.out.mono HB.out.size)).trans (HB2.out.mono (Uk HB.out.size Vg.out.size));obtain ⟨y0,y1,y2,y3,y4⟩:=VE.out.same (fun o=>Xu.out.cell (p:=⟨b,o,none⟩) YG.out);have hbr:b<w2.heap.size:=Uc YG.out Xu.out.size;obtain ⟨W3,hW3⟩:∃ W3,W3=w2.alloc (.cells #[.string x.a,.string x.b,.string x.r,.string x.c,.string x.d] 29):=⟨_,rfl⟩;have U9:Hid (W3.ownsRow X.heap.size 29 5 v2 p (aI (acc.take p))):=by show World.ownsRow _ _ _ _ _ _ _;rw [hW3];exact UN.out.alloc _
  have WB:Hid (∀ j u,x.row[j]?=some u->W3.cell? ((⟨w2.heap.size,0,none⟩:Addr).add j)=some u):=by show ∀ j u,_;rw [hW3];exact Kz w2 x
  have HB3:Hid (ag X W3):=by show Below _ _ _;rw [hW3];exact HB2.out.alloc HB2.out.size _
  have hz3:X.heap.size<=W3.heap.size:=HB3.out.size;clear hown2 Vd Vv HB1 ZL HR1 hz1;go_wp2_with (at_builtin;go_must (rw [<-hW3];clear hW3;refine wpList_append_own_at _ rfl _ _ 40 rfl X.heap.size 29 iR (.agg #[.string ⟨#[]⟩,.string ⟨#[]⟩,.string ⟨#[]⟩,.string ⟨#[]⟩,.string ⟨#[]⟩]) 5 80 underlying40 VN.out.1 VN.out.2.1 VN.out.2.2.1 VN.out.2.2.2 rfl (by decide) v2 p (aI (acc.take p)) rfl U9.out ⟨w2.heap.size,0,none⟩ 1 1 x.row rfl rfl WB.out (by simp [Fc.row,Value.oneCell']) (by unfold maxLen;omega) (by omega) hz3 ?_));intro v4 w4 Ve VF _ _;have U4:=aA Ve;have Vx:Hid (ag X w4):=HB3.out.grown VF HB3.out.size (fun z hz=>(UN.out.lt z hz).1);have XF:X.heap.size<=w4.heap.size:=Vx.out.size;have HBO4:Hid (ag wo w4):=Vg.out.trans (Vx.out.mono Vg.out.size);have HR4:Hid (w4.ownsRow w.heap.size 29 5 (.slice (some ⟨g,0,none⟩) k c) k (aI acc)):=oG HO.out fun z hz=>HBO4.out.block z (HO.out.lt z hz).2;clear Ve VF U9 UN WB HB3 hz3 HB2 hz2 Xu y0 y1 y2 y3 y4 hbr;obtain rfl:p=k:=by omega
  have Y8:Hid (acc.drop p=[]):=List.drop_of_length_le (by rw [U2.out];exact Ue _);by_cases hce:c=p
  all_goals
   go_wp2_with (at_builtin;go_must (refine wpList_append_own_at _ rfl _ _ 40 rfl X.heap.size 29 iR (.agg #[.string ⟨#[]⟩,.string ⟨#[]⟩,.string ⟨#[]⟩,.string ⟨#[]⟩,.string ⟨#[]⟩]) 5 80 underlying40 VN.out.1 VN.out.2.1 VN.out.2.2.1 VN.out.2.2.2 rfl (by decide) v4 (p+1) (aI (acc.take p)++x.row) rfl U4.out _ 0 _ (aI (acc.drop p)) rfl (by rw [Y8.out];rfl) (JD Y8.out) (vS _) (by unfold maxLen;omega) (by omega) XF ?_));intro v5 w5 hown5 hgr5 _ _;have Zm:p+1+0=p+1:=rfl;have V9:Hid (ag X w5):=Vx.out.grown hgr5 Vx.out.size (fun z hz=>(U4.out.lt z hz).1);have hown6:w5.ownsRow X.heap.size 29 5 v5 (p+1) (aI (kv oH (rows.take (p+1)))):=by
    rw [HNX.out,HPT.out,aI,List.flatMap_append,List.flatMap_cons,<-Zm];exact hown5
   obtain ⟨ad5,c5,rfl⟩:=Ba hown6;obtain ⟨g5,rfl,-⟩:=Dt hown6 (Nat.succ_ne_zero _);have Vw:=aD (xh hown6 (Uk HB.out.size Vg.out.size));have Xa:Hid (ag w w5):=(HB.out.trans (Vg.out.mono HB.out.size)).trans (V9.out.mono (Uk HB.out.size Vg.out.size));clear hown5 hown6 hgr5 Zm;go_wp2;go_roundw;case rel=>exact ⟨p+1,g5,c5,by omega,by go_num,by first|rfl|simp,Vw,Xa⟩
   simp [intOf] <;> omega
 obtain rfl:k=rows.length:=by omega
 have HE:Hid (wr.ownsRow w.heap.size 29 5 (.slice (some ⟨g,0,none⟩) rows.length c) rows.length (aI (kv oH rows))):=by have h:=HO.out;rw [Us]at h;exact h
 go_wp2;go_ret;exact ⟨⟨_,rfl,HE.out⟩,HB.out⟩
theorem Bc {es:List Ex}:∀ (ks:List Int) (a b j:Nat),qA es ks a b->a<=j->j<b->∃ k∈ks,az es k.toNat<=(j:Int)/\j<=k.toNat/\(a:Int)<=az es k.toNat
 | [],a,b,j,h,h1,h2=>by
  have:a=b:=h;omega
 | x::ks,a,b,j,h,h1,h2=>by
  obtain ⟨h3,h4,h5⟩:=h;by_cases hj:j<=x.toNat
  ·exact ⟨x,by simp,by omega,hj,by omega⟩
  obtain ⟨k,hk,e1,e2,e3⟩:=Bc ks _ b j h5 (by omega) h2;have:=iE es x.toNat;exact ⟨k,by simp [hk],e1,e2,by omega⟩
theorem Bd {es:List Ex}:∀ (ks:List Int) (a b:Nat),qA es ks a b->∀ k∈ks,a<=k.toNat
 | [],_,_,_,k,hk=>by cases hk
 | x::ks,a,b,h,k,hk=>by
  obtain ⟨h3,h4,h5⟩:=h;have:=iE es x.toNat;rcases List.mem_cons.1 hk with rfl|hk
  ·omega
  have:=Bd ks _ b h5 k hk;omega
theorem qV {es:List Ex}:∀ (ks:List Int) (a b:Nat),qA es ks a b->∀ (p:Nat) (hp:p<ks.length),qA es (ks.drop (p+1)) (ks[p].toNat+1) b/\0<=ks[p]
 | [],_,_,_,p,hp=>by simp at hp
 | x::ks,a,b,h,0,_=>⟨h.2.2,h.1⟩
 | x::ks,a,b,h,p+1,hp=>by
  have:=qV ks _ b h.2.2 p (by simpa using hp);simpa using this
theorem Mw {es:List Ex}(ht:∀ j,j<es.length->0<=az es j):∀ (n:Nat),n<es.length->∀ j:Nat,az es n<=(j:Int)->j<=n->az es n<=az es j:=by
 intro n
 induction n using Nat.strongRecOn with
 | _ n ih =>
  intro hn j h1 h2;by_cases e:j=n
  ·rw [e];exact Int.le_refl _
  have hc:=nQ (ht n hn);obtain ⟨k,hk,e1,e2,e3⟩:=Bc _ _ _ j hc (by have:=ht n hn;omega) (by omega);have hlt:=(nR _ _ _ hc).2 k hk;have:=ih k.toNat hlt.2 (by omega) j e1 e2;have:=ht n hn;omega
theorem JF {es:List Ex}(ht:∀ j,j<es.length->0<=az es j){i j:Nat}(hi:i<es.length)(hj:j<i){x y:Int}(hx:x∈dx es i)(hy:y∈dx es j):x.toNat≠y.toNat:=by
 intro e;have ci:=nQ (ht i hi);have cj:=nQ (ht j (by omega));obtain ⟨p,hp,rfl⟩:=UE hx;obtain ⟨h1,h2⟩:=qV _ _ _ ci p hp;have hyj:=(nR _ _ _ cj).2 y hy;have hyg:=Bd _ _ _ cj y hy;obtain ⟨k,hk,e1,e2,e3⟩:=Bc _ _ _ j h1 (by omega) hj;have hk2:=(nR _ _ _ ci).2 k (List.mem_of_mem_drop hk);have:=Mw ht k.toNat (by omega) j e1 e2;have:=ht j (by omega);omega
theorem JG {es:List Ex}{i:Nat}(h:0<=az es i)(p q:Nat)(hp:p<(dx es i).length)(hq:q<(dx es i).length)(hpq:p<q):(dx es i)[p].toNat<(dx es i)[q].toNat:=by
 have h1:=(qV _ _ _ (nQ h) p hp).1;refine Bd _ _ _ h1 _ ?_;rw [List.mem_drop_iff_getElem];exact ⟨q-(p+1),by omega,by congr 1;omega⟩
theorem jY (i:Nat)(kind:Int):∀ (xs:List Int) (k:Nat) (out:List Bool) (z:Nat),(∀ x∈xs,x.toNat≠z)->(bq i kind xs k out).getD z false=out.getD z false
 | [],_,_,_,_=>rfl
 | x::xs,k,out,z,h=>by
  rw [bq,jY i kind xs (k+1) _ z fun y hy=>h y (UC _ hy)];simp only [List.getD_eq_getElem?_getD,List.getElem?_set_ne (h x (UG ..))]
theorem Be (i:Nat)(kind:Int):∀ (xs:List Int) (k:Nat) (out:List Bool),(∀ (p q:Nat) (hp:p<xs.length) (hq:q<xs.length),p<q->xs[p].toNat≠xs[q].toNat)->(∀ x∈xs,x.toNat≠i)->(∀ x∈xs,x.toNat<out.length)->∀ (p:Nat) (hp:p<xs.length),(bq i kind xs k out).getD xs[p].toNat false=(out.getD i false || (kind==6&&(k+p)==1))
 | [],_,_,_,_,_,p,hp=>by simp at hp
 | x::xs,k,out,hd,hi,hl,p,hp=>by
  have hxi:=hi x (UG ..);have hxl:=hl x (UG ..);have hgi:(out.set x.toNat (out.getD i false || (kind==6&&k==1))).getD i false=out.getD i false:=by
   rw [List.getD_eq_getElem?_getD,List.getD_eq_getElem?_getD,List.getElem?_set_ne hxi]
  rw [bq];cases p with
  | zero =>
   rw [List.getElem_cons_zero,jY i kind xs (k+1) _ x.toNat fun y hy=>?_]
   ·rw [List.getD_eq_getElem?_getD,List.getElem?_set_self hxl];rfl
   obtain ⟨q,hq,rfl⟩:=UE hy;exact (hd 0 (q+1) (by simp) (by simpa using hq) (by omega)).symm
  | succ p =>
   have:=Be i kind xs (k+1) (out.set x.toNat (out.getD i false || (kind==6&&k==1))) (fun a b ha hb hab=>hd (a+1) (b+1) (by simpa using ha) (by simpa using hb) (by omega)) (fun y hy=>hi y (UC _ hy)) (fun y hy=>by rw [List.length_set];exact hl y (UC _ hy)) p (by simpa using hp);rw [List.getElem_cons_succ,this,hgi,show k+1+p=k+(p+1) by omega]
theorem pI (es:List Ex):∀ (m:Nat) (out:List Bool) (z:Nat),(∀ j,j<m->∀ x∈dx es j,x.toNat≠z)->(dV es m out).getD z false=out.getD z false
 | 0,_,_,_=>rfl
 | m+1,out,z,h=>by
  rw [dV,pI es m _ z fun j hj=>h j (by omega)];cases e:es[m]? with
  | none=>rfl
  | some x=>exact jY m x.kind x.kids 0 out z fun y hy=>h m (by omega) y (by unfold dx;rw [e];exact hy)
theorem vV (es:List Ex)(i:Nat):∀ (d:Nat) (out:List Bool),∃ out':List Bool,out'.length=out.length/\dV es (i+d) out=dV es i out'
 | 0,out=>⟨out,rfl,rfl⟩
 | d+1,out=>by
  obtain ⟨o',h1,h2⟩:=vV es i d (match es[i+d]? with|none=>out|some e=>bq (i+d) e.kind e.kids 0 out);refine ⟨o',?_,h2⟩;rw [h1];cases es[i+d]? with
  | none=>rfl
  | some e=>exact xH _ _ _ _ _
theorem KC {es:List Ex}(ht:∀ j,j<es.length->0<=az es j){i:Nat}(hi:i<es.length)(p:Nat)(hp:p<es[i].kids.length):(dC es).getD es[i].kids[p].toNat false=((dC es).getD i false || (es[i].kind==6&&p==1)):=by
 have hk:dx es i=es[i].kids:=by unfold dx;rw [Uj hi];rfl
 have hlow:∀ j,j<es.length->∀ x∈dx es j,x.toNat<j:=fun j hj x hx=>((nR _ _ _ (nQ (ht j hj))).2 x hx).2;obtain ⟨o',h1,h2⟩:=vV es (i+1) (es.length-(i+1)) (List.replicate es.length false);rw [show i+1+(es.length-(i+1))=es.length by omega]at h2;have hN:dC es=dV es i (bq i es[i].kind es[i].kids 0 o'):=by
  unfold dC;rw [h2,dV,Uj hi]
 have hmem:es[i].kids[p]∈dx es i:=by rw [hk];exact Ud hp
 have hA:(dC es).getD es[i].kids[p].toNat false=(bq i es[i].kind es[i].kids 0 o').getD es[i].kids[p].toNat false:=by
  rw [hN];exact pI es i _ _ fun j hj x hx e=>JF ht hi hj hmem hx e.symm
 have hB:(dC es).getD i false=o'.getD i false:=by
  rw [hN,pI es i _ i fun j hj x hx=>by have:=hlow j (by omega) x hx;omega];exact jY i _ _ 0 o' i fun x hx=>by have:=hlow i hi x (by rw [hk];exact hx);omega
 rw [hA,hB,Be i es[i].kind es[i].kids 0 o' (fun a b ha hb hab=>by
   have:=JG (ht i hi) a b (by rw [hk];exact ha) (by rw [hk];exact hb) hab;simp only [hk]at this;omega) (fun x hx=>by have:=hlow i hi x (by rw [hk];exact hx);omega) (fun x hx=>by have:=hlow i hi x (by rw [hk];exact hx);rw [h1];simp;omega) p hp,Uz]
def yB (es:List Ex)(i:Nat):Int:=if (dC es).getD i false then 1 else 0
structure NodeR (l:List Tp)(rk:Fc->Int)(es:List Ex)(f:Fc):Prop where
 ht:∀ j,j<es.length->0<=az es j
 q1:∀ i (hi:i<es.length),es[i].kind=1->∀ t∈l,(t.a.toList==f.a.toList&&t.b.toList==f.b.toList&&t.r.toList==f.r.toList)=true->t.s.toList.isEmpty=false->rk ⟨t.c,t.d,t.s,f.c,f.d⟩+yB es i<=rk f
 q2:∀ i (hi:i<es.length),es[i].kind=2->rk ⟨f.a,f.b,es[i].name,f.c,f.d⟩+yB es i<=rk f
 q3:∀ i (hi:i<es.length),es[i].kind=3->∀ t∈l,(t.a.toList==f.a.toList&&t.b.toList==f.b.toList&&t.r.toList==es[i].over.toList)=true->rk ⟨t.c,t.d,es[i].name,f.c,f.d⟩+yB es i<=rk f
 k6:∀ i (hi:i<es.length),es[i].kind=6->es[i].kids.length=2
section
variable  {l:List Tp}{rk:Fc->Int}{es:List Ex}{f:Fc}
def Du (rk:Fc->Int)(r:Int)(a b:List Fc):Prop:=∀ g:Fc,rk g<r->(g∈a ↔ g∈b)
def RZ (rk:Fc->Int)(r:Int)(a b:List Fc):Prop:=∀ g:Fc,rk g<=r->g∈a->g∈b
theorem ug {a b:List Fc}{r:Int}(h:Du rk r a b){g:Fc}(hg:rk g<r):bn a g=bn b g:=by
 rw [Bool.eq_iff_iff,dE,dE];exact h g hg
theorem uh {a b:List Fc}{r:Int}(h:RZ rk r a b){g:Fc}(hg:rk g<=r)(hh:bn a g=true):bn b g=true:=dE.2 (h g hg (dE.1 hh))
theorem EP {α:Type}{p q:α->Bool}{xs:List α}(h:∀ x∈xs,p x=q x):xs.any p=xs.any q:=by
 rw [Bool.eq_iff_iff,UA,UA];exact ⟨fun ⟨x,hx,e⟩=>⟨x,hx,by rw [<-h x hx];exact e⟩,fun ⟨x,hx,e⟩=>⟨x,hx,by rw [h x hx];exact e⟩⟩
theorem Q4 {α:Type}{p q:α->Bool}{xs:List α}(h:∀ x∈xs,p x=q x):xs.all p=xs.all q:=by
 rw [Bool.eq_iff_iff,Un,Un];exact ⟨fun e x hx=>by rw [<-h x hx];exact e x hx,fun e x hx=>by rw [h x hx];exact e x hx⟩
theorem NodeR.kid (h:NodeR l rk es f){i:Nat}(hi:i<es.length){p:Nat}(hp:p<es[i].kids.length):es[i].kids[p].toNat<es.length:=by
 have hk:dx es i=es[i].kids:=by unfold dx;rw [Uj hi];rfl
 have:=((nR _ _ _ (nQ (h.ht i hi))).2 es[i].kids[p] (by rw [hk];exact Ud hp)).2;omega
theorem NodeR.same (h:NodeR l rk es f){ta tb:List Fc}(hT:Du rk (rk f) ta tb):∀ (k:Nat) (a b:List Fc) (i:Nat),Du rk (rk f) a b->i<es.length->(dC es).getD i false=true->dz l es ta f k a i=dz l es tb f k b i
 | 0,_,_,_,_,_,_=>rfl
 | k+1,a,b,i,hS,hi,hg=>by
  have Z4:yB es i=1:=by unfold yB;rw [hg];rfl
  have Vj:∀ x∈es[i].kids,∀ a b,Du rk (rk f) a b->dz l es ta f k a x.toNat=dz l es tb f k b x.toNat:=fun x hx a b hS=>by
   obtain ⟨p,hp,rfl⟩:=UE hx;exact h.same hT k a b _ hS (h.kid hi hp) (by rw [KC h.ht hi p hp,hg];rfl)
  unfold dz;rw [Uj hi];simp only;by_cases e1:es[i].kind=1
  ·rw [if_pos e1,if_pos e1];refine EP fun t ht=>?_;cases hm:(t.a.toList==f.a.toList&&t.b.toList==f.b.toList&&t.r.toList==f.r.toList);case false=>rfl
   cases hs:t.s.toList.isEmpty;case true=>rfl
   have:=h.q1 i hi e1 t ht hm hs;simp only [Bool.false_eq_true,if_false];rw [ug hS (g:=⟨t.c,t.d,t.s,f.c,f.d⟩) (by omega)]
  rw [if_neg e1,if_neg e1];by_cases e2:es[i].kind=2
  ·rw [if_pos e2,if_pos e2];have:=h.q2 i hi e2;exact ug hS (by omega)
  rw [if_neg e2,if_neg e2];by_cases e3:es[i].kind=3
  ·rw [if_pos e3,if_pos e3];refine EP fun t ht=>?_;cases hm:(t.a.toList==f.a.toList&&t.b.toList==f.b.toList&&t.r.toList==es[i].over.toList);case false=>rfl
   have:=h.q3 i hi e3 t ht hm;rw [ug hS (g:=⟨t.c,t.d,es[i].name,f.c,f.d⟩) (by omega)]
  rw [if_neg e3,if_neg e3];by_cases e4:es[i].kind=4
  ·rw [if_pos e4,if_pos e4];exact EP fun x hx=>Vj x hx a b hS
  rw [if_neg e4,if_neg e4];by_cases e5:es[i].kind=5
  ·rw [if_pos e5,if_pos e5];exact Q4 fun x hx=>Vj x hx a b hS
  rw [if_neg e5,if_neg e5];by_cases e6:es[i].kind=6
  ·rw [if_pos e6,if_pos e6];have hl:=h.k6 i hi e6;have hx:∀ q,q<2->es[i].kids.getD q 0∈es[i].kids:=fun q hq=>by
    rw [List.getD_eq_getElem?_getD,Uj (by omega)];exact Ud _
   rw [Vj _ (hx 0 (by omega)) a b hS,Vj _ (hx 1 (by omega)) ta tb hT]
  rw [if_neg e6,if_neg e6]
theorem NodeR.more (h:NodeR l rk es f){ta tb:List Fc}(hT:Du rk (rk f) ta tb):∀ (k:Nat) (a b:List Fc) (i:Nat),Du rk (rk f) a b->RZ rk (rk f) a b->i<es.length->dz l es ta f k a i=true->dz l es tb f k b i=true
 | 0,_,_,_,_,_,_,hh=>by cases hh
 | k+1,a,b,i,hS,hM,hi,hh=>by
  have Z4:0<=yB es i:=by unfold yB;split <;> omega
  have Vj:∀ x∈es[i].kids,dz l es ta f k a x.toNat=true->dz l es tb f k b x.toNat=true:=fun x hx=>by
   obtain ⟨p,hp,rfl⟩:=UE hx;exact h.more hT k a b _ hS hM (h.kid hi hp)
  unfold dz at hh ⊢;rw [Uj hi]at hh ⊢;simp only at hh ⊢;by_cases e1:es[i].kind=1
  ·rw [if_pos e1]at hh ⊢;obtain ⟨t,ht,e⟩:=UA.1 hh;refine UA.2 ⟨t,ht,?_⟩;rw [Ug]at e ⊢;refine ⟨e.1,?_⟩;cases hs:t.s.toList.isEmpty;case true=>have:=e.2;rw [hs]at this;exact this
   have h2:=e.2;rw [hs]at h2;simp only [Bool.false_eq_true,if_false]at h2 ⊢;have:=h.q1 i hi e1 t ht e.1 hs;exact uh hM (by omega) h2
  rw [if_neg e1]at hh ⊢;by_cases e2:es[i].kind=2
  ·rw [if_pos e2]at hh ⊢;have:=h.q2 i hi e2;exact uh hM (by omega) hh
  rw [if_neg e2]at hh ⊢;by_cases e3:es[i].kind=3
  ·rw [if_pos e3]at hh ⊢;obtain ⟨t,ht,e⟩:=UA.1 hh;refine UA.2 ⟨t,ht,?_⟩;rw [Ug]at e ⊢;have:=h.q3 i hi e3 t ht e.1;exact ⟨e.1,uh hM (by omega) e.2⟩
  rw [if_neg e3]at hh ⊢;by_cases e4:es[i].kind=4
  ·rw [if_pos e4]at hh ⊢;obtain ⟨x,hx,e⟩:=UA.1 hh;exact UA.2 ⟨x,hx,Vj x hx e⟩
  rw [if_neg e4]at hh ⊢;by_cases e5:es[i].kind=5
  ·rw [if_pos e5]at hh ⊢;exact Un.2 fun x hx=>Vj x hx (Un.1 hh x hx)
  rw [if_neg e5]at hh ⊢;by_cases e6:es[i].kind=6
  ·rw [if_pos e6]at hh ⊢;have hl:=h.k6 i hi e6;have hx:∀ q (hq:q<2),es[i].kids.getD q 0=es[i].kids[q]'(by omega):=fun q hq=>by
    rw [List.getD_eq_getElem?_getD,Uj (by omega)];rfl
   rw [Ug]at hh ⊢;refine ⟨?_,?_⟩
   ·have h0:=hh.1;rw [hx 0 (by omega)]at h0 ⊢;exact Vj _ (Ud _) h0
   have h1:=hh.2;rw [hx 1 (by omega)]at h1 ⊢;have hf:(dC es).getD (es[i].kids[1]'(by omega)).toNat false=true:=by
    rw [KC h.ht hi 1 (by omega),e6];simp
   rw [<-h.same hT k ta tb _ hT (h.kid hi (by omega)) hf];exact h1
  rw [if_neg e6]at hh;cases hh
end
theorem Mx {ts:List Ty}{l:List Tp}{rk:Fc->Int}(hn:∀ f:Fc,aB ts f.a f.r≠[]->NodeR l rk (aB ts f.a f.r) f):Lay rk (fe ts l):=fun a b f h1 h2 hh=>by
 by_cases he:aB ts f.a f.r=[]
 ·unfold fe at hh;rw [he]at hh;cases hh
 have hpos:(aB ts f.a f.r).length-1<(aB ts f.a f.r).length:=by
  have:(aB ts f.a f.r).length≠0:=fun e=>he (Uu.1 e);omega
 refine (hn f he).more h1 _ a b _ h1 (fun g hg hm=>?_) hpos hh;by_cases e:rk g=rk f
 ·exact h2 g e hm
 exact (h1 g (by omega)).1 hm
def Qk (ts:List Ty)(st:ByteArray×ByteArray->Int)(g:Fc):Int:=if hasB ts g.a g.r then st (g.a,g.r) else -1
def PH (ts:List Ty)(t:Tp):Bool:=(aB ts t.a t.r).any fun e=>decide (e.kind=1)&&dH e.allow e.allow.length ⟨t.c,t.s⟩
theorem GK {ts:List Ty}{a r:ByteArray}:hasB ts a r=true ↔ aB ts a r≠[]:=by
 unfold hasB;cases aB ts a r <;> simp
theorem Bf {ts:List Ty}{typ:ByteArray}{es:List Ex}{i:Nat}{d:Dp}(h:d∈ik ts typ es i):∀ k,i<k->d∈aP ts typ es k
 | 0,hi=>absurd hi (UI _)
 | k+1,hi=>by
  unfold aP;by_cases e:i=k
  ·subst e;exact List.mem_append_right _ h
  exact List.mem_append_left _ (Bf h k (by omega))
theorem Bg {ng:Bool}{a:Al}:∀ {xs:List Al},a∈xs->a.s.toList.isEmpty=false->(⟨a.t,a.s,ng⟩:Dp)∈dm ng xs
 | [],h,_=>by cases h
 | x::xs,h,hs=>by
  unfold dm;rcases List.mem_cons.1 h with rfl|h
  ·rw [if_neg (by rw [hs];decide)];exact UG ..
  split
  ·exact Bg h hs
  exact UC _ (Bg h hs)
theorem PK {ts:List Ty}{rel:ByteArray}{a:Al}:∀ {xs:List Al},a∈xs->hasB ts a.t rel=true->a.t∈gl ts rel xs
 | [],h,_=>by cases h
 | x::xs,h,hs=>by
  unfold gl;rcases List.mem_cons.1 h with rfl|h
  ·rw [if_neg (by unfold hasB at hs;simpa using hs)];exact UG ..
  split
  ·exact PK h hs
  exact UC _ (PK h hs)
theorem Dv {xs:List Al}{c s:ByteArray}(h:dH xs xs.length ⟨c,s⟩=true):(⟨c,s⟩:Al)∈xs:=by
 unfold dH at h;rw [Us]at h;obtain ⟨a,ha,e⟩:=UA.1 h;unfold jR at e;rw [Ug,beq_iff_eq,beq_iff_eq]at e;have:a=⟨c,s⟩:=by
  cases a;simp only at e;rw [gu e.1,gu e.2]
 rw [<-this];exact ha
theorem Q5 {es:List Ex}(h:own es<=1){i j:Nat}(hi:i<es.length)(hj:j<es.length)(ki:es[i].kind=1)(kj:es[j].kind=1):i=j:=by
 have key:∀ (es:List Ex) (i j:Nat) (hi:i<es.length) (hj:j<es.length),es[i].kind=1->es[j].kind=1->i<j->2<=own es:=by
  intro es
  induction es with
  | nil=>intro i j hi;simp at hi
  | cons e es ih =>
   intro i j hi hj ki kj hij;unfold own;rw [List.filter_cons];cases j with
   | zero=>omega
   | succ j =>
    have kj':(es[j]'(by simpa using hj)).kind=1:=by simpa using kj
    cases i with
    | zero =>
     have ki':e.kind=1:=by simpa using ki
     have:0<(es.filter fun e=>decide (e.kind=1)).length:=List.length_pos_of_mem (a:=es[j]'(by simpa using hj)) (UJ.2 ⟨Ud _,by simpa using kj'⟩);simp [ki'];omega
    | succ i =>
     have:=ih i j (by simpa using hi) (by simpa using hj) (by simpa using ki) kj' (by omega);unfold own at this;split
     ·simp;omega
     exact this
 rcases Nat.lt_trichotomy i j with h1|h1|h1
 ·have:=key es i j hi hj ki kj h1;omega
 ·exact h1
 have:=key es j i hj hi kj ki h1;omega
theorem PM {ts:List Ty}{l:List Tp}{st:ByteArray×ByteArray->Int}(hS:Sol ts st)(hsh:bi ts=true)(hrf:iH ts=true)(hfit:∀ t∈l,PH ts t=true){f:Fc}(hf:aB ts f.a f.r≠[]):NodeR l (Qk ts st) (aB ts f.a f.r) f:=by
 obtain ⟨es,hes⟩:∃ es,es=aB ts f.a f.r:=⟨_,rfl⟩;have hp:fH ts f.a f.r=some es:=by
  rw [hes];cases e:fH ts f.a f.r with
  | none=>unfold aB at hf;rw [e]at hf;exact absurd rfl hf
  | some x=>unfold aB;rw [e];rfl
 obtain ⟨t0,ht0,r0,hr0,en,er,ee⟩:=qI hp;have hspec:=(tY hsh ht0 hr0).2;rw [ee]at hspec;have hk:(f.a,f.r)∈ak ts:=by
  unfold ak jH;exact Ut.2 ⟨t0,ht0,Ur.2 ⟨r0,hr0,by rw [en,er]⟩⟩
 have YP:Qk ts st f=st (f.a,f.r):=by unfold Qk;rw [if_pos (GK.2 hf)]
 have hup:∀ i,i<es.length->∀ d∈ik ts f.a es i,st (d.typ,d.rel)+stepOf d<=st (f.a,f.r):=fun i hi d hd=>hS.up _ hk d (by show d∈pX ts f.a (aB ts f.a f.r);rw [<-hes];exact Bf hd _ hi);have hpos:=hS.pos (f.a,f.r);have Z4:∀ i,0<=yB es i/\yB es i<=1:=fun i=>by unfold yB;split <;> omega
 -- whatever a node asks by a name that it leans on
 have ask:∀ i (hi:i<es.length) (g:Fc),(hasB ts g.a g.r=true->(⟨g.a,g.r,(dC es).getD i false⟩:Dp)∈ik ts f.a es i)->Qk ts st g+yB es i<=Qk ts st f:=fun i hi g h=>by
  rw [YP];have h1:=Z4 i;unfold Qk;split
  ·rename_i hb;have h2:=hup i hi _ (h hb);unfold stepOf at h2;unfold yB;exact h2
  omega
 rw [<-hes];have hdA:∀ i (hi:i<es.length),ik ts f.a es i=dm ((dC es).getD i false) es[i].allow++kN ts f.a ((dC es).getD i false) es[i]:=fun i hi=>by unfold ik;rw [Uj hi]
 have Yy:=hspec;unfold aK at Yy;simp only [Ug,Um]at Yy;obtain ⟨⟨⟨⟨⟨-,-⟩,hnb⟩,hku⟩,hown⟩,htr⟩:=Yy;refine ⟨fun j hj=>?_,fun i hi k1 t ht hm hs=>?_,fun i hi k2=>?_,fun i hi k3 t ht hm=>?_,fun i hi k6=>?_⟩
 ·exact nD es (es.length-1) (by rw [htr];exact Int.le_refl _) j (by rw [htr];omega) (by omega)
 ·refine ask i hi _ fun hb=>?_;rw [Ug,Ug,beq_iff_eq,beq_iff_eq,beq_iff_eq]at hm;have h1:=hfit t ht;unfold PH at h1;rw [gu hm.1.1,gu hm.2,<-hes]at h1;obtain ⟨e,he,h2⟩:=UA.1 h1;rw [Ug,Um]at h2;obtain ⟨j,hj,rfl⟩:=UE he;have:=Q5 hown hi hj k1 h2.1;subst this;rw [hdA i hi];exact List.mem_append_left _ (Bg (Dv h2.2) hs)
 ·refine ask i hi _ fun hb=>?_;rw [hdA i hi];refine List.mem_append_right _ ?_;unfold kN;rw [if_pos k2];exact Uo.2 rfl
 ·refine ask i hi _ fun hb=>?_;rw [Ug,Ug,beq_iff_eq,beq_iff_eq,beq_iff_eq]at hm;have hrn:=(QK hrf ht0 hr0 (e:=es[i]) (by rw [ee];exact Ud hi)).2;unfold ll at hrn;rw [if_neg (by rw [k3];decide),if_pos k3]at hrn;simp only [Ug]at hrn;have Yb:=hrn.1;rw [en]at Yb;have h1:=hfit t ht;unfold PH at h1;rw [gu hm.1.1,gu hm.2]at h1;have hmem:(⟨t.c,t.s⟩:Al)∈aU (aB ts f.a es[i].over):=by
   rcases hre:aB ts f.a es[i].over with _|⟨e,_|⟨e2,rest⟩⟩
   ·rw [hre]at Yb;simp [bz]at Yb
   ·rw [hre]at Yb h1;simp only [bz,Ug,Um]at Yb;obtain ⟨e',he',h2⟩:=UA.1 h1;rw [Uo]at he';subst he';rw [Ug]at h2;simp only [aU,if_pos Yb.1];exact Dv h2.2
   rw [hre]at Yb;simp [bz]at Yb
  rw [hdA i hi];refine List.mem_append_right _ ?_;unfold kN;rw [if_neg (by rw [k3];decide),if_pos k3];exact Ur.2 ⟨t.c,PK (a:=⟨t.c,t.s⟩) hmem hb,rfl⟩
 have h:=Un.1 hnb _ (Ud hi);unfold av at h;simp [k6]at h;exact h.1.1.1
theorem ES {ts:List Ty}{l:List Tp}{st:ByteArray×ByteArray->Int}(hS:Sol ts st)(hsh:bi ts=true)(hrf:iH ts=true)(hfit:∀ t∈l,PH ts t=true):Lay (Qk ts st) (fe ts l):=Mx fun f hf=>PM hS hsh hrf hfit hf
theorem JH {ts:List Ty}{st:ByteArray×ByteArray->Int}{xo xu:List Al}{n:Int}(hen:∀ k∈ak ts,hasB ts k.1 k.2=true){f:Fc}(h:f∈bZ ts st xo xu n):Qk ts st f=n:=by
 unfold bZ vC jc Ap at h;obtain ⟨o,-,h⟩:=Ut.1 h;obtain ⟨k,hk,h⟩:=Ut.1 h;obtain ⟨u,-,rfl⟩:=Ur.1 h;obtain ⟨hk1,hk2⟩:=UJ.1 hk;rw [Ug,beq_iff_eq,Um]at hk2;have e1:k.1=o.t:=gu hk2.1;have hb:hasB ts o.t k.2=true:=by
  rw [<-e1];exact hen k hk1
 unfold Qk;rw [if_pos hb];show st (o.t,k.2)=n;rw [<-e1];exact hk2.2
end Go.Proofs.YtajkkeikihhejaaGreat
