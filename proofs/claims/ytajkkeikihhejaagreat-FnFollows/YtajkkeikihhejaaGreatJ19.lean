/- What the drawings of texts of expressions answer: some short text. -/
import Derived.Test.YtajkkeikihhejaaGreatSq
import Derived.Test.YtajkkeikihhejaaGreatJ18
import Derived.ChangeSlices
import Derived.Deep.Slices
import Derived.RangeFuncNested
import Derived.Test.YtajkkeikihhejaaGreatSpecSchema8
open Go.Proofs.Tryz
set_option maxHeartbeats 80000000
namespace Go.Proofs.YtajkkeikihhejaaGreat
set_option maxRecDepth 100000
open ChangeShapes WideShapes ChangeAt RowKit
open Pl
theorem jQ{p:Prop}(h:p):Hid p:=h
theorem JD(R:Nat)(w:af)(n:Int)(h:n<=1):
  Calls prog 49 #[.pointer (some ⟨R,0,none⟩),.int .i64 n] w fun e w'=>e=.returned (.int .i64 0)/\w'=w:=by
 go_enter func49,ntmps49;go_wp2;go_ret;exact⟨rfl,rfl⟩
theorem gu(R:Nat)(ad:Q02)(len cap:Nat)(n:Nat)(w:af)(h:Rd w R ad len cap)(h1:1<=n)(h2:n<=256):
  Calls prog 49 #[.pointer (some ⟨R,0,none⟩),.int .i64 (n:Int)] w fun e w'=>(∃x:Nat,e=.returned (.int .i64 (x:Int))/\x<n)/\Rd w' R ad len cap/\Only R w w':=by
 by_cases hn:n=1
 ·subst hn;exact(JD R w 1 (by omega)).mono fun e w' ⟨he,hw⟩=>⟨⟨0,by rw[he];rfl,by omega⟩,by rw[hw];exact h,by rw[hw];exact Only.refl _ _⟩
 exact(cz R ad len cap n w h (by omega) (by omega)).mono fun e w' ⟨⟨x,he,h0,h3⟩,hR,hO⟩=>⟨⟨x.toNat,by rw[he,Int.toNat_of_nonneg h0],by omega⟩,hR,hO⟩
def sG(w:World)(R g n m:Nat):Prop:=g≠R/\g<w.heap.size/\∀o,o<n->∃s:ByteArray,w.cell? ⟨g,o,none⟩=some (.string s)/\s.size<=m
theorem sG.only{w w':af}{R g n m:Nat}(h:sG w R g n m)(k:Only R w w'):sG w' R g n m :=
 ⟨h.1,UT h.2.1 k.size,fun o ho=>by obtain⟨s,e,hs⟩:=h.2.2 o ho;exact⟨s,by rw[k.cell h.2.1 h.1];exact e,hs⟩⟩
theorem mh(w:af)(R m:Nat)(hR:R<w.heap.size){t:TypeId}{xs:List ByteArray}(h:xs.all (fun x=>decide (x.size<=m))=true):sG (w.alloc (.cells (xs.map Value.string).toArray t)) R w.heap.size xs.length m:=by
 refine⟨by omega,by simp,fun o ho=>⟨xs[o],?_,?_⟩⟩
 ·have:=World.cell?_alloc_mark w (xs.map Value.string).toArray t (0,0) o;rw[this];simp[ho]
 have:=U5.1 h _ (UR ho);simpa using this
def tB:Nat->Nat
 | 0=>14
 | d+1=>3*tB d+8
theorem sP(R:Nat)(ad:Q02)(len cap:Nat)(d:Int)(w:af)(h:Rd w R ad len cap):
  Calls prog 123 #[.pointer (some ⟨R,0,none⟩),.int .i64 d,.bool true] w fun e w'=>(∃t:ByteArray,e=.returned (.string t)/\t.size<=24)/\Rd w' R ad len cap/\Only R w w':=by
 have Zm:=h.lt;have HRD:=jQ h;obtain⟨xs,hxs⟩:∃xs:List ByteArray,xs=[⟨#[116,104,105,115,40,117,115,101,114,41]⟩,⟨#[116,104,105,115,40,117,115,101,114,44,103,114,111,117,112,35,109,101,109,98,101,114,41]⟩,⟨#[116,104,105,115,40,117,115,101,114,44,100,111,99,35,101,100,105,116,111,114,41]⟩]:=⟨_,rfl⟩;obtain⟨W0,hW0⟩:∃W0,W0=w.alloc (.cells (xs.map Value.string).toArray 9):=⟨_,rfl⟩;have YZ:Hid (sG W0 R w.heap.size 3 24):=by
  show sG _ _ _ _ _;rw[hW0];have:=mh w R 24 Zm (t:=9) (xs:=xs) (by rw[hxs];decide);rwa [show xs.length=3 by rw[hxs];rfl]at this
 have Xo:Hid (Rd W0 R ad len cap):=by show Rd _ _ _ _ _;rw[hW0];exact h.alloc _
 have Xv:Hid (Only R w W0):=by show Only _ _ _;rw[hW0];exact(Only.refl _ _).alloc _
 have hW1:W0=w.alloc (.cells #[.string ⟨#[116,104,105,115,40,117,115,101,114,41]⟩,.string ⟨#[116,104,105,115,40,117,115,101,114,44,103,114,111,117,112,35,109,101,109,98,101,114,41]⟩,.string ⟨#[116,104,105,115,40,117,115,101,114,44,100,111,99,35,101,100,105,116,111,114,41]⟩] 9):=by rw[hW0,hxs];rfl
 clear h hW0 hxs;go_enter func123,ntmps123;go_wp2_with fail;rw[<-hW1];clear hW1;refine(gu R ad len cap 3 _ Xo.out (by omega) (by omega)).mono ?_;rintro e w1 ⟨⟨x,rfl,hx⟩,WF,Wv⟩;obtain⟨-,hlt,hcells⟩:=YZ.out.only Wv;obtain⟨t,ht,hts⟩:=hcells x hx;have HR1:=jQ WF;have Wp:Hid (Only R w w1):=Xv.out.trans Wv;have hx0:=bG x;have hx1:(x:Int)<3:=by omega
 clear WF Wv hcells YZ Xo Xv;go_wp2;go_ret;exact⟨⟨t,rfl,hts⟩,HR1.out,Wp.out⟩
theorem EW(R:Nat)(ad:Q02)(len cap:Nat):∀(d:Nat) (w:af),d<=2->Rd w R ad len cap ->
  Calls prog 123 #[.pointer (some ⟨R,0,none⟩),.int .i64 (d:Int),.bool false] w fun e w'=>(∃t:ByteArray,e=.returned (.string t)/\t.size<=tB d)/\Rd w' R ad len cap/\Only R w w':=by
 intro d
 induction d with
 | zero =>
  intro w _ h;have Zm:=h.lt;have hz:(0:Nat)<=256:=by omega
  obtain⟨xs,hxs⟩:∃xs:List ByteArray,xs=[⟨#[101,100,105,116,111,114]⟩,⟨#[118,105,101,119,101,114]⟩,⟨#[98,97,110,110,101,100]⟩,⟨#[112,97,114,101,110,116,45,62,118,105,101,119,101,114]⟩,⟨#[112,97,114,101,110,116,45,62,101,100,105,116,111,114]⟩,⟨#[111,119,110,101,114]⟩,⟨#[112,97,114,101,110,116,45,62,111,119,110,101,114]⟩]:=⟨_,rfl⟩;obtain⟨W0,hW0⟩:∃W0,W0=w.alloc (.cells (xs.map Value.string).toArray 9):=⟨_,rfl⟩;have YZ:Hid (sG W0 R w.heap.size 7 14):=by
   show sG _ _ _ _ _;rw[hW0];have:=mh w R 14 Zm (t:=9) (xs:=xs) (by rw[hxs];decide);rwa [show xs.length=7 by rw[hxs];rfl]at this
  have Xo:Hid (Rd W0 R ad len cap):=by show Rd _ _ _ _ _;rw[hW0];exact h.alloc _
  have Xv:Hid (Only R w W0):=by show Only _ _ _;rw[hW0];exact(Only.refl _ _).alloc _
  have hW1:W0=w.alloc (.cells #[.string ⟨#[101,100,105,116,111,114]⟩,.string ⟨#[118,105,101,119,101,114]⟩,.string ⟨#[98,97,110,110,101,100]⟩,.string ⟨#[112,97,114,101,110,116,45,62,118,105,101,119,101,114]⟩,.string ⟨#[112,97,114,101,110,116,45,62,101,100,105,116,111,114]⟩,.string ⟨#[111,119,110,101,114]⟩,.string ⟨#[112,97,114,101,110,116,45,62,111,119,110,101,114]⟩] 9):=by rw[hW0,hxs];rfl
  clear h hW0 hxs;go_enter func123,ntmps123;go_wp2_with fail;rw[<-hW1];clear hW1;refine(gu R ad len cap 7 _ Xo.out (by omega) (by omega)).mono ?_;rintro e w1 ⟨⟨x,rfl,hx⟩,WF,Wv⟩;obtain⟨-,hlt,hcells⟩:=YZ.out.only Wv;obtain⟨t,ht,hts⟩:=hcells x hx;have HR1:=jQ WF;have Wp:Hid (Only R w w1):=Xv.out.trans Wv;have hx0:=bG x;have hx1:(x:Int)<7:=by omega
  clear WF Wv hcells YZ Xo Xv;go_wp2;go_ret;exact⟨⟨t,rfl,hts⟩,HR1.out,Wp.out⟩
 | succ d ih =>
  intro w hd h;have Zm:=h.lt;have IH:=jQ ih;have hd0:(((d+1:Nat):Int)==0)=false:=by simp;omega
  have hdm:((d+1:Nat):Int)-1=(d:Int):=by omega
  have HTB:Hid (tB (d+1)=3*tB d+8):=rfl;have hb0:tB d<=82:=by
   have:d=0\/d=1:=by omega
   rcases this with rfl|rfl<;>decide
  obtain⟨bd,hbd⟩:∃bd,bd=tB d:=⟨_,rfl⟩;rw[<-hbd]at hb0 HTB;have HBD:=jQ hbd;clear ih hbd;go_enter func123,ntmps123;go_wp2_with fail;refine(gW R ad len cap 2 _ h (by omega) (by omega)).mono ?_;rintro e w1 ⟨⟨q,rfl⟩,WF,Wv⟩;have HR1:=jQ WF;have Wp:=jQ Wv;have hRw1:R<w1.heap.size:=WF.lt;clear WF Wv h;cases q;case true=>
   obtain⟨xs,hxs⟩:∃xs:List ByteArray,xs=[⟨#[101,100,105,116,111,114]⟩,⟨#[118,105,101,119,101,114]⟩,⟨#[98,97,110,110,101,100]⟩,⟨#[112,97,114,101,110,116,45,62,118,105,101,119,101,114]⟩,⟨#[112,97,114,101,110,116,45,62,101,100,105,116,111,114]⟩,⟨#[111,119,110,101,114]⟩,⟨#[112,97,114,101,110,116,45,62,111,119,110,101,114]⟩]:=⟨_,rfl⟩;obtain⟨W0,hW0⟩:∃W0,W0=w1.alloc (.cells (xs.map Value.string).toArray 9):=⟨_,rfl⟩;have YZ:Hid (sG W0 R w1.heap.size 7 14):=by
    show sG _ _ _ _ _;rw[hW0];have:=mh w1 R 14 hRw1 (t:=9) (xs:=xs) (by rw[hxs];decide);rwa [show xs.length=7 by rw[hxs];rfl]at this
   have Xo:Hid (Rd W0 R ad len cap):=by show Rd _ _ _ _ _;rw[hW0];exact HR1.out.alloc _
   have Xv:Hid (Only R w W0):=by show Only _ _ _;rw[hW0];exact Wp.out.alloc _
   have hW1:W0=w1.alloc (.cells #[.string ⟨#[101,100,105,116,111,114]⟩,.string ⟨#[118,105,101,119,101,114]⟩,.string ⟨#[98,97,110,110,101,100]⟩,.string ⟨#[112,97,114,101,110,116,45,62,118,105,101,119,101,114]⟩,.string ⟨#[112,97,114,101,110,116,45,62,101,100,105,116,111,114]⟩,.string ⟨#[111,119,110,101,114]⟩,.string ⟨#[112,97,114,101,110,116,45,62,111,119,110,101,114]⟩] 9):=by rw[hW0,hxs];rfl
   clear hW0 hxs HR1 Wp;go_wp2_with fail;rw[<-hW1];clear hW1;refine(gu R ad len cap 7 _ Xo.out (by omega) (by omega)).mono ?_;rintro e w2 ⟨⟨x,rfl,hx⟩,hR2,hO2⟩;obtain⟨-,hlt,hcells⟩:=YZ.out.only hO2;obtain⟨t,ht,hts⟩:=hcells x hx;have HR2:=jQ hR2;have V7:Hid (Only R w w2):=Xv.out.trans hO2;have hx0:=bG x;have hx1:(x:Int)<7:=by omega
   have hfin:t.size<=tB (d+1):=by rw[HTB.out,HBD.out];cases d<;>simp[tB]<;>omega
   have WK:=jQ hfin;clear hR2 hO2 hcells YZ Xo Xv hfin;go_wp2;go_ret;exact⟨⟨t,rfl,WK.out⟩,HR2.out,V7.out⟩
  obtain⟨xs,hxs⟩:∃xs:List ByteArray,xs=[⟨#[32,124,32]⟩,⟨#[32,38,32]⟩,⟨#[32,45,32]⟩,⟨#[32,124,32]⟩]:=⟨_,rfl⟩;obtain⟨W0,hW0⟩:∃W0,W0=w1.alloc (.cells (xs.map Value.string).toArray 9):=⟨_,rfl⟩;have YZ:Hid (sG W0 R w1.heap.size 4 3):=by
   show sG _ _ _ _ _;rw[hW0];have:=mh w1 R 3 hRw1 (t:=9) (xs:=xs) (by rw[hxs];decide);rwa [show xs.length=4 by rw[hxs];rfl]at this
  have Xo:Hid (Rd W0 R ad len cap):=by show Rd _ _ _ _ _;rw[hW0];exact HR1.out.alloc _
  have Xv:Hid (Only R w W0):=by show Only _ _ _;rw[hW0];exact Wp.out.alloc _
  have hW1:W0=w1.alloc (.cells #[.string ⟨#[32,124,32]⟩,.string ⟨#[32,38,32]⟩,.string ⟨#[32,45,32]⟩,.string ⟨#[32,124,32]⟩] 9):=by rw[hW0,hxs];rfl
  clear hW0 hxs HR1 Wp;go_wp2_with fail;rw[<-hW1];clear hW1;refine(gu R ad len cap 4 _ Xo.out (by omega) (by omega)).mono ?_;rintro e w2 ⟨⟨x,rfl,hx⟩,hR2,hO2⟩;obtain⟨-,hlt,hcells⟩:=YZ.out.only hO2;obtain⟨op,hop,hops⟩:=hcells x hx;have HR2:=jQ hR2;have V7:Hid (Only R w w2):=Xv.out.trans hO2;have hx0:=bG x;have hx1:(x:Int)<4:=by omega
  clear hR2 hO2 hcells YZ Xo Xv;go_wp2_with fail;refine(IH.out w2 (by omega) HR2.out).mono ?_;rintro e w3 ⟨⟨t1,rfl,ht1⟩,Yo,hO3⟩;rw[<-HBD.out]at ht1;have HR3:=jQ Yo;have Ww:Hid (Only R w w3):=V7.out.trans hO3;clear Yo hO3 HR2 V7 hop hlt;go_wp2_with fail;refine(IH.out w3 (by omega) HR3.out).mono ?_;rintro e w4 ⟨⟨t2,rfl,ht2⟩,Zn,hO4⟩;rw[<-HBD.out]at ht2;have HR4:=jQ Zn;have Wo:Hid (Only R w w4):=Ww.out.trans hO4;clear Zn hO4 HR3 Ww;have e1:(⟨#[40]⟩:ByteArray).size=1:=rfl;have e2:(⟨#[41]⟩:ByteArray).size=1:=rfl;cases hm:op.toList==[32,45,32];case true=>
   have hm2:(!op.toList==[32,45,32])=false:=by rw[hm];rfl
   have WK:Hid ((((((⟨#[40]⟩:ByteArray)++t1)++op)++t2)++⟨#[41]⟩).size<=tB (d+1)):=by show _<=_;rw[HTB.out];simp only[Ve,e1,e2];omega
   go_wp2_with fail;go_ret;exact⟨⟨_,rfl,WK.out⟩,HR4.out,Wo.out⟩
  have hm2:(!op.toList==[32,45,32])=true:=by rw[hm];rfl
  go_wp2_with fail;refine(gW R ad len cap 3 _ HR4.out (by omega) (by omega)).mono ?_;rintro e w5 ⟨⟨q,rfl⟩,Wy,WC⟩;have Wu:=jQ Wy;have Wm:Hid (Only R w w5):=Wo.out.trans WC;clear Wy WC HR4 Wo;cases q;case false=>
   have WK:Hid ((((((⟨#[40]⟩:ByteArray)++t1)++op)++t2)++⟨#[41]⟩).size<=tB (d+1)):=by show _<=_;rw[HTB.out];simp only[Ve,e1,e2];omega
   go_wp2_with fail;go_ret;exact⟨⟨_,rfl,WK.out⟩,Wu.out,Wm.out⟩
  go_wp2_with fail;refine(IH.out w5 (by omega) Wu.out).mono ?_;rintro e w6 ⟨⟨t3,rfl,ht3⟩,hR6,XL⟩;rw[<-HBD.out]at ht3;have XG:=jQ hR6;have WY:Hid (Only R w w6):=Wm.out.trans XL;clear hR6 XL Wu Wm;have WK:Hid ((((((((⟨#[40]⟩:ByteArray)++t1)++op)++t2)++op)++t3)++⟨#[41]⟩).size<=tB (d+1)):=by show _<=_;rw[HTB.out];simp only[Ve,e1,e2];omega
  go_wp2_with fail;go_ret;exact⟨⟨_,rfl,WK.out⟩,XG.out,WY.out⟩
theorem GM(R:Nat)(ad:Q02)(len cap d:Nat)(w:af)(hd:d<=2)(h:Rd w R ad len cap):
  Calls prog 83 #[.pointer (some ⟨R,0,none⟩),.int .i64 (d:Int)] w fun e w'=>(∃t:ByteArray,e=.returned (.string t)/\t.size<=190)/\Rd w' R ad len cap/\Only R w w':=by
 have Zm:=h.lt;have hb0:tB d<=158:=by
  have:d=0\/d=1\/d=2:=by omega
  rcases this with rfl|rfl|rfl<;>decide
 obtain⟨xs,hxs⟩:∃xs:List ByteArray,xs=[⟨#[32,124,32]⟩,⟨#[32,38,32]⟩,⟨#[32,45,32]⟩,⟨#[32,124,32]⟩]:=⟨_,rfl⟩;obtain⟨W0,hW0⟩:∃W0,W0=w.alloc (.cells (xs.map Value.string).toArray 9):=⟨_,rfl⟩;have YZ:Hid (sG W0 R w.heap.size 4 3):=by
  show sG _ _ _ _ _;rw[hW0];have:=mh w R 3 Zm (t:=9) (xs:=xs) (by rw[hxs];decide);rwa [show xs.length=4 by rw[hxs];rfl]at this
 have Xo:Hid (Rd W0 R ad len cap):=by show Rd _ _ _ _ _;rw[hW0];exact h.alloc _
 have Xv:Hid (Only R w W0):=by show Only _ _ _;rw[hW0];exact(Only.refl _ _).alloc _
 have hW1:W0=w.alloc (.cells #[.string ⟨#[32,124,32]⟩,.string ⟨#[32,38,32]⟩,.string ⟨#[32,45,32]⟩,.string ⟨#[32,124,32]⟩] 9):=by rw[hW0,hxs];rfl
 clear h hW0 hxs;go_enter func83,ntmps83;go_wp2_with fail;rw[<-hW1];clear hW1;refine(gu R ad len cap 4 _ Xo.out (by omega) (by omega)).mono ?_;rintro e w2 ⟨⟨x,rfl,hx⟩,hR2,hO2⟩;obtain⟨-,hlt,hcells⟩:=YZ.out.only hO2;obtain⟨op,hop,hops⟩:=hcells x hx;have HR2:=jQ hR2;have V7:Hid (Only R w w2):=Xv.out.trans hO2;have hx0:=bG x;have hx1:(x:Int)<4:=by omega
 clear hR2 hO2 hcells YZ Xo Xv;go_wp2_with fail;refine(gW R ad len cap 3 _ HR2.out (by omega) (by omega)).mono ?_;rintro e w3 ⟨⟨q,rfl⟩,Yo,hO3⟩;have HR3:=jQ Yo;have Ww:Hid (Only R w w3):=V7.out.trans hO3;clear Yo hO3 HR2 V7 hop hlt;cases q;case true=>
  go_wp2_with fail;refine(sP R ad len cap 0 _ HR3.out).mono ?_;rintro e w4 ⟨⟨t1,rfl,ht1⟩,Zn,hO4⟩;have HR4:=jQ Zn;have Wo:Hid (Only R w w4):=Ww.out.trans hO4;clear Zn hO4;go_wp2;go_ret;exact⟨⟨t1,rfl,by omega⟩,HR4.out,Wo.out⟩
 go_wp2_with fail;refine(sP R ad len cap 0 _ HR3.out).mono ?_;rintro e w4 ⟨⟨t1,rfl,ht1⟩,Zn,hO4⟩;have HR4:=jQ Zn;have Wo:Hid (Only R w w4):=Ww.out.trans hO4;clear Zn hO4;go_wp2_with fail;refine(EW R ad len cap d _ hd HR4.out).mono ?_;rintro e w5 ⟨⟨t2,rfl,ht2⟩,Wy,WC⟩;have Wu:=jQ Wy;have Wm:Hid (Only R w w5):=Wo.out.trans WC;have hf:t2.size<=158:=by omega
 have WK:Hid (((t1++op)++t2).size<=190):=by show _<=_;simp only[Ve];omega
 clear Wy WC ht2 hb0;go_wp2;go_ret;exact⟨⟨_,rfl,WK.out⟩,Wu.out,Wm.out⟩
theorem qK(R:Nat)(ad:Q02)(len cap d:Nat)(w:af)(hd:d<=2)(h:Rd w R ad len cap):
  Calls prog 83 #[.pointer (some ⟨R,0,none⟩),.int .i64 (d:Int)] w fun e w'=>(∃t:ByteArray,e=.returned (.string t)/\t.size<=300)/\Rd w' R ad len cap/\Only R w w' :=
 (GM R ad len cap d w hd h).mono fun e w' ⟨⟨t,h1,h2⟩,h3⟩=>⟨⟨t,h1,by omega⟩,h3⟩
theorem EX(R:Nat)(ad:Q02)(len cap:Nat)(w:af)(h:Rd w R ad len cap):
  Calls prog 180 #[.pointer (some ⟨R,0,none⟩)] w fun e w'=>(∃x:Int,e=.returned (.int .u64 x))/\Rd w' R ad len cap/\Only R w w':=by
 have H:=aC h;clear h;go_enter func180,ntmps180;go_wp2;go_loopw[3,4] (fun v i wr=>∃(x:Int) (k:Nat),v=.int .u64 x/\i=.int .i64 (k:Int)/\k<=8/\Hid (Rd wr R ad len cap)/\Hid (Only R w wr)) (fun _ i _=>8-(intOf i).toNat);case atStart=>exact⟨0,0,rfl,rfl,by omega,H,Only.refl _ _⟩
 obtain⟨x,k,rfl,rfl,hk,HR,HO⟩:=hrel;by_cases hlt:k<8
 ·have hk1:(k:Int)<8:=by omega
  go_wp2_with fail;refine(vV R ad len cap _ HR.out).mono ?_;rintro e w1 ⟨⟨y,rfl,hy0,hy1⟩,WF,Wv⟩;have HR1:=aC WF;have Wp:Hid (Only R w w1):=HO.out.trans Wv;clear WF Wv;go_wp2;go_roundw;case rel=>exact⟨_,k+1,rfl,by go_num,by omega,HR1,Wp⟩
  simp[intOf]<;>omega
 have hk1:¬(k:Int)<8:=by omega
 go_wp2;go_ret;exact⟨⟨x,rfl⟩,HR.out,HO.out⟩
theorem Pd(R:Nat)(ad:Q02)(len cap:Nat)(w:af)(h:Rd w R ad len cap):
  Calls prog 125 #[.pointer (some ⟨R,0,none⟩),.int .i64 1,.int .i64 6] w fun e w'=>(∃x:Int,e=.returned (.int .i64 x))/\Rd w' R ad len cap/\Only R w w':=by
 have H:=jQ h;clear h;go_enter func125,ntmps125;go_wp2_with fail;refine(gu R ad len cap 8 _ H.out (by omega) (by omega)).mono ?_;rintro e w1 ⟨⟨x,rfl,hx⟩,WF,Wv⟩;have HR1:=jQ WF;have Wp:=jQ Wv;clear WF Wv;by_cases h0:x=0
 ·subst h0;go_wp2;go_ret;exact⟨⟨_,rfl⟩,HR1.out,Wp.out⟩
 have h00:((x:Int)==0)=false:=by simp;omega
 by_cases h1:x=1
 ·subst h1;go_wp2;go_ret;exact⟨⟨_,rfl⟩,HR1.out,Wp.out⟩
 have h11:((x:Int)==1)=false:=by simp;omega
 go_wp2_with fail;refine(EX R ad len cap _ HR1.out).mono ?_;rintro e w2 ⟨⟨y,rfl⟩,hR2,hO2⟩;have HR2:=jQ hR2;have V7:Hid (Only R w w2):=Wp.out.trans hO2;clear hR2 hO2;go_wp2;go_ret;exact⟨⟨_,rfl⟩,HR2.out,V7.out⟩
theorem Rn(R:Nat)(ad:Q02)(len cap:Nat)(w:af)(h:Rd w R ad len cap):
  Calls prog 85 #[.pointer (some ⟨R,0,none⟩),.int .i64 1,.int .i64 6] w fun e w'=>(∃x:Int,e=.returned (.int .i64 x))/\Rd w' R ad len cap/\Only R w w':=by
 have H:=jQ h;clear h;go_enter func85,ntmps85;go_wp2_with fail;refine(gW R ad len cap 24 _ H.out (by omega) (by omega)).mono ?_;rintro e w1 ⟨⟨q,rfl⟩,WF,Wv⟩;have HR1:=jQ WF;have Wp:=jQ Wv;have Zm:=WF.lt;clear WF Wv;cases q;case false=>
  go_wp2_with fail;refine(Pd R ad len cap _ HR1.out).mono ?_;rintro e w2 ⟨⟨y,rfl⟩,hR2,hO2⟩;have HR2:=jQ hR2;have V7:Hid (Only R w w2):=Wp.out.trans hO2;clear hR2 hO2;go_wp2;go_ret;exact⟨⟨_,rfl⟩,HR2.out,V7.out⟩
 obtain⟨W0,hW0⟩:∃W0,W0=w1.alloc (.cells #[.int .i64 0,.int .i64 7,.int .i64 (-9223372036854775808),.int .i64 9223372036854775807] 2):=⟨_,rfl⟩;have Xo:Hid (Rd W0 R ad len cap):=by show Rd _ _ _ _ _;rw[hW0];exact HR1.out.alloc _
 have Xv:Hid (Only R w W0):=by show Only _ _ _;rw[hW0];exact Wp.out.alloc _
 have Xg:Hid (w1.heap.size<W0.heap.size/\∀o,o<4->∃z:Int,W0.cell? ⟨w1.heap.size,o,none⟩=some (.int .i64 z)):=by
  show _/\_;rw[hW0];refine⟨by simp,fun o ho=>?_⟩;have:o=0\/o=1\/o=2\/o=3:=by omega
  rcases this with rfl|rfl|rfl|rfl<;>exact⟨_,by simp;rfl⟩
 go_wp2_with fail;rw[<-hW0];clear hW0;refine(gu R ad len cap 4 _ Xo.out (by omega) (by omega)).mono ?_;rintro e w2 ⟨⟨x,rfl,hx⟩,hR2,hO2⟩;obtain⟨z,hz⟩:=Xg.out.2 x hx;have hz2:w2.cell? ⟨w1.heap.size,x,none⟩=some (.int .i64 z):=by rw[hO2.cell Xg.out.1 (by omega)];exact hz
 have HR2:=jQ hR2;have V7:Hid (Only R w w2):=Xv.out.trans hO2;have hx0:=bG x;have hx1:(x:Int)<4:=by omega
 clear hR2 hO2 hz Xg Xo Xv;go_wp2;go_ret;exact⟨⟨z,rfl⟩,HR2.out,V7.out⟩
theorem K8{a b a' b':ByteArray}{f f':Bool}(ha:a=a')(hb:b=b')(hf:f=f'):Ending.returned (.tuple #[.string a,.string b,.bool f])=.returned (.tuple #[.string a',.string b',.bool f']):=by rw[ha,hb,hf]
theorem DD(s:bQ)(c:UInt8)(w:af)(hs:s.size<=maxLen):
  Calls prog 177 #[.string s,.int .u8 c.toNat] w fun e w'=>e=.returned (.tuple #[.string (kG c s),.string (iV c s),.bool (oJ c s)])/\∃n,w'=w.drewN n:=by
 unfold maxLen at hs;go_enter func177,ntmps177;go_wp2
 go_loop [7] (fun i=>∃k:Nat,k<=s.size/\i=.int .i64 k/\Hid (Td c s k)) (fun i=>s.size-(intOf i).toNat)
 case atStart=>exact⟨0,UY _,rfl,N8 _ _⟩
 obtain⟨k,hk,rfl,hu⟩:=hrel;by_cases hlt:k<s.size
 ·by_cases hc:s[k]=c
  ·have HC:Hid (jb c s.data.toList=_):=Te hlt hu.out hc;have hcb:((s[k].toNat:Int)==(c.toNat:Int))=true:=by simp[hc]
   have hk1:=bG k;have hk2:(k:Int)<=(s.size:Int):=by omega
   have hk3:(k:Int)+1<=(s.size:Int):=by omega
   clear hc;go_wp2;go_quiet (fail);go_wp2
   go_ret3
   refine⟨K8 (gT ?_) (gT ?_) (by simp[oJ,HC.out]),nq,rfl⟩
   ·rw[Lib.extract_data];simp[kG,HC.out]
   rw[Lib.extract_to_end];simp[iV,HC.out]
  have HU:Hid (Td c s (k+1)):=N9 hlt hu.out hc;have hcb:((s[k].toNat:Int)==(c.toNat:Int))=false:=by
   simp;intro h;exact hc (UInt8.toNat_inj.mp (by omega))
  clear hc;go_wp2;go_round;case rel=>exact⟨k+1,by omega,by go_num,HU⟩
  simp[intOf];omega
 have HC:Hid (jb c s.data.toList=_):=Oa (Nat.le_of_not_lt hlt) hu.out;go_wp2
 go_ret3
 exact⟨K8 (by simp[kG,HC.out]) (by simp[iV,HC.out]) (by simp[oJ,HC.out]),0,rfl⟩
def Bytes(w:World)(ad:Q02)(len:Nat):Prop:=len<=maxLen/\(0<len->∃b off,ad=some ⟨b,off,none⟩/\b<w.heap.size/\∀i,i<len->∃c:Int,0<=c/\c<=255/\w.cell? ⟨b,off+i,none⟩=some (.int .u8 c))
theorem Bytes.below{w w':af}{ad:Q02}{len:Nat}(h:Bytes w ad len)(hb:ae w w'):Bytes w' ad len:=by
 refine⟨h.1,fun h0=>?_⟩;obtain⟨b,off,e,hbl,hc⟩:=h.2 h0;refine⟨b,off,e,UT hbl hb.size,fun i hi=>?_⟩;obtain⟨c,c0,c1,hcc⟩:=hc i hi;exact⟨c,c0,c1,by rw[hb.cell (p:=⟨b,off+i,none⟩) hbl];exact hcc⟩
theorem JE{H:Type}{enc:TypeId×Value->H}{W:af}{base:Nat}{sp:Nat->Bool}{held:Bool}{fuel:Nat}{ad:Q02}{len cap:Nat}{x:DataW H×List MemPlace}
  (h:DataW.trod enc prog W base sp held fuel 22 [.slice ad len cap]=some x):Bytes W ad len:=by
 rcases open_ints underlying22 underlying5 (by kernel_rfl) h with⟨hcs,-⟩|⟨a,l,c,zs,hcs,-,hlc,hcm,hm,-,hel,hwf⟩
 ·simp at hcs;obtain⟨rfl,rfl,rfl⟩:=hcs;exact⟨by unfold maxLen;omega,fun h0=>by omega⟩
 simp at hcs;obtain⟨rfl,rfl,rfl⟩:=hcs;have hle:len<=zs.length:=by rw[hm];split<;>omega
 refine⟨by omega,fun h0=>?_⟩;have hspot:a.spot=none:=by
  have:=hel 0 (by omega);have e:a.add 0=a:=by simp[Addr.add]
  rw[e]at this;exact World.cell?_spot this
 obtain⟨b,off,spot⟩:=a;simp only at hspot;subst hspot;have add0:∀x:Nat,(⟨b,off,none⟩:Addr).add x=⟨b,off+x,none⟩:=fun x=>by
  unfold Addr.add;by_cases h:x=0
  ·subst h;simp
  simp[h]
 refine⟨b,off,rfl,?_,fun i hi=>?_⟩
 ·have:=hel 0 (by omega);rw[add0]at this;exact World.block_lt_of_cell? W ⟨b,off+0,none⟩ this
 have h1:=hel i (by omega);rw[add0]at h1;have h2:=hwf (zs.getD i 0) (by rw[Vn,U1 (by omega)];simp);have h3:IntKind.u8.min<=zs.getD i 0/\zs.getD i 0<=IntKind.u8.max:=by simpa only[Lit.wf,UW,U3] using h2
 have e1:IntKind.u8.min=0:=by decide
 have e2:IntKind.u8.max=255:=by decide
 rw[e1,e2]at h3;exact⟨_,h3.1,h3.2,h1⟩
theorem Tw{w:af}{ad:Q02}{len cap:Nat}{t:TypeId}(h:Bytes w ad len):Rd (w.alloc (.cells #[.slice ad len cap,.int .i64 0] t)) w.heap.size ad len cap where
 lt:=by simp
 code:=by simp
 place:=⟨0,by simp,by omega⟩
 free:=by simp
 bytes h0:=by
  obtain⟨b,off,e,hbl,hc⟩:=h.2 h0;refine⟨b,off,e,by omega,by simp;omega,fun i hi=>?_⟩;obtain⟨c,c0,c1,hcc⟩:=hc i hi;exact⟨c,c0,c1,Rj hcc _⟩
 small:=h.1
theorem Pe(ad:Q02)(len cap:Nat)(w:af)(h:Bytes w ad len):
  Calls prog 44 #[.slice ad len cap] w fun e w'=>e=.returned (.pointer (some ⟨w.heap.size,0,none⟩))/\Rd w' w.heap.size ad len cap/\ae w w':=by
 have H:=aC h;clear h;go_enter func44,ntmps44;go_wp2;go_ret;exact⟨rfl,Tw H.out,(UV _ _).alloc (UU _) _⟩
theorem Ro(ad:Q02)(len cap:Nat)(w:af):
  Calls prog 9 #[.slice ad len cap] w fun e w'=>e=.returned (.bool (decide ((1048576:Int)<(len:Int))))/\w'=w:=by
 go_enter func9,ntmps9;go_wp2;go_ret;exact⟨rfl,rfl⟩
set_option linter.unusedVariables false
def EY{α:Type}(F:Fence)(n:Nat)(P:Program)(g:Nat)(lb:Array Value)(encs:α->Array Value)(Kp:Nat->World->World->Prop)(Q:List α->World->Prop)(E:List α->α->Prop)(S:List α->Prop)(w:World):Prop :=
 ∀(l:Nat) (J:List α->World->Prop) (W:World),ae w W->l<W.heap.size->w.heap.size<=l->OwnFrom W.heap.size J->(∀pre W1,J pre W1->Q pre W1) ->
  (∀pre x W1,J pre W1->E pre x->YieldAt F (n-1) P l (encs x) W1 fun e W'=>e=.returned (.bool true)/\J (pre++[x]) W'/\Kp l W1 W') ->
  J [] W ->
  CallsIn F n P g (#[.func (.yield l) #[] #[]]++lb) W fun e W'=>(∃v,e=.returned v)/\∃xs,S xs/\J xs W'
def Pf(B:Nat)(R:World->Prop)(W:World):Exit->Act->World->Prop
 | .normal,_,W'=>KeepsFrom B W W'/\R W'
 | _,_,_=>False
theorem K9{β:Type}{B k:Nat}{o:Obj}(hk:k<B):OwnFrom B (fun(_:β) W=>W.heap[k]?=some o):=fun _ X Y row hs hg hr=>(hg.block k (UZ.1 hs).1 fun e=>by have:=(hr k e.symm).1;omega).trans hs
theorem Tx{β:Type}{B B':Nat}{I:β->World->Prop}(h:OwnFrom B I)(hB:B<=B'):OwnFrom B' I:=fun s X Y row hs hg hr=>h s X Y row hs hg fun r e=>⟨U0 hB (hr r e).1,(hr r e).2⟩
theorem qL{α:Type}{F:Fence}{n:Nat}{P:Program}{g:Operand}{ps:Array Tmp}{assign body:Code}{Q:Exit->Act->World->Prop}{a:Act}{w:af}(hro:F.round=none)(h1:1<=n){gf:Nat}{lb:Array Value}(hg:a.eval g=.func (.func gf) #[] lb)(hFg:F.fn gf)(eg:∀args w,(callFunc gf args).run P w=.ok (.enter gf args) w)
  {encs:α->Array Value} {Kp:Nat->World->World->Prop} {Tell:List α->World->Prop} {E:List α->α->Prop} {S:List α->Prop} {w0:World} (hseq:EY F (n-1) P gf lb encs Kp Tell E S w0) (hb0:ae w0 w) (hps:∀x,(encs x).size=ps.size)
  (hKt:∀{l:Nat} {X Y Z:World},Kp l X Y->Kp l Y Z->Kp l X Z) (hKb:∀(W:World) (l:Nat) (o o':Obj),W.heap[l]?=some o->o.isCells=false->Kp l W (W.putObj l o'))
  (I:List α->World->Prop) (hI:OwnFrom w.heap.size I) (hT:∀pre W,I pre W->Tell pre W) (h0:I [] w)
  (Ax:α->Act->World->Prop) (hAx:∀x a',OwnFrom w.heap.size (fun(_:Unit) W=>Ax x a' W))
  (hassign:∀ (l:Nat) (pre:List α) (x:α) (W:World) (K:Act->World->Prop),I pre W->(∀ a' W',KeepsFrom w.heap.size W W'->Kp l W W'->I pre W'->Ax x a' W'->K a' W') ->
   assign.wpIn (F.inRound l) (n-1-1) P (Exit.then K (fun _ _ _=>False)) { tmps:=(ps.zip (encs x)).foldl (fun t (p,v)=>t.setIfInBounds p v) a.tmps,defers:=[] } W)
  (hbody:∀(l:Nat) (pre:List α) (x:α) (a':Act) (W:World),w.heap.size<=l->E pre x->I pre W->Ax x a' W->body.wpIn (F.inRound l) (n-1-1) P (Pf w.heap.size (fun W'=>Kp l W W'/\I (pre++[x]) W') W) a' W)
  (hdone:∀(D:Nat) (xs:List α) (W:World),w.heap.size<=D->S xs->I xs W->W.heap[D]?=some (.deferred (some []))->Q .normal { a with defers:={ target:=.collected D,args:=#[] }::a.defers } W) :
  (Code.rangeFunc g ps assign body).wpIn F n P Q a w:=by
 refine wpIn_rangeFunc fun fn hfn=>?_;rw[hro];obtain⟨rc,hrc⟩:∃rc:LoopState->Loop,rc=fun st=>{ state:=st,pending:=none,fn,tmps:=a.tmps,params:=ps,assign,body,defers:=w.heap.size }:=⟨_,rfl⟩;obtain⟨W0,hW0⟩:∃W0,W0=w.alloc (.deferred (some [])):=⟨_,rfl⟩;have s0:W0.heap.size=w.heap.size+1:=by rw[hW0];simp
 obtain⟨W1,hW1⟩:∃W1,W1=W0.alloc (.loop (rc .ready)):=⟨_,rfl⟩;have s1:W1.heap.size=w.heap.size+2:=by rw[hW1];simp;omega
 have k0:W0.heap[w.heap.size]?=some (.deferred (some [])):=by rw[hW0];exact World.alloc_heap_new w _
 have k1:W1.heap[w.heap.size]?=some (.deferred (some [])):=by rw[hW1];exact(Below.heap_alloc _ _ _ (by omega)).trans k0
 have r1:W1.heap[w.heap.size+1]?=some (.loop (rc .ready)):=by rw[hW1,<-s0];exact World.alloc_heap_new W0 _
 have i1:I [] W1:=by rw[hW1,hW0];exact hI.alloc _ (hI.alloc _ h0)
 have b1:ae w W1:=by rw[hW1,hW0];exact((UV _ w).alloc (UU _) _).alloc (by simp) _
 have bb:ae w0 W1:=hb0.trans (b1.mono hb0.size);refine⟨w.heap.size+1,[{ target:=.collected w.heap.size,args:=#[] }],W1,{ target:=.fn (.func gf) lb,args:=#[.func (.yield (w.heap.size+1)) #[] #[]] },W1,gf,#[.func (.yield (w.heap.size+1)) #[] #[]]++lb,W1,?_,?_,?_,?_,fun _=>h1,?_⟩
 ·rw[hW1,hW0,hrc];exact run_enterLoop_outer _ _ _ _ _
 ·simp only[resolve,hg];simp[go_sem]
 ·intro f hf;simp[Target.leads]at hf;subst hf;exact hFg
 ·simp[invoke,go_sem,eg]
 have hJ:OwnFrom W1.heap.size (fun pre W=>I pre W/\W.heap[w.heap.size+1]?=some (.loop (rc .ready))/\W.heap[w.heap.size]?=some (.deferred (some []))) :=
  (Tx hI (by omega)).and ((K9 (by omega)).and (K9 (by omega)))
 refine(hseq (w.heap.size+1) _ W1 bb (by omega) (by have:=hb0.size;omega) hJ (fun pre W h=>hT pre W h.1) ?_ ⟨i1,r1,k1⟩).mono ?_
 ·rintro pre x W ⟨hi,hl,hk⟩ hEx;have hy:=run_yield (P:=P) (args:=encs x) hl (by rw[hrc];exact hps x);rw[hrc]at hy;refine⟨fn,_,assign,body,hy,roundIn_of_wpIn hfn (hassign _ pre x W _ hi ?_)⟩;clear hy;intro a' Wa hka hkp hia hax;have hla:=hka.same _ _ (by omega) hl rfl;have hda:=hka.same _ _ (UU _) hk rfl;have hlt:w.heap.size+1<Wa.heap.size:=(UZ.1 hla).1;refine⟨_,run_beginRound hla (by rw[hrc]),?_⟩;obtain⟨Wb,hWb⟩:∃Wb,Wb=Wa.putObj (w.heap.size+1) (.loop { rc .ready with state:=.busy }):=⟨_,rfl⟩;rw[<-hWb];have lb2:Wb.heap[w.heap.size+1]?=some (.loop { rc .ready with state:=.busy }):=by rw[hWb];exact World.putObj_heap_same hlt
  have db2:Wb.heap[w.heap.size]?=some (.deferred (some [])):=by rw[hWb];exact(World.putObj_heap_other (by omega)).trans hda
  have kb2:Kp (w.heap.size+1) Wa Wb:=by rw[hWb];exact hKb _ _ _ _ hla rfl
  have ib2:I pre Wb:=by rw[hWb];exact hI.putObj _ hia (by omega) hla rfl
  have ab2:Ax x a' Wb:=by rw[hWb];exact(hAx x a').putObj (s:=()) _ hax (by omega) hla rfl
  refine wpIn_mono (hbody _ pre x a' _ (by omega) hEx ib2 ab2) ?_;intro e a3 W3 hp;cases e;case normal=>
   obtain⟨hk3,hkp3,hi3⟩:=hp;have hl3:=hk3.same _ _ (by omega) lb2 rfl;have hd3:=hk3.same _ _ (UU _) db2 rfl;have hend:=run_endRound (P:=P) none hl3;rw[hrc]at hend;refine⟨_,_,hend,rfl,⟨hI.putObj _ hi3 (by omega) hl3 rfl,?_,(World.putObj_heap_other (by omega)).trans hd3⟩,hKt hkp (hKt (hKt kb2 hkp3) (hKb _ _ _ _ hl3 rfl))⟩;rw[hrc];exact World.putObj_heap_same (UZ.1 hl3).1
  case ret=>exact hp.elim
  case exit id=>exact hp.elim
  case goto t=>exact hp.elim
  case panic ch=>exact hp.elim
  exact hp.elim
 rintro e W2 ⟨⟨v,rfl⟩,xs,hS,hi,hl,hk⟩;have hend:=run_endLoop (P:=P) hl (by rw[hrc];simp);rw[hrc]at hend;exact⟨none,_,hend,hdone _ xs _ (UU _) hS (hI.putObj _ hi (by omega) hl rfl) ((World.putObj_heap_other (by omega)).trans hk)⟩
end Go.Proofs.YtajkkeikihhejaaGreat
namespace Go.Proofs.YtajkkeikihhejaaGreat.Ls
theorem lt_irrefl:∀x:List UInt8,Op.bytesLess x x=false
 | []=>rfl
 | a::x=>by simp[Op.bytesLess,lt_irrefl x]
theorem lt_trans:∀x y z:List UInt8,Op.bytesLess x y=true->Op.bytesLess y z=true->Op.bytesLess x z=true
 | [],_,[],h,k=>by cases ‹List UInt8› <;> simp [Op.bytesLess] at h k
 | [],_,_::_,_,_=>rfl
 | _::_,[],_,h,_=>by simp[Op.bytesLess]at h
 | _::_,_::_,[],_,k=>by simp[Op.bytesLess]at k
 | a::x,b::y,c::z,h,k=>by
  simp only[Op.bytesLess,Bool.or_eq_true,UW,U3,beq_iff_eq]at h k ⊢;rcases h with h|⟨h,h'⟩
  ·rcases k with k|⟨k,k'⟩
   ·exact .inl (UInt8.lt_trans h k)
   exact .inl (k ▸ h)
  rcases k with k|⟨k,k'⟩
  ·exact .inl (h ▸ k)
  exact .inr ⟨h.trans k,lt_trans x y z h' k'⟩
theorem lt_total:∀x y:List UInt8,x≠y->Op.bytesLess x y=true\/Op.bytesLess y x=true
 | [],[],h=>absurd rfl h
 | [],_::_,_=>.inl rfl
 | _::_,[],_=>.inr rfl
 | a::x,b::y,h=>by
  simp only[Op.bytesLess,Bool.or_eq_true,UW,U3,beq_iff_eq];by_cases e:a=b
  ·subst e;rcases lt_total x y (fun e=>h (by rw[e])) with k|k
   ·exact .inl (.inr ⟨rfl,k⟩)
   exact .inr (.inr ⟨rfl,k⟩)
  rcases Nat.lt_or_gt_of_ne (fun k=>e (UInt8.toNat_inj.1 k)) with k|k
  ·exact .inl (.inl k)
  exact .inr (.inl k)
end Go.Proofs.YtajkkeikihhejaaGreat.Ls
namespace Go.Proofs.YtajkkeikihhejaaGreat
set_option linter.unusedVariables false
section
variable  {α:Type}{lt:α->α->Bool}
def xD(lt:α->α->Bool)(r:α):List α->List α
 | []=>[r]
 | x::xs=>if lt x r then x::xD lt r xs else r::x::xs
def ni(lt:α->α->Bool)(rs:List α):List α:=rs.foldl (fun out r=>xD lt r out) []
theorem EZ{r:α}:∀{xs:List α} {p:Nat},p<=xs.length->(∀(i:Nat) (h:i<xs.length),i<p->lt xs[i] r=true)->(∀h:p<xs.length,lt xs[p] r=false)->xD lt r xs=xs.take p++r::xs.drop p
 | [],p,hp,_,_=>by
  obtain rfl:p=0:=by simpa using hp
  rfl
 | x::xs,0,_,_,h2=>by
  have:=h2 (by simp);simp only[List.getElem_cons_zero]at this;simp[xD,this]
 | x::xs,p+1,hp,h1,h2=>by
  have h0:=h1 0 (by simp) (by omega);simp only[List.getElem_cons_zero]at h0;have ih:=EZ (r:=r) (xs:=xs) (p:=p) (by simpa using hp) (fun i h hi=>h1 (i+1) (by simpa using h) (by omega)) (fun h=>h2 (by simpa using h));simp[xD,h0,ih]
theorem DF(r:α):∀xs:List α,(xD lt r xs).Perm (r::xs)
 | []=>List.Perm.refl _
 | x::xs=>by
  unfold xD;split
  ·exact((DF r xs).cons x).trans (List.Perm.swap _ _ _)
  exact List.Perm.refl _
theorem AZ:∀(rs acc:List α),(rs.foldl (fun out r=>xD lt r out) acc).Perm (rs++acc)
 | [],acc=>List.Perm.refl _
 | r::rs,acc=>(AZ rs (xD lt r acc)).trans (((DF r acc).append_left rs).trans List.perm_middle)
theorem mi(rs:List α):(ni lt rs).Perm rs:=by simpa[ni] using AZ rs []
theorem JF(rs:List α)(r:α):ni lt (rs++[r])=xD lt r (ni lt rs):=by unfold ni;rw[List.foldl_append];rfl
structure OrdO(lt:α->α->Bool)(rs:List α):Prop where
 trans:∀x∈rs,∀y∈rs,∀z∈rs,lt x y=true->lt y z=true->lt x z=true
 asymm:∀x∈rs,∀y∈rs,lt x y=true->lt y x=false
 total:∀x∈rs,∀y∈rs,x≠y->lt x y=true\/lt y x=true
theorem OrdO.mono{rs qs:List α}(h:OrdO lt rs)(hs:∀x∈qs,x∈rs):OrdO lt qs :=
 ⟨fun x hx y hy z hz=>h.trans x (hs x hx) y (hs y hy) z (hs z hz),fun x hx y hy=>h.asymm x (hs x hx) y (hs y hy),fun x hx y hy=>h.total x (hs x hx) y (hs y hy)⟩
end
open RowKit
theorem Tz{P:Program}{ops:Array Oper}{Q:Exit->Act->World->Prop}{md:Region.Mode}{S:World->Prop}{i:Nat}{oi:Oper}{v:Value}{fuel:Nat}{listed:Array Bool}{a:Act}{w:af}(d:Nat)(hi:ops[i]?=some oi)(hd:oi.dst=some d)
  (hs:Region.noSelect ops=true) (hf:Region.free md ops listed i=true) (hr:(Region.ready md ops listed).contains i=true)
  (hQ:∀c a w,Q (.panic c) (a.put oi.dst v) w->Q (.panic c) a w) (hy:YieldsIf P ops S oi v a) (hS:S w)
  (h:wpAnyH P md ops Q S fuel (listed.setIfInBounds i true) (a.put (some d) v) w):wpAnyH P md ops Q S (fuel+1) listed a w :=
 wpAnyH_take hi hs hf hr hQ hy hS (by rw[hd];exact h)
theorem tk{P:Program}{ops:Array Oper}{Q:Exit->Act->World->Prop}{md:Region.Mode}{S:World->Prop}{oi:Oper}{v:Value}{fuel:Nat}{listed:Array Bool}{a:Act}{w:af}(i d:Nat)
  (h:wpAnyH P md ops Q S fuel (listed.setIfInBounds i true) (a.put (some d) v) w) (hi:ops[i]?=some oi:=by rfl) (hd:oi.dst=some d:=by rfl) (hs:Region.noSelect ops=true:=by kernel_rfl) (hf:Region.free md ops listed i=true:=by kernel_rfl) (hr:(Region.ready md ops listed).contains i=true:=by kernel_rfl)
  (hQ:∀c a w,Q (.panic c) (a.put oi.dst v) w->Q (.panic c) a w:=by exact fun _ _ _ h=>h) (hy:YieldsIf P ops S oi v a:=by refine Or.inl ⟨by rfl,?_⟩;intro w hSw;(try dsimp only at hSw);go_simp<;>with_reducible rfl) (hS:S w:=by assumption):wpAnyH P md ops Q S (fuel+1) listed a w :=
 Tz d hi hd hs hf hr hQ hy hS h
open Pl
def pW(es:Q09):List Int->Nat->Nat->Prop
 | [],a,b=>a=b
 | k::ks,a,b=>0<=k/\ay es k.toNat=(a:Int)/\pW es ks (k.toNat+1) b
theorem A7{es:Q09}:∀(ks:List Int) (k:Int) (a m b:Nat),pW es ks a m->0<=k->ay es k.toNat=(m:Int)->k.toNat+1=b->pW es (ks++[k]) a b
 | [],k,a,m,b,h,h0,h1,h2=>by
  have:a=m:=h;subst this;exact⟨h0,h1,h2⟩
 | x::ks,k,a,m,b,h,h0,h1,h2=>⟨h.1,h.2.1,A7 ks k _ m b h.2.2 h0 h1 h2⟩
theorem GN{es:Q09}{n:Nat}:∀(rs:List Int) (b:Nat),b<=n->0<=dA (dC es n) rs ((b:Int)-1)->pW es rs.reverse (dA (dC es n) rs ((b:Int)-1)).toNat b
 | [],b,_,h=>by simp[dA,pW]
 | k::rs,b,hb,h=>by
  unfold dA at h⊢;split at h
  ·omega
  rename_i c;rw[if_neg c];split at h
  ·omega
  rename_i c2;rw[if_neg c2];have h0:0<=(b:Int)-1:=by omega
  have hk:k=(b:Int)-1:=by omega
  have hF:dC es n ((b:Int)-1)=ay es ((b:Int)-1).toNat:=by unfold dC;rw[if_pos ⟨h0,by omega⟩]
  have hle:=fV es ((b:Int)-1).toNat;rw[hF]at h c2 ⊢;obtain⟨m,hm⟩:∃m:Nat,ay es ((b:Int)-1).toNat=(m:Int):=⟨(ay es ((b:Int)-1).toNat).toNat,by omega⟩;rw[hm]at h hle ⊢;rw[List.reverse_cons];exact A7 _ k _ m b (GN rs m (by omega) h) (by omega) (by rw[hk,hm]) (by omega)
theorem mo{es:Q09}{n:Nat}(h:0<=ay es n):pW es (dm es n) (ay es n).toNat n:=by
 rw[jk]at h ⊢;have:=GN (dm es n).reverse n (UU _) h;rw[List.reverse_reverse]at this;exact this
theorem og{es:Q09}:∀(ks:List Int) (a b:Nat),pW es ks a b->a<=b/\∀k∈ks,0<=k/\k.toNat<b
 | [],a,b,h=>⟨Nat.le_of_eq h,fun k hk=>by cases hk⟩
 | x::ks,a,b,h=>by
  obtain⟨h1,h2⟩:=og ks _ b h.2.2;have:=fV es x.toNat;have h3:=h.2.1;refine⟨by omega,fun k hk=>?_⟩;rcases U9.1 hk with rfl|hk
  ·exact⟨h.1,by omega⟩
  exact h2 k hk
theorem A8{es:Q09}:∀(ks:List Int) (a b:Nat),pW es ks a b->(ks.length:Int)<=(b:Int)-a/\∀k∈ks,(k.toNat:Int)-ay es k.toNat+(ks.length:Int)<=(b:Int)-a
 | [],a,b,h=>by
  have:a=b:=h;exact⟨by simp;omega,fun k hk=>by cases hk⟩
 | x::ks,a,b,h=>by
  obtain⟨h1,h2⟩:=A8 ks _ b h.2.2;have h3:=fV es x.toNat;have h4:=h.2.1;rw[Vq];refine⟨by omega,fun k hk=>?_⟩;rcases U9.1 hk with rfl|hk
  ·omega
  have:=h2 k hk;omega
theorem Pg{es:Q09}{n d:Nat}(ht:0<=ay es n)(h2:2<=(dm es n).length)(hd:(n:Int)-ay es n+1<2*((d+1:Nat):Int)):∀k∈dm es n,(k.toNat:Int)-ay es k.toNat+1<2*(d:Int):=fun k hk=>by
 have h:=(A8 _ _ _ (mo ht)).2 k hk;omega
theorem Mq{es:Q09}(h:aL es=true):∀j,j<es.length->0<=ay es j:=by
 rw[rC]at h;unfold kD at h;simp only[UW,U3]at h;have h1:=h.2.1;unfold iZ at h1;rw[U5]at h1;intro j hj;simpa using h1 j (by simpa using hj)
section
variable  {φ:Type}[DecidableEq φ]{rk:φ->Int}{H:List φ->φ->Bool}{qs:Nat->List φ}
def Lay(rk:φ->Int)(H:List φ->φ->Bool):Prop:=∀(a b:List φ) (f:φ),(∀g,rk g<rk f->(g∈a↔g∈b))->(∀g,rk g=rk f->g∈a->g∈b)->H a f=true->H b f=true
def vW(H:List φ->φ->Bool)(qs:Nat->List φ):Nat->List φ
 | 0=>[]
 | n+1=>kH H (qs n) (vW H qs n)
theorem vX(q out:List φ):∃new,kH H q out=out++new/\∀g∈new,g∈q:=xe q _ out
theorem GQ(hq:∀n,∀f∈qs n,rk f=(n:Int)):∀N,∀f∈vW H qs N,rk f<(N:Int)
 | 0,f,h=>by cases h
 | N+1,f,h=>by
  obtain⟨new,e,hn⟩:=vX (H:=H) (qs N) (vW H qs N);rw[vW,e]at h;rcases U6.1 h with h|h
  ·have:=GQ hq N f h;omega
  have:=hq N f (hn f h);omega
theorem E5{n:Nat}{f:φ}(h:f∈vW H qs n):∀d,f∈vW H qs (n+d)
 | 0=>h
 | d+1=>by
  obtain⟨new,e,-⟩:=vX (H:=H) (qs (n+d)) (vW H qs (n+d));show f∈kH H (qs (n+d)) (vW H qs (n+d));rw[e];exact VJ _ (E5 h d)
theorem A9(hq:∀n,∀f∈qs n,rk f=(n:Int)){n:Nat}{f:φ}(hr:rk f<(n:Int)):∀d,f∈vW H qs (n+d)->f∈vW H qs n
 | 0,h=>h
 | d+1,h=>by
  obtain⟨new,e,hn⟩:=vX (H:=H) (qs (n+d)) (vW H qs (n+d));have h:f∈kH H (qs (n+d)) (vW H qs (n+d)):=h;rw[e]at h;rcases U6.1 h with h|h
  ·exact A9 hq hr d h
  have:=hq _ f (hn f h);omega
def Good(rk:φ->Int)(H:List φ->φ->Bool)(n:Int)(s:List φ):Prop:=∀g∈s,rk g=n->H s g=true
theorem good_step(hL:Lay rk H){n:Int}{s:List φ}{f:φ}(h:Good rk H n s)(hf:rk f=n):Good rk H n (eF H s f):=by
 unfold eF;split
 ·exact h
 rename_i hn;have hH:H s f=true:=by
  cases e:H s f;case true=>rfl
  exact absurd (.inr e) hn
 have low:∀g:φ,rk g=n->∀x,rk x<rk g->(x∈s↔x∈s++[f]):=fun g hg x hx=>by
  refine⟨fun h=>VJ _ h,fun h=>?_⟩;rcases U6.1 h with h|h
  ·exact h
  rw[U4]at h;rw[h]at hx;omega
 intro g hg hgn;rcases U6.1 hg with hg|hg
 ·exact hL s _ g (low g hgn) (fun x _ hx=>VJ _ hx) (h g hg hgn)
 rw[U4]at hg;subst hg;exact hL s _ g (low g hgn) (fun x _ hx=>VJ _ hx) hH
theorem GR(hL:Lay rk H){n:Int}:∀(q:List φ) {s:List φ},(∀f∈q,rk f=n)->Good rk H n s->Good rk H n (bR H q s)
 | [],_,_,h=>h
 | f::q,s,hq,h=>GR hL q (fun g hg=>hq g (Vv _ hg)) (good_step hL h (hq f (VD ..)))
theorem DI(hL:Lay rk H){n:Int}(q:List φ)(hq:∀f∈q,rk f=n):∀(k:Nat) {s:List φ},Good rk H n s->Good rk H n (jI H q k s)
 | 0,_,h=>h
 | k+1,s,h=>by
  unfold jI;split
  ·exact h
  exact DI hL q hq k (GR hL q hq h)
theorem Rp(hL:Lay rk H)(hq:∀n,∀f∈qs n,rk f=(n:Int))(n:Nat):Good rk H (n:Int) (vW H qs (n+1)):=by
 refine DI hL (qs n) (hq n) _ fun g hg hgn=>?_;have:=GQ hq n g hg;omega
theorem La(hL:Lay rk H)(hq:∀n,∀f∈qs n,rk f=(n:Int)){n:Nat}{f:φ}(hf:rk f=(n:Int))(d:Nat):H (vW H qs (n+1)) f=true↔H (vW H qs (n+1+d)) f=true:=by
 have same:∀g,rk g<=(n:Int)->(g∈vW H qs (n+1)↔g∈vW H qs (n+1+d)):=fun g hg=>⟨fun h=>E5 h d,fun h=>A9 hq (by omega) d h⟩;refine⟨hL _ _ f (fun g hg=>same g (by omega)) (fun g hg h=>(same g (by omega)).1 h),hL _ _ f (fun g hg=>(same g (by omega)).symm) (fun g hg h=>(same g (by omega)).2 h)⟩
theorem Lb(hq:∀n,∀f∈qs n,rk f=(n:Int)):∀N,∀f∈vW H qs N,∃n,n<N/\f∈qs n
 | 0,f,h=>by cases h
 | N+1,f,h=>by
  obtain⟨new,e,hn⟩:=vX (H:=H) (qs N) (vW H qs N);rw[vW,e]at h;rcases U6.1 h with h|h
  ·obtain⟨n,h1,h2⟩:=Lb hq N f h;exact⟨n,by omega,h2⟩
  exact⟨N,by omega,hn f h⟩
theorem Ms(hL:Lay rk H)(hq:∀n,∀f∈qs n,rk f=(n:Int)){N:Nat}{f:φ}(h:f∈vW H qs N):H (vW H qs N) f=true:=by
 obtain⟨n,hn,hf⟩:=Lb hq N f h;have hr:=hq n f hf;obtain⟨d,rfl⟩:∃d,N=n+1+d:=⟨N-(n+1),by omega⟩;rw[<-La hL hq hr d];exact Rp hL hq n f (A9 hq (by omega) d h) hr
theorem Ph(hL:Lay rk H)(hq:∀n,∀f∈qs n,rk f=(n:Int)){N n:Nat}(hn:n<N){f:φ}(hf:f∈qs n)(h:H (vW H qs N) f=true):f∈vW H qs N:=by
 have hr:=hq n f hf;obtain⟨d,rfl⟩:∃d,N=n+1+d:=⟨N-(n+1),by omega⟩;rw[<-La hL hq hr d]at h;have hfix:=Oq (H:=H) (qs n) (vW H qs n);rcases (Cf.1 hfix) f hf with h1|h1
 ·exact E5 (show f∈vW H qs (n+1) from h1) d
 have h:H (kH H (qs n) (vW H qs n)) f=true:=h;rw[h1]at h;cases h
end
theorem Ba{es:Q09}:∀(ks:List Int) (a b j:Nat),pW es ks a b->a<=j->j<b->∃k∈ks,ay es k.toNat<=(j:Int)/\j<=k.toNat/\(a:Int)<=ay es k.toNat
 | [],a,b,j,h,h1,h2=>by
  have:a=b:=h;omega
 | x::ks,a,b,j,h,h1,h2=>by
  obtain⟨h3,h4,h5⟩:=h;by_cases hj:j<=x.toNat
  ·exact⟨x,by simp,by omega,hj,by omega⟩
  obtain⟨k,hk,e1,e2,e3⟩:=Ba ks _ b j h5 (by omega) h2;have:=fV es x.toNat;exact⟨k,by simp[hk],e1,e2,by omega⟩
theorem Bb{es:Q09}:∀(ks:List Int) (a b:Nat),pW es ks a b->∀k∈ks,a<=k.toNat
 | [],_,_,_,k,hk=>by cases hk
 | x::ks,a,b,h,k,hk=>by
  obtain⟨h3,h4,h5⟩:=h;have:=fV es x.toNat;rcases U9.1 hk with rfl|hk
  ·omega
  have:=Bb ks _ b h5 k hk;omega
theorem qM{es:Q09}:∀(ks:List Int) (a b:Nat),pW es ks a b->∀(p:Nat) (hp:p<ks.length),pW es (ks.drop (p+1)) (ks[p].toNat+1) b/\0<=ks[p]
 | [],_,_,_,p,hp=>by simp at hp
 | x::ks,a,b,h,0,_=>⟨h.2.2,h.1⟩
 | x::ks,a,b,h,p+1,hp=>by
  have:=qM ks _ b h.2.2 p (by simpa using hp);simpa using this
theorem Mt{es:Q09}(ht:∀j,j<es.length->0<=ay es j):∀(n:Nat),n<es.length->∀j:Nat,ay es n<=(j:Int)->j<=n->ay es n<=ay es j:=by
 intro n
 induction n using Nat.strongRecOn with
 | _ n ih =>
  intro hn j h1 h2;by_cases e:j=n
  ·rw[e];exact Int.le_refl _
  have hc:=mo (ht n hn);obtain⟨k,hk,e1,e2,e3⟩:=Ba _ _ _ j hc (by have:=ht n hn;omega) (by omega);have hlt:=(og _ _ _ hc).2 k hk;have:=ih k.toNat hlt.2 (by omega) j e1 e2;have:=ht n hn;omega
theorem JG{es:Q09}(ht:∀j,j<es.length->0<=ay es j){i j:Nat}(hi:i<es.length)(hj:j<i){x y:Int}(hx:x∈dm es i)(hy:y∈dm es j):x.toNat≠y.toNat:=by
 intro e;have ci:=mo (ht i hi);have cj:=mo (ht j (by omega));obtain⟨p,hp,rfl⟩:=VI hx;obtain⟨h1,h2⟩:=qM _ _ _ ci p hp;have hyj:=(og _ _ _ cj).2 y hy;have hyg:=Bb _ _ _ cj y hy;obtain⟨k,hk,e1,e2,e3⟩:=Ba _ _ _ j h1 (by omega) hj;have hk2:=(og _ _ _ ci).2 k (List.mem_of_mem_drop hk);have:=Mt ht k.toNat (by omega) j e1 e2;have:=ht j (by omega);omega
theorem JH{es:Q09}{i:Nat}(h:0<=ay es i)(p q:Nat)(hp:p<(dm es i).length)(hq:q<(dm es i).length)(hpq:p<q):(dm es i)[p].toNat<(dm es i)[q].toNat:=by
 have h1:=(qM _ _ _ (mo h) p hp).1;refine Bb _ _ _ h1 _ ?_;rw[List.mem_drop_iff_getElem];exact⟨q-(p+1),by omega,by congr 1;omega⟩
theorem kw(i:Nat)(kind:Int):∀(xs:List Int) (k:Nat) (out:List Bool) (z:Nat),(∀x∈xs,x.toNat≠z)->(bC i kind xs k out).getD z false=out.getD z false
 | [],_,_,_,_=>rfl
 | x::xs,k,out,z,h=>by
  rw[bC,kw i kind xs (k+1) _ z fun y hy=>h y (Vv _ hy)];simp only[Vn,List.getElem?_set_ne (h x (VD ..))]
theorem Bc(i:Nat)(kind:Int):∀(xs:List Int) (k:Nat) (out:List Bool),(∀(p q:Nat) (hp:p<xs.length) (hq:q<xs.length),p<q->xs[p].toNat≠xs[q].toNat)->(∀x∈xs,x.toNat≠i)->(∀x∈xs,x.toNat<out.length)->∀(p:Nat) (hp:p<xs.length),(bC i kind xs k out).getD xs[p].toNat false=(out.getD i false || (kind==6&&(k+p)==1))
 | [],_,_,_,_,_,p,hp=>by simp at hp
 | x::xs,k,out,hd,hi,hl,p,hp=>by
  have hxi:=hi x (VD ..);have hxl:=hl x (VD ..);have hgi:(out.set x.toNat (out.getD i false || (kind==6&&k==1))).getD i false=out.getD i false:=by
   rw[Vn,Vn,List.getElem?_set_ne hxi]
  rw[bC];cases p with
  | zero =>
   rw[List.getElem_cons_zero,kw i kind xs (k+1) _ x.toNat fun y hy=>?_]
   ·rw[Vn,List.getElem?_set_self hxl];rfl
   obtain⟨q,hq,rfl⟩:=VI hy;exact(hd 0 (q+1) (by simp) (by simpa using hq) (by omega)).symm
  | succ p =>
   have:=Bc i kind xs (k+1) (out.set x.toNat (out.getD i false || (kind==6&&k==1))) (fun a b ha hb hab=>hd (a+1) (b+1) (by simpa using ha) (by simpa using hb) (by omega)) (fun y hy=>hi y (Vv _ hy)) (fun y hy=>by rw[List.length_set];exact hl y (Vv _ hy)) p (by simpa using hp);rw[List.getElem_cons_succ,this,hgi,show k+1+p=k+(p+1) by omega]
theorem o9(es:Q09):∀(m:Nat) (out:List Bool) (z:Nat),(∀j,j<m->∀x∈dm es j,x.toNat≠z)->(dW es m out).getD z false=out.getD z false
 | 0,_,_,_=>rfl
 | m+1,out,z,h=>by
  rw[dW,o9 es m _ z fun j hj=>h j (by omega)];cases e:es[m]? with
  | none=>rfl
  | some x=>exact kw m x.kind x.kids 0 out z fun y hy=>h m (by omega) y (by unfold dm;rw[e];exact hy)
theorem vY(es:Q09)(i:Nat):∀(d:Nat) (out:List Bool),∃out':List Bool,out'.length=out.length/\dW es (i+d) out=dW es i out'
 | 0,out=>⟨out,rfl,rfl⟩
 | d+1,out=>by
  obtain⟨o',h1,h2⟩:=vY es i d (match es[i+d]? with|none=>out|some e=>bC (i+d) e.kind e.kids 0 out);refine⟨o',?_,h2⟩;rw[h1];cases es[i+d]? with
  | none=>rfl
  | some e=>exact x8 _ _ _ _ _
theorem Lc{es:Q09}(ht:∀j,j<es.length->0<=ay es j){i:Nat}(hi:i<es.length)(p:Nat)(hp:p<es[i].kids.length):(dD es).getD es[i].kids[p].toNat false=((dD es).getD i false || (es[i].kind==6&&p==1)):=by
 have hk:dm es i=es[i].kids:=by unfold dm;rw[U1 hi];rfl
 have hlow:∀j,j<es.length->∀x∈dm es j,x.toNat<j:=fun j hj x hx=>((og _ _ _ (mo (ht j hj))).2 x hx).2;obtain⟨o',h1,h2⟩:=vY es (i+1) (es.length-(i+1)) (List.replicate es.length false);rw[show i+1+(es.length-(i+1))=es.length by omega]at h2;have hN:dD es=dW es i (bC i es[i].kind es[i].kids 0 o'):=by
  unfold dD;rw[h2,dW,U1 hi]
 have hmem:es[i].kids[p]∈dm es i:=by rw[hk];exact UR hp
 have hA:(dD es).getD es[i].kids[p].toNat false=(bC i es[i].kind es[i].kids 0 o').getD es[i].kids[p].toNat false:=by
  rw[hN];exact o9 es i _ _ fun j hj x hx e=>JG ht hi hj hmem hx e.symm
 have hB:(dD es).getD i false=o'.getD i false:=by
  rw[hN,o9 es i _ i fun j hj x hx=>by have:=hlow j (by omega) x hx;omega];exact kw i _ _ 0 o' i fun x hx=>by have:=hlow i hi x (by rw[hk];exact hx);omega
 rw [hA,hB,Bc i es[i].kind es[i].kids 0 o' (fun a b ha hb hab=>by
   have:=JH (ht i hi) a b (by rw[hk];exact ha) (by rw[hk];exact hb) hab;simp only[hk]at this;omega) (fun x hx=>by have:=hlow i hi x (by rw[hk];exact hx);omega) (fun x hx=>by have:=hlow i hi x (by rw[hk];exact hx);rw[h1];simp;omega) p hp,Vj]
def yR(es:Q09)(i:Nat):Int:=if (dD es).getD i false then 1 else 0
structure NodeR(l:Q05)(rk:Fc->Int)(es:Q09)(f:Fc):Prop where
 ht:∀j,j<es.length->0<=ay es j
 q1:∀i (hi:i<es.length),es[i].kind=1->∀t∈l,(t.a.toList==f.a.toList&&t.b.toList==f.b.toList&&t.r.toList==f.r.toList)=true->t.s.toList.isEmpty=false->rk ⟨t.c,t.d,t.s,f.c,f.d⟩+yR es i<=rk f
 q2:∀i (hi:i<es.length),es[i].kind=2->rk ⟨f.a,f.b,es[i].name,f.c,f.d⟩+yR es i<=rk f
 q3:∀i (hi:i<es.length),es[i].kind=3->∀t∈l,(t.a.toList==f.a.toList&&t.b.toList==f.b.toList&&t.r.toList==es[i].over.toList)=true->rk ⟨t.c,t.d,es[i].name,f.c,f.d⟩+yR es i<=rk f
 k6:∀i (hi:i<es.length),es[i].kind=6->es[i].kids.length=2
section
variable  {l:Q05}{rk:Fc->Int}{es:Q09}{f:Fc}
def DJ(rk:Fc->Int)(r:Int)(a b:Q04):Prop:=∀g:Fc,rk g<r->(g∈a↔g∈b)
def SH(rk:Fc->Int)(r:Int)(a b:Q04):Prop:=∀g:Fc,rk g<=r->g∈a->g∈b
theorem uu{a b:Q04}{r:Int}(h:DJ rk r a b){g:Fc}(hg:rk g<r):bB a g=bB b g:=by
 rw[Vd,cZ,cZ];exact h g hg
theorem uw{a b:Q04}{r:Int}(h:SH rk r a b){g:Fc}(hg:rk g<=r)(hh:bB a g=true):bB b g=true:=cZ.2 (h g hg (cZ.1 hh))
theorem E8{α:Type}{p q:α->Bool}{xs:List α}(h:∀x∈xs,p x=q x):xs.any p=xs.any q:=by
 rw[Vd,Vk,Vk];exact⟨fun⟨x,hx,e⟩=>⟨x,hx,by rw[<-h x hx];exact e⟩,fun⟨x,hx,e⟩=>⟨x,hx,by rw[h x hx];exact e⟩⟩
theorem Rq{α:Type}{p q:α->Bool}{xs:List α}(h:∀x∈xs,p x=q x):xs.all p=xs.all q:=by
 rw[Vd,U5,U5];exact⟨fun e x hx=>by rw[<-h x hx];exact e x hx,fun e x hx=>by rw[h x hx];exact e x hx⟩
theorem NodeR.kid(h:NodeR l rk es f){i:Nat}(hi:i<es.length){p:Nat}(hp:p<es[i].kids.length):es[i].kids[p].toNat<es.length:=by
 have hk:dm es i=es[i].kids:=by unfold dm;rw[U1 hi];rfl
 have:=((og _ _ _ (mo (h.ht i hi))).2 es[i].kids[p] (by rw[hk];exact UR hp)).2;omega
theorem NodeR.same(h:NodeR l rk es f){ta tb:Q04}(hT:DJ rk (rk f) ta tb):∀(k:Nat) (a b:Q04) (i:Nat),DJ rk (rk f) a b->i<es.length->(dD es).getD i false=true->di l es ta f k a i=di l es tb f k b i
 | 0,_,_,_,_,_,_=>rfl
 | k+1,a,b,i,hS,hi,hg=>by
  have hng:yR es i=1:=by unfold yR;rw[hg];rfl
  have WJ:∀x∈es[i].kids,∀a b,DJ rk (rk f) a b->di l es ta f k a x.toNat=di l es tb f k b x.toNat:=fun x hx a b hS=>by
   obtain⟨p,hp,rfl⟩:=VI hx;exact h.same hT k a b _ hS (h.kid hi hp) (by rw[Lc h.ht hi p hp,hg];rfl)
  unfold di;rw[U1 hi];simp only;by_cases e1:es[i].kind=1
  ·rw[if_pos e1,if_pos e1];refine E8 fun t ht=>?_;cases hm:(t.a.toList==f.a.toList&&t.b.toList==f.b.toList&&t.r.toList==f.r.toList);case false=>rfl
   cases hs:t.s.toList.isEmpty;case true=>rfl
   have:=h.q1 i hi e1 t ht hm hs;simp only[Bool.false_eq_true,if_false];rw[uu hS (g:=⟨t.c,t.d,t.s,f.c,f.d⟩) (by omega)]
  rw[if_neg e1,if_neg e1];by_cases e2:es[i].kind=2
  ·rw[if_pos e2,if_pos e2];have:=h.q2 i hi e2;exact uu hS (by omega)
  rw[if_neg e2,if_neg e2];by_cases e3:es[i].kind=3
  ·rw[if_pos e3,if_pos e3];refine E8 fun t ht=>?_;cases hm:(t.a.toList==f.a.toList&&t.b.toList==f.b.toList&&t.r.toList==es[i].over.toList);case false=>rfl
   have:=h.q3 i hi e3 t ht hm;rw[uu hS (g:=⟨t.c,t.d,es[i].name,f.c,f.d⟩) (by omega)]
  rw[if_neg e3,if_neg e3];by_cases e4:es[i].kind=4
  ·rw[if_pos e4,if_pos e4];exact E8 fun x hx=>WJ x hx a b hS
  rw[if_neg e4,if_neg e4];by_cases e5:es[i].kind=5
  ·rw[if_pos e5,if_pos e5];exact Rq fun x hx=>WJ x hx a b hS
  rw[if_neg e5,if_neg e5];by_cases e6:es[i].kind=6
  ·rw[if_pos e6,if_pos e6];have hl:=h.k6 i hi e6;have hx:∀q,q<2->es[i].kids.getD q 0∈es[i].kids:=fun q hq=>by
    rw[Vn,U1 (by omega)];exact UR _
   rw[WJ _ (hx 0 (by omega)) a b hS,WJ _ (hx 1 (by omega)) ta tb hT]
  rw[if_neg e6,if_neg e6]
theorem NodeR.more(h:NodeR l rk es f){ta tb:Q04}(hT:DJ rk (rk f) ta tb):∀(k:Nat) (a b:Q04) (i:Nat),DJ rk (rk f) a b->SH rk (rk f) a b->i<es.length->di l es ta f k a i=true->di l es tb f k b i=true
 | 0,_,_,_,_,_,_,hh=>by cases hh
 | k+1,a,b,i,hS,hM,hi,hh=>by
  have hng:0<=yR es i:=by unfold yR;split<;>omega
  have WJ:∀x∈es[i].kids,di l es ta f k a x.toNat=true->di l es tb f k b x.toNat=true:=fun x hx=>by
   obtain⟨p,hp,rfl⟩:=VI hx;exact h.more hT k a b _ hS hM (h.kid hi hp)
  unfold di at hh⊢;rw[U1 hi]at hh⊢;simp only at hh⊢;by_cases e1:es[i].kind=1
  ·rw[if_pos e1]at hh ⊢;obtain⟨t,ht,e⟩:=Vk.1 hh;refine Vk.2 ⟨t,ht,?_⟩;rw[UW]at e ⊢;refine⟨e.1,?_⟩;cases hs:t.s.toList.isEmpty;case true=>have:=e.2;rw[hs]at this;exact this
   have h2:=e.2;rw[hs]at h2;simp only[Bool.false_eq_true,if_false]at h2 ⊢;have:=h.q1 i hi e1 t ht e.1 hs;exact uw hM (by omega) h2
  rw[if_neg e1]at hh ⊢;by_cases e2:es[i].kind=2
  ·rw[if_pos e2]at hh ⊢;have:=h.q2 i hi e2;exact uw hM (by omega) hh
  rw[if_neg e2]at hh ⊢;by_cases e3:es[i].kind=3
  ·rw[if_pos e3]at hh ⊢;obtain⟨t,ht,e⟩:=Vk.1 hh;refine Vk.2 ⟨t,ht,?_⟩;rw[UW]at e ⊢;have:=h.q3 i hi e3 t ht e.1;exact⟨e.1,uw hM (by omega) e.2⟩
  rw[if_neg e3]at hh ⊢;by_cases e4:es[i].kind=4
  ·rw[if_pos e4]at hh ⊢;obtain⟨x,hx,e⟩:=Vk.1 hh;exact Vk.2 ⟨x,hx,WJ x hx e⟩
  rw[if_neg e4]at hh ⊢;by_cases e5:es[i].kind=5
  ·rw[if_pos e5]at hh ⊢;exact U5.2 fun x hx=>WJ x hx (U5.1 hh x hx)
  rw[if_neg e5]at hh ⊢;by_cases e6:es[i].kind=6
  ·rw[if_pos e6]at hh ⊢;have hl:=h.k6 i hi e6;have hx:∀q (hq:q<2),es[i].kids.getD q 0=es[i].kids[q]'(by omega):=fun q hq=>by
    rw[Vn,U1 (by omega)];rfl
   rw[UW]at hh ⊢;refine⟨?_,?_⟩
   ·have h0:=hh.1;rw[hx 0 (by omega)]at h0 ⊢;exact WJ _ (UR _) h0
   have h1:=hh.2;rw[hx 1 (by omega)]at h1 ⊢;have hf:(dD es).getD (es[i].kids[1]'(by omega)).toNat false=true:=by
    rw[Lc h.ht hi 1 (by omega),e6];simp
   rw[<-h.same hT k ta tb _ hT (h.kid hi (by omega)) hf];exact h1
  rw[if_neg e6]at hh;cases hh
end
theorem Mv{ts:Q0b}{l:Q05}{rk:Fc->Int}(hn:∀f:Fc,aB ts f.a f.r≠[]->NodeR l rk (aB ts f.a f.r) f):Lay rk (fT ts l):=fun a b f h1 h2 hh=>by
 by_cases he:aB ts f.a f.r=[]
 ·unfold fT at hh;rw[he]at hh;cases hh
 have hpos:(aB ts f.a f.r).length-1<(aB ts f.a f.r).length:=by
  have:(aB ts f.a f.r).length≠0:=fun e=>he (Vb.1 e);omega
 refine(hn f he).more h1 _ a b _ h1 (fun g hg hm=>?_) hpos hh;by_cases e:rk g=rk f
 ·exact h2 g e hm
 exact(h1 g (by omega)).1 hm
def QU(ts:Q0b)(st:Q00)(g:Fc):Int:=if hasB ts g.a g.r then st (g.a,g.r) else -1
def Pi(ts:Q0b)(t:Tp):Bool:=(aB ts t.a t.r).any fun e=>decide (e.kind=1)&&dJ e.allow e.allow.length ⟨t.c,t.s⟩
theorem GU{ts:Q0b}{a r:ByteArray}:hasB ts a r=true↔aB ts a r≠[]:=by
 unfold hasB;cases aB ts a r<;>simp
theorem Bd{ts:Q0b}{typ:ByteArray}{es:Q09}{i:Nat}{d:Dp}(h:d∈iy ts typ es i):∀k,i<k->d∈aR ts typ es k
 | 0,hi=>absurd hi (VL _)
 | k+1,hi=>by
  unfold aR;by_cases e:i=k
  ·subst e;exact List.mem_append_right _ h
  exact VJ _ (Bd h k (by omega))
theorem Be{ng:Bool}{a:Al}:∀{xs:Q0a},a∈xs->a.s.toList.isEmpty=false->(⟨a.t,a.s,ng⟩:Dp)∈dz ng xs
 | [],h,_=>by cases h
 | x::xs,h,hs=>by
  unfold dz;rcases U9.1 h with rfl|h
  ·rw[if_neg (by rw[hs];decide)];exact VD ..
  split
  ·exact Be h hs
  exact Vv _ (Be h hs)
theorem Pj{ts:Q0b}{rel:ByteArray}{a:Al}:∀{xs:Q0a},a∈xs->hasB ts a.t rel=true->a.t∈gl ts rel xs
 | [],h,_=>by cases h
 | x::xs,h,hs=>by
  unfold gl;rcases U9.1 h with rfl|h
  ·rw[if_neg (by unfold hasB at hs;simpa using hs)];exact VD ..
  split
  ·exact Pj h hs
  exact Vv _ (Pj h hs)
theorem DK{xs:Q0a}{c s:ByteArray}(h:dJ xs xs.length ⟨c,s⟩=true):(⟨c,s⟩:Al)∈xs:=by
 unfold dJ at h;rw[Va]at h;obtain⟨a,ha,e⟩:=Vk.1 h;unfold jV at e;rw[UW,beq_iff_eq,beq_iff_eq]at e;have:a=⟨c,s⟩:=by
  cases a;simp only at e;rw[gG e.1,gG e.2]
 rw[<-this];exact ha
theorem Rs{es:Q09}(h:own es<=1){i j:Nat}(hi:i<es.length)(hj:j<es.length)(ki:es[i].kind=1)(kj:es[j].kind=1):i=j:=by
 have key:∀(es:Q09) (i j:Nat) (hi:i<es.length) (hj:j<es.length),es[i].kind=1->es[j].kind=1->i<j->2<=own es:=by
  intro es
  induction es with
  | nil=>intro i j hi;simp at hi
  | cons e es ih =>
   intro i j hi hj ki kj hij;unfold own;rw[VW];cases j with
   | zero=>omega
   | succ j =>
    have kj':(es[j]'(by simpa using hj)).kind=1:=by simpa using kj
    cases i with
    | zero =>
     have ki':e.kind=1:=by simpa using ki
     have:0<(es.filter fun e=>decide (e.kind=1)).length:=List.length_pos_of_mem (a:=es[j]'(by simpa using hj)) (VM.2 ⟨UR _,by simpa using kj'⟩);simp[ki'];omega
    | succ i =>
     have:=ih i j (by simpa using hi) (by simpa using hj) (by simpa using ki) kj' (by omega);unfold own at this;split
     ·simp;omega
     exact this
 rcases Nat.lt_trichotomy i j with h1|h1|h1
 ·have:=key es i j hi hj ki kj h1;omega
 ·exact h1
 have:=key es j i hj hi kj ki h1;omega
theorem Pk{ts:Q0b}{l:Q05}{st:Q00}(hS:Sol ts st)(hsh:bu ts=true)(hrf:iL ts=true)(hfit:∀t∈l,Pi ts t=true){f:Fc}(hf:aB ts f.a f.r≠[]):NodeR l (QU ts st) (aB ts f.a f.r) f:=by
 obtain⟨es,hes⟩:∃es,es=aB ts f.a f.r:=⟨_,rfl⟩;have hp:eG ts f.a f.r=some es:=by
  rw[hes];cases e:eG ts f.a f.r with
  | none=>unfold aB at hf;rw[e]at hf;exact absurd rfl hf
  | some x=>unfold aB;rw[e];rfl
 obtain⟨t0,ht0,r0,hr0,en,er,ee⟩:=qG hp;have hspec:=(AQ hsh ht0 hr0).2;rw[ee]at hspec;have hk:(f.a,f.r)∈au ts:=by
  unfold au jL;exact U8.2 ⟨t0,ht0,U7.2 ⟨r0,hr0,by rw[en,er]⟩⟩
 have hrk:QU ts st f=st (f.a,f.r):=by unfold QU;rw[if_pos (GU.2 hf)]
 have hup:∀i,i<es.length->∀d∈iy ts f.a es i,st (d.typ,d.rel)+stepOf d<=st (f.a,f.r):=fun i hi d hd=>hS.up _ hk d (by show d∈pV ts f.a (aB ts f.a f.r);rw[<-hes];exact Bd hd _ hi);have hpos:=hS.pos (f.a,f.r);have hng:∀i,0<=yR es i/\yR es i<=1:=fun i=>by unfold yR;split<;>omega
 -- whatever a node asks by a name that it leans on
 have ask:∀i (hi:i<es.length) (g:Fc),(hasB ts g.a g.r=true->(⟨g.a,g.r,(dD es).getD i false⟩:Dp)∈iy ts f.a es i)->QU ts st g+yR es i<=QU ts st f:=fun i hi g h=>by
  rw[hrk];have h1:=hng i;unfold QU;split
  ·rename_i hb;have h2:=hup i hi _ (h hb);unfold stepOf at h2;unfold yR;exact h2
  omega
 rw[<-hes];have hdA:∀i (hi:i<es.length),iy ts f.a es i=dz ((dD es).getD i false) es[i].allow++kZ ts f.a ((dD es).getD i false) es[i]:=fun i hi=>by unfold iy;rw[U1 hi]
 have ZO:=hspec;unfold aL at ZO;simp only[UW,U3]at ZO;obtain⟨⟨⟨⟨⟨-,-⟩,hnb⟩,hku⟩,hown⟩,htr⟩:=ZO;refine⟨fun j hj=>?_,fun i hi k1 t ht hm hs=>?_,fun i hi k2=>?_,fun i hi k3 t ht hm=>?_,fun i hi k6=>?_⟩
 ·exact nD es (es.length-1) (by rw[htr];exact Int.le_refl _) j (by rw[htr];omega) (by omega)
 ·refine ask i hi _ fun hb=>?_;rw[UW,UW,beq_iff_eq,beq_iff_eq,beq_iff_eq]at hm;have h1:=hfit t ht;unfold Pi at h1;rw[gG hm.1.1,gG hm.2,<-hes]at h1;obtain⟨e,he,h2⟩:=Vk.1 h1;rw[UW,U3]at h2;obtain⟨j,hj,rfl⟩:=VI he;have:=Rs hown hi hj k1 h2.1;subst this;rw[hdA i hi];exact VJ _ (Be (DK h2.2) hs)
 ·refine ask i hi _ fun hb=>?_;rw[hdA i hi];refine List.mem_append_right _ ?_;unfold kZ;rw[if_pos k2];exact U4.2 rfl
 ·refine ask i hi _ fun hb=>?_;rw[UW,UW,beq_iff_eq,beq_iff_eq,beq_iff_eq]at hm;have hrn:=(Ri hrf ht0 hr0 (e:=es[i]) (by rw[ee];exact UR hi)).2;unfold lI at hrn;rw[if_neg (by rw[k3];decide),if_pos k3]at hrn;simp only[UW]at hrn;have Zo:=hrn.1;rw[en]at Zo;have h1:=hfit t ht;unfold Pi at h1;rw[gG hm.1.1,gG hm.2]at h1;have hmem:(⟨t.c,t.s⟩:Al)∈aX (aB ts f.a es[i].over):=by
   rcases hre:aB ts f.a es[i].over with _|⟨e,_|⟨e2,rest⟩⟩
   ·rw[hre]at Zo;simp[bH]at Zo
   ·rw[hre]at Zo h1;simp only[bH,UW,U3]at Zo;obtain⟨e',he',h2⟩:=Vk.1 h1;rw[U4]at he';subst he';rw[UW]at h2;simp only[aX,if_pos Zo.1];exact DK h2.2
   rw[hre]at Zo;simp[bH]at Zo
  rw[hdA i hi];refine List.mem_append_right _ ?_;unfold kZ;rw[if_neg (by rw[k3];decide),if_pos k3];exact U7.2 ⟨t.c,Pj (a:=⟨t.c,t.s⟩) hmem hb,rfl⟩
 have h:=U5.1 hnb _ (UR hi);unfold ax at h;simp[k6]at h;exact h.1.1.1
theorem E9{ts:Q0b}{l:Q05}{st:Q00}(hS:Sol ts st)(hsh:bu ts=true)(hrf:iL ts=true)(hfit:∀t∈l,Pi ts t=true):Lay (QU ts st) (fT ts l):=Mv fun f hf=>Pk hS hsh hrf hfit hf
theorem JI{ts:Q0b}{st:Q00}{xo xu:Q0a}{n:Int}(hen:∀k∈au ts,hasB ts k.1 k.2=true){f:Fc}(h:f∈df ts st xo xu n):QU ts st f=n:=by
 unfold df vQ jg AU at h;obtain⟨o,-,h⟩:=U8.1 h;obtain⟨k,hk,h⟩:=U8.1 h;obtain⟨u,-,rfl⟩:=U7.1 h;obtain⟨hk1,hk2⟩:=VM.1 hk;rw[UW,beq_iff_eq,U3]at hk2;have e1:k.1=o.t:=gG hk2.1;have hb:hasB ts o.t k.2=true:=by
  rw[<-e1];exact hen k hk1
 unfold QU;rw[if_pos hb];show st (o.t,k.2)=n;rw[<-e1];exact hk2.2
end Go.Proofs.YtajkkeikihhejaaGreat
