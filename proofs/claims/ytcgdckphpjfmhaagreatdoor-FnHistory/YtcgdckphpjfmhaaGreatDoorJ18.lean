/- What the drawings of texts of expressions answer: some short text. -/
import Derived.Test.YtcgdckphpjfmhaaGreatDoorSq
import Derived.ChangeSlices
import Derived.Deep.Slices
import Derived.Test.YtcgdckphpjfmhaaGreatDoorJ12
import Derived.Test.YtcgdckphpjfmhaaGreatDoorJ6
import Derived.Test.YtcgdckphpjfmhaaGreatDoorJ10
import Derived.RangeFuncNested
import Derived.Test.YtcgdckphpjfmhaaGreatDoorJ9
import Derived.Test.YtcgdckphpjfmhaaGreatDoorShelfS
open Go.Proofs.Tryz
set_option maxHeartbeats 80000000
namespace Go.Proofs.YtcgdckphpjfmhaaGreatDoor
set_option maxRecDepth 100000
open ChangeShapes WideShapes ChangeAt RowKit
open Pl
theorem jK{p:Prop}(h:p):Hid p:=h
theorem JX(R:Nat)(w:ae)(n:Int)(h:n<=1):
  Calls prog 88 #[.pointer (some ⟨R,0,none⟩),.int .i64 n] w fun e w'=>e=.returned (.int .i64 0)/\w'=w:=by
 go_enter func88,ntmps88;go_wp2;go_ret;exact⟨rfl,rfl⟩
theorem gP(R:Nat)(ad:Q02)(len cap:Nat)(n:Nat)(w:ae)(h:Rd w R ad len cap)(h1:1<=n)(h2:n<=256):
  Calls prog 88 #[.pointer (some ⟨R,0,none⟩),.int .i64 (n:Int)] w fun e w'=>(∃x:Nat,e=.returned (.int .i64 (x:Int))/\x<n)/\Rd w' R ad len cap/\Only R w w':=by
 by_cases hn:n=1
 ·subst hn;exact(JX R w 1 (by omega)).mono fun e w' ⟨he,hw⟩=>⟨⟨0,by rw[he];rfl,by omega⟩,by rw[hw];exact h,by rw[hw];exact Only.refl _ _⟩
 exact(bB R ad len cap n w h (by omega) (by omega)).mono fun e w' ⟨⟨x,he,h0,h3⟩,hR,hO⟩=>⟨⟨x.toNat,by rw[he,Int.toNat_of_nonneg h0],by omega⟩,hR,hO⟩
def sG(w:World)(R g n m:Nat):Prop:=g≠R/\g<w.heap.size/\∀o,o<n->∃s:ByteArray,w.cell? ⟨g,o,none⟩=some (.string s)/\s.size<=m
theorem sG.only{w w':ae}{R g n m:Nat}(h:sG w R g n m)(k:Only R w w'):sG w' R g n m :=
 ⟨h.1,Vy h.2.1 k.size,fun o ho=>by obtain⟨s,e,hs⟩:=h.2.2 o ho;exact⟨s,by rw[k.cell h.2.1 h.1];exact e,hs⟩⟩
theorem mQ(w:ae)(R m:Nat)(hR:R<w.heap.size){t:TypeId}{xs:List ByteArray}(h:xs.all (fun x=>decide (x.size<=m))=true):sG (w.alloc (.cells (xs.map Value.string).toArray t)) R w.heap.size xs.length m:=by
 refine⟨by omega,by simp,fun o ho=>⟨xs[o],?_,?_⟩⟩
 ·have:=World.cell?_alloc_mark w (xs.map Value.string).toArray t (0,0) o;rw[this];simp[ho]
 have:=VN.1 h _ (Vz ho);simpa using this
def tB:Nat->Nat
 | 0=>14
 | d+1=>3*tB d+8
theorem sZ(R:Nat)(ad:Q02)(len cap:Nat)(d:Int)(w:ae)(h:Rd w R ad len cap):
  Calls prog 161 #[.pointer (some ⟨R,0,none⟩),.int .i64 d,.bool true] w fun e w'=>(∃t:ByteArray,e=.returned (.string t)/\t.size<=24)/\Rd w' R ad len cap/\Only R w w':=by
 have hRw:=h.lt;have HRD:=jK h;obtain⟨xs,hxs⟩:∃xs:List ByteArray,xs=[⟨#[116,104,105,115,40,117,115,101,114,41]⟩,⟨#[116,104,105,115,40,117,115,101,114,44,103,114,111,117,112,35,109,101,109,98,101,114,41]⟩,⟨#[116,104,105,115,40,117,115,101,114,44,100,111,99,35,101,100,105,116,111,114,41]⟩]:=⟨_,rfl⟩;obtain⟨W0,hW0⟩:∃W0,W0=w.alloc (.cells (xs.map Value.string).toArray 9):=⟨_,rfl⟩;have YT:Hid (sG W0 R w.heap.size 3 24):=by
  show sG _ _ _ _ _;rw[hW0];have:=mQ w R 24 hRw (t:=9) (xs:=xs) (by rw[hxs];decide);rwa [show xs.length=3 by rw[hxs];rfl]at this
 have XZ:Hid (Rd W0 R ad len cap):=by show Rd _ _ _ _ _;rw[hW0];exact h.alloc _
 have Y0:Hid (Only R w W0):=by show Only _ _ _;rw[hW0];exact(Only.refl _ _).alloc _
 have hW1:W0=w.alloc (.cells #[.string ⟨#[116,104,105,115,40,117,115,101,114,41]⟩,.string ⟨#[116,104,105,115,40,117,115,101,114,44,103,114,111,117,112,35,109,101,109,98,101,114,41]⟩,.string ⟨#[116,104,105,115,40,117,115,101,114,44,100,111,99,35,101,100,105,116,111,114,41]⟩] 9):=by rw[hW0,hxs];rfl
 clear h hW0 hxs;go_enter func161,ntmps161;go_wp2_with fail;rw[<-hW1];clear hW1;refine(gP R ad len cap 3 _ XZ.out (by omega) (by omega)).mono ?_;rintro e w1 ⟨⟨x,rfl,hx⟩,Xv,Xq⟩;obtain⟨-,hlt,hcells⟩:=YT.out.only Xq;obtain⟨t,ht,hts⟩:=hcells x hx;have HR1:=jK Xv;have Xj:Hid (Only R w w1):=Y0.out.trans Xq;have hx0:=bq x;have hx1:(x:Int)<3:=by omega
 clear Xv Xq hcells YT XZ Y0;go_wp2;go_ret;exact⟨⟨t,rfl,hts⟩,HR1.out,Xj.out⟩
theorem E5(R:Nat)(ad:Q02)(len cap:Nat):∀(d:Nat) (w:ae),d<=2->Rd w R ad len cap ->
  Calls prog 161 #[.pointer (some ⟨R,0,none⟩),.int .i64 (d:Int),.bool false] w fun e w'=>(∃t:ByteArray,e=.returned (.string t)/\t.size<=tB d)/\Rd w' R ad len cap/\Only R w w':=by
 intro d
 induction d with
 | zero =>
  intro w _ h;have hRw:=h.lt;have hz:(0:Nat)<=256:=by omega
  obtain⟨xs,hxs⟩:∃xs:List ByteArray,xs=[⟨#[101,100,105,116,111,114]⟩,⟨#[118,105,101,119,101,114]⟩,⟨#[98,97,110,110,101,100]⟩,⟨#[112,97,114,101,110,116,45,62,118,105,101,119,101,114]⟩,⟨#[112,97,114,101,110,116,45,62,101,100,105,116,111,114]⟩,⟨#[111,119,110,101,114]⟩,⟨#[112,97,114,101,110,116,45,62,111,119,110,101,114]⟩]:=⟨_,rfl⟩;obtain⟨W0,hW0⟩:∃W0,W0=w.alloc (.cells (xs.map Value.string).toArray 9):=⟨_,rfl⟩;have YT:Hid (sG W0 R w.heap.size 7 14):=by
   show sG _ _ _ _ _;rw[hW0];have:=mQ w R 14 hRw (t:=9) (xs:=xs) (by rw[hxs];decide);rwa [show xs.length=7 by rw[hxs];rfl]at this
  have XZ:Hid (Rd W0 R ad len cap):=by show Rd _ _ _ _ _;rw[hW0];exact h.alloc _
  have Y0:Hid (Only R w W0):=by show Only _ _ _;rw[hW0];exact(Only.refl _ _).alloc _
  have hW1:W0=w.alloc (.cells #[.string ⟨#[101,100,105,116,111,114]⟩,.string ⟨#[118,105,101,119,101,114]⟩,.string ⟨#[98,97,110,110,101,100]⟩,.string ⟨#[112,97,114,101,110,116,45,62,118,105,101,119,101,114]⟩,.string ⟨#[112,97,114,101,110,116,45,62,101,100,105,116,111,114]⟩,.string ⟨#[111,119,110,101,114]⟩,.string ⟨#[112,97,114,101,110,116,45,62,111,119,110,101,114]⟩] 9):=by rw[hW0,hxs];rfl
  clear h hW0 hxs;go_enter func161,ntmps161;go_wp2_with fail;rw[<-hW1];clear hW1;refine(gP R ad len cap 7 _ XZ.out (by omega) (by omega)).mono ?_;rintro e w1 ⟨⟨x,rfl,hx⟩,Xv,Xq⟩;obtain⟨-,hlt,hcells⟩:=YT.out.only Xq;obtain⟨t,ht,hts⟩:=hcells x hx;have HR1:=jK Xv;have Xj:Hid (Only R w w1):=Y0.out.trans Xq;have hx0:=bq x;have hx1:(x:Int)<7:=by omega
  clear Xv Xq hcells YT XZ Y0;go_wp2;go_ret;exact⟨⟨t,rfl,hts⟩,HR1.out,Xj.out⟩
 | succ d ih =>
  intro w hd h;have hRw:=h.lt;have IH:=jK ih;have hd0:(((d+1:Nat):Int)==0)=false:=by simp;omega
  have hdm:((d+1:Nat):Int)-1=(d:Int):=by omega
  have HTB:Hid (tB (d+1)=3*tB d+8):=rfl;have hb0:tB d<=82:=by
   have:d=0\/d=1:=by omega
   rcases this with rfl|rfl<;>decide
  obtain⟨bd,hbd⟩:∃bd,bd=tB d:=⟨_,rfl⟩;rw[<-hbd]at hb0 HTB;have HBD:=jK hbd;clear ih hbd;go_enter func161,ntmps161;go_wp2_with fail;refine(ib R ad len cap 2 _ h (by omega) (by omega)).mono ?_;rintro e w1 ⟨⟨q,rfl⟩,Xv,Xq⟩;have HR1:=jK Xv;have Xj:=jK Xq;have hRw1:R<w1.heap.size:=Xv.lt;clear Xv Xq h;cases q;case true=>
   obtain⟨xs,hxs⟩:∃xs:List ByteArray,xs=[⟨#[101,100,105,116,111,114]⟩,⟨#[118,105,101,119,101,114]⟩,⟨#[98,97,110,110,101,100]⟩,⟨#[112,97,114,101,110,116,45,62,118,105,101,119,101,114]⟩,⟨#[112,97,114,101,110,116,45,62,101,100,105,116,111,114]⟩,⟨#[111,119,110,101,114]⟩,⟨#[112,97,114,101,110,116,45,62,111,119,110,101,114]⟩]:=⟨_,rfl⟩;obtain⟨W0,hW0⟩:∃W0,W0=w1.alloc (.cells (xs.map Value.string).toArray 9):=⟨_,rfl⟩;have YT:Hid (sG W0 R w1.heap.size 7 14):=by
    show sG _ _ _ _ _;rw[hW0];have:=mQ w1 R 14 hRw1 (t:=9) (xs:=xs) (by rw[hxs];decide);rwa [show xs.length=7 by rw[hxs];rfl]at this
   have XZ:Hid (Rd W0 R ad len cap):=by show Rd _ _ _ _ _;rw[hW0];exact HR1.out.alloc _
   have Y0:Hid (Only R w W0):=by show Only _ _ _;rw[hW0];exact Xj.out.alloc _
   have hW1:W0=w1.alloc (.cells #[.string ⟨#[101,100,105,116,111,114]⟩,.string ⟨#[118,105,101,119,101,114]⟩,.string ⟨#[98,97,110,110,101,100]⟩,.string ⟨#[112,97,114,101,110,116,45,62,118,105,101,119,101,114]⟩,.string ⟨#[112,97,114,101,110,116,45,62,101,100,105,116,111,114]⟩,.string ⟨#[111,119,110,101,114]⟩,.string ⟨#[112,97,114,101,110,116,45,62,111,119,110,101,114]⟩] 9):=by rw[hW0,hxs];rfl
   clear hW0 hxs HR1 Xj;go_wp2_with fail;rw[<-hW1];clear hW1;refine(gP R ad len cap 7 _ XZ.out (by omega) (by omega)).mono ?_;rintro e w2 ⟨⟨x,rfl,hx⟩,hR2,hO2⟩;obtain⟨-,hlt,hcells⟩:=YT.out.only hO2;obtain⟨t,ht,hts⟩:=hcells x hx;have HR2:=jK hR2;have WV:Hid (Only R w w2):=Y0.out.trans hO2;have hx0:=bq x;have hx1:(x:Int)<7:=by omega
   have hfin:t.size<=tB (d+1):=by rw[HTB.out,HBD.out];cases d<;>simp[tB]<;>omega
   have XG:=jK hfin;clear hR2 hO2 hcells YT XZ Y0 hfin;go_wp2;go_ret;exact⟨⟨t,rfl,XG.out⟩,HR2.out,WV.out⟩
  obtain⟨xs,hxs⟩:∃xs:List ByteArray,xs=[⟨#[32,124,32]⟩,⟨#[32,38,32]⟩,⟨#[32,45,32]⟩,⟨#[32,124,32]⟩]:=⟨_,rfl⟩;obtain⟨W0,hW0⟩:∃W0,W0=w1.alloc (.cells (xs.map Value.string).toArray 9):=⟨_,rfl⟩;have YT:Hid (sG W0 R w1.heap.size 4 3):=by
   show sG _ _ _ _ _;rw[hW0];have:=mQ w1 R 3 hRw1 (t:=9) (xs:=xs) (by rw[hxs];decide);rwa [show xs.length=4 by rw[hxs];rfl]at this
  have XZ:Hid (Rd W0 R ad len cap):=by show Rd _ _ _ _ _;rw[hW0];exact HR1.out.alloc _
  have Y0:Hid (Only R w W0):=by show Only _ _ _;rw[hW0];exact Xj.out.alloc _
  have hW1:W0=w1.alloc (.cells #[.string ⟨#[32,124,32]⟩,.string ⟨#[32,38,32]⟩,.string ⟨#[32,45,32]⟩,.string ⟨#[32,124,32]⟩] 9):=by rw[hW0,hxs];rfl
  clear hW0 hxs HR1 Xj;go_wp2_with fail;rw[<-hW1];clear hW1;refine(gP R ad len cap 4 _ XZ.out (by omega) (by omega)).mono ?_;rintro e w2 ⟨⟨x,rfl,hx⟩,hR2,hO2⟩;obtain⟨-,hlt,hcells⟩:=YT.out.only hO2;obtain⟨op,hop,hops⟩:=hcells x hx;have HR2:=jK hR2;have WV:Hid (Only R w w2):=Y0.out.trans hO2;have hx0:=bq x;have hx1:(x:Int)<4:=by omega
  clear hR2 hO2 hcells YT XZ Y0;go_wp2_with fail;refine(IH.out w2 (by omega) HR2.out).mono ?_;rintro e w3 ⟨⟨t1,rfl,ht1⟩,Yz,hO3⟩;rw[<-HBD.out]at ht1;have HR3:=jK Yz;have Xm:Hid (Only R w w3):=WV.out.trans hO3;clear Yz hO3 HR2 WV hop hlt;go_wp2_with fail;refine(IH.out w3 (by omega) HR3.out).mono ?_;rintro e w4 ⟨⟨t2,rfl,ht2⟩,ZI,hO4⟩;rw[<-HBD.out]at ht2;have HR4:=jK ZI;have Xk:Hid (Only R w w4):=Xm.out.trans hO4;clear ZI hO4 HR3 Xm;have e1:(⟨#[40]⟩:ByteArray).size=1:=rfl;have e2:(⟨#[41]⟩:ByteArray).size=1:=rfl;cases hm:op.toList==[32,45,32];case true=>
   have hm2:(!op.toList==[32,45,32])=false:=by rw[hm];rfl
   have XG:Hid ((((((⟨#[40]⟩:ByteArray)++t1)++op)++t2)++⟨#[41]⟩).size<=tB (d+1)):=by show _<=_;rw[HTB.out];simp only[VT,e1,e2];omega
   go_wp2_with fail;go_ret;exact⟨⟨_,rfl,XG.out⟩,HR4.out,Xk.out⟩
  have hm2:(!op.toList==[32,45,32])=true:=by rw[hm];rfl
  go_wp2_with fail;refine(ib R ad len cap 3 _ HR4.out (by omega) (by omega)).mono ?_;rintro e w5 ⟨⟨q,rfl⟩,Xo,Xn⟩;have Xt:=jK Xo;have Xi:Hid (Only R w w5):=Xk.out.trans Xn;clear Xo Xn HR4 Xk;cases q;case false=>
   have XG:Hid ((((((⟨#[40]⟩:ByteArray)++t1)++op)++t2)++⟨#[41]⟩).size<=tB (d+1)):=by show _<=_;rw[HTB.out];simp only[VT,e1,e2];omega
   go_wp2_with fail;go_ret;exact⟨⟨_,rfl,XG.out⟩,Xt.out,Xi.out⟩
  go_wp2_with fail;refine(IH.out w5 (by omega) Xt.out).mono ?_;rintro e w6 ⟨⟨t3,rfl,ht3⟩,hR6,ZC⟩;rw[<-HBD.out]at ht3;have Yv:=jK hR6;have XD:Hid (Only R w w6):=Xi.out.trans ZC;clear hR6 ZC Xt Xi;have XG:Hid ((((((((⟨#[40]⟩:ByteArray)++t1)++op)++t2)++op)++t3)++⟨#[41]⟩).size<=tB (d+1)):=by show _<=_;rw[HTB.out];simp only[VT,e1,e2];omega
  go_wp2_with fail;go_ret;exact⟨⟨_,rfl,XG.out⟩,Yv.out,XD.out⟩
theorem Ha(R:Nat)(ad:Q02)(len cap d:Nat)(w:ae)(hd:d<=2)(h:Rd w R ad len cap):
  Calls prog 104 #[.pointer (some ⟨R,0,none⟩),.int .i64 (d:Int)] w fun e w'=>(∃t:ByteArray,e=.returned (.string t)/\t.size<=190)/\Rd w' R ad len cap/\Only R w w':=by
 have hRw:=h.lt;have hb0:tB d<=158:=by
  have:d=0\/d=1\/d=2:=by omega
  rcases this with rfl|rfl|rfl<;>decide
 obtain⟨xs,hxs⟩:∃xs:List ByteArray,xs=[⟨#[32,124,32]⟩,⟨#[32,38,32]⟩,⟨#[32,45,32]⟩,⟨#[32,124,32]⟩]:=⟨_,rfl⟩;obtain⟨W0,hW0⟩:∃W0,W0=w.alloc (.cells (xs.map Value.string).toArray 9):=⟨_,rfl⟩;have YT:Hid (sG W0 R w.heap.size 4 3):=by
  show sG _ _ _ _ _;rw[hW0];have:=mQ w R 3 hRw (t:=9) (xs:=xs) (by rw[hxs];decide);rwa [show xs.length=4 by rw[hxs];rfl]at this
 have XZ:Hid (Rd W0 R ad len cap):=by show Rd _ _ _ _ _;rw[hW0];exact h.alloc _
 have Y0:Hid (Only R w W0):=by show Only _ _ _;rw[hW0];exact(Only.refl _ _).alloc _
 have hW1:W0=w.alloc (.cells #[.string ⟨#[32,124,32]⟩,.string ⟨#[32,38,32]⟩,.string ⟨#[32,45,32]⟩,.string ⟨#[32,124,32]⟩] 9):=by rw[hW0,hxs];rfl
 clear h hW0 hxs;go_enter func104,ntmps104;go_wp2_with fail;rw[<-hW1];clear hW1;refine(gP R ad len cap 4 _ XZ.out (by omega) (by omega)).mono ?_;rintro e w2 ⟨⟨x,rfl,hx⟩,hR2,hO2⟩;obtain⟨-,hlt,hcells⟩:=YT.out.only hO2;obtain⟨op,hop,hops⟩:=hcells x hx;have HR2:=jK hR2;have WV:Hid (Only R w w2):=Y0.out.trans hO2;have hx0:=bq x;have hx1:(x:Int)<4:=by omega
 clear hR2 hO2 hcells YT XZ Y0;go_wp2_with fail;refine(ib R ad len cap 3 _ HR2.out (by omega) (by omega)).mono ?_;rintro e w3 ⟨⟨q,rfl⟩,Yz,hO3⟩;have HR3:=jK Yz;have Xm:Hid (Only R w w3):=WV.out.trans hO3;clear Yz hO3 HR2 WV hop hlt;cases q;case true=>
  go_wp2_with fail;refine(sZ R ad len cap 0 _ HR3.out).mono ?_;rintro e w4 ⟨⟨t1,rfl,ht1⟩,ZI,hO4⟩;have HR4:=jK ZI;have Xk:Hid (Only R w w4):=Xm.out.trans hO4;clear ZI hO4;go_wp2;go_ret;exact⟨⟨t1,rfl,by omega⟩,HR4.out,Xk.out⟩
 go_wp2_with fail;refine(sZ R ad len cap 0 _ HR3.out).mono ?_;rintro e w4 ⟨⟨t1,rfl,ht1⟩,ZI,hO4⟩;have HR4:=jK ZI;have Xk:Hid (Only R w w4):=Xm.out.trans hO4;clear ZI hO4;go_wp2_with fail;refine(E5 R ad len cap d _ hd HR4.out).mono ?_;rintro e w5 ⟨⟨t2,rfl,ht2⟩,Xo,Xn⟩;have Xt:=jK Xo;have Xi:Hid (Only R w w5):=Xk.out.trans Xn;have hf:t2.size<=158:=by omega
 have XG:Hid (((t1++op)++t2).size<=190):=by show _<=_;simp only[VT];omega
 clear Xo Xn ht2 hb0;go_wp2;go_ret;exact⟨⟨_,rfl,XG.out⟩,Xt.out,Xi.out⟩
theorem ru(R:Nat)(ad:Q02)(len cap d:Nat)(w:ae)(hd:d<=2)(h:Rd w R ad len cap):
  Calls prog 104 #[.pointer (some ⟨R,0,none⟩),.int .i64 (d:Int)] w fun e w'=>(∃t:ByteArray,e=.returned (.string t)/\t.size<=300)/\Rd w' R ad len cap/\Only R w w' :=
 (Ha R ad len cap d w hd h).mono fun e w' ⟨⟨t,h1,h2⟩,h3⟩=>⟨⟨t,h1,by omega⟩,h3⟩
theorem E8(R:Nat)(ad:Q02)(len cap:Nat)(w:ae)(h:Rd w R ad len cap):
  Calls prog 192 #[.pointer (some ⟨R,0,none⟩)] w fun e w'=>(∃x:Int,e=.returned (.int .u64 x))/\Rd w' R ad len cap/\Only R w w':=by
 have H:=aC h;clear h;go_enter func192,ntmps192;go_wp2;go_loopw[3,4] (fun v i wr=>∃(x:Int) (k:Nat),v=.int .u64 x/\i=.int .i64 (k:Int)/\k<=8/\Hid (Rd wr R ad len cap)/\Hid (Only R w wr)) (fun _ i _=>8-(intOf i).toNat);case atStart=>exact⟨0,0,rfl,rfl,by omega,H,Only.refl _ _⟩
 obtain⟨x,k,rfl,rfl,hk,HR,HO⟩:=hrel;by_cases hlt:k<8
 ·have hk1:(k:Int)<8:=by omega
  go_wp2_with fail;refine(FD R ad len cap _ HR.out).mono ?_;rintro e w1 ⟨⟨y,rfl,hy0,hy1⟩,Xv,Xq⟩;have HR1:=aC Xv;have Xj:Hid (Only R w w1):=HO.out.trans Xq;clear Xv Xq;go_wp2;go_roundw;case rel=>exact⟨_,k+1,rfl,by go_num,by omega,HR1,Xj⟩
  simp[intOf]<;>omega
 have hk1:¬(k:Int)<8:=by omega
 go_wp2;go_ret;exact⟨⟨x,rfl⟩,HR.out,HO.out⟩
theorem Qe(R:Nat)(ad:Q02)(len cap:Nat)(lo hi:Int)(w:ae)(h:Rd w R ad len cap)(h0:0<=lo)(h1:lo<=hi)(h2:hi<=1000):
  Calls prog 150 #[.pointer (some ⟨R,0,none⟩),.int .i64 lo,.int .i64 hi] w fun e w'=>(∃x:Int,e=.returned (.int .i64 x))/\Rd w' R ad len cap/\Only R w w':=by
 have H:=jK h;have hw1:IntKind.i64.wrap (hi-lo)=hi-lo:=by rw[IntKind.wrap_i64]<;>omega
 have hw2:IntKind.i64.wrap (hi-lo+1)=hi-lo+1:=by rw[IntKind.wrap_i64]<;>omega
 have hw3:IntKind.u64.wrap (hi-lo+1)=hi-lo+1:=by rw[IntKind.wrap_u64]<;>omega
 have hlt:¬hi<lo:=by omega
 have hz:¬hi-lo+1=0:=by omega
 clear h h0 h1 h2;go_enter func150,ntmps150;go_wp2_with fail;refine(gP R ad len cap 8 _ H.out (by omega) (by omega)).mono ?_;rintro e w1 ⟨⟨x,rfl,hx⟩,Xv,Xq⟩;have HR1:=jK Xv;have Xj:=jK Xq;clear Xv Xq;by_cases h0:x=0
 ·subst h0;go_wp2;go_ret;exact⟨⟨_,rfl⟩,HR1.out,Xj.out⟩
 have h00:((x:Int)==0)=false:=by simp;omega
 by_cases h1:x=1
 ·subst h1;go_wp2;go_ret;exact⟨⟨_,rfl⟩,HR1.out,Xj.out⟩
 have h11:((x:Int)==1)=false:=by simp;omega
 go_wp2_with fail;refine(E8 R ad len cap _ HR1.out).mono ?_;rintro e w2 ⟨⟨y,rfl⟩,hR2,hO2⟩;have HR2:=jK hR2;have WV:Hid (Only R w w2):=Xj.out.trans hO2;clear hR2 hO2;go_wp2;go_ret;exact⟨⟨_,rfl⟩,HR2.out,WV.out⟩
theorem E9(R:Nat)(ad:Q02)(len cap:Nat)(lo hi:Int)(w:ae)(h:Rd w R ad len cap)(h0:0<=lo)(h1:lo<=hi)(h2:hi<=1000):
  Calls prog 90 #[.pointer (some ⟨R,0,none⟩),.int .i64 lo,.int .i64 hi] w fun e w'=>(∃x:Int,e=.returned (.int .i64 x))/\Rd w' R ad len cap/\Only R w w':=by
 have H:=jK h;clear h;go_enter func90,ntmps90;go_wp2_with fail;refine(ib R ad len cap 24 _ H.out (by omega) (by omega)).mono ?_;rintro e w1 ⟨⟨q,rfl⟩,Xv,Xq⟩;have HR1:=jK Xv;have Xj:=jK Xq;have hRw:=Xv.lt;clear Xv Xq;cases q;case false=>
  go_wp2_with fail;refine(Qe R ad len cap lo hi _ HR1.out h0 h1 h2).mono ?_;rintro e w2 ⟨⟨y,rfl⟩,hR2,hO2⟩;have HR2:=jK hR2;have WV:Hid (Only R w w2):=Xj.out.trans hO2;clear hR2 hO2;go_wp2;go_ret;exact⟨⟨_,rfl⟩,HR2.out,WV.out⟩
 have hw1:IntKind.i64.wrap (lo-1)=lo-1:=by rw[IntKind.wrap_i64]<;>omega
 have hw2:IntKind.i64.wrap (hi+1)=hi+1:=by rw[IntKind.wrap_i64]<;>omega
 obtain⟨W0,hW0⟩:∃W0,W0=w1.alloc (.cells #[.int .i64 (lo-1),.int .i64 (hi+1),.int .i64 (-9223372036854775808),.int .i64 9223372036854775807] 2):=⟨_,rfl⟩;have XZ:Hid (Rd W0 R ad len cap):=by show Rd _ _ _ _ _;rw[hW0];exact HR1.out.alloc _
 have Y0:Hid (Only R w W0):=by show Only _ _ _;rw[hW0];exact Xj.out.alloc _
 have X9:Hid (w1.heap.size<W0.heap.size/\∀o,o<4->∃z:Int,W0.cell? ⟨w1.heap.size,o,none⟩=some (.int .i64 z)):=by
  show _/\_;rw[hW0];refine⟨by simp,fun o ho=>?_⟩;have:o=0\/o=1\/o=2\/o=3:=by omega
  rcases this with rfl|rfl|rfl|rfl<;>exact⟨_,by simp;rfl⟩
 go_wp2_with fail;rw[<-hW0];clear hW0;refine(gP R ad len cap 4 _ XZ.out (by omega) (by omega)).mono ?_;rintro e w2 ⟨⟨x,rfl,hx⟩,hR2,hO2⟩;obtain⟨z,hz⟩:=X9.out.2 x hx;have hz2:w2.cell? ⟨w1.heap.size,x,none⟩=some (.int .i64 z):=by rw[hO2.cell X9.out.1 (by omega)];exact hz
 have HR2:=jK hR2;have WV:Hid (Only R w w2):=Y0.out.trans hO2;have hx0:=bq x;have hx1:(x:Int)<4:=by omega
 clear hR2 hO2 hz X9 XZ Y0;go_wp2;go_ret;exact⟨⟨z,rfl⟩,HR2.out,WV.out⟩
theorem KV{a b a' b':ByteArray}{f f':Bool}(ha:a=a')(hb:b=b')(hf:f=f'):Ending.returned (.tuple #[.string a,.string b,.bool f])=.returned (.tuple #[.string a',.string b',.bool f']):=by rw[ha,hb,hf]
theorem DI(s:bW)(c:UInt8)(w:ae)(hs:s.size<=maxLen):
  Calls prog 202 #[.string s,.int .u8 c.toNat] w fun e w'=>e=.returned (.tuple #[.string (kv c s),.string (iK c s),.bool (oU c s)])/\∃n,w'=w.drewN n:=by
 unfold maxLen at hs;go_enter func202,ntmps202;go_wp2
 go_loop [7] (fun i=>∃k:Nat,k<=s.size/\i=.int .i64 k/\Hid (TB c s k)) (fun i=>s.size-(intOf i).toNat)
 case atStart=>exact⟨0,VG _,rfl,NQ _ _⟩
 obtain⟨k,hk,rfl,hu⟩:=hrel;by_cases hlt:k<s.size
 ·by_cases hc:s[k]=c
  ·have HC:Hid (iP c s.data.toList=_):=TC hlt hu.out hc;have hcb:((s[k].toNat:Int)==(c.toNat:Int))=true:=by simp[hc]
   have hk1:=bq k;have hk2:(k:Int)<=(s.size:Int):=by omega
   have hk3:(k:Int)+1<=(s.size:Int):=by omega
   clear hc;go_wp2;go_quiet (fail);go_wp2
   go_ret3
   refine⟨KV (gy ?_) (gy ?_) (by simp[oU,HC.out]),nq,rfl⟩
   ·rw[Lib.extract_data];simp[kv,HC.out]
   rw[Lib.extract_to_end];simp[iK,HC.out]
  have HU:Hid (TB c s (k+1)):=NR hlt hu.out hc;have hcb:((s[k].toNat:Int)==(c.toNat:Int))=false:=by
   simp;intro h;exact hc (UInt8.toNat_inj.mp (by omega))
  clear hc;go_wp2;go_round;case rel=>exact⟨k+1,by omega,by go_num,HU⟩
  simp[intOf];omega
 have HC:Hid (iP c s.data.toList=_):=NS (Nat.le_of_not_lt hlt) hu.out;go_wp2
 go_ret3
 exact⟨KV (by simp[kv,HC.out]) (by simp[iK,HC.out]) (by simp[oU,HC.out]),0,rfl⟩
def Bytes(w:World)(ad:Q02)(len:Nat):Prop:=len<=maxLen/\(0<len->∃b off,ad=some ⟨b,off,none⟩/\b<w.heap.size/\∀i,i<len->∃c:Int,0<=c/\c<=255/\w.cell? ⟨b,off+i,none⟩=some (.int .u8 c))
theorem Bytes.below{w w':ae}{ad:Q02}{len:Nat}(h:Bytes w ad len)(hb:af w w'):Bytes w' ad len:=by
 refine⟨h.1,fun h0=>?_⟩;obtain⟨b,off,e,hbl,hc⟩:=h.2 h0;refine⟨b,off,e,Vy hbl hb.size,fun i hi=>?_⟩;obtain⟨c,c0,c1,hcc⟩:=hc i hi;exact⟨c,c0,c1,by rw[hb.cell (p:=⟨b,off+i,none⟩) hbl];exact hcc⟩
theorem JY{H:Type}{enc:TypeId×Value->H}{W:ae}{base:Nat}{sp:Nat->Bool}{held:Bool}{fuel:Nat}{ad:Q02}{len cap:Nat}{x:DataW H×List MemPlace}
  (h:DataW.trod enc prog W base sp held fuel 22 [.slice ad len cap]=some x):Bytes W ad len:=by
 rcases open_ints underlying22 underlying5 (by kernel_rfl) h with⟨hcs,-⟩|⟨a,l,c,zs,hcs,-,hlc,hcm,hm,-,hel,hwf⟩
 ·simp at hcs;obtain⟨rfl,rfl,rfl⟩:=hcs;exact⟨by unfold maxLen;omega,fun h0=>by omega⟩
 simp at hcs;obtain⟨rfl,rfl,rfl⟩:=hcs;have hle:len<=zs.length:=by rw[hm];split<;>omega
 refine⟨by omega,fun h0=>?_⟩;have hspot:a.spot=none:=by
  have:=hel 0 (by omega);have e:a.add 0=a:=by simp[Addr.add]
  rw[e]at this;exact World.cell?_spot this
 obtain⟨b,off,spot⟩:=a;simp only at hspot;subst hspot;have add0:∀x:Nat,(⟨b,off,none⟩:Addr).add x=⟨b,off+x,none⟩:=fun x=>by
  unfold Addr.add;by_cases h:x=0
  ·subst h;simp
  simp[h]
 refine⟨b,off,rfl,?_,fun i hi=>?_⟩
 ·have:=hel 0 (by omega);rw[add0]at this;exact World.block_lt_of_cell? W ⟨b,off+0,none⟩ this
 have h1:=hel i (by omega);rw[add0]at h1;have h2:=hwf (zs.getD i 0) (by rw[WF,VO (by omega)];simp);have h3:IntKind.u8.min<=zs.getD i 0/\zs.getD i 0<=IntKind.u8.max:=by simpa only[Lit.wf,VF,VM] using h2
 have e1:IntKind.u8.min=0:=by decide
 have e2:IntKind.u8.max=255:=by decide
 rw[e1,e2]at h3;exact⟨_,h3.1,h3.2,h1⟩
theorem Ue{w:ae}{ad:Q02}{len cap:Nat}{t:TypeId}(h:Bytes w ad len):Rd (w.alloc (.cells #[.slice ad len cap,.int .i64 0] t)) w.heap.size ad len cap where
 lt:=by simp
 code:=by simp
 place:=⟨0,by simp,by omega⟩
 free:=by simp
 bytes h0:=by
  obtain⟨b,off,e,hbl,hc⟩:=h.2 h0;refine⟨b,off,e,by omega,by simp;omega,fun i hi=>?_⟩;obtain⟨c,c0,c1,hcc⟩:=hc i hi;exact⟨c,c0,c1,Q6 hcc _⟩
 small:=h.1
theorem Hd(ad:Q02)(len cap:Nat)(w:ae)(h:Bytes w ad len):
  Calls prog 46 #[.slice ad len cap] w fun e w'=>e=.returned (.pointer (some ⟨w.heap.size,0,none⟩))/\Rd w' w.heap.size ad len cap/\af w w':=by
 have H:=aC h;clear h;go_enter func46,ntmps46;go_wp2;go_ret;exact⟨rfl,Ue H.out,(VD _ _).alloc (VC _) _⟩
theorem RU(ad:Q02)(len cap:Nat)(w:ae):
  Calls prog 6 #[.slice ad len cap] w fun e w'=>e=.returned (.bool (decide ((1048576:Int)<(len:Int))))/\w'=w:=by
 go_enter func6,ntmps6;go_wp2;go_ret;exact⟨rfl,rfl⟩
end Go.Proofs.YtcgdckphpjfmhaaGreatDoor
namespace Go.Proofs.YtcgdckphpjfmhaaGreatDoor
open Go.Sort
open ChangeShapes WideShapes ChangeAt RowKit
open Pl
attribute [local go_sem ↓] Go.wp_at_zero Go.wp_at_succ
theorem xh(b off cap:Nat)(ts:Q05)(w:ae)(hlen:ts.length<=maxLen)(hr:dE w b off ts)(hb:b<w.heap.size)(hf:∀t∈ts,t.fits):
    Calls prog 79 #[.slice (some ⟨b,off,none⟩) ts.length cap] w fun e w'=>e=.returned (.bool (dZ ts))/\af w w':=by
  unfold maxLen at hlen;by_cases hbig:40<ts.length
  · have HT:Hid (dZ ts=false):=by show _=_;simp[dZ];omega
    go_enter func79,ntmps79;go_wp2;go_ret;exact⟨ah HT.out.symm,VD _ _⟩
  · go_enter func79,ntmps79;go_wp2;go_loopw[10] (fun i wr=>∃k:Nat,k<=ts.length/\i=.int .i64 k/\Hid (uZ ts k=true)/\af w wr) (fun i _=>ts.length-(intOf i).toNat);case atStart=>exact⟨0,VG _,rfl,rfl,VD _ _⟩
    obtain⟨k,hk,rfl,hu,hB⟩:=hrel;by_cases hlt:k<ts.length
    · have ZK:=qp (hr.below hB hb);have Xd:=qp hf;obtain⟨t0,t1,t2,t3,t4,t5⟩:=ZK.out k hlt;have hk1:=bq k;have hk2:(k:Int)<(ts.length:Int):=by omega
      clear hr hf;obtain⟨W1,hW1⟩:∃W1,W1=wr.alloc (.cells #[.string ts[k].a,.string ts[k].b,.string ts[k].r,.string ts[k].c,.string ts[k].d,.string ts[k].s] 29):=⟨_,rfl⟩;have hal:af wr W1:=by rw[hW1];exact(VD _ _).alloc (VC _) _
      have c0:∀d os,(grow (redrawn W1 d) os).cell? ⟨wr.heap.size,0,none⟩=some (.string ts[k].a):=cell_regrown (by rw[hW1];simp);have c1:∀d os,(grow (redrawn W1 d) os).cell? ⟨wr.heap.size,1,none⟩=some (.string ts[k].b):=cell_regrown (by rw[hW1];simp);have c2:∀d os,(grow (redrawn W1 d) os).cell? ⟨wr.heap.size,2,none⟩=some (.string ts[k].r):=cell_regrown (by rw[hW1];simp);have c3:∀d os,(grow (redrawn W1 d) os).cell? ⟨wr.heap.size,3,none⟩=some (.string ts[k].c):=cell_regrown (by rw[hW1];simp);have c4:∀d os,(grow (redrawn W1 d) os).cell? ⟨wr.heap.size,4,none⟩=some (.string ts[k].d):=cell_regrown (by rw[hW1];simp);have c5:∀d os,(grow (redrawn W1 d) os).cell? ⟨wr.heap.size,5,none⟩=some (.string ts[k].s):=cell_regrown (by rw[hW1];simp);have XI:Hid (∀d os,af w (grow (redrawn W1 d) os)):=fun d os=>hB.trans ((hal.mono hB.size).trans ((below_regrown W1 d os).mono (VJ hB.size hal.size)));have HK:Hid (∀p v,wr.cell? p=some v->W1.cell? p=some v):=fun p v h=>cell_later hal h;clear hal;go_wp2_with fail;rw[<-hW1];clear hW1 t0 t1 t2 t3 t4 t5;have YU:Hid (∀d os,Calls prog 128 #[.agg #[.string ts[k].a,.string ts[k].b,.string ts[k].r,.string ts[k].c,.string ts[k].d,.string ts[k].s]] (grow (redrawn W1 d) os) fun e w''=>e=.returned (.bool ts[k].ok)/\∃p:Regrown,w''=grow (redrawn W1 p.d) p.os):=by
        obtain⟨f0,f1,f2,f3,f4,f5⟩:=Xd.out ts[k] (Vz hlt);exact cu fun W' _=>fD _ _ _ _ _ _ _ f0 f1 f2 f3 f4 f5
      cases hok:ts[k].ok;case false=>
        have HT:Hid (dZ ts=false):=ve hlt (KN hlt hok);rw[hok]at YU;clear hok;refine wp_region_quiet_below (by kernel_rfl) (by kernel_rfl) ?_
        repeat(go_big_quiet_step (exact YU.out _ _))
        refine wpQuiet_nil ?_;rintro _ ⟨⟨dq,osq⟩,rfl⟩;go_wp2;go_ret;exact⟨ah HT.out.symm,XI.out dq osq⟩
      rw[hok]at YU;by_cases hz:k=0
      · have HU:Hid (uZ ts (k+1)=true):=by show _=_;rw[rT,hu.out];subst hz;rw[rU hlt,hok];rfl
        have hk8:decide ((0:Int)<(k:Int))=false:=by simp;omega
        have hk9:decide (0<k)=false:=by simp;omega
        clear hok hz;refine wp_region_quiet_below (by kernel_rfl) (by kernel_rfl) ?_
        repeat(go_big_quiet_step (exact YU.out _ _))
        refine wpQuiet_nil ?_;rintro _ ⟨⟨dq,osq⟩,rfl⟩;go_wp2;go_roundw;case rel=>exact⟨k+1,by omega,by go_num,HU,XI.out dq osq⟩
        simp[intOf];omega
      · obtain⟨m,hm⟩:∃m:Nat,k=m+1:=⟨k-1,by omega⟩;have Xu:m<ts.length:=by omega
        obtain⟨q0,q1,q2,q3,q4,q5⟩:=ZK.out m Xu;replace q0:=cell_regrown (HK.out _ _ q0);replace q1:=cell_regrown (HK.out _ _ q1);replace q2:=cell_regrown (HK.out _ _ q2);replace q3:=cell_regrown (HK.out _ _ q3);replace q4:=cell_regrown (HK.out _ _ q4);replace q5:=cell_regrown (HK.out _ _ q5);have hkm:(k:Int)-1=(m:Int):=by omega
        have hm1:=bq m;have hm2:(m:Int)<(ts.length:Int):=by omega
        have hpos:(0:Int)<(k:Int):=by omega
        have hposN:0<k:=by omega
        have hwm:IntKind.i64.wrap (m:Int)=(m:Int):=by rw[IntKind.wrap_i64];omega
        have HA:Hid (yE ts k=ts[m].ahead ts[k]):=by show _=_;subst hm;rw[ol hlt,hok];rfl
        have Zy:Hid (∀d os,Calls prog 129 #[.agg #[.string ts[m].a,.string ts[m].b,.string ts[m].r,.string ts[m].c,.string ts[m].d,.string ts[m].s],.agg #[.string ts[k].a,.string ts[k].b,.string ts[k].r,.string ts[k].c,.string ts[k].d,.string ts[k].s]] (grow (redrawn W1 d) os) fun e w''=>e=.returned (.bool (ts[m].ahead ts[k]))/\∃p:Regrown,w''=grow (redrawn W1 p.d) p.os):=by
          obtain⟨f0,f1,f2,f3,f4,f5⟩:=Xd.out ts[k] (Vz hlt);obtain⟨g0,g1,g2,g3,g4,g5⟩:=Xd.out ts[m] (Vz Xu);exact cu fun W' _=>BP _ _ _ _ _ _ _ _ _ _ _ _ _ g0 g1 g2 g3 g4 g5 f0 f1 f2 f3 f4 f5
        clear hm hz hok;cases ha:ts[m].ahead ts[k];case false=>
          have HT:Hid (dZ ts=false):=ve hlt (by rw[HA.out,ha]);rw[ha]at Zy;clear ha HA;refine wp_region_quiet_below (by kernel_rfl) (by kernel_rfl) ?_
          repeat(go_big_quiet_step (first|exact YU.out _ _|exact Zy.out _ _))
          refine wpQuiet_nil ?_;rintro _ ⟨⟨dq,osq⟩,rfl⟩;go_wp2;go_ret;exact⟨ah HT.out.symm,XI.out dq osq⟩
        have HU:Hid (uZ ts (k+1)=true):=by show _=_;rw[rT,hu.out,HA.out,ha];rfl
        rw[ha]at Zy;clear ha HA;refine wp_region_quiet_below (by kernel_rfl) (by kernel_rfl) ?_
        repeat(go_big_quiet_step (first|exact YU.out _ _|exact Zy.out _ _))
        refine wpQuiet_nil ?_;rintro _ ⟨⟨dq,osq⟩,rfl⟩;go_wp2;go_roundw;case rel=>exact⟨k+1,by omega,by go_num,HU,XI.out dq osq⟩
        simp[intOf];omega
    · go_wp2;go_ret;exact⟨ah (by have e:k=ts.length:=(by omega);subst e;simp[dZ,hu.out];omega),hB⟩
end Go.Proofs.YtcgdckphpjfmhaaGreatDoor
namespace Go.Proofs.YtcgdckphpjfmhaaGreatDoor
open Go.Sort
open ChangeShapes WideShapes ChangeAt RowKit
open Pl
attribute [local go_sem ↓] Go.wp_at_zero Go.wp_at_succ
theorem xk(ad:Q02)(cap:Nat)(w:ae):
  Calls prog 109 #[.slice ad 0 cap] w fun e w'=>e=.returned (.bool (dZ []))/\af w w':=by
 go_enter func109,ntmps109;go_wp2;go_loopw[3] (fun i wr=>∃k:Nat,k=0/\i=.int .i64 k/\af w wr) (fun i _=>(intOf i).toNat);case atStart=>exact⟨0,rfl,rfl,VD _ _⟩
 obtain⟨k,rfl,rfl,hB⟩:=hrel;go_wp2;go_ret;exact⟨rfl,hB⟩
theorem xm(ad:Q02)(cap:Nat)(w:ae):
  Calls prog 79 #[.slice ad 0 cap] w fun e w'=>e=.returned (.bool (dZ []))/\af w w':=by
 go_enter func79,ntmps79;go_wp2;go_loopw[10] (fun i wr=>∃k:Nat,k=0/\i=.int .i64 k/\af w wr) (fun i _=>(intOf i).toNat);case atStart=>exact⟨0,rfl,rfl,VD _ _⟩
 obtain⟨k,rfl,rfl,hB⟩:=hrel;go_wp2;go_ret;exact⟨rfl,hB⟩
theorem oJ(ad:Q02)(cap:Nat)(ts:Q05)(w:ae)(hlen:ts.length<=maxLen)(hs:Sl w ad ts)(hf:∀t∈ts,t.fits):
  Calls prog 109 #[.slice ad ts.length cap] w fun e w'=>e=.returned (.bool (dZ ts))/\af w w':=by
 rcases hs with rfl|⟨b,off,rfl,hb,hr⟩
 ·exact xk ad cap w
 exact wQ b off cap ts w hlen hr hb hf
theorem xq(ad:Q02)(cap:Nat)(ts:Q05)(w:ae)(hlen:ts.length<=maxLen)(hs:Sl w ad ts)(hf:∀t∈ts,t.fits):
  Calls prog 79 #[.slice ad ts.length cap] w fun e w'=>e=.returned (.bool (dZ ts))/\af w w':=by
 rcases hs with rfl|⟨b,off,rfl,hb,hr⟩
 ·exact xm ad cap w
 exact xh b off cap ts w hlen hr hb hf
end Go.Proofs.YtcgdckphpjfmhaaGreatDoor
namespace Go.Proofs.YtcgdckphpjfmhaaGreatDoor
open ChangeShapes WideShapes ChangeAt RowKit Maps
open Pl
def Tp.short(t:Tp):Prop:=t.a.size<=20/\t.b.size<=20/\t.r.size<=20/\t.c.size<=20/\t.d.size<=20/\t.s.size<=20
theorem Tp.short.fits{t:Tp}(h:t.short):t.fits:=by unfold Tp.short at h;unfold Tp.fits maxLen;omega
def p8(ts:Q05):Prop:=∀t∈ts,t.short
theorem p8.fits{ts:Q05}(h:p8 ts):∀t∈ts,t.fits:=fun t ht=>(h t ht).fits
theorem M0:p8 []:=fun t ht=>by cases ht
theorem M4(ts:Q05)(t:Tp):(jV ts t).length=ts.length+1:=by
 induction ts with
 | nil=>rfl
 | cons x xs ih =>
  unfold jV;split
  ·simp[ih]
  simp
theorem p8.put{ts:Q05}{t:Tp}(h:p8 ts)(ht:t.short):p8 (jV ts t):=fun x hx=>by
 rcases (mo ts t x).1 hx with rfl|k
 ·exact ht
 exact h x k
theorem RV{w:ae}{base g n c:Nat}{ts:Q05}(h:w.ownsRow base 29 6 (.slice (some ⟨g,0,none⟩) n c) n (aF ts))(hn:n=ts.length):dE w g 0 ts/\g<w.heap.size/\n<=c/\base<=g:=by
 have hlt:=h.lt g rfl;refine⟨?_,hlt.2,?_,hlt.1⟩
 ·subst hn;intro i hi;have key:∀j,j<6->w.cell? ⟨g,0+i*6+j,none⟩=(ts[i]).row[j]?:=fun j hj=>by
   rw[h.cellAt (0+i*6+j) (by have:=fu ts;omega),<-qJ ts i hi j hj,V4]
  exact⟨key 0 (by omega),key 1 (by omega),key 2 (by omega),key 3 (by omega),key 4 (by omega),key 5 (by omega)⟩
 rcases h.2 with⟨e,-⟩|⟨g',cap',cur,e,-,-,hle,-⟩
 ·cases e
 injection e with e1 e2 e3;omega
theorem Rd.grown{w w':ae}{R:Nat}{ad:Q02}{len cap:Nat}{row:Option Nat}(h:Rd w R ad len cap)(hg:w.grownBy w' row)(hR:some R≠row)(hb:0<len->∀b off,ad=some ⟨b,off,none⟩->some b≠row):Rd w' R ad len cap where
 lt:=Vy h.lt hg.size
 code:=hg.cell h.code hR
 place:=by obtain⟨p,hp,hl⟩:=h.place;exact⟨p,hg.cell hp hR,hl⟩
 free:=(World.frozen?_of_block (w:=w) (a:=⟨R,1,none⟩) (hg.block R h.lt hR)).trans h.free
 bytes h0:=by
  obtain⟨b,off,e,hne,hbl,hc⟩:=h.bytes h0;refine⟨b,off,e,hne,Vy hbl hg.size,fun i hi=>?_⟩;obtain⟨c,c0,c1,hcc⟩:=hc i hi;exact⟨c,c0,c1,hg.cell hcc (hb h0 b off e)⟩
 small:=h.small
theorem Only.grownNew{R:Nat}{w a b:ae}{row:Option Nat}(h:Only R w a)(hg:a.grownBy b row)(hr:∀g,row=some g->w.heap.size<=g):Only R w b :=
 ⟨hg.os.trans h.os,hg.tape.trans h.tape,hg.output.trans h.output,VJ h.size hg.size,fun i hi hne=>(hg.block i (Vy hi h.size) (fun e=>by have:=hr i e.symm;omega)).trans (h.block i hi hne)⟩
theorem M5(R:Nat)(w:ae)(n:Int)(h:n<=1):
  Calls prog 88 #[.pointer (some ⟨R,0,none⟩),.int .i64 n] w fun e w'=>e=.returned (.int .i64 0)/\w'=w:=by
 go_enter func88,ntmps88;go_wp2;go_ret;exact⟨rfl,rfl⟩
theorem M7(R:Nat)(ad:Q02)(len cap:Nat)(n:Nat)(w:ae)(h:Rd w R ad len cap)(h1:1<=n)(h2:n<=256):
  Calls prog 88 #[.pointer (some ⟨R,0,none⟩),.int .i64 (n:Int)] w fun e w'=>(∃x:Nat,e=.returned (.int .i64 (x:Int))/\x<n)/\Rd w' R ad len cap/\Only R w w':=by
 by_cases hn:n=1
 ·subst hn;exact(M5 R w 1 (by omega)).mono fun e w' ⟨he,hw⟩=>⟨⟨0,by rw[he];rfl,by omega⟩,by rw[hw];exact h,by rw[hw];exact Only.refl _ _⟩
 exact(bB R ad len cap n w h (by omega) (by omega)).mono fun e w' ⟨⟨x,he,h0,h3⟩,hR,hO⟩=>⟨⟨x.toNat,by rw[he,Int.toNat_of_nonneg h0],by omega⟩,hR,hO⟩
set_option linter.unusedVariables false
set_option maxRecDepth 100000
theorem M8{p:Tp->Bool}{ts:Q05}{k:Nat}(h:k<ts.length):(ts.take (k+1)).all p=((ts.take k).all p&&p ts[k]):=by
 rw[VE h,WK];simp
theorem Qf{p:Tp->Bool}{ts:Q05}{k:Nat}(h:k<ts.length)(hp:p ts[k]=false):ts.all p=false:=by
 rw[List.all_eq_false];exact⟨_,Vz h,by rw[hp];decide⟩
def gu(fit:Tp->Bool)(sok:Bool)(ts:Q05):Bool:=sok&&dZ ts&&ts.all fit
theorem JZ(sv:Value)(fit:Tp->Bool)(sok:Bool)(ad:Q02)(cap:Nat)(ts:Q05)(w:ae)(hlen:ts.length<=1048576)(hs:Sl w ad ts)(hf:∀x∈ts,x.fits)
  (Z4:∀w1:World,af w w1->Calls prog 91 #[sv] w1 fun e w'=>e=.returned (.bool sok)/\af w1 w')
  (hfit:∀(t:Tp) (w1:World),t.fits->af w w1->Calls prog 110 #[sv,.agg #[.string t.a,.string t.b,.string t.r,.string t.c,.string t.d,.string t.s]] w1 fun e w'=>e=.returned (.bool (fit t))/\af w1 w') :
  Calls prog 68 #[sv,.slice ad ts.length cap] w fun e w'=>e=.returned (.bool (gu fit sok ts))/\af w w':=by
 have HS:=ay hs;have HF:=ay hf;have HSO:=ay Z4;have Xd:=ay hfit;have Xu:ts.length<=maxLen:=by unfold maxLen;omega
 clear hs hf Z4 hfit;go_enter func68,ntmps68;go_wp2_with fail;refine(HSO.out _ (VD _ _)).mono ?_;rintro e w1 ⟨rfl,hb1⟩;have HB1:=ay hb1;clear hb1;cases sok;case false=>
  have HN:Hid (gu fit false ts=false):=by show _=_;unfold gu;simp
  go_wp2;go_ret;exact⟨by rw[HN.out];rfl,HB1.out⟩
 go_wp2_with fail;refine(oJ ad cap ts _ Xu (HS.out.below HB1.out) HF.out).mono ?_;rintro e w2 ⟨he,hb2⟩;have HB2:=ay (HB1.out.trans (hb2.mono HB1.out.size));clear hb2;cases h2:dZ ts;case false=>
  rw[h2]at he;subst he;have HN:Hid (gu fit true ts=false):=by show _=_;unfold gu;rw[h2];simp
  go_wp2;go_ret;exact⟨by rw[HN.out];rfl,HB2.out⟩
 rw[h2]at he;subst he;have HN:Hid (gu fit true ts=ts.all fit):=by show _=_;unfold gu;rw[h2];simp
 clear h2;go_wp2;go_loopw[5] (fun i wr=>∃k:Nat,k<=ts.length/\i=.int .i64 (k:Int)/\Hid ((ts.take k).all fit=true)/\Hid (af w wr)) (fun i _=>ts.length-(intOf i).toNat);case atStart=>exact⟨0,VG _,rfl,rfl,HB2⟩
 obtain⟨k,hk,rfl,Xl,HB⟩:=hrel;by_cases hlt:k<ts.length
 ·rcases HS.out.below HB.out with hnil|⟨b,off,rfl,hb,hr⟩
  ·rw[hnil]at hlt;simp at hlt
  obtain⟨t0,t1,t2,t3,t4,t5⟩:=hr k hlt;have hk1:=bq k;have hk2:(k:Int)<(ts.length:Int):=by omega
  have HC:=ay (Xd.out ts[k] wr (HF.out _ (Vz hlt)) HB.out);have HAT:=ay (M8 (p:=fit) hlt);have HAH:=ay (Qf (p:=fit) hlt);clear hr;go_wp2_with fail;refine HC.out.mono ?_;rintro e w3 ⟨he,hb3⟩;have HB3:=ay (HB.out.trans (hb3.mono HB.out.size));clear hb3 t0 t1 t2 t3 t4 t5;cases hfx:fit ts[k];case false=>
   rw[hfx]at he;subst he;have HE:Hid (gu fit true ts=false):=HN.out.trans (HAH.out hfx);go_wp2;go_ret;exact⟨by rw[HE.out];rfl,HB3.out⟩
  rw[hfx]at he;subst he;have HA2:Hid ((ts.take (k+1)).all fit=true):=by show _=_;rw[HAT.out,Xl.out,hfx];rfl
  go_wp2;go_roundw;case rel=>exact⟨k+1,by omega,by go_num,HA2,HB3⟩
  simp[intOf]<;>omega
 obtain rfl:k=ts.length:=by omega
 have HE:Hid (gu fit true ts=true):=by show _=_;rw[HN.out];have:=Xl.out;rw[VP]at this;exact this
 go_wp2;go_ret;exact⟨by rw[HE.out];rfl,HB.out⟩
def sH(fit:Tp->Bool)(sok:Bool)(ts:Q05)(k:Int)(t:Tp):Int:=if gu fit sok ts then aQ fit ts k t else 1
def qh(fit:Tp->Bool)(sok:Bool)(ts:Q05)(k:Int)(t:Tp):List Tp:=if gu fit sok ts then mI fit ts k t else []
theorem He{fit:Tp->Bool}{sok:Bool}{ts:Q05}(h:gu fit sok ts=true):sok=true/\dZ ts=true/\ts.all fit=true:=by
 unfold gu at h;simp only[VF]at h;exact⟨h.1.1,h.1.2,h.2⟩
theorem yL(sv:Value)(fit:Tp->Bool)(sok:Bool)(b off cap:Nat)(ts:Q05)(k:Int)(t:Tp)(w:ae)(hlen:ts.length<=1048576)(hcp:ts.length<=cap)(hb:b<w.heap.size)(hr:dE w b off ts)(hf:∀x∈ts,x.fits)(ht:t.fits)
  (Z4:∀w1:World,af w w1->Calls prog 91 #[sv] w1 fun e w'=>e=.returned (.bool sok)/\af w1 w')
  (hfit:∀(t:Tp) (w1:World),t.fits->af w w1->Calls prog 110 #[sv,.agg #[.string t.a,.string t.b,.string t.r,.string t.c,.string t.d,.string t.s]] w1 fun e w'=>e=.returned (.bool (fit t))/\af w1 w') :
  Calls prog 35 #[sv,.slice (some ⟨b,off,none⟩) ts.length cap,.agg #[.int .i64 k,.string t.a,.string t.b,.string t.r,.string t.c,.string t.d,.string t.s]] w fun e w'=>∃v,e=.returned (.tuple #[v,.int .i64 (sH fit sok ts k t)])/\w'.ownsRow w.heap.size 29 6 v (qh fit sok ts k t).length (aF (qh fit sok ts k t))/\af w w'/\(sH fit sok ts k t=0->∃g c,v=.slice (some ⟨g,0,none⟩) (qh fit sok ts k t).length c):=by
 have HR:=ay hr;have HF:=ay hf;have HT:=ay ht;have HSO:=ay Z4;have Xd:=ay hfit;clear hr hf ht Z4 hfit;obtain⟨W0,hW0⟩:∃W0,W0=w.alloc (.cells #[.int .i64 k,.string t.a,.string t.b,.string t.r,.string t.c,.string t.d,.string t.s] 31):=⟨_,rfl⟩;have HX0:Hid (nN W0 w.heap.size k t):=by show nN _ _ _ _;rw[hW0];refine⟨?_,?_,?_,?_,?_,?_,?_,?_⟩<;>simp
 have HB0:=oQ hW0;have HSL0:Hid (Sl W0 (some ⟨b,off,none⟩) ts):=.inr ⟨b,off,rfl,Vy hb HB0.out.size,HR.out.below HB0.out hb⟩;go_enter func35,ntmps35;go_wp2_with fail;rw[<-hW0];clear hW0;refine(JZ sv fit sok _ cap ts W0 hlen HSL0.out HF.out (fun w1 h=>HSO.out w1 (HB0.out.trans (h.mono HB0.out.size))) (fun t w1 ht h=>Xd.out t w1 ht (HB0.out.trans (h.mono HB0.out.size)))).mono ?_;rintro e w1 ⟨he,hb1⟩;have HB1:=ay (HB0.out.trans (hb1.mono HB0.out.size));have Yo:=ay (HX0.out.below hb1);clear hb1 HX0 HB0 HSL0;cases hra:gu fit sok ts;case false=>
  rw[hra]at he;subst he;have HC:Hid (sH fit sok ts k t=1/\qh fit sok ts k t=[]):=by show _/\_;unfold sH qh;rw[hra];exact⟨rfl,rfl⟩
  go_wp2;exact bodyPost_ret (v:=.tuple #[.slice none 0 0,.int .i64 1]) (by simp[results,Tryz.results35,go_sem]) rfl ⟨_,by rw[HC.out.1],by rw[HC.out.2];exact World.ownsRow_nil _ _ _ _,HB1.out,fun h=>by rw[HC.out.1]at h;cases h⟩
 rw[hra]at he;subst he;have HC:Hid (sH fit sok ts k t=aQ fit ts k t/\qh fit sok ts k t=mI fit ts k t):=by show _/\_;unfold sH qh;rw[hra];exact⟨rfl,rfl⟩
 have HU:=ay (OU (He hra).2.1);obtain⟨x0,x1,x2,x3,x4,x5,x6,xl⟩:=Yo.out;go_wp2_with fail;refine(sU sv fit b off cap ts k t w1 (fun w2 h=>Xd.out t w2 HT.out (HB1.out.trans (h.mono HB1.out.size))) HU.out.2.2 hcp (HR.out.below HB1.out hb) (Vy hb HB1.out.size) HF.out HT.out).mono ?_;rintro e w2 ⟨g,c,rfl,hown,hb2⟩;have HO:=ay (fT hown HB1.out.size);have HB2:=ay (HB1.out.trans (hb2.mono HB1.out.size));clear hown hb2;go_wp2;exact bodyPost_ret (v:=.tuple #[.slice (some ⟨g,0,none⟩) (mI fit ts k t).length c,.int .i64 (aQ fit ts k t)]) (by simp[results,Tryz.results35,go_sem]) rfl ⟨_,by rw[HC.out.1],by rw[HC.out.2];exact HO.out,HB2.out,fun _=>⟨g,c,by rw[HC.out.2]⟩⟩
def Fa(B:Nat)(w:World)(ad:Q02)(L:Q05):Prop:=Sl w ad L/\(L≠[]->∃g,ad=some ⟨g,0,none⟩/\B<=g/\jJ w g)
theorem Qg{B:Nat}{w:ae}{ad:Q02}{L:Q05}(h:L=[]):Fa B w ad L:=⟨.inl h,fun k=>absurd h k⟩
theorem Fa.mono{B B':Nat}{w:ae}{ad:Q02}{L:Q05}(h:Fa B w ad L)(hB:B'<=B):Fa B' w ad L:=⟨h.1,fun k=>by obtain⟨g,e,h1,h2⟩:=h.2 k;exact⟨g,e,VJ hB h1,h2⟩⟩
theorem U8{w:ae}{ad:Q02}{L:Q05}(h:Sl w ad L)(hne:L≠[]){g o:Nat}(e:ad=some ⟨g,o,none⟩):g<w.heap.size:=by
 rcases h with h|⟨b,off,e2,hb,-⟩
 ·exact absurd h hne
 rw[e]at e2;injection e2 with e2;injection e2 with e2 e3;omega
theorem Fa.later{B:Nat}{w w':ae}{ad:Q02}{L:Q05}(h:Fa B w ad L)(hb:af w w'):Fa B w' ad L:=⟨h.1.below hb,fun hne=>by
 obtain⟨g,e,h1,h2⟩:=h.2 hne;exact⟨g,e,h1,fun j=>mF hb (U8 h.1 hne e) (h2 j)⟩⟩
theorem Bq{w:ae}{base g n c:Nat}{ts:Q05}(h:w.ownsRow base 29 6 (.slice (some ⟨g,0,none⟩) n c) n (aF ts))(hn:n=ts.length):dE w g 0 ts/\g<w.heap.size/\n<=c/\base<=g:=by
 have hlt:=h.lt g rfl;refine⟨?_,hlt.2,?_,hlt.1⟩
 ·subst hn;intro i hi;have key:∀j,j<6->w.cell? ⟨g,0+i*6+j,none⟩=(ts[i]).row[j]?:=fun j hj=>by
   rw[h.cellAt (0+i*6+j) (by have:=fu ts;omega),<-qJ ts i hi j hj,V4]
  exact⟨key 0 (by omega),key 1 (by omega),key 2 (by omega),key 3 (by omega),key 4 (by omega),key 5 (by omega)⟩
 rcases h.2 with⟨e,-⟩|⟨g',cap',cur,e,-,-,hle,-⟩
 ·cases e
 injection e with e1 e2 e3;omega
theorem Br{w:ae}{base g c:Nat}{ts:Q05}(h:w.ownsRow base 29 6 (.slice (some ⟨g,0,none⟩) ts.length c) ts.length (aF ts)):dE w g 0 ts/\g<w.heap.size/\ts.length<=c:=⟨(Bq h rfl).1,(Bq h rfl).2.1,(Bq h rfl).2.2.1⟩
def Fb{α:Type}(F:Fence)(n:Nat)(P:Program)(g:Nat)(lb:Array Value)(encs:α->Array Value)(Kp:Nat->World->World->Prop)(Q:List α->World->Prop)(E:List α->α->Prop)(S:List α->Prop)(w:World):Prop :=
 ∀(l:Nat) (J:List α->World->Prop) (W:World),af w W->l<W.heap.size->w.heap.size<=l->OwnFrom W.heap.size J->(∀pre W1,J pre W1->Q pre W1) ->
  (∀pre x W1,J pre W1->E pre x->YieldAt F (n-1) P l (encs x) W1 fun e W'=>e=.returned (.bool true)/\J (pre++[x]) W'/\Kp l W1 W') ->
  J [] W ->
  CallsIn F n P g (#[.func (.yield l) #[] #[]]++lb) W fun e W'=>(∃v,e=.returned v)/\∃xs,S xs/\J xs W'
def Qh(B:Nat)(R:World->Prop)(W:World):Exit->Act->World->Prop
 | .normal,_,W'=>KeepsFrom B W W'/\R W'
 | _,_,_=>False
theorem KW{β:Type}{B k:Nat}{o:Obj}(hk:k<B):OwnFrom B (fun(_:β) W=>W.heap[k]?=some o):=fun _ X Y row hs hg hr=>(hg.block k (VH.1 hs).1 fun e=>by have:=(hr k e.symm).1;omega).trans hs
theorem Uf{β:Type}{B B':Nat}{I:β->World->Prop}(h:OwnFrom B I)(hB:B<=B'):OwnFrom B' I:=fun s X Y row hs hg hr=>h s X Y row hs hg fun r e=>⟨VJ hB (hr r e).1,(hr r e).2⟩
theorem ry{α:Type}{F:Fence}{n:Nat}{P:Program}{g:Operand}{ps:Array Tmp}{assign body:Code}{Q:Exit->Act->World->Prop}{a:Act}{w:ae}(hro:F.round=none)(h1:1<=n){gf:Nat}{lb:Array Value}(hg:a.eval g=.func (.func gf) #[] lb)(hFg:F.fn gf)(eg:∀args w,(callFunc gf args).run P w=.ok (.enter gf args) w)
  {encs:α->Array Value} {Kp:Nat->World->World->Prop} {Tell:List α->World->Prop} {E:List α->α->Prop} {S:List α->Prop} {w0:World} (hseq:Fb F (n-1) P gf lb encs Kp Tell E S w0) (hb0:af w0 w) (hps:∀x,(encs x).size=ps.size)
  (hKt:∀{l:Nat} {X Y Z:World},Kp l X Y->Kp l Y Z->Kp l X Z) (hKb:∀(W:World) (l:Nat) (o o':Obj),W.heap[l]?=some o->o.isCells=false->Kp l W (W.putObj l o'))
  (I:List α->World->Prop) (hI:OwnFrom w.heap.size I) (hT:∀pre W,I pre W->Tell pre W) (h0:I [] w)
  (Ax:α->Act->World->Prop) (hAx:∀x a',OwnFrom w.heap.size (fun(_:Unit) W=>Ax x a' W))
  (hassign:∀ (l:Nat) (pre:List α) (x:α) (W:World) (K:Act->World->Prop),I pre W->(∀ a' W',KeepsFrom w.heap.size W W'->Kp l W W'->I pre W'->Ax x a' W'->K a' W') ->
   assign.wpIn (F.inRound l) (n-1-1) P (Exit.then K (fun _ _ _=>False)) { tmps:=(ps.zip (encs x)).foldl (fun t (p,v)=>t.setIfInBounds p v) a.tmps,defers:=[] } W)
  (hbody:∀(l:Nat) (pre:List α) (x:α) (a':Act) (W:World),w.heap.size<=l->E pre x->I pre W->Ax x a' W->body.wpIn (F.inRound l) (n-1-1) P (Qh w.heap.size (fun W'=>Kp l W W'/\I (pre++[x]) W') W) a' W)
  (hdone:∀(D:Nat) (xs:List α) (W:World),w.heap.size<=D->S xs->I xs W->W.heap[D]?=some (.deferred (some []))->Q .normal { a with defers:={ target:=.collected D,args:=#[] }::a.defers } W) :
  (Code.rangeFunc g ps assign body).wpIn F n P Q a w:=by
 refine wpIn_rangeFunc fun fn hfn=>?_;rw[hro];obtain⟨rc,hrc⟩:∃rc:LoopState->Loop,rc=fun st=>{ state:=st,pending:=none,fn,tmps:=a.tmps,params:=ps,assign,body,defers:=w.heap.size }:=⟨_,rfl⟩;obtain⟨W0,hW0⟩:∃W0,W0=w.alloc (.deferred (some [])):=⟨_,rfl⟩;have s0:W0.heap.size=w.heap.size+1:=by rw[hW0];simp
 obtain⟨W1,hW1⟩:∃W1,W1=W0.alloc (.loop (rc .ready)):=⟨_,rfl⟩;have s1:W1.heap.size=w.heap.size+2:=by rw[hW1];simp;omega
 have k0:W0.heap[w.heap.size]?=some (.deferred (some [])):=by rw[hW0];exact World.alloc_heap_new w _
 have k1:W1.heap[w.heap.size]?=some (.deferred (some [])):=by rw[hW1];exact(Below.heap_alloc _ _ _ (by omega)).trans k0
 have r1:W1.heap[w.heap.size+1]?=some (.loop (rc .ready)):=by rw[hW1,<-s0];exact World.alloc_heap_new W0 _
 have i1:I [] W1:=by rw[hW1,hW0];exact hI.alloc _ (hI.alloc _ h0)
 have b1:af w W1:=by rw[hW1,hW0];exact((VD _ w).alloc (VC _) _).alloc (by simp) _
 have bb:af w0 W1:=hb0.trans (b1.mono hb0.size);refine⟨w.heap.size+1,[{ target:=.collected w.heap.size,args:=#[] }],W1,{ target:=.fn (.func gf) lb,args:=#[.func (.yield (w.heap.size+1)) #[] #[]] },W1,gf,#[.func (.yield (w.heap.size+1)) #[] #[]]++lb,W1,?_,?_,?_,?_,fun _=>h1,?_⟩
 ·rw[hW1,hW0,hrc];exact run_enterLoop_outer _ _ _ _ _
 ·simp only[resolve,hg];simp[go_sem]
 ·intro f hf;simp[Target.leads]at hf;subst hf;exact hFg
 ·simp[invoke,go_sem,eg]
 have hJ:OwnFrom W1.heap.size (fun pre W=>I pre W/\W.heap[w.heap.size+1]?=some (.loop (rc .ready))/\W.heap[w.heap.size]?=some (.deferred (some []))) :=
  (Uf hI (by omega)).and ((KW (by omega)).and (KW (by omega)))
 refine(hseq (w.heap.size+1) _ W1 bb (by omega) (by have:=hb0.size;omega) hJ (fun pre W h=>hT pre W h.1) ?_ ⟨i1,r1,k1⟩).mono ?_
 ·rintro pre x W ⟨hi,hl,hk⟩ hEx;have hy:=run_yield (P:=P) (args:=encs x) hl (by rw[hrc];exact hps x);rw[hrc]at hy;refine⟨fn,_,assign,body,hy,roundIn_of_wpIn hfn (hassign _ pre x W _ hi ?_)⟩;clear hy;intro a' Wa hka hkp hia hax;have hla:=hka.same _ _ (by omega) hl rfl;have hda:=hka.same _ _ (VC _) hk rfl;have hlt:w.heap.size+1<Wa.heap.size:=(VH.1 hla).1;refine⟨_,run_beginRound hla (by rw[hrc]),?_⟩;obtain⟨Wb,hWb⟩:∃Wb,Wb=Wa.putObj (w.heap.size+1) (.loop { rc .ready with state:=.busy }):=⟨_,rfl⟩;rw[<-hWb];have lb2:Wb.heap[w.heap.size+1]?=some (.loop { rc .ready with state:=.busy }):=by rw[hWb];exact World.putObj_heap_same hlt
  have db2:Wb.heap[w.heap.size]?=some (.deferred (some [])):=by rw[hWb];exact(World.putObj_heap_other (by omega)).trans hda
  have kb2:Kp (w.heap.size+1) Wa Wb:=by rw[hWb];exact hKb _ _ _ _ hla rfl
  have ib2:I pre Wb:=by rw[hWb];exact hI.putObj _ hia (by omega) hla rfl
  have ab2:Ax x a' Wb:=by rw[hWb];exact(hAx x a').putObj (s:=()) _ hax (by omega) hla rfl
  refine wpIn_mono (hbody _ pre x a' _ (by omega) hEx ib2 ab2) ?_;intro e a3 W3 hp;cases e;case normal=>
   obtain⟨hk3,hkp3,hi3⟩:=hp;have hl3:=hk3.same _ _ (by omega) lb2 rfl;have hd3:=hk3.same _ _ (VC _) db2 rfl;have hend:=run_endRound (P:=P) none hl3;rw[hrc]at hend;refine⟨_,_,hend,rfl,⟨hI.putObj _ hi3 (by omega) hl3 rfl,?_,(World.putObj_heap_other (by omega)).trans hd3⟩,hKt hkp (hKt (hKt kb2 hkp3) (hKb _ _ _ _ hl3 rfl))⟩;rw[hrc];exact World.putObj_heap_same (VH.1 hl3).1
  case ret=>exact hp.elim
  case exit id=>exact hp.elim
  case goto t=>exact hp.elim
  case panic ch=>exact hp.elim
  exact hp.elim
 rintro e W2 ⟨⟨v,rfl⟩,xs,hS,hi,hl,hk⟩;have hend:=run_endLoop (P:=P) hl (by rw[hrc];simp);rw[hrc]at hend;exact⟨none,_,hend,hdone _ xs _ (VC _) hS (hI.putObj _ hi (by omega) hl rfl) ((World.putObj_heap_other (by omega)).trans hk)⟩
end Go.Proofs.YtcgdckphpjfmhaaGreatDoor
namespace Go.Proofs.YtcgdckphpjfmhaaGreatDoor.Ls
theorem lt_irrefl:∀x:List UInt8,Op.bytesLess x x=false
 | []=>rfl
 | a::x=>by simp[Op.bytesLess,lt_irrefl x]
theorem lt_trans:∀x y z:List UInt8,Op.bytesLess x y=true->Op.bytesLess y z=true->Op.bytesLess x z=true
 | [],_,[],h,k=>by cases ‹List UInt8› <;> simp [Op.bytesLess] at h k
 | [],_,_::_,_,_=>rfl
 | _::_,[],_,h,_=>by simp[Op.bytesLess]at h
 | _::_,_::_,[],_,k=>by simp[Op.bytesLess]at k
 | a::x,b::y,c::z,h,k=>by
  simp only[Op.bytesLess,Bool.or_eq_true,VF,VM,beq_iff_eq]at h k ⊢;rcases h with h|⟨h,h'⟩
  ·rcases k with k|⟨k,k'⟩
   ·exact .inl (UInt8.lt_trans h k)
   exact .inl (k ▸ h)
  rcases k with k|⟨k,k'⟩
  ·exact .inl (h ▸ k)
  exact .inr ⟨h.trans k,lt_trans x y z h' k'⟩
theorem lt_total:∀x y:List UInt8,x≠y->Op.bytesLess x y=true\/Op.bytesLess y x=true
 | [],[],h=>absurd rfl h
 | [],_::_,_=>.inl rfl
 | _::_,[],_=>.inr rfl
 | a::x,b::y,h=>by
  simp only[Op.bytesLess,Bool.or_eq_true,VF,VM,beq_iff_eq];by_cases e:a=b
  ·subst e;rcases lt_total x y (fun e=>h (by rw[e])) with k|k
   ·exact .inl (.inr ⟨rfl,k⟩)
   exact .inr (.inr ⟨rfl,k⟩)
  rcases Nat.lt_or_gt_of_ne (fun k=>e (UInt8.toNat_inj.1 k)) with k|k
  ·exact .inl (.inl k)
  exact .inr (.inl k)
end Go.Proofs.YtcgdckphpjfmhaaGreatDoor.Ls
namespace Go.Proofs.YtcgdckphpjfmhaaGreatDoor
set_option maxRecDepth 100000
set_option linter.unusedVariables false
open ChangeShapes WideShapes ChangeAt RowKit Maps Go.Shelf Go.Sort
open Pl
theorem rz(f:Fc)(w:ae):
  Calls prog 87 #[.agg #[.string f.a,.string f.b,.string f.r,.string f.c,.string f.d]] w fun e w'=>e=.returned (.agg #[.string f.a,.string f.b,.string f.r,.string f.c,.string f.d,.string ⟨#[]⟩])/\BelowD w.heap.size w w':=by
 go_enter func87,ntmps87;go_wp2;exact bodyPost_ret (v:=.agg #[.string f.a,.string f.b,.string f.r,.string f.c,.string f.d,.string ⟨#[]⟩]) (by simp[results,Tryz.results87,go_sem, *]) rfl ⟨rfl,⟨by
  repeat(first|exact VD _ _|refine Below.setCell ?_ (by first|(simp;done)|(simp;omega)) _|refine Below.alloc ?_ (by first|(simp;done)|(simp;omega)) _),VC _⟩⟩
def RX(x y:Fc):Int:=F7 x.a x.b x.r x.c x.d ⟨#[]⟩ y.a y.b y.r y.c y.d ⟨#[]⟩
theorem RY{w W w':ae}{n m:Nat}{x0 x1 x2 x3 x4 y0 y1 y2 y3 y4:Value}(h:W.cell? ⟨n,0,none⟩=some x0/\W.cell? ⟨n,1,none⟩=some x1/\W.cell? ⟨n,2,none⟩=some x2/\W.cell? ⟨n,3,none⟩=some x3/\W.cell? ⟨n,4,none⟩=some x4/\W.cell? ⟨m,0,none⟩=some y0/\W.cell? ⟨m,1,none⟩=some y1/\W.cell? ⟨m,2,none⟩=some y2/\W.cell? ⟨m,3,none⟩=some y3/\W.cell? ⟨m,4,none⟩=some y4/\BelowD w.heap.size w W)(hb:BelowD W.heap.size W w'):w'.cell? ⟨n,0,none⟩=some x0/\w'.cell? ⟨n,1,none⟩=some x1/\w'.cell? ⟨n,2,none⟩=some x2/\w'.cell? ⟨n,3,none⟩=some x3/\w'.cell? ⟨n,4,none⟩=some x4/\w'.cell? ⟨m,0,none⟩=some y0/\w'.cell? ⟨m,1,none⟩=some y1/\w'.cell? ⟨m,2,none⟩=some y2/\w'.cell? ⟨m,3,none⟩=some y3/\w'.cell? ⟨m,4,none⟩=some y4/\BelowD w.heap.size w w':=by
 obtain⟨h0,h1,h2,h3,h4,g0,g1,g2,g3,g4,hB⟩:=h;exact⟨bP hb.b (aM h0) h0,bP hb.b (aM h1) h1,bP hb.b (aM h2) h2,bP hb.b (aM h3) h3,bP hb.b (aM h4) h4,bP hb.b (aM g0) g0,bP hb.b (aM g1) g1,bP hb.b (aM g2) g2,bP hb.b (aM g3) g3,bP hb.b (aM g4) g4,hB.trans (hb.mono hB.size)⟩
theorem xw(x y:Fc)(w:ae)(hx:x.fits)(hy:y.fits):
  Calls prog 44 #[.agg #[.string x.a,.string x.b,.string x.r,.string x.c,.string x.d],.agg #[.string y.a,.string y.b,.string y.r,.string y.c,.string y.d]] w fun e w'=>e=.returned (.int .i64 (RX x y))/\BelowD w.heap.size w w':=by
 have he0:(⟨#[]⟩:ByteArray).size<=maxLen:=by decide
 obtain⟨x0,x1,x2,x3,x4⟩:=hx;obtain⟨y0,y1,y2,y3,y4⟩:=hy;obtain⟨W0,hW0⟩:∃W0,W0=(w.alloc (.cells #[.string x.a,.string x.b,.string x.r,.string x.c,.string x.d] 43)).alloc (.cells #[.string y.a,.string y.b,.string y.r,.string y.c,.string y.d] 43):=⟨_,rfl⟩;have HB0:BelowD w.heap.size w W0:=by rw[hW0];exact KR _ _ _
 have c0:W0.cell? ⟨w.heap.size,0,none⟩=some (.string x.a):=by rw[hW0];simp
 have c1:W0.cell? ⟨w.heap.size,1,none⟩=some (.string x.b):=by rw[hW0];simp
 have c2:W0.cell? ⟨w.heap.size,2,none⟩=some (.string x.r):=by rw[hW0];simp
 have c3:W0.cell? ⟨w.heap.size,3,none⟩=some (.string x.c):=by rw[hW0];simp
 have c4:W0.cell? ⟨w.heap.size,4,none⟩=some (.string x.d):=by rw[hW0];simp
 have e0:W0.cell? ⟨w.heap.size+1,0,none⟩=some (.string y.a):=by rw[hW0];simp
 have e1:W0.cell? ⟨w.heap.size+1,1,none⟩=some (.string y.b):=by rw[hW0];simp
 have e2:W0.cell? ⟨w.heap.size+1,2,none⟩=some (.string y.r):=by rw[hW0];simp
 have e3:W0.cell? ⟨w.heap.size+1,3,none⟩=some (.string y.c):=by rw[hW0];simp
 have e4:W0.cell? ⟨w.heap.size+1,4,none⟩=some (.string y.d):=by rw[hW0];simp
 unfold RX;go_enter func44,ntmps44;go_wp2_with fail;rw[<-hW0];clear hW0
 go_region_held3 (fun w'=>w'.cell? ⟨w.heap.size,0,none⟩=some (.string x.a)/\w'.cell? ⟨w.heap.size,1,none⟩=some (.string x.b)/\w'.cell? ⟨w.heap.size,2,none⟩=some (.string x.r)/\w'.cell? ⟨w.heap.size,3,none⟩=some (.string x.c)/\w'.cell? ⟨w.heap.size,4,none⟩=some (.string x.d)/\w'.cell? ⟨w.heap.size+1,0,none⟩=some (.string y.a)/\w'.cell? ⟨w.heap.size+1,1,none⟩=some (.string y.b)/\w'.cell? ⟨w.heap.size+1,2,none⟩=some (.string y.r)/\w'.cell? ⟨w.heap.size+1,3,none⟩=some (.string y.c)/\w'.cell? ⟨w.heap.size+1,4,none⟩=some (.string y.d)/\BelowD w.heap.size w w')
  (first|assumption|exact RY (by assumption) hbx|exact⟨c0,c1,c2,c3,c4,e0,e1,e2,e3,e4,HB0.drew⟩)
  (first|(go_at_call_of 87 (Value.agg #[.string x.a,.string x.b,.string x.r,.string x.c,.string x.d]);refine(rz x _).mono ?_;rintro e w' ⟨rfl,hbx⟩)|(go_at_call_of 87 (Value.agg #[.string y.a,.string y.b,.string y.r,.string y.c,.string y.d]);refine(rz y _).mono ?_;rintro e w' ⟨rfl,hbx⟩)|(go_at_call 86;refine(uu x.a x.b x.r x.c x.d ⟨#[]⟩ y.a y.b y.r y.c y.d ⟨#[]⟩ _ x0 x1 x2 x3 x4 he0 y0 y1 y2 y3 y4 he0).mono ?_;rintro e w' ⟨rfl,hbx⟩))
 all_goals(rename_i hJ;obtain⟨-,-,-,-,-,-,-,-,-,-,gB⟩:=hJ;clear c0 c1 c2 c3 c4 e0 e1 e2 e3 e4;go_wp2;go_ret;exact⟨rfl,gB⟩)
abbrev KX:={ f:Fc // f.fits }
def oK(x:KX):List Value:=x.1.row
def Vo(x y:KX):Int:=RX x.1 y.1
def RZ(x:Fc):List UInt8:=(aY x.a x.b x.r x.c x.d ⟨#[]⟩).toList
def Tn(x y:KX):Bool:=Op.bytesLess (RZ x.1) (RZ y.1)
theorem Qi:ltOf Vo=Tn:=by
 funext x y
 unfold ltOf Vo Tn RX F7 RZ;rw[uX,Go.ByteArray.toList_eq,Go.ByteArray.toList_eq]
theorem R3:Go.Sort.SWO Tn where
 irrefl x:=Ls.lt_irrefl _
 trans x y z h k:=Ls.lt_trans _ _ _ h k
 ntrans x y z h k:=by
  cases e:Tn x z;case false=>rfl
  by_cases e1:RZ y.1=RZ x.1
  ·unfold Tn at *;rw[e1]at k;rw[k]at e;cases e
  rcases Ls.lt_total _ _ e1 with h1|h1
  ·have:Tn y z=true:=Ls.lt_trans _ _ _ h1 e;rw[k]at this;cases this
  have h:Tn x y=false:=h;have h1:Tn x y=true:=h1;rw[h]at h1;cases h1
theorem Qj[Inhabited KX](blk off size:Nat)(w:ae):CmpLays prog 44 #[] oK 5 Vo blk off size w:=fun m os dk _ x y =>
 (xw x.1 y.1 _ x.2 y.2).mono fun e w' ⟨he,hb⟩=>⟨he,hb.grew⟩
def lc(xs:List KX):List Fc:=xs.map (·.1)
theorem lQ(xs:List KX):(lc xs).length=xs.length:=by simp[lc]
theorem M9[Inhabited KX](w:ae)(blk off n:Nat)(d:Array KX)(os:Array Obj):Chg (fun g=>g=blk) w (sortWorldK oK 5 w blk off n d os):=by
 refine⟨⟨rfl,rfl,rfl,?_,fun k hk=>absurd hk (WJ _)⟩,fun k hk hne=>?_,fun g hg hf j=>?_⟩
 ·simp[sortWorldK,grow,putRowK,Sort.ahead]
 ·simp only[sortWorldK,putRowK];rw[heap_grow_old _ _ (by simpa[Sort.ahead] using hk)];have hne:blk≠k:=fun e=>hne e.symm;simp[putRow,mapBlock,Sort.ahead,Array.getElem?_modify,hne]
 simp only[sortWorldK,putRowK];rw[frozen?_grow _ _ _ (by simpa[Sort.ahead] using hg),frozen?_putRow,frozen?_ahead];exact hf j
theorem KY[Inhabited KX]{w:ae}{base g cap:Nat}{xs:List KX}(h:w.ownsRow base 43 5 (.slice (some ⟨g,0,none⟩) xs.length cap) xs.length (fF (lc xs))):HoldsK oK 5 w g 0 xs.toArray:=by
 intro t ht;rw[size_flatK]at ht;have ht':t<xs.length*5:=by simpa using ht
 have hi:t / 5<xs.length:=by omega
 have hr:t%5<5:=Nat.mod_lt _ (by omega);refine⟨?_,by rw[V4];exact h.frozenAt t⟩;rw[V4,h.cellAt t ht',get_flatK _ _ _ _ ht];have e:t=t / 5*5+t%5:=by omega
 have h1:=vw (lc xs) (t / 5) (by rw[lQ];exact hi) (t%5) hr;rw[<-e]at h1;rw[h1];have h2:(xs.toArray)[t / 5]! = xs[t / 5]:=by rw[getElem!_pos xs.toArray _ (by simpa using hi)];simp
 rw[h2];have h3:(lc xs)[t / 5]'(by rw[lQ];exact hi)=xs[t / 5].1:=by simp[lc]
 rw[h3];have hl:t%5<(Fc.row xs[t / 5].1).length:=hr;show _=some ((Fc.row xs[t / 5].1)[t%5]!);rw[VO hl,getElem!_pos (Fc.row xs[t / 5].1) (t%5) hl]
theorem U9[Inhabited KX]{w:ae}{base g n cap:Nat}{xs ys:List KX}(h0:w.ownsRow base 43 5 (.slice (some ⟨g,0,none⟩) n cap) n (fF (lc xs)))(hx:xs.length=n)(hl:ys.length=n)(m:Nat)(os:Array Obj):(sortWorldK oK 5 w g 0 m ys.toArray os).ownsRow base 43 5 (.slice (some ⟨g,0,none⟩) n cap) n (fF (lc ys)):=by
 subst hx;have hg:=(h0.lt g rfl).2;have hH:=holdsK_sortWorldK_c oK 5 w g 0 xs.toArray ys.toArray m os (KY h0) hg (by simpa using hl);have hlen:(fF (lc ys)).length=xs.length*5:=by rw[wT,lQ,hl]
 refine⟨hlen,.inr ?_⟩;rcases h0.2 with⟨e,-⟩|⟨g',cap',cur,e,h1,h2,h3,h4,h5,-⟩
 ·cases e
 injection e with e1 e2 e3;injection e1 with e1;injection e1 with e1;subst e1;subst e3;have hb:(sortWorldK oK 5 w g 0 m ys.toArray os).heap[g]?=some (.cells (putCells id 0 (flatK oK 5 ys.toArray) cur) 43 (0,0)):=by
  simp only[sortWorldK,putRowK];rw[heap_grow_old _ _ (by simpa[Sort.ahead] using hg)];simp[putRow,mapBlock,Sort.ahead,Array.getElem?_modify,h2,onCells]
 refine⟨g,cap,_,rfl,h1,hb,h3,h4,by simp only[putCells,Array.size_mapIdx];exact h5,?_⟩;refine List.ext_getElem? fun j=>?_;by_cases hj:j<xs.length*5
 ·rw[List.getElem?_take_of_lt hj];have hi:j / 5<ys.length:=by omega
  have h6:=(hH j (by rw[size_flatK];simpa[hl] using hj)).1;rw[V4,get_flatK _ _ _ _ (by simpa[hl] using hj)]at h6;replace h6:(sortWorldK oK 5 w g 0 m ys.toArray os).cell? ⟨g,j,none⟩=some ((oK (ys.toArray)[j / 5]!)[j%5]!):=h6;have h7:(putCells id 0 (flatK oK 5 ys.toArray) cur).toList[j]?=some ((oK (ys.toArray)[j / 5]!)[j%5]!):=by
   rw[<-h6];simp[World.cell?,hb]
  rw[h7];have e:j=j / 5*5+j%5:=by omega
  have h8:=vw (lc ys) (j / 5) (by rw[lQ];exact hi) (j%5) (Nat.mod_lt _ (by omega));rw[<-e]at h8;rw[h8];have h9:(ys.toArray)[j / 5]! = ys[j / 5]:=by rw[getElem!_pos ys.toArray _ (by simpa using hi)];simp
  have h10:(lc ys)[j / 5]'(by rw[lQ];exact hi)=ys[j / 5].1:=by simp[lc]
  rw[h9,h10];have hl2:j%5<(Fc.row ys[j / 5].1).length:=Nat.mod_lt _ (by omega);show some ((Fc.row ys[j / 5].1)[j%5]!)=_;rw[VO hl2,getElem!_pos (Fc.row ys[j / 5].1) (j%5) hl2]
 rw[List.getElem?_eq_none (by rw[V9];omega),List.getElem?_eq_none (by omega)]
theorem Na(base g cap:Nat)(fs:Q04)(w:ae)(hf:∀f∈fs,f.fits)(hR:w.ownsRow base 43 5 (.slice (some ⟨g,0,none⟩) fs.length cap) fs.length (fF fs))(hne:fs≠[])(h6:fs.length<=200000):
  Calls prog 43 #[.slice (some ⟨g,0,none⟩) fs.length cap,.func (.func 44) #[] #[]] w fun e w'=>e=.returned (.tuple #[])/\∃ys:List Fc,ys.Perm fs/\ys.Pairwise (fun x y=>Op.bytesLess (RZ y) (RZ x)=false)/\w'.ownsRow base 43 5 (.slice (some ⟨g,0,none⟩) fs.length cap) fs.length (fF ys)/\Chg (fun k=>k=g) w w':=by
 obtain⟨xs,hxs⟩:∃xs:List KX,lc xs=fs:=⟨fs.attach.map fun x=>⟨x.1,hf x.1 x.2⟩,by unfold lc;rw[List.map_map];simp[Function.comp_def]⟩;subst hxs;rw[lQ]at hR h6 ⊢;cases xs with
 | nil=>exact absurd rfl hne
 | cons x0 xs0 =>
  letI:Inhabited KX:=⟨x0⟩
  have hg:=hR.lt g rfl;have eg:∀args w,(callFunc 44 args).run prog w=.ok (.enter 44 args) w:=enters_of func44 (by kernel_rfl) rfl;have hs:=AnyQ.slices_SortFunc Tryz.sortF 5 Tryz.isAgg43 Tryz.sizeOf43 oK (fun _=>rfl) (fun x v hv=>by simp[oK,Fc.row]at hv;rcases hv with rfl|rfl|rfl|rfl|rfl<;>rfl) Vo (by rw[Qi];exact R3) 44 #[] g 0 cap (x0::xs0).toArray w eg (Qj g 0 _ w) (KY hR) hg.2 (by simp at h6⊢;omega)
  change Calls prog 43 _ _ _ at hs
  rw[Qi]at hs;refine hs.mono fun e w' ⟨he,d',n,os,hp,hso,hw⟩=>⟨he,lc d'.toList,?_,?_,?_,?_⟩
  ·have:=hp.2.2;have h2:d'.toList.Perm (x0::xs0):=by simpa[Array.extract_eq_self_of_le,hp.1] using this
   exact h2.map _
  ·have hz:d'.size=xs0.length+1:=by simpa using hp.1
   unfold lc;rw[List.pairwise_map,List.pairwise_iff_getElem];intro i j hi hj hij;have hi2:i<d'.size:=by simpa using hi
   have hj2:j<d'.size:=by simpa using hj
   have hlt:=hso i j (VG _) hij (by rw[hz]at hj2;simpa using hj2);rw[getElem!_pos d' j hj2,getElem!_pos d' i hi2]at hlt;exact hlt
  ·rw[hw];have hz:d'.toList.length=(x0::xs0).length:=by simpa using hp.1
   have:=U9 hR rfl hz n os;simpa using this
  rw[hw];exact M9 w g 0 n d' os
theorem Hf(p:Q02)(cap:Nat)(fv:Value)(w:ae):
  Calls prog 137 #[.slice p 0 cap,.int .i64 0,.int .i64 0,fv] w fun e w'=>e=.returned (.tuple #[])/\w'=w:=by
 go_enter func137,ntmps137;go_wp2_with fail;go_loopw[8] (fun i wr=>i=.int .i64 1/\wr=w) (fun _ _=>0);case atStart=>exact⟨rfl,rfl⟩
 obtain⟨rfl,rfl⟩:=hrel;go_wp2
 go_end0
 exact⟨rfl,rfl⟩
theorem Qk(p:Q02)(cap:Nat)(lim:Int)(fv:Value)(w:ae):
  Calls prog 84 #[.slice p 0 cap,.int .i64 0,.int .i64 0,.int .i64 lim,fv] w fun e w'=>e=.returned (.tuple #[])/\w'=w:=by
 go_enter func84,ntmps84;go_wp2_with fail;go_loopw[1,2] (fun a b wr=>a=.int .i64 0/\b=.int .i64 0/\wr=w) (fun _ _ _=>0);case atStart=>exact⟨rfl,rfl,rfl⟩
 obtain⟨rfl,rfl,rfl⟩:=hrel;go_wp2_with fail;refine(Hf p cap fv _).mono ?_;rintro e w1 ⟨rfl,rfl⟩;go_wp2;refine bodyPost_ret (results_none rfl _ _ _) rfl ?_;exact⟨rfl,rfl⟩
theorem Nb(p:Q02)(cap:Nat)(fv:Value)(w:ae):
  Calls prog 43 #[.slice p 0 cap,fv] w fun e w'=>e=.returned (.tuple #[])/\w'=w:=by
 go_enter func43,ntmps43;go_wp2_with fail;refine(Tryz.bits_Len 0 _ (by omega) (by omega)).mono ?_;rintro e w1 ⟨rfl,rfl⟩;go_wp2_with fail;refine(Qk p cap _ fv _).mono ?_;rintro e w1 ⟨rfl,rfl⟩;go_wp2
 go_end0
 exact⟨rfl,rfl⟩
section
variable  {α:Type}{lt:α->α->Bool}
structure OrdO(lt:α->α->Bool)(rs:List α):Prop where
 trans:∀x∈rs,∀y∈rs,∀z∈rs,lt x y=true->lt y z=true->lt x z=true
 asymm:∀x∈rs,∀y∈rs,lt x y=true->lt y x=false
 total:∀x∈rs,∀y∈rs,x≠y->lt x y=true\/lt y x=true
theorem OrdO.mono{rs qs:List α}(h:OrdO lt rs)(hs:∀x∈qs,x∈rs):OrdO lt qs :=
 ⟨fun x hx y hy z hz=>h.trans x (hs x hx) y (hs y hy) z (hs z hz),fun x hx y hy=>h.asymm x (hs x hx) y (hs y hy),fun x hx y hy=>h.total x (hs x hx) y (hs y hy)⟩
end
theorem Ug{P:Nat->Prop}(h:∃n,P n):∃n,P n/\∀m,P m->n<=m:=by
 obtain⟨n,hn⟩:=h
 induction n using Nat.strongRecOn with
 | ind n ih =>
  by_cases hx:∃m,m<n/\P m
  ·obtain⟨m,hm,hp⟩:=hx;exact ih m hm hp
  exact⟨n,hn,fun m hm=>Nat.le_of_not_lt fun hlt=>hx ⟨m,hlt,hm⟩⟩
theorem Ql{ts:Q0b}(h:∃f,Sol ts f):∃f,Least ts f:=by
 have key:∀ k,∃ n:Nat,(∃ g,Sol ts g/\g k=(n:Int))/\∀ m:Nat,(∃ g,Sol ts g/\g k=(m:Int))->n<=m:=fun k=>Ug (by
  obtain⟨f,hf⟩:=h;exact⟨(f k).toNat,f,hf,by have:=hf.pos k;omega⟩)
 have low:∀k g,Sol ts g->(((key k).choose:Nat):Int)<=g k:=fun k g hg=>by
  have h1:=(key k).choose_spec.2 (g k).toNat ⟨g,hg,by have:=hg.pos k;omega⟩;have:=hg.pos k;omega
 refine⟨fun k=>(((key k).choose:Nat):Int),⟨fun k=>Int.natCast_nonneg _,fun k hk d hd=>?_⟩,fun k hk g hg=>low k g hg⟩;obtain⟨g,hg,e⟩:=(key k).choose_spec.1;have h1:=low (d.typ,d.rel) g hg;have h2:=hg.up k hk d hd;show(((key (d.typ,d.rel)).choose:Nat):Int)+stepOf d<=(((key k).choose:Nat):Int);rw[<-e];exact Int.le_trans (Int.add_le_add_right h1 _) h2
theorem Va(ts:Q0b):∃st,ak ts=true->Least ts st:=by
 by_cases h:ak ts=true
 ·obtain⟨st,hst⟩:=Ql (bz.1 h).2.2;exact⟨st,fun _=>hst⟩
 exact⟨fun _=>0,fun h2=>absurd h2 h⟩
theorem Qm{ts:Q05}(hu:Up ts)(hok:∀t∈ts,t.ok=true)(hl:ts.length<=40):dZ ts=true:=by
 unfold dZ uZ;simp only[VF,VM];refine⟨hl,VN.2 fun i hi=>?_⟩;have hi':i<ts.length:=List.mem_range.1 hi;cases i with
 | zero=>rw[rU hi'];exact hok _ (Vz _)
 | succ j =>
  rw[ol hi'];simp only[VF];exact⟨hok _ (Vz _),List.pairwise_iff_getElem.1 hu j (j+1) (by omega) hi' (by omega)⟩
theorem rA(ad WY:Q02)(cap cap':Nat)(ts:Q05)(w:ae)(hlen:ts.length<=1048576)(hs:Sl w ad ts)(hs':Sl w WY ts):
  Calls prog 18 #[.slice ad ts.length cap,.slice WY ts.length cap'] w fun e w'=>e=.returned (.bool true)/\af w w':=by
 have HS:=fe hs;have HS':=fe hs';clear hs hs';have hnn:((ts.length:Int) != (ts.length:Int))=false:=by simp
 go_enter func18,ntmps18;go_wp2;go_loopw[5] (fun i wr=>∃k:Nat,k<=ts.length/\i=.int .i64 k/\Hid (af w wr)) (fun i _=>ts.length-(intOf i).toNat);case atStart=>exact⟨0,VG _,rfl,VD _ _⟩
 obtain⟨k,hk,rfl,HB⟩:=hrel;have hk1:=bq k;by_cases hlt:k<ts.length
 ·have hk2:(k:Int)<(ts.length:Int):=by omega
  rcases HS.out.below HB.out with hnil|⟨b,off,rfl,hb,hr⟩
  ·rw[hnil]at hlt;simp at hlt
  rcases HS'.out.below HB.out with hnil|⟨b',off',rfl,hb',hr'⟩
  ·rw[hnil]at hlt;simp at hlt
  obtain⟨t0,t1,t2,t3,t4,t5⟩:=hr k hlt;obtain⟨u0,u1,u2,u3,u4,u5⟩:=hr' k hlt;have heq:=IZ ts[k] ts[k] (v:=false) (by rw[mh.2 rfl];rfl);clear hr hr';go_wp2_with fail;go_quiet (fail);have HB2:Hid (af w (wr.drewN nq)):=⟨HB.out.os,HB.out.tape,HB.out.output,HB.out.size,HB.out.block⟩;clear t0 t1 t2 t3 t4 t5 u0 u1 u2 u3 u4 u5 heq;go_wp2;go_roundw;case rel=>exact⟨k+1,by omega,by go_num,HB2⟩
  simp[intOf]<;>omega
 go_wp2;go_ret;exact⟨rfl,HB.out⟩
end Go.Proofs.YtcgdckphpjfmhaaGreatDoor
