/- Contracts of the drawing's reader: its next byte, a number below another one. What it answers is left open but for its bounds. -/
import Derived.Test.YtojjoblnpldniaaGreatSq
import Derived.ChangeSlices
import Derived.Deep.Slices
import Derived.Test.YtojjoblnpldniaaGreatJ3
import Derived.RangeFuncNested
import Derived.OrdersIn
open Go.Proofs.Tryz
set_option maxHeartbeats 80000000
set_option linter.defProp false
namespace Go.Proofs.YtojjoblnpldniaaGreat
open ChangeShapes WideShapes ChangeAt RowKit
open Pl
structure Rd(w:World)(R:Nat)(ad:Q02)(len cap:Nat):Prop where
 lt:R<w.heap.size
 code:w.cell? ⟨R,0,none⟩=some (.slice ad len cap)
 place:∃p:Nat,w.cell? ⟨R,1,none⟩=some (.int .i64 p)/\p<=len
 free:w.frozen? ⟨R,1,none⟩=false
 bytes:0<len->∃b off,ad=some ⟨b,off,none⟩/\b≠R/\b<w.heap.size/\∀i,i<len->∃c:Int,0<=c/\c<=255/\w.cell? ⟨b,off+i,none⟩=some (.int .u8 c)
 small:len<=maxLen
def Rd.below{w w':ag}{R:Nat}{ad:Q02}{len cap:Nat}(h:Rd w R ad len cap)(hb:ae w w'):Rd w' R ad len cap where
 lt:=XJ h.lt hb.size
 code:=by rw[hb.cell (p:=⟨R,0,none⟩) h.lt];exact h.code
 place:=by obtain⟨p,hp,hl⟩:=h.place;exact⟨p,by rw[hb.cell (p:=⟨R,1,none⟩) h.lt];exact hp,hl⟩
 free:=by rw[hb.frozen (p:=⟨R,1,none⟩) h.lt];exact h.free
 bytes h0:=by
  obtain⟨b,off,e,hne,hbl,hc⟩:=h.bytes h0;refine⟨b,off,e,hne,XJ hbl hb.size,fun i hi=>?_⟩;obtain⟨c,c0,c1,hcc⟩:=hc i hi;exact⟨c,c0,c1,by rw[hb.cell (p:=⟨b,off+i,none⟩) hbl];exact hcc⟩
 small:=h.small
def Rd.step{w:ag}{R p:Nat}{ad:Q02}{len cap:Nat}(h:Rd w R ad len cap)(hp:p+1<=len):Rd (w.setCell (ap R 1)<|.int .i64<|(p:Int)+1) R ad len cap where
 lt:=by simpa using h.lt
 code:=by
  rw[show(w.setCell (ap R 1)<|.int .i64<|(p:Int)+1).cell? (am R)=w.cell? (am R) from by apply World.cell?_setCell_other;intro e;cases e];exact h.code
 place:=by
  obtain⟨q,hq,-⟩:=h.place;exact⟨p+1,by rw[show(w.setCell (ap R 1)<|.int .i64<|(p:Int)+1).cell? (ap R 1)=some (.int .i64<|(p:Int)+1) from by apply World.cell?_setCell_same;exact hq];simp,hp⟩
 free:=by simpa using h.free
 bytes h0:=by
  obtain⟨b,off,e,hne,hbl,hc⟩:=h.bytes h0;refine⟨b,off,e,hne,by simpa using hbl,fun i hi=>?_⟩;obtain⟨c,c0,c1,hcc⟩:=hc i hi;refine⟨c,c0,c1,?_⟩;rw[show(w.setCell (ap R 1)<|.int .i64<|(p:Int)+1).cell? (ap b<|off+i)=w.cell? (ap b<|off+i) from by apply World.cell?_setCell_other;intro e;exact hne (congrArg Addr.block e).symm];exact hcc
 small:=h.small
def Only(R:Nat)(w w':World):Prop:=w.grownBy w'<|some R
def Only.refl(R:Nat)(w:ag):Only R w w:=⟨rfl,rfl,rfl,XK _,fun _ _ _=>rfl⟩
def Only.trans{R:Nat}{a b c:ag}(h:Only R a b)(k:Only R b c):Only R a c :=
 ⟨k.os.trans h.os,k.tape.trans h.tape,k.output.trans h.output,XR h.size k.size,fun i hi hr=>(k.block i (XJ hi h.size) hr).trans<|h.block i hi hr⟩
def Only.drewN{R:Nat}{a b:ag}(h:Only R a b)(n:Nat):Only R a (b.drewN n):=⟨h.os,h.tape,h.output,h.size,h.block⟩
def Only.set{R:Nat}{a b:ag}(h:Only R a b)(o:Nat)(v:Value):Only R a (b.setCell (ap R o) v) :=
 ⟨h.os,h.tape,h.output,by simpa using h.size,fun i hi hr=>(Below.heap_setCell b ⟨R,o,none⟩ v i fun e=>hr<|by rw[e]).trans (h.block i hi hr)⟩
def Only.below{R:Nat}{a b c:ag}(h:Only R a b)(k:ae b c):Only R a c :=
 ⟨k.os.trans h.os,k.tape.trans h.tape,k.output.trans h.output,XR h.size k.size,fun i hi hr=>(k.block i<|XJ hi h.size).trans<|h.block i hi hr⟩
def Only.of_below{R:Nat}{b c:ag}(k:ae b c):Only R b c:=(Only.refl R b).below k
def Only.cell{R:Nat}{w w':ag}(h:Only R w w'){b o:Nat}(hb:cW b w)(hne:b≠R):w'.cell? (ap b o)=w.cell? (ap b o) :=
 Yf (w:=w) (h.block b hb fun e=>hne<|by injection e)
def Only.frozen{R:Nat}{w w':ag}(h:Only R w w'){b o:Nat}(hb:cW b w)(hne:b≠R):w'.frozen? (ap b o)=w.frozen? (ap b o) :=
 World.frozen?_of_block (w:=w) (h.block b hb fun e=>hne<|by injection e)
def Only.toBelow{R B:Nat}{a w w':ag}(h:Below B a w)(k:Only R w w')(hB:cV B w)(hR:B<=R):Below B a w' :=
 h.grown k hB (fun i hi=>by injection hi with e;omega)
def wK(R:Nat)(ad:Q02)(len cap:Nat)(w:ag)(h:Rd w R ad len cap):
  Calls prog 170 #[.pointer (some<|am R)] w fun e w'=>(∃x:Int,e=.returned (.int .i64 x)/\0<=x/\x<=255)/\Rd w' R ad len cap/\Only R w w':=by
 obtain⟨p,hp,hpl⟩:=h.place;have hc:=h.code;have hsm:=h.small;unfold maxLen at hsm;have H:=aK h;by_cases hlt:p<len
 ·obtain⟨b,off,rfl,hne,hbl,hbytes⟩:=h.bytes cq;obtain⟨c,c0,c1,hcc⟩:=hbytes p hlt;have hfz:=h.free;have hnl:decide ((len:Int)<=(p:Int))=false:=by simp;omega
  have HS:O (Rd (w.setCell (ap R 1)<|.int .i64<|(p:Int)+1) R (some<|ap b off) len cap):=h.step cq;clear hbytes h;go_enter func170,ntmps170;go_wp2;go_quiet (fail);go_wp2;have e1:(p:Int)+1-1=(p:Int):=cq;have e2:=bG p;have e3:(p:Int)<(len:Int):=cq;have hw:IntKind.i64.wrap (p:Int)=(p:Int):=by rw[IntKind.wrap_i64];omega
  have hcw:IntKind.i64.wrap c=c:=by rw[IntKind.wrap_i64];omega
  have x1:(w.setCell (ap R 1)<|.int .i64<|(p:Int)+1).cell? (ap b<|off+p)=some (.int .u8 c):=by
   rw[show(w.setCell (ap R 1)<|.int .i64<|(p:Int)+1).cell? (ap b<|off+p)=w.cell? (ap b<|off+p) from by apply World.cell?_setCell_other;intro e;exact hne (congrArg Addr.block e).symm];exact hcc
  go_quiet (fail);go_wp2;go_ret;exact⟨⟨c,rfl,c0,c1⟩,HS.below ⟨rfl,rfl,rfl,XK _,fun _ _=>rfl⟩,(((Only.refl _ _).drewN _).set _ _).drewN _⟩
 have hge:decide ((len:Int)<=(p:Int))=true:=by simp;omega
 clear h;go_enter func170,ntmps170;go_wp2;go_quiet (fail);go_wp2;go_ret;exact⟨⟨0,rfl,cq,cq⟩,H.below<|(below_drewN (XL _ _) _),(Only.refl _ _).drewN _⟩
def df(R:Nat)(ad:Q02)(len cap:Nat)(n:Int)(w:ag)(h:Rd w R ad len cap)(h1:2<=n)(h2:n<=256):
  Calls prog 90 #[.pointer (some<|am R),.int .i64 n] w fun e w'=>(∃x:Int,e=.returned (.int .i64 x)/\0<=x/\x<n)/\Rd w' R ad len cap/\Only R w w':=by
 have H:=aK h;clear h;have hne:(n==0)=false:=by simp;omega
 go_enter func90,ntmps90;go_wp2_with fail;refine(wK R ad len cap _ H).mono ?_;rintro e w1 ⟨⟨x,rfl,hx0,hx1⟩,Zr,Zx⟩;have HR:=aK Zr;have HO:=aK Zx;clear Zr Zx;go_wp2;go_ret;exact⟨⟨_,rfl,Int.emod_nonneg _ cq,Int.emod_lt_of_pos _ cq⟩,HR,HO⟩
def jA(R:Nat)(ad:Q02)(len cap:Nat)(n:Int)(w:ag)(h:Rd w R ad len cap)(h1:2<=n)(h2:n<=256):
  Calls prog 114 #[.pointer (some<|am R),.int .i64 n] w fun e w'=>(∃x:Bool,e=.returned (.bool x))/\Rd w' R ad len cap/\Only R w w':=by
 have H:=aK h;clear h;go_enter func114,ntmps114;go_wp2_with fail;refine(df R ad len cap n _ H h1 h2).mono ?_;rintro e w1 ⟨⟨x,rfl,hx0,hx1⟩,Zr,Zx⟩;have HR:=aK Zr;have HO:=aK Zx;clear Zr Zx;go_wp2;go_ret;exact⟨⟨_,rfl⟩,HR,HO⟩
def Strs(w:World)(R g n:Nat):Prop:=g≠R/\g<w.heap.size/\∀i,i<n->∃s:ByteArray,s.size<=20/\w.cell? ⟨g,i,none⟩=some (.string s)
def Strs.only{w w':ag}{R g n:Nat}(h:Strs w R g n)(k:Only R w w'):Strs w' R g n :=
 ⟨h.1,XJ h.2.1 k.size,fun i hi=>by obtain⟨s,hs,hc⟩:=h.2.2 i hi;exact⟨s,hs,by rw[k.cell h.2.1 h.1];exact hc⟩⟩
def Bz(w:World)(R B g:Nat):Prop:=g≠R/\B<=g/\g<w.heap.size/\(∀o,w.frozen? ⟨g,o,none⟩=false)/\∃a b:ByteArray,a.size<=20/\b.size<=20/\w.cell? ⟨g,0,none⟩=some (.string a)/\w.cell? ⟨g,1,none⟩=some (.string b)
def Bz.only{w w':ag}{R B g:Nat}(h:Bz w R B g)(k:Only R w w'):Bz w' R B g:=by
 obtain⟨h1,h2,h3,h4,a,b,ha,hb,ca,cb⟩:=h;exact⟨h1,h2,XJ h3 k.size,fun o=>by rw[k.frozen h3 h1];exact h4 o,a,b,ha,hb,by rw[k.cell h3 h1];exact ca,by rw[k.cell h3 h1];exact cb⟩
def gm(w:ag)(R:Nat)(hR:cW R w){t:TypeId}{xs:List ByteArray}(h:xs.all (fun x=>decide (x.size<=20))=true):Strs (w.alloc<|.cells (xs.map Value.string).toArray t) R w.heap.size xs.length:=by
 refine⟨cq,ct,fun i hi=>⟨xs[i],?_,?_⟩⟩
 ·rw[XY]at h;simpa using h xs[i] (XI hi)
 simp[hi]
def NS{w:ag}{R B:Nat}{t:TypeId}(hR:cW R w)(hB:cV B w):Bz (w.alloc<|.cells aw t) R B w.heap.size :=
 ⟨cq,hB,ct,fun o=>ct,⟨#[]⟩,⟨#[]⟩,cv,cv,ct,ct⟩
def NT{w:ag}{R B g:Nat}{x y:Value}{a b:ByteArray}(h1:g≠R)(h2:B<=g)(h3:cW g w)(h4:∀o,w.frozen? (ap g o)=false)(hx:w.cell? (am g)=some x)(hy:w.cell? (ap g 1)=some y)(ha:a.size<=20)(hb:b.size<=20):
  Bz ((w.setCell (am g)<|.string a).setCell (ap g 1)<|.string b) R B g:=by
 have n01:(⟨g,0,none⟩:Addr)≠⟨g,1,none⟩:=by intro e;cases e
 have e1:(w.setCell (am g)<|.string a).cell? (ap g 1)=some y:=by
  rw[show(w.setCell (am g)<|.string a).cell? (ap g 1)=w.cell? (ap g 1) from by apply World.cell?_setCell_other;exact n01];exact hy
 refine⟨h1,h2,by simpa using h3,fun o=>by simpa using h4 o,a,b,ha,hb,?_,?_⟩
 ·rw[show((w.setCell (am g)<|.string a).setCell (ap g 1)<|.string b).cell? (am g)=(w.setCell (am g)<|.string a).cell? (am g) from by apply World.cell?_setCell_other;exact n01.symm];apply World.cell?_setCell_same;exact hx
 apply World.cell?_setCell_same;exact e1
def Rd.setFar{w:ag}{R g o:Nat}{ad:Q02}{len cap:Nat}{v:Value}(h:Rd w R ad len cap)(hg:g≠R)(hb:0<len->∀b off,ad=some (ap b off)->b≠g):Rd (w.setCell (ap g o) v) R ad len cap where
 lt:=by simpa using h.lt
 code:=by
  rw[show(w.setCell (ap g o) v).cell? (am R)=w.cell? (am R) from by apply World.cell?_setCell_other;intro e;exact hg<|congrArg Addr.block e];exact h.code
 place:=by
  obtain⟨p,hp,hl⟩:=h.place;exact⟨p,by rw[show(w.setCell (ap g o) v).cell? (ap R 1)=w.cell? (ap R 1) from by apply World.cell?_setCell_other;intro e;exact hg<|congrArg Addr.block e];exact hp,hl⟩
 free:=by simpa using h.free
 bytes h0:=by
  obtain⟨b,off,e,hne,hbl,hc⟩:=h.bytes h0;refine⟨b,off,e,hne,by simpa using hbl,fun i hi=>?_⟩;obtain⟨c,c0,c1,hcc⟩:=hc i hi;exact⟨c,c0,c1,by rw[show(w.setCell (ap g o) v).cell? (ap b<|off+i)=w.cell? (ap b<|off+i) from by apply World.cell?_setCell_other;intro e2;exact hb h0 b off e (congrArg Addr.block e2).symm];exact hcc⟩
 small:=h.small
def Only.setNew{R g o:Nat}{a b:ag}{v:Value}(h:Only R a b)(hg:a.heap.size<=g):Only R a (b.setCell (ap g o) v) :=
 ⟨h.os,h.tape,h.output,by simpa using h.size,fun i hi hr=>(Below.heap_setCell b ⟨g,o,none⟩ v i<|by simp;omega).trans (h.block i hi hr)⟩
def Only.alloc{R:Nat}{a b:ag}(h:Only R a b)(o:Obj):Only R a (b.alloc o):=h.below<|(XL _ _).alloc (XK _) _
def Rd.alloc{w:ag}{R:Nat}{ad:Q02}{len cap:Nat}(h:Rd w R ad len cap)(o:Obj):Rd (w.alloc o) R ad len cap:=h.below<|(XL _ _).alloc (XK _) _
def TS{w:ag}{a:Addr}{v:Value}(h:w.cell? a=some v)(o:Obj):(w.alloc o).cell? a=some v:=cell_later ((XL _ _).alloc (XK _) _) h
def Ob(w:World)(R g:Nat)(a b:ByteArray):Prop:=g≠R/\g<w.heap.size/\w.cell? ⟨g,0,none⟩=some (.string a)/\w.cell? ⟨g,1,none⟩=some (.string b)
def Ob.only{w w':ag}{R g:Nat}{a b:ByteArray}(h:Ob w R g a b)(k:Only R w w'):Ob w' R g a b :=
 ⟨h.1,XJ h.2.1 k.size,by rw[k.cell h.2.1 h.1];exact h.2.2.1,by rw[k.cell h.2.1 h.1];exact h.2.2.2⟩
def Ob.alloc{w:ag}{R g:Nat}{a b:ByteArray}(h:Ob w R g a b)(o:Obj):Ob (w.alloc o) R g a b:=h.only<|(Only.refl R w).alloc o
def Gj{w:ag}{R:Nat}(hR:cW R w)(t:TypeId)(a b:dw):Ob (w.alloc<|.cells #[.string a,.string b] t) R w.heap.size a b :=
 ⟨cq,ct,ct,ct⟩
def VL(w:World)(R n:Nat):Prop:=n≠R/\n<w.heap.size/\(∀o,w.frozen? ⟨n,o,none⟩=false)/\∀o,o<6->w.cell? ⟨n,o,none⟩=some (.string ⟨#[]⟩)
def VL.only{w w':ag}{R n:Nat}(h:VL w R n)(k:Only R w w'):VL w' R n :=
 ⟨h.1,XJ h.2.1 k.size,fun o=>by rw[k.frozen h.2.1 h.1];exact h.2.2.1 o,fun o ho=>by rw[k.cell h.2.1 h.1];exact h.2.2.2 o ho⟩
def TU{w:ag}{R:Nat}(hR:cW R w)(t:TypeId):VL (w.alloc<|.cells aq t) R w.heap.size:=by
 refine⟨cq,ct,fun o=>ct,fun o ho=>?_⟩;have h6:o=0\/o=1\/o=2\/o=3\/o=4\/o=5:=cq
 rcases h6 with rfl|rfl|rfl|rfl|rfl|rfl<;>simp
structure Kd where
 s:Value ⊕ Nat ⊕ Nat ⊕ Nat ⊕ Unit ⊕ Unit ⊕ Unit
abbrev Kd.eq (v:Value):Kd:=⟨.inl v⟩
abbrev Kd.strs (n:Nat):Kd:=⟨.inr<|.inl n⟩
abbrev Kd.idx (n:Nat):Kd:=⟨.inr<|.inr<|.inl n⟩
abbrev Kd.elt (n:Nat):Kd:=⟨.inr<|.inr<|.inr<|.inl n⟩
abbrev Kd.str:Kd:=⟨.inr<|.inr<|.inr<|.inr<|.inl ()⟩
abbrev Kd.obj:Kd:=⟨.inr<|.inr<|.inr<|.inr<|.inr<|.inl ()⟩
abbrev Kd.tup:Kd:=⟨.inr<|.inr<|.inr<|.inr<|.inr<|.inr ()⟩
def Kd.ok(R:Nat)(w:World)(v:Value):Kd->Prop
 | ⟨.inl u⟩=>v=u
 | ⟨.inr<|.inl n⟩=>∃g,v=.slice (some ⟨g,0,none⟩) n n/\Strs w R g n
 | ⟨.inr<|.inr<|.inl n⟩=>∃x:Nat,v=.int .i64 (x:Int)/\x<n
 | ⟨.inr<|.inr<|.inr<|.inl n⟩=>∃g x,v=.pointer (some ⟨g,x,none⟩)/\x<n/\Strs w R g n
 | ⟨.inr<|.inr<|.inr<|.inr<|.inl _⟩=>∃t:ByteArray,v=.string t/\t.size<=20
 | ⟨.inr<|.inr<|.inr<|.inr<|.inr<|.inl _⟩=>∃a b:ByteArray,v=.agg #[.string a,.string b]/\a.size<=20/\b.size<=20
 | ⟨.inr<|.inr<|.inr<|.inr<|.inr<|.inr _⟩=>∃a b r c d s:ByteArray,v=.agg #[.string a,.string b,.string r,.string c,.string d,.string s]/\a.size<=20/\b.size<=20/\r.size<=20/\c.size<=20/\d.size<=20/\s.size<=20
def Kd.only{R:Nat}{w w':ag}{v:Value}(h:Only R w w')(k:Kd)(hk:k.ok R w v):k.ok R w' v:=by
 match k,hk with
 | ⟨.inl _⟩,hk=>exact hk
 | ⟨.inr<|.inl _⟩,hk=>obtain⟨g,e,hs⟩:=hk;exact⟨g,e,hs.only h⟩
 | ⟨.inr<|.inr<|.inl _⟩,hk=>exact hk
 | ⟨.inr<|.inr<|.inr<|.inl _⟩,hk=>obtain⟨g,x,e,hx,hs⟩:=hk;exact⟨g,x,e,hx,hs.only h⟩
 | ⟨.inr<|.inr<|.inr<|.inr<|.inl _⟩,hk=>exact hk
 | ⟨.inr<|.inr<|.inr<|.inr<|.inr<|.inl _⟩,hk=>exact hk
 | ⟨.inr<|.inr<|.inr<|.inr<|.inr<|.inr _⟩,hk=>exact hk
def Iq(ks:List Kd)(k:Nat):Kd:=ks.getD k .tup
set_option maxRecDepth 100000
def kF{p:Prop}(h:p):O p:=h
def Kw(R:Nat)(w:ag)(n:Int)(h:n<=1):
  Calls prog 90 #[.pointer (some<|am R),.int .i64 n] w (bh w<|.int .i64 0):=by
 go_enter func90,ntmps90;go_wp2;go_ret;exact⟨rfl,rfl⟩
def gM(R:Nat)(ad:Q02)(len cap:Nat)(n:Nat)(w:ag)(h:Rd w R ad len cap)(h1:1<=n)(h2:n<=256):
  Calls prog 90 #[.pointer (some<|am R),.int .i64 (n:Int)] w fun e w'=>(∃x:Nat,e=.returned (.int .i64 (x:Int))/\x<n)/\Rd w' R ad len cap/\Only R w w':=by
 by_cases hn:n=1
 ·subst hn;exact(Kw R w 1 cq).mono fun e w' ⟨he,hw⟩=>⟨⟨0,by rw[he];rfl,cq⟩,by rw[hw];exact h,by rw[hw];exact Only.refl _ _⟩
 exact(df R ad len cap n w h cq cq).mono fun e w' ⟨⟨x,he,h0,h3⟩,hR,hO⟩=>⟨⟨x.toNat,by rw[he,Int.toNat_of_nonneg h0],cq⟩,hR,hO⟩
def uy(w:World)(R g n m:Nat):Prop:=g≠R/\g<w.heap.size/\∀o,o<n->∃s:ByteArray,w.cell? ⟨g,o,none⟩=some (.string s)/\s.size<=m
def uy.only{w w':ag}{R g n m:Nat}(h:uy w R g n m)(k:Only R w w'):uy w' R g n m :=
 ⟨h.1,XJ h.2.1 k.size,fun o ho=>by obtain⟨s,e,hs⟩:=h.2.2 o ho;exact⟨s,by rw[k.cell h.2.1 h.1];exact e,hs⟩⟩
def ni(w:ag)(R m:Nat)(hR:cW R w){t:TypeId}{xs:List ByteArray}(h:xs.all (fun x=>decide (x.size<=m))=true):uy (w.alloc<|.cells (xs.map Value.string).toArray t) R w.heap.size xs.length m:=by
 refine⟨cq,ct,fun o ho=>⟨xs[o],?_,?_⟩⟩
 ·have:=World.cell?_alloc_mark w (xs.map Value.string).toArray t (0,0) o;rw[this];simp[ho]
 have:=XY.1 h _<|XI ho;simpa using this
def tB:Nat->Nat
 | 0=>14
 | d+1=>3*tB d+8
def uH(R:Nat)(ad:Q02)(len cap:Nat)(d:Int)(w:ag)(h:Rd w R ad len cap):
  Calls prog 238 #[.pointer (some<|am R),.int .i64 d,.bool true] w fun e w'=>(∃t:ByteArray,e=.returned (.string t)/\t.size<=24)/\Rd w' R ad len cap/\Only R w w':=by
 have hRw:=h.lt;have HRD:=kF h;obtain⟨xs,hxs⟩:∃xs:List ByteArray,xs=[⟨#[116,104,105,115,40,117,115,101,114,41]⟩,⟨#[116,104,105,115,40,117,115,101,114,44,103,114,111,117,112,35,109,101,109,98,101,114,41]⟩,⟨#[116,104,105,115,40,117,115,101,114,44,100,111,99,35,101,100,105,116,111,114,41]⟩]:=⟨_,rfl⟩;obtain⟨W0,hW0⟩:=eQx<|w.alloc<|.cells (xs.map Value.string).toArray 9;have HS0:O (uy W0 R w.heap.size 3 24):=by
  show uy _ _ _ _ _;rw[hW0];have:=ni w R 24 hRw (t:=9) (xs:=xs) (by rw[hxs];decide);rwa [show xs.length=3 by rw[hxs];rfl]at this
 have HR0:O (Rd W0 R ad len cap):=by show Rd _ _ _ _ _;rw[hW0];exact h.alloc _
 have HO0:O (Only R w W0):=by show Only _ _ _;rw[hW0];exact(Only.refl _ _).alloc _
 have hW1:W0=w.alloc (.cells #[.string ⟨#[116,104,105,115,40,117,115,101,114,41]⟩,.string ⟨#[116,104,105,115,40,117,115,101,114,44,103,114,111,117,112,35,109,101,109,98,101,114,41]⟩,.string ⟨#[116,104,105,115,40,117,115,101,114,44,100,111,99,35,101,100,105,116,111,114,41]⟩] 9):=by rw[hW0,hxs];rfl
 clear h hW0 hxs;go_enter func238,ntmps238;go_wp2_with fail;rw[<-hW1];clear hW1;refine(gM R ad len cap 3 _ HR0 cq cq).mono ?_;rintro e w1 ⟨⟨x,rfl,hx⟩,Zr,Zx⟩;obtain⟨-,hlt,hcells⟩:=HS0.only Zx;obtain⟨t,ht,hts⟩:=hcells x hx;have HR1:=kF Zr;have Zj:O (Only R w w1):=HO0.trans Zx;have hx0:=bG x;have hx1:(x:Int)<3:=cq;clear Zr Zx hcells HS0 HR0 HO0;go_wp2;go_ret;exact⟨⟨t,rfl,hts⟩,HR1,Zj⟩
def Gl(R:Nat)(ad:Q02)(len cap:Nat):∀(d:Nat) (w:ag),d<=2->Rd w R ad len cap ->
  Calls prog 238 #[.pointer (some<|am R),.int .i64 (d:Int),.bool false] w fun e w'=>(∃t:ByteArray,e=.returned (.string t)/\t.size<=tB d)/\Rd w' R ad len cap/\Only R w w':=by
 intro d
 induction d with
 | zero =>
  intro w _ h;have hRw:=h.lt;have hz:(0:Nat)<=256:=cq;obtain⟨xs,hxs⟩:∃xs:List ByteArray,xs=[⟨#[101,100,105,116,111,114]⟩,⟨#[118,105,101,119,101,114]⟩,⟨#[98,97,110,110,101,100]⟩,⟨#[112,97,114,101,110,116,45,62,118,105,101,119,101,114]⟩,⟨#[112,97,114,101,110,116,45,62,101,100,105,116,111,114]⟩,⟨#[111,119,110,101,114]⟩,⟨#[112,97,114,101,110,116,45,62,111,119,110,101,114]⟩]:=⟨_,rfl⟩;obtain⟨W0,hW0⟩:=eQx<|w.alloc<|.cells (xs.map Value.string).toArray 9;have HS0:O (uy W0 R w.heap.size 7 14):=by
   show uy _ _ _ _ _;rw[hW0];have:=ni w R 14 hRw (t:=9) (xs:=xs) (by rw[hxs];decide);rwa [show xs.length=7 by rw[hxs];rfl]at this
  have HR0:O (Rd W0 R ad len cap):=by show Rd _ _ _ _ _;rw[hW0];exact h.alloc _
  have HO0:O (Only R w W0):=by show Only _ _ _;rw[hW0];exact(Only.refl _ _).alloc _
  have hW1:W0=w.alloc (.cells #[.string ⟨#[101,100,105,116,111,114]⟩,.string ⟨#[118,105,101,119,101,114]⟩,.string ⟨#[98,97,110,110,101,100]⟩,.string ⟨#[112,97,114,101,110,116,45,62,118,105,101,119,101,114]⟩,.string ⟨#[112,97,114,101,110,116,45,62,101,100,105,116,111,114]⟩,.string ⟨#[111,119,110,101,114]⟩,.string ⟨#[112,97,114,101,110,116,45,62,111,119,110,101,114]⟩] 9):=by rw[hW0,hxs];rfl
  clear h hW0 hxs;go_enter func238,ntmps238;go_wp2_with fail;rw[<-hW1];clear hW1;refine(gM R ad len cap 7 _ HR0 cq cq).mono ?_;rintro e w1 ⟨⟨x,rfl,hx⟩,Zr,Zx⟩;obtain⟨-,hlt,hcells⟩:=HS0.only Zx;obtain⟨t,ht,hts⟩:=hcells x hx;have HR1:=kF Zr;have Zj:O (Only R w w1):=HO0.trans Zx;have hx0:=bG x;have hx1:(x:Int)<7:=cq;clear Zr Zx hcells HS0 HR0 HO0;go_wp2;go_ret;exact⟨⟨t,rfl,hts⟩,HR1,Zj⟩
 | succ d ih =>
  intro w hd h;have hRw:=h.lt;have IH:=kF ih;have hd0:(((d+1:Nat):Int)==0)=false:=by simp;omega
  have hdm:((d+1:Nat):Int)-1=(d:Int):=cq;have HTB:O (tB (d+1)=3*tB d+8):=rfl;have hb0:tB d<=82:=by
   have:d=0\/d=1:=cq;rcases this with rfl|rfl<;>decide
  obtain⟨bd,hbd⟩:=eQx<|tB d;rw[<-hbd]at hb0 HTB;have HBD:=kF hbd;clear ih hbd;go_enter func238,ntmps238;go_wp2_with fail;refine(jA R ad len cap 2 _ h cq cq).mono ?_;rintro e w1 ⟨⟨q,rfl⟩,Zr,Zx⟩;have HR1:=kF Zr;have Zj:=kF Zx;have hRw1:cW R w1:=Zr.lt;clear Zr Zx h;cases q;case true=>
   obtain⟨xs,hxs⟩:∃xs:List ByteArray,xs=[⟨#[101,100,105,116,111,114]⟩,⟨#[118,105,101,119,101,114]⟩,⟨#[98,97,110,110,101,100]⟩,⟨#[112,97,114,101,110,116,45,62,118,105,101,119,101,114]⟩,⟨#[112,97,114,101,110,116,45,62,101,100,105,116,111,114]⟩,⟨#[111,119,110,101,114]⟩,⟨#[112,97,114,101,110,116,45,62,111,119,110,101,114]⟩]:=⟨_,rfl⟩;obtain⟨W0,hW0⟩:=eQx<|w1.alloc<|.cells (xs.map Value.string).toArray 9;have HS0:O (uy W0 R w1.heap.size 7 14):=by
    show uy _ _ _ _ _;rw[hW0];have:=ni w1 R 14 hRw1 (t:=9) (xs:=xs) (by rw[hxs];decide);rwa [show xs.length=7 by rw[hxs];rfl]at this
   have HR0:O (Rd W0 R ad len cap):=by show Rd _ _ _ _ _;rw[hW0];exact HR1.alloc _
   have HO0:O (Only R w W0):=by show Only _ _ _;rw[hW0];exact Zj.alloc _
   have hW1:W0=w1.alloc (.cells #[.string ⟨#[101,100,105,116,111,114]⟩,.string ⟨#[118,105,101,119,101,114]⟩,.string ⟨#[98,97,110,110,101,100]⟩,.string ⟨#[112,97,114,101,110,116,45,62,118,105,101,119,101,114]⟩,.string ⟨#[112,97,114,101,110,116,45,62,101,100,105,116,111,114]⟩,.string ⟨#[111,119,110,101,114]⟩,.string ⟨#[112,97,114,101,110,116,45,62,111,119,110,101,114]⟩] 9):=by rw[hW0,hxs];rfl
   clear hW0 hxs HR1 Zj;go_wp2_with fail;rw[<-hW1];clear hW1;refine(gM R ad len cap 7 _ HR0 cq cq).mono ?_;rintro e w2 ⟨⟨x,rfl,hx⟩,hR2,hO2⟩;obtain⟨-,hlt,hcells⟩:=HS0.only hO2;obtain⟨t,ht,hts⟩:=hcells x hx;have HR2:=kF hR2;have YZ:O (Only R w w2):=HO0.trans hO2;have hx0:=bG x;have hx1:(x:Int)<7:=cq;have hfin:t.size<=tB (d+1):=by rw[HTB,HBD];cases d<;>simp[tB]<;>omega
   have ZK:=kF hfin;clear hR2 hO2 hcells HS0 HR0 HO0 hfin;go_wp2;go_ret;exact⟨⟨t,rfl,ZK⟩,HR2,YZ⟩
  obtain⟨xs,hxs⟩:∃xs:List ByteArray,xs=[⟨#[32,124,32]⟩,⟨#[32,38,32]⟩,⟨#[32,45,32]⟩,⟨#[32,124,32]⟩]:=⟨_,rfl⟩;obtain⟨W0,hW0⟩:=eQx<|w1.alloc<|.cells (xs.map Value.string).toArray 9;have HS0:O (uy W0 R w1.heap.size 4 3):=by
   show uy _ _ _ _ _;rw[hW0];have:=ni w1 R 3 hRw1 (t:=9) (xs:=xs) (by rw[hxs];decide);rwa [show xs.length=4 by rw[hxs];rfl]at this
  have HR0:O (Rd W0 R ad len cap):=by show Rd _ _ _ _ _;rw[hW0];exact HR1.alloc _
  have HO0:O (Only R w W0):=by show Only _ _ _;rw[hW0];exact Zj.alloc _
  have hW1:W0=w1.alloc (.cells #[.string ⟨#[32,124,32]⟩,.string ⟨#[32,38,32]⟩,.string ⟨#[32,45,32]⟩,.string ⟨#[32,124,32]⟩] 9):=by rw[hW0,hxs];rfl
  clear hW0 hxs HR1 Zj;go_wp2_with fail;rw[<-hW1];clear hW1;refine(gM R ad len cap 4 _ HR0 cq cq).mono ?_;rintro e w2 ⟨⟨x,rfl,hx⟩,hR2,hO2⟩;obtain⟨-,hlt,hcells⟩:=HS0.only hO2;obtain⟨op,hop,hops⟩:=hcells x hx;have HR2:=kF hR2;have YZ:O (Only R w w2):=HO0.trans hO2;have hx0:=bG x;have hx1:(x:Int)<4:=cq;clear hR2 hO2 hcells HS0 HR0 HO0;go_wp2_with fail;refine(IH w2 cq HR2).mono ?_;rintro e w3 ⟨⟨t1,rfl,ht1⟩,hR3,hO3⟩;rw[<-HBD]at ht1;have HR3:=kF hR3;have Zq:O (Only R w w3):=YZ.trans hO3;clear hR3 hO3 HR2 YZ hop hlt;go_wp2_with fail;refine(IH w3 cq HR3).mono ?_;rintro e w4 ⟨⟨t2,rfl,ht2⟩,hR4,hO4⟩;rw[<-HBD]at ht2;have HR4:=kF hR4;have Zg:O (Only R w w4):=Zq.trans hO4;clear hR4 hO4 HR3 Zq;have e1:(⟨#[40]⟩:ByteArray).size=1:=rfl;have e2:(⟨#[41]⟩:ByteArray).size=1:=rfl;cases hm:op.toList==[32,45,32];case true=>
   have hm2:(!op.toList==[32,45,32])=false:=by rw[hm];rfl
   have ZK:O ((((((⟨#[40]⟩:ByteArray)++t1)++op)++t2)++⟨#[41]⟩).size<=tB (d+1)):=by show _<=_;rw[HTB];simp only[Yb,e1,e2];omega
   go_wp2_with fail;go_ret;exact⟨⟨_,rfl,ZK⟩,HR4,Zg⟩
  have hm2:(!op.toList==[32,45,32])=true:=by rw[hm];rfl
  go_wp2_with fail;refine(jA R ad len cap 3 _ HR4 cq cq).mono ?_;rintro e w5 ⟨⟨q,rfl⟩,ZB,ZE⟩;have Zu:=kF ZB;have Ze:O (Only R w w5):=Zg.trans ZE;clear ZB ZE HR4 Zg;cases q;case false=>
   have ZK:O ((((((⟨#[40]⟩:ByteArray)++t1)++op)++t2)++⟨#[41]⟩).size<=tB (d+1)):=by show _<=_;rw[HTB];simp only[Yb,e1,e2];omega
   go_wp2_with fail;go_ret;exact⟨⟨_,rfl,ZK⟩,Zu,Ze⟩
  go_wp2_with fail;refine(IH w5 cq Zu).mono ?_;rintro e w6 ⟨⟨t3,rfl,ht3⟩,hR6,hO6⟩;rw[<-HBD]at ht3;have HR6:=kF hR6;have ZI:O (Only R w w6):=Ze.trans hO6;clear hR6 hO6 Zu Ze;have ZK:O ((((((((⟨#[40]⟩:ByteArray)++t1)++op)++t2)++op)++t3)++⟨#[41]⟩).size<=tB (d+1)):=by show _<=_;rw[HTB];simp only[Yb,e1,e2];omega
  go_wp2_with fail;go_ret;exact⟨⟨_,rfl,ZK⟩,HR6,ZI⟩
def Ir(R:Nat)(ad:Q02)(len cap d:Nat)(w:ag)(hd:d<=2)(h:Rd w R ad len cap):
  Calls prog 168 #[.pointer (some<|am R),.int .i64 (d:Int)] w fun e w'=>(∃t:ByteArray,e=.returned (.string t)/\t.size<=190)/\Rd w' R ad len cap/\Only R w w':=by
 have hRw:=h.lt;have hb0:tB d<=158:=by
  have:d=0\/d=1\/d=2:=cq;rcases this with rfl|rfl|rfl<;>decide
 obtain⟨xs,hxs⟩:∃xs:List ByteArray,xs=[⟨#[32,124,32]⟩,⟨#[32,38,32]⟩,⟨#[32,45,32]⟩,⟨#[32,124,32]⟩]:=⟨_,rfl⟩;obtain⟨W0,hW0⟩:=eQx<|w.alloc<|.cells (xs.map Value.string).toArray 9;have HS0:O (uy W0 R w.heap.size 4 3):=by
  show uy _ _ _ _ _;rw[hW0];have:=ni w R 3 hRw (t:=9) (xs:=xs) (by rw[hxs];decide);rwa [show xs.length=4 by rw[hxs];rfl]at this
 have HR0:O (Rd W0 R ad len cap):=by show Rd _ _ _ _ _;rw[hW0];exact h.alloc _
 have HO0:O (Only R w W0):=by show Only _ _ _;rw[hW0];exact(Only.refl _ _).alloc _
 have hW1:W0=w.alloc (.cells #[.string ⟨#[32,124,32]⟩,.string ⟨#[32,38,32]⟩,.string ⟨#[32,45,32]⟩,.string ⟨#[32,124,32]⟩] 9):=by rw[hW0,hxs];rfl
 clear h hW0 hxs;go_enter func168,ntmps168;go_wp2_with fail;rw[<-hW1];clear hW1;refine(gM R ad len cap 4 _ HR0 cq cq).mono ?_;rintro e w2 ⟨⟨x,rfl,hx⟩,hR2,hO2⟩;obtain⟨-,hlt,hcells⟩:=HS0.only hO2;obtain⟨op,hop,hops⟩:=hcells x hx;have HR2:=kF hR2;have YZ:O (Only R w w2):=HO0.trans hO2;have hx0:=bG x;have hx1:(x:Int)<4:=cq;clear hR2 hO2 hcells HS0 HR0 HO0;go_wp2_with fail;refine(jA R ad len cap 3 _ HR2 cq cq).mono ?_;rintro e w3 ⟨⟨q,rfl⟩,hR3,hO3⟩;have HR3:=kF hR3;have Zq:O (Only R w w3):=YZ.trans hO3;clear hR3 hO3 HR2 YZ hop hlt;cases q;case true=>
  go_wp2_with fail;refine(uH R ad len cap 0 _ HR3).mono ?_;rintro e w4 ⟨⟨t1,rfl,ht1⟩,hR4,hO4⟩;have HR4:=kF hR4;have Zg:O (Only R w w4):=Zq.trans hO4;clear hR4 hO4;go_wp2;go_ret;exact⟨⟨t1,rfl,cq⟩,HR4,Zg⟩
 go_wp2_with fail;refine(uH R ad len cap 0 _ HR3).mono ?_;rintro e w4 ⟨⟨t1,rfl,ht1⟩,hR4,hO4⟩;have HR4:=kF hR4;have Zg:O (Only R w w4):=Zq.trans hO4;clear hR4 hO4;go_wp2_with fail;refine(Gl R ad len cap d _ hd HR4).mono ?_;rintro e w5 ⟨⟨t2,rfl,ht2⟩,ZB,ZE⟩;have Zu:=kF ZB;have Ze:O (Only R w w5):=Zg.trans ZE;have hf:t2.size<=158:=cq;have ZK:O (((t1++op)++t2).size<=190):=by show _<=_;simp only[Yb];omega
 clear ZB ZE ht2 hb0;go_wp2;go_ret;exact⟨⟨_,rfl,ZK⟩,Zu,Ze⟩
def rM(R:Nat)(ad:Q02)(len cap d:Nat)(w:ag)(hd:d<=2)(h:Rd w R ad len cap):
  Calls prog 168 #[.pointer (some<|am R),.int .i64 (d:Int)] w fun e w'=>(∃t:ByteArray,e=.returned (.string t)/\t.size<=300)/\Rd w' R ad len cap/\Only R w w' :=
 (Ir R ad len cap d w hd h).mono fun e w' ⟨⟨t,h1,h2⟩,h3⟩=>⟨⟨t,h1,cq⟩,h3⟩
def Gm(R:Nat)(ad:Q02)(len cap:Nat)(w:ag)(h:Rd w R ad len cap):
  Calls prog 290 #[.pointer (some<|am R)] w fun e w'=>(∃x:Int,e=.returned (.int .u64 x))/\Rd w' R ad len cap/\Only R w w':=by
 have H:=aK h;clear h;go_enter func290,ntmps290;go_wp2;go_loopw[3,4] (fun v i wr=>∃(x:Int) (k:Nat),v=.int .u64 x/\i=.int .i64 (k:Int)/\k<=8/\O (Rd wr R ad len cap)/\O (Only R w wr)) (fun _ i _=>8-(intOf i).toNat);case atStart=>exact⟨0,0,rfl,rfl,cq,H,Only.refl _ _⟩
 obtain⟨x,k,rfl,rfl,hk,HR,HO⟩:=hrel;by_cases hlt:k<8
 ·have hk1:(k:Int)<8:=cq;go_wp2_with fail;refine(wK R ad len cap _ HR).mono ?_;rintro e w1 ⟨⟨y,rfl,hy0,hy1⟩,Zr,Zx⟩;have HR1:=aK Zr;have Zj:O (Only R w w1):=HO.trans Zx;clear Zr Zx;go_wp2;go_roundw;case rel=>exact⟨_,k+1,rfl,cx,cq,HR1,Zj⟩
  simp[intOf]<;>omega
 have hk1:¬(k:Int)<8:=cq;go_wp2;go_ret;exact⟨⟨x,rfl⟩,HR,HO⟩
def QG(R:Nat)(ad:Q02)(len cap:Nat)(lo hi:Int)(w:ag)(h:Rd w R ad len cap)(h0:0<=lo)(h1:lo<=hi)(h2:hi<=1000):
  Calls prog 239 #[.pointer (some<|am R),.int .i64 lo,.int .i64 hi] w fun e w'=>(∃x:Int,e=.returned (.int .i64 x))/\Rd w' R ad len cap/\Only R w w':=by
 have H:=kF h;have hw1:IntKind.i64.wrap (hi-lo)=hi-lo:=by rw[IntKind.wrap_i64]<;>omega
 have hw2:IntKind.i64.wrap (hi-lo+1)=hi-lo+1:=by rw[IntKind.wrap_i64]<;>omega
 have hw3:IntKind.u64.wrap (hi-lo+1)=hi-lo+1:=by rw[IntKind.wrap_u64]<;>omega
 have hlt:¬hi<lo:=cq;have hz:¬hi-lo+1=0:=cq;clear h h0 h1 h2;go_enter func239,ntmps239;go_wp2_with fail;refine(gM R ad len cap 8 _ H cq cq).mono ?_;rintro e w1 ⟨⟨x,rfl,hx⟩,Zr,Zx⟩;have HR1:=kF Zr;have Zj:=kF Zx;clear Zr Zx;by_cases h0:x=0
 ·subst h0;go_wp2;go_ret;exact⟨⟨_,rfl⟩,HR1,Zj⟩
 have h00:((x:Int)==0)=false:=by simp;omega
 by_cases h1:x=1
 ·subst h1;go_wp2;go_ret;exact⟨⟨_,rfl⟩,HR1,Zj⟩
 have h11:((x:Int)==1)=false:=by simp;omega
 go_wp2_with fail;refine(Gm R ad len cap _ HR1).mono ?_;rintro e w2 ⟨⟨y,rfl⟩,hR2,hO2⟩;have HR2:=kF hR2;have YZ:O (Only R w w2):=Zj.trans hO2;clear hR2 hO2;go_wp2;go_ret;exact⟨⟨_,rfl⟩,HR2,YZ⟩
def TV(R:Nat)(ad:Q02)(len cap:Nat)(lo hi:Int)(w:ag)(h:Rd w R ad len cap)(h0:0<=lo)(h1:lo<=hi)(h2:hi<=1000):
  Calls prog 169 #[.pointer (some<|am R),.int .i64 lo,.int .i64 hi] w fun e w'=>(∃x:Int,e=.returned (.int .i64 x))/\Rd w' R ad len cap/\Only R w w':=by
 have H:=kF h;clear h;go_enter func169,ntmps169;go_wp2_with fail;refine(jA R ad len cap 24 _ H cq cq).mono ?_;rintro e w1 ⟨⟨q,rfl⟩,Zr,Zx⟩;have HR1:=kF Zr;have Zj:=kF Zx;have hRw:=Zr.lt;clear Zr Zx;cases q;case false=>
  go_wp2_with fail;refine(QG R ad len cap lo hi _ HR1 h0 h1 h2).mono ?_;rintro e w2 ⟨⟨y,rfl⟩,hR2,hO2⟩;have HR2:=kF hR2;have YZ:O (Only R w w2):=Zj.trans hO2;clear hR2 hO2;go_wp2;go_ret;exact⟨⟨_,rfl⟩,HR2,YZ⟩
 have hw1:IntKind.i64.wrap (lo-1)=lo-1:=by rw[IntKind.wrap_i64]<;>omega
 have hw2:IntKind.i64.wrap (hi+1)=hi+1:=by rw[IntKind.wrap_i64]<;>omega
 obtain⟨W0,hW0⟩:=eQx<|w1.alloc<|.cells #[.int .i64 (lo-1),.int .i64<|hi+1,.int .i64<|-9223372036854775808,.int .i64 9223372036854775807] 2;have HR0:O (Rd W0 R ad len cap):=by show Rd _ _ _ _ _;rw[hW0];exact HR1.alloc _
 have HO0:O (Only R w W0):=by show Only _ _ _;rw[hW0];exact Zj.alloc _
 have HC0:O (w1.heap.size<W0.heap.size/\∀o,o<4->∃z:Int,W0.cell? (a6 w1 o)=some (.int .i64 z)):=by
  show _/\_;rw[hW0];refine⟨ct,fun o ho=>?_⟩;have:o=0\/o=1\/o=2\/o=3:=cq
  rcases this with rfl|rfl|rfl|rfl<;>exact⟨_,by simp;rfl⟩
 go_wp2_with fail;rw[<-hW0];clear hW0;refine(gM R ad len cap 4 _ HR0 cq cq).mono ?_;rintro e w2 ⟨⟨x,rfl,hx⟩,hR2,hO2⟩;obtain⟨z,hz⟩:=HC0.2 x hx;have hz2:w2.cell? (a6 w1 x)=some (.int .i64 z):=by rw[hO2.cell HC0.1 cq];exact hz
 have HR2:=kF hR2;have YZ:O (Only R w w2):=HO0.trans hO2;have hx0:=bG x;have hx1:(x:Int)<4:=cq;clear hR2 hO2 hz HC0 HR0 HO0;go_wp2;go_ret;exact⟨⟨z,rfl⟩,HR2,YZ⟩
def M9{a b a' b':ByteArray}{f f':Bool}(ha:a=a')(hb:b=b')(hf:f=f'):Ending.returned (.tuple #[.string a,.string b,.bool f])=.returned (.tuple #[.string a',.string b',.bool f']):=by rw[ha,hb,hf]
def EN(s:dw)(c:UInt8)(w:ag)(hs:s.size<=maxLen):
  Calls prog 262 #[.string s,.int .u8 c.toNat] w fun e w'=>e=.returned (.tuple #[.string (lF c s),.string<|jk c s,.bool<|qg c s])/\∃n,w'=w.drewN n:=by
 unfold maxLen at hs;go_enter func262,ntmps262;go_wp2
 go_loop [7] (fun i=>∃k:Nat,k<=s.size/\i=.int .i64 k/\O (VF c s k)) (fun i=>s.size-(intOf i).toNat)
 case atStart=>exact⟨0,XP _,rfl,Qn _ _⟩
 obtain⟨k,hk,rfl,hu⟩:=hrel;by_cases hlt:k<s.size
 ·by_cases hc:s[k]=c
  ·have HC:O (jy c s.data.toList=_):=VG hlt hu hc;have hcb:((s[k].toNat:Int)==(c.toNat:Int))=true:=by simp[hc]
   have hk1:=bG k;have hk2:(k:Int)<=(s.size:Int):=cq;have hk3:(k:Int)+1<=(s.size:Int):=cq;clear hc;go_wp2;go_quiet (fail);go_wp2
   go_ret3
   refine⟨M9 (iy ?_) (iy ?_)<|by simp[qg,HC.out],nq,rfl⟩
   ·rw[Lib.extract_data];simp[lF,HC.out]
   rw[Lib.extract_to_end];simp[jk,HC.out]
  have HU:O (VF c s<|k+1):=Qo hlt hu hc;have hcb:((s[k].toNat:Int)==(c.toNat:Int))=false:=by
   simp;intro h;exact hc<|UInt8.toNat_inj.mp cq
  clear hc;go_wp2;go_round;case rel=>exact⟨k+1,cq,cx,HU⟩
  simp[intOf];omega
 have HC:O (jy c s.data.toList=_):=Qp (Nat.le_of_not_lt hlt) hu;go_wp2
 go_ret3
 exact⟨M9 (by simp[lF,HC.out]) (by simp[jk,HC.out]) (by simp[qg,HC.out]),0,rfl⟩
def Bytes(w:World)(ad:Q02)(len:Nat):Prop:=len<=maxLen/\(0<len->∃b off,ad=some ⟨b,off,none⟩/\b<w.heap.size/\∀i,i<len->∃c:Int,0<=c/\c<=255/\w.cell? ⟨b,off+i,none⟩=some (.int .u8 c))
def Bytes.below{w w':ag}{ad:Q02}{len:Nat}(h:Bytes w ad len)(hb:ae w w'):Bytes w' ad len:=by
 refine⟨h.1,fun h0=>?_⟩;obtain⟨b,off,e,hbl,hc⟩:=h.2 h0;refine⟨b,off,e,XJ hbl hb.size,fun i hi=>?_⟩;obtain⟨c,c0,c1,hcc⟩:=hc i hi;exact⟨c,c0,c1,by rw[hb.cell (p:=⟨b,off+i,none⟩) hbl];exact hcc⟩
def Kz{H:Type}{enc:TypeId×Value->H}{W:ag}{base:Nat}{sp:Nat->Bool}{held:Bool}{fuel:Nat}{ad:Q02}{len cap:Nat}{x:DataW H×List MemPlace}
  (h:DataW.trod enc prog W base sp held fuel 22 [.slice ad len cap]=some x):Bytes W ad len:=by
 rcases open_ints underlying22 underlying5 cw h with⟨hcs,-⟩|⟨a,l,c,zs,hcs,-,hlc,hcm,hm,-,hel,hwf⟩
 ·simp at hcs;obtain⟨rfl,rfl,rfl⟩:=hcs;exact⟨cy,fun h0=>cq⟩
 simp at hcs;obtain⟨rfl,rfl,rfl⟩:=hcs;have hle:len<=zs.length:=by rw[hm];split<;>omega
 refine⟨cq,fun h0=>?_⟩;have hspot:a.spot=none:=by
  have:=hel 0 cq;have e:a.add 0=a:=by simp[Addr.add]
  rw[e]at this;exact World.cell?_spot this
 obtain⟨b,off,spot⟩:=a;simp only at hspot;subst hspot;have add0:∀x:Nat,(⟨b,off,none⟩:Addr).add x=⟨b,off+x,none⟩:=fun x=>by
  unfold Addr.add;by_cases h:x=0
  ·subst h;simp
  simp[h]
 refine⟨b,off,rfl,?_,fun i hi=>?_⟩
 ·have:=hel 0 cq;rw[add0]at this;exact World.block_lt_of_cell? W ⟨b,off+0,none⟩ this
 have h1:=hel i cq;rw[add0]at h1;have h2:=hwf (zs.getD i 0) (by rw[Yl,XQ cq];simp);have h3:IntKind.u8.min<=zs.getD i 0/\zs.getD i 0<=IntKind.u8.max:=by simpa only[Lit.wf,XN,XU] using h2
 have e1:IntKind.u8.min=0:=cv;have e2:IntKind.u8.max=255:=cv;rw[e1,e2]at h3;exact⟨_,h3.1,h3.2,h1⟩
def VM{w:ag}{ad:Q02}{len cap:Nat}{t:TypeId}(h:Bytes w ad len):Rd (w.alloc<|.cells #[.slice ad len cap,.int .i64 0] t) w.heap.size ad len cap where
 lt:=ct;code:=ct;place:=⟨0,ct,cq⟩
 free:=ct;bytes h0:=by
  obtain⟨b,off,e,hbl,hc⟩:=h.2 h0;refine⟨b,off,e,cq,by simp;omega,fun i hi=>?_⟩;obtain⟨c,c0,c1,hcc⟩:=hc i hi;exact⟨c,c0,c1,TS hcc _⟩
 small:=h.1
def QH(ad:Q02)(len cap:Nat)(w:ag)(h:Bytes w ad len):
  Calls prog 88 #[.slice ad len cap] w fun e w'=>e=.returned (.pointer<|some<|am w.heap.size)/\Rd w' w.heap.size ad len cap/\ae w w':=by
 have H:=aK h;clear h;go_enter func88,ntmps88;go_wp2;go_ret;exact⟨rfl,VM H,(XL _ _).alloc (XK _) _⟩
def TW(ad:Q02)(len cap:Nat)(w:ag):
  Calls prog 9 #[.slice ad len cap] w (bh w<|.bool<|decide ((1048576:Int)<(len:Int))):=by
 go_enter func9,ntmps9;go_wp2;go_ret;exact⟨rfl,rfl⟩
def VN(R B k:Nat)(v:Value)(w:World):Prop:=(k=11->∃g,v=.pointer (some ⟨g,0,none⟩)/\Bz w R B g)/\(k≠11->Kd.ok R w v (Iq [.strs 5,.eq<|Value.pointer<|some ⟨R,0,none⟩,.idx 5,.elt 5,.str,.strs 3,.eq<|Value.pointer<|some ⟨R,0,none⟩,.idx 3,.elt 3,.str,.obj] k))
def VN.only{R B k:Nat}{v:Value}{w w':ag}(h:VN R B k v w)(ho:Only R w w'):VN R B k v w' :=
 ⟨fun e=>by obtain⟨g,e1,hg⟩:=h.1 e;exact⟨g,e1,hg.only ho⟩,fun e=>Kd.only ho _<|h.2 e⟩
def VN.no{R B k:Nat}{v:Value}{w:ag}(hk:k≠11)(h:Kd.ok R w v<|Iq [.strs 5,.eq<|Value.pointer<|some<|am R,.idx 5,.elt 5,.str,.strs 3,.eq<|Value.pointer<|some<|am R,.idx 3,.elt 3,.str,.obj] k):VN R B k v w:=⟨fun e=>absurd e hk,fun _=>h⟩
set_option maxRecDepth 4000 in
def BA(R:Nat)(ad:Q02)(len cap:Nat)(w:ag)(h:Rd w R ad len cap):
  Calls prog 256 #[.pointer (some<|am R)] w fun e w'=>(∃a b:ByteArray,e=.returned (.agg #[.string a,.string b])/\a.size<=20/\b.size<=20)/\Rd w' R ad len cap/\Only R w w':=by
 have H:=aK h;have hRw:=h.lt;have FAR:O (∀g,w.heap.size<=g->0<len->∀b off,ad=some (ap b off)->b≠g):=fun g hg h0 b off e=>by
  obtain⟨b',off',e',-,hb',-⟩:=h.bytes h0;rw[e]at e';injection e' with e';injection e' with e1 e2;omega
 clear h;go_enter func256,ntmps256;go_wp2_with fail;refine dG 12 _ _ (fun k v w'=>VN R (w.heap.size+1) k v w') (fun w'=>Rd w' R ad len cap/\Only R (w.alloc<|.cells aw 27) w') cw rfl cw cw (H7 [(3,[11,0,1,2,3,4,5,6,7,8,9,10])]) ⟨H.below<|((XL _ _).alloc (XK _) _).drew,(Only.refl _ _).drewN 1⟩ ?step ?fin<;>dsimp only[Et];case step =>
  rintro i hi o ho f w' ⟨hR',Z4⟩ hpre;have HR:=aK hR';have HO:=aK Z4;have hsz:w.heap.size+1<=w'.heap.size:=by have:=Z4.size;simpa using this
  have hRl:cW R w':=hR'.lt;have HM:O (∀e∈o.after,Region.binds .any e=true->VN R (w.heap.size+1) e.on (f e.on) w'):=hpre;have KAL:O (∀ob:Obj,Only R w'<|w'.alloc ob):=fun ob=>(Only.refl R w').alloc ob;clear hR' Z4 hpre;have hc:=WM (i:=i) cq;clear hi
  repeat' rcases hc with rfl|hc
  ·cases ho;refine af rfl fun K HK=>?_;clear HM;dsimp only;go_simp;exact HK _ _ ⟨_,by simp[upd],⟨HR.alloc _,HO.alloc _⟩,.no cv ⟨_,rfl,gm w' R hRl (xs:=[_,_,_,_,_]) cv⟩,fun k u hu=>hu.only<|KAL _⟩
  ·cases ho;refine af rfl fun K HK=>?_;clear HM;dsimp only;go_simp;exact HK _ _ ⟨Value.pointer<|some ⟨R,0,none⟩,by simp[upd],⟨HR,HO⟩,.no cv rfl,fun k u hu=>hu⟩
  ·cases ho;have e1:f 1=Value.pointer (some<|am R):=(HM ⟨1,.data⟩ ct rfl).2 cv;refine af rfl fun K HK=>?_;clear HM;simp only[e1];go_simp;refine(df R ad len cap 5 _ HR cq cq).mono ?_;rintro e w5 ⟨⟨x,rfl,hx0,hx1⟩,ZB,ZE⟩;obtain⟨x,rfl⟩:∃y:Nat,x=(y:Int):=⟨x.toNat,cq⟩;have Zu:O (Rd w5 R ad len cap/\Only R w' w5):=⟨ZB,ZE⟩;clear ZB ZE;go_wp2_with fail;exact HK _ _ ⟨.int .i64 (x:Int),by simp[upd,e1],⟨Zu.1,HO.trans Zu.2⟩,.no cv ⟨x,rfl,cq⟩,fun k u hu=>hu.only Zu.2⟩
  ·cases ho;obtain⟨g,e1,hS⟩:=(HM ⟨0,.data⟩ ct rfl).2 cv;obtain⟨x,e2,hx⟩:=(HM ⟨2,.data⟩ ct rfl).2 cv;replace e1:f 0=_:=e1;replace e2:f 2=_:=e2;have HS:=aK hS;clear hS;have hx0:=bG x;have hx1:(x:Int)<5:=cq;refine af rfl fun K HK=>?_;clear HM;simp only[e1,e2];go_simp;exact HK _ _ ⟨.pointer<|some ⟨g,x,none⟩,by simp[upd,e1,e2],⟨HR,HO⟩,.no cv ⟨g,x,rfl,hx,HS⟩,fun k u hu=>hu⟩
  ·cases ho;obtain⟨g,x,e1,hx,hS⟩:=(HM ⟨3,.data⟩ ct rfl).2 cv;replace e1:f 3=_:=e1;obtain⟨t,ht,hcell⟩:=hS.2.2 x hx;clear hS;refine af rfl fun K HK=>?_;clear HM;simp only[e1];go_simp;exact HK _ _ ⟨.string t,by simp[upd,e1],⟨HR,HO⟩,.no cv ⟨t,rfl,ht⟩,fun k u hu=>hu⟩
  ·cases ho;refine af rfl fun K HK=>?_;clear HM;dsimp only;go_simp;exact HK _ _ ⟨_,by simp[upd],⟨HR.alloc _,HO.alloc _⟩,.no cv ⟨_,rfl,gm w' R hRl (xs:=[_,_,_]) cv⟩,fun k u hu=>hu.only<|KAL _⟩
  ·cases ho;refine af rfl fun K HK=>?_;clear HM;dsimp only;go_simp;exact HK _ _ ⟨Value.pointer<|some ⟨R,0,none⟩,by simp[upd],⟨HR,HO⟩,.no cv rfl,fun k u hu=>hu⟩
  ·cases ho;have e1:f 6=Value.pointer (some<|am R):=(HM ⟨6,.data⟩ ct rfl).2 cv;refine af rfl fun K HK=>?_;clear HM;simp only[e1];go_simp;refine(df R ad len cap 3 _ HR cq cq).mono ?_;rintro e w5 ⟨⟨x,rfl,hx0,hx1⟩,ZB,ZE⟩;obtain⟨x,rfl⟩:∃y:Nat,x=(y:Int):=⟨x.toNat,cq⟩;have Zu:O (Rd w5 R ad len cap/\Only R w' w5):=⟨ZB,ZE⟩;clear ZB ZE;go_wp2_with fail;exact HK _ _ ⟨.int .i64 (x:Int),by simp[upd,e1],⟨Zu.1,HO.trans Zu.2⟩,.no cv ⟨x,rfl,cq⟩,fun k u hu=>hu.only Zu.2⟩
  ·cases ho;obtain⟨g,e1,hS⟩:=(HM ⟨5,.data⟩ ct rfl).2 cv;obtain⟨x,e2,hx⟩:=(HM ⟨7,.data⟩ ct rfl).2 cv;replace e1:f 5=_:=e1;replace e2:f 7=_:=e2;have HS:=aK hS;clear hS;have hx0:=bG x;have hx1:(x:Int)<3:=cq;refine af rfl fun K HK=>?_;clear HM;simp only[e1,e2];go_simp;exact HK _ _ ⟨.pointer<|some ⟨g,x,none⟩,by simp[upd,e1,e2],⟨HR,HO⟩,.no cv ⟨g,x,rfl,hx,HS⟩,fun k u hu=>hu⟩
  ·cases ho;obtain⟨g,x,e1,hx,hS⟩:=(HM ⟨8,.data⟩ ct rfl).2 cv;replace e1:f 8=_:=e1;obtain⟨t,ht,hcell⟩:=hS.2.2 x hx;clear hS;refine af rfl fun K HK=>?_;clear HM;simp only[e1];go_simp;exact HK _ _ ⟨.string t,by simp[upd,e1],⟨HR,HO⟩,.no cv ⟨t,rfl,ht⟩,fun k u hu=>hu⟩
  ·cases ho;obtain⟨t,e1,ht⟩:=(HM ⟨4,.data⟩ ct rfl).2 cv;obtain⟨u,e2,hu⟩:=(HM ⟨9,.data⟩ ct rfl).2 cv;replace e1:f 4=_:=e1;replace e2:f 9=_:=e2;refine af rfl fun K HK=>?_;clear HM;simp only[e1,e2];go_simp;exact HK _ _ ⟨.agg #[.string t,.string u],by simp[upd,e1,e2],⟨HR,HO⟩,.no cv ⟨t,u,rfl,ht,hu⟩,fun k u hu=>hu⟩
  cases ho;refine af rfl fun K HK=>?_;clear HM;dsimp only;go_simp;exact HK _ _ ⟨_,by simp[upd],⟨HR.alloc _,HO.alloc _⟩,⟨fun _=>⟨_,rfl,NS hRl hsz⟩,fun e=>absurd rfl e⟩,fun k u hu=>hu.only<|KAL _⟩
 case fin =>
  rintro o ho f w0 ⟨hR',Z4⟩ hall;obtain⟨g,e1,hg⟩:=(hall 11 cq).1 rfl;obtain⟨t,u,e2,ht,hu⟩:=(hall 10 cq).2 cv;replace e1:f 11=_:=e1;replace e2:f 10=_:=e2;obtain⟨hgR,hgB,hgl,hgf,ta,tb,_,_,ca,cb⟩:=hg;obtain⟨w',hw'⟩:∃w',w'=(w0.setCell (am g)<|.string t).setCell (ap g 1) (.string u):=⟨_,rfl⟩;have hg:Bz w' R (w.heap.size+1) g:=by rw[hw'];exact NT hgR hgB hgl hgf ca cb ht hu
  have hR:Rd w' R ad len cap:=by rw[hw'];exact(hR'.setFar hgR<|FAR _ cq).setFar hgR<|FAR _ cq
  have hO:Only R (w.alloc<|.cells aw 27) w':=by rw[hw'];exact(Z4.setNew<|by simpa using hgB).setNew (by simpa using hgB)
  clear hR' Z4 hall;obtain rfl:=Option.some.inj ho;clear ho;refine af rfl fun K HK=>?_;simp only[e1,e2];go_simp;rw[<-hw'];refine HK _ _ ?_;clear HK hw' hgR hgl hgf ca cb ht hu;have hOw:Only R w w':=(Only.of_below<|(XL _ _).alloc (XK _) _).trans hO;have hnR:w.heap.size≠R:=cq
  have hn0:w'.cell? (aE w)=some (.string ⟨#[]⟩):=by rw[hO.cell ct hnR];simp
  have hn1:w'.cell? (a6 w 1)=some (.string ⟨#[]⟩):=by rw[hO.cell ct hnR];simp
  have hnf:∀o,w'.frozen? (a6 w o)=false:=fun o=>by rw[hO.frozen ct hnR];simp
  have hsz:cX w w':=by have:=hO.size;simp at this;omega
  have HR:=aK hR;have HOw:=aK hOw;have HG:=aK hg;clear hR hO hOw hg;go_wp2_with fail;refine(jA R ad len cap 30 _ HR cq cq).mono ?_;rintro e w1 ⟨⟨x,rfl⟩,Zr,Zx⟩;have HR1:=aK Zr;have Zj:O (Only R w w1):=HOw.trans Zx;have HG1:=aK<|HG.only Zx;have m0:w1.cell? (aE w)=some (.string ⟨#[]⟩):=by rw[Zx.cell hsz hnR];exact hn0
  have m1:w1.cell? (a6 w 1)=some (.string ⟨#[]⟩):=by rw[Zx.cell hsz hnR];exact hn1
  have mf:∀o,w1.frozen? (a6 w o)=false:=fun o=>by rw[Zx.frozen hsz hnR];exact hnf o
  have hs1:cX w w1:=XJ hsz Zx.size;have hR1l:cW R w1:=Zr.lt;clear hn0 hn1 hnf Zr Zx HR HOw HG;obtain⟨hgR,-,hgl,hgf,ta,tb,hta,htb,ca,cb⟩:=HG1.out;have hgn:g≠w.heap.size:=cq;cases x;case false=>
   go_wp2;exact bodyPost_ret (v:=.agg #[.string ta,.string tb]) (by simp[results,Tryz.results256,go_sem, *]) rfl ⟨⟨ta,tb,rfl,hta,htb⟩,(HR1.setFar hnR<|FAR _<|XK _).setFar hnR<|FAR _<|XK _,(Zj.setNew<|XK _).setNew<|XK _⟩
  go_wp2_with fail;refine(df R ad len cap 4 _ (HR1.below<|(XL _ _).alloc (XK _) _) cq cq).mono ?_;rintro e w2 ⟨⟨x,rfl,hx0,hx1⟩,hR2,hO2⟩;have hO12:Only R w1 w2:=(Only.of_below<|(XL _ _).alloc (XK _) _).trans hO2;have hSt:=(gm w1 R hR1l (t:=9) (xs:=[⟨#[]⟩,⟨#[65]⟩,⟨#[97,95,49]⟩,⟨#[97,98,99,100,101,102,103,104,105,106,107,108,109]⟩]) cv).only hO2;obtain⟨y,rfl⟩:∃y:Nat,x=(y:Int):=⟨x.toNat,cq⟩;obtain⟨t,ht,hct⟩:=hSt.2.2 y (by simp;omega);have k0:w2.cell? (aE w)=some (.string ⟨#[]⟩):=by rw[hO12.cell hs1 hnR];exact m0
  have k1:w2.cell? (a6 w 1)=some (.string ⟨#[]⟩):=by rw[hO12.cell hs1 hnR];exact m1
  have kf:∀o,w2.frozen? (a6 w o)=false:=fun o=>by rw[hO12.frozen hs1 hnR];exact mf o
  have ka:w2.cell? (am g)=some (.string ta):=by rw[hO12.cell hgl hgR];exact ca
  have kb:w2.cell? (ap g 1)=some (.string tb):=by rw[hO12.cell hgl hgR];exact cb
  have kg:∀o,w2.frozen? (ap g o)=false:=fun o=>by rw[hO12.frozen hgl hgR];exact hgf o
  have HR2:=aK hR2;have YZ:O (Only R w w2):=Zj.trans hO12;clear hR2 hO2 hO12 hSt m0 m1 mf ca cb hgf HR1 Zj HG1;go_wp2;exact bodyPost_ret (v:=.agg #[.string ta,.string t]) (by simp[results,Tryz.results256,go_sem, *]) rfl ⟨⟨ta,t,rfl,hta,ht⟩,((HR2.setFar hgR<|FAR _ cq).setFar hnR<|FAR _<|XK _).setFar hnR<|FAR _<|XK _,((YZ.setNew cq).setNew<|XK _).setNew<|XK _⟩
def Gn{w a:ag}{R:Nat}{ad:Q02}{len cap:Nat}{v0 v1 v2 v3 v4 v5:Value}(h:Rd w R ad len cap)(ho:Only R a w)(hn:a.heap.size≠R)(hf:∀g,a.heap.size<=g->0<len->∀b off,ad=some (ap b off)->b≠g):
  Rd ((((((w.setCell (am a.heap.size) v0).setCell (ap a.heap.size 1) v1).setCell (ap a.heap.size 2) v2).setCell (ap a.heap.size 3) v3).setCell (ap a.heap.size 4) v4).setCell (ap a.heap.size 5) v5) R ad len cap/\Only R a ((((((w.setCell (am a.heap.size) v0).setCell (ap a.heap.size 1) v1).setCell (ap a.heap.size 2) v2).setCell (ap a.heap.size 3) v3).setCell (ap a.heap.size 4) v4).setCell (ap a.heap.size 5) v5):=by
 have F:=hf _<|XK _;have N:=XK a.heap.size;exact⟨(((((h.setFar hn F).setFar hn F).setFar hn F).setFar hn F).setFar hn F).setFar hn F,(((((ho.setNew N).setNew N).setNew N).setNew N).setNew N).setNew N⟩
def yw{p:Prop}(h:p):O p:=h
set_option maxRecDepth 4000 in
def NU(R:Nat)(ad:Q02)(len cap:Nat)(w:ag)(h:Rd w R ad len cap):
    Calls prog 181 #[.pointer (some<|am R)] w fun e w'=>(∃a b r c d s:ByteArray,e=.returned (.agg #[.string a,.string b,.string r,.string c,.string d,.string s])/\a.size<=20/\b.size<=20/\r.size<=20/\c.size<=20/\d.size<=20/\s.size<=20)/\Rd w' R ad len cap/\Only R w w':=by
  have H:=aK h;have hRw:=h.lt;have FAR:O (∀g,w.heap.size<=g->0<len->∀b off,ad=some (ap b off)->b≠g):=fun g hg h0 b off e=>by
    obtain⟨b',off',e',-,hb',-⟩:=h.bytes h0;rw[e]at e';injection e' with e';injection e' with e1 e2;omega
  clear h;go_enter func181,ntmps181;go_wp2_with fail;refine(df R ad len cap 3 _ ((H.alloc _).alloc _) cq cq).mono ?_;rintro e w1 ⟨⟨x,rfl,hx0,hx1⟩,Zr,Zx⟩;obtain⟨y,rfl⟩:∃y:Nat,x=(y:Int):=⟨x.toNat,cq⟩;have hSt:=(gm (w.alloc _) R (by simp;omega) (t:=9) (xs:=[⟨#[97]⟩,⟨#[98]⟩,⟨#[99]⟩]) cv).only Zx;obtain⟨t1,ht1,hc1⟩:=hSt.2.2 y (by simp;omega);simp only[World.size_alloc]at hc1;have Zj:O (Only R w w1):=(((Only.refl R w).alloc _).alloc _).trans Zx;have HN1:O (VL w1 R w.heap.size):=((TU hRw _).only<|(Only.refl R _).alloc _).only Zx;have HR1:=aK Zr;have hl1:=Zr.lt;clear Zr Zx hSt;go_wp2_with fail;refine(df R ad len cap 3 _ (HR1.alloc _) cq cq).mono ?_;rintro e w2 ⟨⟨x,rfl,hx2,hx3⟩,hR2,hO2⟩;obtain⟨y2,rfl⟩:∃y:Nat,x=(y:Int):=⟨x.toNat,cq⟩;have hSt:=(gm w1 R hl1 (t:=9) (xs:=[⟨#[120]⟩,⟨#[121]⟩,⟨#[122]⟩]) cv).only hO2;obtain⟨t2,ht2,hc2⟩:=hSt.2.2 y2 (by simp;omega);have YZ:O (Only R w w2):=(Zj.alloc _).trans hO2;have HN2:O (VL w2 R w.heap.size):=(HN1.only<|(Only.refl R _).alloc _).only hO2;have HR2:=aK hR2;have hl2:=hR2.lt;clear hR2 hO2 hSt hc1 Zj HN1 HR1;go_wp2_with fail;refine(df R ad len cap 2 _ ((HR2.alloc _).alloc _) cq cq).mono ?_;rintro e w3 ⟨⟨x,rfl,hx4,hx5⟩,hR3,hO3⟩;obtain⟨y3,rfl⟩:∃y:Nat,x=(y:Int):=⟨x.toNat,cq⟩;have hSt:=(gm (w2.alloc _) R (by simp;omega) (t:=9) (xs:=[⟨#[103]⟩,⟨#[104]⟩]) cv).only hO3;obtain⟨t3,ht3,hc3⟩:=hSt.2.2 y3 (by simp;omega);simp only[World.size_alloc]at hc3;have Zq:O (Only R w w3):=((YZ.alloc _).alloc _).trans hO3;have HN3:O (VL w3 R w.heap.size):=(HN2.only<|((Only.refl R _).alloc _).alloc _).only hO3;have HU3:O (Ob w3 R w2.heap.size ⟨#[117,115,101,114]⟩ t2):=((Gj hl2 27 _ _).alloc _).only hO3;have HR3:=aK hR3;have hl3:=hR3.lt;clear hR3 hO3 hSt hc2 YZ HN2 HR2;go_wp2_with fail;refine(df R ad len cap 11 _ (((HR3.alloc _).alloc _).alloc _) cq cq).mono ?_;rintro e w4 ⟨⟨x,rfl,hx6,hx7⟩,hR4,hO4⟩;obtain⟨y4,rfl⟩:∃y:Nat,x=(y:Int):=⟨x.toNat,cq⟩;have Zg:O (Only R w w4):=(((Zq.alloc _).alloc _).alloc _).trans hO4;have HR4:=aK hR4;obtain⟨hnR,hnl,hnf,hnc⟩:=(HN3.only<|(((Only.refl R _).alloc _).alloc _).alloc _).only hO4;obtain⟨huR,hul,hu0,hu1⟩:=(((HU3.alloc _).alloc _).alloc _).only hO4;obtain⟨hgR,hgl,hg0,hg1⟩:=(((Gj hl3 27 ⟨#[103,114,111,117,112]⟩ t3).alloc _).alloc _).only hO4;obtain⟨hdR,hdl,hd0,hd1⟩:=((Gj (w:=w3.alloc _) (R:=R) (by simp;omega) 27 ⟨#[100,111,99]⟩ t1).alloc _).only hO4;obtain⟨hiR,hil,hi0,hi1⟩:=(Gj (w:=(w3.alloc _).alloc _) (R:=R) (by simp;omega) 27 ⟨#[100,105,114]⟩ ⟨#[100]⟩).only hO4;simp only[World.size_alloc]at hdR hdl hd0 hd1 hiR hil hi0 hi1;have n0:=hnc 0 cq;have n1:=hnc 1 cq;have n2:=hnc 2 cq;have n3:=hnc 3 cq;have n4:=hnc 4 cq;have n5:=hnc 5 cq;clear hnc hR4 hO4 hc3 Zq HN3 HR3 HU3 hx0 hx1 hx2 hx3 hx4 hx5 hx6;have hy:(y4=1\/y4=2\/y4=8)\/y4=0\/y4=3\/y4=4\/y4=5\/y4=6\/y4=7\/y4=9\/y4=10:=cq
  clear hx7;rcases hy with hy|rfl|rfl|rfl|rfl|rfl|rfl|rfl|rfl
  · rcases hy with rfl|rfl|rfl
    case' inl =>
      have HA:=And.intro hgR<|And.intro hgl<|And.intro hg0 hg1;have HB:=yw fun w h=>df R ad len cap 2 w h cq cq;have HN:=yw fun w h=>gm w R h (t:=9) (xs:=[⟨#[103]⟩,⟨#[104]⟩]) cv;have m1:=trivial;go_wp2_with fail;refine dG 8 _ _ (fun k v w'=>Kd.ok R w' v<|Iq [.eq (Value.agg #[.string ⟨#[103,114,111,117,112]⟩,.string t3]),.strs 2,.eq<|Value.pointer<|some<|am R,.idx 2,.elt 2,.str,.obj,.tup] k) (fun w'=>Rd w' R ad len cap/\Only R w w'/\Only R w4 w') cw rfl cw cw (H7 [(52,[0,1,2,3,4,5,6,7])]) ⟨HR4.below (XL _ _).drew,Zg.drewN 1,(Only.refl _ _).drewN 1⟩ ?_ ?_<;>dsimp only[Et]
    case' inr.inl =>
      have HA:=And.intro hdR<|And.intro hdl<|And.intro hd0 hd1;have HB:=yw fun w h=>df R ad len cap 3 w h cq cq;have HN:=yw fun w h=>gm w R h (t:=9) (xs:=[⟨#[97]⟩,⟨#[98]⟩,⟨#[99]⟩]) cv;have m2:=trivial;go_wp2_with fail;refine dG 8 _ _ (fun k v w'=>Kd.ok R w' v<|Iq [.eq (Value.agg #[.string ⟨#[100,111,99]⟩,.string t1]),.strs 3,.eq<|Value.pointer<|some<|am R,.idx 3,.elt 3,.str,.obj,.tup] k) (fun w'=>Rd w' R ad len cap/\Only R w w'/\Only R w4 w') cw rfl cw cw (H7 [(62,[0,1,2,3,4,5,6,7])]) ⟨HR4.below (XL _ _).drew,Zg.drewN 1,(Only.refl _ _).drewN 1⟩ ?_ ?_<;>dsimp only[Et]
    case' inr.inr =>
      have HA:=And.intro hiR<|And.intro hil<|And.intro hi0 hi1;have HB:=yw fun w h=>df R ad len cap 2 w h cq cq;have HN:=yw fun w h=>gm w R h (t:=9) (xs:=[⟨#[115,101,101]⟩,⟨#[111,119,110,101,114]⟩]) cv;have m8:=trivial;go_wp2_with fail;refine dG 8 _ _ (fun k v w'=>Kd.ok R w' v<|Iq [.eq (Value.agg #[.string ⟨#[100,105,114]⟩,.string ⟨#[100]⟩]),.strs 2,.eq<|Value.pointer<|some<|am R,.idx 2,.elt 2,.str,.eq<|Value.agg #[.string ⟨#[117,115,101,114]⟩,.string t2],.tup] k) (fun w'=>Rd w' R ad len cap/\Only R w w'/\Only R w4 w') cw rfl cw cw (H7 [(37,[0,1,2,3,4,5,6,7])]) ⟨HR4.below (XL _ _).drew,Zg.drewN 1,(Only.refl _ _).drewN 1⟩ ?_ ?_<;>dsimp only[Et]
    iterate 3
      · rintro i hi o ho f w' ⟨hR',Z4,ZO⟩ hpre;have HR:=aK hR';have HO:=aK Z4;have HP:=aK ZO;have hRl:cW R w':=hR'.lt;have HM:O (∀e∈o.after,Region.binds .any e=true->_):=hpre;clear hR' Z4 ZO hpre n0 n1 n2 n3 n4 n5 hnf;obtain⟨haR,hal,ha0,ha1⟩:=HA;have KAL:O (∀ob:Obj,Only R w'<|w'.alloc ob):=fun ob=>(Only.refl R w').alloc ob;have hc:=XE (i:=i) cq;clear hi
        repeat' rcases hc with rfl|hc
        · cases ho;have c0:=(HP.cell (o:=0) hal haR).trans ha0;have c1:=(HP.cell (o:=1) hal haR).trans ha1;refine af rfl fun K HK=>?_;clear HM;dsimp only;go_simp;exact HK _ _ ⟨_,by simp[upd],⟨HR,HO,HP⟩,rfl,fun k u hu=>hu⟩
        · cases ho;refine af rfl fun K HK=>?_;clear HM;dsimp only;go_simp;exact HK _ _ ⟨_,by simp[upd],⟨HR.alloc _,HO.alloc _,HP.alloc _⟩,⟨_,rfl,HN w' hRl⟩,fun k u hu=>Kd.only (KAL _) _ hu⟩
        · cases ho;refine af rfl fun K HK=>?_;clear HM;dsimp only;go_simp;exact HK _ _ ⟨Value.pointer<|some ⟨R,0,none⟩,by simp[upd],⟨HR,HO,HP⟩,rfl,fun k u hu=>hu⟩
        · cases ho;have e1:f 2=Value.pointer (some<|am R):=HM ⟨2,.data⟩ ct rfl;refine af rfl fun K HK=>?_;clear HM;simp only[e1];go_simp;refine(HB _ HR).mono ?_;rintro e w5 ⟨⟨x,rfl,hx0,hx1⟩,ZB,ZE⟩;obtain⟨x,rfl⟩:∃y:Nat,x=(y:Int):=⟨x.toNat,cq⟩;have Zu:=aK ZB;have Ze:=aK ZE;clear ZB ZE;go_wp2_with fail;exact HK _ _ ⟨.int .i64 (x:Int),by simp[upd,e1],⟨Zu,HO.trans Ze,HP.trans Ze⟩,⟨x,rfl,cq⟩,fun k u hu=>Kd.only Ze _ hu⟩
        · cases ho;obtain⟨g,e1,hS⟩:=HM ⟨1,.data⟩ ct rfl;obtain⟨x,e2,hx⟩:=HM ⟨3,.data⟩ ct rfl;replace e1:f 1=_:=e1;replace e2:f 3=_:=e2;have HS:O _:=hS;clear hS;have hx0:=bG x
          first|have hx1:(x:Int)<2:=by omega|have hx1:(x:Int)<3:=cq
          refine af rfl fun K HK=>?_;clear HM;simp only[e1,e2];go_simp;exact HK _ _ ⟨.pointer<|some ⟨g,x,none⟩,by simp[upd,e1,e2],⟨HR,HO,HP⟩,⟨g,x,rfl,hx,HS⟩,fun k u hu=>hu⟩
        · cases ho;obtain⟨g,x,e1,hx,hS⟩:=HM ⟨4,.data⟩ ct rfl;replace e1:f 4=_:=e1;obtain⟨t,ht,hcell⟩:=hS.2.2 x hx;clear hS;refine af rfl fun K HK=>?_;clear HM;simp only[e1];go_simp;exact HK _ _ ⟨.string t,by simp[upd,e1],⟨HR,HO,HP⟩,⟨t,rfl,ht⟩,fun k u hu=>hu⟩
        · cases ho
          first
            | (clear m8
               have c0:=(HP.cell (o:=0) hul huR).trans hu0;have c1:=(HP.cell (o:=1) hul huR).trans hu1;refine af rfl fun K HK=>?_;clear HM;dsimp only;go_simp;exact HK _ _ ⟨Value.agg #[.string ⟨#[117,115,101,114]⟩,.string t2],by simp[upd],⟨HR,HO,HP⟩,rfl,fun k u hu=>hu⟩)
            | (obtain ⟨t,e1,ht⟩:=HM ⟨5,.data⟩ ct rfl
               replace e1:f 5=_:=e1;refine af rfl fun K HK=>?_;clear HM;simp only[e1];go_simp
               first
                 | clear m1;exact HK _ _ ⟨.agg #[.string ⟨#[103,114,111,117,112]⟩,.string t],by simp[upd,e1],⟨HR,HO,HP⟩,⟨_,_,rfl,cv,ht⟩,fun k u hu=>hu⟩
                 | exact HK _ _ ⟨.agg #[.string ⟨#[100,111,99]⟩,.string t],by simp[upd,e1],⟨HR,HO,HP⟩,⟨_,_,rfl,cv,ht⟩,fun k u hu=>hu⟩)
        · cases ho
          first
            | (clear m1
               have ep:f 0=Value.agg #[.string ⟨#[103,114,111,117,112]⟩,.string t3]:=HM ⟨0,.data⟩ ct rfl;obtain⟨qa,qb,eq,hqa,hqb⟩:=HM ⟨6,.data⟩ ct rfl;replace eq:f 6=_:=eq;refine af rfl fun K HK=>?_;clear HM;simp only[ep,eq];go_simp;exact HK _ _ ⟨.agg #[.string ⟨#[103,114,111,117,112]⟩,.string t3,.string ⟨#[109,101,109,98,101,114]⟩,.string qa,.string qb,.string ⟨#[109,101,109,98,101,114]⟩],by simp[upd,ep,eq],⟨HR,HO,HP⟩,⟨_,_,_,_,_,_,rfl,cv,ht3,cv,hqa,hqb,cv⟩,fun k u hu=>hu⟩)
            | (clear m2
               have ep:f 0=Value.agg #[.string ⟨#[100,111,99]⟩,.string t1]:=HM ⟨0,.data⟩ ct rfl;obtain⟨qa,qb,eq,hqa,hqb⟩:=HM ⟨6,.data⟩ ct rfl;replace eq:f 6=_:=eq;refine af rfl fun K HK=>?_;clear HM;simp only[ep,eq];go_simp;exact HK _ _ ⟨.agg #[.string ⟨#[100,111,99]⟩,.string t1,.string ⟨#[112,97,114,101,110,116]⟩,.string qa,.string qb,.string ⟨#[]⟩],by simp[upd,ep,eq],⟨HR,HO,HP⟩,⟨_,_,_,_,_,_,rfl,cv,ht1,cv,hqa,hqb,cv⟩,fun k u hu=>hu⟩)
            | (clear m8
               have ep:f 0=Value.agg #[.string ⟨#[100,105,114]⟩,.string ⟨#[100]⟩]:=HM ⟨0,.data⟩ ct rfl;obtain⟨t,e1,ht⟩:=HM ⟨5,.data⟩ ct rfl;replace e1:f 5=_:=e1;have eq:f 6=Value.agg #[.string ⟨#[117,115,101,114]⟩,.string t2]:=HM ⟨6,.data⟩ ct rfl;refine af rfl fun K HK=>?_;clear HM;simp only[ep,e1,eq];go_simp;exact HK _ _ ⟨.agg #[.string ⟨#[100,105,114]⟩,.string ⟨#[100]⟩,.string t,.string ⟨#[117,115,101,114]⟩,.string t2,.string ⟨#[]⟩],by simp[upd,ep,e1,eq],⟨HR,HO,HP⟩,⟨_,_,_,_,_,_,rfl,cv,cv,ht,cv,ht2,cv⟩,fun k u hu=>hu⟩)
      · rintro o ho f w' ⟨hR',Z4,ZO⟩ hall;have HR:=aK hR';have HO:=aK Z4;obtain⟨pa,pb,pr,pc,pd,ps,e1,ha,hb,hr,hc,hd,hs⟩:=hall 7 cq;replace e1:f 7=_:=e1;replace n0:=(ZO.cell (o:=0) hnl hnR).trans n0;replace n1:=(ZO.cell (o:=1) hnl hnR).trans n1;replace n2:=(ZO.cell (o:=2) hnl hnR).trans n2;replace n3:=(ZO.cell (o:=3) hnl hnR).trans n3;replace n4:=(ZO.cell (o:=4) hnl hnR).trans n4;replace n5:=(ZO.cell (o:=5) hnl hnR).trans n5;replace hnf:=fun o=>(ZO.frozen (o:=o) hnl hnR).trans<|hnf o;clear hR' Z4 ZO hall hu0 hu1 hg0 hg1 hd0 hd1 hi0 hi1;cases ho;refine wpOp_step rfl (fun K hK=>?_);have HK:O (∀a w,_->K a w):=hK;clear hK;simp only[e1];go_simp;refine HK _ _ ?_;clear HK;go_wp2;exact bodyPost_ret (v:=.agg<|b9 pa pb pr pc pd ps) (by simp[results,Tryz.results181,go_sem, *]) rfl ⟨⟨_,_,_,_,_,_,rfl,ha,hb,hr,hc,hd,hs⟩,Gn HR HO hnR FAR⟩
  · go_wp2;exact bodyPost_ret (v:=.agg #[.string ⟨#[103,114,111,117,112]⟩,.string t3,.string ⟨#[109,101,109,98,101,114]⟩,.string ⟨#[117,115,101,114]⟩,.string t2,.string ⟨#[]⟩]) (by simp[results,Tryz.results181,go_sem, *]) rfl ⟨⟨_,_,_,_,_,_,rfl,cv,ht3,cv,cv,ht2,cv⟩,Gn HR4 Zg hnR FAR⟩
  · go_wp2;exact bodyPost_ret (v:=.agg #[.string ⟨#[100,111,99]⟩,.string t1,.string ⟨#[101,100,105,116,111,114]⟩,.string ⟨#[117,115,101,114]⟩,.string t2,.string ⟨#[]⟩]) (by simp[results,Tryz.results181,go_sem, *]) rfl ⟨⟨_,_,_,_,_,_,rfl,cv,ht1,cv,cv,ht2,cv⟩,Gn HR4 Zg hnR FAR⟩
  · go_wp2;exact bodyPost_ret (v:=.agg #[.string ⟨#[100,111,99]⟩,.string t1,.string ⟨#[118,105,101,119,101,114]⟩,.string ⟨#[103,114,111,117,112]⟩,.string t3,.string ⟨#[109,101,109,98,101,114]⟩]) (by simp[results,Tryz.results181,go_sem, *]) rfl ⟨⟨_,_,_,_,_,_,rfl,cv,ht1,cv,cv,ht3,cv⟩,Gn HR4 Zg hnR FAR⟩
  · go_wp2;exact bodyPost_ret (v:=.agg #[.string ⟨#[100,111,99]⟩,.string t1,.string ⟨#[98,97,110,110,101,100]⟩,.string ⟨#[117,115,101,114]⟩,.string t2,.string ⟨#[]⟩]) (by simp[results,Tryz.results181,go_sem, *]) rfl ⟨⟨_,_,_,_,_,_,rfl,cv,ht1,cv,cv,ht2,cv⟩,Gn HR4 Zg hnR FAR⟩
  · go_wp2_with fail;refine dG 10 _ _ (fun k v w'=>Kd.ok R w' v<|Iq [.eq (Value.pointer<|some<|am R),.obj,.strs 3,.eq<|Value.pointer<|some<|am R,.idx 3,.elt 3,.str,.eq<|Value.pointer<|some<|am R,.obj,.tup] k) (fun w'=>Rd w' R ad len cap/\Only R w w'/\Only R w4 w') cw rfl cw cw (H7 [(87,[0,1,2,3,4,5,6,7,8,9])]) ⟨HR4.below (XL _ _).drew,Zg.drewN 1,(Only.refl _ _).drewN 1⟩ ?step ?fin<;>dsimp only[Et];case step =>
      rintro i hi o ho f w' ⟨hR',Z4,ZO⟩ hpre;have HR:=aK hR';have HO:=aK Z4;have HP:=aK ZO;have hRl:cW R w':=hR'.lt;have HM:O (∀e∈o.after,Region.binds .any e=true->_):=hpre;clear hR' Z4 ZO hpre n0 n1 n2 n3 n4 n5 hnf;have hc:=H8 (i:=i) cq;clear hi
      repeat' rcases hc with rfl|hc
      · cases ho;refine af rfl fun K HK=>?_;clear HM;dsimp only;go_simp;exact HK _ _ ⟨Value.pointer<|some ⟨R,0,none⟩,by simp[upd],⟨HR,HO,HP⟩,rfl,fun k u hu=>hu⟩
      · cases ho;have e1:f 0=Value.pointer (some<|am R):=HM ⟨0,.data⟩ ct rfl;refine af rfl fun K HK=>?_;clear HM;simp only[e1];go_simp;refine(BA R ad len cap _ HR).mono ?_;rintro e w5 ⟨⟨xa,xb,rfl,hxa,hxb⟩,ZB,ZE⟩;have Zu:=aK ZB;have Ze:=aK ZE;clear ZB ZE;go_wp2_with fail;exact HK _ _ ⟨.agg #[.string xa,.string xb],by simp[upd,e1],⟨Zu,HO.trans Ze,HP.trans Ze⟩,⟨xa,xb,rfl,hxa,hxb⟩,fun k u hu=>Kd.only Ze _ hu⟩
      · cases ho;have k1:Only R w' (w'.alloc<|.cells #[.string ⟨#[118,105,101,119,101,114]⟩,.string ⟨#[109,101,109,98,101,114]⟩,.string ⟨#[112,97,114,101,110,116]⟩] 9):=(Only.refl R w').alloc _;have K1:=aK k1;clear k1;refine af rfl fun K HK=>?_;clear HM;dsimp only;go_simp;exact HK _ _ ⟨.slice (some ⟨w'.heap.size,0,none⟩) 3 3,by simp[upd],⟨HR.alloc _,HO.alloc _,HP.alloc _⟩,⟨_,rfl,gm w' R hRl (xs:=[_,_,_]) cv⟩,fun k u hu=>Kd.only K1 _ hu⟩
      · cases ho;refine af rfl fun K HK=>?_;clear HM;dsimp only;go_simp;exact HK _ _ ⟨Value.pointer<|some ⟨R,0,none⟩,by simp[upd],⟨HR,HO,HP⟩,rfl,fun k u hu=>hu⟩
      · cases ho;have e1:f 3=Value.pointer (some<|am R):=HM ⟨3,.data⟩ ct rfl;refine af rfl fun K HK=>?_;clear HM;simp only[e1];go_simp;refine(df R ad len cap 3 _ HR cq cq).mono ?_;rintro e w5 ⟨⟨x,rfl,hx0,hx1⟩,ZB,ZE⟩;obtain⟨x,rfl⟩:∃y:Nat,x=(y:Int):=⟨x.toNat,cq⟩;have Zu:=aK ZB;have Ze:=aK ZE;clear ZB ZE;go_wp2_with fail;exact HK _ _ ⟨.int .i64 (x:Int),by simp[upd,e1],⟨Zu,HO.trans Ze,HP.trans Ze⟩,⟨x,rfl,cq⟩,fun k u hu=>Kd.only Ze _ hu⟩
      · cases ho;obtain⟨g,e1,hS⟩:=HM ⟨2,.data⟩ ct rfl;obtain⟨x,e2,hx⟩:=HM ⟨4,.data⟩ ct rfl;replace e1:f 2=_:=e1;replace e2:f 4=_:=e2;have HS:=aK hS;clear hS;have hx0:=bG x;have hx1:(x:Int)<3:=cq
        refine af rfl fun K HK=>?_;clear HM;simp only[e1,e2];go_simp;exact HK _ _ ⟨.pointer<|some ⟨g,x,none⟩,by simp[upd,e1,e2],⟨HR,HO,HP⟩,⟨g,x,rfl,hx,HS⟩,fun k u hu=>hu⟩
      · cases ho;obtain⟨g,x,e1,hx,hS⟩:=HM ⟨5,.data⟩ ct rfl;replace e1:f 5=_:=e1;obtain⟨t,ht,hcell⟩:=hS.2.2 x hx;clear hS;refine af rfl fun K HK=>?_;clear HM;simp only[e1];go_simp;exact HK _ _ ⟨.string t,by simp[upd,e1],⟨HR,HO,HP⟩,⟨t,rfl,ht⟩,fun k u hu=>hu⟩
      · cases ho;refine af rfl fun K HK=>?_;clear HM;dsimp only;go_simp;exact HK _ _ ⟨Value.pointer<|some ⟨R,0,none⟩,by simp[upd],⟨HR,HO,HP⟩,rfl,fun k u hu=>hu⟩
      · cases ho;have e1:f 7=Value.pointer (some<|am R):=HM ⟨7,.data⟩ ct rfl;refine af rfl fun K HK=>?_;clear HM;simp only[e1];go_simp;refine(BA R ad len cap _ HR).mono ?_;rintro e w5 ⟨⟨xa,xb,rfl,hxa,hxb⟩,ZB,ZE⟩;have Zu:=aK ZB;have Ze:=aK ZE;clear ZB ZE;go_wp2_with fail;exact HK _ _ ⟨.agg #[.string xa,.string xb],by simp[upd,e1],⟨Zu,HO.trans Ze,HP.trans Ze⟩,⟨xa,xb,rfl,hxa,hxb⟩,fun k u hu=>Kd.only Ze _ hu⟩
      · cases ho;obtain⟨pa,pb,ep,hpa,hpb⟩:=HM ⟨1,.data⟩ ct rfl;replace ep:f 1=_:=ep;obtain⟨t,e1,ht⟩:=HM ⟨6,.data⟩ ct rfl;replace e1:f 6=_:=e1;obtain⟨qa,qb,eq,hqa,hqb⟩:=HM ⟨8,.data⟩ ct rfl;replace eq:f 8=_:=eq;refine af rfl fun K HK=>?_;clear HM;simp only[ep,e1,eq];go_simp;exact HK _ _ ⟨.agg #[.string pa,.string pb,.string t,.string qa,.string qb,.string ⟨#[]⟩],by simp[upd,ep,e1,eq],⟨HR,HO,HP⟩,⟨_,_,_,_,_,_,rfl,hpa,hpb,ht,hqa,hqb,cv⟩,fun k u hu=>hu⟩
    case fin =>
      rintro o ho f w' ⟨hR',Z4,ZO⟩ hall;have HR:=aK hR';have HO:=aK Z4;obtain⟨pa,pb,pr,pc,pd,ps,e1,ha,hb,hr,hc,hd,hs⟩:=hall 9 cq;replace e1:f 9=_:=e1;replace n0:=(ZO.cell (o:=0) hnl hnR).trans n0;replace n1:=(ZO.cell (o:=1) hnl hnR).trans n1;replace n2:=(ZO.cell (o:=2) hnl hnR).trans n2;replace n3:=(ZO.cell (o:=3) hnl hnR).trans n3;replace n4:=(ZO.cell (o:=4) hnl hnR).trans n4;replace n5:=(ZO.cell (o:=5) hnl hnR).trans n5;replace hnf:=fun o=>(ZO.frozen (o:=o) hnl hnR).trans<|hnf o;clear hR' Z4 ZO hall hu0 hu1 hg0 hg1 hd0 hd1 hi0 hi1;cases ho;refine wpOp_step rfl (fun K hK=>?_);have HK:O (∀a w,_->K a w):=hK;clear hK;simp only[e1];go_simp;refine HK _ _ ?_;clear HK;go_wp2;exact bodyPost_ret (v:=.agg<|b9 pa pb pr pc pd ps) (by simp[results,Tryz.results181,go_sem, *]) rfl ⟨⟨_,_,_,_,_,_,rfl,ha,hb,hr,hc,hd,hs⟩,Gn HR HO hnR FAR⟩
  · go_wp2;exact bodyPost_ret (v:=.agg #[.string ⟨#[100,111,99]⟩,.string t1,.string ⟨#[112,97,114,101,110,116]⟩,.string ⟨#[100,105,114]⟩,.string ⟨#[100]⟩,.string ⟨#[]⟩]) (by simp[results,Tryz.results181,go_sem, *]) rfl ⟨⟨_,_,_,_,_,_,rfl,cv,ht1,cv,cv,cv,cv⟩,Gn HR4 Zg hnR FAR⟩
  · go_wp2;exact bodyPost_ret (v:=.agg #[.string ⟨#[100,111,99]⟩,.string t1,.string ⟨#[118,105,101,119,101,114]⟩,.string ⟨#[117,115,101,114]⟩,.string t2,.string ⟨#[]⟩]) (by simp[results,Tryz.results181,go_sem, *]) rfl ⟨⟨_,_,_,_,_,_,rfl,cv,ht1,cv,cv,ht2,cv⟩,Gn HR4 Zg hnR FAR⟩
  · go_wp2;exact bodyPost_ret (v:=.agg #[.string ⟨#[100,111,99]⟩,.string t1,.string ⟨#[118,105,101,119,101,114]⟩,.string ⟨#[117,115,101,114]⟩,.string t2,.string ⟨#[]⟩]) (by simp[results,Tryz.results181,go_sem, *]) rfl ⟨⟨_,_,_,_,_,_,rfl,cv,ht1,cv,cv,ht2,cv⟩,Gn HR4 Zg hnR FAR⟩
open Go.Sort
def Iu(ad:Q02)(cap:Nat)(xs:Q0a)(w:ag)(hlen:a7 xs)(hcap:xs.length<=cap)(hf:∀a∈xs,a.fits)(hs:mJ w ad xs):
  Calls prog 291 #[.slice ad xs.length cap] w (a8 w<|.bool<|fo xs):=by
 have HS:=aK hs;have HF:=aK hf;clear hs hf;by_cases hl:1<=xs.length/\xs.length<=6
 ·obtain⟨hl1,hl2⟩:=hl;go_enter func291,ntmps291;go_wp2_with fail;go_loopw[15] (fun i wr=>∃k:Nat,k<=xs.length/\i=.int .i64 k/\O (Gb xs k=true)/\ae w wr) (fun i _=>xs.length-(intOf i).toNat);case atStart=>exact⟨0,XP _,rfl,rfl,XL _ _⟩
  obtain⟨k,hk,rfl,HU,hB⟩:=hrel;by_cases hlt:k<xs.length
  ·rcases HS.out.below hB with rfl|⟨b,off,rfl,hb,hr⟩
   ·simp at hlt
   obtain⟨t0,t1⟩:=hr k hlt;obtain⟨z0,z1⟩:=HF xs[k]<|XI hlt;have hk1:=bG k;have hk2:(k:Int)<=(cap:Int):=cq;obtain⟨W1,hW1⟩:=eQx<|wr.alloc<|.cells #[.string xs[k].t,.string xs[k].s] 216;have hal:ae wr W1:=by rw[hW1];exact(XL _ _).alloc (XK _) _
   have hBW1:Below w.heap.size wr W1:=hal.mono hB.size;have hWs:cY w W1:=XR hB.size hal.size;have hgl:wr.heap.size<W1.heap.size:=by rw[hW1];simp
   have g0:W1.cell? (aE wr)=some (.string xs[k].t):=by rw[hW1];simp
   have g1:W1.cell? (a6 wr 1)=some (.string xs[k].s):=by rw[hW1];simp
   have HS1:O (mJ W1 (some<|ap b off) xs):=(HS.below hB).below hal;clear hr;go_wp2_with fail;rw[<-hW1];clear hW1 t0 t1 hal;have p0:=cell_regrown g0;have p1:=cell_regrown g1;have Z5:O (∀d os,ae w<|grow (redrawn W1 d) os):=fun d os=>hB.trans<|hBW1.trans<|(below_regrown W1 d os).mono hWs;have Z9:=o7<|kP (W:=W1) fun W'=>aT xs[k].t W' z0;have HCS:=o7<|kP (W:=W1) fun W'=>Ke xs[k].s W' z1
   have HCC:O (∀d os,Calls prog 149 #[.slice (some<|ap b off) k cap,.agg #[.string xs[k].t,.string xs[k].s]] (grow (redrawn W1 d) os) fun e w''=>e=.returned (.bool<|dR xs k xs[k])/\∃p:Regrown,w''=grow (redrawn W1 p.d) p.os) :=
    dz fun W' hb=>wJ (some<|ap b off) k cap xs xs[k] _ hk hlen<|HS1.below hb
   cases hn:aW xs[k].t;case false=>
    have HN:O (Gb xs xs.length=false):=qd xs k hlt (by simp[Ic,hn]) _ hlt;rw[hn]at Z9;refine wp_region_quiet_below cw cw ?_
    repeat(go_big_quiet_step (exact Z9 _ _))
    refine wpQuiet_nil ?_;rintro _ ⟨⟨dq,osq⟩,rfl⟩;go_wp2;go_ret;exact⟨aj<|by simp[fo,HN.out],Z5 dq osq⟩
   rw[hn]at Z9;cases hsb:wy xs[k].s;case false=>
    have HN:O (Gb xs xs.length=false):=qd xs k hlt (by simp[Ic,hn,hsb]) _ hlt;rw[hsb]at HCS;refine wp_region_quiet_below cw cw ?_
    repeat(go_big_quiet_step (first|exact Z9 _ _|exact HCS _ _))
    refine wpQuiet_nil ?_;rintro _ ⟨⟨dq,osq⟩,rfl⟩;go_wp2;go_ret;exact⟨aj<|by simp[fo,HN.out],Z5 dq osq⟩
   rw[hsb]at HCS;obtain⟨p,hp⟩:∃p,dR xs k xs[k]=p:=⟨_,rfl⟩;rw[hp]at HCC;refine wp_region_quiet_below cw cw ?_
   repeat(go_big_quiet_step (first|exact Z9 _ _|exact HCS _ _|exact HCC _ _))
   refine wpQuiet_nil ?_;rintro _ ⟨⟨dq,osq⟩,rfl⟩;cases p;case true=>
    have HN:O (Gb xs xs.length=false):=qd xs k hlt (by simp[hp]) _ hlt;go_wp2;go_ret;exact⟨aj<|by simp[fo,HN.out],Z5 dq osq⟩
   have HU2:O (Gb xs (k+1)=true):=by show _=_;rw[Be _ _ hlt,HU];simp[Ic,hn,hsb,hp]
   go_wp2;go_roundw;case rel=>exact⟨k+1,cq,cx,HU2,Z5 dq osq⟩
   simp[intOf]<;>omega
  obtain rfl:k=xs.length:=cq;have HAW:O (fo xs=true):=by show _=_;simp[fo,hl1,hl2,HU.out]
  go_wp2;go_ret;exact⟨by rw[HAW];rfl,hB⟩
 have HAW:O (fo xs=false):=by
  show _=_;unfold fo;by_cases h1:1<=xs.length
  ·have h2:¬xs.length<=6:=fun h2=>hl ⟨h1,h2⟩;simp[h2]
  simp[h1]
 go_enter func291,ntmps291;go_wp2_with fail
 all_goals go_ret
 all_goals exact⟨by rw[HAW];rfl,XL _ _⟩
set_option maxRecDepth 8000 in
def Iw(r:ER)(w:ag)(hf:r.e.fits)(hl:r.e.light)(hok:r.ok w)(hcap:r.e.allow.length<=r.capA)(h1:r.e.kind=1):
  Calls prog 250 #[r.val] w (a8 w<|.bool<|aD r.e):=by
 obtain⟨⟨kind,allow,over,name,kids⟩,adA,capA,adK,capK⟩:=r;obtain⟨f1,f2,f3,f4,f5⟩:=hf;obtain⟨hA,hK⟩:=hok;obtain⟨l1,l2⟩:=hl;simp only at f1 f2 f3 f4 f5 h1 hA hK hcap l1 l2;subst h1;simp only[ER.val];unfold maxLen at f4 f5;have HB0:O (∀n,ae w<|(w.alloc<|.cells #[.int .i64 1,.slice adA allow.length capA,.string over,.string name,.slice adK kids.length capK] 43).drewN n):=fun n=>below_drewN ((XL w.heap.size w).alloc (XK _) _) n;have HA:=aK hA;have Z8:=aK f1;have HCAP:O (allow.length<=capA):=hcap;clear hA hK f1 hcap;go_enter func250,ntmps250;go_wp2_with fail;go_quiet (fail);go_wp2_with fail;refine(Iu adA capA allow _ l1 HCAP Z8<|HA.below<|HB0 _).mono ?_;rintro e w1 ⟨rfl,hb1⟩;have c2:w1.cell? (a6 w 2)=some (.string over):=by rw[hb1.cell (p:=⟨w.heap.size,2,none⟩) (by show _<(w.alloc _).heap.size;simp)];show(w.alloc _).cell? _=_;simp
 have c3:w1.cell? (a6 w 3)=some (.string name):=by rw[hb1.cell (p:=⟨w.heap.size,3,none⟩) (by show _<(w.alloc _).heap.size;simp)];show(w.alloc _).cell? _=_;simp
 have HB1:O (ae w w1):=(HB0 _).trans<|hb1.mono (HB0 _).size;clear hb1 HB0;go_wp2
 all_goals go_ret
 all_goals exact⟨aj<|by first|(simp[aD, *];done)|(simp[aD, *];omega)|(simp[aD, *];rw[X9];simp;done)|(simp[aD, *];rw[X9];simp;omega),HB1⟩
def KA(r:ER)(w:ag)(hf:r.e.fits)(hl:r.e.light)(hok:r.ok w)(hcap:r.e.allow.length<=r.capA):
  Calls prog 250 #[r.val] w (a8 w<|.bool<|aD r.e):=by
 by_cases h:r.e.kind=1
 ·exact Iw r w hf hl hok hcap h
 exact Gi r w hf h
structure Arr(es:Q09)(w:World)(g k:Nat):Prop where
 lt:g<w.heap.size
 told:∀j,j<k->w.cell? ⟨g,j,none⟩=some (.int .i64<|aC es j)
 rest:∀j,k<=j->j<15->w.cell? ⟨g,j,none⟩=some (.int .i64 0)
 free:∀o,w.frozen? ⟨g,o,none⟩=false
def Arr.later{es:Q09}{w w':ag}{g k:Nat}(h:Arr es w g k)(hb:ae w w'):Arr es w' g k where
 lt:=XJ h.lt hb.size
 told j hj:=kept hb h.lt<|h.told j hj
 rest j h1 h2:=kept hb h.lt<|h.rest j h1 h2
 free o:=WQ hb h.lt<|h.free o
def Arr.put{es:Q09}{w:ag}{g k:Nat}(h:Arr es w g k)(hk:k<15):Arr es (w.setCell (ap g k)<|.int .i64<|aC es k) g (k+1) where
 lt:=by simpa using h.lt
 told j hj:=by
  by_cases e:j=k
  ·subst e;exact AZ<|h.rest j (XK _) hk
  rw[rA (Ne.symm e)];exact h.told j cq
 rest j h1 h2:=by rw[rA cq];exact h.rest j cq h2
 free o:=by simpa using h.free o
def wL(es:Q09):Bool:=jv es&&decide (aC es (es.length-1)=0)
def EO{es:Q09}(k:Nat)(h:k<es.length)(hb:aC es k<0):wL es=false:=by
 have:jv es=false:=by
  rw[Bool.eq_false_iff];intro h2;unfold jv at h2;rw[XY]at h2;have:=h2 k (by simpa using h);simp at this;omega
 simp[wL,this]
def Ab(b off cap:Nat)(rs:Q08)(w:ag)(hn1:1<=rs.length)(hn2:rs.length<=15)(hl:∀r∈rs,r.e.light)(hb:cW b w)(hr:∀(i:Nat) (h:i<rs.length),zY w b (off+i*5) rs[i])(hok:∀r∈rs,r.ok w):
  Calls prog 251 #[.slice (some<|ap b off) rs.length cap] w (a8 w<|.bool<|wL<|au rs):=by
 have HEL:O ((au rs).length=rs.length):=aX rs;have HL:=aK hl;have HR:O (∀(i:Nat) (h:i<rs.length),zY w b (off+i*5) rs[i]):=hr;have HO:=aK hok;clear hl hr hok;go_enter func251,ntmps251;go_wp2_with fail;go_loopw[10] (fun i wr=>∃k:Nat,k<=rs.length/\i=.int .i64 k/\O (Qh (au rs) k)/\O (Arr (au rs) wr w.heap.size k)/\ae w wr) (fun i _=>rs.length-(intOf i).toNat);case atStart =>
  refine⟨0,XP _,rfl,(fun j hj=>absurd hj<|YG _),⟨ct,(fun j hj=>absurd hj<|YG _),fun j _ hj=>?_,fun o=>ct⟩,(XL _ _).alloc (XK _) _⟩;have h15:j=0\/j=1\/j=2\/j=3\/j=4\/j=5\/j=6\/j=7\/j=8\/j=9\/j=10\/j=11\/j=12\/j=13\/j=14:=cq
  rcases h15 with rfl|rfl|rfl|rfl|rfl|rfl|rfl|rfl|rfl|rfl|rfl|rfl|rfl|rfl|rfl<;>simp
 obtain⟨k,hk,rfl,HGU,HAR,hB⟩:=hrel;by_cases hlt:k<rs.length
 ·have hltE:k<(au rs).length:=by rw[HEL];exact hlt
  obtain⟨t0,t1,t2,t3,t4⟩:=(HR k hlt).later hb hB;have hk1:=bG k;have hk2:(k:Int)<(rs.length:Int):=cq;have hk3:(k:Int)<15:=cq;obtain⟨-,lk⟩:=HL rs[k]<|XI hlt;obtain⟨W1,hW1⟩:=eQx<|wr.alloc<|.cells (cU rs[k]) 43;have hal:ae wr W1:=by rw[hW1];exact(XL _ _).alloc (XK _) _
  have hB1:ae w W1:=hB.trans<|hal.mono hB.size;have HAR1:O (Arr (au rs) W1 w.heap.size k):=HAR.later hal;have s4:W1.cell? (a6 wr 4)=some (.slice rs[k].adK rs[k].e.kids.length rs[k].capK):=by rw[hW1];simp
  have HT:O (dF (dJ (au rs) k) (rs[k].e.kids.take rs[k].e.kids.length).reverse ((k:Int)-1)=aC (au rs) k):=by
   show _=_;rw[X8,jK (au rs) k,qi rs k hlt]
  clear HAR;go_wp2_with fail;rw[<-hW1];clear hW1 t0 t1 t2 t3 t4 hal;go_loopw[6,7] (fun x i w2=>∃(j:Nat) (y:Int),j<=rs[k].e.kids.length/\i=.int .i64 ((j:Int)-1)/\x=.int .i64 y/\0<=y/\y<=k/\O (dF (dJ (au rs) k) (rs[k].e.kids.take j).reverse (y-1)=aC (au rs) k)/\w2=W1) (fun _ i _=>(intOf i+1).toNat);case atStart=>exact⟨rs[k].e.kids.length,(k:Int),XK _,rfl,rfl,cq,cq,HT,rfl⟩
  obtain⟨j,y,hj,rfl,rfl,hy0,hy1,HG,rfl⟩:=hrel;by_cases hj0:0<j
  ·obtain⟨j,rfl⟩:∃i,j=i+1:=⟨j-1,cq⟩;have hjl:j<rs[k].e.kids.length:=cq;rcases (HO.out rs[k]<|XI hlt).2.below hB1 with hnil|⟨bk,offk,hadk,hbk,hrk⟩
   ·rw[hnil]at hjl;simp at hjl
   have s4':=s4;rw[hadk]at s4';have k0:=hrk j hjl;have hji:((j+1:Nat):Int)-1=(j:Int):=cq;have hj1:=bG j;have hj2:(j:Int)<(rs[k].e.kids.length:Int):=cq;have HG2:O ((if y-1<0\/rs[k].e.kids[j]≠y-1 then -1 else if dJ (au rs) k (y-1)<0 then -1 else dF (dJ (au rs) k) (rs[k].e.kids.take j).reverse (dJ (au rs) k (y-1)-1))=aC (au rs) k):=by
    have:=HG.out;rw[XM hjl,List.reverse_append]at this;exact this
   rw[hji];clear HG hrk hadk s4;by_cases hy:y=0
   ·have HN:O (wL (au rs)=false):=EO k hltE (by rw[<-HG2,if_pos<|Or.inl cq];omega);subst hy;go_wp2;go_ret;exact⟨by rw[HN];rfl,hB1⟩
   obtain⟨m,rfl⟩:∃m:Nat,y=(m:Int)+1:=⟨(y-1).toNat,cq⟩;have em:(m:Int)+1-1=(m:Int):=cq;by_cases hkx:rs[k].e.kids[j]=(m:Int)
   ·have hF:dJ (au rs) k ((m:Int)+1-1)=aC (au rs) m:=by rw[em];unfold dJ;rw[if_pos ⟨cq,by simp;omega⟩];simp
    have HF:O (dJ (au rs) k ((m:Int)+1-1)=aC (au rs) m):=hF;have hle:=gJ (au rs) m;have hge:0<=aC (au rs) m:=HGU m cq;have a0:=HAR1.told m cq;have hm1:=bG m;have hm2:(m:Int)<15:=cq;have HG3:O (dF (dJ (au rs) k) (rs[k].e.kids.take j).reverse (aC (au rs) m-1)=aC (au rs) k):=by
     show _=_;rw[<-HG2,if_neg cq,HF,if_neg cq]
    clear hF HG2;go_wp2;go_roundw;case rel=>exact⟨j,aC (au rs) m,cq,cx,rfl,hge,cq,HG3,by first|rfl|trivial⟩
    simp[intOf]<;>omega
   have HN:O (wL (au rs)=false):=EO k hltE (by rw[<-HG2,if_pos<|Or.inr<|by rw[em];exact hkx];omega);have hq:(rs[k].e.kids[j] != (m:Int))=true:=by simpa using hkx
   have hq0:((m:Int)+1==0)=false:=by simp;omega
   go_wp2;go_ret;exact⟨by rw[HN];rfl,hB1⟩
  obtain rfl:j=0:=cq;have hX:aC (au rs) k=y:=by have:=HG.out;simp[dF]at this;omega
  have HGU2:O (Qh (au rs)<|k+1):=by
   intro m hm;by_cases e:m=k
   ·subst e;omega
   exact HGU m cq
  have q0:=HAR1.rest k (XK _) cq;have qf:=HAR1.free;have HA2:=HAR1.put (k:=k) cq;rw[hX]at HA2;have HA3:O (Arr (au rs) _ w.heap.size<|k+1):=HA2;have hB2:=hB1.setCell (p:=⟨w.heap.size,k,none⟩) (XK _)<|.int .i64 y;clear HG HA2 hX;go_wp2;go_roundw;case rel=>exact⟨k+1,cq,cx,HGU2,HA3,hB2⟩
  simp[intOf]<;>omega
 obtain rfl:k=rs.length:=cq;have a0:=HAR.told (rs.length-1) cq;have HKB:O (wL (au rs)=decide (aC (au rs) (rs.length-1)=0)):=by
  show _=_;have:jv (au rs)=true:=by
   unfold jv;rw[XY];intro j hj;have hj':j<rs.length:=by simpa[HEL.out] using hj
   simpa using HGU.out j hj'
  unfold wL;rw[this,HEL,Bool.true_and]
 have hcast:((rs.length:Int)-1)=((rs.length-1:Nat):Int):=cq;have h15:((rs.length-1:Nat):Int)<15:=cq;have h00:(0:Int)<=((rs.length-1:Nat):Int):=cq;go_wp2;go_ret;exact⟨by rw[HKB];exact aj<|by rw[X9];simp,hB⟩
def NV{es:Q09}(h:¬(1<=es.length/\es.length<=15)):lw es=false:=by rw[<-tH];exact EL h
def KC{es:Q09}(k:Nat)(h:k<es.length)(hb:aD es[k]=false):lw es=false:=by simp[lw,Ev es k h hb]
def BB(b off cap:Nat)(rs:Q08)(w:ag)(hlen:a7 rs)(hl:∀r∈rs,r.e.light)(hf:∀r∈rs,r.e.fits)(hcp:∀r∈rs,r.e.allow.length<=r.capA)(hb:cW b w)(hr:∀(i:Nat) (h:i<rs.length),zY w b (off+i*5) rs[i])(hok:∀r∈rs,r.ok w):
  Calls prog 178 #[.slice (some<|ap b off) rs.length cap] w (a8 w<|.bool<|lw<|au rs):=by
 have HEL:O ((au rs).length=rs.length):=aX rs;have HL:=aK hl;have HF:=aK hf;have HCP:O (∀r∈rs,r.e.allow.length<=r.capA):=hcp;have HR:O (∀(i:Nat) (h:i<rs.length),zY w b (off+i*5) rs[i]):=hr;have HO:=aK hok;clear hl hf hr hok hcp;by_cases hn:1<=rs.length/\rs.length<=15
 ·obtain⟨hn1,hn2⟩:=hn;go_enter func178,ntmps178;go_wp2_with fail;go_loopw[3,16] (fun o i wr=>∃k:Nat,k<=rs.length/\i=.int .i64 k/\o=.int .i64 (iq (au rs) k:Nat)/\O (jY (au rs) k=true)/\ae w wr) (fun _ i _=>rs.length-(intOf i).toNat);case atStart=>exact⟨0,XP _,rfl,rfl,(by show _=_;simp[jY]),XL _ _⟩
  obtain⟨k,hk,rfl,rfl,HU,hB⟩:=hrel;by_cases hlt:k<rs.length
  ·have hltE:k<(au rs).length:=by rw[HEL];exact hlt
   have HEK:O ((au rs)[k]=rs[k].e):=by show _=_;simp[au]
   obtain⟨t0,t1,t2,t3,t4⟩:=(HR k hlt).later hb hB;have hk1:=bG k;have hk2:(k:Int)<(rs.length:Int):=cq;have hol:=wC (au rs) k;have hal:ae w (wr.alloc<|.cells (cU rs[k]) 43):=hB.alloc hB.size _;have Zl:=aK hal;clear hal;go_wp2_with fail;refine(KA rs[k] _ (HF _<|XI hlt) (HL _<|XI hlt) ((HO _<|XI hlt).below Zl)<|HCP _<|XI hlt).mono ?_;rintro e w1 ⟨rfl,hb1⟩;have hB1:ae w w1:=Zl.trans<|hb1.mono Zl.size;have g0:w1.cell? (aE wr)=some (.int .i64 rs[k].e.kind):=by rw[hb1.cell (p:=⟨wr.heap.size,0,none⟩) ct];simp
   clear hb1 t0 t1 t2 t3 t4 Zl;cases YX:aD rs[k].e;case false=>
    have HN:O (lw (au rs)=false):=KC k hltE (by rw[HEK];exact YX);go_wp2;go_ret;exact⟨by rw[HN];rfl,hB1⟩
   have HU2:O (jY (au rs) (k+1)=true):=by show _=_;rw[wD _ _ hltE,HU,HEK,YX];rfl
   have HOW:O (iq (au rs) (k+1)=iq (au rs) k+(if rs[k].e.kind=1 then 1 else 0)):=by show _=_;rw[Bf _ _ hltE,HEK]
   by_cases hk1':rs[k].e.kind=1
   ·have HOW2:O (iq (au rs) (k+1)=iq (au rs) k+1):=by show _=_;rw[HOW,if_pos hk1']
    clear HOW;go_wp2;go_roundw;case rel=>exact⟨k+1,cq,cx,by rw[HOW2];go_num,HU2,hB1⟩
    simp[intOf]<;>omega
   have HOW2:O (iq (au rs) (k+1)=iq (au rs) k):=by show _=_;rw[HOW,if_neg hk1'];rfl
   clear HOW;go_wp2;go_roundw;case rel=>exact⟨k+1,cq,cx,by rw[HOW2],HU2,hB1⟩
   simp[intOf]<;>omega
  obtain rfl:k=rs.length:=cq;have HN:O ((au rs).all aD=true):=by
   have:=HU.out;unfold jY at this;rwa [<-HEL,X8]at this
  have HOW:O (iq (au rs) rs.length=own (au rs)):=by show _=_;unfold iq;rw[<-HEL,X8]
  have hol:=wC (au rs) rs.length;by_cases ho:iq (au rs) rs.length<=1
  ·have HS:O (lw (au rs)=wL (au rs)):=by
    show _=_;have h1:own (au rs)<=1:=by rw[<-HOW];exact ho
    have e1:=HEL.out;unfold lw wL;rw[e1,HN];simp[h1,hn1,hn2]
   go_wp2_with fail;refine(Ab b off cap rs _ hn1 hn2 HL (XJ hb hB.size) (fun i hi=>(HR i hi).later hb hB) (fun r hr=>(HO r hr).below hB)).mono ?_;rintro e w1 ⟨rfl,hb1⟩;go_wp2;go_ret;exact⟨by rw[HS];rfl,hB.trans<|hb1.mono hB.size⟩
  have HS:O (lw (au rs)=false):=by
   show _=_;have h1:¬own (au rs)<=1:=by rw[<-HOW];exact ho
   simp[lw,h1]
  go_wp2;go_ret;exact⟨by rw[HS];rfl,hB⟩
 have HN:O (lw (au rs)=false):=NV (by rw[HEL];exact hn);go_enter func178,ntmps178;go_wp2_with fail
 all_goals go_ret
 all_goals exact⟨by rw[HN];rfl,XL _ _⟩
def BC(ad:Q02)(cap:Nat)(rs:Q08)(w:ag)(hlen:a7 rs)(hl:∀r∈rs,r.e.light)(hf:∀r∈rs,r.e.fits)(hcp:∀r∈rs,r.e.allow.length<=r.capA)(hs:iE w ad rs):
  Calls prog 178 #[.slice ad rs.length cap] w (a8 w<|.bool<|lw<|au rs):=by
 rcases hs with rfl|⟨b,off,rfl,hb,hr,hok⟩
 ·go_enter func178,ntmps178;go_wp2_with fail;go_ret;exact⟨rfl,XL _ _⟩
 exact BB b off cap rs w hlen hl hf hcp hb hr hok
end Go.Proofs.YtojjoblnpldniaaGreat
namespace Go.Proofs.YtojjoblnpldniaaGreat.Ls
def lt_irrefl:∀x:List UInt8,Op.bytesLess x x=false
 | []=>rfl
 | a::x=>by simp[Op.bytesLess,lt_irrefl x]
def lt_trans:∀x y z:List UInt8,Op.bytesLess x y=true->Op.bytesLess y z=true->Op.bytesLess x z=true
 | [],_,[],h,k=>by cases ‹List UInt8› <;> simp [Op.bytesLess] at h k
 | [],_,_::_,_,_=>rfl
 | _::_,[],_,h,_=>by simp[Op.bytesLess]at h
 | _::_,_::_,[],_,k=>by simp[Op.bytesLess]at k
 | a::x,b::y,c::z,h,k=>by
  simp only[Op.bytesLess,Bool.or_eq_true,XN,XU,beq_iff_eq]at h k ⊢;rcases h with h|⟨h,h'⟩
  ·rcases k with k|⟨k,k'⟩
   ·exact .inl<|UInt8.lt_trans h k
   exact .inl<|k ▸ h
  rcases k with k|⟨k,k'⟩
  ·exact .inl<|h ▸ k
  exact .inr ⟨h.trans k,lt_trans x y z h' k'⟩
def lt_total:∀x y:List UInt8,x≠y->Op.bytesLess x y=true\/Op.bytesLess y x=true
 | [],[],h=>absurd rfl h
 | [],_::_,_=>.inl rfl
 | _::_,[],_=>.inr rfl
 | a::x,b::y,h=>by
  simp only[Op.bytesLess,Bool.or_eq_true,XN,XU,beq_iff_eq];by_cases e:a=b
  ·subst e;rcases lt_total x y (fun e=>h<|by rw[e]) with k|k
   ·exact .inl<|.inr ⟨rfl,k⟩
   exact .inr<|.inr ⟨rfl,k⟩
  rcases Nat.lt_or_gt_of_ne (fun k=>e<|UInt8.toNat_inj.1 k) with k|k
  ·exact .inl<|.inl k
  exact .inr<|.inl k
end Go.Proofs.YtojjoblnpldniaaGreat.Ls
namespace Go.Proofs.YtojjoblnpldniaaGreat
set_option linter.unusedVariables false
section
variable  {α:Type}{lt:α->α->Bool}
def yx(lt:α->α->Bool)(r:α):List α->List α
 | []=>[r]
 | x::xs=>if lt x r then x::yx lt r xs else r::x::xs
def oq(lt:α->α->Bool)(rs:List α):List α:=rs.foldl (fun out r=>yx lt r out) []
def Gp{r:α}:∀{xs:List α} {p:Nat},p<=xs.length->(∀(i:Nat) (h:i<xs.length),i<p->lt xs[i] r=true)->(∀h:p<xs.length,lt xs[p] r=false)->yx lt r xs=xs.take p++r::xs.drop p
 | [],p,hp,_,_=>by
  obtain rfl:p=0:=by simpa using hp
  rfl
 | x::xs,0,_,_,h2=>by
  have:=h2 ct;simp only[List.getElem_cons_zero]at this;simp[yx,this]
 | x::xs,p+1,hp,h1,h2=>by
  have h0:=h1 0 ct cq;simp only[List.getElem_cons_zero]at h0;have ih:=Gp (r:=r) (xs:=xs) (p:=p) (by simpa using hp) (fun i h hi=>h1 (i+1) (by simpa using h) cq) (fun h=>h2<|by simpa using h);simp[yx,h0,ih]
def EP(r:α):∀xs:List α,(yx lt r xs).Perm (r::xs)
 | []=>List.Perm.refl _
 | x::xs=>by
  unfold yx;split
  ·exact((EP r xs).cons x).trans<|List.Perm.swap _ _ _
  exact List.Perm.refl _
def BD:∀(rs acc:List α),(rs.foldl (fun out r=>yx lt r out) acc).Perm (rs++acc)
 | [],acc=>List.Perm.refl _
 | r::rs,acc=>(BD rs<|yx lt r acc).trans<|((EP r acc).append_left rs).trans List.perm_middle
def nk(rs:List α):(oq lt rs).Perm rs:=by simpa[oq] using BD rs []
def KD(rs:List α)(r:α):oq lt (rs++[r])=yx lt r (oq lt rs):=by unfold oq;rw[List.foldl_append];rfl
structure OrdO(lt:α->α->Bool)(rs:List α):Prop where
 trans:∀x∈rs,∀y∈rs,∀z∈rs,lt x y=true->lt y z=true->lt x z=true
 asymm:∀x∈rs,∀y∈rs,lt x y=true->lt y x=false
 total:∀x∈rs,∀y∈rs,x≠y->lt x y=true\/lt y x=true
def OrdO.mono{rs qs:List α}(h:OrdO lt rs)(hs:∀x∈qs,x∈rs):OrdO lt qs :=
 ⟨fun x hx y hy z hz=>h.trans x (hs x hx) y (hs y hy) z<|hs z hz,fun x hx y hy=>h.asymm x (hs x hx) y<|hs y hy,fun x hx y hy=>h.total x (hs x hx) y<|hs y hy⟩
end
open RowKit
def VO{P:Program}{ops:Array Oper}{Q:Exit->Act->World->Prop}{md:Region.Mode}{S:World->Prop}{i:Nat}{oi:Oper}{v:Value}{fuel:Nat}{listed:Array Bool}{a:Act}{w:ag}(d:Nat)(hi:ops[i]?=some oi)(hd:oi.dst=some d)
  (hs:Region.noSelect ops=true) (hf:Region.free md ops listed i=true) (hr:(Region.ready md ops listed).contains i=true)
  (hQ:∀c a w,Q (.panic c) (a.put oi.dst v) w->Q (.panic c) a w) (hy:YieldsIf P ops S oi v a) (hS:S w)
  (h:wpAnyH P md ops Q S fuel (listed.setIfInBounds i true) (a.put (some d) v) w):wpAnyH P md ops Q S (fuel+1) listed a w :=
 wpAnyH_take hi hs hf hr hQ hy hS (by rw[hd];exact h)
def tk{P:Program}{ops:Array Oper}{Q:Exit->Act->World->Prop}{md:Region.Mode}{S:World->Prop}{oi:Oper}{v:Value}{fuel:Nat}{listed:Array Bool}{a:Act}{w:ag}(i d:Nat)
  (h:wpAnyH P md ops Q S fuel (listed.setIfInBounds i true) (a.put (some d) v) w) (hi:ops[i]?=some oi:=by rfl) (hd:oi.dst=some d:=by rfl) (hs:Region.noSelect ops=true:=by kernel_rfl) (hf:Region.free md ops listed i=true:=by kernel_rfl) (hr:(Region.ready md ops listed).contains i=true:=by kernel_rfl)
  (hQ:∀c a w,Q (.panic c) (a.put oi.dst v) w->Q (.panic c) a w:=by exact fun _ _ _ h=>h) (hy:YieldsIf P ops S oi v a:=by refine Or.inl ⟨by rfl,?_⟩;intro w hSw;(try dsimp only at hSw);go_simp<;>with_reducible rfl) (hS:S w:=by assumption):wpAnyH P md ops Q S (fuel+1) listed a w :=
 VO d hi hd hs hf hr hQ hy hS h
section
variable  {φ:Type}[DecidableEq φ]{rk:φ->Int}{H:List φ->φ->Bool}{qs:Nat->List φ}
def TY(H:List φ->φ->Bool)(qs:Nat->List φ):Nat->List φ
 | 0=>[]
 | n+1=>oK H (qs n)<|TY H qs n
def Iy(q out:List φ):∃new,oK H q out=out++new/\∀g∈new,g∈q:=yu q _ out
def Iz(hq:∀n,∀f∈qs n,rk f=(n:Int)):∀N,∀f∈TY H qs N,rk f<(N:Int)
 | 0,f,h=>by cases h
 | N+1,f,h=>by
  obtain⟨new,e,hn⟩:=Iy (H:=H) (qs N)<|TY H qs N;rw[TY,e]at h;rcases XV.1 h with h|h
  ·have:=Iz hq N f h;omega
  have:=hq N f<|hn f h;omega
end
def qo(o:Oper):Bool:=match o.op with
 | .defer _=>false
 | _=>true
def KE{o:Oper}(h:qo o=true):∀c,o.op ≠ .defer c:=fun c e=>by unfold qo at h;rw[e]at h;cases h
def oL{l n:Nat}{P:Program}{f:FuncId}{args:Array Value}{w:ag}{R:Ending->World->Prop}(h:Calls P f args w R):CallsIn (Fence.wide.inRound l) n P f args w R:=(callsIn_wide (n:=n)).2 h
def Gq{l n:Nat}{P:Program}{row:String}{args:Array Value}{w:ag}{R:Value->World->Prop}(h:Rows P row args w R):RowsIn (Fence.wide.inRound l) n P row args w R:=fun c cs _=>by
 obtain⟨v,w',r,s⟩:=h c cs;exact⟨v,w',r,stepsIn_wide.2 s⟩
section
variable  {P:Program}{ops:Array Oper}{Q:Exit->Act->World->Prop}{md:Region.Mode}{l n:Nat}
def KF{o:Oper}{a:Act}{w:ag}{K:Act->World->Prop}(hd:qo o=true)(h:o.wp P a w K Q):o.wpIn (Fence.wide.inRound l) n P a w K Q:=by
 refine⟨fun _ _=>trivial,?_⟩;rw[Fence.inRound_round,Oper.semAt_eq _ _ _<|KE hd];unfold Oper.wp at h;generalize (execOp a.eval o).run P w=r at *
 cases r with
 | ok x w' =>
  cases x with
  | enter f args=>exact⟨fun e=>(by cases e),oL h⟩
  | row r args=>exact⟨fun e=>(by cases e),Gq h⟩
  | round l f t a b=>exact h.elim
  | _=>exact h
 | halt x w'=>cases x<;>exact h
def Gr{i:Nat}{K:Act->World->Prop}{a:Act}{w:ag}(hd:∀o∈ops,qo o=true)(hL:¬LetsOut Q)(h:wpOp P ops Q i K a w):wpOpIn (Fence.wide.inRound l) n P ops Q i K a w:=by
 unfold wpOp at h;unfold wpOpIn;cases ho:ops[i]? with
 | none=>rw[ho]at h;exact h
 | some o =>
  rw[ho]at h;simp only at h⊢;split
  ·rename_i hw;rw[if_pos hw]at h;rcases h with h|h
   ·exact KF (hd o<|Array.mem_of_getElem? ho) h
   exact absurd h.2 hL
  rename_i hw;rw[if_neg hw]at h;exact⟨fun _ _=>trivial,h⟩
def uI(hd:∀o∈ops,qo o=true)(hL:¬LetsOut Q):∀(fuel:Nat) (listed:Array Bool) (a:Act) (w:ag),wpAny P md ops Q fuel listed a w->wpAnyIn (Fence.wide.inRound l) n P md ops Q fuel listed a w
 | 0,_,_,_,h=>h
 | fuel+1,listed,a,w,h=>⟨h.1,fun i hi=>wpOpIn_mono (fun a' w' hh=>uI hd hL fuel _ a' w' hh) (Gr hd hL<|h.2 i hi)⟩
def Ac{id:Nat}{a:Act}{w:ag}(Inv:Array Bool->Act->World->Prop)(hm:P.follows .mixedOrders=true)(hd:ops.all qo=true)(hL:¬LetsOut Q)
  (h0:Inv (Array.replicate ops.size false) a w.drew)
  (hstep:∀listed a w,Inv listed a w->∀i∈Region.ready .any ops listed,wpOp P ops Q i (Inv<|listed.setIfInBounds i true) a w)
  (hend:∀listed a w,Inv listed a w->Region.ready .any ops listed=[]->Q .normal a w):(Code.region id ops true).wpIn (Fence.wide.inRound l) n P Q a w :=
 wpIn_region_any hm (uI (fun o ho=>Array.all_eq_true_iff_forall_mem.1 hd o ho) hL _ _ _ _ (Ep Inv hstep hend _ _ _ _ (MV _ _) h0))
def qZ{id:Nat}{a:Act}{w:ag}(N:Nat)(f0:Nat->Value)(F:(Nat->Value)->Act)(V:Nat->Value->World->Prop)(G:World->Prop)
  (hm:P.follows .mixedOrders=true) (hd:ops.all qo=true) (hL:¬LetsOut Q) (hsz:ops.size=N) (ZN:Bc ops=true)
  (h0:a=F f0) (hG0:G w.drew)
  (hstep:∀ i,i<N->∀ o,ops[i]?=some o->∀ f w',G w'->(∀ e∈o.after,Region.binds .any e=true->V e.on (f e.on) w') ->
   wpOp P ops Q i (fun a' w''=>∃v,a'=F (upd f i v)/\G w''/\V i v w''/\∀k u,V k u w'->V k u w'') (F f) w')
  (hend:∀f w',G w'->(∀k,k<N->V k (f k) w')->Q .normal (F f) w') :
  (Code.region id ops true).wpIn (Fence.wide.inRound l) n P Q a w:=by
 refine Ac (fun listed a' w'=>listed.size=N/\∃f,a'=F f/\G w'/\∀k,k<N->listed.getD k false=true->V k (f k) w') hm hd hL ?_ ?_ ?_
 ·refine⟨by simpa using hsz,_,h0,hG0,fun k _ h=>?_⟩;rw[Yd,Yw]at h;split at h<;>cases h
 ·rintro listed a' w' ⟨hs,f,rfl,hG,hV⟩ i hi;obtain⟨hl,o,ho,hpre⟩:=mem_ready.1 hi;have hiN:i<N:=by have:=(XO.1 ho).1;omega
  refine wpOp_mono ?_ (hstep i hiN o ho f w' hG fun e he hb=>hV e.on (by have:=mW ZN i o ho e he;omega) (hpre e he hb));rintro a'' w'' ⟨v,rfl,hG',hv,hmono⟩;refine⟨by simpa using hs,_,rfl,hG',fun k hk hkl=>?_⟩;rw[aV _ _ _ cq]at hkl;by_cases ek:k=i
  ·subst ek;simpa[upd] using hv
  rw[if_neg ek]at hkl;simp only[upd,if_neg ek];exact hmono _ _<|hV k hk hkl
 rintro listed a' w' ⟨hs,f,rfl,hG,hV⟩ hr;refine hend f w' hG fun k hk=>hV k hk ?_;have:=qc hr hsz (mW ZN) hs k hk;rwa [kK cq]at this
def IA{F:Fence}{c:Code}{a:Act}{w:ag}(R:Act->World->Prop)(h:c.wpIn F n P (fun e a w=>e=.normal/\R a w) a w)(hR:∀a w,R a w->Q .normal a w):c.wpIn F n P Q a w:=wpIn_mono h fun e a w ⟨he,hr⟩=>by rw[he];exact hR a w hr
end
end Go.Proofs.YtojjoblnpldniaaGreat
