/- Contracts of the drawing's reader: its next byte, a number below another one. What it answers is left open but for its bounds. -/
import Derived.Test.YtojjoblnpldniaaGreatSq
import Derived.Test.YtojjoblnpldniaaGreatJ2
import Derived.ChangeSlices
import Derived.Deep.Slices
import Derived.RangeFuncNested
open Go.Proofs.Tryz
set_option maxHeartbeats 80000000
set_option linter.defProp false
namespace Go.Proofs.YtojjoblnpldniaaGreat
open ChangeShapes WideShapes ChangeAt RowKit
open Pl
structure Rd(w:World)(R:Nat)(ad:Q02)(len cap:Nat):Prop where
 lt:R<w.heap.size
 code:w.cell? ⟨R,0,none⟩=some (.slice ad len cap)
 place:∃p:Nat,w.cell? ⟨R,1,none⟩=some (.int .i64 p)/\p<=len
 free:w.frozen? ⟨R,1,none⟩=false
 bytes:0<len->∃b off,ad=some ⟨b,off,none⟩/\b≠R/\b<w.heap.size/\∀i,i<len->∃c:Int,0<=c/\c<=255/\w.cell? ⟨b,off+i,none⟩=some (.int .u8 c)
 small:len<=maxLen
def Rd.below{w w':af}{R:Nat}{ad:Q02}{len cap:Nat}(h:Rd w R ad len cap)(hb:ag w w'):Rd w' R ad len cap where
 lt:=WJ h.lt hb.size
 code:=by rw[hb.cell (p:=⟨R,0,none⟩) h.lt];exact h.code
 place:=by obtain⟨p,hp,hl⟩:=h.place;exact⟨p,by rw[hb.cell (p:=⟨R,1,none⟩) h.lt];exact hp,hl⟩
 free:=by rw[hb.frozen (p:=⟨R,1,none⟩) h.lt];exact h.free
 bytes h0:=by
  obtain⟨b,off,e,hne,hbl,hc⟩:=h.bytes h0;refine⟨b,off,e,hne,WJ hbl hb.size,fun i hi=>?_⟩;obtain⟨c,c0,c1,hcc⟩:=hc i hi;exact⟨c,c0,c1,by rw[hb.cell (p:=⟨b,off+i,none⟩) hbl];exact hcc⟩
 small:=h.small
def Rd.step{w:af}{R p:Nat}{ad:Q02}{len cap:Nat}(h:Rd w R ad len cap)(hp:p+1<=len):Rd (w.setCell (aq R 1)<|.int .i64<|(p:Int)+1) R ad len cap where
 lt:=by simpa using h.lt
 code:=by
  rw[show(w.setCell (aq R 1)<|.int .i64<|(p:Int)+1).cell? (am R)=w.cell? (am R) from by apply World.cell?_setCell_other;intro e;cases e];exact h.code
 place:=by
  obtain⟨q,hq,-⟩:=h.place;exact⟨p+1,by rw[show(w.setCell (aq R 1)<|.int .i64<|(p:Int)+1).cell? (aq R 1)=some (.int .i64<|(p:Int)+1) from by apply World.cell?_setCell_same;exact hq];simp,hp⟩
 free:=by simpa using h.free
 bytes h0:=by
  obtain⟨b,off,e,hne,hbl,hc⟩:=h.bytes h0;refine⟨b,off,e,hne,by simpa using hbl,fun i hi=>?_⟩;obtain⟨c,c0,c1,hcc⟩:=hc i hi;refine⟨c,c0,c1,?_⟩;rw[show(w.setCell (aq R 1)<|.int .i64<|(p:Int)+1).cell? (aq b<|off+i)=w.cell? (aq b<|off+i) from by apply World.cell?_setCell_other;intro e;exact hne (congrArg Addr.block e).symm];exact hcc
 small:=h.small
def Only(R:Nat)(w w':World):Prop:=w.grownBy w'<|some R
def Only.refl(R:Nat)(w:af):Only R w w:=⟨rfl,rfl,rfl,WK _,fun _ _ _=>rfl⟩
def Only.trans{R:Nat}{a b c:af}(h:Only R a b)(k:Only R b c):Only R a c :=
 ⟨k.os.trans h.os,k.tape.trans h.tape,k.output.trans h.output,WR h.size k.size,fun i hi hr=>(k.block i (WJ hi h.size) hr).trans<|h.block i hi hr⟩
def Only.drewN{R:Nat}{a b:af}(h:Only R a b)(n:Nat):Only R a (b.drewN n):=⟨h.os,h.tape,h.output,h.size,h.block⟩
def Only.set{R:Nat}{a b:af}(h:Only R a b)(o:Nat)(v:Value):Only R a (b.setCell (aq R o) v) :=
 ⟨h.os,h.tape,h.output,by simpa using h.size,fun i hi hr=>(Below.heap_setCell b ⟨R,o,none⟩ v i fun e=>hr<|by rw[e]).trans (h.block i hi hr)⟩
def Only.below{R:Nat}{a b c:af}(h:Only R a b)(k:ag b c):Only R a c :=
 ⟨k.os.trans h.os,k.tape.trans h.tape,k.output.trans h.output,WR h.size k.size,fun i hi hr=>(k.block i<|WJ hi h.size).trans<|h.block i hi hr⟩
def Only.of_below{R:Nat}{b c:af}(k:ag b c):Only R b c:=(Only.refl R b).below k
def Only.cell{R:Nat}{w w':af}(h:Only R w w'){b o:Nat}(hb:cU b w)(hne:b≠R):w'.cell? (aq b o)=w.cell? (aq b o) :=
 WX (w:=w) (h.block b hb fun e=>hne<|by injection e)
def Only.frozen{R:Nat}{w w':af}(h:Only R w w'){b o:Nat}(hb:cU b w)(hne:b≠R):w'.frozen? (aq b o)=w.frozen? (aq b o) :=
 World.frozen?_of_block (w:=w) (h.block b hb fun e=>hne<|by injection e)
def Only.toBelow{R B:Nat}{a w w':af}(h:Below B a w)(k:Only R w w')(hB:cd B w)(hR:B<=R):Below B a w' :=
 h.grown k hB (fun i hi=>by injection hi with e;omega)
def Hy(R:Nat)(ad:Q02)(len cap:Nat)(w:af)(h:Rd w R ad len cap):
  Calls prog 170 #[.pointer (some<|am R)] w fun e w'=>(∃x:Int,e=.returned (.int .i64 x)/\0<=x/\x<=255)/\Rd w' R ad len cap/\Only R w w':=by
 obtain⟨p,hp,hpl⟩:=h.place;have hc:=h.code;have hsm:=h.small;unfold maxLen at hsm;have H:=aB h;by_cases hlt:p<len
 ·obtain⟨b,off,rfl,hne,hbl,hbytes⟩:=h.bytes cq;obtain⟨c,c0,c1,hcc⟩:=hbytes p hlt;have hfz:=h.free;have hnl:decide ((len:Int)<=(p:Int))=false:=by simp;omega
  have HS:O (Rd (w.setCell (aq R 1)<|.int .i64<|(p:Int)+1) R (some<|aq b off) len cap):=h.step cq;clear hbytes h;go_enter func170,ntmps170;go_wp2;go_quiet (fail);go_wp2;have e1:(p:Int)+1-1=(p:Int):=cq;have e2:=bY p;have e3:(p:Int)<(len:Int):=cq;have hw:IntKind.i64.wrap (p:Int)=(p:Int):=by rw[IntKind.wrap_i64];omega
  have hcw:IntKind.i64.wrap c=c:=by rw[IntKind.wrap_i64];omega
  have x1:(w.setCell (aq R 1)<|.int .i64<|(p:Int)+1).cell? (aq b<|off+p)=some (.int .u8 c):=by
   rw[show(w.setCell (aq R 1)<|.int .i64<|(p:Int)+1).cell? (aq b<|off+p)=w.cell? (aq b<|off+p) from by apply World.cell?_setCell_other;intro e;exact hne (congrArg Addr.block e).symm];exact hcc
  go_quiet (fail);go_wp2;go_ret;exact⟨⟨c,rfl,c0,c1⟩,HS.below ⟨rfl,rfl,rfl,WK _,fun _ _=>rfl⟩,(((Only.refl _ _).drewN _).set _ _).drewN _⟩
 have hge:decide ((len:Int)<=(p:Int))=true:=by simp;omega
 clear h;go_enter func170,ntmps170;go_wp2;go_quiet (fail);go_wp2;go_ret;exact⟨⟨0,rfl,cq,cq⟩,H.below<|(below_drewN (WL _ _) _),(Only.refl _ _).drewN _⟩
def dx(R:Nat)(ad:Q02)(len cap:Nat)(n:Int)(w:af)(h:Rd w R ad len cap)(h1:2<=n)(h2:n<=256):
  Calls prog 90 #[.pointer (some<|am R),.int .i64 n] w fun e w'=>(∃x:Int,e=.returned (.int .i64 x)/\0<=x/\x<n)/\Rd w' R ad len cap/\Only R w w':=by
 have H:=aB h;clear h;have hne:(n==0)=false:=by simp;omega
 go_enter func90,ntmps90;go_wp2_with fail;refine(Hy R ad len cap _ H).mono ?_;rintro e w1 ⟨⟨x,rfl,hx0,hx1⟩,YD,YL⟩;have HR:=aB YD;have HO:=aB YL;clear YD YL;go_wp2;go_ret;exact⟨⟨_,rfl,Int.emod_nonneg _ cq,Int.emod_lt_of_pos _ cq⟩,HR,HO⟩
def ko(R:Nat)(ad:Q02)(len cap:Nat)(n:Int)(w:af)(h:Rd w R ad len cap)(h1:2<=n)(h2:n<=256):
  Calls prog 114 #[.pointer (some<|am R),.int .i64 n] w fun e w'=>(∃x:Bool,e=.returned (.bool x))/\Rd w' R ad len cap/\Only R w w':=by
 have H:=aB h;clear h;go_enter func114,ntmps114;go_wp2_with fail;refine(dx R ad len cap n _ H h1 h2).mono ?_;rintro e w1 ⟨⟨x,rfl,hx0,hx1⟩,YD,YL⟩;have HR:=aB YD;have HO:=aB YL;clear YD YL;go_wp2;go_ret;exact⟨⟨_,rfl⟩,HR,HO⟩
def Strs(w:World)(R g n:Nat):Prop:=g≠R/\g<w.heap.size/\∀i,i<n->∃s:ByteArray,s.size<=20/\w.cell? ⟨g,i,none⟩=some (.string s)
def Strs.only{w w':af}{R g n:Nat}(h:Strs w R g n)(k:Only R w w'):Strs w' R g n :=
 ⟨h.1,WJ h.2.1 k.size,fun i hi=>by obtain⟨s,hs,hc⟩:=h.2.2 i hi;exact⟨s,hs,by rw[k.cell h.2.1 h.1];exact hc⟩⟩
def Bj(w:World)(R B g:Nat):Prop:=g≠R/\B<=g/\g<w.heap.size/\(∀o,w.frozen? ⟨g,o,none⟩=false)/\∃a b:ByteArray,a.size<=20/\b.size<=20/\w.cell? ⟨g,0,none⟩=some (.string a)/\w.cell? ⟨g,1,none⟩=some (.string b)
def Bj.only{w w':af}{R B g:Nat}(h:Bj w R B g)(k:Only R w w'):Bj w' R B g:=by
 obtain⟨h1,h2,h3,h4,a,b,ha,hb,ca,cb⟩:=h;exact⟨h1,h2,WJ h3 k.size,fun o=>by rw[k.frozen h3 h1];exact h4 o,a,b,ha,hb,by rw[k.cell h3 h1];exact ca,by rw[k.cell h3 h1];exact cb⟩
def gH(w:af)(R:Nat)(hR:cU R w){t:TypeId}{xs:List ByteArray}(h:xs.all (fun x=>decide (x.size<=20))=true):Strs (w.alloc<|.cells (xs.map Value.string).toArray t) R w.heap.size xs.length:=by
 refine⟨cq,ct,fun i hi=>⟨xs[i],?_,?_⟩⟩
 ·rw[WT]at h;simpa using h xs[i] (WH hi)
 simp[hi]
def NM{w:af}{R B:Nat}{t:TypeId}(hR:cU R w)(hB:cd B w):Bj (w.alloc<|.cells aE t) R B w.heap.size :=
 ⟨cq,hB,ct,fun o=>ct,⟨#[]⟩,⟨#[]⟩,cv,cv,ct,ct⟩
def NN{w:af}{R B g:Nat}{x y:Value}{a b:ByteArray}(h1:g≠R)(h2:B<=g)(h3:cU g w)(h4:∀o,w.frozen? (aq g o)=false)(hx:w.cell? (am g)=some x)(hy:w.cell? (aq g 1)=some y)(ha:a.size<=20)(hb:b.size<=20):
  Bj ((w.setCell (am g)<|.string a).setCell (aq g 1)<|.string b) R B g:=by
 have n01:(⟨g,0,none⟩:Addr)≠⟨g,1,none⟩:=by intro e;cases e
 have e1:(w.setCell (am g)<|.string a).cell? (aq g 1)=some y:=by
  rw[show(w.setCell (am g)<|.string a).cell? (aq g 1)=w.cell? (aq g 1) from by apply World.cell?_setCell_other;exact n01];exact hy
 refine⟨h1,h2,by simpa using h3,fun o=>by simpa using h4 o,a,b,ha,hb,?_,?_⟩
 ·rw[show((w.setCell (am g)<|.string a).setCell (aq g 1)<|.string b).cell? (am g)=(w.setCell (am g)<|.string a).cell? (am g) from by apply World.cell?_setCell_other;exact n01.symm];apply World.cell?_setCell_same;exact hx
 apply World.cell?_setCell_same;exact e1
def Rd.setFar{w:af}{R g o:Nat}{ad:Q02}{len cap:Nat}{v:Value}(h:Rd w R ad len cap)(hg:g≠R)(hb:0<len->∀b off,ad=some (aq b off)->b≠g):Rd (w.setCell (aq g o) v) R ad len cap where
 lt:=by simpa using h.lt
 code:=by
  rw[show(w.setCell (aq g o) v).cell? (am R)=w.cell? (am R) from by apply World.cell?_setCell_other;intro e;exact hg<|congrArg Addr.block e];exact h.code
 place:=by
  obtain⟨p,hp,hl⟩:=h.place;exact⟨p,by rw[show(w.setCell (aq g o) v).cell? (aq R 1)=w.cell? (aq R 1) from by apply World.cell?_setCell_other;intro e;exact hg<|congrArg Addr.block e];exact hp,hl⟩
 free:=by simpa using h.free
 bytes h0:=by
  obtain⟨b,off,e,hne,hbl,hc⟩:=h.bytes h0;refine⟨b,off,e,hne,by simpa using hbl,fun i hi=>?_⟩;obtain⟨c,c0,c1,hcc⟩:=hc i hi;exact⟨c,c0,c1,by rw[show(w.setCell (aq g o) v).cell? (aq b<|off+i)=w.cell? (aq b<|off+i) from by apply World.cell?_setCell_other;intro e2;exact hb h0 b off e (congrArg Addr.block e2).symm];exact hcc⟩
 small:=h.small
def Only.setNew{R g o:Nat}{a b:af}{v:Value}(h:Only R a b)(hg:a.heap.size<=g):Only R a (b.setCell (aq g o) v) :=
 ⟨h.os,h.tape,h.output,by simpa using h.size,fun i hi hr=>(Below.heap_setCell b ⟨g,o,none⟩ v i<|by simp;omega).trans (h.block i hi hr)⟩
def Only.alloc{R:Nat}{a b:af}(h:Only R a b)(o:Obj):Only R a (b.alloc o):=h.below<|(WL _ _).alloc (WK _) _
def Rd.alloc{w:af}{R:Nat}{ad:Q02}{len cap:Nat}(h:Rd w R ad len cap)(o:Obj):Rd (w.alloc o) R ad len cap:=h.below<|(WL _ _).alloc (WK _) _
def Tt{w:af}{a:Addr}{v:Value}(h:w.cell? a=some v)(o:Obj):(w.alloc o).cell? a=some v:=cell_later ((WL _ _).alloc (WK _) _) h
def Ob(w:World)(R g:Nat)(a b:ByteArray):Prop:=g≠R/\g<w.heap.size/\w.cell? ⟨g,0,none⟩=some (.string a)/\w.cell? ⟨g,1,none⟩=some (.string b)
def Ob.only{w w':af}{R g:Nat}{a b:ByteArray}(h:Ob w R g a b)(k:Only R w w'):Ob w' R g a b :=
 ⟨h.1,WJ h.2.1 k.size,by rw[k.cell h.2.1 h.1];exact h.2.2.1,by rw[k.cell h.2.1 h.1];exact h.2.2.2⟩
def Ob.alloc{w:af}{R g:Nat}{a b:ByteArray}(h:Ob w R g a b)(o:Obj):Ob (w.alloc o) R g a b:=h.only<|(Only.refl R w).alloc o
def FU{w:af}{R:Nat}(hR:cU R w)(t:TypeId)(a b:bN):Ob (w.alloc<|.cells #[.string a,.string b] t) R w.heap.size a b :=
 ⟨cq,ct,ct,ct⟩
def Vi(w:World)(R n:Nat):Prop:=n≠R/\n<w.heap.size/\(∀o,w.frozen? ⟨n,o,none⟩=false)/\∀o,o<6->w.cell? ⟨n,o,none⟩=some (.string ⟨#[]⟩)
def Vi.only{w w':af}{R n:Nat}(h:Vi w R n)(k:Only R w w'):Vi w' R n :=
 ⟨h.1,WJ h.2.1 k.size,fun o=>by rw[k.frozen h.2.1 h.1];exact h.2.2.1 o,fun o ho=>by rw[k.cell h.2.1 h.1];exact h.2.2.2 o ho⟩
def Tu{w:af}{R:Nat}(hR:cU R w)(t:TypeId):Vi (w.alloc<|.cells ar t) R w.heap.size:=by
 refine⟨cq,ct,fun o=>ct,fun o ho=>?_⟩;have h6:o=0\/o=1\/o=2\/o=3\/o=4\/o=5:=cq
 rcases h6 with rfl|rfl|rfl|rfl|rfl|rfl<;>simp
structure Kd where
 s:Value ⊕ Nat ⊕ Nat ⊕ Nat ⊕ Unit ⊕ Unit ⊕ Unit
abbrev Kd.eq (v:Value):Kd:=⟨.inl v⟩
abbrev Kd.strs (n:Nat):Kd:=⟨.inr<|.inl n⟩
abbrev Kd.idx (n:Nat):Kd:=⟨.inr<|.inr<|.inl n⟩
abbrev Kd.elt (n:Nat):Kd:=⟨.inr<|.inr<|.inr<|.inl n⟩
abbrev Kd.str:Kd:=⟨.inr<|.inr<|.inr<|.inr<|.inl ()⟩
abbrev Kd.obj:Kd:=⟨.inr<|.inr<|.inr<|.inr<|.inr<|.inl ()⟩
abbrev Kd.tup:Kd:=⟨.inr<|.inr<|.inr<|.inr<|.inr<|.inr ()⟩
def Kd.ok(R:Nat)(w:World)(v:Value):Kd->Prop
 | ⟨.inl u⟩=>v=u
 | ⟨.inr<|.inl n⟩=>∃g,v=.slice (some ⟨g,0,none⟩) n n/\Strs w R g n
 | ⟨.inr<|.inr<|.inl n⟩=>∃x:Nat,v=.int .i64 (x:Int)/\x<n
 | ⟨.inr<|.inr<|.inr<|.inl n⟩=>∃g x,v=.pointer (some ⟨g,x,none⟩)/\x<n/\Strs w R g n
 | ⟨.inr<|.inr<|.inr<|.inr<|.inl _⟩=>∃t:ByteArray,v=.string t/\t.size<=20
 | ⟨.inr<|.inr<|.inr<|.inr<|.inr<|.inl _⟩=>∃a b:ByteArray,v=.agg #[.string a,.string b]/\a.size<=20/\b.size<=20
 | ⟨.inr<|.inr<|.inr<|.inr<|.inr<|.inr _⟩=>∃a b r c d s:ByteArray,v=.agg #[.string a,.string b,.string r,.string c,.string d,.string s]/\a.size<=20/\b.size<=20/\r.size<=20/\c.size<=20/\d.size<=20/\s.size<=20
def Kd.only{R:Nat}{w w':af}{v:Value}(h:Only R w w')(k:Kd)(hk:k.ok R w v):k.ok R w' v:=by
 match k,hk with
 | ⟨.inl _⟩,hk=>exact hk
 | ⟨.inr<|.inl _⟩,hk=>obtain⟨g,e,hs⟩:=hk;exact⟨g,e,hs.only h⟩
 | ⟨.inr<|.inr<|.inl _⟩,hk=>exact hk
 | ⟨.inr<|.inr<|.inr<|.inl _⟩,hk=>obtain⟨g,x,e,hx,hs⟩:=hk;exact⟨g,x,e,hx,hs.only h⟩
 | ⟨.inr<|.inr<|.inr<|.inr<|.inl _⟩,hk=>exact hk
 | ⟨.inr<|.inr<|.inr<|.inr<|.inr<|.inl _⟩,hk=>exact hk
 | ⟨.inr<|.inr<|.inr<|.inr<|.inr<|.inr _⟩,hk=>exact hk
def zQ(ks:List Kd)(k:Nat):Kd:=ks.getD k .tup
set_option maxRecDepth 100000
def jI{p:Prop}(h:p):O p:=h
def Ku(R:Nat)(w:af)(n:Int)(h:n<=1):
  Calls prog 90 #[.pointer (some<|am R),.int .i64 n] w (bx w<|.int .i64 0):=by
 go_enter func90,ntmps90;go_wp2;go_ret;exact⟨rfl,rfl⟩
def fw(R:Nat)(ad:Q02)(len cap:Nat)(n:Nat)(w:af)(h:Rd w R ad len cap)(h1:1<=n)(h2:n<=256):
  Calls prog 90 #[.pointer (some<|am R),.int .i64 (n:Int)] w fun e w'=>(∃x:Nat,e=.returned (.int .i64 (x:Int))/\x<n)/\Rd w' R ad len cap/\Only R w w':=by
 by_cases hn:n=1
 ·subst hn;exact(Ku R w 1 cq).mono fun e w' ⟨he,hw⟩=>⟨⟨0,by rw[he];rfl,cq⟩,by rw[hw];exact h,by rw[hw];exact Only.refl _ _⟩
 exact(dx R ad len cap n w h cq cq).mono fun e w' ⟨⟨x,he,h0,h3⟩,hR,hO⟩=>⟨⟨x.toNat,by rw[he,Int.toNat_of_nonneg h0],cq⟩,hR,hO⟩
def uh(w:World)(R g n m:Nat):Prop:=g≠R/\g<w.heap.size/\∀o,o<n->∃s:ByteArray,w.cell? ⟨g,o,none⟩=some (.string s)/\s.size<=m
def uh.only{w w':af}{R g n m:Nat}(h:uh w R g n m)(k:Only R w w'):uh w' R g n m :=
 ⟨h.1,WJ h.2.1 k.size,fun o ho=>by obtain⟨s,e,hs⟩:=h.2.2 o ho;exact⟨s,by rw[k.cell h.2.1 h.1];exact e,hs⟩⟩
def jB(w:af)(R m:Nat)(hR:cU R w){t:TypeId}{xs:List ByteArray}(h:xs.all (fun x=>decide (x.size<=m))=true):uh (w.alloc<|.cells (xs.map Value.string).toArray t) R w.heap.size xs.length m:=by
 refine⟨cq,ct,fun o ho=>⟨xs[o],?_,?_⟩⟩
 ·have:=World.cell?_alloc_mark w (xs.map Value.string).toArray t (0,0) o;rw[this];simp[ho]
 have:=WT.1 h _<|WH ho;simpa using this
def tB:Nat->Nat
 | 0=>14
 | d+1=>3*tB d+8
def ut(R:Nat)(ad:Q02)(len cap:Nat)(d:Int)(w:af)(h:Rd w R ad len cap):
  Calls prog 238 #[.pointer (some<|am R),.int .i64 d,.bool true] w fun e w'=>(∃t:ByteArray,e=.returned (.string t)/\t.size<=24)/\Rd w' R ad len cap/\Only R w w':=by
 have hRw:=h.lt;have HRD:=jI h;obtain⟨xs,hxs⟩:∃xs:List ByteArray,xs=[⟨#[116,104,105,115,40,117,115,101,114,41]⟩,⟨#[116,104,105,115,40,117,115,101,114,44,103,114,111,117,112,35,109,101,109,98,101,114,41]⟩,⟨#[116,104,105,115,40,117,115,101,114,44,100,111,99,35,101,100,105,116,111,114,41]⟩]:=⟨_,rfl⟩;obtain⟨W0,hW0⟩:=eQx<|w.alloc<|.cells (xs.map Value.string).toArray 9;have HS0:O (uh W0 R w.heap.size 3 24):=by
  show uh _ _ _ _ _;rw[hW0];have:=jB w R 24 hRw (t:=9) (xs:=xs) (by rw[hxs];decide);rwa [show xs.length=3 by rw[hxs];rfl]at this
 have Y7:O (Rd W0 R ad len cap):=by show Rd _ _ _ _ _;rw[hW0];exact h.alloc _
 have ZV:O (Only R w W0):=by show Only _ _ _;rw[hW0];exact(Only.refl _ _).alloc _
 have hW1:W0=w.alloc (.cells #[.string ⟨#[116,104,105,115,40,117,115,101,114,41]⟩,.string ⟨#[116,104,105,115,40,117,115,101,114,44,103,114,111,117,112,35,109,101,109,98,101,114,41]⟩,.string ⟨#[116,104,105,115,40,117,115,101,114,44,100,111,99,35,101,100,105,116,111,114,41]⟩] 9):=by rw[hW0,hxs];rfl
 clear h hW0 hxs;go_enter func238,ntmps238;go_wp2_with fail;rw[<-hW1];clear hW1;refine(fw R ad len cap 3 _ Y7 cq cq).mono ?_;rintro e w1 ⟨⟨x,rfl,hx⟩,YD,YL⟩;obtain⟨-,hlt,hcells⟩:=HS0.only YL;obtain⟨t,ht,hts⟩:=hcells x hx;have HR1:=jI YD;have Yu:O (Only R w w1):=ZV.trans YL;have hx0:=bY x;have hx1:(x:Int)<3:=cq;clear YD YL hcells HS0 Y7 ZV;go_wp2;go_ret;exact⟨⟨t,rfl,hts⟩,HR1,Yu⟩
def FV(R:Nat)(ad:Q02)(len cap:Nat):∀(d:Nat) (w:af),d<=2->Rd w R ad len cap ->
  Calls prog 238 #[.pointer (some<|am R),.int .i64 (d:Int),.bool false] w fun e w'=>(∃t:ByteArray,e=.returned (.string t)/\t.size<=tB d)/\Rd w' R ad len cap/\Only R w w':=by
 intro d
 induction d with
 | zero =>
  intro w _ h;have hRw:=h.lt;have hz:(0:Nat)<=256:=cq;obtain⟨xs,hxs⟩:∃xs:List ByteArray,xs=[⟨#[101,100,105,116,111,114]⟩,⟨#[118,105,101,119,101,114]⟩,⟨#[98,97,110,110,101,100]⟩,⟨#[112,97,114,101,110,116,45,62,118,105,101,119,101,114]⟩,⟨#[112,97,114,101,110,116,45,62,101,100,105,116,111,114]⟩,⟨#[111,119,110,101,114]⟩,⟨#[112,97,114,101,110,116,45,62,111,119,110,101,114]⟩]:=⟨_,rfl⟩;obtain⟨W0,hW0⟩:=eQx<|w.alloc<|.cells (xs.map Value.string).toArray 9;have HS0:O (uh W0 R w.heap.size 7 14):=by
   show uh _ _ _ _ _;rw[hW0];have:=jB w R 14 hRw (t:=9) (xs:=xs) (by rw[hxs];decide);rwa [show xs.length=7 by rw[hxs];rfl]at this
  have Y7:O (Rd W0 R ad len cap):=by show Rd _ _ _ _ _;rw[hW0];exact h.alloc _
  have ZV:O (Only R w W0):=by show Only _ _ _;rw[hW0];exact(Only.refl _ _).alloc _
  have hW1:W0=w.alloc (.cells #[.string ⟨#[101,100,105,116,111,114]⟩,.string ⟨#[118,105,101,119,101,114]⟩,.string ⟨#[98,97,110,110,101,100]⟩,.string ⟨#[112,97,114,101,110,116,45,62,118,105,101,119,101,114]⟩,.string ⟨#[112,97,114,101,110,116,45,62,101,100,105,116,111,114]⟩,.string ⟨#[111,119,110,101,114]⟩,.string ⟨#[112,97,114,101,110,116,45,62,111,119,110,101,114]⟩] 9):=by rw[hW0,hxs];rfl
  clear h hW0 hxs;go_enter func238,ntmps238;go_wp2_with fail;rw[<-hW1];clear hW1;refine(fw R ad len cap 7 _ Y7 cq cq).mono ?_;rintro e w1 ⟨⟨x,rfl,hx⟩,YD,YL⟩;obtain⟨-,hlt,hcells⟩:=HS0.only YL;obtain⟨t,ht,hts⟩:=hcells x hx;have HR1:=jI YD;have Yu:O (Only R w w1):=ZV.trans YL;have hx0:=bY x;have hx1:(x:Int)<7:=cq;clear YD YL hcells HS0 Y7 ZV;go_wp2;go_ret;exact⟨⟨t,rfl,hts⟩,HR1,Yu⟩
 | succ d ih =>
  intro w hd h;have hRw:=h.lt;have IH:=jI ih;have hd0:(((d+1:Nat):Int)==0)=false:=by simp;omega
  have hdm:((d+1:Nat):Int)-1=(d:Int):=cq;have HTB:O (tB (d+1)=3*tB d+8):=rfl;have hb0:tB d<=82:=by
   have:d=0\/d=1:=cq;rcases this with rfl|rfl<;>decide
  obtain⟨bd,hbd⟩:=eQx<|tB d;rw[<-hbd]at hb0 HTB;have ZW:=jI hbd;clear ih hbd;go_enter func238,ntmps238;go_wp2_with fail;refine(ko R ad len cap 2 _ h cq cq).mono ?_;rintro e w1 ⟨⟨q,rfl⟩,YD,YL⟩;have HR1:=jI YD;have Yu:=jI YL;have hRw1:cU R w1:=YD.lt;clear YD YL h;cases q;case true=>
   obtain⟨xs,hxs⟩:∃xs:List ByteArray,xs=[⟨#[101,100,105,116,111,114]⟩,⟨#[118,105,101,119,101,114]⟩,⟨#[98,97,110,110,101,100]⟩,⟨#[112,97,114,101,110,116,45,62,118,105,101,119,101,114]⟩,⟨#[112,97,114,101,110,116,45,62,101,100,105,116,111,114]⟩,⟨#[111,119,110,101,114]⟩,⟨#[112,97,114,101,110,116,45,62,111,119,110,101,114]⟩]:=⟨_,rfl⟩;obtain⟨W0,hW0⟩:=eQx<|w1.alloc<|.cells (xs.map Value.string).toArray 9;have HS0:O (uh W0 R w1.heap.size 7 14):=by
    show uh _ _ _ _ _;rw[hW0];have:=jB w1 R 14 hRw1 (t:=9) (xs:=xs) (by rw[hxs];decide);rwa [show xs.length=7 by rw[hxs];rfl]at this
   have Y7:O (Rd W0 R ad len cap):=by show Rd _ _ _ _ _;rw[hW0];exact HR1.alloc _
   have ZV:O (Only R w W0):=by show Only _ _ _;rw[hW0];exact Yu.alloc _
   have hW1:W0=w1.alloc (.cells #[.string ⟨#[101,100,105,116,111,114]⟩,.string ⟨#[118,105,101,119,101,114]⟩,.string ⟨#[98,97,110,110,101,100]⟩,.string ⟨#[112,97,114,101,110,116,45,62,118,105,101,119,101,114]⟩,.string ⟨#[112,97,114,101,110,116,45,62,101,100,105,116,111,114]⟩,.string ⟨#[111,119,110,101,114]⟩,.string ⟨#[112,97,114,101,110,116,45,62,111,119,110,101,114]⟩] 9):=by rw[hW0,hxs];rfl
   clear hW0 hxs HR1 Yu;go_wp2_with fail;rw[<-hW1];clear hW1;refine(fw R ad len cap 7 _ Y7 cq cq).mono ?_;rintro e w2 ⟨⟨x,rfl,hx⟩,hR2,hO2⟩;obtain⟨-,hlt,hcells⟩:=HS0.only hO2;obtain⟨t,ht,hts⟩:=hcells x hx;have HR2:=jI hR2;have Yk:O (Only R w w2):=ZV.trans hO2;have hx0:=bY x;have hx1:(x:Int)<7:=cq;have hfin:t.size<=tB (d+1):=by rw[HTB,ZW];cases d<;>simp[tB]<;>omega
   have Yw:=jI hfin;clear hR2 hO2 hcells HS0 Y7 ZV hfin;go_wp2;go_ret;exact⟨⟨t,rfl,Yw⟩,HR2,Yk⟩
  obtain⟨xs,hxs⟩:∃xs:List ByteArray,xs=[⟨#[32,124,32]⟩,⟨#[32,38,32]⟩,⟨#[32,45,32]⟩,⟨#[32,124,32]⟩]:=⟨_,rfl⟩;obtain⟨W0,hW0⟩:=eQx<|w1.alloc<|.cells (xs.map Value.string).toArray 9;have HS0:O (uh W0 R w1.heap.size 4 3):=by
   show uh _ _ _ _ _;rw[hW0];have:=jB w1 R 3 hRw1 (t:=9) (xs:=xs) (by rw[hxs];decide);rwa [show xs.length=4 by rw[hxs];rfl]at this
  have Y7:O (Rd W0 R ad len cap):=by show Rd _ _ _ _ _;rw[hW0];exact HR1.alloc _
  have ZV:O (Only R w W0):=by show Only _ _ _;rw[hW0];exact Yu.alloc _
  have hW1:W0=w1.alloc (.cells #[.string ⟨#[32,124,32]⟩,.string ⟨#[32,38,32]⟩,.string ⟨#[32,45,32]⟩,.string ⟨#[32,124,32]⟩] 9):=by rw[hW0,hxs];rfl
  clear hW0 hxs HR1 Yu;go_wp2_with fail;rw[<-hW1];clear hW1;refine(fw R ad len cap 4 _ Y7 cq cq).mono ?_;rintro e w2 ⟨⟨x,rfl,hx⟩,hR2,hO2⟩;obtain⟨-,hlt,hcells⟩:=HS0.only hO2;obtain⟨op,hop,hops⟩:=hcells x hx;have HR2:=jI hR2;have Yk:O (Only R w w2):=ZV.trans hO2;have hx0:=bY x;have hx1:(x:Int)<4:=cq;clear hR2 hO2 hcells HS0 Y7 ZV;go_wp2_with fail;refine(IH w2 cq HR2).mono ?_;rintro e w3 ⟨⟨t1,rfl,ht1⟩,hR3,hO3⟩;rw[<-ZW]at ht1;have HR3:=jI hR3;have YK:O (Only R w w3):=Yk.trans hO3;clear hR3 hO3 HR2 Yk hop hlt;go_wp2_with fail;refine(IH w3 cq HR3).mono ?_;rintro e w4 ⟨⟨t2,rfl,ht2⟩,ZI,hO4⟩;rw[<-ZW]at ht2;have HR4:=jI ZI;have YG:O (Only R w w4):=YK.trans hO4;clear ZI hO4 HR3 YK;have e1:(⟨#[40]⟩:ByteArray).size=1:=rfl;have e2:(⟨#[41]⟩:ByteArray).size=1:=rfl;cases hm:op.toList==[32,45,32];case true=>
   have hm2:(!op.toList==[32,45,32])=false:=by rw[hm];rfl
   have Yw:O ((((((⟨#[40]⟩:ByteArray)++t1)++op)++t2)++⟨#[41]⟩).size<=tB (d+1)):=by show _<=_;rw[HTB];simp only[WY,e1,e2];omega
   go_wp2_with fail;go_ret;exact⟨⟨_,rfl,Yw⟩,HR4,YG⟩
  have hm2:(!op.toList==[32,45,32])=true:=by rw[hm];rfl
  go_wp2_with fail;refine(ko R ad len cap 3 _ HR4 cq cq).mono ?_;rintro e w5 ⟨⟨q,rfl⟩,Ym,YA⟩;have Yz:=jI Ym;have Yi:O (Only R w w5):=YG.trans YA;clear Ym YA HR4 YG;cases q;case false=>
   have Yw:O ((((((⟨#[40]⟩:ByteArray)++t1)++op)++t2)++⟨#[41]⟩).size<=tB (d+1)):=by show _<=_;rw[HTB];simp only[WY,e1,e2];omega
   go_wp2_with fail;go_ret;exact⟨⟨_,rfl,Yw⟩,Yz,Yi⟩
  go_wp2_with fail;refine(IH w5 cq Yz).mono ?_;rintro e w6 ⟨⟨t3,rfl,ht3⟩,hR6,hO6⟩;rw[<-ZW]at ht3;have Za:=jI hR6;have Zt:O (Only R w w6):=Yi.trans hO6;clear hR6 hO6 Yz Yi;have Yw:O ((((((((⟨#[40]⟩:ByteArray)++t1)++op)++t2)++op)++t3)++⟨#[41]⟩).size<=tB (d+1)):=by show _<=_;rw[HTB];simp only[WY,e1,e2];omega
  go_wp2_with fail;go_ret;exact⟨⟨_,rfl,Yw⟩,Za,Zt⟩
def Hz(R:Nat)(ad:Q02)(len cap d:Nat)(w:af)(hd:d<=2)(h:Rd w R ad len cap):
  Calls prog 168 #[.pointer (some<|am R),.int .i64 (d:Int)] w fun e w'=>(∃t:ByteArray,e=.returned (.string t)/\t.size<=190)/\Rd w' R ad len cap/\Only R w w':=by
 have hRw:=h.lt;have hb0:tB d<=158:=by
  have:d=0\/d=1\/d=2:=cq;rcases this with rfl|rfl|rfl<;>decide
 obtain⟨xs,hxs⟩:∃xs:List ByteArray,xs=[⟨#[32,124,32]⟩,⟨#[32,38,32]⟩,⟨#[32,45,32]⟩,⟨#[32,124,32]⟩]:=⟨_,rfl⟩;obtain⟨W0,hW0⟩:=eQx<|w.alloc<|.cells (xs.map Value.string).toArray 9;have HS0:O (uh W0 R w.heap.size 4 3):=by
  show uh _ _ _ _ _;rw[hW0];have:=jB w R 3 hRw (t:=9) (xs:=xs) (by rw[hxs];decide);rwa [show xs.length=4 by rw[hxs];rfl]at this
 have Y7:O (Rd W0 R ad len cap):=by show Rd _ _ _ _ _;rw[hW0];exact h.alloc _
 have ZV:O (Only R w W0):=by show Only _ _ _;rw[hW0];exact(Only.refl _ _).alloc _
 have hW1:W0=w.alloc (.cells #[.string ⟨#[32,124,32]⟩,.string ⟨#[32,38,32]⟩,.string ⟨#[32,45,32]⟩,.string ⟨#[32,124,32]⟩] 9):=by rw[hW0,hxs];rfl
 clear h hW0 hxs;go_enter func168,ntmps168;go_wp2_with fail;rw[<-hW1];clear hW1;refine(fw R ad len cap 4 _ Y7 cq cq).mono ?_;rintro e w2 ⟨⟨x,rfl,hx⟩,hR2,hO2⟩;obtain⟨-,hlt,hcells⟩:=HS0.only hO2;obtain⟨op,hop,hops⟩:=hcells x hx;have HR2:=jI hR2;have Yk:O (Only R w w2):=ZV.trans hO2;have hx0:=bY x;have hx1:(x:Int)<4:=cq;clear hR2 hO2 hcells HS0 Y7 ZV;go_wp2_with fail;refine(ko R ad len cap 3 _ HR2 cq cq).mono ?_;rintro e w3 ⟨⟨q,rfl⟩,hR3,hO3⟩;have HR3:=jI hR3;have YK:O (Only R w w3):=Yk.trans hO3;clear hR3 hO3 HR2 Yk hop hlt;cases q;case true=>
  go_wp2_with fail;refine(ut R ad len cap 0 _ HR3).mono ?_;rintro e w4 ⟨⟨t1,rfl,ht1⟩,ZI,hO4⟩;have HR4:=jI ZI;have YG:O (Only R w w4):=YK.trans hO4;clear ZI hO4;go_wp2;go_ret;exact⟨⟨t1,rfl,cq⟩,HR4,YG⟩
 go_wp2_with fail;refine(ut R ad len cap 0 _ HR3).mono ?_;rintro e w4 ⟨⟨t1,rfl,ht1⟩,ZI,hO4⟩;have HR4:=jI ZI;have YG:O (Only R w w4):=YK.trans hO4;clear ZI hO4;go_wp2_with fail;refine(FV R ad len cap d _ hd HR4).mono ?_;rintro e w5 ⟨⟨t2,rfl,ht2⟩,Ym,YA⟩;have Yz:=jI Ym;have Yi:O (Only R w w5):=YG.trans YA;have hf:t2.size<=158:=cq;have Yw:O (((t1++op)++t2).size<=190):=by show _<=_;simp only[WY];omega
 clear Ym YA ht2 hb0;go_wp2;go_ret;exact⟨⟨_,rfl,Yw⟩,Yz,Yi⟩
def rH(R:Nat)(ad:Q02)(len cap d:Nat)(w:af)(hd:d<=2)(h:Rd w R ad len cap):
  Calls prog 168 #[.pointer (some<|am R),.int .i64 (d:Int)] w fun e w'=>(∃t:ByteArray,e=.returned (.string t)/\t.size<=300)/\Rd w' R ad len cap/\Only R w w' :=
 (Hz R ad len cap d w hd h).mono fun e w' ⟨⟨t,h1,h2⟩,h3⟩=>⟨⟨t,h1,cq⟩,h3⟩
def FW(R:Nat)(ad:Q02)(len cap:Nat)(w:af)(h:Rd w R ad len cap):
  Calls prog 290 #[.pointer (some<|am R)] w fun e w'=>(∃x:Int,e=.returned (.int .u64 x))/\Rd w' R ad len cap/\Only R w w':=by
 have H:=aB h;clear h;go_enter func290,ntmps290;go_wp2;go_loopw[3,4] (fun v i wr=>∃(x:Int) (k:Nat),v=.int .u64 x/\i=.int .i64 (k:Int)/\k<=8/\O (Rd wr R ad len cap)/\O (Only R w wr)) (fun _ i _=>8-(intOf i).toNat);case atStart=>exact⟨0,0,rfl,rfl,cq,H,Only.refl _ _⟩
 obtain⟨x,k,rfl,rfl,hk,HR,HO⟩:=hrel;by_cases hlt:k<8
 ·have hk1:(k:Int)<8:=cq;go_wp2_with fail;refine(Hy R ad len cap _ HR).mono ?_;rintro e w1 ⟨⟨y,rfl,hy0,hy1⟩,YD,YL⟩;have HR1:=aB YD;have Yu:O (Only R w w1):=HO.trans YL;clear YD YL;go_wp2;go_roundw;case rel=>exact⟨_,k+1,rfl,cx,cq,HR1,Yu⟩
  simp[intOf]<;>omega
 have hk1:¬(k:Int)<8:=cq;go_wp2;go_ret;exact⟨⟨x,rfl⟩,HR,HO⟩
def QA(R:Nat)(ad:Q02)(len cap:Nat)(lo hi:Int)(w:af)(h:Rd w R ad len cap)(h0:0<=lo)(h1:lo<=hi)(h2:hi<=1000):
  Calls prog 239 #[.pointer (some<|am R),.int .i64 lo,.int .i64 hi] w fun e w'=>(∃x:Int,e=.returned (.int .i64 x))/\Rd w' R ad len cap/\Only R w w':=by
 have H:=jI h;have hw1:IntKind.i64.wrap (hi-lo)=hi-lo:=by rw[IntKind.wrap_i64]<;>omega
 have hw2:IntKind.i64.wrap (hi-lo+1)=hi-lo+1:=by rw[IntKind.wrap_i64]<;>omega
 have hw3:IntKind.u64.wrap (hi-lo+1)=hi-lo+1:=by rw[IntKind.wrap_u64]<;>omega
 have hlt:¬hi<lo:=cq;have hz:¬hi-lo+1=0:=cq;clear h h0 h1 h2;go_enter func239,ntmps239;go_wp2_with fail;refine(fw R ad len cap 8 _ H cq cq).mono ?_;rintro e w1 ⟨⟨x,rfl,hx⟩,YD,YL⟩;have HR1:=jI YD;have Yu:=jI YL;clear YD YL;by_cases h0:x=0
 ·subst h0;go_wp2;go_ret;exact⟨⟨_,rfl⟩,HR1,Yu⟩
 have h00:((x:Int)==0)=false:=by simp;omega
 by_cases h1:x=1
 ·subst h1;go_wp2;go_ret;exact⟨⟨_,rfl⟩,HR1,Yu⟩
 have h11:((x:Int)==1)=false:=by simp;omega
 go_wp2_with fail;refine(FW R ad len cap _ HR1).mono ?_;rintro e w2 ⟨⟨y,rfl⟩,hR2,hO2⟩;have HR2:=jI hR2;have Yk:O (Only R w w2):=Yu.trans hO2;clear hR2 hO2;go_wp2;go_ret;exact⟨⟨_,rfl⟩,HR2,Yk⟩
def Tv(R:Nat)(ad:Q02)(len cap:Nat)(lo hi:Int)(w:af)(h:Rd w R ad len cap)(h0:0<=lo)(h1:lo<=hi)(h2:hi<=1000):
  Calls prog 169 #[.pointer (some<|am R),.int .i64 lo,.int .i64 hi] w fun e w'=>(∃x:Int,e=.returned (.int .i64 x))/\Rd w' R ad len cap/\Only R w w':=by
 have H:=jI h;clear h;go_enter func169,ntmps169;go_wp2_with fail;refine(ko R ad len cap 24 _ H cq cq).mono ?_;rintro e w1 ⟨⟨q,rfl⟩,YD,YL⟩;have HR1:=jI YD;have Yu:=jI YL;have hRw:=YD.lt;clear YD YL;cases q;case false=>
  go_wp2_with fail;refine(QA R ad len cap lo hi _ HR1 h0 h1 h2).mono ?_;rintro e w2 ⟨⟨y,rfl⟩,hR2,hO2⟩;have HR2:=jI hR2;have Yk:O (Only R w w2):=Yu.trans hO2;clear hR2 hO2;go_wp2;go_ret;exact⟨⟨_,rfl⟩,HR2,Yk⟩
 have hw1:IntKind.i64.wrap (lo-1)=lo-1:=by rw[IntKind.wrap_i64]<;>omega
 have hw2:IntKind.i64.wrap (hi+1)=hi+1:=by rw[IntKind.wrap_i64]<;>omega
 obtain⟨W0,hW0⟩:=eQx<|w1.alloc<|.cells #[.int .i64 (lo-1),.int .i64<|hi+1,.int .i64<|-9223372036854775808,.int .i64 9223372036854775807] 2;have Y7:O (Rd W0 R ad len cap):=by show Rd _ _ _ _ _;rw[hW0];exact HR1.alloc _
 have ZV:O (Only R w W0):=by show Only _ _ _;rw[hW0];exact Yu.alloc _
 have Zb:O (w1.heap.size<W0.heap.size/\∀o,o<4->∃z:Int,W0.cell? (a8 w1 o)=some (.int .i64 z)):=by
  show _/\_;rw[hW0];refine⟨ct,fun o ho=>?_⟩;have:o=0\/o=1\/o=2\/o=3:=cq
  rcases this with rfl|rfl|rfl|rfl<;>exact⟨_,by simp;rfl⟩
 go_wp2_with fail;rw[<-hW0];clear hW0;refine(fw R ad len cap 4 _ Y7 cq cq).mono ?_;rintro e w2 ⟨⟨x,rfl,hx⟩,hR2,hO2⟩;obtain⟨z,hz⟩:=Zb.2 x hx;have hz2:w2.cell? (a8 w1 x)=some (.int .i64 z):=by rw[hO2.cell Zb.1 cq];exact hz
 have HR2:=jI hR2;have Yk:O (Only R w w2):=ZV.trans hO2;have hx0:=bY x;have hx1:(x:Int)<4:=cq;clear hR2 hO2 hz Zb Y7 ZV;go_wp2;go_ret;exact⟨⟨z,rfl⟩,HR2,Yk⟩
open Maps
def RR.sl(q:RR):Value:=.slice q.ad q.rows.length q.cap
def lX(t:ByteArray)(M:ByteArray×ByteArray->Option Value):List RR->ByteArray×ByteArray->Option Value
 | []=>M
 | q::qs=>lX t (l6 M (t,q.name)<|some q.sl) qs
def fG(M:ByteArray×ByteArray->Option Value):List TR->ByteArray×ByteArray->Option Value
 | []=>M
 | t::ts=>fG (lX t.name M t.rows) ts
def lN(rs:Q06):ByteArray×ByteArray->Option Value:=fG (fun _=>none) rs
def FX(t:bN)(M:ByteArray×ByteArray->Option Value)(xs ys:Q07):lX t M (xs++ys)=lX t (lX t M xs) ys:=by
 induction xs generalizing M with
 | nil=>rfl
 | cons q qs ih=>simp only[XB,lX];exact ih _
def Bl(M:ByteArray×ByteArray->Option Value)(xs ys:Q06):fG M (xs++ys)=fG (fG M xs) ys:=by
 induction xs generalizing M with
 | nil=>rfl
 | cons q qs ih=>simp only[XB,fG];exact ih _
def Kv(t:bN)(M:ByteArray×ByteArray->Option Value)(qs:Q07)(j:Nat)(h:j<qs.length):lX t M (qs.take<|j+1)=l6 (lX t M<|qs.take j) (t,qs[j].name) (some qs[j].sl):=by
 rw[WN h,FX];rfl
def FY(M:ByteArray×ByteArray->Option Value)(rs:Q06)(k:Nat)(h:k<rs.length):fG M (rs.take<|k+1)=lX rs[k].name (fG M<|rs.take k) rs[k].rows:=by
 rw[WN h,Bl];rfl
set_option maxRecDepth 100000 in
def lq(ad:Q02)(cap:Nat)(rs:Q06)(w:af)(hlen:rs.length<=6)(hs:jX w ad rs)(hrl:∀r∈rs,r.rows.length<=6)(hf:∀r∈rs,r.fits):
  Calls prog 63 #[.slice ad rs.length cap] w fun e w'=>e=.returned (.map<|some w.heap.size)/\aN dE prog 146 w' w.heap.size 36 (lN rs)/\ag w w':=by
 have HS:=aB hs;have HRL:O (∀r∈rs,r.rows.length<=6):=hrl;have Yc:=aB hf;have HM0:O (aN dE prog 146 (w.alloc<|.map #[] 0) w.heap.size 0 fun _=>none):=oM _ _ _ w;have HB0:O (ag w<|w.alloc<|.map #[] 0):=(WL _ _).alloc (WK _) _;clear hs hrl hf;have hmm:=@run_makeMap prog;go_enter func63,ntmps63;go_wp2_with fail;go_loopw[11] (fun i wr=>∃k:Nat,k<=rs.length/\i=.int .i64 k/\O (aN dE prog 146 wr w.heap.size (k*6)<|fG (fun _=>none) (rs.take k))/\O (ag w wr)) (fun i _=>rs.length-(intOf i).toNat);case atStart=>exact⟨0,WO _,rfl,HM0,HB0⟩
 clear HM0 HB0 hmm;obtain⟨k,hk,rfl,HM,HB⟩:=hrel;by_cases hlt:k<rs.length
 ·rcases HS.out.below HB.out with rfl|⟨b,off,rfl,hb,hr,hok⟩
  ·simp at hlt
  obtain⟨t0,t1⟩:=hr k hlt;have hk1:=bY k;have hk2:(k:Int)<(rs.length:Int):=cq;have h6:rs[k].rows.length<=6:=HRL _<|WH hlt;have z0:rs[k].name.size<=maxLen:=(Yc _<|WH hlt).1;have ZJ:O (∀q∈rs[k].rows,q.fits):=(Yc _<|WH hlt).2.2;clear hr hok;obtain⟨W1,hW1⟩:=eQx<|wr.alloc<|.cells #[.string rs[k].name,.slice rs[k].ad rs[k].rows.length rs[k].cap] 36;have hal:ag wr W1:=by rw[hW1];exact(WL _ _).alloc (WK _) _
  have HM1:O (aN dE prog 146 W1 w.heap.size (k*6)<|fG (fun _=>none) (rs.take k)):=HM.below hal;have HB1:=iD HB hal;have YH:O (wr.heap.size<W1.heap.size/\W1.cell? ⟨wr.heap.size,0,none⟩=some (.string rs[k].name)):=⟨by rw[hW1];simp,by rw[hW1];simp⟩;have hgw:w.heap.size<wr.heap.size:=HM.lt;clear HM hal;go_wp2_with fail;rw[<-hW1];clear hW1 t0 t1 HB;obtain⟨wo,hwo⟩:=eQx wr;subst hwo;go_loopw[18] (fun i w2=>∃j:Nat,j<=rs[k].rows.length/\i=.int .i64 j/\O (aN dE prog 146 w2 w.heap.size (k*6+j)<|lX rs[k].name (fG (fun _=>none) (rs.take k)) (rs[k].rows.take j))/\O (ag w w2)/\O (wo.heap.size<w2.heap.size/\w2.cell? ⟨wo.heap.size,0,none⟩=some (.string rs[k].name))) (fun i _=>rs[k].rows.length-(intOf i).toNat);case atStart=>exact⟨0,WO _,rfl,HM1,HB1,YH⟩
  clear HM1 HB1 YH;obtain⟨j,hj,rfl,HM,HB,HC⟩:=hrel;by_cases hjl:j<rs[k].rows.length
  ·rcases HS.out.below HB.out with hnil|⟨b',off',he,hb2,hr,hok⟩
   ·rw[hnil]at hlt;simp at hlt
   injection he with he;injection he with he1 he2;subst he1;subst he2;have ok:=hok rs[k]<|WH hlt;rcases ok with hnil|⟨b2,X7,had,hbb,hr2,-⟩
   ·rw[hnil]at hjl;simp at hjl
   obtain⟨q0,q1⟩:=hr2 j hjl;have z1:rs[k].rows[j].name.size<=maxLen:=(ZJ _<|WH hjl).1;have hj1:=bY j;have hj2:(j:Int)<(rs[k].rows.length:Int):=cq;obtain⟨kl,hkl⟩:=j3 (rs[k].name,rs[k].rows[j].name) z0 z1;have YU:O (keyOf prog 146 (dE (rs[k].name,rs[k].rows[j].name))=some kl):=hkl;obtain⟨W2,hW2⟩:=eQx<|wr.alloc<|.cells #[.string rs[k].rows[j].name,.slice rs[k].rows[j].ad rs[k].rows[j].rows.length rs[k].rows[j].cap] 39;have hal:ag wr W2:=by rw[hW2];exact(WL _ _).alloc (WK _) _
   have YQ:O (aN dE prog 146 W2 w.heap.size (k*6+j)<|lX rs[k].name (fG (fun _=>none) (rs.take k)) (rs[k].rows.take j)):=HM.below hal;have HB2:=iD HB hal;have hc1:=aD hal HC.1 HC.2;have Yr:O (wo.heap.size<W2.heap.size/\W2.cell? ⟨wo.heap.size,0,none⟩=some (.string rs[k].name)):=⟨WJ HC.1 hal.size,hc1⟩;have g0:W2.cell? ⟨wr.heap.size,0,none⟩=some (.string rs[k].rows[j].name):=by rw[hW2];simp
   have g1:W2.cell? ⟨wr.heap.size,1,none⟩=some (.slice rs[k].rows[j].ad rs[k].rows[j].rows.length rs[k].rows[j].cap):=by rw[hW2];simp
   have hsz:wo.heap.size<wr.heap.size:=HC.1;have hc0:=HC.2;rw[had];clear hr hok hr2 hkl HM hal HC;go_wp2_with(first|(at_mapUpdate;rw[<-hW2];refine oD _ rfl _ _ _ 102 rfl 146 37 jl vV underlying102 w.heap.size (k*6+j) _ rfl YQ cy (rs[k].name,rs[k].rows[j].name) kl rfl YU _ rfl ?_;intro w3 hV3 hg3)|go_in);have HM4:O (aN dE prog 146 w3 w.heap.size (k*6+(j+1))<|lX rs[k].name (fG (fun _=>none) (rs.take k)) (rs[k].rows.take<|j+1)):=by
    show aN _ _ _ _ _ _ _;rw[Kv _ _ _ _ hjl];exact hV3
   have YF:O (ag w w3):=HB2.grown hg3 HB2.size (fun i hi=>by injection hi with hi;omega);have HC4:O (wo.heap.size<w3.heap.size/\w3.cell? ⟨wo.heap.size,0,none⟩=some (.string rs[k].name)):=⟨WJ Yr.1 hg3.size,by rw[hg3.cell_far _ Yr.1 (by simp;omega)];exact Yr.2⟩;clear hV3 hg3 hW2 YQ HB2 Yr g0 g1 q0 q1 hc0 hc1;go_wp2;go_roundw;case rel=>exact⟨j+1,cq,cx,HM4,YF,HC4⟩
   simp[intOf]<;>omega
  obtain rfl:j=rs[k].rows.length:=cq;have HM4:O (aN dE prog 146 wr w.heap.size ((k+1)*6)<|fG (fun _=>none) (rs.take<|k+1)):=by
   show aN _ _ _ _ _ _ _;have:=HM.out;rw[Xa]at this;rw[FY _ _ _ hlt];exact this.mono cq
  clear HM;go_wp2;go_roundw;case rel=>exact⟨k+1,cq,cx,HM4,HB⟩
  simp[intOf]<;>omega
 obtain rfl:k=rs.length:=cq;have HM4:O (aN dE prog 146 wr w.heap.size 36<|lN rs):=by
  show aN _ _ _ _ _ _ _;have:=HM.out;rw[Xa]at this;exact this.mono cq
 go_wp2;go_ret;exact⟨rfl,HM4,HB⟩
def UQ:∀x:List UInt8,Op.bytesLess x x=false
 | []=>rfl
 | a::x=>by simp[Op.bytesLess,UQ x]
def UR:∀x y z:List UInt8,Op.bytesLess x y=true->Op.bytesLess y z=true->Op.bytesLess x z=true
 | [],_,[],h,k=>by cases ‹List UInt8› <;> simp [Op.bytesLess] at h k
 | [],_,_::_,_,_=>rfl
 | _::_,[],_,h,_=>by simp[Op.bytesLess]at h
 | _::_,_::_,[],_,k=>by simp[Op.bytesLess]at k
 | a::x,b::y,c::z,h,k=>by
  simp only[Op.bytesLess,Bool.or_eq_true,WM,WW,beq_iff_eq]at h k ⊢;rcases h with h|⟨h,h'⟩
  ·rcases k with k|⟨k,k'⟩
   ·exact .inl<|UInt8.lt_trans h k
   exact .inl<|k ▸ h
  rcases k with k|⟨k,k'⟩
  ·exact .inl<|h ▸ k
  exact .inr ⟨h.trans k,UR x y z h' k'⟩
def Eg{f:Nat->ByteArray}{n:Nat}(h:∀i,i+1<n->jN (f i) (f<|i+1)=true):∀i j,i<j->j<n->f i≠f j:=by
 have h2:∀d i,i+d+1<n->jN (f i) (f<|i+d+1)=true:=by
  intro d
  induction d with
  | zero=>intro i hi;exact h i cq
  | succ d ih =>
   intro i hi;have h3:=ih i cq;have h4:=h (i+d+1) cq;exact UR _ _ _ h3 h4
 intro i j hij hj e;have h5:=h2 (j-i-1) i cq;have e2:i+(j-i-1)+1=j:=cq;rw[e2,e]at h5;unfold jN at h5;rw[UQ]at h5;cases h5
def mq{rs:Q06}(h:bB (ae rs)=true)(k:Nat)(hk:k<rs.length):aS rs[k].name=true/\(∀i (hi:i<rs.length),k=i+1->jN rs[i].name rs[k].name=true)/\dN (df rs[k].rows) rs[k].rows.length=true:=by
 simp only[bB,WM,WW]at h;rw[bz]at h;have h1:=qg h.2 k hk;unfold ll at h1;have e:(ae rs)[k]?=some rs[k].p:=by simp[ae,hk]
 rw[e]at h1;simp only[WM,WW]at h1;have e2:rs[k].p.rels.length=rs[k].rows.length:=by simp[TR.p,df]
 rw[e2]at h1;refine⟨h1.1.1.1,fun i hi hki=>?_,h1.2⟩;subst hki;have h2:=h1.1.1.2;have e3:(ae rs)[i]?=some rs[i].p:=by simp[ae,hi]
 simp only[e3,Option.map_some,XF]at h2;exact h2
def Eh{rs:Q07}{n:Nat}(h:dN (df rs) n=true)(k:Nat)(hk:k<rs.length)(hn:k<n):aS rs[k].name=true/\(∀i (hi:i<rs.length),k=i+1->jN rs[i].name rs[k].name=true)/\aK (ai rs[k].rows)=true:=by
 have h1:=qd h k hn;unfold mR at h1;have e:(df rs)[k]?=some rs[k].p:=by simp[df,hk]
 rw[e]at h1;simp only[WM]at h1;refine⟨h1.1.1,fun i hi hki=>?_,h1.2⟩;subst hki;have h2:=h1.1.2;have e3:(df rs)[i]?=some rs[i].p:=by simp[df,hi]
 simp only[e3,Option.map_some,XF]at h2;exact h2
def H5{rs:Q06}(h:bB (ae rs)=true){t t':TR}(ht:t∈rs)(ht':t'∈rs)(e:t.name=t'.name):t=t':=by
 obtain ⟨i,hi,rfl⟩:=XA.1 ht;obtain ⟨j,hj,rfl⟩:=XA.1 ht';have hne:=Eg (f:=fun k=>(rs[k]?.map TR.name).getD ByteArray.empty) (n:=rs.length) (fun k hk=>by
  have h0:k<rs.length:=cq;simp only[WS hk,WS h0,Option.map_some,XF];exact(mq h (k+1) hk).2.1 k h0 rfl)
 by_cases hij:i=j
 ·subst hij;rfl
 exfalso;rcases Nat.lt_or_gt_of_ne hij with hl|hl
 ·have:=hne i j hl hj;simp[hi,hj]at this;exact this e
 have:=hne j i hl hi;simp[hi,hj]at this;exact this e.symm
def H6{rs:Q07}(h:dN (df rs) rs.length=true){t t':RR}(ht:t∈rs)(ht':t'∈rs)(e:t.name=t'.name):t=t':=by
 obtain ⟨i,hi,rfl⟩:=XA.1 ht;obtain ⟨j,hj,rfl⟩:=XA.1 ht';have hne:=Eg (f:=fun k=>(rs[k]?.map RR.name).getD ByteArray.empty) (n:=rs.length) (fun k hk=>by
  have h0:k<rs.length:=cq;simp only[WS hk,WS h0,Option.map_some,XF];exact(Eh h (k+1) hk hk).2.1 k h0 rfl)
 by_cases hij:i=j
 ·subst hij;rfl
 exfalso;rcases Nat.lt_or_gt_of_ne hij with hl|hl
 ·have:=hne i j hl hj;simp[hi,hj]at this;exact this e
 have:=hne j i hl hi;simp[hi,hj]at this;exact this e.symm
def Kw{t:ByteArray}{M:ByteArray×ByteArray->Option Value}{qs:Q07}{k:Q01}{v:Value}(h:lX t M qs k=some v):M k=some v \/ ∃q∈qs,k=(t,q.name)/\v=q.sl:=by
 induction qs generalizing M with
 | nil=>exact .inl h
 | cons q qs ih =>
  simp only[lX]at h;rcases ih h with h|⟨q',hq,e⟩
  ·by_cases e:k=(t,q.name)
   ·rw[e,fu]at h;injection h with h;exact .inr ⟨q,ct,e,h.symm⟩
   rw[dh e]at h;exact .inl h
  exact .inr ⟨q',by simp[hq],e⟩
def zo{t:ByteArray}{M:ByteArray×ByteArray->Option Value}{qs:Q07}{k:Q01}(h:(M k).isSome=true \/ ∃q∈qs,k=(t,q.name)):(lX t M qs k).isSome=true:=by
 induction qs generalizing M with
 | nil=>rcases h with h|⟨q,hq,-⟩;exact h;cases hq
 | cons q qs ih =>
  simp only[lX];refine ih ?_;by_cases e:k=(t,q.name)
  ·left;rw[e,fu];rfl
  rcases h with h|⟨q',hq,e'⟩
  ·left;rw[dh e];exact h
  rcases Xc.1 hq with rfl|hq
  ·exact absurd e' e
  exact .inr ⟨q',hq,e'⟩
def FZ{M:ByteArray×ByteArray->Option Value}{rs:Q06}{k:Q01}{v:Value}(h:fG M rs k=some v):M k=some v \/ ∃t∈rs,∃q∈t.rows,k=(t.name,q.name)/\v=q.sl:=by
 induction rs generalizing M with
 | nil=>exact .inl h
 | cons t rs ih =>
  simp only[fG]at h;rcases ih h with h|⟨t',ht,e⟩
  ·rcases Kw h with h|⟨q,hq,e⟩
   ·exact .inl h
   exact .inr ⟨t,ct,q,hq,e⟩
  exact .inr ⟨t',by simp[ht],e⟩
def uu{M:ByteArray×ByteArray->Option Value}{rs:Q06}{k:Q01}(h:(M k).isSome=true \/ ∃t∈rs,∃q∈t.rows,k=(t.name,q.name)):(fG M rs k).isSome=true:=by
 induction rs generalizing M with
 | nil=>rcases h with h|⟨q,hq,-⟩;exact h;cases hq
 | cons t rs ih =>
  simp only[fG];refine ih ?_;rcases h with h|⟨t',ht,q,hq,e⟩
  ·exact .inl<|zo<|.inl h
  rcases Xc.1 ht with rfl|ht
  ·exact .inl<|zo<|.inr ⟨q,hq,e⟩
  exact .inr ⟨t',ht,q,hq,e⟩
def Kz{rs:List Rl}{n:ByteArray}(h:iM rs n=none):∀r∈rs,r.name≠n:=by
 induction rs with
 | nil=>intro r hr;cases hr
 | cons r rs ih =>
  simp only[iM]at h;split at h
  ·cases h
  rename_i hn;intro q hq;rcases Xc.1 hq with rfl|hq
  ·exact fun e=>hn<|gu.2 e
  exact ih h q hq
def NP{ts:Q0b}{ty n:ByteArray}(h:fB ts ty n=none):∀t∈ts,t.name=ty->∀r∈t.rels,r.name≠n:=by
 induction ts with
 | nil=>intro t ht;cases ht
 | cons t ts ih =>
  simp only[fB]at h;intro q hq e;split at h
  ·rw[Option.or_eq_none_iff]at h;rcases Xc.1 hq with rfl|hq
   ·exact Kz h.1
   exact ih h.2 q hq e
  rename_i hn;rcases Xc.1 hq with rfl|hq
  ·exact absurd (gu.2 e) hn
  exact ih h q hq e
def rJ{rs:Q06}{ty n:ByteArray}{es:Q09}(h:fB (ae rs) ty n=some es):∃t∈rs,∃q∈t.rows,t.name=ty/\q.name=n/\ai q.rows=es:=by
 obtain⟨t,ht,r,hr,e1,e2,e3⟩:=oW h;obtain⟨t',ht',rfl⟩:=WV.1 ht;obtain⟨q,hq,rfl⟩:=WV.1 hr;exact⟨t',ht',q,hq,e1,e2,e3⟩
structure Tab(rs:Q06)(M:ByteArray×ByteArray->Option Value):Prop where
 no:∀k,M k=none->fB (ae rs) k.1 k.2=none
 yes:∀k v,M k=some v->∃t∈rs,∃q∈t.rows,k=(t.name,q.name)/\v=q.sl/\fB (ae rs) k.1 k.2=some (ai q.rows)/\aK (ai q.rows)=true
def rM{rs:Q06}(h:bB (ae rs)=true):Tab rs (lN rs) where
 no k hk:=by
  cases e:fB (ae rs) k.1 k.2 with
  | none=>rfl
  | some es =>
   obtain⟨t,ht,q,hq,e1,e2,-⟩:=rJ e;have:=uu (M:=fun _=>none) (rs:=rs) (k:=k) (.inr ⟨t,ht,q,hq,by rw[e1,e2]⟩);unfold lN at hk;rw[hk]at this;cases this
 yes k v hk:=by
  rcases FZ hk with h0|⟨t,ht,q,hq,e,ev⟩
  ·cases h0
  have hSF:=aW h;refine⟨t,ht,q,hq,e,ev,?_,(hSF.2.2 t ht q hq).1⟩;cases e2:fB (ae rs) k.1 k.2 with
  | none=>exact(NP e2 t.p (Xk ht) (by rw[e];rfl) q.p (Xk hq) (by rw[e];rfl)).elim
  | some es =>
   obtain⟨t',ht',q',hq',e3,e4,e5⟩:=rJ e2;have h1:t'=t:=H5 h ht' ht (by rw[e3,e]);subst h1;obtain⟨i,hi,rfl⟩:=XA.1 ht;have h2:q'=q:=H6 (mq h i hi).2.2 hq' hq (by rw[e4,e]);subst h2;rw[e5]
def Tab.some_iff{rs:Q06}{M:ByteArray×ByteArray->Option Value}(h:Tab rs M)(k:Q01):(M k).isSome=!(aj (ae rs) k.1 k.2).isEmpty:=by
 unfold aj;cases e:M k with
 | none=>rw[h.no k e];rfl
 | some v =>
  obtain⟨t,ht,q,hq,-,-,e1,e2⟩:=h.yes k v e;rw[e1];have:=kL e2;cases e3:ai q.rows with
  | nil=>rw[e3]at this;simp at this
  | cons x xs=>rfl
def MK{a b a' b':ByteArray}{f f':Bool}(ha:a=a')(hb:b=b')(hf:f=f'):Ending.returned (.tuple #[.string a,.string b,.bool f])=.returned (.tuple #[.string a',.string b',.bool f']):=by rw[ha,hb,hf]
def Ei(s:bN)(c:UInt8)(w:af)(hs:s.size<=maxLen):
  Calls prog 262 #[.string s,.int .u8 c.toNat] w fun e w'=>e=.returned (.tuple #[.string (lm c s),.string<|jo c s,.bool<|qi c s])/\∃n,w'=w.drewN n:=by
 unfold maxLen at hs;go_enter func262,ntmps262;go_wp2
 go_loop [7] (fun i=>∃k:Nat,k<=s.size/\i=.int .i64 k/\O (Va c s k)) (fun i=>s.size-(intOf i).toNat)
 case atStart=>exact⟨0,WO _,rfl,Qk _ _⟩
 obtain⟨k,hk,rfl,hu⟩:=hrel;by_cases hlt:k<s.size
 ·by_cases hc:s[k]=c
  ·have HC:O (jA c s.data.toList=_):=Vb hlt hu hc;have hcb:((s[k].toNat:Int)==(c.toNat:Int))=true:=by simp[hc]
   have hk1:=bY k;have hk2:(k:Int)<=(s.size:Int):=cq;have hk3:(k:Int)+1<=(s.size:Int):=cq;clear hc;go_wp2;go_quiet (fail);go_wp2
   go_ret3
   refine⟨MK (ik ?_) (ik ?_)<|by simp[qi,HC.out],nq,rfl⟩
   ·rw[Lib.extract_data];simp[lm,HC.out]
   rw[Lib.extract_to_end];simp[jo,HC.out]
  have HU:O (Va c s<|k+1):=Ql hlt hu hc;have hcb:((s[k].toNat:Int)==(c.toNat:Int))=false:=by
   simp;intro h;exact hc<|UInt8.toNat_inj.mp cq
  clear hc;go_wp2;go_round;case rel=>exact⟨k+1,cq,cx,HU⟩
  simp[intOf];omega
 have HC:O (jA c s.data.toList=_):=Qm (Nat.le_of_not_lt hlt) hu;go_wp2
 go_ret3
 exact⟨MK (by simp[lm,HC.out]) (by simp[jo,HC.out]) (by simp[qi,HC.out]),0,rfl⟩
def Bytes(w:World)(ad:Q02)(len:Nat):Prop:=len<=maxLen/\(0<len->∃b off,ad=some ⟨b,off,none⟩/\b<w.heap.size/\∀i,i<len->∃c:Int,0<=c/\c<=255/\w.cell? ⟨b,off+i,none⟩=some (.int .u8 c))
def Bytes.below{w w':af}{ad:Q02}{len:Nat}(h:Bytes w ad len)(hb:ag w w'):Bytes w' ad len:=by
 refine⟨h.1,fun h0=>?_⟩;obtain⟨b,off,e,hbl,hc⟩:=h.2 h0;refine⟨b,off,e,WJ hbl hb.size,fun i hi=>?_⟩;obtain⟨c,c0,c1,hcc⟩:=hc i hi;exact⟨c,c0,c1,by rw[hb.cell (p:=⟨b,off+i,none⟩) hbl];exact hcc⟩
def KA{H:Type}{enc:TypeId×Value->H}{W:af}{base:Nat}{sp:Nat->Bool}{held:Bool}{fuel:Nat}{ad:Q02}{len cap:Nat}{x:DataW H×List MemPlace}
  (h:DataW.trod enc prog W base sp held fuel 22 [.slice ad len cap]=some x):Bytes W ad len:=by
 rcases open_ints underlying22 underlying5 cw h with⟨hcs,-⟩|⟨a,l,c,zs,hcs,-,hlc,hcm,hm,-,hel,hwf⟩
 ·simp at hcs;obtain⟨rfl,rfl,rfl⟩:=hcs;exact⟨cy,fun h0=>cq⟩
 simp at hcs;obtain⟨rfl,rfl,rfl⟩:=hcs;have hle:len<=zs.length:=by rw[hm];split<;>omega
 refine⟨cq,fun h0=>?_⟩;have hspot:a.spot=none:=by
  have:=hel 0 cq;have e:a.add 0=a:=by simp[Addr.add]
  rw[e]at this;exact World.cell?_spot this
 obtain⟨b,off,spot⟩:=a;simp only at hspot;subst hspot;have add0:∀x:Nat,(⟨b,off,none⟩:Addr).add x=⟨b,off+x,none⟩:=fun x=>by
  unfold Addr.add;by_cases h:x=0
  ·subst h;simp
  simp[h]
 refine⟨b,off,rfl,?_,fun i hi=>?_⟩
 ·have:=hel 0 cq;rw[add0]at this;exact World.block_lt_of_cell? W ⟨b,off+0,none⟩ this
 have h1:=hel i cq;rw[add0]at h1;have h2:=hwf (zs.getD i 0) (by rw[Xh,WS cq];simp);have h3:IntKind.u8.min<=zs.getD i 0/\zs.getD i 0<=IntKind.u8.max:=by simpa only[Lit.wf,WM,WW] using h2
 have e1:IntKind.u8.min=0:=cv;have e2:IntKind.u8.max=255:=cv;rw[e1,e2]at h3;exact⟨_,h3.1,h3.2,h1⟩
def Vj{w:af}{ad:Q02}{len cap:Nat}{t:TypeId}(h:Bytes w ad len):Rd (w.alloc<|.cells #[.slice ad len cap,.int .i64 0] t) w.heap.size ad len cap where
 lt:=ct;code:=ct;place:=⟨0,ct,cq⟩
 free:=ct;bytes h0:=by
  obtain⟨b,off,e,hbl,hc⟩:=h.2 h0;refine⟨b,off,e,cq,by simp;omega,fun i hi=>?_⟩;obtain⟨c,c0,c1,hcc⟩:=hc i hi;exact⟨c,c0,c1,Tt hcc _⟩
 small:=h.1
def H7(ad:Q02)(len cap:Nat)(w:af)(h:Bytes w ad len):
  Calls prog 88 #[.slice ad len cap] w fun e w'=>e=.returned (.pointer<|some<|am w.heap.size)/\Rd w' w.heap.size ad len cap/\ag w w':=by
 have H:=aB h;clear h;go_enter func88,ntmps88;go_wp2;go_ret;exact⟨rfl,Vj H,(WL _ _).alloc (WK _) _⟩
def Tw(ad:Q02)(len cap:Nat)(w:af):
  Calls prog 9 #[.slice ad len cap] w (bx w<|.bool<|decide ((1048576:Int)<(len:Int))):=by
 go_enter func9,ntmps9;go_wp2;go_ret;exact⟨rfl,rfl⟩
def Vk(R B k:Nat)(v:Value)(w:World):Prop:=(k=11->∃g,v=.pointer (some ⟨g,0,none⟩)/\Bj w R B g)/\(k≠11->Kd.ok R w v (zQ [.strs 5,.eq<|Value.pointer<|some ⟨R,0,none⟩,.idx 5,.elt 5,.str,.strs 3,.eq<|Value.pointer<|some ⟨R,0,none⟩,.idx 3,.elt 3,.str,.obj] k))
def Vk.only{R B k:Nat}{v:Value}{w w':af}(h:Vk R B k v w)(ho:Only R w w'):Vk R B k v w' :=
 ⟨fun e=>by obtain⟨g,e1,hg⟩:=h.1 e;exact⟨g,e1,hg.only ho⟩,fun e=>Kd.only ho _<|h.2 e⟩
def Vk.no{R B k:Nat}{v:Value}{w:af}(hk:k≠11)(h:Kd.ok R w v<|zQ [.strs 5,.eq<|Value.pointer<|some<|am R,.idx 5,.elt 5,.str,.strs 3,.eq<|Value.pointer<|some<|am R,.idx 3,.elt 3,.str,.obj] k):Vk R B k v w:=⟨fun e=>absurd e hk,fun _=>h⟩
set_option maxRecDepth 4000 in
def Bn(R:Nat)(ad:Q02)(len cap:Nat)(w:af)(h:Rd w R ad len cap):
  Calls prog 256 #[.pointer (some<|am R)] w fun e w'=>(∃a b:ByteArray,e=.returned (.agg #[.string a,.string b])/\a.size<=20/\b.size<=20)/\Rd w' R ad len cap/\Only R w w':=by
 have H:=aB h;have hRw:=h.lt;have FAR:O (∀g,w.heap.size<=g->0<len->∀b off,ad=some (aq b off)->b≠g):=fun g hg h0 b off e=>by
  obtain⟨b',off',e',-,hb',-⟩:=h.bytes h0;rw[e]at e';injection e' with e';injection e' with e1 e2;omega
 clear h;go_enter func256,ntmps256;go_wp2_with fail;refine bC 12 _ _ (fun k v w'=>Vk R (w.heap.size+1) k v w') (fun w'=>Rd w' R ad len cap/\Only R (w.alloc<|.cells aE 27) w') cw rfl cw cw (vQ [(3,[11,0,1,2,3,4,5,6,7,8,9,10])]) ⟨H.below<|((WL _ _).alloc (WK _) _).drew,(Only.refl _ _).drewN 1⟩ ?step ?fin<;>dsimp only[uI];case step =>
  rintro i hi o ho f w' ⟨hR',Yt⟩ hpre;have HR:=aB hR';have HO:=aB Yt;have hsz:w.heap.size+1<=w'.heap.size:=by have:=Yt.size;simpa using this
  have hRl:cU R w':=hR'.lt;have HM:O (∀e∈o.after,Region.binds .any e=true->Vk R (w.heap.size+1) e.on (f e.on) w'):=hpre;have KAL:O (∀ob:Obj,Only R w'<|w'.alloc ob):=fun ob=>(Only.refl R w').alloc ob;clear hR' Yt hpre;have hc:=Mw (i:=i) cq;clear hi
  repeat' rcases hc with rfl|hc
  ·cases ho;refine aa rfl fun K HK=>?_;clear HM;dsimp only;go_simp;exact HK _ _ ⟨_,by simp[upd],⟨HR.alloc _,HO.alloc _⟩,.no cv ⟨_,rfl,gH w' R hRl (xs:=[_,_,_,_,_]) cv⟩,fun k u hu=>hu.only<|KAL _⟩
  ·cases ho;refine aa rfl fun K HK=>?_;clear HM;dsimp only;go_simp;exact HK _ _ ⟨Value.pointer<|some ⟨R,0,none⟩,by simp[upd],⟨HR,HO⟩,.no cv rfl,fun k u hu=>hu⟩
  ·cases ho;have e1:f 1=Value.pointer (some<|am R):=(HM ⟨1,.data⟩ ct rfl).2 cv;refine aa rfl fun K HK=>?_;clear HM;simp only[e1];go_simp;refine(dx R ad len cap 5 _ HR cq cq).mono ?_;rintro e w5 ⟨⟨x,rfl,hx0,hx1⟩,Ym,YA⟩;obtain⟨x,rfl⟩:∃y:Nat,x=(y:Int):=⟨x.toNat,cq⟩;have Yz:O (Rd w5 R ad len cap/\Only R w' w5):=⟨Ym,YA⟩;clear Ym YA;go_wp2_with fail;exact HK _ _ ⟨.int .i64 (x:Int),by simp[upd,e1],⟨Yz.1,HO.trans Yz.2⟩,.no cv ⟨x,rfl,cq⟩,fun k u hu=>hu.only Yz.2⟩
  ·cases ho;obtain⟨g,e1,hS⟩:=(HM ⟨0,.data⟩ ct rfl).2 cv;obtain⟨x,e2,hx⟩:=(HM ⟨2,.data⟩ ct rfl).2 cv;replace e1:f 0=_:=e1;replace e2:f 2=_:=e2;have HS:=aB hS;clear hS;have hx0:=bY x;have hx1:(x:Int)<5:=cq;refine aa rfl fun K HK=>?_;clear HM;simp only[e1,e2];go_simp;exact HK _ _ ⟨.pointer<|some ⟨g,x,none⟩,by simp[upd,e1,e2],⟨HR,HO⟩,.no cv ⟨g,x,rfl,hx,HS⟩,fun k u hu=>hu⟩
  ·cases ho;obtain⟨g,x,e1,hx,hS⟩:=(HM ⟨3,.data⟩ ct rfl).2 cv;replace e1:f 3=_:=e1;obtain⟨t,ht,hcell⟩:=hS.2.2 x hx;clear hS;refine aa rfl fun K HK=>?_;clear HM;simp only[e1];go_simp;exact HK _ _ ⟨.string t,by simp[upd,e1],⟨HR,HO⟩,.no cv ⟨t,rfl,ht⟩,fun k u hu=>hu⟩
  ·cases ho;refine aa rfl fun K HK=>?_;clear HM;dsimp only;go_simp;exact HK _ _ ⟨_,by simp[upd],⟨HR.alloc _,HO.alloc _⟩,.no cv ⟨_,rfl,gH w' R hRl (xs:=[_,_,_]) cv⟩,fun k u hu=>hu.only<|KAL _⟩
  ·cases ho;refine aa rfl fun K HK=>?_;clear HM;dsimp only;go_simp;exact HK _ _ ⟨Value.pointer<|some ⟨R,0,none⟩,by simp[upd],⟨HR,HO⟩,.no cv rfl,fun k u hu=>hu⟩
  ·cases ho;have e1:f 6=Value.pointer (some<|am R):=(HM ⟨6,.data⟩ ct rfl).2 cv;refine aa rfl fun K HK=>?_;clear HM;simp only[e1];go_simp;refine(dx R ad len cap 3 _ HR cq cq).mono ?_;rintro e w5 ⟨⟨x,rfl,hx0,hx1⟩,Ym,YA⟩;obtain⟨x,rfl⟩:∃y:Nat,x=(y:Int):=⟨x.toNat,cq⟩;have Yz:O (Rd w5 R ad len cap/\Only R w' w5):=⟨Ym,YA⟩;clear Ym YA;go_wp2_with fail;exact HK _ _ ⟨.int .i64 (x:Int),by simp[upd,e1],⟨Yz.1,HO.trans Yz.2⟩,.no cv ⟨x,rfl,cq⟩,fun k u hu=>hu.only Yz.2⟩
  ·cases ho;obtain⟨g,e1,hS⟩:=(HM ⟨5,.data⟩ ct rfl).2 cv;obtain⟨x,e2,hx⟩:=(HM ⟨7,.data⟩ ct rfl).2 cv;replace e1:f 5=_:=e1;replace e2:f 7=_:=e2;have HS:=aB hS;clear hS;have hx0:=bY x;have hx1:(x:Int)<3:=cq;refine aa rfl fun K HK=>?_;clear HM;simp only[e1,e2];go_simp;exact HK _ _ ⟨.pointer<|some ⟨g,x,none⟩,by simp[upd,e1,e2],⟨HR,HO⟩,.no cv ⟨g,x,rfl,hx,HS⟩,fun k u hu=>hu⟩
  ·cases ho;obtain⟨g,x,e1,hx,hS⟩:=(HM ⟨8,.data⟩ ct rfl).2 cv;replace e1:f 8=_:=e1;obtain⟨t,ht,hcell⟩:=hS.2.2 x hx;clear hS;refine aa rfl fun K HK=>?_;clear HM;simp only[e1];go_simp;exact HK _ _ ⟨.string t,by simp[upd,e1],⟨HR,HO⟩,.no cv ⟨t,rfl,ht⟩,fun k u hu=>hu⟩
  ·cases ho;obtain⟨t,e1,ht⟩:=(HM ⟨4,.data⟩ ct rfl).2 cv;obtain⟨u,e2,hu⟩:=(HM ⟨9,.data⟩ ct rfl).2 cv;replace e1:f 4=_:=e1;replace e2:f 9=_:=e2;refine aa rfl fun K HK=>?_;clear HM;simp only[e1,e2];go_simp;exact HK _ _ ⟨.agg #[.string t,.string u],by simp[upd,e1,e2],⟨HR,HO⟩,.no cv ⟨t,u,rfl,ht,hu⟩,fun k u hu=>hu⟩
  cases ho;refine aa rfl fun K HK=>?_;clear HM;dsimp only;go_simp;exact HK _ _ ⟨_,by simp[upd],⟨HR.alloc _,HO.alloc _⟩,⟨fun _=>⟨_,rfl,NM hRl hsz⟩,fun e=>absurd rfl e⟩,fun k u hu=>hu.only<|KAL _⟩
 case fin =>
  rintro o ho f w0 ⟨hR',Yt⟩ hall;obtain⟨g,e1,hg⟩:=(hall 11 cq).1 rfl;obtain⟨t,u,e2,ht,hu⟩:=(hall 10 cq).2 cv;replace e1:f 11=_:=e1;replace e2:f 10=_:=e2;obtain⟨hgR,hgB,hgl,hgf,ta,tb,_,_,ca,cb⟩:=hg;obtain⟨w',hw'⟩:∃w',w'=(w0.setCell (am g)<|.string t).setCell (aq g 1) (.string u):=⟨_,rfl⟩;have hg:Bj w' R (w.heap.size+1) g:=by rw[hw'];exact NN hgR hgB hgl hgf ca cb ht hu
  have hR:Rd w' R ad len cap:=by rw[hw'];exact(hR'.setFar hgR<|FAR _ cq).setFar hgR<|FAR _ cq
  have hO:Only R (w.alloc<|.cells aE 27) w':=by rw[hw'];exact(Yt.setNew<|by simpa using hgB).setNew (by simpa using hgB)
  clear hR' Yt hall;obtain rfl:=Option.some.inj ho;clear ho;refine aa rfl fun K HK=>?_;simp only[e1,e2];go_simp;rw[<-hw'];refine HK _ _ ?_;clear HK hw' hgR hgl hgf ca cb ht hu;have hOw:Only R w w':=(Only.of_below<|(WL _ _).alloc (WK _) _).trans hO;have hnR:w.heap.size≠R:=cq
  have hn0:w'.cell? (a7 w)=some (.string ⟨#[]⟩):=by rw[hO.cell ct hnR];simp
  have hn1:w'.cell? (a8 w 1)=some (.string ⟨#[]⟩):=by rw[hO.cell ct hnR];simp
  have hnf:∀o,w'.frozen? (a8 w o)=false:=fun o=>by rw[hO.frozen ct hnR];simp
  have hsz:cW w w':=by have:=hO.size;simp at this;omega
  have HR:=aB hR;have HOw:=aB hOw;have HG:=aB hg;clear hR hO hOw hg;go_wp2_with fail;refine(ko R ad len cap 30 _ HR cq cq).mono ?_;rintro e w1 ⟨⟨x,rfl⟩,YD,YL⟩;have HR1:=aB YD;have Yu:O (Only R w w1):=HOw.trans YL;have HG1:=aB<|HG.only YL;have m0:w1.cell? (a7 w)=some (.string ⟨#[]⟩):=by rw[YL.cell hsz hnR];exact hn0
  have m1:w1.cell? (a8 w 1)=some (.string ⟨#[]⟩):=by rw[YL.cell hsz hnR];exact hn1
  have mf:∀o,w1.frozen? (a8 w o)=false:=fun o=>by rw[YL.frozen hsz hnR];exact hnf o
  have hs1:cW w w1:=WJ hsz YL.size;have hR1l:cU R w1:=YD.lt;clear hn0 hn1 hnf YD YL HR HOw HG;obtain⟨hgR,-,hgl,hgf,ta,tb,hta,htb,ca,cb⟩:=HG1.out;have hgn:g≠w.heap.size:=cq;cases x;case false=>
   go_wp2;exact bodyPost_ret (v:=.agg #[.string ta,.string tb]) (by simp[results,Tryz.results256,go_sem, *]) rfl ⟨⟨ta,tb,rfl,hta,htb⟩,(HR1.setFar hnR<|FAR _<|WK _).setFar hnR<|FAR _<|WK _,(Yu.setNew<|WK _).setNew<|WK _⟩
  go_wp2_with fail;refine(dx R ad len cap 4 _ (HR1.below<|(WL _ _).alloc (WK _) _) cq cq).mono ?_;rintro e w2 ⟨⟨x,rfl,hx0,hx1⟩,hR2,hO2⟩;have hO12:Only R w1 w2:=(Only.of_below<|(WL _ _).alloc (WK _) _).trans hO2;have hSt:=(gH w1 R hR1l (t:=9) (xs:=[⟨#[]⟩,⟨#[65]⟩,⟨#[97,95,49]⟩,⟨#[97,98,99,100,101,102,103,104,105,106,107,108,109]⟩]) cv).only hO2;obtain⟨y,rfl⟩:∃y:Nat,x=(y:Int):=⟨x.toNat,cq⟩;obtain⟨t,ht,hct⟩:=hSt.2.2 y (by simp;omega);have k0:w2.cell? (a7 w)=some (.string ⟨#[]⟩):=by rw[hO12.cell hs1 hnR];exact m0
  have k1:w2.cell? (a8 w 1)=some (.string ⟨#[]⟩):=by rw[hO12.cell hs1 hnR];exact m1
  have kf:∀o,w2.frozen? (a8 w o)=false:=fun o=>by rw[hO12.frozen hs1 hnR];exact mf o
  have ka:w2.cell? (am g)=some (.string ta):=by rw[hO12.cell hgl hgR];exact ca
  have kb:w2.cell? (aq g 1)=some (.string tb):=by rw[hO12.cell hgl hgR];exact cb
  have kg:∀o,w2.frozen? (aq g o)=false:=fun o=>by rw[hO12.frozen hgl hgR];exact hgf o
  have HR2:=aB hR2;have Yk:O (Only R w w2):=Yu.trans hO12;clear hR2 hO2 hO12 hSt m0 m1 mf ca cb hgf HR1 Yu HG1;go_wp2;exact bodyPost_ret (v:=.agg #[.string ta,.string t]) (by simp[results,Tryz.results256,go_sem, *]) rfl ⟨⟨ta,t,rfl,hta,ht⟩,((HR2.setFar hgR<|FAR _ cq).setFar hnR<|FAR _<|WK _).setFar hnR<|FAR _<|WK _,((Yk.setNew cq).setNew<|WK _).setNew<|WK _⟩
def o8(w:af):(zeroValue 37).run prog w=.ok (.slice none 0 0) w:=cw
def Aj(b n:Nat)(M:ByteArray×ByteArray->Option Value)(t r:bN)(w:af)(ht:t.size<=maxLen)(hr:r.size<=maxLen)(hV:aN dE prog 146 w b n M):
  Calls prog 94 #[.map (some b),.string t,.string r] w (bx w<|.bool (M (t,r)).isSome):=by
 obtain⟨kl,hkl⟩:=j3 (t,r) ht hr;have HV:O (aN dE prog 146 w b n M):=hV;have YU:O (keyOf prog 146 (dE (t,r))=some kl):=hkl;clear hkl hV;go_enter func94,ntmps94;go_wp2_with(first|(at_lookup;refine d9 _ rfl _ _ 102 rfl 146 37 jl underlying102 (o8 _) b n M rfl HV (t,r) kl rfl YU ?_)|go_in);go_ret;exact⟨rfl,rfl⟩
def Ej(a:Al)(w:af):
  Calls prog 240 #[.agg #[.string a.t,.string a.s]] w (bj w<|.bool<|!a.s.toList.isEmpty):=by
 cases h:a.s.toList.isEmpty;case true=>
  go_enter func240,ntmps240;go_wp2;go_ret;exact⟨rfl,(WL _ _).alloc (WK _) _⟩
 go_enter func240,ntmps240;go_wp2;go_ret;exact⟨rfl,(WL _ _).alloc (WK _) _⟩
def zq(xs:Q0a)(k:Nat)(h:k<xs.length):(xs.drop k).any (fun a=>!a.s.toList.isEmpty)=((!xs[k].s.toList.isEmpty) || (xs.drop<|k+1).any (fun a=>!a.s.toList.isEmpty)):=by
 rw[Xw h];rfl
def Dl(ad:Q02)(cap:Nat)(xs:Q0a)(w:af)(hlen:bh xs)(hs:kV w ad xs):
  Calls prog 264 #[.slice ad xs.length cap,.func (Fn.func 240) #[] #[]] w fun e w'=>(∃r:Int,e=.returned (.int .i64 r)/\decide (0<=r)=xs.any (fun a=>!a.s.toList.isEmpty))/\ag w w':=by
 have HS:=aB hs;clear hs;go_enter func264,ntmps264;go_wp2_with fail;go_loopw[8] (fun i wr=>∃k:Nat,k<=xs.length/\i=.int .i64 k/\O ((xs.drop k).any (fun a=>!a.s.toList.isEmpty)=xs.any (fun a=>!a.s.toList.isEmpty))/\O (ag w wr)) (fun i _=>xs.length-(intOf i).toNat);case atStart=>exact⟨0,WO _,rfl,rfl,WL _ _⟩
 obtain⟨k,hk,rfl,HP,HB⟩:=hrel;by_cases hlt:k<xs.length
 ·rcases HS.out.below HB.out with rfl|⟨b,off,rfl,hb,hr⟩
  ·simp at hlt
  obtain⟨t0,t1⟩:=hr k hlt;have hk1:=bY k;have hk2:(k:Int)<(xs.length:Int):=cq;clear hr;cases he:xs[k].s.toList.isEmpty;case false=>
   have HN:O (xs.any (fun a=>!a.s.toList.isEmpty)=true):=by show _=_;rw[<-HP,zq _ _ hlt,he];rfl
   go_wp2_with(go_at_call 240;refine(Ej xs[k] _).mono ?_;rintro e w' ⟨he2,hbx⟩;rw[he]at he2;subst he2);go_ret;exact⟨⟨k,rfl,by rw[HN];simp⟩,HB.trans<|hbx.mono HB.size⟩
  have Ye:O ((xs.drop<|k+1).any (fun a=>!a.s.toList.isEmpty)=xs.any (fun a=>!a.s.toList.isEmpty)):=by show _=_;rw[<-HP,zq _ _ hlt,he];rfl
  go_wp2_with(go_at_call 240;refine(Ej xs[k] _).mono ?_;rintro e w' ⟨he2,hbx⟩;rw[he]at he2;subst he2);go_roundw;case rel=>exact⟨k+1,cq,cx,Ye,HB.trans<|hbx.mono HB.size⟩
  simp[intOf]<;>omega
 have HN:O (xs.any (fun a=>!a.s.toList.isEmpty)=false):=by show _=_;rw[<-HP,Xm cq];rfl
 go_wp2;go_ret;exact⟨⟨-1,rfl,by rw[HN];simp⟩,HB⟩
def xY(ad:Q02)(cap:Nat)(xs:Q0a)(w:af)(hlen:bh xs)(hs:kV w ad xs):
  Calls prog 193 #[.slice ad xs.length cap,.func (Fn.func 240) #[] #[]] w (bj w<|.bool<|xs.any fun a=>!a.s.toList.isEmpty):=by
 go_enter func193,ntmps193;go_wp2_with fail;refine(Dl ad cap xs _ hlen hs).mono ?_;rintro e w' ⟨⟨r,rfl,hr⟩,hbx⟩;have HR:O (decide (0<=r)=xs.any (fun a=>!a.s.toList.isEmpty)):=hr;clear hr hs;go_wp2;go_ret;exact⟨by rw[<-HR];rfl,hbx⟩
def QB(xs:Q0a):(!xs.any fun a=>!a.s.toList.isEmpty)=xs.all fun a=>a.s.toList.isEmpty:=by
 induction xs with
 | nil=>rfl
 | cons a xs ih=>simp only[XY,List.all_cons,Bool.not_or,Bool.not_not,ih]
set_option maxRecDepth 100000 in
def wI(ad:Q02)(cap:Nat)(rs:Q08)(w:af)(hlen:bh rs)(hs:iw w ad rs)(hl:∀r∈rs,r.e.light):
  Calls prog 172 #[.slice ad rs.length cap] w (bj w<|.bool<|bH<|ai rs):=by
 by_cases h1:rs.length=1
 ·obtain⟨r,rfl⟩:∃r,rs=[r]:=List.length_eq_one_iff.1 h1;rcases hs with h|⟨b,off,rfl,hb,hr,hok⟩
  ·cases h
  obtain⟨t0,t1,t2,t3,t4⟩:=hr 0 ct;simp only[Nat.zero_mul,Nat.add_zero,List.getElem_cons_zero]at t0 t1 t2 t3 t4;have Yn:O (r.ok w):=hok r ct;obtain⟨lg,-⟩:=hl r ct;clear hr hok h1;simp only[Xq,XQ,Xl];by_cases hq:r.e.kind=1
  ·have HD:O (bH (ai [r])=!r.e.allow.any fun a=>!a.s.toList.isEmpty):=by show _=_;rw[QB];simp[bH,ai,hq]
   have hqb:(r.e.kind==1)=true:=by simpa using hq
   go_enter func172,ntmps172;go_wp2_with(go_at_call 193;refine(xY _ _ r.e.allow _ lg<|Yn.1.below<|(WL _ _)).mono ?_;rintro e w' ⟨rfl,hbx⟩);go_ret;exact⟨by rw[HD];rfl,hbx⟩
  have HD:O (bH (ai [r])=false):=by show _=_;simp[bH,ai,hq]
  have hqb:(r.e.kind==1)=false:=by simpa using hq
  go_enter func172,ntmps172;go_wp2;go_ret;exact⟨by rw[HD];rfl,WL _ _⟩
 have HD:O (bH (ai rs)=false):=by
  show _=_;rcases rs with _|⟨r,_|⟨r2,rs⟩⟩
  ·rfl
  ·simp at h1
  rfl
 have h2:((rs.length:Int)==1)=false:=by
  have:¬((rs.length:Int)=1):=cq;simpa using this
 clear hs;go_enter func172,ntmps172;go_wp2;go_ret;exact⟨by rw[HD];rfl,WL _ _⟩
def gX(ts:Q0b)(ty over rel:ByteArray):List ByteArray:=if bH (aj ts ty over) then iN ts ty over rel else []
def NQ:(prog.info? 9).map (fun i=>(i.zero,i.size,i.bytes))=some (some<|.string ⟨#[]⟩,1,16):=cw
def KC(r:ER)(h:bH (ai [r])=true):aQ (ai [r])=r.e.allow/\r.e.kind=1:=by
 simp only[ai,XN,List.map_nil,bH,WM,WW]at h;exact⟨by simp[ai,aQ,h.1],h.1⟩
def KD{rows:Q08}(h:bH (ai rows)=true):∃r,rows=[r]:=by
 rcases rows with _|⟨r,_|⟨r2,rs⟩⟩
 ·simp[ai,bH]at h
 ·exact⟨r,rfl⟩
 simp[ai,bH]at h
set_option maxRecDepth 100000 in
def zt(b n:Nat)(rs:Q06)(ad:Q02)(M:ByteArray×ByteArray->Option Value)(typ:bN)(x:ER)(w:af)(hV:aN dE prog 146 w b n M)(hT:Tab rs M)(hs:jX w ad rs)(hl:∀r∈rs,r.light)(hf:∀r∈rs,r.fits)(ht:typ.size<=maxLen)(ho:x.e.over.size<=maxLen)(hn:x.e.name.size<=maxLen):
  Calls prog 93 #[.map (some b),.string typ,x.val] w fun e w'=>(∃(Yh:Q02) (cap':Nat),e=.returned (.slice Yh (gX (ae rs) typ x.e.over x.e.name).length cap')/\U7 w' Yh (gX (ae rs) typ x.e.over x.e.name)/\∀p,Yh=some p->w.heap.size<=p.block)/\ag w w':=by
 have HV:O (aN dE prog 146 w b n M):=hV;have HT:=aB hT;have HS:=aB hs;have HL:=aB hl;have Yc:=aB hf;obtain⟨kl,hkl⟩:=j3 (typ,x.e.over) ht ho;have YU:O (keyOf prog 146 (dE (typ,x.e.over))=some kl):=hkl;clear hkl hV hT hs hl hf;obtain⟨i0,hi,hz0,hz1,hz2⟩:=info_parts NQ;obtain⟨W0,hW0⟩:=eQx<|w.alloc<|.cells (ce x) 43;have hal:ag w W0:=by rw[hW0];exact(WL _ _).alloc (WK _) _
 have HB0:=aB hal;have HV0:=aB<|HV.below hal;have c3:W0.cell? (a8 w 3)=some (.string x.e.name):=by rw[hW0];simp
 have hg0:w.heap.size<W0.heap.size:=by rw[hW0];simp
 -- what lies in the table
 obtain⟨rows,X9,capE,HM,HE,HF,HFL⟩:∃(rows:Q08) (X9:Q02) (capE:Nat),O ((M (typ,x.e.over)).getD (.slice none 0 0)=.slice X9 rows.length capE)/\O (ai rows=aj (ae rs) typ x.e.over)/\O (qP rs X9 rows)/\O (∀q∈rows,q.e.fits):=by
  cases e:M (typ,x.e.over) with
  | none=>exact⟨[],none,0,rfl,by show _=_;unfold aj;rw[HT.no _ e];rfl,.inl rfl,by show ∀_,_;simp⟩
  | some v =>
   obtain⟨t,htm,q,hq,-,rfl,e1,-⟩:=HT.yes _ v e;exact⟨q.rows,q.ad,q.cap,rfl,by show _=_;unfold aj;rw[e1];rfl,.inr ⟨t,htm,q,hq,rfl,rfl⟩,((Yc t htm).2.2 q hq).2.2⟩
 have HSE:O (iw W0 X9 rows):=HF.sl<|HS.below hal;have Zp:=HF.light HL;have HLE1:bh rows:=Zp.1;have HLE2:O (∀q∈rows,q.e.light):=Zp.2;clear Zp hal;go_enter func93,ntmps93;unfold ER.val;go_wp2_with(at_lookup;rw[<-hW0];refine jZ _ rfl _ _ 102 rfl 146 37 jl underlying102 (o8 _) b n M rfl HV0 (typ,x.e.over) kl rfl YU ?_;rw[HM];clear hW0);refine(wI X9 capE rows _ HLE1 HSE HLE2).mono ?_;rintro e w1 ⟨rfl,hb1⟩;have HB1:=iD HB0 hb1;have HNM:O (ac w1 w.heap.size 3 (.string x.e.name)/\w.heap.size<w1.heap.size):=⟨aD hb1 hg0 c3,WJ hg0 hb1.size⟩;clear hb1 c3 hg0;cases hd:bH (ai rows);case false=>
  have HG:O (gX (ae rs) typ x.e.over x.e.name=[]):=by show _=_;unfold gX;rw[<-HE,hd];rfl
  go_wp2;go_ret;refine⟨⟨none,0,by rw[HG];rfl,by rw[HG];exact .inl rfl,fun p hp=>by cases hp⟩,HB1⟩
 obtain⟨r,rfl⟩:=KD hd;have HG:O (gX (ae rs) typ x.e.over x.e.name=gl (ae rs) x.e.name r.e.allow):=by
  show _=_;unfold gX iN;rw[<-HE,hd,if_pos rfl,(KC r hd).1]
 rcases HSE.out with h|⟨bE,offE,rfl,hbE,hrE,hokE⟩
 ·cases h
 have HSW:O (iw w1 (some<|aq bE offE) [r]):=HF.sl<|HS.below HB1;rcases HSW.out with h|⟨bE',offE',heE,hbE1,hrE1,hokE1⟩
 ·cases h
 injection heE with heE;injection heE with heE1 heE2;subst heE1;subst heE2;obtain⟨s0,s1,s2,s3,s4⟩:=hrE1 0 ct;simp only[Nat.zero_mul,Nat.add_zero,List.getElem_cons_zero]at s0 s1 s2 s3 s4;have HOKR:O (r.ok w):=by
  have h1:=HF.sl HS;exact h1.mem ct
 have lgA:bh r.e.allow:=(HLE2 r ct).1;have HFA:O (∀a∈r.e.allow,a.fits):=(HFL r ct).1;have hone:([r]:Q08).length=1:=rfl;rw[hone];clear hrE hokE hrE1 hokE1 HE HM hd hbE;go_wp2_with fail;go_loopw[8,25] (fun v i wr=>∃k:Nat,k<=r.e.allow.length/\i=.int .i64 k/\O (cD w wr 9 1 v (gl (ae rs) x.e.name<|r.e.allow.take k).length<|rq<|gl (ae rs) x.e.name<|r.e.allow.take k)/\O (ag w wr)/\O (wr.cell? (a8 w 3)=some (.string x.e.name)/\w.heap.size<wr.heap.size/\v.ownBlock≠some w.heap.size)) (fun _ i _=>r.e.allow.length-(intOf i).toNat);case atStart=>exact⟨0,WO _,rfl,World.ownsRow_nil _ _ _ _,HB1,HNM.1,HNM.2,by simp[Value.ownBlock]⟩
 clear HB1 HNM s0 s1 s2 s3 s4;obtain⟨k,hk,rfl,HOW,HB,HC⟩:=hrel;by_cases hlt:k<r.e.allow.length
 ·rcases (HOKR.out.1).below HB.out with hnil|⟨ba,ZQ,had,hba,hra⟩
  ·rw[hnil]at hlt;simp at hlt
  obtain⟨t0,t1⟩:=hra k hlt;have hk1:=bY k;have hk2:(k:Int)<(r.e.allow.length:Int):=cq;have zA:=HFA _<|WH hlt;have z1:r.e.allow[k].t.size<=maxLen:=zA.1;obtain⟨hc3,hcl,hco⟩:=HC.out;obtain⟨W1,hW1⟩:=eQx<|wr.alloc<|.cells #[.string r.e.allow[k].t,.string r.e.allow[k].s] 216;have hal:ag wr W1:=by rw[hW1];exact(WL _ _).alloc (WK _) _
  have Yg:=iD HB hal;have HVW:=aB<|HV.below Yg;have HOW1:O (cD w W1 9 1 u8 (gl (ae rs) x.e.name<|r.e.allow.take k).length<|rq<|gl (ae rs) x.e.name<|r.e.allow.take k):=own_below HOW hal;have g0:W1.cell? (a7 wr)=some (.string r.e.allow[k].t):=by rw[hW1];simp
  have g3:=aD hal hcl hc3;have hgl1:wr.heap.size<W1.heap.size:=by rw[hW1];simp
  have hgl:=J6 (ae rs) x.e.name<|r.e.allow.take k;rw[XC]at hgl;have HI:=HT.some_iff (r.e.allow[k].t,x.e.name);have hwsz:cV w W1:=Yg.size;rw[had];clear hra hal HC HOW;go_wp2_with fail;rw[<-hW1];refine(Aj b n M r.e.allow[k].t x.e.name _ z1 hn HVW).mono ?_;rintro e w' ⟨rfl,hw'⟩;rw[hw'];clear hw' w' hW1 t0 t1 hc3;cases hz:(M (r.e.allow[k].t,x.e.name)).isSome;case false=>
   have HE:O (gl (ae rs) x.e.name (r.e.allow.take<|k+1)=gl (ae rs) x.e.name (r.e.allow.take k)):=by
    refine UI _ _ _ _ hlt ?_;rw[hz]at HI;simpa using HI.symm
   clear HI;go_wp2;go_roundw;case rel=>exact⟨k+1,cq,cx,by rw[HE];exact HOW1,Yg,g3,cq,hco⟩
   simp[intOf]<;>omega
  have HX:O (gl (ae rs) x.e.name (r.e.allow.take<|k+1)=gl (ae rs) x.e.name (r.e.allow.take k)++[r.e.allow[k].t]):=by
   refine P7 _ _ _ _ hlt ?_;rw[hz]at HI;simpa using HI.symm
  clear HI;go_wp2_with(at_builtin;refine wpList_append_own_at _ rfl _ _ 143 rfl w.heap.size 9 i0 (.string ⟨#[]⟩) 1 16 underlying143 hi hz0 hz1 hz2 rfl cv _ _ _ rfl (HOW1.alloc _) ⟨W1.heap.size,0,none⟩ 1 1 [.string r.e.allow[k].t] rfl rfl (cell_one_new _ _ _) (by intro u hu;simp at hu;subst hu;rfl) cy cq (by simp;omega) ?_);intro v' w3 hown3 hgrow _ hloc;have hb3:O (ag w w3):=(Yg.alloc Yg.size _).grown hgrow (by simp;omega) (fun i hi=>(HOW1.lt i hi).1);have YK:O (cD w w3 9 1 v' (gl (ae rs) x.e.name<|r.e.allow.take<|k+1).length<|rq<|gl (ae rs) x.e.name<|r.e.allow.take<|k+1):=by
   show World.ownsRow _ _ _ _ _ _ _;rw[HX];simpa[rq] using hown3
  have HC3:O (w3.cell? (a8 w 3)=some (.string x.e.name)/\w.heap.size<w3.heap.size/\v'.ownBlock≠some w.heap.size):=by
   refine⟨?_,?_,?_⟩
   ·rw[hgrow.cell_far _ (by simp;omega) (Ne.symm hco)];exact aD ((WL _ _).alloc (WK _) _) cq g3
   ·have:=hgrow.size;simp at this;omega
   rcases hloc with e|e
   ·rw[e];exact hco
   rw[e];simp;omega
  clear hown3 hgrow hloc HOW1 g0 g3;go_wp2;go_roundw;case rel=>exact⟨k+1,cq,cx,YK,hb3,HC3⟩
  simp[intOf]<;>omega
 obtain rfl:k=r.e.allow.length:=cq;have hown:=HOW.out;rw[Xa]at hown;obtain⟨Yh,cp,rfl,hS',hN'⟩:=P8 hown;have HS2:=aB hS';have HN2:O (∀p,Yh=some p->w.heap.size<=p.block):=hN';clear hown HOW hS' hN' HC;go_wp2;go_ret;refine⟨⟨Yh,cp,by rw[HG];rfl,by rw[HG];exact HS2,HN2⟩,HB⟩
def Bo(t:TR)(g:Nat)(nm:bN)(w:af)(hg:cU g w)(hc:w.cell? (am g)=some (.string nm)):
  Calls prog 296 #[.agg #[.string t.name,.slice t.ad t.rows.length t.cap],.pointer<|some<|am g] w (bj w<|.bool<|t.name.toList==nm.toList):=by
 go_enter func296,ntmps296;go_wp2;go_ret;exact⟨rfl,(WL _ _).alloc (WK _) _⟩
def El(rs:Q06)(k:Nat)(h:k<rs.length)(nm:bN):l7 (ae<|rs.drop k) nm=((rs[k].name.toList==nm.toList) || l7 (ae<|rs.drop<|k+1) nm):=by
 rw[oN _ _ h];rfl
def Bp(ad:Q02)(cap:Nat)(rs:Q06)(g:Nat)(nm:bN)(w:af)(hlen:bh rs)(hs:jX w ad rs)(hg:cU g w)(hc:w.cell? (am g)=some (.string nm)):
  Calls prog 323 #[.slice ad rs.length cap,.func (Fn.func 296) #[] #[.pointer (some<|am g)]] w fun e w'=>(∃r:Int,e=.returned (.int .i64 r)/\decide (0<=r)=l7 (ae rs) nm)/\ag w w':=by
 have HS:=aB hs;have HC:O (ab w g<|.string nm):=hc;clear hs hc;go_enter func323,ntmps323;go_wp2_with fail;go_loopw[8] (fun i wr=>∃k:Nat,k<=rs.length/\i=.int .i64 k/\O (l7 (ae<|rs.drop k) nm=l7 (ae rs) nm)/\O (ag w wr)) (fun i _=>rs.length-(intOf i).toNat);case atStart=>exact⟨0,WO _,rfl,rfl,WL _ _⟩
 obtain⟨k,hk,rfl,HP,HB⟩:=hrel;by_cases hlt:k<rs.length
 ·rcases HS.out.below HB.out with rfl|⟨b,off,rfl,hb,hr,-⟩
  ·simp at hlt
  obtain⟨t0,t1⟩:=hr k hlt;have hk1:=bY k;have hk2:(k:Int)<(rs.length:Int):=cq;have HCW:O (ab wr g<|.string nm):=aD HB hg HC;have HGW:O (g<wr.heap.size):=WJ hg HB.size;clear hr;cases he:(rs[k].name.toList==nm.toList);case true=>
   have HN:O (l7 (ae rs) nm=true):=by show _=_;rw[<-HP,El _ _ hlt,he];rfl
   go_wp2_with(go_at_call 296;refine(Bo rs[k] g nm _ HGW HCW).mono ?_;rintro e w' ⟨he2,hbx⟩;rw[he]at he2;subst he2);go_ret;exact⟨⟨k,rfl,by rw[HN];simp⟩,HB.trans<|hbx.mono HB.size⟩
  have Ye:O (l7 (ae<|rs.drop<|k+1) nm=l7 (ae rs) nm):=by show _=_;rw[<-HP,El _ _ hlt,he];rfl
  go_wp2_with(go_at_call 296;refine(Bo rs[k] g nm _ HGW HCW).mono ?_;rintro e w' ⟨he2,hbx⟩;rw[he]at he2;subst he2);go_roundw;case rel=>exact⟨k+1,cq,cx,Ye,HB.trans<|hbx.mono HB.size⟩
  simp[intOf]<;>omega
 have HN:O (l7 (ae rs) nm=false):=by show _=_;rw[<-HP,Xm cq];rfl
 go_wp2;go_ret;exact⟨⟨-1,rfl,by rw[HN];simp⟩,HB⟩
def wJ(ad:Q02)(cap:Nat)(rs:Q06)(g:Nat)(nm:bN)(w:af)(hlen:bh rs)(hs:jX w ad rs)(hg:cU g w)(hc:w.cell? (am g)=some (.string nm)):
  Calls prog 295 #[.slice ad rs.length cap,.func (Fn.func 296) #[] #[.pointer (some<|am g)]] w (bj w<|.bool<|l7 (ae rs) nm):=by
 go_enter func295,ntmps295;go_wp2_with fail;refine(Bp ad cap rs g nm _ hlen hs hg hc).mono ?_;rintro e w' ⟨⟨r,rfl,hr⟩,hbx⟩;have HR:O (decide (0<=r)=l7 (ae rs) nm):=hr;clear hr hs hc;go_wp2;go_ret;exact⟨by rw[<-HR];rfl,hbx⟩
set_option maxRecDepth 100000 in
def Bq(ad adA:Q02)(cap capA:Nat)(rs:Q06)(b n:Nat)(M:ByteArray×ByteArray->Option Value)(xs:Q0a)(w:af)(hlen:bh rs)(hs:jX w ad rs)(hV:aN dE prog 146 w b n M)(hT:Tab rs M)(hla:bh xs)(hsa:kV w adA xs)(hfa:∀a∈xs,a.fits):
  Calls prog 258 #[.slice ad rs.length cap,.map<|some b,.slice adA xs.length capA] w (bj w<|.bool<|pW (ae rs) xs):=by
 have HS:=aB hs;have HV:O (aN dE prog 146 w b n M):=hV;have HT:=aB hT;have HA:=aB hsa;have HFA:=aB hfa;clear hs hV hT hsa hfa;go_enter func258,ntmps258;go_wp2_with fail;go_loopw[11] (fun i wr=>∃k:Nat,k<=xs.length/\i=.int .i64 k/\O (oO (ae rs) xs k=true)/\O (ag w wr)) (fun i _=>xs.length-(intOf i).toNat);case atStart=>exact⟨0,WO _,rfl,AA _ _,WL _ _⟩
 obtain⟨k,hk,rfl,HP,HB⟩:=hrel;by_cases hlt:k<xs.length
 ·rcases HA.out.below HB.out with rfl|⟨ba,ZQ,rfl,hba,hra⟩
  ·simp at hlt
  obtain⟨t0,t1⟩:=hra k hlt;have hk1:=bY k;have hk2:(k:Int)<(xs.length:Int):=cq;have zA:=HFA _<|WH hlt;have z1:xs[k].t.size<=maxLen:=zA.1;have z2:xs[k].s.size<=maxLen:=zA.2;have HI:O ((M (xs[k].t,xs[k].s)).isSome=!(aj (ae rs) xs[k].t xs[k].s).isEmpty):=HT.some_iff (xs[k].t,xs[k].s);obtain⟨W1,hW1⟩:=eQx<|wr.alloc<|.cells #[.string xs[k].t,.string xs[k].s] 216;have hal:ag wr W1:=by rw[hW1];exact(WL _ _).alloc (WK _) _
  have Yg:=iD HB hal;have g0:W1.cell? (a7 wr)=some (.string xs[k].t):=by rw[hW1];simp
  have g1:W1.cell? (a8 wr 1)=some (.string xs[k].s):=by rw[hW1];simp
  have hgl:wr.heap.size<W1.heap.size:=by rw[hW1];simp
  clear hra hal zA;go_wp2_with fail;rw[<-hW1];clear hW1 t0 t1;refine(wJ ad cap rs wr.heap.size xs[k].t _ hlen (HS.below Yg) hgl g0).mono ?_;rintro e w2 ⟨rfl,hb2⟩;have HB2:=iD Yg hb2;replace g0:=aD hb2 hgl g0;replace g1:=aD hb2 hgl g1;have HV2:=aB<|HV.below HB2;clear hb2 hgl;cases ht:l7 (ae rs) xs[k].t;case false=>
   have HN:O (pW (ae rs) xs=false):=vW _ _ k hlt (by simp[qQ,ht]);go_wp2;go_ret;exact⟨by rw[HN];rfl,HB2⟩
  cases he:xs[k].s.toList.isEmpty;case true=>
   have Ye:O (oO (ae rs) xs (k+1)=true):=by show _=_;rw[pX _ _ _ hlt,HP];simp[qQ,ht,he]
   go_wp2;go_roundw;case rel=>exact⟨k+1,cq,cx,Ye,HB2⟩
   simp[intOf]<;>omega
  cases hz:(M (xs[k].t,xs[k].s)).isSome;case false=>
   have HN:O (pW (ae rs) xs=false):=vW _ _ k hlt (by have:=HI.out;rw[hz]at this;simp[qQ,ht,he];simpa using this.symm);go_wp2_with(go_at_call 94;refine(Aj b n M xs[k].t xs[k].s _ z1 z2 HV2).mono ?_;rintro e w' ⟨he2,rfl⟩;rw[hz]at he2;subst he2);go_ret;exact⟨by rw[HN];rfl,HB2⟩
  have Ye:O (oO (ae rs) xs (k+1)=true):=by show _=_;rw[pX _ _ _ hlt,HP];have:=HI.out;rw[hz]at this;simp[qQ,ht,he];simpa using this.symm
  go_wp2_with(go_at_call 94;refine(Aj b n M xs[k].t xs[k].s _ z1 z2 HV2).mono ?_;rintro e w' ⟨he2,rfl⟩;rw[hz]at he2;subst he2);go_roundw;case rel=>exact⟨k+1,cq,cx,Ye,HB2⟩
  simp[intOf]<;>omega
 have HN:O (pW (ae rs) xs=true):=by
  have:=HP.out;obtain rfl:k=xs.length:=cq;unfold oO at this;rw[Xa]at this;exact this
 go_wp2;go_ret;exact⟨by rw[HN];rfl,HB⟩
def uX{e:Ex}(h:ax e=true)(h1:e.kind≠1):e.allow=[]:=by
 unfold ax at h;rw[if_neg h1]at h;split at h
 ·simp only[WM,WW]at h;exact Xb.1 h.1.1.2
 split at h
 ·simp only[WM,WW]at h;exact Xb.1 h.1.2
 split at h
 ·simp only[WM,WW]at h;exact Xb.1 h.1.1.2
 split at h
 ·simp only[WM,WW]at h;exact Xb.1 h.1.1.2
 cases h
def KE(ts:Q0b)(typ:bN)(rows:Q08)(k:Nat)(h:k<rows.length):aT ts typ (ai<|rows.drop k)=if pW ts rows[k].e.allow&&l8 ts typ rows[k].e then aT ts typ (ai<|rows.drop<|k+1) else false:=by
 rw[ic _ _ h];rfl
def H8(ts:Q0b)(typ:bN)(e:Ex)(h:e.kind=3):l8 ts typ e=!(gX ts typ e.over e.name).isEmpty:=by
 unfold l8 gX;rw[if_neg cq,if_pos h];cases bH (aj ts typ e.over)<;>simp
set_option maxRecDepth 100000 in
def Br(ad X9:Q02)(cap capE:Nat)(rs:Q06)(b n:Nat)(M:ByteArray×ByteArray->Option Value)(typ:bN)(rows:Q08)(w:af)(hlen:bh rs)(hs:jX w ad rs)(hl:∀r∈rs,r.light)(hf:∀r∈rs,r.fits)(hV:aN dE prog 146 w b n M)(hT:Tab rs M)(ht:typ.size<=maxLen)(hle:bh rows)(hse:iw w X9 rows)(hlE:∀q∈rows,q.e.light)(hfE:∀q∈rows,q.e.fits)(hnb:∀q∈rows,ax q.e=true):
  Calls prog 185 #[.slice ad rs.length cap,.map<|some b,.string typ,.slice X9 rows.length capE] w (bj w<|.bool<|aT (ae rs) typ<|ai rows):=by
 have HS:=aB hs;have HL:=aB hl;have Yc:=aB hf;have HV:O (aN dE prog 146 w b n M):=hV;have HT:=aB hT;have HE:=aB hse;have Zp:=aB hlE;have ZN:=aB hfE;have HNB:O (∀q∈rows,ax q.e=true):=hnb;clear hs hl hf hV hT hse hlE hfE hnb;go_enter func185,ntmps185;go_wp2_with fail;go_loopw[13] (fun i wr=>∃k:Nat,k<=rows.length/\i=.int .i64 k/\O (aT (ae rs) typ (ai<|rows.drop k)=aT (ae rs) typ (ai rows))/\O (ag w wr)) (fun i _=>rows.length-(intOf i).toNat);case atStart=>exact⟨0,WO _,rfl,rfl,WL _ _⟩
 obtain⟨k,hk,rfl,HP,HB⟩:=hrel;by_cases hlt:k<rows.length
 ·rcases HE.out.below HB.out with rfl|⟨bE,offE,rfl,hbE,hrE,hokE⟩
  ·simp at hlt
  obtain⟨t0,t1,t2,t3,t4⟩:=hrE k hlt;have HOKW:O (rows[k].ok w):=HE.mem<|WH hlt;have hk1:=bY k;have hk2:(k:Int)<(rows.length:Int):=cq;have lgA:bh rows[k].e.allow:=(Zp _<|WH hlt).1;have HFK:O (rows[k].e.fits):=ZN _<|WH hlt;have HNK:O (ax rows[k].e=true):=HNB _<|WH hlt;have HDR:=KE (ae rs) typ rows k hlt;have HD:O (aT (ae rs) typ (ai rows)=if pW (ae rs) rows[k].e.allow&&l8 (ae rs) typ rows[k].e then aT (ae rs) typ (ai<|rows.drop<|k+1) else false):=by show _=_;rw[<-HP];exact HDR
  obtain⟨W1,hW1⟩:=eQx<|wr.alloc<|.cells (ce rows[k]) 43;have hal:ag wr W1:=by rw[hW1];exact(WL _ _).alloc (WK _) _
  have Yg:=iD HB hal;have HVW:=aB<|HV.below Yg;have zO:rows[k].e.over.size<=maxLen:=HFK.2.1;have zN:rows[k].e.name.size<=maxLen:=HFK.2.2.1;clear hrE hokE hal HDR;by_cases h1:rows[k].e.kind=1
  ·have ZB:O (l8 (ae rs) typ rows[k].e=true):=by show _=_;unfold l8;rw[if_neg cq,if_neg cq]
   have hq1:(rows[k].e.kind==1)=true:=by simpa using h1
   replace h1:O (rows[k].e.kind=1):=h1;go_wp2_with fail;rw[<-hW1];refine(Bq ad rows[k].adA cap rows[k].capA rs b n M rows[k].e.allow _ hlen (HS.below Yg) HVW HT lgA (HOKW.1.below Yg) HFK.1).mono ?_;rintro e w2 ⟨rfl,hb2⟩;have HB2:=iD Yg hb2;clear hb2 hW1 t0 t1 t2 t3 t4;cases hz:pW (ae rs) rows[k].e.allow;case false=>
    have HN:O (aT (ae rs) typ (ai rows)=false):=by show _=_;rw[HD,hz];rfl
    go_wp2;go_ret;exact⟨by rw[HN];rfl,HB2⟩
   have Ye:O (aT (ae rs) typ (ai<|rows.drop<|k+1)=aT (ae rs) typ (ai rows)):=by show _=_;rw[HD,hz,ZB];rfl
   go_wp2;go_roundw;case rel=>exact⟨k+1,cq,cx,Ye,HB2⟩
   simp[intOf]<;>omega
  have hq1:(rows[k].e.kind==1)=false:=by simpa using h1
  have HRA:O (pW (ae rs) rows[k].e.allow=true):=by show _=_;rw[uX HNK h1];rfl
  by_cases h2:rows[k].e.kind=2
  ·have hq2:(rows[k].e.kind==2)=true:=by simpa using h2
   have HI:=HT.some_iff (typ,rows[k].e.name);have ZB:O (l8 (ae rs) typ rows[k].e=(M (typ,rows[k].e.name)).isSome):=by show _=_;unfold l8;rw[if_pos h2,HI]
   clear HI;replace h2:O (rows[k].e.kind=2):=h2;go_wp2_with fail;rw[<-hW1];refine(Aj b n M typ rows[k].e.name _ ht zN HVW).mono ?_;rintro e w2 ⟨rfl,hw2⟩;rw[hw2];clear hw2 w2 hW1 t0 t1 t2 t3 t4;cases hz:(M (typ,rows[k].e.name)).isSome;case false=>
    have HN:O (aT (ae rs) typ (ai rows)=false):=by show _=_;rw[HD,ZB,hz,HRA];rfl
    go_wp2;go_ret;exact⟨by rw[HN];rfl,Yg⟩
   have Ye:O (aT (ae rs) typ (ai<|rows.drop<|k+1)=aT (ae rs) typ (ai rows)):=by show _=_;rw[HD,ZB,hz,HRA];rfl
   go_wp2;go_roundw;case rel=>exact⟨k+1,cq,cx,Ye,Yg⟩
   simp[intOf]<;>omega
  have hq2:(rows[k].e.kind==2)=false:=by simpa using h2
  by_cases h3:rows[k].e.kind=3
  ·have hq3:(rows[k].e.kind==3)=true:=by simpa using h3
   have ZB:O (l8 (ae rs) typ rows[k].e=!(gX (ae rs) typ rows[k].e.over rows[k].e.name).isEmpty):=H8 _ _ _ h3;replace h3:O (rows[k].e.kind=3):=h3;go_wp2_with fail;rw[<-hW1];refine(zt b n rs ad M typ rows[k] _ HVW HT (HS.below Yg) HL Yc ht zO zN).mono ?_;rintro e w2 ⟨⟨Yh,cap',rfl,-,-⟩,hb2⟩;have HB2:=iD Yg hb2;clear hb2 hW1 t0 t1 t2 t3 t4;generalize gX (ae rs) typ rows[k].e.over rows[k].e.name=gs at ZB⊢;cases gs with
   | nil =>
    have HN:O (aT (ae rs) typ (ai rows)=false):=by show _=_;rw[HD,ZB,HRA];rfl
    go_wp2;go_ret;exact⟨by rw[HN];rfl,HB2⟩
   | cons g gs =>
    have Ye:O (aT (ae rs) typ (ai<|rows.drop<|k+1)=aT (ae rs) typ (ai rows)):=by show _=_;rw[HD,ZB,HRA];rfl
    have hlz:(((g::gs).length:Int)==0)=false:=by
     have:¬(((g::gs).length:Int)=0):=by simp;omega
     simpa using this
    obtain⟨ln,hln⟩:=eQx<|(g::gs).length;rw[<-hln]at hlz ⊢;clear hln;go_wp2;go_roundw;case rel=>exact⟨k+1,cq,cx,Ye,HB2⟩
    simp[intOf]<;>omega
  have hq3:(rows[k].e.kind==3)=false:=by simpa using h3
  have ZB:O (l8 (ae rs) typ rows[k].e=true):=by show _=_;unfold l8;rw[if_neg h2,if_neg h3]
  have Ye:O (aT (ae rs) typ (ai<|rows.drop<|k+1)=aT (ae rs) typ (ai rows)):=by show _=_;rw[HD,ZB,HRA];rfl
  have YY:O (ag w<|wr.alloc<|.cells (ce rows[k]) 43):=by rw[<-hW1];exact Yg
  clear hW1;go_wp2;go_roundw;case rel=>exact⟨k+1,cq,cx,Ye,YY⟩
  simp[intOf]<;>omega
 have HN:O (aT (ae rs) typ (ai rows)=true):=by show _=_;rw[<-HP,Xm cq];rfl
 go_wp2;go_ret;exact⟨by rw[HN];rfl,HB⟩
def Al.cells(a:Al):List Value:=[.string a.t,.string a.s]
def iX:List Al->List Value
 | []=>[]
 | a::xs=>a.cells++iX xs
def F3(xs ys:Q0a):iX (xs++ys)=iX xs++iX ys:=by
 induction xs with
 | nil=>rfl
 | cons d ds ih=>simp[iX,ih]
def Bt(xs:Q0a)(d:Al):iX (xs++[d])=iX xs++d.cells:=by rw[F3];simp[iX]
def Em(xs:Q0a)(i:Nat)(h:i<xs.length)(o:Nat)(ho:o<2):(iX xs)[i*2+o]?=(xs[i].cells)[o]?:=by
 induction xs generalizing i with
 | nil=>simp at h
 | cons s xs ih =>
  cases i with
  | zero =>
   simp only[iX,Nat.zero_mul,Xl,List.getElem_cons_zero];rw[XD (by simp[Al.cells];omega)]
  | succ i =>
   simp only[iX,List.getElem_cons_succ];rw[Xx (by simp[Al.cells];omega)];have e:(i+1)*2+o-s.cells.length=i*2+o:=by simp[Al.cells];omega
   rw[e];exact ih i (by simpa using h)
def QC{w:af}{base:Nat}{v:Value}{xs:Q0a}(h:w.ownsRow base 146 2 v xs.length<|iX xs):∃ad cp,v=.slice ad xs.length cp/\kV w ad xs/\∀p,ad=some p->base<=p.block:=by
 have h2:=h;rcases h.2 with⟨rfl,h0⟩|⟨g,cp,cur,rfl,hbg,hg,hnc,-⟩
 ·exact⟨none,0,by rw[h0],.inl<|Xb.1 h0,fun p hp=>by cases hp⟩
 have hlt:=h2.lt g rfl;refine⟨_,cp,rfl,.inr ⟨g,0,rfl,hlt.2,fun i hi=>?_⟩,fun p hp=>by injection hp with hp;rw[<-hp];exact hlt.1⟩;have h3:∀(o:Nat) (u:Value),(iX xs)[i*2+o]?=some u->ac w g (0+i*2+o) u:=fun o u hu=>by
  have:=h2.cells (g:=g) rfl (i*2+o) u hu;rw[Hl]at this;rw[Xl];exact this
 exact⟨h3 0 _ (by have:=Em xs i hi 0 cq;simpa[Al.cells] using this),h3 1 _ (by have:=Em xs i hi 1 cq;simpa[Al.cells] using this)⟩
def dQ:List Al->List Al
 | []=>[]
 | a::xs=>if a.s.toList.isEmpty then dQ xs else a::dQ xs
def wK(xs ys:Q0a):dQ (xs++ys)=dQ xs++dQ ys:=by
 induction xs with
 | nil=>rfl
 | cons a xs ih=>simp only[XB,dQ,ih];split<;>simp
def QD(xs:Q0a)(k:Nat)(h:k<xs.length)(he:xs[k].s.toList.isEmpty=true):dQ (xs.take<|k+1)=dQ (xs.take k):=by
 rw[WN h,wK];simp[dQ]at he ⊢;simp[he]
def NR(xs:Q0a)(k:Nat)(h:k<xs.length)(he:xs[k].s.toList.isEmpty=false):dQ (xs.take<|k+1)=dQ (xs.take k)++[xs[k]]:=by
 rw[WN h,wK];simp[dQ,he]
def En(xs:Q0a):(dQ xs).length<=xs.length:=by
 induction xs with
 | nil=>simp[dQ]
 | cons a xs ih=>simp only[dQ];split<;>simp<;>omega
def jO(ts:Q0b)(typ:ByteArray)(e:Ex):List Al :=
 if e.kind=1 then dQ e.allow else if e.kind=2 then [⟨typ,e.name⟩] else if e.kind=3 then (gX ts typ e.over e.name).map fun g=>⟨g,e.name⟩ else []
def QE:(prog.info? 146).map (fun i=>(i.zero,i.size,i.bytes))=some (some<|.agg aE,2,32):=cw
def F4(rs:Q06)(hl:∀r∈rs,r.light)(typ over rel:bN):(gX (ae rs) typ over rel).length<=1048576:=by
 unfold gX;split
 ·exact zm rs hl typ over rel
 simp
def xZ(w:af)(o o':Obj):((w.alloc o).alloc o').heap[w.heap.size+1]?=some o':=by
 have:=heap_alloc_new (w.alloc o) o';simpa using this
set_option maxRecDepth 100000 in
def H9(b n:Nat)(rs:Q06)(ad:Q02)(M:ByteArray×ByteArray->Option Value)(typ:bN)(x:ER)(w:af)(hV:aN dE prog 146 w b n M)(hT:Tab rs M)(hs:jX w ad rs)(hl:∀r∈rs,r.light)(hf:∀r∈rs,r.fits)(ht:typ.size<=maxLen)(hxf:x.e.fits)(hxl:x.e.light)(hxo:x.ok w):
  Calls prog 261 #[.map (some b),.string typ,x.val] w fun e w'=>(∃(Yh:Q02) (cap':Nat),e=.returned (.slice Yh (jO (ae rs) typ x.e).length cap')/\kV w' Yh (jO (ae rs) typ x.e)/\∀p,Yh=some p->w.heap.size<=p.block)/\ag w w':=by
 have HV:O (aN dE prog 146 w b n M):=hV;have HT:=aB hT;have HS:=aB hs;have HL:=aB hl;have Yc:=aB hf;have HXF:=aB hxf;have HXO:=aB hxo;have lgA:bh x.e.allow:=hxl.1;clear hV hT hs hl hf hxf hxo hxl;obtain⟨i0,hi,hz0,hz1,hz2⟩:=info_parts QE;obtain⟨W0,hW0⟩:=eQx<|w.alloc<|.cells (ce x) 43;have hal:ag w W0:=by rw[hW0];exact(WL _ _).alloc (WK _) _
 have HB0:=aB hal;have hg0:w.heap.size<W0.heap.size:=by rw[hW0];simp
 have c0:W0.cell? (a7 w)=some (.int .i64 x.e.kind):=by rw[hW0];simp
 have c1:W0.cell? (a8 w 1)=some (.slice x.adA x.e.allow.length x.capA):=by rw[hW0];simp
 have c2:W0.cell? (a8 w 2)=some (.string x.e.over):=by rw[hW0];simp
 have c3:W0.cell? (a8 w 3)=some (.string x.e.name):=by rw[hW0];simp
 have c4:W0.cell? (a8 w 4)=some (.slice x.adK x.e.kids.length x.capK):=by rw[hW0];simp
 clear hal;unfold ER.val;by_cases h1:x.e.kind=1
 ·have HLI:O (jO (ae rs) typ x.e=dQ x.e.allow):=by show _=_;unfold jO;rw[if_pos h1]
  have hq1:(x.e.kind==1)=true:=by simpa using h1
  replace h1:O (x.e.kind=1):=h1;go_enter func261,ntmps261;go_wp2_with fail;rw[<-hW0];clear hW0;go_loopw[7,19] (fun v i wr=>∃k:Nat,k<=x.e.allow.length/\i=.int .i64 k/\O (cD w wr 146 2 v (dQ<|x.e.allow.take k).length<|iX<|dQ<|x.e.allow.take k)/\O (ag w wr)) (fun _ i _=>x.e.allow.length-(intOf i).toNat);case atStart=>exact⟨0,WO _,rfl,World.ownsRow_nil _ _ _ _,HB0⟩
  clear HB0 c0 c1 c2 c3 c4 hg0;obtain⟨k,hk,rfl,HOW,HB⟩:=hrel;by_cases hlt:k<x.e.allow.length
  ·rcases (HXO.out.1).below HB.out with hnil|⟨ba,ZQ,had,hba,hra⟩
   ·rw[hnil]at hlt;simp at hlt
   obtain⟨t0,t1⟩:=hra k hlt;have hk1:=bY k;have hk2:(k:Int)<(x.e.allow.length:Int):=cq;obtain⟨W1,hW1⟩:=eQx<|wr.alloc<|.cells #[.string x.e.allow[k].t,.string x.e.allow[k].s] 216;have hal:ag wr W1:=by rw[hW1];exact(WL _ _).alloc (WK _) _
   have Yg:=iD HB hal;have HOW1:O (cD w W1 146 2 u7 (dQ<|x.e.allow.take k).length<|iX<|dQ<|x.e.allow.take k):=own_below HOW hal;have g0:W1.cell? (a7 wr)=some (.string x.e.allow[k].t):=by rw[hW1];simp
   have g1:W1.cell? (a8 wr 1)=some (.string x.e.allow[k].s):=by rw[hW1];simp
   have hgl1:wr.heap.size<W1.heap.size:=by rw[hW1];simp
   have hgl:=En<|x.e.allow.take k;rw[XC]at hgl;have hwsz:cV w W1:=Yg.size;rw[had];clear hra hal HOW;cases he:x.e.allow[k].s.toList.isEmpty;case true=>
    have HE:O (dQ (x.e.allow.take<|k+1)=dQ (x.e.allow.take k)):=QD _ _ hlt he;have YY:O (ag w<|wr.alloc<|.cells #[.string x.e.allow[k].t,.string x.e.allow[k].s] 216):=by rw[<-hW1];exact Yg
    have HOX:O ((wr.alloc<|.cells #[.string x.e.allow[k].t,.string x.e.allow[k].s] 216).ownsRow w.heap.size 146 2 u7 (dQ<|x.e.allow.take<|k+1).length<|iX<|dQ<|x.e.allow.take<|k+1):=by rw[<-hW1,HE];exact HOW1
    clear hW1 g0 g1;go_wp2;go_roundw;case rel=>exact⟨k+1,cq,cx,HOX,YY⟩
    simp[intOf]<;>omega
   have HX:O (dQ (x.e.allow.take<|k+1)=dQ (x.e.allow.take k)++[x.e.allow[k]]):=NR _ _ hlt he;have HOX:O ((wr.alloc<|.cells #[.string x.e.allow[k].t,.string x.e.allow[k].s] 216).ownsRow w.heap.size 146 2 u7 (dQ<|x.e.allow.take k).length<|iX<|dQ<|x.e.allow.take k):=by rw[<-hW1];exact HOW1
   have YY:O (ag w<|wr.alloc<|.cells #[.string x.e.allow[k].t,.string x.e.allow[k].s] 216):=by rw[<-hW1];exact Yg
   have hws:cV w wr:=HB.size;clear hW1 HOW1 Yg g0 g1 hgl1 hwsz W1;go_wp2_with(at_builtin;refine wpList_append_own_at _ rfl _ _ 340 rfl w.heap.size 146 i0 _ 2 32 underlying340 hi hz0 hz1 hz2 rfl cv _ _ _ rfl (HOX.alloc _) ⟨wr.heap.size+1,0,none⟩ 1 1 [.string x.e.allow[k].t,.string x.e.allow[k].s] rfl rfl (World.news_of_block (cs:=#[.string x.e.allow[k].t,.string x.e.allow[k].s]) (t:=146) (fr:=(0,0))<|xZ wr _ _) (by simp[Value.oneCell']) cy cq (by simp;omega) ?_);intro v' w3 hown3 hgrow _ hloc;have HB3:O (ag w w3):=(YY.alloc YY.size _).grown hgrow (by simp;omega) (fun i hi=>(HOX.lt i hi).1);have YK:O (cD w w3 146 2 v' (dQ<|x.e.allow.take<|k+1).length<|iX<|dQ<|x.e.allow.take<|k+1):=by
    show World.ownsRow _ _ _ _ _ _ _;rw[HX,Bt,WP];exact hown3
   clear hown3 hgrow hloc HOX YY;go_wp2;go_roundw;case rel=>exact⟨k+1,cq,cx,YK,HB3⟩
   simp[intOf]<;>omega
  obtain rfl:k=x.e.allow.length:=cq;have hown:=HOW.out;rw[Xa]at hown;obtain⟨Yh,cp,rfl,hS',hN'⟩:=QC hown;have HS2:=aB hS';have HN2:O (∀p,Yh=some p->w.heap.size<=p.block):=hN';clear hown HOW hS' hN';go_wp2;go_ret;exact⟨⟨Yh,cp,by rw[HLI];rfl,by rw[HLI];exact HS2,HN2⟩,HB⟩
 have hq1:(x.e.kind==1)=false:=by simpa using h1
 by_cases h2:x.e.kind=2
 ·have HLI:O (jO (ae rs) typ x.e=[⟨typ,x.e.name⟩]):=by show _=_;unfold jO;rw[if_neg h1,if_pos h2]
  have hq2:(x.e.kind==2)=true:=by simpa using h2
  replace h2:O (x.e.kind=2):=h2;have HOX:O ((w.alloc<|.cells (ce x) 43).ownsRow w.heap.size 146 2 (.slice none 0 0) 0 []):=World.ownsRow_nil _ _ _ _;have YY:O (ag w<|w.alloc<|.cells (ce x) 43):=by rw[<-hW0];exact HB0
  clear hW0 HB0 c0 c1 c2 c3 c4 hg0 W0;go_enter func261,ntmps261;go_wp2_with(at_builtin;refine wpList_append_own_at _ rfl _ _ 340 rfl w.heap.size 146 i0 _ 2 32 underlying340 hi hz0 hz1 hz2 rfl cv _ _ _ rfl (HOX.alloc _) ⟨w.heap.size+1,0,none⟩ 1 1 [.string typ,.string x.e.name] rfl rfl (World.news_of_block (cs:=#[.string typ,.string x.e.name]) (t:=146) (fr:=(0,0))<|xZ w _ _) (by simp[Value.oneCell']) cy cq (by simp;omega) ?_);intro v' w3 hown3 hgrow _ hloc;have HB3:O (ag w w3):=(YY.alloc YY.size _).grown hgrow (by simp;omega) (fun i hi=>(HOX.lt i hi).1);have YB:cD w w3 146 2 v' ([⟨typ,x.e.name⟩]:Q0a).length (iX [⟨typ,x.e.name⟩]):=hown3;obtain⟨Yh,cp,rfl,hS',hN'⟩:=QC YB;have HS2:=aB hS';have HN2:O (∀p,Yh=some p->w.heap.size<=p.block):=hN';clear hown3 YB hgrow hloc HOX YY hS' hN';go_wp2;go_ret;exact⟨⟨Yh,cp,by rw[HLI];rfl,by rw[HLI];exact HS2,HN2⟩,HB3⟩
 have hq2:(x.e.kind==2)=false:=by simpa using h2
 by_cases h3:x.e.kind=3
 ·have HLI:O (jO (ae rs) typ x.e=(gX (ae rs) typ x.e.over x.e.name).map fun g=>(⟨g,x.e.name⟩:Al)):=by show _=_;unfold jO;rw[if_neg h1,if_neg h2,if_pos h3]
  have hq3:(x.e.kind==3)=true:=by simpa using h3
  replace h3:O (x.e.kind=3):=h3;have HGL:(gX (ae rs) typ x.e.over x.e.name).length<=1048576:=F4 rs HL _ _ _;have HV0:=aB<|HV.below HB0;go_enter func261,ntmps261;go_wp2_with fail;rw[<-hW0];refine(zt b n rs ad M typ x _ HV0 HT (HS.below HB0) HL Yc ht HXF.2.1 HXF.2.2.1).mono ?_;rintro e w1 ⟨⟨adG,cpG,rfl,hSG,hNG⟩,hb1⟩;generalize gX (ae rs) typ x.e.over x.e.name=gs at *
  have HB1:=iD HB0 hb1;have HSG:=aB hSG;have HNG:O (∀p,adG=some p->W0.heap.size<=p.block):=hNG;have YH:O (ac w1 w.heap.size 3 (.string x.e.name)/\w.heap.size<w1.heap.size):=⟨aD hb1 hg0 c3,WJ hg0 hb1.size⟩;clear hW0 hSG hNG hb1 c0 c1 c2 c3 c4 HB0 HV0 hg0 HNG;go_wp2_with fail;go_loopw[7,51] (fun v i wr=>∃m:Nat,m<=gs.length/\i=.int .i64 m/\O (cD w wr 146 2 v m<|iX<|(gs.take m).map fun g=>(⟨g,x.e.name⟩:Al))/\O (ag w wr)/\O (Aside w1 (.slice none 0 0) wr v)) (fun _ i _=>gs.length-(intOf i).toNat);case atStart=>exact⟨0,WO _,rfl,World.ownsRow_nil _ _ _ _,HB1,Aside.refl _ _⟩
  clear HB1;obtain⟨m,hm,rfl,HO,HB,HA⟩:=hrel;have x3:=rC HA YH.2 (by simp[Value.ownBlock]) YH.1;by_cases Yv:m<gs.length
  ·rcases HSG.out with rfl|⟨bg,offg,rfl,hbg,hrg⟩
   ·simp at Yv
   have q0:=rC HA hbg (by simp[Value.ownBlock]) (hrg m Yv);have hm1:=bY m;have hm2:(m:Int)<(gs.length:Int):=cq
   have hws:cV w wr:=HB.size;have HFX:O (iX ((gs.take<|m+1).map fun g=>(⟨g,x.e.name⟩:Al))=iX ((gs.take m).map fun g=>(⟨g,x.e.name⟩:Al))++[.string gs[m],.string x.e.name]):=by
    show _=_;rw[WN Yv,Xy,List.map_singleton,Bt];rfl
   clear hrg;go_wp2_with(at_builtin;refine wpList_append_own_at _ rfl _ _ 340 rfl w.heap.size 146 i0 _ 2 32 underlying340 hi hz0 hz1 hz2 rfl cv _ _ _ rfl (HO.alloc _) ⟨wr.heap.size,0,none⟩ 1 1 [.string gs[m],.string x.e.name] rfl rfl (World.news_of_block (cs:=#[.string gs[m],.string x.e.name]) (t:=146) (fr:=(0,0))<|heap_alloc_new wr _) (by simp[Value.oneCell']) cy cq (by simp;omega) ?_);intro v' w3 hown3 hgrow _ hloc;have HB3:O (ag w w3):=(HB.alloc HB.size _).grown hgrow (by simp;omega) (fun i hi=>(HO.lt i hi).1);have YK:O (cD w w3 146 2 v' (m+1)<|iX<|(gs.take<|m+1).map fun g=>(⟨g,x.e.name⟩:Al)):=by
    show World.ownsRow _ _ _ _ _ _ _;rw[HFX];simpa[List.map_take] using hown3
   have ZK:O (Aside w1 (.slice none 0 0) w3 v'):=HA.trans ((Aside.below<|(WL _ _).alloc (WK _) _).trans<|Aside.app hgrow<|by simpa using hloc);clear hown3 hgrow hloc HO HA;go_wp2;go_roundw;case rel=>exact⟨m+1,cq,cx,YK,HB3,ZK⟩
   simp[intOf]<;>omega
  obtain rfl:m=gs.length:=cq;have hown:=HO.out;rw[Xa]at hown;have e:gs.length=(gs.map fun g=>(⟨g,x.e.name⟩:Al)).length:=ct
  rw[e]at hown;obtain⟨Yh,cp,rfl,hS',hN'⟩:=QC hown;have HS2:O (kV wr Yh<|gs.map fun g=>(⟨g,x.e.name⟩:Al)):=hS';have HN2:O (∀p,Yh=some p->w.heap.size<=p.block):=hN';obtain⟨ln,hln⟩:=eQx<|(gs.map fun g=>(⟨g,x.e.name⟩:Al)).length;rw[<-hln];have HLN:O (ln=(gs.map fun g=>(⟨g,x.e.name⟩:Al)).length):=hln;clear hown HO hS' hN' e HA x3 hln;go_wp2;go_ret;exact⟨⟨Yh,cp,by rw[HLI,<-HLN];rfl,by rw[HLI];exact HS2,HN2⟩,HB⟩
 have HLI:O (jO (ae rs) typ x.e=[]):=by show _=_;unfold jO;rw[if_neg h1,if_neg h2,if_neg h3]
 have hq3:(x.e.kind==3)=false:=by simpa using h3
 have YY:O (ag w<|w.alloc<|.cells (ce x) 43):=by rw[<-hW0];exact HB0
 clear hW0 HB0 c0 c1 c2 c3 c4 hg0;go_enter func261,ntmps261;go_wp2;go_ret;exact⟨⟨none,0,by rw[HLI];rfl,by rw[HLI];exact .inl rfl,fun p hp=>by cases hp⟩,YY⟩
abbrev Ky:=ByteArray×ByteArray
def lookL(E:List<|Ky×St)(k:Ky):List St:=E.filterMap fun p=>if p.1=k then some p.2 else none
def lookL_append(E F:List<|Ky×St)(k:Ky):lookL (E++F) k=lookL E k++lookL F k:=by unfold lookL;rw[List.filterMap_append]
def uW(E:List<|Ky×St)(k:Ky)(s:St):lookL (E++[(k,s)]) k=lookL E k++[s]:=by rw[lookL_append];simp[lookL]
def rF(E:List<|Ky×St){k y:Ky}(s:St)(h:k≠y):lookL (E++[(y,s)]) k=lookL E k:=by rw[lookL_append];simp[lookL,Ne.symm h]
def mem_lookL{E:List<|Ky×St}{k:Ky}{s:St}:s∈lookL E k↔(k,s)∈E:=by
 unfold lookL;rw[List.mem_filterMap];constructor
 ·rintro⟨⟨a,b⟩,h1,h2⟩;simp only at h2;split at h2
  ·rename_i e;injection h2 with h2;rw[<-e,<-h2];exact h1
  cases h2
 intro h;exact⟨(k,s),h,ct⟩
def FreeB(M:Ky->Option Value)(g:Nat):Prop:=∀k v,M k=some v->v.ownBlock≠some g
structure Grp(w:World)(bL n:Nat)(M:Ky->Option Value)(E:List<|Ky×St):Prop where
 map:aN dE prog 146 w bL n M
 row:∀k,(M k=none/\lookL E k=[]) \/ ∃v,M k=some v/\w.ownsRow (bL+1) 337 3 v (lookL E k).length (ji<|lookL E k)
 apart:∀k k' v v',k≠k'->M k=some v->M k'=some v'->∀g,v.ownBlock=some g->v'.ownBlock≠some g
def Grp.lt{w:af}{bL n:Nat}{M:Ky->Option Value}{E:List<|Ky×St}(h:Grp w bL n M E){k:Ky}{v:Value}(hk:M k=some v){g:Nat}(hg:v.ownBlock=some g):bL<g/\g<w.heap.size:=by
 rcases h.row k with⟨e,-⟩|⟨v',e,ho⟩
 ·rw[e]at hk;cases hk
 rw[e]at hk;injection hk with hk;subst hk;have:=ho.lt g hg;exact⟨cq,this.2⟩
def Grp.fresh{w:af}{bL n:Nat}{M:Ky->Option Value}{E:List<|Ky×St}(h:Grp w bL n M E){g:Nat}(hg:w.heap.size<=g):FreeB M g:=fun k v hk e=>by
 have:=(h.lt hk e).2;omega
def Grp.mono{w:af}{bL n n':Nat}{M:Ky->Option Value}{E:List<|Ky×St}(h:Grp w bL n M E)(hn:n<=n'):Grp w bL n' M E:=⟨h.map.mono hn,h.row,h.apart⟩
def Grp.below{w w':af}{bL n:Nat}{M:Ky->Option Value}{E:List<|Ky×St}(h:Grp w bL n M E)(hB:ag w w'):Grp w' bL n M E where
 map:=h.map.below hB
 row k:=by
  rcases h.row k with e|⟨v,e,ho⟩
  ·exact .inl e
  exact .inr ⟨v,e,own_below ho hB⟩
 apart:=h.apart
def grp_made(w:af):Grp (w.alloc<|.map #[] 0) w.heap.size 0 (fun _=>none) [] where
 map:=oM _ _ _ w
 row k:=.inl ⟨rfl,rfl⟩
 apart k k' v v' _ h:=by cases h
structure Stl(W:World)(M:Ky->Option Value)(w2:World)(M2:Ky->Option Value)(bL:Nat):Prop where
 size:W.heap.size<=w2.heap.size
 block:∀g,g<W.heap.size->g≠bL->FreeB M g->w2.heap[g]?=W.heap[g]?
 free:∀g,g<W.heap.size->FreeB M g->FreeB M2 g
def Stl.refl(W:af)(M:Ky->Option Value)(bL:Nat):Stl W M W M bL:=⟨WK _,fun _ _ _ _=>rfl,fun _ _ h=>h⟩
def Stl.trans{W w2 w3:af}{M M2 M3:Ky->Option Value}{bL:Nat}(h:Stl W M w2 M2 bL)(h2:Stl w2 M2 w3 M3 bL):Stl W M w3 M3 bL where
 size:=WR h.size h2.size
 block g hg hb hf:=(h2.block g (WJ hg h.size) hb<|h.free g hg hf).trans<|h.block g hg hb hf
 free g hg hf:=h2.free g (WJ hg h.size)<|h.free g hg hf
def Stl.below{W w2:af}{M:Ky->Option Value}{bL:Nat}(hB:ag W w2):Stl W M w2 M bL:=⟨hB.size,fun g hg _ _=>hB.block g hg,fun _ _ h=>h⟩
structure Cel(w:World)(M:Ky->Option Value)(bL g o:Nat)(u:Value):Prop where
 cell:w.cell? ⟨g,o,none⟩=some u
 lt:g<w.heap.size
 free:FreeB M g
 ne:g≠bL
def Cel.stl{w w2:af}{M M2:Ky->Option Value}{bL g o:Nat}{u:Value}(h:Cel w M bL g o u)(hS:Stl w M w2 M2 bL):Cel w2 M2 bL g o u where
 cell:=(WX (w:=w)<|hS.block g h.lt h.ne h.free).trans h.cell
 lt:=WJ h.lt hS.size
 free:=hS.free g h.lt h.free
 ne:=h.ne
def Grp.step{W0 w1 w2 w3:af}{bL n:Nat}{M:Ky->Option Value}{E:List<|Ky×St}{y:Ky}{v':Value}{s:St}(h:Grp W0 bL n M E)(hg1:W0.grownBy w1<|some bL)(hown:w2.ownsRow (bL+1) 337 3 v' ((lookL E y).length+1)<|ji (lookL E y)++s.cells)
  (hg2:w1.grownBy w2 ((M y).getD<|.slice none 0 0).ownBlock) (hloc:v'.ownBlock=((M y).getD<|.slice none 0 0).ownBlock\/v'.ownBlock=some w1.heap.size) (hg3:w2.grownBy w3<|some bL) (hM:aN dE prog 146 w3 bL (n+1)<|l6 M y<|some v') :
  Grp w3 bL (n+1) (l6 M y<|some v') (E++[(y,s)])/\Stl W0 M w3 (l6 M y<|some v') bL:=by
 have hrow0:∀k v,M k=some v->∃xs m,W0.ownsRow (bL+1) 337 3 v m xs:=fun k v hk=>by
  rcases h.row k with⟨e,-⟩|⟨v1,e,ho⟩
  ·rw[e]at hk;cases hk
  rw[e]at hk;injection hk with hk;subst hk;exact⟨_,_,ho⟩
 have hne2:∀k v,k≠y->M k=some v->v.ownBlock=none\/v.ownBlock≠((M y).getD<|.slice none 0 0).ownBlock:=fun k v hky hk=>by
  cases e:v.ownBlock with
  | none=>exact .inl rfl
  | some g =>
   right;cases ey:M y with
   | none=>simp[Value.ownBlock]
   | some vy=>intro e2;exact h.apart k y v vy hky hk ey g e (by simpa using e2.symm)
 have hnb:∀v,(∃k,M k=some v)->v.ownBlock=none\/v.ownBlock≠some bL:=fun v ⟨k,hk⟩=>by
  cases e:v.ownBlock with
  | none=>exact .inl rfl
  | some g=>right;have:=(h.lt hk e).1;intro e2;injection e2 with e2;omega
 have hnew:∀g,v'.ownBlock=some g->bL<g:=fun g e=>by have:=(hown.lt g e).1;omega
 have hv'b:v'.ownBlock=none\/v'.ownBlock≠some bL:=by
  cases e:v'.ownBlock with
  | none=>exact .inl rfl
  | some g=>right;have:=hnew g e;intro e2;injection e2 with e2;omega
 constructor
 ·refine⟨hM,fun k=>?_,fun k k' v u hkk hk hk' g e=>?_⟩
  ·by_cases ek:k=y
   ·subst ek;rw[fu,uW];refine .inr ⟨v',rfl,?_⟩;rw[AZ,WP];exact hown.kept hg3 hv'b
   rw[dh ek,rF _ _ ek];rcases h.row k with e|⟨v,e,ho⟩
   ·exact .inl e
   exact .inr ⟨v,e,((ho.kept hg1<|hnb v ⟨k,e⟩).kept hg2<|hne2 k v ek e).kept hg3<|hnb v ⟨k,e⟩⟩
  by_cases ek:k=y
  ·subst ek;rw[fu]at hk;injection hk with hk;subst hk;rw[dh (Ne.symm hkk)]at hk';intro e2;rcases hloc with el|el
   ·rw[e]at el;cases ey:M k with
    | none=>rw[ey]at el;simp[Value.ownBlock]at el
    | some vy=>rw[ey]at el;exact h.apart k k' vy u hkk ey hk' g (by simpa using el.symm) e2
   rw[e]at el;injection el with el;have:=(h.lt hk' e2).2;have:=hg1.size;omega
  rw[dh ek]at hk;by_cases ek':k'=y
  ·subst ek';rw[fu]at hk';injection hk' with hk';subst hk';intro e2;rcases hloc with el|el
   ·rw[e2]at el;cases ey:M k' with
    | none=>rw[ey]at el;simp[Value.ownBlock]at el
    | some vy=>rw[ey]at el;exact h.apart k k' v vy hkk hk ey g e (by simpa using el.symm)
   rw[e2]at el;injection el with el;have:=(h.lt hk e).2;have:=hg1.size;omega
  rw[dh ek']at hk';exact h.apart k k' v u hkk hk hk' g e
 refine⟨WR hg1.size<|WR hg2.size hg3.size,fun g hg hb hf=>?_,fun g hg hf k v hk=>?_⟩
 ·have h1:=hg1.block g hg (fun e=>hb<|by injection e);have h2:=hg2.block g (WJ hg hg1.size) (fun e=>by
   cases ey:M y with
   | none=>rw[ey]at e;simp[Value.ownBlock]at e
   | some vy=>rw[ey]at e;exact hf y vy ey<|by simpa using e.symm)
  have h3:=hg3.block g (WJ hg<|WR hg1.size hg2.size) (fun e=>hb<|by injection e);rw[h3,h2,h1]
 by_cases ek:k=y
 ·subst ek;rw[fu]at hk;injection hk with hk;subst hk;intro e2;rcases hloc with el|el
  ·rw[e2]at el;cases ey:M k with
   | none=>rw[ey]at el;simp[Value.ownBlock]at el
   | some vy=>rw[ey]at el;exact hf k vy ey (by simpa using el.symm)
  rw[e2]at el;injection el with el;have:=hg1.size;omega
 rw[dh ek]at hk;exact hf k v hk
set_option linter.unusedVariables false
structure CL(c p q:Nat)(C:Nat->Value)(W:World)(M1:Value->World->Prop)(l:Nat->Bool)(f:Nat->Value)(w:World):Prop where
 val:∀k,k≠c->l k=true->f k=C k
 bel:ag W w
 mid:l c=true->M1 (f c) w
 dep:l p=true->l q=true
section
variable  {c p q:Nat}{C:Nat->Value}{W:World}{M1:Value->World->Prop}{l:Nat->Bool}{f:Nat->Value}{w w':World}
def CL.put(h:CL c p q C W M1 l f w){i:Nat}(hi:i≠c)(hd:i=p->l q=true){v:Value}(hv:v=C i):CL c p q C W M1 (fun k=>if k=i then true else l k) (upd f i v) w:=by
 refine⟨fun k hk hl=>?_,h.bel,fun hl=>?_,fun hl=>?_⟩
 ·by_cases e:k=i
  ·subst e;simp[upd,hv]
  simp only[if_neg e]at hl;simp only[upd,if_neg e];exact h.val k hk hl
 ·simp only[if_neg (Ne.symm hi)]at hl;simp only[upd,if_neg<|Ne.symm hi];exact h.mid hl
 have:l q=true:=by
  by_cases e:p=i
  ·exact hd e.symm
  rw[if_neg e]at hl;exact h.dep hl
 show(if q=i then true else l q)=true;rw[this];split<;>rfl
def CL.call(h:CL c p q C W M1 l f w)(hpc:p≠c){v:Value}(hb:ag W w')(h1:M1 v w'):CL c p q C W M1 (fun k=>if k=c then true else l k) (upd f c v) w':=by
 refine⟨fun k hk hl=>?_,hb,fun _=>by simpa[upd] using h1,fun hl=>?_⟩
 ·simp only[if_neg hk]at hl;simp only[upd,if_neg hk];exact h.val k hk hl
 rw[if_neg hpc]at hl;show(if q=c then true else l q)=true;rw[h.dep hl];split<;>rfl
end
section
variable  {P:Program}{ops:Array Oper}{Q:Exit->Act->World->Prop}
def Bu{id:Nat}{a:Act}{w:af}(N:Nat)(f0:Nat->Value)(F:(Nat->Value)->Act)(V:Nat->Value->World->Prop)(G:Array Bool->World->Prop)
  (hm:P.follows .mixedOrders=true) (hsz:ops.size=N) (YC:DL ops=true)
  (h0:a=F f0) (hG0:G (Array.replicate ops.size false) w.drew)
  (hstep:∀ i,i<N->∀ o,ops[i]?=some o->∀ (listed:Array Bool) f w',listed.size=N->listed.getD i true=false->G listed w'->(∀ e∈o.after,Region.binds .any e=true->V e.on (f e.on) w') ->
   wpOp P ops Q i (fun a' w''=>∃v,a'=F (upd f i v)/\G (listed.setIfInBounds i true) w''/\V i v w''/\∀k u,V k u w'->V k u w'') (F f) w')
  (hend:∀(listed:Array Bool) f w',(∀k,k<N->listed.getD k false=true)->G listed w'->(∀k,k<N->V k (f k) w')->Q .normal (F f) w') :
  (Code.region id ops true).wp P Q a w:=by
 refine eY (fun listed a' w'=>listed.size=N/\∃f,a'=F f/\G listed w'/\∀k,k<N->listed.getD k false=true->V k (f k) w') hm ?_ ?_ ?_
 ·refine⟨by simpa using hsz,_,h0,hG0,fun k _ h=>?_⟩;rw[Xf,Xz]at h;split at h<;>cases h
 ·rintro listed a' w' ⟨hs,f,rfl,hG,hV⟩ i hi;obtain⟨hl,o,ho,hpre⟩:=mem_ready.1 hi;have hiN:i<N:=by have:=(WQ.1 ho).1;omega
  refine wpOp_mono ?_ (hstep i hiN o ho listed f w' hs hl hG fun e he hb=>hV e.on (by have:=mH YC i o ho e he;omega) (hpre e he hb));rintro a'' w'' ⟨v,rfl,hG',hv,hmono⟩;refine⟨by simpa using hs,_,rfl,hG',fun k hk hkl=>?_⟩;rw[aO _ _ _ cq]at hkl;by_cases ek:k=i
  ·subst ek;simpa[upd] using hv
  rw[if_neg ek]at hkl;simp only[upd,if_neg ek];exact hmono _ _<|hV k hk hkl
 rintro listed a' w' ⟨hs,f,rfl,hG,hV⟩ hr;have hall:∀k,k<N->listed.getD k false=true:=fun k hk=>by
  have:=pV hr hsz (mH YC) hs k hk;rwa [jY cq]at this
 exact hend listed f w' hall hG fun k hk=>hV k hk<|hall k hk
end
structure Few{φ υ:Type}(us:φ->υ)(H:List φ->φ->Bool)(qs:List φ)(users:List υ)(out:List φ):Prop where
 set:∀f∈qs,us f ∉ users->f∈out\/H out f=false
def Few.start{φ υ:Type}{us:φ->υ}{H:List φ->φ->Bool}{qs:List φ}{users:List υ}{out:List φ}(h:∀f∈qs,us f∈users):Few us H qs users out:=⟨fun f hf hn=>absurd (h f hf) hn⟩
section
variable  {φ υ:Type}[DecidableEq φ]{us:φ->υ}{H:List φ->φ->Bool}
def Loc(us:φ->υ)(H:List φ->φ->Bool):Prop:=∀(a b:List φ) (f:φ),(∀g,us g=us f->(g∈a↔g∈b))->H a f=H b f
def fO(H:List φ->φ->Bool)(out:List φ)(f:φ):List φ:=if f∈out\/H out f=false then out else out++[f]
def dU(H:List φ->φ->Bool)(qs:List φ)(out:List φ):List φ:=qs.foldl (fO H) out
theorem QF(out:List φ):dU H [] out=out:=rfl
theorem o9(q:φ)(qs out:List φ):dU H (q::qs) out=dU H qs (fO H out q):=rfl
def Ia(zas bs out:List φ):dU H (zas++bs) out=dU H bs (dU H zas out):=by unfold dU;rw[List.foldl_append]
def x8(out:List φ)(f:φ):∃new,fO H out f=out++new/\∀g∈new,g=f/\g ∉ out/\H out f=true:=by
 unfold fO;split
 ·exact⟨[],ct,fun g hg=>by cases hg⟩
 rename_i h;refine⟨[f],rfl,fun g hg=>?_⟩;rw[WZ]at hg;subst hg;refine⟨rfl,fun e=>h<|.inl e,?_⟩;cases e:H out g;case true=>rfl
 exact absurd (.inr e) h
def mV:∀(qs out:List φ),∃new,dU H qs out=out++new/\∀g∈new,g∈qs/\g ∉ out
 | [],out=>⟨[],by simp[QF],fun g hg=>by cases hg⟩
 | q::qs,out=>by
  obtain⟨n1,e1,h1⟩:=x8 (H:=H) out q;obtain⟨n2,e2,h2⟩:=mV qs<|fO H out q;refine⟨n1++n2,by rw[o9,e2,e1,Xg],fun g hg=>?_⟩;rcases WU.1 hg with hg|hg
  ·exact⟨by rw[(h1 g hg).1];exact XH ..,(h1 g hg).2.1⟩
  obtain⟨h3,h4⟩:=h2 g hg;exact⟨Xu _ h3,fun e=>h4<|by rw[e1];exact XK _ e⟩
def rO{qs out:List φ}{g:φ}(h:g∈out):g∈dU H qs out:=by
 obtain⟨n,e,-⟩:=mV (H:=H) qs out;rw[e];exact XK _ h
def x9{out:List φ}{f g:φ}(h:g∈out):g∈fO H out f:=by
 obtain⟨n,e,-⟩:=x8 (H:=H) out f;rw[e];exact XK _ h
def KF{out:List φ}(h:out.Nodup)(f:φ):(fO H out f).Nodup:=by
 unfold fO;split
 ·exact h
 rename_i hn;refine List.nodup_append.2 ⟨h,ct,fun a ha b hb e=>?_⟩;rw[WZ]at hb;subst hb;subst e;exact hn<|.inl ha
def yf:∀(qs:List φ) {out:List φ},out.Nodup->(dU H qs out).Nodup
 | [],_,h=>h
 | q::qs,_,h=>yf qs<|KF h q
def Eo{qs out:List φ}(h:∀f∈qs,f∈out\/H out f=false):dU H qs out=out:=by
 induction qs with
 | nil=>rfl
 | cons q qs ih =>
  have e:fO H out q=out:=if_pos<|h q<|XH ..;rw[o9,e];exact ih fun f hf=>h f<|Xu _ hf
def Dm{qs out:List φ}:dU H qs out=out ↔ ∀f∈qs,f∈out\/H out f=false:=by
 refine⟨fun h=>?_,Eo⟩
 induction qs with
 | nil=>intro f hf;cases hf
 | cons q qs ih =>
  rw[o9]at h;by_cases hq:q∈out\/H out q=false
  ·have e:fO H out q=out:=if_pos hq;rw[e]at h;intro f hf;rcases Xc.1 hf with rfl|hf
   ·exact hq
   exact ih h f hf
  have e:fO H out q=out++[q]:=if_neg hq;obtain⟨n,e2,-⟩:=mV (H:=H) qs<|fO H out q;rw[h,e]at e2;have:=congrArg List.length e2;simp at this
def nY(hL:Loc us H)(P:υ->Bool):∀(qs out:List φ),(∀f∈qs,P (us f)=false->f∈out\/H out f=false)->dU H qs out=dU H (qs.filter fun f=>P<|us f) out
 | [],_,_=>rfl
 | q::qs,out,h=>by
  rw[o9,XX];cases hp:P (us q);case false=>
   have e:fO H out q=out:=if_pos<|h q (XH ..) hp;rw[e];exact nY hL P qs out fun f hf=>h f<|Xu _ hf
  rw[if_pos rfl,o9];refine nY hL P qs _ fun f hf hpf=>?_;have hne:us f≠us q:=fun e=>by rw[e,hp]at hpf;cases hpf
  obtain⟨n,e,hn⟩:=x8 (H:=H) out q;have hm:∀g,us g=us f->(g∈out↔g∈fO H out q):=fun g hg=>by
   rw[e];refine⟨fun h=>XK _ h,fun h=>?_⟩;rcases WU.1 h with h|h
   ·exact h
   exact absurd (by rw[(hn g h).1]at hg;exact hg.symm) hne
  rcases h f (Xu _ hf) hpf with h1|h1
  ·exact .inl<|(hm f rfl).1 h1
  exact .inr (by rw[<-hL out _ f hm];exact h1)
def wL(hL:Loc us H)(u:υ):∀(qs out:List φ),(∀g∈dU H qs out,us g=u->g∈out)->∀f∈qs,us f=u->f∈dU H qs out\/H (dU H qs out) f=false
 | [],_,_,f,hf,_=>by cases hf
 | q::qs,out,h,f,hf,hu=>by
  have hsame:∀g,us g=u->(g∈fO H out q↔g∈dU H qs (fO H out q)):=fun g hg=>⟨fun h1=>rO h1,fun h1=>x9<|h g h1 hg⟩;have hrest:∀g∈dU H qs (fO H out q),us g=u->g∈fO H out q:=fun g h1 h2=>(hsame g h2).2 h1;rcases Xc.1 hf with rfl|hf
  ·show f∈dU H qs (fO H out f)\/H (dU H qs<|fO H out f) f=false;by_cases hq:f∈out\/H out f=false
   ·rcases hq with h1|h1
    ·exact .inl<|rO<|x9 h1
    refine .inr ?_;rw[<-hL out _ f fun g hg=>?_]
    ·exact h1
    exact⟨fun h2=>rO<|x9 h2,fun h2=>h g h2<|hg.trans hu⟩
   have e:fO H out f=out++[f]:=if_neg hq;exact .inl (rO<|by rw[e];simp)
  exact wL hL u qs _ hrest f hf hu
def jC(H:List φ->φ->Bool)(qs:List φ):Nat->List φ->List φ
 | 0,out=>out
 | k+1,out=>if dU H qs out=out then out else jC H qs k (dU H qs out)
def mW(qs out:List φ):Nat:=(qs.filter fun f=>decide (f ∉ out)).length
def QG(qs:List φ){a b:List φ}(h:∀g∈a,g∈b):mW qs b<=mW qs a:=by
 unfold mW
 induction qs with
 | nil=>simp
 | cons q qs ih =>
  simp only[XX];by_cases hb:q∈b
  ·by_cases ha:q∈a
   ·simp[ha,hb];simpa using ih
   simp[ha,hb];have:=ih;simp at this;omega
  have ha:q ∉ a:=fun e=>hb<|h q e;simp[ha,hb];simpa using ih
def QH(qs:List φ){a b:List φ}(h:∀g∈a,g∈b){x:φ}(hx:x∈qs)(ha:x ∉ a)(hb:x∈b):mW qs b<mW qs a:=by
 induction qs with
 | nil=>cases hx
 | cons q qs ih =>
  have hle:=QG qs h;unfold mW at ih hle⊢;simp only[XX];rcases Xc.1 hx with rfl|hx
  ·simp[ha,hb];simp at hle;omega
  have:=ih hx;by_cases h1:q∈b
  ·by_cases h2:q∈a
   ·simp[h1,h2];simpa using this
   simp[h1,h2];simp at this;omega
  have h2:q ∉ a:=fun e=>h1<|h q e;simp[h1,h2];simpa using this
def yg{qs out:List φ}(h:dU H qs out≠out):mW qs (dU H qs out)<mW qs out:=by
 obtain⟨n,e,hn⟩:=mV (H:=H) qs out;cases n with
 | nil=>exact absurd (by simpa using e) h
 | cons x n =>
  obtain⟨h1,h2⟩:=hn x<|XH ..;exact QH qs (fun g hg=>rO hg) h1 h2 (by rw[e];simp)
def Bv(qs:List φ):∀(k j:Nat) (out:List φ),mW qs out<k->mW qs out<j->jC H qs k out=jC H qs j out
 | 0,_,_,h,_=>absurd h<|XE _
 | _+1,0,_,_,h=>absurd h<|XE _
 | k+1,j+1,out,h1,h2=>by
  unfold jC;by_cases e:dU H qs out=out
  ·rw[if_pos e,if_pos e]
  rw[if_neg e,if_neg e];have:=yg (H:=H) e;exact Bv qs k j _ cq cq
def mX(H:List φ->φ->Bool)(qs out:List φ):List φ:=jC H qs (mW qs out+1) out
def Ep{qs out:List φ}(h:dU H qs out=out):mX H qs out=out:=by
 unfold mX jC;rw[if_pos h]
def NS(qs out:List φ):mX H qs (dU H qs out)=mX H qs out:=by
 by_cases h:dU H qs out=out
 ·rw[h]
 have hlt:=yg (H:=H) h;have e:mX H qs out=jC H qs (mW qs out) (dU H qs out):=by
  show jC H qs (mW qs out+1) out=_;rw[jC,if_neg h]
 rw[e];unfold mX;exact Bv qs _ _ _ (Nat.lt_succ_self _) hlt
def QI(out:List φ):mX H [] out=out:=Ep rfl
def yh(qs:List φ):∀(k:Nat) (out:List φ),∃new,jC H qs k out=out++new/\∀g∈new,g∈qs
 | 0,out=>⟨[],by simp[jC],fun g hg=>by cases hg⟩
 | k+1,out=>by
  unfold jC;split
  ·exact⟨[],ct,fun g hg=>by cases hg⟩
  obtain⟨n1,e1,h1⟩:=mV (H:=H) qs out;obtain⟨n2,e2,h2⟩:=yh qs k<|dU H qs out;refine⟨n1++n2,by rw[e2,e1,Xg],fun g hg=>?_⟩;rcases WU.1 hg with hg|hg
  ·exact(h1 g hg).1
  exact h2 g hg
def Ib(qs:List φ):∀(k:Nat) (out:List φ),mW qs out<k->dU H qs (jC H qs k out)=jC H qs k out
 | 0,_,h=>absurd h<|XE _
 | k+1,out,h=>by
  unfold jC;split
  ·rename_i e;exact e
  rename_i e;have:=yg (H:=H) e;exact Ib qs k _ cq
def QJ(qs out:List φ):dU H qs (mX H qs out)=mX H qs out:=Ib qs _ out<|Nat.lt_succ_self _
def Bw(qs:List φ):∀(k:Nat) {out:List φ},out.Nodup->(jC H qs k out).Nodup
 | 0,_,h=>h
 | k+1,out,h=>by
  unfold jC;split
  ·exact h
  exact Bw qs k<|yf qs h
def NT(qs:List φ){out:List φ}(h:out.Nodup):(mX H qs out).Nodup:=Bw qs _ h
def Few.round[DecidableEq υ](hL:Loc us H){qs:List φ}{users:List υ}{out:List φ}(h:Few us H qs users out):dU H (qs.filter fun f=>decide (us f∈users)) out=dU H qs out :=
 (nY hL (fun u=>decide (u∈users)) qs out fun f hf hp=>h.set f hf<|by simpa using hp).symm
def Few.next[DecidableEq υ](hL:Loc us H){qs:List φ}{users users':List υ}{out new:List φ}(h:Few us H qs users out)(hn:dU H qs out=out++new)(hu:∀u,u∈users'↔u∈users/\∃g∈new,us g=u):Few us H qs users' (out++new):=by
 refine⟨fun f hf hnf=>?_⟩;have key:∀g∈dU H qs out,us g=us f->g∈out:=fun g hg hgu=>by
  rw[hn]at hg;rcases WU.1 hg with hg|hg
  ·exact hg
  by_cases hin:us f∈users
  ·exact absurd ((hu _).2 ⟨hin,g,hg,hgu⟩) hnf
  -- a user that was left out before finds none
  have e:=h.round hL;obtain⟨n2,e2,h2⟩:=mV (H:=H) (qs.filter fun f=>decide (us f∈users)) out;rw[e,hn]at e2;have e3:new=n2:=List.append_cancel_left e2;rw[e3]at hg;have h3:=(h2 g hg).1;rw[XM]at h3;have h4:us g∈users:=by simpa using h3.2
  rw[hgu]at h4;exact absurd h4 hin
 have:=wL hL (us f) qs out key f hf rfl;rw[hn]at this;exact this
def Few.done{qs:List φ}{out:List φ}(h:Few us H qs [] out):mX H qs out=out:=Ep<|Eo fun f hf=>h.set f hf List.not_mem_nil
end
section
variable  {φ:Type}[DecidableEq φ]{rk:φ->Int}{H:List φ->φ->Bool}{qs:Nat->List φ}
def Lay(rk:φ->Int)(H:List φ->φ->Bool):Prop:=∀(a b:List φ) (f:φ),(∀g,rk g<rk f->(g∈a↔g∈b))->(∀g,rk g=rk f->g∈a->g∈b)->H a f=true->H b f=true
def sP(H:List φ->φ->Bool)(qs:Nat->List φ):Nat->List φ
 | 0=>[]
 | n+1=>mX H (qs n)<|sP H qs n
def rP(q out:List φ):∃new,mX H q out=out++new/\∀g∈new,g∈q:=yh q _ out
def Bz(hq:∀n,∀f∈qs n,rk f=(n:Int)):∀N,∀f∈sP H qs N,rk f<(N:Int)
 | 0,f,h=>by cases h
 | N+1,f,h=>by
  obtain⟨new,e,hn⟩:=rP (H:=H) (qs N)<|sP H qs N;rw[sP,e]at h;rcases WU.1 h with h|h
  ·have:=Bz hq N f h;omega
  have:=hq N f<|hn f h;omega
def F5{n:Nat}{f:φ}(h:f∈sP H qs n):∀d,f∈sP H qs (n+d)
 | 0=>h
 | d+1=>by
  obtain⟨new,e,-⟩:=rP (H:=H) (qs<|n+d)<|sP H qs<|n+d;show f∈mX H (qs<|n+d) (sP H qs<|n+d);rw[e];exact XK _<|F5 h d
def BA(hq:∀n,∀f∈qs n,rk f=(n:Int)){n:Nat}{f:φ}(hr:rk f<(n:Int)):∀d,f∈sP H qs (n+d)->f∈sP H qs n
 | 0,h=>h
 | d+1,h=>by
  obtain⟨new,e,hn⟩:=rP (H:=H) (qs<|n+d)<|sP H qs<|n+d;have h:f∈mX H (qs<|n+d) (sP H qs<|n+d):=h;rw[e]at h;rcases WU.1 h with h|h
  ·exact BA hq hr d h
  have:=hq _ f<|hn f h;omega
def Good(rk:φ->Int)(H:List φ->φ->Bool)(n:Int)(s:List φ):Prop:=∀g∈s,rk g=n->H s g=true
def good_step(hL:Lay rk H){n:Int}{s:List φ}{f:φ}(h:Good rk H n s)(hf:rk f=n):Good rk H n (fO H s f):=by
 unfold fO;split
 ·exact h
 rename_i hn;have hH:H s f=true:=by
  cases e:H s f;case true=>rfl
  exact absurd (.inr e) hn
 have low:∀g:φ,rk g=n->∀x,rk x<rk g->(x∈s↔x∈s++[f]):=fun g hg x hx=>by
  refine⟨fun h=>XK _ h,fun h=>?_⟩;rcases WU.1 h with h|h
  ·exact h
  rw[WZ]at h;rw[h]at hx;omega
 intro g hg hgn;rcases WU.1 hg with hg|hg
 ·exact hL s _ g (low g hgn) (fun x _ hx=>XK _ hx) (h g hg hgn)
 rw[WZ]at hg;subst hg;exact hL s _ g (low g hgn) (fun x _ hx=>XK _ hx) hH
def Ic(hL:Lay rk H){n:Int}:∀(q:List φ) {s:List φ},(∀f∈q,rk f=n)->Good rk H n s->Good rk H n (dU H q s)
 | [],_,_,h=>h
 | f::q,s,hq,h=>Ic hL q (fun g hg=>hq g<|Xu _ hg) (good_step hL h<|hq f<|XH ..)
def Es(hL:Lay rk H){n:Int}(q:List φ)(hq:∀f∈q,rk f=n):∀(k:Nat) {s:List φ},Good rk H n s->Good rk H n (jC H q k s)
 | 0,_,h=>h
 | k+1,s,h=>by
  unfold jC;split
  ·exact h
  exact Es hL q hq k<|Ic hL q hq h
def Tx(hL:Lay rk H)(hq:∀n,∀f∈qs n,rk f=(n:Int))(n:Nat):Good rk H (n:Int) (sP H qs<|n+1):=by
 refine Es hL (qs n) (hq n) _ fun g hg hgn=>?_;have:=Bz hq n g hg;omega
def MM(hL:Lay rk H)(hq:∀n,∀f∈qs n,rk f=(n:Int)){n:Nat}{f:φ}(hf:rk f=(n:Int))(d:Nat):H (sP H qs<|n+1) f=true↔H (sP H qs<|n+1+d) f=true:=by
 have same:∀g,rk g<=(n:Int)->(g∈sP H qs (n+1)↔g∈sP H qs (n+1+d)):=fun g hg=>⟨fun h=>F5 h d,fun h=>BA hq cq d h⟩;refine⟨hL _ _ f (fun g hg=>same g cq) (fun g hg h=>(same g cq).1 h),hL _ _ f (fun g hg=>(same g cq).symm) (fun g hg h=>(same g cq).2 h)⟩
def MN(hq:∀n,∀f∈qs n,rk f=(n:Int)):∀N,∀f∈sP H qs N,∃n,n<N/\f∈qs n
 | 0,f,h=>by cases h
 | N+1,f,h=>by
  obtain⟨new,e,hn⟩:=rP (H:=H) (qs N)<|sP H qs N;rw[sP,e]at h;rcases WU.1 h with h|h
  ·obtain⟨n,h1,h2⟩:=MN hq N f h;exact⟨n,cq,h2⟩
  exact⟨N,cq,hn f h⟩
def NU(hL:Lay rk H)(hq:∀n,∀f∈qs n,rk f=(n:Int)){N:Nat}{f:φ}(h:f∈sP H qs N):H (sP H qs N) f=true:=by
 obtain⟨n,hn,hf⟩:=MN hq N f h;have hr:=hq n f hf;obtain⟨d,rfl⟩:∃d,N=n+1+d:=⟨N-(n+1),cq⟩;rw[<-MM hL hq hr d];exact Tx hL hq n f (BA hq cq d h) hr
def QK(hL:Lay rk H)(hq:∀n,∀f∈qs n,rk f=(n:Int)){N n:Nat}(hn:n<N){f:φ}(hf:f∈qs n)(h:H (sP H qs N) f=true):f∈sP H qs N:=by
 have hr:=hq n f hf;obtain⟨d,rfl⟩:∃d,N=n+1+d:=⟨N-(n+1),cq⟩;rw[<-MM hL hq hr d]at h;have hfix:=QJ (H:=H) (qs n)<|sP H qs n;rcases (Dm.1 hfix) f hf with h1|h1
 ·exact F5 (show f∈sP H qs (n+1) from h1) d
 have h:H (mX H (qs n)<|sP H qs n) f=true:=h;rw[h1]at h;cases h
end
def rQ(es:Q09):List Int->Nat->Nat->Prop
 | [],a,b=>a=b
 | k::ks,a,b=>0<=k/\av es k.toNat=(a:Int)/\rQ es ks (k.toNat+1) b
def BB{es:Q09}:∀(ks:List Int) (k:Int) (a m b:Nat),rQ es ks a m->0<=k->av es k.toNat=(m:Int)->k.toNat+1=b->rQ es (ks++[k]) a b
 | [],k,a,m,b,h,h0,h1,h2=>by
  have:a=m:=h;subst this;exact⟨h0,h1,h2⟩
 | x::ks,k,a,m,b,h,h0,h1,h2=>⟨h.1,h.2.1,BB ks k _ m b h.2.2 h0 h1 h2⟩
def Ie{es:Q09}{n:Nat}:∀(rs:List Int) (b:Nat),b<=n->0<=bG (cO es n) rs ((b:Int)-1)->rQ es rs.reverse (bG (cO es n) rs<|(b:Int)-1).toNat b
 | [],b,_,h=>by simp[bG,rQ]
 | k::rs,b,hb,h=>by
  unfold bG at h⊢;split at h
  ·omega
  rename_i c;rw[if_neg c];split at h
  ·omega
  rename_i c2;rw[if_neg c2];have h0:0<=(b:Int)-1:=cq;have hk:k=(b:Int)-1:=cq;have hF:cO es n ((b:Int)-1)=av es ((b:Int)-1).toNat:=by unfold cO;rw[if_pos ⟨h0,cq⟩]
  have hle:=iq es ((b:Int)-1).toNat;rw[hF]at h c2 ⊢;obtain⟨m,hm⟩:∃m:Nat,av es ((b:Int)-1).toNat=(m:Int):=⟨(av es ((b:Int)-1).toNat).toNat,cq⟩;rw[hm]at h hle ⊢;rw[List.reverse_cons];exact BB _ k _ m b (Ie rs m cq h) cq (by rw[hk,hm]) cq
def pg{es:Q09}{n:Nat}(h:0<=av es n):rQ es (dD es n) (av es n).toNat n:=by
 rw[jc]at h ⊢;have:=Ie (dD es n).reverse n (WK _) h;rw[List.reverse_reverse]at this;exact this
def pq{es:Q09}:∀(ks:List Int) (a b:Nat),rQ es ks a b->a<=b/\∀k∈ks,0<=k/\k.toNat<b
 | [],a,b,h=>⟨Nat.le_of_eq h,fun k hk=>by cases hk⟩
 | x::ks,a,b,h=>by
  obtain⟨h1,h2⟩:=pq ks _ b h.2.2;have:=iq es x.toNat;have h3:=h.2.1;refine⟨cq,fun k hk=>?_⟩;rcases Xc.1 hk with rfl|hk
  ·exact⟨h.1,cq⟩
  exact h2 k hk
def F6{α:Type}(F:Fence)(n:Nat)(P:Program)(g:Nat)(lb:Array Value)(encs:α->Array Value)(Kp:Nat->World->World->Prop)(Q:List α->World->Prop)(E:List α->α->Prop)(S:List α->Prop)(w:World):Prop :=
 ∀(l:Nat) (J:List α->World->Prop) (W:World),ag w W->l<W.heap.size->w.heap.size<=l->OwnFrom W.heap.size J->(∀pre W1,J pre W1->Q pre W1) ->
  (∀pre x W1,J pre W1->E pre x->YieldAt F (n-1) P l (encs x) W1 fun e W'=>e=.returned (.bool true)/\J (pre++[x]) W'/\Kp l W1 W') ->
  J [] W ->
  CallsIn F n P g (#[.func (.yield l) #[] #[]]++lb) W fun e W'=>(∃v,e=.returned v)/\∃xs,S xs/\J xs W'
def QL(B:Nat)(R:World->Prop)(W:World):Exit->Act->World->Prop
 | .normal,_,W'=>KeepsFrom B W W'/\R W'
 | _,_,_=>False
def MO{β:Type}{B k:Nat}{o:Obj}(hk:k<B):OwnFrom B (fun(_:β) W=>W.heap[k]?=some o):=fun _ X Y row hs hg hr=>(hg.block k (WQ.1 hs).1 fun e=>by have:=(hr k e.symm).1;omega).trans hs
def Vl{β:Type}{B B':Nat}{I:β->World->Prop}(h:OwnFrom B I)(hB:B<=B'):OwnFrom B' I:=fun s X Y row hs hg hr=>h s X Y row hs hg fun r e=>⟨WR hB (hr r e).1,(hr r e).2⟩
def rR{α:Type}{F:Fence}{n:Nat}{P:Program}{g:Operand}{ps:Array Tmp}{assign body:Code}{Q:Exit->Act->World->Prop}{a:Act}{w:af}(hro:F.round=none)(h1:1<=n){gf:Nat}{lb:Array Value}(hg:a.eval g=.func (.func gf) #[] lb)(hFg:F.fn gf)(eg:∀args w,(callFunc gf args).run P w=.ok (.enter gf args) w)
  {encs:α->Array Value} {Kp:Nat->World->World->Prop} {Tell:List α->World->Prop} {E:List α->α->Prop} {S:List α->Prop} {w0:World} (hseq:F6 F (n-1) P gf lb encs Kp Tell E S w0) (hb0:ag w0 w) (hps:∀x,(encs x).size=ps.size)
  (hKt:∀{l:Nat} {X Y Z:World},Kp l X Y->Kp l Y Z->Kp l X Z) (hKb:∀(W:World) (l:Nat) (o o':Obj),W.heap[l]?=some o->o.isCells=false->Kp l W (W.putObj l o'))
  (I:List α->World->Prop) (hI:OwnFrom w.heap.size I) (hT:∀pre W,I pre W->Tell pre W) (h0:I [] w)
  (Ax:α->Act->World->Prop) (hAx:∀x a',OwnFrom w.heap.size (fun(_:Unit) W=>Ax x a' W))
  (hassign:∀ (l:Nat) (pre:List α) (x:α) (W:World) (K:Act->World->Prop),I pre W->(∀ a' W',KeepsFrom w.heap.size W W'->Kp l W W'->I pre W'->Ax x a' W'->K a' W') ->
   assign.wpIn (F.inRound l) (n-1-1) P (Exit.then K fun _ _ _=>False) { tmps:=(ps.zip<|encs x).foldl (fun t (p,v)=>t.setIfInBounds p v) a.tmps,defers:=[] } W)
  (hbody:∀(l:Nat) (pre:List α) (x:α) (a':Act) (W:World),w.heap.size<=l->E pre x->I pre W->Ax x a' W->body.wpIn (F.inRound l) (n-1-1) P (QL w.heap.size (fun W'=>Kp l W W'/\I (pre++[x]) W') W) a' W)
  (hdone:∀(D:Nat) (xs:List α) (W:World),w.heap.size<=D->S xs->I xs W->W.heap[D]?=some (.deferred<|some [])->Q .normal { a with defers:={ target:=.collected D,args:=#[] }::a.defers } W) :
  (Code.rangeFunc g ps assign body).wpIn F n P Q a w:=by
 refine wpIn_rangeFunc fun fn hfn=>?_;rw[hro];obtain⟨rc,hrc⟩:∃rc:LoopState->Loop,rc=fun st=>{ state:=st,pending:=none,fn,tmps:=a.tmps,params:=ps,assign,body,defers:=w.heap.size }:=⟨_,rfl⟩;obtain⟨W0,hW0⟩:=eQx<|w.alloc<|.deferred<|some [];have s0:W0.heap.size=w.heap.size+1:=by rw[hW0];simp
 obtain⟨W1,hW1⟩:=eQx<|W0.alloc<|.loop<|rc .ready;have s1:W1.heap.size=w.heap.size+2:=by rw[hW1];simp;omega
 have k0:W0.heap[w.heap.size]?=some (.deferred<|some []):=by rw[hW0];exact World.alloc_heap_new w _
 have k1:W1.heap[w.heap.size]?=some (.deferred<|some []):=by rw[hW1];exact(Below.heap_alloc _ _ _ cq).trans k0
 have r1:W1.heap[w.heap.size+1]?=some (.loop<|rc .ready):=by rw[hW1,<-s0];exact World.alloc_heap_new W0 _
 have i1:I [] W1:=by rw[hW1,hW0];exact hI.alloc _<|hI.alloc _ h0
 have b1:ag w W1:=by rw[hW1,hW0];exact((WL _ w).alloc (WK _) _).alloc ct _
 have bb:ag w0 W1:=hb0.trans<|b1.mono hb0.size;refine⟨w.heap.size+1,[{ target:=.collected w.heap.size,args:=#[] }],W1,{ target:=.fn (.func gf) lb,args:=#[.func (.yield<|w.heap.size+1) #[] #[]] },W1,gf,#[.func (.yield<|w.heap.size+1) #[] #[]]++lb,W1,?_,?_,?_,?_,fun _=>h1,?_⟩
 ·rw[hW1,hW0,hrc];exact run_enterLoop_outer _ _ _ _ _
 ·simp only[resolve,hg];simp[go_sem]
 ·intro f hf;simp[Target.leads]at hf;subst hf;exact hFg
 ·simp[invoke,go_sem,eg]
 have hJ:OwnFrom W1.heap.size (fun pre W=>I pre W/\W.heap[w.heap.size+1]?=some (.loop<|rc .ready)/\W.heap[w.heap.size]?=some (.deferred<|some [])) :=
  (Vl hI cq).and ((MO cq).and<|MO cq)
 refine(hseq (w.heap.size+1) _ W1 bb cq (by have:=hb0.size;omega) hJ (fun pre W h=>hT pre W h.1) ?_ ⟨i1,r1,k1⟩).mono ?_
 ·rintro pre x W ⟨hi,hl,hk⟩ hEx;have hy:=run_yield (P:=P) (args:=encs x) hl (by rw[hrc];exact hps x);rw[hrc]at hy;refine⟨fn,_,assign,body,hy,roundIn_of_wpIn hfn<|hassign _ pre x W _ hi ?_⟩;clear hy;intro a' Wa hka hkp hia hax;have hla:=hka.same _ _ cq hl rfl;have hda:=hka.same _ _ (WK _) hk rfl;have hlt:w.heap.size+1<Wa.heap.size:=(WQ.1 hla).1;refine⟨_,run_beginRound hla<|by rw[hrc],?_⟩;obtain⟨Wb,hWb⟩:=eQx<|Wa.putObj (w.heap.size+1)<|.loop { rc .ready with state:=.busy };rw[<-hWb];have lb2:Wb.heap[w.heap.size+1]?=some (.loop { rc .ready with state:=.busy }):=by rw[hWb];exact World.putObj_heap_same hlt
  have db2:Wb.heap[w.heap.size]?=some (.deferred<|some []):=by rw[hWb];exact(World.putObj_heap_other cq).trans hda
  have kb2:Kp (w.heap.size+1) Wa Wb:=by rw[hWb];exact hKb _ _ _ _ hla rfl
  have ib2:I pre Wb:=by rw[hWb];exact hI.putObj _ hia cq hla rfl
  have ab2:Ax x a' Wb:=by rw[hWb];exact(hAx x a').putObj (s:=()) _ hax cq hla rfl
  refine wpIn_mono (hbody _ pre x a' _ cq hEx ib2 ab2) ?_;intro e a3 W3 hp;cases e;case normal=>
   obtain⟨hk3,hkp3,hi3⟩:=hp;have hl3:=hk3.same _ _ cq lb2 rfl;have hd3:=hk3.same _ _ (WK _) db2 rfl;have hend:=run_endRound (P:=P) none hl3;rw[hrc]at hend;refine⟨_,_,hend,rfl,⟨hI.putObj _ hi3 cq hl3 rfl,?_,(World.putObj_heap_other cq).trans hd3⟩,hKt hkp<|hKt (hKt kb2 hkp3)<|hKb _ _ _ _ hl3 rfl⟩;rw[hrc];exact World.putObj_heap_same (WQ.1 hl3).1
  case ret=>exact hp.elim
  case exit id=>exact hp.elim
  case goto t=>exact hp.elim
  case panic ch=>exact hp.elim
  exact hp.elim
 rintro e W2 ⟨⟨v,rfl⟩,xs,hS,hi,hl,hk⟩;have hend:=run_endLoop (P:=P) hl (by rw[hrc];simp);rw[hrc]at hend;exact⟨none,_,hend,hdone _ xs _ (WK _) hS (hI.putObj _ hi cq hl rfl) ((World.putObj_heap_other cq).trans hk)⟩
end Go.Proofs.YtojjoblnpldniaaGreat
namespace Go.Proofs.YtojjoblnpldniaaGreat.Ls
def lt_irrefl:∀x:List UInt8,Op.bytesLess x x=false
 | []=>rfl
 | a::x=>by simp[Op.bytesLess,lt_irrefl x]
def lt_trans:∀x y z:List UInt8,Op.bytesLess x y=true->Op.bytesLess y z=true->Op.bytesLess x z=true
 | [],_,[],h,k=>by cases ‹List UInt8› <;> simp [Op.bytesLess] at h k
 | [],_,_::_,_,_=>rfl
 | _::_,[],_,h,_=>by simp[Op.bytesLess]at h
 | _::_,_::_,[],_,k=>by simp[Op.bytesLess]at k
 | a::x,b::y,c::z,h,k=>by
  simp only[Op.bytesLess,Bool.or_eq_true,WM,WW,beq_iff_eq]at h k ⊢;rcases h with h|⟨h,h'⟩
  ·rcases k with k|⟨k,k'⟩
   ·exact .inl<|UInt8.lt_trans h k
   exact .inl<|k ▸ h
  rcases k with k|⟨k,k'⟩
  ·exact .inl<|h ▸ k
  exact .inr ⟨h.trans k,lt_trans x y z h' k'⟩
def lt_total:∀x y:List UInt8,x≠y->Op.bytesLess x y=true\/Op.bytesLess y x=true
 | [],[],h=>absurd rfl h
 | [],_::_,_=>.inl rfl
 | _::_,[],_=>.inr rfl
 | a::x,b::y,h=>by
  simp only[Op.bytesLess,Bool.or_eq_true,WM,WW,beq_iff_eq];by_cases e:a=b
  ·subst e;rcases lt_total x y (fun e=>h<|by rw[e]) with k|k
   ·exact .inl<|.inr ⟨rfl,k⟩
   exact .inr<|.inr ⟨rfl,k⟩
  rcases Nat.lt_or_gt_of_ne (fun k=>e<|UInt8.toNat_inj.1 k) with k|k
  ·exact .inl<|.inl k
  exact .inr<|.inl k
def lt_asymm(x y:List UInt8)(h:Op.bytesLess x y=true):Op.bytesLess y x=false:=by
 cases k:Op.bytesLess y x;case false=>rfl
 have:=lt_trans x y x h k;rw[lt_irrefl]at this;cases this
end Go.Proofs.YtojjoblnpldniaaGreat.Ls
namespace Go.Proofs.YtojjoblnpldniaaGreat
set_option linter.unusedVariables false
section
variable  {α:Type}{lt:α->α->Bool}
def Dn(lt:α->α->Bool)(r:α):List α->List α
 | []=>[r]
 | x::xs=>if lt x r then x::Dn lt r xs else r::x::xs
def Et(lt:α->α->Bool)(rs:List α):List α:=rs.foldl (fun out r=>Dn lt r out) []
def sQ(r:α):∀xs:List α,(Dn lt r xs).Perm (r::xs)
 | []=>List.Perm.refl _
 | x::xs=>by
  unfold Dn;split
  ·exact((sQ r xs).cons x).trans<|List.Perm.swap _ _ _
  exact List.Perm.refl _
def BC:∀(rs acc:List α),(rs.foldl (fun out r=>Dn lt r out) acc).Perm (rs++acc)
 | [],acc=>List.Perm.refl _
 | r::rs,acc=>(BC rs<|Dn lt r acc).trans<|((sQ r acc).append_left rs).trans List.perm_middle
def qp(rs:List α):(Et lt rs).Perm rs:=by simpa[Et] using BC rs []
structure OrdO(lt:α->α->Bool)(rs:List α):Prop where
 trans:∀x∈rs,∀y∈rs,∀z∈rs,lt x y=true->lt y z=true->lt x z=true
 asymm:∀x∈rs,∀y∈rs,lt x y=true->lt y x=false
 total:∀x∈rs,∀y∈rs,x≠y->lt x y=true\/lt y x=true
def OrdO.mono{rs qs:List α}(h:OrdO lt rs)(hs:∀x∈qs,x∈rs):OrdO lt qs :=
 ⟨fun x hx y hy z hz=>h.trans x (hs x hx) y (hs y hy) z<|hs z hz,fun x hx y hy=>h.asymm x (hs x hx) y<|hs y hy,fun x hx y hy=>h.total x (hs x hx) y<|hs y hy⟩
def UT(lt:α->α->Bool)(xs:List α):Prop:=xs.Pairwise fun x y=>lt x y=true
def MP{r:α}:∀{xs:List α},OrdO lt (r::xs)->r ∉ xs->UT lt xs->UT lt (Dn lt r xs)
 | [],_,_,_=>List.pairwise_singleton _ _
 | x::xs,ho,hn,h=>by
  obtain⟨h1,h2⟩:=List.pairwise_cons.1 h;have hx:x∈r::x::xs:=ct;have hr:r∈r::x::xs:=ct;unfold Dn;split
  ·rename_i hl;refine List.pairwise_cons.2 ⟨fun y hy=>?_,MP (ho.mono fun z hz=>?_) (fun hm=>hn<|Xu _ hm) h2⟩
   ·rcases Xc.1 ((sQ r xs).mem_iff.1 hy) with rfl|hy
    ·exact hl
    exact h1 y hy
   rcases Xc.1 hz with rfl|hz
   ·simp
   simp[hz]
  rename_i hl;have hne:r≠x:=fun e=>hn (by rw[e];simp);have hrx:lt r x=true:=by
   rcases ho.total r hr x hx hne with h3|h3
   ·exact h3
   exact absurd h3 hl
  refine List.pairwise_cons.2 ⟨fun y hy=>?_,h⟩;rcases Xc.1 hy with rfl|hy
  ·exact hrx
  exact ho.trans r hr x hx y (by simp[hy]) hrx (h1 y hy)
def Ig:∀(rs acc:List α),OrdO lt (rs++acc)->rs.Nodup->(∀r∈rs,r ∉ acc)->UT lt acc->UT lt (rs.foldl (fun out r=>Dn lt r out) acc)
 | [],acc,_,_,_,h=>h
 | r::rs,acc,ho,hd,hn,h=>by
  obtain⟨hr,hd2⟩:=List.nodup_cons.1 hd;have hp:=sQ (lt:=lt) r acc;refine Ig rs (Dn lt r acc) (ho.mono fun x hx=>?_) hd2 (fun x hx hm=>?_) (MP (ho.mono fun x hx=>?_) (hn r ct) h)
  ·rcases WU.1 hx with hx|hx
   ·simp[hx]
   rcases Xc.1 (hp.mem_iff.1 hx) with rfl|hx
   ·simp
   simp[hx]
  ·rcases Xc.1 (hp.mem_iff.1 hm) with rfl|hm
   ·exact hr hx
   exact hn x (by simp[hx]) hm
  rcases Xc.1 hx with rfl|hx
  ·simp
  simp[hx]
def Ih{rs:List α}(ho:OrdO lt rs)(hd:rs.Nodup):UT lt (Et lt rs):=Ig rs [] (by simpa using ho) hd (fun _ _=>List.not_mem_nil) List.Pairwise.nil
def BD:∀{xs ys:List α},OrdO lt xs->UT lt xs->UT lt ys->xs.Perm ys->xs=ys
 | [],ys,_,_,_,hp=>(List.Perm.nil_eq hp)
 | x::xs,[],_,_,_,hp=>absurd hp.length_eq ct
 | x::xs,y::ys,ho,hx,hy,hp=>by
  obtain⟨h1,h2⟩:=List.pairwise_cons.1 hx;obtain⟨h3,h4⟩:=List.pairwise_cons.1 hy;have hyx:y∈x::xs:=hp.mem_iff.2 ct;have hxy:x∈y::ys:=hp.mem_iff.1 ct;have e:x=y:=by
   rcases Xc.1 hyx with e|hm
   ·exact e.symm
   rcases Xc.1 hxy with e|hm2
   ·exact e
   have a1:=h1 y hm;have a2:=h3 x hm2;rw[ho.asymm x ct y hyx a1]at a2;cases a2
  subst e;rw[BD (ho.mono fun z hz=>Xu _ hz) h2 h4 hp.cons_inv]
def Ii{rs qs:List α}(ho:OrdO lt rs)(hd:rs.Nodup)(h:UT lt qs)(hp:qs.Perm rs):Et lt rs=qs :=
 BD (ho.mono fun x hx=>(qp rs).mem_iff.1 hx) (Ih ho hd) h ((qp rs).trans hp.symm)
end
end Go.Proofs.YtojjoblnpldniaaGreat
