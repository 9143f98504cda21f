/- Contracts of the drawing's reader: its next byte, a number below another one. What it answers is left open but for its bounds. -/
import Derived.Test.YtcgdckphpjfmhaaGreatDoorSq
import Derived.Test.YtcgdckphpjfmhaaGreatDoorJ2
import Derived.ChangeSlices
import Derived.Deep.Slices
import Derived.Deep.DrawnRows
import Derived.Test.YtcgdckphpjfmhaaGreatDoorShelf
import Derived.RangeFuncNested
open Go.Proofs.Tryz
set_option maxHeartbeats 80000000
namespace Go.Proofs.YtcgdckphpjfmhaaGreatDoor
open ChangeShapes WideShapes ChangeAt RowKit
open Pl
structure Rd(w:World)(R:Nat)(ad:Q02)(len cap:Nat):Prop where
 lt:R<w.heap.size
 code:w.cell? ⟨R,0,none⟩=some (.slice ad len cap)
 place:∃p:Nat,w.cell? ⟨R,1,none⟩=some (.int .i64 p)/\p<=len
 free:w.frozen? ⟨R,1,none⟩=false
 bytes:0<len->∃b off,ad=some ⟨b,off,none⟩/\b≠R/\b<w.heap.size/\∀i,i<len->∃c:Int,0<=c/\c<=255/\w.cell? ⟨b,off+i,none⟩=some (.int .u8 c)
 small:len<=maxLen
theorem Rd.below{w w':ae}{R:Nat}{ad:Q02}{len cap:Nat}(h:Rd w R ad len cap)(hb:af w w'):Rd w' R ad len cap where
 lt:=VY h.lt hb.size
 code:=by rw[hb.cell (p:=⟨R,0,none⟩) h.lt];exact h.code
 place:=by obtain⟨p,hp,hl⟩:=h.place;exact⟨p,by rw[hb.cell (p:=⟨R,1,none⟩) h.lt];exact hp,hl⟩
 free:=by rw[hb.frozen (p:=⟨R,1,none⟩) h.lt];exact h.free
 bytes h0:=by
  obtain⟨b,off,e,hne,hbl,hc⟩:=h.bytes h0;refine⟨b,off,e,hne,VY hbl hb.size,fun i hi=>?_⟩;obtain⟨c,c0,c1,hcc⟩:=hc i hi;exact⟨c,c0,c1,by rw[hb.cell (p:=⟨b,off+i,none⟩) hbl];exact hcc⟩
 small:=h.small
theorem Rd.step{w:ae}{R p:Nat}{ad:Q02}{len cap:Nat}(h:Rd w R ad len cap)(hp:p+1<=len):Rd (w.setCell ⟨R,1,none⟩ (.int .i64 ((p:Int)+1))) R ad len cap where
 lt:=by simpa using h.lt
 code:=by
  rw[show(w.setCell ⟨R,1,none⟩ (.int .i64 ((p:Int)+1))).cell? ⟨R,0,none⟩=w.cell? ⟨R,0,none⟩ from by apply World.cell?_setCell_other;intro e;cases e];exact h.code
 place:=by
  obtain⟨q,hq,-⟩:=h.place;exact⟨p+1,by rw[show(w.setCell ⟨R,1,none⟩ (.int .i64 ((p:Int)+1))).cell? ⟨R,1,none⟩=some (.int .i64 ((p:Int)+1)) from by apply World.cell?_setCell_same;exact hq];simp,hp⟩
 free:=by simpa using h.free
 bytes h0:=by
  obtain⟨b,off,e,hne,hbl,hc⟩:=h.bytes h0;refine⟨b,off,e,hne,by simpa using hbl,fun i hi=>?_⟩;obtain⟨c,c0,c1,hcc⟩:=hc i hi;refine⟨c,c0,c1,?_⟩;rw[show(w.setCell ⟨R,1,none⟩ (.int .i64 ((p:Int)+1))).cell? ⟨b,off+i,none⟩=w.cell? ⟨b,off+i,none⟩ from by apply World.cell?_setCell_other;intro e;exact hne (congrArg Addr.block e).symm];exact hcc
 small:=h.small
def Only(R:Nat)(w w':World):Prop:=w.grownBy w' (some R)
theorem Only.refl(R:Nat)(w:ae):Only R w w:=⟨rfl,rfl,rfl,V4 _,fun _ _ _=>rfl⟩
theorem Only.trans{R:Nat}{a b c:ae}(h:Only R a b)(k:Only R b c):Only R a c :=
 ⟨k.os.trans h.os,k.tape.trans h.tape,k.output.trans h.output,Wh h.size k.size,fun i hi hr=>(k.block i (VY hi h.size) hr).trans (h.block i hi hr)⟩
theorem Only.drewN{R:Nat}{a b:ae}(h:Only R a b)(n:Nat):Only R a (b.drewN n):=⟨h.os,h.tape,h.output,h.size,h.block⟩
theorem Only.set{R:Nat}{a b:ae}(h:Only R a b)(o:Nat)(v:Value):Only R a (b.setCell ⟨R,o,none⟩ v) :=
 ⟨h.os,h.tape,h.output,by simpa using h.size,fun i hi hr=>(Below.heap_setCell b ⟨R,o,none⟩ v i (fun e=>hr (by rw[e]))).trans (h.block i hi hr)⟩
theorem Only.below{R:Nat}{a b c:ae}(h:Only R a b)(k:af b c):Only R a c :=
 ⟨k.os.trans h.os,k.tape.trans h.tape,k.output.trans h.output,Wh h.size k.size,fun i hi hr=>(k.block i (VY hi h.size)).trans (h.block i hi hr)⟩
theorem Only.of_below{R:Nat}{b c:ae}(k:af b c):Only R b c:=(Only.refl R b).below k
theorem Only.cell{R:Nat}{w w':ae}(h:Only R w w'){b o:Nat}(hb:b<w.heap.size)(hne:b≠R):w'.cell? ⟨b,o,none⟩=w.cell? ⟨b,o,none⟩ :=
 Wt (w:=w) (h.block b hb (fun e=>hne (by injection e)))
theorem Only.frozen{R:Nat}{w w':ae}(h:Only R w w'){b o:Nat}(hb:b<w.heap.size)(hne:b≠R):w'.frozen? ⟨b,o,none⟩=w.frozen? ⟨b,o,none⟩ :=
 World.frozen?_of_block (w:=w) (h.block b hb (fun e=>hne (by injection e)))
theorem Only.toBelow{R B:Nat}{a w w':ae}(h:Below B a w)(k:Only R w w')(hB:B<=w.heap.size)(hR:B<=R):Below B a w' :=
 h.grown k hB (fun i hi=>by injection hi with e;omega)
theorem GG(R:Nat)(ad:Q02)(len cap:Nat)(w:ae)(h:Rd w R ad len cap):
  Calls prog 149 #[.pointer (some ⟨R,0,none⟩)] w fun e w'=>(∃x:Int,e=.returned (.int .i64 x)/\0<=x/\x<=255)/\Rd w' R ad len cap/\Only R w w':=by
 obtain⟨p,hp,hpl⟩:=h.place;have hc:=h.code;have hsm:=h.small;unfold maxLen at hsm;have H:=aC h;by_cases hlt:p<len
 ·obtain⟨b,off,rfl,hne,hbl,hbytes⟩:=h.bytes (by omega);obtain⟨c,c0,c1,hcc⟩:=hbytes p hlt;have hfz:=h.free;have hnl:decide ((len:Int)<=(p:Int))=false:=by simp;omega
  have HS:Hid (Rd (w.setCell ⟨R,1,none⟩ (.int .i64 ((p:Int)+1))) R (some ⟨b,off,none⟩) len cap):=h.step (by omega);clear hbytes h;go_enter func149,ntmps149;go_wp2;go_quiet (fail);go_wp2;have e1:(p:Int)+1-1=(p:Int):=by omega
  have e2:=bC p;have e3:(p:Int)<(len:Int):=by omega
  have hw:IntKind.i64.wrap (p:Int)=(p:Int):=by rw[IntKind.wrap_i64];omega
  have hcw:IntKind.i64.wrap c=c:=by rw[IntKind.wrap_i64];omega
  have x1:(w.setCell ⟨R,1,none⟩ (.int .i64 ((p:Int)+1))).cell? ⟨b,off+p,none⟩=some (.int .u8 c):=by
   rw[show(w.setCell ⟨R,1,none⟩ (.int .i64 ((p:Int)+1))).cell? ⟨b,off+p,none⟩=w.cell? ⟨b,off+p,none⟩ from by apply World.cell?_setCell_other;intro e;exact hne (congrArg Addr.block e).symm];exact hcc
  go_quiet (fail);go_wp2;go_ret;exact⟨⟨c,rfl,c0,c1⟩,HS.out.below ⟨rfl,rfl,rfl,V4 _,fun _ _=>rfl⟩,(((Only.refl _ _).drewN _).set _ _).drewN _⟩
 have hge:decide ((len:Int)<=(p:Int))=true:=by simp;omega
 clear h;go_enter func149,ntmps149;go_wp2;go_quiet (fail);go_wp2;go_ret;exact⟨⟨0,rfl,by omega,by omega⟩,H.out.below ((below_drewN (V5 _ _) _)),(Only.refl _ _).drewN _⟩
theorem dA(R:Nat)(ad:Q02)(len cap:Nat)(n:Int)(w:ae)(h:Rd w R ad len cap)(h1:2<=n)(h2:n<=256):
  Calls prog 88 #[.pointer (some ⟨R,0,none⟩),.int .i64 n] w fun e w'=>(∃x:Int,e=.returned (.int .i64 x)/\0<=x/\x<n)/\Rd w' R ad len cap/\Only R w w':=by
 have H:=aC h;clear h;have hne:(n==0)=false:=by simp;omega
 go_enter func88,ntmps88;go_wp2_with fail;refine(GG R ad len cap _ H.out).mono ?_;rintro e w1 ⟨⟨x,rfl,hx0,hx1⟩,XV,XT⟩;have HR:=aC XV;have HO:=aC XT;clear XV XT;go_wp2;go_ret;exact⟨⟨_,rfl,Int.emod_nonneg _ (by omega),Int.emod_lt_of_pos _ (by omega)⟩,HR.out,HO.out⟩
theorem iY(R:Nat)(ad:Q02)(len cap:Nat)(n:Int)(w:ae)(h:Rd w R ad len cap)(h1:2<=n)(h2:n<=256):
  Calls prog 89 #[.pointer (some ⟨R,0,none⟩),.int .i64 n] w fun e w'=>(∃x:Bool,e=.returned (.bool x))/\Rd w' R ad len cap/\Only R w w':=by
 have H:=aC h;clear h;go_enter func89,ntmps89;go_wp2_with fail;refine(dA R ad len cap n _ H.out h1 h2).mono ?_;rintro e w1 ⟨⟨x,rfl,hx0,hx1⟩,XV,XT⟩;have HR:=aC XV;have HO:=aC XT;clear XV XT;go_wp2;go_ret;exact⟨⟨_,rfl⟩,HR.out,HO.out⟩
def Strs(w:World)(R g n:Nat):Prop:=g≠R/\g<w.heap.size/\∀i,i<n->∃s:ByteArray,s.size<=20/\w.cell? ⟨g,i,none⟩=some (.string s)
theorem Strs.only{w w':ae}{R g n:Nat}(h:Strs w R g n)(k:Only R w w'):Strs w' R g n :=
 ⟨h.1,VY h.2.1 k.size,fun i hi=>by obtain⟨s,hs,hc⟩:=h.2.2 i hi;exact⟨s,hs,by rw[k.cell h.2.1 h.1];exact hc⟩⟩
def AQ(w:World)(R B g:Nat):Prop:=g≠R/\B<=g/\g<w.heap.size/\(∀o,w.frozen? ⟨g,o,none⟩=false)/\∃a b:ByteArray,a.size<=20/\b.size<=20/\w.cell? ⟨g,0,none⟩=some (.string a)/\w.cell? ⟨g,1,none⟩=some (.string b)
theorem AQ.only{w w':ae}{R B g:Nat}(h:AQ w R B g)(k:Only R w w'):AQ w' R B g:=by
 obtain⟨h1,h2,h3,h4,a,b,ha,hb,ca,cb⟩:=h;exact⟨h1,h2,VY h3 k.size,fun o=>by rw[k.frozen h3 h1];exact h4 o,a,b,ha,hb,by rw[k.cell h3 h1];exact ca,by rw[k.cell h3 h1];exact cb⟩
theorem iZ(w:ae)(R:Nat)(hR:R<w.heap.size){t:TypeId}{xs:List ByteArray}(h:xs.all (fun x=>decide (x.size<=20))=true):Strs (w.alloc (.cells (xs.map Value.string).toArray t)) R w.heap.size xs.length:=by
 refine⟨by omega,by simp,fun i hi=>⟨xs[i],?_,?_⟩⟩
 ·rw[Wq]at h;simpa using h xs[i] (VZ hi)
 simp[hi]
theorem MN{w:ae}{R B:Nat}{t:TypeId}(hR:R<w.heap.size)(hB:B<=w.heap.size):AQ (w.alloc (.cells #[.string ⟨#[]⟩,.string ⟨#[]⟩] t)) R B w.heap.size :=
 ⟨by omega,hB,by simp,fun o=>by simp,⟨#[]⟩,⟨#[]⟩,by decide,by decide,by simp,by simp⟩
theorem MO{w:ae}{R B g:Nat}{x y:Value}{a b:ByteArray}(h1:g≠R)(h2:B<=g)(h3:g<w.heap.size)(h4:∀o,w.frozen? ⟨g,o,none⟩=false)(hx:w.cell? ⟨g,0,none⟩=some x)(hy:w.cell? ⟨g,1,none⟩=some y)(ha:a.size<=20)(hb:b.size<=20):
  AQ ((w.setCell ⟨g,0,none⟩ (.string a)).setCell ⟨g,1,none⟩ (.string b)) R B g:=by
 have n01:(⟨g,0,none⟩:Addr)≠⟨g,1,none⟩:=by intro e;cases e
 have e1:(w.setCell ⟨g,0,none⟩ (.string a)).cell? ⟨g,1,none⟩=some y:=by
  rw[show(w.setCell ⟨g,0,none⟩ (.string a)).cell? ⟨g,1,none⟩=w.cell? ⟨g,1,none⟩ from by apply World.cell?_setCell_other;exact n01];exact hy
 refine⟨h1,h2,by simpa using h3,fun o=>by simpa using h4 o,a,b,ha,hb,?_,?_⟩
 ·rw[show((w.setCell ⟨g,0,none⟩ (.string a)).setCell ⟨g,1,none⟩ (.string b)).cell? ⟨g,0,none⟩=(w.setCell ⟨g,0,none⟩ (.string a)).cell? ⟨g,0,none⟩ from by apply World.cell?_setCell_other;exact n01.symm];apply World.cell?_setCell_same;exact hx
 apply World.cell?_setCell_same;exact e1
theorem Rd.setFar{w:ae}{R g o:Nat}{ad:Q02}{len cap:Nat}{v:Value}(h:Rd w R ad len cap)(hg:g≠R)(hb:0<len->∀b off,ad=some ⟨b,off,none⟩->b≠g):Rd (w.setCell ⟨g,o,none⟩ v) R ad len cap where
 lt:=by simpa using h.lt
 code:=by
  rw[show(w.setCell ⟨g,o,none⟩ v).cell? ⟨R,0,none⟩=w.cell? ⟨R,0,none⟩ from by apply World.cell?_setCell_other;intro e;exact hg (congrArg Addr.block e)];exact h.code
 place:=by
  obtain⟨p,hp,hl⟩:=h.place;exact⟨p,by rw[show(w.setCell ⟨g,o,none⟩ v).cell? ⟨R,1,none⟩=w.cell? ⟨R,1,none⟩ from by apply World.cell?_setCell_other;intro e;exact hg (congrArg Addr.block e)];exact hp,hl⟩
 free:=by simpa using h.free
 bytes h0:=by
  obtain⟨b,off,e,hne,hbl,hc⟩:=h.bytes h0;refine⟨b,off,e,hne,by simpa using hbl,fun i hi=>?_⟩;obtain⟨c,c0,c1,hcc⟩:=hc i hi;exact⟨c,c0,c1,by rw[show(w.setCell ⟨g,o,none⟩ v).cell? ⟨b,off+i,none⟩=w.cell? ⟨b,off+i,none⟩ from by apply World.cell?_setCell_other;intro e2;exact hb h0 b off e (congrArg Addr.block e2).symm];exact hcc⟩
 small:=h.small
theorem Only.setNew{R g o:Nat}{a b:ae}{v:Value}(h:Only R a b)(hg:a.heap.size<=g):Only R a (b.setCell ⟨g,o,none⟩ v) :=
 ⟨h.os,h.tape,h.output,by simpa using h.size,fun i hi hr=>(Below.heap_setCell b ⟨g,o,none⟩ v i (by simp;omega)).trans (h.block i hi hr)⟩
theorem Only.alloc{R:Nat}{a b:ae}(h:Only R a b)(o:Obj):Only R a (b.alloc o):=h.below ((V5 _ _).alloc (V4 _) _)
theorem Rd.alloc{w:ae}{R:Nat}{ad:Q02}{len cap:Nat}(h:Rd w R ad len cap)(o:Obj):Rd (w.alloc o) R ad len cap:=h.below ((V5 _ _).alloc (V4 _) _)
theorem R4{w:ae}{a:Addr}{v:Value}(h:w.cell? a=some v)(o:Obj):(w.alloc o).cell? a=some v:=cell_later ((V5 _ _).alloc (V4 _) _) h
def Ob(w:World)(R g:Nat)(a b:ByteArray):Prop:=g≠R/\g<w.heap.size/\w.cell? ⟨g,0,none⟩=some (.string a)/\w.cell? ⟨g,1,none⟩=some (.string b)
theorem Ob.only{w w':ae}{R g:Nat}{a b:ByteArray}(h:Ob w R g a b)(k:Only R w w'):Ob w' R g a b :=
 ⟨h.1,VY h.2.1 k.size,by rw[k.cell h.2.1 h.1];exact h.2.2.1,by rw[k.cell h.2.1 h.1];exact h.2.2.2⟩
theorem Ob.alloc{w:ae}{R g:Nat}{a b:ByteArray}(h:Ob w R g a b)(o:Obj):Ob (w.alloc o) R g a b:=h.only ((Only.refl R w).alloc o)
theorem E5{w:ae}{R:Nat}(hR:R<w.heap.size)(t:TypeId)(a b:bZ):Ob (w.alloc (.cells #[.string a,.string b] t)) R w.heap.size a b :=
 ⟨by omega,by simp,by simp,by simp⟩
def Uq(w:World)(R n:Nat):Prop:=n≠R/\n<w.heap.size/\(∀o,w.frozen? ⟨n,o,none⟩=false)/\∀o,o<6->w.cell? ⟨n,o,none⟩=some (.string ⟨#[]⟩)
theorem Uq.only{w w':ae}{R n:Nat}(h:Uq w R n)(k:Only R w w'):Uq w' R n :=
 ⟨h.1,VY h.2.1 k.size,fun o=>by rw[k.frozen h.2.1 h.1];exact h.2.2.1 o,fun o ho=>by rw[k.cell h.2.1 h.1];exact h.2.2.2 o ho⟩
theorem R5{w:ae}{R:Nat}(hR:R<w.heap.size)(t:TypeId):Uq (w.alloc (.cells #[.string ⟨#[]⟩,.string ⟨#[]⟩,.string ⟨#[]⟩,.string ⟨#[]⟩,.string ⟨#[]⟩,.string ⟨#[]⟩] t)) R w.heap.size:=by
 refine⟨by omega,by simp,fun o=>by simp,fun o ho=>?_⟩;have h6:o=0\/o=1\/o=2\/o=3\/o=4\/o=5:=by omega
 rcases h6 with rfl|rfl|rfl|rfl|rfl|rfl<;>simp
structure Kd where
 s:Value ⊕ Nat ⊕ Nat ⊕ Nat ⊕ Unit ⊕ Unit ⊕ Unit
abbrev Kd.eq (v:Value):Kd:=⟨.inl v⟩
abbrev Kd.strs (n:Nat):Kd:=⟨.inr (.inl n)⟩
abbrev Kd.idx (n:Nat):Kd:=⟨.inr (.inr (.inl n))⟩
abbrev Kd.elt (n:Nat):Kd:=⟨.inr (.inr (.inr (.inl n)))⟩
abbrev Kd.str:Kd:=⟨.inr (.inr (.inr (.inr (.inl ()))))⟩
abbrev Kd.obj:Kd:=⟨.inr (.inr (.inr (.inr (.inr (.inl ())))))⟩
abbrev Kd.tup:Kd:=⟨.inr (.inr (.inr (.inr (.inr (.inr ())))))⟩
def Kd.ok(R:Nat)(w:World)(v:Value):Kd->Prop
 | ⟨.inl u⟩=>v=u
 | ⟨.inr (.inl n)⟩=>∃g,v=.slice (some ⟨g,0,none⟩) n n/\Strs w R g n
 | ⟨.inr (.inr (.inl n))⟩=>∃x:Nat,v=.int .i64 (x:Int)/\x<n
 | ⟨.inr (.inr (.inr (.inl n)))⟩=>∃g x,v=.pointer (some ⟨g,x,none⟩)/\x<n/\Strs w R g n
 | ⟨.inr (.inr (.inr (.inr (.inl _))))⟩=>∃t:ByteArray,v=.string t/\t.size<=20
 | ⟨.inr (.inr (.inr (.inr (.inr (.inl _)))))⟩=>∃a b:ByteArray,v=.agg #[.string a,.string b]/\a.size<=20/\b.size<=20
 | ⟨.inr (.inr (.inr (.inr (.inr (.inr _)))))⟩=>∃a b r c d s:ByteArray,v=.agg #[.string a,.string b,.string r,.string c,.string d,.string s]/\a.size<=20/\b.size<=20/\r.size<=20/\c.size<=20/\d.size<=20/\s.size<=20
theorem Kd.only{R:Nat}{w w':ae}{v:Value}(h:Only R w w')(k:Kd)(hk:k.ok R w v):k.ok R w' v:=by
 match k,hk with
 | ⟨.inl _⟩,hk=>exact hk
 | ⟨.inr (.inl _)⟩,hk=>obtain⟨g,e,hs⟩:=hk;exact⟨g,e,hs.only h⟩
 | ⟨.inr (.inr (.inl _))⟩,hk=>exact hk
 | ⟨.inr (.inr (.inr (.inl _)))⟩,hk=>obtain⟨g,x,e,hx,hs⟩:=hk;exact⟨g,x,e,hx,hs.only h⟩
 | ⟨.inr (.inr (.inr (.inr (.inl _))))⟩,hk=>exact hk
 | ⟨.inr (.inr (.inr (.inr (.inr (.inl _)))))⟩,hk=>exact hk
 | ⟨.inr (.inr (.inr (.inr (.inr (.inr _)))))⟩,hk=>exact hk
def MP(ks:List Kd)(k:Nat):Kd:=ks.getD k .tup
set_option maxRecDepth 100000
theorem jN{p:Prop}(h:p):Hid p:=h
theorem JF(R:Nat)(w:ae)(n:Int)(h:n<=1):
  Calls prog 88 #[.pointer (some ⟨R,0,none⟩),.int .i64 n] w fun e w'=>e=.returned (.int .i64 0)/\w'=w:=by
 go_enter func88,ntmps88;go_wp2;go_ret;exact⟨rfl,rfl⟩
theorem gX(R:Nat)(ad:Q02)(len cap:Nat)(n:Nat)(w:ae)(h:Rd w R ad len cap)(h1:1<=n)(h2:n<=256):
  Calls prog 88 #[.pointer (some ⟨R,0,none⟩),.int .i64 (n:Int)] w fun e w'=>(∃x:Nat,e=.returned (.int .i64 (x:Int))/\x<n)/\Rd w' R ad len cap/\Only R w w':=by
 by_cases hn:n=1
 ·subst hn;exact(JF R w 1 (by omega)).mono fun e w' ⟨he,hw⟩=>⟨⟨0,by rw[he];rfl,by omega⟩,by rw[hw];exact h,by rw[hw];exact Only.refl _ _⟩
 exact(dA R ad len cap n w h (by omega) (by omega)).mono fun e w' ⟨⟨x,he,h0,h3⟩,hR,hO⟩=>⟨⟨x.toNat,by rw[he,Int.toNat_of_nonneg h0],by omega⟩,hR,hO⟩
def tF(w:World)(R g n m:Nat):Prop:=g≠R/\g<w.heap.size/\∀o,o<n->∃s:ByteArray,w.cell? ⟨g,o,none⟩=some (.string s)/\s.size<=m
theorem tF.only{w w':ae}{R g n m:Nat}(h:tF w R g n m)(k:Only R w w'):tF w' R g n m :=
 ⟨h.1,VY h.2.1 k.size,fun o ho=>by obtain⟨s,e,hs⟩:=h.2.2 o ho;exact⟨s,by rw[k.cell h.2.1 h.1];exact e,hs⟩⟩
theorem mR(w:ae)(R m:Nat)(hR:R<w.heap.size){t:TypeId}{xs:List ByteArray}(h:xs.all (fun x=>decide (x.size<=m))=true):tF (w.alloc (.cells (xs.map Value.string).toArray t)) R w.heap.size xs.length m:=by
 refine⟨by omega,by simp,fun o ho=>⟨xs[o],?_,?_⟩⟩
 ·have:=World.cell?_alloc_mark w (xs.map Value.string).toArray t (0,0) o;rw[this];simp[ho]
 have:=Wq.1 h _ (VZ ho);simpa using this
def tB:Nat->Nat
 | 0=>14
 | d+1=>3*tB d+8
theorem tQ(R:Nat)(ad:Q02)(len cap:Nat)(d:Int)(w:ae)(h:Rd w R ad len cap):
  Calls prog 161 #[.pointer (some ⟨R,0,none⟩),.int .i64 d,.bool true] w fun e w'=>(∃t:ByteArray,e=.returned (.string t)/\t.size<=24)/\Rd w' R ad len cap/\Only R w w':=by
 have Z5:=h.lt;have HRD:=jN h;obtain⟨xs,hxs⟩:∃xs:List ByteArray,xs=[⟨#[116,104,105,115,40,117,115,101,114,41]⟩,⟨#[116,104,105,115,40,117,115,101,114,44,103,114,111,117,112,35,109,101,109,98,101,114,41]⟩,⟨#[116,104,105,115,40,117,115,101,114,44,100,111,99,35,101,100,105,116,111,114,41]⟩]:=⟨_,rfl⟩;obtain⟨W0,hW0⟩:∃W0,W0=w.alloc (.cells (xs.map Value.string).toArray 9):=⟨_,rfl⟩;have YW:Hid (tF W0 R w.heap.size 3 24):=by
  show tF _ _ _ _ _;rw[hW0];have:=mR w R 24 Z5 (t:=9) (xs:=xs) (by rw[hxs];decide);rwa [show xs.length=3 by rw[hxs];rfl]at this
 have Yw:Hid (Rd W0 R ad len cap):=by show Rd _ _ _ _ _;rw[hW0];exact h.alloc _
 have Yz:Hid (Only R w W0):=by show Only _ _ _;rw[hW0];exact(Only.refl _ _).alloc _
 have hW1:W0=w.alloc (.cells #[.string ⟨#[116,104,105,115,40,117,115,101,114,41]⟩,.string ⟨#[116,104,105,115,40,117,115,101,114,44,103,114,111,117,112,35,109,101,109,98,101,114,41]⟩,.string ⟨#[116,104,105,115,40,117,115,101,114,44,100,111,99,35,101,100,105,116,111,114,41]⟩] 9):=by rw[hW0,hxs];rfl
 clear h hW0 hxs;go_enter func161,ntmps161;go_wp2_with fail;rw[<-hW1];clear hW1;refine(gX R ad len cap 3 _ Yw.out (by omega) (by omega)).mono ?_;rintro e w1 ⟨⟨x,rfl,hx⟩,XV,XT⟩;obtain⟨-,hlt,hcells⟩:=YW.out.only XT;obtain⟨t,ht,hts⟩:=hcells x hx;have HR1:=jN XV;have XD:Hid (Only R w w1):=Yz.out.trans XT;have hx0:=bC x;have hx1:(x:Int)<3:=by omega
 clear XV XT hcells YW Yw Yz;go_wp2;go_ret;exact⟨⟨t,rfl,hts⟩,HR1.out,XD.out⟩
theorem E8(R:Nat)(ad:Q02)(len cap:Nat):∀(d:Nat) (w:ae),d<=2->Rd w R ad len cap ->
  Calls prog 161 #[.pointer (some ⟨R,0,none⟩),.int .i64 (d:Int),.bool false] w fun e w'=>(∃t:ByteArray,e=.returned (.string t)/\t.size<=tB d)/\Rd w' R ad len cap/\Only R w w':=by
 intro d
 induction d with
 | zero =>
  intro w _ h;have Z5:=h.lt;have hz:(0:Nat)<=256:=by omega
  obtain⟨xs,hxs⟩:∃xs:List ByteArray,xs=[⟨#[101,100,105,116,111,114]⟩,⟨#[118,105,101,119,101,114]⟩,⟨#[98,97,110,110,101,100]⟩,⟨#[112,97,114,101,110,116,45,62,118,105,101,119,101,114]⟩,⟨#[112,97,114,101,110,116,45,62,101,100,105,116,111,114]⟩,⟨#[111,119,110,101,114]⟩,⟨#[112,97,114,101,110,116,45,62,111,119,110,101,114]⟩]:=⟨_,rfl⟩;obtain⟨W0,hW0⟩:∃W0,W0=w.alloc (.cells (xs.map Value.string).toArray 9):=⟨_,rfl⟩;have YW:Hid (tF W0 R w.heap.size 7 14):=by
   show tF _ _ _ _ _;rw[hW0];have:=mR w R 14 Z5 (t:=9) (xs:=xs) (by rw[hxs];decide);rwa [show xs.length=7 by rw[hxs];rfl]at this
  have Yw:Hid (Rd W0 R ad len cap):=by show Rd _ _ _ _ _;rw[hW0];exact h.alloc _
  have Yz:Hid (Only R w W0):=by show Only _ _ _;rw[hW0];exact(Only.refl _ _).alloc _
  have hW1:W0=w.alloc (.cells #[.string ⟨#[101,100,105,116,111,114]⟩,.string ⟨#[118,105,101,119,101,114]⟩,.string ⟨#[98,97,110,110,101,100]⟩,.string ⟨#[112,97,114,101,110,116,45,62,118,105,101,119,101,114]⟩,.string ⟨#[112,97,114,101,110,116,45,62,101,100,105,116,111,114]⟩,.string ⟨#[111,119,110,101,114]⟩,.string ⟨#[112,97,114,101,110,116,45,62,111,119,110,101,114]⟩] 9):=by rw[hW0,hxs];rfl
  clear h hW0 hxs;go_enter func161,ntmps161;go_wp2_with fail;rw[<-hW1];clear hW1;refine(gX R ad len cap 7 _ Yw.out (by omega) (by omega)).mono ?_;rintro e w1 ⟨⟨x,rfl,hx⟩,XV,XT⟩;obtain⟨-,hlt,hcells⟩:=YW.out.only XT;obtain⟨t,ht,hts⟩:=hcells x hx;have HR1:=jN XV;have XD:Hid (Only R w w1):=Yz.out.trans XT;have hx0:=bC x;have hx1:(x:Int)<7:=by omega
  clear XV XT hcells YW Yw Yz;go_wp2;go_ret;exact⟨⟨t,rfl,hts⟩,HR1.out,XD.out⟩
 | succ d ih =>
  intro w hd h;have Z5:=h.lt;have IH:=jN ih;have hd0:(((d+1:Nat):Int)==0)=false:=by simp;omega
  have hdm:((d+1:Nat):Int)-1=(d:Int):=by omega
  have HTB:Hid (tB (d+1)=3*tB d+8):=rfl;have hb0:tB d<=82:=by
   have:d=0\/d=1:=by omega
   rcases this with rfl|rfl<;>decide
  obtain⟨bd,hbd⟩:∃bd,bd=tB d:=⟨_,rfl⟩;rw[<-hbd]at hb0 HTB;have HBD:=jN hbd;clear ih hbd;go_enter func161,ntmps161;go_wp2_with fail;refine(iY R ad len cap 2 _ h (by omega) (by omega)).mono ?_;rintro e w1 ⟨⟨q,rfl⟩,XV,XT⟩;have HR1:=jN XV;have XD:=jN XT;have hRw1:R<w1.heap.size:=XV.lt;clear XV XT h;cases q;case true=>
   obtain⟨xs,hxs⟩:∃xs:List ByteArray,xs=[⟨#[101,100,105,116,111,114]⟩,⟨#[118,105,101,119,101,114]⟩,⟨#[98,97,110,110,101,100]⟩,⟨#[112,97,114,101,110,116,45,62,118,105,101,119,101,114]⟩,⟨#[112,97,114,101,110,116,45,62,101,100,105,116,111,114]⟩,⟨#[111,119,110,101,114]⟩,⟨#[112,97,114,101,110,116,45,62,111,119,110,101,114]⟩]:=⟨_,rfl⟩;obtain⟨W0,hW0⟩:∃W0,W0=w1.alloc (.cells (xs.map Value.string).toArray 9):=⟨_,rfl⟩;have YW:Hid (tF W0 R w1.heap.size 7 14):=by
    show tF _ _ _ _ _;rw[hW0];have:=mR w1 R 14 hRw1 (t:=9) (xs:=xs) (by rw[hxs];decide);rwa [show xs.length=7 by rw[hxs];rfl]at this
   have Yw:Hid (Rd W0 R ad len cap):=by show Rd _ _ _ _ _;rw[hW0];exact HR1.out.alloc _
   have Yz:Hid (Only R w W0):=by show Only _ _ _;rw[hW0];exact XD.out.alloc _
   have hW1:W0=w1.alloc (.cells #[.string ⟨#[101,100,105,116,111,114]⟩,.string ⟨#[118,105,101,119,101,114]⟩,.string ⟨#[98,97,110,110,101,100]⟩,.string ⟨#[112,97,114,101,110,116,45,62,118,105,101,119,101,114]⟩,.string ⟨#[112,97,114,101,110,116,45,62,101,100,105,116,111,114]⟩,.string ⟨#[111,119,110,101,114]⟩,.string ⟨#[112,97,114,101,110,116,45,62,111,119,110,101,114]⟩] 9):=by rw[hW0,hxs];rfl
   clear hW0 hxs HR1 XD;go_wp2_with fail;rw[<-hW1];clear hW1;refine(gX R ad len cap 7 _ Yw.out (by omega) (by omega)).mono ?_;rintro e w2 ⟨⟨x,rfl,hx⟩,hR2,hO2⟩;obtain⟨-,hlt,hcells⟩:=YW.out.only hO2;obtain⟨t,ht,hts⟩:=hcells x hx;have HR2:=jN hR2;have Xv:Hid (Only R w w2):=Yz.out.trans hO2;have hx0:=bC x;have hx1:(x:Int)<7:=by omega
   have hfin:t.size<=tB (d+1):=by rw[HTB.out,HBD.out];cases d<;>simp[tB]<;>omega
   have Ye:=jN hfin;clear hR2 hO2 hcells YW Yw Yz hfin;go_wp2;go_ret;exact⟨⟨t,rfl,Ye.out⟩,HR2.out,Xv.out⟩
  obtain⟨xs,hxs⟩:∃xs:List ByteArray,xs=[⟨#[32,124,32]⟩,⟨#[32,38,32]⟩,⟨#[32,45,32]⟩,⟨#[32,124,32]⟩]:=⟨_,rfl⟩;obtain⟨W0,hW0⟩:∃W0,W0=w1.alloc (.cells (xs.map Value.string).toArray 9):=⟨_,rfl⟩;have YW:Hid (tF W0 R w1.heap.size 4 3):=by
   show tF _ _ _ _ _;rw[hW0];have:=mR w1 R 3 hRw1 (t:=9) (xs:=xs) (by rw[hxs];decide);rwa [show xs.length=4 by rw[hxs];rfl]at this
  have Yw:Hid (Rd W0 R ad len cap):=by show Rd _ _ _ _ _;rw[hW0];exact HR1.out.alloc _
  have Yz:Hid (Only R w W0):=by show Only _ _ _;rw[hW0];exact XD.out.alloc _
  have hW1:W0=w1.alloc (.cells #[.string ⟨#[32,124,32]⟩,.string ⟨#[32,38,32]⟩,.string ⟨#[32,45,32]⟩,.string ⟨#[32,124,32]⟩] 9):=by rw[hW0,hxs];rfl
  clear hW0 hxs HR1 XD;go_wp2_with fail;rw[<-hW1];clear hW1;refine(gX R ad len cap 4 _ Yw.out (by omega) (by omega)).mono ?_;rintro e w2 ⟨⟨x,rfl,hx⟩,hR2,hO2⟩;obtain⟨-,hlt,hcells⟩:=YW.out.only hO2;obtain⟨op,hop,hops⟩:=hcells x hx;have HR2:=jN hR2;have Xv:Hid (Only R w w2):=Yz.out.trans hO2;have hx0:=bC x;have hx1:(x:Int)<4:=by omega
  clear hR2 hO2 hcells YW Yw Yz;go_wp2_with fail;refine(IH.out w2 (by omega) HR2.out).mono ?_;rintro e w3 ⟨⟨t1,rfl,ht1⟩,Y3,hO3⟩;rw[<-HBD.out]at ht1;have HR3:=jN Y3;have XG:Hid (Only R w w3):=Xv.out.trans hO3;clear Y3 hO3 HR2 Xv hop hlt;go_wp2_with fail;refine(IH.out w3 (by omega) HR3.out).mono ?_;rintro e w4 ⟨⟨t2,rfl,ht2⟩,ZM,hO4⟩;rw[<-HBD.out]at ht2;have HR4:=jN ZM;have XE:Hid (Only R w w4):=XG.out.trans hO4;clear ZM hO4 HR3 XG;have e1:(⟨#[40]⟩:ByteArray).size=1:=rfl;have e2:(⟨#[41]⟩:ByteArray).size=1:=rfl;cases hm:op.toList==[32,45,32];case true=>
   have hm2:(!op.toList==[32,45,32])=false:=by rw[hm];rfl
   have Ye:Hid ((((((⟨#[40]⟩:ByteArray)++t1)++op)++t2)++⟨#[41]⟩).size<=tB (d+1)):=by show _<=_;rw[HTB.out];simp only[Wv,e1,e2];omega
   go_wp2_with fail;go_ret;exact⟨⟨_,rfl,Ye.out⟩,HR4.out,XE.out⟩
  have hm2:(!op.toList==[32,45,32])=true:=by rw[hm];rfl
  go_wp2_with fail;refine(iY R ad len cap 3 _ HR4.out (by omega) (by omega)).mono ?_;rintro e w5 ⟨⟨q,rfl⟩,X9,XW⟩;have XY:=jN X9;have XH:Hid (Only R w w5):=XE.out.trans XW;clear X9 XW HR4 XE;cases q;case false=>
   have Ye:Hid ((((((⟨#[40]⟩:ByteArray)++t1)++op)++t2)++⟨#[41]⟩).size<=tB (d+1)):=by show _<=_;rw[HTB.out];simp only[Wv,e1,e2];omega
   go_wp2_with fail;go_ret;exact⟨⟨_,rfl,Ye.out⟩,XY.out,XH.out⟩
  go_wp2_with fail;refine(IH.out w5 (by omega) XY.out).mono ?_;rintro e w6 ⟨⟨t3,rfl,ht3⟩,hR6,Z6⟩;rw[<-HBD.out]at ht3;have Zk:=jN hR6;have Yf:Hid (Only R w w6):=XH.out.trans Z6;clear hR6 Z6 XY XH;have Ye:Hid ((((((((⟨#[40]⟩:ByteArray)++t1)++op)++t2)++op)++t3)++⟨#[41]⟩).size<=tB (d+1)):=by show _<=_;rw[HTB.out];simp only[Wv,e1,e2];omega
  go_wp2_with fail;go_ret;exact⟨⟨_,rfl,Ye.out⟩,Zk.out,Yf.out⟩
theorem GH(R:Nat)(ad:Q02)(len cap d:Nat)(w:ae)(hd:d<=2)(h:Rd w R ad len cap):
  Calls prog 104 #[.pointer (some ⟨R,0,none⟩),.int .i64 (d:Int)] w fun e w'=>(∃t:ByteArray,e=.returned (.string t)/\t.size<=190)/\Rd w' R ad len cap/\Only R w w':=by
 have Z5:=h.lt;have hb0:tB d<=158:=by
  have:d=0\/d=1\/d=2:=by omega
  rcases this with rfl|rfl|rfl<;>decide
 obtain⟨xs,hxs⟩:∃xs:List ByteArray,xs=[⟨#[32,124,32]⟩,⟨#[32,38,32]⟩,⟨#[32,45,32]⟩,⟨#[32,124,32]⟩]:=⟨_,rfl⟩;obtain⟨W0,hW0⟩:∃W0,W0=w.alloc (.cells (xs.map Value.string).toArray 9):=⟨_,rfl⟩;have YW:Hid (tF W0 R w.heap.size 4 3):=by
  show tF _ _ _ _ _;rw[hW0];have:=mR w R 3 Z5 (t:=9) (xs:=xs) (by rw[hxs];decide);rwa [show xs.length=4 by rw[hxs];rfl]at this
 have Yw:Hid (Rd W0 R ad len cap):=by show Rd _ _ _ _ _;rw[hW0];exact h.alloc _
 have Yz:Hid (Only R w W0):=by show Only _ _ _;rw[hW0];exact(Only.refl _ _).alloc _
 have hW1:W0=w.alloc (.cells #[.string ⟨#[32,124,32]⟩,.string ⟨#[32,38,32]⟩,.string ⟨#[32,45,32]⟩,.string ⟨#[32,124,32]⟩] 9):=by rw[hW0,hxs];rfl
 clear h hW0 hxs;go_enter func104,ntmps104;go_wp2_with fail;rw[<-hW1];clear hW1;refine(gX R ad len cap 4 _ Yw.out (by omega) (by omega)).mono ?_;rintro e w2 ⟨⟨x,rfl,hx⟩,hR2,hO2⟩;obtain⟨-,hlt,hcells⟩:=YW.out.only hO2;obtain⟨op,hop,hops⟩:=hcells x hx;have HR2:=jN hR2;have Xv:Hid (Only R w w2):=Yz.out.trans hO2;have hx0:=bC x;have hx1:(x:Int)<4:=by omega
 clear hR2 hO2 hcells YW Yw Yz;go_wp2_with fail;refine(iY R ad len cap 3 _ HR2.out (by omega) (by omega)).mono ?_;rintro e w3 ⟨⟨q,rfl⟩,Y3,hO3⟩;have HR3:=jN Y3;have XG:Hid (Only R w w3):=Xv.out.trans hO3;clear Y3 hO3 HR2 Xv hop hlt;cases q;case true=>
  go_wp2_with fail;refine(tQ R ad len cap 0 _ HR3.out).mono ?_;rintro e w4 ⟨⟨t1,rfl,ht1⟩,ZM,hO4⟩;have HR4:=jN ZM;have XE:Hid (Only R w w4):=XG.out.trans hO4;clear ZM hO4;go_wp2;go_ret;exact⟨⟨t1,rfl,by omega⟩,HR4.out,XE.out⟩
 go_wp2_with fail;refine(tQ R ad len cap 0 _ HR3.out).mono ?_;rintro e w4 ⟨⟨t1,rfl,ht1⟩,ZM,hO4⟩;have HR4:=jN ZM;have XE:Hid (Only R w w4):=XG.out.trans hO4;clear ZM hO4;go_wp2_with fail;refine(E8 R ad len cap d _ hd HR4.out).mono ?_;rintro e w5 ⟨⟨t2,rfl,ht2⟩,X9,XW⟩;have XY:=jN X9;have XH:Hid (Only R w w5):=XE.out.trans XW;have hf:t2.size<=158:=by omega
 have Ye:Hid (((t1++op)++t2).size<=190):=by show _<=_;simp only[Wv];omega
 clear X9 XW ht2 hb0;go_wp2;go_ret;exact⟨⟨_,rfl,Ye.out⟩,XY.out,XH.out⟩
theorem rA(R:Nat)(ad:Q02)(len cap d:Nat)(w:ae)(hd:d<=2)(h:Rd w R ad len cap):
  Calls prog 104 #[.pointer (some ⟨R,0,none⟩),.int .i64 (d:Int)] w fun e w'=>(∃t:ByteArray,e=.returned (.string t)/\t.size<=300)/\Rd w' R ad len cap/\Only R w w' :=
 (GH R ad len cap d w hd h).mono fun e w' ⟨⟨t,h1,h2⟩,h3⟩=>⟨⟨t,h1,by omega⟩,h3⟩
theorem E9(R:Nat)(ad:Q02)(len cap:Nat)(w:ae)(h:Rd w R ad len cap):
  Calls prog 192 #[.pointer (some ⟨R,0,none⟩)] w fun e w'=>(∃x:Int,e=.returned (.int .u64 x))/\Rd w' R ad len cap/\Only R w w':=by
 have H:=aC h;clear h;go_enter func192,ntmps192;go_wp2;go_loopw[3,4] (fun v i wr=>∃(x:Int) (k:Nat),v=.int .u64 x/\i=.int .i64 (k:Int)/\k<=8/\Hid (Rd wr R ad len cap)/\Hid (Only R w wr)) (fun _ i _=>8-(intOf i).toNat);case atStart=>exact⟨0,0,rfl,rfl,by omega,H,Only.refl _ _⟩
 obtain⟨x,k,rfl,rfl,hk,HR,HO⟩:=hrel;by_cases hlt:k<8
 ·have hk1:(k:Int)<8:=by omega
  go_wp2_with fail;refine(GG R ad len cap _ HR.out).mono ?_;rintro e w1 ⟨⟨y,rfl,hy0,hy1⟩,XV,XT⟩;have HR1:=aC XV;have XD:Hid (Only R w w1):=HO.out.trans XT;clear XV XT;go_wp2;go_roundw;case rel=>exact⟨_,k+1,rfl,by go_num,by omega,HR1,XD⟩
  simp[intOf]<;>omega
 have hk1:¬(k:Int)<8:=by omega
 go_wp2;go_ret;exact⟨⟨x,rfl⟩,HR.out,HO.out⟩
theorem PG(R:Nat)(ad:Q02)(len cap:Nat)(lo hi:Int)(w:ae)(h:Rd w R ad len cap)(h0:0<=lo)(h1:lo<=hi)(h2:hi<=1000):
  Calls prog 150 #[.pointer (some ⟨R,0,none⟩),.int .i64 lo,.int .i64 hi] w fun e w'=>(∃x:Int,e=.returned (.int .i64 x))/\Rd w' R ad len cap/\Only R w w':=by
 have H:=jN h;have hw1:IntKind.i64.wrap (hi-lo)=hi-lo:=by rw[IntKind.wrap_i64]<;>omega
 have hw2:IntKind.i64.wrap (hi-lo+1)=hi-lo+1:=by rw[IntKind.wrap_i64]<;>omega
 have hw3:IntKind.u64.wrap (hi-lo+1)=hi-lo+1:=by rw[IntKind.wrap_u64]<;>omega
 have hlt:¬hi<lo:=by omega
 have hz:¬hi-lo+1=0:=by omega
 clear h h0 h1 h2;go_enter func150,ntmps150;go_wp2_with fail;refine(gX R ad len cap 8 _ H.out (by omega) (by omega)).mono ?_;rintro e w1 ⟨⟨x,rfl,hx⟩,XV,XT⟩;have HR1:=jN XV;have XD:=jN XT;clear XV XT;by_cases h0:x=0
 ·subst h0;go_wp2;go_ret;exact⟨⟨_,rfl⟩,HR1.out,XD.out⟩
 have h00:((x:Int)==0)=false:=by simp;omega
 by_cases h1:x=1
 ·subst h1;go_wp2;go_ret;exact⟨⟨_,rfl⟩,HR1.out,XD.out⟩
 have h11:((x:Int)==1)=false:=by simp;omega
 go_wp2_with fail;refine(E9 R ad len cap _ HR1.out).mono ?_;rintro e w2 ⟨⟨y,rfl⟩,hR2,hO2⟩;have HR2:=jN hR2;have Xv:Hid (Only R w w2):=XD.out.trans hO2;clear hR2 hO2;go_wp2;go_ret;exact⟨⟨_,rfl⟩,HR2.out,Xv.out⟩
theorem Lm(R:Nat)(ad:Q02)(len cap:Nat)(lo hi:Int)(w:ae)(h:Rd w R ad len cap)(h0:0<=lo)(h1:lo<=hi)(h2:hi<=1000):
  Calls prog 90 #[.pointer (some ⟨R,0,none⟩),.int .i64 lo,.int .i64 hi] w fun e w'=>(∃x:Int,e=.returned (.int .i64 x))/\Rd w' R ad len cap/\Only R w w':=by
 have H:=jN h;clear h;go_enter func90,ntmps90;go_wp2_with fail;refine(iY R ad len cap 24 _ H.out (by omega) (by omega)).mono ?_;rintro e w1 ⟨⟨q,rfl⟩,XV,XT⟩;have HR1:=jN XV;have XD:=jN XT;have Z5:=XV.lt;clear XV XT;cases q;case false=>
  go_wp2_with fail;refine(PG R ad len cap lo hi _ HR1.out h0 h1 h2).mono ?_;rintro e w2 ⟨⟨y,rfl⟩,hR2,hO2⟩;have HR2:=jN hR2;have Xv:Hid (Only R w w2):=XD.out.trans hO2;clear hR2 hO2;go_wp2;go_ret;exact⟨⟨_,rfl⟩,HR2.out,Xv.out⟩
 have hw1:IntKind.i64.wrap (lo-1)=lo-1:=by rw[IntKind.wrap_i64]<;>omega
 have hw2:IntKind.i64.wrap (hi+1)=hi+1:=by rw[IntKind.wrap_i64]<;>omega
 obtain⟨W0,hW0⟩:∃W0,W0=w1.alloc (.cells #[.int .i64 (lo-1),.int .i64 (hi+1),.int .i64 (-9223372036854775808),.int .i64 9223372036854775807] 2):=⟨_,rfl⟩;have Yw:Hid (Rd W0 R ad len cap):=by show Rd _ _ _ _ _;rw[hW0];exact HR1.out.alloc _
 have Yz:Hid (Only R w W0):=by show Only _ _ _;rw[hW0];exact XD.out.alloc _
 have YG:Hid (w1.heap.size<W0.heap.size/\∀o,o<4->∃z:Int,W0.cell? ⟨w1.heap.size,o,none⟩=some (.int .i64 z)):=by
  show _/\_;rw[hW0];refine⟨by simp,fun o ho=>?_⟩;have:o=0\/o=1\/o=2\/o=3:=by omega
  rcases this with rfl|rfl|rfl|rfl<;>exact⟨_,by simp;rfl⟩
 go_wp2_with fail;rw[<-hW0];clear hW0;refine(gX R ad len cap 4 _ Yw.out (by omega) (by omega)).mono ?_;rintro e w2 ⟨⟨x,rfl,hx⟩,hR2,hO2⟩;obtain⟨z,hz⟩:=YG.out.2 x hx;have hz2:w2.cell? ⟨w1.heap.size,x,none⟩=some (.int .i64 z):=by rw[hO2.cell YG.out.1 (by omega)];exact hz
 have HR2:=jN hR2;have Xv:Hid (Only R w w2):=Yz.out.trans hO2;have hx0:=bC x;have hx1:(x:Int)<4:=by omega
 clear hR2 hO2 hz YG Yw Yz;go_wp2;go_ret;exact⟨⟨z,rfl⟩,HR2.out,Xv.out⟩
theorem Lp{a b a' b':ByteArray}{f f':Bool}(ha:a=a')(hb:b=b')(hf:f=f'):Ending.returned (.tuple #[.string a,.string b,.bool f])=.returned (.tuple #[.string a',.string b',.bool f']):=by rw[ha,hb,hf]
theorem Dy(s:bZ)(c:UInt8)(w:ae)(hs:s.size<=maxLen):
  Calls prog 202 #[.string s,.int .u8 c.toNat] w fun e w'=>e=.returned (.tuple #[.string (kK c s),.string (iM c s),.bool (pJ c s)])/\∃n,w'=w.drewN n:=by
 unfold maxLen at hs;go_enter func202,ntmps202;go_wp2
 go_loop [7] (fun i=>∃k:Nat,k<=s.size/\i=.int .i64 k/\Hid (Uf c s k)) (fun i=>s.size-(intOf i).toNat)
 case atStart=>exact⟨0,Wd _,rfl,OH _ _⟩
 obtain⟨k,hk,rfl,hu⟩:=hrel;by_cases hlt:k<s.size
 ·by_cases hc:s[k]=c
  ·have HC:Hid (iV c s.data.toList=_):=Ug hlt hu.out hc;have hcb:((s[k].toNat:Int)==(c.toNat:Int))=true:=by simp[hc]
   have hk1:=bC k;have hk2:(k:Int)<=(s.size:Int):=by omega
   have hk3:(k:Int)+1<=(s.size:Int):=by omega
   clear hc;go_wp2;go_quiet (fail);go_wp2
   go_ret3
   refine⟨Lp (gH ?_) (gH ?_) (by simp[pJ,HC.out]),nq,rfl⟩
   ·rw[Lib.extract_data];simp[kK,HC.out]
   rw[Lib.extract_to_end];simp[iM,HC.out]
  have HU:Hid (Uf c s (k+1)):=OI hlt hu.out hc;have hcb:((s[k].toNat:Int)==(c.toNat:Int))=false:=by
   simp;intro h;exact hc (UInt8.toNat_inj.mp (by omega))
  clear hc;go_wp2;go_round;case rel=>exact⟨k+1,by omega,by go_num,HU⟩
  simp[intOf];omega
 have HC:Hid (iV c s.data.toList=_):=OJ (Nat.le_of_not_lt hlt) hu.out;go_wp2
 go_ret3
 exact⟨Lp (by simp[kK,HC.out]) (by simp[iM,HC.out]) (by simp[pJ,HC.out]),0,rfl⟩
def Bytes(w:World)(ad:Q02)(len:Nat):Prop:=len<=maxLen/\(0<len->∃b off,ad=some ⟨b,off,none⟩/\b<w.heap.size/\∀i,i<len->∃c:Int,0<=c/\c<=255/\w.cell? ⟨b,off+i,none⟩=some (.int .u8 c))
theorem Bytes.below{w w':ae}{ad:Q02}{len:Nat}(h:Bytes w ad len)(hb:af w w'):Bytes w' ad len:=by
 refine⟨h.1,fun h0=>?_⟩;obtain⟨b,off,e,hbl,hc⟩:=h.2 h0;refine⟨b,off,e,VY hbl hb.size,fun i hi=>?_⟩;obtain⟨c,c0,c1,hcc⟩:=hc i hi;exact⟨c,c0,c1,by rw[hb.cell (p:=⟨b,off+i,none⟩) hbl];exact hcc⟩
theorem JG{H:Type}{enc:TypeId×Value->H}{W:ae}{base:Nat}{sp:Nat->Bool}{held:Bool}{fuel:Nat}{ad:Q02}{len cap:Nat}{x:DataW H×List MemPlace}
  (h:DataW.trod enc prog W base sp held fuel 22 [.slice ad len cap]=some x):Bytes W ad len:=by
 rcases open_ints underlying22 underlying5 (by kernel_rfl) h with⟨hcs,-⟩|⟨a,l,c,zs,hcs,-,hlc,hcm,hm,-,hel,hwf⟩
 ·simp at hcs;obtain⟨rfl,rfl,rfl⟩:=hcs;exact⟨by unfold maxLen;omega,fun h0=>by omega⟩
 simp at hcs;obtain⟨rfl,rfl,rfl⟩:=hcs;have hle:len<=zs.length:=by rw[hm];split<;>omega
 refine⟨by omega,fun h0=>?_⟩;have hspot:a.spot=none:=by
  have:=hel 0 (by omega);have e:a.add 0=a:=by simp[Addr.add]
  rw[e]at this;exact World.cell?_spot this
 obtain⟨b,off,spot⟩:=a;simp only at hspot;subst hspot;have add0:∀x:Nat,(⟨b,off,none⟩:Addr).add x=⟨b,off+x,none⟩:=fun x=>by
  unfold Addr.add;by_cases h:x=0
  ·subst h;simp
  simp[h]
 refine⟨b,off,rfl,?_,fun i hi=>?_⟩
 ·have:=hel 0 (by omega);rw[add0]at this;exact World.block_lt_of_cell? W ⟨b,off+0,none⟩ this
 have h1:=hel i (by omega);rw[add0]at h1;have h2:=hwf (zs.getD i 0) (by rw[Xd,Wm (by omega)];simp);have h3:IntKind.u8.min<=zs.getD i 0/\zs.getD i 0<=IntKind.u8.max:=by simpa only[Lit.wf,V9,Wn] using h2
 have e1:IntKind.u8.min=0:=by decide
 have e2:IntKind.u8.max=255:=by decide
 rw[e1,e2]at h3;exact⟨_,h3.1,h3.2,h1⟩
theorem Ur{w:ae}{ad:Q02}{len cap:Nat}{t:TypeId}(h:Bytes w ad len):Rd (w.alloc (.cells #[.slice ad len cap,.int .i64 0] t)) w.heap.size ad len cap where
 lt:=by simp
 code:=by simp
 place:=⟨0,by simp,by omega⟩
 free:=by simp
 bytes h0:=by
  obtain⟨b,off,e,hbl,hc⟩:=h.2 h0;refine⟨b,off,e,by omega,by simp;omega,fun i hi=>?_⟩;obtain⟨c,c0,c1,hcc⟩:=hc i hi;exact⟨c,c0,c1,R4 hcc _⟩
 small:=h.1
theorem PH(ad:Q02)(len cap:Nat)(w:ae)(h:Bytes w ad len):
  Calls prog 46 #[.slice ad len cap] w fun e w'=>e=.returned (.pointer (some ⟨w.heap.size,0,none⟩))/\Rd w' w.heap.size ad len cap/\af w w':=by
 have H:=aC h;clear h;go_enter func46,ntmps46;go_wp2;go_ret;exact⟨rfl,Ur H.out,(V5 _ _).alloc (V4 _) _⟩
theorem R6(ad:Q02)(len cap:Nat)(w:ae):
  Calls prog 6 #[.slice ad len cap] w fun e w'=>e=.returned (.bool (decide ((1048576:Int)<(len:Int))))/\w'=w:=by
 go_enter func6,ntmps6;go_wp2;go_ret;exact⟨rfl,rfl⟩
def Us(R B k:Nat)(v:Value)(w:World):Prop:=(k=11->∃g,v=.pointer (some ⟨g,0,none⟩)/\AQ w R B g)/\(k≠11->Kd.ok R w v (MP [.strs 5,.eq (Value.pointer (some ⟨R,0,none⟩)),.idx 5,.elt 5,.str,.strs 3,.eq (Value.pointer (some ⟨R,0,none⟩)),.idx 3,.elt 3,.str,.obj] k))
theorem Us.only{R B k:Nat}{v:Value}{w w':ae}(h:Us R B k v w)(ho:Only R w w'):Us R B k v w' :=
 ⟨fun e=>by obtain⟨g,e1,hg⟩:=h.1 e;exact⟨g,e1,hg.only ho⟩,fun e=>Kd.only ho _ (h.2 e)⟩
theorem Us.no{R B k:Nat}{v:Value}{w:ae}(hk:k≠11)(h:Kd.ok R w v (MP [.strs 5,.eq (Value.pointer (some ⟨R,0,none⟩)),.idx 5,.elt 5,.str,.strs 3,.eq (Value.pointer (some ⟨R,0,none⟩)),.idx 3,.elt 3,.str,.obj] k)):Us R B k v w:=⟨fun e=>absurd e hk,fun _=>h⟩
set_option maxRecDepth 4000 in
theorem AR(R:Nat)(ad:Q02)(len cap:Nat)(w:ae)(h:Rd w R ad len cap):
  Calls prog 163 #[.pointer (some ⟨R,0,none⟩)] w fun e w'=>(∃a b:ByteArray,e=.returned (.agg #[.string a,.string b])/\a.size<=20/\b.size<=20)/\Rd w' R ad len cap/\Only R w w':=by
 have H:=aC h;have Z5:=h.lt;have FAR:Hid (∀g,w.heap.size<=g->0<len->∀b off,ad=some ⟨b,off,none⟩->b≠g):=fun g hg h0 b off e=>by
  obtain⟨b',off',e',-,hb',-⟩:=h.bytes h0;rw[e]at e';injection e' with e';injection e' with e1 e2;omega
 clear h;go_enter func163,ntmps163;go_wp2_with fail;refine d9 12 _ _ (fun k v w'=>Us R (w.heap.size+1) k v w') (fun w'=>Rd w' R ad len cap/\Only R (w.alloc (.cells #[.string ⟨#[]⟩,.string ⟨#[]⟩] 27)) w') (by kernel_rfl) rfl (by kernel_rfl) (by kernel_rfl) (Ck [(3,[11,0,1,2,3,4,5,6,7,8,9,10])]) ⟨H.out.below (((V5 _ _).alloc (V4 _) _).drew),(Only.refl _ _).drewN 1⟩ ?step ?fin<;>dsimp only[zo];case step =>
  rintro i hi o ho f w' ⟨hR',YE⟩ hpre;have HR:=aC hR';have HO:=aC YE;have hsz:w.heap.size+1<=w'.heap.size:=by have:=YE.size;simpa using this
  have hRl:R<w'.heap.size:=hR'.lt;have HM:Hid (∀e∈o.after,Region.binds .any e=true->Us R (w.heap.size+1) e.on (f e.on) w'):=hpre;have KAL:Hid (∀ob:Obj,Only R w' (w'.alloc ob)):=fun ob=>(Only.refl R w').alloc ob;clear hR' YE hpre;have hc:=Vb (i:=i) (by omega);clear hi
  repeat' rcases hc with rfl|hc
  ·cases ho;refine aa rfl fun K HK=>?_;clear HM;dsimp only;go_simp;exact HK.out _ _ ⟨_,by simp[upd],⟨HR.out.alloc _,HO.out.alloc _⟩,.no (by decide) ⟨_,rfl,iZ w' R hRl (xs:=[_,_,_,_,_]) (by decide)⟩,fun k u hu=>hu.only (KAL.out _)⟩
  ·cases ho;refine aa rfl fun K HK=>?_;clear HM;dsimp only;go_simp;exact HK.out _ _ ⟨Value.pointer (some ⟨R,0,none⟩),by simp[upd],⟨HR.out,HO.out⟩,.no (by decide) rfl,fun k u hu=>hu⟩
  ·cases ho;have e1:f 1=Value.pointer (some ⟨R,0,none⟩):=(HM.out ⟨1,.data⟩ (by simp) rfl).2 (by decide);refine aa rfl fun K HK=>?_;clear HM;simp only[e1];go_simp;refine(dA R ad len cap 5 _ HR.out (by omega) (by omega)).mono ?_;rintro e w5 ⟨⟨x,rfl,hx0,hx1⟩,X9,XW⟩;obtain⟨x,rfl⟩:∃y:Nat,x=(y:Int):=⟨x.toNat,by omega⟩;have XY:Hid (Rd w5 R ad len cap/\Only R w' w5):=⟨X9,XW⟩;clear X9 XW;go_wp2_with fail;exact HK.out _ _ ⟨.int .i64 (x:Int),by simp[upd,e1],⟨XY.out.1,HO.out.trans XY.out.2⟩,.no (by decide) ⟨x,rfl,by omega⟩,fun k u hu=>hu.only XY.out.2⟩
  ·cases ho;obtain⟨g,e1,hS⟩:=(HM.out ⟨0,.data⟩ (by simp) rfl).2 (by decide);obtain⟨x,e2,hx⟩:=(HM.out ⟨2,.data⟩ (by simp) rfl).2 (by decide);replace e1:f 0=_:=e1;replace e2:f 2=_:=e2;have HS:=aC hS;clear hS;have hx0:=bC x;have hx1:(x:Int)<5:=by omega
   refine aa rfl fun K HK=>?_;clear HM;simp only[e1,e2];go_simp;exact HK.out _ _ ⟨.pointer (some ⟨g,x,none⟩),by simp[upd,e1,e2],⟨HR.out,HO.out⟩,.no (by decide) ⟨g,x,rfl,hx,HS.out⟩,fun k u hu=>hu⟩
  ·cases ho;obtain⟨g,x,e1,hx,hS⟩:=(HM.out ⟨3,.data⟩ (by simp) rfl).2 (by decide);replace e1:f 3=_:=e1;obtain⟨t,ht,hcell⟩:=hS.2.2 x hx;clear hS;refine aa rfl fun K HK=>?_;clear HM;simp only[e1];go_simp;exact HK.out _ _ ⟨.string t,by simp[upd,e1],⟨HR.out,HO.out⟩,.no (by decide) ⟨t,rfl,ht⟩,fun k u hu=>hu⟩
  ·cases ho;refine aa rfl fun K HK=>?_;clear HM;dsimp only;go_simp;exact HK.out _ _ ⟨_,by simp[upd],⟨HR.out.alloc _,HO.out.alloc _⟩,.no (by decide) ⟨_,rfl,iZ w' R hRl (xs:=[_,_,_]) (by decide)⟩,fun k u hu=>hu.only (KAL.out _)⟩
  ·cases ho;refine aa rfl fun K HK=>?_;clear HM;dsimp only;go_simp;exact HK.out _ _ ⟨Value.pointer (some ⟨R,0,none⟩),by simp[upd],⟨HR.out,HO.out⟩,.no (by decide) rfl,fun k u hu=>hu⟩
  ·cases ho;have e1:f 6=Value.pointer (some ⟨R,0,none⟩):=(HM.out ⟨6,.data⟩ (by simp) rfl).2 (by decide);refine aa rfl fun K HK=>?_;clear HM;simp only[e1];go_simp;refine(dA R ad len cap 3 _ HR.out (by omega) (by omega)).mono ?_;rintro e w5 ⟨⟨x,rfl,hx0,hx1⟩,X9,XW⟩;obtain⟨x,rfl⟩:∃y:Nat,x=(y:Int):=⟨x.toNat,by omega⟩;have XY:Hid (Rd w5 R ad len cap/\Only R w' w5):=⟨X9,XW⟩;clear X9 XW;go_wp2_with fail;exact HK.out _ _ ⟨.int .i64 (x:Int),by simp[upd,e1],⟨XY.out.1,HO.out.trans XY.out.2⟩,.no (by decide) ⟨x,rfl,by omega⟩,fun k u hu=>hu.only XY.out.2⟩
  ·cases ho;obtain⟨g,e1,hS⟩:=(HM.out ⟨5,.data⟩ (by simp) rfl).2 (by decide);obtain⟨x,e2,hx⟩:=(HM.out ⟨7,.data⟩ (by simp) rfl).2 (by decide);replace e1:f 5=_:=e1;replace e2:f 7=_:=e2;have HS:=aC hS;clear hS;have hx0:=bC x;have hx1:(x:Int)<3:=by omega
   refine aa rfl fun K HK=>?_;clear HM;simp only[e1,e2];go_simp;exact HK.out _ _ ⟨.pointer (some ⟨g,x,none⟩),by simp[upd,e1,e2],⟨HR.out,HO.out⟩,.no (by decide) ⟨g,x,rfl,hx,HS.out⟩,fun k u hu=>hu⟩
  ·cases ho;obtain⟨g,x,e1,hx,hS⟩:=(HM.out ⟨8,.data⟩ (by simp) rfl).2 (by decide);replace e1:f 8=_:=e1;obtain⟨t,ht,hcell⟩:=hS.2.2 x hx;clear hS;refine aa rfl fun K HK=>?_;clear HM;simp only[e1];go_simp;exact HK.out _ _ ⟨.string t,by simp[upd,e1],⟨HR.out,HO.out⟩,.no (by decide) ⟨t,rfl,ht⟩,fun k u hu=>hu⟩
  ·cases ho;obtain⟨t,e1,ht⟩:=(HM.out ⟨4,.data⟩ (by simp) rfl).2 (by decide);obtain⟨u,e2,hu⟩:=(HM.out ⟨9,.data⟩ (by simp) rfl).2 (by decide);replace e1:f 4=_:=e1;replace e2:f 9=_:=e2;refine aa rfl fun K HK=>?_;clear HM;simp only[e1,e2];go_simp;exact HK.out _ _ ⟨.agg #[.string t,.string u],by simp[upd,e1,e2],⟨HR.out,HO.out⟩,.no (by decide) ⟨t,u,rfl,ht,hu⟩,fun k u hu=>hu⟩
  cases ho;refine aa rfl fun K HK=>?_;clear HM;dsimp only;go_simp;exact HK.out _ _ ⟨_,by simp[upd],⟨HR.out.alloc _,HO.out.alloc _⟩,⟨fun _=>⟨_,rfl,MN hRl hsz⟩,fun e=>absurd rfl e⟩,fun k u hu=>hu.only (KAL.out _)⟩
 case fin =>
  rintro o ho f w0 ⟨hR',YE⟩ hall;obtain⟨g,e1,hg⟩:=(hall 11 (by omega)).1 rfl;obtain⟨t,u,e2,ht,hu⟩:=(hall 10 (by omega)).2 (by decide);replace e1:f 11=_:=e1;replace e2:f 10=_:=e2;obtain⟨hgR,hgB,hgl,hgf,ta,tb,_,_,ca,cb⟩:=hg;obtain⟨w',hw'⟩:∃w',w'=(w0.setCell ⟨g,0,none⟩ (.string t)).setCell ⟨g,1,none⟩ (.string u):=⟨_,rfl⟩;have hg:AQ w' R (w.heap.size+1) g:=by rw[hw'];exact MO hgR hgB hgl hgf ca cb ht hu
  have hR:Rd w' R ad len cap:=by rw[hw'];exact(hR'.setFar hgR (FAR.out _ (by omega))).setFar hgR (FAR.out _ (by omega))
  have hO:Only R (w.alloc (.cells #[.string ⟨#[]⟩,.string ⟨#[]⟩] 27)) w':=by rw[hw'];exact(YE.setNew (by simpa using hgB)).setNew (by simpa using hgB)
  clear hR' YE hall;obtain rfl:=Option.some.inj ho;clear ho;refine aa rfl fun K HK=>?_;simp only[e1,e2];go_simp;rw[<-hw'];refine HK.out _ _ ?_;clear HK hw' hgR hgl hgf ca cb ht hu;have hOw:Only R w w':=(Only.of_below ((V5 _ _).alloc (V4 _) _)).trans hO;have hnR:w.heap.size≠R:=by omega
  have hn0:w'.cell? ⟨w.heap.size,0,none⟩=some (.string ⟨#[]⟩):=by rw[hO.cell (by simp) hnR];simp
  have hn1:w'.cell? ⟨w.heap.size,1,none⟩=some (.string ⟨#[]⟩):=by rw[hO.cell (by simp) hnR];simp
  have hnf:∀o,w'.frozen? ⟨w.heap.size,o,none⟩=false:=fun o=>by rw[hO.frozen (by simp) hnR];simp
  have hsz:w.heap.size<w'.heap.size:=by have:=hO.size;simp at this;omega
  have HR:=aC hR;have HOw:=aC hOw;have HG:=aC hg;clear hR hO hOw hg;go_wp2_with fail;refine(iY R ad len cap 30 _ HR.out (by omega) (by omega)).mono ?_;rintro e w1 ⟨⟨x,rfl⟩,XV,XT⟩;have HR1:=aC XV;have XD:Hid (Only R w w1):=HOw.out.trans XT;have HG1:=aC (HG.out.only XT);have m0:w1.cell? ⟨w.heap.size,0,none⟩=some (.string ⟨#[]⟩):=by rw[XT.cell hsz hnR];exact hn0
  have m1:w1.cell? ⟨w.heap.size,1,none⟩=some (.string ⟨#[]⟩):=by rw[XT.cell hsz hnR];exact hn1
  have mf:∀o,w1.frozen? ⟨w.heap.size,o,none⟩=false:=fun o=>by rw[XT.frozen hsz hnR];exact hnf o
  have hs1:w.heap.size<w1.heap.size:=VY hsz XT.size;have hR1l:R<w1.heap.size:=XV.lt;clear hn0 hn1 hnf XV XT HR HOw HG;obtain⟨hgR,-,hgl,hgf,ta,tb,hta,htb,ca,cb⟩:=HG1.out;have hgn:g≠w.heap.size:=by omega
  cases x;case false=>
   go_wp2;exact bodyPost_ret (v:=.agg #[.string ta,.string tb]) (by simp[results,Tryz.results163,go_sem, *]) rfl ⟨⟨ta,tb,rfl,hta,htb⟩,(HR1.out.setFar hnR (FAR.out _ (V4 _))).setFar hnR (FAR.out _ (V4 _)),(XD.out.setNew (V4 _)).setNew (V4 _)⟩
  go_wp2_with fail;refine(dA R ad len cap 4 _ (HR1.out.below ((V5 _ _).alloc (V4 _) _)) (by omega) (by omega)).mono ?_;rintro e w2 ⟨⟨x,rfl,hx0,hx1⟩,hR2,hO2⟩;have hO12:Only R w1 w2:=(Only.of_below ((V5 _ _).alloc (V4 _) _)).trans hO2;have hSt:=(iZ w1 R hR1l (t:=9) (xs:=[⟨#[]⟩,⟨#[65]⟩,⟨#[97,95,49]⟩,⟨#[97,98,99,100,101,102,103,104,105,106,107,108,109]⟩]) (by decide)).only hO2;obtain⟨y,rfl⟩:∃y:Nat,x=(y:Int):=⟨x.toNat,by omega⟩;obtain⟨t,ht,hct⟩:=hSt.2.2 y (by simp;omega);have k0:w2.cell? ⟨w.heap.size,0,none⟩=some (.string ⟨#[]⟩):=by rw[hO12.cell hs1 hnR];exact m0
  have k1:w2.cell? ⟨w.heap.size,1,none⟩=some (.string ⟨#[]⟩):=by rw[hO12.cell hs1 hnR];exact m1
  have kf:∀o,w2.frozen? ⟨w.heap.size,o,none⟩=false:=fun o=>by rw[hO12.frozen hs1 hnR];exact mf o
  have ka:w2.cell? ⟨g,0,none⟩=some (.string ta):=by rw[hO12.cell hgl hgR];exact ca
  have kb:w2.cell? ⟨g,1,none⟩=some (.string tb):=by rw[hO12.cell hgl hgR];exact cb
  have kg:∀o,w2.frozen? ⟨g,o,none⟩=false:=fun o=>by rw[hO12.frozen hgl hgR];exact hgf o
  have HR2:=aC hR2;have Xv:Hid (Only R w w2):=XD.out.trans hO12;clear hR2 hO2 hO12 hSt m0 m1 mf ca cb hgf HR1 XD HG1;go_wp2;exact bodyPost_ret (v:=.agg #[.string ta,.string t]) (by simp[results,Tryz.results163,go_sem, *]) rfl ⟨⟨ta,t,rfl,hta,ht⟩,((HR2.out.setFar hgR (FAR.out _ (by omega))).setFar hnR (FAR.out _ (V4 _))).setFar hnR (FAR.out _ (V4 _)),((Xv.out.setNew (by omega)).setNew (V4 _)).setNew (V4 _)⟩
end Go.Proofs.YtcgdckphpjfmhaaGreatDoor
namespace Go.Proofs.YtcgdckphpjfmhaaGreatDoor
open ChangeShapes WideShapes ChangeAt RowKit
open Pl
attribute [local go_sem ↓] Go.wp_at_zero Go.wp_at_succ
theorem TF{w W w':ae}{n:Nat}{x0 x1 x2 x3 x4 x5:Value}(h:W.cell? ⟨n,0,none⟩=some x0/\W.cell? ⟨n,1,none⟩=some x1/\W.cell? ⟨n,2,none⟩=some x2/\W.cell? ⟨n,3,none⟩=some x3/\W.cell? ⟨n,4,none⟩=some x4/\W.cell? ⟨n,5,none⟩=some x5/\n<W.heap.size/\Below n w W)(hb:af W w'):w'.cell? ⟨n,0,none⟩=some x0/\w'.cell? ⟨n,1,none⟩=some x1/\w'.cell? ⟨n,2,none⟩=some x2/\w'.cell? ⟨n,3,none⟩=some x3/\w'.cell? ⟨n,4,none⟩=some x4/\w'.cell? ⟨n,5,none⟩=some x5/\n<w'.heap.size/\Below n w w':=by
 obtain⟨h0,h1,h2,h3,h4,h5,hn,hB⟩:=h;have hc:∀o,w'.cell? ⟨n,o,none⟩=W.cell? ⟨n,o,none⟩:=fun o=>hb.cell (p:=⟨n,o,none⟩) hn;refine⟨by rw[hc];exact h0,by rw[hc];exact h1,by rw[hc];exact h2,by rw[hc];exact h3,by rw[hc];exact h4,by rw[hc];exact h5,VY hn hb.size,hB.trans (hb.mono (Xr hn))⟩
theorem yV(a b r c d s:bZ)(w:ae)(ha:a.size<=maxLen)(hb:b.size<=maxLen)(hr:r.size<=maxLen)(hc:c.size<=maxLen)(hd:d.size<=maxLen)(hs:s.size<=maxLen):
  Calls prog 205 #[.agg #[.string a,.string b,.string r,.string c,.string d,.string s]] w fun e w'=>e=.returned (.string (aZ a b r c d s))/\af w w':=by
 by_cases hn:bz a b r c d s=true
 ·obtain⟨h1,h2,h3,h4⟩:=jW hn;have hx:=iE a b;have hy:=iE c d;have ZJ:=(oH h2).2;have hs12:=Ez h4;clear h1 h2 h3 h4;go_enter func205,ntmps205;go_wp2_with fail;refine(dD _ _ _ _ _ _ _ ha hb hr hc hd hs).mono ?_;rintro e w1 ⟨rfl,hb1⟩;obtain⟨hc1,hf1⟩:=jR hb1;have hz1:w.heap.size<w1.heap.size:=by have:=hb1.size;simp at this;omega
  have k:∀o v,(w.alloc (.cells #[.string a,.string b,.string r,.string c,.string d,.string s] 29)).cell? ⟨w.heap.size,o,none⟩=some v->w1.cell? ⟨w.heap.size,o,none⟩=some v:=fun o v h=>by rw[hc1 _ _ (by simp)];exact h
  have k0:=k 0 (.string a) (by simp);have k1:=k 1 (.string b) (by simp);have k2:=k 2 (.string r) (by simp);have k3:=k 3 (.string c) (by simp);have k4:=k 4 (.string d) (by simp);have k5:=k 5 (.string s) (by simp);have HB1:af w w1:=((V5 _ _).alloc (V4 _) _).trans (hb1.mono (by simp));clear k hb1 hc1 hf1;have q1:(9223372036854775807<(aB a b).size+1)=False:=by simp;omega
  have q2:(9223372036854775807<(aB a b).size+1+r.size)=False:=by simp;omega
  have q3:(9223372036854775807<(aB a b).size+1+r.size+1)=False:=by simp;omega
  have q4:(9223372036854775807<(aB a b).size+1+r.size+1+(aB c d).size)=False:=by simp;omega
  go_wp2_with fail
  go_region_held3 (fun w'=>w'.cell? ⟨w.heap.size,0,none⟩=some (.string a)/\w'.cell? ⟨w.heap.size,1,none⟩=some (.string b)/\w'.cell? ⟨w.heap.size,2,none⟩=some (.string r)/\w'.cell? ⟨w.heap.size,3,none⟩=some (.string c)/\w'.cell? ⟨w.heap.size,4,none⟩=some (.string d)/\w'.cell? ⟨w.heap.size,5,none⟩=some (.string s)/\w.heap.size<w'.heap.size/\af w w')
   (first|exact TF (by assumption) hbx|exact⟨k0,k1,k2,k3,k4,k5,hz1,HB1.drew⟩)
   (first|(go_at_call 228;refine(yR _ _ _ (by assumption) (by assumption)).mono ?_;rintro e w' ⟨rfl,hbx⟩))
  rename_i hH;obtain⟨g0,g1,g2,g3,g4,g5,gz,gB⟩:=hH;clear k0 k1 k2 k3 k4 k5 hbx q1 q2 q3 q4 HB1;by_cases he:s.toList.isEmpty=true
  ·have HT:Hid (aZ a b r c d s=_):=nH hn he;go_wp2;go_ret;exact⟨gp HT.out.symm,gB⟩
  have he':s.toList.isEmpty=false:=by simpa using he
  have HT:Hid (aZ a b r c d s=_):=nI hn he';clear he;go_wp2;go_ret;exact⟨gp HT.out.symm,gB⟩
 have hn':bz a b r c d s=false:=by simpa using hn
 have HT:Hid (aZ a b r c d s=⟨#[]⟩):=uu hn';clear hn;go_enter func205,ntmps205;go_wp2_with fail;refine(dD _ _ _ _ _ _ _ ha hb hr hc hd hs).mono ?_;rintro e w1 ⟨rfl,hb1⟩;go_wp2;go_ret;exact⟨gp HT.out.symm,((V5 _ _).alloc (V4 _) _).trans (hb1.mono (by simp))⟩
theorem yX(a b r c d s:bZ)(w:ae)(ha:a.size<=maxLen)(hb:b.size<=maxLen)(hr:r.size<=maxLen)(hc:c.size<=maxLen)(hd:d.size<=maxLen)(hs:s.size<=maxLen):
  Calls prog 148 #[.agg #[.string a,.string b,.string r,.string c,.string d,.string s]] w fun e w'=>e=.returned (.string (aZ a b r c d s))/\af w w':=by
 by_cases hn:bz a b r c d s=true
 ·obtain⟨h1,h2,h3,h4⟩:=jW hn;have hx:=iE a b;have hy:=iE c d;have ZJ:=(oH h2).2;have hs12:=Ez h4;clear h1 h2 h3 h4;go_enter func148,ntmps148;go_wp2_with fail;refine(fC _ _ _ _ _ _ _ ha hb hr hc hd hs).mono ?_;rintro e w1 ⟨rfl,hb1⟩;obtain⟨hc1,hf1⟩:=jR hb1;have hz1:w.heap.size<w1.heap.size:=by have:=hb1.size;simp at this;omega
  have k:∀o v,(w.alloc (.cells #[.string a,.string b,.string r,.string c,.string d,.string s] 29)).cell? ⟨w.heap.size,o,none⟩=some v->w1.cell? ⟨w.heap.size,o,none⟩=some v:=fun o v h=>by rw[hc1 _ _ (by simp)];exact h
  have k0:=k 0 (.string a) (by simp);have k1:=k 1 (.string b) (by simp);have k2:=k 2 (.string r) (by simp);have k3:=k 3 (.string c) (by simp);have k4:=k 4 (.string d) (by simp);have k5:=k 5 (.string s) (by simp);have HB1:af w w1:=((V5 _ _).alloc (V4 _) _).trans (hb1.mono (by simp));clear k hb1 hc1 hf1;have q1:(9223372036854775807<(aB a b).size+1)=False:=by simp;omega
  have q2:(9223372036854775807<(aB a b).size+1+r.size)=False:=by simp;omega
  have q3:(9223372036854775807<(aB a b).size+1+r.size+1)=False:=by simp;omega
  have q4:(9223372036854775807<(aB a b).size+1+r.size+1+(aB c d).size)=False:=by simp;omega
  go_wp2_with fail
  go_region_held3 (fun w'=>w'.cell? ⟨w.heap.size,0,none⟩=some (.string a)/\w'.cell? ⟨w.heap.size,1,none⟩=some (.string b)/\w'.cell? ⟨w.heap.size,2,none⟩=some (.string r)/\w'.cell? ⟨w.heap.size,3,none⟩=some (.string c)/\w'.cell? ⟨w.heap.size,4,none⟩=some (.string d)/\w'.cell? ⟨w.heap.size,5,none⟩=some (.string s)/\w.heap.size<w'.heap.size/\af w w')
   (first|exact TF (by assumption) hbx|exact⟨k0,k1,k2,k3,k4,k5,hz1,HB1.drew⟩)
   (first|(go_at_call 191;refine(yS _ _ _ (by assumption) (by assumption)).mono ?_;rintro e w' ⟨rfl,hbx⟩))
  rename_i hH;obtain⟨g0,g1,g2,g3,g4,g5,gz,gB⟩:=hH;clear k0 k1 k2 k3 k4 k5 hbx q1 q2 q3 q4 HB1;by_cases he:s.toList.isEmpty=true
  ·have HT:Hid (aZ a b r c d s=_):=nH hn he;go_wp2;go_ret;exact⟨gp HT.out.symm,gB⟩
  have he':s.toList.isEmpty=false:=by simpa using he
  have HT:Hid (aZ a b r c d s=_):=nI hn he';clear he;go_wp2;go_ret;exact⟨gp (HT.out.trans (by simp only[WV])).symm,gB⟩
 have hn':bz a b r c d s=false:=by simpa using hn
 have HT:Hid (aZ a b r c d s=⟨#[]⟩):=uu hn';clear hn;go_enter func148,ntmps148;go_wp2_with fail;refine(fC _ _ _ _ _ _ _ ha hb hr hc hd hs).mono ?_;rintro e w1 ⟨rfl,hb1⟩;go_wp2;go_ret;exact⟨gp HT.out.symm,((V5 _ _).alloc (V4 _) _).trans (hb1.mono (by simp))⟩
end Go.Proofs.YtcgdckphpjfmhaaGreatDoor
namespace Go.Proofs.YtcgdckphpjfmhaaGreatDoor
open ChangeShapes WideShapes ChangeAt RowKit
open Pl
attribute [local go_sem ↓] Go.wp_at_zero Go.wp_at_succ
theorem JH{w W w':ae}{n m k:Nat}{x0 x1 x2 x3 x4 x5 y0 y1 y2 y3 y4 y5:Value}(hk:k<=n)(h:W.cell? ⟨n,0,none⟩=some x0/\W.cell? ⟨n,1,none⟩=some x1/\W.cell? ⟨n,2,none⟩=some x2/\W.cell? ⟨n,3,none⟩=some x3/\W.cell? ⟨n,4,none⟩=some x4/\W.cell? ⟨n,5,none⟩=some x5/\W.cell? ⟨m,0,none⟩=some y0/\W.cell? ⟨m,1,none⟩=some y1/\W.cell? ⟨m,2,none⟩=some y2/\W.cell? ⟨m,3,none⟩=some y3/\W.cell? ⟨m,4,none⟩=some y4/\W.cell? ⟨m,5,none⟩=some y5/\n<W.heap.size/\m<W.heap.size/\Below k w W)(hb:af W w'):w'.cell? ⟨n,0,none⟩=some x0/\w'.cell? ⟨n,1,none⟩=some x1/\w'.cell? ⟨n,2,none⟩=some x2/\w'.cell? ⟨n,3,none⟩=some x3/\w'.cell? ⟨n,4,none⟩=some x4/\w'.cell? ⟨n,5,none⟩=some x5/\w'.cell? ⟨m,0,none⟩=some y0/\w'.cell? ⟨m,1,none⟩=some y1/\w'.cell? ⟨m,2,none⟩=some y2/\w'.cell? ⟨m,3,none⟩=some y3/\w'.cell? ⟨m,4,none⟩=some y4/\w'.cell? ⟨m,5,none⟩=some y5/\n<w'.heap.size/\m<w'.heap.size/\Below k w w':=by
 obtain⟨h0,h1,h2,h3,h4,h5,h6,h7,h8,h9,h10,h11,hn,hm,hB⟩:=h;have hc:∀o,w'.cell? ⟨n,o,none⟩=W.cell? ⟨n,o,none⟩:=fun o=>hb.cell (p:=⟨n,o,none⟩) hn;have hd:∀o,w'.cell? ⟨m,o,none⟩=W.cell? ⟨m,o,none⟩:=fun o=>hb.cell (p:=⟨m,o,none⟩) hm;exact⟨by rw[hc];exact h0,by rw[hc];exact h1,by rw[hc];exact h2,by rw[hc];exact h3,by rw[hc];exact h4,by rw[hc];exact h5,by rw[hd];exact h6,by rw[hd];exact h7,by rw[hd];exact h8,by rw[hd];exact h9,by rw[hd];exact h10,by rw[hd];exact h11,VY hn hb.size,VY hm hb.size,hB.trans (hb.mono (by omega))⟩
theorem AU(w:ae)(o1 o2:Obj):af w ((w.alloc o1).alloc o2) :=
 ((V5 _ _).alloc (V4 _) _).alloc (by simp) _
def GI(a b r c d s a' b' r' c' d' s':ByteArray):Int:=Lib.compareBytes (aZ a b r c d s).data.toList (aZ a' b' r' c' d' s').data.toList
theorem vP(x y:List UInt8):decide (Lib.compareBytes x y<0)=Op.bytesLess x y:=by
 induction x generalizing y with
 | nil=>cases y<;>simp[Lib.compareBytes,Op.bytesLess]
 | cons a x ih =>
  cases y with
  | nil=>simp[Lib.compareBytes,Op.bytesLess]
  | cons b y =>
   unfold Lib.compareBytes Op.bytesLess;by_cases h:a<b
   ·simp[h]
   by_cases h2:b<a
   ·have hne:(a==b)=false:=by simp;intro e;subst e;exact h h2
    simp[h,h2,hne]
   have he:a=b:=by
    have h1:=UInt8.not_lt.mp h;have h3:=UInt8.not_lt.mp h2;exact UInt8.le_antisymm h3 h1
   subst he;simp[ih]
theorem TG(a b r c d s a' b' r' c' d' s':bZ)(w W:ae)(hW:W=((w.alloc (.cells #[.string a,.string b,.string r,.string c,.string d,.string s] 29)).alloc (.cells #[.string a',.string b',.string r',.string c',.string d',.string s'] 29))):W.drew.cell? ⟨w.heap.size,0,none⟩=some (.string a)/\W.drew.cell? ⟨w.heap.size,1,none⟩=some (.string b)/\W.drew.cell? ⟨w.heap.size,2,none⟩=some (.string r)/\W.drew.cell? ⟨w.heap.size,3,none⟩=some (.string c)/\W.drew.cell? ⟨w.heap.size,4,none⟩=some (.string d)/\W.drew.cell? ⟨w.heap.size,5,none⟩=some (.string s)/\W.drew.cell? ⟨w.heap.size+1,0,none⟩=some (.string a')/\W.drew.cell? ⟨w.heap.size+1,1,none⟩=some (.string b')/\W.drew.cell? ⟨w.heap.size+1,2,none⟩=some (.string r')/\W.drew.cell? ⟨w.heap.size+1,3,none⟩=some (.string c')/\W.drew.cell? ⟨w.heap.size+1,4,none⟩=some (.string d')/\W.drew.cell? ⟨w.heap.size+1,5,none⟩=some (.string s')/\w.heap.size<W.drew.heap.size/\w.heap.size+1<W.drew.heap.size/\af w (W.drew):=by
 subst hW;refine⟨?_,?_,?_,?_,?_,?_,?_,?_,?_,?_,?_,?_,?_,?_,?_⟩
 all_goals first|exact(AU _ _ _).drew|(simp;done)|(simp;omega)
theorem nP(a b r c d s a' b' r' c' d' s':bZ)(w:ae)(ha:a.size<=maxLen)(hb:b.size<=maxLen)(hr:r.size<=maxLen)(hc:c.size<=maxLen)(hd:d.size<=maxLen)(hs:s.size<=maxLen)(ga:a'.size<=maxLen)(gb:b'.size<=maxLen)(gr:r'.size<=maxLen)(gc:c'.size<=maxLen)(gd:d'.size<=maxLen)(gs:s'.size<=maxLen):
  Calls prog 86 #[.agg #[.string a,.string b,.string r,.string c,.string d,.string s],.agg #[.string a',.string b',.string r',.string c',.string d',.string s']] w fun e w'=>e=.returned (.int .i64 (GI a b r c d s a' b' r' c' d' s'))/\af w w':=by
 have H0:=TG a b r c d s a' b' r' c' d' s' w _ rfl;go_enter func86,ntmps86;go_wp2_with fail
 go_region_held3 (fun w'=>w'.cell? ⟨w.heap.size,0,none⟩=some (.string a)/\w'.cell? ⟨w.heap.size,1,none⟩=some (.string b)/\w'.cell? ⟨w.heap.size,2,none⟩=some (.string r)/\w'.cell? ⟨w.heap.size,3,none⟩=some (.string c)/\w'.cell? ⟨w.heap.size,4,none⟩=some (.string d)/\w'.cell? ⟨w.heap.size,5,none⟩=some (.string s)/\w'.cell? ⟨w.heap.size+1,0,none⟩=some (.string a')/\w'.cell? ⟨w.heap.size+1,1,none⟩=some (.string b')/\w'.cell? ⟨w.heap.size+1,2,none⟩=some (.string r')/\w'.cell? ⟨w.heap.size+1,3,none⟩=some (.string c')/\w'.cell? ⟨w.heap.size+1,4,none⟩=some (.string d')/\w'.cell? ⟨w.heap.size+1,5,none⟩=some (.string s')/\w.heap.size<w'.heap.size/\w.heap.size+1<w'.heap.size/\af w w')
  (first|assumption|exact JH (V4 _) (by assumption) hbx|exact H0)
  (first|(go_at_call 148;refine(yX _ _ _ _ _ _ _ (by assumption) (by assumption) (by assumption) (by assumption) (by assumption) (by assumption)).mono ?_;rintro e w' ⟨rfl,hbx⟩)|(go_at_call 147;refine(Tryz.strings_Compare _ _ _).mono ?_;rintro e w' ⟨rfl,rfl⟩))
 rename_i hH;obtain⟨-,-,-,-,-,-,-,-,-,-,-,-,-,-,gB⟩:=hH;go_wp2;go_ret;exact⟨rfl,gB⟩
def fQ(a b r c d s a' b' r' c' d' s':ByteArray):Bool:=bz a b r c d s&&bz a' b' r' c' d' s'&&Op.bytesLess (aZ a b r c d s).toList (aZ a' b' r' c' d' s').toList
theorem AV{a b r c d s a' b' r' c' d' s':ByteArray}(h:bz a b r c d s=false):fQ a b r c d s a' b' r' c' d' s'=false:=by simp[fQ,h]
theorem AX{a b r c d s a' b' r' c' d' s':ByteArray}(h:bz a' b' r' c' d' s'=false):fQ a b r c d s a' b' r' c' d' s'=false:=by simp[fQ,h]
theorem uI{a b r c d s a' b' r' c' d' s':ByteArray}(h:bz a b r c d s=true)(h2:bz a' b' r' c' d' s'=true):fQ a b r c d s a' b' r' c' d' s'=Op.bytesLess (aZ a b r c d s).toList (aZ a' b' r' c' d' s').toList:=by simp[fQ,h,h2]
theorem AY{a b r c d s a' b' r' c' d' s':ByteArray}(h:bz a b r c d s=true)(h2:bz a' b' r' c' d' s'=true):fQ a b r c d s a' b' r' c' d' s'=decide (GI a b r c d s a' b' r' c' d' s'<0):=by
 rw[uI h h2,GI,vP,Go.ByteArray.toList_eq,Go.ByteArray.toList_eq]
theorem oo(a b r c d s a' b' r' c' d' s':bZ)(w:ae)(ha:a.size<=maxLen)(hb:b.size<=maxLen)(hr:r.size<=maxLen)(hc:c.size<=maxLen)(hd:d.size<=maxLen)(hs:s.size<=maxLen)(ga:a'.size<=maxLen)(gb:b'.size<=maxLen)(gr:r'.size<=maxLen)(gc:c'.size<=maxLen)(gd:d'.size<=maxLen)(gs:s'.size<=maxLen):
  Calls prog 164 #[.agg #[.string a,.string b,.string r,.string c,.string d,.string s],.agg #[.string a',.string b',.string r',.string c',.string d',.string s']] w fun e w'=>e=.returned (.bool (fQ a b r c d s a' b' r' c' d' s'))/\af w w':=by
 have H0:=TG a b r c d s a' b' r' c' d' s' w _ rfl;by_cases h1:bz a b r c d s=true
 ·by_cases h2:bz a' b' r' c' d' s'=true
  ·have HT:Hid (fQ a b r c d s a' b' r' c' d' s'=_):=uI h1 h2;go_enter func164,ntmps164;go_wp2_with fail
   go_region_held3 (fun w'=>w'.cell? ⟨w.heap.size,0,none⟩=some (.string a)/\w'.cell? ⟨w.heap.size,1,none⟩=some (.string b)/\w'.cell? ⟨w.heap.size,2,none⟩=some (.string r)/\w'.cell? ⟨w.heap.size,3,none⟩=some (.string c)/\w'.cell? ⟨w.heap.size,4,none⟩=some (.string d)/\w'.cell? ⟨w.heap.size,5,none⟩=some (.string s)/\w'.cell? ⟨w.heap.size+1,0,none⟩=some (.string a')/\w'.cell? ⟨w.heap.size+1,1,none⟩=some (.string b')/\w'.cell? ⟨w.heap.size+1,2,none⟩=some (.string r')/\w'.cell? ⟨w.heap.size+1,3,none⟩=some (.string c')/\w'.cell? ⟨w.heap.size+1,4,none⟩=some (.string d')/\w'.cell? ⟨w.heap.size+1,5,none⟩=some (.string s')/\w.heap.size<w'.heap.size/\w.heap.size+1<w'.heap.size/\af w w')
    (first|assumption|exact JH (V4 _) (by assumption) hbx|exact H0)
    (first|(go_at_call_of 111 (Value.agg #[.string a,.string b,.string r,.string c,.string d,.string s]);refine(dD a b r c d s _ ha hb hr hc hd hs).mono ?_;rintro e w' ⟨he,hbx⟩;rw[h1]at he;subst he)|(go_at_call_of 111 (Value.agg #[.string a',.string b',.string r',.string c',.string d',.string s']);refine(dD a' b' r' c' d' s' _ ga gb gr gc gd gs).mono ?_;rintro e w' ⟨he,hbx⟩;rw[h2]at he;subst he)|(go_at_call 205;refine(yV _ _ _ _ _ _ _ (by assumption) (by assumption) (by assumption) (by assumption) (by assumption) (by assumption)).mono ?_;rintro e w' ⟨rfl,hbx⟩))
   rename_i hH;obtain⟨-,-,-,-,-,-,-,-,-,-,-,-,-,-,gB⟩:=hH;clear H0;go_wp2;go_ret;exact⟨ah HT.out.symm,gB⟩
  have h2':bz a' b' r' c' d' s'=false:=by simpa using h2
  have HT:Hid (fQ a b r c d s a' b' r' c' d' s'=false):=AX h2';clear h2;obtain⟨u0,u1,u2,u3,u4,u5,u6,u7,u8,u9,u10,u11,un,um,uB⟩:=H0;go_enter func164,ntmps164;go_wp2_with fail
  go_region_with (first|(go_at_call_of 111 (Value.agg #[.string a,.string b,.string r,.string c,.string d,.string s]);refine(dD a b r c d s _ ha hb hr hc hd hs).mono ?_;rintro e w1 ⟨he,hbx⟩;rw[h1]at he;subst he;obtain⟨k0,k1,k2,k3,k4,k5,k6,k7,k8,k9,k10,k11,kn,km,kB⟩:=JH (V4 _) ⟨u0,u1,u2,u3,u4,u5,u6,u7,u8,u9,u10,u11,un,um,uB⟩ hbx)|(go_at_call_of 111 (Value.agg #[.string a',.string b',.string r',.string c',.string d',.string s']);refine(dD a' b' r' c' d' s' _ ga gb gr gc gd gs).mono ?_;rintro e w2 ⟨he,hby⟩;rw[h2']at he;subst he))
  all_goals clear u0 u1 u2 u3 u4 u5 u6 u7 u8 u9 u10 u11
  all_goals go_wp2
  all_goals go_ret
  all_goals exact⟨ah HT.out.symm,kB.trans (hby.mono (by omega))⟩
 have h1':bz a b r c d s=false:=by simpa using h1
 have HT:Hid (fQ a b r c d s a' b' r' c' d' s'=false):=AV h1';clear h1;obtain⟨u0,u1,u2,u3,u4,u5,u6,u7,u8,u9,u10,u11,un,um,uB⟩:=H0;go_enter func164,ntmps164;go_wp2_with fail
 go_region_with (go_at_call_of 111 (Value.agg #[.string a,.string b,.string r,.string c,.string d,.string s]);refine(dD a b r c d s _ ha hb hr hc hd hs).mono ?_;rintro e w1 ⟨he,hbx⟩;rw[h1']at he;subst he)
 all_goals clear u0 u1 u2 u3 u4 u5 u6 u7 u8 u9 u10 u11
 all_goals go_wp2
 all_goals go_ret
 all_goals exact⟨ah HT.out.symm,uB.trans (hbx.mono (by omega))⟩
theorem Ct(a b r c d s a' b' r' c' d' s':bZ)(w:ae)(ha:a.size<=maxLen)(hb:b.size<=maxLen)(hr:r.size<=maxLen)(hc:c.size<=maxLen)(hd:d.size<=maxLen)(hs:s.size<=maxLen)(ga:a'.size<=maxLen)(gb:b'.size<=maxLen)(gr:r'.size<=maxLen)(gc:c'.size<=maxLen)(gd:d'.size<=maxLen)(gs:s'.size<=maxLen):
  Calls prog 129 #[.agg #[.string a,.string b,.string r,.string c,.string d,.string s],.agg #[.string a',.string b',.string r',.string c',.string d',.string s']] w fun e w'=>e=.returned (.bool (fQ a b r c d s a' b' r' c' d' s'))/\af w w':=by
 by_cases h1:bz a b r c d s=true
 ·by_cases h2:bz a' b' r' c' d' s'=true
  ·have HT:Hid (fQ a b r c d s a' b' r' c' d' s'=decide (GI a b r c d s a' b' r' c' d' s'<0)):=AY h1 h2;go_enter func129,ntmps129;go_wp2_with fail;refine(fC _ _ _ _ _ _ _ ha hb hr hc hd hs).mono ?_;rintro e w1 ⟨rfl,hb1⟩;obtain⟨hc1,hf1⟩:=jR hb1;have hz1:w.heap.size+1<w1.heap.size:=by have:=hb1.size;simp at this;omega
   have hy1:w.heap.size<w1.heap.size:=by omega
   have HB1:af w w1:=(AU _ _ _).trans (hb1.mono (by simp;omega));go_wp2_with fail;refine(fC _ _ _ _ _ _ _ ga gb gr gc gd gs).mono ?_;rintro e w2 ⟨rfl,hb2⟩;obtain⟨hc2,hf2⟩:=jR hb2;have hz2:w.heap.size+1<w2.heap.size:=by have:=hb2.size;omega
   have hy2:w.heap.size<w2.heap.size:=by omega
   go_wp2_with fail;refine(nP _ _ _ _ _ _ _ _ _ _ _ _ _ ha hb hr hc hd hs ga gb gr gc gd gs).mono ?_;rintro e w3 ⟨rfl,hb3⟩;go_wp2;go_ret;exact⟨ah HT.out.symm,HB1.trans ((hb2.mono (by omega)).trans (hb3.mono (by omega)))⟩
  have h2':bz a' b' r' c' d' s'=false:=by simpa using h2
  have HT:Hid (fQ a b r c d s a' b' r' c' d' s'=false):=AX h2';clear h2;go_enter func129,ntmps129;go_wp2_with fail;refine(fC _ _ _ _ _ _ _ ha hb hr hc hd hs).mono ?_;rintro e w1 ⟨rfl,hb1⟩;obtain⟨hc1,hf1⟩:=jR hb1;have hz1:w.heap.size+1<w1.heap.size:=by have:=hb1.size;simp at this;omega
  have hy1:w.heap.size<w1.heap.size:=by omega
  have HB1:af w w1:=(AU _ _ _).trans (hb1.mono (by simp;omega));go_wp2_with fail;refine(fC _ _ _ _ _ _ _ ga gb gr gc gd gs).mono ?_;rintro e w2 ⟨rfl,hb2⟩;go_wp2;go_ret;exact⟨ah HT.out.symm,HB1.trans (hb2.mono (by omega))⟩
 have h1':bz a b r c d s=false:=by simpa using h1
 have HT:Hid (fQ a b r c d s a' b' r' c' d' s'=false):=AV h1';clear h1;go_enter func129,ntmps129;go_wp2_with fail;refine(fC _ _ _ _ _ _ _ ha hb hr hc hd hs).mono ?_;rintro e w1 ⟨rfl,hb1⟩;obtain⟨hc1,hf1⟩:=jR hb1;have hz1:w.heap.size+1<w1.heap.size:=by have:=hb1.size;simp at this;omega
 have hy1:w.heap.size<w1.heap.size:=by omega
 have HB1:af w w1:=(AU _ _ _).trans (hb1.mono (by simp;omega));go_wp2;go_ret;exact⟨ah HT.out.symm,HB1⟩
end Go.Proofs.YtcgdckphpjfmhaaGreatDoor
namespace Go.Proofs.YtcgdckphpjfmhaaGreatDoor
set_option linter.unusedVariables false
open RowKit
def Fa{α:Type}(F:Fence)(n:Nat)(P:Program)(g:Nat)(lb:Array Value)(encs:α->Array Value)(Kp:Nat->World->World->Prop)(Q:List α->World->Prop)(E:List α->α->Prop)(S:List α->Prop)(w:World):Prop :=
 ∀(l:Nat) (J:List α->World->Prop) (W:World),af w W->l<W.heap.size->w.heap.size<=l->OwnFrom W.heap.size J->(∀pre W1,J pre W1->Q pre W1) ->
  (∀pre x W1,J pre W1->E pre x->YieldAt F (n-1) P l (encs x) W1 fun e W'=>e=.returned (.bool true)/\J (pre++[x]) W'/\Kp l W1 W') ->
  J [] W ->
  CallsIn F n P g (#[.func (.yield l) #[] #[]]++lb) W fun e W'=>(∃v,e=.returned v)/\∃xs,S xs/\J xs W'
def PK(B:Nat)(R:World->Prop)(W:World):Exit->Act->World->Prop
 | .normal,_,W'=>KeepsFrom B W W'/\R W'
 | _,_,_=>False
theorem Lr{β:Type}{B k:Nat}{o:Obj}(hk:k<B):OwnFrom B (fun(_:β) W=>W.heap[k]?=some o):=fun _ X Y row hs hg hr=>(hg.block k (We.1 hs).1 fun e=>by have:=(hr k e.symm).1;omega).trans hs
theorem Ut{β:Type}{B B':Nat}{I:β->World->Prop}(h:OwnFrom B I)(hB:B<=B'):OwnFrom B' I:=fun s X Y row hs hg hr=>h s X Y row hs hg fun r e=>⟨Wh hB (hr r e).1,(hr r e).2⟩
theorem rC{α:Type}{F:Fence}{n:Nat}{P:Program}{g:Operand}{ps:Array Tmp}{assign body:Code}{Q:Exit->Act->World->Prop}{a:Act}{w:ae}(hro:F.round=none)(h1:1<=n){gf:Nat}{lb:Array Value}(hg:a.eval g=.func (.func gf) #[] lb)(hFg:F.fn gf)(eg:∀args w,(callFunc gf args).run P w=.ok (.enter gf args) w)
  {encs:α->Array Value} {Kp:Nat->World->World->Prop} {Tell:List α->World->Prop} {E:List α->α->Prop} {S:List α->Prop} {w0:World} (hseq:Fa F (n-1) P gf lb encs Kp Tell E S w0) (hb0:af w0 w) (hps:∀x,(encs x).size=ps.size)
  (hKt:∀{l:Nat} {X Y Z:World},Kp l X Y->Kp l Y Z->Kp l X Z) (hKb:∀(W:World) (l:Nat) (o o':Obj),W.heap[l]?=some o->o.isCells=false->Kp l W (W.putObj l o'))
  (I:List α->World->Prop) (hI:OwnFrom w.heap.size I) (hT:∀pre W,I pre W->Tell pre W) (h0:I [] w)
  (Ax:α->Act->World->Prop) (hAx:∀x a',OwnFrom w.heap.size (fun(_:Unit) W=>Ax x a' W))
  (hassign:∀ (l:Nat) (pre:List α) (x:α) (W:World) (K:Act->World->Prop),I pre W->(∀ a' W',KeepsFrom w.heap.size W W'->Kp l W W'->I pre W'->Ax x a' W'->K a' W') ->
   assign.wpIn (F.inRound l) (n-1-1) P (Exit.then K (fun _ _ _=>False)) { tmps:=(ps.zip (encs x)).foldl (fun t (p,v)=>t.setIfInBounds p v) a.tmps,defers:=[] } W)
  (hbody:∀(l:Nat) (pre:List α) (x:α) (a':Act) (W:World),w.heap.size<=l->E pre x->I pre W->Ax x a' W->body.wpIn (F.inRound l) (n-1-1) P (PK w.heap.size (fun W'=>Kp l W W'/\I (pre++[x]) W') W) a' W)
  (hdone:∀(D:Nat) (xs:List α) (W:World),w.heap.size<=D->S xs->I xs W->W.heap[D]?=some (.deferred (some []))->Q .normal { a with defers:={ target:=.collected D,args:=#[] }::a.defers } W) :
  (Code.rangeFunc g ps assign body).wpIn F n P Q a w:=by
 refine wpIn_rangeFunc fun fn hfn=>?_;rw[hro];obtain⟨rc,hrc⟩:∃rc:LoopState->Loop,rc=fun st=>{ state:=st,pending:=none,fn,tmps:=a.tmps,params:=ps,assign,body,defers:=w.heap.size }:=⟨_,rfl⟩;obtain⟨W0,hW0⟩:∃W0,W0=w.alloc (.deferred (some [])):=⟨_,rfl⟩;have s0:W0.heap.size=w.heap.size+1:=by rw[hW0];simp
 obtain⟨W1,hW1⟩:∃W1,W1=W0.alloc (.loop (rc .ready)):=⟨_,rfl⟩;have s1:W1.heap.size=w.heap.size+2:=by rw[hW1];simp;omega
 have k0:W0.heap[w.heap.size]?=some (.deferred (some [])):=by rw[hW0];exact World.alloc_heap_new w _
 have k1:W1.heap[w.heap.size]?=some (.deferred (some [])):=by rw[hW1];exact(Below.heap_alloc _ _ _ (by omega)).trans k0
 have r1:W1.heap[w.heap.size+1]?=some (.loop (rc .ready)):=by rw[hW1,<-s0];exact World.alloc_heap_new W0 _
 have i1:I [] W1:=by rw[hW1,hW0];exact hI.alloc _ (hI.alloc _ h0)
 have b1:af w W1:=by rw[hW1,hW0];exact((V5 _ w).alloc (V4 _) _).alloc (by simp) _
 have bb:af w0 W1:=hb0.trans (b1.mono hb0.size);refine⟨w.heap.size+1,[{ target:=.collected w.heap.size,args:=#[] }],W1,{ target:=.fn (.func gf) lb,args:=#[.func (.yield (w.heap.size+1)) #[] #[]] },W1,gf,#[.func (.yield (w.heap.size+1)) #[] #[]]++lb,W1,?_,?_,?_,?_,fun _=>h1,?_⟩
 ·rw[hW1,hW0,hrc];exact run_enterLoop_outer _ _ _ _ _
 ·simp only[resolve,hg];simp[go_sem]
 ·intro f hf;simp[Target.leads]at hf;subst hf;exact hFg
 ·simp[invoke,go_sem,eg]
 have hJ:OwnFrom W1.heap.size (fun pre W=>I pre W/\W.heap[w.heap.size+1]?=some (.loop (rc .ready))/\W.heap[w.heap.size]?=some (.deferred (some []))) :=
  (Ut hI (by omega)).and ((Lr (by omega)).and (Lr (by omega)))
 refine(hseq (w.heap.size+1) _ W1 bb (by omega) (by have:=hb0.size;omega) hJ (fun pre W h=>hT pre W h.1) ?_ ⟨i1,r1,k1⟩).mono ?_
 ·rintro pre x W ⟨hi,hl,hk⟩ hEx;have hy:=run_yield (P:=P) (args:=encs x) hl (by rw[hrc];exact hps x);rw[hrc]at hy;refine⟨fn,_,assign,body,hy,roundIn_of_wpIn hfn (hassign _ pre x W _ hi ?_)⟩;clear hy;intro a' Wa hka hkp hia hax;have hla:=hka.same _ _ (by omega) hl rfl;have hda:=hka.same _ _ (V4 _) hk rfl;have hlt:w.heap.size+1<Wa.heap.size:=(We.1 hla).1;refine⟨_,run_beginRound hla (by rw[hrc]),?_⟩;obtain⟨Wb,hWb⟩:∃Wb,Wb=Wa.putObj (w.heap.size+1) (.loop { rc .ready with state:=.busy }):=⟨_,rfl⟩;rw[<-hWb];have lb2:Wb.heap[w.heap.size+1]?=some (.loop { rc .ready with state:=.busy }):=by rw[hWb];exact World.putObj_heap_same hlt
  have db2:Wb.heap[w.heap.size]?=some (.deferred (some [])):=by rw[hWb];exact(World.putObj_heap_other (by omega)).trans hda
  have kb2:Kp (w.heap.size+1) Wa Wb:=by rw[hWb];exact hKb _ _ _ _ hla rfl
  have ib2:I pre Wb:=by rw[hWb];exact hI.putObj _ hia (by omega) hla rfl
  have ab2:Ax x a' Wb:=by rw[hWb];exact(hAx x a').putObj (s:=()) _ hax (by omega) hla rfl
  refine wpIn_mono (hbody _ pre x a' _ (by omega) hEx ib2 ab2) ?_;intro e a3 W3 hp;cases e;case normal=>
   obtain⟨hk3,hkp3,hi3⟩:=hp;have hl3:=hk3.same _ _ (by omega) lb2 rfl;have hd3:=hk3.same _ _ (V4 _) db2 rfl;have hend:=run_endRound (P:=P) none hl3;rw[hrc]at hend;refine⟨_,_,hend,rfl,⟨hI.putObj _ hi3 (by omega) hl3 rfl,?_,(World.putObj_heap_other (by omega)).trans hd3⟩,hKt hkp (hKt (hKt kb2 hkp3) (hKb _ _ _ _ hl3 rfl))⟩;rw[hrc];exact World.putObj_heap_same (We.1 hl3).1
  case ret=>exact hp.elim
  case exit id=>exact hp.elim
  case goto t=>exact hp.elim
  case panic ch=>exact hp.elim
  exact hp.elim
 rintro e W2 ⟨⟨v,rfl⟩,xs,hS,hi,hl,hk⟩;have hend:=run_endLoop (P:=P) hl (by rw[hrc];simp);rw[hrc]at hend;exact⟨none,_,hend,hdone _ xs _ (V4 _) hS (hI.putObj _ hi (by omega) hl rfl) ((World.putObj_heap_other (by omega)).trans hk)⟩
end Go.Proofs.YtcgdckphpjfmhaaGreatDoor
namespace Go.Proofs.YtcgdckphpjfmhaaGreatDoor.Ls
theorem lt_irrefl:∀x:List UInt8,Op.bytesLess x x=false
 | []=>rfl
 | a::x=>by simp[Op.bytesLess,lt_irrefl x]
theorem lt_trans:∀x y z:List UInt8,Op.bytesLess x y=true->Op.bytesLess y z=true->Op.bytesLess x z=true
 | [],_,[],h,k=>by cases ‹List UInt8› <;> simp [Op.bytesLess] at h k
 | [],_,_::_,_,_=>rfl
 | _::_,[],_,h,_=>by simp[Op.bytesLess]at h
 | _::_,_::_,[],_,k=>by simp[Op.bytesLess]at k
 | a::x,b::y,c::z,h,k=>by
  simp only[Op.bytesLess,Bool.or_eq_true,V9,Wn,beq_iff_eq]at h k ⊢;rcases h with h|⟨h,h'⟩
  ·rcases k with k|⟨k,k'⟩
   ·exact .inl (UInt8.lt_trans h k)
   exact .inl (k ▸ h)
  rcases k with k|⟨k,k'⟩
  ·exact .inl (h ▸ k)
  exact .inr ⟨h.trans k,lt_trans x y z h' k'⟩
theorem lt_total:∀x y:List UInt8,x≠y->Op.bytesLess x y=true\/Op.bytesLess y x=true
 | [],[],h=>absurd rfl h
 | [],_::_,_=>.inl rfl
 | _::_,[],_=>.inr rfl
 | a::x,b::y,h=>by
  simp only[Op.bytesLess,Bool.or_eq_true,V9,Wn,beq_iff_eq];by_cases e:a=b
  ·subst e;rcases lt_total x y (fun e=>h (by rw[e])) with k|k
   ·exact .inl (.inr ⟨rfl,k⟩)
   exact .inr (.inr ⟨rfl,k⟩)
  rcases Nat.lt_or_gt_of_ne (fun k=>e (UInt8.toNat_inj.1 k)) with k|k
  ·exact .inl (.inl k)
  exact .inr (.inl k)
theorem lt_asymm(x y:List UInt8)(h:Op.bytesLess x y=true):Op.bytesLess y x=false:=by
 cases k:Op.bytesLess y x;case false=>rfl
 have:=lt_trans x y x h k;rw[lt_irrefl]at this;cases this
end Go.Proofs.YtcgdckphpjfmhaaGreatDoor.Ls
namespace Go.Proofs.YtcgdckphpjfmhaaGreatDoor
set_option linter.unusedVariables false
section
variable  {α:Type}{lt:α->α->Bool}
def rD(lt:α->α->Bool)(r:α):List α->List α
 | []=>[r]
 | x::xs=>if lt x r then x::rD lt r xs else r::x::xs
def kS(lt:α->α->Bool)(rs:List α):List α:=rs.foldl (fun out r=>rD lt r out) []
theorem Fb{r:α}:∀{xs:List α} {p:Nat},p<=xs.length->(∀(i:Nat) (h:i<xs.length),i<p->lt xs[i] r=true)->(∀h:p<xs.length,lt xs[p] r=false)->rD lt r xs=xs.take p++r::xs.drop p
 | [],p,hp,_,_=>by
  obtain rfl:p=0:=by simpa using hp
  rfl
 | x::xs,0,_,_,h2=>by
  have:=h2 (by simp);simp only[List.getElem_cons_zero]at this;simp[rD,this]
 | x::xs,p+1,hp,h1,h2=>by
  have h0:=h1 0 (by simp) (by omega);simp only[List.getElem_cons_zero]at h0;have ih:=Fb (r:=r) (xs:=xs) (p:=p) (by simpa using hp) (fun i h hi=>h1 (i+1) (by simpa using h) (by omega)) (fun h=>h2 (by simpa using h));simp[rD,h0,ih]
theorem sF(r:α):∀xs:List α,(rD lt r xs).Perm (r::xs)
 | []=>List.Perm.refl _
 | x::xs=>by
  unfold rD;split
  ·exact((sF r xs).cons x).trans (List.Perm.swap _ _ _)
  exact List.Perm.refl _
theorem AZ:∀(rs acc:List α),(rs.foldl (fun out r=>rD lt r out) acc).Perm (rs++acc)
 | [],acc=>List.Perm.refl _
 | r::rs,acc=>(AZ rs (rD lt r acc)).trans (((sF r acc).append_left rs).trans List.perm_middle)
theorem gF(rs:List α):(kS lt rs).Perm rs:=by simpa[kS] using AZ rs []
theorem JI(rs:List α)(r:α):kS lt (rs++[r])=rD lt r (kS lt rs):=by unfold kS;rw[List.foldl_append];rfl
structure OrdO(lt:α->α->Bool)(rs:List α):Prop where
 trans:∀x∈rs,∀y∈rs,∀z∈rs,lt x y=true->lt y z=true->lt x z=true
 asymm:∀x∈rs,∀y∈rs,lt x y=true->lt y x=false
 total:∀x∈rs,∀y∈rs,x≠y->lt x y=true\/lt y x=true
theorem OrdO.mono{rs qs:List α}(h:OrdO lt rs)(hs:∀x∈qs,x∈rs):OrdO lt qs :=
 ⟨fun x hx y hy z hz=>h.trans x (hs x hx) y (hs y hy) z (hs z hz),fun x hx y hy=>h.asymm x (hs x hx) y (hs y hy),fun x hx y hy=>h.total x (hs x hx) y (hs y hy)⟩
def TH(lt:α->α->Bool)(xs:List α):Prop:=xs.Pairwise fun x y=>lt x y=true
theorem Lt{r:α}:∀{xs:List α},OrdO lt (r::xs)->r ∉ xs->TH lt xs->TH lt (rD lt r xs)
 | [],_,_,_=>List.pairwise_singleton _ _
 | x::xs,ho,hn,h=>by
  obtain⟨h1,h2⟩:=List.pairwise_cons.1 h;have hx:x∈r::x::xs:=by simp
  have hr:r∈r::x::xs:=by simp
  unfold rD;split
  ·rename_i hl;refine List.pairwise_cons.2 ⟨fun y hy=>?_,Lt (ho.mono fun z hz=>?_) (fun hm=>hn (WT _ hm)) h2⟩
   ·rcases Ws.1 ((sF r xs).mem_iff.1 hy) with rfl|hy
    ·exact hl
    exact h1 y hy
   rcases Ws.1 hz with rfl|hz
   ·simp
   simp[hz]
  rename_i hl;have hne:r≠x:=fun e=>hn (by rw[e];simp);have hrx:lt r x=true:=by
   rcases ho.total r hr x hx hne with h3|h3
   ·exact h3
   exact absurd h3 hl
  refine List.pairwise_cons.2 ⟨fun y hy=>?_,h⟩;rcases Ws.1 hy with rfl|hy
  ·exact hrx
  exact ho.trans r hr x hx y (by simp[hy]) hrx (h1 y hy)
theorem GJ:∀(rs acc:List α),OrdO lt (rs++acc)->rs.Nodup->(∀r∈rs,r ∉ acc)->TH lt acc->TH lt (rs.foldl (fun out r=>rD lt r out) acc)
 | [],acc,_,_,_,h=>h
 | r::rs,acc,ho,hd,hn,h=>by
  obtain⟨hr,hd2⟩:=List.nodup_cons.1 hd;have hp:=sF (lt:=lt) r acc;refine GJ rs (rD lt r acc) (ho.mono fun x hx=>?_) hd2 (fun x hx hm=>?_) (Lt (ho.mono fun x hx=>?_) (hn r (by simp)) h)
  ·rcases Wj.1 hx with hx|hx
   ·simp[hx]
   rcases Ws.1 (hp.mem_iff.1 hx) with rfl|hx
   ·simp
   simp[hx]
  ·rcases Ws.1 (hp.mem_iff.1 hm) with rfl|hm
   ·exact hr hx
   exact hn x (by simp[hx]) hm
  rcases Ws.1 hx with rfl|hx
  ·simp
  simp[hx]
theorem PM{rs:List α}(ho:OrdO lt rs)(hd:rs.Nodup):TH lt (kS lt rs):=GJ rs [] (by simpa using ho) hd (fun _ _=>List.not_mem_nil) List.Pairwise.nil
theorem A7:∀{xs ys:List α},OrdO lt xs->TH lt xs->TH lt ys->xs.Perm ys->xs=ys
 | [],ys,_,_,_,hp=>(List.Perm.nil_eq hp)
 | x::xs,[],_,_,_,hp=>absurd hp.length_eq (by simp)
 | x::xs,y::ys,ho,hx,hy,hp=>by
  obtain⟨h1,h2⟩:=List.pairwise_cons.1 hx;obtain⟨h3,h4⟩:=List.pairwise_cons.1 hy;have hyx:y∈x::xs:=hp.mem_iff.2 (by simp);have hxy:x∈y::ys:=hp.mem_iff.1 (by simp);have e:x=y:=by
   rcases Ws.1 hyx with e|hm
   ·exact e.symm
   rcases Ws.1 hxy with e|hm2
   ·exact e
   have a1:=h1 y hm;have a2:=h3 x hm2;rw[ho.asymm x (by simp) y hyx a1]at a2;cases a2
  subst e;rw[A7 (ho.mono fun z hz=>WT _ hz) h2 h4 hp.cons_inv]
theorem PN{rs qs:List α}(ho:OrdO lt rs)(hd:rs.Nodup)(h:TH lt qs)(hp:qs.Perm rs):kS lt rs=qs :=
 A7 (ho.mono fun x hx=>(gF rs).mem_iff.1 hx) (PM ho hd) h ((gF rs).trans hp.symm)
end
end Go.Proofs.YtcgdckphpjfmhaaGreatDoor
