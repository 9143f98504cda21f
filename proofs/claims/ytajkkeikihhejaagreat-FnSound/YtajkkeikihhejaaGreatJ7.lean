/- Contracts of the drawing's reader: its next byte, a number below another one. What it answers is left open but for its bounds. -/
import Derived.Test.YtajkkeikihhejaaGreatSq
import Derived.Test.YtajkkeikihhejaaGreatJ6
import Derived.ChangeSlices
import Derived.Deep.Slices
import Derived.RangeFuncNested
import Derived.Test.YtajkkeikihhejaaGreatSpecSchema8
open Go.Proofs.Tryz
set_option maxHeartbeats 80000000
namespace Go.Proofs.YtajkkeikihhejaaGreat
open ChangeShapes WideShapes ChangeAt RowKit
open Pl
structure Rd(w:World)(R:Nat)(ad:Q02)(len cap:Nat):Prop where
 lt:R<w.heap.size
 code:w.cell? ⟨R,0,none⟩=some (.slice ad len cap)
 place:∃p:Nat,w.cell? ⟨R,1,none⟩=some (.int .i64 p)/\p<=len
 free:w.frozen? ⟨R,1,none⟩=false
 bytes:0<len->∃b off,ad=some ⟨b,off,none⟩/\b≠R/\b<w.heap.size/\∀i,i<len->∃c:Int,0<=c/\c<=255/\w.cell? ⟨b,off+i,none⟩=some (.int .u8 c)
 small:len<=maxLen
theorem Rd.below{w w':af}{R:Nat}{ad:Q02}{len cap:Nat}(h:Rd w R ad len cap)(hb:ae w w'):Rd w' R ad len cap where
 lt:=U9 h.lt hb.size
 code:=by rw[hb.cell (p:=⟨R,0,none⟩) h.lt];exact h.code
 place:=by obtain⟨p,hp,hl⟩:=h.place;exact⟨p,by rw[hb.cell (p:=⟨R,1,none⟩) h.lt];exact hp,hl⟩
 free:=by rw[hb.frozen (p:=⟨R,1,none⟩) h.lt];exact h.free
 bytes h0:=by
  obtain⟨b,off,e,hne,hbl,hc⟩:=h.bytes h0;refine⟨b,off,e,hne,U9 hbl hb.size,fun i hi=>?_⟩;obtain⟨c,c0,c1,hcc⟩:=hc i hi;exact⟨c,c0,c1,by rw[hb.cell (p:=⟨b,off+i,none⟩) hbl];exact hcc⟩
 small:=h.small
theorem Rd.step{w:af}{R p:Nat}{ad:Q02}{len cap:Nat}(h:Rd w R ad len cap)(hp:p+1<=len):Rd (w.setCell ⟨R,1,none⟩ (.int .i64 ((p:Int)+1))) R ad len cap where
 lt:=by simpa using h.lt
 code:=by
  rw[show(w.setCell ⟨R,1,none⟩ (.int .i64 ((p:Int)+1))).cell? ⟨R,0,none⟩=w.cell? ⟨R,0,none⟩ from by apply World.cell?_setCell_other;intro e;cases e];exact h.code
 place:=by
  obtain⟨q,hq,-⟩:=h.place;exact⟨p+1,by rw[show(w.setCell ⟨R,1,none⟩ (.int .i64 ((p:Int)+1))).cell? ⟨R,1,none⟩=some (.int .i64 ((p:Int)+1)) from by apply World.cell?_setCell_same;exact hq];simp,hp⟩
 free:=by simpa using h.free
 bytes h0:=by
  obtain⟨b,off,e,hne,hbl,hc⟩:=h.bytes h0;refine⟨b,off,e,hne,by simpa using hbl,fun i hi=>?_⟩;obtain⟨c,c0,c1,hcc⟩:=hc i hi;refine⟨c,c0,c1,?_⟩;rw[show(w.setCell ⟨R,1,none⟩ (.int .i64 ((p:Int)+1))).cell? ⟨b,off+i,none⟩=w.cell? ⟨b,off+i,none⟩ from by apply World.cell?_setCell_other;intro e;exact hne (congrArg Addr.block e).symm];exact hcc
 small:=h.small
def Only(R:Nat)(w w':World):Prop:=w.grownBy w' (some R)
theorem Only.refl(R:Nat)(w:af):Only R w w:=⟨rfl,rfl,rfl,Va _,fun _ _ _=>rfl⟩
theorem Only.trans{R:Nat}{a b c:af}(h:Only R a b)(k:Only R b c):Only R a c :=
 ⟨k.os.trans h.os,k.tape.trans h.tape,k.output.trans h.output,Vj h.size k.size,fun i hi hr=>(k.block i (U9 hi h.size) hr).trans (h.block i hi hr)⟩
theorem Only.drewN{R:Nat}{a b:af}(h:Only R a b)(n:Nat):Only R a (b.drewN n):=⟨h.os,h.tape,h.output,h.size,h.block⟩
theorem Only.set{R:Nat}{a b:af}(h:Only R a b)(o:Nat)(v:Value):Only R a (b.setCell ⟨R,o,none⟩ v) :=
 ⟨h.os,h.tape,h.output,by simpa using h.size,fun i hi hr=>(Below.heap_setCell b ⟨R,o,none⟩ v i (fun e=>hr (by rw[e]))).trans (h.block i hi hr)⟩
theorem Only.below{R:Nat}{a b c:af}(h:Only R a b)(k:ae b c):Only R a c :=
 ⟨k.os.trans h.os,k.tape.trans h.tape,k.output.trans h.output,Vj h.size k.size,fun i hi hr=>(k.block i (U9 hi h.size)).trans (h.block i hi hr)⟩
theorem Only.of_below{R:Nat}{b c:af}(k:ae b c):Only R b c:=(Only.refl R b).below k
theorem Only.cell{R:Nat}{w w':af}(h:Only R w w'){b o:Nat}(hb:b<w.heap.size)(hne:b≠R):w'.cell? ⟨b,o,none⟩=w.cell? ⟨b,o,none⟩ :=
 Vx (w:=w) (h.block b hb (fun e=>hne (by injection e)))
theorem Only.frozen{R:Nat}{w w':af}(h:Only R w w'){b o:Nat}(hb:b<w.heap.size)(hne:b≠R):w'.frozen? ⟨b,o,none⟩=w.frozen? ⟨b,o,none⟩ :=
 World.frozen?_of_block (w:=w) (h.block b hb (fun e=>hne (by injection e)))
theorem Only.toBelow{R B:Nat}{a w w':af}(h:Below B a w)(k:Only R w w')(hB:B<=w.heap.size)(hR:B<=R):Below B a w' :=
 h.grown k hB (fun i hi=>by injection hi with e;omega)
theorem vV(R:Nat)(ad:Q02)(len cap:Nat)(w:af)(h:Rd w R ad len cap):
  Calls prog 90 #[.pointer (some ⟨R,0,none⟩)] w fun e w'=>(∃x:Int,e=.returned (.int .i64 x)/\0<=x/\x<=255)/\Rd w' R ad len cap/\Only R w w':=by
 obtain⟨p,hp,hpl⟩:=h.place;have hc:=h.code;have hsm:=h.small;unfold maxLen at hsm;have H:=aD h;by_cases hlt:p<len
 ·obtain⟨b,off,rfl,hne,hbl,hbytes⟩:=h.bytes (by omega);obtain⟨c,c0,c1,hcc⟩:=hbytes p hlt;have hfz:=h.free;have hnl:decide ((len:Int)<=(p:Int))=false:=by simp;omega
  have HS:Hid (Rd (w.setCell ⟨R,1,none⟩ (.int .i64 ((p:Int)+1))) R (some ⟨b,off,none⟩) len cap):=h.step (by omega);clear hbytes h;go_enter func90,ntmps90;go_wp2;go_quiet (fail);go_wp2;have e1:(p:Int)+1-1=(p:Int):=by omega
  have e2:=bC p;have e3:(p:Int)<(len:Int):=by omega
  have hw:IntKind.i64.wrap (p:Int)=(p:Int):=by rw[IntKind.wrap_i64];omega
  have hcw:IntKind.i64.wrap c=c:=by rw[IntKind.wrap_i64];omega
  have x1:(w.setCell ⟨R,1,none⟩ (.int .i64 ((p:Int)+1))).cell? ⟨b,off+p,none⟩=some (.int .u8 c):=by
   rw[show(w.setCell ⟨R,1,none⟩ (.int .i64 ((p:Int)+1))).cell? ⟨b,off+p,none⟩=w.cell? ⟨b,off+p,none⟩ from by apply World.cell?_setCell_other;intro e;exact hne (congrArg Addr.block e).symm];exact hcc
  go_quiet (fail);go_wp2;go_ret;exact⟨⟨c,rfl,c0,c1⟩,HS.out.below ⟨rfl,rfl,rfl,Va _,fun _ _=>rfl⟩,(((Only.refl _ _).drewN _).set _ _).drewN _⟩
 have hge:decide ((len:Int)<=(p:Int))=true:=by simp;omega
 clear h;go_enter func90,ntmps90;go_wp2;go_quiet (fail);go_wp2;go_ret;exact⟨⟨0,rfl,by omega,by omega⟩,H.out.below ((below_drewN (Vb _ _) _)),(Only.refl _ _).drewN _⟩
theorem bR(R:Nat)(ad:Q02)(len cap:Nat)(n:Int)(w:af)(h:Rd w R ad len cap)(h1:2<=n)(h2:n<=256):
  Calls prog 49 #[.pointer (some ⟨R,0,none⟩),.int .i64 n] w fun e w'=>(∃x:Int,e=.returned (.int .i64 x)/\0<=x/\x<n)/\Rd w' R ad len cap/\Only R w w':=by
 have H:=aD h;clear h;have hne:(n==0)=false:=by simp;omega
 go_enter func49,ntmps49;go_wp2_with fail;refine(vV R ad len cap _ H.out).mono ?_;rintro e w1 ⟨⟨x,rfl,hx0,hx1⟩,Xe,WQ⟩;have HR:=aD Xe;have HO:=aD WQ;clear Xe WQ;go_wp2;go_ret;exact⟨⟨_,rfl,Int.emod_nonneg _ (by omega),Int.emod_lt_of_pos _ (by omega)⟩,HR.out,HO.out⟩
theorem jR(R:Nat)(ad:Q02)(len cap:Nat)(n:Int)(w:af)(h:Rd w R ad len cap)(h1:2<=n)(h2:n<=256):
  Calls prog 48 #[.pointer (some ⟨R,0,none⟩),.int .i64 n] w fun e w'=>(∃x:Bool,e=.returned (.bool x))/\Rd w' R ad len cap/\Only R w w':=by
 have H:=aD h;clear h;go_enter func48,ntmps48;go_wp2_with fail;refine(bR R ad len cap n _ H.out h1 h2).mono ?_;rintro e w1 ⟨⟨x,rfl,hx0,hx1⟩,Xe,WQ⟩;have HR:=aD Xe;have HO:=aD WQ;clear Xe WQ;go_wp2;go_ret;exact⟨⟨_,rfl⟩,HR.out,HO.out⟩
def Strs(w:World)(R g n:Nat):Prop:=g≠R/\g<w.heap.size/\∀i,i<n->∃s:ByteArray,s.size<=20/\w.cell? ⟨g,i,none⟩=some (.string s)
theorem Strs.only{w w':af}{R g n:Nat}(h:Strs w R g n)(k:Only R w w'):Strs w' R g n :=
 ⟨h.1,U9 h.2.1 k.size,fun i hi=>by obtain⟨s,hs,hc⟩:=h.2.2 i hi;exact⟨s,hs,by rw[k.cell h.2.1 h.1];exact hc⟩⟩
def AL(w:World)(R B g:Nat):Prop:=g≠R/\B<=g/\g<w.heap.size/\(∀o,w.frozen? ⟨g,o,none⟩=false)/\∃a b:ByteArray,a.size<=20/\b.size<=20/\w.cell? ⟨g,0,none⟩=some (.string a)/\w.cell? ⟨g,1,none⟩=some (.string b)
theorem AL.only{w w':af}{R B g:Nat}(h:AL w R B g)(k:Only R w w'):AL w' R B g:=by
 obtain⟨h1,h2,h3,h4,a,b,ha,hb,ca,cb⟩:=h;exact⟨h1,h2,U9 h3 k.size,fun o=>by rw[k.frozen h3 h1];exact h4 o,a,b,ha,hb,by rw[k.cell h3 h1];exact ca,by rw[k.cell h3 h1];exact cb⟩
theorem fG(w:af)(R:Nat)(hR:R<w.heap.size){t:TypeId}{xs:List ByteArray}(h:xs.all (fun x=>decide (x.size<=20))=true):Strs (w.alloc (.cells (xs.map Value.string).toArray t)) R w.heap.size xs.length:=by
 refine⟨by omega,by simp,fun i hi=>⟨xs[i],?_,?_⟩⟩
 ·rw[Vm]at h;simpa using h xs[i] (U8 hi)
 simp[hi]
theorem Mm{w:af}{R B:Nat}{t:TypeId}(hR:R<w.heap.size)(hB:B<=w.heap.size):AL (w.alloc (.cells #[.string ⟨#[]⟩,.string ⟨#[]⟩] t)) R B w.heap.size :=
 ⟨by omega,hB,by simp,fun o=>by simp,⟨#[]⟩,⟨#[]⟩,by decide,by decide,by simp,by simp⟩
theorem Mo{w:af}{R B g:Nat}{x y:Value}{a b:ByteArray}(h1:g≠R)(h2:B<=g)(h3:g<w.heap.size)(h4:∀o,w.frozen? ⟨g,o,none⟩=false)(hx:w.cell? ⟨g,0,none⟩=some x)(hy:w.cell? ⟨g,1,none⟩=some y)(ha:a.size<=20)(hb:b.size<=20):
  AL ((w.setCell ⟨g,0,none⟩ (.string a)).setCell ⟨g,1,none⟩ (.string b)) R B g:=by
 have n01:(⟨g,0,none⟩:Addr)≠⟨g,1,none⟩:=by intro e;cases e
 have e1:(w.setCell ⟨g,0,none⟩ (.string a)).cell? ⟨g,1,none⟩=some y:=by
  rw[show(w.setCell ⟨g,0,none⟩ (.string a)).cell? ⟨g,1,none⟩=w.cell? ⟨g,1,none⟩ from by apply World.cell?_setCell_other;exact n01];exact hy
 refine⟨h1,h2,by simpa using h3,fun o=>by simpa using h4 o,a,b,ha,hb,?_,?_⟩
 ·rw[show((w.setCell ⟨g,0,none⟩ (.string a)).setCell ⟨g,1,none⟩ (.string b)).cell? ⟨g,0,none⟩=(w.setCell ⟨g,0,none⟩ (.string a)).cell? ⟨g,0,none⟩ from by apply World.cell?_setCell_other;exact n01.symm];apply World.cell?_setCell_same;exact hx
 apply World.cell?_setCell_same;exact e1
theorem Rd.setFar{w:af}{R g o:Nat}{ad:Q02}{len cap:Nat}{v:Value}(h:Rd w R ad len cap)(hg:g≠R)(hb:0<len->∀b off,ad=some ⟨b,off,none⟩->b≠g):Rd (w.setCell ⟨g,o,none⟩ v) R ad len cap where
 lt:=by simpa using h.lt
 code:=by
  rw[show(w.setCell ⟨g,o,none⟩ v).cell? ⟨R,0,none⟩=w.cell? ⟨R,0,none⟩ from by apply World.cell?_setCell_other;intro e;exact hg (congrArg Addr.block e)];exact h.code
 place:=by
  obtain⟨p,hp,hl⟩:=h.place;exact⟨p,by rw[show(w.setCell ⟨g,o,none⟩ v).cell? ⟨R,1,none⟩=w.cell? ⟨R,1,none⟩ from by apply World.cell?_setCell_other;intro e;exact hg (congrArg Addr.block e)];exact hp,hl⟩
 free:=by simpa using h.free
 bytes h0:=by
  obtain⟨b,off,e,hne,hbl,hc⟩:=h.bytes h0;refine⟨b,off,e,hne,by simpa using hbl,fun i hi=>?_⟩;obtain⟨c,c0,c1,hcc⟩:=hc i hi;exact⟨c,c0,c1,by rw[show(w.setCell ⟨g,o,none⟩ v).cell? ⟨b,off+i,none⟩=w.cell? ⟨b,off+i,none⟩ from by apply World.cell?_setCell_other;intro e2;exact hb h0 b off e (congrArg Addr.block e2).symm];exact hcc⟩
 small:=h.small
theorem Only.setNew{R g o:Nat}{a b:af}{v:Value}(h:Only R a b)(hg:a.heap.size<=g):Only R a (b.setCell ⟨g,o,none⟩ v) :=
 ⟨h.os,h.tape,h.output,by simpa using h.size,fun i hi hr=>(Below.heap_setCell b ⟨g,o,none⟩ v i (by simp;omega)).trans (h.block i hi hr)⟩
theorem Only.alloc{R:Nat}{a b:af}(h:Only R a b)(o:Obj):Only R a (b.alloc o):=h.below ((Vb _ _).alloc (Va _) _)
theorem Rd.alloc{w:af}{R:Nat}{ad:Q02}{len cap:Nat}(h:Rd w R ad len cap)(o:Obj):Rd (w.alloc o) R ad len cap:=h.below ((Vb _ _).alloc (Va _) _)
theorem Rv{w:af}{a:Addr}{v:Value}(h:w.cell? a=some v)(o:Obj):(w.alloc o).cell? a=some v:=cell_later ((Vb _ _).alloc (Va _) _) h
def Ob(w:World)(R g:Nat)(a b:ByteArray):Prop:=g≠R/\g<w.heap.size/\w.cell? ⟨g,0,none⟩=some (.string a)/\w.cell? ⟨g,1,none⟩=some (.string b)
theorem Ob.only{w w':af}{R g:Nat}{a b:ByteArray}(h:Ob w R g a b)(k:Only R w w'):Ob w' R g a b :=
 ⟨h.1,U9 h.2.1 k.size,by rw[k.cell h.2.1 h.1];exact h.2.2.1,by rw[k.cell h.2.1 h.1];exact h.2.2.2⟩
theorem Ob.alloc{w:af}{R g:Nat}{a b:ByteArray}(h:Ob w R g a b)(o:Obj):Ob (w.alloc o) R g a b:=h.only ((Only.refl R w).alloc o)
theorem EW{w:af}{R:Nat}(hR:R<w.heap.size)(t:TypeId)(a b:bW):Ob (w.alloc (.cells #[.string a,.string b] t)) R w.heap.size a b :=
 ⟨by omega,by simp,by simp,by simp⟩
def TI(w:World)(R n:Nat):Prop:=n≠R/\n<w.heap.size/\(∀o,w.frozen? ⟨n,o,none⟩=false)/\∀o,o<6->w.cell? ⟨n,o,none⟩=some (.string ⟨#[]⟩)
theorem TI.only{w w':af}{R n:Nat}(h:TI w R n)(k:Only R w w'):TI w' R n :=
 ⟨h.1,U9 h.2.1 k.size,fun o=>by rw[k.frozen h.2.1 h.1];exact h.2.2.1 o,fun o ho=>by rw[k.cell h.2.1 h.1];exact h.2.2.2 o ho⟩
theorem Rx{w:af}{R:Nat}(hR:R<w.heap.size)(t:TypeId):TI (w.alloc (.cells #[.string ⟨#[]⟩,.string ⟨#[]⟩,.string ⟨#[]⟩,.string ⟨#[]⟩,.string ⟨#[]⟩,.string ⟨#[]⟩] t)) R w.heap.size:=by
 refine⟨by omega,by simp,fun o=>by simp,fun o ho=>?_⟩;have h6:o=0\/o=1\/o=2\/o=3\/o=4\/o=5:=by omega
 rcases h6 with rfl|rfl|rfl|rfl|rfl|rfl<;>simp
structure Kd where
 s:Value ⊕ Nat ⊕ Nat ⊕ Nat ⊕ Unit ⊕ Unit ⊕ Unit
abbrev Kd.eq (v:Value):Kd:=⟨.inl v⟩
abbrev Kd.strs (n:Nat):Kd:=⟨.inr (.inl n)⟩
abbrev Kd.idx (n:Nat):Kd:=⟨.inr (.inr (.inl n))⟩
abbrev Kd.elt (n:Nat):Kd:=⟨.inr (.inr (.inr (.inl n)))⟩
abbrev Kd.str:Kd:=⟨.inr (.inr (.inr (.inr (.inl ()))))⟩
abbrev Kd.obj:Kd:=⟨.inr (.inr (.inr (.inr (.inr (.inl ())))))⟩
abbrev Kd.tup:Kd:=⟨.inr (.inr (.inr (.inr (.inr (.inr ())))))⟩
def Kd.ok(R:Nat)(w:World)(v:Value):Kd->Prop
 | ⟨.inl u⟩=>v=u
 | ⟨.inr (.inl n)⟩=>∃g,v=.slice (some ⟨g,0,none⟩) n n/\Strs w R g n
 | ⟨.inr (.inr (.inl n))⟩=>∃x:Nat,v=.int .i64 (x:Int)/\x<n
 | ⟨.inr (.inr (.inr (.inl n)))⟩=>∃g x,v=.pointer (some ⟨g,x,none⟩)/\x<n/\Strs w R g n
 | ⟨.inr (.inr (.inr (.inr (.inl _))))⟩=>∃t:ByteArray,v=.string t/\t.size<=20
 | ⟨.inr (.inr (.inr (.inr (.inr (.inl _)))))⟩=>∃a b:ByteArray,v=.agg #[.string a,.string b]/\a.size<=20/\b.size<=20
 | ⟨.inr (.inr (.inr (.inr (.inr (.inr _)))))⟩=>∃a b r c d s:ByteArray,v=.agg #[.string a,.string b,.string r,.string c,.string d,.string s]/\a.size<=20/\b.size<=20/\r.size<=20/\c.size<=20/\d.size<=20/\s.size<=20
theorem Kd.only{R:Nat}{w w':af}{v:Value}(h:Only R w w')(k:Kd)(hk:k.ok R w v):k.ok R w' v:=by
 match k,hk with
 | ⟨.inl _⟩,hk=>exact hk
 | ⟨.inr (.inl _)⟩,hk=>obtain⟨g,e,hs⟩:=hk;exact⟨g,e,hs.only h⟩
 | ⟨.inr (.inr (.inl _))⟩,hk=>exact hk
 | ⟨.inr (.inr (.inr (.inl _)))⟩,hk=>obtain⟨g,x,e,hx,hs⟩:=hk;exact⟨g,x,e,hx,hs.only h⟩
 | ⟨.inr (.inr (.inr (.inr (.inl _))))⟩,hk=>exact hk
 | ⟨.inr (.inr (.inr (.inr (.inr (.inl _)))))⟩,hk=>exact hk
 | ⟨.inr (.inr (.inr (.inr (.inr (.inr _)))))⟩,hk=>exact hk
def GL(ks:List Kd)(k:Nat):Kd:=ks.getD k .tup
set_option maxRecDepth 100000
theorem jU{p:Prop}(h:p):Hid p:=h
theorem Jz(R:Nat)(w:af)(n:Int)(h:n<=1):
  Calls prog 49 #[.pointer (some ⟨R,0,none⟩),.int .i64 n] w fun e w'=>e=.returned (.int .i64 0)/\w'=w:=by
 go_enter func49,ntmps49;go_wp2;go_ret;exact⟨rfl,rfl⟩
theorem gu(R:Nat)(ad:Q02)(len cap:Nat)(n:Nat)(w:af)(h:Rd w R ad len cap)(h1:1<=n)(h2:n<=256):
  Calls prog 49 #[.pointer (some ⟨R,0,none⟩),.int .i64 (n:Int)] w fun e w'=>(∃x:Nat,e=.returned (.int .i64 (x:Int))/\x<n)/\Rd w' R ad len cap/\Only R w w':=by
 by_cases hn:n=1
 ·subst hn;exact(Jz R w 1 (by omega)).mono fun e w' ⟨he,hw⟩=>⟨⟨0,by rw[he];rfl,by omega⟩,by rw[hw];exact h,by rw[hw];exact Only.refl _ _⟩
 exact(bR R ad len cap n w h (by omega) (by omega)).mono fun e w' ⟨⟨x,he,h0,h3⟩,hR,hO⟩=>⟨⟨x.toNat,by rw[he,Int.toNat_of_nonneg h0],by omega⟩,hR,hO⟩
def sQ(w:World)(R g n m:Nat):Prop:=g≠R/\g<w.heap.size/\∀o,o<n->∃s:ByteArray,w.cell? ⟨g,o,none⟩=some (.string s)/\s.size<=m
theorem sQ.only{w w':af}{R g n m:Nat}(h:sQ w R g n m)(k:Only R w w'):sQ w' R g n m :=
 ⟨h.1,U9 h.2.1 k.size,fun o ho=>by obtain⟨s,e,hs⟩:=h.2.2 o ho;exact⟨s,by rw[k.cell h.2.1 h.1];exact e,hs⟩⟩
theorem mM(w:af)(R m:Nat)(hR:R<w.heap.size){t:TypeId}{xs:List ByteArray}(h:xs.all (fun x=>decide (x.size<=m))=true):sQ (w.alloc (.cells (xs.map Value.string).toArray t)) R w.heap.size xs.length m:=by
 refine⟨by omega,by simp,fun o ho=>⟨xs[o],?_,?_⟩⟩
 ·have:=World.cell?_alloc_mark w (xs.map Value.string).toArray t (0,0) o;rw[this];simp[ho]
 have:=Vm.1 h _ (U8 ho);simpa using this
def tB:Nat->Nat
 | 0=>14
 | d+1=>3*tB d+8
theorem tF(R:Nat)(ad:Q02)(len cap:Nat)(d:Int)(w:af)(h:Rd w R ad len cap):
  Calls prog 123 #[.pointer (some ⟨R,0,none⟩),.int .i64 d,.bool true] w fun e w'=>(∃t:ByteArray,e=.returned (.string t)/\t.size<=24)/\Rd w' R ad len cap/\Only R w w':=by
 have YU:=h.lt;have HRD:=jU h;obtain⟨xs,hxs⟩:∃xs:List ByteArray,xs=[⟨#[116,104,105,115,40,117,115,101,114,41]⟩,⟨#[116,104,105,115,40,117,115,101,114,44,103,114,111,117,112,35,109,101,109,98,101,114,41]⟩,⟨#[116,104,105,115,40,117,115,101,114,44,100,111,99,35,101,100,105,116,111,114,41]⟩]:=⟨_,rfl⟩;obtain⟨W0,hW0⟩:∃W0,W0=w.alloc (.cells (xs.map Value.string).toArray 9):=⟨_,rfl⟩;have HS0:Hid (sQ W0 R w.heap.size 3 24):=by
  show sQ _ _ _ _ _;rw[hW0];have:=mM w R 24 YU (t:=9) (xs:=xs) (by rw[hxs];decide);rwa [show xs.length=3 by rw[hxs];rfl]at this
 have XM:Hid (Rd W0 R ad len cap):=by show Rd _ _ _ _ _;rw[hW0];exact h.alloc _
 have XO:Hid (Only R w W0):=by show Only _ _ _;rw[hW0];exact(Only.refl _ _).alloc _
 have hW1:W0=w.alloc (.cells #[.string ⟨#[116,104,105,115,40,117,115,101,114,41]⟩,.string ⟨#[116,104,105,115,40,117,115,101,114,44,103,114,111,117,112,35,109,101,109,98,101,114,41]⟩,.string ⟨#[116,104,105,115,40,117,115,101,114,44,100,111,99,35,101,100,105,116,111,114,41]⟩] 9):=by rw[hW0,hxs];rfl
 clear h hW0 hxs;go_enter func123,ntmps123;go_wp2_with fail;rw[<-hW1];clear hW1;refine(gu R ad len cap 3 _ XM.out (by omega) (by omega)).mono ?_;rintro e w1 ⟨⟨x,rfl,hx⟩,Xe,WQ⟩;obtain⟨-,hlt,hcells⟩:=HS0.out.only WQ;obtain⟨t,ht,hts⟩:=hcells x hx;have HR1:=jU Xe;have WK:Hid (Only R w w1):=XO.out.trans WQ;have hx0:=bC x;have hx1:(x:Int)<3:=by omega
 clear Xe WQ hcells HS0 XM XO;go_wp2;go_ret;exact⟨⟨t,rfl,hts⟩,HR1.out,WK.out⟩
theorem EX(R:Nat)(ad:Q02)(len cap:Nat):∀(d:Nat) (w:af),d<=2->Rd w R ad len cap ->
  Calls prog 123 #[.pointer (some ⟨R,0,none⟩),.int .i64 (d:Int),.bool false] w fun e w'=>(∃t:ByteArray,e=.returned (.string t)/\t.size<=tB d)/\Rd w' R ad len cap/\Only R w w':=by
 intro d
 induction d with
 | zero =>
  intro w _ h;have YU:=h.lt;have hz:(0:Nat)<=256:=by omega
  obtain⟨xs,hxs⟩:∃xs:List ByteArray,xs=[⟨#[101,100,105,116,111,114]⟩,⟨#[118,105,101,119,101,114]⟩,⟨#[98,97,110,110,101,100]⟩,⟨#[112,97,114,101,110,116,45,62,118,105,101,119,101,114]⟩,⟨#[112,97,114,101,110,116,45,62,101,100,105,116,111,114]⟩,⟨#[111,119,110,101,114]⟩,⟨#[112,97,114,101,110,116,45,62,111,119,110,101,114]⟩]:=⟨_,rfl⟩;obtain⟨W0,hW0⟩:∃W0,W0=w.alloc (.cells (xs.map Value.string).toArray 9):=⟨_,rfl⟩;have HS0:Hid (sQ W0 R w.heap.size 7 14):=by
   show sQ _ _ _ _ _;rw[hW0];have:=mM w R 14 YU (t:=9) (xs:=xs) (by rw[hxs];decide);rwa [show xs.length=7 by rw[hxs];rfl]at this
  have XM:Hid (Rd W0 R ad len cap):=by show Rd _ _ _ _ _;rw[hW0];exact h.alloc _
  have XO:Hid (Only R w W0):=by show Only _ _ _;rw[hW0];exact(Only.refl _ _).alloc _
  have hW1:W0=w.alloc (.cells #[.string ⟨#[101,100,105,116,111,114]⟩,.string ⟨#[118,105,101,119,101,114]⟩,.string ⟨#[98,97,110,110,101,100]⟩,.string ⟨#[112,97,114,101,110,116,45,62,118,105,101,119,101,114]⟩,.string ⟨#[112,97,114,101,110,116,45,62,101,100,105,116,111,114]⟩,.string ⟨#[111,119,110,101,114]⟩,.string ⟨#[112,97,114,101,110,116,45,62,111,119,110,101,114]⟩] 9):=by rw[hW0,hxs];rfl
  clear h hW0 hxs;go_enter func123,ntmps123;go_wp2_with fail;rw[<-hW1];clear hW1;refine(gu R ad len cap 7 _ XM.out (by omega) (by omega)).mono ?_;rintro e w1 ⟨⟨x,rfl,hx⟩,Xe,WQ⟩;obtain⟨-,hlt,hcells⟩:=HS0.out.only WQ;obtain⟨t,ht,hts⟩:=hcells x hx;have HR1:=jU Xe;have WK:Hid (Only R w w1):=XO.out.trans WQ;have hx0:=bC x;have hx1:(x:Int)<7:=by omega
  clear Xe WQ hcells HS0 XM XO;go_wp2;go_ret;exact⟨⟨t,rfl,hts⟩,HR1.out,WK.out⟩
 | succ d ih =>
  intro w hd h;have YU:=h.lt;have IH:=jU ih;have hd0:(((d+1:Nat):Int)==0)=false:=by simp;omega
  have hdm:((d+1:Nat):Int)-1=(d:Int):=by omega
  have HTB:Hid (tB (d+1)=3*tB d+8):=rfl;have hb0:tB d<=82:=by
   have:d=0\/d=1:=by omega
   rcases this with rfl|rfl<;>decide
  obtain⟨bd,hbd⟩:∃bd,bd=tB d:=⟨_,rfl⟩;rw[<-hbd]at hb0 HTB;have HBD:=jU hbd;clear ih hbd;go_enter func123,ntmps123;go_wp2_with fail;refine(jR R ad len cap 2 _ h (by omega) (by omega)).mono ?_;rintro e w1 ⟨⟨q,rfl⟩,Xe,WQ⟩;have HR1:=jU Xe;have WK:=jU WQ;have hRw1:R<w1.heap.size:=Xe.lt;clear Xe WQ h;cases q;case true=>
   obtain⟨xs,hxs⟩:∃xs:List ByteArray,xs=[⟨#[101,100,105,116,111,114]⟩,⟨#[118,105,101,119,101,114]⟩,⟨#[98,97,110,110,101,100]⟩,⟨#[112,97,114,101,110,116,45,62,118,105,101,119,101,114]⟩,⟨#[112,97,114,101,110,116,45,62,101,100,105,116,111,114]⟩,⟨#[111,119,110,101,114]⟩,⟨#[112,97,114,101,110,116,45,62,111,119,110,101,114]⟩]:=⟨_,rfl⟩;obtain⟨W0,hW0⟩:∃W0,W0=w1.alloc (.cells (xs.map Value.string).toArray 9):=⟨_,rfl⟩;have HS0:Hid (sQ W0 R w1.heap.size 7 14):=by
    show sQ _ _ _ _ _;rw[hW0];have:=mM w1 R 14 hRw1 (t:=9) (xs:=xs) (by rw[hxs];decide);rwa [show xs.length=7 by rw[hxs];rfl]at this
   have XM:Hid (Rd W0 R ad len cap):=by show Rd _ _ _ _ _;rw[hW0];exact HR1.out.alloc _
   have XO:Hid (Only R w W0):=by show Only _ _ _;rw[hW0];exact WK.out.alloc _
   have hW1:W0=w1.alloc (.cells #[.string ⟨#[101,100,105,116,111,114]⟩,.string ⟨#[118,105,101,119,101,114]⟩,.string ⟨#[98,97,110,110,101,100]⟩,.string ⟨#[112,97,114,101,110,116,45,62,118,105,101,119,101,114]⟩,.string ⟨#[112,97,114,101,110,116,45,62,101,100,105,116,111,114]⟩,.string ⟨#[111,119,110,101,114]⟩,.string ⟨#[112,97,114,101,110,116,45,62,111,119,110,101,114]⟩] 9):=by rw[hW0,hxs];rfl
   clear hW0 hxs HR1 WK;go_wp2_with fail;rw[<-hW1];clear hW1;refine(gu R ad len cap 7 _ XM.out (by omega) (by omega)).mono ?_;rintro e w2 ⟨⟨x,rfl,hx⟩,hR2,hO2⟩;obtain⟨-,hlt,hcells⟩:=HS0.out.only hO2;obtain⟨t,ht,hts⟩:=hcells x hx;have HR2:=jU hR2;have Wu:Hid (Only R w w2):=XO.out.trans hO2;have hx0:=bC x;have hx1:(x:Int)<7:=by omega
   have hfin:t.size<=tB (d+1):=by rw[HTB.out,HBD.out];cases d<;>simp[tB]<;>omega
   have Xc:=jU hfin;clear hR2 hO2 hcells HS0 XM XO hfin;go_wp2;go_ret;exact⟨⟨t,rfl,Xc.out⟩,HR2.out,Wu.out⟩
  obtain⟨xs,hxs⟩:∃xs:List ByteArray,xs=[⟨#[32,124,32]⟩,⟨#[32,38,32]⟩,⟨#[32,45,32]⟩,⟨#[32,124,32]⟩]:=⟨_,rfl⟩;obtain⟨W0,hW0⟩:∃W0,W0=w1.alloc (.cells (xs.map Value.string).toArray 9):=⟨_,rfl⟩;have HS0:Hid (sQ W0 R w1.heap.size 4 3):=by
   show sQ _ _ _ _ _;rw[hW0];have:=mM w1 R 3 hRw1 (t:=9) (xs:=xs) (by rw[hxs];decide);rwa [show xs.length=4 by rw[hxs];rfl]at this
  have XM:Hid (Rd W0 R ad len cap):=by show Rd _ _ _ _ _;rw[hW0];exact HR1.out.alloc _
  have XO:Hid (Only R w W0):=by show Only _ _ _;rw[hW0];exact WK.out.alloc _
  have hW1:W0=w1.alloc (.cells #[.string ⟨#[32,124,32]⟩,.string ⟨#[32,38,32]⟩,.string ⟨#[32,45,32]⟩,.string ⟨#[32,124,32]⟩] 9):=by rw[hW0,hxs];rfl
  clear hW0 hxs HR1 WK;go_wp2_with fail;rw[<-hW1];clear hW1;refine(gu R ad len cap 4 _ XM.out (by omega) (by omega)).mono ?_;rintro e w2 ⟨⟨x,rfl,hx⟩,hR2,hO2⟩;obtain⟨-,hlt,hcells⟩:=HS0.out.only hO2;obtain⟨op,hop,hops⟩:=hcells x hx;have HR2:=jU hR2;have Wu:Hid (Only R w w2):=XO.out.trans hO2;have hx0:=bC x;have hx1:(x:Int)<4:=by omega
  clear hR2 hO2 hcells HS0 XM XO;go_wp2_with fail;refine(IH.out w2 (by omega) HR2.out).mono ?_;rintro e w3 ⟨⟨t1,rfl,ht1⟩,YG,hO3⟩;rw[<-HBD.out]at ht1;have HR3:=jU YG;have WO:Hid (Only R w w3):=Wu.out.trans hO3;clear YG hO3 HR2 Wu hop hlt;go_wp2_with fail;refine(IH.out w3 (by omega) HR3.out).mono ?_;rintro e w4 ⟨⟨t2,rfl,ht2⟩,ZF,hO4⟩;rw[<-HBD.out]at ht2;have HR4:=jU ZF;have WG:Hid (Only R w w4):=WO.out.trans hO4;clear ZF hO4 HR3 WO;have e1:(⟨#[40]⟩:ByteArray).size=1:=rfl;have e2:(⟨#[41]⟩:ByteArray).size=1:=rfl;cases hm:op.toList==[32,45,32];case true=>
   have hm2:(!op.toList==[32,45,32])=false:=by rw[hm];rfl
   have Xc:Hid ((((((⟨#[40]⟩:ByteArray)++t1)++op)++t2)++⟨#[41]⟩).size<=tB (d+1)):=by show _<=_;rw[HTB.out];simp only[Vv,e1,e2];omega
   go_wp2_with fail;go_ret;exact⟨⟨_,rfl,Xc.out⟩,HR4.out,WG.out⟩
  have hm2:(!op.toList==[32,45,32])=true:=by rw[hm];rfl
  go_wp2_with fail;refine(jR R ad len cap 3 _ HR4.out (by omega) (by omega)).mono ?_;rintro e w5 ⟨⟨q,rfl⟩,WS,Xi⟩;have WR:=jU WS;have WF:Hid (Only R w w5):=WG.out.trans Xi;clear WS Xi HR4 WG;cases q;case false=>
   have Xc:Hid ((((((⟨#[40]⟩:ByteArray)++t1)++op)++t2)++⟨#[41]⟩).size<=tB (d+1)):=by show _<=_;rw[HTB.out];simp only[Vv,e1,e2];omega
   go_wp2_with fail;go_ret;exact⟨⟨_,rfl,Xc.out⟩,WR.out,WF.out⟩
  go_wp2_with fail;refine(IH.out w5 (by omega) WR.out).mono ?_;rintro e w6 ⟨⟨t3,rfl,ht3⟩,hR6,Z7⟩;rw[<-HBD.out]at ht3;have Yw:=jU hR6;have Xy:Hid (Only R w w6):=WF.out.trans Z7;clear hR6 Z7 WR WF;have Xc:Hid ((((((((⟨#[40]⟩:ByteArray)++t1)++op)++t2)++op)++t3)++⟨#[41]⟩).size<=tB (d+1)):=by show _<=_;rw[HTB.out];simp only[Vv,e1,e2];omega
  go_wp2_with fail;go_ret;exact⟨⟨_,rfl,Xc.out⟩,Yw.out,Xy.out⟩
theorem GM(R:Nat)(ad:Q02)(len cap d:Nat)(w:af)(hd:d<=2)(h:Rd w R ad len cap):
  Calls prog 83 #[.pointer (some ⟨R,0,none⟩),.int .i64 (d:Int)] w fun e w'=>(∃t:ByteArray,e=.returned (.string t)/\t.size<=190)/\Rd w' R ad len cap/\Only R w w':=by
 have YU:=h.lt;have hb0:tB d<=158:=by
  have:d=0\/d=1\/d=2:=by omega
  rcases this with rfl|rfl|rfl<;>decide
 obtain⟨xs,hxs⟩:∃xs:List ByteArray,xs=[⟨#[32,124,32]⟩,⟨#[32,38,32]⟩,⟨#[32,45,32]⟩,⟨#[32,124,32]⟩]:=⟨_,rfl⟩;obtain⟨W0,hW0⟩:∃W0,W0=w.alloc (.cells (xs.map Value.string).toArray 9):=⟨_,rfl⟩;have HS0:Hid (sQ W0 R w.heap.size 4 3):=by
  show sQ _ _ _ _ _;rw[hW0];have:=mM w R 3 YU (t:=9) (xs:=xs) (by rw[hxs];decide);rwa [show xs.length=4 by rw[hxs];rfl]at this
 have XM:Hid (Rd W0 R ad len cap):=by show Rd _ _ _ _ _;rw[hW0];exact h.alloc _
 have XO:Hid (Only R w W0):=by show Only _ _ _;rw[hW0];exact(Only.refl _ _).alloc _
 have hW1:W0=w.alloc (.cells #[.string ⟨#[32,124,32]⟩,.string ⟨#[32,38,32]⟩,.string ⟨#[32,45,32]⟩,.string ⟨#[32,124,32]⟩] 9):=by rw[hW0,hxs];rfl
 clear h hW0 hxs;go_enter func83,ntmps83;go_wp2_with fail;rw[<-hW1];clear hW1;refine(gu R ad len cap 4 _ XM.out (by omega) (by omega)).mono ?_;rintro e w2 ⟨⟨x,rfl,hx⟩,hR2,hO2⟩;obtain⟨-,hlt,hcells⟩:=HS0.out.only hO2;obtain⟨op,hop,hops⟩:=hcells x hx;have HR2:=jU hR2;have Wu:Hid (Only R w w2):=XO.out.trans hO2;have hx0:=bC x;have hx1:(x:Int)<4:=by omega
 clear hR2 hO2 hcells HS0 XM XO;go_wp2_with fail;refine(jR R ad len cap 3 _ HR2.out (by omega) (by omega)).mono ?_;rintro e w3 ⟨⟨q,rfl⟩,YG,hO3⟩;have HR3:=jU YG;have WO:Hid (Only R w w3):=Wu.out.trans hO3;clear YG hO3 HR2 Wu hop hlt;cases q;case true=>
  go_wp2_with fail;refine(tF R ad len cap 0 _ HR3.out).mono ?_;rintro e w4 ⟨⟨t1,rfl,ht1⟩,ZF,hO4⟩;have HR4:=jU ZF;have WG:Hid (Only R w w4):=WO.out.trans hO4;clear ZF hO4;go_wp2;go_ret;exact⟨⟨t1,rfl,by omega⟩,HR4.out,WG.out⟩
 go_wp2_with fail;refine(tF R ad len cap 0 _ HR3.out).mono ?_;rintro e w4 ⟨⟨t1,rfl,ht1⟩,ZF,hO4⟩;have HR4:=jU ZF;have WG:Hid (Only R w w4):=WO.out.trans hO4;clear ZF hO4;go_wp2_with fail;refine(EX R ad len cap d _ hd HR4.out).mono ?_;rintro e w5 ⟨⟨t2,rfl,ht2⟩,WS,Xi⟩;have WR:=jU WS;have WF:Hid (Only R w w5):=WG.out.trans Xi;have hf:t2.size<=158:=by omega
 have Xc:Hid (((t1++op)++t2).size<=190):=by show _<=_;simp only[Vv];omega
 clear WS Xi ht2 hb0;go_wp2;go_ret;exact⟨⟨_,rfl,Xc.out⟩,WR.out,WF.out⟩
theorem qU(R:Nat)(ad:Q02)(len cap d:Nat)(w:af)(hd:d<=2)(h:Rd w R ad len cap):
  Calls prog 83 #[.pointer (some ⟨R,0,none⟩),.int .i64 (d:Int)] w fun e w'=>(∃t:ByteArray,e=.returned (.string t)/\t.size<=300)/\Rd w' R ad len cap/\Only R w w' :=
 (GM R ad len cap d w hd h).mono fun e w' ⟨⟨t,h1,h2⟩,h3⟩=>⟨⟨t,h1,by omega⟩,h3⟩
theorem EY(R:Nat)(ad:Q02)(len cap:Nat)(w:af)(h:Rd w R ad len cap):
  Calls prog 180 #[.pointer (some ⟨R,0,none⟩)] w fun e w'=>(∃x:Int,e=.returned (.int .u64 x))/\Rd w' R ad len cap/\Only R w w':=by
 have H:=aD h;clear h;go_enter func180,ntmps180;go_wp2;go_loopw[3,4] (fun v i wr=>∃(x:Int) (k:Nat),v=.int .u64 x/\i=.int .i64 (k:Int)/\k<=8/\Hid (Rd wr R ad len cap)/\Hid (Only R w wr)) (fun _ i _=>8-(intOf i).toNat);case atStart=>exact⟨0,0,rfl,rfl,by omega,H,Only.refl _ _⟩
 obtain⟨x,k,rfl,rfl,hk,HR,HO⟩:=hrel;by_cases hlt:k<8
 ·have hk1:(k:Int)<8:=by omega
  go_wp2_with fail;refine(vV R ad len cap _ HR.out).mono ?_;rintro e w1 ⟨⟨y,rfl,hy0,hy1⟩,Xe,WQ⟩;have HR1:=aD Xe;have WK:Hid (Only R w w1):=HO.out.trans WQ;clear Xe WQ;go_wp2;go_roundw;case rel=>exact⟨_,k+1,rfl,by go_num,by omega,HR1,WK⟩
  simp[intOf]<;>omega
 have hk1:¬(k:Int)<8:=by omega
 go_wp2;go_ret;exact⟨⟨x,rfl⟩,HR.out,HO.out⟩
theorem Pb(R:Nat)(ad:Q02)(len cap:Nat)(w:af)(h:Rd w R ad len cap):
  Calls prog 125 #[.pointer (some ⟨R,0,none⟩),.int .i64 1,.int .i64 6] w fun e w'=>(∃x:Int,e=.returned (.int .i64 x))/\Rd w' R ad len cap/\Only R w w':=by
 have H:=jU h;clear h;go_enter func125,ntmps125;go_wp2_with fail;refine(gu R ad len cap 8 _ H.out (by omega) (by omega)).mono ?_;rintro e w1 ⟨⟨x,rfl,hx⟩,Xe,WQ⟩;have HR1:=jU Xe;have WK:=jU WQ;clear Xe WQ;by_cases h0:x=0
 ·subst h0;go_wp2;go_ret;exact⟨⟨_,rfl⟩,HR1.out,WK.out⟩
 have h00:((x:Int)==0)=false:=by simp;omega
 by_cases h1:x=1
 ·subst h1;go_wp2;go_ret;exact⟨⟨_,rfl⟩,HR1.out,WK.out⟩
 have h11:((x:Int)==1)=false:=by simp;omega
 go_wp2_with fail;refine(EY R ad len cap _ HR1.out).mono ?_;rintro e w2 ⟨⟨y,rfl⟩,hR2,hO2⟩;have HR2:=jU hR2;have Wu:Hid (Only R w w2):=WK.out.trans hO2;clear hR2 hO2;go_wp2;go_ret;exact⟨⟨_,rfl⟩,HR2.out,Wu.out⟩
theorem Ry(R:Nat)(ad:Q02)(len cap:Nat)(w:af)(h:Rd w R ad len cap):
  Calls prog 85 #[.pointer (some ⟨R,0,none⟩),.int .i64 1,.int .i64 6] w fun e w'=>(∃x:Int,e=.returned (.int .i64 x))/\Rd w' R ad len cap/\Only R w w':=by
 have H:=jU h;clear h;go_enter func85,ntmps85;go_wp2_with fail;refine(jR R ad len cap 24 _ H.out (by omega) (by omega)).mono ?_;rintro e w1 ⟨⟨q,rfl⟩,Xe,WQ⟩;have HR1:=jU Xe;have WK:=jU WQ;have YU:=Xe.lt;clear Xe WQ;cases q;case false=>
  go_wp2_with fail;refine(Pb R ad len cap _ HR1.out).mono ?_;rintro e w2 ⟨⟨y,rfl⟩,hR2,hO2⟩;have HR2:=jU hR2;have Wu:Hid (Only R w w2):=WK.out.trans hO2;clear hR2 hO2;go_wp2;go_ret;exact⟨⟨_,rfl⟩,HR2.out,Wu.out⟩
 obtain⟨W0,hW0⟩:∃W0,W0=w1.alloc (.cells #[.int .i64 0,.int .i64 7,.int .i64 (-9223372036854775808),.int .i64 9223372036854775807] 2):=⟨_,rfl⟩;have XM:Hid (Rd W0 R ad len cap):=by show Rd _ _ _ _ _;rw[hW0];exact HR1.out.alloc _
 have XO:Hid (Only R w W0):=by show Only _ _ _;rw[hW0];exact WK.out.alloc _
 have XC:Hid (w1.heap.size<W0.heap.size/\∀o,o<4->∃z:Int,W0.cell? ⟨w1.heap.size,o,none⟩=some (.int .i64 z)):=by
  show _/\_;rw[hW0];refine⟨by simp,fun o ho=>?_⟩;have:o=0\/o=1\/o=2\/o=3:=by omega
  rcases this with rfl|rfl|rfl|rfl<;>exact⟨_,by simp;rfl⟩
 go_wp2_with fail;rw[<-hW0];clear hW0;refine(gu R ad len cap 4 _ XM.out (by omega) (by omega)).mono ?_;rintro e w2 ⟨⟨x,rfl,hx⟩,hR2,hO2⟩;obtain⟨z,hz⟩:=XC.out.2 x hx;have hz2:w2.cell? ⟨w1.heap.size,x,none⟩=some (.int .i64 z):=by rw[hO2.cell XC.out.1 (by omega)];exact hz
 have HR2:=jU hR2;have Wu:Hid (Only R w w2):=XO.out.trans hO2;have hx0:=bC x;have hx1:(x:Int)<4:=by omega
 clear hR2 hO2 hz XC XM XO;go_wp2;go_ret;exact⟨⟨z,rfl⟩,HR2.out,Wu.out⟩
theorem Lf{a b a' b':ByteArray}{f f':Bool}(ha:a=a')(hb:b=b')(hf:f=f'):Ending.returned (.tuple #[.string a,.string b,.bool f])=.returned (.tuple #[.string a',.string b',.bool f']):=by rw[ha,hb,hf]
theorem Dz(s:bW)(c:UInt8)(w:af)(hs:s.size<=maxLen):
  Calls prog 177 #[.string s,.int .u8 c.toNat] w fun e w'=>e=.returned (.tuple #[.string (kS c s),.string (iY c s),.bool (pz c s)])/\∃n,w'=w.drewN n:=by
 unfold maxLen at hs;go_enter func177,ntmps177;go_wp2
 go_loop [7] (fun i=>∃k:Nat,k<=s.size/\i=.int .i64 k/\Hid (TC c s k)) (fun i=>s.size-(intOf i).toNat)
 case atStart=>exact⟨0,Vf _,rfl,OO _ _⟩
 obtain⟨k,hk,rfl,hu⟩:=hrel;by_cases hlt:k<s.size
 ·by_cases hc:s[k]=c
  ·have HC:Hid (je c s.data.toList=_):=TD hlt hu.out hc;have hcb:((s[k].toNat:Int)==(c.toNat:Int))=true:=by simp[hc]
   have hk1:=bC k;have hk2:(k:Int)<=(s.size:Int):=by omega
   have hk3:(k:Int)+1<=(s.size:Int):=by omega
   clear hc;go_wp2;go_quiet (fail);go_wp2
   go_ret3
   refine⟨Lf (ib ?_) (ib ?_) (by simp[pz,HC.out]),nq,rfl⟩
   ·rw[Lib.extract_data];simp[kS,HC.out]
   rw[Lib.extract_to_end];simp[iY,HC.out]
  have HU:Hid (TC c s (k+1)):=OP hlt hu.out hc;have hcb:((s[k].toNat:Int)==(c.toNat:Int))=false:=by
   simp;intro h;exact hc (UInt8.toNat_inj.mp (by omega))
  clear hc;go_wp2;go_round;case rel=>exact⟨k+1,by omega,by go_num,HU⟩
  simp[intOf];omega
 have HC:Hid (je c s.data.toList=_):=OQ (Nat.le_of_not_lt hlt) hu.out;go_wp2
 go_ret3
 exact⟨Lf (by simp[kS,HC.out]) (by simp[iY,HC.out]) (by simp[pz,HC.out]),0,rfl⟩
def Bytes(w:World)(ad:Q02)(len:Nat):Prop:=len<=maxLen/\(0<len->∃b off,ad=some ⟨b,off,none⟩/\b<w.heap.size/\∀i,i<len->∃c:Int,0<=c/\c<=255/\w.cell? ⟨b,off+i,none⟩=some (.int .u8 c))
theorem Bytes.below{w w':af}{ad:Q02}{len:Nat}(h:Bytes w ad len)(hb:ae w w'):Bytes w' ad len:=by
 refine⟨h.1,fun h0=>?_⟩;obtain⟨b,off,e,hbl,hc⟩:=h.2 h0;refine⟨b,off,e,U9 hbl hb.size,fun i hi=>?_⟩;obtain⟨c,c0,c1,hcc⟩:=hc i hi;exact⟨c,c0,c1,by rw[hb.cell (p:=⟨b,off+i,none⟩) hbl];exact hcc⟩
theorem JA{H:Type}{enc:TypeId×Value->H}{W:af}{base:Nat}{sp:Nat->Bool}{held:Bool}{fuel:Nat}{ad:Q02}{len cap:Nat}{x:DataW H×List MemPlace}
  (h:DataW.trod enc prog W base sp held fuel 22 [.slice ad len cap]=some x):Bytes W ad len:=by
 rcases open_ints underlying22 underlying5 (by kernel_rfl) h with⟨hcs,-⟩|⟨a,l,c,zs,hcs,-,hlc,hcm,hm,-,hel,hwf⟩
 ·simp at hcs;obtain⟨rfl,rfl,rfl⟩:=hcs;exact⟨by unfold maxLen;omega,fun h0=>by omega⟩
 simp at hcs;obtain⟨rfl,rfl,rfl⟩:=hcs;have hle:len<=zs.length:=by rw[hm];split<;>omega
 refine⟨by omega,fun h0=>?_⟩;have hspot:a.spot=none:=by
  have:=hel 0 (by omega);have e:a.add 0=a:=by simp[Addr.add]
  rw[e]at this;exact World.cell?_spot this
 obtain⟨b,off,spot⟩:=a;simp only at hspot;subst hspot;have add0:∀x:Nat,(⟨b,off,none⟩:Addr).add x=⟨b,off+x,none⟩:=fun x=>by
  unfold Addr.add;by_cases h:x=0
  ·subst h;simp
  simp[h]
 refine⟨b,off,rfl,?_,fun i hi=>?_⟩
 ·have:=hel 0 (by omega);rw[add0]at this;exact World.block_lt_of_cell? W ⟨b,off+0,none⟩ this
 have h1:=hel i (by omega);rw[add0]at h1;have h2:=hwf (zs.getD i 0) (by rw[VH,Vg (by omega)];simp);have h3:IntKind.u8.min<=zs.getD i 0/\zs.getD i 0<=IntKind.u8.max:=by simpa only[Lit.wf,Vd,Vk] using h2
 have e1:IntKind.u8.min=0:=by decide
 have e2:IntKind.u8.max=255:=by decide
 rw[e1,e2]at h3;exact⟨_,h3.1,h3.2,h1⟩
theorem TJ{w:af}{ad:Q02}{len cap:Nat}{t:TypeId}(h:Bytes w ad len):Rd (w.alloc (.cells #[.slice ad len cap,.int .i64 0] t)) w.heap.size ad len cap where
 lt:=by simp
 code:=by simp
 place:=⟨0,by simp,by omega⟩
 free:=by simp
 bytes h0:=by
  obtain⟨b,off,e,hbl,hc⟩:=h.2 h0;refine⟨b,off,e,by omega,by simp;omega,fun i hi=>?_⟩;obtain⟨c,c0,c1,hcc⟩:=hc i hi;exact⟨c,c0,c1,Rv hcc _⟩
 small:=h.1
theorem Pd(ad:Q02)(len cap:Nat)(w:af)(h:Bytes w ad len):
  Calls prog 44 #[.slice ad len cap] w fun e w'=>e=.returned (.pointer (some ⟨w.heap.size,0,none⟩))/\Rd w' w.heap.size ad len cap/\ae w w':=by
 have H:=aD h;clear h;go_enter func44,ntmps44;go_wp2;go_ret;exact⟨rfl,TJ H.out,(Vb _ _).alloc (Va _) _⟩
theorem RA(ad:Q02)(len cap:Nat)(w:af):
  Calls prog 9 #[.slice ad len cap] w fun e w'=>e=.returned (.bool (decide ((1048576:Int)<(len:Int))))/\w'=w:=by
 go_enter func9,ntmps9;go_wp2;go_ret;exact⟨rfl,rfl⟩
open Maps
def xI(w:World)(b off:Nat)(t:Fc):Prop :=
 w.cell? ⟨b,off,none⟩=some (.string t.a)/\w.cell? ⟨b,off+1,none⟩=some (.string t.b)/\w.cell? ⟨b,off+2,none⟩=some (.string t.r)/\w.cell? ⟨b,off+3,none⟩=some (.string t.c)/\w.cell? ⟨b,off+4,none⟩=some (.string t.d)
def U6(w:World)(b off:Nat)(ts:Q04):Prop:=∀(i:Nat) (h:i<ts.length),xI w b (off+i*5) ts[i]
def kw(w:World)(ad:Q02)(ts:Q04):Prop:=ts=[] \/ ∃b off,ad=some ⟨b,off,none⟩/\b<w.heap.size/\U6 w b off ts
theorem xI.same{w w':af}{b off:Nat}{t:Fc}(h:xI w b off t)(hc:∀o,w'.cell? ⟨b,o,none⟩=w.cell? ⟨b,o,none⟩):xI w' b off t:=by
 obtain⟨h0,h1,h2,h3,h4⟩:=h;exact⟨(hc _).trans h0,(hc _).trans h1,(hc _).trans h2,(hc _).trans h3,(hc _).trans h4⟩
theorem kw.below{w w':af}{ad:Q02}{ts:Q04}(h:kw w ad ts)(hB:ae w w'):kw w' ad ts:=by
 rcases h with h|⟨b,off,e,hb,hr⟩
 ·exact .inl h
 exact .inr ⟨b,off,e,U9 hb hB.size,fun i hi=>(hr i hi).same fun o=>hB.cell (p:=⟨b,o,none⟩) hb⟩
def Fc.row(t:Fc):List Value:=[.string t.a,.string t.b,.string t.r,.string t.c,.string t.d]
theorem xJ(x y:Fc){v:Bool}(h:vP x y=v)(w:af):
  (binOp .eql 29 (.agg #[.string x.a,.string x.b,.string x.r,.string x.c,.string x.d]) (.agg #[.string y.a,.string y.b,.string y.r,.string y.c,.string y.d])).run prog w=.ok (.bool v) w:=by
 subst h;go_simp;unfold vP
 (repeat' split)<;>simp_all
theorem DC{ts:Q04}{k:Nat}(h:k<ts.length){t:Fc}:bB (ts.drop k) t=(vP ts[k] t || bB (ts.drop (k+1)) t):=by
 unfold bB;rw[VG h];rfl
set_option linter.unusedVariables false
def EZ{α:Type}(F:Fence)(n:Nat)(P:Program)(g:Nat)(lb:Array Value)(encs:α->Array Value)(Kp:Nat->World->World->Prop)(Q:List α->World->Prop)(E:List α->α->Prop)(S:List α->Prop)(w:World):Prop :=
 ∀(l:Nat) (J:List α->World->Prop) (W:World),ae w W->l<W.heap.size->w.heap.size<=l->OwnFrom W.heap.size J->(∀pre W1,J pre W1->Q pre W1) ->
  (∀pre x W1,J pre W1->E pre x->YieldAt F (n-1) P l (encs x) W1 fun e W'=>e=.returned (.bool true)/\J (pre++[x]) W'/\Kp l W1 W') ->
  J [] W ->
  CallsIn F n P g (#[.func (.yield l) #[] #[]]++lb) W fun e W'=>(∃v,e=.returned v)/\∃xs,S xs/\J xs W'
def Pe(B:Nat)(R:World->Prop)(W:World):Exit->Act->World->Prop
 | .normal,_,W'=>KeepsFrom B W W'/\R W'
 | _,_,_=>False
theorem Lg{β:Type}{B k:Nat}{o:Obj}(hk:k<B):OwnFrom B (fun(_:β) W=>W.heap[k]?=some o):=fun _ X Y row hs hg hr=>(hg.block k (Vi.1 hs).1 fun e=>by have:=(hr k e.symm).1;omega).trans hs
theorem TK{β:Type}{B B':Nat}{I:β->World->Prop}(h:OwnFrom B I)(hB:B<=B'):OwnFrom B' I:=fun s X Y row hs hg hr=>h s X Y row hs hg fun r e=>⟨Vj hB (hr r e).1,(hr r e).2⟩
theorem qV{α:Type}{F:Fence}{n:Nat}{P:Program}{g:Operand}{ps:Array Tmp}{assign body:Code}{Q:Exit->Act->World->Prop}{a:Act}{w:af}(hro:F.round=none)(h1:1<=n){gf:Nat}{lb:Array Value}(hg:a.eval g=.func (.func gf) #[] lb)(hFg:F.fn gf)(eg:∀args w,(callFunc gf args).run P w=.ok (.enter gf args) w)
  {encs:α->Array Value} {Kp:Nat->World->World->Prop} {Tell:List α->World->Prop} {E:List α->α->Prop} {S:List α->Prop} {w0:World} (hseq:EZ F (n-1) P gf lb encs Kp Tell E S w0) (hb0:ae w0 w) (hps:∀x,(encs x).size=ps.size)
  (hKt:∀{l:Nat} {X Y Z:World},Kp l X Y->Kp l Y Z->Kp l X Z) (hKb:∀(W:World) (l:Nat) (o o':Obj),W.heap[l]?=some o->o.isCells=false->Kp l W (W.putObj l o'))
  (I:List α->World->Prop) (hI:OwnFrom w.heap.size I) (hT:∀pre W,I pre W->Tell pre W) (h0:I [] w)
  (Ax:α->Act->World->Prop) (hAx:∀x a',OwnFrom w.heap.size (fun(_:Unit) W=>Ax x a' W))
  (hassign:∀ (l:Nat) (pre:List α) (x:α) (W:World) (K:Act->World->Prop),I pre W->(∀ a' W',KeepsFrom w.heap.size W W'->Kp l W W'->I pre W'->Ax x a' W'->K a' W') ->
   assign.wpIn (F.inRound l) (n-1-1) P (Exit.then K (fun _ _ _=>False)) { tmps:=(ps.zip (encs x)).foldl (fun t (p,v)=>t.setIfInBounds p v) a.tmps,defers:=[] } W)
  (hbody:∀(l:Nat) (pre:List α) (x:α) (a':Act) (W:World),w.heap.size<=l->E pre x->I pre W->Ax x a' W->body.wpIn (F.inRound l) (n-1-1) P (Pe w.heap.size (fun W'=>Kp l W W'/\I (pre++[x]) W') W) a' W)
  (hdone:∀(D:Nat) (xs:List α) (W:World),w.heap.size<=D->S xs->I xs W->W.heap[D]?=some (.deferred (some []))->Q .normal { a with defers:={ target:=.collected D,args:=#[] }::a.defers } W) :
  (Code.rangeFunc g ps assign body).wpIn F n P Q a w:=by
 refine wpIn_rangeFunc fun fn hfn=>?_;rw[hro];obtain⟨rc,hrc⟩:∃rc:LoopState->Loop,rc=fun st=>{ state:=st,pending:=none,fn,tmps:=a.tmps,params:=ps,assign,body,defers:=w.heap.size }:=⟨_,rfl⟩;obtain⟨W0,hW0⟩:∃W0,W0=w.alloc (.deferred (some [])):=⟨_,rfl⟩;have s0:W0.heap.size=w.heap.size+1:=by rw[hW0];simp
 obtain⟨W1,hW1⟩:∃W1,W1=W0.alloc (.loop (rc .ready)):=⟨_,rfl⟩;have s1:W1.heap.size=w.heap.size+2:=by rw[hW1];simp;omega
 have k0:W0.heap[w.heap.size]?=some (.deferred (some [])):=by rw[hW0];exact World.alloc_heap_new w _
 have k1:W1.heap[w.heap.size]?=some (.deferred (some [])):=by rw[hW1];exact(Below.heap_alloc _ _ _ (by omega)).trans k0
 have r1:W1.heap[w.heap.size+1]?=some (.loop (rc .ready)):=by rw[hW1,<-s0];exact World.alloc_heap_new W0 _
 have i1:I [] W1:=by rw[hW1,hW0];exact hI.alloc _ (hI.alloc _ h0)
 have b1:ae w W1:=by rw[hW1,hW0];exact((Vb _ w).alloc (Va _) _).alloc (by simp) _
 have bb:ae w0 W1:=hb0.trans (b1.mono hb0.size);refine⟨w.heap.size+1,[{ target:=.collected w.heap.size,args:=#[] }],W1,{ target:=.fn (.func gf) lb,args:=#[.func (.yield (w.heap.size+1)) #[] #[]] },W1,gf,#[.func (.yield (w.heap.size+1)) #[] #[]]++lb,W1,?_,?_,?_,?_,fun _=>h1,?_⟩
 ·rw[hW1,hW0,hrc];exact run_enterLoop_outer _ _ _ _ _
 ·simp only[resolve,hg];simp[go_sem]
 ·intro f hf;simp[Target.leads]at hf;subst hf;exact hFg
 ·simp[invoke,go_sem,eg]
 have hJ:OwnFrom W1.heap.size (fun pre W=>I pre W/\W.heap[w.heap.size+1]?=some (.loop (rc .ready))/\W.heap[w.heap.size]?=some (.deferred (some []))) :=
  (TK hI (by omega)).and ((Lg (by omega)).and (Lg (by omega)))
 refine(hseq (w.heap.size+1) _ W1 bb (by omega) (by have:=hb0.size;omega) hJ (fun pre W h=>hT pre W h.1) ?_ ⟨i1,r1,k1⟩).mono ?_
 ·rintro pre x W ⟨hi,hl,hk⟩ hEx;have hy:=run_yield (P:=P) (args:=encs x) hl (by rw[hrc];exact hps x);rw[hrc]at hy;refine⟨fn,_,assign,body,hy,roundIn_of_wpIn hfn (hassign _ pre x W _ hi ?_)⟩;clear hy;intro a' Wa hka hkp hia hax;have hla:=hka.same _ _ (by omega) hl rfl;have hda:=hka.same _ _ (Va _) hk rfl;have hlt:w.heap.size+1<Wa.heap.size:=(Vi.1 hla).1;refine⟨_,run_beginRound hla (by rw[hrc]),?_⟩;obtain⟨Wb,hWb⟩:∃Wb,Wb=Wa.putObj (w.heap.size+1) (.loop { rc .ready with state:=.busy }):=⟨_,rfl⟩;rw[<-hWb];have lb2:Wb.heap[w.heap.size+1]?=some (.loop { rc .ready with state:=.busy }):=by rw[hWb];exact World.putObj_heap_same hlt
  have db2:Wb.heap[w.heap.size]?=some (.deferred (some [])):=by rw[hWb];exact(World.putObj_heap_other (by omega)).trans hda
  have kb2:Kp (w.heap.size+1) Wa Wb:=by rw[hWb];exact hKb _ _ _ _ hla rfl
  have ib2:I pre Wb:=by rw[hWb];exact hI.putObj _ hia (by omega) hla rfl
  have ab2:Ax x a' Wb:=by rw[hWb];exact(hAx x a').putObj (s:=()) _ hax (by omega) hla rfl
  refine wpIn_mono (hbody _ pre x a' _ (by omega) hEx ib2 ab2) ?_;intro e a3 W3 hp;cases e;case normal=>
   obtain⟨hk3,hkp3,hi3⟩:=hp;have hl3:=hk3.same _ _ (by omega) lb2 rfl;have hd3:=hk3.same _ _ (Va _) db2 rfl;have hend:=run_endRound (P:=P) none hl3;rw[hrc]at hend;refine⟨_,_,hend,rfl,⟨hI.putObj _ hi3 (by omega) hl3 rfl,?_,(World.putObj_heap_other (by omega)).trans hd3⟩,hKt hkp (hKt (hKt kb2 hkp3) (hKb _ _ _ _ hl3 rfl))⟩;rw[hrc];exact World.putObj_heap_same (Vi.1 hl3).1
  case ret=>exact hp.elim
  case exit id=>exact hp.elim
  case goto t=>exact hp.elim
  case panic ch=>exact hp.elim
  exact hp.elim
 rintro e W2 ⟨⟨v,rfl⟩,xs,hS,hi,hl,hk⟩;have hend:=run_endLoop (P:=P) hl (by rw[hrc];simp);rw[hrc]at hend;exact⟨none,_,hend,hdone _ xs _ (Va _) hS (hI.putObj _ hi (by omega) hl rfl) ((World.putObj_heap_other (by omega)).trans hk)⟩
def Fc.fits(t:Fc):Prop:=t.a.size<=maxLen/\t.b.size<=maxLen/\t.r.size<=maxLen/\t.c.size<=maxLen/\t.d.size<=maxLen
def jf(k:Fc):Value:=.agg #[.string k.a,.string k.b,.string k.r,.string k.c,.string k.d]
theorem AO(x y:Fc)(h:jf x=jf y):x=y:=by
 unfold jf at h;injection h with h;have h1:=congrArg Array.toList h;simp at h1;obtain⟨xa,xb,xr,xc,xd⟩:=x;obtain⟨ya,yb,yr,yc,yd⟩:=y;simp only at h1;obtain⟨rfl,rfl,rfl,rfl,rfl⟩:=h1;rfl
theorem Pf:laidOutB prog=true:=by kernel_rfl
theorem TL:(29:TypeId)<prog.types.size:=of_decide_eq_true (by kernel_rfl)
theorem RB:(match prog.underlying 29 with|some (.array _ _)|some (.struct _)=>true|_=>false)=true:=by rw[underlying29]
set_option maxRecDepth 100000 in
theorem RD:WideMaps.KeyLaw prog 29:=deep_law_laid Pf (m:=3) (by omega) TL (by kernel_rfl) RB
theorem E5:Keyed prog 29:=Keyed.of_law RD
theorem RF:prog.keyType 29=true:=by kernel_rfl
theorem GN:prog.cellsOf 29=5:=by kernel_rfl
theorem Mq:prog.cellsOf 27=2:=by kernel_rfl
theorem Ms:prog.cellsOf 9=1:=by kernel_rfl
theorem Mt:2<=prog.types.size:=of_decide_eq_true (by kernel_rfl)
theorem JB:∃n,prog.types.size=n+2:=⟨prog.types.size-2,by have:=Mt;omega⟩
set_option maxRecDepth 100000 in
theorem vW(k:Fc)(h:k.fits):∃kl,keyOf prog 29 (jf k)=some kl:=by
 obtain⟨n,hn⟩:=JB;obtain⟨h0,h1,h2,h3,h4⟩:=h;refine⟨.string (keyBytes [.string k.a.data.toList,.string k.b.data.toList,.string k.r.data.toList,.string k.c.data.toList,.string k.d.data.toList]),?_⟩;unfold keyOf;rw[underlying29];simp only[RF,jf,Value.formed,underlying29,GN,hn,Value.cells];simp +decide [Program.keyLits,underlying29,underlying27,underlying9,GN,Mq,Ms,h0,h1,h2,h3,h4]
theorem Pg(w:af):(zeroValue 113).run prog w=.ok (.agg #[]) w:=by kernel_rfl
theorem GQ(b n:Nat)(M:Fc->Option Value)(f:Fc)(w:af)(hf:f.fits)(hV:aM jf prog 29 w b n M)(hM:∀v,M f=some v->v=.agg #[]):
  Calls prog 65 #[.map (some b),.agg #[.string f.a,.string f.b,.string f.r,.string f.c,.string f.d]] w fun e w'=>e=.returned (.bool (M f).isSome)/\ae w w':=by
 obtain⟨kl,hkl⟩:=vW f hf;have Xz:Hid (keyOf prog 29 (jf f)=some kl):=hkl;have HM:Hid ((M f).getD (.agg #[])=.agg #[]):=by
  show _=_;cases e:M f with
  | none=>rfl
  | some v=>exact hM v e
 obtain⟨W,hW⟩:∃W,W=w.alloc (.cells #[.string f.a,.string f.b,.string f.r,.string f.c,.string f.d] 29):=⟨_,rfl⟩;have HB:=mi hW;have HV:=aD (hV.below HB.out);have HB2:Hid (ae w (W.alloc (.cells #[] 113))):=HB.out.alloc HB.out.size _;clear hkl hV hM;go_enter func65,ntmps65;go_wp2_with(at_lookup;rw[<-hW];clear hW;refine dQ _ rfl _ _ 107 rfl 29 113 E5 underlying107 (Pg _) b n M rfl HV.out f kl rfl Xz.out ?_;rw[HM.out]);go_ret;exact⟨rfl,HB2.out⟩
set_option maxRecDepth 8000 in
theorem oz(ad:Q02)(cap:Nat)(ts:Q04)(t:Fc)(w:af)(hlen:ts.length<=1048576)(hs:kw w ad ts):
  Calls prog 56 #[.slice ad ts.length cap,.agg #[.string t.a,.string t.b,.string t.r,.string t.c,.string t.d]] w fun e w'=>e=.returned (.bool (bB ts t))/\ae w w':=by
 have HS:=aD hs;clear hs;obtain⟨W0,hW0⟩:∃W0,W0=w.alloc (.cells #[.string t.a,.string t.b,.string t.r,.string t.c,.string t.d] 29):=⟨_,rfl⟩;have HB0:=mi hW0;have HX0:Hid (W0.cell? ⟨w.heap.size,0,none⟩=some (.string t.a)/\W0.cell? ⟨w.heap.size,1,none⟩=some (.string t.b)/\W0.cell? ⟨w.heap.size,2,none⟩=some (.string t.r)/\W0.cell? ⟨w.heap.size,3,none⟩=some (.string t.c)/\W0.cell? ⟨w.heap.size,4,none⟩=some (.string t.d)/\w.heap.size<W0.heap.size):=by show _/\_;rw[hW0];refine⟨?_,?_,?_,?_,?_,?_⟩<;>simp
 go_enter func56,ntmps56;go_wp2;rw[<-hW0];clear hW0;go_loopw[5] (fun i wr=>∃k:Nat,k<=ts.length/\i=.int .i64 k/\Hid (bB (ts.drop k) t=bB ts t)/\Hid (ae W0 wr)) (fun i _=>ts.length-(intOf i).toNat);case atStart=>exact⟨0,Vf _,rfl,rfl,Vb _ _⟩
 obtain⟨k,hk,rfl,HP,HB⟩:=hrel;have Wx:Hid (ae w wr):=HB0.out.trans (HB.out.mono HB0.out.size);by_cases hlt:k<ts.length
 ·rcases HS.out.below Wx.out with hnil|⟨b,off,rfl,hb,hr⟩
  ·rw[hnil]at hlt;simp at hlt
  obtain⟨t0,t1,t2,t3,t4⟩:=hr k hlt;have x0:=mK HB.out HX0.out.2.2.2.2.2 HX0.out.1;have x1:=mK HB.out HX0.out.2.2.2.2.2 HX0.out.2.1;have x2:=mK HB.out HX0.out.2.2.2.2.2 HX0.out.2.2.1;have x3:=mK HB.out HX0.out.2.2.2.2.2 HX0.out.2.2.2.1;have x4:=mK HB.out HX0.out.2.2.2.2.2 HX0.out.2.2.2.2.1;have hk1:=bC k;have hk2:(k:Int)<(ts.length:Int):=by omega
  have HD:Hid (bB ts t=(vP ts[k] t || bB (ts.drop (k+1)) t)):=by show _=_;rw[<-HP.out];exact DC hlt
  clear hr;cases hq:vP ts[k] t;case true=>
   have heq:=xJ ts[k] t hq;have HN:Hid (bB ts t=true):=by show _=_;rw[HD.out,hq];rfl
   clear hq;go_wp2_with fail;go_region_held3 (fun w'=>w'.cell? ⟨b,off+k*5,none⟩=some (.string ts[k].a)/\w'.cell? ⟨b,off+k*5+1,none⟩=some (.string ts[k].b)/\w'.cell? ⟨b,off+k*5+2,none⟩=some (.string ts[k].r)/\w'.cell? ⟨b,off+k*5+3,none⟩=some (.string ts[k].c)/\w'.cell? ⟨b,off+k*5+4,none⟩=some (.string ts[k].d)/\w'.cell? ⟨w.heap.size,0,none⟩=some (.string t.a)/\w'.cell? ⟨w.heap.size,1,none⟩=some (.string t.b)/\w'.cell? ⟨w.heap.size,2,none⟩=some (.string t.r)/\w'.cell? ⟨w.heap.size,3,none⟩=some (.string t.c)/\w'.cell? ⟨w.heap.size,4,none⟩=some (.string t.d)/\ae wr w') (first|assumption|exact⟨t0,t1,t2,t3,t4,x0,x1,x2,x3,x4,(Vb _ _).drew⟩) (fail);rename_i hH;have HG:Hid (ae wr _):=hH.2.2.2.2.2.2.2.2.2.2;clear hH t0 t1 t2 t3 t4 x0 x1 x2 x3 x4 heq;go_wp2;go_ret;exact⟨by rw[HN.out];rfl,Wx.out.trans (HG.out.mono Wx.out.size)⟩
  have heq:=xJ ts[k] t hq;have WB:Hid (bB (ts.drop (k+1)) t=bB ts t):=by show _=_;rw[HD.out,hq];rfl
  clear hq;go_wp2_with fail;go_region_held3 (fun w'=>w'.cell? ⟨b,off+k*5,none⟩=some (.string ts[k].a)/\w'.cell? ⟨b,off+k*5+1,none⟩=some (.string ts[k].b)/\w'.cell? ⟨b,off+k*5+2,none⟩=some (.string ts[k].r)/\w'.cell? ⟨b,off+k*5+3,none⟩=some (.string ts[k].c)/\w'.cell? ⟨b,off+k*5+4,none⟩=some (.string ts[k].d)/\w'.cell? ⟨w.heap.size,0,none⟩=some (.string t.a)/\w'.cell? ⟨w.heap.size,1,none⟩=some (.string t.b)/\w'.cell? ⟨w.heap.size,2,none⟩=some (.string t.r)/\w'.cell? ⟨w.heap.size,3,none⟩=some (.string t.c)/\w'.cell? ⟨w.heap.size,4,none⟩=some (.string t.d)/\ae wr w') (first|assumption|exact⟨t0,t1,t2,t3,t4,x0,x1,x2,x3,x4,(Vb _ _).drew⟩) (fail);rename_i hH;have HG:Hid (ae W0 _):=HB.out.trans (hH.2.2.2.2.2.2.2.2.2.2.mono HB.out.size);clear hH t0 t1 t2 t3 t4 x0 x1 x2 x3 x4 heq;go_wp2;go_roundw;case rel=>exact⟨k+1,by omega,by go_num,WB,HG⟩
  simp[intOf]<;>omega
 have HN:Hid (bB ts t=false):=by show _=_;rw[<-HP.out,Vt (by omega)];rfl
 go_wp2;go_ret;exact⟨by rw[HN.out];rfl,Wx.out⟩
theorem ai{p:Prop}(h:p):Hid p:=h
structure HW(w:World)(Yo:Q02)(ts:Q05)(Ws:Q02)(rows:Q08)(adK:Q02)(known:Q04)(Xf:Q02)(truth:Q04):Prop where
 tup:Sl w Yo ts
 ex:ik w Ws rows
 kn:kw w adK known
 tr:kw w Xf truth
theorem HW.below{w w':af}{Yo:Q02}{ts:Q05}{Ws:Q02}{rows:Q08}{adK:Q02}{known:Q04}{Xf:Q02}{truth:Q04}(h:HW w Yo ts Ws rows adK known Xf truth)(hB:ae w w'):HW w' Yo ts Ws rows adK known Xf truth :=
 ⟨h.tup.below hB,h.ex.below hB,h.kn.below hB,h.tr.below hB⟩
def yz(a b c d:ByteArray):Bool:=a.toList==c.toList&&b.toList==d.toList
theorem iH(a b c d:bW){v:Bool}(h:yz a b c d=v)(w:af):
  (binOp .eql 27 (.agg #[.string a,.string b]) (.agg #[.string c,.string d])).run prog w=.ok (.bool v) w:=by
 subst h;go_simp;unfold yz
 (repeat' split)<;>simp_all
theorem GR(a b c d:bW){v:Bool}(h:yz a b c d=v)(w:af):
  (binOp .neq 27 (.agg #[.string a,.string b]) (.agg #[.string c,.string d])).run prog w=.ok (.bool (!v)) w:=by
 subst h;go_simp;unfold yz
 (repeat' split)<;>simp_all
theorem ik.at0{w:af}{ad:Q02}{rs:Q08}(h:ik w ad rs){k:Nat}(hk:k<rs.length):∃b off,ad=some ⟨b,off,none⟩/\yT w b (off+k*5) rs[k]/\b<w.heap.size/\rs[k].ok w:=by
 rcases h with h|⟨b',off',e,hb,hr,hok⟩
 ·rw[h]at hk;simp at hk
 exact⟨b',off',e,hr k hk,hb,hok _ (U8 hk)⟩
theorem Sl.at0{w:af}{ad:Q02}{ts:Q05}(h:Sl w ad ts){k:Nat}(hk:k<ts.length):∃b off,ad=some ⟨b,off,none⟩/\SS w b (off+k*6) ts[k]/\b<w.heap.size:=by
 rcases h with h|⟨b',off',e,hb,hr⟩
 ·rw[h]at hk;simp at hk
 exact⟨b',off',e,hr k hk,hb⟩
theorem sZ.at0{w:af}{ad:Q02}{zs:List Int}(h:sZ w ad zs){k:Nat}(hk:k<zs.length):∃b off,ad=some ⟨b,off,none⟩/\w.cell? ⟨b,off+k,none⟩=some (.int .i64 zs[k])/\b<w.heap.size:=by
 rcases h with h|⟨b',off',e,hb,hr⟩
 ·rw[h]at hk;simp at hk
 exact⟨b',off',e,hr k hk,hb⟩
def vX(w:World)(f:Fc)(x:ER):World:=(w.alloc (.cells #[.string f.a,.string f.b,.string f.r,.string f.c,.string f.d] 29)).alloc (.cells #[.int .i64 x.e.kind,.slice x.adA x.e.allow.length x.capA,.string x.e.over,.string x.e.name,.slice x.adK x.e.kids.length x.capK] 39)
theorem eu(w:af)(f:Fc)(x:ER):ae w (vX w f x):=by
 unfold vX;exact((Vb _ _).alloc (Va _) _).alloc (by simp) _
structure EnB(w:World)(B:Nat)(f:Fc)(x:ER):Prop where
 lt:B+1<w.heap.size
 f0:w.cell? ⟨B,0,none⟩=some (.string f.a)
 f1:w.cell? ⟨B,1,none⟩=some (.string f.b)
 f2:w.cell? ⟨B,2,none⟩=some (.string f.r)
 f3:w.cell? ⟨B,3,none⟩=some (.string f.c)
 f4:w.cell? ⟨B,4,none⟩=some (.string f.d)
 x0:w.cell? ⟨B+1,0,none⟩=some (.int .i64 x.e.kind)
 x1:w.cell? ⟨B+1,1,none⟩=some (.slice x.adA x.e.allow.length x.capA)
 x2:w.cell? ⟨B+1,2,none⟩=some (.string x.e.over)
 x3:w.cell? ⟨B+1,3,none⟩=some (.string x.e.name)
 x4:w.cell? ⟨B+1,4,none⟩=some (.slice x.adK x.e.kids.length x.capK)
theorem EnB.below{w w':af}{B:Nat}{f:Fc}{x:ER}(h:EnB w B f x)(hB:ae w w'):EnB w' B f x:=by
 have h0:B<w.heap.size:=by have:=h.lt;omega
 have c0:∀o,w'.cell? ⟨B,o,none⟩=w.cell? ⟨B,o,none⟩:=fun o=>hB.cell (p:=⟨B,o,none⟩) h0;have c1:∀o,w'.cell? ⟨B+1,o,none⟩=w.cell? ⟨B+1,o,none⟩:=fun o=>hB.cell (p:=⟨B+1,o,none⟩) h.lt;exact⟨U9 h.lt hB.size,(c0 _).trans h.f0,(c0 _).trans h.f1,(c0 _).trans h.f2,(c0 _).trans h.f3,(c0 _).trans h.f4,(c1 _).trans h.x0,(c1 _).trans h.x1,(c1 _).trans h.x2,(c1 _).trans h.x3,(c1 _).trans h.x4⟩
theorem gy(w:af)(f:Fc)(x:ER):EnB (vX w f x) w.heap.size f x:=by
 unfold vX;constructor<;>simp
def AP(known:Q04)(f:Fc)(t:Tp):Bool:=(t.a.toList==f.a.toList&&t.b.toList==f.b.toList&&t.r.toList==f.r.toList)&&(if t.s.toList.isEmpty then t.c.toList==f.c.toList&&t.d.toList==f.d.toList else bB known ⟨t.c,t.d,t.s,f.c,f.d⟩)
theorem JC{ts:Q05}{k:Nat}(h:k<ts.length)(known:Q04)(f:Fc):eQ (ts.drop k) known f=(AP known f ts[k] || eQ (ts.drop (k+1)) known f):=by
 unfold eQ;rw[VG h];rfl
def DD(known:Q04)(over name:ByteArray)(f:Fc)(t:Tp):Bool:=(t.a.toList==f.a.toList&&t.b.toList==f.b.toList&&t.r.toList==over.toList)&&bB known ⟨t.c,t.d,name,f.c,f.d⟩
theorem JD{ts:Q05}{k:Nat}(h:k<ts.length)(known:Q04)(over name:bW)(f:Fc):gp (ts.drop k) known over name f=(DD known over name f ts[k] || gp (ts.drop (k+1)) known over name f):=by
 unfold gp;rw[VG h];rfl
theorem nG{s:ByteArray}:(s.toList==[])=s.toList.isEmpty:=by cases s.toList<;>rfl
end Go.Proofs.YtajkkeikihhejaaGreat
namespace Go.Proofs.YtajkkeikihhejaaGreat.Ls
theorem lt_irrefl:∀x:List UInt8,Op.bytesLess x x=false
 | []=>rfl
 | a::x=>by simp[Op.bytesLess,lt_irrefl x]
theorem lt_trans:∀x y z:List UInt8,Op.bytesLess x y=true->Op.bytesLess y z=true->Op.bytesLess x z=true
 | [],_,[],h,k=>by cases ‹List UInt8› <;> simp [Op.bytesLess] at h k
 | [],_,_::_,_,_=>rfl
 | _::_,[],_,h,_=>by simp[Op.bytesLess]at h
 | _::_,_::_,[],_,k=>by simp[Op.bytesLess]at k
 | a::x,b::y,c::z,h,k=>by
  simp only[Op.bytesLess,Bool.or_eq_true,Vd,Vk,beq_iff_eq]at h k ⊢;rcases h with h|⟨h,h'⟩
  ·rcases k with k|⟨k,k'⟩
   ·exact .inl (UInt8.lt_trans h k)
   exact .inl (k ▸ h)
  rcases k with k|⟨k,k'⟩
  ·exact .inl (h ▸ k)
  exact .inr ⟨h.trans k,lt_trans x y z h' k'⟩
theorem lt_total:∀x y:List UInt8,x≠y->Op.bytesLess x y=true\/Op.bytesLess y x=true
 | [],[],h=>absurd rfl h
 | [],_::_,_=>.inl rfl
 | _::_,[],_=>.inr rfl
 | a::x,b::y,h=>by
  simp only[Op.bytesLess,Bool.or_eq_true,Vd,Vk,beq_iff_eq];by_cases e:a=b
  ·subst e;rcases lt_total x y (fun e=>h (by rw[e])) with k|k
   ·exact .inl (.inr ⟨rfl,k⟩)
   exact .inr (.inr ⟨rfl,k⟩)
  rcases Nat.lt_or_gt_of_ne (fun k=>e (UInt8.toNat_inj.1 k)) with k|k
  ·exact .inl (.inl k)
  exact .inr (.inl k)
end Go.Proofs.YtajkkeikihhejaaGreat.Ls
namespace Go.Proofs.YtajkkeikihhejaaGreat
set_option linter.unusedVariables false
section
variable  {α:Type}{lt:α->α->Bool}
def xK(lt:α->α->Bool)(r:α):List α->List α
 | []=>[r]
 | x::xs=>if lt x r then x::xK lt r xs else r::x::xs
def nH(lt:α->α->Bool)(rs:List α):List α:=rs.foldl (fun out r=>xK lt r out) []
theorem E8{r:α}:∀{xs:List α} {p:Nat},p<=xs.length->(∀(i:Nat) (h:i<xs.length),i<p->lt xs[i] r=true)->(∀h:p<xs.length,lt xs[p] r=false)->xK lt r xs=xs.take p++r::xs.drop p
 | [],p,hp,_,_=>by
  obtain rfl:p=0:=by simpa using hp
  rfl
 | x::xs,0,_,_,h2=>by
  have:=h2 (by simp);simp only[List.getElem_cons_zero]at this;simp[xK,this]
 | x::xs,p+1,hp,h1,h2=>by
  have h0:=h1 0 (by simp) (by omega);simp only[List.getElem_cons_zero]at h0;have ih:=E8 (r:=r) (xs:=xs) (p:=p) (by simpa using hp) (fun i h hi=>h1 (i+1) (by simpa using h) (by omega)) (fun h=>h2 (by simpa using h));simp[xK,h0,ih]
theorem DF(r:α):∀xs:List α,(xK lt r xs).Perm (r::xs)
 | []=>List.Perm.refl _
 | x::xs=>by
  unfold xK;split
  ·exact((DF r xs).cons x).trans (List.Perm.swap _ _ _)
  exact List.Perm.refl _
theorem AQ:∀(rs acc:List α),(rs.foldl (fun out r=>xK lt r out) acc).Perm (rs++acc)
 | [],acc=>List.Perm.refl _
 | r::rs,acc=>(AQ rs (xK lt r acc)).trans (((DF r acc).append_left rs).trans List.perm_middle)
theorem mP(rs:List α):(nH lt rs).Perm rs:=by simpa[nH] using AQ rs []
theorem JE(rs:List α)(r:α):nH lt (rs++[r])=xK lt r (nH lt rs):=by unfold nH;rw[List.foldl_append];rfl
structure OrdO(lt:α->α->Bool)(rs:List α):Prop where
 trans:∀x∈rs,∀y∈rs,∀z∈rs,lt x y=true->lt y z=true->lt x z=true
 asymm:∀x∈rs,∀y∈rs,lt x y=true->lt y x=false
 total:∀x∈rs,∀y∈rs,x≠y->lt x y=true\/lt y x=true
theorem OrdO.mono{rs qs:List α}(h:OrdO lt rs)(hs:∀x∈qs,x∈rs):OrdO lt qs :=
 ⟨fun x hx y hy z hz=>h.trans x (hs x hx) y (hs y hy) z (hs z hz),fun x hx y hy=>h.asymm x (hs x hx) y (hs y hy),fun x hx y hy=>h.total x (hs x hx) y (hs y hy)⟩
end
open Pl
def qj(es:Q09):List Int->Nat->Nat->Prop
 | [],a,b=>a=b
 | k::ks,a,b=>0<=k/\az es k.toNat=(a:Int)/\qj es ks (k.toNat+1) b
theorem AR{es:Q09}:∀(ks:List Int) (k:Int) (a m b:Nat),qj es ks a m->0<=k->az es k.toNat=(m:Int)->k.toNat+1=b->qj es (ks++[k]) a b
 | [],k,a,m,b,h,h0,h1,h2=>by
  have:a=m:=h;subst this;exact⟨h0,h1,h2⟩
 | x::ks,k,a,m,b,h,h0,h1,h2=>⟨h.1,h.2.1,AR ks k _ m b h.2.2 h0 h1 h2⟩
theorem GU{es:Q09}{n:Nat}:∀(rs:List Int) (b:Nat),b<=n->0<=dz (dD es n) rs ((b:Int)-1)->qj es rs.reverse (dz (dD es n) rs ((b:Int)-1)).toNat b
 | [],b,_,h=>by simp[dz,qj]
 | k::rs,b,hb,h=>by
  unfold dz at h⊢;split at h
  ·omega
  rename_i c;rw[if_neg c];split at h
  ·omega
  rename_i c2;rw[if_neg c2];have h0:0<=(b:Int)-1:=by omega
  have hk:k=(b:Int)-1:=by omega
  have hF:dD es n ((b:Int)-1)=az es ((b:Int)-1).toNat:=by unfold dD;rw[if_pos ⟨h0,by omega⟩]
  have hle:=fZ es ((b:Int)-1).toNat;rw[hF]at h c2 ⊢;obtain⟨m,hm⟩:∃m:Nat,az es ((b:Int)-1).toNat=(m:Int):=⟨(az es ((b:Int)-1).toNat).toNat,by omega⟩;rw[hm]at h hle ⊢;rw[List.reverse_cons];exact AR _ k _ m b (GU rs m (by omega) h) (by omega) (by rw[hk,hm]) (by omega)
theorem mQ{es:Q09}{n:Nat}(h:0<=az es n):qj es (di es n) (az es n).toNat n:=by
 rw[jq]at h ⊢;have:=GU (di es n).reverse n (Va _) h;rw[List.reverse_reverse]at this;exact this
theorem oC{es:Q09}:∀(ks:List Int) (a b:Nat),qj es ks a b->a<=b/\∀k∈ks,0<=k/\k.toNat<b
 | [],a,b,h=>⟨Nat.le_of_eq h,fun k hk=>by cases hk⟩
 | x::ks,a,b,h=>by
  obtain⟨h1,h2⟩:=oC ks _ b h.2.2;have:=fZ es x.toNat;have h3:=h.2.1;refine⟨by omega,fun k hk=>?_⟩;rcases Vq.1 hk with rfl|hk
  ·exact⟨h.1,by omega⟩
  exact h2 k hk
theorem AU{es:Q09}:∀(ks:List Int) (a b:Nat),qj es ks a b->(ks.length:Int)<=(b:Int)-a/\∀k∈ks,(k.toNat:Int)-az es k.toNat+(ks.length:Int)<=(b:Int)-a
 | [],a,b,h=>by
  have:a=b:=h;exact⟨by simp;omega,fun k hk=>by cases hk⟩
 | x::ks,a,b,h=>by
  obtain⟨h1,h2⟩:=AU ks _ b h.2.2;have h3:=fZ es x.toNat;have h4:=h.2.1;rw[VI];refine⟨by omega,fun k hk=>?_⟩;rcases Vq.1 hk with rfl|hk
  ·omega
  have:=h2 k hk;omega
theorem Ph{es:Q09}{n d:Nat}(ht:0<=az es n)(h2:2<=(di es n).length)(hd:(n:Int)-az es n+1<2*((d+1:Nat):Int)):∀k∈di es n,(k.toNat:Int)-az es k.toNat+1<2*(d:Int):=fun k hk=>by
 have h:=(AU _ _ _ (mQ ht)).2 k hk;omega
theorem Mv{es:Q09}(h:aN es=true):∀j,j<es.length->0<=az es j:=by
 rw[rR]at h;unfold kL at h;simp only[Vd,Vk]at h;have h1:=h.2.1;unfold jb at h1;rw[Vm]at h1;intro j hj;simpa using h1 j (by simpa using hj)
section
variable  {φ:Type}[DecidableEq φ]{rk:φ->Int}{H:List φ->φ->Bool}{qs:Nat->List φ}
def Lay(rk:φ->Int)(H:List φ->φ->Bool):Prop:=∀(a b:List φ) (f:φ),(∀g,rk g<rk f->(g∈a↔g∈b))->(∀g,rk g=rk f->g∈a->g∈b)->H a f=true->H b f=true
def vY(H:List φ->φ->Bool)(qs:Nat->List φ):Nat->List φ
 | 0=>[]
 | n+1=>kU H (qs n) (vY H qs n)
theorem vZ(q out:List φ):∃new,kU H q out=out++new/\∀g∈new,g∈q:=xG q _ out
theorem GV(hq:∀n,∀f∈qs n,rk f=(n:Int)):∀N,∀f∈vY H qs N,rk f<(N:Int)
 | 0,f,h=>by cases h
 | N+1,f,h=>by
  obtain⟨new,e,hn⟩:=vZ (H:=H) (qs N) (vY H qs N);rw[vY,e]at h;rcases Vn.1 h with h|h
  ·have:=GV hq N f h;omega
  have:=hq N f (hn f h);omega
theorem E9{n:Nat}{f:φ}(h:f∈vY H qs n):∀d,f∈vY H qs (n+d)
 | 0=>h
 | d+1=>by
  obtain⟨new,e,-⟩:=vZ (H:=H) (qs (n+d)) (vY H qs (n+d));show f∈kU H (qs (n+d)) (vY H qs (n+d));rw[e];exact VZ _ (E9 h d)
theorem AV(hq:∀n,∀f∈qs n,rk f=(n:Int)){n:Nat}{f:φ}(hr:rk f<(n:Int)):∀d,f∈vY H qs (n+d)->f∈vY H qs n
 | 0,h=>h
 | d+1,h=>by
  obtain⟨new,e,hn⟩:=vZ (H:=H) (qs (n+d)) (vY H qs (n+d));have h:f∈kU H (qs (n+d)) (vY H qs (n+d)):=h;rw[e]at h;rcases Vn.1 h with h|h
  ·exact AV hq hr d h
  have:=hq _ f (hn f h);omega
def Good(rk:φ->Int)(H:List φ->φ->Bool)(n:Int)(s:List φ):Prop:=∀g∈s,rk g=n->H s g=true
theorem good_step(hL:Lay rk H){n:Int}{s:List φ}{f:φ}(h:Good rk H n s)(hf:rk f=n):Good rk H n (dV H s f):=by
 unfold dV;split
 ·exact h
 rename_i hn;have hH:H s f=true:=by
  cases e:H s f;case true=>rfl
  exact absurd (.inr e) hn
 have low:∀g:φ,rk g=n->∀x,rk x<rk g->(x∈s↔x∈s++[f]):=fun g hg x hx=>by
  refine⟨fun h=>VZ _ h,fun h=>?_⟩;rcases Vn.1 h with h|h
  ·exact h
  rw[Vl]at h;rw[h]at hx;omega
 intro g hg hgn;rcases Vn.1 hg with hg|hg
 ·exact hL s _ g (low g hgn) (fun x _ hx=>VZ _ hx) (h g hg hgn)
 rw[Vl]at hg;subst hg;exact hL s _ g (low g hgn) (fun x _ hx=>VZ _ hx) hH
theorem GX(hL:Lay rk H){n:Int}:∀(q:List φ) {s:List φ},(∀f∈q,rk f=n)->Good rk H n s->Good rk H n (bZ H q s)
 | [],_,_,h=>h
 | f::q,s,hq,h=>GX hL q (fun g hg=>hq g (VQ _ hg)) (good_step hL h (hq f (VT ..)))
theorem DI(hL:Lay rk H){n:Int}(q:List φ)(hq:∀f∈q,rk f=n):∀(k:Nat) {s:List φ},Good rk H n s->Good rk H n (jQ H q k s)
 | 0,_,h=>h
 | k+1,s,h=>by
  unfold jQ;split
  ·exact h
  exact DI hL q hq k (GX hL q hq h)
theorem RG(hL:Lay rk H)(hq:∀n,∀f∈qs n,rk f=(n:Int))(n:Nat):Good rk H (n:Int) (vY H qs (n+1)):=by
 refine DI hL (qs n) (hq n) _ fun g hg hgn=>?_;have:=GV hq n g hg;omega
theorem Lh(hL:Lay rk H)(hq:∀n,∀f∈qs n,rk f=(n:Int)){n:Nat}{f:φ}(hf:rk f=(n:Int))(d:Nat):H (vY H qs (n+1)) f=true↔H (vY H qs (n+1+d)) f=true:=by
 have same:∀g,rk g<=(n:Int)->(g∈vY H qs (n+1)↔g∈vY H qs (n+1+d)):=fun g hg=>⟨fun h=>E9 h d,fun h=>AV hq (by omega) d h⟩;refine⟨hL _ _ f (fun g hg=>same g (by omega)) (fun g hg h=>(same g (by omega)).1 h),hL _ _ f (fun g hg=>(same g (by omega)).symm) (fun g hg h=>(same g (by omega)).2 h)⟩
theorem Li(hq:∀n,∀f∈qs n,rk f=(n:Int)):∀N,∀f∈vY H qs N,∃n,n<N/\f∈qs n
 | 0,f,h=>by cases h
 | N+1,f,h=>by
  obtain⟨new,e,hn⟩:=vZ (H:=H) (qs N) (vY H qs N);rw[vY,e]at h;rcases Vn.1 h with h|h
  ·obtain⟨n,h1,h2⟩:=Li hq N f h;exact⟨n,by omega,h2⟩
  exact⟨N,by omega,hn f h⟩
theorem Mw(hL:Lay rk H)(hq:∀n,∀f∈qs n,rk f=(n:Int)){N:Nat}{f:φ}(h:f∈vY H qs N):H (vY H qs N) f=true:=by
 obtain⟨n,hn,hf⟩:=Li hq N f h;have hr:=hq n f hf;obtain⟨d,rfl⟩:∃d,N=n+1+d:=⟨N-(n+1),by omega⟩;rw[<-Lh hL hq hr d];exact RG hL hq n f (AV hq (by omega) d h) hr
theorem Pi(hL:Lay rk H)(hq:∀n,∀f∈qs n,rk f=(n:Int)){N n:Nat}(hn:n<N){f:φ}(hf:f∈qs n)(h:H (vY H qs N) f=true):f∈vY H qs N:=by
 have hr:=hq n f hf;obtain⟨d,rfl⟩:∃d,N=n+1+d:=⟨N-(n+1),by omega⟩;rw[<-Lh hL hq hr d]at h;have hfix:=O4 (H:=H) (qs n) (vY H qs n);rcases (Cw.1 hfix) f hf with h1|h1
 ·exact E9 (show f∈vY H qs (n+1) from h1) d
 have h:H (kU H (qs n) (vY H qs n)) f=true:=h;rw[h1]at h;cases h
end
theorem AX{es:Q09}:∀(ks:List Int) (a b j:Nat),qj es ks a b->a<=j->j<b->∃k∈ks,az es k.toNat<=(j:Int)/\j<=k.toNat/\(a:Int)<=az es k.toNat
 | [],a,b,j,h,h1,h2=>by
  have:a=b:=h;omega
 | x::ks,a,b,j,h,h1,h2=>by
  obtain⟨h3,h4,h5⟩:=h;by_cases hj:j<=x.toNat
  ·exact⟨x,by simp,by omega,hj,by omega⟩
  obtain⟨k,hk,e1,e2,e3⟩:=AX ks _ b j h5 (by omega) h2;have:=fZ es x.toNat;exact⟨k,by simp[hk],e1,e2,by omega⟩
theorem AY{es:Q09}:∀(ks:List Int) (a b:Nat),qj es ks a b->∀k∈ks,a<=k.toNat
 | [],_,_,_,k,hk=>by cases hk
 | x::ks,a,b,h,k,hk=>by
  obtain⟨h3,h4,h5⟩:=h;have:=fZ es x.toNat;rcases Vq.1 hk with rfl|hk
  ·omega
  have:=AY ks _ b h5 k hk;omega
theorem qW{es:Q09}:∀(ks:List Int) (a b:Nat),qj es ks a b->∀(p:Nat) (hp:p<ks.length),qj es (ks.drop (p+1)) (ks[p].toNat+1) b/\0<=ks[p]
 | [],_,_,_,p,hp=>by simp at hp
 | x::ks,a,b,h,0,_=>⟨h.2.2,h.1⟩
 | x::ks,a,b,h,p+1,hp=>by
  have:=qW ks _ b h.2.2 p (by simpa using hp);simpa using this
theorem Mx{es:Q09}(ht:∀j,j<es.length->0<=az es j):∀(n:Nat),n<es.length->∀j:Nat,az es n<=(j:Int)->j<=n->az es n<=az es j:=by
 intro n
 induction n using Nat.strongRecOn with
 | _ n ih =>
  intro hn j h1 h2;by_cases e:j=n
  ·rw[e];exact Int.le_refl _
  have hc:=mQ (ht n hn);obtain⟨k,hk,e1,e2,e3⟩:=AX _ _ _ j hc (by have:=ht n hn;omega) (by omega);have hlt:=(oC _ _ _ hc).2 k hk;have:=ih k.toNat hlt.2 (by omega) j e1 e2;have:=ht n hn;omega
theorem JF{es:Q09}(ht:∀j,j<es.length->0<=az es j){i j:Nat}(hi:i<es.length)(hj:j<i){x y:Int}(hx:x∈di es i)(hy:y∈di es j):x.toNat≠y.toNat:=by
 intro e;have ci:=mQ (ht i hi);have cj:=mQ (ht j (by omega));obtain⟨p,hp,rfl⟩:=VV hx;obtain⟨h1,h2⟩:=qW _ _ _ ci p hp;have hyj:=(oC _ _ _ cj).2 y hy;have hyg:=AY _ _ _ cj y hy;obtain⟨k,hk,e1,e2,e3⟩:=AX _ _ _ j h1 (by omega) hj;have hk2:=(oC _ _ _ ci).2 k (List.mem_of_mem_drop hk);have:=Mx ht k.toNat (by omega) j e1 e2;have:=ht j (by omega);omega
theorem JG{es:Q09}{i:Nat}(h:0<=az es i)(p q:Nat)(hp:p<(di es i).length)(hq:q<(di es i).length)(hpq:p<q):(di es i)[p].toNat<(di es i)[q].toNat:=by
 have h1:=(qW _ _ _ (mQ h) p hp).1;refine AY _ _ _ h1 _ ?_;rw[List.mem_drop_iff_getElem];exact⟨q-(p+1),by omega,by congr 1;omega⟩
theorem kI(i:Nat)(kind:Int):∀(xs:List Int) (k:Nat) (out:List Bool) (z:Nat),(∀x∈xs,x.toNat≠z)->(bF i kind xs k out).getD z false=out.getD z false
 | [],_,_,_,_=>rfl
 | x::xs,k,out,z,h=>by
  rw[bF,kI i kind xs (k+1) _ z fun y hy=>h y (VQ _ hy)];simp only[VH,List.getElem?_set_ne (h x (VT ..))]
theorem AZ(i:Nat)(kind:Int):∀(xs:List Int) (k:Nat) (out:List Bool),(∀(p q:Nat) (hp:p<xs.length) (hq:q<xs.length),p<q->xs[p].toNat≠xs[q].toNat)->(∀x∈xs,x.toNat≠i)->(∀x∈xs,x.toNat<out.length)->∀(p:Nat) (hp:p<xs.length),(bF i kind xs k out).getD xs[p].toNat false=(out.getD i false || (kind==6&&(k+p)==1))
 | [],_,_,_,_,_,p,hp=>by simp at hp
 | x::xs,k,out,hd,hi,hl,p,hp=>by
  have hxi:=hi x (VT ..);have hxl:=hl x (VT ..);have hgi:(out.set x.toNat (out.getD i false || (kind==6&&k==1))).getD i false=out.getD i false:=by
   rw[VH,VH,List.getElem?_set_ne hxi]
  rw[bF];cases p with
  | zero =>
   rw[List.getElem_cons_zero,kI i kind xs (k+1) _ x.toNat fun y hy=>?_]
   ·rw[VH,List.getElem?_set_self hxl];rfl
   obtain⟨q,hq,rfl⟩:=VV hy;exact(hd 0 (q+1) (by simp) (by simpa using hq) (by omega)).symm
  | succ p =>
   have:=AZ i kind xs (k+1) (out.set x.toNat (out.getD i false || (kind==6&&k==1))) (fun a b ha hb hab=>hd (a+1) (b+1) (by simpa using ha) (by simpa using hb) (by omega)) (fun y hy=>hi y (VQ _ hy)) (fun y hy=>by rw[List.length_set];exact hl y (VQ _ hy)) p (by simpa using hp);rw[List.getElem_cons_succ,this,hgi,show k+1+p=k+(p+1) by omega]
theorem pF(es:Q09):∀(m:Nat) (out:List Bool) (z:Nat),(∀j,j<m->∀x∈di es j,x.toNat≠z)->(dW es m out).getD z false=out.getD z false
 | 0,_,_,_=>rfl
 | m+1,out,z,h=>by
  rw[dW,pF es m _ z fun j hj=>h j (by omega)];cases e:es[m]? with
  | none=>rfl
  | some x=>exact kI m x.kind x.kids 0 out z fun y hy=>h m (by omega) y (by unfold di;rw[e];exact hy)
theorem wh(es:Q09)(i:Nat):∀(d:Nat) (out:List Bool),∃out':List Bool,out'.length=out.length/\dW es (i+d) out=dW es i out'
 | 0,out=>⟨out,rfl,rfl⟩
 | d+1,out=>by
  obtain⟨o',h1,h2⟩:=wh es i d (match es[i+d]? with|none=>out|some e=>bF (i+d) e.kind e.kids 0 out);refine⟨o',?_,h2⟩;rw[h1];cases es[i+d]? with
  | none=>rfl
  | some e=>exact yo _ _ _ _ _
theorem Lj{es:Q09}(ht:∀j,j<es.length->0<=az es j){i:Nat}(hi:i<es.length)(p:Nat)(hp:p<es[i].kids.length):(dC es).getD es[i].kids[p].toNat false=((dC es).getD i false || (es[i].kind==6&&p==1)):=by
 have hk:di es i=es[i].kids:=by unfold di;rw[Vg hi];rfl
 have hlow:∀j,j<es.length->∀x∈di es j,x.toNat<j:=fun j hj x hx=>((oC _ _ _ (mQ (ht j hj))).2 x hx).2;obtain⟨o',h1,h2⟩:=wh es (i+1) (es.length-(i+1)) (List.replicate es.length false);rw[show i+1+(es.length-(i+1))=es.length by omega]at h2;have hN:dC es=dW es i (bF i es[i].kind es[i].kids 0 o'):=by
  unfold dC;rw[h2,dW,Vg hi]
 have hmem:es[i].kids[p]∈di es i:=by rw[hk];exact U8 hp
 have hA:(dC es).getD es[i].kids[p].toNat false=(bF i es[i].kind es[i].kids 0 o').getD es[i].kids[p].toNat false:=by
  rw[hN];exact pF es i _ _ fun j hj x hx e=>JF ht hi hj hmem hx e.symm
 have hB:(dC es).getD i false=o'.getD i false:=by
  rw[hN,pF es i _ i fun j hj x hx=>by have:=hlow j (by omega) x hx;omega];exact kI i _ _ 0 o' i fun x hx=>by have:=hlow i hi x (by rw[hk];exact hx);omega
 rw [hA,hB,AZ i es[i].kind es[i].kids 0 o' (fun a b ha hb hab=>by
   have:=JG (ht i hi) a b (by rw[hk];exact ha) (by rw[hk];exact hb) hab;simp only[hk]at this;omega) (fun x hx=>by have:=hlow i hi x (by rw[hk];exact hx);omega) (fun x hx=>by have:=hlow i hi x (by rw[hk];exact hx);rw[h1];simp;omega) p hp,VC]
def zb(es:Q09)(i:Nat):Int:=if (dC es).getD i false then 1 else 0
structure NodeR(l:Q05)(rk:Fc->Int)(es:Q09)(f:Fc):Prop where
 ht:∀j,j<es.length->0<=az es j
 q1:∀i (hi:i<es.length),es[i].kind=1->∀t∈l,(t.a.toList==f.a.toList&&t.b.toList==f.b.toList&&t.r.toList==f.r.toList)=true->t.s.toList.isEmpty=false->rk ⟨t.c,t.d,t.s,f.c,f.d⟩+zb es i<=rk f
 q2:∀i (hi:i<es.length),es[i].kind=2->rk ⟨f.a,f.b,es[i].name,f.c,f.d⟩+zb es i<=rk f
 q3:∀i (hi:i<es.length),es[i].kind=3->∀t∈l,(t.a.toList==f.a.toList&&t.b.toList==f.b.toList&&t.r.toList==es[i].over.toList)=true->rk ⟨t.c,t.d,es[i].name,f.c,f.d⟩+zb es i<=rk f
 k6:∀i (hi:i<es.length),es[i].kind=6->es[i].kids.length=2
section
variable  {l:Q05}{rk:Fc->Int}{es:Q09}{f:Fc}
def DJ(rk:Fc->Int)(r:Int)(a b:Q04):Prop:=∀g:Fc,rk g<r->(g∈a↔g∈b)
def Tc(rk:Fc->Int)(r:Int)(a b:Q04):Prop:=∀g:Fc,rk g<=r->g∈a->g∈b
theorem uC{a b:Q04}{r:Int}(h:DJ rk r a b){g:Fc}(hg:rk g<r):bB a g=bB b g:=by
 rw[Vu,bP,bP];exact h g hg
theorem uD{a b:Q04}{r:Int}(h:Tc rk r a b){g:Fc}(hg:rk g<=r)(hh:bB a g=true):bB b g=true:=bP.2 (h g hg (bP.1 hh))
theorem Fa{α:Type}{p q:α->Bool}{xs:List α}(h:∀x∈xs,p x=q x):xs.any p=xs.any q:=by
 rw[Vu,VF,VF];exact⟨fun⟨x,hx,e⟩=>⟨x,hx,by rw[<-h x hx];exact e⟩,fun⟨x,hx,e⟩=>⟨x,hx,by rw[h x hx];exact e⟩⟩
theorem RH{α:Type}{p q:α->Bool}{xs:List α}(h:∀x∈xs,p x=q x):xs.all p=xs.all q:=by
 rw[Vu,Vm,Vm];exact⟨fun e x hx=>by rw[<-h x hx];exact e x hx,fun e x hx=>by rw[h x hx];exact e x hx⟩
theorem NodeR.kid(h:NodeR l rk es f){i:Nat}(hi:i<es.length){p:Nat}(hp:p<es[i].kids.length):es[i].kids[p].toNat<es.length:=by
 have hk:di es i=es[i].kids:=by unfold di;rw[Vg hi];rfl
 have:=((oC _ _ _ (mQ (h.ht i hi))).2 es[i].kids[p] (by rw[hk];exact U8 hp)).2;omega
theorem NodeR.same(h:NodeR l rk es f){ta tb:Q04}(hT:DJ rk (rk f) ta tb):∀(k:Nat) (a b:Q04) (i:Nat),DJ rk (rk f) a b->i<es.length->(dC es).getD i false=true->dh l es ta f k a i=dh l es tb f k b i
 | 0,_,_,_,_,_,_=>rfl
 | k+1,a,b,i,hS,hi,hg=>by
  have hng:zb es i=1:=by unfold zb;rw[hg];rfl
  have Xg:∀x∈es[i].kids,∀a b,DJ rk (rk f) a b->dh l es ta f k a x.toNat=dh l es tb f k b x.toNat:=fun x hx a b hS=>by
   obtain⟨p,hp,rfl⟩:=VV hx;exact h.same hT k a b _ hS (h.kid hi hp) (by rw[Lj h.ht hi p hp,hg];rfl)
  unfold dh;rw[Vg hi];simp only;by_cases e1:es[i].kind=1
  ·rw[if_pos e1,if_pos e1];refine Fa fun t ht=>?_;cases hm:(t.a.toList==f.a.toList&&t.b.toList==f.b.toList&&t.r.toList==f.r.toList);case false=>rfl
   cases hs:t.s.toList.isEmpty;case true=>rfl
   have:=h.q1 i hi e1 t ht hm hs;simp only[Bool.false_eq_true,if_false];rw[uC hS (g:=⟨t.c,t.d,t.s,f.c,f.d⟩) (by omega)]
  rw[if_neg e1,if_neg e1];by_cases e2:es[i].kind=2
  ·rw[if_pos e2,if_pos e2];have:=h.q2 i hi e2;exact uC hS (by omega)
  rw[if_neg e2,if_neg e2];by_cases e3:es[i].kind=3
  ·rw[if_pos e3,if_pos e3];refine Fa fun t ht=>?_;cases hm:(t.a.toList==f.a.toList&&t.b.toList==f.b.toList&&t.r.toList==es[i].over.toList);case false=>rfl
   have:=h.q3 i hi e3 t ht hm;rw[uC hS (g:=⟨t.c,t.d,es[i].name,f.c,f.d⟩) (by omega)]
  rw[if_neg e3,if_neg e3];by_cases e4:es[i].kind=4
  ·rw[if_pos e4,if_pos e4];exact Fa fun x hx=>Xg x hx a b hS
  rw[if_neg e4,if_neg e4];by_cases e5:es[i].kind=5
  ·rw[if_pos e5,if_pos e5];exact RH fun x hx=>Xg x hx a b hS
  rw[if_neg e5,if_neg e5];by_cases e6:es[i].kind=6
  ·rw[if_pos e6,if_pos e6];have hl:=h.k6 i hi e6;have hx:∀q,q<2->es[i].kids.getD q 0∈es[i].kids:=fun q hq=>by
    rw[VH,Vg (by omega)];exact U8 _
   rw[Xg _ (hx 0 (by omega)) a b hS,Xg _ (hx 1 (by omega)) ta tb hT]
  rw[if_neg e6,if_neg e6]
theorem NodeR.more(h:NodeR l rk es f){ta tb:Q04}(hT:DJ rk (rk f) ta tb):∀(k:Nat) (a b:Q04) (i:Nat),DJ rk (rk f) a b->Tc rk (rk f) a b->i<es.length->dh l es ta f k a i=true->dh l es tb f k b i=true
 | 0,_,_,_,_,_,_,hh=>by cases hh
 | k+1,a,b,i,hS,hM,hi,hh=>by
  have hng:0<=zb es i:=by unfold zb;split<;>omega
  have Xg:∀x∈es[i].kids,dh l es ta f k a x.toNat=true->dh l es tb f k b x.toNat=true:=fun x hx=>by
   obtain⟨p,hp,rfl⟩:=VV hx;exact h.more hT k a b _ hS hM (h.kid hi hp)
  unfold dh at hh⊢;rw[Vg hi]at hh⊢;simp only at hh⊢;by_cases e1:es[i].kind=1
  ·rw[if_pos e1]at hh ⊢;obtain⟨t,ht,e⟩:=VF.1 hh;refine VF.2 ⟨t,ht,?_⟩;rw[Vd]at e ⊢;refine⟨e.1,?_⟩;cases hs:t.s.toList.isEmpty;case true=>have:=e.2;rw[hs]at this;exact this
   have h2:=e.2;rw[hs]at h2;simp only[Bool.false_eq_true,if_false]at h2 ⊢;have:=h.q1 i hi e1 t ht e.1 hs;exact uD hM (by omega) h2
  rw[if_neg e1]at hh ⊢;by_cases e2:es[i].kind=2
  ·rw[if_pos e2]at hh ⊢;have:=h.q2 i hi e2;exact uD hM (by omega) hh
  rw[if_neg e2]at hh ⊢;by_cases e3:es[i].kind=3
  ·rw[if_pos e3]at hh ⊢;obtain⟨t,ht,e⟩:=VF.1 hh;refine VF.2 ⟨t,ht,?_⟩;rw[Vd]at e ⊢;have:=h.q3 i hi e3 t ht e.1;exact⟨e.1,uD hM (by omega) e.2⟩
  rw[if_neg e3]at hh ⊢;by_cases e4:es[i].kind=4
  ·rw[if_pos e4]at hh ⊢;obtain⟨x,hx,e⟩:=VF.1 hh;exact VF.2 ⟨x,hx,Xg x hx e⟩
  rw[if_neg e4]at hh ⊢;by_cases e5:es[i].kind=5
  ·rw[if_pos e5]at hh ⊢;exact Vm.2 fun x hx=>Xg x hx (Vm.1 hh x hx)
  rw[if_neg e5]at hh ⊢;by_cases e6:es[i].kind=6
  ·rw[if_pos e6]at hh ⊢;have hl:=h.k6 i hi e6;have hx:∀q (hq:q<2),es[i].kids.getD q 0=es[i].kids[q]'(by omega):=fun q hq=>by
    rw[VH,Vg (by omega)];rfl
   rw[Vd]at hh ⊢;refine⟨?_,?_⟩
   ·have h0:=hh.1;rw[hx 0 (by omega)]at h0 ⊢;exact Xg _ (U8 _) h0
   have h1:=hh.2;rw[hx 1 (by omega)]at h1 ⊢;have hf:(dC es).getD (es[i].kids[1]'(by omega)).toNat false=true:=by
    rw[Lj h.ht hi 1 (by omega),e6];simp
   rw[<-h.same hT k ta tb _ hT (h.kid hi (by omega)) hf];exact h1
  rw[if_neg e6]at hh;cases hh
end
theorem MB{ts:Q0b}{l:Q05}{rk:Fc->Int}(hn:∀f:Fc,aB ts f.a f.r≠[]->NodeR l rk (aB ts f.a f.r) f):Lay rk (fU ts l):=fun a b f h1 h2 hh=>by
 by_cases he:aB ts f.a f.r=[]
 ·unfold fU at hh;rw[he]at hh;cases hh
 have hpos:(aB ts f.a f.r).length-1<(aB ts f.a f.r).length:=by
  have:(aB ts f.a f.r).length≠0:=fun e=>he (Vr.1 e);omega
 refine(hn f he).more h1 _ a b _ h1 (fun g hg hm=>?_) hpos hh;by_cases e:rk g=rk f
 ·exact h2 g e hm
 exact(h1 g (by omega)).1 hm
def Rc(ts:Q0b)(st:Q00)(g:Fc):Int:=if hasB ts g.a g.r then st (g.a,g.r) else -1
def Pj(ts:Q0b)(t:Tp):Bool:=(aB ts t.a t.r).any fun e=>decide (e.kind=1)&&dK e.allow e.allow.length ⟨t.c,t.s⟩
theorem GY{ts:Q0b}{a r:ByteArray}:hasB ts a r=true↔aB ts a r≠[]:=by
 unfold hasB;cases aB ts a r<;>simp
theorem A7{ts:Q0b}{typ:ByteArray}{es:Q09}{i:Nat}{d:Dp}(h:d∈iD ts typ es i):∀k,i<k->d∈aS ts typ es k
 | 0,hi=>absurd hi (V5 _)
 | k+1,hi=>by
  unfold aS;by_cases e:i=k
  ·subst e;exact List.mem_append_right _ h
  exact VZ _ (A7 h k (by omega))
theorem A8{ng:Bool}{a:Al}:∀{xs:Q0a},a∈xs->a.s.toList.isEmpty=false->(⟨a.t,a.s,ng⟩:Dp)∈dw ng xs
 | [],h,_=>by cases h
 | x::xs,h,hs=>by
  unfold dw;rcases Vq.1 h with rfl|h
  ·rw[if_neg (by rw[hs];decide)];exact VT ..
  split
  ·exact A8 h hs
  exact VQ _ (A8 h hs)
theorem Pk{ts:Q0b}{rel:ByteArray}{a:Al}:∀{xs:Q0a},a∈xs->hasB ts a.t rel=true->a.t∈gl ts rel xs
 | [],h,_=>by cases h
 | x::xs,h,hs=>by
  unfold gl;rcases Vq.1 h with rfl|h
  ·rw[if_neg (by unfold hasB at hs;simpa using hs)];exact VT ..
  split
  ·exact Pk h hs
  exact VQ _ (Pk h hs)
theorem DK{xs:Q0a}{c s:ByteArray}(h:dK xs xs.length ⟨c,s⟩=true):(⟨c,s⟩:Al)∈xs:=by
 unfold dK at h;rw[Vs]at h;obtain⟨a,ha,e⟩:=VF.1 h;unfold ko at e;rw[Vd,beq_iff_eq,beq_iff_eq]at e;have:a=⟨c,s⟩:=by
  cases a;simp only at e;rw[gQ e.1,gQ e.2]
 rw[<-this];exact ha
theorem RI{es:Q09}(h:own es<=1){i j:Nat}(hi:i<es.length)(hj:j<es.length)(ki:es[i].kind=1)(kj:es[j].kind=1):i=j:=by
 have key:∀(es:Q09) (i j:Nat) (hi:i<es.length) (hj:j<es.length),es[i].kind=1->es[j].kind=1->i<j->2<=own es:=by
  intro es
  induction es with
  | nil=>intro i j hi;simp at hi
  | cons e es ih =>
   intro i j hi hj ki kj hij;unfold own;rw[Wm];cases j with
   | zero=>omega
   | succ j =>
    have kj':(es[j]'(by simpa using hj)).kind=1:=by simpa using kj
    cases i with
    | zero =>
     have ki':e.kind=1:=by simpa using ki
     have:0<(es.filter fun e=>decide (e.kind=1)).length:=List.length_pos_of_mem (a:=es[j]'(by simpa using hj)) (V6.2 ⟨U8 _,by simpa using kj'⟩);simp[ki'];omega
    | succ i =>
     have:=ih i j (by simpa using hi) (by simpa using hj) (by simpa using ki) kj' (by omega);unfold own at this;split
     ·simp;omega
     exact this
 rcases Nat.lt_trichotomy i j with h1|h1|h1
 ·have:=key es i j hi hj ki kj h1;omega
 ·exact h1
 have:=key es j i hj hi kj ki h1;omega
theorem Pm{ts:Q0b}{l:Q05}{st:Q00}(hS:Sol ts st)(hsh:bq ts=true)(hrf:iP ts=true)(hfit:∀t∈l,Pj ts t=true){f:Fc}(hf:aB ts f.a f.r≠[]):NodeR l (Rc ts st) (aB ts f.a f.r) f:=by
 obtain⟨es,hes⟩:∃es,es=aB ts f.a f.r:=⟨_,rfl⟩;have hp:eD ts f.a f.r=some es:=by
  rw[hes];cases e:eD ts f.a f.r with
  | none=>unfold aB at hf;rw[e]at hf;exact absurd rfl hf
  | some x=>unfold aB;rw[e];rfl
 obtain⟨t0,ht0,r0,hr0,en,er,ee⟩:=qM hp;have hspec:=(AA hsh ht0 hr0).2;rw[ee]at hspec;have hk:(f.a,f.r)∈au ts:=by
  unfold au jN;exact Vp.2 ⟨t0,ht0,Vo.2 ⟨r0,hr0,by rw[en,er]⟩⟩
 have hrk:Rc ts st f=st (f.a,f.r):=by unfold Rc;rw[if_pos (GY.2 hf)]
 have hup:∀i,i<es.length->∀d∈iD ts f.a es i,st (d.typ,d.rel)+stepOf d<=st (f.a,f.r):=fun i hi d hd=>hS.up _ hk d (by show d∈qh ts f.a (aB ts f.a f.r);rw[<-hes];exact A7 hd _ hi);have hpos:=hS.pos (f.a,f.r);have hng:∀i,0<=zb es i/\zb es i<=1:=fun i=>by unfold zb;split<;>omega
 -- whatever a node asks by a name that it leans on
 have ask:∀i (hi:i<es.length) (g:Fc),(hasB ts g.a g.r=true->(⟨g.a,g.r,(dC es).getD i false⟩:Dp)∈iD ts f.a es i)->Rc ts st g+zb es i<=Rc ts st f:=fun i hi g h=>by
  rw[hrk];have h1:=hng i;unfold Rc;split
  ·rename_i hb;have h2:=hup i hi _ (h hb);unfold stepOf at h2;unfold zb;exact h2
  omega
 rw[<-hes];have hdA:∀i (hi:i<es.length),iD ts f.a es i=dw ((dC es).getD i false) es[i].allow++lw ts f.a ((dC es).getD i false) es[i]:=fun i hi=>by unfold iD;rw[Vg hi]
 have hspec2:=hspec;unfold aN at hspec2;simp only[Vd,Vk]at hspec2;obtain⟨⟨⟨⟨⟨-,-⟩,hnb⟩,hku⟩,hown⟩,htr⟩:=hspec2;refine⟨fun j hj=>?_,fun i hi k1 t ht hm hs=>?_,fun i hi k2=>?_,fun i hi k3 t ht hm=>?_,fun i hi k6=>?_⟩
 ·exact nP es (es.length-1) (by rw[htr];exact Int.le_refl _) j (by rw[htr];omega) (by omega)
 ·refine ask i hi _ fun hb=>?_;rw[Vd,Vd,beq_iff_eq,beq_iff_eq,beq_iff_eq]at hm;have h1:=hfit t ht;unfold Pj at h1;rw[gQ hm.1.1,gQ hm.2,<-hes]at h1;obtain⟨e,he,h2⟩:=VF.1 h1;rw[Vd,Vk]at h2;obtain⟨j,hj,rfl⟩:=VV he;have:=RI hown hi hj k1 h2.1;subst this;rw[hdA i hi];exact VZ _ (A8 (DK h2.2) hs)
 ·refine ask i hi _ fun hb=>?_;rw[hdA i hi];refine List.mem_append_right _ ?_;unfold lw;rw[if_pos k2];exact Vl.2 rfl
 ·refine ask i hi _ fun hb=>?_;rw[Vd,Vd,beq_iff_eq,beq_iff_eq,beq_iff_eq]at hm;have hrn:=(Rt hrf ht0 hr0 (e:=es[i]) (by rw[ee];exact U8 hi)).2;unfold lT at hrn;rw[if_neg (by rw[k3];decide),if_pos k3]at hrn;simp only[Vd]at hrn;have ZG:=hrn.1;rw[en]at ZG;have h1:=hfit t ht;unfold Pj at h1;rw[gQ hm.1.1,gQ hm.2]at h1;have hmem:(⟨t.c,t.s⟩:Al)∈aY (aB ts f.a es[i].over):=by
   rcases hre:aB ts f.a es[i].over with _|⟨e,_|⟨e2,rest⟩⟩
   ·rw[hre]at ZG;simp[bH]at ZG
   ·rw[hre]at ZG h1;simp only[bH,Vd,Vk]at ZG;obtain⟨e',he',h2⟩:=VF.1 h1;rw[Vl]at he';subst he';rw[Vd]at h2;simp only[aY,if_pos ZG.1];exact DK h2.2
   rw[hre]at ZG;simp[bH]at ZG
  rw[hdA i hi];refine List.mem_append_right _ ?_;unfold lw;rw[if_neg (by rw[k3];decide),if_pos k3];exact Vo.2 ⟨t.c,Pk (a:=⟨t.c,t.s⟩) hmem hb,rfl⟩
 have h:=Vm.1 hnb _ (U8 hi);unfold ay at h;simp[k6]at h;exact h.1.1.1
theorem Fb{ts:Q0b}{l:Q05}{st:Q00}(hS:Sol ts st)(hsh:bq ts=true)(hrf:iP ts=true)(hfit:∀t∈l,Pj ts t=true):Lay (Rc ts st) (fU ts l):=MB fun f hf=>Pm hS hsh hrf hfit hf
theorem JH{ts:Q0b}{st:Q00}{xo xu:Q0a}{n:Int}(hen:∀k∈au ts,hasB ts k.1 k.2=true){f:Fc}(h:f∈cZ ts st xo xu n):Rc ts st f=n:=by
 unfold cZ vQ jl AC at h;obtain⟨o,-,h⟩:=Vp.1 h;obtain⟨k,hk,h⟩:=Vp.1 h;obtain⟨u,-,rfl⟩:=Vo.1 h;obtain⟨hk1,hk2⟩:=V6.1 hk;rw[Vd,beq_iff_eq,Vk]at hk2;have e1:k.1=o.t:=gQ hk2.1;have hb:hasB ts o.t k.2=true:=by
  rw[<-e1];exact hen k hk1
 unfold Rc;rw[if_pos hb];show st (o.t,k.2)=n;rw[<-e1];exact hk2.2
end Go.Proofs.YtajkkeikihhejaaGreat
