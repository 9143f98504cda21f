/- Contracts of the drawing's reader: its next byte, a number below another one. What it answers is left open but for its bounds. -/
import Derived.Test.YtojjoblnpldniaaGreatSq
import Derived.ChangeSlices
import Derived.Deep.Slices
import Derived.Test.YtojjoblnpldniaaGreatJ6
import Derived.Test.YtojjoblnpldniaaGreatJ4
import Derived.RangeFuncNested
open Go.Proofs.Tryz
set_option maxHeartbeats 80000000
namespace Go.Proofs.YtojjoblnpldniaaGreat
open ChangeShapes WideShapes ChangeAt RowKit
open Pl
structure Rd(w:World)(R:Nat)(ad:Q02)(len cap:Nat):Prop where
 lt:R<w.heap.size
 code:w.cell? ⟨R,0,none⟩=some (.slice ad len cap)
 place:∃p:Nat,w.cell? ⟨R,1,none⟩=some (.int .i64 p)/\p<=len
 free:w.frozen? ⟨R,1,none⟩=false
 bytes:0<len->∃b off,ad=some ⟨b,off,none⟩/\b≠R/\b<w.heap.size/\∀i,i<len->∃c:Int,0<=c/\c<=255/\w.cell? ⟨b,off+i,none⟩=some (.int .u8 c)
 small:len<=maxLen
theorem Rd.below{w w':af}{R:Nat}{ad:Q02}{len cap:Nat}(h:Rd w R ad len cap)(hb:ag w w'):Rd w' R ad len cap where
 lt:=Vt h.lt hb.size
 code:=by rw[hb.cell (p:=⟨R,0,none⟩) h.lt];exact h.code
 place:=by obtain⟨p,hp,hl⟩:=h.place;exact⟨p,by rw[hb.cell (p:=⟨R,1,none⟩) h.lt];exact hp,hl⟩
 free:=by rw[hb.frozen (p:=⟨R,1,none⟩) h.lt];exact h.free
 bytes h0:=by
  obtain⟨b,off,e,hne,hbl,hc⟩:=h.bytes h0;refine⟨b,off,e,hne,Vt hbl hb.size,fun i hi=>?_⟩;obtain⟨c,c0,c1,hcc⟩:=hc i hi;exact⟨c,c0,c1,by rw[hb.cell (p:=⟨b,off+i,none⟩) hbl];exact hcc⟩
 small:=h.small
theorem Rd.step{w:af}{R p:Nat}{ad:Q02}{len cap:Nat}(h:Rd w R ad len cap)(hp:p+1<=len):Rd (w.setCell ⟨R,1,none⟩ (.int .i64 ((p:Int)+1))) R ad len cap where
 lt:=by simpa using h.lt
 code:=by
  rw[show(w.setCell ⟨R,1,none⟩ (.int .i64 ((p:Int)+1))).cell? ⟨R,0,none⟩=w.cell? ⟨R,0,none⟩ from by apply World.cell?_setCell_other;intro e;cases e];exact h.code
 place:=by
  obtain⟨q,hq,-⟩:=h.place;exact⟨p+1,by rw[show(w.setCell ⟨R,1,none⟩ (.int .i64 ((p:Int)+1))).cell? ⟨R,1,none⟩=some (.int .i64 ((p:Int)+1)) from by apply World.cell?_setCell_same;exact hq];simp,hp⟩
 free:=by simpa using h.free
 bytes h0:=by
  obtain⟨b,off,e,hne,hbl,hc⟩:=h.bytes h0;refine⟨b,off,e,hne,by simpa using hbl,fun i hi=>?_⟩;obtain⟨c,c0,c1,hcc⟩:=hc i hi;refine⟨c,c0,c1,?_⟩;rw[show(w.setCell ⟨R,1,none⟩ (.int .i64 ((p:Int)+1))).cell? ⟨b,off+i,none⟩=w.cell? ⟨b,off+i,none⟩ from by apply World.cell?_setCell_other;intro e;exact hne (congrArg Addr.block e).symm];exact hcc
 small:=h.small
def Only(R:Nat)(w w':World):Prop:=w.grownBy w' (some R)
theorem Only.refl(R:Nat)(w:af):Only R w w:=⟨rfl,rfl,rfl,Vu _,fun _ _ _=>rfl⟩
theorem Only.trans{R:Nat}{a b c:af}(h:Only R a b)(k:Only R b c):Only R a c :=
 ⟨k.os.trans h.os,k.tape.trans h.tape,k.output.trans h.output,Vz h.size k.size,fun i hi hr=>(k.block i (Vt hi h.size) hr).trans (h.block i hi hr)⟩
theorem Only.drewN{R:Nat}{a b:af}(h:Only R a b)(n:Nat):Only R a (b.drewN n):=⟨h.os,h.tape,h.output,h.size,h.block⟩
theorem Only.set{R:Nat}{a b:af}(h:Only R a b)(o:Nat)(v:Value):Only R a (b.setCell ⟨R,o,none⟩ v) :=
 ⟨h.os,h.tape,h.output,by simpa using h.size,fun i hi hr=>(Below.heap_setCell b ⟨R,o,none⟩ v i (fun e=>hr (by rw[e]))).trans (h.block i hi hr)⟩
theorem Only.below{R:Nat}{a b c:af}(h:Only R a b)(k:ag b c):Only R a c :=
 ⟨k.os.trans h.os,k.tape.trans h.tape,k.output.trans h.output,Vz h.size k.size,fun i hi hr=>(k.block i (Vt hi h.size)).trans (h.block i hi hr)⟩
theorem Only.of_below{R:Nat}{b c:af}(k:ag b c):Only R b c:=(Only.refl R b).below k
theorem Only.cell{R:Nat}{w w':af}(h:Only R w w'){b o:Nat}(hb:b<w.heap.size)(hne:b≠R):w'.cell? ⟨b,o,none⟩=w.cell? ⟨b,o,none⟩ :=
 VN (w:=w) (h.block b hb (fun e=>hne (by injection e)))
theorem Only.frozen{R:Nat}{w w':af}(h:Only R w w'){b o:Nat}(hb:b<w.heap.size)(hne:b≠R):w'.frozen? ⟨b,o,none⟩=w.frozen? ⟨b,o,none⟩ :=
 World.frozen?_of_block (w:=w) (h.block b hb (fun e=>hne (by injection e)))
theorem Only.toBelow{R B:Nat}{a w w':af}(h:Below B a w)(k:Only R w w')(hB:B<=w.heap.size)(hR:B<=R):Below B a w' :=
 h.grown k hB (fun i hi=>by injection hi with e;omega)
theorem Gx(R:Nat)(ad:Q02)(len cap:Nat)(w:af)(h:Rd w R ad len cap):
  Calls prog 170 #[.pointer (some ⟨R,0,none⟩)] w fun e w'=>(∃x:Int,e=.returned (.int .i64 x)/\0<=x/\x<=255)/\Rd w' R ad len cap/\Only R w w':=by
 obtain⟨p,hp,hpl⟩:=h.place;have hc:=h.code;have hsm:=h.small;unfold maxLen at hsm;have H:=az h;by_cases hlt:p<len
 ·obtain⟨b,off,rfl,hne,hbl,hbytes⟩:=h.bytes (by omega);obtain⟨c,c0,c1,hcc⟩:=hbytes p hlt;have hfz:=h.free;have hnl:decide ((len:Int)<=(p:Int))=false:=by simp;omega
  have HS:Hid (Rd (w.setCell ⟨R,1,none⟩ (.int .i64 ((p:Int)+1))) R (some ⟨b,off,none⟩) len cap):=h.step (by omega);clear hbytes h;go_enter func170,ntmps170;go_wp2;go_quiet (fail);go_wp2;have e1:(p:Int)+1-1=(p:Int):=by omega
  have e2:=bI p;have e3:(p:Int)<(len:Int):=by omega
  have hw:IntKind.i64.wrap (p:Int)=(p:Int):=by rw[IntKind.wrap_i64];omega
  have hcw:IntKind.i64.wrap c=c:=by rw[IntKind.wrap_i64];omega
  have x1:(w.setCell ⟨R,1,none⟩ (.int .i64 ((p:Int)+1))).cell? ⟨b,off+p,none⟩=some (.int .u8 c):=by
   rw[show(w.setCell ⟨R,1,none⟩ (.int .i64 ((p:Int)+1))).cell? ⟨b,off+p,none⟩=w.cell? ⟨b,off+p,none⟩ from by apply World.cell?_setCell_other;intro e;exact hne (congrArg Addr.block e).symm];exact hcc
  go_quiet (fail);go_wp2;go_ret;exact⟨⟨c,rfl,c0,c1⟩,HS.out.below ⟨rfl,rfl,rfl,Vu _,fun _ _=>rfl⟩,(((Only.refl _ _).drewN _).set _ _).drewN _⟩
 have hge:decide ((len:Int)<=(p:Int))=true:=by simp;omega
 clear h;go_enter func170,ntmps170;go_wp2;go_quiet (fail);go_wp2;go_ret;exact⟨⟨0,rfl,by omega,by omega⟩,H.out.below ((below_drewN (Vv _ _) _)),(Only.refl _ _).drewN _⟩
theorem dF(R:Nat)(ad:Q02)(len cap:Nat)(n:Int)(w:af)(h:Rd w R ad len cap)(h1:2<=n)(h2:n<=256):
  Calls prog 90 #[.pointer (some ⟨R,0,none⟩),.int .i64 n] w fun e w'=>(∃x:Int,e=.returned (.int .i64 x)/\0<=x/\x<n)/\Rd w' R ad len cap/\Only R w w':=by
 have H:=az h;clear h;have hne:(n==0)=false:=by simp;omega
 go_enter func90,ntmps90;go_wp2_with fail;refine(Gx R ad len cap _ H.out).mono ?_;rintro e w1 ⟨⟨x,rfl,hx0,hx1⟩,Xq,Xw⟩;have HR:=az Xq;have HO:=az Xw;clear Xq Xw;go_wp2;go_ret;exact⟨⟨_,rfl,Int.emod_nonneg _ (by omega),Int.emod_lt_of_pos _ (by omega)⟩,HR.out,HO.out⟩
theorem kK(R:Nat)(ad:Q02)(len cap:Nat)(n:Int)(w:af)(h:Rd w R ad len cap)(h1:2<=n)(h2:n<=256):
  Calls prog 114 #[.pointer (some ⟨R,0,none⟩),.int .i64 n] w fun e w'=>(∃x:Bool,e=.returned (.bool x))/\Rd w' R ad len cap/\Only R w w':=by
 have H:=az h;clear h;go_enter func114,ntmps114;go_wp2_with fail;refine(dF R ad len cap n _ H.out h1 h2).mono ?_;rintro e w1 ⟨⟨x,rfl,hx0,hx1⟩,Xq,Xw⟩;have HR:=az Xq;have HO:=az Xw;clear Xq Xw;go_wp2;go_ret;exact⟨⟨_,rfl⟩,HR.out,HO.out⟩
def Strs(w:World)(R g n:Nat):Prop:=g≠R/\g<w.heap.size/\∀i,i<n->∃s:ByteArray,s.size<=20/\w.cell? ⟨g,i,none⟩=some (.string s)
theorem Strs.only{w w':af}{R g n:Nat}(h:Strs w R g n)(k:Only R w w'):Strs w' R g n :=
 ⟨h.1,Vt h.2.1 k.size,fun i hi=>by obtain⟨s,hs,hc⟩:=h.2.2 i hi;exact⟨s,hs,by rw[k.cell h.2.1 h.1];exact hc⟩⟩
def Aj(w:World)(R B g:Nat):Prop:=g≠R/\B<=g/\g<w.heap.size/\(∀o,w.frozen? ⟨g,o,none⟩=false)/\∃a b:ByteArray,a.size<=20/\b.size<=20/\w.cell? ⟨g,0,none⟩=some (.string a)/\w.cell? ⟨g,1,none⟩=some (.string b)
theorem Aj.only{w w':af}{R B g:Nat}(h:Aj w R B g)(k:Only R w w'):Aj w' R B g:=by
 obtain⟨h1,h2,h3,h4,a,b,ha,hb,ca,cb⟩:=h;exact⟨h1,h2,Vt h3 k.size,fun o=>by rw[k.frozen h3 h1];exact h4 o,a,b,ha,hb,by rw[k.cell h3 h1];exact ca,by rw[k.cell h3 h1];exact cb⟩
theorem iD(w:af)(R:Nat)(hR:R<w.heap.size){t:TypeId}{xs:List ByteArray}(h:xs.all (fun x=>decide (x.size<=20))=true):Strs (w.alloc (.cells (xs.map Value.string).toArray t)) R w.heap.size xs.length:=by
 refine⟨by omega,by simp,fun i hi=>⟨xs[i],?_,?_⟩⟩
 ·rw[VF]at h;simpa using h xs[i] (Vs hi)
 simp[hi]
theorem MN{w:af}{R B:Nat}{t:TypeId}(hR:R<w.heap.size)(hB:B<=w.heap.size):Aj (w.alloc (.cells #[.string ⟨#[]⟩,.string ⟨#[]⟩] t)) R B w.heap.size :=
 ⟨by omega,hB,by simp,fun o=>by simp,⟨#[]⟩,⟨#[]⟩,by decide,by decide,by simp,by simp⟩
theorem MO{w:af}{R B g:Nat}{x y:Value}{a b:ByteArray}(h1:g≠R)(h2:B<=g)(h3:g<w.heap.size)(h4:∀o,w.frozen? ⟨g,o,none⟩=false)(hx:w.cell? ⟨g,0,none⟩=some x)(hy:w.cell? ⟨g,1,none⟩=some y)(ha:a.size<=20)(hb:b.size<=20):
  Aj ((w.setCell ⟨g,0,none⟩ (.string a)).setCell ⟨g,1,none⟩ (.string b)) R B g:=by
 have n01:(⟨g,0,none⟩:Addr)≠⟨g,1,none⟩:=by intro e;cases e
 have e1:(w.setCell ⟨g,0,none⟩ (.string a)).cell? ⟨g,1,none⟩=some y:=by
  rw[show(w.setCell ⟨g,0,none⟩ (.string a)).cell? ⟨g,1,none⟩=w.cell? ⟨g,1,none⟩ from by apply World.cell?_setCell_other;exact n01];exact hy
 refine⟨h1,h2,by simpa using h3,fun o=>by simpa using h4 o,a,b,ha,hb,?_,?_⟩
 ·rw[show((w.setCell ⟨g,0,none⟩ (.string a)).setCell ⟨g,1,none⟩ (.string b)).cell? ⟨g,0,none⟩=(w.setCell ⟨g,0,none⟩ (.string a)).cell? ⟨g,0,none⟩ from by apply World.cell?_setCell_other;exact n01.symm];apply World.cell?_setCell_same;exact hx
 apply World.cell?_setCell_same;exact e1
theorem Rd.setFar{w:af}{R g o:Nat}{ad:Q02}{len cap:Nat}{v:Value}(h:Rd w R ad len cap)(hg:g≠R)(hb:0<len->∀b off,ad=some ⟨b,off,none⟩->b≠g):Rd (w.setCell ⟨g,o,none⟩ v) R ad len cap where
 lt:=by simpa using h.lt
 code:=by
  rw[show(w.setCell ⟨g,o,none⟩ v).cell? ⟨R,0,none⟩=w.cell? ⟨R,0,none⟩ from by apply World.cell?_setCell_other;intro e;exact hg (congrArg Addr.block e)];exact h.code
 place:=by
  obtain⟨p,hp,hl⟩:=h.place;exact⟨p,by rw[show(w.setCell ⟨g,o,none⟩ v).cell? ⟨R,1,none⟩=w.cell? ⟨R,1,none⟩ from by apply World.cell?_setCell_other;intro e;exact hg (congrArg Addr.block e)];exact hp,hl⟩
 free:=by simpa using h.free
 bytes h0:=by
  obtain⟨b,off,e,hne,hbl,hc⟩:=h.bytes h0;refine⟨b,off,e,hne,by simpa using hbl,fun i hi=>?_⟩;obtain⟨c,c0,c1,hcc⟩:=hc i hi;exact⟨c,c0,c1,by rw[show(w.setCell ⟨g,o,none⟩ v).cell? ⟨b,off+i,none⟩=w.cell? ⟨b,off+i,none⟩ from by apply World.cell?_setCell_other;intro e2;exact hb h0 b off e (congrArg Addr.block e2).symm];exact hcc⟩
 small:=h.small
theorem Only.setNew{R g o:Nat}{a b:af}{v:Value}(h:Only R a b)(hg:a.heap.size<=g):Only R a (b.setCell ⟨g,o,none⟩ v) :=
 ⟨h.os,h.tape,h.output,by simpa using h.size,fun i hi hr=>(Below.heap_setCell b ⟨g,o,none⟩ v i (by simp;omega)).trans (h.block i hi hr)⟩
theorem Only.alloc{R:Nat}{a b:af}(h:Only R a b)(o:Obj):Only R a (b.alloc o):=h.below ((Vv _ _).alloc (Vu _) _)
theorem Rd.alloc{w:af}{R:Nat}{ad:Q02}{len cap:Nat}(h:Rd w R ad len cap)(o:Obj):Rd (w.alloc o) R ad len cap:=h.below ((Vv _ _).alloc (Vu _) _)
theorem RN{w:af}{a:Addr}{v:Value}(h:w.cell? a=some v)(o:Obj):(w.alloc o).cell? a=some v:=cell_later ((Vv _ _).alloc (Vu _) _) h
def Ob(w:World)(R g:Nat)(a b:ByteArray):Prop:=g≠R/\g<w.heap.size/\w.cell? ⟨g,0,none⟩=some (.string a)/\w.cell? ⟨g,1,none⟩=some (.string b)
theorem Ob.only{w w':af}{R g:Nat}{a b:ByteArray}(h:Ob w R g a b)(k:Only R w w'):Ob w' R g a b :=
 ⟨h.1,Vt h.2.1 k.size,by rw[k.cell h.2.1 h.1];exact h.2.2.1,by rw[k.cell h.2.1 h.1];exact h.2.2.2⟩
theorem Ob.alloc{w:af}{R g:Nat}{a b:ByteArray}(h:Ob w R g a b)(o:Obj):Ob (w.alloc o) R g a b:=h.only ((Only.refl R w).alloc o)
theorem EO{w:af}{R:Nat}(hR:R<w.heap.size)(t:TypeId)(a b:bi):Ob (w.alloc (.cells #[.string a,.string b] t)) R w.heap.size a b :=
 ⟨by omega,by simp,by simp,by simp⟩
def Ub(w:World)(R n:Nat):Prop:=n≠R/\n<w.heap.size/\(∀o,w.frozen? ⟨n,o,none⟩=false)/\∀o,o<6->w.cell? ⟨n,o,none⟩=some (.string ⟨#[]⟩)
theorem Ub.only{w w':af}{R n:Nat}(h:Ub w R n)(k:Only R w w'):Ub w' R n :=
 ⟨h.1,Vt h.2.1 k.size,fun o=>by rw[k.frozen h.2.1 h.1];exact h.2.2.1 o,fun o ho=>by rw[k.cell h.2.1 h.1];exact h.2.2.2 o ho⟩
theorem RO{w:af}{R:Nat}(hR:R<w.heap.size)(t:TypeId):Ub (w.alloc (.cells #[.string ⟨#[]⟩,.string ⟨#[]⟩,.string ⟨#[]⟩,.string ⟨#[]⟩,.string ⟨#[]⟩,.string ⟨#[]⟩] t)) R w.heap.size:=by
 refine⟨by omega,by simp,fun o=>by simp,fun o ho=>?_⟩;have h6:o=0\/o=1\/o=2\/o=3\/o=4\/o=5:=by omega
 rcases h6 with rfl|rfl|rfl|rfl|rfl|rfl<;>simp
structure Kd where
 s:Value ⊕ Nat ⊕ Nat ⊕ Nat ⊕ Unit ⊕ Unit ⊕ Unit
abbrev Kd.eq (v:Value):Kd:=⟨.inl v⟩
abbrev Kd.strs (n:Nat):Kd:=⟨.inr (.inl n)⟩
abbrev Kd.idx (n:Nat):Kd:=⟨.inr (.inr (.inl n))⟩
abbrev Kd.elt (n:Nat):Kd:=⟨.inr (.inr (.inr (.inl n)))⟩
abbrev Kd.str:Kd:=⟨.inr (.inr (.inr (.inr (.inl ()))))⟩
abbrev Kd.obj:Kd:=⟨.inr (.inr (.inr (.inr (.inr (.inl ())))))⟩
abbrev Kd.tup:Kd:=⟨.inr (.inr (.inr (.inr (.inr (.inr ())))))⟩
def Kd.ok(R:Nat)(w:World)(v:Value):Kd->Prop
 | ⟨.inl u⟩=>v=u
 | ⟨.inr (.inl n)⟩=>∃g,v=.slice (some ⟨g,0,none⟩) n n/\Strs w R g n
 | ⟨.inr (.inr (.inl n))⟩=>∃x:Nat,v=.int .i64 (x:Int)/\x<n
 | ⟨.inr (.inr (.inr (.inl n)))⟩=>∃g x,v=.pointer (some ⟨g,x,none⟩)/\x<n/\Strs w R g n
 | ⟨.inr (.inr (.inr (.inr (.inl _))))⟩=>∃t:ByteArray,v=.string t/\t.size<=20
 | ⟨.inr (.inr (.inr (.inr (.inr (.inl _)))))⟩=>∃a b:ByteArray,v=.agg #[.string a,.string b]/\a.size<=20/\b.size<=20
 | ⟨.inr (.inr (.inr (.inr (.inr (.inr _)))))⟩=>∃a b r c d s:ByteArray,v=.agg #[.string a,.string b,.string r,.string c,.string d,.string s]/\a.size<=20/\b.size<=20/\r.size<=20/\c.size<=20/\d.size<=20/\s.size<=20
theorem Kd.only{R:Nat}{w w':af}{v:Value}(h:Only R w w')(k:Kd)(hk:k.ok R w v):k.ok R w' v:=by
 match k,hk with
 | ⟨.inl _⟩,hk=>exact hk
 | ⟨.inr (.inl _)⟩,hk=>obtain⟨g,e,hs⟩:=hk;exact⟨g,e,hs.only h⟩
 | ⟨.inr (.inr (.inl _))⟩,hk=>exact hk
 | ⟨.inr (.inr (.inr (.inl _)))⟩,hk=>obtain⟨g,x,e,hx,hs⟩:=hk;exact⟨g,x,e,hx,hs.only h⟩
 | ⟨.inr (.inr (.inr (.inr (.inl _))))⟩,hk=>exact hk
 | ⟨.inr (.inr (.inr (.inr (.inr (.inl _)))))⟩,hk=>exact hk
 | ⟨.inr (.inr (.inr (.inr (.inr (.inr _)))))⟩,hk=>exact hk
def Gy(ks:List Kd)(k:Nat):Kd:=ks.getD k .tup
set_option maxRecDepth 100000
theorem jV{p:Prop}(h:p):Hid p:=h
theorem JE(R:Nat)(w:af)(n:Int)(h:n<=1):
  Calls prog 90 #[.pointer (some ⟨R,0,none⟩),.int .i64 n] w fun e w'=>e=.returned (.int .i64 0)/\w'=w:=by
 go_enter func90,ntmps90;go_wp2;go_ret;exact⟨rfl,rfl⟩
theorem ig(R:Nat)(ad:Q02)(len cap:Nat)(n:Nat)(w:af)(h:Rd w R ad len cap)(h1:1<=n)(h2:n<=256):
  Calls prog 90 #[.pointer (some ⟨R,0,none⟩),.int .i64 (n:Int)] w fun e w'=>(∃x:Nat,e=.returned (.int .i64 (x:Int))/\x<n)/\Rd w' R ad len cap/\Only R w w':=by
 by_cases hn:n=1
 ·subst hn;exact(JE R w 1 (by omega)).mono fun e w' ⟨he,hw⟩=>⟨⟨0,by rw[he];rfl,by omega⟩,by rw[hw];exact h,by rw[hw];exact Only.refl _ _⟩
 exact(dF R ad len cap n w h (by omega) (by omega)).mono fun e w' ⟨⟨x,he,h0,h3⟩,hR,hO⟩=>⟨⟨x.toNat,by rw[he,Int.toNat_of_nonneg h0],by omega⟩,hR,hO⟩
def sQ(w:World)(R g n m:Nat):Prop:=g≠R/\g<w.heap.size/\∀o,o<n->∃s:ByteArray,w.cell? ⟨g,o,none⟩=some (.string s)/\s.size<=m
theorem sQ.only{w w':af}{R g n m:Nat}(h:sQ w R g n m)(k:Only R w w'):sQ w' R g n m :=
 ⟨h.1,Vt h.2.1 k.size,fun o ho=>by obtain⟨s,e,hs⟩:=h.2.2 o ho;exact⟨s,by rw[k.cell h.2.1 h.1];exact e,hs⟩⟩
theorem mH(w:af)(R m:Nat)(hR:R<w.heap.size){t:TypeId}{xs:List ByteArray}(h:xs.all (fun x=>decide (x.size<=m))=true):sQ (w.alloc (.cells (xs.map Value.string).toArray t)) R w.heap.size xs.length m:=by
 refine⟨by omega,by simp,fun o ho=>⟨xs[o],?_,?_⟩⟩
 ·have:=World.cell?_alloc_mark w (xs.map Value.string).toArray t (0,0) o;rw[this];simp[ho]
 have:=VF.1 h _ (Vs ho);simpa using this
def tB:Nat->Nat
 | 0=>14
 | d+1=>3*tB d+8
theorem tC(R:Nat)(ad:Q02)(len cap:Nat)(d:Int)(w:af)(h:Rd w R ad len cap):
  Calls prog 238 #[.pointer (some ⟨R,0,none⟩),.int .i64 d,.bool true] w fun e w'=>(∃t:ByteArray,e=.returned (.string t)/\t.size<=24)/\Rd w' R ad len cap/\Only R w w':=by
 have hRw:=h.lt;have HRD:=jV h;obtain⟨xs,hxs⟩:∃xs:List ByteArray,xs=[⟨#[116,104,105,115,40,117,115,101,114,41]⟩,⟨#[116,104,105,115,40,117,115,101,114,44,103,114,111,117,112,35,109,101,109,98,101,114,41]⟩,⟨#[116,104,105,115,40,117,115,101,114,44,100,111,99,35,101,100,105,116,111,114,41]⟩]:=⟨_,rfl⟩;obtain⟨W0,hW0⟩:=eQx (w.alloc (.cells (xs.map Value.string).toArray 9));have HS0:Hid (sQ W0 R w.heap.size 3 24):=by
  show sQ _ _ _ _ _;rw[hW0];have:=mH w R 24 hRw (t:=9) (xs:=xs) (by rw[hxs];decide);rwa [show xs.length=3 by rw[hxs];rfl]at this
 have X7:Hid (Rd W0 R ad len cap):=by show Rd _ _ _ _ _;rw[hW0];exact h.alloc _
 have YN:Hid (Only R w W0):=by show Only _ _ _;rw[hW0];exact(Only.refl _ _).alloc _
 have hW1:W0=w.alloc (.cells #[.string ⟨#[116,104,105,115,40,117,115,101,114,41]⟩,.string ⟨#[116,104,105,115,40,117,115,101,114,44,103,114,111,117,112,35,109,101,109,98,101,114,41]⟩,.string ⟨#[116,104,105,115,40,117,115,101,114,44,100,111,99,35,101,100,105,116,111,114,41]⟩] 9):=by rw[hW0,hxs];rfl
 clear h hW0 hxs;go_enter func238,ntmps238;go_wp2_with fail;rw[<-hW1];clear hW1;refine(ig R ad len cap 3 _ X7.out (by omega) (by omega)).mono ?_;rintro e w1 ⟨⟨x,rfl,hx⟩,Xq,Xw⟩;obtain⟨-,hlt,hcells⟩:=HS0.out.only Xw;obtain⟨t,ht,hts⟩:=hcells x hx;have HR1:=jV Xq;have Xf:Hid (Only R w w1):=YN.out.trans Xw;have hx0:=bI x;have hx1:(x:Int)<3:=by omega
 clear Xq Xw hcells HS0 X7 YN;go_wp2;go_ret;exact⟨⟨t,rfl,hts⟩,HR1.out,Xf.out⟩
theorem EP(R:Nat)(ad:Q02)(len cap:Nat):∀(d:Nat) (w:af),d<=2->Rd w R ad len cap ->
  Calls prog 238 #[.pointer (some ⟨R,0,none⟩),.int .i64 (d:Int),.bool false] w fun e w'=>(∃t:ByteArray,e=.returned (.string t)/\t.size<=tB d)/\Rd w' R ad len cap/\Only R w w':=by
 intro d
 induction d with
 | zero =>
  intro w _ h;have hRw:=h.lt;have hz:(0:Nat)<=256:=by omega
  obtain⟨xs,hxs⟩:∃xs:List ByteArray,xs=[⟨#[101,100,105,116,111,114]⟩,⟨#[118,105,101,119,101,114]⟩,⟨#[98,97,110,110,101,100]⟩,⟨#[112,97,114,101,110,116,45,62,118,105,101,119,101,114]⟩,⟨#[112,97,114,101,110,116,45,62,101,100,105,116,111,114]⟩,⟨#[111,119,110,101,114]⟩,⟨#[112,97,114,101,110,116,45,62,111,119,110,101,114]⟩]:=⟨_,rfl⟩;obtain⟨W0,hW0⟩:=eQx (w.alloc (.cells (xs.map Value.string).toArray 9));have HS0:Hid (sQ W0 R w.heap.size 7 14):=by
   show sQ _ _ _ _ _;rw[hW0];have:=mH w R 14 hRw (t:=9) (xs:=xs) (by rw[hxs];decide);rwa [show xs.length=7 by rw[hxs];rfl]at this
  have X7:Hid (Rd W0 R ad len cap):=by show Rd _ _ _ _ _;rw[hW0];exact h.alloc _
  have YN:Hid (Only R w W0):=by show Only _ _ _;rw[hW0];exact(Only.refl _ _).alloc _
  have hW1:W0=w.alloc (.cells #[.string ⟨#[101,100,105,116,111,114]⟩,.string ⟨#[118,105,101,119,101,114]⟩,.string ⟨#[98,97,110,110,101,100]⟩,.string ⟨#[112,97,114,101,110,116,45,62,118,105,101,119,101,114]⟩,.string ⟨#[112,97,114,101,110,116,45,62,101,100,105,116,111,114]⟩,.string ⟨#[111,119,110,101,114]⟩,.string ⟨#[112,97,114,101,110,116,45,62,111,119,110,101,114]⟩] 9):=by rw[hW0,hxs];rfl
  clear h hW0 hxs;go_enter func238,ntmps238;go_wp2_with fail;rw[<-hW1];clear hW1;refine(ig R ad len cap 7 _ X7.out (by omega) (by omega)).mono ?_;rintro e w1 ⟨⟨x,rfl,hx⟩,Xq,Xw⟩;obtain⟨-,hlt,hcells⟩:=HS0.out.only Xw;obtain⟨t,ht,hts⟩:=hcells x hx;have HR1:=jV Xq;have Xf:Hid (Only R w w1):=YN.out.trans Xw;have hx0:=bI x;have hx1:(x:Int)<7:=by omega
  clear Xq Xw hcells HS0 X7 YN;go_wp2;go_ret;exact⟨⟨t,rfl,hts⟩,HR1.out,Xf.out⟩
 | succ d ih =>
  intro w hd h;have hRw:=h.lt;have IH:=jV ih;have hd0:(((d+1:Nat):Int)==0)=false:=by simp;omega
  have hdm:((d+1:Nat):Int)-1=(d:Int):=by omega
  have HTB:Hid (tB (d+1)=3*tB d+8):=rfl;have hb0:tB d<=82:=by
   have:d=0\/d=1:=by omega
   rcases this with rfl|rfl<;>decide
  obtain⟨bd,hbd⟩:=eQx (tB d);rw[<-hbd]at hb0 HTB;have YO:=jV hbd;clear ih hbd;go_enter func238,ntmps238;go_wp2_with fail;refine(kK R ad len cap 2 _ h (by omega) (by omega)).mono ?_;rintro e w1 ⟨⟨q,rfl⟩,Xq,Xw⟩;have HR1:=jV Xq;have Xf:=jV Xw;have hRw1:R<w1.heap.size:=Xq.lt;clear Xq Xw h;cases q;case true=>
   obtain⟨xs,hxs⟩:∃xs:List ByteArray,xs=[⟨#[101,100,105,116,111,114]⟩,⟨#[118,105,101,119,101,114]⟩,⟨#[98,97,110,110,101,100]⟩,⟨#[112,97,114,101,110,116,45,62,118,105,101,119,101,114]⟩,⟨#[112,97,114,101,110,116,45,62,101,100,105,116,111,114]⟩,⟨#[111,119,110,101,114]⟩,⟨#[112,97,114,101,110,116,45,62,111,119,110,101,114]⟩]:=⟨_,rfl⟩;obtain⟨W0,hW0⟩:=eQx (w1.alloc (.cells (xs.map Value.string).toArray 9));have HS0:Hid (sQ W0 R w1.heap.size 7 14):=by
    show sQ _ _ _ _ _;rw[hW0];have:=mH w1 R 14 hRw1 (t:=9) (xs:=xs) (by rw[hxs];decide);rwa [show xs.length=7 by rw[hxs];rfl]at this
   have X7:Hid (Rd W0 R ad len cap):=by show Rd _ _ _ _ _;rw[hW0];exact HR1.out.alloc _
   have YN:Hid (Only R w W0):=by show Only _ _ _;rw[hW0];exact Xf.out.alloc _
   have hW1:W0=w1.alloc (.cells #[.string ⟨#[101,100,105,116,111,114]⟩,.string ⟨#[118,105,101,119,101,114]⟩,.string ⟨#[98,97,110,110,101,100]⟩,.string ⟨#[112,97,114,101,110,116,45,62,118,105,101,119,101,114]⟩,.string ⟨#[112,97,114,101,110,116,45,62,101,100,105,116,111,114]⟩,.string ⟨#[111,119,110,101,114]⟩,.string ⟨#[112,97,114,101,110,116,45,62,111,119,110,101,114]⟩] 9):=by rw[hW0,hxs];rfl
   clear hW0 hxs HR1 Xf;go_wp2_with fail;rw[<-hW1];clear hW1;refine(ig R ad len cap 7 _ X7.out (by omega) (by omega)).mono ?_;rintro e w2 ⟨⟨x,rfl,hx⟩,hR2,hO2⟩;obtain⟨-,hlt,hcells⟩:=HS0.out.only hO2;obtain⟨t,ht,hts⟩:=hcells x hx;have HR2:=jV hR2;have WY:Hid (Only R w w2):=YN.out.trans hO2;have hx0:=bI x;have hx1:(x:Int)<7:=by omega
   have hfin:t.size<=tB (d+1):=by rw[HTB.out,YO.out];cases d<;>simp[tB]<;>omega
   have XG:=jV hfin;clear hR2 hO2 hcells HS0 X7 YN hfin;go_wp2;go_ret;exact⟨⟨t,rfl,XG.out⟩,HR2.out,WY.out⟩
  obtain⟨xs,hxs⟩:∃xs:List ByteArray,xs=[⟨#[32,124,32]⟩,⟨#[32,38,32]⟩,⟨#[32,45,32]⟩,⟨#[32,124,32]⟩]:=⟨_,rfl⟩;obtain⟨W0,hW0⟩:=eQx (w1.alloc (.cells (xs.map Value.string).toArray 9));have HS0:Hid (sQ W0 R w1.heap.size 4 3):=by
   show sQ _ _ _ _ _;rw[hW0];have:=mH w1 R 3 hRw1 (t:=9) (xs:=xs) (by rw[hxs];decide);rwa [show xs.length=4 by rw[hxs];rfl]at this
  have X7:Hid (Rd W0 R ad len cap):=by show Rd _ _ _ _ _;rw[hW0];exact HR1.out.alloc _
  have YN:Hid (Only R w W0):=by show Only _ _ _;rw[hW0];exact Xf.out.alloc _
  have hW1:W0=w1.alloc (.cells #[.string ⟨#[32,124,32]⟩,.string ⟨#[32,38,32]⟩,.string ⟨#[32,45,32]⟩,.string ⟨#[32,124,32]⟩] 9):=by rw[hW0,hxs];rfl
  clear hW0 hxs HR1 Xf;go_wp2_with fail;rw[<-hW1];clear hW1;refine(ig R ad len cap 4 _ X7.out (by omega) (by omega)).mono ?_;rintro e w2 ⟨⟨x,rfl,hx⟩,hR2,hO2⟩;obtain⟨-,hlt,hcells⟩:=HS0.out.only hO2;obtain⟨op,hop,hops⟩:=hcells x hx;have HR2:=jV hR2;have WY:Hid (Only R w w2):=YN.out.trans hO2;have hx0:=bI x;have hx1:(x:Int)<4:=by omega
  clear hR2 hO2 hcells HS0 X7 YN;go_wp2_with fail;refine(IH.out w2 (by omega) HR2.out).mono ?_;rintro e w3 ⟨⟨t1,rfl,ht1⟩,YZ,hO3⟩;rw[<-YO.out]at ht1;have HR3:=jV YZ;have Xv:Hid (Only R w w3):=WY.out.trans hO3;clear YZ hO3 HR2 WY hop hlt;go_wp2_with fail;refine(IH.out w3 (by omega) HR3.out).mono ?_;rintro e w4 ⟨⟨t2,rfl,ht2⟩,ZT,hO4⟩;rw[<-YO.out]at ht2;have HR4:=jV ZT;have Xr:Hid (Only R w w4):=Xv.out.trans hO4;clear ZT hO4 HR3 Xv;have e1:(⟨#[40]⟩:ByteArray).size=1:=rfl;have e2:(⟨#[41]⟩:ByteArray).size=1:=rfl;cases hm:op.toList==[32,45,32];case true=>
   have hm2:(!op.toList==[32,45,32])=false:=by rw[hm];rfl
   have XG:Hid ((((((⟨#[40]⟩:ByteArray)++t1)++op)++t2)++⟨#[41]⟩).size<=tB (d+1)):=by show _<=_;rw[HTB.out];simp only[VK,e1,e2];omega
   go_wp2_with fail;go_ret;exact⟨⟨_,rfl,XG.out⟩,HR4.out,Xr.out⟩
  have hm2:(!op.toList==[32,45,32])=true:=by rw[hm];rfl
  go_wp2_with fail;refine(kK R ad len cap 3 _ HR4.out (by omega) (by omega)).mono ?_;rintro e w5 ⟨⟨q,rfl⟩,Xz,XV⟩;have XE:=jV Xz;have Xa:Hid (Only R w w5):=Xr.out.trans XV;clear Xz XV HR4 Xr;cases q;case false=>
   have XG:Hid ((((((⟨#[40]⟩:ByteArray)++t1)++op)++t2)++⟨#[41]⟩).size<=tB (d+1)):=by show _<=_;rw[HTB.out];simp only[VK,e1,e2];omega
   go_wp2_with fail;go_ret;exact⟨⟨_,rfl,XG.out⟩,XE.out,Xa.out⟩
  go_wp2_with fail;refine(IH.out w5 (by omega) XE.out).mono ?_;rintro e w6 ⟨⟨t3,rfl,ht3⟩,hR6,hO6⟩;rw[<-YO.out]at ht3;have X0:=jV hR6;have Yy:Hid (Only R w w6):=Xa.out.trans hO6;clear hR6 hO6 XE Xa;have XG:Hid ((((((((⟨#[40]⟩:ByteArray)++t1)++op)++t2)++op)++t3)++⟨#[41]⟩).size<=tB (d+1)):=by show _<=_;rw[HTB.out];simp only[VK,e1,e2];omega
  go_wp2_with fail;go_ret;exact⟨⟨_,rfl,XG.out⟩,X0.out,Yy.out⟩
theorem Gz(R:Nat)(ad:Q02)(len cap d:Nat)(w:af)(hd:d<=2)(h:Rd w R ad len cap):
  Calls prog 168 #[.pointer (some ⟨R,0,none⟩),.int .i64 (d:Int)] w fun e w'=>(∃t:ByteArray,e=.returned (.string t)/\t.size<=190)/\Rd w' R ad len cap/\Only R w w':=by
 have hRw:=h.lt;have hb0:tB d<=158:=by
  have:d=0\/d=1\/d=2:=by omega
  rcases this with rfl|rfl|rfl<;>decide
 obtain⟨xs,hxs⟩:∃xs:List ByteArray,xs=[⟨#[32,124,32]⟩,⟨#[32,38,32]⟩,⟨#[32,45,32]⟩,⟨#[32,124,32]⟩]:=⟨_,rfl⟩;obtain⟨W0,hW0⟩:=eQx (w.alloc (.cells (xs.map Value.string).toArray 9));have HS0:Hid (sQ W0 R w.heap.size 4 3):=by
  show sQ _ _ _ _ _;rw[hW0];have:=mH w R 3 hRw (t:=9) (xs:=xs) (by rw[hxs];decide);rwa [show xs.length=4 by rw[hxs];rfl]at this
 have X7:Hid (Rd W0 R ad len cap):=by show Rd _ _ _ _ _;rw[hW0];exact h.alloc _
 have YN:Hid (Only R w W0):=by show Only _ _ _;rw[hW0];exact(Only.refl _ _).alloc _
 have hW1:W0=w.alloc (.cells #[.string ⟨#[32,124,32]⟩,.string ⟨#[32,38,32]⟩,.string ⟨#[32,45,32]⟩,.string ⟨#[32,124,32]⟩] 9):=by rw[hW0,hxs];rfl
 clear h hW0 hxs;go_enter func168,ntmps168;go_wp2_with fail;rw[<-hW1];clear hW1;refine(ig R ad len cap 4 _ X7.out (by omega) (by omega)).mono ?_;rintro e w2 ⟨⟨x,rfl,hx⟩,hR2,hO2⟩;obtain⟨-,hlt,hcells⟩:=HS0.out.only hO2;obtain⟨op,hop,hops⟩:=hcells x hx;have HR2:=jV hR2;have WY:Hid (Only R w w2):=YN.out.trans hO2;have hx0:=bI x;have hx1:(x:Int)<4:=by omega
 clear hR2 hO2 hcells HS0 X7 YN;go_wp2_with fail;refine(kK R ad len cap 3 _ HR2.out (by omega) (by omega)).mono ?_;rintro e w3 ⟨⟨q,rfl⟩,YZ,hO3⟩;have HR3:=jV YZ;have Xv:Hid (Only R w w3):=WY.out.trans hO3;clear YZ hO3 HR2 WY hop hlt;cases q;case true=>
  go_wp2_with fail;refine(tC R ad len cap 0 _ HR3.out).mono ?_;rintro e w4 ⟨⟨t1,rfl,ht1⟩,ZT,hO4⟩;have HR4:=jV ZT;have Xr:Hid (Only R w w4):=Xv.out.trans hO4;clear ZT hO4;go_wp2;go_ret;exact⟨⟨t1,rfl,by omega⟩,HR4.out,Xr.out⟩
 go_wp2_with fail;refine(tC R ad len cap 0 _ HR3.out).mono ?_;rintro e w4 ⟨⟨t1,rfl,ht1⟩,ZT,hO4⟩;have HR4:=jV ZT;have Xr:Hid (Only R w w4):=Xv.out.trans hO4;clear ZT hO4;go_wp2_with fail;refine(EP R ad len cap d _ hd HR4.out).mono ?_;rintro e w5 ⟨⟨t2,rfl,ht2⟩,Xz,XV⟩;have XE:=jV Xz;have Xa:Hid (Only R w w5):=Xr.out.trans XV;have hf:t2.size<=158:=by omega
 have XG:Hid (((t1++op)++t2).size<=190):=by show _<=_;simp only[VK];omega
 clear Xz XV ht2 hb0;go_wp2;go_ret;exact⟨⟨_,rfl,XG.out⟩,XE.out,Xa.out⟩
theorem qU(R:Nat)(ad:Q02)(len cap d:Nat)(w:af)(hd:d<=2)(h:Rd w R ad len cap):
  Calls prog 168 #[.pointer (some ⟨R,0,none⟩),.int .i64 (d:Int)] w fun e w'=>(∃t:ByteArray,e=.returned (.string t)/\t.size<=300)/\Rd w' R ad len cap/\Only R w w' :=
 (Gz R ad len cap d w hd h).mono fun e w' ⟨⟨t,h1,h2⟩,h3⟩=>⟨⟨t,h1,by omega⟩,h3⟩
theorem ES(R:Nat)(ad:Q02)(len cap:Nat)(w:af)(h:Rd w R ad len cap):
  Calls prog 290 #[.pointer (some ⟨R,0,none⟩)] w fun e w'=>(∃x:Int,e=.returned (.int .u64 x))/\Rd w' R ad len cap/\Only R w w':=by
 have H:=az h;clear h;go_enter func290,ntmps290;go_wp2;go_loopw[3,4] (fun v i wr=>∃(x:Int) (k:Nat),v=.int .u64 x/\i=.int .i64 (k:Int)/\k<=8/\Hid (Rd wr R ad len cap)/\Hid (Only R w wr)) (fun _ i _=>8-(intOf i).toNat);case atStart=>exact⟨0,0,rfl,rfl,by omega,H,Only.refl _ _⟩
 obtain⟨x,k,rfl,rfl,hk,HR,HO⟩:=hrel;by_cases hlt:k<8
 ·have hk1:(k:Int)<8:=by omega
  go_wp2_with fail;refine(Gx R ad len cap _ HR.out).mono ?_;rintro e w1 ⟨⟨y,rfl,hy0,hy1⟩,Xq,Xw⟩;have HR1:=az Xq;have Xf:Hid (Only R w w1):=HO.out.trans Xw;clear Xq Xw;go_wp2;go_roundw;case rel=>exact⟨_,k+1,rfl,by go_num,by omega,HR1,Xf⟩
  simp[intOf]<;>omega
 have hk1:¬(k:Int)<8:=by omega
 go_wp2;go_ret;exact⟨⟨x,rfl⟩,HR.out,HO.out⟩
theorem PD(R:Nat)(ad:Q02)(len cap:Nat)(lo hi:Int)(w:af)(h:Rd w R ad len cap)(h0:0<=lo)(h1:lo<=hi)(h2:hi<=1000):
  Calls prog 239 #[.pointer (some ⟨R,0,none⟩),.int .i64 lo,.int .i64 hi] w fun e w'=>(∃x:Int,e=.returned (.int .i64 x))/\Rd w' R ad len cap/\Only R w w':=by
 have H:=jV h;have hw1:IntKind.i64.wrap (hi-lo)=hi-lo:=by rw[IntKind.wrap_i64]<;>omega
 have hw2:IntKind.i64.wrap (hi-lo+1)=hi-lo+1:=by rw[IntKind.wrap_i64]<;>omega
 have hw3:IntKind.u64.wrap (hi-lo+1)=hi-lo+1:=by rw[IntKind.wrap_u64]<;>omega
 have hlt:¬hi<lo:=by omega
 have hz:¬hi-lo+1=0:=by omega
 clear h h0 h1 h2;go_enter func239,ntmps239;go_wp2_with fail;refine(ig R ad len cap 8 _ H.out (by omega) (by omega)).mono ?_;rintro e w1 ⟨⟨x,rfl,hx⟩,Xq,Xw⟩;have HR1:=jV Xq;have Xf:=jV Xw;clear Xq Xw;by_cases h0:x=0
 ·subst h0;go_wp2;go_ret;exact⟨⟨_,rfl⟩,HR1.out,Xf.out⟩
 have h00:((x:Int)==0)=false:=by simp;omega
 by_cases h1:x=1
 ·subst h1;go_wp2;go_ret;exact⟨⟨_,rfl⟩,HR1.out,Xf.out⟩
 have h11:((x:Int)==1)=false:=by simp;omega
 go_wp2_with fail;refine(ES R ad len cap _ HR1.out).mono ?_;rintro e w2 ⟨⟨y,rfl⟩,hR2,hO2⟩;have HR2:=jV hR2;have WY:Hid (Only R w w2):=Xf.out.trans hO2;clear hR2 hO2;go_wp2;go_ret;exact⟨⟨_,rfl⟩,HR2.out,WY.out⟩
theorem RP(R:Nat)(ad:Q02)(len cap:Nat)(lo hi:Int)(w:af)(h:Rd w R ad len cap)(h0:0<=lo)(h1:lo<=hi)(h2:hi<=1000):
  Calls prog 169 #[.pointer (some ⟨R,0,none⟩),.int .i64 lo,.int .i64 hi] w fun e w'=>(∃x:Int,e=.returned (.int .i64 x))/\Rd w' R ad len cap/\Only R w w':=by
 have H:=jV h;clear h;go_enter func169,ntmps169;go_wp2_with fail;refine(kK R ad len cap 24 _ H.out (by omega) (by omega)).mono ?_;rintro e w1 ⟨⟨q,rfl⟩,Xq,Xw⟩;have HR1:=jV Xq;have Xf:=jV Xw;have hRw:=Xq.lt;clear Xq Xw;cases q;case false=>
  go_wp2_with fail;refine(PD R ad len cap lo hi _ HR1.out h0 h1 h2).mono ?_;rintro e w2 ⟨⟨y,rfl⟩,hR2,hO2⟩;have HR2:=jV hR2;have WY:Hid (Only R w w2):=Xf.out.trans hO2;clear hR2 hO2;go_wp2;go_ret;exact⟨⟨_,rfl⟩,HR2.out,WY.out⟩
 have hw1:IntKind.i64.wrap (lo-1)=lo-1:=by rw[IntKind.wrap_i64]<;>omega
 have hw2:IntKind.i64.wrap (hi+1)=hi+1:=by rw[IntKind.wrap_i64]<;>omega
 obtain⟨W0,hW0⟩:=eQx (w1.alloc (.cells #[.int .i64 (lo-1),.int .i64 (hi+1),.int .i64 (-9223372036854775808),.int .i64 9223372036854775807] 2));have X7:Hid (Rd W0 R ad len cap):=by show Rd _ _ _ _ _;rw[hW0];exact HR1.out.alloc _
 have YN:Hid (Only R w W0):=by show Only _ _ _;rw[hW0];exact Xf.out.alloc _
 have X9:Hid (w1.heap.size<W0.heap.size/\∀o,o<4->∃z:Int,W0.cell? ⟨w1.heap.size,o,none⟩=some (.int .i64 z)):=by
  show _/\_;rw[hW0];refine⟨by simp,fun o ho=>?_⟩;have:o=0\/o=1\/o=2\/o=3:=by omega
  rcases this with rfl|rfl|rfl|rfl<;>exact⟨_,by simp;rfl⟩
 go_wp2_with fail;rw[<-hW0];clear hW0;refine(ig R ad len cap 4 _ X7.out (by omega) (by omega)).mono ?_;rintro e w2 ⟨⟨x,rfl,hx⟩,hR2,hO2⟩;obtain⟨z,hz⟩:=X9.out.2 x hx;have hz2:w2.cell? ⟨w1.heap.size,x,none⟩=some (.int .i64 z):=by rw[hO2.cell X9.out.1 (by omega)];exact hz
 have HR2:=jV hR2;have WY:Hid (Only R w w2):=YN.out.trans hO2;have hx0:=bI x;have hx1:(x:Int)<4:=by omega
 clear hR2 hO2 hz X9 X7 YN;go_wp2;go_ret;exact⟨⟨z,rfl⟩,HR2.out,WY.out⟩
theorem LB{a b a' b':ByteArray}{f f':Bool}(ha:a=a')(hb:b=b')(hf:f=f'):Ending.returned (.tuple #[.string a,.string b,.bool f])=.returned (.tuple #[.string a',.string b',.bool f']):=by rw[ha,hb,hf]
theorem Dn(s:bi)(c:UInt8)(w:af)(hs:s.size<=maxLen):
  Calls prog 262 #[.string s,.int .u8 c.toNat] w fun e w'=>e=.returned (.tuple #[.string (kC c s),.string (ja c s),.bool (pg c s)])/\∃n,w'=w.drewN n:=by
 unfold maxLen at hs;go_enter func262,ntmps262;go_wp2
 go_loop [7] (fun i=>∃k:Nat,k<=s.size/\i=.int .i64 k/\Hid (TN c s k)) (fun i=>s.size-(intOf i).toNat)
 case atStart=>exact⟨0,Vy _,rfl,OO _ _⟩
 obtain⟨k,hk,rfl,hu⟩:=hrel;by_cases hlt:k<s.size
 ·by_cases hc:s[k]=c
  ·have HC:Hid (jd c s.data.toList=_):=TP hlt hu.out hc;have hcb:((s[k].toNat:Int)==(c.toNat:Int))=true:=by simp[hc]
   have hk1:=bI k;have hk2:(k:Int)<=(s.size:Int):=by omega
   have hk3:(k:Int)+1<=(s.size:Int):=by omega
   clear hc;go_wp2;go_quiet (fail);go_wp2
   go_ret3
   refine⟨LB (gQ ?_) (gQ ?_) (by simp[pg,HC.out]),nq,rfl⟩
   ·rw[Lib.extract_data];simp[kC,HC.out]
   rw[Lib.extract_to_end];simp[ja,HC.out]
  have HU:Hid (TN c s (k+1)):=OP hlt hu.out hc;have hcb:((s[k].toNat:Int)==(c.toNat:Int))=false:=by
   simp;intro h;exact hc (UInt8.toNat_inj.mp (by omega))
  clear hc;go_wp2;go_round;case rel=>exact⟨k+1,by omega,by go_num,HU⟩
  simp[intOf];omega
 have HC:Hid (jd c s.data.toList=_):=OQ (Nat.le_of_not_lt hlt) hu.out;go_wp2
 go_ret3
 exact⟨LB (by simp[kC,HC.out]) (by simp[ja,HC.out]) (by simp[pg,HC.out]),0,rfl⟩
def Bytes(w:World)(ad:Q02)(len:Nat):Prop:=len<=maxLen/\(0<len->∃b off,ad=some ⟨b,off,none⟩/\b<w.heap.size/\∀i,i<len->∃c:Int,0<=c/\c<=255/\w.cell? ⟨b,off+i,none⟩=some (.int .u8 c))
theorem Bytes.below{w w':af}{ad:Q02}{len:Nat}(h:Bytes w ad len)(hb:ag w w'):Bytes w' ad len:=by
 refine⟨h.1,fun h0=>?_⟩;obtain⟨b,off,e,hbl,hc⟩:=h.2 h0;refine⟨b,off,e,Vt hbl hb.size,fun i hi=>?_⟩;obtain⟨c,c0,c1,hcc⟩:=hc i hi;exact⟨c,c0,c1,by rw[hb.cell (p:=⟨b,off+i,none⟩) hbl];exact hcc⟩
theorem JF{H:Type}{enc:TypeId×Value->H}{W:af}{base:Nat}{sp:Nat->Bool}{held:Bool}{fuel:Nat}{ad:Q02}{len cap:Nat}{x:DataW H×List MemPlace}
  (h:DataW.trod enc prog W base sp held fuel 22 [.slice ad len cap]=some x):Bytes W ad len:=by
 rcases open_ints underlying22 underlying5 (by kernel_rfl) h with⟨hcs,-⟩|⟨a,l,c,zs,hcs,-,hlc,hcm,hm,-,hel,hwf⟩
 ·simp at hcs;obtain⟨rfl,rfl,rfl⟩:=hcs;exact⟨by unfold maxLen;omega,fun h0=>by omega⟩
 simp at hcs;obtain⟨rfl,rfl,rfl⟩:=hcs;have hle:len<=zs.length:=by rw[hm];split<;>omega
 refine⟨by omega,fun h0=>?_⟩;have hspot:a.spot=none:=by
  have:=hel 0 (by omega);have e:a.add 0=a:=by simp[Addr.add]
  rw[e]at this;exact World.cell?_spot this
 obtain⟨b,off,spot⟩:=a;simp only at hspot;subst hspot;have add0:∀x:Nat,(⟨b,off,none⟩:Addr).add x=⟨b,off+x,none⟩:=fun x=>by
  unfold Addr.add;by_cases h:x=0
  ·subst h;simp
  simp[h]
 refine⟨b,off,rfl,?_,fun i hi=>?_⟩
 ·have:=hel 0 (by omega);rw[add0]at this;exact World.block_lt_of_cell? W ⟨b,off+0,none⟩ this
 have h1:=hel i (by omega);rw[add0]at h1;have h2:=hwf (zs.getD i 0) (by rw[We,VG (by omega)];simp);have h3:IntKind.u8.min<=zs.getD i 0/\zs.getD i 0<=IntKind.u8.max:=by simpa only[Lit.wf,Vw,VH] using h2
 have e1:IntKind.u8.min=0:=by decide
 have e2:IntKind.u8.max=255:=by decide
 rw[e1,e2]at h3;exact⟨_,h3.1,h3.2,h1⟩
theorem Uc{w:af}{ad:Q02}{len cap:Nat}{t:TypeId}(h:Bytes w ad len):Rd (w.alloc (.cells #[.slice ad len cap,.int .i64 0] t)) w.heap.size ad len cap where
 lt:=by simp
 code:=by simp
 place:=⟨0,by simp,by omega⟩
 free:=by simp
 bytes h0:=by
  obtain⟨b,off,e,hbl,hc⟩:=h.2 h0;refine⟨b,off,e,by omega,by simp;omega,fun i hi=>?_⟩;obtain⟨c,c0,c1,hcc⟩:=hc i hi;exact⟨c,c0,c1,RN hcc _⟩
 small:=h.1
theorem GD(ad:Q02)(len cap:Nat)(w:af)(h:Bytes w ad len):
  Calls prog 88 #[.slice ad len cap] w fun e w'=>e=.returned (.pointer (some ⟨w.heap.size,0,none⟩))/\Rd w' w.heap.size ad len cap/\ag w w':=by
 have H:=az h;clear h;go_enter func88,ntmps88;go_wp2;go_ret;exact⟨rfl,Uc H.out,(Vv _ _).alloc (Vu _) _⟩
theorem RQ(ad:Q02)(len cap:Nat)(w:af):
  Calls prog 9 #[.slice ad len cap] w fun e w'=>e=.returned (.bool (decide ((1048576:Int)<(len:Int))))/\w'=w:=by
 go_enter func9,ntmps9;go_wp2;go_ret;exact⟨rfl,rfl⟩
def Ud(R B k:Nat)(v:Value)(w:World):Prop:=(k=11->∃g,v=.pointer (some ⟨g,0,none⟩)/\Aj w R B g)/\(k≠11->Kd.ok R w v (Gy [.strs 5,.eq (Value.pointer (some ⟨R,0,none⟩)),.idx 5,.elt 5,.str,.strs 3,.eq (Value.pointer (some ⟨R,0,none⟩)),.idx 3,.elt 3,.str,.obj] k))
theorem Ud.only{R B k:Nat}{v:Value}{w w':af}(h:Ud R B k v w)(ho:Only R w w'):Ud R B k v w' :=
 ⟨fun e=>by obtain⟨g,e1,hg⟩:=h.1 e;exact⟨g,e1,hg.only ho⟩,fun e=>Kd.only ho _ (h.2 e)⟩
theorem Ud.no{R B k:Nat}{v:Value}{w:af}(hk:k≠11)(h:Kd.ok R w v (Gy [.strs 5,.eq (Value.pointer (some ⟨R,0,none⟩)),.idx 5,.elt 5,.str,.strs 3,.eq (Value.pointer (some ⟨R,0,none⟩)),.idx 3,.elt 3,.str,.obj] k)):Ud R B k v w:=⟨fun e=>absurd e hk,fun _=>h⟩
set_option maxRecDepth 4000 in
theorem Ak(R:Nat)(ad:Q02)(len cap:Nat)(w:af)(h:Rd w R ad len cap):
  Calls prog 256 #[.pointer (some ⟨R,0,none⟩)] w fun e w'=>(∃a b:ByteArray,e=.returned (.agg #[.string a,.string b])/\a.size<=20/\b.size<=20)/\Rd w' R ad len cap/\Only R w w':=by
 have H:=az h;have hRw:=h.lt;have FAR:Hid (∀g,w.heap.size<=g->0<len->∀b off,ad=some ⟨b,off,none⟩->b≠g):=fun g hg h0 b off e=>by
  obtain⟨b',off',e',-,hb',-⟩:=h.bytes h0;rw[e]at e';injection e' with e';injection e' with e1 e2;omega
 clear h;go_enter func256,ntmps256;go_wp2_with fail;refine bC 12 _ _ (fun k v w'=>Ud R (w.heap.size+1) k v w') (fun w'=>Rd w' R ad len cap/\Only R (w.alloc (.cells #[.string ⟨#[]⟩,.string ⟨#[]⟩] 27)) w') (by kernel_rfl) rfl (by kernel_rfl) (by kernel_rfl) (yt [(3,[11,0,1,2,3,4,5,6,7,8,9,10])]) ⟨H.out.below (((Vv _ _).alloc (Vu _) _).drew),(Only.refl _ _).drewN 1⟩ ?step ?fin<;>dsimp only[wY];case step =>
  rintro i hi o ho f w' ⟨hR',XF⟩ hpre;have HR:=az hR';have HO:=az XF;have hsz:w.heap.size+1<=w'.heap.size:=by have:=XF.size;simpa using this
  have hRl:R<w'.heap.size:=hR'.lt;have HM:Hid (∀e∈o.after,Region.binds .any e=true->Ud R (w.heap.size+1) e.on (f e.on) w'):=hpre;have KAL:Hid (∀ob:Obj,Only R w' (w'.alloc ob)):=fun ob=>(Only.refl R w').alloc ob;clear hR' XF hpre;have hc:=Li (i:=i) (by omega);clear hi
  repeat' rcases hc with rfl|hc
  ·cases ho;refine aa rfl fun K HK=>?_;clear HM;dsimp only;go_simp;exact HK.out _ _ ⟨_,by simp[upd],⟨HR.out.alloc _,HO.out.alloc _⟩,.no (by decide) ⟨_,rfl,iD w' R hRl (xs:=[_,_,_,_,_]) (by decide)⟩,fun k u hu=>hu.only (KAL.out _)⟩
  ·cases ho;refine aa rfl fun K HK=>?_;clear HM;dsimp only;go_simp;exact HK.out _ _ ⟨Value.pointer (some ⟨R,0,none⟩),by simp[upd],⟨HR.out,HO.out⟩,.no (by decide) rfl,fun k u hu=>hu⟩
  ·cases ho;have e1:f 1=Value.pointer (some ⟨R,0,none⟩):=(HM.out ⟨1,.data⟩ (by simp) rfl).2 (by decide);refine aa rfl fun K HK=>?_;clear HM;simp only[e1];go_simp;refine(dF R ad len cap 5 _ HR.out (by omega) (by omega)).mono ?_;rintro e w5 ⟨⟨x,rfl,hx0,hx1⟩,Xz,XV⟩;obtain⟨x,rfl⟩:∃y:Nat,x=(y:Int):=⟨x.toNat,by omega⟩;have XE:Hid (Rd w5 R ad len cap/\Only R w' w5):=⟨Xz,XV⟩;clear Xz XV;go_wp2_with fail;exact HK.out _ _ ⟨.int .i64 (x:Int),by simp[upd,e1],⟨XE.out.1,HO.out.trans XE.out.2⟩,.no (by decide) ⟨x,rfl,by omega⟩,fun k u hu=>hu.only XE.out.2⟩
  ·cases ho;obtain⟨g,e1,hS⟩:=(HM.out ⟨0,.data⟩ (by simp) rfl).2 (by decide);obtain⟨x,e2,hx⟩:=(HM.out ⟨2,.data⟩ (by simp) rfl).2 (by decide);replace e1:f 0=_:=e1;replace e2:f 2=_:=e2;have HS:=az hS;clear hS;have hx0:=bI x;have hx1:(x:Int)<5:=by omega
   refine aa rfl fun K HK=>?_;clear HM;simp only[e1,e2];go_simp;exact HK.out _ _ ⟨.pointer (some ⟨g,x,none⟩),by simp[upd,e1,e2],⟨HR.out,HO.out⟩,.no (by decide) ⟨g,x,rfl,hx,HS.out⟩,fun k u hu=>hu⟩
  ·cases ho;obtain⟨g,x,e1,hx,hS⟩:=(HM.out ⟨3,.data⟩ (by simp) rfl).2 (by decide);replace e1:f 3=_:=e1;obtain⟨t,ht,hcell⟩:=hS.2.2 x hx;clear hS;refine aa rfl fun K HK=>?_;clear HM;simp only[e1];go_simp;exact HK.out _ _ ⟨.string t,by simp[upd,e1],⟨HR.out,HO.out⟩,.no (by decide) ⟨t,rfl,ht⟩,fun k u hu=>hu⟩
  ·cases ho;refine aa rfl fun K HK=>?_;clear HM;dsimp only;go_simp;exact HK.out _ _ ⟨_,by simp[upd],⟨HR.out.alloc _,HO.out.alloc _⟩,.no (by decide) ⟨_,rfl,iD w' R hRl (xs:=[_,_,_]) (by decide)⟩,fun k u hu=>hu.only (KAL.out _)⟩
  ·cases ho;refine aa rfl fun K HK=>?_;clear HM;dsimp only;go_simp;exact HK.out _ _ ⟨Value.pointer (some ⟨R,0,none⟩),by simp[upd],⟨HR.out,HO.out⟩,.no (by decide) rfl,fun k u hu=>hu⟩
  ·cases ho;have e1:f 6=Value.pointer (some ⟨R,0,none⟩):=(HM.out ⟨6,.data⟩ (by simp) rfl).2 (by decide);refine aa rfl fun K HK=>?_;clear HM;simp only[e1];go_simp;refine(dF R ad len cap 3 _ HR.out (by omega) (by omega)).mono ?_;rintro e w5 ⟨⟨x,rfl,hx0,hx1⟩,Xz,XV⟩;obtain⟨x,rfl⟩:∃y:Nat,x=(y:Int):=⟨x.toNat,by omega⟩;have XE:Hid (Rd w5 R ad len cap/\Only R w' w5):=⟨Xz,XV⟩;clear Xz XV;go_wp2_with fail;exact HK.out _ _ ⟨.int .i64 (x:Int),by simp[upd,e1],⟨XE.out.1,HO.out.trans XE.out.2⟩,.no (by decide) ⟨x,rfl,by omega⟩,fun k u hu=>hu.only XE.out.2⟩
  ·cases ho;obtain⟨g,e1,hS⟩:=(HM.out ⟨5,.data⟩ (by simp) rfl).2 (by decide);obtain⟨x,e2,hx⟩:=(HM.out ⟨7,.data⟩ (by simp) rfl).2 (by decide);replace e1:f 5=_:=e1;replace e2:f 7=_:=e2;have HS:=az hS;clear hS;have hx0:=bI x;have hx1:(x:Int)<3:=by omega
   refine aa rfl fun K HK=>?_;clear HM;simp only[e1,e2];go_simp;exact HK.out _ _ ⟨.pointer (some ⟨g,x,none⟩),by simp[upd,e1,e2],⟨HR.out,HO.out⟩,.no (by decide) ⟨g,x,rfl,hx,HS.out⟩,fun k u hu=>hu⟩
  ·cases ho;obtain⟨g,x,e1,hx,hS⟩:=(HM.out ⟨8,.data⟩ (by simp) rfl).2 (by decide);replace e1:f 8=_:=e1;obtain⟨t,ht,hcell⟩:=hS.2.2 x hx;clear hS;refine aa rfl fun K HK=>?_;clear HM;simp only[e1];go_simp;exact HK.out _ _ ⟨.string t,by simp[upd,e1],⟨HR.out,HO.out⟩,.no (by decide) ⟨t,rfl,ht⟩,fun k u hu=>hu⟩
  ·cases ho;obtain⟨t,e1,ht⟩:=(HM.out ⟨4,.data⟩ (by simp) rfl).2 (by decide);obtain⟨u,e2,hu⟩:=(HM.out ⟨9,.data⟩ (by simp) rfl).2 (by decide);replace e1:f 4=_:=e1;replace e2:f 9=_:=e2;refine aa rfl fun K HK=>?_;clear HM;simp only[e1,e2];go_simp;exact HK.out _ _ ⟨.agg #[.string t,.string u],by simp[upd,e1,e2],⟨HR.out,HO.out⟩,.no (by decide) ⟨t,u,rfl,ht,hu⟩,fun k u hu=>hu⟩
  cases ho;refine aa rfl fun K HK=>?_;clear HM;dsimp only;go_simp;exact HK.out _ _ ⟨_,by simp[upd],⟨HR.out.alloc _,HO.out.alloc _⟩,⟨fun _=>⟨_,rfl,MN hRl hsz⟩,fun e=>absurd rfl e⟩,fun k u hu=>hu.only (KAL.out _)⟩
 case fin =>
  rintro o ho f w0 ⟨hR',XF⟩ hall;obtain⟨g,e1,hg⟩:=(hall 11 (by omega)).1 rfl;obtain⟨t,u,e2,ht,hu⟩:=(hall 10 (by omega)).2 (by decide);replace e1:f 11=_:=e1;replace e2:f 10=_:=e2;obtain⟨hgR,hgB,hgl,hgf,ta,tb,_,_,ca,cb⟩:=hg;obtain⟨w',hw'⟩:∃w',w'=(w0.setCell ⟨g,0,none⟩ (.string t)).setCell ⟨g,1,none⟩ (.string u):=⟨_,rfl⟩;have hg:Aj w' R (w.heap.size+1) g:=by rw[hw'];exact MO hgR hgB hgl hgf ca cb ht hu
  have hR:Rd w' R ad len cap:=by rw[hw'];exact(hR'.setFar hgR (FAR.out _ (by omega))).setFar hgR (FAR.out _ (by omega))
  have hO:Only R (w.alloc (.cells #[.string ⟨#[]⟩,.string ⟨#[]⟩] 27)) w':=by rw[hw'];exact(XF.setNew (by simpa using hgB)).setNew (by simpa using hgB)
  clear hR' XF hall;obtain rfl:=Option.some.inj ho;clear ho;refine aa rfl fun K HK=>?_;simp only[e1,e2];go_simp;rw[<-hw'];refine HK.out _ _ ?_;clear HK hw' hgR hgl hgf ca cb ht hu;have hOw:Only R w w':=(Only.of_below ((Vv _ _).alloc (Vu _) _)).trans hO;have hnR:w.heap.size≠R:=by omega
  have hn0:w'.cell? ⟨w.heap.size,0,none⟩=some (.string ⟨#[]⟩):=by rw[hO.cell (by simp) hnR];simp
  have hn1:w'.cell? ⟨w.heap.size,1,none⟩=some (.string ⟨#[]⟩):=by rw[hO.cell (by simp) hnR];simp
  have hnf:∀o,w'.frozen? ⟨w.heap.size,o,none⟩=false:=fun o=>by rw[hO.frozen (by simp) hnR];simp
  have hsz:w.heap.size<w'.heap.size:=by have:=hO.size;simp at this;omega
  have HR:=az hR;have HOw:=az hOw;have HG:=az hg;clear hR hO hOw hg;go_wp2_with fail;refine(kK R ad len cap 30 _ HR.out (by omega) (by omega)).mono ?_;rintro e w1 ⟨⟨x,rfl⟩,Xq,Xw⟩;have HR1:=az Xq;have Xf:Hid (Only R w w1):=HOw.out.trans Xw;have HG1:=az (HG.out.only Xw);have m0:w1.cell? ⟨w.heap.size,0,none⟩=some (.string ⟨#[]⟩):=by rw[Xw.cell hsz hnR];exact hn0
  have m1:w1.cell? ⟨w.heap.size,1,none⟩=some (.string ⟨#[]⟩):=by rw[Xw.cell hsz hnR];exact hn1
  have mf:∀o,w1.frozen? ⟨w.heap.size,o,none⟩=false:=fun o=>by rw[Xw.frozen hsz hnR];exact hnf o
  have hs1:w.heap.size<w1.heap.size:=Vt hsz Xw.size;have hR1l:R<w1.heap.size:=Xq.lt;clear hn0 hn1 hnf Xq Xw HR HOw HG;obtain⟨hgR,-,hgl,hgf,ta,tb,hta,htb,ca,cb⟩:=HG1.out;have hgn:g≠w.heap.size:=by omega
  cases x;case false=>
   go_wp2;exact bodyPost_ret (v:=.agg #[.string ta,.string tb]) (by simp[results,Tryz.results256,go_sem, *]) rfl ⟨⟨ta,tb,rfl,hta,htb⟩,(HR1.out.setFar hnR (FAR.out _ (Vu _))).setFar hnR (FAR.out _ (Vu _)),(Xf.out.setNew (Vu _)).setNew (Vu _)⟩
  go_wp2_with fail;refine(dF R ad len cap 4 _ (HR1.out.below ((Vv _ _).alloc (Vu _) _)) (by omega) (by omega)).mono ?_;rintro e w2 ⟨⟨x,rfl,hx0,hx1⟩,hR2,hO2⟩;have ZU:Only R w1 w2:=(Only.of_below ((Vv _ _).alloc (Vu _) _)).trans hO2;have hSt:=(iD w1 R hR1l (t:=9) (xs:=[⟨#[]⟩,⟨#[65]⟩,⟨#[97,95,49]⟩,⟨#[97,98,99,100,101,102,103,104,105,106,107,108,109]⟩]) (by decide)).only hO2;obtain⟨y,rfl⟩:∃y:Nat,x=(y:Int):=⟨x.toNat,by omega⟩;obtain⟨t,ht,hct⟩:=hSt.2.2 y (by simp;omega);have k0:w2.cell? ⟨w.heap.size,0,none⟩=some (.string ⟨#[]⟩):=by rw[ZU.cell hs1 hnR];exact m0
  have k1:w2.cell? ⟨w.heap.size,1,none⟩=some (.string ⟨#[]⟩):=by rw[ZU.cell hs1 hnR];exact m1
  have kf:∀o,w2.frozen? ⟨w.heap.size,o,none⟩=false:=fun o=>by rw[ZU.frozen hs1 hnR];exact mf o
  have ka:w2.cell? ⟨g,0,none⟩=some (.string ta):=by rw[ZU.cell hgl hgR];exact ca
  have kb:w2.cell? ⟨g,1,none⟩=some (.string tb):=by rw[ZU.cell hgl hgR];exact cb
  have kg:∀o,w2.frozen? ⟨g,o,none⟩=false:=fun o=>by rw[ZU.frozen hgl hgR];exact hgf o
  have HR2:=az hR2;have WY:Hid (Only R w w2):=Xf.out.trans ZU;clear hR2 hO2 ZU hSt m0 m1 mf ca cb hgf HR1 Xf HG1;go_wp2;exact bodyPost_ret (v:=.agg #[.string ta,.string t]) (by simp[results,Tryz.results256,go_sem, *]) rfl ⟨⟨ta,t,rfl,hta,ht⟩,((HR2.out.setFar hgR (FAR.out _ (by omega))).setFar hnR (FAR.out _ (Vu _))).setFar hnR (FAR.out _ (Vu _)),((WY.out.setNew (by omega)).setNew (Vu _)).setNew (Vu _)⟩
theorem ET{w a:af}{R:Nat}{ad:Q02}{len cap:Nat}{v0 v1 v2 v3 v4 v5:Value}(h:Rd w R ad len cap)(ho:Only R a w)(hn:a.heap.size≠R)(hf:∀g,a.heap.size<=g->0<len->∀b off,ad=some ⟨b,off,none⟩->b≠g):
  Rd ((((((w.setCell ⟨a.heap.size,0,none⟩ v0).setCell ⟨a.heap.size,1,none⟩ v1).setCell ⟨a.heap.size,2,none⟩ v2).setCell ⟨a.heap.size,3,none⟩ v3).setCell ⟨a.heap.size,4,none⟩ v4).setCell ⟨a.heap.size,5,none⟩ v5) R ad len cap/\Only R a ((((((w.setCell ⟨a.heap.size,0,none⟩ v0).setCell ⟨a.heap.size,1,none⟩ v1).setCell ⟨a.heap.size,2,none⟩ v2).setCell ⟨a.heap.size,3,none⟩ v3).setCell ⟨a.heap.size,4,none⟩ v4).setCell ⟨a.heap.size,5,none⟩ v5):=by
 have F:=hf _ (Vu _);have N:=Vu a.heap.size;exact⟨(((((h.setFar hn F).setFar hn F).setFar hn F).setFar hn F).setFar hn F).setFar hn F,(((((ho.setNew N).setNew N).setNew N).setNew N).setNew N).setNew N⟩
theorem xD{p:Prop}(h:p):Hid p:=h
set_option maxRecDepth 4000 in
theorem MP(R:Nat)(ad:Q02)(len cap:Nat)(w:af)(h:Rd w R ad len cap):
    Calls prog 181 #[.pointer (some ⟨R,0,none⟩)] w fun e w'=>(∃a b r c d s:ByteArray,e=.returned (.agg #[.string a,.string b,.string r,.string c,.string d,.string s])/\a.size<=20/\b.size<=20/\r.size<=20/\c.size<=20/\d.size<=20/\s.size<=20)/\Rd w' R ad len cap/\Only R w w':=by
  have H:=az h;have hRw:=h.lt;have FAR:Hid (∀g,w.heap.size<=g->0<len->∀b off,ad=some ⟨b,off,none⟩->b≠g):=fun g hg h0 b off e=>by
    obtain⟨b',off',e',-,hb',-⟩:=h.bytes h0;rw[e]at e';injection e' with e';injection e' with e1 e2;omega
  clear h;go_enter func181,ntmps181;go_wp2_with fail;refine(dF R ad len cap 3 _ ((H.out.alloc _).alloc _) (by omega) (by omega)).mono ?_;rintro e w1 ⟨⟨x,rfl,hx0,hx1⟩,Xq,Xw⟩;obtain⟨y,rfl⟩:∃y:Nat,x=(y:Int):=⟨x.toNat,by omega⟩;have hSt:=(iD (w.alloc _) R (by simp;omega) (t:=9) (xs:=[⟨#[97]⟩,⟨#[98]⟩,⟨#[99]⟩]) (by decide)).only Xw;obtain⟨t1,ht1,hc1⟩:=hSt.2.2 y (by simp;omega);simp only[World.size_alloc]at hc1;have Xf:Hid (Only R w w1):=(((Only.refl R w).alloc _).alloc _).trans Xw;have HN1:Hid (Ub w1 R w.heap.size):=((RO hRw _).only ((Only.refl R _).alloc _)).only Xw;have HR1:=az Xq;have hl1:=Xq.lt;clear Xq Xw hSt;go_wp2_with fail;refine(dF R ad len cap 3 _ (HR1.out.alloc _) (by omega) (by omega)).mono ?_;rintro e w2 ⟨⟨x,rfl,hx2,hx3⟩,hR2,hO2⟩;obtain⟨y2,rfl⟩:∃y:Nat,x=(y:Int):=⟨x.toNat,by omega⟩;have hSt:=(iD w1 R hl1 (t:=9) (xs:=[⟨#[120]⟩,⟨#[121]⟩,⟨#[122]⟩]) (by decide)).only hO2;obtain⟨t2,ht2,hc2⟩:=hSt.2.2 y2 (by simp;omega);have WY:Hid (Only R w w2):=(Xf.out.alloc _).trans hO2;have HN2:Hid (Ub w2 R w.heap.size):=(HN1.out.only ((Only.refl R _).alloc _)).only hO2;have HR2:=az hR2;have hl2:=hR2.lt;clear hR2 hO2 hSt hc1 Xf HN1 HR1;go_wp2_with fail;refine(dF R ad len cap 2 _ ((HR2.out.alloc _).alloc _) (by omega) (by omega)).mono ?_;rintro e w3 ⟨⟨x,rfl,hx4,hx5⟩,YZ,hO3⟩;obtain⟨y3,rfl⟩:∃y:Nat,x=(y:Int):=⟨x.toNat,by omega⟩;have hSt:=(iD (w2.alloc _) R (by simp;omega) (t:=9) (xs:=[⟨#[103]⟩,⟨#[104]⟩]) (by decide)).only hO3;obtain⟨t3,ht3,hc3⟩:=hSt.2.2 y3 (by simp;omega);simp only[World.size_alloc]at hc3;have Xv:Hid (Only R w w3):=((WY.out.alloc _).alloc _).trans hO3;have HN3:Hid (Ub w3 R w.heap.size):=(HN2.out.only (((Only.refl R _).alloc _).alloc _)).only hO3;have HU3:Hid (Ob w3 R w2.heap.size ⟨#[117,115,101,114]⟩ t2):=((EO hl2 27 _ _).alloc _).only hO3;have HR3:=az YZ;have hl3:=YZ.lt;clear YZ hO3 hSt hc2 WY HN2 HR2;go_wp2_with fail;refine(dF R ad len cap 11 _ (((HR3.out.alloc _).alloc _).alloc _) (by omega) (by omega)).mono ?_;rintro e w4 ⟨⟨x,rfl,hx6,hx7⟩,ZT,hO4⟩;obtain⟨y4,rfl⟩:∃y:Nat,x=(y:Int):=⟨x.toNat,by omega⟩;have Xr:Hid (Only R w w4):=(((Xv.out.alloc _).alloc _).alloc _).trans hO4;have HR4:=az ZT;obtain⟨hnR,hnl,hnf,hnc⟩:=(HN3.out.only ((((Only.refl R _).alloc _).alloc _).alloc _)).only hO4;obtain⟨huR,hul,hu0,hu1⟩:=(((HU3.out.alloc _).alloc _).alloc _).only hO4;obtain⟨hgR,hgl,hg0,hg1⟩:=(((EO hl3 27 ⟨#[103,114,111,117,112]⟩ t3).alloc _).alloc _).only hO4;obtain⟨hdR,hdl,hd0,hd1⟩:=((EO (w:=w3.alloc _) (R:=R) (by simp;omega) 27 ⟨#[100,111,99]⟩ t1).alloc _).only hO4;obtain⟨ZV,hil,hi0,hi1⟩:=(EO (w:=(w3.alloc _).alloc _) (R:=R) (by simp;omega) 27 ⟨#[100,105,114]⟩ ⟨#[100]⟩).only hO4;simp only[World.size_alloc]at hdR hdl hd0 hd1 ZV hil hi0 hi1;have n0:=hnc 0 (by omega);have n1:=hnc 1 (by omega);have n2:=hnc 2 (by omega);have n3:=hnc 3 (by omega);have n4:=hnc 4 (by omega);have n5:=hnc 5 (by omega);clear hnc ZT hO4 hc3 Xv HN3 HR3 HU3 hx0 hx1 hx2 hx3 hx4 hx5 hx6;have hy:(y4=1\/y4=2\/y4=8)\/y4=0\/y4=3\/y4=4\/y4=5\/y4=6\/y4=7\/y4=9\/y4=10:=by omega
  clear hx7;rcases hy with hy|rfl|rfl|rfl|rfl|rfl|rfl|rfl|rfl
  · rcases hy with rfl|rfl|rfl
    case' inl =>
      have HA:=And.intro hgR (And.intro hgl (And.intro hg0 hg1));have HB:=xD (fun w h=>dF R ad len cap 2 w h (by omega) (by omega));have HN:=xD (fun w h=>iD w R h (t:=9) (xs:=[⟨#[103]⟩,⟨#[104]⟩]) (by decide));have m1:=trivial;go_wp2_with fail;refine bC 8 _ _ (fun k v w'=>Kd.ok R w' v (Gy [.eq (Value.agg #[.string ⟨#[103,114,111,117,112]⟩,.string t3]),.strs 2,.eq (Value.pointer (some ⟨R,0,none⟩)),.idx 2,.elt 2,.str,.obj,.tup] k)) (fun w'=>Rd w' R ad len cap/\Only R w w'/\Only R w4 w') (by kernel_rfl) rfl (by kernel_rfl) (by kernel_rfl) (yt [(52,[0,1,2,3,4,5,6,7])]) ⟨HR4.out.below (Vv _ _).drew,Xr.out.drewN 1,(Only.refl _ _).drewN 1⟩ ?_ ?_<;>dsimp only[wY]
    case' inr.inl =>
      have HA:=And.intro hdR (And.intro hdl (And.intro hd0 hd1));have HB:=xD (fun w h=>dF R ad len cap 3 w h (by omega) (by omega));have HN:=xD (fun w h=>iD w R h (t:=9) (xs:=[⟨#[97]⟩,⟨#[98]⟩,⟨#[99]⟩]) (by decide));have m2:=trivial;go_wp2_with fail;refine bC 8 _ _ (fun k v w'=>Kd.ok R w' v (Gy [.eq (Value.agg #[.string ⟨#[100,111,99]⟩,.string t1]),.strs 3,.eq (Value.pointer (some ⟨R,0,none⟩)),.idx 3,.elt 3,.str,.obj,.tup] k)) (fun w'=>Rd w' R ad len cap/\Only R w w'/\Only R w4 w') (by kernel_rfl) rfl (by kernel_rfl) (by kernel_rfl) (yt [(62,[0,1,2,3,4,5,6,7])]) ⟨HR4.out.below (Vv _ _).drew,Xr.out.drewN 1,(Only.refl _ _).drewN 1⟩ ?_ ?_<;>dsimp only[wY]
    case' inr.inr =>
      have HA:=And.intro ZV (And.intro hil (And.intro hi0 hi1));have HB:=xD (fun w h=>dF R ad len cap 2 w h (by omega) (by omega));have HN:=xD (fun w h=>iD w R h (t:=9) (xs:=[⟨#[115,101,101]⟩,⟨#[111,119,110,101,114]⟩]) (by decide));have m8:=trivial;go_wp2_with fail;refine bC 8 _ _ (fun k v w'=>Kd.ok R w' v (Gy [.eq (Value.agg #[.string ⟨#[100,105,114]⟩,.string ⟨#[100]⟩]),.strs 2,.eq (Value.pointer (some ⟨R,0,none⟩)),.idx 2,.elt 2,.str,.eq (Value.agg #[.string ⟨#[117,115,101,114]⟩,.string t2]),.tup] k)) (fun w'=>Rd w' R ad len cap/\Only R w w'/\Only R w4 w') (by kernel_rfl) rfl (by kernel_rfl) (by kernel_rfl) (yt [(37,[0,1,2,3,4,5,6,7])]) ⟨HR4.out.below (Vv _ _).drew,Xr.out.drewN 1,(Only.refl _ _).drewN 1⟩ ?_ ?_<;>dsimp only[wY]
    iterate 3
      · rintro i hi o ho f w' ⟨hR',XF,Xt⟩ hpre;have HR:=az hR';have HO:=az XF;have HP:=az Xt;have hRl:R<w'.heap.size:=hR'.lt;have HM:Hid (∀e∈o.after,Region.binds .any e=true->_):=hpre;clear hR' XF Xt hpre n0 n1 n2 n3 n4 n5 hnf;obtain⟨haR,hal,ha0,ha1⟩:=HA;have KAL:Hid (∀ob:Obj,Only R w' (w'.alloc ob)):=fun ob=>(Only.refl R w').alloc ob;have hc:=TK (i:=i) (by omega);clear hi
        repeat' rcases hc with rfl|hc
        · cases ho;have c0:=(HP.out.cell (o:=0) hal haR).trans ha0;have c1:=(HP.out.cell (o:=1) hal haR).trans ha1;refine aa rfl fun K HK=>?_;clear HM;dsimp only;go_simp;exact HK.out _ _ ⟨_,by simp[upd],⟨HR.out,HO.out,HP.out⟩,rfl,fun k u hu=>hu⟩
        · cases ho;refine aa rfl fun K HK=>?_;clear HM;dsimp only;go_simp;exact HK.out _ _ ⟨_,by simp[upd],⟨HR.out.alloc _,HO.out.alloc _,HP.out.alloc _⟩,⟨_,rfl,HN.out w' hRl⟩,fun k u hu=>Kd.only (KAL.out _) _ hu⟩
        · cases ho;refine aa rfl fun K HK=>?_;clear HM;dsimp only;go_simp;exact HK.out _ _ ⟨Value.pointer (some ⟨R,0,none⟩),by simp[upd],⟨HR.out,HO.out,HP.out⟩,rfl,fun k u hu=>hu⟩
        · cases ho;have e1:f 2=Value.pointer (some ⟨R,0,none⟩):=HM.out ⟨2,.data⟩ (by simp) rfl;refine aa rfl fun K HK=>?_;clear HM;simp only[e1];go_simp;refine(HB.out _ HR.out).mono ?_;rintro e w5 ⟨⟨x,rfl,hx0,hx1⟩,Xz,XV⟩;obtain⟨x,rfl⟩:∃y:Nat,x=(y:Int):=⟨x.toNat,by omega⟩;have XE:=az Xz;have Xa:=az XV;clear Xz XV;go_wp2_with fail;exact HK.out _ _ ⟨.int .i64 (x:Int),by simp[upd,e1],⟨XE.out,HO.out.trans Xa.out,HP.out.trans Xa.out⟩,⟨x,rfl,by omega⟩,fun k u hu=>Kd.only Xa.out _ hu⟩
        · cases ho;obtain⟨g,e1,hS⟩:=HM.out ⟨1,.data⟩ (by simp) rfl;obtain⟨x,e2,hx⟩:=HM.out ⟨3,.data⟩ (by simp) rfl;replace e1:f 1=_:=e1;replace e2:f 3=_:=e2;have HS:Hid _:=hS;clear hS;have hx0:=bI x
          first|have hx1:(x:Int)<2:=by omega|have hx1:(x:Int)<3:=by omega
          refine aa rfl fun K HK=>?_;clear HM;simp only[e1,e2];go_simp;exact HK.out _ _ ⟨.pointer (some ⟨g,x,none⟩),by simp[upd,e1,e2],⟨HR.out,HO.out,HP.out⟩,⟨g,x,rfl,hx,HS.out⟩,fun k u hu=>hu⟩
        · cases ho;obtain⟨g,x,e1,hx,hS⟩:=HM.out ⟨4,.data⟩ (by simp) rfl;replace e1:f 4=_:=e1;obtain⟨t,ht,hcell⟩:=hS.2.2 x hx;clear hS;refine aa rfl fun K HK=>?_;clear HM;simp only[e1];go_simp;exact HK.out _ _ ⟨.string t,by simp[upd,e1],⟨HR.out,HO.out,HP.out⟩,⟨t,rfl,ht⟩,fun k u hu=>hu⟩
        · cases ho
          first
            | (clear m8
               have c0:=(HP.out.cell (o:=0) hul huR).trans hu0;have c1:=(HP.out.cell (o:=1) hul huR).trans hu1;refine aa rfl fun K HK=>?_;clear HM;dsimp only;go_simp;exact HK.out _ _ ⟨Value.agg #[.string ⟨#[117,115,101,114]⟩,.string t2],by simp[upd],⟨HR.out,HO.out,HP.out⟩,rfl,fun k u hu=>hu⟩)
            | (obtain ⟨t,e1,ht⟩:=HM.out ⟨5,.data⟩ (by simp) rfl
               replace e1:f 5=_:=e1;refine aa rfl fun K HK=>?_;clear HM;simp only[e1];go_simp
               first
                 | clear m1;exact HK.out _ _ ⟨.agg #[.string ⟨#[103,114,111,117,112]⟩,.string t],by simp[upd,e1],⟨HR.out,HO.out,HP.out⟩,⟨_,_,rfl,by decide,ht⟩,fun k u hu=>hu⟩
                 | exact HK.out _ _ ⟨.agg #[.string ⟨#[100,111,99]⟩,.string t],by simp[upd,e1],⟨HR.out,HO.out,HP.out⟩,⟨_,_,rfl,by decide,ht⟩,fun k u hu=>hu⟩)
        · cases ho
          first
            | (clear m1
               have ep:f 0=Value.agg #[.string ⟨#[103,114,111,117,112]⟩,.string t3]:=HM.out ⟨0,.data⟩ (by simp) rfl;obtain⟨qa,qb,eq,hqa,hqb⟩:=HM.out ⟨6,.data⟩ (by simp) rfl;replace eq:f 6=_:=eq;refine aa rfl fun K HK=>?_;clear HM;simp only[ep,eq];go_simp;exact HK.out _ _ ⟨.agg #[.string ⟨#[103,114,111,117,112]⟩,.string t3,.string ⟨#[109,101,109,98,101,114]⟩,.string qa,.string qb,.string ⟨#[109,101,109,98,101,114]⟩],by simp[upd,ep,eq],⟨HR.out,HO.out,HP.out⟩,⟨_,_,_,_,_,_,rfl,by decide,ht3,by decide,hqa,hqb,by decide⟩,fun k u hu=>hu⟩)
            | (clear m2
               have ep:f 0=Value.agg #[.string ⟨#[100,111,99]⟩,.string t1]:=HM.out ⟨0,.data⟩ (by simp) rfl;obtain⟨qa,qb,eq,hqa,hqb⟩:=HM.out ⟨6,.data⟩ (by simp) rfl;replace eq:f 6=_:=eq;refine aa rfl fun K HK=>?_;clear HM;simp only[ep,eq];go_simp;exact HK.out _ _ ⟨.agg #[.string ⟨#[100,111,99]⟩,.string t1,.string ⟨#[112,97,114,101,110,116]⟩,.string qa,.string qb,.string ⟨#[]⟩],by simp[upd,ep,eq],⟨HR.out,HO.out,HP.out⟩,⟨_,_,_,_,_,_,rfl,by decide,ht1,by decide,hqa,hqb,by decide⟩,fun k u hu=>hu⟩)
            | (clear m8
               have ep:f 0=Value.agg #[.string ⟨#[100,105,114]⟩,.string ⟨#[100]⟩]:=HM.out ⟨0,.data⟩ (by simp) rfl;obtain⟨t,e1,ht⟩:=HM.out ⟨5,.data⟩ (by simp) rfl;replace e1:f 5=_:=e1;have eq:f 6=Value.agg #[.string ⟨#[117,115,101,114]⟩,.string t2]:=HM.out ⟨6,.data⟩ (by simp) rfl;refine aa rfl fun K HK=>?_;clear HM;simp only[ep,e1,eq];go_simp;exact HK.out _ _ ⟨.agg #[.string ⟨#[100,105,114]⟩,.string ⟨#[100]⟩,.string t,.string ⟨#[117,115,101,114]⟩,.string t2,.string ⟨#[]⟩],by simp[upd,ep,e1,eq],⟨HR.out,HO.out,HP.out⟩,⟨_,_,_,_,_,_,rfl,by decide,by decide,ht,by decide,ht2,by decide⟩,fun k u hu=>hu⟩)
      · rintro o ho f w' ⟨hR',XF,Xt⟩ hall;have HR:=az hR';have HO:=az XF;obtain⟨pa,pb,pr,pc,pd,ps,e1,ha,hb,hr,hc,hd,hs⟩:=hall 7 (by omega);replace e1:f 7=_:=e1;replace n0:=(Xt.cell (o:=0) hnl hnR).trans n0;replace n1:=(Xt.cell (o:=1) hnl hnR).trans n1;replace n2:=(Xt.cell (o:=2) hnl hnR).trans n2;replace n3:=(Xt.cell (o:=3) hnl hnR).trans n3;replace n4:=(Xt.cell (o:=4) hnl hnR).trans n4;replace n5:=(Xt.cell (o:=5) hnl hnR).trans n5;replace hnf:=fun o=>(Xt.frozen (o:=o) hnl hnR).trans (hnf o);clear hR' XF Xt hall hu0 hu1 hg0 hg1 hd0 hd1 hi0 hi1;cases ho;refine wpOp_step rfl (fun K hK=>?_);have HK:Hid (∀a w,_->K a w):=hK;clear hK;simp only[e1];go_simp;refine HK.out _ _ ?_;clear HK;go_wp2;exact bodyPost_ret (v:=.agg #[.string pa,.string pb,.string pr,.string pc,.string pd,.string ps]) (by simp[results,Tryz.results181,go_sem, *]) rfl ⟨⟨_,_,_,_,_,_,rfl,ha,hb,hr,hc,hd,hs⟩,ET HR.out HO.out hnR FAR.out⟩
  · go_wp2;exact bodyPost_ret (v:=.agg #[.string ⟨#[103,114,111,117,112]⟩,.string t3,.string ⟨#[109,101,109,98,101,114]⟩,.string ⟨#[117,115,101,114]⟩,.string t2,.string ⟨#[]⟩]) (by simp[results,Tryz.results181,go_sem, *]) rfl ⟨⟨_,_,_,_,_,_,rfl,by decide,ht3,by decide,by decide,ht2,by decide⟩,ET HR4.out Xr.out hnR FAR.out⟩
  · go_wp2;exact bodyPost_ret (v:=.agg #[.string ⟨#[100,111,99]⟩,.string t1,.string ⟨#[101,100,105,116,111,114]⟩,.string ⟨#[117,115,101,114]⟩,.string t2,.string ⟨#[]⟩]) (by simp[results,Tryz.results181,go_sem, *]) rfl ⟨⟨_,_,_,_,_,_,rfl,by decide,ht1,by decide,by decide,ht2,by decide⟩,ET HR4.out Xr.out hnR FAR.out⟩
  · go_wp2;exact bodyPost_ret (v:=.agg #[.string ⟨#[100,111,99]⟩,.string t1,.string ⟨#[118,105,101,119,101,114]⟩,.string ⟨#[103,114,111,117,112]⟩,.string t3,.string ⟨#[109,101,109,98,101,114]⟩]) (by simp[results,Tryz.results181,go_sem, *]) rfl ⟨⟨_,_,_,_,_,_,rfl,by decide,ht1,by decide,by decide,ht3,by decide⟩,ET HR4.out Xr.out hnR FAR.out⟩
  · go_wp2;exact bodyPost_ret (v:=.agg #[.string ⟨#[100,111,99]⟩,.string t1,.string ⟨#[98,97,110,110,101,100]⟩,.string ⟨#[117,115,101,114]⟩,.string t2,.string ⟨#[]⟩]) (by simp[results,Tryz.results181,go_sem, *]) rfl ⟨⟨_,_,_,_,_,_,rfl,by decide,ht1,by decide,by decide,ht2,by decide⟩,ET HR4.out Xr.out hnR FAR.out⟩
  · go_wp2_with fail;refine bC 10 _ _ (fun k v w'=>Kd.ok R w' v (Gy [.eq (Value.pointer (some ⟨R,0,none⟩)),.obj,.strs 3,.eq (Value.pointer (some ⟨R,0,none⟩)),.idx 3,.elt 3,.str,.eq (Value.pointer (some ⟨R,0,none⟩)),.obj,.tup] k)) (fun w'=>Rd w' R ad len cap/\Only R w w'/\Only R w4 w') (by kernel_rfl) rfl (by kernel_rfl) (by kernel_rfl) (yt [(87,[0,1,2,3,4,5,6,7,8,9])]) ⟨HR4.out.below (Vv _ _).drew,Xr.out.drewN 1,(Only.refl _ _).drewN 1⟩ ?step ?fin<;>dsimp only[wY];case step =>
      rintro i hi o ho f w' ⟨hR',XF,Xt⟩ hpre;have HR:=az hR';have HO:=az XF;have HP:=az Xt;have hRl:R<w'.heap.size:=hR'.lt;have HM:Hid (∀e∈o.after,Region.binds .any e=true->_):=hpre;clear hR' XF Xt hpre n0 n1 n2 n3 n4 n5 hnf;have hc:=Lh (i:=i) (by omega);clear hi
      repeat' rcases hc with rfl|hc
      · cases ho;refine aa rfl fun K HK=>?_;clear HM;dsimp only;go_simp;exact HK.out _ _ ⟨Value.pointer (some ⟨R,0,none⟩),by simp[upd],⟨HR.out,HO.out,HP.out⟩,rfl,fun k u hu=>hu⟩
      · cases ho;have e1:f 0=Value.pointer (some ⟨R,0,none⟩):=HM.out ⟨0,.data⟩ (by simp) rfl;refine aa rfl fun K HK=>?_;clear HM;simp only[e1];go_simp;refine(Ak R ad len cap _ HR.out).mono ?_;rintro e w5 ⟨⟨xa,xb,rfl,hxa,hxb⟩,Xz,XV⟩;have XE:=az Xz;have Xa:=az XV;clear Xz XV;go_wp2_with fail;exact HK.out _ _ ⟨.agg #[.string xa,.string xb],by simp[upd,e1],⟨XE.out,HO.out.trans Xa.out,HP.out.trans Xa.out⟩,⟨xa,xb,rfl,hxa,hxb⟩,fun k u hu=>Kd.only Xa.out _ hu⟩
      · cases ho;have k1:Only R w' (w'.alloc (.cells #[.string ⟨#[118,105,101,119,101,114]⟩,.string ⟨#[109,101,109,98,101,114]⟩,.string ⟨#[112,97,114,101,110,116]⟩] 9)):=(Only.refl R w').alloc _;have K1:=az k1;clear k1;refine aa rfl fun K HK=>?_;clear HM;dsimp only;go_simp;exact HK.out _ _ ⟨.slice (some ⟨w'.heap.size,0,none⟩) 3 3,by simp[upd],⟨HR.out.alloc _,HO.out.alloc _,HP.out.alloc _⟩,⟨_,rfl,iD w' R hRl (xs:=[_,_,_]) (by decide)⟩,fun k u hu=>Kd.only K1.out _ hu⟩
      · cases ho;refine aa rfl fun K HK=>?_;clear HM;dsimp only;go_simp;exact HK.out _ _ ⟨Value.pointer (some ⟨R,0,none⟩),by simp[upd],⟨HR.out,HO.out,HP.out⟩,rfl,fun k u hu=>hu⟩
      · cases ho;have e1:f 3=Value.pointer (some ⟨R,0,none⟩):=HM.out ⟨3,.data⟩ (by simp) rfl;refine aa rfl fun K HK=>?_;clear HM;simp only[e1];go_simp;refine(dF R ad len cap 3 _ HR.out (by omega) (by omega)).mono ?_;rintro e w5 ⟨⟨x,rfl,hx0,hx1⟩,Xz,XV⟩;obtain⟨x,rfl⟩:∃y:Nat,x=(y:Int):=⟨x.toNat,by omega⟩;have XE:=az Xz;have Xa:=az XV;clear Xz XV;go_wp2_with fail;exact HK.out _ _ ⟨.int .i64 (x:Int),by simp[upd,e1],⟨XE.out,HO.out.trans Xa.out,HP.out.trans Xa.out⟩,⟨x,rfl,by omega⟩,fun k u hu=>Kd.only Xa.out _ hu⟩
      · cases ho;obtain⟨g,e1,hS⟩:=HM.out ⟨2,.data⟩ (by simp) rfl;obtain⟨x,e2,hx⟩:=HM.out ⟨4,.data⟩ (by simp) rfl;replace e1:f 2=_:=e1;replace e2:f 4=_:=e2;have HS:=az hS;clear hS;have hx0:=bI x;have hx1:(x:Int)<3:=by omega
        refine aa rfl fun K HK=>?_;clear HM;simp only[e1,e2];go_simp;exact HK.out _ _ ⟨.pointer (some ⟨g,x,none⟩),by simp[upd,e1,e2],⟨HR.out,HO.out,HP.out⟩,⟨g,x,rfl,hx,HS.out⟩,fun k u hu=>hu⟩
      · cases ho;obtain⟨g,x,e1,hx,hS⟩:=HM.out ⟨5,.data⟩ (by simp) rfl;replace e1:f 5=_:=e1;obtain⟨t,ht,hcell⟩:=hS.2.2 x hx;clear hS;refine aa rfl fun K HK=>?_;clear HM;simp only[e1];go_simp;exact HK.out _ _ ⟨.string t,by simp[upd,e1],⟨HR.out,HO.out,HP.out⟩,⟨t,rfl,ht⟩,fun k u hu=>hu⟩
      · cases ho;refine aa rfl fun K HK=>?_;clear HM;dsimp only;go_simp;exact HK.out _ _ ⟨Value.pointer (some ⟨R,0,none⟩),by simp[upd],⟨HR.out,HO.out,HP.out⟩,rfl,fun k u hu=>hu⟩
      · cases ho;have e1:f 7=Value.pointer (some ⟨R,0,none⟩):=HM.out ⟨7,.data⟩ (by simp) rfl;refine aa rfl fun K HK=>?_;clear HM;simp only[e1];go_simp;refine(Ak R ad len cap _ HR.out).mono ?_;rintro e w5 ⟨⟨xa,xb,rfl,hxa,hxb⟩,Xz,XV⟩;have XE:=az Xz;have Xa:=az XV;clear Xz XV;go_wp2_with fail;exact HK.out _ _ ⟨.agg #[.string xa,.string xb],by simp[upd,e1],⟨XE.out,HO.out.trans Xa.out,HP.out.trans Xa.out⟩,⟨xa,xb,rfl,hxa,hxb⟩,fun k u hu=>Kd.only Xa.out _ hu⟩
      · cases ho;obtain⟨pa,pb,ep,hpa,hpb⟩:=HM.out ⟨1,.data⟩ (by simp) rfl;replace ep:f 1=_:=ep;obtain⟨t,e1,ht⟩:=HM.out ⟨6,.data⟩ (by simp) rfl;replace e1:f 6=_:=e1;obtain⟨qa,qb,eq,hqa,hqb⟩:=HM.out ⟨8,.data⟩ (by simp) rfl;replace eq:f 8=_:=eq;refine aa rfl fun K HK=>?_;clear HM;simp only[ep,e1,eq];go_simp;exact HK.out _ _ ⟨.agg #[.string pa,.string pb,.string t,.string qa,.string qb,.string ⟨#[]⟩],by simp[upd,ep,e1,eq],⟨HR.out,HO.out,HP.out⟩,⟨_,_,_,_,_,_,rfl,hpa,hpb,ht,hqa,hqb,by decide⟩,fun k u hu=>hu⟩
    case fin =>
      rintro o ho f w' ⟨hR',XF,Xt⟩ hall;have HR:=az hR';have HO:=az XF;obtain⟨pa,pb,pr,pc,pd,ps,e1,ha,hb,hr,hc,hd,hs⟩:=hall 9 (by omega);replace e1:f 9=_:=e1;replace n0:=(Xt.cell (o:=0) hnl hnR).trans n0;replace n1:=(Xt.cell (o:=1) hnl hnR).trans n1;replace n2:=(Xt.cell (o:=2) hnl hnR).trans n2;replace n3:=(Xt.cell (o:=3) hnl hnR).trans n3;replace n4:=(Xt.cell (o:=4) hnl hnR).trans n4;replace n5:=(Xt.cell (o:=5) hnl hnR).trans n5;replace hnf:=fun o=>(Xt.frozen (o:=o) hnl hnR).trans (hnf o);clear hR' XF Xt hall hu0 hu1 hg0 hg1 hd0 hd1 hi0 hi1;cases ho;refine wpOp_step rfl (fun K hK=>?_);have HK:Hid (∀a w,_->K a w):=hK;clear hK;simp only[e1];go_simp;refine HK.out _ _ ?_;clear HK;go_wp2;exact bodyPost_ret (v:=.agg #[.string pa,.string pb,.string pr,.string pc,.string pd,.string ps]) (by simp[results,Tryz.results181,go_sem, *]) rfl ⟨⟨_,_,_,_,_,_,rfl,ha,hb,hr,hc,hd,hs⟩,ET HR.out HO.out hnR FAR.out⟩
  · go_wp2;exact bodyPost_ret (v:=.agg #[.string ⟨#[100,111,99]⟩,.string t1,.string ⟨#[112,97,114,101,110,116]⟩,.string ⟨#[100,105,114]⟩,.string ⟨#[100]⟩,.string ⟨#[]⟩]) (by simp[results,Tryz.results181,go_sem, *]) rfl ⟨⟨_,_,_,_,_,_,rfl,by decide,ht1,by decide,by decide,by decide,by decide⟩,ET HR4.out Xr.out hnR FAR.out⟩
  · go_wp2;exact bodyPost_ret (v:=.agg #[.string ⟨#[100,111,99]⟩,.string t1,.string ⟨#[118,105,101,119,101,114]⟩,.string ⟨#[117,115,101,114]⟩,.string t2,.string ⟨#[]⟩]) (by simp[results,Tryz.results181,go_sem, *]) rfl ⟨⟨_,_,_,_,_,_,rfl,by decide,ht1,by decide,by decide,ht2,by decide⟩,ET HR4.out Xr.out hnR FAR.out⟩
  · go_wp2;exact bodyPost_ret (v:=.agg #[.string ⟨#[100,111,99]⟩,.string t1,.string ⟨#[118,105,101,119,101,114]⟩,.string ⟨#[117,115,101,114]⟩,.string t2,.string ⟨#[]⟩]) (by simp[results,Tryz.results181,go_sem, *]) rfl ⟨⟨_,_,_,_,_,_,rfl,by decide,ht1,by decide,by decide,ht2,by decide⟩,ET HR4.out Xr.out hnR FAR.out⟩
section
variable  {P:Program}{ops:Array Oper}{Q:Exit->Act->World->Prop}
theorem Am{id:Nat}{a:Act}{w:af}(N:Nat)(f0:Nat->Value)(F:(Nat->Value)->Act)(V:Nat->Value->World->Prop)(G:Array Bool->World->Prop)
  (hm:P.follows .mixedOrders=true) (hsz:ops.size=N) (Xo:CS ops=true)
  (h0:a=F f0) (hG0:G (Array.replicate ops.size false) w.drew)
  (hstep:∀ i,i<N->∀ o,ops[i]?=some o->∀ (listed:Array Bool) f w',listed.size=N->listed.getD i true=false->G listed w'->(∀ e∈o.after,Region.binds .any e=true->V e.on (f e.on) w') ->
   wpOp P ops Q i (fun a' w''=>∃v,a'=F (upd f i v)/\G (listed.setIfInBounds i true) w''/\V i v w''/\∀k u,V k u w'->V k u w'') (F f) w')
  (hend:∀(listed:Array Bool) f w',(∀k,k<N->listed.getD k false=true)->G listed w'->(∀k,k<N->V k (f k) w')->Q .normal (F f) w') :
  (Code.region id ops true).wp P Q a w:=by
 refine eu (fun listed a' w'=>listed.size=N/\∃f,a'=F f/\G listed w'/\∀k,k<N->listed.getD k false=true->V k (f k) w') hm ?_ ?_ ?_
 ·refine⟨by simpa using hsz,_,h0,hG0,fun k _ h=>?_⟩;rw[VQ,Wh]at h;split at h<;>cases h
 ·rintro listed a' w' ⟨hs,f,rfl,hG,hV⟩ i hi;obtain⟨hl,o,ho,hpre⟩:=mem_ready.1 hi;have hiN:i<N:=by have:=(VC.1 ho).1;omega
  refine wpOp_mono ?_ (hstep i hiN o ho listed f w' hs hl hG (fun e he hb=>hV e.on (by have:=mh Xo i o ho e he;omega) (hpre e he hb)));rintro a'' w'' ⟨v,rfl,hG',hv,hmono⟩;refine⟨by simpa using hs,_,rfl,hG',fun k hk hkl=>?_⟩;rw[aK _ _ _ (by omega)]at hkl;by_cases ek:k=i
  ·subst ek;simpa[upd] using hv
  rw[if_neg ek]at hkl;simp only[upd,if_neg ek];exact hmono _ _ (hV k hk hkl)
 rintro listed a' w' ⟨hs,f,rfl,hG,hV⟩ hr;have hall:∀k,k<N->listed.getD k false=true:=fun k hk=>by
  have:=o9 hr hsz (mh Xo) hs k hk;rwa [jL (by omega)]at this
 exact hend listed f w' hall hG fun k hk=>hV k hk (hall k hk)
end
set_option linter.unusedVariables false
section
variable  {φ:Type}[DecidableEq φ]{rk:φ->Int}{H:List φ->φ->Bool}{qs:Nat->List φ}
def Lay(rk:φ->Int)(H:List φ->φ->Bool):Prop:=∀(a b:List φ) (f:φ),(∀g,rk g<rk f->(g∈a↔g∈b))->(∀g,rk g=rk f->g∈a->g∈b)->H a f=true->H b f=true
def rW(H:List φ->φ->Bool)(qs:Nat->List φ):Nat->List φ
 | 0=>[]
 | n+1=>mr H (qs n) (rW H qs n)
theorem qV(q out:List φ):∃new,mr H q out=out++new/\∀g∈new,g∈q:=xw q _ out
theorem Ao(hq:∀n,∀f∈qs n,rk f=(n:Int)):∀N,∀f∈rW H qs N,rk f<(N:Int)
 | 0,f,h=>by cases h
 | N+1,f,h=>by
  obtain⟨new,e,hn⟩:=qV (H:=H) (qs N) (rW H qs N);rw[rW,e]at h;rcases VJ.1 h with h|h
  ·have:=Ao hq N f h;omega
  have:=hq N f (hn f h);omega
theorem EU{n:Nat}{f:φ}(h:f∈rW H qs n):∀d,f∈rW H qs (n+d)
 | 0=>h
 | d+1=>by
  obtain⟨new,e,-⟩:=qV (H:=H) (qs (n+d)) (rW H qs (n+d));show f∈mr H (qs (n+d)) (rW H qs (n+d));rw[e];exact Ww _ (EU h d)
theorem Ap(hq:∀n,∀f∈qs n,rk f=(n:Int)){n:Nat}{f:φ}(hr:rk f<(n:Int)):∀d,f∈rW H qs (n+d)->f∈rW H qs n
 | 0,h=>h
 | d+1,h=>by
  obtain⟨new,e,hn⟩:=qV (H:=H) (qs (n+d)) (rW H qs (n+d));have h:f∈mr H (qs (n+d)) (rW H qs (n+d)):=h;rw[e]at h;rcases VJ.1 h with h|h
  ·exact Ap hq hr d h
  have:=hq _ f (hn f h);omega
def Good(rk:φ->Int)(H:List φ->φ->Bool)(n:Int)(s:List φ):Prop:=∀g∈s,rk g=n->H s g=true
theorem good_step(hL:Lay rk H){n:Int}{s:List φ}{f:φ}(h:Good rk H n s)(hf:rk f=n):Good rk H n (fD H s f):=by
 unfold fD;split
 ·exact h
 rename_i hn;have hH:H s f=true:=by
  cases e:H s f;case true=>rfl
  exact absurd (.inr e) hn
 have low:∀g:φ,rk g=n->∀x,rk x<rk g->(x∈s↔x∈s++[f]):=fun g hg x hx=>by
  refine⟨fun h=>Ww _ h,fun h=>?_⟩;rcases VJ.1 h with h|h
  ·exact h
  rw[VO]at h;rw[h]at hx;omega
 intro g hg hgn;rcases VJ.1 hg with hg|hg
 ·exact hL s _ g (low g hgn) (fun x _ hx=>Ww _ hx) (h g hg hgn)
 rw[VO]at hg;subst hg;exact hL s _ g (low g hgn) (fun x _ hx=>Ww _ hx) hH
theorem GG(hL:Lay rk H){n:Int}:∀(q:List φ) {s:List φ},(∀f∈q,rk f=n)->Good rk H n s->Good rk H n (dN H q s)
 | [],_,_,h=>h
 | f::q,s,hq,h=>GG hL q (fun g hg=>hq g (V7 _ hg)) (good_step hL h (hq f (Ws ..)))
theorem Dq(hL:Lay rk H){n:Int}(q:List φ)(hq:∀f∈q,rk f=n):∀(k:Nat) {s:List φ},Good rk H n s->Good rk H n (je H q k s)
 | 0,_,h=>h
 | k+1,s,h=>by
  unfold je;split
  ·exact h
  exact Dq hL q hq k (GG hL q hq h)
theorem RU(hL:Lay rk H)(hq:∀n,∀f∈qs n,rk f=(n:Int))(n:Nat):Good rk H (n:Int) (rW H qs (n+1)):=by
 refine Dq hL (qs n) (hq n) _ fun g hg hgn=>?_;have:=Ao hq n g hg;omega
theorem LC(hL:Lay rk H)(hq:∀n,∀f∈qs n,rk f=(n:Int)){n:Nat}{f:φ}(hf:rk f=(n:Int))(d:Nat):H (rW H qs (n+1)) f=true↔H (rW H qs (n+1+d)) f=true:=by
 have same:∀g,rk g<=(n:Int)->(g∈rW H qs (n+1)↔g∈rW H qs (n+1+d)):=fun g hg=>⟨fun h=>EU h d,fun h=>Ap hq (by omega) d h⟩;refine⟨hL _ _ f (fun g hg=>same g (by omega)) (fun g hg h=>(same g (by omega)).1 h),hL _ _ f (fun g hg=>(same g (by omega)).symm) (fun g hg h=>(same g (by omega)).2 h)⟩
theorem LD(hq:∀n,∀f∈qs n,rk f=(n:Int)):∀N,∀f∈rW H qs N,∃n,n<N/\f∈qs n
 | 0,f,h=>by cases h
 | N+1,f,h=>by
  obtain⟨new,e,hn⟩:=qV (H:=H) (qs N) (rW H qs N);rw[rW,e]at h;rcases VJ.1 h with h|h
  ·obtain⟨n,h1,h2⟩:=LD hq N f h;exact⟨n,by omega,h2⟩
  exact⟨N,by omega,hn f h⟩
theorem MQ(hL:Lay rk H)(hq:∀n,∀f∈qs n,rk f=(n:Int)){N:Nat}{f:φ}(h:f∈rW H qs N):H (rW H qs N) f=true:=by
 obtain⟨n,hn,hf⟩:=LD hq N f h;have hr:=hq n f hf;obtain⟨d,rfl⟩:∃d,N=n+1+d:=⟨N-(n+1),by omega⟩;rw[<-LC hL hq hr d];exact RU hL hq n f (Ap hq (by omega) d h) hr
theorem PE(hL:Lay rk H)(hq:∀n,∀f∈qs n,rk f=(n:Int)){N n:Nat}(hn:n<N){f:φ}(hf:f∈qs n)(h:H (rW H qs N) f=true):f∈rW H qs N:=by
 have hr:=hq n f hf;obtain⟨d,rfl⟩:∃d,N=n+1+d:=⟨N-(n+1),by omega⟩;rw[<-LC hL hq hr d]at h;have hfix:=O4 (H:=H) (qs n) (rW H qs n);rcases (Co.1 hfix) f hf with h1|h1
 ·exact EU (show f∈rW H qs (n+1) from h1) d
 have h:H (mr H (qs n) (rW H qs n)) f=true:=h;rw[h1]at h;cases h
end
def qW(es:Q09):List Int->Nat->Nat->Prop
 | [],a,b=>a=b
 | k::ks,a,b=>0<=k/\aB es k.toNat=(a:Int)/\qW es ks (k.toNat+1) b
theorem Aq{es:Q09}:∀(ks:List Int) (k:Int) (a m b:Nat),qW es ks a m->0<=k->aB es k.toNat=(m:Int)->k.toNat+1=b->qW es (ks++[k]) a b
 | [],k,a,m,b,h,h0,h1,h2=>by
  have:a=m:=h;subst this;exact⟨h0,h1,h2⟩
 | x::ks,k,a,m,b,h,h0,h1,h2=>⟨h.1,h.2.1,Aq ks k _ m b h.2.2 h0 h1 h2⟩
theorem GH{es:Q09}{n:Nat}:∀(rs:List Int) (b:Nat),b<=n->0<=dh (dA es n) rs ((b:Int)-1)->qW es rs.reverse (dh (dA es n) rs ((b:Int)-1)).toNat b
 | [],b,_,h=>by simp[dh,qW]
 | k::rs,b,hb,h=>by
  unfold dh at h⊢;split at h
  ·omega
  rename_i c;rw[if_neg c];split at h
  ·omega
  rename_i c2;rw[if_neg c2];have h0:0<=(b:Int)-1:=by omega
  have hk:k=(b:Int)-1:=by omega
  have hF:dA es n ((b:Int)-1)=aB es ((b:Int)-1).toNat:=by unfold dA;rw[if_pos ⟨h0,by omega⟩]
  have hle:=iP es ((b:Int)-1).toNat;rw[hF]at h c2 ⊢;obtain⟨m,hm⟩:∃m:Nat,aB es ((b:Int)-1).toNat=(m:Int):=⟨(aB es ((b:Int)-1).toNat).toNat,by omega⟩;rw[hm]at h hle ⊢;rw[List.reverse_cons];exact Aq _ k _ m b (GH rs m (by omega) h) (by omega) (by rw[hk,hm]) (by omega)
theorem oK{es:Q09}{n:Nat}(h:0<=aB es n):qW es (dD es n) (aB es n).toNat n:=by
 rw[jA]at h ⊢;have:=GH (dD es n).reverse n (Vu _) h;rw[List.reverse_reverse]at this;exact this
theorem oL{es:Q09}:∀(ks:List Int) (a b:Nat),qW es ks a b->a<=b/\∀k∈ks,0<=k/\k.toNat<b
 | [],a,b,h=>⟨Nat.le_of_eq h,fun k hk=>by cases hk⟩
 | x::ks,a,b,h=>by
  obtain⟨h1,h2⟩:=oL ks _ b h.2.2;have:=iP es x.toNat;have h3:=h.2.1;refine⟨by omega,fun k hk=>?_⟩;rcases VL.1 hk with rfl|hk
  ·exact⟨h.1,by omega⟩
  exact h2 k hk
def EW{α:Type}(F:Fence)(n:Nat)(P:Program)(g:Nat)(lb:Array Value)(encs:α->Array Value)(Kp:Nat->World->World->Prop)(Q:List α->World->Prop)(E:List α->α->Prop)(S:List α->Prop)(w:World):Prop :=
 ∀(l:Nat) (J:List α->World->Prop) (W:World),ag w W->l<W.heap.size->w.heap.size<=l->OwnFrom W.heap.size J->(∀pre W1,J pre W1->Q pre W1) ->
  (∀pre x W1,J pre W1->E pre x->YieldAt F (n-1) P l (encs x) W1 fun e W'=>e=.returned (.bool true)/\J (pre++[x]) W'/\Kp l W1 W') ->
  J [] W ->
  CallsIn F n P g (#[.func (.yield l) #[] #[]]++lb) W fun e W'=>(∃v,e=.returned v)/\∃xs,S xs/\J xs W'
def PG(B:Nat)(R:World->Prop)(W:World):Exit->Act->World->Prop
 | .normal,_,W'=>KeepsFrom B W W'/\R W'
 | _,_,_=>False
theorem LF{β:Type}{B k:Nat}{o:Obj}(hk:k<B):OwnFrom B (fun(_:β) W=>W.heap[k]?=some o):=fun _ X Y row hs hg hr=>(hg.block k (VC.1 hs).1 fun e=>by have:=(hr k e.symm).1;omega).trans hs
theorem Ue{β:Type}{B B':Nat}{I:β->World->Prop}(h:OwnFrom B I)(hB:B<=B'):OwnFrom B' I:=fun s X Y row hs hg hr=>h s X Y row hs hg fun r e=>⟨Vz hB (hr r e).1,(hr r e).2⟩
theorem qX{α:Type}{F:Fence}{n:Nat}{P:Program}{g:Operand}{ps:Array Tmp}{assign body:Code}{Q:Exit->Act->World->Prop}{a:Act}{w:af}(hro:F.round=none)(h1:1<=n){gf:Nat}{lb:Array Value}(hg:a.eval g=.func (.func gf) #[] lb)(hFg:F.fn gf)(eg:∀args w,(callFunc gf args).run P w=.ok (.enter gf args) w)
  {encs:α->Array Value} {Kp:Nat->World->World->Prop} {Tell:List α->World->Prop} {E:List α->α->Prop} {S:List α->Prop} {w0:World} (hseq:EW F (n-1) P gf lb encs Kp Tell E S w0) (hb0:ag w0 w) (hps:∀x,(encs x).size=ps.size)
  (hKt:∀{l:Nat} {X Y Z:World},Kp l X Y->Kp l Y Z->Kp l X Z) (hKb:∀(W:World) (l:Nat) (o o':Obj),W.heap[l]?=some o->o.isCells=false->Kp l W (W.putObj l o'))
  (I:List α->World->Prop) (hI:OwnFrom w.heap.size I) (hT:∀pre W,I pre W->Tell pre W) (h0:I [] w)
  (Ax:α->Act->World->Prop) (hAx:∀x a',OwnFrom w.heap.size (fun(_:Unit) W=>Ax x a' W))
  (hassign:∀ (l:Nat) (pre:List α) (x:α) (W:World) (K:Act->World->Prop),I pre W->(∀ a' W',KeepsFrom w.heap.size W W'->Kp l W W'->I pre W'->Ax x a' W'->K a' W') ->
   assign.wpIn (F.inRound l) (n-1-1) P (Exit.then K (fun _ _ _=>False)) { tmps:=(ps.zip (encs x)).foldl (fun t (p,v)=>t.setIfInBounds p v) a.tmps,defers:=[] } W)
  (hbody:∀(l:Nat) (pre:List α) (x:α) (a':Act) (W:World),w.heap.size<=l->E pre x->I pre W->Ax x a' W->body.wpIn (F.inRound l) (n-1-1) P (PG w.heap.size (fun W'=>Kp l W W'/\I (pre++[x]) W') W) a' W)
  (hdone:∀(D:Nat) (xs:List α) (W:World),w.heap.size<=D->S xs->I xs W->W.heap[D]?=some (.deferred (some []))->Q .normal { a with defers:={ target:=.collected D,args:=#[] }::a.defers } W) :
  (Code.rangeFunc g ps assign body).wpIn F n P Q a w:=by
 refine wpIn_rangeFunc fun fn hfn=>?_;rw[hro];obtain⟨rc,hrc⟩:∃rc:LoopState->Loop,rc=fun st=>{ state:=st,pending:=none,fn,tmps:=a.tmps,params:=ps,assign,body,defers:=w.heap.size }:=⟨_,rfl⟩;obtain⟨W0,hW0⟩:=eQx (w.alloc (.deferred (some [])));have s0:W0.heap.size=w.heap.size+1:=by rw[hW0];simp
 obtain⟨W1,hW1⟩:=eQx (W0.alloc (.loop (rc .ready)));have s1:W1.heap.size=w.heap.size+2:=by rw[hW1];simp;omega
 have k0:W0.heap[w.heap.size]?=some (.deferred (some [])):=by rw[hW0];exact World.alloc_heap_new w _
 have k1:W1.heap[w.heap.size]?=some (.deferred (some [])):=by rw[hW1];exact(Below.heap_alloc _ _ _ (by omega)).trans k0
 have r1:W1.heap[w.heap.size+1]?=some (.loop (rc .ready)):=by rw[hW1,<-s0];exact World.alloc_heap_new W0 _
 have i1:I [] W1:=by rw[hW1,hW0];exact hI.alloc _ (hI.alloc _ h0)
 have b1:ag w W1:=by rw[hW1,hW0];exact((Vv _ w).alloc (Vu _) _).alloc (by simp) _
 have bb:ag w0 W1:=hb0.trans (b1.mono hb0.size);refine⟨w.heap.size+1,[{ target:=.collected w.heap.size,args:=#[] }],W1,{ target:=.fn (.func gf) lb,args:=#[.func (.yield (w.heap.size+1)) #[] #[]] },W1,gf,#[.func (.yield (w.heap.size+1)) #[] #[]]++lb,W1,?_,?_,?_,?_,fun _=>h1,?_⟩
 ·rw[hW1,hW0,hrc];exact run_enterLoop_outer _ _ _ _ _
 ·simp only[resolve,hg];simp[go_sem]
 ·intro f hf;simp[Target.leads]at hf;subst hf;exact hFg
 ·simp[invoke,go_sem,eg]
 have hJ:OwnFrom W1.heap.size (fun pre W=>I pre W/\W.heap[w.heap.size+1]?=some (.loop (rc .ready))/\W.heap[w.heap.size]?=some (.deferred (some []))) :=
  (Ue hI (by omega)).and ((LF (by omega)).and (LF (by omega)))
 refine(hseq (w.heap.size+1) _ W1 bb (by omega) (by have:=hb0.size;omega) hJ (fun pre W h=>hT pre W h.1) ?_ ⟨i1,r1,k1⟩).mono ?_
 ·rintro pre x W ⟨hi,hl,hk⟩ hEx;have hy:=run_yield (P:=P) (args:=encs x) hl (by rw[hrc];exact hps x);rw[hrc]at hy;refine⟨fn,_,assign,body,hy,roundIn_of_wpIn hfn (hassign _ pre x W _ hi ?_)⟩;clear hy;intro a' Wa hka hkp hia hax;have hla:=hka.same _ _ (by omega) hl rfl;have hda:=hka.same _ _ (Vu _) hk rfl;have hlt:w.heap.size+1<Wa.heap.size:=(VC.1 hla).1;refine⟨_,run_beginRound hla (by rw[hrc]),?_⟩;obtain⟨Wb,hWb⟩:=eQx (Wa.putObj (w.heap.size+1) (.loop { rc .ready with state:=.busy }));rw[<-hWb];have lb2:Wb.heap[w.heap.size+1]?=some (.loop { rc .ready with state:=.busy }):=by rw[hWb];exact World.putObj_heap_same hlt
  have db2:Wb.heap[w.heap.size]?=some (.deferred (some [])):=by rw[hWb];exact(World.putObj_heap_other (by omega)).trans hda
  have kb2:Kp (w.heap.size+1) Wa Wb:=by rw[hWb];exact hKb _ _ _ _ hla rfl
  have ib2:I pre Wb:=by rw[hWb];exact hI.putObj _ hia (by omega) hla rfl
  have ab2:Ax x a' Wb:=by rw[hWb];exact(hAx x a').putObj (s:=()) _ hax (by omega) hla rfl
  refine wpIn_mono (hbody _ pre x a' _ (by omega) hEx ib2 ab2) ?_;intro e a3 W3 hp;cases e;case normal=>
   obtain⟨hk3,hkp3,hi3⟩:=hp;have hl3:=hk3.same _ _ (by omega) lb2 rfl;have hd3:=hk3.same _ _ (Vu _) db2 rfl;have hend:=run_endRound (P:=P) none hl3;rw[hrc]at hend;refine⟨_,_,hend,rfl,⟨hI.putObj _ hi3 (by omega) hl3 rfl,?_,(World.putObj_heap_other (by omega)).trans hd3⟩,hKt hkp (hKt (hKt kb2 hkp3) (hKb _ _ _ _ hl3 rfl))⟩;rw[hrc];exact World.putObj_heap_same (VC.1 hl3).1
  case ret=>exact hp.elim
  case exit id=>exact hp.elim
  case goto t=>exact hp.elim
  case panic ch=>exact hp.elim
  exact hp.elim
 rintro e W2 ⟨⟨v,rfl⟩,xs,hS,hi,hl,hk⟩;have hend:=run_endLoop (P:=P) hl (by rw[hrc];simp);rw[hrc]at hend;exact⟨none,_,hend,hdone _ xs _ (Vu _) hS (hI.putObj _ hi (by omega) hl rfl) ((World.putObj_heap_other (by omega)).trans hk)⟩
end Go.Proofs.YtojjoblnpldniaaGreat
namespace Go.Proofs.YtojjoblnpldniaaGreat.Ls
theorem lt_irrefl:∀x:List UInt8,Op.bytesLess x x=false
 | []=>rfl
 | a::x=>by simp[Op.bytesLess,lt_irrefl x]
theorem lt_trans:∀x y z:List UInt8,Op.bytesLess x y=true->Op.bytesLess y z=true->Op.bytesLess x z=true
 | [],_,[],h,k=>by cases ‹List UInt8› <;> simp [Op.bytesLess] at h k
 | [],_,_::_,_,_=>rfl
 | _::_,[],_,h,_=>by simp[Op.bytesLess]at h
 | _::_,_::_,[],_,k=>by simp[Op.bytesLess]at k
 | a::x,b::y,c::z,h,k=>by
  simp only[Op.bytesLess,Bool.or_eq_true,Vw,VH,beq_iff_eq]at h k ⊢;rcases h with h|⟨h,h'⟩
  ·rcases k with k|⟨k,k'⟩
   ·exact .inl (UInt8.lt_trans h k)
   exact .inl (k ▸ h)
  rcases k with k|⟨k,k'⟩
  ·exact .inl (h ▸ k)
  exact .inr ⟨h.trans k,lt_trans x y z h' k'⟩
theorem lt_total:∀x y:List UInt8,x≠y->Op.bytesLess x y=true\/Op.bytesLess y x=true
 | [],[],h=>absurd rfl h
 | [],_::_,_=>.inl rfl
 | _::_,[],_=>.inr rfl
 | a::x,b::y,h=>by
  simp only[Op.bytesLess,Bool.or_eq_true,Vw,VH,beq_iff_eq];by_cases e:a=b
  ·subst e;rcases lt_total x y (fun e=>h (by rw[e])) with k|k
   ·exact .inl (.inr ⟨rfl,k⟩)
   exact .inr (.inr ⟨rfl,k⟩)
  rcases Nat.lt_or_gt_of_ne (fun k=>e (UInt8.toNat_inj.1 k)) with k|k
  ·exact .inl (.inl k)
  exact .inr (.inl k)
theorem lt_asymm(x y:List UInt8)(h:Op.bytesLess x y=true):Op.bytesLess y x=false:=by
 cases k:Op.bytesLess y x;case false=>rfl
 have:=lt_trans x y x h k;rw[lt_irrefl]at this;cases this
end Go.Proofs.YtojjoblnpldniaaGreat.Ls
namespace Go.Proofs.YtojjoblnpldniaaGreat
set_option linter.unusedVariables false
section
variable  {α:Type}{lt:α->α->Bool}
def Cu(lt:α->α->Bool)(r:α):List α->List α
 | []=>[r]
 | x::xs=>if lt x r then x::Cu lt r xs else r::x::xs
def Dr(lt:α->α->Bool)(rs:List α):List α:=rs.foldl (fun out r=>Cu lt r out) []
theorem rX(r:α):∀xs:List α,(Cu lt r xs).Perm (r::xs)
 | []=>List.Perm.refl _
 | x::xs=>by
  unfold Cu;split
  ·exact((rX r xs).cons x).trans (List.Perm.swap _ _ _)
  exact List.Perm.refl _
theorem Ar:∀(rs acc:List α),(rs.foldl (fun out r=>Cu lt r out) acc).Perm (rs++acc)
 | [],acc=>List.Perm.refl _
 | r::rs,acc=>(Ar rs (Cu lt r acc)).trans (((rX r acc).append_left rs).trans List.perm_middle)
theorem jr(rs:List α):(Dr lt rs).Perm rs:=by simpa[Dr] using Ar rs []
structure OrdO(lt:α->α->Bool)(rs:List α):Prop where
 trans:∀x∈rs,∀y∈rs,∀z∈rs,lt x y=true->lt y z=true->lt x z=true
 asymm:∀x∈rs,∀y∈rs,lt x y=true->lt y x=false
 total:∀x∈rs,∀y∈rs,x≠y->lt x y=true\/lt y x=true
theorem OrdO.mono{rs qs:List α}(h:OrdO lt rs)(hs:∀x∈qs,x∈rs):OrdO lt qs :=
 ⟨fun x hx y hy z hz=>h.trans x (hs x hx) y (hs y hy) z (hs z hz),fun x hx y hy=>h.asymm x (hs x hx) y (hs y hy),fun x hx y hy=>h.total x (hs x hx) y (hs y hy)⟩
def Tw(lt:α->α->Bool)(xs:List α):Prop:=xs.Pairwise fun x y=>lt x y=true
theorem LG{r:α}:∀{xs:List α},OrdO lt (r::xs)->r ∉ xs->Tw lt xs->Tw lt (Cu lt r xs)
 | [],_,_,_=>List.pairwise_singleton _ _
 | x::xs,ho,hn,h=>by
  obtain⟨h1,h2⟩:=List.pairwise_cons.1 h;have hx:x∈r::x::xs:=by simp
  have hr:r∈r::x::xs:=by simp
  unfold Cu;split
  ·rename_i hl;refine List.pairwise_cons.2 ⟨fun y hy=>?_,LG (ho.mono fun z hz=>?_) (fun hm=>hn (V7 _ hm)) h2⟩
   ·rcases VL.1 ((rX r xs).mem_iff.1 hy) with rfl|hy
    ·exact hl
    exact h1 y hy
   rcases VL.1 hz with rfl|hz
   ·simp
   simp[hz]
  rename_i hl;have hne:r≠x:=fun e=>hn (by rw[e];simp);have hrx:lt r x=true:=by
   rcases ho.total r hr x hx hne with h3|h3
   ·exact h3
   exact absurd h3 hl
  refine List.pairwise_cons.2 ⟨fun y hy=>?_,h⟩;rcases VL.1 hy with rfl|hy
  ·exact hrx
  exact ho.trans r hr x hx y (by simp[hy]) hrx (h1 y hy)
theorem GI:∀(rs acc:List α),OrdO lt (rs++acc)->rs.Nodup->(∀r∈rs,r ∉ acc)->Tw lt acc->Tw lt (rs.foldl (fun out r=>Cu lt r out) acc)
 | [],acc,_,_,_,h=>h
 | r::rs,acc,ho,hd,hn,h=>by
  obtain⟨hr,hd2⟩:=List.nodup_cons.1 hd;have hp:=rX (lt:=lt) r acc;refine GI rs (Cu lt r acc) (ho.mono fun x hx=>?_) hd2 (fun x hx hm=>?_) (LG (ho.mono fun x hx=>?_) (hn r (by simp)) h)
  ·rcases VJ.1 hx with hx|hx
   ·simp[hx]
   rcases VL.1 (hp.mem_iff.1 hx) with rfl|hx
   ·simp
   simp[hx]
  ·rcases VL.1 (hp.mem_iff.1 hm) with rfl|hm
   ·exact hr hx
   exact hn x (by simp[hx]) hm
  rcases VL.1 hx with rfl|hx
  ·simp
  simp[hx]
theorem PH{rs:List α}(ho:OrdO lt rs)(hd:rs.Nodup):Tw lt (Dr lt rs):=GI rs [] (by simpa using ho) hd (fun _ _=>List.not_mem_nil) List.Pairwise.nil
theorem Au:∀{xs ys:List α},OrdO lt xs->Tw lt xs->Tw lt ys->xs.Perm ys->xs=ys
 | [],ys,_,_,_,hp=>(List.Perm.nil_eq hp)
 | x::xs,[],_,_,_,hp=>absurd hp.length_eq (by simp)
 | x::xs,y::ys,ho,hx,hy,hp=>by
  obtain⟨h1,h2⟩:=List.pairwise_cons.1 hx;obtain⟨h3,h4⟩:=List.pairwise_cons.1 hy;have hyx:y∈x::xs:=hp.mem_iff.2 (by simp);have hxy:x∈y::ys:=hp.mem_iff.1 (by simp);have e:x=y:=by
   rcases VL.1 hyx with e|hm
   ·exact e.symm
   rcases VL.1 hxy with e|hm2
   ·exact e
   have a1:=h1 y hm;have a2:=h3 x hm2;rw[ho.asymm x (by simp) y hyx a1]at a2;cases a2
  subst e;rw[Au (ho.mono fun z hz=>V7 _ hz) h2 h4 hp.cons_inv]
theorem PK{rs qs:List α}(ho:OrdO lt rs)(hd:rs.Nodup)(h:Tw lt qs)(hp:qs.Perm rs):Dr lt rs=qs :=
 Au (ho.mono fun x hx=>(jr rs).mem_iff.1 hx) (PH ho hd) h ((jr rs).trans hp.symm)
end
end Go.Proofs.YtojjoblnpldniaaGreat
