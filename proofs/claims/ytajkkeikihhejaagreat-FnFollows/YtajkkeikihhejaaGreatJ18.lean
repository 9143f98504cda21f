/- Contracts of the drawing's reader: its next byte, a number below another one. What it answers is left open but for its bounds. -/
import Derived.Test.YtajkkeikihhejaaGreatSq
import Derived.Test.YtajkkeikihhejaaGreatJ17
open Go.Proofs.Tryz
set_option maxHeartbeats 80000000
namespace Go.Proofs.YtajkkeikihhejaaGreat
open ChangeShapes WideShapes ChangeAt RowKit
open Pl
structure Rd(w:World)(R:Nat)(ad:Q02)(len cap:Nat):Prop where
 lt:R<w.heap.size
 code:w.cell? ⟨R,0,none⟩=some (.slice ad len cap)
 place:∃p:Nat,w.cell? ⟨R,1,none⟩=some (.int .i64 p)/\p<=len
 free:w.frozen? ⟨R,1,none⟩=false
 bytes:0<len->∃b off,ad=some ⟨b,off,none⟩/\b≠R/\b<w.heap.size/\∀i,i<len->∃c:Int,0<=c/\c<=255/\w.cell? ⟨b,off+i,none⟩=some (.int .u8 c)
 small:len<=maxLen
theorem Rd.below{w w':af}{R:Nat}{ad:Q02}{len cap:Nat}(h:Rd w R ad len cap)(hb:ae w w'):Rd w' R ad len cap where
 lt:=UT h.lt hb.size
 code:=by rw[hb.cell (p:=⟨R,0,none⟩) h.lt];exact h.code
 place:=by obtain⟨p,hp,hl⟩:=h.place;exact⟨p,by rw[hb.cell (p:=⟨R,1,none⟩) h.lt];exact hp,hl⟩
 free:=by rw[hb.frozen (p:=⟨R,1,none⟩) h.lt];exact h.free
 bytes h0:=by
  obtain⟨b,off,e,hne,hbl,hc⟩:=h.bytes h0;refine⟨b,off,e,hne,UT hbl hb.size,fun i hi=>?_⟩;obtain⟨c,c0,c1,hcc⟩:=hc i hi;exact⟨c,c0,c1,by rw[hb.cell (p:=⟨b,off+i,none⟩) hbl];exact hcc⟩
 small:=h.small
theorem Rd.step{w:af}{R p:Nat}{ad:Q02}{len cap:Nat}(h:Rd w R ad len cap)(hp:p+1<=len):Rd (w.setCell ⟨R,1,none⟩ (.int .i64 ((p:Int)+1))) R ad len cap where
 lt:=by simpa using h.lt
 code:=by
  rw[show(w.setCell ⟨R,1,none⟩ (.int .i64 ((p:Int)+1))).cell? ⟨R,0,none⟩=w.cell? ⟨R,0,none⟩ from by apply World.cell?_setCell_other;intro e;cases e];exact h.code
 place:=by
  obtain⟨q,hq,-⟩:=h.place;exact⟨p+1,by rw[show(w.setCell ⟨R,1,none⟩ (.int .i64 ((p:Int)+1))).cell? ⟨R,1,none⟩=some (.int .i64 ((p:Int)+1)) from by apply World.cell?_setCell_same;exact hq];simp,hp⟩
 free:=by simpa using h.free
 bytes h0:=by
  obtain⟨b,off,e,hne,hbl,hc⟩:=h.bytes h0;refine⟨b,off,e,hne,by simpa using hbl,fun i hi=>?_⟩;obtain⟨c,c0,c1,hcc⟩:=hc i hi;refine⟨c,c0,c1,?_⟩;rw[show(w.setCell ⟨R,1,none⟩ (.int .i64 ((p:Int)+1))).cell? ⟨b,off+i,none⟩=w.cell? ⟨b,off+i,none⟩ from by apply World.cell?_setCell_other;intro e;exact hne (congrArg Addr.block e).symm];exact hcc
 small:=h.small
def Only(R:Nat)(w w':World):Prop:=w.grownBy w' (some R)
theorem Only.refl(R:Nat)(w:af):Only R w w:=⟨rfl,rfl,rfl,UU _,fun _ _ _=>rfl⟩
theorem Only.trans{R:Nat}{a b c:af}(h:Only R a b)(k:Only R b c):Only R a c :=
 ⟨k.os.trans h.os,k.tape.trans h.tape,k.output.trans h.output,U0 h.size k.size,fun i hi hr=>(k.block i (UT hi h.size) hr).trans (h.block i hi hr)⟩
theorem Only.drewN{R:Nat}{a b:af}(h:Only R a b)(n:Nat):Only R a (b.drewN n):=⟨h.os,h.tape,h.output,h.size,h.block⟩
theorem Only.set{R:Nat}{a b:af}(h:Only R a b)(o:Nat)(v:Value):Only R a (b.setCell ⟨R,o,none⟩ v) :=
 ⟨h.os,h.tape,h.output,by simpa using h.size,fun i hi hr=>(Below.heap_setCell b ⟨R,o,none⟩ v i (fun e=>hr (by rw[e]))).trans (h.block i hi hr)⟩
theorem Only.below{R:Nat}{a b c:af}(h:Only R a b)(k:ae b c):Only R a c :=
 ⟨k.os.trans h.os,k.tape.trans h.tape,k.output.trans h.output,U0 h.size k.size,fun i hi hr=>(k.block i (UT hi h.size)).trans (h.block i hi hr)⟩
theorem Only.of_below{R:Nat}{b c:af}(k:ae b c):Only R b c:=(Only.refl R b).below k
theorem Only.cell{R:Nat}{w w':af}(h:Only R w w'){b o:Nat}(hb:b<w.heap.size)(hne:b≠R):w'.cell? ⟨b,o,none⟩=w.cell? ⟨b,o,none⟩ :=
 Vh (w:=w) (h.block b hb (fun e=>hne (by injection e)))
theorem Only.frozen{R:Nat}{w w':af}(h:Only R w w'){b o:Nat}(hb:b<w.heap.size)(hne:b≠R):w'.frozen? ⟨b,o,none⟩=w.frozen? ⟨b,o,none⟩ :=
 World.frozen?_of_block (w:=w) (h.block b hb (fun e=>hne (by injection e)))
theorem Only.toBelow{R B:Nat}{a w w':af}(h:Below B a w)(k:Only R w w')(hB:B<=w.heap.size)(hR:B<=R):Below B a w' :=
 h.grown k hB (fun i hi=>by injection hi with e;omega)
theorem vV(R:Nat)(ad:Q02)(len cap:Nat)(w:af)(h:Rd w R ad len cap):
  Calls prog 90 #[.pointer (some ⟨R,0,none⟩)] w fun e w'=>(∃x:Int,e=.returned (.int .i64 x)/\0<=x/\x<=255)/\Rd w' R ad len cap/\Only R w w':=by
 obtain⟨p,hp,hpl⟩:=h.place;have hc:=h.code;have hsm:=h.small;unfold maxLen at hsm;have H:=aC h;by_cases hlt:p<len
 ·obtain⟨b,off,rfl,hne,hbl,hbytes⟩:=h.bytes (by omega);obtain⟨c,c0,c1,hcc⟩:=hbytes p hlt;have hfz:=h.free;have hnl:decide ((len:Int)<=(p:Int))=false:=by simp;omega
  have HS:Hid (Rd (w.setCell ⟨R,1,none⟩ (.int .i64 ((p:Int)+1))) R (some ⟨b,off,none⟩) len cap):=h.step (by omega);clear hbytes h;go_enter func90,ntmps90;go_wp2;go_quiet (fail);go_wp2;have e1:(p:Int)+1-1=(p:Int):=by omega
  have e2:=bG p;have e3:(p:Int)<(len:Int):=by omega
  have hw:IntKind.i64.wrap (p:Int)=(p:Int):=by rw[IntKind.wrap_i64];omega
  have hcw:IntKind.i64.wrap c=c:=by rw[IntKind.wrap_i64];omega
  have x1:(w.setCell ⟨R,1,none⟩ (.int .i64 ((p:Int)+1))).cell? ⟨b,off+p,none⟩=some (.int .u8 c):=by
   rw[show(w.setCell ⟨R,1,none⟩ (.int .i64 ((p:Int)+1))).cell? ⟨b,off+p,none⟩=w.cell? ⟨b,off+p,none⟩ from by apply World.cell?_setCell_other;intro e;exact hne (congrArg Addr.block e).symm];exact hcc
  go_quiet (fail);go_wp2;go_ret;exact⟨⟨c,rfl,c0,c1⟩,HS.out.below ⟨rfl,rfl,rfl,UU _,fun _ _=>rfl⟩,(((Only.refl _ _).drewN _).set _ _).drewN _⟩
 have hge:decide ((len:Int)<=(p:Int))=true:=by simp;omega
 clear h;go_enter func90,ntmps90;go_wp2;go_quiet (fail);go_wp2;go_ret;exact⟨⟨0,rfl,by omega,by omega⟩,H.out.below ((below_drewN (UV _ _) _)),(Only.refl _ _).drewN _⟩
theorem cz(R:Nat)(ad:Q02)(len cap:Nat)(n:Int)(w:af)(h:Rd w R ad len cap)(h1:2<=n)(h2:n<=256):
  Calls prog 49 #[.pointer (some ⟨R,0,none⟩),.int .i64 n] w fun e w'=>(∃x:Int,e=.returned (.int .i64 x)/\0<=x/\x<n)/\Rd w' R ad len cap/\Only R w w':=by
 have H:=aC h;clear h;have hne:(n==0)=false:=by simp;omega
 go_enter func49,ntmps49;go_wp2_with fail;refine(vV R ad len cap _ H.out).mono ?_;rintro e w1 ⟨⟨x,rfl,hx0,hx1⟩,WF,Wv⟩;have HR:=aC WF;have HO:=aC Wv;clear WF Wv;go_wp2;go_ret;exact⟨⟨_,rfl,Int.emod_nonneg _ (by omega),Int.emod_lt_of_pos _ (by omega)⟩,HR.out,HO.out⟩
theorem gW(R:Nat)(ad:Q02)(len cap:Nat)(n:Int)(w:af)(h:Rd w R ad len cap)(h1:2<=n)(h2:n<=256):
  Calls prog 48 #[.pointer (some ⟨R,0,none⟩),.int .i64 n] w fun e w'=>(∃x:Bool,e=.returned (.bool x))/\Rd w' R ad len cap/\Only R w w':=by
 have H:=aC h;clear h;go_enter func48,ntmps48;go_wp2_with fail;refine(cz R ad len cap n _ H.out h1 h2).mono ?_;rintro e w1 ⟨⟨x,rfl,hx0,hx1⟩,WF,Wv⟩;have HR:=aC WF;have HO:=aC Wv;clear WF Wv;go_wp2;go_ret;exact⟨⟨_,rfl⟩,HR.out,HO.out⟩
def Strs(w:World)(R g n:Nat):Prop:=g≠R/\g<w.heap.size/\∀i,i<n->∃s:ByteArray,s.size<=20/\w.cell? ⟨g,i,none⟩=some (.string s)
theorem Strs.only{w w':af}{R g n:Nat}(h:Strs w R g n)(k:Only R w w'):Strs w' R g n :=
 ⟨h.1,UT h.2.1 k.size,fun i hi=>by obtain⟨s,hs,hc⟩:=h.2.2 i hi;exact⟨s,hs,by rw[k.cell h.2.1 h.1];exact hc⟩⟩
def AX(w:World)(R B g:Nat):Prop:=g≠R/\B<=g/\g<w.heap.size/\(∀o,w.frozen? ⟨g,o,none⟩=false)/\∃a b:ByteArray,a.size<=20/\b.size<=20/\w.cell? ⟨g,0,none⟩=some (.string a)/\w.cell? ⟨g,1,none⟩=some (.string b)
theorem AX.only{w w':af}{R B g:Nat}(h:AX w R B g)(k:Only R w w'):AX w' R B g:=by
 obtain⟨h1,h2,h3,h4,a,b,ha,hb,ca,cb⟩:=h;exact⟨h1,h2,UT h3 k.size,fun o=>by rw[k.frozen h3 h1];exact h4 o,a,b,ha,hb,by rw[k.cell h3 h1];exact ca,by rw[k.cell h3 h1];exact cb⟩
theorem fH(w:af)(R:Nat)(hR:R<w.heap.size){t:TypeId}{xs:List ByteArray}(h:xs.all (fun x=>decide (x.size<=20))=true):Strs (w.alloc (.cells (xs.map Value.string).toArray t)) R w.heap.size xs.length:=by
 refine⟨by omega,by simp,fun i hi=>⟨xs[i],?_,?_⟩⟩
 ·rw[U5]at h;simpa using h xs[i] (UR hi)
 simp[hi]
theorem Mm{w:af}{R B:Nat}{t:TypeId}(hR:R<w.heap.size)(hB:B<=w.heap.size):AX (w.alloc (.cells #[.string ⟨#[]⟩,.string ⟨#[]⟩] t)) R B w.heap.size :=
 ⟨by omega,hB,by simp,fun o=>by simp,⟨#[]⟩,⟨#[]⟩,by decide,by decide,by simp,by simp⟩
theorem Mo{w:af}{R B g:Nat}{x y:Value}{a b:ByteArray}(h1:g≠R)(h2:B<=g)(h3:g<w.heap.size)(h4:∀o,w.frozen? ⟨g,o,none⟩=false)(hx:w.cell? ⟨g,0,none⟩=some x)(hy:w.cell? ⟨g,1,none⟩=some y)(ha:a.size<=20)(hb:b.size<=20):
  AX ((w.setCell ⟨g,0,none⟩ (.string a)).setCell ⟨g,1,none⟩ (.string b)) R B g:=by
 have n01:(⟨g,0,none⟩:Addr)≠⟨g,1,none⟩:=by intro e;cases e
 have e1:(w.setCell ⟨g,0,none⟩ (.string a)).cell? ⟨g,1,none⟩=some y:=by
  rw[show(w.setCell ⟨g,0,none⟩ (.string a)).cell? ⟨g,1,none⟩=w.cell? ⟨g,1,none⟩ from by apply World.cell?_setCell_other;exact n01];exact hy
 refine⟨h1,h2,by simpa using h3,fun o=>by simpa using h4 o,a,b,ha,hb,?_,?_⟩
 ·rw[show((w.setCell ⟨g,0,none⟩ (.string a)).setCell ⟨g,1,none⟩ (.string b)).cell? ⟨g,0,none⟩=(w.setCell ⟨g,0,none⟩ (.string a)).cell? ⟨g,0,none⟩ from by apply World.cell?_setCell_other;exact n01.symm];apply World.cell?_setCell_same;exact hx
 apply World.cell?_setCell_same;exact e1
theorem Rd.setFar{w:af}{R g o:Nat}{ad:Q02}{len cap:Nat}{v:Value}(h:Rd w R ad len cap)(hg:g≠R)(hb:0<len->∀b off,ad=some ⟨b,off,none⟩->b≠g):Rd (w.setCell ⟨g,o,none⟩ v) R ad len cap where
 lt:=by simpa using h.lt
 code:=by
  rw[show(w.setCell ⟨g,o,none⟩ v).cell? ⟨R,0,none⟩=w.cell? ⟨R,0,none⟩ from by apply World.cell?_setCell_other;intro e;exact hg (congrArg Addr.block e)];exact h.code
 place:=by
  obtain⟨p,hp,hl⟩:=h.place;exact⟨p,by rw[show(w.setCell ⟨g,o,none⟩ v).cell? ⟨R,1,none⟩=w.cell? ⟨R,1,none⟩ from by apply World.cell?_setCell_other;intro e;exact hg (congrArg Addr.block e)];exact hp,hl⟩
 free:=by simpa using h.free
 bytes h0:=by
  obtain⟨b,off,e,hne,hbl,hc⟩:=h.bytes h0;refine⟨b,off,e,hne,by simpa using hbl,fun i hi=>?_⟩;obtain⟨c,c0,c1,hcc⟩:=hc i hi;exact⟨c,c0,c1,by rw[show(w.setCell ⟨g,o,none⟩ v).cell? ⟨b,off+i,none⟩=w.cell? ⟨b,off+i,none⟩ from by apply World.cell?_setCell_other;intro e2;exact hb h0 b off e (congrArg Addr.block e2).symm];exact hcc⟩
 small:=h.small
theorem Only.setNew{R g o:Nat}{a b:af}{v:Value}(h:Only R a b)(hg:a.heap.size<=g):Only R a (b.setCell ⟨g,o,none⟩ v) :=
 ⟨h.os,h.tape,h.output,by simpa using h.size,fun i hi hr=>(Below.heap_setCell b ⟨g,o,none⟩ v i (by simp;omega)).trans (h.block i hi hr)⟩
theorem Only.alloc{R:Nat}{a b:af}(h:Only R a b)(o:Obj):Only R a (b.alloc o):=h.below ((UV _ _).alloc (UU _) _)
theorem Rd.alloc{w:af}{R:Nat}{ad:Q02}{len cap:Nat}(h:Rd w R ad len cap)(o:Obj):Rd (w.alloc o) R ad len cap:=h.below ((UV _ _).alloc (UU _) _)
theorem Rj{w:af}{a:Addr}{v:Value}(h:w.cell? a=some v)(o:Obj):(w.alloc o).cell? a=some v:=cell_later ((UV _ _).alloc (UU _) _) h
def Ob(w:World)(R g:Nat)(a b:ByteArray):Prop:=g≠R/\g<w.heap.size/\w.cell? ⟨g,0,none⟩=some (.string a)/\w.cell? ⟨g,1,none⟩=some (.string b)
theorem Ob.only{w w':af}{R g:Nat}{a b:ByteArray}(h:Ob w R g a b)(k:Only R w w'):Ob w' R g a b :=
 ⟨h.1,UT h.2.1 k.size,by rw[k.cell h.2.1 h.1];exact h.2.2.1,by rw[k.cell h.2.1 h.1];exact h.2.2.2⟩
theorem Ob.alloc{w:af}{R g:Nat}{a b:ByteArray}(h:Ob w R g a b)(o:Obj):Ob (w.alloc o) R g a b:=h.only ((Only.refl R w).alloc o)
theorem EU{w:af}{R:Nat}(hR:R<w.heap.size)(t:TypeId)(a b:bQ):Ob (w.alloc (.cells #[.string a,.string b] t)) R w.heap.size a b :=
 ⟨by omega,by simp,by simp,by simp⟩
def Tt(w:World)(R n:Nat):Prop:=n≠R/\n<w.heap.size/\(∀o,w.frozen? ⟨n,o,none⟩=false)/\∀o,o<6->w.cell? ⟨n,o,none⟩=some (.string ⟨#[]⟩)
theorem Tt.only{w w':af}{R n:Nat}(h:Tt w R n)(k:Only R w w'):Tt w' R n :=
 ⟨h.1,UT h.2.1 k.size,fun o=>by rw[k.frozen h.2.1 h.1];exact h.2.2.1 o,fun o ho=>by rw[k.cell h.2.1 h.1];exact h.2.2.2 o ho⟩
theorem Rk{w:af}{R:Nat}(hR:R<w.heap.size)(t:TypeId):Tt (w.alloc (.cells #[.string ⟨#[]⟩,.string ⟨#[]⟩,.string ⟨#[]⟩,.string ⟨#[]⟩,.string ⟨#[]⟩,.string ⟨#[]⟩] t)) R w.heap.size:=by
 refine⟨by omega,by simp,fun o=>by simp,fun o ho=>?_⟩;have h6:o=0\/o=1\/o=2\/o=3\/o=4\/o=5:=by omega
 rcases h6 with rfl|rfl|rfl|rfl|rfl|rfl<;>simp
structure Kd where
 s:Value ⊕ Nat ⊕ Nat ⊕ Nat ⊕ Unit ⊕ Unit ⊕ Unit
abbrev Kd.eq (v:Value):Kd:=⟨.inl v⟩
abbrev Kd.strs (n:Nat):Kd:=⟨.inr (.inl n)⟩
abbrev Kd.idx (n:Nat):Kd:=⟨.inr (.inr (.inl n))⟩
abbrev Kd.elt (n:Nat):Kd:=⟨.inr (.inr (.inr (.inl n)))⟩
abbrev Kd.str:Kd:=⟨.inr (.inr (.inr (.inr (.inl ()))))⟩
abbrev Kd.obj:Kd:=⟨.inr (.inr (.inr (.inr (.inr (.inl ())))))⟩
abbrev Kd.tup:Kd:=⟨.inr (.inr (.inr (.inr (.inr (.inr ())))))⟩
def Kd.ok(R:Nat)(w:World)(v:Value):Kd->Prop
 | ⟨.inl u⟩=>v=u
 | ⟨.inr (.inl n)⟩=>∃g,v=.slice (some ⟨g,0,none⟩) n n/\Strs w R g n
 | ⟨.inr (.inr (.inl n))⟩=>∃x:Nat,v=.int .i64 (x:Int)/\x<n
 | ⟨.inr (.inr (.inr (.inl n)))⟩=>∃g x,v=.pointer (some ⟨g,x,none⟩)/\x<n/\Strs w R g n
 | ⟨.inr (.inr (.inr (.inr (.inl _))))⟩=>∃t:ByteArray,v=.string t/\t.size<=20
 | ⟨.inr (.inr (.inr (.inr (.inr (.inl _)))))⟩=>∃a b:ByteArray,v=.agg #[.string a,.string b]/\a.size<=20/\b.size<=20
 | ⟨.inr (.inr (.inr (.inr (.inr (.inr _)))))⟩=>∃a b r c d s:ByteArray,v=.agg #[.string a,.string b,.string r,.string c,.string d,.string s]/\a.size<=20/\b.size<=20/\r.size<=20/\c.size<=20/\d.size<=20/\s.size<=20
theorem Kd.only{R:Nat}{w w':af}{v:Value}(h:Only R w w')(k:Kd)(hk:k.ok R w v):k.ok R w' v:=by
 match k,hk with
 | ⟨.inl _⟩,hk=>exact hk
 | ⟨.inr (.inl _)⟩,hk=>obtain⟨g,e,hs⟩:=hk;exact⟨g,e,hs.only h⟩
 | ⟨.inr (.inr (.inl _))⟩,hk=>exact hk
 | ⟨.inr (.inr (.inr (.inl _)))⟩,hk=>obtain⟨g,x,e,hx,hs⟩:=hk;exact⟨g,x,e,hx,hs.only h⟩
 | ⟨.inr (.inr (.inr (.inr (.inl _))))⟩,hk=>exact hk
 | ⟨.inr (.inr (.inr (.inr (.inr (.inl _)))))⟩,hk=>exact hk
 | ⟨.inr (.inr (.inr (.inr (.inr (.inr _)))))⟩,hk=>exact hk
def GL(ks:List Kd)(k:Nat):Kd:=ks.getD k .tup
def Tu(R B k:Nat)(v:Value)(w:World):Prop:=(k=11->∃g,v=.pointer (some ⟨g,0,none⟩)/\AX w R B g)/\(k≠11->Kd.ok R w v (GL [.strs 5,.eq (Value.pointer (some ⟨R,0,none⟩)),.idx 5,.elt 5,.str,.strs 3,.eq (Value.pointer (some ⟨R,0,none⟩)),.idx 3,.elt 3,.str,.obj] k))
theorem Tu.only{R B k:Nat}{v:Value}{w w':af}(h:Tu R B k v w)(ho:Only R w w'):Tu R B k v w' :=
 ⟨fun e=>by obtain⟨g,e1,hg⟩:=h.1 e;exact⟨g,e1,hg.only ho⟩,fun e=>Kd.only ho _ (h.2 e)⟩
theorem Tu.no{R B k:Nat}{v:Value}{w:af}(hk:k≠11)(h:Kd.ok R w v (GL [.strs 5,.eq (Value.pointer (some ⟨R,0,none⟩)),.idx 5,.elt 5,.str,.strs 3,.eq (Value.pointer (some ⟨R,0,none⟩)),.idx 3,.elt 3,.str,.obj] k)):Tu R B k v w:=⟨fun e=>absurd e hk,fun _=>h⟩
set_option maxRecDepth 4000 in
theorem AY(R:Nat)(ad:Q02)(len cap:Nat)(w:af)(h:Rd w R ad len cap):
  Calls prog 126 #[.pointer (some ⟨R,0,none⟩)] w fun e w'=>(∃a b:ByteArray,e=.returned (.agg #[.string a,.string b])/\a.size<=20/\b.size<=20)/\Rd w' R ad len cap/\Only R w w':=by
 have H:=aC h;have Zm:=h.lt;have FAR:Hid (∀g,w.heap.size<=g->0<len->∀b off,ad=some ⟨b,off,none⟩->b≠g):=fun g hg h0 b off e=>by
  obtain⟨b',off',e',-,hb',-⟩:=h.bytes h0;rw[e]at e';injection e' with e';injection e' with e1 e2;omega
 clear h;go_enter func126,ntmps126;go_wp2_with fail;refine fJ 12 (fun f=>{ tmps:=List.toArray (Value.pointer (some ⟨R,0,none⟩)::undef::.pointer (some ⟨w.heap.size,0,none⟩)::f 11::f 0::f 1::f 2::f 3::f 4::f 5::f 6::f 7::f 8::f 9::f 10::undef::undef::undef::undef::undef::undef::undef::undef::undef::[]),defers:=[] }) (fun k v w'=>Tu R (w.heap.size+1) k v w') (fun w'=>Rd w' R ad len cap/\Only R (w.alloc (.cells #[.string ⟨#[]⟩,.string ⟨#[]⟩] 27)) w') (by kernel_rfl) rfl (by kernel_rfl) (by kernel_rfl) rfl ⟨H.out.below (((UV _ _).alloc (UU _) _).drew),(Only.refl _ _).drewN 1⟩ ?step ?fin;case step =>
  rintro i hi o ho f w' ⟨hR',WB⟩ hpre;have HR:=aC hR';have HO:=aC WB;have hsz:w.heap.size+1<=w'.heap.size:=by have:=WB.size;simpa using this
  have hRl:R<w'.heap.size:=hR'.lt;have HM:Hid (∀e∈o.after,Region.binds .any e=true->Tu R (w.heap.size+1) e.on (f e.on) w'):=hpre;have KAL:Hid (∀ob:Obj,Only R w' (w'.alloc ob)):=fun ob=>(Only.refl R w').alloc ob;clear hR' WB hpre;have hc:=Uh (i:=i) (by omega);clear hi
  repeat' rcases hc with rfl|hc
  ·cases ho;refine aa rfl fun K HK=>?_;clear HM;dsimp only;go_simp;exact HK.out _ _ ⟨_,by simp[upd],⟨HR.out.alloc _,HO.out.alloc _⟩,.no (by decide) ⟨_,rfl,fH w' R hRl (xs:=[_,_,_,_,_]) (by decide)⟩,fun k u hu=>hu.only (KAL.out _)⟩
  ·cases ho;refine aa rfl fun K HK=>?_;clear HM;dsimp only;go_simp;exact HK.out _ _ ⟨Value.pointer (some ⟨R,0,none⟩),by simp[upd],⟨HR.out,HO.out⟩,.no (by decide) rfl,fun k u hu=>hu⟩
  ·cases ho;have e1:f 1=Value.pointer (some ⟨R,0,none⟩):=(HM.out ⟨1,.data⟩ (by simp) rfl).2 (by decide);refine aa rfl fun K HK=>?_;clear HM;simp only[e1];go_simp;refine(cz R ad len cap 5 _ HR.out (by omega) (by omega)).mono ?_;rintro e w5 ⟨⟨x,rfl,hx0,hx1⟩,Wy,WC⟩;obtain⟨x,rfl⟩:∃y:Nat,x=(y:Int):=⟨x.toNat,by omega⟩;have Wu:Hid (Rd w5 R ad len cap/\Only R w' w5):=⟨Wy,WC⟩;clear Wy WC;go_wp2_with fail;exact HK.out _ _ ⟨.int .i64 (x:Int),by simp[upd,e1],⟨Wu.out.1,HO.out.trans Wu.out.2⟩,.no (by decide) ⟨x,rfl,by omega⟩,fun k u hu=>hu.only Wu.out.2⟩
  ·cases ho;obtain⟨g,e1,hS⟩:=(HM.out ⟨0,.data⟩ (by simp) rfl).2 (by decide);obtain⟨x,e2,hx⟩:=(HM.out ⟨2,.data⟩ (by simp) rfl).2 (by decide);replace e1:f 0=_:=e1;replace e2:f 2=_:=e2;have HS:=aC hS;clear hS;have hx0:=bG x;have hx1:(x:Int)<5:=by omega
   refine aa rfl fun K HK=>?_;clear HM;simp only[e1,e2];go_simp;exact HK.out _ _ ⟨.pointer (some ⟨g,x,none⟩),by simp[upd,e1,e2],⟨HR.out,HO.out⟩,.no (by decide) ⟨g,x,rfl,hx,HS.out⟩,fun k u hu=>hu⟩
  ·cases ho;obtain⟨g,x,e1,hx,hS⟩:=(HM.out ⟨3,.data⟩ (by simp) rfl).2 (by decide);replace e1:f 3=_:=e1;obtain⟨t,ht,hcell⟩:=hS.2.2 x hx;clear hS;refine aa rfl fun K HK=>?_;clear HM;simp only[e1];go_simp;exact HK.out _ _ ⟨.string t,by simp[upd,e1],⟨HR.out,HO.out⟩,.no (by decide) ⟨t,rfl,ht⟩,fun k u hu=>hu⟩
  ·cases ho;refine aa rfl fun K HK=>?_;clear HM;dsimp only;go_simp;exact HK.out _ _ ⟨_,by simp[upd],⟨HR.out.alloc _,HO.out.alloc _⟩,.no (by decide) ⟨_,rfl,fH w' R hRl (xs:=[_,_,_]) (by decide)⟩,fun k u hu=>hu.only (KAL.out _)⟩
  ·cases ho;refine aa rfl fun K HK=>?_;clear HM;dsimp only;go_simp;exact HK.out _ _ ⟨Value.pointer (some ⟨R,0,none⟩),by simp[upd],⟨HR.out,HO.out⟩,.no (by decide) rfl,fun k u hu=>hu⟩
  ·cases ho;have e1:f 6=Value.pointer (some ⟨R,0,none⟩):=(HM.out ⟨6,.data⟩ (by simp) rfl).2 (by decide);refine aa rfl fun K HK=>?_;clear HM;simp only[e1];go_simp;refine(cz R ad len cap 3 _ HR.out (by omega) (by omega)).mono ?_;rintro e w5 ⟨⟨x,rfl,hx0,hx1⟩,Wy,WC⟩;obtain⟨x,rfl⟩:∃y:Nat,x=(y:Int):=⟨x.toNat,by omega⟩;have Wu:Hid (Rd w5 R ad len cap/\Only R w' w5):=⟨Wy,WC⟩;clear Wy WC;go_wp2_with fail;exact HK.out _ _ ⟨.int .i64 (x:Int),by simp[upd,e1],⟨Wu.out.1,HO.out.trans Wu.out.2⟩,.no (by decide) ⟨x,rfl,by omega⟩,fun k u hu=>hu.only Wu.out.2⟩
  ·cases ho;obtain⟨g,e1,hS⟩:=(HM.out ⟨5,.data⟩ (by simp) rfl).2 (by decide);obtain⟨x,e2,hx⟩:=(HM.out ⟨7,.data⟩ (by simp) rfl).2 (by decide);replace e1:f 5=_:=e1;replace e2:f 7=_:=e2;have HS:=aC hS;clear hS;have hx0:=bG x;have hx1:(x:Int)<3:=by omega
   refine aa rfl fun K HK=>?_;clear HM;simp only[e1,e2];go_simp;exact HK.out _ _ ⟨.pointer (some ⟨g,x,none⟩),by simp[upd,e1,e2],⟨HR.out,HO.out⟩,.no (by decide) ⟨g,x,rfl,hx,HS.out⟩,fun k u hu=>hu⟩
  ·cases ho;obtain⟨g,x,e1,hx,hS⟩:=(HM.out ⟨8,.data⟩ (by simp) rfl).2 (by decide);replace e1:f 8=_:=e1;obtain⟨t,ht,hcell⟩:=hS.2.2 x hx;clear hS;refine aa rfl fun K HK=>?_;clear HM;simp only[e1];go_simp;exact HK.out _ _ ⟨.string t,by simp[upd,e1],⟨HR.out,HO.out⟩,.no (by decide) ⟨t,rfl,ht⟩,fun k u hu=>hu⟩
  ·cases ho;obtain⟨t,e1,ht⟩:=(HM.out ⟨4,.data⟩ (by simp) rfl).2 (by decide);obtain⟨u,e2,hu⟩:=(HM.out ⟨9,.data⟩ (by simp) rfl).2 (by decide);replace e1:f 4=_:=e1;replace e2:f 9=_:=e2;refine aa rfl fun K HK=>?_;clear HM;simp only[e1,e2];go_simp;exact HK.out _ _ ⟨.agg #[.string t,.string u],by simp[upd,e1,e2],⟨HR.out,HO.out⟩,.no (by decide) ⟨t,u,rfl,ht,hu⟩,fun k u hu=>hu⟩
  cases ho;refine aa rfl fun K HK=>?_;clear HM;dsimp only;go_simp;exact HK.out _ _ ⟨_,by simp[upd],⟨HR.out.alloc _,HO.out.alloc _⟩,⟨fun _=>⟨_,rfl,Mm hRl hsz⟩,fun e=>absurd rfl e⟩,fun k u hu=>hu.only (KAL.out _)⟩
 case fin =>
  rintro o ho f w0 ⟨hR',WB⟩ hall;obtain⟨g,e1,hg⟩:=(hall 11 (by omega)).1 rfl;obtain⟨t,u,e2,ht,hu⟩:=(hall 10 (by omega)).2 (by decide);replace e1:f 11=_:=e1;replace e2:f 10=_:=e2;obtain⟨hgR,hgB,hgl,hgf,ta,tb,_,_,ca,cb⟩:=hg;obtain⟨w',hw'⟩:∃w',w'=(w0.setCell ⟨g,0,none⟩ (.string t)).setCell ⟨g,1,none⟩ (.string u):=⟨_,rfl⟩;have hg:AX w' R (w.heap.size+1) g:=by rw[hw'];exact Mo hgR hgB hgl hgf ca cb ht hu
  have hR:Rd w' R ad len cap:=by rw[hw'];exact(hR'.setFar hgR (FAR.out _ (by omega))).setFar hgR (FAR.out _ (by omega))
  have hO:Only R (w.alloc (.cells #[.string ⟨#[]⟩,.string ⟨#[]⟩] 27)) w':=by rw[hw'];exact(WB.setNew (by simpa using hgB)).setNew (by simpa using hgB)
  clear hR' WB hall;obtain rfl:=Option.some.inj ho;clear ho;refine aa rfl fun K HK=>?_;simp only[e1,e2];go_simp;rw[<-hw'];refine HK.out _ _ ?_;clear HK hw' hgR hgl hgf ca cb ht hu;have hOw:Only R w w':=(Only.of_below ((UV _ _).alloc (UU _) _)).trans hO;have hnR:w.heap.size≠R:=by omega
  have hn0:w'.cell? ⟨w.heap.size,0,none⟩=some (.string ⟨#[]⟩):=by rw[hO.cell (by simp) hnR];simp
  have hn1:w'.cell? ⟨w.heap.size,1,none⟩=some (.string ⟨#[]⟩):=by rw[hO.cell (by simp) hnR];simp
  have hnf:∀o,w'.frozen? ⟨w.heap.size,o,none⟩=false:=fun o=>by rw[hO.frozen (by simp) hnR];simp
  have hsz:w.heap.size<w'.heap.size:=by have:=hO.size;simp at this;omega
  have HR:=aC hR;have HOw:=aC hOw;have HG:=aC hg;clear hR hO hOw hg;go_wp2_with fail;refine(gW R ad len cap 30 _ HR.out (by omega) (by omega)).mono ?_;rintro e w1 ⟨⟨x,rfl⟩,WF,Wv⟩;have HR1:=aC WF;have Wp:Hid (Only R w w1):=HOw.out.trans Wv;have HG1:=aC (HG.out.only Wv);have m0:w1.cell? ⟨w.heap.size,0,none⟩=some (.string ⟨#[]⟩):=by rw[Wv.cell hsz hnR];exact hn0
  have m1:w1.cell? ⟨w.heap.size,1,none⟩=some (.string ⟨#[]⟩):=by rw[Wv.cell hsz hnR];exact hn1
  have mf:∀o,w1.frozen? ⟨w.heap.size,o,none⟩=false:=fun o=>by rw[Wv.frozen hsz hnR];exact hnf o
  have hs1:w.heap.size<w1.heap.size:=UT hsz Wv.size;have hR1l:R<w1.heap.size:=WF.lt;clear hn0 hn1 hnf WF Wv HR HOw HG;obtain⟨hgR,-,hgl,hgf,ta,tb,hta,htb,ca,cb⟩:=HG1.out;have hgn:g≠w.heap.size:=by omega
  cases x;case false=>
   go_wp2;exact bodyPost_ret (v:=.agg #[.string ta,.string tb]) (by simp[results,Tryz.results126,go_sem, *]) rfl ⟨⟨ta,tb,rfl,hta,htb⟩,(HR1.out.setFar hnR (FAR.out _ (UU _))).setFar hnR (FAR.out _ (UU _)),(Wp.out.setNew (UU _)).setNew (UU _)⟩
  go_wp2_with fail;refine(cz R ad len cap 4 _ (HR1.out.below ((UV _ _).alloc (UU _) _)) (by omega) (by omega)).mono ?_;rintro e w2 ⟨⟨x,rfl,hx0,hx1⟩,hR2,hO2⟩;have Xy:Only R w1 w2:=(Only.of_below ((UV _ _).alloc (UU _) _)).trans hO2;have hSt:=(fH w1 R hR1l (t:=9) (xs:=[⟨#[]⟩,⟨#[65]⟩,⟨#[97,95,49]⟩,⟨#[97,98,99,100,101,102,103,104,105,106,107,108,109]⟩]) (by decide)).only hO2;obtain⟨y,rfl⟩:∃y:Nat,x=(y:Int):=⟨x.toNat,by omega⟩;obtain⟨t,ht,hct⟩:=hSt.2.2 y (by simp;omega);have k0:w2.cell? ⟨w.heap.size,0,none⟩=some (.string ⟨#[]⟩):=by rw[Xy.cell hs1 hnR];exact m0
  have k1:w2.cell? ⟨w.heap.size,1,none⟩=some (.string ⟨#[]⟩):=by rw[Xy.cell hs1 hnR];exact m1
  have kf:∀o,w2.frozen? ⟨w.heap.size,o,none⟩=false:=fun o=>by rw[Xy.frozen hs1 hnR];exact mf o
  have ka:w2.cell? ⟨g,0,none⟩=some (.string ta):=by rw[Xy.cell hgl hgR];exact ca
  have kb:w2.cell? ⟨g,1,none⟩=some (.string tb):=by rw[Xy.cell hgl hgR];exact cb
  have kg:∀o,w2.frozen? ⟨g,o,none⟩=false:=fun o=>by rw[Xy.frozen hgl hgR];exact hgf o
  have HR2:=aC hR2;have V7:Hid (Only R w w2):=Wp.out.trans Xy;clear hR2 hO2 Xy hSt m0 m1 mf ca cb hgf HR1 Wp HG1;go_wp2;exact bodyPost_ret (v:=.agg #[.string ta,.string t]) (by simp[results,Tryz.results126,go_sem, *]) rfl ⟨⟨ta,t,rfl,hta,ht⟩,((HR2.out.setFar hgR (FAR.out _ (by omega))).setFar hnR (FAR.out _ (UU _))).setFar hnR (FAR.out _ (UU _)),((V7.out.setNew (by omega)).setNew (UU _)).setNew (UU _)⟩
def Fc.short(f:Fc):Prop:=f.a.size<=20/\f.b.size<=20/\f.r.size<=20/\f.c.size<=20/\f.d.size<=20
def O8(w:World)(R B g:Nat):Prop:=g≠R/\B<=g/\g<w.heap.size/\(∀o,w.frozen? ⟨g,o,none⟩=false)/\∃f:Fc,f.short/\xC w g 0 f
theorem O8.only{w w':af}{R B g:Nat}(h:O8 w R B g)(k:Only R w w'):O8 w' R B g:=by
 obtain⟨h1,h2,h3,h4,f,hf,hc⟩:=h;exact⟨h1,h2,UT h3 k.size,fun o=>by rw[k.frozen h3 h1];exact h4 o,f,hf,hc.same fun o=>k.cell h3 h1⟩
theorem O9{w:af}{R B:Nat}{t:TypeId}(hR:R<w.heap.size)(hB:B<=w.heap.size):O8 (w.alloc (.cells #[.string ⟨#[]⟩,.string ⟨#[]⟩,.string ⟨#[]⟩,.string ⟨#[]⟩,.string ⟨#[]⟩] t)) R B w.heap.size:=by
 refine⟨by omega,hB,by simp,fun o=>by simp,⟨⟨#[]⟩,⟨#[]⟩,⟨#[]⟩,⟨#[]⟩,⟨#[]⟩⟩,⟨by decide,by decide,by decide,by decide,by decide⟩,?_⟩;refine⟨?_,?_,?_,?_,?_⟩<;>simp
theorem Rm{w:af}{g:Nat}{x0 x1 x2 x3 x4:Value}(y:Fc)(c0:w.cell? ⟨g,0,none⟩=some x0)(c1:w.cell? ⟨g,1,none⟩=some x1)(c2:w.cell? ⟨g,2,none⟩=some x2)(c3:w.cell? ⟨g,3,none⟩=some x3)(c4:w.cell? ⟨g,4,none⟩=some x4):
  xC (((((w.setCell ⟨g,0,none⟩ (.string y.a)).setCell ⟨g,1,none⟩ (.string y.b)).setCell ⟨g,2,none⟩ (.string y.r)).setCell ⟨g,3,none⟩ (.string y.c)).setCell ⟨g,4,none⟩ (.string y.d)) g 0 y:=by
 have far:∀(W:World) (i j:Nat) (v:Value),i≠j->(W.setCell ⟨g,i,none⟩ v).cell? ⟨g,j,none⟩=W.cell? ⟨g,j,none⟩:=fun W i j v h=>by apply World.cell?_setCell_other;intro e;exact h (congrArg Addr.off e)
 have same:∀(W:World) (i:Nat) (x v:Value),W.cell? ⟨g,i,none⟩=some x->(W.setCell ⟨g,i,none⟩ v).cell? ⟨g,i,none⟩=some v:=fun W i x v h=>by apply World.cell?_setCell_same;exact h
 refine⟨?_,?_,?_,?_,?_⟩
 ·rw[far _ 4 0 _ (by decide),far _ 3 0 _ (by decide),far _ 2 0 _ (by decide),far _ 1 0 _ (by decide)];exact same _ 0 _ _ c0
 ·show World.cell? _ ⟨g,1,none⟩=_;rw[far _ 4 1 _ (by decide),far _ 3 1 _ (by decide),far _ 2 1 _ (by decide)];exact same _ 1 _ _ (by rw[far _ 0 1 _ (by decide)];exact c1)
 ·show World.cell? _ ⟨g,2,none⟩=_;rw[far _ 4 2 _ (by decide),far _ 3 2 _ (by decide)];exact same _ 2 _ _ (by rw[far _ 1 2 _ (by decide),far _ 0 2 _ (by decide)];exact c2)
 ·show World.cell? _ ⟨g,3,none⟩=_;rw[far _ 4 3 _ (by decide)];exact same _ 3 _ _ (by rw[far _ 2 3 _ (by decide),far _ 1 3 _ (by decide),far _ 0 3 _ (by decide)];exact c3)
 show World.cell? _ ⟨g,4,none⟩=_;exact same _ 4 _ _ (by rw[far _ 3 4 _ (by decide),far _ 2 4 _ (by decide),far _ 1 4 _ (by decide),far _ 0 4 _ (by decide)];exact c4)
def Tv(R B k:Nat)(v:Value)(w:World):Prop:=(k=18->∃g,v=.pointer (some ⟨g,0,none⟩)/\O8 w R B g)/\(k=17->∃f:Fc,v=.agg #[.string f.a,.string f.b,.string f.r,.string f.c,.string f.d]/\f.short)/\(k<17->Kd.ok R w v (GL [.strs 3,.eq (Value.pointer (some ⟨R,0,none⟩)),.idx 3,.elt 3,.str,.obj,.strs 4,.eq (Value.pointer (some ⟨R,0,none⟩)),.idx 4,.elt 4,.str,.strs 3,.eq (Value.pointer (some ⟨R,0,none⟩)),.idx 3,.elt 3,.str,.obj] k))
theorem Tv.only{R B k:Nat}{v:Value}{w w':af}(h:Tv R B k v w)(ho:Only R w w'):Tv R B k v w' :=
 ⟨fun e=>by obtain⟨g,e1,hg⟩:=h.1 e;exact⟨g,e1,hg.only ho⟩,h.2.1,fun e=>Kd.only ho _ (h.2.2 e)⟩
theorem Tv.no{R B k:Nat}{v:Value}{w:af}(hk:k<17)(h:Kd.ok R w v (GL [.strs 3,.eq (Value.pointer (some ⟨R,0,none⟩)),.idx 3,.elt 3,.str,.obj,.strs 4,.eq (Value.pointer (some ⟨R,0,none⟩)),.idx 4,.elt 4,.str,.strs 3,.eq (Value.pointer (some ⟨R,0,none⟩)),.idx 3,.elt 3,.str,.obj] k)):Tv R B k v w:=⟨fun e=>by omega,fun e=>by omega,fun _=>h⟩
set_option maxRecDepth 4000 in
theorem Pb(R:Nat)(ad:Q02)(len cap:Nat)(w:af)(h:Rd w R ad len cap):
  Calls prog 50 #[.pointer (some ⟨R,0,none⟩)] w fun e w'=>(∃f:Fc,e=.returned (.agg #[.string f.a,.string f.b,.string f.r,.string f.c,.string f.d])/\f.short)/\Rd w' R ad len cap/\Only R w w':=by
 have H:=aC h;have Zm:=h.lt;have FAR:Hid (∀g,w.heap.size<=g->0<len->∀b off,ad=some ⟨b,off,none⟩->b≠g):=fun g hg h0 b off e=>by
  obtain⟨b',off',e',-,hb',-⟩:=h.bytes h0;rw[e]at e';injection e' with e';injection e' with e1 e2;omega
 clear h;go_enter func50,ntmps50;go_wp2_with fail;refine fJ 19 (fun f=>{ tmps:=List.toArray (Value.pointer (some ⟨R,0,none⟩)::undef::.pointer (some ⟨w.heap.size,0,none⟩)::f 18::f 0::f 1::f 2::f 3::f 4::f 5::f 6::f 7::f 8::f 9::f 10::f 11::f 12::f 13::f 14::f 15::f 16::f 17::undef::undef::undef::undef::undef::undef::undef::undef::undef::undef::undef::[]),defers:=[] }) (fun k v w'=>Tv R (w.heap.size+1) k v w') (fun w'=>Rd w' R ad len cap/\Only R (w.alloc (.cells #[.string ⟨#[]⟩,.string ⟨#[]⟩,.string ⟨#[]⟩,.string ⟨#[]⟩,.string ⟨#[]⟩] 29)) w') (by kernel_rfl) rfl (by kernel_rfl) (by kernel_rfl) rfl ⟨H.out.below (((UV _ _).alloc (UU _) _).drew),(Only.refl _ _).drewN 1⟩ ?step ?fin;case step =>
  rintro i hi o ho f w' ⟨hR',WB⟩ hpre;have HR:=aC hR';have HO:=aC WB;have hsz:w.heap.size+1<=w'.heap.size:=by have:=WB.size;simpa using this
  have hRl:R<w'.heap.size:=hR'.lt;have HM:Hid (∀e∈o.after,Region.binds .any e=true->Tv R (w.heap.size+1) e.on (f e.on) w'):=hpre;have KAL:Hid (∀ob:Obj,Only R w' (w'.alloc ob)):=fun ob=>(Only.refl R w').alloc ob;clear hR' WB hpre;have hc:=KI (i:=i) (by omega);clear hi
  repeat' rcases hc with rfl|hc
  ·cases ho;refine aa rfl fun K HK=>?_;clear HM;dsimp only;go_simp;exact HK.out _ _ ⟨_,by simp[upd],⟨HR.out.alloc _,HO.out.alloc _⟩,.no (by decide) ⟨_,rfl,fH w' R hRl (xs:=[_,_,_]) (by decide)⟩,fun k u hu=>hu.only (KAL.out _)⟩
  ·cases ho;refine aa rfl fun K HK=>?_;clear HM;dsimp only;go_simp;exact HK.out _ _ ⟨Value.pointer (some ⟨R,0,none⟩),by simp[upd],⟨HR.out,HO.out⟩,.no (by decide) rfl,fun k u hu=>hu⟩
  ·cases ho;have e1:f 1=Value.pointer (some ⟨R,0,none⟩):=(HM.out ⟨1,.data⟩ (by simp) rfl).2.2 (by decide);refine aa rfl fun K HK=>?_;clear HM;simp only[e1];go_simp;refine(cz R ad len cap 3 _ HR.out (by omega) (by omega)).mono ?_;rintro e w5 ⟨⟨x,rfl,hx0,hx1⟩,Wy,WC⟩;obtain⟨x,rfl⟩:∃y:Nat,x=(y:Int):=⟨x.toNat,by omega⟩;have Wu:Hid (Rd w5 R ad len cap/\Only R w' w5):=⟨Wy,WC⟩;clear Wy WC;go_wp2_with fail;exact HK.out _ _ ⟨.int .i64 (x:Int),by simp[upd,e1],⟨Wu.out.1,HO.out.trans Wu.out.2⟩,.no (by decide) ⟨x,rfl,by omega⟩,fun k u hu=>hu.only Wu.out.2⟩
  ·cases ho;obtain⟨g,e1,hS⟩:=(HM.out ⟨0,.data⟩ (by simp) rfl).2.2 (by decide);obtain⟨x,e2,hx⟩:=(HM.out ⟨2,.data⟩ (by simp) rfl).2.2 (by decide);replace e1:f 0=_:=e1;replace e2:f 2=_:=e2;have HS:=aC hS;clear hS;have hx0:=bG x;have hx1:(x:Int)<3:=by omega
   refine aa rfl fun K HK=>?_;clear HM;simp only[e1,e2];go_simp;exact HK.out _ _ ⟨.pointer (some ⟨g,x,none⟩),by simp[upd,e1,e2],⟨HR.out,HO.out⟩,.no (by decide) ⟨g,x,rfl,hx,HS.out⟩,fun k u hu=>hu⟩
  ·cases ho;obtain⟨g,x,e1,hx,hS⟩:=(HM.out ⟨3,.data⟩ (by simp) rfl).2.2 (by decide);replace e1:f 3=_:=e1;obtain⟨t,ht,hcell⟩:=hS.2.2 x hx;clear hS;refine aa rfl fun K HK=>?_;clear HM;simp only[e1];go_simp;exact HK.out _ _ ⟨.string t,by simp[upd,e1],⟨HR.out,HO.out⟩,.no (by decide) ⟨t,rfl,ht⟩,fun k u hu=>hu⟩
  ·cases ho;obtain⟨t,e1,ht⟩:=(HM.out ⟨4,.data⟩ (by simp) rfl).2.2 (by decide);replace e1:f 4=_:=e1;refine aa rfl fun K HK=>?_;clear HM;simp only[e1];go_simp;exact HK.out _ _ ⟨.agg #[.string ⟨#[100,111,99]⟩,.string t],by simp[upd,e1],⟨HR.out,HO.out⟩,.no (by decide) ⟨_,t,rfl,by decide,ht⟩,fun k u hu=>hu⟩
  ·cases ho;refine aa rfl fun K HK=>?_;clear HM;dsimp only;go_simp;exact HK.out _ _ ⟨_,by simp[upd],⟨HR.out.alloc _,HO.out.alloc _⟩,.no (by decide) ⟨_,rfl,fH w' R hRl (xs:=[_,_,_,_]) (by decide)⟩,fun k u hu=>hu.only (KAL.out _)⟩
  ·cases ho;refine aa rfl fun K HK=>?_;clear HM;dsimp only;go_simp;exact HK.out _ _ ⟨Value.pointer (some ⟨R,0,none⟩),by simp[upd],⟨HR.out,HO.out⟩,.no (by decide) rfl,fun k u hu=>hu⟩
  ·cases ho;have e1:f 7=Value.pointer (some ⟨R,0,none⟩):=(HM.out ⟨7,.data⟩ (by simp) rfl).2.2 (by decide);refine aa rfl fun K HK=>?_;clear HM;simp only[e1];go_simp;refine(cz R ad len cap 4 _ HR.out (by omega) (by omega)).mono ?_;rintro e w5 ⟨⟨x,rfl,hx0,hx1⟩,Wy,WC⟩;obtain⟨x,rfl⟩:∃y:Nat,x=(y:Int):=⟨x.toNat,by omega⟩;have Wu:Hid (Rd w5 R ad len cap/\Only R w' w5):=⟨Wy,WC⟩;clear Wy WC;go_wp2_with fail;exact HK.out _ _ ⟨.int .i64 (x:Int),by simp[upd,e1],⟨Wu.out.1,HO.out.trans Wu.out.2⟩,.no (by decide) ⟨x,rfl,by omega⟩,fun k u hu=>hu.only Wu.out.2⟩
  ·cases ho;obtain⟨g,e1,hS⟩:=(HM.out ⟨6,.data⟩ (by simp) rfl).2.2 (by decide);obtain⟨x,e2,hx⟩:=(HM.out ⟨8,.data⟩ (by simp) rfl).2.2 (by decide);replace e1:f 6=_:=e1;replace e2:f 8=_:=e2;have HS:=aC hS;clear hS;have hx0:=bG x;have hx1:(x:Int)<4:=by omega
   refine aa rfl fun K HK=>?_;clear HM;simp only[e1,e2];go_simp;exact HK.out _ _ ⟨.pointer (some ⟨g,x,none⟩),by simp[upd,e1,e2],⟨HR.out,HO.out⟩,.no (by decide) ⟨g,x,rfl,hx,HS.out⟩,fun k u hu=>hu⟩
  ·cases ho;obtain⟨g,x,e1,hx,hS⟩:=(HM.out ⟨9,.data⟩ (by simp) rfl).2.2 (by decide);replace e1:f 9=_:=e1;obtain⟨t,ht,hcell⟩:=hS.2.2 x hx;clear hS;refine aa rfl fun K HK=>?_;clear HM;simp only[e1];go_simp;exact HK.out _ _ ⟨.string t,by simp[upd,e1],⟨HR.out,HO.out⟩,.no (by decide) ⟨t,rfl,ht⟩,fun k u hu=>hu⟩
  ·cases ho;refine aa rfl fun K HK=>?_;clear HM;dsimp only;go_simp;exact HK.out _ _ ⟨_,by simp[upd],⟨HR.out.alloc _,HO.out.alloc _⟩,.no (by decide) ⟨_,rfl,fH w' R hRl (xs:=[_,_,_]) (by decide)⟩,fun k u hu=>hu.only (KAL.out _)⟩
  ·cases ho;refine aa rfl fun K HK=>?_;clear HM;dsimp only;go_simp;exact HK.out _ _ ⟨Value.pointer (some ⟨R,0,none⟩),by simp[upd],⟨HR.out,HO.out⟩,.no (by decide) rfl,fun k u hu=>hu⟩
  ·cases ho;have e1:f 12=Value.pointer (some ⟨R,0,none⟩):=(HM.out ⟨12,.data⟩ (by simp) rfl).2.2 (by decide);refine aa rfl fun K HK=>?_;clear HM;simp only[e1];go_simp;refine(cz R ad len cap 3 _ HR.out (by omega) (by omega)).mono ?_;rintro e w5 ⟨⟨x,rfl,hx0,hx1⟩,Wy,WC⟩;obtain⟨x,rfl⟩:∃y:Nat,x=(y:Int):=⟨x.toNat,by omega⟩;have Wu:Hid (Rd w5 R ad len cap/\Only R w' w5):=⟨Wy,WC⟩;clear Wy WC;go_wp2_with fail;exact HK.out _ _ ⟨.int .i64 (x:Int),by simp[upd,e1],⟨Wu.out.1,HO.out.trans Wu.out.2⟩,.no (by decide) ⟨x,rfl,by omega⟩,fun k u hu=>hu.only Wu.out.2⟩
  ·cases ho;obtain⟨g,e1,hS⟩:=(HM.out ⟨11,.data⟩ (by simp) rfl).2.2 (by decide);obtain⟨x,e2,hx⟩:=(HM.out ⟨13,.data⟩ (by simp) rfl).2.2 (by decide);replace e1:f 11=_:=e1;replace e2:f 13=_:=e2;have HS:=aC hS;clear hS;have hx0:=bG x;have hx1:(x:Int)<3:=by omega
   refine aa rfl fun K HK=>?_;clear HM;simp only[e1,e2];go_simp;exact HK.out _ _ ⟨.pointer (some ⟨g,x,none⟩),by simp[upd,e1,e2],⟨HR.out,HO.out⟩,.no (by decide) ⟨g,x,rfl,hx,HS.out⟩,fun k u hu=>hu⟩
  ·cases ho;obtain⟨g,x,e1,hx,hS⟩:=(HM.out ⟨14,.data⟩ (by simp) rfl).2.2 (by decide);replace e1:f 14=_:=e1;obtain⟨t,ht,hcell⟩:=hS.2.2 x hx;clear hS;refine aa rfl fun K HK=>?_;clear HM;simp only[e1];go_simp;exact HK.out _ _ ⟨.string t,by simp[upd,e1],⟨HR.out,HO.out⟩,.no (by decide) ⟨t,rfl,ht⟩,fun k u hu=>hu⟩
  ·cases ho;obtain⟨t,e1,ht⟩:=(HM.out ⟨15,.data⟩ (by simp) rfl).2.2 (by decide);replace e1:f 15=_:=e1;refine aa rfl fun K HK=>?_;clear HM;simp only[e1];go_simp;exact HK.out _ _ ⟨.agg #[.string ⟨#[117,115,101,114]⟩,.string t],by simp[upd,e1],⟨HR.out,HO.out⟩,.no (by decide) ⟨_,t,rfl,by decide,ht⟩,fun k u hu=>hu⟩
  ·cases ho;obtain⟨t1,t2,e1,h1,h2⟩:=(HM.out ⟨5,.data⟩ (by simp) rfl).2.2 (by decide);obtain⟨t3,e2,h3⟩:=(HM.out ⟨10,.data⟩ (by simp) rfl).2.2 (by decide);obtain⟨t4,t5,e3,h4,h5⟩:=(HM.out ⟨16,.data⟩ (by simp) rfl).2.2 (by decide);replace e1:f 5=_:=e1;replace e2:f 10=_:=e2;replace e3:f 16=_:=e3;refine aa rfl fun K HK=>?_;clear HM;simp only[e1,e2,e3];go_simp;exact HK.out _ _ ⟨.agg #[.string t1,.string t2,.string t3,.string t4,.string t5],by simp[upd,e1,e2,e3],⟨HR.out,HO.out⟩,⟨fun e=>absurd e (by decide),fun _=>⟨⟨t1,t2,t3,t4,t5⟩,rfl,h1,h2,h3,h4,h5⟩,fun e=>absurd e (by decide)⟩,fun k u hu=>hu⟩
  cases ho;refine aa rfl fun K HK=>?_;clear HM;dsimp only;go_simp;exact HK.out _ _ ⟨_,by simp[upd],⟨HR.out.alloc _,HO.out.alloc _⟩,⟨fun _=>⟨_,rfl,O9 hRl hsz⟩,fun e=>absurd e (by decide),fun e=>absurd e (by decide)⟩,fun k u hu=>hu.only (KAL.out _)⟩
 case fin =>
  rintro o ho f w0 ⟨hR',WB⟩ hall;obtain⟨g,e1,hg⟩:=(hall 18 (by omega)).1 rfl;obtain⟨y,e2,hy⟩:=(hall 17 (by omega)).2.1 rfl;replace e1:f 18=_:=e1;replace e2:f 17=_:=e2;obtain⟨hgR,hgB,hgl,hgf,z,_,ca,cb,cc,cd,ce⟩:=hg;obtain⟨w',hw'⟩:∃w',w'=(((((w0.setCell ⟨g,0,none⟩ (.string y.a)).setCell ⟨g,1,none⟩ (.string y.b)).setCell ⟨g,2,none⟩ (.string y.r)).setCell ⟨g,3,none⟩ (.string y.c)).setCell ⟨g,4,none⟩ (.string y.d)):=⟨_,rfl⟩;have hA:xC w' g 0 y:=by rw[hw'];exact Rm y ca cb cc cd ce
  have hR:Rd w' R ad len cap:=by rw[hw'];exact((((hR'.setFar hgR (FAR.out _ (by omega))).setFar hgR (FAR.out _ (by omega))).setFar hgR (FAR.out _ (by omega))).setFar hgR (FAR.out _ (by omega))).setFar hgR (FAR.out _ (by omega))
  have hO:Only R (w.alloc (.cells #[.string ⟨#[]⟩,.string ⟨#[]⟩,.string ⟨#[]⟩,.string ⟨#[]⟩,.string ⟨#[]⟩] 29)) w':=by rw[hw'];exact((((WB.setNew (by simpa using hgB)).setNew (by simpa using hgB)).setNew (by simpa using hgB)).setNew (by simpa using hgB)).setNew (by simpa using hgB)
  have hgf':∀o,w'.frozen? ⟨g,o,none⟩=false:=fun o=>by rw[hw'];simpa using hgf o
  have hgl':g<w'.heap.size:=by rw[hw'];simpa using hgl
  clear hR' WB hall;obtain rfl:=Option.some.inj ho;clear ho;refine aa rfl fun K HK=>?_;simp only[e1,e2];go_simp;rw[<-hw'];refine HK.out _ _ ?_;clear HK hw' hgl hgf ca cb cc cd ce;have hOw:Only R w w':=(Only.of_below ((UV _ _).alloc (UU _) _)).trans hO;have hnR:w.heap.size≠R:=by omega
  have hn:xC w' w.heap.size 0 ⟨⟨#[]⟩,⟨#[]⟩,⟨#[]⟩,⟨#[]⟩,⟨#[]⟩⟩:=by
   refine xC.same (w:=w.alloc (.cells #[.string ⟨#[]⟩,.string ⟨#[]⟩,.string ⟨#[]⟩,.string ⟨#[]⟩,.string ⟨#[]⟩] 29)) ?_ fun o=>hO.cell (by simp) hnR;refine⟨?_,?_,?_,?_,?_⟩<;>simp
  have hnf:∀o,w'.frozen? ⟨w.heap.size,o,none⟩=false:=fun o=>by rw[hO.frozen (by simp) hnR];simp
  have hsz:w.heap.size<w'.heap.size:=by have:=hO.size;simp at this;omega
  have HR:=aC hR;have HOw:=aC hOw;have HA:Hid (xC w' g 0 y/\xC w' w.heap.size 0 ⟨⟨#[]⟩,⟨#[]⟩,⟨#[]⟩,⟨#[]⟩,⟨#[]⟩⟩):=⟨hA,hn⟩;have HY:Hid y.short:=hy;clear hR hO hOw hA hn hy;go_wp2_with fail;refine(gW R ad len cap 5 _ HR.out (by omega) (by omega)).mono ?_;rintro e w1 ⟨⟨x,rfl⟩,WF,Wv⟩;have HR1:=aC WF;have Wp:Hid (Only R w w1):=HOw.out.trans Wv;have hA1:=HA.out.1.same (w':=w1) fun o=>Wv.cell hgl' hgR;have hn1:=HA.out.2.same (w':=w1) fun o=>Wv.cell hsz hnR;have mf:∀o,w1.frozen? ⟨w.heap.size,o,none⟩=false:=fun o=>by rw[Wv.frozen hsz hnR];exact hnf o
  have gf:∀o,w1.frozen? ⟨g,o,none⟩=false:=fun o=>by rw[Wv.frozen hgl' hgR];exact hgf' o
  have hs1:w.heap.size<w1.heap.size:=UT hsz Wv.size;have hg1:g<w1.heap.size:=UT hgl' Wv.size;have hR1l:R<w1.heap.size:=WF.lt;have hgn:g≠w.heap.size:=by omega
  clear hnf hgf' WF Wv HR HOw HA;cases x;case false=>
   obtain⟨ca,cb,cc,cd,ce⟩:=hA1;obtain⟨na,nb,nc,nd,ne⟩:=hn1;go_wp2;exact bodyPost_ret (v:=.agg #[.string y.a,.string y.b,.string y.r,.string y.c,.string y.d]) (by simp[results,Tryz.results50,go_sem, *]) rfl ⟨⟨y,rfl,HY.out⟩,((((HR1.out.setFar hnR (FAR.out _ (UU _))).setFar hnR (FAR.out _ (UU _))).setFar hnR (FAR.out _ (UU _))).setFar hnR (FAR.out _ (UU _))).setFar hnR (FAR.out _ (UU _)),((((Wp.out.setNew (UU _)).setNew (UU _)).setNew (UU _)).setNew (UU _)).setNew (UU _)⟩
  go_wp2_with fail;refine(cz R ad len cap 2 _ (HR1.out.below ((UV _ _).alloc (UU _) _)) (by omega) (by omega)).mono ?_;rintro e w2 ⟨⟨x,rfl,hx0,hx1⟩,hR2,hO2⟩;have Xy:Only R w1 w2:=(Only.of_below ((UV _ _).alloc (UU _) _)).trans hO2;have hSt:=(fH w1 R hR1l (t:=9) (xs:=[⟨#[103]⟩,⟨#[104]⟩]) (by decide)).only hO2;obtain⟨q,rfl⟩:∃q:Nat,x=(q:Int):=⟨x.toNat,by omega⟩;obtain⟨t,ht,hct⟩:=hSt.2.2 q (by simp;omega);obtain⟨ca,cb,cc,cd,ce⟩:=hA1.same (w':=w2) fun o=>Xy.cell hg1 hgR;obtain⟨na,nb,nc,nd,ne⟩:=hn1.same (w':=w2) fun o=>Xy.cell hs1 hnR;have kf:∀o,w2.frozen? ⟨w.heap.size,o,none⟩=false:=fun o=>by rw[Xy.frozen hs1 hnR];exact mf o
  have kg:∀o,w2.frozen? ⟨g,o,none⟩=false:=fun o=>by rw[Xy.frozen hg1 hgR];exact gf o
  have HR2:=aC hR2;have V7:Hid (Only R w w2):=Wp.out.trans Xy;clear hR2 hO2 Xy hSt mf gf hA1 hn1 HR1 Wp;go_wp2;exact bodyPost_ret (v:=.agg #[.string ⟨#[103,114,111,117,112]⟩,.string t,.string ⟨#[109,101,109,98,101,114]⟩,.string y.c,.string y.d]) (by simp[results,Tryz.results50,go_sem, *]) rfl ⟨⟨⟨_,t,_,y.c,y.d⟩,rfl,(by simp only;decide),ht,(by simp only;decide),HY.out.2.2.2.1,HY.out.2.2.2.2⟩,(((((((HR2.out.setFar hgR (FAR.out _ (by omega))).setFar hgR (FAR.out _ (by omega))).setFar hgR (FAR.out _ (by omega))).setFar hnR (FAR.out _ (UU _))).setFar hnR (FAR.out _ (UU _))).setFar hnR (FAR.out _ (UU _))).setFar hnR (FAR.out _ (UU _))).setFar hnR (FAR.out _ (UU _)),(((((((V7.out.setNew (by omega)).setNew (by omega)).setNew (by omega)).setNew (UU _)).setNew (UU _)).setNew (UU _)).setNew (UU _)).setNew (UU _)⟩
end Go.Proofs.YtajkkeikihhejaaGreat
