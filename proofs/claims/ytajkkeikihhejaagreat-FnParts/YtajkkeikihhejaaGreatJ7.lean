/- Contracts of the drawing's reader: its next byte, a number below another one. What it answers is left open but for its bounds. -/
import Derived.Test.YtajkkeikihhejaaGreatSq
import Derived.Deep.QuietTactic
import Derived.WalkSmall
import Derived.WalkSpells
import Derived.Test.YtajkkeikihhejaaGreatJ6
import Derived.ChangeSlices
import Derived.Deep.Slices
import Derived.RangeFuncNested
import Derived.Deep.RegionHeld3
import Derived.Test.YtajkkeikihhejaaGreatJ4
open Go.Proofs.Tryz
set_option maxHeartbeats 80000000
namespace Go.Proofs.YtajkkeikihhejaaGreat
open Go.ChangeShapes Go.WideShapes Go.ChangeAt Go.RowKit
open Pl
structure Rd (w:World)(R:Nat)(ad:Option Addr)(len cap:Nat):Prop where
 lt:R<w.heap.size
 code:w.cell? ⟨R,0,none⟩=some (.slice ad len cap)
 place:∃ p:Nat,w.cell? ⟨R,1,none⟩=some (.int .i64 p)/\p<=len
 free:w.frozen? ⟨R,1,none⟩=false
 bytes:0<len->∃ b off,ad=some ⟨b,off,none⟩/\b≠R/\b<w.heap.size/\∀ i,i<len->∃ c:Int,0<=c/\c<=255/\w.cell? ⟨b,off+i,none⟩=some (.int .u8 c)
 small:len<=maxLen
theorem Rd.below {w w':af}{R:Nat}{ad:Option Addr}{len cap:Nat}(h:Rd w R ad len cap)(hb:ag w w'):Rd w' R ad len cap where
 lt:=Uc h.lt hb.size
 code:=by rw [hb.cell (p:=⟨R,0,none⟩) h.lt];exact h.code
 place:=by obtain ⟨p,hp,hl⟩:=h.place;exact ⟨p,by rw [hb.cell (p:=⟨R,1,none⟩) h.lt];exact hp,hl⟩
 free:=by rw [hb.frozen (p:=⟨R,1,none⟩) h.lt];exact h.free
 bytes h0:=by
  obtain ⟨b,off,e,hne,hbl,hc⟩:=h.bytes h0;refine ⟨b,off,e,hne,Uc hbl hb.size,fun i hi=>?_⟩;obtain ⟨c,c0,c1,hcc⟩:=hc i hi;exact ⟨c,c0,c1,by rw [hb.cell (p:=⟨b,off+i,none⟩) hbl];exact hcc⟩
 small:=h.small
theorem Rd.step {w:af}{R p:Nat}{ad:Option Addr}{len cap:Nat}(h:Rd w R ad len cap)(hp:p+1<=len):Rd (w.setCell ⟨R,1,none⟩ (.int .i64 ((p:Int)+1))) R ad len cap where
 lt:=by simpa using h.lt
 code:=by
  rw [show (w.setCell ⟨R,1,none⟩ (.int .i64 ((p:Int)+1))).cell? ⟨R,0,none⟩=w.cell? ⟨R,0,none⟩ from by apply World.cell?_setCell_other;intro e;cases e];exact h.code
 place:=by
  obtain ⟨q,hq,-⟩:=h.place;exact ⟨p+1,by rw [show (w.setCell ⟨R,1,none⟩ (.int .i64 ((p:Int)+1))).cell? ⟨R,1,none⟩=some (.int .i64 ((p:Int)+1)) from by apply World.cell?_setCell_same;exact hq];simp,hp⟩
 free:=by simpa using h.free
 bytes h0:=by
  obtain ⟨b,off,e,hne,hbl,hc⟩:=h.bytes h0;refine ⟨b,off,e,hne,by simpa using hbl,fun i hi=>?_⟩;obtain ⟨c,c0,c1,hcc⟩:=hc i hi;refine ⟨c,c0,c1,?_⟩;rw [show (w.setCell ⟨R,1,none⟩ (.int .i64 ((p:Int)+1))).cell? ⟨b,off+i,none⟩=w.cell? ⟨b,off+i,none⟩ from by apply World.cell?_setCell_other;intro e;exact hne (congrArg Addr.block e).symm];exact hcc
 small:=h.small
def Only (R:Nat)(w w':World):Prop:=w.grownBy w' (some R)
theorem Only.refl (R:Nat)(w:af):Only R w w:=⟨rfl,rfl,rfl,Ue _,fun _ _ _=>rfl⟩
theorem Only.trans {R:Nat}{a b c:af}(h:Only R a b)(k:Only R b c):Only R a c :=
 ⟨k.os.trans h.os,k.tape.trans h.tape,k.output.trans h.output,Uk h.size k.size,fun i hi hr=>(k.block i (Uc hi h.size) hr).trans (h.block i hi hr)⟩
theorem Only.drewN {R:Nat}{a b:af}(h:Only R a b)(n:Nat):Only R a (b.drewN n):=⟨h.os,h.tape,h.output,h.size,h.block⟩
theorem Only.set {R:Nat}{a b:af}(h:Only R a b)(o:Nat)(v:Value):Only R a (b.setCell ⟨R,o,none⟩ v) :=
 ⟨h.os,h.tape,h.output,by simpa using h.size,fun i hi hr=>(Below.heap_setCell b ⟨R,o,none⟩ v i (fun e=>hr (by rw [e]))).trans (h.block i hi hr)⟩
theorem Only.below {R:Nat}{a b c:af}(h:Only R a b)(k:ag b c):Only R a c :=
 ⟨k.os.trans h.os,k.tape.trans h.tape,k.output.trans h.output,Uk h.size k.size,fun i hi hr=>(k.block i (Uc hi h.size)).trans (h.block i hi hr)⟩
theorem Only.of_below {R:Nat}{b c:af}(k:ag b c):Only R b c:=(Only.refl R b).below k
theorem Only.cell {R:Nat}{w w':af}(h:Only R w w'){b o:Nat}(hb:b<w.heap.size)(hne:b≠R):w'.cell? ⟨b,o,none⟩=w.cell? ⟨b,o,none⟩ :=
 Uy (w:=w) (h.block b hb (fun e=>hne (by injection e)))
theorem Only.frozen {R:Nat}{w w':af}(h:Only R w w'){b o:Nat}(hb:b<w.heap.size)(hne:b≠R):w'.frozen? ⟨b,o,none⟩=w.frozen? ⟨b,o,none⟩ :=
 World.frozen?_of_block (w:=w) (h.block b hb (fun e=>hne (by injection e)))
theorem Only.toBelow {R B:Nat}{a w w':af}(h:Below B a w)(k:Only R w w')(hB:B<=w.heap.size)(hR:B<=R):Below B a w' :=
 h.grown k hB (fun i hi=>by injection hi with e;omega)
theorem uL (R:Nat)(ad:Option Addr)(len cap:Nat)(w:af)(h:Rd w R ad len cap) :
  Calls prog 90 #[.pointer (some ⟨R,0,none⟩)] w fun e w'=>(∃ x:Int,e=.returned (.int .i64 x)/\0<=x/\x<=255)/\Rd w' R ad len cap/\Only R w w':=by
 obtain ⟨p,hp,hpl⟩:=h.place;have hc:=h.code;have hsm:=h.small;unfold maxLen at hsm;have H:=aA h;by_cases hlt:p<len
 ·obtain ⟨b,off,rfl,hne,hbl,hbytes⟩:=h.bytes (by omega);obtain ⟨c,c0,c1,hcc⟩:=hbytes p hlt;have hfz:=h.free;have hnl:decide ((len:Int)<=(p:Int))=false:=by simp;omega
  have HS:Hid (Rd (w.setCell ⟨R,1,none⟩ (.int .i64 ((p:Int)+1))) R (some ⟨b,off,none⟩) len cap):=h.step (by omega);clear hbytes h;go_enter func90,ntmps90;go_wp2;go_quiet (fail);go_wp2;have e1:(p:Int)+1-1=(p:Int):=by omega
  have e2:=bF p;have e3:(p:Int)<(len:Int):=by omega
  have hw:IntKind.i64.wrap (p:Int)=(p:Int):=by rw [IntKind.wrap_i64];omega
  have hcw:IntKind.i64.wrap c=c:=by rw [IntKind.wrap_i64];omega
  have x1:(w.setCell ⟨R,1,none⟩ (.int .i64 ((p:Int)+1))).cell? ⟨b,off+p,none⟩=some (.int .u8 c):=by
   rw [show (w.setCell ⟨R,1,none⟩ (.int .i64 ((p:Int)+1))).cell? ⟨b,off+p,none⟩=w.cell? ⟨b,off+p,none⟩ from by apply World.cell?_setCell_other;intro e;exact hne (congrArg Addr.block e).symm];exact hcc
  go_quiet (fail);go_wp2;go_ret;exact ⟨⟨c,rfl,c0,c1⟩,HS.out.below ⟨rfl,rfl,rfl,Ue _,fun _ _=>rfl⟩,(((Only.refl _ _).drewN _).set _ _).drewN _⟩
 have hge:decide ((len:Int)<=(p:Int))=true:=by simp;omega
 clear h;go_enter func90,ntmps90;go_wp2;go_quiet (fail);go_wp2;go_ret;exact ⟨⟨0,rfl,by omega,by omega⟩,H.out.below ((below_drewN (Uf _ _) _)),(Only.refl _ _).drewN _⟩
theorem bY (R:Nat)(ad:Option Addr)(len cap:Nat)(n:Int)(w:af)(h:Rd w R ad len cap)(h1:2<=n)(h2:n<=256) :
  Calls prog 49 #[.pointer (some ⟨R,0,none⟩),.int .i64 n] w fun e w'=>(∃ x:Int,e=.returned (.int .i64 x)/\0<=x/\x<n)/\Rd w' R ad len cap/\Only R w w':=by
 have H:=aA h;clear h;have hne:(n==0)=false:=by simp;omega
 go_enter func49,ntmps49;go_wp2_with fail;refine (uL R ad len cap _ H.out).mono ?_;rintro e w1 ⟨⟨x,rfl,hx0,hx1⟩,Vh,U8⟩;have HR:=aA Vh;have HO:=aA U8;clear Vh U8;go_wp2;go_ret;exact ⟨⟨_,rfl,Int.emod_nonneg _ (by omega),Int.emod_lt_of_pos _ (by omega)⟩,HR.out,HO.out⟩
theorem iW (R:Nat)(ad:Option Addr)(len cap:Nat)(n:Int)(w:af)(h:Rd w R ad len cap)(h1:2<=n)(h2:n<=256) :
  Calls prog 48 #[.pointer (some ⟨R,0,none⟩),.int .i64 n] w fun e w'=>(∃ x:Bool,e=.returned (.bool x))/\Rd w' R ad len cap/\Only R w w':=by
 have H:=aA h;clear h;go_enter func48,ntmps48;go_wp2_with fail;refine (bY R ad len cap n _ H.out h1 h2).mono ?_;rintro e w1 ⟨⟨x,rfl,hx0,hx1⟩,Vh,U8⟩;have HR:=aA Vh;have HO:=aA U8;clear Vh U8;go_wp2;go_ret;exact ⟨⟨_,rfl⟩,HR.out,HO.out⟩
def Strs (w:World)(R g n:Nat):Prop:=g≠R/\g<w.heap.size/\∀ i,i<n->∃ s:ByteArray,s.size<=20/\w.cell? ⟨g,i,none⟩=some (.string s)
theorem Strs.only {w w':af}{R g n:Nat}(h:Strs w R g n)(k:Only R w w'):Strs w' R g n :=
 ⟨h.1,Uc h.2.1 k.size,fun i hi=>by obtain ⟨s,hs,hc⟩:=h.2.2 i hi;exact ⟨s,hs,by rw [k.cell h.2.1 h.1];exact hc⟩⟩
def zx (w:World)(R B g:Nat):Prop:=g≠R/\B<=g/\g<w.heap.size/\(∀ o,w.frozen? ⟨g,o,none⟩=false)/\∃ a b:ByteArray,a.size<=20/\b.size<=20/\w.cell? ⟨g,0,none⟩=some (.string a)/\w.cell? ⟨g,1,none⟩=some (.string b)
theorem zx.only {w w':af}{R B g:Nat}(h:zx w R B g)(k:Only R w w'):zx w' R B g:=by
 obtain ⟨h1,h2,h3,h4,a,b,ha,hb,ca,cb⟩:=h;exact ⟨h1,h2,Uc h3 k.size,fun o=>by rw [k.frozen h3 h1];exact h4 o,a,b,ha,hb,by rw [k.cell h3 h1];exact ca,by rw [k.cell h3 h1];exact cb⟩
theorem fC (w:af)(R:Nat)(hR:R<w.heap.size){t:TypeId}{xs:List ByteArray}(h:xs.all (fun x=>decide (x.size<=20))=true):Strs (w.alloc (.cells (xs.map Value.string).toArray t)) R w.heap.size xs.length:=by
 refine ⟨by omega,by simp,fun i hi=>⟨xs[i],?_,?_⟩⟩
 ·rw [Un]at h;simpa using h xs[i] (Ud hi)
 simp [hi]
theorem KX {w:af}{R B:Nat}{t:TypeId}(hR:R<w.heap.size)(hB:B<=w.heap.size):zx (w.alloc (.cells #[.string ⟨#[]⟩,.string ⟨#[]⟩] t)) R B w.heap.size :=
 ⟨by omega,hB,by simp,fun o=>by simp,⟨#[]⟩,⟨#[]⟩,by decide,by decide,by simp,by simp⟩
theorem KY {w:af}{R B g:Nat}{x y:Value}{a b:ByteArray}(h1:g≠R)(h2:B<=g)(h3:g<w.heap.size)(h4:∀ o,w.frozen? ⟨g,o,none⟩=false)(hx:w.cell? ⟨g,0,none⟩=some x)(hy:w.cell? ⟨g,1,none⟩=some y)(ha:a.size<=20)(hb:b.size<=20) :
  zx ((w.setCell ⟨g,0,none⟩ (.string a)).setCell ⟨g,1,none⟩ (.string b)) R B g:=by
 have n01:(⟨g,0,none⟩:Addr)≠⟨g,1,none⟩:=by intro e;cases e
 have e1:(w.setCell ⟨g,0,none⟩ (.string a)).cell? ⟨g,1,none⟩=some y:=by
  rw [show (w.setCell ⟨g,0,none⟩ (.string a)).cell? ⟨g,1,none⟩=w.cell? ⟨g,1,none⟩ from by apply World.cell?_setCell_other;exact n01];exact hy
 refine ⟨h1,h2,by simpa using h3,fun o=>by simpa using h4 o,a,b,ha,hb,?_,?_⟩
 ·rw [show ((w.setCell ⟨g,0,none⟩ (.string a)).setCell ⟨g,1,none⟩ (.string b)).cell? ⟨g,0,none⟩=(w.setCell ⟨g,0,none⟩ (.string a)).cell? ⟨g,0,none⟩ from by apply World.cell?_setCell_other;exact n01.symm];apply World.cell?_setCell_same;exact hx
 apply World.cell?_setCell_same;exact e1
theorem Rd.setFar {w:af}{R g o:Nat}{ad:Option Addr}{len cap:Nat}{v:Value}(h:Rd w R ad len cap)(hg:g≠R)(hb:0<len->∀ b off,ad=some ⟨b,off,none⟩->b≠g):Rd (w.setCell ⟨g,o,none⟩ v) R ad len cap where
 lt:=by simpa using h.lt
 code:=by
  rw [show (w.setCell ⟨g,o,none⟩ v).cell? ⟨R,0,none⟩=w.cell? ⟨R,0,none⟩ from by apply World.cell?_setCell_other;intro e;exact hg (congrArg Addr.block e)];exact h.code
 place:=by
  obtain ⟨p,hp,hl⟩:=h.place;exact ⟨p,by rw [show (w.setCell ⟨g,o,none⟩ v).cell? ⟨R,1,none⟩=w.cell? ⟨R,1,none⟩ from by apply World.cell?_setCell_other;intro e;exact hg (congrArg Addr.block e)];exact hp,hl⟩
 free:=by simpa using h.free
 bytes h0:=by
  obtain ⟨b,off,e,hne,hbl,hc⟩:=h.bytes h0;refine ⟨b,off,e,hne,by simpa using hbl,fun i hi=>?_⟩;obtain ⟨c,c0,c1,hcc⟩:=hc i hi;exact ⟨c,c0,c1,by rw [show (w.setCell ⟨g,o,none⟩ v).cell? ⟨b,off+i,none⟩=w.cell? ⟨b,off+i,none⟩ from by apply World.cell?_setCell_other;intro e2;exact hb h0 b off e (congrArg Addr.block e2).symm];exact hcc⟩
 small:=h.small
theorem Only.setNew {R g o:Nat}{a b:af}{v:Value}(h:Only R a b)(hg:a.heap.size<=g):Only R a (b.setCell ⟨g,o,none⟩ v) :=
 ⟨h.os,h.tape,h.output,by simpa using h.size,fun i hi hr=>(Below.heap_setCell b ⟨g,o,none⟩ v i (by simp;omega)).trans (h.block i hi hr)⟩
theorem Only.alloc {R:Nat}{a b:af}(h:Only R a b)(o:Obj):Only R a (b.alloc o):=h.below ((Uf _ _).alloc (Ue _) _)
theorem Rd.alloc {w:af}{R:Nat}{ad:Option Addr}{len cap:Nat}(h:Rd w R ad len cap)(o:Obj):Rd (w.alloc o) R ad len cap:=h.below ((Uf _ _).alloc (Ue _) _)
theorem Qv {w:af}{a:Addr}{v:Value}(h:w.cell? a=some v)(o:Obj):(w.alloc o).cell? a=some v:=cell_later ((Uf _ _).alloc (Ue _) _) h
def Ob (w:World)(R g:Nat)(a b:ByteArray):Prop:=g≠R/\g<w.heap.size/\w.cell? ⟨g,0,none⟩=some (.string a)/\w.cell? ⟨g,1,none⟩=some (.string b)
theorem Ob.only {w w':af}{R g:Nat}{a b:ByteArray}(h:Ob w R g a b)(k:Only R w w'):Ob w' R g a b :=
 ⟨h.1,Uc h.2.1 k.size,by rw [k.cell h.2.1 h.1];exact h.2.2.1,by rw [k.cell h.2.1 h.1];exact h.2.2.2⟩
theorem Ob.alloc {w:af}{R g:Nat}{a b:ByteArray}(h:Ob w R g a b)(o:Obj):Ob (w.alloc o) R g a b:=h.only ((Only.refl R w).alloc o)
theorem D7 {w:af}{R:Nat}(hR:R<w.heap.size)(t:TypeId)(a b:bI):Ob (w.alloc (.cells #[.string a,.string b] t)) R w.heap.size a b :=
 ⟨by omega,by simp,by simp,by simp⟩
def Sn (w:World)(R n:Nat):Prop:=n≠R/\n<w.heap.size/\(∀ o,w.frozen? ⟨n,o,none⟩=false)/\∀ o,o<6->w.cell? ⟨n,o,none⟩=some (.string ⟨#[]⟩)
theorem Sn.only {w w':af}{R n:Nat}(h:Sn w R n)(k:Only R w w'):Sn w' R n :=
 ⟨h.1,Uc h.2.1 k.size,fun o=>by rw [k.frozen h.2.1 h.1];exact h.2.2.1 o,fun o ho=>by rw [k.cell h.2.1 h.1];exact h.2.2.2 o ho⟩
theorem Qw {w:af}{R:Nat}(hR:R<w.heap.size)(t:TypeId):Sn (w.alloc (.cells #[.string ⟨#[]⟩,.string ⟨#[]⟩,.string ⟨#[]⟩,.string ⟨#[]⟩,.string ⟨#[]⟩,.string ⟨#[]⟩] t)) R w.heap.size:=by
 refine ⟨by omega,by simp,fun o=>by simp,fun o ho=>?_⟩;have h6:o=0\/o=1\/o=2\/o=3\/o=4\/o=5:=by omega
 rcases h6 with rfl|rfl|rfl|rfl|rfl|rfl <;> simp
structure Kd where
 s:Value ⊕ Nat ⊕ Nat ⊕ Nat ⊕ Unit ⊕ Unit ⊕ Unit
abbrev Kd.eq (v:Value):Kd:=⟨.inl v⟩
abbrev Kd.strs (n:Nat):Kd:=⟨.inr (.inl n)⟩
abbrev Kd.idx (n:Nat):Kd:=⟨.inr (.inr (.inl n))⟩
abbrev Kd.elt (n:Nat):Kd:=⟨.inr (.inr (.inr (.inl n)))⟩
abbrev Kd.str:Kd:=⟨.inr (.inr (.inr (.inr (.inl ()))))⟩
abbrev Kd.obj:Kd:=⟨.inr (.inr (.inr (.inr (.inr (.inl ())))))⟩
abbrev Kd.tup:Kd:=⟨.inr (.inr (.inr (.inr (.inr (.inr ())))))⟩
def Kd.ok (R:Nat)(w:World)(v:Value):Kd->Prop
 | ⟨.inl u⟩=>v=u
 | ⟨.inr (.inl n)⟩=>∃ g,v=.slice (some ⟨g,0,none⟩) n n/\Strs w R g n
 | ⟨.inr (.inr (.inl n))⟩=>∃ x:Nat,v=.int .i64 (x:Int)/\x<n
 | ⟨.inr (.inr (.inr (.inl n)))⟩=>∃ g x,v=.pointer (some ⟨g,x,none⟩)/\x<n/\Strs w R g n
 | ⟨.inr (.inr (.inr (.inr (.inl _))))⟩=>∃ t:ByteArray,v=.string t/\t.size<=20
 | ⟨.inr (.inr (.inr (.inr (.inr (.inl _)))))⟩=>∃ a b:ByteArray,v=.agg #[.string a,.string b]/\a.size<=20/\b.size<=20
 | ⟨.inr (.inr (.inr (.inr (.inr (.inr _)))))⟩=>∃ a b r c d s:ByteArray,v=.agg #[.string a,.string b,.string r,.string c,.string d,.string s]/\a.size<=20/\b.size<=20/\r.size<=20/\c.size<=20/\d.size<=20/\s.size<=20
theorem Kd.only {R:Nat}{w w':af}{v:Value}(h:Only R w w')(k:Kd)(hk:k.ok R w v):k.ok R w' v:=by
 match k,hk with
 | ⟨.inl _⟩,hk=>exact hk
 | ⟨.inr (.inl _)⟩,hk=>obtain ⟨g,e,hs⟩:=hk;exact ⟨g,e,hs.only h⟩
 | ⟨.inr (.inr (.inl _))⟩,hk=>exact hk
 | ⟨.inr (.inr (.inr (.inl _)))⟩,hk=>obtain ⟨g,x,e,hx,hs⟩:=hk;exact ⟨g,x,e,hx,hs.only h⟩
 | ⟨.inr (.inr (.inr (.inr (.inl _))))⟩,hk=>exact hk
 | ⟨.inr (.inr (.inr (.inr (.inr (.inl _)))))⟩,hk=>exact hk
 | ⟨.inr (.inr (.inr (.inr (.inr (.inr _)))))⟩,hk=>exact hk
def FI (ks:List Kd)(k:Nat):Kd:=ks.getD k .tup
set_option maxRecDepth 100000
theorem jK {p:Prop}(h:p):Hid p:=h
theorem Ii (R:Nat)(w:af)(n:Int)(h:n<=1) :
  Calls prog 49 #[.pointer (some ⟨R,0,none⟩),.int .i64 n] w fun e w'=>e=.returned (.int .i64 0)/\w'=w:=by
 go_enter func49,ntmps49;go_wp2;go_ret;exact ⟨rfl,rfl⟩
theorem fQ (R:Nat)(ad:Option Addr)(len cap:Nat)(n:Nat)(w:af)(h:Rd w R ad len cap)(h1:1<=n)(h2:n<=256) :
  Calls prog 49 #[.pointer (some ⟨R,0,none⟩),.int .i64 (n:Int)] w fun e w'=>(∃ x:Nat,e=.returned (.int .i64 (x:Int))/\x<n)/\Rd w' R ad len cap/\Only R w w':=by
 by_cases hn:n=1
 ·subst hn;exact (Ii R w 1 (by omega)).mono fun e w' ⟨he,hw⟩=>⟨⟨0,by rw [he];rfl,by omega⟩,by rw [hw];exact h,by rw [hw];exact Only.refl _ _⟩
 exact (bY R ad len cap n w h (by omega) (by omega)).mono fun e w' ⟨⟨x,he,h0,h3⟩,hR,hO⟩=>⟨⟨x.toNat,by rw [he,Int.toNat_of_nonneg h0],by omega⟩,hR,hO⟩
def rY (w:World)(R g n m:Nat):Prop:=g≠R/\g<w.heap.size/\∀ o,o<n->∃ s:ByteArray,w.cell? ⟨g,o,none⟩=some (.string s)/\s.size<=m
theorem rY.only {w w':af}{R g n m:Nat}(h:rY w R g n m)(k:Only R w w'):rY w' R g n m :=
 ⟨h.1,Uc h.2.1 k.size,fun o ho=>by obtain ⟨s,e,hs⟩:=h.2.2 o ho;exact ⟨s,by rw [k.cell h.2.1 h.1];exact e,hs⟩⟩
theorem l5 (w:af)(R m:Nat)(hR:R<w.heap.size){t:TypeId}{xs:List ByteArray}(h:xs.all (fun x=>decide (x.size<=m))=true):rY (w.alloc (.cells (xs.map Value.string).toArray t)) R w.heap.size xs.length m:=by
 refine ⟨by omega,by simp,fun o ho=>⟨xs[o],?_,?_⟩⟩
 ·have:=World.cell?_alloc_mark w (xs.map Value.string).toArray t (0,0) o;rw [this];simp [ho]
 have:=Un.1 h _ (Ud ho);simpa using this
def tB:Nat->Nat
 | 0=>14
 | d+1=>3*tB d+8
theorem sw (R:Nat)(ad:Option Addr)(len cap:Nat)(d:Int)(w:af)(h:Rd w R ad len cap) :
  Calls prog 123 #[.pointer (some ⟨R,0,none⟩),.int .i64 d,.bool true] w fun e w'=>(∃ t:ByteArray,e=.returned (.string t)/\t.size<=24)/\Rd w' R ad len cap/\Only R w w':=by
 have XH:=h.lt;have Zr:=jK h;obtain ⟨xs,hxs⟩:∃ xs:List ByteArray,xs=[⟨#[116,104,105,115,40,117,115,101,114,41]⟩,⟨#[116,104,105,115,40,117,115,101,114,44,103,114,111,117,112,35,109,101,109,98,101,114,41]⟩,⟨#[116,104,105,115,40,117,115,101,114,44,100,111,99,35,101,100,105,116,111,114,41]⟩]:=⟨_,rfl⟩;obtain ⟨W0,hW0⟩:∃ W0,W0=w.alloc (.cells (xs.map Value.string).toArray 9):=⟨_,rfl⟩;have Xy:Hid (rY W0 R w.heap.size 3 24):=by
  show rY _ _ _ _ _;rw [hW0];have:=l5 w R 24 XH (t:=9) (xs:=xs) (by rw [hxs];decide);rwa [show xs.length=3 by rw [hxs];rfl]at this
 have VO:Hid (Rd W0 R ad len cap):=by show Rd _ _ _ _ _;rw [hW0];exact h.alloc _
 have Wn:Hid (Only R w W0):=by show Only _ _ _;rw [hW0];exact (Only.refl _ _).alloc _
 have hW1:W0=w.alloc (.cells #[.string ⟨#[116,104,105,115,40,117,115,101,114,41]⟩,.string ⟨#[116,104,105,115,40,117,115,101,114,44,103,114,111,117,112,35,109,101,109,98,101,114,41]⟩,.string ⟨#[116,104,105,115,40,117,115,101,114,44,100,111,99,35,101,100,105,116,111,114,41]⟩] 9):=by rw [hW0,hxs];rfl
 clear h hW0 hxs;go_enter func123,ntmps123;go_wp2_with fail;rw [<-hW1];clear hW1;refine (fQ R ad len cap 3 _ VO.out (by omega) (by omega)).mono ?_;rintro e w1 ⟨⟨x,rfl,hx⟩,Vh,U8⟩;obtain ⟨-,hlt,hcells⟩:=Xy.out.only U8;obtain ⟨t,ht,hts⟩:=hcells x hx;have HR1:=jK Vh;have U7:Hid (Only R w w1):=Wn.out.trans U8;have hx0:=bF x;have hx1:(x:Int)<3:=by omega
 clear Vh U8 hcells Xy VO Wn;go_wp2;go_ret;exact ⟨⟨t,rfl,hts⟩,HR1.out,U7.out⟩
theorem D8 (R:Nat)(ad:Option Addr)(len cap:Nat):∀ (d:Nat) (w:af),d<=2->Rd w R ad len cap ->
  Calls prog 123 #[.pointer (some ⟨R,0,none⟩),.int .i64 (d:Int),.bool false] w fun e w'=>(∃ t:ByteArray,e=.returned (.string t)/\t.size<=tB d)/\Rd w' R ad len cap/\Only R w w':=by
 intro d
 induction d with
 | zero =>
  intro w _ h;have XH:=h.lt;have hz:(0:Nat)<=256:=by omega
  obtain ⟨xs,hxs⟩:∃ xs:List ByteArray,xs=[⟨#[101,100,105,116,111,114]⟩,⟨#[118,105,101,119,101,114]⟩,⟨#[98,97,110,110,101,100]⟩,⟨#[112,97,114,101,110,116,45,62,118,105,101,119,101,114]⟩,⟨#[112,97,114,101,110,116,45,62,101,100,105,116,111,114]⟩,⟨#[111,119,110,101,114]⟩,⟨#[112,97,114,101,110,116,45,62,111,119,110,101,114]⟩]:=⟨_,rfl⟩;obtain ⟨W0,hW0⟩:∃ W0,W0=w.alloc (.cells (xs.map Value.string).toArray 9):=⟨_,rfl⟩;have Xy:Hid (rY W0 R w.heap.size 7 14):=by
   show rY _ _ _ _ _;rw [hW0];have:=l5 w R 14 XH (t:=9) (xs:=xs) (by rw [hxs];decide);rwa [show xs.length=7 by rw [hxs];rfl]at this
  have VO:Hid (Rd W0 R ad len cap):=by show Rd _ _ _ _ _;rw [hW0];exact h.alloc _
  have Wn:Hid (Only R w W0):=by show Only _ _ _;rw [hW0];exact (Only.refl _ _).alloc _
  have hW1:W0=w.alloc (.cells #[.string ⟨#[101,100,105,116,111,114]⟩,.string ⟨#[118,105,101,119,101,114]⟩,.string ⟨#[98,97,110,110,101,100]⟩,.string ⟨#[112,97,114,101,110,116,45,62,118,105,101,119,101,114]⟩,.string ⟨#[112,97,114,101,110,116,45,62,101,100,105,116,111,114]⟩,.string ⟨#[111,119,110,101,114]⟩,.string ⟨#[112,97,114,101,110,116,45,62,111,119,110,101,114]⟩] 9):=by rw [hW0,hxs];rfl
  clear h hW0 hxs;go_enter func123,ntmps123;go_wp2_with fail;rw [<-hW1];clear hW1;refine (fQ R ad len cap 7 _ VO.out (by omega) (by omega)).mono ?_;rintro e w1 ⟨⟨x,rfl,hx⟩,Vh,U8⟩;obtain ⟨-,hlt,hcells⟩:=Xy.out.only U8;obtain ⟨t,ht,hts⟩:=hcells x hx;have HR1:=jK Vh;have U7:Hid (Only R w w1):=Wn.out.trans U8;have hx0:=bF x;have hx1:(x:Int)<7:=by omega
  clear Vh U8 hcells Xy VO Wn;go_wp2;go_ret;exact ⟨⟨t,rfl,hts⟩,HR1.out,U7.out⟩
 | succ d ih =>
  intro w hd h;have XH:=h.lt;have IH:=jK ih;have hd0:(((d+1:Nat):Int)==0)=false:=by simp;omega
  have hdm:((d+1:Nat):Int)-1=(d:Int):=by omega
  have HTB:Hid (tB (d+1)=3*tB d+8):=rfl;have hb0:tB d<=82:=by
   have:d=0\/d=1:=by omega
   rcases this with rfl|rfl <;> decide
  obtain ⟨bd,hbd⟩:∃ bd,bd=tB d:=⟨_,rfl⟩;rw [<-hbd]at hb0 HTB;have HBD:=jK hbd;clear ih hbd;go_enter func123,ntmps123;go_wp2_with fail;refine (iW R ad len cap 2 _ h (by omega) (by omega)).mono ?_;rintro e w1 ⟨⟨q,rfl⟩,Vh,U8⟩;have HR1:=jK Vh;have U7:=jK U8;have hRw1:R<w1.heap.size:=Vh.lt;clear Vh U8 h;cases q;case true=>
   obtain ⟨xs,hxs⟩:∃ xs:List ByteArray,xs=[⟨#[101,100,105,116,111,114]⟩,⟨#[118,105,101,119,101,114]⟩,⟨#[98,97,110,110,101,100]⟩,⟨#[112,97,114,101,110,116,45,62,118,105,101,119,101,114]⟩,⟨#[112,97,114,101,110,116,45,62,101,100,105,116,111,114]⟩,⟨#[111,119,110,101,114]⟩,⟨#[112,97,114,101,110,116,45,62,111,119,110,101,114]⟩]:=⟨_,rfl⟩;obtain ⟨W0,hW0⟩:∃ W0,W0=w1.alloc (.cells (xs.map Value.string).toArray 9):=⟨_,rfl⟩;have Xy:Hid (rY W0 R w1.heap.size 7 14):=by
    show rY _ _ _ _ _;rw [hW0];have:=l5 w1 R 14 hRw1 (t:=9) (xs:=xs) (by rw [hxs];decide);rwa [show xs.length=7 by rw [hxs];rfl]at this
   have VO:Hid (Rd W0 R ad len cap):=by show Rd _ _ _ _ _;rw [hW0];exact HR1.out.alloc _
   have Wn:Hid (Only R w W0):=by show Only _ _ _;rw [hW0];exact U7.out.alloc _
   have hW1:W0=w1.alloc (.cells #[.string ⟨#[101,100,105,116,111,114]⟩,.string ⟨#[118,105,101,119,101,114]⟩,.string ⟨#[98,97,110,110,101,100]⟩,.string ⟨#[112,97,114,101,110,116,45,62,118,105,101,119,101,114]⟩,.string ⟨#[112,97,114,101,110,116,45,62,101,100,105,116,111,114]⟩,.string ⟨#[111,119,110,101,114]⟩,.string ⟨#[112,97,114,101,110,116,45,62,111,119,110,101,114]⟩] 9):=by rw [hW0,hxs];rfl
   clear hW0 hxs HR1 U7;go_wp2_with fail;rw [<-hW1];clear hW1;refine (fQ R ad len cap 7 _ VO.out (by omega) (by omega)).mono ?_;rintro e w2 ⟨⟨x,rfl,hx⟩,hR2,hO2⟩;obtain ⟨-,hlt,hcells⟩:=Xy.out.only hO2;obtain ⟨t,ht,hts⟩:=hcells x hx;have HR2:=jK hR2;have UN:Hid (Only R w w2):=Wn.out.trans hO2;have hx0:=bF x;have hx1:(x:Int)<7:=by omega
   have hfin:t.size<=tB (d+1):=by rw [HTB.out,HBD.out];cases d <;> simp [tB] <;> omega
   have Vm:=jK hfin;clear hR2 hO2 hcells Xy VO Wn hfin;go_wp2;go_ret;exact ⟨⟨t,rfl,Vm.out⟩,HR2.out,UN.out⟩
  obtain ⟨xs,hxs⟩:∃ xs:List ByteArray,xs=[⟨#[32,124,32]⟩,⟨#[32,38,32]⟩,⟨#[32,45,32]⟩,⟨#[32,124,32]⟩]:=⟨_,rfl⟩;obtain ⟨W0,hW0⟩:∃ W0,W0=w1.alloc (.cells (xs.map Value.string).toArray 9):=⟨_,rfl⟩;have Xy:Hid (rY W0 R w1.heap.size 4 3):=by
   show rY _ _ _ _ _;rw [hW0];have:=l5 w1 R 3 hRw1 (t:=9) (xs:=xs) (by rw [hxs];decide);rwa [show xs.length=4 by rw [hxs];rfl]at this
  have VO:Hid (Rd W0 R ad len cap):=by show Rd _ _ _ _ _;rw [hW0];exact HR1.out.alloc _
  have Wn:Hid (Only R w W0):=by show Only _ _ _;rw [hW0];exact U7.out.alloc _
  have hW1:W0=w1.alloc (.cells #[.string ⟨#[32,124,32]⟩,.string ⟨#[32,38,32]⟩,.string ⟨#[32,45,32]⟩,.string ⟨#[32,124,32]⟩] 9):=by rw [hW0,hxs];rfl
  clear hW0 hxs HR1 U7;go_wp2_with fail;rw [<-hW1];clear hW1;refine (fQ R ad len cap 4 _ VO.out (by omega) (by omega)).mono ?_;rintro e w2 ⟨⟨x,rfl,hx⟩,hR2,hO2⟩;obtain ⟨-,hlt,hcells⟩:=Xy.out.only hO2;obtain ⟨op,hop,hops⟩:=hcells x hx;have HR2:=jK hR2;have UN:Hid (Only R w w2):=Wn.out.trans hO2;have hx0:=bF x;have hx1:(x:Int)<4:=by omega
  clear hR2 hO2 hcells Xy VO Wn;go_wp2_with fail;refine (IH.out w2 (by omega) HR2.out).mono ?_;rintro e w3 ⟨⟨t1,rfl,ht1⟩,WF,hO3⟩;rw [<-HBD.out]at ht1;have HR3:=jK WF;have U9:Hid (Only R w w3):=UN.out.trans hO3;clear WF hO3 HR2 UN hop hlt;go_wp2_with fail;refine (IH.out w3 (by omega) HR3.out).mono ?_;rintro e w4 ⟨⟨t2,rfl,ht2⟩,XI,hO4⟩;rw [<-HBD.out]at ht2;have HR4:=jK XI;have U4:Hid (Only R w w4):=U9.out.trans hO4;clear XI hO4 HR3 U9;have e1:(⟨#[40]⟩:ByteArray).size=1:=rfl;have e2:(⟨#[41]⟩:ByteArray).size=1:=rfl;cases hm:op.toList==[32,45,32];case true=>
   have hm2:(!op.toList==[32,45,32])=false:=by rw [hm];rfl
   have Vm:Hid ((((((⟨#[40]⟩:ByteArray)++t1)++op)++t2)++⟨#[41]⟩).size<=tB (d+1)):=by show _<=_;rw [HTB.out];simp only [Uv,e1,e2];omega
   go_wp2_with fail;go_ret;exact ⟨⟨_,rfl,Vm.out⟩,HR4.out,U4.out⟩
  have hm2:(!op.toList==[32,45,32])=true:=by rw [hm];rfl
  go_wp2_with fail;refine (iW R ad len cap 3 _ HR4.out (by omega) (by omega)).mono ?_;rintro e w5 ⟨⟨q,rfl⟩,U6,Va⟩;have U5:=jK U6;have UZ:Hid (Only R w w5):=U4.out.trans Va;clear U6 Va HR4 U4;cases q;case false=>
   have Vm:Hid ((((((⟨#[40]⟩:ByteArray)++t1)++op)++t2)++⟨#[41]⟩).size<=tB (d+1)):=by show _<=_;rw [HTB.out];simp only [Uv,e1,e2];omega
   go_wp2_with fail;go_ret;exact ⟨⟨_,rfl,Vm.out⟩,U5.out,UZ.out⟩
  go_wp2_with fail;refine (IH.out w5 (by omega) U5.out).mono ?_;rintro e w6 ⟨⟨t3,rfl,ht3⟩,hR6,Xh⟩;rw [<-HBD.out]at ht3;have Wt:=jK hR6;have Vw:Hid (Only R w w6):=UZ.out.trans Xh;clear hR6 Xh U5 UZ;have Vm:Hid ((((((((⟨#[40]⟩:ByteArray)++t1)++op)++t2)++op)++t3)++⟨#[41]⟩).size<=tB (d+1)):=by show _<=_;rw [HTB.out];simp only [Uv,e1,e2];omega
  go_wp2_with fail;go_ret;exact ⟨⟨_,rfl,Vm.out⟩,Wt.out,Vw.out⟩
theorem FJ (R:Nat)(ad:Option Addr)(len cap d:Nat)(w:af)(hd:d<=2)(h:Rd w R ad len cap) :
  Calls prog 83 #[.pointer (some ⟨R,0,none⟩),.int .i64 (d:Int)] w fun e w'=>(∃ t:ByteArray,e=.returned (.string t)/\t.size<=190)/\Rd w' R ad len cap/\Only R w w':=by
 have XH:=h.lt;have hb0:tB d<=158:=by
  have:d=0\/d=1\/d=2:=by omega
  rcases this with rfl|rfl|rfl <;> decide
 obtain ⟨xs,hxs⟩:∃ xs:List ByteArray,xs=[⟨#[32,124,32]⟩,⟨#[32,38,32]⟩,⟨#[32,45,32]⟩,⟨#[32,124,32]⟩]:=⟨_,rfl⟩;obtain ⟨W0,hW0⟩:∃ W0,W0=w.alloc (.cells (xs.map Value.string).toArray 9):=⟨_,rfl⟩;have Xy:Hid (rY W0 R w.heap.size 4 3):=by
  show rY _ _ _ _ _;rw [hW0];have:=l5 w R 3 XH (t:=9) (xs:=xs) (by rw [hxs];decide);rwa [show xs.length=4 by rw [hxs];rfl]at this
 have VO:Hid (Rd W0 R ad len cap):=by show Rd _ _ _ _ _;rw [hW0];exact h.alloc _
 have Wn:Hid (Only R w W0):=by show Only _ _ _;rw [hW0];exact (Only.refl _ _).alloc _
 have hW1:W0=w.alloc (.cells #[.string ⟨#[32,124,32]⟩,.string ⟨#[32,38,32]⟩,.string ⟨#[32,45,32]⟩,.string ⟨#[32,124,32]⟩] 9):=by rw [hW0,hxs];rfl
 clear h hW0 hxs;go_enter func83,ntmps83;go_wp2_with fail;rw [<-hW1];clear hW1;refine (fQ R ad len cap 4 _ VO.out (by omega) (by omega)).mono ?_;rintro e w2 ⟨⟨x,rfl,hx⟩,hR2,hO2⟩;obtain ⟨-,hlt,hcells⟩:=Xy.out.only hO2;obtain ⟨op,hop,hops⟩:=hcells x hx;have HR2:=jK hR2;have UN:Hid (Only R w w2):=Wn.out.trans hO2;have hx0:=bF x;have hx1:(x:Int)<4:=by omega
 clear hR2 hO2 hcells Xy VO Wn;go_wp2_with fail;refine (iW R ad len cap 3 _ HR2.out (by omega) (by omega)).mono ?_;rintro e w3 ⟨⟨q,rfl⟩,WF,hO3⟩;have HR3:=jK WF;have U9:Hid (Only R w w3):=UN.out.trans hO3;clear WF hO3 HR2 UN hop hlt;cases q;case true=>
  go_wp2_with fail;refine (sw R ad len cap 0 _ HR3.out).mono ?_;rintro e w4 ⟨⟨t1,rfl,ht1⟩,XI,hO4⟩;have HR4:=jK XI;have U4:Hid (Only R w w4):=U9.out.trans hO4;clear XI hO4;go_wp2;go_ret;exact ⟨⟨t1,rfl,by omega⟩,HR4.out,U4.out⟩
 go_wp2_with fail;refine (sw R ad len cap 0 _ HR3.out).mono ?_;rintro e w4 ⟨⟨t1,rfl,ht1⟩,XI,hO4⟩;have HR4:=jK XI;have U4:Hid (Only R w w4):=U9.out.trans hO4;clear XI hO4;go_wp2_with fail;refine (D8 R ad len cap d _ hd HR4.out).mono ?_;rintro e w5 ⟨⟨t2,rfl,ht2⟩,U6,Va⟩;have U5:=jK U6;have UZ:Hid (Only R w w5):=U4.out.trans Va;have hf:t2.size<=158:=by omega
 have Vm:Hid (((t1++op)++t2).size<=190):=by show _<=_;simp only [Uv];omega
 clear U6 Va ht2 hb0;go_wp2;go_ret;exact ⟨⟨_,rfl,Vm.out⟩,U5.out,UZ.out⟩
theorem qx (R:Nat)(ad:Option Addr)(len cap d:Nat)(w:af)(hd:d<=2)(h:Rd w R ad len cap) :
  Calls prog 83 #[.pointer (some ⟨R,0,none⟩),.int .i64 (d:Int)] w fun e w'=>(∃ t:ByteArray,e=.returned (.string t)/\t.size<=300)/\Rd w' R ad len cap/\Only R w w' :=
 (FJ R ad len cap d w hd h).mono fun e w' ⟨⟨t,h1,h2⟩,h3⟩=>⟨⟨t,h1,by omega⟩,h3⟩
theorem D9 (R:Nat)(ad:Option Addr)(len cap:Nat)(w:af)(h:Rd w R ad len cap) :
  Calls prog 180 #[.pointer (some ⟨R,0,none⟩)] w fun e w'=>(∃ x:Int,e=.returned (.int .u64 x))/\Rd w' R ad len cap/\Only R w w':=by
 have H:=aA h;clear h;go_enter func180,ntmps180;go_wp2;go_loopw [3,4] (fun v i wr=>∃ (x:Int) (k:Nat),v=.int .u64 x/\i=.int .i64 (k:Int)/\k<=8/\Hid (Rd wr R ad len cap)/\Hid (Only R w wr)) (fun _ i _=>8-(intOf i).toNat);case atStart=>exact ⟨0,0,rfl,rfl,by omega,H,Only.refl _ _⟩
 obtain ⟨x,k,rfl,rfl,hk,HR,HO⟩:=hrel;by_cases hlt:k<8
 ·have hk1:(k:Int)<8:=by omega
  go_wp2_with fail;refine (uL R ad len cap _ HR.out).mono ?_;rintro e w1 ⟨⟨y,rfl,hy0,hy1⟩,Vh,U8⟩;have HR1:=aA Vh;have U7:Hid (Only R w w1):=HO.out.trans U8;clear Vh U8;go_wp2;go_roundw;case rel=>exact ⟨_,k+1,rfl,by go_num,by omega,HR1,U7⟩
  simp [intOf] <;> omega
 have hk1:¬ (k:Int)<8:=by omega
 go_wp2;go_ret;exact ⟨⟨x,rfl⟩,HR.out,HO.out⟩
theorem NY (R:Nat)(ad:Option Addr)(len cap:Nat)(w:af)(h:Rd w R ad len cap) :
  Calls prog 125 #[.pointer (some ⟨R,0,none⟩),.int .i64 1,.int .i64 6] w fun e w'=>(∃ x:Int,e=.returned (.int .i64 x))/\Rd w' R ad len cap/\Only R w w':=by
 have H:=jK h;clear h;go_enter func125,ntmps125;go_wp2_with fail;refine (fQ R ad len cap 8 _ H.out (by omega) (by omega)).mono ?_;rintro e w1 ⟨⟨x,rfl,hx⟩,Vh,U8⟩;have HR1:=jK Vh;have U7:=jK U8;clear Vh U8;by_cases h0:x=0
 ·subst h0;go_wp2;go_ret;exact ⟨⟨_,rfl⟩,HR1.out,U7.out⟩
 have h00:((x:Int)==0)=false:=by simp;omega
 by_cases h1:x=1
 ·subst h1;go_wp2;go_ret;exact ⟨⟨_,rfl⟩,HR1.out,U7.out⟩
 have h11:((x:Int)==1)=false:=by simp;omega
 go_wp2_with fail;refine (D9 R ad len cap _ HR1.out).mono ?_;rintro e w2 ⟨⟨y,rfl⟩,hR2,hO2⟩;have HR2:=jK hR2;have UN:Hid (Only R w w2):=U7.out.trans hO2;clear hR2 hO2;go_wp2;go_ret;exact ⟨⟨_,rfl⟩,HR2.out,UN.out⟩
theorem Qx (R:Nat)(ad:Option Addr)(len cap:Nat)(w:af)(h:Rd w R ad len cap) :
  Calls prog 85 #[.pointer (some ⟨R,0,none⟩),.int .i64 1,.int .i64 6] w fun e w'=>(∃ x:Int,e=.returned (.int .i64 x))/\Rd w' R ad len cap/\Only R w w':=by
 have H:=jK h;clear h;go_enter func85,ntmps85;go_wp2_with fail;refine (iW R ad len cap 24 _ H.out (by omega) (by omega)).mono ?_;rintro e w1 ⟨⟨q,rfl⟩,Vh,U8⟩;have HR1:=jK Vh;have U7:=jK U8;have XH:=Vh.lt;clear Vh U8;cases q;case false=>
  go_wp2_with fail;refine (NY R ad len cap _ HR1.out).mono ?_;rintro e w2 ⟨⟨y,rfl⟩,hR2,hO2⟩;have HR2:=jK hR2;have UN:Hid (Only R w w2):=U7.out.trans hO2;clear hR2 hO2;go_wp2;go_ret;exact ⟨⟨_,rfl⟩,HR2.out,UN.out⟩
 obtain ⟨W0,hW0⟩:∃ W0,W0=w1.alloc (.cells #[.int .i64 0,.int .i64 7,.int .i64 (-9223372036854775808),.int .i64 9223372036854775807] 2):=⟨_,rfl⟩;have VO:Hid (Rd W0 R ad len cap):=by show Rd _ _ _ _ _;rw [hW0];exact HR1.out.alloc _
 have Wn:Hid (Only R w W0):=by show Only _ _ _;rw [hW0];exact U7.out.alloc _
 have VR:Hid (w1.heap.size<W0.heap.size/\∀ o,o<4->∃ z:Int,W0.cell? ⟨w1.heap.size,o,none⟩=some (.int .i64 z)):=by
  show _/\_;rw [hW0];refine ⟨by simp,fun o ho=>?_⟩;have:o=0\/o=1\/o=2\/o=3:=by omega
  rcases this with rfl|rfl|rfl|rfl <;> exact ⟨_,by simp;rfl⟩
 go_wp2_with fail;rw [<-hW0];clear hW0;refine (fQ R ad len cap 4 _ VO.out (by omega) (by omega)).mono ?_;rintro e w2 ⟨⟨x,rfl,hx⟩,hR2,hO2⟩;obtain ⟨z,hz⟩:=VR.out.2 x hx;have hz2:w2.cell? ⟨w1.heap.size,x,none⟩=some (.int .i64 z):=by rw [hO2.cell VR.out.1 (by omega)];exact hz
 have HR2:=jK hR2;have UN:Hid (Only R w w2):=Wn.out.trans hO2;have hx0:=bF x;have hx1:(x:Int)<4:=by omega
 clear hR2 hO2 hz VR VO Wn;go_wp2;go_ret;exact ⟨⟨z,rfl⟩,HR2.out,UN.out⟩
theorem Kg {a b a' b':ByteArray}{f f':Bool}(ha:a=a')(hb:b=b')(hf:f=f'):Ending.returned (.tuple #[.string a,.string b,.bool f])=.returned (.tuple #[.string a',.string b',.bool f']):=by rw [ha,hb,hf]
theorem Cv (s:bI)(c:UInt8)(w:af)(hs:s.size<=maxLen) :
  Calls prog 177 #[.string s,.int .u8 c.toNat] w fun e w'=>e=.returned (.tuple #[.string (kr c s),.string (iL c s),.bool (oU c s)])/\∃ n,w'=w.drewN n:=by
 unfold maxLen at hs;go_enter func177,ntmps177;go_wp2
 go_loop [7] (fun i=>∃ k:Nat,k<=s.size/\i=.int .i64 k/\Hid (Sd c s k)) (fun i=>s.size-(intOf i).toNat)
 case atStart=>exact ⟨0,Ui _,rfl,ND _ _⟩
 obtain ⟨k,hk,rfl,hu⟩:=hrel;by_cases hlt:k<s.size
 ·by_cases hc:s[k]=c
  ·have HC:Hid (iV c s.data.toList=_):=Sg hlt hu.out hc;have hcb:((s[k].toNat:Int)==(c.toNat:Int))=true:=by simp [hc]
   have hk1:=bF k;have hk2:(k:Int)<=(s.size:Int):=by omega
   have hk3:(k:Int)+1<=(s.size:Int):=by omega
   clear hc;go_wp2;go_quiet (fail);go_wp2
   go_ret3
   refine ⟨Kg (gH ?_) (gH ?_) (by simp [oU,HC.out]),nq,rfl⟩
   ·rw [Lib.extract_data];simp [kr,HC.out]
   rw [Lib.extract_to_end];simp [iL,HC.out]
  have HU:Hid (Sd c s (k+1)):=NE hlt hu.out hc;have hcb:((s[k].toNat:Int)==(c.toNat:Int))=false:=by
   simp;intro h;exact hc (UInt8.toNat_inj.mp (by omega))
  clear hc;go_wp2;go_round;case rel=>exact ⟨k+1,by omega,by go_num,HU⟩
  simp [intOf];omega
 have HC:Hid (iV c s.data.toList=_):=NF (Nat.le_of_not_lt hlt) hu.out;go_wp2
 go_ret3
 exact ⟨Kg (by simp [kr,HC.out]) (by simp [iL,HC.out]) (by simp [oU,HC.out]),0,rfl⟩
def Bytes (w:World)(ad:Option Addr)(len:Nat):Prop:=len<=maxLen/\(0<len->∃ b off,ad=some ⟨b,off,none⟩/\b<w.heap.size/\∀ i,i<len->∃ c:Int,0<=c/\c<=255/\w.cell? ⟨b,off+i,none⟩=some (.int .u8 c))
theorem Bytes.below {w w':af}{ad:Option Addr}{len:Nat}(h:Bytes w ad len)(hb:ag w w'):Bytes w' ad len:=by
 refine ⟨h.1,fun h0=>?_⟩;obtain ⟨b,off,e,hbl,hc⟩:=h.2 h0;refine ⟨b,off,e,Uc hbl hb.size,fun i hi=>?_⟩;obtain ⟨c,c0,c1,hcc⟩:=hc i hi;exact ⟨c,c0,c1,by rw [hb.cell (p:=⟨b,off+i,none⟩) hbl];exact hcc⟩
theorem Ij {H:Type}{enc:TypeId×Value->H}{W:af}{base:Nat}{sp:Nat->Bool}{held:Bool}{fuel:Nat}{ad:Option Addr}{len cap:Nat}{x:DataW H×List MemPlace}
  (h:DataW.trod enc prog W base sp held fuel 22 [.slice ad len cap]=some x):Bytes W ad len:=by
 rcases open_ints underlying22 underlying5 (by kernel_rfl) h with ⟨hcs,-⟩|⟨a,l,c,zs,hcs,-,hlc,hcm,hm,-,hel,hwf⟩
 ·simp at hcs;obtain ⟨rfl,rfl,rfl⟩:=hcs;exact ⟨by unfold maxLen;omega,fun h0=>by omega⟩
 simp at hcs;obtain ⟨rfl,rfl,rfl⟩:=hcs;have hle:len<=zs.length:=by rw [hm];split <;> omega
 refine ⟨by omega,fun h0=>?_⟩;have hspot:a.spot=none:=by
  have:=hel 0 (by omega);have e:a.add 0=a:=by simp [Addr.add]
  rw [e]at this;exact World.cell?_spot this
 obtain ⟨b,off,spot⟩:=a;simp only at hspot;subst hspot;have add0:∀ x:Nat,(⟨b,off,none⟩:Addr).add x=⟨b,off+x,none⟩:=fun x=>by
  unfold Addr.add;by_cases h:x=0
  ·subst h;simp
  simp [h]
 refine ⟨b,off,rfl,?_,fun i hi=>?_⟩
 ·have:=hel 0 (by omega);rw [add0]at this;exact World.block_lt_of_cell? W ⟨b,off+0,none⟩ this
 have h1:=hel i (by omega);rw [add0]at h1;have h2:=hwf (zs.getD i 0) (by rw [List.getD_eq_getElem?_getD,Uj (by omega)];simp);have h3:IntKind.u8.min<=zs.getD i 0/\zs.getD i 0<=IntKind.u8.max:=by simpa only [Lit.wf,Ug,Um] using h2
 have e1:IntKind.u8.min=0:=by decide
 have e2:IntKind.u8.max=255:=by decide
 rw [e1,e2]at h3;exact ⟨_,h3.1,h3.2,h1⟩
theorem Sq {w:af}{ad:Option Addr}{len cap:Nat}{t:TypeId}(h:Bytes w ad len):Rd (w.alloc (.cells #[.slice ad len cap,.int .i64 0] t)) w.heap.size ad len cap where
 lt:=by simp
 code:=by simp
 place:=⟨0,by simp,by omega⟩
 free:=by simp
 bytes h0:=by
  obtain ⟨b,off,e,hbl,hc⟩:=h.2 h0;refine ⟨b,off,e,by omega,by simp;omega,fun i hi=>?_⟩;obtain ⟨c,c0,c1,hcc⟩:=hc i hi;exact ⟨c,c0,c1,Qv hcc _⟩
 small:=h.1
theorem NZ (ad:Option Addr)(len cap:Nat)(w:af)(h:Bytes w ad len) :
  Calls prog 44 #[.slice ad len cap] w fun e w'=>e=.returned (.pointer (some ⟨w.heap.size,0,none⟩))/\Rd w' w.heap.size ad len cap/\ag w w':=by
 have H:=aA h;clear h;go_enter func44,ntmps44;go_wp2;go_ret;exact ⟨rfl,Sq H.out,(Uf _ _).alloc (Ue _) _⟩
theorem Qy (ad:Option Addr)(len cap:Nat)(w:af) :
  Calls prog 9 #[.slice ad len cap] w fun e w'=>e=.returned (.bool (decide ((1048576:Int)<(len:Int))))/\w'=w:=by
 go_enter func9,ntmps9;go_wp2;go_ret;exact ⟨rfl,rfl⟩
set_option linter.unusedVariables false
def Ea {α:Type}(F:Fence)(n:Nat)(P:Program)(g:Nat)(lb:Array Value)(encs:α->Array Value)(Kp:Nat->World->World->Prop)(Q:List α->World->Prop)(E:List α->α->Prop)(S:List α->Prop)(w:World):Prop :=
 ∀ (l:Nat) (J:List α->World->Prop) (W:World),ag w W->l<W.heap.size->w.heap.size<=l->OwnFrom W.heap.size J->(∀ pre W1,J pre W1->Q pre W1) ->
  (∀ pre x W1,J pre W1->E pre x->YieldAt F (n-1) P l (encs x) W1 fun e W'=>e=.returned (.bool true)/\J (pre++[x]) W'/\Kp l W1 W') ->
  J [] W ->
  CallsIn F n P g (#[.func (.yield l) #[] #[]]++lb) W fun e W'=>(∃ v,e=.returned v)/\∃ xs,S xs/\J xs W'
def N7 (B:Nat)(R:World->Prop)(W:World):Exit->Act->World->Prop
 | .normal,_,W'=>KeepsFrom B W W'/\R W'
 | _,_,_=>False
theorem Kh {β:Type}{B k:Nat}{o:Obj}(hk:k<B):OwnFrom B (fun (_:β) W=>W.heap[k]?=some o):=fun _ X Y row hs hg hr=>(hg.block k (Array.getElem?_eq_some_iff.1 hs).1 fun e=>by have:=(hr k e.symm).1;omega).trans hs
theorem Sr {β:Type}{B B':Nat}{I:β->World->Prop}(h:OwnFrom B I)(hB:B<=B'):OwnFrom B' I:=fun s X Y row hs hg hr=>h s X Y row hs hg fun r e=>⟨Uk hB (hr r e).1,(hr r e).2⟩
theorem qy {α:Type}{F:Fence}{n:Nat}{P:Program}{g:Operand}{ps:Array Tmp}{assign body:Code}{Q:Exit->Act->World->Prop}{a:Act}{w:af}(hro:F.round=none)(h1:1<=n){gf:Nat}{lb:Array Value}(hg:a.eval g=.func (.func gf) #[] lb)(hFg:F.fn gf)(eg:∀ args w,(callFunc gf args).run P w=.ok (.enter gf args) w)
  {encs:α->Array Value} {Kp:Nat->World->World->Prop} {Tell:List α->World->Prop} {E:List α->α->Prop} {S:List α->Prop} {w0:World} (hseq:Ea F (n-1) P gf lb encs Kp Tell E S w0) (hb0:ag w0 w) (hps:∀ x,(encs x).size=ps.size)
  (hKt:∀ {l:Nat} {X Y Z:World},Kp l X Y->Kp l Y Z->Kp l X Z) (hKb:∀ (W:World) (l:Nat) (o o':Obj),W.heap[l]?=some o->o.isCells=false->Kp l W (W.putObj l o'))
  (I:List α->World->Prop) (hI:OwnFrom w.heap.size I) (hT:∀ pre W,I pre W->Tell pre W) (h0:I [] w)
  (Ax:α->Act->World->Prop) (hAx:∀ x a',OwnFrom w.heap.size (fun (_:Unit) W=>Ax x a' W))
  (hassign:∀ (l:Nat) (pre:List α) (x:α) (W:World) (K:Act->World->Prop),I pre W->(∀ a' W',KeepsFrom w.heap.size W W'->Kp l W W'->I pre W'->Ax x a' W'->K a' W') ->
   assign.wpIn (F.inRound l) (n-1-1) P (Exit.then K (fun _ _ _=>False)) { tmps:=(ps.zip (encs x)).foldl (fun t (p,v)=>t.setIfInBounds p v) a.tmps,defers:=[] } W)
  (hbody:∀ (l:Nat) (pre:List α) (x:α) (a':Act) (W:World),w.heap.size<=l->E pre x->I pre W->Ax x a' W->body.wpIn (F.inRound l) (n-1-1) P (N7 w.heap.size (fun W'=>Kp l W W'/\I (pre++[x]) W') W) a' W)
  (hdone:∀ (D:Nat) (xs:List α) (W:World),w.heap.size<=D->S xs->I xs W->W.heap[D]?=some (.deferred (some []))->Q .normal { a with defers:={ target:=.collected D,args:=#[] }::a.defers } W) :
  (Code.rangeFunc g ps assign body).wpIn F n P Q a w:=by
 refine wpIn_rangeFunc fun fn hfn=>?_;rw [hro];obtain ⟨rc,hrc⟩:∃ rc:LoopState->Loop,rc=fun st=>{ state:=st,pending:=none,fn,tmps:=a.tmps,params:=ps,assign,body,defers:=w.heap.size }:=⟨_,rfl⟩;obtain ⟨W0,hW0⟩:∃ W0,W0=w.alloc (.deferred (some [])):=⟨_,rfl⟩;have s0:W0.heap.size=w.heap.size+1:=by rw [hW0];simp
 obtain ⟨W1,hW1⟩:∃ W1,W1=W0.alloc (.loop (rc .ready)):=⟨_,rfl⟩;have s1:W1.heap.size=w.heap.size+2:=by rw [hW1];simp;omega
 have k0:W0.heap[w.heap.size]?=some (.deferred (some [])):=by rw [hW0];exact World.alloc_heap_new w _
 have k1:W1.heap[w.heap.size]?=some (.deferred (some [])):=by rw [hW1];exact (Below.heap_alloc _ _ _ (by omega)).trans k0
 have r1:W1.heap[w.heap.size+1]?=some (.loop (rc .ready)):=by rw [hW1,<-s0];exact World.alloc_heap_new W0 _
 have i1:I [] W1:=by rw [hW1,hW0];exact hI.alloc _ (hI.alloc _ h0)
 have b1:ag w W1:=by rw [hW1,hW0];exact ((Uf _ w).alloc (Ue _) _).alloc (by simp) _
 have bb:ag w0 W1:=hb0.trans (b1.mono hb0.size);refine ⟨w.heap.size+1,[{ target:=.collected w.heap.size,args:=#[] }],W1,{ target:=.fn (.func gf) lb,args:=#[.func (.yield (w.heap.size+1)) #[] #[]] },W1,gf,#[.func (.yield (w.heap.size+1)) #[] #[]]++lb,W1,?_,?_,?_,?_,fun _=>h1,?_⟩
 ·rw [hW1,hW0,hrc];exact run_enterLoop_outer _ _ _ _ _
 ·simp only [resolve,hg];simp [go_sem]
 ·intro f hf;simp [Target.leads]at hf;subst hf;exact hFg
 ·simp [invoke,go_sem,eg]
 have hJ:OwnFrom W1.heap.size (fun pre W=>I pre W/\W.heap[w.heap.size+1]?=some (.loop (rc .ready))/\W.heap[w.heap.size]?=some (.deferred (some []))) :=
  (Sr hI (by omega)).and ((Kh (by omega)).and (Kh (by omega)))
 refine (hseq (w.heap.size+1) _ W1 bb (by omega) (by have:=hb0.size;omega) hJ (fun pre W h=>hT pre W h.1) ?_ ⟨i1,r1,k1⟩).mono ?_
 ·rintro pre x W ⟨hi,hl,hk⟩ hEx;have hy:=run_yield (P:=P) (args:=encs x) hl (by rw [hrc];exact hps x);rw [hrc]at hy;refine ⟨fn,_,assign,body,hy,roundIn_of_wpIn hfn (hassign _ pre x W _ hi ?_)⟩;clear hy;intro a' Wa hka hkp hia hax;have hla:=hka.same _ _ (by omega) hl rfl;have hda:=hka.same _ _ (Ue _) hk rfl;have hlt:w.heap.size+1<Wa.heap.size:=(Array.getElem?_eq_some_iff.1 hla).1;refine ⟨_,run_beginRound hla (by rw [hrc]),?_⟩;obtain ⟨Wb,hWb⟩:∃ Wb,Wb=Wa.putObj (w.heap.size+1) (.loop { rc .ready with state:=.busy }):=⟨_,rfl⟩;rw [<-hWb];have lb2:Wb.heap[w.heap.size+1]?=some (.loop { rc .ready with state:=.busy }):=by rw [hWb];exact World.putObj_heap_same hlt
  have db2:Wb.heap[w.heap.size]?=some (.deferred (some [])):=by rw [hWb];exact (World.putObj_heap_other (by omega)).trans hda
  have kb2:Kp (w.heap.size+1) Wa Wb:=by rw [hWb];exact hKb _ _ _ _ hla rfl
  have ib2:I pre Wb:=by rw [hWb];exact hI.putObj _ hia (by omega) hla rfl
  have ab2:Ax x a' Wb:=by rw [hWb];exact (hAx x a').putObj (s:=()) _ hax (by omega) hla rfl
  refine wpIn_mono (hbody _ pre x a' _ (by omega) hEx ib2 ab2) ?_;intro e a3 W3 hp;cases e;case normal=>
   obtain ⟨hk3,hkp3,hi3⟩:=hp;have hl3:=hk3.same _ _ (by omega) lb2 rfl;have hd3:=hk3.same _ _ (Ue _) db2 rfl;have hend:=run_endRound (P:=P) none hl3;rw [hrc]at hend;refine ⟨_,_,hend,rfl,⟨hI.putObj _ hi3 (by omega) hl3 rfl,?_,(World.putObj_heap_other (by omega)).trans hd3⟩,hKt hkp (hKt (hKt kb2 hkp3) (hKb _ _ _ _ hl3 rfl))⟩;rw [hrc];exact World.putObj_heap_same (Array.getElem?_eq_some_iff.1 hl3).1
  case ret=>exact hp.elim
  case exit id=>exact hp.elim
  case goto t=>exact hp.elim
  case panic ch=>exact hp.elim
  exact hp.elim
 rintro e W2 ⟨⟨v,rfl⟩,xs,hS,hi,hl,hk⟩;have hend:=run_endLoop (P:=P) hl (by rw [hrc];simp);rw [hrc]at hend;exact ⟨none,_,hend,hdone _ xs _ (Ue _) hS (hI.putObj _ hi (by omega) hl rfl) ((World.putObj_heap_other (by omega)).trans hk)⟩
end Go.Proofs.YtajkkeikihhejaaGreat
namespace Go.Proofs.YtajkkeikihhejaaGreat.Ls
theorem lt_irrefl:∀ x:List UInt8,Op.bytesLess x x=false
 | []=>rfl
 | a::x=>by simp [Op.bytesLess,lt_irrefl x]
theorem lt_trans:∀ x y z:List UInt8,Op.bytesLess x y=true->Op.bytesLess y z=true->Op.bytesLess x z=true
 | [],_,[],h,k=>by cases ‹List UInt8› <;> simp [Op.bytesLess] at h k
 | [],_,_::_,_,_=>rfl
 | _::_,[],_,h,_=>by simp [Op.bytesLess]at h
 | _::_,_::_,[],_,k=>by simp [Op.bytesLess]at k
 | a::x,b::y,c::z,h,k=>by
  simp only [Op.bytesLess,Bool.or_eq_true,Ug,Um,beq_iff_eq]at h k ⊢;rcases h with h|⟨h,h'⟩
  ·rcases k with k|⟨k,k'⟩
   ·exact .inl (UInt8.lt_trans h k)
   exact .inl (k ▸ h)
  rcases k with k|⟨k,k'⟩
  ·exact .inl (h ▸ k)
  exact .inr ⟨h.trans k,lt_trans x y z h' k'⟩
theorem lt_total:∀ x y:List UInt8,x≠y->Op.bytesLess x y=true\/Op.bytesLess y x=true
 | [],[],h=>absurd rfl h
 | [],_::_,_=>.inl rfl
 | _::_,[],_=>.inr rfl
 | a::x,b::y,h=>by
  simp only [Op.bytesLess,Bool.or_eq_true,Ug,Um,beq_iff_eq];by_cases e:a=b
  ·subst e;rcases lt_total x y (fun e=>h (by rw [e])) with k|k
   ·exact .inl (.inr ⟨rfl,k⟩)
   exact .inr (.inr ⟨rfl,k⟩)
  rcases Nat.lt_or_gt_of_ne (fun k=>e (UInt8.toNat_inj.1 k)) with k|k
  ·exact .inl (.inl k)
  exact .inr (.inl k)
theorem lt_asymm (x y:List UInt8)(h:Op.bytesLess x y=true):Op.bytesLess y x=false:=by
 cases k:Op.bytesLess y x;case false=>rfl
 have:=lt_trans x y x h k;rw [lt_irrefl]at this;cases this
end Go.Proofs.YtajkkeikihhejaaGreat.Ls
namespace Go.Proofs.YtajkkeikihhejaaGreat
set_option linter.unusedVariables false
section
variable  {α:Type}{lt:α->α->Bool}
def qz (lt:α->α->Bool)(r:α):List α->List α
 | []=>[r]
 | x::xs=>if lt x r then x::qz lt r xs else r::x::xs
def kv (lt:α->α->Bool)(rs:List α):List α:=rs.foldl (fun out r=>qz lt r out) []
theorem Eb {r:α}:∀ {xs:List α} {p:Nat},p<=xs.length->(∀ (i:Nat) (h:i<xs.length),i<p->lt xs[i] r=true)->(∀ h:p<xs.length,lt xs[p] r=false)->qz lt r xs=xs.take p++r::xs.drop p
 | [],p,hp,_,_=>by
  obtain rfl:p=0:=by simpa using hp
  rfl
 | x::xs,0,_,_,h2=>by
  have:=h2 (by simp);simp only [List.getElem_cons_zero]at this;simp [qz,this]
 | x::xs,p+1,hp,h1,h2=>by
  have h0:=h1 0 (by simp) (by omega);simp only [List.getElem_cons_zero]at h0;have ih:=Eb (r:=r) (xs:=xs) (p:=p) (by simpa using hp) (fun i h hi=>h1 (i+1) (by simpa using h) (by omega)) (fun h=>h2 (by simpa using h));simp [qz,h0,ih]
theorem rz (r:α):∀ xs:List α,(qz lt r xs).Perm (r::xs)
 | []=>List.Perm.refl _
 | x::xs=>by
  unfold qz;split
  ·exact ((rz r xs).cons x).trans (List.Perm.swap _ _ _)
  exact List.Perm.refl _
theorem zy:∀ (rs acc:List α),(rs.foldl (fun out r=>qz lt r out) acc).Perm (rs++acc)
 | [],acc=>List.Perm.refl _
 | r::rs,acc=>(zy rs (qz lt r acc)).trans (((rz r acc).append_left rs).trans List.perm_middle)
theorem jb (rs:List α):(kv lt rs).Perm rs:=by simpa [kv] using zy rs []
theorem Ik (rs:List α)(r:α):kv lt (rs++[r])=qz lt r (kv lt rs):=by unfold kv;rw [List.foldl_append];rfl
structure OrdO (lt:α->α->Bool)(rs:List α):Prop where
 trans:∀ x∈rs,∀ y∈rs,∀ z∈rs,lt x y=true->lt y z=true->lt x z=true
 asymm:∀ x∈rs,∀ y∈rs,lt x y=true->lt y x=false
 total:∀ x∈rs,∀ y∈rs,x≠y->lt x y=true\/lt y x=true
theorem OrdO.mono {rs qs:List α}(h:OrdO lt rs)(hs:∀ x∈qs,x∈rs):OrdO lt qs :=
 ⟨fun x hx y hy z hz=>h.trans x (hs x hx) y (hs y hy) z (hs z hz),fun x hx y hy=>h.asymm x (hs x hx) y (hs y hy),fun x hx y hy=>h.total x (hs x hx) y (hs y hy)⟩
def RF (lt:α->α->Bool)(xs:List α):Prop:=xs.Pairwise fun x y=>lt x y=true
theorem Ki {r:α}:∀ {xs:List α},OrdO lt (r::xs)->r ∉ xs->RF lt xs->RF lt (qz lt r xs)
 | [],_,_,_=>List.pairwise_singleton _ _
 | x::xs,ho,hn,h=>by
  obtain ⟨h1,h2⟩:=List.pairwise_cons.1 h;have hx:x∈r::x::xs:=by simp
  have hr:r∈r::x::xs:=by simp
  unfold qz;split
  ·rename_i hl;refine List.pairwise_cons.2 ⟨fun y hy=>?_,Ki (ho.mono fun z hz=>?_) (fun hm=>hn (UC _ hm)) h2⟩
   ·rcases List.mem_cons.1 ((rz r xs).mem_iff.1 hy) with rfl|hy
    ·exact hl
    exact h1 y hy
   rcases List.mem_cons.1 hz with rfl|hz
   ·simp
   simp [hz]
  rename_i hl;have hne:r≠x:=fun e=>hn (by rw [e];simp);have hrx:lt r x=true:=by
   rcases ho.total r hr x hx hne with h3|h3
   ·exact h3
   exact absurd h3 hl
  refine List.pairwise_cons.2 ⟨fun y hy=>?_,h⟩;rcases List.mem_cons.1 hy with rfl|hy
  ·exact hrx
  exact ho.trans r hr x hx y (by simp [hy]) hrx (h1 y hy)
theorem FK:∀ (rs acc:List α),OrdO lt (rs++acc)->rs.Nodup->(∀ r∈rs,r ∉ acc)->RF lt acc->RF lt (rs.foldl (fun out r=>qz lt r out) acc)
 | [],acc,_,_,_,h=>h
 | r::rs,acc,ho,hd,hn,h=>by
  obtain ⟨hr,hd2⟩:=List.nodup_cons.1 hd;have hp:=rz (lt:=lt) r acc;refine FK rs (qz lt r acc) (ho.mono fun x hx=>?_) hd2 (fun x hx hm=>?_) (Ki (ho.mono fun x hx=>?_) (hn r (by simp)) h)
  ·rcases Uq.1 hx with hx|hx
   ·simp [hx]
   rcases List.mem_cons.1 (hp.mem_iff.1 hx) with rfl|hx
   ·simp
   simp [hx]
  ·rcases List.mem_cons.1 (hp.mem_iff.1 hm) with rfl|hm
   ·exact hr hx
   exact hn x (by simp [hx]) hm
  rcases List.mem_cons.1 hx with rfl|hx
  ·simp
  simp [hx]
theorem N8 {rs:List α}(ho:OrdO lt rs)(hd:rs.Nodup):RF lt (kv lt rs):=FK rs [] (by simpa using ho) hd (fun _ _=>List.not_mem_nil) List.Pairwise.nil
theorem zz:∀ {xs ys:List α},OrdO lt xs->RF lt xs->RF lt ys->xs.Perm ys->xs=ys
 | [],ys,_,_,_,hp=>(List.Perm.nil_eq hp)
 | x::xs,[],_,_,_,hp=>absurd hp.length_eq (by simp)
 | x::xs,y::ys,ho,hx,hy,hp=>by
  obtain ⟨h1,h2⟩:=List.pairwise_cons.1 hx;obtain ⟨h3,h4⟩:=List.pairwise_cons.1 hy;have hyx:y∈x::xs:=hp.mem_iff.2 (by simp);have hxy:x∈y::ys:=hp.mem_iff.1 (by simp);have e:x=y:=by
   rcases List.mem_cons.1 hyx with e|hm
   ·exact e.symm
   rcases List.mem_cons.1 hxy with e|hm2
   ·exact e
   have a1:=h1 y hm;have a2:=h3 x hm2;rw [ho.asymm x (by simp) y hyx a1]at a2;cases a2
  subst e;rw [zz (ho.mono fun z hz=>UC _ hz) h2 h4 hp.cons_inv]
theorem N9 {rs qs:List α}(ho:OrdO lt rs)(hd:rs.Nodup)(h:RF lt qs)(hp:qs.Perm rs):kv lt rs=qs :=
 zz (ho.mono fun x hx=>(jb rs).mem_iff.1 hx) (N8 ho hd) h ((jb rs).trans hp.symm)
end
open Go.RowKit
theorem Su {P:Program}{ops:Array Oper}{Q:Exit->Act->World->Prop}{md:Region.Mode}{S:World->Prop}{i:Nat}{oi:Oper}{v:Value}{fuel:Nat}{listed:Array Bool}{a:Act}{w:af}(d:Nat)(hi:ops[i]?=some oi)(hd:oi.dst=some d)
  (hs:Region.noSelect ops=true) (hf:Region.free md ops listed i=true) (hr:(Region.ready md ops listed).contains i=true)
  (hQ:∀ c a w,Q (.panic c) (a.put oi.dst v) w->Q (.panic c) a w) (hy:YieldsIf P ops S oi v a) (hS:S w)
  (h:wpAnyH P md ops Q S fuel (listed.setIfInBounds i true) (a.put (some d) v) w):wpAnyH P md ops Q S (fuel+1) listed a w :=
 wpAnyH_take hi hs hf hr hQ hy hS (by rw [hd];exact h)
theorem tk {P:Program}{ops:Array Oper}{Q:Exit->Act->World->Prop}{md:Region.Mode}{S:World->Prop}{oi:Oper}{v:Value}{fuel:Nat}{listed:Array Bool}{a:Act}{w:af}(i d:Nat)
  (h:wpAnyH P md ops Q S fuel (listed.setIfInBounds i true) (a.put (some d) v) w) (hi:ops[i]?=some oi:=by rfl) (hd:oi.dst=some d:=by rfl) (hs:Region.noSelect ops=true:=by kernel_rfl) (hf:Region.free md ops listed i=true:=by kernel_rfl) (hr:(Region.ready md ops listed).contains i=true:=by kernel_rfl)
  (hQ:∀ c a w,Q (.panic c) (a.put oi.dst v) w->Q (.panic c) a w:=by exact fun _ _ _ h=>h) (hy:YieldsIf P ops S oi v a:=by refine Or.inl ⟨by rfl,?_⟩;intro w hSw;(try dsimp only at hSw);go_simp <;> with_reducible rfl) (hS:S w:=by assumption):wpAnyH P md ops Q S (fuel+1) listed a w :=
 Su d hi hd hs hf hr hQ hy hS h
section
variable  {φ:Type}[DecidableEq φ]{rk:φ->Int}{H:List φ->φ->Bool}{qs:Nat->List φ}
def Lay (rk:φ->Int)(H:List φ->φ->Bool):Prop:=∀ (a b:List φ) (f:φ),(∀ g,rk g<rk f->(g∈a ↔ g∈b))->(∀ g,rk g=rk f->g∈a->g∈b)->H a f=true->H b f=true
def uM (H:List φ->φ->Bool)(qs:Nat->List φ):Nat->List φ
 | 0=>[]
 | n+1=>ku H (qs n) (uM H qs n)
theorem uN (q out:List φ):∃ new,ku H q out=out++new/\∀ g∈new,g∈q:=wH q _ out
theorem FL (hq:∀ n,∀ f∈qs n,rk f=(n:Int)):∀ N,∀ f∈uM H qs N,rk f<(N:Int)
 | 0,f,h=>by cases h
 | N+1,f,h=>by
  obtain ⟨new,e,hn⟩:=uN (H:=H) (qs N) (uM H qs N);rw [uM,e]at h;rcases Uq.1 h with h|h
  ·have:=FL hq N f h;omega
  have:=hq N f (hn f h);omega
theorem Ec {n:Nat}{f:φ}(h:f∈uM H qs n):∀ d,f∈uM H qs (n+d)
 | 0=>h
 | d+1=>by
  obtain ⟨new,e,-⟩:=uN (H:=H) (qs (n+d)) (uM H qs (n+d));show f∈ku H (qs (n+d)) (uM H qs (n+d));rw [e];exact List.mem_append_left _ (Ec h d)
theorem zB (hq:∀ n,∀ f∈qs n,rk f=(n:Int)){n:Nat}{f:φ}(hr:rk f<(n:Int)):∀ d,f∈uM H qs (n+d)->f∈uM H qs n
 | 0,h=>h
 | d+1,h=>by
  obtain ⟨new,e,hn⟩:=uN (H:=H) (qs (n+d)) (uM H qs (n+d));have h:f∈ku H (qs (n+d)) (uM H qs (n+d)):=h;rw [e]at h;rcases Uq.1 h with h|h
  ·exact zB hq hr d h
  have:=hq _ f (hn f h);omega
def Good (rk:φ->Int)(H:List φ->φ->Bool)(n:Int)(s:List φ):Prop:=∀ g∈s,rk g=n->H s g=true
theorem good_step (hL:Lay rk H){n:Int}{s:List φ}{f:φ}(h:Good rk H n s)(hf:rk f=n):Good rk H n (dU H s f):=by
 unfold dU;split
 ·exact h
 rename_i hn;have hH:H s f=true:=by
  cases e:H s f;case true=>rfl
  exact absurd (.inr e) hn
 have low:∀ g:φ,rk g=n->∀ x,rk x<rk g->(x∈s ↔ x∈s++[f]):=fun g hg x hx=>by
  refine ⟨fun h=>List.mem_append_left _ h,fun h=>?_⟩;rcases Uq.1 h with h|h
  ·exact h
  rw [Uo]at h;rw [h]at hx;omega
 intro g hg hgn;rcases Uq.1 hg with hg|hg
 ·exact hL s _ g (low g hgn) (fun x _ hx=>List.mem_append_left _ hx) (h g hg hgn)
 rw [Uo]at hg;subst hg;exact hL s _ g (low g hgn) (fun x _ hx=>List.mem_append_left _ hx) hH
theorem FM (hL:Lay rk H){n:Int}:∀ (q:List φ) {s:List φ},(∀ f∈q,rk f=n)->Good rk H n s->Good rk H n (bG H q s)
 | [],_,_,h=>h
 | f::q,s,hq,h=>FM hL q (fun g hg=>hq g (UC _ hg)) (good_step hL h (hq f (UG ..)))
theorem Cw (hL:Lay rk H){n:Int}(q:List φ)(hq:∀ f∈q,rk f=n):∀ (k:Nat) {s:List φ},Good rk H n s->Good rk H n (jE H q k s)
 | 0,_,h=>h
 | k+1,s,h=>by
  unfold jE;split
  ·exact h
  exact Cw hL q hq k (FM hL q hq h)
theorem Qz (hL:Lay rk H)(hq:∀ n,∀ f∈qs n,rk f=(n:Int))(n:Nat):Good rk H (n:Int) (uM H qs (n+1)):=by
 refine Cw hL (qs n) (hq n) _ fun g hg hgn=>?_;have:=FL hq n g hg;omega
theorem Kj (hL:Lay rk H)(hq:∀ n,∀ f∈qs n,rk f=(n:Int)){n:Nat}{f:φ}(hf:rk f=(n:Int))(d:Nat):H (uM H qs (n+1)) f=true ↔ H (uM H qs (n+1+d)) f=true:=by
 have same:∀ g,rk g<=(n:Int)->(g∈uM H qs (n+1) ↔ g∈uM H qs (n+1+d)):=fun g hg=>⟨fun h=>Ec h d,fun h=>zB hq (by omega) d h⟩;refine ⟨hL _ _ f (fun g hg=>same g (by omega)) (fun g hg h=>(same g (by omega)).1 h),hL _ _ f (fun g hg=>(same g (by omega)).symm) (fun g hg h=>(same g (by omega)).2 h)⟩
theorem Kk (hq:∀ n,∀ f∈qs n,rk f=(n:Int)):∀ N,∀ f∈uM H qs N,∃ n,n<N/\f∈qs n
 | 0,f,h=>by cases h
 | N+1,f,h=>by
  obtain ⟨new,e,hn⟩:=uN (H:=H) (qs N) (uM H qs N);rw [uM,e]at h;rcases Uq.1 h with h|h
  ·obtain ⟨n,h1,h2⟩:=Kk hq N f h;exact ⟨n,by omega,h2⟩
  exact ⟨N,by omega,hn f h⟩
theorem KZ (hL:Lay rk H)(hq:∀ n,∀ f∈qs n,rk f=(n:Int)){N:Nat}{f:φ}(h:f∈uM H qs N):H (uM H qs N) f=true:=by
 obtain ⟨n,hn,hf⟩:=Kk hq N f h;have hr:=hq n f hf;obtain ⟨d,rfl⟩:∃ d,N=n+1+d:=⟨N-(n+1),by omega⟩;rw [<-Kj hL hq hr d];exact Qz hL hq n f (zB hq (by omega) d h) hr
theorem Oa (hL:Lay rk H)(hq:∀ n,∀ f∈qs n,rk f=(n:Int)){N n:Nat}(hn:n<N){f:φ}(hf:f∈qs n)(h:H (uM H qs N) f=true):f∈uM H qs N:=by
 have hr:=hq n f hf;obtain ⟨d,rfl⟩:∃ d,N=n+1+d:=⟨N-(n+1),by omega⟩;rw [<-Kj hL hq hr d]at h;have hfix:=NR (H:=H) (qs n) (uM H qs n);rcases (BC.1 hfix) f hf with h1|h1
 ·exact Ec (show f∈uM H qs (n+1) from h1) d
 have h:H (ku H (qs n) (uM H qs n)) f=true:=h;rw [h1]at h;cases h
end
open Pl
def qA (es:List Ex):List Int->Nat->Nat->Prop
 | [],a,b=>a=b
 | k::ks,a,b=>0<=k/\az es k.toNat=(a:Int)/\qA es ks (k.toNat+1) b
theorem zC {es:List Ex}:∀ (ks:List Int) (k:Int) (a m b:Nat),qA es ks a m->0<=k->az es k.toNat=(m:Int)->k.toNat+1=b->qA es (ks++[k]) a b
 | [],k,a,m,b,h,h0,h1,h2=>by
  have:a=m:=h;subst this;exact ⟨h0,h1,h2⟩
 | x::ks,k,a,m,b,h,h0,h1,h2=>⟨h.1,h.2.1,zC ks k _ m b h.2.2 h0 h1 h2⟩
theorem FN {es:List Ex}{n:Nat}:∀ (rs:List Int) (b:Nat),b<=n->0<=cO (dB es n) rs ((b:Int)-1)->qA es rs.reverse (cO (dB es n) rs ((b:Int)-1)).toNat b
 | [],b,_,h=>by simp [cO,qA]
 | k::rs,b,hb,h=>by
  unfold cO at h ⊢;split at h
  ·omega
  rename_i c;rw [if_neg c];split at h
  ·omega
  rename_i c2;rw [if_neg c2];have h0:0<=(b:Int)-1:=by omega
  have hk:k=(b:Int)-1:=by omega
  have hF:dB es n ((b:Int)-1)=az es ((b:Int)-1).toNat:=by unfold dB;rw [if_pos ⟨h0,by omega⟩]
  have hle:=iE es ((b:Int)-1).toNat;rw [hF]at h c2 ⊢;obtain ⟨m,hm⟩:∃ m:Nat,az es ((b:Int)-1).toNat=(m:Int):=⟨(az es ((b:Int)-1).toNat).toNat,by omega⟩;rw [hm]at h hle ⊢;rw [List.reverse_cons];exact zC _ k _ m b (FN rs m (by omega) h) (by omega) (by rw [hk,hm]) (by omega)
theorem nQ {es:List Ex}{n:Nat}(h:0<=az es n):qA es (dx es n) (az es n).toNat n:=by
 rw [iD]at h ⊢;have:=FN (dx es n).reverse n (Ue _) h;rw [List.reverse_reverse]at this;exact this
theorem nR {es:List Ex}:∀ (ks:List Int) (a b:Nat),qA es ks a b->a<=b/\∀ k∈ks,0<=k/\k.toNat<b
 | [],a,b,h=>⟨Nat.le_of_eq h,fun k hk=>by cases hk⟩
 | x::ks,a,b,h=>by
  obtain ⟨h1,h2⟩:=nR ks _ b h.2.2;have:=iE es x.toNat;have h3:=h.2.1;refine ⟨by omega,fun k hk=>?_⟩;rcases List.mem_cons.1 hk with rfl|hk
  ·exact ⟨h.1,by omega⟩
  exact h2 k hk
end Go.Proofs.YtajkkeikihhejaaGreat
