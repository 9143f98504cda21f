/- Contracts of the law's helpers that weigh a schema. -/
import Derived.Test.YtajkkeikihhejaaGreatSq
import Derived.Test.YtajkkeikihhejaaGreatJ3
import Derived.Test.YtajkkeikihhejaaGreatJ4
import Derived.Deep.DrawnRows
open Go.Proofs.Tryz
set_option maxHeartbeats 80000000
namespace Go.Proofs.YtajkkeikihhejaaGreat
open ChangeShapes WideShapes ChangeAt RowKit
open Pl
def RR.row(r:RR):List Value:=[.string r.name,.slice r.ad r.rows.length r.cap]
def TR.row(r:TR):List Value:=[.string r.name,.slice r.ad r.rows.length r.cap]
def bA(r:ER)(g:Nat):Prop:=r.e.allow≠[]/\r.adA=some ⟨g,0,none⟩
def bK(r:ER)(g:Nat):Prop:=r.e.kids≠[]/\r.adK=some ⟨g,0,none⟩
def p9(r:ER)(g:Nat):Prop:=bA r g\/bK r g
structure SepE(b:Nat)(rs:Q08):Prop where
 zeroA:∀r∈rs,r.e.allow≠[]->∃g,r.adA=some ⟨g,0,none⟩
 zeroK:∀r∈rs,r.e.kids≠[]->∃g,r.adK=some ⟨g,0,none⟩
 head:∀r∈rs,¬p9 r b
 one:∀r∈rs,∀g,bA r g->¬bK r g
 two:∀(x y:Nat) (hx:x<rs.length) (hy:y<rs.length),x≠y->∀g,p9 rs[x] g->¬p9 rs[y] g
def Oy(w:World)(P:Nat->Prop):Prop:=∀g,P g->g<w.heap.size/\jX w g
theorem Oy.mono{P Q:Nat->Prop}{w:af}(h:Oy w P)(hq:∀g,Q g->P g):Oy w Q:=fun g hg=>h g (hq g hg)
def LH(r:RR)(g:Nat):Prop:=(r.rows≠[]/\r.ad=some ⟨g,0,none⟩) \/ ∃q∈r.rows,p9 q g
def Su(r:RR):Prop:=r.rows≠[]->∃b,r.ad=some ⟨b,0,none⟩/\SepE b r.rows
structure SepR(b:Nat)(rs:Q07):Prop where
 good:∀r∈rs,Su r
 head:∀r∈rs,¬LH r b
 two:∀(x y:Nat) (hx:x<rs.length) (hy:y<rs.length),x≠y->∀g,LH rs[x] g->¬LH rs[y] g
def Oz(r:TR)(g:Nat):Prop:=(r.rows≠[]/\r.ad=some ⟨g,0,none⟩) \/ ∃q∈r.rows,LH q g
def Sv(r:TR):Prop:=r.rows≠[]->∃b,r.ad=some ⟨b,0,none⟩/\SepR b r.rows
structure SepT(b:Nat)(rs:Q06):Prop where
 good:∀r∈rs,Sv r
 head:∀r∈rs,¬Oz r b
 two:∀(x y:Nat) (hx:x<rs.length) (hy:y<rs.length),x≠y->∀g,Oz rs[x] g->¬Oz rs[y] g
set_option maxRecDepth 100000
theorem ai{p:Prop}(h:p):Hid p:=h
structure RdC(w:World)(R:Nat)(s:ByteArray)(p:Nat)(bad:Bool)(v:Value):Prop where
 lt:R<w.heap.size
 c0:w.cell? ⟨R,0,none⟩=some (.string s)
 c1:w.cell? ⟨R,1,none⟩=some (.int .i64 (p:Int))
 c2:w.cell? ⟨R,2,none⟩=some (.bool bad)
 c3:w.cell? ⟨R,3,none⟩=some v
 fr:jX w R
theorem RdC.grown{w w':af}{R:Nat}{s:ByteArray}{p:Nat}{bad:Bool}{v:Value}{row:Option Nat}(h:RdC w R s p bad v)(hg:w.grownBy w' row)(hR:some R≠row):RdC w' R s p bad v :=
 ⟨UT h.lt hg.size,hg.cell h.c0 hR,hg.cell h.c1 hR,hg.cell h.c2 hR,hg.cell h.c3 hR,fun j=>(World.frozen?_of_block (w:=w) (a:=⟨R,j,none⟩) (hg.block R h.lt hR)).trans (h.fr j)⟩
theorem RdC.drewN{w:af}{R:Nat}{s:ByteArray}{p:Nat}{bad:Bool}{v:Value}(h:RdC w R s p bad v)(n:Nat):RdC (w.drewN n) R s p bad v:=⟨h.lt,h.c0,h.c1,h.c2,h.c3,h.fr⟩
theorem RdC.on{w:af}{R:Nat}{s:ByteArray}{p:Nat}{bad:Bool}{v:Value}(h:RdC w R s p bad v)(q:Nat):RdC (w.setCell ⟨R,1,none⟩ (.int .i64 (q:Int))) R s q bad v :=
 ⟨by simpa using h.lt,by rw[mO (by omega)];exact h.c0,mS h.c1,by rw[mO (by omega)];exact h.c2,by rw[mO (by omega)];exact h.c3,fun j=>by simpa using h.fr j⟩
theorem Gb(w:af)(R o:Nat)(v:Value)(n:Nat):w.grownBy ((w.drewN n).setCell ⟨R,o,none⟩ v) (some R) :=
 ⟨rfl,rfl,rfl,by simp,fun k _ hk=>Below.heap_setCell _ _ _ k (fun e=>hk (by rw[e]))⟩
theorem IP{w w':af}{R o:Nat}{v:Value}(h:w.grownBy w' (some R)):w.grownBy (w'.setCell ⟨R,o,none⟩ v) (some R) :=
 ⟨h.os,h.tape,h.output,by simpa using h.size,fun k hk hne=>(Below.heap_setCell w' _ _ k (fun e=>hne (by rw[e]))).trans (h.block k hk hne)⟩
def mX(s t:ByteArray)(p:Nat)(bad:Bool):Bool:=!bad&&dY s t p
def Q6(s t:ByteArray)(p:Nat)(bad:Bool):Nat:=if mX s t p bad then p+t.size else p
theorem uV{s t:ByteArray}{p:Nat}{bad:Bool}(h:mX s t p bad=true):Q6 s t p bad=p+t.size:=by simp[Q6,h]
theorem zU{s t:ByteArray}{p:Nat}{bad:Bool}(h:mX s t p bad=false):Q6 s t p bad=p:=by simp[Q6,h]
theorem l7(R:Nat)(s t:bQ)(p:Nat)(bad:Bool)(v:Value)(w:af)(h:RdC w R s p bad v)(hs:s.size<=1000)(hp:p<=s.size)(ht:t.size<=100):
  Calls prog 236 #[.pointer (some ⟨R,0,none⟩),.string t] w fun e w'=>e=.returned (.bool (mX s t p bad))/\RdC w' R s (Q6 s t p bad) bad v/\w.grownBy w' (some R):=by
 have H:=ai h;have c0:=h.c0;have c1:=h.c1;have c2:=h.c2;have f1:=h.fr 1;have hlt:=h.lt;have h0:=h;clear h H;have hwr:IntKind.i64.wrap ((p:Int)+(t.size:Int))=(p:Int)+(t.size:Int):=by simp[IntKind.wrap,IntKind.bits,IntKind.signed];omega
 have no:∀{n:Nat} {e:Ending},mX s t p bad=false->e=.returned (.bool false)->e=.returned (.bool (mX s t p bad))/\RdC (w.drewN n) R s (Q6 s t p bad) bad v/\w.grownBy (w.drewN n) (some R):=fun hb he=>⟨by rw[hb];exact he,by rw[zU hb];exact h0.drewN _,⟨rfl,rfl,rfl,UU _,fun _ _ _=>rfl⟩⟩;have yes:∀{n:Nat} {e:Ending},mX s t p bad=true->e=.returned (.bool true)->e=.returned (.bool (mX s t p bad))/\RdC ((w.drewN n).setCell ⟨R,1,none⟩ (.int .i64 ((p:Int)+(t.size:Int)))) R s (Q6 s t p bad) bad v/\w.grownBy ((w.drewN n).setCell ⟨R,1,none⟩ (.int .i64 ((p:Int)+(t.size:Int)))) (some R):=fun hb he=>⟨by rw[hb];exact he,by rw[uV hb];exact(h0.drewN _).on (p+t.size),Gb _ _ _ _ _⟩;have NO:Hid (∀{n:Nat} {e:Ending},_):=@no;have YES:Hid (∀{n:Nat} {e:Ending},_):=@yes;clear no yes h0;cases bad;case true=>
  have HB:Hid (mX s t p true=false):=rfl;clear hwr;go_enter func236,ntmps236;go_wp2_with fail;go_quiet (fail);go_wp2;go_ret;exact NO.out HB.out rfl
 by_cases hl:p+t.size<=s.size
 ·have hd:decide ((s.size:Int)<(p:Int)+(t.size:Int))=false:=by simp;omega
  have hp1:(p:Int)<=(p:Int)+(t.size:Int):=by omega
  have hp2:(p:Int)+(t.size:Int)<=(s.size:Int):=by omega
  have hnn:=bG p;have hla:dY s t p=((s.extract p (p+t.size)).toList==t.toList):=by simp[dY,hl]
  cases he:(s.extract p (p+t.size)).toList==t.toList;case true=>
   have HB:Hid (mX s t p false=true):=by show _=_;simp only[mX,hla,he];rfl
   have hq:(!(s.extract p (p+t.size)).toList==t.toList)=false:=by rw[he];rfl
   clear he hla;go_enter func236,ntmps236;go_wp2_with fail;go_quiet (fail);go_wp2;go_ret;exact YES.out HB.out rfl
  have HB:Hid (mX s t p false=false):=by show _=_;simp only[mX,hla,he];rfl
  have hq:(!(s.extract p (p+t.size)).toList==t.toList)=true:=by rw[he];rfl
  clear he hla;go_enter func236,ntmps236;go_wp2_with fail;go_quiet (fail);go_wp2;go_ret;exact NO.out HB.out rfl
 have hd:decide ((s.size:Int)<(p:Int)+(t.size:Int))=true:=by simp;omega
 have HB:Hid (mX s t p false=false):=by show _=_;simp[mX,dY,hl]
 clear hl;go_enter func236,ntmps236;go_wp2_with fail;go_quiet (fail);go_wp2;go_ret;exact NO.out HB.out rfl
def wat(R:Nat)(w:World):Nat:=match w.cell? ⟨R,1,none⟩ with
 | some (.int _ z)=>z.toNat
 | _=>0
theorem RdC.place{w:af}{R:Nat}{s:ByteArray}{p:Nat}{bad:Bool}{v:Value}(h:RdC w R s p bad v):wat R w=p:=by
 simp[Go.Proofs.YtajkkeikihhejaaGreat.wat,h.c1]
theorem Ev(l:List UInt8)(n:Nat)(h1:∀i (h:i<l.length),i<n->fu l[i]=true)(h2:∀h:n<l.length,fu l[n]=false)(hn:n<=l.length):(l.takeWhile fu).length=n:=by
 induction l generalizing n with
 | nil=>simp at hn;simp[hn]
 | cons x xs ih =>
  cases n with
  | zero =>
   have:=h2 (by simp);simp at this;simp[List.takeWhile,this]
  | succ n =>
   have hx:=h1 0 (by simp) (by omega);simp at hx;have:=ih n (fun i hi hin=>by have:=h1 (i+1) (by simpa using hi) (by omega);simpa using this) (fun h=>by have:=h2 (by simpa using h);simpa using this) (by simpa using hn);simp[List.takeWhile,hx,this]
theorem OA(s:bQ)(p q:Nat)(hpq:p<=q)(hq:q<=s.size)(h1:∀i (h:i<s.size),p<=i->i<q->fu s[i]=true)(h2:∀h:q<s.size,fu s[q]=false):av s p=q-p:=by
 unfold av;have hl:s.data.toList.length=s.size:=by simp
 refine Ev _ _ (fun i hi hin=>?_) (fun h=>?_) (by rw[VR,hl];omega)
 ·rw[VR,hl]at hi;have:=h1 (p+i) (by omega) (by omega) (by omega);simp only[List.getElem_drop,Array.getElem_toList];exact this
 rw[VR,hl]at h;have:=h2 (by omega);simp only[List.getElem_drop,Array.getElem_toList];have e:p+(q-p)=q:=by omega
 simp only[e];exact this
theorem uW(R:Nat)(s:bQ)(p:Nat)(bad:Bool)(v:Value)(w:af)(h:RdC w R s p bad v)(hs:s.size<=1000)(hp:p<=s.size):
  Calls prog 250 #[.pointer (some ⟨R,0,none⟩)] w fun e w'=>e=.returned (.string (az s p))/\RdC w' R s (p+av s p) bad v/\w.grownBy w' (some R):=by
 have H:=ai h;have c1:=h.c1;clear h;go_enter func250,ntmps250;go_wp2_with fail;clear c1;go_loopw[8] (fun _ wr=>∃q:Nat,p<=q/\q<=s.size/\Hid (∀i (h:i<s.size),p<=i->i<q->fu s[i]=true)/\Hid (RdC wr R s q bad v)/\Hid (w.grownBy wr (some R))) (fun _ wr=>s.size-wat R wr);case atStart=>exact⟨p,UU _,hp,fun i h h1 h2=>by omega,H,⟨rfl,rfl,rfl,UU _,fun _ _ _=>rfl⟩⟩
 obtain⟨q,hq1,hq2,HL,HR,HG⟩:=hrel;have c0:=HR.out.c0;have c1:=HR.out.c1;have f1:=HR.out.fr 1;have hlt:=HR.out.lt;have hq0:=bG q;have stop:∀n m,(∀h:q<s.size,fu s[q]=false)->Ending.returned (.string (s.extract p q))=.returned (.string (az s p))/\RdC ((wr.drewN n).drewN m) R s (p+av s p) bad v/\w.grownBy ((wr.drewN n).drewN m) (some R):=fun n m hn=>by
  have e:=OA s p q hq1 hq2 HL.out hn;have e2:p+av s p=q:=by omega
  exact⟨by unfold az;rw[e2],by rw[e2];exact(HR.out.drewN n).drewN m,⟨HG.out.os,HG.out.tape,HG.out.output,HG.out.size,HG.out.block⟩⟩
 have STOP:=ai stop;clear stop;have hx1:(p:Int)<=(q:Int):=by omega
 have hx2:(q:Int)<=(s.size:Int):=by omega
 have hx3:=bG p;by_cases hlt2:q<s.size
 ·have hq3:(q:Int)<(s.size:Int):=by omega
  have hd:decide ((q:Int)<(s.size:Int))=true:=by simpa using hq3
  by_cases hb1:(97:Int)<=(s[q].toNat:Int)
  ·have hd1:decide ((97:Int)<=(s[q].toNat:Int))=true:=by simpa using hb1
   by_cases hb2:(s[q].toNat:Int)<=122
   ·have hd2:decide ((s[q].toNat:Int)<=122)=true:=by simpa using hb2
    have HL2:Hid (∀i (h:i<s.size),p<=i->i<q+1->fu s[i]=true):=fun i h h1 h2=>by
     by_cases e:i=q
     ·subst e;simp[fu];omega
     exact HL.out i h h1 (by omega)
    have hwr2:IntKind.i64.wrap ((q:Int)+1)=(q:Int)+1:=by simp[IntKind.wrap,IntKind.bits,IntKind.signed];omega
    go_wp2_with fail;go_quiet (fail);have HR2:Hid (RdC ((wr.drewN nq).setCell ⟨R,1,none⟩ (.int .i64 ((q:Int)+1))) R s (q+1) bad v):=(HR.out.drewN nq).on (q+1);have HG2:Hid (w.grownBy ((wr.drewN nq).setCell ⟨R,1,none⟩ (.int .i64 ((q:Int)+1))) (some R)):=IP (w':=wr.drewN nq) ⟨HG.out.os,HG.out.tape,HG.out.output,HG.out.size,HG.out.block⟩;have hm1:=HR.out.place;have hm2:=HR2.out.place;have HM:Hid (s.size-wat R ((wr.drewN nq).setCell ⟨R,1,none⟩ (.int .i64 ((q:Int)+1)))<s.size-wat R wr):=by show _<_;rw[hm1,hm2];omega
    clear hm1 hm2;go_wp2;go_roundw;case rel=>exact⟨q+1,by omega,by omega,HL2,HR2,HG2⟩
    exact HM.out
   have hd2:decide ((s[q].toNat:Int)<=122)=false:=by simpa using hb2
   have HN:Hid (∀h:q<s.size,fu s[q]=false):=fun h=>by simp[fu];omega
   go_wp2_with fail;go_quiet (fail);go_wp2_with fail;go_quiet (fail);go_wp2;go_ret;exact STOP.out _ _ HN.out
  have hd1:decide ((97:Int)<=(s[q].toNat:Int))=false:=by simpa using hb1
  have HN:Hid (∀h:q<s.size,fu s[q]=false):=fun h=>by simp[fu];omega
  go_wp2_with fail;go_quiet (fail);go_wp2_with fail;go_quiet (fail);go_wp2;go_ret;exact STOP.out _ _ HN.out
 have hd:decide ((q:Int)<(s.size:Int))=false:=by simp;omega
 have HN:Hid (∀h:q<s.size,fu s[q]=false):=fun h=>absurd h hlt2;go_wp2_with fail;go_quiet (fail);go_wp2_with fail;go_quiet (fail);go_wp2;go_ret;exact STOP.out _ _ HN.out
end Go.Proofs.YtajkkeikihhejaaGreat
