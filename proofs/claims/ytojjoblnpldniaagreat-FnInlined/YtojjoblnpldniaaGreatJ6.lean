/- Contracts of the document's reader: whether a text stands there, a word, one more node. -/
import Derived.Test.YtojjoblnpldniaaGreatSq
import Derived.Test.YtojjoblnpldniaaGreatJ4
import Derived.Test.YtojjoblnpldniaaGreatJ5
import Derived.Test.YtojjoblnpldniaaGreatJ3
import Derived.Laws.EntriesVeiled
open Go.Proofs.Tryz
set_option maxHeartbeats 80000000
set_option linter.defProp false
namespace Go.Proofs.YtojjoblnpldniaaGreat
set_option maxRecDepth 100000
open ChangeShapes WideShapes ChangeAt RowKit
open Pl
def ak{p:Prop}(h:p):O p:=h
structure RdC(w:World)(R:Nat)(s:ByteArray)(p:Nat)(bad:Bool)(v:Value):Prop where
 lt:R<w.heap.size
 c0:w.cell? ⟨R,0,none⟩=some (.string s)
 c1:w.cell? ⟨R,1,none⟩=some (.int .i64 (p:Int))
 c2:w.cell? ⟨R,2,none⟩=some (.bool bad)
 c3:w.cell? ⟨R,3,none⟩=some v
 fr:jV w R
def RdC.grown{w w':af}{R:Nat}{s:ByteArray}{p:Nat}{bad:Bool}{v:Value}{row:Option Nat}(h:RdC w R s p bad v)(hg:w.grownBy w' row)(hR:some R≠row):RdC w' R s p bad v :=
 ⟨WJ h.lt hg.size,hg.cell h.c0 hR,hg.cell h.c1 hR,hg.cell h.c2 hR,hg.cell h.c3 hR,fun j=>(World.frozen?_of_block (w:=w) (a:=⟨R,j,none⟩)<|hg.block R h.lt hR).trans<|h.fr j⟩
def RdC.drewN{w:af}{R:Nat}{s:ByteArray}{p:Nat}{bad:Bool}{v:Value}(h:RdC w R s p bad v)(n:Nat):RdC (w.drewN n) R s p bad v:=⟨h.lt,h.c0,h.c1,h.c2,h.c3,h.fr⟩
def RdC.on{w:af}{R:Nat}{s:ByteArray}{p:Nat}{bad:Bool}{v:Value}(h:RdC w R s p bad v)(q:Nat):RdC (w.setCell (aq R 1)<|.int .i64 (q:Int)) R s q bad v :=
 ⟨by simpa using h.lt,by rw[mO cq];exact h.c0,mS h.c1,by rw[mO cq];exact h.c2,by rw[mO cq];exact h.c3,fun j=>by simpa using h.fr j⟩
def Iu(w:af)(R o:Nat)(v:Value)(n:Nat):w.grownBy ((w.drewN n).setCell (aq R o) v) (some R) :=
 ⟨rfl,rfl,rfl,ct,fun k _ hk=>Below.heap_setCell _ _ _ k fun e=>hk<|by rw[e]⟩
def KP{w w':af}{R o:Nat}{v:Value}(h:w.grownBy w'<|some R):w.grownBy (w'.setCell (aq R o) v) (some R) :=
 ⟨h.os,h.tape,h.output,by simpa using h.size,fun k hk hne=>(Below.heap_setCell w' _ _ k fun e=>hne<|by rw[e]).trans (h.block k hk hne)⟩
def nZ(s t:ByteArray)(p:Nat)(bad:Bool):Bool:=!bad&&eZ s t p
def TB(s t:ByteArray)(p:Nat)(bad:Bool):Nat:=if nZ s t p bad then p+t.size else p
def wO{s t:ByteArray}{p:Nat}{bad:Bool}(h:nZ s t p bad=true):TB s t p bad=p+t.size:=by simp[TB,h]
def BJ{s t:ByteArray}{p:Nat}{bad:Bool}(h:nZ s t p bad=false):TB s t p bad=p:=by simp[TB,h]
def nk(R:Nat)(s t:bN)(p:Nat)(bad:Bool)(v:Value)(w:af)(h:RdC w R s p bad v)(hs:s.size<=1000)(hp:p<=s.size)(ht:t.size<=100):
  Calls prog 325 #[.pointer (some<|am R),.string t] w fun e w'=>e=.returned (.bool<|nZ s t p bad)/\RdC w' R s (TB s t p bad) bad v/\w.grownBy w' (some R):=by
 have H:=ak h;have c0:=h.c0;have c1:=h.c1;have c2:=h.c2;have f1:=h.fr 1;have hlt:=h.lt;have h0:=h;clear h H;have hwr:IntKind.i64.wrap ((p:Int)+(t.size:Int))=(p:Int)+(t.size:Int):=by simp[IntKind.wrap,IntKind.bits,IntKind.signed];omega
 have no:∀{n:Nat} {e:Ending},nZ s t p bad=false->e=.returned (.bool false)->e=.returned (.bool<|nZ s t p bad)/\RdC (w.drewN n) R s (TB s t p bad) bad v/\w.grownBy (w.drewN n) (some R):=fun hb he=>⟨by rw[hb];exact he,by rw[BJ hb];exact h0.drewN _,⟨rfl,rfl,rfl,WK _,fun _ _ _=>rfl⟩⟩;have yes:∀{n:Nat} {e:Ending},nZ s t p bad=true->e=.returned (.bool true)->e=.returned (.bool<|nZ s t p bad)/\RdC ((w.drewN n).setCell (aq R 1)<|.int .i64<|(p:Int)+(t.size:Int)) R s (TB s t p bad) bad v/\w.grownBy ((w.drewN n).setCell (aq R 1)<|.int .i64<|(p:Int)+(t.size:Int)) (some R):=fun hb he=>⟨by rw[hb];exact he,by rw[wO hb];exact(h0.drewN _).on<|p+t.size,Iu _ _ _ _ _⟩;have NO:O (∀{n:Nat} {e:Ending},_):=@no;have YES:O (∀{n:Nat} {e:Ending},_):=@yes;clear no yes h0;cases bad;case true=>
  have HB:O (nZ s t p true=false):=rfl;clear hwr;go_enter func325,ntmps325;go_wp2_with fail;go_quiet (fail);go_wp2;go_ret;exact NO HB rfl
 by_cases hl:p+t.size<=s.size
 ·have hd:decide ((s.size:Int)<(p:Int)+(t.size:Int))=false:=by simp;omega
  have hp1:(p:Int)<=(p:Int)+(t.size:Int):=cq;have hp2:(p:Int)+(t.size:Int)<=(s.size:Int):=cq;have hnn:=bY p;have hla:eZ s t p=((s.extract p<|p+t.size).toList==t.toList):=by simp[eZ,hl]
  cases he:(s.extract p<|p+t.size).toList==t.toList;case true=>
   have HB:O (nZ s t p false=true):=by show _=_;simp only[nZ,hla,he];rfl
   have hq:(!(s.extract p<|p+t.size).toList==t.toList)=false:=by rw[he];rfl
   clear he hla;go_enter func325,ntmps325;go_wp2_with fail;go_quiet (fail);go_wp2;go_ret;exact YES HB rfl
  have HB:O (nZ s t p false=false):=by show _=_;simp only[nZ,hla,he];rfl
  have hq:(!(s.extract p<|p+t.size).toList==t.toList)=true:=by rw[he];rfl
  clear he hla;go_enter func325,ntmps325;go_wp2_with fail;go_quiet (fail);go_wp2;go_ret;exact NO HB rfl
 have hd:decide ((s.size:Int)<(p:Int)+(t.size:Int))=true:=by simp;omega
 have HB:O (nZ s t p false=false):=by show _=_;simp[nZ,eZ,hl]
 clear hl;go_enter func325,ntmps325;go_wp2_with fail;go_quiet (fail);go_wp2;go_ret;exact NO HB rfl
def wat(R:Nat)(w:World):Nat:=match w.cell? ⟨R,1,none⟩ with
 | some (.int _ z)=>z.toNat
 | _=>0
def RdC.place{w:af}{R:Nat}{s:ByteArray}{p:Nat}{bad:Bool}{v:Value}(h:RdC w R s p bad v):wat R w=p:=by
 simp[Go.Proofs.YtojjoblnpldniaaGreat.wat,h.c1]
def Gc(l:List UInt8)(n:Nat)(h1:∀i (h:i<l.length),i<n->fI l[i]=true)(h2:∀h:n<l.length,fI l[n]=false)(hn:n<=l.length):(l.takeWhile fI).length=n:=by
 induction l generalizing n with
 | nil=>simp at hn;simp[hn]
 | cons x xs ih =>
  cases n with
  | zero =>
   have:=h2 ct;simp at this;simp[List.takeWhile,this]
  | succ n =>
   have hx:=h1 0 ct cq;simp at hx;have:=ih n (fun i hi hin=>by have:=h1 (i+1) (by simpa using hi) cq;simpa using this) (fun h=>by have:=h2 (by simpa using h);simpa using this) (by simpa using hn);simp[List.takeWhile,hx,this]
def QW(s:bN)(p q:Nat)(hpq:p<=q)(hq:q<=s.size)(h1:∀i (h:i<s.size),p<=i->i<q->fI s[i]=true)(h2:∀h:q<s.size,fI s[q]=false):az s p=q-p:=by
 unfold az;have hl:s.data.toList.length=s.size:=ct;refine Gc _ _ (fun i hi hin=>?_) (fun h=>?_) (by rw[XT,hl];omega)
 ·rw[XT,hl]at hi;have:=h1 (p+i) cq cq cq;simp only[List.getElem_drop,Array.getElem_toList];exact this
 rw[XT,hl]at h;have:=h2 cq;simp only[List.getElem_drop,Array.getElem_toList];have e:p+(q-p)=q:=cq;simp only[e];exact this
def wP(R:Nat)(s:bN)(p:Nat)(bad:Bool)(v:Value)(w:af)(h:RdC w R s p bad v)(hs:s.size<=1000)(hp:p<=s.size):
  Calls prog 340 #[.pointer (some<|am R)] w fun e w'=>e=.returned (.string<|aC s p)/\RdC w' R s (p+az s p) bad v/\w.grownBy w' (some R):=by
 have H:=ak h;have c1:=h.c1;clear h;go_enter func340,ntmps340;go_wp2_with fail;clear c1;go_loopw[8] (fun _ wr=>∃q:Nat,p<=q/\q<=s.size/\O (∀i (h:i<s.size),p<=i->i<q->fI s[i]=true)/\O (RdC wr R s q bad v)/\O (w.grownBy wr<|some R)) (fun _ wr=>s.size-wat R wr);case atStart=>exact⟨p,WK _,hp,fun i h h1 h2=>cq,H,⟨rfl,rfl,rfl,WK _,fun _ _ _=>rfl⟩⟩
 obtain⟨q,hq1,hq2,HL,HR,HG⟩:=hrel;have c0:=HR.c0;have c1:=HR.c1;have f1:=HR.fr 1;have hlt:=HR.lt;have hq0:=bY q;have stop:∀n m,(∀h:q<s.size,fI s[q]=false)->Ending.returned (.string<|s.extract p q)=.returned (.string<|aC s p)/\RdC ((wr.drewN n).drewN m) R s (p+az s p) bad v/\w.grownBy ((wr.drewN n).drewN m) (some R):=fun n m hn=>by
  have e:=QW s p q hq1 hq2 HL hn;have e2:p+az s p=q:=cq;exact⟨by unfold aC;rw[e2],by rw[e2];exact(HR.drewN n).drewN m,⟨HG.os,HG.tape,HG.output,HG.size,HG.block⟩⟩
 have STOP:=ak stop;clear stop;have hx1:(p:Int)<=(q:Int):=cq;have hx2:(q:Int)<=(s.size:Int):=cq;have hx3:=bY p;by_cases hlt2:q<s.size
 ·have hq3:(q:Int)<(s.size:Int):=cq;have hd:decide ((q:Int)<(s.size:Int))=true:=by simpa using hq3
  by_cases hb1:(97:Int)<=(s[q].toNat:Int)
  ·have hd1:decide ((97:Int)<=(s[q].toNat:Int))=true:=by simpa using hb1
   by_cases hb2:(s[q].toNat:Int)<=122
   ·have hd2:decide ((s[q].toNat:Int)<=122)=true:=by simpa using hb2
    have HL2:O (∀i (h:i<s.size),p<=i->i<q+1->fI s[i]=true):=fun i h h1 h2=>by
     by_cases e:i=q
     ·subst e;simp[fI];omega
     exact HL i h h1 cq
    have hwr2:IntKind.i64.wrap ((q:Int)+1)=(q:Int)+1:=by simp[IntKind.wrap,IntKind.bits,IntKind.signed];omega
    go_wp2_with fail;go_quiet (fail);have HR2:O (RdC ((wr.drewN nq).setCell (aq R 1)<|.int .i64<|(q:Int)+1) R s (q+1) bad v):=(HR.drewN nq).on<|q+1;have HG2:O (w.grownBy ((wr.drewN nq).setCell (aq R 1)<|.int .i64<|(q:Int)+1)<|some R):=KP (w':=wr.drewN nq) ⟨HG.os,HG.tape,HG.output,HG.size,HG.block⟩;have hm1:=HR.place;have hm2:=HR2.place;have HM:O (s.size-wat R ((wr.drewN nq).setCell (aq R 1)<|.int .i64<|(q:Int)+1)<s.size-wat R wr):=by show _<_;rw[hm1,hm2];omega
    clear hm1 hm2;go_wp2;go_roundw;case rel=>exact⟨q+1,cq,cq,HL2,HR2,HG2⟩
    exact HM
   have hd2:decide ((s[q].toNat:Int)<=122)=false:=by simpa using hb2
   have HN:O (∀h:q<s.size,fI s[q]=false):=fun h=>by simp[fI];omega
   go_wp2_with fail;go_quiet (fail);go_wp2_with fail;go_quiet (fail);go_wp2;go_ret;exact STOP _ _ HN
  have hd1:decide ((97:Int)<=(s[q].toNat:Int))=false:=by simpa using hb1
  have HN:O (∀h:q<s.size,fI s[q]=false):=fun h=>by simp[fI];omega
  go_wp2_with fail;go_quiet (fail);go_wp2_with fail;go_quiet (fail);go_wp2;go_ret;exact STOP _ _ HN
 have hd:decide ((q:Int)<(s.size:Int))=false:=by simp;omega
 have HN:O (∀h:q<s.size,fI s[q]=false):=fun h=>absurd h hlt2;go_wp2_with fail;go_quiet (fail);go_wp2_with fail;go_quiet (fail);go_wp2;go_ret;exact STOP _ _ HN
structure Onl(R:Nat)(v:Value)(w w':World):Prop where
 os:w'.os=w.os
 tape:w'.tape=w.tape
 output:w'.output=w.output
 size:w.heap.size<=w'.heap.size
 block:∀k,k<w.heap.size->k≠R->v.ownBlock≠some k->w'.heap[k]?=w.heap[k]?
def ER.cells(q:ER):Array Value:=#[.int .i64 q.e.kind,.slice q.adA q.e.allow.length q.capA,.string q.e.over,.string q.e.name,.slice q.adK q.e.kids.length q.capK]
def BL{w:af}{a:Addr}{v:Value}(h:w.cell? a=some v)(o:Obj):(w.alloc o).cell? a=some v:=by
 have hlt:=World.block_lt_of_cell? w a h;rw[((WL w.heap.size w).alloc (WK _) o).cell hlt];exact h
def zR(w:World)(g:Nat)(q:ER):Prop:=w.cell? ⟨g,0,none⟩=some (.int .i64 q.e.kind)/\w.cell? ⟨g,1,none⟩=some (.slice q.adA q.e.allow.length q.capA)/\w.cell? ⟨g,2,none⟩=some (.string q.e.over)/\w.cell? ⟨g,3,none⟩=some (.string q.e.name)/\w.cell? ⟨g,4,none⟩=some (.slice q.adK q.e.kids.length q.capK)/\g<w.heap.size
def zR.grown{w w':af}{g:Nat}{q:ER}{row:Option Nat}(h:zR w g q)(hg:w.grownBy w' row)(hne:some g≠row):zR w' g q :=
 ⟨hg.cell h.1 hne,hg.cell h.2.1 hne,hg.cell h.2.2.1 hne,hg.cell h.2.2.2.1 hne,hg.cell h.2.2.2.2.1 hne,WJ h.2.2.2.2.2 hg.size⟩
def Onl.grown{R:Nat}{v:Value}{w w' w'':af}{row:Option Nat}(h:Onl R v w w')(hg:w'.grownBy w'' row)(hr:∀k,k<w.heap.size->k≠R->v.ownBlock≠some k->some k≠row):Onl R v w w'' :=
 ⟨hg.os.trans h.os,hg.tape.trans h.tape,hg.output.trans h.output,WR h.size hg.size,fun k hk h1 h2=>(hg.block k (WJ hk h.size)<|hr k hk h1 h2).trans<|h.block k hk h1 h2⟩
def gF{W:af}{base:Nat}{e:TypeId}{size:Nat}{v:Value}{k:Nat}{xs:Q03}(h:W.ownsRow base e size v (k+1) xs):∃g cap,v=.slice (some<|am g) (k+1) cap:=by
 rcases h.2 with⟨_,h0⟩|⟨g,cap,_,rfl,_⟩
 ·omega
 exact⟨g,cap,rfl⟩
def Onl.at_own{R:Nat}{v:Value}{w w':af}(h:Onl R v w w')(o:Nat)(u:Value):Onl R v w (w'.setCell (aq R o) u) :=
 ⟨h.os,h.tape,h.output,by simpa using h.size,fun k hk h1 h2=>(Below.heap_setCell w' _ _ k h1).trans<|h.block k hk h1 h2⟩
def RdC.put{w:af}{R:Nat}{s:ByteArray}{p:Nat}{bad:Bool}{v:Value}(h:RdC w R s p bad v)(u:Value):RdC (w.setCell (aq R 3) u) R s p bad u :=
 ⟨by simpa using h.lt,by rw[mO cq];exact h.c0,by rw[mO cq];exact h.c1,by rw[mO cq];exact h.c2,mS h.c3,fun j=>by simpa using h.fr j⟩
def RdC.hurt{w:af}{R:Nat}{s:ByteArray}{p:Nat}{bad:Bool}{v:Value}(h:RdC w R s p bad v):RdC (w.setCell (aq R 2)<|.bool true) R s p true v :=
 ⟨by simpa using h.lt,by rw[mO cq];exact h.c0,by rw[mO cq];exact h.c1,mS h.c2,by rw[mO cq];exact h.c3,fun j=>by simpa using h.fr j⟩
structure GA(R:Nat)(s:ByteArray)(p:Nat)(bad:Bool)(v:Value)(base n:Nat)(xs:Q03)(q:ER)(w:World)(listed:Array Bool)(w':World):Prop where
 rd:RdC w' R s p bad v
 box:zR w' w.heap.size q
 onl:Onl R v w w'
 own:listed.getD 7 false=false->w'.ownsRow base 43 5 v n xs
 small:listed.getD 6 false=false->w'.heap.size=w.heap.size+1
def KQ{listed:Array Bool}{i L:Nat}(h:listed.getD i true=false)(hs:listed.size=L)(hi:i<L):listed.getD i false=false:=by
 rw[<-jY cq];exact h
def GA.step{R:Nat}{s:ByteArray}{p:Nat}{bad:Bool}{v:Value}{base n:Nat}{xs:Q03}{q:ER}{w w':af}{listed:Array Bool}(h:GA R s p bad v base n xs q w listed w'){i:Nat}(hls:listed.size=11)(h6:i≠6)(h7:i≠7):GA R s p bad v base n xs q w (listed.setIfInBounds i true) w' :=
 ⟨h.rd,h.box,h.onl,fun k=>h.own (by
  by_cases hi:i<11
  ·rw[aO _ _ _ cq,if_neg<|Ne.symm h7]at k;exact k
  ·rw[show listed.setIfInBounds i true=listed by rw[Array.setIfInBounds_eq_of_size_le cq]]at k;exact k),fun k=>h.small (by
  by_cases hi:i<11
  ·rw[aO _ _ _ cq,if_neg<|Ne.symm h6]at k;exact k
  rw[show listed.setIfInBounds i true=listed by rw[Array.setIfInBounds_eq_of_size_le cq]]at k;exact k)⟩
def GA.made{R:Nat}{s:ByteArray}{p:Nat}{bad:Bool}{v:Value}{base n:Nat}{xs:Q03}{q:ER}{w w':af}{listed:Array Bool}(h:GA R s p bad v base n xs q w listed w'){i:Nat}(hls:listed.size=11){o:Obj}(hi:i=6:=by rfl):GA R s p bad v base n xs q w (listed.setIfInBounds i true) (w'.alloc o):=by
 subst hi;have hg:=World.grownBy_alloc w' o none;refine⟨h.rd.grown hg ct,h.box.grown hg ct,h.onl.grown hg ct,fun k=>(h.own ?_).alloc _,fun k=>?_⟩
 ·rw[aO _ _ _ cq,if_neg cq]at k;exact k
 rw[aO _ _ _ cq,if_pos rfl]at k;cases k
def VA(l:Q03)(base n:Nat)(v:Value)(q:ER)(xs:Q03)(w:World)(k:Nat)(u:Value)(w':World):Prop :=
 (k≠6/\k≠7->u=l.getD k undef) /\
 (k=6->u=.slice (some ⟨w.heap.size+1,0,none⟩) 1 1/\(∀j x,q.row[j]?=some x->w'.cell? ((⟨w.heap.size+1,0,none⟩:Addr).add j)=some x)/\w.heap.size+1<w'.heap.size) /\
 (k=7->∃g cap,u=.slice (some ⟨g,0,none⟩) (n+1) cap/\w'.ownsRow base 43 5 (.slice (some ⟨g,0,none⟩) (n+1) cap) (n+1) (xs++q.row)/\(v.ownBlock=some g\/w.heap.size<=g))
def VA.at{l:Q03}{base n:Nat}{v:Value}{q:ER}{xs:Q03}{w:af}{k:Nat}{u:Value}{w':af}(h:k≠6/\k≠7)(hu:u=l.getD k undef):VA l base n v q xs w k u w':=⟨fun _=>hu,fun e=>absurd e h.1,fun e=>absurd e h.2⟩
def VA.alloc{l:Q03}{base n:Nat}{v:Value}{q:ER}{xs:Q03}{w w':af}{i:Nat}{o:Obj}:∀k u,k≠i->VA l base n v q xs w k u w'->VA l base n v q xs w k u (w'.alloc o):=fun k u _ h =>
 ⟨h.1,fun e=>⟨(h.2.1 e).1,fun j x hj=>BL ((h.2.1 e).2.1 j x hj) o,WJ (h.2.1 e).2.2 ct⟩,fun e=>by obtain⟨g,cap,e1,e2,e3⟩:=h.2.2 e;exact⟨g,cap,e1,e2.alloc _,e3⟩⟩
def GA.appended{R:Nat}{s:ByteArray}{p:Nat}{bad:Bool}{v:Value}{base n:Nat}{xs:Q03}{q:ER}{w w' w'':af}{listed:Array Bool}(h:GA R s p bad v base n xs q w listed w')(hls:listed.size=11)(hg:w'.grownBy w'' v.ownBlock)(hR:v.ownBlock≠some R)(hX:v.ownBlock≠some w.heap.size)(hb6:w.heap.size+1<w'.heap.size):GA R s p bad v base n xs q w (listed.setIfInBounds 7 true) w'':=by
 refine⟨h.rd.grown hg<|Ne.symm hR,h.box.grown hg<|Ne.symm hX,h.onl.grown hg fun k _ _ h2=>Ne.symm h2,fun k=>?_,fun k=>?_⟩
 ·rw[aO _ _ _ cq,if_pos rfl]at k;cases k
 rw[aO _ _ _ cq,if_neg cq]at k;have:=h.small k;omega
def VA.app{l:Q03}{base n:Nat}{v:Value}{q:ER}{xs:Q03}{w w' w'':af}(hg:w'.grownBy w'' v.ownBlock)(hX:v.ownBlock≠some (w.heap.size+1)):∀k u,k≠7->VA l base n v q xs w k u w'->VA l base n v q xs w k u w'':=fun k u hk h =>
 ⟨h.1,fun e=>⟨(h.2.1 e).1,fun j x hj=>hg.cell ((h.2.1 e).2.1 j x hj) (by rw[show((⟨w.heap.size+1,0,none⟩:Addr).add j).block=w.heap.size+1 by unfold Addr.add;split<;>rfl];exact Ne.symm hX),WJ (h.2.1 e).2.2 hg.size⟩,fun e=>absurd e hk⟩
def TC(R:Nat)(s:bN)(p:Nat)(bad:Bool)(v:Value)(base n:Nat)(xs:Q03)(q:ER)(w:af)(h:RdC w R s p bad v)(hown:w.ownsRow base 43 5 v n xs)(hR:R<base)(hB:cd base w)(hn:n<=100000):
  Calls prog 326 #[.pointer (some<|am R),q.val] w fun e w'=>∃(g cap:Nat),e=.returned (.int .i64 (n:Int))/\RdC w' R s p (bad || decide (15<n+1)) (.slice (some<|am g) (n+1) cap)/\w'.ownsRow base 43 5 (.slice (some<|am g) (n+1) cap) (n+1) (xs++q.row)/\Onl R v w w'/\(v.ownBlock=some g\/w.heap.size<=g):=by
 obtain⟨iT,hiT,zT0,zT1,zT2⟩:=info_parts (P:=prog) (e:=43) (z:=.agg #[.int .i64 0,.slice none 0 0,.string ⟨#[]⟩,.string ⟨#[]⟩,.slice none 0 0]) (size:=5) (bytes:=88) cw;have HIT:=ak<|And.intro hiT<|And.intro zT0<|And.intro zT1 zT2;have H:=ak h;have HO:=ak hown;have hlt:=h.lt;clear h hown hiT zT0 zT1 zT2;have hne:v.ownBlock≠some R:=fun e=>by have:=(HO.lt R e).1;omega
 have HNE:=ak hne;have HNX:O (v.ownBlock≠some w.heap.size):=fun e=>by have:=(HO.lt _ e).2;omega
 have HNX1:O (v.ownBlock≠some (w.heap.size+1)):=fun e=>by have:=(HO.lt _ e).2;omega
 clear hne;unfold ER.val;obtain⟨W0,hW0⟩:=eQx<|w.alloc<|.cells (ce q) 43;have HG0:O (GA R s p bad v base n xs q w (Array.replicate 11 false) W0.drew):=by
  have hg:=World.grownBy_alloc w (.cells (ce q) 43) none;show GA _ _ _ _ _ _ _ _ _ _ _ _;rw[hW0];refine⟨(H.grown hg ct).drewN 1,⟨?_,?_,?_,?_,?_,?_⟩,⟨rfl,rfl,rfl,by simp[World.drew],fun k hk _ _=>hg.block k hk ct⟩,fun _=>(HO.alloc _).drew,fun _=>by simp[World.drew]⟩<;>simp
 go_enter func326,ntmps326;go_wp2_with fail;rw[<-hW0];clear hW0;refine mI 10 _ _ (VA (Value.pointer (some<|am R)::.pointer (some<|am R)::.pointer (some<|am R)::.pointer (some<|aq R 3)::v::.agg (ce q)::.slice (some<|am<|w.heap.size+1) 1 1::undef::.pointer (some<|am R)::.pointer (some<|aq R 3)::[]) base n v q xs w) (GA R s p bad v base n xs q w) cw rfl (by decide +kernel) (by decide +kernel) (vQ [(5,[0,1,2,3,4,5,6,7,8,9])]) HG0 ?stepA ?finA<;>dsimp only[uI];case stepA =>
  rintro i hi o ho listed f w' hls Yx hG hpre;have HG:=ak hG;have HM:O (∀e∈o.after,Region.binds .any e=true->_):=hpre;clear hG hpre;have hc:=Mv (i:=i) cq;clear hi
  repeat' rcases hc with rfl|hc
  ·cases ho;have HS:=ak<|HG.step (i:=0) hls cv cv;refine aa rfl fun K HK=>?_;clear HM;dsimp only;go_simp;exact HK _ _ ⟨Value.pointer<|some ⟨R,0,none⟩,by simp[upd],HS,VA.at cv rfl,fun k u _ hu=>hu⟩
  ·cases ho;have HS:=ak<|HG.step (i:=1) hls cv cv;refine aa rfl fun K HK=>?_;clear HM;dsimp only;go_simp;exact HK _ _ ⟨Value.pointer<|some ⟨R,0,none⟩,by simp[upd],HS,VA.at cv rfl,fun k u _ hu=>hu⟩
  ·cases ho;have e1:f 1=Value.pointer (some<|am R):=(HM ⟨1,.data⟩ ct rfl).1 cv;have HS:=ak<|HG.step (i:=2) hls cv cv;refine aa rfl fun K HK=>?_;clear HM;simp only[e1];go_simp;exact HK _ _ ⟨Value.pointer<|some ⟨R,0,none⟩,by simp[upd,e1],HS,VA.at cv rfl,fun k u _ hu=>hu⟩
  ·cases ho;have e2:f 2=Value.pointer (some<|am R):=(HM ⟨2,.data⟩ ct rfl).1 cv;have HS:=ak<|HG.step (i:=3) hls cv cv;refine aa rfl fun K HK=>?_;clear HM;simp only[e2];go_simp;exact HK _ _ ⟨Value.pointer<|some ⟨R,3,none⟩,by simp[upd,e2],HS,VA.at cv rfl,fun k u _ hu=>hu⟩
  ·cases ho;have e3:f 3=Value.pointer (some<|aq R 3):=(HM ⟨3,.data⟩ ct rfl).1 cv;have c3:=HG.rd.c3;have HS:=ak<|HG.step (i:=4) hls cv cv;refine aa rfl fun K HK=>?_;clear HM;simp only[e3];go_simp;exact HK _ _ ⟨v,by simp[upd,e3],HS,VA.at cv rfl,fun k u _ hu=>hu⟩
  ·cases ho;obtain⟨x0,x1,x2,x3,x4,xl⟩:=HG.box;have HS:=ak<|HG.step (i:=5) hls cv cv;refine aa rfl fun K HK=>?_;clear HM;dsimp only;go_simp;exact HK _ _ ⟨Value.agg<|ce q,by simp[upd],HS,VA.at cv rfl,fun k u _ hu=>hu⟩
  ·cases ho;have e5:f 5=Value.agg (ce q):=(HM ⟨5,.data⟩ ct rfl).1 cv;have hz:=HG.small<|KQ Yx hls cq;have HS:O (∀o,GA R s p bad v base n xs q w (listed.setIfInBounds 6 true)<|w'.alloc o):=fun o=>HG.made (i:=6) hls;refine aa rfl fun K HK=>?_;clear HM;simp only[e5];go_simp;exact HK _ _ ⟨.slice (some ⟨w'.heap.size,0,none⟩) 1 1,by simp[upd,e5],HS _,⟨fun h=>absurd rfl h.1,fun _=>⟨by rw[hz],fun j u hj=>by have:=yj w' q j u hj;rw[hz]at this;exact this,by simp;omega⟩,fun h=>absurd h cv⟩,VA.alloc⟩
  ·cases ho;have e4:f 4=v:=(HM ⟨4,.data⟩ ct rfl).1 cv;obtain⟨e6,hnews,hb6⟩:=(HM ⟨6,.data⟩ ct rfl).2.1 rfl;replace e6:f 6=Value.slice (some<|am<|w.heap.size+1) 1 1:=e6;have hown:=HG.own<|KQ Yx hls cq;clear HM;refine ib _ rfl rfl _ _ 37 rfl base 43 iT (.agg #[.int .i64 0,.slice none 0 0,.string ⟨#[]⟩,.string ⟨#[]⟩,.slice none 0 0]) 5 88 underlying37 HIT.1 HIT.2.1 HIT.2.2.1 HIT.2.2.2 rfl cv v n xs e4 hown ⟨w.heap.size+1,0,none⟩ 1 1 q.row e6 rfl hnews (rT q) cy cq (by have:=HG.onl.size;omega) ?_;intro v7 w7 YV hgr7 hat7;obtain⟨g7,c7,rfl⟩:=gF YV;refine⟨.slice (some ⟨g7,0,none⟩) (n+1) c7,by simp[upd,e4,e6,Act.put],HG.appended hls hgr7 HNE HNX hb6,⟨fun h=>absurd rfl h.2,fun h=>absurd h cv,fun _=>⟨g7,c7,rfl,YV,?_⟩⟩,VA.app hgr7 HNX1⟩;rcases hat7 with e|e
   ·exact .inl e.symm
   simp[Value.ownBlock]at e;exact .inr (by have:=HG.onl.size;omega)
  ·cases ho;have e0:f 0=Value.pointer (some<|am R):=(HM ⟨0,.data⟩ ct rfl).1 cv;have HS:=ak<|HG.step (i:=8) hls cv cv;refine aa rfl fun K HK=>?_;clear HM;simp only[e0];go_simp;exact HK _ _ ⟨Value.pointer<|some ⟨R,0,none⟩,by simp[upd,e0],HS,VA.at cv rfl,fun k u _ hu=>hu⟩
  cases ho;have e8:f 8=Value.pointer (some<|am R):=(HM ⟨8,.data⟩ ct rfl).1 cv;have HS:=ak<|HG.step (i:=9) hls cv cv;refine aa rfl fun K HK=>?_;clear HM;simp only[e8];go_simp;exact HK _ _ ⟨Value.pointer<|some ⟨R,3,none⟩,by simp[upd,e8],HS,VA.at cv rfl,fun k u _ hu=>hu⟩
 case finA =>
  rintro o ho listed f w' hG hall;cases ho;obtain⟨g,cap,e7,YV,hat⟩:=(hall 7 cq).2.2 rfl;have e9:f 9=Value.pointer (some<|aq R 3):=(hall 9 cq).1 cv;have HR:=ak hG.rd;have HN:=ak hG.onl;have HW:=ak YV;have HA:=ak hat;have c3:=hG.rd.c3;have f3:=hG.rd.fr 3;have hl3:=hG.rd.lt;clear hall hG YV hat;refine wpOp_step rfl (fun K hK=>?_);have HK:O (∀a w,_->K a w):=hK;clear hK;simp only[e7,e9];go_simp;refine HK _ _ ?_;clear HK;obtain⟨W8,ZZ⟩:=eQx<|w'.setCell (aq R 3)<|.slice (some<|am g) (n+1) cap;have HR8:O (RdC W8 R s p bad<|.slice (some<|am g) (n+1) cap):=by rw[ZZ];exact HR.put _
  have HN8:O (Onl R v w W8):=by rw[ZZ];exact HN.at_own _ _
  have HW8:O (W8.ownsRow base 43 5 (.slice (some<|am g) (n+1) cap) (n+1)<|xs++q.row):=by rw[ZZ];exact ownsRow_setCell_below HW hR _
  rw[<-ZZ];clear ZZ HR HN HW c3 f3 hl3 e7 e9;have c2:=HR8.c2;have c3:=HR8.c3;have f2:=HR8.fr 2;have hl8:=HR8.lt;have hwr:IntKind.i64.wrap (((n:Int)+1)-1)=(n:Int):=by simp[IntKind.wrap,IntKind.bits,IntKind.signed];omega
  by_cases hbig:15<n+1
  ·have hd:decide ((15:Int)<(n:Int)+1)=true:=by simp;omega
   have HB:=ak hbig;clear hbig;go_wp2;exact bodyPost_ret (v:=.int .i64 (n:Int)) (by simp[results,Tryz.results326,go_sem]) rfl ⟨g,cap,rfl,by rw[show decide (15<n+1)=true from decide_eq_true HB,Bool.or_true];exact HR8.hurt,ownsRow_setCell_below HW8 hR _,HN8.at_own _ _,HA⟩
  have hd:decide ((15:Int)<(n:Int)+1)=false:=by simp;omega
  have HB:=ak hbig;clear hbig;go_wp2;exact bodyPost_ret (v:=.int .i64 (n:Int)) (by simp[results,Tryz.results326,go_sem]) rfl ⟨g,cap,rfl,by rw[show decide (15<n+1)=false from decide_eq_false HB,Bool.or_false];exact HR8,HW8,HN8,HA⟩
structure Went(R:Nat)(v:Value)(w:World)(v':Value)(w':World):Prop where
 onl:Onl R v w w'
 own:v'.ownBlock=v.ownBlock \/ ∃g,v'.ownBlock=some g/\w.heap.size<=g
def Onl.refl(R:Nat)(v:Value)(w:af):Onl R v w w:=⟨rfl,rfl,rfl,WK _,fun _ _ _ _=>rfl⟩
def Went.refl(R:Nat)(v:Value)(w:af):Went R v w v w:=⟨Onl.refl R v w,.inl rfl⟩
def Went.apart{R:Nat}{v v':Value}{w w':af}(h:Went R v w v' w'){k:Nat}(hk:cU k w)(hv:v.ownBlock≠some k):v'.ownBlock≠some k:=by
 rcases h.own with e|⟨g,e,hg⟩
 ·rw[e];exact hv
 rw[e];intro h2;injection h2 with h2;omega
def Went.trans{R:Nat}{v v1 v2:Value}{w w1 w2:af}(h:Went R v w v1 w1)(h2:Went R v1 w1 v2 w2):Went R v w v2 w2:=by
 refine⟨⟨h2.onl.os.trans h.onl.os,h2.onl.tape.trans h.onl.tape,h2.onl.output.trans h.onl.output,WR h.onl.size h2.onl.size,fun k hk h3 h4=>(h2.onl.block k (WJ hk h.onl.size) h3<|h.apart hk h4).trans<|h.onl.block k hk h3 h4⟩,?_⟩;rcases h2.own with e|⟨g,e,hg⟩
 ·rw[e];exact h.own
 exact .inr ⟨g,e,WR h.onl.size hg⟩
abbrev pz:Value:=.slice none 0 0
def Onl.any{R:Nat}{w w':af}(h:Onl R pz w w')(v:Value):Went R v w v w':=⟨⟨h.os,h.tape,h.output,h.size,fun k hk h1 _=>h.block k hk h1<|by simp[Value.ownBlock]⟩,.inl rfl⟩
def Onl.of_grown{R:Nat}{w w':af}(h:w.grownBy w'<|some R):Onl R pz w w':=⟨h.os,h.tape,h.output,h.size,fun k hk h1 _=>h.block k hk fun e=>h1<|by injection e⟩
def Onl.trans0{R:Nat}{w w1 w2:af}(h:Onl R pz w w1)(h2:Onl R pz w1 w2):Onl R pz w w2:=((h.any pz).trans<|h2.any pz).onl
def Onl.of_below{R:Nat}{w w':af}(h:ag w w'):Onl R pz w w':=⟨h.os,h.tape,h.output,h.size,fun k hk _ _=>h.block k hk⟩
def Dr(w:World)(base:Nat)(q:ER):Prop:=(q.e.kids=[]/\q.adK=none/\q.capK=0)\/(q.e.kids≠[]/\w.ownsRow base 2 1 (.slice q.adK q.e.kids.length q.capK) q.e.kids.length (ints q.e.kids))
structure RdF(w:World)(R:Nat)(s:ByteArray)(st:RS)(base:Nat)(v:Value)(qs:Q08):Prop where
 rd:RdC w R s st.p st.bad v
 own:w.ownsRow base 43 5 v qs.length (dV qs)
 out:ai qs=st.out
 zA:∀q∈qs,q.e.allow≠[]->∃g,q.adA=some ⟨g,0,none⟩
 zK:∀q∈qs,q.e.kids≠[]->∃g,q.adK=some ⟨g,0,none⟩
 ok:∀q∈qs,q.ok w
 lie:∀q∈qs,∀g,mr q g->base<=g/\g<w.heap.size/\jV w g/\v.ownBlock≠some g
 one:∀q∈qs,∀g,bA q g->¬bK q g
 two:∀(x y:Nat) (hx:x<qs.length) (hy:y<qs.length),x≠y->∀g,mr qs[x] g->¬mr qs[y] g
 cA:∀q∈qs,q.e.allow.length<=q.capA
 cK:∀q∈qs,Dr w base q
def Dr.heap{w w':af}{base:Nat}{q:ER}(h:Dr w base q)(hz:q.e.kids≠[]->∃g,q.adK=some (am g))(hh:∀g,mr q g->w'.heap[g]?=w.heap[g]?):Dr w' base q:=by
 rcases h with h|⟨hne,h⟩
 ·exact .inl h
 obtain⟨g,eg⟩:=hz hne;refine .inr ⟨hne,dJ h fun g' hg'=>?_⟩;rw[eg]at hg';have:g=g':=by simpa[Value.ownBlock] using hg'
 subst this;exact hh g<|.inr ⟨hne,eg⟩
def Dr.mono{w:af}{base base':Nat}{q:ER}(h:Dr w base q)(hb:base'<=base):Dr w base' q:=by
 rcases h with h|⟨hne,h⟩
 ·exact .inl h
 refine .inr ⟨hne,h.1,?_⟩;rcases h.2 with hl|⟨g,cap,cur,e,h1,h2⟩
 ·exact .inl hl
 exact .inr ⟨g,cap,cur,e,WR hb h1,h2⟩
theorem RdF.over{w w':af}{R:Nat}{s:ByteArray}{st:RS}{base:Nat}{v:Value}{qs:Q08}(h:RdF w R s st base v qs)(hR:R<base)(ho:Onl R pz w w'){p:Nat}{bad:Bool}(hr:RdC w' R s p bad v):RdF w' R s ⟨p,bad,st.out⟩ base v qs where
 rd:=hr
 own:=dJ h.own fun g hg=>ho.block g (h.own.lt g hg).2 (by have:=(h.own.lt g hg).1;omega) (by simp[Value.ownBlock])
 out:=h.out
 zA:=h.zA
 zK:=h.zK
 ok q hq:=qw (h.ok q hq) ho.size (h.zA q hq) (h.zK q hq) fun g hg=>ho.block g (h.lie q hq g hg).2.1 (by have:=(h.lie q hq g hg).1;omega) (by simp[Value.ownBlock])
 lie q hq g hg:=by
  obtain⟨h1,h2,h3,h4⟩:=h.lie q hq g hg;exact⟨h1,WJ h2 ho.size,cz h3<|ho.block g h2 cq<|by simp[Value.ownBlock],h4⟩
 one:=h.one
 two:=h.two
 cA:=h.cA
 cK q hq:=(h.cK q hq).heap (h.zK q hq) fun g hg=>ho.block g (h.lie q hq g hg).2.1 (by have:=(h.lie q hq g hg).1;omega) (by simp[Value.ownBlock])
theorem N7(R:Nat)(s:bN)(st:RS)(base:Nat)(v:Value)(qs:Q08)(q:ER)(w:af)(h:RdF w R s st base v qs)(hR:R<base)(hB:base<=w.heap.size)(hn:qs.length<=100000)
  (hq:NewQ base w q) (Yy:Dr w base q) (ha:∀g,mr q g->v.ownBlock≠some g/\∀q'∈qs,¬mr q' g) :
  Calls prog 326 #[.pointer (some ⟨R,0,none⟩),q.val] w fun e w'=>∃v',e=.returned (.int .i64 (st.out.length:Int))/\RdF w' R s (ug q.e st) base v' (qs++[q])/\Went R v w v' w':=by
 have hlen:qs.length=st.out.length:=by rw[<-h.out];simp[ai]
 refine(TC R s st.p st.bad v base qs.length (dV qs) q w h.rd h.own hR hB hn).mono ?_;rintro e w' ⟨g,cap,rfl,hrd,hown,honl,hat⟩;have hW:Went R v w (.slice (some ⟨g,0,none⟩) (qs.length+1) cap) w':=⟨honl,by
  rcases hat with e|e
  ·exact .inl (by rw[e];rfl)
  exact .inr ⟨g,rfl,e⟩⟩
 have keep:∀k,k<w.heap.size->base<=k->v.ownBlock≠some k->w'.heap[k]?=w.heap[k]?:=fun k h1 h2 h3=>honl.block k h1 cq h3;refine⟨.slice (some ⟨g,0,none⟩) (qs.length+1) cap,by rw[hlen],?_,hW⟩;refine⟨by unfold ug;rw[<-hlen];exact hrd,?_,?_,?_,?_,?_,?_,?_,?_,?_,?_⟩
 ·rw[WP,Xi,KH];exact hown
 ·simp[ai,ug,<-h.out]
 ·intro q' hq';rcases WU.1 hq' with h1|h1
  ·exact h.zA q' h1
  rw[WZ]at h1;subst h1;exact hq.zA
 ·intro q' hq';rcases WU.1 hq' with h1|h1
  ·exact h.zK q' h1
  rw[WZ]at h1;subst h1;exact hq.zK
 ·intro q' hq';rcases WU.1 hq' with h1|h1
  ·exact qw (h.ok q' h1) honl.size (h.zA q' h1) (h.zK q' h1) fun k hk=>keep k (h.lie q' h1 k hk).2.1 (h.lie q' h1 k hk).1 (h.lie q' h1 k hk).2.2.2
  rw[WZ]at h1;subst h1;exact qw hq.ok honl.size hq.zA hq.zK fun k hk=>keep k (hq.lie k hk).2.1 (hq.lie k hk).1 (ha k hk).1
 ·intro q' hq' k hk;rcases WU.1 hq' with h1|h1
  ·obtain⟨a1,a2,a3,a4⟩:=h.lie q' h1 k hk;exact⟨a1,WJ a2 honl.size,cz a3<|keep k a2 a1 a4,hW.apart a2 a4⟩
  rw[WZ]at h1;subst h1;obtain⟨a1,a2,a3⟩:=hq.lie k hk;exact⟨a1,WJ a2 honl.size,cz a3<|keep k a2 a1 (ha k hk).1,hW.apart a2 (ha k hk).1⟩
 ·intro q' hq';rcases WU.1 hq' with h1|h1
  ·exact h.one q' h1
  rw[WZ]at h1;subst h1;exact hq.one
 ·intro x y hx hy hxy k hkx hky;rw[WP,Xi]at hx hy;by_cases ex:x<qs.length
  ·rw[Xp ex]at hkx;by_cases ey:y<qs.length
   ·rw[Xp ey]at hky;exact h.two x y ex ey hxy k hkx hky
   have:y=qs.length:=cq;subst this;rw[XG (WK _)]at hky;simp at hky;exact(ha k hky).2 _ (WH ex) hkx
  have:x=qs.length:=cq;subst this;rw[XG (WK _)]at hkx;simp at hkx;have ey:y<qs.length:=cq;rw[Xp ey]at hky;exact(ha k hkx).2 _ (WH ey) hky
 ·intro q' hq';rcases WU.1 hq' with h1|h1
  ·exact h.cA q' h1
  rw[WZ]at h1;subst h1;exact hq.cA
 intro q' hq';rcases WU.1 hq' with h1|h1
 ·exact(h.cK q' h1).heap (h.zK q' h1) fun k hk=>keep k (h.lie q' h1 k hk).2.1 (h.lie q' h1 k hk).1 (h.lie q' h1 k hk).2.2.2
 rw[WZ]at h1;subst h1;exact Yy.heap hq.zK fun k hk=>keep k (hq.lie k hk).2.1 (hq.lie k hk).1 (ha k hk).1
def wQ(R:Nat)(s:ByteArray)(base:Nat)(v:Value)(qs:Q08)(w:World)(x:Int×RS)(e:Ending)(w':World):Prop :=
 ∃v' ns,e=.returned (.int .i64 x.1)/\RdF w' R s x.2 base v' (qs++ns)/\Went R v w v' w'/\∀q∈ns,∀g,mr q g->w.heap.size<=g
def uZ(s:ByteArray)(x:Int×RS):Int×RS:=if mg s fT x.2 then (x.1,lc fT x.2) else (x.1,ww x.2)
def KR{s:ByteArray}{x:Int×RS}(h:nZ s fT x.2.p x.2.bad=true):uZ s x=(x.1,lc fT x.2):=if_pos h
def N8{s:ByteArray}{x:Int×RS}(h:nZ s fT x.2.p x.2.bad=false):uZ s x=(x.1,ww x.2):=if_neg (fun e=>by rw[mg,<-nZ,h]at e;cases e)
def RdF.is_no{w w':af}{R:Nat}{s t:ByteArray}{st:RS}{base:Nat}{v:Value}{qs:Q08}(h:RdF w R s st base v qs)(hR:R<base)(hb:nZ s t st.p st.bad=false)(hr:RdC w' R s (TB s t st.p st.bad) st.bad v)(hg:w.grownBy w'<|some R):RdF w' R s st base v qs:=by
 rw[BJ hb]at hr;exact h.over hR (Onl.of_grown hg) hr
def RdF.is_yes{w w':af}{R:Nat}{s t:ByteArray}{st:RS}{base:Nat}{v:Value}{qs:Q08}(h:RdF w R s st base v qs)(hR:R<base)(hb:nZ s t st.p st.bad=true)(hr:RdC w' R s (TB s t st.p st.bad) st.bad v)(hg:w.grownBy w'<|some R):RdF w' R s (lc t st) base v qs:=by
 rw[wO hb]at hr;exact h.over hR (Onl.of_grown hg) hr
def BM{s t:ByteArray}{p:Nat}{bad:Bool}(h:nZ s t p bad=true):p+t.size<=s.size:=by
 unfold nZ at h;simp only[WM]at h;exact Hd h.2
def QX(R:Nat)(s:bN)(st:RS)(base:Nat)(v:Value)(qs:Q08)(w:af)(h:RdF w R s st base v qs)(hR:R<base)(hs:s.size<=1000)(hp:st.p<=s.size)
  (h0:nZ s gG st.p st.bad=false) (h1:nZ s j5 st.p st.bad=true) (x:Int×RS) (hx:x.2.p<=s.size)
  (hrow:∀w1,RdF w1 R s (lc j5 st) base v qs->w.heap.size<=w1.heap.size->Calls prog 297 #[.pointer (some<|am R)] w1 (wQ R s base v qs w1 x)) :
  Calls prog 324 #[.pointer (some<|am R)] w (wQ R s base v qs w<|uZ s x):=by
 have H:=ak h;have Y8:=ak hrow;have HX:=ak hx;have HP:=ak hp;clear h hrow hx hp;go_enter func324,ntmps324;go_wp2_with fail;refine(nk R s gG st.p st.bad v w H.rd hs HP cv).mono ?_;rintro e w1 ⟨rfl,hr1,hg1⟩;have Zf:=ak<|H.is_no hR h0 hr1 hg1;have Yu:=ak<|Onl.of_grown hg1;rw[h0];clear hr1 hg1 h0;go_wp2_with fail;refine(nk R s j5 st.p st.bad v w1 Zf.rd hs HP cv).mono ?_;rintro e w2 ⟨rfl,hr2,hg2⟩;have Y3:=ak<|Zf.is_yes hR h1 hr2 hg2;have Yk:=ak<|Yu.trans0<|Onl.of_grown hg2;rw[h1];clear hr2 hg2 h1;go_wp2_with fail;refine(Y8 w2 Y3 Yk.size).mono ?_;rintro e w3 ⟨v3,ns,rfl,Zu,hW3,hns⟩;have HF3:=ak Zu;have HW3:=ak<|(Yk.any v).trans hW3;have HNS:O (∀q∈ns,∀g,mr q g->w.heap.size<=g):=fun q hq g hg=>WR Yk.size<|hns q hq g hg;clear Zu hW3 hns Zf Yu Y3 Yk Y8;go_wp2_with fail;refine(nk R s fT x.2.p x.2.bad v3 w3 HF3.rd hs HX cv).mono ?_;rintro e w4 ⟨rfl,hr4,hg4⟩;cases hc:nZ s fT x.2.p x.2.bad;case true=>
  have ZT:=ak<|HF3.is_yes hR hc hr4 hg4;have HW4:=ak<|HW3.trans<|(Onl.of_grown hg4).any v3;have EQ:=ak<|KR (x:=x) hc;clear hr4 hg4 hc;go_wp2;exact bodyPost_ret (v:=.int .i64 x.1) (by simp[results,Tryz.results324,go_sem]) rfl (by rw[EQ];exact⟨v3,ns,rfl,ZT,HW4,HNS⟩)
 have ZT:=ak<|HF3.is_no hR hc hr4 hg4;have HW4:=ak<|HW3.trans<|(Onl.of_grown hg4).any v3;have c2:=ZT.rd.c2;have f2:=ZT.rd.fr 2;have hl:=ZT.rd.lt;have EQ:=ak<|N8 (x:=x) hc;clear hr4 hg4 hc;go_wp2;exact bodyPost_ret (v:=.int .i64 x.1) (by simp[results,Tryz.results324,go_sem]) rfl (by rw[EQ];exact⟨v3,ns,rfl,ZT.over hR ((Onl.refl R pz w4).at_own _ _) ZT.rd.hurt,HW4.trans<|((Onl.refl R pz w4).at_own _ _).any v3,HNS⟩)
def Onl.at_new{R:Nat}{v:Value}{w w':af}(h:Onl R v w w'){X:Nat}(hX:w.heap.size<=X)(o:Nat)(u:Value):Onl R v w (w'.setCell (aq X o) u) :=
 ⟨h.os,h.tape,h.output,by simpa using h.size,fun k hk h1 h2=>(Below.heap_setCell w' _ _ k<|by show k≠X;omega).trans (h.block k hk h1 h2)⟩
def RdC.other{w:af}{R:Nat}{s:ByteArray}{p:Nat}{bad:Bool}{v:Value}(h:RdC w R s p bad v){X:Nat}(hX:X≠R)(o:Nat)(u:Value):RdC (w.setCell (aq X o) u) R s p bad v :=
 ⟨by simpa using h.lt,by rw[WX (w:=w) (Below.heap_setCell w _ _ R<|Ne.symm hX)];exact h.c0,by rw[WX (w:=w) (Below.heap_setCell w _ _ R<|Ne.symm hX)];exact h.c1,by rw[WX (w:=w) (Below.heap_setCell w _ _ R<|Ne.symm hX)];exact h.c2,by rw[WX (w:=w) (Below.heap_setCell w _ _ R<|Ne.symm hX)];exact h.c3,fun j=>by simpa using h.fr j⟩
def RdC.below{w w':af}{R:Nat}{s:ByteArray}{p:Nat}{bad:Bool}{v:Value}(h:RdC w R s p bad v)(hb:ag w w'):RdC w' R s p bad v :=
 h.grown (row:=none) ⟨hb.os,hb.tape,hb.output,hb.size,fun k hk _=>hb.block k hk⟩ ct
def zR.below{w w':af}{g:Nat}{q:ER}(h:zR w g q)(hb:ag w w'):zR w' g q :=
 h.grown (row:=none) ⟨hb.os,hb.tape,hb.output,hb.size,fun k hk _=>hb.block k hk⟩ ct
def bare(k:Int)(o n:ByteArray):ER:=⟨⟨k,[],o,n,[]⟩,none,0,none,0⟩
def kW(k:Int)(o n:bN)(g:Nat):¬mr (bare k o n) g:=by
 rintro(⟨h,-⟩|⟨h,-⟩)<;>exact h rfl
def wR(k:Int)(o n:bN)(X:Nat)(w:af):NewQ X w (bare k o n) :=
 ⟨fun h=>absurd rfl h,fun h=>absurd rfl h,⟨.inl rfl,.inl rfl⟩,fun g h=>absurd h<|kW k o n g,fun g h=>absurd (Or.inl h)<|kW k o n g,WK _⟩
def QY(w:af)(k:Int)(o n:bN):zR (w.alloc<|.cells #[.int .i64 k,.slice none 0 0,.string o,.string n,.slice none 0 0] 43) w.heap.size (bare k o n):=by
 refine⟨?_,?_,?_,?_,?_,?_⟩<;>simp[bare]
def QZ{w:af}{X:Nat}{a0 a1 a2 a3 a4:Value}(h0:w.cell? (am X)=some a0)(h1:w.cell? (aq X 1)=some a1)(h2:w.cell? (aq X 2)=some a2)(h3:w.cell? (aq X 3)=some a3)(h4:w.cell? (aq X 4)=some a4)(hl:cU X w)(k:Int)(o n:bN):
  zR (((((w.setCell (am X)<|.int .i64 k).setCell (aq X 1)<|.slice none 0 0).setCell (aq X 2)<|.string o).setCell (aq X 3)<|.string n).setCell (aq X 4)<|.slice none 0 0) X (bare k o n):=by
 refine⟨?_,?_,?_,?_,?_,by simpa using hl⟩
 ·rw[mO cq,mO cq,mO cq,mO cq];exact mS h0
 ·rw[mO cq,mO cq,mO cq];exact mS (by rw[mO cq];exact h1)
 ·rw[mO cq,mO cq];exact mS (by rw[mO cq,mO cq];exact h2)
 ·rw[mO cq];exact mS (by rw[mO cq,mO cq,mO cq];exact h3)
 exact mS (by rw[mO cq,mO cq,mO cq,mO cq];exact h4)
def VB(l:Q03)(R:Nat)(s:ByteArray)(p:Nat)(bad:Bool)(v:Value)(k:Nat)(u:Value)(w':World):Prop:=u=l.getD k undef/\(k=3->RdC w' R s p bad v)
structure GB(R:Nat)(s:ByteArray)(p:Nat)(bad:Bool)(v:Value)(X:Nat)(q:ER)(w:World)(listed:Array Bool)(w':World):Prop where
 rd:listed.getD 3 false=false->RdC w' R s p bad v
 box:zR w' X q
 onl:Onl R pz w w'
 fr:jV w' X
def GB.step{R:Nat}{s:ByteArray}{p:Nat}{bad:Bool}{v:Value}{X:Nat}{q:ER}{w w':af}{listed:Array Bool}(h:GB R s p bad v X q w listed w'){i:Nat}(hls:listed.size=6)(h3:i≠3):GB R s p bad v X q w (listed.setIfInBounds i true) w' :=
 ⟨fun k=>h.rd (by
  by_cases hi:i<6
  ·rw[aO _ _ _ cq,if_neg<|Ne.symm h3]at k;exact k
  rw[show listed.setIfInBounds i true=listed by rw[Array.setIfInBounds_eq_of_size_le cq]]at k;exact k),h.box,h.onl,h.fr⟩
def GB.called{R:Nat}{s:ByteArray}{p:Nat}{bad:Bool}{v:Value}{X:Nat}{q:ER}{w w' w'':af}{listed:Array Bool}(h:GB R s p bad v X q w listed w')(hls:listed.size=6)(hg:w'.grownBy w''<|some R)(hX:X≠R):GB R s p bad v X q w (listed.setIfInBounds 3 true) w'' :=
 ⟨fun k=>(by rw[aO _ _ _ cq,if_pos rfl]at k;cases k),h.box.grown hg<|by intro e;injection e with e;exact hX e,h.onl.trans0<|Onl.of_grown hg,cz h.fr<|hg.block X h.box.2.2.2.2.2<|by intro e;injection e with e;exact hX e⟩
def Q0{s:ByteArray}{st:RS}(h:nZ s p9 (st.p+az s st.p) st.bad=false):fM s st=⟨2,[],⟨#[]⟩,aC s st.p,[]⟩/\aL s st=⟨st.p+az s st.p,st.bad,st.out⟩:=by
 have e:mg s p9 (bI s st)=false:=h;exact⟨by unfold fM;rw[e];rfl,by unfold aL;rw[e];rfl⟩
def N9{s:ByteArray}{st:RS}(h:nZ s p9 (st.p+az s st.p) st.bad=true):fM s st=⟨3,[],aC s st.p,aC s<|st.p+az s st.p+2,[]⟩/\aL s st=⟨st.p+az s st.p+2+az s (st.p+az s st.p+2),st.bad,st.out⟩:=by
 have e:mg s p9 (bI s st)=true:=h;exact⟨by unfold fM;rw[e];rfl,by unfold aL;rw[e];rfl⟩
def Oa(R:Nat)(s:bN)(st:RS)(base:Nat)(v:Value)(qs:Q08)(w:af)(h:RdF w R s st base v qs)(hR:R<base)(hB:cd base w)(hs:s.size<=1000)(hp:st.p<=s.size)(hn:qs.length<=100000)
  (h0:nZ s gG st.p st.bad=false) (h1:nZ s j5 st.p st.bad=false) :
  Calls prog 324 #[.pointer (some<|am R)] w (wQ R s base v qs w ((st.out.length:Int),ug (fM s st)<|judged (fM s st)<|aL s st)):=by
 have H:=ak h;have HP:=ak hp;clear h hp;go_enter func324,ntmps324;go_wp2_with fail;refine(nk R s gG st.p st.bad v w H.rd hs HP cv).mono ?_;rintro e w1 ⟨rfl,hr1,hg1⟩;have Zf:=ak<|H.is_no hR h0 hr1 hg1;have Yu:=ak<|Onl.of_grown hg1;rw[h0];clear hr1 hg1 h0;go_wp2_with fail;refine(nk R s j5 st.p st.bad v w1 Zf.rd hs HP cv).mono ?_;rintro e w2 ⟨rfl,hr2,hg2⟩;have Y3:=ak<|Zf.is_no hR h1 hr2 hg2;have Yk:=ak<|Yu.trans0<|Onl.of_grown hg2;rw[h1];clear hr2 hg2 h1 Zf Yu;go_wp2_with fail;refine(wP R s st.p st.bad v w2 Y3.rd hs HP).mono ?_;rintro e w3 ⟨rfl,hr3,hg3⟩;have HF3:=ak<|Y3.over hR (Onl.of_grown hg3) hr3;have YK:=ak<|Yk.trans0<|Onl.of_grown hg3;have HP3:=ak<|lh s st.p HP;have HSZ:=ak<|AR s st.p HP;clear hr3 hg3 Y3 Yk;obtain⟨W4,YR⟩:=eQx<|w3.alloc<|.cells #[.int .i64 2,.slice none 0 0,.string ⟨#[]⟩,.string<|aC s st.p,.slice none 0 0] 43;have HV4:O (zR W4 w3.heap.size<|bare 2 ⟨#[]⟩<|aC s st.p):=by rw[YR];exact QY w3 2 ⟨#[]⟩<|aC s st.p
 have HO4a:O (Onl R pz w3 W4):=by rw[YR];exact Onl.of_below<|(WL _ _).alloc (WK _) _
 have ZT:O (RdF W4 R s ⟨st.p+az s st.p,st.bad,st.out⟩ base v qs):=HF3.over hR HO4a (by rw[YR];exact HF3.rd.below<|(WL _ _).alloc (WK _) _);have YG:=ak<|YK.trans0 HO4a;have HFR4:O (jV W4 w3.heap.size):=fun y=>by rw[YR];simp
 have HXR:O (w3.heap.size≠R):=by have:=HF3.rd.lt;show _≠_;omega
 have HX0:O (w.heap.size<=w3.heap.size):=YK.size;have HX3:O (w3.heap.size<=w3.heap.size):=WK _;go_wp2_with fail;rw[<-YR];clear YR;obtain⟨X,hX⟩:=eQx w3.heap.size;rw[<-hX]at HV4 HFR4 HXR HX0;replace HX3:O (w3.heap.size<=X):=Nat.le_of_eq hX.symm;rw[<-hX];clear hX;refine(nk R s p9 (st.p+az s st.p) st.bad v W4 ZT.rd hs HP3 cv).mono ?_;rintro e w5 ⟨rfl,hr5,hg5⟩;have HV5:=ak (HV4.grown hg5<|by intro e;injection e with e;exact HXR e);have HFR5:=ak (cz HFR4<|hg5.block X HV4.2.2.2.2.2<|by intro e;injection e with e;exact HXR e);have Yi:=ak<|YG.trans0<|Onl.of_grown hg5;have HO35:=ak<|HO4a.trans0<|Onl.of_grown hg5;cases hc:nZ s p9 (st.p+az s st.p) st.bad;case false=>
  have HF5:=ak<|ZT.is_no hR hc hr5 hg5;have EQ:=ak<|Q0 hc;clear hr5 hg5 hc ZT YG HV4 HFR4;obtain⟨x0,x1,x2,x3,x4,xl⟩:=HV5.out;replace x0:ab w5 X (.int .i64 2):=x0;replace x1:ac w5 X 1 (.slice none 0 0):=x1;replace x2:ac w5 X 2 (.string ⟨#[]⟩):=x2;replace x3:ac w5 X 3 (.string<|aC s st.p):=x3;replace x4:ac w5 X 4 (.slice none 0 0):=x4;go_wp2_with fail;refine(mZ (bare 2 ⟨#[]⟩<|aC s st.p) w5 ⟨fun a ha=>(by cases ha),WO _,by show(aC s st.p).size<=maxLen;rw[HSZ];have:=HP3.out;unfold maxLen;omega,WO _,WO _⟩ (by show(2:Int)≠1;decide)).mono ?_;rintro e w6 ⟨rfl,hB6⟩;have Zt:=ak<|Yi.trans0<|Onl.of_below hB6;have HF6:=ak<|HF5.over hR (Onl.of_below hB6)<|HF5.rd.below hB6;obtain⟨y0,y1,y2,y3,y4,yl⟩:=HV5.below hB6;replace y0:ab w6 X (.int .i64 2):=y0;replace y1:ac w6 X 1 (.slice none 0 0):=y1;replace y2:ac w6 X 2 (.string ⟨#[]⟩):=y2;replace y3:ac w6 X 3 (.string<|aC s st.p):=y3;replace y4:ac w6 X 4 (.slice none 0 0):=y4;clear x0 x1 x2 x3 x4 xl hB6 HV5 HF5 Yi;cases hb:ax (bare 2 ⟨#[]⟩<|aC s st.p).e;case true=>
   have HE:O (fM s st=(bare 2 ⟨#[]⟩<|aC s st.p).e/\judged (fM s st) (aL s st)=(⟨st.p+az s st.p,st.bad,st.out⟩:RS)):=by
    refine⟨EQ.1,?_⟩;rw[EQ.1,EQ.2];exact if_pos hb
   clear hb;go_wp2_with fail;refine(N7 R s ((⟨st.p+az s st.p,st.bad,st.out⟩:RS)) base v qs (bare 2 ⟨#[]⟩<|aC s st.p) w6 HF6 hR (WR hB Zt.size) hn (wR _ _ _ _ _) (.inl ⟨rfl,rfl,rfl⟩) (fun g hg=>absurd hg<|kW _ _ _ g)).mono ?_;rintro e w7 ⟨v7,rfl,hF7,hW7⟩;have HF7:=ak hF7;have HW7:=ak<|(Zt.any v).trans hW7;clear hF7 hW7;go_wp2;exact bodyPost_ret (v:=.int .i64 (st.out.length:Int)) (by simp[results,Tryz.results324,go_sem]) rfl (by rw[HE.1,<-HE.1,HE.2,HE.1];exact⟨v7,[bare 2 ⟨#[]⟩ (aC s st.p)],rfl,HF7,HW7,fun q hq g hg=>by rw[WZ]at hq;subst hq;exact absurd hg<|kW _ _ _ g⟩)
  have HE:O (fM s st=(bare 2 ⟨#[]⟩<|aC s st.p).e/\judged (fM s st) (aL s st)=ww ((⟨st.p+az s st.p,st.bad,st.out⟩:RS))):=by
   refine⟨EQ.1,?_⟩;rw[EQ.1,EQ.2];exact if_neg (fun e=>by have:=e.symm.trans hb;cases this)
  clear hb;have c2:=HF6.rd.c2;have f2:=HF6.rd.fr 2;have hl:=HF6.rd.lt;have hxr:=HXR.out;have hrx:=Ne.symm HXR;have HO7:O (Onl R pz w<|w6.setCell (aq R 2)<|.bool true):=Zt.at_own _ _;have HF7:O (RdF (w6.setCell (aq R 2)<|.bool true) R s (ww<|(⟨st.p+az s st.p,st.bad,st.out⟩:RS)) base v qs):=HF6.over hR ((Onl.refl R pz w6).at_own _ _) HF6.rd.hurt;go_wp2_with fail;refine(N7 R s (ww<|(⟨st.p+az s st.p,st.bad,st.out⟩:RS)) base v qs (bare 2 ⟨#[]⟩<|aC s st.p) _ HF7 hR (WR hB HO7.size) hn (wR _ _ _ _ _) (.inl ⟨rfl,rfl,rfl⟩) (fun g hg=>absurd hg<|kW _ _ _ g)).mono ?_;rintro e w8 ⟨v8,rfl,hF8,ZZ⟩;have HF8:=ak hF8;have HW8:=ak<|(HO7.any v).trans ZZ;clear hF8 ZZ;go_wp2;exact bodyPost_ret (v:=.int .i64 (st.out.length:Int)) (by simp[results,Tryz.results324,go_sem,ww]) rfl (by rw[HE.1,<-HE.1,HE.2,HE.1];exact⟨v8,[bare 2 ⟨#[]⟩ (aC s st.p)],rfl,HF8,HW8,fun q hq g hg=>by rw[WZ]at hq;subst hq;exact absurd hg<|kW _ _ _ g⟩)
 have HF5:=ak<|ZT.is_yes hR hc hr5 hg5;have EQ:=ak<|N9 hc;have HP5:O (st.p+az s st.p+2<=s.size):=BM hc;clear hr5 hg5 hc ZT YG HV4 HFR4;go_wp2_with fail;refine mI 5 _ _ (VB (Value.pointer (some<|aq X 3)::.string (aC s st.p)::.pointer (some<|am R)::.string (aC s<|st.p+az s st.p+2)::.agg #[.int .i64 3,.slice none 0 0,.string<|aC s st.p,.string<|aC s<|st.p+az s st.p+2,.slice none 0 0]::[]) R s ((st.p+az s st.p+2)+az s (st.p+az s st.p+2)) st.bad v) (GB R s (st.p+az s st.p+2) st.bad v X (bare 2 ⟨#[]⟩<|aC s st.p) w3) cw rfl (by decide +kernel) (by decide +kernel) (vQ [(56,[0,1,2,3,4])]) ⟨fun _=>HF5.rd.drewN 1,HV5,⟨HO35.os,HO35.tape,HO35.output,HO35.size,HO35.block⟩,HFR5⟩ ?zu ?finB<;>dsimp only[uI];case zu =>
  rintro i hi o ho listed f w' hls Yx hG hpre;have HG:=ak hG;have HM:O (∀e∈o.after,Region.binds .any e=true->_):=hpre;clear hG hpre;have hc:i=0\/i=1\/i=2\/i=3\/i=4:=cq;clear hi
  repeat' rcases hc with rfl|hc
  ·cases ho;have HS:=ak<|HG.step (i:=0) hls cv;refine aa rfl fun K HK=>?_;clear HM;dsimp only;go_simp;exact HK _ _ ⟨Value.pointer<|some ⟨X,3,none⟩,by simp[upd],HS,⟨rfl,fun e=>absurd e cv⟩,fun k u _ hu=>hu⟩
  ·cases ho;have e0:f 0=Value.pointer (some<|aq X 3):=(HM ⟨0,.data⟩ ct rfl).1;have x3:ac w' X 3 (.string<|aC s st.p):=HG.box.2.2.2.1;have HS:=ak<|HG.step (i:=1) hls cv;refine aa rfl fun K HK=>?_;clear HM;simp only[e0];go_simp;exact HK _ _ ⟨Value.string<|aC s st.p,by simp[upd,e0],HS,⟨rfl,fun e=>absurd e cv⟩,fun k u _ hu=>hu⟩
  ·cases ho;have HS:=ak<|HG.step (i:=2) hls cv;refine aa rfl fun K HK=>?_;clear HM;dsimp only;go_simp;exact HK _ _ ⟨Value.pointer<|some ⟨R,0,none⟩,by simp[upd],HS,⟨rfl,fun e=>absurd e cv⟩,fun k u _ hu=>hu⟩
  ·cases ho;have e2:f 2=Value.pointer (some<|am R):=(HM ⟨2,.data⟩ ct rfl).1;have hrd:=ak<|HG.rd<|KQ Yx hls cq;refine aa rfl fun K HK=>?_;clear HM;simp only[e2];go_simp;refine(wP R s (st.p+az s st.p+2) st.bad v w' hrd hs HP5).mono ?_;rintro e w7 ⟨rfl,hr7,hg7⟩;have HS:=ak<|HG.called hls hg7 HXR;have HR7:=ak hr7;clear hr7 hg7;go_wp2_with fail;exact HK _ _ ⟨Value.string<|aC s<|st.p+az s st.p+2,by simp[upd,e2],HS,⟨rfl,fun _=>HR7⟩,fun k u hk hu=>⟨hu.1,fun e=>absurd e hk⟩⟩
  cases ho;have e1:f 1=Value.string (aC s st.p):=(HM ⟨1,.data⟩ ct rfl).1;have e3:f 3=Value.string (aC s<|st.p+az s st.p+2):=(HM ⟨3,.data⟩ ct rfl).1;have HS:=ak<|HG.step (i:=4) hls cv;refine aa rfl fun K HK=>?_;clear HM;simp only[e1,e3];go_simp;exact HK _ _ ⟨Value.agg #[.int .i64 3,.slice none 0 0,.string<|aC s st.p,.string<|aC s<|st.p+az s st.p+2,.slice none 0 0],by simp[upd,e1,e3],HS,⟨rfl,fun e=>absurd e cv⟩,fun k u _ hu=>hu⟩
 case finB =>
  rintro o ho listed f w' hG hall;obtain rfl:=Option.some.inj ho;have e4:f 4=Value.agg #[.int .i64 3,.slice none 0 0,.string<|aC s st.p,.string<|aC s<|st.p+az s st.p+2,.slice none 0 0]:=(hall 4 cq).1;have HRD:=ak<|(hall 3 cq).2 rfl;have HG:=ak hG;obtain⟨x0,x1,x2,x3,x4,xl⟩:=hG.box;have f0:=hG.fr 0;have f1:=hG.fr 1;have f2:=hG.fr 2;have f3:=hG.fr 3;have f4:=hG.fr 4;clear ho hall hG;refine wpOp_step rfl (fun K hK=>?_);have HK:O (∀a w,_->K a w):=hK;clear hK;simp only[e4];go_simp;refine HK _ _ ?_;clear HK;obtain⟨wz,hwz⟩:=eQx<|(((((w'.setCell (am X)<|.int .i64 3).setCell (aq X 1)<|.slice none 0 0).setCell (aq X 2)<|.string<|aC s st.p).setCell (aq X 3)<|.string<|aC s<|st.p+az s st.p+2).setCell (aq X 4)<|.slice none 0 0);have HO3z:O (Onl R pz w3 wz):=by rw[hwz];exact((((HG.onl.at_new HX3 _ _).at_new HX3 _ _).at_new HX3 _ _).at_new HX3 _ _).at_new HX3 _ _
  have HRz:O (RdC wz R s (st.p+az s st.p+2+az s (st.p+az s st.p+2)) st.bad v):=by rw[hwz];exact((((HRD.other HXR _ _).other HXR _ _).other HXR _ _).other HXR _ _).other HXR _ _
  have HVz:O (zR wz X<|bare 3 (aC s st.p)<|aC s<|st.p+az s st.p+2):=by rw[hwz];exact QZ x0 x1 x2 x3 x4 xl _ _ _
  clear HV5 HF5 Yi HO35 HFR5;have HF5:=ak<|HF3.over hR HO3z HRz;have Yi:=ak<|YK.trans0 HO3z;rw[<-hwz];clear hwz x0 x1 x2 x3 x4 xl f0 f1 f2 f3 f4 e4 HRz HO3z HG HRD;obtain⟨x0,x1,x2,x3,x4,xl⟩:=HVz.out;replace x0:ab wz X (.int .i64 3):=x0;replace x1:ac wz X 1 (.slice none 0 0):=x1;replace x2:ac wz X 2 (.string<|aC s st.p):=x2;replace x3:ac wz X 3 (.string<|aC s<|st.p+az s st.p+2):=x3;replace x4:ac wz X 4 (.slice none 0 0):=x4;go_wp2_with fail;refine(mZ (bare 3 (aC s st.p)<|aC s<|st.p+az s st.p+2) wz ⟨fun a ha=>(by cases ha),by show(aC s st.p).size<=maxLen;rw[HSZ];have:=HP3.out;unfold maxLen;omega,by show(aC s<|st.p+az s st.p+2).size<=maxLen;rw[AR s _ HP5];have:=lh s _ HP5;unfold maxLen;omega,WO _,WO _⟩ (by show(3:Int)≠1;decide)).mono ?_;rintro e w6 ⟨rfl,hB6⟩;have Zt:=ak<|Yi.trans0<|Onl.of_below hB6;have HF6:=ak<|HF5.over hR (Onl.of_below hB6)<|HF5.rd.below hB6;obtain⟨y0,y1,y2,y3,y4,yl⟩:=HVz.below hB6;replace y0:ab w6 X (.int .i64 3):=y0;replace y1:ac w6 X 1 (.slice none 0 0):=y1;replace y2:ac w6 X 2 (.string<|aC s st.p):=y2;replace y3:ac w6 X 3 (.string<|aC s<|st.p+az s st.p+2):=y3;replace y4:ac w6 X 4 (.slice none 0 0):=y4;clear x0 x1 x2 x3 x4 xl hB6 HVz HF5 Yi;cases hb:ax (bare 3 (aC s st.p)<|aC s<|st.p+az s st.p+2).e;case true=>
   have HE:O (fM s st=(bare 3 (aC s st.p)<|aC s<|st.p+az s st.p+2).e/\judged (fM s st) (aL s st)=(⟨st.p+az s st.p+2+az s (st.p+az s st.p+2),st.bad,st.out⟩:RS)):=by
    refine⟨EQ.1,?_⟩;rw[EQ.1,EQ.2];exact if_pos hb
   clear hb;go_wp2_with fail;refine(N7 R s ((⟨st.p+az s st.p+2+az s (st.p+az s st.p+2),st.bad,st.out⟩:RS)) base v qs (bare 3 (aC s st.p)<|aC s<|st.p+az s st.p+2) w6 HF6 hR (WR hB Zt.size) hn (wR _ _ _ _ _) (.inl ⟨rfl,rfl,rfl⟩) (fun g hg=>absurd hg<|kW _ _ _ g)).mono ?_;rintro e w7 ⟨v7,rfl,hF7,hW7⟩;have HF7:=ak hF7;have HW7:=ak<|(Zt.any v).trans hW7;clear hF7 hW7;go_wp2;exact bodyPost_ret (v:=.int .i64 (st.out.length:Int)) (by simp[results,Tryz.results324,go_sem]) rfl (by rw[HE.1,<-HE.1,HE.2,HE.1];exact⟨v7,[bare 3 (aC s st.p) (aC s<|st.p+az s st.p+2)],rfl,HF7,HW7,fun q hq g hg=>by rw[WZ]at hq;subst hq;exact absurd hg<|kW _ _ _ g⟩)
  have HE:O (fM s st=(bare 3 (aC s st.p)<|aC s<|st.p+az s st.p+2).e/\judged (fM s st) (aL s st)=ww ((⟨st.p+az s st.p+2+az s (st.p+az s st.p+2),st.bad,st.out⟩:RS))):=by
   refine⟨EQ.1,?_⟩;rw[EQ.1,EQ.2];exact if_neg (fun e=>by have:=e.symm.trans hb;cases this)
  clear hb;have c2:=HF6.rd.c2;have f2:=HF6.rd.fr 2;have hl:=HF6.rd.lt;have hxr:=HXR.out;have hrx:=Ne.symm HXR;have HO7:O (Onl R pz w<|w6.setCell (aq R 2)<|.bool true):=Zt.at_own _ _;have HF7:O (RdF (w6.setCell (aq R 2)<|.bool true) R s (ww<|(⟨st.p+az s st.p+2+az s (st.p+az s st.p+2),st.bad,st.out⟩:RS)) base v qs):=HF6.over hR ((Onl.refl R pz w6).at_own _ _) HF6.rd.hurt;go_wp2_with fail;refine(N7 R s (ww<|(⟨st.p+az s st.p+2+az s (st.p+az s st.p+2),st.bad,st.out⟩:RS)) base v qs (bare 3 (aC s st.p)<|aC s<|st.p+az s st.p+2) _ HF7 hR (WR hB HO7.size) hn (wR _ _ _ _ _) (.inl ⟨rfl,rfl,rfl⟩) (fun g hg=>absurd hg<|kW _ _ _ g)).mono ?_;rintro e w8 ⟨v8,rfl,hF8,ZZ⟩;have HF8:=ak hF8;have HW8:=ak<|(HO7.any v).trans ZZ;clear hF8 ZZ;go_wp2;exact bodyPost_ret (v:=.int .i64 (st.out.length:Int)) (by simp[results,Tryz.results324,go_sem,ww]) rfl (by rw[HE.1,<-HE.1,HE.2,HE.1];exact⟨v8,[bare 3 (aC s st.p) (aC s<|st.p+az s st.p+2)],rfl,HF8,HW8,fun q hq g hg=>by rw[WZ]at hq;subst hq;exact absurd hg<|kW _ _ _ g⟩)
structure PL(w1 wr:World)(R X:Nat)(s:ByteArray)(xs:Q0a)(p:Nat)(bad:Bool)(v vA:Value):Prop where
 rd:RdC wr R s p bad v
 onl:Onl R pz w1 wr
 c0:wr.cell? ⟨X,0,none⟩=some (.int .i64 1)
 c1:wr.cell? ⟨X,1,none⟩=some vA
 c2:wr.cell? ⟨X,2,none⟩=some (.string ⟨#[]⟩)
 c3:wr.cell? ⟨X,3,none⟩=some (.string ⟨#[]⟩)
 c4:wr.cell? ⟨X,4,none⟩=some (.slice none 0 0)
 fr:jV wr X
 lt:X<wr.heap.size
 own:wr.ownsRow (X+1) 216 2 vA xs.length (pairs xs)
def PL.moved{w1 wr w':af}{R X:Nat}{s:ByteArray}{xs:Q0a}{p p':Nat}{bad bad':Bool}{v vA:Value}(h:PL w1 wr R X s xs p bad v vA)(hRX:R<X)(hg:wr.grownBy w'<|some R)(hr:RdC w' R s p' bad' v):PL w1 w' R X s xs p' bad' v vA:=by
 have hne:some X≠some R:=by intro e;injection e with e;omega
 refine⟨hr,h.onl.trans0<|Onl.of_grown hg,hg.cell h.c0 hne,hg.cell h.c1 hne,hg.cell h.c2 hne,hg.cell h.c3 hne,hg.cell h.c4 hne,cz h.fr<|hg.block X h.lt hne,WJ h.lt hg.size,h.own.kept hg<|.inr ?_⟩;intro e;have:=(h.own.lt R e).1;omega
def PL.made{w1 wr:af}{R X:Nat}{s:ByteArray}{xs:Q0a}{p:Nat}{bad:Bool}{v vA:Value}(h:PL w1 wr R X s xs p bad v vA)(o:Obj):PL w1 (wr.alloc o) R X s xs p bad v vA:=by
 have hg:=World.grownBy_alloc wr o none;exact⟨h.rd.grown hg ct,h.onl.trans0<|Onl.of_below<|(WL _ _).alloc (WK _) _,hg.cell h.c0 ct,hg.cell h.c1 ct,hg.cell h.c2 ct,hg.cell h.c3 ct,hg.cell h.c4 ct,cz h.fr<|hg.block X h.lt ct,WJ h.lt hg.size,h.own.alloc o⟩
def PL.aset{w1 wr:af}{R X:Nat}{s:ByteArray}{xs:Q0a}{p:Nat}{bad:Bool}{v vA:Value}(h:PL w1 wr R X s xs p bad v vA)(hRX:R<X)(h1:w1.heap.size<=X){A:Nat}(hA:X<A)(hv:vA.ownBlock≠some A)(o:Nat)(u:Value):PL w1 (wr.setCell (aq A o) u) R X s xs p bad v vA:=by
 have hb:∀k,k≠A->(wr.setCell (aq A o) u).heap[k]?=wr.heap[k]?:=fun k hk=>Below.heap_setCell wr _ _ k hk;refine⟨h.rd.other cq _ _,h.onl.at_new cq _ _,?_,?_,?_,?_,?_,cz h.fr<|hb X cq,by simpa using h.lt,dJ h.own fun g hg=>hb g fun e=>hv<|by rw[hg,e]⟩
 all_goals rw[WX (w:=wr) (hb X cq)]
 ·exact h.c0
 ·exact h.c1
 ·exact h.c2
 ·exact h.c3
 exact h.c4
def Oc(xs:Q0a)(a:Al):pairs (xs++[a])=pairs xs++[.string a.t,.string a.s]:=by simp[pairs]
def PL.app{w1 wr w':af}{R X:Nat}{s:ByteArray}{xs:Q0a}{p:Nat}{bad:Bool}{v vA vB:Value}(h:PL w1 wr R X s xs p bad v vA)(hRX:R<X)(h1:w1.heap.size<=X)(a:Al)(hown:w'.ownsRow (X+1) 216 2 vB (xs.length+1)<|pairs xs++[.string a.t,.string a.s])(hg:wr.grownBy w' vA.ownBlock):PL w1 (w'.setCell (aq X 1) vB) R X s (xs++[a]) p bad v vB:=by
 have hX:some X≠vA.ownBlock:=fun e=>by have:=(h.own.lt X e.symm).1;omega
 have hR:some R≠vA.ownBlock:=fun e=>by have:=(h.own.lt R e.symm).1;omega
 have ho:Onl R pz w1 w':=⟨hg.os.trans h.onl.os,hg.tape.trans h.onl.tape,hg.output.trans h.onl.output,WR h.onl.size hg.size,fun k hk h2 h3=>(hg.block k (WJ hk h.onl.size) (fun e=>by have:=(h.own.lt k e.symm).1;omega)).trans (h.onl.block k hk h2 h3)⟩;refine⟨(h.rd.grown hg hR).other cq _ _,ho.at_new h1 _ _,?_,mS<|hg.cell h.c1 hX,?_,?_,?_,fun j=>?_,?_,?_⟩
 ·rw[mO cq];exact hg.cell h.c0 hX
 ·rw[mO cq];exact hg.cell h.c2 hX
 ·rw[mO cq];exact hg.cell h.c3 hX
 ·rw[mO cq];exact hg.cell h.c4 hX
 ·simpa using cz h.fr (hg.block X h.lt hX) j
 ·simpa using WJ h.lt hg.size
 rw[Oc,WP,Xi];exact ownsRow_setCell_below hown (by show X<X+1;omega) _
def wbad(R:Nat)(w:World):Nat:=match w.cell? ⟨R,2,none⟩ with
 | some (.bool true)=>0
 | _=>1
def RdC.wbad0{w:af}{R:Nat}{s:ByteArray}{p:Nat}{v:Value}(h:RdC w R s p true v):wbad R w=0:=by
 simp[Go.Proofs.YtojjoblnpldniaaGreat.wbad,h.c2]
def RdC.wbad1{w:af}{R:Nat}{s:ByteArray}{p:Nat}{v:Value}(h:RdC w R s p false v):wbad R w=1:=by
 simp[Go.Proofs.YtojjoblnpldniaaGreat.wbad,h.c2]
def BN(w:af)(a b:bN)(g:Nat)(hg:w.heap.size=g):∀j u,[Value.string a,.string b][j]?=some u->(w.alloc<|.cells #[.string a,.string b] 216).cell? ((⟨g,0,none⟩:Addr).add j)=some u:=by
 intro j u hu;subst hg;rw[show(⟨w.heap.size,0,none⟩:Addr).add j=⟨w.heap.size,0+j,none⟩ by simp[Addr.add];omega,Xl];have:=World.cell?_alloc_mark w #[.string a,.string b] 216 (0,0) j;rw[this];simpa using hu
def rV(s:ByteArray)(st:RS):Int×RS:=match dL s (s.size+1) [] (lc gG st) with
 | (some xs,st')=>((st'.out.length:Int),ug ⟨1,xs,⟨#[]⟩,⟨#[]⟩,[]⟩ st')
 | (none,st')=>(0,st')
def KS{s:ByteArray}{st st':RS}{xs:Q0a}(h:dL s (s.size+1) [] (lc gG st)=(some xs,st')):rV s st=((st'.out.length:Int),ug ⟨1,xs,⟨#[]⟩,⟨#[]⟩,[]⟩ st'):=by simp only[rV,h]
def KT{s:ByteArray}{st st':RS}(h:dL s (s.size+1) [] (lc gG st)=(none,st')):rV s st=(0,st'):=by simp only[rV,h]
def KU(s:bN)(n:Nat)(xs:Q0a)(p:Nat)(o:Q09):dL s n xs ⟨p,true,o⟩=(none,⟨p,true,o⟩):=by
 cases n with
 | zero=>rfl
 | succ n=>rfl
structure PairIs(s:ByteArray)(p:Nat)(o:Q09)(a:Al)(pb:Nat):Prop where
 a:(⟨aC s p,zI s<|bI s ⟨p,false,o⟩⟩:Al)=a
 b:aX s (bI s ⟨p,false,o⟩)=⟨pb,false,o⟩
def Od{s:ByteArray}{p:Nat}{o:Q09}(h:nZ s wu (p+az s p) false=false):PairIs s p o ⟨aC s p,⟨#[]⟩⟩ (p+az s p):=by
 have e:mg s wu (bI s ⟨p,false,o⟩)=false:=h;exact⟨by unfold zI;rw[e];rfl,by unfold aX;rw[e];rfl⟩
def KV{s:ByteArray}{p:Nat}{o:Q09}(h:nZ s wu (p+az s p) false=true):PairIs s p o ⟨aC s p,aC s<|p+az s p+1⟩ (p+az s p+1+az s (p+az s p+1)):=by
 have e:mg s wu (bI s ⟨p,false,o⟩)=true:=h;exact⟨by unfold zI;rw[e];rfl,by unfold aX;rw[e];rfl⟩
def Iw{s:ByteArray}{p pb n:Nat}{o:Q09}{a:Al}{xs:Q0a}(h:PairIs s p o a pb)(h1:nZ s fT pb false=true):dL s (n+1) xs ⟨p,false,o⟩=(some<|xs++[a],⟨pb+1,false,o⟩):=by
 have e:mg s fT ⟨pb,false,o⟩=true:=h1;unfold dL;rw[h.a,h.b,e];rfl
def Iy{s:ByteArray}{p pb n:Nat}{o:Q09}{a:Al}{xs:Q0a}(h:PairIs s p o a pb)(h1:nZ s fT pb false=false)(h2:nZ s mP pb false=true):dL s (n+1) xs ⟨p,false,o⟩=dL s n (xs++[a]) ⟨pb+1,false,o⟩:=by
 have e:mg s fT ⟨pb,false,o⟩=false:=h1;have e2:mg s mP ⟨pb,false,o⟩=true:=h2
 conv=>lhs;unfold dL
 rw[h.a,h.b,e,e2];rfl
def Oe{s:ByteArray}{p pb n:Nat}{o:Q09}{a:Al}{xs:Q0a}(h:PairIs s p o a pb)(h1:nZ s fT pb false=false)(h2:nZ s mP pb false=false):dL s (n+1) xs ⟨p,false,o⟩=dL s n (xs++[a]) ⟨pb,true,o⟩:=by
 have e:mg s fT ⟨pb,false,o⟩=false:=h1;have e2:mg s mP ⟨pb,false,o⟩=false:=h2
 conv=>lhs;unfold dL
 rw[h.a,h.b,e,e2];rfl
def capOf{w:af}{base size n m cap:Nat}{e:TypeId}{ad:Q02}{xs:Q03}(h:w.ownsRow base e size (.slice ad n cap) m xs)(hm:m=n:=by rfl):n<=cap:=by
 rcases h.2 with⟨e1,h0⟩|⟨g,cap',cur,e1,-,-,hnc,-⟩
 ·injection e1 with _ e2 e3;omega
 injection e1 with _ e2 e3;omega
def PL.node{w1 wr:af}{R X:Nat}{s:ByteArray}{xs:Q0a}{p:Nat}{bad:Bool}{v vA:Value}(h:PL w1 wr R X s xs p bad v vA)(h1:w1.heap.size<=X){base:Nat}(hb:cd base w1):∃ad cap,vA=.slice ad xs.length cap/\NewQ base wr ⟨⟨1,xs,⟨#[]⟩,⟨#[]⟩,[]⟩,ad,cap,none,0⟩/\∀g,mr ⟨⟨1,xs,⟨#[]⟩,⟨#[]⟩,[]⟩,ad,cap,none,0⟩ g->X<g:=by
 obtain⟨ad,cap,e,h2,h3,h4⟩:=MQ h.own rfl;have hK:∀g,¬bK ⟨⟨1,xs,⟨#[]⟩,⟨#[]⟩,[]⟩,ad,cap,none,0⟩ g:=fun g hg=>hg.1 rfl;have hA:∀g,mr ⟨⟨1,xs,⟨#[]⟩,⟨#[]⟩,[]⟩,ad,cap,none,0⟩ g->X+1<=g/\g<wr.heap.size/\jV wr g:=by
  rintro g (hg|hg)
  ·exact h4 g hg.1 hg.2
  exact absurd hg<|hK g
 refine⟨ad,cap,e,⟨h3,fun h=>absurd rfl h,⟨h2,.inl rfl⟩,fun g hg=>⟨?_,(hA g hg).2⟩,fun g _ hg=>hK g hg,capOf<|e ▸ h.own⟩,fun g hg=>(hA g hg).1⟩;have:=(hA g hg).1;omega
theorem Og(R:Nat)(s:bN)(st:RS)(base:Nat)(v:Value)(qs:Q08)(w:af)(h:RdF w R s st base v qs)(hR:R<base)(hB:base<=w.heap.size)(hs:s.size<=1000)(hp:st.p<=s.size)(hn:qs.length<=100000)
  (h0:nZ s gG st.p st.bad=true) :
  Calls prog 324 #[.pointer (some ⟨R,0,none⟩)] w (wQ R s base v qs w<|rV s st):=by
 obtain⟨iA,hiA,zA0,zA1,zA2⟩:=info_parts (P:=prog) (e:=216) (z:=.agg #[.string ⟨#[]⟩,.string ⟨#[]⟩]) (size:=2) (bytes:=32) cw;have Z0:O (prog.info? 216=some iA/\iA.zero=some (.agg #[.string ⟨#[]⟩,.string ⟨#[]⟩])/\iA.size=2/\iA.bytes=32):=⟨hiA,zA0,zA1,zA2⟩;have H:=ak h;have HP:=ak hp
 have hbad:st.bad=false:=by cases e:st.bad with
  | false=>rfl
  | true=>rw[e]at h0;cases h0
 have ZW:=ak hbad;have HP1:O (st.p+5<=s.size):=BM h0;clear h hp hiA zA0 zA1 zA2 hbad;go_enter func324,ntmps324;go_wp2_with fail;refine(nk R s gG st.p st.bad v w H.out.rd hs HP.out cv).mono ?_;rintro e w1 ⟨rfl,hr1,hg1⟩;have Zf:=ak<|H.out.is_yes hR h0 hr1 hg1;have Yu:=ak<|Onl.of_grown hg1;rw[h0];clear hr1 hg1 h0;obtain⟨W2,hW2⟩:=eQx<|w1.alloc<|.cells #[.int .i64 1,.slice none 0 0,.string ⟨#[]⟩,.string ⟨#[]⟩,.slice none 0 0] 43;have HL2:O (PL w1 W2 R w1.heap.size s [] (st.p+5) false v<|.slice none 0 0):=by
  rw[hW2];have hrd:RdC w1 R s (st.p+5) false v:=by have:=Zf.out.rd;rw[show(lc gG st).bad=false from ZW.out]at this;exact this
  refine⟨hrd.below<|(WL _ _).alloc (WK _) _,Onl.of_below<|(WL _ _).alloc (WK _) _,ct,ct,ct,ct,ct,fun j=>ct,ct,World.ownsRow_nil _ _ _ _⟩
 have HX0:O (w.heap.size<=w1.heap.size):=Yu.out.size;have HRX:O (R<w1.heap.size):=Zf.out.rd.lt;have Zv:O (w1.heap.size<=w1.heap.size):=WK _;go_wp2_with fail;rw[<-hW2];clear hW2;obtain⟨X,hX⟩:=eQx w1.heap.size;replace HL2:O (PL w1 W2 R X s [] (st.p+5) false v<|.slice none 0 0):=by rw[hX];exact HL2
 replace HX0:O (w.heap.size<=X):=by rw[hX];exact HX0
 replace HRX:O (R<X):=by rw[hX];exact HRX
 replace Zv:O (w1.heap.size<=X):=by rw[hX];exact Zv
 rw[<-hX];clear hX;go_loopw[14] (fun _ wr=>∃(n p:Nat) (bad:Bool) (xs:Q0a) (vA:Value),O (p<=s.size)/\O (dL s n xs ⟨p,bad,st.out⟩=dL s (s.size+1) [] (lc gG st))/\O (bad=false->s.size-p<n/\xs.length+5<=p)/\O (PL w1 wr R X s xs p bad v vA)) (fun _ wr=>s.size-wat R wr+wbad R wr);case atStart=>exact⟨s.size+1,st.p+5,false,[],.slice none 0 0,HP1.out,by show _=_;unfold lc;rw[ZW.out];rfl,fun _=>⟨cq,ct⟩,HL2.out⟩
 obtain⟨n,p,bad,xs,vA,HPL,HPP,HLN,HL⟩:=hrel;clear HL2;have r2:=HL.out.rd.c2;have rl:=HL.out.rd.lt;cases bad;case true=>
  have EQ:=ak<|KT<|HPP.out.symm.trans<|KU s n xs p st.out;have HF:=ak<|Zf.out.over hR HL.out.onl HL.out.rd;have HO:=ak<|Yu.out.trans0 HL.out.onl;go_wp2;exact bodyPost_ret (v:=.int .i64 0) (by simp[results,Tryz.results324,go_sem]) rfl (by rw[EQ.out];exact⟨v,[],rfl,by rw[XL];exact HF.out,HO.out.any v,fun q hq=>by cases hq⟩)
 obtain⟨m,hm⟩:∃m,n=m+1:=⟨n-1,by have:=(HLN.out rfl).1;omega⟩;subst hm;have HPW:=ak<|lh s p HPL.out;have HLN1:=ak (HLN.out rfl).1;have HLN2:=ak (HLN.out rfl).2;clear HLN;go_wp2_with fail;refine(wP R s p false v wr HL.out.rd hs HPL.out).mono ?_;rintro e w4 ⟨rfl,hr4,hg4⟩;have HL4:=ak<|HL.out.moved HRX.out hg4 hr4;have HPLC:=ak HL.out.rd.place;have HPLB:=ak HL.out.rd.wbad1;clear hr4 hg4 HL r2 rl;obtain⟨W5,Zh⟩:∃W5,W5=w4.alloc (.cells #[.string (aC s p),.string ⟨#[]⟩] 216):=⟨_,rfl⟩;have HL5:O (PL w1 W5 R X s xs (p+az s p) false v vA):=by rw[Zh];exact HL4.out.made _
 have HA0:O (W5.cell? ⟨w4.heap.size,0,none⟩=some (.string<|aC s p)):=by show _=_;rw[Zh];simp
 have HA1:O (W5.cell? ⟨w4.heap.size,1,none⟩=some (.string ⟨#[]⟩)):=by show _=_;rw[Zh];simp
 have HAF:O (jV W5 w4.heap.size):=fun j=>by rw[Zh];simp
 have Yq:O (w4.heap.size<W5.heap.size):=by show _<_;rw[Zh];simp
 have HAX:O (X<w4.heap.size):=HL4.out.lt;have HAV:O (vA.ownBlock≠some w4.heap.size):=fun e=>by have:=(HL4.out.own.lt _ e).2;omega
 go_wp2_with fail;rw[<-Zh];clear Zh;obtain⟨A,hA⟩:=eQx w4.heap.size;rw[<-hA]at HA0 HA1 HAF Yq HAX HAV;rw[<-hA];clear hA HL4;refine(nk R s wu (p+az s p) false v W5 HL5.out.rd hs HPW.out cv).mono ?_;rintro e w6 ⟨rfl,YN,hg6⟩;have HAR:O (some A≠some R):=by intro e;injection e with e;have:=HRX.out;have:=HAX.out;omega
 have HB0:=ak<|hg6.cell HA0.out HAR.out;have HB1:=ak<|hg6.cell HA1.out HAR.out;have HBF:=ak<|cz HAF.out<|hg6.block A Yq.out HAR.out;have HBL:=ak<|WJ Yq.out hg6.size;cases hc:nZ s wu (p+az s p) false
 case' false =>
  rw[BJ hc]at YN;have HL6:=ak<|HL5.out.moved HRX.out hg6 YN;have PI:=ak<|Od (o:=st.out) hc;have HPB:=HPW;have HPG:O (p<=p+az s p):=Nat.le_add_right _ _;clear YN hg6 hc HL5 HA0 HA1 HAF Yq;have a0:=HB0.out;have a1:=HB1.out;have k1:=HL6.out.c1;obtain⟨W9,Z4⟩:=eQx<|w6.alloc<|.cells #[.string (aC s p),.string<|(⟨#[]⟩:ByteArray)] 216;have HL9:O (PL w1 W9 R X s xs (p+az s p) false v vA):=by rw[Z4];exact HL6.out.made _
  have YX:O (∀j u,[Value.string (aC s p),.string<|(⟨#[]⟩:ByteArray)][j]?=some u->W9.cell? ((⟨w6.heap.size,0,none⟩:Addr).add j)=some u):=by rw[Z4];exact BN w6 _ _ _<|rfl
  have HSZ9:O (X+1<=W9.heap.size):=HL9.out.lt;have hxs:xs.length<=1000:=by have:=HLN2.out;have:=HPL.out;omega
  go_wp2_with(at_builtin;rw[<-Z4];clear Z4;refine wpList_append_own _ rfl _ _ 40 rfl (X+1) 216 iA (.agg #[.string ⟨#[]⟩,.string ⟨#[]⟩]) 2 32 underlying40 Z0.out.1 Z0.out.2.1 Z0.out.2.2.1 Z0.out.2.2.2 rfl cv vA xs.length (pairs xs) rfl HL9.out.own ⟨w6.heap.size,0,none⟩ 1 1 [Value.string (aC s p),.string<|(⟨#[]⟩:ByteArray)] rfl rfl YX.out (by intro u hu;simp at hu;rcases hu with rfl|rfl<;>rfl) cy cq HSZ9.out ?_);intro vB w10 Zi Y4 _;obtain⟨gB,cB,rfl⟩:=gF Zi;have hX10:some X≠vA.ownBlock:=fun e=>by have:=(HL9.out.own.lt X e.symm).1;omega
  have k10:=Y4.cell HL9.out.c1 hX10;have f10:=cz HL9.out.fr (Y4.block X HL9.out.lt hX10) 1;have l10:=WJ HL9.out.lt Y4.size;have Z5:=ak<|HL9.out.app HRX.out Zv.out ⟨aC s p,(⟨#[]⟩:ByteArray)⟩ Zi Y4;clear Zi Y4 a0 a1 k1 HL9 hX10 YX HSZ9 HL6;obtain⟨P,hP⟩:=eQx<|p+az s p;obtain⟨S2,hS2⟩:∃S2:ByteArray,S2=⟨#[]⟩:=⟨_,rfl⟩;rw[<-hP]at Z5 PI HPB HPG;rw[<-hS2]at Z5 PI;clear hP hS2
 case' true =>
  rw[wO hc]at YN;have HL6:=ak<|HL5.out.moved HRX.out hg6 YN;have PI:=ak<|KV (o:=st.out) hc;have HPH:O (p+az s p+1<=s.size):=BM hc;have HPB:=ak<|lh s _ HPH.out;have HPG:O (p<=p+az s p+1+az s (p+az s p+1)):=by show _<=_;omega
  clear YN hg6 hc HL5 HA0 HA1 HAF Yq;go_wp2_with fail;refine(wP R s (p+az s p+1) false v w6 HL6.out.rd hs HPH.out).mono ?_;rintro e w7 ⟨rfl,hr7,hg7⟩;have HL7:=ak<|HL6.out.moved HRX.out hg7 hr7;have Zb:=ak<|hg7.cell HB0.out HAR.out;have a1:=hg7.cell HB1.out HAR.out;have hcf:=cz HBF.out<|hg7.block A HBL.out HAR.out;have f1:=hcf 1;have hcl:=WJ HBL.out hg7.size;obtain⟨W8,ZZ⟩:=eQx<|w7.setCell ⟨A,1,none⟩<|.string<|aC s<|p+az s p+1;have HL8:O (PL w1 W8 R X s xs (p+az s p+1+az s (p+az s p+1)) false v vA):=by rw[ZZ];exact HL7.out.aset HRX.out Zv.out HAX.out HAV.out _ _
  have HD0:O (W8.cell? ⟨A,0,none⟩=some (.string<|aC s p)):=by show _=_;rw[ZZ,mO cq];exact Zb.out
  have HD1:O (W8.cell? ⟨A,1,none⟩=some (.string<|aC s<|p+az s p+1)):=by show _=_;rw[ZZ];exact mS a1
  clear hr7 hg7 HL6 HB0 HB1 HBF HBL;have a0:=Zb.out;have k1:=HL7.out.c1;have hxa:X≠A:=by have:=HAX.out;omega
  have hax:A≠X:=by have:=HAX.out;omega
  obtain⟨W9,Z4⟩:=eQx<|W8.alloc<|.cells #[.string (aC s p),.string<|aC s<|p+az s p+1] 216;have HL9:O (PL w1 W9 R X s xs (p+az s p+1+az s (p+az s p+1)) false v vA):=by rw[Z4];exact HL8.out.made _
  have YX:O (∀j u,[Value.string (aC s p),.string<|aC s<|p+az s p+1][j]?=some u->W9.cell? ((⟨w7.heap.size,0,none⟩:Addr).add j)=some u):=by rw[Z4];exact BN W8 _ _ _ (by rw[ZZ];simp)
  have HSZ9:O (X+1<=W9.heap.size):=HL9.out.lt;have hxs:xs.length<=1000:=by have:=HLN2.out;have:=HPL.out;omega
  go_wp2_with(at_builtin;rw[<-ZZ];clear ZZ;rw[<-Z4];clear Z4;refine wpList_append_own _ rfl _ _ 40 rfl (X+1) 216 iA (.agg #[.string ⟨#[]⟩,.string ⟨#[]⟩]) 2 32 underlying40 Z0.out.1 Z0.out.2.1 Z0.out.2.2.1 Z0.out.2.2.2 rfl cv vA xs.length (pairs xs) rfl HL9.out.own ⟨w7.heap.size,0,none⟩ 1 1 [Value.string (aC s p),.string<|aC s<|p+az s p+1] rfl rfl YX.out (by intro u hu;simp at hu;rcases hu with rfl|rfl<;>rfl) cy cq HSZ9.out ?_);intro vB w10 Zi Y4 _;obtain⟨gB,cB,rfl⟩:=gF Zi;have hX10:some X≠vA.ownBlock:=fun e=>by have:=(HL9.out.own.lt X e.symm).1;omega
  have k10:=Y4.cell HL9.out.c1 hX10;have f10:=cz HL9.out.fr (Y4.block X HL9.out.lt hX10) 1;have l10:=WJ HL9.out.lt Y4.size;have Z5:=ak<|HL9.out.app HRX.out Zv.out ⟨aC s p,aC s<|p+az s p+1⟩ Zi Y4;clear Zi Y4 a0 a1 k1 HL9 hX10 YX HSZ9 HL8 hxa hax f1 hcl hcf;obtain⟨P,hP⟩:=eQx<|p+az s p+1+az s (p+az s p+1);obtain⟨S2,hS2⟩:∃S2:ByteArray,S2=aC s (p+az s p+1):=⟨_,rfl⟩;rw[<-hP]at Z5 PI HPB HPG;rw[<-hS2]at Z5 PI;clear hP hS2
 all_goals
  go_wp2_with fail;obtain⟨W11,hW11⟩:=eQx<|w10.setCell ⟨X,1,none⟩<|.slice (some ⟨gB,0,none⟩) (xs.length+1) cB;rw[<-hW11]at Z5 ⊢;clear hW11 k10 f10 l10;refine(nk R s fT P false v W11 Z5.out.rd hs HPB.out cv).mono ?_;rintro e w12 ⟨rfl,hr12,hg12⟩;cases hcl:nZ s fT P false;case true=>
   rw[wO hcl]at hr12;have Y9:=ak<|Z5.out.moved HRX.out hg12 hr12;have EQ:=ak<|KS<|HPP.out.symm.trans<|Iw (xs:=xs) (n:=m) PI.out hcl;obtain⟨ad,cap,hva,hnq,hin⟩:=Y9.out.node Zv.out (base:=base)<|WR hB Yu.out.size;injection hva with hva1 hva2 hva3;subst hva1;subst hva3;clear hva2;have HNQ:=ak hnq;have HIN:=ak hin;have k0:=Y9.out.c0;have k1:=Y9.out.c1;have k2:=Y9.out.c2;have k3:=Y9.out.c3;have k4:=Y9.out.c4;have HF:=ak<|Zf.out.over hR Y9.out.onl Y9.out.rd;have HO:=ak<|Yu.out.trans0 Y9.out.onl;clear hr12 hg12 hcl hnq hin Z5 Y9;go_wp2_with fail;have HADD:=N7 R s ⟨P+1,false,st.out⟩ base v qs ⟨⟨1,xs++[⟨aC s p,S2⟩],⟨#[]⟩,⟨#[]⟩,[]⟩,some ⟨gB,0,none⟩,cB,none,0⟩ w12 HF.out hR (WR hB HO.out.size) hn HNQ.out (.inl ⟨rfl,rfl,rfl⟩) (fun g hg=>⟨fun e=>by have:=(Zf.out.own.lt g e).2;have:=HIN.out g hg;have:=Zv.out;omega,fun q' hq' hg'=>by have:=(Zf.out.lie q' hq' g hg').2.1;have:=HIN.out g hg;have:=Zv.out;omega⟩);rw[show(⟨⟨1,xs++[⟨aC s p,S2⟩],⟨#[]⟩,⟨#[]⟩,[]⟩,some ⟨gB,0,none⟩,cB,none,0⟩:ER).val=.agg #[.int .i64 1,.slice (some ⟨gB,0,none⟩) (xs.length+1) cB,.string ⟨#[]⟩,.string ⟨#[]⟩,.slice none 0 0] by simp[ER.val]]at HADD;refine HADD.mono ?_;rintro e w13 ⟨v13,rfl,hF13,hW13⟩;have HF13:=ak hF13;have HW13:=ak<|(HO.out.any v).trans hW13;clear hF13 hW13;go_wp2;exact bodyPost_ret (v:=.int .i64 (st.out.length:Int)) (by simp[results,Tryz.results324,go_sem]) rfl (by rw[EQ.out];exact⟨v13,_,rfl,HF13.out,HW13.out,fun q hq g hg=>by rw[WZ]at hq;subst hq;have:=HIN.out g hg;have:=HX0.out;omega⟩)
  rw[BJ hcl]at hr12;have Y9:=ak<|Z5.out.moved HRX.out hg12 hr12;have HCL:=ak hcl;clear hr12 hg12 hcl Z5;go_wp2_with fail;refine(nk R s mP P false v w12 Y9.out.rd hs HPB.out cv).mono ?_;rintro e w13 ⟨rfl,hr13,hg13⟩;cases hcm:nZ s mP P false;case true=>
   rw[wO hcm]at hr13;have HL13:=ak<|Y9.out.moved HRX.out hg13 hr13;have HQ13:O (P+1<=s.size):=BM hcm;have EQ:=ak<|(Iy (xs:=xs) (n:=m) PI.out HCL.out hcm).symm.trans HPP.out;have HM:O (s.size-wat R w13+wbad R w13<s.size-wat R wr+wbad R wr):=by
    show _<_;rw[HL13.out.rd.wbad1,HPLB.out,show wat R w13=P+1 from HL13.out.rd.place,HPLC.out];have:=HQ13.out;have:=HPG.out;omega
   clear hr13 hg13 hcm Y9;go_wp2;go_roundw;case rel=>exact⟨m,P+1,false,xs++[(⟨aC s p,S2⟩:Al)],.slice (some ⟨gB,0,none⟩) (xs.length+1) cB,HQ13.out,EQ.out,fun _=>⟨by have:=HLN1.out;have:=HPG.out;have:=HQ13.out;omega,by have:=HLN2.out;have:=HPG.out;rw[WP,Xi];omega⟩,HL13.out⟩
   exact HM.out
  rw[BJ hcm]at hr13;have HL13:=ak<|Y9.out.moved HRX.out hg13 hr13;have EQ:=ak<|(Oe (xs:=xs) (n:=m) PI.out HCL.out hcm).symm.trans HPP.out;have c2:=HL13.out.rd.c2;have f2:=HL13.out.rd.fr 2;have hl13:=HL13.out.rd.lt;have HL14:O (PL w1 (w13.setCell ⟨R,2,none⟩<|.bool true) R X s (xs++[⟨aC s p,S2⟩]) P true v<|.slice (some ⟨gB,0,none⟩) (xs.length+1) cB):=HL13.out.moved HRX.out (by have:=Iu w13 R 2 (.bool true) 0;exact this) HL13.out.rd.hurt;have HM:O (s.size-wat R (w13.setCell ⟨R,2,none⟩<|.bool true)+wbad R (w13.setCell ⟨R,2,none⟩<|.bool true)<s.size-wat R wr+wbad R wr):=by
   show _<_;rw[HL14.out.rd.wbad0,HPLB.out,show wat R (w13.setCell ⟨R,2,none⟩<|.bool true)=P from HL14.out.rd.place,HPLC.out];have:=HPG.out;omega
  clear hr13 hg13 hcm Y9 HL13;go_wp2;go_roundw;case rel=>exact⟨m,P,true,xs++[(⟨aC s p,S2⟩:Al)],.slice (some ⟨gB,0,none⟩) (xs.length+1) cB,HPB.out,EQ.out,fun h=>(by cases h),HL14.out⟩
  exact HM.out
def Gd{w a:af}{R:Nat}{ad:Q02}{len cap:Nat}{v0 v1 v2 v3 v4 v5:Value}(h:Rd w R ad len cap)(ho:Only R a w)(hn:a.heap.size≠R)(hf:∀g,a.heap.size<=g->0<len->∀b off,ad=some (aq b off)->b≠g):
  Rd ((((((w.setCell (am a.heap.size) v0).setCell (aq a.heap.size 1) v1).setCell (aq a.heap.size 2) v2).setCell (aq a.heap.size 3) v3).setCell (aq a.heap.size 4) v4).setCell (aq a.heap.size 5) v5) R ad len cap/\Only R a ((((((w.setCell (am a.heap.size) v0).setCell (aq a.heap.size 1) v1).setCell (aq a.heap.size 2) v2).setCell (aq a.heap.size 3) v3).setCell (aq a.heap.size 4) v4).setCell (aq a.heap.size 5) v5):=by
 have F:=hf _<|WK _;have N:=WK a.heap.size;exact⟨(((((h.setFar hn F).setFar hn F).setFar hn F).setFar hn F).setFar hn F).setFar hn F,(((((ho.setNew N).setNew N).setNew N).setNew N).setNew N).setNew N⟩
def yt{p:Prop}(h:p):O p:=h
set_option maxRecDepth 4000 in
def Oh(R:Nat)(ad:Q02)(len cap:Nat)(w:af)(h:Rd w R ad len cap):
    Calls prog 181 #[.pointer (some<|am R)] w fun e w'=>(∃a b r c d s:ByteArray,e=.returned (.agg #[.string a,.string b,.string r,.string c,.string d,.string s])/\a.size<=20/\b.size<=20/\r.size<=20/\c.size<=20/\d.size<=20/\s.size<=20)/\Rd w' R ad len cap/\Only R w w':=by
  have H:=aB h;have hRw:=h.lt;have FAR:O (∀g,w.heap.size<=g->0<len->∀b off,ad=some (aq b off)->b≠g):=fun g hg h0 b off e=>by
    obtain⟨b',off',e',-,hb',-⟩:=h.bytes h0;rw[e]at e';injection e' with e';injection e' with e1 e2;omega
  clear h;go_enter func181,ntmps181;go_wp2_with fail;refine(dx R ad len cap 3 _ ((H.alloc _).alloc _) cq cq).mono ?_;rintro e w1 ⟨⟨x,rfl,hx0,hx1⟩,YD,YL⟩;obtain⟨y,rfl⟩:∃y:Nat,x=(y:Int):=⟨x.toNat,cq⟩;have hSt:=(gH (w.alloc _) R (by simp;omega) (t:=9) (xs:=[⟨#[97]⟩,⟨#[98]⟩,⟨#[99]⟩]) cv).only YL;obtain⟨t1,ht1,hc1⟩:=hSt.2.2 y (by simp;omega);simp only[World.size_alloc]at hc1;have Yu:O (Only R w w1):=(((Only.refl R w).alloc _).alloc _).trans YL;have HN1:O (Vi w1 R w.heap.size):=((Tu hRw _).only<|(Only.refl R _).alloc _).only YL;have HR1:=aB YD;have hl1:=YD.lt;clear YD YL hSt;go_wp2_with fail;refine(dx R ad len cap 3 _ (HR1.alloc _) cq cq).mono ?_;rintro e w2 ⟨⟨x,rfl,hx2,hx3⟩,hR2,hO2⟩;obtain⟨y2,rfl⟩:∃y:Nat,x=(y:Int):=⟨x.toNat,cq⟩;have hSt:=(gH w1 R hl1 (t:=9) (xs:=[⟨#[120]⟩,⟨#[121]⟩,⟨#[122]⟩]) cv).only hO2;obtain⟨t2,ht2,hc2⟩:=hSt.2.2 y2 (by simp;omega);have Yk:O (Only R w w2):=(Yu.alloc _).trans hO2;have HN2:O (Vi w2 R w.heap.size):=(HN1.only<|(Only.refl R _).alloc _).only hO2;have HR2:=aB hR2;have hl2:=hR2.lt;clear hR2 hO2 hSt hc1 Yu HN1 HR1;go_wp2_with fail;refine(dx R ad len cap 2 _ ((HR2.alloc _).alloc _) cq cq).mono ?_;rintro e w3 ⟨⟨x,rfl,hx4,hx5⟩,hR3,hO3⟩;obtain⟨y3,rfl⟩:∃y:Nat,x=(y:Int):=⟨x.toNat,cq⟩;have hSt:=(gH (w2.alloc _) R (by simp;omega) (t:=9) (xs:=[⟨#[103]⟩,⟨#[104]⟩]) cv).only hO3;obtain⟨t3,ht3,hc3⟩:=hSt.2.2 y3 (by simp;omega);simp only[World.size_alloc]at hc3;have YK:O (Only R w w3):=((Yk.alloc _).alloc _).trans hO3;have HN3:O (Vi w3 R w.heap.size):=(HN2.only<|((Only.refl R _).alloc _).alloc _).only hO3;have HU3:O (Ob w3 R w2.heap.size ⟨#[117,115,101,114]⟩ t2):=((FU hl2 27 _ _).alloc _).only hO3;have HR3:=aB hR3;have hl3:=hR3.lt;clear hR3 hO3 hSt hc2 Yk HN2 HR2;go_wp2_with fail;refine(dx R ad len cap 11 _ (((HR3.alloc _).alloc _).alloc _) cq cq).mono ?_;rintro e w4 ⟨⟨x,rfl,hx6,hx7⟩,ZI,hO4⟩;obtain⟨y4,rfl⟩:∃y:Nat,x=(y:Int):=⟨x.toNat,cq⟩;have YG:O (Only R w w4):=(((YK.alloc _).alloc _).alloc _).trans hO4;have HR4:=aB ZI;obtain⟨hnR,hnl,hnf,hnc⟩:=(HN3.only<|(((Only.refl R _).alloc _).alloc _).alloc _).only hO4;obtain⟨huR,hul,hu0,hu1⟩:=(((HU3.alloc _).alloc _).alloc _).only hO4;obtain⟨hgR,hgl,hg0,hg1⟩:=(((FU hl3 27 ⟨#[103,114,111,117,112]⟩ t3).alloc _).alloc _).only hO4;obtain⟨hdR,hdl,hd0,hd1⟩:=((FU (w:=w3.alloc _) (R:=R) (by simp;omega) 27 ⟨#[100,111,99]⟩ t1).alloc _).only hO4;obtain⟨hiR,hil,hi0,hi1⟩:=(FU (w:=(w3.alloc _).alloc _) (R:=R) (by simp;omega) 27 ⟨#[100,105,114]⟩ ⟨#[100]⟩).only hO4;simp only[World.size_alloc]at hdR hdl hd0 hd1 hiR hil hi0 hi1;have n0:=hnc 0 cq;have n1:=hnc 1 cq;have n2:=hnc 2 cq;have n3:=hnc 3 cq;have n4:=hnc 4 cq;have n5:=hnc 5 cq;clear hnc ZI hO4 hc3 YK HN3 HR3 HU3 hx0 hx1 hx2 hx3 hx4 hx5 hx6;have hy:(y4=1\/y4=2\/y4=8)\/y4=0\/y4=3\/y4=4\/y4=5\/y4=6\/y4=7\/y4=9\/y4=10:=cq
  clear hx7;rcases hy with hy|rfl|rfl|rfl|rfl|rfl|rfl|rfl|rfl
  · rcases hy with rfl|rfl|rfl
    case' inl =>
      have HA:=And.intro hgR<|And.intro hgl<|And.intro hg0 hg1;have HB:=yt fun w h=>dx R ad len cap 2 w h cq cq;have HN:=yt fun w h=>gH w R h (t:=9) (xs:=[⟨#[103]⟩,⟨#[104]⟩]) cv;have m1:=trivial;go_wp2_with fail;refine bC 8 _ _ (fun k v w'=>Kd.ok R w' v<|zQ [.eq (Value.agg #[.string ⟨#[103,114,111,117,112]⟩,.string t3]),.strs 2,.eq<|Value.pointer<|some<|am R,.idx 2,.elt 2,.str,.obj,.tup] k) (fun w'=>Rd w' R ad len cap/\Only R w w'/\Only R w4 w') cw rfl cw cw (vQ [(52,[0,1,2,3,4,5,6,7])]) ⟨HR4.below (WL _ _).drew,YG.drewN 1,(Only.refl _ _).drewN 1⟩ ?_ ?_<;>dsimp only[uI]
    case' inr.inl =>
      have HA:=And.intro hdR<|And.intro hdl<|And.intro hd0 hd1;have HB:=yt fun w h=>dx R ad len cap 3 w h cq cq;have HN:=yt fun w h=>gH w R h (t:=9) (xs:=[⟨#[97]⟩,⟨#[98]⟩,⟨#[99]⟩]) cv;have m2:=trivial;go_wp2_with fail;refine bC 8 _ _ (fun k v w'=>Kd.ok R w' v<|zQ [.eq (Value.agg #[.string ⟨#[100,111,99]⟩,.string t1]),.strs 3,.eq<|Value.pointer<|some<|am R,.idx 3,.elt 3,.str,.obj,.tup] k) (fun w'=>Rd w' R ad len cap/\Only R w w'/\Only R w4 w') cw rfl cw cw (vQ [(62,[0,1,2,3,4,5,6,7])]) ⟨HR4.below (WL _ _).drew,YG.drewN 1,(Only.refl _ _).drewN 1⟩ ?_ ?_<;>dsimp only[uI]
    case' inr.inr =>
      have HA:=And.intro hiR<|And.intro hil<|And.intro hi0 hi1;have HB:=yt fun w h=>dx R ad len cap 2 w h cq cq;have HN:=yt fun w h=>gH w R h (t:=9) (xs:=[⟨#[115,101,101]⟩,⟨#[111,119,110,101,114]⟩]) cv;have m8:=trivial;go_wp2_with fail;refine bC 8 _ _ (fun k v w'=>Kd.ok R w' v<|zQ [.eq (Value.agg #[.string ⟨#[100,105,114]⟩,.string ⟨#[100]⟩]),.strs 2,.eq<|Value.pointer<|some<|am R,.idx 2,.elt 2,.str,.eq<|Value.agg #[.string ⟨#[117,115,101,114]⟩,.string t2],.tup] k) (fun w'=>Rd w' R ad len cap/\Only R w w'/\Only R w4 w') cw rfl cw cw (vQ [(37,[0,1,2,3,4,5,6,7])]) ⟨HR4.below (WL _ _).drew,YG.drewN 1,(Only.refl _ _).drewN 1⟩ ?_ ?_<;>dsimp only[uI]
    iterate 3
      · rintro i hi o ho f w' ⟨hR',Yt,YI⟩ hpre;have HR:=aB hR';have HO:=aB Yt;have HP:=aB YI;have hRl:cU R w':=hR'.lt;have HM:O (∀e∈o.after,Region.binds .any e=true->_):=hpre;clear hR' Yt YI hpre n0 n1 n2 n3 n4 n5 hnf;obtain⟨haR,hal,ha0,ha1⟩:=HA;have KAL:O (∀ob:Obj,Only R w'<|w'.alloc ob):=fun ob=>(Only.refl R w').alloc ob;have hc:=Wx (i:=i) cq;clear hi
        repeat' rcases hc with rfl|hc
        · cases ho;have c0:=(HP.cell (o:=0) hal haR).trans ha0;have c1:=(HP.cell (o:=1) hal haR).trans ha1;refine aa rfl fun K HK=>?_;clear HM;dsimp only;go_simp;exact HK _ _ ⟨_,by simp[upd],⟨HR,HO,HP⟩,rfl,fun k u hu=>hu⟩
        · cases ho;refine aa rfl fun K HK=>?_;clear HM;dsimp only;go_simp;exact HK _ _ ⟨_,by simp[upd],⟨HR.alloc _,HO.alloc _,HP.alloc _⟩,⟨_,rfl,HN w' hRl⟩,fun k u hu=>Kd.only (KAL _) _ hu⟩
        · cases ho;refine aa rfl fun K HK=>?_;clear HM;dsimp only;go_simp;exact HK _ _ ⟨Value.pointer<|some ⟨R,0,none⟩,by simp[upd],⟨HR,HO,HP⟩,rfl,fun k u hu=>hu⟩
        · cases ho;have e1:f 2=Value.pointer (some<|am R):=HM ⟨2,.data⟩ ct rfl;refine aa rfl fun K HK=>?_;clear HM;simp only[e1];go_simp;refine(HB _ HR).mono ?_;rintro e w5 ⟨⟨x,rfl,hx0,hx1⟩,Ym,YA⟩;obtain⟨x,rfl⟩:∃y:Nat,x=(y:Int):=⟨x.toNat,cq⟩;have Yz:=aB Ym;have Yi:=aB YA;clear Ym YA;go_wp2_with fail;exact HK _ _ ⟨.int .i64 (x:Int),by simp[upd,e1],⟨Yz,HO.trans Yi,HP.trans Yi⟩,⟨x,rfl,cq⟩,fun k u hu=>Kd.only Yi _ hu⟩
        · cases ho;obtain⟨g,e1,hS⟩:=HM ⟨1,.data⟩ ct rfl;obtain⟨x,e2,hx⟩:=HM ⟨3,.data⟩ ct rfl;replace e1:f 1=_:=e1;replace e2:f 3=_:=e2;have HS:O _:=hS;clear hS;have hx0:=bY x
          first|have hx1:(x:Int)<2:=by omega|have hx1:(x:Int)<3:=cq
          refine aa rfl fun K HK=>?_;clear HM;simp only[e1,e2];go_simp;exact HK _ _ ⟨.pointer<|some ⟨g,x,none⟩,by simp[upd,e1,e2],⟨HR,HO,HP⟩,⟨g,x,rfl,hx,HS⟩,fun k u hu=>hu⟩
        · cases ho;obtain⟨g,x,e1,hx,hS⟩:=HM ⟨4,.data⟩ ct rfl;replace e1:f 4=_:=e1;obtain⟨t,ht,hcell⟩:=hS.2.2 x hx;clear hS;refine aa rfl fun K HK=>?_;clear HM;simp only[e1];go_simp;exact HK _ _ ⟨.string t,by simp[upd,e1],⟨HR,HO,HP⟩,⟨t,rfl,ht⟩,fun k u hu=>hu⟩
        · cases ho
          first
            | (clear m8
               have c0:=(HP.cell (o:=0) hul huR).trans hu0;have c1:=(HP.cell (o:=1) hul huR).trans hu1;refine aa rfl fun K HK=>?_;clear HM;dsimp only;go_simp;exact HK _ _ ⟨Value.agg #[.string ⟨#[117,115,101,114]⟩,.string t2],by simp[upd],⟨HR,HO,HP⟩,rfl,fun k u hu=>hu⟩)
            | (obtain ⟨t,e1,ht⟩:=HM ⟨5,.data⟩ ct rfl
               replace e1:f 5=_:=e1;refine aa rfl fun K HK=>?_;clear HM;simp only[e1];go_simp
               first
                 | clear m1;exact HK _ _ ⟨.agg #[.string ⟨#[103,114,111,117,112]⟩,.string t],by simp[upd,e1],⟨HR,HO,HP⟩,⟨_,_,rfl,cv,ht⟩,fun k u hu=>hu⟩
                 | exact HK _ _ ⟨.agg #[.string ⟨#[100,111,99]⟩,.string t],by simp[upd,e1],⟨HR,HO,HP⟩,⟨_,_,rfl,cv,ht⟩,fun k u hu=>hu⟩)
        · cases ho
          first
            | (clear m1
               have ep:f 0=Value.agg #[.string ⟨#[103,114,111,117,112]⟩,.string t3]:=HM ⟨0,.data⟩ ct rfl;obtain⟨qa,qb,eq,hqa,hqb⟩:=HM ⟨6,.data⟩ ct rfl;replace eq:f 6=_:=eq;refine aa rfl fun K HK=>?_;clear HM;simp only[ep,eq];go_simp;exact HK _ _ ⟨.agg #[.string ⟨#[103,114,111,117,112]⟩,.string t3,.string ⟨#[109,101,109,98,101,114]⟩,.string qa,.string qb,.string ⟨#[109,101,109,98,101,114]⟩],by simp[upd,ep,eq],⟨HR,HO,HP⟩,⟨_,_,_,_,_,_,rfl,cv,ht3,cv,hqa,hqb,cv⟩,fun k u hu=>hu⟩)
            | (clear m2
               have ep:f 0=Value.agg #[.string ⟨#[100,111,99]⟩,.string t1]:=HM ⟨0,.data⟩ ct rfl;obtain⟨qa,qb,eq,hqa,hqb⟩:=HM ⟨6,.data⟩ ct rfl;replace eq:f 6=_:=eq;refine aa rfl fun K HK=>?_;clear HM;simp only[ep,eq];go_simp;exact HK _ _ ⟨.agg #[.string ⟨#[100,111,99]⟩,.string t1,.string ⟨#[112,97,114,101,110,116]⟩,.string qa,.string qb,.string ⟨#[]⟩],by simp[upd,ep,eq],⟨HR,HO,HP⟩,⟨_,_,_,_,_,_,rfl,cv,ht1,cv,hqa,hqb,cv⟩,fun k u hu=>hu⟩)
            | (clear m8
               have ep:f 0=Value.agg #[.string ⟨#[100,105,114]⟩,.string ⟨#[100]⟩]:=HM ⟨0,.data⟩ ct rfl;obtain⟨t,e1,ht⟩:=HM ⟨5,.data⟩ ct rfl;replace e1:f 5=_:=e1;have eq:f 6=Value.agg #[.string ⟨#[117,115,101,114]⟩,.string t2]:=HM ⟨6,.data⟩ ct rfl;refine aa rfl fun K HK=>?_;clear HM;simp only[ep,e1,eq];go_simp;exact HK _ _ ⟨.agg #[.string ⟨#[100,105,114]⟩,.string ⟨#[100]⟩,.string t,.string ⟨#[117,115,101,114]⟩,.string t2,.string ⟨#[]⟩],by simp[upd,ep,e1,eq],⟨HR,HO,HP⟩,⟨_,_,_,_,_,_,rfl,cv,cv,ht,cv,ht2,cv⟩,fun k u hu=>hu⟩)
      · rintro o ho f w' ⟨hR',Yt,YI⟩ hall;have HR:=aB hR';have HO:=aB Yt;obtain⟨pa,pb,pr,pc,pd,ps,e1,ha,hb,hr,hc,hd,hs⟩:=hall 7 cq;replace e1:f 7=_:=e1;replace n0:=(YI.cell (o:=0) hnl hnR).trans n0;replace n1:=(YI.cell (o:=1) hnl hnR).trans n1;replace n2:=(YI.cell (o:=2) hnl hnR).trans n2;replace n3:=(YI.cell (o:=3) hnl hnR).trans n3;replace n4:=(YI.cell (o:=4) hnl hnR).trans n4;replace n5:=(YI.cell (o:=5) hnl hnR).trans n5;replace hnf:=fun o=>(YI.frozen (o:=o) hnl hnR).trans<|hnf o;clear hR' Yt YI hall hu0 hu1 hg0 hg1 hd0 hd1 hi0 hi1;cases ho;refine wpOp_step rfl (fun K hK=>?_);have HK:O (∀a w,_->K a w):=hK;clear hK;simp only[e1];go_simp;refine HK _ _ ?_;clear HK;go_wp2;exact bodyPost_ret (v:=.agg<|cX pa pb pr pc pd ps) (by simp[results,Tryz.results181,go_sem, *]) rfl ⟨⟨_,_,_,_,_,_,rfl,ha,hb,hr,hc,hd,hs⟩,Gd HR HO hnR FAR⟩
  · go_wp2;exact bodyPost_ret (v:=.agg #[.string ⟨#[103,114,111,117,112]⟩,.string t3,.string ⟨#[109,101,109,98,101,114]⟩,.string ⟨#[117,115,101,114]⟩,.string t2,.string ⟨#[]⟩]) (by simp[results,Tryz.results181,go_sem, *]) rfl ⟨⟨_,_,_,_,_,_,rfl,cv,ht3,cv,cv,ht2,cv⟩,Gd HR4 YG hnR FAR⟩
  · go_wp2;exact bodyPost_ret (v:=.agg #[.string ⟨#[100,111,99]⟩,.string t1,.string ⟨#[101,100,105,116,111,114]⟩,.string ⟨#[117,115,101,114]⟩,.string t2,.string ⟨#[]⟩]) (by simp[results,Tryz.results181,go_sem, *]) rfl ⟨⟨_,_,_,_,_,_,rfl,cv,ht1,cv,cv,ht2,cv⟩,Gd HR4 YG hnR FAR⟩
  · go_wp2;exact bodyPost_ret (v:=.agg #[.string ⟨#[100,111,99]⟩,.string t1,.string ⟨#[118,105,101,119,101,114]⟩,.string ⟨#[103,114,111,117,112]⟩,.string t3,.string ⟨#[109,101,109,98,101,114]⟩]) (by simp[results,Tryz.results181,go_sem, *]) rfl ⟨⟨_,_,_,_,_,_,rfl,cv,ht1,cv,cv,ht3,cv⟩,Gd HR4 YG hnR FAR⟩
  · go_wp2;exact bodyPost_ret (v:=.agg #[.string ⟨#[100,111,99]⟩,.string t1,.string ⟨#[98,97,110,110,101,100]⟩,.string ⟨#[117,115,101,114]⟩,.string t2,.string ⟨#[]⟩]) (by simp[results,Tryz.results181,go_sem, *]) rfl ⟨⟨_,_,_,_,_,_,rfl,cv,ht1,cv,cv,ht2,cv⟩,Gd HR4 YG hnR FAR⟩
  · go_wp2_with fail;refine bC 10 _ _ (fun k v w'=>Kd.ok R w' v<|zQ [.eq (Value.pointer<|some<|am R),.obj,.strs 3,.eq<|Value.pointer<|some<|am R,.idx 3,.elt 3,.str,.eq<|Value.pointer<|some<|am R,.obj,.tup] k) (fun w'=>Rd w' R ad len cap/\Only R w w'/\Only R w4 w') cw rfl cw cw (vQ [(87,[0,1,2,3,4,5,6,7,8,9])]) ⟨HR4.below (WL _ _).drew,YG.drewN 1,(Only.refl _ _).drewN 1⟩ ?step ?fin<;>dsimp only[uI];case step =>
      rintro i hi o ho f w' ⟨hR',Yt,YI⟩ hpre;have HR:=aB hR';have HO:=aB Yt;have HP:=aB YI;have hRl:cU R w':=hR'.lt;have HM:O (∀e∈o.after,Region.binds .any e=true->_):=hpre;clear hR' Yt YI hpre n0 n1 n2 n3 n4 n5 hnf;have hc:=Mv (i:=i) cq;clear hi
      repeat' rcases hc with rfl|hc
      · cases ho;refine aa rfl fun K HK=>?_;clear HM;dsimp only;go_simp;exact HK _ _ ⟨Value.pointer<|some ⟨R,0,none⟩,by simp[upd],⟨HR,HO,HP⟩,rfl,fun k u hu=>hu⟩
      · cases ho;have e1:f 0=Value.pointer (some<|am R):=HM ⟨0,.data⟩ ct rfl;refine aa rfl fun K HK=>?_;clear HM;simp only[e1];go_simp;refine(Bn R ad len cap _ HR).mono ?_;rintro e w5 ⟨⟨xa,xb,rfl,hxa,hxb⟩,Ym,YA⟩;have Yz:=aB Ym;have Yi:=aB YA;clear Ym YA;go_wp2_with fail;exact HK _ _ ⟨.agg #[.string xa,.string xb],by simp[upd,e1],⟨Yz,HO.trans Yi,HP.trans Yi⟩,⟨xa,xb,rfl,hxa,hxb⟩,fun k u hu=>Kd.only Yi _ hu⟩
      · cases ho;have k1:Only R w' (w'.alloc<|.cells #[.string ⟨#[118,105,101,119,101,114]⟩,.string ⟨#[109,101,109,98,101,114]⟩,.string ⟨#[112,97,114,101,110,116]⟩] 9):=(Only.refl R w').alloc _;have K1:=aB k1;clear k1;refine aa rfl fun K HK=>?_;clear HM;dsimp only;go_simp;exact HK _ _ ⟨.slice (some ⟨w'.heap.size,0,none⟩) 3 3,by simp[upd],⟨HR.alloc _,HO.alloc _,HP.alloc _⟩,⟨_,rfl,gH w' R hRl (xs:=[_,_,_]) cv⟩,fun k u hu=>Kd.only K1 _ hu⟩
      · cases ho;refine aa rfl fun K HK=>?_;clear HM;dsimp only;go_simp;exact HK _ _ ⟨Value.pointer<|some ⟨R,0,none⟩,by simp[upd],⟨HR,HO,HP⟩,rfl,fun k u hu=>hu⟩
      · cases ho;have e1:f 3=Value.pointer (some<|am R):=HM ⟨3,.data⟩ ct rfl;refine aa rfl fun K HK=>?_;clear HM;simp only[e1];go_simp;refine(dx R ad len cap 3 _ HR cq cq).mono ?_;rintro e w5 ⟨⟨x,rfl,hx0,hx1⟩,Ym,YA⟩;obtain⟨x,rfl⟩:∃y:Nat,x=(y:Int):=⟨x.toNat,cq⟩;have Yz:=aB Ym;have Yi:=aB YA;clear Ym YA;go_wp2_with fail;exact HK _ _ ⟨.int .i64 (x:Int),by simp[upd,e1],⟨Yz,HO.trans Yi,HP.trans Yi⟩,⟨x,rfl,cq⟩,fun k u hu=>Kd.only Yi _ hu⟩
      · cases ho;obtain⟨g,e1,hS⟩:=HM ⟨2,.data⟩ ct rfl;obtain⟨x,e2,hx⟩:=HM ⟨4,.data⟩ ct rfl;replace e1:f 2=_:=e1;replace e2:f 4=_:=e2;have HS:=aB hS;clear hS;have hx0:=bY x;have hx1:(x:Int)<3:=cq
        refine aa rfl fun K HK=>?_;clear HM;simp only[e1,e2];go_simp;exact HK _ _ ⟨.pointer<|some ⟨g,x,none⟩,by simp[upd,e1,e2],⟨HR,HO,HP⟩,⟨g,x,rfl,hx,HS⟩,fun k u hu=>hu⟩
      · cases ho;obtain⟨g,x,e1,hx,hS⟩:=HM ⟨5,.data⟩ ct rfl;replace e1:f 5=_:=e1;obtain⟨t,ht,hcell⟩:=hS.2.2 x hx;clear hS;refine aa rfl fun K HK=>?_;clear HM;simp only[e1];go_simp;exact HK _ _ ⟨.string t,by simp[upd,e1],⟨HR,HO,HP⟩,⟨t,rfl,ht⟩,fun k u hu=>hu⟩
      · cases ho;refine aa rfl fun K HK=>?_;clear HM;dsimp only;go_simp;exact HK _ _ ⟨Value.pointer<|some ⟨R,0,none⟩,by simp[upd],⟨HR,HO,HP⟩,rfl,fun k u hu=>hu⟩
      · cases ho;have e1:f 7=Value.pointer (some<|am R):=HM ⟨7,.data⟩ ct rfl;refine aa rfl fun K HK=>?_;clear HM;simp only[e1];go_simp;refine(Bn R ad len cap _ HR).mono ?_;rintro e w5 ⟨⟨xa,xb,rfl,hxa,hxb⟩,Ym,YA⟩;have Yz:=aB Ym;have Yi:=aB YA;clear Ym YA;go_wp2_with fail;exact HK _ _ ⟨.agg #[.string xa,.string xb],by simp[upd,e1],⟨Yz,HO.trans Yi,HP.trans Yi⟩,⟨xa,xb,rfl,hxa,hxb⟩,fun k u hu=>Kd.only Yi _ hu⟩
      · cases ho;obtain⟨pa,pb,ep,hpa,hpb⟩:=HM ⟨1,.data⟩ ct rfl;replace ep:f 1=_:=ep;obtain⟨t,e1,ht⟩:=HM ⟨6,.data⟩ ct rfl;replace e1:f 6=_:=e1;obtain⟨qa,qb,eq,hqa,hqb⟩:=HM ⟨8,.data⟩ ct rfl;replace eq:f 8=_:=eq;refine aa rfl fun K HK=>?_;clear HM;simp only[ep,e1,eq];go_simp;exact HK _ _ ⟨.agg #[.string pa,.string pb,.string t,.string qa,.string qb,.string ⟨#[]⟩],by simp[upd,ep,e1,eq],⟨HR,HO,HP⟩,⟨_,_,_,_,_,_,rfl,hpa,hpb,ht,hqa,hqb,cv⟩,fun k u hu=>hu⟩
    case fin =>
      rintro o ho f w' ⟨hR',Yt,YI⟩ hall;have HR:=aB hR';have HO:=aB Yt;obtain⟨pa,pb,pr,pc,pd,ps,e1,ha,hb,hr,hc,hd,hs⟩:=hall 9 cq;replace e1:f 9=_:=e1;replace n0:=(YI.cell (o:=0) hnl hnR).trans n0;replace n1:=(YI.cell (o:=1) hnl hnR).trans n1;replace n2:=(YI.cell (o:=2) hnl hnR).trans n2;replace n3:=(YI.cell (o:=3) hnl hnR).trans n3;replace n4:=(YI.cell (o:=4) hnl hnR).trans n4;replace n5:=(YI.cell (o:=5) hnl hnR).trans n5;replace hnf:=fun o=>(YI.frozen (o:=o) hnl hnR).trans<|hnf o;clear hR' Yt YI hall hu0 hu1 hg0 hg1 hd0 hd1 hi0 hi1;cases ho;refine wpOp_step rfl (fun K hK=>?_);have HK:O (∀a w,_->K a w):=hK;clear hK;simp only[e1];go_simp;refine HK _ _ ?_;clear HK;go_wp2;exact bodyPost_ret (v:=.agg<|cX pa pb pr pc pd ps) (by simp[results,Tryz.results181,go_sem, *]) rfl ⟨⟨_,_,_,_,_,_,rfl,ha,hb,hr,hc,hd,hs⟩,Gd HR HO hnR FAR⟩
  · go_wp2;exact bodyPost_ret (v:=.agg #[.string ⟨#[100,111,99]⟩,.string t1,.string ⟨#[112,97,114,101,110,116]⟩,.string ⟨#[100,105,114]⟩,.string ⟨#[100]⟩,.string ⟨#[]⟩]) (by simp[results,Tryz.results181,go_sem, *]) rfl ⟨⟨_,_,_,_,_,_,rfl,cv,ht1,cv,cv,cv,cv⟩,Gd HR4 YG hnR FAR⟩
  · go_wp2;exact bodyPost_ret (v:=.agg #[.string ⟨#[100,111,99]⟩,.string t1,.string ⟨#[118,105,101,119,101,114]⟩,.string ⟨#[117,115,101,114]⟩,.string t2,.string ⟨#[]⟩]) (by simp[results,Tryz.results181,go_sem, *]) rfl ⟨⟨_,_,_,_,_,_,rfl,cv,ht1,cv,cv,ht2,cv⟩,Gd HR4 YG hnR FAR⟩
  · go_wp2;exact bodyPost_ret (v:=.agg #[.string ⟨#[100,111,99]⟩,.string t1,.string ⟨#[118,105,101,119,101,114]⟩,.string ⟨#[117,115,101,114]⟩,.string t2,.string ⟨#[]⟩]) (by simp[results,Tryz.results181,go_sem, *]) rfl ⟨⟨_,_,_,_,_,_,rfl,cv,ht1,cv,cv,ht2,cv⟩,Gd HR4 YG hnR FAR⟩
open Maps
def zu(b:Bool):Int:=if b then 1 else 0
def BO(ts:Q0b)(t r:ByteArray)(ng:Bool)(e:Ex):List (Ky×St):=(jO ts t e).map fun a=>((a.t,a.s),⟨t,r,zu ng⟩)
def relE(ts:Q0b)(t r:ByteArray)(es:Q09):Nat->List (Ky×St)
 | 0=>[]
 | i+1=>relE ts t r es i++(match es[i]? with|none=>[]|some e=>BO ts t r ((dH es).getD i false) e)
def jQ(ts:Q0b)(t:ByteArray)(qs:Q07):List (Ky×St):=qs.flatMap fun q=>relE ts t q.name (ai q.rows) q.rows.length
def jR(ts:Q0b)(rs:Q06):List (Ky×St):=rs.flatMap fun t=>jQ ts t.name t.rows
def KW(ts:Q0b)(t:bN)(qs:Q07)(j:Nat)(h:j<qs.length):jQ ts t (qs.take<|j+1)=jQ ts t (qs.take j)++relE ts t qs[j].name (ai qs[j].rows) qs[j].rows.length:=by
 unfold jQ;rw[WN h,XP,List.flatMap_singleton]
def KX(ts:Q0b)(rs:Q06)(k:Nat)(h:k<rs.length):jR ts (rs.take<|k+1)=jR ts (rs.take k)++jQ ts rs[k].name rs[k].rows:=by
 unfold jR;rw[WN h,XP,List.flatMap_singleton]
def Ez(ts:Q0b)(t r:bN)(rows:Q08)(i:Nat)(h:i<rows.length)(ng:Bool)(hn:ng=(dH<|ai rows).getD i false):relE ts t r (ai rows) (i+1)=relE ts t r (ai rows) i++BO ts t r ng rows[i].e:=by
 have e:(ai rows)[i]?=some rows[i].e:=by simp[ai,h]
 simp only[relE,e,hn]
def ED(rs:Q06)(hl:∀r∈rs,∀q∈r.rows,∀e∈q.rows,e.e.allow.length<=6)(typ:bN)(e:Ex)(he:e.allow.length<=6):(jO (ae rs) typ e).length<=6:=by
 unfold jO;split
 ·exact WR (En _) he
 split
 ·simp
 split
 ·rw[Xv];unfold gX;split
  ·refine WR (Bd _ _ _ _) ?_;unfold aj;cases h:fB (ae rs) typ e.over with
   | none=>simp[aQ]
   | some es =>
    obtain⟨t,ht,q,hq,-,-,rfl⟩:=rJ h;have h1:=hl t ht q hq;have:∀(xs:Q08),(∀q∈xs,q.e.allow.length<=6)->(aQ<|ai xs).length<=6:=by
     intro xs
     induction xs with
     | nil=>intro _;simp[ai,aQ]
     | cons x xs ih =>
      intro h;have e4:ai (x::xs)=x.e::ai xs:=rfl;rw[e4];simp only[aQ];split
      ·exact h x ct
      exact ih (fun q hq=>h q<|by simp[hq])
    exact this q.rows h1
  simp
 simp
def KY(rs:Q06)(hf:∀r∈rs,r.fits)(typ:bN)(ht:typ.size<=maxLen)(e:Ex)(he:e.fits):∀a∈jO (ae rs) typ e,a.t.size<=maxLen/\a.s.size<=maxLen:=by
 have hA:∀(xs:Q0a),(∀a∈xs,a.fits)->∀a∈dQ xs,a.t.size<=maxLen/\a.s.size<=maxLen:=by
  intro xs
  induction xs with
  | nil=>intro _ a ha;cases ha
  | cons b xs ih =>
   intro h a ha;simp only[dQ]at ha;split at ha
   ·exact ih (fun q hq=>h q<|by simp[hq]) a ha
   rcases Xc.1 ha with rfl|ha
   ·exact h a ct
   exact ih (fun q hq=>h q<|by simp[hq]) a ha
 have hG:∀(xs:Q0a) (rel:ByteArray),(∀a∈xs,a.fits)->∀g∈gl (ae rs) rel xs,g.size<=maxLen:=by
  intro xs rel
  induction xs with
  | nil=>intro _ a ha;cases ha
  | cons b xs ih =>
   intro h a ha;simp only[gl]at ha;split at ha
   ·exact ih (fun q hq=>h q<|by simp[hq]) a ha
   rcases Xc.1 ha with rfl|ha
   ·exact(h b ct).1
   exact ih (fun q hq=>h q<|by simp[hq]) a ha
 unfold jO;split
 ·exact hA _ he.1
 split
 ·intro a ha;simp at ha;subst ha;exact⟨ht,he.2.2.1⟩
 split
 ·intro a ha;obtain⟨g,hg,rfl⟩:=WV.1 ha;refine⟨?_,he.2.2.1⟩;unfold gX at hg;split at hg
  ·unfold iN at hg;refine hG _ _ ?_ g hg;unfold aj;cases e3:fB (ae rs) typ e.over with
   | none=>intro a ha;simp[aQ]at ha
   | some es =>
    obtain⟨t,ht',q,hq,-,-,rfl⟩:=rJ e3;have hq2:=((hf t ht').2.2 q hq).2.2;intro a ha;have:∀(xs:Q08),(∀q∈xs,q.e.fits)->∀a∈aQ (ai xs),a.fits:=by
     intro xs
     induction xs with
     | nil=>intro _ a ha;simp[ai,aQ]at ha
     | cons x xs ih =>
      intro h a ha;have e4:ai (x::xs)=x.e::ai xs:=rfl;rw[e4]at ha;simp only[aQ]at ha;split at ha
      ·exact(h x ct).1 a ha
      exact ih (fun q hq=>h q<|by simp[hq]) a ha
    exact this q.rows hq2 a ha
  cases hg
 intro a ha;cases ha
def TD:(prog.info? 337).map (fun i=>(i.zero,i.size,i.bytes))=some (some<|.agg #[.string ⟨#[]⟩,.string ⟨#[]⟩,.int .i64 0],3,40):=cw
def KZ(u:af):(zeroValue 335).run prog u=.ok (.slice none 0 0) u:=cw
def wS{w:af}{bL n:Nat}{M:Ky->Option Value}{E:List<|Ky×St}(h:Grp w bL n M E)(y:Ky):w.ownsRow (bL+1) 337 3 ((M y).getD<|.slice none 0 0) (lookL E y).length (ji<|lookL E y):=by
 rcases h.row y with⟨e,e2⟩|⟨v,e,ho⟩
 ·rw[e,e2];exact World.ownsRow_nil _ _ _ _
 rw[e];exact ho
def Q3{w:af}{bL n:Nat}{M:Ky->Option Value}{E:List<|Ky×St}(h:Grp w bL n M E)(y:Ky):some bL≠((M y).getD<|.slice none 0 0).ownBlock:=by
 cases e:M y with
 | none=>simp[Value.ownBlock]
 | some v=>intro e2;have:=(h.lt e (g:=bL)<|by simpa using e2.symm).1;omega
def EE(E:List<|Ky×St)(y:Ky):(lookL E y).length<=E.length:=XV _ _
set_option maxRecDepth 100000 in
def Dt(ad:Q02)(cap:Nat)(rs:Q06)(bT nT:Nat)(T:Ky->Option Value)(w:af)(hlen:rs.length<=6)(hs:jX w ad rs)(hl:∀r∈rs,r.light)(hf:∀r∈rs,r.fits)(hrl:∀r∈rs,r.rows.length<=6)(hel:∀r∈rs,∀q∈r.rows,q.rows.length<=15/\∀e∈q.rows,fF q.rows.length e.e.kids)(hal6:∀r∈rs,∀q∈r.rows,∀e∈q.rows,e.e.allow.length<=6)(hV:aN dE prog 146 w bT nT T)(hT:Tab rs T):
  Calls prog 187 #[.slice ad rs.length cap,.map<|some bT] w fun e w'=>e=.returned (.map<|some w.heap.size)/\(∃n M,Grp w' w.heap.size n M<|jR (ae rs) rs)/\ag w w':=by
 have HS:=aB hs;have HL:=aB hl;have Yc:=aB hf;have HRL:O (∀r∈rs,r.rows.length<=6):=hrl;have ZC:O (∀r∈rs,∀q∈r.rows,q.rows.length<=15/\∀e∈q.rows,fF q.rows.length e.e.kids):=hel;have HV:O (aN dE prog 146 w bT nT T):=hV;have HT:=aB hT;have HA6:O (∀r∈rs,∀q∈r.rows,∀e∈q.rows,e.e.allow.length<=6):=hal6;clear hs hl hf hrl hel hV hT hal6;obtain⟨i0,hi,hz0,hz1,hz2⟩:=info_parts TD;have HG0:O (Grp (w.alloc<|.map #[] 0) w.heap.size 0 (fun _=>none) []):=grp_made w;have HB0:O (ag w<|w.alloc<|.map #[] 0):=(WL _ _).alloc (WK _) _;have hmm:=@run_makeMap prog;go_enter func187,ntmps187;go_wp2_with fail;go_loopw[19] (fun i wr=>∃k:Nat,k<=rs.length/\i=.int .i64 k/\O (∃n M,Grp wr w.heap.size n M (jR (ae rs)<|rs.take k)/\n<=k*540/\(jR (ae rs)<|rs.take k).length<=k*540)/\O (ag w wr)) (fun i _=>rs.length-(intOf i).toNat);case atStart=>exact⟨0,WO _,rfl,⟨0,_,HG0,cq,by simp[jR]⟩,HB0⟩
 clear HG0 HB0 hmm;obtain⟨k,hk,rfl,HG,HB⟩:=hrel;by_cases hlt:k<rs.length
 ·rcases HS.out.below HB.out with rfl|⟨b,off,rfl,hb,hr,-⟩
  ·simp at hlt
  obtain⟨t0,t1⟩:=hr k hlt;have hk1:=bY k;have hk2:(k:Int)<(rs.length:Int):=cq;have h6:rs[k].rows.length<=6:=HRL _<|WH hlt;have z0:rs[k].name.size<=maxLen:=(Yc _<|WH hlt).1;have ZJ:O (∀q∈rs[k].rows,q.fits):=(Yc _<|WH hlt).2.2;have HLR:O (∀q∈rs[k].rows,q.light):=(HL _<|WH hlt).2;have HER:O (∀q∈rs[k].rows,q.rows.length<=15/\∀e∈q.rows,fF q.rows.length e.e.kids):=ZC _<|WH hlt;obtain⟨n1,M1,hG1,hn1,hE1⟩:=HG.out;obtain⟨E1,hE1d⟩:=eQx<|jR (ae rs)<|rs.take k;rw[<-hE1d]at hG1 hE1;have HE1D:O (E1=jR (ae rs) (rs.take k)):=hE1d;obtain⟨W1,hW1⟩:=eQx<|wr.alloc<|.cells #[.string rs[k].name,.slice rs[k].ad rs[k].rows.length rs[k].cap] 36;have hal:ag wr W1:=by rw[hW1];exact(WL _ _).alloc (WK _) _
  have hbn:w.heap.size<wr.heap.size:=hG1.map.lt;have HC7:O (Cel W1 M1 w.heap.size wr.heap.size 0<|.string rs[k].name):=⟨by rw[hW1];simp,by rw[hW1];simp,hG1.fresh<|WK _,cq⟩;have HG1:=aB<|hG1.below hal;have HB1:=iD HB hal;clear hr hal hG1 HG hE1d;go_wp2_with fail;rw[<-hW1];clear hW1 t0 t1 HB;obtain⟨g7,hg7⟩:=eQx wr.heap.size;rw[<-hg7]at HC7 hbn ⊢;clear hg7;go_loopw[26] (fun i w2=>∃j:Nat,j<=rs[k].rows.length/\i=.int .i64 j/\O (∃n M,Grp w2 w.heap.size n M (E1++jQ (ae rs) rs[k].name (rs[k].rows.take j))/\n<=k*540+j*90/\(E1++jQ (ae rs) rs[k].name (rs[k].rows.take j)).length<=k*540+j*90/\Cel w2 M w.heap.size g7 0 (.string rs[k].name))/\O (ag w w2)) (fun i _=>rs[k].rows.length-(intOf i).toNat);case atStart=>exact⟨0,WO _,rfl,⟨n1,M1,by simpa[jQ] using HG1.out,cq,by have e:jQ (ae rs) rs[k].name (rs[k].rows.take 0)=[]:=rfl;rw[e,XL];omega,HC7⟩,HB1⟩
  clear HG1 HB1 HC7;obtain⟨j,hj,rfl,HG,HB⟩:=hrel;by_cases hjl:j<rs[k].rows.length
  ·rcases HS.out.below HB.out with hnil|⟨b',off',he,hb2,hr,hok⟩
   ·rw[hnil]at hlt;simp at hlt
   injection he with he;injection he with he1 he2;subst he1;subst he2;have ok:=hok rs[k]<|WH hlt;rcases ok with hnil|⟨b2,X7,had,hbb,hr2,-⟩
   ·rw[hnil]at hjl;simp at hjl
   obtain⟨q0,q1⟩:=hr2 j hjl;have z1:rs[k].rows[j].name.size<=maxLen:=(ZJ _<|WH hjl).1;have ZN:O (∀q∈rs[k].rows[j].rows,q.e.fits):=(ZJ _<|WH hjl).2.2;have Zp:O (∀q∈rs[k].rows[j].rows,q.e.light):=(HLR _<|WH hjl).2;have h15:rs[k].rows[j].rows.length<=15:=(HER _<|WH hjl).1;have HKR:O (∀e∈rs[k].rows[j].rows,fF rs[k].rows[j].rows.length e.e.kids):=(HER _<|WH hjl).2;have HOE:O (iw w rs[k].rows[j].ad rs[k].rows[j].rows):=Df.mem (HS.mem<|WH hlt)<|WH hjl;have hj1:=bY j;have hj2:(j:Int)<(rs[k].rows.length:Int):=cq;obtain⟨n2,M2,hG2,hn2,hE2,hC7⟩:=HG.out;obtain⟨E2,hE2d⟩:=eQx<|E1++jQ (ae rs) rs[k].name (rs[k].rows.take j);rw[<-hE2d]at hG2 hE2;have HE2D:O (E2=E1++jQ (ae rs) rs[k].name (rs[k].rows.take j)):=hE2d;obtain⟨W2,hW2⟩:=eQx<|wr.alloc<|.cells #[.string rs[k].rows[j].name,.slice rs[k].rows[j].ad rs[k].rows[j].rows.length rs[k].rows[j].cap] 39;have hal:ag wr W2:=by rw[hW2];exact(WL _ _).alloc (WK _) _
   have hbn2:w.heap.size<wr.heap.size:=hG2.map.lt;have hC9:Cel W2 M2 w.heap.size wr.heap.size 0 (.string rs[k].rows[j].name):=⟨by rw[hW2];simp,by rw[hW2];simp,hG2.fresh<|WK _,cq⟩;have hC9b:Cel W2 M2 w.heap.size wr.heap.size 1 (.slice rs[k].rows[j].ad rs[k].rows[j].rows.length rs[k].rows[j].cap):=⟨by rw[hW2];simp,by rw[hW2];simp,hG2.fresh<|WK _,cq⟩;have HC7:O (Cel W2 M2 w.heap.size g7 0<|.string rs[k].name):=hC7.stl<|Stl.below hal;have HC9:O (Cel W2 M2 w.heap.size wr.heap.size 0<|.string rs[k].rows[j].name):=hC9;have HC9b:=aB hC9b;have HG2:=aB<|hG2.below hal;have HB2:=iD HB hal;rw[had];clear hr hok hr2 hG2 hC7 hC9 hC9b hal HG HB hE2d;go_wp2_with fail;rw[<-hW2];clear hW2 q0 q1;refine(Dk rs[k].rows[j].ad rs[k].rows[j].cap rs[k].rows[j].rows _ cq (HOE.below HB2) Zp HKR).mono ?_;rintro e w3 ⟨rfl,Zu⟩;obtain⟨g9,hg9⟩:=eQx wr.heap.size;rw[<-hg9]at HC9 HC9b hbn2 ⊢;have HB3:O (ag w w3):=HB2.trans<|Zu.below.mono HB2.size;have ZY:=aB<|HG2.below Zu.below;have HCC:O (Cel w3 M2 w.heap.size g7 0 (.string rs[k].name)/\Cel w3 M2 w.heap.size g9 0 (.string rs[k].rows[j].name)/\∀(i:Nat) (h:i<rs[k].rows[j].rows.length),Cel w3 M2 w.heap.size W2.heap.size i<|.bool<|(dH<|ai rs[k].rows[j].rows).getD i false):=by
    refine⟨HC7.stl<|Stl.below Zu.below,HC9.stl<|Stl.below Zu.below,fun i hi=>⟨?_,Zu.lt,HG2.fresh<|WK _,?_⟩⟩
    ·have hn:i<(dH<|ai rs[k].rows[j].rows).length:=by rw[Hf,au];exact hi
     rw[Zu.done i (by simpa[bools] using hn)];simp[bools,hn]
    have:=HG2.map.lt;omega
   have c9:=(HC9b.stl<|Stl.below (bL:=w.heap.size) (M:=M2) Zu.below).cell;obtain⟨gA,hgA⟩:=eQx W2.heap.size;rw[<-hgA]at HCC ⊢;clear Zu HC7 HC9 HC9b HG2 HB2 hg9 hgA;go_wp2_with fail;clear c9;go_loopw[36] (fun i w4=>∃m:Nat,m<=rs[k].rows[j].rows.length/\i=.int .i64 m/\O (∃n M,Grp w4 w.heap.size n M (E2++relE (ae rs) rs[k].name rs[k].rows[j].name (ai rs[k].rows[j].rows) m)/\n<=k*540+j*90+m*6/\(E2++relE (ae rs) rs[k].name rs[k].rows[j].name (ai rs[k].rows[j].rows) m).length<=k*540+j*90+m*6/\(Cel w4 M w.heap.size g7 0 (.string rs[k].name)/\Cel w4 M w.heap.size g9 0 (.string rs[k].rows[j].name)/\∀(i:Nat) (h:i<rs[k].rows[j].rows.length),Cel w4 M w.heap.size gA i<|.bool<|(dH<|ai rs[k].rows[j].rows).getD i false))/\O (ag w w4)) (fun i _=>rs[k].rows[j].rows.length-(intOf i).toNat);case atStart=>exact⟨0,WO _,rfl,⟨n2,M2,by simpa[relE] using ZY.out,cq,by have e:relE (ae rs) rs[k].name rs[k].rows[j].name (ai rs[k].rows[j].rows) 0=[]:=rfl;rw[e,XL];omega,HCC⟩,HB3⟩
   clear ZY HB3 HCC;obtain⟨m,hm,rfl,HG,HB⟩:=hrel;by_cases Yv:m<rs[k].rows[j].rows.length
   ·rcases HOE.out.below HB.out with hnil|⟨bE,offE,hadE,hbE,hrE,hok⟩
    ·rw[hnil]at Yv;simp at Yv
    obtain⟨t0,t1,t2,t3,t4⟩:=hrE m Yv;have hm1:=bY m;have hm2:(m:Int)<(rs[k].rows[j].rows.length:Int):=cq;have HXF:O (rs[k].rows[j].rows[m].e.fits):=ZN _<|WH Yv;have HXL:O (rs[k].rows[j].rows[m].e.light):=Zp _<|WH Yv;obtain⟨n3,M3,hG3,hn3,hE3,hC7,hC9,hCA⟩:=HG.out;obtain⟨E3,hE3d⟩:=eQx<|E2++relE (ae rs) rs[k].name rs[k].rows[j].name (ai rs[k].rows[j].rows) m;rw[<-hE3d]at hG3 hE3;have HE3D:O (E3=E2++relE (ae rs) rs[k].name rs[k].rows[j].name (ai rs[k].rows[j].rows) m):=hE3d;have hbn3:w.heap.size<wr.heap.size:=hG3.map.lt;obtain⟨ng,hng⟩:=eQx<|(dH<|ai rs[k].rows[j].rows).getD m false;have HNG:O (ng=(dH<|ai rs[k].rows[j].rows).getD m false):=hng;rw[hadE];clear hng hE3d hrE;cases ng
    case' true =>
     obtain⟨W3,hW3⟩:=eQx<|((wr.alloc<|.cells #[.int .i64 rs[k].rows[j].rows[m].e.kind,.slice rs[k].rows[j].rows[m].adA rs[k].rows[j].rows[m].e.allow.length rs[k].rows[j].rows[m].capA,.string rs[k].rows[j].rows[m].e.over,.string rs[k].rows[j].rows[m].e.name,.slice rs[k].rows[j].rows[m].adK rs[k].rows[j].rows[m].e.kids.length rs[k].rows[j].rows[m].capK] 43).alloc<|.cells #[.string rs[k].name,.string rs[k].rows[j].name,.int .i64 1] 337);have hal:ag wr W3:=by
      rw[hW3]
      repeat(first|exact WL _ _|refine Below.setCell ?_ (by first|(simp;done)|(simp;omega)) _|refine Below.alloc ?_ (by first|(simp;done)|(simp;omega)) _)
     have hsz3:W3.heap.size=wr.heap.size+2:=by rw[hW3];simp
     have HB3:=iD HB hal;have ZY:=aB<|hG3.below hal;have HC13:O (Cel W3 M3 w.heap.size (wr.heap.size+1) 0 (.string rs[k].name)/\Cel W3 M3 w.heap.size (wr.heap.size+1) 1 (.string rs[k].rows[j].name)/\Cel W3 M3 w.heap.size (wr.heap.size+1) 2 (.int .i64 1)):=by
      have hfr:FreeB M3 (wr.heap.size+1):=hG3.fresh cq;refine⟨⟨?_,cq,hfr,cq⟩,⟨?_,cq,hfr,cq⟩,⟨?_,cq,hfr,cq⟩⟩
      all_goals(rw[hW3];simp)
     obtain⟨dv,hdv⟩:∃dv:Int,dv=1:=⟨_,rfl⟩;rw[<-hdv]at HC13;have HDE:O (dv=1):=hdv;clear hdv;have HCC:O (Cel W3 M3 w.heap.size g7 0 (.string rs[k].name)/\Cel W3 M3 w.heap.size g9 0 (.string rs[k].rows[j].name)/\∀(i:Nat) (h:i<rs[k].rows[j].rows.length),Cel W3 M3 w.heap.size gA i<|.bool<|(dH<|ai rs[k].rows[j].rows).getD i false):=⟨hC7.stl<|Stl.below hal,hC9.stl<|Stl.below hal,fun i h=>(hCA i h).stl<|Stl.below hal⟩;have HXO:O (rs[k].rows[j].rows[m].ok W3):=(hok rs[k].rows[j].rows[m]<|WH Yv).below hal;have hc7:=hC7.cell;have hc9:=hC9.cell;have hl7:=hC7.lt;have hl9:=hC9.lt;have hcA:=(hCA m Yv).cell;have hlA:=(hCA m Yv).lt;rw[<-HNG]at hcA;clear hG3 hal hC7 hC9 hCA hok HG;go_wp2_with fail;rw[<-hW3];clear hW3 t0 t1 t2 t3 t4 hc7 hc9 hl7 hl9 hcA hlA
    case' false =>
     obtain⟨W3,hW3⟩:=eQx<|((wr.alloc<|.cells #[.int .i64 rs[k].rows[j].rows[m].e.kind,.slice rs[k].rows[j].rows[m].adA rs[k].rows[j].rows[m].e.allow.length rs[k].rows[j].rows[m].capA,.string rs[k].rows[j].rows[m].e.over,.string rs[k].rows[j].rows[m].e.name,.slice rs[k].rows[j].rows[m].adK rs[k].rows[j].rows[m].e.kids.length rs[k].rows[j].rows[m].capK] 43).alloc<|.cells #[.string rs[k].name,.string rs[k].rows[j].name,.int .i64 0] 337);have hal:ag wr W3:=by
      rw[hW3]
      repeat(first|exact WL _ _|refine Below.setCell ?_ (by first|(simp;done)|(simp;omega)) _|refine Below.alloc ?_ (by first|(simp;done)|(simp;omega)) _)
     have hsz3:W3.heap.size=wr.heap.size+2:=by rw[hW3];simp
     have HB3:=iD HB hal;have ZY:=aB<|hG3.below hal;have HC13:O (Cel W3 M3 w.heap.size (wr.heap.size+1) 0 (.string rs[k].name)/\Cel W3 M3 w.heap.size (wr.heap.size+1) 1 (.string rs[k].rows[j].name)/\Cel W3 M3 w.heap.size (wr.heap.size+1) 2 (.int .i64 0)):=by
      have hfr:FreeB M3 (wr.heap.size+1):=hG3.fresh cq;refine⟨⟨?_,cq,hfr,cq⟩,⟨?_,cq,hfr,cq⟩,⟨?_,cq,hfr,cq⟩⟩
      all_goals(rw[hW3];simp)
     obtain⟨dv,hdv⟩:∃dv:Int,dv=0:=⟨_,rfl⟩;rw[<-hdv]at HC13;have HDE:O (dv=0):=hdv;clear hdv;have HCC:O (Cel W3 M3 w.heap.size g7 0 (.string rs[k].name)/\Cel W3 M3 w.heap.size g9 0 (.string rs[k].rows[j].name)/\∀(i:Nat) (h:i<rs[k].rows[j].rows.length),Cel W3 M3 w.heap.size gA i<|.bool<|(dH<|ai rs[k].rows[j].rows).getD i false):=⟨hC7.stl<|Stl.below hal,hC9.stl<|Stl.below hal,fun i h=>(hCA i h).stl<|Stl.below hal⟩;have HXO:O (rs[k].rows[j].rows[m].ok W3):=(hok rs[k].rows[j].rows[m]<|WH Yv).below hal;have hc7:=hC7.cell;have hc9:=hC9.cell;have hl7:=hC7.lt;have hl9:=hC9.lt;have hcA:=(hCA m Yv).cell;have hlA:=(hCA m Yv).lt;rw[<-HNG]at hcA;clear hG3 hal hC7 hC9 hCA hok HG;go_wp2_with fail;rw[<-hW3];clear hW3 t0 t1 t2 t3 t4 hc7 hc9 hl7 hl9 hcA hlA
    all_goals
     refine(H9 bT nT rs (some ⟨b,off,none⟩) T rs[k].name rs[k].rows[j].rows[m] _ (HV.below HB3) HT (HS.below HB3) HL Yc z0 HXF HXL HXO).mono ?_;rintro e w5 ⟨⟨Zn,cpO,rfl,hSO,hNO⟩,hb5⟩;obtain⟨ks,hks⟩:=eQx<|jO (ae rs) rs[k].name rs[k].rows[j].rows[m].e;rw[<-hks]at hSO ⊢;have HKS:O (ks=jO (ae rs) rs[k].name rs[k].rows[j].rows[m].e):=hks;have hkl6:ks.length<=6:=by rw[hks];exact ED rs HA6 _ _<|HA6 _ (WH hlt) _ (WH hjl) _<|WH Yv
     have HKF:O (∀a∈ks,a.t.size<=maxLen/\a.s.size<=maxLen):=by show ∀_,_;rw[hks];exact KY rs Yc _ z0 _ HXF
     obtain⟨g13,hg13⟩:=eQx<|wr.heap.size+1;have Yo:=iD HB3 hb5;have ZF:=aB<|ZY.below hb5;have hS5:Stl W3 M3 w5 M3 w.heap.size:=Stl.below hb5;have HC5:O (Cel w5 M3 w.heap.size g7 0 (.string rs[k].name)/\Cel w5 M3 w.heap.size g9 0 (.string rs[k].rows[j].name)/\∀(i:Nat) (h:i<rs[k].rows[j].rows.length),Cel w5 M3 w.heap.size gA i<|.bool<|(dH<|ai rs[k].rows[j].rows).getD i false):=⟨HCC.1.stl hS5,HCC.2.1.stl hS5,fun i h=>(HCC.2.2 i h).stl hS5⟩;have HD5:O (Cel w5 M3 w.heap.size g13 0 (.string rs[k].name)/\Cel w5 M3 w.heap.size g13 1 (.string rs[k].rows[j].name)/\Cel w5 M3 w.heap.size g13 2 (.int .i64 dv)):=by rw[hg13];exact⟨HC13.1.stl hS5,HC13.2.1.stl hS5,HC13.2.2.stl hS5⟩
     have Yi:O (ks=[] \/ ∃gO YS,Zn=some ⟨gO,YS,none⟩/\∀(i:Nat) (h:i<ks.length),Cel w5 M3 w.heap.size gO (YS+i*2) (.string ks[i].t)/\Cel w5 M3 w.heap.size gO (YS+i*2+1) (.string ks[i].s)):=by
      rcases hSO with e|⟨gO,YS,e,hgO,hcO⟩
      ·exact .inl e
      have hN:=hNO _ e;have hbl3:=ZY.map.lt;have hfr:FreeB M3 gO:=ZY.fresh hN;refine .inr ⟨gO,YS,e,fun i hi=>⟨⟨(hcO i hi).1,hgO,hfr,?_⟩,⟨(hcO i hi).2,hgO,hfr,?_⟩⟩⟩
      all_goals(simp only at hN;omega)
     rw[<-hg13];clear hb5 hSO hNO hks hS5 HC13 HCC ZY HB3 HXO hg13;go_wp2_with fail;go_loopw[58] (fun i w6=>∃q:Nat,q<=ks.length/\i=.int .i64 q/\O (∃n M,Grp w6 w.heap.size n M (E3++(ks.take q).map (fun a:Al=>(((a.t,a.s),⟨rs[k].name,rs[k].rows[j].name,dv⟩):Ky×St)))/\n<=k*540+j*90+m*6+q/\(E3++(ks.take q).map (fun a:Al=>(((a.t,a.s),⟨rs[k].name,rs[k].rows[j].name,dv⟩):Ky×St))).length<=k*540+j*90+m*6+q/\(Cel w6 M w.heap.size g7 0 (.string rs[k].name)/\Cel w6 M w.heap.size g9 0 (.string rs[k].rows[j].name)/\∀(i:Nat) (h:i<rs[k].rows[j].rows.length),Cel w6 M w.heap.size gA i<|.bool<|(dH<|ai rs[k].rows[j].rows).getD i false)/\(Cel w6 M w.heap.size g13 0 (.string rs[k].name)/\Cel w6 M w.heap.size g13 1 (.string rs[k].rows[j].name)/\Cel w6 M w.heap.size g13 2 (.int .i64 dv))/\(ks=[] \/ ∃gO YS,Zn=some ⟨gO,YS,none⟩/\∀(i:Nat) (h:i<ks.length),Cel w6 M w.heap.size gO (YS+i*2) (.string ks[i].t)/\Cel w6 M w.heap.size gO (YS+i*2+1) (.string ks[i].s)))/\O (ag w w6)) (fun i _=>ks.length-(intOf i).toNat);case atStart=>exact⟨0,WO _,rfl,⟨n3,M3,by simpa using ZF.out,cq,by simpa using hE3,HC5,HD5,Yi⟩,Yo⟩
     clear ZF Yo HC5 HD5 Yi HB;obtain⟨q,hq,rfl,HG,HB⟩:=hrel;by_cases hql:q<ks.length
     ·obtain⟨n6,M6,hG6,hn6,hE6,hC6,hD6,hO6⟩:=HG.out;rcases hO6 with hnil|⟨gO,YS,hadO,hcO⟩
      ·rw[hnil]at hql;simp at hql
      have x0:=(hcO q hql).1.cell;have x1:=(hcO q hql).2.cell;have y0:=hD6.1.cell;have y1:=hD6.2.1.cell;have y2:=hD6.2.2.cell;have yl:=hD6.1.lt;have hq1:=bY q;have hq2:(q:Int)<(ks.length:Int):=cq;obtain⟨E6,hE6d⟩:=eQx<|E3++(ks.take q).map (fun a:Al=>(((a.t,a.s),⟨rs[k].name,rs[k].rows[j].name,dv⟩):Ky×St));rw[<-hE6d]at hG6 hE6;have HE6D:O (E6=E3++(ks.take q).map (fun a:Al=>(((a.t,a.s),⟨rs[k].name,rs[k].rows[j].name,dv⟩):Ky×St))):=hE6d;obtain⟨W6,Zo⟩:=eQx<|((wr.alloc<|.cells #[.string ks[q].t,.string ks[q].s] 146).alloc<|.cells #[.string rs[k].name,.string rs[k].rows[j].name,.int .i64 dv] 337);have hal:ag wr W6:=by
       rw[Zo]
       repeat(first|exact WL _ _|refine Below.alloc ?_ (by first|(simp;done)|(simp;omega)) _)
      have hsz6:W6.heap.size=wr.heap.size+2:=by rw[Zo];simp
      have HB6:=iD HB hal;have HG6:=aB<|hG6.below hal;have HNB:O (W6.heap[wr.heap.size+1]?=some (.cells #[.string rs[k].name,.string rs[k].rows[j].name,.int .i64 dv] 337)):=by show _=_;rw[Zo];exact xZ wr _ _
      have hbn6:w.heap.size<wr.heap.size:=hG6.map.lt;have HS6:O (Stl wr M6 W6 M6 w.heap.size):=Stl.below hal;have HCK:O ((Cel wr M6 w.heap.size g7 0 (.string rs[k].name)/\Cel wr M6 w.heap.size g9 0 (.string rs[k].rows[j].name)/\∀(i:Nat) (h:i<rs[k].rows[j].rows.length),Cel wr M6 w.heap.size gA i<|.bool<|(dH<|ai rs[k].rows[j].rows).getD i false)/\(Cel wr M6 w.heap.size g13 0 (.string rs[k].name)/\Cel wr M6 w.heap.size g13 1 (.string rs[k].rows[j].name)/\Cel wr M6 w.heap.size g13 2 (.int .i64 dv))/\(ks=[] \/ ∃gO YS,Zn=some ⟨gO,YS,none⟩/\∀(i:Nat) (h:i<ks.length),Cel wr M6 w.heap.size gO (YS+i*2) (.string ks[i].t)/\Cel wr M6 w.heap.size gO (YS+i*2+1) (.string ks[i].s))):=⟨hC6,hD6,.inr ⟨gO,YS,hadO,hcO⟩⟩;have hzz:=HKF _<|WH hql;obtain⟨kl,hkl⟩:=j3 (ks[q].t,ks[q].s) hzz.1 hzz.2;have YU:O (keyOf prog 146 (dE (ks[q].t,ks[q].s))=some kl):=hkl;have hLL:=EE E6 (ks[q].t,ks[q].s);have hn6b:n6<100000:=cq;have hLb:(lookL E6 (ks[q].t,ks[q].s)).length<100000:=cq;have HSZ:O (W6.heap.size=wr.heap.size+2):=hsz6;rw[hadO];clear hal hG6 hC6 hD6 hcO hkl HG hE6d hzz hLL hsz6
      go_wp2_with (first
       | (at_builtin;refine wpList_append_own_at _ rfl _ _ 335 rfl (w.heap.size+1) 337 i0 _ 3 40 underlying335 hi hz0 hz1 hz2 rfl cv _ _ _ rfl ((wS HG6 (ks[q].t,ks[q].s)).kept hg7<|.inr<|Ne.symm<|Q3 HG6 (ks[q].t,ks[q].s)) ⟨wr.heap.size+1,0,none⟩ 1 1 [.string rs[k].name,.string rs[k].rows[j].name,.int .i64 dv] rfl rfl (World.news_of_block (cs:=#[.string rs[k].name,.string rs[k].rows[j].name,.int .i64 dv]) (t:=337) (fr:=(0,0))<|(hg7.block (wr.heap.size+1) (by rw[HSZ];omega) (by simp;omega)).trans HNB) (by simp[Value.oneCell']) cy cq (by have h1:=hg7.size;rw[HSZ]at h1;omega) ?_;intro v' w8 Zr hgrow8 hnil8 hloc8)
       | (rw[<-Zo];refine Dj _ rfl _ _ 261 rfl 146 335 Mx vV underlying261 KZ w.heap.size n6 M6 rfl HG6.map cy (ks[q].t,ks[q].s) kl rfl YU ?_;intro st7 w7 hg7 hback;clear Zo x0 x1 y0 y1 y2)
       | (refine uV _ rfl _ _ _ 261 rfl w.heap.size st7 rfl rfl v' rfl 146 (n6+1) (l6 M6 (ks[q].t,ks[q].s)<|some v') (hback w8 v'<|hgrow8.block w.heap.size (by have h1:=hg7.size;rw[HSZ]at h1;omega) (Q3 HG6 (ks[q].t,ks[q].s))) ?_;intro w9 hM9 hg9))
      have hst:=HG6.step (s:=(⟨rs[k].name,rs[k].rows[j].name,dv⟩:St)) hg7 Zr hgrow8 hloc8 hg9 hM9;have HBN:O (ag w w9):=by
       have hs1:=HB6.size;have b7:ag w w7:=HB6.grown hg7 hs1 (fun i hi=>by injection hi with hi;omega);have b8:ag w w8:=b7.grown hgrow8 b7.size (fun i hi=>by have:=((wS HG6 (ks[q].t,ks[q].s)).lt i hi).1;omega);exact b8.grown hg9 b8.size (fun i hi=>by injection hi with hi;omega)
      have HGN:O (∃n M,Grp w9 w.heap.size n M (E3++(ks.take<|q+1).map (fun a:Al=>(((a.t,a.s),⟨rs[k].name,rs[k].rows[j].name,dv⟩):Ky×St)))/\n<=k*540+j*90+m*6+(q+1)/\(E3++(ks.take<|q+1).map (fun a:Al=>(((a.t,a.s),⟨rs[k].name,rs[k].rows[j].name,dv⟩):Ky×St))).length<=k*540+j*90+m*6+(q+1)/\(Cel w9 M w.heap.size g7 0 (.string rs[k].name)/\Cel w9 M w.heap.size g9 0 (.string rs[k].rows[j].name)/\∀(i:Nat) (h:i<rs[k].rows[j].rows.length),Cel w9 M w.heap.size gA i<|.bool<|(dH<|ai rs[k].rows[j].rows).getD i false)/\(Cel w9 M w.heap.size g13 0 (.string rs[k].name)/\Cel w9 M w.heap.size g13 1 (.string rs[k].rows[j].name)/\Cel w9 M w.heap.size g13 2 (.int .i64 dv))/\(ks=[] \/ ∃gO YS,Zn=some ⟨gO,YS,none⟩/\∀(i:Nat) (h:i<ks.length),Cel w9 M w.heap.size gO (YS+i*2) (.string ks[i].t)/\Cel w9 M w.heap.size gO (YS+i*2+1) (.string ks[i].s))):=by
       have hS9:=HS6.trans hst.2;have e:E3++(ks.take<|q+1).map (fun a:Al=>(((a.t,a.s),⟨rs[k].name,rs[k].rows[j].name,dv⟩):Ky×St))=E6++[((ks[q].t,ks[q].s),(⟨rs[k].name,rs[k].rows[j].name,dv⟩:St))]:=by
        rw[WN hql,Xy,<-Xg,<-HE6D];rfl
       obtain⟨k1,k2,k3⟩:=HCK.out;refine⟨n6+1,_,by rw[e];exact hst.1,cq,by rw[e,WP];simp;omega,⟨k1.1.stl hS9,k1.2.1.stl hS9,fun i h=>(k1.2.2 i h).stl hS9⟩,⟨k2.1.stl hS9,k2.2.1.stl hS9,k2.2.2.stl hS9⟩,?_⟩;rcases k3 with hnil|⟨gO',offO',e1,hc⟩
       ·exact .inl hnil
       exact .inr ⟨gO',offO',e1,fun i h=>⟨(hc i h).1.stl hS9,(hc i h).2.stl hS9⟩⟩
      clear hst hg7 hback Zr hgrow8 hnil8 hloc8 hg9 hM9;go_wp2;go_roundw;case rel=>exact⟨q+1,cq,cx,(by rw[hadO]at HGN;exact HGN),HBN⟩
      simp[intOf]<;>omega
     obtain rfl:q=ks.length:=cq;have HGN:O (∃n M,Grp wr w.heap.size n M (E2++relE (ae rs) rs[k].name rs[k].rows[j].name (ai rs[k].rows[j].rows) (m+1))/\n<=k*540+j*90+(m+1)*6/\(E2++relE (ae rs) rs[k].name rs[k].rows[j].name (ai rs[k].rows[j].rows) (m+1)).length<=k*540+j*90+(m+1)*6/\(Cel wr M w.heap.size g7 0 (.string rs[k].name)/\Cel wr M w.heap.size g9 0 (.string rs[k].rows[j].name)/\∀(i:Nat) (h:i<rs[k].rows[j].rows.length),Cel wr M w.heap.size gA i<|.bool<|(dH<|ai rs[k].rows[j].rows).getD i false)):=by
      obtain⟨n,M,h1,hn,h2,h3,-,-⟩:=HG.out;rw[Xa]at h1 h2;have e:E2++relE (ae rs) rs[k].name rs[k].rows[j].name (ai rs[k].rows[j].rows) (m+1)=E3++ks.map (fun a:Al=>(((a.t,a.s),⟨rs[k].name,rs[k].rows[j].name,dv⟩):Ky×St)):=by
       rw[Ez _ _ _ _ _ Yv _ HNG,<-Xg,<-HE3D,HKS,HDE];rfl
      refine⟨n,M,by rw[e];exact h1,cq,by rw[e];omega,h3⟩
     clear HG;go_wp2;go_roundw;case rel=>exact⟨m+1,cq,cx,HGN,HB⟩
     simp[intOf]<;>omega
   obtain rfl:m=rs[k].rows[j].rows.length:=cq;have HGN:O (∃n M,Grp wr w.heap.size n M (E1++jQ (ae rs) rs[k].name (rs[k].rows.take<|j+1))/\n<=k*540+(j+1)*90/\(E1++jQ (ae rs) rs[k].name (rs[k].rows.take<|j+1)).length<=k*540+(j+1)*90/\Cel wr M w.heap.size g7 0 (.string rs[k].name)):=by
    obtain⟨n,M,h1,hn,h2,h3⟩:=HG.out;have e:E1++jQ (ae rs) rs[k].name (rs[k].rows.take<|j+1)=E2++relE (ae rs) rs[k].name rs[k].rows[j].name (ai rs[k].rows[j].rows) rs[k].rows[j].rows.length:=by
     rw[KW _ _ _ _ hjl,<-Xg,<-HE2D]
    refine⟨n,M,?_,cq,?_,h3.1⟩
    ·rw[e];exact h1
    rw[e];omega
   go_wp2;go_roundw;case rel=>exact⟨j+1,cq,cx,HGN,HB⟩
   simp[intOf]<;>omega
  obtain rfl:j=rs[k].rows.length:=cq;have HGN:O (∃n M,Grp wr w.heap.size n M (jR (ae rs)<|rs.take<|k+1)/\n<=(k+1)*540/\(jR (ae rs)<|rs.take<|k+1).length<=(k+1)*540):=by
   obtain⟨n,M,h1,hn,h2,h3⟩:=HG.out;rw[Xa]at h1 h2;have e:jR (ae rs) (rs.take<|k+1)=E1++jQ (ae rs) rs[k].name rs[k].rows:=by rw[KX _ _ _ hlt,<-HE1D]
   refine⟨n,M,?_,cq,?_⟩
   ·rw[e];exact h1
   rw[e];omega
  go_wp2;go_roundw;case rel=>exact⟨k+1,cq,cx,HGN,HB⟩
  simp[intOf]<;>omega
 obtain rfl:k=rs.length:=cq;have HGN:O (∃n M,Grp wr w.heap.size n M<|jR (ae rs) rs):=by
  obtain⟨n,M,h1,-⟩:=HG.out;rw[Xa]at h1;exact⟨n,M,h1⟩
 go_wp2;go_ret;exact⟨rfl,HGN,HB⟩
def Edge(ts:Q0b)(E:List<|Ky×St):Prop:=∀on t r s,(on,⟨t,r,s⟩)∈E↔(t,r)∈ay ts/\∃d∈iW ts (t,r),(d.typ,d.rel)=on/\stepOf d=s
def yu:Option Int->Int
 | none=>0
 | some x=>x+1
def pE(N:Nat)(σ:Ky->Option Int):List Ky->Int
 | []=>0
 | k::ks=>((N:Int)-yu (σ k))+pE N σ ks
structure Rz(ts:Q0b)(N:Nat)(σ:Ky->Option Int):Prop where
 there:∀k x,σ k=some x->k∈ay ts/\0<=x/\x<N/\ry ts k x
def JU(σ:Ky->Option Int)(k:Ky)(x:Int):Ky->Option Int:=fun y=>if y=k then some x else σ y
def pF(σ:Ky->Option Int)(k:Ky)(x:Int):JU σ k x k=some x:=by simp[JU]
def sV{σ:Ky->Option Int}{k y:Ky}{x:Int}(h:y≠k):JU σ k x y=σ y:=by simp[JU,h]
def Rz.val{ts:Q0b}{N:Nat}{σ:Ky->Option Int}(h:Rz ts N σ)(k:Ky):0<=yu (σ k)/\yu (σ k)<=N:=by
 cases e:σ k with
 | none=>simp[yu]
 | some x=>have:=h.there k x e;simp only[yu];omega
def Rz.mu_pos{ts:Q0b}{N:Nat}{σ:Ky->Option Int}(h:Rz ts N σ)(ks:List Ky):0<=pE N σ ks:=by
 induction ks with
 | nil=>simp[pE]
 | cons k ks ih=>have:=h.val k;simp only[pE];omega
def Rz.set{ts:Q0b}{N:Nat}{σ:Ky->Option Int}(h:Rz ts N σ){k:Ky}{x:Int}(hk:k∈ay ts)(h0:0<=x)(hN:x<N)(hl:ry ts k x):Rz ts N (JU σ k x):=⟨fun y z hz=>by
 by_cases e:y=k
 ·subst e;rw[pF]at hz;injection hz with hz;subst hz;exact⟨hk,h0,hN,hl⟩
 rw[sV e]at hz;exact h.there y z hz⟩
def wT(σ σ':Ky->Option Int):Prop:=∀k x,σ k=some x->∃y,σ' k=some y/\x<=y
def wT.refl(σ:Ky->Option Int):wT σ σ:=fun _ x h=>⟨x,h,Int.le_refl _⟩
def wT.trans{a b c:Ky->Option Int}(h:wT a b)(h2:wT b c):wT a c:=fun k x hx=>by
 obtain⟨y,hy,h3⟩:=h k x hx;obtain⟨z,hz,h4⟩:=h2 k y hy;exact⟨z,hz,cq⟩
def wT.val{σ σ':Ky->Option Int}{ts:Q0b}{N:Nat}(h:wT σ σ')(hR:Rz ts N σ')(k:Ky):yu (σ k)<=yu (σ' k):=by
 cases e:σ k with
 | none=>exact(hR.val k).1
 | some x=>obtain⟨y,hy,h2⟩:=h k x e;rw[hy];simp only[yu];omega
def wT.mu{σ σ':Ky->Option Int}{ts:Q0b}{N:Nat}(h:wT σ σ')(hR:Rz ts N σ')(ks:List Ky):pE N σ' ks<=pE N σ ks:=by
 induction ks with
 | nil=>exact Int.le_refl _
 | cons k ks ih=>have:=h.val hR k;simp only[pE];omega
def Ak{σ:Ky->Option Int}{k:Ky}{x:Int}(h:∀y,σ k=some y->y<x):wT σ (JU σ k x):=fun y z hz=>by
 by_cases e:y=k
 ·subst e;exact⟨x,pF _ _ _,by have:=h z hz;omega⟩
 exact⟨z,by rw[sV e];exact hz,Int.le_refl _⟩
def V7{σ:Ky->Option Int}{ts:Q0b}{N:Nat}{k:Ky}{x:Int}(hR:Rz ts N<|JU σ k x)(h:∀y,σ k=some y->y<x)(h0:0<=x)(ks:List Ky)(hk:k∈ks):pE N (JU σ k x) ks+1<=pE N σ ks:=by
 induction ks with
 | nil=>cases hk
 | cons y ks ih =>
  simp only[pE];have hm:=(Ak h).mu hR ks;have hv:=(Ak h).val hR y;rcases Xc.1 hk with rfl|hk
  ·have:yu (σ k)+1<=yu (JU σ k x k):=by
    rw[pF];cases e:σ k with
    | none=>simp only[yu];omega
    | some z=>have:=h z e;simp only[yu];omega
   omega
  have:=ih hk;omega
def sW(E:List<|Ky×St)(σ:Ky->Option Int)(k:Ky):Prop:=∀x,σ k=some x->∀s∈lookL E k,∃y,σ s.key=some y/\x+s.n<=y
structure Raised(E:List<|Ky×St)(σ σ':Ky->Option Int):Prop where
 mono:wT σ σ'
 done:∀k,(sW E σ k\/σ' k≠σ k)->sW E σ' k
def Raised.refl(E:List<|Ky×St)(σ:Ky->Option Int):Raised E σ σ:=⟨wT.refl _,fun _ h=>h.elim id fun e=>absurd rfl e⟩
def Raised.trans{E:List<|Ky×St}{a b c:Ky->Option Int}(h:Raised E a b)(h2:Raised E b c):Raised E a c:=⟨h.mono.trans h2.mono,fun k hk=>by
 by_cases e:c k=b k
 ·by_cases e2:b k=a k
  ·rcases hk with hk|hk
   ·exact h2.done k<|.inl<|h.done k<|.inl hk
   exact absurd (e.trans e2) hk
  exact h2.done k<|.inl<|h.done k<|.inr e2
 exact h2.done k<|.inr e⟩
structure Half(E:List<|Ky×St)(σ:Ky->Option Int)(key:Ky)(x:Int)(j:Nat)(σ':Ky->Option Int):Prop where
 mono:wT σ σ'
 done:∀k,k≠key->(sW E σ k\/σ' k≠σ k)->sW E σ' k
 own:sW E σ' key\/(σ' key=some x/\∀s∈(lookL E key).take j,∃y,σ' s.key=some y/\x+s.n<=y)
 at':∃y,σ' key=some y/\x<=y
def Half.start{E:List<|Ky×St}{σ:Ky->Option Int}{key:Ky}{x:Int}(h:∀y,σ key=some y->y<x):Half E σ key x 0 (JU σ key x) where
 mono:=Ak h
 done k hk hs:=by
  have e:JU σ key x k=σ k:=sV hk;rcases hs with hs|hs
  ·intro z hz s hm;rw[e]at hz;obtain⟨y,hy,hle⟩:=hs z hz s hm;obtain⟨y',hy',h2⟩:=Ak h _ y hy;exact⟨y',hy',cq⟩
  exact absurd e hs
 own:=.inr ⟨pF _ _ _,fun s hs=>by simp at hs⟩
 at':=⟨x,pF _ _ _,Int.le_refl _⟩
def Half.step{E:List<|Ky×St}{σ σ1 σ2:Ky->Option Int}{key:Ky}{x:Int}{j:Nat}(h:Half E σ key x j σ1)(hj:j<(lookL E key).length)(hR:Raised E σ1 σ2)(hy:∃y,σ2 (lookL E key)[j].key=some y/\x+(lookL E key)[j].n<=y):Half E σ key x (j+1) σ2 where
 mono:=h.mono.trans hR.mono
 done k hk hs:=by
  by_cases e:σ2 k=σ1 k
  ·by_cases e2:σ1 k=σ k
   ·rcases hs with hs|hs
    ·exact hR.done k<|.inl<|h.done k hk<|.inl hs
    exact absurd (e.trans e2) hs
   exact hR.done k<|.inl<|h.done k hk<|.inr e2
  exact hR.done k<|.inr e
 own:=by
  rcases h.own with ho|⟨h1,h2⟩
  ·exact .inl<|hR.done key<|.inl ho
  by_cases e:σ2 key=σ1 key
  ·refine .inr ⟨e.trans h1,fun s hs=>?_⟩;rw[WN hj]at hs;rcases WU.1 hs with hs|hs
   ·obtain⟨y,hy1,hy2⟩:=h2 s hs;obtain⟨z,hz,h3⟩:=hR.mono _ y hy1;exact⟨z,hz,cq⟩
   simp at hs;subst hs;exact hy
  exact .inl<|hR.done key<|.inr e
 at':=by
  obtain⟨y,hy,h1⟩:=h.at';obtain⟨z,hz,h2⟩:=hR.mono key y hy;exact⟨z,hz,cq⟩
def Half.full{E:List<|Ky×St}{σ σ':Ky->Option Int}{key:Ky}{x:Int}{j:Nat}(h:Half E σ key x j σ')(hj:(lookL E key).length<=j):Raised E σ σ' where
 mono:=h.mono
 done k hk:=by
  by_cases e:k=key
  ·subst e;rcases h.own with ho|⟨h1,h2⟩
   ·exact ho
   intro z hz s hs;rw[h1]at hz;injection hz with hz;subst hz;exact h2 s (by rw[Xn hj];exact hs)
  exact h.done k e hk
def Gf{ts:Q0b}{N:Nat}{E:List<|Ky×St}{σ:Ky->Option Int}(hE:Edge ts E)(hF:Found ts)(hR:Rz ts N σ)(hall:∀k∈ay ts,∃x,σ k=some x)(hs:∀k,sW E σ k):Least ts (fun k=>(σ k).getD 0) where
 sol:=⟨fun k=>by
   cases e:σ k with
   | none=>exact Int.le_refl _
   | some x=>exact(hR.there k x e).2.1,fun k hk d hd=>by
   obtain⟨x,hx⟩:=hall _<|hF k hk d hd;have hm:(⟨k.1,k.2,stepOf d⟩:St)∈lookL E (d.typ,d.rel):=mem_lookL.2<|(hE _ _ _ _).2 ⟨hk,d,hd,rfl,rfl⟩;obtain⟨y,hy,h2⟩:=hs _ x hx _ hm;have hy':σ k=some y:=hy;simp only[hx,hy',XF];exact h2⟩
 low k hk:=by
  obtain⟨x,hx⟩:=hall k hk;simp only[hx,XF];exact(hR.there k x hx).2.2.2
def Edge.low{ts:Q0b}{E:List<|Ky×St}(hE:Edge ts E){k:Ky}{x:Int}(hl:ry ts k x){s:St}(hs:s∈lookL E k):s.key∈ay ts/\ry ts s.key (x+s.n)/\0<=s.n/\s.n<=1:=by
 obtain⟨h1,d,hd,e1,e2⟩:=(hE k s.typ s.rel s.n).1<|mem_lookL.1 hs;have:=Bc d;refine⟨h1,?_,cq,cq⟩;rw[<-e2];exact ry.step h1 hd (by rw[e1];exact hl)
def jD(σ:Ky->Option Int):Ky->Option Value:=fun k=>(σ k).map fun x=>Value.int .i64 x
def TE(σ:Ky->Option Int)(k:Ky)(x:Int):l6 (jD σ) k (some<|.int .i64 x)=jD (JU σ k x):=by
 funext y
 unfold jD;by_cases e:y=k
 ·subst e;rw[fu,pF];rfl
 rw[dh e,sV e]
def wU(u:af):(zeroValue 2).run prog u=.ok (.int .i64 0) u:=cw
def Gg(gS gC gL gR:Nat):Value:=.func (Fn.func 259) #[] #[.pointer (some ⟨gS,0,none⟩),.pointer<|some ⟨gC,0,none⟩,.pointer<|some ⟨gL,0,none⟩,.pointer<|some ⟨gR,0,none⟩]
structure Rw(w:World)(gS gC gL gR bS bL N n nL:Nat)(ML:Ky->Option Value)(E:List<|Ky×St)(σ:Ky->Option Int):Prop where
 cS:w.cell? ⟨gS,0,none⟩=some (.map<|some bS)
 cC:w.cell? ⟨gC,0,none⟩=some (.int .i64 N)
 cL:w.cell? ⟨gL,0,none⟩=some (.map<|some bL)
 cR:w.cell? ⟨gR,0,none⟩=some (Gg gS gC gL gR)
 lS:gS<w.heap.size/\gS≠bS
 lC:gC<w.heap.size/\gC≠bS
 lL:gL<w.heap.size/\gL≠bS
 lR:gR<w.heap.size/\gR≠bS
 map:aN dE prog 146 w bS n (jD σ)
 lean:Grp w bL nL ML E
 bne:bL≠bS
 free:FreeB ML bS
def lu{w w':af}{b g:Nat}(hg:w.grownBy w'<|some b)(hl:g<w.heap.size/\g≠b)(o:Nat):w'.cell? (aq g o)=w.cell? (aq g o):=WX (w:=w) (hg.block g hl.1 fun e=>hl.2<|by injection e)
def Grp.kept{w w':af}{bL n b:Nat}{M:Ky->Option Value}{E:List<|Ky×St}(h:Grp w bL n M E)(hg:w.grownBy w'<|some b)(hb:bL≠b)(hf:FreeB M b):Grp w' bL n M E where
 map:=h.map.kept hg (by intro e;injection e with e;exact hb e)
 row k:=by
  rcases h.row k with e|⟨v,e,ho⟩
  ·exact .inl e
  exact .inr ⟨v,e,ho.kept hg<|.inr<|hf k v e⟩
 apart:=h.apart
def Rw.kept{w w':af}{gS gC gL gR bS bL N n n' nL:Nat}{ML:Ky->Option Value}{E:List<|Ky×St}{σ σ':Ky->Option Int}(h:Rw w gS gC gL gR bS bL N n nL ML E σ)(hg:w.grownBy w'<|some bS)(hM:aN dE prog 146 w' bS n'<|jD σ'):Rw w' gS gC gL gR bS bL N n' nL ML E σ' where
 cS:=(lu hg h.lS 0).trans h.cS
 cC:=(lu hg h.lC 0).trans h.cC
 cL:=(lu hg h.lL 0).trans h.cL
 cR:=(lu hg h.lR 0).trans h.cR
 lS:=⟨WJ h.lS.1 hg.size,h.lS.2⟩
 lC:=⟨WJ h.lC.1 hg.size,h.lC.2⟩
 lL:=⟨WJ h.lL.1 hg.size,h.lL.2⟩
 lR:=⟨WJ h.lR.1 hg.size,h.lR.2⟩
 map:=hM
 lean:=h.lean.kept hg h.bne h.free
 bne:=h.bne
 free:=h.free
def jS{w w':af}{b:Nat}(h:ag w w'):w.grownBy w' (some b):=⟨h.os,h.tape,h.output,h.size,fun k hk _=>h.block k hk⟩
def Rw.below{w w':af}{gS gC gL gR bS bL N n nL:Nat}{ML:Ky->Option Value}{E:List<|Ky×St}{σ:Ky->Option Int}(h:Rw w gS gC gL gR bS bL N n nL ML E σ)(hB:ag w w'):Rw w' gS gC gL gR bS bL N n nL ML E σ:=h.kept (jS hB)<|h.map.below hB
def og{a b c:af}{r:Option Nat}(h:a.grownBy b r)(h2:b.grownBy c r):a.grownBy c r:=⟨h2.os.trans h.os,h2.tape.trans h.tape,h2.output.trans h.output,WR h.size h2.size,fun k hk hr=>(h2.block k (WJ hk h.size) hr).trans<|h.block k hk hr⟩
def La(ts:Q0b)(w:World)(gS gC gL gR bS bL N n nL:Nat)(ML:Ky->Option Value)(E:List<|Ky×St)(σ:Ky->Option Int)(key:Ky)(lv:Int)(e:Ending)(w':World):Prop :=
 ∃(ok:Bool) (σ':Ky->Option Int) (n':Nat),e=.returned (.bool ok)/\w.grownBy w' (some bS)/\Rw w' gS gC gL gR bS bL N n' nL ML E σ'/\Rz ts N σ'/\(n':Int)+pE N σ' (ay ts)<=n+pE N σ (ay ts)/\pE N σ' (ay ts)<=pE N σ (ay ts) /\
  (ok=false->¬ ∃f,Sol ts f)/\(ok=true->Raised E σ σ'/\∃x,σ' key=some x/\lv<=x)
set_option maxRecDepth 100000 in
def Oi(ts:Q0b)(gS gC gL gR bS bL N nL:Nat)(ML:Ky->Option Value)(E:List<|Ky×St)(hE:Edge ts E)(hF:Found ts)(hN:N=(ay ts).length)(hN36:N<=36)(hsz:∀k∈ay ts,k.1.size<=maxLen/\k.2.size<=maxLen)(hEl:E.length<=100000)(f:Nat):
  ∀(w:World) (σ:Ky->Option Int) (n:Nat) (key:Ky) (lv:Int),Rw w gS gC gL gR bS bL N n nL ML E σ->Rz ts N σ->pE N σ (ay ts)<=f->(n:Int)+pE N σ (ay ts)<=100000->key∈ay ts->0<=lv->lv<=100->ry ts key lv ->
  Calls prog 259 #[.agg #[.string key.1,.string key.2],.int .i64 lv,.pointer<|some<|am gS,.pointer<|some<|am gC,.pointer<|some<|am gL,.pointer<|some<|am gR] w (La ts w gS gC gL gR bS bL N n nL ML E σ key lv):=by
 have HE:=aB hE;have HF:=aB hF;have HSZ:O (∀k∈ay ts,k.1.size<=maxLen/\k.2.size<=maxLen):=hsz;have HNN:O (N=(ay ts).length):=hN;clear hE hF hsz hN
 induction f using Nat.strongRecOn with
 | _ f ih =>
 intro w σ n key lv hR hZ hmu hnm hk h0 h1 hl;have HIH:O (∀m<f,_):=ih;clear ih;obtain⟨hz1,hz2⟩:=HSZ key hk;obtain⟨kl,hkl⟩:=j3 key hz1 hz2;have YU:O (keyOf prog 146 (dE key)=some kl):=hkl;have HR:=aB hR;have HZ:=aB hZ;have HLK:=aB hl;have HKM:=aB hk;have hmp:=hZ.mu_pos<|ay ts;have cS:=hR.cS;have cC:=hR.cC;have cL:=hR.cL;have lS:=hR.lS.1;have lC:=hR.lC.1;have lL:=hR.lL.1;have hbS:=hR.map.lt;have hal:ag w (w.alloc<|.cells #[.string key.1,.string key.2] 146):=(WL _ _).alloc (WK _) _;have Yq:=aB hal;have HM1:O (aN dE prog 146 (w.alloc<|.cells #[.string key.1,.string key.2] 146) bS n<|jD σ):=hR.map.below hal;have HR1:=aB<|hR.below hal;clear hR hZ hl hkl hal hk;by_cases hd:∃x,σ key=some x/\lv<=x
 ·obtain⟨x,hx,hle⟩:=hd;obtain⟨-,hx0,hxN,-⟩:=HZ.there key x hx;have hlk:jD σ key=some (.int .i64 x):=by unfold jD;rw[hx];rfl
  have HX:O (σ key=some x):=hx;clear hx;go_enter func259,ntmps259;go_wp2_with(at_lookup;refine d9 _ rfl _ _ 169 rfl 146 2 jl underlying169 (wU _) bS n (jD σ) rfl HM1 key kl rfl YU ?_;simp only[hlk,XF,Option.isSome_some]);go_ret;exact⟨true,σ,n,rfl,jS Yq,HR1,HZ,Int.le_refl _,Int.le_refl _,ct,fun _=>⟨Raised.refl _ _,x,HX,hle⟩⟩
 have HLT:O (∀y,σ key=some y->y<lv):=fun y hy=>by
  by_cases h:lv<=y
  ·exact absurd ⟨y,hy,h⟩ hd
  omega
 clear hd;by_cases hNt:(N:Int)<=lv
 ·have ZE:O (¬ ∃f,Sol ts f):=Kc HF HKM HLK (by have:=HNN.out;omega);cases hs:σ key with
  | none =>
   have hlk:jD σ key=none:=by unfold jD;rw[hs];rfl
   clear hs;go_enter func259,ntmps259;go_wp2_with(at_lookup;refine d9 _ rfl _ _ 169 rfl 146 2 jl underlying169 (wU _) bS n (jD σ) rfl HM1 key kl rfl YU ?_;simp only[hlk,Option.getD_none,Option.isSome_none]);go_ret;exact⟨false,σ,n,rfl,jS Yq,HR1,HZ,Int.le_refl _,Int.le_refl _,fun _=>ZE,ct⟩
  | some x =>
   have hxt:x<lv:=HLT x hs;obtain⟨-,hx0,hxN,-⟩:=HZ.there key x hs;have hlk:jD σ key=some (.int .i64 x):=by unfold jD;rw[hs];rfl
   clear hs;go_enter func259,ntmps259;go_wp2_with(at_lookup;refine d9 _ rfl _ _ 169 rfl 146 2 jl underlying169 (wU _) bS n (jD σ) rfl HM1 key kl rfl YU ?_;simp only[hlk,XF,Option.isSome_some]);go_ret;exact⟨false,σ,n,rfl,jS Yq,HR1,HZ,Int.le_refl _,Int.le_refl _,fun _=>ZE,ct⟩
 have hNt':lv<(N:Int):=cq;have HZ2:O (Rz ts N<|JU σ key lv):=HZ.set HKM h0 hNt' HLK;have HMU:O (pE N (JU σ key lv) (ay ts)+1<=pE N σ (ay ts)):=V7 HZ2 HLT h0 _ HKM;obtain⟨adL,cpL,hvl,hrow⟩:=Tg<|wS HR.lean key;have HVL:O ((ML key).getD (.slice none 0 0)=.slice adL (lookL E key).length cpL):=hvl;have hll:(lookL E key).length<=100000:=WR (EE _ _) hEl;clear hvl hrow;cases hs:σ key
 case' none =>
  have hlk:jD σ key=none:=by unfold jD;rw[hs];rfl
  clear hs;go_enter func259,ntmps259
  go_wp2_with (first
   | (at_lookup;refine d9 _ rfl _ _ 169 rfl 146 2 jl underlying169 (wU _) bS n (jD σ) rfl HM1 key kl rfl YU ?_;simp only[hlk,Option.getD_none,Option.isSome_none])
   | (at_mapUpdate;refine oD _ rfl _ _ _ 169 rfl 146 2 jl vV underlying169 bS n (jD σ) rfl HM1 cy key kl rfl YU (.int .i64 lv) rfl ?_;intro w2 hV2 hg2;have cL2:ab w2 gL (.map<|some bL):=(lu hg2 HR1.lL 0).trans HR1.cL;have k0:ab w2 w.heap.size (.string key.1):=(lu hg2 ⟨ct,cq⟩ 0).trans ct;have k1:ac w2 w.heap.size 1 (.string key.2):=(lu hg2 ⟨ct,cq⟩ 1).trans ct)
   | (at_lookup;refine jZ _ rfl _ _ 261 rfl 146 335 jl underlying261 (KZ _) bL nL ML rfl ((HR1.lean.kept hg2 HR1.bne HR1.free).map) key kl rfl YU ?_;rw[HVL]))
 case' some x =>
  have hxt:x<lv:=HLT x hs;obtain⟨-,hx0,hxN,-⟩:=HZ.there key x hs;have hlk:jD σ key=some (.int .i64 x):=by unfold jD;rw[hs];rfl
  clear hs;go_enter func259,ntmps259
  go_wp2_with (first
   | (at_lookup;refine d9 _ rfl _ _ 169 rfl 146 2 jl underlying169 (wU _) bS n (jD σ) rfl HM1 key kl rfl YU ?_;simp only[hlk,XF,Option.isSome_some])
   | (at_mapUpdate;refine oD _ rfl _ _ _ 169 rfl 146 2 jl vV underlying169 bS n (jD σ) rfl HM1 cy key kl rfl YU (.int .i64 lv) rfl ?_;intro w2 hV2 hg2;have cL2:ab w2 gL (.map<|some bL):=(lu hg2 HR1.lL 0).trans HR1.cL;have k0:ab w2 w.heap.size (.string key.1):=(lu hg2 ⟨ct,cq⟩ 0).trans ct;have k1:ac w2 w.heap.size 1 (.string key.2):=(lu hg2 ⟨ct,cq⟩ 1).trans ct)
   | (at_lookup;refine jZ _ rfl _ _ 261 rfl 146 335 jl underlying261 (KZ _) bL nL ML rfl ((HR1.lean.kept hg2 HR1.bne HR1.free).map) key kl rfl YU ?_;rw[HVL]))
 all_goals
  have HR2:O (Rw w2 gS gC gL gR bS bL N (n+1) nL ML E<|JU σ key lv):=HR1.kept hg2 (by rw[<-TE];exact hV2);have HG2:O (w.grownBy w2<|some bS):=og (jS Yq) hg2;clear hV2 hg2 cL2 k0 k1;go_loopw[35] (fun i w3=>∃j:Nat,j<=(lookL E key).length/\i=.int .i64 j/\O (∃(σ3:Ky->Option Int) (n3:Nat),Half E σ key lv j σ3/\Rw w3 gS gC gL gR bS bL N n3 nL ML E σ3/\Rz ts N σ3/\(n3:Int)+pE N σ3 (ay ts)<=n+pE N σ (ay ts)/\pE N σ3 (ay ts)+1<=pE N σ (ay ts)/\w.grownBy w3 (some bS))) (fun i _=>(lookL E key).length-(intOf i).toNat);case atStart=>exact⟨0,WO _,rfl,⟨JU σ key lv,n+1,Half.start HLT,HR2,HZ2,by have:=HMU.out;push_cast;omega,HMU,HG2⟩⟩
  clear HR2 HG2 HZ2 HMU;obtain⟨j,hj,rfl,HI⟩:=hrel;by_cases hjl:j<(lookL E key).length
  ·obtain⟨σ3,n3,hH3,hR3,hZ3,hn3,hm3,hg3⟩:=HI.out;obtain⟨Yh,cp',hv',hrow'⟩:=Tg<|wS hR3.lean key;rw[HVL]at hv';injection hv' with e1 e2 e3;subst e1;rcases hrow' with h|⟨gr,Yb,hgr1,Yl,hcr⟩
   ·omega
   obtain⟨st,hst⟩:=eQx<|(lookL E key)[j];have r0:ac wr gr (j*3) (.string st.typ):=hcr _ _ (by have:=mo (lookL E key) j hjl 0 cq;rw[hst];simpa[St.cells] using this);have r1:ac wr gr (j*3+1) (.string st.rel):=hcr _ _ (by have:=mo (lookL E key) j hjl 1 cq;rw[hst];simpa[St.cells] using this);have r2:ac wr gr (j*3+2) (.int .i64 st.n):=hcr _ _ (by have:=mo (lookL E key) j hjl 2 cq;rw[hst];simpa[St.cells] using this);have HST:O (st=(lookL E key)[j]):=hst;obtain⟨hsk,hsl,hsn0,hsn1⟩:=HE.low HLK (s:=st) (by rw[hst];exact WH hjl);have HSK:=aB hsk;have HSL:=aB hsl;have hj1:=bY j;have hj2:(j:Int)<((lookL E key).length:Int):=cq
   have cR3:=hR3.cR;unfold Gg at cR3;have lR3:=hR3.lR.1;obtain⟨W3,hW3⟩:=eQx<|wr.alloc<|.cells #[.string st.typ,.string st.rel,.int .i64 st.n] 337;have hal3:ag wr W3:=by rw[hW3];exact(WL _ _).alloc (WK _) _
   have HR3:=aB<|hR3.below hal3;have ZY:O (w.grownBy W3<|some bS):=og hg3<|jS hal3;have HH3:=aB hH3;have HZ3:=aB hZ3;have hm3p:=hZ3.mu_pos<|ay ts;have HNM:O ((n3:Int)+pE N σ3 (ay ts)<=n+pE N σ (ay ts)/\pE N σ3 (ay ts)+1<=pE N σ (ay ts)):=⟨hn3,hm3⟩;rw[Yb];clear hcr hgr1 Yl hsk hsl hst hR3 hal3 hH3 hZ3 hg3 HI e2 e3;go_wp2_with fail;rw[<-hW3];clear hW3 r0 r1 r2 cR3;refine(HIH (pE N σ3<|ay ts).toNat cq _ σ3 n3 st.key (lv+st.n) HR3 HZ3 cq cq HSK cq cq HSL).mono ?_;rintro e w5 ⟨ok,σ5,n5,rfl,hg5,Ym,hZ5,hn5,hm5,hf5,ht5⟩;cases ok;case false=>
    have HP:O (La ts w gS gC gL gR bS bL N n nL ML E σ key lv (.returned<|.bool false) w5):=by
     have h:=HNM.out;exact⟨false,σ5,n5,rfl,og ZY hg5,Ym,hZ5,cq,cq,fun _=>hf5 rfl,ct⟩
    clear hg5 Ym hZ5 hn5 hm5 hf5 ht5;go_wp2;go_ret;exact HP
   have HI2:O (∃(σ3:Ky->Option Int) (n3:Nat),Half E σ key lv (j+1) σ3/\Rw w5 gS gC gL gR bS bL N n3 nL ML E σ3/\Rz ts N σ3/\(n3:Int)+pE N σ3 (ay ts)<=n+pE N σ (ay ts)/\pE N σ3 (ay ts)+1<=pE N σ (ay ts)/\w.grownBy w5 (some bS)):=by
    have h:=HNM.out;obtain⟨hRa,y,hy,hle⟩:=ht5 rfl;refine⟨σ5,n5,HH3.step hjl hRa ⟨y,?_,?_⟩,Ym,hZ5,cq,cq,og ZY hg5⟩
    ·rw[<-HST];exact hy
    rw[<-HST];exact hle
   clear hg5 Ym hZ5 hn5 hm5 hf5 ht5;go_wp2;go_roundw;case rel=>exact⟨j+1,cq,cx,HI2⟩
   simp[intOf]<;>omega
  obtain rfl:j=(lookL E key).length:=cq;have HP:O (La ts w gS gC gL gR bS bL N n nL ML E σ key lv (.returned<|.bool true) wr):=by
   obtain⟨σ3,n3,hH3,hR3,hZ3,hn3,hm3,hg3⟩:=HI.out;exact⟨true,σ3,n3,rfl,hg3,hR3,hZ3,hn3,cq,ct,fun _=>⟨hH3.full<|WK _,hH3.at'⟩⟩
  clear HI;go_wp2;go_ret;exact HP
def Q4(ts:Q0b)(w:World)(e:Ending)(w':World):Prop :=
 ((∃(b n:Nat) (σ:Ky->Option Int),e=.returned (.tuple #[.map (some b),.bool true])/\aN dE prog 146 w' b n (jD σ)/\Least ts (fun k=>(σ k).getD 0)/\∀k,(∃x,σ k=some x)↔k∈ay ts)\/(e=.returned (.tuple #[.map none,.bool false])/\¬ ∃f,Sol ts f))/\ag w w'
def Q5(N:Nat)(ks:List Ky):pE N (fun _=>none) ks=N*ks.length:=by
 induction ks with
 | nil=>simp[pE]
 | cons k ks ih=>simp only[pE,ih,yu,Xq];push_cast;rw[Int.mul_add];omega
def Oj{rs:Q06}(hf:∀r∈rs,r.fits):∀k∈ay (ae rs),k.1.size<=maxLen/\k.2.size<=maxLen:=by
 intro k hk;obtain⟨t,ht,r,hr,rfl⟩:=rA.1 hk;obtain⟨t',ht',rfl⟩:=WV.1 ht;obtain⟨q,hq,rfl⟩:=WV.1 hr;exact⟨(hf t' ht').1,((hf t' ht').2.2 q hq).1⟩
set_option maxRecDepth 100000 in
theorem zS(ad:Q02)(cap:Nat)(rs:Q06)(bL nL:Nat)(ML:Ky->Option Value)(E:List (Ky×St))(w:af)(hlen:rs.length<=6)(hs:jX w ad rs)(hf:∀r∈rs,r.fits)(hrl:∀r∈rs,r.rows.length<=6)(hG:Grp w bL nL ML E)(hE:Edge (ae rs) E)(hF:Found (ae rs))(hEl:E.length<=100000):
  Calls prog 186 #[.slice ad rs.length cap,.map (some bL)] w (Q4 (ae rs) w):=by
 have HS:=aB hs;have Yc:=aB hf;have HRL:O (∀r∈rs,r.rows.length<=6):=hrl;have HG:O (Grp w bL nL ML E):=hG;have HE:=aB hE;have HF:=aB hF;have HBL:O (bL<w.heap.size):=hG.map.lt;clear hs hf hrl hG hE hF;have hmm:=@run_makeMap prog;go_enter func186,ntmps186;have HB0:O (ag w ((w.alloc (.cells #[.map (some bL)] 261)).alloc (.cells #[.int .i64 0] 2))):=((WL _ _).alloc (WK _) _).alloc (by simp) _;have Zb:O (((w.alloc (.cells #[.map (some bL)] 261)).alloc (.cells #[.int .i64 0] 2)).cell? ⟨w.heap.size,0,none⟩=some (.map (some bL))/\((w.alloc (.cells #[.map (some bL)] 261)).alloc (.cells #[.int .i64 0] 2)).cell? ⟨w.heap.size+1,0,none⟩=some (.int .i64 0)/\((w.alloc (.cells #[.map (some bL)] 261)).alloc (.cells #[.int .i64 0] 2)).frozen? ⟨w.heap.size+1,0,none⟩=false/\w.heap.size+1<((w.alloc (.cells #[.map (some bL)] 261)).alloc (.cells #[.int .i64 0] 2)).heap.size):=⟨by simp,by simp,by simp,by simp⟩;go_wp2_with fail;go_loopw[17] (fun i wr=>∃k:Nat,k<=rs.length/\i=.int .i64 k/\O (ag w wr)/\O (wr.cell? ⟨w.heap.size,0,none⟩=some (.map (some bL))/\wr.cell? ⟨w.heap.size+1,0,none⟩=some (.int .i64 ((dI rs k).length:Int))/\wr.frozen? ⟨w.heap.size+1,0,none⟩=false/\w.heap.size+1<wr.heap.size)) (fun i _=>rs.length-(intOf i).toNat);case atStart=>exact⟨0,WO _,rfl,HB0,Zb⟩
 clear HB0 Zb;obtain⟨k,hk,rfl,HB,HC⟩:=hrel;obtain⟨c0,c1,c2,c3⟩:=HC.out;have hu:=xX rs HRL.out k;by_cases hlt:k<rs.length
 ·rcases HS.out.below HB.out with rfl|⟨b,off,rfl,hb,hr,-⟩
  ·simp at hlt
  obtain⟨t0,t1⟩:=hr k hlt;have hk1:=bY k;have hk2:(k:Int)<(rs.length:Int):=by omega
  have h6:=HRL.out _ (WH hlt);have YO:O ((dI rs (k+1)).length=(dI rs k).length+rs[k].rows.length):=by show _=_;rw[qh _ _ hlt,WP];simp[jy]
  obtain⟨cn,hcn⟩:=eQx ((dI rs k).length);rw[<-hcn]at c1 hu YO;have HB1:O (ag w ((wr.setCell ⟨w.heap.size+1,0,none⟩ (.int .i64 ((cn:Int)+(rs[k].rows.length:Int)))).alloc (.cells #[.string rs[k].name,.slice rs[k].ad rs[k].rows.length rs[k].cap] 36))):=(HB.out.setCell (p:=⟨w.heap.size+1,0,none⟩) (by simp) _).alloc (by simpa using HB.out.size) _;have YH:O (((wr.setCell ⟨w.heap.size+1,0,none⟩ (.int .i64 ((cn:Int)+(rs[k].rows.length:Int)))).alloc (.cells #[.string rs[k].name,.slice rs[k].ad rs[k].rows.length rs[k].cap] 36)).cell? ⟨w.heap.size,0,none⟩=some (.map (some bL))/\((wr.setCell ⟨w.heap.size+1,0,none⟩ (.int .i64 ((cn:Int)+(rs[k].rows.length:Int)))).alloc (.cells #[.string rs[k].name,.slice rs[k].ad rs[k].rows.length rs[k].cap] 36)).cell? ⟨w.heap.size+1,0,none⟩=some (.int .i64 ((dI rs (k+1)).length:Int))/\((wr.setCell ⟨w.heap.size+1,0,none⟩ (.int .i64 ((cn:Int)+(rs[k].rows.length:Int)))).alloc (.cells #[.string rs[k].name,.slice rs[k].ad rs[k].rows.length rs[k].cap] 36)).frozen? ⟨w.heap.size+1,0,none⟩=false/\w.heap.size+1<((wr.setCell ⟨w.heap.size+1,0,none⟩ (.int .i64 ((cn:Int)+(rs[k].rows.length:Int)))).alloc (.cells #[.string rs[k].name,.slice rs[k].ad rs[k].rows.length rs[k].cap] 36)).heap.size):=by
   obtain⟨X,hX⟩:=eQx (wr.setCell ⟨w.heap.size+1,0,none⟩ (.int .i64 ((cn:Int)+(rs[k].rows.length:Int))));have hXs:X.heap.size=wr.heap.size:=by rw[hX];simp
   have hB:ag X (X.alloc (.cells #[.string rs[k].name,.slice rs[k].ad rs[k].rows.length rs[k].cap] 36)):=(WL _ _).alloc (WK _) _;rw[<-hX];refine⟨aD hB (by omega) (by rw[hX,yY (by omega)];exact c0),aD hB (by omega) (by rw[hX,YO.out];push_cast;exact oL c1),?_,by simp;omega⟩;rw[hB.frozen (p:=⟨w.heap.size+1,0,none⟩) (by simp;omega),hX];simpa using c2
  clear hr hcn HC;go_wp2;go_roundw;case rel=>exact⟨k+1,by omega,by go_num,HB1,YH⟩
  simp[intOf]<;>omega
 obtain rfl:k=rs.length:=by omega
 have hEN:dI rs rs.length=ay (ae rs):=by unfold dI;rw[Xa]
 rw[hEN]at c1 hu;obtain⟨N,hN⟩:=eQx ((ay (ae rs)).length);rw[<-hN]at c1 hu;have HNN:O (N=(ay (ae rs)).length):=hN;have HEN:O (dI rs rs.length=ay (ae rs)):=hEN;have hN36:N<=36:=by omega
 have hbl:=HBL.out;have hwr:w.heap.size<=wr.heap.size:=HB.out.size;obtain⟨W0,hW0⟩:=eQx ((((wr.alloc (.map #[] 0)).alloc (.cells #[.map (some wr.heap.size)] 169)).alloc (.cells #[(.func (Fn.func 259) #[] #[.pointer (some ⟨wr.heap.size+1,0,none⟩),.pointer (some ⟨w.heap.size+1,0,none⟩),.pointer (some ⟨w.heap.size,0,none⟩),.pointer (some ⟨wr.heap.size+1+1,0,none⟩)])] 333)));have hal:ag wr W0:=by
  rw[hW0]
  repeat(first|exact WL _ _|refine Below.alloc ?_ (by first|(simp;done)|(simp;omega)) _)
 have hs0:W0.heap.size=wr.heap.size+3:=by rw[hW0];simp
 have HRW:O (Rw W0 (wr.heap.size+1) (w.heap.size+1) w.heap.size (wr.heap.size+1+1) wr.heap.size bL N 0 nL ML E (fun _=>none)):=by
  have hGr:Grp wr bL nL ML E:=HG.out.below HB.out;have hMV:aN dE prog 146 W0 wr.heap.size 0 (jD (fun _=>none)):=by
   have h1:=oM dE prog 146 wr;have e1:jD (fun _=>none)=fun _=>none:=by funext k;rfl
   rw[e1];refine h1.below ?_;rw[hW0]
   repeat(first|exact WL _ _|refine Below.alloc ?_ (by first|(simp;done)|(simp;omega)) _)
  have hcS:W0.cell? ⟨wr.heap.size+1,0,none⟩=some (.map (some wr.heap.size)):=by
   rw[hW0];exact aD ((WL _ _).alloc (WK _) _) (by simp) (PY wr _ _ _ 0 rfl)
  have hcR:W0.cell? ⟨wr.heap.size+1+1,0,none⟩=some (Gg (wr.heap.size+1) (w.heap.size+1) w.heap.size (wr.heap.size+1+1)):=by
   rw[hW0];exact U5 _ _ _ _ _ _ rfl
  exact⟨hcS,aD hal (by omega) c1,aD hal (by omega) c0,hcR,by omega,by omega,by omega,by omega,hMV,hGr.below hal,by omega,hGr.fresh (WK _)⟩
 have HB0:=iD HB hal;clear hu hEN hN hal HC;go_wp2_with fail;rw[<-hW0];clear hW0 c0 c1 c2 c3 HB;obtain⟨bS,hbS⟩:=eQx wr.heap.size;obtain⟨gS,hgS⟩:=eQx (wr.heap.size+1);obtain⟨gR,hgR⟩:=eQx (wr.heap.size+1+1);obtain⟨gC,hgC⟩:=eQx (w.heap.size+1);obtain⟨gL,hgL⟩:=eQx w.heap.size;have hb1:w.heap.size<=bS:=by omega
 have HRW2:O (Rw W0 gS gC gL gR bS bL N 0 nL ML E (fun _=>none)):=by rw[hbS,hgS,hgR,hgC,hgL];exact HRW
 have HI0:O (∃(σ:Ky->Option Int) (n:Nat),Rw W0 gS gC gL gR bS bL N n nL ML E σ/\Rz (ae rs) N σ/\(n:Int)+pE N σ (ay (ae rs))<=2000/\Raised E (fun _=>none) σ/\∀key∈dI rs 0,∃x,σ key=some x):=by
  refine⟨fun _=>none,0,HRW2.out,⟨fun k x h=>by cases h⟩,?_,Raised.refl _ _,fun k hk=>by simp[dI,ae,ay]at hk⟩;rw[Q5,<-HNN.out];have h1:(N:Int)*N<=36*36:=Int.mul_le_mul (by omega) (by omega) (by omega) (by omega)
  push_cast;omega
 rw[<-hgR,<-hgS,<-hbS,<-hgC,<-hgL];clear HRW HRW2 hs0 hmm hgR hgS hbS hgC hgL;go_loopw[31] (fun i w2=>∃k:Nat,k<=rs.length/\i=.int .i64 k/\O (ag w w2)/\O (∃(σ:Ky->Option Int) (n:Nat),Rw w2 gS gC gL gR bS bL N n nL ML E σ/\Rz (ae rs) N σ/\(n:Int)+pE N σ (ay (ae rs))<=2000/\Raised E (fun _=>none) σ/\∀key∈dI rs k,∃x,σ key=some x)) (fun i _=>rs.length-(intOf i).toNat);case atStart=>exact⟨0,WO _,rfl,HB0,HI0⟩
 clear HB0 HI0;obtain⟨k,hk,rfl,HB,HI⟩:=hrel;by_cases hlt:k<rs.length
 ·rcases HS.out.below HB.out with rfl|⟨b,off,rfl,hb,hr,-⟩
  ·simp at hlt
  obtain⟨t0,t1⟩:=hr k hlt;have hk1:=bY k;have hk2:(k:Int)<(rs.length:Int):=by omega
  have h6:=HRL.out _ (WH hlt);obtain⟨W1,hW1⟩:=eQx (wr.alloc (.cells #[.string rs[k].name,.slice rs[k].ad rs[k].rows.length rs[k].cap] 36));have hal:ag wr W1:=by rw[hW1];exact(WL _ _).alloc (WK _) _
  obtain⟨g12,hg12⟩:=eQx wr.heap.size;have hbw:bS<wr.heap.size:=by obtain⟨σ,n,hR,-⟩:=HI.out;exact hR.map.lt
  have HC12:O (W1.cell? ⟨g12,0,none⟩=some (.string rs[k].name)/\g12<W1.heap.size/\g12≠bS):=⟨by rw[hW1,hg12];simp,by rw[hW1,hg12];simp,by omega⟩;have HB1:=iD HB hal;have HI1:O (∃(σ:Ky->Option Int) (n:Nat),Rw W1 gS gC gL gR bS bL N n nL ML E σ/\Rz (ae rs) N σ/\(n:Int)+pE N σ (ay (ae rs))<=2000/\Raised E (fun _=>none) σ/\∀key∈dI rs k,∃x,σ key=some x):=by
   obtain⟨σ,n,hR,h2⟩:=HI.out;exact⟨σ,n,hR.below hal,h2⟩
  clear hr hal HI HB;go_wp2_with fail;rw[<-hW1,<-hg12];clear hW1 t0 t1 hg12;go_loopw[38] (fun i w3=>∃j:Nat,j<=rs[k].rows.length/\i=.int .i64 j/\O (ag w w3)/\O (w3.cell? ⟨g12,0,none⟩=some (.string rs[k].name)/\g12<w3.heap.size/\g12≠bS)/\O (∃(σ:Ky->Option Int) (n:Nat),Rw w3 gS gC gL gR bS bL N n nL ML E σ/\Rz (ae rs) N σ/\(n:Int)+pE N σ (ay (ae rs))<=2000/\Raised E (fun _=>none) σ/\∀key∈dI rs k++jy rs[k] j,∃x,σ key=some x)) (fun i _=>rs[k].rows.length-(intOf i).toNat);case atStart=>exact⟨0,WO _,rfl,HB1,HC12,by simpa[jy] using HI1⟩
  clear HB1 HC12 HI1;obtain⟨j,hj,rfl,HB,HC,HI⟩:=hrel;by_cases hjl:j<rs[k].rows.length
  ·rcases HS.out.below HB.out with hnil|⟨b',off',he,hb2,hr,hok⟩
   ·rw[hnil]at hlt;simp at hlt
   injection he with he;injection he with he1 he2;subst he1;subst he2;have ok:=hok rs[k] (WH hlt);rcases ok with hnil|⟨b2,X7,had,hbb,hr2,-⟩
   ·rw[hnil]at hjl;simp at hjl
   obtain⟨q0,q1⟩:=hr2 j hjl;have hj1:=bY j;have hj2:(j:Int)<(rs[k].rows.length:Int):=by omega
   obtain⟨σ,n,hR,hZ,hn,hRa,hall⟩:=HI.out;obtain⟨x0,x1,x2⟩:=HC.out;have cR:=hR.cR;unfold Gg at cR;have lR:=hR.lR.1;obtain⟨W3,hW3⟩:=eQx (wr.alloc (.cells #[.string rs[k].rows[j].name,.slice rs[k].rows[j].ad rs[k].rows[j].rows.length rs[k].rows[j].cap] 39));have hal:ag wr W3:=by rw[hW3];exact(WL _ _).alloc (WK _) _
   have HR3:=aB (hR.below hal);have HZ3:=aB hZ;have HB3:=iD HB hal;have HC3:O (W3.cell? ⟨g12,0,none⟩=some (.string rs[k].name)/\g12<W3.heap.size/\g12≠bS):=⟨aD hal x1 x0,WJ x1 hal.size,x2⟩;have HRA:O (Raised E (fun _=>none) σ):=hRa;have Yq:O (∀key∈dI rs k++jy rs[k] j,∃x,σ key=some x):=hall;have hmp:=hZ.mu_pos (ay (ae rs));have HKM:O ((rs[k].name,rs[k].rows[j].name)∈ay (ae rs)):=rA.2 ⟨rs[k].p,Xk (WH hlt),rs[k].rows[j].p,Xk (WH hjl),rfl⟩;rw[had];clear hr hok hr2 hal hR hZ hRa hall HI HB HC;go_wp2_with fail;rw[<-hW3];clear hW3 q0 q1 cR x0;refine(Oi (ae rs) gS gC gL gR bS bL N nL ML E HE.out HF.out HNN.out hN36 (Oj Yc.out) hEl (pE N σ (ay (ae rs))).toNat _ σ n (rs[k].name,rs[k].rows[j].name) 0 HR3.out HZ3.out (by omega) (by omega) HKM.out (by omega) (by omega) (ry.zero _ _)).mono ?_;rintro e w5 ⟨ok,σ5,n5,rfl,hg5,Ym,hZ5,hn5,hm5,hf5,ht5⟩;have Yo:O (ag w w5):=HB3.out.grown hg5 HB3.out.size (fun i hi=>by injection hi with hi;omega);cases ok;case false=>
    have HP:O (Q4 (ae rs) w (.returned (.tuple #[.map none,.bool false])) w5):=⟨.inr ⟨rfl,hf5 rfl⟩,Yo.out⟩;clear hg5 Ym hZ5 hn5 hm5 hf5 ht5;go_wp2;refine bodyPost_ret (v:=.tuple #[.map none,.bool false]) ?_ rfl HP.out;simp[results,Tryz.results186,go_sem]
   have HI5:O (∃(σ:Ky->Option Int) (n:Nat),Rw w5 gS gC gL gR bS bL N n nL ML E σ/\Rz (ae rs) N σ/\(n:Int)+pE N σ (ay (ae rs))<=2000/\Raised E (fun _=>none) σ/\∀key∈dI rs k++jy rs[k] (j+1),∃x,σ key=some x):=by
    obtain⟨hRa,y,hy,-⟩:=ht5 rfl;refine⟨σ5,n5,Ym,hZ5,by omega,HRA.out.trans hRa,fun key hk=>?_⟩;rw[uQ _ _ hjl,<-Xg]at hk;rcases WU.1 hk with hk|hk
    ·obtain⟨x,hx⟩:=Yq.out key hk;obtain⟨z,hz,-⟩:=hRa.mono key x hx;exact⟨z,hz⟩
    simp at hk;subst hk;exact⟨y,hy⟩
   have HC5:O (w5.cell? ⟨g12,0,none⟩=some (.string rs[k].name)/\g12<w5.heap.size/\g12≠bS):=⟨(lu hg5 HC3.out.2 0).trans HC3.out.1,WJ HC3.out.2.1 hg5.size,HC3.out.2.2⟩;clear hg5 Ym hZ5 hn5 hm5 hf5 ht5;go_wp2;go_roundw;case rel=>exact⟨j+1,by omega,by go_num,Yo,HC5,HI5⟩
   simp[intOf]<;>omega
  obtain rfl:j=rs[k].rows.length:=by omega
  have HI5:O (∃(σ:Ky->Option Int) (n:Nat),Rw wr gS gC gL gR bS bL N n nL ML E σ/\Rz (ae rs) N σ/\(n:Int)+pE N σ (ay (ae rs))<=2000/\Raised E (fun _=>none) σ/\∀key∈dI rs (k+1),∃x,σ key=some x):=by rw[qh _ _ hlt];exact HI
  clear HI;go_wp2;go_roundw;case rel=>exact⟨k+1,by omega,by go_num,HB,HI5⟩
  simp[intOf]<;>omega
 obtain rfl:k=rs.length:=by omega
 obtain⟨σ,n,hR,hZ,hn,hRa,hall⟩:=HI.out;have cS:=hR.cS;have HP:O (Q4 (ae rs) w (.returned (.tuple #[.map (some bS),.bool true])) wr):=by
  rw[HEN.out]at hall;refine⟨.inl ⟨bS,n,σ,rfl,hR.map,Gf HE.out HF.out hZ hall (fun k=>hRa.done k (.inl (fun x h=>by cases h))),fun k=>⟨fun⟨x,hx⟩=>(hZ.there k x hx).1,hall k⟩⟩,HB.out⟩
 clear hR hZ hn hRa hall HI;go_wp2;refine bodyPost_ret (v:=.tuple #[.map (some bS),.bool true]) ?_ rfl HP.out;simp[results,Tryz.results186,go_sem]
def Ol(ng:Bool)(xs:Q0a):dw ng xs=(dQ xs).map fun a=>(⟨a.t,a.s,ng⟩:Dp):=by
 induction xs with
 | nil=>rfl
 | cons a xs ih=>simp only[dw,dQ];split<;>simp[ih]
def EF(ts:Q0b)(typ:bN)(ng:Bool)(e:Ex)(hn:ax e=true)(hd:e.kind=3->bH (aj ts typ e.over)=true):dw ng e.allow++lW ts typ ng e=(jO ts typ e).map fun a=>(⟨a.t,a.s,ng⟩:Dp):=by
 by_cases h1:e.kind=1
 ·unfold lW jO;rw[if_neg cq,if_neg cq,if_pos h1,XL,Ol]
 rw[uX hn h1];unfold lW jO;rw[if_neg h1];by_cases h2:e.kind=2
 ·rw[if_pos h2,if_pos h2];rfl
 rw[if_neg h2,if_neg h2];by_cases h3:e.kind=3
 ·rw[if_pos h3,if_pos h3];unfold gX;rw[if_pos (hd h3),List.map_map];rfl
 rw[if_neg h3,if_neg h3];rfl
def EG{ts:Q0b}{typ:ByteArray}{es:Q09}{d:Dp}{i:Nat}(hd:d∈iV ts typ es i):∀{k:Nat},i<k->d∈aR ts typ es k
 | 0,h=>cq
 | k+1,h=>by
  simp only[aR];by_cases e:i=k
  ·subst e;exact WU.2<|.inr hd
  exact WU.2<|.inl<|EG hd cq
def BP{ts:Q0b}{t r:ByteArray}{es:Q09}{x:Ky×St}:∀{k:Nat},x∈relE ts t r es k ↔ ∃i,i<k/\∃e,es[i]?=some e/\x∈BO ts t r ((dH es).getD i false) e
 | 0=>by simp[relE]
 | k+1=>by
  simp only[relE,WU];rw[BP];constructor
  ·rintro(⟨i,hi,h⟩|h)
   ·exact⟨i,cq,h⟩
   cases e:es[k]? with
   | none=>rw[e]at h;cases h
   | some y=>rw[e]at h;exact⟨k,cq,y,e,h⟩
  rintro⟨i,hi,e,he,h⟩;by_cases ek:i=k
  ·subst ek;right;rw[he];exact h
  exact .inl ⟨i,cq,e,he,h⟩
def nu{rs:Q06}(h:bB (ae rs)=true){t:TR}(ht:t∈rs){q:RR}(hq:q∈t.rows):fB (ae rs) t.name q.name=some (ai q.rows):=by
 have hT:=rM h;have hs:=uu (M:=fun _=>none) (rs:=rs) (k:=(t.name,q.name)) (.inr ⟨t,ht,q,hq,rfl⟩);obtain⟨v,hv⟩:=Option.isSome_iff_exists.1 hs;obtain⟨t',ht',q',hq',e,-,e2,-⟩:=hT.yes _ v hv;injection e with e3 e4;have h1:t=t':=H5 h ht ht' e3;subst h1;obtain⟨i,hi,rfl⟩:=XA.1 ht;have h2:q=q':=H6 (mq h i hi).2.2 hq hq' e4;subst h2;exact e2
def dR{es:Q09}(h:aK es=true):∀e∈es,ax e=true:=by
 simp only[aK,WM]at h;exact WT.1 h.1.1.1.2
def Iz(t r:bN)(ng:Bool):stepOf ⟨t,r,ng⟩=zu ng:=by cases ng<;>rfl
def TF{rs:Q06}(h:bB (ae rs)=true)(hr:iG (ae rs)=true):Edge (ae rs) (jR (ae rs) rs):=by
 have X0:∀t∈rs,∀q∈t.rows,∀e∈ai q.rows,ax e=true/\(e.kind=3->bH (aj (ae rs) t.name e.over)=true):=by
  intro t ht q hq e he;have h1:=((aW h).2.2 t ht q hq).1;refine⟨dR h1 e he,fun h3=>?_⟩;unfold iG at hr;rw[WT]at hr;have h2:=hr t.p<|Xk ht;unfold rz at h2;rw[WT]at h2;have h4:aT (ae rs) t.name (ai q.rows)=true:=h2 q.p<|Xk hq;have h5:=(D7 h4 e he).2;unfold l8 at h5;rw[if_neg cq,if_pos h3,WM]at h5;exact h5.1
 intro on t0 r0 s;constructor
 ·intro hm;unfold jR jQ at hm;rw[Xd]at hm;obtain⟨t,ht,hm⟩:=hm;rw[Xd]at hm;obtain⟨q,hq,hm⟩:=hm;obtain⟨i,hi,e,he,hm⟩:=BP.1 hm;unfold BO at hm;obtain⟨a,ha,e1⟩:=WV.1 hm;injection e1 with e2 e3;injection e3 with e4 e5 e6;subst e4;subst e5;refine⟨rA.2 ⟨t.p,Xk ht,q.p,Xk hq,rfl⟩,⟨a.t,a.s,(dH<|ai q.rows).getD i false⟩,?_,e2,by rw[Iz];exact e6⟩;unfold iW qR;have ero:aj (ae rs) t.name q.name=ai q.rows:=by unfold aj;rw[nu h ht hq];rfl
  simp only[ero];have hi2:i<(ai q.rows).length:=(List.getElem?_eq_some_iff.1 he).1;refine EG (i:=i) ?_ hi2;unfold iV;rw[he];obtain⟨n1,n2⟩:=X0 t ht q hq e<|XO he;simp only;rw[EF _ _ _ _ n1 n2];exact Xk (f:=fun a:Al=>(⟨a.t,a.s,(dH<|ai q.rows).getD i false⟩:Dp)) ha
 rintro⟨hk,d,hd,e1,e2⟩;obtain⟨t',ht',r',hr',e3⟩:=rA.1 hk;obtain⟨t,ht,rfl⟩:=WV.1 ht';obtain⟨q,hq,rfl⟩:=WV.1 hr';injection e3 with e4 e5;subst e4;subst e5;unfold iW qR at hd;have ero:aj (ae rs) t.p.name q.p.name=ai q.rows:=by
  have:=nu h ht hq;show aj (ae rs) t.name q.name=_;unfold aj;rw[this];rfl
 simp only[ero]at hd;obtain⟨i,hi,hd⟩:=uP hd;unfold iV at hd;split at hd
 ·cases hd
 rename_i e he;obtain⟨n1,n2⟩:=X0 t ht q hq e<|XO he;have hdn:dw ((dH<|ai q.rows).getD i false) e.allow++lW (ae rs) t.p.name ((dH<|ai q.rows).getD i false) e=_:=EF (ae rs) t.name _ e n1 n2;rw[hdn]at hd;obtain⟨a,ha,rfl⟩:=WV.1 hd;unfold jR jQ;rw[Xd];refine⟨t,ht,?_⟩;rw[Xd];refine⟨q,hq,BP.2 ⟨i,by rw[au]at hi;exact hi,e,he,?_⟩⟩;unfold BO;rw[WV];refine⟨a,ha,?_⟩;rw[<-e1,<-e2,Iz];rfl
def Q6{rs:Q06}(h:bB (ae rs)=true):∀r∈rs,∀q∈r.rows,∀e∈q.rows,e.e.allow.length<=6:=by
 intro r hr q hq e he;have h1:=dR ((aW h).2.2 r hr q hq).1 e.e (by unfold ai;exact Xk he);by_cases h2:e.e.kind=1
 ·unfold ax at h1;rw[if_pos h2]at h1;simp only[WM,dF,WW]at h1;exact h1.1.1.1.1.2
 rw[uX h1 h2];simp
def rW{α β:Type}(f:α->List β)(B:Nat):∀(xs:List α),(∀x∈xs,(f x).length<=B)->(xs.flatMap f).length<=xs.length*B
 | [],_=>ct
 | x::xs,h=>by
  rw[Xr,WP,Xq,Nat.succ_mul];have h1:=h x ct;have h2:=rW f B xs fun q hq=>h q (by simp[hq]);omega
def Om(rs:Q06)(h6:∀r∈rs,r.rows.length<=6)(hex:∀r∈rs,∀q∈r.rows,aK (ai q.rows)=true/\q.rows.length<=15/\∀e∈q.rows,fF q.rows.length e.e.kids)(h66:∀r∈rs,∀q∈r.rows,∀e∈q.rows,e.e.allow.length<=6)(hl:rs.length<=6:=by omega):(jR (ae rs) rs).length<=100000:=by
 have h1:∀t∈rs,(jQ (ae rs) t.name t.rows).length<=540:=by
  intro t ht;have h2:∀q∈t.rows,(relE (ae rs) t.name q.name (ai q.rows) q.rows.length).length<=90:=by
   intro q hq;have h3:∀k,k<=q.rows.length->(relE (ae rs) t.name q.name (ai q.rows) k).length<=k*6:=by
    intro k
    induction k with
    | zero=>intro _;simp[relE]
    | succ k ih =>
     intro hk;rw[Ez _ _ _ _ _ cq _ rfl,WP];have h4:=ih cq;have h5:(BO (ae rs) t.name q.name ((dH<|ai q.rows).getD k false) q.rows[k].e).length<=6:=by
      unfold BO;rw[Xv];exact ED rs h66 _ _<|h66 t ht q hq _<|WH cq
     omega
   have h4:=h3 q.rows.length<|WK _;have h5:=(hex t ht q hq).2.1;omega
  have h3:=rW (fun q:RR=>relE (ae rs) t.name q.name (ai q.rows) q.rows.length) 90 t.rows h2;have h4:=h6 t ht;unfold jQ;omega
 have h2:=rW (fun t:TR=>jQ (ae rs) t.name t.rows) 540 rs h1;unfold jR;omega
end Go.Proofs.YtojjoblnpldniaaGreat
