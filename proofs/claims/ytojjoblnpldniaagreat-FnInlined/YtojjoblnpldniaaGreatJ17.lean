/- What the program's Inlined asks and calls: whether a node names the relation, or tuples; a leaf, or the relation's whole. -/
import Derived.Test.YtojjoblnpldniaaGreatSq
import Derived.Test.YtojjoblnpldniaaGreatJ13
import Derived.Test.YtojjoblnpldniaaGreatJ15
open Go.Proofs.Tryz
set_option maxHeartbeats 80000000
set_option linter.defProp false
namespace Go.Proofs.YtojjoblnpldniaaGreat
set_option maxRecDepth 100000
set_option linter.unusedVariables false
open ChangeShapes WideShapes ChangeAt RowKit Maps
open Pl
def eX(rel:ByteArray)(e:Ex):Bool:=decide (e.kind=2)&&(e.name.toList==rel.toList)
def kz(e:Ex):Bool:=decide (e.kind=1)
def Vz(xs:Array Value)(u:af):(callFunc 115 xs).run prog u=.ok (.enter 115 xs) u:=cw
def Uh(xs:Array Value)(u:af):(callFunc 118 xs).run prog u=.ok (.enter 118 xs) u:=cw
def VC(xs:Array Value)(u:af):(callFunc 117 xs).run prog u=.ok (.enter 117 xs) u:=cw
def Mi(x:ER)(w:af):Calls prog 117 #[x.val] w (bj w<|.bool<|kz x.e):=by
 have HB:O (ag w<|w.alloc<|.cells (ce x) 43):=(WL _ _).alloc (WK _) _;go_enter func117,ntmps117;unfold ER.val;cases hk:(x.e.kind==1);case false=>
  have HR:O (kz x.e=false):=decide_eq_false (by simpa using hk);have hk2:decide (x.e.kind=1)=false:=decide_eq_false (by simpa using hk);go_wp2;go_ret;exact⟨by rw[HR];rfl,HB⟩
 have HR:O (kz x.e=true):=decide_eq_true (by simpa using hk);have hk2:decide (x.e.kind=1)=true:=decide_eq_true (by simpa using hk);go_wp2;go_ret;exact⟨by rw[HR];rfl,HB⟩
def Fs(g:Nat)(rel:bN)(x:ER)(w:af)(hg:cU g w)(hc:w.cell? (am g)=some (.string rel)):
  Calls prog 115 #[x.val,.pointer<|some<|am g] w (bj w<|.bool<|eX rel x.e):=by
 have HB:O (ag w<|w.alloc<|.cells (ce x) 43):=(WL _ _).alloc (WK _) _;go_enter func115,ntmps115;unfold ER.val;cases hk:(x.e.kind==2);case false=>
  have hk2:decide (x.e.kind=2)=false:=decide_eq_false (by simpa using hk);have HR:O (eX rel x.e=false):=by show _=_;unfold eX;rw[hk2];rfl
  go_wp2;go_ret;exact⟨by rw[HR];rfl,HB⟩
 have hk2:decide (x.e.kind=2)=true:=decide_eq_true (by simpa using hk);have HR:O (eX rel x.e=(x.e.name.toList==rel.toList)):=by show _=_;unfold eX;rw[hk2];rfl
 cases hn:(x.e.name.toList==rel.toList);case false=>
  have HR2:O (eX rel x.e=false):=HR.trans hn;go_wp2;go_ret;exact⟨by rw[HR2];rfl,HB⟩
 have HR2:O (eX rel x.e=true):=HR.trans hn;go_wp2;go_ret;exact⟨by rw[HR2];rfl,HB⟩
def iw.rowI{w:af}{ad:Q02}{rs:Q08}(h:iw w ad rs){k:Nat}(hk:k<rs.length):∃b off,ad=some (aq b off)/\vP w b (off+k*5) rs[k]/\b<w.heap.size:=by
 rcases h with h|⟨b',off',e,hb,hr,-⟩
 ·rw[h]at hk;simp at hk
 exact⟨b',off',e,hr k hk,hb⟩
def Mj(FC:Nat)(rc cp:Array Value)(p:Ex->Bool)(ad:Q02)(cap:Nat)(xs:Q08)(w:af)(hlen:bh xs)(hs:iw w ad xs)
  (hrun:∀(ys:Array Value) (u:World),(callFunc FC ys).run prog u=.ok (.enter FC ys) u) (hp:∀x∈xs,∀w1:World,ag w w1->Calls prog FC (rc.push x.val++cp) w1 (bj w1<|.bool<|p x.e)) :
  Calls prog 189 #[.slice ad xs.length cap,.func (Fn.func FC) rc cp] w fun e w'=>(∃r:Int,e=.returned (.int .i64 r)/\decide (0<=r)=(ai xs).any p)/\ag w w':=by
 have HS:=aF hs;have Z7:=aF hrun;have HP:=aF hp;clear hs hrun hp;have HD:O (∀k (h:k<xs.length),((ai xs).drop k).any p=(p xs[k].e || ((ai xs).drop<|k+1).any p)):=fun k h=>by
  rw[I1 p (ai xs) k (by rw[au];exact h),qE h]
 go_enter func189,ntmps189;go_wp2_with fail;go_loopw[8] (fun i wr=>∃k:Nat,k<=xs.length/\i=.int .i64 k/\O (((ai xs).drop k).any p=(ai xs).any p)/\O (ag w wr)) (fun i _=>xs.length-(intOf i).toNat);case atStart=>exact⟨0,WO _,rfl,rfl,WL _ _⟩
 obtain⟨k,hk,rfl,HQ,HB⟩:=hrel;by_cases hlt:k<xs.length
 ·obtain⟨b,off,Yb,hrow,hbl⟩:=iw.rowI HS hlt;obtain⟨t0,t1,t2,t3,t4⟩:=hrow.same fun o=>HB.cell (p:=⟨b,o,none⟩) hbl;have HM:O (xs[k]∈xs):=WH hlt;have hk1:=bY k;have hk2:(k:Int)<(xs.length:Int):=cq
  have HD2:=aF<|HD k hlt;rw[Yb];clear hrow Yb;go_wp2_with fail;rw[Z7,Oper.upon_enter];refine(HP _ HM _ HB).mono ?_;rintro e w1 ⟨rfl,hb1⟩;have HB1:=iD HB hb1;clear hb1 t0 t1 t2 t3 t4;cases he:p xs[k].e;case true=>
   have HN:O ((ai xs).any p=true):=by show _=_;rw[<-HQ,HD2,he];rfl
   go_wp2;go_ret;exact⟨⟨k,rfl,by rw[HN];simp⟩,HB1⟩
  have HQ2:O (((ai xs).drop<|k+1).any p=(ai xs).any p):=by show _=_;rw[<-HQ,HD2,he];rfl
  go_wp2;go_roundw;case rel=>exact⟨k+1,cq,cx,HQ2,HB1⟩
  simp[intOf]<;>omega
 have HN:O ((ai xs).any p=false):=by show _=_;rw[<-HQ,Xm<|by rw[au];omega];rfl
 go_wp2;go_ret;exact⟨⟨-1,rfl,by rw[HN];simp⟩,HB⟩
def uF(FC:Nat)(rc cp:Array Value)(p:Ex->Bool)(ad:Q02)(cap:Nat)(xs:Q08)(w:af)(hlen:bh xs)(hs:iw w ad xs)
  (hrun:∀(ys:Array Value) (u:World),(callFunc FC ys).run prog u=.ok (.enter FC ys) u) (hp:∀x∈xs,∀w1:World,ag w w1->Calls prog FC (rc.push x.val++cp) w1 (bj w1<|.bool<|p x.e)) :
  Calls prog 116 #[.slice ad xs.length cap,.func (Fn.func FC) rc cp] w (bj w<|.bool<|(ai xs).any p):=by
 have HC:=aF<|Mj FC rc cp p ad cap xs w hlen hs hrun hp;clear hs hrun hp;go_enter func116,ntmps116;go_wp2_with fail;refine HC.mono ?_;rintro e w' ⟨⟨r,rfl,hr⟩,hbx⟩;have HR:=aF hr;clear hr;go_wp2;go_ret;exact⟨by rw[<-HR];rfl,hbx⟩
def eF(typ rel:ByteArray)(body:Q09)(tn:ByteArray)(e:Ex):List Ex:=if (tn.toList==typ.toList)&&eX rel e then body else [e]
def iw.keepB{w w2:af}{ad:Q02}{xs:Q08}(h:iw w ad xs)(hs:cV w w2)(hb:∀g,g<w.heap.size->w2.heap[g]?=w.heap[g]?):iw w2 ad xs:=by
 rcases h with h|⟨b,off,e,hb',hr,hk⟩
 ·exact .inl h
 exact .inr ⟨b,off,e,WJ hb' hs,fun i hi=>(hr i hi).same fun o=>WX (a:=⟨b,o,none⟩)<|hb b hb',fun q hq=>⟨(hk q hq).1.keepB hs hb,(hk q hq).2.keepB hs hb⟩⟩
def Pp(gT gN gE gR:Nat)(typ rel tn:bN)(r:ER)(X9:Q02)(capE:Nat)(rows:Q08)(w:af)(hok:r.ok w)(hl:gT<w.heap.size/\gN<w.heap.size/\gE<w.heap.size/\gR<w.heap.size)
  (hc:w.cell? (am gT)=some (.string typ)/\w.cell? (am gN)=some (.func (Fn.func 115) #[] #[.pointer (some<|am gR)])/\w.cell? (am gE)=some (.slice X9 rows.length capE)/\w.cell? (am gR)=some (.string rel)) (hse:iw w X9 rows) :
  zx 118 #[] #[.pointer (some<|am gT),.pointer<|some<|am gN,.pointer<|some<|am gE] tn (eF typ rel (ai rows) tn) w r:=by
 intro w1 hb1;have Yn:=aF hok;have HB1:=aF hb1;have HSE:=aF hse;obtain⟨l1,l2,l3,l4⟩:=hl;obtain⟨c1,c2,c3,c4⟩:=hc;replace c1:=kept hb1 l1 c1;replace c2:=kept hb1 l2 c2;replace c3:=kept hb1 l3 c3;replace c4:=kept hb1 l4 c4;replace l1:=WJ l1 hb1.size;replace l2:=WJ l2 hb1.size;replace l3:=WJ l3 hb1.size;replace l4:=WJ l4 hb1.size;obtain⟨W2,hW2⟩:=eQx<|w1.alloc<|.cells (ce r) 43;have HB2:=tZ hW2;have Yr:O (ab W2 gR (.string rel)/\ab W2 gE (.slice X9 rows.length capE)/\gR<W2.heap.size/\gE<W2.heap.size):=⟨kept HB2 l4 c4,kept HB2 l3 c3,WJ l4 HB2.size,WJ l3 HB2.size⟩;have HD:O (W2.cell? (a7 w1)=some (.int .i64 r.e.kind)/\W2.cell? (a8 w1 1)=some (.slice r.adA r.e.allow.length r.capA)/\W2.cell? (a8 w1 2)=some (.string r.e.over)/\W2.cell? (a8 w1 3)=some (.string r.e.name)/\W2.cell? (a8 w1 4)=some (.slice r.adK r.e.kids.length r.capK)/\w1.heap.size<W2.heap.size):=by
  show _/\_;rw[hW2];exact⟨ct,ct,ct,ct,ct,ct⟩
 have HKB:O (∀w2 w3:World,ag w1 w3->w3.heap.size<=w2.heap.size->(∀g,g<w3.heap.size->(g<w.heap.size\/w1.heap.size<=g)->w2.heap[g]?=w3.heap[g]?)->w.heap.size<=w2.heap.size/\∀g,g<w.heap.size->w2.heap[g]?=w.heap[g]?):=fun w2 w3 h3 hs hk=>by
  have h1:=HB1.size;have h2:=h3.size;exact⟨cq,fun g hg=>by rw[hk g cq (.inl hg),h3.block g cq,HB1.block g hg]⟩
 clear hok hb1 hse;show Calls prog 118 #[.string tn,r.val,.pointer<|some<|am gT,.pointer<|some<|am gN,.pointer<|some<|am gE] w1 _;go_enter func118,ntmps118;unfold ER.val;cases ht:(tn.toList==typ.toList);case false=>
  have HF:O (eF typ rel (ai rows) tn r.e=[r.e]):=by show _=_;unfold eF;rw[ht];rfl
  obtain⟨W3,hW3⟩:=eQx<|(w1.alloc<|.cells (ce r) 43).alloc<|.cells (ce r) 43;have HB3:O (ag w1 W3):=by show Below _ _ _;rw[hW3];exact((WL _ _).alloc (WK _) _).alloc ct _
  have HN3:O (W3.heap[w1.heap.size+1]?=some (.cells (ce r) 43 (0,0))/\w1.heap.size+1<W3.heap.size):=by
   show _/\_;rw[hW3,<-hW2];have:=heap_alloc_new W2<|.cells (ce r) 43;rw[show W2.heap.size=w1.heap.size+1 by rw[hW2];simp]at this;exact⟨this,by rw[hW2];simp⟩
  clear hW2;go_wp2;rw[<-hW3];go_ret;refine⟨_,_,[r],rfl,by rw[HF];rfl,HB3,fun w2 hs hk=>?_⟩;obtain⟨k1,k2⟩:=HKB w2 _ HB3 hs hk;exact M7 HN3.1 HN3.2 hs (hk _ HN3.2<|.inr<|Nat.le_succ _) ⟨Yn.1.keepB k1 k2,Yn.2.keepB k1 k2⟩
 go_wp2_with fail;rw[<-hW2];clear hW2 c1 c2 c3 c4;refine(Fs gR rel r W2 Yr.2.2.1 Yr.1).mono ?_;rintro e w3 ⟨rfl,hb3⟩;have HB3:=iD HB2 hb3;have e1:=kept hb3 Yr.2.2.2 Yr.2.1;obtain⟨d0,d1,d2,d3,d4,d5⟩:=HD.out;replace d0:=kept hb3 d5 d0;replace d1:=kept hb3 d5 d1;replace d2:=kept hb3 d5 d2;replace d3:=kept hb3 d5 d3;replace d4:=kept hb3 d5 d4;have HS3:O (w1.heap.size<=w3.heap.size):=HB3.size;clear hb3;cases hn:eX rel r.e;case true=>
  have HF:O (eF typ rel (ai rows) tn r.e=ai rows):=by show _=_;unfold eF;rw[ht,hn];rfl
  clear hn;go_wp2;go_ret;refine⟨X9,capE,rows,rfl,by rw[HF],HB3,fun w2 hs hk=>?_⟩;obtain⟨k1,k2⟩:=HKB w2 _ HB3 hs hk;exact HSE.keepB k1 k2
 have HF:O (eF typ rel (ai rows) tn r.e=[r.e]):=by show _=_;unfold eF;rw[ht,hn];rfl
 obtain⟨W4,YR⟩:=eQx<|w3.alloc<|.cells (ce r) 43;have YF:O (ag w1 W4):=by show Below _ _ _;rw[YR];exact HB3.alloc HB3.size _
 have HN4:O (W4.heap[w3.heap.size]?=some (.cells (ce r) 43 (0,0))/\w3.heap.size<W4.heap.size):=by
  show _/\_;rw[YR];exact⟨heap_alloc_new w3 _,ct⟩
 clear hn;go_wp2;rw[<-YR];go_ret;refine⟨_,_,[r],rfl,by rw[HF];rfl,YF,fun w2 hs hk=>?_⟩;obtain⟨k1,k2⟩:=HKB w2 _ YF hs hk;exact M7 HN4.1 HN4.2 hs (hk _ HN4.2<|.inr HS3) ⟨Yn.1.keepB k1 k2,Yn.2.keepB k1 k2⟩
def kP(ts:Q0b)(typ rel:ByteArray):Option (List Ty):=if aG ts && !(aj ts typ rel).isEmpty && !(aj ts typ rel).any (eX rel) && !(aj ts typ rel).any kz&&aG (jE (eF typ rel<|aj ts typ rel) ts) then some (jE (eF typ rel<|aj ts typ rel) ts) else none
def Nc(f:Ex->List Ex)(es:Q09):∀k,k<=es.length->∀m∈(aI f es k).1,∃(e':Ex) (g:Int->Int),(e'∈es \/ ∃e∈es,e'∈f e)/\m=eT g e'
 | 0,_,m,hm=>by rw[iZ]at hm;cases hm
 | k+1,hk,m,hm=>by
  rw[fD f es k cq]at hm;have ih:=Nc f es k cq;have hmem:es[k]∈es:=WH _;unfold gY at hm;split at hm
  ·rcases WU.1 hm with hm|hm
   ·exact ih m hm
   obtain⟨e',he',rfl⟩:=WV.1 hm;exact⟨e',_,.inr ⟨_,hmem,he'⟩,rfl⟩
  rcases WU.1 hm with hm|hm
  ·exact ih m hm
  rw[WZ]at hm;exact⟨es[k],_,.inl hmem,hm⟩
def yO{f:ByteArray->Ex->List Ex}{rs qs:Q06}(h:ae qs=jE f (ae rs))(P:Ex->Prop)(hmv:∀e g,P e->P (eT g e))(hP:∀t∈rs,∀q∈t.rows,∀x∈q.rows,P x.e/\∀e∈f t.name x.e,P e):∀t∈qs,∃s∈rs,t.name=s.name/\t.rows.length=s.rows.length/\∀q∈t.rows,∃q'∈s.rows,q.name=q'.name/\q.rows.length=(dB (f s.name)<|ai q'.rows).length/\∀x∈q.rows,P x.e:=by
 intro t ht;have h1:t.p∈ae qs:=Xk ht;rw[h]at h1;obtain⟨s',hs',e⟩:=WV.1 h1;obtain⟨s,hs,rfl⟩:=WV.1 hs';injection e with e1 e2;refine⟨s,hs,e1.symm,?_,fun q hq=>?_⟩
 ·rw[<-dP,<-e2,Xv];show(df s.rows).length=_;rw[dP]
 have h2:q.p∈df t.rows:=Xk hq;rw[<-e2]at h2;obtain⟨q0,hq0,e3⟩:=WV.1 h2;obtain⟨q',hq',rfl⟩:=WV.1 hq0;injection e3 with e4 e5;replace e5:dB (f s.name) (ai q'.rows)=ai q.rows:=e5;refine⟨q',hq',e4.symm,by rw[e5,au],fun x hx=>?_⟩;have h3:x.e∈ai q.rows:=Xk hx;rw[<-e5]at h3;obtain⟨e',g,hor,e6⟩:=Nc (f s.name) (ai q'.rows) _ (WK _) _ h3;rw[e6];refine hmv _ _ ?_;rcases hor with h4|⟨y,hy,h4⟩
 ·obtain⟨x',hx',rfl⟩:=WV.1 h4;exact(hP s hs q' hq' x' hx').1
 obtain⟨x',hx',rfl⟩:=WV.1 hy;exact(hP s hs q' hq' x' hx').2 _ h4
structure PJ(w2:World)(C:Nat->Value)(M:ByteArray×ByteArray->Option Value)(ex:Value)(l:Nat->Bool)(f:Nat->Value)(w:World):Prop where
 val:∀k,k<9->k≠1->l k=true->f k=C k
 bel:ag w2 w
 c1:l 1=true->∃b,f 1=.map (some b)/\aN dE prog 146 w b 36 M
 a9:l 9=true->∃g,f 9=.pointer (some ⟨g,0,none⟩)/\w2.heap.size<=g/\w.heap[g]?=some (.cells #[if l 10=true then ex else .slice none 0 0] 37 (0,0))
 o10:l 10=true->l 9=true
section
variable  {w2 w w':World}{C:Nat->Value}{M:ByteArray×ByteArray->Option Value}{ex:Value}{l:Nat->Bool}{f:Nat->Value}
def PJ.later(h:PJ w2 C M ex l f w)(hb:ag w w'):PJ w2 C M ex l f w' where
 val:=h.val
 bel:=h.bel.trans<|hb.mono h.bel.size
 c1 hl:=by obtain⟨b,e,hm⟩:=h.c1 hl;exact⟨b,e,hm.below hb⟩
 a9 hl:=by obtain⟨g,e,h1,h2⟩:=h.a9 hl;exact⟨g,e,h1,(hb.block g<|lt_of_some h2).trans h2⟩
 o10:=h.o10
def PJ.put(h:PJ w2 C M ex l f w){i:Nat}(hi:i<9)(h1:i≠1){v:Value}(hv:v=C i):PJ w2 C M ex (fun k=>if k=i then true else l k) (upd f i v) w:=by
 have e1:(if (1:Nat)=i then true else l 1)=l 1:=if_neg<|Ne.symm h1;have e9:(if (9:Nat)=i then true else l 9)=l 9:=if_neg cq;have e10:(if (10:Nat)=i then true else l 10)=l 10:=if_neg cq;refine⟨fun k hk hk1 hl=>?_,h.bel,fun hl=>?_,fun hl=>?_,fun hl=>?_⟩
 ·by_cases e:k=i
  ·subst e;simp[upd,hv]
  rw[if_neg e]at hl;simp only[upd,if_neg e];exact h.val k hk hk1 hl
 ·simp only[upd,if_neg<|Ne.symm h1];exact h.c1<|e1.symm.trans hl
 ·simp only[e10,upd];rw[if_neg (show(9:Nat)≠i by omega)];exact h.a9<|e9.symm.trans hl
 exact e9.trans<|h.o10<|e10.symm.trans hl
def PJ.call(h:PJ w2 C M ex l f w){b:Nat}(hm:aN dE prog 146 w b 36 M):PJ w2 C M ex (fun k=>if k=1 then true else l k) (upd f 1<|.map<|some b) w:=by
 refine⟨fun k hk hk1 hl=>?_,h.bel,fun _=>⟨b,by simp[upd],hm⟩,fun hl=>?_,fun hl=>?_⟩
 ·rw[if_neg hk1]at hl;simp only[upd,if_neg hk1];exact h.val k hk hk1 hl
 ·simpa[upd] using h.a9 hl
 exact h.o10 hl
def PJ.alloc(h:PJ w2 C M ex l f w)(hl9:l 9=false):PJ w2 C M ex (fun k=>if k=9 then true else l k) (upd f 9<|.pointer<|some<|am w.heap.size) (w.alloc<|.cells #[.slice none 0 0] 37):=by
 have h2:=h.later<|(WL _ _).alloc (WK _)<|.cells #[.slice none 0 0] 37;have h10:l 10=false:=by
  cases e:l 10;case false=>rfl
  have:=h.o10 e;rw[hl9]at this;cases this
 refine⟨fun k hk hk1 hl=>?_,h2.bel,fun hl=>?_,fun hl=>⟨w.heap.size,by simp[upd],h.bel.size,?_⟩,fun hl=>ct⟩
 ·rw[if_neg (show k≠9 by omega)]at hl;simp only[upd];rw[if_neg (show k≠9 by omega)];exact h.val k hk hk1 hl
 ·simpa[upd] using h2.c1 hl
 have e:(if (10:Nat)=9 then true else l 10)=false:=h10;simp only[e];exact heap_alloc_new w _
def PJ.store(h:PJ w2 C M ex l f w)(h9:l 9=true){g:Nat}(hg:f 9=.pointer (some<|am g)):PJ w2 C M ex (fun k=>if k=10 then true else l k) (upd f 10 undef) (w.setCell (am g) ex):=by
 obtain⟨g',e1,e2,e3⟩:=h.a9 h9;rw[hg]at e1;injection e1 with e1;injection e1 with e1;injection e1 with e1;subst e1;refine⟨fun k hk hk1 hl=>?_,h.bel.setCell e2 _,fun hl=>?_,fun hl=>⟨g,by simpa[upd] using hg,e2,?_⟩,fun _=>h9⟩
 ·rw[if_neg (show k≠10 by omega)]at hl;simp only[upd];rw[if_neg (show k≠10 by omega)];exact h.val k hk hk1 hl
 ·obtain⟨b,q1,q3⟩:=h.c1 hl;exact⟨b,by simpa[upd] using q1,q3.setCell (fun e=>L9 (b:=b) q3<|by rw[e];exact e3) _⟩
 have e:(if (if (10:Nat)=10 then true else l 10)=true then ex else Value.slice none 0 0)=ex:=ct;rw[e];exact Pb e3
end
def zZ(ad:Q02)(cap:Nat)(rs:Q06)(typ rel:bN)(w:af)(hlen:rs.length<=1048576)(hs:jX w ad rs)(hl:∀r∈rs,r.light)(hf:∀r∈rs,r.fits)(hcp:∀r∈rs,r.caps)(ht:typ.size<=maxLen)(hr:rel.size<=maxLen):
  Calls prog 45 #[.slice ad rs.length cap,.string typ,.string rel] w (Vu w<|kP (ae rs) typ rel):=by
 obtain⟨kl,hkl⟩:=j3 (typ,rel) ht hr;have YU:O (keyOf prog 146 (dE (typ,rel))=some kl):=hkl;have HS:=aF hs;have HL:=aF hl;have Yc:=aF hf;have HCP:=aF hcp;obtain⟨W1,hW1⟩:=eQx<|(w.alloc<|.cells #[.string typ] 9).alloc<|.cells #[.string rel] 9;have HB1:O (ag w W1):=by show Below _ _ _;rw[hW1];exact((WL _ _).alloc (WK _) _).alloc ct _
 have YH:O (W1.cell? ⟨w.heap.size,0,none⟩=some (.string typ)/\W1.cell? ⟨w.heap.size+1,0,none⟩=some (.string rel)/\w.heap.size+1<W1.heap.size):=by
  show _/\_;rw[hW1];have hc:=World.cell?_alloc_mark (w.alloc<|.cells #[.string typ] 9) #[.string rel] 9 (0,0) 0;rw[show(w.alloc<|.cells #[.string typ] 9).heap.size=w.heap.size+1 by simp]at hc;exact⟨ct,by rw[hc];rfl,ct⟩
 clear hs hl hf hcp hkl;go_enter func45,ntmps45;go_wp2_with fail;rw[<-hW1];clear hW1;refine(dz ad cap rs _ hlen (HS.below HB1) HL Yc HCP).mono ?_;rintro e w2 ⟨rfl,hb2⟩;have HB2:=iD HB1 hb2;have Yr:O (w2.cell? ⟨w.heap.size,0,none⟩=some (.string typ)/\w2.cell? ⟨w.heap.size+1,0,none⟩=some (.string rel)/\w.heap.size+1<w2.heap.size):=⟨kept hb2 (by have:=YH.2.2;omega) YH.1,kept hb2 YH.2.2 YH.2.1,WJ YH.2.2 hb2.size⟩;clear hb2 YH;cases hd:aG (ae rs);case false=>
  have HN:O (kP (ae rs) typ rel=none):=by show _=_;unfold kP;rw[hd];rfl
  clear hd;go_wp2;refine bodyPost_ret (v:=.tuple #[.slice none 0 0,.bool false]) ?_ rfl (jh HN HB2);simp[results,Tryz.results45,go_sem]
 have HD:=aF hd;have hSP:=aM.1 hd;obtain⟨h6,YN,hex⟩:=aW hSP.1;have Za:=aF YN;have ZH:=aF hex;have HTAB:O (Tab rs<|lN rs):=rM hSP.1;obtain⟨rows,X9,capE,th,HM,HTH,HREL,ZJ⟩:∃(rows:Q08) (X9:Q02) (capE:Nat) (th:Bool),O ((lN rs (typ,rel)).getD (.slice none 0 0)=.slice X9 rows.length capE)/\O ((lN rs (typ,rel)).isSome=th)/\O (ai rows=aj (ae rs) typ rel)/\O (qP rs X9 rows):=by
  cases e:lN rs (typ,rel) with
  | none=>exact⟨[],none,0,false,rfl,rfl,by show _=_;unfold aj;rw[HTAB.no _ e];rfl,.inl rfl⟩
  | some v =>
   obtain⟨t,htm,q,hq,-,rfl,e1,-⟩:=HTAB.yes _ v e;exact⟨q.rows,q.ad,q.cap,true,rfl,rfl,by show _=_;unfold aj;rw[e1];rfl,.inr ⟨t,htm,q,hq,rfl,rfl⟩⟩
 clear hd hSP YN hex;go_wp2_with fail;obtain⟨CV,hCV⟩:∃C:Nat->Value,C=fun n=>((Value.slice ad rs.length cap)::(undef)::(Value.string typ)::(Value.string rel)::(Value.agg #[.string typ,.string rel])::(Value.tuple #[.slice X9 rows.length capE,.bool th])::(Value.tuple #[.slice X9 rows.length capE,.bool th])::(Value.slice X9 rows.length capE)::(Value.bool th)::[]).getD n undef:=⟨_,rfl⟩;have Ya:O (CV 0=Value.slice ad rs.length cap/\CV 1=undef/\CV 2=Value.string typ/\CV 3=Value.string rel/\CV 4=Value.agg #[.string typ,.string rel]/\CV 5=Value.tuple #[.slice X9 rows.length capE,.bool th]/\CV 6=Value.tuple #[.slice X9 rows.length capE,.bool th]/\CV 7=Value.slice X9 rows.length capE/\CV 8=Value.bool th):=by show _/\_;rw[hCV];exact⟨rfl,rfl,rfl,rfl,rfl,rfl,rfl,rfl,rfl⟩
 clear hCV;refine dK 11 _ _ (PJ w2 CV (lN rs)<|Value.slice X9 rows.length capE) cw rfl cw (fun o ho l fq w' hI hp=>?IQ) (vQ [(8,[9]),(14,[6,0,1,2,3,4,5,7,8])]) ⟨fun _ _ _ h=>(by cases h),(WL _ _).drew,fun h=>(by cases h),fun h=>(by cases h),fun h=>(by cases h)⟩ ?stepR ?finR<;>try dsimp only[uI]
 case IQ =>
  cases ho;intro k hk;have hc:=GY (i:=k) cq
  repeat' rcases hc with rfl|hc
  ·exact hp ⟨0,.phase⟩ ct rfl
  ·exact hp ⟨1,.phase⟩ ct rfl
  ·exact hp ⟨2,.phase⟩ ct rfl
  ·exact hp ⟨3,.phase⟩ ct rfl
  ·exact hp ⟨4,.phase⟩ ct rfl
  ·exact hp ⟨5,.phase⟩ ct rfl
  ·exact hp ⟨6,.phase⟩ ct rfl
  ·exact hp ⟨7,.phase⟩ ct rfl
  ·exact hp ⟨8,.phase⟩ ct rfl
  ·exact hp ⟨9,.phase⟩ ct rfl
  exact hp ⟨10,.phase⟩ ct rfl
 case stepR =>
  rintro i hi o ho l fq w' Yx hI hpre;have HI:=aB hI;have XZ:O (∀e∈o.after,Region.binds .any e=true->l e.on=true):=hpre;clear hI hpre;have hc:=GY (i:=i) cq;clear hi
  repeat' rcases hc with rfl|hc
  ·cases ho;have HP:=aF<|HI.put (i:=0) cq cv Ya.1.symm;refine aa rfl fun K HK=>?_;clear XZ HI;dsimp only;go_simp;exact HK _ _ ⟨_,by simp[upd],HP⟩
  ·cases ho;have e0:fq 0=.slice ad rs.length cap:=(HI.val 0 cq cv<|XZ ⟨0,.data⟩ ct rfl).trans Ya.1;have HB':=aF HI.bel;refine aa rfl fun K HK=>?_;clear XZ;simp only[e0];go_simp;refine(lq ad cap rs w' h6 (HS.below<|HB2.trans<|HB'.mono HB2.size) Za Yc).mono ?_;rintro e w9 ⟨rfl,hm9,Y6⟩;have HP:=aF<|(HI.later Y6).call hm9;clear hm9 Y6 HI;go_wp2_with fail;exact HK _ _ ⟨_,by simp[upd,e0],HP⟩
  ·cases ho;have x1:w'.cell? ⟨w.heap.size,0,none⟩=some (.string typ):=kept HI.bel (by have:=Yr.2.2;omega) Yr.1;have HP:=aF<|HI.put (i:=2) cq cv Ya.2.2.1.symm;refine aa rfl fun K HK=>?_;clear XZ HI;dsimp only;go_simp;exact HK _ _ ⟨_,by simp[upd],HP⟩
  ·cases ho;have x1:w'.cell? ⟨w.heap.size+1,0,none⟩=some (.string rel):=kept HI.bel Yr.2.2 Yr.2.1;have HP:=aF<|HI.put (i:=3) cq cv Ya.2.2.2.1.symm;refine aa rfl fun K HK=>?_;clear XZ HI;dsimp only;go_simp;exact HK _ _ ⟨_,by simp[upd],HP⟩
  ·cases ho;have e2:fq 2=.string typ:=(HI.val 2 cq cv<|XZ ⟨2,.data⟩ ct rfl).trans Ya.2.2.1;have e3:fq 3=.string rel:=(HI.val 3 cq cv<|XZ ⟨3,.data⟩ ct rfl).trans Ya.2.2.2.1;have HP:=aF<|HI.put (i:=4) cq cv Ya.2.2.2.2.1.symm;refine aa rfl fun K HK=>?_;clear XZ HI;simp only[e2,e3];go_simp;exact HK _ _ ⟨_,by simp[upd,e2,e3],HP⟩
  ·cases ho;have e4:fq 4=.agg #[.string typ,.string rel]:=(HI.val 4 cq cv<|XZ ⟨4,.data⟩ ct rfl).trans Ya.2.2.2.2.1;obtain⟨b,e1,hm⟩:=HI.c1<|XZ ⟨1,.data⟩ ct rfl;have hlook:=hm.look_ok jl underlying102 (o8 _) YU;rw[HM,HTH]at hlook;have hlook2:(Instr.lookup 102 (.map<|some b) (.agg #[.string typ,.string rel]) true).run prog w'=.ok (.tuple #[.slice X9 rows.length capE,.bool th]) w':=hlook;clear hlook hm;have HP:=aF<|HI.put (i:=5) cq cv Ya.2.2.2.2.2.1.symm;refine aa rfl fun K HK=>?_;clear XZ HI;simp only[e4,e1];go_simp;exact HK _ _ ⟨_,by simp[upd,e4,e1],HP⟩
  ·cases ho;have e5:fq 5=.tuple #[.slice X9 rows.length capE,.bool th]:=(HI.val 5 cq cv<|XZ ⟨5,.data⟩ ct rfl).trans Ya.2.2.2.2.2.1;have HP:=aF<|HI.put (i:=6) cq cv Ya.2.2.2.2.2.2.1.symm;refine aa rfl fun K HK=>?_;clear XZ HI;simp only[e5];go_simp;exact HK _ _ ⟨_,by simp[upd,e5],HP⟩
  ·cases ho;have e6:fq 6=.tuple #[.slice X9 rows.length capE,.bool th]:=(HI.val 6 cq cv<|XZ ⟨6,.data⟩ ct rfl).trans Ya.2.2.2.2.2.2.1;have HP:=aF<|HI.put (i:=7) cq cv Ya.2.2.2.2.2.2.2.1.symm;refine aa rfl fun K HK=>?_;clear XZ HI;simp only[e6];go_simp;exact HK _ _ ⟨_,by simp[upd,e6],HP⟩
  ·cases ho;have e6:fq 6=.tuple #[.slice X9 rows.length capE,.bool th]:=(HI.val 6 cq cv<|XZ ⟨6,.data⟩ ct rfl).trans Ya.2.2.2.2.2.2.1;have HP:=aF<|HI.put (i:=8) cq cv Ya.2.2.2.2.2.2.2.2.symm;refine aa rfl fun K HK=>?_;clear XZ HI;simp only[e6];go_simp;exact HK _ _ ⟨_,by simp[upd,e6],HP⟩
  ·cases ho;have HP:=aF<|HI.alloc Yx;refine aa rfl fun K HK=>?_;clear XZ HI;dsimp only;go_simp;exact HK _ _ ⟨_,by simp[upd],HP⟩
  cases ho;have e7:fq 7=.slice X9 rows.length capE:=(HI.val 7 cq cv<|XZ ⟨7,.data⟩ ct rfl).trans Ya.2.2.2.2.2.2.2.1;have l9:=XZ ⟨9,.data⟩ ct rfl;obtain⟨g,e9,-,hc9⟩:=HI.a9 l9;rw[Yx]at hc9;have HP:=aF<|HI.store l9 e9;have x1:w'.cell? ⟨g,0,none⟩=some (.slice none 0 0):=by simp[World.cell?,hc9]
  have x2:w'.frozen? ⟨g,0,none⟩=false:=by simp[World.frozen?,hc9]
  refine aa rfl fun K HK=>?_;clear XZ HI hc9;simp only[e7,e9];go_simp;exact HK _ _ ⟨undef,by simp[upd,e7,e9],HP⟩
 case finR =>
  rintro o ho l fq w' hall hI;obtain rfl:=Option.some.inj ho;obtain⟨g,e9,hg9,hc9⟩:=hI.a9<|hall 9 cq;rw[hall 10 cq,if_pos rfl]at hc9;have e8:fq 8=.bool th:=(hI.val 8 cq cv<|hall 8 cq).trans Ya.2.2.2.2.2.2.2.2;have HB9:O (ag w2 w'):=hI.bel;have HC9:O (w'.cell? ⟨g,0,none⟩=some (.slice X9 rows.length capE)/\g<w'.heap.size):=⟨by simp[World.cell?,hc9],lt_of_some hc9⟩;refine aa rfl fun K HK=>?_;clear hc9 hg9;simp only[e8];go_simp;refine HK _ _ ?_;clear ho HK K hI e8 e9 hall Ya;obtain⟨y0,hy0⟩:∃y,y=fq 0:=⟨_,rfl⟩;rw[<-hy0];obtain⟨y1,hy1⟩:∃y,y=fq 1:=⟨_,rfl⟩;rw[<-hy1];obtain⟨y2,hy2⟩:∃y,y=fq 2:=⟨_,rfl⟩;rw[<-hy2];obtain⟨y3,hy3⟩:∃y,y=fq 3:=⟨_,rfl⟩;rw[<-hy3];obtain⟨y4,hy4⟩:∃y,y=fq 4:=⟨_,rfl⟩;rw[<-hy4];obtain⟨y5,hy5⟩:∃y,y=fq 5:=⟨_,rfl⟩;rw[<-hy5];obtain⟨y6,hy6⟩:∃y,y=fq 6:=⟨_,rfl⟩;rw[<-hy6];obtain⟨y7,hy7⟩:∃y,y=fq 7:=⟨_,rfl⟩;rw[<-hy7];clear hy0 hy1 hy2 hy3 hy4 hy5 hy6 hy7 fq l CV;have Yg:O (ag w w'):=HB2.trans<|HB9.mono HB2.size;have HCW:O (w'.cell? ⟨w.heap.size,0,none⟩=some (.string typ)/\w'.cell? ⟨w.heap.size+1,0,none⟩=some (.string rel)/\w.heap.size+1<w'.heap.size):=⟨kept HB9 (by have:=Yr.2.2;omega) Yr.1,kept HB9 Yr.2.2 Yr.2.1,WJ Yr.2.2 HB9.size⟩;obtain⟨W5,Zh⟩:=eQx<|w'.alloc<|.cells #[.func (Fn.func 115) #[] #[.pointer (some ⟨w.heap.size+1,0,none⟩)]] 174;have HA5:=tZ Zh;have Yo:O (ag w W5):=Yg.trans<|HA5.mono Yg.size;have HC5:O ((W5.cell? ⟨w.heap.size,0,none⟩=some (.string typ)/\W5.cell? ⟨w'.heap.size,0,none⟩=some (.func (Fn.func 115) #[] #[.pointer (some ⟨w.heap.size+1,0,none⟩)])/\W5.cell? ⟨g,0,none⟩=some (.slice X9 rows.length capE)/\W5.cell? ⟨w.heap.size+1,0,none⟩=some (.string rel))/\w.heap.size<W5.heap.size/\w'.heap.size<W5.heap.size/\g<W5.heap.size/\w.heap.size+1<W5.heap.size):=by
   have h1:=HCW.2.2;have h2:=HA5.size;have h3:=HC9.2;refine⟨⟨kept HA5 cq HCW.1,by rw[Zh];simp,kept HA5 HC9.2 HC9.1,kept HA5 HCW.2.2 HCW.2.1⟩,cq,by rw[Zh];simp,cq,cq⟩
  have HSE5:O (iw W5 X9 rows):=ZJ.sl<|HS.below Yo;have hrl:rows.length<=15:=by
   rcases ZJ.out with h|⟨t,ht,q,hq,h,-⟩
   ·rw[h];simp
   rw[h];exact(ZH t ht q hq).2.1
  have HTI:=HTAB.some_iff (typ,rel);have z1:=HC9.1;have z2:=HC9.2;cases th;case false=>
   have HN:O (kP (ae rs) typ rel=none):=by
    rw[HTH]at HTI;replace HTI:false=!(aj (ae rs) typ rel).isEmpty:=HTI;show _=_;unfold kP;rw[<-HTI];simp
   clear HTI;go_wp2;rw[<-Zh];refine bodyPost_ret (v:=.tuple #[.slice none 0 0,.bool false]) ?_ rfl (jh HN Yo);simp[results,Tryz.results45,go_sem]
  have HNE:O ((!(aj (ae rs) typ rel).isEmpty)=true):=by rw[HTH]at HTI;exact HTI.symm
  clear HTI;go_wp2_with fail;rw[<-Zh];clear Zh z1 z2;refine(uF 115 #[] #[.pointer (some ⟨w.heap.size+1,0,none⟩)] (eX rel) X9 capE rows W5 cq HSE5 Vz fun x hx w1 hb1=>Fs (w.heap.size+1) rel x w1 (WJ HC5.2.2.2.2 hb1.size)<|kept hb1 HC5.2.2.2.2 HC5.1.2.2.2).mono ?_;rintro e wA ⟨rfl,hbA⟩;have HAA:=aB hbA;have HBA:=iD Yo hbA;have z1:=kept hbA HC5.2.2.2.1 HC5.1.2.2.1;rw[HREL];clear hbA;cases hn:(aj (ae rs) typ rel).any (eX rel);case true=>
   have HN:O (kP (ae rs) typ rel=none):=by show _=_;unfold kP;rw[hn];simp
   clear hn;go_wp2;refine bodyPost_ret (v:=.tuple #[.slice none 0 0,.bool false]) ?_ rfl (jh HN HBA);simp[results,Tryz.results45,go_sem]
  have HNN:=aF hn;clear hn;go_wp2_with fail;refine(uF 117 #[] #[] kz X9 capE rows wA cq (HSE5.below HAA) VC fun x hx w1 hb1=>Mi x w1).mono ?_;rintro e wB ⟨rfl,hbB⟩;have HAB:=iD HAA hbB;have HBB:=iD HBA hbB;rw[HREL];clear hbB z1;cases hts:(aj (ae rs) typ rel).any kz;case true=>
   have HN:O (kP (ae rs) typ rel=none):=by show _=_;unfold kP;rw[hts];simp
   clear hts;go_wp2;refine bodyPost_ret (v:=.tuple #[.slice none 0 0,.bool false]) ?_ rfl (jh HN HBB);simp[results,Tryz.results45,go_sem]
  have HPD:O (kP (ae rs) typ rel=if aG (jE (eF typ rel<|aj (ae rs) typ rel)<|ae rs)=true then some (jE (eF typ rel<|aj (ae rs) typ rel)<|ae rs) else none):=by
   show _=_;unfold kP;rw[HD,HNE,HNN,hts];simp
  clear hts;have HBOD:O ((aj (ae rs) typ rel).length<=15/\∀m∈aj (ae rs) typ rel,m.light/\m.fits/\∀x∈m.kids,0<=x/\x<1000):=by
   show _/\_;rw[<-HREL];refine⟨by rw[au];exact hrl,fun m hm=>?_⟩;obtain⟨x,hx,rfl⟩:=WV.1 hm;rcases ZJ.out with h|⟨t,ht,q,hq,h,-⟩
   ·rw[h]at hx;cases hx
   rw[h]at hx;have h1:=ZH t ht q hq;refine⟨((HL t ht).2 q hq).2 x hx,((Yc t ht).2.2 q hq).2.2 x hx,fun y hy=>?_⟩;have h2:=h1.2.2 x hx y hy;have h3:=h1.2.1;omega
  have HLF:O (∀t∈rs,∀q∈t.rows,∀x∈q.rows,(eF typ rel (aj (ae rs) typ rel) t.name x.e).length<=15/\∀m∈eF typ rel (aj (ae rs) typ rel) t.name x.e,m.light/\m.fits/\∀y∈m.kids,0<=y/\y<1000):=fun t ht q hq x hx=>by
   unfold eF;split
   ·exact HBOD
   refine⟨ct,fun m hm=>?_⟩;rw[WZ]at hm;subst hm;have h1:=ZH t ht q hq;refine⟨((HL t ht).2 q hq).2 x hx,((Yc t ht).2.2 q hq).2.2 x hx,fun y hy=>?_⟩;have h2:=h1.2.2 x hx y hy;have h3:=h1.2.1;omega
  have HSM:O (SmallS (eF typ rel<|aj (ae rs) typ rel) rs):=⟨h6,Za,fun t ht q hq=>(ZH t ht q hq).2.1,fun t ht q hq=>iY (ZH t ht q hq).1,fun t ht q hq x hx=>⟨(HLF t ht q hq x hx).1,fun m hm=>⟨((HLF t ht q hq x hx).2 m hm).1,((HLF t ht q hq x hx).2 m hm).2.2⟩⟩,fun t ht q hq=>((HL t ht).2 q hq).2⟩;go_wp2_with fail;refine(xw 118 #[] #[.pointer (some ⟨w.heap.size,0,none⟩),.pointer<|some ⟨w'.heap.size,0,none⟩,.pointer<|some ⟨g,0,none⟩] (eF typ rel<|aj (ae rs) typ rel) ad cap rs wB (HS.below HBB) HSM Uh fun t ht q hq x hx _=>?leaf).mono ?_;case leaf =>
   have hox:x.ok wB:=by
    rcases Df.mem (jX.mem (HS.below HBB) ht) hq with h0|⟨_,_,_,_,_,h0⟩
    ·rw[h0]at hx;cases hx
    exact h0 x hx
   have hz:=HAB.size;obtain⟨⟨c1,c2,c3,c4⟩,k1,k2,k3,k4⟩:=HC5.out;have:=Pp w.heap.size w'.heap.size g (w.heap.size+1) typ rel t.name x X9 capE rows wB hox ⟨cq,cq,cq,cq⟩ ⟨kept HAB k1 c1,kept HAB k2 c2,kept HAB k3 c3,kept HAB k4 c4⟩<|HSE5.below HAB;rw[HREL]at this;exact this
  rintro e wC ⟨v2,q2,rfl,htm,htq,hbC⟩;have HBC:=iD HBB hbC;obtain⟨ad2,cap2,rfl,hs2,hc2⟩:=dA.read htm;have HTQ:O (ae q2=jE (eF typ rel<|aj (ae rs) typ rel) (ae rs)):=htq;have Zd:=yO htq (fun e=>e.light/\e.fits) (fun e g h=>⟨⟨h.1.1,by simpa[eT] using h.1.2⟩,by simpa[eT,Ex.fits] using h.2⟩) (fun t ht q hq x hx=>⟨⟨((HL t ht).2 q hq).2 x hx,((Yc t ht).2.2 q hq).2.2 x hx⟩,fun m hm=>⟨((HLF t ht q hq x hx).2 m hm).1,((HLF t ht q hq x hx).2 m hm).2.1⟩⟩);have hfew:∀t∈rs,∀q∈t.rows,(dB (eF typ rel (aj (ae rs) typ rel) t.name)<|ai q.rows).length<=225:=fun t ht q hq=>by
   have h1:=pI (eF typ rel (aj (ae rs) typ rel) t.name) (ai q.rows) 15 cq (fun e he=>by
    obtain⟨x,hx,rfl⟩:=WV.1 he;exact(HLF t ht q hq x hx).1) _ (WK _)
   have h2:=(ZH t ht q hq).2.1;rw[au]at h1;unfold dB;rw[au];omega
  have HTM2:=aF htm;have HS2:=aF hs2;have HC2':=aF hc2;have HL2:O (∀r∈q2,r.light):=fun t ht=>by
   obtain⟨s,hs,e1,e2,e3⟩:=Zd t ht;refine⟨by have:=Za s hs;omega,fun q hq=>?_⟩;obtain⟨q',hq',e4,e5,e6⟩:=e3 q hq;have:=hfew s hs q' hq';exact⟨cq,fun x hx=>(e6 x hx).1⟩
  have Y3:O (∀r∈q2,r.fits):=fun t ht=>by
   obtain⟨s,hs,e1,e2,e3⟩:=Zd t ht;refine⟨by rw[e1];exact(Yc s hs).1,by have:=Za s hs;unfold maxLen;omega,fun q hq=>?_⟩;obtain⟨q',hq',e4,e5,e6⟩:=e3 q hq;have:=hfew s hs q' hq';exact⟨by rw[e4];exact((Yc s hs).2.2 q' hq').1,cy,fun x hx=>(e6 x hx).2⟩
  have hlen2:q2.length<=1048576:=by
   have:q2.length=rs.length:=by rw[<-bz,htq];simp[jE,bz]
   omega
  have HWB:O (w.heap.size<=wB.heap.size):=HBB.size;clear htm htq hbC hs2 hc2 Zd hfew;go_wp2_with fail;refine(Jp ad2 cap2 q2 wC hlen2 HS2 HL2 Y3 HC2').mono ?_;rintro e wD ⟨rfl,hbD⟩;have ZW:=iD HBC hbD;have HTD:O (dA wD w.heap.size (.slice ad2 q2.length cap2) q2):=dA.mono (X8.below jW HTM2 hbD) HWB;clear hbD;cases hd2:aG (ae q2);case false=>
   have HN:O (kP (ae rs) typ rel=none):=by show _=_;rw[HPD,<-HTQ,hd2];rfl
   clear hd2;unfold Wq;go_wp2;refine bodyPost_ret (v:=.tuple #[.slice none 0 0,.bool false]) ?_ rfl (jh HN ZW);simp[results,Tryz.results45,go_sem]
  have HN:O (kP (ae rs) typ rel=some (ae q2)):=by show _=_;rw[HPD,<-HTQ,hd2];rfl
  clear hd2;unfold Wq;go_wp2;refine bodyPost_ret (v:=.tuple #[.slice ad2 q2.length cap2,.bool true]) ?_ rfl ⟨.slice ad2 q2.length cap2,q2,by rw[HN];rfl,by rw[HN];rfl,HTD,ZW⟩;simp[results,Tryz.results45,go_sem]
def JC(ad:Q02)(cap:Nat)(xs:Q08)(rel:bN)(w:af)(hlen:bh xs)(hs:iw w ad xs):
  Calls prog 119 #[.slice ad xs.length cap,.string rel] w (bx w<|.bool<|(ai xs).any fun e=>eX rel e || kz e):=by
 have HS:=aF hs;clear hs;have HD:O (∀k (h:k<xs.length),((ai xs).drop k).any (fun e=>eX rel e || kz e)=((eX rel xs[k].e || kz xs[k].e) || ((ai xs).drop<|k+1).any fun e=>eX rel e || kz e)):=fun k h=>by
  rw[I1 _ (ai xs) k (by rw[au];exact h),qE h]
 go_enter func119,ntmps119;go_wp2_with fail;go_loopw[5] (fun i wr=>∃k:Nat,k<=xs.length/\i=.int .i64 k/\O (((ai xs).drop k).any (fun e=>eX rel e || kz e)=(ai xs).any fun e=>eX rel e || kz e)/\wr=w) (fun i _=>xs.length-(intOf i).toNat);case atStart=>exact⟨0,WO _,rfl,rfl,rfl⟩
 obtain⟨k,hk,rfl,HQ,rfl⟩:=hrel;by_cases hlt:k<xs.length
 ·obtain⟨b,off,Yb,⟨t0,-,-,t3,-⟩,hbl⟩:=iw.rowI HS hlt;have hk1:=bY k;have hk2:(k:Int)<(xs.length:Int):=cq;have HD2:=aF<|HD k hlt;rw[Yb];clear Yb;have HY:O ((eX rel xs[k].e || kz xs[k].e)=true->(ai xs).any (fun e=>eX rel e || kz e)=true):=fun h=>by rw[<-HQ,HD2,h];rfl
  have ZE:O ((eX rel xs[k].e || kz xs[k].e)=false->((ai xs).drop<|k+1).any (fun e=>eX rel e || kz e)=(ai xs).any fun e=>eX rel e || kz e):=fun h=>by rw[<-HQ,HD2,h];rfl
  by_cases hk2':xs[k].e.kind=2
  ·have h2:(xs[k].e.kind==2)=true:=by simp[hk2']
   have h1:(xs[k].e.kind==1)=false:=by simp[hk2']
   have hts:kz xs[k].e=false:=by unfold kz;rw[decide_eq_false];omega
   cases hnm:(xs[k].e.name.toList==rel.toList);case true=>
    have HN:=aF (HY<|by unfold eX;rw[hnm,decide_eq_true hk2'];rfl);clear h1 h2 hts;go_wp2;go_ret;exact⟨by rw[HN];rfl,rfl⟩
   have HN:=aF (ZE<|by unfold eX;rw[hnm,hts];simp);clear h1 h2 hts;go_wp2;go_roundw;case rel=>exact⟨k+1,cq,cx,HN,by first|rfl|trivial⟩
   simp[intOf]<;>omega
  have h2:(xs[k].e.kind==2)=false:=by simpa using hk2'
  have h2':decide (xs[k].e.kind=2)=false:=decide_eq_false hk2';have hnm:eX rel xs[k].e=false:=by unfold eX;rw[h2'];rfl
  by_cases hk1':xs[k].e.kind=1
  ·have HN:=aF (HY<|by rw[hnm];unfold kz;rw[decide_eq_true hk1'];rfl);clear h2 h2' hnm hk2';go_wp2;go_ret;exact⟨by rw[HN];rfl,rfl⟩
  have h1:(xs[k].e.kind==1)=false:=by simpa using hk1'
  have h1':decide (xs[k].e.kind=1)=false:=decide_eq_false hk1';have HN:=aF (ZE<|by rw[hnm];unfold kz;rw[h1'];rfl);clear hnm hk1' hk2';go_wp2;go_roundw;case rel=>exact⟨k+1,cq,cx,HN,by first|rfl|trivial⟩
  simp[intOf]<;>omega
 have HN:O ((ai xs).any (fun e=>eX rel e || kz e)=false):=by show _=_;rw[<-HQ,Xm<|by rw[au];omega];rfl
 go_wp2;go_ret;exact⟨by rw[HN];rfl,rfl⟩
structure PutW(w:World)(v:Value)(w':World)(v':Value):Prop where
 os:w'.os=w.os
 tape:w'.tape=w.tape
 output:w'.output=w.output
 size:w.heap.size<=w'.heap.size
 block:∀g,g<w.heap.size->v.ownBlock≠some g->w'.heap[g]?=w.heap[g]?
 own:v'.ownBlock=v.ownBlock \/ ∃g,v'.ownBlock=some g/\w.heap.size<=g
def PutW.refl(w:af)(v:Value):PutW w v w v:=⟨rfl,rfl,rfl,WK _,fun _ _ _=>rfl,.inl rfl⟩
def PutW.apart{w w':af}{v v':Value}(h:PutW w v w' v'){g:Nat}(hg:cU g w)(hv:v.ownBlock≠some g):v'.ownBlock≠some g:=by
 rcases h.own with e|⟨k,e,hk⟩
 ·rw[e];exact hv
 rw[e];intro e2;injection e2 with e2;omega
def PutW.trans{w w1 w2:af}{v v1 v2:Value}(h:PutW w v w1 v1)(k:PutW w1 v1 w2 v2):PutW w v w2 v2:=by
 refine⟨k.os.trans h.os,k.tape.trans h.tape,k.output.trans h.output,WR h.size k.size,fun g hg hv=>(k.block g (WJ hg h.size)<|h.apart hg hv).trans<|h.block g hg hv,?_⟩;rcases k.own with e|⟨g,e,hg⟩
 ·rw[e];exact h.own
 exact .inr ⟨g,e,WR h.size hg⟩
def PutW.of{w w':af}{v:Value}(h:ag w w'):PutW w v w' v:=⟨h.os,h.tape,h.output,h.size,fun g hg _=>h.block g hg,.inl rfl⟩
def PutW.below{w w':af}{v v':Value}{m:Nat}(h:PutW w v w' v')(hm:cd m w)(hv:∀g,v.ownBlock=some g->m<=g):Below m w w':=⟨h.os,h.tape,h.output,h.size,fun g hg=>h.block g (WJ hg hm) fun e=>by have:=hv g e;omega⟩
def pQ(rel:ByteArray)(bs:Q09)(e:Ex):Option (List Ex):=if eX rel e && !bs.isEmpty then some bs else none
def Pq(w:World)(base:Nat)(v:Value)(qs:Q08)(E:Q09)(e:Ending)(w':World):Prop:=∃(v':Value) (Zy:Q08),e=.returned v'/\NodM w' base v' (qs++Zy)/\ai Zy=E/\PutW w v w' v'/\∀q∈Zy,∀g,mr q g->w.heap.size<=g
structure Fixd(W:World)(ad:Q02)(rs:Q08):Prop where
 sl:iw W ad rs
 light:∀r∈rs,r.e.light
 low:jF (ai rs)
 len:rs.length<=15
def yP(W:af)(base:Nat)(hW:W.heap.size<=base)(rel:bN)(X9 adB:Q02)(capE capB:Nat)(rs bs:Q08)(hE:Fixd W X9 rs)(hbl:bs.length<=15)(hnm:∀r∈rs,eX rel r.e=true->r.e.kids=[])
  (hbody:bs≠[]->∀(w:World) (v:Value) (qs:Q08),ag W w->base<=w.heap.size->NodM w base v qs->qs.length+bs.length<=1000->Calls prog 121 #[.slice adB bs.length capB,.int .i64<|(bs.length:Int)-1,.string rel,.slice none 0 0,v] w (Pq w base v qs<|(ai bs).map<|eT fun k=>(qs.length:Int)+k)) :
  ∀(fuel n:Nat),n<rs.length->n<fuel->∀(w:World) (v:Value) (qs:Q08),ag W w->base<=w.heap.size->NodM w base v qs->qs.length+(jg (pQ rel<|ai bs) (ai rs) fuel n qs.length).length<=1000 ->
   Calls prog 121 #[.slice X9 rs.length capE,.int .i64 (n:Int),.string rel,.slice adB bs.length capB,v] w (Pq w base v qs<|jg (pQ rel<|ai bs) (ai rs) fuel n qs.length)
 | 0,n,_,hf=>absurd hf<|XE _
 | fuel+1,n,hn,hf=>by
  intro w v qs hb hbase hnod hql;have IH:=aF<|yP W base hW rel X9 adB capE capB rs bs hE hbl hnm hbody fuel;have HE:=aF hE;have Zm:=aF hbody;have HNM:=aF hnm;have HB:=aF hb;have HN:=aF hnod;obtain⟨b,off,Yb,hrow,hbb⟩:=iw.rowI hE.sl hn;obtain⟨t0,t1,t2,t3,t4⟩:=hrow.same fun o=>hb.cell (p:=⟨b,o,none⟩) hbb;obtain⟨W1,hW1⟩:=eQx<|w.alloc<|.cells (ce rs[n]) 43;have HA1:=tZ hW1;have HBOX:O ((W1.cell? (a7 w)=some (.int .i64 rs[n].e.kind)/\W1.cell? (a8 w 1)=some (.slice rs[n].adA rs[n].e.allow.length rs[n].capA)/\W1.cell? (a8 w 2)=some (.string rs[n].e.over)/\W1.cell? (a8 w 3)=some (.string rs[n].e.name)/\W1.cell? (a8 w 4)=some (.slice rs[n].adK rs[n].e.kids.length rs[n].capK))/\(∀y,W1.frozen? (a8 w y)=false)/\W1.heap.size=w.heap.size+1):=by
   show _/\_;rw[hW1];exact⟨⟨ct,ct,ct,ct,ct⟩,fun y=>ct,ct⟩
  have HNX:O (∀g,v.ownBlock=some g->base<=g/\g<w.heap.size):=fun g hg=>hnod.own.lt g hg;have hn1:=bY n;have hn2:(n:Int)<(rs.length:Int):=cq
  have hnl:n<(ai rs).length:=by rw[au];exact hn
  have HSUB:O (pQ rel (ai bs) (ai rs)[n]=if eX rel rs[n].e && !(ai bs).isEmpty then some (ai bs) else none):=by show _=_;rw[qE hn];rfl
  have hbe:(ai bs).isEmpty=bs.isEmpty:=by cases bs<;>rfl
  rw[Yb]at IH ⊢;clear hb hnod hrow Yb hbody hnm hE;go_enter func121,ntmps121;by_cases hA:eX rel rs[n].e=true/\bs≠[]
  ·have HPF:O (jg (pQ rel<|ai bs) (ai rs) (fuel+1) n qs.length=(ai bs).map (eT fun k=>(qs.length:Int)+k)):=by
    refine xD hnl<|HSUB.trans ?_;rw[hA.1,hbe];have:bs.isEmpty=false:=by cases h:bs with|nil=>exact absurd h hA.2|cons a b=>rfl
    rw[this];rfl
   have h1:=hA.1;unfold eX at h1;rw[WM]at h1;have hk1:(rs[n].e.kind==2)=true:=by simpa using h1.1
   have hk2:decide (rs[n].e.kind=2)=true:=h1.1;have hk3:(rs[n].e.name.toList==rel.toList)=true:=h1.2;have hp:0<bs.length:=List.length_pos_iff.2 hA.2;have hp1:(0:Int)<(bs.length:Int):=cq;have Zc:=aF (Zm hA.2 W1 v qs (HB.trans<|HA1.mono HB.size) (WR hbase HA1.size) (KJ.nod<|HN.ex.below pu HA1)<|by rw[HPF,Xv,au]at hql;exact hql);clear h1 hA;go_wp2_with fail;rw[<-hW1];refine Zc.mono ?_;rintro e w3 ⟨v',Zy,rfl,h3,h4,h5,h6⟩;have Yw:O (Pq w base v qs (jg (pQ rel<|ai bs) (ai rs) (fuel+1) n qs.length) (.returned v') w3):=⟨v',Zy,rfl,h3,h4.trans HPF.symm,(PutW.of HA1).trans h5,fun q hq g hg=>WR HA1.size<|h6 q hq g hg⟩;clear h3 h4 h5 h6;go_wp2;go_ret;exact Yw
  have hsn:pQ rel (ai bs) (ai rs)[n]=none:=by
   rw[HSUB,hbe];refine if_neg fun h=>hA ?_;rw[WM]at h;exact⟨h.1,fun e=>by rw[e]at h;simp at h⟩
  have HPF:O (jg (pQ rel<|ai bs) (ai rs) (fuel+1) n qs.length=(aA (jg (pQ rel<|ai bs) (ai rs) fuel) rs[n].e.kids qs.length).1++[{ rs[n].e with kids:=(aA (jg (pQ rel<|ai bs) (ai rs) fuel) rs[n].e.kids qs.length).2 }]):=by
   have:=tT (sub:=pQ rel<|ai bs) (fuel:=fuel) (o:=qs.length) hnl hsn;rw[qE hn]at this;exact this
  have HLEN:O (qs.length+(aA (jg (pQ rel<|ai bs) (ai rs) fuel) rs[n].e.kids qs.length).1.length+1<=1000):=by
   rw[HPF,WP,Xi]at hql;show _<=_;omega
  have hcase:((rs[n].e.kind==2)=false/\decide (rs[n].e.kind=2)=false)\/(((rs[n].e.kind==2)=true/\decide (rs[n].e.kind=2)=true)/\(rs[n].e.name.toList==rel.toList)=false)\/(((rs[n].e.kind==2)=true/\decide (rs[n].e.kind=2)=true)/\(rs[n].e.name.toList==rel.toList)=true/\¬0<bs.length/\¬(0:Int)<(bs.length:Int)):=by
   cases c1:(rs[n].e.kind==2);case false=>exact .inl ⟨rfl,decide_eq_false<|by simpa using c1⟩
   have c1':decide (rs[n].e.kind=2)=true:=decide_eq_true (by simpa using c1);cases c2:(rs[n].e.name.toList==rel.toList);case false=>exact .inr<|.inl ⟨⟨rfl,c1'⟩,rfl⟩
   have h0:¬0<bs.length:=fun h=>hA ⟨by unfold eX;rw[c2,Bool.and_true];exact c1',List.length_pos_iff.1 h⟩;exact .inr<|.inr ⟨⟨rfl,c1'⟩,rfl,h0,cq⟩
  have hqlq:qs.length<=1000:=by have:=HLEN.out;omega
  obtain⟨iI,hiI,zI0,zI1,zI2⟩:=info_parts (P:=prog) (e:=2) (z:=.int .i64 0) (size:=1) (bytes:=8) cw;have Zw:O (prog.info? 2=some iI/\iI.zero=some (.int .i64 0)/\iI.size=1/\iI.bytes=8):=⟨hiI,zI0,zI1,zI2⟩;obtain⟨iA,hiA,zA0,zA1,zA2⟩:=info_parts (P:=prog) (e:=216) (z:=.agg aE) (size:=2) (bytes:=32) cw;have Z0:O (prog.info? 216=some iA/\iA.zero=some (.agg aE)/\iA.size=2/\iA.bytes=32):=⟨hiA,zA0,zA1,zA2⟩;obtain⟨iE,hiE,zE0,zE1,zE2⟩:=info_parts (P:=prog) (e:=43) (z:=.agg #[.int .i64 0,.slice none 0 0,.string ⟨#[]⟩,.string ⟨#[]⟩,.slice none 0 0]) (size:=5) (bytes:=88) cw;have HIE:O (prog.info? 43=some iE/\iE.zero=some (.agg #[.int .i64 0,.slice none 0 0,.string ⟨#[]⟩,.string ⟨#[]⟩,.slice none 0 0])/\iE.size=5/\iE.bytes=88):=⟨hiE,zE0,zE1,zE2⟩;obtain⟨G,hG⟩:=eQx<|jg (pQ rel<|ai bs) (ai rs) fuel;rw[<-hG]at HPF HLEN IH;have hlgn:=HE.light rs[n]<|WH hn;have lA:bh rs[n].e.allow:=hlgn.1;have lK:bh rs[n].e.kids:=hlgn.2;have HLOW:O (∀x∈rs[n].e.kids,0<=x/\x<(n:Int)):=fun x hx=>HE.low n hnl x (by rw[qE hn];exact hx);have HOKW:O (rs[n].ok W):=by
   rcases HE.out.sl with h|⟨_,_,_,_,_,h⟩
   ·rw[h]at hn;simp at hn
   exact h _<|WH hn
  obtain⟨W2,hW2⟩:=eQx<|(w.alloc<|.cells (ce rs[n]) 43).alloc<|.cells #[] 2;have HA2:O (ag W1 W2):=by show Below _ _ _;rw[hW2,<-hW1];exact(WL _ _).alloc (WK _) _
  have Y8:O (W2.ownsRow (w.heap.size+1) 2 1 (.slice (some<|am<|w.heap.size+1) 0 0) 0 []):=by
   show World.ownsRow _ _ _ _ _ _ _;have:=World.ownsRow_lit W1 #[] 0 (base:=w.heap.size+1) (e:=2) (size:=1) (by rw[HBOX.2.2];exact WK _) cy ct;rw[HBOX.2.2]at this;rw[hW2,<-hW1];exact this
  have HNV:O (v.ownBlock≠some w.heap.size):=fun e=>by have:=(HNX _ e).2;omega
  clear hA hsn hql hbe hiI zI0 zI1 zI2 hiA zA0 zA1 zA2 hiE zE0 zE1 zE2 hlgn Zm HNM HSUB hG hW1;rcases hcase with⟨c1,c1'⟩|⟨⟨c1,c1'⟩,c2⟩|⟨⟨c1,c1'⟩,c2,c3,c3'⟩
  all_goals
   go_wp2_with fail;rw[<-hW2];clear hW2 t0 t1 t2 t3 t4 c1 c1';go_loopw[4,12,13] (fun vo kv i wr=>∃(j:Nat) (qa:Q08),j<=rs[n].e.kids.length/\i=.int .i64 j/\O (NodM wr base vo<|qs++qa)/\O (ai qa=(aA G (rs[n].e.kids.take j) qs.length).1)/\O (wr.ownsRow (w.heap.size+1) 2 1 kv j<|ints (aA G (rs[n].e.kids.take j) qs.length).2)/\O (PutW W1 v wr vo)/\O (∀g,kv.ownBlock=some g->¬qV mr vo (qs++qa) g)/\O (∀q∈qa,∀g,mr q g->w.heap.size+1<=g)) (fun _ _ i _=>rs[n].e.kids.length-(intOf i).toNat);case atStart =>
    have hNW2:NodM W2 base v qs:=KJ.nod<|(HN.ex.below pu HA1).below pu HA2;refine⟨0,[],WO _,rfl,by rw[XL];exact hNW2,by show _=_;simp[ai,aA],by show World.ownsRow _ _ _ _ _ _ _;simpa[aA,ints] using Y8.out,PutW.of HA2,fun g hg hi=>?_,fun q hq=>(by cases hq)⟩;have e:w.heap.size+1=g:=by simpa[Value.ownBlock] using hg
    rw[XL]at hi;have:=(X8.lt pu HN.ex hi).2;omega
   obtain⟨j,qa,hj,rfl,HNR,HQA,HKV,HPW,HAP,HNEW⟩:=hrel;have hsz1:W1.heap.size=w.heap.size+1:=HBOX.2.2;have HSZ1:=aF hsz1;have HBWR:O (ag W wr):=by
    have h1:ag W W1:=HB.trans<|HA1.mono HB.size;exact h1.trans (HPW.below h1.size fun g hg=>by have:=(HNX g hg).1;omega)
   have hxl:cW w W1:=cq;have YY:O ((wr.cell? (a7 w)=some (.int .i64 rs[n].e.kind)/\wr.cell? (a8 w 1)=some (.slice rs[n].adA rs[n].e.allow.length rs[n].capA)/\wr.cell? (a8 w 2)=some (.string rs[n].e.over)/\wr.cell? (a8 w 3)=some (.string rs[n].e.name)/\wr.cell? (a8 w 4)=some (.slice rs[n].adK rs[n].e.kids.length rs[n].capK))/\∀y,wr.frozen? (a8 w y)=false):=by
    have hbk:=HPW.block _ hxl HNV;obtain⟨⟨p0,p1,p2,p3,p4⟩,p5,-⟩:=HBOX.out;have hc:=fun o=>WX (w:=W1) (a:=⟨w.heap.size,o,none⟩) hbk;exact⟨⟨(hc 0).trans p0,(hc 1).trans p1,(hc 2).trans p2,(hc 3).trans p3,(hc 4).trans p4⟩,fun y=>(World.frozen?_of_block (w:=W1) (a:=⟨w.heap.size,y,none⟩) hbk).trans<|p5 y⟩
   have HJL:O (∀i,(aA G (rs[n].e.kids.take i) qs.length).1.length+qs.length+1<=1000):=fun i=>by
    have h1:=Jk G rs[n].e.kids i qs.length;have h2:=HLEN.out;omega
   have HQL:O ((qs++qa).length=qs.length+(aA G (rs[n].e.kids.take j) qs.length).1.length):=by
    show _=_;rw[WP,<-au qa,HQA]
   have x4:=YY.1.2.2.2.2;clear hsz1;by_cases hjt:j<rs[n].e.kids.length
   ·obtain⟨kn,hkn⟩:∃kn:Nat,rs[n].e.kids[j]=(kn:Int):=⟨rs[n].e.kids[j].toNat,by have:=(HLOW _<|WH hjt).1;omega⟩;have hknl:=(HLOW _<|WH hjt).2;rcases HOKW.out.2.below HBWR.out with h|⟨bK,offK,Ze,hbK,hrK⟩
    ·rw[h]at hjt;simp at hjt
    have y0:=hrK j hjt;rw[hkn]at y0;rw[Ze]at x4;have hj1:=bY j;have hj2:(j:Int)<(rs[n].e.kids.length:Int):=cq;have hsn:aA G (rs[n].e.kids.take<|j+1) qs.length=((aA G (rs[n].e.kids.take j) qs.length).1++G kn (qs++qa).length,(aA G (rs[n].e.kids.take j) qs.length).2++[(((qs++qa).length+(G kn (qs++qa).length).length:Nat):Int)-1]):=by
     rw[WN hjt,oI,hkn,HQL,Int.toNat_natCast]
    have HSN:=aF hsn;have Zc:=aF (IH kn cq cq wr u4 (qs++qa) HBWR (by have h1:=HPW.size;have h2:=HSZ1.out;omega) HNR (by
     have h1:=HJL<|j+1;rw[hsn,WP]at h1;rw[HQL]at h1 ⊢;omega))
    clear hrK Ze hkn hsn;go_wp2_with fail;refine Zc.mono ?_;rintro e w5 ⟨v5,q5,rfl,h3,h4,h5,h6⟩;have HKV5:O (w5.ownsRow (w.heap.size+1) 2 1 u12 j<|ints (aA G (rs[n].e.kids.take j) qs.length).2):=dJ HKV fun g hg=>h5.block g (HKV.lt g hg).2 fun e=>HAP g hg<|.inl e;have HN5:O (NodM w5 base v5<|qs++(qa++q5)):=by rw[<-Xg];exact h3
    have HQ5:O (ai (qa++q5)=(aA G (rs[n].e.kids.take<|j+1) qs.length).1):=by
     show _=_;rw[HSN];show ai (qa++q5)=_++_;rw[<-HQA,<-h4];simp[ai]
    have HPW5:O (PutW W1 v w5 v5):=HPW.trans h5;have HNEW5:O (∀q∈qa++q5,∀g,mr q g->w.heap.size+1<=g):=fun q hq g hg=>by
     rcases WU.1 hq with hq|hq
     ·exact HNEW q hq g hg
     have h1:=h6 q hq g hg;have h2:=HPW.size;have h3:=HSZ1.out;omega
    have HAP5:O (∀g,u12.ownBlock=some g->¬qV mr v5 (qs++(qa++q5)) g):=fun g hg hi=>by
     have hgl:=(HKV.lt g hg).2;rcases hi with hi|⟨q,hq,hi⟩
     ·exact h5.apart hgl (fun e=>HAP g hg<|.inl e) hi
     rcases WU.1 hq with hq|hq
     ·exact HAP g hg (.inr ⟨q,by simp[hq],hi⟩)
     rcases WU.1 hq with hq|hq
     ·exact HAP g hg (.inr ⟨q,by simp[hq],hi⟩)
     have:=h6 q hq g hi;omega
    have HS5:O (w.heap.size+1<=w5.heap.size):=by have h1:=HPW5.size;have h2:=HSZ1.out;show _<=_;omega
    have HLQ:O ((qs++(qa++q5)).length=(qs++qa).length+(G kn (qs++qa).length).length):=by
     show _=_;rw[<-Xg,WP,<-au q5,h4]
    have HL5:O ((qs++(qa++q5)).length<=1000):=by
     have h1:=HJL<|j+1;have h2:=congrArg List.length HQ5;rw[au]at h2;show _<=_;rw[WP,h2];omega
    obtain⟨qz,hqz⟩:=eQx<|qs++(qa++q5);have HQZ:=aF hqz;rw[<-hqz]at HN5 HAP5 HLQ HL5;clear h3 h4 h5 h6 hqz x4 y0 Zc;have hnod5:=HN5.out;obtain⟨Zn,Yp,rfl,-⟩:=Eu hnod5.own rfl hnod5.ok;clear hnod5;have hqzl:qz.length<=1000:=HL5;have hqz1:(qz.length:Int)<=1000:=cq;go_wp2_with(at_builtin;go_must (refine wpList_append_own_at _ rfl _ _ 41 rfl (w.heap.size+1) 2 iI (.int .i64 0) 1 8 underlying41 Zw.1 Zw.2.1 Zw.2.2.1 Zw.2.2.2 rfl cv u12 j (ints (aA G (rs[n].e.kids.take j) qs.length).2) rfl (HKV5.alloc _) ⟨w5.heap.size,0,none⟩ 1 1 [.int .i64 ((qz.length:Int)-1)] rfl rfl (cell_one_new _ _ _) (by intro u hu;simp at hu;subst hu;rfl) cy cq (by simp;have:=HS5.out;omega) ?_));intro v6 w6 hown6 Zj _ hv6;have HA6:O (ag w5<|w5.alloc<|.cells #[.int .i64 ((qz.length:Int)-1)] 2):=(WL _ _).alloc (WK _) _;have hlt5:∀g,qV mr (.slice Zn qz.length Yp) qz g->g<w5.heap.size:=fun g hi=>(X8.lt pu HN5.ex hi).2;have HN6:O (NodM w6 base (.slice Zn qz.length Yp) qz):=KJ.nod ((HN5.ex.below pu HA6).heap pu Zj.size fun g hi=>Zj.block g (by have:=hlt5 g hi;simp;omega) (fun e=>HAP5 g e.symm hi));have HKV6:O (w6.ownsRow (w.heap.size+1) 2 1 v6 (j+1)<|ints (aA G (rs[n].e.kids.take<|j+1) qs.length).2):=by
     show World.ownsRow _ _ _ _ _ _ _;rw[HSN];have e:ints ((aA G (rs[n].e.kids.take j) qs.length).2++[(((qs++qa).length+(G kn (qs++qa).length).length:Nat):Int)-1])=ints (aA G (rs[n].e.kids.take j) qs.length).2++[.int .i64 ((qz.length:Int)-1)]:=by rw[<-HLQ];simp[ints]
     rw[e];exact hown6
    have HPW6:O (PutW W1 v w6<|.slice Zn qz.length Yp):=by
     have h1:=HPW5.out;refine⟨Zj.os.trans<|HA6.os.trans h1.os,Zj.tape.trans<|HA6.tape.trans h1.tape,Zj.output.trans<|HA6.output.trans h1.output,WR h1.size<|WR HA6.size Zj.size,fun g hg hv=>?_,h1.own⟩;have hg5:cU g w5:=WJ hg h1.size;rw[Zj.block g (WJ hg5 HA6.size) (fun e=>by have h2:=(HKV5.lt g e.symm).1;have h3:=HSZ1.out;omega),HA6.block g hg5];exact h1.block g hg hv
    have HAP6:O (∀g,v6.ownBlock=some g->¬qV mr (.slice Zn qz.length Yp) qz g):=fun g hg hi=>by
     rcases hv6 with e|e
     ·exact HAP5 g (by rw[<-e];exact hg) hi
     rw[e]at hg;injection hg with hg;have:=hlt5 g hi;have h7:w5.heap.size<g:=by rw[<-hg];simp
     omega
    clear hown6 Zj hv6 hlt5;go_wp2;go_roundw;case rel=>exact⟨j+1,qa++q5,cq,cx,by rw[<-HQZ];exact HN6,HQ5,HKV6,HPW6,by rw[<-HQZ];exact HAP6,HNEW5⟩
    simp[intOf]<;>omega
   obtain rfl:j=rs[n].e.kids.length:=cq;have HTK:O (rs[n].e.kids.take rs[n].e.kids.length=rs[n].e.kids):=Xa;rw[HTK]at HQA HKV;obtain⟨ks,hks⟩:=eQx<|(aA G rs[n].e.kids qs.length).2;have YU:O (ks.length=rs[n].e.kids.length):=by show _=_;rw[hks,xG]
   have HPF2:O (jg (pQ rel<|ai bs) (ai rs) (fuel+1) n qs.length=(aA G rs[n].e.kids qs.length).1++[{ rs[n].e with kids:=ks }]):=by rw[hks];exact HPF
   rw[<-hks]at HKV;have hkv:=HKV.out;obtain⟨adK,cpK,rfl,hsK,hzK,hoK⟩:=Ij hkv YU.symm;have HSK:=aF hsK;have HZK:=aF hzK;have ZL:=aF hoK;clear hks hkv hsK hzK hoK;have HXW:O (w.heap.size<wr.heap.size):=by have h1:=HPW.size;have h2:=HSZ1.out;show _<_;omega
   have hxw:=HXW.out;obtain⟨x0,x1,x2,x3,-⟩:=YY.1;have fx:=YY.2;have HSA:O (kV wr rs[n].adA rs[n].e.allow):=HOKW.1.below HBWR;have HLIT:O ((wr.alloc<|.cells #[] 216).ownsRow wr.heap.size 216 2 (.slice (some<|a7 wr) 0 0) 0 []):=World.ownsRow_lit wr #[] 0 (WK _) cy ct;go_wp2_with(at_builtin;go_must (refine ku _ rfl _ _ 40 rfl wr.heap.size 216 iA (.agg aE) 2 32 underlying40 Z0.1 Z0.2.1 Z0.2.2.1 Z0.2.2.2 rfl cv _ 0 [] rfl HLIT rs[n].adA rs[n].e.allow.length rs[n].capA (pairs rs[n].e.allow) rfl (kI _) HSA.none0 (KG<|HSA.below<|(WL _ _).alloc (WK _) _) (BF _) cy cq ct ?_));intro v8 w8 Zr hgr8 _;have HB8:O (ag wr w8):=((WL wr.heap.size wr).alloc (WK _)<|.cells #[] 216).grown hgr8 ct (fun k hk=>by simp[Value.ownBlock]at hk;omega);obtain⟨adA,cpA,rfl,hsA,hzA,hoA⟩:=MQ (by simpa using Zr) ct;have HCA:O (rs[n].e.allow.length<=cpA):=BZ Zr;have HSA8:=aF hsA;have HZA:=aF hzA;have HOA:O (∀g,rs[n].e.allow≠[]->adA=some (am g)->wr.heap.size<=g/\g<w8.heap.size/\jV w8 g):=hoA;replace x0:=kept HB8 hxw x0;replace x1:=kept HB8 hxw x1;replace x2:=kept HB8 hxw x2;replace x3:=kept HB8 hxw x3;replace x4:=kept HB8 hxw x4;have fx8:∀y,w8.frozen? (a8 w y)=false:=fun y=>q8 HB8 hxw<|fx y;obtain⟨q,hq⟩:∃q:ER,q=⟨{ rs[n].e with kids:=ks },adA,cpA,adK,cpK⟩:=⟨_,rfl⟩;obtain⟨W9,Z4⟩:=eQx<|(w8.setCell (a8 w 1)<|.slice adA rs[n].e.allow.length cpA).setCell (a8 w 4)<|.slice adK ks.length cpK;have HC9:O (Chg (fun g=>g=w.heap.size) w8 W9):=by rw[Z4];exact(Chg.set (S:=fun g=>g=w.heap.size) _ rfl).trans (Chg.set _ rfl)
   have HZ9:O (W9.heap.size=w8.heap.size):=by show _=_;rw[Z4];simp
   obtain⟨W10,hW10⟩:=eQx<|((w8.setCell (a8 w 1)<|.slice adA rs[n].e.allow.length cpA).setCell (a8 w 4)<|.slice adK ks.length cpK).alloc<|.cells #[.int .i64 rs[n].e.kind,.slice adA rs[n].e.allow.length cpA,.string rs[n].e.over,.string rs[n].e.name,.slice adK ks.length cpK] 43;have HA10:O (ag W9 W10):=by show Below _ _ _;rw[hW10,<-Z4];exact(WL _ _).alloc (WK _) _
   have HNEWC:O (∀j u,q.row[j]?=some u->W10.cell? ((⟨w8.heap.size,0,none⟩:Addr).add j)=some u):=by
    rw[hW10,<-Z4,<-HZ9,hq];exact Gl W9 ⟨{ rs[n].e with kids:=ks },adA,cpA,adK,cpK⟩
   have HU4:O (∀g,qV mr u4 (qs++qa) g->g≠w.heap.size):=fun g hi e=>by
    rcases hi with hi|⟨p,hp,hi⟩
    ·exact HPW.apart hxl HNV (by rw[<-e];exact hi)
    rcases WU.1 hp with hp|hp
    ·have:=(HN.lie p hp g hi).2.1;omega
    have:=HNEW p hp g hi;omega
   have HX10:O (KJ W10 base u4<|qs++qa):=by
    refine((HNR.ex.below pu HB8).heap (w':=W9) pu HC9.size fun g hi=>?_).below pu HA10;exact HC9.block g (by have:=(X8.lt pu HNR.ex hi).2;have:=HB8.size;omega) (HU4 g hi)
   have HC10:O (Chg (fun g=>g=w.heap.size) w8 W10):=HC9.trans<|Chg.of HA10;have HCK:O (Chg (fun g=>g=w.heap.size) wr W10):=(Chg.of HB8).trans HC10;have HQ10:O (kE W10 base q):=by
    rw[hq];have hz8:=HB8.size;refine⟨HZA,HZK,⟨HSA8.chg HC10 fun g o hne e=>?_,HSK.chg HCK fun g o hne e=>?_⟩,?_,?_,HCA⟩
    ·obtain⟨g0,e0⟩:=HZA hne;rw[e0]at e;injection e with e;injection e with e1 e2;have:=(HOA g0 hne e0).1;omega
    ·obtain⟨g0,e0⟩:=HZK hne;rw[e0]at e;injection e with e;injection e with e1 e2;have:=(ZL g0 hne e0).1;omega
    ·rintro g (⟨hne,e⟩|⟨hne,e⟩)
     ·obtain⟨a1,a2,a3⟩:=HOA g hne e;exact⟨cq,WJ a2 HC10.size,HC10.free g a2 a3⟩
     obtain⟨a1,a2,a3⟩:=ZL g hne e;exact⟨cq,WJ a2 HCK.size,HCK.free g a2 a3⟩
    rintro g ⟨hne,e⟩ ⟨hne2,e2⟩;obtain⟨a1,a2,a3⟩:=HOA g hne e;obtain⟨b1,b2,b3⟩:=ZL g hne2 e2;omega
   have HQB:O (∀g,mr q g->(wr.heap.size<=g\/(Value.slice adK ks.length cpK).ownBlock=some g)/\w.heap.size<=g):=by
    rw[hq];rintro g (⟨hne,e⟩|⟨hne,e⟩)
    ·have:=(HOA g hne e).1;exact⟨.inl this,cq⟩
    have e':adK=some (am g):=e;have:=(ZL g hne e).1;exact⟨.inr<|by rw[e'];rfl,cq⟩
   have HQE:O (q.e={ rs[n].e with kids:=ks }):=by show _=_;rw[hq]
   have HO10:O (W10.ownsRow base 43 5 u4 (qs++qa).length<|dV<|qs++qa):=HX10.own;have HLL:O ((qs++qa).length<=1000):=by
    have h1:=HLEN.out;have h2:=congrArg List.length HQA;rw[au]at h2;show _<=_;rw[WP];omega
   obtain⟨qz,hqz⟩:=eQx<|qs++qa;have HQZ:=aF hqz;rw[<-hqz]at HO10 HLL HX10 HU4 HAP;have hll:=HLL.out;have HBS:O (base<=W10.heap.size):=by have h1:=HCK.size;show _<=_;omega
   clear Zr hgr8 hsA hzA hoA hq hqz Z4 fx;go_wp2_with(at_builtin;go_must (rw[<-hW10];clear hW10;refine wpList_append_own_at _ rfl _ _ 37 rfl base 43 iE (.agg #[.int .i64 0,.slice none 0 0,.string ⟨#[]⟩,.string ⟨#[]⟩,.slice none 0 0]) 5 88 underlying37 HIE.1 HIE.2.1 HIE.2.2.1 HIE.2.2.2 rfl cv u4 qz.length (dV qz) rfl HO10 ⟨w8.heap.size,0,none⟩ 1 1 q.row rfl rfl HNEWC (rT q) cy cq HBS ?_));intro v11 w11 hown11 aab _ hv11;have Yw:O (Pq w base v qs (jg (pQ rel<|ai bs) (ai rs) (fuel+1) n qs.length) (.returned v11) w11):=by
    have hz:=HCK.size;have hnod:KJ w11 base v11 (qz++[q]):=X8.snoc pu HX10 hown11 aab (hv11.imp id fun e=>⟨_,e,WK _⟩) HQ10 (fun g hi e=>by
     rcases (HQB.out g hi).1 with h|h
     ·have:=(HNR.own.lt g e).2;omega
     ·exact HAP g h<|.inl e) (fun p hp g h1 h2=>by
     rcases (HQB.out g h2).1 with h|h
     ·have:=(HNR.lie p (by rw[<-HQZ];exact hp) g h1).2.1;omega
     exact HAP g h<|.inr ⟨p,hp,h1⟩)
    refine⟨v11,qa++[q],rfl,by rw[<-Xg,<-HQZ];exact KJ.nod hnod,?_,?_,fun p hp g hg=>?_⟩
    ·rw[HPF2,Cf,HQA,HQE]
    ·have h1:=HPW.out;have hs1:=HSZ1.out;refine⟨aab.os.trans<|HCK.base.os.trans<|h1.os.trans HA1.os,aab.tape.trans<|HCK.base.tape.trans<|h1.tape.trans HA1.tape,aab.output.trans<|HCK.base.output.trans<|h1.output.trans HA1.output,by have:=aab.size;omega,fun g hg hv=>?_,?_⟩
     ·have hg1:cU g W1:=cq;have hgr:cU g wr:=cq;rw[aab.block g cq (fun e=>h1.apart hg1 hv e.symm),HCK.block g hgr cq,h1.block g hg1 hv];exact HA1.block g hg
     rcases hv11 with e|e
     ·rcases h1.own with e2|⟨g,e2,hg⟩
      ·exact .inl<|e.trans e2
      exact .inr ⟨g,e.trans e2,cq⟩
     exact .inr ⟨_,e,cq⟩
    rcases WU.1 hp with hp|hp
    ·have:=HNEW p hp g hg;omega
    rw[WZ]at hp;subst hp;exact(HQB g hg).2
   clear hown11 aab hv11;go_wp2;go_ret;exact Yw
def Ui{f:Ex->List Ex}{es:Q09}(h:aK es=true)(hf:∀e∈es,f e=[e]):dB f es=es:=by
 have h1:=Aq (sub:=fun _=>none) (f:=f) h ⟨fun e he _=>hf e he,fun _ _ _ h=>by cases h⟩;have h2:=Aq (sub:=fun _=>none) (f:=fun e=>[e]) h ⟨fun _ _ _=>rfl,fun _ _ _ h=>by cases h⟩;rw[<-h1,h2,EL<|iY h]
def xO{rel:ByteArray}{e:Ex}(h:ax e=true)(hn:eX rel e=true):e.kids=[]:=by
 unfold eX at hn;rw[WM]at hn;have hk:e.kind=2:=of_decide_eq_true hn.1;unfold ax at h;rw[if_neg cq,if_pos hk]at h;simp only[WM,WW]at h;exact Xb.1 h.2
def Uj{typ rel tn:ByteArray}{body es:Q09}(ht:(tn.toList==typ.toList)=true)(h:aK es=true)(hb:body≠[]):jg (pQ rel body) es es.length (es.length-1) 0=dB (eF typ rel body tn) es:=by
 have hbe:body.isEmpty=false:=by cases hb2:body with|nil=>exact absurd hb2 hb|cons a b=>rfl
 refine Aq h ⟨fun e he hs=>?_,fun e he bs hs=>?_⟩
 ·unfold pQ at hs;unfold eF;rw[hbe]at hs;cases hn:eX rel e;case true=>rw[hn]at hs;cases hs
  rw[Bool.and_false];rfl
 unfold pQ at hs;rw[hbe]at hs;cases hn:eX rel e;case false=>rw[hn]at hs;cases hs
 rw[hn]at hs;injection hs with hs;subst hs;refine⟨xO (dR h e he) hn,?_⟩;unfold eF;rw[ht,hn];rfl
def tV{typ rel tn:ByteArray}{body es:Q09}(h:aK es=true)(hn:(tn.toList==typ.toList)=false\/es.any (eX rel)=false):dB (eF typ rel body tn) es=es:=by
 refine Ui h fun e he=>?_;unfold eF;rcases hn with hn|hn
 ·rw[hn];rfl
 have:eX rel e=false:=by
  rw[List.any_eq_false]at hn;simpa using hn e he
 rw[this,Bool.and_false];rfl
def VD(p q:Ex->Bool)(xs:Q09):(xs.any fun e=>p e || q e)=(xs.any p || xs.any q):=by
 induction xs with
 | nil=>rfl
 | cons x xs ih=>simp only[XY,ih];cases p x<;>cases q x<;>simp
def pR(F:ByteArray->Ex->List Ex)(t:Ty)(k:Nat):Ty:=⟨t.name,(t.rels.take k).map (xe F t.name)++t.rels.drop k⟩
def Ps(F:ByteArray->Ex->List Ex)(t:Ty):pR F t 0=t:=by cases t;simp[pR]
def Sn(F:ByteArray->Ex->List Ex)(t:Ty):pR F t t.rels.length=Du F t:=by simp[pR,Du]
def qY(F:ByteArray->Ex->List Ex)(ts:Q0b)(i:Nat):List Ty:=(ts.take i).map (Du F)++ts.drop i
def Pt(F:ByteArray->Ex->List Ex)(ts:Q0b):qY F ts 0=ts:=by simp[qY]
def Sq(F:ByteArray->Ex->List Ex)(ts:Q0b):qY F ts ts.length=jE F ts:=by simp[qY,jE]
def GK{α:Type}(f:α->α)(xs:List α)(i:Nat)(h:i<xs.length)(y:α):((xs.take i).map f++xs.drop i).set i y=(xs.take i).map f++y::xs.drop (i+1):=by
 have hl:((xs.take i).map f).length=i:=by rw[Xv,XC];omega
 rw[List.set_append_right _ _ cq,hl,Nat.sub_self,Xw h,List.set_cons_zero]
def Uk(F:ByteArray->Ex->List Ex)(ts:Q0b)(i:Nat)(h:i<ts.length):qY F ts i=(qY F ts i).set i ts[i]:=by
 unfold qY;rw[GK _ _ _ h,<-Xw h]
def Fu(F:ByteArray->Ex->List Ex)(ts:Q0b)(i:Nat)(h:i<ts.length):(qY F ts i).set i (Du F ts[i])=qY F ts (i+1):=by
 unfold qY;rw[GK _ _ _ h,WN h,Xy,Xg];rfl
def Sr(F:ByteArray->Ex->List Ex)(ts:Q0b)(i:Nat):(qY F ts i).length=ts.length:=by
 unfold qY;simp;omega
def JD(F:ByteArray->Ex->List Ex)(t:Ty)(k:Nat):(pR F t k).rels.length=t.rels.length:=by
 unfold pR;simp;omega
def Fv(F:ByteArray->Ex->List Ex)(t:Ty)(k:Nat)(h:k<t.rels.length):pR F t (k+1)=⟨t.name,(pR F t k).rels.set k<|xe F t.name t.rels[k]⟩:=by
 unfold pR;simp only;rw[GK _ _ _ h,WN h,Xy,Xg];rfl
def Nf(F:ByteArray->Ex->List Ex)(t:Ty)(k:Nat)(h:k<t.rels.length):(pR F t k).rels[k]'(by rw[JD];exact h)=t.rels[k]:=by
 unfold pR;simp only;rw[XG (by simp;omega)];simp[Nat.min_eq_left (XW h)]
def dA.reput{w w1:af}{base bO n cap:Nat}{qs:Q06}{k j b2:Nat}{qn:Q08}{Yh:Q02}{cap':Nat}(h:dA w base (.slice (some<|am bO) n cap) qs)(hb:ag w w1)(hk:k<qs.length)(hj:j<qs[k].rows.length)(had:qs[k].ad=some (am b2))(hbase:cd base w)(hn:NodM w1 w.heap.size (.slice Yh qn.length cap') qn):
  dA (w1.setCell (aq b2<|j*2+1)<|.slice Yh qn.length cap') base (.slice (some<|am bO) n cap) (qs.set k { qs[k] with rows:=qs[k].rows.set j ⟨qs[k].rows[j].name,qn,Yh,cap'⟩ }):=by
 have Yy:=h.kid _<|WH hk;have hkid1:kT w1 base qs[k]:=X8.below oG Yy hb;have hvs:qs[k].vs=.slice (some<|am b2) qs[k].rows.length qs[k].cap:=by unfold TR.vs;rw[had]
 have hin:jJ (w1.setCell (aq b2<|j*2+1)<|.slice Yh qn.length cap') base qs[k].vs (qs[k].rows.set j ⟨qs[k].rows[j].name,qn,Yh,cap'⟩):=by
  have r1:jJ w1 base (.slice (some<|am b2) qs[k].rows.length qs[k].cap) qs[k].rows:=by rw[<-hvs];exact hkid1
  have r0:jJ w base (.slice (some<|am b2) qs[k].rows.length qs[k].cap) qs[k].rows:=by rw[<-hvs];exact Yy
  rw[hvs];refine X8.setAt oG r1 rfl r0 hj (q':=⟨qs[k].rows[j].name,qn,Yh,cap'⟩) (fun w2 hs2 hh=>?_) (fun g hg=>?_) ?_
  ·exact NodM.mono (oG.heap w1 w2 w.heap.size ⟨qs[k].rows[j].name,qn,Yh,cap'⟩ hn hs2 hh) hbase
  ·exact(oG.lt w1 w.heap.size ⟨qs[k].rows[j].name,qn,Yh,cap'⟩ hn g hg).1
  have hgen:∀(xs:Q07) (j:Nat) (hj:j<xs.length),(xs.flatMap RR.cells).set (j*2+1) (Value.slice Yh qn.length cap')=(xs.set j ⟨xs[j].name,qn,Yh,cap'⟩).flatMap RR.cells:=by
   intro xs
   induction xs with
   | nil=>intro j hj;simp at hj
   | cons x xs ih =>
    intro j hj;cases j with
    | zero=>simp[RR.cells,RR.vs]
    | succ j =>
     have:=ih j (by simpa using hj);simp only[Xr,List.getElem_cons_succ,List.set_cons_succ];rw[<-this,show(j+1)*2+1=(j*2+1)+2 by omega];simp[RR.cells]
  exact hgen _ j hj
 have hbo:∀g,g<w.heap.size->¬iT qs[k] g->(w1.setCell (aq b2<|j*2+1)<|.slice Yh qn.length cap').heap[g]?=w.heap[g]?:=fun g hg hi=>by
  rw[Below.heap_setCell w1 _ _ g (fun e=>hi<|.inl<|by rw[hvs];show some b2=some g;rw[e])];exact hb.block g hg
 refine X8.setIn jW h hk (by simpa using hb.size) hbo ?_ ?_ ?_
 ·simp[TR.cells,TR.vs]
 ·show jJ _ base (TR.vs { qs[k] with rows:=_ }) _;have e:TR.vs { qs[k] with rows:=qs[k].rows.set j ⟨qs[k].rows[j].name,qn,Yh,cap'⟩ }=qs[k].vs:=by simp[TR.vs]
  rw[e];exact hin
 rintro g (hg|⟨q,hq,hg⟩)
 ·exact .inl (.inl<|by simpa[TR.vs] using hg)
 rcases xJ hq with rfl|⟨x,hx,hne,rfl⟩
 ·exact .inr (oG.lt w1 w.heap.size ⟨qs[k].rows[j].name,qn,Yh,cap'⟩ hn g hg).1
 exact .inl<|.inr ⟨_,WH hx,hg⟩
end Go.Proofs.YtojjoblnpldniaaGreat
