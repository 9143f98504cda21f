/- The program's comparison of two tuples makes memory and draws, and takes neither back. -/
import Derived.Test.YtojjoblnpldniaaGreatSq
import Derived.Sort.Grow
import Derived.Test.YtojjoblnpldniaaGreatJ12
import Derived.Test.YtojjoblnpldniaaGreatShelfS
open Go.Proofs.Tryz
set_option maxHeartbeats 80000000
set_option linter.defProp false
namespace Go.Proofs.YtojjoblnpldniaaGreat
open ChangeShapes WideShapes ChangeAt RowKit
open Pl
attribute [local go_sem ↓] Go.wp_at_zero Go.wp_at_succ
structure BelowD(B:Nat)(w w':World):Prop where
 b:Below B w w'
 d:w.drawn<=w'.drawn
def BelowD.size{B:Nat}{w w':af}(h:BelowD B w w'):w.heap.size<=w'.heap.size:=h.b.size
def BelowD.refl(B:Nat)(w:af):BelowD B w w:=⟨WL B w,WK _⟩
def BelowD.trans{B:Nat}{a b c:af}(h:BelowD B a b)(k:BelowD B b c):BelowD B a c:=⟨h.b.trans k.b,WR h.d k.d⟩
def BelowD.mono{B B':Nat}{w w':af}(h:BelowD B w w')(hB:B'<=B):BelowD B' w w':=⟨h.b.mono hB,h.d⟩
def BelowD.drew{B:Nat}{a w:af}(h:BelowD B a w):BelowD B a w.drew:=⟨h.b.drew,WR h.d<|Nat.le_succ _⟩
def BelowD.alloc{B:Nat}{a w:af}(h:BelowD B a w)(hB:cd B w)(o:Obj):BelowD B a (w.alloc o):=⟨h.b.alloc hB o,h.d⟩
def BelowD.cell{B:Nat}{w w':af}(h:BelowD B w w'){p:Addr}(hp:p.block<B):w'.cell? p=w.cell? p:=h.b.cell hp
def BelowD.frozen{B:Nat}{w w':af}(h:BelowD B w w'){p:Addr}(hp:p.block<B):w'.frozen? p=w.frozen? p:=h.b.frozen hp
def BelowD.grew{w w':af}(h:BelowD w.heap.size w w'):∃q os,w'=Go.Sort.grow (w.drewN q) os:=by
 obtain⟨⟨h1,h2,h3,h4,h5⟩,h6⟩:=h;refine⟨w'.drawn-w.drawn,w'.heap.extract w.heap.size w'.heap.size,?_⟩;obtain⟨hp,tp,dr,os,ou⟩:=w';simp only at h1 h2 h3 h4 h5 h6;subst h1 h2 h3;simp only[Go.Sort.grow,World.drewN,World.mk.injEq,true_and,and_true];refine⟨?_,cq⟩;apply Array.ext
 ·simp;omega
 intro i hi hj;by_cases hlt:i<w.heap.size
 ·have:=h5 i hlt;rw[XJ hi,XJ hlt]at this;injection this with this;rw[this,Array.getElem_append_left hlt]
 rw[Array.getElem_append_right cq];simp;congr 1;omega
def vH{W w1:af}(hb:BelowD W.heap.size W w1):(∀b o,b<W.heap.size->w1.cell? (aq b o)=W.cell? (aq b o))/\(∀b o,b<W.heap.size->w1.frozen? (aq b o)=W.frozen? (aq b o)) :=
 ⟨fun b o h=>hb.cell (p:=⟨b,o,none⟩) h,fun b o h=>hb.frozen (p:=⟨b,o,none⟩) h⟩
def fZ(t i:bN)(w:af)(ht:t.size<=maxLen)(hi:i.size<=maxLen):
  Calls prog 147 #[.agg #[.string t,.string i]] w fun e w'=>e=.returned (.bool<|fJ t i)/\BelowD w.heap.size w w':=by
 by_cases hn:aS t=true
 all_goals
  go_enter func147,ntmps147;go_wp2_with(first|(go_at_call 122;refine(aP _ _ ht).mono ?_;rintro e w' ⟨rfl,rfl⟩)|(go_at_call 220;refine(AC _ _ hi).mono ?_;rintro e w' ⟨rfl,rfl⟩));go_ret;exact⟨ah<|by simp[fJ,hn],(BelowD.refl _ _).alloc (WK _) _⟩
def yQ(t i:bN)(w:af)(ht:t.size<=maxLen)(hi:i.size<=maxLen):
  Calls prog 276 #[.agg #[.string t,.string i]] w fun e w'=>e=.returned (.string<|aH t i)/\BelowD w.heap.size w w':=by
 by_cases hn:fJ t i=true
 ·obtain⟨h1,h2⟩:=Ah hn;have HT:O (aH t i=t++⟨#[58]⟩++i):=nV hn;go_enter func276,ntmps276;go_wp2_with(go_at_call 147;refine(fZ _ _ _ ht hi).mono ?_;rintro e w' ⟨rfl,hb⟩;obtain⟨hc,hf⟩:=vH hb);go_ret;exact⟨gV HT.symm,((BelowD.refl _ _).alloc (WK _) _).trans<|hb.mono ct⟩
 have hn':fJ t i=false:=by simpa using hn
 have HT:O (aH t i=⟨#[]⟩):=uR hn';clear hn;go_enter func276,ntmps276;go_wp2_with(go_at_call 147;refine(fZ _ _ _ ht hi).mono ?_;rintro e w' ⟨rfl,hb⟩;obtain⟨hc,hf⟩:=vH hb);go_ret;exact⟨gV HT.symm,((BelowD.refl _ _).alloc (WK _) _).trans<|hb.mono ct⟩
def xQ(a b r c d s:bN)(w:af)(ha:a.size<=maxLen)(hb:b.size<=maxLen)(hr:r.size<=maxLen)(hc:c.size<=maxLen)(hd:d.size<=maxLen)(hs:s.size<=maxLen):
  Calls prog 62 #[.agg #[.string a,.string b,.string r,.string c,.string d,.string s]] w fun e w'=>e=.returned (.bool<|bW a b r c d s)/\BelowD w.heap.size w w':=by
 by_cases h1:fJ a b=true
 ·by_cases h2:aS r=true
  ·by_cases h3:fJ c d=true
   ·have HT:O (bW a b r c d s=wE s):=Ba h1 h2 h3;go_enter func62,ntmps62;go_wp2_with fail;refine(fZ _ _ _ ha hb).mono ?_;rintro e w1 ⟨rfl,hb1⟩;obtain⟨hc1,hf1⟩:=vH hb1;have hz1:cW w w1:=by have:=hb1.size;simp at this;omega
    go_wp2_with fail;refine(aP _ _ hr).mono ?_;rintro e w1' ⟨rfl,rfl⟩;go_wp2_with fail;refine(fZ _ _ _ hc hd).mono ?_;rintro e w2 ⟨rfl,hb2⟩;obtain⟨hc2,hf2⟩:=vH hb2;have hz2:cW w w2:=by have:=hb2.size;omega
    go_wp2_with(go_at_call 148;refine(Eb _ _ hs).mono ?_;rintro e w3 ⟨rfl,rfl⟩)
    all_goals go_ret
    all_goals exact⟨ah (HT.trans<|by simp[wE, *]).symm,((BelowD.refl _ _).alloc (WK _) _).trans<|(hb1.mono ct).trans<|hb2.mono cq⟩
   have h3':fJ c d=false:=by simpa using h3
   have HT:O (bW a b r c d s=false):=A9 h3';clear h3;go_enter func62,ntmps62;go_wp2_with fail;refine(fZ _ _ _ ha hb).mono ?_;rintro e w1 ⟨rfl,hb1⟩;obtain⟨hc1,hf1⟩:=vH hb1;have hz1:cW w w1:=by have:=hb1.size;simp at this;omega
   go_wp2_with fail;refine(aP _ _ hr).mono ?_;rintro e w1' ⟨rfl,rfl⟩;go_wp2_with fail;refine(fZ _ _ _ hc hd).mono ?_;rintro e w2 ⟨rfl,hb2⟩;go_wp2;go_ret;exact⟨ah HT.symm,((BelowD.refl _ _).alloc (WK _) _).trans<|(hb1.mono ct).trans<|hb2.mono cq⟩
  have h2':aS r=false:=by simpa using h2
  have HT:O (bW a b r c d s=false):=A8 h2';clear h2;go_enter func62,ntmps62;go_wp2_with fail;refine(fZ _ _ _ ha hb).mono ?_;rintro e w1 ⟨rfl,hb1⟩;obtain⟨hc1,hf1⟩:=vH hb1;go_wp2_with fail;refine(aP _ _ hr).mono ?_;rintro e w1' ⟨rfl,rfl⟩;go_wp2;go_ret;exact⟨ah HT.symm,((BelowD.refl _ _).alloc (WK _) _).trans<|hb1.mono ct⟩
 have h1':fJ a b=false:=by simpa using h1
 have HT:O (bW a b r c d s=false):=A7 h1';clear h1;go_enter func62,ntmps62;go_wp2_with fail;refine(fZ _ _ _ ha hb).mono ?_;rintro e w1 ⟨rfl,hb1⟩;go_wp2;go_ret;exact⟨ah HT.symm,((BelowD.refl _ _).alloc (WK _) _).trans<|hb1.mono ct⟩
def VH{w W w':af}{n:Nat}{x0 x1 x2 x3 x4 x5:Value}(h:W.cell? (am n)=some x0/\W.cell? (aq n 1)=some x1/\W.cell? (aq n 2)=some x2/\W.cell? (aq n 3)=some x3/\W.cell? (aq n 4)=some x4/\W.cell? (aq n 5)=some x5/\n<W.heap.size/\BelowD n w W)(hb:BelowD W.heap.size W w'):w'.cell? (am n)=some x0/\w'.cell? (aq n 1)=some x1/\w'.cell? (aq n 2)=some x2/\w'.cell? (aq n 3)=some x3/\w'.cell? (aq n 4)=some x4/\w'.cell? (aq n 5)=some x5/\n<w'.heap.size/\BelowD n w w':=by
 obtain⟨h0,h1,h2,h3,h4,h5,hn,hB⟩:=h;have hc:∀o,w'.cell? (aq n o)=W.cell? (aq n o):=fun o=>hb.cell (p:=⟨n,o,none⟩) hn;refine⟨by rw[hc];exact h0,by rw[hc];exact h1,by rw[hc];exact h2,by rw[hc];exact h3,by rw[hc];exact h4,by rw[hc];exact h5,WJ hn hb.size,hB.trans<|hb.mono<|XW hn⟩
def yR(a b r c d s:bN)(w:af)(ha:a.size<=maxLen)(hb:b.size<=maxLen)(hr:r.size<=maxLen)(hc:c.size<=maxLen)(hd:d.size<=maxLen)(hs:s.size<=maxLen):
  Calls prog 216 #[.agg #[.string a,.string b,.string r,.string c,.string d,.string s]] w fun e w'=>e=.returned (.string<|bi a b r c d s)/\BelowD w.heap.size w w':=by
 by_cases hn:bW a b r c d s=true
 ·obtain⟨h1,h2,h3,h4⟩:=kM hn;have hx:=je a b;have hy:=je c d;have hr12:=(o6 h2).2;have hs12:=FP h4;clear h1 h2 h3 h4;go_enter func216,ntmps216;go_wp2_with fail;refine(xQ _ _ _ _ _ _ _ ha hb hr hc hd hs).mono ?_;rintro e w1 ⟨rfl,hb1⟩;obtain⟨hc1,hf1⟩:=vH hb1;have hz1:w.heap.size<w1.heap.size:=by have:=hb1.size;simp at this;omega
  have k:∀o v,(w.alloc<|.cells #[.string a,.string b,.string r,.string c,.string d,.string s] 29).cell? ⟨w.heap.size,o,none⟩=some v->w1.cell? ⟨w.heap.size,o,none⟩=some v:=fun o v h=>by rw[hc1 _ _ ct];exact h
  have k0:=k 0 (.string a) ct;have k1:=k 1 (.string b) ct;have k2:=k 2 (.string r) ct;have k3:=k 3 (.string c) ct;have k4:=k 4 (.string d) ct;have k5:=k 5 (.string s) ct;have HB1:BelowD w.heap.size w w1:=((BelowD.refl _ _).alloc (WK _) _).trans<|hb1.mono ct;clear k hb1 hc1 hf1;have q1:(9223372036854775807<(aH a b).size+1)=False:=by simp;omega
  have q2:(9223372036854775807<(aH a b).size+1+r.size)=False:=by simp;omega
  have q3:(9223372036854775807<(aH a b).size+1+r.size+1)=False:=by simp;omega
  have q4:(9223372036854775807<(aH a b).size+1+r.size+1+(aH c d).size)=False:=by simp;omega
  go_wp2_with fail
  go_region_held3 (fun w'=>w'.cell? ⟨w.heap.size,0,none⟩=some (.string a)/\w'.cell? ⟨w.heap.size,1,none⟩=some (.string b)/\w'.cell? ⟨w.heap.size,2,none⟩=some (.string r)/\w'.cell? ⟨w.heap.size,3,none⟩=some (.string c)/\w'.cell? ⟨w.heap.size,4,none⟩=some (.string d)/\w'.cell? ⟨w.heap.size,5,none⟩=some (.string s)/\w.heap.size<w'.heap.size/\BelowD w.heap.size w w')
   (first|exact VH cE hbx|exact⟨k0,k1,k2,k3,k4,k5,hz1,HB1.drew⟩)
   (first|(go_at_call 276;refine(yQ _ _ _ cE cE).mono ?_;rintro e w' ⟨rfl,hbx⟩))
  rename_i hH;obtain⟨g0,g1,g2,g3,g4,g5,gz,gB⟩:=hH;clear k0 k1 k2 k3 k4 k5 hbx q1 q2 q3 q4 HB1;by_cases he:s.toList.isEmpty=true
  ·have HT:O (bi a b r c d s=_):=nW hn he;go_wp2;go_ret;exact⟨gV HT.symm,gB⟩
  have he':s.toList.isEmpty=false:=by simpa using he
  have HT:O (bi a b r c d s=_):=nX hn he';clear he;go_wp2;go_ret;exact⟨gV (HT.trans<|by simp only[Xo]).symm,gB⟩
 have hn':bW a b r c d s=false:=by simpa using hn
 have HT:O (bi a b r c d s=⟨#[]⟩):=uS hn';clear hn;go_enter func216,ntmps216;go_wp2_with fail;refine(xQ _ _ _ _ _ _ _ ha hb hr hc hd hs).mono ?_;rintro e w1 ⟨rfl,hb1⟩;go_wp2;go_ret;exact⟨gV HT.symm,((BelowD.refl _ _).alloc (WK _) _).trans<|hb1.mono ct⟩
def Ur{w W w':af}{n m k:Nat}{x0 x1 x2 x3 x4 x5 y0 y1 y2 y3 y4 y5:Value}(hk:k<=n)(h:W.cell? (am n)=some x0/\W.cell? (aq n 1)=some x1/\W.cell? (aq n 2)=some x2/\W.cell? (aq n 3)=some x3/\W.cell? (aq n 4)=some x4/\W.cell? (aq n 5)=some x5/\W.cell? (am m)=some y0/\W.cell? (aq m 1)=some y1/\W.cell? (aq m 2)=some y2/\W.cell? (aq m 3)=some y3/\W.cell? (aq m 4)=some y4/\W.cell? (aq m 5)=some y5/\n<W.heap.size/\m<W.heap.size/\BelowD k w W)(hb:BelowD W.heap.size W w'):w'.cell? (am n)=some x0/\w'.cell? (aq n 1)=some x1/\w'.cell? (aq n 2)=some x2/\w'.cell? (aq n 3)=some x3/\w'.cell? (aq n 4)=some x4/\w'.cell? (aq n 5)=some x5/\w'.cell? (am m)=some y0/\w'.cell? (aq m 1)=some y1/\w'.cell? (aq m 2)=some y2/\w'.cell? (aq m 3)=some y3/\w'.cell? (aq m 4)=some y4/\w'.cell? (aq m 5)=some y5/\n<w'.heap.size/\m<w'.heap.size/\BelowD k w w':=by
 obtain⟨h0,h1,h2,h3,h4,h5,h6,h7,h8,h9,h10,h11,hn,hm,hB⟩:=h;have hc:∀o,w'.cell? (aq n o)=W.cell? (aq n o):=fun o=>hb.cell (p:=⟨n,o,none⟩) hn;have hd:∀o,w'.cell? (aq m o)=W.cell? (aq m o):=fun o=>hb.cell (p:=⟨m,o,none⟩) hm;exact⟨by rw[hc];exact h0,by rw[hc];exact h1,by rw[hc];exact h2,by rw[hc];exact h3,by rw[hc];exact h4,by rw[hc];exact h5,by rw[hd];exact h6,by rw[hd];exact h7,by rw[hd];exact h8,by rw[hd];exact h9,by rw[hd];exact h10,by rw[hd];exact h11,WJ hn hb.size,WJ hm hb.size,hB.trans<|hb.mono cq⟩
def Nh(w:af)(o1 o2:Obj):BelowD w.heap.size w ((w.alloc o1).alloc o2) :=
 ((BelowD.refl _ _).alloc (WK _) _).alloc ct _
def vI(a b r c d s a' b' r' c' d' s':bN)(w:af)(ha:a.size<=maxLen)(hb:b.size<=maxLen)(hr:r.size<=maxLen)(hc:c.size<=maxLen)(hd:d.size<=maxLen)(hs:s.size<=maxLen)(ga:a'.size<=maxLen)(gb:b'.size<=maxLen)(gr:r'.size<=maxLen)(gc:c'.size<=maxLen)(gd:d'.size<=maxLen)(gs:s'.size<=maxLen):
  Calls prog 139 #[.agg #[.string a,.string b,.string r,.string c,.string d,.string s],.agg #[.string a',.string b',.string r',.string c',.string d',.string s']] w fun e w'=>e=.returned (.int .i64<|Km a b r c d s a' b' r' c' d' s')/\BelowD w.heap.size w w':=by
 have H0:((w.alloc<|.cells (cX a b r c d s) 29).alloc<|.cells (cX a' b' r' c' d' s') 29).drew.cell? (a7 w)=some (.string a)/\((w.alloc<|.cells (cX a b r c d s) 29).alloc<|.cells (cX a' b' r' c' d' s') 29).drew.cell? (a8 w 1)=some (.string b)/\((w.alloc<|.cells (cX a b r c d s) 29).alloc<|.cells (cX a' b' r' c' d' s') 29).drew.cell? (a8 w 2)=some (.string r)/\((w.alloc<|.cells (cX a b r c d s) 29).alloc<|.cells (cX a' b' r' c' d' s') 29).drew.cell? (a8 w 3)=some (.string c)/\((w.alloc<|.cells (cX a b r c d s) 29).alloc<|.cells (cX a' b' r' c' d' s') 29).drew.cell? (a8 w 4)=some (.string d)/\((w.alloc<|.cells (cX a b r c d s) 29).alloc<|.cells (cX a' b' r' c' d' s') 29).drew.cell? (a8 w 5)=some (.string s)/\((w.alloc<|.cells (cX a b r c d s) 29).alloc<|.cells (cX a' b' r' c' d' s') 29).drew.cell? (am<|w.heap.size+1)=some (.string a')/\((w.alloc<|.cells (cX a b r c d s) 29).alloc<|.cells (cX a' b' r' c' d' s') 29).drew.cell? (aq (w.heap.size+1) 1)=some (.string b')/\((w.alloc<|.cells (cX a b r c d s) 29).alloc<|.cells (cX a' b' r' c' d' s') 29).drew.cell? (aq (w.heap.size+1) 2)=some (.string r')/\((w.alloc<|.cells (cX a b r c d s) 29).alloc<|.cells (cX a' b' r' c' d' s') 29).drew.cell? (aq (w.heap.size+1) 3)=some (.string c')/\((w.alloc<|.cells (cX a b r c d s) 29).alloc<|.cells (cX a' b' r' c' d' s') 29).drew.cell? (aq (w.heap.size+1) 4)=some (.string d')/\((w.alloc<|.cells (cX a b r c d s) 29).alloc<|.cells (cX a' b' r' c' d' s') 29).drew.cell? (aq (w.heap.size+1) 5)=some (.string s')/\w.heap.size<((w.alloc<|.cells (cX a b r c d s) 29).alloc<|.cells (cX a' b' r' c' d' s') 29).drew.heap.size/\w.heap.size+1<((w.alloc<|.cells (cX a b r c d s) 29).alloc<|.cells (cX a' b' r' c' d' s') 29).drew.heap.size/\BelowD w.heap.size w (((w.alloc<|.cells (cX a b r c d s) 29).alloc<|.cells (cX a' b' r' c' d' s') 29).drew):=by
  refine⟨?_,?_,?_,?_,?_,?_,?_,?_,?_,?_,?_,?_,?_,?_,?_⟩
  all_goals first|exact(Nh _ _ _).drew|(simp;done)|(simp;omega)
 go_enter func139,ntmps139;go_wp2_with fail
 go_region_held3 (fun w'=>w'.cell? (a7 w)=some (.string a)/\w'.cell? (a8 w 1)=some (.string b)/\w'.cell? (a8 w 2)=some (.string r)/\w'.cell? (a8 w 3)=some (.string c)/\w'.cell? (a8 w 4)=some (.string d)/\w'.cell? (a8 w 5)=some (.string s)/\w'.cell? (am<|w.heap.size+1)=some (.string a')/\w'.cell? (aq (w.heap.size+1) 1)=some (.string b')/\w'.cell? (aq (w.heap.size+1) 2)=some (.string r')/\w'.cell? (aq (w.heap.size+1) 3)=some (.string c')/\w'.cell? (aq (w.heap.size+1) 4)=some (.string d')/\w'.cell? (aq (w.heap.size+1) 5)=some (.string s')/\w.heap.size<w'.heap.size/\w.heap.size+1<w'.heap.size/\BelowD w.heap.size w w')
  (first|assumption|exact Ur (WK _) cE hbx|exact H0)
  (first|(go_at_call 216;refine(yR _ _ _ _ _ _ _ cE cE cE cE cE cE).mono ?_;rintro e w' ⟨rfl,hbx⟩)|(go_at_call 197;refine(Tryz.strings_Compare _ _ _).mono ?_;rintro e w' ⟨rfl,rfl⟩))
 rename_i hH;obtain⟨-,-,-,-,-,-,-,-,-,-,-,-,-,-,gB⟩:=hH;go_wp2;go_ret;exact⟨rfl,gB⟩
end Go.Proofs.YtojjoblnpldniaaGreat
namespace Go.Proofs.YtojjoblnpldniaaGreat
set_option maxRecDepth 100000
set_option linter.unusedVariables false
open ChangeShapes WideShapes ChangeAt RowKit Maps Go.Shelf Go.Sort
open Pl
def sD(f:Fc)(w:af):
  Calls prog 140 #[.agg (cf f)] w fun e w'=>e=.returned (.agg #[.string f.a,.string f.b,.string f.r,.string f.c,.string f.d,.string ⟨#[]⟩])/\BelowD w.heap.size w w':=by
 go_enter func140,ntmps140;go_wp2;exact bodyPost_ret (v:=.agg #[.string f.a,.string f.b,.string f.r,.string f.c,.string f.d,.string ⟨#[]⟩]) (by simp[results,Tryz.results140,go_sem, *]) rfl ⟨rfl,⟨by
  repeat(first|exact WL _ _|refine Below.setCell ?_ (by first|(simp;done)|(simp;omega)) _|refine Below.alloc ?_ (by first|(simp;done)|(simp;omega)) _),WK _⟩⟩
def Us(x y:Fc):Int:=Km x.a x.b x.r x.c x.d ⟨#[]⟩ y.a y.b y.r y.c y.d ⟨#[]⟩
def Ut{w W w':af}{n m:Nat}{x0 x1 x2 x3 x4 y0 y1 y2 y3 y4:Value}(h:W.cell? (am n)=some x0/\W.cell? (aq n 1)=some x1/\W.cell? (aq n 2)=some x2/\W.cell? (aq n 3)=some x3/\W.cell? (aq n 4)=some x4/\W.cell? (am m)=some y0/\W.cell? (aq m 1)=some y1/\W.cell? (aq m 2)=some y2/\W.cell? (aq m 3)=some y3/\W.cell? (aq m 4)=some y4/\BelowD w.heap.size w W)(hb:BelowD W.heap.size W w'):w'.cell? (am n)=some x0/\w'.cell? (aq n 1)=some x1/\w'.cell? (aq n 2)=some x2/\w'.cell? (aq n 3)=some x3/\w'.cell? (aq n 4)=some x4/\w'.cell? (am m)=some y0/\w'.cell? (aq m 1)=some y1/\w'.cell? (aq m 2)=some y2/\w'.cell? (aq m 3)=some y3/\w'.cell? (aq m 4)=some y4/\BelowD w.heap.size w w':=by
 obtain⟨h0,h1,h2,h3,h4,g0,g1,g2,g3,g4,hB⟩:=h;exact⟨iH hb.b (bQ h0) h0,iH hb.b (bQ h1) h1,iH hb.b (bQ h2) h2,iH hb.b (bQ h3) h3,iH hb.b (bQ h4) h4,iH hb.b (bQ g0) g0,iH hb.b (bQ g1) g1,iH hb.b (bQ g2) g2,iH hb.b (bQ g3) g3,iH hb.b (bQ g4) g4,hB.trans<|hb.mono hB.size⟩
def yS(x y:Fc)(w:af)(hx:x.fits)(hy:y.fits):
  Calls prog 58 #[.agg #[.string x.a,.string x.b,.string x.r,.string x.c,.string x.d],.agg #[.string y.a,.string y.b,.string y.r,.string y.c,.string y.d]] w fun e w'=>e=.returned (.int .i64<|Us x y)/\BelowD w.heap.size w w':=by
 have he0:(⟨#[]⟩:ByteArray).size<=maxLen:=cv;obtain⟨x0,x1,x2,x3,x4⟩:=hx;obtain⟨y0,y1,y2,y3,y4⟩:=hy;obtain⟨W0,hW0⟩:=eQx<|(w.alloc<|.cells #[.string x.a,.string x.b,.string x.r,.string x.c,.string x.d] 52).alloc<|.cells #[.string y.a,.string y.b,.string y.r,.string y.c,.string y.d] 52;have HB0:BelowD w.heap.size w W0:=by rw[hW0];exact Nh _ _ _
 have c0:W0.cell? ⟨w.heap.size,0,none⟩=some (.string x.a):=by rw[hW0];simp
 have c1:W0.cell? ⟨w.heap.size,1,none⟩=some (.string x.b):=by rw[hW0];simp
 have c2:W0.cell? ⟨w.heap.size,2,none⟩=some (.string x.r):=by rw[hW0];simp
 have c3:W0.cell? ⟨w.heap.size,3,none⟩=some (.string x.c):=by rw[hW0];simp
 have c4:W0.cell? ⟨w.heap.size,4,none⟩=some (.string x.d):=by rw[hW0];simp
 have e0:W0.cell? ⟨w.heap.size+1,0,none⟩=some (.string y.a):=by rw[hW0];simp
 have e1:W0.cell? ⟨w.heap.size+1,1,none⟩=some (.string y.b):=by rw[hW0];simp
 have e2:W0.cell? ⟨w.heap.size+1,2,none⟩=some (.string y.r):=by rw[hW0];simp
 have e3:W0.cell? ⟨w.heap.size+1,3,none⟩=some (.string y.c):=by rw[hW0];simp
 have e4:W0.cell? ⟨w.heap.size+1,4,none⟩=some (.string y.d):=by rw[hW0];simp
 unfold Us;go_enter func58,ntmps58;go_wp2_with fail;rw[<-hW0];clear hW0
 go_region_held3 (fun w'=>w'.cell? ⟨w.heap.size,0,none⟩=some (.string x.a)/\w'.cell? ⟨w.heap.size,1,none⟩=some (.string x.b)/\w'.cell? ⟨w.heap.size,2,none⟩=some (.string x.r)/\w'.cell? ⟨w.heap.size,3,none⟩=some (.string x.c)/\w'.cell? ⟨w.heap.size,4,none⟩=some (.string x.d)/\w'.cell? ⟨w.heap.size+1,0,none⟩=some (.string y.a)/\w'.cell? ⟨w.heap.size+1,1,none⟩=some (.string y.b)/\w'.cell? ⟨w.heap.size+1,2,none⟩=some (.string y.r)/\w'.cell? ⟨w.heap.size+1,3,none⟩=some (.string y.c)/\w'.cell? ⟨w.heap.size+1,4,none⟩=some (.string y.d)/\BelowD w.heap.size w w')
  (first|assumption|exact Ut cE hbx|exact⟨c0,c1,c2,c3,c4,e0,e1,e2,e3,e4,HB0.drew⟩)
  (first|(go_at_call_of 140 (Value.agg #[.string x.a,.string x.b,.string x.r,.string x.c,.string x.d]);refine(sD x _).mono ?_;rintro e w' ⟨rfl,hbx⟩)|(go_at_call_of 140 (Value.agg #[.string y.a,.string y.b,.string y.r,.string y.c,.string y.d]);refine(sD y _).mono ?_;rintro e w' ⟨rfl,hbx⟩)|(go_at_call 139;refine(vI x.a x.b x.r x.c x.d ⟨#[]⟩ y.a y.b y.r y.c y.d ⟨#[]⟩ _ x0 x1 x2 x3 x4 he0 y0 y1 y2 y3 y4 he0).mono ?_;rintro e w' ⟨rfl,hbx⟩))
 all_goals(rename_i hJ;obtain⟨-,-,-,-,-,-,-,-,-,-,gB⟩:=hJ;clear c0 c1 c2 c3 c4 e0 e1 e2 e3 e4;go_wp2;go_ret;exact⟨rfl,gB⟩)
abbrev Ni:={ f:Fc // f.fits }
def pU(x:Ni):List Value:=x.1.row
def Ww(x y:Ni):Int:=Us x.1 y.1
def GX(x:Fc):List UInt8:=(bi x.a x.b x.r x.c x.d ⟨#[]⟩).toList
def UY(x y:Ni):Bool:=Op.bytesLess (GX x.1)<|GX y.1
def Sz:ltOf Ww=UY:=by
 funext x y
 unfold ltOf Ww UY Us Km GX;rw[wF,Go.ByteArray.toList_eq,Go.ByteArray.toList_eq]
def Uu:Go.Sort.SWO UY where
 irrefl x:=Ls.lt_irrefl _
 trans x y z h k:=Ls.lt_trans _ _ _ h k
 ntrans x y z h k:=by
  cases e:UY x z;case false=>rfl
  by_cases e1:GX y.1=GX x.1
  ·unfold UY at *;rw[e1]at k;rw[k]at e;cases e
  rcases Ls.lt_total _ _ e1 with h1|h1
  ·have:UY y z=true:=Ls.lt_trans _ _ _ h1 e;rw[k]at this;cases this
  have h:UY x y=false:=h;have h1:UY x y=true:=h1;rw[h]at h1;cases h1
def SA[Inhabited Ni](blk off size:Nat)(w:af):CmpLays prog 58 #[] pU 5 Ww blk off size w:=fun m os dk _ x y =>
 (yS x.1 y.1 _ x.2 y.2).mono fun e w' ⟨he,hb⟩=>⟨he,hb.grew⟩
def lZ(xs:List Ni):List Fc:=xs.map (·.1)
def mF(xs:List Ni):(lZ xs).length=xs.length:=by simp[lZ]
def Px[Inhabited Ni](w:af)(blk off n:Nat)(d:Array Ni)(os:Array Obj):Chg (fun g=>g=blk) w (sortWorldK pU 5 w blk off n d os):=by
 refine⟨⟨rfl,rfl,rfl,?_,fun k hk=>absurd hk<|XE _⟩,fun k hk hne=>?_,fun g hg hf j=>?_⟩
 ·simp[sortWorldK,grow,putRowK,Sort.ahead]
 ·simp only[sortWorldK,putRowK];rw[heap_grow_old _ _ (by simpa[Sort.ahead] using hk)];have hne:blk≠k:=fun e=>hne e.symm;simp[putRow,mapBlock,Sort.ahead,Array.getElem?_modify,hne]
 simp only[sortWorldK,putRowK];rw[frozen?_grow _ _ _ (by simpa[Sort.ahead] using hg),frozen?_putRow,frozen?_ahead];exact hf j
def Nj[Inhabited Ni]{w:af}{base g cap:Nat}{xs:List Ni}(h:w.ownsRow base 52 5 (.slice (some<|am g) xs.length cap) xs.length<|iK<|lZ xs):HoldsK pU 5 w g 0 xs.toArray:=by
 intro t ht;rw[size_flatK]at ht;have ht':t<xs.length*5:=by simpa using ht
 have hi:t / 5<xs.length:=cq;have hr:t%5<5:=Nat.mod_lt _ cq;refine⟨?_,by rw[Xl];exact h.frozenAt t⟩;rw[Xl,h.cellAt t ht',get_flatK _ _ _ _ ht];have e:t=t / 5*5+t%5:=cq
 have h1:=xz (lZ xs) (t / 5) (by rw[mF];exact hi) (t%5) hr;rw[<-e]at h1;rw[h1];have h2:(xs.toArray)[t / 5]! = xs[t / 5]:=by rw[getElem!_pos xs.toArray _ (by simpa using hi)];simp
 rw[h2];have h3:(lZ xs)[t / 5]'(by rw[mF];exact hi)=xs[t / 5].1:=by simp[lZ]
 rw[h3];have hl:t%5<(Fc.row xs[t / 5].1).length:=hr;show _=some ((Fc.row xs[t / 5].1)[t%5]!);rw[WS hl,getElem!_pos (Fc.row xs[t / 5].1) (t%5) hl]
def Wu[Inhabited Ni]{w:af}{base g n cap:Nat}{xs ys:List Ni}(h0:w.ownsRow base 52 5 (.slice (some<|am g) n cap) n<|iK<|lZ xs)(hx:xs.length=n)(hl:ys.length=n)(m:Nat)(os:Array Obj):(sortWorldK pU 5 w g 0 m ys.toArray os).ownsRow base 52 5 (.slice (some<|am g) n cap) n (iK<|lZ ys):=by
 subst hx;have hg:=(h0.lt g rfl).2;have hH:=holdsK_sortWorldK_c pU 5 w g 0 xs.toArray ys.toArray m os (Nj h0) hg (by simpa using hl);have hlen:(iK<|lZ ys).length=xs.length*5:=by rw[yJ,mF,hl]
 refine⟨hlen,.inr ?_⟩;rcases h0.2 with⟨e,-⟩|⟨g',cap',cur,e,h1,h2,h3,h4,h5,-⟩
 ·cases e
 injection e with e1 e2 e3;injection e1 with e1;injection e1 with e1;subst e1;subst e3;have hb:(sortWorldK pU 5 w g 0 m ys.toArray os).heap[g]?=some (.cells (putCells id 0 (flatK pU 5 ys.toArray) cur) 52 (0,0)):=by
  simp only[sortWorldK,putRowK];rw[heap_grow_old _ _ (by simpa[Sort.ahead] using hg)];simp[putRow,mapBlock,Sort.ahead,Array.getElem?_modify,h2,onCells]
 refine⟨g,cap,_,rfl,h1,hb,h3,h4,by simp only[putCells,Array.size_mapIdx];exact h5,?_⟩;refine List.ext_getElem? fun j=>?_;by_cases hj:j<xs.length*5
 ·rw[List.getElem?_take_of_lt hj];have hi:j / 5<ys.length:=cq;have h6:=(hH j<|by rw[size_flatK];simpa[hl] using hj).1;rw[Xl,get_flatK _ _ _ _<|by simpa[hl] using hj]at h6;replace h6:ac (sortWorldK pU 5 w g 0 m ys.toArray os) g j ((pU (ys.toArray)[j / 5]!)[j%5]!):=h6;have h7:(putCells id 0 (flatK pU 5 ys.toArray) cur).toList[j]?=some ((pU (ys.toArray)[j / 5]!)[j%5]!):=by
   rw[<-h6];simp[World.cell?,hb]
  rw[h7];have e:j=j / 5*5+j%5:=cq;have h8:=xz (lZ ys) (j / 5) (by rw[mF];exact hi) (j%5) (Nat.mod_lt _ cq);rw[<-e]at h8;rw[h8];have h9:(ys.toArray)[j / 5]! = ys[j / 5]:=by rw[getElem!_pos ys.toArray _ (by simpa using hi)];simp
  have h10:(lZ ys)[j / 5]'(by rw[mF];exact hi)=ys[j / 5].1:=by simp[lZ]
  rw[h9,h10];have hl2:j%5<(Fc.row ys[j / 5].1).length:=Nat.mod_lt _ cq;show some ((Fc.row ys[j / 5].1)[j%5]!)=_;rw[WS hl2,getElem!_pos (Fc.row ys[j / 5].1) (j%5) hl2]
 rw[List.getElem?_eq_none (by rw[XC];omega),List.getElem?_eq_none cq]
def Py(base g cap:Nat)(fs:Q04)(w:af)(hf:∀f∈fs,f.fits)(hR:w.ownsRow base 52 5 (.slice (some<|am g) fs.length cap) fs.length<|iK fs)(hne:fs≠[])(h6:fs.length<=200000):
  Calls prog 57 #[.slice (some<|am g) fs.length cap,.func (.func 58) #[] #[]] w fun e w'=>e=.returned (.tuple #[])/\∃ys:List Fc,ys.Perm fs/\ys.Pairwise (fun x y=>Op.bytesLess (GX y) (GX x)=false)/\w'.ownsRow base 52 5 (.slice (some<|am g) fs.length cap) fs.length (iK ys)/\Chg (fun k=>k=g) w w':=by
 obtain⟨xs,hxs⟩:∃xs:List Ni,lZ xs=fs:=⟨fs.attach.map fun x=>⟨x.1,hf x.1 x.2⟩,by unfold lZ;rw[List.map_map];simp[Function.comp_def]⟩;subst hxs;rw[mF]at hR h6 ⊢;cases xs with
 | nil=>exact absurd rfl hne
 | cons x0 xs0 =>
  letI:Inhabited Ni:=⟨x0⟩
  have hg:=hR.lt g rfl;have eg:∀args w,(callFunc 58 args).run prog w=.ok (.enter 58 args) w:=enters_of func58 cw rfl;have hs:=AnyQ.slices_SortFunc Tryz.sortF 5 Tryz.isAgg52 Tryz.sizeOf52 pU (fun _=>rfl) (fun x v hv=>by simp[pU,Fc.row]at hv;rcases hv with rfl|rfl|rfl|rfl|rfl<;>rfl) Ww (by rw[Sz];exact Uu) 58 #[] g 0 cap (x0::xs0).toArray w eg (SA g 0 _ w) (Nj hR) hg.2 (by simp at h6⊢;omega)
  change Calls prog 57 _ _ _ at hs
  rw[Sz]at hs;refine hs.mono fun e w' ⟨he,d',n,os,hp,hso,hw⟩=>⟨he,lZ d'.toList,?_,?_,?_,?_⟩
  ·have:=hp.2.2;have h2:d'.toList.Perm (x0::xs0):=by simpa[Array.extract_eq_self_of_le,hp.1] using this
   exact h2.map _
  ·have hz:d'.size=xs0.length+1:=by simpa using hp.1
   unfold lZ;rw[List.pairwise_map,List.pairwise_iff_getElem];intro i j hi hj hij;have hi2:i<d'.size:=by simpa using hi
   have hj2:j<d'.size:=by simpa using hj
   have hlt:=hso i j (WO _) hij (by rw[hz]at hj2;simpa using hj2);rw[getElem!_pos d' j hj2,getElem!_pos d' i hi2]at hlt;exact hlt
  ·rw[hw];have hz:d'.toList.length=(x0::xs0).length:=by simpa using hp.1
   have:=Wu hR rfl hz n os;simpa using this
  rw[hw];exact Px w g 0 n d' os
def JG(p:Q02)(cap:Nat)(fv:Value)(w:af):
  Calls prog 206 #[.slice p 0 cap,.int .i64 0,.int .i64 0,fv] w (bx w<|.tuple #[]):=by
 go_enter func206,ntmps206;go_wp2_with fail;go_loopw[8] (fun i wr=>i=.int .i64 1/\wr=w) (fun _ _=>0);case atStart=>exact⟨rfl,rfl⟩
 obtain⟨rfl,rfl⟩:=hrel;go_wp2
 go_end0
 exact⟨rfl,rfl⟩
def SB(p:Q02)(cap:Nat)(lim:Int)(fv:Value)(w:af):
  Calls prog 137 #[.slice p 0 cap,.int .i64 0,.int .i64 0,.int .i64 lim,fv] w (bx w<|.tuple #[]):=by
 go_enter func137,ntmps137;go_wp2_with fail;go_loopw[1,2] (fun a b wr=>a=.int .i64 0/\b=.int .i64 0/\wr=w) (fun _ _ _=>0);case atStart=>exact⟨rfl,rfl,rfl⟩
 obtain⟨rfl,rfl,rfl⟩:=hrel;go_wp2_with fail;refine(JG p cap fv _).mono ?_;rintro e w1 ⟨rfl,rfl⟩;go_wp2;refine bodyPost_ret (results_none rfl _ _ _) rfl ?_;exact⟨rfl,rfl⟩
def Pz(p:Q02)(cap:Nat)(fv:Value)(w:af):
  Calls prog 57 #[.slice p 0 cap,fv] w (bx w<|.tuple #[]):=by
 go_enter func57,ntmps57;go_wp2_with fail;refine(Tryz.bits_Len 0 _ cq cq).mono ?_;rintro e w1 ⟨rfl,rfl⟩;go_wp2_with fail;refine(SB p cap _ fv _).mono ?_;rintro e w1 ⟨rfl,rfl⟩;go_wp2
 go_end0
 exact⟨rfl,rfl⟩
end Go.Proofs.YtojjoblnpldniaaGreat
namespace Go.Proofs.YtojjoblnpldniaaGreat
open ChangeShapes WideShapes ChangeAt RowKit
open Pl
attribute [local go_sem ↓] Go.wp_at_zero Go.wp_at_succ
end Go.Proofs.YtojjoblnpldniaaGreat
namespace Go.Proofs.YtojjoblnpldniaaGreat
set_option maxRecDepth 100000
set_option linter.unusedVariables false
open ChangeShapes WideShapes ChangeAt RowKit Maps
open Pl
def SC(x y:Fc):Bool:=gW x.a x.b x.r x.c x.d ⟨#[]⟩ y.a y.b y.r y.c y.d ⟨#[]⟩
open Go.Sort
def VI(x y:Fc){v:Bool}(h:(!Ou x y)=v)(w:af):
  (binOp .neq 52 (.agg<|cf x)<|.agg<|cf y).run prog w=.ok (.bool v) w:=by
 subst h;go_simp;unfold Ou
 (repeat' split)<;>simp_all
def DI(ad Yh:Q02)(cap cap':Nat)(ts:Q04)(w:af)(hlen:bh ts)(hs:Ao w ad ts)(hs':Ao w Yh ts):
  Calls prog 12 #[.slice ad ts.length cap,.slice Yh ts.length cap'] w (bj w<|.bool true):=by
 have HS:=oP hs;have HS':=oP hs';clear hs hs';have hnn:((ts.length:Int) != (ts.length:Int))=false:=ct;go_enter func12,ntmps12;go_wp2;go_loopw[5] (fun i wr=>∃k:Nat,k<=ts.length/\i=.int .i64 k/\O (ag w wr)) (fun i _=>ts.length-(intOf i).toNat);case atStart=>exact⟨0,WO _,rfl,WL _ _⟩
 obtain⟨k,hk,rfl,HB⟩:=hrel;have hk1:=bY k;by_cases hlt:k<ts.length
 ·have hk2:(k:Int)<(ts.length:Int):=cq;rcases HS.out.below HB.out with hnil|⟨b,off,rfl,hb,hr⟩
  ·rw[hnil]at hlt;simp at hlt
  rcases HS'.out.below HB.out with hnil|⟨b',off',rfl,hb',hr'⟩
  ·rw[hnil]at hlt;simp at hlt
  obtain⟨t0,t1,t2,t3,t4⟩:=hr k hlt;obtain⟨u0,u1,u2,u3,u4⟩:=hr' k hlt;have heq:=VI ts[k] ts[k] (v:=false) (by rw[Ca.2 rfl];rfl);replace t0:=cell_regrown t0;replace t1:=cell_regrown t1;replace t2:=cell_regrown t2;replace t3:=cell_regrown t3;replace t4:=cell_regrown t4;replace u0:=cell_regrown u0;replace u1:=cell_regrown u1;replace u2:=cell_regrown u2;replace u3:=cell_regrown u3;replace u4:=cell_regrown u4;clear hr hr';go_wp2_with fail;refine wp_region_quiet_below cw cw ?_
  repeat(go_big_quiet_step (fail))
  refine wpQuiet_nil ?_;rintro _ ⟨⟨dq,osq⟩,rfl⟩;have HB2:=oP<|HB.trans<|(below_regrown wr dq osq).mono HB.size;clear t0 t1 t2 t3 t4 u0 u1 u2 u3 u4 heq;go_wp2;go_roundw;case rel=>exact⟨k+1,cq,cx,HB2⟩
  simp[intOf]<;>omega
 go_wp2;go_ret;exact⟨rfl,HB⟩
def PD(B:Nat)(w:World)(ad:Q02)(L:Q05):Prop:=Sl w ad L/\(L≠[]->∃g,ad=some ⟨g,0,none⟩/\B<=g/\jV w g)
def JH{B:Nat}{w:af}{ad:Q02}{L:Q05}(h:L=[]):PD B w ad L:=⟨.inl h,fun k=>absurd h k⟩
def PD.mono{B B':Nat}{w:af}{ad:Q02}{L:Q05}(h:PD B w ad L)(hB:B'<=B):PD B' w ad L:=⟨h.1,fun k=>by obtain⟨g,e,h1,h2⟩:=h.2 k;exact⟨g,e,WR hB h1,h2⟩⟩
def VJ{P:Nat->Prop}(h:∃n,P n):∃n,P n/\∀m,P m->n<=m:=by
 obtain⟨n,hn⟩:=h
 induction n using Nat.strongRecOn with
 | ind n ih =>
  by_cases hx:∃m,m<n/\P m
  ·obtain⟨m,hm,hp⟩:=hx;exact ih m hm hp
  exact⟨n,hn,fun m hm=>Nat.le_of_not_lt fun hlt=>hx ⟨m,hlt,hm⟩⟩
def SE{ts:Q0b}(h:∃f,Sol ts f):∃f,Least ts f:=by
 have key:∀ k,∃ n:Nat,(∃ g,Sol ts g/\g k=(n:Int))/\∀ m:Nat,(∃ g,Sol ts g/\g k=(m:Int))->n<=m:=fun k=>VJ (by
  obtain⟨f,hf⟩:=h;exact⟨(f k).toNat,f,hf,by have:=hf.pos k;omega⟩)
 have low:∀k g,Sol ts g->(((key k).choose:Nat):Int)<=g k:=fun k g hg=>by
  have h1:=(key k).choose_spec.2 (g k).toNat ⟨g,hg,by have:=hg.pos k;omega⟩;have:=hg.pos k;omega
 refine⟨fun k=>(((key k).choose:Nat):Int),⟨fun k=>Int.natCast_nonneg _,fun k hk d hd=>?_⟩,fun k hk g hg=>low k g hg⟩;obtain⟨g,hg,e⟩:=(key k).choose_spec.1;have h1:=low (d.typ,d.rel) g hg;have h2:=hg.up k hk d hd;show(((key (d.typ,d.rel)).choose:Nat):Int)+stepOf d<=(((key k).choose:Nat):Int);rw[<-e];exact Int.le_trans (Int.add_le_add_right h1 _) h2
def UZ(ts:Q0b):∃st,aG ts=true->Least ts st:=by
 by_cases h:aG ts=true
 ·obtain⟨st,hst⟩:=SE (aM.1 h).2.2;exact⟨st,fun _=>hst⟩
 exact⟨fun _=>0,fun h2=>absurd h2 h⟩
end Go.Proofs.YtojjoblnpldniaaGreat
